import Derived.Deep.Cut
import Derived.Deep.CutBlock
import Derived.Test.YtaheffiglmglbaaGreatDoorKLb
/- Scan. -/
set_option maxHeartbeats 8000000
set_option maxRecDepth 20000
namespace Go.Proofs.YtaheffiglmglbaaGreatDoor
open Go.Proofs.Tryz
open Go.RowKit L7
def more (D:List (Tk × Nat)) (r:Except (Nat × Nat) (List (Tk × Nat))):Except (Nat × Nat) (List (Tk × Nat)):=match r with
 | .error e=>.error e
 | .ok l=>.ok (D++l)
theorem Zt0 (r:Except (Nat × Nat) (List (Tk × Nat))):more [] r=r:=by cases r <;> rfl
theorem ZvX (s:ByteArray) (p:Nat) (hp:p≤s.size):(ls s).drop (p + Zf1 ((ls s).drop p))=skip ((ls s).drop p)∧p + Zf1 ((ls s).drop p)≤s.size:=by
 have h1:=Zgp ((ls s).drop p)
 have h2:((ls s).drop p).length=s.size - p:=by rw [List.length_drop,ZaR]
 obtain ⟨q,hq,-⟩:=ZgM ((ls s).drop p)
 have h3:((ls s).drop p).length=q.length + (skip ((ls s).drop p)).length:=by
  conv=>lhs;rw [hq]
  rw [List.length_append]
 refine ⟨?_,by unfold Zf1;omega⟩
 rw [← List.drop_drop]
 have:Zf1 ((ls s).drop p)=q.length:=by unfold Zf1;omega
 rw [this]
 conv=>lhs;rw [hq]
 simp
theorem Zcx (s:ByteArray) (p m:Nat) (D:List (Tk × Nat)) (t:Tk) (r u:Bs) (hu:u=skip ((ls s).drop p)) (hd:(ls s).drop (p + m)=u) (ht:L7.tok u=.ok (t,r)) :
  more D (scan ((ls s).drop p))=more (D++[(t,s.size - (p + m))]) (scan ((ls s).drop (p + m + (u.length - r.length))))∧r.length < u.length∧u.length=s.size - (p + m):=by
 have hlt:=ZlL ht
 have hul:u.length=s.size - (p + m):=by rw [← hd,List.length_drop,ZaR]
 obtain ⟨x,hx,hs,-⟩:=Zi1 ht
 have hr:(ls s).drop (p + m + (u.length - r.length))=r:=by
  rw [← List.drop_drop,hd]
  have:u.length - r.length=x.length:=by
   have:u.length=x.length + r.length:=by
     conv=>lhs;rw [hs]
     rw [List.length_append]
   omega
  rw [this,hs];simp
 refine ⟨?_,hlt,hul⟩
 rw [hr,hu] at *
 rw [Zet ht,← hul]
 cases scan r <;> simp [more]
def Head (A:Option Addr):Prop:=A=none∨∃g,A=some ⟨g,0,none⟩
theorem Zjv:Head none:=.inl rfl
theorem Zul {w:World} {base e size n c m:Nat} {A:Option Addr} {xs:List Value} (h:w.ownsRow base e size (.slice A n c) m xs):Head A:=by
 rcases h.2 with ⟨h,_⟩ | ⟨g,cap,cur,h,_⟩
 ·cases h;exact .inl rfl
 ·cases h;exact .inr ⟨g,rfl⟩
theorem ZsH {w:World} {base e size n c:Nat} {A:Option Addr} {xs:List Value} (h:w.ownsRow base e size (.slice A n c) n xs):n≤c:=by
 rcases h.2 with ⟨h,h2⟩ | ⟨g,cap,cur,h,_,_,h3,_⟩
 ·omega
 ·cases h;exact h3
theorem Zno {R:Except (Nat × Nat) (List (Tk × Nat))} {D:List (Tk × Nat)} {n c:Nat} {A:Option Addr} (h:R=.ok D):Ending.returned (.tuple #[.slice A D.length c,.int .i64 0,.int .i64 0])=.returned (Zq6 R n A c):=by rw [h];rfl
theorem Zgr {R:Except (Nat × Nat) (List (Tk × Nat))} {n e k p:Nat} (h:R=.error (e,k)) (hp:n - k=p):Ending.returned (.tuple #[.slice none 0 0,.int .i64 (e:Int),.int .i64 (p:Int)])=.returned (Zq6 R n none 0):=by rw [h,← hp];rfl
theorem Zi0 (w:World) (top:Nat) {R:Except (Nat × Nat) (List (Tk × Nat))} {n:Nat} {e:Nat × Nat} (h:R=.error e):ToksIn w top none (offs n (okL R)):=by
 rw [h];intro k x hk;simp [okL,offs] at hk
theorem ZrC (n:Nat) (D:List (Tk × Nat)) (t:Tk) (p:Nat) (hp:p≤n):offs n (D++[(t,n - p)])=offs n D++[(t,(p:Int))]:=by
 simp [offs];omega
theorem Zi7 {s:ByteArray} {p:Nat} {D:List (Tk × Nat)} {u:Bs} {e:Nat} (hu:u=skip ((ls s).drop p)) (hn:u≠[]) (ht:L7.tok u=.error e):more D (scan ((ls s).drop p))=.error (e,u.length):=by
 rw [hu] at *
 rw [ZfL hn ht];rfl
theorem ZiG {w:World} {base n c:Nat} {A:Option Addr} {D:List (Tk × Nat)} {t:Tk} {p:Nat} {xs:List Value} (hp:p≤n) (h:w.ownsRow base 42 4 (.slice A (D.length + 1) c) (D.length + 1) (ZfA (offs n D)++xs)) (hx:xs=cells4 (t,(p:Int))) :
  w.ownsRow base 42 4 (.slice A (D++[(t,n - p)]).length c) (D++[(t,n - p)]).length (ZfA (offs n (D++[(t,n - p)]))):=by
 rw [ZrC _ _ _ _ hp,Zkc,← hx,List.length_append];exact h
theorem Znb {u:Bs} {e:Nat} (h:L7.tok u=.error e):((e:Int) != 0)=true:=by
 have:e≠0:=by
  rintro rfl
  cases u with
  | nil=>simp [L7.tok] at h
  | cons b r=>
   simp only [L7.tok] at h
   split at h
   ·cases h
   ·split at h
    ·unfold ZdA at h;split at h
     ·cases h
     ·split at h <;> cases h
    ·split at h
     ·unfold ZeN at h;split at h
      ·cases h
      ·split at h <;> cases h
     ·cases r with
      | nil=>simp only [Zbm] at h;split at h <;> cases h
      | cons c r=>
       simp only [Zbm] at h
       split at h
       ·cases h
       ·split at h <;> cases h
 simpa using this
theorem ZkP (s:ByteArray) (w:World) (hw:Lies w) (hs:s.size≤32768) :
  Calls prog 22 #[.string s] w fun e w'=>(∃A c,e=.returned (Zq6 (scan (ls s)) s.size A c)∧ToksIn w' w'.heap.size A (offs s.size (okL (scan (ls s))))∧Head A∧(okL (scan (ls s))).length≤c)∧Below w.heap.size w w':=by
 obtain ⟨i0,hi,hz0,hz1,hz2⟩:=info_parts info32
 have HI:=hid hi
 have HZ0:=hid hz0
 have HZ1:=hid hz1
 have HZ2:=hid hz2
 have HW:=hid hw
 clear hi hz0 hz1 hz2 hw
 have g0:decide ((32768:Int) < (s.size:Int))=false:=by simp;omega
 obtain ⟨R,hR⟩:∃R,R=scan (ls s):=⟨_,rfl⟩
 rw [← hR]
 have HR:Hid (R=more [] (scan ((ls s).drop 0))):=hid (by rw [hR,Zt0];rfl)
 clear hR
 go_enter func22,ntmps22
 go_wp2
 go_step3
 go_wp2
 go_step3
 go_wp2
 go_loopw [5,6] (fun v5 v6 wr=>∃(p:Nat) (D:List (Tk × Nat)) (A:Option Addr) (c:Nat),p≤s.size∧D.length≤p∧v6=.int .i64 p∧v5=.slice A D.length c∧Hid (R=more D (scan ((ls s).drop p)))∧
  Hid (wr.ownsRow w.heap.size 42 4 (.slice A D.length c) D.length (ZfA (offs s.size D)))∧Hid (Below w.heap.size w wr)) (fun _ v6 _=>s.size - (intOf v6).toNat)
 case atStart=>exact ⟨0,[],none,0,Nat.zero_le _,Nat.le_refl _,rfl,rfl,HR,hid (World.ownsRow_nil _ _ _ _),hid (Below.refl _ _)⟩
 case round=>
  clear HR
  obtain ⟨p,D,A,c,hp,hD,rfl,rfl,HR,HO,HB⟩:=hrel
  obtain ⟨hdrop,hpm⟩:=ZvX s p hp
  have hsz:=HB.out.size
  have SP:Hid (∀W,Calls prog 33 #[.string (s.extract p s.size)] W fun e w'=>e=.returned (.int .i64 (Zf1 ((ls s).drop p):Nat))∧W=w'):=hid (fun W=>by
   have:=ZkG (s.extract p s.size) W (by rw [Zca,Zq3];omega)
   rw [Zca,Zbc] at this
   rw [Zca]
   exact this)
  obtain ⟨m,hm⟩:∃m,m=Zf1 ((ls s).drop p):=⟨_,rfl⟩
  rw [← hm] at SP hdrop hpm
  clear hm
  obtain ⟨u,hu⟩:∃u,u=skip ((ls s).drop p):=⟨_,rfl⟩
  rw [← hu] at hdrop
  have hx0:s.extract (p + m) s.size=mk u:=by rw [Zca,hdrop]
  obtain ⟨x,hx⟩:∃x,x=mk u:=⟨_,rfl⟩
  rw [← hx] at hx0
  have hxs:x.size=u.length:=by rw [hx,ZfK]
  have hlx:ls x=u:=by rw [hx,Zbc]
  have hul:u.length=s.size - (p + m):=by rw [← hdrop,List.length_drop,ZaR]
  have hxsz:x.size≤32768:=by omega
  by_cases hn:u=[]
  ·have he:x.toList.isEmpty=true:=by rw [show x.toList=ls x by rw [ByteArray.toList_eq];rfl,hlx,hn];rfl
   have HR2:Hid (R=.ok D):=hid (by rw [HR.out,ZdD (by rw [← hu,hn])];simp [more])
   have hxl:=hid hlx
   have hxl2:=hid hxs
   have hxl3:=hid hul
   clear hlx hxs hul hn hdrop hu hx HR
   go_wp2_with (go_at_call 33;(with_reducible refine (SP.out _).mono ?_);rintro e w' ⟨rfl,rfl⟩)
   (try rw [Exit.noGoto_ret])
   go_ret3
   exact ⟨⟨A,c,Zno HR2.out,by rw [HR2.out];exact ToksIn.of_own (HO.out.alloc _),Zul HO.out,by rw [HR2.out];exact ZsH HO.out⟩,HB.out.alloc hsz _⟩
  ·obtain ⟨b,r,hbr⟩:∃b r,u=b::r:=by
    cases u with
    | nil=>exact absurd rfl hn
    | cons b r=>exact ⟨b,r,rfl⟩
   have he:x.toList.isEmpty=false:=by rw [show x.toList=ls x by rw [ByteArray.toList_eq];rfl,hlx,hbr];rfl
   have h0:1≤x.size:=by rw [hxs,hbr];simp
   have hxb:x[0]=b:=by
    have:=Zif x 0 h0
    rw [hlx,hbr] at this
    simpa using this.symm
   have IL:Hid (∀W,Calls prog 34 #[.int .u8 (x[0].toNat:Int)] W fun e w'=>e=.returned (.bool (Ziz b))∧W=w'):=hid (fun W=>by rw [hxb];exact ZgB b W)
   have ID:Hid (∀W,Calls prog 36 #[.int .u8 (x[0].toNat:Int)] W fun e w'=>e=.returned (.bool (ZcI b))∧W=w'):=hid (fun W=>by rw [hxb];exact Zho b W)
   have hq:((x[0].toNat:Int) == 34)=(b == 34):=by rw [hxb];exact (ZhP 34 b (by decide)).symm
   have hLw:Lies (wr.alloc (.cells #[.int .i64 0,.string ⟨#[]⟩,.int .i64 0,.int .i64 0] 42)):=(HW.out.on HB.out).on ((Below.refl _ _).alloc (Nat.le_refl _) _)
   have hlx2:ls x=b::r:=by rw [hlx,hbr]
   cases ha:Ziz b with
   | true=>
    rw [ha] at IL
    have ht:=Zs6 b r ha
    have C0:=Zoa x (wr.alloc (.cells #[.int .i64 0,.string ⟨#[]⟩,.int .i64 0,.int .i64 0] 42)) (by omega)
    rw [hlx2,← hbr] at C0
    rw [← hbr] at ht
    obtain ⟨hstep,hlt,-⟩:=Zcx s p m D _ _ u hu hdrop ht
    have HR2:Hid (R=more (D++[(⟨1,u.takeWhile Zdw,0⟩,s.size - (p + m))]) (scan ((ls s).drop (p + m + (u.length - (u.dropWhile Zdw).length))))):=hid (by rw [HR.out,hstep])
    have hadd:=ZuT Zdw u
    rw [show u.length - (u.dropWhile Zdw).length=(u.takeWhile Zdw).length by omega] at HR2
    obtain ⟨z,hz⟩:∃z,z=(u.takeWhile Zdw).length:=⟨_,rfl⟩
    obtain ⟨tt,htt⟩:∃tt,tt=u.takeWhile Zdw:=⟨_,rfl⟩
    rw [← hz,← htt] at HR2
    rw [← hz,← htt] at C0
    have hz1:1≤z:=by omega
    have hz2:p + m + z≤s.size:=by omega
    have C:Hid (Calls prog 35 #[.string x] (wr.alloc (.cells #[.int .i64 0,.string ⟨#[]⟩,.int .i64 0,.int .i64 0] 42)) fun e w'=>e=.returned (.tuple #[.agg #[.int .i64 1,.string (mk tt),.int .i64 0,.int .i64 0],.int .i64 (z:Nat)])∧Below (wr.alloc (.cells #[.int .i64 0,.string ⟨#[]⟩,.int .i64 0,.int .i64 0] 42)).heap.size (wr.alloc (.cells #[.int .i64 0,.string ⟨#[]⟩,.int .i64 0,.int .i64 0] 42)) w'):=hid C0
    clear C0 hz htt hstep hlt hadd ht hq hlx2 hxb hbr hlx hxs hul hn hu hdrop hx HR hLw ha ID
    go_wp2_with (first
      | (go_at_call 33;(with_reducible refine (SP.out _).mono ?_);rintro e w' ⟨rfl,rfl⟩)
      | (go_at_call 34;(with_reducible refine (IL.out _).mono ?_);rintro e w' ⟨rfl,rfl⟩)
      | (go_at_call 36;(with_reducible refine (ID.out _).mono ?_);rintro e w' ⟨rfl,rfl⟩))
    refine (C.out).mono ?_
    rintro e w2 ⟨rfl,hb2⟩
    have J2:Is w2 wr.heap.size 42 #[.int .i64 0,.string ⟨#[]⟩,.int .i64 0,.int .i64 0]:=(Is.fresh wr 42 _).below hb2 (by simp)
    have y0:=J2.at_ 0
    have y1:=J2.at_ 1
    have y2:=J2.at_ 2
    have y3:=J2.at_ 3
    have fy0:=J2.open_ 0
    have fy1:=J2.open_ 1
    have fy2:=J2.open_ 2
    have fy3:=J2.open_ 3
    have hzl:=J2.lt
    simp at y0 y1 y2 y3
    have B2:=hid (((Below.refl wr.heap.size wr).alloc (Nat.le_refl _) _).trans (hb2.mono (by simp)))
    clear hb2
    go_upto_region 18 with (fail)
    have B3:=hid ((((B2.out.setCell (p:=⟨wr.heap.size,0,none⟩) (by simp) (.int .i64 1)).setCell (p:=⟨wr.heap.size,1,none⟩) (by simp) (.string (mk tt))).setCell (p:=⟨wr.heap.size,2,none⟩) (by simp) (.int .i64 0)).setCell (p:=⟨wr.heap.size,3,none⟩) (by simp) (.int .i64 0))
    have K3:Hid (Is _ wr.heap.size 42 #[.int .i64 1,.string (mk tt),.int .i64 0,.int .i64 0]):=hid ((((J2.put 0 (.int .i64 1)).put 1 (.string (mk tt))).put 2 (.int .i64 0)).put 3 (.int .i64 0))
    generalize World.setCell _ ⟨wr.heap.size,3,none⟩ _=W3 at B3 K3 ⊢
    have q3:=K3.out.at_ 3
    have f3:=K3.out.open_ 3
    have h3:=K3.out.lt
    simp at q3
    clear y0 y1 y2 y3 fy0 fy1 fy2 fy3 hzl J2 B2
    go_upto_region 21 with (fail)
    have B4:=hid (B3.out.setCell (p:=⟨wr.heap.size,3,none⟩) (by simp) (.int .i64 ((p:Int) + (m:Int))))
    have K4:Hid (Is _ wr.heap.size 42 #[.int .i64 1,.string (mk tt),.int .i64 0,.int .i64 ((p:Int) + (m:Int))]):=hid (K3.out.put 3 (.int .i64 ((p:Int) + (m:Int))))
    generalize World.setCell _ ⟨wr.heap.size,3,none⟩ _=W4 at B4 K4 ⊢
    have y0:=K4.out.at_ 0
    have y1:=K4.out.at_ 1
    have y2:=K4.out.at_ 2
    have y3:=K4.out.at_ 3
    have h4:=K4.out.lt
    simp at y0 y1 y2 y3
    clear q3 f3 h3 B3 K3
    have HB5:=hid ((ZeS HO.out B4.out).alloc (.cells #[.int .i64 1,.string (mk tt),.int .i64 0,.int .i64 ((p:Int) + (m:Int))] 42))
    have HN:=hid (World.news_of_block (cs:=#[.int .i64 1,.string (mk tt),.int .i64 0,.int .i64 ((p:Int) + (m:Int))]) (t:=42) (fr:=(0,0)) (heap_alloc_new W4 _))
    have hsz4:w.heap.size≤W4.heap.size:=by omega
    go_wp2_with (at_builtin;refine wpList_append_own _ rfl (.tmp 67) (.tmp 69) 28 rfl w.heap.size 42 i0 _ 4 40 underlying28 HI.out HZ0.out HZ1.out HZ2.out rfl (by decide) (.slice A D.length c) D.length (ZfA (offs s.size D)) rfl HB5.out ⟨W4.heap.size,0,none⟩ 1 1 [.int .i64 1,.string (mk tt),.int .i64 0,.int .i64 ((p:Int) + (m:Int))] rfl rfl HN.out ?c1 ?c3 ?c4 ?c5 ?_)
    case c1=>first | exact ⟨rfl,rfl,rfl,rfl⟩ | (intro v hv;simp at hv;rcases hv with rfl | rfl | rfl | rfl <;> rfl)
    case c3=>simp only [maxLen];omega
    case c4=>omega
    case c5=>first | omega | (simp;omega)
    intro v6 w6 hown6 hgr6 _
    obtain ⟨g6,cap6,rfl,-⟩:=hown6.form (by omega)
    have B6:=hid (((HB.out.trans (B4.out.mono hsz)).alloc hsz4 (.cells #[.int .i64 1,.string (mk tt),.int .i64 0,.int .i64 ((p:Int) + (m:Int))] 42)).grown hgr6 (by simp;omega) (fun j hj=>(HO.out.lt j hj).1))
    have O6:=hid hown6
    clear hown6 hgr6 HB5 HN y0 y1 y2 y3 h4 B4 K4
    go_wp2
    go_roundw
    case rel=>exact ⟨p + m + z,D++[(⟨1,tt,0⟩,s.size - (p + m))],some ⟨g6,0,none⟩,cap6,by omega,by simp;omega,by go_num,by rw [List.length_append];rfl,HR2,hid (ZiG hpm O6.out rfl),B6⟩
    case measure=>simp [intOf];omega
   | false=>
    rw [ha] at IL
    cases hd:ZcI b with
    | true=>
     rw [hd] at ID
     have C0:=Zqh x b r hlx2 hd (wr.alloc (.cells #[.int .i64 0,.string ⟨#[]⟩,.int .i64 0,.int .i64 0] 42)) hLw (by omega)
     rw [← Zvu b r ha hd,← hbr] at C0
     cases ht:L7.tok u with
     | ok y=>
      obtain ⟨⟨tk,tt,tn⟩,r2⟩:=y
      rw [ht] at C0
      obtain ⟨hstep,hlt,-⟩:=Zcx s p m D _ _ u hu hdrop ht
      have HR2:Hid (R=more (D++[(⟨tk,tt,tn⟩,s.size - (p + m))]) (scan ((ls s).drop (p + m + (u.length - r2.length))))):=hid (by rw [HR.out,hstep])
      rw [show x.size=u.length from hxs] at C0
      obtain ⟨z,hz⟩:∃z,z=u.length - r2.length:=⟨_,rfl⟩
      rw [← hz] at HR2
      have C:Hid (Calls prog 37 #[.string x] (wr.alloc (.cells #[.int .i64 0,.string ⟨#[]⟩,.int .i64 0,.int .i64 0] 42)) fun e w'=>e=.returned (.tuple #[.agg #[.int .i64 tk,.string (mk tt),.int .i64 tn,.int .i64 0],.int .i64 (z:Nat),.int .i64 0])∧Below (wr.alloc (.cells #[.int .i64 0,.string ⟨#[]⟩,.int .i64 0,.int .i64 0] 42)).heap.size (wr.alloc (.cells #[.int .i64 0,.string ⟨#[]⟩,.int .i64 0,.int .i64 0] 42)) w'):=hid (by rw [hz];exact C0)
      have hz1:1≤z:=by omega
      have hz2:p + m + z≤s.size:=by omega
      clear C0 hz hstep hlt ht hq hlx2 hxb hbr hlx hxs hul hn hu hdrop hx HR hLw ha hd
      go_wp2_with (first
      | (go_at_call 33;(with_reducible refine (SP.out _).mono ?_);rintro e w' ⟨rfl,rfl⟩)
      | (go_at_call 34;(with_reducible refine (IL.out _).mono ?_);rintro e w' ⟨rfl,rfl⟩)
      | (go_at_call 36;(with_reducible refine (ID.out _).mono ?_);rintro e w' ⟨rfl,rfl⟩))
      refine (C.out).mono ?_
      rintro e w2 ⟨rfl,hb2⟩
      have J2:Is w2 wr.heap.size 42 #[.int .i64 0,.string ⟨#[]⟩,.int .i64 0,.int .i64 0]:=(Is.fresh wr 42 _).below hb2 (by simp)
      have y0:=J2.at_ 0
      have y1:=J2.at_ 1
      have y2:=J2.at_ 2
      have y3:=J2.at_ 3
      have fy0:=J2.open_ 0
      have fy1:=J2.open_ 1
      have fy2:=J2.open_ 2
      have fy3:=J2.open_ 3
      have hzl:=J2.lt
      simp at y0 y1 y2 y3
      have B2:=hid (((Below.refl wr.heap.size wr).alloc (Nat.le_refl _) _).trans (hb2.mono (by simp)))
      clear hb2
      go_upto_region 18 with (fail)
      have B3:=hid ((((B2.out.setCell (p:=⟨wr.heap.size,0,none⟩) (by simp) (.int .i64 tk)).setCell (p:=⟨wr.heap.size,1,none⟩) (by simp) (.string (mk tt))).setCell (p:=⟨wr.heap.size,2,none⟩) (by simp) (.int .i64 tn)).setCell (p:=⟨wr.heap.size,3,none⟩) (by simp) (.int .i64 0))
      have K3:Hid (Is _ wr.heap.size 42 #[.int .i64 tk,.string (mk tt),.int .i64 tn,.int .i64 0]):=hid ((((J2.put 0 (.int .i64 tk)).put 1 (.string (mk tt))).put 2 (.int .i64 tn)).put 3 (.int .i64 0))
      generalize World.setCell _ ⟨wr.heap.size,3,none⟩ _=W3 at B3 K3 ⊢
      have q3:=K3.out.at_ 3
      have f3:=K3.out.open_ 3
      have h3:=K3.out.lt
      simp at q3
      clear y0 y1 y2 y3 fy0 fy1 fy2 fy3 hzl J2 B2
      go_upto_region 21 with (fail)
      have B4:=hid (B3.out.setCell (p:=⟨wr.heap.size,3,none⟩) (by simp) (.int .i64 ((p:Int) + (m:Int))))
      have K4:Hid (Is _ wr.heap.size 42 #[.int .i64 tk,.string (mk tt),.int .i64 tn,.int .i64 ((p:Int) + (m:Int))]):=hid (K3.out.put 3 (.int .i64 ((p:Int) + (m:Int))))
      generalize World.setCell _ ⟨wr.heap.size,3,none⟩ _=W4 at B4 K4 ⊢
      have y0:=K4.out.at_ 0
      have y1:=K4.out.at_ 1
      have y2:=K4.out.at_ 2
      have y3:=K4.out.at_ 3
      have h4:=K4.out.lt
      simp at y0 y1 y2 y3
      clear q3 f3 h3 B3 K3
      have HB5:=hid ((ZeS HO.out B4.out).alloc (.cells #[.int .i64 tk,.string (mk tt),.int .i64 tn,.int .i64 ((p:Int) + (m:Int))] 42))
      have HN:=hid (World.news_of_block (cs:=#[.int .i64 tk,.string (mk tt),.int .i64 tn,.int .i64 ((p:Int) + (m:Int))]) (t:=42) (fr:=(0,0)) (heap_alloc_new W4 _))
      have hsz4:w.heap.size≤W4.heap.size:=by omega
      go_wp2_with (at_builtin;refine wpList_append_own _ rfl (.tmp 67) (.tmp 69) 28 rfl w.heap.size 42 i0 _ 4 40 underlying28 HI.out HZ0.out HZ1.out HZ2.out rfl (by decide) (.slice A D.length c) D.length (ZfA (offs s.size D)) rfl HB5.out ⟨W4.heap.size,0,none⟩ 1 1 [.int .i64 tk,.string (mk tt),.int .i64 tn,.int .i64 ((p:Int) + (m:Int))] rfl rfl HN.out ?c1 ?c3 ?c4 ?c5 ?_)
      case c1=>first | exact ⟨rfl,rfl,rfl,rfl⟩ | (intro v hv;simp at hv;rcases hv with rfl | rfl | rfl | rfl <;> rfl)
      case c3=>simp only [maxLen];omega
      case c4=>omega
      case c5=>first | omega | (simp;omega)
      intro v6 w6 hown6 hgr6 _
      obtain ⟨g6,cap6,rfl,-⟩:=hown6.form (by omega)
      have B6:=hid (((HB.out.trans (B4.out.mono hsz)).alloc hsz4 (.cells #[.int .i64 tk,.string (mk tt),.int .i64 tn,.int .i64 ((p:Int) + (m:Int))] 42)).grown hgr6 (by simp;omega) (fun j hj=>(HO.out.lt j hj).1))
      have O6:=hid hown6
      clear hown6 hgr6 HB5 HN y0 y1 y2 y3 h4 B4 K4
      go_wp2
      go_roundw
      case rel=>exact ⟨p + m + z,D++[(⟨tk,tt,tn⟩,s.size - (p + m))],some ⟨g6,0,none⟩,cap6,by omega,by simp;omega,by go_num,by rw [List.length_append];rfl,HR2,hid (ZiG hpm O6.out rfl),B6⟩
      case measure=>simp [intOf];omega
     | error er=>
      rw [ht] at C0
      have hne:((er:Int) != 0)=true:=Znb ht
      have HR2:Hid (R=.error (er,u.length)):=hid (by rw [HR.out];exact Zi7 hu hn ht)
      have HP:Hid (s.size - u.length=p + m):=hid (by omega)
      have C:Hid (Calls prog 37 #[.string x] (wr.alloc (.cells #[.int .i64 0,.string ⟨#[]⟩,.int .i64 0,.int .i64 0] 42)) fun e w'=>e=.returned (.tuple #[.agg #[.int .i64 0,.string ⟨#[]⟩,.int .i64 0,.int .i64 0],.int .i64 0,.int .i64 (er:Nat)])∧Below (wr.alloc (.cells #[.int .i64 0,.string ⟨#[]⟩,.int .i64 0,.int .i64 0] 42)).heap.size (wr.alloc (.cells #[.int .i64 0,.string ⟨#[]⟩,.int .i64 0,.int .i64 0] 42)) w'):=hid C0
      clear C0 ht hq hlx2 hxb hbr hlx hxs hul hn hu hdrop hx HR hLw ha hd
      go_wp2_with (first
      | (go_at_call 33;(with_reducible refine (SP.out _).mono ?_);rintro e w' ⟨rfl,rfl⟩)
      | (go_at_call 34;(with_reducible refine (IL.out _).mono ?_);rintro e w' ⟨rfl,rfl⟩)
      | (go_at_call 36;(with_reducible refine (ID.out _).mono ?_);rintro e w' ⟨rfl,rfl⟩))
      refine (C.out).mono ?_
      rintro e w2 ⟨rfl,hb2⟩
      have J2:Is w2 wr.heap.size 42 #[.int .i64 0,.string ⟨#[]⟩,.int .i64 0,.int .i64 0]:=(Is.fresh wr 42 _).below hb2 (by simp)
      have y0:=J2.at_ 0
      have y1:=J2.at_ 1
      have y2:=J2.at_ 2
      have y3:=J2.at_ 3
      have fy0:=J2.open_ 0
      have fy1:=J2.open_ 1
      have fy2:=J2.open_ 2
      have fy3:=J2.open_ 3
      have hzl:=J2.lt
      simp at y0 y1 y2 y3
      have B2:=hid (((Below.refl wr.heap.size wr).alloc (Nat.le_refl _) _).trans (hb2.mono (by simp)))
      clear hb2
      go_upto_region 18 with (fail)
      have B3:=hid ((((B2.out.setCell (p:=⟨wr.heap.size,0,none⟩) (by simp) (.int .i64 0)).setCell (p:=⟨wr.heap.size,1,none⟩) (by simp) (.string ⟨#[]⟩)).setCell (p:=⟨wr.heap.size,2,none⟩) (by simp) (.int .i64 0)).setCell (p:=⟨wr.heap.size,3,none⟩) (by simp) (.int .i64 0))
      have K3:Hid (Is _ wr.heap.size 42 #[.int .i64 0,.string ⟨#[]⟩,.int .i64 0,.int .i64 0]):=hid ((((J2.put 0 (.int .i64 0)).put 1 (.string ⟨#[]⟩)).put 2 (.int .i64 0)).put 3 (.int .i64 0))
      generalize World.setCell _ ⟨wr.heap.size,3,none⟩ _=W3 at B3 K3 ⊢
      have q3:=K3.out.at_ 3
      have f3:=K3.out.open_ 3
      have h3:=K3.out.lt
      simp at q3
      clear y0 y1 y2 y3 fy0 fy1 fy2 fy3 hzl J2 B2
      have B4:=hid (HB.out.trans (B3.out.mono hsz))
      clear q3 f3 h3 B3 K3
      go_wp2
      (try rw [Exit.noGoto_ret])
      go_ret3
      exact ⟨⟨none,0,Zgr HR2.out HP.out,Zi0 _ _ HR2.out,Zjv,by rw [HR2.out];exact Nat.le_refl 0⟩,B4.out⟩
    | false=>
     rw [hd] at ID
     by_cases h34:b=34
     ·have hq1:((x[0].toNat:Int) == 34)=true:=by rw [hq,h34];rfl
      subst h34
      have C0:=Zn9 x r hlx2 (wr.alloc (.cells #[.int .i64 0,.string ⟨#[]⟩,.int .i64 0,.int .i64 0] 42)) (by omega)
      rw [← Zvq r,← hbr] at C0
      cases ht:L7.tok u with
      | ok y=>
       obtain ⟨⟨tk,tt,tn⟩,r2⟩:=y
       rw [ht] at C0
       obtain ⟨hstep,hlt,-⟩:=Zcx s p m D _ _ u hu hdrop ht
       have HR2:Hid (R=more (D++[(⟨tk,tt,tn⟩,s.size - (p + m))]) (scan ((ls s).drop (p + m + (u.length - r2.length))))):=hid (by rw [HR.out,hstep])
       rw [show x.size=u.length from hxs] at C0
       obtain ⟨z,hz⟩:∃z,z=u.length - r2.length:=⟨_,rfl⟩
       rw [← hz] at HR2
       have C:Hid (Calls prog 38 #[.string x] (wr.alloc (.cells #[.int .i64 0,.string ⟨#[]⟩,.int .i64 0,.int .i64 0] 42)) fun e w'=>e=.returned (.tuple #[.agg #[.int .i64 tk,.string (mk tt),.int .i64 tn,.int .i64 0],.int .i64 (z:Nat),.int .i64 0])∧Below (wr.alloc (.cells #[.int .i64 0,.string ⟨#[]⟩,.int .i64 0,.int .i64 0] 42)).heap.size (wr.alloc (.cells #[.int .i64 0,.string ⟨#[]⟩,.int .i64 0,.int .i64 0] 42)) w'):=hid (by rw [hz];exact C0)
       have hz1:1≤z:=by omega
       have hz2:p + m + z≤s.size:=by omega
       clear C0 hz hstep hlt ht hq hlx2 hxb hbr hlx hxs hul hn hu hdrop hx HR hLw ha hd
       go_wp2_with (first
      | (go_at_call 33;(with_reducible refine (SP.out _).mono ?_);rintro e w' ⟨rfl,rfl⟩)
      | (go_at_call 34;(with_reducible refine (IL.out _).mono ?_);rintro e w' ⟨rfl,rfl⟩)
      | (go_at_call 36;(with_reducible refine (ID.out _).mono ?_);rintro e w' ⟨rfl,rfl⟩))
       refine (C.out).mono ?_
       rintro e w2 ⟨rfl,hb2⟩
       have J2:Is w2 wr.heap.size 42 #[.int .i64 0,.string ⟨#[]⟩,.int .i64 0,.int .i64 0]:=(Is.fresh wr 42 _).below hb2 (by simp)
       have y0:=J2.at_ 0
       have y1:=J2.at_ 1
       have y2:=J2.at_ 2
       have y3:=J2.at_ 3
       have fy0:=J2.open_ 0
       have fy1:=J2.open_ 1
       have fy2:=J2.open_ 2
       have fy3:=J2.open_ 3
       have hzl:=J2.lt
       simp at y0 y1 y2 y3
       have B2:=hid (((Below.refl wr.heap.size wr).alloc (Nat.le_refl _) _).trans (hb2.mono (by simp)))
       clear hb2
       go_upto_region 18 with (fail)
       have B3:=hid ((((B2.out.setCell (p:=⟨wr.heap.size,0,none⟩) (by simp) (.int .i64 tk)).setCell (p:=⟨wr.heap.size,1,none⟩) (by simp) (.string (mk tt))).setCell (p:=⟨wr.heap.size,2,none⟩) (by simp) (.int .i64 tn)).setCell (p:=⟨wr.heap.size,3,none⟩) (by simp) (.int .i64 0))
       have K3:Hid (Is _ wr.heap.size 42 #[.int .i64 tk,.string (mk tt),.int .i64 tn,.int .i64 0]):=hid ((((J2.put 0 (.int .i64 tk)).put 1 (.string (mk tt))).put 2 (.int .i64 tn)).put 3 (.int .i64 0))
       generalize World.setCell _ ⟨wr.heap.size,3,none⟩ _=W3 at B3 K3 ⊢
       have q3:=K3.out.at_ 3
       have f3:=K3.out.open_ 3
       have h3:=K3.out.lt
       simp at q3
       clear y0 y1 y2 y3 fy0 fy1 fy2 fy3 hzl J2 B2
       go_upto_region 21 with (fail)
       have B4:=hid (B3.out.setCell (p:=⟨wr.heap.size,3,none⟩) (by simp) (.int .i64 ((p:Int) + (m:Int))))
       have K4:Hid (Is _ wr.heap.size 42 #[.int .i64 tk,.string (mk tt),.int .i64 tn,.int .i64 ((p:Int) + (m:Int))]):=hid (K3.out.put 3 (.int .i64 ((p:Int) + (m:Int))))
       generalize World.setCell _ ⟨wr.heap.size,3,none⟩ _=W4 at B4 K4 ⊢
       have y0:=K4.out.at_ 0
       have y1:=K4.out.at_ 1
       have y2:=K4.out.at_ 2
       have y3:=K4.out.at_ 3
       have h4:=K4.out.lt
       simp at y0 y1 y2 y3
       clear q3 f3 h3 B3 K3
       have HB5:=hid ((ZeS HO.out B4.out).alloc (.cells #[.int .i64 tk,.string (mk tt),.int .i64 tn,.int .i64 ((p:Int) + (m:Int))] 42))
       have HN:=hid (World.news_of_block (cs:=#[.int .i64 tk,.string (mk tt),.int .i64 tn,.int .i64 ((p:Int) + (m:Int))]) (t:=42) (fr:=(0,0)) (heap_alloc_new W4 _))
       have hsz4:w.heap.size≤W4.heap.size:=by omega
       go_wp2_with (at_builtin;refine wpList_append_own _ rfl (.tmp 67) (.tmp 69) 28 rfl w.heap.size 42 i0 _ 4 40 underlying28 HI.out HZ0.out HZ1.out HZ2.out rfl (by decide) (.slice A D.length c) D.length (ZfA (offs s.size D)) rfl HB5.out ⟨W4.heap.size,0,none⟩ 1 1 [.int .i64 tk,.string (mk tt),.int .i64 tn,.int .i64 ((p:Int) + (m:Int))] rfl rfl HN.out ?c1 ?c3 ?c4 ?c5 ?_)
       case c1=>first | exact ⟨rfl,rfl,rfl,rfl⟩ | (intro v hv;simp at hv;rcases hv with rfl | rfl | rfl | rfl <;> rfl)
       case c3=>simp only [maxLen];omega
       case c4=>omega
       case c5=>first | omega | (simp;omega)
       intro v6 w6 hown6 hgr6 _
       obtain ⟨g6,cap6,rfl,-⟩:=hown6.form (by omega)
       have B6:=hid (((HB.out.trans (B4.out.mono hsz)).alloc hsz4 (.cells #[.int .i64 tk,.string (mk tt),.int .i64 tn,.int .i64 ((p:Int) + (m:Int))] 42)).grown hgr6 (by simp;omega) (fun j hj=>(HO.out.lt j hj).1))
       have O6:=hid hown6
       clear hown6 hgr6 HB5 HN y0 y1 y2 y3 h4 B4 K4
       go_wp2
       go_roundw
       case rel=>exact ⟨p + m + z,D++[(⟨tk,tt,tn⟩,s.size - (p + m))],some ⟨g6,0,none⟩,cap6,by omega,by simp;omega,by go_num,by rw [List.length_append];rfl,HR2,hid (ZiG hpm O6.out rfl),B6⟩
       case measure=>simp [intOf];omega
      | error er=>
       rw [ht] at C0
       have hne:((er:Int) != 0)=true:=Znb ht
       have HR2:Hid (R=.error (er,u.length)):=hid (by rw [HR.out];exact Zi7 hu hn ht)
       have HP:Hid (s.size - u.length=p + m):=hid (by omega)
       have C:Hid (Calls prog 38 #[.string x] (wr.alloc (.cells #[.int .i64 0,.string ⟨#[]⟩,.int .i64 0,.int .i64 0] 42)) fun e w'=>e=.returned (.tuple #[.agg #[.int .i64 0,.string ⟨#[]⟩,.int .i64 0,.int .i64 0],.int .i64 0,.int .i64 (er:Nat)])∧Below (wr.alloc (.cells #[.int .i64 0,.string ⟨#[]⟩,.int .i64 0,.int .i64 0] 42)).heap.size (wr.alloc (.cells #[.int .i64 0,.string ⟨#[]⟩,.int .i64 0,.int .i64 0] 42)) w'):=hid C0
       clear C0 ht hq hlx2 hxb hbr hlx hxs hul hn hu hdrop hx HR hLw ha hd
       go_wp2_with (first
      | (go_at_call 33;(with_reducible refine (SP.out _).mono ?_);rintro e w' ⟨rfl,rfl⟩)
      | (go_at_call 34;(with_reducible refine (IL.out _).mono ?_);rintro e w' ⟨rfl,rfl⟩)
      | (go_at_call 36;(with_reducible refine (ID.out _).mono ?_);rintro e w' ⟨rfl,rfl⟩))
       refine (C.out).mono ?_
       rintro e w2 ⟨rfl,hb2⟩
       have J2:Is w2 wr.heap.size 42 #[.int .i64 0,.string ⟨#[]⟩,.int .i64 0,.int .i64 0]:=(Is.fresh wr 42 _).below hb2 (by simp)
       have y0:=J2.at_ 0
       have y1:=J2.at_ 1
       have y2:=J2.at_ 2
       have y3:=J2.at_ 3
       have fy0:=J2.open_ 0
       have fy1:=J2.open_ 1
       have fy2:=J2.open_ 2
       have fy3:=J2.open_ 3
       have hzl:=J2.lt
       simp at y0 y1 y2 y3
       have B2:=hid (((Below.refl wr.heap.size wr).alloc (Nat.le_refl _) _).trans (hb2.mono (by simp)))
       clear hb2
       go_upto_region 18 with (fail)
       have B3:=hid ((((B2.out.setCell (p:=⟨wr.heap.size,0,none⟩) (by simp) (.int .i64 0)).setCell (p:=⟨wr.heap.size,1,none⟩) (by simp) (.string ⟨#[]⟩)).setCell (p:=⟨wr.heap.size,2,none⟩) (by simp) (.int .i64 0)).setCell (p:=⟨wr.heap.size,3,none⟩) (by simp) (.int .i64 0))
       have K3:Hid (Is _ wr.heap.size 42 #[.int .i64 0,.string ⟨#[]⟩,.int .i64 0,.int .i64 0]):=hid ((((J2.put 0 (.int .i64 0)).put 1 (.string ⟨#[]⟩)).put 2 (.int .i64 0)).put 3 (.int .i64 0))
       generalize World.setCell _ ⟨wr.heap.size,3,none⟩ _=W3 at B3 K3 ⊢
       have q3:=K3.out.at_ 3
       have f3:=K3.out.open_ 3
       have h3:=K3.out.lt
       simp at q3
       clear y0 y1 y2 y3 fy0 fy1 fy2 fy3 hzl J2 B2
       have B4:=hid (HB.out.trans (B3.out.mono hsz))
       clear q3 f3 h3 B3 K3
       go_wp2
       (try rw [Exit.noGoto_ret])
       go_ret3
       exact ⟨⟨none,0,Zgr HR2.out HP.out,Zi0 _ _ HR2.out,Zjv,by rw [HR2.out];exact Nat.le_refl 0⟩,B4.out⟩
     ·have hq1:((x[0].toNat:Int) == 34)=false:=by rw [hq];simpa using h34
      have C0:=Zob x b r hlx2 (wr.alloc (.cells #[.int .i64 0,.string ⟨#[]⟩,.int .i64 0,.int .i64 0] 42)) (by omega)
      rw [← Zs7 b r ha hd h34,← hbr] at C0
      cases ht:L7.tok u with
      | ok y=>
       obtain ⟨⟨tk,tt,tn⟩,r2⟩:=y
       rw [ht] at C0
       obtain ⟨hstep,hlt,-⟩:=Zcx s p m D _ _ u hu hdrop ht
       have HR2:Hid (R=more (D++[(⟨tk,tt,tn⟩,s.size - (p + m))]) (scan ((ls s).drop (p + m + (u.length - r2.length))))):=hid (by rw [HR.out,hstep])
       rw [show x.size=u.length from hxs] at C0
       obtain ⟨z,hz⟩:∃z,z=u.length - r2.length:=⟨_,rfl⟩
       rw [← hz] at HR2
       have C:Hid (Calls prog 39 #[.string x] (wr.alloc (.cells #[.int .i64 0,.string ⟨#[]⟩,.int .i64 0,.int .i64 0] 42)) fun e w'=>e=.returned (.tuple #[.agg #[.int .i64 tk,.string (mk tt),.int .i64 tn,.int .i64 0],.int .i64 (z:Nat),.int .i64 0])∧Below (wr.alloc (.cells #[.int .i64 0,.string ⟨#[]⟩,.int .i64 0,.int .i64 0] 42)).heap.size (wr.alloc (.cells #[.int .i64 0,.string ⟨#[]⟩,.int .i64 0,.int .i64 0] 42)) w'):=hid (by rw [hz];exact C0)
       have hz1:1≤z:=by omega
       have hz2:p + m + z≤s.size:=by omega
       clear C0 hz hstep hlt ht hq hlx2 hxb hbr hlx hxs hul hn hu hdrop hx HR hLw ha hd h34
       go_wp2_with (first
      | (go_at_call 33;(with_reducible refine (SP.out _).mono ?_);rintro e w' ⟨rfl,rfl⟩)
      | (go_at_call 34;(with_reducible refine (IL.out _).mono ?_);rintro e w' ⟨rfl,rfl⟩)
      | (go_at_call 36;(with_reducible refine (ID.out _).mono ?_);rintro e w' ⟨rfl,rfl⟩))
       refine (C.out).mono ?_
       rintro e w2 ⟨rfl,hb2⟩
       have J2:Is w2 wr.heap.size 42 #[.int .i64 0,.string ⟨#[]⟩,.int .i64 0,.int .i64 0]:=(Is.fresh wr 42 _).below hb2 (by simp)
       have y0:=J2.at_ 0
       have y1:=J2.at_ 1
       have y2:=J2.at_ 2
       have y3:=J2.at_ 3
       have fy0:=J2.open_ 0
       have fy1:=J2.open_ 1
       have fy2:=J2.open_ 2
       have fy3:=J2.open_ 3
       have hzl:=J2.lt
       simp at y0 y1 y2 y3
       have B2:=hid (((Below.refl wr.heap.size wr).alloc (Nat.le_refl _) _).trans (hb2.mono (by simp)))
       clear hb2
       go_upto_region 18 with (fail)
       have B3:=hid ((((B2.out.setCell (p:=⟨wr.heap.size,0,none⟩) (by simp) (.int .i64 tk)).setCell (p:=⟨wr.heap.size,1,none⟩) (by simp) (.string (mk tt))).setCell (p:=⟨wr.heap.size,2,none⟩) (by simp) (.int .i64 tn)).setCell (p:=⟨wr.heap.size,3,none⟩) (by simp) (.int .i64 0))
       have K3:Hid (Is _ wr.heap.size 42 #[.int .i64 tk,.string (mk tt),.int .i64 tn,.int .i64 0]):=hid ((((J2.put 0 (.int .i64 tk)).put 1 (.string (mk tt))).put 2 (.int .i64 tn)).put 3 (.int .i64 0))
       generalize World.setCell _ ⟨wr.heap.size,3,none⟩ _=W3 at B3 K3 ⊢
       have q3:=K3.out.at_ 3
       have f3:=K3.out.open_ 3
       have h3:=K3.out.lt
       simp at q3
       clear y0 y1 y2 y3 fy0 fy1 fy2 fy3 hzl J2 B2
       go_upto_region 21 with (fail)
       have B4:=hid (B3.out.setCell (p:=⟨wr.heap.size,3,none⟩) (by simp) (.int .i64 ((p:Int) + (m:Int))))
       have K4:Hid (Is _ wr.heap.size 42 #[.int .i64 tk,.string (mk tt),.int .i64 tn,.int .i64 ((p:Int) + (m:Int))]):=hid (K3.out.put 3 (.int .i64 ((p:Int) + (m:Int))))
       generalize World.setCell _ ⟨wr.heap.size,3,none⟩ _=W4 at B4 K4 ⊢
       have y0:=K4.out.at_ 0
       have y1:=K4.out.at_ 1
       have y2:=K4.out.at_ 2
       have y3:=K4.out.at_ 3
       have h4:=K4.out.lt
       simp at y0 y1 y2 y3
       clear q3 f3 h3 B3 K3
       have HB5:=hid ((ZeS HO.out B4.out).alloc (.cells #[.int .i64 tk,.string (mk tt),.int .i64 tn,.int .i64 ((p:Int) + (m:Int))] 42))
       have HN:=hid (World.news_of_block (cs:=#[.int .i64 tk,.string (mk tt),.int .i64 tn,.int .i64 ((p:Int) + (m:Int))]) (t:=42) (fr:=(0,0)) (heap_alloc_new W4 _))
       have hsz4:w.heap.size≤W4.heap.size:=by omega
       go_wp2_with (at_builtin;refine wpList_append_own _ rfl (.tmp 67) (.tmp 69) 28 rfl w.heap.size 42 i0 _ 4 40 underlying28 HI.out HZ0.out HZ1.out HZ2.out rfl (by decide) (.slice A D.length c) D.length (ZfA (offs s.size D)) rfl HB5.out ⟨W4.heap.size,0,none⟩ 1 1 [.int .i64 tk,.string (mk tt),.int .i64 tn,.int .i64 ((p:Int) + (m:Int))] rfl rfl HN.out ?c1 ?c3 ?c4 ?c5 ?_)
       case c1=>first | exact ⟨rfl,rfl,rfl,rfl⟩ | (intro v hv;simp at hv;rcases hv with rfl | rfl | rfl | rfl <;> rfl)
       case c3=>simp only [maxLen];omega
       case c4=>omega
       case c5=>first | omega | (simp;omega)
       intro v6 w6 hown6 hgr6 _
       obtain ⟨g6,cap6,rfl,-⟩:=hown6.form (by omega)
       have B6:=hid (((HB.out.trans (B4.out.mono hsz)).alloc hsz4 (.cells #[.int .i64 tk,.string (mk tt),.int .i64 tn,.int .i64 ((p:Int) + (m:Int))] 42)).grown hgr6 (by simp;omega) (fun j hj=>(HO.out.lt j hj).1))
       have O6:=hid hown6
       clear hown6 hgr6 HB5 HN y0 y1 y2 y3 h4 B4 K4
       go_wp2
       go_roundw
       case rel=>exact ⟨p + m + z,D++[(⟨tk,tt,tn⟩,s.size - (p + m))],some ⟨g6,0,none⟩,cap6,by omega,by simp;omega,by go_num,by rw [List.length_append];rfl,HR2,hid (ZiG hpm O6.out rfl),B6⟩
       case measure=>simp [intOf];omega
      | error er=>
       rw [ht] at C0
       have hne:((er:Int) != 0)=true:=Znb ht
       have HR2:Hid (R=.error (er,u.length)):=hid (by rw [HR.out];exact Zi7 hu hn ht)
       have HP:Hid (s.size - u.length=p + m):=hid (by omega)
       have C:Hid (Calls prog 39 #[.string x] (wr.alloc (.cells #[.int .i64 0,.string ⟨#[]⟩,.int .i64 0,.int .i64 0] 42)) fun e w'=>e=.returned (.tuple #[.agg #[.int .i64 0,.string ⟨#[]⟩,.int .i64 0,.int .i64 0],.int .i64 0,.int .i64 (er:Nat)])∧Below (wr.alloc (.cells #[.int .i64 0,.string ⟨#[]⟩,.int .i64 0,.int .i64 0] 42)).heap.size (wr.alloc (.cells #[.int .i64 0,.string ⟨#[]⟩,.int .i64 0,.int .i64 0] 42)) w'):=hid C0
       clear C0 ht hq hlx2 hxb hbr hlx hxs hul hn hu hdrop hx HR hLw ha hd h34
       go_wp2_with (first
      | (go_at_call 33;(with_reducible refine (SP.out _).mono ?_);rintro e w' ⟨rfl,rfl⟩)
      | (go_at_call 34;(with_reducible refine (IL.out _).mono ?_);rintro e w' ⟨rfl,rfl⟩)
      | (go_at_call 36;(with_reducible refine (ID.out _).mono ?_);rintro e w' ⟨rfl,rfl⟩))
       refine (C.out).mono ?_
       rintro e w2 ⟨rfl,hb2⟩
       have J2:Is w2 wr.heap.size 42 #[.int .i64 0,.string ⟨#[]⟩,.int .i64 0,.int .i64 0]:=(Is.fresh wr 42 _).below hb2 (by simp)
       have y0:=J2.at_ 0
       have y1:=J2.at_ 1
       have y2:=J2.at_ 2
       have y3:=J2.at_ 3
       have fy0:=J2.open_ 0
       have fy1:=J2.open_ 1
       have fy2:=J2.open_ 2
       have fy3:=J2.open_ 3
       have hzl:=J2.lt
       simp at y0 y1 y2 y3
       have B2:=hid (((Below.refl wr.heap.size wr).alloc (Nat.le_refl _) _).trans (hb2.mono (by simp)))
       clear hb2
       go_upto_region 18 with (fail)
       have B3:=hid ((((B2.out.setCell (p:=⟨wr.heap.size,0,none⟩) (by simp) (.int .i64 0)).setCell (p:=⟨wr.heap.size,1,none⟩) (by simp) (.string ⟨#[]⟩)).setCell (p:=⟨wr.heap.size,2,none⟩) (by simp) (.int .i64 0)).setCell (p:=⟨wr.heap.size,3,none⟩) (by simp) (.int .i64 0))
       have K3:Hid (Is _ wr.heap.size 42 #[.int .i64 0,.string ⟨#[]⟩,.int .i64 0,.int .i64 0]):=hid ((((J2.put 0 (.int .i64 0)).put 1 (.string ⟨#[]⟩)).put 2 (.int .i64 0)).put 3 (.int .i64 0))
       generalize World.setCell _ ⟨wr.heap.size,3,none⟩ _=W3 at B3 K3 ⊢
       have q3:=K3.out.at_ 3
       have f3:=K3.out.open_ 3
       have h3:=K3.out.lt
       simp at q3
       clear y0 y1 y2 y3 fy0 fy1 fy2 fy3 hzl J2 B2
       have B4:=hid (HB.out.trans (B3.out.mono hsz))
       clear q3 f3 h3 B3 K3
       go_wp2
       (try rw [Exit.noGoto_ret])
       go_ret3
       exact ⟨⟨none,0,Zgr HR2.out HP.out,Zi0 _ _ HR2.out,Zjv,by rw [HR2.out];exact Nat.le_refl 0⟩,B4.out⟩
end Go.Proofs.YtaheffiglmglbaaGreatDoor
