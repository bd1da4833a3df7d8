import Derived.Test.YtaheffiglmglbaaGreatDoorKWa
/- WrL, WrO, WrR, WrT. -/
set_option maxHeartbeats 8000000
set_option maxRecDepth 20000
namespace Go.Proofs.YtaheffiglmglbaaGreatDoor
open Go.Proofs.Tryz
open Go.RowKit L7
theorem Zub (t:Bs):(Zhq t && ZbM t)=S8.ZbF t:=by
 cases h:ZbM t with
 | true=>rw [ZiJ h,Bool.and_true]
 | false=>rw [Bool.and_false];unfold S8.ZbF;rw [h];rfl
theorem ZqH (t:Bs):(ZiP t && ZbM t)=S8.Zcf t:=by
 cases h:ZbM t with
 | true=>rw [Zha h,Bool.and_true]
 | false=>rw [Bool.and_false];unfold S8.Zcf;rw [h];rfl
theorem Zs1 (t:Bs):((S8.basic t || ZiP t) && ZbM t)=S8.Zm8 t:=by
 unfold S8.Zm8
 rw [Bool.and_or_distrib_right,ZqH]
 have:(S8.basic t && ZbM t)=S8.basic t:=by
  unfold S8.basic
  cases h1:t == S8.ZjN with
  | true=>rw [eq_of_beq h1];rfl
  | false=>cases h2:t == S8.ZsY with
   | true=>rw [eq_of_beq h2];rfl
   | false=>cases h3:t == S8.ZsX with
    | true=>rw [eq_of_beq h3];rfl
    | false=>cases h4:t == S8.ZsW with
     | true=>rw [eq_of_beq h4];rfl
     | false=>rfl
 rw [this]
def Puts (B lv N n:Nat) (K:S8.Kd):Prop:=∀(w:World) (L:List Tk) (r:Nat) (v:Value) (x:Nd),Wr w B lv L (r + wt x)→NodeAt w B x v→dpt x < N→Calls prog n #[.pointer (some ⟨B,0,none⟩),v] w (WPost B lv w L r (S8.ideal K x))
theorem Zlx {q:Nd→Option (List Tk)} : ∀(l m:List Nd),S8.Zg1 q (l++m)=match S8.Zg1 q l with
  | none=>none
  | some rs=>(S8.Zg1 q m).map (rs++·)
 | [],m=>by simp only [List.nil_append,S8.Zg1];cases S8.Zg1 q m <;> rfl
 | x::l,m=>by
  simp only [List.cons_append,S8.Zg1,Zlx l m]
  cases q x with
  | none=>rfl
  | some r=>
   cases S8.Zg1 q l with
   | none=>rfl
   | some rs=>cases S8.Zg1 q m <;> rfl
theorem ZuK {q:Nd→Option (List Tk)} (x:Nd):S8.Zg1 q [x]=(q x).map fun r=>[r]:=by
 simp only [S8.Zg1];cases q x <;> rfl
theorem ZjE {q:Nd→Option (List Tk)} {c:List Nd} {i:Nat} {x:Nd} (hx:c[i]?=some x) (h:q x=none):S8.Zg1 q c=none:=by
 obtain ⟨hl,he⟩:=List.getElem?_eq_some_iff.1 hx
 have e:c=c.take i++(x::c.drop (i + 1)):=by rw [← he,← List.drop_eq_getElem_cons hl,List.take_append_drop]
 rw [e,Zlx]
 have:S8.Zg1 q (x::c.drop (i + 1))=none:=by simp only [S8.Zg1,h]
 rw [this]
 cases S8.Zg1 q (c.take i) <;> rfl
theorem ZgF {q:Nd→Option (List Tk)} {c:List Nd} {i:Nat} {x:Nd} {rs:List (List Tk)} {l:List Tk} (hx:c[i]?=some x) (h:S8.Zg1 q (c.take i)=some rs) (hl:q x=some l):S8.Zg1 q (c.take (i + 1))=some (rs++[l]):=by
 obtain ⟨hlt,he⟩:=List.getElem?_eq_some_iff.1 hx
 rw [List.take_succ_eq_append_getElem hlt,he,Zlx,h,ZuK,hl];rfl
theorem Zlw {q:Nd→Option (List Tk)} : ∀{c:List Nd} {rs:List (List Tk)},S8.Zg1 q c=some rs→rs.length=c.length
 | [],rs,h=>by simp only [S8.Zg1,Option.some.injEq] at h;subst h;rfl
 | x::c,rs,h=>by
  simp only [S8.Zg1] at h
  cases hx:q x with
  | none=>rw [hx] at h;cases h
  | some r=>
   rw [hx] at h
   cases hc:S8.Zg1 q c with
   | none=>rw [hc] at h;cases h
   | some ms=>rw [hc] at h;injection h with h;subst h;simp [Zlw hc]
theorem ZjB (l:List Tk):∀rs:List (List Tk),S8.commas (rs++[l])=if rs=[] then l else S8.commas rs++S8.mkt S8.mCm::l
 | []=>rfl
 | [x]=>rfl
 | x::y::rs=>by
  have:=ZjB l (y::rs)
  rw [if_neg (by simp)] at this ⊢
  show x++S8.mkt S8.mCm::S8.commas (y::rs++[l])=_
  rw [this]
  show _=(x++S8.mkt S8.mCm::S8.commas (y::rs))++_
  simp
theorem ZiR {c:List Nd} {i:Nat} {x:Nd} (h:c[i]?=some x):c.drop i=x::c.drop (i + 1):=by
 obtain ⟨hl,he⟩:=List.getElem?_eq_some_iff.1 h
 rw [List.drop_eq_getElem_cons hl,he]
def ZyL (w:World) (B:Nat) (c:List Nd) (A:Option Addr):Prop:=∀j x,c[j]?=some x→∃a s,A=some a∧(a.add (j * 5)).block < w.heap.size∧Kid w (fun g=>g < B) x s∧
    w.cell? (a.add (j * 5))=some (.int .i64 x.k)∧w.cell? ⟨(a.add (j * 5)).block,(a.add (j * 5)).off + 1,none⟩=some (.string (mk x.t))∧w.cell? ⟨(a.add (j * 5)).block,(a.add (j * 5)).off + 2,none⟩=some (.int .i64 x.n)∧
    w.cell? ⟨(a.add (j * 5)).block,(a.add (j * 5)).off + 3,none⟩=some (.int .i64 x.a)∧w.cell? ⟨(a.add (j * 5)).block,(a.add (j * 5)).off + 4,none⟩=some s
theorem RowAt.rowG {w:World} {B:Nat} {c:List Nd} {A:Option Addr} (h:RowAt w B c A) (hB:B≤w.heap.size):ZyL w B c A:=fun j x hj=>by
 obtain ⟨a,s,h1,h2,h3⟩:=h.at_ hj
 exact ⟨a,s,h1,by omega,h3⟩
theorem RowAt.stays {w:World} {B:Nat} {c:List Nd} {A:Option Addr} (h:RowAt w B c A) (hB:B≤w.heap.size):∀wr,Fr B (fun _=>False) w wr→ZyL wr B c A:=fun wr k=>
 (h.below k.below).rowG (by have:=k.below.size;omega)
theorem Zq7 {w:World} {B g:Nat} {x:Nd} {s:Value} (hI:Is w g 24 (nd5 x.k x.t x.n x.a s)) (hg:B < g) (hk:Kid w (fun g=>g < B) x s):∀wr,Fr B (fun _=>False) w wr→ZyL wr B [x] (some ⟨g,0,none⟩):=fun wr k j y hj=>by
 cases j with
 | succ j=>simp at hj
 | zero=>
  simp at hj;subst hj
  have h1:=k.keep _ _ _ hI hg id (by decide)
  refine ⟨_,s,rfl,?_,ZaF hk k.below,?_⟩
  ·rw [add0];exact h1.lt
  ·rw [add0]
   refine ⟨h1.at_ 0,?_,?_,?_,?_⟩
   ·simpa using h1.at_ 1
   ·simpa using h1.at_ 2
   ·simpa using h1.at_ 3
   ·simpa using h1.at_ 4
section
variable {B g lv N:Nat} {w w2:World} {L:List Tk} {f:S8.Fm} {r:Nat}
theorem Zib (F:Fo w B g lv N f L r) (hr:100≤r):Calls prog 91 #[.pointer (some ⟨g,0,none⟩)] w (FPost B g lv N w L (fun _=>r - 100) (S8.ZaZ S8.ZbF f) isU):=by
 have C1:=ZkD 150 Zhq S8.ZbF (fun _ _=>by kernel_rfl) Zji Zub F hr
 clear F
 go_enter func91,ntmps91
 go_wp2_with (go_at_call 144;(with_reducible refine C1.mono ?_);intro e w1 h1;rcases h1.ways with ⟨rfl,h2,h3⟩ | ⟨y,f2,l2,v,rfl,h2,rfl,h3,h4⟩;exact ⟨rfl,.stop h2 h3⟩;have HH:=hid (And.intro h2 (And.intro h3 h4));clear h1 h2 h3 h4)
 go_end0
 exact .done HH.out.1 rfl HH.out.2.1 HH.out.2.2
theorem Zfg (F:Fo w B g lv N f L r) (hr:100≤r):Calls prog 86 #[.pointer (some ⟨g,0,none⟩)] w (FPost B g lv N w L (fun _=>r - 100) (S8.ZaZ S8.Zcf f) isU):=by
 have C1:=ZkD 145 ZiP S8.Zcf (fun _ _=>by kernel_rfl) ZjP ZqH F hr
 clear F
 go_enter func86,ntmps86
 go_wp2_with (go_at_call 144;(with_reducible refine C1.mono ?_);intro e w1 h1;rcases h1.ways with ⟨rfl,h2,h3⟩ | ⟨y,f2,l2,v,rfl,h2,rfl,h3,h4⟩;exact ⟨rfl,.stop h2 h3⟩;have HH:=hid (And.intro h2 (And.intro h3 h4));clear h1 h2 h3 h4)
 go_end0
 exact .done HH.out.1 rfl HH.out.2.1 HH.out.2.2
theorem Zo6 (n:Nat) (K:S8.Kd) (hn:∀(args:Array Value) (w:World),(callFunc n args).run prog w=.ok (.enter n args) w) (HP:Puts B lv N n K) (o s:ByteArray) (ho:S8.okT (S8.mkt (ls o))=true) (ho2:(ls o).length≤10) (hs:S8.okT (S8.mkt (ls s))=true) (hs2:(ls s).length≤10)
  (c:List Nd) (A:Option Addr) (cap:Nat) (hR:∀wr,Fr B (fun _=>False) w wr→ZyL wr B c A) (hd:∀y∈c,dpt y < N) (hw:Wr w B lv L (r + (wts c + 100))) :
  Calls prog 87 #[.pointer (some ⟨B,0,none⟩),.string o,.slice A c.length cap,.func (.func n) #[.pointer (some ⟨B,0,none⟩)] #[],.string s] w (WPost B lv w L r (S8.ZdH (ls o) (S8.ideal K) c (ls s))):=by
 have C1:=ZoZ o (r:=r + 50 + wts c) (hw.less (by simp only [tw,S8.mkt];omega))
 have hlen:c.length≤100000:=by
  have h4:=hw.bud
  have h5:=ZfS c
  omega
 have HP:=hid HP
 have HR:=hid hR
 have HD:=hid hd
 have hB:=hw.size
 rw [show tkO (S8.mkt (ls o))=some [S8.mkt (ls o)] from if_pos ho] at C1
 have HS:=hid (And.intro hs hs2)
 clear hR hd hw ho ho2 hs hs2
 go_enter func87,ntmps87
 go_wp2_with (go_at_call 146;(with_reducible refine C1.mono ?_);rintro e w1 ⟨rfl,h1,h2⟩;have H1:=hid (And.intro h1 h2);clear h1 h2 C1)
 go_loopw [17] (fun v17 wr=>∃(i:Nat) (rs:List (List Tk)),i≤c.length∧v17=.int .i64 i∧Hid (S8.Zg1 (S8.ideal K) (c.take i)=some rs)∧Hid (Wr wr B lv (L++S8.mkt (ls o)::S8.commas rs) (r + 50 + wts (c.drop i)))∧Hid (Fr B (fun _=>False) w wr)) (fun v17 _=>c.length - (intOf v17).toNat)
 case atStart=>exact ⟨0,[],Nat.zero_le _,rfl,hid rfl,hid H1.out.1,hid H1.out.2⟩
 case round=>
  clear H1
  obtain ⟨i,rs,hi,rfl,HA,HW,HF⟩:=hrel
  by_cases hl:i < c.length
  ·obtain ⟨x,hx⟩:∃x,c[i]?=some x:=⟨_,List.getElem?_eq_getElem hl⟩
   obtain ⟨a,y,rfl,ha,hk,d0,d1,d2,d3,d4⟩:=HR.out _ HF.out i x hx
   have i1:decide ((i:Int) < (c.length:Int))=true:=by simp;omega
   have i2:(0:Int)≤i∧(i:Int) < (c.length:Int):=by omega
   have HX:=hid (And.intro hx (And.intro hk (HD.out x (List.mem_of_getElem? hx))))
   have hne:(a.add (i * 5)).block≠wr.heap.size:=by omega
   have HI0:=hid (Is.fresh wr 24 z5)
   clear hx hk hl
   have hgt:=HW.out.size
   have e3:wts (c.drop i)=wt x + 200 + wts (c.drop (i + 1)):=by rw [ZiR HX.out.1,Zbr]
   by_cases h0:0 < i
   ·have HC:Hid (∀m,S8.commas (rs++[m])=S8.commas rs++S8.mkt S8.mCm::m):=hid (fun m=>by
     rw [ZjB,if_neg]
     intro e;have:=Zlw HA.out;rw [e,List.length_take] at this;simp at this;omega)
    go_wp2_with (first
     | (refine Zah HI0.out rfl 24 _ _ rfl (nd5 x.k x.t x.n x.a y) rfl rfl inf24 rfl (by have h1:=Zbq HX.out.2.1;simp [nd5,h1];exact ⟨rfl,rfl,rfl,rfl⟩) ?_;intro w2 h1 h2;have W2:=(HW.out.alloc (.cells z5 24)).kept HI0.out (by decide) hgt h2;have b2:Below wr.heap.size wr w2:=((Below.refl _ _).alloc (Nat.le_refl _) (.cells z5 24)).trans ⟨h2.os,h2.tape,h2.output,h2.size,fun k hk=>h2.block k (by simp;omega) (by simp;omega)⟩;have HF2:=hid (HF.out.trans (Fr.of_below (X:=fun _=>False) b2 (by omega)) (fun _ _ h=>h));have HI2:=hid (And.intro h1 (And.intro W2 (b2.mono (by omega:B≤wr.heap.size))));clear h1 h2 W2 b2;have C3:=ZoZ (w:=w2) ⟨#[44]⟩ (r:=r + 50 + wts (c.drop (i + 1)) + wt x) (HI2.out.2.1.less (by rw [e3];simp only [tw,S8.mkt];have:(ls ⟨#[44]⟩).length=1:=rfl;omega)))
     | (go_at_call 146;(with_reducible refine C3.mono ?_);rintro e w3 ⟨rfl,h1,h2⟩;have J3:=hid (h2.keep _ _ _ HI2.out.1 hgt id (by decide));have C4:=HP.out w3 _ _ (.agg (nd5 x.k x.t x.n x.a y)) x h1 ⟨y,rfl,ZaF (ZaF HX.out.2.1 HI2.out.2.2) h2.below⟩ HX.out.2.2;have H3:=hid (And.intro h1 h2);clear h1 h2 C3)
     | (refine wpList_load_row rfl 24 _ rfl wr.heap.size rfl 24 _ (0,0) _ J3.out underlying24 rfl inf24 ?_)
     | ((with_reducible refine C4.mono ?_);intro e w4 h1;rcases h1.ways with ⟨rfl,h2,h3⟩ | ⟨m,rfl,h2,h3,h4⟩;exact ⟨rfl,.stop (by unfold S8.ZdH;rw [ZjE HX.out.1 h2];rfl) ((HF2.out.below.trans H3.out.2.below).trans h3)⟩;have H4:=hid (And.intro h2 (And.intro h3 h4));clear h1 h2 h3 h4))
    go_roundw
    case rel=>exact ⟨i + 1,rs++[m],by omega,by go_num,hid (ZgF HX.out.1 HA.out H4.out.1),hid (by rw [HC.out];have:=H4.out.2.1;simp only [List.append_assoc,List.cons_append,List.nil_append] at this ⊢;exact this),hid ((HF2.out.trans H3.out.2 (fun _ _ h=>h)).trans H4.out.2.2 (fun _ _ h=>h))⟩
    case measure=>simp [intOf];omega
   ·have HC:Hid (∀m,S8.commas (rs++[m])=S8.commas rs++m):=hid (fun m=>by
     have:rs=[]:=by
      have:=Zlw HA.out
      rw [List.length_take] at this
      exact List.eq_nil_of_length_eq_zero (by omega)
     subst this;rfl)
    go_wp2_with (first
     | (refine Zah HI0.out rfl 24 _ _ rfl (nd5 x.k x.t x.n x.a y) rfl rfl inf24 rfl (by have h1:=Zbq HX.out.2.1;simp [nd5,h1];exact ⟨rfl,rfl,rfl,rfl⟩) ?_;intro w2 h1 h2;have W2:=(HW.out.alloc (.cells z5 24)).kept HI0.out (by decide) hgt h2;have b2:Below wr.heap.size wr w2:=((Below.refl _ _).alloc (Nat.le_refl _) (.cells z5 24)).trans ⟨h2.os,h2.tape,h2.output,h2.size,fun k hk=>h2.block k (by simp;omega) (by simp;omega)⟩;have HF2:=hid (HF.out.trans (Fr.of_below (X:=fun _=>False) b2 (by omega)) (fun _ _ h=>h));have HI2:=hid (And.intro h1 (And.intro W2 (b2.mono (by omega:B≤wr.heap.size))));clear h1 h2 W2 b2;have C4:=HP.out w2 (L++S8.mkt (ls o)::S8.commas rs) (r + 50 + wts (c.drop (i + 1))) (.agg (nd5 x.k x.t x.n x.a y)) x (HI2.out.2.1.less (by omega)) ⟨y,rfl,ZaF HX.out.2.1 HI2.out.2.2⟩ HX.out.2.2)
     | (refine wpList_load_row rfl 24 _ rfl wr.heap.size rfl 24 _ (0,0) _ HI2.out.1 underlying24 rfl inf24 ?_)
     | ((with_reducible refine C4.mono ?_);intro e w4 h1;rcases h1.ways with ⟨rfl,h2,h3⟩ | ⟨m,rfl,h2,h3,h4⟩;exact ⟨rfl,.stop (by unfold S8.ZdH;rw [ZjE HX.out.1 h2];rfl) ((HF2.out.below).trans h3)⟩;have H4:=hid (And.intro h2 (And.intro h3 h4));clear h1 h2 h3 h4))
    go_roundw
    case rel=>exact ⟨i + 1,rs++[m],by omega,by go_num,hid (ZgF HX.out.1 HA.out H4.out.1),hid (by rw [HC.out];have:=H4.out.2.1;simp only [List.append_assoc,List.cons_append] at this ⊢;exact this),hid (HF2.out.trans H4.out.2.2 (fun _ _ h=>h))⟩
    case measure=>simp [intOf];omega
  ·have hA2:=HA.out
   rw [List.take_of_length_le (by omega)] at hA2
   have HA2:=hid hA2
   have C5:=ZoZ (w:=wr) s (r:=r) (HW.out.less (by simp only [tw,S8.mkt];have:=HS.out.2;omega))
   rw [show tkO (S8.mkt (ls s))=some [S8.mkt (ls s)] from if_pos HS.out.1] at C5
   have i1:decide ((i:Int) < (c.length:Int))=false:=by simp;omega
   have i2:decide (i < c.length)=false:=by simp;omega
   clear hA2 hl
   go_wp2_with (go_at_call 146;(with_reducible refine C5.mono ?_);rintro e w3 ⟨rfl,h1,h2⟩;have H3:=hid (And.intro h1 h2);clear h1 h2)
   go_end0
   refine .done (l:=S8.inB (ls o) rs (ls s)) (by unfold S8.ZdH;rw [HA2.out];rfl) ?_ (HF.out.trans H3.out.2 (fun _ _ h=>h))
   have:=H3.out.1
   unfold S8.inB
   simp only [List.append_assoc,List.cons_append] at this ⊢
   exact this
theorem Zy1 (n:Nat) (K:S8.Kd) (hn:∀(args:Array Value) (w:World),(callFunc n args).run prog w=.ok (.enter n args) w) (HP:Puts B lv N n K) (o s:ByteArray) (ho:S8.okT (S8.mkt (ls o))=true) (ho2:(ls o).length≤10) (hs:S8.okT (S8.mkt (ls s))=true) (hs2:(ls s).length≤10)
  (c:List Nd) (A:Option Addr) (cap:Nat) (hR:∀wr,Fr B (fun _=>False) w wr→ZyL wr B c A) (hd:∀y∈c,dpt y < N) (hw:Wr w B lv L (r + (wts c + 100))) :
  Calls prog 149 #[.pointer (some ⟨B,0,none⟩),.string o,.slice A c.length cap,.func (.func n) #[.pointer (some ⟨B,0,none⟩)] #[],.string s] w (WPost B lv w L r (S8.Zqu (ls o) (S8.ideal K) c (ls s))):=by
 have C1:=Zo6 n K hn HP o s ho ho2 hs hs2 c A cap hR hd hw
 cases c with
 | nil=>
  have HW:=hid hw
  clear hR hd hw HP C1
  go_enter func149,ntmps149
  go_wp2
  go_end0
  exact .done (l:=[]) rfl (by rw [List.append_nil];exact HW.out.less (by omega)) (Fr.refl _ _ _)
 | cons x c=>
  clear hR hd hw HP
  have hM:S8.Zqu (ls o) (S8.ideal K) (x::c) (ls s)=S8.ZdH (ls o) (S8.ideal K) (x::c) (ls s):=by unfold S8.Zqu;rw [if_neg (by simp)]
  rw [hM]
  have h0:0 < (x::c).length:=by simp
  obtain ⟨m,hm⟩:∃m,m=(x::c).length:=⟨_,rfl⟩
  rw [← hm] at h0 C1 ⊢
  have i1:decide ((0:Int) < (m:Int))=true:=by simp;omega
  have i2:decide (0 < m)=true:=by simpa using h0
  have HM:=hid hm
  clear hm hM
  go_enter func149,ntmps149
  go_wp2_with (go_at_call 87;(with_reducible refine C1.mono ?_);intro e w4 h1;rcases h1.ways with ⟨rfl,h2,h3⟩ | ⟨l,rfl,h2,h3,h4⟩;exact ⟨rfl,.stop h2 h3⟩;have H4:=hid (And.intro h2 (And.intro h3 h4));clear h1 h2 h3 h4)
  go_end0
  exact .done H4.out.1 H4.out.2.1 H4.out.2.2
theorem Zyq (HP:Puts B lv N 152 .expr) (v:Value) (x:Nd) (hw:Wr w B lv L (r + (wt x + 400))) (hx:NodeAt w B x v) (hd:dpt x < N) :
  Calls prog 213 #[.pointer (some ⟨B,0,none⟩),v] w (WPost B lv w L r (S8.Zr5 x)):=by
 obtain ⟨s,rfl,hk⟩:=hx
 have hB:=hw.size
 have hb:Below w.heap.size w ((w.alloc (.cells (nd5 x.k x.t x.n x.a s) 24)).alloc (.cells (nd5 x.k x.t x.n x.a s) 24)):=((Below.refl _ _).alloc (Nat.le_refl _) _).alloc (by simp) _
 have HB:=hid (Fr.of_below (B:=B) (X:=fun _=>False) hb (by omega))
 have hI:=Is.fresh (w.alloc (.cells (nd5 x.k x.t x.n x.a s) 24)) 24 (nd5 x.k x.t x.n x.a s)
 have C1:=Zo6 152 .expr (fun _ _=>by kernel_rfl) HP ⟨#[40]⟩ ⟨#[41]⟩ (by decide) (by decide) (by decide) (by decide) (r:=r) [x] (some ⟨w.heap.size + 1,0,none⟩) 1 (Zq7 (by simpa using hI) (by omega) (ZaF hk HB.out.below)) (by simpa using hd) ((hw.below hb).less (by rw [Zbr,Zbw];omega))
 rw [show [x].length=1 from rfl] at C1
 clear hw hk hb hI HP
 go_enter func213,ntmps213
 go_wp2_with (go_at_call 87;(with_reducible refine C1.mono ?_);intro e w4 h1;rcases h1.ways with ⟨rfl,h2,h3⟩ | ⟨l,rfl,h2,h3,h4⟩;exact ⟨rfl,.stop h2 (HB.out.below.trans h3)⟩;have H4:=hid (And.intro h2 (And.intro h3 h4));clear h1 h2 h3 h4)
 go_end0
 exact .done H4.out.1 H4.out.2.1 (HB.out.trans H4.out.2.2 (fun _ _ h=>h))
theorem Wr.c1 (h:Wr w B lv L r):w.cell? ⟨B,1,none⟩=some (.map (some lv)):=by obtain ⟨s,h1,-⟩:=h.row;exact h1.at_ 1
theorem ZwB (v:Value) (x:Nd) (hw:Wr w B lv L r) (hx:NodeAt w B x v) (ht:x.t.length≤100000000) :
  Calls prog 250 #[.pointer (some ⟨B,0,none⟩),v] w fun e w'=>e=.returned (.int .i64 (S8.tight x))∧Below w.heap.size w w':=by
 obtain ⟨s,rfl,hk⟩:=hx
 have hB:=hw.size
 have HW:=hid (hw.alloc (.cells (nd5 x.k x.t x.n x.a s) 24))
 have HB:=hid ((Below.refl w.heap.size w).alloc (Nat.le_refl _) (.cells (nd5 x.k x.t x.n x.a s) 24))
 have hne:w.heap.size≠B:=by omega
 by_cases h35:x.k=35
 ·have d1:=HW.out.c1
  have HR:Hid (∀W,MapHas W lv→(Instr.lookup 76 (.map (some lv)) (.string (mk x.t)) false).run prog W=.ok (.int .i64 (S8.level x.t:Int)) W):=hid (fun W h=>by rw [Zo5 h (mk x.t) (by rw [ZfK];simp only [maxLen];omega),Zbc])
  have hM:(S8.tight x:Int)=S8.level x.t:=by unfold S8.tight;simp [h35]
  rw [hM]
  rw [h35] at HW HB d1 ⊢
  obtain ⟨m,hm⟩:∃m:Int,m=(S8.level x.t:Int):=⟨_,rfl⟩
  rw [← hm] at HR ⊢
  clear hm
  have HI:=hid (Is.fresh w 24 (nd5 35 x.t x.n x.a s))
  clear hw hk hM
  go_enter func250,ntmps250
  go_wp2_with fail
  refine Zao (fun W=>W.cell? ⟨B,1,none⟩=some (.map (some lv))∧W.cell? ⟨w.heap.size,1,none⟩=some (.string (mk x.t))∧MapHas W lv) (fun _=>true) [0,1,2,3,4,5,6,7] [] (by kernel_rfl) (by kernel_rfl) (fun c a a' W hd hq=>⟨hd▸hq.1,hq.2⟩) ⟨d1,HI.out.at_ 1,HW.out.map⟩ ?_
  refine fs (.pointer (some ⟨B,0,none⟩)) rfl ?_
  refine fs (.pointer (some ⟨B,0,none⟩)) rfl ?_
  refine fs (.pointer (some ⟨B,1,none⟩)) rfl ?_
  refine Zab (.map (some lv)) rfl (by rfl) (fun W hS=>by have h0:=hS.1;go_simp) ?_
  refine fs (.pointer (some ⟨w.heap.size,1,none⟩)) rfl ?_
  refine Zab (.string (mk x.t)) rfl (by rfl) (fun W hS=>by have h0:=hS.2.1;go_simp) ?_
  refine Zab (.int .i64 m) rfl (by rfl) (fun W hS=>by have h0:=HR.out W hS.2.2;go_simp) ?_
  refine fs (.int .i64 m) rfl ?_
  refine Zap ?_
  refine Zam ?_
  go_wp2_with fail
  go_ret
  exact ⟨by kernel_rfl,HB.out.drew⟩
 ·have n35:(x.k == 35)=false:=by simpa using h35
  have HM:Hid ((S8.tight x:Int)=if x.k=36∨x.k=37∨x.k=38∨x.k=41 then 0 else if x.k=34 then 3 else if x.k=33 then 8 else if x.k=30∨x.k=31∨x.k=32 then 9 else 10):=hid (by unfold S8.tight;rw [if_neg (c:=x.k=35) h35];(repeat' split) <;> rfl)
  clear hw hk h35
  go_enter func250,ntmps250
  go_wp2
  all_goals (go_ret;exact ⟨by rw [HM.out];simp_all,HB.out⟩)
end
open Go.RowKit L7
section
variable {B g lv N:Nat} {w w2:World} {L:List Tk} {f:S8.Fm} {r:Nat}
theorem Zrz (HP:Puts B lv N 152 .expr) (v:Value) (x:Nd) (m:Nat) (hw:Wr w B lv L (r + (wt x + 400))) (hx:NodeAt w B x v) (hd:dpt x < N) :
  Calls prog 216 #[.pointer (some ⟨B,0,none⟩),v,.int .i64 (m:Int)] w (WPost B lv w L r (S8.ZkZ x m)):=by
 have hB:=hw.size
 have ht:x.t.length≤100000000:=by have:=hw.bud;have:=Zm2 x;omega
 have hx0:=hx
 obtain ⟨s,rfl,hk⟩:=hx
 have b1:Below w.heap.size w (w.alloc (.cells (nd5 x.k x.t x.n x.a s) 24)):=(Below.refl _ _).alloc (Nat.le_refl _) _
 have W1:=hw.below b1
 have X1:=hx0.below (b1.mono (by omega))
 have C1:=ZwB _ x W1 X1 ht
 have I1:=Is.fresh w 24 (nd5 x.k x.t x.n x.a s)
 have HH:=hid (And.intro W1 (And.intro X1 (And.intro b1 I1)))
 have HP:=hid HP
 clear hw hx0 hk b1 W1 X1 I1
 by_cases hl:S8.tight x < m
 ·have i1:decide ((S8.tight x:Int) < (m:Int))=true:=by simp;omega
  have i2:decide (S8.tight x < m)=true:=by simp;omega
  have HM:Hid (S8.ZkZ x m=S8.ZdH (ls ⟨#[40]⟩) (S8.ideal .expr) [x] (ls ⟨#[41]⟩)):=hid (by unfold S8.ZkZ;rw [if_pos hl];rfl)
  clear hl
  go_enter func216,ntmps216
  go_wp2_with (first
   | (go_at_call 250;(with_reducible refine C1.mono ?_);rintro e w1 ⟨rfl,h1⟩;have J1:=HH.out.2.2.2.below h1 (by simp);have b2:Below w.heap.size w (w1.alloc (.cells (nd5 x.k x.t x.n x.a s) 24)):=(HH.out.2.2.1.trans (h1.mono (by simp))).alloc (by have:=h1.size;simp at this;omega) _;have hs1:w.heap.size < w1.heap.size:=(by have:=h1.size;simp at this;omega);have C2:=Zo6 152 .expr (fun _ _=>by kernel_rfl) HP.out ⟨#[40]⟩ ⟨#[41]⟩ (by decide) (by decide) (by decide) (by decide) (r:=r) [x] (some ⟨w1.heap.size,0,none⟩) 1 (Zq7 (Is.fresh w1 24 (nd5 x.k x.t x.n x.a s)) (by omega) (by obtain ⟨s',e,hk⟩:=HH.out.2.1;injection e with e;simp at e;subst e;exact ZaF (ZaF hk (h1.mono (by simp;omega))) ((Below.refl _ _).alloc (by omega) _))) (by simpa using hd) (((HH.out.1.below h1).alloc _).less (by rw [Zbr,Zbw];omega));rw [show [x].length=1 from rfl] at C2;have HJ:=hid (And.intro J1 b2);clear h1 J1 b2)
   | (refine wpList_load_row rfl 24 _ rfl w.heap.size rfl 24 _ (0,0) _ HJ.out.1 underlying24 rfl inf24 ?_)
   | (go_at_call 87;(with_reducible refine C2.mono ?_);intro e w4 h1;rcases h1.ways with ⟨rfl,h2,h3⟩ | ⟨l,rfl,h2,h3,h4⟩;exact ⟨rfl,.stop (HM.out.trans h2) ((HJ.out.2.mono (by omega)).trans h3)⟩;have H4:=hid (And.intro h2 (And.intro h3 h4));clear h1 h2 h3 h4))
  go_end0
  exact .done (HM.out.trans H4.out.1) H4.out.2.1 ((Fr.of_below (X:=fun _=>False) HJ.out.2 (by omega)).trans H4.out.2.2 (fun _ _ h=>h))
 ·have i1:decide ((S8.tight x:Int) < (m:Int))=false:=by simp;omega
  have i2:decide (S8.tight x < m)=false:=by simp;omega
  have HM:Hid (S8.ZkZ x m=S8.ideal .expr x):=hid (by unfold S8.ZkZ;rw [if_neg hl])
  clear hl
  go_enter func216,ntmps216
  go_wp2_with (first
   | (go_at_call 250;(with_reducible refine C1.mono ?_);rintro e w1 ⟨rfl,h1⟩;have J1:=HH.out.2.2.2.below h1 (by simp);have b2:Below w.heap.size w w1:=HH.out.2.2.1.trans (h1.mono (by simp));have C2:=HP.out w1 L r (.agg (nd5 x.k x.t x.n x.a s)) x ((HH.out.1.below h1).less (by omega)) (HH.out.2.1.below (h1.mono (by simp;omega))) hd;have HJ:=hid (And.intro J1 b2);clear h1 J1 b2)
   | (refine wpList_load_row rfl 24 _ rfl w.heap.size rfl 24 _ (0,0) _ HJ.out.1 underlying24 rfl inf24 ?_)
   | (go_at_call 152;(with_reducible refine C2.mono ?_);intro e w4 h1;rcases h1.ways with ⟨rfl,h2,h3⟩ | ⟨l,rfl,h2,h3,h4⟩;exact ⟨rfl,.stop (HM.out.trans h2) ((HJ.out.2.mono (by omega)).trans h3)⟩;have H4:=hid (And.intro h2 (And.intro h3 h4));clear h1 h2 h3 h4))
  go_end0
  exact .done (HM.out.trans H4.out.1) H4.out.2.1 ((Fr.of_below (X:=fun _=>False) HJ.out.2 (by omega)).trans H4.out.2.2 (fun _ _ h=>h))
theorem Fo.kcall (F:Fo w B g lv N f L r) {n:Nat} {K:S8.Kd} (HP:Puts B lv N n K) {v:Value} {x:Nd} (hx:NodeAt w B x v∧dpt x < N) (hr:wt x≤r) :
  Calls prog n #[.pointer (some ⟨B,0,none⟩),v] w (FPost B g lv N w L (fun _=>r - wt x) (S8.put (S8.ideal K x) f) isU):=
 (HP w L (r - wt x + 4 * f.t.length + wts f.c) v x (F.wr.less (by omega)) hx.1 hx.2).mono fun e w' h=>h.lift F
theorem Fo.khead (F:Fo w B g lv N f L r) (HP:Puts B lv N 152 .expr) {v:Value} {x:Nd} (hx:NodeAt w B x v∧dpt x < N) (hr:wt x + 400≤r) :
  Calls prog 213 #[.pointer (some ⟨B,0,none⟩),v] w (FPost B g lv N w L (fun _=>r - (wt x + 400)) (S8.ZmA S8.ideal x f) isU):=
 by
 rw [S8.Zb8]
 obtain ⟨m,hm⟩:∃m,m=r - (wt x + 400):=⟨_,rfl⟩
 rw [← hm]
 exact (Zyq HP v x (r:=m + 4 * f.t.length + wts f.c) (F.wr.less (by omega)) hx.1 hx.2).mono fun e w' h=>h.lift F
theorem Fo.koper (F:Fo w B g lv N f L r) (HP:Puts B lv N 152 .expr) {v:Value} {x:Nd} (hx:NodeAt w B x v∧dpt x < N) (m:Nat) (i:Int) (hi:(m:Int)=i) (hr:wt x + 400≤r) :
  Calls prog 216 #[.pointer (some ⟨B,0,none⟩),v,.int .i64 i] w (FPost B g lv N w L (fun _=>r - (wt x + 400)) (S8.Zix S8.ideal x m f) isU):=by
 subst hi
 rw [S8.Zb6]
 obtain ⟨k,hk⟩:∃k,k=r - (wt x + 400):=⟨_,rfl⟩
 rw [← hk]
 exact (Zrz HP v x m (r:=k + 4 * f.t.length + wts f.c) (F.wr.less (by omega)) hx.1 hx.2).mono fun e w' h=>h.lift F
theorem Fo.klist (F:Fo w B g lv N f L r) {n:Nat} {K:S8.Kd} (hn:∀(args:Array Value) (w:World),(callFunc n args).run prog w=.ok (.enter n args) w) (HP:Puts B lv N n K) (o s:ByteArray) (a b:Bs) (ha:ls o=a) (hb:ls s=b) (ho:S8.okT (S8.mkt a)=true) (hs:S8.okT (S8.mkt b)=true) (h2:a.length≤10∧b.length≤10) {l:List Nd} {v:Value} (hv:Zol B N l v w) (hr:wts l + 100≤r) :
  Calls prog 87 #[.pointer (some ⟨B,0,none⟩),.string o,v,.func (.func n) #[.pointer (some ⟨B,0,none⟩)] #[],.string s] w (FPost B g lv N w L (fun _=>r - (wts l + 100)) (S8.put (S8.ZdH a (S8.ideal K) l b) f) isU):=by
 subst ha hb
 obtain ⟨A,cap,rfl,h3,h4,h5⟩:=hv
 exact (Zo6 n K hn HP o s ho h2.1 hs h2.2 l A cap (h4.stays (by have:=F.wr.size;omega)) h5 (r:=r - (wts l + 100) + 4 * f.t.length + wts f.c) (F.wr.less (by omega))).mono fun e w' h=>h.lift F
theorem Fo.kopt (F:Fo w B g lv N f L r) {n:Nat} {K:S8.Kd} (hn:∀(args:Array Value) (w:World),(callFunc n args).run prog w=.ok (.enter n args) w) (HP:Puts B lv N n K) (o s:ByteArray) (a b:Bs) (ha:ls o=a) (hb:ls s=b) (ho:S8.okT (S8.mkt a)=true) (hs:S8.okT (S8.mkt b)=true) (h2:a.length≤10∧b.length≤10) {l:List Nd} {v:Value} (hv:Zol B N l v w) (hr:wts l + 100≤r) :
  Calls prog 149 #[.pointer (some ⟨B,0,none⟩),.string o,v,.func (.func n) #[.pointer (some ⟨B,0,none⟩)] #[],.string s] w (FPost B g lv N w L (fun _=>r - (wts l + 100)) (S8.put (S8.Zqu a (S8.ideal K) l b) f) isU):=by
 subst ha hb
 obtain ⟨A,cap,rfl,h3,h4,h5⟩:=hv
 exact (Zy1 n K hn HP o s ho h2.1 hs h2.2 l A cap (h4.stays (by have:=F.wr.size;omega)) h5 (r:=r - (wts l + 100) + 4 * f.t.length + wts f.c) (F.wr.less (by omega))).mono fun e w' h=>h.lift F
theorem At.node2 {p q:S8.Wm Unit} {x:Nd} (hq:(do p;S8.shut:S8.Wm Unit)=q) (F:Fo w2 B g lv N ⟨x.t,x.n,x.c⟩ L r) (h:Below w.heap.size w w2) (hB:B≤w.heap.size) (hg:w.heap.size≤g):At B g lv N w (fun j=>w.heap.size≤j) L ((do p;S8.shut:S8.Wm Unit) ⟨x.t,x.n,x.c⟩) q ⟨x.t,x.n,x.c⟩ [] r w2:=by
 subst hq;exact At.node F h hB hg
theorem At.start2 {α:Type} {p q:S8.Wm α} (hq:p=q) (F:Fo w B g lv N f L r):At B g lv N w (fun j=>j=g) L (p f) q f [] r w:=by
 subst hq;exact At.start F
end
def kn:S8.Kd→Nat
 | .part=>51
 | .ctor=>90
 | .member=>154
 | .field=>88
 | .typ=>147
 | .expr=>152
 | .arm=>214
 | .set=>156
 | .block=>219
 | .stmt=>252
 | .sarm=>296
 | .bind=>271
structure Gd (B lv N:Nat):Prop where
 pu:∀K,Puts B lv N (kn K) K
 le:N≤1000
open Go.RowKit L7
section
variable {α:Type} {B g lv N:Nat} {w0 w w2:World} {X:Nat→Prop} {L:List Tk} {W:Option (α × S8.Fm × List Tk)} {f:S8.Fm} {l:List Tk} {r:Nat}
theorem At.pos {c:Prop} [Decidable c] {p q:S8.Wm α} (h:c) (G:At B g lv N w0 X L W (if c then p else q) f l r w):At B g lv N w0 X L W p f l r w:=by rw [if_pos h] at G;exact G
theorem At.neg {c:Prop} [Decidable c] {p q:S8.Wm α} (h:¬ c) (G:At B g lv N w0 X L W (if c then p else q) f l r w):At B g lv N w0 X L W q f l r w:=by rw [if_neg h] at G;exact G
theorem At.unit {W:Option (Unit × S8.Fm × List Tk)} (G:At B g lv N w0 X L W (pure ()) f l r w):W=some ((),f,l):=by rw [G.re,S8.wp];simp
theorem At.fails0 {q:S8.Wm α} (G:At B g lv N w0 X L W q f l r w) (h:q f=none):W=none:=by rw [G.re,h];rfl
theorem S8.tkIf_none {x:Tk} (h:S8.okT x=false):S8.ZjQ x f=none:=by unfold S8.ZjQ;rw [h];rfl
theorem At.dead (G:At B g lv N w0 X L W S8.no f l r w):W=none:=G.re
theorem At.inner_stop {o:Option (List Tk)} {q:Unit→S8.Wm α} (G:At B g lv N w0 X L W (S8.put o >>= q) f l r w) (ho:o=none) (b:Below B w w2):W=none∧Below B w0 w2:=
 ⟨G.fails (by rw [ho];rfl),G.fr.below.trans b⟩
theorem At.inner_done {o:Option (List Tk)} {q:Unit→S8.Wm α} {m:List Tk} {r':Nat} (G:At B g lv N w0 X L W (S8.put o >>= q) f l r w) (ho:o=some m) (k:Wr w2 B lv ((L++l)++m) (r' + 4 * f.t.length + wts f.c)) (hf:Fr B (fun _=>False) w w2):At B g lv N w0 X L W (q ()) f (l++m) r' w2:=by
 have h:FPost B g lv N w (L++l) (fun _=>r') (S8.put o f) isU (.returned (.tuple #[])) w2:=by
  subst ho
  exact ⟨_,rfl,rfl,G.fo.emit k hf id,hf.weak fun _ _ k=>k.elim⟩
 rcases G.step h with ⟨h,-⟩ | ⟨y,f',l',v,-,h1,-,h2⟩
 ·cases h
 ·subst ho
  simp only [S8.put,Option.some.injEq,Prod.mk.injEq] at h1
  obtain ⟨-,rfl,rfl⟩:=h1
  exact h2
theorem ways2 (y a b:Int):y=a∨y=b∨((y == a)=false∧(y == b)=false):=by
 by_cases h:y=a
 ·exact .inl h
 ·by_cases k:y=b
  ·exact .inr (.inl k)
  ·exact .inr (.inr ⟨by simpa using h,by simpa using k⟩)
theorem At.loop {q:Nd→Option (List Tk)} {y:List Nd} {k:Unit→S8.Wm α} (G:At B g lv N w0 X L W (S8.put (S8.Zi8 q y) >>= k) f l r w) (hr:wts y≤r):∃L1 q0,L1=L++l∧Wr w B lv L1 ((q0 + 4 * f.t.length + wts f.c) + wts y)∧r=q0 + wts y∧y.length≤100000:=by
 have h1:=G.fo.wr.bud
 have h2:=ZfS y
 exact ⟨_,r - wts y,rfl,G.fo.wr.less (by omega),by omega,by omega⟩
theorem ZkS {q:Nd→Option (List Tk)} {y:List Nd} {rs:List (List Tk)} (h:S8.Zg1 q y=some rs):S8.Zi8 q y=some rs.flatten:=by unfold S8.Zi8;rw [h];rfl
theorem Ze3 {q:Nd→Option (List Tk)} {y:List Nd} {i:Nat} {x:Nd} (hx:y[i]?=some x) (h:q x=none):S8.Zi8 q y=none:=by unfold S8.Zi8;rw [ZjE hx h];rfl
theorem Zjx (rs:List (List Tk)) (m:List Tk):(rs++[m]).flatten=rs.flatten++m:=by simp
theorem Zuf (y:List Nd):(decide ((0:Int) < (y.length:Int))=false∧decide (0 < y.length)=false∧y=[])∨(decide ((0:Int) < (y.length:Int))=true∧decide (0 < y.length)=true∧0 < y.length):=by
 cases y with
 | nil=>exact .inl ⟨rfl,rfl,rfl⟩
 | cons x y=>exact .inr ⟨by simp,by simp,by simp⟩
theorem ZuS (t:Bs):((mk t).toList == [95])=decide (t=S8.ZdF):=by rw [Zas,Zbc,Bool.eq_iff_iff,beq_iff_eq,decide_eq_true_eq];rfl
theorem Zvk {t:Bs} (h:t=S8.ZdF):((mk t).toList == [95])=true:=by rw [ZuS];exact decide_eq_true h
theorem Zxr {t:Bs} (h:¬ t=S8.ZdF):((mk t).toList == [95])=false:=by rw [ZuS];exact decide_eq_false h
theorem Fo.c2 (F:Fo w B g lv N f L r):w.cell? ⟨g,2,none⟩=some (.string (mk f.t)):=by
 obtain ⟨j,a,A,cap,h1,-⟩:=F.is;exact h1.at_ 2
theorem Fo.c5 (F:Fo w B g lv N f L r):∃A cap,w.cell? ⟨g,5,none⟩=some (.slice A f.c.length cap):=by
 obtain ⟨j,a,A,cap,h1,-⟩:=F.is;exact ⟨A,cap,h1.at_ 5⟩
theorem Fo.room (F:Fo w B g lv N f L r) (y:Nd) (hy:wt y≤r):∃q,Wr w B lv L ((q + 4 * f.t.length + wts f.c) + wt y)∧r=q + wt y:=
 ⟨r - wt y,F.wr.less (by omega),by omega⟩
theorem Fo.c0_keep (F:Fo w B g lv N f L r) (k:Fr B X w w2) (hg:¬ X g):w2.cell? ⟨g,0,none⟩=some (.pointer (some ⟨B,0,none⟩)):=by
 obtain ⟨j,a,A,cap,h1,-⟩:=F.is
 exact (k.keep _ _ _ h1 F.gt hg (by decide)).at_ 0
theorem ZiV {k:Int} {p:S8.Wm Unit} {y:Nd} (hk:y.k=k) (h:(do p;S8.shut:S8.Wm Unit) ⟨y.t,y.n,y.c⟩=none):S8.beg k p y=none:=by
 unfold S8.beg;rw [if_pos hk,Ziq,h];rfl
theorem ZuJ {k:Int} {p:S8.Wm Unit} {y:Nd} {f':S8.Fm} {m:List Tk} (hk:y.k=k) (h:(do p;S8.shut:S8.Wm Unit) ⟨y.t,y.n,y.c⟩=some ((),f',m)):S8.beg k p y=some m:=by
 unfold S8.beg;rw [if_pos hk,Ziq,h];rfl
theorem Zxb {k:Int} {p:S8.Wm Unit} {y:Nd} (hk:y.k≠k):S8.beg k p y=none:=if_neg hk
end
open Go.RowKit L7
section
variable {B g lv N:Nat} {w w2:World} {L:List Tk} {f:S8.Fm} {r:Nat}
theorem ZhM (HG:Gd B lv N) (F:Fo w B g lv N f L r) (hr:200≤r) :
  Calls prog 151 #[.pointer (some ⟨g,0,none⟩)] w (FPost B g lv N w L (fun _=>r - 200) (S8.ZcP S8.ideal f) isU):=by
 have HG:=hid HG
 have hq:S8.ZcP S8.ideal=(do
   let y1 ← S8.front 7
   S8.put (S8.ZdH S8.mLp (S8.ideal .field) y1 S8.mRp)
   : S8.Wm Unit):=by
  first
  | rfl
  | simp only [S8.ZcP,S8.ZaP]
 have A0:=hid (At.start2 hq F)
 have z0:=F.c0
 clear hq F
 go_enter func151,ntmps151
 refine r2 (fun W=>W.cell? ⟨g,0,none⟩=some (.pointer (some ⟨B,0,none⟩))) (fun j=>decide (j < 11)) [0,1,2,3,4,6,7,8,9,10] [5,11] A0.out.fo.c0 ?_
 refine fs (.pointer (some ⟨g,0,none⟩)) rfl ?_
 refine fs (.pointer (some ⟨g,0,none⟩)) rfl ?_
 refine fs (.pointer (some ⟨g,0,none⟩)) rfl ?_
 refine fs (.pointer (some ⟨B,0,none⟩)) rfl ?_
 refine fs (.pointer (some ⟨g,0,none⟩)) rfl ?_
 refine fs (.pointer (some ⟨g,0,none⟩)) rfl ?_
 refine fs (.pointer (some ⟨g,0,none⟩)) rfl ?_
 refine fs (.pointer (some ⟨g,0,none⟩)) rfl ?_
 refine fs (.pointer (some ⟨B,0,none⟩)) rfl ?_
 refine fs (.func (.func 88) #[.pointer (some ⟨B,0,none⟩)] #[]) rfl ?_
 refine Zap ?_
 replace A0:=hid (A0.out.below (Below.refl _ _).drew)
 clear z0
 have C1:=Zsb A0.out.fo 7
 refine cs rfl fun K9 HK9=>?_
 go_wp2_with (go_at_call 210;(with_reducible refine C1.mono ?_);intro e w1 h1;rcases A0.out.step h1 with ⟨rfl,e1,b1⟩ | ⟨y1,f1,l1,v1,rfl,e1,hv,G⟩;exact ⟨rfl,.stop e1 b1⟩;have A1:=hid G;have V1:=hid hv;clear h1 e1 G C1 hv)
 refine HK9.out _ _ (fun _=>A1.out.fo.c0) ?_
 have C2:=A1.out.fo.klist (fun _ _=>by kernel_rfl) (show Puts B lv N 88 .field from HG.out.pu .field) ⟨#[40]⟩ ⟨#[41]⟩ S8.mLp S8.mRp rfl rfl (by decide) (by decide) (by decide) V1.out (by omega)
 refine cs rfl fun K9 HK9=>?_
 go_wp2_with (go_at_call 87;(with_reducible refine C2.mono ?_);intro e w2 h1;rcases A1.out.last h1 with ⟨rfl,e1,b1⟩ | ⟨y,f,l,v,rfl,rfl,e1,F,k⟩;exact ⟨rfl,.stop e1 b1⟩;have E2:=hid (And.intro e1 (And.intro F k));clear h1 e1 F k C2)
 refine HK9.out _ _ (fun h=>absurd h (by decide)) ?_
 refine Zam ?_
 go_end0
 exact .done E2.out.1 rfl (E2.out.2.1.less (by omega)) E2.out.2.2
theorem ZyV (HG:Gd B lv N) (F:Fo w B g lv N f L r) (hr:500≤r) :
  Calls prog 92 #[.pointer (some ⟨g,0,none⟩)] w (FPost B g lv N w L (fun _=>r - 500) (S8.ZvY S8.ideal f) isU):=by
 have HG:=hid HG
 have hq:S8.ZvY S8.ideal=(do
   S8.ZcP S8.ideal
   S8.tk (S8.mkt S8.ZfH)
   let y3 ← S8.Zdr
   S8.put (S8.ideal .typ y3)
   : S8.Wm Unit):=by
  first
  | rfl
  | simp only [S8.ZvY,S8.ZaP]
 have A0:=hid (At.start2 hq F)
 have z0:=F.c0
 clear hq F
 go_enter func92,ntmps92
 have C1:=ZhM HG.out A0.out.fo (by omega)
 go_wp2_with (first
  | (go_at_call 151;(with_reducible refine C1.mono ?_);intro e w1 h1;rcases A0.out.step h1 with ⟨rfl,e1,b1⟩ | ⟨y1,f1,l1,v1,rfl,e1,rfl,G⟩;exact ⟨rfl,.stop e1 b1⟩;have A1:=hid G;have z1:=G.fo.c0;clear h1 e1 G C1 z0;have C2:=A1.out.fo.mark ⟨#[58]⟩ S8.ZfH rfl (by omega) (by decide) (by decide))
  | (go_at_call 146;(with_reducible refine C2.mono ?_);intro e w2 h1;rcases A1.out.step h1 with ⟨rfl,e1,b1⟩ | ⟨y2,f2,l2,v2,rfl,e1,rfl,G⟩;exact ⟨rfl,.stop e1 b1⟩;have A2:=hid G;have z2:=G.fo.c0;clear h1 e1 G C2 z1))
 refine r2 (fun W=>W.cell? ⟨g,0,none⟩=some (.pointer (some ⟨B,0,none⟩))) (fun j=>decide (j < 6)) [0,1,2,3,4] [5,6] A2.out.fo.c0 ?_
 refine fs (.pointer (some ⟨g,0,none⟩)) rfl ?_
 refine fs (.pointer (some ⟨g,0,none⟩)) rfl ?_
 refine fs (.pointer (some ⟨g,0,none⟩)) rfl ?_
 refine fs (.pointer (some ⟨B,0,none⟩)) rfl ?_
 refine fs (.pointer (some ⟨g,0,none⟩)) rfl ?_
 refine Zap ?_
 replace A2:=hid (A2.out.below (Below.refl _ _).drew)
 clear z2
 have C3:=ZfU A2.out.fo
 refine cs rfl fun K9 HK9=>?_
 go_wp2_with (go_at_call 148;(with_reducible refine C3.mono ?_);intro e w3 h1;rcases A2.out.step h1 with ⟨rfl,e1,b1⟩ | ⟨y3,f3,l3,v3,rfl,e1,hv,G⟩;exact ⟨rfl,.stop e1 b1⟩;have A3:=hid G;have V3:=hid hv;clear h1 e1 G C3 hv)
 refine HK9.out _ _ (fun _=>A3.out.fo.c0) ?_
 have C4:=A3.out.fo.kcall (show Puts B lv N 147 .typ from HG.out.pu .typ) V3.out (by omega)
 refine cs rfl fun K9 HK9=>?_
 go_wp2_with (go_at_call 147;(with_reducible refine C4.mono ?_);intro e w4 h1;rcases A3.out.last h1 with ⟨rfl,e1,b1⟩ | ⟨y,f,l,v,rfl,rfl,e1,F,k⟩;exact ⟨rfl,.stop e1 b1⟩;have E4:=hid (And.intro e1 (And.intro F k));clear h1 e1 F k C4)
 refine HK9.out _ _ (fun h=>absurd h (by decide)) ?_
 refine Zam ?_
 go_end0
 exact .done E4.out.1 rfl (E4.out.2.1.less (by omega)) E4.out.2.2
theorem Zrf (HG:Gd B lv N):Puts B lv (N + 1) 88 .field:=by
 intro w L r v x hw hx hd
 rw [← S8.Zck _ _ (Zex (by have:=HG.le;omega))]
 show Calls _ _ _ _ (WPost B lv w L r (S8.beg 7 (S8.ZhN S8.ideal) x))
 have HG:=hid HG
 have hk0:∀y∈x.c,dpt y < N:=fun y hy=>by have:=Zbv x y hy;omega
 have hB:=hw.size
 obtain ⟨s,rfl,hk1⟩:=hx
 have b0:Below w.heap.size w (w.alloc (.cells (nd5 x.k x.t x.n x.a s) 24)):=(Below.refl _ _).alloc (Nat.le_refl _) _
 have X1:NodeAt (w.alloc (.cells (nd5 x.k x.t x.n x.a s) 24)) B x (.agg (nd5 x.k x.t x.n x.a s)):=⟨s,rfl,ZaF hk1 (b0.mono (by omega))⟩
 have HB:=hid b0
 by_cases hk:x.k=7
 case neg=>
  have C0:=ZeE x _ 7 hk X1
  have HM:Hid (S8.beg 7 (S8.ZhN S8.ideal) x=none):=hid (by unfold S8.beg;rw [if_neg hk])
  clear hw hk1 hd hk hk0 b0 X1
  go_enter func88,ntmps88
  go_wp2_with (go_at_call 49;(with_reducible refine C0.mono ?_);rintro e w1 ⟨rfl,h1⟩;exact ⟨rfl,.stop HM.out ((HB.out.trans (h1.mono HB.out.size)).mono (by omega))⟩)
 have C0:=ZdN (r:=r) x _ 7 hk (hw.below b0) X1 hk0 (Zc9 (by have:=HG.out.le;omega))
 rw [show S8.beg 7 (S8.ZhN S8.ideal) x=S8.run (S8.ZhN S8.ideal) x from if_pos hk]
 have hq:(do S8.ZhN S8.ideal;S8.shut:S8.Wm Unit)=(do
   S8.ZaZ S8.ZbF
   S8.tk (S8.mkt S8.ZfH)
   let y3 ← S8.Zdr
   S8.put (S8.ideal .typ y3)
   S8.shut
   : S8.Wm Unit):=by
  simp only [S8.ZhN,S8.ZaP]
 have HQ:=hid hq
 clear hw hk1 hd hk hk0 b0 X1 hq
 go_enter func88,ntmps88
 go_wp2_with (go_at_call 49;(with_reducible refine C0.mono ?_);rintro e w0 ⟨g,rfl,F0,h1,hg⟩;have A0:=hid (At.node2 (w:=w) HQ.out F0 (HB.out.trans (h1.mono HB.out.size)) (by omega) (Nat.le_trans HB.out.size hg));have z0:=F0.c0;clear F0 h1 hg C0)
 have C1:=Zib A0.out.fo (by omega)
 go_wp2_with (first
  | (go_at_call 91;(with_reducible refine C1.mono ?_);intro e w1 h1;rcases A0.out.step h1 with ⟨rfl,e1,b1⟩ | ⟨y1,f1,l1,v1,rfl,e1,rfl,G⟩;exact ⟨rfl,.node_stop e1 b1⟩;have A1:=hid G;have z1:=G.fo.c0;clear h1 e1 G C1 z0;have C2:=A1.out.fo.mark ⟨#[58]⟩ S8.ZfH rfl (by omega) (by decide) (by decide))
  | (go_at_call 146;(with_reducible refine C2.mono ?_);intro e w2 h1;rcases A1.out.step h1 with ⟨rfl,e1,b1⟩ | ⟨y2,f2,l2,v2,rfl,e1,rfl,G⟩;exact ⟨rfl,.node_stop e1 b1⟩;have A2:=hid G;have z2:=G.fo.c0;clear h1 e1 G C2 z1))
 refine r2 (fun W=>W.cell? ⟨g,0,none⟩=some (.pointer (some ⟨B,0,none⟩))) (fun j=>decide (j < 6)) [0,1,2,3,4] [5,6] A2.out.fo.c0 ?_
 refine fs (.pointer (some ⟨g,0,none⟩)) rfl ?_
 refine fs (.pointer (some ⟨g,0,none⟩)) rfl ?_
 refine fs (.pointer (some ⟨g,0,none⟩)) rfl ?_
 refine fs (.pointer (some ⟨B,0,none⟩)) rfl ?_
 refine fs (.pointer (some ⟨g,0,none⟩)) rfl ?_
 refine Zap ?_
 replace A2:=hid (A2.out.below (Below.refl _ _).drew)
 clear z2
 have C3:=ZfU A2.out.fo
 refine cs rfl fun K9 HK9=>?_
 go_wp2_with (go_at_call 148;(with_reducible refine C3.mono ?_);intro e w3 h1;rcases A2.out.step h1 with ⟨rfl,e1,b1⟩ | ⟨y3,f3,l3,v3,rfl,e1,hv,G⟩;exact ⟨rfl,.node_stop e1 b1⟩;have A3:=hid G;have V3:=hid hv;clear h1 e1 G C3 hv)
 refine HK9.out _ _ (fun _=>A3.out.fo.c0) ?_
 have C4:=A3.out.fo.kcall (show Puts B lv N 147 .typ from HG.out.pu .typ) V3.out (by omega)
 refine cs rfl fun K9 HK9=>?_
 go_wp2_with (go_at_call 147;(with_reducible refine C4.mono ?_);intro e w4 h1;rcases A3.out.step h1 with ⟨rfl,e1,b1⟩ | ⟨y4,f4,l4,v4,rfl,e1,rfl,G⟩;exact ⟨rfl,.node_stop e1 b1⟩;have A4:=hid G;clear h1 e1 G C4)
 refine HK9.out _ _ (fun h=>absurd h (by decide)) ?_
 refine Zam ?_
 have z4:=A4.out.fo.c0
 have C5:=Zfi A4.out.fo
 go_wp2_with (first
  | (go_at_call 52;(with_reducible refine C5.mono ?_);intro e w5 h1;rcases A4.out.last h1 with ⟨rfl,e1,b1⟩ | ⟨y,f,l,v,rfl,rfl,e1,F,k⟩;exact ⟨rfl,.node_stop e1 b1⟩;have E5:=hid (And.intro e1 (And.intro F k));clear h1 e1 F k C5))
 go_end0
 exact .node_done E5.out.1 E5.out.2.1 (by omega) E5.out.2.2
theorem ZtH (HG:Gd B lv N):Puts B lv (N + 1) 90 .ctor:=by
 intro w L r v x hw hx hd
 rw [← S8.Zck _ _ (Zex (by have:=HG.le;omega))]
 show Calls _ _ _ _ (WPost B lv w L r (S8.beg 8 (S8.Zoc S8.ideal) x))
 have HG:=hid HG
 have hk0:∀y∈x.c,dpt y < N:=fun y hy=>by have:=Zbv x y hy;omega
 have hB:=hw.size
 obtain ⟨s,rfl,hk1⟩:=hx
 have b0:Below w.heap.size w (w.alloc (.cells (nd5 x.k x.t x.n x.a s) 24)):=(Below.refl _ _).alloc (Nat.le_refl _) _
 have X1:NodeAt (w.alloc (.cells (nd5 x.k x.t x.n x.a s) 24)) B x (.agg (nd5 x.k x.t x.n x.a s)):=⟨s,rfl,ZaF hk1 (b0.mono (by omega))⟩
 have HB:=hid b0
 by_cases hk:x.k=8
 case neg=>
  have C0:=ZeE x _ 8 hk X1
  have HM:Hid (S8.beg 8 (S8.Zoc S8.ideal) x=none):=hid (by unfold S8.beg;rw [if_neg hk])
  clear hw hk1 hd hk hk0 b0 X1
  go_enter func90,ntmps90
  go_wp2_with (go_at_call 49;(with_reducible refine C0.mono ?_);rintro e w1 ⟨rfl,h1⟩;exact ⟨rfl,.stop HM.out ((HB.out.trans (h1.mono HB.out.size)).mono (by omega))⟩)
 have C0:=ZdN (r:=r) x _ 8 hk (hw.below b0) X1 hk0 (Zc9 (by have:=HG.out.le;omega))
 rw [show S8.beg 8 (S8.Zoc S8.ideal) x=S8.run (S8.Zoc S8.ideal) x from if_pos hk]
 have hq:(do S8.Zoc S8.ideal;S8.shut:S8.Wm Unit)=(do
   S8.ZaZ S8.Zcf
   let y2 ← S8.rest
   S8.put (S8.Zqu S8.mLp (S8.ideal .typ) y2 S8.mRp)
   S8.shut
   : S8.Wm Unit):=by
  simp only [S8.Zoc,S8.ZaP]
 have HQ:=hid hq
 clear hw hk1 hd hk hk0 b0 X1 hq
 go_enter func90,ntmps90
 go_wp2_with (go_at_call 49;(with_reducible refine C0.mono ?_);rintro e w0 ⟨g,rfl,F0,h1,hg⟩;have A0:=hid (At.node2 (w:=w) HQ.out F0 (HB.out.trans (h1.mono HB.out.size)) (by omega) (Nat.le_trans HB.out.size hg));have z0:=F0.c0;clear F0 h1 hg C0)
 have C1:=Zfg A0.out.fo (by omega)
 go_wp2_with (first
  | (go_at_call 86;(with_reducible refine C1.mono ?_);intro e w1 h1;rcases A0.out.step h1 with ⟨rfl,e1,b1⟩ | ⟨y1,f1,l1,v1,rfl,e1,rfl,G⟩;exact ⟨rfl,.node_stop e1 b1⟩;have A1:=hid G;have z1:=G.fo.c0;clear h1 e1 G C1 z0))
 refine r2 (fun W=>W.cell? ⟨g,0,none⟩=some (.pointer (some ⟨B,0,none⟩))) (fun j=>decide (j < 11)) [0,1,2,3,4,6,7,8,9,10] [5,11] A1.out.fo.c0 ?_
 refine fs (.pointer (some ⟨g,0,none⟩)) rfl ?_
 refine fs (.pointer (some ⟨g,0,none⟩)) rfl ?_
 refine fs (.pointer (some ⟨g,0,none⟩)) rfl ?_
 refine fs (.pointer (some ⟨B,0,none⟩)) rfl ?_
 refine fs (.pointer (some ⟨g,0,none⟩)) rfl ?_
 refine fs (.pointer (some ⟨g,0,none⟩)) rfl ?_
 refine fs (.pointer (some ⟨g,0,none⟩)) rfl ?_
 refine fs (.pointer (some ⟨g,0,none⟩)) rfl ?_
 refine fs (.pointer (some ⟨B,0,none⟩)) rfl ?_
 refine fs (.func (.func 147) #[.pointer (some ⟨B,0,none⟩)] #[]) rfl ?_
 refine Zap ?_
 replace A1:=hid (A1.out.below (Below.refl _ _).drew)
 clear z1
 have C2:=Zja A1.out.fo
 refine cs rfl fun K9 HK9=>?_
 go_wp2_with (go_at_call 50;(with_reducible refine C2.mono ?_);intro e w2 h1;rcases A1.out.step h1 with ⟨rfl,e1,b1⟩ | ⟨y2,f2,l2,v2,rfl,e1,hv,G⟩;exact ⟨rfl,.node_stop e1 b1⟩;have A2:=hid G;have V2:=hid hv;clear h1 e1 G C2 hv)
 refine HK9.out _ _ (fun _=>A2.out.fo.c0) ?_
 have C3:=A2.out.fo.kopt (fun _ _=>by kernel_rfl) (show Puts B lv N 147 .typ from HG.out.pu .typ) ⟨#[40]⟩ ⟨#[41]⟩ S8.mLp S8.mRp rfl rfl (by decide) (by decide) (by decide) V2.out (by omega)
 refine cs rfl fun K9 HK9=>?_
 go_wp2_with (go_at_call 149;(with_reducible refine C3.mono ?_);intro e w3 h1;rcases A2.out.step h1 with ⟨rfl,e1,b1⟩ | ⟨y3,f3,l3,v3,rfl,e1,rfl,G⟩;exact ⟨rfl,.node_stop e1 b1⟩;have A3:=hid G;clear h1 e1 G C3)
 refine HK9.out _ _ (fun h=>absurd h (by decide)) ?_
 refine Zam ?_
 have z3:=A3.out.fo.c0
 have C4:=Zfi A3.out.fo
 go_wp2_with (first
  | (go_at_call 52;(with_reducible refine C4.mono ?_);intro e w4 h1;rcases A3.out.last h1 with ⟨rfl,e1,b1⟩ | ⟨y,f,l,v,rfl,rfl,e1,F,k⟩;exact ⟨rfl,.node_stop e1 b1⟩;have E4:=hid (And.intro e1 (And.intro F k));clear h1 e1 F k C4))
 go_end0
 exact .node_done E4.out.1 E4.out.2.1 (by omega) E4.out.2.2
end
end Go.Proofs.YtaheffiglmglbaaGreatDoor
