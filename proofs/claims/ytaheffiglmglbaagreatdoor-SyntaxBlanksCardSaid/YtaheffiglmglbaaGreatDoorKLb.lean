import Derived.Test.YtaheffiglmglbaaGreatDoorKLa
import Derived.Test.YtaheffiglmglbaaGreatDoorKPa
/- Leaf, Leaf2, Leaf3, Leaf4, Out, CutA, CutB, CutC, Toks. -/
set_option maxHeartbeats 8000000
set_option maxRecDepth 20000
namespace Go.Proofs.YtaheffiglmglbaaGreatDoor
open Go.Proofs.Tryz
open Go.RowKit L7
theorem ZbJ {a b:Bool} (h:a=b):Ending.returned (.bool a)=Ending.returned (.bool b):=by rw [h]
theorem ZrU (a:Nat) (c:UInt8) (ha:a < 256):decide (UInt8.ofNat a≤c)=decide ((a:Int)≤(c.toNat:Int)):=by
 rw [Bool.eq_iff_iff];simp [UInt8.le_iff_toNat_le,Nat.mod_eq_of_lt ha]
theorem Zr7 (a:Nat) (c:UInt8) (ha:a < 256):decide (c≤UInt8.ofNat a)=decide ((c.toNat:Int)≤(a:Int)):=by
 rw [Bool.eq_iff_iff];simp [UInt8.le_iff_toNat_le,Nat.mod_eq_of_lt ha]
theorem ZhP (a:Nat) (c:UInt8) (ha:a < 256):(c == UInt8.ofNat a)=((c.toNat:Int) == (a:Int)):=by
 rw [Bool.eq_iff_iff]
 simp only [beq_iff_eq]
 constructor
 ·rintro rfl;simp [Nat.mod_eq_of_lt ha]
 ·intro h;apply UInt8.toNat_inj.1;simp [Nat.mod_eq_of_lt ha];omega
theorem ZsO {a b c d:Bool} (h:a=b) (k:c=d):(a && c)=(b && d):=by rw [h,k]
theorem Zry {a b c d:Bool} (h:a=b) (k:c=d):(a || c)=(b || d):=by rw [h,k]
theorem Zpe (c:UInt8):ZcI c=(decide ((48:Int)≤(c.toNat:Int)) && decide ((c.toNat:Int)≤57)):=by
 exact ZsO (ZrU 48 c (by decide)) (Zr7 57 c (by decide))
theorem Zlf (c:UInt8):Ziz c=((decide ((97:Int)≤(c.toNat:Int)) && decide ((c.toNat:Int)≤122)) || (decide ((65:Int)≤(c.toNat:Int)) && decide ((c.toNat:Int)≤90))):=by
 exact Zry (ZsO (ZrU 97 c (by decide)) (Zr7 122 c (by decide))) (ZsO (ZrU 65 c (by decide)) (Zr7 90 c (by decide)))
theorem Zle (c:UInt8):Zir c=(((c.toNat:Int) == 9) || ((c.toNat:Int) == 10) || ((c.toNat:Int) == 13) || ((c.toNat:Int) == 32)):=by
 exact Zry (Zry (Zry (ZhP 9 c (by decide)) (ZhP 10 c (by decide))) (ZhP 13 c (by decide))) (ZhP 32 c (by decide))
theorem Zuj (c:UInt8):Zdw c=(Ziz c || ZcI c || ((c.toNat:Int) == 95)):=by
 exact Zry rfl (ZhP 95 c (by decide))
theorem Zho (c:UInt8) (w:World):Calls prog 36 #[.int .u8 (c.toNat:Int)] w fun e w'=>e=.returned (.bool (ZcI c))∧w=w':=by
 go_enter func36,ntmps36
 go_wp2
 all_goals (go_ret;exact ⟨ZbJ (by rw [Zpe,Bool.eq_iff_iff];simp;omega),rfl⟩)
theorem ZgB (c:UInt8) (w:World):Calls prog 34 #[.int .u8 (c.toNat:Int)] w fun e w'=>e=.returned (.bool (Ziz c))∧w=w':=by
 go_enter func34,ntmps34
 go_wp2
 all_goals (go_ret;exact ⟨ZbJ (by rw [Zlf,Bool.eq_iff_iff];simp;omega),rfl⟩)
theorem ZnU (c:UInt8) (w:World):Calls prog 64 #[.int .u8 (c.toNat:Int)] w fun e w'=>e=.returned (.bool (Zir c))∧w=w':=by
 go_enter func64,ntmps64
 go_wp2
 all_goals (go_ret;exact ⟨ZbJ (by first | (rw [Zle,Bool.eq_iff_iff];done) | (rw [Zle,Bool.eq_iff_iff];simp;done) | (rw [Zle,Bool.eq_iff_iff];simp;omega)),rfl⟩)
theorem ZjJ (c:UInt8) (w:World):Calls prog 68 #[.int .u8 (c.toNat:Int)] w fun e w'=>e=.returned (.bool (Zdw c))∧w=w':=by
 have HN:Hid (Zdw c=(Ziz c || ZcI c || ((c.toNat:Int) == 95))):=hid (Zuj c)
 cases ha:Ziz c <;> cases hd:ZcI c
 all_goals
  have A:=ZgB c w
  have D:=Zho c w
  rw [ha] at A
  rw [hd] at D
  have HN2:=HN.out
  rw [ha,hd] at HN2
  have HN3:=hid HN2
  clear ha hd HN HN2
  go_enter func68,ntmps68
  go_wp2_with (first
   | (go_at_call 34;refine A.mono ?_;rintro e w' ⟨rfl,rfl⟩)
   | (go_at_call 36;refine D.mono ?_;rintro e w' ⟨rfl,rfl⟩))
  all_goals (go_ret;exact ⟨ZbJ (by rw [HN3.out];simp),rfl⟩)
theorem Zr3 (l:Bs):ZdI l=(l == [40] || l == [41] || l == [123] || l == [125] || l == [91] || l == [93] || l == [44] || l == [46] || l == [58] || l == [59] || l == [63] || l == [95] || l == [61] || l == [43] || l == [45] || l == [42] || l == [47] || l == [37] || l == [60] || l == [62] || l == [61,61] || l == [33,61] || l == [60,61] || l == [62,61] || l == [43,43] || l == [61,62] || l == [58,45]):=by
 match l with
 | []=>rfl
 | [b]=>simp [ZdI,mark1]
 | [b,c]=>simp [ZdI,mark2]
 | b::c::d::r=>simp [ZdI]
theorem Zkb (s:ByteArray) (w:World):Calls prog 72 #[.string s] w fun e w'=>e=.returned (.bool (ZdI (ls s)))∧w=w':=by
 have e:s.toList=ls s:=by rw [ByteArray.toList_eq];rfl
 have HM:=hid (Zr3 (ls s))
 rw [← e] at HM
 have HE:=hid e
 clear e
 go_enter func72,ntmps72
 go_wp2
 all_goals (go_ret;exact ⟨ZbJ (by rw [← HE.out,HM.out];first | (simp [*];done) | (simp_all;done)),rfl⟩)
open Go.RowKit L7
theorem Zif (s:ByteArray) (k:Nat) (h:k < s.size):(ls s).drop k=s[k]::(ls s).drop (k + 1):=by
 have h':k < (ls s).length:=h
 rw [List.drop_eq_getElem_cons h'];rfl
theorem ZkA (p:UInt8→Bool):∀(l:List UInt8) (k:Nat) (hk:k < l.length),k≤(l.takeWhile p).length→
  (p l[k]=true→k + 1≤(l.takeWhile p).length)∧(p l[k]=false→(l.takeWhile p).length=k)
 | b::l,0,hk,h=>by
  simp only [List.getElem_cons_zero]
  constructor
  ·intro hp;simp [List.takeWhile,hp]
  ·intro hp;simp [List.takeWhile,hp]
 | b::l,k + 1,hk,h=>by
  simp only [List.takeWhile] at h ⊢
  cases hb:p b with
  | false=>rw [hb] at h;simp at h
  | true=>
   rw [hb] at h
   simp only [List.length_cons] at h hk ⊢
   have:=ZkA p l k (by omega) (by omega)
   simp only [List.getElem_cons_succ]
   exact ⟨fun hp=>by have:=this.1 hp;omega,fun hp=>by have:=this.2 hp;omega⟩
theorem ZlJ (p:UInt8→Bool) (l:List UInt8):(l.takeWhile p).length≤l.length:=by
 induction l with
 | nil=>simp
 | cons a l ih=>simp only [List.takeWhile];split <;> simp <;> omega
theorem Zvo (p:UInt8→Bool) (l:List UInt8):l.drop (l.takeWhile p).length=l.dropWhile p:=by
 induction l with
 | nil=>rfl
 | cons a l ih=>simp only [List.takeWhile,List.dropWhile];split <;> simp_all
theorem ZqM (p:UInt8→Bool) (l:List UInt8):l.take (l.takeWhile p).length=l.takeWhile p:=by
 induction l with
 | nil=>rfl
 | cons a l ih=>simp only [List.takeWhile];split <;> simp_all
theorem Zhp {a b:Int} (h:a=b):Ending.returned (.int .i64 a)=Ending.returned (.int .i64 b):=by rw [h]
theorem ZpN (s:ByteArray) (w:World) (hs:s.size≤100000000):Calls prog 67 #[.string s,.func (.func 36) #[] #[]] w fun e w'=>e=.returned (.int .i64 (((ls s).takeWhile ZcI).length:Nat))∧w=w':=by
 have hle:=ZlJ ZcI (ls s)
 rw [ZaR] at hle
 obtain ⟨m,hm⟩:∃m,m=((ls s).takeWhile ZcI).length:=⟨_,rfl⟩
 have HS:Hid (∀k (h:k < s.size),k≤m→(ZcI s[k]=true→k + 1≤m)∧(ZcI s[k]=false→m=k)):=hid (fun k h hk=>by
  rw [hm] at hk ⊢
  exact ZkA ZcI (ls s) k h hk)
 rw [← hm] at hle ⊢
 clear hm
 go_enter func67,ntmps67
 go_wp2
 go_loop [5] (fun i=>∃k:Nat,k≤m∧i=.int .i64 k) (fun i=>s.size - (intOf i).toNat)
 case atStart=>exact ⟨0,Nat.zero_le _,rfl⟩
 case round=>
  obtain ⟨k,hk,rfl⟩:=hrel
  by_cases hlt:k < s.size
  ·have h2:=HS.out k hlt hk
   have C:=Zho s[k] w
   cases hp:ZcI s[k] with
   | true=>
    have h3:=h2.1 hp
    rw [hp] at C
    clear hp h2
    go_wp2_with (go_at_call 36;refine C.mono ?_;rintro e w' ⟨rfl,rfl⟩)
    go_round
    case rel=>exact ⟨k + 1,h3,by go_num⟩
    case measure=>simp [intOf];omega
   | false=>
    have h3:=hid (h2.2 hp)
    rw [hp] at C
    clear hp h2
    go_wp2_with (go_at_call 36;refine C.mono ?_;rintro e w' ⟨rfl,rfl⟩)
    go_ret
    exact ⟨Zhp (by rw [h3.out]),rfl⟩
  ·have h3:Hid (m=k):=hid (by omega)
   go_wp2
   go_ret
   exact ⟨Zhp (by rw [h3.out]),rfl⟩
theorem Zh6 (s:ByteArray) (w:World) (hs:s.size≤100000000):Calls prog 67 #[.string s,.func (.func 68) #[] #[]] w fun e w'=>e=.returned (.int .i64 (((ls s).takeWhile Zdw).length:Nat))∧w=w':=by
 have hle:=ZlJ Zdw (ls s)
 rw [ZaR] at hle
 obtain ⟨m,hm⟩:∃m,m=((ls s).takeWhile Zdw).length:=⟨_,rfl⟩
 have HS:Hid (∀k (h:k < s.size),k≤m→(Zdw s[k]=true→k + 1≤m)∧(Zdw s[k]=false→m=k)):=hid (fun k h hk=>by
  rw [hm] at hk ⊢
  exact ZkA Zdw (ls s) k h hk)
 rw [← hm] at hle ⊢
 clear hm
 go_enter func67,ntmps67
 go_wp2
 go_loop [5] (fun i=>∃k:Nat,k≤m∧i=.int .i64 k) (fun i=>s.size - (intOf i).toNat)
 case atStart=>exact ⟨0,Nat.zero_le _,rfl⟩
 case round=>
  obtain ⟨k,hk,rfl⟩:=hrel
  by_cases hlt:k < s.size
  ·have h2:=HS.out k hlt hk
   have C:=ZjJ s[k] w
   cases hp:Zdw s[k] with
   | true=>
    have h3:=h2.1 hp
    rw [hp] at C
    clear hp h2
    go_wp2_with (go_at_call 68;refine C.mono ?_;rintro e w' ⟨rfl,rfl⟩)
    go_round
    case rel=>exact ⟨k + 1,h3,by go_num⟩
    case measure=>simp [intOf];omega
   | false=>
    have h3:=hid (h2.2 hp)
    rw [hp] at C
    clear hp h2
    go_wp2_with (go_at_call 68;refine C.mono ?_;rintro e w' ⟨rfl,rfl⟩)
    go_ret
    exact ⟨Zhp (by rw [h3.out]),rfl⟩
  ·have h3:Hid (m=k):=hid (by omega)
   go_wp2
   go_ret
   exact ⟨Zhp (by rw [h3.out]),rfl⟩
theorem ZhK (s p:ByteArray) (w:World):Calls prog 65 #[.string s,.string p] w fun e w'=>e=.returned (.bool (Lib.hasPrefix (ls s) (ls p)))∧w=w':=
 (Tryz.strings_HasPrefix s p w).mono fun _ _ h=>⟨h.1,h.2.symm⟩
theorem ZcF (s:ByteArray) (c:UInt8) (w:World):Calls prog 127 #[.string s,.int .u8 (c.toNat:Int)] w fun e w'=>e=.returned (.int .i64 (Lib.indexByte (ls s) c))∧w=w':=
 (Tryz.strings_IndexByte s c.toNat w).mono fun _ _ h=>⟨by rw [h.1];simp [ls],h.2.symm⟩
theorem Zuk (l:Bs):(Lib.indexByte l 10 < 0∧(l.takeWhile ZbH).length=l.length)∨Lib.indexByte l 10=((l.takeWhile ZbH).length:Nat):=by
 induction l with
 | nil=>exact .inl ⟨by decide,rfl⟩
 | cons a l ih=>
  by_cases ha:a=10
  ·subst ha;exact .inr rfl
  ·have h1:(a == 10)=false:=by simpa using ha
   have h2:ZbH a=true:=by simp [ZbH,ha]
   simp only [Lib.indexByte,h1,List.takeWhile,h2,List.length_cons]
   rcases ih with ⟨h3,h4⟩ | h3
   ·by_cases h5:Lib.indexByte l 10 = -1
    ·exact .inl ⟨by simp [h5],by omega⟩
    ·have:∀m:Bs,-1≤Lib.indexByte m 10:=by
      intro m
      induction m with
      | nil=>decide
      | cons b m ih=>simp only [Lib.indexByte];split <;> (try split) <;> omega
     have:=this l;omega
   ·refine .inr ?_
    rw [h3]
    have:¬ (((l.takeWhile ZbH).length:Nat):Int) = -1:=by omega
    simp [this]
theorem Zmu (s:ByteArray) (w:World):Calls prog 66 #[.string s] w fun e w'=>e=.returned (.int .i64 (((ls s).takeWhile ZbH).length:Nat))∧w=w':=by
 have C:=ZcF s 10 w
 rcases Zuk (ls s) with ⟨h1,h2⟩ | h1
 ·rw [ZaR] at h2
  have H2:=hid h2
  clear h2
  obtain ⟨i,hi⟩:∃i,i=Lib.indexByte (ls s) 10:=⟨_,rfl⟩
  rw [← hi] at C h1
  clear hi
  go_enter func66,ntmps66
  go_wp2_with (go_at_call 127;refine C.mono ?_;rintro e w' ⟨rfl,rfl⟩)
  go_ret
  exact ⟨Zhp (by rw [H2.out]),rfl⟩
 ·rw [h1] at C
  have hle:=ZlJ ZbH (ls s)
  rw [ZaR] at hle
  obtain ⟨m,hm⟩:∃m,m=((ls s).takeWhile ZbH).length:=⟨_,rfl⟩
  rw [← hm] at C hle ⊢
  clear hm h1
  have h0:(0:Int)≤(m:Int):=by omega
  go_enter func66,ntmps66
  go_wp2_with (go_at_call 127;refine C.mono ?_;rintro e w' ⟨rfl,rfl⟩)
  go_ret
  exact ⟨rfl,rfl⟩
open Go.RowKit L7
def Zf1 (l:Bs):Nat:=l.length - (skip l).length
theorem Zq3 (s:ByteArray) (k:Nat):(mk ((ls s).drop k)).size=s.size - k:=by
 show ((ls s).drop k).length=_
 rw [List.length_drop,ZaR]
theorem Zlg (b:UInt8) (r:Bs):Lib.hasPrefix (b::r) [47,47]=(b == 47 && r.head? == some 47):=by
 cases r with
 | nil=>simp [Lib.hasPrefix,List.isPrefixOf]
 | cons c r=>
  rw [Bool.eq_iff_iff]
  simp [Lib.hasPrefix,List.isPrefixOf]
  constructor
  ·rintro ⟨rfl,rfl⟩;exact ⟨rfl,rfl⟩
  ·rintro ⟨rfl,rfl⟩;exact ⟨rfl,rfl⟩
theorem Zq2 (b:UInt8) (r:Bs) (hw:Zir b=false) (h:Lib.hasPrefix (b::r) [47,47]=true):skip (b::r)=skip ((b::r).dropWhile ZbH):=by
 rw [Zlg] at h
 have hb:b=47:=by simp at h;exact h.1
 rw [skip,if_neg (by rw [hw];decide),if_pos h]
 subst hb
 rfl
theorem Zq1 (b:UInt8) (r:Bs) (hw:Zir b=false) (h:Lib.hasPrefix (b::r) [47,47]=false):skip (b::r)=b::r:=by
 rw [Zlg] at h
 rw [skip,if_neg (by rw [hw];decide),if_neg (by rw [h];decide)]
theorem ZkG (s:ByteArray) (w:World) (hs:s.size≤100000000):Calls prog 33 #[.string s] w fun e w'=>e=.returned (.int .i64 (Zf1 (ls s):Nat))∧w=w':=by
 go_enter func33,ntmps33
 go_wp2
 go_loop [3] (fun i=>∃k:Nat,k≤s.size∧i=.int .i64 k∧Hid (skip (ls s)=skip ((ls s).drop k))) (fun i=>s.size - (intOf i).toNat)
 case atStart=>exact ⟨0,Nat.zero_le _,rfl,hid rfl⟩
 case round=>
  obtain ⟨k,hk,rfl,HK⟩:=hrel
  by_cases hlt:k < s.size
  ·have hd:=Zif s k hlt
   have C:=ZnU s[k] w
   cases hp:Zir s[k] with
   | true=>
    rw [hp] at C
    have HK2:Hid (skip (ls s)=skip ((ls s).drop (k + 1))):=hid (by rw [HK.out,hd,ZeP _ hp])
    clear hp hd
    go_wp2_with (go_at_call 64;refine C.mono ?_;rintro e w' ⟨rfl,rfl⟩)
    go_round
    case rel=>exact ⟨k + 1,by omega,by go_num,HK2⟩
    case measure=>simp [intOf];omega
   | false=>
    rw [hp] at C
    have HD:=hid hd
    have HE:Hid (s.extract k s.size=mk ((ls s).drop k)):=hid (Zca s k)
    have P:=ZhK (s.extract k s.size) ⟨#[47,47]⟩ w
    have Q:=Zmu (s.extract k s.size) w
    rw [Zca s k,Zbc] at P Q
    rw [show ls (⟨#[47,47]⟩:ByteArray)=[47,47] from rfl] at P
    cases hq:Lib.hasPrefix ((ls s).drop k) [47,47] with
    | true=>
     rw [hq] at P
     have HL:Hid (skip (ls s)=skip ((ls s).drop (k + (((ls s).drop k).takeWhile ZbH).length))):=hid (by
      rw [HK.out,← List.drop_drop,Zvo,hd]
      rw [hd] at hq
      exact Zq2 _ _ hp hq)
     have hl1:=ZlJ ZbH ((ls s).drop k)
     rw [List.length_drop,ZaR] at hl1
     have hl2:1≤(((ls s).drop k).takeWhile ZbH).length:=by
      rw [hd,Zlg] at hq
      have hb:s[k]=47:=by simp at hq;exact hq.1
      rw [hd,List.takeWhile_cons,hb]
      simp [ZbH]
     obtain ⟨m,hm⟩:∃m,m=(((ls s).drop k).takeWhile ZbH).length:=⟨_,rfl⟩
     rw [← hm] at Q HL hl1 hl2
     rw [← HE.out] at P Q
     clear hm hp hq hd HD HK
     go_wp2_with (first
      | (go_at_call 64;refine C.mono ?_;rintro e w' ⟨rfl,rfl⟩)
      | (go_at_call 65;refine P.mono ?_;rintro e w' ⟨rfl,rfl⟩)
      | (go_at_call 66;refine Q.mono ?_;rintro e w' ⟨rfl,rfl⟩))
     go_round
     case rel=>exact ⟨k + m,by omega,by go_num,HL⟩
     case measure=>simp [intOf];omega
    | false=>
     rw [hq] at P
     have HL:Hid (Zf1 (ls s)=k):=hid (by
      rw [hd] at hq
      unfold Zf1
      rw [HK.out,hd,Zq1 _ _ hp hq,← hd,List.length_drop,ZaR]
      omega)
     rw [← HE.out] at P
     clear hp hq hd HD HK Q
     go_wp2_with (first
      | (go_at_call 64;refine C.mono ?_;rintro e w' ⟨rfl,rfl⟩)
      | (go_at_call 65;refine P.mono ?_;rintro e w' ⟨rfl,rfl⟩))
     go_ret
     exact ⟨Zhp (by rw [HL.out]),rfl⟩
  ·have HL:Hid (Zf1 (ls s)=k):=hid (by
    have:(ls s).drop k=[]:=List.drop_eq_nil_of_le (by rw [ZaR];omega)
    unfold Zf1
    rw [HK.out,this,ZaR]
    simp [skip];omega)
   clear HK
   go_wp2
   go_ret
   exact ⟨Zhp (by rw [HL.out]),rfl⟩
open Go.RowKit L7
def elem:Bs→UInt8 × Nat
 | []=>(0,0)
 | b::r=>if b == 10 || b == 34 then (0,0) else if b != 92 then (b,1) else match r with
  | []=>(0,0)
  | c::_=>match esc c with
   | none=>(0,0)
   | some e=>(e,2)
theorem Zuc (l:Bs) (h:(elem l).2=0):lit l=if l.head?=some 34 then some ([],l.tail) else none:=by
 match l with
 | []=>rfl
 | [b]=>
  by_cases hb:b=34
  ·subst hb;rfl
  ·simp [lit,hb]
 | b::c::s=>
  by_cases hb:b=34
  ·subst hb;rfl
  ·by_cases h2:b=10
   ·subst h2;simp [lit]
   ·by_cases h3:b=92
    ·subst h3
     cases he:esc c with
     | none=>simp [lit,he]
     | some e=>simp [elem,he] at h
    ·simp [elem,hb,h2,h3] at h
theorem Zyk (l:Bs) (c:UInt8) (n:Nat) (h:elem l=(c,n + 1)):n + 1≤l.length∧lit l=(lit (l.drop (n + 1))).map fun x=>(c::x.1,x.2):=by
 match l with
 | []=>simp [elem] at h
 | [b]=>
  by_cases hb:b=34
  ·subst hb;simp [elem] at h
  ·by_cases h2:b=10
   ·subst h2;simp [elem] at h
   ·by_cases h3:b=92
    ·subst h3;simp [elem] at h
    ·simp [elem,hb,h2,h3] at h
     obtain ⟨rfl,rfl⟩:=h
     simp [lit,hb]
 | b::d::s=>
  by_cases hb:b=34
  ·subst hb;simp [elem] at h
  ·by_cases h2:b=10
   ·subst h2;simp [elem] at h
   ·by_cases h3:b=92
    ·subst h3
     cases he:esc d with
     | none=>simp [elem,he] at h
     | some e=>
      simp [elem,he] at h
      obtain ⟨rfl,h⟩:=h
      obtain rfl:n=1:=by omega
      simp [lit,he]
    ·simp [elem,hb,h2,h3] at h
     obtain ⟨rfl,rfl⟩:=h
     simp [lit,hb,h2,h3]
theorem Zyx (w:World):Calls prog 70 #[.string ⟨#[]⟩] w fun e w'=>e=.returned (.tuple #[.int .u8 0,.int .i64 0])∧w=w':=by
 go_enter func70,ntmps70
 go_wp2
 go_ret2
 exact ⟨rfl,rfl⟩
theorem Zy7 (s:ByteArray) (w:World) (h0:1≤s.size) (he:s.toList.isEmpty=false) (h1:((s[0].toNat:Int) == 10)=true) :
  Calls prog 70 #[.string s] w fun e w'=>e=.returned (.tuple #[.int .u8 0,.int .i64 0])∧w=w':=by
 go_enter func70,ntmps70
 go_wp2
 go_ret2
 exact ⟨rfl,rfl⟩
theorem Zzz (s:ByteArray) (w:World) (h0:1≤s.size) (he:s.toList.isEmpty=false) (h1:((s[0].toNat:Int) == 10)=false) (h2:((s[0].toNat:Int) == 34)=true) :
  Calls prog 70 #[.string s] w fun e w'=>e=.returned (.tuple #[.int .u8 0,.int .i64 0])∧w=w':=by
 go_enter func70,ntmps70
 go_wp2
 go_ret2
 exact ⟨rfl,rfl⟩
theorem Zut (s:ByteArray) (w:World) (h0:1≤s.size) (he:s.toList.isEmpty=false) (h1:((s[0].toNat:Int) == 10)=false) (h2:((s[0].toNat:Int) == 34)=false) (h3:((s[0].toNat:Int) != 92)=true) :
  Calls prog 70 #[.string s] w fun e w'=>e=.returned (.tuple #[.int .u8 (s[0].toNat:Int),.int .i64 1])∧w=w':=by
 go_enter func70,ntmps70
 go_wp2
 go_ret2
 exact ⟨rfl,rfl⟩
theorem Zyy (s:ByteArray) (w:World) (h0:1≤s.size) (he:s.toList.isEmpty=false) (h1:((s[0].toNat:Int) == 10)=false) (h2:((s[0].toNat:Int) == 34)=false) (h3:((s[0].toNat:Int) != 92)=false) (h4:((s.size:Int) == 1)=true) :
  Calls prog 70 #[.string s] w fun e w'=>e=.returned (.tuple #[.int .u8 0,.int .i64 0])∧w=w':=by
 go_enter func70,ntmps70
 go_wp2
 go_ret2
 exact ⟨rfl,rfl⟩
theorem Zw5 (s:ByteArray) (w:World) (h0:2≤s.size) (he:s.toList.isEmpty=false) (h1:((s[0].toNat:Int) == 10)=false) (h2:((s[0].toNat:Int) == 34)=false) (h3:((s[0].toNat:Int) != 92)=false) (h4:((s.size:Int) == 1)=false) (h5:s[1]=110) :
  Calls prog 70 #[.string s] w fun e w'=>e=.returned (.tuple #[.int .u8 10,.int .i64 2])∧w=w':=by
 have C:Calls prog 127 #[.string ⟨#[110,116,34,92]⟩,.int .u8 (s[1].toNat:Int)] w fun e w'=>e=.returned (.int .i64 0)∧w=w':=by
  have:=ZcF ⟨#[110,116,34,92]⟩ s[1] w
  rwa [show Lib.indexByte (ls ⟨#[110,116,34,92]⟩) s[1]=0 by rw [h5];decide] at this
 clear h5
 go_enter func70,ntmps70
 go_wp2_with (go_at_call 127;refine C.mono ?_;rintro e w' ⟨rfl,rfl⟩)
 go_ret2
 exact ⟨rfl,rfl⟩
theorem Zw4 (s:ByteArray) (w:World) (h0:2≤s.size) (he:s.toList.isEmpty=false) (h1:((s[0].toNat:Int) == 10)=false) (h2:((s[0].toNat:Int) == 34)=false) (h3:((s[0].toNat:Int) != 92)=false) (h4:((s.size:Int) == 1)=false) (h5:s[1]=116) :
  Calls prog 70 #[.string s] w fun e w'=>e=.returned (.tuple #[.int .u8 9,.int .i64 2])∧w=w':=by
 have C:Calls prog 127 #[.string ⟨#[110,116,34,92]⟩,.int .u8 (s[1].toNat:Int)] w fun e w'=>e=.returned (.int .i64 1)∧w=w':=by
  have:=ZcF ⟨#[110,116,34,92]⟩ s[1] w
  rwa [show Lib.indexByte (ls ⟨#[110,116,34,92]⟩) s[1]=1 by rw [h5];decide] at this
 clear h5
 go_enter func70,ntmps70
 go_wp2_with (go_at_call 127;refine C.mono ?_;rintro e w' ⟨rfl,rfl⟩)
 go_ret2
 exact ⟨rfl,rfl⟩
theorem Zw3 (s:ByteArray) (w:World) (h0:2≤s.size) (he:s.toList.isEmpty=false) (h1:((s[0].toNat:Int) == 10)=false) (h2:((s[0].toNat:Int) == 34)=false) (h3:((s[0].toNat:Int) != 92)=false) (h4:((s.size:Int) == 1)=false) (h5:s[1]=34) :
  Calls prog 70 #[.string s] w fun e w'=>e=.returned (.tuple #[.int .u8 34,.int .i64 2])∧w=w':=by
 have C:Calls prog 127 #[.string ⟨#[110,116,34,92]⟩,.int .u8 (s[1].toNat:Int)] w fun e w'=>e=.returned (.int .i64 2)∧w=w':=by
  have:=ZcF ⟨#[110,116,34,92]⟩ s[1] w
  rwa [show Lib.indexByte (ls ⟨#[110,116,34,92]⟩) s[1]=2 by rw [h5];decide] at this
 clear h5
 go_enter func70,ntmps70
 go_wp2_with (go_at_call 127;refine C.mono ?_;rintro e w' ⟨rfl,rfl⟩)
 go_ret2
 exact ⟨rfl,rfl⟩
theorem Zw2 (s:ByteArray) (w:World) (h0:2≤s.size) (he:s.toList.isEmpty=false) (h1:((s[0].toNat:Int) == 10)=false) (h2:((s[0].toNat:Int) == 34)=false) (h3:((s[0].toNat:Int) != 92)=false) (h4:((s.size:Int) == 1)=false) (h5:s[1]=92) :
  Calls prog 70 #[.string s] w fun e w'=>e=.returned (.tuple #[.int .u8 92,.int .i64 2])∧w=w':=by
 have C:Calls prog 127 #[.string ⟨#[110,116,34,92]⟩,.int .u8 (s[1].toNat:Int)] w fun e w'=>e=.returned (.int .i64 3)∧w=w':=by
  have:=ZcF ⟨#[110,116,34,92]⟩ s[1] w
  rwa [show Lib.indexByte (ls ⟨#[110,116,34,92]⟩) s[1]=3 by rw [h5];decide] at this
 clear h5
 go_enter func70,ntmps70
 go_wp2_with (go_at_call 127;refine C.mono ?_;rintro e w' ⟨rfl,rfl⟩)
 go_ret2
 exact ⟨rfl,rfl⟩
theorem Zyz (s:ByteArray) (w:World) (h0:2≤s.size) (he:s.toList.isEmpty=false) (h1:((s[0].toNat:Int) == 10)=false) (h2:((s[0].toNat:Int) == 34)=false) (h3:((s[0].toNat:Int) != 92)=false) (h4:((s.size:Int) == 1)=false) (h5:esc s[1]=none) :
  Calls prog 70 #[.string s] w fun e w'=>e=.returned (.tuple #[.int .u8 0,.int .i64 0])∧w=w':=by
 have C:Calls prog 127 #[.string ⟨#[110,116,34,92]⟩,.int .u8 (s[1].toNat:Int)] w fun e w'=>e=.returned (.int .i64 (-1))∧w=w':=by
  have:=ZcF ⟨#[110,116,34,92]⟩ s[1] w
  have e:∀c:UInt8,esc c=none→Lib.indexByte [110,116,34,92] c = -1:=by
   intro c h
   by_cases a:c=110
   ·subst a;cases h
   by_cases b:c=116
   ·subst b;cases h
   by_cases d:c=34
   ·subst d;cases h
   by_cases f:c=92
   ·subst f;cases h
   have a':=Ne.symm a
   have b':=Ne.symm b
   have d':=Ne.symm d
   have f':=Ne.symm f
   simp [Lib.indexByte,a',b',d',f']
  rwa [show Lib.indexByte (ls ⟨#[110,116,34,92]⟩) s[1] = -1 from e _ h5] at this
 clear h5
 go_enter func70,ntmps70
 go_wp2_with (go_at_call 127;refine C.mono ?_;rintro e w' ⟨rfl,rfl⟩)
 go_ret2
 exact ⟨rfl,rfl⟩
theorem Zn5 (s:ByteArray) (w:World):Calls prog 70 #[.string s] w fun e w'=>e=.returned (.tuple #[.int .u8 ((elem (ls s)).1.toNat:Int),.int .i64 ((elem (ls s)).2:Nat)])∧w=w':=by
 by_cases hz:s.size=0
 ·have:s=⟨#[]⟩:=Zo2 (List.eq_nil_of_length_eq_zero hz)
  subst this
  exact Zyx w
 ·have h0:1≤s.size:=by omega
  have hl:ls s=s[0]::(ls s).drop 1:=by have:=Zif s 0 h0;simpa using this
  have he:s.toList.isEmpty=false:=by rw [show s.toList=ls s by rw [ByteArray.toList_eq];rfl,hl];rfl
  have nb:∀k:Nat,k < 256→¬ s[0]=UInt8.ofNat k→((s[0].toNat:Int) == (k:Int))=false:=fun k hk h=>by
   rw [← ZhP k s[0] hk];simpa using h
  have yb:∀k:Nat,k < 256→s[0]=UInt8.ofNat k→((s[0].toNat:Int) == (k:Int))=true:=fun k hk h=>by
   rw [← ZhP k s[0] hk];simpa using h
  by_cases b1:s[0]=10
  ·rw [hl,b1];exact Zy7 s w h0 he (yb 10 (by decide) b1)
  by_cases b2:s[0]=34
  ·rw [hl,b2];exact Zzz s w h0 he (nb 10 (by decide) b1) (yb 34 (by decide) b2)
  by_cases b3:s[0]=92
  ·have h92:((s[0].toNat:Int) != 92)=false:=by rw [bne,show ((s[0].toNat:Int) == 92)=true from yb 92 (by decide) b3];rfl
   by_cases h4:s.size=1
   ·have:(ls s).drop 1=[]:=List.drop_eq_nil_of_le (by rw [ZaR];omega)
    rw [hl,b3,this]
    exact Zyy s w h0 he (nb 10 (by decide) b1) (nb 34 (by decide) b2) h92 (by rw [h4];rfl)
   ·have h2:2≤s.size:=by omega
    have hl2:=Zif s 1 h2
    have h41:((s.size:Int) == 1)=false:=by simpa using (by omega:¬ (s.size:Int)=1)
    rw [hl,b3,hl2]
    by_cases d0:s[1]=110
    ·rw [d0];exact Zw5 s w h2 he (nb 10 (by decide) b1) (nb 34 (by decide) b2) h92 h41 d0
    by_cases d1:s[1]=116
    ·rw [d1];exact Zw4 s w h2 he (nb 10 (by decide) b1) (nb 34 (by decide) b2) h92 h41 d1
    by_cases d2:s[1]=34
    ·rw [d2];exact Zw3 s w h2 he (nb 10 (by decide) b1) (nb 34 (by decide) b2) h92 h41 d2
    by_cases d3:s[1]=92
    ·rw [d3];exact Zw2 s w h2 he (nb 10 (by decide) b1) (nb 34 (by decide) b2) h92 h41 d3
    have hn:esc s[1]=none:=by simp [esc,d0,d1,d2,d3]
    have:=Zyz s w h2 he (nb 10 (by decide) b1) (nb 34 (by decide) b2) h92 h41 hn
    rw [show elem (92::s[1]::(ls s).drop (1 + 1))=(0,0) by simp [elem,hn]]
    exact this
  ·have:=Zut s w h0 he (nb 10 (by decide) b1) (nb 34 (by decide) b2) (by rw [bne,show ((s[0].toNat:Int) == 92)=false from nb 92 (by decide) b3];rfl)
   rw [hl,show elem (s[0]::(ls s).drop 1)=(s[0],1) by simp [elem,b1,b2,b3]]
   exact this
theorem Zp2 (s:ByteArray) (w:World) (hs:s.size≤100000000):Calls prog 73 #[.string s] w fun e w'=>e=.returned (.bool (ZbM (ls s)))∧w=w':=by
 by_cases hz:s.size=0
 ·have:s=⟨#[]⟩:=Zo2 (List.eq_nil_of_length_eq_zero hz)
  subst this
  go_enter func73,ntmps73
  go_wp2
  go_ret
  exact ⟨rfl,rfl⟩
 ·have h0:1≤s.size:=by omega
  have hl:ls s=s[0]::(ls s).drop 1:=by have:=Zif s 0 h0;simpa using this
  have he:s.toList.isEmpty=false:=by rw [show s.toList=ls s by rw [ByteArray.toList_eq];rfl,hl];rfl
  have he2:(!s.toList.isEmpty)=true:=by rw [he];rfl
  have C:=ZgB s[0] w
  have D:=Zh6 s w hs
  have hle:=ZlJ Zdw (ls s)
  rw [ZaR] at hle
  have HN:Hid (ZbM (ls s)=(Ziz s[0] && decide (((ls s).takeWhile Zdw).length=s.size))):=hid (by
   rw [← ZaR s,hl]
   cases ha:Ziz s[0] with
   | false=>simp [ZbM,ha]
   | true=>
    have hn:Zdw s[0]=true:=by simp [Zdw,ha]
    have al:∀l:Bs,l.all Zdw=decide ((l.takeWhile Zdw).length=l.length):=by
     intro l
     induction l with
     | nil=>rfl
     | cons a l ih=>
      cases hb:Zdw a <;> simp [List.takeWhile,hb,ih]
    simp only [ZbM,ha,List.takeWhile,hn,Bool.true_and,List.length_cons,al]
    simp)
  obtain ⟨m,hm⟩:∃m,m=((ls s).takeWhile Zdw).length:=⟨_,rfl⟩
  rw [← hm] at D HN hle
  clear hm hl hz
  cases ha:Ziz s[0] with
  | false=>
   rw [ha] at C HN
   clear ha
   go_enter func73,ntmps73
   go_wp2_with (go_at_call 34;refine C.mono ?_;rintro e w' ⟨rfl,rfl⟩)
   go_ret
   exact ⟨ZbJ (by rw [HN.out];rfl),rfl⟩
  | true=>
   rw [ha] at C HN
   clear ha
   go_enter func73,ntmps73
   go_wp2_with (first
    | (go_at_call 34;refine C.mono ?_;rintro e w' ⟨rfl,rfl⟩)
    | (go_at_call 67;refine D.mono ?_;rintro e w' ⟨rfl,rfl⟩))
   go_ret
   exact ⟨ZbJ (by rw [HN.out,Bool.eq_iff_iff];simp;omega),rfl⟩
open Go.RowKit L7
def Bd (B b:Nat) (l:Bs) (w:World):Prop:=Lib.IsBuilderF 64 5 B b (Lib.byteCells l) w
theorem ZhS {B b:Nat} {bs:List Value} {w w':World} (h:Lib.IsBuilderF 64 5 B b bs w) (hk:∀(k:Nat) (c:Array Value) (t:TypeId) (fz:Nat × Nat),w.heap[k]?=some (Obj.cells c t fz)→t=64∨t=5→w'.heap[k]?=w.heap[k]?):Lib.IsBuilderF 64 5 B b bs w':=by
 have one:∀p,Lib.BuilderAtF 64 5 B b p bs w→Lib.BuilderAtF 64 5 B b p bs w':=by
  intro p h
  obtain ⟨hB,v,hb,hown,hne⟩:=h
  refine ⟨hB,v,(hk b _ _ _ hb (.inl rfl)).trans hb,⟨hown.1,?_⟩,hne⟩
  rcases hown.2 with hn | ⟨g,cap,cur,fz,hv,hbg,hg,rest⟩
  ·exact .inl hn
  ·exact .inr ⟨g,cap,cur,fz,hv,hbg,(hk g _ _ _ hg (.inr rfl)).trans hg,rest⟩
 exact h.elim (fun x=>.inl (one _ x)) (fun x=>.inr (one _ x))
theorem Bd.below {B b:Nat} {l:Bs} {w w':World} (h:Bd B b l w) (hk:Below w.heap.size w w'):Bd B b l w':=
 ZhS h fun k _ _ _ e _=>hk.block k (Array.getElem?_eq_some_iff.1 e).1
theorem Bd.alloc {B b:Nat} {l:Bs} {w:World} (h:Bd B b l w) (o:Obj):Bd B b l (w.alloc o):=h.below ((Below.refl _ _).alloc (Nat.le_refl _) o)
theorem Bd.set {B b g i:Nat} {l:Bs} {w:World} {c:Array Value} {t:TypeId} (h:Bd B b l w) (hg:Is w g t c) (ht:t≠64) (ht5:t≠5) (u:Value):Bd B b l (w.setCell ⟨g,i,none⟩ u):=
 ZhS h fun k x t' fz e ht'=>Below.heap_setCell w ⟨g,i,none⟩ u k (by
  rintro rfl
  have hg':w.heap[k]?=_:=hg
  rw [hg'] at e
  injection e with e
  injection e with _ e _
  subst e
  rcases ht' with h | h <;> contradiction)
theorem Bd.fresh (w:World):Bd w.heap.size w.heap.size [] (w.alloc (.cells #[.pointer none,.slice none 0 0] 64)):=Lib.IsBuilderF.of (Lib.fresh_isBuilder 64 5 w)
theorem ZiZ {B b:Nat} {l:Bs} {w:World} (h:Bd B b l w) (c:UInt8) (hl:l.length≤100000000) (hB:B≤w.heap.size) :
  Calls prog 41 #[.pointer (some ⟨b,0,none⟩),.int .u8 (c.toNat:Int)] w fun e w'=>e=.returned .nilIface∧Bd B b (l++[c]) w'∧Below B w w':=
 (Tryz.WriteByte_k B b _ c.toNat w h (by rw [Lib.byteCells_length];omega) hB).mono fun e w' k=>⟨k.1,by
  have:=k.2.1
  unfold Bd
  rw [Lib.byteCells_append]
  exact .inr this,k.2.2.1⟩
theorem ZjM {B b:Nat} {l:Bs} {w:World} (h:Bd B b l w) (c:UInt8) (n:Int) (hn:(c.toNat:Int)=n) (hl:l.length≤100000000) (hB:B≤w.heap.size) :
  Calls prog 41 #[.pointer (some ⟨b,0,none⟩),.int .u8 n] w fun e w'=>e=.returned .nilIface∧Bd B b (l++[c]) w'∧Below B w w':=by
 rw [← hn];exact ZiZ h c hl hB
theorem ZuO {B b:Nat} {l:Bs} {w:World} (h:Bd B b l w) (x:ByteArray) (hl:l.length + x.size≤100000000) (hB:B≤w.heap.size) :
  Calls prog 42 #[.pointer (some ⟨b,0,none⟩),.string x] w fun e w'=>e=.returned (.tuple #[.int .i64 x.size,.nilIface])∧Bd B b (l++ls x) w'∧Below B w w':=
 (Tryz.WriteString_k B b _ x w h (by rw [Lib.byteCells_length];omega) hB).mono fun e w' k=>⟨k.1,by
  have:=k.2.1
  unfold Bd
  rw [Lib.byteCells_append]
  exact .inr this,k.2.2.1⟩
theorem Zng {B b:Nat} {l:Bs} {w:World} (h:Bd B b l w) (hB:B≤w.heap.size) :
  Calls prog 44 #[.pointer (some ⟨b,0,none⟩)] w fun e w'=>e=.returned (.string (mk l))∧Bd B b l w'∧Below B w w':=
 (Tryz.String_k B b l w h hB).mono fun _ _ k=>⟨k.1,k.2.1,k.2.2.1⟩
theorem ZwC {B b:Nat} {l:Bs} {w:World} (h:Bd B b l w) :
  Calls prog 71 #[.pointer (some ⟨b,0,none⟩)] w fun e w'=>e=.returned (.int .i64 (l.length:Nat))∧w=w':=
 (Tryz.Len_k B b _ w h).mono fun _ _ k=>⟨by rw [k.1,Lib.byteCells_length],k.2.symm⟩
theorem ZkF {a b:ByteArray} (h:a=b):Ending.returned (.string a)=Ending.returned (.string b):=by rw [h]
theorem ZwI (c:UInt8):(qbyte c=[c]∧Lib.indexByte [10,9,34,92] c = -1)∨
  (c=10∧Lib.indexByte [10,9,34,92] c=0∧qbyte c=[92,110])∨(c=9∧Lib.indexByte [10,9,34,92] c=1∧qbyte c=[92,116])∨
  (c=34∧Lib.indexByte [10,9,34,92] c=2∧qbyte c=[92,34])∨(c=92∧Lib.indexByte [10,9,34,92] c=3∧qbyte c=[92,92]):=by
 by_cases a:c=10
 ·subst a;exact .inr (.inl ⟨rfl,by decide,rfl⟩)
 by_cases b:c=9
 ·subst b;exact .inr (.inr (.inl ⟨rfl,by decide,rfl⟩))
 by_cases d:c=34
 ·subst d;exact .inr (.inr (.inr (.inl ⟨rfl,by decide,rfl⟩)))
 by_cases f:c=92
 ·subst f;exact .inr (.inr (.inr (.inr ⟨rfl,by decide,rfl⟩)))
 refine .inl ⟨by simp [qbyte,a,b,d,f],?_⟩
 have a':=Ne.symm a
 have b':=Ne.symm b
 have d':=Ne.symm d
 have f':=Ne.symm f
 simp [Lib.indexByte,a',b',d',f']
theorem ZpK (l:Bs) (c:UInt8):qbody (l++[c])=qbody l++qbyte c:=by simp [qbody]
theorem ZtA (c:UInt8):(qbyte c).length≤2:=by
 unfold qbyte;split
 ·decide
 ·split
  ·decide
  ·split
   ·decide
   ·split
    ·decide
    ·exact Nat.le_succ 1
theorem ZkU (l:Bs):(qbody l).length≤2 * l.length:=by
 induction l with
 | nil=>decide
 | cons a l ih=>
  have:=ZtA a
  have e:qbody (a::l)=qbyte a++qbody l:=rfl
  rw [e,List.length_append,List.length_cons];omega
theorem ZqR (s:ByteArray) (k:Nat) (h:k < s.size):(ls s).take (k + 1)=(ls s).take k++[s[k]]:=by
 rw [List.take_succ_eq_append_getElem (show k < (ls s).length from h)];rfl
theorem ZpJ (s:ByteArray) (w:World) (hs:s.size≤10000000) :
  Calls prog 76 #[.string s] w fun e w'=>e=.returned (.string (mk (34::(qbody (ls s)++[34]))))∧Below w.heap.size w w':=by
 have F:=hid (Bd.fresh w)
 have B0:=hid ((Below.refl w.heap.size w).alloc (Nat.le_refl _) (.cells #[.pointer none,.slice none 0 0] 64))
 go_enter func76,ntmps76
 go_wp2_with (go_at_call 41;(with_reducible refine (ZjM F.out 34 34 rfl (by decide) (by simp)).mono ?_);rintro e w1 ⟨rfl,h1,h2⟩;have F1:Hid (Bd w.heap.size w.heap.size (34::qbody ((ls s).take 0)) w1):=hid h1;have B1:=hid (B0.out.trans h2);clear h1 h2)
 go_loopw [9] (fun i wr=>∃k:Nat,k≤s.size∧i=.int .i64 k∧Hid (Bd w.heap.size w.heap.size (34::qbody ((ls s).take k)) wr)∧Hid (Below w.heap.size w wr)) (fun i _=>s.size - (intOf i).toNat)
 case atStart=>exact ⟨0,Nat.zero_le _,rfl,F1,B1⟩
 case round=>
  clear F F1 B0 B1
  obtain ⟨k,hk,rfl,F1,B1⟩:=hrel
  have hsz:=B1.out.size
  by_cases hlt:k < s.size
  ·have C:=ZcF ⟨#[10,9,34,92]⟩ s[k] wr
   have hln:(34::qbody ((ls s).take k)).length≤30000000:=by
    have h1:=ZkU ((ls s).take k)
    have h2:((ls s).take k).length≤s.size:=by rw [List.length_take,ZaR];omega
    simp only [List.length_cons];omega
   rw [show ls (⟨#[10,9,34,92]⟩:ByteArray)=[10,9,34,92] from rfl] at C
   have HT:=ZqR s k hlt
   obtain ⟨acc,ha⟩:∃acc,acc=34::qbody ((ls s).take k):=⟨_,rfl⟩
   have HN:Hid (34::qbody ((ls s).take (k + 1))=acc++qbyte s[k]):=hid (by rw [HT,ZpK,ha];rfl)
   rw [← ha] at F1 hln
   clear HT ha
   rcases ZwI s[k] with ⟨hq,hi⟩ | ⟨hc,hi,hq⟩ | ⟨hc,hi,hq⟩ | ⟨hc,hi,hq⟩ | ⟨hc,hi,hq⟩
   ·rw [hi] at C
    rw [hq] at HN
    clear hi hq
    go_wp2_with (first
     | (go_at_call 127;refine C.mono ?_;rintro e w' ⟨rfl,rfl⟩)
     | (go_at_call 41;(with_reducible refine (ZiZ F1.out _ (by omega) hsz).mono ?_);rintro e w2 ⟨rfl,h1,h2⟩;have F2:=hid h1;have B2:=hid (B1.out.trans h2);clear h1 h2))
    go_roundw
    case rel=>exact ⟨k + 1,by omega,by go_num,by rw [HN.out];exact F2,B2⟩
    case measure=>simp [intOf];omega
   ·rw [hi] at C
    rw [hq] at HN
    clear hi hq hc
    go_wp2_with (first
     | (go_at_call 127;refine C.mono ?_;rintro e w' ⟨rfl,rfl⟩)
     | (go_at_call 41;have F2':=F2;(with_reducible refine (ZiZ F2.out _ (by simp;omega) hsz2).mono ?_);rintro e w3 ⟨rfl,h1,h2⟩;have F3:Hid (Bd w.heap.size w.heap.size ((acc++[92])++[110]) w3):=hid h1;have B3:=hid (B2.out.trans h2);clear h1 h2)
     | (go_at_call 41;(with_reducible refine (ZjM F1.out 92 92 rfl (by omega) hsz).mono ?_);rintro e w2 ⟨rfl,h1,h2⟩;have F2:=hid h1;have B2:=hid (B1.out.trans h2);have hsz2:=Nat.le_trans hsz h2.size;clear h1 h2))
    go_roundw
    case rel=>exact ⟨k + 1,by omega,by go_num,by rw [HN.out];have:=F3.out;rw [List.append_assoc] at this;exact hid this,B3⟩
    case measure=>simp [intOf];omega
   ·rw [hi] at C
    rw [hq] at HN
    clear hi hq hc
    go_wp2_with (first
     | (go_at_call 127;refine C.mono ?_;rintro e w' ⟨rfl,rfl⟩)
     | (go_at_call 41;have F2':=F2;(with_reducible refine (ZiZ F2.out _ (by simp;omega) hsz2).mono ?_);rintro e w3 ⟨rfl,h1,h2⟩;have F3:Hid (Bd w.heap.size w.heap.size ((acc++[92])++[116]) w3):=hid h1;have B3:=hid (B2.out.trans h2);clear h1 h2)
     | (go_at_call 41;(with_reducible refine (ZjM F1.out 92 92 rfl (by omega) hsz).mono ?_);rintro e w2 ⟨rfl,h1,h2⟩;have F2:=hid h1;have B2:=hid (B1.out.trans h2);have hsz2:=Nat.le_trans hsz h2.size;clear h1 h2))
    go_roundw
    case rel=>exact ⟨k + 1,by omega,by go_num,by rw [HN.out];have:=F3.out;rw [List.append_assoc] at this;exact hid this,B3⟩
    case measure=>simp [intOf];omega
   ·rw [hi] at C
    rw [hq] at HN
    clear hi hq hc
    go_wp2_with (first
     | (go_at_call 127;refine C.mono ?_;rintro e w' ⟨rfl,rfl⟩)
     | (go_at_call 41;have F2':=F2;(with_reducible refine (ZiZ F2.out _ (by simp;omega) hsz2).mono ?_);rintro e w3 ⟨rfl,h1,h2⟩;have F3:Hid (Bd w.heap.size w.heap.size ((acc++[92])++[34]) w3):=hid h1;have B3:=hid (B2.out.trans h2);clear h1 h2)
     | (go_at_call 41;(with_reducible refine (ZjM F1.out 92 92 rfl (by omega) hsz).mono ?_);rintro e w2 ⟨rfl,h1,h2⟩;have F2:=hid h1;have B2:=hid (B1.out.trans h2);have hsz2:=Nat.le_trans hsz h2.size;clear h1 h2))
    go_roundw
    case rel=>exact ⟨k + 1,by omega,by go_num,by rw [HN.out];have:=F3.out;rw [List.append_assoc] at this;exact hid this,B3⟩
    case measure=>simp [intOf];omega
   ·rw [hi] at C
    rw [hq] at HN
    clear hi hq hc
    go_wp2_with (first
     | (go_at_call 127;refine C.mono ?_;rintro e w' ⟨rfl,rfl⟩)
     | (go_at_call 41;have F2':=F2;(with_reducible refine (ZiZ F2.out _ (by simp;omega) hsz2).mono ?_);rintro e w3 ⟨rfl,h1,h2⟩;have F3:Hid (Bd w.heap.size w.heap.size ((acc++[92])++[92]) w3):=hid h1;have B3:=hid (B2.out.trans h2);clear h1 h2)
     | (go_at_call 41;(with_reducible refine (ZjM F1.out 92 92 rfl (by omega) hsz).mono ?_);rintro e w2 ⟨rfl,h1,h2⟩;have F2:=hid h1;have B2:=hid (B1.out.trans h2);have hsz2:=Nat.le_trans hsz h2.size;clear h1 h2))
    go_roundw
    case rel=>exact ⟨k + 1,by omega,by go_num,by rw [HN.out];have:=F3.out;rw [List.append_assoc] at this;exact hid this,B3⟩
    case measure=>simp [intOf];omega
  ·have hk2:k=s.size:=by omega
   have HA:Hid ((34::qbody ((ls s).take k))++[34]=34::(qbody (ls s)++[34])):=hid (by rw [hk2,List.take_of_length_le (by rw [ZaR];omega)];rfl)
   have hln:(34::qbody ((ls s).take k)).length≤30000000:=by
    have h1:=ZkU ((ls s).take k)
    have h2:((ls s).take k).length≤s.size:=by rw [List.length_take,ZaR];omega
    simp only [List.length_cons];omega
   obtain ⟨acc,ha⟩:∃acc,acc=34::qbody ((ls s).take k):=⟨_,rfl⟩
   rw [← ha] at F1 hln HA
   clear ha hk2
   go_wp2_with (first
    | (go_at_call 41;(with_reducible refine (ZjM F1.out 34 34 rfl (by omega) hsz).mono ?_);rintro e w2 ⟨rfl,h1,h2⟩;have F2:=hid h1;have B2:=hid (B1.out.trans h2);have hsz2:=Nat.le_trans hsz h2.size;clear h1 h2)
    | (go_at_call 44;(with_reducible refine (Zng F2.out hsz2).mono ?_);rintro e w3 ⟨rfl,-,h2⟩;have B3:=hid (B2.out.trans h2);clear h2))
   go_ret
   exact ⟨ZkF (by rw [HA.out]),B3.out⟩
open Go.RowKit L7
def Zvv (t:Tk) (n:Int):Array Value:=#[.int .i64 t.k,.string (mk t.t),.int .i64 t.n,.int .i64 n]
theorem Zoa (s:ByteArray) (w:World) (hs:s.size≤100000000) :
  Calls prog 35 #[.string s] w fun e w'=>e=.returned (.tuple #[.agg (Zvv ⟨1,(ls s).takeWhile Zdw,0⟩ 0),.int .i64 (((ls s).takeWhile Zdw).length:Nat)])∧Below w.heap.size w w':=by
 have D:=fun W=>Zh6 s W hs
 have hle:=ZlJ Zdw (ls s)
 rw [ZaR] at hle
 have HE:Hid (s.extract 0 ((ls s).takeWhile Zdw).length=mk ((ls s).takeWhile Zdw)):=hid (by rw [Zfb,ZqM])
 obtain ⟨t,ht⟩:∃t,t=(ls s).takeWhile Zdw:=⟨_,rfl⟩
 rw [← ht] at D HE hle ⊢
 clear ht
 have HD:=hid D
 clear D
 obtain ⟨m,hm⟩:∃m,m=t.length:=⟨_,rfl⟩
 rw [← hm] at HD HE hle ⊢
 clear hm
 unfold Zvv
 rw [← HE.out]
 go_enter func35,ntmps35
 go_wp2_with (go_at_call 67;refine (HD.out _).mono ?_;rintro e w' ⟨rfl,rfl⟩)
 exact bodyPost_ret (v:=.tuple #[.agg #[.int .i64 1,.string (s.extract 0 m),.int .i64 0,.int .i64 0],.int .i64 m]) (by simp [results,go_sem]) rfl ⟨rfl,(Below.refl _ _).alloc (Nat.le_refl _) _⟩
def ZuC (o:Except Nat (Tk × Bs)) (n:Nat):Value:=match o with
 | .error e=>.tuple #[.agg (Zvv ⟨0,[],0⟩ 0),.int .i64 0,.int .i64 (e:Int)]
 | .ok (t,r)=>.tuple #[.agg (Zvv t 0),.int .i64 ((n - r.length:Nat):Int),.int .i64 0]
theorem Zww (b:UInt8) (r:Bs) (k:Nat) (hk:1≤k) (hk2:k≤2) (hl:k≤r.length + 1) (h:ZdI ((b::r).take k)=true) (hn:∀j,k < j→j≤2→j≤r.length + 1→ZdI ((b::r).take j)=false) :
  Zbm b r=.ok (⟨4,(b::r).take k,0⟩,(b::r).drop k):=by
 cases r with
 | nil=>
  obtain rfl:k=1:=by simp at hl;omega
  have h1:mark1 b=true:=h
  simp [Zbm,h1]
 | cons c r=>
  by_cases h1:k=1
  ·subst h1
   have h1:mark1 b=true:=h
   have h2:mark2 b c=false:=hn 2 (by omega) (by omega) (by simp)
   simp [Zbm,h1,h2]
  ·obtain rfl:k=2:=by omega
   have h2:mark2 b c=true:=h
   simp [Zbm,h2]
theorem ZrK (b:UInt8) (r:Bs) (hn:∀j,0 < j→j≤2→j≤r.length + 1→ZdI ((b::r).take j)=false):Zbm b r=.error 2:=by
 have h1:mark1 b=false:=hn 1 (by omega) (by omega) (by omega)
 cases r with
 | nil=>simp [Zbm,h1]
 | cons c r=>
  have h2:mark2 b c=false:=hn 2 (by omega) (by omega) (by simp)
  simp [Zbm,h1,h2]
theorem Zob (s:ByteArray) (b:UInt8) (r:Bs) (hl:ls s=b::r) (w:World) (hs:s.size≤100000000) :
  Calls prog 39 #[.string s] w fun e w'=>e=.returned (ZuC (Zbm b r) s.size)∧Below w.heap.size w w':=by
 have hz:s.size=r.length + 1:=by rw [← ZaR,hl];rfl
 have h0:1≤s.size:=by omega
 have HL:=hid hl
 have HZ:=hid hz
 clear hl hz
 obtain ⟨v,hv⟩:∃v,v=ZuC (Zbm b r) s.size:=⟨_,rfl⟩
 rw [← hv]
 have HV:=hid hv
 clear hv
 go_enter func39,ntmps39
 go_wp2
 go_loop [3] (fun i=>∃k:Nat,k≤2∧k≤s.size∧i=.int .i64 k∧Hid (∀j,k < j→j≤2→j≤s.size→ZdI ((ls s).take j)=false)) (fun i=>(intOf i).toNat)
 case atStart=>exact ⟨min 2 s.size,by omega,by omega,by rw [show (min 2 (s.size:Int))=((min 2 s.size:Nat):Int) by omega],hid (fun j h1 h2 h3=>by omega)⟩
 case round=>
  obtain ⟨k,hk2,hk,rfl,HK⟩:=hrel
  by_cases hlt:0 < k
  ·have C:=fun W=>Zkb (s.extract 0 k) W
   have HE:Hid (s.extract 0 k=mk ((ls s).take k)):=hid (Zfb s k)
   cases hp:ZdI ((ls s).take k) with
   | true=>
    have HC:Hid (∀W,Calls prog 72 #[.string (s.extract 0 k)] W fun e w'=>e=.returned (.bool true)∧W=w'):=hid (fun W=>by
     have:=C W
     rw [HE.out,Zbc,hp] at this
     rwa [HE.out])
    have HV2:Hid (v=.tuple #[.agg #[.int .i64 4,.string (s.extract 0 k),.int .i64 0,.int .i64 0],.int .i64 (k:Nat),.int .i64 0]):=hid (by
     have:=HK.out
     rw [HL.out,HZ.out] at this
     rw [HL.out] at hp
     rw [HV.out,Zww b r k hlt hk2 (by rw [← HZ.out];exact hk) hp this]
     simp only [ZuC,Zvv]
     rw [HE.out,HL.out]
     have:s.size - ((b::r).drop k).length=k:=by have hz:=HZ.out;rw [List.length_drop,List.length_cons];omega
     rw [this])
    clear hp C
    go_wp2_with (go_at_call 72;refine (HC.out _).mono ?_;rintro e w' ⟨rfl,rfl⟩)
    rw [HV2.out]
    exact bodyPost_ret (v:=.tuple #[.agg #[.int .i64 4,.string (s.extract 0 k),.int .i64 0,.int .i64 0],.int .i64 k,.int .i64 0]) (by simp [results,go_sem]) rfl ⟨rfl,(Below.refl _ _).alloc (Nat.le_refl _) _⟩
   | false=>
    have HC:Hid (∀W,Calls prog 72 #[.string (s.extract 0 k)] W fun e w'=>e=.returned (.bool false)∧W=w'):=hid (fun W=>by
     have:=C W
     rw [HE.out,Zbc,hp] at this
     rwa [HE.out])
    have HK2:Hid (∀j,k - 1 < j→j≤2→j≤s.size→ZdI ((ls s).take j)=false):=hid (fun j h1 h2 h3=>by
     by_cases e:j=k
     ·rw [e];exact hp
     ·exact HK.out j (by omega) h2 h3)
    clear hp C
    go_wp2_with (go_at_call 72;refine (HC.out _).mono ?_;rintro e w' ⟨rfl,rfl⟩)
    go_round
    case rel=>exact ⟨k - 1,by omega,by omega,by rw [show ((k:Int) - 1)=((k - 1:Nat):Int) by omega],HK2⟩
    case measure=>simp [intOf];omega
  ·obtain rfl:k=0:=by omega
   have HV2:Hid (v=.tuple #[.agg #[.int .i64 0,.string ⟨#[]⟩,.int .i64 0,.int .i64 0],.int .i64 0,.int .i64 2]):=hid (by
    have:=HK.out
    rw [HL.out,HZ.out] at this
    rw [HV.out,ZrK b r this]
    rfl)
   go_wp2
   rw [HV2.out]
   exact bodyPost_ret (v:=.tuple #[.agg #[.int .i64 0,.string ⟨#[]⟩,.int .i64 0,.int .i64 0],.int .i64 0,.int .i64 2]) (by simp [results,go_sem]) rfl ⟨rfl,(Below.refl _ _).alloc (Nat.le_refl _) _⟩
open Go.RowKit L7
theorem Zvc (c:UInt8):ZcI c=Zgf c:=by
 rw [Zpe,Bool.eq_iff_iff,Zc7];simp;omega
theorem ZyJ (l:Bs):l.all ZcI=l.all Zgf:=by
 induction l with
 | nil=>rfl
 | cons a l ih=>simp [Zvc,ih]
theorem Zxx (p:UInt8→Bool) (l:Bs):(l.takeWhile p).all p=true:=by
 rw [List.all_eq_true];exact fun _ h=>Zip h
theorem ZuI (d:Bs) (hd:d.all ZcI=true) (hne:d≠[]) (h0:¬ (d.head?=some 48∧1 < d.length)):Zfd d=true∧Zoi d=(L7.val d:Nat):=by
 cases d with
 | nil=>exact absurd rfl hne
 | cons c r=>
  rw [ZyJ] at hd
  have hc:=(Zc7 c).1 (by simp at hd;exact hd.1)
  refine ⟨?_,?_⟩
  ·show (if c.toNat=45 then Zqt r else if c.toNat=48 then r.isEmpty else Zqt (c::r))=true
   rw [if_neg (by omega)]
   split
   ·rename_i h48
    have:c=48:=UInt8.toNat_inj.1 h48
    subst this
    cases r with
    | nil=>rfl
    | cons a r=>exact absurd ⟨rfl,by simp⟩ h0
   ·rename_i h48
    show (decide (c.toNat≠48) && (c::r).all Zgf)=true
    rw [hd]
    simpa using h48
  ·show (if c.toNat=45 then -(ZjO 0 r:Int) else (ZjO 0 (c::r):Int))=_
   rw [if_neg (by omega)]
   rfl
theorem ZtQ (d:Bs) (hd:d.all ZcI=true) (hne:d≠[]) (h0:¬ (d.head?=some 48∧1 < d.length)):Zf4 d 0 9007199254740992=if 9007199254740992 < L7.val d then ((0:Int),false) else (((L7.val d:Nat):Int),true):=by
 obtain ⟨h1,h2⟩:=ZuI d hd hne h0
 unfold Zf4
 rw [h1,h2]
 split
 ·rename_i h;rw [if_neg (by omega)]
 ·rename_i h;rw [if_pos (by simp at h;omega)]
theorem ZyT (l:Bs):(l.takeWhile ZcI).length < (l.takeWhile Zdw).length↔ZgC (l.dropWhile ZcI)=true:=by
 induction l with
 | nil=>simp [ZgC]
 | cons a l ih=>
  cases hd:ZcI a with
  | true=>
   have hn:=ZoW hd
   simp only [List.takeWhile,List.dropWhile,hd,hn,List.length_cons]
   rw [← ih];omega
  | false=>
   cases hn:Zdw a <;> simp [List.takeWhile,List.dropWhile,hd,hn,ZgC]
theorem ZuT (p:UInt8→Bool) (l:Bs):(l.takeWhile p).length + (l.dropWhile p).length=l.length:=by
 rw [← List.length_append,List.takeWhile_append_dropWhile]
theorem ZqQ (s:ByteArray) (b:UInt8) (r:Bs) (hl:ls s=b::r) (hb:ZcI b=true):ZdA (b::r.takeWhile ZcI) (r.dropWhile ZcI)=ZdA ((ls s).takeWhile ZcI) ((ls s).dropWhile ZcI):=by
 rw [hl,List.takeWhile,hb,List.dropWhile,hb]
theorem Zqg (s:ByteArray) (m n:Nat) (w:World) (h0:1≤s.size) (h1:m≤100000000)
  (D:Hid (∀W,Calls prog 67 #[.string s,.func (.func 36) #[] #[]] W fun e w'=>e=.returned (.int .i64 (m:Nat))∧W=w'))
  (M:Hid (∀W,Calls prog 67 #[.string s,.func (.func 68) #[] #[]] W fun e w'=>e=.returned (.int .i64 (n:Nat))∧W=w'))
  (h:m < n∨(¬ m < n∧1 < m∧((s[0].toNat:Int) == 48)=true)) :
  Calls prog 37 #[.string s] w fun e w'=>e=.returned (.tuple #[.agg #[.int .i64 0,.string ⟨#[]⟩,.int .i64 0,.int .i64 0],.int .i64 0,.int .i64 2])∧Below w.heap.size w w':=by
 rcases h with h | ⟨h,h3,h4⟩
 all_goals
  go_enter func37,ntmps37
  go_wp2_with (first
   | (go_at_call 67;(with_reducible refine (D.out _).mono ?_);rintro e w' ⟨rfl,rfl⟩)
   | (go_at_call 67;(with_reducible refine (M.out _).mono ?_);rintro e w' ⟨rfl,rfl⟩))
  exact bodyPost_ret (v:=.tuple #[.agg #[.int .i64 0,.string ⟨#[]⟩,.int .i64 0,.int .i64 0],.int .i64 0,.int .i64 2]) (by simp [results,go_sem]) rfl ⟨rfl,(Below.refl _ _).alloc (Nat.le_refl _) _⟩
theorem Zsq (s:ByteArray) (m n:Nat) (x:Int) (ok:Bool) (w:World) (h0:1≤s.size) (h1:m≤s.size)
  (D:Hid (∀W,Calls prog 67 #[.string s,.func (.func 36) #[] #[]] W fun e w'=>e=.returned (.int .i64 (m:Nat))∧W=w'))
  (M:Hid (∀W,Calls prog 67 #[.string s,.func (.func 68) #[] #[]] W fun e w'=>e=.returned (.int .i64 (n:Nat))∧W=w'))
  (P:Hid (∀o:Obj,Calls prog 69 #[.string (s.extract 0 m),.int .i64 0,.int .i64 9007199254740992] (w.alloc o) fun e w'=>e=.returned (.tuple #[.int .i64 x,.bool ok])∧Below (w.heap.size + 1) (w.alloc o) w'))
  (_:s.size≤100000000) (h:¬ m < n) (h':(1 < m∧((s[0].toNat:Int) == 48)=false)∨¬ 1 < m) :
  Calls prog 37 #[.string s] w fun e w'=>e=.returned (if ok then .tuple #[.agg #[.int .i64 2,.string ⟨#[]⟩,.int .i64 x,.int .i64 0],.int .i64 m,.int .i64 0] else .tuple #[.agg #[.int .i64 0,.string ⟨#[]⟩,.int .i64 0,.int .i64 0],.int .i64 0,.int .i64 6])∧Below w.heap.size w w':=by
 rcases h' with ⟨h3,h4⟩ | h3 <;> cases ok
 all_goals
  go_enter func37,ntmps37
  go_wp2_with (first
   | (go_at_call 67;(with_reducible refine (D.out _).mono ?_);rintro e w' ⟨rfl,rfl⟩)
   | (go_at_call 67;(with_reducible refine (M.out _).mono ?_);rintro e w' ⟨rfl,rfl⟩)
   | (go_at_call 69;(with_reducible refine (P.out _).mono ?_);rintro e w1 ⟨rfl,hb⟩;have J:Is w1 w.heap.size 42 #[.int .i64 0,.string ⟨#[]⟩,.int .i64 0,.int .i64 0]:=(Is.fresh w 42 _).below hb (by omega);have y0:=J.at_ 0;have y1:=J.at_ 1;have y2:=J.at_ 2;have y3:=J.at_ 3;have fy0:=J.open_ 0;have fy1:=J.open_ 1;have fy2:=J.open_ 2;have fy3:=J.open_ 3;have hsz:w.heap.size < w1.heap.size:=J.lt;simp at y0 y1 y2 y3;have HB:=hid (((Below.refl w.heap.size w).alloc (Nat.le_refl _) _).trans (hb.mono (by omega)));clear hb J))
  first
   | exact bodyPost_ret (v:=.tuple #[.agg #[.int .i64 0,.string ⟨#[]⟩,.int .i64 0,.int .i64 0],.int .i64 0,.int .i64 6]) (by simp [results,go_sem,y0,y1,y2,y3]) rfl ⟨rfl,(((HB.out.setCell (by simp) _).setCell (by simp) _).setCell (by simp) _).setCell (by simp) _⟩
   | exact bodyPost_ret (v:=.tuple #[.agg #[.int .i64 2,.string ⟨#[]⟩,.int .i64 x,.int .i64 0],.int .i64 m,.int .i64 0]) (by simp [results,go_sem,y0,y1,y2,y3]) rfl ⟨rfl,(((HB.out.setCell (by simp) _).setCell (by simp) _).setCell (by simp) _).setCell (by simp) _⟩
theorem Zvs (d u:Bs) (n:Nat) (h1:d.length + u.length=n) (hd:d.all ZcI=true) (hne:d≠[]) :
  ZuC (ZdA d u) n=if (d.head?=some 48∧1 < d.length)∨ZgC u=true then .tuple #[.agg #[.int .i64 0,.string ⟨#[]⟩,.int .i64 0,.int .i64 0],.int .i64 0,.int .i64 2]
   else if (Zf4 d 0 9007199254740992).2=true then .tuple #[.agg #[.int .i64 2,.string ⟨#[]⟩,.int .i64 (Zf4 d 0 9007199254740992).1,.int .i64 0],.int .i64 (d.length:Nat),.int .i64 0]
   else .tuple #[.agg #[.int .i64 0,.string ⟨#[]⟩,.int .i64 0,.int .i64 0],.int .i64 0,.int .i64 6]:=by
 by_cases h:(d.head?=some 48∧1 < d.length)∨ZgC u=true
 ·rw [if_pos h]
  have:ZdA d u=.error 2:=by unfold ZdA;rw [if_pos (by simpa using h)]
  rw [this];rfl
 ·rw [if_neg h,ZtQ d hd hne (fun k=>h (.inl k))]
  unfold ZdA
  rw [if_neg (by simpa using h)]
  by_cases h2:9007199254740992 < L7.val d
  ·rw [if_pos h2,if_pos h2];rfl
  ·rw [if_neg h2,if_neg h2,if_pos rfl]
   simp only [ZuC,Zvv]
   rw [show n - u.length=d.length by omega]
   rfl
theorem Zqh (s:ByteArray) (b:UInt8) (r:Bs) (hl:ls s=b::r) (hb:ZcI b=true) (w:World) (hw:Lies w) (hs:s.size≤100000000) :
  Calls prog 37 #[.string s] w fun e w'=>e=.returned (ZuC (ZdA (b::r.takeWhile ZcI) (r.dropWhile ZcI)) s.size)∧Below w.heap.size w w':=by
 have h0:1≤s.size:=by rw [← ZaR,hl];simp
 have hs0:s[0]=b:=by
  have:=Zif s 0 h0
  rw [hl] at this
  simpa using this.symm
 rw [ZqQ s b r hl hb]
 have hne:(ls s).takeWhile ZcI≠[]:=by rw [hl,List.takeWhile,hb];simp
 have hh:((ls s).takeWhile ZcI).head?=some b:=by rw [hl,List.takeWhile,hb];rfl
 have hadd:=ZuT ZcI (ls s)
 have hnm:=ZyT (ls s)
 have hle:=ZlJ ZcI (ls s)
 have hle2:=ZlJ Zdw (ls s)
 have hall:=Zxx ZcI (ls s)
 have HE:s.extract 0 ((ls s).takeWhile ZcI).length=mk ((ls s).takeWhile ZcI):=by rw [Zfb,ZqM]
 rw [ZaR] at hle hle2 hadd
 rw [Zvs _ _ _ hadd hall hne,hh]
 have D:=hid (fun W=>ZpN s W hs)
 have M:=hid (fun W=>Zh6 s W hs)
 have h48:((s[0].toNat:Int) == 48)=decide (some b=some (48:UInt8)):=by
  rw [hs0,show ((b.toNat:Int) == 48)=(b == 48) from (ZhP 48 b (by decide)).symm]
  rw [Bool.eq_iff_iff];simp
 by_cases h:(some b=some (48:UInt8)∧1 < ((ls s).takeWhile ZcI).length)∨ZgC ((ls s).dropWhile ZcI)=true
 ·rw [if_pos h]
  refine Zqg s _ _ w h0 (by omega) D M ?_
  by_cases hm:((ls s).takeWhile ZcI).length < ((ls s).takeWhile Zdw).length
  ·exact .inl hm
  ·rcases h with h | h
   ·exact .inr ⟨hm,h.2,by rw [h48];simpa using h.1⟩
   ·exact absurd (hnm.2 h) hm
 ·rw [if_neg h]
  have hm:¬ ((ls s).takeWhile ZcI).length < ((ls s).takeWhile Zdw).length:=fun k=>h (.inr (hnm.1 k))
  refine Zsq s _ _ (Zf4 ((ls s).takeWhile ZcI) 0 9007199254740992).1 (Zf4 ((ls s).takeWhile ZcI) 0 9007199254740992).2 w h0 hle D M (hid fun o=>?_) hs hm ?_
  ·have:=Zrv (s.extract 0 ((ls s).takeWhile ZcI).length) 0 9007199254740992 (by decide) (by decide) (by rw [HE,ZfK];omega) (w.alloc o) (hw.on ((Below.refl _ _).alloc (Nat.le_refl _) _))
   rw [HE] at this ⊢
   have e:(w.alloc o).heap.size=w.heap.size + 1:=by simp
   rw [e] at this
   exact this
  ·by_cases h1:1 < ((ls s).takeWhile ZcI).length
   ·exact .inl ⟨h1,by rw [h48];simpa using fun k=>h (.inl ⟨by rw [k],h1⟩)⟩
   ·exact .inr h1
open Go.RowKit L7
theorem Zn9 (s:ByteArray) (r:Bs) (hl:ls s=34::r) (w:World) (hs:s.size≤1000000) :
  Calls prog 38 #[.string s] w fun e w'=>e=.returned (ZuC (ZeN (lit r)) s.size)∧Below w.heap.size w w':=by
 have hz:s.size=r.length + 1:=by rw [← ZaR,hl];rfl
 have h0:1≤s.size:=by omega
 have hd1:(ls s).drop 1=r:=by rw [hl];rfl
 obtain ⟨v,hv⟩:∃v,v=ZuC (ZeN (lit r)) s.size:=⟨_,rfl⟩
 rw [← hv]
 have HV:=hid hv
 have EL:Hid (∀p W,Calls prog 70 #[.string (s.extract p s.size)] W fun e w'=>e=.returned (.tuple #[.int .u8 ((elem ((ls s).drop p)).1.toNat:Int),.int .i64 ((elem ((ls s).drop p)).2:Nat)])∧W=w'):=hid (fun p W=>by
  have:=Zn5 (s.extract p s.size) W
  rw [Zca,Zbc] at this
  rw [Zca]
  exact this)
 obtain ⟨c0,n0,HX0⟩:∃c n,Hid (elem ((ls s).drop 1)=(c,n)):=⟨_,_,hid rfl⟩
 have E0:Hid (∀W,Calls prog 70 #[.string (s.extract 1 s.size)] W fun e w'=>e=.returned (.tuple #[.int .u8 (c0.toNat:Int),.int .i64 (n0:Nat)])∧W=w'):=hid (fun W=>by
  have:=EL.out 1 W
  rw [HX0.out] at this
  exact this)
 have HL:Hid (lit r=(lit ((ls s).drop 1)).map fun x=>([]++x.1,x.2)):=hid (by rw [hd1];cases lit r <;> simp)
 have F0:Hid (Bd (w.heap.size + 1) (w.heap.size + 1) [] ((w.alloc (.cells #[.int .i64 0,.string ⟨#[]⟩,.int .i64 0,.int .i64 0] 42)).alloc (.cells #[.pointer none,.slice none 0 0] 64))):=hid (by
  have:=Bd.fresh (w.alloc (.cells #[.int .i64 0,.string ⟨#[]⟩,.int .i64 0,.int .i64 0] 42))
  simpa using this)
 have J0:Hid (Is ((w.alloc (.cells #[.int .i64 0,.string ⟨#[]⟩,.int .i64 0,.int .i64 0] 42)).alloc (.cells #[.pointer none,.slice none 0 0] 64)) w.heap.size 42 #[.int .i64 0,.string ⟨#[]⟩,.int .i64 0,.int .i64 0]):=hid ((Is.fresh w 42 _).alloc _)
 have B0:Hid (Below w.heap.size w ((w.alloc (.cells #[.int .i64 0,.string ⟨#[]⟩,.int .i64 0,.int .i64 0] 42)).alloc (.cells #[.pointer none,.slice none 0 0] 64))):=hid (((Below.refl _ _).alloc (Nat.le_refl _) _).alloc (by simp) _)
 have Z0:Hid (w.heap.size + 2≤((w.alloc (.cells #[.int .i64 0,.string ⟨#[]⟩,.int .i64 0,.int .i64 0] 42)).alloc (.cells #[.pointer none,.slice none 0 0] 64)).heap.size):=hid (by simp)
 have HZ:=hid hz
 have HQ:=hid hl
 clear hv hl hd1 hz
 obtain ⟨b0,hb0⟩:∃b0,b0=w.heap.size:=⟨_,rfl⟩
 go_enter func38,ntmps38
 go_wp2_with (go_at_call 70;(with_reducible refine (E0.out _).mono ?_);rintro e w' ⟨rfl,rfl⟩)
 go_loopw [6,7,8] (fun v6 v7 v8 wr=>∃(p:Nat) (acc:Bs) (c:UInt8) (n:Nat),1≤p∧p≤s.size∧acc.length < p∧v6=.int .i64 p∧v7=.int .u8 (c.toNat:Int)∧v8=.int .i64 (n:Nat)∧Hid (elem ((ls s).drop p)=(c,n))∧
  Hid (lit r=(lit ((ls s).drop p)).map fun x=>(acc++x.1,x.2))∧Hid (Bd (w.heap.size + 1) (w.heap.size + 1) acc wr)∧Hid (Is wr w.heap.size 42 #[.int .i64 0,.string ⟨#[]⟩,.int .i64 0,.int .i64 0])∧Hid (Below w.heap.size w wr)∧w.heap.size + 2≤wr.heap.size) (fun v6 _ _ _=>s.size - (intOf v6).toNat)
 case atStart=>exact ⟨1,[],c0,n0,Nat.le_refl _,h0,Nat.zero_lt_one,rfl,rfl,rfl,HX0,HL,F0,J0,B0,Z0.out⟩
 case round=>
  clear HX0 HL F0 J0 B0 Z0 E0
  obtain ⟨p,acc,c,n,hp1,hps,hap,rfl,rfl,rfl,HX,HL,F,J,B,hsz⟩:=hrel
  have hB1:w.heap.size + 1≤wr.heap.size:=by omega
  by_cases hn:0 < n
  ·obtain ⟨m,hm⟩:∃m,n=m + 1:=⟨n - 1,by omega⟩
   have hgo:=Zyk ((ls s).drop p) c m (by rw [HX.out,hm])
   rw [← hm,List.length_drop,ZaR,List.drop_drop] at hgo
   obtain ⟨hlen,hlit⟩:=hgo
   have HL2:Hid (lit r=(lit ((ls s).drop (p + n))).map fun x=>((acc++[c])++x.1,x.2)):=hid (by
    rw [HL.out,hlit]
    cases lit ((ls s).drop (p + n)) <;> simp)
   obtain ⟨c2,n2,HX2⟩:∃c n',Hid (elem ((ls s).drop (p + n))=(c,n')):=⟨_,_,hid rfl⟩
   have E2:Hid (∀W,Calls prog 70 #[.string (s.extract (p + n) s.size)] W fun e w'=>e=.returned (.tuple #[.int .u8 (c2.toNat:Int),.int .i64 (n2:Nat)])∧W=w'):=hid (fun W=>by
    have:=EL.out (p + n) W
    rw [HX2.out] at this
    exact this)
   clear hlit hm HL HX m
   go_wp2_with (first
    | (go_at_call 41;(with_reducible refine (ZiZ F.out _ (by omega) hB1).mono ?_);rintro e w2 ⟨rfl,h1,h2⟩;have F2:=hid h1;have J2:=hid (J.out.below h2 (by omega));have B2:=hid (B.out.trans (h2.mono (by omega)));have hsz2:=Nat.le_trans hsz h2.size;clear h1 h2)
    | (go_at_call 70;(with_reducible refine (E2.out _).mono ?_);rintro e w' ⟨rfl,rfl⟩))
   go_roundw
   case rel=>exact ⟨p + n,acc++[c],c2,n2,by omega,by omega,by simp;omega,by go_num,rfl,rfl,HX2,HL2,F2,J2,B2,hsz2⟩
   case measure=>simp [intOf];omega
  ·obtain rfl:n=0:=by omega
   have hst:=Zuc ((ls s).drop p) (by rw [HX.out])
   have P:=fun W=>ZhK (s.extract p s.size) ⟨#[34]⟩ W
   rw [Zca,Zbc,show ls (⟨#[34]⟩:ByteArray)=[34] from rfl] at P
   rw [← Zca] at P
   have hpx:Lib.hasPrefix ((ls s).drop p) [34]=decide (((ls s).drop p).head?=some 34):=by
    cases (ls s).drop p with
    | nil=>rfl
    | cons a l=>rw [Bool.eq_iff_iff];simp [Lib.hasPrefix,List.isPrefixOf];exact eq_comm
   have htl:((ls s).drop p).tail.length=s.size - p - 1:=by rw [List.length_tail,List.length_drop,ZaR]
   by_cases hh:((ls s).drop p).head?=some 34
   ·rw [if_pos hh] at hst
    rw [hpx,decide_eq_true hh] at P
    have hp3:p < s.size:=by
     apply Nat.lt_of_not_le
     intro hge
     rw [List.drop_eq_nil_of_le (by rw [ZaR];omega)] at hh
     cases hh
    have hlr:lit r=some (acc,((ls s).drop p).tail):=by rw [HL.out,hst];simp
    have PP:=hid P
    have LN:=fun W=>@ZwC (w.heap.size + 1) (w.heap.size + 1) acc W
    have LL:=hid LN
    have hv2:=HV.out
    rw [hlr] at hv2
    clear hst hh hpx P LN hlr HL HX HV
    by_cases hbig:4096 < acc.length
    ·have HV2:Hid (v=.tuple #[.agg #[.int .i64 0,.string ⟨#[]⟩,.int .i64 0,.int .i64 0],.int .i64 0,.int .i64 15]):=hid (by rw [hv2];simp only [ZeN];rw [if_pos hbig];rfl)
     have g1:decide ((4096:Int) < (acc.length:Int))=true:=by simp;omega
     clear hv2 htl
     have y0:=J.out.at_ 0;have y1:=J.out.at_ 1;have y2:=J.out.at_ 2;have y3:=J.out.at_ 3;have fy0:=J.out.open_ 0;have fy1:=J.out.open_ 1;have fy2:=J.out.open_ 2;have fy3:=J.out.open_ 3;have hlt:=J.out.lt;simp at y0 y1 y2 y3
     go_wp2_with (first
      | (go_at_call 65;(with_reducible refine (PP.out _).mono ?_);rintro e w' ⟨rfl,rfl⟩)
      | (go_at_call 71;(with_reducible refine (LL.out _ F.out).mono ?_);rintro e w' ⟨rfl,rfl⟩))
     rw [HV2.out]
     exact bodyPost_ret (v:=.tuple #[.agg #[.int .i64 0,.string ⟨#[]⟩,.int .i64 0,.int .i64 0],.int .i64 0,.int .i64 15]) (by simp [results,go_sem,y0,y1,y2,y3]) rfl ⟨rfl,(((B.out.setCell (by simp) _).setCell (by simp) _).setCell (by simp) _).setCell (by simp) _⟩
    ·have HV2:Hid (v=.tuple #[.agg #[.int .i64 3,.string (mk acc),.int .i64 0,.int .i64 0],.int .i64 ((p:Int) + 1),.int .i64 0]):=hid (by
      rw [hv2];simp only [ZeN];rw [if_neg hbig]
      simp only [ZuC,Zvv]
      rw [htl,show ((s.size - (s.size - p - 1):Nat):Int)=(p:Int) + 1 by omega])
     have g1:decide ((4096:Int) < (acc.length:Int))=false:=by simp;omega
     clear hv2 htl
     go_wp2_with (first
      | (go_at_call 65;(with_reducible refine (PP.out _).mono ?_);rintro e w' ⟨rfl,rfl⟩)
      | (go_at_call 71;(with_reducible refine (LL.out _ F.out).mono ?_);rintro e w' ⟨rfl,rfl⟩)
      | (go_at_call 44;(with_reducible refine (Zng F.out hB1).mono ?_);rintro e w3 ⟨rfl,-,h2⟩;have J3:=hid (J.out.below h2 (by omega));have B3:=hid (B.out.trans (h2.mono (by omega)));have y0:=J3.out.at_ 0;have y1:=J3.out.at_ 1;have y2:=J3.out.at_ 2;have y3:=J3.out.at_ 3;have fy0:=J3.out.open_ 0;have fy1:=J3.out.open_ 1;have fy2:=J3.out.open_ 2;have fy3:=J3.out.open_ 3;have hlt:=J3.out.lt;simp at y0 y1 y2 y3;clear h2))
     rw [HV2.out]
     exact bodyPost_ret (v:=.tuple #[.agg #[.int .i64 3,.string (mk acc),.int .i64 0,.int .i64 0],.int .i64 ((p:Int) + 1),.int .i64 0]) (by simp [results,go_sem,y0,y1,y2,y3]) rfl ⟨rfl,(((B3.out.setCell (by simp) _).setCell (by simp) _).setCell (by simp) _).setCell (by simp) _⟩
   ·rw [if_neg hh] at hst
    rw [hpx,decide_eq_false hh] at P
    have hlr:lit r=none:=by rw [HL.out,hst];rfl
    have PP:=hid P
    have HV2:Hid (v=.tuple #[.agg #[.int .i64 0,.string ⟨#[]⟩,.int .i64 0,.int .i64 0],.int .i64 0,.int .i64 2]):=hid (by rw [HV.out,hlr];rfl)
    clear hst hh hpx P hlr HL HX HV htl
    have y0:=J.out.at_ 0;have y1:=J.out.at_ 1;have y2:=J.out.at_ 2;have y3:=J.out.at_ 3;have fy0:=J.out.open_ 0;have fy1:=J.out.open_ 1;have fy2:=J.out.open_ 2;have fy3:=J.out.open_ 3;have hlt:=J.out.lt;simp at y0 y1 y2 y3
    go_wp2_with (go_at_call 65;(with_reducible refine (PP.out _).mono ?_);rintro e w' ⟨rfl,rfl⟩)
    rw [HV2.out]
    exact bodyPost_ret (v:=.tuple #[.agg #[.int .i64 0,.string ⟨#[]⟩,.int .i64 0,.int .i64 0],.int .i64 0,.int .i64 2]) (by simp [results,go_sem,y0,y1,y2,y3]) rfl ⟨rfl,(((B.out.setCell (by simp) _).setCell (by simp) _).setCell (by simp) _).setCell (by simp) _⟩
open Go.RowKit L7
theorem ZeS {w w':World} {base:Nat} {e:TypeId} {size:Nat} {v:Value} {n:Nat} {xs:List Value} (h:w.ownsRow base e size v n xs) (k:Below w.heap.size w w'):w'.ownsRow base e size v n xs:=
 h.kept (Zaj (r:=none) k) (by cases v.ownBlock <;> simp)
def cells4 (x:Tk × Int):List Value:=[.int .i64 x.1.k,.string (mk x.1.t),.int .i64 x.1.n,.int .i64 x.2]
def ZfA (l:List (Tk × Int)):List Value:=l.flatMap cells4
theorem ZmE (l:List (Tk × Int)):(ZfA l).length=l.length * 4:=by
 induction l with
 | nil=>rfl
 | cons a l ih=>simp only [ZfA,List.flatMap_cons,List.length_append,List.length_cons] at ih ⊢;rw [ih];simp [cells4];omega
theorem Zkc (l:List (Tk × Int)) (x:Tk × Int):ZfA (l++[x])=ZfA l++cells4 x:=by simp [ZfA]
theorem Zuo (l:List (Tk × Int)) (k:Nat) (x:Tk × Int) (h:l[k]?=some x) (j:Nat) (hj:j < 4):(ZfA l)[k * 4 + j]?=(cells4 x)[j]?:=by
 induction l generalizing k with
 | nil=>simp at h
 | cons a l ih=>
  have e:ZfA (a::l)=cells4 a++ZfA l:=rfl
  have e4:(cells4 a).length=4:=rfl
  cases k with
  | zero=>
   simp at h;subst h
   rw [e,List.getElem?_append_left (by omega)]
   simp
  | succ k=>
   rw [e,List.getElem?_append_right (by omega),e4,show (k + 1) * 4 + j - 4=k * 4 + j by omega]
   exact ih k (by simpa using h)
def offs (n:Nat) (l:List (Tk × Nat)):List (Tk × Int):=l.map fun x=>(x.1,((n - x.2:Nat):Int))
def ToksIn (w:World) (top:Nat) (A:Option Addr) (l:List (Tk × Int)):Prop:=
 ∀k x,l[k]?=some x→∃a,A=some a∧a.block < top∧∀j u,(cells4 x)[j]?=some u→w.cell? (a.add (k * 4 + j))=some u
theorem Zdt (a:Addr) (n:Nat):(a.add n).block=a.block:=by
 unfold Addr.add;split <;> rfl
theorem ToksIn.below {w w':World} {top:Nat} {A:Option Addr} {l:List (Tk × Int)} (h:ToksIn w top A l) (hb:Below top w w'):ToksIn w' top A l:=fun k x hk=>by
 obtain ⟨a,h1,h2,h3⟩:=h k x hk
 exact ⟨a,h1,h2,fun j u hu=>(hb.cell (by rw [Zdt];exact h2)).trans (h3 j u hu)⟩
theorem ToksIn.top {w:World} {t1 t2:Nat} {A:Option Addr} {l:List (Tk × Int)} (h:ToksIn w t1 A l) (ht:t1≤t2):ToksIn w t2 A l:=fun k x hk=>by
 obtain ⟨a,h1,h2,h3⟩:=h k x hk
 exact ⟨a,h1,by omega,h3⟩
theorem ToksIn.of_own {w:World} {base n c:Nat} {A:Option Addr} {l:List (Tk × Int)} (h:w.ownsRow base 42 4 (.slice A n c) n (ZfA l)):ToksIn w w.heap.size A l:=fun k x hk=>by
 cases A with
 | none=>
  have h1:=h.1
  rcases h.2 with ⟨_,h2⟩ | ⟨g,cap,cur,h2,_⟩
  ·rw [h2,ZmE] at h1
   have:l=[]:=List.eq_nil_of_length_eq_zero (by omega)
   subst this;simp at hk
  ·cases h2
 | some a=>
  rcases h.2 with ⟨h2,_⟩ | ⟨g,cap,cur,h2,_⟩
  ·cases h2
  ·cases h2
   have hlt:=(h.lt g rfl).2
   refine ⟨_,rfl,hlt,fun j u hu=>?_⟩
   have hj:j < 4:=by
    have:=(List.getElem?_eq_some_iff.1 hu).1
    exact this
   exact h.cells (g:=g) rfl (k * 4 + j) u (by rw [Zuo l k x hk j hj];exact hu)
def Zq6 (r:Except (Nat × Nat) (List (Tk × Nat))) (n:Nat) (A:Option Addr) (c:Nat):Value:=match r with
 | .error (e,k)=>.tuple #[.slice none 0 0,.int .i64 (e:Int),.int .i64 ((n - k:Nat):Int)]
 | .ok l=>.tuple #[.slice A l.length c,.int .i64 0,.int .i64 0]
def okL (r:Except (Nat × Nat) (List (Tk × Nat))):List (Tk × Nat):=match r with
 | .error _=>[]
 | .ok l=>l
theorem info32:(prog.info? 42).map (fun i=>(i.zero,i.size,i.bytes))=some (some (.agg #[.int .i64 0,.string ⟨#[]⟩,.int .i64 0,.int .i64 0]),4,40):=by kernel_rfl
theorem Zs6 (b:UInt8) (r:Bs) (h:Ziz b=true):L7.tok (b::r)=.ok (⟨1,(b::r).takeWhile Zdw,0⟩,(b::r).dropWhile Zdw):=by
 have hn:Zdw b=true:=by simp [Zdw,h]
 rw [L7.tok,if_pos h,List.takeWhile,hn,List.dropWhile,hn]
theorem Zvu (b:UInt8) (r:Bs) (h:Ziz b=false) (h2:ZcI b=true):L7.tok (b::r)=ZdA (b::r.takeWhile ZcI) (r.dropWhile ZcI):=by
 rw [L7.tok,if_neg (by rw [h];decide),if_pos h2]
theorem Zvq (r:Bs):L7.tok (34::r)=ZeN (lit r):=by
 rw [L7.tok,if_neg (by decide),if_neg (by decide),if_pos (by decide)]
theorem Zs7 (b:UInt8) (r:Bs) (h:Ziz b=false) (h2:ZcI b=false) (h3:b≠34):L7.tok (b::r)=Zbm b r:=by
 rw [L7.tok,if_neg (by rw [h];decide),if_neg (by rw [h2];decide),if_neg (by simpa using h3)]
end Go.Proofs.YtaheffiglmglbaaGreatDoor
