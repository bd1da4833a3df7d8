/- Plain, LexM. -/
set_option maxHeartbeats 8000000
set_option maxRecDepth 20000
namespace Go.Proofs.YtaheffiglmglbaaGreatDoor.L7
abbrev Bs:=List UInt8
structure Tk where
 k:Int
 t:Bs
 n:Int
deriving DecidableEq
def Ziz (b:UInt8):Bool:=(97≤b && b≤122) || (65≤b && b≤90)
def ZcI (b:UInt8):Bool:=48≤b && b≤57
def Zdw (b:UInt8):Bool:=Ziz b || ZcI b || b == 95
def Zir (b:UInt8):Bool:=b == 9 || b == 10 || b == 13 || b == 32
def ZbH (b:UInt8):Bool:=b != 10
theorem Zhr {p:UInt8→Bool} (s:Bs):(s.dropWhile p).length≤s.length:=by
 induction s with
 | nil=>simp
 | cons a s ih=>simp only [List.dropWhile];split <;> simp <;> omega
def skip:Bs→Bs
 | []=>[]
 | b::s=>if Zir b then skip s else if b == 47 && s.head? == some 47 then skip (s.dropWhile ZbH) else b::s
termination_by s=>s.length
decreasing_by
 ·simp
 ·have:=Zhr (p:=ZbH) s;simp;omega
def mark1 (b:UInt8):Bool:=b == 40 || b == 41 || b == 123 || b == 125 || b == 91 || b == 93 || b == 44 || b == 46 || b == 58 || b == 59 || b == 63 || b == 95 || b == 61 || b == 43 || b == 45 || b == 42 || b == 47 || b == 37 || b == 60 || b == 62
def mark2 (b c:UInt8):Bool:=(b == 61 && c == 61) || (b == 33 && c == 61) || (b == 60 && c == 61) || (b == 62 && c == 61) || (b == 43 && c == 43) || (b == 61 && c == 62) || (b == 58 && c == 45)
def val (s:Bs):Nat:=s.foldl (fun a b=>a * 10 + (b.toNat - 48)) 0
def esc (c:UInt8):Option UInt8:=if c == 110 then some 10 else if c == 116 then some 9 else if c == 34 then some 34 else if c == 92 then some 92 else none
def lit:Bs→Option (Bs × Bs)
 | []=>none
 | [b]=>if b == 34 then some ([],[]) else none
 | b::c::s=>
  if b == 34 then some ([],c::s)
  else if b == 10 then none
  else if b == 92 then (esc c).bind fun e=>(lit s).map fun x=>(e::x.1,x.2)
  else (lit (c::s)).map fun x=>(b::x.1,x.2)
def ZgC:Bs→Bool
 | []=>false
 | c::_=>Zdw c
def ZdA (d r:Bs):Except Nat (Tk × Bs):=
 if (d.head? == some 48 && decide (1 < d.length)) || ZgC r then .error 2 else if 9007199254740992 < val d then .error 6 else .ok (⟨2,[],val d⟩,r)
def ZeN (o:Option (Bs × Bs)):Except Nat (Tk × Bs):=
 match o with
 | none=>.error 2
 | some (x,r)=>if 4096 < x.length then .error 15 else .ok (⟨3,x,0⟩,r)
def Zbm (b:UInt8):Bs→Except Nat (Tk × Bs)
 | []=>if mark1 b then .ok (⟨4,[b],0⟩,[]) else .error 2
 | c::s=>if mark2 b c then .ok (⟨4,[b,c],0⟩,s) else if mark1 b then .ok (⟨4,[b],0⟩,c::s) else .error 2
def tok:Bs→Except Nat (Tk × Bs)
 | []=>.error 2
 | b::s=>
  if Ziz b then .ok (⟨1,b::s.takeWhile Zdw,0⟩,s.dropWhile Zdw)
  else if ZcI b then ZdA (b::s.takeWhile ZcI) (s.dropWhile ZcI)
  else if b == 34 then ZeN (lit s)
  else Zbm b s
theorem Zwy (n:Nat):∀s:Bs,s.length≤n→∀x r,lit s=some (x,r)→r.length < s.length:=by
 induction n with
 | zero=>
  intro s hs x r h
  have:s=[]:=List.eq_nil_of_length_eq_zero (by omega)
  subst this
  simp [lit] at h
 | succ n ih=>
  intro s hs x r h
  match s,hs,h with
  | [],_,h=>simp [lit] at h
  | [b],_,h=>
   simp only [lit] at h
   split at h
   ·cases h;simp
   ·cases h
  | b::c::s,hs,h=>
   simp only [lit] at h
   simp only [List.length_cons] at hs
   split at h
   ·cases h;simp
   ·split at h
    ·cases h
    ·split at h
     ·cases he:esc c with
      | none=>rw [he] at h;simp at h
      | some e=>
       rw [he] at h
       cases hl:lit s with
       | none=>rw [hl] at h;simp at h
       | some y=>
        rw [hl] at h
        simp at h
        have:=ih s (by omega) y.1 y.2 hl
        rw [← h.2];simp;omega
     ·cases hl:lit (c::s) with
      | none=>rw [hl] at h;simp at h
      | some y=>
       rw [hl] at h
       simp at h
       have:=ih (c::s) (by simp;omega) y.1 y.2 hl
       rw [← h.2];simp at this ⊢;omega
theorem Zyj (s:Bs):∀x r,lit s=some (x,r)→r.length < s.length:=Zwy _ s (Nat.le_refl _)
theorem ZlL {s:Bs} {t:Tk} {r:Bs} (h:tok s=.ok (t,r)):r.length < s.length:=by
 cases s with
 | nil=>simp [tok] at h
 | cons b s=>
  simp only [tok] at h
  split at h
  ·cases h;have:=Zhr (p:=Zdw) s;simp;omega
  ·split at h
   ·have:=Zhr (p:=ZcI) s
    unfold ZdA at h
    split at h
    ·cases h
    ·split at h
     ·cases h
     ·cases h;simp;omega
   ·split at h
    ·unfold ZeN at h
     split at h
     ·cases h
     ·rename_i x r' hl
      split at h
      ·cases h
      ·cases h;have:=Zyj _ _ _ hl;simp;omega
    ·cases s with
     | nil=>
      simp only [Zbm] at h
      split at h
      ·cases h;simp
      ·cases h
     | cons c s=>
      simp only [Zbm] at h
      split at h
      ·cases h;simp;omega
      ·split at h
       ·cases h;simp
       ·cases h
theorem Zgp (s:Bs):(skip s).length≤s.length:=by
 induction s using skip.induct with
 | case1=>simp [skip]
 | case2 b s h ih=>rw [skip,if_pos h];simp;omega
 | case3 b s h h2 ih=>rw [skip,if_neg h,if_pos h2];have:=Zhr (p:=ZbH) s;simp;omega
 | case4 b s h h2=>rw [skip,if_neg h,if_neg h2];simp
def scan (s:Bs):Except (Nat × Nat) (List (Tk × Nat)):=
 match _h:skip s with
 | []=>.ok []
 | b::s'=>
  match h2:tok (b::s') with
  | .error e=>.error (e,s'.length + 1)
  | .ok (t,r)=>
   match scan r with
   | .error e=>.error e
   | .ok l=>.ok ((t,s'.length + 1)::l)
termination_by s.length
decreasing_by
 have h3:=ZlL h2
 have h4:=Zgp s
 rw [_h] at h4
 simp at h3 h4 ⊢
 omega
theorem ZdD {s:Bs} (h:skip s=[]):scan s=.ok []:=by
 unfold scan
 split
 ·rfl
 ·rename_i b s' h2;rw [h] at h2;cases h2
theorem ZfL {s:Bs} {e:Nat} (hn:skip s≠[]) (h:tok (skip s)=.error e):scan s=.error (e,(skip s).length):=by
 unfold scan
 split
 ·rename_i h2;exact absurd h2 hn
 ·rename_i b s' h2
  rw [h2] at h
  split
  ·rename_i e2 h3;rw [h] at h3;cases h3;rw [h2];rfl
  ·rename_i t r h3;rw [h] at h3;cases h3
theorem Zet {s r:Bs} {t:Tk} (h:tok (skip s)=.ok (t,r)):scan s=(match scan r with | .error e=>.error e | .ok l=>.ok ((t,(skip s).length)::l)):=by
 conv=>lhs;unfold scan
 split
 ·rename_i h2;rw [h2] at h;cases h
 ·rename_i b s' h2
  rw [h2] at h
  split
  ·rename_i e2 h3;rw [h] at h3;cases h3
  ·rename_i t2 r2 h3
   rw [h] at h3
   cases h3
   rw [h2]
   rfl
theorem ZeP {b:UInt8} (s:Bs) (h:Zir b=true):skip (b::s)=skip s:=by rw [skip,if_pos h]
theorem Zgo (s:Bs):skip (47::47::s)=skip (s.dropWhile ZbH):=by
 rw [skip,if_neg (by decide),if_pos (by simp)]
 rfl
theorem Zde {b:UInt8} {s:Bs} (h:Zir b=false) (h2:¬ (b=47∧s.head?=some 47)):skip (b::s)=b::s:=by
 rw [skip,if_neg (by simp [h]),if_neg (by simpa using h2)]
theorem Zee (s:Bs):skip (skip s)=skip s:=by
 induction s using skip.induct with
 | case1=>simp [skip]
 | case2 b s h ih=>rw [ZeP s h];exact ih
 | case3 b s h h2 ih=>
  have e:skip (b::s)=skip (s.dropWhile ZbH):=by rw [skip,if_neg h,if_pos h2]
  rw [e];exact ih
 | case4 b s h h2=>
  have e:skip (b::s)=b::s:=by rw [skip,if_neg h,if_neg h2]
  rw [e,e]
theorem Zef (s:Bs):scan (skip s)=scan s:=by
 by_cases hn:skip s=[]
 ·rw [ZdD (by rw [Zee];exact hn),ZdD hn]
 ·cases ht:tok (skip s) with
  | error e=>rw [ZfL hn ht,ZfL (by rw [Zee];exact hn) (by rw [Zee];exact ht),Zee]
  | ok x=>rw [Zet (t:=x.1) (r:=x.2) ht,Zet (t:=x.1) (r:=x.2) (by rw [Zee];exact ht),Zee]
def toks (s:Bs):Option (List Tk):=match scan s with | .error _=>none | .ok l=>some (l.map Prod.fst)
theorem Zor {s:Bs} (h:skip s=[]):toks s=some []:=by unfold toks;rw [ZdD h];rfl
theorem ZqO {s r:Bs} {t:Tk} (h:tok (skip s)=.ok (t,r)):toks s=(toks r).map (t::·):=by
 unfold toks
 rw [Zet h]
 cases scan r <;> rfl
def Free (r:Bs):Prop:=r=[]∨∃b r',r=b::r'∧Zir b=true
theorem Zom {b:UInt8} (h:Zir b=true):b=9∨b=10∨b=13∨b=32:=by
 simp only [Zir,Bool.or_eq_true,beq_iff_eq] at h
 rcases h with ((h | h) | h) | h
 ·exact .inl h
 ·exact .inr (.inl h)
 ·exact .inr (.inr (.inl h))
 ·exact .inr (.inr (.inr h))
theorem Zn2 {r:Bs} (h:Free r):ZgC r=false:=by
 rcases h with rfl | ⟨b,r',rfl,hb⟩
 ·rfl
 ·rcases Zom hb with rfl | rfl | rfl | rfl <;> rfl
theorem Ze1 {p:UInt8→Bool} {x r:Bs} (hx:∀b∈x,p b=true) (hr:∀b r',r=b::r'→p b=false):(x++r).takeWhile p=x∧(x++r).dropWhile p=r:=by
 induction x with
 | nil=>
  cases r with
  | nil=>simp
  | cons b r'=>have:=hr b r' rfl;simp [this]
 | cons a x ih=>
  have h1:=hx a (by simp)
  have h2:=ih (fun b hb=>hx b (by simp [hb]))
  simp [h1,h2]
theorem ZoW {b:UInt8} (h:ZcI b=true):Zdw b=true:=by simp [Zdw,h]
theorem Zjf {r:Bs} (h:ZgC r=false):∀b r',r=b::r'→Zdw b=false:=fun b r' e=>by subst e;exact h
def ZbM:Bs→Bool
 | []=>false
 | b::s=>Ziz b && s.all Zdw
def ZdI:Bs→Bool
 | [b]=>mark1 b
 | [b,c]=>mark2 b c
 | _=>false
def qbyte (b:UInt8):Bs:=if b == 10 then [92,110] else if b == 9 then [92,116] else if b == 34 then [92,34] else if b == 92 then [92,92] else [b]
def qbody (x:Bs):Bs:=x.flatMap qbyte
structure ZsS (dec:Nat→Bs):Prop where
 all:∀n,∀b∈dec n,ZcI b=true
 pos:∀n,dec n≠[]
 val:∀n,val (dec n)=n
 lead:∀n,(dec n).head?=some 48→(dec n).length≤1
def written (dec:Nat→Bs) (t:Tk):Option Bs:=
 if t.k=2 then (if t.t=[]∧0≤t.n∧t.n≤9007199254740992 then some (dec t.n.toNat) else none)
 else if t.n≠0 then none
 else if t.k=3∧t.t.length≤4096 then some (34::(qbody t.t++[34]))
 else if (t.k=1∧ZbM t.t=true)∨(t.k=4∧ZdI t.t=true) then some t.t
 else none
theorem Zud (x r:Bs):lit (qbody x++34::r)=some (x,r):=by
 induction x with
 | nil=>
  cases r with
  | nil=>rfl
  | cons c r=>simp [qbody,lit]
 | cons a x ih=>
  have e:qbody (a::x)++34::r=qbyte a++(qbody x++34::r):=by simp [qbody]
  rw [e]
  obtain ⟨y,hy⟩:∃y,y=qbody x++34::r:=⟨_,rfl⟩
  rw [← hy] at ih ⊢
  have hne:∃c s,y=c::s:=by
   cases h:qbody x with
   | nil=>exact ⟨34,r,by rw [hy,h];rfl⟩
   | cons c s=>exact ⟨c,s++34::r,by rw [hy,h];rfl⟩
  obtain ⟨c,s,rfl⟩:=hne
  unfold qbyte
  split
  ·rename_i h;simp at h;subst h;simp [lit,esc,ih]
  ·split
   ·rename_i h;simp at h;subst h;simp [lit,esc,ih]
   ·split
    ·rename_i h;simp at h;subst h;simp [lit,esc,ih]
    ·split
     ·rename_i h;simp at h;subst h;simp [lit,esc,ih]
     ·rename_i h1 h2 h3 h4
      simp at h1 h2 h3 h4
      simp [lit,h1,h3,h4,ih]
theorem Zhj {b:UInt8} (h:mark1 b=true):Ziz b=false∧ZcI b=false∧(b == 34)=false∧Zir b=false:=by
 simp only [mark1,Bool.or_eq_true,beq_iff_eq] at h
 rcases h with (((((((((((((((((((h | h) | h) | h) | h) | h) | h) | h) | h) | h) | h) | h) | h) | h) | h) | h) | h) | h) | h) | h) <;> subst h <;> decide
theorem ZnM {b c:UInt8} (h:mark2 b c=true):Ziz b=false∧ZcI b=false∧(b == 34)=false∧Zir b=false∧b≠47∧Zir c=false:=by
 simp only [mark2,Bool.or_eq_true,Bool.and_eq_true,beq_iff_eq] at h
 rcases h with (((((h | h) | h) | h) | h) | h) | h <;> obtain ⟨rfl,rfl⟩:=h <;> decide
theorem Zt4 {b c:UInt8} (h:Zir c=true):mark2 b c=false:=by
 rcases Zom h with rfl | rfl | rfl | rfl <;> simp [mark2]
theorem ZuL {b:UInt8} (h:Ziz b=true):Zir b=false∧b≠47:=by
 simp only [Ziz,Bool.or_eq_true,Bool.and_eq_true,decide_eq_true_eq] at h
 simp only [Zir]
 constructor
 ·simp;refine ⟨⟨⟨?_,?_⟩,?_⟩,?_⟩ <;> rintro rfl <;> revert h <;> decide
 ·rintro rfl;revert h;decide
theorem Zuv {b:UInt8} (h:ZcI b=true):Ziz b=false∧Zir b=false∧b≠47:=by
 simp only [ZcI,Bool.and_eq_true,decide_eq_true_eq] at h
 obtain ⟨h1,h2⟩:=h
 have h1:48≤b.toNat:=h1
 have h2:b.toNat≤57:=h2
 refine ⟨?_,?_,?_⟩
 ·simp only [Ziz,Bool.or_eq_false_iff,Bool.and_eq_false_iff,decide_eq_false_iff_not]
  refine ⟨.inl ?_,.inl ?_⟩
  ·intro h;have h:97≤b.toNat:=h;omega
  ·intro h;have h:65≤b.toNat:=h;omega
 ·simp only [Zir,Bool.or_eq_false_iff,beq_eq_false_iff_ne,ne_eq]
  refine ⟨⟨⟨?_,?_⟩,?_⟩,?_⟩ <;> rintro rfl <;> revert h1 <;> decide
 ·rintro rfl;revert h1;decide
theorem Zm9 {dec:Nat→Bs} (hd:ZsS dec) {t:Tk} {x r:Bs} (h:written dec t=some x) (hr:Free r):tok (x++r)=.ok (t,r)∧skip (x++r)=x++r:=by
 unfold written at h
 split at h
 ·rename_i hk
  split at h
  ·rename_i hc
   obtain ⟨h1,h2,h3⟩:=hc
   cases h
   obtain ⟨n,hn⟩:=Int.eq_ofNat_of_zero_le h2
   rw [hn,Int.toNat_natCast]
   have ha:=hd.all n
   have hp:=hd.pos n
   have hv:=hd.val n
   have hl:=hd.lead n
   generalize dec n=d at ha hp hv hl
   cases d with
   | nil=>exact absurd rfl hp
   | cons b d=>
    have hb:=ha b (by simp)
    obtain ⟨p1,p2,p3⟩:=Zuv hb
    have htk:=Ze1 (p:=ZcI) (x:=d) (r:=r) (fun c hc=>ha c (by simp [hc])) (fun c r' e=>by
     have:=Zjf (Zn2 hr) c r' e
     cases hdg:ZcI c with
     | false=>rfl
     | true=>rw [ZoW hdg] at this;cases this)
    refine ⟨?_,Zde p2 (fun hh=>p3 hh.1)⟩
    rw [List.cons_append,tok,if_neg (by simp [p1]),if_pos hb,htk.1,htk.2]
    unfold ZdA
    rw [if_neg,if_neg (by rw [hv];omega),hv]
    ·obtain ⟨k,tt,nn⟩:=t
     simp at hk h1 hn
     subst hk h1 hn
     rfl
    ·simp only [Zn2 hr,Bool.or_false,Bool.and_eq_true,beq_iff_eq,decide_eq_true_eq]
     rintro ⟨h4,h5⟩
     have:=hl h4
     omega
  ·cases h
 ·rename_i hk
  split at h
  ·cases h
  ·rename_i hn
   have hn:t.n=0:=by simpa using hn
   split at h
   ·rename_i hc
    cases h
    refine ⟨?_,Zde (by decide) (by simp)⟩
    have e:34::(qbody t.t++[34])++r=34::(qbody t.t++34::r):=by simp
    rw [e,tok,if_neg (by decide),if_neg (by decide),if_pos (by decide),Zud]
    unfold ZeN
    simp only
    rw [if_neg (by omega)]
    obtain ⟨k,tt,nn⟩:=t
    simp at hc hn
    rw [hc.1,hn]
   ·split at h
    ·rename_i hc
     cases h
     rcases hc with ⟨h1,h2⟩ | ⟨h1,h2⟩
     ·obtain ⟨k,x,nn⟩:=t
      simp only at h1 h2
      have hn:nn=0:=by simpa using hn
      subst h1 hn
      cases x with
      | nil=>cases h2
      | cons b x=>
       simp only [ZbM,Bool.and_eq_true,List.all_eq_true] at h2
       have hp:=ZuL h2.1
       have htk:=Ze1 (p:=Zdw) (x:=x) (r:=r) h2.2 (Zjf (Zn2 hr))
       refine ⟨?_,Zde hp.1 (fun hh=>hp.2 hh.1)⟩
       show tok (b::(x++r))=_
       rw [tok,if_pos h2.1,htk.1,htk.2]
     ·obtain ⟨k,x,nn⟩:=t
      simp only at h1 h2
      have hn:nn=0:=by simpa using hn
      subst h1 hn
      match x,h2 with
      | [b],h2=>
       have h2:mark1 b=true:=h2
       obtain ⟨p1,p2,p3,p4⟩:=Zhj h2
       rcases hr with rfl | ⟨c,r',rfl,hc⟩
       ·refine ⟨?_,Zde p4 (by simp)⟩
        show tok [b]=_
        rw [tok,if_neg (by simp [p1]),if_neg (by simp [p2]),if_neg (by simp [p3]),Zbm,if_pos h2]
       ·refine ⟨?_,Zde p4 (fun hh=>by
         have:c=47:=by simpa using hh.2
         rw [this] at hc;revert hc;decide)⟩
        show tok (b::c::r')=_
        rw [tok,if_neg (by simp [p1]),if_neg (by simp [p2]),if_neg (by simp [p3]),Zbm,if_neg (by simp [Zt4 hc]),if_pos h2]
      | [b,c],h2=>
       have h2:mark2 b c=true:=h2
       obtain ⟨p1,p2,p3,p4,p5,p6⟩:=ZnM h2
       refine ⟨?_,Zde p4 (fun hh=>p5 hh.1)⟩
       show tok (b::c::r)=_
       rw [tok,if_neg (by simp [p1]),if_neg (by simp [p2]),if_neg (by simp [p3]),Zbm,if_pos h2]
    ·cases h
def join:List Bs→Bs
 | []=>[]
 | [x]=>x
 | x::y::l=>x++32::join (y::l)
def forms (dec:Nat→Bs):List Tk→Option (List Bs)
 | []=>some []
 | t::l=>(written dec t).bind fun x=>(forms dec l).map (x::·)
theorem ZwM {b:UInt8} (r:Bs) (h:Zir b=true):Free (b::r):=.inr ⟨b,r,rfl,h⟩
theorem ZlT (note r:Bs) (h:∀b∈note,ZbH b=true):skip (47::47::(note++10::r))=skip r:=by
 rw [Zgo,(Ze1 (p:=ZbH) (x:=note) (r:=10::r) h (fun b r' e=>by cases e;rfl)).2,ZeP _ (by decide)]
theorem Ziu (note:Bs) (h:∀b∈note,ZbH b=true):skip (47::47::note)=[]:=by
 have:=(Ze1 (p:=ZbH) (x:=note) (r:=[]) h (fun b r' e=>by cases e)).2
 rw [List.append_nil] at this
 rw [Zgo,this,skip]
theorem Zip {p:UInt8→Bool} {s:Bs} {c:UInt8} (h:c∈s.takeWhile p):p c=true:=by
 induction s with
 | nil=>simp at h
 | cons a s ih=>
  simp only [List.takeWhile] at h
  split at h
  ·rename_i ha
   rcases List.mem_cons.1 h with rfl | h
   ·exact ha
   ·exact ih h
  ·simp at h
theorem ZgM (s:Bs):∃p,s=p++skip s∧skip p=[]:=by
 induction s using skip.induct with
 | case1=>exact ⟨[],by simp [skip],by simp [skip]⟩
 | case2 b s h ih=>
  obtain ⟨p,h1,h2⟩:=ih
  rw [ZeP s h]
  exact ⟨b::p,by rw [List.cons_append,← h1],by rw [ZeP p h,h2]⟩
 | case3 b s h h2 ih=>
  obtain ⟨p,h3,h4⟩:=ih
  have e:skip (b::s)=skip (s.dropWhile ZbH):=by rw [skip,if_neg h,if_pos h2]
  have h2':b=47∧s.head?=some 47:=by simpa using h2
  obtain ⟨rfl,hs⟩:=h2'
  have hsplit:s=s.takeWhile ZbH++s.dropWhile ZbH:=(List.takeWhile_append_dropWhile (p:=ZbH) (l:=s)).symm
  have hall:∀c∈s.takeWhile ZbH,ZbH c=true:=fun c hc=>Zip hc
  have hpre:∀c r',s.dropWhile ZbH=c::r'→ZbH c=false:=fun c r' e=>by
   have:=List.head?_dropWhile_not (p:=ZbH) (l:=s)
   rw [e] at this
   simpa using this
  rw [e]
  refine ⟨47::(s.takeWhile ZbH++p),by rw [List.cons_append,List.append_assoc,← h3,← hsplit],?_⟩
  -- the first byte of the comment's tail is 47
  cases s with
  | nil=>cases hs
  | cons c s=>
   have hc:c=47:=by simpa using hs
   subst hc
   have e1:(47::s:Bs).takeWhile ZbH=47::s.takeWhile ZbH:=by simp [List.takeWhile,ZbH]
   have e2:(47::s:Bs).dropWhile ZbH=s.dropWhile ZbH:=by simp [List.dropWhile,ZbH]
   rw [e1,List.cons_append]
   rw [e2] at h3 hpre
   have hp:p=[]∨∃p',p=10::p':=by
    cases p with
    | nil=>exact .inl rfl
    | cons q p'=>
     have:=hpre q _ (h3.trans (List.cons_append ..))
     simp [ZbH] at this
     exact .inr ⟨p',by rw [this]⟩
   have hn:∀c∈s.takeWhile ZbH,ZbH c=true:=fun c hc=>Zip hc
   rcases hp with rfl | ⟨p',rfl⟩
   ·rw [List.append_nil];exact Ziu _ hn
   ·rw [ZlT _ _ hn]
    rw [ZeP _ (by decide)] at h4
    exact h4
 | case4 b s h h2=>
  have e:skip (b::s)=b::s:=by rw [skip,if_neg h,if_neg h2]
  rw [e]
  exact ⟨[],rfl,by simp [skip]⟩
theorem ZrP (n:Nat):∀s:Bs,s.length≤n→∀x r,lit s=some (x,r)→∃p,s=p++r∧∀r',lit (p++r')=some (x,r'):=by
 induction n with
 | zero=>
  intro s hs x r h
  have:s=[]:=List.eq_nil_of_length_eq_zero (by omega)
  subst this
  simp [lit] at h
 | succ n ih=>
  intro s hs x r h
  have quote:∀r',lit (34::r')=some ([],r'):=fun r'=>by cases r' <;> simp [lit]
  match s,hs,h with
  | [],_,h=>simp [lit] at h
  | [b],_,h=>
   simp only [lit] at h
   split at h
   ·rename_i hb
    simp at hb h
    obtain ⟨rfl,rfl⟩:=h
    subst hb
    exact ⟨[34],rfl,quote⟩
   ·cases h
  | b::c::s,hs,h=>
   simp only [lit] at h
   simp only [List.length_cons] at hs
   split at h
   ·rename_i hb
    simp at hb h
    obtain ⟨rfl,rfl⟩:=h
    subst hb
    exact ⟨[34],rfl,quote⟩
   ·rename_i hb
    split at h
    ·cases h
    ·rename_i hb2
     split at h
     ·rename_i hb3
      cases he:esc c with
      | none=>rw [he] at h;simp at h
      | some e=>
       rw [he] at h
       cases hl:lit s with
       | none=>rw [hl] at h;simp at h
       | some y=>
        rw [hl] at h
        simp at h
        obtain ⟨p,h1,h2⟩:=ih s (by omega) y.1 y.2 hl
        refine ⟨b::c::p,by rw [← h.2];simp [← h1],fun r'=>?_⟩
        show lit (b::c::(p++r'))=_
        simp [lit,hb,hb2,hb3,he,h2,h.1]
     ·rename_i hb3
      cases hl:lit (c::s) with
      | none=>rw [hl] at h;simp at h
      | some y=>
       rw [hl] at h
       simp at h
       obtain ⟨p,h1,h2⟩:=ih (c::s) (by simp;omega) y.1 y.2 hl
       refine ⟨b::p,by rw [← h.2];simp [← h1],fun r'=>?_⟩
       have h3:=h2 r'
       show lit (b::(p++r'))=_
       cases hq:p++r' with
       | nil=>rw [hq] at h3;simp [lit] at h3
       | cons q t=>rw [hq] at h3;simp [lit,hb,hb2,hb3,h3,h.1]
theorem Zi1 {s r:Bs} {t:Tk} (h:tok s=.ok (t,r)):∃x,x≠[]∧s=x++r∧∀r',(r'=[]∨∃b q q',r'=b::q∧r=b::q')→tok (x++r')=.ok (t,r'):=by
 have hh:∀(p:UInt8→Bool) r',(r'=[]∨∃b q q',r'=b::q∧r=b::q')→(∀b q,r=b::q→p b=false)→∀b q,r'=b::q→p b=false:=by
  intro p r' hr hp b q e
  rcases hr with rfl | ⟨b',q1,q2,rfl,h2⟩
  ·cases e
  ·cases e;exact hp _ _ h2
 cases s with
 | nil=>simp [tok] at h
 | cons b s=>
  simp only [tok] at h
  have hsplit:∀p:UInt8→Bool,s=s.takeWhile p++s.dropWhile p:=fun p=>(List.takeWhile_append_dropWhile (p:=p) (l:=s)).symm
  have hhd:∀p:UInt8→Bool,∀c q,s.dropWhile p=c::q→p c=false:=fun p c q e=>by
   have:=List.head?_dropWhile_not (p:=p) (l:=s)
   rw [e] at this
   simpa using this
  split at h
  ·rename_i h1
   simp only [Except.ok.injEq,Prod.mk.injEq] at h
   obtain ⟨rfl,rfl⟩:=h
   refine ⟨b::s.takeWhile Zdw,by simp,by rw [List.cons_append,← hsplit],fun r' hr=>?_⟩
   have htk:=Ze1 (p:=Zdw) (x:=s.takeWhile Zdw) (r:=r') (fun c hc=>Zip hc) (hh _ r' hr (hhd Zdw))
   rw [List.cons_append,tok,if_pos h1,htk.1,htk.2]
  ·rename_i h1
   split at h
   ·rename_i h2
    unfold ZdA at h
    split at h
    ·cases h
    ·rename_i h3
     split at h
     ·cases h
     ·rename_i h4
      simp only [Except.ok.injEq,Prod.mk.injEq] at h
      obtain ⟨rfl,rfl⟩:=h
      refine ⟨b::s.takeWhile ZcI,by simp,by rw [List.cons_append,← hsplit],fun r' hr=>?_⟩
      have htk:=Ze1 (p:=ZcI) (x:=s.takeWhile ZcI) (r:=r') (fun c hc=>Zip hc) (hh _ r' hr (hhd ZcI))
      rw [List.cons_append,tok,if_neg h1,if_pos h2,htk.1,htk.2]
      unfold ZdA
      rw [if_neg,if_neg h4]
      simp only [Bool.or_eq_true,not_or] at h3 ⊢
      refine ⟨h3.1,?_⟩
      rcases hr with rfl | ⟨c,q1,q2,rfl,h5⟩
      ·simp [ZgC]
      ·have:=h3.2
       rw [h5] at this
       exact this
   ·rename_i h2
    split at h
    ·rename_i h3
     unfold ZeN at h
     split at h
     ·cases h
     ·rename_i x r2 hl
      split at h
      ·cases h
      ·rename_i h4
       simp only [Except.ok.injEq,Prod.mk.injEq] at h
       obtain ⟨rfl,rfl⟩:=h
       obtain ⟨p,e1,e2⟩:=ZrP _ s (Nat.le_refl _) x r2 hl
       refine ⟨b::p,by simp,by rw [List.cons_append,← e1],fun r' _=>?_⟩
       rw [List.cons_append,tok,if_neg h1,if_neg h2,if_pos h3,e2]
       unfold ZeN
       simp only
       rw [if_neg h4]
    ·rename_i h3
     cases s with
     | nil=>
      simp only [Zbm] at h
      split at h
      ·rename_i h4
       simp only [Except.ok.injEq,Prod.mk.injEq] at h
       obtain ⟨rfl,rfl⟩:=h
       refine ⟨[b],by simp,rfl,fun r' hr=>?_⟩
       rcases hr with rfl | ⟨c,q1,q2,rfl,h5⟩
       ·show tok [b]=_
        rw [tok,if_neg h1,if_neg h2,if_neg h3,Zbm,if_pos h4]
       ·cases h5
      ·cases h
     | cons c s=>
      simp only [Zbm] at h
      split at h
      ·rename_i h4
       simp only [Except.ok.injEq,Prod.mk.injEq] at h
       obtain ⟨rfl,rfl⟩:=h
       refine ⟨[b,c],by simp,rfl,fun r' _=>?_⟩
       show tok (b::c::r')=_
       rw [tok,if_neg h1,if_neg h2,if_neg h3,Zbm,if_pos h4]
      ·rename_i h4
       split at h
       ·rename_i h5
        simp only [Except.ok.injEq,Prod.mk.injEq] at h
        obtain ⟨rfl,rfl⟩:=h
        refine ⟨[b],by simp,rfl,fun r' hr=>?_⟩
        rcases hr with rfl | ⟨c',q1,q2,rfl,h6⟩
        ·show tok [b]=_
         rw [tok,if_neg h1,if_neg h2,if_neg h3,Zbm,if_pos h5]
        ·cases h6
         show tok (b::c::q1)=_
         rw [tok,if_neg h1,if_neg h2,if_neg h3,Zbm,if_neg h4,if_pos h5]
       ·cases h
theorem ZjV {b:UInt8} {y:Bs} (h:skip (b::y)=b::y):Zir b=false∧¬ (b=47∧y.head?=some 47):=by
 constructor
 ·cases hb:Zir b with
  | false=>rfl
  | true=>
   rw [ZeP y hb] at h
   have:=Zgp y
   rw [h] at this
   simp at this
   omega
 ·rintro ⟨rfl,h2⟩
  cases y with
  | nil=>cases h2
  | cons c y=>
   have:c=47:=by simpa using h2
   subst this
   rw [Zgo] at h
   have h3:=Zgp (y.dropWhile ZbH)
   have h4:=Zhr (p:=ZbH) y
   rw [h] at h3
   simp at h3
   omega
theorem ZoC {b:UInt8} {y z:Bs} (h:skip (b::y)=b::y) (hz:z=[]∨z.head?=y.head?):skip (b::z)=b::z:=by
 obtain ⟨h1,h2⟩:=ZjV h
 refine Zde h1 ?_
 rintro ⟨rfl,h3⟩
 rcases hz with rfl | hz
 ·cases h3
 ·exact h2 ⟨rfl,hz▸h3⟩
theorem Zn6 (p u:Bs):(p++u).drop ((p++u).length - u.length)=u:=by
 rw [List.length_append,Nat.add_sub_cancel,List.drop_left]
theorem ZeQ {s:Bs} {t:Tk} {n:Nat} {l:List (Tk × Nat)} (h:scan s=.ok ((t,n)::l)):∃r,n=(skip s).length∧tok (skip s)=.ok (t,r)∧scan r=.ok l:=by
 by_cases hn:skip s=[]
 ·rw [ZdD hn] at h;cases h
 ·cases ht:tok (skip s) with
  | error e=>rw [ZfL hn ht] at h;cases h
  | ok x=>
   obtain ⟨t',r⟩:=x
   rw [Zet ht] at h
   cases hr:scan r with
   | error e=>rw [hr] at h;cases h
   | ok l'=>
    rw [hr] at h
    simp only [Except.ok.injEq,List.cons.injEq,Prod.mk.injEq] at h
    obtain ⟨⟨rfl,rfl⟩,rfl⟩:=h
    exact ⟨r,rfl,rfl,hr⟩
theorem ZpG {s:Bs} (h:scan s=.ok []):skip s=[]:=by
 by_cases hn:skip s=[]
 ·exact hn
 ·cases ht:tok (skip s) with
  | error e=>rw [ZfL hn ht] at h;cases h
  | ok x=>
   obtain ⟨t',r⟩:=x
   rw [Zet ht] at h
   cases hr:scan r with
   | error e=>rw [hr] at h;cases h
   | ok l'=>rw [hr] at h;cases h
theorem Zd1:∀(l:List (Tk × Nat)) (s:Bs),scan s=.ok l→∀i (hi:i < l.length),
  (l[i]).2≤s.length∧0 < (l[i]).2∧scan (s.drop (s.length - (l[i]).2))=.ok (l.drop i)∧
   (∀hj:i + 1 < l.length,(l[i + 1]).2 < (l[i]).2∧toks ((s.drop (s.length - (l[i]).2)).take ((l[i]).2 - (l[i + 1]).2))=some [(l[i]).1])∧
   (i + 1=l.length→toks (s.drop (s.length - (l[i]).2))=some [(l[i]).1])
 | [],_,_,i,hi=>absurd hi (by simp)
 | (t,n)::l,s,h,i,hi=>by
  obtain ⟨r,hn,ht,hr⟩:=ZeQ h
  obtain ⟨p,hs,hp⟩:=ZgM s
  have hsc:=Zef s
  have hss:=Zee s
  obtain ⟨u,hu0⟩:∃u,u=skip s:=⟨_,rfl⟩
  rw [← hu0] at hs hn ht hsc hss
  clear hu0 hp
  obtain ⟨x,hx,hu,hloc⟩:=Zi1 ht
  have hxl:0 < x.length:=List.length_pos_iff.2 hx
  have hnl:n=x.length + r.length:=by rw [hn,hu,List.length_append]
  have hd:s.drop (s.length - n)=u:=by rw [hs,hn];exact Zn6 p u
  have hsl:s.length=p.length + n:=by rw [hs,List.length_append,hn]
  cases i with
  | zero=>
   simp only [List.getElem_cons_zero,List.drop_zero]
   rw [hd]
   refine ⟨by omega,by omega,by rw [hsc];exact h,fun hj=>?_,fun hl=>?_⟩
   ·cases l with
    | nil=>simp at hj
    | cons y l=>
     obtain ⟨t2,n2⟩:=y
     obtain ⟨r2,hn2,ht2,hr2⟩:=ZeQ hr
     obtain ⟨q,hq,hq2⟩:=ZgM r
     have hql:r.length=q.length + n2:=by
       conv=>lhs;rw [hq]
       rw [List.length_append,← hn2]
     show n2 < n∧toks (u.take (n - n2))=some [t]
     refine ⟨?_,?_⟩
     ·omega
     ·have e1:u.take (n - n2)=x++q:=by
       rw [hu,hq,← List.append_assoc,show n - n2=(x++q).length by rw [List.length_append];omega,List.take_left]
      have hc:q=[]∨∃b q1 q2,q=b::q1∧r=b::q2:=by
       cases q with
       | nil=>exact .inl rfl
       | cons b q=>exact .inr ⟨b,q,q++skip r,rfl,hq⟩
      have h1:=hloc q hc
      have h2:skip (x++q)=x++q:=by
       cases x with
       | nil=>exact absurd rfl hx
       | cons b x=>
        rw [hu] at hss
        refine ZoC (y:=x++r) hss ?_
        cases x with
        | cons c x=>exact .inr rfl
        | nil=>
         rcases hc with rfl | ⟨b',q1,q2,rfl,h3⟩
         ·exact .inl rfl
         ·exact .inr (by rw [h3];rfl)
      rw [e1,ZqO (s:=x++q) (r:=q) (t:=t) (by rw [h2];exact h1),Zor hq2]
      rfl
   ·cases l with
    | cons y l=>simp at hl
    | nil=>rw [ZqO (s:=u) (r:=r) (t:=t) (by rw [hss];exact ht),Zor (ZpG hr)];rfl
  | succ i=>
   simp only [List.length_cons,Nat.add_lt_add_iff_right] at hi
   simp only [List.getElem_cons_succ,List.drop_succ_cons,List.length_cons,Nat.add_lt_add_iff_right,Nat.add_right_cancel_iff]
   obtain ⟨h1,h2,h3,h4,h5⟩:=Zd1 l r hr i hi
   have e:s.drop (s.length - (l[i]).2)=r.drop (r.length - (l[i]).2):=by
    have:s=(p++x)++r:=by rw [hs,hu,List.append_assoc]
    rw [this,List.length_append,show (p++x).length + r.length - (l[i]).2=(p++x).length + (r.length - (l[i]).2) by omega,List.drop_append]
    simp
   rw [e]
   exact ⟨by omega,h2,h3,h4,h5⟩
theorem ZqP {dec:Nat→Bs} {s r:Bs} {t:Tk} (h:tok s=.ok (t,r)):∃x,written dec t=some x:=by
 cases s with
 | nil=>simp [tok] at h
 | cons b s=>
  simp only [tok] at h
  split at h
  ·rename_i h1
   simp only [Except.ok.injEq,Prod.mk.injEq] at h
   obtain ⟨rfl,rfl⟩:=h
   have:ZbM (b::s.takeWhile Zdw)=true:=by simp only [ZbM,h1,Bool.true_and,List.all_eq_true];exact fun c hc=>Zip hc
   exact ⟨b::s.takeWhile Zdw,by simp [written,this]⟩
  ·split at h
   ·unfold ZdA at h
    split at h
    ·cases h
    ·split at h
     ·cases h
     ·simp only [Except.ok.injEq,Prod.mk.injEq] at h
      obtain ⟨rfl,rfl⟩:=h
      rename_i h4
      exact ⟨dec (val (b::s.takeWhile ZcI)),by unfold written;rw [if_pos rfl,if_pos ⟨rfl,Int.natCast_nonneg _,by show (val _:Int)≤_;omega⟩];rfl⟩
   ·split at h
    ·unfold ZeN at h
     split at h
     ·cases h
     ·split at h
      ·cases h
      ·simp only [Except.ok.injEq,Prod.mk.injEq] at h
       obtain ⟨rfl,rfl⟩:=h
       rename_i x r2 hl h4
       exact ⟨_,by simp [written,show x.length≤4096 by omega];rfl⟩
    ·have mk:∀x:Bs,ZdI x=true→∃y,written dec ⟨4,x,0⟩=some y:=fun x hx=>⟨x,by simp [written,hx]⟩
     cases s with
     | nil=>
      simp only [Zbm] at h
      split at h
      ·rename_i h4
       simp only [Except.ok.injEq,Prod.mk.injEq] at h
       obtain ⟨rfl,rfl⟩:=h
       exact mk [b] h4
      ·cases h
     | cons c s=>
      simp only [Zbm] at h
      split at h
      ·rename_i h4
       simp only [Except.ok.injEq,Prod.mk.injEq] at h
       obtain ⟨rfl,rfl⟩:=h
       exact mk [b,c] h4
      ·split at h
       ·rename_i h4
        simp only [Except.ok.injEq,Prod.mk.injEq] at h
        obtain ⟨rfl,rfl⟩:=h
        exact mk [b] h4
       ·cases h
theorem ZjY {dec:Nat→Bs} : ∀(l:List (Tk × Nat)) (s:Bs),scan s=.ok l→∃xs,forms dec (l.map Prod.fst)=some xs
 | [],_,_=>⟨[],rfl⟩
 | (t,n)::l,s,h=>by
  obtain ⟨r,_,ht,hr⟩:=ZeQ h
  obtain ⟨x,hx⟩:=ZqP (dec:=dec) ht
  obtain ⟨xs,hxs⟩:=ZjY (dec:=dec) l r hr
  exact ⟨x::xs,by simp [forms,hx,hxs]⟩
def gapped (g:Bs):List Bs→Bs
 | []=>[]
 | x::l=>x++(g++gapped g l)
def left (g:Bs):List Bs→List Nat
 | []=>[]
 | x::l=>(x++(g++gapped g l)).length::left g l
def Can (d:Bs):Prop:=d≠[]∧(∀b∈d,ZcI b=true)∧(d.head?=some 48→d.length≤1)
theorem Zku (d:Bs) (c:UInt8):val (d++[c])=val d * 10 + (c.toNat - 48):=by simp [val]
theorem Zsk {c:UInt8} (h:ZcI c=true):48≤c.toNat∧c.toNat≤57:=by
 simp only [ZcI,Bool.and_eq_true,decide_eq_true_eq,UInt8.le_iff_toNat_le] at h
 exact h
theorem ZqD {d:Bs} (h0:d≠[]) (hd:∀b∈d,ZcI b=true) (hh:d.head?≠some 48):0 < val d:=by
 obtain ⟨n,hn⟩:∃n,n=d.length:=⟨_,rfl⟩
 induction n generalizing d with
 | zero=>exact absurd (List.eq_nil_of_length_eq_zero hn.symm) h0
 | succ n ih=>
  have e:=(List.dropLast_concat_getLast h0).symm
  generalize hq:d.dropLast=q at e
  generalize hc:d.getLast h0=c at e
  subst e
  rw [Zku]
  have hcd:=Zsk (hd c (by simp))
  cases q with
  | nil=>
   have:c≠48:=by rintro rfl;exact hh rfl
   have:c.toNat≠48:=fun e=>this (UInt8.toNat_inj.1 (by rw [e];rfl))
   simp [val]
   omega
  | cons a q=>
   have:=ih (d:=a::q) (by simp) (fun b hb=>hd b (by simp only [List.mem_append];exact .inl hb)) (by simpa using hh) (by simp at hn ⊢;omega)
   omega
theorem Zkl:∀(n:Nat) (d e:Bs),d.length≤n→Can d→Can e→val d=val e→d=e
 | 0,d,e,hn,hd,_,_=>absurd (List.eq_nil_of_length_eq_zero (by omega)) hd.1
 | n + 1,d,e,hn,hd,he,hv=>by
  have e1:=(List.dropLast_concat_getLast hd.1).symm
  have e2:=(List.dropLast_concat_getLast he.1).symm
  generalize d.dropLast=p at e1
  generalize d.getLast hd.1=a at e1
  generalize e.dropLast=q at e2
  generalize e.getLast he.1=b at e2
  subst e1 e2
  rw [Zku,Zku] at hv
  have ha:=Zsk (hd.2.1 a (by simp))
  have hb:=Zsk (he.2.1 b (by simp))
  have hab:a.toNat=b.toNat:=by omega
  have hpq:val p=val q:=by omega
  have hab:a=b:=UInt8.toNat_inj.1 hab
  have cut:∀{p:Bs} {a:UInt8},Can (p++[a])→p≠[]→Can p∧p.head?≠some 48:=by
   intro p a h hp
   cases p with
   | nil=>exact absurd rfl hp
   | cons c p=>
    have h48:(c::p:Bs).head?≠some 48:=by
     intro e
     have:=h.2.2 (by simpa using e)
     simp at this
    exact ⟨⟨hp,fun b hb=>h.2.1 b (List.mem_append_left _ hb),fun e=>absurd e h48⟩,h48⟩
  by_cases hp:p=[]
  ·by_cases hq:q=[]
   ·rw [hp,hq,hab]
   ·have h:=cut he hq
    have:=ZqD hq h.1.2.1 h.2
    rw [hp] at hpq
    simp [val] at hpq
    simp [val] at this
    omega
  ·by_cases hq:q=[]
   ·have h:=cut hd hp
    have:=ZqD hp h.1.2.1 h.2
    rw [hq] at hpq
    simp [val] at hpq
    simp [val] at this
    omega
   ·rw [Zkl n p q (by simp at hn;omega) (cut hd hp).1 (cut he hq).1 hpq,hab]
theorem Zmz {dec:Nat→Bs} (hd:ZsS dec) {s r w:Bs} {t:Tk} (h:tok s=.ok (t,r)) (hw:written dec t=some w):w.head?=s.head?:=by
 cases s with
 | nil=>simp [tok] at h
 | cons b s=>
  rw [tok] at h
  by_cases h1:Ziz b=true
  ·rw [if_pos h1] at h
   cases h
   simp [written] at hw
   rw [← hw.2];rfl
  ·rw [if_neg h1] at h
   by_cases h2:ZcI b=true
   ·rw [if_pos h2] at h
    unfold ZdA at h
    split at h
    ·cases h
    ·rename_i h3
     split at h
     ·cases h
     ·cases h
      simp [written] at hw
      obtain ⟨-,hw⟩:=hw
      have hc:Can (b::s.takeWhile ZcI):=⟨by simp,fun c hc=>by
       rcases List.mem_cons.1 hc with rfl | hc
       ·exact h2
       ·exact Zip hc,fun e=>by
       simp only [Bool.or_eq_true,Bool.and_eq_true,beq_iff_eq,decide_eq_true_eq,not_or,not_and] at h3
       exact Nat.le_of_not_lt (h3.1 e)⟩
      have hc2:Can (dec (val (b::s.takeWhile ZcI))):=⟨hd.pos _,hd.all _,hd.lead _⟩
      rw [← hw,Zkl _ _ _ (Nat.le_refl _) hc2 hc (hd.val _)]
      rfl
   ·rw [if_neg h2] at h
    by_cases h3:(b == 34)=true
    ·rw [if_pos h3] at h
     have hb:b=34:=by simpa using h3
     cases hq:lit s with
     | none=>rw [hq] at h;cases h
     | some xr=>
      rw [hq] at h
      unfold ZeN at h
      simp only at h
      split at h
      ·cases h
      ·cases h
       simp [written] at hw
       rw [← hw.2,hb];rfl
    ·rw [if_neg h3] at h
     cases s with
     | nil=>
      rw [Zbm] at h
      by_cases h5:mark1 b=true
      ·rw [if_pos h5] at h
       cases h
       simp [written] at hw
       rw [← hw.2]
      ·rw [if_neg h5] at h;cases h
     | cons c s=>
      rw [Zbm] at h
      by_cases h5:mark2 b c=true
      ·rw [if_pos h5] at h
       cases h
       simp [written] at hw
       rw [← hw.2];rfl
      ·rw [if_neg h5] at h
       by_cases h6:mark1 b=true
       ·rw [if_pos h6] at h
        cases h
        simp [written] at hw
        rw [← hw.2];rfl
       ·rw [if_neg h6] at h;cases h
theorem ZoB (s:Bs):∀b u,skip s=b::u→∃p,s=p++b::u∧∀r,skip (p++r)=skip r:=by
 induction s using skip.induct with
 | case1=>intro b u h;simp [skip] at h
 | case2 a s h ih=>
  intro b u hs
  rw [ZeP s h] at hs
  obtain ⟨p,rfl,hp⟩:=ih b u hs
  exact ⟨a::p,rfl,fun r=>by rw [List.cons_append,ZeP _ h,hp]⟩
 | case3 a s h h2 ih=>
  intro b u hs
  simp only [Bool.and_eq_true,beq_iff_eq] at h2
  obtain ⟨rfl,h3⟩:=h2
  cases s with
  | nil=>cases h3
  | cons c s=>
   obtain rfl:c=47:=by simpa using h3
   have e1:(47::s:Bs).dropWhile ZbH=s.dropWhile ZbH:=rfl
   rw [e1] at ih
   rw [Zgo] at hs
   obtain ⟨p,h4,hp⟩:=ih b u hs
   have hne:s.dropWhile ZbH≠[]:=by rw [h4];simp
   obtain ⟨x,d,hx⟩:∃x d,s.dropWhile ZbH=x::d:=by
    cases hq:s.dropWhile ZbH with
    | nil=>exact absurd hq hne
    | cons x d=>exact ⟨x,d,rfl⟩
   have hx10:ZbH x=false:=by
    have:=List.head_dropWhile_not ZbH (l:=s) hne
    simpa [hx] using this
   obtain ⟨y,p',rfl⟩:∃y p',p=y::p':=by
    cases p with
    | nil=>
     exfalso
     rw [List.nil_append] at h4
     rw [h4] at hs hx
     have hb:=(ZjV hs).1
     simp only [List.cons.injEq] at hx
     rw [hx.1] at hb
     simp [ZbH] at hx10
     rw [hx10] at hb
     exact absurd hb (by decide)
    | cons y p'=>exact ⟨y,p',rfl⟩
   have hy:ZbH y=false:=by
    rw [h4] at hx
    simp only [List.cons_append,List.cons.injEq] at hx
    rw [hx.1];exact hx10
   refine ⟨47::47::(s.takeWhile ZbH++y::p'),?_,fun r=>?_⟩
   ·rw [List.cons_append,List.cons_append,List.append_assoc,← h4,List.takeWhile_append_dropWhile]
   ·rw [List.cons_append,List.cons_append,Zgo,List.append_assoc]
    have:=(Ze1 (p:=ZbH) (x:=s.takeWhile ZbH) (r:=y::p'++r) (fun b hb=>Zip hb) (fun b r' e=>by cases e;exact hy)).2
    rw [this,hp]
 | case4 a s h h2=>
  intro b u hs
  have h1:Zir a=false:=by simpa using h
  rw [Zde h1 (by simpa using h2)] at hs
  cases hs
  exact ⟨[],rfl,fun r=>rfl⟩
theorem ZoH {dec:Nat→Bs} (hd:ZsS dec) {w:Bs} (rest:Bs):∀(i:Nat) (l:List (Tk × Nat)) (s:Bs),scan s=.ok l→∀hi:i < l.length,written dec (l[i]).1=some w→
  (l[i]).2≤s.length∧scan (s.take (s.length - (l[i]).2)++(w++10::rest))=match scan rest with
  | .error e=>.error e
  | .ok m=>.ok ((l.take (i + 1)).map (fun t=>(t.1,t.2 + (w.length + 1 + rest.length) - (l[i]).2))++m):=by
 intro i
 induction i with
 | zero=>
  intro l s h hi hw
  match l,hi with
  | (t,n)::l,_=>
   obtain ⟨r,hn,ht,hr⟩:=ZeQ h
   have hw:written dec t=some w:=hw
   cases hs:skip s with
   | nil=>rw [hs] at ht;simp [tok] at ht
   | cons b u=>
    obtain ⟨p,hp,hskip⟩:=ZoB s b u hs
    have hlen:s.length - n=p.length:=by rw [hn,hs,hp];simp
    obtain ⟨h1,h2⟩:=Zm9 hd hw (ZwM rest (b:=10) rfl)
    have hle:n≤s.length:=by rw [hn];exact Zgp s
    refine ⟨hle,?_⟩
    show scan (s.take (s.length - n)++_)=_
    rw [hlen,hp,List.take_left,← Zef,hskip,h2]
    have e:scan (10::rest)=scan rest:=by rw [← Zef,ZeP rest rfl,Zef]
    rw [Zet (t:=t) (r:=10::rest) (by rw [h2];exact h1),e,h2]
    cases scan rest with
    | error e=>rfl
    | ok m=>simp;omega
 | succ i ih=>
  intro l s h hi hw
  match l,hi with
  | (t,n)::l,hi=>
   obtain ⟨r,hn,ht,hr⟩:=ZeQ h
   have hi':i < l.length:=by simpa using hi
   obtain ⟨h1,h2⟩:=ih l r hr hi' (by simpa using hw)
   show (l[i]).2≤s.length∧scan (s.take (s.length - (l[i]).2)++_)=_
   cases hs:skip s with
   | nil=>rw [hs] at ht;simp [tok] at ht
   | cons b u=>
    obtain ⟨p,hp,hskip⟩:=ZoB s b u hs
    rw [hs] at ht
    obtain ⟨x,hx,hxr,hloc⟩:=Zi1 ht
    have hsx:s=(p++x)++r:=by rw [hp,hxr,List.append_assoc]
    have hle:(l[i]).2≤s.length:=by rw [hsx,List.length_append];omega
    refine ⟨hle,?_⟩
    obtain ⟨k,hk⟩:∃k,k=r.length - (l[i]).2:=⟨_,rfl⟩
    have hcut:s.take (s.length - (l[i]).2)=p++(x++r.take k):=by
     rw [hsx,List.length_append,show (p++x).length + r.length - (l[i]).2=(p++x).length + k by omega,List.take_append,List.take_of_length_le (by omega),Nat.add_sub_cancel_left,List.append_assoc]
    have hne:r≠[]:=by
     rintro rfl
     rw [ZdD (by simp [skip])] at hr
     cases hr
     simp at hi'
    have hhead:(r.take k++(w++10::rest)).head?=r.head?:=by
     cases k with
     | zero=>
      have hn0:(l[i]).2=r.length:=by omega
      have hi0:i=0:=by
       cases i with
       | zero=>rfl
       | succ j=>
        exfalso
        have a:=(Zd1 l r hr j (by omega)).1
        have b:=((Zd1 l r hr j (by omega)).2.2.2.1 hi').1
        omega
      subst hi0
      cases l with
      | nil=>simp at hi'
      | cons tn l=>
       obtain ⟨t',n'⟩:=tn
       obtain ⟨r2,hn',ht',-⟩:=ZeQ hr
       have hn0:n'=r.length:=hn0
       obtain ⟨q,hq,-⟩:=ZgM r
       have hl:q.length=0:=by
        have:=congrArg List.length hq
        rw [List.length_append] at this
        omega
       have hq0:=List.eq_nil_of_length_eq_zero hl
       rw [hq0,List.nil_append] at hq
       rw [← hq] at ht'
       have:=Zmz hd ht' (by simpa using hw)
       rw [List.take_zero,List.nil_append,← this]
       cases w with
       | nil=>
        cases r with
        | nil=>exact absurd rfl hne
        | cons c r=>cases this
       | cons c w=>rfl
     | succ k=>
      cases r with
      | nil=>exact absurd rfl hne
      | cons c r=>rfl
    obtain ⟨c,q,q',e1,e2⟩:∃c q q',r.take k++(w++10::rest)=c::q∧r=c::q':=by
     cases r with
     | nil=>exact absurd rfl hne
     | cons c q'=>
      cases hz:(c::q').take k++(w++10::rest) with
      | nil=>rw [hz] at hhead;cases hhead
      | cons d q=>
       rw [hz] at hhead
       have:d=c:=by simpa using hhead
       subst this
       exact ⟨d,q,q',rfl,rfl⟩
    have htok:=hloc (r.take k++(w++10::rest)) (.inr ⟨c,q,q',e1,e2⟩)
    have hsk:skip (x++(r.take k++(w++10::rest)))=x++(r.take k++(w++10::rest)):=by
     cases x with
     | nil=>exact absurd rfl hx
     | cons a x=>
      have hself:skip (a::(x++r))=a::(x++r):=by
       have:=Zee s
       rw [hs,hxr] at this
       exact this
      refine ZoC hself (.inr ?_)
      cases x with
      | nil=>exact hhead
      | cons a' x=>rfl
    rw [← hk] at h2
    rw [hcut,List.append_assoc,List.append_assoc,← Zef,hskip,Zef,Zet (t:=t) (r:=r.take k++(w++10::rest)) (by rw [hsk];exact htok),h2,hsk]
    cases scan rest with
    | error e=>rfl
    | ok m=>
     have hn2:n=x.length + r.length:=by rw [hn,hs,hxr,List.length_append]
     simp only [List.take_succ_cons,List.map_cons,List.cons_append,List.getElem_cons_succ,Except.ok.injEq,List.cons.injEq,Prod.mk.injEq,true_and,and_true]
     rw [List.length_append,List.length_append,List.length_take,List.length_append,List.length_cons]
     omega
end Go.Proofs.YtaheffiglmglbaaGreatDoor.L7
