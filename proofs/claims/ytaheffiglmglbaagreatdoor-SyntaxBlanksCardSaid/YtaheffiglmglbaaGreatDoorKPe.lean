import Derived.Test.YtaheffiglmglbaaGreatDoorKPd
/- SynE, SynF. -/
set_option maxHeartbeats 8000000
set_option maxRecDepth 20000
namespace Go.Proofs.YtaheffiglmglbaaGreatDoor.S8
open L7
section
variable (φ:Int→Int)
end
theorem ZoA (m:Nat) (p:Bool):∀j e l c r,TokOk l→decls m p j e l=.ok c r→r=[]∧∀x∈c,ZhJ p x=true∧wf x=true
 | 0,e,l,c,r,_,h=>by cases h
 | j + 1,e,l,c,r,ht,h=>by
  cases l with
  | nil=>cases h;exact ⟨rfl,fun x hx=>by cases hx⟩
  | cons t l=>
   have h':(single (parse m (if p=true then .change else .decl)) >>= fun x=>decls m p j >>= fun xs=>pure (x::xs)) e (t::l)=.ok c r:=h
   obtain ⟨x,r1,k1,k2⟩:=Zc2 h'
   obtain ⟨xs,r2,k3,k4⟩:=Zc2 k2
   have k4':(Res.ok (x::xs) r2:Res (List Nd))=.ok c r:=k4
   cases k4'
   have hs:=(Zav (Zdd m (if p=true then .change else .decl))) e _ x r1 k1
   obtain ⟨q,hq⟩:=hs
   have hx:ZhJ p x=true∧wf x=true:=by
    cases p with
    | true=>exact Zcv (ZiC m .change trivial) (Zdd m _) e _ x r1 ht k1
    | false=>exact Zcv (ZiC m .decl trivial) (Zdd m _) e _ x r1 ht k1
   obtain ⟨h1,h2⟩:=ZoA m p j e r1 xs r (by rw [hq] at ht;exact ht.suf) k3
   refine ⟨h1,fun y hy=>?_⟩
   rcases List.mem_cons.1 hy with rfl | hy
   ·exact hx
   ·exact h2 y hy
open L7
def Er {α:Type} (p:P α):Prop:=∀e l a,p e l=.err a→a=e∨∃t∈l,t.2=a
def Fresh (e:Int) (t:Tok) (r:List Tok):Prop:=t.2≠e∧∀u∈r,u.2≠t.2
structure Lc {α:Type} (p:P α):Prop where
 suf:Suf p
 er:Er p
 ok:∀e e' q t r r' x q2,p e (q++t::r)=.ok x (q2++t::r)→p e' (q++t::r')=.ok x (q2++t::r')
 no:∀e e' q t r r',Fresh e t r→p e (q++t::r)=.err t.2→p e' (q++t::r')=.err t.2
theorem Zlv {q q2:List Tok} {t:Tok} {r:List Tok} (h:q++t::r=q2++t::r):q=q2:=List.append_cancel_right h
theorem ZcO {α:Type} (x:α):Lc (pure x:P α) where
 suf:=Zbg x
 er:=fun e l a h=>by cases (show (Res.ok x l:Res α)=.err a from h)
 ok:=fun e e' q t r r' y q2 h=>by
  have h':(Res.ok x (q++t::r):Res α)=.ok y (q2++t::r):=h
  simp only [Res.ok.injEq] at h'
  obtain ⟨rfl,h2⟩:=h'
  rw [Zlv h2];rfl
 no:=fun e e' q t r r' _ h=>by cases (show (Res.ok x (q++t::r):Res α)=.err t.2 from h)
theorem Zva {α:Type} : Lc (fun _ _=>.out:P α) where
 suf:=fun _ _ _ _ h=>by cases h
 er:=fun _ _ _ h=>by cases h
 ok:=fun _ _ _ _ _ _ _ _ h=>by cases h
 no:=fun _ _ _ _ _ _ _ h=>by cases h
theorem Zjp {α:Type} : Lc (fail:P α) where
 suf:=ZeA
 er:=fun e l a h=>by
  cases l with
  | nil=>cases h;exact .inl rfl
  | cons u l=>cases h;exact .inr ⟨u,by simp,rfl⟩
 ok:=fun e e' q t r r' y q2 h=>by cases q <;> cases h
 no:=fun e e' q t r r' _ h=>by
  cases q with
  | nil=>rfl
  | cons u q=>exact h
theorem Zk8 {α:Type} {p:P α} (f:Tok→α) (h1:∀e t r,p e (t::r)=.ok (f t) (t::r)) (h2:∀e,(p e []=.err e)∨∃y,p e []=.ok y []):Lc p where
 suf:=fun e l y r h=>by
  cases l with
  | nil=>rcases h2 e with k | ⟨z,k⟩ <;> rw [k] at h <;> cases h;exact ⟨[],rfl⟩
  | cons t l=>rw [h1] at h;cases h;exact ⟨[],rfl⟩
 er:=fun e l a h=>by
  cases l with
  | nil=>rcases h2 e with k | ⟨z,k⟩ <;> rw [k] at h <;> cases h;exact .inl rfl
  | cons t l=>rw [h1] at h;cases h
 ok:=fun e e' q t r r' y q2 h=>by
  cases q with
  | nil=>
   rw [List.nil_append,h1] at h
   simp only [Res.ok.injEq] at h
   obtain ⟨rfl,k⟩:=h
   rw [List.nil_append,h1,← Zlv (q:=[]) k];rfl
  | cons u q=>
   rw [List.cons_append,h1] at h
   simp only [Res.ok.injEq] at h
   obtain ⟨rfl,k⟩:=h
   rw [List.cons_append,h1,← Zlv (q:=u::q) k];rfl
 no:=fun e e' q t r r' _ h=>by
  cases q with
  | nil=>rw [List.nil_append,h1] at h;cases h
  | cons u q=>rw [List.cons_append,h1] at h;cases h
theorem Zla:Lc here:=Zk8 (fun t=>t.2) (fun _ _ _=>rfl) fun _=>.inl rfl
theorem ZfT (s:Bs):Lc (ZaC s):=Zk8 (fun t=>isW s t.1) (fun _ _ _=>rfl) fun _=>.inr ⟨_,rfl⟩
theorem Zjl (v:Nat):Lc (Zft v):=Zk8 (fun t=>Zr2 v t.1) (fun _ _ _=>rfl) fun _=>.inr ⟨_,rfl⟩
theorem Zjm (f:Tk→Bool):Lc (ZeR f):=Zk8 (fun t=>f t.1) (fun _ _ _=>rfl) fun _=>.inr ⟨_,rfl⟩
theorem Zfa (f:Tk→Bool):Lc (Zed f) where
 suf:=(ZaG f).suf
 er:=fun e l a h=>by
  cases l with
  | nil=>cases h;exact .inl rfl
  | cons u l=>
   rw [Zbs] at h
   split at h
   ·cases h
   ·cases h;exact .inr ⟨u,by simp,rfl⟩
 ok:=fun e e' q t r r' y q2 h=>by
  cases q with
  | nil=>
   rw [List.nil_append,Zbs] at h
   split at h
   ·simp only [Res.ok.injEq] at h
    have:=congrArg List.length h.2
    simp at this
    omega
   ·cases h
  | cons u q=>
   rw [List.cons_append,Zbs] at h ⊢
   split at h
   ·rename_i hf
    simp only [Res.ok.injEq] at h
    rw [if_pos hf,h.1,Zlv h.2]
   ·cases h
 no:=fun e e' q t r r' _ h=>by
  cases q with
  | nil=>
   rw [List.nil_append,Zbs] at h ⊢
   split at h
   ·cases h
   ·rename_i hf
    rw [if_neg hf]
  | cons u q=>
   rw [List.cons_append,Zbs] at h ⊢
   split at h
   ·cases h
   ·rename_i hf
    rw [if_neg hf];exact h
theorem Zsf {α β:Type} {p:P α} {f:α→P β} {e a:Int} {l:List Tok} (h:(p >>= f) e l=.err a):p e l=.err a∨∃x r,p e l=.ok x r∧f x e r=.err a:=by
 rw [Zac] at h
 cases hp:p e l with
 | out=>rw [hp] at h;cases h
 | err b=>rw [hp] at h;cases h;exact .inl rfl
 | ok x r=>rw [hp] at h;exact .inr ⟨x,r,rfl,h⟩
theorem Zvw {q s w r:List Tok} {t:Tok} (h:q++t::r=w++s):(∃q',s=q'++t::r)∨∃w',r=w'++s:=by
 rcases List.append_eq_append_iff.1 h with ⟨a,h1,h2⟩ | ⟨c,h1,h2⟩
 ·cases a with
  | nil=>exact .inl ⟨[],h2.symm⟩
  | cons u a=>simp only [List.cons_append,List.cons.injEq] at h2;exact .inr ⟨a,h2.2⟩
 ·exact .inl ⟨c,h2⟩
theorem Zbx {α β:Type} {p:P α} {f:α→P β} (h1:Lc p) (h2:∀x,Lc (f x)):Lc (p >>= f) where
 suf:=ZbC h1.suf fun x=>(h2 x).suf
 er:=fun e l a h=>by
  rcases Zsf h with k | ⟨x,r,k1,k2⟩
  ·exact h1.er e l a k
  ·obtain ⟨q,rfl⟩:=h1.suf e l x r k1
   rcases (h2 x).er e r a k2 with k | ⟨t,ht,k⟩
   ·exact .inl k
   ·exact .inr ⟨t,List.mem_append_right q ht,k⟩
 ok:=fun e e' q t r r' y q2 h=>by
  obtain ⟨x,s,k1,k2⟩:=Zc2 h
  obtain ⟨w,hw⟩:=(h2 x).suf e s y _ k2
  subst hw
  have hs:w++(q2++t::r)=(w++q2)++t::r:=by simp
  rw [hs] at k1 k2
  rw [ZfX (h1.ok e e' q t r r' x (w++q2) k1)]
  exact (h2 x).ok e e' (w++q2) t r r' y q2 k2
 no:=fun e e' q t r r' hf h=>by
  rcases Zsf h with k | ⟨x,s,k1,k2⟩
  ·exact ZiU (h1.no e e' q t r r' hf k)
  ·obtain ⟨w,hw⟩:=h1.suf e _ x s k1
   rcases Zvw hw with ⟨q',rfl⟩ | ⟨w',rfl⟩
   ·rw [ZfX (h1.ok e e' q t r r' x q' k1)]
    exact (h2 x).no e e' q' t r r' hf k2
   ·exfalso
    rcases (h2 x).er e s t.2 k2 with k | ⟨u,hu,k⟩
    ·exact hf.1 k
    ·exact hf.2 u (List.mem_append_right w' hu) k
theorem Zjo {α:Type} {c:Prop} [Decidable c] {p q:P α} (h1:Lc p) (h2:Lc q):Lc (if c then p else q):=by
 split
 ·exact h1
 ·exact h2
theorem Zev (s:Bs):Lc (must s):=Zfa _
theorem ZrY:Lc low:=Zbx (Zfa _) fun _=>ZcO _
theorem ZrW:Lc up:=Zbx (Zfa _) fun _=>ZcO _
theorem Zid:Lc Zdn:=Zbx (Zfa _) fun _=>ZcO _
theorem Zjn:Lc number:=Zbx (Zfa _) fun _=>ZcO _
theorem ZeT {p:P (List Nd)} (h:Lc p):Lc (single p):=by
 refine Zbx h fun l=>?_
 match l with
 | []=>exact Zjp
 | [x]=>exact ZcO _
 | x::y::l=>exact Zjp
section
variable {g:G} (H:∀nt,Lc (g nt))
include H
theorem Zk9 (o:Bs) (w:What) (s:Bs):Lc (list g o w s):=by
 unfold list
 exact Zbx (Zev _) fun _=>Zbx (ZfT _) fun _=>Zjo (Zbx (Zev _) fun _=>ZcO _) (H _)
theorem ZiL (o:Bs) (w:What) (s:Bs):Lc (some1 g o w s):=by
 unfold some1
 exact Zbx (Zev _) fun _=>H _
theorem ZiM (w:What) (b:Bool):Lc (many1 g w b):=by
 unfold many1
 exact Zbx (Zev _) fun _=>H _
theorem ZrX (h:Bool):Lc (sig g h):=by
 unfold sig
 exact Zbx (Zev _) fun _=>Zbx (ZeT (H _)) fun _=>Zbx (Zev _) fun _=>Zbx (ZeT (H _)) fun _=>ZcO _
theorem Zlc:Lc (block g):=by
 unfold block
 exact Zbx Zla fun _=>Zbx (ZiM H _ _) fun _=>ZcO _
theorem Zic:Lc (pattern g):=by
 unfold pattern
 exact Zbx (ZfT _) fun _=>Zjo (Zbx (Zev _) fun _=>ZcO _) (Zbx ZrW fun _=>Zbx (ZfT _) fun _=>Zjo (Zbx (ZiL H _ _ _) fun _=>ZcO _) (ZcO _))
theorem Zk7 (a:Int) (b:Nd):Lc (spawn g a b):=by
 unfold spawn
 exact Zbx (Zev _) fun _=>Zbx ZrW fun _=>Zbx (Zk9 H _ _ _) fun _=>Zbx (ZfT _) fun _=>Zjo (Zbx (Zev _) fun _=>Zbx (ZeT (H _)) fun _=>ZcO _) (ZcO _)
theorem Zj9 (a:Int):Lc (convert g a):=by
 unfold convert
 repeat (with_reducible first | exact ZcO _ | exact Zjp | exact Zla | exact ZfT _ | exact Zjl _ | exact Zjm _ | exact Zev _ | exact ZrY | exact ZrW | exact Zid | exact Zjn | exact Zfa _ | exact Zk9 H _ _ _ | exact ZiL H _ _ _ | exact ZiM H _ _ | exact ZrX H _ | exact Zlc H | exact Zic H | exact Zk7 H _ _ | exact ZeT (H _) | exact H _ | apply Zjo | refine Zbx ?_ (fun _=>?_))
theorem Zui (w:What):Lc (elem1 g w):=by
 cases w <;> simp only [elem1,field,typ,ctor,Zfk,set,arm,sarm,stmt,member]
 all_goals
  repeat (with_reducible first | exact ZcO _ | exact Zjp | exact Zla | exact ZfT _ | exact Zjl _ | exact Zjm _ | exact Zev _ | exact ZrY | exact ZrW | exact Zid | exact Zjn | exact Zfa _ | exact Zk9 H _ _ _ | exact ZiL H _ _ _ | exact ZiM H _ _ | exact ZrX H _ | exact Zlc H | exact Zic H | exact Zk7 H _ _ | exact Zj9 H _ | exact ZeT (H _) | exact H _ | apply Zjo | refine Zbx ?_ (fun _=>?_))
theorem ZwD (nt:NT):Lc (body g nt):=by
 cases nt <;> simp only [body,one,seps,many,expr,bin,tail,post,ptail,prim,send,decl,change]
 case one w=>exact Zbx (Zui H w) fun _=>ZcO _
 all_goals
  repeat (with_reducible first | exact ZcO _ | exact Zjp | exact Zla | exact ZfT _ | exact Zjl _ | exact Zjm _ | exact Zev _ | exact ZrY | exact ZrW | exact Zid | exact Zjn | exact Zfa _ | exact Zk9 H _ _ _ | exact ZiL H _ _ _ | exact ZiM H _ _ | exact ZrX H _ | exact Zlc H | exact Zic H | exact Zk7 H _ _ | exact Zj9 H _ | exact ZeT (H _) | exact H _ | apply Zjo | refine Zbx ?_ (fun _=>?_))
end
theorem Zpb:∀(m:Nat) (nt:NT),Lc (parse m nt)
 | 0,_=>Zva
 | m + 1,nt=>ZwD (fun nt=>Zpb m nt) nt
def row (m:Nat) (p:Bool) (j:Nat):P (List Nd):=single (parse m (if p=true then .change else .decl)) >>= fun x=>decls m p j >>= fun xs=>pure (x::xs)
theorem Zcc (m:Nat) (p:Bool) (j:Nat) (e:Int) (t:Tok) (l:List Tok):decls m p (j + 1) e (t::l)=row m p j e (t::l):=rfl
theorem Zlb (m:Nat) (p:Bool):∀j,Lc (decls m p j)
 | 0=>Zva
 | j + 1=>by
  have hr:Lc (row m p j):=Zbx (ZeT (Zpb m _)) fun x=>Zbx (Zlb m p j) fun xs=>ZcO _
  have hc:∀e (q:List Tok) t r,decls m p (j + 1) e (q++t::r)=row m p j e (q++t::r):=fun e q t r=>by cases q <;> rfl
  refine ⟨fun e l x r h=>?_,fun e l a h=>?_,fun e e' q t r r' x q2 h=>?_,fun e e' q t r r' hf h=>?_⟩
  ·cases l with
   | nil=>cases h;exact ⟨[],rfl⟩
   | cons t l=>exact hr.suf e _ x r h
  ·cases l with
   | nil=>cases h
   | cons t l=>exact hr.er e _ a h
  ·rw [hc] at h ⊢
   exact hr.ok e e' q t r r' x q2 h
  ·rw [hc] at h ⊢
   exact hr.no e e' q t r r' hf h
theorem Zp9 {m:Nat} {p:Bool} {j:Nat} {e e':Int} {q r r':List Tok} {t:Tok} (hf:Fresh e t r) (h:decls m p j e (q++t::r)=.err t.2):decls m p j e' (q++t::r')=.err t.2:=(Zlb m p j).no e e' q t r r' hf h
theorem Zp8 {m:Nat} {p:Bool} {j:Nat} {e a:Int} {l:List Tok} (h:decls m p j e l=.err a):a=e∨∃t∈l,t.2=a:=(Zlb m p j).er e l a h
open L7
def heads:List Bs:=[Zcg,ZbS,Zct,Zd7,ZbV,Za2,Zeo,Zez]
def Hd (t:Tk):Prop:=t.k=1∧heads.contains t.t=true
def soft (w:Bs):Bool:=!heads.contains w
theorem Ztl {w:Bs} (hw:soft w=true) {t:Tk} (h:Hd t):isW w t=false:=by
 unfold isW
 by_cases e:t.t=w
 ·have:=h.2
  rw [e] at this
  unfold soft at hw
  rw [this] at hw;cases hw
 ·simp [e]
theorem Zya (v:Nat) {t:Tk} (h:Hd t):Zr2 v t=false:=by
 obtain ⟨h1,h2⟩:=h
 have n1:t.t≠wOr:=by intro e;rw [e] at h2;revert h2;decide
 have n2:t.t≠ZqC:=by intro e;rw [e] at h2;revert h2;decide
 unfold Zr2
 simp [n1,n2,h1]
variable {u:Tok}
def St (u:Tok) {α:Type} (p:P α):Prop:=∀e e' q r x s,p e q=.ok x s→p e' (q++u::r)=.ok x (s++u::r)
def Sn (u:Tok) {α:Type} (p:P α):Prop:=∀e e' t q r x s,p e (t::q)=.ok x s→p e' (t::q++u::r)=.ok x (s++u::r)
theorem ZkJ {α:Type} {p:P α} (h:St u p):Sn u p:=fun e e' t q r x s k=>h e e' (t::q) r x s k
theorem Zco {α:Type} (x:α):St u (pure x:P α):=fun e e' q r y s h=>by
 cases (show (Res.ok x q:Res α)=.ok y s from h)
 rfl
theorem Zhe {α:Type} : St u (fail:P α):=fun e e' q r y s h=>by cases q <;> cases h
theorem ZxD {α:Type} : St u (fun _ _=>.out:P α):=fun e e' q r y s h=>by cases h
theorem Zbp {α β:Type} {p:P α} {f:α→P β} (h1:St u p) (h2:∀x,St u (f x)):St u (p >>= f):=fun e e' q r y s h=>by
 obtain ⟨x,r1,k1,k2⟩:=Zc2 h
 rw [ZfX (h1 e e' q r x r1 k1)]
 exact h2 x e e' r1 r y s k2
theorem Zhd {β:Type} {f:Int→P β} (h:∀a,Sn u (f a)):St u (here >>= f):=fun e e' q r y s k=>by
 cases q with
 | nil=>cases k
 | cons t q=>exact h t.2 e e' t q r y s k
theorem ZgL {β:Type} {w:Bs} {f:Bool→P β} (h:∀b,Sn u (f b)):Sn u (ZaC w >>= f):=fun e e' t q r y s k=>h (isW w t.1) e e' t q r y s k
theorem Zgn {β:Type} {w:Tk→Bool} {f:Bool→P β} (h:∀b,Sn u (f b)):Sn u (ZeR w >>= f):=fun e e' t q r y s k=>h (w t.1) e e' t q r y s k
theorem ZjU {α:Type} {c:Prop} [Decidable c] {p q:P α} (h1:Sn u p) (h2:Sn u q):Sn u (if c then p else q):=by
 split
 ·exact h1
 ·exact h2
theorem Zg5 {α:Type} {c:Prop} [Decidable c] {p q:P α} (h1:St u p) (h2:St u q):St u (if c then p else q):=by
 split
 ·exact h1
 ·exact h2
theorem Zd8 (f:Tk→Bool):St u (Zed f):=fun e e' q r x s h=>by
 cases q with
 | nil=>cases h
 | cons t q=>
  rw [List.cons_append,Zbs] at *
  split at h
  ·rename_i hf
   cases h
   rw [if_pos hf]
  ·cases h
theorem Zdj (s:Bs):St u (must s):=Zd8 _
theorem ZjS:St u low:=Zbp (Zd8 _) fun _=>Zco _
theorem Zni:St u up:=Zbp (Zd8 _) fun _=>Zco _
theorem Zfr:St u Zdn:=Zbp (Zd8 _) fun _=>Zco _
theorem Zgk:St u number:=Zbp (Zd8 _) fun _=>Zco _
theorem ZdB {p:P (List Nd)} (h:St u p):St u (single p):=by
 refine Zbp h fun l=>?_
 match l with
 | []=>exact Zhe
 | [x]=>exact Zco _
 | x::y::l=>exact Zhe
section
variable (hu:Hd u.1)
include hu
theorem Zd9 (w:Bs) (hw:soft w=true):St u (ZaC w):=fun e e' q r x s h=>by
 cases q with
 | nil=>
  cases h
  show Res.ok (isW w u.1) _=_
  rw [Ztl hw hu]
  rfl
 | cons t q=>cases h;rfl
theorem Zgj (v:Nat):St u (Zft v):=fun e e' q r x s h=>by
 cases q with
 | nil=>
  cases h
  show Res.ok (Zr2 v u.1) _=_
  rw [Zya v hu]
  rfl
 | cons t q=>cases h;rfl
theorem ZhA:St u Zfk:=by
 have _:=hu
 unfold Zfk
 exact Zhd fun _=>ZgL fun _=>ZjU (ZkJ (Zbp (Zdj _) fun _=>Zco _)) (ZkJ (Zbp ZjS fun _=>Zco _))
variable {g:G} (H:∀nt,St u (g nt))
include H
theorem Zh0 (o:Bs) (w:What) (s:Bs) (hs:soft s=true):St u (list g o w s):=by
 unfold list
 exact Zbp (Zdj _) fun _=>Zbp (Zd9 hu _ hs) fun _=>Zg5 (Zbp (Zdj _) fun _=>Zco _) (H _)
theorem ZgJ (o:Bs) (w:What) (s:Bs):St u (some1 g o w s):=by
 have _:=hu
 unfold some1
 exact Zbp (Zdj _) fun _=>H _
theorem ZgK (w:What) (b:Bool):St u (many1 g w b):=by
 have _:=hu
 unfold many1
 exact Zbp (Zdj _) fun _=>H _
theorem ZlQ (h:Bool):St u (sig g h):=by
 have _:=hu
 unfold sig
 exact Zbp (Zdj _) fun _=>Zbp (ZdB (H _)) fun _=>Zbp (Zdj _) fun _=>Zbp (ZdB (H _)) fun _=>Zco _
theorem Zhz:St u (block g):=by
 unfold block
 exact Zhd fun _=>ZkJ (Zbp (ZgK hu H _ _) fun _=>Zco _)
theorem Zfq:St u (pattern g):=by
 unfold pattern
 exact Zbp (Zd9 hu _ rfl) fun _=>Zg5 (Zbp (Zdj _) fun _=>Zco _) (Zbp Zni fun _=>Zbp (Zd9 hu _ rfl) fun _=>Zg5 (Zbp (ZgJ hu H _ _ _) fun _=>Zco _) (Zco _))
theorem Zhy (a:Int) (b:Nd):St u (spawn g a b):=by
 unfold spawn
 exact Zbp (Zdj _) fun _=>Zbp Zni fun _=>Zbp (Zh0 hu H _ _ _ rfl) fun _=>Zbp (Zd9 hu _ rfl) fun _=>Zg5 (Zbp (Zdj _) fun _=>Zbp (ZdB (H _)) fun _=>Zco _) (Zco _)
theorem ZvH {β:Type} {w:Bs} {f:Bool→P β} (h:∀b,Sn u (f b)) (h0:∀e x s,f false e []≠.ok x s):St u (ZaC w >>= f):=fun e e' q r y s k=>by
 have _:=hu;have _:=H
 cases q with
 | nil=>exact absurd k (h0 e y s)
 | cons t q=>exact h (isW w t.1) e e' t q r y s k
theorem Zh1 (a:Int):St u (convert g a):=by
 unfold convert
 refine Zbp (Zd9 hu _ rfl) fun b=>Zg5 ?_ (ZvH hu H (fun _=>ZkJ ?_) fun e x s h=>by cases h)
 ·repeat (with_reducible first | exact Zco _ | exact Zhe | exact ZjS | exact Zni | exact Zfr | exact Zgk | exact Zdj _ | exact Zgj hu _ | exact Zd8 _ | exact ZhA hu | exact Zh0 hu H _ _ _ rfl | exact ZgJ hu H _ _ _ | exact ZgK hu H _ _ | exact ZlQ hu H _ | exact Zhz hu H | exact Zfq hu H | exact Zhy hu H _ _ | exact ZdB (H _) | exact H _ | exact Zd9 hu _ rfl | refine Zhd (fun _=>?_) | refine ZgL (fun _=>?_) | refine Zgn (fun _=>?_) | apply ZjU | apply Zg5 | refine Zbp ?_ (fun _=>?_) | apply ZkJ)
 ·repeat (with_reducible first | exact Zco _ | exact Zhe | exact ZjS | exact Zni | exact Zfr | exact Zgk | exact Zdj _ | exact Zgj hu _ | exact Zd8 _ | exact ZhA hu | exact Zh0 hu H _ _ _ rfl | exact ZgJ hu H _ _ _ | exact ZgK hu H _ _ | exact ZlQ hu H _ | exact Zhz hu H | exact Zfq hu H | exact Zhy hu H _ _ | exact ZdB (H _) | exact H _ | exact Zd9 hu _ rfl | refine Zhd (fun _=>?_) | refine ZgL (fun _=>?_) | refine Zgn (fun _=>?_) | apply ZjU | apply Zg5 | refine Zbp ?_ (fun _=>?_) | apply ZkJ)
theorem Ztk (w:What):St u (elem1 g w):=by
 cases w <;> simp only [elem1,field,typ,ctor,set,arm,sarm,stmt,member]
 all_goals
  repeat (with_reducible first | exact Zco _ | exact Zhe | exact ZjS | exact Zni | exact Zfr | exact Zgk | exact Zdj _ | exact Zgj hu _ | exact Zd8 _ | exact ZhA hu | exact Zh0 hu H _ _ _ rfl | exact ZgJ hu H _ _ _ | exact ZgK hu H _ _ | exact ZlQ hu H _ | exact Zhz hu H | exact Zfq hu H | exact Zhy hu H _ _ | exact Zh1 hu H _ | exact ZdB (H _) | exact H _ | exact Zd9 hu _ rfl | refine Zhd (fun _=>?_) | refine ZgL (fun _=>?_) | refine Zgn (fun _=>?_) | apply ZjU | apply Zg5 | refine Zbp ?_ (fun _=>?_) | apply ZkJ)
theorem ZvI (nt:NT):St u (body g nt):=by
 cases nt with
 | one w=>exact Zbp (Ztk hu H w) fun _=>Zco _
 | seps s w=>
  simp only [body,seps]
  repeat (with_reducible first | exact Zco _ | exact Zhe | exact ZjS | exact Zni | exact Zfr | exact Zgk | exact Zdj _ | exact Zgj hu _ | exact Zd8 _ | exact ZhA hu | exact Zh0 hu H _ _ _ rfl | exact ZgJ hu H _ _ _ | exact ZgK hu H _ _ | exact ZlQ hu H _ | exact Zhz hu H | exact Zfq hu H | exact Zhy hu H _ _ | exact Zh1 hu H _ | exact ZdB (H _) | exact H _ | exact Zd9 hu _ rfl | refine Zhd (fun _=>?_) | refine ZgL (fun _=>?_) | refine Zgn (fun _=>?_) | apply ZjU | apply Zg5 | refine Zbp ?_ (fun _=>?_) | apply ZkJ)
 | _=>
  simp only [body,one,many,expr,bin,tail,post,ptail,prim,send,decl,change]
  repeat (with_reducible first | exact Zco _ | exact Zhe | exact ZjS | exact Zni | exact Zfr | exact Zgk | exact Zdj _ | exact Zgj hu _ | exact Zd8 _ | exact ZhA hu | exact Zh0 hu H _ _ _ rfl | exact ZgJ hu H _ _ _ | exact ZgK hu H _ _ | exact ZlQ hu H _ | exact Zhz hu H | exact Zfq hu H | exact Zhy hu H _ _ | exact Zh1 hu H _ | exact ZdB (H _) | exact H _ | exact Zd9 hu _ rfl | refine Zhd (fun _=>?_) | refine ZgL (fun _=>?_) | refine Zgn (fun _=>?_) | apply ZjU | apply Zg5 | refine Zbp ?_ (fun _=>?_) | apply ZkJ)
end
open L7
theorem Zow {u:Tok} (hu:Hd u.1):∀(m:Nat) (nt:NT),St u (parse m nt)
 | 0,_=>ZxD
 | m + 1,nt=>ZvI hu (fun nt=>Zow hu m nt) nt
theorem Zo9 {m m':Nat} (hm:∀nt,le (parse m nt) (parse m' nt)) (p:Bool):∀j d,le (decls m p j) (decls m' p (j + d))
 | 0,_=>fun _ _=>.inl rfl
 | j + 1,d=>fun e l=>by
  rw [show j + 1 + d=(j + d) + 1 by omega]
  cases l with
  | nil=>exact .inr rfl
  | cons t l=>
   rw [Zcc,Zcc]
   exact Zb1 (Zfy (hm _)) (fun x=>Zb1 (Zo9 hm p j d) fun xs=>le_refl _) e (t::l)
theorem Zc8 {m m' j j':Nat} {p:Bool} (hm:m≤m') (hj:j≤j') {e:Int} {l:List Tok} (h:decls m p j e l≠.out):decls m' p j' e l=decls m p j e l:=by
 obtain ⟨d,rfl⟩:=Nat.le.dest hm
 obtain ⟨d',rfl⟩:=Nat.le.dest hj
 rcases Zo9 (fun nt=>ZnQ m d nt) p j d' e l with k | k
 ·exact absurd k h
 ·exact k.symm
def File (p:Bool) (e:Int) (l:List Tok) (R:Res (List Nd)):Prop:=R≠.out∧∃m j,decls m p j e l=R
theorem File.unique {p:Bool} {e:Int} {l:List Tok} {R S:Res (List Nd)} (h:File p e l R) (k:File p e l S):R=S:=by
 obtain ⟨h0,m,j,h1⟩:=h
 obtain ⟨k0,m',j',k1⟩:=k
 have a:=Zc8 (Nat.le_max_left m m') (Nat.le_max_left j j') (p:=p) (e:=e) (l:=l) (by rw [h1];exact h0)
 have b:=Zc8 (Nat.le_max_right m m') (Nat.le_max_right j j') (p:=p) (e:=e) (l:=l) (by rw [k1];exact k0)
 rw [← h1,← a,b,k1]
def pre (c:List Nd):Res (List Nd)→Res (List Nd)
 | .out=>.out
 | .err a=>.err a
 | .ok c' r=>.ok (c++c') r
theorem ZmM {u:Tok} (hu:Hd u.1) {m:Nat} {p:Bool} {j2:Nat} {e':Int} {r:List Tok} {R:Res (List Nd)} (hR:decls m p j2 e' (u::r)=R) (h0:R≠.out):∀j e l c,decls m p j e l=.ok c []→decls m p (j + j2) e' (l++u::r)=pre c R
 | 0,e,l,c,h=>by cases h
 | j + 1,e,l,c,h=>by
  cases l with
  | nil=>
   cases h
   rw [List.nil_append,Zc8 (Nat.le_refl m) (show j2≤j + 1 + j2 by omega) (by rw [hR];exact h0),hR]
   cases R <;> rfl
  | cons t l=>
   rw [Zcc] at h
   obtain ⟨x,r1,k1,k2⟩:=Zc2 h
   obtain ⟨xs,r2,k3,k4⟩:=Zc2 k2
   have k4':(Res.ok (x::xs) r2:Res (List Nd))=.ok c []:=k4
   cases k4'
   have ih:=ZmM hu hR h0 j e r1 xs k3
   have s1:=ZdB (Zow hu m (if p=true then .change else .decl)) e e' (t::l) r x r1 k1
   rw [show j + 1 + j2=(j + j2) + 1 by omega,List.cons_append,Zcc]
   unfold row
   rw [← List.cons_append,ZfX s1,Zac,ih]
   cases R <;> rfl
theorem File.row {u:Tok} (hu:Hd u.1) {p:Bool} {e e':Int} {l r:List Tok} {c:List Nd} {R:Res (List Nd)} (h:File p e l (.ok c [])) (k:File p e' (u::r) R):File p e' (l++u::r) (pre c R):=by
 obtain ⟨-,m,j,h1⟩:=h
 obtain ⟨k0,m',j',k1⟩:=k
 refine ⟨by cases R <;> simp_all [pre],max m m',j + j',?_⟩
 refine ZmM hu (R:=R) ?_ k0 j e l c ?_
 ·rw [Zc8 (Nat.le_max_right m m') (Nat.le_refl _) (by rw [k1];exact k0),k1]
 ·rw [Zc8 (Nat.le_max_left m m') (Nat.le_refl _) (by rw [h1];simp),h1]
theorem File.nil (p:Bool) (e:Int):File p e [] (.ok [] []):=⟨by simp,0,1,rfl⟩
theorem ZuA {g:G} {e:Int} {t:Tk} {a:Int} {r:List Tok} (h:∀w,w=Zcg∨w=ZbS∨w=Zct∨w=Zd7∨w=ZbV→isW w t=false):decl g e ((t,a)::r)=.err a:=by
 have h1:=h Zcg (by simp)
 have h2:=h ZbS (by simp)
 have h3:=h Zct (by simp)
 have h4:=h Zd7 (by simp)
 have h5:=h ZbV (by simp)
 unfold decl
 rw [ZaV (ZbA ..),ZaV (ZaI ..),Zae,if_neg (by simp [h1]),ZaV (ZaI ..),Zae,if_neg (by simp [h2]),ZaV (ZaI ..),Zae,if_neg (by simp [h3]),ZaV (ZaI ..),Zae,if_neg (by simp [h4])]
 refine ZiU ?_
 unfold must
 rw [Zbs,if_neg (by simp [h5])]
theorem Zd6 {g:G} {e:Int} {t:Tk} {a:Int} {r:List Tok} (h:isW Za2 t=false∧isW Zeo t=false∧isW Zez t=false):change g e ((t,a)::r)=single (g .decl) e ((t,a)::r):=by
 unfold change
 rw [ZaV (ZbA ..),ZaV (ZaI ..),Zae,if_neg (by simp [h.1]),ZaV (ZaI ..),Zae,if_neg (by simp [h.2.1]),ZaV (ZaI ..),Zae,if_neg (by simp [h.2.2])]
theorem ZrA {p:P Nd} {e a:Int} {l:List Tok} (h:p e l=.err a):one p e l=.err a:=by rw [ZrB,h]
theorem ZgN {p:P (List Nd)} {e a:Int} {l:List Tok} (h:p e l=.err a):single p e l=.err a:=by rw [ZbG,h]
theorem Zfh (m:Nat) {e:Int} {t:Tk} {a:Int} {r:List Tok} (h:∀w,w=Zcg∨w=ZbS∨w=Zct∨w=Zd7∨w=ZbV→isW w t=false):parse (m + 1) .decl e ((t,a)::r)=.err a:=ZrA (ZuA h)
theorem Zsc (m j:Nat) (p:Bool) {e:Int} {t:Tk} {a:Int} {r:List Tok} (h:∀w,heads.contains w=true→isW w t=false):decls (m + 2) p (j + 1) e ((t,a)::r)=.err a:=by
 have hd:∀m,parse (m + 1) .decl e ((t,a)::r)=.err a:=fun m=>Zfh m (by
  rintro w (rfl | rfl | rfl | rfl | rfl) <;> exact h _ (by decide))
 rw [Zcc]
 refine ZiU (ZgN ?_)
 cases p with
 | false=>exact hd (m + 1)
 | true=>
  refine ZrA ?_
  rw [Zd6 ⟨h _ (by decide),h _ (by decide),h _ (by decide)⟩]
  exact ZgN (hd m)
theorem File.bad (p:Bool) {e:Int} {t:Tk} {a:Int} {r:List Tok} (h:∀w,heads.contains w=true→isW w t=false):File p e ((t,a)::r) (.err a):=⟨by simp,2,1,Zsc 0 0 p h⟩
theorem File.head {p:Bool} {e:Int} {t:Tk} {a:Int} {r:List Tok} {R:Res (List Nd)} (h:File p e ((t,a)::r) R) (hR:R≠.err a) (hk:heads.contains t.t=true→t.k=1):Hd t:=by
 by_cases hh:heads.contains t.t=true
 ·exact ⟨hk hh,hh⟩
 ·exfalso
  refine hR (h.unique (File.bad p fun w hw=>?_))
  unfold isW
  have:t.t≠w:=by rintro rfl;exact hh hw
  simp [this]
def Pl (a:Int) (p:P Nd):Prop:=∀e l x r,p e l=.ok x r→x.a=a∧70≤x.k
theorem ZkX {α:Type} {a:Int} {p:P α} {f:α→P Nd} (h:∀x,Pl a (f x)):Pl a (p >>= f):=fun e l y r k=>by
 obtain ⟨x,r1,-,k2⟩:=Zc2 k
 exact h x e r1 y r k2
theorem Znz {a:Int} {k:Int} {t:Bs} {n:Int} {c:List Nd} (h:70≤k):Pl a (pure (.mk k t n a c)):=fun e l y r q=>by
 cases (show (Res.ok (Nd.mk k t n a c) l:Res Nd)=.ok y r from q)
 exact ⟨rfl,h⟩
theorem Zx2 {a:Int} {c:Prop} [Decidable c] {p q:P Nd} (h1:Pl a p) (h2:Pl a q):Pl a (if c then p else q):=by
 split
 ·exact h1
 ·exact h2
theorem ZpP (g:G) (a:Int):Pl a (convert g a):=by
 unfold convert
 repeat (first | exact Znz (by decide) | with_reducible apply Zx2 | (with_reducible refine ZkX (fun _=>?_)))
theorem Zsy {g:G} {e:Int} {t:Tk} {a:Int} {l r:List Tok} {x:Nd} (hw:isW Za2 t=true∨isW Zeo t=true∨isW Zez t=true) (h:change g e ((t,a)::l)=.ok x r):x.a=a∧70≤x.k:=by
 unfold change at h
 rw [ZaV (ZbA ..),ZaV (ZaI ..),Zae] at h
 split at h
 ·exact ZkX (fun _=>ZpP g a) e _ x r h
 ·rename_i h1
  rw [ZaV (ZaI ..),Zae] at h
  split at h
  ·revert h
   refine (?_:Pl a _) e _ x r
   repeat (first | exact Znz (by decide) | (with_reducible refine ZkX (fun _=>?_)))
  ·rename_i h2
   rw [ZaV (ZaI ..),Zae] at h
   split at h
   ·revert h
    refine (?_:Pl a _) e _ x r
    repeat (first | exact Znz (by decide) | (with_reducible refine ZkX (fun _=>?_)))
   ·rename_i h3
    simp_all
theorem ZiN {v w:Bs} {t:Tk} (h:isW v t=true) (hn:v≠w):isW w t=false:=by
 unfold isW at *
 simp only [Bool.and_eq_true,beq_iff_eq] at h
 simp [h.2,hn]
def Zc0:List Nd→Option Nd
 | []=>none
 | x::l=>if ZdV x then Zc0 l else some x
theorem Zjz (m:Nat):∀j e l c r,TokOk l→decls (m + 2) true j e l=.ok c r→decls (m + 1) false j e l=match Zc0 c with
  | none=>.ok c r
  | some x=>.err x.a
 | 0,e,l,c,r,_,h=>by cases h
 | j + 1,e,l,c,r,ht,h=>by
  cases l with
  | nil=>cases h;rfl
  | cons t l=>
   obtain ⟨t,a⟩:=t
   rw [Zcc] at h ⊢
   obtain ⟨x,r1,k1,k2⟩:=Zc2 h
   obtain ⟨xs,r2,k3,k4⟩:=Zc2 k2
   have k4':(Res.ok (x::xs) r2:Res (List Nd))=.ok c r:=k4
   cases k4'
   have k1':single (parse (m + 2) .change) e ((t,a)::l)=.ok x r1:=k1
   rw [ZbG,Zh7] at k1'
   rw [show body (parse (m + 1)) .change e ((t,a)::l)=one (change (parse (m + 1))) e ((t,a)::l) from rfl,ZrB] at k1'
   cases hc:change (parse (m + 1)) e ((t,a)::l) with
   | out=>rw [hc] at k1';cases k1'
   | err b=>rw [hc] at k1';cases k1'
   | ok y r'=>
    rw [hc] at k1'
    cases k1'
    by_cases hw:isW Za2 t=true∨isW Zeo t=true∨isW Zez t=true
    ·obtain ⟨e1,e2⟩:=Zsy hw hc
     have hd:ZdV x=false:=by unfold ZdV;simp;omega
     rw [Zc0,if_neg (by rw [hd];decide)]
     refine ZiU (ZgN ?_)
     rw [e1]
     refine Zfh m ?_
     rintro w (rfl | rfl | rfl | rfl | rfl) <;> rcases hw with hw | hw | hw <;> exact ZiN hw (by decide)
    ·have hw':isW Za2 t=false∧isW Zeo t=false∧isW Zez t=false:=by
      simp only [not_or,Bool.not_eq_true] at hw;exact hw
     rw [Zd6 hw'] at hc
     have hd:ZdV x=true:=(Zcv (ZiC (m + 1) .decl trivial) (Zdd _ _) e _ x r1 ht hc).1
     obtain ⟨q,hq⟩:=Zav (Zdd (m + 1) .decl) e _ x r1 hc
     have ih:=Zjz m j e r1 xs r (by rw [hq] at ht;exact ht.suf) k3
     rw [Zc0,if_pos hd]
     show (single (parse (m + 1) .decl) >>= _) e _=_
     rw [ZfX hc,Zac,ih]
     cases Zc0 xs <;> rfl
theorem File.patch {e:Int} {l:List Tok} {c:List Nd} {r:List Tok} (ht:TokOk l) (h:File true e l (.ok c r)):File false e l (match Zc0 c with
  | none=>.ok c r
  | some x=>.err x.a):=by
 obtain ⟨-,m,j,h1⟩:=h
 refine ⟨by cases Zc0 c <;> simp,m + 1,j,Zjz m j e l c r ht ?_⟩
 rw [Zc8 (show m≤m + 2 by omega) (Nat.le_refl j) (by rw [h1];simp),h1]
open L7
theorem Zpf (p:Bool) (m:Nat) (e:Int):∀j l,l.length < j→14 * l.length + 2 < m→decls m p j e l≠.out
 | j + 1,[],_,_=>by intro h;cases h
 | j + 1,t::l,hj,hm=>by
  rw [Zcc]
  intro h
  have hg:good (if p=true then NT.change else NT.decl)=true:=by cases p <;> rfl
  have hr:rank (if p=true then NT.change else NT.decl)≤1:=by cases p <;> simp [rank]
  have ht:takes (if p=true then NT.change else NT.decl)=true:=by cases p <;> rfl
  unfold row at h
  rw [Zac] at h
  have hn:parse m (if p=true then NT.change else NT.decl) e (t::l)≠.out:=ZfZ m (t::l).length _ hg (by omega) e _ (Nat.le_refl _)
  cases hs:single (parse m (if p=true then NT.change else NT.decl)) e (t::l) with
  | out=>
   rw [ZbG] at hs
   revert hs hn
   cases parse m (if p=true then NT.change else NT.decl) e (t::l) with
   | out=>intro hn _;exact hn rfl
   | err a=>intro _ hs;cases hs
   | ok c r=>
    match c with
    | []=>intro _ hs;cases r <;> cases hs
    | [x]=>intro _ hs;cases hs
    | x::y::c=>intro _ hs;cases r <;> cases hs
  | err a=>rw [hs] at h;cases h
  | ok x r=>
   rw [hs] at h
   obtain ⟨t',q,hq⟩:=ZaY (ZhR m _ ht) e _ x r hs
   have hl:r.length < (t::l).length:=by rw [hq];simp;omega
   have ih:=Zpf p m e j r (by simp at hj hl;omega) (by omega)
   replace h:(decls m p j >>= fun xs=>pure (x::xs)) e r=.out:=h
   rw [Zac] at h
   cases hd:decls m p j e r with
   | out=>exact ih hd
   | err a=>rw [hd] at h;cases h
   | ok c r'=>rw [hd] at h;cases h
theorem File.total (p:Bool) (e:Int) (l:List Tok):∃R,File p e l R:=⟨_,Zpf p (14 * l.length + 3) e (l.length + 1) l (by omega) (by omega),_,_,rfl⟩
theorem File.map {p:Bool} {e:Int} {l:List Tok} {R:Res (List Nd)} (φ:Int→Int) (h:File p e l R):File p (φ e) (tmap φ l) (rmap φ (List.map (nmap φ)) R):=by
 obtain ⟨h0,m,j,h1⟩:=h
 refine ⟨by cases R <;> simp_all [rmap],m,j,?_⟩
 rw [ZoV m p j e l,h1]
theorem File.early {p:Bool} {e e':Int} {q r r':List Tok} {t:Tok} (hf:Fresh e t r) (h:File p e (q++t::r) (.err t.2)):File p e' (q++t::r') (.err t.2):=by
 obtain ⟨-,m,j,h1⟩:=h
 exact ⟨by simp,m,j,Zp9 hf h1⟩
theorem File.place {p:Bool} {e a:Int} {l:List Tok} (h:File p e l (.err a)):a=e∨∃t∈l,t.2=a:=by
 obtain ⟨-,m,j,h1⟩:=h
 exact Zp8 h1
theorem File.valid {p:Bool} {e:Int} {l:List Tok} {c r} (ht:TokOk l) (h:File p e l (.ok c r)):r=[]∧∀x∈c,ZhJ p x=true∧wf x=true:=by
 obtain ⟨-,m,j,h1⟩:=h
 exact ZoA m p j e l c r ht h1
theorem Zkh (m:Nat):∀j e l c r,decls (m + 1) false j e l=.ok c r→decls (m + 2) true j e l=.ok c r
 | 0,e,l,c,r,h=>by cases h
 | j + 1,e,l,c,r,h=>by
  cases l with
  | nil=>cases h;rfl
  | cons t l=>
   obtain ⟨t,a⟩:=t
   rw [Zcc] at h ⊢
   obtain ⟨x,r1,k1,k2⟩:=Zc2 h
   obtain ⟨xs,r2,k3,k4⟩:=Zc2 k2
   have k4':(Res.ok (x::xs) r2:Res (List Nd))=.ok c r:=k4
   cases k4'
   have k1':single (parse (m + 1) .decl) e ((t,a)::l)=.ok x r1:=k1
   have hw:isW Za2 t=false∧isW Zeo t=false∧isW Zez t=false:=by
    have:¬(isW Za2 t=true∨isW Zeo t=true∨isW Zez t=true):=by
     intro hw
     have:=Zfh m (e:=e) (t:=t) (a:=a) (r:=l) (by
      rintro w (rfl | rfl | rfl | rfl | rfl) <;> rcases hw with hw | hw | hw <;> exact ZiN hw (by decide))
     rw [ZgN this] at k1'
     cases k1'
    simp only [not_or,Bool.not_eq_true] at this
    exact this
   have hc:single (parse (m + 2) .change) e ((t,a)::l)=.ok x r1:=by
    refine ZbW ?_
    rw [Zh7]
    refine Ze6 ?_
    rw [Zd6 hw]
    exact k1'
   have ih:=Zkh m j e r1 xs r k3
   show (single (parse (m + 2) .change) >>= _) e _=_
   rw [ZfX hc,ZfX ih]
   rfl
theorem File.prog {e:Int} {l:List Tok} {c:List Nd} {r:List Tok} (h:File false e l (.ok c r)):File true e l (.ok c r):=by
 obtain ⟨-,m,j,h1⟩:=h
 refine ⟨by simp,m + 2,j,Zkh m j e l c r ?_⟩
 rw [Zc8 (show m≤m + 1 by omega) (Nat.le_refl j) (by rw [h1];simp),h1]
open L7
def okT (t:Tk):Bool:=t.k == 2 && t.t == [] && decide (0≤t.n) && decide (t.n≤ZeY) || t.n == 0 && (t.k == 3 && decide (t.t.length≤4096) || t.k == 1 && ZbM t.t || t.k == 4 && ZdI t.t)
def Zzc (l:List Tk):Bool:=l.all okT
open L7
def Stop (R:List Tok):Prop:=∀t a r,R=(t,a)::r→isW mLp t=false∧isW ZdG t=false∧isW Zda t=false∧olev t=0
theorem ZwJ {h:Bool} {e a:Int} {y:Nd} {R:List Tok} (hs:Stop R):lim (.ptail h a y) e R=.ok [y] R:=by
 rw [Zbb rfl]
 show one (ptail lim h a y) e _=_
 apply Ze6
 unfold ptail
 cases R with
 | nil=>rfl
 | cons t r=>
  obtain ⟨t,b⟩:=t
  obtain ⟨k1,k2,k3,-⟩:=hs t b r rfl
  rw [ZaV (ZaI ..),Zae,if_neg (by simp [k1]),ZaV (ZaI ..),Zae,if_neg (by simp [k2]),ZaV (ZaI ..),Zae,if_neg (by simp [k3])]
  rfl
theorem Zyr {v:Nat} (h1:1≤v) (h2:v≤8) {h:Bool} {e a:Int} {y:Nd} {R:List Tok} (hs:Stop R):lim (.tail v h a y) e R=.ok [y] R:=by
 rw [Zbb (by simp [good];omega)]
 show one (tail lim v h a y) e _=_
 apply Ze6
 unfold tail
 cases R with
 | nil=>rfl
 | cons t r=>
  obtain ⟨t,b⟩:=t
  obtain ⟨-,-,-,k⟩:=hs t b r rfl
  rw [ZaV (Zcp ..),Zae,if_neg (by rw [Zjs v (by omega),k];simp;omega)]
  rfl
theorem Zyu {h:Bool} {e:Int} {t:Tk} {a:Int} {l R:List Tok} {y:Nd} (hp:lim (.prim h) e ((t,a)::l)=.ok [y] R) (hn:isW ZhW t=false) (hm:isW Zcr t=false) (hs:Stop R):∀d v,v + d=9→1≤v→lim (.bin v h) e ((t,a)::l)=.ok [y] R
 | 0,v,hv,_=>by
  obtain rfl:v=9:=by omega
  rw [Zbb rfl]
  apply Ze6
  show bin lim 9 h e _=_
  unfold bin
  rw [ZaV (ZbA ..),Zae,if_pos (by decide)]
  refine ZbW ?_
  rw [Zbb rfl]
  apply Ze6
  show post lim h e _=_
  unfold post
  rw [ZaV (ZbA ..),ZaV (ZbW hp)]
  exact ZbW (ZwJ hs)
 | d + 1,v,hv,h1=>by
  have ih:=Zyu hp hn hm hs d (v + 1) (by omega) (by omega)
  rw [Zbb (by simp [good];omega)]
  apply Ze6
  show bin lim v h e _=_
  unfold bin
  rw [ZaV (ZbA ..),Zae,if_neg (by simp;omega)]
  by_cases h3:v=3
  ·subst h3
   rw [Zae,if_pos (by decide),ZaV (ZaI ..),Zae,if_neg (by simp [hn])]
   exact ZbW ih
  ·rw [Zae,if_neg (by simpa using h3)]
   by_cases h8:v=8
   ·subst h8
    rw [Zae,if_pos (by decide),ZaV (ZaI ..),Zae,if_neg (by simp [hm])]
    exact ZbW ih
   ·rw [Zae,if_neg (by simpa using h8),ZaV (ZbW ih)]
    exact ZbW (Zyr h1 (by omega) hs)
def pfirst (t:Tk):Bool:=!isW ZhW t && !isW Zcr t && !isW Zfl t && !isW wIf t && !isW ZbR t && !isW Zd7 t && !isW mRk t && !isW mRp t
theorem Zsa {h:Bool} {e:Int} {t:Tk} {a:Int} {l R:List Tok} {y:Nd} (hp:lim (.prim h) e ((t,a)::l)=.ok [y] R) (ht:pfirst t=true) (hs:Stop R):lim (.expr h) e ((t,a)::l)=.ok [y] R:=by
 simp [pfirst] at ht
 obtain ⟨⟨⟨⟨⟨⟨⟨h1,h2⟩,h3⟩,h4⟩,h5⟩,h6⟩,-⟩,-⟩:=ht
 rw [Zbb rfl]
 apply Ze6
 show expr lim h e _=_
 unfold expr
 rw [ZaV (ZbA ..),ZaV (ZaI ..),Zae,if_neg (by simp [h3]),ZaV (ZaI ..),Zae,if_neg (by simp [h4]),ZaV (ZaI ..),Zae,if_neg (by simp [h5]),ZaV (ZaI ..),Zae,if_neg (by simp [h6])]
 exact ZbW (Zyu hp h1 h2 hs 8 1 rfl (by omega))
theorem Zy4 (h:Bool) (e n a:Int) (R:List Tok):lim (.prim h) e ((int n,a)::R)=.ok [.mk 20 [] n a []] R:=by
 rw [Zbb rfl]
 apply Ze6
 unfold prim
 simp (decide:=true) only [Zac,ZbA,ZaI,ZcX,Zae,Zb5,if_true,if_false,Zhn,ZnW,ZnV,ZfQ,beq_self_eq_true]
theorem Zyt {h:Bool} {e a b:Int} {t:Tk} {a':Int} {l R:List Tok} {y:Nd} (hx:lim (.expr false) e ((t,a')::l)=.ok [y] ((mkt mRk,b)::R)) (ht:pfirst t=true):lim (.prim h) e ((mkt mLk,a)::(t,a')::l)=.ok [.mk 26 [] 0 a [y]] R:=by
 have h7:isW mRk t=false:=by simp [pfirst] at ht;exact ht.1.2
 have e1:lim (.one .expr) e ((t,a')::l)=.ok [y] ((mkt mRk,b)::R):=by
  rw [Zbb rfl]
  exact Ze6 (ZbW hx)
 have e2:lim (.seps mRk .expr) e ((t,a')::l)=.ok [y] R:=by
  rw [Zbb rfl]
  show seps lim mRk .expr e _=_
  unfold seps
  simp (decide:=true) only [Zac,ZaI,Zae,Zb5,if_false,Zd4,ZcY,ZbW e1]
 rw [Zbb rfl]
 apply Ze6
 unfold prim list
 simp (decide:=true) only [Zac,ZbA,ZaI,ZcX,Zae,Zb5,if_true,if_false,Zd4,ZnJ,ZnI,ZcY,h7,e2]
theorem ZwK {h:Bool} {e a b:Int} {t:Tk} {a':Int} {l R:List Tok} {y:Nd} (hx:lim (.expr false) e ((t,a')::l)=.ok [y] ((mkt mRp,b)::R)) (ht:pfirst t=true):lim (.prim h) e ((mkt mLp,a)::(t,a')::l)=.ok [y] R:=by
 have h7:isW mRp t=false:=by simp [pfirst] at ht;exact ht.2
 rw [Zbb rfl]
 apply Ze6
 unfold prim
 simp (decide:=true) only [Zac,ZbA,ZaI,ZcX,Zae,Zb5,if_true,if_false,Zd4,ZnJ,ZnI,ZcY,h7,ZbW hx]
def nest (n b:Int):List Int→Nd
 | []=>.mk 20 [] n b []
 | a::l=>.mk 26 [] 0 a [nest n b l]
def Zhu (o s:Bs) (as bs:List Int) (L R:List Tok):List Tok:=as.map (fun a=>(mkt o,a))++(L++(bs.map (fun a=>(mkt s,a))++R))
theorem ZjR {s:Bs} (h:s=mRk∨s=mRp) (b:Int) (R:List Tok):Stop ((mkt s,b)::R):=by
 intro t a r e
 cases e
 rcases h with rfl | rfl <;> decide
theorem Zr9 {e:Int} {t:Tk} {c:Int} {l:List Tok} {y:Nd} {n b:Int} (hy:∀R,Stop R→lim (.expr false) e ((int n,b)::R)=.ok [.mk 20 [] n b []] R):∀(as ds:List Int),as.length=ds.length→∀R,Stop R→∃t' c' l',Zhu mLk mRk as ds.reverse [(int n,b)] R=(t',c')::l'∧pfirst t'=true∧lim (.expr false) e ((t',c')::l')=.ok [nest n b as] R
 | [],[],_,R,hR=>⟨int n,b,R,rfl,rfl,hy R hR⟩
 | a::as,d::ds,hl,R,hR=>by
  obtain ⟨t',c',l',h1,h2,h3⟩:=Zr9 (t:=t) (c:=c) (l:=l) (y:=y) hy as ds (by simpa using hl) ((mkt mRk,d)::R) (ZjR (.inl rfl) d R)
  refine ⟨mkt mLk,a,(t',c')::l',?_,by decide,?_⟩
  ·rw [← h1]
   simp [Zhu]
  ·exact Zsa (Zyt h3 h2) (by decide) hR
theorem Zr8 {e:Int} {y:Nd} {L:List Tok} (hy:∀R,Stop R→∃t' c' l',L++R=(t',c')::l'∧pfirst t'=true∧lim (.expr false) e ((t',c')::l')=.ok [y] R):∀(as ds:List Int),as.length=ds.length→∀R,Stop R→∃t' c' l',Zhu mLp mRp as ds.reverse L R=(t',c')::l'∧pfirst t'=true∧lim (.expr false) e ((t',c')::l')=.ok [y] R
 | [],[],_,R,hR=>by simpa [Zhu] using hy R hR
 | a::as,d::ds,hl,R,hR=>by
  obtain ⟨t',c',l',h1,h2,h3⟩:=Zr8 hy as ds (by simpa using hl) ((mkt mRp,d)::R) (ZjR (.inr rfl) d R)
  refine ⟨mkt mLp,a,(t',c')::l',?_,by decide,?_⟩
  ·rw [← h1]
   simp [Zhu]
  ·exact Zsa (ZwK h3 h2) (by decide) hR
theorem Zys (e n b:Int) (ps qs as ds:List Int) (h1:ps.length=qs.length) (h2:as.length=ds.length) {R:List Tok} (hR:Stop R):lim (.expr false) e (Zhu mLp mRp ps qs.reverse (Zhu mLk mRk as ds.reverse [(int n,b)] []) R)=.ok [nest n b as] R:=by
 have hy:∀R,Stop R→lim (.expr false) e ((int n,b)::R)=.ok [.mk 20 [] n b []] R:=fun R hR=>Zsa (Zy4 false e n b R) rfl hR
 obtain ⟨t',c',l',k1,-,k3⟩:=Zr8 (e:=e) (y:=nest n b as) (L:=Zhu mLk mRk as ds.reverse [(int n,b)] []) (fun R hR=>by
  obtain ⟨t',c',l',k1,k2,k3⟩:=Zr9 (t:=int n) (c:=b) (l:=[]) (y:=kid0) hy as ds h2 R hR
  refine ⟨t',c',l',?_,k2,k3⟩
  rw [← k1]
  simp [Zhu]) ps qs h1 R hR
 rw [k1]
 exact k3
theorem Zy5 {f:Bs} (hf:ZbF f=true) (e n b a0 a1 a2 a3 a4 a5 a6:Int) (ps qs as ds:List Int) (h1:ps.length=qs.length) (h2:as.length=ds.length):lim .decl e ((nm Zd7,a0)::(nm f,a1)::(mkt mLp,a2)::(mkt mRp,a3)::(mkt ZfH,a4)::(nm ZjN,a5)::(mkt mEq,a6)::Zhu mLp mRp ps qs.reverse (Zhu mLk mRk as ds.reverse [(int n,b)] []) [])=.ok [.mk 5 f 0 a0 [.mk 12 ZjN 0 a5 [],nest n b as]] []:=by
 have e1:=Zys e n b ps qs as ds h1 h2 (R:=[]) (by intro t a r h;cases h)
 have e2:∀l,lim (.one .type) e ((nm ZjN,a5)::l)=.ok [.mk 12 ZjN 0 a5 []] l:=fun l=>by
  rw [Zbb rfl]
  apply Ze6
  show typ lim e _=_
  unfold typ
  simp (decide:=true) only [Zac,ZbA,ZaI,Zae,Zb5,if_true,if_false,Zws,Zbs]
 rw [Zbb rfl]
 apply Ze6
 unfold decl sig list
 simp (decide:=true) only [Zac,ZbA,ZaI,Zae,Zb5,List.nil_append,if_true,if_false,Zd4,Zjq,ZcY,Zo3 hf,ZbW (e2 _),ZbW e1]
theorem File.one {p:Bool} {e:Int} {t:Tok} {l:List Tok} {x:Nd} (h:lim (if p=true then .change else .decl) e (t::l)=.ok [x] []):File p e (t::l) (.ok [x] []):=by
 refine ⟨by simp,14 * (t::l).length + 3,2,?_⟩
 have hr:rank (if p=true then NT.change else NT.decl)≤1:=by cases p <;> simp [rank]
 rw [Zcc]
 unfold S8.row
 rw [ZaV (ZbW (by rw [Zmb (by cases p <;> rfl) (by omega)];exact h))]
 rfl
theorem Zj5 (n b:Int):∀as,depth (nest n b as)=as.length
 | []=>rfl
 | a::as=>by
  rw [nest,depth,depths,depths,Zj5 n b as,List.length_cons]
  omega
open L7
mutual
def places:Nd→List Int
 | .mk _ _ _ a c=>a::placess c
def placess:List Nd→List Int
 | []=>[]
 | x::l=>places x++placess l
end
theorem ZmF (φ:Int→Int):∀x,nmap φ x=x→∀a∈places x,φ a=a:=by
 intro x
 induction x using ZhH with
 | h k t n a c ih=>
  intro h b hb
  rw [ZbE] at h
  simp only [Nd.mk.injEq,true_and] at h
  obtain ⟨h1,h2⟩:=h
  rw [places,List.mem_cons] at hb
  rcases hb with rfl | hb
  ·exact h1
  ·clear h1
   induction c with
   | nil=>simp [placess] at hb
   | cons y l ih2=>
    simp only [List.map_cons,List.cons.injEq] at h2
    rw [placess,List.mem_append] at hb
    rcases hb with hb | hb
    ·exact ih y (by simp) h2.1 b hb
    ·exact ih2 (fun u hu=>ih u (by simp [hu])) h2.2 hb
theorem Ztb {φ:Int→Int} {l:List Tok} (h:∀t∈l,φ t.2=t.2):tmap φ l=l:=by
 unfold tmap
 conv=>rhs;rw [← List.map_id l]
 refine List.map_congr_left fun t ht=>?_
 rw [h t ht];rfl
open Classical in
theorem File.places {p:Bool} {e:Int} {l:List Tok} {c:List Nd} {r:List Tok} (h:File p e l (.ok c r)):∀x∈c,∀a∈places x,a=e∨∃t∈l,t.2=a:=by
 obtain ⟨φ,hφ⟩:∃φ:Int→Int,φ=fun a=>if a=e∨∃t∈l,t.2=a then a else a + 1:=⟨_,rfl⟩
 have he:φ e=e:=by rw [hφ];simp
 have hl:tmap φ l=l:=Ztb fun t ht=>by rw [hφ];exact if_pos (.inr ⟨t,ht,rfl⟩)
 have h2:=h.map φ
 rw [he,hl] at h2
 have h3:=h.unique h2
 simp only [rmap,Res.ok.injEq] at h3
 intro x hx a ha
 have hfix:∀c:List Nd,c=c.map (nmap φ)→∀x∈c,nmap φ x=x:=by
  intro c hc x hx
  induction c with
  | nil=>cases hx
  | cons y c ih=>
   simp only [List.map_cons,List.cons.injEq] at hc
   rcases List.mem_cons.1 hx with rfl | hx
   ·exact hc.1.symm
   ·exact ih hc.2 hx
 have:=ZmF φ x (hfix c h3.1 x hx) a ha
 rw [hφ] at this
 by_cases hh:a=e∨∃t∈l,t.2=a
 ·exact hh
 ·replace this:(if a=e∨∃t∈l,t.2=a then a else a + 1)=a:=this
  rw [if_neg hh] at this;omega
mutual
def deep (m:Nat):Nat→Nd→Option Int
 | d,.mk _ _ _ a c=>if m < d then some a else deeps m (d + 1) c
def deeps (m:Nat):Nat→List Nd→Option Int
 | _,[]=>none
 | d,x::l=>match deep m d x with
  | some a=>some a
  | none=>deeps m d l
end
theorem Zsl (φ:Int→Int) (m:Nat):∀x d,deep m d (nmap φ x)=(deep m d x).map φ:=by
 intro x
 induction x using ZhH with
 | h k t n a c ih=>
  intro d
  rw [ZbE,deep,deep]
  split
  ·rfl
  ·induction c with
   | nil=>rfl
   | cons y l ih2=>
    rw [List.map_cons,deeps,deeps,ih y (by simp)]
    cases deep m (d + 1) y with
    | some b=>rfl
    | none=>exact ih2 fun u hu=>ih u (by simp [hu])
theorem Zkg (φ:Int→Int) (m d:Nat):∀c,deeps m d (c.map (nmap φ))=(deeps m d c).map φ
 | []=>rfl
 | x::l=>by
  rw [List.map_cons,deeps,deeps,Zsl φ m x d]
  cases deep m d x with
  | some b=>rfl
  | none=>exact Zkg φ m d l
theorem ZfB (m:Nat):∀x d,deep m d x=none↔d + depth x≤m:=by
 intro x
 induction x using ZhH with
 | h k t n a c ih=>
  intro d
  rw [deep,depth]
  split
  ·rename_i h
   constructor
   ·intro e;cases e
   ·intro e;omega
  ·rename_i h
   have key:deeps m (d + 1) c=none↔d + depths c≤m:=by
    induction c with
    | nil=>simp only [deeps,depths,true_iff];omega
    | cons y l ih2=>
     rw [deeps,depths]
     have h1:=ih y (by simp) (d + 1)
     have h2:=ih2 fun u hu=>ih u (by simp [hu])
     cases hy:deep m (d + 1) y with
     | some b=>
      rw [hy] at h1
      constructor
      ·intro e;cases e
      ·intro e
       have:d + 1 + depth y≤m:=by omega
       exact absurd (h1.2 this) (by simp)
     | none=>
      have hy2:=h1.1 hy
      show deeps m (d + 1) l=none↔_
      rw [h2]
      omega
   exact key
theorem Zuw (m:Nat):∀x d b,deep m d x=some b→b∈places x:=by
 intro x
 induction x using ZhH with
 | h k t n a c ih=>
  intro d b h
  rw [deep] at h
  rw [places,List.mem_cons]
  split at h
  ·cases h;exact .inl rfl
  ·right
   induction c with
   | nil=>cases h
   | cons y l ih2=>
    rw [deeps] at h
    rw [placess,List.mem_append]
    cases hy:deep m (d + 1) y with
    | some b'=>
     rw [hy] at h
     cases h
     exact .inl (ih y (by simp) (d + 1) b hy)
    | none=>
     rw [hy] at h
     exact .inr (ih2 (fun u hu=>ih u (by simp [hu])) h)
theorem Zmj (m:Nat) (n b:Int):∀(as:List Int) (d:Nat),d≤m→m < d + as.length→deep m d (nest n b as)=(as++[b])[m + 1 - d]?
 | [],d,hd,h=>by simp at h;omega
 | a::as,d,hd,h=>by
  rw [nest,deep,if_neg (by omega),deeps,deeps]
  have e:m + 1 - d=(m - d) + 1:=by omega
  rw [e,List.cons_append,List.getElem?_cons_succ]
  by_cases hd2:d + 1≤m
  ·by_cases h3:m < d + 1 + as.length
   ·have ih:=Zmj m n b as (d + 1) hd2 h3
    rw [ih,show m + 1 - (d + 1)=m - d by omega]
    cases hq:(as++[b])[m - d]? with
    | some c=>rfl
    | none=>rfl
   ·exfalso
    simp at h
    omega
  ·have:m - d=0:=by omega
   rw [this]
   cases as with
   | nil=>rw [nest,deep,if_pos (by omega)];rfl
   | cons a' as=>rw [nest,deep,if_pos (by omega)];rfl
open L7
def lft (v:Nat):Nat:=if v=4 then 5 else v
def lv (f m:Nat):List Nat:=[7,6,5,4,2,1].filter fun v=>decide (lft v≤f) && decide (m≤v)
noncomputable def ZcU (h:Bool) (a:Int):List Nat→Nd→P Nd
 | [],x=>pure x
 | v::vs,x=>single (lim (.tail v h a x)) >>= fun y=>ZcU h a vs y
theorem ZlM {v:Nat} (h1:1≤v) (h8:v≤8) (h:Bool) (a:Int) (x:Nd) (e:Int) (l:List Tok):single (lim (.tail v h a x)) e l=tail lim v h a x e l:=by
 rw [ZbG,Zbb (nt:=.tail v h a x) (by simp [good];omega)]
 show (match one (tail lim v h a x) e l with | .out=>_ | .err a=>_ | .ok [x] r=>_ | .ok _ r=>_)=_
 unfold one
 rw [Zac]
 cases tail lim v h a x e l <;> rfl
theorem ZhU {v:Nat} (h1:1≤v) (h9:v≤9) (h:Bool) (e:Int) (l:List Tok):single (lim (.bin v h)) e l=bin lim v h e l:=by
 rw [ZbG,Zbb (nt:=.bin v h) (by simp [good];omega)]
 show (match one (bin lim v h) e l with | .out=>_ | .err a=>_ | .ok [x] r=>_ | .ok _ r=>_)=_
 unfold one
 rw [Zac]
 cases bin lim v h e l <;> rfl
theorem Zi2 (h:Bool) (a:Int):∀(us vs:List Nat) (x:Nd) (e:Int) (l:List Tok),ZcU h a (us++vs) x e l=(ZcU h a us x >>= fun y=>ZcU h a vs y) e l
 | [],vs,x,e,l=>rfl
 | u::us,vs,x,e,l=>by
  show (single (lim (.tail u h a x)) >>= fun y=>ZcU h a (us++vs) y) e l=((single (lim (.tail u h a x)) >>= fun y=>ZcU h a us y) >>= fun y=>ZcU h a vs y) e l
  simp only [Zac]
  cases single (lim (.tail u h a x)) e l with
  | out=>rfl
  | err b=>rfl
  | ok y r=>exact Zi2 h a us vs y e r
theorem ZgI (h:Bool) (a:Int) (x:Nd) (e:Int) (l:List Tok):∀vs:List Nat,(∀v∈vs,1≤v∧v≤8∧∀t b r,l=(t,b)::r→olev t≠v)→ZcU h a vs x e l=.ok x l
 | [],_=>rfl
 | v::vs,hv=>by
  obtain ⟨h1,h8,hn⟩:=hv v (by simp)
  show (single (lim (.tail v h a x)) >>= fun y=>ZcU h a vs y) e l=_
  rw [Zac,ZlM h1 h8]
  have ht:tail lim v h a x e l=.ok x l:=by
   unfold tail
   cases l with
   | nil=>rw [Zac,ZpQ];rfl
   | cons t r=>
    obtain ⟨t,b⟩:=t
    rw [Zac,Zcp]
    simp only
    rw [Zae,if_neg (by rw [Zjs v (by omega)];simpa using hn t b r rfl)]
    rfl
  rw [ht]
  exact ZgI h a x e l vs fun u hu=>hv u (by simp [hu])
theorem Zmr {f m v:Nat} (h:v∈lv f m):1≤v∧v≤8∧lft v≤f∧m≤v:=by
 unfold lv at h
 rw [List.mem_filter] at h
 simp only [Bool.and_eq_true,decide_eq_true_eq] at h
 obtain ⟨h1,h2,h3⟩:=h
 simp at h1
 omega
def bef (v:Nat):List Nat→List Nat
 | []=>[]
 | u::l=>if u=v then [] else u::bef v l
theorem Zok {u v:Nat} : ∀l,u∈bef v l→u∈l∧u≠v
 | [],h=>by cases h
 | x::l,h=>by
  unfold bef at h
  split at h
  ·cases h
  ·rcases List.mem_cons.1 h with rfl | h
   ·exact ⟨by simp,by assumption⟩
   ·have:=Zok l h
    exact ⟨by simp [this.1],this.2⟩
def splits (f m v:Nat):Bool:=decide (lft v≤f→m≤v→lv f m=bef v (lv f m)++v::(if v=4 then lv v m else (lv v m).tail)∧(v≠4→lv v m=v::(lv v m).tail))
theorem ZpD:((List.range 10).all fun f=>(List.range 9).all fun m=>[7,6,5,4,2,1].all fun v=>splits f m v)=true:=by decide
theorem Zt8 (f:Nat) (hf:f < 10) (m:Nat) (hm:m < 9) (v:Nat) (hv:v∈[7,6,5,4,2,1]) (h1:lft v≤f) (h2:m≤v):lv f m=bef v (lv f m)++v::(if v=4 then lv v m else (lv v m).tail)∧(v≠4→lv v m=v::(lv v m).tail):=by
 have h:=List.all_eq_true.1 (List.all_eq_true.1 (List.all_eq_true.1 ZpD f (List.mem_range.2 hf)) m (List.mem_range.2 hm)) v hv
 exact of_decide_eq_true h h1 h2
theorem Zwq (t:Tk) (h:olev t≠0):olev t∈[7,6,5,4,2,1]:=by
 have h1:∀b:Bool,(if b=true then level t.t else 0)≠0→(if b=true then level t.t else 0)=level t.t:=by
  intro b hb
  cases b with
  | true=>rfl
  | false=>exact absurd rfl hb
 have h2:olev t=level t.t:=h1 _ h
 rw [h2] at h ⊢
 have h3:∀s:Bs,level s=0∨level s∈[7,6,5,4,2,1]:=by
  intro s
  unfold level
  repeat' split
  all_goals simp
 rcases h3 t.t with h4 | h4
 ·exact absurd h4 h
 ·exact h4
theorem Zpy (h:Bool) (a:Int) (f m:Nat) (hf:f < 10) (hm:1≤m) (hm9:m < 9) (x:Nd) (e:Int) (t:Tk) (b:Int) (r:List Tok) :
  ZcU h a (lv f m) x e ((t,b)::r)=if olev t < m∨f < lft (olev t) then .ok x ((t,b)::r)
   else (single (lim (.bin (olev t + 1) h)) >>= fun y=>ZcU h a (lv (olev t) m) (.mk 35 t.t 0 a [x,y])) e r:=by
 split
 ·rename_i hc
  refine ZgI h a x e _ _ fun v hv=>?_
  obtain ⟨h1,h8,h2,h3⟩:=Zmr hv
  refine ⟨h1,h8,fun t' b' r' he=>?_⟩
  cases he
  rintro rfl
  omega
 ·rename_i hc
  have hv0:olev t≠0:=by omega
  have hin:=Zwq t hv0
  obtain ⟨v,hv⟩:∃v,v=olev t:=⟨_,rfl⟩
  rw [← hv] at hin hc hv0 ⊢
  obtain ⟨hs,hs2⟩:=Zt8 f hf m hm9 v hin (by omega) (by omega)
  have hv8:v≤8:=by simp at hin;omega
  rw [hs,Zi2,Zac,ZgI h a x e _ _ (fun u hu=>by
   have hu2:=(Zok _ hu).2
   have hu1:=Zmr (Zok _ hu).1
   refine ⟨hu1.1,hu1.2.1,fun t' b' r' he=>?_⟩
   cases he
   rw [← hv]
   omega)]
  show (single (lim (.tail v h a x)) >>= fun y=>ZcU h a (if v=4 then lv v m else (lv v m).tail) y) e ((t,b)::r)=_
  rw [Zac,ZlM (by omega) hv8]
  have ho:Zr2 v t=true:=by rw [Zjs v hv0,← hv];simp
  have ht:tail lim v h a x e ((t,b)::r)=(single (lim (.bin (v + 1) h)) >>= fun y=>if v == 4 then pure (.mk 35 t.t 0 a [x,y]) else single (lim (.tail v h a (.mk 35 t.t 0 a [x,y])))) e r:=by
   unfold tail
   rw [Zac,Zcp]
   simp only
   rw [Zae,if_pos ho,Zac,Zbs,if_pos ho]
  rw [ht,Zac,Zac]
  cases hr:single (lim (.bin (v + 1) h)) e r with
  | out=>rfl
  | err c=>rfl
  | ok y q=>
   simp only
   by_cases h4:v=4
   ·subst h4
    rfl
   ·rw [if_neg h4]
    have:(v == 4)=false:=by simpa using h4
    rw [this]
    conv=>rhs;rw [hs2 h4]
    rfl
theorem ZqS (h:Bool) (a:Int) (f m:Nat) (x:Nd) (e:Int):ZcU h a (lv f m) x e []=.ok x []:=
 ZgI h a x e [] _ fun v hv=>⟨(Zmr hv).1,(Zmr hv).2.1,fun t b r he=>by cases he⟩
noncomputable def Zb3 (m:Nat) (h:Bool):P (Nd × Nat):=do
 let a ← here
 if ← ZaC ZhW then
  if m≤3 then do
   let _ ← must ZhW
   let x ← single (lim (.bin 3 h))
   pure (.mk 34 [] 0 a [x],3)
  else do
   let x ← single (lim (.post h))
   pure (x,9)
 else if ← ZaC Zcr then do
  let _ ← must Zcr
  let x ← single (lim (.bin 8 h))
  pure (.mk 33 [] 0 a [x],8)
 else do
  let x ← single (lim (.post h))
  pure (x,9)
theorem ZnN:∀f,f=3∨f=8∨f=9→∀m,m < 8→(1≤m∧m≤2∨(4≤m∧f≠3))→lv f m=lv f (m + 1)++[m]:=by
 rintro f (rfl | rfl | rfl) <;> decide
theorem ZhY {m:Nat} {h:Bool} {e:Int} {l:List Tok} {p:Nd × Nat} {r:List Tok} (hu:Zb3 m h e l=.ok p r):(p.2=3∧m≤3)∨p.2=8∨p.2=9:=by
 unfold Zb3 at hu
 cases l with
 | nil=>cases hu
 | cons t l=>
  obtain ⟨t,a⟩:=t
  rw [Zac,ZbA] at hu
  simp only [Zac,ZaI,Zae] at hu
  split at hu
  ·split at hu
   ·repeat' split at hu
    all_goals first | (cases hu;done) | (cases hu;left;exact ⟨rfl,by assumption⟩)
   ·repeat' split at hu
    all_goals first | (cases hu;done) | (cases hu;simp)
  ·split at hu
   all_goals (repeat' split at hu)
   all_goals first | (cases hu;done) | (cases hu;simp)
theorem ZtO {t:Tk} (h:isW ZhW t=true):isW Zcr t=false:=ZiN h (by decide)
theorem Zqq (h:Bool) (e:Int) (t:Tk) (a:Int) (l:List Tok):single (lim (.bin 8 h)) e ((t,a)::l)=(Zb3 8 h >>= fun p=>ZcU h a (lv p.2 8) p.1) e ((t,a)::l):=by
 have e8:∀(p:Nd × Nat) (r:List Tok),ZcU h a (lv p.2 8) p.1 e r=.ok p.1 r:=fun p r=>by
  have:lv p.2 8=[]:=by
   apply List.eq_nil_iff_forall_not_mem.2
   intro v hv
   have h1:=Zmr hv
   unfold lv at hv
   rw [List.mem_filter] at hv
   have:=hv.1
   simp at this
   omega
  rw [this];rfl
 have er:(Zb3 8 h >>= fun p=>ZcU h a (lv p.2 8) p.1) e ((t,a)::l)=match Zb3 8 h e ((t,a)::l) with | .out=>.out | .err a=>.err a | .ok p r=>.ok p.1 r:=by
  rw [Zac]
  cases Zb3 8 h e ((t,a)::l) with
  | out=>rfl
  | err a=>rfl
  | ok p r=>exact e8 p r
 rw [er,ZhU (by omega) (by omega)]
 unfold bin Zb3
 simp only [Zac,ZbA,ZaI,Zae]
 rw [if_neg (by decide),if_neg (by decide),if_pos (by decide)]
 have hb:∀r,single (lim (.bin 9 h)) e r=match single (lim (.post h)) e r with | .out=>.out | .err a=>.err a | .ok x r=>.ok x r:=fun r=>by
  rw [ZhU (by omega) (by omega)]
  unfold bin
  rw [Zac]
  cases r with
  | nil=>
   show Res.err e=_
   rw [ZbG,Zbb (nt:=.post h) rfl]
   rfl
  | cons u r=>
   obtain ⟨u,b⟩:=u
   rw [ZbA]
   simp only
   rw [Zae,if_pos (by decide)]
   cases single (lim (.post h)) e ((u,b)::r) <;> rfl
 cases hn:isW ZhW t with
 | true=>
  rw [ZtO hn]
  simp only [if_true,if_false,Bool.false_eq_true]
  rw [if_neg (by omega),hb]
  cases single (lim (.post h)) e ((t,a)::l) <;> rfl
 | false=>
  cases hm:isW Zcr t with
  | true=>
   simp only [if_true,if_false,Bool.false_eq_true]
   have:must Zcr e ((t,a)::l)=.ok t l:=by unfold must;rw [Zbs,if_pos hm]
   rw [this]
   simp only
   cases single (lim (.bin 8 h)) e l <;> rfl
  | false=>
   simp only [if_false,Bool.false_eq_true]
   rw [hb]
   cases single (lim (.post h)) e ((t,a)::l) <;> rfl
theorem Zpv {m m':Nat} (hm:m≤3↔m'≤3) (h:Bool):Zb3 m h=Zb3 m' h:=by
 unfold Zb3
 by_cases h3:m≤3
 ·simp only [if_pos h3,if_pos (hm.1 h3)]
 ·simp only [if_neg h3,if_neg (fun k=>h3 (hm.2 k))]
theorem ZmW (h:Bool) (e:Int) (t:Tk) (a:Int) (l:List Tok):∀d m,m + d=8→1≤m→single (lim (.bin m h)) e ((t,a)::l)=(Zb3 m h >>= fun p=>ZcU h a (lv p.2 m) p.1) e ((t,a)::l)
 | 0,m,hd,_=>by
  have:m=8:=by omega
  subst this
  exact Zqq h e t a l
 | d + 1,m,hd,h1=>by
  have ih:=ZmW h e t a l d (m + 1) (by omega) (by omega)
  rw [ZhU h1 (by omega)]
  by_cases h3:m=3
  ·subst h3
   unfold bin
   rw [Zac,ZbA]
   simp only
   rw [Zae,if_neg (by decide),Zae,if_pos (by decide),Zac,ZaI]
   simp only
   cases hn:isW ZhW t with
   | true=>
    have hmu:must ZhW e ((t,a)::l)=.ok t l:=by unfold must;rw [Zbs,if_pos hn]
    rw [Zae,if_pos rfl]
    unfold Zb3
    simp only [Zac,ZbA,ZaI,Zae,hn,if_true,hmu]
    rw [if_pos (by decide)]
    cases single (lim (.bin 3 h)) e l with
    | out=>rfl
    | err b=>rfl
    | ok x r=>rfl
   | false=>
    rw [Zae,if_neg (by decide),ih]
    have hu:Zb3 4 h e ((t,a)::l)=Zb3 3 h e ((t,a)::l):=by
     unfold Zb3
     simp only [Zac,ZbA,ZaI,Zae,hn,if_false,Bool.false_eq_true]
    rw [Zac,Zac]
    rw [show Zb3 (3 + 1) h e ((t,a)::l)=Zb3 3 h e ((t,a)::l) from hu]
    cases hr:Zb3 3 h e ((t,a)::l) with
    | out=>rfl
    | err b=>rfl
    | ok p r=>
     simp only
     rw [← hu] at hr
     rcases ZhY hr with ⟨_,k⟩ | k | k
     ·omega
     ·rw [k];rfl
     ·rw [k];rfl
  ·have hb:bin lim m h e ((t,a)::l)=(single (lim (.bin (m + 1) h)) >>= fun x=>single (lim (.tail m h a x))) e ((t,a)::l):=by
    unfold bin
    rw [Zac,ZbA]
    simp only
    rw [Zae,if_neg (by simp;omega),Zae,if_neg (by simpa using h3),Zae,if_neg (by simp;omega)]
   rw [hb,Zac,ih,Zpv (m:=m) (m':=m + 1) (by omega) h,Zac,Zac]
   cases hr:Zb3 (m + 1) h e ((t,a)::l) with
   | out=>rfl
   | err b=>rfl
   | ok p r=>
    simp only
    have hl:lv p.2 m=lv p.2 (m + 1)++[m]:=by
     rcases ZhY hr with ⟨k,k2⟩ | k | k
     ·exact ZnN _ (.inl k) m (by omega) (by omega)
     ·exact ZnN _ (.inr (.inl k)) m (by omega) (by omega)
     ·exact ZnN _ (.inr (.inr k)) m (by omega) (by omega)
    rw [hl,Zi2,Zac]
    cases ZcU h a (lv p.2 (m + 1)) p.1 e r with
    | out=>rfl
    | err b=>rfl
    | ok x q=>
     simp only
     show _=(single (lim (.tail m h a x)) >>= fun y=>pure y) e q
     rw [Zac]
     cases single (lim (.tail m h a x)) e q <;> rfl
open L7
def Zvp (p:Bool):NT:=if p=true then .change else .decl
theorem ZpF {p:Bool} {m:Nat} {e:Int} {l:List Tok} (hm:14 * l.length + 3≤m):single (parse m (Zvp p)) e l=single (lim (Zvp p)) e l:=by
 have hr:rank (Zvp p)≤1:=by cases p <;> simp [rank,Zvp]
 rw [ZbG,ZbG,Zmb (by cases p <;> rfl) (by omega)]
theorem File.next {p:Bool} {e:Int} {t:Tok} {l r:List Tok} {x:Nd} {R:Res (List Nd)} (h:single (lim (Zvp p)) e (t::l)=.ok x r) (k:File p e r R):File p e (t::l) (pre [x] R):=by
 obtain ⟨k0,m,j,k1⟩:=k
 refine ⟨by cases R <;> simp_all [pre],max m (14 * (t::l).length + 3),j + 1,?_⟩
 rw [Zcc]
 unfold S8.row
 have h1:single (parse (max m (14 * (t::l).length + 3)) (Zvp p)) e (t::l)=.ok x r:=(ZpF (p:=p) (Nat.le_max_right _ _)).trans h
 have h2:decls (max m (14 * (t::l).length + 3)) p j e r=R:=by
  rw [Zc8 (Nat.le_max_left m _) (Nat.le_refl j) (by rw [k1];exact k0),k1]
 rw [show single (parse (max m (14 * (t::l).length + 3)) (if p=true then .change else .decl))=single (parse (max m (14 * (t::l).length + 3)) (Zvp p)) from rfl,ZfX h1,Zac,h2]
 cases R <;> rfl
noncomputable def Zqa (p:Bool) (e:Int) (l:List Tok):Res (List Nd):=(File.total p e l).choose
theorem ZgU (p:Bool) (e:Int) (l:List Tok):File p e l (Zqa p e l):=(File.total p e l).choose_spec
theorem Zup {p:Bool} {e:Int} {l:List Tok} {R:Res (List Nd)} (h:File p e l R):Zqa p e l=R:=(ZgU p e l).unique h
end Go.Proofs.YtaheffiglmglbaaGreatDoor.S8
