import Derived.Test.YtaheffiglmglbaaGreatDoorKPb
/- SynB. -/
set_option maxHeartbeats 8000000
set_option maxRecDepth 20000
namespace Go.Proofs.YtaheffiglmglbaaGreatDoor.S8
open L7
open Classical in
noncomputable def lim:G:=fun nt e l=>if h:∃m,parse m nt e l≠.out then parse h.choose nt e l else .out
theorem Zjj {m:Nat} {nt:NT} {e:Int} {l:List Tok} (h:parse m nt e l≠.out):lim nt e l=parse m nt e l:=by
 have hx:∃m,parse m nt e l≠.out:=⟨m,h⟩
 unfold lim
 rw [dif_pos hx]
 have h1:Ev e nt l (parse hx.choose nt e l):=⟨hx.choose_spec,_,rfl⟩
 exact h1.unique ⟨h,m,rfl⟩
theorem Zym (m:Nat) (nt:NT):le (parse m nt) (lim nt):=fun e l=>by
 by_cases h:parse m nt e l=.out
 ·exact .inl h
 ·exact .inr (Zjj h).symm
theorem Zh7 (m:Nat) (nt:NT):parse (m + 1) nt=body (parse m) nt:=rfl
theorem Zbb {nt:NT} (hg:good nt=true) (e:Int) (l:List Tok):lim nt e l=body lim nt e l:=by
 obtain ⟨N,hN⟩:∃N,N=14 * l.length + rank nt + 1:=⟨_,rfl⟩
 have h1:=ZfZ (N + 1) l.length nt hg (by omega) e l (Nat.le_refl _)
 rw [Zjj h1]
 have h2:=ZrV (fun nt=>Zym N nt) nt e l
 rw [Zh7] at h1 ⊢
 rcases h2 with h | h
 ·exact absurd h h1
 ·exact h
theorem Zyl {nt:NT} (hg:good nt=true) (e:Int) (l:List Tok):lim nt e l≠.out:=by
 have h:=ZfZ (14 * l.length + rank nt + 1) l.length nt hg (by omega) e l (Nat.le_refl _)
 rw [Zjj h];exact h
theorem Znd (nt:NT):Suf (lim nt):=fun e l x r h=>by
 by_cases hx:∃m,parse m nt e l≠.out
 ·obtain ⟨m,hm⟩:=hx
  rw [Zjj hm] at h
  exact Zdd m nt e l x r h
 ·unfold lim at h;rw [dif_neg hx] at h;cases h
theorem Zll (nt:NT) (ht:takes nt=true):Con (lim nt):=fun e l x r h=>by
 by_cases hx:∃m,parse m nt e l≠.out
 ·obtain ⟨m,hm⟩:=hx
  rw [Zjj hm] at h
  exact ZhR m nt ht e l x r h
 ·unfold lim at h;rw [dif_neg hx] at h;cases h
theorem Zac {α β:Type} (p:P α) (f:α→P β) (e:Int) (l:List Tok):(p >>= f) e l=match p e l with
 | .out=>.out
 | .err a=>.err a
 | .ok x r=>f x e r:=rfl
theorem Zb5 {α:Type} (x:α) (e:Int) (l:List Tok):(pure x:P α) e l=.ok x l:=rfl
theorem ZbA (e:Int) (t:Tk) (a:Int) (r:List Tok):here e ((t,a)::r)=.ok a ((t,a)::r):=rfl
theorem ZaI (s:Bs) (e:Int) (t:Tk) (a:Int) (r:List Tok):ZaC s e ((t,a)::r)=.ok (isW s t) ((t,a)::r):=rfl
theorem Zro (s:Bs) (e:Int):ZaC s e []=.ok false []:=rfl
theorem Zcp (v:Nat) (e:Int) (t:Tk) (a:Int) (r:List Tok):Zft v e ((t,a)::r)=.ok (Zr2 v t) ((t,a)::r):=rfl
theorem ZpQ (v:Nat) (e:Int):Zft v e []=.ok false []:=rfl
theorem ZcX (f:Tk→Bool) (e:Int) (t:Tk) (a:Int) (r:List Tok):ZeR f e ((t,a)::r)=.ok (f t) ((t,a)::r):=rfl
theorem Zbs (f:Tk→Bool) (e:Int) (t:Tk) (a:Int) (r:List Tok):Zed f e ((t,a)::r)=if f t then .ok t r else .err a:=rfl
theorem Zae {α:Type} (c:Prop) [Decidable c] (p q:P α) (e:Int) (l:List Tok):(if c then p else q) e l=if c then p e l else q e l:=by split <;> rfl
theorem ZbG (p:P (List Nd)) (e:Int) (l:List Tok):single p e l=match p e l with
 | .out=>.out
 | .err a=>.err a
 | .ok [x] r=>.ok x r
 | .ok _ r=>fail e r:=by
 unfold single
 rw [Zac]
 cases p e l with
 | out=>rfl
 | err a=>rfl
 | ok x r=>
  match x with
  | []=>rfl
  | [x]=>rfl
  | x::y::l=>rfl
open L7
theorem ZyZ (t:Bs) (n a:Int) (c:List Nd):raw (.mk 5 t n a c)=nm Zd7::nm t::(inB mLp (sub (raws c) 0 (((raws c).length:Int) - 2)) mRp++mkt ZfH::(part (raws c) (((raws c).length:Int) - 2)++mkt mEq::part (raws c) (((raws c).length:Int) - 1))):=by rw [raw];rfl
theorem ZyY (t:Bs) (n a:Int) (c:List Nd):raw (.mk 6 t n a c)=nm ZbV::nm t::(inB mLp ((raws c).take (nfields c)) mRp++((if n < 0 then [nm ZbU] else [])++((if 0 < n then [nm Zcl,int (n - 1)] else [])++Zju ((raws c).drop (nfields c))))):=by rw [raw];rfl
theorem ZyW (t:Bs) (n a:Int) (c:List Nd):raw (.mk 9 t n a c)=nm Zec::nm t::mkt ZfH::(part (raws c) 0++mkt mEq::part (raws c) 1):=by rw [raw];rfl
theorem ZxW (t:Bs) (n a:Int) (c:List Nd):raw (.mk 10 t n a c)=nm wOn::nm t::(inB mLp (sub (raws c) 0 (((raws c).length:Int) - 1)) mRp++part (raws c) (((raws c).length:Int) - 1)):=by rw [raw];rfl
theorem ZxU (t:Bs) (n a:Int) (c:List Nd):raw (.mk 12 t n a c)=[nm t]:=by rw [raw];rfl
theorem ZyX (t:Bs) (n a:Int) (c:List Nd):raw (.mk 7 t n a c)=nm t::mkt ZfH::part (raws c) 0:=by rw [raw];rfl
theorem ZxV (t:Bs) (n a:Int) (c:List Nd):raw (.mk 11 t n a c)=Zju (raws c):=by rw [raw];rfl
theorem ZxN (t:Bs) (n a:Int) (c:List Nd):raw (.mk 52 t n a c)=nm wIf::(paren (part (raws c) 0)++(part (raws c) 1++(if ((raws c).length:Int)=3 then nm Zfo::part (raws c) 2 else []))):=by rw [raw];rfl
theorem ZxM (t:Bs) (n a:Int) (c:List Nd):raw (.mk 56 t n a c)=nm Zd0::(part (raws c) 0++nm t::inB mLp ((raws c).drop 1) mRp):=by rw [raw];rfl
theorem ZxL (t:Bs) (n a:Int) (c:List Nd):raw (.mk 70 t n a c)=nm Za2::nm ZfI::nm t::((if n=1 then [mkt ZdG,nm (kid c 0).t] else [])++(inB mLp (sub (raws c) (if n=1 then 1 else 0) (((raws c).length:Int) - 1)) mRp++mkt mEq::part (raws c) (((raws c).length:Int) - 1))):=by rw [raw];rfl
theorem ZxK (t:Bs) (n a:Int) (c:List Nd):raw (.mk 73 t n a c)=[nm Zeo,nm t,nm wTo,int n]:=by rw [raw];rfl
theorem ZxJ (t:Bs) (n a:Int) (c:List Nd):raw (.mk 74 t n a c)=[nm Zez,nm t]:=by rw [raw];rfl
theorem ZxO (t:Bs) (n a:Int) (c:List Nd):raw (.mk 35 t n a c)=operand (kid c 0) (part (raws c) 0) (if level t=4 then 5 else level t)++(if level t=1∨level t=2 then nm t else mkt t)::operand (kid c 1) (part (raws c) 1) (level t + 1):=by rw [raw];rfl
theorem ZxT (t:Bs) (n a:Int) (c:List Nd):raw (.mk 20 t n a c)=[int n]:=by rw [raw];rfl
theorem ZxS (t:Bs) (n a:Int) (c:List Nd):raw (.mk 24 t n a c)=[nm t]:=by rw [raw];rfl
theorem ZxR (t:Bs) (n a:Int) (c:List Nd):raw (.mk 25 t n a c)=[nm ZeX]:=by rw [raw];rfl
theorem ZxQ (t:Bs) (n a:Int) (c:List Nd):raw (.mk 26 t n a c)=inB mLk (raws c) mRk:=by rw [raw];rfl
theorem ZxP (t:Bs) (n a:Int) (c:List Nd):raw (.mk 29 t n a c)=bound t (raws c):=by rw [raw];rfl
open L7
def TokOk (l:List Tok):Prop:=∀t∈l,(t.1.k=2→0≤t.1.n∧t.1.n≤ZeY)∧(t.1.k=3→t.1.t.length≤4096)
theorem TokOk.suf {q r:List Tok} (h:TokOk (q++r)):TokOk r:=fun t ht=>h t (List.mem_append_right q ht)
def So {α:Type} (p:P α) (Q:α→Prop):Prop:=∀e l x r,TokOk l→p e l=.ok x r→Q x
theorem Zak {α β:Type} {p:P α} {f:α→P β} {Q:α→Prop} {R:β→Prop} (h1:So p Q) (h2:Suf p) (h3:∀x,Q x→So (f x) R):So (p >>= f) R:=fun e l y r ht h=>by
 obtain ⟨x,r1,k1,k2⟩:=Zc2 h
 obtain ⟨q,rfl⟩:=h2 e l x r1 k1
 exact h3 x (h1 e _ x r1 ht k1) e r1 y r ht.suf k2
theorem ZaD {α β:Type} {p:P α} {f:α→P β} {R:β→Prop} (h2:Suf p) (h3:∀x,So (f x) R):So (p >>= f) R:=Zak (Q:=fun _=>True) (fun _ _ _ _ _ _=>trivial) h2 fun x _=>h3 x
theorem Zbu {α:Type} {x:α} {Q:α→Prop} (h:Q x):So (pure x:P α) Q:=fun e l y r _ h'=>by
 have h2:P.ret x e l=.ok y r:=h'
 unfold P.ret at h2
 cases h2;exact h
theorem ZeO {α:Type} {Q:α→Prop} : So (fail:P α) Q:=fun e l y r _ h=>by
 unfold fail at h;split at h <;> cases h
theorem ZcW {α:Type} {c:Prop} [Decidable c] {p q:P α} {Q:α→Prop} (h1:So p Q) (h2:So q Q):So (if c then p else q) Q:=by
 split
 ·exact h1
 ·exact h2
theorem ZkH {α:Type} {p:P α} {Q R:α→Prop} (h:So p Q) (k:∀x,Q x→R x):So p R:=fun e l x r ht hp=>k x (h e l x r ht hp)
theorem Zcs (f:Tk→Bool):So (Zed f) (fun t=>f t=true∧(t.k=2→0≤t.n∧t.n≤ZeY)∧(t.k=3→t.t.length≤4096)):=fun e l x r ht h=>by
 unfold Zed at h
 split at h
 ·cases h
 ·rename_i t a r'
  split at h
  ·rename_i hf
   cases h
   exact ⟨hf,ht (x,a) (by simp)⟩
  ·cases h
theorem Zf2:So low (fun t=>ZbF t=true):=Zak (Zcs _) (ZaG _).suf fun x hx=>Zbu (by have:=hx.1;simp at this;exact this.2)
theorem Zi4:So up (fun t=>Zcf t=true):=Zak (Zcs _) (ZaG _).suf fun x hx=>Zbu (by have:=hx.1;simp at this;exact this.2)
theorem Zua:ZbF ZhX=true:=by decide
theorem Zcw:So Zdn (fun t=>(Zcf t=true∨t=ZhX)∧(ZbF t=true∨Zcf t=true)):=Zak (Zcs _) (ZaG _).suf fun x hx=>Zbu (by
 have:=hx.1
 simp at this
 refine ⟨this.2,?_⟩
 rcases this.2 with h | h
 ·exact .inr h
 ·rw [h];exact .inl Zua)
theorem ZcV:So number (fun n=>0≤n∧n≤ZeY):=Zak (Zcs _) (ZaG _).suf fun x hx=>Zbu (by have:=hx.1;simp at this;exact hx.2.1 this)
theorem Zcv {p:P (List Nd)} {Q:Nd→Prop} (h:So p (fun l=>∃x,l=[x]∧Q x)) (hs:Suf p):So (single p) Q:=Zak h hs fun l hl=>by
 obtain ⟨x,rfl,hx⟩:=hl
 exact Zbu hx
def Zbn:What→Nd→Prop
 | .field,x=>x.k=7∧wf x=true
 | .type,x=>Zm1 x=true∧wf x=true
 | .ctor,x=>x.k=8∧wf x=true
 | .expr,x=>ZeW x=true∧wf x=true
 | .set,x=>x.k=28∧wf x=true
 | .bind,x=>x.k=40∧wf x=true
 | .arm,x=>x.k=39∧wf x=true
 | .sarm,x=>x.k=54∧wf x=true
 | .stmt,x=>Zjr x=true∧wf x=true
 | .member,x=>ZgT x=true∧wf x=true
abbrev Ex (x:Nd):Prop:=ZeW x=true∧wf x=true
def Zyb:NT→Prop
 | .tail v _ _ x=>v≠0∧Ex x
 | .ptail _ _ x=>Ex x
 | .bin v _=>v≠0
 | _=>True
def ZcM:NT→List Nd→Prop
 | .one w,l=>∃x,l=[x]∧Zbn w x
 | .seps _ w,l=>l≠[]∧∀x∈l,Zbn w x
 | .many w b,l=>(b=true→l≠[])∧∀x∈l,Zbn w x
 | .send,l=>∃x,l=[x]∧x.k=56∧wf x=true
 | .decl,l=>∃x,l=[x]∧ZdV x=true∧wf x=true
 | .change,l=>∃x,l=[x]∧ZcE x=true∧wf x=true
 | _,l=>∃x,l=[x]∧Ex x
theorem Zf9 (k t n a c):(Nd.mk k t n a c).k=k:=rfl
theorem Zeq (k t n a c):(Nd.mk k t n a c).t=t:=rfl
theorem Zeu (k t n a c):(Nd.mk k t n a c).n=n:=rfl
theorem Zew (k t n a c):(Nd.mk k t n a c).c=c:=rfl
theorem ZcD (k t n a c):wf (.mk k t n a c)=(shape k t n c && wfs c):=rfl
theorem ZaX (k t n a c):ZeW (.mk k t n a c)=((decide (20≤k) && decide (k≤38) && k != 28 || k == 41) && (k != 24 || ZbF t)):=rfl
theorem ZaW (k t n a c):Zm1 (.mk k t n a c)=(decide (12≤k) && decide (k≤15)):=rfl
theorem ZaA (k t n a c):Zjr (.mk k t n a c)=(decide (50≤k) && decide (k≤61) && k != 54):=rfl
theorem Zar (k t n a c):ZgT (.mk k t n a c)=(k == 9 || k == 10):=rfl
theorem Zaz (k t n a c):ZdV (.mk k t n a c)=(decide (2≤k) && decide (k≤6)):=rfl
theorem Zaq (k t n a c):ZcE (.mk k t n a c)=((decide (2≤k) && decide (k≤6)) || decide (70≤k) && decide (k≤74)):=rfl
section
variable {g:G} (H:∀nt,Suf (g nt)) (S:∀nt,Zyb nt→So (g nt) (ZcM nt))
include H S in
theorem Zoz (w:What):So (single (g (.one w))) (Zbn w):=Zcv (S _ trivial) (H _)
include H S in
theorem Zh2 (h:Bool):So (single (g (.expr h))) Ex:=Zcv (S _ trivial) (H _)
include S in
theorem Zes (o:Bs) (w:What) (s:Bs):So (list g o w s) (fun l=>∀x∈l,Zbn w x):=by
 unfold list
 exact ZaD (Zal _).suf fun _=>ZaD (ZaQ _) fun _=>ZcW (ZaD (Zal _).suf fun _=>Zbu (by simp)) (ZkH (S _ trivial) fun l hl=>hl.2)
include S in
theorem Zdg (o:Bs) (w:What) (s:Bs):So (some1 g o w s) (fun l=>l≠[]∧∀x∈l,Zbn w x):=by
 unfold some1
 exact ZaD (Zal _).suf fun _=>S (.seps s w) trivial
include S in
theorem Zdh (w:What) (b:Bool):So (many1 g w b) (fun l=>(b=true→l≠[])∧∀x∈l,Zbn w x):=by
 unfold many1
 exact ZaD (Zal _).suf fun _=>S (.many w b) trivial
include H S in
theorem Zgl (h:Bool):So (sig g h) (fun l=>∃t e,l=[t,e]∧(Zm1 t=true∧wf t=true)∧Ex e):=by
 unfold sig
 exact ZaD (Zal _).suf fun _=>Zak (Zoz H S .type) (Zav (H _)) fun t ht=>ZaD (Zal _).suf fun _=>Zak (Zh2 H S h) (Zav (H _)) fun e he=>Zbu ⟨t,e,rfl,ht,he⟩
include H S in
theorem ZkI:So (block g) (fun x=>x.k=11∧wf x=true):=by
 unfold block
 refine ZaD Zbt fun a=>Zak (Zdh S _ _) (Za9 H _ _).suf fun l hl=>Zbu ?_
 (first | (simp [Zbn,Zf9,ZcD,shape,Zbe] at *;done) | (simp [Zbn,Zf9,ZcD,shape,Zbe] at *;grind))
include H S in
theorem ZvW:So (field g) (Zbn .field)∧So (typ g) (Zbn .type)∧So (ctor g) (Zbn .ctor)∧So (set g) (Zbn .set)∧So (pattern g) (fun p=>(p.1=ZdF∧p.2=[])∨(Zcf p.1=true∧∀x∈p.2,Zbn .bind x))∧(∀a b,Zbn .bind b→So (spawn g a b) (fun x=>x.k=58∧wf x=true))∧So (send g) (fun x=>x.k=56∧wf x=true):=by
 unfold field typ ctor set pattern spawn send
 refine ⟨?_,?_,?_,?_,?_,fun a b hb=>?_,?_⟩
 all_goals
  repeat (first | with_reducible exact ZeO | (with_reducible refine ZaD Zbt (fun a=>?_)) | (with_reducible refine ZaD (ZaQ _) (fun _=>?_)) | (with_reducible refine ZaD (Zbo _) (fun _=>?_)) | (with_reducible refine ZaD (Zal _).suf (fun _=>?_)) | (with_reducible refine Zak Zf2 Za5.suf (fun t ht=>?_)) | (with_reducible refine Zak Zi4 Zbj.suf (fun t ht=>?_)) | (with_reducible refine Zak Zcw ZaS.suf (fun t ht=>?_)) | (with_reducible refine Zak ZcV ZaU.suf (fun n hn=>?_)) | (with_reducible refine Zak (Zcs _) (ZaG _).suf (fun t ht=>?_)) | (with_reducible refine Zak (Zoz H S _) (Zav (H _)) (fun y hy=>?_)) | (with_reducible refine Zak (Zh2 H S _) (Zav (H _)) (fun z hz=>?_)) | (with_reducible refine Zak (Zes S _ _ _) (Za8 H _ _ _).suf (fun l hl=>?_)) | (with_reducible refine Zak (Zdg S _ _ _) (Za0 H _ _ _).suf (fun l hl=>?_)) | (with_reducible refine Zak (Zdh S _ _) (Za9 H _ _).suf (fun m hm=>?_)) | (with_reducible refine Zak (Zgl H S _) (Zb9 H _).suf (fun s hs=>?_);obtain ⟨s1,s2,rfl,hs1,hs2⟩:=hs) | with_reducible apply ZcW | ((with_reducible refine Zbu ?_);focus (first | (simp [Zbn,Ex,Zf9,ZcD,shape,ends1,heads1,Zbe,isK,ZaW,ZeY] at *;done) | (simp [Zbn,Ex,Zf9,ZcD,shape,ends1,heads1,Zbe,isK,ZaW,ZeY] at *;grind))))
include H S in
theorem Ztq:So (field g) (Zbn .field):=(ZvW H S).1
include H S in
theorem ZxF:So (typ g) (Zbn .type):=(ZvW H S).2.1
include H S in
theorem ZvT:So (ctor g) (Zbn .ctor):=(ZvW H S).2.2.1
theorem Ztt:So Zfk (Zbn .bind):=by
 unfold Zfk
 repeat (first | with_reducible exact ZeO | (with_reducible refine ZaD Zbt (fun a=>?_)) | (with_reducible refine ZaD (ZaQ _) (fun _=>?_)) | (with_reducible refine ZaD (Zbo _) (fun _=>?_)) | (with_reducible refine ZaD (Zal _).suf (fun _=>?_)) | (with_reducible refine Zak Zf2 Za5.suf (fun t ht=>?_)) | (with_reducible refine Zak Zi4 Zbj.suf (fun t ht=>?_)) | (with_reducible refine Zak Zcw ZaS.suf (fun t ht=>?_)) | (with_reducible refine Zak ZcV ZaU.suf (fun n hn=>?_)) | (with_reducible refine Zak (Zcs _) (ZaG _).suf (fun t ht=>?_)) | (with_reducible refine Zak (Zoz H S _) (Zav (H _)) (fun y hy=>?_)) | (with_reducible refine Zak (Zh2 H S _) (Zav (H _)) (fun z hz=>?_)) | (with_reducible refine Zak (Zes S _ _ _) (Za8 H _ _ _).suf (fun l hl=>?_)) | (with_reducible refine Zak (Zdg S _ _ _) (Za0 H _ _ _).suf (fun l hl=>?_)) | (with_reducible refine Zak (Zdh S _ _) (Za9 H _ _).suf (fun m hm=>?_)) | (with_reducible refine Zak (Zgl H S _) (Zb9 H _).suf (fun s hs=>?_);obtain ⟨s1,s2,rfl,hs1,hs2⟩:=hs) | with_reducible apply ZcW | ((with_reducible refine Zbu ?_);focus (first | (simp [Zbn,Zf9,ZcD,shape,Zbe] at *;done) | (simp [Zbn,Zf9,ZcD,shape,Zbe] at *;grind))))
include H S in
theorem ZxG:So (set g) (Zbn .set):=(ZvW H S).2.2.2.1
include H S in
theorem ZjT:So (pattern g) (fun p=>(p.1=ZdF∧p.2=[])∨(Zcf p.1=true∧∀x∈p.2,Zbn .bind x)):=(ZvW H S).2.2.2.2.1
include H S in
theorem ZxH:So (arm g) (Zbn .arm):=by
 unfold arm
 repeat (first | with_reducible exact ZeO | (with_reducible refine ZaD Zbt (fun a=>?_)) | (with_reducible refine ZaD (ZaQ _) (fun _=>?_)) | (with_reducible refine ZaD (Zbo _) (fun _=>?_)) | (with_reducible refine ZaD (Zal _).suf (fun _=>?_)) | (with_reducible refine Zak Zf2 Za5.suf (fun t ht=>?_)) | (with_reducible refine Zak Zi4 Zbj.suf (fun t ht=>?_)) | (with_reducible refine Zak Zcw ZaS.suf (fun t ht=>?_)) | (with_reducible refine Zak ZcV ZaU.suf (fun n hn=>?_)) | (with_reducible refine Zak (Zcs _) (ZaG _).suf (fun t ht=>?_)) | (with_reducible refine Zak (Zoz H S _) (Zav (H _)) (fun y hy=>?_)) | (with_reducible refine Zak (Zh2 H S _) (Zav (H _)) (fun z hz=>?_)) | (with_reducible refine Zak (Zes S _ _ _) (Za8 H _ _ _).suf (fun l hl=>?_)) | (with_reducible refine Zak (Zdg S _ _ _) (Za0 H _ _ _).suf (fun l hl=>?_)) | (with_reducible refine Zak (Zdh S _ _) (Za9 H _ _).suf (fun m hm=>?_)) | (with_reducible refine Zak (Zgl H S _) (Zb9 H _).suf (fun s hs=>?_);obtain ⟨s1,s2,rfl,hs1,hs2⟩:=hs) | (with_reducible refine Zak (ZjT H S) (Zbh H).suf (fun p hp=>?_)) | with_reducible apply ZcW | ((with_reducible refine Zbu ?_);focus (first | (simp [Zbn,Ex,Zf9,ZcD,shape,ends1,Zbe,isK] at *;done) | (simp [Zbn,Ex,Zf9,ZcD,shape,ends1,Zbe,isK] at *;grind))))
include H S in
theorem ZvO:So (sarm g) (Zbn .sarm):=by
 unfold sarm
 repeat (first | with_reducible exact ZeO | (with_reducible refine ZaD Zbt (fun a=>?_)) | (with_reducible refine ZaD (ZaQ _) (fun _=>?_)) | (with_reducible refine ZaD (Zbo _) (fun _=>?_)) | (with_reducible refine ZaD (Zal _).suf (fun _=>?_)) | (with_reducible refine Zak Zf2 Za5.suf (fun t ht=>?_)) | (with_reducible refine Zak Zi4 Zbj.suf (fun t ht=>?_)) | (with_reducible refine Zak Zcw ZaS.suf (fun t ht=>?_)) | (with_reducible refine Zak ZcV ZaU.suf (fun n hn=>?_)) | (with_reducible refine Zak (Zcs _) (ZaG _).suf (fun t ht=>?_)) | (with_reducible refine Zak (Zoz H S _) (Zav (H _)) (fun y hy=>?_)) | (with_reducible refine Zak (Zh2 H S _) (Zav (H _)) (fun z hz=>?_)) | (with_reducible refine Zak (Zes S _ _ _) (Za8 H _ _ _).suf (fun l hl=>?_)) | (with_reducible refine Zak (Zdg S _ _ _) (Za0 H _ _ _).suf (fun l hl=>?_)) | (with_reducible refine Zak (Zdh S _ _) (Za9 H _ _).suf (fun m hm=>?_)) | (with_reducible refine Zak (Zgl H S _) (Zb9 H _).suf (fun s hs=>?_);obtain ⟨s1,s2,rfl,hs1,hs2⟩:=hs) | (with_reducible refine Zak (ZjT H S) (Zbh H).suf (fun p hp=>?_)) | (with_reducible refine Zak (ZkI H S) (ZbI H).suf (fun b hb=>?_)) | with_reducible apply ZcW | ((with_reducible refine Zbu ?_);focus (first | (simp [Zbn,Zf9,ZcD,shape,ends1,Zbe,isK] at *;done) | (simp [Zbn,Zf9,ZcD,shape,ends1,Zbe,isK] at *;grind))))
include H S in
theorem Ztn (a:Int) (b:Nd) (hb:Zbn .bind b): So (spawn g a b) (fun x=>x.k=58∧wf x=true):=(ZvW H S).2.2.2.2.2.1 a b hb
include H S in
theorem ZvN:So (send g) (fun x=>x.k=56∧wf x=true):=(ZvW H S).2.2.2.2.2.2
theorem Zlt (a:Int):Zbn .bind (.mk 40 ZdF 0 a []):=by simp [Zbn,Zf9,ZcD,shape,Zbe]
theorem Zlu {t:Bs} (ht:ZbF t=true) (a:Int):Zbn .bind (.mk 40 t 0 a []):=by simp [Zbn,Zf9,ZcD,shape,Zbe,ht]
include H S in
theorem ZhB {a:Int} {b:Nd} (hb:Zbn .bind b):So (spawn g a b) (Zbn .stmt):=ZkH (Ztn H S a b hb) fun x hx=>⟨by unfold Zjr;simp [hx.1],hx.2⟩
include H S in
theorem ZlS:So (single (g .send)) (Zbn .stmt):=ZkH (Zcv (Q:=fun x=>x.k=56∧wf x=true) (S .send trivial) (H _)) fun x hx=>⟨by unfold Zjr;simp [hx.1],hx.2⟩
include H S in
theorem Zto:So (single (g .send)) (fun x=>x.k=56∧wf x=true):=Zcv (S .send trivial) (H _)
include H S in
theorem ZvL:So (stmt g) (Zbn .stmt):=by
 unfold stmt
 repeat (first | with_reducible exact ZeO | (with_reducible refine ZaD Zbt (fun a=>?_)) | (with_reducible refine ZaD (ZaQ _) (fun _=>?_)) | (with_reducible refine ZaD (Zbo _) (fun _=>?_)) | (with_reducible refine ZaD (Zal _).suf (fun _=>?_)) | (with_reducible refine Zak Zf2 Za5.suf (fun t ht=>?_)) | (with_reducible refine Zak Zi4 Zbj.suf (fun t ht=>?_)) | (with_reducible refine Zak Zcw ZaS.suf (fun t ht=>?_)) | (with_reducible refine Zak ZcV ZaU.suf (fun n hn=>?_)) | (with_reducible refine Zak (Zcs _) (ZaG _).suf (fun t ht=>?_)) | (with_reducible refine Zak (Zoz H S _) (Zav (H _)) (fun y hy=>?_)) | (with_reducible refine Zak (Zh2 H S _) (Zav (H _)) (fun z hz=>?_)) | (with_reducible refine Zak (Zes S _ _ _) (Za8 H _ _ _).suf (fun l hl=>?_)) | (with_reducible refine Zak (Zdg S _ _ _) (Za0 H _ _ _).suf (fun l hl=>?_)) | (with_reducible refine Zak (Zdh S _ _) (Za9 H _ _).suf (fun m hm=>?_)) | (with_reducible refine Zak (Zgl H S _) (Zb9 H _).suf (fun s hs=>?_);obtain ⟨s1,s2,rfl,hs1,hs2⟩:=hs) | (with_reducible refine Zak (ZkI H S) (ZbI H).suf (fun b hb=>?_)) | with_reducible exact ZhB H S (Zlt _) | with_reducible exact ZhB H S (Zlu (by assumption) _) | with_reducible exact ZlS H S | (with_reducible refine Zak (Zto H S) (Zav (H _)) (fun y hy=>?_)) | with_reducible apply ZcW | ((with_reducible refine Zbu ?_);focus (first | (simp [Zbn,Ex,Zf9,Zeq,Zew,ZcD,shape,ends1,ends2,heads1,Zbe,isK,ZaA] at *;done) | (simp [Zbn,Ex,Zf9,Zeq,Zew,ZcD,shape,ends1,ends2,heads1,Zbe,isK,ZaA] at *;grind))))
include H S in
theorem ZqZ:So (member g) (Zbn .member):=by
 unfold member
 repeat (first | with_reducible exact ZeO | (with_reducible refine ZaD Zbt (fun a=>?_)) | (with_reducible refine ZaD (ZaQ _) (fun _=>?_)) | (with_reducible refine ZaD (Zbo _) (fun _=>?_)) | (with_reducible refine ZaD (Zal _).suf (fun _=>?_)) | (with_reducible refine Zak Zf2 Za5.suf (fun t ht=>?_)) | (with_reducible refine Zak Zi4 Zbj.suf (fun t ht=>?_)) | (with_reducible refine Zak Zcw ZaS.suf (fun t ht=>?_)) | (with_reducible refine Zak ZcV ZaU.suf (fun n hn=>?_)) | (with_reducible refine Zak (Zcs _) (ZaG _).suf (fun t ht=>?_)) | (with_reducible refine Zak (Zoz H S _) (Zav (H _)) (fun y hy=>?_)) | (with_reducible refine Zak (Zh2 H S _) (Zav (H _)) (fun z hz=>?_)) | (with_reducible refine Zak (Zes S _ _ _) (Za8 H _ _ _).suf (fun l hl=>?_)) | (with_reducible refine Zak (Zdg S _ _ _) (Za0 H _ _ _).suf (fun l hl=>?_)) | (with_reducible refine Zak (Zdh S _ _) (Za9 H _ _).suf (fun m hm=>?_)) | (with_reducible refine Zak (Zgl H S _) (Zb9 H _).suf (fun s hs=>?_);obtain ⟨s1,s2,rfl,hs1,hs2⟩:=hs) | (with_reducible refine Zak (ZkI H S) (ZbI H).suf (fun b hb=>?_)) | with_reducible apply ZcW | ((with_reducible refine Zbu ?_);focus (first | (simp [Zbn,Ex,ZcD,shape,ends1,ends2,Zbe,isK,Zar] at *;done) | (simp [Zbn,Ex,ZcD,shape,ends1,ends2,Zbe,isK,Zar] at *;grind))))
include H S in
theorem Zi5 (v:Nat) (h:Bool) (hv:v≠0):So (single (g (.bin v h))) Ex:=Zcv (S (.bin v h) hv) (H _)
include H S in
theorem ZqX (v:Nat) (h:Bool) (a:Int) (x:Nd) (hv:v≠0) (hx:Ex x):So (single (g (.tail v h a x))) Ex:=Zcv (S (.tail v h a x) ⟨hv,hx⟩) (H _)
include H S in
theorem Zoy (h:Bool):So (single (g (.post h))) Ex:=Zcv (S (.post h) trivial) (H _)
include H S in
theorem Zox (h:Bool):So (single (g (.prim h))) Ex:=Zcv (S (.prim h) trivial) (H _)
include H S in
theorem Zgm (h:Bool) (a:Int) (x:Nd) (hx:Ex x):So (single (g (.ptail h a x))) Ex:=Zcv (S (.ptail h a x) hx) (H _)
theorem Zvb {t:Bs} {a:Int} {x y:Nd} (ht:level t≠0) (hx:Ex x) (hy:Ex y):Ex (.mk 35 t 0 a [x,y]):=by simp [Ex,ZcD,shape,ends2,Zbe,ZaX] at *;grind
theorem Zw0 {a:Int} {x:Nd} {l:List Nd} (hx:Ex x) (hl:∀x∈l,Zbn .expr x):Ex (.mk 32 [] 0 a (x::l)):=by simp [Zbn,Ex,ZcD,shape,heads1,Zbe,ZaX] at *;grind
theorem Zyw {t:Bs} {a:Int} {x:Nd} (ht:ZbF t=true) (hx:Ex x):Ex (.mk 30 t 0 a [x]):=by simp [Ex,ZcD,shape,ends1,Zbe,ZaX] at *;grind
theorem ZwZ {a:Int} {x:Nd} {l:List Nd} (hx:Ex x) (hl:l≠[]∧∀x∈l,Zbn .set x):Ex (.mk 31 [] 0 a (x::l)):=by
 have h1:1≤l.length:=List.length_pos_iff.2 hl.1
 have h2:=hl.2
 simp [Zbn,Ex,ZcD,shape,heads1,Zbe,isK,ZaX] at *;grind
include H S in
theorem ZvR (h:Bool): So (expr g h) Ex:=by
 unfold expr
 repeat (first | with_reducible exact ZeO | (with_reducible refine ZaD Zbt (fun a=>?_)) | (with_reducible refine ZaD (ZaQ _) (fun _=>?_)) | (with_reducible refine ZaD (Zbo _) (fun _=>?_)) | (with_reducible refine ZaD (Zal _).suf (fun _=>?_)) | (with_reducible refine Zak Zf2 Za5.suf (fun t ht=>?_)) | (with_reducible refine Zak Zi4 Zbj.suf (fun t ht=>?_)) | (with_reducible refine Zak Zcw ZaS.suf (fun t ht=>?_)) | (with_reducible refine Zak ZcV ZaU.suf (fun n hn=>?_)) | (with_reducible refine Zak (Zcs _) (ZaG _).suf (fun t ht=>?_)) | (with_reducible refine Zak (Zoz H S _) (Zav (H _)) (fun y hy=>?_)) | (with_reducible refine Zak (Zh2 H S _) (Zav (H _)) (fun z hz=>?_)) | (with_reducible refine Zak (Zes S _ _ _) (Za8 H _ _ _).suf (fun l hl=>?_)) | (with_reducible refine Zak (Zdg S _ _ _) (Za0 H _ _ _).suf (fun l hl=>?_)) | (with_reducible refine Zak (Zdh S _ _) (Za9 H _ _).suf (fun m hm=>?_)) | (with_reducible refine Zak (Zgl H S _) (Zb9 H _).suf (fun s hs=>?_);obtain ⟨s1,s2,rfl,hs1,hs2⟩:=hs) | with_reducible exact Zi5 H S _ _ (by decide) | with_reducible exact Zoy H S _ | with_reducible exact Zox H S _ | with_reducible exact Zgm H S _ _ _ (by assumption) | with_reducible apply ZcW | ((with_reducible refine Zbu ?_);focus (first | (simp [Zbn,Ex,ZcD,shape,ends2,heads1,Zbe,isK,ZaX] at *;done) | (simp [Zbn,Ex,ZcD,shape,ends2,heads1,Zbe,isK,ZaX] at *;grind))))
include H S in
theorem ZvV (v:Nat) (h:Bool) (hv:v≠0):So (bin g v h) Ex:=by
 unfold bin
 refine ZaD Zbt fun a=>ZcW (Zoy H S h) (ZcW (ZaD (ZaQ _) fun _=>ZcW (ZaD (Zal _).suf fun _=>Zak (Zi5 H S 3 h (by decide)) (Zav (H _)) fun z hz=>Zbu ?_) (Zi5 H S 4 h (by decide))) (ZcW (ZaD (ZaQ _) fun _=>ZcW (ZaD (Zal _).suf fun _=>Zak (Zi5 H S 8 h (by decide)) (Zav (H _)) fun z hz=>Zbu ?_) (Zi5 H S 9 h (by decide))) (Zak (Zi5 H S (v + 1) h (by omega)) (Zav (H _)) fun x hx=>ZqX H S v h a x hv hx)))
 ·focus (first | (simp [Ex,ZcD,shape,ends1,Zbe,ZaX] at *;done) | (simp [Ex,ZcD,shape,ends1,Zbe,ZaX] at *;grind))
 ·focus (first | (simp [Ex,ZcD,shape,ends1,Zbe,ZaX] at *;done) | (simp [Ex,ZcD,shape,ends1,Zbe,ZaX] at *;grind))
include H S in
theorem Ztm (v:Nat) (h:Bool) (a:Int) (x:Nd) (hv:v≠0) (hx:Ex x):So (tail g v h a x) Ex:=by
 unfold tail
 refine ZaD (Zcu _) fun _=>ZcW (Zak (Zcs _) (ZaG _).suf fun t ht=>Zak (Zi5 H S (v + 1) h (by omega)) (Zav (H _)) fun y hy=>?_) (Zbu hx)
 have hl:level t.t≠0:=by
  have:=ht.1
  unfold Zr2 at this
  simp at this
  omega
 exact ZcW (Zbu (Zvb hl hx hy)) (ZqX H S v h a _ hv (Zvb hl hx hy))
include H S in
theorem Ztp (h:Bool):So (post g h) Ex:=by
 unfold post
 exact ZaD Zbt fun a=>Zak (Zox H S h) (Zav (H _)) fun x hx=>Zgm H S h a x hx
include H S in
theorem ZqY (h:Bool) (a:Int) (x:Nd) (hx:Ex x):So (ptail g h a x) Ex:=by
 unfold ptail
 exact ZaD (ZaQ _) fun _=>ZcW (Zak (Zes S _ .expr _) (Za8 H _ _ _).suf fun l hl=>Zgm H S _ _ _ (Zw0 hx hl)) (ZaD (ZaQ _) fun _=>ZcW (ZaD (Zal _).suf fun _=>Zak Zf2 Za5.suf fun t ht=>Zgm H S _ _ _ (Zyw ht hx)) (ZaD (ZaQ _) fun _=>ZcW (ZaD (Zal _).suf fun _=>Zak (Zdg S _ .set _) (Za0 H _ _ _).suf fun l hl=>Zgm H S _ _ _ (ZwZ hx hl)) (Zbu hx)))
include H S in
theorem ZvP (h:Bool): So (prim g h) Ex:=by
 unfold prim
 repeat (first | with_reducible exact ZeO | (with_reducible refine ZaD Zbt (fun a=>?_)) | (with_reducible refine ZaD (ZaQ _) (fun _=>?_)) | (with_reducible refine ZaD (Zbo _) (fun _=>?_)) | (with_reducible refine ZaD (Zal _).suf (fun _=>?_)) | (with_reducible refine Zak Zf2 Za5.suf (fun t ht=>?_)) | (with_reducible refine Zak Zi4 Zbj.suf (fun t ht=>?_)) | (with_reducible refine Zak Zcw ZaS.suf (fun t ht=>?_)) | (with_reducible refine Zak ZcV ZaU.suf (fun n hn=>?_)) | (with_reducible refine Zak (Zcs _) (ZaG _).suf (fun t ht=>?_)) | (with_reducible refine Zak (Zoz H S _) (Zav (H _)) (fun y hy=>?_)) | (with_reducible refine Zak (Zh2 H S _) (Zav (H _)) (fun z hz=>?_)) | (with_reducible refine Zak (Zes S _ _ _) (Za8 H _ _ _).suf (fun l hl=>?_)) | (with_reducible refine Zak (Zdg S _ _ _) (Za0 H _ _ _).suf (fun l hl=>?_)) | (with_reducible refine Zak (Zdh S _ _) (Za9 H _ _).suf (fun m hm=>?_)) | (with_reducible refine Zak (Zgl H S _) (Zb9 H _).suf (fun s hs=>?_);obtain ⟨s1,s2,rfl,hs1,hs2⟩:=hs) | (with_reducible refine Zbu ?_;assumption) | with_reducible apply ZcW | ((with_reducible refine Zbu ?_);focus (first | (simp [Zbn,Ex,ZcD,shape,Zbe,isK,ZaX,ZeY] at *;done) | (simp [Zbn,Ex,ZcD,shape,Zbe,isK,ZaX,ZeY] at *;grind))))
theorem Zjy {l m:List Nd} (hl:∀x∈l,x.k=7) (hm:∀x∈m,x.k≠7):(l++m).drop (nfields (l++m))=m:=by
 induction l with
 | nil=>
  cases m with
  | nil=>rfl
  | cons x m=>simp only [List.nil_append,nfields];rw [if_neg (hm x (by simp))];rfl
 | cons x l ih=>
  simp only [List.cons_append,nfields]
  rw [if_pos (hl x (by simp))]
  exact ih fun y hy=>hl y (by simp [hy])
theorem Zsp {t:Bs} {n a:Int} {l m:List Nd} (ht:Zcf t=true) (hn : -1≤n∧n≤ZeY + 1) (hl:∀x∈l,Zbn .field x) (hm:∀x∈m,Zbn .member x):ZdV (.mk 6 t n a (l++m))=true∧wf (.mk 6 t n a (l++m))=true:=by
 have e:=Zjy (l:=l) (m:=m) (fun x hx=>(hl x hx).1) (fun x hx h=>by have:=(hm x hx).1;unfold ZgT at this;simp [h] at this)
 refine ⟨by rw [Zaz];decide,?_⟩
 rw [ZcD]
 simp only [shape,Zbe]
 simp [e,ht,hn.1,hn.2]
 exact ⟨fun x hx=>(hm x hx).1,fun x hx=>(hl x hx).2,fun x hx=>(hm x hx).2⟩
theorem Zlq {t:Bs} {a:Int} {l m:List Nd} (ht:Zcf t=true) (hl:∀x∈l,Zbn .field x) (hm:∀x∈m,Zbn .set x):ZcE (.mk 71 t 0 a (l++m))=true∧wf (.mk 71 t 0 a (l++m))=true:=by
 have e:=Zjy (l:=l) (m:=m) (fun x hx=>(hl x hx).1) (fun x hx h=>by have:=(hm x hx).1;omega)
 refine ⟨by rw [Zaq];decide,?_⟩
 rw [ZcD]
 simp only [shape,Zbe]
 simp [e,ht,isK]
 exact ⟨fun x hx=>(hm x hx).1,fun x hx=>(hl x hx).2,fun x hx=>(hm x hx).2⟩
include H S in
theorem ZvS:So (decl g) (fun x=>ZdV x=true∧wf x=true):=by
 unfold decl
 repeat (first | with_reducible exact ZeO | (with_reducible refine ZaD Zbt (fun a=>?_)) | (with_reducible refine ZaD (ZaQ _) (fun _=>?_)) | (with_reducible refine ZaD (Zbo _) (fun _=>?_)) | (with_reducible refine ZaD (Zal _).suf (fun _=>?_)) | (with_reducible refine Zak Zf2 Za5.suf (fun t ht=>?_)) | (with_reducible refine Zak Zi4 Zbj.suf (fun t ht=>?_)) | (with_reducible refine Zak Zcw ZaS.suf (fun t ht=>?_)) | (with_reducible refine Zak ZcV ZaU.suf (fun n hn=>?_)) | (with_reducible refine Zak (Zcs _) (ZaG _).suf (fun t ht=>?_)) | (with_reducible refine Zak (Zoz H S _) (Zav (H _)) (fun y hy=>?_)) | (with_reducible refine Zak (Zh2 H S _) (Zav (H _)) (fun z hz=>?_)) | (with_reducible refine Zak (Zes S _ _ _) (Za8 H _ _ _).suf (fun l hl=>?_)) | (with_reducible refine Zak (Zdg S _ _ _) (Za0 H _ _ _).suf (fun l hl=>?_)) | (with_reducible refine Zak (Zdh S _ _) (Za9 H _ _).suf (fun m hm=>?_)) | (with_reducible refine Zak (Zgl H S _) (Zb9 H _).suf (fun s hs=>?_);obtain ⟨s1,s2,rfl,hs1,hs2⟩:=hs) | (with_reducible refine Zbu ?_;exact Zsp (by assumption) (by first | decide | (constructor <;> omega)) (by assumption) (by rename_i hm;exact hm.2)) | (with_reducible refine Zbu ?_;exact Zlq (by assumption) (by assumption) (by assumption)) | with_reducible apply ZcW | ((with_reducible refine Zbu ?_);focus (first | (simp [Zbn,Ex,ZcD,shape,ends1,ends2,Zbe,isK,Zaz] at *;done) | (simp [Zbn,Ex,ZcD,shape,ends1,ends2,Zbe,isK,Zaz] at *;grind))))
include H S in
theorem ZpE (a:Int): So (convert g a) (fun x=>ZcE x=true∧wf x=true):=by
 unfold convert
 repeat (first | with_reducible exact ZeO | (with_reducible refine ZaD Zbt (fun a=>?_)) | (with_reducible refine ZaD (ZaQ _) (fun _=>?_)) | (with_reducible refine ZaD (Zbo _) (fun _=>?_)) | (with_reducible refine ZaD (Zal _).suf (fun _=>?_)) | (with_reducible refine Zak Zf2 Za5.suf (fun t ht=>?_)) | (with_reducible refine Zak Zi4 Zbj.suf (fun t ht=>?_)) | (with_reducible refine Zak Zcw ZaS.suf (fun t ht=>?_)) | (with_reducible refine Zak ZcV ZaU.suf (fun n hn=>?_)) | (with_reducible refine Zak (Zcs _) (ZaG _).suf (fun t ht=>?_)) | (with_reducible refine Zak (Zoz H S _) (Zav (H _)) (fun y hy=>?_)) | (with_reducible refine Zak (Zh2 H S _) (Zav (H _)) (fun z hz=>?_)) | (with_reducible refine Zak (Zes S _ _ _) (Za8 H _ _ _).suf (fun l hl=>?_)) | (with_reducible refine Zak (Zdg S _ _ _) (Za0 H _ _ _).suf (fun l hl=>?_)) | (with_reducible refine Zak (Zdh S _ _) (Za9 H _ _).suf (fun m hm=>?_)) | (with_reducible refine Zak (Zgl H S _) (Zb9 H _).suf (fun s hs=>?_);obtain ⟨s1,s2,rfl,hs1,hs2⟩:=hs) | (with_reducible refine Zbu ?_;exact Zlq (by assumption) (by assumption) (by assumption)) | with_reducible apply ZcW | ((with_reducible refine Zbu ?_);focus (first | (simp [Zbn,Ex,Zf9,Zeq,ZcD,shape,ends1,heads1,Zbe,isK,Zaq] at *;done) | (simp [Zbn,Ex,Zf9,Zeq,ZcD,shape,ends1,heads1,Zbe,isK,Zaq] at *;grind))))
include H S in
theorem Zts:So (single (g .decl)) (fun x=>ZdV x=true∧wf x=true):=Zcv (S .decl trivial) (H _)
include H S in
theorem Zq0:So (change g) (fun x=>ZcE x=true∧wf x=true):=by
 unfold change
 repeat (first | with_reducible exact ZeO | (with_reducible refine ZaD Zbt (fun a=>?_)) | (with_reducible refine ZaD (ZaQ _) (fun _=>?_)) | (with_reducible refine ZaD (Zbo _) (fun _=>?_)) | (with_reducible refine ZaD (Zal _).suf (fun _=>?_)) | (with_reducible refine Zak Zf2 Za5.suf (fun t ht=>?_)) | (with_reducible refine Zak Zi4 Zbj.suf (fun t ht=>?_)) | (with_reducible refine Zak Zcw ZaS.suf (fun t ht=>?_)) | (with_reducible refine Zak ZcV ZaU.suf (fun n hn=>?_)) | (with_reducible refine Zak (Zcs _) (ZaG _).suf (fun t ht=>?_)) | (with_reducible refine Zak (Zoz H S _) (Zav (H _)) (fun y hy=>?_)) | (with_reducible refine Zak (Zh2 H S _) (Zav (H _)) (fun z hz=>?_)) | (with_reducible refine Zak (Zes S _ _ _) (Za8 H _ _ _).suf (fun l hl=>?_)) | (with_reducible refine Zak (Zdg S _ _ _) (Za0 H _ _ _).suf (fun l hl=>?_)) | (with_reducible refine Zak (Zdh S _ _) (Za9 H _ _).suf (fun m hm=>?_)) | (with_reducible refine Zak (Zgl H S _) (Zb9 H _).suf (fun s hs=>?_);obtain ⟨s1,s2,rfl,hs1,hs2⟩:=hs) | (with_reducible refine Zbu ?_;exact Zlq (by assumption) (by assumption) (by assumption)) | with_reducible exact ZpE H S _ | (with_reducible refine ZkH (Zts H S) ?_;intro x hx;exact ⟨by unfold ZcE;simp [hx.1],hx.2⟩) | with_reducible apply ZcW | ((with_reducible refine Zbu ?_);focus (first | (simp [ZcD,shape,Zbe,Zaq,ZeY] at *;done) | (simp [ZcD,shape,Zbe,Zaq,ZeY] at *;grind))))
include H S in
theorem Ztr (w:What):So (elem1 g w) (Zbn w):=by
 cases w
 ·exact Ztq H S
 ·exact ZxF H S
 ·exact ZvT H S
 ·exact Zh2 H S false
 ·exact ZxG H S
 ·exact Ztt
 ·exact ZxH H S
 ·exact ZvO H S
 ·exact ZvL H S
 ·exact ZqZ H S
include H S in
theorem ZvM (s:Bs) (w:What):So (seps g s w) (fun l=>l≠[]∧∀x∈l,Zbn w x):=by
 unfold seps
 exact Zak (Zoz H S w) (Zav (H _)) fun x hx=>ZaD (ZaQ _) fun _=>ZcW (ZaD (Zal _).suf fun _=>Zak (S (.seps s w) trivial) (H _) fun l hl=>Zbu ⟨by simp,fun y hy=>by
  rcases List.mem_cons.1 hy with rfl | hy
  ·exact hx
  ·exact hl.2 y hy⟩) (ZaD (Zal _).suf fun _=>Zbu ⟨by simp,fun y hy=>by
  rcases List.mem_cons.1 hy with rfl | hy
  ·exact hx
  ·cases hy⟩)
theorem ZvQ (H:∀nt,Suf (g nt)) (S:∀nt,Zyb nt→So (g nt) (ZcM nt)) (w:What) (b:Bool):So (many g w b) (fun l=>(b=true→l≠[])∧∀x∈l,Zbn w x):=by
 unfold many
 refine ZaD (ZaQ _) fun c=>?_
 have more:So (do let x ← single (g (.one w));let l ← g (.many w false);pure (x::l)) (fun l=>(b=true→l≠[])∧∀x∈l,Zbn w x):=
  Zak (Zoz H S w) (Zav (H _)) fun x hx=>Zak (S (.many w false) trivial) (H _) fun l hl=>Zbu ⟨fun _=>by simp,fun y hy=>by
   rcases List.mem_cons.1 hy with rfl | hy
   ·exact hx
   ·exact hl.2 y hy⟩
 split
 ·rename_i hc
  refine ZaD (Zal _).suf fun _=>Zbu ⟨fun h=>?_,fun x hx=>by cases hx⟩
  subst h;simp at hc
 ·exact more
theorem ZvU (H:∀nt,Suf (g nt)) (S:∀nt,Zyb nt→So (g nt) (ZcM nt)) (nt:NT) (hi:Zyb nt):So (body g nt) (ZcM nt):=by
 have wrap:∀{p:P Nd} {Q:Nd→Prop},So p Q→Suf p→So (one p) (fun l=>∃x,l=[x]∧Q x):=fun hp hs=>Zak hp hs fun x hx=>Zbu ⟨x,rfl,hx⟩
 have unwrap:∀{p:P Nd},Suf (one p)→Suf p:=fun {p} h e l x r k=>h e l [x] r (by show (p >>= fun x=>pure [x]) e l=_;rw [ZfX k];rfl)
 have sb:=Zov H nt
 cases nt with
 | one w=>exact wrap (Ztr H S w) (Zi3 H w)
 | seps s w=>exact ZvM H S s w
 | many w b=>exact ZvQ H S w b
 | expr h=>exact wrap (ZvR H S h) (unwrap sb)
 | bin v h=>exact wrap (ZvV H S v h hi) (unwrap sb)
 | tail v h a x=>exact wrap (Ztm H S v h a x hi.1 hi.2) (unwrap sb)
 | post h=>exact wrap (Ztp H S h) (unwrap sb)
 | ptail h a x=>exact wrap (ZqY H S h a x hi) (unwrap sb)
 | prim h=>exact wrap (ZvP H S h) (unwrap sb)
 | send=>exact wrap (ZvN H S) (unwrap sb)
 | decl=>exact wrap (ZvS H S) (unwrap sb)
 | change=>exact wrap (Zq0 H S) (unwrap sb)
end
theorem ZiC:∀(m:Nat) (nt:NT),Zyb nt→So (parse m nt) (ZcM nt)
 | 0,_,_=>fun e l x r _ h=>by cases h
 | m + 1,nt,hi=>ZvU (fun nt=>Zdd m nt) (fun nt h=>ZiC m nt h) nt hi
open L7
def z (l:List Tk):List Tok:=l.map fun t=>(t,0)
theorem Zgg (t:Tk) (l:List Tk):z (t::l)=(t,0)::z l:=rfl
mutual
def strip:Nd→Nd
 | .mk k t n _ c=>.mk k t n 0 (strips c)
def strips:List Nd→List Nd
 | []=>[]
 | x::l=>strip x::strips l
end
theorem Zfp:∀c:List Nd,strips c=c.map strip
 | []=>rfl
 | x::l=>by rw [strips,Zfp l];rfl
theorem ZhH {P:Nd→Prop} (h:∀k t n a c,(∀y∈c,P y)→P (.mk k t n a c)):∀x,P x:=by
 have key:∀(m:Nat) (x:Nd),sizeOf x≤m→P x:=by
  intro m
  induction m with
  | zero=>intro x hx;cases x;simp at hx
  | succ m ih=>
   intro x hx
   cases x with
   | mk k t n a c=>
    refine h k t n a c fun y hy=>ih y ?_
    have:=List.sizeOf_lt_of_mem hy
    simp at hx
    omega
 exact fun x=>key (sizeOf x) x (Nat.le_refl _)
theorem ZwG {w s:Bs} (hw:reserved.contains w=true) (h:ZbF s=true):isW w (nm s)=false:=by
 unfold isW nm
 by_cases e:s=w
 ·subst e;simp [ZbF] at h;simp at hw;exact absurd hw h.2
 ·simp [e]
theorem ZnS {w s:Bs} (hs:ZbM s=true) (hw:ZbM w=false):isW w (nm s)=false:=by
 unfold isW nm
 by_cases e:s=w
 ·subst e;rw [hs] at hw;cases hw
 ·simp [e]
theorem Zt9 {s:Bs} (h:ZbF s=true):ZbM s=true:=by simp [ZbF] at h;exact h.1.1
theorem Zhn (w:Bs) (n:Int):isW w (int n)=false:=rfl
theorem Zhm (w s:Bs):isW w (str s)=false:=rfl
def olev (t:Tk):Nat:=if (if t.t == wOr || t.t == ZqC then t.k == 1 else t.k == 4) then level t.t else 0
theorem Zjs (v:Nat) (hv:v≠0) (t:Tk):Zr2 v t=decide (olev t=v):=by
 unfold Zr2 olev
 generalize (if (t.t == wOr || t.t == ZqC)=true then t.k == 1 else t.k == 4)=c
 cases c with
 | true=>simp;rw [Bool.eq_iff_iff];simp
 | false=>simp;omega
def ZxC (v:Nat) (t:Tk):Bool:=!isW mLp t && !isW ZdG t && !isW Zda t && !isW mLb t && decide (olev t < v)
def Znh (v:Nat):List Tk→Bool
 | []=>true
 | t::_=>ZxC v t
def ZnY (s:Bs):List Tk→Bool
 | []=>true
 | t::_=>!isW s t
theorem ZmK {p q:Nd→Bool} {c:List Nd} (h:ends1 p q c=true):∃r x,c=r++[x]∧q x=true∧r.all p=true:=by
 unfold ends1 at h
 cases hc:c.reverse with
 | nil=>rw [hc] at h;cases h
 | cons x r=>
  rw [hc] at h
  simp only [Bool.and_eq_true] at h
  refine ⟨r.reverse,x,?_,h.1,by simpa using h.2⟩
  have:=congrArg List.reverse hc
  simpa using this
theorem Zsh {q:Nd→Bool} {c:List Nd} (h:ends1 (fun _=>false) q c=true):∃x,c=[x]∧q x=true:=by
 obtain ⟨r,x,rfl,h1,h2⟩:=ZmK h
 cases r with
 | nil=>exact ⟨x,rfl,h1⟩
 | cons y r=>simp at h2
theorem ZmJ {p q s:Nd→Bool} {c:List Nd} (h:ends2 p q s c=true):∃r x y,c=r++[x,y]∧q x=true∧s y=true∧r.all p=true:=by
 unfold ends2 at h
 match hc:c.reverse with
 | []=>rw [hc] at h;cases h
 | [x]=>rw [hc] at h;cases h
 | y::x::r=>
  rw [hc] at h
  simp only [Bool.and_eq_true] at h
  refine ⟨r.reverse,x,y,?_,h.1.1,h.1.2,by simpa using h.2⟩
  have:=congrArg List.reverse hc
  simpa using this
theorem Zsg {q s:Nd→Bool} {c:List Nd} (h:ends2 (fun _=>false) q s c=true):∃x y,c=[x,y]∧q x=true∧s y=true:=by
 obtain ⟨r,x,y,rfl,h1,h2,h3⟩:=ZmJ h
 cases r with
 | nil=>exact ⟨x,y,rfl,h1,h2⟩
 | cons y r=>simp at h3
theorem Zp5 {q p:Nd→Bool} {c:List Nd} (h:heads1 q p c=true):∃x r,c=x::r∧q x=true∧r.all p=true:=by
 unfold heads1 at h
 cases c with
 | nil=>cases h
 | cons x r=>simp only [Bool.and_eq_true] at h;exact ⟨x,r,rfl,h.1,h.2⟩
theorem ZiK (s:Bs):level s≤7:=by
 unfold level
 repeat' split
 all_goals decide
open L7
theorem Zd4 (s:Bs):isW s (mkt s)=true:=by simp [isW,mkt]
theorem Zjq (s:Bs):isW s (nm s)=true:=by simp [isW,nm]
theorem ZcY {s:Bs} {t:Tk} (h:isW s t=true) (e a:Int) (r:List Tok):must s e ((t,a)::r)=.ok t r:=by
 unfold must;rw [Zbs,if_pos h]
theorem Zo3 {s:Bs} (h:ZbF s=true) (e a:Int) (r:List Tok):low e ((nm s,a)::r)=.ok s r:=by
 unfold low;rw [Zac,Zbs,if_pos (by simp [nm,h])];rfl
theorem ZbW {p:P (List Nd)} {e:Int} {l r:List Tok} {x:Nd} (h:p e l=.ok [x] r):single p e l=.ok x r:=by rw [ZbG,h]
theorem ZaV {α β:Type} {p:P α} {f:α→P β} {e:Int} {l r:List Tok} {x:α} (h:p e l=.ok x r):(p >>= f) e l=f x e r:=by rw [Zac,h]
def Elem (w:What) (x:Nd) (ok:Tk→Prop):Prop:=∀t R,ok t→lim (.one w) 0 (z (raw x++t::R))=.ok [strip x] (z (t::R))
theorem ZoF (s:Bs) (w:What) (hs:isW mCm (mkt s)=false):∀(c:List Nd),c≠[]→(∀x∈c,Elem w x fun t=>t=mkt mCm∨t=mkt s)→∀R,lim (.seps s w) 0 (z (commas (c.map raw)++mkt s::R))=.ok (c.map strip) (z R)
 | [],h,_,_=>absurd rfl h
 | [x],_,H,R=>by
  rw [Zbb rfl]
  show seps lim s w 0 _=_
  unfold seps
  show (single (lim (.one w)) >>= _) 0 (z (raw x++mkt s::R))=_
  rw [ZaV (ZbW (H x (by simp) (mkt s) R (.inr rfl))),Zgg,ZaV (ZaI ..),Zae,if_neg (by rw [hs];decide),ZaV (ZcY (Zd4 s) ..)]
  rfl
 | x::y::c,_,H,R=>by
  rw [Zbb rfl]
  show seps lim s w 0 _=_
  unfold seps
  show (single (lim (.one w)) >>= _) 0 (z ((raw x++mkt mCm::commas ((y::c).map raw))++mkt s::R))=_
  rw [List.append_assoc,List.cons_append,ZaV (ZbW (H x (by simp) (mkt mCm) _ (.inl rfl))),Zgg,ZaV (ZaI ..),Zae,if_pos (Zd4 _),ZaV (ZcY (Zd4 _) ..)]
  rw [ZaV (ZoF s w hs (y::c) (by simp) (fun u hu=>H u (by simp [hu])) R)]
  rfl
theorem Zof {x:List Tk} {l:List (List Tk)} {t:Tk} {r:List Tk} (h:x=t::r):∃q,commas (x::l)=t::q:=by
 cases l with
 | nil=>exact ⟨r,h⟩
 | cons y l=>exact ⟨r++mkt mCm::commas (y::l),by rw [commas,h];rfl⟩
theorem Ze8 (o s:Bs) (w:What) (hs:isW mCm (mkt s)=false) (c:List Nd) (H:∀x∈c,Elem w x fun t=>t=mkt mCm∨t=mkt s) (F:∀x∈c,∃t r,raw x=t::r∧isW s t=false) (R:List Tk):list lim o w s 0 (z (inB o (c.map raw) s++R))=.ok (c.map strip) (z R):=by
 unfold list inB
 rw [List.cons_append,List.append_assoc,Zgg,ZaV (ZcY (Zd4 _) ..)]
 cases c with
 | nil=>
  show (ZaC s >>= _) 0 ((mkt s,0)::z R)=_
  rw [ZaV (ZaI ..),Zae,if_pos (Zd4 _),ZaV (ZcY (Zd4 _) ..)]
  rfl
 | cons x c=>
  obtain ⟨t,r,h1,h2⟩:=F x (by simp)
  obtain ⟨q,hq⟩:=Zof (l:=c.map raw) h1
  have e:=ZoF s w hs (x::c) (by simp) H R
  rw [show commas ((x::c).map raw)=t::q from hq] at e ⊢
  rw [List.cons_append,Zgg] at e ⊢
  rw [ZaV (ZaI ..),Zae,if_neg (by rw [h2];decide)]
  exact e
open L7
theorem ZrB (p:P Nd) (e:Int) (l:List Tok):one p e l=match p e l with
 | .out=>.out
 | .err a=>.err a
 | .ok x r=>.ok [x] r:=by
 unfold one
 rw [Zac]
 cases p e l <;> rfl
theorem Ze6 {p:P Nd} {e:Int} {l r:List Tok} {x:Nd} (h:p e l=.ok x r):one p e l=.ok [x] r:=by rw [ZrB,h]
def Zy2 (v:Nat):Bool:=v == 1 || v == 2 || v == 4 || v == 5 || v == 6 || v == 7
open L7
def bare (x:Nd):Bool:=x.k == 29 && x.c.isEmpty
def ZyU:List Tk→Bool
 | []=>true
 | t::_=>ZxC 1 t && !isW Zfo t && !isW wOn t
structure Rb (x:Nd):Prop where
 ty:Zm1 x=true→∀R,lim (.one .type) 0 (z (raw x++R))=.ok [strip x] (z R)
 fl:x.k=7→∀R,lim (.one .field) 0 (z (raw x++R))=.ok [strip x] (z R)
 ct:x.k=8→∀R,ZnY mLp R=true→lim (.one .ctor) 0 (z (raw x++R))=.ok [strip x] (z R)
 ex:ZeW x=true→∀R,Znh 1 R=true→lim (.expr false) 0 (z (raw x++R))=.ok [strip x] (z R)
 bn:ZeW x=true→∀v,1≤v→v≤9→v≤tight x→∀R,Znh v R=true→lim (.bin v false) 0 (z (raw x++R))=.ok [strip x] (z R)
 tl:ZeW x=true→∀v,Zy2 v=true→v≠4→v≤tight x→∀R,Znh (v + 1) R=true→lim (.bin v false) 0 (z (raw x++R))=lim (.tail v false 0 (strip x)) 0 (z R)
 ps:ZeW x=true→9≤tight x→∀R,ZnY mLb R=true→(bare x=true→ZnY mLp R=true)→lim (.post false) 0 (z (raw x++R))=lim (.ptail false 0 (strip x)) 0 (z R)
 st:x.k=28→∀R,Znh 1 R=true→lim (.one .set) 0 (z (raw x++R))=.ok [strip x] (z R)
 ar:x.k=39→∀R,Znh 1 R=true→lim (.one .arm) 0 (z (raw x++R))=.ok [strip x] (z R)
 bd:x.k=40→∀R,lim (.one .bind) 0 (z (raw x++R))=.ok [strip x] (z R)
 sa:x.k=54→∀R,lim (.one .sarm) 0 (z (raw x++R))=.ok [strip x] (z R)
 sm:Zjr x=true→∀R,ZyU R=true→lim (.one .stmt) 0 (z (raw x++R))=.ok [strip x] (z R)
 mm:ZgT x=true→∀R,Znh 1 R=true→lim (.one .member) 0 (z (raw x++R))=.ok [strip x] (z R)
 bk:x.k=11→∀R,block lim 0 (z (raw x++R))=.ok (strip x) (z R)
 sd:x.k=56→∀R,lim .send 0 (z (raw x++R))=.ok [strip x] (z R)
section paren
variable {x:Nd} (hx:ZeW x=true) (hw:wf x=true) (E:∀R,Znh 1 R=true→lim (.expr false) 0 (z (raw x++R))=.ok [strip x] (z R))
include hx hw E
end paren
section operand
variable {x:Nd} (H:Rb x) (hx:ZeW x=true) (hw:wf x=true)
include H hx hw
end operand
end Go.Proofs.YtaheffiglmglbaaGreatDoor.S8
