import Derived.Test.YtaheffiglmglbaaGreatDoorKPc
/- SynC, SynD. -/
set_option maxHeartbeats 8000000
set_option maxRecDepth 20000
namespace Go.Proofs.YtaheffiglmglbaaGreatDoor.S8
open L7
theorem ZnW (n:Int):(int n).k=2:=rfl
theorem Zwt (s:Bs):(nm s).k=1:=rfl
theorem Znf (s:Bs):(str s).k=3:=rfl
theorem ZnJ (s:Bs):(mkt s).k=4:=rfl
theorem ZnV (n:Int):(int n).t=[]:=rfl
theorem Zws (s:Bs):(nm s).t=s:=rfl
theorem Zne (s:Bs):(str s).t=s:=rfl
theorem ZnI (s:Bs):(mkt s).t=s:=rfl
theorem ZfQ (n:Int) (e a:Int) (r:List Tok):number e ((int n,a)::r)=.ok n r:=rfl
theorem ZfO (s o u:Bs) (rs:List (List Tk)) (R:List Tk):ZaC s 0 (z (inB o rs u++R))=.ok (isW s (mkt o)) (z (inB o rs u++R)):=rfl
theorem part2a (x y:Nd):part (raws [x,y]) 0=raw x:=rfl
theorem part2b (x y:Nd):part (raws [x,y]) 1=raw y:=rfl
theorem Zyo (x:Nd) (r:List Nd):kid (x::r) 0=x:=rfl
theorem Zyp (x y:Nd):kid [x,y] 1=y:=rfl
theorem Zj1 (r:List Nd) (x:Nd):part (raws (r++[x])) (((raws (r++[x])).length:Int) - 1)=raw x:=by
 rw [ZeB,part,if_neg (by simp <;> omega)]
 simp
theorem Ztf (r:List Nd) (x:Nd):sub (raws (r++[x])) 0 (((raws (r++[x])).length:Int) - 1)=r.map raw:=by
 rw [ZeB,sub]
 simp
theorem Zu3 (r:List Nd) (x y:Nd):part (raws (r++[x,y])) (((raws (r++[x,y])).length:Int) - 2)=raw x:=by
 rw [ZeB,part,if_neg (by simp <;> omega)]
 simp
theorem Zu2 (r:List Nd) (x y:Nd):part (raws (r++[x,y])) (((raws (r++[x,y])).length:Int) - 1)=raw y:=by
 rw [show r++[x,y]=(r++[x])++[y] by simp]
 exact Zj1 _ _
theorem Zxz (r:List Nd) (x y:Nd):sub (raws (r++[x,y])) 0 (((raws (r++[x,y])).length:Int) - 2)=r.map raw:=by
 rw [ZeB,sub]
 simp
theorem Zxq {t:Bs} (ht:ZbF t=true):Zcf t=false:=by
 simp [ZbF,Zcf] at *
 omega
theorem Zt3 {w t:Bs} (hw:ZbM w=false) (ht:ZbF t=true):isW w (nm t)=false:=ZnS (Zt9 ht) hw
theorem ZoP (h:Bool) {t:Bs} (ht:ZbF t=true) (R:List Tk):lim (.prim h) 0 (z (nm t::R))=.ok [.mk 24 t 0 0 []] (z R):=by
 rw [Zbb rfl]
 apply Ze6
 unfold prim
 simp (decide:=true) only [Zac,ZbA,ZaI,ZcX,Zae,Zb5,Zgg,if_false,Zwt,Zws,Bool.and_false,beq_self_eq_true,Zt3 _ ht,ZwG _ ht,Zo3 ht,Zxq ht]
open L7
def Kids (c:List Nd):Prop:=∀y∈c,Rb y∧wf y=true
open L7
theorem Ztc (x:Nd):tight x≤10:=by
 have:=ZiK x.t
 unfold tight
 repeat' split
 all_goals omega
section node
variable {k:Int} {t:Bs} {n a:Int} {c:List Nd} (K:Kids c) (hs:shape k t n c=true) (hx:ZeW (.mk k t n a c)=true)
include K hs hx
end node
open L7
open L7
theorem ZuU (b:Nd) (r:List Nd) (x:Nd):sub (raws (b::(r++[x]))) 1 (((raws (b::(r++[x]))).length:Int) - 1)=r.map raw:=by
 rw [ZeB,sub]
 simp
theorem Zru (b:Nd) (r:List Nd) (x:Nd):part (raws (b::(r++[x]))) (((raws (b::(r++[x]))).length:Int) - 1)=raw x:=Zj1 (b::r) x
open L7
theorem Zl0 (c:List Nd) (i:Nat):(raws c).take i=(c.take i).map raw:=by rw [ZeB,List.map_take]
theorem Zl1 (c:List Nd) (i:Nat):(raws c).drop i=(c.drop i).map raw:=by rw [ZeB,List.map_drop]
open L7
section
variable (φ:Int→Int)
mutual
def nmap:Nd→Nd
 | .mk k t n a c=>.mk k t n (φ a) (nmaps c)
def nmaps:List Nd→List Nd
 | []=>[]
 | x::l=>nmap x::nmaps l
end
theorem Zmi:∀c:List Nd,nmaps φ c=c.map (nmap φ)
 | []=>rfl
 | x::l=>by rw [nmaps,Zmi l];rfl
theorem ZbE (k:Int) (t:Bs) (n a:Int) (c:List Nd):nmap φ (.mk k t n a c)=.mk k t n (φ a) (c.map (nmap φ)):=by rw [nmap,Zmi]
def tmap (l:List Tok):List Tok:=l.map fun t=>(t.1,φ t.2)
def rmap {α:Type} (m:α→α):Res α→Res α
 | .out=>.out
 | .err a=>.err (φ a)
 | .ok x r=>.ok (m x) (tmap φ r)
def ZpV:NT→NT
 | .tail v h a x=>.tail v h (φ a) (nmap φ x)
 | .ptail h a x=>.ptail h (φ a) (nmap φ x)
 | nt=>nt
def Nt {α:Type} (m:α→α) (p q:P α):Prop:=∀e l,q (φ e) (tmap φ l)=rmap φ m (p e l)
variable {φ}
theorem ZaJ {α β:Type} {m:α→α} {m':β→β} {p q:P α} {f f':α→P β} (h1:Nt φ m p q) (h2:∀x,Nt φ m' (f x) (f' (m x))):Nt φ m' (p >>= f) (q >>= f'):=fun e l=>by
 rw [Zac,Zac,h1 e l]
 cases p e l with
 | out=>rfl
 | err a=>rfl
 | ok x r=>exact h2 x e r
theorem Zat {α β:Type} {m':β→β} {p q:P α} {f f':α→P β} (h1:Nt φ id p q) (h2:∀x,Nt φ m' (f x) (f' x)):Nt φ m' (p >>= f) (q >>= f'):=ZaJ h1 h2
theorem Zch {α:Type} {m:α→α} {x y:α} (h:y=m x):Nt φ m (pure x) (pure y):=fun e l=>by subst h;rfl
theorem Zg6 {α:Type} {m:α→α} {c:Prop} [Decidable c] {p q p' q':P α} (h1:Nt φ m p p') (h2:Nt φ m q q'):Nt φ m (if c then p else q) (if c then p' else q'):=by
 split
 ·exact h1
 ·exact h2
theorem Zgw {α:Type} {m:α→α} : Nt φ m (fail:P α) fail:=fun e l=>by cases l <;> rfl
theorem Zhi:Nt φ φ here here:=fun e l=>by cases l <;> rfl
theorem Zeb (s:Bs):Nt φ id (ZaC s) (ZaC s):=fun e l=>by cases l <;> rfl
theorem Zfv (v:Nat):Nt φ id (Zft v) (Zft v):=fun e l=>by cases l <;> rfl
theorem Zfw (f:Tk→Bool):Nt φ id (ZeR f) (ZeR f):=fun e l=>by cases l <;> rfl
theorem ZdE (f:Tk→Bool):Nt φ id (Zed f) (Zed f):=fun e l=>by
 cases l with
 | nil=>rfl
 | cons t l=>
  obtain ⟨t,a⟩:=t
  show Zed f _ ((t,φ a)::tmap φ l)=rmap φ id (Zed f e ((t,a)::l))
  rw [Zbs,Zbs]
  split <;> rfl
theorem Zdm (s:Bs):Nt φ id (must s) (must s):=ZdE _
theorem Zj4:Nt φ id low low:=Zat (ZdE _) fun _=>Zch rfl
theorem Zmh:Nt φ id up up:=Zat (ZdE _) fun _=>Zch rfl
theorem ZeJ:Nt φ id Zdn Zdn:=Zat (ZdE _) fun _=>Zch rfl
theorem Zfx:Nt φ id number number:=Zat (ZdE _) fun _=>Zch rfl
theorem Zgv {p q:P (List Nd)} (h:Nt φ (List.map (nmap φ)) p q):Nt φ (nmap φ) (single p) (single q):=by
 refine ZaJ h fun l=>?_
 match l with
 | []=>exact Zgw
 | [x]=>exact Zch rfl
 | x::y::l=>exact Zgw
section
variable {g g':G} (H:∀nt,Nt φ (List.map (nmap φ)) (g nt) (g' (ZpV φ nt)))
include H
theorem Zd3 (o:Bs) (w:What) (s:Bs):Nt φ (List.map (nmap φ)) (list g o w s) (list g' o w s):=by
 unfold list
 refine Zat (Zdm _) fun _=>Zat (Zeb _) fun _=>Zg6 (Zat (Zdm _) fun _=>Zch rfl) (H (.seps s w))
theorem Zc5 (o:Bs) (w:What) (s:Bs):Nt φ (List.map (nmap φ)) (some1 g o w s) (some1 g' o w s):=by
 unfold some1
 exact Zat (Zdm _) fun _=>H (.seps s w)
theorem Zc6 (w:What) (b:Bool):Nt φ (List.map (nmap φ)) (many1 g w b) (many1 g' w b):=by
 unfold many1
 exact Zat (Zdm _) fun _=>H (.many w b)
theorem Zyc (w:What):Nt φ (nmap φ) (single (g (.one w))) (single (g' (.one w))):=Zgv (H (.one w))
theorem Zyd (h:Bool):Nt φ (nmap φ) (single (g (.expr h))) (single (g' (.expr h))):=Zgv (H (.expr h))
theorem Zj3 (h:Bool):Nt φ (List.map (nmap φ)) (sig g h) (sig g' h):=by
 unfold sig
 exact Zat (Zdm _) fun _=>ZaJ (Zyc H _) fun _=>Zat (Zdm _) fun _=>ZaJ (Zyd H _) fun _=>Zch rfl
theorem ZgR:Nt φ (nmap φ) (block g) (block g'):=by
 unfold block
 exact ZaJ Zhi fun _=>ZaJ (Zc6 H _ _) fun _=>Zch (ZbE ..).symm
theorem ZeI:Nt φ (fun p=>(p.1,p.2.map (nmap φ))) (pattern g) (pattern g'):=by
 unfold pattern
 exact Zat (Zeb _) fun _=>Zg6 (Zat (Zdm _) fun _=>Zch rfl) (Zat Zmh fun _=>Zat (Zeb _) fun _=>Zg6 (ZaJ (Zc5 H _ _ _) fun _=>Zch rfl) (Zch rfl))
theorem ZtV (a:Int) (b:Nd):Nt φ (nmap φ) (spawn g a b) (spawn g' (φ a) (nmap φ b)):=by
 unfold spawn
 refine Zat (Zdm _) fun _=>Zat Zmh fun _=>ZaJ (Zd3 H _ _ _) fun _=>Zat (Zeb _) fun _=>Zg6 (Zat (Zdm _) fun _=>ZaJ (Zyd H _) fun _=>Zch ?_) (Zch ?_)
 ·simp [ZbE]
 ·simp [ZbE]
theorem Zfu (a:Int) (b b':Nd) (h:b'=nmap φ b):Nt φ (nmap φ) (spawn g a b) (spawn g' (φ a) b'):=by
 subst h
 exact ZtV H a b
theorem Zh8 (v:Nat) (h:Bool) (a:Int) (x x':Nd) (e:x'=nmap φ x):Nt φ (nmap φ) (single (g (.tail v h a x))) (single (g' (.tail v h (φ a) x'))):=by
 subst e
 exact Zgv (H (.tail v h a x))
theorem ZgQ (h:Bool) (a:Int) (x x':Nd) (e:x'=nmap φ x):Nt φ (nmap φ) (single (g (.ptail h a x))) (single (g' (.ptail h (φ a) x'))):=by
 subst e
 exact Zgv (H (.ptail h a x))
theorem ZpT (nt:NT) (e:ZpV φ nt=nt):Nt φ (nmap φ) (single (g nt)) (single (g' nt)):=by
 have h:=H nt
 rw [e] at h
 exact Zgv h
theorem Zqv (nt:NT) (e:ZpV φ nt=nt):Nt φ (List.map (nmap φ)) (g nt) (g' nt):=by
 have h:=H nt
 rw [e] at h
 exact h
theorem ZeK (a:Int):Nt φ (nmap φ) (convert g a) (convert g' (φ a)):=by
 unfold convert
 repeat (first | (with_reducible refine Zat (Zdm _) (fun _=>?_)) | (with_reducible refine Zat (Zeb _) (fun _=>?_)) | (with_reducible refine Zat (Zfv _) (fun _=>?_)) | (with_reducible refine Zat (Zfw _) (fun _=>?_)) | (with_reducible refine Zat Zj4 (fun _=>?_)) | (with_reducible refine Zat Zmh (fun _=>?_)) | (with_reducible refine Zat ZeJ (fun _=>?_)) | (with_reducible refine Zat Zfx (fun _=>?_)) | (with_reducible refine Zat (ZdE _) (fun _=>?_)) | (with_reducible refine ZaJ Zhi (fun _=>?_)) | (with_reducible refine ZaJ (ZpT H _ rfl) (fun _=>?_)) | (with_reducible refine ZaJ (Zd3 H _ _ _) (fun _=>?_)) | (with_reducible refine ZaJ (Zc5 H _ _ _) (fun _=>?_)) | (with_reducible refine ZaJ (Zc6 H _ _) (fun _=>?_)) | (with_reducible refine ZaJ (Zj3 H _) (fun _=>?_)) | (with_reducible refine ZaJ (ZgR H) (fun _=>?_)) | (with_reducible refine ZaJ (ZeI H) (fun _=>?_)) | (with_reducible refine ZaJ (Zqv H _ rfl) (fun _=>?_)) | with_reducible exact Zh8 H _ _ _ _ _ (by simp [ZbE]) | with_reducible exact ZgQ H _ _ _ _ (by simp [ZbE]) | with_reducible exact ZpT H _ rfl | with_reducible exact Zqv H _ rfl | with_reducible exact Zgw | with_reducible apply Zg6 | with_reducible exact Zd3 H _ _ _ | with_reducible exact Zc5 H _ _ _ | with_reducible exact Zc6 H _ _ | exact Zfu H _ _ _ (by simp [ZbE]) | with_reducible exact ZeK H _ | exact Zch (by simp [ZbE]))
theorem ZtX:Nt φ (nmap φ) Zfk Zfk:=by
 have _:=H
 unfold Zfk
 repeat (first | (with_reducible refine Zat (Zdm _) (fun _=>?_)) | (with_reducible refine Zat (Zeb _) (fun _=>?_)) | (with_reducible refine Zat (Zfv _) (fun _=>?_)) | (with_reducible refine Zat (Zfw _) (fun _=>?_)) | (with_reducible refine Zat Zj4 (fun _=>?_)) | (with_reducible refine Zat Zmh (fun _=>?_)) | (with_reducible refine Zat ZeJ (fun _=>?_)) | (with_reducible refine Zat Zfx (fun _=>?_)) | (with_reducible refine Zat (ZdE _) (fun _=>?_)) | (with_reducible refine ZaJ Zhi (fun _=>?_)) | (with_reducible refine ZaJ (ZpT H _ rfl) (fun _=>?_)) | (with_reducible refine ZaJ (Zd3 H _ _ _) (fun _=>?_)) | (with_reducible refine ZaJ (Zc5 H _ _ _) (fun _=>?_)) | (with_reducible refine ZaJ (Zc6 H _ _) (fun _=>?_)) | (with_reducible refine ZaJ (Zj3 H _) (fun _=>?_)) | (with_reducible refine ZaJ (ZgR H) (fun _=>?_)) | (with_reducible refine ZaJ (ZeI H) (fun _=>?_)) | (with_reducible refine ZaJ (Zqv H _ rfl) (fun _=>?_)) | with_reducible exact Zh8 H _ _ _ _ _ (by simp [ZbE]) | with_reducible exact ZgQ H _ _ _ _ (by simp [ZbE]) | with_reducible exact ZpT H _ rfl | with_reducible exact Zqv H _ rfl | with_reducible exact Zgw | with_reducible apply Zg6 | with_reducible exact Zd3 H _ _ _ | with_reducible exact Zc5 H _ _ _ | with_reducible exact Zc6 H _ _ | exact Zfu H _ _ _ (by simp [ZbE]) | with_reducible exact ZeK H _ | exact Zch (by simp [ZbE]))
theorem ZtW (w:What):Nt φ (nmap φ) (elem1 g w) (elem1 g' w):=by
 cases w <;> simp only [elem1,field,typ,ctor,set,arm,sarm,stmt,member]
 case bind=>exact ZtX H
 all_goals
  repeat (first | (with_reducible refine Zat (Zdm _) (fun _=>?_)) | (with_reducible refine Zat (Zeb _) (fun _=>?_)) | (with_reducible refine Zat (Zfv _) (fun _=>?_)) | (with_reducible refine Zat (Zfw _) (fun _=>?_)) | (with_reducible refine Zat Zj4 (fun _=>?_)) | (with_reducible refine Zat Zmh (fun _=>?_)) | (with_reducible refine Zat ZeJ (fun _=>?_)) | (with_reducible refine Zat Zfx (fun _=>?_)) | (with_reducible refine Zat (ZdE _) (fun _=>?_)) | (with_reducible refine ZaJ Zhi (fun _=>?_)) | (with_reducible refine ZaJ (ZpT H _ rfl) (fun _=>?_)) | (with_reducible refine ZaJ (Zd3 H _ _ _) (fun _=>?_)) | (with_reducible refine ZaJ (Zc5 H _ _ _) (fun _=>?_)) | (with_reducible refine ZaJ (Zc6 H _ _) (fun _=>?_)) | (with_reducible refine ZaJ (Zj3 H _) (fun _=>?_)) | (with_reducible refine ZaJ (ZgR H) (fun _=>?_)) | (with_reducible refine ZaJ (ZeI H) (fun _=>?_)) | (with_reducible refine ZaJ (Zqv H _ rfl) (fun _=>?_)) | with_reducible exact Zh8 H _ _ _ _ _ (by simp [ZbE]) | with_reducible exact ZgQ H _ _ _ _ (by simp [ZbE]) | with_reducible exact ZpT H _ rfl | with_reducible exact Zqv H _ rfl | with_reducible exact Zgw | with_reducible apply Zg6 | with_reducible exact Zd3 H _ _ _ | with_reducible exact Zc5 H _ _ _ | with_reducible exact Zc6 H _ _ | exact Zfu H _ _ _ (by simp [ZbE]) | with_reducible exact ZeK H _ | exact Zch (by simp [ZbE]))
theorem Zwr (nt:NT):Nt φ (List.map (nmap φ)) (body g nt) (body g' (ZpV φ nt)):=by
 cases nt <;> simp only [ZpV,body,one,seps,many,expr,bin,tail,post,ptail,prim,send,decl,change]
 case one w=>exact ZaJ (ZtW H w) fun _=>Zch rfl
 case seps=>
  repeat (first | (with_reducible refine Zat (Zdm _) (fun _=>?_)) | (with_reducible refine Zat (Zeb _) (fun _=>?_)) | (with_reducible refine Zat (Zfv _) (fun _=>?_)) | (with_reducible refine Zat (Zfw _) (fun _=>?_)) | (with_reducible refine Zat Zj4 (fun _=>?_)) | (with_reducible refine Zat Zmh (fun _=>?_)) | (with_reducible refine Zat ZeJ (fun _=>?_)) | (with_reducible refine Zat Zfx (fun _=>?_)) | (with_reducible refine Zat (ZdE _) (fun _=>?_)) | (with_reducible refine ZaJ Zhi (fun _=>?_)) | (with_reducible refine ZaJ (ZpT H _ rfl) (fun _=>?_)) | (with_reducible refine ZaJ (Zd3 H _ _ _) (fun _=>?_)) | (with_reducible refine ZaJ (Zc5 H _ _ _) (fun _=>?_)) | (with_reducible refine ZaJ (Zc6 H _ _) (fun _=>?_)) | (with_reducible refine ZaJ (Zj3 H _) (fun _=>?_)) | (with_reducible refine ZaJ (ZgR H) (fun _=>?_)) | (with_reducible refine ZaJ (ZeI H) (fun _=>?_)) | (with_reducible refine ZaJ (Zqv H _ rfl) (fun _=>?_)) | with_reducible exact Zh8 H _ _ _ _ _ (by simp [ZbE]) | with_reducible exact ZgQ H _ _ _ _ (by simp [ZbE]) | with_reducible exact ZpT H _ rfl | with_reducible exact Zqv H _ rfl | with_reducible exact Zgw | with_reducible apply Zg6 | with_reducible exact Zd3 H _ _ _ | with_reducible exact Zc5 H _ _ _ | with_reducible exact Zc6 H _ _ | exact Zfu H _ _ _ (by simp [ZbE]) | with_reducible exact ZeK H _ | exact Zch (by simp))
 case many=>
  repeat (first | (with_reducible refine Zat (Zdm _) (fun _=>?_)) | (with_reducible refine Zat (Zeb _) (fun _=>?_)) | (with_reducible refine Zat (Zfv _) (fun _=>?_)) | (with_reducible refine Zat (Zfw _) (fun _=>?_)) | (with_reducible refine Zat Zj4 (fun _=>?_)) | (with_reducible refine Zat Zmh (fun _=>?_)) | (with_reducible refine Zat ZeJ (fun _=>?_)) | (with_reducible refine Zat Zfx (fun _=>?_)) | (with_reducible refine Zat (ZdE _) (fun _=>?_)) | (with_reducible refine ZaJ Zhi (fun _=>?_)) | (with_reducible refine ZaJ (ZpT H _ rfl) (fun _=>?_)) | (with_reducible refine ZaJ (Zd3 H _ _ _) (fun _=>?_)) | (with_reducible refine ZaJ (Zc5 H _ _ _) (fun _=>?_)) | (with_reducible refine ZaJ (Zc6 H _ _) (fun _=>?_)) | (with_reducible refine ZaJ (Zj3 H _) (fun _=>?_)) | (with_reducible refine ZaJ (ZgR H) (fun _=>?_)) | (with_reducible refine ZaJ (ZeI H) (fun _=>?_)) | (with_reducible refine ZaJ (Zqv H _ rfl) (fun _=>?_)) | with_reducible exact Zh8 H _ _ _ _ _ (by simp [ZbE]) | with_reducible exact ZgQ H _ _ _ _ (by simp [ZbE]) | with_reducible exact ZpT H _ rfl | with_reducible exact Zqv H _ rfl | with_reducible exact Zgw | with_reducible apply Zg6 | with_reducible exact Zd3 H _ _ _ | with_reducible exact Zc5 H _ _ _ | with_reducible exact Zc6 H _ _ | exact Zfu H _ _ _ (by simp [ZbE]) | with_reducible exact ZeK H _ | exact Zch (by simp))
 all_goals
  refine ZaJ (m:=nmap φ) ?_ (fun x=>Zch rfl)
  repeat (first | (with_reducible refine Zat (Zdm _) (fun _=>?_)) | (with_reducible refine Zat (Zeb _) (fun _=>?_)) | (with_reducible refine Zat (Zfv _) (fun _=>?_)) | (with_reducible refine Zat (Zfw _) (fun _=>?_)) | (with_reducible refine Zat Zj4 (fun _=>?_)) | (with_reducible refine Zat Zmh (fun _=>?_)) | (with_reducible refine Zat ZeJ (fun _=>?_)) | (with_reducible refine Zat Zfx (fun _=>?_)) | (with_reducible refine Zat (ZdE _) (fun _=>?_)) | (with_reducible refine ZaJ Zhi (fun _=>?_)) | (with_reducible refine ZaJ (ZpT H _ rfl) (fun _=>?_)) | (with_reducible refine ZaJ (Zd3 H _ _ _) (fun _=>?_)) | (with_reducible refine ZaJ (Zc5 H _ _ _) (fun _=>?_)) | (with_reducible refine ZaJ (Zc6 H _ _) (fun _=>?_)) | (with_reducible refine ZaJ (Zj3 H _) (fun _=>?_)) | (with_reducible refine ZaJ (ZgR H) (fun _=>?_)) | (with_reducible refine ZaJ (ZeI H) (fun _=>?_)) | (with_reducible refine ZaJ (Zqv H _ rfl) (fun _=>?_)) | with_reducible exact Zh8 H _ _ _ _ _ (by simp [ZbE]) | with_reducible exact ZgQ H _ _ _ _ (by simp [ZbE]) | with_reducible exact ZpT H _ rfl | with_reducible exact Zqv H _ rfl | with_reducible exact Zgw | with_reducible apply Zg6 | with_reducible exact Zd3 H _ _ _ | with_reducible exact Zc5 H _ _ _ | with_reducible exact Zc6 H _ _ | exact Zfu H _ _ _ (by simp [ZbE]) | with_reducible exact ZeK H _ | exact Zch (by simp [ZbE]))
end
theorem ZoU:∀(m:Nat) (nt:NT),Nt φ (List.map (nmap φ)) (parse m nt) (parse m (ZpV φ nt))
 | 0,_=>fun _ _=>rfl
 | m + 1,nt=>Zwr (fun nt=>ZoU m nt) nt
theorem ZoV (m:Nat) (p:Bool):∀j,Nt φ (List.map (nmap φ)) (decls m p j) (decls m p j)
 | 0=>fun _ _=>rfl
 | j + 1=>fun e l=>by
  cases l with
  | nil=>rfl
  | cons t l=>
   have h:Nt φ (List.map (nmap φ)) (single (parse m (if p=true then .change else .decl)) >>= fun x=>decls m p j >>= fun xs=>pure (x::xs)) (single (parse m (if p=true then .change else .decl)) >>= fun x=>decls m p j >>= fun xs=>pure (x::xs)):=by
    refine ZaJ (ZpT (fun nt=>ZoU m nt) _ (by cases p <;> rfl)) fun x=>ZaJ (ZoV m p j) fun xs=>Zch rfl
   exact h e (t::l)
end
open L7
theorem Zmb {N:Nat} {nt:NT} {l:List Tok} (hg:good nt=true) (h:14 * l.length + rank nt < N) (e:Int):parse N nt e l=lim nt e l:=
 (Zjj (ZfZ N l.length nt hg h e l (Nat.le_refl _))).symm
def ZhJ (p:Bool) (x:Nd):Bool:=if p then ZcE x else ZdV x
end Go.Proofs.YtaheffiglmglbaaGreatDoor.S8
