import Derived.Test.YtaheffiglmglbaaGreatDoorKWa
import Derived.Test.YtaheffiglmglbaaGreatDoorKPa
import Derived.Test.YtaheffiglmglbaaGreatDoorKLb
import Derived.Test.YtaheffiglmglbaaGreatDoorKWh
/- Cost, LawQ, LawU, LawR, LawS. -/
set_option maxHeartbeats 8000000
set_option maxRecDepth 20000
namespace Go.Proofs.YtaheffiglmglbaaGreatDoor.S8
open Go.Proofs.Tryz
open L7
def tc (t:Tk):Nat:=2500 + 4 * t.t.length
def tcs (l:List Tok):Nat:=(l.map fun t=>tc t.1).sum
theorem Zou (t:Tok) (l:List Tok):tcs (t::l)=tc t.1 + tcs l:=rfl
def Co {α:Type} (k:Nat) (p:P α) (μ:α→Nat):Prop:=∀e l x r,p e l=.ok x r→μ x + tcs r≤tcs l + k
def om (x:Nd):Nat:=wt x + 200
theorem ZaB {α β:Type} {k:Nat} {p:P α} {f:α→P β} {ν:α→Nat} {μ:β→Nat} (h1:Co 0 p ν) (h2:∀x,Co (k + ν x) (f x) μ):Co k (p >>= f) μ:=fun e l y r h=>by
 obtain ⟨x,r1,k1,k2⟩:=Zc2 h
 have:=h1 e l x r1 k1
 have:=h2 x e r1 y r k2
 omega
theorem Zpo {α β:Type} {k:Nat} {p:P α} {f:α→P β} {ν:α→Nat} {μ:β→Nat} (h1:Co k p ν) (h2:∀x,Co (ν x) (f x) μ):Co k (p >>= f) μ:=fun e l y r h=>by
 obtain ⟨x,r1,k1,k2⟩:=Zc2 h
 have:=h1 e l x r1 k1
 have:=h2 x e r1 y r k2
 omega
theorem ZaE {α:Type} {k k':Nat} {p:P α} {μ:α→Nat} (h:Co k p μ) (hk:k≤k'):Co k' p μ:=fun e l x r hp=>by have:=h e l x r hp;omega
theorem Zii {α:Type} {k k':Nat} {p:P α} {μ:α→Nat} (h:Co 0 p μ) (hk:k'≤k):Co k p (fun x=>μ x + k'):=fun e l x r hp=>by have:=h e l x r hp;simp only;omega
theorem Zfj {α:Type} {k:Nat} {x:α} {μ:α→Nat} (h:μ x≤k):Co k (pure x:P α) μ:=fun e l y r h'=>by
 have h':P.ret x e l=.ok y r:=h'
 unfold P.ret at h'
 cases h'
 omega
theorem Zw7 {α:Type} {k:Nat} {μ:α→Nat} : Co k (fail:P α) μ:=fun e l y r h=>by
 unfold fail at h
 split at h <;> cases h
theorem Zij:Co 0 here (fun _=>0):=fun e l x r h=>by
 unfold here at h
 split at h
 ·cases h
 ·cases h;simp
theorem ZgY (s:Bs):Co 0 (ZaC s) (fun _=>0):=fun e l x r h=>by
 unfold ZaC at h
 split at h <;> (cases h;simp)
theorem ZfC (v:Nat):Co 0 (Zft v) (fun _=>0):=fun e l x r h=>by
 unfold Zft at h
 split at h <;> (cases h;simp)
theorem ZfD (f:Tk→Bool):Co 0 (ZeR f) (fun _=>0):=fun e l x r h=>by
 unfold ZeR at h
 split at h <;> (cases h;simp)
theorem ZdM (f:Tk→Bool):Co 0 (Zed f) (fun t=>2500 + 4 * t.t.length):=fun e l x r h=>by
 unfold Zed at h
 split at h
 ·cases h
 ·split at h
  ·cases h;rw [Zou,tc];simp only;omega
  ·cases h
theorem Zih (s:Bs):Co 0 (must s) (fun _=>2500):=fun e l x r h=>by
 have:=ZdM _ e l x r h
 show 2500 + tcs r≤_
 simp only at this;omega
theorem Zkk:Co 0 low (fun t=>2500 + 4 * t.length):=ZaB (ZdM _) fun _=>Zfj (by omega)
theorem Zqj:Co 0 up (fun t=>2500 + 4 * t.length):=ZaB (ZdM _) fun _=>Zfj (by omega)
theorem ZeL:Co 0 Zdn (fun t=>2500 + 4 * t.length):=ZaB (ZdM _) fun _=>Zfj (by omega)
theorem ZfE:Co 0 number (fun _=>2500):=ZaB (ZdM _) fun _=>Zfj (by omega)
theorem Zsx {α:Type} {k:Nat} {c:Prop} [Decidable c] {p q:P α} {μ:α→Nat} (h1:Co k p μ) (h2:Co k q μ):Co k (if c then p else q) μ:=by
 split
 ·exact h1
 ·exact h2
theorem Zdf {k:Nat} {p:P (List Nd)} (h:Co k p wts):Co k (single p) om:=Zpo h fun l=>by
 split
 ·exact Zfj (by rw [Zbr,Zbw,om];omega)
 ·exact Zw7
def have0:NT→Nat
 | .tail _ _ _ x=>om x
 | .ptail _ _ x=>om x
 | _=>0
theorem Zg3 (k:Int) (t:Bs) (n a:Int) (c:List Nd):wt (.mk k t n a c)=1000 + 4 * t.length + wts c:=by rw [wt]
theorem Zkw:ZdF.length=1:=rfl
section
variable {g:G} (H:∀nt,Co (have0 nt) (g nt) wts)
include H in
theorem Zkj (w:What):Co 0 (single (g (.one w))) om:=Zdf (H _)
include H in
theorem ZgZ (h:Bool):Co 0 (single (g (.expr h))) om:=Zdf (H _)
include H in
theorem Zik (v:Nat) (h:Bool):Co 0 (single (g (.bin v h))) om:=Zdf (H _)
include H in
theorem ZgX (h:Bool):Co 0 (single (g (.post h))) om:=Zdf (H _)
include H in
theorem ZgW (h:Bool):Co 0 (single (g (.prim h))) om:=Zdf (H _)
include H in
theorem ZgV:Co 0 (single (g .send)) om:=Zdf (H _)
include H in
theorem Zg0:Co 0 (single (g .decl)) om:=Zdf (H _)
include H in
theorem ZeC (s:Bs) (w:What):Co 0 (g (.seps s w)) wts:=H _
include H in
theorem ZeD (w:What) (b:Bool):Co 0 (g (.many w b)) wts:=H _
include H in
theorem Zlm {k:Nat} (v:Nat) (h:Bool) (a:Int) (x:Nd) (hk:om x≤k):Co k (single (g (.tail v h a x))) om:=ZaE (Zdf (H _)) hk
include H in
theorem ZjC {k:Nat} (h:Bool) (a:Int) (x:Nd) (hk:om x≤k):Co k (single (g (.ptail h a x))) om:=ZaE (Zdf (H _)) hk
include H in
theorem ZyH:(∀o w s,Co 0 (list g o w s) (fun l=>wts l + 2500))∧(∀o w s,Co 0 (some1 g o w s) (fun l=>wts l + 2500))∧(∀w b,Co 0 (many1 g w b) (fun l=>wts l + 2500))∧(∀h,Co 0 (sig g h) wts)∧Co 0 Zfk om:=by
 unfold list some1 many1 sig Zfk
 refine ⟨fun _ _ _=>?_,fun _ _ _=>?_,fun _ _=>?_,fun _=>?_,?_⟩
 all_goals
  repeat (first | (with_reducible refine Zfj ?_;simp only [om,Zg3,Zbr,Zbw,Zkw] at *;omega) | with_reducible apply Zsx | with_reducible exact Zlm H _ _ _ _ (by simp only [om];omega) | with_reducible exact ZjC H _ _ _ (by simp only [om];omega) | (with_reducible first | refine ZaB Zij (fun _=>?_) | refine ZaB (ZgY _) (fun _=>?_) | refine ZaB (ZfC _) (fun _=>?_) | refine ZaB (ZfD _) (fun _=>?_) | refine ZaB (Zih _) (fun _=>?_) | refine ZaB Zkk (fun _=>?_) | refine ZaB Zqj (fun _=>?_) | refine ZaB ZeL (fun _=>?_) | refine ZaB ZfE (fun _=>?_) | refine ZaB (ZdM _) (fun _=>?_) | refine ZaB (Zkj H _) (fun _=>?_) | refine ZaB (ZgZ H _) (fun _=>?_) | refine ZaB (Zik H _ _) (fun _=>?_) | refine ZaB (ZgX H _) (fun _=>?_) | refine ZaB (ZgW H _) (fun _=>?_) | refine ZaB (ZgV H) (fun _=>?_) | refine ZaB (Zg0 H) (fun _=>?_) | refine ZaB (ZeC H _ _) (fun _=>?_) | refine ZaB (ZeD H _ _) (fun _=>?_)) | with_reducible exact ZaE Zij (Nat.zero_le _) | with_reducible exact ZaE (ZgY _) (Nat.zero_le _) | with_reducible exact ZaE (ZfC _) (Nat.zero_le _) | with_reducible exact ZaE (ZfD _) (Nat.zero_le _) | with_reducible exact ZaE (Zih _) (Nat.zero_le _) | with_reducible exact ZaE Zkk (Nat.zero_le _) | with_reducible exact ZaE Zqj (Nat.zero_le _) | with_reducible exact ZaE ZeL (Nat.zero_le _) | with_reducible exact ZaE ZfE (Nat.zero_le _) | with_reducible exact ZaE (ZdM _) (Nat.zero_le _) | with_reducible exact ZaE (Zkj H _) (Nat.zero_le _) | with_reducible exact ZaE (ZgZ H _) (Nat.zero_le _) | with_reducible exact ZaE (Zik H _ _) (Nat.zero_le _) | with_reducible exact ZaE (ZgX H _) (Nat.zero_le _) | with_reducible exact ZaE (ZgW H _) (Nat.zero_le _) | with_reducible exact ZaE (ZgV H) (Nat.zero_le _) | with_reducible exact ZaE (Zg0 H) (Nat.zero_le _) | with_reducible exact ZaE (ZeC H _ _) (Nat.zero_le _) | with_reducible exact ZaE (ZeD H _ _) (Nat.zero_le _) | with_reducible exact Zii (ZeC H _ _) (by omega) | with_reducible exact Zii (ZeD H _ _) (by omega))
include H in
theorem Zlo (o:Bs) (w:What) (s:Bs):Co 0 (list g o w s) (fun l=>wts l + 2500):=(ZyH H).1 o w s
include H in
theorem ZiS (o:Bs) (w:What) (s:Bs):Co 0 (some1 g o w s) (fun l=>wts l + 2500):=(ZyH H).2.1 o w s
include H in
theorem ZiT (w:What) (b:Bool):Co 0 (many1 g w b) (fun l=>wts l + 2500):=(ZyH H).2.2.1 w b
include H in
theorem ZyQ:Co 0 (block g) om∧Co 0 (pattern g) (fun p=>2000 + 4 * p.1.length + wts p.2)∧(∀k a b,om b≤k + 2500→Co k (spawn g a b) om)∧(∀k a,2500≤k→Co k (convert g a) om):=by
 unfold block pattern spawn convert
 refine ⟨?_,?_,fun _ _ _ _=>?_,fun _ _ _=>?_⟩
 all_goals
  repeat (first | (with_reducible refine Zfj ?_;simp only [om,Zg3,Zbr,Zbw,ZeM,List.length_nil,Zkw] at *;omega) | with_reducible apply Zsx | with_reducible exact Zlm H _ _ _ _ (by simp only [om];omega) | with_reducible exact ZjC H _ _ _ (by simp only [om];omega) | (with_reducible first | refine ZaB Zij (fun _=>?_) | refine ZaB (ZgY _) (fun _=>?_) | refine ZaB (ZfC _) (fun _=>?_) | refine ZaB (ZfD _) (fun _=>?_) | refine ZaB (Zih _) (fun _=>?_) | refine ZaB Zkk (fun _=>?_) | refine ZaB Zqj (fun _=>?_) | refine ZaB ZeL (fun _=>?_) | refine ZaB ZfE (fun _=>?_) | refine ZaB (ZdM _) (fun _=>?_) | refine ZaB (Zkj H _) (fun _=>?_) | refine ZaB (ZgZ H _) (fun _=>?_) | refine ZaB (Zik H _ _) (fun _=>?_) | refine ZaB (ZgX H _) (fun _=>?_) | refine ZaB (ZgW H _) (fun _=>?_) | refine ZaB (ZgV H) (fun _=>?_) | refine ZaB (Zg0 H) (fun _=>?_) | refine ZaB (ZeC H _ _) (fun _=>?_) | refine ZaB (ZeD H _ _) (fun _=>?_) | refine ZaB (Zlo H _ _ _) (fun _=>?_) | refine ZaB (ZiS H _ _ _) (fun _=>?_) | refine ZaB (ZiT H _ _) (fun _=>?_)) | with_reducible exact ZaE Zij (Nat.zero_le _) | with_reducible exact ZaE (ZgY _) (Nat.zero_le _) | with_reducible exact ZaE (ZfC _) (Nat.zero_le _) | with_reducible exact ZaE (ZfD _) (Nat.zero_le _) | with_reducible exact ZaE (Zih _) (Nat.zero_le _) | with_reducible exact ZaE Zkk (Nat.zero_le _) | with_reducible exact ZaE Zqj (Nat.zero_le _) | with_reducible exact ZaE ZeL (Nat.zero_le _) | with_reducible exact ZaE ZfE (Nat.zero_le _) | with_reducible exact ZaE (ZdM _) (Nat.zero_le _) | with_reducible exact ZaE (Zkj H _) (Nat.zero_le _) | with_reducible exact ZaE (ZgZ H _) (Nat.zero_le _) | with_reducible exact ZaE (Zik H _ _) (Nat.zero_le _) | with_reducible exact ZaE (ZgX H _) (Nat.zero_le _) | with_reducible exact ZaE (ZgW H _) (Nat.zero_le _) | with_reducible exact ZaE (ZgV H) (Nat.zero_le _) | with_reducible exact ZaE (Zg0 H) (Nat.zero_le _) | with_reducible exact ZaE (ZeC H _ _) (Nat.zero_le _) | with_reducible exact ZaE (ZeD H _ _) (Nat.zero_le _) | with_reducible exact ZaE (Zlo H _ _ _) (Nat.zero_le _) | with_reducible exact ZaE (ZiS H _ _ _) (Nat.zero_le _) | with_reducible exact ZaE (ZiT H _ _) (Nat.zero_le _) | with_reducible exact Zii (ZeC H _ _) (by omega) | with_reducible exact Zii (ZeD H _ _) (by omega))
include H in
theorem Zw8 (nt:NT):Co (have0 nt) (body g nt) wts:=by
 have e0:Co 0 Zfk om:=(ZyH H).2.2.2.2
 have e1:∀h,Co 0 (sig g h) wts:=(ZyH H).2.2.2.1
 have e2:Co 0 (block g) om:=(ZyQ H).1
 have e3:=(ZyQ H).2.1
 have e4:=fun {k:Nat} (a:Int) (b:Nd) (h:om b≤k + 2500)=>(ZyQ H).2.2.1 k a b h
 have e5:=fun {k:Nat} (a:Int) (h:2500≤k)=>(ZyQ H).2.2.2 k a h
 have X:(∀w,Co 0 (elem1 g w) om)∧(∀s w,Co 0 (seps g s w) wts)∧(∀w b,Co 0 (many g w b) wts)∧(∀h,Co 0 (expr g h) om)∧(∀v h,Co 0 (bin g v h) om)∧(∀v h a x,Co (om x) (tail g v h a x) om)∧(∀h,Co 0 (post g h) om)∧(∀h a x,Co (om x) (ptail g h a x) om)∧(∀h,Co 0 (prim g h) om)∧Co 0 (send g) om∧Co 0 (decl g) om∧Co 0 (change g) om:=by
  refine ⟨fun w=>?_,?_⟩
  rotate_left
  unfold seps many expr bin tail post ptail prim send decl change
  refine ⟨fun _ _=>?_,fun _ _=>?_,fun _=>?_,fun _ _=>?_,fun _ _ _ _=>?_,fun _=>?_,fun _ _ _=>?_,fun _=>?_,?_,?_,?_⟩
  rotate_left 11
  cases w <;> simp only [elem1,field,typ,ctor,set,arm,sarm,stmt,member]
  all_goals
   repeat (first | (with_reducible refine Zfj ?_;simp only [om,Zg3,Zbr,Zbw,ZeM,List.length_nil] at *;omega) | with_reducible apply Zsx | with_reducible exact Zlm H _ _ _ _ (by simp only [om,Zg3,Zbr,Zbw];omega) | with_reducible exact ZjC H _ _ _ (by simp only [om,Zg3,Zbr,Zbw,List.length_nil];omega) | (with_reducible first | refine ZaB Zij (fun _=>?_) | refine ZaB (ZgY _) (fun _=>?_) | refine ZaB (ZfC _) (fun _=>?_) | refine ZaB (ZfD _) (fun _=>?_) | refine ZaB (Zih _) (fun _=>?_) | refine ZaB Zkk (fun _=>?_) | refine ZaB Zqj (fun _=>?_) | refine ZaB ZeL (fun _=>?_) | refine ZaB ZfE (fun _=>?_) | refine ZaB (ZdM _) (fun _=>?_) | refine ZaB (Zkj H _) (fun _=>?_) | refine ZaB (ZgZ H _) (fun _=>?_) | refine ZaB (Zik H _ _) (fun _=>?_) | refine ZaB (ZgX H _) (fun _=>?_) | refine ZaB (ZgW H _) (fun _=>?_) | refine ZaB (ZgV H) (fun _=>?_) | refine ZaB (Zg0 H) (fun _=>?_) | refine ZaB (ZeC H _ _) (fun _=>?_) | refine ZaB (ZeD H _ _) (fun _=>?_) | refine ZaB (Zlo H _ _ _) (fun _=>?_) | refine ZaB (ZiS H _ _ _) (fun _=>?_) | refine ZaB (ZiT H _ _) (fun _=>?_) | refine ZaB (e1 _) (fun _=>?_) | refine ZaB e2 (fun _=>?_) | refine ZaB e3 (fun _=>?_) | refine ZaB e0 (fun _=>?_)) | with_reducible exact ZaE Zij (Nat.zero_le _) | with_reducible exact ZaE (ZgY _) (Nat.zero_le _) | with_reducible exact ZaE (ZfC _) (Nat.zero_le _) | with_reducible exact ZaE (ZfD _) (Nat.zero_le _) | with_reducible exact ZaE (Zih _) (Nat.zero_le _) | with_reducible exact ZaE Zkk (Nat.zero_le _) | with_reducible exact ZaE Zqj (Nat.zero_le _) | with_reducible exact ZaE ZeL (Nat.zero_le _) | with_reducible exact ZaE ZfE (Nat.zero_le _) | with_reducible exact ZaE (ZdM _) (Nat.zero_le _) | with_reducible exact ZaE (Zkj H _) (Nat.zero_le _) | with_reducible exact ZaE (ZgZ H _) (Nat.zero_le _) | with_reducible exact ZaE (Zik H _ _) (Nat.zero_le _) | with_reducible exact ZaE (ZgX H _) (Nat.zero_le _) | with_reducible exact ZaE (ZgW H _) (Nat.zero_le _) | with_reducible exact ZaE (ZgV H) (Nat.zero_le _) | with_reducible exact ZaE (Zg0 H) (Nat.zero_le _) | with_reducible exact ZaE (ZeC H _ _) (Nat.zero_le _) | with_reducible exact ZaE (ZeD H _ _) (Nat.zero_le _) | with_reducible exact ZaE (Zlo H _ _ _) (Nat.zero_le _) | with_reducible exact ZaE (ZiS H _ _ _) (Nat.zero_le _) | with_reducible exact ZaE (ZiT H _ _) (Nat.zero_le _) | with_reducible exact ZaE (e1 _) (Nat.zero_le _) | with_reducible exact ZaE e2 (Nat.zero_le _) | with_reducible exact ZaE e3 (Nat.zero_le _) | with_reducible exact ZaE e0 (Nat.zero_le _) | with_reducible exact Zii (ZeC H _ _) (by omega) | with_reducible exact Zii (ZeD H _ _) (by omega) | with_reducible exact e4 _ _ (by simp only [om,Zg3,Zbw,Zkw];omega) | with_reducible exact e5 _ (by omega))
 obtain ⟨x0,x1,x2,x3,x4,x5,x6,x7,x8,x9,x10,x11⟩:=X
 have co_wrap:∀{k:Nat} {p:P Nd},Co k p om→Co k (one p) wts:=fun h=>Zpo h fun x=>Zfj (by rw [Zbr,Zbw,om];omega)
 cases nt with
 | one w=>exact co_wrap (x0 w)
 | seps s w=>exact x1 s w
 | many w b=>exact x2 w b
 | expr h=>exact co_wrap (x3 h)
 | bin v h=>exact co_wrap (x4 v h)
 | tail v h a x=>exact co_wrap (x5 v h a x)
 | post h=>exact co_wrap (x6 h)
 | ptail h a x=>exact co_wrap (x7 h a x)
 | prim h=>exact co_wrap (x8 h)
 | send=>exact co_wrap x9
 | decl=>exact co_wrap x10
 | change=>exact co_wrap x11
end
theorem Zln:∀(m:Nat) (nt:NT),Co (have0 nt) (parse m nt) wts
 | 0,_=>fun e l x r h=>by cases h
 | m + 1,nt=>Zw8 (fun nt=>Zln m nt) nt
theorem Zpn (m:Nat) (p:Bool):∀j,Co 0 (decls m p j) wts
 | 0=>fun e l x r h=>by cases h
 | j + 1=>fun e l x r h=>by
  cases l with
  | nil=>cases h;rw [Zbw];simp
  | cons t l=>
   have H:Co 0 (S8.row m p j) wts:=by
    unfold S8.row
    refine ZaB (ν:=om) (Zdf ?_) fun x=>ZaB (Zpn m p j) fun xs=>Zfj (by rw [Zbr,om];omega)
    cases p with
    | true=>exact Zln m .change
    | false=>exact Zln m .decl
   rw [Zcc] at h
   exact H _ _ _ _ h
theorem File.cost {p:Bool} {e:Int} {l:List Tok} {c r} (h:File p e l (.ok c r)):wts c≤tcs l:=by
 obtain ⟨-,m,j,h⟩:=h
 have:=Zpn m p j e l c r h
 omega
open L7
def Zfm:Nd:=.mk 0 [] 0 0 []
def root (c:List Nd):Nd:=.mk 1 [] 0 0 c
def ZjG:Res (List Nd)→Nd × Int × Int
 | .ok c _=>match deep 40 0 (root c) with
  | some a=>(Zfm,10,a)
  | none=>(root c,0,0)
 | .err a=>(Zfm,2,a)
 | .out=>(Zfm,0,0)
noncomputable def pv (p:Bool) (s:Bs):Nd × Int × Int:=match scan s with
 | .error (e,k)=>(Zfm,(e:Int),((s.length - k:Nat):Int))
 | .ok l=>ZjG (Zqa p s.length (offs s.length l))
theorem ZjI {p:Bool} {s:Bs} {l:List (Tk × Nat)} {R:Res (List Nd)} (hs:scan s=.ok l) (h:File p s.length (offs s.length l) R):pv p s=ZjG R:=by
 unfold pv;rw [hs];simp only;rw [Zup h]
theorem ZuX {p:Bool} {s:Bs} {e k:Nat} (hs:scan s=.error (e,k)):pv p s=(Zfm,(e:Int),((s.length - k:Nat):Int)):=by
 unfold pv;rw [hs]
theorem Zeg (c:List Nd):deep 40 0 (root c)=deeps 40 1 c:=by rw [root,deep,if_neg (by omega)]
theorem Zq9 {R:Res (List Nd)} (h:(ZjG R).2.1≠0):(ZjG R).1=Zfm:=by
 cases R with
 | out=>rfl
 | err a=>rfl
 | ok c r=>
  unfold ZjG at h ⊢;simp only at h ⊢
  cases hd:deep 40 0 (root c) with
  | none=>rw [hd] at h;exact absurd rfl h
  | some a=>rfl
theorem Zv2 {p:Bool} {s:Bs} (h:(pv p s).2.1≠0):(pv p s).1=Zfm:=by
 unfold pv at h ⊢
 cases hs:scan s with
 | error x=>rfl
 | ok l=>rw [hs] at h;exact Zq9 h
theorem Zm3 {dec:Nat→Bs} {t:Tk} {x:Bs} (h:L7.written dec t=some x):okT t=true:=by
 unfold L7.written at h
 unfold okT ZeY
 split at h
 ·rename_i h2
  split at h
  ·rename_i h3
   obtain ⟨h3,h4,h5⟩:=h3
   simp [h2,h3,h4,h5]
  ·cases h
 ·rename_i h2
  split at h
  ·cases h
  ·rename_i hn
   have hn:t.n=0:=by simpa using hn
   split at h
   ·rename_i h3;simp [hn,h3.1,h3.2]
   ·split at h
    ·rename_i h3
     rcases h3 with h3 | h3 <;> simp [hn,h3.1,h3.2]
    ·cases h
theorem Zs8 {t:Tk} (h:okT t=true):(t.k=2→0≤t.n∧t.n≤ZeY)∧(t.k=3→t.t.length≤4096):=by
 unfold okT at h
 simp only [Bool.or_eq_true,Bool.and_eq_true,decide_eq_true_eq,beq_iff_eq] at h
 omega
theorem ZmB {dec:Nat→Bs} : ∀{l:List Tk} {xs:List Bs},forms dec l=some xs→∀t∈l,∃x,L7.written dec t=some x
 | [],_,_,t,h=>by cases h
 | u::l,xs,hf,t,h=>by
  unfold forms at hf
  cases hw:L7.written dec u with
  | none=>rw [hw] at hf;cases hf
  | some y=>
   rw [hw] at hf
   cases hl:forms dec l with
   | none=>rw [hl] at hf;cases hf
   | some ys=>
    rcases List.mem_cons.1 h with rfl | h
    ·exact ⟨y,hw⟩
    ·exact ZmB hl t h
theorem ZkN {s:Bs} {l:List (Tk × Nat)} (h:scan s=.ok l):∀t∈l,okT t.1=true:=fun t ht=>by
 obtain ⟨xs,hx⟩:=ZjY (dec:=fun _=>[]) l s h
 obtain ⟨x,hx⟩:=ZmB hx t.1 (List.mem_map.2 ⟨t,ht,rfl⟩)
 exact Zm3 hx
theorem ZoT {n:Nat} {s:Bs} {l:List (Tk × Nat)} (h:scan s=.ok l):TokOk (offs n l):=fun t ht=>by
 obtain ⟨u,hu,rfl⟩:=List.mem_map.1 ht
 exact Zs8 (ZkN h u hu)
theorem Zgs {s:Bs} {l:List (Tk × Nat)} (h:scan s=.ok l):∀t∈l,0 < t.2∧t.2≤s.length:=fun t ht=>by
 obtain ⟨i,hi,rfl⟩:=List.mem_iff_getElem.1 ht
 have:=Zd1 l s h i hi
 exact ⟨this.2.1,this.1⟩
theorem ZoN {p:Bool} {s:Bs} (h:(pv p s).2.1=0) (hs:∀e k,scan s=.error (e,k)→e≠0):∃l c,scan s=.ok l∧File p s.length (offs s.length l) (.ok c [])∧deeps 40 1 c=none∧pv p s=(root c,0,0)∧(∀x∈c,ZhJ p x=true∧wf x=true):=by
 cases hx:scan s with
 | error x=>
  obtain ⟨e,k⟩:=x
  rw [ZuX hx] at h
  exact absurd (by simpa using h) (hs e k hx)
 | ok l=>
  have h1:=ZgU p s.length (offs s.length l)
  have h2:=ZjI hx h1
  cases hf:Zqa p s.length (offs s.length l) with
  | out=>exact absurd hf h1.1
  | err a=>rw [hf] at h2;rw [h2] at h;cases h
  | ok c r=>
   rw [hf] at h1 h2
   obtain ⟨rfl,hv⟩:=h1.valid (ZoT hx)
   refine ⟨l,c,rfl,h1,?_,?_,hv⟩
   ·rw [← Zeg]
    cases hd:deep 40 0 (root c) with
    | none=>rfl
    | some a=>rw [h2,ZjG,hd] at h;cases h
   ·cases hd:deep 40 0 (root c) with
    | none=>rw [h2,ZjG,hd]
    | some a=>rw [h2,ZjG,hd] at h;cases h
theorem ZnB {s:Bs} (hs:∀e k,scan s=.error (e,k)→e≠0) (h:(pv true s).2.1≠0):(pv false s).2.1≠0:=fun h2=>by
 obtain ⟨l,c,h3,h4,h5,h6,-⟩:=ZoN h2 hs
 apply h
 rw [ZjI h3 h4.prog,ZjG,Zeg,h5]
theorem ZpS {s:Bs} (hs:∀e k,scan s=.error (e,k)→e≠0) (h:(pv true s).2.1=0):∃c,pv true s=(root c,0,0)∧(∀x∈c,ZcE x=true)∧pv false s=match Zc0 c with
  | none=>(root c,0,0)
  | some x=>(Zfm,2,x.a):=by
 obtain ⟨l,c,h3,h4,h5,h6,h7⟩:=ZoN h hs
 refine ⟨c,h6,fun x hx=>(h7 x hx).1,?_⟩
 have h8:=h4.patch (ZoT h3)
 rw [ZjI h3 h8]
 cases hf:Zc0 c with
 | none=>simp only [ZjG];rw [Zeg,h5]
 | some x=>rfl
theorem ZmT {x:Nd} (h:ZcE x=true):(ZdV x=true∧x.k < 70)∨(ZdV x=false∧70≤x.k):=by
 unfold ZcE at h
 cases hd:ZdV x with
 | true=>left;refine ⟨rfl,?_⟩;unfold ZdV at hd;simp at hd;omega
 | false=>rw [hd] at h;right;refine ⟨rfl,?_⟩;simp at h;omega
theorem ZkE (φ:Int→Int):∀x:Nd,strip (nmap φ x)=strip x:=by
 intro x
 induction x using ZhH with
 | h k t n a c ih=>
  rw [ZbE,strip,strip,Zfp,Zfp,List.map_map]
  congr 1
  exact List.map_congr_left fun x hx=>ih x hx
theorem Zta {u:Bs} {e:Nat} (h:L7.tok u=.error e):e≠0:=by
 rintro rfl
 cases u with
 | nil=>simp [L7.tok] at h
 | cons b r=>
  simp only [L7.tok] at h
  split at h
  ·cases h
  ·split at h
   ·unfold ZdA at h;split at h
    ·cases h
    ·split at h <;> cases h
   ·split at h
    ·unfold ZeN at h;split at h
     ·cases h
     ·split at h <;> cases h
    ·cases r with
     | nil=>simp only [Zbm] at h;split at h <;> cases h
     | cons c r=>
      simp only [Zbm] at h
      split at h
      ·cases h
      ·split at h <;> cases h
theorem ZlW:∀(n:Nat) (s:Bs),s.length≤n→∀e k,scan s=.error (e,k)→e≠0
 | 0,s,hs,e,k,h=>by
  have:s=[]:=List.eq_nil_of_length_eq_zero (by omega)
  subst this
  rw [ZdD (by simp [skip])] at h
  cases h
 | n + 1,s,hs,e,k,h=>by
  by_cases hn:skip s=[]
  ·rw [ZdD hn] at h;cases h
  ·have hl:=Zgp s
   cases ht:L7.tok (skip s) with
   | error e2=>
    rw [ZfL hn ht] at h
    cases h
    exact Zta ht
   | ok x=>
    obtain ⟨t',r⟩:=x
    have hr:=ZlL ht
    rw [Zet ht] at h
    cases hr2:scan r with
    | error y=>
     rw [hr2] at h
     simp only [Except.error.injEq] at h
     subst h
     exact ZlW n r (by omega) e k hr2
    | ok l'=>rw [hr2] at h;cases h
theorem codes {s:Bs} : ∀e k,scan s=.error (e,k)→e≠0:=ZlW s.length s (Nat.le_refl _)
open L7
theorem Zwz:∀(n:Nat) (s:Bs),s.length≤n→∀x r,lit s=some (x,r)→x.length + r.length≤s.length:=by
 intro n
 induction n with
 | zero=>
  intro s hs x r h
  obtain rfl:s=[]:=List.eq_nil_of_length_eq_zero (by omega)
  simp [lit] at h
 | succ n ih=>
  intro s hs x r h
  match s with
  | []=>simp [lit] at h
  | [b]=>
   unfold lit at h
   split at h
   ·cases h;simp
   ·cases h
  | b::c::s=>
   unfold lit at h
   split at h
   ·cases h;simp
   ·split at h
    ·cases h
    ·split at h
     ·cases he:esc c with
      | none=>rw [he] at h;cases h
      | some e=>
       rw [he] at h
       cases hl:lit s with
       | none=>rw [hl] at h;cases h
       | some y=>
        rw [hl] at h
        cases h
        have:=ih s (by simp at hs;omega) y.1 y.2 hl
        simp;omega
     ·cases hl:lit (c::s) with
      | none=>rw [hl] at h;cases h
      | some y=>
       rw [hl] at h
       cases h
       have:=ih (c::s) (by simp at hs ⊢;omega) y.1 y.2 hl
       simp at this ⊢;omega
theorem Zep {s r:Bs} {t:Tk} (h:L7.tok s=.ok (t,r)):t.t.length + r.length≤s.length∧r.length < s.length:=by
 refine ⟨?_,ZlL h⟩
 cases s with
 | nil=>cases h
 | cons b s=>
  simp only [L7.tok] at h
  split at h
  ·simp only [Except.ok.injEq,Prod.mk.injEq] at h
   obtain ⟨rfl,rfl⟩:=h
   have:=congrArg List.length (List.takeWhile_append_dropWhile (p:=Zdw) (l:=s))
   rw [List.length_append] at this
   simp;omega
  ·split at h
   ·unfold ZdA at h
    split at h
    ·cases h
    ·split at h
     ·cases h
     ·cases h
      have:=Zhr (p:=ZcI) s
      simp;omega
   ·split at h
    ·unfold ZeN at h
     split at h
     ·cases h
     ·rename_i x r hl
      split at h
      ·cases h
      ·cases h
       have:=Zwz _ s (Nat.le_refl _) _ _ hl
       simp;omega
    ·cases s with
     | nil=>
      simp only [Zbm] at h
      split at h <;> cases h
      simp
     | cons c s=>
      simp only [Zbm] at h
      split at h
      ·cases h;simp;omega
      ·split at h <;> cases h
       simp;omega
theorem ZhD:∀(l:List (Tk × Nat)) (s:Bs),scan s=.ok l→l.length≤s.length∧(l.map fun t=>t.1.t.length).sum≤s.length
 | [],s,_=>by simp
 | (t,n)::l,s,h=>by
  obtain ⟨r,hn,ht,hr⟩:=ZeQ h
  have h1:=Zep ht
  have h2:=ZhD l r hr
  have h3:=Zgp s
  simp only [List.length_cons,List.map_cons,List.sum_cons]
  omega
theorem Zot (n:Nat):∀l:List (Tk × Nat),tcs (offs n l)=2500 * l.length + 4 * (l.map fun t=>t.1.t.length).sum
 | []=>rfl
 | t::l=>by
  have:=Zot n l
  rw [show offs n (t::l)=(t.1,((n - t.2:Nat):Int))::offs n l from rfl,Zou,this,tc]
  simp only [List.length_cons,List.map_cons,List.sum_cons]
  omega
theorem Zh3 {p:Bool} {s:Bs} (hs:s.length≤7100):∀l c r,scan s=.ok l→File p s.length (offs s.length l) (.ok c r)→wts c≤18000000:=fun l c r h hF=>by
 have h1:=hF.cost
 rw [Zot] at h1
 have h2:=ZhD l s h
 omega
theorem ZkM {s:Bs} {l:List (Tk × Nat)} (h:scan s=.ok l):∀t∈l,t.1.t.length≤s.length:=fun t ht=>by
 have h2:=(ZhD l s h).2
 have:∀l:List (Tk × Nat),t∈l→t.1.t.length≤(l.map fun t=>t.1.t.length).sum:=fun l=>by
  induction l with
  | nil=>intro h;cases h
  | cons u l ih=>
   intro h
   rw [List.map_cons,List.sum_cons]
   rcases List.mem_cons.1 h with rfl | h
   ·omega
   ·have:=ih h;omega
 have:=this l ht
 omega
open L7
theorem ZhE {s:Bs} {l:List (Tk × Nat)} (h:scan s=.ok l):∀i j (hi:i < l.length) (hj:j < l.length),i < j→(l[j]).2 < (l[i]).2:=by
 intro i j hi hj hij
 obtain ⟨d,rfl⟩:∃d,j=i + 1 + d:=⟨j - i - 1,by omega⟩
 clear hij
 induction d with
 | zero=>exact ((Zd1 l s h i hi).2.2.2.1 hj).1
 | succ d ih=>
  have h1:=ih (by omega)
  have h2:=((Zd1 l s h (i + 1 + d) (by omega)).2.2.2.1 hj).1
  exact Nat.lt_trans h2 h1
def mv (n m:Nat) (l l':List (Tk × Nat)) (a:Int):Int:=match (l.zip l').find? (fun x=>((n - x.1.2:Nat):Int) == a) with
 | some x=>((m - x.2.2:Nat):Int)
 | none=>(m:Int)
theorem Zye {n m:Nat} {l l':List (Tk × Nat)} (hd:∀i j (hi:i < l.length) (hj:j < l.length),i < j→(l[j]).2 < (l[i]).2) (hn:∀t∈l,t.2≤n) (hl:l'.length=l.length) (i:Nat) (hi:i < l.length):mv n m l l' ((n - (l[i]).2:Nat):Int)=((m - (l'[i]'(by omega)).2:Nat):Int):=by
 unfold mv
 have hz:i < (l.zip l').length:=by rw [List.length_zip];omega
 have hf:(l.zip l').find? (fun x=>((n - x.1.2:Nat):Int) == ((n - (l[i]).2:Nat):Int))=some ((l.zip l')[i]):=by
  rw [List.find?_eq_some_iff_getElem]
  refine ⟨by simp,i,hz,rfl,fun j hj=>?_⟩
  have h1:=hd j i (by omega) hi hj
  have h2:=hn _ (List.getElem_mem (show j < l.length by omega))
  simp
  omega
 rw [hf]
 simp
theorem Zu6 {n m:Nat} {l l':List (Tk × Nat)} (hn:∀t∈l,0 < t.2∧t.2≤n):mv n m l l' (n:Int)=(m:Int):=by
 unfold mv
 rw [List.find?_eq_none.2]
 intro x hx
 have h1:x.1∈l:=(List.of_mem_zip hx).1
 have:=hn _ h1
 simp
 omega
theorem ZrG {p:Bool} {s t:Bs} {l l':List (Tk × Nat)} (h1:scan s=.ok l) (_:scan t=.ok l') (hl:l'.map Prod.fst=l.map Prod.fst) {R:Res (List Nd)} (h:File p s.length (offs s.length l) R) :
  File p t.length (offs t.length l') (rmap (mv s.length t.length l l') (List.map (nmap (mv s.length t.length l l'))) R):=by
 have hlen:l'.length=l.length:=by have:=congrArg List.length hl;simpa using this
 have h3:=h.map (mv s.length t.length l l')
 rw [Zu6 (Zgs h1)] at h3
 rw [show tmap (mv s.length t.length l l') (offs s.length l)=offs t.length l' from ?_] at h3
 ·exact h3
 refine List.ext_getElem (by simp [tmap,offs,hlen]) fun i k1 k2=>?_
 have hi:i < l.length:=by simpa [tmap,offs] using k1
 have e1:(l'[i]'(by omega)).1=(l[i]).1:=by
  have:=congrArg (fun z=>z[i]?) hl
  simp only [List.getElem?_map,List.getElem?_eq_getElem hi,List.getElem?_eq_getElem (show i < l'.length by omega)] at this
  simpa using this
 have e2:=Zye (m:=t.length) (ZhE h1) (fun t ht=>(Zgs h1 t ht).2) hlen i hi
 simp only [tmap,offs,List.getElem_map]
 rw [e2,e1]
theorem ZmL (m d:Nat) (a:Int):∀c:List Nd,deeps m d c=some a→∃x∈c,a∈places x
 | [],h=>by rw [deeps] at h;cases h
 | x::c,h=>by
  rw [deeps] at h
  cases hx:deep m d x with
  | some b=>rw [hx] at h;cases h;exact ⟨x,by simp,Zuw m x d a hx⟩
  | none=>
   rw [hx] at h
   obtain ⟨y,hy,h⟩:=ZmL m d a c h
   exact ⟨y,by simp [hy],h⟩
theorem Zqp (s t:Bs) {l l':List (Tk × Nat)} (h1:scan s=.ok l) (h2:scan t=.ok l') (hl:l'.map Prod.fst=l.map Prod.fst) :
  (pv true s).2.1=(pv true t).2.1∧strip (pv true s).1=strip (pv true t).1∧((pv true s).2.1≠0→
   (∀(i:Nat) (hi:i < l.length) (hi':i < l'.length),((s.length - (l[i]).2:Nat):Int)=(pv true s).2.2→(pv true t).2.2=((t.length - (l'[i]).2:Nat):Int))∧
   ((∀(i:Nat) (hi:i < l.length),((s.length - (l[i]).2:Nat):Int)≠(pv true s).2.2)→(pv true s).2.2=s.length∧(pv true t).2.2=t.length)):=by
 have hlen:l'.length=l.length:=by have:=congrArg List.length hl;simpa using this
 have hR:=ZgU true s.length (offs s.length l)
 have ha:=ZjI h1 hR
 have hb:=ZjI h2 (ZrG h1 h2 hl hR)
 generalize Zqa true s.length (offs s.length l)=R at hR ha hb
 generalize hφ:mv s.length t.length l l'=φ at hb
 have hat:∀(i:Nat) (hi:i < l.length) (hi':i < l'.length),φ ((s.length - (l[i]).2:Nat):Int)=((t.length - (l'[i]).2:Nat):Int):=fun i hi hi'=>by
  rw [← hφ];exact Zye (ZhE h1) (fun t ht=>(Zgs h1 t ht).2) hlen i hi
 have hend:φ (s.length:Int)=t.length:=by rw [← hφ];exact Zu6 (Zgs h1)
 have key:∀a:Int,(a=s.length∨∃u∈offs s.length l,u.2=a)→(∀(i:Nat) (hi:i < l.length) (hi':i < l'.length),((s.length - (l[i]).2:Nat):Int)=a→φ a=((t.length - (l'[i]).2:Nat):Int))∧
   ((∀(i:Nat) (hi:i < l.length),((s.length - (l[i]).2:Nat):Int)≠a)→a=s.length∧φ a=t.length):=fun a h=>by
  refine ⟨fun i hi hi' e=>by rw [← e];exact hat i hi hi',fun hno=>?_⟩
  rcases h with rfl | ⟨u,hu,rfl⟩
  ·exact ⟨rfl,hend⟩
  ·obtain ⟨v,hv,rfl⟩:=List.mem_map.1 hu
   obtain ⟨i,hi,rfl⟩:=List.mem_iff_getElem.1 hv
   exact absurd rfl (hno i hi)
 cases R with
 | out=>exact absurd rfl hR.1
 | err a=>
  rw [ha,hb]
  exact ⟨rfl,rfl,fun _=>key a hR.place⟩
 | ok c r=>
  have e1:ZjG (.ok c r)=match deeps 40 1 c with
   | some a=>(Zfm,10,a)
   | none=>(root c,0,0):=by rw [ZjG,Zeg] <;> rfl
  have e2:ZjG (rmap φ (List.map (nmap φ)) (.ok c r))=match deeps 40 1 c with
   | some a=>(Zfm,10,φ a)
   | none=>(root (c.map (nmap φ)),0,0):=by
   simp only [rmap,ZjG,Zeg,Zkg]
   cases deeps 40 1 c <;> rfl
  rw [ha,hb,e1,e2]
  cases hd:deeps 40 1 c with
  | none=>
   refine ⟨rfl,?_,fun h=>absurd rfl h⟩
   simp only [root]
   rw [strip,strip,Zfp,Zfp,List.map_map]
   congr 1
   exact (List.map_congr_left fun x _=>ZkE φ x).symm
  | some a=>
   refine ⟨rfl,rfl,fun _=>key a ?_⟩
   have:=ZmL 40 1 a c hd
   obtain ⟨x,hx,h⟩:=this
   exact hR.places x hx a h
theorem Zsi {dec:Nat→Bs} (hd:ZsS dec) (s rest:Bs) {l:List (Tk × Nat)} (h1:scan s=.ok l) (h2:(pv true s).2.1=2) {w:Bs} (i:Nat) (hi:i < l.length) (hw:L7.written dec (l[i]).1=some w) (hp:((s.length - (l[i]).2:Nat):Int)=(pv true s).2.2) {m:List (Tk × Nat)} (hm:scan rest=.ok m) :
  ∃m',scan (s.take (s.length - (l[i]).2)++(w++10::rest))=.ok m'∧(pv true (s.take (s.length - (l[i]).2)++(w++10::rest))).2=(2,(pv true s).2.2):=by
 obtain ⟨k1,k2⟩:=ZoH hd rest i l s h1 hi hw
 rw [hm] at k2
 simp only at k2
 refine ⟨_,k2,?_⟩
 have hR:=ZgU true s.length (offs s.length l)
 have ha:=ZjI h1 hR
 generalize Zqa true s.length (offs s.length l)=R at hR ha
 obtain rfl:R=.err ((s.length - (l[i]).2:Nat):Int):=by
  rw [ha] at h2 hp
  cases R with
  | out=>exact absurd rfl hR.1
  | err a=>rw [hp];rfl
  | ok c r=>
   rw [ZjG,Zeg] at h2
   cases hd:deeps 40 1 c <;> rw [hd] at h2 <;> cases h2
 generalize hT:s.take (s.length - (l[i]).2)++(w++10::rest)=T at k2 ⊢
 have hTl:T.length=(s.length - (l[i]).2) + (w.length + 1 + rest.length):=by rw [← hT];simp;omega
 have hsplit:offs s.length l=offs s.length (l.take i)++((l[i]).1,((s.length - (l[i]).2:Nat):Int))::offs s.length (l.drop (i + 1)):=by
  unfold offs
  conv=>lhs;rw [← List.take_append_drop i l,List.drop_eq_getElem_cons hi]
  rw [List.map_append,List.map_cons]
 have hnew:offs T.length ((l.take (i + 1)).map (fun t=>(t.1,t.2 + (w.length + 1 + rest.length) - (l[i]).2))++m)=offs s.length (l.take i)++((l[i]).1,((s.length - (l[i]).2:Nat):Int))::offs T.length m:=by
  unfold offs
  rw [List.take_succ_eq_append_getElem hi,List.map_append,List.map_append,List.map_append,List.map_map,List.append_assoc]
  congr 1
  ·refine List.map_congr_left fun t ht=>?_
   have hle:=(Zgs h1 t (List.mem_of_mem_take ht)).2
   have hge:(l[i]).2 < t.2:=by
    obtain ⟨j,hj,rfl⟩:=List.mem_iff_getElem.1 ht
    rw [List.getElem_take]
    rw [List.length_take] at hj
    exact ZhE h1 j i (by omega) hi (by omega)
   simp only [Function.comp]
   rw [hTl,show (s.length - (l[i]).2) + (w.length + 1 + rest.length) - (t.2 + (w.length + 1 + rest.length) - (l[i]).2)=s.length - t.2 by omega]
  ·simp only [List.map_cons,List.map_nil,List.singleton_append]
   congr 2
   rw [hTl,show (s.length - (l[i]).2) + (w.length + 1 + rest.length) - ((l[i]).2 + (w.length + 1 + rest.length) - (l[i]).2)=s.length - (l[i]).2 by omega]
 have hF:File true T.length (offs T.length ((l.take (i + 1)).map (fun t=>(t.1,t.2 + (w.length + 1 + rest.length) - (l[i]).2))++m)) (.err ((s.length - (l[i]).2:Nat):Int)):=by
  rw [hnew]
  rw [hsplit] at hR
  refine File.early (e:=(s.length:Int)) (r:=offs s.length (l.drop (i + 1))) ⟨?_,fun u hu=>?_⟩ hR
  ·have:=(Zgs h1 _ (List.getElem_mem hi)).1
   simp only;omega
  ·obtain ⟨v,hv,rfl⟩:=List.mem_map.1 hu
   obtain ⟨j,hj,rfl⟩:=List.mem_iff_getElem.1 hv
   rw [List.getElem_drop]
   rw [List.length_drop] at hj
   have h3:=ZhE h1 i (i + 1 + j) hi (by omega) (by omega)
   have h4:=(Zgs h1 _ (List.getElem_mem hi)).2
   simp only;omega
 rw [ZjI k2 hF,ha]
 rfl
end Go.Proofs.YtaheffiglmglbaaGreatDoor.S8
namespace Go.Proofs.YtaheffiglmglbaaGreatDoor
open Go.Proofs.Tryz
open L7
theorem Zxm {L:List Tk} {xs:List Bs} (h:forms dec L=some xs):wrt L=join xs:=by unfold wrt;rw [h]
end Go.Proofs.YtaheffiglmglbaaGreatDoor
namespace Go.Proofs.YtaheffiglmglbaaGreatDoor.S8
open Go.Proofs.Tryz
open L7
theorem ZlK {t:Tk} (h:okT t=true):∃x,L7.written dec t=some x:=by
 rw [Zmf,← Zey] at h
 exact Option.isSome_iff_exists.1 h
theorem Zkn:∀c:List Nd,Zg1 (ideal .part) c=if c.all (fun x=>ZcE x && wf x)=true then some (c.map raw) else none
 | []=>rfl
 | x::c=>by
  rw [Zg1,Zkn c]
  by_cases h:ZcE x=true∧wf x=true
  ·rw [show ideal .part x=some (raw x) from if_pos h]
   simp only [List.all_cons,h.1,h.2,Bool.and_self,Bool.true_and]
   split <;> simp_all
  ·rw [show ideal .part x=none from if_neg h]
   have:¬ ((x::c).all (fun x=>ZcE x && wf x)=true):=fun h2=>by
    rw [List.all_cons,Bool.and_eq_true,Bool.and_eq_true] at h2
    exact h h2.1
   rw [if_neg this]
theorem Zht (x:Nd):writO x=if x.k=1∧x.t=[]∧x.n=0∧depth x≤40∧∀y∈x.c,ZhJ true y=true∧wf y=true then some (x.c.map raw).flatten else none:=by
 obtain ⟨k,t,n,a,c⟩:=x
 show _=if k=1∧t=[]∧n=0∧depth (.mk k t n a c)≤40∧∀y∈c,ZhJ true y=true∧wf y=true then some (c.map raw).flatten else none
 have hall:(c.all (fun x=>ZcE x && wf x)=true)↔∀y∈c,ZhJ true y=true∧wf y=true:=by
  rw [List.all_eq_true]
  exact ⟨fun h y hy=>by have:=h y hy;rw [Bool.and_eq_true] at this;exact this,fun h y hy=>by rw [Bool.and_eq_true];exact h y hy⟩
 have hf:fileW (.mk k t n a c)=if k=1∧t=[]∧n=0∧∀y∈c,ZhJ true y=true∧wf y=true then some (c.map raw).flatten else none:=by
  show (if k=1 then run (do let l ← rest;put (Zi8 (ideal .part) l)) (.mk k t n a c) else none)=_
  by_cases hk:k=1
  ·rw [if_pos hk]
   show (match (do (do let l ← rest;put (Zi8 (ideal .part) l));shut:Wm Unit) ⟨t,n,c⟩ with
    | none=>none
    | some (_,_,l)=>some l)=_
   have:(do (do let l ← rest;put (Zi8 (ideal .part) l));shut:Wm Unit) ⟨t,n,c⟩=match Zi8 (ideal .part) c with
    | none=>none
    | some l=>if t=[]∧n=0 then some ((),⟨t,n,[]⟩,l) else none:=by
    rw [wb,wb]
    rw [show rest ⟨t,n,c⟩=some (c,⟨t,n,[]⟩,[]) from rfl]
    simp only
    cases Zi8 (ideal .part) c with
    | none=>rfl
    | some l=>
     rw [show put (some l) ⟨t,n,[]⟩=some ((),⟨t,n,[]⟩,l) from rfl]
     simp only
     by_cases h:t=[]∧n=0
     ·rw [if_pos h,show shut ⟨t,n,[]⟩=some ((),⟨t,n,[]⟩,[]) from if_pos ⟨h.1,h.2,rfl⟩];simp
     ·rw [if_neg h,show shut ⟨t,n,[]⟩=none from if_neg fun h2=>h ⟨h2.1,h2.2.1⟩]
   rw [this,Zi8,Zkn]
   by_cases h:∀y∈c,ZhJ true y=true∧wf y=true
   ·rw [if_pos (hall.2 h)]
    simp only [Option.map_some]
    by_cases h2:t=[]∧n=0
    ·rw [if_pos h2,if_pos ⟨hk,h2.1,h2.2,h⟩]
    ·rw [if_neg h2,if_neg fun h3=>h2 ⟨h3.2.1,h3.2.2.1⟩]
   ·rw [if_neg fun h3=>h (hall.1 h3),if_neg fun h3=>h h3.2.2.2]
    rfl
  ·rw [if_neg hk,if_neg fun h=>hk h.1]
 unfold writO
 rw [hf]
 by_cases hd:deep 40 0 (.mk k t n a c)=none
 ·rw [if_pos hd]
  have hd:=(ZfB 40 _ 0).1 hd
  by_cases h:k=1∧t=[]∧n=0∧∀y∈c,ZhJ true y=true∧wf y=true
  ·rw [if_pos h,if_pos ⟨h.1,h.2.1,h.2.2.1,by omega,h.2.2.2⟩]
  ·rw [if_neg h,if_neg fun h2=>h ⟨h2.1,h2.2.1,h2.2.2.1,h2.2.2.2.2⟩]
 ·rw [if_neg hd,if_neg fun h2=>hd ((ZfB 40 _ 0).2 (by omega))]
end Go.Proofs.YtaheffiglmglbaaGreatDoor.S8
