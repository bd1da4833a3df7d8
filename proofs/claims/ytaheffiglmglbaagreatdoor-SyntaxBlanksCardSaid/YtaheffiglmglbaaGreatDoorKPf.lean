import Derived.Test.YtaheffiglmglbaaGreatDoorKPe
/- SynG, SynH, SynI. -/
set_option maxHeartbeats 8000000
set_option maxRecDepth 20000
namespace Go.Proofs.YtaheffiglmglbaaGreatDoor.S8
open L7
def okK (k:Int):Bool:=[1,5,6,7,9,10,11,12,20,24,25,26,29,35,52,56,70,73,74].contains k
structure Fm where
 t:Bs
 n:Int
 c:List Nd
def Wm (α:Type):Type:=Fm→Option (α × Fm × List Tk)
namespace Wm
def ret {α:Type} (x:α):Wm α:=fun f=>some (x,f,[])
def bind {α β:Type} (p:Wm α) (g:α→Wm β):Wm β:=fun f=>match p f with
 | none=>none
 | some (x,f',l)=>match g x f' with
  | none=>none
  | some (y,f'',l')=>some (y,f'',l++l')
end Wm
instance:Monad Wm where
 pure:=Wm.ret
 bind:=Wm.bind
theorem wb {α β:Type} (p:Wm α) (g:α→Wm β) (f:Fm):(p >>= g) f=match p f with
 | none=>none
 | some (x,f',l)=>match g x f' with
  | none=>none
  | some (y,f'',l')=>some (y,f'',l++l'):=rfl
theorem wp {α:Type} (x:α) (f:Fm):(pure x:Wm α) f=some (x,f,[]):=rfl
def no {α:Type} : Wm α:=fun _=>none
def tk (x:Tk):Wm Unit:=fun f=>some ((),f,[x])
def ZjQ (x:Tk):Wm Unit:=fun f=>if okT x=true then some ((),f,[x]) else none
def req (b:Bool):Wm Unit:=fun f=>if b=true then some ((),f,[]) else none
def text:Wm Bs:=fun f=>some (f.t,⟨[],f.n,f.c⟩,[])
def num:Wm Int:=fun f=>some (f.n,⟨f.t,0,f.c⟩,[])
def look:Wm Fm:=fun f=>some (f,f,[])
def Zdr:Wm Nd:=fun f=>match f.c with
 | []=>none
 | x::c=>some (x,⟨f.t,f.n,c⟩,[])
def rest:Wm (List Nd):=fun f=>some (f.c,⟨f.t,f.n,[]⟩,[])
def lead (k:Int):List Nd→Nat
 | []=>0
 | x::l=>if x.k=k then lead k l + 1 else 0
def front (k:Int):Wm (List Nd):=fun f=>some (f.c.take (lead k f.c),⟨f.t,f.n,f.c.drop (lead k f.c)⟩,[])
def Zko:Wm (List Nd):=fun f=>match f.c with
 | []=>none
 | x::c=>some (((x::c).dropLast,⟨f.t,f.n,(x::c).drop c.length⟩,[]))
def ZaZ (p:Bs→Bool):Wm Unit:=fun f=>if p f.t=true then some ((),⟨[],f.n,f.c⟩,[nm f.t]) else none
def shut:Wm Unit:=fun f=>if f.t=[]∧f.n=0∧f.c=[] then some ((),f,[]) else none
def put (o:Option (List Tk)):Wm Unit:=fun f=>match o with
 | none=>none
 | some l=>some ((),f,l)
def run (p:Wm Unit) (x:Nd):Option (List Tk):=match (do p;shut) ⟨x.t,x.n,x.c⟩ with
 | none=>none
 | some (_,_,l)=>some l
def beg (k:Int) (p:Wm Unit) (x:Nd):Option (List Tk):=if x.k=k then run p x else none
def Zg1 (q:Nd→Option (List Tk)):List Nd→Option (List (List Tk))
 | []=>some []
 | x::l=>match q x with
  | none=>none
  | some r=>match Zg1 q l with
   | none=>none
   | some rs=>some (r::rs)
def ZdH (o:Bs) (q:Nd→Option (List Tk)) (l:List Nd) (s:Bs):Option (List Tk):=(Zg1 q l).map fun rs=>inB o rs s
def ZqW (o:Bs) (q:Nd→Option (List Tk)) (l:List Nd) (s:Bs):Option (List Tk):=if l=[] then none else ZdH o q l s
def Zqu (o:Bs) (q:Nd→Option (List Tk)) (l:List Nd) (s:Bs):Option (List Tk):=if l=[] then some [] else ZdH o q l s
def Zi8 (q:Nd→Option (List Tk)) (l:List Nd):Option (List Tk):=(Zg1 q l).map fun rs=>rs.flatten
inductive Kd | part | ctor | member | field | typ | expr | arm | set | block | stmt | sarm | bind
abbrev GW:=Kd→Nd→Option (List Tk)
section
variable (G:GW)
def ZcP:Wm Unit:=do let l ← front 7;put (ZdH mLp (G .field) l mRp)
def ZvY:Wm Unit:=do ZcP G;tk (mkt ZfH);let x ← Zdr;put (G .typ x)
def ZwL:Wm Unit:=do ZvY G;tk (mkt mEq);let x ← Zdr;put (G .expr x)
def Zqs:Wm Unit:=do ZaZ ZbF;tk (mkt mEq);let x ← Zdr;put (G .expr x)
def ZmA (x:Nd):Wm Unit:=put (ZdH mLp (G .expr) [x] mRp)
def Zix (x:Nd) (v:Nat):Wm Unit:=if tight x < v then ZmA G x else put (G .expr x)
def Zjd:Wm Unit:=do
 let n ← num
 if n=0 then pure () else if n = -1 then tk (nm ZbU) else do
  tk (nm Zcl)
  ZjQ (int (n - 1))
def Zkp:Wm Unit:=do
 tk (nm ZbV)
 ZaZ Zcf
 ZcP G
 Zjd
 tk (mkt mLb)
 let l ← rest
 put (Zi8 (G .member) l)
 tk (mkt mRb)
def Zyg (t:Bs):Bool:=Zcf t || t == ZhX
def Zm8 (t:Bs):Bool:=basic t || Zcf t
def Zki:Wm Unit:=do
 tk (nm Za2)
 tk (nm ZfI)
 ZaZ Zcf
 let n ← num
 if n=0 then pure () else if n=1 then do
  tk (mkt ZdG)
  let x ← Zdr
  put (beg 24 (ZaZ Zcf) x)
 else no
 ZcP G
 tk (mkt mEq)
 let x ← Zdr
 put (G .expr x)
def ZyG:Wm Unit:=do
 tk (nm Za2)
 tk (nm ZeZ)
 ZaZ Zcf
 tk (mkt ZdG)
 let x ← Zdr
 put (beg 24 (ZaZ Zyg) x)
 ZcP G
 tk (mkt mEq)
 let y ← Zdr
 put (beg 75 (do ZaZ Zyg;let l ← rest;put (ZdH mLp (G .expr) l mRp)) y)
def Zcq (k:Int):Wm Unit:=
 if k=70 then Zki G
 else if k=71 then do
  tk (nm Za2);tk (nm ZbV);ZaZ Zcf;ZcP G;let l ← rest;put (ZdH mLb (G .set) l mRb)
 else if k=72 then ZyG G
 else if k=73 then do
  tk (nm Zeo);ZaZ Zcf;tk (nm wTo);let n ← num;ZjQ (int n)
 else if k=74 then do
  tk (nm Zez);ZaZ Zcf
 else no
def Zei (k:Int):Wm Unit:=
 if k=2 then do
  tk (nm Zcg);ZaZ Zcf;let l ← rest;put (ZdH mLb (G .field) l mRb)
 else if k=3 then do
  tk (nm ZbS);ZaZ Zcf;let l ← rest;put (ZqW mLb (G .ctor) l mRb)
 else if k=4 then do
  tk (nm Zct);ZaZ ZbF;ZvY G
 else if k=5 then do
  tk (nm Zd7);ZaZ ZbF;ZwL G
 else if k=6 then Zkp G
 else Zcq G k
def Zoc:Wm Unit:=do ZaZ Zcf;let l ← rest;put (Zqu mLp (G .typ) l mRp)
def ZcZ (k:Int):Wm Unit:=
 if k=9 then do
  tk (nm Zec);ZaZ ZbF;tk (mkt ZfH);let x ← Zdr;put (G .typ x);tk (mkt mEq);let y ← Zdr;put (G .expr y)
 else if k=10 then do
  tk (nm wOn);ZaZ Zcf;ZcP G;let x ← Zdr;put (G .block x)
 else no
def ZhN:Wm Unit:=do ZaZ ZbF;tk (mkt ZfH);let x ← Zdr;put (G .typ x)
def Zm7 (k:Int):Wm Unit:=
 if k=12 then ZaZ Zm8
 else if k=13 then do
  tk (mkt mLk);let x ← Zdr;put (G .typ x);tk (mkt mRk)
 else if k=14 then do
  tk (nm Zm5);ZaZ Zcf
 else if k=15 then do
  tk (nm Zd7);let l ← Zko;put (ZdH mLp (G .typ) l mRp);tk (mkt ZfH);let x ← Zdr;put (G .typ x)
 else no
def ZyI:Wm Unit:=do
 let w ← text
 req (level w != 0)
 let x ← Zdr
 Zix G x (if level w=4 then 5 else level w)
 tk (if level w≤2 then nm w else mkt w)
 let y ← Zdr
 Zix G y (level w + 1)
def Zy9:Wm Unit:=do
 let x ← Zdr
 Zix G x (if x.k=29∧x.c.length=0 then 11 else 9)
 let l ← rest
 put (ZdH mLp (G .expr) l mRp)
def Zdk (k:Int):Wm Unit:=
 if k=20 then do let n ← num;ZjQ (int n)
 else if k=21 then do let t ← text;ZjQ (str t)
 else if k=22 then do
  let n ← num
  if n=0 then tk (nm Zdy) else if n=1 then tk (nm ZfJ) else no
 else if k=23 then put (ZdH mLp (G .expr) [] mRp)
 else if k=24 then ZaZ ZbF
 else if k=25 then tk (nm ZeX)
 else if k=26 then do let l ← rest;put (ZdH mLk (G .expr) l mRk)
 else if k=27 then do ZaZ Zcf;let l ← rest;put (ZdH mLb (G .set) l mRb)
 else if k=29 then do ZaZ Zcf;let l ← rest;put (Zqu mLp (G .expr) l mRp)
 else no
def Zdo (k:Int):Wm Unit:=
 if k=37 then do
  tk (nm Zfl);Zqs G;tk (nm wIn);let x ← Zdr;put (G .expr x)
 else if k=36 then do
  tk (nm wIf);let x ← Zdr;put (G .expr x);tk (nm Zit);let y ← Zdr;put (G .expr y);tk (nm Zfo);let z ← Zdr;put (G .expr z)
 else if k=38 then do
  tk (nm ZbR);let x ← Zdr;ZmA G x;let l ← rest;put (ZqW mLb (G .arm) l mRb)
 else if k=41 then do
  tk (nm Zd7);ZwL G
 else if k=35 then ZyI G
 else if k=34 then do
  tk (nm ZhW);let x ← Zdr;Zix G x 3
 else if k=33 then do
  tk (mkt Zcr);let x ← Zdr;Zix G x 8
 else if k=32 then Zy9 G
 else if k=30 then do
  let x ← Zdr;Zix G x 9;tk (mkt ZdG);ZaZ ZbF
 else if k=31 then do
  let x ← Zdr;Zix G x 9;tk (nm Zda);let l ← rest;put (ZqW mLb (G .set) l mRb)
 else Zdk G k
def Zxl:Wm Unit:=do
 let f ← look
 if f.t=ZdF then do
  let t ← text
  tk (mkt t)
 else do
  ZaZ Zcf
  let l ← front 40
  put (Zqu mLp (G .bind) l mRp)
def Zxd:Wm Unit:=do Zxl G;tk (mkt Zjg);let x ← Zdr;put (G .expr x)
def Znp:Wm Unit:=do Zxl G;let x ← Zdr;put (G .block x)
def Zoj:Wm Unit:=do
 let f ← look
 if f.t=ZdF then do
  let t ← text
  tk (mkt t)
 else ZaZ ZbF
def ZhT:Wm Unit:=do tk (mkt mLb);let l ← rest;put (Zi8 (G .stmt) l);tk (mkt mRb)
def Znn:Wm Unit:=do
 tk (nm Zd0);let x ← Zdr;put (G .expr x);ZaZ Zcf;let l ← rest;put (ZdH mLp (G .expr) l mRp)
def Zzf:Wm Unit:=do
 let f ← look
 if f.t=ZdF then do
  let _ ← text
  pure ()
 else do
  tk (nm Zfl)
  ZaZ ZbF
  tk (mkt mEq)
def ZxE:Wm Unit:=do
 let b ← Zdr
 put (beg 40 Zzf b)
 tk (nm Zce)
 ZaZ Zcf
 let n ← num
 if n=0 then do
  let l ← rest
  put (ZdH mLp (G .expr) l mRp)
 else if n=1 then do
  let l ← Zko
  put (ZdH mLp (G .expr) l mRp)
  tk (nm wOn)
  let x ← Zdr
  put (G .expr x)
 else no
def doW:Wm Unit:=do
 tk (nm wDo)
 ZaZ ZbF
 let l ← Zko
 put (ZdH mLp (G .expr) l mRp)
 tk (nm Zit)
 let x ← Zdr
 put (beg 75 (ZaZ Zcf) x)
def ifW:Wm Unit:=do
 tk (nm wIf)
 let x ← Zdr
 ZmA G x
 let y ← Zdr
 put (G .block y)
 let f ← look
 if 0 < f.c.length then do
  tk (nm Zfo)
  let z ← Zdr
  put (G .block z)
 else pure ()
def Zdi (k:Int):Wm Unit:=
 if k=50 then do
  tk (nm Zfl);Zqs G
 else if k=51 then Zqs G
 else if k=52 then ifW G
 else if k=53 then do
  tk (nm ZbR);let x ← Zdr;ZmA G x;tk (mkt mLb);let l ← rest;req !l.isEmpty;put (Zi8 (G .sarm) l);tk (mkt mRb)
 else if k=55 then do
  tk (nm Zkt);ZaZ ZbF;tk (nm wIn);let x ← Zdr;ZmA G x;let y ← Zdr;put (G .block y)
 else if k=56 then Znn G
 else if k=57 then do
  tk (nm ZdS);let x ← Zdr;put (G .expr x);let y ← Zdr;put (beg 56 (Znn G) y)
 else if k=58 then ZxE G
 else if k=59 then doW G
 else if k=60 then tk (nm Zg4)
 else if k=61 then do
  tk (nm Zg9);let x ← Zdr;put (G .expr x)
 else no
def ZfF (K:Kd) (x:Nd):Option (List Tk):=match K with
 | .part=>run (Zei G x.k) x
 | .ctor=>beg 8 (Zoc G) x
 | .member=>run (ZcZ G x.k) x
 | .field=>beg 7 (ZhN G) x
 | .typ=>run (Zm7 G x.k) x
 | .expr=>run (Zdo G x.k) x
 | .arm=>beg 39 (Zxd G) x
 | .set=>beg 28 (Zqs G) x
 | .block=>beg 11 (ZhT G) x
 | .stmt=>run (Zdi G x.k) x
 | .sarm=>beg 54 (Znp G) x
 | .bind=>beg 40 Zoj x
end
def wrt:Nat→GW
 | 0=>fun _ _=>none
 | N + 1=>ZfF (wrt N)
def ZdJ:Kd→Nd→Bool
 | .part=>ZcE
 | .ctor=>isK 8
 | .member=>ZgT
 | .field=>isK 7
 | .typ=>Zm1
 | .expr=>ZeW
 | .arm=>isK 39
 | .set=>isK 28
 | .block=>isK 11
 | .stmt=>Zjr
 | .sarm=>isK 54
 | .bind=>isK 40
def ideal:GW:=fun K x=>if ZdJ K x=true∧wf x=true then some (raw x) else none
open L7
def Ok (K:Kd) (x:Nd):Prop:=ZdJ K x=true∧wf x=true
theorem ZlH {α β:Type} {p:Wm α} {g:α→Wm β} {f f2:Fm} {y:β} {l:List Tk} : (p >>= g) f=some (y,f2,l)↔∃x f1 l1 l2,p f=some (x,f1,l1)∧g x f1=some (y,f2,l2)∧l=l1++l2:=by
 rw [wb]
 cases hp:p f with
 | none=>simp
 | some r=>
  obtain ⟨x,f1,l1⟩:=r
  simp only [Option.some.injEq,Prod.mk.injEq]
  cases hg:g x f1 with
  | none=>
   constructor
   ·intro h;cases h
   ·rintro ⟨x',f1',l1',l2,⟨rfl,rfl,rfl⟩,h2,-⟩;rw [hg] at h2;cases h2
  | some r2=>
   obtain ⟨y',f2',l2'⟩:=r2
   constructor
   ·intro h;simp only [Option.some.injEq,Prod.mk.injEq] at h;obtain ⟨rfl,rfl,rfl⟩:=h;exact ⟨x,f1,l1,l2',⟨rfl,rfl,rfl⟩,hg,rfl⟩
   ·rintro ⟨x',f1',l1',l2,⟨rfl,rfl,rfl⟩,h2,rfl⟩;rw [hg] at h2;simp only [Option.some.injEq,Prod.mk.injEq] at h2;obtain ⟨rfl,rfl,rfl⟩:=h2;rfl
section
variable {f f':Fm} {u:Unit} {l:List Tk}
theorem ZuR {α:Type} {x y:α} : (pure x:Wm α) f=some (y,f',l)↔y=x∧f'=f∧l=[]:=by
 rw [wp];simp only [Option.some.injEq,Prod.mk.injEq];constructor <;> rintro ⟨rfl,rfl,rfl⟩ <;> exact ⟨rfl,rfl,rfl⟩
theorem ZlC {α:Type} {y:α} : (no:Wm α) f=some (y,f',l)↔False:=by simp [no]
theorem ZlB {x:Tk} : tk x f=some (u,f',l)↔f'=f∧l=[x]:=by
 unfold tk;simp only [Option.some.injEq,Prod.mk.injEq,true_and];constructor <;> rintro ⟨rfl,rfl⟩ <;> exact ⟨rfl,rfl⟩
theorem ZdP {x:Tk} : ZjQ x f=some (u,f',l)↔okT x=true∧f'=f∧l=[x]:=by
 unfold ZjQ
 split
 ·rename_i h;simp only [h,Option.some.injEq,Prod.mk.injEq,true_and];constructor <;> rintro ⟨rfl,rfl⟩ <;> exact ⟨rfl,rfl⟩
 ·rename_i h;simp [h]
theorem Zxo {y:Nd} : Zdr f=some (y,f',l)↔∃c,f.c=y::c∧f'=⟨f.t,f.n,c⟩∧l=[]:=by
 unfold Zdr
 cases f.c with
 | nil=>simp
 | cons x c=>
  simp only [Option.some.injEq,Prod.mk.injEq,List.cons.injEq]
  constructor
  ·rintro ⟨rfl,rfl,rfl⟩;exact ⟨c,⟨rfl,rfl⟩,rfl,rfl⟩
  ·rintro ⟨c,⟨rfl,rfl⟩,rfl,rfl⟩;exact ⟨rfl,rfl,rfl⟩
theorem Zxp {y:List Nd} : Zko f=some (y,f',l)↔∃x,f.c=y++[x]∧f'=⟨f.t,f.n,[x]⟩∧l=[]:=by
 unfold Zko
 cases h:f.c with
 | nil=>simp
 | cons a c=>
  obtain ⟨r,x,e⟩:∃r x,a::c=r++[x]:=⟨_,_,(List.dropLast_concat_getLast (List.cons_ne_nil a c)).symm⟩
  have hd:(a::c).drop c.length=[x]:=by
   have:c.length=r.length:=by have:=congrArg List.length e;simp at this;exact this
   rw [e,this];simp
  have hl:(a::c).dropLast=r:=by rw [e];simp
  simp only [hd,hl,Option.some.injEq,Prod.mk.injEq]
  rw [e]
  constructor
  ·rintro ⟨rfl,rfl,rfl⟩;exact ⟨x,rfl,rfl,rfl⟩
  ·rintro ⟨x',h1,rfl,rfl⟩
   obtain ⟨rfl,h2⟩:=List.append_inj' h1 rfl
   simp at h2;subst h2;exact ⟨rfl,rfl,rfl⟩
theorem Zb4 {p:Bs→Bool} : ZaZ p f=some (u,f',l)↔p f.t=true∧f'=⟨[],f.n,f.c⟩∧l=[nm f.t]:=by
 unfold ZaZ
 split
 ·rename_i h;simp only [h,Option.some.injEq,Prod.mk.injEq,true_and];constructor <;> rintro ⟨rfl,rfl⟩ <;> exact ⟨rfl,rfl⟩
 ·rename_i h;simp [h]
theorem Zxn:shut f=some (u,f',l)↔f.t=[]∧f.n=0∧f.c=[]∧f'=f∧l=[]:=by
 unfold shut
 split
 ·rename_i h;simp only [h,Option.some.injEq,Prod.mk.injEq,true_and];constructor <;> rintro ⟨rfl,rfl⟩ <;> exact ⟨rfl,rfl⟩
 ·rename_i h;simp only [reduceCtorEq,false_iff];rintro ⟨h1,h2,h3,-⟩;exact h ⟨h1,h2,h3⟩
theorem Zfn {o:Option (List Tk)} : put o f=some (u,f',l)↔o=some l∧f'=f:=by
 unfold put
 cases o with
 | none=>simp
 | some r=>simp only [Option.some.injEq,Prod.mk.injEq,true_and];constructor <;> rintro ⟨rfl,rfl⟩ <;> exact ⟨rfl,rfl⟩
end
theorem Zbf {K:Kd} {x:Nd} {l:List Tk} : ideal K x=some l↔Ok K x∧l=raw x:=by
 unfold ideal Ok
 split
 ·rename_i h;simp only [h,Option.some.injEq,true_and];exact eq_comm
 ·rename_i h
  constructor
  ·intro h;cases h
  ·rintro ⟨h1,-⟩;exact absurd h1 h
theorem Zpu {K:Kd} : ∀{c:List Nd} {l:List (List Tk)},Zg1 (ideal K) c=some l↔(∀x∈c,Ok K x)∧l=raws c
 | [],l=>by simp [Zg1,raws,eq_comm]
 | x::c,l=>by
  rw [Zg1]
  cases hx:ideal K x with
  | none=>
   constructor
   ·intro h;cases h
   ·rintro ⟨h,-⟩;rw [Zbf.2 ⟨h x (by simp),rfl⟩] at hx;cases hx
  | some r=>
   obtain ⟨h1,rfl⟩:=Zbf.1 hx
   cases hc:Zg1 (ideal K) c with
   | none=>
    constructor
    ·intro h;cases h
    ·rintro ⟨h,-⟩;rw [Zpu.2 ⟨fun y hy=>h y (by simp [hy]),rfl⟩] at hc;cases hc
   | some rs=>
    obtain ⟨h2,rfl⟩:=Zpu.1 hc
    simp only [Option.some.injEq,raws]
    constructor
    ·rintro rfl;exact ⟨fun y hy=>(List.mem_cons.1 hy).elim (fun e=>e▸h1) (h2 y),rfl⟩
    ·rintro ⟨-,rfl⟩;rfl
theorem Zdc {K:Kd} {o s:Bs} {c:List Nd} {l:List Tk} : ZdH o (ideal K) c s=some l↔(∀x∈c,Ok K x)∧l=inB o (raws c) s:=by
 unfold ZdH
 rw [Option.map_eq_some_iff]
 constructor
 ·rintro ⟨rs,h,rfl⟩;obtain ⟨h1,rfl⟩:=Zpu.1 h;exact ⟨h1,rfl⟩
 ·rintro ⟨h,rfl⟩;exact ⟨_,Zpu.2 ⟨h,rfl⟩,rfl⟩
theorem Zf5 {K:Kd} {c:List Nd} {l:List Tk} : Zi8 (ideal K) c=some l↔(∀x∈c,Ok K x)∧l=(raws c).flatten:=by
 unfold Zi8
 rw [Option.map_eq_some_iff]
 constructor
 ·rintro ⟨rs,h,rfl⟩;obtain ⟨h1,rfl⟩:=Zpu.1 h;exact ⟨h1,rfl⟩
 ·rintro ⟨h,rfl⟩;exact ⟨_,Zpu.2 ⟨h,rfl⟩,rfl⟩
theorem ZdQ {K:Kd} {o s:Bs} {c:List Nd} {l:List Tk} : ZqW o (ideal K) c s=some l↔c≠[]∧(∀x∈c,Ok K x)∧l=inB o (raws c) s:=by
 unfold ZqW
 split
 ·rename_i h;simp [h]
 ·rename_i h;rw [Zdc];simp [h]
theorem Ztz {c:List Nd} : raws c=[]↔c=[]:=by cases c <;> simp [raws]
theorem Zf6 {K:Kd} {o s:Bs} {c:List Nd} {l:List Tk} : Zqu o (ideal K) c s=some l↔(∀x∈c,Ok K x)∧l=if raws c=[] then [] else inB o (raws c) s:=by
 unfold Zqu
 split
 ·rename_i h;subst h;simp [raws,eq_comm]
 ·rename_i h;rw [Zdc,if_neg (fun k=>h (Ztz.1 k))]
theorem Zgi {p:Wm Unit} {x:Nd} {l:List Tk} : run p x=some l↔p ⟨x.t,x.n,x.c⟩=some ((),⟨[],0,[]⟩,l):=by
 unfold run
 have h:∀r,((do p;shut) ⟨x.t,x.n,x.c⟩=some r)↔r.2.1=⟨[],0,[]⟩∧p ⟨x.t,x.n,x.c⟩=some ((),⟨[],0,[]⟩,r.2.2):=by
  rintro ⟨u,⟨t,n,c⟩,r⟩
  simp only [ZlH,Zxn]
  constructor
  ·rintro ⟨v,⟨t1,n1,c1⟩,l1,l2,h1,⟨rfl,rfl,rfl,h2,rfl⟩,rfl⟩
   refine ⟨h2,?_⟩
   rw [List.append_nil];exact h1
  ·rintro ⟨h1,h2⟩
   exact ⟨(),_,r,[],h2,⟨rfl,rfl,rfl,h1,rfl⟩,(List.append_nil _).symm⟩
 cases hr:(do p;shut) ⟨x.t,x.n,x.c⟩ with
 | none=>
  simp only [reduceCtorEq,false_iff]
  intro k
  have:=(h ((),⟨[],0,[]⟩,l)).2 ⟨rfl,k⟩
  rw [hr] at this;cases this
 | some r=>
  obtain ⟨h1,h2⟩:=(h r).1 hr
  obtain ⟨u,f,r⟩:=r
  simp only [Option.some.injEq]
  rw [h2]
  simp
theorem Zvj {k:Int} {p:Wm Unit} {x:Nd} {l:List Tk} : beg k p x=some l↔x.k=k∧p ⟨x.t,x.n,x.c⟩=some ((),⟨[],0,[]⟩,l):=by
 unfold beg
 split
 ·rename_i h;rw [Zgi];simp [h]
 ·rename_i h;simp [h]
theorem Zxj {α:Type} {b:Prop} [Decidable b] {p q:Wm α} {f:Fm} {r:α × Fm × List Tk} : (if b then p else q) f=some r↔(b∧p f=some r)∨(¬ b∧q f=some r):=by split <;> simp [*]
theorem ZaP {α β γ:Type} (p:Wm α) (g:α→Wm β) (h:β→Wm γ):(p >>= g) >>= h=p >>= fun x=>g x >>= h:=by
 funext f
 rw [wb,wb,wb]
 cases p f with
 | none=>rfl
 | some r=>
  obtain ⟨x,f1,l1⟩:=r
  simp only [wb]
  cases g x f1 with
  | none=>rfl
  | some r=>
   obtain ⟨y,f2,l2⟩:=r
   simp only
   cases h y f2 with
   | none=>rfl
   | some r=>simp [List.append_assoc]
section
variable {β:Type} {f2:Fm} {t:Bs} {n:Int} {c:List Nd} {y:β} {l:List Tk}
theorem ZyR {α:Type} {p:Wm α} {g:α→Wm β} {f f1:Fm} {x:α} {l1:List Tk} (h:p f=some (x,f1,l1)):(p >>= g) f=some (y,f2,l)↔∃l2,l=l1++l2∧g x f1=some (y,f2,l2):=by
 rw [ZlH]
 constructor
 ·rintro ⟨x',f1',l1',l2,h1,h2,rfl⟩;rw [h] at h1;simp only [Option.some.injEq,Prod.mk.injEq] at h1;obtain ⟨rfl,rfl,rfl⟩:=h1;exact ⟨l2,rfl,h2⟩
 ·rintro ⟨l2,rfl,h2⟩;exact ⟨x,f1,l1,l2,h,h2,rfl⟩
theorem Zqr {α:Type} {p:Wm α} {g:α→Wm β} {f f1:Fm} {x:α} (h:p f=some (x,f1,[])):(p >>= g) f=some (y,f2,l)↔g x f1=some (y,f2,l):=by
 rw [ZyR h]
 constructor
 ·rintro ⟨l2,rfl,h2⟩;exact h2
 ·intro h2;exact ⟨l,rfl,h2⟩
theorem ZsN {α:Type} {p:Wm α} {g:α→Wm β} {f:Fm} (h:p f=none):(p >>= g) f=some (y,f2,l)↔False:=by
 rw [wb,h];simp
theorem ZdO {α:Type} {x:α} {g:α→Wm β} : (pure x >>= g)=g x:=by
 funext f;rw [wb,wp];simp only
 cases g x f with
 | none=>rfl
 | some r=>rfl
theorem ZlE {x:Tk} {g:Unit→Wm β} {f:Fm} : (tk x >>= g) f=some (y,f2,l)↔∃l2,l=x::l2∧g () f=some (y,f2,l2):=
 ZyR (l1:=[x]) (x:=()) (f1:=f) rfl
theorem ZdW {x:Tk} {g:Unit→Wm β} {f:Fm} : (ZjQ x >>= g) f=some (y,f2,l)↔okT x=true∧∃l2,l=x::l2∧g () f=some (y,f2,l2):=by
 by_cases h:okT x=true
 ·rw [ZyR (p:=ZjQ x) (f:=f) (x:=()) (f1:=f) (l1:=[x]) (by unfold ZjQ;rw [if_pos h])];simp only [h,true_and];rfl
 ·rw [ZsN (p:=ZjQ x) (by unfold ZjQ;rw [if_neg h])];simp only [h,false_and,Bool.false_eq_true]
theorem Zga {b:Bool} {g:Unit→Wm β} {f:Fm} : (req b >>= g) f=some (y,f2,l)↔b=true∧g () f=some (y,f2,l):=by
 by_cases h:b=true
 ·rw [Zqr (p:=req b) (f:=f) (x:=()) (f1:=f) (by unfold req;rw [if_pos h])];simp only [h,true_and]
 ·rw [ZsN (p:=req b) (by unfold req;rw [if_neg h])];simp only [h,false_and,Bool.false_eq_true]
theorem Zcd {p:Bs→Bool} {g:Unit→Wm β} : (ZaZ p >>= g) ⟨t,n,c⟩=some (y,f2,l)↔p t=true∧∃l2,l=nm t::l2∧g () ⟨[],n,c⟩=some (y,f2,l2):=by
 by_cases h:p t=true
 ·rw [ZyR (p:=ZaZ p) (x:=()) (f1:=⟨[],n,c⟩) (l1:=[nm t]) (by unfold ZaZ;rw [if_pos h])];simp only [h,true_and];rfl
 ·rw [ZsN (p:=ZaZ p) (by unfold ZaZ;rw [if_neg h])];simp only [h,false_and,Bool.false_eq_true]
theorem ZdX {g:Bs→Wm β} : (text >>= g) ⟨t,n,c⟩=some (y,f2,l)↔g t ⟨[],n,c⟩=some (y,f2,l):=Zqr rfl
theorem ZdZ {g:Fm→Wm β} {f:Fm} : (look >>= g) f=some (y,f2,l)↔g f f=some (y,f2,l):=Zqr rfl
theorem Zgc {g:Int→Wm β} : (num >>= g) ⟨t,n,c⟩=some (y,f2,l)↔g n ⟨t,0,c⟩=some (y,f2,l):=Zqr rfl
theorem Zgd {g:Nd→Wm β} : (Zdr >>= g) ⟨t,n,c⟩=some (y,f2,l)↔∃x c',c=x::c'∧g x ⟨t,n,c'⟩=some (y,f2,l):=by
 rw [ZlH]
 constructor
 ·rintro ⟨x,f1,l1,l2,h1,h2,rfl⟩;obtain ⟨c',h3,rfl,rfl⟩:=Zxo.1 h1;exact ⟨x,c',h3,h2⟩
 ·rintro ⟨x,c',rfl,h⟩;exact ⟨x,_,[],l,Zxo.2 ⟨c',rfl,rfl,rfl⟩,h,rfl⟩
theorem ZdY {g:List Nd→Wm β} : (rest >>= g) ⟨t,n,c⟩=some (y,f2,l)↔g c ⟨t,n,[]⟩=some (y,f2,l):=Zqr rfl
theorem ZcQ {k:Int} {g:List Nd→Wm β} : (front k >>= g) ⟨t,n,c⟩=some (y,f2,l)↔g (c.take (lead k c)) ⟨t,n,c.drop (lead k c)⟩=some (y,f2,l):=Zqr rfl
theorem Zge {g:List Nd→Wm β} : (Zko >>= g) ⟨t,n,c⟩=some (y,f2,l)↔∃r x,c=r++[x]∧g r ⟨t,n,[x]⟩=some (y,f2,l):=by
 rw [ZlH]
 constructor
 ·rintro ⟨x,f1,l1,l2,h1,h2,rfl⟩;obtain ⟨z,h3,rfl,rfl⟩:=Zxp.1 h1;exact ⟨x,z,h3,h2⟩
 ·rintro ⟨r,x,rfl,h⟩;exact ⟨r,_,[],l,Zxp.2 ⟨x,rfl,rfl,rfl⟩,h,rfl⟩
theorem Zgb {o:Option (List Tk)} {g:Unit→Wm β} {f:Fm} : (put o >>= g) f=some (y,f2,l)↔∃l1,o=some l1∧∃l2,l=l1++l2∧g () f=some (y,f2,l2):=by
 rw [ZlH]
 constructor
 ·rintro ⟨x,f1,l1,l2,h1,h2,rfl⟩;obtain ⟨h3,rfl⟩:=Zfn.1 h1;exact ⟨l1,h3,l2,rfl,h2⟩
 ·rintro ⟨l1,rfl,l2,rfl,h⟩;exact ⟨(),f,l1,l2,Zfn.2 ⟨rfl,rfl⟩,h,rfl⟩
end
theorem Zkm {α:Type} {b:Prop} [Decidable b] {p q:Wm α} {γ:Type} {g:α→Wm γ} : ((if b then p else q) >>= g)=if b then p >>= g else q >>= g:=by split <;> rfl
theorem ZgE {α γ:Type} {g:α→Wm γ} : ((no:Wm α) >>= g)=no:=rfl
theorem Zjk {k:Int} : ∀c:List Nd,∀x∈c.take (lead k c),x.k=k
 | [],x,h=>by simp at h
 | y::c,x,h=>by
  unfold lead at h
  split at h
  ·rename_i hk
   simp only [List.take_succ_cons,List.mem_cons] at h
   rcases h with rfl | h
   ·exact hk
   ·exact Zjk c x h
  ·simp at h
theorem Zuh {k:Int} {l m:List Nd} (hl:∀x∈l,x.k=k) (hm:∀x,m.head?=some x→x.k≠k):lead k (l++m)=l.length:=by
 induction l with
 | nil=>
  cases m with
  | nil=>rfl
  | cons x m=>show lead k (x::m)=0;unfold lead;rw [if_neg (hm x rfl)]
 | cons y l ih=>
  show lead k (y::(l++m))=_
  unfold lead
  rw [if_pos (hl y (by simp)),ih (fun x hx=>hl x (by simp [hx]))];rfl
theorem Ze9:∀c:List Nd,lead 7 c=nfields c
 | []=>rfl
 | x::c=>by unfold lead nfields;rw [Ze9 c]
open L7
theorem Zf7 {K:Kd} {k n a:Int} {t:Bs} {c:List Nd} : Ok K (.mk k t n a c)↔ZdJ K (.mk k t n a c)=true∧shape k t n c=true∧∀x∈c,wf x=true:=by
 unfold Ok
 rw [ZcD,Zbe,Bool.and_eq_true,List.all_eq_true]
theorem ZbQ {p q:Nd→Bool} {c:List Nd} : ends1 p q c=true↔∃r x,c=r++[x]∧(∀y∈r,p y=true)∧q x=true:=by
 constructor
 ·intro h
  obtain ⟨r,x,h1,h2,h3⟩:=ZmK h
  exact ⟨r,x,h1,List.all_eq_true.1 h3,h2⟩
 ·rintro ⟨r,x,rfl,h1,h2⟩
  unfold ends1
  simp [h2];exact h1
theorem ZbP {p q s:Nd→Bool} {c:List Nd} : ends2 p q s c=true↔∃r x y,c=r++[x,y]∧(∀y∈r,p y=true)∧q x=true∧s y=true:=by
 constructor
 ·intro h
  obtain ⟨r,x,y,h1,h2,h3,h4⟩:=ZmJ h
  exact ⟨r,x,y,h1,List.all_eq_true.1 h4,h2,h3⟩
 ·rintro ⟨r,x,y,rfl,h1,h2,h3⟩
  unfold ends2
  simp [h2,h3];exact h1
theorem Za4 {q:Nd→Bool} {c:List Nd} : ends1 (fun _=>false) q c=true↔∃x,c=[x]∧q x=true:=
 ⟨Zsh,by rintro ⟨x,rfl,h⟩;simp [ends1,h]⟩
theorem Za3 {q s:Nd→Bool} {c:List Nd} : ends2 (fun _=>false) q s c=true↔∃x y,c=[x,y]∧q x=true∧s y=true:=
 ⟨Zsg,by rintro ⟨x,y,rfl,h1,h2⟩;simp [ends2,h1,h2]⟩
theorem Zby {q p:Nd→Bool} {c:List Nd} : heads1 q p c=true↔∃x r,c=x::r∧q x=true∧∀y∈r,p y=true:=by
 constructor
 ·intro h
  obtain ⟨x,r,h1,h2,h3⟩:=Zp5 h
  exact ⟨x,r,h1,h2,List.all_eq_true.1 h3⟩
 ·rintro ⟨x,r,rfl,h1,h2⟩
  unfold heads1
  simp [h1];exact h2
theorem ZhQ {k:Int} {c m:List Nd} (h:c.drop (lead k c)=m):∃l,c=l++m∧c.take (lead k c)=l∧∀x∈l,x.k=k:=
 ⟨c.take (lead k c),by rw [← h,List.take_append_drop],rfl,Zjk c⟩
theorem ZcB (j k n a:Int) (t:Bs) (c:List Nd):isK j (.mk k t n a c)=(k == j):=rfl
def Zr5 (x:Nd):Option (List Tk):=ZdH mLp (ideal .expr) [x] mRp
def ZkZ (x:Nd) (v:Nat):Option (List Tk):=if tight x < v then Zr5 x else ideal .expr x
theorem Zb8 (x:Nd):ZmA ideal x=put (Zr5 x):=rfl
theorem Zb6 (x:Nd) (v:Nat):Zix ideal x v=put (ZkZ x v):=by
 unfold Zix ZkZ;split <;> rfl
theorem Zdx {x:Nd} {l:List Tk} : Zr5 x=some l↔Ok .expr x∧l=paren (raw x):=by
 unfold Zr5
 rw [Zdc]
 simp [raws,inB,commas,paren]
theorem ZdR {x:Nd} {v:Nat} {l:List Tk} : ZkZ x v=some l↔Ok .expr x∧l=operand x (raw x) v:=by
 unfold ZkZ operand
 split
 ·rw [Zdx]
 ·rw [Zbf]
theorem okI (n:Int):okT (int n)=true↔0≤n∧n≤ZeY:=by
 unfold okT int ZeY;simp
theorem ZlD (t:Bs):okT (str t)=true↔t.length≤4096:=by
 unfold okT str;simp
theorem ZdU {K:Kd} {c:List Nd} : (∀x∈c,Ok K x)↔(∀x∈c,ZdJ K x=true)∧∀x∈c,wf x=true:=
 ⟨fun h=>⟨fun x hx=>(h x hx).1,fun x hx=>(h x hx).2⟩,fun h x hx=>⟨h.1 x hx,h.2 x hx⟩⟩
theorem ZwH {x:Nd} (h:Zm1 x=true) (k:Int) (hk:k < 12∨15 < k):x.k≠k:=by
 unfold Zm1 at h;rw [Bool.and_eq_true,decide_eq_true_eq,decide_eq_true_eq] at h;omega
theorem Zr4 {x:Nd} (h:ZeW x=true) (k:Int) (hk:k < 20∨k=28∨k=39∨k=40):x.k≠k:=by
 unfold ZeW at h
 simp only [Bool.and_eq_true,Bool.or_eq_true,decide_eq_true_eq,beq_iff_eq,bne_iff_ne,ne_eq] at h
 omega
theorem len3 {c:List Nd} : c.length=3↔∃x y z,c=[x,y,z]:=by
 constructor
 ·intro h
  match c,h with
  | [x,y,z],_=>exact ⟨x,y,z,rfl⟩
 ·rintro ⟨x,y,z,rfl⟩;rfl
theorem len2 {c:List Nd} : c.length=2↔∃x y,c=[x,y]:=by
 constructor
 ·intro h
  match c,h with
  | [x,y],_=>exact ⟨x,y,rfl⟩
 ·rintro ⟨x,y,rfl⟩;rfl
theorem ZbD {t:Bs} (h:Zcf t=true) (rs:List (List Tk)):bound t rs=nm t::if rs=[] then [] else inB mLp rs mRp:=by
 unfold bound
 rw [if_neg]
 rintro rfl
 revert h;decide
theorem Zb7 (l:List Nd):(1≤l.length) = ¬ l=[]:=by cases l <;> simp
theorem Zba (x:Nd):operand x (raw x) (if x.k=29∧x.c.length=0 then 11 else 9)=if x.k=29∧x.c.length=0 then paren (raw x) else operand x (raw x) 9:=by
 split
 ·unfold operand;rw [if_pos (by have:=Ztc x;omega)]
 ·rfl
theorem Zf3 (r:List Nd):r.map raw=raws r:=(ZeB r).symm
theorem Zvf {j:Int} {x:Nd} {l:List Tk} (hj:j=24∨j=75):beg j (ZaZ Zcf) x=some l↔(isK j x && Zcf x.t && x.c.isEmpty)=true∧wf x=true∧l=[nm x.t]:=by
 obtain ⟨k,t,n,a,c⟩:=x
 rw [Zvj]
 simp only [Zb4,Zf9,Zeq,Zeu,Zew,Fm.mk.injEq,ZcB,Bool.and_eq_true,beq_iff_eq,List.isEmpty_iff,ZcD,Zbe,List.all_eq_true]
 constructor
 ·rintro ⟨rfl,h1,⟨-,rfl,rfl⟩,rfl⟩
  rcases hj with rfl | rfl <;> simp [shape,h1]
 ·rintro ⟨⟨⟨rfl,h1⟩,rfl⟩,⟨h2,-⟩,rfl⟩
  rcases hj with rfl | rfl
  ·simp [shape] at h2;exact ⟨rfl,h1,⟨trivial,h2.2.symm,rfl⟩,rfl⟩
  ·simp [shape] at h2;exact ⟨rfl,h1,⟨trivial,h2.2.symm,rfl⟩,rfl⟩
theorem ZiB {r m:List Nd} {k:Int} (hr:∀x∈r,isK k x=true) (hm:∀x,m.head?=some x→x.k≠k):(r++m).take (lead k (r++m))=r∧(r++m).drop (lead k (r++m))=m:=by
 rw [Zuh (fun x hx=>beq_iff_eq.1 (hr x hx)) hm];simp
theorem Zug {k:Int} (c:List Nd):∀x∈c.take (lead k c),isK k x=true:=fun x hx=>beq_iff_eq.2 (Zjk c x hx)
theorem Zop {r m:List Nd} (h:∀x∈r++m,wf x=true):(∀x∈r,wf x=true)∧∀x∈m,wf x=true:=⟨fun x hx=>h x (by simp [hx]),fun x hx=>h x (by simp [hx])⟩
theorem ZmY {r m:List Nd} (h:∀x∈r,wf x=true) (k:∀x∈m,wf x=true):∀x∈r++m,wf x=true:=fun x hx=>(List.mem_append.1 hx).elim (h x) (k x)
theorem wf1 {x:Nd} (h:wf x=true):∀y∈[x],wf y=true:=by simpa using h
theorem wf2 {x y:Nd} (h:wf x=true) (k:wf y=true):∀z∈[x,y],wf z=true:=by simp [h,k]
theorem lev2 {t:Bs} (h:¬ level t=0):(if level t≤2 then nm t else mkt t)=if level t=1∨level t=2 then nm t else mkt t:=by
 have e:(level t≤2)=(level t=1∨level t=2):=by
  apply propext;omega
 simp only [e]
theorem wf24 {x:Nd} (hk:isK 24 x=true) (h:wf x=true):x.c=[]:=by
 obtain ⟨k,t,n,a,c⟩:=x
 obtain rfl:k=24:=beq_iff_eq.1 hk
 rw [ZcD,Bool.and_eq_true] at h
 simp [shape] at h
 exact h.1.2
theorem Zzv (t:Bs) (n a:Int) (c:List Nd):ZfF ideal .typ (.mk 12 t n a c)=ideal .typ (.mk 12 t n a c):=by
 apply Option.ext;intro l;rw [Zbf,Zf7]
 show run (Zm7 ideal 12) (.mk 12 t n a c)=some l↔_
 rw [Zgi]
 simp (decide:=true) only [Zm7,if_true,if_false,Zb4,ZxU,and_assoc,Fm.mk.injEq,true_and,Zeq,Zeu,Zew,Zm8]
 simp (decide:=true) only [shape,if_true,if_false,Bool.and_eq_true,Bool.or_eq_true,beq_iff_eq,ZdJ,ZaW,and_assoc,true_and,List.isEmpty_iff]
 try simp (decide:=true) only [ZbQ,ZbP,and_assoc]
 constructor
 ·intro h
  repeat (obtain ⟨_,h⟩:=h)
  subst_vars
  simp_all []
 ·rintro ⟨h1,rfl,rfl,h2,rfl⟩
  simp_all []
theorem k_7 (t:Bs) (n a:Int) (c:List Nd):ZfF ideal .field (.mk 7 t n a c)=ideal .field (.mk 7 t n a c):=by
 apply Option.ext;intro l;rw [Zbf,Zf7]
 show beg 7 (ZhN ideal) (.mk 7 t n a c)=some l↔_
 rw [Zvj]
 simp (decide:=true) only [ZhN,Zf9,ZlE,Zcd,Zgd,Zfn,Zbf,ZyX,and_assoc,Fm.mk.injEq,true_and,Zeq,Zeu,Zew]
 simp (decide:=true) only [shape,if_true,if_false,Bool.and_eq_true,beq_iff_eq,Za4,ZdJ,ZcB,and_assoc,true_and]
 try simp (decide:=true) only [ZbQ,ZbP,and_assoc]
 constructor
 ·intro h
  repeat (obtain ⟨_,h⟩:=h)
  subst_vars
  simp_all [Ok,ZdJ,raws,part]
 ·rintro ⟨h1,rfl,⟨x,rfl,h2⟩,h3,rfl⟩
  simp_all [Ok,ZdJ,raws,part,and_assoc]
theorem k_9 (t:Bs) (n a:Int) (c:List Nd):ZfF ideal .member (.mk 9 t n a c)=ideal .member (.mk 9 t n a c):=by
 apply Option.ext;intro l;rw [Zbf,Zf7]
 show run (ZcZ ideal 9) (.mk 9 t n a c)=some l↔_
 rw [Zgi]
 simp (decide:=true) only [ZcZ,if_true,if_false,ZlE,Zcd,Zgd,Zgb,Zfn,Zbf,ZyW,and_assoc,exists_and_left,exists_eq_left,Fm.mk.injEq,true_and,Zeq,Zeu,Zew]
 simp (decide:=true) only [shape,if_true,if_false,Bool.and_eq_true,Bool.or_eq_true,beq_iff_eq,Za3,ZdJ,Zar,and_assoc,true_and]
 try simp (decide:=true) only [ZbQ,ZbP,and_assoc]
 constructor
 ·intro h
  repeat (obtain ⟨_,h⟩:=h)
  subst_vars
  simp_all [Ok,ZdJ,raws,part,and_assoc]
 ·rintro ⟨h1,rfl,⟨x,y,rfl,h2,h3⟩,h4,rfl⟩
  simp_all [Ok,ZdJ,raws,part,and_assoc]
theorem Zzs (t:Bs) (n a:Int) (c:List Nd):ZfF ideal .expr (.mk 25 t n a c)=ideal .expr (.mk 25 t n a c):=by
 apply Option.ext;intro l;rw [Zbf,Zf7]
 show run (Zdo ideal 25) (.mk 25 t n a c)=some l↔_
 rw [Zgi]
 simp (decide:=true) only [Zdo,Zdk,if_true,if_false,Zb8,Zb6,ZlB,ZxR,and_assoc,Fm.mk.injEq,Zeq,Zeu,Zew]
 simp (decide:=true) only [shape,if_true,if_false,Bool.and_eq_true,Bool.or_eq_true,beq_iff_eq,ZdJ,ZaX,and_assoc,true_and,List.isEmpty_iff,true_or]
 try simp (decide:=true) only [ZbQ,ZbP,and_assoc]
 constructor
 ·intro h
  repeat (obtain ⟨_,h⟩:=h)
  subst_vars
  simp_all []
 ·rintro ⟨rfl,rfl,rfl,h2,rfl⟩
  simp_all []
theorem Zzt (t:Bs) (n a:Int) (c:List Nd):ZfF ideal .expr (.mk 24 t n a c)=ideal .expr (.mk 24 t n a c):=by
 apply Option.ext;intro l;rw [Zbf,Zf7]
 show run (Zdo ideal 24) (.mk 24 t n a c)=some l↔_
 rw [Zgi]
 simp (decide:=true) only [Zdo,Zdk,if_true,if_false,Zb8,Zb6,Zb4,ZxS,and_assoc,Fm.mk.injEq,true_and,Zeq,Zeu,Zew]
 simp (decide:=true) only [shape,if_true,if_false,Bool.and_eq_true,Bool.or_eq_true,beq_iff_eq,ZdJ,ZaX,and_assoc,true_and,List.isEmpty_iff,false_or]
 try simp (decide:=true) only [ZbQ,ZbP,and_assoc]
 constructor
 ·intro h
  repeat (obtain ⟨_,h⟩:=h)
  subst_vars
  simp_all []
 ·rintro ⟨h1,h0,rfl,rfl,h2,rfl⟩
  simp_all []
theorem Zzu (t:Bs) (n a:Int) (c:List Nd):ZfF ideal .expr (.mk 20 t n a c)=ideal .expr (.mk 20 t n a c):=by
 apply Option.ext;intro l;rw [Zbf,Zf7]
 show run (Zdo ideal 20) (.mk 20 t n a c)=some l↔_
 rw [Zgi]
 simp (decide:=true) only [Zdo,Zdk,if_true,if_false,Zb8,Zb6,Zgc,ZdP,okI,ZxT,and_assoc,Fm.mk.injEq,true_and,Zeq,Zeu,Zew]
 simp (decide:=true) only [shape,if_true,if_false,Bool.and_eq_true,Bool.or_eq_true,beq_iff_eq,ZdJ,ZaX,and_assoc,true_and,List.isEmpty_iff,decide_eq_true_eq,true_or]
 try simp (decide:=true) only [ZbQ,ZbP,and_assoc]
 constructor
 ·intro h
  repeat (obtain ⟨_,h⟩:=h)
  subst_vars
  simp_all []
 ·rintro ⟨rfl,h2,h3,rfl,h4,rfl⟩
  simp_all []
theorem Zzw (t:Bs) (n a:Int) (c:List Nd):ZfF ideal .block (.mk 11 t n a c)=ideal .block (.mk 11 t n a c):=by
 apply Option.ext;intro l;rw [Zbf,Zf7]
 show beg 11 (ZhT ideal) (.mk 11 t n a c)=some l↔_
 rw [Zvj]
 simp (decide:=true) only [ZhT,Zf9,ZlE,ZdY,Zgb,Zf5,ZlB,ZdU,ZxV,and_assoc,exists_and_left,exists_eq_left,Fm.mk.injEq,true_and,Zeq,Zeu,Zew,Zju]
 simp (decide:=true) only [shape,if_true,if_false,Bool.and_eq_true,beq_iff_eq,ZdJ,ZcB,and_assoc,true_and,List.all_eq_true]
 try simp (decide:=true) only [ZbQ,ZbP,and_assoc]
 constructor
 ·intro h
  repeat (obtain ⟨_,h⟩:=h)
  subst_vars
  simp_all []
 ·rintro ⟨rfl,rfl,h2,h3,rfl⟩
  simp_all []
theorem Zzr (t:Bs) (n a:Int) (c:List Nd):ZfF ideal .expr (.mk 26 t n a c)=ideal .expr (.mk 26 t n a c):=by
 apply Option.ext;intro l;rw [Zbf,Zf7]
 show run (Zdo ideal 26) (.mk 26 t n a c)=some l↔_
 rw [Zgi]
 simp (decide:=true) only [Zdo,Zdk,if_true,if_false,Zb8,Zb6,ZdY,Zfn,Zdc,ZdU,ZxQ,and_assoc,Fm.mk.injEq,Zeq,Zeu,Zew]
 simp (decide:=true) only [shape,if_true,if_false,Bool.and_eq_true,Bool.or_eq_true,beq_iff_eq,ZdJ,ZaX,and_assoc,true_and,List.all_eq_true,true_or]
 try simp (decide:=true) only [ZbQ,ZbP,and_assoc]
 constructor
 ·intro h
  repeat (obtain ⟨_,h⟩:=h)
  subst_vars
  simp_all []
 ·rintro ⟨rfl,rfl,h2,h3,rfl⟩
  simp_all []
theorem Zzq (t:Bs) (n a:Int) (c:List Nd):ZfF ideal .expr (.mk 29 t n a c)=ideal .expr (.mk 29 t n a c):=by
 apply Option.ext;intro l;rw [Zbf,Zf7]
 show run (Zdo ideal 29) (.mk 29 t n a c)=some l↔_
 rw [Zgi]
 simp (decide:=true) only [Zdo,Zdk,if_true,if_false,Zb8,Zb6,Zcd,ZdY,Zfn,Zf6,ZdU,ZxP,and_assoc,Fm.mk.injEq,true_and,Zeq,Zeu,Zew]
 simp (decide:=true) only [shape,if_true,if_false,Bool.and_eq_true,Bool.or_eq_true,beq_iff_eq,ZdJ,ZaX,and_assoc,true_and,List.all_eq_true,true_or]
 try simp (decide:=true) only [ZbQ,ZbP,and_assoc]
 constructor
 ·intro h
  repeat (obtain ⟨_,h⟩:=h)
  subst_vars
  simp_all [ZbD]
 ·rintro ⟨h1,rfl,h2,h3,rfl⟩
  simp_all [ZbD]
theorem Zzl (t:Bs) (n a:Int) (c:List Nd):ZfF ideal .part (.mk 73 t n a c)=ideal .part (.mk 73 t n a c):=by
 apply Option.ext;intro l;rw [Zbf,Zf7]
 show run (Zei ideal 73) (.mk 73 t n a c)=some l↔_
 rw [Zgi]
 simp (decide:=true) only [Zei,Zcq,if_true,if_false,ZlE,Zcd,Zgc,ZdP,okI,ZxK,and_assoc,Fm.mk.injEq,true_and,Zeq,Zeu,Zew]
 simp (decide:=true) only [shape,if_true,if_false,Bool.and_eq_true,Bool.or_eq_true,ZdJ,Zaq,and_assoc,true_and,List.isEmpty_iff,decide_eq_true_eq]
 try simp (decide:=true) only [ZbQ,ZbP,and_assoc]
 constructor
 ·intro h
  repeat (obtain ⟨_,h⟩:=h)
  subst_vars
  simp_all []
 ·rintro ⟨h1,h2,h3,rfl,h4,rfl⟩
  simp_all []
theorem Zzk (t:Bs) (n a:Int) (c:List Nd):ZfF ideal .part (.mk 74 t n a c)=ideal .part (.mk 74 t n a c):=by
 apply Option.ext;intro l;rw [Zbf,Zf7]
 show run (Zei ideal 74) (.mk 74 t n a c)=some l↔_
 rw [Zgi]
 simp (decide:=true) only [Zei,Zcq,if_true,if_false,ZlE,Zb4,ZxJ,and_assoc,Fm.mk.injEq,true_and,Zeq,Zeu,Zew]
 simp (decide:=true) only [shape,if_true,if_false,Bool.and_eq_true,Bool.or_eq_true,beq_iff_eq,ZdJ,Zaq,and_assoc,true_and,List.isEmpty_iff]
 try simp (decide:=true) only [ZbQ,ZbP,and_assoc]
 constructor
 ·intro h
  repeat (obtain ⟨_,h⟩:=h)
  subst_vars
  simp_all []
 ·rintro ⟨h1,rfl,rfl,h4,rfl⟩
  simp_all []
theorem Zzn (t:Bs) (n a:Int) (c:List Nd):ZfF ideal .stmt (.mk 56 t n a c)=ideal .stmt (.mk 56 t n a c):=by
 apply Option.ext;intro l;rw [Zbf,Zf7]
 show run (Zdi ideal 56) (.mk 56 t n a c)=some l↔_
 rw [Zgi]
 simp (decide:=true) only [Zdi,Znn,if_true,if_false,Zb8,ZlE,Zcd,Zgd,ZdY,Zgb,Zfn,Zdc,Zbf,ZdU,ZxM,and_assoc,exists_and_left,exists_eq_left,Fm.mk.injEq,true_and,Zeq,Zeu,Zew]
 simp (decide:=true) only [shape,if_true,if_false,Bool.and_eq_true,beq_iff_eq,Zby,ZdJ,ZaA,and_assoc,true_and]
 try simp (decide:=true) only [ZbQ,ZbP,and_assoc]
 constructor
 ·intro h
  repeat (obtain ⟨_,h⟩:=h)
  subst_vars
  simp_all [Ok,ZdJ,raws,part,and_assoc]
 ·rintro ⟨h0,rfl,⟨x,r,rfl,h1,h2⟩,h3,rfl⟩
  simp_all [Ok,ZdJ,raws,part,and_assoc]
theorem Zzx (t:Bs) (n a:Int) (c:List Nd):ZfF ideal .member (.mk 10 t n a c)=ideal .member (.mk 10 t n a c):=by
 apply Option.ext;intro l;rw [Zbf,Zf7]
 show run (ZcZ ideal 10) (.mk 10 t n a c)=some l↔_
 rw [Zgi]
 simp (decide:=true) only [ZcZ,ZcP,if_true,if_false,ZaP,ZlE,Zcd,Zgd,ZcQ,Zgb,Zfn,Zdc,Zbf,ZdU,ZxW,and_assoc,exists_and_left,exists_eq_left,Fm.mk.injEq,true_and,Zeq,Zeu,Zew]
 simp (decide:=true) only [shape,if_true,if_false,Bool.and_eq_true,Bool.or_eq_true,beq_iff_eq,ZdJ,Zar,and_assoc,true_and]
 try simp (decide:=true) only [ZbQ]
 constructor
 ·intro h
  obtain ⟨l2,rfl,h1,l3,rfl,h2,h3,l4,rfl,x,c',hd,⟨h5,h6⟩,rfl,rfl,rfl⟩:=h
  obtain ⟨r,rfl,e,hr⟩:=ZhQ hd
  rw [e] at h2 h3
  refine ⟨h1,rfl,⟨r,x,rfl,h2,h5⟩,ZmY h3 (wf1 h6),?_⟩
  rw [Ztf,Zj1,Zf3,e]
 ·rintro ⟨h1,rfl,⟨r,x,rfl,h2,h3⟩,h4,rfl⟩
  obtain ⟨e1,e2⟩:=ZiB h2 (m:=[x]) (by simp;exact (by have:=beq_iff_eq.1 h3;omega))
  rw [Ztf,Zj1,Zf3,e1,e2]
  obtain ⟨h4,h5⟩:=Zop h4
  have h5:=h5 x (by simp)
  exact ⟨_,rfl,h1,_,rfl,h2,h4,_,rfl,x,[],rfl,⟨h3,h5⟩,rfl,rfl,rfl⟩
theorem k_5 (t:Bs) (n a:Int) (c:List Nd):ZfF ideal .part (.mk 5 t n a c)=ideal .part (.mk 5 t n a c):=by
 apply Option.ext;intro l;rw [Zbf,Zf7]
 show run (Zei ideal 5) (.mk 5 t n a c)=some l↔_
 rw [Zgi]
 simp (decide:=true) only [Zei,ZwL,ZvY,ZcP,if_true,if_false,ZaP,ZlE,Zcd,Zgd,ZcQ,Zgb,Zfn,Zdc,Zbf,ZdU,ZyZ,and_assoc,exists_and_left,exists_eq_left,Fm.mk.injEq,true_and,Zeq,Zeu,Zew]
 simp (decide:=true) only [shape,if_true,if_false,Bool.and_eq_true,Bool.or_eq_true,beq_iff_eq,ZdJ,Zaq,and_assoc,true_and]
 try simp (decide:=true) only [ZbP]
 constructor
 ·intro h
  obtain ⟨l2,rfl,h1,l3,rfl,h2,h3,l4,rfl,l5,rfl,x,c',hd,⟨h5,h6⟩,l6,rfl,l7,rfl,y,c2,rfl,⟨h7,h8⟩,rfl,rfl,rfl⟩:=h
  obtain ⟨r,rfl,e,hr⟩:=ZhQ hd
  rw [e] at h2 h3
  refine ⟨h1,rfl,⟨r,x,y,rfl,h2,h5,h7⟩,ZmY h3 (wf2 h6 h8),?_⟩
  rw [Zxz,Zu3,Zu2,Zf3,e]
 ·rintro ⟨h1,rfl,⟨r,x,y,rfl,h2,h3,h5⟩,h4,rfl⟩
  obtain ⟨e1,e2⟩:=ZiB h2 (m:=[x,y]) (by simp;exact ZwH h3 7 (by omega))
  rw [Zxz,Zu3,Zu2,Zf3,e1,e2]
  obtain ⟨h4,h7⟩:=Zop h4
  have h6:=h7 x (by simp)
  have h7:=h7 y (by simp)
  exact ⟨_,rfl,h1,_,rfl,h2,h4,_,rfl,_,rfl,x,[y],rfl,⟨h3,h6⟩,_,rfl,_,rfl,y,[],rfl,⟨h5,h7⟩,rfl,rfl,rfl⟩
theorem Zzp (t:Bs) (n a:Int) (c:List Nd):ZfF ideal .expr (.mk 35 t n a c)=ideal .expr (.mk 35 t n a c):=by
 apply Option.ext;intro l;rw [Zbf,Zf7]
 show run (Zdo ideal 35) (.mk 35 t n a c)=some l↔_
 rw [Zgi]
 simp (decide:=true) only [Zdo,ZyI,if_true,if_false,Zb8,Zb6,ZdR,ZlE,Zga,ZdX,Zgd,Zgb,Zfn,ZxO,and_assoc,exists_and_left,exists_eq_left,Fm.mk.injEq,true_and,Zeq,Zeu,Zew]
 simp (decide:=true) only [shape,if_true,if_false,Bool.and_eq_true,Bool.or_eq_true,beq_iff_eq,Za3,ZdJ,ZaX,and_assoc,true_and,true_or,bne_iff_ne,ne_eq]
 try simp (decide:=true) only [ZbQ,ZbP,and_assoc]
 constructor
 ·intro h
  obtain ⟨h1,x,c',rfl,⟨h2,h3⟩,l2,rfl,l3,rfl,y,c2,rfl,⟨h4,h5⟩,rfl,rfl,rfl⟩:=h
  refine ⟨h1,rfl,⟨x,y,rfl,h2,h4⟩,wf2 h3 h5,?_⟩
  rw [Zyo,Zyp,part2a,part2b,lev2 h1]
 ·rintro ⟨h1,rfl,⟨x,y,rfl,h2,h3⟩,h4,rfl⟩
  rw [Zyo,Zyp,part2a,part2b,lev2 h1]
  exact ⟨h1,x,[y],rfl,⟨h2,h4 x (by simp)⟩,_,rfl,_,rfl,y,[],rfl,⟨h3,h4 y (by simp)⟩,rfl,rfl,rfl⟩
theorem Zzo (t:Bs) (n a:Int) (c:List Nd):ZfF ideal .stmt (.mk 52 t n a c)=ideal .stmt (.mk 52 t n a c):=by
 apply Option.ext;intro l;rw [Zbf,Zf7]
 show run (Zdi ideal 52) (.mk 52 t n a c)=some l↔_
 rw [Zgi]
 simp (decide:=true) only [Zdi,ifW,if_true,if_false,ZdZ,Zb8,Zdx,ZlE,Zgd,Zgb,Zfn,Zbf,ZxN,and_assoc,exists_and_left,exists_eq_left,Fm.mk.injEq,true_and,Zeq,Zeu,Zew,Zxj,ZuR]
 simp (decide:=true) only [shape,if_true,if_false,Bool.and_eq_true,Bool.or_eq_true,beq_iff_eq,Zby,len3,len2,ZdJ,ZaA,and_assoc,true_and]
 try simp (decide:=true) only [ZbQ,ZbP,and_assoc]
 constructor
 ·intro h
  obtain ⟨l2,rfl,x,c',rfl,⟨h1,h2⟩,l3,rfl,y,c2,rfl,⟨h3,h4⟩,l4,rfl,h⟩:=h
  rcases h with ⟨-,l6,rfl,z,c3,rfl,⟨h5,h6⟩,rfl,rfl,rfl,rfl⟩ | ⟨-,rfl,rfl,rfl,rfl⟩
  ·exact ⟨rfl,rfl,⟨x,[y,z],rfl,h1,by intro w hw;simp at hw;rcases hw with rfl | rfl;exact h3;exact h5⟩,.inr ⟨x,y,z,rfl⟩,by intro w hw;simp at hw;rcases hw with rfl | rfl | rfl;exact h2;exact h4;exact h6,by simp [raws,part]⟩
  ·exact ⟨rfl,rfl,⟨x,[y],rfl,h1,fun w hw=>by simp at hw;subst hw;exact h3⟩,.inl ⟨x,y,rfl⟩,wf2 h2 h4,by simp [raws,part]⟩
 ·rintro ⟨rfl,rfl,⟨x,r,rfl,h1,h2⟩,h0,h4,rfl⟩
  rcases h0 with ⟨x',y,hxy⟩ | ⟨x',y,z,hxy⟩
  ·injection hxy with e1 e2;subst e1 e2
   exact ⟨_,rfl,x,[y],rfl,⟨h1,h4 x (by simp)⟩,_,rfl,y,[],rfl,⟨h2 y (by simp),h4 y (by simp)⟩,_,rfl,.inr ⟨by simp,rfl,rfl,rfl,by simp [raws]⟩⟩
  ·injection hxy with e1 e2;subst e1 e2
   exact ⟨_,rfl,x,[y,z],rfl,⟨h1,h4 x (by simp)⟩,_,rfl,y,[z],rfl,⟨h2 y (by simp),h4 y (by simp)⟩,_,rfl,.inl ⟨by simp,raw z,by simp [raws,part],z,[],rfl,⟨h2 z (by simp),h4 z (by simp)⟩,rfl,rfl,rfl,rfl⟩⟩
theorem k_6 (t:Bs) (n a:Int) (c:List Nd):ZfF ideal .part (.mk 6 t n a c)=ideal .part (.mk 6 t n a c):=by
 apply Option.ext;intro l;rw [Zbf,Zf7]
 show run (Zei ideal 6) (.mk 6 t n a c)=some l↔_
 rw [Zgi]
 simp (decide:=true) only [Zei,Zkp,Zjd,ZcP,if_true,if_false,ZaP,ZdO,Zkm,ZlE,ZdW,Zcd,Zgc,ZdY,ZcQ,Zgb,Zdc,Zf5,ZlB,ZdU,okI,ZyY,and_assoc,exists_and_left,exists_eq_left,true_and,exists_eq_right,Zeq,Zeu,Zew,Zxj]
 simp (decide:=true) only [shape,if_true,if_false,Bool.and_eq_true,Bool.or_eq_true,ZdJ,Zaq,and_assoc,true_and,List.all_eq_true,decide_eq_true_eq]
 try simp (decide:=true) only [ZbQ,ZbP,and_assoc]
 constructor
 ·intro h
  obtain ⟨l2,rfl,h1,l3,rfl,h2,h3,l4,rfl,h⟩:=h
  have hc:∀(h5:∀x∈c.drop (lead 7 c),wf x=true),∀x∈c,wf x=true:=fun h5=>by
   rw [← List.take_append_drop (lead 7 c) c];exact ZmY h3 h5
  rw [← Ze9,Zl0,Zl1,Zf3,Zf3]
  rcases h with ⟨rfl,l5,rfl,h4,h5,rfl⟩ | ⟨h0,⟨rfl,l5,rfl,l6,rfl,h4,h5,rfl⟩ | ⟨h6,l5,rfl,h7,h8,l6,rfl,l7,rfl,h4,h5,rfl⟩⟩
  ·exact ⟨h1,by decide,by decide,h4,hc h5,rfl⟩
  ·exact ⟨h1,by decide,by decide,h4,hc h5,rfl⟩
  ·refine ⟨h1,by omega,by omega,h4,hc h5,?_⟩
   rw [if_neg (by omega),if_pos (by omega)];rfl
 ·rintro ⟨h1,h0,h00,h2,h3,rfl⟩
  rw [← Ze9,Zl0,Zl1,Zf3,Zf3]
  rw [← Ze9] at h2
  have h5:∀x∈c.drop (lead 7 c),wf x=true:=fun x hx=>h3 x (List.mem_of_mem_drop hx)
  refine ⟨_,rfl,h1,_,rfl,Zug c,fun x hx=>h3 x (List.mem_of_mem_take hx),_,rfl,?_⟩
  by_cases e0:n=0
  ·subst e0;exact .inl ⟨rfl,_,rfl,h2,h5,rfl⟩
  ·by_cases e1:n = -1
   ·subst e1;exact .inr ⟨by decide,.inl ⟨rfl,_,rfl,_,rfl,h2,h5,rfl⟩⟩
   ·rw [if_neg (by omega),if_pos (by omega)]
    exact .inr ⟨e0,.inr ⟨e1,_,rfl,by omega,by omega,_,rfl,_,rfl,h2,h5,rfl⟩⟩
theorem Zzm (t:Bs) (n a:Int) (c:List Nd):ZfF ideal .part (.mk 70 t n a c)=ideal .part (.mk 70 t n a c):=by
 apply Option.ext;intro l;rw [Zbf,Zf7]
 show run (Zei ideal 70) (.mk 70 t n a c)=some l↔_
 rw [Zgi]
 simp (decide:=true) only [Zei,Zcq,Zki,ZcP,if_true,if_false,ZaP,ZgE,ZlC,ZlE,Zcd,Zgc,Zgd,ZcQ,Zgb,Zfn,Zdc,Zbf,ZdU,ZxL,and_assoc,exists_and_left,exists_eq_left,Fm.mk.injEq,true_and,Zeq,Zeu,Zew,Zxj]
 simp (decide:=true) only [shape,if_true,if_false,Bool.and_eq_true,Bool.or_eq_true,beq_iff_eq,Zby,ZdJ,Zaq,and_assoc,true_and]
 try simp (decide:=true) only [ZbQ]
 constructor
 ·intro h
  obtain ⟨l2,rfl,l3,rfl,h1,l4,rfl,h⟩:=h
  rcases h with ⟨rfl,h2,h3,l5,rfl,l6,rfl,x,c',hd,⟨h5,h6⟩,rfl,rfl⟩ | ⟨hn,⟨rfl,l5,rfl,z,c1,rfl,l1,hz,l6,rfl,h2,h3,l7,rfl,l8,rfl,x,c',hd,⟨h5,h6⟩,rfl,rfl⟩ | ⟨-,h⟩⟩
  ·obtain ⟨r,rfl,e,hr⟩:=ZhQ hd
   rw [e] at h2 h3
   refine ⟨h1,.inl ⟨rfl,r,x,rfl,h2,h5⟩,ZmY h3 (wf1 h6),?_⟩
   rw [if_neg (by decide),if_neg (by decide),Ztf,Zj1,Zf3,e];rfl
  ·obtain ⟨hz1,hz2,rfl⟩:=(Zvf (.inl rfl)).1 hz
   simp only [Bool.and_eq_true] at hz1
   obtain ⟨r,rfl,e,hr⟩:=ZhQ hd
   rw [e] at h2 h3
   refine ⟨h1,.inr ⟨rfl,⟨z,_,rfl,hz1.1.1,hz1.1.2,fun _ _=>trivial⟩,r,x,rfl,h2,h5⟩,fun y hy=>(List.mem_cons.1 hy).elim (fun e=>e▸hz2) (fun k=>ZmY h3 (wf1 h6) y k),?_⟩
   rw [if_pos rfl,if_pos rfl,ZuU,Zru,Zf3,e];rfl
  ·exact h.elim
 ·rintro ⟨h1,h0,h4,rfl⟩
  refine ⟨_,rfl,_,rfl,h1,_,rfl,?_⟩
  rcases h0 with ⟨rfl,r,x,rfl,h2,h3⟩ | ⟨rfl,⟨z,c1,rfl,hz1,hz2,-⟩,r,x,hc,h2,h3⟩
  ·obtain ⟨e1,e2⟩:=ZiB h2 (m:=[x]) (by simp;exact Zr4 h3 7 (by omega))
   obtain ⟨h4,h5⟩:=Zop h4
   rw [if_neg (by decide),if_neg (by decide),Ztf,Zj1,Zf3]
   refine .inl ⟨rfl,?_⟩
   rw [e1,e2]
   exact ⟨h2,h4,_,rfl,_,rfl,x,[],rfl,⟨h3,h5 x (by simp)⟩,rfl,rfl⟩
  ·obtain rfl:c1=r++[x]:=hc
   obtain ⟨e1,e2⟩:=ZiB h2 (m:=[x]) (by simp;exact Zr4 h3 7 (by omega))
   have hw:=h4 z (by simp)
   obtain ⟨h4,h5⟩:=Zop (fun y hy=>h4 y (List.mem_cons_of_mem _ hy):∀y∈r++[x],wf y=true)
   rw [if_pos rfl,if_pos rfl,ZuU,Zru,Zf3]
   refine .inr ⟨by decide,.inl ⟨rfl,_,rfl,z,_,rfl,[nm z.t],(Zvf (.inl rfl)).2 ⟨by simp [hz1,hz2,wf24 hz1 hw],hw,rfl⟩,_,rfl,?_⟩⟩
   rw [e1,e2]
   exact ⟨h2,h4,_,rfl,_,rfl,x,[],rfl,⟨h3,h5 x (by simp)⟩,rfl,rfl⟩
theorem Zcj {K:Kd} {x:Nd} (h:ZdJ K x=false):ideal K x=none:=by
 unfold ideal;rw [h,if_neg (by simp)]
theorem Zck:∀(K:Kd) (x:Nd),okK x.k=true→ZfF ideal K x=ideal K x:=by
 rintro K ⟨k,t,n,a,c⟩ hok
 have hok:okK k=true:=hok
 cases K with
 | part=>
  by_cases h2:k=2
  ·subst h2;cases hok
  by_cases h3:k=3
  ·subst h3;cases hok
  by_cases h4:k=4
  ·subst h4;cases hok
  by_cases h5:k=5
  ·subst h5;exact k_5 t n a c
  by_cases h6:k=6
  ·subst h6;exact k_6 t n a c
  by_cases h70:k=70
  ·subst h70;exact Zzm t n a c
  by_cases h71:k=71
  ·subst h71;cases hok
  by_cases h72:k=72
  ·subst h72;cases hok
  by_cases h73:k=73
  ·subst h73;exact Zzl t n a c
  by_cases h74:k=74
  ·subst h74;exact Zzk t n a c
  rw [Zcj (by simp [ZdJ,Zaq];omega)]
  show run (Zei ideal k) _=none
  simp only [Zei,Zcq,if_neg h2,if_neg h3,if_neg h4,if_neg h5,if_neg h6,if_neg h70,if_neg h71,if_neg h72,if_neg h73,if_neg h74]
  rfl
 | ctor=>
  by_cases h8:k=8
  ·subst h8;cases hok
  rw [Zcj (by simp [ZdJ,ZcB,h8])]
  exact if_neg h8
 | member=>
  by_cases h9:k=9
  ·subst h9;exact k_9 t n a c
  by_cases h10:k=10
  ·subst h10;exact Zzx t n a c
  rw [Zcj (by simp [ZdJ,Zar];omega)]
  show run (ZcZ ideal k) _=none
  simp only [ZcZ,if_neg h9,if_neg h10]
  rfl
 | field=>
  by_cases h7:k=7
  ·subst h7;exact k_7 t n a c
  rw [Zcj (by simp [ZdJ,ZcB,h7])]
  exact if_neg h7
 | typ=>
  by_cases h12:k=12
  ·subst h12;exact Zzv t n a c
  by_cases h13:k=13
  ·subst h13;cases hok
  by_cases h14:k=14
  ·subst h14;cases hok
  by_cases h15:k=15
  ·subst h15;cases hok
  rw [Zcj (by simp [ZdJ,ZaW];omega)]
  show run (Zm7 ideal k) _=none
  simp only [Zm7,if_neg h12,if_neg h13,if_neg h14,if_neg h15]
  rfl
 | expr=>
  by_cases h37:k=37
  ·subst h37;cases hok
  by_cases h36:k=36
  ·subst h36;cases hok
  by_cases h38:k=38
  ·subst h38;cases hok
  by_cases h41:k=41
  ·subst h41;cases hok
  by_cases h35:k=35
  ·subst h35;exact Zzp t n a c
  by_cases h34:k=34
  ·subst h34;cases hok
  by_cases h33:k=33
  ·subst h33;cases hok
  by_cases h32:k=32
  ·subst h32;cases hok
  by_cases h30:k=30
  ·subst h30;cases hok
  by_cases h31:k=31
  ·subst h31;cases hok
  by_cases h20:k=20
  ·subst h20;exact Zzu t n a c
  by_cases h21:k=21
  ·subst h21;cases hok
  by_cases h22:k=22
  ·subst h22;cases hok
  by_cases h23:k=23
  ·subst h23;cases hok
  by_cases h24:k=24
  ·subst h24;exact Zzt t n a c
  by_cases h25:k=25
  ·subst h25;exact Zzs t n a c
  by_cases h26:k=26
  ·subst h26;exact Zzr t n a c
  by_cases h27:k=27
  ·subst h27;cases hok
  by_cases h29:k=29
  ·subst h29;exact Zzq t n a c
  rw [Zcj (by simp [ZdJ,ZaX];omega)]
  show run (Zdo ideal k) _=none
  simp only [Zdo,Zdk,if_neg h37,if_neg h36,if_neg h38,if_neg h41,if_neg h35,if_neg h34,if_neg h33,if_neg h32,if_neg h30,if_neg h31,if_neg h20,if_neg h21,if_neg h22,if_neg h23,if_neg h24,if_neg h25,if_neg h26,if_neg h27,if_neg h29]
  rfl
 | arm=>
  by_cases h39:k=39
  ·subst h39;cases hok
  rw [Zcj (by simp [ZdJ,ZcB,h39])]
  exact if_neg h39
 | set=>
  by_cases h28:k=28
  ·subst h28;cases hok
  rw [Zcj (by simp [ZdJ,ZcB,h28])]
  exact if_neg h28
 | block=>
  by_cases h11:k=11
  ·subst h11;exact Zzw t n a c
  rw [Zcj (by simp [ZdJ,ZcB,h11])]
  exact if_neg h11
 | stmt=>
  by_cases h50:k=50
  ·subst h50;cases hok
  by_cases h51:k=51
  ·subst h51;cases hok
  by_cases h52:k=52
  ·subst h52;exact Zzo t n a c
  by_cases h53:k=53
  ·subst h53;cases hok
  by_cases h55:k=55
  ·subst h55;cases hok
  by_cases h56:k=56
  ·subst h56;exact Zzn t n a c
  by_cases h57:k=57
  ·subst h57;cases hok
  by_cases h58:k=58
  ·subst h58;cases hok
  by_cases h59:k=59
  ·subst h59;cases hok
  by_cases h60:k=60
  ·subst h60;cases hok
  by_cases h61:k=61
  ·subst h61;cases hok
  rw [Zcj (by simp [ZdJ,ZaA];omega)]
  show run (Zdi ideal k) _=none
  simp only [Zdi,if_neg h50,if_neg h51,if_neg h52,if_neg h53,if_neg h55,if_neg h56,if_neg h57,if_neg h58,if_neg h59,if_neg h60,if_neg h61]
  rfl
 | sarm=>
  by_cases h54:k=54
  ·subst h54;cases hok
  rw [Zcj (by simp [ZdJ,ZcB,h54])]
  exact if_neg h54
 | bind=>
  by_cases h40:k=40
  ·subst h40;cases hok
  rw [Zcj (by simp [ZdJ,ZcB,h40])]
  exact if_neg h40
end Go.Proofs.YtaheffiglmglbaaGreatDoor.S8
