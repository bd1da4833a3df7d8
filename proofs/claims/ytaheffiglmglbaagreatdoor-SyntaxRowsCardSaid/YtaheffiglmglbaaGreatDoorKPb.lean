import Derived.Test.YtaheffiglmglbaaGreatDoorKPa
/- SynA. -/
set_option maxHeartbeats 8000000
set_option maxRecDepth 20000
namespace Go.Proofs.YtaheffiglmglbaaGreatDoor.S8
open L7
abbrev Tok:=Tk × Int
inductive Nd where
 | mk (k:Int) (t:Bs) (n:Int) (a:Int) (c:List Nd)
namespace Nd
def k:Nd→Int | mk k _ _ _ _=>k
def t:Nd→Bs | mk _ t _ _ _=>t
def n:Nd→Int | mk _ _ n _ _=>n
def a:Nd→Int | mk _ _ _ a _=>a
def c:Nd→List Nd | mk _ _ _ _ c=>c
end Nd
def Zcg:Bs:=[114,101,99,111,114,100]
def ZbS:Bs:=[118,97,114,105,97,110,116]
def Zct:Bs:=[101,102,102,101,99,116]
def Zd7:Bs:=[102,117,110]
def ZbV:Bs:=[97,99,116,111,114]
def Zcl:Bs:=[114,101,115,116,97,114,116]
def ZbU:Bs:=[101,115,99,97,108,97,116,101]
def Zec:Bs:=[115,116,97,116,101]
def wOn:Bs:=[111,110]
def Zfl:Bs:=[108,101,116]
def wIn:Bs:=[105,110]
def wIf:Bs:=[105,102]
def Zit:Bs:=[116,104,101,110]
def Zfo:Bs:=[101,108,115,101]
def ZbR:Bs:=[109,97,116,99,104]
def Zda:Bs:=[119,105,116,104]
def ZqC:Bs:=[97,110,100]
def wOr:Bs:=[111,114]
def ZhW:Bs:=[110,111,116]
def ZfJ:Bs:=[116,114,117,101]
def Zdy:Bs:=[102,97,108,115,101]
def ZeX:Bs:=[115,101,108,102]
def Zkt:Bs:=[102,111,114]
def Zd0:Bs:=[115,101,110,100]
def ZdS:Bs:=[97,102,116,101,114]
def Zce:Bs:=[115,112,97,119,110]
def wDo:Bs:=[100,111]
def Zg4:Bs:=[115,116,111,112]
def Zg9:Bs:=[102,97,105,108]
def Zm5:Bs:=[114,101,102]
def ZjN:Bs:=[105,110,116]
def ZsY:Bs:=[98,111,111,108]
def ZsX:Bs:=[116,101,120,116]
def ZsW:Bs:=[117,110,105,116]
def Za2:Bs:=[99,111,110,118,101,114,116]
def ZfI:Bs:=[116,121,112,101]
def ZeZ:Bs:=[109,101,115,115,97,103,101]
def Zeo:Bs:=[109,111,118,101]
def wTo:Bs:=[116,111]
def Zez:Bs:=[100,114,111,112]
def ZhX:Bs:=[105,110,105,116]
def mLp:Bs:=[40]
def mRp:Bs:=[41]
def mLb:Bs:=[123]
def mRb:Bs:=[125]
def mLk:Bs:=[91]
def mRk:Bs:=[93]
def mCm:Bs:=[44]
def ZdG:Bs:=[46]
def ZfH:Bs:=[58]
def ZdF:Bs:=[95]
def mEq:Bs:=[61]
def Zt7:Bs:=[43]
def Zcr:Bs:=[45]
def Zt6:Bs:=[42]
def Zo0:Bs:=[47]
def ZyN:Bs:=[37]
def mLt:Bs:=[60]
def mGt:Bs:=[62]
def ZyO:Bs:=[61,61]
def mNe:Bs:=[33,61]
def mLe:Bs:=[60,61]
def mGe:Bs:=[62,61]
def ZyP:Bs:=[43,43]
def Zjg:Bs:=[61,62]
def reserved:List Bs:=[Zcg,ZbS,Zct,Zd7,ZbV,Zcl,ZbU,Zec,wOn,Zfl,wIn,wIf,Zit,Zfo,ZbR,Zda,ZqC,wOr,ZhW,ZfJ,Zdy,ZeX,Zkt,Zd0,ZdS,Zce,wDo,Zg4,Zg9,Zm5,ZjN,ZsY,ZsX,ZsW]
def ZbF (t:Bs):Bool:=ZbM t && decide (97≤(t.headD 0).toNat) && !reserved.contains t
def Zcf (t:Bs):Bool:=ZbM t && decide ((t.headD 0).toNat≤90)
def level (s:Bs):Nat:=
 if s == wOr then 1 else if s == ZqC then 2
 else if s == ZyO || s == mNe || s == mLt || s == mLe || s == mGt || s == mGe then 4
 else if s == ZyP then 5 else if s == Zt7 || s == Zcr then 6 else if s == Zt6 || s == Zo0 || s == ZyN then 7 else 0
def basic (t:Bs):Bool:=t == ZjN || t == ZsY || t == ZsX || t == ZsW
def isW (s:Bs) (t:Tk):Bool:=(t.k == 4 || t.k == 1) && t.t == s
def Zr2 (l:Nat) (t:Tk):Bool:=level t.t == l && (if t.t == wOr || t.t == ZqC then t.k == 1 else t.k == 4)
inductive Res (α:Type) where
 | out
 | err (a:Int)
 | ok (x:α) (r:List Tok)
def P (α:Type):Type:=Int→List Tok→Res α
namespace P
def ret {α:Type} (x:α):P α:=fun _ l=>.ok x l
def bind {α β:Type} (p:P α) (f:α→P β):P β:=fun e l=>match p e l with
 | .out=>.out
 | .err a=>.err a
 | .ok x r=>f x e r
end P
instance:Monad P where
 pure:=P.ret
 bind:=P.bind
def fail {α:Type} : P α:=fun e l=>match l with
 | []=>.err e
 | (_,a)::_=>.err a
def here:P Int:=fun e l=>match l with
 | []=>.err e
 | (t,a)::r=>.ok a ((t,a)::r)
def ZaC (s:Bs):P Bool:=fun _ l=>match l with
 | []=>.ok false []
 | (t,a)::r=>.ok (isW s t) ((t,a)::r)
def Zft (v:Nat):P Bool:=fun _ l=>match l with
 | []=>.ok false []
 | (t,a)::r=>.ok (Zr2 v t) ((t,a)::r)
def Zed (p:Tk→Bool):P Tk:=fun e l=>match l with
 | []=>.err e
 | (t,a)::r=>if p t then .ok t r else .err a
def ZeR (p:Tk→Bool):P Bool:=fun _ l=>match l with
 | []=>.ok false []
 | (t,a)::r=>.ok (p t) ((t,a)::r)
def must (s:Bs):P Tk:=Zed (isW s)
def low:P Bs:=do let t ← Zed (fun t=>t.k == 1 && ZbF t.t);pure t.t
def up:P Bs:=do let t ← Zed (fun t=>t.k == 1 && Zcf t.t);pure t.t
def Zdn:P Bs:=do let t ← Zed (fun t=>t.k == 1 && (Zcf t.t || t.t == ZhX));pure t.t
def number:P Int:=do let t ← Zed (fun t=>t.k == 2);pure t.n
inductive What | field | type | ctor | expr | set | bind | arm | sarm | stmt | member
inductive NT
 | one (w:What)
 | seps (shut:Bs) (w:What)
 | many (w:What) (least:Bool)
 | expr (h:Bool)
 | bin (v:Nat) (h:Bool)
 | tail (v:Nat) (h:Bool) (a:Int) (x:Nd)
 | post (h:Bool)
 | ptail (h:Bool) (a:Int) (x:Nd)
 | prim (h:Bool)
 | send
 | decl
 | change
abbrev G:=NT→P (List Nd)
def single (g:P (List Nd)):P Nd:=do
 let l ← g
 match l with
 | [x]=>pure x
 | _=>fail
def list (g:G) (opn:Bs) (w:What) (shut:Bs):P (List Nd):=do
 let _ ← must opn
 if ← ZaC shut then do
  let _ ← must shut
  pure []
 else g (.seps shut w)
def some1 (g:G) (opn:Bs) (w:What) (shut:Bs):P (List Nd):=do
 let _ ← must opn
 g (.seps shut w)
def many1 (g:G) (w:What) (least:Bool):P (List Nd):=do
 let _ ← must mLb
 g (.many w least)
def sig (g:G) (h:Bool):P (List Nd):=do
 let _ ← must ZfH
 let t ← single (g (.one .type))
 let _ ← must mEq
 let e ← single (g (.expr h))
 pure [t,e]
def block (g:G):P Nd:=do
 let a ← here
 let l ← many1 g .stmt false
 pure (.mk 11 [] 0 a l)
def field (g:G):P Nd:=do
 let a ← here
 let t ← low
 let _ ← must ZfH
 let y ← single (g (.one .type))
 pure (.mk 7 t 0 a [y])
def typ (g:G):P Nd:=do
 let a ← here
 if ← ZaC mLk then do
  let _ ← must mLk
  let y ← single (g (.one .type))
  let _ ← must mRk
  pure (.mk 13 [] 0 a [y])
 else if ← ZaC Zm5 then do
  let _ ← must Zm5
  let t ← up
  pure (.mk 14 t 0 a [])
 else if ← ZaC Zd7 then do
  let _ ← must Zd7
  let l ← list g mLp .type mRp
  let _ ← must ZfH
  let y ← single (g (.one .type))
  pure (.mk 15 [] 0 a (l++[y]))
 else do
  let t ← Zed (fun t=>t.k == 1 && (basic t.t || Zcf t.t))
  pure (.mk 12 t.t 0 a [])
def ctor (g:G):P Nd:=do
 let a ← here
 let t ← up
 if ← ZaC mLp then do
  let l ← some1 g mLp .type mRp
  pure (.mk 8 t 0 a l)
 else pure (.mk 8 t 0 a [])
def Zfk:P Nd:=do
 let a ← here
 if ← ZaC ZdF then do
  let _ ← must ZdF
  pure (.mk 40 ZdF 0 a [])
 else do
  let t ← low
  pure (.mk 40 t 0 a [])
def set (g:G):P Nd:=do
 let a ← here
 let t ← low
 let _ ← must mEq
 let e ← single (g (.expr false))
 pure (.mk 28 t 0 a [e])
def pattern (g:G):P (Bs × List Nd):=do
 if ← ZaC ZdF then do
  let _ ← must ZdF
  pure (ZdF,[])
 else do
  let t ← up
  if ← ZaC mLp then do
   let l ← some1 g mLp .bind mRp
   pure (t,l)
  else pure (t,[])
def arm (g:G):P Nd:=do
 let a ← here
 let p ← pattern g
 let _ ← must Zjg
 let e ← single (g (.expr false))
 pure (.mk 39 p.1 0 a (p.2++[e]))
def sarm (g:G):P Nd:=do
 let a ← here
 let p ← pattern g
 let b ← block g
 pure (.mk 54 p.1 0 a (p.2++[b]))
def spawn (g:G) (a:Int) (b:Nd):P Nd:=do
 let _ ← must Zce
 let t ← up
 let l ← list g mLp .expr mRp
 if ← ZaC wOn then do
  let _ ← must wOn
  let e ← single (g (.expr false))
  pure (.mk 58 t 1 a (b::l++[e]))
 else pure (.mk 58 t 0 a (b::l))
def send (g:G):P Nd:=do
 let a ← here
 let _ ← must Zd0
 let e ← single (g (.expr false))
 let t ← up
 let l ← list g mLp .expr mRp
 pure (.mk 56 t 0 a (e::l))
def stmt (g:G):P Nd:=do
 let a ← here
 if ← ZaC Zce then spawn g a (.mk 40 ZdF 0 a [])
 else if ← ZaC Zd0 then single (g .send)
 else if ← ZaC Zfl then do
  let _ ← must Zfl
  let a2 ← here
  let t ← low
  let _ ← must mEq
  if ← ZaC Zce then spawn g a (.mk 40 t 0 a2 [])
  else do
   let e ← single (g (.expr false))
   pure (.mk 50 t 0 a [e])
 else if ← ZaC wIf then do
  let _ ← must wIf
  let e ← single (g (.expr true))
  let b ← block g
  if ← ZaC Zfo then do
   let _ ← must Zfo
   let b2 ← block g
   pure (.mk 52 [] 0 a [e,b,b2])
  else pure (.mk 52 [] 0 a [e,b])
 else if ← ZaC ZbR then do
  let _ ← must ZbR
  let e ← single (g (.expr true))
  let l ← many1 g .sarm true
  pure (.mk 53 [] 0 a (e::l))
 else if ← ZaC Zkt then do
  let _ ← must Zkt
  let t ← low
  let _ ← must wIn
  let e ← single (g (.expr true))
  let b ← block g
  pure (.mk 55 t 0 a [e,b])
 else if ← ZaC ZdS then do
  let _ ← must ZdS
  let e ← single (g (.expr false))
  let x ← single (g .send)
  pure (.mk 57 [] 0 a [e,x])
 else if ← ZaC wDo then do
  let _ ← must wDo
  let t ← low
  let l ← list g mLp .expr mRp
  let _ ← must Zit
  let a2 ← here
  let u ← up
  pure (.mk 59 t 0 a (l++[.mk 75 u 0 a2 []]))
 else if ← ZaC Zg4 then do
  let _ ← must Zg4
  pure (.mk 60 [] 0 a [])
 else if ← ZaC Zg9 then do
  let _ ← must Zg9
  let e ← single (g (.expr false))
  pure (.mk 61 [] 0 a [e])
 else do
  let t ← low
  let _ ← must mEq
  let e ← single (g (.expr false))
  pure (.mk 51 t 0 a [e])
def member (g:G):P Nd:=do
 let a ← here
 if ← ZaC Zec then do
  let _ ← must Zec
  let t ← low
  let l ← sig g false
  pure (.mk 9 t 0 a l)
 else do
  let _ ← must wOn
  let t ← up
  let l ← list g mLp .field mRp
  let b ← block g
  pure (.mk 10 t 0 a (l++[b]))
def expr (g:G) (h:Bool):P Nd:=do
 let a ← here
 if ← ZaC Zfl then do
  let _ ← must Zfl
  let t ← low
  let _ ← must mEq
  let e ← single (g (.expr h))
  let _ ← must wIn
  let f ← single (g (.expr h))
  pure (.mk 37 t 0 a [e,f])
 else if ← ZaC wIf then do
  let _ ← must wIf
  let x ← single (g (.expr h))
  let _ ← must Zit
  let y ← single (g (.expr h))
  let _ ← must Zfo
  let z ← single (g (.expr h))
  pure (.mk 36 [] 0 a [x,y,z])
 else if ← ZaC ZbR then do
  let _ ← must ZbR
  let e ← single (g (.expr true))
  let l ← some1 g mLb .arm mRb
  pure (.mk 38 [] 0 a (e::l))
 else if ← ZaC Zd7 then do
  let _ ← must Zd7
  let l ← list g mLp .field mRp
  let s ← sig g h
  pure (.mk 41 [] 0 a (l++s))
 else single (g (.bin 1 h))
def bin (g:G) (v:Nat) (h:Bool):P Nd:=do
 let a ← here
 if v == 9 then single (g (.post h))
 else if v == 3 then do
  if ← ZaC ZhW then do
   let _ ← must ZhW
   let e ← single (g (.bin 3 h))
   pure (.mk 34 [] 0 a [e])
  else single (g (.bin 4 h))
 else if v == 8 then do
  if ← ZaC Zcr then do
   let _ ← must Zcr
   let e ← single (g (.bin 8 h))
   pure (.mk 33 [] 0 a [e])
  else single (g (.bin 9 h))
 else do
  let x ← single (g (.bin (v + 1) h))
  single (g (.tail v h a x))
def tail (g:G) (v:Nat) (h:Bool) (a:Int) (x:Nd):P Nd:=do
 if ← Zft v then do
  let t ← Zed (Zr2 v)
  let y ← single (g (.bin (v + 1) h))
  if v == 4 then pure (.mk 35 t.t 0 a [x,y]) else single (g (.tail v h a (.mk 35 t.t 0 a [x,y])))
 else pure x
def post (g:G) (h:Bool):P Nd:=do
 let a ← here
 let x ← single (g (.prim h))
 single (g (.ptail h a x))
def ptail (g:G) (h:Bool) (a:Int) (x:Nd):P Nd:=do
 if ← ZaC mLp then do
  let l ← list g mLp .expr mRp
  single (g (.ptail h a (.mk 32 [] 0 a (x::l))))
 else if ← ZaC ZdG then do
  let _ ← must ZdG
  let t ← low
  single (g (.ptail h a (.mk 30 t 0 a [x])))
 else if ← ZaC Zda then do
  let _ ← must Zda
  let l ← some1 g mLb .set mRb
  single (g (.ptail h a (.mk 31 [] 0 a (x::l))))
 else pure x
def prim (g:G) (h:Bool):P Nd:=do
 let a ← here
 if ← ZaC mLp then do
  let _ ← must mLp
  if ← ZaC mRp then do
   let _ ← must mRp
   pure (.mk 23 [] 0 a [])
  else do
   let x ← single (g (.expr false))
   let _ ← must mRp
   pure x
 else if ← ZeR (fun t=>t.k == 1 && Zcf t.t) then do
  let t ← up
  if ← ZaC mLb then do
   if h then pure (.mk 29 t 0 a [])
   else do
    let l ← list g mLb .set mRb
    pure (.mk 27 t 0 a l)
  else if ← ZaC mLp then do
   let l ← some1 g mLp .expr mRp
   pure (.mk 29 t 0 a l)
  else pure (.mk 29 t 0 a [])
 else if ← ZaC mLk then do
  let l ← list g mLk .expr mRk
  pure (.mk 26 [] 0 a l)
 else if ← ZeR (fun t=>t.k == 2) then do
  let n ← number
  pure (.mk 20 [] n a [])
 else if ← ZeR (fun t=>t.k == 3) then do
  let t ← Zed (fun t=>t.k == 3)
  pure (.mk 21 t.t 0 a [])
 else if ← ZaC ZfJ then do
  let _ ← must ZfJ
  pure (.mk 22 [] 1 a [])
 else if ← ZaC Zdy then do
  let _ ← must Zdy
  pure (.mk 22 [] 0 a [])
 else if ← ZaC ZeX then do
  let _ ← must ZeX
  pure (.mk 25 [] 0 a [])
 else do
  let t ← low
  pure (.mk 24 t 0 a [])
def decl (g:G):P Nd:=do
 let a ← here
 if ← ZaC Zcg then do
  let _ ← must Zcg
  let t ← up
  let l ← list g mLb .field mRb
  pure (.mk 2 t 0 a l)
 else if ← ZaC ZbS then do
  let _ ← must ZbS
  let t ← up
  let l ← some1 g mLb .ctor mRb
  pure (.mk 3 t 0 a l)
 else if ← ZaC Zct then do
  let _ ← must Zct
  let t ← low
  let l ← list g mLp .field mRp
  let _ ← must ZfH
  let y ← single (g (.one .type))
  pure (.mk 4 t 0 a (l++[y]))
 else if ← ZaC Zd7 then do
  let _ ← must Zd7
  let t ← low
  let l ← list g mLp .field mRp
  let s ← sig g false
  pure (.mk 5 t 0 a (l++s))
 else do
  let _ ← must ZbV
  let t ← up
  let l ← list g mLp .field mRp
  if ← ZaC ZbU then do
   let _ ← must ZbU
   let m ← many1 g .member false
   pure (.mk 6 t (-1) a (l++m))
  else if ← ZaC Zcl then do
   let _ ← must Zcl
   let n ← number
   let m ← many1 g .member false
   pure (.mk 6 t (n + 1) a (l++m))
  else do
   let m ← many1 g .member false
   pure (.mk 6 t 0 a (l++m))
def convert (g:G) (a:Int):P Nd:=do
 if ← ZaC ZfI then do
  let _ ← must ZfI
  let t ← up
  if ← ZaC ZdG then do
   let _ ← must ZdG
   let a2 ← here
   let u ← up
   let l ← list g mLp .field mRp
   let _ ← must mEq
   let e ← single (g (.expr false))
   pure (.mk 70 t 1 a (.mk 24 u 0 a2 []::l++[e]))
  else do
   let l ← list g mLp .field mRp
   let _ ← must mEq
   let e ← single (g (.expr false))
   pure (.mk 70 t 0 a (l++[e]))
 else if ← ZaC ZbV then do
  let _ ← must ZbV
  let t ← up
  let l ← list g mLp .field mRp
  let m ← list g mLb .set mRb
  pure (.mk 71 t 0 a (l++m))
 else do
  let _ ← must ZeZ
  let t ← up
  let _ ← must ZdG
  let a2 ← here
  let u ← Zdn
  let l ← list g mLp .field mRp
  let _ ← must mEq
  let a3 ← here
  let v ← Zdn
  let m ← list g mLp .expr mRp
  pure (.mk 72 t 0 a (.mk 24 u 0 a2 []::l++[.mk 75 v 0 a3 m]))
def change (g:G):P Nd:=do
 let a ← here
 if ← ZaC Za2 then do
  let _ ← must Za2
  convert g a
 else if ← ZaC Zeo then do
  let _ ← must Zeo
  let t ← up
  let _ ← must wTo
  let n ← number
  pure (.mk 73 t n a [])
 else if ← ZaC Zez then do
  let _ ← must Zez
  let t ← up
  pure (.mk 74 t 0 a [])
 else single (g .decl)
def elem1 (g:G):What→P Nd
 | .field=>field g
 | .type=>typ g
 | .ctor=>ctor g
 | .expr=>single (g (.expr false))
 | .set=>set g
 | .bind=>Zfk
 | .arm=>arm g
 | .sarm=>sarm g
 | .stmt=>stmt g
 | .member=>member g
def seps (g:G) (shut:Bs) (w:What):P (List Nd):=do
 let x ← single (g (.one w))
 if ← ZaC mCm then do
  let _ ← must mCm
  let l ← g (.seps shut w)
  pure (x::l)
 else do
  let _ ← must shut
  pure [x]
def many (g:G) (w:What) (least:Bool):P (List Nd):=do
 let b ← ZaC mRb
 if b && !least then do
  let _ ← must mRb
  pure []
 else do
  let x ← single (g (.one w))
  let l ← g (.many w false)
  pure (x::l)
def one (p:P Nd):P (List Nd):=do
 let x ← p
 pure [x]
def body (g:G):NT→P (List Nd)
 | .one w=>one (elem1 g w)
 | .seps shut w=>seps g shut w
 | .many w least=>many g w least
 | .expr h=>one (expr g h)
 | .bin v h=>one (bin g v h)
 | .tail v h a x=>one (tail g v h a x)
 | .post h=>one (post g h)
 | .ptail h a x=>one (ptail g h a x)
 | .prim h=>one (prim g h)
 | .send=>one (send g)
 | .decl=>one (decl g)
 | .change=>one (change g)
def parse:Nat→NT→P (List Nd)
 | 0,_=>fun _ _=>.out
 | m + 1,nt=>body (parse m) nt
def decls (m:Nat) (patch:Bool):Nat→P (List Nd)
 | 0=>fun _ _=>.out
 | j + 1=>fun e l=>match l with
  | []=>.ok [] []
  | _::_=>P.bind (single (parse m (if patch then .change else .decl))) (fun x=>P.bind (decls m patch j) (fun xs=>P.ret (x::xs))) e l
def le {α:Type} (p q:P α):Prop:=∀e l,p e l=.out∨p e l=q e l
theorem le_refl {α:Type} (p:P α):le p p:=fun _ _=>.inr rfl
theorem Zb1 {α β:Type} {p q:P α} {f h:α→P β} (h1:le p q) (h2:∀x,le (f x) (h x)):le (p >>= f) (q >>= h):=fun e l=>by
 show P.bind p f e l=.out∨P.bind p f e l=P.bind q h e l
 unfold P.bind
 rcases h1 e l with h | h
 ·rw [h];exact .inl rfl
 ·rw [← h]
  cases p e l with
  | out=>exact .inl rfl
  | err a=>exact .inr rfl
  | ok x r=>exact h2 x e r
theorem Zj8 {α:Type} {c:Prop} [Decidable c] {p q p' q':P α} (h1:le p p') (h2:le q q'):le (if c then p else q) (if c then p' else q'):=by
 split
 ·exact h1
 ·exact h2
theorem Zfy {p q:P (List Nd)} (h:le p q):le (single p) (single q):=Zb1 h fun _=>le_refl _
section
variable {g g':G} (H:∀nt,le (g nt) (g' nt))
include H
theorem ZnR (o:Bs) (w:What) (s:Bs):le (list g o w s) (list g' o w s):=by
 unfold list
 exact Zb1 (le_refl _) fun _=>Zb1 (le_refl _) fun _=>Zj8 (le_refl _) (H _)
theorem Zk5 (o:Bs) (w:What) (s:Bs):le (some1 g o w s) (some1 g' o w s):=by
 unfold some1
 exact Zb1 (le_refl _) fun _=>H _
theorem Zk6 (w:What) (b:Bool):le (many1 g w b) (many1 g' w b):=by
 unfold many1
 exact Zb1 (le_refl _) fun _=>H _
theorem Zu9 (h:Bool):le (sig g h) (sig g' h):=by
 unfold sig
 exact Zb1 (le_refl _) fun _=>Zb1 (Zfy (H _)) fun _=>Zb1 (le_refl _) fun _=>Zb1 (Zfy (H _)) fun _=>le_refl _
theorem Zpa:le (block g) (block g'):=by
 unfold block
 exact Zb1 (le_refl _) fun _=>Zb1 (Zk6 H _ _) fun _=>le_refl _
theorem Zj7:le (pattern g) (pattern g'):=by
 unfold pattern
 exact Zb1 (le_refl _) fun _=>Zj8 (le_refl _) (Zb1 (le_refl _) fun _=>Zb1 (le_refl _) fun _=>Zj8 (Zb1 (Zk5 H _ _ _) fun _=>le_refl _) (le_refl _))
theorem Zo7 (a:Int) (b:Nd):le (spawn g a b) (spawn g' a b):=by
 unfold spawn
 exact Zb1 (le_refl _) fun _=>Zb1 (le_refl _) fun _=>Zb1 (ZnR H _ _ _) fun _=>Zb1 (le_refl _) fun _=>Zj8 (Zb1 (le_refl _) fun _=>Zb1 (Zfy (H _)) fun _=>le_refl _) (le_refl _)
theorem ZrV (nt:NT):le (body g nt) (body g' nt):=by
 cases nt <;> simp only [body,one,seps,many,expr,bin,tail,post,ptail,prim,send,decl,change,convert]
 case one w=>
  cases w <;> simp only [elem1,field,typ,ctor,Zfk,set,arm,sarm,stmt,member] <;>
   repeat (with_reducible first | exact le_refl _ | exact H _ | apply ZnR H | apply Zk5 H | apply Zk6 H | apply Zu9 H | apply Zpa H | apply Zj7 H | apply Zo7 H | apply Zfy | apply Zj8 | refine Zb1 ?_ (fun _=>?_))
 all_goals
  repeat (with_reducible first | exact le_refl _ | exact H _ | apply ZnR H | apply Zk5 H | apply Zk6 H | apply Zu9 H | apply Zpa H | apply Zj7 H | apply Zo7 H | apply Zfy | apply Zj8 | refine Zb1 ?_ (fun _=>?_))
end
theorem Zo8:∀(m:Nat) (nt:NT),le (parse m nt) (parse (m + 1) nt)
 | 0,_=>fun _ _=>.inl rfl
 | m + 1,nt=>ZrV (fun nt=>Zo8 m nt) nt
theorem le_trans {α:Type} {p q r:P α} (h1:le p q) (h2:le q r):le p r:=fun e l=>by
 rcases h1 e l with h | h
 ·exact .inl h
 ·rw [h];exact h2 e l
theorem ZnQ (m d:Nat) (nt:NT):le (parse m nt) (parse (m + d) nt):=by
 induction d with
 | zero=>exact le_refl _
 | succ d ih=>exact le_trans ih (Zo8 _ _)
def Ev (e:Int) (nt:NT) (l:List Tok) (r:Res (List Nd)):Prop:=r≠.out∧∃m,parse m nt e l=r
theorem Ev.more {e:Int} {nt:NT} {l:List Tok} {r:Res (List Nd)} (h:Ev e nt l r):∃m,∀d,parse (m + d) nt e l=r:=by
 obtain ⟨h0,m,hm⟩:=h
 refine ⟨m,fun d=>?_⟩
 rcases ZnQ m d nt e l with h | h
 ·rw [hm] at h;exact absurd h h0
 ·rw [← h];exact hm
theorem Ev.unique {e:Int} {nt:NT} {l:List Tok} {r s:Res (List Nd)} (h:Ev e nt l r) (k:Ev e nt l s):r=s:=by
 obtain ⟨m,hm⟩:=h.more
 obtain ⟨n,hn⟩:=k.more
 have h1:=hm n
 have h2:=hn m
 rw [Nat.add_comm] at h2
 rw [← h1,h2]
def Suf {α:Type} (p:P α):Prop:=∀e l x r,p e l=.ok x r→∃q,l=q++r
def Con {α:Type} (p:P α):Prop:=∀e l x r,p e l=.ok x r→∃t q,l=t::q++r
theorem Con.suf {α:Type} {p:P α} (h:Con p):Suf p:=fun e l x r k=>by
 obtain ⟨t,q,hq⟩:=h e l x r k
 exact ⟨t::q,hq⟩
theorem Zc2 {α β:Type} {p:P α} {f:α→P β} {e:Int} {l r:List Tok} {y:β} (h:(p >>= f) e l=.ok y r):∃x r1,p e l=.ok x r1∧f x e r1=.ok y r:=by
 have h':P.bind p f e l=.ok y r:=h
 unfold P.bind at h'
 cases hp:p e l with
 | out=>rw [hp] at h';cases h'
 | err a=>rw [hp] at h';cases h'
 | ok x r1=>rw [hp] at h';exact ⟨x,r1,rfl,h'⟩
theorem ZfX {α β:Type} {p:P α} {f:α→P β} {e:Int} {l r1:List Tok} {x:α} (h:p e l=.ok x r1):(p >>= f) e l=f x e r1:=by
 show P.bind p f e l=_
 unfold P.bind
 rw [h]
theorem ZiU {α β:Type} {p:P α} {f:α→P β} {e a:Int} {l:List Tok} (h:p e l=.err a):(p >>= f) e l=.err a:=by
 show P.bind p f e l=_
 unfold P.bind
 rw [h]
theorem Zbg {α:Type} (x:α):Suf (pure x:P α):=fun e l y r h=>by
 have h':P.ret x e l=.ok y r:=h
 unfold P.ret at h'
 cases h'
 exact ⟨[],rfl⟩
theorem ZeA {α:Type} : Suf (fail:P α):=fun e l y r h=>by
 unfold fail at h
 split at h <;> cases h
theorem Zbt:Suf here:=fun e l x r h=>by
 unfold here at h
 split at h
 ·cases h
 ·cases h;exact ⟨[],rfl⟩
theorem ZaQ (s:Bs):Suf (ZaC s):=fun e l x r h=>by
 unfold ZaC at h
 split at h <;> (cases h;exact ⟨[],rfl⟩)
theorem Zcu (v:Nat):Suf (Zft v):=fun e l x r h=>by
 unfold Zft at h
 split at h <;> (cases h;exact ⟨[],rfl⟩)
theorem Zbo (f:Tk→Bool):Suf (ZeR f):=fun e l x r h=>by
 unfold ZeR at h
 split at h <;> (cases h;exact ⟨[],rfl⟩)
theorem ZaG (f:Tk→Bool):Con (Zed f):=fun e l x r h=>by
 unfold Zed at h
 split at h
 ·cases h
 ·split at h
  ·cases h;exact ⟨_,[],rfl⟩
  ·cases h
theorem ZbC {α β:Type} {p:P α} {f:α→P β} (h1:Suf p) (h2:∀x,Suf (f x)):Suf (p >>= f):=fun e l y r h=>by
 obtain ⟨x,r1,k1,k2⟩:=Zc2 h
 obtain ⟨q,rfl⟩:=h1 e l x r1 k1
 obtain ⟨q2,rfl⟩:=h2 x e r1 y r k2
 exact ⟨q++q2,by simp⟩
theorem Za1 {α β:Type} {p:P α} {f:α→P β} (h1:Con p) (h2:∀x,Suf (f x)):Con (p >>= f):=fun e l y r h=>by
 obtain ⟨x,r1,k1,k2⟩:=Zc2 h
 obtain ⟨t,q,rfl⟩:=h1 e l x r1 k1
 obtain ⟨q2,rfl⟩:=h2 x e r1 y r k2
 exact ⟨t,q++q2,by simp⟩
theorem ZcA {α β:Type} {p:P α} {f:α→P β} (h1:Suf p) (h2:∀x,Con (f x)):Con (p >>= f):=fun e l y r h=>by
 obtain ⟨x,r1,k1,k2⟩:=Zc2 h
 obtain ⟨q,rfl⟩:=h1 e l x r1 k1
 obtain ⟨t,q2,rfl⟩:=h2 x e r1 y r k2
 cases q with
 | nil=>exact ⟨t,q2,by simp⟩
 | cons u q=>exact ⟨u,q++t::q2,by simp⟩
theorem Zer {α:Type} {c:Prop} [Decidable c] {p q:P α} (h1:Suf p) (h2:Suf q):Suf (if c then p else q):=by
 split
 ·exact h1
 ·exact h2
theorem ZjA {α:Type} {c:Prop} [Decidable c] {p q:P α} (h1:Con p) (h2:Con q):Con (if c then p else q):=by
 split
 ·exact h1
 ·exact h2
theorem Zav {p:P (List Nd)} (h:Suf p):Suf (single p):=ZbC h fun l=>by
 split
 ·exact Zbg _
 ·exact ZeA
theorem ZaY {p:P (List Nd)} (h:Con p):Con (single p):=Za1 h fun l=>by
 split
 ·exact Zbg _
 ·exact ZeA
theorem Zal (s:Bs):Con (must s):=ZaG _
theorem Za5:Con low:=Za1 (ZaG _) fun _=>Zbg _
theorem Zbj:Con up:=Za1 (ZaG _) fun _=>Zbg _
theorem ZaS:Con Zdn:=Za1 (ZaG _) fun _=>Zbg _
theorem ZaU:Con number:=Za1 (ZaG _) fun _=>Zbg _
theorem Zek:Con Zfk:=by
 unfold Zfk
 exact ZcA Zbt fun _=>ZcA (ZaQ _) fun _=>ZjA (Za1 (Zal _) fun _=>Zbg _) (Za1 Za5 fun _=>Zbg _)
def takes:NT→Bool
 | .tail ..=>false
 | .ptail ..=>false
 | _=>true
section
variable {g:G} (H:∀nt,Suf (g nt)) (K:∀nt,takes nt=true→Con (g nt))
include H in
theorem Za8 (o:Bs) (w:What) (s:Bs):Con (list g o w s):=by
 unfold list
 exact Za1 (Zal _) fun _=>ZbC (ZaQ _) fun _=>Zer (ZbC (Zal _).suf fun _=>Zbg _) (H _)
include H in
theorem Za0 (o:Bs) (w:What) (s:Bs):Con (some1 g o w s):=by
 unfold some1
 exact Za1 (Zal _) fun _=>H _
include H in
theorem Za9 (w:What) (b:Bool):Con (many1 g w b):=by
 unfold many1
 exact Za1 (Zal _) fun _=>H _
include H in
theorem Zb9 (h:Bool):Con (sig g h):=by
 unfold sig
 exact Za1 (Zal _) fun _=>ZbC (Zav (H _)) fun _=>ZbC (Zal _).suf fun _=>ZbC (Zav (H _)) fun _=>Zbg _
include H in
theorem ZbI:Con (block g):=by
 unfold block
 exact ZcA Zbt fun _=>Za1 (Za9 H _ _) fun _=>Zbg _
include H in
theorem Zbh:Con (pattern g):=by
 unfold pattern
 exact ZcA (ZaQ _) fun _=>ZjA (Za1 (Zal _) fun _=>Zbg _) (Za1 Zbj fun _=>ZbC (ZaQ _) fun _=>Zer (ZbC (Za0 H _ _ _).suf fun _=>Zbg _) (Zbg _))
include H in
theorem Zej (a:Int) (b:Nd):Con (spawn g a b):=by
 unfold spawn
 exact Za1 (Zal _) fun _=>ZbC Zbj.suf fun _=>ZbC (Za8 H _ _ _).suf fun _=>ZbC (ZaQ _) fun _=>Zer (ZbC (Zal _).suf fun _=>ZbC (Zav (H _)) fun _=>Zbg _) (Zbg _)
include H in
theorem Zc1 (a:Int):Con (convert g a):=by
 unfold convert
 repeat (with_reducible first | exact Zbg _ | exact Zbt | exact ZaQ _ | exact Zal _ | exact Za5 | exact Zbj | exact ZaS | exact ZaU | exact Za8 H _ _ _ | exact Zav (H _) | apply ZjA | apply Zer | refine ZcA (ZaQ _) (fun _=>?_) | refine Za1 (Zal _) (fun _=>?_) | refine ZbC ?_ (fun _=>?_) | apply Con.suf)
end
section
variable {g:G} (H:∀nt,Suf (g nt)) (K:∀nt,takes nt=true→Con (g nt))
include H in
theorem Zi3 (w:What):Suf (elem1 g w):=by
 cases w <;> simp only [elem1,field,typ,ctor,set,arm,sarm,stmt,member]
 all_goals
  repeat (with_reducible first | exact Zbg _ | exact ZeA | exact Zbt | exact ZaQ _ | exact Zcu _ | exact Zbo _ | exact (Zal _).suf | exact Za5.suf | exact Zbj.suf | exact ZaS.suf | exact ZaU.suf | exact (ZaG _).suf | exact Zek.suf | exact (Za8 H _ _ _).suf | exact (Za0 H _ _ _).suf | exact (Za9 H _ _).suf | exact (Zb9 H _).suf | exact (ZbI H).suf | exact (Zbh H).suf | exact (Zej H _ _).suf | exact (Zc1 H _).suf | exact Zav (H _) | exact H _ | apply Zer | refine ZbC ?_ (fun _=>?_))
include H in
theorem Zov (nt:NT):Suf (body g nt):=by
 cases nt <;> simp only [body,one,seps,many,expr,bin,tail,post,ptail,prim,send,decl,change]
 case one w=>exact ZbC (Zi3 H w) fun _=>Zbg _
 all_goals
  repeat (with_reducible first | exact Zbg _ | exact ZeA | exact Zbt | exact ZaQ _ | exact Zcu _ | exact Zbo _ | exact (Zal _).suf | exact Za5.suf | exact Zbj.suf | exact ZaS.suf | exact ZaU.suf | exact (ZaG _).suf | exact Zek.suf | exact (Za8 H _ _ _).suf | exact (Za0 H _ _ _).suf | exact (Za9 H _ _).suf | exact (Zb9 H _).suf | exact (ZbI H).suf | exact (Zbh H).suf | exact (Zej H _ _).suf | exact (Zc1 H _).suf | exact Zav (H _) | exact H _ | apply Zer | refine ZbC ?_ (fun _=>?_))
include H K in
theorem Zsw (w:What):Con (elem1 g w):=by
 cases w <;> simp only [elem1,field,typ,ctor,set,arm,sarm,stmt,member]
 all_goals
  repeat (with_reducible first | exact Zal _ | exact Za5 | exact Zbj | exact Zek | exact Za8 H _ _ _ | exact Za0 H _ _ _ | exact ZbI H | exact Zej H _ _ | exact Zc1 H _ | exact ZaY (K _ rfl) | apply ZjA | refine ZcA Zbt (fun _=>?_) | refine ZcA (ZaQ _) (fun _=>?_) | refine ZcA (Zbo _) (fun _=>?_) | refine ZcA (Zcu _) (fun _=>?_) | refine Za1 (Zal _) (fun _=>?_) | refine Za1 Za5 (fun _=>?_) | refine Za1 Zbj (fun _=>?_) | refine Za1 ZaU (fun _=>?_) | refine Za1 (ZaG _) (fun _=>?_) | refine Za1 (ZaY (K _ rfl)) (fun _=>?_) | refine Za1 (Zbh H) (fun _=>?_) | refine Za1 (Za8 H _ _ _) (fun _=>?_) | refine Za1 (Za0 H _ _ _) (fun _=>?_) | exact Zbg _ | exact ZeA | exact Zbt | exact ZaQ _ | exact Zcu _ | exact Zbo _ | exact (Zal _).suf | exact Za5.suf | exact Zbj.suf | exact ZaS.suf | exact ZaU.suf | exact (ZaG _).suf | exact Zek.suf | exact (Za8 H _ _ _).suf | exact (Za0 H _ _ _).suf | exact (Za9 H _ _).suf | exact (Zb9 H _).suf | exact (ZbI H).suf | exact (Zbh H).suf | exact (Zej H _ _).suf | exact (Zc1 H _).suf | exact Zav (H _) | exact H _ | apply Zer | refine ZbC ?_ (fun _=>?_))
include H K in
theorem ZuF (nt:NT) (ht:takes nt=true):Con (body g nt):=by
 cases nt <;> simp only [body,one,seps,many,expr,bin,tail,post,ptail,prim,send,decl,change]
 case one w=>exact Za1 (Zsw H K w) fun _=>Zbg _
 case tail=>cases ht
 case ptail=>cases ht
 all_goals
  try (with_reducible refine Za1 ?_ (fun x=>Zbg [x]))
 all_goals
  repeat (with_reducible first | exact Zal _ | exact Za5 | exact Zbj | exact Zek | exact Za8 H _ _ _ | exact Za0 H _ _ _ | exact ZbI H | exact Zej H _ _ | exact Zc1 H _ | exact ZaY (K _ rfl) | apply ZjA | refine ZcA Zbt (fun _=>?_) | refine ZcA (ZaQ _) (fun _=>?_) | refine ZcA (Zbo _) (fun _=>?_) | refine ZcA (Zcu _) (fun _=>?_) | refine Za1 (Zal _) (fun _=>?_) | refine Za1 Za5 (fun _=>?_) | refine Za1 Zbj (fun _=>?_) | refine Za1 ZaU (fun _=>?_) | refine Za1 (ZaG _) (fun _=>?_) | refine Za1 (ZaY (K _ rfl)) (fun _=>?_) | refine Za1 (Zbh H) (fun _=>?_) | refine Za1 (Za8 H _ _ _) (fun _=>?_) | refine Za1 (Za0 H _ _ _) (fun _=>?_) | exact Zbg _ | exact ZeA | exact Zbt | exact ZaQ _ | exact Zcu _ | exact Zbo _ | exact (Zal _).suf | exact Za5.suf | exact Zbj.suf | exact ZaS.suf | exact ZaU.suf | exact (ZaG _).suf | exact Zek.suf | exact (Za8 H _ _ _).suf | exact (Za0 H _ _ _).suf | exact (Za9 H _ _).suf | exact (Zb9 H _).suf | exact (ZbI H).suf | exact (Zbh H).suf | exact (Zej H _ _).suf | exact (Zc1 H _).suf | exact Zav (H _) | exact H _ | apply Zer | refine ZbC ?_ (fun _=>?_))
end
theorem Zdd:∀(m:Nat) (nt:NT),Suf (parse m nt)
 | 0,_=>fun e l x r h=>by cases h
 | m + 1,nt=>Zov (fun nt=>Zdd m nt) nt
theorem ZhR:∀(m:Nat) (nt:NT),takes nt=true→Con (parse m nt)
 | 0,_,_=>fun e l x r h=>by cases h
 | m + 1,nt,ht=>ZuF (fun nt=>Zdd m nt) (fun nt h=>ZhR m nt h) nt ht
def Ad {α:Type} (n:Nat) (p:P α):Prop:=∀e l,l.length≤n→p e l≠.out
def good:NT→Bool
 | .bin v _=>decide (1≤v∧v≤9)
 | .tail v _ _ _=>decide (1≤v∧v≤8)
 | _=>true
def rank:NT→Nat
 | .prim _=>0
 | .post _=>1
 | .bin v _=>11 - v
 | .expr _=>11
 | .send=>0
 | .decl=>0
 | .change=>1
 | .one _=>12
 | .seps _ _=>13
 | .many _ _=>13
 | .tail ..=>0
 | .ptail ..=>0
theorem ZbL {α:Type} {n:Nat} (x:α):Ad n (pure x:P α):=fun e l _ h=>by cases h
theorem ZgH {α:Type} {n:Nat} : Ad n (fail:P α):=fun e l _ h=>by unfold fail at h;split at h <;> cases h
theorem ZcS {n:Nat} (f:Tk→Bool):Ad n (Zed f):=fun e l _ h=>by
 unfold Zed at h
 split at h
 ·cases h
 ·split at h <;> cases h
theorem Zb2 {n:Nat} (s:Bs):Ad n (must s):=ZcS _
theorem Zf0 {α β:Type} {n:Nat} {p:P α} {f:α→P β} (h1:Ad n p) (h2:Suf p) (h3:∀x,Ad n (f x)):Ad n (p >>= f):=fun e l hl h=>by
 have h':P.bind p f e l=.out:=h
 unfold P.bind at h'
 cases hp:p e l with
 | out=>exact h1 e l hl hp
 | err a=>rw [hp] at h';cases h'
 | ok x r=>
  rw [hp] at h'
  obtain ⟨q,hq⟩:=h2 e l x r hp
  refine h3 x e r ?_ h'
  rw [hq,List.length_append] at hl;omega
theorem Zai {α β:Type} {n:Nat} {p:P α} {f:α→P β} (h1:Ad n p) (h2:Con p) (h3:∀x n',n' < n→Ad n' (f x)):Ad n (p >>= f):=fun e l hl h=>by
 have h':P.bind p f e l=.out:=h
 unfold P.bind at h'
 cases hp:p e l with
 | out=>exact h1 e l hl hp
 | err a=>rw [hp] at h';cases h'
 | ok x r=>
  rw [hp] at h'
  obtain ⟨t,q,hq⟩:=h2 e l x r hp
  refine h3 x r.length ?_ e r (Nat.le_refl _) h'
  rw [hq] at hl;simp at hl;omega
theorem ZbN {β:Type} {n:Nat} {f:Int→P β} (h:∀x,Ad n (f x)):Ad n (here >>= f):=Zf0 (fun e l _ h=>by unfold here at h;split at h <;> cases h) Zbt h
theorem Zbi {β:Type} {n:Nat} {s:Bs} {f:Bool→P β} (h:∀x,Ad n (f x)):Ad n (ZaC s >>= f):=Zf0 (fun e l _ h=>by unfold ZaC at h;split at h <;> cases h) (ZaQ _) h
theorem ZbT {β:Type} {n:Nat} {v:Nat} {f:Bool→P β} (h:∀x,Ad n (f x)):Ad n (Zft v >>= f):=Zf0 (fun e l _ h=>by unfold Zft at h;split at h <;> cases h) (Zcu _) h
theorem Zcb {β:Type} {n:Nat} {s:Tk→Bool} {f:Bool→P β} (h:∀x,Ad n (f x)):Ad n (ZeR s >>= f):=Zf0 (fun e l _ h=>by unfold ZeR at h;split at h <;> cases h) (Zbo _) h
theorem Zen {α:Type} {n:Nat} {c:Prop} [Decidable c] {p q:P α} (h1:Ad n p) (h2:Ad n q):Ad n (if c then p else q):=by
 split
 ·exact h1
 ·exact h2
theorem Zem {n:Nat} : Ad n low:=Zai (ZcS _) (ZaG _) fun _ _ _=>ZbL _
theorem ZgG {n:Nat} : Ad n up:=Zai (ZcS _) (ZaG _) fun _ _ _=>ZbL _
theorem Zdv {n:Nat} : Ad n Zdn:=Zai (ZcS _) (ZaG _) fun _ _ _=>ZbL _
theorem Zel {n:Nat} : Ad n number:=Zai (ZcS _) (ZaG _) fun _ _ _=>ZbL _
theorem ZaM {n:Nat} {p:P (List Nd)} (h:Ad n p):Ad n (single p):=fun e l hl h'=>by
 unfold single at h'
 have h2:P.bind p _ e l=.out:=h'
 unfold P.bind at h2
 cases hp:p e l with
 | out=>exact h e l hl hp
 | err a=>rw [hp] at h2;cases h2
 | ok x r=>
  rw [hp] at h2
  simp only at h2
  split at h2
  ·cases h2
  ·unfold fail at h2;split at h2 <;> cases h2
theorem Zff {n:Nat} : Ad n Zfk:=by
 unfold Zfk
 exact ZbN fun _=>Zbi fun _=>Zen (Zai (Zb2 _) (Zal _) fun _ _ _=>ZbL _) (Zai Zem Za5 fun _ _ _=>ZbL _)
section
variable {g:G} {n:Nat}
theorem Zdb (F:∀n',n' < n→∀nt,good nt=true→Ad n' (g nt)) (o:Bs) (w:What) (s:Bs):Ad n (list g o w s):=by
 unfold list
 exact Zai (Zb2 _) (Zal _) fun _ n' hn=>Zbi fun _=>Zen (Zai (Zb2 _) (Zal _) fun _ _ _=>ZbL _) (F n' hn _ rfl)
theorem Zcm (F:∀n',n' < n→∀nt,good nt=true→Ad n' (g nt)) (o:Bs) (w:What) (s:Bs):Ad n (some1 g o w s):=by
 unfold some1
 exact Zai (Zb2 _) (Zal _) fun _ n' hn=>F n' hn _ rfl
theorem ZeG (F:∀n',n' < n→∀nt,good nt=true→Ad n' (g nt)) (w:What) (b:Bool):Ad n (many1 g w b):=by
 unfold many1
 exact Zai (Zb2 _) (Zal _) fun _ n' hn=>F n' hn _ rfl
end
section
variable {g:G} (H:∀nt,Suf (g nt)) (K:∀nt,takes nt=true→Con (g nt)) {n:Nat}
include H in
theorem Zfe (F:∀n',n' < n→∀nt,good nt=true→Ad n' (g nt)):Ad n (block g):=by
 unfold block
 exact ZbN fun _=>Zai (ZeG F _ _) (Za9 H _ _) fun _ _ _=>ZbL _
include H in
theorem Zdu (F:∀n',n' < n→∀nt,good nt=true→Ad n' (g nt)):Ad n (pattern g):=by
 unfold pattern
 exact Zbi fun _=>Zen (Zai (Zb2 _) (Zal _) fun _ _ _=>ZbL _) (Zai ZgG Zbj fun _ n' hn=>Zbi fun _=>Zen (Zai (Zcm (fun m h=>F m (by omega)) _ _ _) (Za0 H _ _ _) fun _ _ _=>ZbL _) (ZbL _))
include K in
theorem ZjF (F:∀n',n' < n→∀nt,good nt=true→Ad n' (g nt)) (h:Bool):Ad n (sig g h):=by
 unfold sig
 repeat (with_reducible first | exact ZbL _ | exact ZgH | exact Zb2 _ | exact ZgG | exact Zem | exact Zff | exact ZaM (F _ (by omega) _ rfl) | exact F _ (by omega) _ rfl | exact Zdb (fun n' h=>F n' (by omega)) _ _ _ | exact Zcm (fun n' h=>F n' (by omega)) _ _ _ | apply Zen | refine ZbN (fun _=>?_) | refine Zbi (fun _=>?_) | refine Zcb (fun _=>?_) | refine ZbT (fun _=>?_) | refine Zai (Zb2 _) (Zal _) (fun _ n' hn=>?_) | refine Zai Zem Za5 (fun _ n' hn=>?_) | refine Zai ZgG Zbj (fun _ n' hn=>?_) | refine Zai Zdv ZaS (fun _ n' hn=>?_) | refine Zai Zel ZaU (fun _ n' hn=>?_) | refine Zai (ZcS _) (ZaG _) (fun _ n' hn=>?_) | refine Zai (ZaM (F _ (by omega) _ rfl)) (ZaY (K _ rfl)) (fun _ n' hn=>?_) | refine Zai (Zdb (fun n' h=>F n' (by omega)) _ _ _) (Za8 H _ _ _) (fun _ n' hn=>?_) | refine Zai (Zcm (fun n' h=>F n' (by omega)) _ _ _) (Za0 H _ _ _) (fun _ n' hn=>?_) | refine Zai (ZeG (fun n' h=>F n' (by omega)) _ _) (Za9 H _ _) (fun _ n' hn=>?_) | refine Zai (Zfe H (fun n' h=>F n' (by omega))) (ZbI H) (fun _ n' hn=>?_) | refine Zai (Zdu H (fun n' h=>F n' (by omega))) (Zbh H) (fun _ n' hn=>?_) | refine Zai (F _ (by omega) _ rfl) (K _ rfl) (fun _ n' hn=>?_))
include H K in
theorem Zg2 (F:∀n',n' < n→∀nt,good nt=true→Ad n' (g nt)) (a:Int) (b:Nd):Ad n (spawn g a b):=by
 unfold spawn
 repeat (with_reducible first | exact ZbL _ | exact ZgH | exact Zb2 _ | exact ZgG | exact Zem | exact Zff | exact ZaM (F _ (by omega) _ rfl) | exact F _ (by omega) _ rfl | exact Zdb (fun n' h=>F n' (by omega)) _ _ _ | exact Zcm (fun n' h=>F n' (by omega)) _ _ _ | apply Zen | refine ZbN (fun _=>?_) | refine Zbi (fun _=>?_) | refine Zcb (fun _=>?_) | refine ZbT (fun _=>?_) | refine Zai (Zb2 _) (Zal _) (fun _ n' hn=>?_) | refine Zai Zem Za5 (fun _ n' hn=>?_) | refine Zai ZgG Zbj (fun _ n' hn=>?_) | refine Zai Zdv ZaS (fun _ n' hn=>?_) | refine Zai Zel ZaU (fun _ n' hn=>?_) | refine Zai (ZcS _) (ZaG _) (fun _ n' hn=>?_) | refine Zai (ZaM (F _ (by omega) _ rfl)) (ZaY (K _ rfl)) (fun _ n' hn=>?_) | refine Zai (Zdb (fun n' h=>F n' (by omega)) _ _ _) (Za8 H _ _ _) (fun _ n' hn=>?_) | refine Zai (Zcm (fun n' h=>F n' (by omega)) _ _ _) (Za0 H _ _ _) (fun _ n' hn=>?_) | refine Zai (ZeG (fun n' h=>F n' (by omega)) _ _) (Za9 H _ _) (fun _ n' hn=>?_) | refine Zai (ZjF K (fun n' h=>F n' (by omega)) _) (Zb9 H _) (fun _ n' hn=>?_) | refine Zai (Zfe H (fun n' h=>F n' (by omega))) (ZbI H) (fun _ n' hn=>?_) | refine Zai (Zdu H (fun n' h=>F n' (by omega))) (Zbh H) (fun _ n' hn=>?_) | refine Zai (F _ (by omega) _ rfl) (K _ rfl) (fun _ n' hn=>?_))
include H K in
theorem ZfG (F:∀n',n' < n→∀nt,good nt=true→Ad n' (g nt)) (a:Int):Ad n (convert g a):=by
 unfold convert
 repeat (with_reducible first | exact ZbL _ | exact ZgH | exact Zb2 _ | exact ZgG | exact Zem | exact Zff | exact ZaM (F _ (by omega) _ rfl) | exact F _ (by omega) _ rfl | exact Zdb (fun n' h=>F n' (by omega)) _ _ _ | exact Zcm (fun n' h=>F n' (by omega)) _ _ _ | exact Zg2 H K (fun n' h=>F n' (by omega)) _ _ | apply Zen | refine ZbN (fun _=>?_) | refine Zbi (fun _=>?_) | refine Zcb (fun _=>?_) | refine ZbT (fun _=>?_) | refine Zai (Zb2 _) (Zal _) (fun _ n' hn=>?_) | refine Zai Zem Za5 (fun _ n' hn=>?_) | refine Zai ZgG Zbj (fun _ n' hn=>?_) | refine Zai Zdv ZaS (fun _ n' hn=>?_) | refine Zai Zel ZaU (fun _ n' hn=>?_) | refine Zai (ZcS _) (ZaG _) (fun _ n' hn=>?_) | refine Zai (ZaM (F _ (by omega) _ rfl)) (ZaY (K _ rfl)) (fun _ n' hn=>?_) | refine Zai (Zdb (fun n' h=>F n' (by omega)) _ _ _) (Za8 H _ _ _) (fun _ n' hn=>?_) | refine Zai (Zcm (fun n' h=>F n' (by omega)) _ _ _) (Za0 H _ _ _) (fun _ n' hn=>?_) | refine Zai (ZeG (fun n' h=>F n' (by omega)) _ _) (Za9 H _ _) (fun _ n' hn=>?_) | refine Zai (ZjF K (fun n' h=>F n' (by omega)) _) (Zb9 H _) (fun _ n' hn=>?_) | refine Zai (Zfe H (fun n' h=>F n' (by omega))) (ZbI H) (fun _ n' hn=>?_) | refine Zai (Zdu H (fun n' h=>F n' (by omega))) (Zbh H) (fun _ n' hn=>?_) | refine Zai (F _ (by omega) _ rfl) (K _ rfl) (fun _ n' hn=>?_))
include H K in
theorem ZuM (F:∀n',n' < n→∀nt,good nt=true→Ad n' (g nt)) (E:∀nt,good nt=true→rank nt < 12→Ad n (g nt)) (w:What):Ad n (elem1 g w):=by
 cases w <;> simp only [elem1,field,typ,ctor,set,arm,sarm,stmt,member]
 all_goals
  repeat (with_reducible first | exact ZbL _ | exact ZgH | exact Zb2 _ | exact ZgG | exact Zem | exact Zff | exact ZaM (F _ (by omega) _ rfl) | exact F _ (by omega) _ rfl | exact ZaM (E _ rfl (by simp [rank])) | exact E _ rfl (by simp [rank]) | exact Zdb (fun n' h=>F n' (by omega)) _ _ _ | exact Zcm (fun n' h=>F n' (by omega)) _ _ _ | exact Zg2 H K (fun n' h=>F n' (by omega)) _ _ | exact ZfG H K (fun n' h=>F n' (by omega)) _ | apply Zen | refine ZbN (fun _=>?_) | refine Zbi (fun _=>?_) | refine Zcb (fun _=>?_) | refine ZbT (fun _=>?_) | refine Zai (Zb2 _) (Zal _) (fun _ n' hn=>?_) | refine Zai Zem Za5 (fun _ n' hn=>?_) | refine Zai ZgG Zbj (fun _ n' hn=>?_) | refine Zai Zdv ZaS (fun _ n' hn=>?_) | refine Zai Zel ZaU (fun _ n' hn=>?_) | refine Zai (ZcS _) (ZaG _) (fun _ n' hn=>?_) | refine Zai (ZaM (F _ (by omega) _ rfl)) (ZaY (K _ rfl)) (fun _ n' hn=>?_) | refine Zai (ZaM (E _ rfl (by simp [rank]))) (ZaY (K _ rfl)) (fun _ n' hn=>?_) | refine Zai (Zdb (fun n' h=>F n' (by omega)) _ _ _) (Za8 H _ _ _) (fun _ n' hn=>?_) | refine Zai (Zcm (fun n' h=>F n' (by omega)) _ _ _) (Za0 H _ _ _) (fun _ n' hn=>?_) | refine Zai (ZeG (fun n' h=>F n' (by omega)) _ _) (Za9 H _ _) (fun _ n' hn=>?_) | refine Zai (ZjF K (fun n' h=>F n' (by omega)) _) (Zb9 H _) (fun _ n' hn=>?_) | refine Zai (Zfe H (fun n' h=>F n' (by omega))) (ZbI H) (fun _ n' hn=>?_) | refine Zai (Zdu H (fun n' h=>F n' (by omega))) (Zbh H) (fun _ n' hn=>?_) | refine Zai (F _ (by omega) _ rfl) (K _ rfl) (fun _ n' hn=>?_))
include H K in
theorem Zxf (F:∀n',n' < n→∀nt,good nt=true→Ad n' (g nt)) (nt:NT) (hg:good nt=true) (E:∀nt',good nt'=true→rank nt' < rank nt→Ad n (g nt')):Ad n (body g nt):=by
 cases nt <;> simp only [body,one,seps,many,expr,bin,tail,post,ptail,prim,send,decl,change]
 case one w=>exact Zf0 (ZuM H K F E w) (Zi3 H w) fun _=>ZbL _
 case bin v h=>
  have hv:1≤v∧v≤9:=of_decide_eq_true hg
  refine Zf0 ?_ ?_ fun _=>ZbL _
  ·refine ZbN fun _=>?_
   by_cases h9:v=9
   ·subst h9
    exact ZaM (E _ rfl (by simp [rank]))
   ·rw [if_neg (by simpa using h9)]
    by_cases h3:v=3
    ·subst h3
     rw [if_pos (by decide)]
     exact Zbi fun _=>Zen (Zai (Zb2 _) (Zal _) fun _ n' hn=>Zai (ZaM (F _ hn _ rfl)) (ZaY (K _ rfl)) fun _ _ _=>ZbL _) (ZaM (E _ rfl (by simp [rank])))
    ·rw [if_neg (by simpa using h3)]
     by_cases h8:v=8
     ·subst h8
      rw [if_pos (by decide)]
      exact Zbi fun _=>Zen (Zai (Zb2 _) (Zal _) fun _ n' hn=>Zai (ZaM (F _ hn _ rfl)) (ZaY (K _ rfl)) fun _ _ _=>ZbL _) (ZaM (E _ rfl (by simp [rank])))
     ·rw [if_neg (by simpa using h8)]
      have e1:good (.bin (v + 1) h)=true:=decide_eq_true (by omega)
      have e2:∀a x,good (.tail v h a x)=true:=fun _ _=>decide_eq_true (by omega)
      exact Zai (ZaM (E _ e1 (by simp [rank];omega))) (ZaY (K _ rfl)) fun _ n' hn=>ZaM (F _ hn _ (e2 _ _))
  ·repeat (with_reducible first | exact Zbg _ | exact Zav (H _) | apply Zer | exact (Zal _).suf | exact Zbt | exact ZaQ _ | refine ZbC ?_ (fun _=>?_))
 case tail v h a x=>
  have hv:1≤v∧v≤8:=of_decide_eq_true hg
  have e1:good (.bin (v + 1) h)=true:=decide_eq_true (by omega)
  have e2:∀a x,good (.tail v h a x)=true:=fun _ _=>decide_eq_true (by omega)
  refine Zf0 ?_ ?_ fun _=>ZbL _
  ·exact ZbT fun _=>Zen (Zai (ZcS _) (ZaG _) fun _ n' hn=>Zai (ZaM (F _ hn _ e1)) (ZaY (K _ rfl)) fun _ n2 hn2=>Zen (ZbL _) (ZaM (F _ (by omega) _ (e2 _ _)))) (ZbL _)
  ·repeat (with_reducible first | exact Zbg _ | exact Zav (H _) | apply Zer | exact (ZaG _).suf | exact Zcu _ | refine ZbC ?_ (fun _=>?_))
 case seps s w=>
  have e1:Ad n (g (.one w)):=E _ rfl (by simp [rank])
  refine Zai (ZaM e1) (ZaY (K _ rfl)) (fun _ n' hn=>?_)
  (repeat (with_reducible first | exact ZbL _ | exact ZgH | exact Zb2 _ | exact ZgG | exact Zem | exact Zff | exact ZaM (F _ (by omega) _ rfl) | exact F _ (by omega) _ rfl | exact ZaM (E _ rfl (by simp [rank])) | exact E _ rfl (by simp [rank]) | exact Zdb (fun n' h=>F n' (by omega)) _ _ _ | exact Zcm (fun n' h=>F n' (by omega)) _ _ _ | exact Zg2 H K (fun n' h=>F n' (by omega)) _ _ | exact ZfG H K (fun n' h=>F n' (by omega)) _ | apply Zen | refine ZbN (fun _=>?_) | refine Zbi (fun _=>?_) | refine Zcb (fun _=>?_) | refine ZbT (fun _=>?_) | refine Zai (Zb2 _) (Zal _) (fun _ n' hn=>?_) | refine Zai Zem Za5 (fun _ n' hn=>?_) | refine Zai ZgG Zbj (fun _ n' hn=>?_) | refine Zai Zdv ZaS (fun _ n' hn=>?_) | refine Zai Zel ZaU (fun _ n' hn=>?_) | refine Zai (ZcS _) (ZaG _) (fun _ n' hn=>?_) | refine Zai (ZaM (F _ (by omega) _ rfl)) (ZaY (K _ rfl)) (fun _ n' hn=>?_) | refine Zai (ZaM (E _ rfl (by simp [rank]))) (ZaY (K _ rfl)) (fun _ n' hn=>?_) | refine Zai (Zdb (fun n' h=>F n' (by omega)) _ _ _) (Za8 H _ _ _) (fun _ n' hn=>?_) | refine Zai (Zcm (fun n' h=>F n' (by omega)) _ _ _) (Za0 H _ _ _) (fun _ n' hn=>?_) | refine Zai (ZeG (fun n' h=>F n' (by omega)) _ _) (Za9 H _ _) (fun _ n' hn=>?_) | refine Zai (ZjF K (fun n' h=>F n' (by omega)) _) (Zb9 H _) (fun _ n' hn=>?_) | refine Zai (Zfe H (fun n' h=>F n' (by omega))) (ZbI H) (fun _ n' hn=>?_) | refine Zai (Zdu H (fun n' h=>F n' (by omega))) (Zbh H) (fun _ n' hn=>?_) | refine Zai (F _ (by omega) _ rfl) (K _ rfl) (fun _ n' hn=>?_)))
 case many w b=>
  have e1:Ad n (g (.one w)):=E _ rfl (by simp [rank])
  refine Zbi fun _=>Zen (Zai (Zb2 _) (Zal _) fun _ _ _=>ZbL _) (Zai (ZaM e1) (ZaY (K _ rfl)) fun _ n' hn=>?_)
  (repeat (with_reducible first | exact ZbL _ | exact ZgH | exact Zb2 _ | exact ZgG | exact Zem | exact Zff | exact ZaM (F _ (by omega) _ rfl) | exact F _ (by omega) _ rfl | exact ZaM (E _ rfl (by simp [rank])) | exact E _ rfl (by simp [rank]) | exact Zdb (fun n' h=>F n' (by omega)) _ _ _ | exact Zcm (fun n' h=>F n' (by omega)) _ _ _ | exact Zg2 H K (fun n' h=>F n' (by omega)) _ _ | exact ZfG H K (fun n' h=>F n' (by omega)) _ | apply Zen | refine ZbN (fun _=>?_) | refine Zbi (fun _=>?_) | refine Zcb (fun _=>?_) | refine ZbT (fun _=>?_) | refine Zai (Zb2 _) (Zal _) (fun _ n' hn=>?_) | refine Zai Zem Za5 (fun _ n' hn=>?_) | refine Zai ZgG Zbj (fun _ n' hn=>?_) | refine Zai Zdv ZaS (fun _ n' hn=>?_) | refine Zai Zel ZaU (fun _ n' hn=>?_) | refine Zai (ZcS _) (ZaG _) (fun _ n' hn=>?_) | refine Zai (ZaM (F _ (by omega) _ rfl)) (ZaY (K _ rfl)) (fun _ n' hn=>?_) | refine Zai (ZaM (E _ rfl (by simp [rank]))) (ZaY (K _ rfl)) (fun _ n' hn=>?_) | refine Zai (Zdb (fun n' h=>F n' (by omega)) _ _ _) (Za8 H _ _ _) (fun _ n' hn=>?_) | refine Zai (Zcm (fun n' h=>F n' (by omega)) _ _ _) (Za0 H _ _ _) (fun _ n' hn=>?_) | refine Zai (ZeG (fun n' h=>F n' (by omega)) _ _) (Za9 H _ _) (fun _ n' hn=>?_) | refine Zai (ZjF K (fun n' h=>F n' (by omega)) _) (Zb9 H _) (fun _ n' hn=>?_) | refine Zai (Zfe H (fun n' h=>F n' (by omega))) (ZbI H) (fun _ n' hn=>?_) | refine Zai (Zdu H (fun n' h=>F n' (by omega))) (Zbh H) (fun _ n' hn=>?_) | refine Zai (F _ (by omega) _ rfl) (K _ rfl) (fun _ n' hn=>?_)))
 case expr h=>
  have e1:Ad n (g (.bin 1 h)):=E _ rfl (by simp [rank])
  refine Zf0 ?_ ?_ (fun x=>ZbL [x])
  ·refine ZbN fun a=>?_
   repeat (with_reducible first | exact ZbL _ | exact ZgH | exact Zb2 _ | exact ZgG | exact Zem | exact Zff | exact ZaM (F _ (by omega) _ rfl) | exact F _ (by omega) _ rfl | exact ZaM (E _ rfl (by simp [rank])) | exact E _ rfl (by simp [rank]) | exact Zdb (fun n' h=>F n' (by omega)) _ _ _ | exact Zcm (fun n' h=>F n' (by omega)) _ _ _ | exact Zg2 H K (fun n' h=>F n' (by omega)) _ _ | exact ZfG H K (fun n' h=>F n' (by omega)) _ | apply Zen | refine ZbN (fun _=>?_) | refine Zbi (fun _=>?_) | refine Zcb (fun _=>?_) | refine ZbT (fun _=>?_) | refine Zai (Zb2 _) (Zal _) (fun _ n' hn=>?_) | refine Zai Zem Za5 (fun _ n' hn=>?_) | refine Zai ZgG Zbj (fun _ n' hn=>?_) | refine Zai Zdv ZaS (fun _ n' hn=>?_) | refine Zai Zel ZaU (fun _ n' hn=>?_) | refine Zai (ZcS _) (ZaG _) (fun _ n' hn=>?_) | refine Zai (ZaM (F _ (by omega) _ rfl)) (ZaY (K _ rfl)) (fun _ n' hn=>?_) | refine Zai (ZaM (E _ rfl (by simp [rank]))) (ZaY (K _ rfl)) (fun _ n' hn=>?_) | refine Zai (Zdb (fun n' h=>F n' (by omega)) _ _ _) (Za8 H _ _ _) (fun _ n' hn=>?_) | refine Zai (Zcm (fun n' h=>F n' (by omega)) _ _ _) (Za0 H _ _ _) (fun _ n' hn=>?_) | refine Zai (ZeG (fun n' h=>F n' (by omega)) _ _) (Za9 H _ _) (fun _ n' hn=>?_) | refine Zai (ZjF K (fun n' h=>F n' (by omega)) _) (Zb9 H _) (fun _ n' hn=>?_) | refine Zai (Zfe H (fun n' h=>F n' (by omega))) (ZbI H) (fun _ n' hn=>?_) | refine Zai (Zdu H (fun n' h=>F n' (by omega))) (Zbh H) (fun _ n' hn=>?_) | refine Zai (F _ (by omega) _ rfl) (K _ rfl) (fun _ n' hn=>?_) | exact ZaM e1)
  ·(repeat (with_reducible first | exact Zbg _ | exact ZeA | exact Zbt | exact ZaQ _ | exact Zcu _ | exact Zbo _ | exact (Zal _).suf | exact Za5.suf | exact Zbj.suf | exact ZaS.suf | exact ZaU.suf | exact (ZaG _).suf | exact Zek.suf | exact (Za8 H _ _ _).suf | exact (Za0 H _ _ _).suf | exact (Za9 H _ _).suf | exact (Zb9 H _).suf | exact (ZbI H).suf | exact (Zbh H).suf | exact (Zej H _ _).suf | exact (Zc1 H _).suf | exact Zav (H _) | exact H _ | apply Zer | refine ZbC ?_ (fun _=>?_)))
 all_goals
  first
   | (refine Zf0 ?_ ?_ (fun x=>ZbL [x])
      ·(repeat (with_reducible first | exact ZbL _ | exact ZgH | exact Zb2 _ | exact ZgG | exact Zem | exact Zff | exact ZaM (F _ (by omega) _ rfl) | exact F _ (by omega) _ rfl | exact ZaM (E _ rfl (by simp [rank])) | exact E _ rfl (by simp [rank]) | exact Zdb (fun n' h=>F n' (by omega)) _ _ _ | exact Zcm (fun n' h=>F n' (by omega)) _ _ _ | exact Zg2 H K (fun n' h=>F n' (by omega)) _ _ | exact ZfG H K (fun n' h=>F n' (by omega)) _ | apply Zen | refine ZbN (fun _=>?_) | refine Zbi (fun _=>?_) | refine Zcb (fun _=>?_) | refine ZbT (fun _=>?_) | refine Zai (Zb2 _) (Zal _) (fun _ n' hn=>?_) | refine Zai Zem Za5 (fun _ n' hn=>?_) | refine Zai ZgG Zbj (fun _ n' hn=>?_) | refine Zai Zdv ZaS (fun _ n' hn=>?_) | refine Zai Zel ZaU (fun _ n' hn=>?_) | refine Zai (ZcS _) (ZaG _) (fun _ n' hn=>?_) | refine Zai (ZaM (F _ (by omega) _ rfl)) (ZaY (K _ rfl)) (fun _ n' hn=>?_) | refine Zai (ZaM (E _ rfl (by simp [rank]))) (ZaY (K _ rfl)) (fun _ n' hn=>?_) | refine Zai (Zdb (fun n' h=>F n' (by omega)) _ _ _) (Za8 H _ _ _) (fun _ n' hn=>?_) | refine Zai (Zcm (fun n' h=>F n' (by omega)) _ _ _) (Za0 H _ _ _) (fun _ n' hn=>?_) | refine Zai (ZeG (fun n' h=>F n' (by omega)) _ _) (Za9 H _ _) (fun _ n' hn=>?_) | refine Zai (ZjF K (fun n' h=>F n' (by omega)) _) (Zb9 H _) (fun _ n' hn=>?_) | refine Zai (Zfe H (fun n' h=>F n' (by omega))) (ZbI H) (fun _ n' hn=>?_) | refine Zai (Zdu H (fun n' h=>F n' (by omega))) (Zbh H) (fun _ n' hn=>?_) | refine Zai (F _ (by omega) _ rfl) (K _ rfl) (fun _ n' hn=>?_)))
      ·(repeat (with_reducible first | exact Zbg _ | exact ZeA | exact Zbt | exact ZaQ _ | exact Zcu _ | exact Zbo _ | exact (Zal _).suf | exact Za5.suf | exact Zbj.suf | exact ZaS.suf | exact ZaU.suf | exact (ZaG _).suf | exact Zek.suf | exact (Za8 H _ _ _).suf | exact (Za0 H _ _ _).suf | exact (Za9 H _ _).suf | exact (Zb9 H _).suf | exact (ZbI H).suf | exact (Zbh H).suf | exact (Zej H _ _).suf | exact (Zc1 H _).suf | exact Zav (H _) | exact H _ | apply Zer | refine ZbC ?_ (fun _=>?_))))
   | trace_state
end
theorem ZfZ:∀(N n:Nat) (nt:NT),good nt=true→14 * n + rank nt < N→Ad n (parse N nt)
 | 0,_,_,_,h=>by omega
 | N + 1,n,nt,hg,h=>by
  refine Zxf (fun nt=>Zdd N nt) (fun nt k=>ZhR N nt k) (fun n' hn nt' hg'=>ZfZ N n' nt' hg' ?_) nt hg (fun nt' hg' hr=>ZfZ N n nt' hg' (by omega))
  have:rank nt'≤13:=by
   cases nt' <;> simp [rank]
   simp [good] at hg';omega
  omega
theorem Ev.total (e:Int) (nt:NT) (l:List Tok) (hg:good nt=true):∃r,Ev e nt l r:=
 ⟨_,ZfZ (14 * l.length + rank nt + 1) l.length nt hg (by omega) e l (Nat.le_refl _),_,rfl⟩
def sub {α:Type} (l:List α) (i j:Int):List α:=(l.take j.toNat).drop i.toNat
def kid0:Nd:=.mk 0 [] 0 0 []
def kid (c:List Nd) (i:Int):Nd:=if i < 0 then kid0 else c.getD i.toNat kid0
def part (rs:List (List Tk)) (i:Int):List Tk:=if i < 0 then [] else rs.getD i.toNat []
def nm (s:Bs):Tk:=⟨1,s,0⟩
def mkt (s:Bs):Tk:=⟨4,s,0⟩
def int (n:Int):Tk:=⟨2,[],n⟩
def str (s:Bs):Tk:=⟨3,s,0⟩
def commas:List (List Tk)→List Tk
 | []=>[]
 | [x]=>x
 | x::y::l=>x++mkt mCm::commas (y::l)
def inB (o:Bs) (rs:List (List Tk)) (s:Bs):List Tk:=mkt o::(commas rs++[mkt s])
def Zju (rs:List (List Tk)):List Tk:=mkt mLb::(rs.flatten++[mkt mRb])
def paren (r:List Tk):List Tk:=mkt mLp::(r++[mkt mRp])
def tight (x:Nd):Nat:=
 if x.k=36∨x.k=37∨x.k=38∨x.k=41 then 0 else if x.k=35 then level x.t else if x.k=34 then 3 else if x.k=33 then 8
 else if x.k=30∨x.k=31∨x.k=32 then 9 else 10
def operand (x:Nd) (r:List Tk) (v:Nat):List Tk:=if tight x < v then paren r else r
def nfields:List Nd→Nat
 | []=>0
 | x::l=>if x.k=7 then nfields l + 1 else 0
def bound (s:Bs) (rs:List (List Tk)):List Tk:=if s=ZdF then [mkt ZdF] else nm s::(if rs=[] then [] else inB mLp rs mRp)
def comb (k:Int) (t:Bs) (n:Int) (c:List Nd) (rs:List (List Tk)):List Tk:=
 let len:Int:=rs.length
 if k=2 then nm Zcg::nm t::inB mLb rs mRb
 else if k=3 then nm ZbS::nm t::inB mLb rs mRb
 else if k=4 then nm Zct::nm t::(inB mLp (sub rs 0 (len - 1)) mRp++mkt ZfH::part rs (len - 1))
 else if k=5 then nm Zd7::nm t::(inB mLp (sub rs 0 (len - 2)) mRp++mkt ZfH::(part rs (len - 2)++mkt mEq::part rs (len - 1)))
 else if k=6 then nm ZbV::nm t::(inB mLp (rs.take (nfields c)) mRp++((if n < 0 then [nm ZbU] else [])++((if 0 < n then [nm Zcl,int (n - 1)] else [])++Zju (rs.drop (nfields c)))))
 else if k=9 then nm Zec::nm t::mkt ZfH::(part rs 0++mkt mEq::part rs 1)
 else if k=10 then nm wOn::nm t::(inB mLp (sub rs 0 (len - 1)) mRp++part rs (len - 1))
 else if k=12 then [nm t]
 else if k=13 then mkt mLk::(part rs 0++[mkt mRk])
 else if k=14 then [nm Zm5,nm t]
 else if k=15 then nm Zd7::(inB mLp (sub rs 0 (len - 1)) mRp++mkt ZfH::part rs (len - 1))
 else if k=7 then nm t::mkt ZfH::part rs 0
 else if k=8 then bound t rs
 else if k=11 then Zju rs
 else if k=50 then nm Zfl::nm t::mkt mEq::part rs 0
 else if k=51 then nm t::mkt mEq::part rs 0
 else if k=52 then nm wIf::(paren (part rs 0)++(part rs 1++(if len=3 then nm Zfo::part rs 2 else [])))
 else if k=53 then nm ZbR::(paren (part rs 0)++Zju (rs.drop 1))
 else if k=54 then bound t (sub rs 0 (len - 1))++part rs (len - 1)
 else if k=55 then nm Zkt::nm t::nm wIn::(paren (part rs 0)++part rs 1)
 else if k=56 then nm Zd0::(part rs 0++nm t::inB mLp (rs.drop 1) mRp)
 else if k=57 then nm ZdS::(part rs 0++part rs 1)
 else if k=58 then (if (kid c 0).t=ZdF then [] else [nm Zfl,nm (kid c 0).t,mkt mEq])++
  (nm Zce::nm t::(inB mLp (if n=1 then sub rs 1 (len - 1) else rs.drop 1) mRp++(if n=1 then nm wOn::part rs (len - 1) else [])))
 else if k=59 then nm wDo::nm t::(inB mLp (sub rs 0 (len - 1)) mRp++[nm Zit,nm (kid c (len - 1)).t])
 else if k=60 then [nm Zg4]
 else if k=61 then nm Zg9::part rs 0
 else if k=70 then nm Za2::nm ZfI::nm t::((if n=1 then [mkt ZdG,nm (kid c 0).t] else [])++(inB mLp (sub rs (if n=1 then 1 else 0) (len - 1)) mRp++mkt mEq::part rs (len - 1)))
 else if k=71 then nm Za2::nm ZbV::nm t::(inB mLp (rs.take (nfields c)) mRp++inB mLb (rs.drop (nfields c)) mRb)
 else if k=73 then [nm Zeo,nm t,nm wTo,int n]
 else if k=74 then [nm Zez,nm t]
 else if k=37 then nm Zfl::nm t::mkt mEq::(part rs 0++nm wIn::part rs 1)
 else if k=36 then nm wIf::(part rs 0++nm Zit::(part rs 1++nm Zfo::part rs 2))
 else if k=38 then nm ZbR::(paren (part rs 0)++inB mLb (rs.drop 1) mRb)
 else if k=41 then nm Zd7::(inB mLp (sub rs 0 (len - 2)) mRp++mkt ZfH::(part rs (len - 2)++mkt mEq::part rs (len - 1)))
 else if k=30 then operand (kid c 0) (part rs 0) 9++[mkt ZdG,nm t]
 else if k=31 then operand (kid c 0) (part rs 0) 9++nm Zda::inB mLb (rs.drop 1) mRb
 else if k=32 then (if (kid c 0).k=29∧(kid c 0).c.length=0 then paren (part rs 0) else operand (kid c 0) (part rs 0) 9)++inB mLp (rs.drop 1) mRp
 else if k=33 then mkt Zcr::operand (kid c 0) (part rs 0) 8
 else if k=34 then nm ZhW::operand (kid c 0) (part rs 0) 3
 else if k=39 then bound t (sub rs 0 (len - 1))++mkt Zjg::part rs (len - 1)
 else if k=35 then operand (kid c 0) (part rs 0) (if level t=4 then 5 else level t)++(if level t=1∨level t=2 then nm t else mkt t)::operand (kid c 1) (part rs 1) (level t + 1)
 else if k=20 then [int n]
 else if k=21 then [str t]
 else if k=22 then [if n=1 then nm ZfJ else nm Zdy]
 else if k=23 then [mkt mLp,mkt mRp]
 else if k=24 then [nm t]
 else if k=25 then [nm ZeX]
 else if k=26 then inB mLk rs mRk
 else if k=27 then nm t::inB mLb rs mRb
 else if k=28 then nm t::mkt mEq::part rs 0
 else if k=29∨k=40 then bound t rs
 else []
def Zzi (t:Bs) (c:List Nd) (rs ms:List (List Tk)):List Tk:=
 nm Za2::nm ZeZ::nm t::mkt ZdG::nm (kid c 0).t::(inB mLp (sub rs 1 ((rs.length:Int) - 1)) mRp++mkt mEq::nm (kid c ((rs.length:Int) - 1)).t::inB mLp ms mRp)
mutual
def raw:Nd→List Tk
 | .mk k t n _ c=>if k=72 then Zzi t c (raws c) (Zpc c) else comb k t n c (raws c)
def raws:List Nd→List (List Tk)
 | []=>[]
 | x::l=>raw x::raws l
def Zpc:List Nd→List (List Tk)
 | []=>[]
 | .mk _ _ _ _ c::l=>if l.isEmpty then raws c else Zpc l
end
theorem ZeB:∀c:List Nd,raws c=c.map raw
 | []=>rfl
 | x::l=>by rw [raws,ZeB l];rfl
def Zm1 (x:Nd):Bool:=decide (12≤x.k) && decide (x.k≤15)
def ZeW (x:Nd):Bool:=(decide (20≤x.k) && decide (x.k≤38) && x.k != 28 || x.k == 41) && (x.k != 24 || ZbF x.t)
def Zjr (x:Nd):Bool:=decide (50≤x.k) && decide (x.k≤61) && x.k != 54
def isK (k:Int) (x:Nd):Bool:=x.k == k
def ZgT (x:Nd):Bool:=x.k == 9 || x.k == 10
def ZdV (x:Nd):Bool:=decide (2≤x.k) && decide (x.k≤6)
def ZcE (x:Nd):Bool:=ZdV x || decide (70≤x.k) && decide (x.k≤74)
def ends1 (p q:Nd→Bool) (c:List Nd):Bool:=match c.reverse with
 | x::r=>q x && r.all p
 | []=>false
def ends2 (p q s:Nd→Bool) (c:List Nd):Bool:=match c.reverse with
 | y::x::r=>q x && s y && r.all p
 | _=>false
def heads1 (q p:Nd→Bool) (c:List Nd):Bool:=match c with
 | x::r=>q x && r.all p
 | []=>false
def ZeY:Int:=9007199254740992
def shape (k:Int) (t:Bs) (n:Int) (c:List Nd):Bool:=
 if k=2 then Zcf t && n == 0 && c.all (isK 7)
 else if k=3 then Zcf t && n == 0 && !c.isEmpty && c.all (isK 8)
 else if k=4 then ZbF t && n == 0 && ends1 (isK 7) Zm1 c
 else if k=5 then ZbF t && n == 0 && ends2 (isK 7) Zm1 ZeW c
 else if k=6 then Zcf t && (decide (-1≤n) && decide (n≤ZeY + 1)) && (c.drop (nfields c)).all ZgT
 else if k=7 then ZbF t && n == 0 && ends1 (fun _=>false) Zm1 c
 else if k=8 then Zcf t && n == 0 && c.all Zm1
 else if k=9 then ZbF t && n == 0 && ends2 (fun _=>false) Zm1 ZeW c
 else if k=10 then Zcf t && n == 0 && ends1 (isK 7) (isK 11) c
 else if k=11 then t == [] && n == 0 && c.all Zjr
 else if k=12 then (basic t || Zcf t) && n == 0 && c.isEmpty
 else if k=13 then t == [] && n == 0 && ends1 (fun _=>false) Zm1 c
 else if k=14 then Zcf t && n == 0 && c.isEmpty
 else if k=15 then t == [] && n == 0 && ends1 Zm1 Zm1 c
 else if k=20 then t == [] && decide (0≤n) && decide (n≤ZeY) && c.isEmpty
 else if k=21 then decide (t.length≤4096) && n == 0 && c.isEmpty
 else if k=22 then t == [] && (n == 0 || n == 1) && c.isEmpty
 else if k=23 then t == [] && n == 0 && c.isEmpty
 else if k=24 then (ZbF t || Zcf t) && n == 0 && c.isEmpty
 else if k=25 then t == [] && n == 0 && c.isEmpty
 else if k=26 then t == [] && n == 0 && c.all ZeW
 else if k=27 then Zcf t && n == 0 && c.all (isK 28)
 else if k=28 then ZbF t && n == 0 && ends1 (fun _=>false) ZeW c
 else if k=29 then Zcf t && n == 0 && c.all ZeW
 else if k=30 then ZbF t && n == 0 && ends1 (fun _=>false) ZeW c
 else if k=31 then t == [] && n == 0 && heads1 ZeW (isK 28) c && decide (2≤c.length)
 else if k=32 then t == [] && n == 0 && heads1 ZeW ZeW c
 else if k=33 then t == [] && n == 0 && ends1 (fun _=>false) ZeW c
 else if k=34 then t == [] && n == 0 && ends1 (fun _=>false) ZeW c
 else if k=35 then level t != 0 && n == 0 && ends2 (fun _=>false) ZeW ZeW c
 else if k=36 then t == [] && n == 0 && c.length == 3 && c.all ZeW
 else if k=37 then ZbF t && n == 0 && ends2 (fun _=>false) ZeW ZeW c
 else if k=38 then t == [] && n == 0 && heads1 ZeW (isK 39) c && decide (2≤c.length)
 else if k=39 then n == 0 && (t == ZdF && c.length == 1 || Zcf t) && ends1 (isK 40) ZeW c
 else if k=40 then (t == ZdF || ZbF t) && n == 0 && c.isEmpty
 else if k=41 then t == [] && n == 0 && ends2 (isK 7) Zm1 ZeW c
 else if k=50 then ZbF t && n == 0 && ends1 (fun _=>false) ZeW c
 else if k=51 then ZbF t && n == 0 && ends1 (fun _=>false) ZeW c
 else if k=52 then t == [] && n == 0 && heads1 ZeW (isK 11) c && (c.length == 2 || c.length == 3)
 else if k=53 then t == [] && n == 0 && heads1 ZeW (isK 54) c && decide (2≤c.length)
 else if k=54 then n == 0 && (t == ZdF && c.length == 1 || Zcf t) && ends1 (isK 40) (isK 11) c
 else if k=55 then ZbF t && n == 0 && ends2 (fun _=>false) ZeW (isK 11) c
 else if k=56 then Zcf t && n == 0 && heads1 ZeW ZeW c
 else if k=57 then t == [] && n == 0 && ends2 (fun _=>false) ZeW (isK 56) c
 else if k=58 then Zcf t && (n == 0 || n == 1 && decide (2≤c.length)) && heads1 (isK 40) ZeW c
 else if k=59 then ZbF t && n == 0 && ends1 ZeW (fun x=>isK 75 x && Zcf x.t && x.c.isEmpty) c
 else if k=60 then t == [] && n == 0 && c.isEmpty
 else if k=61 then t == [] && n == 0 && ends1 (fun _=>false) ZeW c
 else if k=70 then Zcf t && (n == 0 && ends1 (isK 7) ZeW c || n == 1 && heads1 (fun x=>isK 24 x && Zcf x.t) (fun _=>true) c && ends1 (isK 7) ZeW (c.drop 1))
 else if k=71 then Zcf t && n == 0 && (c.drop (nfields c)).all (isK 28)
 else if k=72 then Zcf t && n == 0 && heads1 (fun x=>isK 24 x && (Zcf x.t || x.t == ZhX)) (fun _=>true) c && ends1 (isK 7) (isK 75) (c.drop 1)
 else if k=73 then Zcf t && decide (0≤n) && decide (n≤ZeY) && c.isEmpty
 else if k=74 then Zcf t && n == 0 && c.isEmpty
 else if k=75 then (Zcf t || t == ZhX) && n == 0 && c.all ZeW
 else false
mutual
def wf:Nd→Bool
 | .mk k t n _ c=>shape k t n c && wfs c
def wfs:List Nd→Bool
 | []=>true
 | x::l=>wf x && wfs l
end
theorem Zbe:∀c:List Nd,wfs c=c.all wf
 | []=>rfl
 | x::l=>by rw [wfs,Zbe l];rfl
mutual
def depth:Nd→Nat
 | .mk _ _ _ _ c=>depths c
def depths:List Nd→Nat
 | []=>0
 | x::l=>max (depth x + 1) (depths l)
end
end Go.Proofs.YtaheffiglmglbaaGreatDoor.S8
