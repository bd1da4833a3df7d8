import Derived.KernelRfl
import Derived.Test.YtaheffiglmglbaaGreatDoorKPa
import Derived.Test.YtaheffiglmglbaaGreatDoorKXa
/- Run, Sm, LawT. -/
set_option maxHeartbeats 8000000
set_option maxRecDepth 20000
namespace Go.Proofs.YtaheffiglmglbaaGreatDoor.L7
open Go.Proofs.Tryz
def Znj:Nat→Bs→Bs
 | 0,s=>s
 | _ + 1,[]=>[]
 | n + 1,b::s=>if Zir b then Znj n s else if b == 47 && s.head? == some 47 then Znj n (s.dropWhile ZbH) else b::s
theorem ZkK:∀(n:Nat) (s:Bs),s.length≤n→Znj n s=skip s
 | 0,s,h=>by
  have:s=[]:=List.eq_nil_of_length_eq_zero (by omega)
  subst this;simp [Znj,skip]
 | n + 1,[],_=>by simp [Znj,skip]
 | n + 1,b::s,h=>by
  simp only [List.length_cons] at h
  have:=Zhr (p:=ZbH) s
  rw [Znj,skip,ZkK n s (by omega),ZkK n (s.dropWhile ZbH) (by omega)]
def ZkQ:Nat→Bs→Except (Nat × Nat) (List (Tk × Nat))
 | 0,_=>.ok []
 | n + 1,s=>match Znj s.length s with
  | []=>.ok []
  | b::u=>match tok (b::u) with
   | .error e=>.error (e,(b::u).length)
   | .ok (t,r)=>match ZkQ n r with
    | .error e=>.error e
    | .ok l=>.ok ((t,(b::u).length)::l)
theorem ZoI:∀(n:Nat) (s:Bs),s.length≤n→ZkQ n s=scan s
 | 0,s,h=>by
  have:s=[]:=List.eq_nil_of_length_eq_zero (by omega)
  subst this;rw [ZkQ,ZdD (by simp [skip])]
 | n + 1,s,h=>by
  rw [ZkQ,ZkK _ _ (Nat.le_refl _)]
  have hl:=Zgp s
  cases hs:skip s with
  | nil=>rw [ZdD hs]
  | cons b u=>
   rw [hs] at hl
   simp only
   cases ht:tok (b::u) with
   | error e=>
    rw [ZfL (s:=s) (by rw [hs];simp) (by rw [hs];exact ht),hs]
   | ok y=>
    obtain ⟨t,r⟩:=y
    have:=ZlL ht
    simp only
    rw [ZoI n r (by omega),Zet (s:=s) (t:=t) (r:=r) (by rw [hs];exact ht),hs]
    cases scan r <;> rfl
end Go.Proofs.YtaheffiglmglbaaGreatDoor.L7
namespace Go.Proofs.YtaheffiglmglbaaGreatDoor.S8
open Go.Proofs.Tryz
open L7
theorem ZoM {p:Bool} {s:Bs} (n m j:Nat) {l:List (Tk × Nat)} {R:Res (List Nd)} (hn:s.length≤n) (h1:ZkQ n s=.ok l) (h2:decls m p j (s.length:Int) (offs s.length l)=R) (h3:R≠.out):pv p s=ZjG R:=
 ZjI (by rw [← ZoI n s hn];exact h1) ⟨h3,m,j,h2⟩
def src1:Bs:=[102,117,110,32,102,40,120,58,32,105,110,116,41,58,32,105,110,116,32,61,32,120,32,43,32,49,32,42,32,50,10,97,99,116,111,114,32,77,97,105,110,40,41,32,114,101,115,116,97,114,116,32,51,32,123,32,115,116,97,116,101,32,97,58,32,105,110,116,32,61,32,48,32,111,110,32,71,111,40,41,32,123,32,105,102,32,40,97,41,32,61,61,32,49,32,123,32,115,101,110,100,32,115,101,108,102,32,71,111,40,41,32,125,32,125,32,125]
def src2:Bs:=[114,101,99,111,114,100,32,80,32,123,32,120,32,105,110,116,32,125]
def src3:Bs:=[109,111,118,101,32,65,32,116,111,32,50,32,100,114,111,112,32,66,32,99,111,110,118,101,114,116,32,116,121,112,101,32,86,46,67,40,120,58,32,105,110,116,41,32,61,32,68,40,120,41]
def src4:Bs:=[109,111,118,101,32,65,32,116,111,32,50]
def nB:Nd:=.mk 35 [43] 0 21 [.mk 24 [120] 0 21 [],.mk 35 [42] 0 25 [.mk 20 [] 1 25 [],.mk 20 [] 2 29 []]]
def nF:Nd:=.mk 5 [102] 0 0 [.mk 7 [120] 0 6 [.mk 12 [105,110,116] 0 9 []],.mk 12 [105,110,116] 0 15 [],nB]
def nA:Nd:=.mk 6 [77,97,105,110] 4 31 [.mk 9 [97] 0 56 [.mk 12 [105,110,116] 0 65 [],.mk 20 [] 0 71 []],.mk 10 [71,111] 0 73 [.mk 11 [] 0 81 [.mk 52 [] 0 83 [.mk 35 [61,61] 0 86 [.mk 24 [97] 0 87 [],.mk 20 [] 1 93 []],.mk 11 [] 0 95 [.mk 56 [71,111] 0 97 [.mk 25 [] 0 102 []]]]]]]
def nC:List Nd:=[.mk 73 [65] 2 0 [],.mk 74 [66] 0 12 [],.mk 70 [86] 1 19 [.mk 24 [67] 0 34 [],.mk 7 [120] 0 36 [.mk 12 [105,110,116] 0 39 []],.mk 29 [68] 0 46 [.mk 24 [120] 0 48 []]]]
def Zzj:Except (Nat × Nat) (List (Tk × Nat))→List (Tk × Nat)
 | .ok l=>l
 | .error _=>[]
theorem ZiE {s:Bs} {n:Nat} (h:(match ZkQ n s with | .ok _=>true | _=>false)=true):ZkQ n s=.ok (Zzj (ZkQ n s)):=by
 cases hs:ZkQ n s with
 | ok l=>rfl
 | error e=>rw [hs] at h;cases h
theorem run1:pv false src1=(root [nF,nA],0,0):=by
 have h:=ZoM (p:=false) (s:=src1) 117 60 5 (R:=.ok [nF,nA] []) (by decide) (ZiE (by kernel_rfl)) (by kernel_rfl) (by simp)
 exact h.trans (show ZjG (.ok [nF,nA] [])=(root [nF,nA],0,0) by kernel_rfl)
theorem run2:pv false src2=(Zfm,2,13):=by
 have h:=ZoM (p:=false) (s:=src2) 18 60 5 (R:=.err 13) (by decide) (ZiE (by kernel_rfl)) (by kernel_rfl) (by simp)
 rw [h];rfl
theorem run3:pv true src3=(root nC,0,0):=by
 have h:=ZoM (p:=true) (s:=src3) 50 60 5 (R:=.ok nC []) (by decide) (ZiE (by kernel_rfl)) (by kernel_rfl) (by simp)
 exact h.trans (show ZjG (.ok nC [])=(root nC,0,0) by kernel_rfl)
theorem run4:pv false src4=(Zfm,2,0):=by
 have h:=ZoM (p:=false) (s:=src4) 11 60 5 (R:=.err 0) (by decide) (ZiE (by kernel_rfl)) (by kernel_rfl) (by simp)
 rw [h];rfl
open L7
def runs (t:Tk):Nat→Nat→List (Tk × Nat)
 | 0,_=>[]
 | k + 1,m=>(t,m + k + 1)::runs t k m
theorem Zna {b:UInt8} (h1:mark1 b=true) (h2:∀c,mark2 b c=false) (r:Bs):L7.tok (b::r)=.ok (⟨4,[b],0⟩,r):=by
 obtain ⟨k1,k2,k3,k4⟩:=Zhj h1
 rw [L7.tok,if_neg (by rw [k1];decide),if_neg (by rw [k2];decide),if_neg (by rw [k3];decide)]
 cases r with
 | nil=>rw [Zbm,if_pos h1]
 | cons c r=>rw [Zbm,if_neg (by rw [h2 c];decide),if_pos h1]
theorem Zgq {b:UInt8} (h1:mark1 b=true) (h2:∀c,mark2 b c=false) (h3:b≠47) {R:Bs} {l:List (Tk × Nat)} (hR:scan R=.ok l):∀k,scan (List.replicate k b++R)=.ok (runs ⟨4,[b],0⟩ k R.length++l)
 | 0=>hR
 | k + 1=>by
  rw [List.replicate_succ,List.cons_append]
  have hs:skip (b::(List.replicate k b++R))=b::(List.replicate k b++R):=Zde (Zhj h1).2.2.2 (fun h=>h3 h.1)
  rw [Zet (t:=⟨4,[b],0⟩) (r:=List.replicate k b++R) (by rw [hs];exact Zna h1 h2 _),Zgq h1 h2 h3 hR k,hs]
  simp only [runs,List.cons_append,List.length_cons,List.length_append,List.length_replicate]
  congr 3
  omega
def plc (N:Nat):Nat→Nat→List Int
 | 0,_=>[]
 | k + 1,m=>((N - (m + k + 1):Nat):Int)::plc N k m
theorem Zmg (N:Nat) (t:Tk) (m:Nat):∀k,offs N (runs t k m)=(plc N k m).map fun a=>(t,a)
 | 0=>rfl
 | k + 1=>by
  have:=Zmg N t m k
  unfold offs at this ⊢
  rw [runs,List.map_cons,this,plc,List.map_cons]
theorem Zhg (N m:Nat):∀k,(plc N k m).length=k
 | 0=>rfl
 | k + 1=>by rw [plc,List.length_cons,Zhg N m k]
theorem Zu0 (N m:Nat):∀k i,i≤k→(plc N k m++[((N - m:Nat):Int)])[i]?=some ((N - (m + k - i):Nat):Int)
 | 0,i,h=>by
   obtain rfl:i=0:=by omega
   simp [plc]
 | k + 1,0,_=>by simp [plc];rfl
 | k + 1,i + 1,h=>by
  rw [plc,List.cons_append,List.getElem?_cons_succ,Zu0 N m k i (by omega)]
  congr 2
  omega
def ZcT (n p:Nat):Bs:=[102,117,110,32,102,40,41,58,32,105,110,116,32,61,32]++(List.replicate p 40++(List.replicate n 91++(49::(List.replicate n 93++List.replicate p 41))))
theorem Zs9 {r:Bs} (h:∀b r',r=b::r'→Zdw b=false):L7.tok (49::r)=.ok (⟨2,[],1⟩,r):=by
 have hd:∀b r',r=b::r'→ZcI b=false:=fun b r' e=>by
  have:=h b r' e
  unfold Zdw at this
  simp only [Bool.or_eq_false_iff] at this
  exact this.1.2
 have h1:=Ze1 (p:=ZcI) (x:=[]) (r:=r) (by simp) hd
 rw [L7.tok,if_neg (by decide),if_pos (by decide)]
 simp only [List.nil_append] at h1
 rw [h1.1,h1.2]
 unfold ZdA
 have hn:ZgC r=false:=by cases r with
  | nil=>rfl
  | cons b r=>exact h b r rfl
 rw [if_neg (by rw [hn];decide),if_neg (by decide)]
 rfl
theorem ZkB {b:UInt8} {r x y:Bs} (h:Ziz b=true) (h1:r.takeWhile Zdw=x) (h2:r.dropWhile Zdw=y):L7.tok (b::r)=.ok (⟨1,b::x,0⟩,y):=by
 rw [L7.tok,if_pos h,h1,h2]
theorem ZkO {b:UInt8} (r:Bs) (h:Zir b=true):scan (b::r)=scan r:=by rw [← Zef,ZeP r h,Zef]
theorem Zcx {b:UInt8} {s r:Bs} {t:Tk} {l:List (Tk × Nat)} (h1:Zir b=false) (h2:b≠47) (h:L7.tok (b::s)=.ok (t,r)) (hl:scan r=.ok l):scan (b::s)=.ok ((t,s.length + 1)::l):=by
 have hs:skip (b::s)=b::s:=Zde h1 (fun h=>h2 h.1)
 rw [Zet (t:=t) (r:=r) (by rw [hs];exact h),hl,hs]
 rfl
theorem Zq5 {X:Bs} {l:List (Tk × Nat)} (h:scan X=.ok l):scan ([102,117,110,32,102,40,41,58,32,105,110,116,32,61,32]++X) =
  .ok ((nm Zd7,15 + X.length)::(nm [102],11 + X.length)::(mkt mLp,10 + X.length)::(mkt mRp,9 + X.length)::(mkt ZfH,8 + X.length)::(nm ZjN,6 + X.length)::(mkt mEq,2 + X.length)::l):=by
 have a1:scan (32::X)=.ok l:=(ZkO _ rfl).trans h
 have a2:=Zcx (b:=61) (s:=32::X) rfl (by decide) (r:=32::X) (t:=mkt mEq) (by
  rw [L7.tok,if_neg (by decide),if_neg (by decide),if_neg (by decide),Zbm,if_neg (by decide),if_pos (by decide)];rfl) a1
 have a3:=(ZkO (b:=32) _ rfl).trans a2
 have a4:=Zcx (b:=105) (s:=110::116::32::61::32::X) rfl (by decide) (ZkB (x:=[110,116]) (y:=32::61::32::X) rfl rfl rfl) a3
 have a5:=(ZkO (b:=32) _ rfl).trans a4
 have a6:=Zcx (b:=58) (s:=32::105::110::116::32::61::32::X) rfl (by decide) (r:=32::105::110::116::32::61::32::X) (t:=mkt ZfH) (by
  rw [L7.tok,if_neg (by decide),if_neg (by decide),if_neg (by decide),Zbm,if_neg (by decide),if_pos (by decide)];rfl) a5
 have a7:=Zcx (b:=41) rfl (by decide) (Zna (b:=41) rfl (fun c=>by simp [mark2]) _) a6
 have a8:=Zcx (b:=40) rfl (by decide) (Zna (b:=40) rfl (fun c=>by simp [mark2]) _) a7
 have a9:=Zcx (b:=102) (s:=40::41::58::32::105::110::116::32::61::32::X) rfl (by decide) (ZkB (x:=[]) (y:=40::41::58::32::105::110::116::32::61::32::X) rfl rfl rfl) a8
 have a10:=(ZkO (b:=32) _ rfl).trans a9
 have a11:=Zcx (b:=102) (s:=117::110::32::102::40::41::58::32::105::110::116::32::61::32::X) rfl (by decide) (ZkB (x:=[117,110]) (y:=32::102::40::41::58::32::105::110::116::32::61::32::X) rfl rfl rfl) a10
 refine a11.trans ?_
 simp only [List.length_cons]
 congr 1
 simp only [List.cons.injEq,Prod.mk.injEq,and_true,true_and]
 refine ⟨?_,?_,?_,?_,?_,?_,?_⟩ <;> first | omega | exact ⟨rfl,by omega⟩
theorem Zwu (m:Nat) (hm:2≤m) (f:Bs) (n b:Int) (cs:List Int) (a0 a5:Int):deeps m 1 [.mk 5 f 0 a0 [.mk 12 ZjN 0 a5 [],nest n b cs]]=if cs.length + 2≤m then none else (cs++[b])[m - 1]?:=by
 have h1:deep m 2 (nest n b cs)=if cs.length + 2≤m then none else (cs++[b])[m - 1]?:=by
  by_cases h:cs.length + 2≤m
  ·rw [if_pos h,(ZfB m _ 2).2 (by rw [Zj5];omega)]
  ·rw [if_neg h,Zmj m n b cs 2 hm (by omega),show m + 1 - 2=m - 1 by omega]
 have h2:deep m 2 (.mk 12 ZjN 0 a5 [])=none:=(ZfB m _ 2).2 (by rw [depth,depths];omega)
 have h3:deeps m 2 [.mk 12 ZjN 0 a5 [],nest n b cs]=if cs.length + 2≤m then none else (cs++[b])[m - 1]?:=by
  rw [deeps,h2]
  simp only
  rw [deeps,h1,deeps]
  split <;> simp_all
 have h4:deep m 1 (.mk 5 f 0 a0 [.mk 12 ZjN 0 a5 [],nest n b cs])=if cs.length + 2≤m then none else (cs++[b])[m - 1]?:=by
  rw [deep,if_neg (by omega),h3]
 rw [deeps,h4,deeps]
 split <;> simp_all
theorem Zux (n p:Nat):pv false (ZcT n p)=if n≤38 then (root [.mk 5 [102] 0 0 [.mk 12 ZjN 0 9 [],nest 1 ((15 + p + n:Nat):Int) (plc (ZcT n p).length n (1 + n + p))]],0,0) else (Zfm,10,((15 + p + 39:Nat):Int)):=by
 have b1:=Zgq (b:=41) rfl (fun c=>by simp [mark2]) (by decide) (ZdD (s:=[]) (by simp [skip])) p
 have b2:=Zgq (b:=93) rfl (fun c=>by simp [mark2]) (by decide) b1 n
 have hfree:∀b r',List.replicate n (93:UInt8)++(List.replicate p 41++[])=b::r'→Zdw b=false:=fun b r' e=>by
  have hb:b∈List.replicate n (93:UInt8)++(List.replicate p 41++[]):=by rw [e];simp
  simp only [List.append_nil,List.mem_append,List.mem_replicate] at hb
  rcases hb with ⟨-,rfl⟩ | ⟨-,rfl⟩ <;> rfl
 have b3:=Zcx (b:=49) rfl (by decide) (Zs9 hfree) b2
 have b4:=Zgq (b:=91) rfl (fun c=>by simp [mark2]) (by decide) b3 n
 have b5:=Zgq (b:=40) rfl (fun c=>by simp [mark2]) (by decide) b4 p
 have b6:=Zq5 b5
 have hS:ZcT n p=[102,117,110,32,102,40,41,58,32,105,110,116,32,61,32]++(List.replicate p 40++(List.replicate n 91++(49::(List.replicate n 93++(List.replicate p 41++[]))))):=by rw [List.append_nil];rfl
 rw [← hS] at b6
 simp only [List.length_append,List.length_cons,List.length_replicate,List.length_nil,List.append_nil] at b6
 have hN:(ZcT n p).length=15 + (p + (n + (n + p + 1))):=by rw [hS];simp;omega
 have hF:=File.one (p:=false) (Zy5 (f:=[102]) (by decide) ((ZcT n p).length:Int) 1 ((15 + p + n:Nat):Int) 0 4 5 6 7 9 13 (plc (ZcT n p).length p (n + (n + p + 1))) (plc (ZcT n p).length p 0).reverse (plc (ZcT n p).length n (n + p + 1)) (plc (ZcT n p).length n (p + 0)).reverse (by rw [List.length_reverse,Zhg,Zhg]) (by rw [List.length_reverse,Zhg,Zhg]))
 have hE:offs (ZcT n p).length ((nm Zd7,15 + (p + (n + (n + p + 1))))::(nm [102],11 + (p + (n + (n + p + 1))))::(mkt mLp,10 + (p + (n + (n + p + 1))))::(mkt mRp,9 + (p + (n + (n + p + 1))))::(mkt ZfH,8 + (p + (n + (n + p + 1))))::(nm ZjN,6 + (p + (n + (n + p + 1))))::(mkt mEq,2 + (p + (n + (n + p + 1))))::(runs ⟨4,[40],0⟩ p (n + (n + p + 1))++(runs ⟨4,[91],0⟩ n (n + p + 1)++(⟨2,[],1⟩,n + p + 1)::(runs ⟨4,[93],0⟩ n p++runs ⟨4,[41],0⟩ p 0)))) =
   (nm Zd7,0)::(nm [102],4)::(mkt mLp,5)::(mkt mRp,6)::(mkt ZfH,7)::(nm ZjN,9)::(mkt mEq,13)::Zhu mLp mRp (plc (ZcT n p).length p (n + (n + p + 1))) (plc (ZcT n p).length p 0).reverse.reverse (Zhu mLk mRk (plc (ZcT n p).length n (n + p + 1)) (plc (ZcT n p).length n (p + 0)).reverse.reverse [(int 1,((15 + p + n:Nat):Int))] []) []:=by
  have e1:∀x l,offs (ZcT n p).length (x::l)=(x.1,(((ZcT n p).length - x.2:Nat):Int))::offs (ZcT n p).length l:=fun _ _=>rfl
  have e2:∀l m,offs (ZcT n p).length (l++m)=offs (ZcT n p).length l++offs (ZcT n p).length m:=fun _ _=>List.map_append
  simp only [e1,e2,Zmg,Zhu,List.reverse_reverse,List.append_nil,List.append_assoc,List.singleton_append]
  generalize plc (ZcT n p).length p (n + (n + p + 1))=A1
  generalize plc (ZcT n p).length n (n + p + 1)=A2
  generalize plc (ZcT n p).length n (p + 0)=A3
  generalize plc (ZcT n p).length p 0=A4
  rw [hN]
  have k1:15 + (p + (n + (n + p + 1))) - (15 + (p + (n + (n + p + 1))))=0:=by omega
  have k2:15 + (p + (n + (n + p + 1))) - (11 + (p + (n + (n + p + 1))))=4:=by omega
  have k3:15 + (p + (n + (n + p + 1))) - (10 + (p + (n + (n + p + 1))))=5:=by omega
  have k4:15 + (p + (n + (n + p + 1))) - (9 + (p + (n + (n + p + 1))))=6:=by omega
  have k5:15 + (p + (n + (n + p + 1))) - (8 + (p + (n + (n + p + 1))))=7:=by omega
  have k6:15 + (p + (n + (n + p + 1))) - (6 + (p + (n + (n + p + 1))))=9:=by omega
  have k7:15 + (p + (n + (n + p + 1))) - (2 + (p + (n + (n + p + 1))))=13:=by omega
  have k8:15 + (p + (n + (n + p + 1))) - (n + p + 1)=15 + p + n:=by omega
  rw [k1,k2,k3,k4,k5,k6,k7,k8]
  rfl
 rw [ZjI b6 (by rw [hE];exact hF),ZjG,Zeg,Zwu 40 (by omega),Zhg,show 1 + n + p=n + p + 1 by omega]
 by_cases hn:n≤38
 ·rw [if_pos (show n + 2≤40 by omega),if_pos hn]
 ·rw [if_neg (show ¬ n + 2≤40 by omega),if_neg hn]
  have h1:=Zu0 (ZcT n p).length (n + p + 1) n 39 (by omega)
  rw [show (ZcT n p).length - (n + p + 1)=15 + p + n by omega,show (ZcT n p).length - (n + p + 1 + n - 39)=15 + p + 39 by omega] at h1
  rw [h1]
end Go.Proofs.YtaheffiglmglbaaGreatDoor.S8
