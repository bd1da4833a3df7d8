import Derived.Deep.MidRow
import Derived.Laws.OwnMore
import Derived.Recover
import Derived.Test.YtaheffiglmglbaaGreatDoorKQh
import Derived.Test.YtaheffiglmglbaaGreatDoorKQa
import Derived.Test.YtaheffiglmglbaaGreatDoorKQb
import Derived.Test.YtaheffiglmglbaaGreatDoorKQj
/- Hole, Cat, Pgm, Pgw, Pge. -/
set_option maxHeartbeats 8000000
set_option maxRecDepth 20000
namespace Go.Proofs.YtaheffiglmglbaaGreatDoor
open Go.Proofs.Tryz
open Go.RowKit L7
section
variable {P:Program} {ops:Array Oper} {Q:Exit→Act→World→Prop} {S:World→Prop} {N:Nat→Bool} {md:Region.Mode}
theorem ZnF {i:Nat} {o:Oper} {a:Act} {w:World} {C:Act→World→Prop} (ho:ops[i]?=some o) (h:∀K:Act→World→Prop,(∀a' w',C a' w'→K a' w')→wpList P ops (Exit.then K Q) [o] a w):wpOp P ops Q i C a w:=by
 have hh:=h C (fun a' w' h1=>h1)
 unfold wpOp
 simp only [ho]
 unfold wpList at hh
 split
 ·rename_i hw
  simp only [hw,if_true] at hh
  rcases hh with hh | hh
  ·exact .inl (ZqA hh)
  ·exact .inr hh
 ·rename_i hw
  simp only [hw] at hh
  exact hh
theorem Ze7 {i n:Nat} {o:Oper} {l:Array Bool} {a:Act} {w:World} (ho:ops[i]?=some o) (h1:(Region.ready md ops l == [i])=true) (h:∀K:Act→World→Prop,(∀a' w',(N i=true→S w')→wpN P md ops Q S N n (l.setIfInBounds i true) a' w'→K a' w')→wpList P ops (Exit.then K Q) [o] a w):wpN P md ops Q S N (n + 1) l a w:=
 Zon [i] (by simpa using h1) (by simp) (fun k hk=>by
  obtain rfl:k=i:=by simpa using hk
  exact ZnF ho fun K hK=>h K fun a' w' h1 h2=>hK a' w' ⟨h1,h2⟩)
theorem Zk4 {i j n:Nat} {o o':Oper} {l:Array Bool} {a:Act} {w:World} (ho:ops[i]?=some o) (ho':ops[j]?=some o') (h1:(Region.ready md ops l == [i,j])=true) (h:∀K:Act→World→Prop,(∀a' w',(N i=true→S w')→wpN P md ops Q S N n (l.setIfInBounds i true) a' w'→K a' w')→wpList P ops (Exit.then K Q) [o] a w)
  (h':∀K:Act→World→Prop,(∀a' w',(N j=true→S w')→wpN P md ops Q S N n (l.setIfInBounds j true) a' w'→K a' w')→wpList P ops (Exit.then K Q) [o'] a w):wpN P md ops Q S N (n + 1) l a w:=
 Zon [i,j] (by simpa using h1) (by simp) (fun k hk=>by
  simp only [List.mem_cons,List.not_mem_nil,or_false] at hk
  rcases hk with rfl | rfl
  ·exact ZnF ho fun K hK=>h K fun a' w' h1 h2=>hK a' w' ⟨h1,h2⟩
  ·exact ZnF ho' fun K hK=>h' K fun a' w' h1 h2=>hK a' w' ⟨h1,h2⟩)
theorem ZiI {l:Array Bool} {a:Act} {w:World} (h1:(Region.ready md ops l).isEmpty=true) (h:Q .normal a w):wpN P md ops Q S N 0 l a w:=⟨by simpa using h1,h⟩
def Deaf (Q:Exit→Act→World→Prop) (T:Nat→Bool):Prop:=∀t v c (a:Act) w,T t=true→Q (.panic c) (a.put (some t) v) w→Q (.panic c) a w
def slots (ops:Array Oper) (T:Nat→Bool) (f:List Nat):Bool:=f.all fun i=>match ops[i]? with
 | some o=>match o.dst with
  | some t=>T t
  | none=>true
 | none=>true
theorem Zg8 {T:Nat→Bool} (hs:Region.noSelect ops=true) (hQ:Deaf Q T) (n:Nat):∀(f:List Nat) (l:Array Bool) (a:Act) (w:World),slots ops T f=true→Whole md ops l→firsts md ops f l=true→
  (∀i∈f,∀j,j < ops.size→N j=false→waits md ops ops.size j i=true)→S w→ZcC P ops S (fun a'=>wpN P md ops Q S N n (ZfR l f) a' w) f a→wpN P md ops Q S N (f.length + n) l a w
 | [],l,a,w,_,_,_,_,_,k=>by
  rw [show ([]:List Nat).length + n=n by simp]
  exact k
 | i::r,l,a,w,hT,hw,h,hN,hS,k=>by
  simp only [firsts,Bool.and_eq_true] at h
  obtain ⟨⟨h1,h2⟩,h3⟩:=h
  obtain ⟨o,v,ho,hy,k⟩:=k
  have hr:i∈Region.ready md ops l:=by simpa using h1
  simp only [slots,List.all_cons,ho,Bool.and_eq_true] at hT
  rw [show (i::r).length + n=(r.length + n) + 1 by simp;omega]
  refine ZlF ho (Region.noSelect_spec hs) (fun c a w hq=>?_) (hN i (by simp)) _ l a w hw (Region.free_spec ho h2) hr hy hS ?_
  ·have h4:=hT.1
   cases hd:o.dst with
   | none=>rw [hd] at hq;exact hq
   | some t=>rw [hd] at hq h4;exact hQ t v c a w h4 hq
  ·exact Zg8 hs hQ n r _ _ w hT.2 (ZiY hw hr) h3 (fun i hi=>hN i (by simp [hi])) hS k
theorem ZlZ {id:Nat} {a:Act} {w:World} (T:Nat→Bool) (S:World→Prop) (N:Nat→Bool) (f:List Nat) (n:Nat) (hm:P.follows .mixedOrders=true) (hB:(Zmq ops N f n && slots ops T f)=true)
  (hQ:Deaf Q T) (hS:S w.drew) (h:ZcC P ops S (fun a'=>wpN P .any ops Q S N n (ZfR (Array.replicate ops.size false) f) a' w.drew) f a):(Code.region id ops true).wp P Q a w:=by
 simp only [Zmq,Bool.and_eq_true,beq_iff_eq,List.all_eq_true,List.mem_range,Bool.or_eq_true] at hB
 obtain ⟨⟨⟨⟨h1,h2⟩,h4⟩,h5⟩,h6⟩:=hB
 refine wp_region_any hm (Zkr (S:=S) (N:=N) _ _ _ _ ?_)
 have hw:Whole .any ops (Array.replicate ops.size false):=fun k o ho hk=>by
  exfalso
  rcases Nat.lt_or_ge k ops.size with hl | hl
  ·simp [hl] at hk
  ·simp [Nat.not_lt.2 hl] at hk
 have hx:=Zg8 (P:=P) (S:=S) (N:=N) h1 hQ n f (Array.replicate ops.size false) a w.drew h6 hw h2 (fun i hi j hj hn=>(h5 i hi j hj).resolve_left (by rw [hn];decide)) hS h
 rw [h4] at hx
 exact hx
def ZuQ (md:Region.Mode) (ops:Array Oper) (l:Array Bool):Bool:=(List.range ops.size).all fun k=>match ops[k]? with
 | some o=>!l.getD k false || o.after.all fun e=>!Region.binds md e || l.getD e.on false
 | none=>true
theorem ZsV {l:Array Bool} (h:ZuQ md ops l=true):Whole md ops l:=fun k o ho hk e he hb=>by
 have h1:=List.all_eq_true.1 h k (by simpa using (Array.getElem?_eq_some_iff.1 ho).1)
 simp only [ho,hk,Bool.not_true,Bool.false_or] at h1
 have h2:=(Array.all_eq_true_iff_forall_mem.1 h1) e he
 simpa [hb] using h2
theorem Zmo {T:Nat→Bool} {l:Array Bool} {a:Act} {w:World} (f:List Nat) (n:Nat) (hB:(Region.noSelect ops && ZuQ md ops l && firsts md ops f l && slots ops T f && (List.range ops.size).all fun i=>!N i || l.getD i false)=true) (hQ:Deaf Q T)
  (h:ZcC P ops (fun _=>True) (fun a'=>wpN P md ops Q (fun _=>True) (fun _=>true) n (ZfR l f) a' w) f a):wpN P md ops Q S N (f.length + n) l a w:=by
 simp only [Bool.and_eq_true,List.all_eq_true,List.mem_range,Bool.or_eq_true,Bool.not_eq_true'] at hB
 obtain ⟨⟨⟨⟨h1,h2⟩,h3⟩,h4⟩,h5⟩:=hB
 exact Zoo _ l a w (fun i hi hN=>(h5 i hi).resolve_left (by rw [hN];decide)) (Zg8 h1 hQ n f l a w h4 (ZsV h2) h3 (fun _ _ _ _ h=>by cases h) trivial h)
theorem Zia {n:Nat} {l:Array Bool} {a:Act} {w:World} (h:wpN P md ops Q S N n l a w):ZcC P ops S (fun a'=>wpN P md ops Q S N n l a' w) [] a:=h
end
def ZyM:List Value→Nat→List Value→List Value
 | xs,_,[]=>xs
 | xs,o,v::r=>ZyM (xs.set o v) (o + 1) r
theorem ZoD:∀(vs xs zs:List Value),zs.length=vs.length→ZyM (xs++zs) xs.length vs=xs++vs
 | [],xs,zs,h=>by
  obtain rfl:=List.eq_nil_of_length_eq_zero h
  rfl
 | v::r,xs,[],h=>by cases h
 | v::r,xs,z::zs,h=>by
  rw [ZyM,List.set_append_right _ _ (Nat.le_refl _),Nat.sub_self,List.set_cons_zero]
  have:=ZoD r (xs++[v]) zs (by simpa using h)
  rw [List.length_append] at this
  simpa using this
section
variable {w w':World} {base g cap:Nat} {c:List Nd}
theorem Zj2 {e size n:Nat} : ∀(vs:List Value) {w:World} {xs:List Value} {o:Nat},w.ownsRow base e size (.slice (some ⟨g,0,none⟩) n cap) n xs→(w.setCells g o vs).ownsRow base e size (.slice (some ⟨g,0,none⟩) n cap) n (ZyM xs o vs)∧w.grownBy (w.setCells g o vs) (some g)
 | [],w,_,_,h=>⟨h,World.grownBy.refl w _⟩
 | v::r,_,_,o,h=>by
  obtain ⟨h1,h2⟩:=h.stored o v
  obtain ⟨h3,h4⟩:=Zj2 r (o:=o + 1) h1
  exact ⟨h3,Zaa h2 h4 (.inl rfl)⟩
def Hole (w:World) (base:Nat) (c:List Nd) (g cap:Nat):Prop:=∃xs,w.ownsRow base 24 5 (.slice (some ⟨g,0,none⟩) (c.length + 1) cap) (c.length + 1) (xs++[.int .i64 0,.string ⟨#[]⟩,.int .i64 0,.int .i64 0,.slice none 0 0])∧ZmZ w (fun h=>base≤h∧h≠g) c xs
theorem Hole.there (H:Hole w base c g cap):w.there g (c.length * 5) 5:=fun j hj=>by
 obtain ⟨xs,h1,h2⟩:=H
 refine ⟨?_,h1.frozenAt _⟩
 have hl:=ZhF h2
 have:=h1.cells (g:=g) rfl (c.length * 5 + j)
 rw [← hl,List.getElem?_append_right (by omega)] at this
 have h3:=this (([.int .i64 0,.string ⟨#[]⟩,.int .i64 0,.int .i64 0,.slice none 0 0]:List Value)[j]'hj) (by rw [show xs.length + j - xs.length=j by omega];exact List.getElem?_eq_getElem hj)
 rw [Addr.add_mid,Nat.zero_add,hl] at h3
 rw [h3];rfl
theorem Hole.fill (H:Hole w base c g cap) {x:Nd} {r:Value} (hk:Kid w (fun h=>base≤h∧h≠g) x r) :
  OwnRow (w.setCells g (c.length * 5) (ndc x r)) base (c++[x]) (.slice (some ⟨g,0,none⟩) (c.length + 1) cap)∧w.grownBy (w.setCells g (c.length * 5) (ndc x r)) (some g):=by
 obtain ⟨xs,h1,h2⟩:=H
 obtain ⟨h3,h4⟩:=Zj2 (ndc x r) (o:=c.length * 5) h1
 have hl:=ZhF h2
 rw [← hl,ZoD _ _ _ (by rfl),hl] at h3
 refine ⟨⟨xs++ndc x r,by rw [List.length_append];exact h3,?_⟩,h4⟩
 have st:∀k,(base≤k∧k≠g)→k < w.heap.size→(w.setCells g (c.length * 5) (ndc x r)).heap[k]?=w.heap[k]?:=fun k hk hlt=>h4.block k hlt (by intro e;injection e with e;exact hk.2 e)
 have sb:∀k,(base≤k∧k≠g)→k < w.heap.size→(base≤k∧some k≠(Value.slice (some ⟨g,0,none⟩) (c.length + 1) cap).ownBlock):=fun k hk _=>⟨hk.1,fun e=>hk.2 (by simpa [Value.ownBlock] using e)⟩
 exact ZhG (ZbB sb st h2) (ZfM (Zb0 sb st x r hk))
end
section
variable {ops:Array Oper} {rest:List Oper} {o:Oper} {a:Act} {w:World} {Q:Exit→Act→World→Prop}
theorem Zl2 {base z:Nat} {c:List Nd} {s:Value} (hown:OwnRow w base c s) (hlen:c.length≤100000) (hb:base≤w.heap.size) (hz:Is w z 24 z5)
  (hgd:o.guard=none) (p q:Operand) (ho:o.op=.call { callee:=.builtin .append,args:=#[p,q],argTypes:=#[22,22] }) (hs:a.eval p=s) (hx:a.eval q=.slice (some ⟨z,0,none⟩) 1 1)
  (h:∀g cap w',Hole w' base c g cap→base≤g∧g < w'.heap.size∧w.grownBy w' s.ownBlock∧(s.ownBlock=some g∨g=w.heap.size)→wpList prog ops Q rest (a.put o.dst (.slice (some ⟨g,0,none⟩) (c.length + 1) cap)) w'):wpList prog ops Q (o::rest) a w:=by
 obtain ⟨i,hi,hz0,hsz,hby⟩:=Zds
 obtain ⟨xs,h1,h2⟩:=hown
 refine wpList_plain hgd fun K hK=>?_
 obtain ⟨v',w',hr,h4,h5,-,h6⟩:=run_append_own_at (P:=prog) w base 22 o.type 24 i _ 5 64 underlying22 hi hz0 hsz hby rfl (by decide) s c.length xs h1 ⟨z,0,none⟩ 1 1 [.int .i64 0,.string ⟨#[]⟩,.int .i64 0,.int .i64 0,.slice none 0 0] rfl
  (fun j u hu=>by rw [Addr.add_mid,Nat.zero_add,hz.at_ j];simpa using hu) (by simp;exact ⟨rfl,rfl,rfl,rfl⟩) (by simp only [maxLen];omega) (by omega) hb
 rcases h4.2 with ⟨-,h7⟩ | ⟨g,cap,cur,e,hbg,hg,-⟩
 ·omega
 subst e
 have hways:s.ownBlock=some g∨g=w.heap.size:=by
  rcases h6 with h6 | h6
  ·exact .inl h6.symm
  ·exact .inr (by simpa [Value.ownBlock] using h6)
 have hH:Hole w' base c g cap:=⟨xs,h4,ZbB (fun k hk hlt=>⟨hk.1,fun e=>by
  rcases hways with h8 | h8
  ·exact hk.2 (by rw [h8,e])
  ·omega⟩) (fun k hk hlt=>h5.block k hlt hk.2) h2⟩
 have hfin:=h g cap w' hH ⟨hbg,(h4.lt g rfl).2,h5,hways⟩
 unfold Oper.wp execOp
 simp only [ho,resolve,invoke,builtin,Sem.run_bind,Sem.run_pure,Result.andThen_ok,List.map_toArray,List.map_cons,List.map_nil,hs,hx,hr]
 exact hK _ _ hfin
end
open Go.RowKit L7
theorem ZuH (p q:Nat) (x:Value) (b:Value) (u:TypeId) (pv:Value) (older:List PanicEntry) (w:World) (hp:Is w p 28 #[x]) (hq:Is w q 4 #[b]) (hpq:p≠q) :
  CallsD prog 46 #[.pointer (some ⟨p,0,none⟩),.pointer (some ⟨q,0,none⟩)] (.panicking ({ v:=.iface u pv,recovered:=false }::older)) w fun e u' w'=>
   e=.returned (.tuple #[])∧u'=.panicking ({ v:=.iface u pv,recovered:=true }::older)∧Is w' p 28 #[.slice none 0 0]∧Is w' q 4 #[.bool false]∧Hid (Below 0 w w'∧∀k,k≠p→k≠q→w'.heap[k]?=w.heap[k]?):=by
 refine callsD_of_wpS func46 rfl fun c₀ cs hu=>?_
 apply wpS_seq
 apply wpS_region
 simp [wpOpsS,go_sem,recoverD,hu,ntmps46,Exit.thenS]
 refine wpS_cond (t:=true) (by simp [Act.eval,Array.replicate]) ?_
 simp only [if_true]
 have hc:w.cell? ⟨p,0,none⟩=some x:=hp.at_ 0
 have hz:=hp.open_ 0
 have hq1:=hq.away (a:=⟨p,0,none⟩) (by exact fun e=>hpq e.symm) (.slice none 0 0)
 have hp1:=hp.put 0 (.slice none 0 0)
 have hd:(w.setCell ⟨p,0,none⟩ (.slice none 0 0)).cell? ⟨q,0,none⟩=some b:=hq1.at_ 0
 have hz1:=hq1.open_ 0
 apply wpS_region
 simp [wpOpsS,go_sem,hc,hd,hz,hz1,bodyPostS,results,results46]
 exact ⟨hp1.away (by exact hpq) _,hq1.put 0 _,hid ⟨⟨rfl,rfl,rfl,by simp [World.setCell],fun k hk=>absurd hk (by omega)⟩,fun k h1 h2=>(Below.heap_setCell _ ⟨q,0,none⟩ _ k (by exact h2)).trans (Below.heap_setCell w ⟨p,0,none⟩ _ k (by exact h1))⟩⟩
theorem ZsF (p q:Addr) (w:World) :
  CallsD prog 46 #[.pointer (some p),.pointer (some q)] .returning w fun e u' w'=>e=.returned (.tuple #[])∧u'=.returning∧w'=w:=by
 refine callsD_of_wpS func46 rfl fun c₀ cs hu=>?_
 apply wpS_seq
 apply wpS_region
 simp [wpOpsS,go_sem,recoverD,hu,ntmps46,Exit.thenS]
 refine wpS_cond (t:=false) (by simp [Act.eval,Array.replicate]) ?_
 simp only [Bool.false_eq_true,if_false]
 refine wpS_of_wp (wp_skip ?_)
 cases c₀
 simp_all [bodyPostS,results,results46]
theorem Zql (p q:Addr) (w:World) :
  CallsD prog 117 #[.pointer (some p),.pointer (some q)] .returning w fun e u' w'=>e=.returned (.tuple #[])∧u'=.returning∧w'=w:=by
 refine callsD_of_wpS func117 rfl fun c₀ cs hu=>?_
 apply wpS_seq
 apply wpS_region
 simp [wpOpsS,go_sem,recoverD,hu,ntmps117,Exit.thenS]
 refine wpS_cond (t:=false) (by simp [Act.eval,Array.replicate]) ?_
 simp only [Bool.false_eq_true,if_false]
 refine wpS_of_wp (wp_skip ?_)
 cases c₀
 simp_all [bodyPostS,results,results117]
theorem Zhs:(#[Value.int .i64 0,.string ⟨#[]⟩,.int .i64 0,.int .i64 0,.slice none 0 0]:Array Value).all (·.oneCell')=true:=by
 simp
 exact ⟨rfl,rfl,rfl,rfl⟩
theorem ZsG (p q:Nat) (old:Array Value) (ho:old.size=5) (b:Value) (u:TypeId) (pv:Value) (older:List PanicEntry) (w:World) (hp:Is w p 24 old) (hq:Is w q 4 #[b]) (hpq:p≠q) :
  CallsD prog 117 #[.pointer (some ⟨p,0,none⟩),.pointer (some ⟨q,0,none⟩)] (.panicking ({ v:=.iface u pv,recovered:=false }::older)) w fun e u' w'=>
   e=.returned (.tuple #[])∧u'=.panicking ({ v:=.iface u pv,recovered:=true }::older)∧Is w' p 24 z5∧Is w' q 4 #[.bool false]∧Hid (Below 0 w w'∧∀k,k < w.heap.size→k≠p→k≠q→w'.heap[k]?=w.heap[k]?):=by
 refine callsD_of_wpS func117 rfl fun c₀ cs hu=>?_
 apply wpS_seq
 apply wpS_region
 simp [wpOpsS,go_sem,recoverD,hu,ntmps117,Exit.thenS]
 refine wpS_cond (t:=true) (by simp [Act.eval,Array.replicate]) ?_
 simp only [if_true]
 refine wpS_of_wp ?_
 show Code.wp _ _ _ { tmps:=#[.pointer (some ⟨p,0,none⟩),.pointer (some ⟨q,0,none⟩),.iface u pv,.bool true,undef],defers:=[] } w
 go_wp2_with (refine Zah hp rfl 24 _ _ rfl z5 rfl rfl inf24 ho Zhs ?_;intro w1 h1 h2;have HQ:=hid (hq.kept h2 (by simp;omega));have hd:w1.cell? ⟨q,0,none⟩=some b:=HQ.out.at_ 0;have hz:=HQ.out.open_ 0;have H1:=hid (And.intro h1 h2);clear h1 h2)
 simp [bodyPostS,results,results117]
 refine ⟨H1.out.1.away (by exact hpq) _,HQ.out.put 0 _,hid ⟨⟨H1.out.2.os,H1.out.2.tape,H1.out.2.output,?_,fun k hk=>absurd hk (by omega)⟩,fun k hk h1 h2=>?_⟩⟩
 ·have:=H1.out.2.size;simpa [World.setCell] using this
 ·exact (Below.heap_setCell w1 ⟨q,0,none⟩ _ k (by exact h2)).trans (H1.out.2.block k hk (by simpa using h1))
open Go.RowKit L7
def PgPost (b:Nat) (S:Pg) (p:Bool) (w:World) (e:Ending) (w':World):Prop:=∃R,S8.File p S.size S.toks R∧w.grownBy w' (some b)∧match R with
 | .out=>False
 | .err a=>e=.returned (.tuple #[.agg z5,.bool false])∧∃j h,Ps w' b S j h∧place S j=a
 | .ok c _=>∃s,e=.returned (.tuple #[.agg #[.int .i64 1,.string ⟨#[]⟩,.int .i64 0,.int .i64 0,s],.bool true])∧OwnRow w' w.heap.size c s
theorem Zu1 {w2:World} {p q:Nat} {tm:Array Value} {c0 c1 c2 c3 c4 b:Value} (h4:tm[4]?=some (.pointer (some ⟨p,0,none⟩))) (h5:tm[5]?=some (.pointer (some ⟨q,0,none⟩))) (hp:Is w2 p 24 #[c0,c1,c2,c3,c4]) (hq:Is w2 q 4 #[b]) :
  (results Tryz.f58 tm).run prog w2=.ok (.tuple #[.agg #[c0,c1,c2,c3,c4],b]) w2:=by
 have e0:w2.cell? ⟨p,0,none⟩=some c0:=hp.at_ 0
 have e1:w2.cell? ⟨p,1,none⟩=some c1:=hp.at_ 1
 have e2:w2.cell? ⟨p,2,none⟩=some c2:=hp.at_ 2
 have e3:w2.cell? ⟨p,3,none⟩=some c3:=hp.at_ 3
 have e4:w2.cell? ⟨p,4,none⟩=some c4:=hp.at_ 4
 have e5:w2.cell? ⟨q,0,none⟩=some b:=hq.at_ 0
 simp [results,results58,go_sem,h4,h5,e0,e1,e2,e3,e4,e5]
theorem Ztx (t:Nat) (v:Value) (tm:Array Value) (ht:6≤t):results Tryz.f58 (tm.setIfInBounds t v)=results Tryz.f58 tm:=by
 have h4:(tm.setIfInBounds t v)[4]?=tm[4]?:=by rw [Array.getElem?_setIfInBounds_ne (by omega)]
 have h5:(tm.setIfInBounds t v)[5]?=tm[5]?:=by rw [Array.getElem?_setIfInBounds_ne (by omega)]
 simp [results,results58,h4,h5]
theorem Zhk {R:Ending→World→Prop} (t:Nat) (v:Value) (tm:Array Value) (ht:6≤t):∀(ds:List Deferred) (u:FrameMode) (w:World),Leaves prog Tryz.f58 (tm.setIfInBounds t v) R ds u w→Leaves prog Tryz.f58 tm R ds u w
 | [],.returning,w,h=>by rw [Leaves,Ztx t v tm ht] at h;rw [Leaves];exact h
 | [],.panicking c,w,h=>by rw [Leaves] at h ⊢;exact h
 | [],.run,w,h=>by rw [Leaves] at h;exact h.elim
 | d::ds,u,w,h=>by
  rw [Leaves] at h ⊢
  obtain ⟨h1,fv,cap,f,args,h2,h3,h4⟩:=h
  refine ⟨h1,fv,cap,f,args,h2,h3,h4.mono fun e u' w' h5=>?_⟩
  cases e with
  | returned _=>exact Zhk t v tm ht ds _ _ h5
  | panicked _=>exact Zhk t v tm ht ds _ _ h5
  | outgrown=>exact h5
theorem Zwl (R:Ending→World→Prop):Deaf (bodyPostD prog Tryz.f58 R) (fun t=>decide (6≤t)):=fun t v c a w ht h=>by
 have ht:6≤t:=by simpa using ht
 exact Zhk t v a.tmps ht a.defers _ w h
theorem Zrn {w w2:World} {b:Nat} {S:Pg} {pt:Bool} {p j:Nat} {h':Bool} {tm:Array Value} {cs:Array Value} {bb:Value} (h4:tm[4]?=some (.pointer (some ⟨p,0,none⟩))) (h5:tm[5]?=some (.pointer (some ⟨p + 1,0,none⟩))) (hs:Is w2 p 24 cs) (hc:cs.size=5) (hb:Is w2 (p + 1) 4 #[bb]) (hp:w.heap.size≤p) (hpb:b < p)
  (hF:S8.File pt S.size S.toks (.err (place S j))) (hg:w.grownBy w2 (some b)) (hP:Ps w2 b S j h') :
  bodyPostD prog Tryz.f58 (PgPost b S pt w) (Exit.panic pan) { tmps:=tm,defers:=[{ target:=Target.fn (Go.Fn.func 117) #[.pointer (some ⟨p,0,none⟩),.pointer (some ⟨p + 1,0,none⟩)],args:=#[] }] } w2:=by
 refine leaves_cons (f:=117) (args:=#[.pointer (some ⟨p,0,none⟩),.pointer (some ⟨p + 1,0,none⟩)]) (by simp) (by simp [go_sem]) ?_
 refine (ZsG p (p + 1) cs hc _ 103 (.agg #[]) [] _ hs hb (by omega)).mono ?_
 rintro e u' w'' ⟨rfl,rfl,h6,h7,h8⟩
 have hk:∀k,k < w2.heap.size→k < p→w''.heap[k]?=w2.heap[k]?:=fun k hk hl=>h8.out.2 k hk (by omega) (by omega)
 refine ⟨_,Zu1 h4 h5 h6 h7,_,hF,⟨h8.out.1.os.trans hg.os,h8.out.1.tape.trans hg.tape,h8.out.1.output.trans hg.output,Nat.le_trans hg.size h8.out.1.size,fun k hk1 hne=>(hk k (by have:=hg.size;omega) (by omega)).trans (hg.block k hk1 hne)⟩,rfl,j,h',?_,rfl⟩
 have hB:Below p w2 w'':=⟨h8.out.1.os,h8.out.1.tape,h8.out.1.output,h8.out.1.size,fun k hl=>hk k (by have:=hs.lt;omega) hl⟩
 exact hP.below hB hpb
theorem Zwk {w w2:World} {b:Nat} {S:Pg} {pt:Bool} {p:Nat} {c:List Nd} {r:List PTok} {s:Value} {tm:Array Value} (h4:tm[4]?=some (.pointer (some ⟨p,0,none⟩))) (h5:tm[5]?=some (.pointer (some ⟨p + 1,0,none⟩))) (hs:Is w2 p 24 #[.int .i64 1,.string ⟨#[]⟩,.int .i64 0,.int .i64 0,s]) (hb:Is w2 (p + 1) 4 #[.bool true])
  (hF:S8.File pt S.size S.toks (.ok c r)) (hg:w.grownBy w2 (some b)) (ho:OwnRow w2 w.heap.size c s) :
  bodyPostD prog Tryz.f58 (PgPost b S pt w) Exit.ret { tmps:=tm,defers:=[{ target:=Target.fn (Go.Fn.func 117) #[.pointer (some ⟨p,0,none⟩),.pointer (some ⟨p + 1,0,none⟩)],args:=#[] }] } w2:=by
 refine leaves_cons (f:=117) (args:=#[.pointer (some ⟨p,0,none⟩),.pointer (some ⟨p + 1,0,none⟩)]) (by simp) (by simp [go_sem]) ?_
 refine (Zql _ _ _).mono ?_
 rintro e u' w'' ⟨rfl,rfl,rfl⟩
 exact ⟨_,Zu1 h4 h5 hs hb,_,hF,hg,s,rfl,ho⟩
open Go.RowKit L7
structure PgI (w:World) (b:Nat) (S:Pg) (pt:Bool) (wr:World) (i:Nat) (c:List Nd) (s:Value):Prop where
 ps:Ps wr b S i false
 nd:Is wr w.heap.size 24 #[.int .i64 1,.string ⟨#[]⟩,.int .i64 0,.int .i64 0,s]
 fl:Is wr (w.heap.size + 1) 4 #[.bool false]
 row:OwnRow wr (w.heap.size + 2) c s
 gr:w.grownBy wr (some b)
 le:c.length≤i
 re:∀R,S8.File pt S.size (S.toks.drop i) R→S8.File pt S.size S.toks (S8.pre c R)
theorem PgI.start {w:World} {b:Nat} {S:Pg} {pt:Bool} (hp:Ps w b S 0 false):PgI w b S pt ((w.alloc (.cells #[.int .i64 1,.string ⟨#[]⟩,.int .i64 0,.int .i64 0,.slice none 0 0] 24)).alloc (.cells #[.bool false] 4)) 0 [] (.slice none 0 0):=by
 have h1:=(Is.fresh w 24 #[.int .i64 1,.string ⟨#[]⟩,.int .i64 0,.int .i64 0,.slice none 0 0]).alloc (.cells #[.bool false] 4)
 have h2:Is ((w.alloc (.cells #[.int .i64 1,.string ⟨#[]⟩,.int .i64 0,.int .i64 0,.slice none 0 0] 24)).alloc (.cells #[.bool false] 4)) (w.heap.size + 1) 4 #[.bool false]:=by
  have:=Is.fresh (w.alloc (.cells #[.int .i64 1,.string ⟨#[]⟩,.int .i64 0,.int .i64 0,.slice none 0 0] 24)) 4 #[.bool false]
  simpa using this
 have hB:Below w.heap.size w ((w.alloc (.cells #[.int .i64 1,.string ⟨#[]⟩,.int .i64 0,.int .i64 0,.slice none 0 0] 24)).alloc (.cells #[.bool false] 4)):=((Below.refl _ _).alloc (Nat.le_refl _) _).alloc (by simp only [World.size_alloc];omega) _
 exact ⟨hp.below hB hp.lt,h1,h2,OwnRow.nil _ _,Zaj hB,Nat.le_refl _,fun R h=>by
  rw [List.drop_zero] at h
  cases R <;> simpa [S8.pre] using h⟩
theorem PgI.look {w:World} {b:Nat} {S:Pg} {pt:Bool} {wr W:World} {i:Nat} {c:List Nd} {s:Value} (H:PgI w b S pt wr i c s) (k:Below wr.heap.size wr W):PgI w b S pt W i c s:=
 ⟨H.ps.below k H.ps.lt,H.nd.below k H.nd.lt,H.fl.below k H.fl.lt,H.row.below k (Nat.le_refl _),Zan H.gr (k.mono H.gr.size),H.le,H.re⟩
structure PgM (w:World) (b:Nat) (S:Pg) (w3:World) (j:Nat) (c:List Nd) (s:Value) (z:Nat) (x:Nd) (r:Value):Prop where
 ps:Ps w3 b S j false
 nd:Is w3 w.heap.size 24 #[.int .i64 1,.string ⟨#[]⟩,.int .i64 0,.int .i64 0,s]
 fl:Is w3 (w.heap.size + 1) 4 #[.bool false]
 row:OwnRow w3 (w.heap.size + 2) c s
 gr:w.grownBy w3 (some b)
 z:Is w3 z 24 z5
 own:∃B,(∀g,s.ownBlock=some g→g < B)∧w.heap.size + 2≤B∧OwnRow w3 B x.c r
section
variable {w:World} {b:Nat} {S:Pg} {pt:Bool} {W w2:World} {i j:Nat} {c:List Nd} {s:Value} {x:Nd} {r:Value}
theorem PgI.first (H:PgI w b S pt W i c s) (hb:b < w.heap.size) (g:W.grownBy w2 (some b)) (p:Ps w2 b S j false) (hv:OwnRow w2 W.heap.size x.c r):PgM w b S (w2.alloc (.cells z5 24)) j c s w2.heap.size x r:=
 ⟨p.alloc _,(H.nd.kept g (by simp;omega)).alloc _,(H.fl.kept g (by simp;omega)).alloc _,(H.row.grown g (by omega)).alloc _,Zbl (Zaa H.gr g (.inl rfl)) _,Is.fresh _ _ _,W.heap.size,fun k hk=>(H.row.lt hk).2,by have:=H.fl.lt;omega,hv.alloc _⟩
theorem PgI.second (H:PgI w b S pt W i c s) (hb:b < w.heap.size) (g:(W.alloc (.cells z5 24)).grownBy w2 (some b)) (p:Ps w2 b S j false) (hv:OwnRow w2 (W.alloc (.cells z5 24)).heap.size x.c r):PgM w b S w2 j c s W.heap.size x r:=by
 have h0:=(Below.refl W.heap.size W).alloc (Nat.le_refl _) (.cells z5 24)
 have H1:=H.look h0
 have hl:=H.fl.lt
 exact ⟨p,H1.nd.kept g (by simp;omega),H1.fl.kept g (by simp;omega),H1.row.grown g (by omega),Zaa H1.gr g (.inl rfl),(Is.fresh W 24 _).kept g (by simp;omega),_,fun k hk=>(H1.row.lt hk).2,by simp only [World.size_alloc];omega,hv⟩
end
structure PgN (w:World) (b:Nat) (S:Pg) (w4:World) (j:Nat) (c:List Nd) (sl:Value) (g cap:Nat) (x:Nd) (r:Value):Prop where
 ps:Ps w4 b S j false
 nd:Is w4 w.heap.size 24 #[.int .i64 1,.string ⟨#[]⟩,.int .i64 0,.int .i64 0,sl]
 fl:Is w4 (w.heap.size + 1) 4 #[.bool false]
 hole:Hole w4 (w.heap.size + 2) c g cap
 gr:w.grownBy w4 (some b)
 kid:Kid w4 (fun h=>w.heap.size + 2≤h∧h≠g) x r
 le:w.heap.size + 2≤g
structure PgO (w:World) (b:Nat) (S:Pg) (w4:World) (j:Nat) (c:List Nd) (sl:Value) (s:Value):Prop where
 ps:Ps w4 b S j false
 nd:Is w4 w.heap.size 24 #[.int .i64 1,.string ⟨#[]⟩,.int .i64 0,.int .i64 0,sl]
 fl:Is w4 (w.heap.size + 1) 4 #[.bool false]
 row:OwnRow w4 (w.heap.size + 2) c s
 gr:w.grownBy w4 (some b)
section
variable {w:World} {b:Nat} {S:Pg} {w3 w4:World} {j z g cap:Nat} {c:List Nd} {s sl:Value} {x:Nd} {r:Value}
theorem PgM.push (M:PgM w b S w3 j c s z x r) (hb:b < w.heap.size) (h1:Hole w4 (w.heap.size + 2) c g cap) (h2:w.heap.size + 2≤g∧g < w4.heap.size∧w3.grownBy w4 s.ownBlock∧(s.ownBlock=some g∨g=w3.heap.size)):PgN w b S w4 j c s g cap x r:=by
 obtain ⟨h3,h4,h5,h6⟩:=h2
 have hl:=M.fl.lt
 have hB:Below (w.heap.size + 2) w3 w4:=⟨h5.os,h5.tape,h5.output,h5.size,fun k hk=>h5.block k (by omega) (fun e=>by have:=(M.row.lt e.symm).1;omega)⟩
 obtain ⟨B,k1,k2,k3⟩:=M.own
 exact ⟨M.ps.below hB (by omega),M.nd.below hB (by omega),M.fl.below hB (by omega),h1,Zan M.gr (hB.mono (by omega)),Zb0 (fun h hh hlt=>⟨by omega,fun e=>by
  rcases h6 with h6 | h6
  ·have:=k1 _ h6;omega
  ·omega⟩) (fun h hh hlt=>h5.block h hlt (fun e=>by have:=k1 _ e.symm;omega)) x r (k3.kid x rfl),h3⟩
theorem PgN.put (N:PgN w b S w4 j c sl g cap x r) (hb:b < w.heap.size) (u:Value):PgN w b S (w4.setCell ⟨w.heap.size,4,none⟩ u) j c u g cap x r:=by
 have hle:=N.le
 obtain ⟨xs,h1,h2⟩:=N.hole
 have hst:∀k,k≠w.heap.size→(w4.setCell ⟨w.heap.size,4,none⟩ u).heap[k]?=w4.heap[k]?:=fun k hk=>Below.heap_setCell w4 ⟨w.heap.size,4,none⟩ u k (by exact hk)
 exact ⟨N.ps.away (by exact hb) u,N.nd.put 4 u,N.fl.away (by show w.heap.size + 1≠w.heap.size;omega) u,⟨xs,ownsRow_setCell_below h1 (by show w.heap.size < w.heap.size + 2;omega) u,ZbB (fun _ h _=>h) (fun k hk _=>hst k (by omega)) h2⟩,Zan N.gr ((Below.refl _ _).setCell (by exact Nat.le_refl _) u),Zb0 (fun _ h _=>h) (fun k hk _=>hst k (by omega)) x r N.kid,hle⟩
theorem PgN.fill (N:PgN w b S w4 j c sl g cap x r) (hb:b < w.heap.size):PgO w b S (w4.setCells g (c.length * 5) (ndc x r)) j (c++[x]) sl (.slice (some ⟨g,0,none⟩) (c.length + 1) cap):=by
 have hle:=N.le
 have hl:=N.fl.lt
 obtain ⟨h1,h2⟩:=N.hole.fill N.kid
 have hB:Below (w.heap.size + 2) w4 (w4.setCells g (c.length * 5) (ndc x r)):=⟨h2.os,h2.tape,h2.output,h2.size,fun k hk=>h2.block k (by omega) (by simp;omega)⟩
 exact ⟨N.ps.below hB (by omega),N.nd.below hB (by omega),N.fl.below hB (by omega),h1,Zan N.gr (hB.mono (by omega))⟩
theorem PgO.put (N:PgO w b S w4 j c sl s) (hb:b < w.heap.size) (u:Value):PgO w b S (w4.setCell ⟨w.heap.size,4,none⟩ u) j c u s:=
 ⟨N.ps.away (by exact hb) u,N.nd.put 4 u,N.fl.away (by show w.heap.size + 1≠w.heap.size;omega) u,N.row.set u (by show w.heap.size < w.heap.size + 2;omega),Zan N.gr ((Below.refl _ _).setCell (by exact Nat.le_refl _) u)⟩
end
theorem ZkY {S:Pg} {b i j:Nat} {w6 wr:World} (h2:nextIn b w6=j) (h:nextIn b wr=i) (hij:i < j) (hj:j≤S.toks.length):S.toks.length - nextIn b w6 < S.toks.length - nextIn b wr:=by rw [h2,h];omega
theorem PgO.round {w:World} {b:Nat} {S:Pg} {pt:Bool} {W w6:World} {i j:Nat} {c:List Nd} {s s':Value} {x:Nd} (H:PgI w b S pt W i c s) (O:PgO w b S w6 j (c++[x]) s' s') (hj:i < j) (hs:∀R,S8.File pt S.size (S.toks.drop j) R→S8.File pt S.size (S.toks.drop i) (S8.pre [x] R)):PgI w b S pt w6 j (c++[x]) s':=
 ⟨O.ps,O.nd,O.fl,O.row,O.gr,by have:=H.le;simp;omega,fun R h=>by rw [← Znx];exact H.re _ (hs R h)⟩
theorem Zx0 (b:Nat) (S:Pg) (pt:Bool) (n:Nat) (hn:∀(args:Array Value) (w:World),(callFunc n args).run prog w=.ok (.enter n args) w) (HD:∀N,Does N n b S false (S8.Zpx pt)) (w:World) (hp:Ps w b S 0 false) :
  Calls prog 58 #[.pointer (some ⟨b,0,none⟩),.func (.func n) #[] #[]] w (PgPost b S pt w):=by
 have hbb:=hp.lt
 have hmax:=hp.env.num
 have HP:=hid hp
 have HDD:=hid HD
 have J0:=hid (PgI.start (pt:=pt) hp)
 clear hp HD
 go_enter_defers func58,ntmps58
 go_wp2_with fail
 go_loopw [] (fun wr=>∃(i:Nat) (c:List Nd) (s:Value),Hid (PgI w b S pt wr i c s)) (fun wr=>S.toks.length - nextIn b wr)
 case atStart=>exact ⟨0,[],_,J0⟩
 case round=>
  clear J0
  obtain ⟨i,c,s,HI⟩:=hrel
  obtain ⟨A,cap,rfl⟩:∃A cap,s=.slice A c.length cap:=by
   rcases HI.out.row.form with ⟨h1,h2⟩ | ⟨g,cap,h1,-⟩
   ·subst h2;exact ⟨none,0,h1⟩
   ·exact ⟨_,cap,h1⟩
  have c0:wr.cell? ⟨b,0,none⟩=some (.slice S.A S.toks.length S.cap):=HI.out.ps.is.at_ 0
  have c1:wr.cell? ⟨b,1,none⟩=some (.int .i64 (i:Int)):=HI.out.ps.is.at_ 1
  have hnx:=HI.out.ps.nextIn
  have hle:=HI.out.ps.le
  by_cases hl:i < S.toks.length
  ·have i1:decide ((i:Int) < (S.toks.length:Int))=true:=by simp;omega
   have i2:decide (i < S.toks.length)=true:=by simp;omega
   go_wp2_with fail
   go_quiet (fail)
   go_wp2_with fail
   have hdf:Deaf (bodyPostD prog Tryz.f58 (PgPost b S pt w)) (fun t=>decide (6≤t)):=Zwl _
   refine ZlZ (fun t=>decide (6≤t)) (fun W=>W.cell? ⟨w.heap.size,4,none⟩=some (.slice A c.length cap)) (fun j=>decide (j < 7)) [0,1,2,3,5] 7 (by kernel_rfl) (by kernel_rfl) (fun t v c a W ht hq=>hdf t v c a W ht hq) (by exact HI.out.nd.at_ 4) ?_
   refine fs (.pointer (some ⟨w.heap.size,4,none⟩)) rfl ?_
   refine fs (.slice A c.length cap) rfl ?_
   refine fs (.func (.func n) #[] #[]) rfl ?_
   refine fs (.pointer (some ⟨b,0,none⟩)) rfl ?_
   refine fs (.int .i64 (c.length:Int)) rfl ?_
   refine Zia ?_
   obtain ⟨W0,hW0⟩:∃W0,W0=(wr.drewN nq).drew:=⟨_,rfl⟩
   have H0:=hid (HI.out.look (W:=W0) (by rw [hW0];exact (Zbz (Below.refl wr.heap.size wr) _).drew))
   rw [← hW0]
   clear hW0 c0 c1
   have C1:=HDD.out (S.toks.length + 1) W0 i H0.out.ps (by omega)
   obtain ⟨t0,l0,hd0⟩:∃t l,S.toks.drop i=t::l:=by
    cases hh:S.toks.drop i with
    | nil=>have:=congrArg List.length hh;simp at this;omega
    | cons t l=>exact ⟨t,l,rfl⟩
   have HFE:∀(a:Int),S8.Zpx pt S.size (S.toks.drop i)=.err a→S8.File pt S.size (S.toks.drop i) (.err a):=fun _ h=>by
    rw [hd0] at h ⊢;exact S8.File.err_first h
   have HFS:∀(x:Nd) (r:List PTok) (R:S8.Res (List Nd)),S8.Zpx pt S.size (S.toks.drop i)=.ok x r→S8.File pt S.size r R→S8.File pt S.size (S.toks.drop i) (S8.pre [x] R):=fun _ _ _ h k=>by
    rw [hd0] at h ⊢;exact S8.File.step h k
   have HFE:=hid HFE
   have HFS:=hid HFS
   clear hd0
   refine Zk4 (i:=4) (j:=6) rfl rfl (by kernel_rfl) (fun K9 hK9=>?_) (fun K9 hK9=>?_)
   ·have HK9:=hid hK9
    clear hK9
    go_wp2_with ((with_reducible refine C1.mono ?_);intro e w2 h1;rcases h1.ways with ⟨a1,j,h',e1,rfl,g,p,rfl⟩ | ⟨x,j,v,e1,rfl,g,hj,p,r,rfl,hv⟩;exact Zrn (p:=w.heap.size) rfl rfl (H0.out.nd.kept g (by simp;omega)) rfl (H0.out.fl.kept g (by simp;omega)) (Nat.le_refl _) hbb (by have:=H0.out.re (.err (place S j)) (HFE.out _ e1);simpa [S8.pre] using this) (Zaa H0.out.gr g (.inl rfl)) p;have M:=hid (And.intro (H0.out.first hbb g p hv) (And.intro e1 hj));have S4:w2.cell? ⟨w.heap.size,4,none⟩=some (.slice A c.length cap):=(H0.out.nd.kept g (by simp;omega)).at_ 4;clear h1 g p hv e1 C1)
    refine HK9.out _ _ (fun _=>S4) ?_
    refine Ze7 (i:=6) rfl (by kernel_rfl) (fun K9 hK9=>?_)
    have HK9:=hid hK9
    clear hK9
    go_wp2_with fail
    refine HK9.out _ _ (fun _=>M.out.1.nd.at_ 4) ?_
    clear HK9 K9 S4
    refine Ze7 (i:=7) rfl (by kernel_rfl) (fun K9 hK9=>?_)
    have HK9:=hid hK9
    clear hK9
    refine Zl2 (base:=w.heap.size + 2) M.out.1.row (by have:=H0.out.le;omega) (by have:=M.out.1.fl.lt;first | omega | exact this) M.out.1.z rfl (.tmp 19) (.tmp 24) rfl rfl rfl ?_
    intro g cap2 w4 h1 h2
    have N4:=hid (M.out.1.push hbb h1 h2)
    clear h1 h2
    refine HK9.out _ _ (fun h=>absurd h (by decide)) ?_
    refine Zmo (T:=fun t=>decide (6≤t)) [8,10] 2 (by kernel_rfl) (fun t v c a W ht hq=>hdf t v c a W ht hq) ?_
    refine Zab (.pointer (some ⟨g,c.length * 5,none⟩)) rfl (by rfl) (fun W hS=>by go_simp;intro hh;exact absurd hh (by omega)) ?_
    refine fs (.pointer (some ⟨w.heap.size,4,none⟩)) rfl ?_
    refine Zia ?_
    refine Zk4 (i:=9) (j:=11) rfl rfl (by kernel_rfl) (fun K9 hK9=>?_) (fun K9 hK9=>?_)
    ·have HK9:=hid hK9
     clear hK9
     refine wpList_store_mid rfl 24 _ _ rfl g (c.length * 5) #[.int .i64 x.k,.string (mk x.t),.int .i64 x.n,.int .i64 x.a,r] rfl rfl N4.out.hole.there inf24 (by have h1:=Zbq N4.out.kid;simp [h1];first | exact ⟨rfl,rfl,rfl,rfl⟩ | exact ⟨rfl,rfl,rfl⟩) ?_
     have O5:=hid (N4.out.fill hbb)
     obtain ⟨w5,hw5⟩:∃w5,w5=w4.setCells g (c.length * 5) (ndc x r):=⟨_,rfl⟩
     rw [← hw5] at O5
     rw [show (w4.setCells g (c.length * 5) (#[.int .i64 x.k,.string (mk x.t),.int .i64 x.n,.int .i64 x.a,r]:Array Value).toList)=w5 from hw5.symm]
     clear hw5
     go_wp2_with fail
     refine HK9.out _ _ (fun _=>trivial) ?_
     refine Ze7 (i:=11) rfl (by kernel_rfl) (fun K9 hK9=>?_)
     have HK9:=hid hK9
     clear hK9
     have q4:=O5.out.nd.at_ 4
     have z4:=O5.out.nd.open_ 4
     go_wp2_with fail
     refine HK9.out _ _ (fun _=>trivial) ?_
     clear HK9 K9 q4 z4
     refine ZiI (by kernel_rfl) ?_
     have O6:=hid (O5.out.put hbb (.slice (some ⟨g,0,none⟩) (c.length + 1) cap2))
     have hij:=ZaT (S8.Zhw pt) M.out.2.1
     have hnx2:=O6.out.ps.nextIn
     have hjl:=O6.out.ps.le
     have J6:=hid (O6.out.round H0.out hij.1 (fun R h=>HFS.out x _ R M.out.2.1 h))
     go_wp2_with fail
     go_roundw
     case rel=>exact ⟨j,c++[x],(.slice (some ⟨g,0,none⟩) (c.length + 1) cap2),J6⟩
     case measure=>exact ZkY hnx2 hnx hij.1 hjl
    ·have HK9:=hid hK9
     clear hK9
     have q4:=N4.out.nd.at_ 4
     have z4:=N4.out.nd.open_ 4
     go_wp2_with fail
     refine HK9.out _ _ (fun _=>trivial) ?_
     clear HK9 K9 q4 z4
     have N5:=hid (N4.out.put hbb (.slice (some ⟨g,0,none⟩) (c.length + 1) cap2))
     refine Ze7 (i:=9) rfl (by kernel_rfl) (fun K9 hK9=>?_)
     have HK9:=hid hK9
     clear hK9
     refine wpList_store_mid rfl 24 _ _ rfl g (c.length * 5) #[.int .i64 x.k,.string (mk x.t),.int .i64 x.n,.int .i64 x.a,r] rfl rfl N5.out.hole.there inf24 (by have h1:=Zbq N4.out.kid;simp [h1];first | exact ⟨rfl,rfl,rfl,rfl⟩ | exact ⟨rfl,rfl,rfl⟩) ?_
     go_wp2_with fail
     refine HK9.out _ _ (fun _=>trivial) ?_
     refine ZiI (by kernel_rfl) ?_
     have O6:=hid (N5.out.fill hbb)
     have hij:=ZaT (S8.Zhw pt) M.out.2.1
     have hnx2:=O6.out.ps.nextIn
     have hjl:=O6.out.ps.le
     have J6:=hid (O6.out.round H0.out hij.1 (fun R h=>HFS.out x _ R M.out.2.1 h))
     go_wp2_with fail
     go_roundw
     case rel=>exact ⟨j,c++[x],(.slice (some ⟨g,0,none⟩) (c.length + 1) cap2),J6⟩
     case measure=>exact ZkY hnx2 hnx hij.1 hjl
   ·have HK9:=hid hK9
    clear hK9
    go_wp2_with fail
    have hb1:Below W0.heap.size W0 (W0.alloc (.cells z5 24)):=(Below.refl _ _).alloc (Nat.le_refl _) _
    have H1:=hid (H0.out.look hb1)
    have C2:=HDD.out (S.toks.length + 1) _ i H1.out.ps (by omega)
    clear hb1 C1
    refine HK9.out _ _ (fun _=>H1.out.nd.at_ 4) ?_
    refine Ze7 (i:=4) rfl (by kernel_rfl) (fun K9 hK9=>?_)
    have HK9:=hid hK9
    clear hK9
    go_wp2_with ((with_reducible refine C2.mono ?_);intro e w2 h1;rcases h1.ways with ⟨a1,j,h',e1,rfl,g,p,rfl⟩ | ⟨x,j,v,e1,rfl,g,hj,p,r,rfl,hv⟩;exact Zrn (p:=w.heap.size) rfl rfl (H1.out.nd.kept g (by simp;omega)) rfl (H1.out.fl.kept g (by simp;omega)) (Nat.le_refl _) hbb (by have:=H1.out.re (.err (place S j)) (HFE.out _ e1);simpa [S8.pre] using this) (Zaa H1.out.gr g (.inl rfl)) p;have M:=hid (And.intro (H0.out.second hbb g p hv) (And.intro e1 hj));clear h1 g p hv e1 C2)
    refine HK9.out _ _ (fun _=>M.out.1.nd.at_ 4) ?_
    refine Ze7 (i:=7) rfl (by kernel_rfl) (fun K9 hK9=>?_)
    have HK9:=hid hK9
    clear hK9
    refine Zl2 (base:=w.heap.size + 2) M.out.1.row (by have:=H0.out.le;omega) (by have:=M.out.1.fl.lt;first | omega | exact this) M.out.1.z rfl (.tmp 19) (.tmp 24) rfl rfl rfl ?_
    intro g cap2 w4 h1 h2
    have N4:=hid (M.out.1.push hbb h1 h2)
    clear h1 h2
    refine HK9.out _ _ (fun h=>absurd h (by decide)) ?_
    refine Zmo (T:=fun t=>decide (6≤t)) [8,10] 2 (by kernel_rfl) (fun t v c a W ht hq=>hdf t v c a W ht hq) ?_
    refine Zab (.pointer (some ⟨g,c.length * 5,none⟩)) rfl (by rfl) (fun W hS=>by go_simp;intro hh;exact absurd hh (by omega)) ?_
    refine fs (.pointer (some ⟨w.heap.size,4,none⟩)) rfl ?_
    refine Zia ?_
    refine Zk4 (i:=9) (j:=11) rfl rfl (by kernel_rfl) (fun K9 hK9=>?_) (fun K9 hK9=>?_)
    ·have HK9:=hid hK9
     clear hK9
     refine wpList_store_mid rfl 24 _ _ rfl g (c.length * 5) #[.int .i64 x.k,.string (mk x.t),.int .i64 x.n,.int .i64 x.a,r] rfl rfl N4.out.hole.there inf24 (by have h1:=Zbq N4.out.kid;simp [h1];first | exact ⟨rfl,rfl,rfl,rfl⟩ | exact ⟨rfl,rfl,rfl⟩) ?_
     have O5:=hid (N4.out.fill hbb)
     obtain ⟨w5,hw5⟩:∃w5,w5=w4.setCells g (c.length * 5) (ndc x r):=⟨_,rfl⟩
     rw [← hw5] at O5
     rw [show (w4.setCells g (c.length * 5) (#[.int .i64 x.k,.string (mk x.t),.int .i64 x.n,.int .i64 x.a,r]:Array Value).toList)=w5 from hw5.symm]
     clear hw5
     go_wp2_with fail
     refine HK9.out _ _ (fun _=>trivial) ?_
     refine Ze7 (i:=11) rfl (by kernel_rfl) (fun K9 hK9=>?_)
     have HK9:=hid hK9
     clear hK9
     have q4:=O5.out.nd.at_ 4
     have z4:=O5.out.nd.open_ 4
     go_wp2_with fail
     refine HK9.out _ _ (fun _=>trivial) ?_
     clear HK9 K9 q4 z4
     refine ZiI (by kernel_rfl) ?_
     have O6:=hid (O5.out.put hbb (.slice (some ⟨g,0,none⟩) (c.length + 1) cap2))
     have hij:=ZaT (S8.Zhw pt) M.out.2.1
     have hnx2:=O6.out.ps.nextIn
     have hjl:=O6.out.ps.le
     have J6:=hid (O6.out.round H0.out hij.1 (fun R h=>HFS.out x _ R M.out.2.1 h))
     go_wp2_with fail
     go_roundw
     case rel=>exact ⟨j,c++[x],(.slice (some ⟨g,0,none⟩) (c.length + 1) cap2),J6⟩
     case measure=>exact ZkY hnx2 hnx hij.1 hjl
    ·have HK9:=hid hK9
     clear hK9
     have q4:=N4.out.nd.at_ 4
     have z4:=N4.out.nd.open_ 4
     go_wp2_with fail
     refine HK9.out _ _ (fun _=>trivial) ?_
     clear HK9 K9 q4 z4
     have N5:=hid (N4.out.put hbb (.slice (some ⟨g,0,none⟩) (c.length + 1) cap2))
     refine Ze7 (i:=9) rfl (by kernel_rfl) (fun K9 hK9=>?_)
     have HK9:=hid hK9
     clear hK9
     refine wpList_store_mid rfl 24 _ _ rfl g (c.length * 5) #[.int .i64 x.k,.string (mk x.t),.int .i64 x.n,.int .i64 x.a,r] rfl rfl N5.out.hole.there inf24 (by have h1:=Zbq N4.out.kid;simp [h1];first | exact ⟨rfl,rfl,rfl,rfl⟩ | exact ⟨rfl,rfl,rfl⟩) ?_
     go_wp2_with fail
     refine HK9.out _ _ (fun _=>trivial) ?_
     refine ZiI (by kernel_rfl) ?_
     have O6:=hid (N5.out.fill hbb)
     have hij:=ZaT (S8.Zhw pt) M.out.2.1
     have hnx2:=O6.out.ps.nextIn
     have hjl:=O6.out.ps.le
     have J6:=hid (O6.out.round H0.out hij.1 (fun R h=>HFS.out x _ R M.out.2.1 h))
     go_wp2_with fail
     go_roundw
     case rel=>exact ⟨j,c++[x],(.slice (some ⟨g,0,none⟩) (c.length + 1) cap2),J6⟩
     case measure=>exact ZkY hnx2 hnx hij.1 hjl
  ·have i1:decide ((i:Int) < (S.toks.length:Int))=false:=by simp;omega
   have i2:decide (i < S.toks.length)=false:=by simp;omega
   go_wp2_with fail
   go_quiet (fail)
   have e0:=HI.out.nd.at_ 0
   have e1:=HI.out.nd.at_ 1
   have e2:=HI.out.nd.at_ 2
   have e3:=HI.out.nd.at_ 3
   have e4:=HI.out.nd.at_ 4
   have hone:=HI.out.row.one
   have hlt:=HI.out.nd.lt
   have hlt2:=HI.out.fl.lt
   go_wp2_with (refine Zah (HI.out.nd.below (Zbz (Below.refl wr.heap.size wr) _) HI.out.nd.lt) rfl 24 _ _ rfl #[.int .i64 1,.string ⟨#[]⟩,.int .i64 0,.int .i64 0,.slice A c.length cap] rfl rfl inf24 rfl (by simp [hone];first | exact ⟨rfl,rfl,rfl⟩ | exact ⟨rfl,rfl,rfl,rfl⟩ | exact ⟨rfl,rfl⟩) ?_;intro w1 h1 h2;have FL1:=hid ((HI.out.fl.below (Zbz (Below.refl wr.heap.size wr) _) HI.out.fl.lt).kept h2 (by simp));have d0:w1.cell? ⟨w.heap.size + 1,0,none⟩=some (.bool false):=FL1.out.at_ 0;have z0:=FL1.out.open_ 0;have H1:=hid (And.intro h1 h2);clear h1 h2 e0 e1 e2 e3 e4)
   have hF:S8.File pt S.size S.toks (.ok c []):=by
    have:=HI.out.re (.ok [] []) (by rw [List.drop_eq_nil_of_le (by omega)];exact S8.File.nil _ _)
    simpa [S8.pre] using this
   have hB:Below w.heap.size wr (w1.setCell ⟨w.heap.size + 1,0,none⟩ (.bool true)):=(ZbK (Zbz (Below.refl w.heap.size wr) _) H1.out.2 (Nat.le_refl _) (by show w.heap.size≤wr.heap.size;omega)).setCell (by show w.heap.size≤w.heap.size + 1;omega) _
   exact Zwk (p:=w.heap.size) rfl rfl (H1.out.1.away (by show w.heap.size≠w.heap.size + 1;omega) _) (FL1.out.put 0 _) hF (Zan HI.out.gr hB) ((HI.out.row.stay fun g hg hlt=>(Below.heap_setCell w1 ⟨w.heap.size + 1,0,none⟩ _ g (by show g≠w.heap.size + 1;omega)).trans (H1.out.2.block g hlt (by simp;omega))).weak (by omega))
open Go.RowKit L7
def Zxk (pt:Bool):Nat:=if pt=true then 32 else 45
theorem Zs4 (b:Nat) (S:Pg) (pt:Bool) (N:Nat):Does N (Zxk pt) b S false (S8.Zpx pt):=by
 cases pt with
 | false=>exact Zpg b S N
 | true=>
  have h:S8.Zpx true=S8.change S8.lim:=by
   funext e l;exact (S8.Zqk e l).symm
  rw [h]
  exact ZtP b S N
theorem ZqN (pt:Bool) (args:Array Value) (w:World):(callFunc (Zxk pt) args).run prog w=.ok (.enter (Zxk pt) args) w:=by
 cases pt with
 | false=>show (callFunc 45 args).run prog w=.ok (.enter 45 args) w;kernel_rfl
 | true=>show (callFunc 32 args).run prog w=.ok (.enter 32 args) w;kernel_rfl
theorem Znt (b:Nat) (S:Pg) (pt:Bool) (w:World) (hp:Ps w b S 0 false):Calls prog 58 #[.pointer (some ⟨b,0,none⟩),.func (.func (Zxk pt)) #[] #[]] w (PgPost b S pt w):=
 Zx0 b S pt (Zxk pt) (ZqN pt) (Zs4 b S pt) w hp
end Go.Proofs.YtaheffiglmglbaaGreatDoor
