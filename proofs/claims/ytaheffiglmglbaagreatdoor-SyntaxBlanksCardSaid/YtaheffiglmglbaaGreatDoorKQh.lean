import Derived.Test.YtaheffiglmglbaaGreatDoorKQg
/- Fork, Post, OperM, Oper, Exprs. -/
set_option maxHeartbeats 8000000
set_option maxRecDepth 20000
namespace Go.Proofs.YtaheffiglmglbaaGreatDoor
open Go.Proofs.Tryz
open Go.RowKit L7
open S8 (lim single What)
section
variable {P:Program} {ops:Array Oper} {Q:Exit→Act→World→Prop} {S:World→Prop} {N:Nat→Bool} {md:Region.Mode}
theorem ZsU {i j:Nat} {c:List Nat} {l:Array Bool} {a:Act} {w:World} (h1:Region.ready md ops l=[i,j]) (h2:chain md ops (j::c) (l.setIfInBounds i true)=true) (h3:chain md ops (i::c) (l.setIfInBounds j true)=true)
  (k1:Zcn P ops Q S N (i::j::c) a w) (k2:Zcn P ops Q S N (j::i::c) a w):wpN P md ops Q S N (c.length + 2) l a w:=by
 refine ⟨fun h0=>(by rw [h1] at h0;cases h0),fun k hk=>?_⟩
 rw [h1] at hk
 simp only [List.mem_cons,List.not_mem_nil,or_false] at hk
 rcases hk with rfl | rfl
 ·exact wpOp_mono (fun a' w' h'=>⟨h'.1,Zhv (j::c) _ a' w' h2 h'.2⟩) k1
 ·exact wpOp_mono (fun a' w' h'=>⟨h'.1,Zhv (i::c) _ a' w' h3 h'.2⟩) k2
def ZmD (ops:Array Oper) (N:Nat→Bool) (f:List Nat) (i j:Nat) (c:List Nat):Bool:=
 Region.noSelect ops && firsts .any ops f (Array.replicate ops.size false) && (Region.ready .any ops (ZfR (Array.replicate ops.size false) f) == [i,j]) &&
  chain .any ops (j::c) ((ZfR (Array.replicate ops.size false) f).setIfInBounds i true) && chain .any ops (i::c) ((ZfR (Array.replicate ops.size false) f).setIfInBounds j true) && (f.length + (c.length + 2) == ops.size) &&
  f.all fun i=>(List.range ops.size).all fun j=>N j || waits .any ops ops.size j i
theorem ZfN {id:Nat} {a:Act} {w:World} (S:World→Prop) (N:Nat→Bool) (f:List Nat) (i j:Nat) (c:List Nat) (hm:P.follows .mixedOrders=true) (hB:ZmD ops N f i j c=true)
  (hQ:∀c a a' w,a'.defers=a.defers→Q (.panic c) a' w→Q (.panic c) a w) (hS:S w.drew) (h:ZcC P ops S (fun a'=>Zcn P ops Q S N (i::j::c) a' w.drew∧Zcn P ops Q S N (j::i::c) a' w.drew) f a):(Code.region id ops true).wp P Q a w:=by
 simp only [ZmD,Bool.and_eq_true,beq_iff_eq,List.all_eq_true,List.mem_range,Bool.or_eq_true] at hB
 obtain ⟨⟨⟨⟨⟨⟨h1,h2⟩,h3⟩,h3a⟩,h3b⟩,h4⟩,h5⟩:=hB
 refine wp_region_any hm (Zkr (S:=S) (N:=N) _ _ _ _ ?_)
 have hw:Whole .any ops (Array.replicate ops.size false):=fun k o ho hk=>by
  exfalso
  rcases Nat.lt_or_ge k ops.size with hl | hl
  ·simp [hl] at hk
  ·simp [Nat.not_lt.2 hl] at hk
 have mono:∀(f:List Nat) (a:Act) (K K':Act→Prop),(∀a,K a→K' a)→ZcC P ops S K f a→ZcC P ops S K' f a:=by
  intro f
  induction f with
  | nil=>exact fun a K K' hk h=>hk a h
  | cons i r ih=>exact fun a K K' hk ⟨o,v,ho,hy,h⟩=>⟨o,v,ho,hy,ih _ K K' hk h⟩
 have hx:=ZhV (P:=P) (S:=S) (N:=N) h1 hQ (c.length + 2) f (Array.replicate ops.size false) a w.drew hw h2 (fun i hi j hj hn=>(h5 i hi j hj).resolve_left (by rw [hn];decide)) hS
  (mono f a _ _ (fun a' h'=>ZsU h3 h3a h3b h'.1 h'.2) h)
 rw [h4] at hx
 exact hx
theorem ZhL {i j:Nat} {c:List Nat} {a:Act} {w:World} (h1:Zcn P ops Q S N (i::j::c) a w) (h2:Zcn P ops Q S N (j::i::c) a w):ZcC P ops S (fun a'=>Zcn P ops Q S N (i::j::c) a' w∧Zcn P ops Q S N (j::i::c) a' w) [] a:=⟨h1,h2⟩
end
section
variable {w w':World} {base gn:Nat} {c:List Nd} {s:Value}
theorem OwnX.kid (h:OwnX w base gn c s) (x:Nd) (hx:x.c=c):Kid w (fun g=>base≤g∧g≠gn) x s:=by
 have hf:=h.own.form
 obtain ⟨xs,h1,h0,h2⟩:=h
 rw [ZgA,hx]
 rcases hf with ⟨e,hc⟩ | ⟨g,cap,e,hbg,hlt,hnc,-⟩
 ·subst hc
  exact ⟨none,0,e,Nat.le_refl _,by simp only [Kids]⟩
 ·refine ⟨_,cap,e,hnc,Zi9 (i:=0) ⟨hbg,fun he=>h0 (by rw [e];simp only [Value.ownBlock];rw [← he])⟩ (fun g hg _=>hg.1) h2 fun j u hu=>?_⟩
  have:=h1.cells (g:=g) (by rw [e];rfl) j u hu
  rw [show 0 * 5 + j=j by omega]
  exact this
theorem OwnX.single {x:Nd} (h:OwnX w base gn x.c s) (hb:base≤w.heap.size) (hg:gn < w.heap.size):OwnX (w.alloc (.cells (nd5 x.k x.t x.n x.a s) 24)) base gn [x] (.slice (some ⟨w.heap.size,0,none⟩) 1 1):=by
 have hk:=Zhl (h.kid x rfl)
 refine ⟨ndc x s,⟨rfl,.inr ⟨w.heap.size,1,_,rfl,hb,Is.fresh w 24 _,Nat.le_refl _,by decide,rfl,rfl⟩⟩,fun e=>?_,ZfM (Zb0 (fun g hg hl=>⟨hg.1,fun e=>?_⟩) (fun g _ hl=>Below.heap_alloc w _ g hl) x s hk)⟩
 ·simp [Value.ownBlock] at e;omega
 ·simp [Value.ownBlock] at e;have:=hg.2;omega
end
section
variable {ops:Array Oper} {rest:List Oper} {o:Oper} {a:Act} {w:World} {Q:Exit→Act→World→Prop}
theorem Zns {base gn:Nat} {c d:List Nd} {s:Value} {news:List Value} (hown:OwnX w base gn c s) (hlen:c.length + d.length≤1000000) (hb:base≤w.heap.size∧gn < w.heap.size) (hd:ZmZ w (fun g=>(base≤g∧g≠gn)∧some g≠s.ownBlock) d news)
  (hgd:o.guard=none) (p q:Operand) (ho:o.op=.call { callee:=.builtin .append,args:=#[p,q],argTypes:=#[22,22] }) (hs:a.eval p=s) (ad:Addr) (k:Nat) (hx:a.eval q=.slice (some ad) d.length k) (hn:∀j u,news[j]?=some u→w.cell? (ad.add j)=some u)
  (h:∀v' w',OwnX w' base gn (c++d) v'→(∃g,w.grownBy w' (some g)∧base≤g∧g≠gn)→wpList prog ops Q rest (a.put o.dst v') w'):wpList prog ops Q (o::rest) a w:=by
 have hblk:=fun (w':World) k=>hown.block (w':=w') hb.1 hb.2 k
 obtain ⟨i,hi,hz,hsz,hby⟩:=Zds
 obtain ⟨xs,h1,h0,h2⟩:=hown
 refine wpList_plain hgd fun K hK=>?_
 have hl:news.length=d.length * 5:=ZhF hd
 obtain ⟨v',w',hr,h4,h5,-,h6⟩:=run_append_own_at (P:=prog) w base 22 o.type 24 i _ 5 64 underlying22 hi hz hsz hby rfl (by decide) s c.length xs h1 ad d.length k news hl hn (Zea hd) (by simp only [maxLen];omega) (by omega) hb.1
 have hways:v'.ownBlock=s.ownBlock∨∀g,v'.ownBlock=some g→w.heap.size≤g:=by
  rcases h6 with h6 | h6
  ·exact .inl h6
  ·exact .inr fun g hg=>by rw [h6] at hg;injection hg with hg;omega
 have hY:∀h,((base≤h∧h≠gn)∧some h≠s.ownBlock)→h < w.heap.size→((base≤h∧h≠gn)∧some h≠v'.ownBlock):=fun h hh hlt=>⟨hh.1,fun e=>by
  rcases hways with hw | hw
  ·rw [hw] at e;exact hh.2 e
  ·have:=hw h e.symm;omega⟩
 have hX:OwnX w' base gn (c++d) v':=by
  refine ⟨xs++news,by rw [List.length_append];exact h4,fun e=>?_,ZhG (ZbB hY (fun h hh hlt=>h5.block h hlt hh.2) h2) (ZbB hY (fun h hh hlt=>h5.block h hlt hh.2) hd)⟩
  rcases hways with hw | hw
  ·exact h0 (by rw [← hw,e])
  ·have:=hw gn e;omega
 have hfin:=h v' w' hX (hblk w' h5)
 unfold Oper.wp execOp
 simp only [ho,resolve,invoke,builtin,Sem.run_bind,Sem.run_pure,Result.andThen_ok,List.map_toArray,List.map_cons,List.map_nil,hs,hx,hr]
 exact hK _ _ hfin
theorem Zfs {base gn base2:Nat} {w0:World} {c d:List Nd} {s r:Value} (hown:OwnX w base gn c s) (hd:OwnRow w0 base2 d r) (hle:base≤base2∧gn < base2) (hst:∀g,g < w0.heap.size→w.heap[g]?=w0.heap[g]?) (hs2:∀g,s.ownBlock=some g→g < base2∨w0.heap.size≤g) (hlen:c.length + d.length≤1000000) (hb:base≤w.heap.size∧gn < w.heap.size)
  (hgd:o.guard=none) (p q:Operand) (ho:o.op=.call { callee:=.builtin .append,args:=#[p,q],argTypes:=#[22,22] }) (hs:a.eval p=s) (hx:a.eval q=r)
  (h:∀v' w',OwnX w' base gn (c++d) v'→(∃g,w.grownBy w' (some g)∧base≤g∧g≠gn)→wpList prog ops Q rest (a.put o.dst v') w'):wpList prog ops Q (o::rest) a w:=by
 rcases hd.form with ⟨e,hd0⟩ | ⟨g,cap,e,hg,hlt,hnc,-⟩
 ·subst hd0
  obtain ⟨i,hi,hz,hsz,hby⟩:=Zds
  have hf:=h s w (by rw [List.append_nil];exact hown) ⟨w.heap.size,World.grownBy.refl w _,hb.1,by omega⟩
  obtain ⟨xs,h1,h2⟩:=hown.own
  exact wpList_append_own_none hgd p q 22 ho base 24 i 5 underlying22 hi s c.length xs hs h1 (hx.trans e) hf
 ·obtain ⟨ys,k1,k2⟩:=hd
  refine Zns hown (d:=d) hlen hb (ZbB (fun z hz hl=>⟨⟨by omega,by omega⟩,fun e=>by have:=hs2 z e.symm;omega⟩) (fun z _ hl=>hst z hl) k2) hgd p q ho hs ⟨g,0,none⟩ cap (hx.trans e) (fun j u hu=>?_) h
  ·rw [← k1.cells (g:=g) (by rw [e];rfl) j u hu]
   unfold World.cell?
   rw [Zdt,hst _ hlt]
end
section
variable {w W W':World} {b g0 gn i:Nat} {S:Pg} {h:Bool} {k:Int} {t:Bs} {n a:Int} {c:List Nd} {s:Value}
theorem Fm.putAll (F:Fm w b S g0 gn W i h k t n a s) (g:W.grownBy W' (some gn)) {k':Int} {t':Bs} {n' a':Int} {s':Value} {c':List Nd} (hI:Is W' gn 24 #[.int .i64 k',.string (mk t'),.int .i64 n',.int .i64 a',s']) (hr:OwnX W (g0 + 1) gn c' s'):Fx w b S g0 gn W' i h k' t' n' a' c' s':=
 have h1:=F.h0;have h2:=F.hn;have h3:=F.hb
 ⟨F.ps.kept g (by omega),Zaa F.fr g (.inr fun j e=>by injection e with e;omega),F.r0.kept g (by simp;omega),hI,F.h0,F.hn,F.hb,hr.grown g (.inr rfl)⟩
theorem Fx.plain (F:Fx w b S g0 gn W i h k t n a c s):Fm w b S g0 gn W i h k t n a s:=⟨F.ps,F.fr,F.r0,F.nd,F.h0,F.hn,F.hb⟩
end
open Go.RowKit L7
open S8 (lim single What)
theorem Zgy {o:Oper} {a:Act} {x:Operand} {g:Nat} {cs:Array Value} (ho:o.op=.load 24 x) (hx:a.eval x=.pointer (some ⟨g,0,none⟩)) (hc:cs.size=5) (W:World) (hS:Is W g 24 cs):(execOp a.eval o).run prog W=.ok (.value (.agg cs)) W:=by
 have hi:(prog.info? 24).map (·.size)=some cs.size:=by rw [inf24,hc]
 unfold execOp
 simp only [ho,hx,Instr.loadAt,Instr.sureAddr,Sem.run_bind,Sem.run_pure,Result.andThen_ok,run_loadVar_row W g 24 24 cs (0,0) _ hS underlying24 rfl hi]
theorem Zcy (h:Bool) (a:Int) (x:Nd) (e:Int) (l:List PTok):single (lim (.ptail h a x)) e l=S8.ptail lim h a x e l:=by
 rw [S8.ZbG,S8.Zbb (nt:=.ptail h a x) rfl]
 show (match S8.one (S8.ptail lim h a x) e l with | .out=>_ | .err a=>_ | .ok [x] r=>_ | .ok _ r=>_)=_
 unfold S8.one
 rw [S8.Zac]
 cases S8.ptail lim h a x e l <;> rfl
theorem ZpO (h:Bool) (S:Pg) (i:Nat):single (lim (.post h)) S.size (S.toks.drop i)=(single (lim (.prim h)) >>= fun x=>single (lim (.ptail h (place S i) x))) S.size (S.toks.drop i):=by
 rw [ZoQ]
 unfold S8.post
 refine ZaN rfl (fun hl=>?_)
 rw [S8.Zac,ZgP,(Zci hl).1,(Zci hl).2];rfl
section
variable {ops:Array Oper} {rest:List Oper} {o:Oper} {act:Act} {Q:Exit→Act→World→Prop}
variable {w W:World} {b g0 gn i:Nat} {S:Pg} {h:Bool} {k:Int} {t:Bs} {n a:Int} {c:List Nd} {s:Value}
theorem Fx.at (F:Fx w b S g0 gn W i h k t n a c s) {W':World} (g:W.grownBy W' (some gn)) {a':Int} (hI:Is W' gn 24 #[.int .i64 k,.string (mk t),.int .i64 n,.int .i64 a',s]):Fx w b S g0 gn W' i h k t n a' c s:=
 F.plain.putAll g hI F.row
theorem OwnX.drew {w:World} {base gn:Nat} {c:List Nd} {s:Value} (h:OwnX w base gn c s):OwnX w.drew base gn c s:=h.stay fun _ _ _ _=>rfl
theorem OwnX.slice {w:World} {base gn:Nat} {c:List Nd} {s:Value} (h:OwnX w base gn c s):∃A n cp,s=.slice A n cp:=by
 rcases h.own.form with ⟨e,-⟩ | ⟨g,cap,e,-⟩ <;> exact ⟨_,_,_,e⟩
theorem Zh5 (F:Fx w b S g0 gn W i h k t n a c s) (a':Int) (hdst:o.dst=none) (hgd:o.guard=none) (x y:Operand) (ho:o.op=.store 3 x y) (hx:act.eval x=.pointer (some ⟨gn,3,none⟩)) (hy:act.eval y=.int .i64 a')
  (hK:∀W',Fx w b S g0 gn W' i h k t n a' c s→wpList prog ops Q rest act W'):wpList prog ops Q (o::rest) act W:=
 Zc4 F.nd (j:=3) (show 3 < 5 by decide) hgd 3 x y ho _ hx hy inf3 rfl fun _ h1 h2=>by
  have e:act.put o.dst undef=act:=by rw [hdst];rfl
  rw [e];exact hK _ (F.at h2 h1)
end
theorem Fx.turn2 {w W W':World} {b g0 gn i:Nat} {S:Pg} {h:Bool} {k:Int} {t:Bs} {n a:Int} {c:List Nd} {s:Value} (F:Fx w b S g0 gn W i h k t n a c s) (g:∃g,W.grownBy W' (some g)∧g0 + 1≤g∧g≠gn):Fm w b S g0 gn W' i h k t n a s:=F.turn g
theorem Zny (N b:Nat) (S:Pg) (h:Bool) (HE:∀h,Does N 138 b S h (single (lim (.expr h)))) (w:World) (i:Nat) (hp:Ps w b S i h) (hN:S.toks.length≤N + i) :
  Calls prog 269 #[.pointer (some ⟨b,0,none⟩)] w (Post w b S i h (single (lim (.post h)) S.size (S.toks.drop i)) (ZaO w)):=by
 have HP:=hid hp
 have HPr:=hid (fun w p=>Znw N b S h HE w i p hN)
 have HEx:=hid (show Does N 138 b S false (single (lim (.one .expr))) by rw [Zfc];exact HE false)
 have HSt:=hid (ZiD N b S HE)
 have HSp:=hid (ZpO h S i)
 have C0:=Zdq b S i h _ (hp.alloc (.cells z5 24))
 have hbb:=hp.lt
 obtain ⟨pl,hpl⟩:∃pl,pl=place S i:=⟨_,rfl⟩
 rw [← hpl] at C0 HSp
 clear hp HE hpl
 go_enter func269,ntmps269
 go_wp2_with (first
  | (go_at_call 59;(with_reducible refine C0.mono ?_);rintro e w1 ⟨rfl,h1⟩;have B1:=hid h1;have C1:=HPr.out _ ((HP.out.alloc (.cells z5 24)).below h1 (HP.out.alloc (.cells z5 24)).lt);clear h1 C0)
  | (go_at_call 285;(with_reducible refine C1.mono ?_);rintro e wz h1;rcases h1.ways with ⟨a,j,h',e1,rfl,g,p,rfl⟩ | ⟨x0,j0,v,e1,rfl,g,hj0,p,r0,rfl,ho⟩;exact ⟨rfl,Post.err (by rw [HSp.out,S8.Zac,e1]) (Zaa (Zaj (((Below.refl w.heap.size w).alloc (Nat.le_refl _) (.cells z5 24)).trans (B1.out.mono (by simp)))) g (.inl rfl)) p⟩;have F2:=hid (And.intro (Zaa (Zaj (r:=some b) B1.out) g (.inl rfl)) (And.intro p (ho.weak B1.out.size)));have E2:=hid e1;have hl2:=ZaT (S8.ZaY (S8.Zll (.prim h) rfl)) e1;clear h1 e1 g p ho C1)
  | (refine Zah (g:=wz.heap.size) (t:=24) (old:=z5) (by exact Is.fresh wz 24 _) rfl 24 _ _ rfl (nd5 x0.k x0.t x0.n x0.a r0) rfl rfl inf24 rfl (by have h1:=F2.out.2.2.one;simp [nd5,h1];exact ⟨rfl,rfl,rfl,rfl⟩) ?_;intro w3 h1 h2;have F3:=hid (Fx.start HP.out F2.out.1 F2.out.2.1 F2.out.2.2 h1 h2);clear h1 h2))
 have T0:Hid (single (lim (.post h)) S.size (S.toks.drop i)=single (lim (.ptail h pl x0)) S.size (S.toks.drop j0)):=hid (by rw [HSp.out,S8.Zac,E2.out])
 clear F2 HSp E2 HPr
 rw [show ∀(a:Act),a.put none undef=a from fun _=>rfl]
 go_loopw [] (fun wr=>∃(j:Nat) (x:Nd) (r:Value),Hid (Fx w b S w.heap.size wz.heap.size wr j h x.k x.t x.n x.a x.c r∧single (lim (.post h)) S.size (S.toks.drop i)=single (lim (.ptail h pl x)) S.size (S.toks.drop j)∧i < j)) (fun wr=>S.toks.length - nextIn b wr)
 case atStart=>exact ⟨j0,x0,r0,hid ⟨F3.out,T0.out,by omega⟩⟩
 case round=>
  clear T0 F3 hl2
  obtain ⟨j,x,r,HR⟩:=hrel
  have hnx:=HR.out.1.ps.nextIn
  have hjl0:=HR.out.1.ps.le
  have hij:=HR.out.2.2
  by_cases hw:Zag S j=S8.mLp
  ·have C1:=Zau b S j h _ HR.out.1.ps
   rw [hw] at C1
   replace C1:Calls prog 60 #[.pointer (some ⟨b,0,none⟩)] wr fun e w'=>e=.returned (.string ⟨#[40]⟩)∧Below wr.heap.size wr w':=C1
   have hjl:=ZaL (S:=S) (i:=j) (by rw [hw];decide)
   have HW:=hid hw
   clear hw
   go_wp2_with (first
    | (go_at_call 60;(with_reducible refine C1.mono ?_);rintro e w2 ⟨rfl,h1⟩;have F2:=hid (HR.out.1.look h1);clear h1 C1))
   refine ZfN (fun W=>Is W wz.heap.size 24 (nd5 x.k x.t x.n x.a r)) (fun k=>decide (k < 4)) [0,2] 1 3 [4,5,6] (by kernel_rfl) (by kernel_rfl) (fun c a a' W hd hq=>⟨hd▸hq.1,hq.2⟩) F2.out.nd ?_
   refine Zab (.agg (nd5 x.k x.t x.n x.a r)) rfl (by rfl) (fun W hS=>Zgy rfl rfl rfl W hS) ?_
   refine fs (.pointer (some ⟨b,0,none⟩)) rfl ?_
   have F4:=hid (F2.out.look (Below.refl _ _).drew)
   refine ZhL ?_ ?_
   ·refine cs rfl fun K9 HK9=>?_
    go_wp2_with fail
    have R5:=hid ((F2.out.row.single (x:=x) F2.out.size.1 F2.out.size.2).drew)
    have F5:=hid (F2.out.look ((Below.refl _ _).alloc (Nat.le_refl _) (.cells (nd5 x.k x.t x.n x.a r) 24)).drew)
    refine HK9.out _ _ (fun _=>F5.out.nd) ?_
    have C6:=ZeV N b S h HEx.out _ j F5.out.ps (by omega)
    refine cs rfl fun K9 HK9=>?_
    go_wp2_with (go_at_call 189;(with_reducible refine C6.mono ?_);rintro e w6 h1;rcases h1.ways with ⟨a,j',h',e1,rfl,g,p,rfl⟩ | ⟨l,j6,v6,e1,rfl,g,hj6,p,ho,hc6⟩;exact ⟨rfl,Post.err (HR.out.2.1.trans (by rw [Zcy];unfold S8.ptail;simp (decide:=true) only [S8.Zac,S8.Zae,Zaf S j (show S8.mLp≠[] by decide),Zaf S j (show S8.ZdG≠[] by decide),Zaf S j (show S8.Zda≠[] by decide),Zay S j (show S8.ZdG≠[] by decide),Zay S j (show S8.Zda≠[] by decide),HW.out,if_true,if_false,e1])) (Zaa F5.out.fr g (.inl rfl)) p⟩;have F6:=hid (F5.out.call g p);have G6:=hid ho;have E6:=hid e1;have R6:=hid (R5.out.grown g (.inl (by have:=F5.out.h0;have:=F5.out.hb;omega)));clear h1 e1 g p ho C6)
    refine HK9.out _ _ (fun _=>F6.out.nd) ?_
    refine cs rfl fun K9 HK9=>?_
    refine Zfs (base:=w.heap.size + 1) (gn:=wz.heap.size) R6.out G6.out ?le (fun _ _=>rfl) ?own ?len F6.out.size rfl (.tmp 15) (.tmp 17) rfl rfl rfl ?_
    case le=>exact F5.out.size
    case own=>exact fun z hz=>.inl (by have hz2:some _=some z:=hz;injection hz2 with hz2;subst hz2;simp)
    case len=>simp;omega
    intro v8 w8 h1 h2
    obtain ⟨A8,n8,p8,rfl⟩:=h1.slice
    have F8:=hid (And.intro (F6.out.turn2 h2) h1)
    clear h1 h2
    refine HK9.out _ _ (fun h=>by cases h) ?_
    refine cs rfl fun K9 HK9=>?_
    go_wp2_with fail
    refine HK9.out _ _ (fun h=>by cases h) ?_
    refine cs rfl fun K9 HK9=>?_
    refine Zah (F8.out.1).nd rfl 24 _ _ rfl (nd5 32 [] 0 0 (.slice A8 n8 p8)) rfl rfl inf24 rfl (by simp [nd5,Value.oneCell']) ?_
    intro w9 h1 h2
    have F9:=hid ((F8.out.1).putAll h2 h1 (F8.out.2))
    clear h1 h2
    refine HK9.out _ _ (fun h=>by cases h) ?_
    refine Zam ?_
    go_wp2_with (refine Zh5 F9.out pl rfl rfl _ _ rfl rfl rfl ?_;intro w10 h1;have F10:=hid h1;clear h1)
    have hle6:=F10.out.ps.le
    have hl6:=ZaT (S8.Za8 S8.Znd S8.mLp What.expr S8.mRp) E6.out
    refine ⟨⟨j6,.mk 32 [] 0 pl ([x]++l),_,hid ⟨F10.out,HR.out.2.1.trans ?_,by omega⟩⟩,by rw [F10.out.ps.nextIn,hnx];omega⟩
    rw [Zcy];unfold S8.ptail;simp (decide:=true) only [S8.Zac,S8.Zae,Zaf S j (show S8.mLp≠[] by decide),Zaf S j (show S8.ZdG≠[] by decide),Zaf S j (show S8.Zda≠[] by decide),Zay S j (show S8.ZdG≠[] by decide),Zay S j (show S8.Zda≠[] by decide),HW.out,if_true,if_false,E6.out];try rfl
   ·have C6:=ZeV N b S h HEx.out _ j F4.out.ps (by omega)
    refine cs rfl fun K9 HK9=>?_
    go_wp2_with (go_at_call 189;(with_reducible refine C6.mono ?_);rintro e w6 h1;rcases h1.ways with ⟨a,j',h',e1,rfl,g,p,rfl⟩ | ⟨l,j6,v6,e1,rfl,g,hj6,p,ho,hc6⟩;exact ⟨rfl,Post.err (HR.out.2.1.trans (by rw [Zcy];unfold S8.ptail;simp (decide:=true) only [S8.Zac,S8.Zae,Zaf S j (show S8.mLp≠[] by decide),Zaf S j (show S8.ZdG≠[] by decide),Zaf S j (show S8.Zda≠[] by decide),Zay S j (show S8.ZdG≠[] by decide),Zay S j (show S8.Zda≠[] by decide),HW.out,if_true,if_false,e1])) (Zaa F4.out.fr g (.inl rfl)) p⟩;have F6:=hid (F4.out.call g p);have G6:=hid ho;have E6:=hid e1;clear h1 e1 g p ho C6)
    refine HK9.out _ _ (fun _=>F6.out.nd) ?_
    refine cs rfl fun K9 HK9=>?_
    go_wp2_with fail
    have R7:=hid (F6.out.row.single (x:=x) F6.out.size.1 F6.out.size.2)
    have F7:=hid (F6.out.look ((Below.refl _ _).alloc (Nat.le_refl _) (.cells (nd5 x.k x.t x.n x.a r) 24)))
    refine HK9.out _ _ (fun _=>F7.out.nd) ?_
    refine cs rfl fun K9 HK9=>?_
    refine Zfs (base:=w.heap.size + 1) (gn:=wz.heap.size) R7.out G6.out ?le (fun z hz=>Below.heap_alloc w6 _ z hz) ?own ?len F7.out.size rfl (.tmp 15) (.tmp 17) rfl rfl rfl ?_
    case le=>exact F4.out.size
    case own=>exact fun z hz=>.inr (by have hz2:some _=some z:=hz;injection hz2 with hz2;subst hz2;exact Nat.le_refl _)
    case len=>simp;omega
    intro v8 w8 h1 h2
    obtain ⟨A8,n8,p8,rfl⟩:=h1.slice
    have F8:=hid (And.intro (F7.out.turn2 h2) h1)
    clear h1 h2
    refine HK9.out _ _ (fun h=>by cases h) ?_
    refine cs rfl fun K9 HK9=>?_
    go_wp2_with fail
    refine HK9.out _ _ (fun h=>by cases h) ?_
    refine cs rfl fun K9 HK9=>?_
    refine Zah (F8.out.1).nd rfl 24 _ _ rfl (nd5 32 [] 0 0 (.slice A8 n8 p8)) rfl rfl inf24 rfl (by simp [nd5,Value.oneCell']) ?_
    intro w9 h1 h2
    have F9:=hid ((F8.out.1).putAll h2 h1 (F8.out.2))
    clear h1 h2
    refine HK9.out _ _ (fun h=>by cases h) ?_
    refine Zam ?_
    go_wp2_with (refine Zh5 F9.out pl rfl rfl _ _ rfl rfl rfl ?_;intro w10 h1;have F10:=hid h1;clear h1)
    have hle6:=F10.out.ps.le
    have hl6:=ZaT (S8.Za8 S8.Znd S8.mLp What.expr S8.mRp) E6.out
    refine ⟨⟨j6,.mk 32 [] 0 pl ([x]++l),_,hid ⟨F10.out,HR.out.2.1.trans ?_,by omega⟩⟩,by rw [F10.out.ps.nextIn,hnx];omega⟩
    rw [Zcy];unfold S8.ptail;simp (decide:=true) only [S8.Zac,S8.Zae,Zaf S j (show S8.mLp≠[] by decide),Zaf S j (show S8.ZdG≠[] by decide),Zaf S j (show S8.Zda≠[] by decide),Zay S j (show S8.ZdG≠[] by decide),Zay S j (show S8.Zda≠[] by decide),HW.out,if_true,if_false,E6.out];try rfl
  by_cases hw2:Zag S j=S8.ZdG
  ·have hw:=hw2
   have C1:=Zau b S j h _ HR.out.1.ps
   rw [hw] at C1
   replace C1:Calls prog 60 #[.pointer (some ⟨b,0,none⟩)] wr fun e w'=>e=.returned (.string ⟨#[46]⟩)∧Below wr.heap.size wr w':=C1
   have hjl:=ZaL (S:=S) (i:=j) (by rw [hw];decide)
   have HW:=hid hw
   clear hw
   go_wp2_with (first
    | (go_at_call 60;(with_reducible refine C1.mono ?_);rintro e w2 ⟨rfl,h1⟩;have F2:=hid (HR.out.1.look h1);clear h1 C1;have C2:=Za6 b S j h _ F2.out.ps ⟨#[46]⟩ HW.out (by decide))
    | (go_at_call 119;(with_reducible refine C2.mono ?_);rintro e w3 ⟨rfl,p,g⟩;have F3:=hid (F2.out.call g p);clear g p C2))
   refine ZfN (fun W=>Is W wz.heap.size 24 (nd5 x.k x.t x.n x.a r)) (fun k=>decide (k < 4)) [0,2] 1 3 [4,5] (by kernel_rfl) (by kernel_rfl) (fun c a a' W hd hq=>⟨hd▸hq.1,hq.2⟩) F3.out.nd ?_
   refine fs (.pointer (some ⟨b,0,none⟩)) rfl ?_
   refine Zab (.agg (nd5 x.k x.t x.n x.a r)) rfl (by rfl) (fun W hS=>Zgy rfl rfl rfl W hS) ?_
   have F4:=hid (F3.out.look (Below.refl _ _).drew)
   refine ZhL ?_ ?_
   ·have C6:=Zcz b S (j + 1) h _ F4.out.ps
    refine cs rfl fun K9 HK9=>?_
    go_wp2_with (go_at_call 136;(with_reducible refine C6.mono ?_);rintro e w6 h1;rcases h1.ways with ⟨a,j',h',e1,rfl,g,p,rfl⟩ | ⟨t,j6,v,e1,rfl,g,hj6,p,rfl⟩;exact ⟨rfl,Post.err (HR.out.2.1.trans (by rw [Zcy];unfold S8.ptail;simp (decide:=true) only [S8.Zac,S8.Zae,Zaf S j (show S8.mLp≠[] by decide),Zaf S j (show S8.ZdG≠[] by decide),Zaf S j (show S8.Zda≠[] by decide),Zay S j (show S8.ZdG≠[] by decide),Zay S j (show S8.Zda≠[] by decide),HW.out,if_true,if_false,e1])) (Zaa F4.out.fr g (.inl rfl)) p⟩;have F6:=hid (F4.out.call g p);have E6:=hid e1;clear h1 e1 g p C6)
    refine HK9.out _ _ (fun _=>F6.out.nd) ?_
    refine cs rfl fun K9 HK9=>?_
    go_wp2_with fail
    have R7:=hid (F6.out.row.single (x:=x) F6.out.size.1 F6.out.size.2)
    have F7:=hid (F6.out.look ((Below.refl _ _).alloc (Nat.le_refl _) (.cells (nd5 x.k x.t x.n x.a r) 24)))
    refine HK9.out _ _ (fun _=>F7.out.nd) ?_
    refine cs rfl fun K9 HK9=>?_
    go_wp2_with fail
    refine HK9.out _ _ (fun h=>by cases h) ?_
    refine cs rfl fun K9 HK9=>?_
    refine Zah (F7.out.plain).nd rfl 24 _ _ rfl (nd5 30 t 0 0 (.slice (some ⟨_,0,none⟩) 1 1)) rfl rfl inf24 rfl (by simp [nd5,Value.oneCell']) ?_
    intro w9 h1 h2
    have F9:=hid ((F7.out.plain).putAll h2 h1 (R7.out))
    clear h1 h2
    refine HK9.out _ _ (fun h=>by cases h) ?_
    refine Zam ?_
    go_wp2_with (refine Zh5 F9.out pl rfl rfl _ _ rfl rfl rfl ?_;intro w10 h1;have F10:=hid h1;clear h1)
    have hle6:=F10.out.ps.le
    refine ⟨⟨j6,.mk 30 t 0 pl [x],_,hid ⟨F10.out,HR.out.2.1.trans ?_,by omega⟩⟩,by rw [F10.out.ps.nextIn,hnx];omega⟩
    rw [Zcy];unfold S8.ptail;simp (decide:=true) only [S8.Zac,S8.Zae,Zaf S j (show S8.mLp≠[] by decide),Zaf S j (show S8.ZdG≠[] by decide),Zaf S j (show S8.Zda≠[] by decide),Zay S j (show S8.ZdG≠[] by decide),Zay S j (show S8.Zda≠[] by decide),HW.out,if_true,if_false,E6.out];try rfl
   ·refine cs rfl fun K9 HK9=>?_
    go_wp2_with fail
    have R5:=hid ((F3.out.row.single (x:=x) F3.out.size.1 F3.out.size.2).drew)
    have F5:=hid (F3.out.look ((Below.refl _ _).alloc (Nat.le_refl _) (.cells (nd5 x.k x.t x.n x.a r) 24)).drew)
    refine HK9.out _ _ (fun _=>F5.out.nd) ?_
    have C6:=Zcz b S (j + 1) h _ F5.out.ps
    refine cs rfl fun K9 HK9=>?_
    go_wp2_with (go_at_call 136;(with_reducible refine C6.mono ?_);rintro e w6 h1;rcases h1.ways with ⟨a,j',h',e1,rfl,g,p,rfl⟩ | ⟨t,j6,v,e1,rfl,g,hj6,p,rfl⟩;exact ⟨rfl,Post.err (HR.out.2.1.trans (by rw [Zcy];unfold S8.ptail;simp (decide:=true) only [S8.Zac,S8.Zae,Zaf S j (show S8.mLp≠[] by decide),Zaf S j (show S8.ZdG≠[] by decide),Zaf S j (show S8.Zda≠[] by decide),Zay S j (show S8.ZdG≠[] by decide),Zay S j (show S8.Zda≠[] by decide),HW.out,if_true,if_false,e1])) (Zaa F5.out.fr g (.inl rfl)) p⟩;have F6:=hid (F5.out.call g p);have E6:=hid e1;have R6:=hid (R5.out.grown g (.inl (by have:=F5.out.h0;have:=F5.out.hb;omega)));clear h1 e1 g p C6)
    refine HK9.out _ _ (fun _=>F6.out.nd) ?_
    refine cs rfl fun K9 HK9=>?_
    go_wp2_with fail
    refine HK9.out _ _ (fun h=>by cases h) ?_
    refine cs rfl fun K9 HK9=>?_
    refine Zah (F6.out.plain).nd rfl 24 _ _ rfl (nd5 30 t 0 0 (.slice (some ⟨_,0,none⟩) 1 1)) rfl rfl inf24 rfl (by simp [nd5,Value.oneCell']) ?_
    intro w9 h1 h2
    have F9:=hid ((F6.out.plain).putAll h2 h1 (R6.out))
    clear h1 h2
    refine HK9.out _ _ (fun h=>by cases h) ?_
    refine Zam ?_
    go_wp2_with (refine Zh5 F9.out pl rfl rfl _ _ rfl rfl rfl ?_;intro w10 h1;have F10:=hid h1;clear h1)
    have hle6:=F10.out.ps.le
    refine ⟨⟨j6,.mk 30 t 0 pl [x],_,hid ⟨F10.out,HR.out.2.1.trans ?_,by omega⟩⟩,by rw [F10.out.ps.nextIn,hnx];omega⟩
    rw [Zcy];unfold S8.ptail;simp (decide:=true) only [S8.Zac,S8.Zae,Zaf S j (show S8.mLp≠[] by decide),Zaf S j (show S8.ZdG≠[] by decide),Zaf S j (show S8.Zda≠[] by decide),Zay S j (show S8.ZdG≠[] by decide),Zay S j (show S8.Zda≠[] by decide),HW.out,if_true,if_false,E6.out];try rfl
  by_cases hw3:Zag S j=S8.Zda
  ·have hw:=hw3
   have C1:=Zau b S j h _ HR.out.1.ps
   rw [hw] at C1
   replace C1:Calls prog 60 #[.pointer (some ⟨b,0,none⟩)] wr fun e w'=>e=.returned (.string ⟨#[119,105,116,104]⟩)∧Below wr.heap.size wr w':=C1
   have hjl:=ZaL (S:=S) (i:=j) (by rw [hw];decide)
   have HW:=hid hw
   clear hw
   go_wp2_with (first
    | (go_at_call 60;(with_reducible refine C1.mono ?_);rintro e w2 ⟨rfl,h1⟩;have F2:=hid (HR.out.1.look h1);clear h1 C1;have C2:=Za6 b S j h _ F2.out.ps ⟨#[119,105,116,104]⟩ HW.out (by decide))
    | (go_at_call 119;(with_reducible refine C2.mono ?_);rintro e w3 ⟨rfl,p,g⟩;have F3:=hid (F2.out.call g p);clear g p C2))
   refine ZfN (fun W=>Is W wz.heap.size 24 (nd5 x.k x.t x.n x.a r)) (fun k=>decide (k < 6)) [0,2,3,4] 1 5 [6,7,8] (by kernel_rfl) (by kernel_rfl) (fun c a a' W hd hq=>⟨hd▸hq.1,hq.2⟩) F3.out.nd ?_
   refine Zab (.agg (nd5 x.k x.t x.n x.a r)) rfl (by rfl) (fun W hS=>Zgy rfl rfl rfl W hS) ?_
   refine fs (.pointer (some ⟨b,0,none⟩)) rfl ?_
   refine fs (.pointer (some ⟨b,0,none⟩)) rfl ?_
   refine Zab (.func (.func 187) #[.pointer (some ⟨b,0,none⟩)] #[]) rfl (by rfl) (fun W hS=>by first | (go_simp;done) | (simp [execOp,Instr.makeFunc,go_sem,Act.put];done)) ?_
   have F4:=hid (F3.out.look (Below.refl _ _).drew)
   refine ZhL ?_ ?_
   ·refine cs rfl fun K9 HK9=>?_
    go_wp2_with fail
    have R5:=hid ((F3.out.row.single (x:=x) F3.out.size.1 F3.out.size.2).drew)
    have F5:=hid (F3.out.look ((Below.refl _ _).alloc (Nat.le_refl _) (.cells (nd5 x.k x.t x.n x.a r) 24)).drew)
    refine HK9.out _ _ (fun _=>F5.out.nd) ?_
    have C6:=show Calls prog 134 #[.pointer (some ⟨b,0,none⟩),.string ⟨#[123]⟩,.func (.func 187) #[.pointer (some ⟨b,0,none⟩)] #[],.string ⟨#[125]⟩] _ (Post _ b S (j + 1) h (S8.some1 lim S8.mLb .set S8.mRb S.size (S.toks.drop (j + 1))) (Zim _)) from Ze2 (N + 1) 187 b S .set ent187 HSt.out h _ (j + 1) F5.out.ps (by omega) ⟨#[123]⟩ ⟨#[125]⟩ (by decide) (by decide)
    refine cs rfl fun K9 HK9=>?_
    go_wp2_with (go_at_call 134;(with_reducible refine C6.mono ?_);rintro e w6 h1;rcases h1.ways with ⟨a,j',h',e1,rfl,g,p,rfl⟩ | ⟨l,j6,v6,e1,rfl,g,hj6,p,ho,hc6⟩;exact ⟨rfl,Post.err (HR.out.2.1.trans (by rw [Zcy];unfold S8.ptail;simp (decide:=true) only [S8.Zac,S8.Zae,Zaf S j (show S8.mLp≠[] by decide),Zaf S j (show S8.ZdG≠[] by decide),Zaf S j (show S8.Zda≠[] by decide),Zay S j (show S8.ZdG≠[] by decide),Zay S j (show S8.Zda≠[] by decide),HW.out,if_true,if_false,e1])) (Zaa F5.out.fr g (.inl rfl)) p⟩;have F6:=hid (F5.out.call g p);have G6:=hid ho;have E6:=hid e1;have R6:=hid (R5.out.grown g (.inl (by have:=F5.out.h0;have:=F5.out.hb;omega)));clear h1 e1 g p ho C6)
    refine HK9.out _ _ (fun _=>F6.out.nd) ?_
    refine cs rfl fun K9 HK9=>?_
    refine Zfs (base:=w.heap.size + 1) (gn:=wz.heap.size) R6.out G6.out ?le (fun _ _=>rfl) ?own ?len F6.out.size rfl (.tmp 34) (.tmp 38) rfl rfl rfl ?_
    case le=>exact F5.out.size
    case own=>exact fun z hz=>.inl (by have hz2:some _=some z:=hz;injection hz2 with hz2;subst hz2;simp)
    case len=>simp;omega
    intro v8 w8 h1 h2
    obtain ⟨A8,n8,p8,rfl⟩:=h1.slice
    have F8:=hid (And.intro (F6.out.turn2 h2) h1)
    clear h1 h2
    refine HK9.out _ _ (fun h=>by cases h) ?_
    refine cs rfl fun K9 HK9=>?_
    go_wp2_with fail
    refine HK9.out _ _ (fun h=>by cases h) ?_
    refine cs rfl fun K9 HK9=>?_
    refine Zah (F8.out.1).nd rfl 24 _ _ rfl (nd5 31 [] 0 0 (.slice A8 n8 p8)) rfl rfl inf24 rfl (by simp [nd5,Value.oneCell']) ?_
    intro w9 h1 h2
    have F9:=hid ((F8.out.1).putAll h2 h1 (F8.out.2))
    clear h1 h2
    refine HK9.out _ _ (fun h=>by cases h) ?_
    refine Zam ?_
    go_wp2_with (refine Zh5 F9.out pl rfl rfl _ _ rfl rfl rfl ?_;intro w10 h1;have F10:=hid h1;clear h1)
    have hle6:=F10.out.ps.le
    refine ⟨⟨j6,.mk 31 [] 0 pl ([x]++l),_,hid ⟨F10.out,HR.out.2.1.trans ?_,by omega⟩⟩,by rw [F10.out.ps.nextIn,hnx];omega⟩
    rw [Zcy];unfold S8.ptail;simp (decide:=true) only [S8.Zac,S8.Zae,Zaf S j (show S8.mLp≠[] by decide),Zaf S j (show S8.ZdG≠[] by decide),Zaf S j (show S8.Zda≠[] by decide),Zay S j (show S8.ZdG≠[] by decide),Zay S j (show S8.Zda≠[] by decide),HW.out,if_true,if_false,E6.out];try rfl
   ·have C6:=show Calls prog 134 #[.pointer (some ⟨b,0,none⟩),.string ⟨#[123]⟩,.func (.func 187) #[.pointer (some ⟨b,0,none⟩)] #[],.string ⟨#[125]⟩] _ (Post _ b S (j + 1) h (S8.some1 lim S8.mLb .set S8.mRb S.size (S.toks.drop (j + 1))) (Zim _)) from Ze2 (N + 1) 187 b S .set ent187 HSt.out h _ (j + 1) F4.out.ps (by omega) ⟨#[123]⟩ ⟨#[125]⟩ (by decide) (by decide)
    refine cs rfl fun K9 HK9=>?_
    go_wp2_with (go_at_call 134;(with_reducible refine C6.mono ?_);rintro e w6 h1;rcases h1.ways with ⟨a,j',h',e1,rfl,g,p,rfl⟩ | ⟨l,j6,v6,e1,rfl,g,hj6,p,ho,hc6⟩;exact ⟨rfl,Post.err (HR.out.2.1.trans (by rw [Zcy];unfold S8.ptail;simp (decide:=true) only [S8.Zac,S8.Zae,Zaf S j (show S8.mLp≠[] by decide),Zaf S j (show S8.ZdG≠[] by decide),Zaf S j (show S8.Zda≠[] by decide),Zay S j (show S8.ZdG≠[] by decide),Zay S j (show S8.Zda≠[] by decide),HW.out,if_true,if_false,e1])) (Zaa F4.out.fr g (.inl rfl)) p⟩;have F6:=hid (F4.out.call g p);have G6:=hid ho;have E6:=hid e1;clear h1 e1 g p ho C6)
    refine HK9.out _ _ (fun _=>F6.out.nd) ?_
    refine cs rfl fun K9 HK9=>?_
    go_wp2_with fail
    have R7:=hid (F6.out.row.single (x:=x) F6.out.size.1 F6.out.size.2)
    have F7:=hid (F6.out.look ((Below.refl _ _).alloc (Nat.le_refl _) (.cells (nd5 x.k x.t x.n x.a r) 24)))
    refine HK9.out _ _ (fun _=>F7.out.nd) ?_
    refine cs rfl fun K9 HK9=>?_
    refine Zfs (base:=w.heap.size + 1) (gn:=wz.heap.size) R7.out G6.out ?le (fun z hz=>Below.heap_alloc w6 _ z hz) ?own ?len F7.out.size rfl (.tmp 34) (.tmp 38) rfl rfl rfl ?_
    case le=>exact F4.out.size
    case own=>exact fun z hz=>.inr (by have hz2:some _=some z:=hz;injection hz2 with hz2;subst hz2;exact Nat.le_refl _)
    case len=>simp;omega
    intro v8 w8 h1 h2
    obtain ⟨A8,n8,p8,rfl⟩:=h1.slice
    have F8:=hid (And.intro (F7.out.turn2 h2) h1)
    clear h1 h2
    refine HK9.out _ _ (fun h=>by cases h) ?_
    refine cs rfl fun K9 HK9=>?_
    go_wp2_with fail
    refine HK9.out _ _ (fun h=>by cases h) ?_
    refine cs rfl fun K9 HK9=>?_
    refine Zah (F8.out.1).nd rfl 24 _ _ rfl (nd5 31 [] 0 0 (.slice A8 n8 p8)) rfl rfl inf24 rfl (by simp [nd5,Value.oneCell']) ?_
    intro w9 h1 h2
    have F9:=hid ((F8.out.1).putAll h2 h1 (F8.out.2))
    clear h1 h2
    refine HK9.out _ _ (fun h=>by cases h) ?_
    refine Zam ?_
    go_wp2_with (refine Zh5 F9.out pl rfl rfl _ _ rfl rfl rfl ?_;intro w10 h1;have F10:=hid h1;clear h1)
    have hle6:=F10.out.ps.le
    refine ⟨⟨j6,.mk 31 [] 0 pl ([x]++l),_,hid ⟨F10.out,HR.out.2.1.trans ?_,by omega⟩⟩,by rw [F10.out.ps.nextIn,hnx];omega⟩
    rw [Zcy];unfold S8.ptail;simp (decide:=true) only [S8.Zac,S8.Zae,Zaf S j (show S8.mLp≠[] by decide),Zaf S j (show S8.ZdG≠[] by decide),Zaf S j (show S8.Zda≠[] by decide),Zay S j (show S8.ZdG≠[] by decide),Zay S j (show S8.Zda≠[] by decide),HW.out,if_true,if_false,E6.out];try rfl
  have C1:=Zau b S j h _ HR.out.1.ps
  obtain ⟨u,hu⟩:∃u,u=mk (Zag S j):=⟨_,rfl⟩
  rw [← hu] at C1
  have n0:(u.toList == [40])=false:=by rw [hu,Zas,Zbc];exact beq_eq_false_iff_ne.2 hw
  have n1:(u.toList == [46])=false:=by rw [hu,Zas,Zbc];exact beq_eq_false_iff_ne.2 hw2
  have n2:(u.toList == [119,105,116,104])=false:=by rw [hu,Zas,Zbc];exact beq_eq_false_iff_ne.2 hw3
  have HF:=hid (And.intro hw (And.intro hw2 hw3))
  clear hu hw hw2 hw3
  go_wp2_with (first
   | (go_at_call 60;(with_reducible refine C1.mono ?_);rintro e w2 ⟨rfl,h1⟩;have F2:=hid (HR.out.1.look h1);clear h1 C1)
   | (refine ZgD F2.out rfl _ rfl rfl ?_)
   | (refine Zgt F2.out rfl _ _ rfl rfl rfl ?_;intro w4 h1 h2 h3 h4;have F4:=hid (And.intro h1 (And.intro h2 (And.intro h3 h4)));clear h1 h2 h3 h4))
  refine ret24 results269 F4.out.1
   (Post.ok (j:=j) (x:=S8.Nd.mk x.k x.t x.n x.a x.c) (HR.out.2.1.trans (by
    rw [Zcy,ZoY];unfold S8.ptail
    simp only [S8.Zac,S8.Zae,Zaf S j (show S8.mLp≠[] by decide),Zaf S j (show S8.ZdG≠[] by decide),Zaf S j (show S8.Zda≠[] by decide),HF.out.1,HF.out.2.1,HF.out.2.2,decide_false,Bool.false_eq_true,if_false]
    rfl)) F4.out.2.1 F4.out.2.2.1 (by omega) F4.out.2.2.2)
open Go.RowKit L7
open S8 (lim single What)
theorem ZrO {ops:Array Oper} {rest:List Oper} {o:Oper} {a:Act} {w:World} {Q:Exit→Act→World→Prop} {m:Nat} (hm:MapHas w m) (s:ByteArray) (hs:s.size≤maxLen) (hgd:o.guard=none) (x y:Operand) (ho:o.op=.lookup 76 x y false) (hx:a.eval x=.map (some m)) (hy:a.eval y=.string s)
  (h:wpList prog ops Q rest (a.put o.dst (.int .i64 (S8.level (ls s):Int))) w):wpList prog ops Q (o::rest) a w:=by
 refine wpList_plain hgd fun K hK=>?_
 have hr:=Zo5 hm s hs
 unfold Oper.wp execOp
 simp only [ho,hx,hy,Sem.run_bind,hr,Result.andThen_ok,Sem.run_pure]
 exact hK _ _ h
theorem Zmv (L:Nat) (hL:L≤100) (w:World):Calls prog 246 #[.int .i64 (L:Int)] w fun e w'=>e=.returned (.tuple #[.int .i64 (S8.lft L:Int),.int .i64 ((L + 1:Nat):Int)])∧w=w':=by
 by_cases h4:L=4
 ·subst h4
  go_enter func246,ntmps246
  go_wp2
  go_ret2
  exact ⟨rfl,rfl⟩
 ·have hn:((L:Int) == 4)=false:=beq_false_of_ne (by omega)
  have hl:S8.lft L=L:=if_neg h4
  rw [hl]
  clear hl
  go_enter func246,ntmps246
  go_wp2
  go_ret2
  exact ⟨rfl,rfl⟩
theorem ZiK (s:Bs):S8.level s≤7:=by
 unfold S8.level
 repeat' split
 all_goals omega
theorem OwnX.two {w:World} {base base2 gn:Nat} {x y:Nd} {r s:Value} (hx:OwnX w base gn x.c r) (hy:OwnRow w base2 y.c s) (hle:base≤base2∧gn < base2) (hb:base≤w.heap.size) (hg:gn < w.heap.size) :
  OwnX (w.alloc (.cells (nd10 x r y s) 24)) base gn [x,y] (.slice (some ⟨w.heap.size,0,none⟩) 2 2):=by
 have k1:=Zhl (hx.kid x rfl)
 have k2:=Zhl (hy.kid y rfl)
 have fit:∀(z:Nd) (u:Value),Kid w (fun g=>(base≤g∧g≠gn)∧g < w.heap.size) z u→Kid (w.alloc (.cells (nd10 x r y s) 24)) (fun g=>(base≤g∧g≠gn)∧some g≠(Value.slice (some ⟨w.heap.size,0,none⟩) 2 2).ownBlock) z u:=fun z u hz=>
  Zb0 (fun g hg hl=>⟨hg.1,fun e=>by simp [Value.ownBlock] at e;have:=hg.2;omega⟩) (fun g _ hl=>Below.heap_alloc w _ g hl) z u hz
 refine ⟨ndc x r++ndc y s,⟨rfl,.inr ⟨w.heap.size,2,_,rfl,hb,Is.fresh w 24 _,Nat.le_refl _,by decide,rfl,rfl⟩⟩,fun e=>by simp [Value.ownBlock] at e;omega,?_⟩
 exact ⟨r,ndc y s,rfl,fit x r k1,ZfM (fit y s (Zgz k2 fun g hg _=>⟨⟨by have:=hg.1;omega,by have:=hg.1;omega⟩,hg.2⟩))⟩
theorem ZpZ {t:Bs} (h:ZbM t=true) (h1:t≠S8.wOr) (h2:t≠S8.ZqC):S8.level t=0:=by
 have hne:∀s,ZbM s=false→(t == s)=false:=fun s hs=>beq_false_of_ne fun e=>by rw [e,hs] at h;cases h
 unfold S8.level
 rw [beq_false_of_ne h1,beq_false_of_ne h2,hne S8.ZyO (by decide),hne S8.mNe (by decide),hne S8.mLt (by decide),hne S8.mLe (by decide),hne S8.mGt (by decide),hne S8.mGe (by decide),hne S8.ZyP (by decide),hne S8.Zt7 (by decide),hne S8.Zcr (by decide),hne S8.Zt6 (by decide),hne S8.Zo0 (by decide),hne S8.ZyN (by decide)]
 rfl
theorem Zme {S:Pg} {i:Nat} (hok:(ZaK S i).k≠0→S8.okT (ZaK S i)=true):S8.olev (ZaK S i)=S8.level (Zag S i):=by
 unfold S8.olev Zag
 generalize ZaK S i=t at hok
 by_cases h1:t.k=1
 ·rw [show (if t.k=1∨t.k=4 then t.t else [])=t.t from if_pos (.inl h1)]
  have hn:=Zgx h1 (hok (by rw [h1];decide))
  by_cases ho:t.t=S8.wOr
  ·simp [h1,ho]
  ·by_cases ha:t.t=S8.ZqC
   ·simp [h1,ha]
   ·rw [ZpZ hn ho ha,beq_false_of_ne ho,beq_false_of_ne ha,h1];rfl
 ·by_cases h4:t.k=4
  ·rw [show (if t.k=1∨t.k=4 then t.t else [])=t.t from if_pos (.inr h4)]
   have hm:=hok (by rw [h4];decide)
   unfold S8.okT at hm
   simp [h4] at hm
   have ho:t.t≠S8.wOr:=fun e=>by rw [e] at hm;exact absurd hm.2 (by decide)
   have ha:t.t≠S8.ZqC:=fun e=>by rw [e] at hm;exact absurd hm.2 (by decide)
   rw [beq_false_of_ne ho,beq_false_of_ne ha,h4];rfl
  ·rw [show (if t.k=1∨t.k=4 then t.t else [])=[] from if_neg (by simp [h1,h4])]
   have e1:(t.k == 1)=false:=beq_false_of_ne h1
   have e4:(t.k == 4)=false:=beq_false_of_ne h4
   rw [e1,e4]
   simp only [ite_self,Bool.false_eq_true,if_false]
   rfl
theorem Zte (h:Bool) (a:Int) (f m:Nat) (hf:f < 10) (hm:1≤m) (hm9:m < 9) (x:Nd) (S:Pg) (j:Nat) (hok:(ZaK S j).k≠0→S8.okT (ZaK S j)=true) :
  S8.ZcU h a (S8.lv f m) x S.size (S.toks.drop j)=if S8.level (Zag S j) < m∨f < S8.lft (S8.level (Zag S j)) then .ok x (S.toks.drop j)
   else (single (lim (.bin (S8.level (Zag S j) + 1) h)) >>= fun y=>S8.ZcU h a (S8.lv (S8.level (Zag S j)) m) (.mk 35 (Zag S j) 0 a [x,y])) S.size (S.toks.drop (j + 1)):=by
 cases hx:S.toks[j]? with
 | none=>
  rw [ZdL hx,ZiX hx,S8.ZqS,if_pos (.inl (show S8.level [] < m by have:S8.level []=0:=rfl;omega))]
 | some t=>
  have h1:=Ze0 hx
  rw [ZdK hx]
  obtain ⟨t,b⟩:=t
  replace h1:ZaK S j=t:=h1
  rw [S8.Zpy h a f m hf hm hm9,← Zme hok,h1]
  by_cases hc:S8.olev t < m∨f < S8.lft (S8.olev t)
  ·rw [if_pos hc,if_pos hc]
  ·rw [if_neg hc,if_neg hc]
   have hw:Zag S j=t.t:=by
    have h2:S8.level (Zag S j)≠0:=by rw [← Zme hok,h1];omega
    unfold Zag at h2 ⊢
    rw [h1] at h2 ⊢
    by_cases hk:t.k=1∨t.k=4
    ·rw [if_pos hk]
    ·rw [if_neg hk] at h2;exact absurd rfl h2
   rw [hw]
theorem ZsM (h:Bool) (m:Nat) (h1:1≤m) (h8:m≤8) (S:Pg) (i:Nat):single (lim (.bin m h)) S.size (S.toks.drop i)=(S8.Zb3 m h >>= fun p=>S8.ZcU h (place S i) (S8.lv p.2 m) p.1) S.size (S.toks.drop i):=by
 cases hx:S.toks[i]? with
 | none=>
  rw [ZdL hx,S8.ZhU h1 (by omega),S8.Zac]
  rfl
 | some t=>
  rw [ZdK hx,Zdp hx]
  obtain ⟨t,b⟩:=t
  exact S8.ZmW h S.size t b _ (8 - m) m (by omega) h1
open Go.RowKit L7
open S8 (lim single What)
theorem Ps.tok_ok {w:World} {b:Nat} {S:Pg} {i:Nat} {h:Bool} (p:Ps w b S i h) (j:Nat) (hk:(ZaK S j).k≠0):S8.okT (ZaK S j)=true:=Go.Proofs.YtaheffiglmglbaaGreatDoor.tok_ok p.env hk
theorem ZqB {w:World} {b:Nat} {S:Pg} {i:Nat} {h:Bool} (p:Ps w b S i h) (j:Nat):(mk (Zag S j)).size≤maxLen:=by
 have h1:(Zag S j).length≤32768:=by
  unfold Zag
  split
  ·by_cases hj:j < S.toks.length
   ·have e:ZaK S j=(S.toks[j]).1:=by unfold ZaK;rw [List.getElem?_eq_getElem hj]
    rw [e]
    exact p.env.txt _ (List.getElem_mem hj)
   ·have e:ZaK S j=⟨0,[],0⟩:=by unfold ZaK;rw [List.getElem?_eq_none (by omega)]
    rw [e];simp
  ·simp
 have h2:(mk (Zag S j)).size=(Zag S j).length:=by simp [mk,ByteArray.size]
 rw [h2];simp only [maxLen];omega
theorem ZnD (N b:Nat) (S:Pg) (h:Bool) (HO:ZlA N b S h) (m:Nat) (hm1:1≤m) (hm8:m≤8) (w:World) (i:Nat) (hp:Ps w b S i h) (hN:S.toks.length≤N + i) (HQ:∀w,Ps w b S i h→Calls prog 269 #[.pointer (some ⟨b,0,none⟩)] w (Post w b S i h (single (lim (.post h)) S.size (S.toks.drop i)) (ZaO w))) :
  Calls prog 203 #[.pointer (some ⟨b,0,none⟩),.int .i64 (m:Int)] w (Post w b S i h (single (lim (.bin m h)) S.size (S.toks.drop i)) (ZaO w)):=by
 have HP:=hid hp
 have HU:=hid (fun w p=>ZqK N b S h HO m w i p hN HQ)
 have HOp:=hid HO
 have HSp:=hid (ZsM h m hm1 hm8 S i)
 have C0:=Zdq b S i h _ (hp.alloc (.cells z5 24))
 have hbb:=hp.lt
 obtain ⟨pl,hpl⟩:∃pl,pl=place S i:=⟨_,rfl⟩
 rw [← hpl] at C0 HSp
 clear hp HO HQ hpl
 go_enter func203,ntmps203
 go_wp2_with (first
  | (go_at_call 59;(with_reducible refine C0.mono ?_);rintro e w1 ⟨rfl,h1⟩;have B1:=hid h1;have C1:=HU.out _ ((HP.out.alloc (.cells z5 24)).below h1 (HP.out.alloc (.cells z5 24)).lt);clear h1 C0)
  | (go_at_call 245;(with_reducible refine C1.mono ?_);rintro e wz h1;rcases h1.ways with ⟨a,j,h',e1,rfl,g,p,rfl⟩ | ⟨⟨x0,f0⟩,j0,v,e1,rfl,g,hj0,p,v1,rfl,r0,rfl,ho⟩;exact ⟨rfl,Post.err (by rw [HSp.out,S8.Zac,e1]) (Zaa (Zaj (((Below.refl w.heap.size w).alloc (Nat.le_refl _) (.cells z5 24)).trans (B1.out.mono (by simp)))) g (.inl rfl)) p⟩;have F2:=hid (And.intro (Zaa (Zaj (r:=some b) B1.out) g (.inl rfl)) (And.intro p (ho.weak B1.out.size)));have E2:=hid e1;clear h1 e1 g p ho C1)
  | (refine Zah (g:=wz.heap.size) (t:=24) (old:=z5) (by exact Is.fresh wz 24 _) rfl 24 _ _ rfl (nd5 x0.k x0.t x0.n x0.a r0) rfl rfl inf24 rfl (by have h1:=F2.out.2.2.one;simp [nd5,h1];exact ⟨rfl,rfl,rfl,rfl⟩) ?_;intro w3 h1 h2;have F3:=hid (Fx.start HP.out F2.out.1 F2.out.2.1 F2.out.2.2 h1 h2);clear h1 h2))
 have hf0:f0 < 10:=by have:=S8.ZhY E2.out;simp only at this;omega
 have T0:Hid (single (lim (.bin m h)) S.size (S.toks.drop i)=S8.ZcU h pl (S8.lv f0 m) x0 S.size (S.toks.drop j0)):=hid (by rw [HSp.out,S8.Zac,E2.out])
 clear F2 HSp E2 HU
 try rw [show ∀(a:Act),a.put none undef=a from fun _=>rfl]
 go_loopw [7] (fun v7 wr=>∃(j:Nat) (x:Nd) (r:Value) (f:Nat),v7=.int .i64 (f:Int)∧Hid (Fx w b S w.heap.size wz.heap.size wr j h x.k x.t x.n x.a x.c r∧single (lim (.bin m h)) S.size (S.toks.drop i)=S8.ZcU h pl (S8.lv f m) x S.size (S.toks.drop j)∧i≤j∧f < 10)) (fun _ wr=>S.toks.length - nextIn b wr)
 case atStart=>exact ⟨j0,x0,r0,f0,rfl,hid ⟨F3.out,T0.out,by omega,hf0⟩⟩
 case round=>
  clear T0 F3
  obtain ⟨j,x,r,f,rfl,HR⟩:=hrel
  have hnx:=HR.out.1.ps.nextIn
  have hjl0:=HR.out.1.ps.le
  have hij:=HR.out.2.2.1
  have hf10:=HR.out.2.2.2
  have HT:=hid (Zte h pl f m hf10 hm1 (by omega) x S j (HR.out.1.ps.tok_ok j))
  have hsz:=ZqB HR.out.1.ps j
  have HMp:=hid HR.out.1.ps.env.map
  have c3:World.cell? wr ⟨b,3,none⟩=some (.map (some S.lv)):=HR.out.1.ps.is.at_ 3
  have C1:=Zau b S j h _ HR.out.1.ps
  obtain ⟨L,hL⟩:∃L,L=S8.level (Zag S j):=⟨_,rfl⟩
  have hL7:L≤7:=by rw [hL];exact ZiK _
  have HLk:=hid (fun (W:World) (hW:MapHas W S.lv) (ops:Array Oper) (rest:List Oper) (o:Oper) (a:Act) (Q:Exit→Act→World→Prop)=>(ZrO (ops:=ops) (rest:=rest) (o:=o) (a:=a) (Q:=Q) hW (mk (Zag S j)) hsz:_))
  rw [Zbc,← hL] at HLk
  have CL:=Zmv L (by omega)
  rw [← hL] at HT
  have HL:=hid hL
  clear hL hsz HMp
  by_cases hA:(L:Int) < (m:Int)
  ·have HCD:Hid (L < m∨f < S8.lft L):=hid (.inl (by omega))
   go_wp2_with (first
   | (go_at_call 60;(with_reducible refine C1.mono ?_);rintro e w2 ⟨rfl,h1⟩;have F2:=hid (HR.out.1.look h1);have d3:World.cell? w2 ⟨b,3,none⟩=some (.map (some S.lv)):=F2.out.ps.is.at_ 3;have y3:=F2.out.ps.is.open_ 3;clear h1 C1 c3)
   | (refine HLk.out _ F2.out.ps.env.map _ _ _ _ _ rfl _ _ rfl rfl rfl ?_)
   | (go_at_call 246;(with_reducible refine (CL _).mono ?_);rintro e w3 ⟨rfl,rfl⟩)
   | (refine ZgD F2.out rfl _ rfl rfl ?_)
   | (refine Zgt F2.out rfl _ _ rfl rfl rfl ?_;intro w4 h1 h2 h3 h4;have F4:=hid (And.intro h1 (And.intro h2 (And.intro h3 h4)));clear h1 h2 h3 h4))
   refine ret24 results203 F4.out.1
    (Post.ok (j:=j) (x:=S8.Nd.mk x.k x.t x.n x.a x.c) (HR.out.2.1.trans (by rw [ZoY,HT.out,if_pos HCD.out])) F4.out.2.1 F4.out.2.2.1 (by omega) F4.out.2.2.2)
  by_cases hB:(f:Int) < (S8.lft L:Int)
  ·have HCD:Hid (L < m∨f < S8.lft L):=hid (.inr (by omega))
   go_wp2_with (first
   | (go_at_call 60;(with_reducible refine C1.mono ?_);rintro e w2 ⟨rfl,h1⟩;have F2:=hid (HR.out.1.look h1);have d3:World.cell? w2 ⟨b,3,none⟩=some (.map (some S.lv)):=F2.out.ps.is.at_ 3;have y3:=F2.out.ps.is.open_ 3;clear h1 C1 c3)
   | (refine HLk.out _ F2.out.ps.env.map _ _ _ _ _ rfl _ _ rfl rfl rfl ?_)
   | (go_at_call 246;(with_reducible refine (CL _).mono ?_);rintro e w3 ⟨rfl,rfl⟩)
   | (refine ZgD F2.out rfl _ rfl rfl ?_)
   | (refine Zgt F2.out rfl _ _ rfl rfl rfl ?_;intro w4 h1 h2 h3 h4;have F4:=hid (And.intro h1 (And.intro h2 (And.intro h3 h4)));clear h1 h2 h3 h4))
   refine ret24 results203 F4.out.1
    (Post.ok (j:=j) (x:=S8.Nd.mk x.k x.t x.n x.a x.c) (HR.out.2.1.trans (by rw [ZoY,HT.out,if_pos HCD.out])) F4.out.2.1 F4.out.2.2.1 (by omega) F4.out.2.2.2)
  have HCD:Hid (¬ (L < m∨f < S8.lft L)):=hid (by omega)
  have hne:Zag S j≠[]:=fun e=>by have h1:=HL.out;rw [e] at h1;have h2:S8.level []=0:=rfl;omega
  have hjl:=ZaL (S:=S) (i:=j) hne
  have HN:=hid hne
  clear hne
  go_wp2_with (first
   | (go_at_call 60;(with_reducible refine C1.mono ?_);rintro e w2 ⟨rfl,h1⟩;have F2:=hid (HR.out.1.look h1);have d3:World.cell? w2 ⟨b,3,none⟩=some (.map (some S.lv)):=F2.out.ps.is.at_ 3;have y3:=F2.out.ps.is.open_ 3;clear h1 C1 c3)
   | (refine HLk.out _ F2.out.ps.env.map _ _ _ _ _ rfl _ _ rfl rfl rfl ?_)
   | (go_at_call 246;(with_reducible refine (CL _).mono ?_);rintro e w3 ⟨rfl,rfl⟩)
   | (go_at_call 119;(have C2:=Za6 b S j h _ F2.out.ps (mk (Zag S j)) (by rw [Zbc]) (by rw [Zbc];exact HN.out));(with_reducible refine C2.mono ?_);rintro e w4 ⟨rfl,p,g⟩;have F4:=hid (F2.out.call g p);clear g p C2 d3 y3))
  refine Zao (fun W=>Is W wz.heap.size 24 (nd5 x.k x.t x.n x.a r)) (fun k=>decide (k < 7)) [0,1,2,3,4] [5,6,7,8] (by kernel_rfl) (by kernel_rfl) (fun c a a' W hd hq=>⟨hd▸hq.1,hq.2⟩) F4.out.nd ?_
  refine fs (.string (mk (Zag S j))) rfl ?_
  refine fs (.int .i64 pl) rfl ?_
  refine Zab (.agg (nd5 x.k x.t x.n x.a r)) rfl (by rfl) (fun W hS=>Zgy rfl rfl rfl W hS) ?_
  refine fs (.pointer (some ⟨b,0,none⟩)) rfl ?_
  refine fs (.int .i64 ((L:Int) + 1)) rfl ?_
  refine Zap ?_
  have F5:=hid (F4.out.look (Below.refl _ _).drew)
  have C6:=HOp.out (L + 1) (by omega) (by omega) _ (j + 1) F5.out.ps (by omega)
  rw [show ((L + 1:Nat):Int)=(L:Int) + 1 from rfl] at C6
  refine cs rfl fun K9 HK9=>?_
  go_wp2_with (go_at_call 203;(with_reducible refine C6.mono ?_);rintro e w6 h1;rcases h1.ways with ⟨a,j',h',e1,rfl,g,p,rfl⟩ | ⟨y,j6,v,e1,rfl,g,hj6,p,r6,rfl,ho⟩;exact ⟨rfl,Post.err (HR.out.2.1.trans (by rw [HT.out,if_neg HCD.out,S8.Zac,e1])) (Zaa F5.out.fr g (.inl rfl)) p⟩;have F6:=hid (And.intro (F5.out.call g p) ho);have E6:=hid e1;clear h1 e1 g p ho C6)
  refine HK9.out _ _ (fun _=>F6.out.1.nd) ?_
  refine cs rfl fun K9 HK9=>?_
  go_wp2_with fail
  have R7:=hid (OwnX.two (x:=x) (y:=y) F6.out.1.row F6.out.2 F5.out.size F6.out.1.size.1 F6.out.1.size.2)
  have F7:=hid (F6.out.1.look ((Below.refl _ _).alloc (Nat.le_refl _) (.cells (nd10 x r y r6) 24)))
  refine HK9.out _ _ (fun _=>F7.out.nd) ?_
  refine cs rfl fun K9 HK9=>?_
  go_wp2_with fail
  refine HK9.out _ _ (fun h=>by cases h) ?_
  refine cs rfl fun K9 HK9=>?_
  refine Zah F7.out.plain.nd rfl 24 _ _ rfl (nd5 35 (Zag S j) 0 pl (.slice (some ⟨w6.heap.size,0,none⟩) 2 2)) rfl rfl inf24 rfl (by simp [nd5,Value.oneCell']) ?_
  intro w9 h1 h2
  have F9:=hid (F7.out.plain.putAll h2 h1 R7.out)
  clear h1 h2
  refine HK9.out _ _ (fun h=>by cases h) ?_
  refine Zam ?_
  go_wp2_with fail
  have hle6:=F9.out.ps.le
  refine ⟨⟨j6,.mk 35 (Zag S j) 0 pl [x,y],_,L,rfl,hid ⟨F9.out,HR.out.2.1.trans ?_,by omega,by omega⟩⟩,by rw [F9.out.ps.nextIn,hnx];omega⟩
  rw [HT.out,if_neg HCD.out,S8.Zac,E6.out]
open Go.RowKit L7
open S8 (lim single What)
theorem ZmI (b:Nat) (S:Pg):∀N:Nat,(∀h,Does N 138 b S h (single (lim (.expr h))))∧(∀h,ZlA N b S h)∧Does N 244 b S false (single (lim (.one .arm)))
 | 0=>⟨fun h w i hp hN=>absurd hp.le (by omega),fun h m _ _ w i hp hN=>absurd hp.le (by omega),fun w i hp hN=>absurd hp.le (by omega)⟩
 | N + 1=>by
  obtain ⟨HE,HL,HA⟩:=ZmI b S N
  have op:∀(h:Bool) (m:Nat),1≤m→m≤8→∀(w:World) (i:Nat),Ps w b S i h→S.toks.length≤N + i→Calls prog 203 #[.pointer (some ⟨b,0,none⟩),.int .i64 (m:Int)] w (Post w b S i h (single (lim (.bin m h)) S.size (S.toks.drop i)) (ZaO w)):=
   fun h m h1 h8 w i hp hN=>ZnD N b S h (HL h) m h1 h8 w i hp hN fun w p=>Zny N b S h HE w i p hN
  refine ⟨fun h w i hp hN=>?_,fun h m h1 h8 w i hp hN=>op h m h1 h8 w i hp (by omega),fun w i hp hN=>Zxc N b S HE w i hp (by omega)⟩
  by_cases h1:Zag S i=S8.Zfl
  ·exact Zur N b S h HE w i hp (by omega) h1
  ·by_cases h2:Zag S i=S8.wIf
   ·exact ZwO N b S h HE w i hp (by omega) h2
   ·by_cases h3:Zag S i=S8.ZbR
    ·exact Zqb N b S h HE HA w i hp (by omega) h3
    ·by_cases h4:Zag S i=S8.Zd7
     ·exact Zus N b S h HE w i hp (by omega) h4
     ·exact Zse N b i S h (fun w p=>op h 1 (by omega) (by omega) w i p (by omega)) w hp (by omega) (fun s hs=>by
       simp only [List.mem_cons,List.not_mem_nil,or_false] at hs
       rcases hs with rfl | rfl | rfl | rfl <;> assumption)
theorem ZiQ (b:Nat) (S:Pg) (N:Nat) (h:Bool):Does N 138 b S h (single (lim (.expr h))):=(ZmI b S N).1 h
end Go.Proofs.YtaheffiglmglbaaGreatDoor
