import Derived.Test.YtaheffiglmglbaaGreatDoorKQd
/- Stmt2, Decl. -/
set_option maxHeartbeats 8000000
set_option maxRecDepth 20000
namespace Go.Proofs.YtaheffiglmglbaaGreatDoor
open Go.Proofs.Tryz
open Go.RowKit L7
open S8 (lim single What)
theorem ent270 (args:Array Value) (w:World):(callFunc 270 args).run prog w=.ok (.enter 270 args) w:=by kernel_rfl
theorem ent305 (args:Array Value) (w:World):(callFunc 305 args).run prog w=.ok (.enter 305 args) w:=by kernel_rfl
theorem ZsJ (N b:Nat) (S:Pg) (HS:Does N 270 b S false (single (lim (.one .stmt)))) (w:World) (i:Nat) (hp:Ps w b S i false) (hN:S.toks.length≤N + i) :
  Calls prog 247 #[.pointer (some ⟨b,0,none⟩)] w (Post w b S i false (S8.block lim S.size (S.toks.drop i)) (ZaO w)):=by
 have HM:Hid (∀R,(do let _ ← S8.must S8.mLb;let l ← lim (.many .stmt false);pure (.mk 11 [] 0 (place S i) l):S8.P Nd) S.size (S.toks.drop i)=R→(S.toks.length≤i→R=.err (place S i))→S8.block lim S.size (S.toks.drop i)=R):=hid (by
  intro R h1 h2
  unfold S8.block
  refine ZaN ?_ h2
  rw [← h1]
  unfold S8.many1
  simp only [S8.Zac]
  cases S8.must S8.mLb S.size (S.toks.drop i) <;> rfl)
 have HC:=hid HS
 clear HS
 have HP:=hid hp
 have B0:=ZaH b S i false _ (hp.alloc (.cells z5 24)) 11
 obtain ⟨pl,hpl⟩:∃pl,pl=place S i:=⟨_,rfl⟩
 rw [← hpl] at HM B0
 have HPL:=hid hpl
 have hle:=hp.le
 clear hp hpl
 go_enter func247,ntmps247
 go_wp2_with (first
  | (go_at_call 123;(with_reducible refine B0.mono ?_);rintro e w1 ⟨rfl,h1⟩;have F1:=hid (Fn.start HP.out h1 11 0 pl);clear h1;have C1:Calls prog 119 #[.pointer (some ⟨b,0,none⟩),.string ⟨#[123]⟩] _ (Post _ b S i false (S8.must S8.mLb S.size (S.toks.drop i)) fun _ v _=>v=.tuple #[]):=Zbd b S i false _ F1.out.ps ⟨#[123]⟩ (by decide))
  | (go_at_call 119;(with_reducible refine C1.mono ?_);rintro e w2 h1;rcases h1.ways with ⟨a,j,h',e1,rfl,g,p,rfl⟩ | ⟨u2,j2,v,e1,rfl,g,hj2,p,rfl⟩;exact ⟨rfl,Post.err (HM.out _ (by simp only [S8.Zac,e1]) (fun hl=>by rw [HPL.out,Zg7 e1 (Zlh hl)])) (Zaa F1.out.fr g (.inl rfl)) p⟩;have F2:=hid (F1.out.call g p);have E2:=hid e1;have hl2:=ZaT (S8.Zal _) e1;clear h1 e1 g p C1;have C2:=show Calls prog 141 #[.pointer (some ⟨b,0,none⟩),.func (.func 270) #[.pointer (some ⟨b,0,none⟩)] #[]] _ (Post _ b S j2 false (lim (.many .stmt false) S.size (S.toks.drop j2)) (Zim _)) from ZkR N 270 b S false .stmt ent270 HC.out _ j2 F2.out.ps (by omega))
  | (go_at_call 141;(with_reducible refine C2.mono ?_);rintro e w3 h1;rcases h1.ways with ⟨a,j,h',e1,rfl,g,p,rfl⟩ | ⟨l,j3,v3,e1,rfl,g,hj3,p,ho,hc3⟩;exact ⟨rfl,Post.err (HM.out _ (by simp only [S8.Zac,E2.out,e1]) (fun hl=>absurd hl (by omega))) (Zaa F2.out.fr g (.inl rfl)) p⟩;have F3:=hid (F2.out.call g p);have G3:=hid ho;have E3:=hid e1;have Q3:=hid g.size;clear h1 e1 g p ho C2)
  | (refine Za7 F3.out (G3.out.weak F2.out.size) rfl _ _ rfl rfl rfl ?_;intro w4 h1;have F4:=hid h1;clear h1)
  | (refine Zax F4.out rfl _ rfl rfl ?_)
  | (refine Zaw F4.out rfl _ _ rfl rfl rfl ?_;intro w5 h1 h2 h3 h4;have F5:=hid (And.intro h1 (And.intro h2 (And.intro h3 h4)));clear h1 h2 h3 h4))
 refine ret24 results247 F5.out.1
  (Post.ok (j:=j3) (HM.out _ (by (try simp only [S8.Zac,E2.out,E3.out]);rfl) (fun hl=>absurd hl (by omega))) F5.out.2.1 F5.out.2.2.1 (by omega) F5.out.2.2.2)
theorem ZpW (wt:What) (e:Int) (r:List PTok):lim (.many wt true) e r=match single (lim (.one wt)) e r with
  | .out=>.out
  | .err a=>.err a
  | .ok x r=>S8.pre [x] (lim (.many wt false) e r):=by
 rw [S8.Zbb (nt:=.many wt true) rfl]
 show S8.many lim wt true e r=_
 unfold S8.many
 rw [S8.Zac]
 have hp:∃c,S8.ZaC S8.mRb e r=.ok c r:=by
  cases r with
  | nil=>exact ⟨false,rfl⟩
  | cons t r=>exact ⟨_,rfl⟩
 obtain ⟨c,hc⟩:=hp
 rw [hc]
 simp only [Bool.not_true,Bool.and_false,S8.Zae,Bool.false_eq_true,if_false,S8.Zac]
 cases single (lim (.one wt)) e r with
 | out=>rfl
 | err a=>rfl
 | ok x r=>
  simp only
  cases lim (.many wt false) e r <;> rfl
theorem Zk2 (N b:Nat) (S:Pg) (HE:∀h,Does N 138 b S h (single (lim (.expr h)))) (HA:Does N 305 b S false (single (lim (.one .sarm)))) (w:World) (i:Nat) (hp:Ps w b S i false) (hN:S.toks.length≤N + i) (hw:Zag S i=S8.ZbR) :
  Calls prog 289 #[.pointer (some ⟨b,0,none⟩)] w (Post w b S i false (S8.stmt lim S.size (S.toks.drop i)) (ZaO w)):=by
 have HM:Hid (∀R,(do let x ← single (lim (.expr true));let _ ← S8.must S8.mLb;let y ← single (lim (.one .sarm));let l ← lim (.many .sarm false);pure (.mk 53 [] 0 (place S i) (x::y::l)):S8.P Nd) S.size (S.toks.drop (i + 1))=R→S8.stmt lim S.size (S.toks.drop i)=R):=hid (by
  intro R h1
  rw [← h1]
  unfold S8.stmt
  refine ZaN ?_ (fun hl=>absurd (ZaL (S:=S) (i:=i) (by rw [hw];decide)) (by omega))
  simp (decide:=true) only [S8.Zac,S8.Zae,Zaf S i (show S8.Zce≠[] by decide),Zaf S i (show S8.Zd0≠[] by decide),Zaf S i (show S8.Zfl≠[] by decide),Zaf S i (show S8.wIf≠[] by decide),Zaf S i (show S8.ZbR≠[] by decide),hw,if_true,if_false,Zay S i (show S8.ZbR≠[] by decide)]
  cases single (lim (.expr true)) S.size (S.toks.drop (i + 1)) with
  | out=>rfl
  | err a=>rfl
  | ok x r=>
   simp only
   unfold S8.many1
   simp only [S8.Zac]
   cases S8.must S8.mLb S.size r with
   | out=>rfl
   | err a=>rfl
   | ok u r=>
    simp only
    rw [ZpW]
    cases single (lim (.one .sarm)) S.size r with
    | out=>rfl
    | err a=>rfl
    | ok y r=>
     simp only
     cases lim (.many .sarm false) S.size r <;> rfl)
 have HAr:=hid HA
 have HC:=hid (HE false)
 have HHd:=hid (ZiO N b S false HE)
 clear HE HA
 have HP:=hid hp
 have HW:=hid hw
 clear hw
 have B0:=ZaH b S i false _ (hp.alloc (.cells z5 24)) 53
 obtain ⟨pl,hpl⟩:∃pl,pl=place S i:=⟨_,rfl⟩
 rw [← hpl] at HM B0
 have HPL:=hid hpl
 have hle:=hp.le
 clear hp hpl
 go_enter func289,ntmps289
 go_wp2_with (first
  | (go_at_call 123;(with_reducible refine B0.mono ?_);rintro e w1 ⟨rfl,h1⟩;have F1:=hid (Fn.start HP.out h1 53 0 pl);clear h1;have C1:=Za6 b S i false _ F1.out.ps ⟨#[109,97,116,99,104]⟩ HW.out (by decide))
  | (go_at_call 119;(with_reducible refine C1.mono ?_);rintro e w2 ⟨rfl,p,g⟩;have F2:=hid (F1.out.call g p);clear g p C1;have C2:=HHd.out _ (i + 1) F2.out.ps (by omega))
  | (go_at_call 243;(with_reducible refine C2.mono ?_);rintro e w3 h1;rcases h1.ways with ⟨a,j,h',e1,rfl,g,p,rfl⟩ | ⟨x,j3,v,e1,rfl,g,hj3,p,r3,rfl,ho⟩;exact ⟨rfl,Post.err (HM.out _ (by simp only [S8.Zac,e1])) (Zaa F2.out.fr g (.inl rfl)) p⟩;have F3:=hid (And.intro (F2.out.call g p) ho);have G3:=hid (F2.out.single g p ho);have E3:=hid e1;clear h1 e1 g p ho C2)
  | (refine Za7 G3.out.1 G3.out.2 rfl _ _ rfl rfl rfl ?_;intro w4 h1;have F4:=hid h1;clear h1;have C3:Calls prog 119 #[.pointer (some ⟨b,0,none⟩),.string ⟨#[123]⟩] _ (Post _ b S j3 false (S8.must S8.mLb S.size (S.toks.drop j3)) fun _ v _=>v=.tuple #[]):=Zbd b S j3 false _ F4.out.ps ⟨#[123]⟩ (by decide))
  | (go_at_call 119;(with_reducible refine C3.mono ?_);rintro e w5 h1;rcases h1.ways with ⟨a,j,h',e1,rfl,g,p,rfl⟩ | ⟨u5,j5,v,e1,rfl,g,hj5,p,rfl⟩;exact ⟨rfl,Post.err (HM.out _ (by simp only [S8.Zac,E3.out,e1])) (Zaa F4.out.fr g (.inl rfl)) p⟩;have F5:=hid (F4.out.call g p);have E5:=hid e1;have hl5:=ZaT (S8.Zal _) e1;clear h1 e1 g p C3))
 have U9:=F5.out.nd.at_ 4
 refine r2 (fun W=>W.cell? ⟨w1.heap.size,4,none⟩=some (.slice (some ⟨w3.heap.size,0,none⟩) 1 1)) (fun j=>decide (j < 6)) [0,1,2] [3,4,5,6,7] U9 ?_
 refine fs (.pointer (some ⟨w1.heap.size,4,none⟩)) rfl ?_
 refine fs (.slice (some ⟨w3.heap.size,0,none⟩) 1 1) rfl ?_
 refine fs (.pointer (some ⟨b,0,none⟩)) rfl ?_
 refine Zap ?_
 clear U9
 have F6:=hid (F5.out.look (Below.refl _ _).drew)
 have C4:=HAr.out _ j5 F6.out.ps (by omega)
 refine cs rfl fun K9 HK9=>?_
 go_wp2_with (go_at_call 305;(with_reducible refine C4.mono ?_);rintro e w7 h1;rcases h1.ways with ⟨a,j,h',e1,rfl,g,p,rfl⟩ | ⟨y,j7,v,e1,rfl,g,hj7,p,r7,rfl,ho⟩;exact ⟨rfl,Post.err (HM.out _ (by simp only [S8.Zac,E3.out,E5.out,e1])) (Zaa F6.out.fr g (.inl rfl)) p⟩;have F7:=hid (And.intro (F6.out.call g p) ho);have E7:=hid e1;clear h1 e1 g p ho C4)
 refine HK9.out _ _ (fun _=>F7.out.1.nd.at_ 4) ?_
 refine cs rfl fun K9 HK9=>?_
 go_wp2_with fail
 have F8:=hid (F7.out.1.look ((Below.refl _ _).alloc (Nat.le_refl _) (.cells (nd5 y.k y.t y.n y.a r7) 24)))
 have HI8:=hid (Is.fresh w7 24 (nd5 y.k y.t y.n y.a r7))
 refine HK9.out _ _ (fun _=>F8.out.nd.at_ 4) ?_
 refine cs rfl fun K9 HK9=>?_
 refine ZbY (base:=w1.heap.size + 1) (g:=w7.heap.size) (x:=y) (r:=r7) F8.out.row HI8.out ?kid ?len ?hb rfl (.tmp 15) (.tmp 18) rfl rfl rfl ?_
 case kid=>exact ZbZ F6.out.row F7.out.2 (fun g hg=>Below.heap_alloc w7 _ g hg) F6.out.size
 case len=>simp
 case hb=>exact F8.out.size
 intro v9 w9 h1 h2
 have F9:=hid (And.intro (F8.out.turn h2) h1)
 clear h1 h2
 refine HK9.out _ _ (fun _=>F9.out.1.nd.at_ 4) ?_
 refine cs rfl fun K9 HK9=>?_
 go_wp2_with fail
 refine HK9.out _ _ (fun h=>by cases h) ?_
 refine cs rfl fun K9 HK9=>?_
 refine ZbX F9.out.1 F9.out.2 rfl _ _ rfl rfl rfl ?_
 intro w10 h1
 have F10:=hid h1
 clear h1
 refine HK9.out _ _ (fun h=>by cases h) ?_
 refine Zam ?_
 go_wp2_with fail
 have U9:=F10.out.nd.at_ 4
 refine r2 (fun W=>W.cell? ⟨w1.heap.size,4,none⟩=some (v9)) (fun j=>decide (j < 7)) [0,1,2,3,4] [5,6,7,8] U9 ?_
 refine fs (.pointer (some ⟨w1.heap.size,4,none⟩)) rfl ?_
 refine fs (v9) rfl ?_
 refine fs (.pointer (some ⟨b,0,none⟩)) rfl ?_
 refine fs (.pointer (some ⟨b,0,none⟩)) rfl ?_
 refine Zab (.func (.func 305) #[.pointer (some ⟨b,0,none⟩)] #[]) rfl (by rfl) (fun W hS=>by first | (go_simp;done) | (simp [execOp,Instr.makeFunc,go_sem,Act.put];done)) ?_
 refine Zap ?_
 clear U9
 have F11:=hid (F10.out.look (Below.refl _ _).drew)
 have C5:=show Calls prog 141 #[.pointer (some ⟨b,0,none⟩),.func (.func 305) #[.pointer (some ⟨b,0,none⟩)] #[]] _ (Post _ b S j7 false (lim (.many .sarm false) S.size (S.toks.drop j7)) (Zim _)) from ZkR N 305 b S false .sarm ent305 HAr.out _ j7 F11.out.ps (by omega)
 refine cs rfl fun K9 HK9=>?_
 go_wp2_with (go_at_call 141;(with_reducible refine C5.mono ?_);rintro e w12 h1;rcases h1.ways with ⟨a,j,h',e1,rfl,g,p,rfl⟩ | ⟨l,j12,v12,e1,rfl,g,hj12,p,ho,hc12⟩;exact ⟨rfl,Post.err (HM.out _ (by simp only [S8.Zac,E3.out,E5.out,E7.out,e1])) (Zaa F11.out.fr g (.inl rfl)) p⟩;have F12:=hid (F11.out.call g p);have G12:=hid ho;have E12:=hid e1;clear h1 e1 g p ho C5)
 refine HK9.out _ _ (fun _=>F12.out.nd.at_ 4) ?_
 refine cs rfl fun K9 HK9=>?_
 refine Ze4 (base:=w1.heap.size + 1) F12.out.row G12.out ?le ?lt ?len ?hb rfl (.tmp 22) (.tmp 26) rfl rfl rfl ?_
 case le=>exact F11.out.size
 case lt=>exact fun g hg=>(F11.out.row.lt hg).2
 case len=>simp;omega
 case hb=>exact F12.out.size
 intro v13 w13 h1 h2
 have F13:=hid (And.intro (F12.out.turn h2) h1)
 clear h1 h2
 refine HK9.out _ _ (fun _=>F13.out.1.nd.at_ 4) ?_
 refine cs rfl fun K9 HK9=>?_
 go_wp2_with fail
 refine HK9.out _ _ (fun h=>by cases h) ?_
 refine cs rfl fun K9 HK9=>?_
 refine ZbX F13.out.1 F13.out.2 rfl _ _ rfl rfl rfl ?_
 intro w14 h1
 have F14:=hid h1
 clear h1
 refine HK9.out _ _ (fun h=>by cases h) ?_
 refine Zam ?_
 go_wp2_with (first
  | (refine Zax F14.out rfl _ rfl rfl ?_)
  | (refine Zaw F14.out rfl _ _ rfl rfl rfl ?_;intro w15 h1 h2 h3 h4;have F15:=hid (And.intro h1 (And.intro h2 (And.intro h3 h4)));clear h1 h2 h3 h4))
 refine ret24 results289 F15.out.1
  (Post.ok (j:=j12) (HM.out _ (by (try simp only [S8.Zac,E3.out,E5.out,E7.out,E12.out]);rfl)) F15.out.2.1 F15.out.2.2.1 (by omega) F15.out.2.2.2)
theorem Znl (N b:Nat) (S:Pg) (HE:∀h,Does N 138 b S h (single (lim (.expr h)))) (w:World) (i:Nat) (hp:Ps w b S i false) (hN:S.toks.length≤N + i) (hne:∀s,s∈[S8.Zce,S8.Zd0,S8.Zfl,S8.wIf,S8.ZbR,S8.Zkt,S8.ZdS,S8.wDo,S8.Zg4,S8.Zg9]→Zag S i≠s) :
  Calls prog 232 #[.pointer (some ⟨b,0,none⟩),.int .i64 51] w (Post w b S i false (S8.stmt lim S.size (S.toks.drop i)) (ZaO w)):=by
 have HM:Hid (∀R,(do let t ← S8.low;let _ ← S8.must S8.mEq;let y ← single (lim (.expr false));pure (.mk 51 t 0 (place S i) [y]):S8.P Nd) S.size (S.toks.drop i)=R→(S.toks.length≤i→R=.err (place S i))→S8.stmt lim S.size (S.toks.drop i)=R):=hid (by
  intro R h1 h2
  have k0:=hne S8.Zce (by simp)
  have k1:=hne S8.Zd0 (by simp)
  have k2:=hne S8.Zfl (by simp)
  have k3:=hne S8.wIf (by simp)
  have k4:=hne S8.ZbR (by simp)
  have k5:=hne S8.Zkt (by simp)
  have k6:=hne S8.ZdS (by simp)
  have k7:=hne S8.wDo (by simp)
  have k8:=hne S8.Zg4 (by simp)
  have k9:=hne S8.Zg9 (by simp)
  unfold S8.stmt
  refine ZaN ?_ h2
  rw [← h1]
  simp only [S8.Zac,S8.Zae,Zaf S i (show S8.Zce≠[] by decide),Zaf S i (show S8.Zd0≠[] by decide),Zaf S i (show S8.Zfl≠[] by decide),Zaf S i (show S8.wIf≠[] by decide),Zaf S i (show S8.ZbR≠[] by decide),Zaf S i (show S8.Zkt≠[] by decide),Zaf S i (show S8.ZdS≠[] by decide),Zaf S i (show S8.wDo≠[] by decide),Zaf S i (show S8.Zg4≠[] by decide),Zaf S i (show S8.Zg9≠[] by decide),k0,k1,k2,k3,k4,k5,k6,k7,k8,k9,decide_false,Bool.false_eq_true,if_false])
 have HC:=hid (HE false)
 clear HE hne
 have HP:=hid hp
 have B0:=ZaH b S i false _ (hp.alloc (.cells z5 24)) 51
 obtain ⟨pl,hpl⟩:∃pl,pl=place S i:=⟨_,rfl⟩
 rw [← hpl] at HM B0
 have HPL:=hid hpl
 have hle:=hp.le
 clear hp hpl
 go_enter func232,ntmps232
 go_wp2_with (first
  | (go_at_call 123;(with_reducible refine B0.mono ?_);rintro e w1 ⟨rfl,h1⟩;have F1:=hid (Fn.start HP.out h1 51 0 pl);clear h1;have C1:=Zcz b S i false _ F1.out.ps)
  | (go_at_call 136;(with_reducible refine C1.mono ?_);rintro e w2 h1;rcases h1.ways with ⟨a,j,h',e1,rfl,g,p,rfl⟩ | ⟨t,j2,v,e1,rfl,g,hj2,p,rfl⟩;exact ⟨rfl,Post.err (HM.out _ (by simp only [S8.Zac,e1]) (fun hl=>by rw [HPL.out,Zg7 e1 (Zjh hl)])) (Zaa F1.out.fr g (.inl rfl)) p⟩;have F2:=hid (F1.out.call g p);have E2:=hid e1;have hl2:=ZaT S8.Za5 e1;clear h1 e1 g p C1)
  | (refine Zbk F2.out t rfl _ _ rfl rfl rfl ?_;intro w3 h1;have F3:=hid h1;clear h1;have C2:Calls prog 119 #[.pointer (some ⟨b,0,none⟩),.string ⟨#[61]⟩] _ (Post _ b S j2 false (S8.must S8.mEq S.size (S.toks.drop j2)) fun _ v _=>v=.tuple #[]):=Zbd b S j2 false _ F3.out.ps ⟨#[61]⟩ (by decide))
  | (go_at_call 119;(with_reducible refine C2.mono ?_);rintro e w4 h1;rcases h1.ways with ⟨a,j,h',e1,rfl,g,p,rfl⟩ | ⟨u4,j4,v,e1,rfl,g,hj4,p,rfl⟩;exact ⟨rfl,Post.err (HM.out _ (by simp only [S8.Zac,E2.out,e1]) (fun hl=>absurd hl (by omega))) (Zaa F3.out.fr g (.inl rfl)) p⟩;have F4:=hid (F3.out.call g p);have E4:=hid e1;have hl4:=ZaT (S8.Zal _) e1;clear h1 e1 g p C2;have C3:=HC.out _ j4 F4.out.ps (by omega))
  | (go_at_call 138;(with_reducible refine C3.mono ?_);rintro e w5 h1;rcases h1.ways with ⟨a,j,h',e1,rfl,g,p,rfl⟩ | ⟨x,j5,v,e1,rfl,g,hj5,p,r5,rfl,ho⟩;exact ⟨rfl,Post.err (HM.out _ (by simp only [S8.Zac,E2.out,E4.out,e1]) (fun hl=>absurd hl (by omega))) (Zaa F4.out.fr g (.inl rfl)) p⟩;have F5:=hid (And.intro (F4.out.call g p) ho);have G5:=hid (F4.out.single g p ho);have E5:=hid e1;clear h1 e1 g p ho C3)
  | (refine Za7 G5.out.1 G5.out.2 rfl _ _ rfl rfl rfl ?_;intro w6 h1;have F6:=hid h1;clear h1)
  | (refine Zax F6.out rfl _ rfl rfl ?_)
  | (refine Zaw F6.out rfl _ _ rfl rfl rfl ?_;intro w7 h1 h2 h3 h4;have F7:=hid (And.intro h1 (And.intro h2 (And.intro h3 h4)));clear h1 h2 h3 h4))
 refine ret24 results232 F7.out.1
  (Post.ok (j:=j5) (HM.out _ (by (try simp only [S8.Zac,E2.out,E4.out,E5.out]);rfl) (fun hl=>absurd hl (by omega))) F7.out.2.1 F7.out.2.2.1 (by omega) F7.out.2.2.2)
open Go.RowKit L7
open S8 (lim single What)
theorem ent135 (args:Array Value) (w:World):(callFunc 135 args).run prog w=.ok (.enter 135 args) w:=by kernel_rfl
theorem ent142 (args:Array Value) (w:World):(callFunc 142 args).run prog w=.ok (.enter 142 args) w:=by kernel_rfl
theorem ZfW (e:Int) (l:List PTok):single (lim .decl) e l=S8.decl lim e l:=by
 rw [S8.ZbG,S8.Zbb (nt:=.decl) rfl]
 show (match S8.one (S8.decl lim) e l with | .out=>_ | .err a=>_ | .ok [x] r=>_ | .ok _ r=>_)=_
 unfold S8.one
 rw [S8.Zac]
 cases S8.decl lim e l <;> rfl
noncomputable def ZtN:S8.P Int:=do
 if ← S8.ZaC S8.ZbU then do
  let _ ← S8.must S8.ZbU
  pure (-1)
 else if ← S8.ZaC S8.Zcl then do
  let _ ← S8.must S8.Zcl
  let n ← S8.number
  pure (n + 1)
 else pure 0
theorem ZrE {w:World} {b:Nat} {S:Pg} (k:Env w b S) {i:Nat} {x:Int} {l:List PTok} (h:S8.number S.size (S.toks.drop i)=.ok x l):0≤x∧x≤9007199254740992:=by
 rw [ZnX] at h
 split at h
 ·rename_i hk
  have h2:=tok_ok k (i:=i) (by rw [hk];decide)
  injection h with h _
  subst h
  unfold S8.okT at h2
  simp [hk] at h2
  exact ⟨h2.1.2,h2.2⟩
 ·cases h
theorem Zwj (b:Nat) (S:Pg) (h:Bool) (w:World) (i:Nat) (hp:Ps w b S i h) :
  Calls prog 140 #[.pointer (some ⟨b,0,none⟩)] w (Post w b S i h (ZtN S.size (S.toks.drop i)) fun x v _=>v=.int .i64 x):=by
 by_cases h1:Zag S i=S8.ZbU
 ·have HM:Hid (ZtN S.size (S.toks.drop i)=.ok (-1) (S.toks.drop (i + 1))):=hid (by
   unfold ZtN
   simp (decide:=true) only [S8.Zac,S8.Zae,Zaf S i (show S8.ZbU≠[] by decide),h1,if_true,Zay S i (show S8.ZbU≠[] by decide),S8.Zb5])
  have C:=ZcR b S i h w hp ⟨#[101,115,99,97,108,97,116,101]⟩ h1 (by decide)
  clear hp h1
  go_enter func140,ntmps140
  go_wp2_with (go_at_call 186;(with_reducible refine C.mono ?_);rintro e w1 ⟨rfl,p,g⟩;have K:=hid (And.intro p g);clear p g)
  go_ret
  exact Post.ok (j:=i + 1) HM.out K.out.2 K.out.1 (by omega) rfl
 ·have C:=ZdC b S i h w hp ⟨#[101,115,99,97,108,97,116,101]⟩ h1
  by_cases h2:Zag S i=S8.Zcl
  ·have HM:Hid (∀R,(do let n ← S8.number;pure (n + 1):S8.P Int) S.size (S.toks.drop (i + 1))=R→ZtN S.size (S.toks.drop i)=R):=hid (fun R hR=>by
    rw [← hR]
    unfold ZtN
    simp (decide:=true) only [S8.Zac,S8.Zae,Zaf S i (show S8.ZbU≠[] by decide),Zaf S i (show S8.Zcl≠[] by decide),h2,if_true,if_false,Zay S i (show S8.Zcl≠[] by decide)])
   have HY:=hid h2
   have HE:=hid hp.env
   clear hp h1 h2
   go_enter func140,ntmps140
   go_wp2_with (go_at_call 186;(with_reducible refine C.mono ?_);rintro e w1 ⟨rfl,p,g⟩;have K:=hid (And.intro p g);have C2:=ZcR b S i h w1 p ⟨#[114,101,115,116,97,114,116]⟩ HY.out (by decide);clear p g C)
   go_wp2_with (first
    | (go_at_call 186;(with_reducible refine C2.mono ?_);rintro e w2 ⟨rfl,p,g⟩;have K2:=hid (And.intro p (Zaa K.out.2 g (.inl rfl)));have C3:=Zjt b S (i + 1) h w2 p;clear p g C2)
    | (go_at_call 125;(with_reducible refine C3.mono ?_);rintro e w3 h1;rcases h1.ways with ⟨a,j,h',e1,rfl,g,p,rfl⟩ | ⟨x,j,v,e1,rfl,g,hj,p,rfl⟩;exact ⟨rfl,Post.err (HM.out _ (by simp only [S8.Zac,e1])) (Zaa K2.out.2 g (.inl rfl)) p⟩;have hx:=ZrE HE.out e1;have K3:=hid (And.intro p (And.intro (Zaa K2.out.2 g (.inl rfl)) e1));clear h1 e1 g p C3))
   go_ret
   exact Post.ok (j:=j) (HM.out _ (by simp only [S8.Zac,K3.out.2.2];rfl)) K3.out.2.1 K3.out.1 (by omega) rfl
  ·have HM:Hid (ZtN S.size (S.toks.drop i)=.ok 0 (S.toks.drop i)):=hid (by
    unfold ZtN
    simp only [S8.Zac,S8.Zae,Zaf S i (show S8.ZbU≠[] by decide),Zaf S i (show S8.Zcl≠[] by decide),h1,h2,decide_false,Bool.false_eq_true,if_false,S8.Zb5])
   have HY:=hid h2
   clear hp h1 h2
   go_enter func140,ntmps140
   go_wp2_with (go_at_call 186;(with_reducible refine C.mono ?_);rintro e w1 ⟨rfl,p,g⟩;have K:=hid (And.intro p g);have C2:=ZdC b S i h w1 p ⟨#[114,101,115,116,97,114,116]⟩ HY.out;clear p g C)
   go_wp2_with (go_at_call 186;(with_reducible refine C2.mono ?_);rintro e w2 ⟨rfl,p,g⟩;have K2:=hid (And.intro p (Zaa K.out.2 g (.inl rfl)));clear p g C2)
   go_ret
   exact Post.ok (j:=i) HM.out K2.out.2 K2.out.1 (by omega) rfl
theorem ZpI (N b:Nat) (S:Pg) (w:World) (i:Nat) (hp:Ps w b S i false) (hN:S.toks.length≤N + i) (hw:Zag S i=S8.Zcg) :
  Calls prog 77 #[.pointer (some ⟨b,0,none⟩)] w (Post w b S i false (single (lim .decl) S.size (S.toks.drop i)) (ZaO w)):=by
 have HM:Hid (∀R,(do let t ← S8.up;let l ← S8.list lim S8.mLb .field S8.mRb;pure (.mk 2 t 0 (place S i) l):S8.P Nd) S.size (S.toks.drop (i + 1))=R→single (lim .decl) S.size (S.toks.drop i)=R):=hid (by
  intro R h1
  rw [ZfW,← h1]
  unfold S8.decl
  refine ZaN ?_ (fun hl=>absurd (ZaL (S:=S) (i:=i) (by rw [hw];decide)) (by omega))
  simp (decide:=true) only [S8.Zac,S8.Zae,Zaf S i (show S8.Zcg≠[] by decide),hw,if_true,Zay S i (show S8.Zcg≠[] by decide)])
 have HP:=hid hp
 have HW:=hid hw
 clear hw
 have B0:=ZaH b S i false _ (hp.alloc (.cells z5 24)) 2
 obtain ⟨pl,hpl⟩:∃pl,pl=place S i:=⟨_,rfl⟩
 rw [← hpl] at HM B0
 have HPL:=hid hpl
 have hle:=hp.le
 clear hp hpl
 go_enter func77,ntmps77
 go_wp2_with (first
  | (go_at_call 123;(with_reducible refine B0.mono ?_);rintro e w1 ⟨rfl,h1⟩;have F1:=hid (Fn.start HP.out h1 2 0 pl);clear h1;have C1:=Za6 b S i false _ F1.out.ps ⟨#[114,101,99,111,114,100]⟩ HW.out (by decide))
  | (go_at_call 119;(with_reducible refine C1.mono ?_);rintro e w2 ⟨rfl,p,g⟩;have F2:=hid (F1.out.call g p);clear g p C1;have C2:=ZbO b S (i + 1) false _ F2.out.ps)
  | (go_at_call 124;(with_reducible refine C2.mono ?_);rintro e w3 h1;rcases h1.ways with ⟨a,j,h',e1,rfl,g,p,rfl⟩ | ⟨t,j3,v,e1,rfl,g,hj3,p,rfl⟩;exact ⟨rfl,Post.err (HM.out _ (by simp only [S8.Zac,e1])) (Zaa F2.out.fr g (.inl rfl)) p⟩;have F3:=hid (F2.out.call g p);have E3:=hid e1;have hl3:=ZaT S8.Zbj e1;clear h1 e1 g p C2)
  | (refine Zbk F3.out t rfl _ _ rfl rfl rfl ?_;intro w4 h1;have F4:=hid h1;clear h1;have C3:=show Calls prog 132 #[.pointer (some ⟨b,0,none⟩),.string ⟨#[123]⟩,.func (.func 133) #[.pointer (some ⟨b,0,none⟩)] #[],.string ⟨#[125]⟩] _ (Post _ b S j3 false (S8.list lim S8.mLb .field S8.mRb S.size (S.toks.drop j3)) (Zim _)) from Ze8 N 133 b S .field ent133 (Zke b S N false) false _ j3 F4.out.ps (by omega) ⟨#[123]⟩ ⟨#[125]⟩ (by decide) (by decide))
  | (go_at_call 132;(with_reducible refine C3.mono ?_);rintro e w5 h1;rcases h1.ways with ⟨a,j,h',e1,rfl,g,p,rfl⟩ | ⟨l,j5,v5,e1,rfl,g,hj5,p,ho,hc5⟩;exact ⟨rfl,Post.err (HM.out _ (by simp only [S8.Zac,E3.out,e1])) (Zaa F4.out.fr g (.inl rfl)) p⟩;have F5:=hid (F4.out.call g p);have G5:=hid ho;have E5:=hid e1;have Q5:=hid g.size;clear h1 e1 g p ho C3)
  | (refine Za7 F5.out (G5.out.weak F4.out.size) rfl _ _ rfl rfl rfl ?_;intro w6 h1;have F6:=hid h1;clear h1)
  | (refine Zax F6.out rfl _ rfl rfl ?_)
  | (refine Zaw F6.out rfl _ _ rfl rfl rfl ?_;intro w7 h1 h2 h3 h4;have F7:=hid (And.intro h1 (And.intro h2 (And.intro h3 h4)));clear h1 h2 h3 h4))
 refine ret24 results77 F7.out.1
  (Post.ok (j:=j5) (HM.out _ (by (try simp only [S8.Zac,E3.out,E5.out]);rfl)) F7.out.2.1 F7.out.2.2.1 (by omega) F7.out.2.2.2)
theorem ZuD (N b:Nat) (S:Pg) (h:Bool) (w:World) (i:Nat) (hp:Ps w b S i h) (hN:S.toks.length≤N + i) :
  Calls prog 135 #[.pointer (some ⟨b,0,none⟩)] w (Post w b S i h (single (lim (.one .ctor)) S.size (S.toks.drop i)) (ZaO w)):=by
 have HM:Hid (∀R,(do let t ← S8.up;if ← S8.ZaC S8.mLp then do { let l ← S8.some1 lim S8.mLp .type S8.mRp;pure (.mk 8 t 0 (place S i) l) } else pure (.mk 8 t 0 (place S i) []):S8.P Nd) S.size (S.toks.drop i)=R→(S.toks.length≤i→R=.err (place S i))→single (lim (.one .ctor)) S.size (S.toks.drop i)=R):=hid (by
  intro R h1 h2
  rw [Zdl]
  show S8.ctor lim S.size (S.toks.drop i)=R
  unfold S8.ctor
  refine ZaN ?_ h2
  rw [← h1])
 have HP:=hid hp
 have B0:=ZaH b S i h _ (hp.alloc (.cells z5 24)) 8
 obtain ⟨pl,hpl⟩:∃pl,pl=place S i:=⟨_,rfl⟩
 rw [← hpl] at HM B0
 have HPL:=hid hpl
 have hle:=hp.le
 clear hp hpl
 go_enter func135,ntmps135
 go_wp2_with (first
  | (go_at_call 123;(with_reducible refine B0.mono ?_);rintro e w1 ⟨rfl,h1⟩;have F1:=hid (Fn.start HP.out h1 8 0 pl);clear h1;have C1:=ZbO b S i h _ F1.out.ps)
  | (go_at_call 124;(with_reducible refine C1.mono ?_);rintro e w2 h1;rcases h1.ways with ⟨a,j,h',e1,rfl,g,p,rfl⟩ | ⟨t,j2,v,e1,rfl,g,hj2,p,rfl⟩;exact ⟨rfl,Post.err (HM.out _ (by simp only [S8.Zac,e1]) (fun hl=>by rw [HPL.out,Zg7 e1 (ZqG hl)])) (Zaa F1.out.fr g (.inl rfl)) p⟩;have F2:=hid (F1.out.call g p);have E2:=hid e1;have hl2:=ZaT S8.Zbj e1;clear h1 e1 g p C1)
  | (refine Zbk F2.out t rfl _ _ rfl rfl rfl ?_;intro w3 h1;have F3:=hid h1;clear h1))
 by_cases hz3:Zag S j2=S8.mLp
 ·have EP3:Hid (S8.ZaC S8.mLp S.size (S.toks.drop j2)=.ok true (S.toks.drop j2)):=hid (by rw [Zaf S j2 (by decide),hz3];rfl)
  have C2:=Zau b S j2 h _ F3.out.ps
  rw [hz3] at C2
  replace C2:Calls prog 60 #[.pointer (some ⟨b,0,none⟩)] _ fun e w'=>e=.returned (.string ⟨#[40]⟩)∧Below (World.heap _).size _ w':=C2
  have HZ3:=hid hz3
  clear hz3
  go_wp2_with (first
   | (go_at_call 60;(with_reducible refine C2.mono ?_);rintro e w4 ⟨rfl,h1⟩;have F4:=hid (F3.out.look h1);clear h1 C2;have C3:=show Calls prog 134 #[.pointer (some ⟨b,0,none⟩),.string ⟨#[40]⟩,.func (.func 198) #[.pointer (some ⟨b,0,none⟩)] #[],.string ⟨#[41]⟩] _ (Post _ b S j2 h (S8.some1 lim S8.mLp .type S8.mRp S.size (S.toks.drop j2)) (Zim _)) from Ze2 N 198 b S .type ent198 (Zhb b S N false) h _ j2 F4.out.ps (by omega) ⟨#[40]⟩ ⟨#[41]⟩ (by decide) (by decide))
   | (go_at_call 134;(with_reducible refine C3.mono ?_);rintro e w5 h1;rcases h1.ways with ⟨a,j,h',e1,rfl,g,p,rfl⟩ | ⟨l,j5,v5,e1,rfl,g,hj5,p,ho,hc5⟩;exact ⟨rfl,Post.err (HM.out _ (by simp only [S8.Zac,S8.Zae,if_true,E2.out,EP3.out,e1]) (fun hl=>absurd hl (by omega))) (Zaa F4.out.fr g (.inl rfl)) p⟩;have F5:=hid (F4.out.call g p);have G5:=hid ho;have E5:=hid e1;have Q5:=hid g.size;clear h1 e1 g p ho C3)
   | (refine Za7 F5.out (G5.out.weak F4.out.size) rfl _ _ rfl rfl rfl ?_;intro w6 h1;have F6:=hid h1;clear h1)
   | (refine Zax F6.out rfl _ rfl rfl ?_)
   | (refine Zaw F6.out rfl _ _ rfl rfl rfl ?_;intro w7 h1 h2 h3 h4;have F7:=hid (And.intro h1 (And.intro h2 (And.intro h3 h4)));clear h1 h2 h3 h4))
  refine ret24 results135 F7.out.1
   (Post.ok (j:=j5) (HM.out _ (by (try simp only [S8.Zac,S8.Zae,if_true,E2.out,EP3.out,E5.out]);rfl) (fun hl=>absurd hl (by omega))) F7.out.2.1 F7.out.2.2.1 (by omega) F7.out.2.2.2)
 ·have EP3:Hid (S8.ZaC S8.mLp S.size (S.toks.drop j2)=.ok false (S.toks.drop j2)):=hid (by rw [Zaf S j2 (by decide),decide_eq_false hz3])
  have C2:=Zau b S j2 h _ F3.out.ps
  obtain ⟨u3,hu⟩:∃u,u=mk (Zag S j2):=⟨_,rfl⟩
  rw [← hu] at C2
  have n3:(u3.toList == [40])=false:=by rw [hu,Zas,Zbc];exact beq_eq_false_iff_ne.2 hz3
  clear hu
  have HZ3:=hid hz3
  clear hz3
  go_wp2_with (first
   | (go_at_call 60;(with_reducible refine C2.mono ?_);rintro e w4 ⟨rfl,h1⟩;have F4:=hid (F3.out.look h1);clear h1 C2)
   | (refine Zax F4.out rfl _ rfl rfl ?_)
   | (refine Zaw F4.out rfl _ _ rfl rfl rfl ?_;intro w5 h1 h2 h3 h4;have F5:=hid (And.intro h1 (And.intro h2 (And.intro h3 h4)));clear h1 h2 h3 h4))
  refine ret24 results135 F5.out.1
   (Post.ok (j:=j2) (HM.out _ (by (try simp only [S8.Zac,S8.Zae,if_false,Bool.false_eq_true,E2.out,EP3.out]);rfl) (fun hl=>absurd hl (by omega))) F5.out.2.1 F5.out.2.2.1 (by omega) F5.out.2.2.2)
theorem Zsr (b:Nat) (S:Pg) (N:Nat) (h:Bool):Does N 135 b S h (single (lim (.one .ctor))):=fun w i hp hN=>ZuD N b S h w i hp (by omega)
theorem Zm6 (N b:Nat) (S:Pg) (w:World) (i:Nat) (hp:Ps w b S i false) (hN:S.toks.length≤N + i) (hw:Zag S i=S8.ZbS) :
  Calls prog 78 #[.pointer (some ⟨b,0,none⟩)] w (Post w b S i false (single (lim .decl) S.size (S.toks.drop i)) (ZaO w)):=by
 have HM:Hid (∀R,(do let t ← S8.up;let l ← S8.some1 lim S8.mLb .ctor S8.mRb;pure (.mk 3 t 0 (place S i) l):S8.P Nd) S.size (S.toks.drop (i + 1))=R→single (lim .decl) S.size (S.toks.drop i)=R):=hid (by
  intro R h1
  rw [ZfW,← h1]
  unfold S8.decl
  refine ZaN ?_ (fun hl=>absurd (ZaL (S:=S) (i:=i) (by rw [hw];decide)) (by omega))
  simp (decide:=true) only [S8.Zac,S8.Zae,Zaf S i (show S8.Zcg≠[] by decide),Zaf S i (show S8.ZbS≠[] by decide),hw,if_true,if_false,Zay S i (show S8.ZbS≠[] by decide)])
 have HP:=hid hp
 have HW:=hid hw
 clear hw
 have B0:=ZaH b S i false _ (hp.alloc (.cells z5 24)) 3
 obtain ⟨pl,hpl⟩:∃pl,pl=place S i:=⟨_,rfl⟩
 rw [← hpl] at HM B0
 have HPL:=hid hpl
 have hle:=hp.le
 clear hp hpl
 go_enter func78,ntmps78
 go_wp2_with (first
  | (go_at_call 123;(with_reducible refine B0.mono ?_);rintro e w1 ⟨rfl,h1⟩;have F1:=hid (Fn.start HP.out h1 3 0 pl);clear h1;have C1:=Za6 b S i false _ F1.out.ps ⟨#[118,97,114,105,97,110,116]⟩ HW.out (by decide))
  | (go_at_call 119;(with_reducible refine C1.mono ?_);rintro e w2 ⟨rfl,p,g⟩;have F2:=hid (F1.out.call g p);clear g p C1;have C2:=ZbO b S (i + 1) false _ F2.out.ps)
  | (go_at_call 124;(with_reducible refine C2.mono ?_);rintro e w3 h1;rcases h1.ways with ⟨a,j,h',e1,rfl,g,p,rfl⟩ | ⟨t,j3,v,e1,rfl,g,hj3,p,rfl⟩;exact ⟨rfl,Post.err (HM.out _ (by simp only [S8.Zac,e1])) (Zaa F2.out.fr g (.inl rfl)) p⟩;have F3:=hid (F2.out.call g p);have E3:=hid e1;have hl3:=ZaT S8.Zbj e1;clear h1 e1 g p C2)
  | (refine Zbk F3.out t rfl _ _ rfl rfl rfl ?_;intro w4 h1;have F4:=hid h1;clear h1;have C3:=show Calls prog 134 #[.pointer (some ⟨b,0,none⟩),.string ⟨#[123]⟩,.func (.func 135) #[.pointer (some ⟨b,0,none⟩)] #[],.string ⟨#[125]⟩] _ (Post _ b S j3 false (S8.some1 lim S8.mLb .ctor S8.mRb S.size (S.toks.drop j3)) (Zim _)) from Ze2 N 135 b S .ctor ent135 (Zsr b S N false) false _ j3 F4.out.ps (by omega) ⟨#[123]⟩ ⟨#[125]⟩ (by decide) (by decide))
  | (go_at_call 134;(with_reducible refine C3.mono ?_);rintro e w5 h1;rcases h1.ways with ⟨a,j,h',e1,rfl,g,p,rfl⟩ | ⟨l,j5,v5,e1,rfl,g,hj5,p,ho,hc5⟩;exact ⟨rfl,Post.err (HM.out _ (by simp only [S8.Zac,E3.out,e1])) (Zaa F4.out.fr g (.inl rfl)) p⟩;have F5:=hid (F4.out.call g p);have G5:=hid ho;have E5:=hid e1;have Q5:=hid g.size;clear h1 e1 g p ho C3)
  | (refine Za7 F5.out (G5.out.weak F4.out.size) rfl _ _ rfl rfl rfl ?_;intro w6 h1;have F6:=hid h1;clear h1)
  | (refine Zax F6.out rfl _ rfl rfl ?_)
  | (refine Zaw F6.out rfl _ _ rfl rfl rfl ?_;intro w7 h1 h2 h3 h4;have F7:=hid (And.intro h1 (And.intro h2 (And.intro h3 h4)));clear h1 h2 h3 h4))
 refine ret24 results78 F7.out.1
  (Post.ok (j:=j5) (HM.out _ (by (try simp only [S8.Zac,E3.out,E5.out]);rfl)) F7.out.2.1 F7.out.2.2.1 (by omega) F7.out.2.2.2)
theorem Zqc (N b:Nat) (S:Pg) (w:World) (i:Nat) (hp:Ps w b S i false) (_:S.toks.length≤N + i) (hw:Zag S i=S8.Zct) :
  Calls prog 79 #[.pointer (some ⟨b,0,none⟩)] w (Post w b S i false (single (lim .decl) S.size (S.toks.drop i)) (ZaO w)):=by
 have HM:Hid (∀R,(do let t ← S8.low;let l ← ZuV;pure (.mk 4 t 0 (place S i) l):S8.P Nd) S.size (S.toks.drop (i + 1))=R→single (lim .decl) S.size (S.toks.drop i)=R):=hid (by
  intro R h1
  rw [ZfW,← h1]
  unfold S8.decl
  refine ZaN ?_ (fun hl=>absurd (ZaL (S:=S) (i:=i) (by rw [hw];decide)) (by omega))
  simp (decide:=true) only [S8.Zac,S8.Zae,Zaf S i (show S8.Zcg≠[] by decide),Zaf S i (show S8.ZbS≠[] by decide),Zaf S i (show S8.Zct≠[] by decide),hw,if_true,if_false,Zay S i (show S8.Zct≠[] by decide)]
  unfold ZuV ZfV
  simp only [S8.Zac]
  cases S8.low S.size (S.toks.drop (i + 1)) with
  | out=>rfl
  | err a=>rfl
  | ok t r=>
   simp only
   cases S8.list lim S8.mLp What.field S8.mRp S.size r with
   | out=>rfl
   | err a=>rfl
   | ok l r=>
    simp only
    cases S8.must S8.ZfH S.size r with
    | out=>rfl
    | err a=>rfl
    | ok u r=>
     simp only
     cases single (lim (.one .type)) S.size r <;> rfl)
 have HP:=hid hp
 have HW:=hid hw
 clear hw
 have B0:=ZaH b S i false _ (hp.alloc (.cells z5 24)) 4
 obtain ⟨pl,hpl⟩:∃pl,pl=place S i:=⟨_,rfl⟩
 rw [← hpl] at HM B0
 have HPL:=hid hpl
 have hle:=hp.le
 clear hp hpl
 go_enter func79,ntmps79
 go_wp2_with (first
  | (go_at_call 123;(with_reducible refine B0.mono ?_);rintro e w1 ⟨rfl,h1⟩;have F1:=hid (Fn.start HP.out h1 4 0 pl);clear h1;have C1:=Za6 b S i false _ F1.out.ps ⟨#[101,102,102,101,99,116]⟩ HW.out (by decide))
  | (go_at_call 119;(with_reducible refine C1.mono ?_);rintro e w2 ⟨rfl,p,g⟩;have F2:=hid (F1.out.call g p);clear g p C1;have C2:=Zcz b S (i + 1) false _ F2.out.ps)
  | (go_at_call 136;(with_reducible refine C2.mono ?_);rintro e w3 h1;rcases h1.ways with ⟨a,j,h',e1,rfl,g,p,rfl⟩ | ⟨t,j3,v,e1,rfl,g,hj3,p,rfl⟩;exact ⟨rfl,Post.err (HM.out _ (by simp only [S8.Zac,e1])) (Zaa F2.out.fr g (.inl rfl)) p⟩;have F3:=hid (F2.out.call g p);have E3:=hid e1;have hl3:=ZaT S8.Za5 e1;clear h1 e1 g p C2)
  | (refine Zbk F3.out t rfl _ _ rfl rfl rfl ?_;intro w4 h1;have F4:=hid h1;clear h1;have C3:=Znk b S false _ j3 F4.out.ps)
  | (go_at_call 137;(with_reducible refine C3.mono ?_);rintro e w5 h1;rcases h1.ways with ⟨a,j,h',e1,rfl,g,p,rfl⟩ | ⟨l,j5,v5,e1,rfl,g,hj5,p,ho,hc5⟩;exact ⟨rfl,Post.err (HM.out _ (by simp only [S8.Zac,E3.out,e1])) (Zaa F4.out.fr g (.inl rfl)) p⟩;have F5:=hid (F4.out.call g p);have G5:=hid ho;have E5:=hid e1;have Q5:=hid g.size;clear h1 e1 g p ho C3)
  | (refine Za7 F5.out (G5.out.weak F4.out.size) rfl _ _ rfl rfl rfl ?_;intro w6 h1;have F6:=hid h1;clear h1)
  | (refine Zax F6.out rfl _ rfl rfl ?_)
  | (refine Zaw F6.out rfl _ _ rfl rfl rfl ?_;intro w7 h1 h2 h3 h4;have F7:=hid (And.intro h1 (And.intro h2 (And.intro h3 h4)));clear h1 h2 h3 h4))
 refine ret24 results79 F7.out.1
  (Post.ok (j:=j5) (HM.out _ (by (try simp only [S8.Zac,E3.out,E5.out]);rfl)) F7.out.2.1 F7.out.2.2.1 (by omega) F7.out.2.2.2)
theorem Zn1 (N b:Nat) (S:Pg) (HE:∀h,Does N 138 b S h (single (lim (.expr h)))) (w:World) (i:Nat) (hp:Ps w b S i false) (hN:S.toks.length≤N + i) (hw:Zag S i=S8.Zd7) :
  Calls prog 80 #[.pointer (some ⟨b,0,none⟩)] w (Post w b S i false (single (lim .decl) S.size (S.toks.drop i)) (ZaO w)):=by
 have HM:Hid (∀R,(do let t ← S8.low;let l ← ZuV;let _ ← S8.must S8.mEq;let y ← single (lim (.expr false));pure (.mk 5 t 0 (place S i) (l++[y])):S8.P Nd) S.size (S.toks.drop (i + 1))=R→single (lim .decl) S.size (S.toks.drop i)=R):=hid (by
  intro R h1
  rw [ZfW,← h1]
  unfold S8.decl
  refine ZaN ?_ (fun hl=>absurd (ZaL (S:=S) (i:=i) (by rw [hw];decide)) (by omega))
  simp (decide:=true) only [S8.Zac,S8.Zae,Zaf S i (show S8.Zcg≠[] by decide),Zaf S i (show S8.ZbS≠[] by decide),Zaf S i (show S8.Zct≠[] by decide),Zaf S i (show S8.Zd7≠[] by decide),hw,if_true,if_false,Zay S i (show S8.Zd7≠[] by decide)]
  cases S8.low S.size (S.toks.drop (i + 1)) with
  | out=>rfl
  | err a=>rfl
  | ok t r=>exact ZlU false 5 t (place S i) S.size r)
 have HC:=hid (HE false)
 clear HE
 have HP:=hid hp
 have HW:=hid hw
 clear hw
 have B0:=ZaH b S i false _ (hp.alloc (.cells z5 24)) 5
 obtain ⟨pl,hpl⟩:∃pl,pl=place S i:=⟨_,rfl⟩
 rw [← hpl] at HM B0
 have HPL:=hid hpl
 have hle:=hp.le
 clear hp hpl
 go_enter func80,ntmps80
 go_wp2_with (first
  | (go_at_call 123;(with_reducible refine B0.mono ?_);rintro e w1 ⟨rfl,h1⟩;have F1:=hid (Fn.start HP.out h1 5 0 pl);clear h1;have C1:=Za6 b S i false _ F1.out.ps ⟨#[102,117,110]⟩ HW.out (by decide))
  | (go_at_call 119;(with_reducible refine C1.mono ?_);rintro e w2 ⟨rfl,p,g⟩;have F2:=hid (F1.out.call g p);clear g p C1;have C2:=Zcz b S (i + 1) false _ F2.out.ps)
  | (go_at_call 136;(with_reducible refine C2.mono ?_);rintro e w3 h1;rcases h1.ways with ⟨a,j,h',e1,rfl,g,p,rfl⟩ | ⟨t,j3,v,e1,rfl,g,hj3,p,rfl⟩;exact ⟨rfl,Post.err (HM.out _ (by simp only [S8.Zac,e1])) (Zaa F2.out.fr g (.inl rfl)) p⟩;have F3:=hid (F2.out.call g p);have E3:=hid e1;have hl3:=ZaT S8.Za5 e1;clear h1 e1 g p C2)
  | (refine Zbk F3.out t rfl _ _ rfl rfl rfl ?_;intro w4 h1;have F4:=hid h1;clear h1;have C3:=Znk b S false _ j3 F4.out.ps)
  | (go_at_call 137;(with_reducible refine C3.mono ?_);rintro e w5 h1;rcases h1.ways with ⟨a,j,h',e1,rfl,g,p,rfl⟩ | ⟨l,j5,v5,e1,rfl,g,hj5,p,ho,hc5⟩;exact ⟨rfl,Post.err (HM.out _ (by simp only [S8.Zac,E3.out,e1])) (Zaa F4.out.fr g (.inl rfl)) p⟩;have F5:=hid (F4.out.call g p);have G5:=hid ho;have E5:=hid e1;have Q5:=hid g.size;clear h1 e1 g p ho C3)
  | (refine Za7 F5.out (G5.out.weak F4.out.size) rfl _ _ rfl rfl rfl ?_;intro w6 h1;have F6:=hid h1;clear h1;have C4:Calls prog 119 #[.pointer (some ⟨b,0,none⟩),.string ⟨#[61]⟩] _ (Post _ b S j5 false (S8.must S8.mEq S.size (S.toks.drop j5)) fun _ v _=>v=.tuple #[]):=Zbd b S j5 false _ F6.out.ps ⟨#[61]⟩ (by decide))
  | (go_at_call 119;(with_reducible refine C4.mono ?_);rintro e w7 h1;rcases h1.ways with ⟨a,j,h',e1,rfl,g,p,rfl⟩ | ⟨u7,j7,v,e1,rfl,g,hj7,p,rfl⟩;exact ⟨rfl,Post.err (HM.out _ (by simp only [S8.Zac,E3.out,E5.out,e1])) (Zaa F6.out.fr g (.inl rfl)) p⟩;have F7:=hid (F6.out.call g p);have E7:=hid e1;have hl7:=ZaT (S8.Zal _) e1;clear h1 e1 g p C4))
 have U9:=F7.out.nd.at_ 4
 refine r2 (fun W=>W.cell? ⟨w1.heap.size,4,none⟩=some (v5)) (fun j=>decide (j < 6)) [0,1,2] [3,4,5,6,7] U9 ?_
 refine fs (.pointer (some ⟨w1.heap.size,4,none⟩)) rfl ?_
 refine fs (v5) rfl ?_
 refine fs (.pointer (some ⟨b,0,none⟩)) rfl ?_
 refine Zap ?_
 clear U9
 have F8:=hid (F7.out.look (Below.refl _ _).drew)
 have C5:=HC.out _ j7 F8.out.ps (by omega)
 refine cs rfl fun K9 HK9=>?_
 go_wp2_with (go_at_call 138;(with_reducible refine C5.mono ?_);rintro e w9 h1;rcases h1.ways with ⟨a,j,h',e1,rfl,g,p,rfl⟩ | ⟨y,j9,v,e1,rfl,g,hj9,p,r9,rfl,ho⟩;exact ⟨rfl,Post.err (HM.out _ (by simp only [S8.Zac,E3.out,E5.out,E7.out,e1])) (Zaa F8.out.fr g (.inl rfl)) p⟩;have F9:=hid (And.intro (F8.out.call g p) ho);have E9:=hid e1;clear h1 e1 g p ho C5)
 refine HK9.out _ _ (fun _=>F9.out.1.nd.at_ 4) ?_
 refine cs rfl fun K9 HK9=>?_
 go_wp2_with fail
 have F10:=hid (F9.out.1.look ((Below.refl _ _).alloc (Nat.le_refl _) (.cells (nd5 y.k y.t y.n y.a r9) 24)))
 have HI10:=hid (Is.fresh w9 24 (nd5 y.k y.t y.n y.a r9))
 refine HK9.out _ _ (fun _=>F10.out.nd.at_ 4) ?_
 refine cs rfl fun K9 HK9=>?_
 refine ZbY (base:=w1.heap.size + 1) (g:=w9.heap.size) (x:=y) (r:=r9) F10.out.row HI10.out ?kid ?len ?hb rfl (.tmp 17) (.tmp 20) rfl rfl rfl ?_
 case kid=>exact ZbZ F8.out.row F9.out.2 (fun g hg=>Below.heap_alloc w9 _ g hg) F8.out.size
 case len=>omega
 case hb=>exact F10.out.size
 intro v11 w11 h1 h2
 have F11:=hid (And.intro (F10.out.turn h2) h1)
 clear h1 h2
 refine HK9.out _ _ (fun _=>F11.out.1.nd.at_ 4) ?_
 refine cs rfl fun K9 HK9=>?_
 go_wp2_with fail
 refine HK9.out _ _ (fun h=>by cases h) ?_
 refine cs rfl fun K9 HK9=>?_
 refine ZbX F11.out.1 F11.out.2 rfl _ _ rfl rfl rfl ?_
 intro w12 h1
 have F12:=hid h1
 clear h1
 refine HK9.out _ _ (fun h=>by cases h) ?_
 refine Zam ?_
 go_wp2_with (first
  | (refine Zax F12.out rfl _ rfl rfl ?_)
  | (refine Zaw F12.out rfl _ _ rfl rfl rfl ?_;intro w13 h1 h2 h3 h4;have F13:=hid (And.intro h1 (And.intro h2 (And.intro h3 h4)));clear h1 h2 h3 h4))
 refine ret24 results80 F13.out.1
  (Post.ok (j:=j9) (HM.out _ (by (try simp only [S8.Zac,E3.out,E5.out,E7.out,E9.out]);rfl)) F13.out.2.1 F13.out.2.2.1 (by omega) F13.out.2.2.2)
theorem ZqV (N b:Nat) (S:Pg) (HE:∀h,Does N 138 b S h (single (lim (.expr h)))) (w:World) (i:Nat) (hp:Ps w b S i false) (hN:S.toks.length≤N + i) (hw:Zag S i=S8.Zec) :
  Calls prog 204 #[.pointer (some ⟨b,0,none⟩)] w (Post w b S i false (single (lim (.one .member)) S.size (S.toks.drop i)) (ZaO w)):=by
 have HM:Hid (∀R,(do let t ← S8.low;let _ ← S8.must S8.ZfH;let x ← single (lim (.one .type));let _ ← S8.must S8.mEq;let y ← single (lim (.expr false));pure (.mk 9 t 0 (place S i) [x,y]):S8.P Nd) S.size (S.toks.drop (i + 1))=R→single (lim (.one .member)) S.size (S.toks.drop i)=R):=hid (by
  intro R h1
  rw [Zdl,← h1]
  show S8.member lim S.size (S.toks.drop i)=_
  unfold S8.member
  refine ZaN ?_ (fun hl=>absurd (ZaL (S:=S) (i:=i) (by rw [hw];decide)) (by omega))
  unfold S8.sig
  simp (decide:=true) only [S8.Zac,S8.Zae,Zaf S i (show S8.Zec≠[] by decide),hw,if_true,Zay S i (show S8.Zec≠[] by decide)]
  cases S8.low S.size (S.toks.drop (i + 1)) with
  | out=>rfl
  | err a=>rfl
  | ok t r=>
   simp only
   cases S8.must S8.ZfH S.size r with
   | out=>rfl
   | err a=>rfl
   | ok u r=>
    simp only
    cases single (lim (.one .type)) S.size r with
    | out=>rfl
    | err a=>rfl
    | ok y r=>
     simp only
     cases S8.must S8.mEq S.size r with
     | out=>rfl
     | err a=>rfl
     | ok u r=>
      simp only
      cases single (lim (.expr false)) S.size r <;> rfl)
 have HC:=hid (HE false)
 have HT:=hid (Zhb b S N false)
 clear HE
 have HP:=hid hp
 have HW:=hid hw
 clear hw
 have B0:=ZaH b S i false _ (hp.alloc (.cells z5 24)) 9
 obtain ⟨pl,hpl⟩:∃pl,pl=place S i:=⟨_,rfl⟩
 rw [← hpl] at HM B0
 have HPL:=hid hpl
 have hle:=hp.le
 clear hp hpl
 go_enter func204,ntmps204
 go_wp2_with (first
  | (go_at_call 123;(with_reducible refine B0.mono ?_);rintro e w1 ⟨rfl,h1⟩;have F1:=hid (Fn.start HP.out h1 9 0 pl);clear h1;have C1:=Za6 b S i false _ F1.out.ps ⟨#[115,116,97,116,101]⟩ HW.out (by decide))
  | (go_at_call 119;(with_reducible refine C1.mono ?_);rintro e w2 ⟨rfl,p,g⟩;have F2:=hid (F1.out.call g p);clear g p C1;have C2:=Zcz b S (i + 1) false _ F2.out.ps)
  | (go_at_call 136;(with_reducible refine C2.mono ?_);rintro e w3 h1;rcases h1.ways with ⟨a,j,h',e1,rfl,g,p,rfl⟩ | ⟨t,j3,v,e1,rfl,g,hj3,p,rfl⟩;exact ⟨rfl,Post.err (HM.out _ (by simp only [S8.Zac,e1])) (Zaa F2.out.fr g (.inl rfl)) p⟩;have F3:=hid (F2.out.call g p);have E3:=hid e1;have hl3:=ZaT S8.Za5 e1;clear h1 e1 g p C2)
  | (refine Zbk F3.out t rfl _ _ rfl rfl rfl ?_;intro w4 h1;have F4:=hid h1;clear h1;have C3:Calls prog 119 #[.pointer (some ⟨b,0,none⟩),.string ⟨#[58]⟩] _ (Post _ b S j3 false (S8.must S8.ZfH S.size (S.toks.drop j3)) fun _ v _=>v=.tuple #[]):=Zbd b S j3 false _ F4.out.ps ⟨#[58]⟩ (by decide))
  | (go_at_call 119;(with_reducible refine C3.mono ?_);rintro e w5 h1;rcases h1.ways with ⟨a,j,h',e1,rfl,g,p,rfl⟩ | ⟨u5,j5,v,e1,rfl,g,hj5,p,rfl⟩;exact ⟨rfl,Post.err (HM.out _ (by simp only [S8.Zac,E3.out,e1])) (Zaa F4.out.fr g (.inl rfl)) p⟩;have F5:=hid (F4.out.call g p);have E5:=hid e1;have hl5:=ZaT (S8.Zal _) e1;clear h1 e1 g p C3;have C4:=HT.out _ j5 F5.out.ps (by omega))
  | (go_at_call 198;(with_reducible refine C4.mono ?_);rintro e w6 h1;rcases h1.ways with ⟨a,j,h',e1,rfl,g,p,rfl⟩ | ⟨x,j6,v,e1,rfl,g,hj6,p,r6,rfl,ho⟩;exact ⟨rfl,Post.err (HM.out _ (by simp only [S8.Zac,E3.out,E5.out,e1])) (Zaa F5.out.fr g (.inl rfl)) p⟩;have F6:=hid (And.intro (F5.out.call g p) ho);have G6:=hid (F5.out.single g p ho);have E6:=hid e1;clear h1 e1 g p ho C4)
  | (refine Za7 G6.out.1 G6.out.2 rfl _ _ rfl rfl rfl ?_;intro w7 h1;have F7:=hid h1;clear h1;have C5:Calls prog 119 #[.pointer (some ⟨b,0,none⟩),.string ⟨#[61]⟩] _ (Post _ b S j6 false (S8.must S8.mEq S.size (S.toks.drop j6)) fun _ v _=>v=.tuple #[]):=Zbd b S j6 false _ F7.out.ps ⟨#[61]⟩ (by decide))
  | (go_at_call 119;(with_reducible refine C5.mono ?_);rintro e w8 h1;rcases h1.ways with ⟨a,j,h',e1,rfl,g,p,rfl⟩ | ⟨u8,j8,v,e1,rfl,g,hj8,p,rfl⟩;exact ⟨rfl,Post.err (HM.out _ (by simp only [S8.Zac,E3.out,E5.out,E6.out,e1])) (Zaa F7.out.fr g (.inl rfl)) p⟩;have F8:=hid (F7.out.call g p);have E8:=hid e1;have hl8:=ZaT (S8.Zal _) e1;clear h1 e1 g p C5))
 have U9:=F8.out.nd.at_ 4
 refine r2 (fun W=>W.cell? ⟨w1.heap.size,4,none⟩=some (.slice (some ⟨w6.heap.size,0,none⟩) 1 1)) (fun j=>decide (j < 6)) [0,1,2] [3,4,5,6,7] U9 ?_
 refine fs (.pointer (some ⟨w1.heap.size,4,none⟩)) rfl ?_
 refine fs (.slice (some ⟨w6.heap.size,0,none⟩) 1 1) rfl ?_
 refine fs (.pointer (some ⟨b,0,none⟩)) rfl ?_
 refine Zap ?_
 clear U9
 have F9:=hid (F8.out.look (Below.refl _ _).drew)
 have C6:=HC.out _ j8 F9.out.ps (by omega)
 refine cs rfl fun K9 HK9=>?_
 go_wp2_with (go_at_call 138;(with_reducible refine C6.mono ?_);rintro e w10 h1;rcases h1.ways with ⟨a,j,h',e1,rfl,g,p,rfl⟩ | ⟨y,j10,v,e1,rfl,g,hj10,p,r10,rfl,ho⟩;exact ⟨rfl,Post.err (HM.out _ (by simp only [S8.Zac,E3.out,E5.out,E6.out,E8.out,e1])) (Zaa F9.out.fr g (.inl rfl)) p⟩;have F10:=hid (And.intro (F9.out.call g p) ho);have E10:=hid e1;clear h1 e1 g p ho C6)
 refine HK9.out _ _ (fun _=>F10.out.1.nd.at_ 4) ?_
 refine cs rfl fun K9 HK9=>?_
 go_wp2_with fail
 have F11:=hid (F10.out.1.look ((Below.refl _ _).alloc (Nat.le_refl _) (.cells (nd5 y.k y.t y.n y.a r10) 24)))
 have HI11:=hid (Is.fresh w10 24 (nd5 y.k y.t y.n y.a r10))
 refine HK9.out _ _ (fun _=>F11.out.nd.at_ 4) ?_
 refine cs rfl fun K9 HK9=>?_
 refine ZbY (base:=w1.heap.size + 1) (g:=w10.heap.size) (x:=y) (r:=r10) F11.out.row HI11.out ?kid ?len ?hb rfl (.tmp 20) (.tmp 23) rfl rfl rfl ?_
 case kid=>exact ZbZ F9.out.row F10.out.2 (fun g hg=>Below.heap_alloc w10 _ g hg) F9.out.size
 case len=>simp
 case hb=>exact F11.out.size
 intro v12 w12 h1 h2
 have F12:=hid (And.intro (F11.out.turn h2) h1)
 clear h1 h2
 refine HK9.out _ _ (fun _=>F12.out.1.nd.at_ 4) ?_
 refine cs rfl fun K9 HK9=>?_
 go_wp2_with fail
 refine HK9.out _ _ (fun h=>by cases h) ?_
 refine cs rfl fun K9 HK9=>?_
 refine ZbX F12.out.1 F12.out.2 rfl _ _ rfl rfl rfl ?_
 intro w13 h1
 have F13:=hid h1
 clear h1
 refine HK9.out _ _ (fun h=>by cases h) ?_
 refine Zam ?_
 go_wp2_with (first
  | (refine Zax F13.out rfl _ rfl rfl ?_)
  | (refine Zaw F13.out rfl _ _ rfl rfl rfl ?_;intro w14 h1 h2 h3 h4;have F14:=hid (And.intro h1 (And.intro h2 (And.intro h3 h4)));clear h1 h2 h3 h4))
 refine ret24 results204 F14.out.1
  (Post.ok (j:=j10) (HM.out _ (by (try simp only [S8.Zac,E3.out,E5.out,E6.out,E8.out,E10.out]);rfl)) F14.out.2.1 F14.out.2.2.1 (by omega) F14.out.2.2.2)
theorem ZnZ (N b:Nat) (S:Pg) (HB:Does N 247 b S false (S8.block lim)) (w:World) (i:Nat) (hp:Ps w b S i false) (hN:S.toks.length≤N + i) (hne:Zag S i≠S8.Zec) :
  Calls prog 205 #[.pointer (some ⟨b,0,none⟩)] w (Post w b S i false (single (lim (.one .member)) S.size (S.toks.drop i)) (ZaO w)):=by
 have HM:Hid (∀R,(do let _ ← S8.must S8.wOn;let t ← S8.up;let l ← ZfV;let y ← S8.block lim;pure (.mk 10 t 0 (place S i) (l++[y])):S8.P Nd) S.size (S.toks.drop i)=R→(S.toks.length≤i→R=.err (place S i))→single (lim (.one .member)) S.size (S.toks.drop i)=R):=hid (by
  intro R h1 h2
  rw [Zdl]
  show S8.member lim S.size (S.toks.drop i)=R
  unfold S8.member
  refine ZaN ?_ h2
  rw [← h1]
  simp only [S8.Zac,S8.Zae,Zaf S i (show S8.Zec≠[] by decide),hne,decide_false,Bool.false_eq_true,if_false])
 have HBl:=hid HB
 clear HB hne
 have HP:=hid hp
 have B0:=ZaH b S i false _ (hp.alloc (.cells z5 24)) 10
 obtain ⟨pl,hpl⟩:∃pl,pl=place S i:=⟨_,rfl⟩
 rw [← hpl] at HM B0
 have HPL:=hid hpl
 have hle:=hp.le
 clear hp hpl
 go_enter func205,ntmps205
 go_wp2_with (first
  | (go_at_call 123;(with_reducible refine B0.mono ?_);rintro e w1 ⟨rfl,h1⟩;have F1:=hid (Fn.start HP.out h1 10 0 pl);clear h1;have C1:Calls prog 119 #[.pointer (some ⟨b,0,none⟩),.string ⟨#[111,110]⟩] _ (Post _ b S i false (S8.must S8.wOn S.size (S.toks.drop i)) fun _ v _=>v=.tuple #[]):=Zbd b S i false _ F1.out.ps ⟨#[111,110]⟩ (by decide))
  | (go_at_call 119;(with_reducible refine C1.mono ?_);rintro e w2 h1;rcases h1.ways with ⟨a,j,h',e1,rfl,g,p,rfl⟩ | ⟨u2,j2,v,e1,rfl,g,hj2,p,rfl⟩;exact ⟨rfl,Post.err (HM.out _ (by simp only [S8.Zac,e1]) (fun hl=>by rw [HPL.out,Zg7 e1 (Zlh hl)])) (Zaa F1.out.fr g (.inl rfl)) p⟩;have F2:=hid (F1.out.call g p);have E2:=hid e1;have hl2:=ZaT (S8.Zal _) e1;clear h1 e1 g p C1;have C2:=ZbO b S j2 false _ F2.out.ps)
  | (go_at_call 124;(with_reducible refine C2.mono ?_);rintro e w3 h1;rcases h1.ways with ⟨a,j,h',e1,rfl,g,p,rfl⟩ | ⟨t,j3,v,e1,rfl,g,hj3,p,rfl⟩;exact ⟨rfl,Post.err (HM.out _ (by simp only [S8.Zac,E2.out,e1]) (fun hl=>absurd hl (by omega))) (Zaa F2.out.fr g (.inl rfl)) p⟩;have F3:=hid (F2.out.call g p);have E3:=hid e1;have hl3:=ZaT S8.Zbj e1;clear h1 e1 g p C2)
  | (refine Zbk F3.out t rfl _ _ rfl rfl rfl ?_;intro w4 h1;have F4:=hid h1;clear h1;have C3:=Zd5 b S false _ j3 F4.out.ps)
  | (go_at_call 139;(with_reducible refine C3.mono ?_);rintro e w5 h1;rcases h1.ways with ⟨a,j,h',e1,rfl,g,p,rfl⟩ | ⟨l,j5,v5,e1,rfl,g,hj5,p,ho,hc5⟩;exact ⟨rfl,Post.err (HM.out _ (by simp only [S8.Zac,E2.out,E3.out,e1]) (fun hl=>absurd hl (by omega))) (Zaa F4.out.fr g (.inl rfl)) p⟩;have F5:=hid (F4.out.call g p);have G5:=hid ho;have E5:=hid e1;have Q5:=hid g.size;clear h1 e1 g p ho C3;have C4:=HBl.out _ j5 F5.out.ps (by omega))
  | (go_at_call 247;(with_reducible refine C4.mono ?_);rintro e w6 h1;rcases h1.ways with ⟨a,j,h',e1,rfl,g,p,rfl⟩ | ⟨y,j6,v,e1,rfl,g,hj6,p,r6,rfl,ho⟩;exact ⟨rfl,Post.err (HM.out _ (by simp only [S8.Zac,E2.out,E3.out,E5.out,e1]) (fun hl=>absurd hl (by omega))) (Zaa F5.out.fr g (.inl rfl)) p⟩;have F6:=hid (And.intro (F5.out.call g p) (And.intro (ZiF G5.out g F5.out F4.out.size) ho));have E6:=hid e1;clear h1 e1 g p ho C4)
  | (at_builtin;refine ZbY (base:=w1.heap.size + 1) (g:=w6.heap.size) (c:=l) (x:=y) (r:=r6) (F6.out.2.1.alloc _) (Is.fresh w6 24 _) (ZbZ (G5.out.weak F4.out.size) F6.out.2.2 (fun g hg=>Below.heap_alloc w6 _ g hg) F5.out.size) (by omega) (Nat.le_trans F6.out.1.size (by simp)) rfl (.tmp 12) (.tmp 15) rfl rfl rfl ?_;intro v7 w7 h1 h2;have F7:=hid (And.intro ((F6.out.1.look ((Below.refl _ _).alloc (Nat.le_refl _) (.cells (nd5 y.k y.t y.n y.a r6) 24))).turn h2) h1);clear h1 h2)
  | (refine ZbX F7.out.1 F7.out.2 rfl _ _ rfl rfl rfl ?_;intro w8 h1;have F8:=hid h1;clear h1)
  | (refine Zax F8.out rfl _ rfl rfl ?_)
  | (refine Zaw F8.out rfl _ _ rfl rfl rfl ?_;intro w9 h1 h2 h3 h4;have F9:=hid (And.intro h1 (And.intro h2 (And.intro h3 h4)));clear h1 h2 h3 h4))
 refine ret24 results205 F9.out.1
  (Post.ok (j:=j6) (HM.out _ (by (try simp only [S8.Zac,E2.out,E3.out,E5.out,E6.out]);rfl) (fun hl=>absurd hl (by omega))) F9.out.2.1 F9.out.2.2.1 (by omega) F9.out.2.2.2)
theorem Zmn (N b:Nat) (S:Pg) (HE:∀h,Does N 138 b S h (single (lim (.expr h)))) (w:World) (i:Nat) (hp:Ps w b S i false) (hN:S.toks.length≤N + i) (hw:Zag S i=S8.Zec) :
  Calls prog 142 #[.pointer (some ⟨b,0,none⟩)] w (Post w b S i false (single (lim (.one .member)) S.size (S.toks.drop i)) (ZaO w)):=by
 have HW:=hid hw
 have HC:=hid HE
 have HP:=hid hp
 have F0:=hid (And.intro (hp.alloc (.cells z5 24)) (And.intro (Is.fresh w 24 z5) (Zaj (r:=some b) ((Below.refl w.heap.size w).alloc (Nat.le_refl _) (.cells z5 24)))))
 have WD:=Zau b S i false _ F0.out.1
 have WD:Calls prog 60 #[.pointer (some ⟨b,0,none⟩)] (w.alloc (.cells z5 24)) fun e w'=>e=.returned (.string ⟨#[115,116,97,116,101]⟩)∧Below (w.alloc (.cells z5 24)).heap.size (w.alloc (.cells z5 24)) w':=by
  rw [hw] at WD;exact WD
 clear hp hw HE
 go_enter func142,ntmps142
 go_wp2_with (first
  | (go_at_call 60;(with_reducible refine WD.mono ?_);rintro e w1 ⟨rfl,h1⟩;have p1:=F0.out.1.below h1 F0.out.1.lt;have F1:=hid (And.intro p1 (And.intro (F0.out.2.1.below h1 F0.out.2.1.lt) (Zan F0.out.2.2 (h1.mono F0.out.2.2.size))));have C1:=ZqV N b S HC.out _ i p1 hN HW.out;clear h1 p1 WD)
  | (go_at_call 204;(with_reducible refine C1.mono ?_);rintro e w2 h1;rcases h1.ways with ⟨a,j,h',e1,rfl,g,p,rfl⟩ | ⟨x,j1,v,e1,rfl,g,hj1,p,r,rfl,ho⟩;exact ⟨rfl,Post.err (e1) (Zaa F1.out.2.2 g (.inl rfl)) p⟩;have hbb:=HP.out.lt;have F2:=hid (And.intro p (And.intro (Zaa F1.out.2.2 g (.inl rfl)) (And.intro (F1.out.2.1.kept g (by simp;omega)) (And.intro (ho.weak F1.out.2.1.lt) e1))));clear h1 e1 g p ho C1)
  | (refine Zah F2.out.2.2.1 rfl 24 _ _ rfl (nd5 x.k x.t x.n x.a r) rfl rfl inf24 rfl (by have h1:=F2.out.2.2.2.1.one;simp [nd5,h1];exact ⟨rfl,rfl,rfl,rfl⟩) ?_;intro w3 h1 h2;have F3:=hid (And.intro h1 h2);clear h1 h2))
 refine ret24 results142 F3.out.1
  (Post.ok (j:=j1) (x:=x) (F2.out.2.2.2.2) (Zaa F2.out.2.1 F3.out.2 (.inr fun j e=>by injection e with e;omega)) (F2.out.1.kept F3.out.2 hbb) hj1 ⟨r,rfl,(F2.out.2.2.2.1.grown F3.out.2 (by omega)).weak (by omega)⟩)
theorem ZrH (N b:Nat) (S:Pg) (HB:Does N 247 b S false (S8.block lim)) (w:World) (i:Nat) (hp:Ps w b S i false) (hN:S.toks.length≤N + i) (hne:∀s,s∈[S8.Zec]→Zag S i≠s) :
  Calls prog 142 #[.pointer (some ⟨b,0,none⟩)] w (Post w b S i false (single (lim (.one .member)) S.size (S.toks.drop i)) (ZaO w)):=by
 have HNE:=hid hne
 have HC:=hid HB
 have HP:=hid hp
 have F0:=hid (And.intro (hp.alloc (.cells z5 24)) (And.intro (Is.fresh w 24 z5) (Zaj (r:=some b) ((Below.refl w.heap.size w).alloc (Nat.le_refl _) (.cells z5 24)))))
 have WD:=Zau b S i false _ F0.out.1
 obtain ⟨u,hu⟩:∃u,u=mk (Zag S i):=⟨_,rfl⟩
 rw [← hu] at WD
 have n0:(u.toList == [115,116,97,116,101])=false:=by rw [hu,Zas,Zbc];exact beq_eq_false_iff_ne.2 (hne S8.Zec (by simp))
 clear hu
 clear hp hne HB
 go_enter func142,ntmps142
 go_wp2_with (first
  | (go_at_call 60;(with_reducible refine WD.mono ?_);rintro e w1 ⟨rfl,h1⟩;have p1:=F0.out.1.below h1 F0.out.1.lt;have F1:=hid (And.intro p1 (And.intro (F0.out.2.1.below h1 F0.out.2.1.lt) (Zan F0.out.2.2 (h1.mono F0.out.2.2.size))));have C1:=ZnZ N b S HC.out _ i p1 hN (HNE.out _ (by simp));clear h1 p1 WD)
  | (go_at_call 205;(with_reducible refine C1.mono ?_);rintro e w2 h1;rcases h1.ways with ⟨a,j,h',e1,rfl,g,p,rfl⟩ | ⟨x,j1,v,e1,rfl,g,hj1,p,r,rfl,ho⟩;exact ⟨rfl,Post.err (e1) (Zaa F1.out.2.2 g (.inl rfl)) p⟩;have hbb:=HP.out.lt;have F2:=hid (And.intro p (And.intro (Zaa F1.out.2.2 g (.inl rfl)) (And.intro (F1.out.2.1.kept g (by simp;omega)) (And.intro (ho.weak F1.out.2.1.lt) e1))));clear h1 e1 g p ho C1)
  | (refine Zah F2.out.2.2.1 rfl 24 _ _ rfl (nd5 x.k x.t x.n x.a r) rfl rfl inf24 rfl (by have h1:=F2.out.2.2.2.1.one;simp [nd5,h1];exact ⟨rfl,rfl,rfl,rfl⟩) ?_;intro w3 h1 h2;have F3:=hid (And.intro h1 h2);clear h1 h2))
 refine ret24 results142 F3.out.1
  (Post.ok (j:=j1) (x:=x) (F2.out.2.2.2.2) (Zaa F2.out.2.1 F3.out.2 (.inr fun j e=>by injection e with e;omega)) (F2.out.1.kept F3.out.2 hbb) hj1 ⟨r,rfl,(F2.out.2.2.2.1.grown F3.out.2 (by omega)).weak (by omega)⟩)
theorem ZnL (N b:Nat) (S:Pg) (HE:∀h,Does N 138 b S h (single (lim (.expr h)))) (HB:Does N 247 b S false (S8.block lim)):Does (N + 1) 142 b S false (single (lim (.one .member))):=fun w i hp hN=>by
 by_cases hw:Zag S i=S8.Zec
 ·exact Zmn N b S HE w i hp (by omega) hw
 ·exact ZrH N b S HB w i hp (by omega) (fun s hs=>by simp only [List.mem_cons,List.not_mem_nil,or_false] at hs;subst hs;exact hw)
theorem ZsR (N b:Nat) (S:Pg) (HMe:Does N 142 b S false (single (lim (.one .member)))) (w:World) (i:Nat) (hp:Ps w b S i false) (hN:S.toks.length≤N + i) (hw:Zag S i=S8.ZbV) :
  Calls prog 81 #[.pointer (some ⟨b,0,none⟩)] w (Post w b S i false (single (lim .decl) S.size (S.toks.drop i)) (ZaO w)):=by
 have HM:Hid (∀R,(do let t ← S8.up;let l ← ZfV;let q ← ZtN;let _ ← S8.must S8.mLb;let m ← lim (.many .member false);pure (.mk 6 t q (place S i) (l++m)):S8.P Nd) S.size (S.toks.drop (i + 1))=R→single (lim .decl) S.size (S.toks.drop i)=R):=hid (by
  intro R h1
  rw [ZfW,← h1]
  unfold S8.decl
  refine ZaN ?_ (fun hl=>absurd (ZaL (S:=S) (i:=i) (by rw [hw];decide)) (by omega))
  simp (decide:=true) only [S8.Zac,S8.Zae,Zaf S i (show S8.Zcg≠[] by decide),Zaf S i (show S8.ZbS≠[] by decide),Zaf S i (show S8.Zct≠[] by decide),Zaf S i (show S8.Zd7≠[] by decide),hw,if_true,if_false,Zay S i (show S8.ZbV≠[] by decide)]
  cases S8.up S.size (S.toks.drop (i + 1)) with
  | out=>rfl
  | err a=>rfl
  | ok t r=>
   simp only
   unfold ZfV ZtN S8.many1
   cases S8.list lim S8.mLp What.field S8.mRp S.size r with
   | out=>rfl
   | err a=>rfl
   | ok l r=>
    simp only [S8.Zac,S8.Zae]
    cases S8.ZaC S8.ZbU S.size r with
    | out=>rfl
    | err a=>rfl
    | ok c r=>
     cases c with
     | true=>
      simp only [if_true]
      cases S8.must S8.ZbU S.size r with
      | out=>rfl
      | err a=>rfl
      | ok u r=>
       simp only [S8.Zb5]
       cases S8.must S8.mLb S.size r with
       | out=>rfl
       | err a=>rfl
       | ok u r=>rfl
     | false=>
      simp only [Bool.false_eq_true,if_false]
      cases S8.ZaC S8.Zcl S.size r with
      | out=>rfl
      | err a=>rfl
      | ok c r=>
       cases c with
       | true=>
        simp only [if_true]
        cases S8.must S8.Zcl S.size r with
        | out=>rfl
        | err a=>rfl
        | ok u r=>
         simp only
         cases S8.number S.size r with
         | out=>rfl
         | err a=>rfl
         | ok n r=>
          simp only [S8.Zb5]
          cases S8.must S8.mLb S.size r with
          | out=>rfl
          | err a=>rfl
          | ok u r=>rfl
       | false=>
        simp only [Bool.false_eq_true,if_false,S8.Zb5]
        cases S8.must S8.mLb S.size r with
        | out=>rfl
        | err a=>rfl
        | ok u r=>rfl)
 have HMm:=hid HMe
 clear HMe
 have HP:=hid hp
 have HW:=hid hw
 clear hw
 have B0:=ZaH b S i false _ (hp.alloc (.cells z5 24)) 6
 obtain ⟨pl,hpl⟩:∃pl,pl=place S i:=⟨_,rfl⟩
 rw [← hpl] at HM B0
 have HPL:=hid hpl
 have hle:=hp.le
 clear hp hpl
 go_enter func81,ntmps81
 go_wp2_with (first
  | (go_at_call 123;(with_reducible refine B0.mono ?_);rintro e w1 ⟨rfl,h1⟩;have F1:=hid (Fn.start HP.out h1 6 0 pl);clear h1;have C1:=Za6 b S i false _ F1.out.ps ⟨#[97,99,116,111,114]⟩ HW.out (by decide))
  | (go_at_call 119;(with_reducible refine C1.mono ?_);rintro e w2 ⟨rfl,p,g⟩;have F2:=hid (F1.out.call g p);clear g p C1;have C2:=ZbO b S (i + 1) false _ F2.out.ps)
  | (go_at_call 124;(with_reducible refine C2.mono ?_);rintro e w3 h1;rcases h1.ways with ⟨a,j,h',e1,rfl,g,p,rfl⟩ | ⟨t,j3,v,e1,rfl,g,hj3,p,rfl⟩;exact ⟨rfl,Post.err (HM.out _ (by simp only [S8.Zac,e1])) (Zaa F2.out.fr g (.inl rfl)) p⟩;have F3:=hid (F2.out.call g p);have E3:=hid e1;have hl3:=ZaT S8.Zbj e1;clear h1 e1 g p C2)
  | (refine Zbk F3.out t rfl _ _ rfl rfl rfl ?_;intro w4 h1;have F4:=hid h1;clear h1;have C3:=Zd5 b S false _ j3 F4.out.ps)
  | (go_at_call 139;(with_reducible refine C3.mono ?_);rintro e w5 h1;rcases h1.ways with ⟨a,j,h',e1,rfl,g,p,rfl⟩ | ⟨l,j5,v5,e1,rfl,g,hj5,p,ho,hc5⟩;exact ⟨rfl,Post.err (HM.out _ (by simp only [S8.Zac,E3.out,e1])) (Zaa F4.out.fr g (.inl rfl)) p⟩;have F5:=hid (F4.out.call g p);have G5:=hid ho;have E5:=hid e1;have Q5:=hid g.size;clear h1 e1 g p ho C3)
  | (refine Za7 F5.out (G5.out.weak F4.out.size) rfl _ _ rfl rfl rfl ?_;intro w6 h1;have F6:=hid h1;clear h1;have C4:=Zwj b S false _ j5 F6.out.ps)
  | (go_at_call 140;(with_reducible refine C4.mono ?_);rintro e w7 h1;rcases h1.ways with ⟨a,j,h',e1,rfl,g,p,rfl⟩ | ⟨q,j7,v,e1,rfl,g,hj7,p,rfl⟩;exact ⟨rfl,Post.err (HM.out _ (by simp only [S8.Zac,E3.out,E5.out,e1])) (Zaa F6.out.fr g (.inl rfl)) p⟩;have F7:=hid (F6.out.call g p);have E7:=hid e1;clear h1 e1 g p C4)
  | (refine Zh4 F7.out q rfl _ _ rfl rfl rfl ?_;intro w8 h1;have F8:=hid h1;clear h1;have C5:Calls prog 119 #[.pointer (some ⟨b,0,none⟩),.string ⟨#[123]⟩] _ (Post _ b S j7 false (S8.must S8.mLb S.size (S.toks.drop j7)) fun _ v _=>v=.tuple #[]):=Zbd b S j7 false _ F8.out.ps ⟨#[123]⟩ (by decide))
  | (go_at_call 119;(with_reducible refine C5.mono ?_);rintro e w9 h1;rcases h1.ways with ⟨a,j,h',e1,rfl,g,p,rfl⟩ | ⟨u9,j9,v,e1,rfl,g,hj9,p,rfl⟩;exact ⟨rfl,Post.err (HM.out _ (by simp only [S8.Zac,E3.out,E5.out,E7.out,e1])) (Zaa F8.out.fr g (.inl rfl)) p⟩;have F9:=hid (F8.out.call g p);have E9:=hid e1;have hl9:=ZaT (S8.Zal _) e1;clear h1 e1 g p C5))
 have U9:=F9.out.nd.at_ 4
 refine r2 (fun W=>W.cell? ⟨w1.heap.size,4,none⟩=some (v5)) (fun j=>decide (j < 7)) [0,1,2,3,4] [5,6,7,8] U9 ?_
 refine fs (.pointer (some ⟨w1.heap.size,4,none⟩)) rfl ?_
 refine fs (v5) rfl ?_
 refine fs (.pointer (some ⟨b,0,none⟩)) rfl ?_
 refine fs (.pointer (some ⟨b,0,none⟩)) rfl ?_
 refine Zab (.func (.func 142) #[.pointer (some ⟨b,0,none⟩)] #[]) rfl (by rfl) (fun W hS=>by first | (go_simp;done) | (simp [execOp,Instr.makeFunc,go_sem,Act.put];done)) ?_
 refine Zap ?_
 clear U9
 have F10:=hid (F9.out.look (Below.refl _ _).drew)
 have C6:=show Calls prog 141 #[.pointer (some ⟨b,0,none⟩),.func (.func 142) #[.pointer (some ⟨b,0,none⟩)] #[]] _ (Post _ b S j9 false (lim (.many .member false) S.size (S.toks.drop j9)) (Zim _)) from ZkR N 142 b S false .member ent142 HMm.out _ j9 F10.out.ps (by omega)
 refine cs rfl fun K9 HK9=>?_
 go_wp2_with (go_at_call 141;(with_reducible refine C6.mono ?_);rintro e w11 h1;rcases h1.ways with ⟨a,j,h',e1,rfl,g,p,rfl⟩ | ⟨m,j11,v11,e1,rfl,g,hj11,p,ho,hc11⟩;exact ⟨rfl,Post.err (HM.out _ (by simp only [S8.Zac,E3.out,E5.out,E7.out,E9.out,e1])) (Zaa F10.out.fr g (.inl rfl)) p⟩;have F11:=hid (F10.out.call g p);have G11:=hid ho;have E11:=hid e1;clear h1 e1 g p ho C6)
 refine HK9.out _ _ (fun _=>F11.out.nd.at_ 4) ?_
 refine cs rfl fun K9 HK9=>?_
 refine Ze4 (base:=w1.heap.size + 1) F11.out.row G11.out ?le ?lt ?len ?hb rfl (.tmp 20) (.tmp 24) rfl rfl rfl ?_
 case le=>exact F10.out.size
 case lt=>exact fun g hg=>(F10.out.row.lt hg).2
 case len=>omega
 case hb=>exact F11.out.size
 intro v12 w12 h1 h2
 have F12:=hid (And.intro (F11.out.turn h2) h1)
 clear h1 h2
 refine HK9.out _ _ (fun _=>F12.out.1.nd.at_ 4) ?_
 refine cs rfl fun K9 HK9=>?_
 go_wp2_with fail
 refine HK9.out _ _ (fun h=>by cases h) ?_
 refine cs rfl fun K9 HK9=>?_
 refine ZbX F12.out.1 F12.out.2 rfl _ _ rfl rfl rfl ?_
 intro w13 h1
 have F13:=hid h1
 clear h1
 refine HK9.out _ _ (fun h=>by cases h) ?_
 refine Zam ?_
 go_wp2_with (first
  | (refine Zax F13.out rfl _ rfl rfl ?_)
  | (refine Zaw F13.out rfl _ _ rfl rfl rfl ?_;intro w14 h1 h2 h3 h4;have F14:=hid (And.intro h1 (And.intro h2 (And.intro h3 h4)));clear h1 h2 h3 h4))
 refine ret24 results81 F14.out.1
  (Post.ok (j:=j11) (HM.out _ (by (try simp only [S8.Zac,E3.out,E5.out,E7.out,E9.out,E11.out]);rfl)) F14.out.2.1 F14.out.2.2.1 (by omega) F14.out.2.2.2)
theorem Zn7 (N b:Nat) (S:Pg) (w:World) (i:Nat) (hp:Ps w b S i false) (hN:S.toks.length≤N + i) (hw:Zag S i=S8.Zcg) :
  Calls prog 45 #[.pointer (some ⟨b,0,none⟩)] w (Post w b S i false (single (lim .decl) S.size (S.toks.drop i)) (ZaO w)):=by
 have HW:=hid hw
 have HP:=hid hp
 have F0:=hid (And.intro (hp.alloc (.cells z5 24)) (And.intro (Is.fresh w 24 z5) (Zaj (r:=some b) ((Below.refl w.heap.size w).alloc (Nat.le_refl _) (.cells z5 24)))))
 have WD:=Zau b S i false _ F0.out.1
 have WD:Calls prog 60 #[.pointer (some ⟨b,0,none⟩)] (w.alloc (.cells z5 24)) fun e w'=>e=.returned (.string ⟨#[114,101,99,111,114,100]⟩)∧Below (w.alloc (.cells z5 24)).heap.size (w.alloc (.cells z5 24)) w':=by
  rw [hw] at WD;exact WD
 clear hp hw
 go_enter func45,ntmps45
 go_wp2_with (first
  | (go_at_call 60;(with_reducible refine WD.mono ?_);rintro e w1 ⟨rfl,h1⟩;have p1:=F0.out.1.below h1 F0.out.1.lt;have F1:=hid (And.intro p1 (And.intro (F0.out.2.1.below h1 F0.out.2.1.lt) (Zan F0.out.2.2 (h1.mono F0.out.2.2.size))));have C1:=ZpI N b S _ i p1 hN HW.out;clear h1 p1 WD)
  | (go_at_call 77;(with_reducible refine C1.mono ?_);rintro e w2 h1;rcases h1.ways with ⟨a,j,h',e1,rfl,g,p,rfl⟩ | ⟨x,j1,v,e1,rfl,g,hj1,p,r,rfl,ho⟩;exact ⟨rfl,Post.err (e1) (Zaa F1.out.2.2 g (.inl rfl)) p⟩;have hbb:=HP.out.lt;have F2:=hid (And.intro p (And.intro (Zaa F1.out.2.2 g (.inl rfl)) (And.intro (F1.out.2.1.kept g (by simp;omega)) (And.intro (ho.weak F1.out.2.1.lt) e1))));clear h1 e1 g p ho C1)
  | (refine Zah F2.out.2.2.1 rfl 24 _ _ rfl (nd5 x.k x.t x.n x.a r) rfl rfl inf24 rfl (by have h1:=F2.out.2.2.2.1.one;simp [nd5,h1];exact ⟨rfl,rfl,rfl,rfl⟩) ?_;intro w3 h1 h2;have F3:=hid (And.intro h1 h2);clear h1 h2))
 refine ret24 results45 F3.out.1
  (Post.ok (j:=j1) (x:=x) (F2.out.2.2.2.2) (Zaa F2.out.2.1 F3.out.2 (.inr fun j e=>by injection e with e;omega)) (F2.out.1.kept F3.out.2 hbb) hj1 ⟨r,rfl,(F2.out.2.2.2.1.grown F3.out.2 (by omega)).weak (by omega)⟩)
theorem ZmN (N b:Nat) (S:Pg) (w:World) (i:Nat) (hp:Ps w b S i false) (hN:S.toks.length≤N + i) (hw:Zag S i=S8.ZbS) :
  Calls prog 45 #[.pointer (some ⟨b,0,none⟩)] w (Post w b S i false (single (lim .decl) S.size (S.toks.drop i)) (ZaO w)):=by
 have HW:=hid hw
 have HP:=hid hp
 have F0:=hid (And.intro (hp.alloc (.cells z5 24)) (And.intro (Is.fresh w 24 z5) (Zaj (r:=some b) ((Below.refl w.heap.size w).alloc (Nat.le_refl _) (.cells z5 24)))))
 have WD:=Zau b S i false _ F0.out.1
 have WD:Calls prog 60 #[.pointer (some ⟨b,0,none⟩)] (w.alloc (.cells z5 24)) fun e w'=>e=.returned (.string ⟨#[118,97,114,105,97,110,116]⟩)∧Below (w.alloc (.cells z5 24)).heap.size (w.alloc (.cells z5 24)) w':=by
  rw [hw] at WD;exact WD
 clear hp hw
 go_enter func45,ntmps45
 go_wp2_with (first
  | (go_at_call 60;(with_reducible refine WD.mono ?_);rintro e w1 ⟨rfl,h1⟩;have p1:=F0.out.1.below h1 F0.out.1.lt;have F1:=hid (And.intro p1 (And.intro (F0.out.2.1.below h1 F0.out.2.1.lt) (Zan F0.out.2.2 (h1.mono F0.out.2.2.size))));have C1:=Zm6 N b S _ i p1 hN HW.out;clear h1 p1 WD)
  | (go_at_call 78;(with_reducible refine C1.mono ?_);rintro e w2 h1;rcases h1.ways with ⟨a,j,h',e1,rfl,g,p,rfl⟩ | ⟨x,j1,v,e1,rfl,g,hj1,p,r,rfl,ho⟩;exact ⟨rfl,Post.err (e1) (Zaa F1.out.2.2 g (.inl rfl)) p⟩;have hbb:=HP.out.lt;have F2:=hid (And.intro p (And.intro (Zaa F1.out.2.2 g (.inl rfl)) (And.intro (F1.out.2.1.kept g (by simp;omega)) (And.intro (ho.weak F1.out.2.1.lt) e1))));clear h1 e1 g p ho C1)
  | (refine Zah F2.out.2.2.1 rfl 24 _ _ rfl (nd5 x.k x.t x.n x.a r) rfl rfl inf24 rfl (by have h1:=F2.out.2.2.2.1.one;simp [nd5,h1];exact ⟨rfl,rfl,rfl,rfl⟩) ?_;intro w3 h1 h2;have F3:=hid (And.intro h1 h2);clear h1 h2))
 refine ret24 results45 F3.out.1
  (Post.ok (j:=j1) (x:=x) (F2.out.2.2.2.2) (Zaa F2.out.2.1 F3.out.2 (.inr fun j e=>by injection e with e;omega)) (F2.out.1.kept F3.out.2 hbb) hj1 ⟨r,rfl,(F2.out.2.2.2.1.grown F3.out.2 (by omega)).weak (by omega)⟩)
theorem Zn8 (N b:Nat) (S:Pg) (w:World) (i:Nat) (hp:Ps w b S i false) (hN:S.toks.length≤N + i) (hw:Zag S i=S8.Zct) :
  Calls prog 45 #[.pointer (some ⟨b,0,none⟩)] w (Post w b S i false (single (lim .decl) S.size (S.toks.drop i)) (ZaO w)):=by
 have HW:=hid hw
 have HP:=hid hp
 have F0:=hid (And.intro (hp.alloc (.cells z5 24)) (And.intro (Is.fresh w 24 z5) (Zaj (r:=some b) ((Below.refl w.heap.size w).alloc (Nat.le_refl _) (.cells z5 24)))))
 have WD:=Zau b S i false _ F0.out.1
 have WD:Calls prog 60 #[.pointer (some ⟨b,0,none⟩)] (w.alloc (.cells z5 24)) fun e w'=>e=.returned (.string ⟨#[101,102,102,101,99,116]⟩)∧Below (w.alloc (.cells z5 24)).heap.size (w.alloc (.cells z5 24)) w':=by
  rw [hw] at WD;exact WD
 clear hp hw
 go_enter func45,ntmps45
 go_wp2_with (first
  | (go_at_call 60;(with_reducible refine WD.mono ?_);rintro e w1 ⟨rfl,h1⟩;have p1:=F0.out.1.below h1 F0.out.1.lt;have F1:=hid (And.intro p1 (And.intro (F0.out.2.1.below h1 F0.out.2.1.lt) (Zan F0.out.2.2 (h1.mono F0.out.2.2.size))));have C1:=Zqc N b S _ i p1 hN HW.out;clear h1 p1 WD)
  | (go_at_call 79;(with_reducible refine C1.mono ?_);rintro e w2 h1;rcases h1.ways with ⟨a,j,h',e1,rfl,g,p,rfl⟩ | ⟨x,j1,v,e1,rfl,g,hj1,p,r,rfl,ho⟩;exact ⟨rfl,Post.err (e1) (Zaa F1.out.2.2 g (.inl rfl)) p⟩;have hbb:=HP.out.lt;have F2:=hid (And.intro p (And.intro (Zaa F1.out.2.2 g (.inl rfl)) (And.intro (F1.out.2.1.kept g (by simp;omega)) (And.intro (ho.weak F1.out.2.1.lt) e1))));clear h1 e1 g p ho C1)
  | (refine Zah F2.out.2.2.1 rfl 24 _ _ rfl (nd5 x.k x.t x.n x.a r) rfl rfl inf24 rfl (by have h1:=F2.out.2.2.2.1.one;simp [nd5,h1];exact ⟨rfl,rfl,rfl,rfl⟩) ?_;intro w3 h1 h2;have F3:=hid (And.intro h1 h2);clear h1 h2))
 refine ret24 results45 F3.out.1
  (Post.ok (j:=j1) (x:=x) (F2.out.2.2.2.2) (Zaa F2.out.2.1 F3.out.2 (.inr fun j e=>by injection e with e;omega)) (F2.out.1.kept F3.out.2 hbb) hj1 ⟨r,rfl,(F2.out.2.2.2.1.grown F3.out.2 (by omega)).weak (by omega)⟩)
theorem Zuz (N b:Nat) (S:Pg) (HE:∀h,Does N 138 b S h (single (lim (.expr h)))) (w:World) (i:Nat) (hp:Ps w b S i false) (hN:S.toks.length≤N + i) (hw:Zag S i=S8.Zd7) :
  Calls prog 45 #[.pointer (some ⟨b,0,none⟩)] w (Post w b S i false (single (lim .decl) S.size (S.toks.drop i)) (ZaO w)):=by
 have HW:=hid hw
 have HC:=hid HE
 have HP:=hid hp
 have F0:=hid (And.intro (hp.alloc (.cells z5 24)) (And.intro (Is.fresh w 24 z5) (Zaj (r:=some b) ((Below.refl w.heap.size w).alloc (Nat.le_refl _) (.cells z5 24)))))
 have WD:=Zau b S i false _ F0.out.1
 have WD:Calls prog 60 #[.pointer (some ⟨b,0,none⟩)] (w.alloc (.cells z5 24)) fun e w'=>e=.returned (.string ⟨#[102,117,110]⟩)∧Below (w.alloc (.cells z5 24)).heap.size (w.alloc (.cells z5 24)) w':=by
  rw [hw] at WD;exact WD
 clear hp hw HE
 go_enter func45,ntmps45
 go_wp2_with (first
  | (go_at_call 60;(with_reducible refine WD.mono ?_);rintro e w1 ⟨rfl,h1⟩;have p1:=F0.out.1.below h1 F0.out.1.lt;have F1:=hid (And.intro p1 (And.intro (F0.out.2.1.below h1 F0.out.2.1.lt) (Zan F0.out.2.2 (h1.mono F0.out.2.2.size))));have C1:=Zn1 N b S HC.out _ i p1 hN HW.out;clear h1 p1 WD)
  | (go_at_call 80;(with_reducible refine C1.mono ?_);rintro e w2 h1;rcases h1.ways with ⟨a,j,h',e1,rfl,g,p,rfl⟩ | ⟨x,j1,v,e1,rfl,g,hj1,p,r,rfl,ho⟩;exact ⟨rfl,Post.err (e1) (Zaa F1.out.2.2 g (.inl rfl)) p⟩;have hbb:=HP.out.lt;have F2:=hid (And.intro p (And.intro (Zaa F1.out.2.2 g (.inl rfl)) (And.intro (F1.out.2.1.kept g (by simp;omega)) (And.intro (ho.weak F1.out.2.1.lt) e1))));clear h1 e1 g p ho C1)
  | (refine Zah F2.out.2.2.1 rfl 24 _ _ rfl (nd5 x.k x.t x.n x.a r) rfl rfl inf24 rfl (by have h1:=F2.out.2.2.2.1.one;simp [nd5,h1];exact ⟨rfl,rfl,rfl,rfl⟩) ?_;intro w3 h1 h2;have F3:=hid (And.intro h1 h2);clear h1 h2))
 refine ret24 results45 F3.out.1
  (Post.ok (j:=j1) (x:=x) (F2.out.2.2.2.2) (Zaa F2.out.2.1 F3.out.2 (.inr fun j e=>by injection e with e;omega)) (F2.out.1.kept F3.out.2 hbb) hj1 ⟨r,rfl,(F2.out.2.2.2.1.grown F3.out.2 (by omega)).weak (by omega)⟩)
theorem Zqf (N b:Nat) (S:Pg) (HMe:Does N 142 b S false (single (lim (.one .member)))) (w:World) (i:Nat) (hp:Ps w b S i false) (hN:S.toks.length≤N + i) (hw:Zag S i=S8.ZbV) :
  Calls prog 45 #[.pointer (some ⟨b,0,none⟩)] w (Post w b S i false (single (lim .decl) S.size (S.toks.drop i)) (ZaO w)):=by
 have HW:=hid hw
 have HC:=hid HMe
 have HP:=hid hp
 have F0:=hid (And.intro (hp.alloc (.cells z5 24)) (And.intro (Is.fresh w 24 z5) (Zaj (r:=some b) ((Below.refl w.heap.size w).alloc (Nat.le_refl _) (.cells z5 24)))))
 have WD:=Zau b S i false _ F0.out.1
 have WD:Calls prog 60 #[.pointer (some ⟨b,0,none⟩)] (w.alloc (.cells z5 24)) fun e w'=>e=.returned (.string ⟨#[97,99,116,111,114]⟩)∧Below (w.alloc (.cells z5 24)).heap.size (w.alloc (.cells z5 24)) w':=by
  rw [hw] at WD;exact WD
 clear hp hw HMe
 go_enter func45,ntmps45
 go_wp2_with (first
  | (go_at_call 60;(with_reducible refine WD.mono ?_);rintro e w1 ⟨rfl,h1⟩;have p1:=F0.out.1.below h1 F0.out.1.lt;have F1:=hid (And.intro p1 (And.intro (F0.out.2.1.below h1 F0.out.2.1.lt) (Zan F0.out.2.2 (h1.mono F0.out.2.2.size))));have C1:=ZsR N b S HC.out _ i p1 hN HW.out;clear h1 p1 WD)
  | (go_at_call 81;(with_reducible refine C1.mono ?_);rintro e w2 h1;rcases h1.ways with ⟨a,j,h',e1,rfl,g,p,rfl⟩ | ⟨x,j1,v,e1,rfl,g,hj1,p,r,rfl,ho⟩;exact ⟨rfl,Post.err (e1) (Zaa F1.out.2.2 g (.inl rfl)) p⟩;have hbb:=HP.out.lt;have F2:=hid (And.intro p (And.intro (Zaa F1.out.2.2 g (.inl rfl)) (And.intro (F1.out.2.1.kept g (by simp;omega)) (And.intro (ho.weak F1.out.2.1.lt) e1))));clear h1 e1 g p ho C1)
  | (refine Zah F2.out.2.2.1 rfl 24 _ _ rfl (nd5 x.k x.t x.n x.a r) rfl rfl inf24 rfl (by have h1:=F2.out.2.2.2.1.one;simp [nd5,h1];exact ⟨rfl,rfl,rfl,rfl⟩) ?_;intro w3 h1 h2;have F3:=hid (And.intro h1 h2);clear h1 h2))
 refine ret24 results45 F3.out.1
  (Post.ok (j:=j1) (x:=x) (F2.out.2.2.2.2) (Zaa F2.out.2.1 F3.out.2 (.inr fun j e=>by injection e with e;omega)) (F2.out.1.kept F3.out.2 hbb) hj1 ⟨r,rfl,(F2.out.2.2.2.1.grown F3.out.2 (by omega)).weak (by omega)⟩)
theorem Zsm (b:Nat) (S:Pg) (w:World) (i:Nat) (hp:Ps w b S i false) (hne:∀s,s∈[S8.Zcg,S8.ZbS,S8.Zct,S8.Zd7,S8.ZbV]→Zag S i≠s) :
  Calls prog 45 #[.pointer (some ⟨b,0,none⟩)] w (Post w b S i false (single (lim .decl) S.size (S.toks.drop i)) (ZaO w)):=by
 have HM:Hid (single (lim .decl) S.size (S.toks.drop i)=.err (place S i)):=hid (by
  have k0:=hne S8.Zcg (by simp)
  have k1:=hne S8.ZbS (by simp)
  have k2:=hne S8.Zct (by simp)
  have k3:=hne S8.Zd7 (by simp)
  have k4:=hne S8.ZbV (by simp)
  rw [ZfW]
  unfold S8.decl
  refine ZaN ?_ (fun _=>rfl)
  simp only [S8.Zac,S8.Zae,Zaf S i (show S8.Zcg≠[] by decide),Zaf S i (show S8.ZbS≠[] by decide),Zaf S i (show S8.Zct≠[] by decide),Zaf S i (show S8.Zd7≠[] by decide),k0,k1,k2,k3,k4,decide_false,Bool.false_eq_true,if_false,Zay S i (show S8.ZbV≠[] by decide)])
 have F0:=hid (And.intro (hp.alloc (.cells z5 24)) (Zaj (r:=some b) ((Below.refl w.heap.size w).alloc (Nat.le_refl _) (.cells z5 24))))
 have WD:=Zau b S i false _ F0.out.1
 obtain ⟨u,hu⟩:∃u,u=mk (Zag S i):=⟨_,rfl⟩
 rw [← hu] at WD
 have n0:(u.toList == [114,101,99,111,114,100])=false:=by rw [hu,Zas,Zbc];exact beq_eq_false_iff_ne.2 (hne S8.Zcg (by simp))
 have n1:(u.toList == [118,97,114,105,97,110,116])=false:=by rw [hu,Zas,Zbc];exact beq_eq_false_iff_ne.2 (hne S8.ZbS (by simp))
 have n2:(u.toList == [101,102,102,101,99,116])=false:=by rw [hu,Zas,Zbc];exact beq_eq_false_iff_ne.2 (hne S8.Zct (by simp))
 have n3:(u.toList == [102,117,110])=false:=by rw [hu,Zas,Zbc];exact beq_eq_false_iff_ne.2 (hne S8.Zd7 (by simp))
 have n4:(u.toList == [97,99,116,111,114])=false:=by rw [hu,Zas,Zbc];exact beq_eq_false_iff_ne.2 (hne S8.ZbV (by simp))
 clear hu
 clear hp hne
 go_enter func45,ntmps45
 go_wp2_with (go_at_call 60;(with_reducible refine WD.mono ?_);rintro e w1 ⟨rfl,h1⟩;have F1:=hid (And.intro (F0.out.1.below h1 F0.out.1.lt) (Zan F0.out.2 (h1.mono F0.out.2.size)));clear h1 WD)
 exact ⟨rfl,Post.err HM.out F1.out.2 F1.out.1⟩
theorem Zsn (N b:Nat) (S:Pg) (HE:∀h,Does N 138 b S h (single (lim (.expr h)))) (HMe:Does N 142 b S false (single (lim (.one .member)))):Does (N + 1) 45 b S false (single (lim .decl)):=fun w i hp hN=>by
 by_cases h1:Zag S i=S8.Zcg
 ·exact Zn7 N b S w i hp (by omega) h1
 ·by_cases h2:Zag S i=S8.ZbS
  ·exact ZmN N b S w i hp (by omega) h2
  ·by_cases h3:Zag S i=S8.Zct
   ·exact Zn8 N b S w i hp (by omega) h3
   ·by_cases h4:Zag S i=S8.Zd7
    ·exact Zuz N b S HE w i hp (by omega) h4
    ·by_cases h5:Zag S i=S8.ZbV
     ·exact Zqf N b S HMe w i hp (by omega) h5
     ·exact Zsm b S w i hp (fun s hs=>by
       simp only [List.mem_cons,List.not_mem_nil,or_false] at hs
       rcases hs with rfl | rfl | rfl | rfl | rfl <;> assumption)
end Go.Proofs.YtaheffiglmglbaaGreatDoor
