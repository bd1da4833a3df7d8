import Derived.Test.YtaheffiglmglbaaGreatDoorProg
import Derived.WalkKit
import Derived.WalkSpells
import Derived.Below
import Derived.OwnWalk
import Derived.Deep.Draws
import Derived.Lib.Hide
import Derived.Outline
import Derived.Deep.DeepFit
import Derived.Handy
import Derived.Deep.AppendLies
import Derived.Lib.AppendStr
import Derived.Lib.BufferRead
import Derived.Deep.QuietTactic
import Derived.BigQuiet
import Derived.Shelf.Lays
import Derived.Shelf.Strings.BuilderK
import Derived.Shelf.LaysM
import Derived.Shelf.LaysC
import Derived.Shelf.Small.Strs
import Derived.Shelf.Strings.Prefix
import Derived.Shelf.Strconv.Itoa3
import Derived.Shelf.Strconv.AtoiAll
import Derived.Shelf.Strconv.ErrVarAll
import Derived.Lib.ItoaNum
import Derived.Lib.AtoiAll
import Derived.Laws.RangeAny
import Derived.Lib.IndexBytes
import Derived.Lib.SmallJoins
import Derived.Lib.AppendIntMem
import Derived.Lib.AtoiErrMem
/- Mem, Build, Shelf, Dec, Canon, Parse. -/
set_option maxHeartbeats 8000000
set_option maxRecDepth 20000
namespace Go.Proofs.YtaheffiglmglbaaGreatDoor
open Go.Proofs.Tryz
open Go.RowKit
abbrev z5:Array Value:=#[.int .i64 0,.string ⟨#[]⟩,.int .i64 0,.int .i64 0,.slice none 0 0]
theorem hid {p:Prop} (h:p):Hid p:=Lib.hid h
def Is (w:World) (g:Nat) (t:TypeId) (c:Array Value):Prop:=w.heap[g]?=some (.cells c t (0,0))
section
variable {w w1 w2:World} {g:Nat} {t:TypeId} {c:Array Value}
theorem Is.lt (h:Is w g t c):g < w.heap.size:=by
 by_cases hg:g < w.heap.size
 ·exact hg
 ·exfalso
  unfold Is at h
  rw [Array.getElem?_eq_none (by omega)] at h
  cases h
theorem Is.at_ (h:Is w g t c) (i:Nat):w.cell? ⟨g,i,none⟩=c[i]?:=cell_of_row w g i c t (0,0) h
theorem Is.open_ (h:Is w g t c) (i:Nat):w.frozen? ⟨g,i,none⟩=false:=by
 unfold Is at h
 simp [World.frozen?,h]
theorem Is.put (h:Is w g t c) (i:Nat) (u:Value):Is (w.setCell ⟨g,i,none⟩ u) g t (c.setIfInBounds i u):=by
 unfold Is at h ⊢
 simp [World.setCell,Array.getElem?_modify,h]
theorem Is.away (h:Is w g t c) {a:Addr} (ha:g≠a.block) (u:Value):Is (w.setCell a u) g t c:=(Below.heap_setCell w a u g ha).trans h
theorem Is.fresh (w:World) (t:TypeId) (c:Array Value):Is (w.alloc (.cells c t)) w.heap.size t c:=heap_alloc_new w _
theorem Is.alloc (h:Is w g t c) (o:Obj):Is (w.alloc o) g t c:=(Below.heap_alloc w o g h.lt).trans h
theorem Is.below {B:Nat} (h:Is w g t c) (hb:Below B w w1) (hg:g < B):Is w1 g t c:=(hb.block g hg).trans h
theorem Is.kept {row:Option Nat} (h:Is w g t c) (hb:w.grownBy w1 row) (hg:some g≠row):Is w1 g t c:=(hb.block g h.lt hg).trans h
theorem Is.apart {g':Nat} {t':TypeId} {c':Array Value} (h:Is w g t c) (h':Is w g' t' c') (ht:t≠t'):g≠g':=by
 intro e
 subst e
 unfold Is at h h'
 rw [h] at h'
 simp only [Option.some.injEq,Obj.cells.injEq] at h'
 exact ht h'.2.1
theorem Is.row_apart {base:Nat} {e:TypeId} {size n:Nat} {v:Value} {xs:List Value} (h:w.ownsRow base e size v n xs) (hg:Is w g t c) (ht:e≠t):some g≠v.ownBlock:=by
 rcases h.2 with ⟨rfl,_⟩ | ⟨g',cap,cur,rfl,_,hh,_⟩
 ·simp [Value.ownBlock]
 ·intro he
  have hgg:g=g':=by simpa [Value.ownBlock] using he
  subst hgg
  exact Is.apart (t:=e) (c:=cur) (g:=g) (g':=g) hh hg ht rfl
theorem Zaa {r r':Option Nat} (h:w.grownBy w1 r) (k:w1.grownBy w2 r') (hr:r'=r∨∀b,r'=some b→w.heap.size≤b):w.grownBy w2 r:=
 ⟨k.os.trans h.os,k.tape.trans h.tape,k.output.trans h.output,Nat.le_trans h.size k.size,fun i hi hne=>
  (k.block i (Nat.lt_of_lt_of_le hi h.size) (by
   rcases hr with rfl | hr
   ·exact hne
   ·intro e;have:=hr i e.symm;omega)).trans (h.block i hi hne)⟩
theorem Zan {r:Option Nat} (h:w.grownBy w1 r) (k:Below w.heap.size w1 w2):w.grownBy w2 r:=
 ⟨k.os.trans h.os,k.tape.trans h.tape,k.output.trans h.output,Nat.le_trans h.size k.size,fun i hi hne=>(k.block i hi).trans (h.block i hi hne)⟩
theorem Zaj {r:Option Nat} (k:Below w.heap.size w w1):w.grownBy w1 r:=Zan (World.grownBy.refl w r) k
theorem ZcJ {b:Nat} (h:w.grownBy w1 (some b)) (i:Nat) (u:Value):w.grownBy (w1.setCell ⟨b,i,none⟩ u) (some b):=
 ⟨h.os,h.tape,h.output,by simpa [World.setCell] using h.size,fun k hk hne=>(Below.heap_setCell w1 ⟨b,i,none⟩ u k (by
  intro e;apply hne;rw [e])).trans (h.block k hk hne)⟩
theorem Zbl {r:Option Nat} (h:w.grownBy w1 r) (o:Obj):w.grownBy (w1.alloc o) r:=Zan h ((Below.refl _ _).alloc h.size o)
theorem Zbz {B:Nat} (h:Below B w w1) (n:Nat):Below B w (w1.drewN n):=⟨h.os,h.tape,h.output,h.size,h.block⟩
theorem ZbK {B b:Nat} (h:Below B w w1) (k:w1.grownBy w2 (some b)) (hb:B≤b) (hB:B≤w1.heap.size):Below B w w2:=
 h.grown k hB (fun j hj=>by injection hj with hj;omega)
end
def mk (l:List UInt8):ByteArray:=⟨l.toArray⟩
def ls (s:ByteArray):List UInt8:=s.data.toList
theorem Zt1 (s:ByteArray):mk (ls s)=s:=rfl
theorem Zbc (l:List UInt8):ls (mk l)=l:=rfl
theorem ZfK (l:List UInt8):(mk l).size=l.length:=rfl
theorem ZaR (s:ByteArray):(ls s).length=s.size:=rfl
theorem Zo2 {s t:ByteArray} (h:ls s=ls t):s=t:=by rw [← Zt1 s,h,Zt1]
theorem Zca (s:ByteArray) (k:Nat):s.extract k s.size=mk ((ls s).drop k):=by
 apply Zo2
 show (s.extract k s.size).data.toList=(ls s).drop k
 rw [ByteArray.data_extract,Array.toList_extract]
 rw [List.extract_eq_take_drop]
 apply List.take_of_length_le
 rw [List.length_drop]
 exact Nat.le_refl _
theorem Zfb (s:ByteArray) (k:Nat):s.extract 0 k=mk ((ls s).take k):=by
 apply Zo2
 show (s.extract 0 k).data.toList=(ls s).take k
 rw [ByteArray.data_extract,Array.toList_extract]
 rw [List.extract_eq_take_drop]
 rfl
end Go.Proofs.YtaheffiglmglbaaGreatDoor
namespace Go.Proofs
open Go.Shelf
def Tryz.bren:Go.Shelf.Ren:=⟨fun | 166=>42 | 167=>41 | 169=>44 | 170=>71 | 240=>74 | 276=>130 | n=>n,fun | 0=>0 | 3=>3 | 4=>4 | 5=>5 | 9=>9 | 20=>20 | 37=>62 | 70=>61 | 72=>64 | 75=>67 | 80=>72 | 164=>118 | 127=>101 | n=>n,fun n=>n⟩
theorem Tryz.lays166b:Go.Proofs.Lays.n166 prog Tryz.bren:={
 mixed:=by kernel_rfl
 f166:=func42.trans (congrArg some (by kernel_rfl))
 f240:=func74.trans (congrArg some (by kernel_rfl))
 f276:=func130.trans (congrArg some (by kernel_rfl))
 t0:=underlying0
 a0:=Tryz.isAgg0
 z0:=Tryz.sizeOf0
 v0:=Tryz.zeroValue0
 t3:=underlying3
 a3:=Tryz.isAgg3
 z3:=Tryz.sizeOf3
 v3:=Tryz.zeroValue3
 t4:=underlying4
 a4:=Tryz.isAgg4
 z4:=Tryz.sizeOf4
 v4:=Tryz.zeroValue4
 t9:=underlying9
 a9:=Tryz.isAgg9
 z9:=Tryz.sizeOf9
 v9:=Tryz.zeroValue9
 t20:=underlying20
 a20:=Tryz.isAgg20
 z20:=Tryz.sizeOf20
 v20:=Tryz.zeroValue20
 t37:=underlying62
 a37:=Tryz.isAgg62
 z37:=Tryz.sizeOf62
 v37:=Tryz.zeroValue62
 t70:=underlying61
 a70:=Tryz.isAgg61
 z70:=Tryz.sizeOf61
 v70:=Tryz.zeroValue61
 t72:=underlying64
 a72:=Tryz.isAgg64
 z72:=Tryz.sizeOf64
 v72:=Tryz.zeroValue64
 t75:=underlying67
 a75:=Tryz.isAgg67
 z75:=Tryz.sizeOf67
 v75:=Tryz.zeroValue67
 t164:=underlying118
 a164:=Tryz.isAgg118
 z164:=Tryz.sizeOf118
 v164:=Tryz.zeroValue118 }
theorem Tryz.lays167b:Go.Proofs.Lays.n167 prog Tryz.bren:={
 mixed:=by kernel_rfl
 f167:=func41.trans (congrArg some (by kernel_rfl))
 f240:=func74.trans (congrArg some (by kernel_rfl))
 f276:=func130.trans (congrArg some (by kernel_rfl))
 t0:=underlying0
 a0:=Tryz.isAgg0
 z0:=Tryz.sizeOf0
 v0:=Tryz.zeroValue0
 t4:=underlying4
 a4:=Tryz.isAgg4
 z4:=Tryz.sizeOf4
 v4:=Tryz.zeroValue4
 t5:=underlying5
 a5:=Tryz.isAgg5
 z5:=Tryz.sizeOf5
 v5:=Tryz.zeroValue5
 t9:=underlying9
 a9:=Tryz.isAgg9
 z9:=Tryz.sizeOf9
 v9:=Tryz.zeroValue9
 t20:=underlying20
 a20:=Tryz.isAgg20
 z20:=Tryz.sizeOf20
 v20:=Tryz.zeroValue20
 t37:=underlying62
 a37:=Tryz.isAgg62
 z37:=Tryz.sizeOf62
 v37:=Tryz.zeroValue62
 t70:=underlying61
 a70:=Tryz.isAgg61
 z70:=Tryz.sizeOf61
 v70:=Tryz.zeroValue61
 t72:=underlying64
 a72:=Tryz.isAgg64
 z72:=Tryz.sizeOf64
 v72:=Tryz.zeroValue64
 t75:=underlying67
 a75:=Tryz.isAgg67
 z75:=Tryz.sizeOf67
 v75:=Tryz.zeroValue67
 t164:=underlying118
 a164:=Tryz.isAgg118
 z164:=Tryz.sizeOf118
 v164:=Tryz.zeroValue118 }
theorem Tryz.lays169b:Go.Proofs.Lays.n169 prog Tryz.bren:={
 mixed:=by kernel_rfl
 f169:=func44.trans (congrArg some (by kernel_rfl))
 t0:=underlying0
 a0:=Tryz.isAgg0
 z0:=Tryz.sizeOf0
 v0:=Tryz.zeroValue0
 t3:=underlying3
 a3:=Tryz.isAgg3
 z3:=Tryz.sizeOf3
 v3:=Tryz.zeroValue3
 t9:=underlying9
 a9:=Tryz.isAgg9
 z9:=Tryz.sizeOf9
 v9:=Tryz.zeroValue9
 t37:=underlying62
 a37:=Tryz.isAgg62
 z37:=Tryz.sizeOf62
 v37:=Tryz.zeroValue62
 t70:=underlying61
 a70:=Tryz.isAgg61
 z70:=Tryz.sizeOf61
 v70:=Tryz.zeroValue61
 t72:=underlying64
 a72:=Tryz.isAgg64
 z72:=Tryz.sizeOf64
 v72:=Tryz.zeroValue64
 t127:=underlying101
 a127:=Tryz.isAgg101
 z127:=Tryz.sizeOf101
 v127:=Tryz.zeroValue101 }
theorem Tryz.lays170b:Go.Proofs.Lays.n170 prog Tryz.bren:={
 mixed:=by kernel_rfl
 f170:=func71.trans (congrArg some (by kernel_rfl))
 t0:=underlying0
 a0:=Tryz.isAgg0
 z0:=Tryz.sizeOf0
 v0:=Tryz.zeroValue0
 t3:=underlying3
 a3:=Tryz.isAgg3
 z3:=Tryz.sizeOf3
 v3:=Tryz.zeroValue3
 t37:=underlying62
 a37:=Tryz.isAgg62
 z37:=Tryz.sizeOf62
 v37:=Tryz.zeroValue62
 t70:=underlying61
 a70:=Tryz.isAgg61
 z70:=Tryz.sizeOf61
 v70:=Tryz.zeroValue61
 t72:=underlying64
 a72:=Tryz.isAgg64
 z72:=Tryz.sizeOf64
 v72:=Tryz.zeroValue64 }
theorem Tryz.bextra:Builder.Extra prog Tryz.bren:={
 sizeBuilder:=by kernel_rfl
 liesBuilder:=by kernel_rfl
 t5:=underlying5
 a5:=Tryz.isAgg5
 z5:=Tryz.sizeOf5
 v5:=Tryz.zeroValue5
 infoByte:=by kernel_rfl
 cellsByte:=by kernel_rfl
 sizeByte:=by kernel_rfl
 neB5:=by decide }
open Go.RowKit
theorem Tryz.WriteString_k (B b:Nat) (bs:List Value) (s:ByteArray) (w:World) (h:Lib.IsBuilderF 64 5 B b bs w) (hlen:bs.length + s.size≤140737488355328) (hBw:B≤w.heap.size) :
  Calls prog 42 #[.pointer (some ⟨b,0,none⟩),.string s] w fun e w'=>e=.returned (.tuple #[.int .i64 s.size,.nilIface])∧(Lib.BuilderAtF 64 5 B b (.pointer (some ⟨b,0,none⟩)) (bs++Lib.strCells s) w'∧Below B w w'∧Lib.OthersKept 5 (some b) w w'):=
 Any.Builder_WriteString_k Tryz.lays166b Tryz.bextra B b bs s w h hlen hBw
theorem Tryz.WriteByte_k (B b:Nat) (bs:List Value) (c:Int) (w:World) (h:Lib.IsBuilderF 64 5 B b bs w) (hlen:bs.length + 1≤140737488355328) (hBw:B≤w.heap.size) :
  Calls prog 41 #[.pointer (some ⟨b,0,none⟩),.int .u8 c] w fun e w'=>e=.returned .nilIface∧(Lib.BuilderAtF 64 5 B b (.pointer (some ⟨b,0,none⟩)) (bs++[.int .u8 c]) w'∧Below B w w'∧Lib.OthersKept 5 (some b) w w'):=
 Any.Builder_WriteByte_k Tryz.lays167b Tryz.bextra B b bs c w h hlen hBw
theorem Tryz.String_k (B b:Nat) (l:List UInt8) (w:World) (h:Lib.IsBuilderF 64 5 B b (Lib.byteCells l) w) (hBw:B≤w.heap.size) :
  Calls prog 44 #[.pointer (some ⟨b,0,none⟩)] w fun e w'=>e=.returned (.string ⟨l.toArray⟩)∧(Lib.IsBuilderF 64 5 B b (Lib.byteCells l) w'∧Below B w w'∧Lib.OthersKept 5 (some b) w w'):=
 Any.Builder_String_any_k Tryz.lays169b Tryz.bextra B b l w h hBw
theorem Tryz.Len_k (B b:Nat) (bs:List Value) (w:World) (h:Lib.IsBuilderF 64 5 B b bs w) :
  Calls prog 71 #[.pointer (some ⟨b,0,none⟩)] w fun e w'=>e=.returned (.int .i64 bs.length)∧w'=w:=
 Any.Builder_Len_f Tryz.lays170b B b bs w h
end Go.Proofs
namespace Go.Proofs
open Go.Shelf
def Tryz.lays137_ren:Go.Shelf.Ren:=⟨fun | 137=>127 | 217=>191 | 266=>233 | n=>n,fun | 9=>9 | 5=>5 | 3=>3 | n=>n,fun | n=>n⟩
theorem Tryz.lays137:Go.Proofs.Lays.n137 prog Tryz.lays137_ren:={
 mixed:=by kernel_rfl
 f137:=func127.trans (congrArg some (by kernel_rfl))
 f217:=func191.trans (congrArg some (by kernel_rfl))
 f266:=func233.trans (congrArg some (by kernel_rfl))
 t3:=underlying3
 a3:=Tryz.isAgg3
 z3:=Tryz.sizeOf3
 v3:=Tryz.zeroValue3
 t5:=underlying5
 a5:=Tryz.isAgg5
 z5:=Tryz.sizeOf5
 v5:=Tryz.zeroValue5
 t9:=underlying9
 a9:=Tryz.isAgg9
 z9:=Tryz.sizeOf9
 v9:=Tryz.zeroValue9 }
open Go.RowKit in
theorem Tryz.strings_IndexByte (s:ByteArray) (c:Int) (w:World) :
  Calls prog 127 #[.string s,.int .u8 c] w fun e w'=>e=.returned (.int .i64 (Lib.indexByte s.data.toList c.toNat.toUInt8))∧w'=w:=Any.strings_IndexByte Tryz.lays137 s c w
def Tryz.laysM171_ren:Go.Shelf.Ren:=⟨fun | 171=>131 | 243=>194 | 246=>239 | 283=>263 | 284=>264 | 285=>265 | 286=>266 | 129=>280 | 317=>279 | 318=>281 | 319=>282 | 320=>283 | 337=>301 | 338=>302 | n=>n,fun | 3=>3 | 9=>9 | 2=>2 | 4=>4 | 171=>158 | 0=>0 | 53=>151 | 37=>62 | 5=>5 | 173=>161 | 212=>170 | 51=>171 | 20=>20 | 213=>172 | 46=>154 | 232=>176 | 233=>177 | n=>n,fun | 17=>3 | 18=>4 | 19=>5 | n=>n⟩
theorem Tryz.laysM171:Go.Proofs.LaysM.n171 prog Tryz.laysM171_ren:={
 mixed:=by kernel_rfl
 f129:=func280.trans (congrArg some (by kernel_rfl))
 f171:=func131.trans (congrArg some (by kernel_rfl))
 f243:=func194.trans (congrArg some (by kernel_rfl))
 f246:=func239.trans (congrArg some (by kernel_rfl))
 f283:=func263.trans (congrArg some (by kernel_rfl))
 f284:=func264.trans (congrArg some (by kernel_rfl))
 f285:=func265.trans (congrArg some (by kernel_rfl))
 f286:=func266.trans (congrArg some (by kernel_rfl))
 f317:=func279.trans (congrArg some (by kernel_rfl))
 f318:=func281.trans (congrArg some (by kernel_rfl))
 f319:=func282.trans (congrArg some (by kernel_rfl))
 f320:=func283.trans (congrArg some (by kernel_rfl))
 f337:=func301.trans (congrArg some (by kernel_rfl))
 f338:=func302.trans (congrArg some (by kernel_rfl))
 t0:=underlying0
 a0:=Tryz.isAgg0
 z0:=Tryz.sizeOf0
 v0:=Tryz.zeroValue0
 t2:=underlying2
 a2:=Tryz.isAgg2
 z2:=Tryz.sizeOf2
 v2:=Tryz.zeroValue2
 t3:=underlying3
 a3:=Tryz.isAgg3
 z3:=Tryz.sizeOf3
 v3:=Tryz.zeroValue3
 t4:=underlying4
 a4:=Tryz.isAgg4
 z4:=Tryz.sizeOf4
 v4:=Tryz.zeroValue4
 t5:=underlying5
 a5:=Tryz.isAgg5
 z5:=Tryz.sizeOf5
 v5:=Tryz.zeroValue5
 t9:=underlying9
 a9:=Tryz.isAgg9
 z9:=Tryz.sizeOf9
 v9:=Tryz.zeroValue9
 t20:=underlying20
 a20:=Tryz.isAgg20
 z20:=Tryz.sizeOf20
 v20:=Tryz.zeroValue20
 t37:=underlying62
 a37:=Tryz.isAgg62
 z37:=Tryz.sizeOf62
 v37:=Tryz.zeroValue62
 t46:=underlying154
 a46:=Tryz.isAgg154
 z46:=Tryz.sizeOf154
 v46:=Tryz.zeroValue154
 t51:=underlying171
 a51:=Tryz.isAgg171
 z51:=Tryz.sizeOf171
 v51:=Tryz.zeroValue171
 t53:=underlying151
 a53:=Tryz.isAgg151
 z53:=Tryz.sizeOf151
 v53:=Tryz.zeroValue151
 t171:=underlying158
 a171:=Tryz.isAgg158
 z171:=Tryz.sizeOf158
 v171:=Tryz.zeroValue158
 t173:=underlying161
 a173:=Tryz.isAgg161
 z173:=Tryz.sizeOf161
 v173:=Tryz.zeroValue161
 t212:=underlying170
 a212:=Tryz.isAgg170
 z212:=Tryz.sizeOf170
 v212:=Tryz.zeroValue170
 t213:=underlying172
 a213:=Tryz.isAgg172
 z213:=Tryz.sizeOf172
 t232:=underlying176
 a232:=Tryz.isAgg176
 z232:=Tryz.sizeOf176
 v232:=Tryz.zeroValue176
 t233:=underlying177
 a233:=Tryz.isAgg177
 z233:=Tryz.sizeOf177
 v233:=Tryz.zeroValue177
 g17:=by kernel_rfl
 g18:=by kernel_rfl
 g19:=by kernel_rfl
 i0:=by kernel_rfl
 i2:=by kernel_rfl
 i3:=by kernel_rfl
 i4:=by kernel_rfl
 i5:=by kernel_rfl
 i9:=by kernel_rfl
 i20:=by kernel_rfl
 i37:=by kernel_rfl
 i46:=by kernel_rfl
 i51:=by kernel_rfl
 i53:=by kernel_rfl
 i171:=by kernel_rfl
 i173:=by kernel_rfl
 i212:=by kernel_rfl
 i232:=by kernel_rfl
 i233:=by kernel_rfl
 m17:=by kernel_rfl
 m18:=by kernel_rfl
 m19:=by kernel_rfl }
open Go.RowKit Go.Sort Go.Lib in
theorem Tryz.strconv_Itoa (n:Int) (h0 : -9223372036854775808≤n) (h1:n≤9223372036854775807) (w:World) (htab:Lib.TabIs prog w "internal/strconv.uint64pow10" .u64 Lib.pow10Tab) :
  Calls prog 131 #[.int .i64 n] w fun e w'=>e=.returned (.string ⟨(Lib.itoa n).toArray⟩)∧∃k os,w'=grow (w.drewN k) os:=Any.strconv_Itoa Tryz.laysM171 n h0 h1 w htab
def Tryz.laysC172_ren:Go.Shelf.Ren:=⟨fun | 172=>129 | 244=>192 | 245=>193 | 247=>234 | 279=>235 | 280=>236 | 281=>237 | 282=>238 | 287=>260 | 316=>261 | 171=>131 | 205=>262 | 321=>277 | 322=>278 | 243=>194 | 246=>239 | 283=>263 | 284=>264 | 285=>265 | 286=>266 | 129=>280 | 317=>279 | 318=>281 | 319=>282 | 320=>283 | 337=>301 | 338=>302 | n=>n,fun | 9=>9 | 3=>3 | 75=>67 | 76=>69 | 4=>4 | 5=>5 | 167=>137 | 37=>62 | 0=>0 | 85=>138 | 2=>2 | 168=>140 | 53=>151 | 175=>152 | 46=>154 | 210=>156 | 127=>101 | 145=>167 | 143=>165 | 21=>21 | 171=>158 | 173=>161 | 212=>170 | 51=>171 | 20=>20 | 213=>172 | 232=>176 | 233=>177 | 80=>72 | n=>n,fun | 15=>1 | 16=>2 | 17=>3 | 18=>4 | 19=>5 | n=>n⟩
theorem Tryz.laysC172:Go.Proofs.LaysC.n172 prog Tryz.laysC172_ren:={
 mixed:=by kernel_rfl
 f129:=func280.trans (congrArg some (by kernel_rfl))
 f171:=func131.trans (congrArg some (by kernel_rfl))
 f172:=func129.trans (congrArg some (by kernel_rfl))
 f205:=func262.trans (congrArg some (by kernel_rfl))
 f243:=func194.trans (congrArg some (by kernel_rfl))
 f244:=func192.trans (congrArg some (by kernel_rfl))
 f245:=func193.trans (congrArg some (by kernel_rfl))
 f246:=func239.trans (congrArg some (by kernel_rfl))
 f247:=func234.trans (congrArg some (by kernel_rfl))
 f279:=func235.trans (congrArg some (by kernel_rfl))
 f280:=func236.trans (congrArg some (by kernel_rfl))
 f281:=func237.trans (congrArg some (by kernel_rfl))
 f282:=func238.trans (congrArg some (by kernel_rfl))
 f283:=func263.trans (congrArg some (by kernel_rfl))
 f284:=func264.trans (congrArg some (by kernel_rfl))
 f285:=func265.trans (congrArg some (by kernel_rfl))
 f286:=func266.trans (congrArg some (by kernel_rfl))
 f287:=func260.trans (congrArg some (by kernel_rfl))
 f316:=func261.trans (congrArg some (by kernel_rfl))
 f317:=func279.trans (congrArg some (by kernel_rfl))
 f318:=func281.trans (congrArg some (by kernel_rfl))
 f319:=func282.trans (congrArg some (by kernel_rfl))
 f320:=func283.trans (congrArg some (by kernel_rfl))
 f321:=func277.trans (congrArg some (by kernel_rfl))
 f322:=func278.trans (congrArg some (by kernel_rfl))
 f337:=func301.trans (congrArg some (by kernel_rfl))
 f338:=func302.trans (congrArg some (by kernel_rfl))
 t0:=underlying0
 a0:=Tryz.isAgg0
 z0:=Tryz.sizeOf0
 v0:=Tryz.zeroValue0
 t2:=underlying2
 a2:=Tryz.isAgg2
 z2:=Tryz.sizeOf2
 v2:=Tryz.zeroValue2
 t3:=underlying3
 a3:=Tryz.isAgg3
 z3:=Tryz.sizeOf3
 v3:=Tryz.zeroValue3
 t4:=underlying4
 a4:=Tryz.isAgg4
 z4:=Tryz.sizeOf4
 v4:=Tryz.zeroValue4
 t5:=underlying5
 a5:=Tryz.isAgg5
 z5:=Tryz.sizeOf5
 v5:=Tryz.zeroValue5
 t9:=underlying9
 a9:=Tryz.isAgg9
 z9:=Tryz.sizeOf9
 v9:=Tryz.zeroValue9
 t20:=underlying20
 a20:=Tryz.isAgg20
 z20:=Tryz.sizeOf20
 v20:=Tryz.zeroValue20
 t21:=underlying21
 a21:=Tryz.isAgg21
 z21:=Tryz.sizeOf21
 v21:=Tryz.zeroValue21
 t37:=underlying62
 a37:=Tryz.isAgg62
 z37:=Tryz.sizeOf62
 v37:=Tryz.zeroValue62
 t46:=underlying154
 a46:=Tryz.isAgg154
 z46:=Tryz.sizeOf154
 v46:=Tryz.zeroValue154
 t51:=underlying171
 a51:=Tryz.isAgg171
 z51:=Tryz.sizeOf171
 v51:=Tryz.zeroValue171
 t53:=underlying151
 a53:=Tryz.isAgg151
 z53:=Tryz.sizeOf151
 v53:=Tryz.zeroValue151
 t75:=underlying67
 a75:=Tryz.isAgg67
 z75:=Tryz.sizeOf67
 v75:=Tryz.zeroValue67
 t76:=underlying69
 a76:=Tryz.isAgg69
 z76:=Tryz.sizeOf69
 v76:=Tryz.zeroValue69
 t85:=underlying138
 a85:=Tryz.isAgg138
 z85:=Tryz.sizeOf138
 v85:=Tryz.zeroValue138
 t127:=underlying101
 a127:=Tryz.isAgg101
 z127:=Tryz.sizeOf101
 v127:=Tryz.zeroValue101
 t143:=underlying165
 a143:=Tryz.isAgg165
 z143:=Tryz.sizeOf165
 v143:=Tryz.zeroValue165
 t145:=underlying167
 a145:=Tryz.isAgg167
 z145:=Tryz.sizeOf167
 v145:=Tryz.zeroValue167
 t167:=underlying137
 a167:=Tryz.isAgg137
 z167:=Tryz.sizeOf137
 v167:=Tryz.zeroValue137
 t168:=underlying140
 a168:=Tryz.isAgg140
 z168:=Tryz.sizeOf140
 v168:=Tryz.zeroValue140
 t171:=underlying158
 a171:=Tryz.isAgg158
 z171:=Tryz.sizeOf158
 v171:=Tryz.zeroValue158
 t173:=underlying161
 a173:=Tryz.isAgg161
 z173:=Tryz.sizeOf161
 v173:=Tryz.zeroValue161
 t175:=underlying152
 a175:=Tryz.isAgg152
 z175:=Tryz.sizeOf152
 v175:=Tryz.zeroValue152
 t210:=underlying156
 a210:=Tryz.isAgg156
 z210:=Tryz.sizeOf156
 v210:=Tryz.zeroValue156
 t212:=underlying170
 a212:=Tryz.isAgg170
 z212:=Tryz.sizeOf170
 v212:=Tryz.zeroValue170
 t213:=underlying172
 a213:=Tryz.isAgg172
 z213:=Tryz.sizeOf172
 t232:=underlying176
 a232:=Tryz.isAgg176
 z232:=Tryz.sizeOf176
 v232:=Tryz.zeroValue176
 t233:=underlying177
 a233:=Tryz.isAgg177
 z233:=Tryz.sizeOf177
 v233:=Tryz.zeroValue177
 g15:=by kernel_rfl
 g16:=by kernel_rfl
 g17:=by kernel_rfl
 g18:=by kernel_rfl
 g19:=by kernel_rfl
 t80:=underlying72
 a80:=Tryz.isAgg72
 z80:=Tryz.sizeOf72
 v80:=Tryz.zeroValue72
 i0:=by kernel_rfl
 i2:=by kernel_rfl
 i3:=by kernel_rfl
 i4:=by kernel_rfl
 i5:=by kernel_rfl
 i9:=by kernel_rfl
 i20:=by kernel_rfl
 i21:=by kernel_rfl
 i37:=by kernel_rfl
 i46:=by kernel_rfl
 i51:=by kernel_rfl
 i53:=by kernel_rfl
 i75:=by kernel_rfl
 i76:=by kernel_rfl
 i80:=by kernel_rfl
 i85:=by kernel_rfl
 i127:=by kernel_rfl
 i143:=by kernel_rfl
 i145:=by kernel_rfl
 i167:=by kernel_rfl
 i168:=by kernel_rfl
 i171:=by kernel_rfl
 i173:=by kernel_rfl
 i175:=by kernel_rfl
 i210:=by kernel_rfl
 i212:=by kernel_rfl
 i232:=by kernel_rfl
 i233:=by kernel_rfl
 m15:=by kernel_rfl
 m16:=by kernel_rfl
 m17:=by kernel_rfl
 m18:=by kernel_rfl
 m19:=by kernel_rfl
 c0:=by kernel_rfl
 c2:=by kernel_rfl
 c3:=by kernel_rfl
 c4:=by kernel_rfl
 c5:=by kernel_rfl
 c9:=by kernel_rfl
 c20:=by kernel_rfl
 c21:=by kernel_rfl
 c37:=by kernel_rfl
 c46:=by kernel_rfl
 c51:=by kernel_rfl
 c53:=by kernel_rfl
 c75:=by kernel_rfl
 c76:=by kernel_rfl
 c80:=by kernel_rfl
 c85:=by kernel_rfl
 c127:=by kernel_rfl
 c143:=by kernel_rfl
 c145:=by kernel_rfl
 c167:=by kernel_rfl
 c168:=by kernel_rfl
 c171:=by kernel_rfl
 c173:=by kernel_rfl
 c175:=by kernel_rfl
 c210:=by kernel_rfl
 c212:=by kernel_rfl
 c213:=by kernel_rfl
 c232:=by kernel_rfl
 c233:=by kernel_rfl }
open Go.RowKit in
theorem Tryz.strconv_Atoi_ok (s:ByteArray) (hmax:s.size≤9223372036854775806) (v:Int) (h:Lib.atoiAll s.data.toList=.ok v) (w:World) :
  Calls prog 129 #[.string s] w fun e w'=>e=.returned (.tuple #[.int .i64 v,.nilIface])∧(w'=w∨∃t,w'=Lib.bytesWorld w 5 t):=Any.strconv_Atoi_ok Tryz.laysC172 s hmax v h w
open Go.RowKit in
theorem Tryz.strconv_Atoi_range_var (s:ByteArray) (hlim:s.size≤281474976710656) (h:Lib.atoiAll s.data.toList=.range) (tp:TypeId) (p:Value) (w:World) (hvar:w.var? prog "strconv.ErrRange" = some #[.iface tp p]) :
  Calls prog 129 #[.string s] w fun e w'=>∃N,e=.returned (.tuple #[.int .i64 (Lib.atoiSat s.data.toList),.iface 140 (.pointer (some ⟨N,0,none⟩))])∧w.heap.size≤N∧w'.heap[N]?=some (.cells #[.string ⟨#[65,116,111,105]⟩,.string s,.iface tp p] 156 (0,0))∧Below w.heap.size w w':=Any.strconv_Atoi_range_var Tryz.laysC172 s hlim h tp p w hvar
def Tryz.lays99_ren:Go.Shelf.Ren:=⟨fun | 99=>65 | 206=>126 | n=>n,fun | 9=>9 | 4=>4 | 3=>3 | n=>n,fun | n=>n⟩
theorem Tryz.lays99:Go.Proofs.Lays.n99 prog Tryz.lays99_ren:={
 mixed:=by kernel_rfl
 f99:=func65.trans (congrArg some (by kernel_rfl))
 f206:=func126.trans (congrArg some (by kernel_rfl))
 t3:=underlying3
 a3:=Tryz.isAgg3
 z3:=Tryz.sizeOf3
 v3:=Tryz.zeroValue3
 t4:=underlying4
 a4:=Tryz.isAgg4
 z4:=Tryz.sizeOf4
 v4:=Tryz.zeroValue4
 t9:=underlying9
 a9:=Tryz.isAgg9
 z9:=Tryz.sizeOf9
 v9:=Tryz.zeroValue9 }
open Go.RowKit Go.Lib in
theorem Tryz.strings_HasPrefix (s p:ByteArray) (w:World) :
  Calls prog 65 #[.string s,.string p] w fun e w'=>e=.returned (.bool (Lib.hasPrefix s.data.toList p.data.toList))∧w'=w:=Any.strings_HasPrefix Tryz.lays99 s p w
end Go.Proofs
namespace Go.Proofs.YtaheffiglmglbaaGreatDoor
open Go.Proofs.Tryz
open Go
def Zgf (c:UInt8):Bool:=decide (48≤c.toNat∧c.toNat≤57)
def Zqt (l:List UInt8):Bool:=match l with
 | []=>false
 | c::r=>decide (c.toNat≠48) && (c::r).all Zgf
def Zfd (l:List UInt8):Bool:=match l with
 | []=>false
 | c::r=>if c.toNat=45 then Zqt r else if c.toNat=48 then r.isEmpty else Zqt (c::r)
def ZjO (acc:Nat) (l:List UInt8):Nat:=l.foldl (fun a c=>a * 10 + (c.toNat - 48)) acc
def Zoi (l:List UInt8):Int:=match l with
 | []=>0
 | c::r=>if c.toNat=45 then -(ZjO 0 r:Int) else (ZjO 0 (c::r):Int)
theorem ZqE (acc:Nat) (l:List UInt8) (c:UInt8):ZjO acc (l++[c])=ZjO acc l * 10 + (c.toNat - 48):=by
 unfold ZjO
 rw [List.foldl_append,List.foldl_cons,List.foldl_nil]
theorem ZlI (acc:Nat) (c:UInt8) (l:List UInt8):ZjO acc (c::l)=ZjO (acc * 10 + (c.toNat - 48)) l:=by
 unfold ZjO
 rw [List.foldl_cons]
theorem ZqF:∀(l:List UInt8) (acc:Nat),acc≤ZjO acc l
 | [],_=>Nat.le_refl _
 | c::l,acc=>by
  rw [ZlI]
  have:=ZqF l (acc * 10 + (c.toNat - 48))
  omega
theorem Zc7 (c:UInt8):Zgf c=true↔48≤c.toNat∧c.toNat≤57:=by
 unfold Zgf
 simp
theorem Zso (u:Nat):ZjO 0 (Lib.decDigits u)=u∧(Lib.decDigits u).all Zgf=true:=by
 induction u using Nat.strongRecOn with
 | _ u ih=>
  rw [Lib.decDigits]
  by_cases h:u < 10
  ·rw [dif_pos h]
   have e:(UInt8.ofNat (48 + u)).toNat=48 + u:=by
    rw [UInt8.toNat_ofNat']
    omega
   constructor
   ·simp only [ZjO,List.foldl_cons,List.foldl_nil,e]
    omega
   ·simp only [List.all_cons,List.all_nil,Bool.and_true,Zc7,e]
    omega
  ·rw [dif_neg h]
   obtain ⟨h1,h2⟩:=ih (u / 10) (by omega)
   have e:(UInt8.ofNat (48 + u % 10)).toNat=48 + u % 10:=by
    rw [UInt8.toNat_ofNat']
    omega
   constructor
   ·rw [ZqE,h1,e]
    omega
   ·rw [List.all_append,h2]
    simp only [List.all_cons,List.all_nil,Bool.and_true,Bool.true_and,Zc7,e]
    omega
theorem Zve (u:Nat):Lib.decDigits u≠[]:=by
 rw [Lib.decDigits]
 by_cases h:u < 10
 ·rw [dif_pos h]
  simp
 ·rw [dif_neg h]
  simp
theorem ZuB (u:Nat) (h0:0 < u):∃c r,Lib.decDigits u=c::r∧c.toNat≠48:=by
 induction u using Nat.strongRecOn with
 | _ u ih=>
  rw [Lib.decDigits]
  by_cases h:u < 10
  ·rw [dif_pos h]
   refine ⟨_,_,rfl,?_⟩
   rw [UInt8.toNat_ofNat']
   omega
  ·rw [dif_neg h]
   obtain ⟨c,r,e,hc⟩:=ih (u / 10) (by omega) (by omega)
   rw [e]
   exact ⟨c,r++_,rfl,hc⟩
theorem Zgu:∀(l:List UInt8) (acc:Nat),acc < 18446744073709551616→l.all Zgf=true→
  Lib.parseUint10 acc l=if ZjO acc l < 18446744073709551616 then .ok (ZjO acc l) else .range
 | [],acc,ha,_=>by
  have e:ZjO acc []=acc:=rfl
  rw [e,if_pos ha]
  rfl
 | c::l,acc,ha,h=>by
  simp only [List.all_cons,Bool.and_eq_true] at h
  have hc:=(Zc7 c).1 h.1
  have hge:=ZqF l (acc * 10 + (c.toNat - 48))
  unfold Lib.parseUint10
  rw [if_pos hc,ZlI]
  by_cases h1:1844674407370955162≤acc
  ·rw [if_pos h1,if_neg (by omega)]
  ·rw [if_neg h1]
   by_cases h2:18446744073709551616≤acc * 10 + (c.toNat - 48)
   ·rw [if_pos h2,if_neg (by omega)]
   ·rw [if_neg h2]
    exact Zgu l _ (by omega) h.2
theorem ZoR {l:List UInt8} (h:Zqt l=true):l≠[]∧l.all Zgf=true:=by
 cases l with
 | nil=>cases h
 | cons c r=>
  unfold Zqt at h
  simp only [Bool.and_eq_true] at h
  exact ⟨by simp,h.2⟩
theorem Zqo (l:List UInt8) (h:Zfd l=true) :
  Lib.atoiAll l=if -9223372036854775808≤Zoi l∧Zoi l≤9223372036854775807 then .ok (Zoi l) else .range:=by
 cases l with
 | nil=>cases h
 | cons c r=>
  unfold Zfd at h
  unfold Zoi Lib.atoiAll
  simp only at h ⊢
  by_cases h1:c.toNat=45
  ·rw [if_pos h1] at h ⊢
   rw [if_pos (Or.inr h1)]
   obtain ⟨hn,ha⟩:=ZoR h
   unfold Lib.parseMag
   rw [if_neg hn,Zgu r 0 (by omega) ha]
   by_cases h2:ZjO 0 r < 18446744073709551616
   ·rw [if_pos h2]
    simp only [h1,not_true_eq_false,false_and,if_false,true_and,if_true]
    by_cases h3:9223372036854775808 < ZjO 0 r
    ·rw [if_pos h3,if_neg (by omega)]
    ·rw [if_neg h3,if_pos (by omega)]
   ·rw [if_neg h2,if_neg (by omega)]
  ·rw [if_neg h1] at h ⊢
   have hall:(c::r).all Zgf=true:=by
    by_cases h2:c.toNat=48
    ·rw [if_pos h2] at h
     have e5:r=[]:=by simpa using h
     subst e5
     simp only [List.all_cons,List.all_nil,Bool.and_true,Zc7]
     omega
    ·rw [if_neg h2] at h
     exact (ZoR h).2
   have hd:Zgf c=true:=by
    simp only [List.all_cons,Bool.and_eq_true] at hall
    exact hall.1
   have hd2:=(Zc7 c).1 hd
   rw [if_neg (by omega)]
   unfold Lib.parseMag
   rw [if_neg (by simp),Zgu (c::r) 0 (by omega) hall]
   by_cases h2:ZjO 0 (c::r) < 18446744073709551616
   ·rw [if_pos h2]
    simp only [h1,not_false_eq_true,true_and,if_false,false_and]
    by_cases h3:9223372036854775808≤ZjO 0 (c::r)
    ·rw [if_pos h3,if_neg (by omega)]
    ·rw [if_neg h3,if_pos (by omega)]
   ·rw [if_neg h2,if_neg (by omega)]
def Zf4 (l:List UInt8) (low high:Int):Int × Bool:=if Zfd l=true∧low≤Zoi l∧Zoi l≤high then (Zoi l,true) else (0,false)
open Go.RowKit
theorem ZeF (s:ByteArray) (k:Nat) (h:k < s.size):(s.data.toList.take (k + 1)).all Zgf=((s.data.toList.take k).all Zgf && Zgf s[k]):=by
 rw [List.take_succ_eq_append_getElem (by simpa using h),List.all_append]
 simp
 rfl
theorem ZsP (s:ByteArray) (k:Nat) (h:k < s.size) (hd:¬ Zgf s[k]=true):s.data.toList.all Zgf=false:=by
 rw [Bool.eq_false_iff]
 intro ha
 have:=List.all_eq_true.1 ha s[k] (by
  have:s[k]=s.data.toList[k]'(by simpa using h):=rfl
  rw [this]
  exact List.getElem_mem _)
 exact hd this
theorem get0 (s:ByteArray) {c:UInt8} {r:List UInt8} (h:s.data.toList=c::r) (hp:0 < s.size):s[0]=c:=by
 have e:s[0]=s.data.toList[0]'(by simpa using hp):=rfl
 rw [e]
 simp [h]
theorem ZhC (s:ByteArray):s.data.toList.length=s.size:=by simp
theorem Zuq (s:ByteArray) {c:UInt8} {r:List UInt8} (h:s.data.toList=c::r):(s.extract 1 s.size).data.toList=r:=by
 rw [Lib.extract_to_end,h]
 rfl
theorem Zlr (s:ByteArray) (w:World) (h0:1≤s.size) (hs:s.size≤9223372036854775807) (hz:(s.toList == [48])=false) (he:s.toList.isEmpty=false) (h1:((s[0].toNat:Int) == 45)=false) (h2:((s[0].toNat:Int) == 48)=false) (hall:s.data.toList.all Zgf=true):Calls prog 128 #[.string s] w fun e w'=>e=.returned (.bool true)∧Below w.heap.size w w':=by
 go_enter func128,ntmps128
 go_wp2
 go_loopw [5] (fun _ wr=>∃pos:Nat,pos≤s.size∧wr=w.iter s pos∧Hid ((s.data.toList.take pos).all Zgf=true)) (fun _ wr=>s.size - wr.iterPos w.heap.size)
 case atStart=>exact ⟨0,by omega,rfl,rfl⟩
 case round=>
  obtain ⟨pos,hp,rfl,ha⟩:=hrel
  by_cases hlt:pos < s.size
  ·by_cases hd:Zgf s[pos]=true
   ·have hd2:=(Zc7 s[pos]).1 hd
    have HA:Hid ((s.data.toList.take (pos + 1)).all Zgf=true):=by
     show _=true
     rw [ZeF s pos hlt,ha.out,hd]
     rfl
    have hnx:∀ty,(Instr.next (.pointer (some ⟨w.heap.size,0,none⟩)) true ty).run prog (w.iter s pos)=_:=fun ty=>run_next_ascii w s pos ty hlt (by omega)
    clear hd
    go_wp2
    go_roundw
    case rel=>exact ⟨pos + 1,by omega,rfl,HA⟩
    case measure=>
     simp
     omega
   ·exfalso
    rw [ZsP s pos hlt hd] at hall
    cases hall
  ·have hnx:∀ty,(Instr.next (.pointer (some ⟨w.heap.size,0,none⟩)) true ty).run prog (w.iter s pos)=_:=fun ty=>run_next_end w s pos ty hlt
   clear hall ha
   go_wp2
   go_ret
   exact ⟨rfl,(Below.refl _ _).alloc (Nat.le_refl _) _⟩
theorem Zls (s t:ByteArray) (w:World) (h0:1≤s.size) (hs:s.size≤9223372036854775807) (hz:(s.toList == [48])=false) (he:s.toList.isEmpty=false) (h1:((s[0].toNat:Int) == 45)=true)
  (ht:s.extract 1 s.size=t) (h0t:1≤t.size) (hst:t.size≤9223372036854775807) (het:t.toList.isEmpty=false) (h2:((t[0].toNat:Int) == 48)=false) (hall:t.data.toList.all Zgf=true):Calls prog 128 #[.string s] w fun e w'=>e=.returned (.bool true)∧Below w.heap.size w w':=by
 go_enter func128,ntmps128
 go_wp2
 go_loopw [5] (fun _ wr=>∃pos:Nat,pos≤t.size∧wr=w.iter t pos∧Hid ((t.data.toList.take pos).all Zgf=true)) (fun _ wr=>t.size - wr.iterPos w.heap.size)
 case atStart=>exact ⟨0,by omega,rfl,rfl⟩
 case round=>
  obtain ⟨pos,hp,rfl,ha⟩:=hrel
  by_cases hlt:pos < t.size
  ·by_cases hd:Zgf t[pos]=true
   ·have hd2:=(Zc7 t[pos]).1 hd
    have HA:Hid ((t.data.toList.take (pos + 1)).all Zgf=true):=by
     show _=true
     rw [ZeF t pos hlt,ha.out,hd]
     rfl
    have hnx:∀ty,(Instr.next (.pointer (some ⟨w.heap.size,0,none⟩)) true ty).run prog (w.iter t pos)=_:=fun ty=>run_next_ascii w t pos ty hlt (by omega)
    clear hd
    go_wp2
    go_roundw
    case rel=>exact ⟨pos + 1,by omega,rfl,HA⟩
    case measure=>
     simp
     omega
   ·exfalso
    rw [ZsP t pos hlt hd] at hall
    cases hall
  ·have hnx:∀ty,(Instr.next (.pointer (some ⟨w.heap.size,0,none⟩)) true ty).run prog (w.iter t pos)=_:=fun ty=>run_next_end w t pos ty hlt
   clear hall ha
   go_wp2
   go_ret
   exact ⟨rfl,(Below.refl _ _).alloc (Nat.le_refl _) _⟩
theorem ZmU (s:ByteArray) (w:World) (h0:1≤s.size) (hs:s.size≤9223372036854775807) (hz:(s.toList == [48])=false) (he:s.toList.isEmpty=false) (h1:((s[0].toNat:Int) == 45)=false) (h2:((s[0].toNat:Int) == 48)=false) (hall:s.data.toList.all Zgf=false):Calls prog 128 #[.string s] w fun e w'=>e=.returned (.bool false)∧Below w.heap.size w w':=by
 go_enter func128,ntmps128
 go_wp2
 go_loopw [5] (fun _ wr=>∃pos:Nat,pos≤s.size∧wr=w.iter s pos∧Hid ((s.data.toList.take pos).all Zgf=true)) (fun _ wr=>s.size - wr.iterPos w.heap.size)
 case atStart=>exact ⟨0,by omega,rfl,rfl⟩
 case round=>
  obtain ⟨pos,hp,rfl,ha⟩:=hrel
  by_cases hlt:pos < s.size
  ·by_cases hd:Zgf s[pos]=true
   ·have hd2:=(Zc7 s[pos]).1 hd
    have HA:Hid ((s.data.toList.take (pos + 1)).all Zgf=true):=by
     show _=true
     rw [ZeF s pos hlt,ha.out,hd]
     rfl
    have hnx:∀ty,(Instr.next (.pointer (some ⟨w.heap.size,0,none⟩)) true ty).run prog (w.iter s pos)=_:=fun ty=>run_next_ascii w s pos ty hlt (by omega)
    clear hd
    go_wp2
    go_roundw
    case rel=>exact ⟨pos + 1,by omega,rfl,HA⟩
    case measure=>
     simp
     omega
   ·clear ha hall
    by_cases hasc:s[pos].toNat < 128
    ·have hnx:∀ty,(Instr.next (.pointer (some ⟨w.heap.size,0,none⟩)) true ty).run prog (w.iter s pos)=_:=fun ty=>run_next_ascii w s pos ty hlt hasc
     rw [Zc7] at hd
     by_cases hlow:s[pos].toNat < 48
     ·clear hd
      go_wp2
      go_ret
      exact ⟨rfl,(Below.refl _ _).alloc (Nat.le_refl _) _⟩
     ·have h48:48≤s[pos].toNat:=by omega
      have h57:57 < s[pos].toNat:=by omega
      clear hd hlow
      go_wp2
      go_ret
      exact ⟨rfl,(Below.refl _ _).alloc (Nat.le_refl _) _⟩
    ·have hdec:=(decode_high s pos hlt (by omega)).1
     have hnx:∀ty,(Instr.next (.pointer (some ⟨w.heap.size,0,none⟩)) true ty).run prog (w.iter s pos)=_:=fun ty=>run_next_any w s pos ty hlt
     clear hd hasc
     go_wp2
     go_ret
     exact ⟨rfl,(Below.refl _ _).alloc (Nat.le_refl _) _⟩
  ·exfalso
   have:=ha.out
   rw [List.take_of_length_le (by rw [ZhC];omega),hall] at this
   cases this
theorem ZmV (s t:ByteArray) (w:World) (h0:1≤s.size) (hs:s.size≤9223372036854775807) (hz:(s.toList == [48])=false) (he:s.toList.isEmpty=false) (h1:((s[0].toNat:Int) == 45)=true)
  (ht:s.extract 1 s.size=t) (h0t:1≤t.size) (hst:t.size≤9223372036854775807) (het:t.toList.isEmpty=false) (h2:((t[0].toNat:Int) == 48)=false) (hall:t.data.toList.all Zgf=false):Calls prog 128 #[.string s] w fun e w'=>e=.returned (.bool false)∧Below w.heap.size w w':=by
 go_enter func128,ntmps128
 go_wp2
 go_loopw [5] (fun _ wr=>∃pos:Nat,pos≤t.size∧wr=w.iter t pos∧Hid ((t.data.toList.take pos).all Zgf=true)) (fun _ wr=>t.size - wr.iterPos w.heap.size)
 case atStart=>exact ⟨0,by omega,rfl,rfl⟩
 case round=>
  obtain ⟨pos,hp,rfl,ha⟩:=hrel
  by_cases hlt:pos < t.size
  ·by_cases hd:Zgf t[pos]=true
   ·have hd2:=(Zc7 t[pos]).1 hd
    have HA:Hid ((t.data.toList.take (pos + 1)).all Zgf=true):=by
     show _=true
     rw [ZeF t pos hlt,ha.out,hd]
     rfl
    have hnx:∀ty,(Instr.next (.pointer (some ⟨w.heap.size,0,none⟩)) true ty).run prog (w.iter t pos)=_:=fun ty=>run_next_ascii w t pos ty hlt (by omega)
    clear hd
    go_wp2
    go_roundw
    case rel=>exact ⟨pos + 1,by omega,rfl,HA⟩
    case measure=>
     simp
     omega
   ·clear ha hall
    by_cases hasc:t[pos].toNat < 128
    ·have hnx:∀ty,(Instr.next (.pointer (some ⟨w.heap.size,0,none⟩)) true ty).run prog (w.iter t pos)=_:=fun ty=>run_next_ascii w t pos ty hlt hasc
     rw [Zc7] at hd
     by_cases hlow:t[pos].toNat < 48
     ·clear hd
      go_wp2
      go_ret
      exact ⟨rfl,(Below.refl _ _).alloc (Nat.le_refl _) _⟩
     ·have h48:48≤t[pos].toNat:=by omega
      have h57:57 < t[pos].toNat:=by omega
      clear hd hlow
      go_wp2
      go_ret
      exact ⟨rfl,(Below.refl _ _).alloc (Nat.le_refl _) _⟩
    ·have hdec:=(decode_high t pos hlt (by omega)).1
     have hnx:∀ty,(Instr.next (.pointer (some ⟨w.heap.size,0,none⟩)) true ty).run prog (w.iter t pos)=_:=fun ty=>run_next_any w t pos ty hlt
     clear hd hasc
     go_wp2
     go_ret
     exact ⟨rfl,(Below.refl _ _).alloc (Nat.le_refl _) _⟩
  ·exfalso
   have:=ha.out
   rw [List.take_of_length_le (by rw [ZhC];omega),hall] at this
   cases this
theorem Zqm (s:ByteArray) (w:World) (hz:(s.toList == [48])=true):Calls prog 128 #[.string s] w fun e w'=>e=.returned (.bool true)∧Below w.heap.size w w':=by
 go_enter func128,ntmps128
 go_wp2
 go_ret
 exact ⟨rfl,Below.refl _ _⟩
theorem Zoh (w:World):Calls prog 128 #[.string ⟨#[]⟩] w fun e w'=>e=.returned (.bool false)∧Below w.heap.size w w':=by
 go_enter func128,ntmps128
 go_wp2
 go_ret
 exact ⟨rfl,Below.refl _ _⟩
theorem Zqn (s:ByteArray) (w:World) (h0:1≤s.size) (hz:(s.toList == [48])=false) (he:s.toList.isEmpty=false) (h1:((s[0].toNat:Int) == 45)=false) (h2:((s[0].toNat:Int) == 48)=true):Calls prog 128 #[.string s] w fun e w'=>e=.returned (.bool false)∧Below w.heap.size w w':=by
 go_enter func128,ntmps128
 go_wp2
 go_ret
 exact ⟨rfl,Below.refl _ _⟩
theorem Zog (s:ByteArray) (w:World) (h0:1≤s.size) (hz:(s.toList == [48])=false) (he:s.toList.isEmpty=false) (h1:((s[0].toNat:Int) == 45)=true) (ht:s.extract 1 s.size=⟨#[]⟩):Calls prog 128 #[.string s] w fun e w'=>e=.returned (.bool false)∧Below w.heap.size w w':=by
 go_enter func128,ntmps128
 go_wp2
 go_ret
 exact ⟨rfl,Below.refl _ _⟩
theorem ZiA (s t:ByteArray) (w:World) (h0:1≤s.size) (hz:(s.toList == [48])=false) (he:s.toList.isEmpty=false) (h1:((s[0].toNat:Int) == 45)=true) (ht:s.extract 1 s.size=t) (h0t:1≤t.size) (het:t.toList.isEmpty=false) (h2:((t[0].toNat:Int) == 48)=true):Calls prog 128 #[.string s] w fun e w'=>e=.returned (.bool false)∧Below w.heap.size w w':=by
 go_enter func128,ntmps128
 go_wp2
 go_ret
 exact ⟨rfl,Below.refl _ _⟩
theorem ZsI (s:ByteArray) (w:World) (hs:s.size≤9223372036854775807):Calls prog 128 #[.string s] w fun e w'=>e=.returned (.bool (Zfd s.data.toList))∧Below w.heap.size w w':=by
 have htl:s.toList=s.data.toList:=Lib.toList_data s
 have hsz:=ZhC s
 cases hl:s.data.toList with
 | nil=>
  have e:s=⟨#[]⟩:=by
   obtain ⟨d⟩:=s
   obtain ⟨l⟩:=d
   simp at hl
   rw [hl]
  subst e
  exact Zoh w
 | cons c r=>
  have hsz2:r.length + 1=s.size:=by
   rw [← hsz,hl]
   rfl
  have he:s.toList.isEmpty=false:=by
   rw [htl,hl]
   rfl
  have hg:=get0 s hl (by omega)
  by_cases h45:c.toNat=45
  ·have hz:(s.toList == [48])=false:=by
    rw [htl,hl,beq_eq_false_iff_ne]
    intro k
    injection k with k1 _
    rw [k1] at h45
    cases h45
   have h1:((s[0].toNat:Int) == 45)=true:=by
    rw [hg,beq_iff_eq]
    omega
   rw [show Zfd (c::r)=Zqt r from by unfold Zfd;simp only;rw [if_pos h45]]
   have hx:=Zuq s hl
   generalize ht:s.extract 1 s.size=t at hx
   have htl2:t.toList=t.data.toList:=Lib.toList_data t
   have hszt:=ZhC t
   cases r with
   | nil=>
    have e:t=⟨#[]⟩:=by
     obtain ⟨d⟩:=t
     obtain ⟨l⟩:=d
     simp at hx
     rw [hx]
    exact Zog s w (by omega) hz he h1 (ht.trans e)
   | cons d r2=>
    have hszt2:r2.length + 1=t.size:=by
     rw [← hszt,hx]
     rfl
    have het:t.toList.isEmpty=false:=by
     rw [htl2,hx]
     rfl
    have hgt:=get0 t hx (by omega)
    have hlen:r2.length + 1 + 1=s.size:=hsz2
    by_cases h48:d.toNat=48
    ·have h2:((t[0].toNat:Int) == 48)=true:=by
      rw [hgt,beq_iff_eq]
      omega
     rw [show Zqt (d::r2)=false from by unfold Zqt;simp [h48]]
     exact ZiA s t w (by omega) hz he h1 ht (by omega) het h2
    ·have h2:((t[0].toNat:Int) == 48)=false:=by
      rw [hgt,beq_eq_false_iff_ne]
      omega
     have hp:Zqt (d::r2)=t.data.toList.all Zgf:=by
      rw [hx]
      unfold Zqt
      simp [h48]
     cases ha:t.data.toList.all Zgf with
     | true=>
      rw [hp,ha]
      exact Zls s t w (by omega) hs hz he h1 ht (by omega) (by omega) het h2 ha
     | false=>
      rw [hp,ha]
      exact ZmV s t w (by omega) hs hz he h1 ht (by omega) (by omega) het h2 ha
  ·have h1:((s[0].toNat:Int) == 45)=false:=by
    rw [hg,beq_eq_false_iff_ne]
    omega
   by_cases h48:c.toNat=48
   ·have e48:c=48:=UInt8.toNat_inj.1 h48
    cases r with
    | nil=>
     rw [show Zfd [c]=true from by unfold Zfd;simp only;rw [if_neg h45,if_pos h48];rfl]
     exact Zqm s w (by rw [htl,hl,e48];rfl)
    | cons d r2=>
     have hz:(s.toList == [48])=false:=by
      rw [htl,hl,beq_eq_false_iff_ne]
      intro k
      injection k with _ k1
      cases k1
     have h2:((s[0].toNat:Int) == 48)=true:=by
      rw [hg,beq_iff_eq]
      omega
     rw [show Zfd (c::d::r2)=false from by unfold Zfd;simp only;rw [if_neg h45,if_pos h48];rfl]
     exact Zqn s w (by omega) hz he h1 h2
   ·have h2:((s[0].toNat:Int) == 48)=false:=by
     rw [hg,beq_eq_false_iff_ne]
     omega
    have hz:(s.toList == [48])=false:=by
     rw [htl,hl,beq_eq_false_iff_ne]
     intro k
     injection k with k1 _
     rw [k1] at h48
     exact h48 rfl
    have hp:Zfd (c::r)=s.data.toList.all Zgf:=by
     rw [hl]
     unfold Zfd Zqt
     simp only
     rw [if_neg h45,if_neg h48]
     simp [h48]
    cases ha:s.data.toList.all Zgf with
    | true=>
     rw [hp,ha]
     exact Zlr s w (by omega) hs hz he h1 h2 ha
    | false=>
     rw [hp,ha]
     exact ZmU s w (by omega) hs hz he h1 h2 ha
open Go.RowKit
structure Lies (w:World):Prop where
 tab:Lib.TabIs prog w "internal/strconv.uint64pow10" .u64 Lib.pow10Tab
 err:∃tp p,w.var? prog "strconv.ErrRange" = some #[.iface tp p]
theorem Zze:prog.globalNamed "internal/strconv.uint64pow10" = some 3:=by kernel_rfl
theorem Zy6:prog.globalNamed "strconv.ErrRange" = some 2:=by kernel_rfl
theorem Lies.on {w w':World} (h:Lies w) (hb:Below w.heap.size w w'):Lies w':=
 ⟨Joins.tab_stays Zze h.tab hb (Nat.le_refl _),by
  obtain ⟨tp,p,e⟩:=h.err
  exact ⟨tp,p,Joins.var_stays Zy6 e hb (Nat.le_refl _)⟩⟩
theorem Ztd (n:Int) (h0 : -9223372036854775808≤n) (h1:n≤9223372036854775807) (w:World) (hw:Lies w) :
  Calls prog 75 #[.int .i64 n] w fun e w'=>e=.returned (.string ⟨(Lib.itoa n).toArray⟩)∧Below w.heap.size w w':=by
 have htab:=hw.tab
 go_enter func75,ntmps75
 go_wp2_with (go_at_call 131;refine (Tryz.strconv_Itoa n h0 h1 _ htab).mono ?_;rintro e w' ⟨rfl,hg⟩)
 go_ret
 obtain ⟨k,os,rfl⟩:=hg
 exact ⟨rfl,Lib.below_grow _ _ (Nat.le_refl _) _ _⟩
theorem Zil {w w1 w2:World} (hb:Below w.heap.size w w1) (h:w2=w1∨∃t,w2=Lib.bytesWorld w1 5 t):Below w.heap.size w w2:=by
 rcases h with rfl | ⟨t,rfl⟩
 ·exact hb
 ·exact hb.trans ((Lib.bytesWorld_below _ _ _).mono hb.size)
theorem Zrv (s:ByteArray) (low high:Int) (h0 : -9223372036854775808≤low) (h1:high≤9223372036854775807) (hs:s.size≤281474976710656) (w:World) (hw:Lies w) :
  Calls prog 69 #[.string s,.int .i64 low,.int .i64 high] w fun e w'=>e=.returned (.tuple #[.int .i64 (Zf4 s.data.toList low high).1,.bool (Zf4 s.data.toList low high).2])∧Below w.heap.size w w':=by
 have hcan:=ZsI s w (by omega)
 cases hc:Zfd s.data.toList with
 | false=>
  rw [show Zf4 s.data.toList low high=(0,false) from if_neg (fun k=>by rw [hc] at k;cases k.1)]
  rw [hc] at hcan
  clear hc
  go_enter func69,ntmps69
  go_wp2_with (go_at_call 128;refine hcan.mono ?_;rintro e w' ⟨rfl,hb⟩)
  go_ret2
  exact ⟨rfl,hb⟩
 | true=>
  have hat:=Zqo s.data.toList hc
  rw [hc] at hcan
  by_cases hr : -9223372036854775808≤Zoi s.data.toList∧Zoi s.data.toList≤9223372036854775807
  ·rw [if_pos hr] at hat
   have hok:=fun W=>Tryz.strconv_Atoi_ok s (by omega) _ hat W
   by_cases hin:low≤Zoi s.data.toList∧Zoi s.data.toList≤high
   ·rw [show Zf4 s.data.toList low high=(Zoi s.data.toList,true) from if_pos ⟨hc,hin.1,hin.2⟩]
    obtain ⟨h2,h3⟩:=hin
    generalize Zoi s.data.toList=v at hok h2 h3 hr hat
    clear hc hr hat
    go_enter func69,ntmps69
    go_wp2_with (go_at_call 128;refine hcan.mono ?_;rintro e w1 ⟨rfl,hb⟩)
    refine (hok _).mono ?_
    rintro e w2 ⟨rfl,hw2⟩
    have hb2:=Zil hb hw2
    clear hw2
    go_wp2
    go_ret2
    exact ⟨rfl,hb2⟩
   ·rw [show Zf4 s.data.toList low high=(0,false) from if_neg (fun k=>hin ⟨k.2.1,k.2.2⟩)]
    generalize Zoi s.data.toList=v at hok hin hr hat
    clear hc hr hat
    by_cases h2:v < low
    ·clear hin
     go_enter func69,ntmps69
     go_wp2_with (go_at_call 128;refine hcan.mono ?_;rintro e w1 ⟨rfl,hb⟩)
     refine (hok _).mono ?_
     rintro e w2 ⟨rfl,hw2⟩
     have hb2:=Zil hb hw2
     clear hw2
     go_wp2
     go_ret2
     exact ⟨rfl,hb2⟩
    ·have h2':low≤v:=by omega
     have h3:high < v:=by omega
     clear hin h2
     go_enter func69,ntmps69
     go_wp2_with (go_at_call 128;refine hcan.mono ?_;rintro e w1 ⟨rfl,hb⟩)
     refine (hok _).mono ?_
     rintro e w2 ⟨rfl,hw2⟩
     have hb2:=Zil hb hw2
     clear hw2
     go_wp2
     go_ret2
     exact ⟨rfl,hb2⟩
  ·rw [if_neg hr] at hat
   rw [show Zf4 s.data.toList low high=(0,false) from if_neg (fun k=>hr ⟨by omega,by omega⟩)]
   obtain ⟨tp,p,hv⟩:=hw.err
   have hrange:=fun (W:World) (h:W.var? prog "strconv.ErrRange" = some #[.iface tp p])=>Tryz.strconv_Atoi_range_var s hs hat tp p W h
   clear hc hr hat
   go_enter func69,ntmps69
   go_wp2_with (go_at_call 128;refine hcan.mono ?_;rintro e w1 ⟨rfl,hb⟩)
   refine (hrange _ (Joins.var_stays Zy6 hv hb (Nat.le_refl _))).mono ?_
   rintro e w2 ⟨N,rfl,-,-,hb2⟩
   have hb3:=hb.trans (hb2.mono hb.size)
   clear hb2
   go_wp2
   go_ret2
   exact ⟨rfl,hb3⟩
end Go.Proofs.YtaheffiglmglbaaGreatDoor
