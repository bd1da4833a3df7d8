/-
  SumOrder: what the law's function does at whatever input.
-/
import Derived.Test.YtdkhinjogomdaaaDoorOrdA
import Derived.Test.YtdkhinjogomdaaaDoorOrdB
import Derived.Test.YtdkhinjogomdaaaDoorOrdC
import Derived.Test.YtdkhinjogomdaaaDoorOrdD
namespace Go.Proofs.YtdkhinjogomdaaaDoor
open Go.RowKit Go.Sort
theorem order_any (a b c : List UInt8) (s : ByteArray) (w : World) (hw : Tabs w) (ha : a.length = 32) (hb : b.length = 32) (hc : c.length = 32) :
    Calls Tryd.prog 7 #[.agg (dig a), .agg (dig b), .agg (dig c), .string s] w fun e w' => e = .returned (.bool true) ∧ Below w.heap.size w w' := by
  have irr : ∀ x y : List UInt8, Op.bytesLess x y = true → Op.bytesLess y x = false := fun x y h => by
    cases h2 : Op.bytesLess y x with
    | false => rfl
    | true => have := Hex.less_trans x y x h h2; rw [Hex.less_irrefl] at this; cases this
  cases hr : readF (ls s) with
  | some e =>
    obtain ⟨h1, hel⟩ := readF_some _ _ hr
    have hs : s = mk (Hex.hexL e) := by rw [← h1, mk_ls]
    cases hp : Op.bytesLess a b with
    | true =>
      cases hq : Op.bytesLess b c with
      | true => exact order_yes_tt a b c e s w hw ha hb hc hel hs hp hq (Hex.less_trans a b c hp hq) (irr a b hp)
      | false => exact order_yes_tf a b c e s w hw ha hb hc hel hs hp hq (irr a b hp)
    | false =>
      cases hu : Op.bytesLess b a with
      | true => exact order_yes_ft a b c e s w hw ha hb hc hel hs hp hu
      | false =>
        obtain rfl := Hex.less_total a b (by rw [ha, hb]) hp hu
        exact order_yes_ff a c e s w hw ha hc hel hs hp
  | none =>
    cases hp : Op.bytesLess a b with
    | true =>
      cases hq : Op.bytesLess b c with
      | true => exact order_no_tt a b c zeros32 s w hw ha hb hc rfl hr rfl hp hq (Hex.less_trans a b c hp hq) (irr a b hp)
      | false => exact order_no_tf a b c zeros32 s w hw ha hb hc rfl hr rfl hp hq (irr a b hp)
    | false =>
      cases hu : Op.bytesLess b a with
      | true => exact order_no_ft a b c zeros32 s w hw ha hb hc rfl hr rfl hp hu
      | false =>
        obtain rfl := Hex.less_total a b (by rw [ha, hb]) hp hu
        exact order_no_ff a c zeros32 s w hw ha hc rfl hr rfl hp
end Go.Proofs.YtdkhinjogomdaaaDoor
