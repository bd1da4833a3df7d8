/-
  Equality of two digests as the program reckons it.
-/
import Derived.Test.YtmcdbjkmkbdeiaaDoorS3Less
import Derived.Laws.StructEq
namespace Go.Proofs.YtmcdbjkmkbdeiaaDoor.S3
open Go.RowKit
theorem part_dig (a : List UInt8) (i : Nat) (h : i < a.length) (w : World) : (part 5 (dig a) i).run Tryd.prog w = .ok (.int .u8 (a[i].toNat : Nat)) w := by
  have := dig_at a i h
  simp [part, Tryd.isAgg5, this, go_sem]
theorem eq_loop (a b : List UInt8) (n : Nat) : ∀ s, s + n ≤ a.length → s + n ≤ b.length → ∀ w : World,
    (forIn (List.range' s n) (none, ()) fun i (__s : Option Bool × Unit) => do
            let __do_lift ← part 5 (dig a) i
            let __do_lift_1 ← part 5 (dig b) i
            let __do_lift ← Op.equalIn 9999 5 __do_lift __do_lift_1
            if (!__do_lift) = true then pure (ForInStep.done (some false, ())) else pure (ForInStep.yield (none, ()))).run Tryd.prog w =
      .ok (if (a.drop s).take n = (b.drop s).take n then (none, ()) else (some false, ())) w := by
  induction n with
  | zero => intro s _ _ w; simp
  | succ n ih =>
    intro s h1 h2 w
    have e1 : (a.drop s).take (n + 1) = a[s]'(by omega) :: (a.drop (s + 1)).take n := by
      rw [List.drop_eq_getElem_cons (by omega), List.take_succ_cons]
    have e2 : (b.drop s).take (n + 1) = b[s]'(by omega) :: (b.drop (s + 1)).take n := by
      rw [List.drop_eq_getElem_cons (by omega), List.take_succ_cons]
    rw [List.range'_succ]
    simp only [List.forIn_cons, Sem.run_bind, part_dig a s (by omega), part_dig b s (by omega), Result.andThen_ok]
    rw [show (9999 : Nat) = 9998 + 1 from rfl, run_equalIn_int w 9998 5 .u8 .u8 _ _ Tryd.underlying5]
    simp only [Result.andThen_ok]
    by_cases h : a[s] = b[s]
    · have hb : (((a[s].toNat : Nat) : Int) == ((b[s].toNat : Nat) : Int)) = true := by rw [h]; simp
      rw [hb]
      simp only [Bool.not_true, Bool.false_eq_true, if_false, Sem.run_pure, Result.andThen_ok]
      rw [show (9998 + 1 : Nat) = 9999 from rfl, ih (s + 1) (by omega) (by omega) w, e1, e2, h]
      simp
    · have hb : (((a[s].toNat : Nat) : Int) == ((b[s].toNat : Nat) : Int)) = false := by
        simp only [beq_eq_false_iff_ne, ne_eq]
        intro e
        exact h (UInt8.toNat_inj.1 (by omega))
      rw [hb]
      simp only [Bool.not_false, if_true, Sem.run_pure, Result.andThen_ok]
      rw [e1, e2, if_neg]
      intro e
      exact h (by simpa using congrArg (·.head?) e)
theorem eq_dig (a b : List UInt8) (ha : a.length = 32) (hb : b.length = 32) (w : World) : (Op.equalIn 10000 31 (.agg (dig a)) (.agg (dig b))).run Tryd.prog w = .ok (decide (a = b)) w := by
  rw [show (10000 : Nat) = 9999 + 1 from rfl, Op.equalIn]
  simp only [Sem.run_bind, run_underlying Tryd.underlying31, Result.andThen_ok]
  simp only [Std.Legacy.Range.forIn_eq_forIn_range', Std.Legacy.Range.size, Nat.sub_zero, Nat.add_sub_cancel, Nat.div_one]
  simp only [Tryd.sizeOf5, Result.andThen_ok, Nat.mul_one]
  rw [eq_loop a b 32 0 (by omega) (by omega) w]
  rw [List.drop_zero, List.drop_zero, List.take_of_length_le (by omega), List.take_of_length_le (by omega)]
  by_cases h : a = b
  · simp [h]
  · simp [h]
end Go.Proofs.YtmcdbjkmkbdeiaaDoor.S3
