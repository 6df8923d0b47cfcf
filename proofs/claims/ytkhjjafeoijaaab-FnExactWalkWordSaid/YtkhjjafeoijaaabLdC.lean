/-
  Steps of a city by what is no sign, both sides.
-/
import Derived.Test.YtkhjjafeoijaaabLdM
namespace Go.Proofs
open Go.RowKit Av
set_option linter.unusedVariables false
set_option linter.unusedSimpArgs false
theorem noSg_ne {r : Int} (h : NoSg (⟨#[101, 110, 115, 119]⟩ : ByteArray).data.toList r) : r ≠ 101 ∧ r ≠ 110 ∧ r ≠ 115 ∧ r ≠ 119 := by
  rcases h with ⟨c, rfl, h1, h2⟩ | ⟨h1, _⟩
  · simp only [List.mem_cons, List.not_mem_nil, or_false, not_or] at h2
    have t : ∀ d : UInt8, c ≠ d → (c.toNat : Int) ≠ (d.toNat : Int) := fun d hd e => hd (UInt8.toNat_inj.1 (by omega))
    exact ⟨t 101 h2.1, t 110 h2.2.1, t 115 h2.2.2.1, t 119 h2.2.2.2⟩
  · omega
set_option maxRecDepth 100000 in
set_option maxHeartbeats 1600000 in
theorem Try.iStepNo (w : World) (W H : Int) (a : Value) (x y : Int) (r : Int) (hr : NoSg (⟨#[101, 110, 115, 119]⟩ : ByteArray).data.toList r) (ha : ∃ A n c, a = .slice A n c) :
    Calls Try.prog 30 #[.agg #[.int .i64 W, .int .i64 H, a], .agg #[.int .i64 x, .int .i64 y], .int .i32 r] w fun e w' => e = .returned (.tuple #[.agg #[.int .i64 0, .int .i64 0], .bool false]) ∧ Gr w w' := by
  obtain ⟨A, n, c, rfl⟩ := ha
  obtain ⟨r1, r2, r3, r4⟩ := noSg_ne hr
  have e1 : ((r : Int) == 101) = false := beq_eq_false_iff_ne.2 r1
  have e2 : ((r : Int) == 110) = false := beq_eq_false_iff_ne.2 r2
  have e3 : ((r : Int) == 115) = false := beq_eq_false_iff_ne.2 r3
  have e4 : ((r : Int) == 119) = false := beq_eq_false_iff_ne.2 r4
  have hE := fun (X : World) => Try.eqlC x y x y X
  rw [decide_eq_true rfl] at hE
  clear hr r1 r2 r3 r4
  go_enter Try.func30, Try.ntmps30
  go_wp2_with fail
  refine bodyPost_ret (v := .tuple #[.agg #[.int .i64 0, .int .i64 0], .bool false]) (by simp [results, Try.results30, go_sem]) rfl ⟨rfl, ?_⟩
  exact by repeat (first | exact Gr.refl _ | refine Gr.alloc ?_ _ | refine Gr.trans ?_ (by assumption) | refine Gr.drew ?_ | refine Gr.drewN ?_ _ | refine Gr.grow ?_ _ | refine Gr.setCell ?_ (by (try simp); (try omega)) _)
set_option maxRecDepth 100000 in
set_option maxHeartbeats 1600000 in
theorem Try.avStepNo (w : World) (W H : Int) (a : Value) (x y : Int) (c : UInt8) (hc : ¬ isSg c) (ha : ∃ A n c, a = .slice A n c) :
    Calls Try.prog 26 #[.agg #[.int .i64 W, .int .i64 H, a], .int .i64 x, .int .i64 y, .int .u8 (c.toNat : Int)] w fun e w' => e = .returned (.tuple #[.int .i64 0, .int .i64 0, .bool false]) ∧ Gr w w' := by
  obtain ⟨A, n, cc, rfl⟩ := ha
  have e1 : ((c.toNat : Int) == 101) = decide (c = 101) := u8_eq c 101
  have e2 : ((c.toNat : Int) == 119) = decide (c = 119) := u8_eq c 119
  have e3 : ((c.toNat : Int) == 110) = decide (c = 110) := u8_eq c 110
  have e4 : ((c.toNat : Int) == 115) = decide (c = 115) := u8_eq c 115
  rw [decide_eq_false (fun q => hc (.inl q))] at e1
  rw [decide_eq_false (fun q => hc (.inr (.inl q)))] at e2
  rw [decide_eq_false (fun q => hc (.inr (.inr (.inl q))))] at e3
  rw [decide_eq_false (fun q => hc (.inr (.inr (.inr q))))] at e4
  clear hc
  go_enter Try.func26, Try.ntmps26
  go_wp2_with fail
  exact bodyPost_ret (v := .tuple #[.int .i64 0, .int .i64 0, .bool false]) (by simp [results, Try.results26, go_sem]) rfl ⟨rfl, by repeat (first | exact Gr.refl _ | refine Gr.alloc ?_ _ | refine Gr.trans ?_ (by assumption) | refine Gr.drew ?_ | refine Gr.drewN ?_ _ | refine Gr.grow ?_ _ | refine Gr.setCell ?_ (by (try simp); (try omega)) _)⟩
end Go.Proofs
