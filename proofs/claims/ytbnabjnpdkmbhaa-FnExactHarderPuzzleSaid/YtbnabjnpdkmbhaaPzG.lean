/-
  Chapter 9: slices.IndexFunc and ContainsFunc over clues with whatever closure; the houses that fit all clues, both sides (impl.leftBy, spec.pzAll).
-/
import Derived.Test.YtbnabjnpdkmbhaaPzF
import Derived.Test.YtbnabjnpdkmbhaaInts2
namespace Go.Proofs
open Go.RowKit
set_option linter.unusedVariables false
set_option linter.unusedSimpArgs false
theorem exbZ (p : Prop) : ∃ b : Bool, b = true ↔ p := ⟨@decide p (Classical.propDecidable p), @decide_eq_true_iff p (Classical.propDecidable p)⟩
theorem not_trueZ {b : Bool} {p : Prop} (hb : b = true ↔ p) (h : ¬ p) : b = false := by
  cases q : b
  · rfl
  · exact absurd (hb.1 q) h
def IRelC (p : Clu → Bool) (cs : List Clu) (w : World) (i : Value) (wr : World) : Prop := Gr w wr ∧ ∃ k : Nat, k ≤ cs.length ∧ i = .int .i64 k ∧ ∀ j, j < k → p (cs.getD j cl0) = false
set_option maxRecDepth 100000 in
set_option maxHeartbeats 800000 in
/-- slices.IndexFunc with a closure that answers p c at the clue c: the first index where it is true, or -1. -/
theorem Try.idxFnC (g : Nat) (cb : Array Value) (cs : List Clu) (p : Clu → Bool) (r : Int) (hr : (r = -1 ∧ ∀ k, k < cs.length → p (cs.getD k cl0) = false) ∨ ∃ k, k < cs.length ∧ r = k ∧ p (cs.getD k cl0) = true ∧ ∀ j, j < k → p (cs.getD j cl0) = false) (w : World) (v : Value) (h : CluRow w v cs)
    (eg : ∀ args w, (callFunc g args).run Try.prog w = .ok (.enter g args) w)
    (hf : ∀ (W : World) (x y z : Int), Gr w W → (x, y, z) ∈ cs → Calls Try.prog g (#[.agg #[.int .i64 x, .int .i64 y, .int .i64 z]] ++ cb) W fun e w' => e = .returned (.bool (p (x, y, z))) ∧ Gr W w') :
    Calls Try.prog 108 #[v, .func (.func g) #[] cb] w fun e w' => e = .returned (.int .i64 r) ∧ Gr w w' := by
  obtain ⟨A, c, rfl, hlc, hcm, hc⟩ := h
  unfold maxLen at hcm
  have HC := Lib.hid hc
  have HF := Lib.hid hf
  have HR := Lib.hid hr
  clear hc hf hr
  go_enter Try.func108, Try.ntmps108
  go_wp2
  go_loopw [5, 8] (fun _ i wr => IRelC p cs w i wr) (fun _ i _ => (cs.length - intOf i).toNat)
  case atStart => exact ⟨by repeat (first | exact Gr.refl _ | refine Gr.alloc ?_ _ | refine Gr.trans ?_ (by assumption) | refine Gr.drew ?_ | refine Gr.drewN ?_ _ | refine Gr.grow ?_ _ | refine Gr.setCell ?_ (by (try simp); (try omega)) _), 0, Nat.zero_le _, rfl, fun j hj => absurd hj (Nat.not_lt_zero _)⟩
  case round =>
    obtain ⟨gr, k, hk, rfl, hall⟩ := hrel
    by_cases hlt : k < cs.length
    · rcases HC.out with q | ⟨gb, o, rfl, hc⟩
      · rw [q] at hlt; simp at hlt
      obtain ⟨c0, c1, c2⟩ := hc k hlt
      have e0 := gr.keep0 c0
      have e1 := gr.keep0 c1
      have e2 := gr.keep0 c2
      have z0 : (0 : Int) ≤ (k : Int) := by omega
      have z1 : (k : Int) < (cs.length : Int) := by omega
      have GR := Lib.hid gr
      have HA := Lib.hid hall
      have hm : cs.getD k cl0 ∈ cs := by simp [List.getD, hlt]
      rcases hy : cs.getD k cl0 with ⟨x, y, z⟩
      rw [hy] at e0 e1 e2 hm
      simp only at e0 e1 e2
      have HY := Lib.hid hy
      have HK := Lib.hid (HF.out wr x y z gr hm)
      clear hy hc c0 c1 c2 hall gr hm
      cases hp : p (x, y, z)
      · have HS := Lib.hid (all_snocC HA.out (show (fun j => p (cs.getD j cl0) = false) k by simp only; rw [HY.out]; exact hp))
        rw [hp] at HK
        clear hp
        go_wp2_with (go_at_fn g; refine HK.out.mono ?_; rintro e w2 ⟨rfl, g2⟩)
        go_roundw
        case rel => exact ⟨GR.out.trans g2, k + 1, by omega, by go_num, HS.out⟩
        case measure => simp [intOf]; omega
      · obtain rfl : r = k := by
          rw [← HY.out] at hp
          rcases HR.out with ⟨_, q⟩ | ⟨m, hm, q, q1, q2⟩
          · have := q k hlt; rw [hp] at this; cases this
          · rcases Nat.lt_trichotomy m k with c | c | c
            · have := HA.out m c; rw [q1] at this; cases this
            · rw [q, c]
            · have := q2 k c; rw [hp] at this; cases this
        rw [hp] at HK
        clear hp
        go_wp2_with (go_at_fn g; refine HK.out.mono ?_; rintro e w2 ⟨rfl, g2⟩)
        go_ret
        exact ⟨rfl, GR.out.trans g2⟩
    · obtain rfl : k = cs.length := by omega
      obtain rfl : r = -1 := by
        rcases HR.out with ⟨q, _⟩ | ⟨m, hm, q, q1, q2⟩
        · exact q
        · have := hall m hm; rw [q1] at this; cases this
      have GR := Lib.hid gr
      clear gr hall
      go_wp2
      go_ret
      exact ⟨rfl, GR.out⟩
theorem fst_exC (p : Nat → Bool) (n : Nat) : ∃ r : Int, ((r = -1 ∧ ∀ k, k < n → p k = false) ∨ ∃ k, k < n ∧ r = k ∧ p k = true ∧ ∀ j, j < k → p j = false) := by
  induction n with
  | zero => exact ⟨-1, .inl ⟨rfl, fun k hk => absurd hk (Nat.not_lt_zero _)⟩⟩
  | succ n ih =>
    obtain ⟨r, h | ⟨k, hk, e, a, b⟩⟩ := ih
    · cases hp : p n
      · exact ⟨-1, .inl ⟨rfl, all_snocC h.2 hp⟩⟩
      · exact ⟨n, .inr ⟨n, by omega, rfl, hp, h.2⟩⟩
    · exact ⟨r, .inr ⟨k, by omega, e, a, b⟩⟩
set_option maxHeartbeats 800000 in
/-- slices.ContainsFunc with such a closure -/
theorem Try.hasFnC (g : Nat) (cb : Array Value) (cs : List Clu) (p : Clu → Bool) (b : Bool) (hb : cs.any p = b) (w : World) (v : Value) (h : CluRow w v cs)
    (eg : ∀ args w, (callFunc g args).run Try.prog w = .ok (.enter g args) w)
    (hf : ∀ (W : World) (x y z : Int), Gr w W → (x, y, z) ∈ cs → Calls Try.prog g (#[.agg #[.int .i64 x, .int .i64 y, .int .i64 z]] ++ cb) W fun e w' => e = .returned (.bool (p (x, y, z))) ∧ Gr W w') :
    Calls Try.prog 98 #[v, .func (.func g) #[] cb] w fun e w' => e = .returned (.bool b) ∧ Gr w w' := by
  obtain ⟨r, hr⟩ := fst_exC (fun k => p (cs.getD k cl0)) cs.length
  have HS := Lib.hid (Try.idxFnC g cb cs p r hr w v h eg hf)
  have HV := Lib.hid (show decide ((0 : Int) ≤ r) = b by
    rw [← hb]
    rcases hr with ⟨rfl, q⟩ | ⟨k, hk, rfl, q, _⟩
    · rw [show cs.any p = false by
        rw [List.any_eq_false]
        intro x hx
        obtain ⟨j, hj, rfl⟩ := List.getElem_of_mem hx
        have := q j hj
        simp only [List.getD, List.getElem?_eq_getElem hj, Option.getD_some] at this
        rw [this]; simp]
      rfl
    · rw [show cs.any p = true by
        rw [List.any_eq_true]
        refine ⟨_, List.getElem_mem hk, ?_⟩
        simpa only [List.getD, List.getElem?_eq_getElem hk, Option.getD_some] using q]
      simp)
  obtain ⟨A, c, rfl, _⟩ := h
  clear hr hb hf eg
  go_enter Try.func98, Try.ntmps98
  go_wp2_with (go_at_call 108; refine HS.out.mono ?_; rintro e w1 ⟨rfl, g1⟩)
  go_ret
  exact ⟨by rw [← HV.out]; rfl, by repeat (first | exact Gr.refl _ | refine Gr.alloc ?_ _ | refine Gr.trans ?_ (by assumption) | refine Gr.drew ?_ | refine Gr.drewN ?_ _ | refine Gr.grow ?_ _ | refine Gr.setCell ?_ (by (try simp); (try omega)) _)⟩
end Go.Proofs
