/-
  Chapter 8: what parcels are, both sides (spec.bgGood, AreParcels; impl.AreParcels); slices.IndexFunc and ContainsFunc over parcels with whatever closure.
-/
import Derived.Test.YtjocipddffillaaDoorArgsPc
import Derived.Test.YtjocipddffillaaDoorQTail
namespace Go.Proofs
open Go.RowKit
set_option linter.unusedVariables false
set_option linter.unusedSimpArgs false
theorem exbG (p : Prop) : ∃ b : Bool, b = true ↔ p := ⟨@decide p (Classical.propDecidable p), @decide_eq_true_iff p (Classical.propDecidable p)⟩
theorem not_trueG {b : Bool} {p : Prop} (hb : b = true ↔ p) (h : ¬ p) : b = false := by
  cases q : b
  · rfl
  · exact absurd (hb.1 q) h
def ParB (p : Pi2) : Prop := (1 ≤ p.1 ∧ p.1 ≤ 100) ∧ (1 ≤ p.2 ∧ p.2 ≤ 1000)
def GoodB (ps : List Pi2) : Prop := (1 ≤ ps.length ∧ ps.length ≤ 8) ∧ ∀ k, k < ps.length → ParB (ps.getD k (0, 0))
def GRelB (q : Nat → Prop) (n : Nat) (w : World) (i : Value) (wr : World) : Prop := Gr w wr ∧ ∃ k : Nat, k ≤ n ∧ i = .int .i64 k ∧ ∀ j, j < k → q j
theorem all_snoc {q : Nat → Prop} {k : Nat} (h : ∀ j, j < k → q j) (s : q k) : ∀ j, j < k + 1 → q j := fun j hj => by
  rcases Nat.lt_or_eq_of_le (Nat.le_of_lt_succ hj) with c | c
  · exact h j c
  · rw [c]; exact s
set_option maxRecDepth 100000 in
set_option maxHeartbeats 1600000 in
theorem Tryd.bgGood (w : World) (B : Nat) (v : Value) (ps : List Pi2) (b : Bool) (hb : b = true ↔ GoodB ps) (hl : ps.length ≤ 1048576) (h : OwnP 37 w B v ps) :
    Calls Tryd.prog 14 #[v] w fun e w' => e = .returned (.bool b) ∧ Gr w w' := by
  have HB := Lib.hid hb
  cases h1 : inn (ps.length : Int) 1 8
  · have HF := Lib.hid (not_trueG hb (fun q => by have := q.1; have := of_decide_eq_false h1; omega))
    have H1 := Lib.hid h1
    obtain ⟨A, c, rfl⟩ : ∃ A c, v = .slice A ps.length c := by
      rcases h.view with ⟨rfl, A, c, rfl⟩ | ⟨_, g, c, rfl, _⟩
      · exact ⟨A, c, rfl⟩
      · exact ⟨_, c, rfl⟩
    clear h hb hl h1
    go_enter Tryd.func14, Tryd.ntmps14
    go_wp2_with (first | (go_at_call 26; refine (Tryd.l1In _ _ _ _ H1.out _).mono ?_; rintro e w1 ⟨rfl, rfl⟩))
    go_ret
    exact ⟨by rw [HF.out]; rfl, by repeat (first | exact Gr.refl _ | refine Gr.alloc ?_ _ | refine Gr.trans ?_ (by assumption) | refine Gr.drew ?_ | refine Gr.drewN ?_ _ | refine Gr.grow ?_ _ | refine Gr.setCell ?_ (by (try simp); (try omega)) _)⟩
  · have hl1 := inn_e h1
    have H1 := Lib.hid h1
    rcases h.view with ⟨rfl, _⟩ | ⟨hpos, g, c, rfl, _, _, _, _, hc, _⟩
    · simp at hl1
    · have HC := Lib.hid hc
      clear h hc hb h1
      go_enter Tryd.func14, Tryd.ntmps14
      go_wp2_with (first | (go_at_call 26; refine (Tryd.l1In _ _ _ _ H1.out _).mono ?_; rintro e w1 ⟨rfl, rfl⟩))
      go_loopw [4, 11] (fun _ i wr => GRelB (fun k => ParB (ps.getD k (0, 0))) ps.length w i wr) (fun _ i _ => (ps.length - intOf i).toNat)
      case atStart => exact ⟨by repeat (first | exact Gr.refl _ | refine Gr.alloc ?_ _ | refine Gr.trans ?_ (by assumption) | refine Gr.drew ?_ | refine Gr.drewN ?_ _ | refine Gr.grow ?_ _ | refine Gr.setCell ?_ (by (try simp); (try omega)) _), 0, Nat.zero_le _, rfl, fun j hj => absurd hj (Nat.not_lt_zero _)⟩
      case round =>
        obtain ⟨gr, k, hk, rfl, hall⟩ := hrel
        by_cases hlt : k < ps.length
        · rcases hp : ps.getD k (0, 0) with ⟨p0, p1⟩
          have e0 := gr.keep0 (HC.out k hlt).1
          have e1 := gr.keep0 (HC.out k hlt).2
          rw [hp] at e0 e1
          simp only at e0 e1
          have z0 : (0 : Int) ≤ (k : Int) := by omega
          have z1 : (k : Int) < (ps.length : Int) := by omega
          have GR := Lib.hid gr
          have HA := Lib.hid hall
          have HP := Lib.hid hp
          clear gr hall hp
          cases i0 : inn p0 1 100
          · have HF := Lib.hid (not_trueG HB.out (fun q => by have := (q.2 k hlt).1; rw [HP.out] at this; have := of_decide_eq_false i0; simp only at *; omega))
            have H2 := Lib.hid i0
            clear i0
            go_wp2_with (first | (go_at_call_of 26 (Value.int .i64 p0); refine (Tryd.l1In _ _ _ _ H2.out _).mono ?_; rintro e w1 ⟨rfl, rfl⟩))
            go_ret
            exact ⟨by rw [HF.out]; rfl, GR.out.trans (by repeat (first | exact Gr.refl _ | refine Gr.alloc ?_ _ | refine Gr.trans ?_ (by assumption) | refine Gr.drew ?_ | refine Gr.drewN ?_ _ | refine Gr.grow ?_ _ | refine Gr.setCell ?_ (by (try simp); (try omega)) _))⟩
          · cases i1 : inn p1 1 1000
            · have HF := Lib.hid (not_trueG HB.out (fun q => by have := (q.2 k hlt).2; rw [HP.out] at this; have := of_decide_eq_false i1; simp only at *; omega))
              have H2 := Lib.hid i0
              have H3 := Lib.hid i1
              clear i0 i1
              go_wp2_with (first | (go_at_call_of 26 (Value.int .i64 p0); refine (Tryd.l1In _ _ _ _ H2.out _).mono ?_; rintro e w1 ⟨rfl, rfl⟩) | (go_at_call_of 26 (Value.int .i64 p1); refine (Tryd.l1In _ _ _ _ H3.out _).mono ?_; rintro e w1 ⟨rfl, rfl⟩))
              go_ret
              exact ⟨by rw [HF.out]; rfl, GR.out.trans (by repeat (first | exact Gr.refl _ | refine Gr.alloc ?_ _ | refine Gr.trans ?_ (by assumption) | refine Gr.drew ?_ | refine Gr.drewN ?_ _ | refine Gr.grow ?_ _ | refine Gr.setCell ?_ (by (try simp); (try omega)) _))⟩
            · have HS := Lib.hid (all_snoc HA.out (show ParB (ps.getD k (0, 0)) by rw [HP.out]; exact ⟨inn_e i0, inn_e i1⟩))
              have H2 := Lib.hid i0
              have H3 := Lib.hid i1
              clear i0 i1
              go_wp2_with (first | (go_at_call_of 26 (Value.int .i64 p0); refine (Tryd.l1In _ _ _ _ H2.out _).mono ?_; rintro e w1 ⟨rfl, rfl⟩) | (go_at_call_of 26 (Value.int .i64 p1); refine (Tryd.l1In _ _ _ _ H3.out _).mono ?_; rintro e w1 ⟨rfl, rfl⟩))
              go_roundw
              case rel => exact ⟨GR.out.trans (by repeat (first | exact Gr.refl _ | refine Gr.alloc ?_ _ | refine Gr.trans ?_ (by assumption) | refine Gr.drew ?_ | refine Gr.drewN ?_ _ | refine Gr.grow ?_ _ | refine Gr.setCell ?_ (by (try simp); (try omega)) _)), k + 1, by omega, by go_num, HS.out⟩
              case measure => simp [intOf]; omega
        · obtain rfl : k = ps.length := by omega
          have HF := Lib.hid (show b = true from HB.out.2 ⟨by omega, hall⟩)
          have GR := Lib.hid gr
          clear gr hall
          go_wp2
          go_ret
          exact ⟨by rw [HF.out]; rfl, GR.out⟩
end Go.Proofs
