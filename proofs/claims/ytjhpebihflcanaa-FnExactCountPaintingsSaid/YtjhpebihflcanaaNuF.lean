/-
  The model's helpers for lists of ints: are all in a range (spec.l1All), a copy (spec.l1Own).
-/
import Derived.Test.YtjhpebihflcanaaNuI
import Derived.Test.YtjhpebihflcanaaArgs
namespace Go.Proofs
open Go.RowKit
set_option linter.unusedVariables false
set_option linter.unusedSimpArgs false
def AllIn (xs : List Int) (lo hi : Int) : Prop := ∀ j, j < xs.length → inn (xs.getD j 0) lo hi = true
def LRelA (xs : List Int) (lo hi : Int) (w : World) (i : Value) (wr : World) : Prop := Gr w wr ∧ ∃ k : Nat, k ≤ xs.length ∧ i = .int .i64 k ∧ ∀ j, j < k → inn (xs.getD j 0) lo hi = true
set_option maxHeartbeats 400000 in
theorem Try.l1All (w : World) (B : Nat) (v : Value) (xs : List Int) (lo hi : Int) (b : Bool) (hb : b = true ↔ AllIn xs lo hi) (hl : xs.length ≤ 1048576) (h : OwnI w B v xs) :
    Calls Try.prog 45 #[v, .int .i64 lo, .int .i64 hi] w fun e w' => e = .returned (.bool b) ∧ Gr w w' := by
  rcases h.view with ⟨rfl, A, c, rfl⟩ | ⟨hpos, g, c, rfl, _, _, _, hc, _⟩
  · obtain rfl : b = true := hb.2 (fun j hj => by simp at hj)
    clear h hb
    go_enter Try.func45, Try.ntmps45
    go_wp2
    refine wp_loop_rounds 1 ?_
    rw [rounds_succ]
    go_wp2
    go_ret
    exact ⟨rfl, by repeat (first | exact Gr.refl _ | refine Gr.alloc ?_ _ | refine Gr.trans ?_ (by assumption) | refine Gr.drew ?_ | refine Gr.drewN ?_ _ | refine Gr.grow ?_ _ | refine Gr.setCell ?_ (by (try simp); (try omega)) _)⟩
  · have HC := Lib.hid hc
    have HB := Lib.hid hb
    clear h hc hb
    go_enter Try.func45, Try.ntmps45
    go_wp2
    go_loopw [11] (fun i wr => LRelA xs lo hi w i wr) (fun i _ => (xs.length - intOf i).toNat)
    case atStart => exact ⟨Gr.refl _, 0, Nat.zero_le _, rfl, fun j hj => absurd hj (Nat.not_lt_zero _)⟩
    case round =>
      obtain ⟨gr, k, hk, rfl, hall⟩ := hrel
      by_cases hlt : k < xs.length
      · have e1 := gr.keep2 (HC.out k hlt)
        have z0 : (0 : Int) ≤ (k : Int) := by omega
        have z1 : (k : Int) < (xs.length : Int) := by omega
        have HA := Lib.hid hall
        have HG := Lib.hid gr
        clear hall gr
        cases hx : inn (xs.getD k 0) lo hi
        · have HF := Lib.hid (show b = false by
            cases hbb : b
            · rfl
            · have := HB.out.1 hbb k hlt; rw [hx] at this; cases this)
          have HX := Lib.hid hx
          clear hx
          generalize xs.getD k 0 = y at e1 HX
          go_wp2_with (first | (go_at_call 37; refine (Try.l1In _ _ _ _ HX.out _).mono ?_; rintro e w1 ⟨rfl, rfl⟩))
          go_ret
          exact ⟨by rw [HF.out]; rfl, HG.out⟩
        · have HN := Lib.hid (show ∀ j, j < k + 1 → inn (xs.getD j 0) lo hi = true from fun j hj => by
            rcases Nat.lt_or_eq_of_le (Nat.le_of_lt_succ hj) with c | c
            · exact HA.out j c
            · rw [c]; exact hx)
          have HX := Lib.hid hx
          clear hx
          generalize xs.getD k 0 = y at e1 HX
          go_wp2_with (first | (go_at_call 37; refine (Try.l1In _ _ _ _ HX.out _).mono ?_; rintro e w1 ⟨rfl, rfl⟩))
          go_roundw
          case rel => exact ⟨HG.out, k + 1, by omega, by go_num, HN.out⟩
          case measure => simp [intOf]; omega
      · obtain rfl : k = xs.length := by omega
        have HF := Lib.hid (show b = true from HB.out.2 hall)
        have HG := Lib.hid gr
        clear gr hall
        go_wp2
        go_ret
        exact ⟨by rw [HF.out]; rfl, HG.out⟩
set_option maxHeartbeats 400000 in
theorem Try.l1Own (w : World) (B : Nat) (v : Value) (xs : List Int) (hpos : 0 < xs.length) (hl : xs.length ≤ 1048576) (h : OwnI w B v xs) :
    Calls Try.prog 53 #[v] w fun e w' => ∃ v, e = .returned v ∧ OwnI w' w.heap.size v xs ∧ Below w.heap.size w w' := by
  obtain ⟨i0, hi, hz0, hz1, hz2⟩ := info_parts Try.infoI
  rcases h.view with ⟨rfl, A, c, rfl⟩ | ⟨_, g, c, rfl, _, _, _, hc, _⟩
  · simp at hpos
  · have HC := Lib.hid hc
    clear h hc
    go_enter Try.func53, Try.ntmps53
    have hown : ∀ o : Obj, o = .cells #[] 3 → (w.alloc o).ownsRow w.heap.size 3 1 (.slice (some ⟨w.heap.size, 0, none⟩) 0 0) 0 [] := by
      rintro o rfl
      exact ⟨rfl, .inr ⟨_, _, #[], rfl, Nat.le_refl _, (by show (w.heap.push _)[w.heap.size]? = _; exact Array.getElem?_push_size), Nat.le_refl _, by decide, rfl, rfl⟩⟩
    go_wp2_with (at_builtin; refine wpList_append_own _ rfl _ _ 29 rfl w.heap.size 3 i0 (.int .i64 0) 1 8 Try.underlying29 hi hz0 hz1 hz2 rfl (by decide) (.slice (some ⟨w.heap.size, 0, none⟩) 0 0) 0 [] rfl (hown _ rfl) ⟨g, 0, none⟩ xs.length c (xs.map (Value.int .i64)) rfl ?c1 ?c2 ?c3 ?c4 ?c5 ?c6 ?_; rotate_right; intro v' w3 hown3 hgr3 _)
    case c1 => simp
    case c2 =>
      intro j u hj
      rw [List.getElem?_map] at hj
      cases hx : xs[j]? with
      | none => rw [hx] at hj; cases hj
      | some y =>
        rw [hx] at hj
        cases hj
        have hjl : j < xs.length := (List.getElem?_eq_some_iff.1 hx).1
        have e := HC.out j hjl
        have ey : xs.getD j 0 = y := by simp [List.getD, hx]
        rw [ey] at e
        exact Gr.keep3 (Gr.alloc (Gr.refl _) _) (by rw [show (⟨g, 0, none⟩ : Addr).add j = ⟨g, j, none⟩ by cases j <;> simp [Addr.add]]; exact e)
    case c3 => intro u hu; obtain ⟨y, _, rfl⟩ := List.mem_map.1 hu; rfl
    case c4 => unfold maxLen; omega
    case c5 => omega
    case c6 => simp
    go_ret
    refine ⟨_, rfl, ?_, ?_⟩
    · unfold OwnI
      simpa using hown3
    · refine Below.grown (a := w) ((Below.refl _ _).alloc (Nat.le_refl _) _) hgr3 (by simp) ?_
      intro k hk
      simp [Value.ownBlock] at hk
      omega
end Go.Proofs
