/-
  Contracts of chapter 4: is it a corner? Are they a city and two corners? Both sides.
-/
import Derived.Test.YtkhjjafeoijaaaaAfA
import Derived.Deep.RegionHeld3
namespace Go.Proofs
open Go.RowKit Av Gm Go.Maps
set_option linter.unusedVariables false
set_option linter.unusedSimpArgs false
/-- do these two numbers tell a corner? -/
def isC (W H : Int) (xs : List Int) : Bool := decide (xs.length = 2) && onB W H (xs.getD 0 0) (xs.getD 1 0)
theorem isC_len {W H : Int} {xs : List Int} (h : xs.length ≠ 2) : isC W H xs = false := by unfold isC; rw [decide_eq_false h]; rfl
theorem len_two {xs : List Int} (h : xs.length = 2) : ∃ x y, xs = [x, y] := by
  match xs, h with
  | [x, y], _ => exact ⟨x, y, rfl⟩
theorem isC_two (W H x y : Int) : isC W H [x, y] = onB W H x y := rfl
theorem isC_vtx {W H : Int} {xs : List Int} (h : isC W H xs = true) (hW : 1 ≤ W ∧ W ≤ 8) (hH : 1 ≤ H ∧ H ≤ 8) : (xs.getD 0 0 * H + xs.getD 1 0).toNat < W.toNat * H.toNat ∧ xs = [(crn H.toNat (xs.getD 0 0 * H + xs.getD 1 0).toNat).1, (crn H.toNat (xs.getD 0 0 * H + xs.getD 1 0).toNat).2] := by
  unfold isC at h
  rw [Bool.and_eq_true] at h
  obtain ⟨x, y, rfl⟩ := len_two (of_decide_eq_true h.1)
  have ho : onC W H (x, y) := of_decide_eq_true h.2
  unfold onC at ho
  simp only at ho
  obtain ⟨X, rfl⟩ : ∃ X : Nat, x = X := ⟨x.toNat, by omega⟩
  obtain ⟨Y, rfl⟩ : ∃ Y : Nat, y = Y := ⟨y.toNat, by omega⟩
  obtain ⟨Wn, rfl⟩ : ∃ Wn : Nat, W = Wn := ⟨W.toNat, by omega⟩
  obtain ⟨Hn, rfl⟩ : ∃ Hn : Nat, H = Hn := ⟨H.toNat, by omega⟩
  have e : (((X : Int) * (Hn : Int)) + (Y : Int)).toNat = X * Hn + Y := by
    have : ((X : Int) * (Hn : Int)) + (Y : Int) = ((X * Hn + Y : Nat) : Int) := by push_cast; rfl
    rw [this]; rfl
  obtain ⟨i1, i2, i3⟩ := idx_on (Wn := Wn) (Hn := Hn) (x := X) (y := Y) (by omega) (by omega)
  simp only [List.getD_cons_zero, List.getD_cons_succ, Int.toNat_natCast]
  rw [e]
  refine ⟨i1, ?_⟩
  unfold crn
  simp only
  rw [i2, i3]
set_option maxRecDepth 100000 in
set_option maxHeartbeats 1600000 in
theorem Try.avCorner (w : World) (W H : Int) (A : Option Addr) (n c : Nat) (Bl : Nat) (la : Value) (xs : List Int) (hW : 1 ≤ W ∧ W ≤ 8) (hH : 1 ≤ H ∧ H ≤ 8) (v : Bool) (hv : isC W H xs = v) (hla : OwnI w Bl la xs) :
    Calls Try.prog 61 #[.agg #[.int .i64 W, .int .i64 H, .slice A n c], la] w fun e w' => e = .returned (.bool v) ∧ Gr w w' := by
  have mixed : Try.prog.follows .mixedOrders = true := by kernel_rfl
  obtain ⟨q0, q1, q2⟩ := boxG3 (w := w) (W := w.alloc (.cells #[.int .i64 W, .int .i64 H, .slice A n c] 42)) (Gr.refl _)
  by_cases hl : xs.length = 2
  · obtain ⟨x, y, rfl⟩ := len_two hl
    rcases hla.view with ⟨hx, _⟩ | ⟨_, gl, cl, rfl, _, gl2, _, _, _⟩
    · cases hx
    obtain ⟨l0, _⟩ := hla.at rfl 0 (by simp)
    obtain ⟨l1, _⟩ := hla.at rfl 1 (by simp)
    simp only [List.getD_cons_zero, List.getD_cons_succ, List.length_cons, List.length_nil, Nat.zero_add, Nat.reduceAdd] at l0 l1 ⊢
    have r0 := gr_all (Gr.alloc (Gr.refl _) (.cells #[.int .i64 W, .int .i64 H, .slice A n c] 42)) l0
    have r1 := gr_all (Gr.alloc (Gr.refl _) (.cells #[.int .i64 W, .int .i64 H, .slice A n c] 42)) l1
    rw [isC_two, onB_inn] at hv
    subst hv
    clear hla l0 l1 hl
    cases h1 : inn x 0 (W - 1)
    · have H1 := Lib.hid h1
      clear h1
      go_enter Try.func61, Try.ntmps61
      go_wp2
      (refine wp_region_quiet_grown mixed (by kernel_rfl) ?_; (repeat (first | go_big_quiet_step ((first | (go_at_call 67; exact Calls.grown_of (same_gr (Try.l1In _ _ _ _ H1.out _))))) | quiet_step ((first | (go_at_call 67; exact Calls.grown_of (same_gr (Try.l1In _ _ _ _ H1.out _))))))); refine wpQuiet_nil ?_; intro _ hw'; obtain ⟨⟨nq, osq⟩, hw''⟩ := hw'; subst hw'')
      go_wp2
      go_ret
      exact ⟨rfl, by repeat (first | exact Gr.refl _ | refine Gr.alloc ?_ _ | refine Gr.trans ?_ (by assumption) | refine Gr.drew ?_ | refine Gr.drewN ?_ _ | refine Gr.grow ?_ _ | refine Gr.setCell ?_ (by (try simp); (try omega)) _)⟩
    · cases h2 : inn y 0 (H - 1)
      all_goals
        have H1 := Lib.hid h1
        have H2 := Lib.hid h2
        clear h1 h2
        go_enter Try.func61, Try.ntmps61
        go_wp2
        (refine wp_region_quiet_grown mixed (by kernel_rfl) ?_; (repeat (first | go_big_quiet_step ((first | (go_at_call_of 67 (Value.int .i64 x); exact Calls.grown_of (same_gr (Try.l1In _ _ _ _ H1.out _))) | (go_at_call_of 67 (Value.int .i64 y); exact Calls.grown_of (same_gr (Try.l1In _ _ _ _ H2.out _))))) | quiet_step ((first | (go_at_call_of 67 (Value.int .i64 x); exact Calls.grown_of (same_gr (Try.l1In _ _ _ _ H1.out _))) | (go_at_call_of 67 (Value.int .i64 y); exact Calls.grown_of (same_gr (Try.l1In _ _ _ _ H2.out _))))))); refine wpQuiet_nil ?_; intro _ hw'; obtain ⟨⟨nq, osq⟩, hw''⟩ := hw'; subst hw'')
        go_wp2
        go_ret
        exact ⟨rfl, by repeat (first | exact Gr.refl _ | refine Gr.alloc ?_ _ | refine Gr.trans ?_ (by assumption) | refine Gr.drew ?_ | refine Gr.drewN ?_ _ | refine Gr.grow ?_ _ | refine Gr.setCell ?_ (by (try simp); (try omega)) _)⟩
  · rw [isC_len hl] at hv
    subst hv
    obtain ⟨A1, c1, rfl⟩ := hla.form
    have z : ¬ (xs.length : Int) = 2 := by omega
    clear hla
    go_enter Try.func61, Try.ntmps61
    go_wp2
    (refine wp_region_quiet_grown mixed (by kernel_rfl) ?_; (repeat (first | go_big_quiet_step ((fail)) | quiet_step ((fail)))); refine wpQuiet_nil ?_; intro _ hw'; obtain ⟨⟨nq, osq⟩, hw''⟩ := hw'; subst hw'')
    go_wp2
    go_ret
    exact ⟨rfl, by repeat (first | exact Gr.refl _ | refine Gr.alloc ?_ _ | refine Gr.trans ?_ (by assumption) | refine Gr.drew ?_ | refine Gr.drewN ?_ _ | refine Gr.grow ?_ _ | refine Gr.setCell ?_ (by (try simp); (try omega)) _)⟩
/-- how far it is from one vertex to another one, or -1 -/
def dst (Wn Hn : Nat) (ps : List Blk) (s0 t0 : Nat) : Int := f (fin (nbC Wn Hn ps) (Wn * Hn) s0) t0
theorem dst_bd {Wn Hn : Nat} {ps : List Blk} {s0 t0 : Nat} (hs : s0 < Wn * Hn) (ht : t0 < Wn * Hn) : -1 ≤ dst Wn Hn ps s0 t0 ∧ dst Wn Hn ps s0 t0 < Wn * Hn := by
  have h := (fin_bf (@nb_valid Wn Hn ps) hs).inv
  have a := h.fm t0 ht
  have b := h.len
  unfold dst
  have c : ((Wn * Hn : Nat) : Int) = (Wn : Int) * Hn := by push_cast; rfl
  omega
/-- what is told of a way: its length, if there is one -/
def cdI (W H : Int) (ps : List Blk) (xs ys : List Int) : Int := dst W.toNat H.toNat ps (xs.getD 0 0 * H + xs.getD 1 0).toNat (ys.getD 0 0 * H + ys.getD 1 0).toNat
def cdB (W H : Int) (ps : List Blk) (xs ys : List Int) : Bool := okB W H ps && isC W H xs && isC W H ys && decide (0 ≤ cdI W H ps xs ys)
def cdV (W H : Int) (ps : List Blk) (xs ys : List Int) : Int := if cdB W H ps xs ys then cdI W H ps xs ys else 0
end Go.Proofs
