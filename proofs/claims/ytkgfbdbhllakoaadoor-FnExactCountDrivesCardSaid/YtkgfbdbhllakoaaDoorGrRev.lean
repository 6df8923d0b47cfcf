/-
  Plain mathematics of a search: two graphs, each the other one turned. No program here.
-/
import Derived.Test.YtkgfbdbhllakoaaDoorGrLev
namespace Go.Proofs.Gm
open Go
set_option linter.unusedVariables false
set_option linter.unusedSimpArgs false
section
variable {nb nb' : Nat → Nat → Option Nat} {N t0 : Nat}
theorem fin_back2 (hv : ∀ n i v, n < N → nb n i = some v → v < N) (hv' : ∀ n i v, n < N → nb' n i = some v → v < N) (hs : ∀ n i v, n < N → i < 4 → nb n i = some v → ∃ j, j < 4 ∧ nb' v j = some n) :
    ∀ (n : Nat) s t, s < N → t < N → f (fin nb N s) t = n → 0 ≤ f (fin nb' N t) s ∧ f (fin nb' N t) s ≤ n := by
  intro n
  induction n with
  | zero =>
    intro s t hsN htN h
    have := (fin_dist hv hsN).z t htN h
    subst this
    rw [(fin_dist hv' hsN).f0]
    omega
  | succ n ih =>
    intro s t hsN htN h
    obtain ⟨u, i, hu, hi, e1, e2⟩ := (fin_dist hv hsN).pr t htN (by omega)
    obtain ⟨a, b⟩ := ih s u hsN hu (by omega)
    obtain ⟨j, hj, e3⟩ := hs u i t hu hi e1
    obtain ⟨c, d⟩ := fin_le hv' htN hu hj e3 (f (fin nb' N u) s).toNat s hsN (by omega)
    omega
/-- the same there and back -/
theorem fin_rev (hv : ∀ n i v, n < N → nb n i = some v → v < N) (hv' : ∀ n i v, n < N → nb' n i = some v → v < N) (hs : ∀ n i v, n < N → i < 4 → nb n i = some v → ∃ j, j < 4 ∧ nb' v j = some n) (hs' : ∀ n i v, n < N → i < 4 → nb' n i = some v → ∃ j, j < 4 ∧ nb v j = some n) {s t : Nat} (hsN : s < N) (htN : t < N) :
    f (fin nb N s) t = f (fin nb' N t) s := by
  have l1 := (fin_dist hv hsN).lo t htN
  have l2 := (fin_dist hv' htN).lo s hsN
  by_cases c : 0 ≤ f (fin nb N s) t
  · obtain ⟨a, b⟩ := fin_back2 hv hv' hs (f (fin nb N s) t).toNat s t hsN htN (by omega)
    obtain ⟨a', b'⟩ := fin_back2 hv' hv hs' (f (fin nb' N t) s).toNat t s htN hsN (by omega)
    omega
  · by_cases c' : 0 ≤ f (fin nb' N t) s
    · obtain ⟨a', b'⟩ := fin_back2 hv' hv hs' (f (fin nb' N t) s).toNat t s htN hsN (by omega)
      omega
    · omega
theorem pth_rev (hv : ∀ n i v, n < N → nb n i = some v → v < N) (hv' : ∀ n i v, n < N → nb' n i = some v → v < N) (he : ∀ u v, u < N → v < N → ed nb u v = ed nb' v u) : ∀ (n u v : Nat), u < N → v < N → pth nb n u v = pth nb' n v u := by
  intro n
  induction n with
  | zero =>
    intro u v _ _
    simp only [pth]
    by_cases e : u = v
    · rw [if_pos e, if_pos e.symm]
    · rw [if_neg e, if_neg (Ne.symm e)]
  | succ n ih =>
    intro u v hu hvN
    rw [pth_succ hv n u v hu]
    have e : pth nb' (n + 1) v u = sm (fun w => ed nb' v w * pth nb' n w u) N := s4_ed hv' hvN (fun w => pth nb' n w u)
    rw [e]
    refine sm_congr fun w hw => ?_
    rw [ih u w hu hw, he w v hw hvN, Nat.mul_comm]
theorem pth_off2 (hv : ∀ n i v, n < N → nb n i = some v → v < N) (hv' : ∀ n i v, n < N → nb' n i = some v → v < N) (he : ∀ u v, u < N → v < N → ed nb u v = ed nb' v u) {F : Nat → Int} (hF : Dist nb' N t0 F) (ht0 : t0 < N) {n w : Nat} (hw : w < N) (h : pth nb n w t0 ≠ 0) : 0 ≤ F w ∧ F w ≤ n :=
  pth_pos hv' hF ht0 n w hw (by rw [← pth_rev hv hv' he n w t0 hw ht0]; exact h)
theorem wl_start2 {F : Nat → Int} (hF : Dist nb' N t0 F) (ht0 : t0 < N) : (List.replicate N (0 : Int)).set t0 1 = wl nb F N t0 1 0 0 := by
  refine wl_ext (by simp) fun v hv => ?_
  rw [getD_set _ _ _ _ _ (by simpa using ht0)]
  unfold ex
  by_cases e : t0 = v
  · subst e
    rw [if_pos rfl, if_pos ⟨by rw [hF.f0]; omega, .inl (by rw [hF.f0]; omega)⟩, hF.f0]
    simp only [pth, if_true, Int.toNat_zero]
    decide
  · rw [if_neg e]
    have h1 : ¬ (0 ≤ F v ∧ (F v < (1 : Nat) ∨ F v = (1 : Nat) ∧ v < 0)) := by
      rintro ⟨a, b | b⟩
      · exact e (hF.z v hv (by omega)).symm
      · omega
    rw [if_neg h1]
    simp only [pp]
    have : (List.replicate N (0 : Int)).getD v 0 = 0 := by simp [List.getD, hv]
    rw [this]
    split <;> decide
/-- as many ways where there are as many edges -/
theorem pth_ed (hv : ∀ n i v, n < N → nb n i = some v → v < N) (hv' : ∀ n i v, n < N → nb' n i = some v → v < N) (he : ∀ u v, u < N → v < N → ed nb u v = ed nb' u v) : ∀ (n u v : Nat), u < N → v < N → pth nb n u v = pth nb' n u v := by
  intro n
  induction n with
  | zero => intro u v _ _; rfl
  | succ n ih =>
    intro u v hu hvN
    rw [pth_succ hv n u v hu, pth_succ hv' n u v hu]
    refine sm_congr fun w hw => ?_
    rw [ih u w hu hw, he w v hw hvN]
end
end Go.Proofs.Gm
