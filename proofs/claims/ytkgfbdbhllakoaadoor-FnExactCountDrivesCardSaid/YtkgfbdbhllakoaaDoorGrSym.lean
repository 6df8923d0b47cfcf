/-
  Plain mathematics of a search: where each way can be gone back, distances are the same both ways. No program here.
-/
import Derived.Test.YtkgfbdbhllakoaaDoorGrCnt
namespace Go.Proofs.Gm
open Go
set_option linter.unusedVariables false
set_option linter.unusedSimpArgs false
section
variable {nb : Nat → Nat → Option Nat} {N : Nat}
theorem fin_le (hv : ∀ n i v, n < N → nb n i = some v → v < N) {t u : Nat} (ht : t < N) (hu : u < N) {j : Nat} (hj : j < 4) (e : nb t j = some u) :
    ∀ (m : Nat) v, v < N → f (fin nb N u) v = m → 0 ≤ f (fin nb N t) v ∧ f (fin nb N t) v ≤ m + 1 := by
  have hT := fin_dist hv ht
  have hU := fin_dist hv hu
  intro m
  induction m with
  | zero =>
    intro v hvN h
    rw [hU.z v hvN h]
    have := hT.re t j u ht hj (by rw [hT.f0]; omega) e
    rw [hT.f0] at this
    omega
  | succ m ih =>
    intro v hvN h
    obtain ⟨w, i, hw, hi, e1, e2⟩ := hU.pr v hvN (by omega)
    obtain ⟨a, b⟩ := ih w hw (by omega)
    obtain ⟨c, d⟩ := hT.re w i v hw hi a e1
    omega
theorem fin_back (hv : ∀ n i v, n < N → nb n i = some v → v < N) (hs : ∀ n i v, n < N → i < 4 → nb n i = some v → ∃ j, j < 4 ∧ nb v j = some n) :
    ∀ (n : Nat) s t, s < N → t < N → f (fin nb N s) t = n → 0 ≤ f (fin nb N t) s ∧ f (fin nb N t) s ≤ n := by
  intro n
  induction n with
  | zero =>
    intro s t hsN htN h
    have := (fin_dist hv hsN).z t htN h
    subst this
    rw [(fin_dist hv hsN).f0]
    omega
  | succ n ih =>
    intro s t hsN htN h
    obtain ⟨u, i, hu, hi, e1, e2⟩ := (fin_dist hv hsN).pr t htN (by omega)
    obtain ⟨a, b⟩ := ih s u hsN hu (by omega)
    obtain ⟨j, hj, e3⟩ := hs u i t hu hi e1
    obtain ⟨c, d⟩ := fin_le hv htN hu hj e3 (f (fin nb N u) s).toNat s hsN (by omega)
    omega
/-- the same both ways -/
theorem fin_sym (hv : ∀ n i v, n < N → nb n i = some v → v < N) (hs : ∀ n i v, n < N → i < 4 → nb n i = some v → ∃ j, j < 4 ∧ nb v j = some n) {s t : Nat} (hsN : s < N) (htN : t < N) :
    f (fin nb N s) t = f (fin nb N t) s := by
  have l1 := (fin_dist hv hsN).lo t htN
  have l2 := (fin_dist hv htN).lo s hsN
  by_cases c : 0 ≤ f (fin nb N s) t
  · obtain ⟨a, b⟩ := fin_back hv hs (f (fin nb N s) t).toNat s t hsN htN (by omega)
    obtain ⟨a', b'⟩ := fin_back hv hs (f (fin nb N t) s).toNat t s htN hsN (by omega)
    omega
  · by_cases c' : 0 ≤ f (fin nb N t) s
    · obtain ⟨a', b'⟩ := fin_back hv hs (f (fin nb N t) s).toNat t s htN hsN (by omega)
      omega
    · omega
end
end Go.Proofs.Gm
