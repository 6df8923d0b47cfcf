/-
  Plain mathematics of a search: the shortest ways counted level by level from their end. No program here.
-/
import Derived.Test.YtkgfbdbhllakoaaDoorGrPth
namespace Go.Proofs.Gm
open Go
set_option linter.unusedVariables false
set_option linter.unusedSimpArgs false
section
variable {nb : Nat → Nat → Option Nat} {N s0 t0 : Nat}
theorem s4_ed (hv : ∀ n i v, n < N → nb n i = some v → v < N) {u : Nat} (hu : u < N) (G : Nat → Nat) : s4 (fun i => match nb u i with | some w => G w | none => 0) = sm (fun w => ed nb u w * G w) N := by
  have e : ∀ i, (match nb u i with | some w => G w | none => 0) = sm (fun w => ht (nb u i) w * G w) N := fun i => by
    cases h : nb u i with
    | none => simp only []; rw [sm_zero (fun w _ => by simp [ht])]
    | some x =>
      simp only []
      rw [sm_one (u := x) (hv u i x hu h) (fun w _ hne => by simp [ht, Ne.symm hne])]
      simp [ht]
  have : (fun i => match nb u i with | some w => G w | none => 0) = fun i => sm (fun w => ht (nb u i) w * G w) N := funext e
  rw [this, s4_sm]
  refine sm_congr fun w _ => ?_
  show ht (nb u 0) w * G w + ht (nb u 1) w * G w + ht (nb u 2) w * G w + ht (nb u 3) w * G w = (ht (nb u 0) w + ht (nb u 1) w + ht (nb u 2) w + ht (nb u 3) w) * G w
  rw [Nat.add_mul, Nat.add_mul, Nat.add_mul]
theorem pth_sym (hv : ∀ n i v, n < N → nb n i = some v → v < N) (he : ∀ u v, u < N → v < N → ed nb u v = ed nb v u) : ∀ (n u v : Nat), u < N → v < N → pth nb n u v = pth nb n v u := by
  intro n
  induction n with
  | zero =>
    intro u v _ _
    simp only [pth]
    by_cases e : u = v
    · rw [if_pos e, if_pos e.symm]
    · rw [if_neg e, if_neg (Ne.symm e)]
  | succ n ih =>
    intro u v hu hvN
    rw [pth_succ hv n u v hu]
    show _ = s4 (fun i => match nb v i with | some w => pth nb n w u | none => 0)
    rw [s4_ed hv hvN]
    refine sm_congr fun w hw => ?_
    rw [ih u w hu hw, he w v hw hvN, Nat.mul_comm]
/-- some directions of a way on -/
def pp (nb : Nat → Nat → Option Nat) (n u t0 : Nat) : Nat → Nat
  | 0 => 0
  | j + 1 => pp nb n u t0 j + (match nb u j with | some w => pth nb n w t0 | none => 0)
theorem pp_all (n u : Nat) : pp nb n u t0 4 = pth nb (n + 1) u t0 := by
  show 0 + (match nb u 0 with | some w => pth nb n w t0 | none => 0) + (match nb u 1 with | some w => pth nb n w t0 | none => 0) + (match nb u 2 with | some w => pth nb n w t0 | none => 0) + (match nb u 3 with | some w => pth nb n w t0 | none => 0) = _
  rw [Nat.zero_add]
  rfl
theorem pth_off (hv : ∀ n i v, n < N → nb n i = some v → v < N) (he : ∀ u v, u < N → v < N → ed nb u v = ed nb v u) {F : Nat → Int} (hF : Dist nb N t0 F) (ht0 : t0 < N) {n w : Nat} (hw : w < N) (h : pth nb n w t0 ≠ 0) : 0 ≤ F w ∧ F w ≤ n :=
  pth_pos hv hF ht0 n w hw (by rw [pth_sym hv he n t0 w ht0 hw]; exact h)
/-- what is told of v while level n is at vertex k and direction j -/
def ex (nb : Nat → Nat → Option Nat) (F : Nat → Int) (t0 n k j v : Nat) : Int :=
  if 0 ≤ F v ∧ (F v < n ∨ F v = n ∧ v < k) then IntKind.i64.wrap (pth nb (F v).toNat v t0 : Nat) else if F v = n ∧ v = k then IntKind.i64.wrap (pp nb (n - 1) v t0 j : Nat) else 0
def wl (nb : Nat → Nat → Option Nat) (F : Nat → Int) (N t0 n k j : Nat) : List Int := (List.range N).map (ex nb F t0 n k j)
theorem wl_len (F : Nat → Int) (n k j : Nat) : (wl nb F N t0 n k j).length = N := by simp [wl]
theorem wl_get {F : Nat → Int} {n k j v : Nat} (h : v < N) : (wl nb F N t0 n k j).getD v 0 = ex nb F t0 n k j v := by simp [wl, List.getD, h]
theorem wl_ext {l : List Int} {F : Nat → Int} {n k j : Nat} (hl : l.length = N) (h : ∀ v, v < N → l.getD v 0 = ex nb F t0 n k j v) : l = wl nb F N t0 n k j := by
  apply List.ext_getElem
  · simp [wl, hl]
  · intro i h1 h2
    have := h i (by omega)
    simp only [List.getD, List.getElem?_eq_getElem h1, Option.getD_some] at this
    rw [this]; simp [wl]
theorem wrap_one : IntKind.i64.wrap ((1 : Nat) : Int) = 1 := by decide
theorem wl_start {F : Nat → Int} (hF : Dist nb N t0 F) (ht0 : t0 < N) : (List.replicate N (0 : Int)).set t0 1 = wl nb F N t0 1 0 0 := by
  refine wl_ext (by simp) fun v hv => ?_
  rw [getD_set _ _ _ _ _ (by simpa using ht0)]
  unfold ex
  by_cases e : t0 = v
  · subst e
    rw [if_pos rfl, if_pos ⟨by rw [hF.f0]; omega, .inl (by rw [hF.f0]; omega)⟩, hF.f0]
    simp only [pth, if_true, Int.toNat_zero]
    decide
  · rw [if_neg e]
    have h1 : ¬ (0 ≤ F v ∧ (F v < (1 : Nat) ∨ F v = (1 : Nat) ∧ v < 0)) := by
      rintro ⟨a, b | b⟩
      · exact e (hF.z v hv (by omega)).symm
      · omega
    rw [if_neg h1]
    simp only [pp]
    have : (List.replicate N (0 : Int)).getD v 0 = 0 := by simp [List.getD, hv]
    rw [this]
    split <;> decide
/-- a vertex of another level is passed -/
theorem wl_pass {F : Nat → Int} {n k : Nat} (h : F k ≠ n) : wl nb F N t0 n k 0 = wl nb F N t0 n (k + 1) 0 := by
  refine wl_ext (wl_len F n k 0) fun v hv => ?_
  rw [wl_get hv]
  unfold ex
  by_cases e : v = k
  · subst e
    rw [if_neg (show ¬ (F v = (n : Int) ∧ v = v) from fun q => h q.1), if_neg (show ¬ (F v = (n : Int) ∧ v = v + 1) from fun q => h q.1)]
    have : (0 ≤ F v ∧ (F v < (n : Int) ∨ F v = (n : Int) ∧ v < v)) ↔ (0 ≤ F v ∧ (F v < (n : Int) ∨ F v = (n : Int) ∧ v < v + 1)) := by omega
    simp only [this]
  · have : (0 ≤ F v ∧ (F v < (n : Int) ∨ F v = (n : Int) ∧ v < k)) ↔ (0 ≤ F v ∧ (F v < (n : Int) ∨ F v = (n : Int) ∧ v < k + 1)) := by omega
    simp only [this]
    split
    · rfl
    · rw [if_neg (fun q => e q.2)]
      simp only [pp]
      split <;> decide
/-- a vertex of this level is done -/
theorem wl_done {F : Nat → Int} {n k : Nat} (hn : 1 ≤ n) : wl nb F N t0 n k 4 = wl nb F N t0 n (k + 1) 0 := by
  refine wl_ext (wl_len F n k 4) fun v hv => ?_
  rw [wl_get hv]
  unfold ex
  rw [pp_all, show n - 1 + 1 = n by omega]
  by_cases e : v = k
  · subst e
    by_cases h : F v = n
    · rw [if_neg (by omega), if_pos ⟨h, rfl⟩, if_pos (by omega), h]; rfl
    · have : (0 ≤ F v ∧ (F v < (n : Int) ∨ F v = (n : Int) ∧ v < v)) ↔ (0 ≤ F v ∧ (F v < (n : Int) ∨ F v = (n : Int) ∧ v < v + 1)) := by omega
      rw [if_neg (show ¬ (F v = (n : Int) ∧ v = v) from fun q => h q.1), if_neg (show ¬ (F v = (n : Int) ∧ v = v + 1) from fun q => h q.1)]
      simp only [this]
  · have : (0 ≤ F v ∧ (F v < (n : Int) ∨ F v = (n : Int) ∧ v < k)) ↔ (0 ≤ F v ∧ (F v < (n : Int) ∨ F v = (n : Int) ∧ v < k + 1)) := by omega
    simp only [this]
    split
    · rfl
    · rw [if_neg (fun q => e q.2)]
      simp only [pp]
      split <;> decide
/-- a level is done -/
theorem wl_level {F : Nat → Int} {n : Nat} : wl nb F N t0 n N 0 = wl nb F N t0 (n + 1) 0 0 := by
  refine wl_ext (wl_len F n N 0) fun v hv => ?_
  rw [wl_get hv]
  unfold ex
  have : (0 ≤ F v ∧ (F v < (n : Int) ∨ F v = (n : Int) ∧ v < N)) ↔ (0 ≤ F v ∧ (F v < ((n + 1 : Nat) : Int) ∨ F v = ((n + 1 : Nat) : Int) ∧ v < 0)) := by omega
  simp only [this]
  split
  · rfl
  · rw [if_neg (show ¬ (F v = (n : Int) ∧ v = N) by omega)]
    simp only [pp]
    split <;> decide
/-- a direction that leads nowhere nearer -/
theorem wl_skip {F : Nat → Int} {n k j : Nat} (h : (match nb k j with | some w => pth nb (n - 1) w t0 | none => 0) = 0) : wl nb F N t0 n k (j + 1) = wl nb F N t0 n k j := by
  unfold wl
  refine List.map_congr_left fun v _ => ?_
  unfold ex
  by_cases e : v = k
  · subst e
    simp only [pp]
    rw [h, Nat.add_zero]
  · rw [if_neg (show ¬ (F v = (n : Int) ∧ v = k) from fun q => e q.2), if_neg (show ¬ (F v = (n : Int) ∧ v = k) from fun q => e q.2)]
theorem wl_add {F : Nat → Int} {n k j w : Nat} (hk : k < N) (hw : w < N) (hF : F k = n) (hFw : F w = (n : Int) - 1) (hn : 1 ≤ n) (h : nb k j = some w) :
    (wl nb F N t0 n k j).set k (IntKind.i64.wrap ((wl nb F N t0 n k j).getD k 0 + (wl nb F N t0 n k j).getD w 0)) = wl nb F N t0 n k (j + 1) := by
  have ek : ex nb F t0 n k j k = IntKind.i64.wrap (pp nb (n - 1) k t0 j : Nat) := by unfold ex; rw [if_neg (by omega), if_pos ⟨hF, rfl⟩]
  have ew : ex nb F t0 n k j w = IntKind.i64.wrap (pth nb (n - 1) w t0 : Nat) := by
    unfold ex; rw [if_pos ⟨by omega, .inl (by omega)⟩, show (F w).toNat = n - 1 by omega]
  rw [wl_get hk, wl_get hw, ek, ew, wrap_wrap_add]
  refine wl_ext (by rw [List.length_set, wl_len]) fun v hv => ?_
  rw [getD_set _ _ _ _ _ (by rw [wl_len]; exact hk), wl_get hv]
  by_cases e : k = v
  · subst e
    rw [if_pos rfl]
    unfold ex
    rw [if_neg (by omega), if_pos ⟨hF, rfl⟩]
    simp only [pp]
    rw [h]
  · rw [if_neg e]
    unfold ex
    rw [if_neg (show ¬ (F v = (n : Int) ∧ v = k) from fun q => e q.2.symm), if_neg (show ¬ (F v = (n : Int) ∧ v = k) from fun q => e q.2.symm)]
theorem wl_last {F : Nat → Int} {n v : Nat} (hv : v < N) (h0 : 0 ≤ F v) (h : F v < n) : (wl nb F N t0 n 0 0).getD v 0 = IntKind.i64.wrap (pth nb (F v).toNat v t0 : Nat) := by
  rw [wl_get hv]; unfold ex; rw [if_pos ⟨h0, .inl h⟩]
end
end Go.Proofs.Gm
