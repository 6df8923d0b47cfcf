/-
  Plain words of chapter 4: blocks with x told from the other side, put in one after the other.
-/
import Derived.Test.YtnpkhoiblemodaaAvMath
namespace Av
set_option linter.unusedVariables false
set_option linter.unusedSimpArgs false
/-- a block with x told from the other side -/
def mirB (W : Int) (b : Blk) : Blk := (W - 1 - b.1 - (1 - up b), b.2.1, b.2.2)
theorem mirB_is {W H : Int} {b : Blk} (h : IsB W H b) : IsB W H (mirB W b) := by
  have e : up (mirB W b) = up b := rfl
  unfold IsB at *
  rw [e]
  unfold mirB
  simp only
  omega
theorem mirB_inj {W : Int} {a b : Blk} (h : mirB W a = mirB W b) : a = b := by
  obtain ⟨a1, a2, a3⟩ := a
  obtain ⟨c1, c2, c3⟩ := b
  unfold mirB up at h
  simp only [Prod.mk.injEq] at h
  obtain ⟨h1, h2, h3⟩ := h
  subst h2 h3
  have : a1 = c1 := by omega
  rw [this]
/-- the first so many blocks, each told from the other side and put in -/
def mirL (W : Int) (ps : List Blk) (k : Nat) : List Blk := (ps.take k).foldl (fun a b => ins a (mirB W b)) []
theorem mirL_zero (W : Int) (ps : List Blk) : mirL W ps 0 = [] := rfl
theorem mirL_step (W : Int) {ps : List Blk} {k : Nat} (h : k < ps.length) : mirL W ps (k + 1) = ins (mirL W ps k) (mirB W (ps.getD k b0)) := by
  unfold mirL
  rw [List.take_succ_eq_append_getElem h, List.foldl_append, getD_eq _ _ h]
  rfl
theorem mirL_mem (W : Int) {ps : List Blk} (x : Blk) : ∀ k, k ≤ ps.length → (x ∈ mirL W ps k ↔ ∃ j, j < k ∧ x = mirB W (ps.getD j b0)) := by
  intro k
  induction k with
  | zero => intro _; simp [mirL_zero]
  | succ k ih =>
    intro h
    rw [mirL_step W (by omega), mem_ins, ih (by omega)]
    constructor
    · rintro (e | ⟨j, hj, e⟩)
      · exact ⟨k, by omega, e⟩
      · exact ⟨j, by omega, e⟩
    · rintro ⟨j, hj, e⟩
      rcases Nat.lt_or_eq_of_le (Nat.le_of_lt_succ hj) with c | c
      · exact .inr ⟨j, c, e⟩
      · subst c; exact .inl e
theorem up_neD {ps : List Blk} (h : Up ps) {i j : Nat} (hij : i < j) (hj : j < ps.length) : ps.getD i b0 ≠ ps.getD j b0 := by
  intro e
  have := (List.pairwise_iff_getElem.1 h) i j (by omega) hj hij
  rw [getD_eq _ _ hj, getD_eq _ _ (by omega)] at e
  rw [e] at this
  exact lt_irrefl _ this
theorem mirL_ok {W H : Int} {ps : List Blk} (h : Ok W H ps) : ∀ k, k ≤ ps.length → Ok W H (mirL W ps k) ∧ (mirL W ps k).length = k := by
  intro k
  induction k with
  | zero =>
    intro _
    obtain ⟨a1, a2, a3, a4, a5, a6, a7⟩ := h
    exact ⟨⟨a1, a2, a3, a4, by simp [mirL_zero], by simp [mirL_zero], by simp [mirL_zero, Up]⟩, rfl⟩
  | succ k ih =>
    intro hk
    obtain ⟨i1, i2⟩ := ih (by omega)
    have h30 := h.2.2.2.2.1
    rw [mirL_step W (by omega)]
    refine ⟨ins_ok i1 (mirB_is (h.2.2.2.2.2.1 _ (getD_mem ps k (by omega)))) ?_ (by omega), by rw [ins_len, i2]⟩
    rw [mirL_mem W _ k (by omega)]
    rintro ⟨j, hj, e⟩
    exact up_neD h.2.2.2.2.2.2 hj (by omega) (mirB_inj e).symm
end Av
