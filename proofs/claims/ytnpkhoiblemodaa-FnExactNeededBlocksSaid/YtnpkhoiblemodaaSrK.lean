/-
  A row of the call's own, of structs of k cells, behind the library's sort: it holds the sorted list.
-/
import Derived.Test.YtnpkhoiblemodaaEls
import Derived.Shelf.GgSortFunc.InsertionK
import Derived.Sort.OwnSortedInts
namespace Go.Proofs
open Go.RowKit Go.Sort Go.Shelf Go.Lib
set_option linter.unusedVariables false
set_option linter.unusedSimpArgs false
section
variable {α : Type} [Inhabited α] {T : TypeId} {k : Nat} {enc : α → List Value} {w : World} {B : Nat}
theorem flatK_ecs (hk : ∀ x, (enc x).length = k) (xs : List α) : flatK enc k xs.toArray = (ecs enc xs).toArray := by
  refine Array.ext (by simp [ecs_len hk]) fun t h1 h2 => ?_
  have ht : t < xs.length * k := by simpa using h1
  have k0 : 0 < k := by rcases Nat.eq_zero_or_pos k with h | h; · subst h; simp at ht
                        · exact h
  have hj : t / k < xs.length := (Nat.div_lt_iff_lt_mul k0).2 ht
  have hi : t % k < k := Nat.mod_lt _ k0
  have e := ecs_get hk default xs (t / k) (t % k) hj hi
  rw [show t / k * k + t % k = t by rw [Nat.mul_comm]; exact Nat.div_add_mod t k] at e
  have g := get_flatK enc k xs.toArray t (by simpa using ht)
  rw [getElem!_pos _ t h1] at g
  rw [g]
  have e2 : (ecs enc xs)[t]? = some ((ecs enc xs)[t]'(by simpa using h2)) := List.getElem?_eq_getElem _
  have e3 : (enc (xs.getD (t / k) default))[t % k]? = some ((enc (xs.getD (t / k) default))[t % k]'(by rw [hk]; exact hi)) := List.getElem?_eq_getElem _
  rw [e2, e3] at e
  have e4 := Option.some.inj e
  simp only [List.getElem_toArray]
  rw [e4]
  have : xs.toArray[t / k]! = xs.getD (t / k) default := by simp [List.getD, hj]
  rw [this, getElem!_pos _ _ (by rw [hk]; exact hi)]
theorem holdsK_own (hk : ∀ x, (enc x).length = k) {g c : Nat} {ps : List α} (h : OwnE T k enc w B (.slice (some ⟨g, 0, none⟩) ps.length c) ps) : HoldsK enc k w g 0 ps.toArray := by
  unfold HoldsK
  rw [flatK_ecs hk]
  intro j hj
  have hj' : j < (ecs enc ps).length := by simpa using hj
  have hj2 : j < ps.length * k := by rw [← ecs_len hk]; exact hj'
  refine ⟨?_, by rw [Nat.zero_add]; exact World.ownsRow.frozenAt h j⟩
  rw [Nat.zero_add, World.ownsRow.cellAt h _ hj2]
  simp [hj']
theorem own_sortedK (hk : ∀ x, (enc x).length = k) {g c : Nat} {ps ts : List α} (h : OwnE T k enc w B (.slice (some ⟨g, 0, none⟩) ps.length c) ps) (hl : ts.length = ps.length) (n : Nat) (os : Array Obj) :
    OwnE T k enc (sortWorldK enc k w g 0 n ts.toArray os) B (.slice (some ⟨g, 0, none⟩) ts.length c) ts ∧ w.grownBy (sortWorldK enc k w g 0 n ts.toArray os) (some g) := by
  unfold sortWorldK putRowK
  rw [flatK_ecs hk]
  constructor
  · rcases h.2 with ⟨h0, _⟩ | ⟨g', cap', cur, hv, hb, hg, hn, hcap, hs, ht⟩
    · cases h0
    cases hv
    have hgl : g < w.heap.size := (Array.getElem?_eq_some_iff.1 hg).1
    refine ⟨ecs_len hk ts, .inr ⟨g, c, putCells id 0 (ecs enc ts).toArray cur, rfl, hb, ?_, by omega, hcap, ?_, ?_⟩⟩
    · rw [heap_grow_old _ _ (by simpa using hgl)]
      simp [putRow, mapBlock, Sort.ahead, Array.getElem?_modify, hg, onCells]
    · simp [putCells, hs]
    · have hz : ts.length * k ≤ cur.size := by rw [hs, hl]; exact Nat.mul_le_mul_right k hn
      apply List.ext_getElem?
      intro j
      by_cases hj : j < ts.length * k
      · have hj3 : j < (ecs enc ts).length := by rw [ecs_len hk]; exact hj
        rw [List.getElem?_take_of_lt hj, Array.getElem?_toList]
        simp [putCells, hj3, show j < cur.size by omega]
      · rw [List.getElem?_take_eq_none (by omega), List.getElem?_eq_none (by rw [ecs_len hk]; omega)]
  · refine ⟨rfl, rfl, rfl, by simp, fun q hq hne => ?_⟩
    rw [heap_grow_old _ _ (by simpa using hq)]
    have : g ≠ q := fun e => hne (by rw [e])
    simp [putRow, mapBlock, Sort.ahead, Array.getElem?_modify, this]
end
end Go.Proofs
