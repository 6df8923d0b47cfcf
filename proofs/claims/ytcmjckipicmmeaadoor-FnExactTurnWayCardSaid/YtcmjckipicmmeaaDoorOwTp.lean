/-
  Chapter 6: the way of one street or avenue turned: plain words.
-/
import Derived.Test.YtcmjckipicmmeaaDoorOwU
namespace Go.Proofs
open Go.RowKit
set_option linter.unusedVariables false
set_option linter.unusedSimpArgs false
def twB (s a : ByteArray) (k : Int) : Bool := okW s a && inn k 0 ((s.size : Int) + a.size - 1)
/-- one sign turned -/
def flS (s : ByteArray) (k : Nat) : ByteArray := ⟨(s.data.toList.set k (fl (gb s k))).toArray⟩
theorem cut3 (t : ByteArray) (k : Nat) (hk : k < t.size) (c : UInt8) : t.extract 0 k ++ ⟨#[c]⟩ ++ t.extract (k + 1) t.size = ⟨(t.data.toList.set k c).toArray⟩ := by
  apply ByteArray.ext
  apply Array.ext'
  have hl : t.data.toList.length = t.size := by simp
  rw [List.set_eq_take_append_cons_drop, if_pos (by omega)]
  simp only [ByteArray.data_append, ByteArray.data_extract, Array.toList_append, Array.toList_extract, List.extract]
  simp
  rw [List.take_of_length_le (by simp)]
theorem tw_join (s a : ByteArray) (k : Nat) (c : UInt8) : (k < s.size → (⟨((s ++ a).data.toList.set k c).toArray⟩ : ByteArray).extract 0 s.size = ⟨(s.data.toList.set k c).toArray⟩ ∧ (⟨((s ++ a).data.toList.set k c).toArray⟩ : ByteArray).extract s.size (s.size + a.size) = a) ∧
    (s.size ≤ k → (⟨((s ++ a).data.toList.set k c).toArray⟩ : ByteArray).extract 0 s.size = s ∧ (⟨((s ++ a).data.toList.set k c).toArray⟩ : ByteArray).extract s.size (s.size + a.size) = ⟨(a.data.toList.set (k - s.size) c).toArray⟩) := by
  have hl : s.data.toList.length = s.size := by simp
  have hla : a.data.toList.length = a.size := by simp
  have e : (s ++ a).data.toList = s.data.toList ++ a.data.toList := by simp
  rw [e]
  constructor
  · intro hk
    rw [List.set_append, if_pos (by omega)]
    constructor <;> apply ByteArray.ext <;> apply Array.ext' <;> simp only [ByteArray.data_extract, Array.toList_extract, List.extract]
    · rw [List.drop_zero, Nat.sub_zero]
      exact List.take_left' (by rw [List.length_set, hl])
    · rw [List.drop_left' (by rw [List.length_set, hl])]
      exact List.take_of_length_le (by omega)
  · intro hk
    rw [List.set_append, if_neg (by omega), hl]
    constructor <;> apply ByteArray.ext <;> apply Array.ext' <;> simp only [ByteArray.data_extract, Array.toList_extract, List.extract]
    · rw [List.drop_zero, Nat.sub_zero]
      exact List.take_left' hl
    · rw [List.drop_left' hl]
      exact List.take_of_length_le (by rw [List.length_set]; omega)
theorem fset {w : World} {p : Addr} {u : Value} {b : Nat} (h : w.frozen? ⟨b, 0, none⟩ = false ∧ w.frozen? ⟨b, 1, none⟩ = false) : (w.setCell p u).frozen? ⟨b, 0, none⟩ = false ∧ (w.setCell p u).frozen? ⟨b, 1, none⟩ = false := by
  simpa using h
theorem fgr {w w' : World} {b : Nat} (g : Gr w w') (h : w.frozen? ⟨b, 0, none⟩ = false ∧ w.frozen? ⟨b, 1, none⟩ = false) (hb : b < w.heap.size) : w'.frozen? ⟨b, 0, none⟩ = false ∧ w'.frozen? ⟨b, 1, none⟩ = false :=
  ⟨((bcell g.below).2 _ _ hb).trans h.1, ((bcell g.below).2 _ _ hb).trans h.2⟩
theorem gb_fl2 (s : ByteArray) (k : Nat) (h : k < s.size) : gb (flB s) k = fl (gb s k) := by
  have hd : k < s.data.toList.length := by simpa using h
  show (s.data.toList.map fl).getD k 0 = fl (s.data.toList.getD k 0)
  simp only [List.getD, List.getElem?_map, List.getElem?_eq_getElem hd, Option.map_some, Option.getD_some]
def tw1 (s a : ByteArray) (k : Int) : ByteArray := if twB s a k then (if k < s.size then flS s k.toNat else s) else ⟨#[]⟩
def tw2 (s a : ByteArray) (k : Int) : ByteArray := if twB s a k then (if k < s.size then a else flS a (k - s.size).toNat) else ⟨#[]⟩
end Go.Proofs
