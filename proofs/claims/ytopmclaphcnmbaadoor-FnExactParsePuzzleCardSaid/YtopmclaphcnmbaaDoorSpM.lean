/-
  A text cut at a byte: plain (what is free of the byte, cut and joined).
-/
import Derived.Test.YtopmclaphcnmbaaDoorSpG
namespace Sp
open Go
theorem fuel (c : ByteArray) (hc : 0 < c.size) (n : Nat) : ∀ (k k' : Nat) (s : ByteArray), k ≤ n → k' ≤ n → s.size ≤ k → s.size ≤ k' → Lib.splitB c 0 k s = Lib.splitB c 0 k' s := by
  induction n with
  | zero => intro k k' s h1 h2 _ _; obtain rfl : k = 0 := by omega
            obtain rfl : k' = 0 := by omega
            rfl
  | succ n ih =>
    intro k k' s h1 h2 h3 h4
    rcases Lib.indexB_cases s c with h | ⟨i, h, hi⟩
    · rw [Lib.splitB_miss _ _ _ _ h, Lib.splitB_miss _ _ _ _ h]
    · obtain ⟨a, rfl⟩ : ∃ a, k = a + 1 := ⟨k - 1, by omega⟩
      obtain ⟨b, rfl⟩ : ∃ b, k' = b + 1 := ⟨k' - 1, by omega⟩
      rw [Lib.splitB_hit _ _ _ _ i h, Lib.splitB_hit _ _ _ _ i h]
      rw [ih a b _ (by omega) (by omega) (by rw [ByteArray.size_extract]; omega) (by rw [ByteArray.size_extract]; omega)]
theorem ext_all (t : ByteArray) : t.extract 0 t.size = t := by apply ByteArray.ext; rw [ByteArray.data_extract]; exact Array.extract_size
def Free (sb : UInt8) (x : ByteArray) : Prop := ∀ c, c ∈ x.data.toList → c ≠ sb
theorem spl_one {sb : UInt8} {x : ByteArray} (h : Free sb x) : spl sb x = [x] := by
  unfold spl
  have hm : Lib.indexB x (cm sb) = -1 := by
    have := ix_miss (sb := sb) (t := x) (a := 0) (fun j _ _ e => h _ (List.mem_of_getElem? e) rfl)
    rw [ext_all] at this
    exact this
  rw [Lib.splitB_miss _ _ _ _ hm]
theorem ix_cut {sb : UInt8} {x y : ByteArray} (h : Free sb x) : Lib.indexB (x ++ ⟨#[sb]⟩ ++ y) (cm sb) = (x.size : Int) := by
  have hl : (x ++ ⟨#[sb]⟩ ++ y).data.toList = x.data.toList ++ (sb :: y.data.toList) := by simp
  have hx : x.data.toList.length = x.size := by simp
  have := ix_hit (sb := sb) (t := x ++ ⟨#[sb]⟩ ++ y) (a := 0) (i := x.size) (Nat.zero_le _) (fun j _ hj e => by
    rw [hl, List.getElem?_append_left (by omega)] at e
    exact h _ (List.mem_of_getElem? e) rfl) (by rw [hl, List.getElem?_append_right (by omega), hx, Nat.sub_self]; rfl)
  rw [ext_all] at this
  simpa using this
theorem cut_size (sb : UInt8) (x y : ByteArray) : (x ++ ⟨#[sb]⟩ ++ y).size = x.size + 1 + y.size := by
  rw [ByteArray.size_append, ByteArray.size_append]; rfl
theorem cut_left (sb : UInt8) (x y : ByteArray) : (x ++ ⟨#[sb]⟩ ++ y).extract 0 x.size = x := by
  rw [ByteArray.append_assoc, ByteArray.extract_append_eq_left rfl]
theorem cut_right (sb : UInt8) (x y : ByteArray) : (x ++ ⟨#[sb]⟩ ++ y).extract (x.size + 1) (x ++ ⟨#[sb]⟩ ++ y).size = y := by
  have e : (x ++ ⟨#[sb]⟩).size = x.size + 1 := by rw [ByteArray.size_append]; rfl
  rw [ByteArray.extract_append_eq_right e.symm (by rw [ByteArray.size_append])]
theorem spl_cons {sb : UInt8} {x : ByteArray} (h : Free sb x) (y : ByteArray) : spl sb (x ++ ⟨#[sb]⟩ ++ y) = x :: spl sb y := by
  unfold spl
  rw [cut_size]
  obtain ⟨k, hk⟩ : ∃ k, x.size + 1 + y.size = k + 1 := ⟨x.size + y.size, by omega⟩
  rw [hk, Lib.splitB_hit _ _ _ _ x.size (ix_cut h), Nat.add_zero, cut_left]
  have : (cm sb).size = 1 := rfl
  rw [this, cut_right, fuel (cm sb) (show 0 < (cm sb).size from Nat.one_pos) (k + y.size) k y.size y (by omega) (by omega) (by omega) (Nat.le_refl _)]
end Sp
