/-
  Chapter 6: signs of the way back, texts with each way turned (the program), and ways with all turned (the model).
-/
import Derived.Test.YtfdiiichjopncaaDoorOwC
import Derived.Lib.OthersKept
import Derived.Deep.LoopGhost
namespace Go.Proofs
open Go.RowKit
set_option linter.unusedVariables false
set_option linter.unusedSimpArgs false
theorem Gr.iterAt {w w' : World} (h : Gr w w') {k : Nat} (hk : w.heap.size ≤ k) (s : ByteArray) (p : Nat) : Gr w (w'.iterAt k s p) := by
  obtain ⟨q, os, rfl⟩ := h
  refine ⟨q, os.setIfInBounds (k - w.heap.size) (.stringIter s p), ?_⟩
  unfold World.iterAt Go.Sort.grow
  congr 1
  exact Array.setIfInBounds_append_right hk
def isSg (c : UInt8) : Prop := c = 101 ∨ c = 119 ∨ c = 110 ∨ c = 115
/-- the sign of the way back -/
def fl (c : UInt8) : UInt8 := if c = 101 then 119 else if c = 119 then 101 else if c = 110 then 115 else 110
def flL (l : List UInt8) : ByteArray := ⟨(l.map fl).toArray⟩
def flB (s : ByteArray) : ByteArray := flL s.data.toList
theorem flL_snoc (l : List UInt8) (c : UInt8) : flL (l ++ [c]) = flL l ++ ⟨#[fl c]⟩ := by
  unfold flL
  apply ByteArray.ext
  simp
theorem flL_size (l : List UInt8) : (flL l).size = l.length := by unfold flL; simp [ByteArray.size]
theorem flB_size (s : ByteArray) : (flB s).size = s.size := by unfold flB; rw [flL_size]; simp
theorem take_snocW (s : ByteArray) (k : Nat) (h : k < s.size) : s.data.toList.take (k + 1) = s.data.toList.take k ++ [s[k]] := by
  rw [List.take_succ_eq_append_getElem (by simpa using h)]; rfl
theorem take_allW (s : ByteArray) : s.data.toList.take s.size = s.data.toList := List.take_of_length_le (by simp)
def wayB : ByteArray := ⟨#[101, 110, 115, 119]⟩
end Go.Proofs
