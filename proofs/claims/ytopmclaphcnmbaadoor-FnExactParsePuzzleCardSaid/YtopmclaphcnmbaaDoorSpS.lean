/-
  A text cut at a byte: plain (how many pieces, how long), and what lies in a list of texts.
-/
import Derived.Test.YtopmclaphcnmbaaDoorSpM
namespace Sp
open Go
theorem spl_pos (sb : UInt8) (t : ByteArray) : 0 < (spl sb t).length := by
  unfold spl
  cases t.size with
  | zero => simp [Lib.splitB]
  | succ k => unfold Lib.splitB; split <;> simp
theorem spl_size (sb : UInt8) (t : ByteArray) : ∀ x, x ∈ spl sb t → x.size ≤ t.size := by
  unfold spl
  have key : ∀ (k : Nat) (s : ByteArray), s.size ≤ t.size → ∀ x, x ∈ Lib.splitB (cm sb) 0 k s → x.size ≤ t.size := by
    intro k
    induction k with
    | zero => intro s hs x hx; simp [Lib.splitB] at hx; subst hx; exact hs
    | succ k ih =>
      intro s hs x hx
      unfold Lib.splitB at hx
      split at hx
      · simp at hx; subst hx; exact hs
      · rcases List.mem_cons.1 hx with rfl | hx
        · rw [ByteArray.size_extract]; omega
        · exact ih _ (by rw [ByteArray.size_extract]; omega) x hx
  exact key _ _ (Nat.le_refl _)
theorem spl_len (sb : UInt8) (t : ByteArray) : (spl sb t).length ≤ t.size + 1 := Lib.splitB_length_le _ _ _ _
end Sp
namespace Go.Proofs
open Go.RowKit Sp
set_option linter.unusedVariables false
set_option linter.unusedSimpArgs false
theorem ne_txt {s t : ByteArray} (h : ¬ s = t) : (s.toList == t.toList) = false := by
  rw [beq_eq_false_iff_ne]
  intro e
  rw [Lib.toList_data, Lib.toList_data] at e
  exact h (ByteArray.ext (Array.toList_inj.1 e))
theorem ownS_ge {w : World} {B g n c : Nat} {v : Value} {xs : List ByteArray} (h : OwnS w B v xs) (hpos : 0 < xs.length) (hv : v = .slice (some ⟨g, 0, none⟩) n c) : B ≤ g := by
  rcases h.2 with ⟨_, hn⟩ | ⟨g', cap, cur, e, hb, _⟩
  · omega
  · rw [hv] at e; cases e; exact hb
end Go.Proofs
