/-
  Ranges over any text: what comes next is a byte below 128, or a rune from 128 on; strings.IndexRune of what is no sign.
-/
import Derived.Test.YtkhjjafeoijaaabDoorIxR
import Derived.Laws.RangeAny
import Derived.Lib.MapLaws
namespace Go.Proofs
open Go.RowKit
set_option linter.unusedVariables false
set_option linter.unusedSimpArgs false
theorem dec_val (n b0 b1 b2 b3 : Nat) : Lib.validRune ((Lib.decodeN n b0 b1 b2 b3).1 : Int) = true := by
  unfold Lib.validRune
  rcases Lib.decodeN_shape n b0 b1 b2 b3 with ⟨h, e⟩ | ⟨h1, h2, h3, h4, e⟩ | ⟨h1, h2, h3, h4, h5, h6, e⟩ | ⟨h1, h2, h3, h4, h5, h6, h7, e⟩ | e
  all_goals rw [e]
  all_goals refine decide_eq_true ?_
  all_goals dsimp only
  all_goals omega
theorem decode_val (s : ByteArray) (p : Nat) : Lib.validRune ((Utf8.decode s p).1 : Int) = true := by rw [Lib.decode_at]; exact dec_val _ _ _ _ _
/-- the rune that begins at a byte -/
theorem next_at {P : Program} (w : World) (s : ByteArray) (k : Nat) (h : k < s.size) : ∃ (r : Int) (q : Nat), (∀ ty, (Instr.next (.pointer (some ⟨w.heap.size, 0, none⟩)) true ty).run P (w.iter s k) = .ok (.tuple #[.bool true, .int .i64 k, .int .i32 r]) (w.iter s q)) ∧
    ((((s[k]'h).toNat < 128 ∧ r = ((s[k]'h).toNat : Int)) ∧ q = k + 1) ∨ (128 ≤ (s[k]'h).toNat ∧ 128 ≤ r ∧ Lib.validRune r = true)) := by
  by_cases c : (s[k]'h).toNat < 128
  · exact ⟨_, k + 1, fun ty => run_next_ascii w s k ty h c, .inl ⟨⟨c, rfl⟩, rfl⟩⟩
  · have hd := decode_high s k h (by omega)
    exact ⟨_, _, fun ty => run_next_any w s k ty h, .inr ⟨by omega, by have := hd.1; omega, decode_val s k⟩⟩
/-- a rune that is none of the signs of an ASCII text -/
def NoSg (l : List UInt8) (r : Int) : Prop := (∃ c : UInt8, r = (c.toNat : Int) ∧ c.toNat < 128 ∧ c ∉ l) ∨ (128 ≤ r ∧ Lib.validRune r = true)
set_option maxHeartbeats 1600000 in
theorem Tryd.idxRune_no (s : ByteArray) (hs : ∀ i, ∀ h : i < s.size, (s[i]).toNat < 128) (hsz : s.size ≤ 8) (r : Int) (h : NoSg s.data.toList r) (w : World) :
    Calls Tryd.prog 60 #[.string s, .int .i32 r] w fun e w' => e = .returned (.int .i64 (-1)) ∧ Gr w w' := by
  rcases h with ⟨c, rfl, h1, h2⟩ | ⟨h1, h2⟩
  · refine (Tryd.strings_IndexRune_ascii s c.toNat w (by omega) (by omega)).mono ?_
    rintro e w' ⟨he, rfl⟩
    refine ⟨?_, Gr.refl _⟩
    rw [he]
    have : ((c.toNat : Int)).toNat.toUInt8 = c := by simp
    rw [this, ixB_none _ _ h2]
  · by_cases c : r = 65533
    · subst c; exact Tryd.idxRune_err s hs hsz w
    · exact Tryd.idxRune_hi s hs hsz r h1 h2 c w
end Go.Proofs
