/-
  Chapter 4: the way back, both sides (BackWay).
-/
import Derived.Test.YtkhjjafeoijaaabDoorOwD
import Derived.Test.YtkhjjafeoijaaabDoorRuA
namespace Go.Proofs
open Go.RowKit
set_option linter.unusedVariables false
set_option linter.unusedSimpArgs false
def SgP (s : ByteArray) : Prop := ∀ i, ∀ h : i < s.size, isSg (s[i]'h)
def bkT (s : ByteArray) : ByteArray := flL s.data.toList.reverse
def bkV (s : ByteArray) (b : Bool) : ByteArray := if b = true then bkT s else ⟨#[]⟩
theorem sz_one (c : UInt8) : (⟨#[c]⟩ : ByteArray).size = 1 := rfl
theorem not_trueU {b : Bool} {p : Prop} (hb : b = true ↔ p) (h : ¬ p) : b = false := by
  cases q : b
  · rfl
  · exact absurd (hb.1 q) h
theorem flL_cons (c : UInt8) (l : List UInt8) : flL (c :: l) = ⟨#[fl c]⟩ ++ flL l := by
  unfold flL
  apply ByteArray.ext
  simp
theorem flL_take (s : ByteArray) (k : Nat) (h : k < s.size) : flL (s.data.toList.take (k + 1)).reverse = ⟨#[fl (s[k]'h)]⟩ ++ flL (s.data.toList.take k).reverse := by
  rw [take_snocW s k h, List.reverse_append, List.reverse_cons, List.reverse_nil, List.nil_append, List.singleton_append, flL_cons]
theorem flL_drop (s : ByteArray) (k : Nat) (h : k < s.size) : flL (s.data.toList.drop k).reverse = flL (s.data.toList.drop (k + 1)).reverse ++ ⟨#[fl (s[k]'h)]⟩ := by
  have hk : k < s.data.toList.length := by simpa using h
  rw [List.drop_eq_getElem_cons hk, List.reverse_cons, flL_snoc]
  rfl
theorem sg_not {c : UInt8} (h : ¬ isSg c) : c ∉ (⟨#[101, 110, 115, 119]⟩ : ByteArray).data.toList := by
  intro m
  simp only [List.mem_cons, List.not_mem_nil, or_false] at m
  unfold isSg at h
  rcases m with e | e | e | e <;> simp [e] at h
theorem sg_lo {c : UInt8} (h : isSg c) : c.toNat < 128 := by rcases h with e | e | e | e <;> rw [e] <;> decide
theorem noSg_of {c : UInt8} {r : Int} (h : ¬ isSg c) {q k : Nat} (hr : (((c.toNat < 128 ∧ r = (c.toNat : Int)) ∧ q = k + 1) ∨ (128 ≤ c.toNat ∧ 128 ≤ r ∧ Lib.validRune r = true))) : NoSg (⟨#[101, 110, 115, 119]⟩ : ByteArray).data.toList r := by
  rcases hr with ⟨⟨h1, h2⟩, _⟩ | ⟨_, h1, h2⟩
  · exact .inl ⟨c, h2, h1, sg_not h⟩
  · exact .inr ⟨h1, h2⟩
set_option maxHeartbeats 1600000 in
theorem Tryd.backSign_no (w : World) (r : Int) (h : NoSg (⟨#[101, 110, 115, 119]⟩ : ByteArray).data.toList r) :
    Calls Tryd.prog 63 #[.int .i32 r] w fun e w' => e = .returned (.tuple #[.string ⟨#[]⟩, .bool false]) ∧ Gr w w' := by
  have HX := Lib.hid (fun (W : World) => Tryd.idxRune_no ⟨#[101, 110, 115, 119]⟩ (by
    intro i hi
    have hi4 : i < 4 := hi
    rcases (show i = 0 ∨ i = 1 ∨ i = 2 ∨ i = 3 by omega) with e | e | e | e <;> subst e
    · show (101 : UInt8).toNat < 128; decide
    · show (110 : UInt8).toNat < 128; decide
    · show (115 : UInt8).toNat < 128; decide
    · show (119 : UInt8).toNat < 128; decide) (by decide) r h W)
  clear h
  go_enter Tryd.func63, Tryd.ntmps63
  go_wp2_with (first | (go_at_call 60; refine (HX.out _).mono ?_; rintro e w1 ⟨rfl, hbW⟩))
  go_ret2
  exact ⟨rfl, by repeat (first | exact Gr.refl _ | refine Gr.alloc ?_ _ | refine Gr.trans ?_ (by assumption) | refine Gr.drew ?_ | refine Gr.drewN ?_ _ | refine Gr.grow ?_ _ | refine Gr.setCell ?_ (by (try simp); (try omega)) _)⟩
end Go.Proofs
