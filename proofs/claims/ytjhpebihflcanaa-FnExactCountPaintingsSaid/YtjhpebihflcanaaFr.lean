/-
  The head words of this program, read once: what is asked of them by every statement of the seat.
-/
import Derived.Test.YtjhpebihflcanaaRows
import Derived.JoinedOf
import Derived.KernelRfl
namespace Go.Proofs
def frW0 : List Nat := [104, 97, 114, 110, 101, 115, 115]
def frW1 : List Nat := [53, 97, 53, 49, 50, 50, 101, 100, 97, 57, 102, 100, 50, 57, 56, 57, 100, 52, 48, 48, 101, 98, 49, 52, 57, 48, 54, 48, 50, 51, 55, 102, 99, 52, 55, 56, 52, 102, 49, 55, 56, 55, 48, 100, 57, 49, 101, 100, 49, 52, 51, 99, 56, 54, 54, 101, 56, 102, 55, 98, 57, 57, 57, 102]
def frW2 : List Nat := [99, 117, 116]
def frRest : List Nat := [97, 116, 32, 108, 111, 111, 112, 46, 101, 120, 97, 109, 112, 108, 101, 47, 103, 48, 49, 51, 51, 54, 47, 108, 97, 119, 115, 46, 70, 110, 69, 120, 97, 99, 116, 76, 101, 97, 115, 116, 80, 97, 105, 110, 116, 32, 108, 111, 111, 112, 46, 101, 120, 97, 109, 112, 108, 101, 47, 103, 48, 49, 51, 51, 54, 47, 108, 97, 119, 115, 46, 70, 110, 69, 120, 97, 99, 116, 70, 105, 114, 115, 116, 80, 97, 105, 110, 116, 32, 108, 111, 111, 112, 46, 101, 120, 97, 109, 112, 108, 101, 47, 103, 48, 49, 51, 51, 54, 47, 108, 97, 119, 115, 46, 70, 110, 69, 120, 97, 99, 116, 67, 111, 117, 110, 116, 80, 97, 105, 110, 116, 32, 108, 111, 111, 112, 46, 101, 120, 97, 109, 112, 108, 101, 47, 103, 48, 49, 51, 51, 54, 47, 108, 97, 119, 115, 46, 70, 110, 69, 120, 97, 99, 116, 67, 111, 117, 110, 116, 80, 97, 105, 110, 116, 105, 110, 103, 115, 32, 108, 111, 111, 112, 46, 101, 120, 97, 109, 112, 108, 101, 47, 103, 48, 49, 51, 51, 54, 47, 108, 97, 119, 115, 46, 70, 110, 69, 120, 97, 99, 116, 66, 101, 115, 116, 76, 111, 111, 116, 32, 108, 111, 111, 112, 46, 101, 120, 97, 109, 112, 108, 101, 47, 103, 48, 49, 51, 51, 54, 47, 108, 97, 119, 115, 46, 70, 110, 69, 120, 97, 99, 116, 70, 105, 114, 115, 116, 76, 111, 111, 116, 32, 108, 111, 111, 112, 46, 101, 120, 97, 109, 112, 108, 101, 47, 103, 48, 49, 51, 51, 54, 47, 108, 97, 119, 115, 46, 70, 110, 69, 120, 97, 99, 116, 67, 111, 117, 110, 116, 76, 111, 111, 116, 115]
theorem ws_word (w : List Char) (h : w.all (fun c => c != Char.ofNat 32) = true) (r : List Char) : wordsSigns (w ++ Char.ofNat 32 :: r) = w :: wordsSigns r := by
  induction w with
  | nil => rfl
  | cons c w ih =>
    rw [List.all_cons, Bool.and_eq_true] at h
    have hc : c ≠ Char.ofNat 32 := by have := h.1; simpa using this
    rw [List.cons_append, wordsSigns.eq_3 c _ hc, ih h.2]
set_option maxRecDepth 100000 in
theorem Try.frWord : Try.prog.initOrder = String.ofList (frW0.map Char.ofNat ++ Char.ofNat 32 :: (frW1.map Char.ofNat ++ Char.ofNat 32 :: (frW2.map Char.ofNat ++ Char.ofNat 32 :: (frRest.map Char.ofNat)))) := by kernel_rfl
theorem Try.frSigns : wordsSigns Try.prog.initOrder.toList = frW0.map Char.ofNat :: frW1.map Char.ofNat :: frW2.map Char.ofNat :: wordsSigns (frRest.map Char.ofNat) := by
  rw [Try.frWord, String.toList_ofList, ws_word _ (by decide +kernel), ws_word _ (by decide +kernel), ws_word _ (by decide +kernel)]
theorem enter_of (P : Program) (X : List (List Char)) (h : wordsSigns P.initOrder.toList = frW0.map Char.ofNat :: frW1.map Char.ofNat :: frW2.map Char.ofNat :: X) (h1 : P.laysLater = false) (h2 : P.bearsReflect = false) (h3 : P.doorFits [] = true) : P.mayEnter = true := by
  unfold Program.mayEnter
  rw [h]
  generalize P.laysLater = a at *
  generalize P.bearsReflect = b at *
  subst h1 h2
  generalize hd : P.doorFits = d at *
  rw [show behindMainWord (frW0.map Char.ofNat :: frW1.map Char.ofNat :: frW2.map Char.ofNat :: X) = frW2.map Char.ofNat :: X by kernel_rfl]
  simp only [Bool.not_false, Bool.or_true, Bool.and_true]
  rw [show stripLifts liftWords (frW2.map Char.ofNat :: X) = ([], frW2.map Char.ofNat :: X) by kernel_rfl]
  simp only [h3]
  kernel_rfl
theorem make_of (P : Program) (X : List (List Char)) (h : wordsSigns P.initOrder.toList = frW0.map Char.ofNat :: frW1.map Char.ofNat :: frW2.map Char.ofNat :: X) : P.make = some Make.cut := by
  unfold Program.make
  rw [h, show behindMainWord (frW0.map Char.ofNat :: frW1.map Char.ofNat :: frW2.map Char.ofNat :: X) = frW2.map Char.ofNat :: X by kernel_rfl]
  generalize P.headLifts = q
  kernel_rfl
theorem lifts_of (P : Program) (X : List (List Char)) (h : wordsSigns P.initOrder.toList = frW0.map Char.ofNat :: frW1.map Char.ofNat :: frW2.map Char.ofNat :: X) : P.liftsFinal = false := by
  unfold Program.liftsFinal Program.headLifts
  rw [h, show behindMainWord (frW0.map Char.ofNat :: frW1.map Char.ofNat :: frW2.map Char.ofNat :: X) = frW2.map Char.ofNat :: X by kernel_rfl]
  kernel_rfl
theorem Try.frLifts : Try.prog.liftsFinal = false := lifts_of _ _ Try.frSigns
theorem Try.frEnter : Try.prog.mayEnter = true := enter_of _ _ Try.frSigns (by kernel_rfl) (by kernel_rfl) (by kernel_rfl)
theorem Try.frMake : Try.prog.make = some Make.cut := make_of _ _ Try.frSigns
end Go.Proofs
