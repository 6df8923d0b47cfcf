/-
  Chapter 6: signs of the way back, texts with each way turned (the program), and ways with all turned (the model).
-/
import Derived.Test.YtjlbbkbcapleiaaDoorOwC
import Derived.Lib.OthersKept
import Derived.Deep.LoopGhost
namespace Go.Proofs
open Go.RowKit
set_option linter.unusedVariables false
set_option linter.unusedSimpArgs false
theorem Gr.iterAt {w w' : World} (h : Gr w w') {k : Nat} (hk : w.heap.size ≤ k) (s : ByteArray) (p : Nat) : Gr w (w'.iterAt k s p) := by
  obtain ⟨q, os, rfl⟩ := h
  refine ⟨q, os.setIfInBounds (k - w.heap.size) (.stringIter s p), ?_⟩
  unfold World.iterAt Go.Sort.grow
  congr 1
  exact Array.setIfInBounds_append_right hk
def isSg (c : UInt8) : Prop := c = 101 ∨ c = 119 ∨ c = 110 ∨ c = 115
/-- the sign of the way back -/
def fl (c : UInt8) : UInt8 := if c = 101 then 119 else if c = 119 then 101 else if c = 110 then 115 else 110
def flL (l : List UInt8) : ByteArray := ⟨(l.map fl).toArray⟩
def flB (s : ByteArray) : ByteArray := flL s.data.toList
theorem flL_snoc (l : List UInt8) (c : UInt8) : flL (l ++ [c]) = flL l ++ ⟨#[fl c]⟩ := by
  unfold flL
  apply ByteArray.ext
  simp
theorem flL_size (l : List UInt8) : (flL l).size = l.length := by unfold flL; simp [ByteArray.size]
theorem flB_size (s : ByteArray) : (flB s).size = s.size := by unfold flB; rw [flL_size]; simp
theorem take_snocW (s : ByteArray) (k : Nat) (h : k < s.size) : s.data.toList.take (k + 1) = s.data.toList.take k ++ [s[k]] := by
  rw [List.take_succ_eq_append_getElem (by simpa using h)]; rfl
theorem take_allW (s : ByteArray) : s.data.toList.take s.size = s.data.toList := List.take_of_length_le (by simp)
def wayB : ByteArray := ⟨#[101, 110, 115, 119]⟩
set_option maxHeartbeats 800000 in
theorem Tryd.backSign (w : World) (c : UInt8) (C : Int) (hC : (c.toNat : Int) = C) (hc : isSg c) :
    Calls Tryd.prog 35 #[.int .i32 C] w fun e w' => e = .returned (.tuple #[.string ⟨#[fl c]⟩, .bool true]) ∧ w = w' := by
  subst hC
  have HX := Lib.hid (fun (r : Int) (j : Int) (h0 : 0 ≤ r) (h1 : r < 128) (hj : Lib.indexByte [101, 110, 115, 119] r.toNat.toUInt8 = j) (W : World) => show Calls Tryd.prog 36 #[.string ⟨#[101, 110, 115, 119]⟩, .int .i32 r] W (fun e w' => e = .returned (.int .i64 j) ∧ w' = W) from hj ▸ Tryd.strings_IndexRune_ascii ⟨#[101, 110, 115, 119]⟩ r W h0 h1)
  rcases hc with rfl | rfl | rfl | rfl
  · have HY := Lib.hid (fun W => HX.out 101 0 (by decide) (by decide) (by decide) W)
    clear HX
    go_enter Tryd.func35, Tryd.ntmps35
    go_wp2_with (first | (go_at_call 36; refine (HY.out _).mono ?_; rintro e w1 ⟨rfl, rfl⟩))
    go_ret2
    exact ⟨rfl, rfl⟩
  · have HY := Lib.hid (fun W => HX.out 119 3 (by decide) (by decide) (by decide) W)
    clear HX
    go_enter Tryd.func35, Tryd.ntmps35
    go_wp2_with (first | (go_at_call 36; refine (HY.out _).mono ?_; rintro e w1 ⟨rfl, rfl⟩))
    go_ret2
    exact ⟨rfl, rfl⟩
  · have HY := Lib.hid (fun W => HX.out 110 1 (by decide) (by decide) (by decide) W)
    clear HX
    go_enter Tryd.func35, Tryd.ntmps35
    go_wp2_with (first | (go_at_call 36; refine (HY.out _).mono ?_; rintro e w1 ⟨rfl, rfl⟩))
    go_ret2
    exact ⟨rfl, rfl⟩
  · have HY := Lib.hid (fun W => HX.out 115 2 (by decide) (by decide) (by decide) W)
    clear HX
    go_enter Tryd.func35, Tryd.ntmps35
    go_wp2_with (first | (go_at_call 36; refine (HY.out _).mono ?_; rintro e w1 ⟨rfl, rfl⟩))
    go_ret2
    exact ⟨rfl, rfl⟩
set_option maxHeartbeats 1600000 in
theorem Tryd.turned (w : World) (s : ByteArray) (hs : s.size ≤ 8) (hc : ∀ i, ∀ hi : i < s.size, isSg s[i]) :
    Calls Tryd.prog 24 #[.string s] w fun e w' => e = .returned (.string (flB s)) ∧ Gr w w' := by
  have HC := Lib.hid hc
  clear hc
  go_enter Tryd.func24, Tryd.ntmps24
  go_wp2_with fail
  go_loopg [3] s.size (fun gk v wr => ∃ k, k + gk = s.size ∧ v = .string (flL (s.data.toList.take k)) ∧ wr = w.iter s k)
  case atStart => exact ⟨0, by omega, by simp [flL], rfl⟩
  case round =>
    obtain ⟨k, hk, rfl, rfl⟩ := hrel
    by_cases hlt : k < s.size
    · have hsg := HC.out k hlt
      have h128 : (s[k]).toNat < 128 := by rcases hsg with e | e | e | e <;> rw [e] <;> decide
      have hnx := fun ty => run_next_ascii (P := Tryd.prog) w s k ty hlt h128
      have HB := Lib.hid (fun (W : World) => Tryd.backSign W s[k] _ rfl hsg)
      have HS := Lib.hid (show flL (s.data.toList.take (k + 1)) = flL (s.data.toList.take k) ++ ⟨#[fl s[k]]⟩ by rw [take_snocW s k hlt, flL_snoc])
      have hz : (flL (s.data.toList.take k)).size ≤ 8 := by rw [flL_size, List.length_take]; omega
      have hz1 : (⟨#[fl s[k]]⟩ : ByteArray).size = 1 := rfl
      have hadd := fun W => run_string_add (P := Tryd.prog) (w := W) (flL (s.data.toList.take k)) ⟨#[fl s[k]]⟩ (by omega) (by rw [hz1]; decide)
      generalize flL (s.data.toList.take k) = S at *
      generalize s[k] = ch at *
      clear hsg h128 hz hz1
      go_wp2_with (first | (go_at_call 35; refine (HB.out _).mono ?_; rintro e w1 ⟨rfl, rfl⟩))
      go_roundg (gk - 1)
      case rel => exact ⟨k + 1, by omega, by rw [HS.out], rfl⟩
      case measure => omega
    · obtain rfl : k = s.size := by omega
      have hne := fun ty => run_next_end (P := Tryd.prog) w s s.size ty (by omega)
      have HT := Lib.hid (show flL (s.data.toList.take s.size) = flB s by rw [take_allW]; rfl)
      clear hk
      go_wp2
      go_ret
      exact ⟨congrArg (fun z => Ending.returned (Value.string z)) HT.out, Gr.alloc (Gr.refl _) _⟩
end Go.Proofs
