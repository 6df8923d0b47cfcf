/-
  strings.Cut at whatever one byte.
-/
import Derived.Test.YtopmclaphcnmbaaDoorSpG
import Derived.Test.YtopmclaphcnmbaaDoorQTail
import Derived.Test.YtopmclaphcnmbaaDoorShelf
namespace Go.Proofs
open Go.RowKit Sp
set_option linter.unusedVariables false
set_option linter.unusedSimpArgs false
def ixc (sb : UInt8) (t : ByteArray) : Int := Lib.indexByte t.data.toList sb
def pw1 (sb : UInt8) (t : ByteArray) : ByteArray := if ixc sb t < 0 then t else t.extract 0 (ixc sb t).toNat
def pw2 (sb : UInt8) (t : ByteArray) : ByteArray := if ixc sb t < 0 then ⟨#[]⟩ else t.extract ((ixc sb t).toNat + 1) t.size
theorem ixc_cases (sb : UInt8) (t : ByteArray) : ixc sb t = -1 ∨ ∃ o : Nat, ixc sb t = o ∧ ∃ h : o < t.size, t[o] = sb := by
  have hg := Lib.indexByte_ge t.data.toList sb
  unfold ixc
  obtain ⟨r, hr⟩ : ∃ r, Lib.indexByte t.data.toList sb = r := ⟨_, rfl⟩
  rw [hr] at hg ⊢
  rcases (show r = -1 ∨ ∃ o : Nat, r = o by rcases (show r = -1 ∨ 0 ≤ r by omega) with h | h; exact .inl h; exact .inr ⟨r.toNat, by omega⟩) with h | ⟨o, h⟩
  · exact .inl h
  · rw [h] at hr
    obtain ⟨h1, _⟩ := Lib.indexByte_some hr
    obtain ⟨hl, h2⟩ := List.getElem?_eq_some_iff.1 h1
    exact .inr ⟨o, h, by simpa using hl, h2⟩
theorem pw_size (sb : UInt8) (t : ByteArray) : (pw1 sb t).size ≤ t.size ∧ (pw2 sb t).size ≤ t.size := by
  unfold pw1 pw2
  constructor
  · split
    · exact Nat.le_refl _
    · rw [ByteArray.size_extract]; omega
  · split
    · exact Nat.zero_le _
    · rw [ByteArray.size_extract]; omega
set_option maxRecDepth 100000 in
set_option maxHeartbeats 800000 in
theorem Tryd.slCut (sb : UInt8) (w : World) (t : ByteArray) (ht : t.size ≤ maxLen) :
    Calls Tryd.prog 24 #[.string t, .string ⟨#[sb]⟩] w fun e w' => (∃ b, e = .returned (.tuple #[.string (pw1 sb t), .string (pw2 sb t), .bool b])) ∧ Gr w w' := by
  have mixed : Tryd.prog.follows .mixedOrders = true := by kernel_rfl
  have HI := Lib.hid (fun (W : World) => Tryd.stringslite_Index_one t sb W)
  change Hid (∀ W, Calls Tryd.prog 40 #[.string t, .string ⟨#[sb]⟩] W fun e w' => e = .returned (.int .i64 (ixc sb t)) ∧ w' = W) at HI
  rcases ixc_cases sb t with h | ⟨o, h, ho, hc⟩
  · have e1 : pw1 sb t = t := by unfold pw1; rw [if_pos (by omega)]
    have e2 : pw2 sb t = ⟨#[]⟩ := by unfold pw2; rw [if_pos (by omega)]
    rw [e1, e2]
    rw [h] at HI
    go_enter Tryd.func24, Tryd.ntmps24
    go_wp2_with (first | (go_at_call 40; refine (HI.out _).mono ?_; rintro e w1 ⟨rfl, rfl⟩))
    go_ret3
    exact ⟨⟨_, rfl⟩, Gr.refl _⟩
  · have e1 : pw1 sb t = t.extract 0 o := by unfold pw1; rw [h, if_neg (by omega), Int.toNat_natCast]
    have e2 : pw2 sb t = t.extract (o + 1) t.size := by unfold pw2; rw [h, if_neg (by omega), Int.toNat_natCast]
    rw [e1, e2]
    rw [h] at HI
    unfold maxLen at ht
    have z0 : (0 : Int) ≤ (o : Int) := by omega
    have z1 : (o : Int) ≤ (t.size : Int) := by omega
    have z2 : (0 : Int) ≤ (o : Int) + 1 := by omega
    have z3 : (o : Int) + 1 ≤ (t.size : Int) := by omega
    have n1 : ((o : Int) + 1).toNat = o + 1 := by omega
    have wr1 : IntKind.i64.wrap ((o : Int) + 1) = (o : Int) + 1 := IntWalk.i64_in _ (by omega)
    clear h hc e1 e2
    go_enter Tryd.func24, Tryd.ntmps24
    go_wp2_with (first | (go_at_call 40; refine (HI.out _).mono ?_; rintro e w1 ⟨rfl, rfl⟩))
    (refine wp_region_quiet_grown mixed (by kernel_rfl) ?_; (repeat (first | go_big_quiet_step ((fail)) | quiet_step ((fail)))); refine wpQuiet_nil ?_; intro _ hw'; obtain ⟨⟨nq, osq⟩, hw''⟩ := hw'; subst hw'')
    go_wp2_with fail
    go_ret3
    exact ⟨⟨_, rfl⟩, Gr.grow (Gr.drewN (Gr.refl _) _) _⟩
set_option maxHeartbeats 800000 in
theorem Tryd.strCut (sb : UInt8) (w : World) (t : ByteArray) (ht : t.size ≤ maxLen) :
    Calls Tryd.prog 10 #[.string t, .string ⟨#[sb]⟩] w fun e w' => (∃ b, e = .returned (.tuple #[.string (pw1 sb t), .string (pw2 sb t), .bool b])) ∧ Gr w w' := by
  have HI := Lib.hid (fun (W : World) => Tryd.slCut sb W t ht)
  generalize pw1 sb t = p1 at *
  generalize pw2 sb t = p2 at *
  clear ht
  go_enter Tryd.func10, Tryd.ntmps10
  go_wp2_with (first | (go_at_call 24; refine (HI.out _).mono ?_; rintro e w1 ⟨⟨b, rfl⟩, g1⟩))
  go_ret3
  exact ⟨⟨_, rfl⟩, g1⟩
end Go.Proofs
