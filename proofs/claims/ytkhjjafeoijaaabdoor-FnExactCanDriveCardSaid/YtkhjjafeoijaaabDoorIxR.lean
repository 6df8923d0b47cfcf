/-
  strings.IndexRune of a rune beyond ASCII in a short ASCII text: -1.
-/
import Derived.Test.YtkhjjafeoijaaabDoorShelf
import Derived.Test.YtkhjjafeoijaaabDoorBase
import Derived.Deep.LoopGhost
import Derived.ScopeJumps
import Derived.Lib.IndexBytes
namespace Go.Proofs
open Go.RowKit
set_option linter.unusedVariables false
set_option linter.unusedSimpArgs false
theorem ixB_none (l : List UInt8) (c : UInt8) (h : c ∉ l) : Lib.indexByte l c = -1 := by
  have hg := Lib.indexByte_ge l c
  obtain ⟨r, hr⟩ : ∃ r, Lib.indexByte l c = r := ⟨_, rfl⟩
  rw [hr] at hg ⊢
  rcases (show r = -1 ∨ ∃ o : Nat, r = o by rcases (show r = -1 ∨ 0 ≤ r by omega) with q | q; exact .inl q; exact .inr ⟨r.toNat, by omega⟩) with q | ⟨o, q⟩
  · exact q
  · rw [q] at hr
    obtain ⟨h1, _⟩ := Lib.indexByte_some hr
    exact absurd (List.mem_of_getElem? h1) h
/-- how a rune beyond ASCII is written: two to four bytes, the last one beyond ASCII -/
theorem enc_hi (r : Int) (h : 128 ≤ r) (hv : Lib.validRune r = true) : ∃ m : Nat, (Utf8.encode r).size = m + 1 ∧ (1 ≤ m ∧ m ≤ 3) ∧ ∃ hn : m < (Utf8.encode r).size, 128 ≤ ((Utf8.encode r)[m]).toNat := by
  unfold Lib.validRune at hv
  have hv := of_decide_eq_true hv
  have hu : Utf8.valid r = true := by unfold Utf8.valid; simp; omega
  have hb : ∀ m : Nat, 128 ≤ (UInt8.ofNat (128 + m % 64)).toNat := fun m => by
    rw [UInt8.toNat_ofNat']
    omega
  unfold Utf8.encode
  rw [if_pos hu]
  dsimp only
  rw [if_neg (show ¬ r.toNat < 128 by omega)]
  split
  · exact ⟨1, rfl, by omega, by show 1 < 2; omega, hb _⟩
  · split
    · exact ⟨2, rfl, by omega, by show 2 < 3; omega, hb _⟩
    · exact ⟨3, rfl, by omega, by show 3 < 4; omega, hb _⟩
set_option maxRecDepth 100000 in
set_option maxHeartbeats 4000000 in
theorem Tryd.idxRune_hi (s : ByteArray) (hs : ∀ i, ∀ h : i < s.size, (s[i]).toNat < 128) (hsz : s.size ≤ 8) (r : Int) (h : 128 ≤ r) (hv : Lib.validRune r = true) (hne : r ≠ 65533) (w : World) :
    Calls Tryd.prog 60 #[.string s, .int .i32 r] w fun e w' => e = .returned (.int .i64 (-1)) ∧ Gr w w' := by
  have mixed : Tryd.prog.follows .mixedOrders = true := by kernel_rfl
  have HV := Lib.hid (fun (W : World) => Tryd.utf8_ValidRune r W)
  rw [hv] at HV
  obtain ⟨m, hE, hn2, hn, hb⟩ := enc_hi r h hv
  have hr0 : (0 : Int) ≤ r := by omega
  have hr1 : ¬ r < 128 := by omega
  have hr2 : (r == 65533) = false := by simpa using hne
  have HI := Lib.hid (fun (t : ByteArray) (W : World) => Tryd.strings_IndexByte t ((Utf8.encode r)[m]).toNat W)
  generalize hEE : Utf8.encode r = E at *
  have wz : IntKind.i64.wrap ((E.size : Int) - 1) = (m : Int) := by rw [show (E.size : Int) - 1 = (m : Int) by omega]; exact IntWalk.i64_in _ (by omega)
  have zm0 : (0 : Int) ≤ (m : Int) := by omega
  have zm1 : (m : Int) < (E.size : Int) := by omega
  have hm8 : m ≤ 3 := by omega
  have wm : IntKind.i64.wrap ((m : Int) + 1) = (m : Int) + 1 := IntWalk.i64_in _ (by omega)
  have HX := Lib.hid hE
  clear hE
  go_enter Tryd.func60, Tryd.ntmps60
  go_wp2_with (first | (go_at_call 73; refine (HV.out _).mono ?_; rintro e w1 ⟨rfl, rfl⟩))
  go_step3
  go_wp2_with fail
  refine wp_loop_rounds 1 ?_
  rw [rounds_succ]
  by_cases hlt : m < s.size
  · have y1 : (m : Int) < (s.size : Int) := by omega
    have hne2 : ((((s[m]'hlt).toNat : Nat) : Int) == (((E[m]'hn).toNat : Nat) : Int)) = false := by
      have := hs m hlt
      simp; omega
    have hne3 : ((((s[m]'hlt).toNat : Nat) : Int) != (((E[m]'hn).toNat : Nat) : Int)) = true := by simp [bne, hne2]
    have y2 : (0 : Int) ≤ (m : Int) + 1 := by omega
    have y3 : (m : Int) + 1 ≤ (s.size : Int) := by omega
    have n1 : ((m : Int) + 1).toNat = m + 1 := by omega
    have hnm : (E[m]'hn) ∉ (s.extract (m + 1) s.size).data.toList := by
      rw [Lib.extract_to_end]
      intro hc
      obtain ⟨i, hi, e⟩ := List.getElem_of_mem (List.mem_of_mem_drop hc)
      have hi' : i < s.size := by simpa using hi
      have := hs i hi'
      have e' : s[i] = E[m] := e
      rw [e'] at this
      omega
    have HJ := Lib.hid (fun (W : World) => show Calls Tryd.prog 72 #[.string (s.extract (m + 1) s.size), .int .u8 ((E[m]'hn).toNat : Nat)] W (fun e w' => e = .returned (.int .i64 (-1)) ∧ Gr W w') from (HI.out (s.extract (m + 1) s.size) W).mono (by
      rintro e w' ⟨rfl, rfl⟩
      refine ⟨?_, Gr.refl _⟩
      rw [ixB_none _ _ (by simpa using hnm)]))
    go_wp2_with fail
    go_step3
    go_wp2_with fail
    (refine wp_region_quiet_grown mixed (by kernel_rfl) ?_; (repeat (first | go_big_quiet_step ((fail)) | quiet_step ((fail)))); refine wpQuiet_nil ?_; intro _ hw'; obtain ⟨⟨nq, osq⟩, hw''⟩ := hw'; subst hw'')
    go_wp2_with fail
    (refine wp_region_quiet_grown mixed (by kernel_rfl) ?_; (repeat (first | go_big_quiet_step (first | (go_at_call 72; exact Calls.grown_of (HJ.out _))) | quiet_step (first | (go_at_call 72; exact Calls.grown_of (HJ.out _))))); refine wpQuiet_nil ?_; intro _ hw'; obtain ⟨⟨nq2, osq2⟩, hw''⟩ := hw'; subst hw'')
    go_wp2_with fail
    rw [Exit.noGoto_ret]
    simp only [Exit.inBlock, Exit.then, Exit.noGoto]
    go_ret
    exact ⟨rfl, Gr.grow (Gr.drewN (Gr.grow (Gr.drewN (Gr.refl _) _) _) _) _⟩
  · have y1 : ¬ (m : Int) < (s.size : Int) := by omega
    go_wp2_with fail
    go_ret
    exact ⟨rfl, Gr.refl _⟩
set_option maxRecDepth 100000 in
set_option maxHeartbeats 4000000 in
theorem Tryd.idxRune_err (s : ByteArray) (hs : ∀ i, ∀ h : i < s.size, (s[i]).toNat < 128) (hsz : s.size ≤ 8) (w : World) :
    Calls Tryd.prog 60 #[.string s, .int .i32 65533] w fun e w' => e = .returned (.int .i64 (-1)) ∧ Gr w w' := by
  have HS := Lib.hid hs
  clear hs
  go_enter Tryd.func60, Tryd.ntmps60
  go_wp2_with fail
  go_loopg [5] s.size (fun gk v wr => ∃ k, k + gk = s.size ∧ wr = w.iter s k)
  case atStart => exact ⟨0, by omega, rfl⟩
  case round =>
    obtain ⟨k, hk, rfl⟩ := hrel
    by_cases hlt : k < s.size
    · have h128 := HS.out k hlt
      have hnx := fun ty => run_next_ascii (P := Tryd.prog) w s k ty hlt h128
      have hne : (((s[k].toNat : Nat) : Int) == 65533) = false := by simp; omega
      go_wp2_with fail
      go_roundg (gk - 1)
      case rel => exact ⟨k + 1, by omega, rfl⟩
      case measure => omega
    · obtain rfl : k = s.size := by omega
      have hne := fun ty => run_next_end (P := Tryd.prog) w s s.size ty (by omega)
      go_wp2
      go_ret
      exact ⟨rfl, Gr.alloc (Gr.refl _) _⟩
end Go.Proofs
