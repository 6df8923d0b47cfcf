/-
  Chapter 6: turns of a word, the model (spec.TurnsOfWord).
-/
import Derived.Test.YtkhjjafeoijaaabRuT
import Derived.Test.YtkhjjafeoijaaabQTail
namespace Go.Proofs
open Go.RowKit
set_option linter.unusedVariables false
set_option linter.unusedSimpArgs false
def gB (s : ByteArray) (k : Nat) : UInt8 := s.data.toList.getD k 0
theorem gB_eq (s : ByteArray) (k : Nat) (h : k < s.size) : s[k]'h = gB s k := by
  unfold gB
  have hk : k < s.data.toList.length := by simpa using h
  rw [show s.data.toList.getD k 0 = s.data.toList[k]'hk by simp [List.getD, List.getElem?_eq_getElem hk]]
  rfl
/-- the turn at a sign: so many signs on -/
def tn (s : ByteArray) (k : Nat) : Nat := (4 + wy (gB s k) - wy (gB s (k - 1))) % 4
theorem tn_lt (s : ByteArray) (k : Nat) : tn s k < 4 := Nat.mod_lt _ (by decide)
/-- how many turns of a kind there are at the first k signs -/
def cn (s : ByteArray) (t : Nat) : Nat → Nat | 0 => 0 | k + 1 => cn s t k + (if 1 ≤ k ∧ tn s k = t then 1 else 0)
theorem cn_le (s : ByteArray) (t k : Nat) : cn s t k ≤ k := by
  induction k with
  | zero => exact Nat.le_refl _
  | succ k ih => unfold cn; split <;> omega
theorem cn_mono (s : ByteArray) (t k m : Nat) : cn s t k ≤ cn s t (k + m) := by
  induction m with
  | zero => exact Nat.le_refl _
  | succ m ih => rw [← Nat.add_assoc, cn]; omega
theorem cn_one (s : ByteArray) (t : Nat) : cn s t 1 = 0 := by unfold cn cn; simp
theorem cn_s (s : ByteArray) (t k : Nat) (h : 1 ≤ k) : cn s t (k + 1) = cn s t k + (if tn s k = t then 1 else 0) := by
  rw [cn]; simp [h]
def TwP (s : ByteArray) : Prop := s.size ≤ 100 ∧ SgP s ∧ cn s 2 s.size = 0
def twV (s : ByteArray) (b : Bool) (t : Nat) : Int := if b = true then (cn s t s.size : Int) else 0
def TwR (s : ByteArray) (w : World) (l r i : Value) (wr : World) : Prop := Gr w wr ∧ ∃ k : Nat, k ≤ s.size ∧ i = .int .i64 k ∧ l = .int .i64 (cn s 1 k) ∧ r = .int .i64 (cn s 3 k) ∧ cn s 2 k = 0 ∧ ∀ i, ∀ h : i < s.size, i < k → isSg (s[i]'h)
set_option maxRecDepth 100000 in
set_option maxHeartbeats 1600000 in
theorem Try.sTurnsOfWord (w : World) (s : ByteArray) (hs : s.size ≤ maxLen) (b : Bool) (hb : b = true ↔ TwP s) (l r : Int) (hlv : twV s b 1 = l) (hrv : twV s b 3 = r) :
    Calls Try.prog 6 #[.string s] w fun e w' => e = .returned (.tuple #[.int .i64 l, .int .i64 r, .bool b]) ∧ Gr w w' := by
  have mixed : Try.prog.follows .mixedOrders = true := by kernel_rfl
  unfold maxLen at hs
  have HB := Lib.hid hb
  have HLV := Lib.hid hlv
  have HRV := Lib.hid hrv
  by_cases hl : s.size ≤ 100
  · clear hb hlv hrv
    go_enter Try.func6, Try.ntmps6
    go_wp2_with fail
    go_loopw [5, 6, 7] (fun lv rv i wr => TwR s w lv rv i wr) (fun _ _ i _ => (s.size - intOf i).toNat)
    case atStart => exact ⟨Gr.refl _, 0, Nat.zero_le _, rfl, rfl, rfl, rfl, fun i _ h => by omega⟩
    case round =>
      obtain ⟨gr, k, hk, rfl, rfl, rfl, h2, hall⟩ := hrel
      have HG := Lib.hid gr
      have HA := Lib.hid hall
      have H2 := Lib.hid h2
      by_cases hlt : k < s.size
      · have z0 : (0 : Int) ≤ (k : Int) := by omega
        have z1 : (k : Int) < (s.size : Int) := by omega
        by_cases hsg : isSg (s[k]'hlt)
        · have HSI := Lib.hid (Try.owSign wr s[k] true ⟨fun _ => hsg, fun _ => rfl⟩)
          have HN := Lib.hid (show ∀ i, ∀ h : i < s.size, i < k + 1 → isSg (s[i]'h) from fun i h hi => by
            by_cases e : i = k
            · subst e; exact hsg
            · exact HA.out i h (by omega))
          rcases Nat.eq_zero_or_pos k with k0 | kpos
          · have d0 : ((k : Int) == 0) = true := by simp; omega
            have HC := Lib.hid (show cn s 1 (k + 1) = cn s 1 k ∧ cn s 3 (k + 1) = cn s 3 k ∧ cn s 2 (k + 1) = 0 by subst k0; exact ⟨cn_one _ _, cn_one _ _, cn_one _ _⟩)
            clear gr hall h2 hsg k0
            generalize cn s 1 k = c1 at *
            generalize cn s 3 k = c3 at *
            go_wp2_with (first | (go_at_call 20; refine (HSI.out).mono ?_; rintro e w1 ⟨rfl, rfl⟩))
            go_roundw
            case rel => exact ⟨HG.out, k + 1, by omega, by go_num, by rw [HC.out.1], by rw [HC.out.2.1], HC.out.2.2, HN.out⟩
            case measure => simp [intOf]; omega
          · obtain ⟨m, hm⟩ : ∃ m, k = m + 1 := ⟨k - 1, by omega⟩
            have hml : m < s.size := by omega
            have y0 : (0 : Int) ≤ (m : Int) := by omega
            have y1 : (m : Int) < (s.size : Int) := by omega
            have wi : IntKind.i64.wrap ((k : Int) - 1) = (m : Int) := by rw [show (k : Int) - 1 = (m : Int) by omega]; exact IntWalk.i64_in _ (by omega)
            have d0 : ((k : Int) == 0) = false := by simp; omega
            have hsm := HA.out m hml (by omega)
            have h0 := wy_lt (s[k]'hlt)
            have h1 := wy_lt (s[m]'hml)
            have HT := Lib.hid (show tn s k = (4 + wy (s[k]'hlt) - wy (s[m]'hml)) % 4 by unfold tn; rw [gB_eq s k hlt, gB_eq s m hml, hm, Nat.add_sub_cancel])
            have HTL := Lib.hid (tn_lt s k)
            have HW := Lib.hid (fun (c : UInt8) (p : Nat) (q : isSg c ∧ wy c = p) (W : World) => show Calls Try.prog 21 #[.int .u8 (c.toNat : Int)] W (fun e w' => e = .returned (.int .i64 p) ∧ Gr W w') from q.2 ▸ Try.owWay W (wy c) (wy_lt c) _ (wy_sr q.1))
            obtain ⟨p0, hp0⟩ : ∃ p, wy (s[k]'hlt) = p := ⟨_, rfl⟩
            obtain ⟨p1, hp1⟩ : ∃ p, wy (s[m]'hml) = p := ⟨_, rfl⟩
            rw [hp0] at h0
            rw [hp1] at h1
            rw [hp0, hp1] at HT
            have HX0 := Lib.hid (And.intro hsg hp0)
            have HX1 := Lib.hid (And.intro hsm hp1)
            have C1 := Lib.hid (cn_s s 1 k kpos)
            have C2 := Lib.hid (cn_s s 2 k kpos)
            have C3 := Lib.hid (cn_s s 3 k kpos)
            have b1 := cn_le s 1 k
            have b3 := cn_le s 3 k
            have HM := Lib.hid hm
            clear gr hall h2 hsm hp0 hp1 hm
            generalize cn s 1 k = c1 at *
            generalize cn s 3 k = c3 at *
            generalize tn s k = T at *
            have w1 : IntKind.i64.wrap (4 + (p0 : Int)) = 4 + (p0 : Int) := IntWalk.i64_in _ (by omega)
            have w2 : IntKind.i64.wrap (4 + (p0 : Int) - (p1 : Int)) = 4 + (p0 : Int) - (p1 : Int) := IntWalk.i64_in _ (by omega)
            have tm : Int.tmod (4 + (p0 : Int) - (p1 : Int)) 4 = (T : Int) := by rw [HT.out, Int.tmod_eq_emod_of_nonneg (by omega)]; omega
            have tl : T = 0 ∨ T = 1 ∨ T = 2 ∨ T = 3 := by have := HTL.out; omega
            rcases tl with rfl | rfl | rfl | rfl
            · go_wp2_with (first | (go_at_call 20; refine (HSI.out).mono ?_; rintro e w1 ⟨rfl, rfl⟩))
              (refine wp_region_quiet_grown mixed (by kernel_rfl) ?_; (repeat (first | go_big_quiet_step ((go_at_call 21; exact Calls.grown_of (HW.out _ _ (by first | exact HX0.out | exact HX1.out) _))) | quiet_step ((go_at_call 21; exact Calls.grown_of (HW.out _ _ (by first | exact HX0.out | exact HX1.out) _))))); refine wpQuiet_nil ?_; intro _ hw'; obtain ⟨⟨nq, osq⟩, hw''⟩ := hw'; subst hw'')
              go_wp2
              go_roundw
              case rel => exact ⟨HG.out.trans (by repeat (first | exact Gr.refl _ | refine Gr.alloc ?_ _ | refine Gr.trans ?_ (by assumption) | refine Gr.drew ?_ | refine Gr.drewN ?_ _ | refine Gr.grow ?_ _ | refine Gr.setCell ?_ (by (try simp); (try omega)) _)), k + 1, by omega, by go_num, by rw [C1.out]; simp, by rw [C3.out]; simp, by rw [C2.out, H2.out]; rfl, HN.out⟩
              case measure => simp [intOf]; omega
            · go_wp2_with (first | (go_at_call 20; refine (HSI.out).mono ?_; rintro e w1 ⟨rfl, rfl⟩))
              (refine wp_region_quiet_grown mixed (by kernel_rfl) ?_; (repeat (first | go_big_quiet_step ((go_at_call 21; exact Calls.grown_of (HW.out _ _ (by first | exact HX0.out | exact HX1.out) _))) | quiet_step ((go_at_call 21; exact Calls.grown_of (HW.out _ _ (by first | exact HX0.out | exact HX1.out) _))))); refine wpQuiet_nil ?_; intro _ hw'; obtain ⟨⟨nq, osq⟩, hw''⟩ := hw'; subst hw'')
              go_wp2
              go_roundw
              case rel => exact ⟨HG.out.trans (by repeat (first | exact Gr.refl _ | refine Gr.alloc ?_ _ | refine Gr.trans ?_ (by assumption) | refine Gr.drew ?_ | refine Gr.drewN ?_ _ | refine Gr.grow ?_ _ | refine Gr.setCell ?_ (by (try simp); (try omega)) _)), k + 1, by omega, by go_num, by rw [C1.out]; simp, by rw [C3.out]; simp, by rw [C2.out, H2.out]; rfl, HN.out⟩
              case measure => simp [intOf]; omega
            · have HF := Lib.hid (show b = false from not_trueU HB.out (fun c => by
                have q1 := cn_mono s 2 (k + 1) (s.size - (k + 1))
                rw [show k + 1 + (s.size - (k + 1)) = s.size by omega, c.2.2, C2.out] at q1
                simp at q1))
              have HL0 := Lib.hid (show l = 0 by rw [← HLV.out, HF.out]; rfl)
              have HR0 := Lib.hid (show r = 0 by rw [← HRV.out, HF.out]; rfl)
              go_wp2_with (first | (go_at_call 20; refine (HSI.out).mono ?_; rintro e w1 ⟨rfl, rfl⟩))
              (refine wp_region_quiet_grown mixed (by kernel_rfl) ?_; (repeat (first | go_big_quiet_step ((go_at_call 21; exact Calls.grown_of (HW.out _ _ (by first | exact HX0.out | exact HX1.out) _))) | quiet_step ((go_at_call 21; exact Calls.grown_of (HW.out _ _ (by first | exact HX0.out | exact HX1.out) _))))); refine wpQuiet_nil ?_; intro _ hw'; obtain ⟨⟨nq, osq⟩, hw''⟩ := hw'; subst hw'')
              go_wp2
              go_ret3
              exact ⟨by rw [HF.out, HL0.out, HR0.out]; rfl, HG.out.trans (by repeat (first | exact Gr.refl _ | refine Gr.alloc ?_ _ | refine Gr.trans ?_ (by assumption) | refine Gr.drew ?_ | refine Gr.drewN ?_ _ | refine Gr.grow ?_ _ | refine Gr.setCell ?_ (by (try simp); (try omega)) _))⟩
            · go_wp2_with (first | (go_at_call 20; refine (HSI.out).mono ?_; rintro e w1 ⟨rfl, rfl⟩))
              (refine wp_region_quiet_grown mixed (by kernel_rfl) ?_; (repeat (first | go_big_quiet_step ((go_at_call 21; exact Calls.grown_of (HW.out _ _ (by first | exact HX0.out | exact HX1.out) _))) | quiet_step ((go_at_call 21; exact Calls.grown_of (HW.out _ _ (by first | exact HX0.out | exact HX1.out) _))))); refine wpQuiet_nil ?_; intro _ hw'; obtain ⟨⟨nq, osq⟩, hw''⟩ := hw'; subst hw'')
              go_wp2
              go_roundw
              case rel => exact ⟨HG.out.trans (by repeat (first | exact Gr.refl _ | refine Gr.alloc ?_ _ | refine Gr.trans ?_ (by assumption) | refine Gr.drew ?_ | refine Gr.drewN ?_ _ | refine Gr.grow ?_ _ | refine Gr.setCell ?_ (by (try simp); (try omega)) _)), k + 1, by omega, by go_num, by rw [C1.out]; simp, by rw [C3.out]; simp, by rw [C2.out, H2.out]; rfl, HN.out⟩
              case measure => simp [intOf]; omega
        · have HSI := Lib.hid (Try.owSign wr s[k] false ⟨fun q => (by cases q), fun q => absurd q hsg⟩)
          have HF := Lib.hid (show b = false from not_trueU HB.out (fun c => hsg (c.2.1 k hlt)))
          have HL0 := Lib.hid (show l = 0 by rw [← HLV.out, HF.out]; rfl)
          have HR0 := Lib.hid (show r = 0 by rw [← HRV.out, HF.out]; rfl)
          clear gr hall h2 hsg
          generalize cn s 1 k = c1 at *
          generalize cn s 3 k = c3 at *
          go_wp2_with (first | (go_at_call 20; refine (HSI.out).mono ?_; rintro e w1 ⟨rfl, rfl⟩))
          go_ret3
          exact ⟨by rw [HF.out, HL0.out, HR0.out]; rfl, HG.out⟩
      · obtain rfl : k = s.size := by omega
        have HF := Lib.hid (show b = true from HB.out.2 ⟨hl, fun i h => HA.out i h h, h2⟩)
        have HL0 := Lib.hid (show (cn s 1 s.size : Int) = l by rw [← HLV.out, HF.out]; rfl)
        have HR0 := Lib.hid (show (cn s 3 s.size : Int) = r by rw [← HRV.out, HF.out]; rfl)
        clear gr hall h2
        generalize cn s 1 s.size = c1 at *
        generalize cn s 3 s.size = c3 at *
        go_wp2
        go_ret3
        exact ⟨by rw [HF.out, ← HL0.out, ← HR0.out]; rfl, HG.out⟩
  · have HF := Lib.hid (show b = false from not_trueU hb (fun c => hl c.1))
    have HL0 := Lib.hid (show l = 0 by rw [← HLV.out, HF.out]; rfl)
    have HR0 := Lib.hid (show r = 0 by rw [← HRV.out, HF.out]; rfl)
    clear hb hlv hrv
    go_enter Try.func6, Try.ntmps6
    go_wp2
    go_ret3
    exact ⟨by rw [HF.out, HL0.out, HR0.out]; rfl, by repeat (first | exact Gr.refl _ | refine Gr.alloc ?_ _ | refine Gr.trans ?_ (by assumption) | refine Gr.drew ?_ | refine Gr.drewN ?_ _ | refine Gr.grow ?_ _ | refine Gr.setCell ?_ (by (try simp); (try omega)) _)⟩
end Go.Proofs
