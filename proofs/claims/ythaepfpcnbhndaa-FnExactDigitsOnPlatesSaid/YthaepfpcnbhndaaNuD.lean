/-
  Contracts of chapter 1: digits on plates, a digit counted.
-/
import Derived.Test.YthaepfpcnbhndaaNuI
import Derived.Test.YthaepfpcnbhndaaNuMath
import Derived.LoopTactic
namespace Go.Proofs
open Go.RowKit Nu
set_option linter.unusedVariables false
set_option linter.unusedSimpArgs false
def DRel (m : Int) (c u : Value) : Prop := ∃ i : Nat, i ≤ 7 ∧ (∀ j, j < i → tp j ≤ m) ∧ c = .int .i64 (cs m i) ∧ u = .int .i64 (tp i)
theorem below_succ {m : Int} {i : Nat} (ha : ∀ j, j < i → tp j ≤ m) (h : tp i ≤ m) : ∀ j, j < i + 1 → tp j ≤ m := fun j hj => by
  rcases Nat.lt_or_eq_of_le (Nat.le_of_lt_succ hj) with c | c
  · exact ha j c
  · rw [c]; exact h
set_option maxHeartbeats 400000 in
theorem Try.digitsUpTo (m : Int) (h : 1 ≤ m) (g : m ≤ 1000000) (w : World) :
    Calls Try.prog 68 #[.int .i64 m] w fun e w' => e = .returned (.int .i64 (dsum m)) ∧ w = w' := by
  go_enter Try.func68, Try.ntmps68
  go_wp2
  go_loop [3, 4] (fun c u => DRel m c u) (fun _ u => (10000000 - intOf u).toNat)
  case atStart => exact ⟨0, by omega, fun j hj => absurd hj (Nat.not_lt_zero _), rfl, rfl⟩
  case round =>
    obtain ⟨i, hi, ha, rfl, rfl⟩ := hrel
    obtain ⟨u1, u2⟩ := tp_bd i
    obtain ⟨c1, c2⟩ := cs_bd m i hi h g
    by_cases hle : tp i ≤ m
    · have hlt := tp_lt i m g hle
      have es : cs m (i + 1) = cs m i + (m - tp i + 1) := rfl
      have et := tp_succ i hlt
      have HA := Lib.hid (below_succ ha hle)
      have ES := Lib.hid es
      have ET := Lib.hid et
      clear es et ha
      go_wp2
      go_round
      case rel => exact ⟨i + 1, by omega, HA.out, by rw [ES.out], by rw [ET.out]⟩
      case measure => simp [intOf]; omega
    · have HE := Lib.hid (cs_end m i h hi ha (by omega))
      clear ha
      go_wp2
      go_ret
      exact ⟨ri HE.out, rfl⟩
def PRel (m d : Int) (c u : Value) : Prop := ∃ i : Nat, i ≤ 7 ∧ (∀ j, j < i → tp j ≤ m) ∧ c = .int .i64 (pcs m d i) ∧ u = .int .i64 (tp i)
theorem div_bd (m u : Int) (h : 1 ≤ m) (g : m ≤ 1000000) (hu : 1 ≤ u) : 0 ≤ m / (u * 10) ∧ m / (u * 10) ≤ 1000000 ∧ 0 ≤ m / (u * 10) * u ∧ m / (u * 10) * u ≤ 1000000 ∧ 0 ≤ m % u ∧ m % u < u ∧ 0 ≤ m / u ∧ m / u ≤ 1000000 := by
  have a : 0 ≤ m / (u * 10) := Int.ediv_nonneg (by omega) (by omega)
  have b : m / (u * 10) * (u * 10) ≤ m := Int.ediv_mul_le m (by omega)
  have c : 0 ≤ m / (u * 10) * u := Int.mul_nonneg a (by omega)
  have e : m / (u * 10) * (u * 10) = (m / (u * 10) * u) * 10 := by rw [Int.mul_assoc]
  have f : 0 ≤ m / u := Int.ediv_nonneg (by omega) (by omega)
  have k : m / u ≤ m := Int.ediv_le_self _ (by omega)
  have k2 : m / (u * 10) ≤ m := Int.ediv_le_self _ (by omega)
  exact ⟨a, by omega, c, by omega, Int.emod_nonneg _ (by omega), Int.emod_lt_of_pos _ (by omega), f, by omega⟩
set_option maxHeartbeats 800000 in
theorem Try.digitUpTo (m d : Int) (h : 1 ≤ m) (g : m ≤ 1000000) (d0 : 0 ≤ d) (d9 : d ≤ 9) (w : World) :
    Calls Try.prog 65 #[.int .i64 m, .int .i64 d] w fun e w' => e = .returned (.int .i64 (cd m d)) ∧ Gr w w' := by
  go_enter Try.func65, Try.ntmps65
  go_wp2
  go_loopw [5, 6] (fun c u wr => PRel m d c u ∧ Gr w wr) (fun _ u _ => (10000000 - intOf u).toNat)
  case atStart => exact ⟨⟨0, by omega, fun j hj => absurd hj (Nat.not_lt_zero _), rfl, rfl⟩, Gr.refl _⟩
  case round =>
    obtain ⟨⟨i, hi, ha, rfl, rfl⟩, hw⟩ := hrel
    obtain ⟨u1, u2⟩ := tp_bd i
    obtain ⟨c1, c2⟩ := pcs_bd m d i h g ha
    by_cases hle : tp i ≤ m
    · have hlt := tp_lt i m g hle
      obtain ⟨a1, a2, a3, a4, a5, a6, a7, a8⟩ := div_bd m (tp i) h g u1
      have es : pcs m d (i + 1) = pcs m d i + pc (tp i) m d := rfl
      have et := tp_succ i hlt
      have HA := Lib.hid (below_succ ha hle)
      have ES := Lib.hid es
      have ET := Lib.hid et
      have HW := Lib.hid hw
      clear es et ha hw
      by_cases hd : d = 0
      · have hp : pc (tp i) m d = (m / (tp i * 10) - 1) * tp i + (if d < m / tp i % 10 then tp i else if d = m / tp i % 10 then m % tp i + 1 else 0) := by unfold pc; rw [if_pos hd]
        have hm1 : (m / (tp i * 10) - 1) * tp i = m / (tp i * 10) * tp i - tp i := by rw [Int.sub_mul, Int.one_mul]
        have b1 : -10000000 ≤ (m / (tp i * 10) - 1) * tp i := by omega
        have b2 : (m / (tp i * 10) - 1) * tp i ≤ 1000000 := by omega
        have hb : (d == 0) = true := by simp [hd]
        have HP := Lib.hid hp
        clear hp hm1 hd
        go_wp2
        go_quiet (fail)
        go_wp2
        all_goals
          go_roundw
          case rel =>
            refine ⟨⟨i + 1, by omega, HA.out, ?_, by rw [ET.out]⟩, Gr.drewN HW.out _⟩
            rw [ES.out, HP.out]
            (try simp only [beq_iff_eq, beq_eq_false_iff_ne] at *)
            congr 1
            omega
          case measure => simp [intOf]; omega
      · have hp : pc (tp i) m d = m / (tp i * 10) * tp i + (if d < m / tp i % 10 then tp i else if d = m / tp i % 10 then m % tp i + 1 else 0) := by unfold pc; rw [if_neg hd, Int.sub_zero]
        have hb : (d == 0) = false := by simp [hd]
        have HP := Lib.hid hp
        clear hp hd
        go_wp2
        go_quiet (fail)
        go_wp2
        all_goals
          go_roundw
          case rel =>
            refine ⟨⟨i + 1, by omega, HA.out, ?_, by rw [ET.out]⟩, Gr.drewN HW.out _⟩
            rw [ES.out, HP.out]
            (try simp only [beq_iff_eq, beq_eq_false_iff_ne] at *)
            congr 1
            omega
          case measure => simp [intOf]; omega
    · have HE := Lib.hid (pcs_end m d i h hi ha (by omega))
      have HW := Lib.hid hw
      clear ha hw
      go_wp2
      go_ret
      exact ⟨ri HE.out, HW.out⟩
end Go.Proofs
namespace Nu
theorem one_bd (u n d : Int) : 0 ≤ one u n d ∧ one u n d ≤ 1 := by unfold one; split <;> omega
theorem dn_bd (n d : Int) : 0 ≤ dn n d ∧ dn n d ≤ 7 := by
  have a := one_bd 1 n d; have b := one_bd 10 n d; have c := one_bd 100 n d; have e := one_bd 1000 n d; have f := one_bd 10000 n d; have g := one_bd 100000 n d; have h := one_bd 1000000 n d
  unfold dn; omega
theorem cd_bd (k : Nat) (d : Int) (h0 : 0 ≤ d) (h9 : d ≤ 9) : 0 ≤ cd k d ∧ cd k d ≤ 7 * k := by
  induction k with
  | zero => unfold cd; simp
  | succ k ih =>
    have a := cd_succ k d h0 h9 (by omega)
    have b := dn_bd (k + 1) d
    push_cast
    omega
theorem cd_bdi (m d : Int) (h : 0 ≤ m) (h0 : 0 ≤ d) (h9 : d ≤ 9) : 0 ≤ cd m d ∧ cd m d ≤ 7 * m := by
  obtain ⟨k, rfl⟩ := Int.eq_ofNat_of_zero_le h
  exact cd_bd k d h0 h9
end Nu
namespace Go.Proofs
open Go.RowKit Nu
set_option linter.unusedVariables false
set_option linter.unusedSimpArgs false
def cdB (m d : Int) : Bool := inn m 1 1000000 && inn d 0 9
def cdV (m d : Int) : Int := if cdB m d then cd m d else 0
set_option maxHeartbeats 400000 in
theorem Try.iCountDigit (m d : Int) (w : World) :
    Calls Try.prog 16 #[.int .i64 m, .int .i64 d] w fun e w' => e = .returned (.tuple #[.int .i64 (cdV m d), .bool (cdB m d)]) ∧ Gr w w' := by
  cases hm : inn m 1 1000000
  · have e : cdB m d = false := by simp [cdB, hm]
    rw [show cdV m d = 0 by simp [cdV, e], e]
    have H := Lib.hid hm
    clear hm e
    go_enter Try.func16, Try.ntmps16
    go_wp2_with (first | (go_at_call 63; refine (Try.isMost _ _ H.out _).mono ?_; rintro e w1 ⟨rfl, rfl⟩))
    go_ret2
    exact ⟨rfl, by repeat (first | exact Gr.refl _ | refine Gr.alloc ?_ _ | refine Gr.trans ?_ (by assumption) | refine Gr.drew ?_ | refine Gr.drewN ?_ _ | refine Gr.grow ?_ _)⟩
  · cases hd : inn d 0 9
    · have e : cdB m d = false := by simp [cdB, hd]
      rw [show cdV m d = 0 by simp [cdV, e], e]
      have H := Lib.hid hm
      have H2 := Lib.hid hd
      clear hm hd e
      go_enter Try.func16, Try.ntmps16
      go_wp2_with (first | (go_at_call 63; refine (Try.isMost _ _ H.out _).mono ?_; rintro e w1 ⟨rfl, rfl⟩) | (go_at_call 64; refine (Try.within _ _ _ _ H2.out _).mono ?_; rintro e w1 ⟨rfl, rfl⟩))
      go_ret2
      exact ⟨rfl, by repeat (first | exact Gr.refl _ | refine Gr.alloc ?_ _ | refine Gr.trans ?_ (by assumption) | refine Gr.drew ?_ | refine Gr.drewN ?_ _ | refine Gr.grow ?_ _)⟩
    · have e : cdB m d = true := by simp [cdB, hm, hd]
      rw [show cdV m d = cd m d by simp [cdV, e], e]
      obtain ⟨m0, m1⟩ := inn_e hm
      obtain ⟨d0, d1⟩ := inn_e hd
      have H := Lib.hid hm
      have H2 := Lib.hid hd
      clear hm hd e
      go_enter Try.func16, Try.ntmps16
      go_wp2_with (first | (go_at_call 63; refine (Try.isMost _ _ H.out _).mono ?_; rintro e w1 ⟨rfl, rfl⟩) | (go_at_call 64; refine (Try.within _ _ _ _ H2.out _).mono ?_; rintro e w1 ⟨rfl, rfl⟩) | (go_at_call 65; refine (Try.digitUpTo _ _ m0 m1 d0 d1 _).mono ?_; rintro e w1 ⟨rfl, hbW⟩; have hcW := (bcell hbW.below).1; have hfW := (bcell hbW.below).2; (try have hzW : w.heap.size < w1.heap.size := by have hq := hbW.below.size; (try simp at hq); omega); (try have hyW : w.heap.size + 1 < w1.heap.size := by have hq := hbW.below.size; (try simp at hq); omega)))
      go_ret2
      exact ⟨rfl, by repeat (first | exact Gr.refl _ | refine Gr.alloc ?_ _ | refine Gr.trans ?_ (by assumption) | refine Gr.drew ?_ | refine Gr.drewN ?_ _ | refine Gr.grow ?_ _)⟩
def ORel (m d : Int) (c n : Value) : Prop := ∃ k : Int, 1 ≤ k ∧ k ≤ m + 1 ∧ n = .int .i64 k ∧ c = .int .i64 (cd (k - 1) d)
def QRel (n d : Int) (c r : Value) : Prop := ∃ i : Nat, i ≤ 7 ∧ (∀ j, j < i → tp j ≤ n) ∧ r = .int .i64 (n / tp i) ∧ c = .int .i64 (cd (n - 1) d + dns n d i)
set_option maxHeartbeats 800000 in
theorem Try.sCountDigit (m d : Int) (w : World) :
    Calls Try.prog 17 #[.int .i64 m, .int .i64 d] w fun e w' => e = .returned (.tuple #[.int .i64 (cdV m d), .bool (cdB m d)]) ∧ Gr w w' := by
  cases hm : inn m 1 1000000
  · have e : cdB m d = false := by simp [cdB, hm]
    rw [show cdV m d = 0 by simp [cdV, e], e]
    have H := Lib.hid hm
    clear hm e
    go_enter Try.func17, Try.ntmps17
    go_wp2_with (first | (go_at_call 66; refine (Try.nuMost _ _ H.out _).mono ?_; rintro e w1 ⟨rfl, rfl⟩))
    go_ret2
    exact ⟨rfl, by repeat (first | exact Gr.refl _ | refine Gr.alloc ?_ _ | refine Gr.trans ?_ (by assumption) | refine Gr.drew ?_ | refine Gr.drewN ?_ _ | refine Gr.grow ?_ _)⟩
  · cases hd : inn d 0 9
    · have e : cdB m d = false := by simp [cdB, hd]
      rw [show cdV m d = 0 by simp [cdV, e], e]
      have H := Lib.hid hm
      have H2 := Lib.hid hd
      clear hm hd e
      go_enter Try.func17, Try.ntmps17
      go_wp2_with (first | (go_at_call 66; refine (Try.nuMost _ _ H.out _).mono ?_; rintro e w1 ⟨rfl, rfl⟩) | (go_at_call 67; refine (Try.l1In _ _ _ _ H2.out _).mono ?_; rintro e w1 ⟨rfl, rfl⟩))
      go_ret2
      exact ⟨rfl, by repeat (first | exact Gr.refl _ | refine Gr.alloc ?_ _ | refine Gr.trans ?_ (by assumption) | refine Gr.drew ?_ | refine Gr.drewN ?_ _ | refine Gr.grow ?_ _)⟩
    · have e : cdB m d = true := by simp [cdB, hm, hd]
      rw [show cdV m d = cd m d by simp [cdV, e], e]
      obtain ⟨m0, m1⟩ := inn_e hm
      obtain ⟨d0, d1⟩ := inn_e hd
      have H := Lib.hid hm
      have H2 := Lib.hid hd
      clear hm hd e
      go_enter Try.func17, Try.ntmps17
      go_wp2_with (first | (go_at_call 66; refine (Try.nuMost _ _ H.out _).mono ?_; rintro e w1 ⟨rfl, rfl⟩) | (go_at_call 67; refine (Try.l1In _ _ _ _ H2.out _).mono ?_; rintro e w1 ⟨rfl, rfl⟩))
      go_loop [6, 7, 8] (fun c n _ => ORel m d c n) (fun _ n _ => (m + 1 - intOf n).toNat)
      case atStart => exact ⟨1, by omega, by omega, rfl, by rw [show (1 : Int) - 1 = 0 by omega, cd_zero]⟩
      case round =>
        obtain ⟨k, k1, k2, rfl, rfl⟩ := hrel
        obtain ⟨q1, q2⟩ := cd_bdi (k - 1) d (by omega) d0 d1
        by_cases hk : k ≤ m
        · go_wp2
          go_loop [6, 8] (fun c r => QRel k d c r) (fun _ r => (intOf r).toNat)
          case atStart => exact ⟨0, by omega, fun j hj => absurd hj (Nat.not_lt_zero _), by simp [tp], by simp [dns]⟩
          case round =>
            obtain ⟨i, hi, ha, rfl, rfl⟩ := hrel
            obtain ⟨u1, u2⟩ := tp_bd i
            obtain ⟨p1, p2⟩ := dns_bd k d i
            have pi : (i : Int) ≤ 7 := by omega
            have n0 : 0 ≤ k / tp i := Int.ediv_nonneg (by omega) (by omega)
            have n1 : k / tp i ≤ k := Int.ediv_le_self _ (by omega)
            by_cases hle : tp i ≤ k
            · have hlt := tp_lt i k (by omega) hle
              have hpos := (div_pos k i (by omega)).2 hle
              have es : dns k d (i + 1) = dns k d i + (if k / tp i % 10 = d then 1 else 0) := rfl
              have ed := div_tp k i hlt
              have HA := Lib.hid (below_succ ha hle)
              have ES := Lib.hid es
              have ED := Lib.hid ed
              clear es ed ha
              by_cases hd : k / tp i % 10 = d
              · have hb : (k / tp i % 10 == d) = true := by simp [hd]
                have HD := Lib.hid hd
                clear hd
                go_wp2
                go_round
                case rel => exact ⟨i + 1, by omega, HA.out, by rw [ED.out], by rw [ES.out, if_pos HD.out]; congr 1; omega⟩
                case measure => simp [intOf]; omega
              · have hb : (k / tp i % 10 == d) = false := by simp [hd]
                have HD := Lib.hid hd
                clear hd
                go_wp2
                go_round
                case rel => exact ⟨i + 1, by omega, HA.out, by rw [ED.out], by rw [ES.out, if_neg HD.out]; congr 1; omega⟩
                case measure => simp [intOf]; omega
            · have hz : ¬ 0 < k / tp i := fun h => hle ((div_pos k i (by omega)).1 h)
              have HE := Lib.hid (dns_end k d i hi ha (by omega))
              have HS := Lib.hid (cd_succ (k - 1) d d0 d1 (by omega))
              clear ha
              go_wp2
              go_round
              case rel => exact ⟨k + 1, by omega, by omega, rfl, by rw [HE.out]; have := HS.out; rw [show k - 1 + 1 = k by omega] at this; rw [show k + 1 - 1 = k by omega, this]⟩
              case measure => simp [intOf]; omega
        · obtain rfl : k = m + 1 := by omega
          go_wp2
          go_ret2
          exact ⟨rfl, by repeat (first | exact Gr.refl _ | refine Gr.alloc ?_ _ | refine Gr.trans ?_ (by assumption) | refine Gr.drew ?_ | refine Gr.drewN ?_ _ | refine Gr.grow ?_ _)⟩
end Go.Proofs
