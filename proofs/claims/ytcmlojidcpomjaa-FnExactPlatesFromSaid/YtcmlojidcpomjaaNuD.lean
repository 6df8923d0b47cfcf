/-
  Contracts of chapter 1: digits on plates, a digit counted.
-/
import Derived.Test.YtcmlojidcpomjaaNuI
import Derived.Test.YtcmlojidcpomjaaNuMath
import Derived.LoopTactic
namespace Go.Proofs
open Go.RowKit Nu
set_option linter.unusedVariables false
set_option linter.unusedSimpArgs false
def DRel (m : Int) (c u : Value) : Prop := ∃ i : Nat, i ≤ 7 ∧ (∀ j, j < i → tp j ≤ m) ∧ c = .int .i64 (cs m i) ∧ u = .int .i64 (tp i)
theorem below_succ {m : Int} {i : Nat} (ha : ∀ j, j < i → tp j ≤ m) (h : tp i ≤ m) : ∀ j, j < i + 1 → tp j ≤ m := fun j hj => by
  rcases Nat.lt_or_eq_of_le (Nat.le_of_lt_succ hj) with c | c
  · exact ha j c
  · rw [c]; exact h
def PRel (m d : Int) (c u : Value) : Prop := ∃ i : Nat, i ≤ 7 ∧ (∀ j, j < i → tp j ≤ m) ∧ c = .int .i64 (pcs m d i) ∧ u = .int .i64 (tp i)
theorem div_bd (m u : Int) (h : 1 ≤ m) (g : m ≤ 1000000) (hu : 1 ≤ u) : 0 ≤ m / (u * 10) ∧ m / (u * 10) ≤ 1000000 ∧ 0 ≤ m / (u * 10) * u ∧ m / (u * 10) * u ≤ 1000000 ∧ 0 ≤ m % u ∧ m % u < u ∧ 0 ≤ m / u ∧ m / u ≤ 1000000 := by
  have a : 0 ≤ m / (u * 10) := Int.ediv_nonneg (by omega) (by omega)
  have b : m / (u * 10) * (u * 10) ≤ m := Int.ediv_mul_le m (by omega)
  have c : 0 ≤ m / (u * 10) * u := Int.mul_nonneg a (by omega)
  have e : m / (u * 10) * (u * 10) = (m / (u * 10) * u) * 10 := by rw [Int.mul_assoc]
  have f : 0 ≤ m / u := Int.ediv_nonneg (by omega) (by omega)
  have k : m / u ≤ m := Int.ediv_le_self _ (by omega)
  have k2 : m / (u * 10) ≤ m := Int.ediv_le_self _ (by omega)
  exact ⟨a, by omega, c, by omega, Int.emod_nonneg _ (by omega), Int.emod_lt_of_pos _ (by omega), f, by omega⟩
set_option maxHeartbeats 800000 in
theorem Try.digitUpTo (m d : Int) (h : 1 ≤ m) (g : m ≤ 1000000) (d0 : 0 ≤ d) (d9 : d ≤ 9) (w : World) :
    Calls Try.prog 83 #[.int .i64 m, .int .i64 d] w fun e w' => e = .returned (.int .i64 (cd m d)) ∧ Gr w w' := by
  go_enter Try.func83, Try.ntmps83
  go_wp2
  go_loopw [5, 6] (fun c u wr => PRel m d c u ∧ Gr w wr) (fun _ u _ => (10000000 - intOf u).toNat)
  case atStart => exact ⟨⟨0, by omega, fun j hj => absurd hj (Nat.not_lt_zero _), rfl, rfl⟩, Gr.refl _⟩
  case round =>
    obtain ⟨⟨i, hi, ha, rfl, rfl⟩, hw⟩ := hrel
    obtain ⟨u1, u2⟩ := tp_bd i
    obtain ⟨c1, c2⟩ := pcs_bd m d i h g ha
    by_cases hle : tp i ≤ m
    · have hlt := tp_lt i m g hle
      obtain ⟨a1, a2, a3, a4, a5, a6, a7, a8⟩ := div_bd m (tp i) h g u1
      have es : pcs m d (i + 1) = pcs m d i + pc (tp i) m d := rfl
      have et := tp_succ i hlt
      have HA := Lib.hid (below_succ ha hle)
      have ES := Lib.hid es
      have ET := Lib.hid et
      have HW := Lib.hid hw
      clear es et ha hw
      by_cases hd : d = 0
      · have hp : pc (tp i) m d = (m / (tp i * 10) - 1) * tp i + (if d < m / tp i % 10 then tp i else if d = m / tp i % 10 then m % tp i + 1 else 0) := by unfold pc; rw [if_pos hd]
        have hm1 : (m / (tp i * 10) - 1) * tp i = m / (tp i * 10) * tp i - tp i := by rw [Int.sub_mul, Int.one_mul]
        have b1 : -10000000 ≤ (m / (tp i * 10) - 1) * tp i := by omega
        have b2 : (m / (tp i * 10) - 1) * tp i ≤ 1000000 := by omega
        have hb : (d == 0) = true := by simp [hd]
        have HP := Lib.hid hp
        clear hp hm1 hd
        go_wp2
        go_quiet (fail)
        go_wp2
        all_goals
          go_roundw
          case rel =>
            refine ⟨⟨i + 1, by omega, HA.out, ?_, by rw [ET.out]⟩, Gr.drewN HW.out _⟩
            rw [ES.out, HP.out]
            (try simp only [beq_iff_eq, beq_eq_false_iff_ne] at *)
            congr 1
            omega
          case measure => simp [intOf]; omega
      · have hp : pc (tp i) m d = m / (tp i * 10) * tp i + (if d < m / tp i % 10 then tp i else if d = m / tp i % 10 then m % tp i + 1 else 0) := by unfold pc; rw [if_neg hd, Int.sub_zero]
        have hb : (d == 0) = false := by simp [hd]
        have HP := Lib.hid hp
        clear hp hd
        go_wp2
        go_quiet (fail)
        go_wp2
        all_goals
          go_roundw
          case rel =>
            refine ⟨⟨i + 1, by omega, HA.out, ?_, by rw [ET.out]⟩, Gr.drewN HW.out _⟩
            rw [ES.out, HP.out]
            (try simp only [beq_iff_eq, beq_eq_false_iff_ne] at *)
            congr 1
            omega
          case measure => simp [intOf]; omega
    · have HE := Lib.hid (pcs_end m d i h hi ha (by omega))
      have HW := Lib.hid hw
      clear ha hw
      go_wp2
      go_ret
      exact ⟨ri HE.out, HW.out⟩
end Go.Proofs
namespace Nu
theorem one_bd (u n d : Int) : 0 ≤ one u n d ∧ one u n d ≤ 1 := by unfold one; split <;> omega
theorem dn_bd (n d : Int) : 0 ≤ dn n d ∧ dn n d ≤ 7 := by
  have a := one_bd 1 n d; have b := one_bd 10 n d; have c := one_bd 100 n d; have e := one_bd 1000 n d; have f := one_bd 10000 n d; have g := one_bd 100000 n d; have h := one_bd 1000000 n d
  unfold dn; omega
theorem cd_bd (k : Nat) (d : Int) (h0 : 0 ≤ d) (h9 : d ≤ 9) : 0 ≤ cd k d ∧ cd k d ≤ 7 * k := by
  induction k with
  | zero => unfold cd; simp
  | succ k ih =>
    have a := cd_succ k d h0 h9 (by omega)
    have b := dn_bd (k + 1) d
    push_cast
    omega
theorem cd_bdi (m d : Int) (h : 0 ≤ m) (h0 : 0 ≤ d) (h9 : d ≤ 9) : 0 ≤ cd m d ∧ cd m d ≤ 7 * m := by
  obtain ⟨k, rfl⟩ := Int.eq_ofNat_of_zero_le h
  exact cd_bd k d h0 h9
end Nu
namespace Go.Proofs
open Go.RowKit Nu
set_option linter.unusedVariables false
set_option linter.unusedSimpArgs false
def cdB (m d : Int) : Bool := inn m 1 1000000 && inn d 0 9
def cdV (m d : Int) : Int := if cdB m d then cd m d else 0
def ORel (m d : Int) (c n : Value) : Prop := ∃ k : Int, 1 ≤ k ∧ k ≤ m + 1 ∧ n = .int .i64 k ∧ c = .int .i64 (cd (k - 1) d)
def QRel (n d : Int) (c r : Value) : Prop := ∃ i : Nat, i ≤ 7 ∧ (∀ j, j < i → tp j ≤ n) ∧ r = .int .i64 (n / tp i) ∧ c = .int .i64 (cd (n - 1) d + dns n d i)
end Go.Proofs
