/-
  Contracts: the model's reading of a canonical decimal number.
-/
import Derived.Test.YtopmclaphcnmbaaDoorBase
import Derived.Test.YtopmclaphcnmbaaDoorRd
import Derived.LoopTactic
namespace Go.Proofs
open Go.RowKit
set_option linter.unusedVariables false
set_option linter.unusedSimpArgs false
theorem rd_len {l : List UInt8} (h : l.length < 1 ∨ 6 < l.length) : Rd.rd l = -1 := by unfold Rd.rd; rw [if_neg]; rintro ⟨a, b, _⟩; omega
theorem rd_zero {l : List UInt8} (h : l.headD 0 = 48) (h2 : 1 < l.length) : Rd.rd l = -1 := by unfold Rd.rd; rw [if_neg]; rintro ⟨_, _, c, _⟩; exact c ⟨h, h2⟩
theorem rd_bad {l : List UInt8} (h : l.all Rd.isDig = false) : Rd.rd l = -1 := by unfold Rd.rd; rw [if_neg]; rintro ⟨_, _, _, d⟩; rw [h] at d; cases d
theorem rd_good {l : List UInt8} (h1 : 1 ≤ l.length) (h6 : l.length ≤ 6) (hz : ¬ (l.headD 0 = 48 ∧ 1 < l.length)) (h : l.all Rd.isDig = true) : Rd.rd l = (Rd.val l 0 : Int) := by unfold Rd.rd; rw [if_pos ⟨h1, h6, hz, h⟩]
theorem take_snocB (s : ByteArray) (k : Nat) (h : k < s.size) : s.data.toList.take (k + 1) = s.data.toList.take k ++ [s[k]] := by
  rw [List.take_succ_eq_append_getElem (by simpa using h)]; rfl
theorem all_bad (s : ByteArray) (k : Nat) (h : k < s.size) (hb : Rd.isDig s[k] = false) : s.data.toList.all Rd.isDig = false := by
  rw [← List.take_append_drop (k + 1) s.data.toList, List.all_append, take_snocB s k h, List.all_append]
  simp [hb]
def innR (n a b : Int) : Bool := decide (a ≤ n ∧ n ≤ b)
set_option maxHeartbeats 400000 in
theorem Tryd.l1InR (n a b : Int) (v : Bool) (h : innR n a b = v) (w : World) :
    Calls Tryd.prog 34 #[.int .i64 n, .int .i64 a, .int .i64 b] w fun e w' => e = .returned (.bool v) ∧ w = w' := by
  subst h
  go_enter Tryd.func34, Tryd.ntmps34
  go_wp2
  all_goals
    go_ret
    exact ⟨by first | exact rbf (by omega) | exact rbt (by omega) | exact rbd (by omega), rfl⟩
def RRel (s : ByteArray) (n i : Value) : Prop := ∃ k : Nat, k ≤ s.size ∧ i = .int .i64 k ∧ (s.data.toList.take k).all Rd.isDig = true ∧ n = .int .i64 (Rd.val (s.data.toList.take k) 0)
set_option maxHeartbeats 800000 in
theorem Tryd.l1Read (s : ByteArray) (w : World) (hs : s.size ≤ maxLen) :
    Calls Tryd.prog 21 #[.string s] w fun e w' => e = .returned (.int .i64 (Rd.rd s.data.toList)) ∧ w = w' := by
  unfold maxLen at hs
  have hlen : s.data.toList.length = s.size := by simp
  by_cases hin : 1 ≤ s.size ∧ s.size ≤ 6
  · obtain ⟨a1, a2⟩ := hin
    have ha : ((1 : Int) ≤ (s.size : Int)) := by omega
    have hb : ((s.size : Int) ≤ 6) := by omega
    have h0 : 0 < s.size := by omega
    have hhd : s.data.toList.headD 0 = s[0] := by
      rw [List.headD_eq_head?_getD, List.head?_eq_getElem?]
      simp [h0]
      rfl
    by_cases hz : s[0].toNat = 48 ∧ 1 < s.size
    · rw [rd_zero (by rw [hhd]; exact UInt8.toNat_inj.1 (by simpa using hz.1)) (by omega)]
      have t1 : ((s[0].toNat : Int) == 48) = true := by simp [hz.1]
      have t2 : (1 : Int) < (s.size : Int) := by omega
      clear hz hhd hlen
      go_enter Tryd.func21, Tryd.ntmps21
      go_wp2
      all_goals
        go_ret
        exact ⟨rfl, rfl⟩
    · have hzz : ¬ (s.data.toList.headD 0 = 48 ∧ 1 < s.data.toList.length) := by
        rintro ⟨x, y⟩
        rw [hhd] at x
        exact hz ⟨by rw [x]; rfl, by omega⟩
      have body : ((s[0].toNat : Int) == 48) = false ∨ (((s[0].toNat : Int) == 48) = true ∧ ¬ (1 : Int) < (s.size : Int)) := by
        by_cases e : s[0].toNat = 48
        · exact .inr ⟨by simp [e], by have : ¬ 1 < s.size := fun x => hz ⟨e, x⟩; omega⟩
        · exact .inl (by simp; omega)
      have HG := Lib.hid (fun h => rd_good (l := s.data.toList) (by omega) (by omega) hzz h)
      have HB := Lib.hid (fun k h hb => rd_bad (all_bad s k h hb))
      clear hz hhd hzz hlen
      rcases body with t1 | ⟨t1, t2⟩
      all_goals
        go_enter Tryd.func21, Tryd.ntmps21
        go_wp2_with (first | (go_at_call 34; refine (Tryd.l1InR _ _ _ true (show innR _ _ _ = true from decide_eq_true ⟨ha, hb⟩) _).mono ?_; rintro e w1 ⟨rfl, rfl⟩))
        go_loop [3, 4] (fun n i => RRel s n i) (fun _ i => s.size - (intOf i).toNat)
        case atStart => exact ⟨0, Nat.zero_le _, rfl, by simp, by simp [Rd.val]⟩
        case round =>
          obtain ⟨k, hk, rfl, hall, rfl⟩ := hrel
          have hv := Rd.val_lt (s.data.toList.take k) 0 hall
          have hv2 : Rd.val (s.data.toList.take k) 0 < 1000000 := by
            have : (10 : Nat) ^ (s.data.toList.take k).length ≤ 10 ^ 6 := Nat.pow_le_pow_right (by omega) (by simp; omega)
            omega
          have HA := Lib.hid hall
          clear hv hall
          by_cases hlt : k < s.size
          · have hsn := take_snocB s k hlt
            have hvs : Rd.val (s.data.toList.take (k + 1)) 0 = 10 * Rd.val (s.data.toList.take k) 0 + (s[k].toNat - 48) := by rw [hsn, Rd.val_append]
            have has : (s.data.toList.take (k + 1)).all Rd.isDig = Rd.isDig s[k] := by rw [hsn, List.all_append, HA.out]; simp
            have z0 : (0 : Int) ≤ (k : Int) := by omega
            have z1 : (k : Int) < (s.size : Int) := by omega
            have b0 : (0 : Int) ≤ (s[k].toNat : Int) := by omega
            have b1 : (s[k].toNat : Int) ≤ 255 := by have := s[k].toNat_lt; omega
            cases hd : Rd.isDig s[k]
            · have HBK := Lib.hid (HB.out k hlt hd)
              have hor : (s[k].toNat : Int) < 48 ∨ (¬ (s[k].toNat : Int) < 48 ∧ 57 < (s[k].toNat : Int)) := by simp [Rd.isDig] at hd; omega
              clear hsn hvs has hd
              rcases hor with q | ⟨q, q2⟩
              all_goals
                go_wp2
                go_ret
                exact ⟨ri HBK.out.symm, rfl⟩
            · have q1 : (48 : Int) ≤ (s[k].toNat : Int) ∧ (s[k].toNat : Int) ≤ 57 := by simp [Rd.isDig] at hd; omega
              obtain ⟨q1, q2⟩ := q1
              rw [hd] at has
              have HV := Lib.hid hvs
              have HS := Lib.hid has
              clear hsn hvs has hd
              go_wp2
              go_round
              case rel => exact ⟨k + 1, by omega, by go_num, HS.out, by rw [HV.out]; congr 1; omega⟩
              case measure => simp [intOf]; omega
          · obtain rfl : k = s.size := by omega
            have ht : s.data.toList.take s.size = s.data.toList := List.take_of_length_le (by simp)
            have HT := Lib.hid (show Rd.rd s.data.toList = (Rd.val (s.data.toList.take s.size) 0 : Int) by have a := HA.out; rw [ht] at a ⊢; exact HG.out a)
            clear ht
            go_wp2
            go_ret
            exact ⟨ri HT.out.symm, rfl⟩
  · rw [rd_len (by omega)]
    by_cases h1 : 1 ≤ s.size
    · have hb : ¬ ((s.size : Int) ≤ 6) := by omega
      have hc : ((1 : Int) ≤ (s.size : Int)) := by omega
      clear hin hlen
      go_enter Tryd.func21, Tryd.ntmps21
      go_wp2
      all_goals
        go_ret
        exact ⟨rfl, rfl⟩
    · have hb : ¬ ((1 : Int) ≤ (s.size : Int)) := by omega
      clear hin hlen
      go_enter Tryd.func21, Tryd.ntmps21
      go_wp2
      all_goals
        go_ret
        exact ⟨rfl, rfl⟩
end Go.Proofs
