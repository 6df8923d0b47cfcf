/-
  Chapter 7: CountPaintings (the model).
-/
import Derived.Test.YtjhpebihflcanaaRsX
namespace Go.Proofs
open Go.RowKit Go.Maps Rl
set_option linter.unusedVariables false
set_option linter.unusedSimpArgs false
set_option maxRecDepth 100000 in
set_option maxHeartbeats 1600000 in
theorem Try.sCountPaintings (w : World) (n k : Int) (ring : Bool) (b1 b2 : Bool) (hb1 : inn n 1 20 = b1) (hb2 : inn k 1 5 = b2) :
    Calls Try.prog 23 #[.int .i64 n, .int .i64 k, .bool ring] w fun e w' => e = .returned (.tuple #[.int .i64 (cntP n k ring (b1 && b2)), .bool (b1 && b2)]) ∧ Below w.heap.size w w' := by
  have H1 := Lib.hid (fun (X : World) => Try.rwHouses n b1 hb1 X)
  have H2 := Lib.hid (fun (X : World) => Try.l1In k 1 5 b2 hb2 X)
  cases b1 with
  | false =>
    clear hb1 hb2
    go_enter Try.func23, Try.ntmps23
    go_wp2_with (first | (go_at_call 36; refine (H1.out _).mono ?_; rintro e w1 ⟨rfl, rfl⟩))
    go_ret2
    exact ⟨rfl, Below.refl _ _⟩
  | true =>
    cases b2 with
    | false =>
      clear hb1 hb2
      go_enter Try.func23, Try.ntmps23
      go_wp2_with (first | (go_at_call 36; refine (H1.out _).mono ?_; rintro e w1 ⟨rfl, rfl⟩) | (go_at_call 37; refine (H2.out _).mono ?_; rintro e w1 ⟨rfl, rfl⟩))
      go_ret2
      exact ⟨rfl, Below.refl _ _⟩
    | true =>
      obtain ⟨n1, n2⟩ := inn_e hb1
      obtain ⟨k1, k2⟩ := inn_e hb2
      obtain ⟨N, rfl⟩ : ∃ N : Nat, n = N := ⟨n.toNat, by omega⟩
      obtain ⟨K, rfl⟩ : ∃ K : Nat, k = K := ⟨k.toNat, by omega⟩
      have HNK := Lib.hid (show (1 ≤ N ∧ N ≤ 20) ∧ (1 ≤ K ∧ K ≤ 5) by omega)
      have HG := Lib.hid (fun (X : World) => Try.rwRing N ring X)
      have HB := Lib.hid (fun m (hm : m ≤ 19) => soP_b19 K HNK.out.2.1 HNK.out.2.2 m hm)
      have HMU := Lib.hid (fun (x : Int) h0 h1 => mul_bd (x := x) (k := K) h0 h1 HNK.out.2.1 HNK.out.2.2)
      have HST := Lib.hid (fun m => show soP (K : Int) (m + 1) = ((soP K m).2, (soP K m).1 * ((K : Int) - 1) + (soP K m).2 * ((K : Int) - 2)) from rfl)
      have HCN := Lib.hid (show cntP N K ring (true && true) = if rgB N ring then (soP K (N - 1)).2 else (soP K (N - 1)).1 + (soP K (N - 1)).2 by
        have e : decide (3 ≤ ((N : Nat) : Int).toNat) = decide (3 ≤ (N : Int)) := by
          rw [Int.toNat_natCast]
          exact decide_eq_decide.2 ⟨fun h => by omega, fun h => by omega⟩
        unfold cntP paintN rgB
        rw [if_pos (by rfl), e]
        rfl)
      clear hb1 hb2
      go_enter Try.func23, Try.ntmps23
      go_wp2_with (first | (go_at_call 36; refine (H1.out _).mono ?_; rintro e w1 ⟨rfl, rfl⟩) | (go_at_call 37; refine (H2.out _).mono ?_; rintro e w1 ⟨rfl, rfl⟩))
      go_loopw [8, 9, 10] (fun sv ov iv wr => ∃ m : Nat, iv = .int .i64 ((m : Int) + 1) ∧ m + 1 ≤ N ∧ sv = .int .i64 (soP K m).1 ∧ ov = .int .i64 (soP K m).2 ∧ wr = w) (fun _ _ iv _ => N - (intOf iv).toNat)
      case atStart => exact ⟨0, rfl, HNK.out.1.1, rfl, rfl, rfl⟩
      case round =>
        obtain ⟨m, rfl, hm, rfl, rfl, rfl⟩ := hrel
        obtain ⟨x0, y0, s0⟩ := HB.out m (by omega)
        have hst := HST.out m
        by_cases hlt : m + 1 < N
        · obtain ⟨x1, y1, s1⟩ := HB.out (m + 1) (by omega)
          obtain ⟨p, hp⟩ : ∃ p, soP (K : Int) (m + 1) = p := ⟨_, rfl⟩
          have HEQ := Lib.hid hp
          rw [hp] at hst x1 y1 s1
          subst hst
          simp only at x1 y1 s1
          clear hp
          generalize (soP (K : Int) m).1 = x at *
          generalize (soP (K : Int) m).2 = y at *
          obtain ⟨⟨p1, p2⟩, _⟩ := HMU.out x (by omega) (by omega)
          obtain ⟨_, ⟨p3, p4⟩⟩ := HMU.out y (by omega) (by omega)
          have z1 : (m : Int) + 1 < (N : Int) := by omega
          go_wp2
          go_roundw
          case rel => exact ⟨m + 1, by go_num, by omega, by rw [HEQ.out], by rw [HEQ.out], trivial⟩
          case measure => simp [intOf]; omega
        · obtain rfl : N = m + 1 := by omega
          have hz : m + 1 - 1 = m := by omega
          rw [hz] at HCN
          have z1 : ¬ (m : Int) + 1 < ((m + 1 : Nat) : Int) := by omega
          have z1' : ((m + 1 : Nat) : Int) = (m : Int) + 1 := by omega
          clear hst hz
          generalize (soP (K : Int) m).1 = x at *
          generalize (soP (K : Int) m).2 = y at *
          generalize rgB ((m + 1 : Nat) : Int) ring = rg at *
          cases rg
          · have hcn := HCN.out
            rw [if_neg (by decide)] at hcn
            have HCM := Lib.hid hcn
            clear hcn HCN
            go_wp2_with (go_at_call 38; refine (HG.out _).mono ?_; rintro e w1 ⟨rfl, rfl⟩)
            go_ret2
            exact ⟨by rw [HCM.out]; rfl, Below.refl _ _⟩
          · have hcn := HCN.out
            rw [if_pos rfl] at hcn
            have HCM := Lib.hid hcn
            clear hcn HCN
            go_wp2_with (go_at_call 38; refine (HG.out _).mono ?_; rintro e w1 ⟨rfl, rfl⟩)
            go_ret2
            exact ⟨by rw [HCM.out]; rfl, Below.refl _ _⟩
end Go.Proofs
