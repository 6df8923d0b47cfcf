/-
  All corners of a city, in order (the program), in a seat of chapter 6.
-/
import Derived.Test.YtmklniikhdfaiaaDoorOwY
namespace Go.Proofs
open Go.RowKit Av Gm Go.Maps
set_option linter.unusedVariables false
set_option linter.unusedSimpArgs false
theorem crn_at {Hn x y : Nat} (hy : y < Hn) : crn Hn (x * Hn + y) = ((x : Int), (y : Int)) := by
  obtain ⟨_, i2, i3⟩ := idx_on (Wn := x + 1) (Hn := Hn) (x := x) (y := y) (by omega) hy
  unfold crn; rw [i2, i3]
set_option maxRecDepth 100000 in
set_option maxHeartbeats 1600000 in
theorem Tryd.corners (w : World) (Wn Hn : Nat) (A : Option Addr) (n c : Nat) (hW : 1 ≤ Wn ∧ Wn ≤ 8) (hH : 1 ≤ Hn ∧ Hn ≤ 8) :
    Calls Tryd.prog 20 #[.agg #[.int .i64 Wn, .int .i64 Hn, .slice A n c]] w fun e w' => ∃ v, e = .returned v ∧ OwnE 48 2 (ccs Hn) w' w.heap.size v (List.range (Wn * Hn)) ∧ Below w.heap.size w w' := by
  have mixed : Tryd.prog.follows .mixedOrders = true := by kernel_rfl
  obtain ⟨W0, hW0⟩ : ∃ W0, w.alloc (.cells #[.int .i64 Wn, .int .i64 Hn, .slice A n c] 44) = W0 := ⟨_, rfl⟩
  have GW : Gr w W0 := by subst hW0; exact by repeat (first | exact Gr.refl _ | refine Gr.alloc ?_ _ | refine Gr.trans ?_ (by assumption) | refine Gr.drew ?_ | refine Gr.drewN ?_ _ | refine Gr.grow ?_ _ | refine Gr.setCell ?_ (by (try simp); (try omega)) _)
  have k0 : W0.cell? ⟨w.heap.size, 0, none⟩ = some (.int .i64 Wn) := by subst hW0; simp [go_sem]
  have k1 : W0.cell? ⟨w.heap.size, 1, none⟩ = some (.int .i64 Hn) := by subst hW0; simp [go_sem]
  have HG := Lib.hid GW
  have HK := Lib.hid k1
  clear GW
  go_enter Tryd.func20, Tryd.ntmps20
  go_wp2_with fail
  clear k0 k1
  go_loopw [3, 8] (fun v iv wr => ∃ x : Nat, iv = .int .i64 x ∧ x ≤ Wn ∧ OwnE 48 2 (ccs Hn) wr W0.heap.size v (List.range (x * Hn)) ∧ Below W0.heap.size W0 wr) (fun _ i _ => Wn - (intOf i).toNat)
  case atStart => exact ⟨0, rfl, Nat.zero_le _, by rw [Nat.zero_mul]; exact OwnE.nil _ _ _ _ _, Below.refl _ _⟩
  case round =>
    obtain ⟨x, rfl, hx, ho, hb⟩ := hrel
    have HO := Lib.hid ho
    have HB := Lib.hid hb
    by_cases hlt : x < Wn
    · have e1 := cell_k2 hb HK.out
      have z1 : (x : Int) < (Wn : Int) := by omega
      clear ho hb
      go_wp2_with fail
      rename World => wo
      go_loopw [3, 13] (fun v iv wr => ∃ y : Nat, iv = .int .i64 y ∧ y ≤ Hn ∧ OwnE 48 2 (ccs Hn) wr W0.heap.size v (List.range (x * Hn + y)) ∧ Below W0.heap.size W0 wr) (fun _ i _ => Hn - (intOf i).toNat)
      case atStart => exact ⟨0, rfl, Nat.zero_le _, HO.out, HB.out⟩
      case round =>
        obtain ⟨y, rfl, hy, ho, hb⟩ := hrel
        have HO := Lib.hid ho
        have HB := Lib.hid hb
        by_cases hlt2 : y < Hn
        · have z2 : (y : Int) < (Hn : Int) := by omega
          have hsz := hb.size
          have HCC := Lib.hid (show ccs Hn (x * Hn + y) = [.int .i64 x, .int .i64 y] by unfold ccs; rw [crn_at hlt2])
          have hxy : x * Hn ≤ 64 := Nat.mul_le_mul (show x ≤ 8 by omega) (show Hn ≤ 8 by omega)
          clear ho hb
          go_wp2_with (at_builtin; refine wpList_appE (ccs_len Hn) (ccs_one Hn) rfl _ _ 41 rfl 48 Tryd.underlying41 Tryd.infoC rfl (by decide) (by decide) W0.heap.size _ _ rfl (HO.out.gr (Gr.alloc (Gr.refl _) _)) _ 1 1 [x * Hn + y] rfl rfl (fun j u hu => alloc_cells' rfl (by simpa [ecs, HCC.out] using hu)) (by simp; omega) (by simp) (by simp; omega) ?_; intro v3 w3 ho3 hb3 _ _)
          have HO3 := Lib.hid ho3
          have HB3 := Lib.hid (Below.trans (Below.alloc HB.out hsz (.cells #[.int .i64 x, .int .i64 y] 48)) hb3)
          clear ho3 hb3
          go_roundw
          case rel => exact ⟨y + 1, by go_num, by omega, by rw [show x * Hn + (y + 1) = (x * Hn + y) + 1 by omega, List.range_succ]; exact HO3.out, HB3.out⟩
          case measure => simp [intOf]; omega
        · obtain rfl : y = Hn := by omega
          clear ho hb
          go_wp2
          go_roundw
          case rel => exact ⟨x + 1, by go_num, by omega, by rw [Nat.succ_mul]; exact HO.out, HB.out⟩
          case measure => simp [intOf]; omega
    · obtain rfl : x = Wn := by omega
      clear ho hb
      go_wp2
      go_ret
      exact ⟨_, rfl, HO.out.mono HG.out.below.size, Below.trans HG.out.below (HB.out.mono HG.out.below.size)⟩
end Go.Proofs
