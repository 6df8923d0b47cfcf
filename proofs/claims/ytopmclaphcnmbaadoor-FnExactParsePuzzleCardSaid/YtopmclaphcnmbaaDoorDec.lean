/-
  Contracts: decimal numbers of the model.
-/
import Derived.Test.YtopmclaphcnmbaaDoorBase
import Derived.Lib.ItoaNum
import Derived.Laws.BytesArg
import Derived.Laws.Concat
import Derived.Lib.ItoaLen
import Derived.Deep.RegionWith
namespace Go.Proofs
open Go.RowKit
set_option linter.unusedVariables false
set_option linter.unusedSimpArgs false
theorem wr64 (x : Int) (h : -9000000000000000000 ≤ x) (g : x ≤ 9000000000000000000) : IntKind.i64.wrap x = x := IntWalk.i64_in _ (by omega)
theorem dig1 (n : Int) (h0 : 0 ≤ n) (h : n < 10) : strOfNums [48 + n] = ⟨(Lib.decDigits n.toNat).toArray⟩ := by
  rw [Lib.decDigits, dif_pos (by omega)]
  unfold strOfNums
  simp only [List.map_cons, List.map_nil]
  rw [show (48 + n).toNat = 48 + n.toNat by omega]
theorem dig2 (n : Int) (h0 : 0 ≤ n) (h : ¬ n < 10) : (⟨(Lib.decDigits (n / 10).toNat).toArray⟩ : ByteArray) ++ strOfNums [48 + n % 10] = ⟨(Lib.decDigits n.toNat).toArray⟩ := by
  rw [Lib.decDigits.eq_def n.toNat, dif_neg (by omega)]
  unfold strOfNums
  simp only [List.map_cons, List.map_nil]
  rw [show (48 + n % 10).toNat = 48 + n.toNat % 10 by omega, show (n / 10).toNat = n.toNat / 10 by omega]
  apply ByteArray.ext
  simp
theorem dec_size (u : Nat) (h : u < 18446744073709551616) : ((⟨(Lib.decDigits u).toArray⟩ : ByteArray).size : Int) ≤ 8388608 := by
  have e : (⟨(Lib.decDigits u).toArray⟩ : ByteArray).size = Lib.nDigits u := by
    show (Lib.decDigits u).toArray.size = _
    rw [Lib.decDigits_eq]
    simp
  have := Lib.nDigits_le20 u h
  omega
theorem Tryd.conv1 (W : World) (b : Nat) (c : Int) (h : W.cell? ⟨b, 0, none⟩ = some (.int .u8 c)) :
    (convert 74 9 (.slice (some ⟨b, 0, none⟩) 1 1)).run Tryd.prog W = .ok (.string (strOfNums [c])) W :=
  run_convert_bytes_arg W _ _ Tryd.underlying74 Tryd.underlying5 b 0 1 1 [c] rfl (fun i hi => by (obtain rfl : i = 0 := by omega); exact h) _ Tryd.underlying9
set_option maxHeartbeats 400000 in
theorem Tryd.l1Num_core (k : Nat) : ∀ (n : Int) (h0 : 0 ≤ n) (h1 : n ≤ 9000000000) (hk : n.toNat = k) (w : World),
    Calls Tryd.prog 39 #[.int .i64 n] w fun e w' => e = .returned (.string ⟨(Lib.decDigits n.toNat).toArray⟩) ∧ Gr w w' := by
  induction k using Nat.strongRecOn with
  | _ k ih =>
    intro n h0 h1 hk w
    by_cases hl : n < 10
    · rw [← dig1 n h0 hl]
      have conv := Tryd.conv1
      clear ih hk
      go_enter Tryd.func39, Tryd.ntmps39
      go_wp2
      go_ret
      exact ⟨rfl, by repeat (first | exact Gr.refl _ | refine Gr.alloc ?_ _ | refine Gr.trans ?_ (by assumption) | refine Gr.drew ?_ | refine Gr.drewN ?_ _ | refine Gr.grow ?_ _ | refine Gr.setCell ?_ (by (try simp); (try omega)) _)⟩
    · rw [← dig2 n h0 hl]
      have HC := Lib.hid (ih (n / 10).toNat (by omega) (n / 10) (by omega) (by omega) rfl)
      have conv := Tryd.conv1
      clear ih hk
      have e1 : n.tdiv 10 = n / 10 := Int.tdiv_eq_ediv_of_nonneg h0
      have e2 : n.tmod 10 = n % 10 := Int.tmod_eq_emod_of_nonneg h0
      have e3 : IntKind.i64.wrap (n / 10) = n / 10 := wr64 _ (by omega) (by omega)
      have e4 : IntKind.i64.wrap (48 + n % 10) = 48 + n % 10 := wr64 _ (by omega) (by omega)
      have e5 : IntKind.u8.wrap (48 + n % 10) = 48 + n % 10 := by unfold IntKind.wrap; simp [IntKind.bits, IntKind.signed]; omega
      have e6 : IntKind.i64.wrap (n % 10) = n % 10 := wr64 _ (by omega) (by omega)
      have hadd := fun W => run_string_add (P := Tryd.prog) (w := W) ⟨(Lib.decDigits (n / 10).toNat).toArray⟩ (strOfNums [48 + n % 10]) (dec_size _ (by omega)) (by rw [strOfNums_size]; simp)
      have d1 : 0 ≤ n / 10 := by omega
      have d2 : 0 ≤ n % 10 := by omega
      have d3 : n % 10 < 10 := by omega
      go_enter Tryd.func39, Tryd.ntmps39
      go_wp2
      go_region_with (first | (go_at_call 39; (with_reducible refine (HC.out _).mono ?_); rintro e w1 ⟨rfl, hb⟩; have hc := (bcell hb.below).1))
      all_goals
        go_wp2
        go_ret
        exact ⟨rfl, by repeat (first | exact Gr.refl _ | refine Gr.alloc ?_ _ | refine Gr.trans ?_ (by assumption) | refine Gr.drew ?_ | refine Gr.drewN ?_ _ | refine Gr.grow ?_ _ | refine Gr.setCell ?_ (by (try simp); (try omega)) _)⟩
theorem Tryd.l1Num (n : Int) (h0 : 0 ≤ n) (h1 : n ≤ 9000000000) (w : World) :
    Calls Tryd.prog 39 #[.int .i64 n] w fun e w' => e = .returned (.string ⟨(Lib.decDigits n.toNat).toArray⟩) ∧ Gr w w' := Tryd.l1Num_core _ n h0 h1 rfl w
end Go.Proofs
