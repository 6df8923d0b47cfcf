/-
  Contracts of chapter 1: decimal numbers of the model, digits on plates.
-/
import Derived.Test.YthaepfpcnbhndaaNuD
import Derived.Lib.ItoaNum
import Derived.Laws.BytesArg
import Derived.Laws.Concat
import Derived.Lib.ItoaLen
import Derived.Deep.RegionWith
namespace Go.Proofs
open Go.RowKit Nu
set_option linter.unusedVariables false
set_option linter.unusedSimpArgs false
theorem wr64 (x : Int) (h : -9000000000000000000 ≤ x) (g : x ≤ 9000000000000000000) : IntKind.i64.wrap x = x := IntWalk.i64_in _ (by omega)
theorem dig1 (n : Int) (h0 : 0 ≤ n) (h : n < 10) : strOfNums [48 + n] = ⟨(Lib.decDigits n.toNat).toArray⟩ := by
  rw [Lib.decDigits, dif_pos (by omega)]
  unfold strOfNums
  simp only [List.map_cons, List.map_nil]
  rw [show (48 + n).toNat = 48 + n.toNat by omega]
theorem dig2 (n : Int) (h0 : 0 ≤ n) (h : ¬ n < 10) : (⟨(Lib.decDigits (n / 10).toNat).toArray⟩ : ByteArray) ++ strOfNums [48 + n % 10] = ⟨(Lib.decDigits n.toNat).toArray⟩ := by
  rw [Lib.decDigits.eq_def n.toNat, dif_neg (by omega)]
  unfold strOfNums
  simp only [List.map_cons, List.map_nil]
  rw [show (48 + n % 10).toNat = 48 + n.toNat % 10 by omega, show (n / 10).toNat = n.toNat / 10 by omega]
  apply ByteArray.ext
  simp
theorem dec_size (u : Nat) (h : u < 18446744073709551616) : ((⟨(Lib.decDigits u).toArray⟩ : ByteArray).size : Int) ≤ 8388608 := by
  have e : (⟨(Lib.decDigits u).toArray⟩ : ByteArray).size = Lib.nDigits u := by
    show (Lib.decDigits u).toArray.size = _
    rw [Lib.decDigits_eq]
    simp
  have := Lib.nDigits_le20 u h
  omega
theorem Try.conv1 (W : World) (b : Nat) (c : Int) (h : W.cell? ⟨b, 0, none⟩ = some (.int .u8 c)) :
    (convert 22 9 (.slice (some ⟨b, 0, none⟩) 1 1)).run Try.prog W = .ok (.string (strOfNums [c])) W :=
  run_convert_bytes_arg W _ _ Try.underlying22 Try.underlying5 b 0 1 1 [c] rfl (fun i hi => by (obtain rfl : i = 0 := by omega); exact h) _ Try.underlying9
set_option maxHeartbeats 400000 in
theorem Try.l1Num_core (k : Nat) : ∀ (n : Int) (h0 : 0 ≤ n) (h1 : n ≤ 9000000000) (hk : n.toNat = k) (w : World),
    Calls Try.prog 105 #[.int .i64 n] w fun e w' => e = .returned (.string ⟨(Lib.decDigits n.toNat).toArray⟩) ∧ Gr w w' := by
  induction k using Nat.strongRecOn with
  | _ k ih =>
    intro n h0 h1 hk w
    by_cases hl : n < 10
    · rw [← dig1 n h0 hl]
      have conv := Try.conv1
      clear ih hk
      go_enter Try.func105, Try.ntmps105
      go_wp2
      go_ret
      exact ⟨rfl, by repeat (first | exact Gr.refl _ | refine Gr.alloc ?_ _ | refine Gr.trans ?_ (by assumption) | refine Gr.drew ?_ | refine Gr.drewN ?_ _ | refine Gr.grow ?_ _)⟩
    · rw [← dig2 n h0 hl]
      have HC := Lib.hid (ih (n / 10).toNat (by omega) (n / 10) (by omega) (by omega) rfl)
      have conv := Try.conv1
      clear ih hk
      have e1 : n.tdiv 10 = n / 10 := Int.tdiv_eq_ediv_of_nonneg h0
      have e2 : n.tmod 10 = n % 10 := Int.tmod_eq_emod_of_nonneg h0
      have e3 : IntKind.i64.wrap (n / 10) = n / 10 := wr64 _ (by omega) (by omega)
      have e4 : IntKind.i64.wrap (48 + n % 10) = 48 + n % 10 := wr64 _ (by omega) (by omega)
      have e5 : IntKind.u8.wrap (48 + n % 10) = 48 + n % 10 := by unfold IntKind.wrap; simp [IntKind.bits, IntKind.signed]; omega
      have e6 : IntKind.i64.wrap (n % 10) = n % 10 := wr64 _ (by omega) (by omega)
      have hadd := fun W => run_string_add (P := Try.prog) (w := W) ⟨(Lib.decDigits (n / 10).toNat).toArray⟩ (strOfNums [48 + n % 10]) (dec_size _ (by omega)) (by rw [strOfNums_size]; simp)
      have d1 : 0 ≤ n / 10 := by omega
      have d2 : 0 ≤ n % 10 := by omega
      have d3 : n % 10 < 10 := by omega
      go_enter Try.func105, Try.ntmps105
      go_wp2
      go_region_with (first | (go_at_call 105; (with_reducible refine (HC.out _).mono ?_); rintro e w1 ⟨rfl, hb⟩; have hc := (bcell hb.below).1))
      all_goals
        go_wp2
        go_ret
        exact ⟨rfl, by repeat (first | exact Gr.refl _ | refine Gr.alloc ?_ _ | refine Gr.trans ?_ (by assumption) | refine Gr.drew ?_ | refine Gr.drewN ?_ _ | refine Gr.grow ?_ _)⟩
theorem Try.l1Num (n : Int) (h0 : 0 ≤ n) (h1 : n ≤ 9000000000) (w : World) :
    Calls Try.prog 105 #[.int .i64 n] w fun e w' => e = .returned (.string ⟨(Lib.decDigits n.toNat).toArray⟩) ∧ Gr w w' := Try.l1Num_core _ n h0 h1 rfl w
theorem nd_dl (n : Int) (h : 1 ≤ n) (g : n ≤ 1000000) : (Lib.nDigits n.toNat : Int) = dl n := by
  have key : ∀ k : Nat, 10 ^ k ≤ n.toNat → n.toNat < 10 ^ (k + 1) → (Lib.nDigits n.toNat : Int) = k + 1 := fun k a b => by rw [Lib.nDigits_unique k _ a b]; simp
  unfold dl
  rcases (show n < 10 ∨ (10 ≤ n ∧ n < 100) ∨ (100 ≤ n ∧ n < 1000) ∨ (1000 ≤ n ∧ n < 10000) ∨ (10000 ≤ n ∧ n < 100000) ∨ (100000 ≤ n ∧ n < 1000000) ∨ n = 1000000 by omega) with c | c | c | c | c | c | c
  · have := key 0 (by simp; omega) (by simp; omega); omega
  · have := key 1 (by simp; omega) (by simp; omega); omega
  · have := key 2 (by simp; omega) (by simp; omega); omega
  · have := key 3 (by simp; omega) (by simp; omega); omega
  · have := key 4 (by simp; omega) (by simp; omega); omega
  · have := key 5 (by simp; omega) (by simp; omega); omega
  · have := key 6 (by simp; omega) (by simp; omega); omega
theorem dec_len (n : Int) (h : 1 ≤ n) (g : n ≤ 1000000) : ((⟨(Lib.decDigits n.toNat).toArray⟩ : ByteArray).size : Int) = dl n := by
  have e : (⟨(Lib.decDigits n.toNat).toArray⟩ : ByteArray).size = Lib.nDigits n.toNat := by
    show (Lib.decDigits n.toNat).toArray.size = _
    rw [Lib.decDigits_eq]
    simp
  rw [e]
  exact nd_dl n h g
set_option maxHeartbeats 400000 in
theorem Try.nuLong (n : Int) (h : 1 ≤ n) (g : n ≤ 1000000) (w : World) :
    Calls Try.prog 78 #[.int .i64 n] w fun e w' => e = .returned (.int .i64 (dl n)) ∧ Gr w w' := by
  have hd := dec_len n h g
  have hc := fun (w : World) => Try.l1Num n (by omega) (by omega) w
  generalize (⟨(Lib.decDigits n.toNat).toArray⟩ : ByteArray) = s at hd hc
  have HD := Lib.hid hd
  have HC := Lib.hid hc
  clear hd hc
  go_enter Try.func78, Try.ntmps78
  go_wp2_with (first | (go_at_call 105; refine (HC.out _).mono ?_; rintro e w1 ⟨rfl, hbW⟩; have hcW := (bcell hbW.below).1; have hfW := (bcell hbW.below).2; (try have hzW : w.heap.size < w1.heap.size := by have hq := hbW.below.size; (try simp at hq); omega); (try have hyW : w.heap.size + 1 < w1.heap.size := by have hq := hbW.below.size; (try simp at hq); omega)))
  go_ret
  exact ⟨ri HD.out, by repeat (first | exact Gr.refl _ | refine Gr.alloc ?_ _ | refine Gr.trans ?_ (by assumption) | refine Gr.drew ?_ | refine Gr.drewN ?_ _ | refine Gr.grow ?_ _)⟩
end Go.Proofs
