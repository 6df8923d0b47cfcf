/-
  Chapter 7: CountLoots (the program).
-/
import Derived.Test.YtjhpebihflcanaaRsR
namespace Go.Proofs
open Go.RowKit Go.Maps Rl
set_option linter.unusedVariables false
set_option linter.unusedSimpArgs false
theorem flV_len {xs : List Int} {ring b : Bool} (hb : b = true ↔ UpP xs 20 1000) : (flV xs ring b).length ≤ 1000000000 := by
  unfold flV
  split
  · rename_i h
    cases e : bestE xs ring with
    | none => simp
    | some l => have := (bestE_le (hb.1 h) e).len; simp only; omega
  · simp
theorem upP_zero {k : Nat} (h1 : 1 ≤ k) (h2 : k ≤ 20) : UpP (List.replicate k 0) 20 1000 := by
  refine ⟨by rw [List.length_replicate]; omega, fun i hi => ?_⟩
  have : (List.replicate k (0 : Int)).getD i 0 = 0 := by
    simp only [List.getD, List.getElem?_replicate]
    split <;> rfl
  rw [this]
  rfl
set_option maxRecDepth 100000 in
set_option maxHeartbeats 1600000 in
theorem Try.iCountLoots (w : World) (n : Int) (ring : Bool) (b : Bool) (hb : inn n 1 20 = b) :
    Calls Try.prog 31 #[.int .i64 n, .bool ring] w fun e w' => e = .returned (.tuple #[.int .i64 (if b = true then ((loA n.toNat ring).length : Int) else 0), .bool b]) ∧ Below w.heap.size w w' := by
  have HH := Lib.hid (fun (X : World) => Try.within n 1 20 b hb X)
  cases b with
  | false =>
    clear hb
    go_enter Try.func31, Try.ntmps31
    go_wp2_with (go_at_call 39; refine (HH.out _).mono ?_; rintro e w1 ⟨rfl, rfl⟩)
    go_ret2
    exact ⟨rfl, Below.refl _ _⟩
  | true =>
    obtain ⟨h1, h2⟩ := inn_e hb
    obtain ⟨k, rfl⟩ : ∃ k : Nat, n = k := ⟨n.toNat, by omega⟩
    rw [if_pos rfl, Int.toNat_natCast]
    have hU := upP_zero (k := k) (by omega) (by omega)
    have HB := Lib.hid (fun (X : World) (C : Nat) (v : Value) (q : OwnI X C v (List.replicate k 0)) => Try.bestLoots X C v (List.replicate k 0) ring true ⟨fun _ => hU, fun _ => rfl⟩ (by rw [List.length_replicate]; omega) q)
    have HL := Lib.hid (fun (X : World) (C : Nat) (u : Value) (q : LeV X C u (if true = true then bestE (List.replicate k 0) ring else none)) => Try.lootV (b := true) ⟨fun _ => hU, fun _ => rfl⟩ q)
    have HC := Lib.hid (clV_zero k ring)
    obtain ⟨i0, hi, hz0, hz1, hz2⟩ := info_parts Try.infoI2
    have HII := Lib.hid hi
    have HK := Lib.hid (show k ≤ 20 by omega)
    have hk0 : (0 : Int) ≤ (k : Int) := by omega
    have hk1 : (k : Int) ≤ 20 := by omega
    clear hb h1 h2 hi hU
    go_enter Try.func31, Try.ntmps31
    go_wp2_with (first
      | (go_at_call 39; refine (HH.out _).mono ?_; rintro e w1 ⟨rfl, rfl⟩)
      | (at_make; refine wpList_make_full _ rfl _ _ 29 rfl w.heap.size 3 i0 (.int .i64 0) 1 Try.underlying29 HII.out hz0 hz1 .i64 .i64 _ _ k rfl rfl (by rfl) (by rfl) (by rw [hz2]; have := HK.out; omega) (by unfold maxLen; have := HK.out; omega) (Nat.le_refl _) ?_; intro w2 hown2 hgr2; have ho2 : OwnI w2 w.heap.size (.slice (some ⟨w.heap.size, 0, none⟩) k k) (List.replicate k 0) := (by unfold OwnI; simpa [Value.cells, toList_madeCells_one] using hown2); have HO2 := Lib.hid ho2; have HG2 := Lib.hid hgr2; clear hown2 hgr2 ho2))
    refine (HB.out _ _ _ HO2.out).mono ?_
    rintro e w3 ⟨u, rfl, hL, hb3⟩
    obtain ⟨c3, n3, s3, rfl, q1, q2, q3, q4, q5⟩ := HL.out _ _ _ hL
    obtain ⟨A3, k3, rfl⟩ := q2.form
    have HN3 := Lib.hid (q5 (by first | rfl | trivial))
    clear q5
    go_wp2_with fail
    go_ret2
    refine ⟨by rw [HN3.out, HC.out]; rfl, ?_⟩
    have hb2 : Below w.heap.size w w2 := ⟨HG2.out.os, HG2.out.tape, HG2.out.output, HG2.out.size, fun i hi => HG2.out.block i hi (by simp)⟩
    exact Below.alloc (hb2.trans (hb3.mono hb2.size)) (Nat.le_trans hb2.size hb3.size) _
end Go.Proofs
