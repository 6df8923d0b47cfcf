/-
  Chapter 7: CountPaintings, both sides.
-/
import Derived.Test.YtjhpebihflcanaaRsW
import Derived.Test.YtjhpebihflcanaaRwN
namespace Go.Proofs
open Go.RowKit Go.Maps Rl
set_option linter.unusedVariables false
set_option linter.unusedSimpArgs false
theorem rep_get (n k : Nat) (hk : k < n) (d x : List Int) : (List.replicate n x).getD k d = x := by
  simp [List.getD, List.getElem?_replicate, hk]
theorem zro_row (n k i : Nat) (hi : i < n) : rowOf (zro n k) i = List.replicate k 0 := by
  unfold rowOf zro
  exact rep_get n i hi _ _
theorem zro_costs {n k : Nat} (h1 : 1 ≤ n) (h2 : n ≤ 20) (h3 : 1 ≤ k) (h4 : k ≤ 5) : CostsP (zro n k) := by
  have hl : (zro n k).length = n := by simp [zro]
  refine ⟨by rw [hl]; omega, by rw [zro_row n k 0 (by omega), List.length_replicate]; omega, fun i hi => ?_⟩
  rw [hl] at hi
  refine ⟨by rw [zro_row n k i hi, zro_row n k 0 (by omega)], ?_⟩
  rw [zro_row n k i hi]
  intro j hj
  have e : (List.replicate k (0 : Int)).getD j 0 = 0 := by
    simp only [List.getD, List.getElem?_replicate]
    split <;> rfl
  rw [e]
  rfl
theorem zro_small {n k : Nat} (h2 : n ≤ 20) (h4 : k ≤ 5) : SmallZ (zro n k) := by
  refine ⟨by simp [zro]; omega, fun i => ?_⟩
  by_cases hi : i < n
  · rw [zro_row n k i hi, List.length_replicate]; omega
  · have : rowOf (zro n k) i = [] := by unfold rowOf zro; simp [List.getD, List.getElem?_replicate, hi]
    rw [this]; simp
theorem zro_own {w : World} {B g : Nat} {u : Value} {n k : Nat} (hg : w.heap[g]? = some (.cells (repC u n 0).toArray 29 (0, 0))) (hB : B ≤ g) (hn : n ≤ 20) (hu : OwnI w B u (List.replicate k 0)) :
    OwnZ w B (.slice (some ⟨g, 0, none⟩) n n) (zro n k) := by
  have hl : (zro n k).length = n := by simp [zro]
  refine ⟨List.replicate n u, by rw [hl, List.length_replicate], ⟨by rw [hl, List.length_replicate]; omega, .inr ⟨g, n, _, by rw [hl], hB, hg, by rw [hl]; omega, by unfold maxLen; omega, by simp [repC], by rw [hl]; simp [repC]⟩⟩, fun i v hv => ?_⟩
  rw [List.getElem?_replicate] at hv
  split at hv
  · rename_i hi
    simp only [Option.some.injEq] at hv
    subst hv
    rw [zro_row n k i hi]
    exact hu
  · cases hv
theorem cpV_zro (n k : Nat) (hn : 1 ≤ n) (ring : Bool) : (cpV (zro n k) ring true : Int) = paintN n k (ring && decide (3 ≤ n)) := by
  have hl : (paO (zro n k)).length = n := by rw [paO_len]; simp [zro]
  rw [← paint_free n k hn (ring && decide (3 ≤ n)) (rnd paF (paO (zro n k)).length ring) (fun a b => by rw [hl]; rfl)]
  unfold cpV paintE leastE
  rw [if_pos rfl]
  cases Rl.LE (rnd paF (paO (zro n k)).length ring) (Rl.ways paF (paO (zro n k))) fun _ => true with
  | none => rfl
  | some l => rfl
/-- what is answered -/
def cntP (n k : Int) (ring b : Bool) : Int := if b = true then paintN n.toNat k.toNat (ring && decide (3 ≤ n.toNat)) else 0
theorem soP_bd (k : Nat) (h1 : 1 ≤ k) (h2 : k ≤ 5) : ∀ (m : Nat), 0 ≤ (soP k m).1 ∧ 0 ≤ (soP k m).2 ∧ (soP k m).1 + (soP k m).2 ≤ 5 * (4 : Int) ^ m
  | 0 => by refine ⟨?_, ?_, ?_⟩ <;> simp [soP] <;> omega
  | m + 1 => by
    obtain ⟨a1, a2, a3⟩ := soP_bd k h1 h2 m
    have e := soP_is k (m + 1)
    have q1 : 0 ≤ (soP k (m + 1)).1 := by rw [e]; exact Int.natCast_nonneg _
    have q2 : 0 ≤ (soP k (m + 1)).2 := by rw [e]; exact Int.natCast_nonneg _
    refine ⟨q1, q2, ?_⟩
    unfold soP
    simp only
    generalize (soP k m).1 = x at *
    generalize (soP k m).2 = y at *
    rw [Int.pow_succ]
    generalize (4 : Int) ^ m = z at *
    obtain rfl | rfl | rfl | rfl | rfl : k = 1 ∨ k = 2 ∨ k = 3 ∨ k = 4 ∨ k = 5 := by omega
    all_goals omega
theorem soP_b19 (k : Nat) (h1 : 1 ≤ k) (h2 : k ≤ 5) (m : Nat) (hm : m ≤ 19) : 0 ≤ (soP k m).1 ∧ 0 ≤ (soP k m).2 ∧ (soP k m).1 + (soP k m).2 ≤ 1374389534720 := by
  obtain ⟨a1, a2, a3⟩ := soP_bd k h1 h2 m
  refine ⟨a1, a2, Int.le_trans a3 ?_⟩
  have : (4 : Nat) ^ m ≤ 4 ^ 19 := Nat.pow_le_pow_right (by omega) hm
  have h := Int.ofNat_le.2 this
  rw [Int.natCast_pow, Int.natCast_pow] at h
  have e : ((4 : Nat) : Int) ^ 19 = 274877906944 := by decide
  rw [e] at h
  have e2 : ((4 : Nat) : Int) = 4 := rfl
  rw [e2] at h
  omega
theorem mul_bd {x : Int} {k : Nat} (h0 : 0 ≤ x) (h1 : x ≤ 1374389534720) (k1 : 1 ≤ k) (k2 : k ≤ 5) : (0 ≤ x * ((k : Int) - 1) ∧ x * ((k : Int) - 1) ≤ 6000000000000) ∧ (-1374389534720 ≤ x * ((k : Int) - 2) ∧ x * ((k : Int) - 2) ≤ 6000000000000) := by
  obtain rfl | rfl | rfl | rfl | rfl : k = 1 ∨ k = 2 ∨ k = 3 ∨ k = 4 ∨ k = 5 := by omega
  all_goals omega
set_option maxRecDepth 100000 in
set_option maxHeartbeats 1600000 in
theorem Try.iCountPaintings (w : World) (n k : Int) (ring : Bool) (b1 b2 : Bool) (hb1 : inn n 1 20 = b1) (hb2 : inn k 1 5 = b2) :
    Calls Try.prog 24 #[.int .i64 n, .int .i64 k, .bool ring] w fun e w' => e = .returned (.tuple #[.int .i64 (cntP n k ring (b1 && b2)), .bool (b1 && b2)]) ∧ Below w.heap.size w w' := by
  have H1 := Lib.hid hb1
  have H2 := Lib.hid hb2
  cases b1 with
  | false =>
    clear hb1 hb2
    go_enter Try.func24, Try.ntmps24
    go_wp2_with (first | (go_at_call 39; refine (Try.within _ _ _ _ (by first | exact H1.out | exact H2.out) _).mono ?_; rintro e w1 ⟨rfl, rfl⟩))
    go_ret2
    exact ⟨rfl, Below.refl _ _⟩
  | true =>
    cases b2 with
    | false =>
      clear hb1 hb2
      go_enter Try.func24, Try.ntmps24
      go_wp2_with (first | (go_at_call 39; refine (Try.within _ _ _ _ (by first | exact H1.out | exact H2.out) _).mono ?_; rintro e w1 ⟨rfl, rfl⟩))
      go_ret2
      exact ⟨rfl, Below.refl _ _⟩
    | true =>
      obtain ⟨n1, n2⟩ := inn_e hb1
      obtain ⟨k1, k2⟩ := inn_e hb2
      obtain ⟨N, rfl⟩ : ∃ N : Nat, n = N := ⟨n.toNat, by omega⟩
      obtain ⟨K, rfl⟩ : ∃ K : Nat, k = K := ⟨k.toNat, by omega⟩
      have HNK := Lib.hid (show (1 ≤ N ∧ N ≤ 20) ∧ (1 ≤ K ∧ K ≤ 5) by omega)
      have HV := Lib.hid (show (cpV (zro N K) ring true : Int) = cntP N K ring (true && true) by rw [cpV_zro N K (by omega) ring]; rfl)
      have hU := zro_costs HNK.out.1.1 HNK.out.1.2 HNK.out.2.1 HNK.out.2.2
      have hS := zro_small HNK.out.1.2 HNK.out.2.2
      have HC := Lib.hid (fun (X : World) (C : Nat) (v : Value) (q : OwnZ X C v (zro N K)) => Try.iCountPaint X C v (zro N K) ring true ⟨fun _ => hU, fun _ => rfl⟩ hS q)
      have HR := Lib.hid (fun (X : World) (g c : Nat) (u : Value) => Try.repeatRows X g c N u HNK.out.1.1 HNK.out.1.2)
      obtain ⟨i0, hi, hz0, hz1, hz2⟩ := info_parts Try.infoI2
      have HII := Lib.hid hi
      clear hb1 hb2 hi hU hS
      go_enter Try.func24, Try.ntmps24
      go_wp2_with (first
        | (go_at_call 39; refine (Try.within _ _ _ _ (by first | exact H1.out | exact H2.out) _).mono ?_; rintro e w1 ⟨rfl, rfl⟩)
        | (at_make; refine wpList_make_full _ rfl _ _ 29 rfl w.heap.size 3 i0 (.int .i64 0) 1 Try.underlying29 HII.out hz0 hz1 .i64 .i64 _ _ K rfl rfl (by rfl) (by rfl) (by rw [hz2]; have := HNK.out; omega) (by unfold maxLen; have := HNK.out; omega) (Nat.le_refl _) ?_; intro w2 hown2 hgr2
           have ho2 : OwnI w2 w.heap.size (.slice (some ⟨w.heap.size, 0, none⟩) K K) (List.replicate K 0) := (by unfold OwnI; simpa [Value.cells, toList_madeCells_one] using hown2)
           have HB2 := Lib.hid ((Below.refl w.heap.size w).grown hgr2 (Nat.le_refl _) (by simp))
           obtain ⟨W2, hW2⟩ : ∃ W2, w2.alloc (.cells #[.slice (some ⟨w.heap.size, 0, none⟩) K K] 29) = W2 := ⟨_, rfl⟩
           have HO2 := Lib.hid (show OwnI W2 w.heap.size (.slice (some ⟨w.heap.size, 0, none⟩) K K) (List.replicate K 0) by rw [← hW2]; exact ho2.gr (Gr.alloc (Gr.refl _) _))
           have HX2 := Lib.hid (show Below w.heap.size w W2 by rw [← hW2]; exact Below.alloc HB2.out HB2.out.size _)
           have HC2 := Lib.hid (show W2.cell? ⟨w2.heap.size, 0, none⟩ = some (.slice (some ⟨w.heap.size, 0, none⟩) K K) by rw [← hW2, blk_cell (heap_alloc_new w2 _)]; rfl)
           have HL2 := Lib.hid (show w2.heap.size < W2.heap.size by rw [← hW2]; simp)
           clear hown2 hgr2 ho2)
        | (go_at_call 40; refine (HR.out _ _ _ _ rfl HC2.out HL2.out).mono ?_; rintro e w3 ⟨rfl, hc3, hb3⟩
           have HO3 := Lib.hid (HO2.out.below hb3 (Nat.le_refl _))
           have HZ3 := Lib.hid (zro_own hc3 HX2.out.size (by have := HNK.out; omega) HO3.out)
           have HB3 := Lib.hid (HX2.out.trans (hb3.mono HX2.out.size))
           clear hc3 hb3)
        | (go_at_call 22; refine (HC.out _ _ _ HZ3.out).mono ?_; rintro e w4 ⟨rfl, hb4⟩))
      trace_state
      go_ret2
      refine ⟨by rw [HV.out]; rfl, ?_⟩
      exact HB3.out.trans (hb4.mono HB3.out.size)
end Go.Proofs
