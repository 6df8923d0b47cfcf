/-
  Chapter 7: the best loot (the model); CountLoots (the program).
-/
import Derived.Test.YtjhpebihflcanaaRsQ
namespace Go.Proofs
open Go.RowKit Go.Maps Rl
set_option linter.unusedVariables false
set_option linter.unusedSimpArgs false
set_option maxRecDepth 100000 in
set_option maxHeartbeats 4000000 in
theorem Try.rwLoot (w : World) (B : Nat) (v : Value) (xs : List Int) (ring : Bool) (hU : UpP xs 20 1000) (h : OwnI w B v xs) :
    Calls Try.prog 42 #[v, .bool ring] w fun e w' => ∃ s, e = .returned (.tuple #[.int .i64 (blV xs ring true), s]) ∧ OwnI w' w.heap.size s (flV xs ring true) ∧ Below w.heap.size w w' := by
  have h1 := hU.1.1
  have h20 : xs.length ≤ 20 := by have := hU.1; omega
  obtain ⟨n, hn⟩ : ∃ n, xs.length = n := ⟨_, rfl⟩
  have HBE := Lib.hid (best_is hU ring)
  have hx := allIn_mem hU.2
  rw [hn] at HBE h1 h20
  have HR := Lib.hid (fun (X : World) => Try.rwLoots n h20 ring n [] X 0 (.slice none 0 0) (Nat.le_refl _) (by simp) (by simp) (.inl ⟨rfl, rfl⟩) (OwnI.nil2 _ _))
  have hIS := loA_is n ring
  rw [hIS] at HR
  have hlen := loA_len (n := n) (ring := ring) h20
  have HMEM := Lib.hid (fun s (hs : s ∈ loA n ring) => loA_mem hs)
  have hpos : 0 < (loA n ring).length := List.length_pos_iff.2 (loU_ne _ _)
  generalize loA n ring = U at *
  obtain ⟨g0, c0, rfl, _, _, _⟩ := OwnI.rowB h (by omega)
  have HV := Lib.hid h
  have HX := Lib.hid hx
  have HN := Lib.hid hn
  have hzl : (n : Int) ≤ 20 := by omega
  have hul : (U.length : Int) ≤ 1048576 := by omega
  rw [hn] at HV ⊢
  clear hU h hx hIS hn
  go_enter Try.func42, Try.ntmps42
  go_wp2_with (go_at_call 44; refine (HR.out _).mono ?_; rintro e w2 ⟨u, rfl, ho, hb2⟩; obtain ⟨g, c, rfl, hrows⟩ := OwnLL.form ho hpos)
  have HROW := Lib.hid hrows
  have HB2 := Lib.hid hb2
  have HVX := Lib.hid (OwnI.below HV.out hb2 (Nat.le_refl _))
  clear ho hrows hb2
  go_loopw [6, 7, 18] (fun mv bv iv wr => ∃ k : Nat, iv = .int .i64 k ∧ k ≤ U.length ∧ mv = .int .i64 (bstL xs (U.take k)).1 ∧ OwnI w2 w.heap.size bv (bstL xs (U.take k)).2 ∧ wr = w2) (fun _ _ i _ => U.length - (intOf i).toNat)
  case atStart => exact ⟨0, rfl, Nat.zero_le _, rfl, OwnI.nil2 _ _, by trivial⟩
  case round =>
    obtain ⟨k, rfl, hk, rfl, hbo, rfl⟩ := hrel
    have HBO := Lib.hid hbo
    by_cases hlt : k < U.length
    · obtain ⟨s, cs, hso⟩ := HROW.out k hlt
      have hrow : rowOf U k = U[k] := by simp [rowOf, List.getD, hlt]
      rw [hrow] at hso
      have hm := HMEM.out U[k] (by simp)
      have HNX := Lib.hid (show bstL xs (U.take (k + 1)) = bst xs (bstL xs (U.take k)) U[k] by rw [List.take_succ_eq_append_getElem hlt, bstL_snoc])
      have hmo : -1 ≤ (bstL xs (U.take k)).1 ∧ (bstL xs (U.take k)).1 ≤ 100000 := by
        rcases bstL_is HX.out _ (U.take k) rfl with ⟨_, e⟩ | ⟨q1, _, q3⟩
        · rw [e]; decide
        · refine ⟨by omega, ?_⟩
          have q4 := List.find?_some q3
          simp only [decide_eq_true_eq] at q4
          have q5 := List.mem_of_find?_eq_some q3
          have q6 := HMEM.out _ (List.mem_of_mem_take q5)
          have q7 := (smL_bd HX.out (bstL xs (U.take k)).2).2
          have q8 : ((bstL xs (U.take k)).2.length : Int) ≤ 20 := by omega
          omega
      obtain ⟨A, cc, rfl⟩ := hso.form
      generalize U[k] = row at *
      generalize bstL xs (U.take k) = pb at *
      obtain ⟨pm, pl⟩ := pb
      simp only at hmo HBO ⊢
      obtain ⟨A7, c7, e7⟩ := HBO.out.form
      have HSO := Lib.hid hso
      have HM := Lib.hid hm
      obtain ⟨L, hL⟩ : ∃ L, row.length = L := ⟨_, rfl⟩
      have HLL := Lib.hid hL
      rw [hL] at HSO cs
      have zL : (L : Int) ≤ 20 := by have := hm.2; omega
      have z0 : (0 : Int) ≤ (k : Int) := by omega
      have z1 : (k : Int) < (U.length : Int) := by omega
      subst e7
      clear hrow hm hso hL hbo
      go_wp2_with fail
      rename World => wo
      go_loopw [10, 24] (fun sv tv wi => ∃ t : Nat, tv = .int .i64 t ∧ t ≤ L ∧ sv = .int .i64 (smL xs (row.take t)) ∧ wi = wo) (fun _ t _ => L - (intOf t).toNat)
      case atStart => exact ⟨0, rfl, Nat.zero_le _, rfl, by trivial⟩
      case round =>
        obtain ⟨t, rfl, ht, rfl, rfl⟩ := hrel
        by_cases htl : t < L
        · obtain ⟨g3, rfl⟩ := OwnI.addr HSO.out (by have := HLL.out; omega)
          have ch := (HSO.out.at HLL.out t htl).1
          have htr : t < row.length := by have := HLL.out; omega
          have hgd : row.getD t 0 = row[t] := by simp [List.getD, htr]
          have hhb := HM.out.1 row[t] (by simp)
          rw [← hgd] at hhb
          have HSM := Lib.hid (show smL xs (row.take (t + 1)) = smL xs (row.take t) + xs.getD (row.getD t 0).toNat 0 by rw [List.take_succ_eq_append_getElem htr, smL_snoc, hgd])
          generalize row.getD t 0 = hh at *
          obtain ⟨j, rfl⟩ : ∃ j : Nat, hh = j := ⟨hh.toNat, by omega⟩
          rw [Int.toNat_natCast] at HSM
          have hj : j < n := by omega
          have cx := (HVX.out.at HN.out j hj).1
          have hs1 := smL_bd HX.out (row.take t)
          have hs2 : (((row.take t).length : Nat) : Int) ≤ 20 := by rw [List.length_take]; omega
          have hx1 : 0 ≤ xs.getD j 0 ∧ xs.getD j 0 ≤ 1000 := by
            have q : j < xs.length := by have := HN.out; omega
            have := HX.out xs[j] (by simp)
            simpa [List.getD, q] using this
          generalize smL xs (row.take t) = S at *
          generalize xs.getD j 0 = y at *
          have b0 : 0 ≤ S := hs1.1
          have b1 : S ≤ 20000 := by omega
          have b2 : 0 ≤ y := hx1.1
          have b3 : y ≤ 1000 := hx1.2
          have z2 : (0 : Int) ≤ (t : Int) := by omega
          have z3 : (t : Int) < (L : Int) := by omega
          have z4 : (0 : Int) ≤ (j : Int) := by omega
          have z5 : (j : Int) < (n : Int) := by omega
          clear hs1 hs2 hx1 hgd hhb
          go_wp2_with fail
          go_roundw
          case rel => exact ⟨t + 1, by go_num, by omega, by rw [HSM.out], by trivial⟩
          case measure => simp [intOf]; omega
        · obtain rfl : t = L := by omega
          have z3 : ¬ (t : Int) < (t : Int) := by omega
          rw [List.take_of_length_le (by have := HLL.out; omega)]
          have hs1 := smL_bd HX.out row
          have HBS := Lib.hid (show bst xs (pm, pl) row = if pm < smL xs row then (smL xs row, row) else (pm, pl) from rfl)
          generalize hS : smL xs row = S at *
          have b0 : 0 ≤ S := hs1.1
          clear hs1 hS
          by_cases hc : pm < S
          · go_wp2_with fail
            go_roundw
            case rel => exact ⟨k + 1, by go_num, by omega, by rw [HNX.out, HBS.out, if_pos hc], by rw [HNX.out, HBS.out, if_pos hc]; exact HSO.out, by trivial⟩
            case measure => simp [intOf]; omega
          · go_wp2_with fail
            go_roundw
            case rel => exact ⟨k + 1, by go_num, by omega, by rw [HNX.out, HBS.out, if_neg hc], by rw [HNX.out, HBS.out, if_neg hc]; exact HBO.out, by trivial⟩
            case measure => simp [intOf]; omega
    · obtain rfl : k = U.length := by omega
      have z1 : ¬ (U.length : Int) < (U.length : Int) := by omega
      rw [List.take_of_length_le (Nat.le_refl _), HBE.out] at hbo
      rw [List.take_of_length_le (Nat.le_refl _), HBE.out]
      obtain ⟨A7, c7, rfl⟩ := hbo.form
      have HF := Lib.hid hbo
      clear hbo HBO
      go_wp2
      go_ret2
      exact ⟨_, rfl, HF.out, HB2.out⟩
set_option maxHeartbeats 1600000 in
theorem Try.sBestLoot (w : World) (B : Nat) (v : Value) (xs : List Int) (ring b : Bool) (hb : b = true ↔ UpP xs 20 1000) (hl : xs.length ≤ 1048576) (h : OwnI w B v xs) :
    Calls Try.prog 25 #[v, .bool ring] w fun e w' => e = .returned (.tuple #[.int .i64 (blV xs ring b), .bool b]) ∧ Below w.heap.size w w' := by
  have HV := Lib.hid (Try.rwValues w B v xs b hb hl h)
  cases b with
  | false =>
    obtain ⟨A, c, rfl, _⟩ := h.eta
    clear h hb
    go_enter Try.func25, Try.ntmps25
    go_wp2_with (go_at_call 41; refine HV.out.mono ?_; rintro e w1 ⟨rfl, g1⟩)
    go_ret2
    exact ⟨rfl, g1.below⟩
  | true =>
    have HL := Lib.hid (fun (X : World) (g : Gr w X) => Try.rwLoot X B v xs ring (hb.1 rfl) (h.gr g))
    obtain ⟨A, c, rfl, _⟩ := h.eta
    clear h hb
    go_enter Try.func25, Try.ntmps25
    go_wp2_with (first | (go_at_call 41; refine HV.out.mono ?_; rintro e w1 ⟨rfl, g1⟩) | (go_at_call 42; refine (HL.out _ g1).mono ?_; rintro e w2 ⟨s, rfl, ho, hb2⟩; obtain ⟨A2, c2, rfl⟩ := ho.form))
    go_ret2
    exact ⟨rfl, g1.below.trans (hb2.mono g1.below.size)⟩
set_option maxHeartbeats 1600000 in
theorem Try.sFirstLoot (w : World) (B : Nat) (v : Value) (xs : List Int) (ring b : Bool) (hb : b = true ↔ UpP xs 20 1000) (hl : xs.length ≤ 1048576) (h : OwnI w B v xs) :
    Calls Try.prog 28 #[v, .bool ring] w fun e w' => ∃ s, e = .returned (.tuple #[s, .bool b]) ∧ OwnI w' w.heap.size s (flV xs ring b) ∧ Below w.heap.size w w' := by
  have HV := Lib.hid (Try.rwValues w B v xs b hb hl h)
  cases b with
  | false =>
    obtain ⟨A, c, rfl, _⟩ := h.eta
    clear h hb
    go_enter Try.func28, Try.ntmps28
    go_wp2_with (go_at_call 41; refine HV.out.mono ?_; rintro e w1 ⟨rfl, g1⟩)
    go_ret2
    exact ⟨_, rfl, OwnI.nil2 _ _, g1.below⟩
  | true =>
    have HL := Lib.hid (fun (X : World) (g : Gr w X) => Try.rwLoot X B v xs ring (hb.1 rfl) (h.gr g))
    obtain ⟨A, c, rfl, _⟩ := h.eta
    clear h hb
    go_enter Try.func28, Try.ntmps28
    go_wp2_with (first | (go_at_call 41; refine HV.out.mono ?_; rintro e w1 ⟨rfl, g1⟩) | (go_at_call 42; refine (HL.out _ g1).mono ?_; rintro e w2 ⟨s, rfl, ho, hb2⟩; obtain ⟨A2, c2, rfl⟩ := ho.form))
    go_ret2
    exact ⟨_, rfl, ho.mono g1.below.size, g1.below.trans (hb2.mono g1.below.size)⟩
end Go.Proofs
