/-
  Contracts of chapter 4: where one comes over one block, and what is reached from a corner (the program).
-/
import Derived.Test.YtnpkhoiblemodaaRbY
import Derived.Test.YtnpkhoiblemodaaBrH
namespace Go.Proofs
open Go.RowKit Av Gm Go.Maps
set_option linter.unusedVariables false
set_option linter.unusedSimpArgs false
theorem fm_snoc (nb : Nat → Nat → Option Nat) (u j : Nat) : (List.range (j + 1)).filterMap (nb u) = (List.range j).filterMap (nb u) ++ (match nb u j with | some m => [m] | none => []) := by
  rw [List.range_succ, List.filterMap_append]
  congr 1
  cases h : nb u j <;> simp [h]
theorem iter_grown {w : World} {k : Nat} {s : ByteArray} {p : Nat} : w.grownBy (w.iterAt k s p) (some k) :=
  ⟨rfl, rfl, rfl, by rw [Go.Lib.iterAt_size]; exact Nat.le_refl _, fun j _ hj => Go.Lib.iterAt_other w k j s p (fun e => hj (by rw [e]))⟩
set_option maxRecDepth 100000 in
set_option maxHeartbeats 2000000 in
theorem Try.beside (w : World) (Wn Hn : Nat) (B : Nat) (a : Value) (ps : List Blk) (u : Nat) (hW : 1 ≤ Wn ∧ Wn ≤ 8) (hH : 1 ≤ Hn ∧ Hn ≤ 8) (hu : Up ps) (huN : u < Wn * Hn) (hl : ps.length ≤ 1048576) (h : OwnB w B a ps) :
    Calls Try.prog 62 #[.agg #[.int .i64 Wn, .int .i64 Hn, a], .agg #[.int .i64 (crn Hn u).1, .int .i64 (crn Hn u).2]] w fun e w' => ∃ v, e = .returned v ∧ OwnE 66 2 (ccs Hn) w' w.heap.size v (lsN (nbC Wn Hn ps) u) ∧ Below w.heap.size w w' := by
  have mixed : Try.prog.follows .mixedOrders = true := by kernel_rfl
  obtain ⟨A, c, rfl, h⟩ := OwnE.eta h
  obtain ⟨W0, hW0⟩ : ∃ W0, (w.alloc (.cells #[.int .i64 Wn, .int .i64 Hn, .slice A ps.length c] 30)).alloc (.cells #[.int .i64 (crn Hn u).1, .int .i64 (crn Hn u).2] 66) = W0 := ⟨_, rfl⟩
  have GW : Gr w W0 := by subst hW0; exact by repeat (first | exact Gr.refl _ | refine Gr.alloc ?_ _ | refine Gr.trans ?_ (by assumption) | refine Gr.drew ?_ | refine Gr.drewN ?_ _ | refine Gr.grow ?_ _ | refine Gr.setCell ?_ (by (try simp); (try omega)) _)
  have sz0 : W0.heap.size = w.heap.size + 1 + 1 := by subst hW0; simp
  have k0 : W0.cell? ⟨w.heap.size, 0, none⟩ = some (.int .i64 Wn) := by subst hW0; simp [go_sem]
  have k1 : W0.cell? ⟨w.heap.size, 1, none⟩ = some (.int .i64 Hn) := by subst hW0; simp [go_sem]
  have k2 : W0.cell? ⟨w.heap.size, 2, none⟩ = some (.slice A ps.length c) := by subst hW0; simp [go_sem]
  have k3 : W0.cell? ⟨w.heap.size + 1, 0, none⟩ = some (.int .i64 (crn Hn u).1) := by subst hW0; simp [go_sem]
  have k4 : W0.cell? ⟨w.heap.size + 1, 1, none⟩ = some (.int .i64 (crn Hn u).2) := by subst hW0; simp [go_sem]
  have HOW := Lib.hid (OwnE.gr h GW)
  have HG := Lib.hid GW
  have HK := Lib.hid (And.intro k0 (And.intro k1 (And.intro k2 (And.intro k3 k4))))
  have HON := Lib.hid (on_idx huN)
  have SZ := Lib.hid sz0
  clear GW h k0 k1 k2 k3 k4 sz0
  go_enter Try.func62, Try.ntmps62
  go_wp2_with fail
  have GI : Gr W0 (W0.iter sgB 0) := Gr.alloc (Gr.refl _) _
  go_loopg [5] 4 (fun gk v wr => ∃ j, j + gk = 4 ∧ OwnE 66 2 (ccs Hn) wr (W0.heap.size + 1) v ((List.range j).filterMap (nbC Wn Hn ps u)) ∧ Below W0.heap.size W0 wr ∧ wr.heap[W0.heap.size]? = some (.stringIter sgB j))
  case atStart => exact ⟨0, rfl, OwnE.nil _ _ _ _ _, GI.below, World.iter_heap W0 sgB 0⟩
  case round =>
    obtain ⟨j, hjg, ho, hb, hit⟩ := hrel
    have hsz := (Array.getElem?_eq_some_iff.1 hit).1
    by_cases hj : j < 4
    · have hnx : ∀ ty, (Instr.next (.pointer (some ⟨W0.heap.size, 0, none⟩)) true ty).run Try.prog wr = .ok (.tuple #[.bool true, .int .i64 j, .int .i32 (sgn j)]) (wr.iterAt W0.heap.size sgB (j + 1)) := fun ty => by
        have := Go.Lib.run_next_ascii_at (P := Try.prog) wr W0.heap.size sgB j ty hit hj (sgB_lt ⟨j, hj⟩)
        rw [this]
        exact congrArg (fun z => Result.ok (Value.tuple #[.bool true, .int .i64 j, .int .i32 z]) (wr.iterAt W0.heap.size sgB (j + 1))) (sgB_at ⟨j, hj⟩)
      obtain ⟨wi, hwi⟩ : ∃ wi, wr.iterAt W0.heap.size sgB (j + 1) = wi := ⟨_, rfl⟩
      have hitw : wi.heap[W0.heap.size]? = some (.stringIter sgB (j + 1)) := by rw [← hwi]; exact Go.Lib.iterAt_heap wr _ sgB j (j + 1) hit
      have hgi : wr.grownBy wi (some W0.heap.size) := by rw [← hwi]; exact iter_grown
      have hbi : Below W0.heap.size W0 wi := by rw [← hwi]; exact Go.Lib.below_iterAt hb (Nat.le_refl _) _ _
      rw [hwi] at hnx
      have hoi := ho.grown hgi (by
        cases hx : u5.ownBlock with
        | none => exact .inl rfl
        | some y => exact .inr (fun e => by have := (World.ownsRow.lt ho y hx).1; cases e; omega))
      have c0 := cell_k2 hbi HK.out.1
      have c1 := cell_k2 hbi HK.out.2.1
      have c2 := cell_k2 hbi HK.out.2.2.1
      have c3 := cell_k2 hbi HK.out.2.2.2.1
      have c4 := cell_k2 hbi HK.out.2.2.2.2
      have HOI := Lib.hid (OwnE.below HOW.out hbi (Nat.le_refl _))
      have hszi : W0.heap.size < wi.heap.size := (Array.getElem?_eq_some_iff.1 hitw).1
      have HITW := Lib.hid hitw
      have HBI := Lib.hid hbi
      have HO := Lib.hid hoi
      clear hwi hitw hgi hbi hoi ho hb hit
      have HST := Lib.hid (fun (X : World) (hX : OwnB X B (.slice A ps.length c) ps) => Try.iStep X Wn Hn B _ ps _ _ j hj (by omega) (by omega) hu HON.out hl hX)
      cases hst : stp Wn Hn ps (((u / Hn : Nat) : Int), ((u % Hn : Nat) : Int)) j
      · obtain ⟨p, q, hv⟩ := itV_none hst
        rw [hv] at HST
        have HFM := Lib.hid (show (List.range (j + 1)).filterMap (nbC Wn Hn ps u) = (List.range j).filterMap (nbC Wn Hn ps u) by rw [fm_snoc, nb_none hst]; simp)
        clear hst hv
        go_wp2_with (first | (go_at_call 42; refine (HST.out _ HOI.out).mono ?_; rintro e w3 ⟨rfl, g3⟩))
        have gE := Gr.alloc g3 (.cells #[.int .i64 p, .int .i64 q] 66)
        go_roundg (gk - 1)
        case rel => exact ⟨j + 1, by omega, by rw [HFM.out]; exact HO.out.gr gE, HBI.out.trans (gE.below.mono HBI.out.size), by rw [gE.below.block _ hszi]; exact HITW.out⟩
        case measure => omega
      · obtain ⟨m, hnb, hmN, hmx, hmy, _⟩ := nb_some hj huN hst
        rw [itV_some hst, ← hmx, ← hmy] at HST
        change Hid (∀ (X : World), OwnB X B (.slice A ps.length c) ps → Calls Try.prog 42 #[.agg #[.int .i64 Wn, .int .i64 Hn, .slice A ps.length c], .agg #[.int .i64 (crn Hn u).1, .int .i64 (crn Hn u).2], .int .i32 (sgn j)] X fun e w' => e = .returned (.tuple #[.agg #[.int .i64 (crn Hn m).1, .int .i64 (crn Hn m).2], .bool true]) ∧ Gr X w') at HST
        have HFM := Lib.hid (show (List.range (j + 1)).filterMap (nbC Wn Hn ps u) = (List.range j).filterMap (nbC Wn Hn ps u) ++ [m] by rw [fm_snoc, hnb])
        have HLL := Lib.hid (show ((List.range j).filterMap (nbC Wn Hn ps u)).length ≤ 4 from Nat.le_trans (List.length_filterMap_le _ _) (by simp; omega))
        clear hst hnb hmx hmy
        generalize (List.range j).filterMap (nbC Wn Hn ps u) = xs at *
        have hll := HLL.out
        go_wp2_with (first | (go_at_call 42; refine (HST.out _ HOI.out).mono ?_; rintro e w3 ⟨rfl, g3⟩; have hs3 := g3.below.size; have hs0 := HBI.out.size) | (at_builtin; refine wpList_appE (ccs_len Hn) (ccs_one Hn) rfl _ _ 106 rfl 66 Try.underlying106 Try.infoC rfl (by decide) (by decide) (W0.heap.size + 1) _ _ rfl (HO.out.gr (Gr.alloc (Gr.alloc g3 _) _)) _ 1 1 [m] rfl rfl (fun j u hu => alloc_cells' (by simp) (by simpa [ecs, ccs] using hu)) (by (try simp) <;> omega) (by simp) (by (try simp) <;> omega) ?_; intro v3 w5 ho5 hb5 _ _))
        have gE : Gr wi ((w3.alloc (.cells #[.int .i64 (crn Hn m).1, .int .i64 (crn Hn m).2] 66)).alloc (.cells #[.int .i64 (crn Hn m).1, .int .i64 (crn Hn m).2] 66)) := Gr.alloc (Gr.alloc g3 _) _
        have HO5 := Lib.hid ho5
        have HB5 := Lib.hid (And.intro hb5 gE)
        clear ho5 hb5
        go_roundg (gk - 1)
        case rel =>
          refine ⟨j + 1, by omega, by rw [HFM.out]; exact HO5.out, HBI.out.trans ((HB5.out.2.below.mono HBI.out.size).trans (HB5.out.1.mono (by omega))), ?_⟩
          rw [HB5.out.1.block _ (Nat.lt_succ_self _), HB5.out.2.below.block _ hszi]; exact HITW.out
        case measure => omega
    · obtain rfl : j = 4 := by omega
      have hne := fun ty => Go.Lib.run_next_end_at (P := Try.prog) wr W0.heap.size sgB 4 ty hit (by decide)
      have HO := Lib.hid (show OwnE 66 2 (ccs Hn) wr (W0.heap.size + 1) u5 (lsN (nbC Wn Hn ps) u) from ho)
      have HB := Lib.hid hb
      clear ho hb hit hsz
      go_wp2
      go_ret
      exact ⟨_, rfl, HO.out.mono (by have := SZ.out; omega), Below.trans HG.out.below (HB.out.mono HG.out.below.size)⟩
set_option maxRecDepth 100000 in
set_option maxHeartbeats 2000000 in
theorem Try.reachedFrom (w : World) (Wn Hn : Nat) (B : Nat) (a : Value) (ps : List Blk) (s0 : Nat) (hW : 1 ≤ Wn ∧ Wn ≤ 8) (hH : 1 ≤ Hn ∧ Hn ≤ 8) (hu : Up ps) (hs : s0 < Wn * Hn) (hl : ps.length ≤ 1048576) (h : OwnB w B a ps) :
    Calls Try.prog 44 #[.agg #[.int .i64 Wn, .int .i64 Hn, a], .agg #[.int .i64 (crn Hn s0).1, .int .i64 (crn Hn s0).2]] w fun e w' => ∃ b n D, e = .returned (.map (some b)) ∧
      w'.ownsMap Try.prog 66 rElem b n D ∧ MapIs Hn (Wn * Hn) D (fin (nbC Wn Hn ps) (Wn * Hn) s0) ∧ Below w.heap.size w w' := by
  obtain ⟨A, c, rfl, h⟩ := OwnE.eta h
  have HR := Lib.hid (fun (X : World) (g : Gr w X) => Try.reachedByY X Wn Hn (lsN (nbC Wn Hn ps)) (.agg #[.int .i64 Wn, .int .i64 Hn, .slice A ps.length c]) s0 hW hH (fun u hu v hv => by obtain ⟨j, _, e⟩ := lsN_mem hv; exact nb_valid u j v hu e) (lsN_len _) hs (fun Y u huN hY => Try.beside Y Wn Hn B _ ps u hW hH hu huN hl (OwnE.below (h.gr g) hY (Nat.le_refl _))))
  rw [fin_lsN] at HR
  clear h
  go_enter Try.func44, Try.ntmps44
  go_wp2_with (first | (go_at_call 61; refine (HR.out _ (by repeat (first | exact Gr.refl _ | refine Gr.alloc ?_ _ | refine Gr.trans ?_ (by assumption) | refine Gr.drew ?_ | refine Gr.drewN ?_ _ | refine Gr.grow ?_ _ | refine Gr.setCell ?_ (by (try simp); (try omega)) _))).mono ?_; rintro e w3 ⟨b, n, D, rfl, hown, hM, hb⟩))
  have GX : Gr w ((w.alloc (.cells #[.int .i64 Wn, .int .i64 Hn, .slice A ps.length c] 30)).alloc (.cells #[.int .i64 (crn Hn s0).1, .int .i64 (crn Hn s0).2] 66)) := by repeat (first | exact Gr.refl _ | refine Gr.alloc ?_ _ | refine Gr.trans ?_ (by assumption) | refine Gr.drew ?_ | refine Gr.drewN ?_ _ | refine Gr.grow ?_ _ | refine Gr.setCell ?_ (by (try simp); (try omega)) _)
  go_ret
  exact ⟨b, n, D, rfl, hown, hM, Below.trans GX.below (hb.mono GX.below.size)⟩
end Go.Proofs
