/-
  Chapter 7: bestLoots and what the program tells of it.
-/
import Derived.Test.YtjhpebihflcanaaRsL
import Derived.Test.YtjhpebihflcanaaRlW
import Derived.Lib.MinMax
namespace Go.Proofs
open Go.RowKit Go.Maps Rl
set_option linter.unusedVariables false
set_option linter.unusedSimpArgs false
theorem loO_len : ∀ (vs : List Int) (i : Int), (loO vs i).length = vs.length
  | [], _ => rfl
  | v :: vs, i => by simp only [loO, List.length_cons]; rw [loO_len vs (i + 1)]
theorem loO_snoc : ∀ (vs : List Int) (v : Int) (i : Int), loO (vs ++ [v]) i = loO vs i ++ [[⟨0, 0, []⟩, ⟨1, -v, [i + vs.length]⟩]]
  | [], v, i => by simp [loO]
  | u :: vs, v, i => by
    simp only [List.cons_append, loO]
    rw [loO_snoc vs v (i + 1)]
    simp only [List.length_cons]
    rw [show i + 1 + (vs.length : Int) = i + ((vs.length + 1 : Nat) : Int) by push_cast; omega]
theorem loO_ok : ∀ (vs : List Int) (i : Int), (∀ v ∈ vs, 0 ≤ v ∧ v ≤ 1000) → ∀ os ∈ loO vs i, OsB os
  | [], _, _, os, h => by simp [loO] at h
  | v :: vs, i, ha, os, h => by
    rcases List.mem_cons.1 h with rfl | h
    · have hv := ha v (by simp)
      refine ⟨by simp, lo_dif v i, fun o ho => ?_⟩
      simp only [List.mem_cons, List.not_mem_nil, or_false] at ho
      rcases ho with rfl | rfl
      · exact ⟨⟨by decide, by decide⟩, by decide, by decide, by simp⟩
      · exact ⟨⟨show (0 : Int) ≤ 1 by decide, show (1 : Int) < 8 by decide⟩, show -1000 ≤ -v by omega, show -v ≤ 1000 by omega, by simp⟩
    · exact loO_ok vs (i + 1) (fun x hx => ha x (List.mem_cons_of_mem _ hx)) os h
theorem allIn_mem {xs : List Int} (h : AllIn xs 0 1000) : ∀ v ∈ xs, 0 ≤ v ∧ v ≤ 1000 := by
  intro v hv
  obtain ⟨k, hk, rfl⟩ := List.mem_iff_getElem.1 hv
  have := inn_e (h k hk)
  simpa [List.getD, hk] using this
/-- what the loots with the greatest sum come to -/
def bestE (xs : List Int) (ring : Bool) : Option Le := agg ((loU xs.length (ring && decide (3 ≤ xs.length))).map (loV xs 0))
theorem loU_ne (n : Nat) (z : Bool) : loU n z ≠ [] := by cases n <;> simp [loU]
theorem bestE_some (xs : List Int) (ring : Bool) : (bestE xs ring).isSome = true := by
  unfold bestE
  cases e : agg ((loU xs.length (ring && decide (3 ≤ xs.length))).map (loV xs 0))
  · exact absurd (List.map_eq_nil_iff.1 (agg_none.1 e)) (loU_ne _ _)
  · rfl
theorem leastE_lo (xs : List Int) (ring : Bool) (h : xs ≠ []) : leastE loF (loO xs 0) ring = bestE xs ring := by
  unfold leastE bestE
  rw [← lo_all xs (ring && decide (3 ≤ xs.length)) h (fun q => by simp at q; omega), loO_len]
  rfl
theorem Try.eNB : ∀ args w, (callFunc 52 args).run Try.prog w = .ok (.enter 52 args) w := enters_of Try.func52 (by kernel_rfl) rfl
theorem Try.notBoth (X : World) (x y : Int) : Calls Try.prog 52 (#[.int .i64 x, .int .i64 y] ++ #[]) X fun e w' => e = .returned (.bool (loF x y)) ∧ Gr X w' := by
  show Calls Try.prog 52 #[.int .i64 x, .int .i64 y] X _
  unfold loF
  by_cases hx : x = 0
  · subst hx
    go_enter Try.func52, Try.ntmps52
    go_wp2
    go_ret
    exact ⟨rfl, Gr.refl _⟩
  · have e : (x == 0) = false := by simpa using hx
    by_cases hy : y = 0
    · subst hy
      rw [e]
      go_enter Try.func52, Try.ntmps52
      go_wp2
      go_ret
      exact ⟨rfl, Gr.refl _⟩
    · have e2 : (y == 0) = false := by simpa using hy
      rw [e, e2]
      go_enter Try.func52, Try.ntmps52
      go_wp2
      go_ret
      exact ⟨rfl, Gr.refl _⟩
set_option maxRecDepth 100000 in
set_option maxHeartbeats 4000000 in
theorem Try.bestLoots (w : World) (B : Nat) (v : Value) (xs : List Int) (ring b : Bool) (hb : b = true ↔ UpP xs 20 1000) (hl : xs.length ≤ 1048576) (h : OwnI w B v xs) :
    Calls Try.prog 43 #[v, .bool ring] w fun e w' => ∃ u, e = .returned (.tuple #[u, .bool b]) ∧ LeV w' w.heap.size u (if b = true then bestE xs ring else none) ∧ Below w.heap.size w w' := by
  have mixed : Try.prog.follows .mixedOrders = true := by kernel_rfl
  have HV := Lib.hid (fun (X : World) (g : Gr w X) => Try.areValues X B v xs b hb hl (h.gr g))
  obtain ⟨W, hW⟩ : ∃ W, w.alloc (.cells #[.int .i64 0, .int .i64 0, .slice none 0 0] 46) = W := ⟨_, rfl⟩
  have gW : Gr w W := by rw [← hW]; exact Gr.alloc (Gr.refl _) _
  have hbw : W.heap[w.heap.size]? = some (Obj.cells #[.int .i64 0, .int .i64 0, .slice none 0 0] 46 (0, 0)) := by rw [← hW]; exact heap_alloc_new w _
  have szW : W.heap.size = w.heap.size + 1 := by rw [← hW]; simp
  have HG := Lib.hid gW
  have HBW := Lib.hid hbw
  have HSW := Lib.hid szW
  cases b with
  | false =>
    obtain ⟨A, c, rfl, _⟩ := h.eta
    clear h hb hl szW hbw
    go_enter Try.func43, Try.ntmps43
    go_wp2_with (go_at_call 51; refine (HV.out _ HG.out).mono ?_; rintro e w1 ⟨rfl, g1⟩; have hb1 := (Gr.kp g1).blk _ _ _ _ HBW.out; have c0 : w1.cell? ⟨w.heap.size, 0, none⟩ = some (.int .i64 0) := (by rw [blk_cell hb1]; rfl); have c1 : w1.cell? ⟨w.heap.size, 1, none⟩ = some (.int .i64 0) := (by rw [blk_cell hb1]; rfl); have c2 : w1.cell? ⟨w.heap.size, 2, none⟩ = some (.slice none 0 0) := (by rw [blk_cell hb1]; rfl); have f0 := blk_frz hb1 0; have f1 := blk_frz hb1 1; have f2 := blk_frz hb1 2)
    obtain ⟨u0, u1, u2⟩ := three_set c0 c1 c2 (.int .i64 0) (.int .i64 0) (.slice none 0 0)
    refine bodyPost_ret (v := .tuple #[.agg #[.int .i64 0, .int .i64 0, .slice none 0 0], .bool false]) ?_ rfl ⟨_, rfl, rfl, ?_⟩
    · simp [results, Try.results43, go_sem, u0, u1, u2]
    · exact below_box3 ((HG.out.trans g1).below) (Nat.le_refl _) _ _ _
  | true =>
    have hU := hb.1 rfl
    have h20 : xs.length ≤ 20 := by have := hU.1; omega
    have h1 : 1 ≤ xs.length := hU.1.1
    have HOK := Lib.hid (loO_ok xs 0 (allIn_mem hU.2))
    have hall := allIn_mem hU.2
    have HALL := Lib.hid hall
    obtain ⟨g, cp, rfl, hg1, hg2, _⟩ := OwnI.rowB h (by omega)
    have HROW := Lib.hid (fun k (hk : k < xs.length) => (h.gr gW).at rfl k hk)
    have HN := Lib.hid (And.intro h20 h1)
    have hne : xs ≠ [] := fun e => by rw [e] at h1; simp at h1
    have HLE := Lib.hid (leastE_lo xs ring hne)
    have HSOME := Lib.hid (bestE_some xs ring)
    have hzl : (xs.length : Int) ≤ 20 := by omega
    clear h hb hl hU hne hall hbw szW
    go_enter Try.func43, Try.ntmps43
    go_wp2_with (go_at_call 51; refine (HV.out _ HG.out).mono ?_; rintro e w1 ⟨rfl, g1⟩)
    have HG1 := Lib.hid g1
    have HGW1 := Lib.hid (HG.out.trans g1)
    clear g1 gW
    go_loopw [6, 15] (fun ov iv wr => ∃ k : Nat, iv = .int .i64 k ∧ k ≤ xs.length ∧ OwnRR wr w1.heap.size ov (loO (xs.take k) 0) ∧ Below w1.heap.size w1 wr) (fun _ i _ => xs.length - (intOf i).toNat)
    case atStart => exact ⟨0, rfl, Nat.zero_le _, by simpa [loO] using OwnRR.nil _ _, Below.refl _ _⟩
    case round =>
      obtain ⟨k, rfl, hk, ho, hbl⟩ := hrel
      have hkp := below_kp hbl
      have HO := Lib.hid ho
      have HKP := Lib.hid hkp
      have HBL := Lib.hid hbl
      obtain ⟨A, c, rfl⟩ := ho.form
      clear ho hkp hbl
      by_cases hlt : k < xs.length
      · have c0 := HKP.out.cell (HG1.out.keep0 (HROW.out k hlt).1)
        have z0 : (0 : Int) ≤ (k : Int) := by omega
        have z1 : (k : Int) < (xs.length : Int) := by omega
        have hgd : xs.getD k 0 = xs[k] := by simp [List.getD, hlt]
        have hbd := HALL.out xs[k] (by simp)
        have HSN := Lib.hid (show loO (xs.take (k + 1)) 0 = loO (xs.take k) 0 ++ [[⟨0, 0, []⟩, ⟨1, -(xs.getD k 0), [(k : Int)]⟩]] by
          rw [List.take_succ_eq_append_getElem hlt, loO_snoc, hgd]
          simp [List.length_take, Nat.min_eq_left (Nat.le_of_lt hlt)])
        rw [← hgd] at hbd
        generalize xs.getD k 0 = x at *
        have x0 := hbd.1
        have x1 := hbd.2
        have hszl : (loO (xs.take k) 0).length ≤ 1000000 := by rw [loO_len, List.length_take]; have := HN.out.1; omega
        have HSZ := Lib.hid hszl
        have hBw := HBL.out.size
        clear hbd hgd hszl
        obtain ⟨W2, hW2⟩ : ∃ W2, (wr.alloc (.cells #[.int .i64 (k : Int)] 3)).alloc (.cells #[.int .i64 0, .int .i64 0, .slice none 0 0, .int .i64 1, .int .i64 (-x), .slice (some ⟨wr.heap.size, 0, none⟩) 1 1] 63) = W2 := ⟨_, rfl⟩
        have g2 : Gr wr W2 := by rw [← hW2]; exact Gr.alloc (Gr.alloc (Gr.refl _) _) _
        have hOpt : OptH W2 w1.heap.size (.slice (some ⟨wr.heap.size + 1, 0, none⟩) 2 2) [⟨0, 0, []⟩, ⟨1, -x, [(k : Int)]⟩] := by
          refine ⟨wr.heap.size + 1, 2, _, rfl, by rw [← hW2]; exact heap_new' (by simp), fun i o hi => ?_⟩
          have : i = 0 ∨ i = 1 := by
            have := (List.getElem?_eq_some_iff.1 hi).1
            simp at this; omega
          rcases this with rfl | rfl
          · simp at hi; subst hi
            exact ⟨_, rfl, rfl, rfl, OwnI.nil2 _ _⟩
          · simp at hi; subst hi
            refine ⟨_, rfl, rfl, rfl, ?_⟩
            have hrow : (wr.alloc (.cells #[.int .i64 (k : Int)] 3)).heap[wr.heap.size]? = some (Obj.cells #[.int .i64 (k : Int)] 3 (0, 0)) := heap_alloc_new wr _
            have : OwnI (wr.alloc (.cells #[.int .i64 (k : Int)] 3)) w1.heap.size (.slice (some ⟨wr.heap.size, 0, none⟩) 1 1) [(k : Int)] := ⟨by simp, .inr ⟨wr.heap.size, 1, _, rfl, hBw, hrow, Nat.le_refl _, by decide, rfl, rfl⟩⟩
            rw [← hW2]
            exact this.gr (Gr.alloc (Gr.refl _) _)
        have HOPT := Lib.hid hOpt
        have HG2 := Lib.hid g2
        have HB2 := Lib.hid (show w1.heap.size ≤ W2.heap.size from Nat.le_trans hBw g2.below.size)
        have hsz2 : W2.heap.size = wr.heap.size + 1 + 1 := by rw [← hW2]; simp
        have HSZ2 := Lib.hid hsz2
        generalize loO (xs.take k) 0 = oss at *
        obtain ⟨m, hm⟩ : ∃ m, oss.length = m := ⟨_, rfl⟩
        rw [hm] at HO
        simp only [hm]
        have HM := Lib.hid hm
        clear hOpt g2 hsz2 hm
        go_wp2_with (at_builtin; go_loud (refine wpList_app1RR rfl _ _ 60 rfl Try.underlying60 Try.infoRR w1.heap.size _ _ rfl (HO.out.kp (Gr.kp HG2.out)) (.slice (some ⟨wr.heap.size + 1, 0, none⟩) 2 2) [⟨0, 0, []⟩, ⟨1, -x, [(k : Int)]⟩] HOPT.out (by rw [HSZ2.out]; rfl) HSZ.out HB2.out ?_); intro v7 w7 ho7 hb7)
        have HB7 := Lib.hid (HBL.out.trans ((HG2.out.below.mono HBL.out.size).trans hb7))
        have HO7 := Lib.hid ho7
        clear ho7 hb7
        go_roundw
        case rel => exact ⟨k + 1, by go_num, by omega, by rw [HSN.out]; exact HO7.out, HB7.out⟩
        case measure => simp [intOf]; omega
      · obtain rfl : k = xs.length := by omega
        have z1 : ¬ (xs.length : Int) < (xs.length : Int) := by omega
        have hfull := HO.out
        rw [List.take_of_length_le (Nat.le_refl _)] at hfull
        have hlo : (loO (xs.take xs.length) 0).length = xs.length := by rw [List.take_of_length_le (Nat.le_refl _), loO_len]
        rw [loO_len] at hfull
        have HLO := Lib.hid (Try.leastOf wr w1.heap.size (.slice A xs.length c) (loO xs 0) 52 loF ring (by rw [loO_len]; exact HN.out.2) (by rw [loO_len]; exact HN.out.1) HOK.out (hfull.rows (by rw [loO_len]; exact HN.out.2)) Try.eNB (fun X x y => Try.notBoth X x y))
        rw [HLE.out, HSOME.out] at HLO
        simp only [hlo]
        have HBB := Lib.hid (HGW1.out.below.trans (HBL.out.mono HGW1.out.below.size))
        have hbx := (HKP.out.trans (Kp.refl _)).blk _ _ _ _ ((Gr.kp HG1.out).blk _ _ _ _ HBW.out)
        have HBX := Lib.hid hbx
        clear hfull hlo hbx
        go_wp2_with (go_at_call 48; refine HLO.out.mono ?_; rintro e w8 ⟨v8, rfl, hL8, hb8⟩; obtain ⟨c8, n8, A8, m8, k8, rfl⟩ := hL8.form; have hq8 := (below_kp hb8).blk _ _ _ _ HBX.out; have HQ8 := Lib.hid hq8; have c0 : w8.cell? ⟨w.heap.size, 0, none⟩ = some (.int .i64 0) := (by rw [blk_cell hq8]; rfl); have c1 : w8.cell? ⟨w.heap.size, 1, none⟩ = some (.int .i64 0) := (by rw [blk_cell hq8]; rfl); have c2 : w8.cell? ⟨w.heap.size, 2, none⟩ = some (.slice none 0 0) := (by rw [blk_cell hq8]; rfl); have f0 := blk_frz hq8 0; have f1 := blk_frz hq8 1; have f2 := blk_frz hq8 2; have HL8 := Lib.hid hL8; have HB8 := Lib.hid hb8; clear hq8)
        obtain ⟨u0, u1, u2⟩ := three_set c0 c1 c2 (.int .i64 c8) (.int .i64 n8) (.slice A8 m8 k8)
        have hT : (46 : TypeId) ≠ 3 := by decide
        refine bodyPost_ret (v := .tuple #[.agg #[.int .i64 c8, .int .i64 n8, .slice A8 m8 k8], .bool true]) ?_ rfl ⟨_, rfl, ?_, ?_⟩
        · simp [results, Try.results43, go_sem, u0, u1, u2]
        · exact (HL8.out.kq (kq_box3 _ _ _) HQ8.out hT).mono HBB.out.size
        · exact below_box3 (HBB.out.trans (HB8.out.mono HBB.out.size)) (Nat.le_refl _) _ _ _
end Go.Proofs
