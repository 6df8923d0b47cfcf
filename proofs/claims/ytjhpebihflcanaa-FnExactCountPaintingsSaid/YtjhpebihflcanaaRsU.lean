/-
  Chapter 7: the lists of colours with the least cost (leastPaints).
-/
import Derived.Test.YtjhpebihflcanaaRsL
import Derived.Test.YtjhpebihflcanaaRlC
import Derived.Test.YtjhpebihflcanaaRwC
import Derived.Test.YtjhpebihflcanaaEls
namespace Go.Proofs
open Go.RowKit Go.Maps Rl
set_option linter.unusedVariables false
set_option linter.unusedSimpArgs false
/-! ### a row of options that grows -/
def oenc (p : Rl.Op × Nat) : List Value := [.int .i64 p.1.st, .int .i64 p.1.cost, .slice (some ⟨p.2, 0, none⟩) 1 1]
theorem oenc_len : ∀ p, (oenc p).length = 3 := fun _ => rfl
theorem oenc_one : ∀ p, ∀ u ∈ oenc p, u.oneCell' = true := by
  intro p u hu
  simp [oenc] at hu
  rcases hu with rfl | rfl | rfl <;> rfl
theorem Try.infoOp : (Try.prog.info? 63).map (fun i => (i.zero, i.size, i.bytes)) = some (some (.agg #[.int .i64 0, .int .i64 0, .slice none 0 0]), 3, 40) := by kernel_rfl
/-- options of one's own, each with a list of its own -/
def OwnO (w : World) (B : Nat) (v : Value) (ps : List (Rl.Op × Nat)) : Prop := OwnE 63 3 oenc w B v ps ∧ ∀ p ∈ ps, OwnI w B (.slice (some ⟨p.2, 0, none⟩) 1 1) p.1.tells
theorem OptH.mono {w : World} {B C : Nat} {u : Value} {os : List Rl.Op} (h : OptH w B u os) (hC : C ≤ B) : OptH w C u os := by
  obtain ⟨g, c, cur, e, hg, h⟩ := h
  exact ⟨g, c, cur, e, hg, fun i o hi => by obtain ⟨t, a1, a2, a3, a4⟩ := h i o hi; exact ⟨t, a1, a2, a3, a4.mono hC⟩⟩
theorem OwnO.nil (w : World) (B : Nat) : OwnO w B (.slice none 0 0) [] := ⟨OwnE.nil _ _ _ _ _, fun p h => by simp at h⟩
theorem OwnO.form {w : World} {B : Nat} {v : Value} {ps : List (Rl.Op × Nat)} (h : OwnO w B v ps) : ∃ A c, v = .slice A ps.length c := h.1.slice
theorem OwnO.kp {w w' : World} {B : Nat} {v : Value} {ps : List (Rl.Op × Nat)} (h : OwnO w B v ps) (k : Kp w w') : OwnO w' B v ps := by
  refine ⟨⟨h.1.1, ?_⟩, fun p hp => k.own (h.2 p hp)⟩
  rcases h.1.2 with hn | ⟨g, cap, cur, rfl, hb', hg, r⟩
  · exact .inl hn
  · exact .inr ⟨g, cap, cur, rfl, hb', k.blk _ _ _ _ hg, r⟩
theorem OwnO.optH {w : World} {B : Nat} {v : Value} {ps : List (Rl.Op × Nat)} (h : OwnO w B v ps) (h0 : 0 < ps.length) : OptH w B v (ps.map Prod.fst) := by
  have h1 := h.1
  rcases h.1.2 with ⟨_, hn⟩ | ⟨g, cap, cur, rfl, hb', hg, hc, hm, hs, hh⟩
  · omega
  · refine ⟨g, cap, cur, by simp, hg, fun i o hi => ?_⟩
    rw [List.getElem?_map] at hi
    obtain ⟨p, hp, rfl⟩ := Option.map_eq_some_iff.1 hi
    have hil : i < ps.length := (List.getElem?_eq_some_iff.1 hp).1
    have hpd : ps.getD i (⟨0, 0, []⟩, 0) = p := by simp [List.getD, hp]
    have cell : ∀ j, j < 3 → cur[i * 3 + j]? = (oenc p)[j]? := fun j hj => by
      have := (OwnE.cell oenc_len (⟨0, 0, []⟩, 0) h1 rfl i j hil hj).1
      rw [blk_cell hg, hpd] at this
      rw [this]
    exact ⟨_, cell 0 (by omega), cell 1 (by omega), cell 2 (by omega), h.2 p (List.mem_of_getElem? hp)⟩
/-- one option more -/
theorem wpList_app1O {P : Program} {ops : Array Oper} {rest : List Oper} {o : Oper} {a : Act} {Q : Exit → Act → World → Prop} {W : World} (hgd : o.guard = none) (s x : Operand) (t : TypeId)
    (ho : o.op = .call { callee := .builtin .append, args := #[s, x], argTypes := #[t, t] }) (ht : P.underlying t = some (.slice 63))
    (hinfo : (P.info? 63).map (fun i => (i.zero, i.size, i.bytes)) = some (some (.agg #[.int .i64 0, .int .i64 0, .slice none 0 0]), 3, 40)) (B : Nat) (v : Value) (ps : List (Rl.Op × Nat)) (hs : a.eval s = v) (h : OwnO W B v ps)
    (b : Nat) (p : Rl.Op × Nat) (hx : a.eval x = .slice (some ⟨b, 0, none⟩) 1 1) (hq : ∀ j u, (oenc p)[j]? = some u → W.cell? (Addr.add ⟨b, 0, none⟩ j) = some u) (hp : OwnI W B (.slice (some ⟨p.2, 0, none⟩) 1 1) p.1.tells) (hl : ps.length ≤ 1000000) (hB : B ≤ W.heap.size)
    (k : ∀ v' w', OwnO w' B v' (ps ++ [p]) → Below B W w' → wpList P ops Q rest (a.put o.dst v') w') : wpList P ops Q (o :: rest) a W := by
  refine wpList_appE oenc_len oenc_one hgd s x t ho 63 ht hinfo rfl (by decide) (by decide) B v ps hs h.1 ⟨b, 0, none⟩ 1 1 [p] hx rfl (fun j u hu => hq j u (by simpa [ecs] using hu)) (by omega) (by simp) hB fun v' w' ho' hb' hg' _ => ?_
  have keep : ∀ (u : Value) (xs : List Int), OwnI W B u xs → OwnI w' B u xs := fun u xs hu => hu.grown hg' (by
    rcases hu.2 with ⟨rfl, _⟩ | ⟨g2, cap2, cur2, rfl, _, hg2, _⟩
    · exact .inl rfl
    · refine .inr ?_
      rcases h.1.2 with ⟨rfl, _⟩ | ⟨g, cap, cur, rfl, _, hg, _⟩
      · simp [Value.ownBlock]
      · intro e
        have e' : g2 = g := by simpa [Value.ownBlock] using e
        subst e'
        rw [hg] at hg2
        simp only [Option.some.injEq, Obj.cells.injEq] at hg2
        exact absurd hg2.2.1 (by decide))
  exact k v' w' ⟨ho', fun q hq' => by
    rcases List.mem_append.1 hq' with hq' | hq'
    · exact keep _ _ (h.2 q hq')
    · simp only [List.mem_singleton] at hq'; subst hq'; exact keep _ _ hp⟩ hb'
/-! ### the options of colours -/
theorem paRow_snoc : ∀ (r : List Int) (c : Int) (i : Int), paRow (r ++ [c]) i = paRow r i ++ [⟨i + r.length, c, [i + r.length]⟩]
  | [], c, i => by simp [paRow]
  | x :: r, c, i => by
    simp only [List.cons_append, paRow]
    rw [paRow_snoc r c (i + 1), show i + 1 + (r.length : Int) = i + ((r.length + 1 : Nat) : Int) by push_cast; omega]
    rfl
theorem paRow_len : ∀ (r : List Int) (i : Int), (paRow r i).length = r.length
  | [], _ => rfl
  | x :: r, i => by simp only [paRow, List.length_cons]; rw [paRow_len r (i + 1)]
theorem paO_snoc (zss : List (List Int)) (r : List Int) : paO (zss ++ [r]) = paO zss ++ [paRow r 0] := by simp [paO]
theorem paO_len (zss : List (List Int)) : (paO zss).length = zss.length := by simp [paO]
theorem allIn_memU {xs : List Int} (h : AllIn xs 0 1000) : ∀ v ∈ xs, 0 ≤ v ∧ v ≤ 1000 := by
  intro v hv
  obtain ⟨k, hk, rfl⟩ := List.mem_iff_getElem.1 hv
  have := inn_e (h k hk)
  simpa [List.getD, hk] using this
theorem paO_ok {zss : List (List Int)} (h : CostsP zss) : ∀ os ∈ paO zss, OsB os := by
  intro os ho
  unfold paO at ho
  obtain ⟨r, hr, rfl⟩ := List.mem_map.1 ho
  obtain ⟨k, hk, rfl⟩ := List.mem_iff_getElem.1 hr
  have e : rowOf zss k = zss[k] := by simp [rowOf, List.getD, hk]
  have hc := h.2.2 k hk
  rw [costR, e] at hc
  have h5 : zss[k].length ≤ 5 := by rw [hc.1]; exact h.2.1.2
  have hm := allIn_memU hc.2
  refine ⟨by rw [paRow_len]; omega, paRow_dif _ _, fun o ho => ?_⟩
  obtain ⟨q1, q2, q3, q4⟩ := paRow_mem _ _ o ho
  have hv : 0 ≤ zss[k].getD (o.st - 0).toNat 0 ∧ zss[k].getD (o.st - 0).toNat 0 ≤ 1000 := by
    have hj : (o.st - 0).toNat < zss[k].length := by omega
    have := hm zss[k][(o.st - 0).toNat] (List.getElem_mem _)
    simp only [List.getD, List.getElem?_eq_getElem hj, Option.getD_some]
    exact this
  exact ⟨⟨q1, by omega⟩, by rw [q4]; omega, by rw [q4]; omega, by rw [q3]; simp⟩
theorem Try.eOC : ∀ args w, (callFunc 49 args).run Try.prog w = .ok (.enter 49 args) w := enters_of Try.func49 (by kernel_rfl) rfl
theorem Try.otherColours (X : World) (x y : Int) : Calls Try.prog 49 (#[.int .i64 x, .int .i64 y] ++ #[]) X fun e w' => e = .returned (.bool (paF x y)) ∧ Gr X w' := by
  show Calls Try.prog 49 #[.int .i64 x, .int .i64 y] X _
  unfold paF
  go_enter Try.func49, Try.ntmps49
  go_wp2
  go_ret
  exact ⟨rfl, Gr.refl _⟩
/-- what the paintings with the least cost come to -/
def paintE (zss : List (List Int)) (ring : Bool) : Option Le := leastE paF (paO zss) ring
set_option maxRecDepth 100000 in
set_option maxHeartbeats 4000000 in
theorem Try.leastPaints (w : World) (B : Nat) (v : Value) (zss : List (List Int)) (ring b : Bool) (hb : b = true ↔ CostsP zss) (hl : SmallZ zss) (h : OwnZ w B v zss) :
    Calls Try.prog 35 #[v, .bool ring] w fun e w' => ∃ u, e = .returned (.tuple #[u, .bool (b && (paintE zss ring).isSome)]) ∧ LeV w' w.heap.size u (if b = true then paintE zss ring else none) ∧ Below w.heap.size w w' := by
  have mixed : Try.prog.follows .mixedOrders = true := by kernel_rfl
  have HV := Lib.hid (fun (X : World) (g : Gr w X) => Try.iAreCosts X B v zss b hb hl (h.gr g))
  obtain ⟨W, hW⟩ : ∃ W, w.alloc (.cells #[.int .i64 0, .int .i64 0, .slice none 0 0] 46) = W := ⟨_, rfl⟩
  have gW : Gr w W := by rw [← hW]; exact Gr.alloc (Gr.refl _) _
  have hbw : W.heap[w.heap.size]? = some (Obj.cells #[.int .i64 0, .int .i64 0, .slice none 0 0] 46 (0, 0)) := by rw [← hW]; exact heap_alloc_new w _
  have HG := Lib.hid gW
  have HBW := Lib.hid hbw
  cases b with
  | false =>
    obtain ⟨A, c, rfl⟩ := OwnLL.slice h |>.imp fun A q => q.imp fun c e => e.1
    clear h hb hl hbw
    go_enter Try.func35, Try.ntmps35
    go_wp2_with (go_at_call 47; refine (HV.out _ HG.out).mono ?_; rintro e w1 ⟨rfl, g1⟩; have hb1 := (Gr.kp g1).blk _ _ _ _ HBW.out; have c0 : w1.cell? ⟨w.heap.size, 0, none⟩ = some (.int .i64 0) := (by rw [blk_cell hb1]; rfl); have c1 : w1.cell? ⟨w.heap.size, 1, none⟩ = some (.int .i64 0) := (by rw [blk_cell hb1]; rfl); have c2 : w1.cell? ⟨w.heap.size, 2, none⟩ = some (.slice none 0 0) := (by rw [blk_cell hb1]; rfl); have f0 := blk_frz hb1 0; have f1 := blk_frz hb1 1; have f2 := blk_frz hb1 2)
    obtain ⟨u0, u1, u2⟩ := three_set c0 c1 c2 (.int .i64 0) (.int .i64 0) (.slice none 0 0)
    refine bodyPost_ret (v := .tuple #[.agg #[.int .i64 0, .int .i64 0, .slice none 0 0], .bool false]) ?_ rfl ⟨_, rfl, rfl, ?_⟩
    · simp [results, Try.results35, go_sem, u0, u1, u2]
    · exact below_box3 ((HG.out.trans g1).below) (Nat.le_refl _) _ _ _
  | true =>
    have hU := hb.1 rfl
    have hOK := paO_ok hU
    have HOK := Lib.hid hOK
    have HU := Lib.hid hU
    have h1 : 1 ≤ zss.length := hU.1.1
    have h20 : zss.length ≤ 20 := hU.1.2
    obtain ⟨g, cp, rfl, hrows⟩ := OwnLL.form h (by omega)
    have HROW := Lib.hid (fun k (hk : k < zss.length) => by
      obtain ⟨u, hu1, hu2⟩ := hrows k hk
      exact (⟨u, gW.keep0 hu1, hu2.gr gW⟩ : ∃ u, W.cell? ⟨g, k, none⟩ = some u ∧ OwnI W B u (rowOf zss k)))
    have HN := Lib.hid (And.intro h20 h1)
    have hzl : (zss.length : Int) ≤ 20 := by omega
    clear h hb hl hU hbw hrows hOK
    go_enter Try.func35, Try.ntmps35
    go_wp2_with (go_at_call 47; refine (HV.out _ HG.out).mono ?_; rintro e w1 ⟨rfl, g1⟩)
    have HG1 := Lib.hid g1
    have HGW1 := Lib.hid (HG.out.trans g1)
    clear g1 gW
    go_loopw [6, 18] (fun ov iv wr => ∃ k : Nat, iv = .int .i64 k ∧ k ≤ zss.length ∧ OwnRR wr w1.heap.size ov (paO (zss.take k)) ∧ Below w1.heap.size w1 wr) (fun _ i _ => zss.length - (intOf i).toNat)
    case atStart => exact ⟨0, rfl, Nat.zero_le _, by simpa [paO] using OwnRR.nil _ _, Below.refl _ _⟩
    case round =>
      obtain ⟨k, rfl, hk, ho, hbl⟩ := hrel
      have hkp := below_kp hbl
      have HO := Lib.hid ho
      have HKP := Lib.hid hkp
      have HBL := Lib.hid hbl
      obtain ⟨A, c, rfl⟩ := ho.form
      clear ho hkp hbl
      by_cases hlt : k < zss.length
      · obtain ⟨u, hu1, hu2⟩ := HROW.out k hlt
        have c0 := HKP.out.cell (HG1.out.keep0 hu1)
        have hu3 := HKP.out.own (hu2.gr HG1.out)
        have hcr := HU.out.2.2 k hlt
        have hr0 := HU.out.2.1
        have hKl : 1 ≤ (rowOf zss k).length ∧ (rowOf zss k).length ≤ 5 := by rw [hcr.1]; exact hr0
        have hgd : zss[k] = rowOf zss k := by simp [rowOf, List.getD, hlt]
        have HSN := Lib.hid (show paO (zss.take (k + 1)) = paO (zss.take k) ++ [paRow (rowOf zss k) 0] by rw [List.take_succ_eq_append_getElem hlt, paO_snoc, hgd])
        generalize rowOf zss k = r at *
        obtain ⟨A2, c2, rfl⟩ := hu3.form
        have HR := Lib.hid hu3
        obtain ⟨K, hK⟩ : ∃ K, r.length = K := ⟨_, rfl⟩
        have HKK := Lib.hid hK
        rw [hK] at hKl c0 HR
        have z0 : (0 : Int) ≤ (k : Int) := by omega
        have z1 : (k : Int) < (zss.length : Int) := by omega
        have zK : (K : Int) ≤ 5 := by omega
        have HKL := Lib.hid hKl
        obtain ⟨m, hm⟩ : ∃ m, (paO (zss.take k)).length = m := ⟨_, rfl⟩
        have HM := Lib.hid (show m ≤ 1000000 by rw [← hm, paO_len, List.length_take]; have := HN.out.1; omega)
        have HMM := Lib.hid hm
        simp only [hm]
        rw [hm] at HO
        clear hu1 hu2 hu3 hcr hr0 hgd hK hm hKl
        go_wp2_with fail
        rename World => wo
        go_loopw [9, 24] (fun cv tv wi => ∃ (j : Nat) (ps : List (Rl.Op × Nat)), tv = .int .i64 j ∧ j ≤ K ∧ OwnO wi wo.heap.size cv ps ∧ ps.map Prod.fst = paRow (r.take j) 0 ∧ Below wo.heap.size wo wi) (fun _ t _ => K - (intOf t).toNat)
        case atStart => exact ⟨0, [], rfl, Nat.zero_le _, OwnO.nil _ _, rfl, Below.refl _ _⟩
        case round =>
          obtain ⟨j, ps, rfl, hj, hps, hpe, hbi⟩ := hrel
          have HPS := Lib.hid hps
          have HPE := Lib.hid hpe
          have HBI := Lib.hid hbi
          have hlen : ps.length = j := by
            have := congrArg List.length hpe
            rw [List.length_map, paRow_len, List.length_take] at this
            have := HKK.out
            omega
          obtain ⟨A3, c3, rfl⟩ := hps.form
          simp only [hlen]
          rw [hlen] at HPS
          have HLN := Lib.hid hlen
          clear hps hpe hbi hlen
          by_cases hjl : j < K
          · obtain ⟨g2, rfl⟩ := OwnI.addr HR.out (by have := HKK.out; omega)
            have cj := (below_kp HBI.out).cell (HR.out.at HKK.out j hjl).1
            have hjr : j < r.length := by have := HKK.out; omega
            have hgd : r.getD j 0 = r[j] := by simp [List.getD, hjr]
            have HPN := Lib.hid (show paRow (r.take (j + 1)) 0 = paRow (r.take j) 0 ++ [⟨(j : Int), r.getD j 0, [(j : Int)]⟩] by
              rw [List.take_succ_eq_append_getElem hjr, paRow_snoc, hgd]
              simp [List.length_take, Nat.min_eq_left (Nat.le_of_lt hjr)])
            generalize r.getD j 0 = x at *
            have z2 : (0 : Int) ≤ (j : Int) := by omega
            have z3 : (j : Int) < (K : Int) := by omega
            obtain ⟨W2, hW2⟩ : ∃ W2, (wr.alloc (.cells #[.int .i64 (j : Int)] 3)).alloc (.cells #[.int .i64 (j : Int), .int .i64 x, .slice (some ⟨wr.heap.size, 0, none⟩) 1 1] 63) = W2 := ⟨_, rfl⟩
            have g3 : Gr wr W2 := by rw [← hW2]; exact Gr.alloc (Gr.alloc (Gr.refl _) _) _
            have hrow : (wr.alloc (.cells #[.int .i64 (j : Int)] 3)).heap[wr.heap.size]? = some (Obj.cells #[.int .i64 (j : Int)] 3 (0, 0)) := heap_alloc_new wr _
            have hoi : OwnI W2 wo.heap.size (.slice (some ⟨wr.heap.size, 0, none⟩) 1 1) [(j : Int)] := by
              have : OwnI (wr.alloc (.cells #[.int .i64 (j : Int)] 3)) wo.heap.size (.slice (some ⟨wr.heap.size, 0, none⟩) 1 1) [(j : Int)] := ⟨by simp, .inr ⟨wr.heap.size, 1, _, rfl, HBI.out.size, hrow, Nat.le_refl _, by decide, rfl, rfl⟩⟩
              rw [← hW2]
              exact this.gr (Gr.alloc (Gr.refl _) _)
            have hblk : W2.heap[wr.heap.size + 1]? = some (Obj.cells #[.int .i64 (j : Int), .int .i64 x, .slice (some ⟨wr.heap.size, 0, none⟩) 1 1] 63 (0, 0)) := by rw [← hW2]; exact heap_new' (by simp)
            have HQ := Lib.hid (show ∀ i u, (oenc (⟨(j : Int), x, [(j : Int)]⟩, wr.heap.size))[i]? = some u → W2.cell? (Addr.add ⟨wr.heap.size + 1, 0, none⟩ i) = some u from fun i u hu => by
              rw [show Addr.add ⟨wr.heap.size + 1, 0, none⟩ i = ⟨wr.heap.size + 1, i, none⟩ by cases i <;> simp [Addr.add], blk_cell hblk, ← hu]
              simp [oenc])
            have HOI := Lib.hid hoi
            have HG3 := Lib.hid g3
            have HS3 := Lib.hid (show wo.heap.size ≤ W2.heap.size from Nat.le_trans HBI.out.size g3.below.size)
            clear hgd g3 hrow hoi hblk
            go_wp2_with (at_builtin; go_loud (refine wpList_app1O rfl _ _ 61 rfl Try.underlying61 Try.infoOp wo.heap.size _ ps rfl (HPS.out.kp (Gr.kp HG3.out)) (wr.heap.size + 1) (⟨(j : Int), x, [(j : Int)]⟩, wr.heap.size) rfl HQ.out HOI.out (by have := HLN.out; have := HKL.out; omega) HS3.out ?_); intro v7 w7 ho7 hb7)
            have HB7 := Lib.hid (HBI.out.trans ((HG3.out.below.mono HBI.out.size).trans hb7))
            have HO7 := Lib.hid ho7
            clear ho7 hb7
            go_roundw
            case rel => exact ⟨j + 1, _, by go_num, by omega, HO7.out, by rw [List.map_append, HPE.out, HPN.out]; rfl, HB7.out⟩
            case measure => simp [intOf]; omega
          · obtain rfl : j = K := by omega
            have z3 : ¬ (j : Int) < (j : Int) := by omega
            have hrw : r.take j = r := List.take_of_length_le (by have := HKK.out; omega)
            have HPF := Lib.hid (show ps.map Prod.fst = paRow r 0 by rw [HPE.out, hrw])
            have HOPT := Lib.hid (show OptH wr w1.heap.size (.slice A3 j c3) (paRow r 0) by
              rw [← HPF.out]
              exact (HPS.out.optH (by have := HLN.out; have := HKL.out; omega)).mono HBL.out.size)
            have HOR := Lib.hid (HO.out.kp (below_kp HBI.out))
            have HBT := Lib.hid (HBL.out.trans (HBI.out.mono HBL.out.size))
            clear hrw
            go_wp2_with (at_builtin; go_loud (refine wpList_app1RR rfl _ _ 60 rfl Try.underlying60 Try.infoRR w1.heap.size _ _ rfl HOR.out (.slice A3 j c3) (paRow r 0) HOPT.out rfl (by rw [HMM.out]; exact HM.out) HBT.out.size ?_); intro v8 w8 ho8 hb8)
            have HB8 := Lib.hid (HBT.out.trans hb8)
            have HO8 := Lib.hid ho8
            clear ho8 hb8
            go_roundw
            case rel => exact ⟨k + 1, by go_num, by omega, by rw [HSN.out]; exact HO8.out, HB8.out⟩
            case measure => simp [intOf]; omega
      · obtain rfl : k = zss.length := by omega
        have z1 : ¬ (zss.length : Int) < (zss.length : Int) := by omega
        have hfull := HO.out
        rw [List.take_of_length_le (Nat.le_refl _)] at hfull
        have hlo : (paO (zss.take zss.length)).length = zss.length := by rw [List.take_of_length_le (Nat.le_refl _), paO_len]
        rw [paO_len] at hfull
        have HLO := Lib.hid (Try.leastOf wr w1.heap.size (.slice A zss.length c) (paO zss) 49 paF ring (by rw [paO_len]; exact HN.out.2) (by rw [paO_len]; exact HN.out.1) HOK.out (hfull.rows (by rw [paO_len]; exact HN.out.2)) Try.eOC (fun X x y => Try.otherColours X x y))
        have hfold : leastE paF (paO zss) ring = paintE zss ring := rfl
        rw [hfold] at HLO
        simp only [hlo, Bool.true_and, if_true]
        have HBB := Lib.hid (HGW1.out.below.trans (HBL.out.mono HGW1.out.below.size))
        have HBX := Lib.hid (HKP.out.blk _ _ _ _ ((Gr.kp HG1.out).blk _ _ _ _ HBW.out))
        obtain ⟨E, hE⟩ : ∃ E, paintE zss ring = E := ⟨_, rfl⟩
        rw [hE] at HLO
        have HE := Lib.hid hE
        clear hE
        clear hfull hlo hfold
        go_wp2_with (go_at_call 48; refine HLO.out.mono ?_; rintro e w8 ⟨v8, rfl, hL8, hb8⟩; obtain ⟨c8, n8, A8, m8, k8, rfl⟩ := hL8.form; have hq8 := (below_kp hb8).blk _ _ _ _ HBX.out; have HQ8 := Lib.hid hq8; have c0 : w8.cell? ⟨w.heap.size, 0, none⟩ = some (.int .i64 0) := (by rw [blk_cell hq8]; rfl); have c1 : w8.cell? ⟨w.heap.size, 1, none⟩ = some (.int .i64 0) := (by rw [blk_cell hq8]; rfl); have c2 : w8.cell? ⟨w.heap.size, 2, none⟩ = some (.slice none 0 0) := (by rw [blk_cell hq8]; rfl); have f0 := blk_frz hq8 0; have f1 := blk_frz hq8 1; have f2 := blk_frz hq8 2; have HL8 := Lib.hid hL8; have HB8 := Lib.hid hb8; clear hq8)
        obtain ⟨u0, u1, u2⟩ := three_set c0 c1 c2 (.int .i64 c8) (.int .i64 n8) (.slice A8 m8 k8)
        have hT : (46 : TypeId) ≠ 3 := by decide
        refine bodyPost_ret (v := .tuple #[.agg #[.int .i64 c8, .int .i64 n8, .slice A8 m8 k8], .bool E.isSome]) ?_ rfl ⟨_, by rw [HE.out], ?_, ?_⟩
        · simp [results, Try.results35, go_sem, u0, u1, u2]
        · rw [HE.out]
          exact (HL8.out.kq (kq_box3 _ _ _) HQ8.out hT).mono HBB.out.size
        · exact below_box3 (HBB.out.trans (HB8.out.mono HBB.out.size)) (Nat.le_refl _) _ _ _
end Go.Proofs
