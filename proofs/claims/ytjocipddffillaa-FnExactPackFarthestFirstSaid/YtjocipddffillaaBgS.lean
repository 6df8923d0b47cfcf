/-
  Chapter 8: parcels put in order, both sides (slices.IndexFunc over ints; impl.PackInOrder; spec.PackInOrder).
-/
import Derived.Test.YtjocipddffillaaBgR
import Derived.Deep.DeepCutAuto
namespace Go.Proofs
open Go.RowKit Bg
set_option linter.unusedVariables false
set_option linter.unusedSimpArgs false
set_option maxRecDepth 100000 in
set_option maxHeartbeats 800000 in
/-- slices.IndexFunc with a closure that answers p k at the number k: the first k where p is true, or -1. -/
theorem Try.idxFnI (g : Nat) (cb : Array Value) (xs : List Int) (p : Nat → Bool) (r : Int) (hr : (r = -1 ∧ ∀ k, k < xs.length → p k = false) ∨ ∃ k, k < xs.length ∧ r = k ∧ p k = true ∧ ∀ j, j < k → p j = false) (w : World) (B : Nat) (v : Value) (h : OwnI w B v xs) (hl : xs.length ≤ 1000000)
    (eg : ∀ args w, (callFunc g args).run Try.prog w = .ok (.enter g args) w)
    (hf : ∀ (W : World) (k : Nat), Gr w W → k < xs.length → Calls Try.prog g (#[.int .i64 (xs.getD k 0)] ++ cb) W fun e w' => e = .returned (.bool (p k)) ∧ Gr W w') :
    Calls Try.prog 70 #[v, .func (.func g) #[] cb] w fun e w' => e = .returned (.int .i64 r) ∧ Gr w w' := by
  obtain ⟨A, c, rfl, h⟩ := h.eta
  have HO := Lib.hid h
  have HF := Lib.hid hf
  have HR := Lib.hid hr
  clear h hf hr
  go_enter Try.func70, Try.ntmps70
  go_wp2
  go_loopw [5, 8] (fun _ i wr => IRelB p xs.length w i wr) (fun _ i _ => (xs.length - intOf i).toNat)
  case atStart => exact ⟨by repeat (first | exact Gr.refl _ | refine Gr.alloc ?_ _ | refine Gr.trans ?_ (by assumption) | refine Gr.drew ?_ | refine Gr.drewN ?_ _ | refine Gr.grow ?_ _ | refine Gr.setCell ?_ (by (try simp); (try omega)) _), 0, Nat.zero_le _, rfl, fun j hj => absurd hj (Nat.not_lt_zero _)⟩
  case round =>
    obtain ⟨gr, k, hk, rfl, hall⟩ := hrel
    by_cases hlt : k < xs.length
    · obtain ⟨gb, rfl⟩ := HO.out.addr (by omega)
      have e1 := gr.keep2 (HO.out.at rfl k hlt).1
      have z0 : (0 : Int) ≤ (k : Int) := by omega
      have z1 : (k : Int) < (xs.length : Int) := by omega
      have HK := Lib.hid (HF.out wr k gr hlt)
      have GR := Lib.hid gr
      have HA := Lib.hid hall
      clear gr hall
      generalize xs.getD k 0 = x at *
      cases hp : p k
      · have HS := Lib.hid (all_snoc HA.out (show (fun j => p j = false) k from hp))
        rw [hp] at HK
        clear hp
        go_wp2_with (go_at_fn g; refine HK.out.mono ?_; rintro e w2 ⟨rfl, g2⟩)
        go_roundw
        case rel => exact ⟨GR.out.trans g2, k + 1, by omega, by go_num, HS.out⟩
        case measure => simp [intOf]; omega
      · obtain rfl : r = k := by
          rcases HR.out with ⟨_, q⟩ | ⟨m, hm, q, q1, q2⟩
          · have := q k hlt; rw [hp] at this; cases this
          · rcases Nat.lt_trichotomy m k with c | c | c
            · have := HA.out m c; rw [q1] at this; cases this
            · rw [q, c]
            · have := q2 k c; rw [hp] at this; cases this
        rw [hp] at HK
        clear hp
        go_wp2_with (go_at_fn g; refine HK.out.mono ?_; rintro e w2 ⟨rfl, g2⟩)
        go_ret
        exact ⟨rfl, GR.out.trans g2⟩
    · obtain rfl : k = xs.length := by omega
      obtain rfl : r = -1 := by
        rcases HR.out with ⟨q, _⟩ | ⟨m, hm, q, q1, q2⟩
        · exact q
        · have := hall m hm; rw [q1] at this; cases this
      have GR := Lib.hid gr
      clear gr hall
      go_wp2
      go_ret
      exact ⟨rfl, GR.out⟩
set_option maxHeartbeats 400000 in
theorem Try.packIn1 (y x bag : Int) (bp bb : Nat) (w : World) (h1 : w.cell? ⟨bp, 1, none⟩ = some (.int .i64 x)) (h2 : w.cell? ⟨bb, 0, none⟩ = some (.int .i64 bag)) (hy : 0 ≤ y ∧ y ≤ 10000) (hx : 0 ≤ x ∧ x ≤ 10000) :
    Calls Try.prog 71 (#[.int .i64 y] ++ #[.pointer (some ⟨bp, 0, none⟩), .pointer (some ⟨bb, 0, none⟩)]) w fun e w' => e = .returned (.bool (decide (y + x ≤ bag))) ∧ Gr w w' := by
  have wyx : IntKind.i64.wrap (y + x) = y + x := IntWalk.i64_in _ (by omega)
  go_enter Try.func71, Try.ntmps71
  go_wp2
  go_ret
  exact ⟨rfl, by repeat (first | exact Gr.refl _ | refine Gr.alloc ?_ _ | refine Gr.trans ?_ (by assumption) | refine Gr.drew ?_ | refine Gr.drewN ?_ _ | refine Gr.grow ?_ _ | refine Gr.setCell ?_ (by (try simp); (try omega)) _)⟩
/-- what slices.IndexFunc hands back -/
def pkR (T L : Nat) : Int := if T = L then -1 else (T : Int)
theorem pkR_ok {f : Nat → Int} {bag : Int} {ws : List Int} {k T : Nat} (hT : pkT f bag ws k = T) : (pkR T ws.length = -1 ∧ ∀ j, j < ws.length → (fun j => decide (ws.getD j 0 + f k ≤ bag)) j = false) ∨ ∃ m, m < ws.length ∧ pkR T ws.length = m ∧ (fun j => decide (ws.getD j 0 + f k ≤ bag)) m = true ∧ ∀ j, j < m → (fun j => decide (ws.getD j 0 + f k ≤ bag)) j = false := by
  have hno : ∀ j, j < T → j < ws.length → decide (ws.getD j 0 + f k ≤ bag) = false := fun j hj hl => by
    have := List.not_of_lt_findIdx (p := fun w => decide (w + f k ≤ bag)) (xs := ws) (i := j) (by unfold pkT at hT; omega)
    rw [getD_ofLt hl]
    cases c : decide (ws[j] + f k ≤ bag)
    · rfl
    · exact absurd c (by simpa using this)
  by_cases c : T = ws.length
  · exact .inl ⟨by unfold pkR; rw [if_pos c], fun j hj => hno j (by omega) hj⟩
  · have hlt : T < ws.length := by have := pkT_le f bag ws k; omega
    refine .inr ⟨T, hlt, by unfold pkR; rw [if_neg c], ?_, fun j hj => hno j hj (by omega)⟩
    have := pkT_hit (f := f) (bag := bag) (ws := ws) (k := k) (by omega)
    rw [hT] at this
    exact decide_eq_true this
def PqRel (f : Nat → Int) (bag : Int) (n : Nat) (w : World) (s6 s7 i : Value) (wr : World) : Prop := ∃ k : Nat, k ≤ n ∧ i = .int .i64 k ∧ OwnI wr (w.heap.size + 1) s6 (packed f bag k) ∧ OwnI wr (w.heap.size + 1) s7 (pkW f bag k) ∧ NE s6 s7 ∧ Below w.heap.size w wr ∧ wr.cell? ⟨w.heap.size, 0, none⟩ = some (.int .i64 bag)
set_option maxRecDepth 100000 in
set_option maxHeartbeats 3200000 in
theorem Try.iPackInOrder (w : World) (B : Nat) (v : Value) (ps : List Pi2) (bag : Int) (b : Bool) (hb : b = true ↔ AskB ps bag) (hl : ps.length ≤ 1048576) (h : OwnP 55 w B v ps) :
    Calls Try.prog 39 #[v, .int .i64 bag] w (RetI w (if b then packed (weiF ps) bag ps.length else []) b) := by
  have mixed : Try.prog.follows .mixedOrders = true := by kernel_rfl
  have hc0 : (w.alloc (.cells #[.int .i64 bag] 3)).cell? ⟨w.heap.size, 0, none⟩ = some (.int .i64 bag) := by simp [go_sem]
  have hG := Gr.alloc (Gr.refl w) (.cells #[.int .i64 bag] 3)
  have HA := Lib.hid (Try.canCarry _ B v ps bag b hb hl (h.gr hG))
  have hmf : ∀ (fn : Fn) (first cap : Array Value) (w : World), (Instr.makeFunc fn first cap).run Try.prog w = .ok (.func fn first cap) w := fun _ _ _ _ => rfl
  cases b
  · obtain ⟨A, c, rfl⟩ := h.sl
    clear h hb
    go_enter Try.func39, Try.ntmps39
    go_wp2_with (first | (go_at_call 59; refine HA.out.mono ?_; rintro e w1 ⟨rfl, g1⟩))
    go_ret2
    exact ⟨_, rfl, OwnI.nil2 _ _, (hG.trans g1).below⟩
  have hask := hb.1 rfl
  have hl8 := hask.1.1
  have hbag := hask.2.1
  rw [if_pos rfl]
  rcases h.view with ⟨rfl, _⟩ | ⟨hpos, g, c, rfl, _, hgs, _, _, hc, _⟩
  · simp at hl8
  have eg : ∀ args w, (callFunc 71 args).run Try.prog w = .ok (.enter 71 args) w := enters_of Try.func71 (by kernel_rfl) rfl
  have HEG := Lib.hid eg
  have HC := Lib.hid hc
  have HFB := Lib.hid (ask_wei hask)
  have HPW := Lib.hid (fun k => pkW_in (f := weiF ps) (bag := bag) (ask_wei hask) k)
  clear h hb hc hask eg
  go_enter Try.func39, Try.ntmps39
  go_wp2_with (first | (go_at_call 59; refine HA.out.mono ?_; rintro e w1 ⟨rfl, g1⟩))
  have hbx := g1.keep0 hc0
  have hbl : Below w.heap.size w w1 := (hG.trans g1).below
  go_loopw [6, 7, 9, 10, 17] (fun s6 s7 _ _ i wr => PqRel (weiF ps) bag ps.length w s6 s7 i wr) (fun _ _ _ _ i _ => (ps.length - intOf i).toNat)
  case atStart => exact ⟨0, Nat.zero_le _, rfl, OwnI.nil2 _ _, OwnI.nil2 _ _, .inl rfl, hbl, hbx⟩
  case round =>
    obtain ⟨k, hk, rfl, o6, o7, ne, hb', hbb⟩ := hrel
    by_cases hlt : k < ps.length
    · have e0 := cell_k2 hb' (HC.out k hlt).1
      have e1 := cell_k2 hb' (HC.out k hlt).2
      have hfk : weiF ps k = (ps.getD k (0, 0)).2 := rfl
      have hxb := HFB.out k
      have hpl := pkW_le (weiF ps) bag k
      have htl : (packed (weiF ps) bag k).length = k := tb_len _ _
      have hts : packed (weiF ps) bag (k + 1) = packed (weiF ps) bag k ++ [(pkT (weiF ps) bag (pkW (weiF ps) bag k) k : Int)] := tb_succ _ _
      have hpw := HPW.out k
      obtain ⟨T, hT⟩ : ∃ T, pkT (weiF ps) bag (pkW (weiF ps) bag k) k = T := ⟨_, rfl⟩
      have hTL : T ≤ (pkW (weiF ps) bag k).length := by rw [← hT]; exact pkT_le _ _ _ _
      have hwn : pkW (weiF ps) bag (k + 1) = (if T = (pkW (weiF ps) bag k).length then pkW (weiF ps) bag k ++ [0] else pkW (weiF ps) bag k).set T ((pkW (weiF ps) bag k).getD T 0 + weiF ps k) := by simp only [pkW, hT]
      have hr := pkR_ok hT
      rw [hfk] at hxb hwn hr
      have HTT := Lib.hid hT
      have HTS := Lib.hid hts
      have HTL := Lib.hid htl
      have HWN := Lib.hid hwn
      clear hfk hT hts htl hwn
      generalize pkW (weiF ps) bag k = ws at *
      generalize hpk : packed (weiF ps) bag k = pk at *
      clear hpk
      generalize (ps.getD k (0, 0)).1 = x1 at *
      generalize (ps.getD k (0, 0)).2 = x at *
      obtain ⟨A6, c6, rfl, o6⟩ := o6.eta
      rw [HTL.out] at o6 ne ⊢
      obtain ⟨A7, c7, rfl, o7⟩ := o7.eta
      obtain ⟨L, hL⟩ : ∃ L, ws.length = L := ⟨_, rfl⟩
      have HLN := Lib.hid hL
      rw [hL] at o7 ne hTL hpl hr ⊢
      have z0 : (0 : Int) ≤ (k : Int) := by omega
      have z1 : (k : Int) < (ps.length : Int) := by omega
      have O6 := Lib.hid o6
      have O7 := Lib.hid o7
      have HN := Lib.hid ne
      have HB := Lib.hid hb'
      have HBB := Lib.hid hbb
      have HIX := Lib.hid (fun W (gW : Gr wr W) (hp : W.cell? ⟨wr.heap.size, 1, none⟩ = some (.int .i64 x)) => (Try.idxFnI 71 #[.pointer (some ⟨wr.heap.size, 0, none⟩), .pointer (some ⟨w.heap.size, 0, none⟩)] ws (fun j => decide (ws.getD j 0 + x ≤ bag)) (pkR T L) (by rw [hL]; exact hr) W (w.heap.size + 1) _ (O7.out.gr gW) (by omega) HEG.out
        (fun W' j g' hj => Try.packIn1 _ x bag _ _ W' (g'.keep0 hp) (g'.keep0 (gW.keep0 HBB.out)) (by have := hpw j hj; omega) (by omega))).mono (fun e w' hh => (⟨hh.1, hh.2, hh.2.keep0 hp⟩ : e = .returned (.int .i64 (pkR T L)) ∧ Gr W w' ∧ w'.cell? ⟨wr.heap.size, 1, none⟩ = some (.int .i64 x))))
      clear hr hL o6 o7 ne hb'
      by_cases hTe : T = L
      · have hR : pkR T L = -1 := by unfold pkR; rw [if_pos hTe]
        rw [hR] at HIX
        subst hTe
        have hwn := HWN.out
        rw [if_pos HLN.out.symm] at hwn
        have hz : ws.getD T 0 = 0 := by simp [List.getD, HLN.out]
        obtain ⟨y, hy0⟩ : ∃ y : Int, y = 0 := ⟨0, rfl⟩
        rw [hz, ← hy0] at hwn
        have HWN2 : RowKit.Hid (pkW (weiF ps) bag (k + 1) = (ws ++ [0]).set T (y + x)) := Lib.hid (by rw [hwn, hy0])
        have HY0 := Lib.hid hy0
        clear hwn hz hR hpw
        have hyb : 0 ≤ y ∧ y ≤ 0 := by omega
        clear hy0
        go_wp2_with (first | (go_at_call 70; refine (HIX.out _ (by repeat (first | exact Gr.refl _ | refine Gr.alloc ?_ _ | refine Gr.trans ?_ (by assumption) | refine Gr.drew ?_ | refine Gr.drewN ?_ _ | refine Gr.grow ?_ _ | refine Gr.setCell ?_ (by (try simp); (try omega)) _)) (by simp [go_sem])).mono ?_; rintro e w2 ⟨rfl, g2, hp2⟩; have gz : Gr wr w2 := Gr.trans (by repeat (first | exact Gr.refl _ | refine Gr.alloc ?_ _ | refine Gr.trans ?_ (by assumption) | refine Gr.drew ?_ | refine Gr.drewN ?_ _ | refine Gr.grow ?_ _ | refine Gr.setCell ?_ (by (try simp); (try omega)) _)) g2; have O7b := Lib.hid (O7.out.gr gz); have O6b := Lib.hid (O6.out.gr gz); have hs2 : w.heap.size + 1 ≤ w2.heap.size := (by have := World.block_lt_of_cell? _ _ (gz.keep0 HBB.out); simp only at this; omega)) | (at_builtin; refine wpList_app1J rfl _ _ 29 rfl Try.underlying29 Try.infoI2 (w.heap.size + 1) _ _ rfl O7b.out 0 rfl (by rw [HLN.out]; omega) hs2 ?_; intro v5 wx ho bx gx sx ax))
        have hl1 : (ws ++ [0]).length = T + 1 := by simp [HLN.out]
        obtain ⟨A9, c9, rfl, ho⟩ := ho.eta
        rw [hl1] at ho ax ⊢
        obtain ⟨g7, rfl⟩ := ho.addr (by omega)
        have hho := ho
        clear ho
        have HOG : w.heap.size + 1 ≤ g7 := (World.ownsRow.lt hho g7 rfl).1
        have BXX : Below w.heap.size w wx := (HB.out.trans (gz.below.mono HB.out.size)).trans (bx.mono (Nat.le_succ _))
        have hpx := gx.cell hp2 (fun e => by have := (World.ownsRow.lt O7.out _ e.symm).2; simp only at this; omega)
        have hbgx := gx.cell (gz.keep0 HBB.out) (fun e => by have := (World.ownsRow.lt O7.out _ e.symm).1; simp only at this; omega)
        have hne2 := HN.out.sym.app O6b.out ax
        have hop := O6b.out.grown gx HN.out
        have HY : RowKit.Hid ((ws ++ [0]).getD T 0 = y) := Lib.hid (by rw [getD_app, if_neg (by rw [HLN.out]; omega), if_pos HLN.out.symm, HY0.out])
        have HLN : RowKit.Hid ((ws ++ [0]).length = T + 1) := Lib.hid hl1
        have tz0 : (0 : Int) ≤ (T : Int) := by omega
        have tz1 : (T : Int) < ((T + 1 : Nat) : Int) := by omega
        have wyx : IntKind.i64.wrap (y + x) = y + x := IntWalk.i64_in _ (by omega)
        clear bx gx sx ax hp2 g2 hl1
        have c0 := (hho).at HLN.out (T) (by omega)
        rw [HY.out] at c0
        have q0 := gr_all (Gr.refl wx) c0.1
        have q1 := gr_all_f (Gr.refl wx) (World.block_lt_of_cell? _ _ c0.1) c0.2
        have q2 := gr_all (Gr.refl wx) hpx
        have HOX := Lib.hid (hho)
        have HOPX := Lib.hid (hop)
        have HNX := Lib.hid (hne2)
        have HBX := Lib.hid (BXX)
        have HBAG := Lib.hid (hbgx)
        clear c0
        (refine wp_region_grown_tail 8 mixed (by kernel_rfl) ?_; simp only [List.take_succ_cons, List.take_zero, List.drop_succ_cons, List.drop_zero]; (repeat (first | go_big_quiet_step ((fail)) | quiet_step ((fail)))); refine wpQuiet_nil ?_; intro _ hw'; obtain ⟨⟨nq, osq⟩, hw''⟩ := hw'; subst hw'')
        have q0' := q0 nq osq
        have q1' := q1 nq osq
        clear q0 q1 q2
        have gg : Gr wx (Go.Sort.grow ((wx).drewN nq) osq) := Gr.grow (Gr.drewN (Gr.refl _) nq) osq
        obtain ⟨Y, hY⟩ : ∃ Y, (Go.Sort.grow ((wx).drewN nq) osq) = Y := ⟨_, rfl⟩
        rw [hY] at gg q0' q1' ⊢
        have hlz := OwnI.set (HOX.out.gr gg) HLN.out (T) (y + x)
        rw [← HWN2.out] at hlz
        have HPZ := Lib.hid ((HOPX.out.gr gg).grown (grownBy_set (u := .int .i64 (y + x)) (o := T) (World.grownBy.refl Y (some g7))) (by rcases HNX.out.sym with c | c; (· exact .inl c); (· exact .inr (by simpa [Value.ownBlock] using c))))
        have HLZ := Lib.hid hlz
        have hBZ : Below w.heap.size w (Y.setCell ⟨g7, T, none⟩ (.int .i64 (y + x))) := Below.setCell (HBX.out.trans (gg.below.mono HBX.out.size)) (Nat.le_of_succ_le HOG) _
        have HBZ := Lib.hid hBZ
        have HBAZ := Lib.hid ((World.grownBy.cell (grownBy_set (u := .int .i64 (y + x)) (o := T) (World.grownBy.refl Y (some g7))) (gg.keep0 HBAG.out) (by simp; omega)))
        have hsy : w.heap.size + 1 ≤ Y.heap.size := by have := World.block_lt_of_cell? _ _ (gg.keep0 HBAG.out); simp only at this; omega
        clear hlz hBZ hY
        go_upto_region 12 with fail
        obtain ⟨Z, hZ⟩ : ∃ Z, Y.setCell ⟨g7, T, none⟩ (.int .i64 (y + x)) = Z := ⟨_, rfl⟩
        have hsz : w.heap.size + 1 ≤ Z.heap.size := by rw [← hZ]; simpa using hsy
        rw [hZ] at HPZ HLZ HBZ HBAZ
        simp only [hZ]
        clear hZ
        go_wp2_with (first | (at_builtin; refine wpList_app1J rfl _ _ 29 rfl Try.underlying29 Try.infoI2 (w.heap.size + 1) _ _ rfl HPZ.out ((T : Nat) : Int) rfl (by rw [HTL.out]; omega) hsz ?_; intro v6 w6 ho6 hb6 hg6 hs6 hat6))
        go_roundw
        case rel =>
          exact ⟨k + 1, by omega, by go_num, by rw [HTS.out, HTT.out]; exact ho6, HLZ.out.grown hg6 (by rcases HNX.out with c | c; (· exact .inl c); (· exact .inr c)), (NE.app HNX.out.sym HLZ.out hat6), HBZ.out.trans (hb6.mono (Nat.le_succ _)), hg6.cell HBAZ.out (fun e => by have := (World.ownsRow.lt HPZ.out _ e.symm).1; simp only at this; omega)⟩
        case measure => simp [intOf]; omega
      · have hTL2 : T < L := by omega
        have hR : pkR T L = (T : Int) := by unfold pkR; rw [if_neg hTe]
        rw [hR] at HIX
        have hwn := HWN.out
        rw [if_neg (by rw [HLN.out]; exact hTe)] at hwn
        obtain ⟨y, hy⟩ : ∃ y, ws.getD T 0 = y := ⟨_, rfl⟩
        have hyb := hpw T (by rw [HLN.out]; omega)
        rw [hy] at hwn hyb
        have HY := Lib.hid hy
        have HWN2 := Lib.hid hwn
        obtain ⟨g7, rfl⟩ := O7.out.addr (by rw [HLN.out]; omega)
        have HOG : w.heap.size + 1 ≤ g7 := (World.ownsRow.lt O7.out g7 rfl).1
        have hTn : ¬ (T : Int) < 0 := by omega
        have tz0 : (0 : Int) ≤ (T : Int) := by omega
        have tz1 : (T : Int) < (L : Int) := by omega
        have wyx : IntKind.i64.wrap (y + x) = y + x := IntWalk.i64_in _ (by omega)
        clear hwn hy hR hpw
        go_wp2_with (first | (go_at_call 70; refine (HIX.out _ (by repeat (first | exact Gr.refl _ | refine Gr.alloc ?_ _ | refine Gr.trans ?_ (by assumption) | refine Gr.drew ?_ | refine Gr.drewN ?_ _ | refine Gr.grow ?_ _ | refine Gr.setCell ?_ (by (try simp); (try omega)) _)) (by simp [go_sem])).mono ?_; rintro e w2 ⟨rfl, g2, hp2⟩; have gz : Gr wr w2 := Gr.trans (by repeat (first | exact Gr.refl _ | refine Gr.alloc ?_ _ | refine Gr.trans ?_ (by assumption) | refine Gr.drew ?_ | refine Gr.drewN ?_ _ | refine Gr.grow ?_ _ | refine Gr.setCell ?_ (by (try simp); (try omega)) _)) g2))
        have BXX : Below w.heap.size w w2 := HB.out.trans (gz.below.mono HB.out.size)
        have c0 := (O7.out.gr gz).at HLN.out (T) (by omega)
        rw [HY.out] at c0
        have q0 := gr_all (Gr.refl w2) c0.1
        have q1 := gr_all_f (Gr.refl w2) (World.block_lt_of_cell? _ _ c0.1) c0.2
        have q2 := gr_all (Gr.refl w2) hp2
        have HOX := Lib.hid (O7.out.gr gz)
        have HOPX := Lib.hid (O6.out.gr gz)
        have HNX := Lib.hid (HN.out.sym)
        have HBX := Lib.hid (BXX)
        have HBAG := Lib.hid ((gz.keep0 HBB.out))
        clear c0
        (refine wp_region_grown_tail 8 mixed (by kernel_rfl) ?_; simp only [List.take_succ_cons, List.take_zero, List.drop_succ_cons, List.drop_zero]; (repeat (first | go_big_quiet_step ((fail)) | quiet_step ((fail)))); refine wpQuiet_nil ?_; intro _ hw'; obtain ⟨⟨nq, osq⟩, hw''⟩ := hw'; subst hw'')
        have q0' := q0 nq osq
        have q1' := q1 nq osq
        clear q0 q1 q2
        have gg : Gr w2 (Go.Sort.grow ((w2).drewN nq) osq) := Gr.grow (Gr.drewN (Gr.refl _) nq) osq
        obtain ⟨Y, hY⟩ : ∃ Y, (Go.Sort.grow ((w2).drewN nq) osq) = Y := ⟨_, rfl⟩
        rw [hY] at gg q0' q1' ⊢
        have hlz := OwnI.set (HOX.out.gr gg) HLN.out (T) (y + x)
        rw [← HWN2.out] at hlz
        have HPZ := Lib.hid ((HOPX.out.gr gg).grown (grownBy_set (u := .int .i64 (y + x)) (o := T) (World.grownBy.refl Y (some g7))) (by rcases HNX.out.sym with c | c; (· exact .inl c); (· exact .inr (by simpa [Value.ownBlock] using c))))
        have HLZ := Lib.hid hlz
        have hBZ : Below w.heap.size w (Y.setCell ⟨g7, T, none⟩ (.int .i64 (y + x))) := Below.setCell (HBX.out.trans (gg.below.mono HBX.out.size)) (Nat.le_of_succ_le HOG) _
        have HBZ := Lib.hid hBZ
        have HBAZ := Lib.hid ((World.grownBy.cell (grownBy_set (u := .int .i64 (y + x)) (o := T) (World.grownBy.refl Y (some g7))) (gg.keep0 HBAG.out) (by simp; omega)))
        have hsy : w.heap.size + 1 ≤ Y.heap.size := by have := World.block_lt_of_cell? _ _ (gg.keep0 HBAG.out); simp only at this; omega
        clear hlz hBZ hY
        go_upto_region 12 with fail
        obtain ⟨Z, hZ⟩ : ∃ Z, Y.setCell ⟨g7, T, none⟩ (.int .i64 (y + x)) = Z := ⟨_, rfl⟩
        have hsz : w.heap.size + 1 ≤ Z.heap.size := by rw [← hZ]; simpa using hsy
        rw [hZ] at HPZ HLZ HBZ HBAZ
        simp only [hZ]
        clear hZ
        go_wp2_with (first | (at_builtin; refine wpList_app1J rfl _ _ 29 rfl Try.underlying29 Try.infoI2 (w.heap.size + 1) _ _ rfl HPZ.out ((T : Nat) : Int) rfl (by rw [HTL.out]; omega) hsz ?_; intro v6 w6 ho6 hb6 hg6 hs6 hat6))
        go_roundw
        case rel =>
          exact ⟨k + 1, by omega, by go_num, by rw [HTS.out, HTT.out]; exact ho6, HLZ.out.grown hg6 (by rcases HNX.out with c | c; (· exact .inl c); (· exact .inr c)), (NE.app HNX.out.sym HLZ.out hat6), HBZ.out.trans (hb6.mono (Nat.le_succ _)), hg6.cell HBAZ.out (fun e => by have := (World.ownsRow.lt HPZ.out _ e.symm).1; simp only at this; omega)⟩
        case measure => simp [intOf]; omega
    · obtain rfl : k = ps.length := by omega
      have O6 := Lib.hid o6
      have HB := Lib.hid hb'
      clear o6 o7 ne hb' hbb
      go_wp2
      go_ret2
      exact ⟨_, rfl, O6.out.mono (Nat.le_succ _), HB.out⟩
end Go.Proofs
