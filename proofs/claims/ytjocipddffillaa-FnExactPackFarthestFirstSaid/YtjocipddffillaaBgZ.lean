/-
  Chapter 8, the program: a stable sort of indices by a closure that compares (slices.SortStableFunc of few numbers).
-/
import Derived.Test.YtjocipddffillaaBgS
import Derived.BigRegion
namespace Go.Proofs
open Go.RowKit Bg
set_option linter.unusedVariables false
set_option linter.unusedSimpArgs false
/-- indices of which the first i are in order and the next one is on its way, at j -/
def dfN (xs : List Int) (i j k : Nat) : Int := if k < j then xs.getD k 0 else if k = j then (i : Int) else if k ≤ i then xs.getD (k - 1) 0 else (k : Int)
def ofN (xs : List Int) (i k : Nat) : Int := if k < i then xs.getD k 0 else (k : Int)
theorem df_start (xs : List Int) (i n : Nat) : tb (ofN xs i) n = tb (dfN xs i i) n := by
  refine tb_congr fun k _ => ?_
  unfold ofN dfN
  by_cases c : k < i
  · rw [if_pos c, if_pos c]
  · rw [if_neg c, if_neg c]
    by_cases d : k = i
    · rw [if_pos d, d]
    · rw [if_neg d, if_neg (by omega)]
theorem df_swap (xs : List Int) (i m n : Nat) (hm : m + 1 ≤ i) (hn : i < n) : ((tb (dfN xs i (m + 1)) n).set (m + 1) (xs.getD m 0)).set m (i : Int) = tb (dfN xs i m) n := by
  rw [tb_set _ _ _ _ (by omega), tb_set _ _ _ _ (by omega)]
  refine tb_congr fun k _ => ?_
  unfold dfN
  by_cases c1 : k = m
  · subst c1; rw [if_pos rfl, if_neg (by omega), if_pos rfl]
  · rw [if_neg c1]
    by_cases c2 : k = m + 1
    · subst c2; rw [if_pos rfl, if_neg (by omega), if_neg (by omega), if_pos (by omega), Nat.add_sub_cancel]
    · rw [if_neg c2]
      by_cases c3 : k < m
      · rw [if_pos (by omega), if_pos c3]
      · rw [if_neg (by omega), if_neg c3, if_neg c2, if_neg c1]
theorem insAt_getD (xs : List Int) (p k : Nat) (y : Int) (hp : p ≤ xs.length) (hk : k ≤ xs.length) : (insAt xs p y).getD k 0 = if k < p then xs.getD k 0 else if k = p then y else xs.getD (k - 1) 0 := by
  unfold insAt
  have l1 : (xs.take p).length = p := by simp; omega
  by_cases c1 : k < p
  · rw [if_pos c1]
    simp only [List.getD]
    rw [List.getElem?_append_left (by simp; omega), List.getElem?_append_left (by omega), List.getElem?_take, if_pos c1]
  · rw [if_neg c1]
    by_cases c2 : k = p
    · subst c2
      rw [if_pos rfl]
      simp only [List.getD]
      rw [List.getElem?_append_left (by simp; omega), List.getElem?_append_right (by omega), l1]
      simp
    · rw [if_neg c2]
      simp only [List.getD]
      rw [List.getElem?_append_right (by simp; omega), List.getElem?_drop]
      congr 2
      simp
      omega
theorem df_end (h : Nat → Int) (i n : Nat) : tb (dfN (ordN h true i) i (posN h true (ordN h true i) i)) n = tb (ofN (ordN h true (i + 1)) (i + 1)) n := by
  refine tb_congr fun k _ => ?_
  have hp := posN_le h true (ordN h true i) i
  have hl := ord_len h true i
  unfold ofN
  by_cases c : k < i + 1
  · rw [if_pos c]
    simp only [ordN]
    rw [insAt_getD _ _ _ _ hp (by omega)]
    unfold dfN
    by_cases c1 : k < posN h true (ordN h true i) i
    · rw [if_pos c1, if_pos c1]
    · rw [if_neg c1, if_neg c1]
      by_cases c2 : k = posN h true (ordN h true i) i
      · rw [if_pos c2, if_pos c2]
      · rw [if_neg c2, if_neg c2, if_pos (by omega)]
  · rw [if_neg c]
    unfold dfN
    rw [if_neg (by omega), if_neg (by omega), if_neg (by omega)]
theorem of_zero (h : Nat → Int) (n : Nat) : tb (fun k => (k : Int)) n = tb (ofN (ordN h true 1) 1) n := by
  refine tb_congr fun k _ => ?_
  unfold ofN
  by_cases c : k < 1
  · rw [if_pos c]
    obtain rfl : k = 0 := by omega
    rfl
  · rw [if_neg c]
theorem of_all (h : Nat → Int) (n : Nat) : tb (ofN (ordN h true n) n) n = ordN h true n := by
  have : tb (ofN (ordN h true n) n) n = tb (fun k => (ordN h true n).getD k 0) n := tb_congr fun k hk => by unfold ofN; rw [if_pos hk]
  rw [this]
  have := tb_id (ordN h true n)
  rwa [ord_len] at this
theorem frozen_kept {w w' : World} {b o : Nat} {v : Value} (g : Gr w w') (h : w.cell? ⟨b, o, none⟩ = some v) (f : w.frozen? ⟨b, o, none⟩ = false) : w'.frozen? ⟨b, o, none⟩ = false := by
  have := (bcell g.below).2 b o (World.block_lt_of_cell? _ _ h)
  rw [this]; exact f
def IoRel (h : Nat → Int) (n : Nat) (B : Nat) (v : Value) (w : World) (i : Value) (wr : World) : Prop := ∃ k : Nat, 1 ≤ k ∧ (k ≤ n ∨ k = 1) ∧ i = .int .i64 k ∧ OwnI wr B v (tb (ofN (ordN h true k) k) n) ∧ Below B w wr
def IjRel (h : Nat → Int) (xs : List Int) (i n P B : Nat) (v : Value) (w : World) (s : Value) (wr : World) : Prop := ∃ j : Nat, j ≤ i ∧ s = .int .i64 j ∧ posD h xs i j = P ∧ OwnI wr B v (tb (dfN xs i j) n) ∧ Below B w wr
set_option maxRecDepth 100000 in
set_option maxHeartbeats 3200000 in
theorem Try.insSort (fg : Nat) (cb : Array Value) (h : Nat → Int) (cf : Int → Int → Int) (n : Nat) (w : World) (B : Nat) (v : Value) (hB : B ≤ w.heap.size) (h1 : 1 ≤ n) (h8 : n ≤ 8) (ho : OwnI w B v (tb (fun k => (k : Int)) n))
    (eg : ∀ args w, (callFunc fg args).run Try.prog w = .ok (.enter fg args) w)
    (hcf : ∀ x y : Nat, cf x y < 0 ↔ h y < h x)
    (hf : ∀ (W : World) (x y : Nat), Below B w W → x < n → y < n → Calls Try.prog fg (#[.int .i64 x, .int .i64 y] ++ cb) W fun e w' => e = .returned (.int .i64 (cf x y)) ∧ Gr W w') :
    Calls Try.prog 100 #[v, .int .i64 0, .int .i64 n, .func (.func fg) #[] cb] w fun e w' => e = .returned (.tuple #[]) ∧ OwnI w' B v (ordN h true n) ∧ Below B w w' := by
  have mixed : Try.prog.follows .mixedOrders = true := by kernel_rfl
  obtain ⟨A, c, rfl, ho⟩ := ho.eta
  rw [tb_len] at ho ⊢
  obtain ⟨g, rfl⟩ := ho.addr (by rw [tb_len]; omega)
  have HOG : B ≤ g := (World.ownsRow.lt ho g rfl).1
  rw [of_zero h] at ho
  have HO := Lib.hid ho
  have HF := Lib.hid hf
  have HCF := Lib.hid hcf
  clear ho hf hcf
  go_enter Try.func100, Try.ntmps100
  go_wp2
  go_loopw [8, 9] (fun i _ wr => IoRel h n B (.slice (some ⟨g, 0, none⟩) n c) w i wr) (fun i _ _ => (n - intOf i).toNat)
  case atStart => exact ⟨1, Nat.le_refl _, .inr rfl, rfl, HO.out, Below.refl _ _⟩
  case round =>
    obtain ⟨i, hi1, hin, rfl, oi, hb'⟩ := hrel
    by_cases hlt : i < n
    · have hol := ord_len h true i
      have hoa := ord_at h true i
      have hpn : posD h (ordN h true i) i i = posN h true (ordN h true i) i := by unfold posN; rw [if_pos rfl, hol]
      have hend := df_end h i n
      rw [df_start] at oi
      have hswap := fun m hm => df_swap (ordN h true i) i m n hm hlt
      have hxi : ∀ j, (j ≤ i) → (tb (dfN (ordN h true i) i j) n).getD j 0 = (i : Int) := fun j hj => by rw [tb_get _ _ _ (by omega)]; unfold dfN; rw [if_neg (by omega), if_pos rfl]
      have hxj : ∀ m, m + 1 ≤ i → (tb (dfN (ordN h true i) i (m + 1)) n).getD m 0 = (ordN h true i).getD m 0 := fun m hm => by rw [tb_get _ _ _ (by omega)]; unfold dfN; rw [if_pos (by omega)]
      have HEND := Lib.hid hend
      have HSW := Lib.hid hswap
      have HXI := Lib.hid hxi
      have HXJ := Lib.hid hxj
      have HOA := Lib.hid hoa
      have HPN := Lib.hid hpn
      have OI := Lib.hid oi
      have HB := Lib.hid hb'
      clear hend hswap hxi hxj hoa hpn oi hb' hol
      generalize hxs : ordN h true i = xs at *
      generalize posN h true xs i = P at *
      clear hxs
      have z1 : (i : Int) < (n : Int) := by omega
      go_wp2
      go_loopw [9] (fun s wr' => IjRel h xs i n P B (.slice (some ⟨g, 0, none⟩) n c) w s wr') (fun s _ => (intOf s).toNat)
      case atStart => exact ⟨i, Nat.le_refl _, rfl, HPN.out, OI.out, HB.out⟩
      case round =>
        obtain ⟨j, hji, rfl, hpd, oj, hbj⟩ := hrel
        rcases Nat.eq_zero_or_pos j with hj0 | hj0
        · subst hj0
          obtain rfl : 0 = P := hpd
          have OJ := Lib.hid oj
          have HBJ := Lib.hid hbj
          clear oj hbj
          go_wp2
          go_quiet (fail)
          go_wp2
          go_roundw
          case rel => exact ⟨i + 1, by omega, by omega, by go_num, by rw [← HEND.out]; exact OJ.out.gr (Gr.drewN (Gr.refl _) _), HBJ.out.trans ((Gr.drewN (Gr.refl _) _).below.mono (by first | exact Nat.le_refl _ | exact Nat.le_trans hB HBJ.out.size | (have := HBJ.out.size; omega)))⟩
          case measure => simp [intOf]; omega
        · obtain ⟨m, hm⟩ : ∃ m, j = m + 1 := ⟨j - 1, by omega⟩
          obtain ⟨q, hq⟩ : ∃ q : Nat, xs.getD m 0 = (q : Int) := ⟨(xs.getD m 0).toNat, by have := HOA.out m (by omega); omega⟩
          have hqi : q < i := by have := (HOA.out m (by omega)).2; rw [hq] at this; omega
          have hpd2 : (if h q < h i then posD h xs i m else j) = P := by have := hpd; rw [hm] at this; simp only [posD] at this; rw [hq, Int.toNat_natCast, ← hm] at this; exact this
          have cj := oj.at (tb_len _ _) j (by omega)
          have cm := oj.at (tb_len _ _) m (by omega)
          have e1 := HXI.out j hji
          have e2 := HXJ.out m (by omega)
          rw [← hm, hq] at e2
          rw [e1] at cj
          rw [e2] at cm
          have hsw := HSW.out m (by omega)
          rw [← hm, hq] at hsw
          have HSW2 := Lib.hid hsw
          have OJ := Lib.hid oj
          have HBJ := Lib.hid hbj
          have hsz := Nat.le_trans hB hbj.size
          have wm : IntKind.i64.wrap ((j : Int) - 1) = (m : Int) := by rw [show (j : Int) - 1 = (m : Int) by omega]; exact IntWalk.i64_in _ (by omega)
          have zj : (0 : Int) < (j : Int) := by omega
          have zj0 : (0 : Int) ≤ (j : Int) := by omega
          have zj1 : (j : Int) < (n : Int) := by omega
          have zm0 : (0 : Int) ≤ (m : Int) := by omega
          have zm1 : (m : Int) < (n : Int) := by omega
          have HCL := Lib.hid (fun W (g' : Gr wr W) => HF.out W i q (HBJ.out.trans (g'.below.mono hsz)) (by omega) (by omega))
          have hc := HCF.out i q
          have k0 := gr_all (Gr.refl wr) cj.1
          have k1 := gr_all (Gr.refl wr) cm.1
          have HM := Lib.hid hm
          have HCJ := Lib.hid cj
          have HCM := Lib.hid cm
          clear e1 e2 hsw oj hbj hpd hm hq cj cm
          by_cases hlt2 : h q < h i
          · rw [if_pos hlt2] at hpd2
            have hneg := hc.2 hlt2
            have HPD := Lib.hid hpd2
            clear hc hpd2
            generalize cf i q = r at *
            go_wp2
            (refine wp_region_quiet_grown mixed (by kernel_rfl) ?_; (repeat (first | go_big_quiet_step ((go_at_fn fg; exact Calls.grown_of (HCL.out _ (Gr.grow (Gr.drewN (Gr.refl _) _) _)))) | quiet_step ((go_at_fn fg; exact Calls.grown_of (HCL.out _ (Gr.grow (Gr.drewN (Gr.refl _) _) _)))))); refine wpQuiet_nil ?_; intro _ hw'; obtain ⟨⟨nq, osq⟩, hw''⟩ := hw'; subst hw'')
            have gg : Gr wr (Go.Sort.grow (wr.drewN nq) osq) := Gr.grow (Gr.drewN (Gr.refl _) nq) osq
            clear k0 k1
            go_wp2
            obtain ⟨X, hX⟩ : ∃ X, Go.Sort.grow (wr.drewN nq) osq = X := ⟨_, rfl⟩
            rw [hX] at gg ⊢
            have HCL := trivial
            have f1 := gg.keep0 HCJ.out.1
            have f2 := gg.keep0 HCM.out.1
            have f3 := frozen_kept gg HCJ.out.1 HCJ.out.2
            have f4 := frozen_kept gg HCM.out.1 HCM.out.2
            have hjm : ¬ j = m := by have := HM.out; omega
            have hjm2 : ¬ m = j := by have := HM.out; omega
            clear hX
            go_region
            have hz : OwnI (((X.setCell ⟨g, j, none⟩ (.int .i64 q)).setCell ⟨g, m, none⟩ (.int .i64 i)).drew) B (.slice (some ⟨g, 0, none⟩) n c) (tb (dfN xs i m) n) := by
              have a1 := OwnI.set (OJ.out.gr gg) (tb_len _ _) j (q : Int)
              have a2 := OwnI.set a1 (by rw [List.length_set, tb_len]) m (i : Int)
              rw [HSW2.out] at a2
              exact a2.gr (Gr.drew (Gr.refl _))
            have hbz : Below B w (((X.setCell ⟨g, j, none⟩ (.int .i64 q)).setCell ⟨g, m, none⟩ (.int .i64 i)).drew) := (((HBJ.out.trans (gg.below.mono hsz)).setCell HOG _).setCell HOG _).trans ((Gr.drew (Gr.refl _)).below.mono (by have := (HBJ.out.trans (gg.below.mono hsz)).size; simp; omega))
            have HZ := Lib.hid hz
            have HBZ := Lib.hid hbz
            clear hz hbz f1 f2 f3 f4
            go_wp2
            go_roundw
            case rel => exact ⟨m, by have := HM.out; omega, by go_num, HPD.out, HZ.out, HBZ.out⟩
            case measure => simp [intOf]; (try have := HM.out); omega
          · rw [if_neg hlt2] at hpd2
            have hneg : ¬ cf i q < 0 := fun e => hlt2 (hc.1 e)
            obtain rfl : j = P := hpd2
            clear hc
            generalize cf i q = r at *
            go_wp2
            (refine wp_region_quiet_grown mixed (by kernel_rfl) ?_; (repeat (first | go_big_quiet_step ((go_at_fn fg; exact Calls.grown_of (HCL.out _ (Gr.grow (Gr.drewN (Gr.refl _) _) _)))) | quiet_step ((go_at_fn fg; exact Calls.grown_of (HCL.out _ (Gr.grow (Gr.drewN (Gr.refl _) _) _)))))); refine wpQuiet_nil ?_; intro _ hw'; obtain ⟨⟨nq, osq⟩, hw''⟩ := hw'; subst hw'')
            have gg : Gr wr (Go.Sort.grow (wr.drewN nq) osq) := Gr.grow (Gr.drewN (Gr.refl _) nq) osq
            clear k0 k1
            go_wp2
            go_roundw
            case rel => exact ⟨i + 1, by omega, by omega, by go_num, by rw [← HEND.out]; exact OJ.out.gr gg, HBJ.out.trans (gg.below.mono hsz)⟩
            case measure => simp [intOf]; omega
    · have hin2 : i = n := by omega
      subst hin2
      have OI := Lib.hid oi
      have HB := Lib.hid hb'
      clear oi hb'
      go_wp2
      refine bodyPost_end (results_none rfl _ _ _) rfl ?_
      exact ⟨rfl, by have := OI.out; rw [of_all] at this; exact this, HB.out⟩
set_option maxHeartbeats 800000 in
theorem Try.stableSort (fg : Nat) (cb : Array Value) (h : Nat → Int) (cf : Int → Int → Int) (n : Nat) (w : World) (B : Nat) (v : Value) (hB : B ≤ w.heap.size) (h1 : 1 ≤ n) (h8 : n ≤ 8) (ho : OwnI w B v (tb (fun k => (k : Int)) n))
    (eg : ∀ args w, (callFunc fg args).run Try.prog w = .ok (.enter fg args) w)
    (hcf : ∀ x y : Nat, cf x y < 0 ↔ h y < h x)
    (hf : ∀ (W : World) (x y : Nat), Below B w W → x < n → y < n → Calls Try.prog fg (#[.int .i64 x, .int .i64 y] ++ cb) W fun e w' => e = .returned (.int .i64 (cf x y)) ∧ Gr W w') :
    Calls Try.prog 72 #[v, .func (.func fg) #[] cb] w fun e w' => e = .returned (.tuple #[]) ∧ OwnI w' B v (ordN h true n) ∧ Below B w w' := by
  have HI := Lib.hid (Try.insSort fg cb h cf n w B v hB h1 h8 ho eg hcf hf)
  obtain ⟨A, c, rfl⟩ := ho.sl
  rw [tb_len] at HI ⊢
  have HS : RowKit.Hid (Calls Try.prog 97 #[.slice A n c, .int .i64 n, .func (.func fg) #[] cb] w fun e w' => e = .returned (.tuple #[]) ∧ OwnI w' B (.slice A n c) (ordN h true n) ∧ Below B w w') := by
    have n20 : ¬ (20 : Int) ≤ (n : Int) := by omega
    have n20' : ¬ (20 : Int) < (n : Int) := by omega
    clear ho hf hcf eg
    go_enter Try.func97, Try.ntmps97
    go_wp2
    refine wp_loop_rounds 1 ?_
    rw [rounds_succ]
    go_wp2_with (go_at_call 100; refine HI.out.mono ?_; rintro e w1 ⟨rfl, o1, b1⟩)
    refine wp_loop_rounds 1 ?_
    rw [rounds_succ]
    go_wp2
    refine bodyPost_end (results_none rfl _ _ _) rfl ?_
    exact ⟨rfl, o1, b1⟩
  clear ho hf hcf eg HI
  go_enter Try.func72, Try.ntmps72
  go_wp2_with (go_at_call 97; refine HS.out.mono ?_; rintro e w1 ⟨rfl, o1, b1⟩)
  refine bodyPost_end (results_none rfl _ _ _) rfl ?_
  exact ⟨rfl, o1, b1⟩
set_option maxHeartbeats 800000 in
theorem Try.farCmp (x y : Nat) (b g n c : Nat) (hx hy : Int) (w : World) (hc : w.cell? ⟨b, 0, none⟩ = some (.slice (some ⟨g, 0, none⟩) n c)) (h1 : w.cell? ⟨g, x * 2, none⟩ = some (.int .i64 hx)) (h2 : w.cell? ⟨g, y * 2, none⟩ = some (.int .i64 hy)) (hxn : x < n) (hyn : y < n) :
    Calls Try.prog 73 (#[.int .i64 x, .int .i64 y] ++ #[.pointer (some ⟨b, 0, none⟩)]) w fun e w' => e = .returned (.int .i64 (Lib.compareInt hy hx)) ∧ Gr w w' := by
  have mixed : Try.prog.follows .mixedOrders = true := by kernel_rfl
  have z0 : (0 : Int) ≤ (x : Int) := by omega
  have z1 : (x : Int) < (n : Int) := by omega
  have z2 : (0 : Int) ≤ (y : Int) := by omega
  have z3 : (y : Int) < (n : Int) := by omega
  have k0 := gr_all (Gr.refl w) hc
  have k1 := gr_all (Gr.refl w) h1
  have k2 := gr_all (Gr.refl w) h2
  have HC := Lib.hid (fun W => Try.cmp_Compare_int hy hx W)
  generalize Lib.compareInt hy hx = r at *
  clear hc h1 h2
  go_enter Try.func73, Try.ntmps73
  go_wp2
  (refine wp_region_quiet_grown mixed (by kernel_rfl) ?_; (repeat (first | go_big_quiet_step ((first | (go_at_call 74; exact Calls.grown_of (same_gr ((HC.out _).mono fun _ _ ⟨he, hw⟩ => ⟨he, hw.symm⟩))))) | quiet_step ((first | (go_at_call 74; exact Calls.grown_of (same_gr ((HC.out _).mono fun _ _ ⟨he, hw⟩ => ⟨he, hw.symm⟩))))))); refine wpQuiet_nil ?_; intro _ hw'; obtain ⟨⟨nq, osq⟩, hw''⟩ := hw'; subst hw'')
  go_wp2
  go_ret
  exact ⟨rfl, by repeat (first | exact Gr.refl _ | refine Gr.alloc ?_ _ | refine Gr.trans ?_ (by assumption) | refine Gr.drew ?_ | refine Gr.drewN ?_ _ | refine Gr.grow ?_ _ | refine Gr.setCell ?_ (by (try simp); (try omega)) _)⟩
theorem cmp_neg (a b : Int) : Lib.compareInt a b < 0 ↔ a < b := by
  unfold Lib.compareInt
  split
  · simp; assumption
  · split <;> (constructor <;> intro h <;> omega)
end Go.Proofs
