/-
  Contracts of chapter 4: what there is to tell of the shortest ways between two corners (the program).
-/
import Derived.Test.YtkgfbdbhllakoaaAvJ
namespace Go.Proofs
open Go.RowKit Av Gm Go.Maps
set_option linter.unusedVariables false
set_option linter.unusedSimpArgs false
theorem seven_k {w w' : World} {a b c d e f h : Addr} {x0 x1 x2 x3 x4 x5 x6 : Value} (g : Below w.heap.size w w') (hh : w.cell? a = some x0 ∧ w.cell? b = some x1 ∧ w.cell? c = some x2 ∧ w.cell? d = some x3 ∧ w.cell? e = some x4 ∧ w.cell? f = some x5 ∧ w.cell? h = some x6) :
    w'.cell? a = some x0 ∧ w'.cell? b = some x1 ∧ w'.cell? c = some x2 ∧ w'.cell? d = some x3 ∧ w'.cell? e = some x4 ∧ w'.cell? f = some x5 ∧ w'.cell? h = some x6 :=
  ⟨cell_k2 g hh.1, cell_k2 g hh.2.1, cell_k2 g hh.2.2.1, cell_k2 g hh.2.2.2.1, cell_k2 g hh.2.2.2.2.1, cell_k2 g hh.2.2.2.2.2.1, cell_k2 g hh.2.2.2.2.2.2⟩
/-- how many shortest ways lead from one vertex to another one -/
def wys (Wn Hn : Nat) (ps : List Blk) (s0 t0 : Nat) : Int := g (fin (nbC Wn Hn ps) (Wn * Hn) s0) t0
def cwI (W H : Int) (ps : List Blk) (xs ys : List Int) : Int := wys W.toNat H.toNat ps (xs.getD 0 0 * H + xs.getD 1 0).toNat (ys.getD 0 0 * H + ys.getD 1 0).toNat
def cwV (W H : Int) (ps : List Blk) (xs ys : List Int) : Int := if cdB W H ps xs ys then cwI W H ps xs ys else 0
set_option maxRecDepth 100000 in
set_option maxHeartbeats 1600000 in
theorem Try.shortest (w : World) (W H : Int) (B : Nat) (a : Value) (ps : List Blk) (Ba : Nat) (la : Value) (xs : List Int) (Bb : Nat) (lb : Value) (ys : List Int) (v u : Int) (b : Bool) (hv : cdV W H ps xs ys = v) (hu : cwV W H ps xs ys = u) (hb : cdB W H ps xs ys = b) (hl : ps.length ≤ 1048576) (h : OwnB w B a ps) (hla : OwnI w Ba la xs) (hlb : OwnI w Bb lb ys) :
    Calls Try.prog 34 #[.agg #[.int .i64 W, .int .i64 H, a], la, lb] w fun e w' => e = .returned (.tuple #[.agg #[.int .i64 v, .int .i64 u], .bool b]) ∧ Below w.heap.size w w' := by
  have mixed : Try.prog.follows .mixedOrders = true := by kernel_rfl
  subst hv hu hb
  obtain ⟨A, c, rfl, h⟩ := OwnE.eta h
  obtain ⟨b1, h1⟩ : ∃ b1, okB W H ps = b1 := ⟨_, rfl⟩
  obtain ⟨b2, h2⟩ : ∃ b1, isC W H xs = b1 := ⟨_, rfl⟩
  obtain ⟨b3, h3⟩ : ∃ b1, isC W H ys = b1 := ⟨_, rfl⟩
  have HA := Lib.hid (fun (X : World) (g : Gr w X) => Try.twoCornersOf X W H B _ ps Ba la xs Bb lb ys b1 b2 b3 h1 h2 h3 hl (h.gr g) (hla.gr g) (hlb.gr g))
  cases hall : (b1 && b2 && b3)
  · have e1 : cdB W H ps xs ys = false := by unfold cdB; rw [h1, h2, h3, hall]; rfl
    have e2 : cdV W H ps xs ys = 0 := by unfold cdV; rw [e1]; rfl
    have e3 : cwV W H ps xs ys = 0 := by unfold cwV; rw [e1]; rfl
    rw [e1, e2, e3]
    rw [hall] at HA
    unfold coV at HA
    generalize coX (b1 && b2) xs = x1 at *
    generalize coY (b1 && b2) xs = y1 at *
    generalize coX (b1 && b3) ys = x2 at *
    generalize coY (b1 && b3) ys = y2 at *
    clear h hla hlb h1 h2 h3 hall e1 e2 e3
    go_enter Try.func34, Try.ntmps34
    go_wp2_with (first | (go_at_call 39; refine (HA.out _ (by repeat (first | exact Gr.refl _ | refine Gr.alloc ?_ _ | refine Gr.trans ?_ (by assumption) | refine Gr.drew ?_ | refine Gr.drewN ?_ _ | refine Gr.grow ?_ _ | refine Gr.setCell ?_ (by (try simp); (try omega)) _))).mono ?_; rintro e w1 ⟨rfl, hbW⟩; have hcW := (bcell hbW.below).1; have hfW := (bcell hbW.below).2; have hyW : w.heap.size + 1 < w1.heap.size := (by have hq := hbW.below.size; simp at hq; omega); have hzW : w.heap.size < w1.heap.size := (by omega); have q0 := hbW.keep0 (a := ⟨w.heap.size + 1, 0, none⟩) (v := .int .i64 0) (by simp [go_sem]); have q1 := hbW.keep0 (a := ⟨w.heap.size + 1, 1, none⟩) (v := .int .i64 0) (by simp [go_sem])))
    refine bodyPost_ret (v := .tuple #[.agg #[.int .i64 0, .int .i64 0], .bool false]) ?_ rfl ⟨rfl, ?_⟩
    · simp [results, Try.results34, go_sem, q0, q1, hyW, hzW]
    · refine Gr.below (show Gr w _ from Gr.alloc (Gr.alloc (Gr.setCell (Gr.setCell (by repeat (first | exact Gr.refl _ | refine Gr.alloc ?_ _ | refine Gr.trans ?_ (by assumption) | refine Gr.drew ?_ | refine Gr.drewN ?_ _ | refine Gr.grow ?_ _ | refine Gr.setCell ?_ (by (try simp); (try omega)) _)) (by simp) _) (by simp) _) _) _)
  · simp only [Bool.and_eq_true] at hall
    obtain ⟨⟨rfl, rfl⟩, rfl⟩ := hall
    obtain ⟨o1, o2, o3, o4, _, _, o7⟩ := of_decide_eq_true h1
    obtain ⟨p1, p2⟩ := isC_vtx h2 ⟨o1, o2⟩ ⟨o3, o4⟩
    obtain ⟨r1, r2⟩ := isC_vtx h3 ⟨o1, o2⟩ ⟨o3, o4⟩
    have hd : cdI W H ps xs ys = dst W.toNat H.toNat ps (xs.getD 0 0 * H + xs.getD 1 0).toNat (ys.getD 0 0 * H + ys.getD 1 0).toNat := rfl
    have hwi : cwI W H ps xs ys = wys W.toNat H.toNat ps (xs.getD 0 0 * H + xs.getD 1 0).toNat (ys.getD 0 0 * H + ys.getD 1 0).toNat := rfl
    have e1 : cdB W H ps xs ys = decide (0 ≤ cdI W H ps xs ys) := by unfold cdB; rw [h1, h2, h3]; rfl
    have e2 : cdV W H ps xs ys = if 0 ≤ cdI W H ps xs ys then cdI W H ps xs ys else 0 := by unfold cdV; rw [e1]; simp
    have e3 : cwV W H ps xs ys = if 0 ≤ cdI W H ps xs ys then cwI W H ps xs ys else 0 := by unfold cwV; rw [e1]; simp
    rw [e1, e2, e3, hd, hwi]
    unfold coV coX coY at HA
    simp only [Bool.and_self, if_true] at HA
    generalize (xs.getD 0 0 * H + xs.getD 1 0).toNat = s0 at *
    generalize (ys.getD 0 0 * H + ys.getD 1 0).toNat = t0 at *
    obtain ⟨Wn, rfl⟩ : ∃ Wn : Nat, W = Wn := ⟨W.toNat, by omega⟩
    obtain ⟨Hn, rfl⟩ : ∃ Hn : Nat, H = Hn := ⟨H.toNat, by omega⟩
    simp only [Int.toNat_natCast] at *
    subst p2 r2
    simp only [List.getD_cons_zero, List.getD_cons_succ] at HA
    have HR := Lib.hid (fun (X : World) (g : Below w.heap.size w X) => Try.reachedFrom X Wn Hn B _ ps s0 (by omega) (by omega) o7 p1 hl (OwnE.below h g (Nat.le_refl _)))
    have HO := Lib.hid (fun (X : World) b n D (hown : X.ownsMap Try.prog 64 rElem b n D) (hM : MapIs Hn (Wn * Hn) D (fin (nbC Wn Hn ps) (Wn * Hn) s0)) (W' : World) (g : Gr X W') => Try.lookOk (w := X) (Wn := Wn) (by omega) (by omega) hown hM r1 W' g)
    unfold dst wys
    generalize (if 0 ≤ f (fin (nbC Wn Hn ps) (Wn * Hn) s0) t0 then f (fin (nbC Wn Hn ps) (Wn * Hn) s0) t0 else 0) = vd at *
    generalize (if 0 ≤ f (fin (nbC Wn Hn ps) (Wn * Hn) s0) t0 then Gm.g (fin (nbC Wn Hn ps) (Wn * Hn) s0) t0 else 0) = vg at *
    generalize decide (0 ≤ f (fin (nbC Wn Hn ps) (Wn * Hn) s0) t0) = vb at *
    clear h hla hlb h1 h2 h3 e1 e2 e3 hd hwi p1 r1 o1 o2 o3 o4
    obtain ⟨x1, hx1⟩ : ∃ x, (crn Hn s0).1 = x := ⟨_, rfl⟩
    obtain ⟨y1, hy1⟩ : ∃ x, (crn Hn s0).2 = x := ⟨_, rfl⟩
    obtain ⟨x2, hx2⟩ : ∃ x, (crn Hn t0).1 = x := ⟨_, rfl⟩
    obtain ⟨y2, hy2⟩ : ∃ x, (crn Hn t0).2 = x := ⟨_, rfl⟩
    simp only [hx1, hy1, hx2, hy2] at HA HR HO
    go_enter Try.func34, Try.ntmps34
    go_upto_region 4 with (first | (go_at_call 39; refine (HA.out _ (by repeat (first | exact Gr.refl _ | refine Gr.alloc ?_ _ | refine Gr.trans ?_ (by assumption) | refine Gr.drew ?_ | refine Gr.drewN ?_ _ | refine Gr.grow ?_ _ | refine Gr.setCell ?_ (by (try simp); (try omega)) _))).mono ?_; rintro e w1 ⟨rfl, hbW⟩; have hcW := (bcell hbW.below).1; have hfW := (bcell hbW.below).2; have hyW : w.heap.size + 1 < w1.heap.size := (by have hq := hbW.below.size; simp at hq; omega); have hzW : w.heap.size < w1.heap.size := (by omega)))
    have gW : Gr ((w.alloc (.cells #[.int .i64 Wn, .int .i64 Hn, .slice A ps.length c] 31)).alloc (.cells #[.int .i64 0, .int .i64 0] 54)) ((w1.alloc (.cells #[.int .i64 x1, .int .i64 y1] 64)).alloc (.cells #[.int .i64 x2, .int .i64 y2] 64)) := Gr.alloc (Gr.alloc hbW _) _
    obtain ⟨wb, hwb⟩ : ∃ wb, ((w1.alloc (.cells #[.int .i64 x1, .int .i64 y1] 64)).alloc (.cells #[.int .i64 x2, .int .i64 y2] 64)) = wb := ⟨_, rfl⟩
    have k0 : wb.cell? ⟨w.heap.size, 0, none⟩ = some (.int .i64 Wn) := by rw [← hwb]; exact gW.keep0 (by simp [go_sem])
    have k1 : wb.cell? ⟨w.heap.size, 1, none⟩ = some (.int .i64 Hn) := by rw [← hwb]; exact gW.keep0 (by simp [go_sem])
    have k2 : wb.cell? ⟨w.heap.size, 2, none⟩ = some (.slice A ps.length c) := by rw [← hwb]; exact gW.keep0 (by simp [go_sem])
    have k3 : wb.cell? ⟨w1.heap.size, 0, none⟩ = some (.int .i64 x1) := by subst hwb; simp [go_sem]
    have k4 : wb.cell? ⟨w1.heap.size, 1, none⟩ = some (.int .i64 y1) := by subst hwb; simp [go_sem]
    have k5 : wb.cell? ⟨w1.heap.size + 1, 0, none⟩ = some (.int .i64 x2) := by subst hwb; simp [go_sem]
    have k6 : wb.cell? ⟨w1.heap.size + 1, 1, none⟩ = some (.int .i64 y2) := by subst hwb; simp [go_sem]
    have k7 : wb.cell? ⟨w.heap.size + 1, 0, none⟩ = some (.int .i64 0) := by rw [← hwb]; exact gW.keep0 (by simp [go_sem])
    have k8 : wb.cell? ⟨w.heap.size + 1, 1, none⟩ = some (.int .i64 0) := by rw [← hwb]; exact gW.keep0 (by simp [go_sem])
    have k9 : wb.frozen? ⟨w.heap.size + 1, 0, none⟩ = false := by rw [← hwb]; exact ((bcell gW.below).2 _ _ (by simp)).trans (by simp [go_sem])
    have k10 : wb.frozen? ⟨w.heap.size + 1, 1, none⟩ = false := by rw [← hwb]; exact ((bcell gW.below).2 _ _ (by simp)).trans (by simp [go_sem])
    have GB : Gr w wb := by rw [← hwb]; exact by repeat (first | exact Gr.refl _ | refine Gr.alloc ?_ _ | refine Gr.trans ?_ (by assumption) | refine Gr.drew ?_ | refine Gr.drewN ?_ _ | refine Gr.grow ?_ _ | refine Gr.setCell ?_ (by (try simp); (try omega)) _)
    have szb : wb.heap.size = w1.heap.size + 1 + 1 := by rw [← hwb]; simp
    have HK := Lib.hid (And.intro k7 (And.intro k8 (And.intro k9 k10)))
    have HG := Lib.hid GB
    rw [hwb]
    clear hwb gW hbW hcW hfW k7 k8 k9 k10 GB hx1 hy1 hx2 hy2
    go_region_held3 (fun W' => W'.cell? ⟨w.heap.size, 0, none⟩ = some (.int .i64 Wn) ∧ W'.cell? ⟨w.heap.size, 1, none⟩ = some (.int .i64 Hn) ∧ W'.cell? ⟨w.heap.size, 2, none⟩ = some (.slice A ps.length c) ∧ W'.cell? ⟨w1.heap.size, 0, none⟩ = some (.int .i64 x1) ∧ W'.cell? ⟨w1.heap.size, 1, none⟩ = some (.int .i64 y1) ∧ W'.cell? ⟨w1.heap.size + 1, 0, none⟩ = some (.int .i64 x2) ∧ W'.cell? ⟨w1.heap.size + 1, 1, none⟩ = some (.int .i64 y2))
      (first | exact ⟨k0, k1, k2, k3, k4, k5, k6⟩ | assumption | (refine seven_k (w := wb) ?_ ⟨k0, k1, k2, k3, k4, k5, k6⟩; (first | exact hB3 | exact Below.alloc hB3 hB3.size _ | exact Below.setCell (Below.setCell hB3 (by simp; omega) _) (by simp; omega) _ | exact Below.drew (Below.refl _ _) | exact Below.drew (Below.alloc (Below.refl _ _) (by simp) _) | exact Below.alloc (Below.drew (Below.refl _ _)) (by simp) _)))
      (first | (go_at_call 40; refine (HR.out _ (Gr.below (show Gr w _ from (HG.out.trans (by repeat (first | exact Gr.refl _ | refine Gr.alloc ?_ _ | refine Gr.trans ?_ (by assumption) | refine Gr.drew ?_ | refine Gr.drewN ?_ _ | refine Gr.grow ?_ _ | refine Gr.setCell ?_ (by (try simp); (try omega)) _)))))).mono ?_; rintro e w3 ⟨b3, n3, D3, rfl, hown3, hM3, hb3⟩; have hlk0 := HO.out _ b3 n3 D3 hown3 hM3 w3 (Gr.refl _); have hlk1 := fun o => HO.out _ b3 n3 D3 hown3 hM3 (w3.alloc o) (Gr.alloc (Gr.refl _) o); have hcA := (bcell hb3).1; have hfA := (bcell hb3).2; have hB3 : Below wb.heap.size wb w3 := Below.trans (by first | exact Below.drew (Below.refl _ _) | exact Below.drew (Below.alloc (Below.refl _ _) (Nat.le_refl _) _) | exact Below.alloc (Below.drew (Below.refl _ _)) (by simp) _) (hb3.mono (by simp)); have hs3 := hb3.size; simp at hs3))
    all_goals
      have q0 := cell_k2 hB3 HK.out.1
      have q1 := cell_k2 hB3 HK.out.2.1
      have q2 := ((bcell hB3).2 (w.heap.size + 1) 0 (by omega)).trans HK.out.2.2.1
      have q3 := ((bcell hB3).2 (w.heap.size + 1) 1 (by omega)).trans HK.out.2.2.2
      have hB4 := Below.trans HG.out.below (hB3.mono HG.out.below.size)
      have hs4 := hB3.size
    iterate 2
      · clear hcA hfA hlk0 hlk1 k0 k1 k2 k3 k4 k5 k6
        have u1 : w.heap.size + 1 < w3.heap.size := by omega
        go_wp2
        refine bodyPost_ret (v := .tuple #[.agg #[.int .i64 vd, .int .i64 vg], .bool vb]) ?_ rfl ⟨rfl, ?_⟩
        · simp [results, Try.results34, go_sem, q0, q1, q2, q3, u1]
        · exact Below.alloc (Below.setCell (Below.setCell hB4 (by simp) _) (by simp) _) (by simp; omega) _
    · have t0 : w3.cell? ⟨w1.heap.size + 1 + 1, 0, none⟩ = some (.int .i64 0) := cell_k2 hb3 (by simp [go_sem, ← szb])
      have t1 : w3.cell? ⟨w1.heap.size + 1 + 1, 1, none⟩ = some (.int .i64 0) := cell_k2 hb3 (by simp [go_sem, ← szb])
      clear hcA hfA hlk0 hlk1 k0 k1 k2 k3 k4 k5 k6
      have u1 : w.heap.size + 1 < w3.heap.size := by omega
      have u2 : ¬ w.heap.size + 1 = w1.heap.size + 1 + 1 := by omega
      have u3 : ¬ w1.heap.size + 1 + 1 = w.heap.size + 1 := by omega
      have g0 := World.cell?_setCell_same _ _ (.int .i64 vd) t0
      have g0' : ((w3.setCell ⟨w1.heap.size + 1 + 1, 0, none⟩ (.int .i64 vd)).setCell ⟨w1.heap.size + 1 + 1, 1, none⟩ (.int .i64 vg)).cell? ⟨w1.heap.size + 1 + 1, 0, none⟩ = some (.int .i64 vd) := by
        rw [World.cell?_setCell_other _ ⟨w1.heap.size + 1 + 1, 1, none⟩ ⟨w1.heap.size + 1 + 1, 0, none⟩ _ (by simp)]; exact g0
      have g1' : ((w3.setCell ⟨w1.heap.size + 1 + 1, 0, none⟩ (.int .i64 vd)).setCell ⟨w1.heap.size + 1 + 1, 1, none⟩ (.int .i64 vg)).cell? ⟨w1.heap.size + 1 + 1, 1, none⟩ = some (.int .i64 vg) := World.cell?_setCell_same _ _ (.int .i64 vg) (by
        rw [World.cell?_setCell_other _ ⟨w1.heap.size + 1 + 1, 0, none⟩ ⟨w1.heap.size + 1 + 1, 1, none⟩ _ (by simp)]; exact t1)
      clear g0
      go_wp2
      refine bodyPost_ret (v := .tuple #[.agg #[.int .i64 vd, .int .i64 vg], .bool vb]) ?_ rfl ⟨rfl, ?_⟩
      · simp [results, Try.results34, go_sem, q0, q1, q2, q3, u1, u2, u3]
      · exact Below.setCell (Below.setCell (Below.setCell (Below.setCell hB4 (by simp; omega) _) (by simp; omega) _) (by simp) _) (by simp) _
end Go.Proofs
