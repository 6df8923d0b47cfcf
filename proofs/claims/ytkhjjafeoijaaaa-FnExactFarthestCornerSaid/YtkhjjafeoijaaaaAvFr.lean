/-
  Chapter 4: the farthest corner, the program (impl.FarthestCorner).
-/
import Derived.Test.YtkhjjafeoijaaaaAvFp
import Derived.Test.YtkhjjafeoijaaaaAvFq
import Derived.Test.YtkhjjafeoijaaaaAvI
namespace Go.Proofs
open Go.RowKit Av Gm Go.Maps
set_option linter.unusedVariables false
set_option linter.unusedSimpArgs false
theorem cell_gb {w w' : World} {row : Option Nat} (d : w.grownBy w' row) {b o : Nat} {v : Value} (h : w.cell? ⟨b, o, none⟩ = some v) (hne : some b ≠ row) : w'.cell? ⟨b, o, none⟩ = some v := by
  have hb := World.block_lt_of_cell? _ _ h
  have e := d.block b hb hne
  unfold World.cell? at *
  simp only at *
  rw [e]
  exact h
theorem Gr.sz {w w' : World} (g : Gr w w') : w.heap.size ≤ w'.heap.size := g.below.size
def S5 (n b : Nat) (W H : Int) (v : Value) (x y : Int) (w : World) : Prop := w.cell? ⟨n, 0, none⟩ = some (.int .i64 W) ∧ w.cell? ⟨n, 1, none⟩ = some (.int .i64 H) ∧ w.cell? ⟨n, 2, none⟩ = some v ∧ w.cell? ⟨b, 0, none⟩ = some (.int .i64 x) ∧ w.cell? ⟨b, 1, none⟩ = some (.int .i64 y)
theorem S5.gr {n b : Nat} {W H : Int} {v : Value} {x y : Int} {w w' : World} (h : S5 n b W H v x y w) (g : Gr w w') : S5 n b W H v x y w' := ⟨g.keep0 h.1, g.keep0 h.2.1, g.keep0 h.2.2.1, g.keep0 h.2.2.2.1, g.keep0 h.2.2.2.2⟩
theorem S5.below {n b : Nat} {W H : Int} {v : Value} {x y : Int} {w w' : World} (h : S5 n b W H v x y w) (g : Below w.heap.size w w') : S5 n b W H v x y w' := ⟨cell_k2 g h.1, cell_k2 g h.2.1, cell_k2 g h.2.2.1, cell_k2 g h.2.2.2.1, cell_k2 g h.2.2.2.2⟩
theorem S5.set {n b m o : Nat} {W H : Int} {v : Value} {x y : Int} {w : World} {u : Value} (h : S5 n b W H v x y w) (h1 : m ≠ n) (h2 : m ≠ b) : S5 n b W H v x y (w.setCell ⟨m, o, none⟩ u) := by
  have e : ∀ k i, m ≠ k → (w.setCell ⟨m, o, none⟩ u).cell? ⟨k, i, none⟩ = w.cell? ⟨k, i, none⟩ := fun k i hk => World.cell?_setCell_other _ _ _ _ (fun q => by injection q with q1; exact hk q1)
  exact ⟨(e _ _ h1).trans h.1, (e _ _ h1).trans h.2.1, (e _ _ h1).trans h.2.2.1, (e _ _ h2).trans h.2.2.2.1, (e _ _ h2).trans h.2.2.2.2⟩
theorem Pr2.new (W : World) : Pr2 (W.alloc (.cells #[.int .i64 0, .int .i64 0] 75)) W.heap.size (0, 0) := ⟨by simp [go_sem], by simp [go_sem], by simp [go_sem], by simp [go_sem]⟩
theorem Pr2.newD (W : World) : Pr2 (W.drew.alloc (.cells #[.int .i64 0, .int .i64 0] 75)) W.heap.size (0, 0) := Pr2.new W.drew
theorem Pr2.drew {W : World} {n : Nat} {p : Int × Int} (h : Pr2 W n p) : Pr2 W.drew n p := h.below (Gr.drew (Gr.refl _)).below (Nat.le_refl _)
theorem Pr2.bel {w w' : World} {n : Nat} {p : Int × Int} (g : Below w.heap.size w w') (h : Pr2 w n p) : Pr2 w' n p := h.below g (Nat.le_refl _)
theorem Fin2 {w V : World} {n : Nat} (h : Pr2 V n (0, 0)) (g : Below w.heap.size w V) (hn : w.heap.size ≤ n) (x y : Int) : ∃ Y, ((V.setCell ⟨n, 0, none⟩ (.int .i64 x)).setCell ⟨n, 1, none⟩ (.int .i64 y)) = Y ∧ Y.cell? ⟨n, 0, none⟩ = some (.int .i64 x) ∧ Y.cell? ⟨n, 1, none⟩ = some (.int .i64 y) ∧ Below w.heap.size w Y := ⟨_, rfl, (h.set x y).1, (h.set x y).2.1, (g.setCell (by exact hn) _).setCell (by exact hn) _⟩
set_option maxHeartbeats 800000 in
theorem Try.cornerListF (w : World) (x y : Int) :
    Calls Try.prog 66 #[.agg #[.int .i64 x, .int .i64 y]] w fun e w' => ∃ v, e = .returned v ∧ OwnT 75 w' w.heap.size v [x, y] ∧ Below w.heap.size w w' := by
  go_enter Try.func66, Try.ntmps66
  go_wp2
  go_ret
  refine ⟨_, rfl, ?_, Gr.below (by repeat (first | exact Gr.refl _ | refine Gr.alloc ?_ _ | refine Gr.trans ?_ (by assumption) | refine Gr.drew ?_ | refine Gr.drewN ?_ _ | refine Gr.grow ?_ _ | refine Gr.setCell ?_ (by (try simp); (try omega)) _))⟩
  refine ⟨rfl, .inr ⟨w.heap.size, 2, #[.int .i64 x, .int .i64 y], rfl, Nat.le_refl _, ?_, Nat.le_refl _, by decide, rfl, rfl⟩⟩
  exact heap_alloc_new _ _
set_option maxRecDepth 100000 in
set_option maxHeartbeats 3200000 in
theorem Try.iFarthestCorner (w : World) (W H : Int) (B : Nat) (a : Value) (ps : List Blk) (Ba : Nat) (la : Value) (xs : List Int) (L : List Int) (D : Int) (b : Bool) (hL : fcL W H ps xs = L) (hD : fcD W H ps xs = D) (hb : fcB W H ps xs = b) (hl : ps.length ≤ 1048576) (h : OwnB w B a ps) (hla : OwnI w Ba la xs) :
    Calls Try.prog 33 #[.agg #[.int .i64 W, .int .i64 H, a], la] w fun e w' => ∃ v, e = .returned (.tuple #[v, .int .i64 D, .bool b]) ∧ OwnT 75 w' w.heap.size v L ∧ Below w.heap.size w w' := by
  have mixed : Try.prog.follows .mixedOrders = true := by kernel_rfl
  obtain ⟨A, c, rfl, h⟩ := OwnE.eta h
  obtain ⟨b1, h1⟩ : ∃ b1, okB W H ps = b1 := ⟨_, rfl⟩
  obtain ⟨b2, h2⟩ : ∃ b1, isC W H xs = b1 := ⟨_, rfl⟩
  have HA := Lib.hid (fun (X : World) (g : Gr w X) => Try.cornerOf X W H B _ ps Ba la xs b1 b2 h1 h2 hl (h.gr g) (hla.gr g))
  have hcb : fcB W H ps xs = (b1 && b2) := by unfold fcB; rw [h1, h2]
  rw [hb] at hcb
  cases hall : (b1 && b2)
  · rw [hall] at hcb
    subst hcb
    obtain ⟨e1, e2⟩ := fc_no hb
    rw [e1] at hL
    rw [e2] at hD
    subst hL hD
    rw [hall] at HA
    unfold coV at HA
    generalize coX false xs = x1 at *
    generalize coY false xs = y1 at *
    clear h hla h1 h2 hall e1 e2 hb
    go_enter Try.func33, Try.ntmps33
    go_wp2_with (first | (go_at_call 63; refine (HA.out _ (by repeat (first | exact Gr.refl _ | refine Gr.alloc ?_ _ | refine Gr.trans ?_ (by assumption) | refine Gr.drew ?_ | refine Gr.drewN ?_ _ | refine Gr.grow ?_ _ | refine Gr.setCell ?_ (by (try simp); (try omega)) _))).mono ?_; rintro e w1 ⟨rfl, hbW⟩; have hcW := (bcell hbW.below).1; have hfW := (bcell hbW.below).2; (try have hzW : w.heap.size < w1.heap.size := by have hq := hbW.below.size; (try simp at hq); omega); (try have hyW : w.heap.size + 1 < w1.heap.size := by have hq := hbW.below.size; (try simp at hq); omega); (try have hxW : w.heap.size + 2 < w1.heap.size := by have hq := hbW.below.size; (try simp at hq); omega)))
    go_ret3
    exact ⟨_, rfl, OwnT.nil2 _ _ _, Gr.below (by repeat (first | exact Gr.refl _ | refine Gr.alloc ?_ _ | refine Gr.trans ?_ (by assumption) | refine Gr.drew ?_ | refine Gr.drewN ?_ _ | refine Gr.grow ?_ _ | refine Gr.setCell ?_ (by (try simp); (try omega)) _))⟩
  · rw [hall] at hcb
    subst hcb
    simp only [Bool.and_eq_true] at hall
    obtain ⟨rfl, rfl⟩ := hall
    obtain ⟨o1, o2, o3, o4, _, _, o7⟩ := of_decide_eq_true h1
    obtain ⟨p1, p2⟩ := isC_vtx h2 ⟨o1, o2⟩ ⟨o3, o4⟩
    unfold coV coX coY at HA
    simp only [Bool.and_self, if_true] at HA
    unfold fcL at hL
    unfold fcD at hD
    rw [hb, if_pos rfl] at hL hD
    unfold fcR vtx at hL hD
    generalize (xs.getD 0 0 * H + xs.getD 1 0).toNat = s0 at *
    obtain ⟨Wn, rfl⟩ : ∃ Wn : Nat, W = Wn := ⟨W.toNat, by omega⟩
    obtain ⟨Hn, rfl⟩ : ∃ Hn : Nat, H = Hn := ⟨H.toNat, by omega⟩
    simp only [Int.toNat_natCast] at *
    subst p2
    simp only [List.getD_cons_zero, List.getD_cons_succ] at HA
    have HR := Lib.hid (fun (X : World) (g : Below w.heap.size w X) => Try.reachedFrom X Wn Hn B _ ps s0 (by omega) (by omega) o7 p1 hl (OwnE.below h g (Nat.le_refl _)))
    obtain ⟨R, hR⟩ : ∃ R, bsF (fin (nbC Wn Hn ps) (Wn * Hn) s0).far (Wn * Hn) = R := ⟨_, rfl⟩
    rw [hR] at hL hD
    subst hL hD
    generalize fin (nbC Wn Hn ps) (Wn * Hn) s0 = st at *
    have HFT := Lib.hid (fun (X : World) (bm nm : Nat) (Dm : DataW Unit) (hown : X.ownsMap Try.prog 75 rElem bm nm Dm) (hM : MapIs Hn (Wn * Hn) Dm st) => Try.farthest X Wn Hn A ps.length c (by omega) (by omega) bm nm Dm st hown hM R hR)
    obtain ⟨r1, r2⟩ := R
    simp only at HFT ⊢
    have HLS := Lib.hid (fun (X : World) => Try.cornerListF X (crn Hn r1).1 (crn Hn r1).2)
    clear h hla h1 h2 hb p1 o1 o2 o3 o4 hR
    obtain ⟨x1, hx1⟩ : ∃ x, (crn Hn s0).1 = x := ⟨_, rfl⟩
    obtain ⟨y1, hy1⟩ : ∃ x, (crn Hn s0).2 = x := ⟨_, rfl⟩
    obtain ⟨x2, hx2⟩ : ∃ x, (crn Hn r1).1 = x := ⟨_, rfl⟩
    obtain ⟨y2, hy2⟩ : ∃ x, (crn Hn r1).2 = x := ⟨_, rfl⟩
    simp only [hx1, hy1, hx2, hy2] at HA HR HFT HLS ⊢
    clear hx1 hy1 hx2 hy2
    go_enter Try.func33, Try.ntmps33
    go_wp2_with (first | (go_at_call 63; refine (HA.out _ (by repeat (first | exact Gr.refl _ | refine Gr.alloc ?_ _ | refine Gr.trans ?_ (by assumption) | refine Gr.drew ?_ | refine Gr.drewN ?_ _ | refine Gr.grow ?_ _ | refine Gr.setCell ?_ (by (try simp); (try omega)) _))).mono ?_; rintro e w1 ⟨rfl, hbW⟩; have hcW := (bcell hbW.below).1; have hfW := (bcell hbW.below).2; (try have hzW : w.heap.size < w1.heap.size := by have hq := hbW.below.size; (try simp at hq); omega); (try have hyW : w.heap.size + 1 < w1.heap.size := by have hq := hbW.below.size; (try simp at hq); omega); (try have hxW : w.heap.size + 2 < w1.heap.size := by have hq := hbW.below.size; (try simp at hq); omega)))
    obtain ⟨X, hX⟩ : ∃ X, w1.alloc (.cells #[.int .i64 x1, .int .i64 y1] 75) = X := ⟨_, rfl⟩
    have HGX := Lib.hid (show Gr w X by rw [← hX]; exact by repeat (first | exact Gr.refl _ | refine Gr.alloc ?_ _ | refine Gr.trans ?_ (by assumption) | refine Gr.drew ?_ | refine Gr.drewN ?_ _ | refine Gr.grow ?_ _ | refine Gr.setCell ?_ (by (try simp); (try omega)) _))
    have HSX := Lib.hid (show X.heap.size = w1.heap.size + 1 by rw [← hX]; simp)
    have HW1 := Lib.hid (show w.heap.size < w1.heap.size by have hq := hbW.below.size; simp at hq; omega)
    have s0 : X.cell? ⟨w.heap.size, 0, none⟩ = some (.int .i64 Wn) := by rw [← hX]; exact Gr.keep0 (show Gr (w.alloc (.cells #[.int .i64 Wn, .int .i64 Hn, .slice A ps.length c] 42)) _ from (by repeat (first | exact Gr.refl _ | refine Gr.alloc ?_ _ | refine Gr.trans ?_ (by assumption) | refine Gr.drew ?_ | refine Gr.drewN ?_ _ | refine Gr.grow ?_ _ | refine Gr.setCell ?_ (by (try simp); (try omega)) _))) (by simp [go_sem])
    have s1 : X.cell? ⟨w.heap.size, 1, none⟩ = some (.int .i64 Hn) := by rw [← hX]; exact Gr.keep0 (show Gr (w.alloc (.cells #[.int .i64 Wn, .int .i64 Hn, .slice A ps.length c] 42)) _ from (by repeat (first | exact Gr.refl _ | refine Gr.alloc ?_ _ | refine Gr.trans ?_ (by assumption) | refine Gr.drew ?_ | refine Gr.drewN ?_ _ | refine Gr.grow ?_ _ | refine Gr.setCell ?_ (by (try simp); (try omega)) _))) (by simp [go_sem])
    have s2 : X.cell? ⟨w.heap.size, 2, none⟩ = some (.slice A ps.length c) := by rw [← hX]; exact Gr.keep0 (show Gr (w.alloc (.cells #[.int .i64 Wn, .int .i64 Hn, .slice A ps.length c] 42)) _ from (by repeat (first | exact Gr.refl _ | refine Gr.alloc ?_ _ | refine Gr.trans ?_ (by assumption) | refine Gr.drew ?_ | refine Gr.drewN ?_ _ | refine Gr.grow ?_ _ | refine Gr.setCell ?_ (by (try simp); (try omega)) _))) (by simp [go_sem])
    have s3 : X.cell? ⟨w1.heap.size, 0, none⟩ = some (.int .i64 x1) := by rw [← hX]; simp [go_sem]
    have s4 : X.cell? ⟨w1.heap.size, 1, none⟩ = some (.int .i64 y1) := by rw [← hX]; simp [go_sem]
    simp only [hX]
    clear hX hbW hcW hfW
    have hS : S5 w.heap.size w1.heap.size Wn Hn (.slice A ps.length c) x1 y1 X := ⟨s0, s1, s2, s3, s4⟩
    clear s0 s1 s2 s3 s4
    have hBX : Below w.heap.size w X := HGX.out.below
    obtain ⟨b7, hb7⟩ : ∃ b, w1.heap.size = b := ⟨_, rfl⟩
    rw [hb7] at HSX HW1 hS
    simp only [hb7]
    clear hb7
    have h7 : b7 < X.heap.size := by have := HSX.out; omega
    have h70 := HW1.out
    go_region_held3 (fun W' => W'.cell? ⟨w.heap.size, 0, none⟩ = some (.int .i64 Wn) ∧ W'.cell? ⟨w.heap.size, 1, none⟩ = some (.int .i64 Hn) ∧ W'.cell? ⟨w.heap.size, 2, none⟩ = some (.slice A ps.length c) ∧ W'.cell? ⟨b7, 0, none⟩ = some (.int .i64 x1) ∧ W'.cell? ⟨b7, 1, none⟩ = some (.int .i64 y1))
      (repeat' (first | assumption | (refine S5.gr ?_ (Gr.alloc (Gr.refl _) _)) | (refine S5.gr ?_ (Gr.drew (Gr.refl _))) | (refine S5.set ?_ ?_ ?_) | (refine S5.below ?_ (by assumption)) | (simp; omega; done) | omega))
      ((first | (go_at_call 65; refine (HR.out _ (by repeat (first | exact hBX | refine Below.drew ?_ | refine Below.alloc ?_ (by have := hBX.size; (try simp); omega) _))).mono ?_; rintro e w3 ⟨bm, nm, Dm, rfl, hown, hM, hb3⟩; (have hs3 : X.heap.size ≤ w3.heap.size := by (have hq := hb3.size; (try simp at hq); omega)); (first | (with_reducible have hz3 := Pr2.bel hb3 (Pr2.newD X)) | (with_reducible have hz3 := Pr2.bel hb3 (Pr2.drew (Pr2.new X))) | skip)) | (go_at_call 64; refine (HFT.out _ _ _ _ (by first | exact hown | exact ownsMap_gr' hown (Gr.alloc (Gr.refl _) _)) hM).mono ?_; rintro e w4 ⟨rfl, hb4⟩; (have hs4 : w3.heap.size ≤ w4.heap.size := by (have hq := hb4.size; (try simp at hq); omega)); (first | ((with_reducible have hz4 := Pr2.bel hb4 hz3); obtain ⟨z1, z2, z3, z4⟩ := hz4) | ((with_reducible have hz4 := Pr2.bel hb4 (Pr2.new w3)); obtain ⟨z1, z2, z3, z4⟩ := hz4) | skip))))
    · have hB3 : Below w.heap.size w w3 := (Below.drew hBX).trans (hb3.mono (show w.heap.size ≤ X.heap.size from hBX.size))
      have hB4 : Below w.heap.size w w4 := hB3.trans (hb4.mono hB3.size)
      obtain ⟨Y, hY, q1, q2, hBY⟩ : ∃ Y, w4.alloc (.cells #[.int .i64 x2, .int .i64 y2] 75) = Y ∧ Y.cell? ⟨w4.heap.size, 0, none⟩ = some (.int .i64 x2) ∧ Y.cell? ⟨w4.heap.size, 1, none⟩ = some (.int .i64 y2) ∧ Below w.heap.size w Y := ⟨_, rfl, by simp [go_sem], by simp [go_sem], hB4.alloc hB4.size _⟩
      simp only [hY]
      clear hY
      go_wp2_with (first | (go_at_call 66; refine (HLS.out _).mono ?_; rintro e w5 ⟨v5, rfl, hv5, hb5⟩))
      go_ret3
      exact ⟨_, rfl, hv5.mono hBY.size, hBY.trans (hb5.mono hBY.size)⟩
    · have hB3 : Below w.heap.size w w3 := (Below.drew hBX).trans (hb3.mono (show w.heap.size ≤ X.heap.size from hBX.size))
      have hB3' : Below w.heap.size w (w3.alloc (.cells #[.int .i64 0, .int .i64 0] 75)) := hB3.alloc hB3.size _
      have hBV : Below w.heap.size w w4 := hB3'.trans (hb4.mono hB3'.size)
      have hV : Pr2 w4 w3.heap.size (0, 0) := ⟨z1, z2, z3, z4⟩
      obtain ⟨Y, hY, q1, q2, hBY⟩ := Fin2 hV hBV (by have := hBX.size; omega) x2 y2
      simp only [hY]
      clear hY
      go_wp2_with (first | (go_at_call 66; refine (HLS.out _).mono ?_; rintro e w5 ⟨v5, rfl, hv5, hb5⟩))
      go_ret3
      exact ⟨_, rfl, hv5.mono hBY.size, hBY.trans (hb5.mono hBY.size)⟩
    · have hB0 : Below w.heap.size w (X.alloc (.cells #[.int .i64 0, .int .i64 0] 75)) := hBX.alloc hBX.size _
      have hB3 : Below w.heap.size w w3 := (Below.drew hB0).trans (hb3.mono (show w.heap.size ≤ (X.alloc (.cells #[.int .i64 0, .int .i64 0] 75)).heap.size from hB0.size))
      have hBV : Below w.heap.size w w4 := hB3.trans (hb4.mono hB3.size)
      have hV : Pr2 w4 X.heap.size (0, 0) := ⟨z1, z2, z3, z4⟩
      obtain ⟨Y, hY, q1, q2, hBY⟩ := Fin2 hV hBV (by have := hBX.size; omega) x2 y2
      simp only [hY]
      clear hY
      go_wp2_with (first | (go_at_call 66; refine (HLS.out _).mono ?_; rintro e w5 ⟨v5, rfl, hv5, hb5⟩))
      go_ret3
      exact ⟨_, rfl, hv5.mono hBY.size, hBY.trans (hb5.mono hBY.size)⟩
end Go.Proofs
