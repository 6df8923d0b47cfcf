/-
  Chapter 6: the longest drive, the program (impl.LongestDrive).
-/
import Derived.Test.YtmklniikhdfaiaaDoorLgN
import Derived.Deep.RegionHeld3
namespace Go.Proofs
open Go.RowKit Av Gm Go.Maps
set_option linter.unusedVariables false
set_option linter.unusedSimpArgs false
def S4 (n b : Nat) (s a : ByteArray) (x y : Int) (w : World) : Prop := w.cell? ⟨n, 0, none⟩ = some (.string s) ∧ w.cell? ⟨n, 1, none⟩ = some (.string a) ∧ w.cell? ⟨b, 0, none⟩ = some (.int .i64 x) ∧ w.cell? ⟨b, 1, none⟩ = some (.int .i64 y)
theorem S4.gr {n b : Nat} {s a : ByteArray} {x y : Int} {w w' : World} (h : S4 n b s a x y w) (g : Gr w w') : S4 n b s a x y w' := ⟨g.keep0 h.1, g.keep0 h.2.1, g.keep0 h.2.2.1, g.keep0 h.2.2.2⟩
theorem S4.below {n b : Nat} {s a : ByteArray} {x y : Int} {w w' : World} (h : S4 n b s a x y w) (g : Below w.heap.size w w') : S4 n b s a x y w' := ⟨cell_k2 g h.1, cell_k2 g h.2.1, cell_k2 g h.2.2.1, cell_k2 g h.2.2.2⟩
theorem S4.set {n b m o : Nat} {s a : ByteArray} {x y : Int} {w : World} {u : Value} (h : S4 n b s a x y w) (h1 : m ≠ n) (h2 : m ≠ b) : S4 n b s a x y (w.setCell ⟨m, o, none⟩ u) := by
  have e : ∀ k i, m ≠ k → (w.setCell ⟨m, o, none⟩ u).cell? ⟨k, i, none⟩ = w.cell? ⟨k, i, none⟩ := fun k i hk => World.cell?_setCell_other _ _ _ _ (fun q => by injection q with q1; exact hk q1)
  exact ⟨(e _ _ h1).trans h.1, (e _ _ h1).trans h.2.1, (e _ _ h2).trans h.2.2.1, (e _ _ h2).trans h.2.2.2⟩
theorem Pr2.new (W : World) : Pr2 (W.alloc (.cells #[.int .i64 0, .int .i64 0] 48)) W.heap.size (0, 0) := ⟨by simp [go_sem], by simp [go_sem], by simp [go_sem], by simp [go_sem]⟩
theorem Pr2.newD (W : World) : Pr2 (W.drew.alloc (.cells #[.int .i64 0, .int .i64 0] 48)) W.heap.size (0, 0) := Pr2.new W.drew
theorem Pr2.drew {W : World} {n : Nat} {p : Int × Int} (h : Pr2 W n p) : Pr2 W.drew n p := h.below (Gr.drew (Gr.refl _)).below (Nat.le_refl _)
theorem Pr2.bel {w w' : World} {n : Nat} {p : Int × Int} (g : Below w.heap.size w w') (h : Pr2 w n p) : Pr2 w' n p := h.below g (Nat.le_refl _)
set_option maxHeartbeats 800000 in
theorem Tryd.cornerListF (w : World) (x y : Int) :
    Calls Tryd.prog 23 #[.agg #[.int .i64 x, .int .i64 y]] w fun e w' => ∃ v, e = .returned v ∧ OwnT 48 w' w.heap.size v [x, y] ∧ Below w.heap.size w w' := by
  go_enter Tryd.func23, Tryd.ntmps23
  go_wp2
  go_ret
  refine ⟨_, rfl, ?_, Gr.below (by repeat (first | exact Gr.refl _ | refine Gr.alloc ?_ _ | refine Gr.trans ?_ (by assumption) | refine Gr.drew ?_ | refine Gr.drewN ?_ _ | refine Gr.grow ?_ _ | refine Gr.setCell ?_ (by (try simp); (try omega)) _))⟩
  refine ⟨rfl, .inr ⟨w.heap.size, 2, #[.int .i64 x, .int .i64 y], rfl, Nat.le_refl _, ?_, Nat.le_refl _, by decide, rfl, rfl⟩⟩
  exact heap_alloc_new _ _
/-- the two lists behind i corners: none, or those of two corners in two blocks -/
def LgL (Hn B : Nat) (P : Nat × Nat × Int) (i : Nat) (fv tv : Value) (wr : World) : Prop :=
  (i = 0 ∧ fv = .slice none 0 0 ∧ tv = .slice none 0 0) ∨ (0 < i ∧ OwnT 48 wr B fv [(crn Hn P.1).1, (crn Hn P.1).2] ∧ OwnT 48 wr B tv [(crn Hn P.2.1).1, (crn Hn P.2.1).2] ∧ fv.ownBlock ≠ tv.ownBlock)
def T4 (b n : Nat) (x y x' y' : Int) (w : World) : Prop := w.cell? ⟨b, 0, none⟩ = some (.int .i64 x) ∧ w.cell? ⟨b, 1, none⟩ = some (.int .i64 y) ∧ w.cell? ⟨n, 0, none⟩ = some (.int .i64 x') ∧ w.cell? ⟨n, 1, none⟩ = some (.int .i64 y')
theorem T4.gr {b n : Nat} {x y x' y' : Int} {w w' : World} (h : T4 b n x y x' y' w) (g : Gr w w') : T4 b n x y x' y' w' := ⟨g.keep0 h.1, g.keep0 h.2.1, g.keep0 h.2.2.1, g.keep0 h.2.2.2⟩
theorem T4.below {b n : Nat} {x y x' y' : Int} {w w' : World} (h : T4 b n x y x' y' w) (g : Below w.heap.size w w') : T4 b n x y x' y' w' := ⟨cell_k2 g h.1, cell_k2 g h.2.1, cell_k2 g h.2.2.1, cell_k2 g h.2.2.2⟩
theorem ownT_ne {T : TypeId} {w w' : World} {B B' : Nat} {v v' : Value} {x y x' y' : Int} (h : OwnT T w B v [x, y]) (h' : OwnT T w' B' v' [x', y']) (hB : w.heap.size ≤ B') : v.ownBlock ≠ v'.ownBlock := by
  have l := OwnT.lt h
  rcases h.2 with ⟨_, hn⟩ | ⟨g, cap, cur, rfl, hg, _⟩
  · simp at hn
  · rcases h'.2 with ⟨_, hn⟩ | ⟨g', cap', cur', rfl, hg', _⟩
    · simp at hn
    · have := l g (by simp [Value.ownBlock])
      intro e
      simp [Value.ownBlock] at e
      omega
/-- neither lies in the other one's block -/
def NEb (v v' : Value) : Prop := (v.ownBlock = none ∨ v.ownBlock ≠ v'.ownBlock) ∧ (v'.ownBlock = none ∨ v'.ownBlock ≠ v.ownBlock)
def LgI (R : Nat → Nat × Int) (Hn N : Nat) (w V1 : World) (fv tv mv iv : Value) (wr : World) : Prop :=
  ∃ i : Nat, iv = .int .i64 i ∧ i ≤ N ∧ mv = .int .i64 (outF R 0 i).2.2 ∧ LgL Hn w.heap.size (outF R 0 i) i fv tv wr ∧ Below V1.heap.size V1 wr
set_option maxRecDepth 100000 in
set_option maxHeartbeats 3200000 in
theorem Tryd.iLongestDrive (w : World) (s a : ByteArray) (hs : s.size ≤ 1048576) (ha : a.size ≤ 1048576) (b : Bool) (hb : whW s a = b) :
    Calls Tryd.prog 8 #[.agg #[.string s, .string a]] w fun e w' => ∃ v1 v2, e = .returned (.tuple #[v1, v2, .int .i64 (lgD s a), .bool b]) ∧ OwnT 48 w' w.heap.size v1 (lgA s a) ∧ OwnT 48 w' w.heap.size v2 (lgB s a) ∧ NEb v1 v2 ∧ Below w.heap.size w w' := by
  have mixed : Tryd.prog.follows .mixedOrders = true := by kernel_rfl
  obtain ⟨b1, h1⟩ : ∃ b1, okW s a = b1 := ⟨_, rfl⟩
  have H1 := Lib.hid (fun (W : World) => Tryd.iIsWholeWays W s a hs ha b1 b h1 hb)
  cases b
  · obtain ⟨e1, e2, e3⟩ := lg_no hb
    rw [e1, e2, e3]
    clear hs ha hb h1 e1 e2 e3
    have HGX := Lib.hid (show Gr w (w.alloc (.cells #[.string s, .string a] 28)) from by repeat (first | exact Gr.refl _ | refine Gr.alloc ?_ _ | refine Gr.trans ?_ (by assumption) | refine Gr.drew ?_ | refine Gr.drewN ?_ _ | refine Gr.grow ?_ _ | refine Gr.setCell ?_ (by (try simp); (try omega)) _))
    cases b1
    · go_enter Tryd.func8, Tryd.ntmps8
      go_wp2_with (first | (go_at_call 18; refine (H1.out _).mono ?_; rintro e w1 ⟨rfl, hb1⟩))
      refine bodyPost_ret (results_tmp4 rfl _ _ _) rfl ?_
      have hbE := HGX.out.below.trans (hb1.mono HGX.out.below.size)
      first
        | exact ⟨_, _, rfl, OwnT.nil2 _ _ _, OwnT.nil2 _ _ _, ⟨.inl rfl, .inl rfl⟩, hbE⟩
        | exact ⟨_, _, rfl, OwnT.nil2 _ _ _, OwnT.nil2 _ _ _, hbE⟩
    · go_enter Tryd.func8, Tryd.ntmps8
      go_wp2_with (first | (go_at_call 18; refine (H1.out _).mono ?_; rintro e w1 ⟨rfl, hb1⟩))
      refine bodyPost_ret (results_tmp4 rfl _ _ _) rfl ?_
      have hbE := HGX.out.below.trans (hb1.mono HGX.out.below.size)
      first
        | exact ⟨_, _, rfl, OwnT.nil2 _ _ _, OwnT.nil2 _ _ _, ⟨.inl rfl, .inl rfl⟩, hbE⟩
        | exact ⟨_, _, rfl, OwnT.nil2 _ _ _, OwnT.nil2 _ _ _, hbE⟩
  · have e1 : b1 = true := by
      cases b1
      · unfold whW at hb; rw [h1] at hb; cases hb
      · rfl
    subst e1
    obtain ⟨k1, k2⟩ := okW_and h1
    have l1 := okT_len k1
    have l2 := okT_len k2
    have hp : 0 < a.size * s.size := Nat.mul_pos (Nat.lt_of_lt_of_le (by decide) l2.1) (Nat.lt_of_lt_of_le (by decide) l1.1)
    have hNB : a.size * s.size ≤ 64 := Nat.mul_le_mul l2.2 l1.2
    have HR0 := Lib.hid (lg_pos hb)
    have HSM := Lib.hid (lg_same hb hp)
    have eA : lgA s a = [(crn s.size (lgS s a).1).1, (crn s.size (lgS s a).1).2] := by unfold lgA; rw [hb]; rfl
    have eB : lgB s a = [(crn s.size (lgS s a).2.1).1, (crn s.size (lgS s a).2.1).2] := by unfold lgB; rw [hb]; rfl
    have eD : lgD s a = (lgS s a).2.2 := by unfold lgD; rw [hb]; rfl
    rw [eA, eB, eD]
    have HY := Lib.hid (fun (X : World) => Tryd.city X s a)
    have HCS := Lib.hid (fun (X : World) => Tryd.corners X a.size s.size none 0 0 (by omega) (by omega))
    have HD := Lib.hid (fun (X : World) (i : Nat) (hi : i < a.size * s.size) => Tryd.drivenFrom X s a k1 k2 i hi)
    have HFT := Lib.hid (fun (X : World) (i : Nat) (hi : i < a.size * s.size) (bm nm : Nat) (Dm : DataW Unit) (hown : X.ownsMap Tryd.prog 48 rElem bm nm Dm) (hM : MapIs s.size (a.size * s.size) Dm (fin (nbL (lsW s a 1)) (a.size * s.size) i)) => Tryd.farthest X a.size s.size none 0 0 (by omega) (by omega) bm nm Dm _ hown hM (lgR s a i) (by unfold lgR; rw [far_list hi]))
    have HLS := Lib.hid (fun (X : World) (x y : Int) => Tryd.cornerListF X x y)
    have HLT := Lib.hid (outF_lt (lgR s a) 0 (a.size * s.size) (fun i hi => bsF_lt _ _ hp) hp)
    have HRl := Lib.hid (show ∀ i, (lgR s a i).1 < a.size * s.size from fun i => bsF_lt _ _ hp)
    generalize lgS s a = S at *
    generalize lgR s a = R at *
    clear hb h1 k1 k2 eA eB eD hs ha
    obtain ⟨W0, hW0⟩ : ∃ W0, w.alloc (.cells #[.string s, .string a] 28) = W0 := ⟨_, rfl⟩
    have HG0 := Lib.hid (show Gr w W0 by subst hW0; exact by repeat (first | exact Gr.refl _ | refine Gr.alloc ?_ _ | refine Gr.trans ?_ (by assumption) | refine Gr.drew ?_ | refine Gr.drewN ?_ _ | refine Gr.grow ?_ _ | refine Gr.setCell ?_ (by (try simp); (try omega)) _))
    have c0 : W0.cell? ⟨w.heap.size, 0, none⟩ = some (.string s) := by subst hW0; simp [go_sem]
    have c1 : W0.cell? ⟨w.heap.size, 1, none⟩ = some (.string a) := by subst hW0; simp [go_sem]
    go_enter Tryd.func8, Tryd.ntmps8
    go_wp2_with fail
    refine (H1.out _).mono ?_
    rintro e w1 ⟨rfl, hb1⟩
    have d0 := cell_k2 hb1 c0
    have d1 := cell_k2 hb1 c1
    have HB1 := Lib.hid (HG0.out.below.trans (hb1.mono HG0.out.below.size))
    clear c0 c1 hW0 hb1
    go_wp2_with (first | (go_at_call 19; refine (HY.out _).mono ?_; rintro e w2 ⟨rfl, g2⟩))
    refine (HCS.out _).mono ?_
    rintro e V1 ⟨v, rfl, ov, bv⟩
    obtain ⟨A1, cc1, rfl, ov⟩ := OwnE.eta ov
    simp only [List.length_range] at ov ⊢
    have c0 := cell_k2 bv (g2.keep0 d0)
    have c1 := cell_k2 bv (g2.keep0 d1)
    have HBV := Lib.hid (HB1.out.trans ((g2.below.trans (bv.mono g2.below.size)).mono HB1.out.size))
    have HOV := Lib.hid ov
    have HC := Lib.hid (And.intro c0 c1)
    clear d0 d1 g2 bv ov c0 c1
    generalize hNN : a.size * s.size = N at *
    have HNN := Lib.hid hNN
    clear hNN
    go_wp2_with fail
    go_loopw [8, 9, 10, 30] (fun fv tv mv iv wr => LgI R s.size N w V1 fv tv mv iv wr) (fun _ _ _ i _ => N - (intOf i).toNat)
    case atStart => exact ⟨0, rfl, Nat.zero_le _, rfl, .inl ⟨rfl, rfl, rfl⟩, Below.refl _ _⟩
    case round =>
      obtain ⟨i, rfl, hi, rfl, hL, hbr⟩ := hrel
      by_cases hlt : i < N
      · have e0 := cell_k2 hbr HC.out.1
        have e1 := cell_k2 hbr HC.out.2
        have HBR := Lib.hid hbr
        have HOL := Lib.hid (OwnE.below HOV.out hbr (Nat.le_refl _))
        have z0 : (0 : Int) ≤ (i : Int) := by omega
        have z1 : (i : Int) < (N : Int) := by omega
        rcases HOL.out.view (ccs_len s.size) 0 with ⟨hx, _⟩ | ⟨_, gl, cl, hvl, _, gl2, hcl1, hcl2, hcell, _⟩
        · have : (List.range N).length = 0 := by rw [hx]; rfl
          simp at this; omega
        have hkr : (List.range N).getD i 0 = i := by simp [List.getD, hlt]
        have r0 := hcell i 0 (by simpa using hlt) (by decide)
        have r1 := hcell i 1 (by simpa using hlt) (by decide)
        rw [hkr] at r0 r1
        change _ = some (Value.int .i64 (crn s.size i).1) at r0
        change _ = some (Value.int .i64 (crn s.size i).2) at r1
        rw [Nat.add_zero] at r0
        simp only [List.length_range, Value.slice.injEq] at hvl
        obtain ⟨rfl, -, rfl⟩ := hvl
        have HDi := Lib.hid (fun X => HD.out X i hlt)
        have HFi := Lib.hid (fun X => HFT.out X i hlt)
        have hst : outF R 0 (i + 1) = if (outF R 0 i).2.2 < (R i).2 then (i, (R i).1, (R i).2) else outF R 0 i := rfl
        have HST := Lib.hid hst
        have HL := Lib.hid hL
        have HP0 := Lib.hid (show i = 0 → (outF R 0 i).2.2 < (R i).2 from fun e => by subst e; exact HR0.out)
        clear hst hL hcell hbr
        generalize fin (nbL (lsW s a 1)) N i = st at *
        generalize outF R 0 i = P at *
        generalize hRi : R i = Ri at *
        have HRi := Lib.hid hRi
        clear hRi
        obtain ⟨rq, rd⟩ := Ri
        obtain ⟨p1, p2, p3⟩ := P
        simp only at HST HFi HP0 ⊢
        obtain ⟨x1, hx1⟩ : ∃ x, (crn s.size i).1 = x := ⟨_, rfl⟩
        obtain ⟨y1, hy1⟩ : ∃ x, (crn s.size i).2 = x := ⟨_, rfl⟩
        obtain ⟨x2, hx2⟩ : ∃ x, (crn s.size rq).1 = x := ⟨_, rfl⟩
        obtain ⟨y2, hy2⟩ : ∃ x, (crn s.size rq).2 = x := ⟨_, rfl⟩
        rw [hx1] at r0
        rw [hy1] at r1
        simp only [hx1, hy1] at HDi
        simp only [hx2, hy2] at HFi
        have HXX := Lib.hid (And.intro hx1 (And.intro hy1 (And.intro hx2 hy2)))
        clear hx1 hy1 hx2 hy2
        go_wp2_with fail
        obtain ⟨X, hX⟩ : ∃ X, wr.alloc (.cells #[.int .i64 x1, .int .i64 y1] 48) = X := ⟨_, rfl⟩
        have HGX := Lib.hid (show Gr wr X by rw [← hX]; exact by repeat (first | exact Gr.refl _ | refine Gr.alloc ?_ _ | refine Gr.trans ?_ (by assumption) | refine Gr.drew ?_ | refine Gr.drewN ?_ _ | refine Gr.grow ?_ _ | refine Gr.setCell ?_ (by (try simp); (try omega)) _))
        have HSX := Lib.hid (show X.heap.size = wr.heap.size + 1 by rw [← hX]; simp)
        have hS : S4 w.heap.size wr.heap.size s a x1 y1 X := by
          subst hX
          exact ⟨Gr.keep0 (Gr.alloc (Gr.refl _) _) e0, Gr.keep0 (Gr.alloc (Gr.refl _) _) e1, by simp [go_sem], by simp [go_sem]⟩
        have HWR := Lib.hid (World.block_lt_of_cell? _ _ e0)
        simp only [hX]
        clear hX r0 r1 e0 e1
        have hBX : Below wr.heap.size wr X := HGX.out.below
        obtain ⟨b7, hb7⟩ : ∃ b, wr.heap.size = b := ⟨_, rfl⟩
        rw [hb7] at HSX HWR hS hBX
        simp only [hb7]
        have HB7 := Lib.hid hb7
        clear hb7
        have h7 : b7 < X.heap.size := by have := HSX.out; omega
        have h70 : w.heap.size < b7 := HWR.out
        go_region_held3 (fun W' => W'.cell? ⟨w.heap.size, 0, none⟩ = some (.string s) ∧ W'.cell? ⟨w.heap.size, 1, none⟩ = some (.string a) ∧ W'.cell? ⟨b7, 0, none⟩ = some (.int .i64 x1) ∧ W'.cell? ⟨b7, 1, none⟩ = some (.int .i64 y1))
          (repeat' (first | assumption | (refine S4.gr ?_ (Gr.alloc (Gr.refl _) _)) | (refine S4.gr ?_ (Gr.drew (Gr.refl _))) | (refine S4.set ?_ ?_ ?_) | (refine S4.below ?_ (by assumption)) | (simp; omega; done) | omega))
          ((first | (go_at_call 19; refine (HY.out _).mono ?_; rintro e w3 ⟨rfl, g3⟩; have hb3 := g3.below; (have hs3 : X.heap.size ≤ w3.heap.size := by (have hq := hb3.size; (try simp at hq); omega)); (first | (with_reducible have hz3 := Pr2.bel hb3 (Pr2.newD X)) | (with_reducible have hz3 := Pr2.bel hb3 (Pr2.drew (Pr2.new X))) | skip)) | (go_at_call 22; refine (HDi.out _).mono ?_; rintro e w4 ⟨bm, nm, Dm, rfl, hown, hM, hb4⟩; (have hs4 : w3.heap.size ≤ w4.heap.size := by (have hq := hb4.size; (try simp at hq); omega)); (first | (with_reducible have hz4 := Pr2.bel hb4 hz3) | (with_reducible have hz4 := Pr2.bel hb4 (Pr2.new w3)) | skip)) | (go_at_call 21; refine (HFi.out _ _ _ _ (by first | exact hown | exact ownsMap_gr' hown (Gr.alloc (Gr.refl _) _)) hM).mono ?_; rintro e w5 ⟨rfl, hb5⟩; (have hs5 : w4.heap.size ≤ w5.heap.size := by (have hq := hb5.size; (try simp at hq); omega)); (first | ((with_reducible have hz5 := Pr2.bel hb5 hz4); obtain ⟨z1, z2, z3, z4⟩ := hz5) | ((with_reducible have hz5 := Pr2.bel hb5 (Pr2.new w4)); obtain ⟨z1, z2, z3, z4⟩ := hz5) | skip))))
        · have hX7 := HSX.out
          have hB3 : Below b7 wr w3 := (Below.drew hBX).trans (hb3.mono (show b7 ≤ X.heap.size by omega))
          have hB4 : Below b7 wr w4 := hB3.trans (hb4.mono (by omega))
          have hB5 : Below b7 wr w5 := hB4.trans (hb5.mono (by omega))
          have hS5 : S4 w.heap.size b7 s a x1 y1 w5 := by repeat' (first | assumption | (refine S4.below ?_ (by assumption)) | (refine S4.gr ?_ (Gr.alloc (Gr.refl _) _)) | (refine S4.gr ?_ (Gr.drew (Gr.refl _))))
          obtain ⟨Y, hY, hSY, q1, q2, hBY⟩ : ∃ Y, w5.alloc (.cells #[.int .i64 x2, .int .i64 y2] 48) = Y ∧ S4 w.heap.size b7 s a x1 y1 Y ∧ Y.cell? ⟨w5.heap.size, 0, none⟩ = some (.int .i64 x2) ∧ Y.cell? ⟨w5.heap.size, 1, none⟩ = some (.int .i64 y2) ∧ Below b7 wr Y := ⟨_, rfl, S4.gr hS5 (Gr.alloc (Gr.refl _) _), by simp [go_sem], by simp [go_sem], hB5.alloc (by omega) _⟩
          simp only [hY]
          clear hY
          obtain ⟨nb, hnb⟩ : ∃ n, w5.heap.size = n := ⟨_, rfl⟩
          rw [hnb] at q1 q2
          simp only [hnb]
          clear hnb hS5 hB5
          have HBY := Lib.hid hBY
          clear hBY
          by_cases hgt : p3 < rd
          · have hst := HST.out
            rw [if_pos hgt] at hst
            have HS2 := Lib.hid hst
            clear hst
            have hT : T4 b7 nb x1 y1 x2 y2 Y := ⟨hSY.2.2.1, hSY.2.2.2, q1, q2⟩
            clear hSY q1 q2
            obtain ⟨k0, k1, k2, k3⟩ := id hT
            go_wp2_with fail
            go_region_held3 (fun W' => W'.cell? ⟨b7, 0, none⟩ = some (.int .i64 x1) ∧ W'.cell? ⟨b7, 1, none⟩ = some (.int .i64 y1) ∧ W'.cell? ⟨nb, 0, none⟩ = some (.int .i64 x2) ∧ W'.cell? ⟨nb, 1, none⟩ = some (.int .i64 y2))
              (repeat' (first | assumption | (refine T4.gr ?_ (Gr.drew (Gr.refl _))) | (refine T4.below ?_ (by assumption))))
              ((first | (go_at_call_of 23 (Value.agg #[.int .i64 x1, .int .i64 y1]); refine (HLS.out _ _ _).mono ?_; rintro e w6 ⟨v6, rfl, hv6, hb6⟩) | (go_at_call_of 23 (Value.agg #[.int .i64 x2, .int .i64 y2]); refine (HLS.out _ _ _).mono ?_; rintro e w7 ⟨v7, rfl, hv7, hb7⟩)))
            all_goals
              have hs6 : Y.heap.size ≤ w6.heap.size := hb6.size
              have hs7 : w6.heap.size ≤ w7.heap.size := hb7.size
              have hbY6 : Below Y.heap.size Y w6 := (Gr.below (Gr.drew (Gr.refl _))).trans hb6
              have hv6' := hv6.below hb7 (Nat.le_refl _)
              have hne := ownT_ne hv6 hv7 (Nat.le_refl _)
              have hYw : wr.heap.size ≤ Y.heap.size := HBY.out.size
              have HE := Lib.hid (And.intro hv6' (And.intro hv7 (And.intro hne (hbY6.trans (hb7.mono hs6)))))
              have HSZ := Lib.hid (And.intro hs6 (And.intro hs7 hYw))
              clear hv6 hv7 hv6' hne hb6 hb7 hbY6 hT hs6 hs7 hYw k0 k1 k2 k3
              go_wp2_with fail
              go_roundw
              case rel =>
                obtain ⟨x1', x2', x3', x4'⟩ := HXX.out
                obtain ⟨o1, o2, o3, o4⟩ := HE.out
                have hbb := HB7.out
                obtain ⟨s1, s2, s3⟩ := HSZ.out
                have hV1 := HBR.out.size
                refine ⟨i + 1, by go_num, hlt, by rw [HS2.out], .inr ⟨Nat.succ_pos _, ?_, ?_, o3⟩, ?_⟩
                · rw [HS2.out]
                  show OwnT _ _ _ _ [(crn s.size i).1, (crn s.size i).2]
                  rw [x1', x2']
                  exact (o1.mono (show w.heap.size ≤ Y.heap.size by omega)).gr (by repeat (first | exact Gr.refl _ | refine Gr.alloc ?_ _ | refine Gr.trans ?_ (by assumption) | refine Gr.drew ?_ | refine Gr.drewN ?_ _ | refine Gr.grow ?_ _ | refine Gr.setCell ?_ (by (try simp); (try omega)) _))
                · rw [HS2.out]
                  show OwnT _ _ _ _ [(crn s.size rq).1, (crn s.size rq).2]
                  rw [x3', x4']
                  exact (o2.mono (show w.heap.size ≤ w6.heap.size by omega)).gr (by repeat (first | exact Gr.refl _ | refine Gr.alloc ?_ _ | refine Gr.trans ?_ (by assumption) | refine Gr.drew ?_ | refine Gr.drewN ?_ _ | refine Gr.grow ?_ _ | refine Gr.setCell ?_ (by (try simp); (try omega)) _))
                · exact HBR.out.trans (((HBY.out.mono (by omega)).trans (o4.mono (by omega))).trans ((show Gr w7 _ from (by repeat (first | exact Gr.refl _ | refine Gr.alloc ?_ _ | refine Gr.trans ?_ (by assumption) | refine Gr.drew ?_ | refine Gr.drewN ?_ _ | refine Gr.grow ?_ _ | refine Gr.setCell ?_ (by (try simp); (try omega)) _))).below.mono (by omega)))
              case measure => simp [intOf]; omega
          · have hst := HST.out
            rw [if_neg hgt] at hst
            have HS2 := Lib.hid hst
            clear hst
            go_wp2_with fail
            go_roundw
            case rel =>
              have hi0 : 0 < i := by
                rcases Nat.eq_zero_or_pos i with h0 | h0
                · exact absurd (HP0.out h0) hgt
                · exact h0
              have hbb := HB7.out
              have hV1 := HBR.out.size
              rcases HL.out with ⟨h0, _⟩ | ⟨_, o1, o2, o3⟩
              · omega
              · refine ⟨i + 1, by go_num, hlt, by rw [HS2.out], .inr ⟨Nat.succ_pos _, ?_, ?_, o3⟩, ?_⟩
                · rw [HS2.out]; exact o1.below HBY.out (Nat.le_of_eq hbb)
                · rw [HS2.out]; exact o2.below HBY.out (Nat.le_of_eq hbb)
                · exact HBR.out.trans (HBY.out.mono (by omega))
            case measure => simp [intOf]; omega
        · have hX7 := HSX.out
          have hB3 : Below b7 wr w3 := (Below.drew hBX).trans (hb3.mono (show b7 ≤ X.heap.size by omega))
          have hB4 : Below b7 wr w4 := hB3.trans (hb4.mono (by omega))
          have hB4' : Below b7 wr (w4.alloc (.cells #[.int .i64 0, .int .i64 0] 48)) := hB4.alloc (by omega) _
          have hB5 : Below b7 wr w5 := hB4'.trans (hb5.mono (by simp; omega))
          have hS5 : S4 w.heap.size b7 s a x1 y1 w5 := by repeat' (first | assumption | (refine S4.below ?_ (by assumption)) | (refine S4.gr ?_ (Gr.alloc (Gr.refl _) _)) | (refine S4.gr ?_ (Gr.drew (Gr.refl _))))
          have hne1 : w4.heap.size ≠ w.heap.size := by omega
          have hne2 : w4.heap.size ≠ b7 := by omega
          have hV : Pr2 w5 w4.heap.size (0, 0) := ⟨z1, z2, z3, z4⟩
          obtain ⟨Y, hY, hSY, q1, q2, hBY⟩ : ∃ Y, ((w5.setCell ⟨w4.heap.size, 0, none⟩ (.int .i64 x2)).setCell ⟨w4.heap.size, 1, none⟩ (.int .i64 y2)) = Y ∧ S4 w.heap.size b7 s a x1 y1 Y ∧ Y.cell? ⟨w4.heap.size, 0, none⟩ = some (.int .i64 x2) ∧ Y.cell? ⟨w4.heap.size, 1, none⟩ = some (.int .i64 y2) ∧ Below b7 wr Y := ⟨_, rfl, S4.set (S4.set hS5 hne1 hne2) hne1 hne2, (hV.set x2 y2).1, (hV.set x2 y2).2.1, (hB5.setCell (by show b7 ≤ w4.heap.size; omega) _).setCell (by show b7 ≤ w4.heap.size; omega) _⟩
          simp only [hY]
          clear hY z1 z2 z3 z4 hV hne1 hne2
          obtain ⟨nb, hnb⟩ : ∃ n, w4.heap.size = n := ⟨_, rfl⟩
          rw [hnb] at q1 q2
          simp only [hnb]
          clear hnb hS5 hB5
          have HBY := Lib.hid hBY
          clear hBY
          by_cases hgt : p3 < rd
          · have hst := HST.out
            rw [if_pos hgt] at hst
            have HS2 := Lib.hid hst
            clear hst
            have hT : T4 b7 nb x1 y1 x2 y2 Y := ⟨hSY.2.2.1, hSY.2.2.2, q1, q2⟩
            clear hSY q1 q2
            obtain ⟨k0, k1, k2, k3⟩ := id hT
            go_wp2_with fail
            go_region_held3 (fun W' => W'.cell? ⟨b7, 0, none⟩ = some (.int .i64 x1) ∧ W'.cell? ⟨b7, 1, none⟩ = some (.int .i64 y1) ∧ W'.cell? ⟨nb, 0, none⟩ = some (.int .i64 x2) ∧ W'.cell? ⟨nb, 1, none⟩ = some (.int .i64 y2))
              (repeat' (first | assumption | (refine T4.gr ?_ (Gr.drew (Gr.refl _))) | (refine T4.below ?_ (by assumption))))
              ((first | (go_at_call_of 23 (Value.agg #[.int .i64 x1, .int .i64 y1]); refine (HLS.out _ _ _).mono ?_; rintro e w6 ⟨v6, rfl, hv6, hb6⟩) | (go_at_call_of 23 (Value.agg #[.int .i64 x2, .int .i64 y2]); refine (HLS.out _ _ _).mono ?_; rintro e w7 ⟨v7, rfl, hv7, hb7⟩)))
            all_goals
              have hs6 : Y.heap.size ≤ w6.heap.size := hb6.size
              have hs7 : w6.heap.size ≤ w7.heap.size := hb7.size
              have hbY6 : Below Y.heap.size Y w6 := (Gr.below (Gr.drew (Gr.refl _))).trans hb6
              have hv6' := hv6.below hb7 (Nat.le_refl _)
              have hne := ownT_ne hv6 hv7 (Nat.le_refl _)
              have hYw : wr.heap.size ≤ Y.heap.size := HBY.out.size
              have HE := Lib.hid (And.intro hv6' (And.intro hv7 (And.intro hne (hbY6.trans (hb7.mono hs6)))))
              have HSZ := Lib.hid (And.intro hs6 (And.intro hs7 hYw))
              clear hv6 hv7 hv6' hne hb6 hb7 hbY6 hT hs6 hs7 hYw k0 k1 k2 k3
              go_wp2_with fail
              go_roundw
              case rel =>
                obtain ⟨x1', x2', x3', x4'⟩ := HXX.out
                obtain ⟨o1, o2, o3, o4⟩ := HE.out
                have hbb := HB7.out
                obtain ⟨s1, s2, s3⟩ := HSZ.out
                have hV1 := HBR.out.size
                refine ⟨i + 1, by go_num, hlt, by rw [HS2.out], .inr ⟨Nat.succ_pos _, ?_, ?_, o3⟩, ?_⟩
                · rw [HS2.out]
                  show OwnT _ _ _ _ [(crn s.size i).1, (crn s.size i).2]
                  rw [x1', x2']
                  exact (o1.mono (show w.heap.size ≤ Y.heap.size by omega)).gr (by repeat (first | exact Gr.refl _ | refine Gr.alloc ?_ _ | refine Gr.trans ?_ (by assumption) | refine Gr.drew ?_ | refine Gr.drewN ?_ _ | refine Gr.grow ?_ _ | refine Gr.setCell ?_ (by (try simp); (try omega)) _))
                · rw [HS2.out]
                  show OwnT _ _ _ _ [(crn s.size rq).1, (crn s.size rq).2]
                  rw [x3', x4']
                  exact (o2.mono (show w.heap.size ≤ w6.heap.size by omega)).gr (by repeat (first | exact Gr.refl _ | refine Gr.alloc ?_ _ | refine Gr.trans ?_ (by assumption) | refine Gr.drew ?_ | refine Gr.drewN ?_ _ | refine Gr.grow ?_ _ | refine Gr.setCell ?_ (by (try simp); (try omega)) _))
                · exact HBR.out.trans (((HBY.out.mono (by omega)).trans (o4.mono (by omega))).trans ((show Gr w7 _ from (by repeat (first | exact Gr.refl _ | refine Gr.alloc ?_ _ | refine Gr.trans ?_ (by assumption) | refine Gr.drew ?_ | refine Gr.drewN ?_ _ | refine Gr.grow ?_ _ | refine Gr.setCell ?_ (by (try simp); (try omega)) _))).below.mono (by omega)))
              case measure => simp [intOf]; omega
          · have hst := HST.out
            rw [if_neg hgt] at hst
            have HS2 := Lib.hid hst
            clear hst
            go_wp2_with fail
            go_roundw
            case rel =>
              have hi0 : 0 < i := by
                rcases Nat.eq_zero_or_pos i with h0 | h0
                · exact absurd (HP0.out h0) hgt
                · exact h0
              have hbb := HB7.out
              have hV1 := HBR.out.size
              rcases HL.out with ⟨h0, _⟩ | ⟨_, o1, o2, o3⟩
              · omega
              · refine ⟨i + 1, by go_num, hlt, by rw [HS2.out], .inr ⟨Nat.succ_pos _, ?_, ?_, o3⟩, ?_⟩
                · rw [HS2.out]; exact o1.below HBY.out (Nat.le_of_eq hbb)
                · rw [HS2.out]; exact o2.below HBY.out (Nat.le_of_eq hbb)
                · exact HBR.out.trans (HBY.out.mono (by omega))
            case measure => simp [intOf]; omega
        · have hX7 := HSX.out
          have hB3 : Below b7 wr w3 := (Below.drew hBX).trans (hb3.mono (show b7 ≤ X.heap.size by omega))
          have hB3' : Below b7 wr (w3.alloc (.cells #[.int .i64 0, .int .i64 0] 48)) := hB3.alloc (by omega) _
          have hB4 : Below b7 wr w4 := hB3'.trans (hb4.mono (by simp; omega))
          have hB5 : Below b7 wr w5 := hB4.trans (hb5.mono (by omega))
          have hS5 : S4 w.heap.size b7 s a x1 y1 w5 := by repeat' (first | assumption | (refine S4.below ?_ (by assumption)) | (refine S4.gr ?_ (Gr.alloc (Gr.refl _) _)) | (refine S4.gr ?_ (Gr.drew (Gr.refl _))))
          have hne1 : w3.heap.size ≠ w.heap.size := by omega
          have hne2 : w3.heap.size ≠ b7 := by omega
          have hV : Pr2 w5 w3.heap.size (0, 0) := ⟨z1, z2, z3, z4⟩
          obtain ⟨Y, hY, hSY, q1, q2, hBY⟩ : ∃ Y, ((w5.setCell ⟨w3.heap.size, 0, none⟩ (.int .i64 x2)).setCell ⟨w3.heap.size, 1, none⟩ (.int .i64 y2)) = Y ∧ S4 w.heap.size b7 s a x1 y1 Y ∧ Y.cell? ⟨w3.heap.size, 0, none⟩ = some (.int .i64 x2) ∧ Y.cell? ⟨w3.heap.size, 1, none⟩ = some (.int .i64 y2) ∧ Below b7 wr Y := ⟨_, rfl, S4.set (S4.set hS5 hne1 hne2) hne1 hne2, (hV.set x2 y2).1, (hV.set x2 y2).2.1, (hB5.setCell (by show b7 ≤ w3.heap.size; omega) _).setCell (by show b7 ≤ w3.heap.size; omega) _⟩
          simp only [hY]
          clear hY z1 z2 z3 z4 hV hne1 hne2
          obtain ⟨nb, hnb⟩ : ∃ n, w3.heap.size = n := ⟨_, rfl⟩
          rw [hnb] at q1 q2
          simp only [hnb]
          clear hnb hS5 hB5
          have HBY := Lib.hid hBY
          clear hBY
          by_cases hgt : p3 < rd
          · have hst := HST.out
            rw [if_pos hgt] at hst
            have HS2 := Lib.hid hst
            clear hst
            have hT : T4 b7 nb x1 y1 x2 y2 Y := ⟨hSY.2.2.1, hSY.2.2.2, q1, q2⟩
            clear hSY q1 q2
            obtain ⟨k0, k1, k2, k3⟩ := id hT
            go_wp2_with fail
            go_region_held3 (fun W' => W'.cell? ⟨b7, 0, none⟩ = some (.int .i64 x1) ∧ W'.cell? ⟨b7, 1, none⟩ = some (.int .i64 y1) ∧ W'.cell? ⟨nb, 0, none⟩ = some (.int .i64 x2) ∧ W'.cell? ⟨nb, 1, none⟩ = some (.int .i64 y2))
              (repeat' (first | assumption | (refine T4.gr ?_ (Gr.drew (Gr.refl _))) | (refine T4.below ?_ (by assumption))))
              ((first | (go_at_call_of 23 (Value.agg #[.int .i64 x1, .int .i64 y1]); refine (HLS.out _ _ _).mono ?_; rintro e w6 ⟨v6, rfl, hv6, hb6⟩) | (go_at_call_of 23 (Value.agg #[.int .i64 x2, .int .i64 y2]); refine (HLS.out _ _ _).mono ?_; rintro e w7 ⟨v7, rfl, hv7, hb7⟩)))
            all_goals
              have hs6 : Y.heap.size ≤ w6.heap.size := hb6.size
              have hs7 : w6.heap.size ≤ w7.heap.size := hb7.size
              have hbY6 : Below Y.heap.size Y w6 := (Gr.below (Gr.drew (Gr.refl _))).trans hb6
              have hv6' := hv6.below hb7 (Nat.le_refl _)
              have hne := ownT_ne hv6 hv7 (Nat.le_refl _)
              have hYw : wr.heap.size ≤ Y.heap.size := HBY.out.size
              have HE := Lib.hid (And.intro hv6' (And.intro hv7 (And.intro hne (hbY6.trans (hb7.mono hs6)))))
              have HSZ := Lib.hid (And.intro hs6 (And.intro hs7 hYw))
              clear hv6 hv7 hv6' hne hb6 hb7 hbY6 hT hs6 hs7 hYw k0 k1 k2 k3
              go_wp2_with fail
              go_roundw
              case rel =>
                obtain ⟨x1', x2', x3', x4'⟩ := HXX.out
                obtain ⟨o1, o2, o3, o4⟩ := HE.out
                have hbb := HB7.out
                obtain ⟨s1, s2, s3⟩ := HSZ.out
                have hV1 := HBR.out.size
                refine ⟨i + 1, by go_num, hlt, by rw [HS2.out], .inr ⟨Nat.succ_pos _, ?_, ?_, o3⟩, ?_⟩
                · rw [HS2.out]
                  show OwnT _ _ _ _ [(crn s.size i).1, (crn s.size i).2]
                  rw [x1', x2']
                  exact (o1.mono (show w.heap.size ≤ Y.heap.size by omega)).gr (by repeat (first | exact Gr.refl _ | refine Gr.alloc ?_ _ | refine Gr.trans ?_ (by assumption) | refine Gr.drew ?_ | refine Gr.drewN ?_ _ | refine Gr.grow ?_ _ | refine Gr.setCell ?_ (by (try simp); (try omega)) _))
                · rw [HS2.out]
                  show OwnT _ _ _ _ [(crn s.size rq).1, (crn s.size rq).2]
                  rw [x3', x4']
                  exact (o2.mono (show w.heap.size ≤ w6.heap.size by omega)).gr (by repeat (first | exact Gr.refl _ | refine Gr.alloc ?_ _ | refine Gr.trans ?_ (by assumption) | refine Gr.drew ?_ | refine Gr.drewN ?_ _ | refine Gr.grow ?_ _ | refine Gr.setCell ?_ (by (try simp); (try omega)) _))
                · exact HBR.out.trans (((HBY.out.mono (by omega)).trans (o4.mono (by omega))).trans ((show Gr w7 _ from (by repeat (first | exact Gr.refl _ | refine Gr.alloc ?_ _ | refine Gr.trans ?_ (by assumption) | refine Gr.drew ?_ | refine Gr.drewN ?_ _ | refine Gr.grow ?_ _ | refine Gr.setCell ?_ (by (try simp); (try omega)) _))).below.mono (by omega)))
              case measure => simp [intOf]; omega
          · have hst := HST.out
            rw [if_neg hgt] at hst
            have HS2 := Lib.hid hst
            clear hst
            go_wp2_with fail
            go_roundw
            case rel =>
              have hi0 : 0 < i := by
                rcases Nat.eq_zero_or_pos i with h0 | h0
                · exact absurd (HP0.out h0) hgt
                · exact h0
              have hbb := HB7.out
              have hV1 := HBR.out.size
              rcases HL.out with ⟨h0, _⟩ | ⟨_, o1, o2, o3⟩
              · omega
              · refine ⟨i + 1, by go_num, hlt, by rw [HS2.out], .inr ⟨Nat.succ_pos _, ?_, ?_, o3⟩, ?_⟩
                · rw [HS2.out]; exact o1.below HBY.out (Nat.le_of_eq hbb)
                · rw [HS2.out]; exact o2.below HBY.out (Nat.le_of_eq hbb)
                · exact HBR.out.trans (HBY.out.mono (by omega))
            case measure => simp [intOf]; omega
        · have hX7 := HSX.out
          have hB0 : Below b7 wr (X.alloc (.cells #[.int .i64 0, .int .i64 0] 48)) := hBX.alloc (by omega) _
          have hB3 : Below b7 wr w3 := (Below.drew hB0).trans (hb3.mono (show b7 ≤ (X.alloc (.cells #[.int .i64 0, .int .i64 0] 48)).heap.size by simp; omega))
          have hB4 : Below b7 wr w4 := hB3.trans (hb4.mono (by omega))
          have hB5 : Below b7 wr w5 := hB4.trans (hb5.mono (by omega))
          have hS5 : S4 w.heap.size b7 s a x1 y1 w5 := by repeat' (first | assumption | (refine S4.below ?_ (by assumption)) | (refine S4.gr ?_ (Gr.alloc (Gr.refl _) _)) | (refine S4.gr ?_ (Gr.drew (Gr.refl _))))
          have hne1 : X.heap.size ≠ w.heap.size := by omega
          have hne2 : X.heap.size ≠ b7 := by omega
          have hV : Pr2 w5 X.heap.size (0, 0) := ⟨z1, z2, z3, z4⟩
          obtain ⟨Y, hY, hSY, q1, q2, hBY⟩ : ∃ Y, ((w5.setCell ⟨X.heap.size, 0, none⟩ (.int .i64 x2)).setCell ⟨X.heap.size, 1, none⟩ (.int .i64 y2)) = Y ∧ S4 w.heap.size b7 s a x1 y1 Y ∧ Y.cell? ⟨X.heap.size, 0, none⟩ = some (.int .i64 x2) ∧ Y.cell? ⟨X.heap.size, 1, none⟩ = some (.int .i64 y2) ∧ Below b7 wr Y := ⟨_, rfl, S4.set (S4.set hS5 hne1 hne2) hne1 hne2, (hV.set x2 y2).1, (hV.set x2 y2).2.1, (hB5.setCell (by show b7 ≤ X.heap.size; omega) _).setCell (by show b7 ≤ X.heap.size; omega) _⟩
          simp only [hY]
          clear hY z1 z2 z3 z4 hV hne1 hne2
          obtain ⟨nb, hnb⟩ : ∃ n, X.heap.size = n := ⟨_, rfl⟩
          rw [hnb] at q1 q2
          simp only [hnb]
          clear hnb hS5 hB5
          have HBY := Lib.hid hBY
          clear hBY
          by_cases hgt : p3 < rd
          · have hst := HST.out
            rw [if_pos hgt] at hst
            have HS2 := Lib.hid hst
            clear hst
            have hT : T4 b7 nb x1 y1 x2 y2 Y := ⟨hSY.2.2.1, hSY.2.2.2, q1, q2⟩
            clear hSY q1 q2
            obtain ⟨k0, k1, k2, k3⟩ := id hT
            go_wp2_with fail
            go_region_held3 (fun W' => W'.cell? ⟨b7, 0, none⟩ = some (.int .i64 x1) ∧ W'.cell? ⟨b7, 1, none⟩ = some (.int .i64 y1) ∧ W'.cell? ⟨nb, 0, none⟩ = some (.int .i64 x2) ∧ W'.cell? ⟨nb, 1, none⟩ = some (.int .i64 y2))
              (repeat' (first | assumption | (refine T4.gr ?_ (Gr.drew (Gr.refl _))) | (refine T4.below ?_ (by assumption))))
              ((first | (go_at_call_of 23 (Value.agg #[.int .i64 x1, .int .i64 y1]); refine (HLS.out _ _ _).mono ?_; rintro e w6 ⟨v6, rfl, hv6, hb6⟩) | (go_at_call_of 23 (Value.agg #[.int .i64 x2, .int .i64 y2]); refine (HLS.out _ _ _).mono ?_; rintro e w7 ⟨v7, rfl, hv7, hb7⟩)))
            all_goals
              have hs6 : Y.heap.size ≤ w6.heap.size := hb6.size
              have hs7 : w6.heap.size ≤ w7.heap.size := hb7.size
              have hbY6 : Below Y.heap.size Y w6 := (Gr.below (Gr.drew (Gr.refl _))).trans hb6
              have hv6' := hv6.below hb7 (Nat.le_refl _)
              have hne := ownT_ne hv6 hv7 (Nat.le_refl _)
              have hYw : wr.heap.size ≤ Y.heap.size := HBY.out.size
              have HE := Lib.hid (And.intro hv6' (And.intro hv7 (And.intro hne (hbY6.trans (hb7.mono hs6)))))
              have HSZ := Lib.hid (And.intro hs6 (And.intro hs7 hYw))
              clear hv6 hv7 hv6' hne hb6 hb7 hbY6 hT hs6 hs7 hYw k0 k1 k2 k3
              go_wp2_with fail
              go_roundw
              case rel =>
                obtain ⟨x1', x2', x3', x4'⟩ := HXX.out
                obtain ⟨o1, o2, o3, o4⟩ := HE.out
                have hbb := HB7.out
                obtain ⟨s1, s2, s3⟩ := HSZ.out
                have hV1 := HBR.out.size
                refine ⟨i + 1, by go_num, hlt, by rw [HS2.out], .inr ⟨Nat.succ_pos _, ?_, ?_, o3⟩, ?_⟩
                · rw [HS2.out]
                  show OwnT _ _ _ _ [(crn s.size i).1, (crn s.size i).2]
                  rw [x1', x2']
                  exact (o1.mono (show w.heap.size ≤ Y.heap.size by omega)).gr (by repeat (first | exact Gr.refl _ | refine Gr.alloc ?_ _ | refine Gr.trans ?_ (by assumption) | refine Gr.drew ?_ | refine Gr.drewN ?_ _ | refine Gr.grow ?_ _ | refine Gr.setCell ?_ (by (try simp); (try omega)) _))
                · rw [HS2.out]
                  show OwnT _ _ _ _ [(crn s.size rq).1, (crn s.size rq).2]
                  rw [x3', x4']
                  exact (o2.mono (show w.heap.size ≤ w6.heap.size by omega)).gr (by repeat (first | exact Gr.refl _ | refine Gr.alloc ?_ _ | refine Gr.trans ?_ (by assumption) | refine Gr.drew ?_ | refine Gr.drewN ?_ _ | refine Gr.grow ?_ _ | refine Gr.setCell ?_ (by (try simp); (try omega)) _))
                · exact HBR.out.trans (((HBY.out.mono (by omega)).trans (o4.mono (by omega))).trans ((show Gr w7 _ from (by repeat (first | exact Gr.refl _ | refine Gr.alloc ?_ _ | refine Gr.trans ?_ (by assumption) | refine Gr.drew ?_ | refine Gr.drewN ?_ _ | refine Gr.grow ?_ _ | refine Gr.setCell ?_ (by (try simp); (try omega)) _))).below.mono (by omega)))
              case measure => simp [intOf]; omega
          · have hst := HST.out
            rw [if_neg hgt] at hst
            have HS2 := Lib.hid hst
            clear hst
            go_wp2_with fail
            go_roundw
            case rel =>
              have hi0 : 0 < i := by
                rcases Nat.eq_zero_or_pos i with h0 | h0
                · exact absurd (HP0.out h0) hgt
                · exact h0
              have hbb := HB7.out
              have hV1 := HBR.out.size
              rcases HL.out with ⟨h0, _⟩ | ⟨_, o1, o2, o3⟩
              · omega
              · refine ⟨i + 1, by go_num, hlt, by rw [HS2.out], .inr ⟨Nat.succ_pos _, ?_, ?_, o3⟩, ?_⟩
                · rw [HS2.out]; exact o1.below HBY.out (Nat.le_of_eq hbb)
                · rw [HS2.out]; exact o2.below HBY.out (Nat.le_of_eq hbb)
                · exact HBR.out.trans (HBY.out.mono (by omega))
            case measure => simp [intOf]; omega
      · obtain rfl : i = N := by omega
        have hS := HSM.out
        rw [hS] at hL ⊢
        rcases hL with ⟨h0, _⟩ | ⟨_, o1, o2, o3⟩
        · omega
        · have HE := Lib.hid (And.intro o1 (And.intro o2 (And.intro o3 (HBV.out.trans (hbr.mono HBV.out.size)))))
          clear o1 o2 o3 hbr
          go_wp2_with fail
          refine bodyPost_ret (results_tmp4 rfl _ _ _) rfl ?_
          obtain ⟨o1, o2, o3, o4⟩ := HE.out
          first
            | exact ⟨_, _, rfl, o1, o2, ⟨.inr o3, .inr (Ne.symm o3)⟩, o4⟩
end Go.Proofs
