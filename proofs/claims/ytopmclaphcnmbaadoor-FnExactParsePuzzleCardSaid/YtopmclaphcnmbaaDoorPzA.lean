/-
  Lists of clues: words; the contracts of the law's own helpers (copy, count, same, marks, marks held).
-/
import Derived.Test.YtopmclaphcnmbaaDoorEls
import Derived.Test.YtopmclaphcnmbaaDoorPzM
import Derived.Deep.Slices
namespace Go.Proofs
open Go.RowKit
set_option linter.unusedVariables false
set_option linter.unusedSimpArgs false
def ccs (b : Clu) : List Value := [.int .i64 b.1, .int .i64 b.2.1, .int .i64 b.2.2]
theorem ccs_len : ∀ b, (ccs b).length = 3 := fun _ => rfl
theorem ccs_one : ∀ b, ∀ u ∈ ccs b, u.oneCell' = true := by
  intro b u hu
  simp [ccs] at hu
  rcases hu with rfl | rfl | rfl <;> rfl
/-- The slice value v is a row of the call's own, from block B on, that holds the blocks ps. -/
abbrev OwnC (w : World) (B : Nat) (v : Value) (ps : List Clu) : Prop := OwnE 40 3 ccs w B v ps
abbrev ArgC (w : World) (A : Option Addr) (len cap : Nat) (zs : List Clu) : Prop := ArgE 3 ccs w A len cap zs
section
variable {w w' : World} {B C : Nat} {v : Value} {ps : List Clu}
theorem OwnC.view (h : OwnC w B v ps) :
    (ps = [] ∧ ∃ A c, v = .slice A 0 c) ∨ (0 < ps.length ∧ ∃ g c, v = .slice (some ⟨g, 0, none⟩) ps.length c ∧ B ≤ g ∧ g < w.heap.size ∧ ps.length ≤ c ∧ c ≤ maxLen ∧
      (∀ j, j < ps.length → w.cell? ⟨g, j * 3, none⟩ = some (.int .i64 (ps.getD j cl0).1) ∧ w.cell? ⟨g, j * 3 + 1, none⟩ = some (.int .i64 (ps.getD j cl0).2.1) ∧ w.cell? ⟨g, j * 3 + 2, none⟩ = some (.int .i64 (ps.getD j cl0).2.2)) ∧ ∀ j, w.frozen? ⟨g, j, none⟩ = false) := by
  rcases OwnE.view ccs_len cl0 h with x | ⟨h0, g, c, rfl, h1, h2, h3, h4, h5, h6⟩
  · exact .inl x
  · exact .inr ⟨h0, g, c, rfl, h1, h2, h3, h4, fun j hj => ⟨h5 j 0 hj (by decide), h5 j 1 hj (by decide), h5 j 2 hj (by decide)⟩, h6⟩
theorem OwnC.at {g n c : Nat} (h : OwnC w B (.slice (some ⟨g, 0, none⟩) n c) ps) (hn : ps.length = n) (j : Nat) (hj : j < n) :
    w.cell? ⟨g, j * 3, none⟩ = some (.int .i64 (ps.getD j cl0).1) ∧ w.cell? ⟨g, j * 3 + 1, none⟩ = some (.int .i64 (ps.getD j cl0).2.1) ∧ w.cell? ⟨g, j * 3 + 2, none⟩ = some (.int .i64 (ps.getD j cl0).2.2) ∧
    w.frozen? ⟨g, j * 3, none⟩ = false ∧ w.frozen? ⟨g, j * 3 + 1, none⟩ = false ∧ w.frozen? ⟨g, j * 3 + 2, none⟩ = false := by
  have c0 := OwnE.cell ccs_len cl0 h hn j 0 hj (by decide)
  have c1 := OwnE.cell ccs_len cl0 h hn j 1 hj (by decide)
  have c2 := OwnE.cell ccs_len cl0 h hn j 2 hj (by decide)
  exact ⟨c0.1, c1.1, c2.1, c0.2, c1.2, c2.2⟩
theorem OwnC.set3 {g n c : Nat} (h : OwnC w B (.slice (some ⟨g, 0, none⟩) n c) ps) (hn : ps.length = n) (j : Nat) (x y u : Int) (hj : j < n) :
    OwnC (((w.setCell ⟨g, j * 3, none⟩ (.int .i64 x)).setCell ⟨g, j * 3 + 1, none⟩ (.int .i64 y)).setCell ⟨g, j * 3 + 2, none⟩ (.int .i64 u)) B (.slice (some ⟨g, 0, none⟩) n c) (ps.set j (x, y, u)) := by
  have hlt : j < ps.length := by omega
  have h1 := OwnE.set ccs_len cl0 h hn j 0 (.int .i64 x) (x, (ps.getD j cl0).2.1, (ps.getD j cl0).2.2) hj (by decide) rfl
  have h2 := OwnE.set ccs_len cl0 h1 (by simpa using hn) j 1 (.int .i64 y) (x, y, (ps.getD j cl0).2.2) hj (by decide) (by simp [List.getD, hlt, ccs])
  have h3 := OwnE.set ccs_len cl0 h2 (by simpa using hn) j 2 (.int .i64 u) (x, y, u) hj (by decide) (by simp [List.getD, hlt, ccs])
  simpa using h3
end
open Go.Sort in
/-- a boxed row of three cells, in whatever world behind it -/
theorem box3 (w : World) (a b c : Value) (t : TypeId) : (∀ n os, (grow ((w.alloc (.cells #[a, b, c] t)).drewN n) os).cell? ⟨w.heap.size, 0, none⟩ = some a) ∧ (∀ n os, (grow ((w.alloc (.cells #[a, b, c] t)).drewN n) os).cell? ⟨w.heap.size, 1, none⟩ = some b) ∧ (∀ n os, (grow ((w.alloc (.cells #[a, b, c] t)).drewN n) os).cell? ⟨w.heap.size, 2, none⟩ = some c) :=
  ⟨fun n os => cell_grown (by simp) (by simp [go_sem]) n os, fun n os => cell_grown (by simp) (by simp [go_sem]) n os, fun n os => cell_grown (by simp) (by simp [go_sem]) n os⟩
open Go.Sort in
theorem boxG3 {w W : World} {a b c : Value} {t : TypeId} (g : Gr (w.alloc (.cells #[a, b, c] t)) W) :
    (∀ n os, (grow (W.drewN n) os).cell? ⟨w.heap.size, 0, none⟩ = some a) ∧ (∀ n os, (grow (W.drewN n) os).cell? ⟨w.heap.size, 1, none⟩ = some b) ∧ (∀ n os, (grow (W.drewN n) os).cell? ⟨w.heap.size, 2, none⟩ = some c) :=
  ⟨gr_all g (by simp [go_sem]), gr_all g (by simp [go_sem]), gr_all g (by simp [go_sem])⟩
open Go.Sort in
/-- two boxed rows of three, in whatever world behind them -/
theorem boxesG3 {w W : World} {a b c d e f : Value} {t t2 : TypeId} (g : Gr ((w.alloc (.cells #[a, b, c] t)).alloc (.cells #[d, e, f] t2)) W) :
    (∀ n os, (grow (W.drewN n) os).cell? ⟨w.heap.size, 0, none⟩ = some a) ∧ (∀ n os, (grow (W.drewN n) os).cell? ⟨w.heap.size, 1, none⟩ = some b) ∧ (∀ n os, (grow (W.drewN n) os).cell? ⟨w.heap.size, 2, none⟩ = some c) ∧
    (∀ n os, (grow (W.drewN n) os).cell? ⟨w.heap.size + 1, 0, none⟩ = some d) ∧ (∀ n os, (grow (W.drewN n) os).cell? ⟨w.heap.size + 1, 1, none⟩ = some e) ∧ (∀ n os, (grow (W.drewN n) os).cell? ⟨w.heap.size + 1, 2, none⟩ = some f) := by
  obtain ⟨x, y, z⟩ := boxG3 (Gr.trans (Gr.alloc (Gr.refl _) _) g)
  exact ⟨x, y, z, gr_all g (by simp [go_sem]), gr_all g (by simp [go_sem]), gr_all g (by simp [go_sem])⟩
theorem Tryd.infoC : (Tryd.prog.info? 40).map (fun i => (i.zero, i.size, i.bytes)) = some (some (.agg #[.int .i64 0, .int .i64 0, .int .i64 0]), 3, 24) := by kernel_rfl
def cV (b : Clu) : Value := .agg #[.int .i64 b.1, .int .i64 b.2.1, .int .i64 b.2.2]
set_option maxHeartbeats 400000 in
theorem Tryd.eqClue (x y u : Int) (w : World) :
    Calls Tryd.prog 33 #[.agg #[.int .i64 x, .int .i64 y, .int .i64 u], .agg #[.int .i64 x, .int .i64 y, .int .i64 u]] w fun e w' => e = .returned (.bool true) ∧ Gr w w' := by
  obtain ⟨b0, b1, b2, b3, b4, b5⟩ := boxesG3 (Gr.refl ((w.alloc (.cells #[.int .i64 x, .int .i64 y, .int .i64 u] 40)).alloc (.cells #[.int .i64 x, .int .i64 y, .int .i64 u] 40)))
  go_enter Tryd.func33, Tryd.ntmps33
  go_wp2
  (try (go_quiet (fail); go_wp2))
  (try (go_quiet (fail); go_wp2))
  (try (go_quiet (fail); go_wp2))
  go_ret
  exact ⟨rfl, by repeat (first | exact Gr.refl _ | refine Gr.alloc ?_ _ | refine Gr.trans ?_ (by assumption) | refine Gr.drew ?_ | refine Gr.drewN ?_ _ | refine Gr.grow ?_ _ | refine Gr.setCell ?_ (by (try simp); (try omega)) _)⟩
def CRelC (B : Nat) (xs : List Clu) (v : Value) (w : World) (i : Value) (wr : World) : Prop := ∃ k : Nat, k ≤ xs.length ∧ i = .int .i64 k ∧ OwnC wr B v (cpe cl0 k xs) ∧ Below B w wr
theorem cells3 {w : World} {ad : Addr} {b : Clu} (h : ∀ i u, (ccs b)[i]? = some u → w.cell? (ad.add i) = some u) : ∀ j v, [Value.int .i64 b.1, .int .i64 b.2.1, .int .i64 b.2.2][j]? = some v → w.cell? (ad.add j) = some v := h
def ERelC (n : Nat) (w : World) (s : Value) (wr : World) : Prop := Gr w wr ∧ ∃ i : Nat, i ≤ n ∧ s = .int .i64 i
set_option maxRecDepth 100000 in
set_option maxHeartbeats 800000 in
theorem Tryd.eqClueS (w : World) (B B' : Nat) (a b : Value) (ps : List Clu) (ha : OwnC w B a ps) (hb : OwnC w B' b ps) :
    Calls Tryd.prog 16 #[a, b] w fun e w' => e = .returned (.bool true) ∧ Gr w w' := by
  rcases OwnC.view ha with ⟨hx, A, c, rfl⟩ | ⟨h0, g, c, rfl, g1, g2, hcl, hm, hc, _⟩
  · subst hx
    rcases OwnC.view hb with ⟨_, A', c', rfl⟩ | ⟨h0, _⟩
    · clear ha hb
      go_enter Tryd.func16, Tryd.ntmps16
      go_wp2
      refine wp_loop_rounds 1 ?_
      rw [rounds_succ]
      go_wp2
      go_ret
      exact ⟨rfl, by repeat (first | exact Gr.refl _ | refine Gr.alloc ?_ _ | refine Gr.trans ?_ (by assumption) | refine Gr.drew ?_ | refine Gr.drewN ?_ _ | refine Gr.grow ?_ _ | refine Gr.setCell ?_ (by (try simp); (try omega)) _)⟩
    · simp at h0
  · rcases OwnC.view hb with ⟨hx, _⟩ | ⟨_, g', c', rfl, _, _, hcl', _, hc', _⟩
    · simp [hx] at h0
    · clear ha hb
      unfold maxLen at hm
      have HC := Lib.hid hc
      have HC' := Lib.hid hc'
      clear hc hc'
      generalize hn : ps.length = n at *
      have HN := Lib.hid hn
      clear hn
      have mixed : Tryd.prog.follows .mixedOrders = true := by kernel_rfl
      go_enter Tryd.func16, Tryd.ntmps16
      go_wp2
      go_loopw [5] (fun s wr => ERelC n w s wr) (fun s _ => n - (intOf s).toNat)
      case atStart => exact ⟨Gr.refl _, 0, Nat.zero_le _, rfl⟩
      case round =>
        obtain ⟨gr, i, hi, rfl⟩ := hrel
        by_cases hlt : i < n
        · have e1 := gr_all gr (HC.out i hlt).1
          have e2 := gr_all gr (HC.out i hlt).2.1
          have e3 := gr_all gr (HC.out i hlt).2.2
          have e4 := gr_all gr (HC'.out i hlt).1
          have e5 := gr_all gr (HC'.out i hlt).2.1
          have e6 := gr_all gr (HC'.out i hlt).2.2
          have z0 : (0 : Int) ≤ (i : Int) := by omega
          have z1 : (i : Int) < (n : Int) := by omega
          have GR := Lib.hid gr
          clear gr
          generalize (ps.getD i cl0).1 = y0 at *
          generalize (ps.getD i cl0).2.1 = y1 at *
          generalize (ps.getD i cl0).2.2 = y2 at *
          go_wp2
          (refine wp_region_quiet_grown mixed (by kernel_rfl) ?_; (repeat (first | go_big_quiet_step ((first | (go_at_call 33; exact Calls.grown_of (Tryd.eqClue _ _ _ _)))) | quiet_step ((first | (go_at_call 33; exact Calls.grown_of (Tryd.eqClue _ _ _ _)))))); refine wpQuiet_nil ?_; intro _ hw'; obtain ⟨⟨nq, osq⟩, hw''⟩ := hw'; subst hw'')
          go_wp2
          go_roundw
          case rel => exact ⟨Gr.grow (Gr.drewN GR.out _) _, i + 1, by omega, by go_num⟩
          case measure => simp [intOf]; omega
        · obtain rfl : i = n := by omega
          go_wp2
          go_ret
          exact ⟨rfl, gr⟩
/-- the marks that the law lays -/
def mkc (j : Nat) : Clu := (1 + 3 * j, 1 + 3 * j + 1, 1 + 3 * j + 1 + 1)
def MRelC (n B : Nat) (xs : List Clu) (v : Value) (w : World) (k s : Value) (wr : World) : Prop := ∃ i : Nat, i ≤ n ∧ s = .int .i64 i ∧ k = .int .i64 (1 + 3 * i) ∧ OwnC wr B v (mke mkc i xs) ∧ w.grownBy wr v.ownBlock
theorem grownBy_setCell {w w' : World} {g o : Nat} {u : Value} (h : w.grownBy w' (some g)) : w.grownBy (w'.setCell ⟨g, o, none⟩ u) (some g) :=
  ⟨h.os, h.tape, h.output, by simpa using h.size, fun k hk hne => by rw [heap_setCell_other w' ⟨g, o, none⟩ k u (fun e => hne (by rw [e]))]; exact h.block k hk hne⟩
set_option maxRecDepth 100000 in
set_option maxHeartbeats 800000 in
theorem Tryd.markClueS (w : World) (B : Nat) (v : Value) (xs : List Clu) (hlen : xs.length ≤ 1000000000) (h : OwnC w B v xs) :
    Calls Tryd.prog 17 #[v, .int .i64 1] w fun e w' => e = .returned (.int .i64 (1 + 3 * (xs.length : Int))) ∧ OwnC w' B v (mke mkc xs.length xs) ∧ w.grownBy w' v.ownBlock := by
  rcases OwnC.view h with ⟨hx, A, c, rfl⟩ | ⟨h0, g, c, rfl, g1, g2, hcl, hm, hc, hf⟩
  · subst hx
    have H := Lib.hid h
    clear h
    go_enter Tryd.func17, Tryd.ntmps17
    go_wp2
    refine wp_loop_rounds 1 ?_
    rw [rounds_succ]
    go_wp2
    go_ret
    exact ⟨by simp, by simpa [mke] using H.out, World.grownBy.refl _ _⟩
  · unfold maxLen at hm
    clear hc hf
    have H := Lib.hid h
    clear h
    go_enter Tryd.func17, Tryd.ntmps17
    go_wp2
    go_loopw [1, 5] (fun k s wr => MRelC xs.length B xs (.slice (some ⟨g, 0, none⟩) xs.length c) w k s wr) (fun _ s _ => xs.length - (intOf s).toNat)
    case atStart => exact ⟨0, Nat.zero_le _, rfl, by go_num, by rw [mke_zero]; exact H.out, World.grownBy.refl _ _⟩
    case round =>
      obtain ⟨i, hi, rfl, rfl, ho, hb⟩ := hrel
      by_cases hlt : i < xs.length
      · obtain ⟨s0, s1, s2, s3, s4, s5⟩ := OwnC.at ho (mke_len mkc i xs hi) i hlt
        have z0 : (0 : Int) ≤ (i : Int) := by omega
        have z1 : (i : Int) < (xs.length : Int) := by omega
        have HO := Lib.hid ho
        have HB := Lib.hid hb
        clear ho hb
        generalize ((mke mkc i xs).getD i cl0).1 = y0 at s0
        generalize ((mke mkc i xs).getD i cl0).2.1 = y1 at s1
        generalize ((mke mkc i xs).getD i cl0).2.2 = y2 at s2
        go_wp2
        go_roundw
        case rel =>
          refine ⟨i + 1, by omega, by go_num, by go_num, ?_, grownBy_setCell (grownBy_setCell (grownBy_setCell HB.out))⟩
          have := OwnC.set3 HO.out (mke_len mkc i xs hi) i (1 + 3 * i) (1 + 3 * i + 1) (1 + 3 * i + 1 + 1) hlt
          rw [show (1 + 3 * (i : Int), 1 + 3 * (i : Int) + 1, 1 + 3 * (i : Int) + 1 + 1) = mkc i from rfl, mke_set mkc i xs hlt] at this
          exact this
        case measure => simp [intOf]; omega
      · obtain rfl : i = xs.length := by omega
        have HO := Lib.hid ho
        have HB := Lib.hid hb
        clear ho hb
        go_wp2
        go_ret
        exact ⟨rfl, HO.out, HB.out⟩
def HRelC (n : Nat) (w : World) (k s : Value) (wr : World) : Prop := w = wr ∧ ∃ i : Nat, i ≤ n ∧ s = .int .i64 i ∧ k = .int .i64 (1 + 3 * i)
set_option maxRecDepth 100000 in
set_option maxHeartbeats 800000 in
theorem Tryd.heldClueS (w : World) (B : Nat) (v : Value) (xs : List Clu) (hlen : xs.length ≤ 1000000000) (h : OwnC w B v (mke mkc xs.length xs)) :
    Calls Tryd.prog 18 #[v, .int .i64 1] w fun e w' => e = .returned (.int .i64 (1 + 3 * (xs.length : Int))) ∧ w = w' := by
  have hl := mke_len mkc xs.length xs (Nat.le_refl _)
  rcases OwnC.view h with ⟨hx, A, c, rfl⟩ | ⟨h0, g, c, rfl, g1, g2, hcl, hm, hc, hf⟩
  · have h0 : xs.length = 0 := by rw [← hl, hx]; rfl
    rw [h0]
    clear h hx hl h0
    go_enter Tryd.func18, Tryd.ntmps18
    go_wp2
    refine wp_loop_rounds 1 ?_
    rw [rounds_succ]
    go_wp2
    go_ret
    exact ⟨by simp, rfl⟩
  · rw [hl] at hcl h0 hc ⊢
    unfold maxLen at hm
    have HC := Lib.hid hc
    clear hc hf h hl
    go_enter Tryd.func18, Tryd.ntmps18
    go_wp2
    go_loopw [1, 5] (fun k s wr => HRelC xs.length w k s wr) (fun _ s _ => xs.length - (intOf s).toNat)
    case atStart => exact ⟨rfl, 0, Nat.zero_le _, rfl, by go_num⟩
    case round =>
      obtain ⟨rfl, i, hi, rfl, rfl⟩ := hrel
      by_cases hlt : i < xs.length
      · obtain ⟨e1, e2, e3⟩ := HC.out i hlt
        rw [mke_get mkc xs i hlt] at e1 e2 e3
        simp only [mkc] at e1 e2 e3
        have z0 : (0 : Int) ≤ (i : Int) := by omega
        have z1 : (i : Int) < (xs.length : Int) := by omega
        go_wp2
        go_roundw
        case rel => exact ⟨rfl, i + 1, by omega, by go_num, by go_num⟩
        case measure => simp [intOf]; omega
      · obtain rfl : i = xs.length := by omega
        go_wp2
        go_ret
        exact ⟨rfl, rfl⟩
end Go.Proofs
