/-
  Lists of blocks, cities: words; the contracts of the law's own helpers (copy, count, same, marks, marks held).
-/
import Derived.Test.YtnpkhoiblemodaaEls
import Derived.Test.YtnpkhoiblemodaaAvAll
import Derived.Deep.Slices
namespace Go.Proofs
open Go.RowKit Av
set_option linter.unusedVariables false
set_option linter.unusedSimpArgs false
def bcs (b : Blk) : List Value := [.int .i64 b.1, .int .i64 b.2.1, .bool b.2.2]
theorem bcs_len : ∀ b, (bcs b).length = 3 := fun _ => rfl
theorem bcs_one : ∀ b, ∀ u ∈ bcs b, u.oneCell' = true := by
  intro b u hu
  simp [bcs] at hu
  rcases hu with rfl | rfl | rfl <;> rfl
/-- The slice value v is a row of the call's own, from block B on, that holds the blocks ps. -/
abbrev OwnB (w : World) (B : Nat) (v : Value) (ps : List Blk) : Prop := OwnE 34 3 bcs w B v ps
abbrev ArgB (w : World) (A : Option Addr) (len cap : Nat) (zs : List Blk) : Prop := ArgE 3 bcs w A len cap zs
section
variable {w w' : World} {B C : Nat} {v : Value} {ps : List Blk}
theorem OwnB.view (h : OwnB w B v ps) :
    (ps = [] ∧ ∃ A c, v = .slice A 0 c) ∨ (0 < ps.length ∧ ∃ g c, v = .slice (some ⟨g, 0, none⟩) ps.length c ∧ B ≤ g ∧ g < w.heap.size ∧ ps.length ≤ c ∧ c ≤ maxLen ∧
      (∀ j, j < ps.length → w.cell? ⟨g, j * 3, none⟩ = some (.int .i64 (ps.getD j b0).1) ∧ w.cell? ⟨g, j * 3 + 1, none⟩ = some (.int .i64 (ps.getD j b0).2.1) ∧ w.cell? ⟨g, j * 3 + 2, none⟩ = some (.bool (ps.getD j b0).2.2)) ∧ ∀ j, w.frozen? ⟨g, j, none⟩ = false) := by
  rcases OwnE.view bcs_len b0 h with x | ⟨h0, g, c, rfl, h1, h2, h3, h4, h5, h6⟩
  · exact .inl x
  · exact .inr ⟨h0, g, c, rfl, h1, h2, h3, h4, fun j hj => ⟨h5 j 0 hj (by decide), h5 j 1 hj (by decide), h5 j 2 hj (by decide)⟩, h6⟩
theorem OwnB.at {g n c : Nat} (h : OwnB w B (.slice (some ⟨g, 0, none⟩) n c) ps) (hn : ps.length = n) (j : Nat) (hj : j < n) :
    w.cell? ⟨g, j * 3, none⟩ = some (.int .i64 (ps.getD j b0).1) ∧ w.cell? ⟨g, j * 3 + 1, none⟩ = some (.int .i64 (ps.getD j b0).2.1) ∧ w.cell? ⟨g, j * 3 + 2, none⟩ = some (.bool (ps.getD j b0).2.2) ∧
    w.frozen? ⟨g, j * 3, none⟩ = false ∧ w.frozen? ⟨g, j * 3 + 1, none⟩ = false ∧ w.frozen? ⟨g, j * 3 + 2, none⟩ = false := by
  have c0 := OwnE.cell bcs_len b0 h hn j 0 hj (by decide)
  have c1 := OwnE.cell bcs_len b0 h hn j 1 hj (by decide)
  have c2 := OwnE.cell bcs_len b0 h hn j 2 hj (by decide)
  exact ⟨c0.1, c1.1, c2.1, c0.2, c1.2, c2.2⟩
theorem OwnB.set3 {g n c : Nat} (h : OwnB w B (.slice (some ⟨g, 0, none⟩) n c) ps) (hn : ps.length = n) (j : Nat) (x y : Int) (u : Bool) (hj : j < n) :
    OwnB (((w.setCell ⟨g, j * 3, none⟩ (.int .i64 x)).setCell ⟨g, j * 3 + 1, none⟩ (.int .i64 y)).setCell ⟨g, j * 3 + 2, none⟩ (.bool u)) B (.slice (some ⟨g, 0, none⟩) n c) (ps.set j (x, y, u)) := by
  have hlt : j < ps.length := by omega
  have h1 := OwnE.set bcs_len b0 h hn j 0 (.int .i64 x) (x, (ps.getD j b0).2.1, (ps.getD j b0).2.2) hj (by decide) rfl
  have h2 := OwnE.set bcs_len b0 h1 (by simpa using hn) j 1 (.int .i64 y) (x, y, (ps.getD j b0).2.2) hj (by decide) (by simp [List.getD, hlt, bcs])
  have h3 := OwnE.set bcs_len b0 h2 (by simpa using hn) j 2 (.bool u) (x, y, u) hj (by decide) (by simp [List.getD, hlt, bcs])
  simpa using h3
end
open Go.Sort in
/-- a boxed row of three cells, in whatever world behind it -/
theorem box3 (w : World) (a b c : Value) (t : TypeId) : (∀ n os, (grow ((w.alloc (.cells #[a, b, c] t)).drewN n) os).cell? ⟨w.heap.size, 0, none⟩ = some a) ∧ (∀ n os, (grow ((w.alloc (.cells #[a, b, c] t)).drewN n) os).cell? ⟨w.heap.size, 1, none⟩ = some b) ∧ (∀ n os, (grow ((w.alloc (.cells #[a, b, c] t)).drewN n) os).cell? ⟨w.heap.size, 2, none⟩ = some c) :=
  ⟨fun n os => cell_grown (by simp) (by simp [go_sem]) n os, fun n os => cell_grown (by simp) (by simp [go_sem]) n os, fun n os => cell_grown (by simp) (by simp [go_sem]) n os⟩
open Go.Sort in
theorem boxG3 {w W : World} {a b c : Value} {t : TypeId} (g : Gr (w.alloc (.cells #[a, b, c] t)) W) :
    (∀ n os, (grow (W.drewN n) os).cell? ⟨w.heap.size, 0, none⟩ = some a) ∧ (∀ n os, (grow (W.drewN n) os).cell? ⟨w.heap.size, 1, none⟩ = some b) ∧ (∀ n os, (grow (W.drewN n) os).cell? ⟨w.heap.size, 2, none⟩ = some c) :=
  ⟨gr_all g (by simp [go_sem]), gr_all g (by simp [go_sem]), gr_all g (by simp [go_sem])⟩
open Go.Sort in
/-- two boxed rows of three, in whatever world behind them -/
theorem boxesG3 {w W : World} {a b c d e f : Value} {t t2 : TypeId} (g : Gr ((w.alloc (.cells #[a, b, c] t)).alloc (.cells #[d, e, f] t2)) W) :
    (∀ n os, (grow (W.drewN n) os).cell? ⟨w.heap.size, 0, none⟩ = some a) ∧ (∀ n os, (grow (W.drewN n) os).cell? ⟨w.heap.size, 1, none⟩ = some b) ∧ (∀ n os, (grow (W.drewN n) os).cell? ⟨w.heap.size, 2, none⟩ = some c) ∧
    (∀ n os, (grow (W.drewN n) os).cell? ⟨w.heap.size + 1, 0, none⟩ = some d) ∧ (∀ n os, (grow (W.drewN n) os).cell? ⟨w.heap.size + 1, 1, none⟩ = some e) ∧ (∀ n os, (grow (W.drewN n) os).cell? ⟨w.heap.size + 1, 2, none⟩ = some f) := by
  obtain ⟨x, y, z⟩ := boxG3 (Gr.trans (Gr.alloc (Gr.refl _) _) g)
  exact ⟨x, y, z, gr_all g (by simp [go_sem]), gr_all g (by simp [go_sem]), gr_all g (by simp [go_sem])⟩
theorem Try.infoB : (Try.prog.info? 34).map (fun i => (i.zero, i.size, i.bytes)) = some (some (.agg #[.int .i64 0, .int .i64 0, .bool false]), 3, 24) := by kernel_rfl
def bV (b : Blk) : Value := .agg #[.int .i64 b.1, .int .i64 b.2.1, .bool b.2.2]
set_option maxHeartbeats 400000 in
theorem Try.toBlock (x y : Int) (u : Bool) (w : World) :
    Calls Try.prog 10 #[.agg #[.int .i64 x, .int .i64 y, .bool u]] w fun e w' => e = .returned (.agg #[.int .i64 x, .int .i64 y, .bool u]) ∧ Gr w w' := by
  go_enter Try.func10, Try.ntmps10
  go_wp2
  exact bodyPost_ret (v := .agg #[.int .i64 x, .int .i64 y, .bool u]) (by simp [results, Try.results10, go_sem]) rfl ⟨rfl, by repeat (first | exact Gr.refl _ | refine Gr.alloc ?_ _ | refine Gr.trans ?_ (by assumption) | refine Gr.drew ?_ | refine Gr.drewN ?_ _ | refine Gr.grow ?_ _ | refine Gr.setCell ?_ (by (try simp); (try omega)) _)⟩
set_option maxHeartbeats 400000 in
theorem Try.eqBlock (x y : Int) (u : Bool) (w : World) :
    Calls Try.prog 47 #[.agg #[.int .i64 x, .int .i64 y, .bool u], .agg #[.int .i64 x, .int .i64 y, .bool u]] w fun e w' => e = .returned (.bool true) ∧ Gr w w' := by
  obtain ⟨b0, b1, b2, b3, b4, b5⟩ := boxesG3 (Gr.refl ((w.alloc (.cells #[.int .i64 x, .int .i64 y, .bool u] 34)).alloc (.cells #[.int .i64 x, .int .i64 y, .bool u] 34)))
  have uu : (u != u) = false := by simp
  go_enter Try.func47, Try.ntmps47
  go_wp2
  (try (go_quiet (fail); go_wp2))
  (try (go_quiet (fail); go_wp2))
  (try (go_quiet (fail); go_wp2))
  go_ret
  exact ⟨rfl, by repeat (first | exact Gr.refl _ | refine Gr.alloc ?_ _ | refine Gr.trans ?_ (by assumption) | refine Gr.drew ?_ | refine Gr.drewN ?_ _ | refine Gr.grow ?_ _ | refine Gr.setCell ?_ (by (try simp); (try omega)) _)⟩
set_option maxHeartbeats 400000 in
theorem Try.szBlockS (w : World) (A : Option Addr) (len cap : Nat) (left : Int) (h0 : 0 ≤ left) (h1 : left ≤ 1048576) (h2 : len ≤ maxLen) :
    Calls Try.prog 27 #[.slice A len cap, .int .i64 left] w fun e w' => e = .returned (.int .i64 (if left < len then -1 else left - len)) ∧ w = w' := by
  unfold maxLen at h2
  by_cases hlt : left < (len : Int)
  · rw [if_pos hlt]
    have q : left - (len : Int) < 0 := by omega
    go_enter Try.func27, Try.ntmps27
    go_wp2
    go_ret
    exact ⟨rfl, rfl⟩
  · rw [if_neg hlt]
    have q : ¬ left - (len : Int) < 0 := by omega
    go_enter Try.func27, Try.ntmps27
    go_wp2
    go_ret
    exact ⟨rfl, rfl⟩
def CRelB (B : Nat) (xs : List Blk) (v : Value) (w : World) (i : Value) (wr : World) : Prop := ∃ k : Nat, k ≤ xs.length ∧ i = .int .i64 k ∧ OwnB wr B v (cpe b0 k xs) ∧ Below B w wr
theorem cells3 {w : World} {ad : Addr} {b : Blk} (h : ∀ i u, (bcs b)[i]? = some u → w.cell? (ad.add i) = some u) : ∀ j v, [Value.int .i64 b.1, .int .i64 b.2.1, .bool b.2.2][j]? = some v → w.cell? (ad.add j) = some v := h
set_option maxRecDepth 100000 in
set_option maxHeartbeats 800000 in
theorem Try.toBlockS (w : World) (A : Option Addr) (len cap : Nat) (xs : List Blk) (hb : len ≤ 1048576) (h : ArgB w A len cap xs) :
    Calls Try.prog 32 #[.slice A len cap] w fun e w' => ∃ v, e = .returned v ∧ OwnB w' w.heap.size v xs ∧ Below w.heap.size w w' := by
  obtain ⟨rfl, h1, h2, h4⟩ := h
  obtain ⟨i0, hi, hz0, hz1, hz2⟩ := info_parts Try.infoB
  have H4 := Lib.hid h4
  clear h1 h2 h4
  go_enter Try.func32, Try.ntmps32
  go_wp2_with (at_make; refine wpList_make_full _ rfl _ _ 28 rfl w.heap.size 34 i0 (.agg #[.int .i64 0, .int .i64 0, .bool false]) 3 Try.underlying28 hi hz0 hz1 .i64 .i64 _ _ xs.length rfl rfl (by rfl) (by rfl) (by rw [hz2]; omega) (by unfold maxLen; omega) (Nat.le_refl _) ?_)
  intro w2 hown2 hgrow2
  have hb2 : Below w.heap.size w w2 := (Below.refl _ _).grown hgrow2 (Nat.le_refl _) (by simp)
  have ho2 : OwnB w2 w.heap.size (.slice (some ⟨w.heap.size, 0, none⟩) xs.length xs.length) (cpe b0 0 xs) := by
    unfold OwnB OwnE
    rw [cpe_zero, ecs_zero bcs_len (by decide) b0 #[.int .i64 0, .int .i64 0, .bool false] rfl]
    simpa [Value.cells] using hown2
  have HO := Lib.hid ho2
  have HB := Lib.hid hb2
  clear hown2 hgrow2 ho2 hb2
  go_wp2
  go_loopw [4] (fun i wr => CRelB w.heap.size xs (.slice (some ⟨w.heap.size, 0, none⟩) xs.length xs.length) w i wr) (fun i _ => (xs.length - intOf i).toNat)
  case atStart => exact ⟨0, Nat.zero_le _, rfl, HO.out, HB.out⟩
  case round =>
    obtain ⟨k, hk, rfl, ho, hb'⟩ := hrel
    by_cases hlt : k < xs.length
    · rcases H4.out with q | ⟨a, rfl, hc⟩
      · rw [q] at hlt; simp at hlt
      have hcc := ArgE.at bcs_len b0 hc k hlt
      have hsz := hb'.size
      have z0 : (0 : Int) ≤ (k : Int) := by omega
      have z1 : (k : Int) < (xs.length : Int) := by omega
      have HO' := Lib.hid ho
      have HB' := Lib.hid hb'
      rcases hy : xs.getD k b0 with ⟨y0, y1, y2⟩
      rw [hy] at hcc
      have HY := Lib.hid hy
      have LC := Lib.hid (fun j v (hv : [Value.int .i64 y0, .int .i64 y1, .bool y2][j]? = some v) => cell_k2 hb' (hcc j v hv))
      have hiL : (Try.prog.info? 26).map (·.size) = some [Value.int .i64 y0, .int .i64 y1, .bool y2].length := by kernel_rfl
      clear hy hc ho hb' hcc
      have hl := cpe_len (d := b0) k xs hk
      go_wp2_with (first | (refine wpList_load_at rfl _ _ rfl (a.add (k * 3)) rfl _ _ LC.out Try.underlying26 rfl hiL ?_) | (go_at_call 10; refine (Try.toBlock _ _ _ _).mono ?_; rintro e w1 ⟨rfl, hbW⟩; have HO1 := Lib.hid (OwnE.gr HO'.out hbW); obtain ⟨s0, s1, s2, s3, s4, s5⟩ := OwnB.at HO1.out hl k hlt; clear hl))
      go_roundw
      case rel =>
        refine ⟨k + 1, by omega, by go_num, ?_, ?_⟩
        · have := OwnB.set3 HO1.out (cpe_len k xs hk) k y0 y1 y2 hlt
          rw [← HY.out, cpe_set k xs hlt] at this
          exact this
        · exact (((HB'.out.trans (hbW.below.mono HB'.out.size)).setCell (Nat.le_refl _) _).setCell (Nat.le_refl _) _).setCell (Nat.le_refl _) _
      case measure => simp [intOf]; omega
    · obtain rfl : k = xs.length := by omega
      have HO' := Lib.hid ho
      have HB' := Lib.hid hb'
      clear ho hb'
      go_wp2
      go_ret
      exact ⟨_, rfl, by have := HO'.out; rw [cpe_all] at this; exact this, HB'.out⟩
def ERelB (n : Nat) (w : World) (s : Value) (wr : World) : Prop := Gr w wr ∧ ∃ i : Nat, i ≤ n ∧ s = .int .i64 i
set_option maxRecDepth 100000 in
set_option maxHeartbeats 800000 in
theorem Try.eqBlockS (w : World) (B B' : Nat) (a b : Value) (ps : List Blk) (ha : OwnB w B a ps) (hb : OwnB w B' b ps) :
    Calls Try.prog 20 #[a, b] w fun e w' => e = .returned (.bool true) ∧ Gr w w' := by
  rcases OwnB.view ha with ⟨hx, A, c, rfl⟩ | ⟨h0, g, c, rfl, g1, g2, hcl, hm, hc, _⟩
  · subst hx
    rcases OwnB.view hb with ⟨_, A', c', rfl⟩ | ⟨h0, _⟩
    · clear ha hb
      go_enter Try.func20, Try.ntmps20
      go_wp2
      refine wp_loop_rounds 1 ?_
      rw [rounds_succ]
      go_wp2
      go_ret
      exact ⟨rfl, by repeat (first | exact Gr.refl _ | refine Gr.alloc ?_ _ | refine Gr.trans ?_ (by assumption) | refine Gr.drew ?_ | refine Gr.drewN ?_ _ | refine Gr.grow ?_ _ | refine Gr.setCell ?_ (by (try simp); (try omega)) _)⟩
    · simp at h0
  · rcases OwnB.view hb with ⟨hx, _⟩ | ⟨_, g', c', rfl, _, _, hcl', _, hc', _⟩
    · simp [hx] at h0
    · clear ha hb
      unfold maxLen at hm
      have HC := Lib.hid hc
      have HC' := Lib.hid hc'
      clear hc hc'
      generalize hn : ps.length = n at *
      have HN := Lib.hid hn
      clear hn
      have mixed : Try.prog.follows .mixedOrders = true := by kernel_rfl
      go_enter Try.func20, Try.ntmps20
      go_wp2
      go_loopw [5] (fun s wr => ERelB n w s wr) (fun s _ => n - (intOf s).toNat)
      case atStart => exact ⟨Gr.refl _, 0, Nat.zero_le _, rfl⟩
      case round =>
        obtain ⟨gr, i, hi, rfl⟩ := hrel
        by_cases hlt : i < n
        · have e1 := gr_all gr (HC.out i hlt).1
          have e2 := gr_all gr (HC.out i hlt).2.1
          have e3 := gr_all gr (HC.out i hlt).2.2
          have e4 := gr_all gr (HC'.out i hlt).1
          have e5 := gr_all gr (HC'.out i hlt).2.1
          have e6 := gr_all gr (HC'.out i hlt).2.2
          have z0 : (0 : Int) ≤ (i : Int) := by omega
          have z1 : (i : Int) < (n : Int) := by omega
          have GR := Lib.hid gr
          clear gr
          generalize (ps.getD i b0).1 = y0 at *
          generalize (ps.getD i b0).2.1 = y1 at *
          generalize (ps.getD i b0).2.2 = y2 at *
          go_wp2
          (refine wp_region_quiet_grown mixed (by kernel_rfl) ?_; (repeat (first | go_big_quiet_step ((first | (go_at_call 47; exact Calls.grown_of (Try.eqBlock _ _ _ _)))) | quiet_step ((first | (go_at_call 47; exact Calls.grown_of (Try.eqBlock _ _ _ _)))))); refine wpQuiet_nil ?_; intro _ hw'; obtain ⟨⟨nq, osq⟩, hw''⟩ := hw'; subst hw'')
          go_wp2
          go_roundw
          case rel => exact ⟨Gr.grow (Gr.drewN GR.out _) _, i + 1, by omega, by go_num⟩
          case measure => simp [intOf]; omega
        · obtain rfl : i = n := by omega
          go_wp2
          go_ret
          exact ⟨rfl, gr⟩
/-- the marks that the law lays -/
def mkb (j : Nat) : Blk := (1 + 3 * j, 1 + 3 * j + 1, true)
def MRelB (n B : Nat) (xs : List Blk) (v : Value) (w : World) (k s : Value) (wr : World) : Prop := ∃ i : Nat, i ≤ n ∧ s = .int .i64 i ∧ k = .int .i64 (1 + 3 * i) ∧ OwnB wr B v (mke mkb i xs) ∧ w.grownBy wr v.ownBlock
theorem grownBy_setCell {w w' : World} {g o : Nat} {u : Value} (h : w.grownBy w' (some g)) : w.grownBy (w'.setCell ⟨g, o, none⟩ u) (some g) :=
  ⟨h.os, h.tape, h.output, by simpa using h.size, fun k hk hne => by rw [heap_setCell_other w' ⟨g, o, none⟩ k u (fun e => hne (by rw [e]))]; exact h.block k hk hne⟩
set_option maxRecDepth 100000 in
set_option maxHeartbeats 800000 in
theorem Try.markBlockS (w : World) (B : Nat) (v : Value) (xs : List Blk) (hlen : xs.length ≤ 1000000000) (h : OwnB w B v xs) :
    Calls Try.prog 23 #[v, .int .i64 1] w fun e w' => e = .returned (.int .i64 (1 + 3 * (xs.length : Int))) ∧ OwnB w' B v (mke mkb xs.length xs) ∧ w.grownBy w' v.ownBlock := by
  rcases OwnB.view h with ⟨hx, A, c, rfl⟩ | ⟨h0, g, c, rfl, g1, g2, hcl, hm, hc, hf⟩
  · subst hx
    have H := Lib.hid h
    clear h
    go_enter Try.func23, Try.ntmps23
    go_wp2
    refine wp_loop_rounds 1 ?_
    rw [rounds_succ]
    go_wp2
    go_ret
    exact ⟨by simp, by simpa [mke] using H.out, World.grownBy.refl _ _⟩
  · unfold maxLen at hm
    clear hc hf
    have H := Lib.hid h
    clear h
    go_enter Try.func23, Try.ntmps23
    go_wp2
    go_loopw [1, 5] (fun k s wr => MRelB xs.length B xs (.slice (some ⟨g, 0, none⟩) xs.length c) w k s wr) (fun _ s _ => xs.length - (intOf s).toNat)
    case atStart => exact ⟨0, Nat.zero_le _, rfl, by go_num, by rw [mke_zero]; exact H.out, World.grownBy.refl _ _⟩
    case round =>
      obtain ⟨i, hi, rfl, rfl, ho, hb⟩ := hrel
      by_cases hlt : i < xs.length
      · obtain ⟨s0, s1, s2, s3, s4, s5⟩ := OwnB.at ho (mke_len mkb i xs hi) i hlt
        have z0 : (0 : Int) ≤ (i : Int) := by omega
        have z1 : (i : Int) < (xs.length : Int) := by omega
        have z2 : ((1 + 3 * (i : Int) + 1 + 1).tmod 3 = 0) := by rw [Int.tmod_eq_emod_of_nonneg (by omega)]; omega
        have HO := Lib.hid ho
        have HB := Lib.hid hb
        clear ho hb
        generalize ((mke mkb i xs).getD i b0).1 = y0 at s0
        generalize ((mke mkb i xs).getD i b0).2.1 = y1 at s1
        generalize ((mke mkb i xs).getD i b0).2.2 = y2 at s2
        go_wp2
        go_roundw
        case rel =>
          refine ⟨i + 1, by omega, by go_num, by go_num, ?_, grownBy_setCell (grownBy_setCell (grownBy_setCell HB.out))⟩
          have := OwnB.set3 HO.out (mke_len mkb i xs hi) i (1 + 3 * i) (1 + 3 * i + 1) true hlt
          rw [show (1 + 3 * (i : Int), 1 + 3 * (i : Int) + 1, true) = mkb i from rfl, mke_set mkb i xs hlt] at this
          exact this
        case measure => simp [intOf]; omega
      · obtain rfl : i = xs.length := by omega
        have HO := Lib.hid ho
        have HB := Lib.hid hb
        clear ho hb
        go_wp2
        go_ret
        exact ⟨rfl, HO.out, HB.out⟩
def HRelB (n : Nat) (w : World) (k s : Value) (wr : World) : Prop := w = wr ∧ ∃ i : Nat, i ≤ n ∧ s = .int .i64 i ∧ k = .int .i64 (1 + 3 * i)
set_option maxRecDepth 100000 in
set_option maxHeartbeats 800000 in
theorem Try.heldBlockS (w : World) (B : Nat) (v : Value) (xs : List Blk) (hlen : xs.length ≤ 1000000000) (h : OwnB w B v (mke mkb xs.length xs)) :
    Calls Try.prog 24 #[v, .int .i64 1] w fun e w' => e = .returned (.int .i64 (1 + 3 * (xs.length : Int))) ∧ w = w' := by
  have hl := mke_len mkb xs.length xs (Nat.le_refl _)
  rcases OwnB.view h with ⟨hx, A, c, rfl⟩ | ⟨h0, g, c, rfl, g1, g2, hcl, hm, hc, hf⟩
  · have h0 : xs.length = 0 := by rw [← hl, hx]; rfl
    rw [h0]
    clear h hx hl h0
    go_enter Try.func24, Try.ntmps24
    go_wp2
    refine wp_loop_rounds 1 ?_
    rw [rounds_succ]
    go_wp2
    go_ret
    exact ⟨by simp, rfl⟩
  · rw [hl] at hcl h0 hc ⊢
    unfold maxLen at hm
    have HC := Lib.hid hc
    clear hc hf h hl
    go_enter Try.func24, Try.ntmps24
    go_wp2
    go_loopw [1, 5] (fun k s wr => HRelB xs.length w k s wr) (fun _ s _ => xs.length - (intOf s).toNat)
    case atStart => exact ⟨rfl, 0, Nat.zero_le _, rfl, by go_num⟩
    case round =>
      obtain ⟨rfl, i, hi, rfl, rfl⟩ := hrel
      by_cases hlt : i < xs.length
      · obtain ⟨e1, e2, e3⟩ := HC.out i hlt
        rw [mke_get mkb xs i hlt] at e1 e2 e3
        simp only [mkb] at e1 e2 e3
        have z0 : (0 : Int) ≤ (i : Int) := by omega
        have z1 : (i : Int) < (xs.length : Int) := by omega
        have z2 : ((1 + 3 * (i : Int) + 1 + 1).tmod 3 = 0) := by rw [Int.tmod_eq_emod_of_nonneg (by omega)]; omega
        go_wp2
        go_roundw
        case rel => exact ⟨rfl, i + 1, by omega, by go_num, by go_num⟩
        case measure => simp [intOf]; omega
      · obtain rfl : i = xs.length := by omega
        go_wp2
        go_ret
        exact ⟨rfl, rfl⟩
end Go.Proofs
