/-
  Lists of plates: what the library reads of such an argument; the contracts of the law's own helpers (copy, count, same, marks, marks held).
-/
import Derived.Test.YtcmlojidcpomjaaDoorPrs
import Derived.Test.YtcmlojidcpomjaaDoorPlA
import Derived.Deep.SlicePairs
namespace Go.Proofs
open Go.RowKit
set_option linter.unusedVariables false
set_option linter.unusedSimpArgs false
section
open Go.ChangeShapes Go.WideShapes
variable {H : Type} {enc : TypeId × Value → H} {P : Program} {w : World} {base : Nat} {spare : Nat → Bool} {held : Bool}
theorem ArgP.of_trod {t e : TypeId} {f0 f1 : Field} {fuel : Nat} {A : Option Addr} {len cap : Nat} {x : DataW H × List MemPlace} (ht : P.underlying t = some (.slice e)) (he : P.underlying e = some (.struct #[f0, f1]))
    (ce : P.cellsOf e = 2) (o0 : f0.offset = 0) (o1 : f1.offset = 1) (c0 : P.cellsOf f0.type = 1) (c1 : P.cellsOf f1.type = 1)
    (t0 : P.underlying f0.type = some (.int .i64)) (t1 : P.underlying f1.type = some (.int .i64))
    (h : DataW.trod enc P w base spare held fuel t [.slice A len cap] = some x) : ∃ zs, ArgP w A len cap zs := by
  rcases Go.Deep.open_slice_pairs ht he ce o0 o1 c0 c1 h with ⟨hcs, _⟩ | ⟨a, l, c, m, n, V0, V1, D0, D1, P0, P1, hcs, hb, hl, hm, hmm, hx, hi⟩
  · simp at hcs
    obtain ⟨rfl, rfl, rfl⟩ := hcs
    exact ⟨[], rfl, Nat.le_refl _, Nat.zero_le _, fun p hp => by simp at hp, .inl rfl⟩
  · simp at hcs
    obtain ⟨rfl, rfl, rfl⟩ := hcs
    have hlm : len ≤ m := by rw [hmm]; split <;> omega
    have each : ∀ i, i < len → ∃ p : Int × Int, V0 i = .int .i64 p.1 ∧ V1 i = .int .i64 p.2 ∧ (Lit.int .i64 p.1).wf = true ∧ (Lit.int .i64 p.2).wf = true := by
      intro i hil
      obtain ⟨_, _, q0, q1⟩ := hi i (by omega)
      obtain ⟨y0, e0, _, w0⟩ := DataW.trod_int t0 q0
      obtain ⟨y1, e1, _, w1⟩ := DataW.trod_int t1 q1
      simp at e0 e1
      exact ⟨(y0, y1), e0, e1, w0, w1⟩
    obtain ⟨f, hf⟩ := Go.Deep.choose_lt each
    refine ⟨(List.range len).map f, by simp, hl, hm, ?_, .inr ⟨a, rfl, fun j hj => ?_⟩⟩
    · intro p hp
      obtain ⟨i, hi', rfl⟩ := List.mem_map.1 hp
      obtain ⟨_, _, a1, a2⟩ := hf i (List.mem_range.1 hi')
      exact ⟨a1, a2⟩
    · have hj' : j < len := by simpa using hj
      obtain ⟨e0, e1, _, _⟩ := hf j hj'
      obtain ⟨q0, q1, _, _⟩ := hi j (by omega)
      rw [e0] at q0
      rw [e1] at q1
      simp only [List.getD, List.getElem?_map, List.getElem?_range hj', Option.map_some, Option.getD_some]
      exact ⟨q0, q1⟩
end
theorem Tryd.infoP : (Tryd.prog.info? 31).map (fun i => (i.zero, i.size, i.bytes)) = some (some (.agg #[.int .i64 0, .int .i64 0]), 2, 16) := by kernel_rfl
def CRelP (T : TypeId) (B : Nat) (xs : List Pi2) (v : Value) (w : World) (i : Value) (wr : World) : Prop := ∃ k : Nat, k ≤ xs.length ∧ i = .int .i64 k ∧ OwnP T wr B v (cpp k xs) ∧ Below B w wr
def ERelP (n : Nat) (w : World) (s : Value) (wr : World) : Prop := Gr w wr ∧ ∃ i : Nat, i ≤ n ∧ s = .int .i64 i
set_option maxRecDepth 100000 in
set_option maxHeartbeats 800000 in
theorem Tryd.eqPlateS (w : World) (B B' : Nat) (a b : Value) (ps : List Pi2) (ha : OwnP 31 w B a ps) (hb : OwnP 31 w B' b ps) :
    Calls Tryd.prog 6 #[a, b] w fun e w' => e = .returned (.bool true) ∧ Gr w w' := by
  rcases ha.view with ⟨hx, A, c, rfl⟩ | ⟨h0, g, c, rfl, g1, g2, hcl, hm, hc, _⟩
  · subst hx
    rcases hb.view with ⟨_, A', c', rfl⟩ | ⟨h0, _⟩
    · clear ha hb
      go_enter Tryd.func6, Tryd.ntmps6
      go_wp2
      refine wp_loop_rounds 1 ?_
      rw [rounds_succ]
      go_wp2
      go_ret
      exact ⟨rfl, by repeat (first | exact Gr.refl _ | refine Gr.alloc ?_ _ | refine Gr.trans ?_ (by assumption) | refine Gr.drew ?_ | refine Gr.drewN ?_ _ | refine Gr.grow ?_ _ | refine Gr.setCell ?_ (by (try simp); (try omega)) _)⟩
    · simp at h0
  · rcases hb.view with ⟨hx, _⟩ | ⟨_, g', c', rfl, _, _, hcl', _, hc', _⟩
    · simp [hx] at h0
    · clear ha hb
      unfold maxLen at hm
      have HC := Lib.hid hc
      have HC' := Lib.hid hc'
      clear hc hc'
      generalize hn : ps.length = n at *
      have HN := Lib.hid hn
      clear hn
      have mixed : Tryd.prog.follows .mixedOrders = true := by kernel_rfl
      go_enter Tryd.func6, Tryd.ntmps6
      go_wp2
      go_loopw [5] (fun s wr => ERelP n w s wr) (fun s _ => n - (intOf s).toNat)
      case atStart => exact ⟨Gr.refl _, 0, Nat.zero_le _, rfl⟩
      case round =>
        obtain ⟨gr, i, hi, rfl⟩ := hrel
        by_cases hlt : i < n
        · have e1 := gr_all gr (HC.out i hlt).1
          have e2 := gr_all gr (HC.out i hlt).2
          have e3 := gr_all gr (HC'.out i hlt).1
          have e4 := gr_all gr (HC'.out i hlt).2
          have z0 : (0 : Int) ≤ (i : Int) := by omega
          have z1 : (i : Int) < (n : Int) := by omega
          have GR := Lib.hid gr
          clear gr
          generalize (ps.getD i (0, 0)).1 = y0 at *
          generalize (ps.getD i (0, 0)).2 = y1 at *
          go_wp2
          (refine wp_region_quiet_grown mixed (by kernel_rfl) ?_; (repeat (first | go_big_quiet_step ((first | (go_at_call 15; exact Calls.grown_of (Tryd.eqPlate _ _ _)))) | quiet_step ((first | (go_at_call 15; exact Calls.grown_of (Tryd.eqPlate _ _ _)))))); refine wpQuiet_nil ?_; intro _ hw'; obtain ⟨⟨nq, osq⟩, hw''⟩ := hw'; subst hw'')
          go_wp2
          go_roundw
          case rel => exact ⟨Gr.grow (Gr.drewN GR.out _) _, i + 1, by omega, by go_num⟩
          case measure => simp [intOf]; omega
        · obtain rfl : i = n := by omega
          go_wp2
          go_ret
          exact ⟨rfl, gr⟩
def MRelP (T : TypeId) (m : Int) (n B : Nat) (xs : List Pi2) (v : Value) (w : World) (k s : Value) (wr : World) : Prop := ∃ i : Nat, i ≤ n ∧ s = .int .i64 i ∧ k = .int .i64 (m + 2 * i) ∧ OwnP T wr B v (mkp m i xs) ∧ w.grownBy wr v.ownBlock
theorem grownBy_setCell {w w' : World} {g o : Nat} {u : Value} (h : w.grownBy w' (some g)) : w.grownBy (w'.setCell ⟨g, o, none⟩ u) (some g) :=
  ⟨h.os, h.tape, h.output, by simpa using h.size, fun k hk hne => by rw [heap_setCell_other w' ⟨g, o, none⟩ k u (fun e => hne (by rw [e]))]; exact h.block k hk hne⟩
set_option maxRecDepth 100000 in
set_option maxHeartbeats 800000 in
theorem Tryd.markPlateS (w : World) (B : Nat) (v : Value) (xs : List Pi2) (m : Int) (m0 : 0 ≤ m) (m1 : m ≤ 1000000000) (hlen : xs.length ≤ 1000000000) (h : OwnP 31 w B v xs) :
    Calls Tryd.prog 7 #[v, .int .i64 m] w fun e w' => e = .returned (.int .i64 (m + 2 * (xs.length : Int))) ∧ OwnP 31 w' B v (mkp m xs.length xs) ∧ w.grownBy w' v.ownBlock := by
  rcases h.view with ⟨hx, A, c, rfl⟩ | ⟨h0, g, c, rfl, g1, g2, hcl, hm, hc, hf⟩
  · subst hx
    have H := Lib.hid h
    clear h
    go_enter Tryd.func7, Tryd.ntmps7
    go_wp2
    refine wp_loop_rounds 1 ?_
    rw [rounds_succ]
    go_wp2
    go_ret
    exact ⟨by simp, by simpa [mkp] using H.out, World.grownBy.refl _ _⟩
  · unfold maxLen at hm
    clear hc hf
    have H := Lib.hid h
    clear h
    go_enter Tryd.func7, Tryd.ntmps7
    go_wp2
    go_loopw [1, 5] (fun k s wr => MRelP 31 m xs.length B xs (.slice (some ⟨g, 0, none⟩) xs.length c) w k s wr) (fun _ s _ => xs.length - (intOf s).toNat)
    case atStart => exact ⟨0, Nat.zero_le _, rfl, by go_num, by rw [mkp_zero]; exact H.out, World.grownBy.refl _ _⟩
    case round =>
      obtain ⟨i, hi, rfl, rfl, ho, hb⟩ := hrel
      by_cases hlt : i < xs.length
      · obtain ⟨s0, s1, s2, s3⟩ := ho.at (mkp_len m i xs hi) i hlt
        have z0 : (0 : Int) ≤ (i : Int) := by omega
        have z1 : (i : Int) < (xs.length : Int) := by omega
        have HO := Lib.hid ho
        have HB := Lib.hid hb
        clear ho hb
        generalize ((mkp m i xs).getD i (0, 0)).1 = y0 at s0
        generalize ((mkp m i xs).getD i (0, 0)).2 = y1 at s1
        go_wp2
        go_roundw
        case rel =>
          refine ⟨i + 1, by omega, by go_num, by go_num, ?_, grownBy_setCell (grownBy_setCell HB.out)⟩
          have := OwnP.set2 HO.out (mkp_len m i xs hi) i (m + 2 * i) (m + 2 * i + 1) hlt
          rw [mkp_set m i xs hlt] at this
          exact this
        case measure => simp [intOf]; omega
      · obtain rfl : i = xs.length := by omega
        have HO := Lib.hid ho
        have HB := Lib.hid hb
        clear ho hb
        go_wp2
        go_ret
        exact ⟨rfl, HO.out, HB.out⟩
def HRelP (m : Int) (n : Nat) (w : World) (k s : Value) (wr : World) : Prop := w = wr ∧ ∃ i : Nat, i ≤ n ∧ s = .int .i64 i ∧ k = .int .i64 (m + 2 * i)
set_option maxRecDepth 100000 in
set_option maxHeartbeats 800000 in
theorem Tryd.heldPlateS (w : World) (B : Nat) (v : Value) (xs : List Pi2) (m : Int) (m0 : 0 ≤ m) (m1 : m ≤ 1000000000) (hlen : xs.length ≤ 1000000000) (h : OwnP 31 w B v (mkp m xs.length xs)) :
    Calls Tryd.prog 8 #[v, .int .i64 m] w fun e w' => e = .returned (.int .i64 (m + 2 * (xs.length : Int))) ∧ w = w' := by
  have hl := mkp_len m xs.length xs (Nat.le_refl _)
  rcases h.view with ⟨hx, A, c, rfl⟩ | ⟨h0, g, c, rfl, g1, g2, hcl, hm, hc, hf⟩
  · have h0 : xs.length = 0 := by rw [← hl, hx]; rfl
    rw [h0]
    clear h hx hl h0
    go_enter Tryd.func8, Tryd.ntmps8
    go_wp2
    refine wp_loop_rounds 1 ?_
    rw [rounds_succ]
    go_wp2
    go_ret
    exact ⟨by simp, rfl⟩
  · rw [hl] at hcl h0 hc ⊢
    unfold maxLen at hm
    have HC := Lib.hid hc
    clear hc hf h hl
    go_enter Tryd.func8, Tryd.ntmps8
    go_wp2
    go_loopw [1, 5] (fun k s wr => HRelP m xs.length w k s wr) (fun _ s _ => xs.length - (intOf s).toNat)
    case atStart => exact ⟨rfl, 0, Nat.zero_le _, rfl, by go_num⟩
    case round =>
      obtain ⟨rfl, i, hi, rfl, rfl⟩ := hrel
      by_cases hlt : i < xs.length
      · obtain ⟨e1, e2⟩ := HC.out i hlt
        rw [mkp_get m xs i hlt] at e1 e2
        simp only at e1 e2
        have z0 : (0 : Int) ≤ (i : Int) := by omega
        have z1 : (i : Int) < (xs.length : Int) := by omega
        go_wp2
        go_roundw
        case rel => exact ⟨rfl, i + 1, by omega, by go_num, by go_num⟩
        case measure => simp [intOf]; omega
      · obtain rfl : i = xs.length := by omega
        go_wp2
        go_ret
        exact ⟨rfl, rfl⟩
end Go.Proofs
