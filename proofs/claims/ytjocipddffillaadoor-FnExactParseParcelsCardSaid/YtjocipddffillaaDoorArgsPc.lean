/-
  Lists of plates: what the library reads of such an argument; the contracts of the law's own helpers (copy, count, same, marks, marks held).
-/
import Derived.Test.YtjocipddffillaaDoorPrs
import Derived.Test.YtjocipddffillaaDoorPaA
import Derived.Deep.SlicePairs
namespace Go.Proofs
open Go.RowKit
set_option linter.unusedVariables false
set_option linter.unusedSimpArgs false
section
open Go.ChangeShapes Go.WideShapes
variable {H : Type} {enc : TypeId × Value → H} {P : Program} {w : World} {base : Nat} {spare : Nat → Bool} {held : Bool}
theorem ArgP.of_trod {t e : TypeId} {f0 f1 : Field} {fuel : Nat} {A : Option Addr} {len cap : Nat} {x : DataW H × List MemPlace} (ht : P.underlying t = some (.slice e)) (he : P.underlying e = some (.struct #[f0, f1]))
    (ce : P.cellsOf e = 2) (o0 : f0.offset = 0) (o1 : f1.offset = 1) (c0 : P.cellsOf f0.type = 1) (c1 : P.cellsOf f1.type = 1)
    (t0 : P.underlying f0.type = some (.int .i64)) (t1 : P.underlying f1.type = some (.int .i64))
    (h : DataW.trod enc P w base spare held fuel t [.slice A len cap] = some x) : ∃ zs, ArgP w A len cap zs := by
  rcases Go.Deep.open_slice_pairs ht he ce o0 o1 c0 c1 h with ⟨hcs, _⟩ | ⟨a, l, c, m, n, V0, V1, D0, D1, P0, P1, hcs, hb, hl, hm, hmm, hx, hi⟩
  · simp at hcs
    obtain ⟨rfl, rfl, rfl⟩ := hcs
    exact ⟨[], rfl, Nat.le_refl _, Nat.zero_le _, fun p hp => by simp at hp, .inl rfl⟩
  · simp at hcs
    obtain ⟨rfl, rfl, rfl⟩ := hcs
    have hlm : len ≤ m := by rw [hmm]; split <;> omega
    have each : ∀ i, i < len → ∃ p : Int × Int, V0 i = .int .i64 p.1 ∧ V1 i = .int .i64 p.2 ∧ (Lit.int .i64 p.1).wf = true ∧ (Lit.int .i64 p.2).wf = true := by
      intro i hil
      obtain ⟨_, _, q0, q1⟩ := hi i (by omega)
      obtain ⟨y0, e0, _, w0⟩ := DataW.trod_int t0 q0
      obtain ⟨y1, e1, _, w1⟩ := DataW.trod_int t1 q1
      simp at e0 e1
      exact ⟨(y0, y1), e0, e1, w0, w1⟩
    obtain ⟨f, hf⟩ := Go.Deep.choose_lt each
    refine ⟨(List.range len).map f, by simp, hl, hm, ?_, .inr ⟨a, rfl, fun j hj => ?_⟩⟩
    · intro p hp
      obtain ⟨i, hi', rfl⟩ := List.mem_map.1 hp
      obtain ⟨_, _, a1, a2⟩ := hf i (List.mem_range.1 hi')
      exact ⟨a1, a2⟩
    · have hj' : j < len := by simpa using hj
      obtain ⟨e0, e1, _, _⟩ := hf j hj'
      obtain ⟨q0, q1, _, _⟩ := hi j (by omega)
      rw [e0] at q0
      rw [e1] at q1
      simp only [List.getD, List.getElem?_map, List.getElem?_range hj', Option.map_some, Option.getD_some]
      exact ⟨q0, q1⟩
end
theorem Tryd.infoP : (Tryd.prog.info? 37).map (fun i => (i.zero, i.size, i.bytes)) = some (some (.agg #[.int .i64 0, .int .i64 0]), 2, 16) := by kernel_rfl
set_option maxHeartbeats 400000 in
theorem Tryd.szParcelS (w : World) (A : Option Addr) (len cap : Nat) (left : Int) (h0 : 0 ≤ left) (h1 : left ≤ 1048576) (h2 : len ≤ maxLen) :
    Calls Tryd.prog 5 #[.slice A len cap, .int .i64 left] w fun e w' => e = .returned (.int .i64 (if left < len then -1 else left - len)) ∧ w = w' := by
  unfold maxLen at h2
  by_cases hlt : left < (len : Int)
  · rw [if_pos hlt]
    have q : left - (len : Int) < 0 := by omega
    go_enter Tryd.func5, Tryd.ntmps5
    go_wp2
    go_ret
    exact ⟨rfl, rfl⟩
  · rw [if_neg hlt]
    have q : ¬ left - (len : Int) < 0 := by omega
    go_enter Tryd.func5, Tryd.ntmps5
    go_wp2
    go_ret
    exact ⟨rfl, rfl⟩
def CRelP (T : TypeId) (B : Nat) (xs : List Pi2) (v : Value) (w : World) (i : Value) (wr : World) : Prop := ∃ k : Nat, k ≤ xs.length ∧ i = .int .i64 k ∧ OwnP T wr B v (cpp k xs) ∧ Below B w wr
set_option maxRecDepth 100000 in
set_option maxHeartbeats 800000 in
theorem Tryd.toParcelS (w : World) (A : Option Addr) (len cap : Nat) (xs : List Pi2) (hb : len ≤ 1048576) (h : ArgP w A len cap xs) :
    Calls Tryd.prog 7 #[.slice A len cap] w fun e w' => ∃ v, e = .returned v ∧ OwnP 37 w' w.heap.size v xs ∧ Below w.heap.size w w' := by
  obtain ⟨rfl, h1, h2, h3, h4⟩ := h
  obtain ⟨i0, hi, hz0, hz1, hz2⟩ := info_parts Tryd.infoP
  have H4 := Lib.hid h4
  clear h1 h2 h3 h4
  go_enter Tryd.func7, Tryd.ntmps7
  go_wp2_with (at_make; refine wpList_make_full _ rfl _ _ 26 rfl w.heap.size 37 i0 (.agg #[.int .i64 0, .int .i64 0]) 2 Tryd.underlying26 hi hz0 hz1 .i64 .i64 _ _ xs.length rfl rfl (by rfl) (by rfl) (by rw [hz2]; omega) (by unfold maxLen; omega) (Nat.le_refl _) ?_)
  intro w2 hown2 hgrow2
  have hb2 : Below w.heap.size w w2 := (Below.refl _ _).grown hgrow2 (Nat.le_refl _) (by simp)
  have ho2 : OwnP 37 w2 w.heap.size (.slice (some ⟨w.heap.size, 0, none⟩) xs.length xs.length) (cpp 0 xs) := by
    unfold OwnP
    rw [cpp_zero, pcs_zero]
    simpa [Value.cells] using hown2
  have HO := Lib.hid ho2
  have HB := Lib.hid hb2
  clear hown2 hgrow2 ho2 hb2
  go_wp2
  go_loopw [4] (fun i wr => CRelP 37 w.heap.size xs (.slice (some ⟨w.heap.size, 0, none⟩) xs.length xs.length) w i wr) (fun i _ => (xs.length - intOf i).toNat)
  case atStart => exact ⟨0, Nat.zero_le _, rfl, HO.out, HB.out⟩
  case round =>
    obtain ⟨k, hk, rfl, ho, hb'⟩ := hrel
    by_cases hlt : k < xs.length
    · rcases H4.out with q | ⟨a, rfl, hc⟩
      · rw [q] at hlt; simp at hlt
      obtain ⟨c0, c1⟩ := hc k hlt
      have e0 := cell_k2 hb' c0
      have e1 := cell_k2 hb' c1
      have hsz := hb'.size
      have z0 : (0 : Int) ≤ (k : Int) := by omega
      have z1 : (k : Int) < (xs.length : Int) := by omega
      have HO' := Lib.hid ho
      have HB' := Lib.hid hb'
      clear ho hb' hc c0 c1
      rcases hy : xs.getD k (0, 0) with ⟨y0, y1⟩
      rw [hy] at e0 e1
      have HY := Lib.hid hy
      clear hy
      simp only at e0 e1
      have e2 : wr.cell? ((a.add (k * 2)).add 1) = some (.int .i64 y1) := by rw [Go.Deep.add_add]; exact e1
      have LC := Lib.hid (cells2 e0 e2)
      have hiL : (Tryd.prog.info? 39).map (·.size) = some [Value.int .i64 y0, .int .i64 y1].length := by kernel_rfl
      clear e0 e1 e2
      have hl := cpp_len k xs hk
      go_wp2_with (first | (refine wpList_load_at rfl _ _ rfl (a.add (k * 2)) rfl _ _ LC.out Tryd.underlying39 rfl hiL ?_) | (go_at_call 16; refine (Tryd.toParcel _ _ _).mono ?_; rintro e w1 ⟨rfl, hbW⟩; have HO1 := Lib.hid (HO'.out.gr hbW); obtain ⟨s0, s1, s2, s3⟩ := HO1.out.at hl k hlt; clear hl))
      go_roundw
      case rel =>
        refine ⟨k + 1, by omega, by go_num, ?_, ?_⟩
        · have := OwnP.set2 HO1.out (cpp_len k xs hk) k y0 y1 hlt
          rw [← HY.out, cpp_set k xs hlt] at this
          exact this
        · exact ((HB'.out.trans (hbW.below.mono HB'.out.size)).setCell (Nat.le_refl _) _).setCell (Nat.le_refl _) _
      case measure => simp [intOf]; omega
    · obtain rfl : k = xs.length := by omega
      have HO' := Lib.hid ho
      have HB' := Lib.hid hb'
      clear ho hb'
      go_wp2
      go_ret
      exact ⟨_, rfl, by have := HO'.out; rw [cpp_all] at this; exact this, HB'.out⟩
def ERelP (n : Nat) (w : World) (s : Value) (wr : World) : Prop := Gr w wr ∧ ∃ i : Nat, i ≤ n ∧ s = .int .i64 i
set_option maxRecDepth 100000 in
set_option maxHeartbeats 800000 in
theorem Tryd.eqParcelS (w : World) (B B' : Nat) (a b : Value) (ps : List Pi2) (ha : OwnP 37 w B a ps) (hb : OwnP 37 w B' b ps) :
    Calls Tryd.prog 9 #[a, b] w fun e w' => e = .returned (.bool true) ∧ Gr w w' := by
  rcases ha.view with ⟨hx, A, c, rfl⟩ | ⟨h0, g, c, rfl, g1, g2, hcl, hm, hc, _⟩
  · subst hx
    rcases hb.view with ⟨_, A', c', rfl⟩ | ⟨h0, _⟩
    · clear ha hb
      go_enter Tryd.func9, Tryd.ntmps9
      go_wp2
      refine wp_loop_rounds 1 ?_
      rw [rounds_succ]
      go_wp2
      go_ret
      exact ⟨rfl, by repeat (first | exact Gr.refl _ | refine Gr.alloc ?_ _ | refine Gr.trans ?_ (by assumption) | refine Gr.drew ?_ | refine Gr.drewN ?_ _ | refine Gr.grow ?_ _ | refine Gr.setCell ?_ (by (try simp); (try omega)) _)⟩
    · simp at h0
  · rcases hb.view with ⟨hx, _⟩ | ⟨_, g', c', rfl, _, _, hcl', _, hc', _⟩
    · simp [hx] at h0
    · clear ha hb
      unfold maxLen at hm
      have HC := Lib.hid hc
      have HC' := Lib.hid hc'
      clear hc hc'
      generalize hn : ps.length = n at *
      have HN := Lib.hid hn
      clear hn
      have mixed : Tryd.prog.follows .mixedOrders = true := by kernel_rfl
      go_enter Tryd.func9, Tryd.ntmps9
      go_wp2
      go_loopw [5] (fun s wr => ERelP n w s wr) (fun s _ => n - (intOf s).toNat)
      case atStart => exact ⟨Gr.refl _, 0, Nat.zero_le _, rfl⟩
      case round =>
        obtain ⟨gr, i, hi, rfl⟩ := hrel
        by_cases hlt : i < n
        · have e1 := gr_all gr (HC.out i hlt).1
          have e2 := gr_all gr (HC.out i hlt).2
          have e3 := gr_all gr (HC'.out i hlt).1
          have e4 := gr_all gr (HC'.out i hlt).2
          have z0 : (0 : Int) ≤ (i : Int) := by omega
          have z1 : (i : Int) < (n : Int) := by omega
          have GR := Lib.hid gr
          clear gr
          generalize (ps.getD i (0, 0)).1 = y0 at *
          generalize (ps.getD i (0, 0)).2 = y1 at *
          go_wp2
          (refine wp_region_quiet_grown mixed (by kernel_rfl) ?_; (repeat (first | go_big_quiet_step ((first | (go_at_call 20; exact Calls.grown_of (Tryd.eqParcel _ _ _)))) | quiet_step ((first | (go_at_call 20; exact Calls.grown_of (Tryd.eqParcel _ _ _)))))); refine wpQuiet_nil ?_; intro _ hw'; obtain ⟨⟨nq, osq⟩, hw''⟩ := hw'; subst hw'')
          go_wp2
          go_roundw
          case rel => exact ⟨Gr.grow (Gr.drewN GR.out _) _, i + 1, by omega, by go_num⟩
          case measure => simp [intOf]; omega
        · obtain rfl : i = n := by omega
          go_wp2
          go_ret
          exact ⟨rfl, gr⟩
def MRelP (T : TypeId) (m : Int) (n B : Nat) (xs : List Pi2) (v : Value) (w : World) (k s : Value) (wr : World) : Prop := ∃ i : Nat, i ≤ n ∧ s = .int .i64 i ∧ k = .int .i64 (m + 2 * i) ∧ OwnP T wr B v (mkp m i xs) ∧ w.grownBy wr v.ownBlock
theorem grownBy_setCell {w w' : World} {g o : Nat} {u : Value} (h : w.grownBy w' (some g)) : w.grownBy (w'.setCell ⟨g, o, none⟩ u) (some g) :=
  ⟨h.os, h.tape, h.output, by simpa using h.size, fun k hk hne => by rw [heap_setCell_other w' ⟨g, o, none⟩ k u (fun e => hne (by rw [e]))]; exact h.block k hk hne⟩
set_option maxRecDepth 100000 in
set_option maxHeartbeats 800000 in
theorem Tryd.markParcelS (w : World) (B : Nat) (v : Value) (xs : List Pi2) (m : Int) (m0 : 0 ≤ m) (m1 : m ≤ 1000000000) (hlen : xs.length ≤ 1000000000) (h : OwnP 37 w B v xs) :
    Calls Tryd.prog 12 #[v, .int .i64 m] w fun e w' => e = .returned (.int .i64 (m + 2 * (xs.length : Int))) ∧ OwnP 37 w' B v (mkp m xs.length xs) ∧ w.grownBy w' v.ownBlock := by
  rcases h.view with ⟨hx, A, c, rfl⟩ | ⟨h0, g, c, rfl, g1, g2, hcl, hm, hc, hf⟩
  · subst hx
    have H := Lib.hid h
    clear h
    go_enter Tryd.func12, Tryd.ntmps12
    go_wp2
    refine wp_loop_rounds 1 ?_
    rw [rounds_succ]
    go_wp2
    go_ret
    exact ⟨by simp, by simpa [mkp] using H.out, World.grownBy.refl _ _⟩
  · unfold maxLen at hm
    clear hc hf
    have H := Lib.hid h
    clear h
    go_enter Tryd.func12, Tryd.ntmps12
    go_wp2
    go_loopw [1, 5] (fun k s wr => MRelP 37 m xs.length B xs (.slice (some ⟨g, 0, none⟩) xs.length c) w k s wr) (fun _ s _ => xs.length - (intOf s).toNat)
    case atStart => exact ⟨0, Nat.zero_le _, rfl, by go_num, by rw [mkp_zero]; exact H.out, World.grownBy.refl _ _⟩
    case round =>
      obtain ⟨i, hi, rfl, rfl, ho, hb⟩ := hrel
      by_cases hlt : i < xs.length
      · obtain ⟨s0, s1, s2, s3⟩ := ho.at (mkp_len m i xs hi) i hlt
        have z0 : (0 : Int) ≤ (i : Int) := by omega
        have z1 : (i : Int) < (xs.length : Int) := by omega
        have HO := Lib.hid ho
        have HB := Lib.hid hb
        clear ho hb
        generalize ((mkp m i xs).getD i (0, 0)).1 = y0 at s0
        generalize ((mkp m i xs).getD i (0, 0)).2 = y1 at s1
        go_wp2
        go_roundw
        case rel =>
          refine ⟨i + 1, by omega, by go_num, by go_num, ?_, grownBy_setCell (grownBy_setCell HB.out)⟩
          have := OwnP.set2 HO.out (mkp_len m i xs hi) i (m + 2 * i) (m + 2 * i + 1) hlt
          rw [mkp_set m i xs hlt] at this
          exact this
        case measure => simp [intOf]; omega
      · obtain rfl : i = xs.length := by omega
        have HO := Lib.hid ho
        have HB := Lib.hid hb
        clear ho hb
        go_wp2
        go_ret
        exact ⟨rfl, HO.out, HB.out⟩
def HRelP (m : Int) (n : Nat) (w : World) (k s : Value) (wr : World) : Prop := w = wr ∧ ∃ i : Nat, i ≤ n ∧ s = .int .i64 i ∧ k = .int .i64 (m + 2 * i)
set_option maxRecDepth 100000 in
set_option maxHeartbeats 800000 in
theorem Tryd.heldParcelS (w : World) (B : Nat) (v : Value) (xs : List Pi2) (m : Int) (m0 : 0 ≤ m) (m1 : m ≤ 1000000000) (hlen : xs.length ≤ 1000000000) (h : OwnP 37 w B v (mkp m xs.length xs)) :
    Calls Tryd.prog 13 #[v, .int .i64 m] w fun e w' => e = .returned (.int .i64 (m + 2 * (xs.length : Int))) ∧ w = w' := by
  have hl := mkp_len m xs.length xs (Nat.le_refl _)
  rcases h.view with ⟨hx, A, c, rfl⟩ | ⟨h0, g, c, rfl, g1, g2, hcl, hm, hc, hf⟩
  · have h0 : xs.length = 0 := by rw [← hl, hx]; rfl
    rw [h0]
    clear h hx hl h0
    go_enter Tryd.func13, Tryd.ntmps13
    go_wp2
    refine wp_loop_rounds 1 ?_
    rw [rounds_succ]
    go_wp2
    go_ret
    exact ⟨by simp, rfl⟩
  · rw [hl] at hcl h0 hc ⊢
    unfold maxLen at hm
    have HC := Lib.hid hc
    clear hc hf h hl
    go_enter Tryd.func13, Tryd.ntmps13
    go_wp2
    go_loopw [1, 5] (fun k s wr => HRelP m xs.length w k s wr) (fun _ s _ => xs.length - (intOf s).toNat)
    case atStart => exact ⟨rfl, 0, Nat.zero_le _, rfl, by go_num⟩
    case round =>
      obtain ⟨rfl, i, hi, rfl, rfl⟩ := hrel
      by_cases hlt : i < xs.length
      · obtain ⟨e1, e2⟩ := HC.out i hlt
        rw [mkp_get m xs i hlt] at e1 e2
        simp only at e1 e2
        have z0 : (0 : Int) ≤ (i : Int) := by omega
        have z1 : (i : Int) < (xs.length : Int) := by omega
        go_wp2
        go_roundw
        case rel => exact ⟨rfl, i + 1, by omega, by go_num, by go_num⟩
        case measure => simp [intOf]; omega
      · obtain rfl : i = xs.length := by omega
        go_wp2
        go_ret
        exact ⟨rfl, rfl⟩
end Go.Proofs
