/-
  Lists of pairs of ints, each a list of two ints in a block of its own: words; same lists, marks, marks held; one more appended.
-/
import Derived.Test.YtbnkhmemicmadaaInts2
namespace Go.Proofs
open Go.RowKit
set_option linter.unusedVariables false
set_option linter.unusedSimpArgs false
def rowV (b : Nat) : Value := .slice (some ⟨b, 0, none⟩) 2 2
/-- v is a row of the call's own of as many lists as there are pairs, each a row of two ints in a block of its own, all from block B on. -/
def OwnR (w : World) (B : Nat) (v : Value) (ps : List Pi2) : Prop :=
  ∃ bs : List Nat, bs.length = ps.length ∧ bs.Nodup ∧ w.ownsRow B 24 1 v ps.length (bs.map rowV) ∧ ∀ j, j < ps.length → OwnI w B (rowV (bs.getD j 0)) [(ps.getD j (0, 0)).1, (ps.getD j (0, 0)).2]
theorem OwnI.blk {w : World} {B b : Nat} {xs : List Int} (h : OwnI w B (rowV b) xs) : B ≤ b ∧ b < w.heap.size := World.ownsRow.lt h b rfl
/-- rows of ints and a row of such rows are never one block -/
theorem row_ne {w : World} {B B' b n : Nat} {v : Value} {xs : List Int} {cs : List Value} (h : OwnI w B (rowV b) xs) (h' : w.ownsRow B' 24 1 v n cs) : v.ownBlock = none ∨ v.ownBlock ≠ (rowV b).ownBlock := by
  rcases h'.2 with ⟨rfl, _⟩ | ⟨g, cap, cur, rfl, _, hg, _⟩
  · exact .inl rfl
  · refine .inr fun e => ?_
    have e' : g = b := by simpa [Value.ownBlock, rowV] using e
    subst e'
    rcases h.2 with ⟨q, _⟩ | ⟨g2, cap2, cur2, q, _, hg2, _⟩
    · simp [rowV] at q
    · simp only [rowV, Value.slice.injEq, Option.some.injEq, Addr.mk.injEq, and_true] at q
      obtain ⟨q, _⟩ := q
      subst q
      rw [hg] at hg2
      simp only [Option.some.injEq, Obj.cells.injEq] at hg2
      exact absurd hg2.2.1 (by decide)
theorem OwnR.nil (w : World) (B : Nat) : OwnR w B (.slice none 0 0) [] := ⟨[], rfl, List.nodup_nil, World.ownsRow_nil w B _ 1, fun j hj => by simp at hj⟩
theorem OwnR.below {w w' : World} {B C : Nat} {v : Value} {ps : List Pi2} (h : OwnR w B v ps) (hb : Below C w w') (hC : w.heap.size ≤ C) : OwnR w' B v ps := by
  obtain ⟨bs, h1, h2, h3, h4⟩ := h
  refine ⟨bs, h1, h2, ⟨h3.1, ?_⟩, fun j hj => (h4 j hj).below hb hC⟩
  rcases h3.2 with hn | ⟨g, cap, cur, rfl, hb', hg, r⟩
  · exact .inl hn
  · exact .inr ⟨g, cap, cur, rfl, hb', by rw [hb.block g (by have := (Array.getElem?_eq_some_iff.1 hg).1; omega)]; exact hg, r⟩
theorem OwnR.gr {w w' : World} {B : Nat} {v : Value} {ps : List Pi2} (h : OwnR w B v ps) (g : Gr w w') : OwnR w' B v ps := h.below g.below (Nat.le_refl _)
/-- what lies below S stays while blocks from S on are written -/
theorem OwnR.under {w0 w w' : World} {B S : Nat} {v : Value} {ps : List Pi2} (h0 : OwnR w0 B v ps) (hS : w0.heap.size ≤ S) (hb0 : Below S w0 w) (hb : Below S w w') : OwnR w' B v ps := h0.below (hb0.trans hb) hS
theorem OwnR.view {w : World} {B : Nat} {v : Value} {ps : List Pi2} (h : OwnR w B v ps) :
    (ps = [] ∧ ∃ A c, v = .slice A 0 c) ∨ (0 < ps.length ∧ ∃ (g c : Nat) (bs : List Nat), v = .slice (some ⟨g, 0, none⟩) ps.length c ∧ ps.length ≤ maxLen ∧ bs.length = ps.length ∧
      ∀ j, j < ps.length → w.cell? ⟨g, j, none⟩ = some (rowV (bs.getD j 0)) ∧ OwnI w B (rowV (bs.getD j 0)) [(ps.getD j (0, 0)).1, (ps.getD j (0, 0)).2]) := by
  obtain ⟨bs, h1, h2, h3, h4⟩ := h
  have h30 := h3
  rcases h3.2 with ⟨rfl, hn⟩ | ⟨g, cap, cur, rfl, hb, hg, hc, hm, hs, ht⟩
  · exact .inl ⟨List.length_eq_zero_iff.1 hn, none, 0, rfl⟩
  · rcases Nat.eq_zero_or_pos ps.length with e | e
    · exact .inl ⟨List.length_eq_zero_iff.1 e, _, cap, by rw [e]⟩
    · refine .inr ⟨e, g, cap, bs, rfl, by omega, h1, fun j hj => ⟨?_, h4 j hj⟩⟩
      rw [World.ownsRow.cellAt h30 j (by omega)]
      simp [List.getD, show j < bs.length by omega]
def ERelR (n : Nat) (w : World) (s : Value) (wr : World) : Prop := Gr w wr ∧ ∃ i : Nat, i ≤ n ∧ s = .int .i64 i
set_option maxRecDepth 100000 in
set_option maxHeartbeats 800000 in
theorem Try.eqIntSS (w : World) (B B' : Nat) (a b : Value) (ps : List Pi2) (ha : OwnR w B a ps) (hb : OwnR w B' b ps) :
    Calls Try.prog 26 #[a, b] w fun e w' => e = .returned (.bool true) ∧ Gr w w' := by
  rcases ha.view with ⟨hx, A, c, rfl⟩ | ⟨h0, g, c, bs, rfl, hm, hl, hc⟩
  · subst hx
    rcases hb.view with ⟨_, A', c', rfl⟩ | ⟨h0, _⟩
    · clear ha hb
      go_enter Try.func26, Try.ntmps26
      go_wp2
      refine wp_loop_rounds 1 ?_
      rw [rounds_succ]
      go_wp2
      go_ret
      exact ⟨rfl, by repeat (first | exact Gr.refl _ | refine Gr.alloc ?_ _ | refine Gr.trans ?_ (by assumption) | refine Gr.drew ?_ | refine Gr.drewN ?_ _ | refine Gr.grow ?_ _ | refine Gr.setCell ?_ (by (try simp); (try omega)) _)⟩
    · simp at h0
  · rcases hb.view with ⟨hx, _⟩ | ⟨_, g', c', bs', rfl, _, hl', hc'⟩
    · simp [hx] at h0
    · clear ha hb
      unfold maxLen at hm
      have HC := Lib.hid hc
      have HC' := Lib.hid hc'
      clear hc hc'
      generalize hn : ps.length = n at *
      have HN := Lib.hid hn
      clear hn hl hl'
      have mixed : Try.prog.follows .mixedOrders = true := by kernel_rfl
      go_enter Try.func26, Try.ntmps26
      go_wp2
      go_loopw [5] (fun s wr => ERelR n w s wr) (fun s _ => n - (intOf s).toNat)
      case atStart => exact ⟨Gr.refl _, 0, Nat.zero_le _, rfl⟩
      case round =>
        obtain ⟨gr, i, hi, rfl⟩ := hrel
        by_cases hlt : i < n
        · obtain ⟨k1, k2⟩ := HC.out i hlt
          obtain ⟨k3, k4⟩ := HC'.out i hlt
          have e1 := gr_all gr k1
          have e3 := gr_all gr k3
          have z0 : (0 : Int) ≤ (i : Int) := by omega
          have z1 : (i : Int) < (n : Int) := by omega
          have GR := Lib.hid gr
          have K2 := Lib.hid k2
          have K4 := Lib.hid k4
          clear gr k1 k2 k3 k4
          generalize bs.getD i 0 = x0 at *
          generalize bs'.getD i 0 = x1 at *
          unfold rowV at e1 e3
          go_wp2
          (refine wp_region_quiet_grown mixed (by kernel_rfl) ?_; (repeat (first | go_big_quiet_step ((first | (go_at_call 18; exact Calls.grown_of (Try.eqIntS _ _ _ _ _ _ (K2.out.gr (Gr.grow (Gr.drewN GR.out _) _)) (K4.out.gr (Gr.grow (Gr.drewN GR.out _) _)))))) | quiet_step ((first | (go_at_call 18; exact Calls.grown_of (Try.eqIntS _ _ _ _ _ _ (K2.out.gr (Gr.grow (Gr.drewN GR.out _) _)) (K4.out.gr (Gr.grow (Gr.drewN GR.out _) _)))))))); refine wpQuiet_nil ?_; intro _ hw'; obtain ⟨⟨nq, osq⟩, hw''⟩ := hw'; subst hw'')
          go_wp2
          go_roundw
          case rel => exact ⟨Gr.grow (Gr.drewN GR.out _) _, i + 1, by omega, by go_num⟩
          case measure => simp [intOf]; omega
        · obtain rfl : i = n := by omega
          go_wp2
          go_ret
          exact ⟨rfl, gr⟩
theorem mki_two (m x y : Int) : mki m 2 [x, y] = [m, m + 1] := by simp [mki, List.range_succ]
/-- row i is marked -/
theorem OwnR.mark {w w' : World} {B b : Nat} {v : Value} {ps : List Pi2} {bs : List Nat} {m : Int} {i : Nat} (hi : i < ps.length) (h1 : bs.length = ps.length) (h2 : bs.Nodup) (h3 : w.ownsRow B 24 1 v ps.length (bs.map rowV))
    (h4 : ∀ j, j < ps.length → OwnI w B (rowV (bs.getD j 0)) [(ps.getD j (0, 0)).1, (ps.getD j (0, 0)).2]) (hb : bs.getD i 0 = b) (ho : OwnI w' B (rowV b) [m, m + 1]) (hg : w.grownBy w' (rowV b).ownBlock) :
    w'.ownsRow B 24 1 v (ps.set i (m, m + 1)).length (bs.map rowV) ∧ ∀ j, j < (ps.set i (m, m + 1)).length → OwnI w' B (rowV (bs.getD j 0)) [((ps.set i (m, m + 1)).getD j (0, 0)).1, ((ps.set i (m, m + 1)).getD j (0, 0)).2] := by
  have hbi := h4 i hi
  rw [hb] at hbi
  refine ⟨by simpa using World.ownsRow.kept h3 hg (row_ne hbi h3), fun j hj => ?_⟩
  rw [List.length_set] at hj
  by_cases e : i = j
  · subst e
    rw [hb]
    simpa [List.getD, hi] using ho
  · have := h4 j hj
    have hne : bs.getD j 0 ≠ b := by
      rw [← hb]
      intro q
      simp only [List.getD, List.getElem?_eq_getElem (show j < bs.length by omega), List.getElem?_eq_getElem (show i < bs.length by omega), Option.getD_some] at q
      exact e ((List.nodup_iff_pairwise_ne.1 h2 |> List.pairwise_iff_getElem.1 |> fun h => by
        rcases Nat.lt_trichotomy i j with q1 | q1 | q1
        · exact absurd q.symm (h i j (by omega) (by omega) q1)
        · exact q1
        · exact absurd q (h j i (by omega) (by omega) q1)))
    have hk : OwnI w' B (rowV (bs.getD j 0)) [(ps.getD j (0, 0)).1, (ps.getD j (0, 0)).2] := this.grown hg (.inr (by simp [Value.ownBlock, rowV]; exact hne))
    have eg : (ps.set i (m, m + 1)).getD j (0, 0) = ps.getD j (0, 0) := by simp [List.getD, List.getElem?_set_ne e]
    rw [eg]
    exact hk
def MRelR (bs : List Nat) (m : Int) (n B : Nat) (xs : List Pi2) (v : Value) (w : World) (k s : Value) (wr : World) : Prop :=
  ∃ i : Nat, i ≤ n ∧ s = .int .i64 i ∧ k = .int .i64 (m + 2 * i) ∧ (wr.ownsRow B 24 1 v (mkp m i xs).length (bs.map rowV) ∧ ∀ j, j < (mkp m i xs).length → OwnI wr B (rowV (bs.getD j 0)) [((mkp m i xs).getD j (0, 0)).1, ((mkp m i xs).getD j (0, 0)).2]) ∧ Below B w wr
set_option maxRecDepth 100000 in
set_option maxHeartbeats 1600000 in
theorem Try.markIntSS (w : World) (B : Nat) (v : Value) (xs : List Pi2) (m : Int) (m0 : 0 ≤ m) (m1 : m ≤ 100000000) (hlen : xs.length ≤ 100000000) (h : OwnR w B v xs) :
    Calls Try.prog 27 #[v, .int .i64 m] w fun e w' => e = .returned (.int .i64 (m + 2 * (xs.length : Int))) ∧ OwnR w' B v (mkp m xs.length xs) ∧ Below B w w' := by
  obtain ⟨bs, h1, h2, h3, h4⟩ := h
  have h30 := h3
  rcases h3.2 with ⟨rfl, hn⟩ | ⟨g, c, cur, rfl, hgB, hg, hcl, hm, hs, ht⟩
  · have hx : xs = [] := List.length_eq_zero_iff.1 hn
    subst hx
    have H := Lib.hid (show OwnR w B (.slice none 0 0) [] from OwnR.nil w B)
    clear h3 h30 h4
    go_enter Try.func27, Try.ntmps27
    go_wp2
    refine wp_loop_rounds 1 ?_
    rw [rounds_succ]
    go_wp2
    go_ret
    exact ⟨by simp, by simpa [mkp] using H.out, Below.refl _ _⟩
  · unfold maxLen at hm
    have H := Lib.hid (show _ ∧ _ from ⟨h30, h4⟩)
    have H1 := Lib.hid h1
    have H2 := Lib.hid h2
    clear h3 h30 h4 h1 h2 hg ht hs
    have hz := Nat.eq_zero_or_pos xs.length
    go_enter Try.func27, Try.ntmps27
    go_wp2
    go_loopw [1, 5] (fun k s wr => MRelR bs m xs.length B xs (.slice (some ⟨g, 0, none⟩) xs.length c) w k s wr) (fun _ s _ => xs.length - (intOf s).toNat)
    case atStart => exact ⟨0, Nat.zero_le _, rfl, by go_num, by rw [mkp_zero]; exact H.out, Below.refl _ _⟩
    case round =>
      obtain ⟨i, hi, rfl, rfl, ⟨ho, hr⟩, hb⟩ := hrel
      by_cases hlt : i < xs.length
      · have hl := mkp_len m i xs hi
        have e1 : wr.cell? ⟨g, i, none⟩ = some (rowV (bs.getD i 0)) := by
          have ho' := ho
          rw [hl] at ho'
          rw [World.ownsRow.cellAt ho' i (by omega)]
          simp [List.getD, show i < bs.length by rw [H1.out]; omega]
        have hri := hr i (by omega)
        obtain ⟨b, hbb⟩ : ∃ b, bs.getD i 0 = b := ⟨_, rfl⟩
        rw [hbb] at hri e1
        have z0 : (0 : Int) ≤ (i : Int) := by omega
        have z1 : (i : Int) < (xs.length : Int) := by omega
        have HI := Lib.hid (Try.markIntM wr B (rowV b) _ (m + 2 * i) (by omega) (by omega) (by simp) hri)
        rw [show (m + 2 * (i : Int) + 1 * ((([((mkp m i xs).getD i (0, 0)).1, ((mkp m i xs).getD i (0, 0)).2] : List Int).length : Nat) : Int)) = m + 2 * i + 2 by simp] at HI
        have HO := Lib.hid ho
        have HR := Lib.hid hr
        have HB := Lib.hid hb
        have HBB := Lib.hid hbb
        have HRI := Lib.hid hri
        unfold rowV at e1 HI
        clear ho hr hb hbb hri hl
        go_wp2_with (first | (go_at_call 19; refine HI.out.mono ?_; rintro e w3 ⟨rfl, ho3, hg3⟩))
        have HM := Lib.hid (OwnR.mark (m := m + 2 * i) (by rw [mkp_len m i xs hi]; exact hlt) (by rw [H1.out, mkp_len m i xs hi]) H2.out HO.out HR.out HBB.out (by have := ho3; rw [show ([((mkp m i xs).getD i (0, 0)).1, ((mkp m i xs).getD i (0, 0)).2] : List Int).length = 2 from rfl, mki_two] at this; exact this) hg3)
        have GB := Lib.hid (HB.out.trans (Below.grown (Below.refl B wr) hg3 (by have := (OwnI.blk HRI.out); omega) (fun kk hk => by have := (OwnI.blk HRI.out).1; simp [Value.ownBlock] at hk; omega)))
        clear ho3 hg3
        go_roundw
        case rel =>
          refine ⟨i + 1, by omega, by go_num, by go_num, ?_, GB.out⟩
          have := HM.out
          rw [mkp_set m i xs hlt] at this
          exact this
        case measure => simp [intOf]; omega
      · obtain rfl : i = xs.length := by omega
        have HO := Lib.hid ho
        have HR := Lib.hid hr
        have HB := Lib.hid hb
        clear ho hr hb
        go_wp2
        go_ret
        exact ⟨rfl, ⟨bs, by rw [H1.out, mkp_len m _ xs (Nat.le_refl _)], H2.out, HO.out, HR.out⟩, HB.out⟩
def HRelR (m : Int) (n : Nat) (w : World) (k s : Value) (wr : World) : Prop := w = wr ∧ ∃ i : Nat, i ≤ n ∧ s = .int .i64 i ∧ k = .int .i64 (m + 2 * i)
set_option maxRecDepth 100000 in
set_option maxHeartbeats 800000 in
theorem Try.heldIntSS (w : World) (B : Nat) (v : Value) (xs : List Pi2) (m : Int) (m0 : 0 ≤ m) (m1 : m ≤ 100000000) (hlen : xs.length ≤ 100000000) (h : OwnR w B v (mkp m xs.length xs)) :
    Calls Try.prog 28 #[v, .int .i64 m] w fun e w' => e = .returned (.int .i64 (m + 2 * (xs.length : Int))) ∧ w = w' := by
  have hl := mkp_len m xs.length xs (Nat.le_refl _)
  rcases h.view with ⟨hx, A, c, rfl⟩ | ⟨h0, g, c, bs, rfl, hm, hbl, hc⟩
  · have h0 : xs.length = 0 := by rw [← hl, hx]; rfl
    rw [h0]
    clear h hx hl h0
    go_enter Try.func28, Try.ntmps28
    go_wp2
    refine wp_loop_rounds 1 ?_
    rw [rounds_succ]
    go_wp2
    go_ret
    exact ⟨by simp, rfl⟩
  · rw [hl] at hm h0 hc ⊢
    unfold maxLen at hm
    have HC := Lib.hid hc
    clear hc h hl hbl
    go_enter Try.func28, Try.ntmps28
    go_wp2
    go_loopw [1, 5] (fun k s wr => HRelR m xs.length w k s wr) (fun _ s _ => xs.length - (intOf s).toNat)
    case atStart => exact ⟨rfl, 0, Nat.zero_le _, rfl, by go_num⟩
    case round =>
      obtain ⟨rfl, i, hi, rfl, rfl⟩ := hrel
      by_cases hlt : i < xs.length
      · obtain ⟨e1, e2⟩ := HC.out i hlt
        rw [mkp_get m xs i hlt] at e2
        generalize bs.getD i 0 = b at e1 e2
        have z0 : (0 : Int) ≤ (i : Int) := by omega
        have z1 : (i : Int) < (xs.length : Int) := by omega
        have HI := Lib.hid (Try.heldIntM w B (rowV b) [0, 0] (m + 2 * i) (by omega) (by omega) (by simp) (by rw [show ([0, 0] : List Int).length = 2 from rfl, mki_two]; exact e2))
        rw [show (m + 2 * (i : Int) + 1 * ((([0, 0] : List Int).length : Nat) : Int)) = m + 2 * i + 2 by simp] at HI
        unfold rowV at e1 HI
        clear e2
        go_wp2_with (first | (go_at_call 20; refine HI.out.mono ?_; rintro e w3 ⟨rfl, rfl⟩))
        go_roundw
        case rel => exact ⟨rfl, i + 1, by omega, by go_num, by go_num⟩
        case measure => simp [intOf]; omega
      · obtain rfl : i = xs.length := by omega
        go_wp2
        go_ret
        exact ⟨rfl, rfl⟩
/-- one more row of two ints is appended: it lies in a block of its own, its slice in another one -/
theorem wp_app1R {P : Program} {o : Oper} {a : Act} {K : Act → World → Prop} {Q : Exit → Act → World → Prop} {W : World} (s x : Operand) (t : TypeId)
    (ho : o.op = .call { callee := .builtin .append, args := #[s, x], argTypes := #[t, t] }) (ht : P.underlying t = some (.slice 24))
    (hinfo : (P.info? 24).map (fun i => (i.zero, i.size, i.bytes)) = some (some (.slice none 0 0), 1, 24)) (B : Nat) (v : Value) (ps : List Pi2) (hs : a.eval s = v) (h : OwnR W B v ps)
    (p q : Int) (hx : a.eval x = .slice (some ⟨W.heap.size + 1, 0, none⟩) 1 1) (hl : ps.length ≤ 100000000) (hB : B ≤ W.heap.size)
    (k : ∀ v' w', OwnR w' B v' (ps ++ [(p, q)]) → Below B W w' → K (a.put o.dst v') w') :
    Oper.wp P o a ((W.alloc (.cells #[.int .i64 p, .int .i64 q] 3)).alloc (.cells #[.slice (some ⟨W.heap.size, 0, none⟩) 2 2] 24)) K Q := by
  obtain ⟨i0, hi, hz0, hz1, hz2⟩ := info_parts hinfo
  obtain ⟨bs, h1, h2, h3, h4⟩ := h
  obtain ⟨W1, hW1⟩ : ∃ W1, W1 = W.alloc (.cells #[.int .i64 p, .int .i64 q] 3) := ⟨_, rfl⟩
  have hs1 : W1.heap.size = W.heap.size + 1 := by rw [hW1]; simp
  have g1 : Gr W W1 := by rw [hW1]; exact Gr.alloc (Gr.refl _) _
  rw [← hW1]
  have hrow : OwnI W1 B (rowV W.heap.size) [p, q] := by
    refine ⟨rfl, .inr ⟨W.heap.size, 2, #[.int .i64 p, .int .i64 q], rfl, hB, ?_, Nat.le_refl _, by decide, rfl, rfl⟩⟩
    rw [hW1]; exact heap_alloc_new W _
  refine wp_append_own _ s x t ho B 24 i0 _ 1 24 ht hi hz0 hz1 hz2 rfl (by decide) v ps.length (bs.map rowV) hs (World.ownsRow.alloc (by rw [hW1]; exact World.ownsRow.alloc h3 _) _) ⟨W.heap.size + 1, 0, none⟩ 1 1 [rowV W.heap.size] hx rfl
    (fun j u hu => alloc_cells' hs1 (by simpa [rowV] using hu)) (fun u hu => by simp at hu; subst hu; rfl) (by unfold maxLen; omega) (by omega) (by simp; omega) fun v' w' ho' hg _ => ?_
  have gall : W.grownBy w' v.ownBlock := by
    refine ⟨?_, ?_, ?_, ?_, fun j hj hne => ?_⟩
    · have := hg.os; rw [hW1] at this; exact this
    · have := hg.tape; rw [hW1] at this; exact this
    · have := hg.output; rw [hW1] at this; exact this
    · have := hg.size; simp at this; omega
    · rw [hg.block j (by simp; omega) hne, Below.heap_alloc _ _ _ (by omega), hW1, Below.heap_alloc _ _ _ hj]
  have hlt : ∀ j, j < ps.length → bs.getD j 0 < W.heap.size := fun j hj => (h4 j hj).blk.2
  refine k v' w' ⟨bs ++ [W.heap.size], by simp [h1], ?_, ?_, fun j hj => ?_⟩ (Below.grown (Below.refl _ _) gall hB fun j hj => (World.ownsRow.lt h3 j hj).1)
  · rw [List.nodup_append]
    refine ⟨h2, by simp, fun x hx y hy e => ?_⟩
    obtain ⟨j, hj, rfl⟩ := List.getElem_of_mem hx
    have := hlt j (by omega)
    simp only [List.getD, List.getElem?_eq_getElem hj, Option.getD_some] at this
    simp at hy
    omega
  · rw [List.length_append, List.map_append]
    exact ho'
  · rw [List.length_append] at hj
    simp at hj
    by_cases e : j < ps.length
    · have hk := (h4 j e).grown gall (by
        rcases row_ne (h4 j e) h3 with q | q
        · exact .inr (by rw [q]; simp [Value.ownBlock, rowV])
        · exact .inr (Ne.symm q))
      rw [show (bs ++ [W.heap.size]).getD j 0 = bs.getD j 0 by simp [List.getD, List.getElem?_append_left (show j < bs.length by omega)], show (ps ++ [(p, q)]).getD j (0, 0) = ps.getD j (0, 0) by simp [List.getD, List.getElem?_append_left e]]
      exact hk
    · obtain rfl : j = ps.length := by omega
      rw [show (bs ++ [W.heap.size]).getD ps.length 0 = W.heap.size by rw [← h1]; simp [List.getD], show (ps ++ [(p, q)]).getD ps.length (0, 0) = (p, q) by simp [List.getD]]
      have hr2 : OwnI (W1.alloc (.cells #[.slice (some ⟨W.heap.size, 0, none⟩) 2 2] 24)) B (rowV W.heap.size) [p, q] := hrow.gr (Gr.alloc (Gr.refl _) _)
      refine hr2.grown hg (.inr fun e2 => ?_)
      have := (World.ownsRow.lt h3 W.heap.size (by rw [← e2]; rfl)).2
      omega
theorem wpList_app1R {P : Program} {ops : Array Oper} {rest : List Oper} {o : Oper} {a : Act} {Q : Exit → Act → World → Prop} {W : World} (hgd : o.guard = none) (s x : Operand) (t : TypeId)
    (ho : o.op = .call { callee := .builtin .append, args := #[s, x], argTypes := #[t, t] }) (ht : P.underlying t = some (.slice 24))
    (hinfo : (P.info? 24).map (fun i => (i.zero, i.size, i.bytes)) = some (some (.slice none 0 0), 1, 24)) (B : Nat) (v : Value) (ps : List Pi2) (hs : a.eval s = v) (h : OwnR W B v ps)
    (p q : Int) (hx : a.eval x = .slice (some ⟨W.heap.size + 1, 0, none⟩) 1 1) (hl : ps.length ≤ 100000000) (hB : B ≤ W.heap.size)
    (k : ∀ v' w', OwnR w' B v' (ps ++ [(p, q)]) → Below B W w' → wpList P ops Q rest (a.put o.dst v') w') :
    wpList P ops Q (o :: rest) a ((W.alloc (.cells #[.int .i64 p, .int .i64 q] 3)).alloc (.cells #[.slice (some ⟨W.heap.size, 0, none⟩) 2 2] 24)) :=
  wpList_plain hgd fun _ hK => wp_app1R s x t ho ht hinfo B v ps hs h p q hx hl hB fun v' w' h1 h2 => hK _ _ (k v' w' h1 h2)
theorem step_app1R {P : Program} {ops : Array Oper} {o : Oper} {a : Act} {K : Act → World → Prop} {Q : Exit → Act → World → Prop} {E : Prop} {W : World} (hgd : o.guard = none) (s x : Operand) (t : TypeId)
    (ho : o.op = .call { callee := .builtin .append, args := #[s, x], argTypes := #[t, t] }) (ht : P.underlying t = some (.slice 24))
    (hinfo : (P.info? 24).map (fun i => (i.zero, i.size, i.bytes)) = some (some (.slice none 0 0), 1, 24)) (B : Nat) (v : Value) (ps : List Pi2) (hs : a.eval s = v) (h : OwnR W B v ps)
    (p q : Int) (hx : a.eval x = .slice (some ⟨W.heap.size + 1, 0, none⟩) 1 1) (hl : ps.length ≤ 100000000) (hB : B ≤ W.heap.size)
    (k : ∀ v' w', OwnR w' B v' (ps ++ [(p, q)]) → Below B W w' → K (a.put o.dst v') w') :
    if Region.wanted o (yielded ops a.tmps) = true then Oper.wp P o a ((W.alloc (.cells #[.int .i64 p, .int .i64 q] 3)).alloc (.cells #[.slice (some ⟨W.heap.size, 0, none⟩) 2 2] 24)) K Q else E := by
  rw [if_pos (show Region.wanted o (yielded ops a.tmps) = true by simp [Region.wanted, hgd])]
  exact wp_app1R s x t ho ht hinfo B v ps hs h p q hx hl hB k
theorem step_app1Rd {P : Program} {ops : Array Oper} {o : Oper} {a : Act} {K : Act → World → Prop} {Q : Exit → Act → World → Prop} {E : Prop} {W : World} (hgd : o.guard = none) (s x : Operand) (t : TypeId)
    (ho : o.op = .call { callee := .builtin .append, args := #[s, x], argTypes := #[t, t] }) (ht : P.underlying t = some (.slice 24))
    (hinfo : (P.info? 24).map (fun i => (i.zero, i.size, i.bytes)) = some (some (.slice none 0 0), 1, 24)) (B : Nat) (v : Value) (ps : List Pi2) (hs : a.eval s = v) (h : OwnR W B v ps)
    (p q : Int) (hx : a.eval x = .slice (some ⟨W.heap.size + 1, 0, none⟩) 1 1) (hl : ps.length ≤ 100000000) (hB : B ≤ W.heap.size)
    (k : ∀ v' w', OwnR w' B v' (ps ++ [(p, q)]) → Below B W w' → K (a.put o.dst v') w') :
    if Region.wanted o (yielded ops a.tmps) = true then Oper.wp P o a ((W.alloc (.cells #[.int .i64 p, .int .i64 q] 3)).alloc (.cells #[.slice (some ⟨W.heap.size, 0, none⟩) 2 2] 24)).drew K Q else E := by
  rw [if_pos (show Region.wanted o (yielded ops a.tmps) = true by simp [Region.wanted, hgd])]
  exact wp_app1R (W := W.drew) s x t ho ht hinfo B v ps hs (h.gr (Gr.drew (Gr.refl _))) p q hx hl hB fun v' w' h1 h2 => k v' w' h1 ((Gr.drew (Gr.refl W)).below.mono hB |>.trans h2)
theorem Try.infoS : (Try.prog.info? 24).map (fun i => (i.zero, i.size, i.bytes)) = some (some (.slice none 0 0), 1, 24) := by kernel_rfl
end Go.Proofs
