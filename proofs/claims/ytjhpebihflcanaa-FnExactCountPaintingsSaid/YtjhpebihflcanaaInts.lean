/-
  Lists of ints that a call hands back: words, and the contracts of the law's own helpers (same lists, marks, marks held).
-/
import Derived.Test.YtjhpebihflcanaaBase
import Derived.OwnWalk
import Derived.Deep.LoopGhost
import Derived.LoopTactic
namespace Go.Proofs
open Go.RowKit
set_option linter.unusedVariables false
set_option linter.unusedSimpArgs false
/-- The slice value v is a row of the call's own, from block B on, that holds the ints xs. -/
def OwnI (w : World) (B : Nat) (v : Value) (xs : List Int) : Prop := w.ownsRow B 3 1 v xs.length (xs.map (Value.int .i64))
theorem OwnI.view {w : World} {B : Nat} {v : Value} {xs : List Int} (h : OwnI w B v xs) :
    (xs = [] ∧ ∃ A c, v = .slice A 0 c) ∨ (0 < xs.length ∧ ∃ g c, v = .slice (some ⟨g, 0, none⟩) xs.length c ∧ B ≤ g ∧ g < w.heap.size ∧ xs.length ≤ maxLen ∧
      (∀ j, j < xs.length → w.cell? ⟨g, j, none⟩ = some (.int .i64 (xs.getD j 0))) ∧ ∀ j, w.frozen? ⟨g, j, none⟩ = false) := by
  have h0 := h
  rcases h.2 with ⟨rfl, hn⟩ | ⟨g, cap, cur, rfl, hb, hg, hc, hm, hs, ht⟩
  · exact .inl ⟨List.length_eq_zero_iff.1 hn, none, 0, rfl⟩
  · rcases Nat.eq_zero_or_pos xs.length with e | e
    · exact .inl ⟨List.length_eq_zero_iff.1 e, _, cap, by rw [e]⟩
    · refine .inr ⟨e, g, cap, rfl, hb, (Array.getElem?_eq_some_iff.1 hg).1, by omega, fun j hj => ?_, fun j => World.ownsRow.frozenAt h0 j⟩
      rw [World.ownsRow.cellAt h0 j (by omega)]
      simp [hj, List.getD]
theorem OwnI.below {w w' : World} {B C : Nat} {v : Value} {xs : List Int} (h : OwnI w B v xs) (hb : Below C w w') (hC : w.heap.size ≤ C) : OwnI w' B v xs := by
  refine ⟨h.1, ?_⟩
  rcases h.2 with hn | ⟨g, cap, cur, rfl, hb', hg, r⟩
  · exact .inl hn
  · exact .inr ⟨g, cap, cur, rfl, hb', by rw [hb.block g (by have := (Array.getElem?_eq_some_iff.1 hg).1; omega)]; exact hg, r⟩
/-- What lies below another row's base stays while that row is written. -/
theorem OwnI.under {w w' : World} {B C : Nat} {v : Value} {xs : List Int} (h : OwnI w B v xs) (hb : Below C w w') (hC : ∀ g, v.ownBlock = some g → g < C) : OwnI w' B v xs := by
  refine ⟨h.1, ?_⟩
  rcases h.2 with hn | ⟨g, cap, cur, rfl, hb', hg, r⟩
  · exact .inl hn
  · exact .inr ⟨g, cap, cur, rfl, hb', by rw [hb.block g (hC g rfl)]; exact hg, r⟩
theorem OwnI.lt {w : World} {B : Nat} {v : Value} {xs : List Int} (h : OwnI w B v xs) : ∀ g, v.ownBlock = some g → g < w.heap.size := fun g hg => (World.ownsRow.lt h g hg).2
theorem OwnI.gr {w w' : World} {B : Nat} {v : Value} {xs : List Int} (h : OwnI w B v xs) (g : Gr w w') : OwnI w' B v xs := h.below g.below (Nat.le_refl _)
theorem OwnI.mono {w : World} {B C : Nat} {v : Value} {xs : List Int} (h : OwnI w B v xs) (hC : C ≤ B) : OwnI w C v xs := by
  refine ⟨h.1, ?_⟩
  rcases h.2 with hn | ⟨g, cap, cur, rfl, hb', r⟩
  · exact .inl hn
  · exact .inr ⟨g, cap, cur, rfl, by omega, r⟩
theorem Gr.keep2 {w w' : World} {b o : Nat} {v : Value} (g : Gr w w') (h : w.cell? ⟨b, o, none⟩ = some v) : w'.cell? ⟨b, o, none⟩ = some v :=
  ((bcell g.below).1 _ _ (World.block_lt_of_cell? _ _ h)).trans h
def ERel (n : Nat) (w : World) (s : Value) (wr : World) : Prop := Gr w wr ∧ ∃ i : Nat, i ≤ n ∧ s = .int .i64 i
set_option maxHeartbeats 400000 in
theorem Try.eqIntS (w : World) (B B' : Nat) (a b : Value) (xs : List Int) (ha : OwnI w B a xs) (hb : OwnI w B' b xs) :
    Calls Try.prog 17 #[a, b] w fun e w' => e = .returned (.bool true) ∧ Gr w w' := by
  rcases ha.view with ⟨hx, A, c, rfl⟩ | ⟨h0, g, c, rfl, g1, g2, hm, hc, _⟩
  · subst hx
    rcases hb.view with ⟨_, A', c', rfl⟩ | ⟨h0, _⟩
    · clear ha hb
      go_enter Try.func17, Try.ntmps17
      go_wp2
      refine wp_loop_rounds 1 ?_
      rw [rounds_succ]
      go_wp2
      go_ret
      exact ⟨rfl, by repeat (first | exact Gr.refl _ | refine Gr.alloc ?_ _ | refine Gr.trans ?_ (by assumption) | refine Gr.drew ?_ | refine Gr.drewN ?_ _ | refine Gr.grow ?_ _ | refine Gr.setCell ?_ (by (try simp); (try omega)) _)⟩
    · simp at h0
  · rcases hb.view with ⟨hx, _⟩ | ⟨_, g', c', rfl, _, _, _, hc', _⟩
    · simp [hx] at h0
    · clear ha hb
      unfold maxLen at hm
      have HC := Lib.hid hc
      have HC' := Lib.hid hc'
      clear hc hc'
      generalize hn : xs.length = n at *
      have HN := Lib.hid hn
      clear hn
      go_enter Try.func17, Try.ntmps17
      go_wp2
      go_loopw [5] (fun s wr => ERel n w s wr) (fun s _ => n - (intOf s).toNat)
      case atStart => exact ⟨Gr.refl _, 0, Nat.zero_le _, rfl⟩
      case round =>
        obtain ⟨gr, i, hi, rfl⟩ := hrel
        by_cases hlt : i < n
        · have e1 := gr.keep2 (HC.out i hlt)
          have e2 := gr.keep2 (HC'.out i hlt)
          have z0 : (0 : Int) ≤ (i : Int) := by omega
          have z1 : (i : Int) < (n : Int) := by omega
          have GR := Lib.hid gr
          clear gr
          go_wp2
          go_quiet (fail)
          go_wp2
          go_roundw
          case rel => exact ⟨Gr.drewN GR.out _, i + 1, by omega, by go_num⟩
          case measure => simp [intOf]; omega
        · obtain rfl : i = n := by omega
          go_wp2
          go_ret
          exact ⟨rfl, gr⟩
/-- the first i are marked 1, 2, .. -/
def mks (i : Nat) (xs : List Int) : List Int := (List.range i).map (fun (j : Nat) => ((j : Int) + 1)) ++ xs.drop i
theorem mks_zero (xs : List Int) : mks 0 xs = xs := by simp [mks]
theorem mks_len (i : Nat) (xs : List Int) (h : i ≤ xs.length) : (mks i xs).length = xs.length := by simp [mks]; omega
theorem mks_set (i : Nat) (xs : List Int) (h : i < xs.length) : (mks i xs).set i ((i : Int) + 1) = mks (i + 1) xs := by
  unfold mks
  rw [List.set_append_right _ _ (by simp)]
  simp only [List.length_map, List.length_range, Nat.sub_self]
  rw [List.range_succ, List.map_append, List.append_assoc, List.drop_eq_getElem_cons h, List.set_cons_zero]
  simp
theorem mks_get (xs : List Int) (j : Nat) (h : j < xs.length) : (mks xs.length xs).getD j 0 = (j : Int) + 1 := by
  simp [mks, List.getD, h]
def MRel (n B : Nat) (xs : List Int) (v : Value) (w : World) (k s : Value) (wr : World) : Prop := ∃ i : Nat, i ≤ n ∧ s = .int .i64 i ∧ k = .int .i64 ((i : Int) + 1) ∧ OwnI wr B v (mks i xs) ∧ Below B w wr
set_option maxHeartbeats 400000 in
theorem Try.markIntS (w : World) (B : Nat) (v : Value) (xs : List Int) (hlen : xs.length ≤ 1000000000) (h : OwnI w B v xs) :
    Calls Try.prog 19 #[v, .int .i64 1] w fun e w' => e = .returned (.int .i64 ((xs.length : Int) + 1)) ∧ OwnI w' B v (mks xs.length xs) ∧ Below B w w' := by
  rcases h.view with ⟨hx, A, c, rfl⟩ | ⟨h0, g, c, rfl, g1, g2, hm, hc, hf⟩
  · subst hx
    have H := Lib.hid h
    clear h
    go_enter Try.func19, Try.ntmps19
    go_wp2
    refine wp_loop_rounds 1 ?_
    rw [rounds_succ]
    go_wp2
    go_ret
    exact ⟨rfl, by simpa [mks] using H.out, Below.refl _ _⟩
  · unfold maxLen at hm
    clear hc hf
    have H := Lib.hid h
    clear h
    go_enter Try.func19, Try.ntmps19
    go_wp2
    go_loopw [1, 5] (fun k s wr => MRel xs.length B xs (.slice (some ⟨g, 0, none⟩) xs.length c) w k s wr) (fun _ s _ => xs.length - (intOf s).toNat)
    case atStart => exact ⟨0, Nat.zero_le _, rfl, rfl, by rw [mks_zero]; exact H.out, Below.refl _ _⟩
    case round =>
      obtain ⟨i, hi, rfl, rfl, ho, hb⟩ := hrel
      by_cases hlt : i < xs.length
      · have hl := mks_len i xs hi
        have ho' := ho
        unfold OwnI at ho'
        rw [hl] at ho'
        have e1 : wr.cell? ⟨g, i, none⟩ = some (.int .i64 ((mks i xs).getD i 0)) := by
          rw [World.ownsRow.cellAt ho' i (by omega)]
          simp [List.getD, show i < (mks i xs).length by omega]
        have e2 : wr.frozen? ⟨g, i, none⟩ = false := World.ownsRow.frozenAt ho' i
        have st := (World.ownsRow.stored ho' i (.int .i64 ((i : Int) + 1))).1
        have ms := mks_set i xs hlt
        have hl2 := mks_len (i + 1) xs (by omega)
        have z0 : (0 : Int) ≤ (i : Int) := by omega
        have z1 : (i : Int) < (xs.length : Int) := by omega
        have ST := Lib.hid st
        have MS := Lib.hid ms
        have HL := Lib.hid hl2
        have HB := Lib.hid hb
        clear st ms ho ho' hl hl2 hb
        go_wp2
        go_roundw
        case rel =>
          refine ⟨i + 1, by omega, by go_num, by go_num, ?_, HB.out.setCell g1 _⟩
          have := ST.out
          unfold OwnI
          rw [HL.out, ← MS.out, List.map_set]
          exact this
        case measure => simp [intOf]; omega
      · obtain rfl : i = xs.length := by omega
        have HO := Lib.hid ho
        have HB := Lib.hid hb
        clear ho hb
        go_wp2
        go_ret
        exact ⟨rfl, HO.out, HB.out⟩
def HRel (n : Nat) (w : World) (k s : Value) (wr : World) : Prop := w = wr ∧ ∃ i : Nat, i ≤ n ∧ s = .int .i64 i ∧ k = .int .i64 ((i : Int) + 1)
set_option maxHeartbeats 400000 in
theorem Try.heldIntS (w : World) (B : Nat) (v : Value) (xs : List Int) (hlen : xs.length ≤ 1000000000) (h : OwnI w B v (mks xs.length xs)) :
    Calls Try.prog 20 #[v, .int .i64 1] w fun e w' => e = .returned (.int .i64 ((xs.length : Int) + 1)) ∧ w = w' := by
  have hl := mks_len xs.length xs (Nat.le_refl _)
  rcases h.view with ⟨hx, A, c, rfl⟩ | ⟨h0, g, c, rfl, g1, g2, hm, hc, hf⟩
  · have h0 : xs.length = 0 := by rw [← hl, hx]; rfl
    rw [h0]
    clear h hx hl h0
    go_enter Try.func20, Try.ntmps20
    go_wp2
    refine wp_loop_rounds 1 ?_
    rw [rounds_succ]
    go_wp2
    go_ret
    exact ⟨rfl, rfl⟩
  · rw [hl] at hm h0 hc ⊢
    unfold maxLen at hm
    have HC := Lib.hid hc
    clear hc hf h hl
    go_enter Try.func20, Try.ntmps20
    go_wp2
    go_loopw [1, 5] (fun k s wr => HRel xs.length w k s wr) (fun _ s _ => xs.length - (intOf s).toNat)
    case atStart => exact ⟨rfl, 0, Nat.zero_le _, rfl, rfl⟩
    case round =>
      obtain ⟨rfl, i, hi, rfl, rfl⟩ := hrel
      by_cases hlt : i < xs.length
      · have e1 := HC.out i hlt
        rw [mks_get xs i hlt] at e1
        have z0 : (0 : Int) ≤ (i : Int) := by omega
        have z1 : (i : Int) < (xs.length : Int) := by omega
        go_wp2
        go_roundw
        case rel => exact ⟨rfl, i + 1, by omega, by go_num, by go_num⟩
        case measure => simp [intOf]; omega
      · obtain rfl : i = xs.length := by omega
        go_wp2
        go_ret
        exact ⟨rfl, rfl⟩
end Go.Proofs
