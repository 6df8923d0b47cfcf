/-
  Rows of ints in a block of whatever type (a slice over an array of ints): same lists, marks, marks held.
-/
import Derived.Test.YtmklniikhdfaiaaDoorInts2
namespace Go.Proofs
open Go.RowKit
set_option linter.unusedVariables false
set_option linter.unusedSimpArgs false
/-- The slice value v is a row of the call's own, from block B on, that holds the ints xs. -/
def OwnT (T : TypeId) (w : World) (B : Nat) (v : Value) (xs : List Int) : Prop := w.ownsRow B T 1 v xs.length (xs.map (Value.int .i64))
theorem OwnT.view {T : TypeId} {w : World} {B : Nat} {v : Value} {xs : List Int} (h : OwnT T w B v xs) :
    (xs = [] ∧ ∃ A c, v = .slice A 0 c) ∨ (0 < xs.length ∧ ∃ g c, v = .slice (some ⟨g, 0, none⟩) xs.length c ∧ B ≤ g ∧ g < w.heap.size ∧ xs.length ≤ maxLen ∧
      (∀ j, j < xs.length → w.cell? ⟨g, j, none⟩ = some (.int .i64 (xs.getD j 0))) ∧ ∀ j, w.frozen? ⟨g, j, none⟩ = false) := by
  have h0 := h
  rcases h.2 with ⟨rfl, hn⟩ | ⟨g, cap, cur, rfl, hb, hg, hc, hm, hs, ht⟩
  · exact .inl ⟨List.length_eq_zero_iff.1 hn, none, 0, rfl⟩
  · rcases Nat.eq_zero_or_pos xs.length with e | e
    · exact .inl ⟨List.length_eq_zero_iff.1 e, _, cap, by rw [e]⟩
    · refine .inr ⟨e, g, cap, rfl, hb, (Array.getElem?_eq_some_iff.1 hg).1, by omega, fun j hj => ?_, fun j => World.ownsRow.frozenAt h0 j⟩
      rw [World.ownsRow.cellAt h0 j (by omega)]
      simp [hj, List.getD]
theorem OwnT.below {T : TypeId} {w w' : World} {B C : Nat} {v : Value} {xs : List Int} (h : OwnT T w B v xs) (hb : Below C w w') (hC : w.heap.size ≤ C) : OwnT T w' B v xs := by
  refine ⟨h.1, ?_⟩
  rcases h.2 with hn | ⟨g, cap, cur, rfl, hb', hg, r⟩
  · exact .inl hn
  · exact .inr ⟨g, cap, cur, rfl, hb', by rw [hb.block g (by have := (Array.getElem?_eq_some_iff.1 hg).1; omega)]; exact hg, r⟩
theorem OwnT.lt {T : TypeId} {w : World} {B : Nat} {v : Value} {xs : List Int} (h : OwnT T w B v xs) : ∀ g, v.ownBlock = some g → g < w.heap.size := fun g hg => (World.ownsRow.lt h g hg).2
theorem OwnT.gr {T : TypeId} {w w' : World} {B : Nat} {v : Value} {xs : List Int} (h : OwnT T w B v xs) (g : Gr w w') : OwnT T w' B v xs := h.below g.below (Nat.le_refl _)
theorem OwnT.mono {T : TypeId} {w : World} {B C : Nat} {v : Value} {xs : List Int} (h : OwnT T w B v xs) (hC : C ≤ B) : OwnT T w C v xs := by
  refine ⟨h.1, ?_⟩
  rcases h.2 with hn | ⟨g, cap, cur, rfl, hb', r⟩
  · exact .inl hn
  · exact .inr ⟨g, cap, cur, rfl, by omega, r⟩
def ERelT (n : Nat) (w : World) (s : Value) (wr : World) : Prop := Gr w wr ∧ ∃ i : Nat, i ≤ n ∧ s = .int .i64 i
set_option maxHeartbeats 400000 in
theorem Tryd.eqIntT {T T' : TypeId} (w : World) (B B' : Nat) (a b : Value) (xs : List Int) (ha : OwnT T w B a xs) (hb : OwnT T' w B' b xs) :
    Calls Tryd.prog 9 #[a, b] w fun e w' => e = .returned (.bool true) ∧ Gr w w' := by
  rcases ha.view with ⟨hx, A, c, rfl⟩ | ⟨h0, g, c, rfl, g1, g2, hm, hc, _⟩
  · subst hx
    rcases hb.view with ⟨_, A', c', rfl⟩ | ⟨h0, _⟩
    · clear ha hb
      go_enter Tryd.func9, Tryd.ntmps9
      go_wp2
      refine wp_loop_rounds 1 ?_
      rw [rounds_succ]
      go_wp2
      go_ret
      exact ⟨rfl, by repeat (first | exact Gr.refl _ | refine Gr.alloc ?_ _ | refine Gr.trans ?_ (by assumption) | refine Gr.drew ?_ | refine Gr.drewN ?_ _ | refine Gr.grow ?_ _ | refine Gr.setCell ?_ (by (try simp); (try omega)) _)⟩
    · simp at h0
  · rcases hb.view with ⟨hx, _⟩ | ⟨_, g', c', rfl, _, _, _, hc', _⟩
    · simp [hx] at h0
    · clear ha hb
      unfold maxLen at hm
      have HC := Lib.hid hc
      have HC' := Lib.hid hc'
      clear hc hc'
      generalize hn : xs.length = n at *
      have HN := Lib.hid hn
      clear hn
      go_enter Tryd.func9, Tryd.ntmps9
      go_wp2
      go_loopw [5] (fun s wr => ERelT n w s wr) (fun s _ => n - (intOf s).toNat)
      case atStart => exact ⟨Gr.refl _, 0, Nat.zero_le _, rfl⟩
      case round =>
        obtain ⟨gr, i, hi, rfl⟩ := hrel
        by_cases hlt : i < n
        · have e1 := gr.keep2 (HC.out i hlt)
          have e2 := gr.keep2 (HC'.out i hlt)
          have z0 : (0 : Int) ≤ (i : Int) := by omega
          have z1 : (i : Int) < (n : Int) := by omega
          have GR := Lib.hid gr
          clear gr
          go_wp2
          go_quiet (fail)
          go_wp2
          go_roundw
          case rel => exact ⟨Gr.drewN GR.out _, i + 1, by omega, by go_num⟩
          case measure => simp [intOf]; omega
        · obtain rfl : i = n := by omega
          go_wp2
          go_ret
          exact ⟨rfl, gr⟩
theorem OwnT.grown {T : TypeId} {w w' : World} {B : Nat} {v : Value} {xs : List Int} {row : Option Nat} (h : OwnT T w B v xs) (hg : w.grownBy w' row) (hne : v.ownBlock = none ∨ v.ownBlock ≠ row) : OwnT T w' B v xs := World.ownsRow.kept h hg hne
theorem OwnT.nil2 (T : TypeId) (w : World) (B : Nat) : OwnT T w B (.slice none 0 0) [] := World.ownsRow_nil w B _ 1
theorem OwnT.form {T : TypeId} {w : World} {B : Nat} {v : Value} {xs : List Int} (h : OwnT T w B v xs) : ∃ A c, v = .slice A xs.length c := by
  rcases h.2 with ⟨rfl, hn⟩ | ⟨g, cap, cur, rfl, hb, hg, hc, hm, hs, ht⟩
  · exact ⟨none, 0, by rw [hn]⟩
  · exact ⟨_, _, rfl⟩
theorem OwnT.eta {T : TypeId} {w : World} {B : Nat} {v : Value} {xs : List Int} (h : OwnT T w B v xs) : ∃ A c, v = .slice A xs.length c ∧ OwnT T w B (.slice A xs.length c) xs := by
  obtain ⟨A, c, rfl⟩ := h.form
  exact ⟨A, c, rfl, h⟩
theorem OwnT.at {T : TypeId} {w : World} {B g n c : Nat} {xs : List Int} (h : OwnT T w B (.slice (some ⟨g, 0, none⟩) n c) xs) (hn : xs.length = n) (j : Nat) (hj : j < n) :
    w.cell? ⟨g, j, none⟩ = some (.int .i64 (xs.getD j 0)) ∧ w.frozen? ⟨g, j, none⟩ = false := by
  subst hn
  refine ⟨?_, World.ownsRow.frozenAt h _⟩
  rw [World.ownsRow.cellAt h j (by omega)]
  simp [List.getD, hj]
theorem OwnT.set {T : TypeId} {w : World} {B g n c : Nat} {xs : List Int} (h : OwnT T w B (.slice (some ⟨g, 0, none⟩) n c) xs) (hn : xs.length = n) (j : Nat) (x : Int) :
    OwnT T (w.setCell ⟨g, j, none⟩ (.int .i64 x)) B (.slice (some ⟨g, 0, none⟩) n c) (xs.set j x) := by
  subst hn
  have := (World.ownsRow.stored h j (.int .i64 x)).1
  unfold OwnT
  simpa [List.map_set] using this
def MRelT (T : TypeId) (m : Int) (n B : Nat) (xs : List Int) (v : Value) (w : World) (k s : Value) (wr : World) : Prop := ∃ i : Nat, i ≤ n ∧ s = .int .i64 i ∧ k = .int .i64 (m + i) ∧ OwnT T wr B v (mki m i xs) ∧ w.grownBy wr v.ownBlock
set_option maxRecDepth 100000 in
set_option maxHeartbeats 800000 in
theorem Tryd.markIntT {T : TypeId} (w : World) (B : Nat) (v : Value) (xs : List Int) (m : Int) (m0 : 0 ≤ m) (m1 : m ≤ 1000000000) (hlen : xs.length ≤ 1000000000) (h : OwnT T w B v xs) :
    Calls Tryd.prog 10 #[v, .int .i64 m] w fun e w' => e = .returned (.int .i64 (m + 1 * (xs.length : Int))) ∧ OwnT T w' B v (mki m xs.length xs) ∧ w.grownBy w' v.ownBlock := by
  rw [Int.one_mul]
  rcases h.view with ⟨hx, A, c, rfl⟩ | ⟨h0, g, c, rfl, g1, g2, hm, hc, hf⟩
  · subst hx
    have H := Lib.hid h
    clear h
    go_enter Tryd.func10, Tryd.ntmps10
    go_wp2
    refine wp_loop_rounds 1 ?_
    rw [rounds_succ]
    go_wp2
    go_ret
    exact ⟨by simp, by simpa [mki] using H.out, World.grownBy.refl _ _⟩
  · unfold maxLen at hm
    clear hc hf
    have H := Lib.hid h
    clear h
    go_enter Tryd.func10, Tryd.ntmps10
    go_wp2
    go_loopw [1, 5] (fun k s wr => MRelT T m xs.length B xs (.slice (some ⟨g, 0, none⟩) xs.length c) w k s wr) (fun _ s _ => xs.length - (intOf s).toNat)
    case atStart => exact ⟨0, Nat.zero_le _, rfl, by go_num, by rw [mki_zero]; exact H.out, World.grownBy.refl _ _⟩
    case round =>
      obtain ⟨i, hi, rfl, rfl, ho, hb⟩ := hrel
      by_cases hlt : i < xs.length
      · obtain ⟨s0, s1⟩ := ho.at (mki_len m i xs hi) i hlt
        have z0 : (0 : Int) ≤ (i : Int) := by omega
        have z1 : (i : Int) < (xs.length : Int) := by omega
        have HO := Lib.hid ho
        have HB := Lib.hid hb
        clear ho hb
        generalize (mki m i xs).getD i 0 = y0 at s0
        go_wp2
        go_roundw
        case rel =>
          refine ⟨i + 1, by omega, by go_num, by go_num, ?_, grownBy_set HB.out⟩
          have := OwnT.set HO.out (mki_len m i xs hi) i (m + i)
          rw [mki_set m i xs hlt] at this
          exact this
        case measure => simp [intOf]; omega
      · obtain rfl : i = xs.length := by omega
        have HO := Lib.hid ho
        have HB := Lib.hid hb
        clear ho hb
        go_wp2
        go_ret
        exact ⟨rfl, HO.out, HB.out⟩
set_option maxRecDepth 100000 in
set_option maxHeartbeats 800000 in
theorem Tryd.heldIntT {T : TypeId} (w : World) (B : Nat) (v : Value) (xs : List Int) (m : Int) (m0 : 0 ≤ m) (m1 : m ≤ 1000000000) (hlen : xs.length ≤ 1000000000) (h : OwnT T w B v (mki m xs.length xs)) :
    Calls Tryd.prog 11 #[v, .int .i64 m] w fun e w' => e = .returned (.int .i64 (m + 1 * (xs.length : Int))) ∧ w = w' := by
  rw [Int.one_mul]
  have hl := mki_len m xs.length xs (Nat.le_refl _)
  rcases h.view with ⟨hx, A, c, rfl⟩ | ⟨h0, g, c, rfl, g1, g2, hm, hc, hf⟩
  · have h0 : xs.length = 0 := by rw [← hl, hx]; rfl
    rw [h0]
    clear h hx hl h0
    go_enter Tryd.func11, Tryd.ntmps11
    go_wp2
    refine wp_loop_rounds 1 ?_
    rw [rounds_succ]
    go_wp2
    go_ret
    exact ⟨by simp, rfl⟩
  · rw [hl] at hm h0 hc ⊢
    unfold maxLen at hm
    have HC := Lib.hid hc
    clear hc hf h hl
    go_enter Tryd.func11, Tryd.ntmps11
    go_wp2
    go_loopw [1, 5] (fun k s wr => HRelI m xs.length w k s wr) (fun _ s _ => xs.length - (intOf s).toNat)
    case atStart => exact ⟨rfl, 0, Nat.zero_le _, rfl, by go_num⟩
    case round =>
      obtain ⟨rfl, i, hi, rfl, rfl⟩ := hrel
      by_cases hlt : i < xs.length
      · have e1 := HC.out i hlt
        rw [mki_get m xs i hlt] at e1
        have z0 : (0 : Int) ≤ (i : Int) := by omega
        have z1 : (i : Int) < (xs.length : Int) := by omega
        go_wp2
        go_roundw
        case rel => exact ⟨rfl, i + 1, by omega, by go_num, by go_num⟩
        case measure => simp [intOf]; omega
      · obtain rfl : i = xs.length := by omega
        go_wp2
        go_ret
        exact ⟨rfl, rfl⟩
end Go.Proofs
