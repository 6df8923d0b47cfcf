/-
  Lists of ints: marks from any first one on; one more int appended; what lies in another block stays.
-/
import Derived.Test.YtjhpebihflcanaaInts
import Derived.Test.YtjhpebihflcanaaPrs
namespace Go.Proofs
open Go.RowKit
set_option linter.unusedVariables false
set_option linter.unusedSimpArgs false
theorem OwnI.grown {w w' : World} {B : Nat} {v : Value} {xs : List Int} {row : Option Nat} (h : OwnI w B v xs) (hg : w.grownBy w' row) (hne : v.ownBlock = none ∨ v.ownBlock ≠ row) : OwnI w' B v xs := World.ownsRow.kept h hg hne
theorem OwnI.nil2 (w : World) (B : Nat) : OwnI w B (.slice none 0 0) [] := World.ownsRow_nil w B _ 1
theorem OwnI.form {w : World} {B : Nat} {v : Value} {xs : List Int} (h : OwnI w B v xs) : ∃ A c, v = .slice A xs.length c := by
  rcases h.2 with ⟨rfl, hn⟩ | ⟨g, cap, cur, rfl, hb, hg, hc, hm, hs, ht⟩
  · exact ⟨none, 0, by rw [hn]⟩
  · exact ⟨_, _, rfl⟩
theorem OwnI.eta {w : World} {B : Nat} {v : Value} {xs : List Int} (h : OwnI w B v xs) : ∃ A c, v = .slice A xs.length c ∧ OwnI w B (.slice A xs.length c) xs := by
  obtain ⟨A, c, rfl⟩ := h.form
  exact ⟨A, c, rfl, h⟩
theorem OwnI.at {w : World} {B g n c : Nat} {xs : List Int} (h : OwnI w B (.slice (some ⟨g, 0, none⟩) n c) xs) (hn : xs.length = n) (j : Nat) (hj : j < n) :
    w.cell? ⟨g, j, none⟩ = some (.int .i64 (xs.getD j 0)) ∧ w.frozen? ⟨g, j, none⟩ = false := by
  subst hn
  refine ⟨?_, World.ownsRow.frozenAt h _⟩
  rw [World.ownsRow.cellAt h j (by omega)]
  simp [List.getD, hj]
theorem OwnI.set {w : World} {B g n c : Nat} {xs : List Int} (h : OwnI w B (.slice (some ⟨g, 0, none⟩) n c) xs) (hn : xs.length = n) (j : Nat) (x : Int) :
    OwnI (w.setCell ⟨g, j, none⟩ (.int .i64 x)) B (.slice (some ⟨g, 0, none⟩) n c) (xs.set j x) := by
  subst hn
  have := (World.ownsRow.stored h j (.int .i64 x)).1
  unfold OwnI
  simpa [List.map_set] using this
/-- the first i are marked m, m + 1, .. -/
def mki (m : Int) (i : Nat) (xs : List Int) : List Int := (List.range i).map (fun (j : Nat) => m + j) ++ xs.drop i
theorem mki_zero (m : Int) (xs : List Int) : mki m 0 xs = xs := by simp [mki]
theorem mki_len (m : Int) (i : Nat) (xs : List Int) (h : i ≤ xs.length) : (mki m i xs).length = xs.length := by simp [mki]; omega
theorem mki_set (m : Int) (i : Nat) (xs : List Int) (h : i < xs.length) : (mki m i xs).set i (m + i) = mki m (i + 1) xs := by
  unfold mki
  rw [List.set_append_right _ _ (by simp)]
  simp only [List.length_map, List.length_range, Nat.sub_self]
  rw [List.range_succ, List.map_append, List.append_assoc, List.drop_eq_getElem_cons h, List.set_cons_zero]
  simp
theorem mki_get (m : Int) (xs : List Int) (j : Nat) (h : j < xs.length) : (mki m xs.length xs).getD j 0 = m + j := by
  simp [mki, List.getD, h]
theorem grownBy_set {w w' : World} {g o : Nat} {u : Value} (h : w.grownBy w' (some g)) : w.grownBy (w'.setCell ⟨g, o, none⟩ u) (some g) :=
  ⟨h.os, h.tape, h.output, by simpa using h.size, fun k hk hne => by rw [heap_setCell_other w' ⟨g, o, none⟩ k u (fun e => hne (by rw [e]))]; exact h.block k hk hne⟩
def MRelI (m : Int) (n B : Nat) (xs : List Int) (v : Value) (w : World) (k s : Value) (wr : World) : Prop := ∃ i : Nat, i ≤ n ∧ s = .int .i64 i ∧ k = .int .i64 (m + i) ∧ OwnI wr B v (mki m i xs) ∧ w.grownBy wr v.ownBlock
set_option maxRecDepth 100000 in
set_option maxHeartbeats 800000 in
theorem Try.markIntM (w : World) (B : Nat) (v : Value) (xs : List Int) (m : Int) (m0 : 0 ≤ m) (m1 : m ≤ 1000000000) (hlen : xs.length ≤ 1000000000) (h : OwnI w B v xs) :
    Calls Try.prog 19 #[v, .int .i64 m] w fun e w' => e = .returned (.int .i64 (m + 1 * (xs.length : Int))) ∧ OwnI w' B v (mki m xs.length xs) ∧ w.grownBy w' v.ownBlock := by
  rw [Int.one_mul]
  rcases h.view with ⟨hx, A, c, rfl⟩ | ⟨h0, g, c, rfl, g1, g2, hm, hc, hf⟩
  · subst hx
    have H := Lib.hid h
    clear h
    go_enter Try.func19, Try.ntmps19
    go_wp2
    refine wp_loop_rounds 1 ?_
    rw [rounds_succ]
    go_wp2
    go_ret
    exact ⟨by simp, by simpa [mki] using H.out, World.grownBy.refl _ _⟩
  · unfold maxLen at hm
    clear hc hf
    have H := Lib.hid h
    clear h
    go_enter Try.func19, Try.ntmps19
    go_wp2
    go_loopw [1, 5] (fun k s wr => MRelI m xs.length B xs (.slice (some ⟨g, 0, none⟩) xs.length c) w k s wr) (fun _ s _ => xs.length - (intOf s).toNat)
    case atStart => exact ⟨0, Nat.zero_le _, rfl, by go_num, by rw [mki_zero]; exact H.out, World.grownBy.refl _ _⟩
    case round =>
      obtain ⟨i, hi, rfl, rfl, ho, hb⟩ := hrel
      by_cases hlt : i < xs.length
      · obtain ⟨s0, s1⟩ := ho.at (mki_len m i xs hi) i hlt
        have z0 : (0 : Int) ≤ (i : Int) := by omega
        have z1 : (i : Int) < (xs.length : Int) := by omega
        have HO := Lib.hid ho
        have HB := Lib.hid hb
        clear ho hb
        generalize (mki m i xs).getD i 0 = y0 at s0
        go_wp2
        go_roundw
        case rel =>
          refine ⟨i + 1, by omega, by go_num, by go_num, ?_, grownBy_set HB.out⟩
          have := OwnI.set HO.out (mki_len m i xs hi) i (m + i)
          rw [mki_set m i xs hlt] at this
          exact this
        case measure => simp [intOf]; omega
      · obtain rfl : i = xs.length := by omega
        have HO := Lib.hid ho
        have HB := Lib.hid hb
        clear ho hb
        go_wp2
        go_ret
        exact ⟨rfl, HO.out, HB.out⟩
def HRelI (m : Int) (n : Nat) (w : World) (k s : Value) (wr : World) : Prop := w = wr ∧ ∃ i : Nat, i ≤ n ∧ s = .int .i64 i ∧ k = .int .i64 (m + i)
set_option maxRecDepth 100000 in
set_option maxHeartbeats 800000 in
theorem Try.heldIntM (w : World) (B : Nat) (v : Value) (xs : List Int) (m : Int) (m0 : 0 ≤ m) (m1 : m ≤ 1000000000) (hlen : xs.length ≤ 1000000000) (h : OwnI w B v (mki m xs.length xs)) :
    Calls Try.prog 20 #[v, .int .i64 m] w fun e w' => e = .returned (.int .i64 (m + 1 * (xs.length : Int))) ∧ w = w' := by
  rw [Int.one_mul]
  have hl := mki_len m xs.length xs (Nat.le_refl _)
  rcases h.view with ⟨hx, A, c, rfl⟩ | ⟨h0, g, c, rfl, g1, g2, hm, hc, hf⟩
  · have h0 : xs.length = 0 := by rw [← hl, hx]; rfl
    rw [h0]
    clear h hx hl h0
    go_enter Try.func20, Try.ntmps20
    go_wp2
    refine wp_loop_rounds 1 ?_
    rw [rounds_succ]
    go_wp2
    go_ret
    exact ⟨by simp, rfl⟩
  · rw [hl] at hm h0 hc ⊢
    unfold maxLen at hm
    have HC := Lib.hid hc
    clear hc hf h hl
    go_enter Try.func20, Try.ntmps20
    go_wp2
    go_loopw [1, 5] (fun k s wr => HRelI m xs.length w k s wr) (fun _ s _ => xs.length - (intOf s).toNat)
    case atStart => exact ⟨rfl, 0, Nat.zero_le _, rfl, by go_num⟩
    case round =>
      obtain ⟨rfl, i, hi, rfl, rfl⟩ := hrel
      by_cases hlt : i < xs.length
      · have e1 := HC.out i hlt
        rw [mki_get m xs i hlt] at e1
        have z0 : (0 : Int) ≤ (i : Int) := by omega
        have z1 : (i : Int) < (xs.length : Int) := by omega
        go_wp2
        go_roundw
        case rel => exact ⟨rfl, i + 1, by omega, by go_num, by go_num⟩
        case measure => simp [intOf]; omega
      · obtain rfl : i = xs.length := by omega
        go_wp2
        go_ret
        exact ⟨rfl, rfl⟩
/-- one more int is appended: it lies in a block laid for it -/
theorem wpList_app1I {P : Program} {ops : Array Oper} {rest : List Oper} {o : Oper} {a : Act} {Q : Exit → Act → World → Prop} {W : World} (hgd : o.guard = none) (s x : Operand) (t : TypeId)
    (ho : o.op = .call { callee := .builtin .append, args := #[s, x], argTypes := #[t, t] }) (ht : P.underlying t = some (.slice 3))
    (hinfo : (P.info? 3).map (fun i => (i.zero, i.size, i.bytes)) = some (some (.int .i64 0), 1, 8)) (B : Nat) (v : Value) (xs : List Int) (hs : a.eval s = v) (h : OwnI W B v xs)
    (y : Int) (hx : a.eval x = .slice (some ⟨W.heap.size, 0, none⟩) 1 1) (hl : xs.length ≤ 1000000000) (hB : B ≤ W.heap.size)
    (k : ∀ v' w', OwnI w' B v' (xs ++ [y]) → Below B W w' → W.grownBy w' v.ownBlock → W.heap.size + 1 ≤ w'.heap.size → wpList P ops Q rest (a.put o.dst v') w') :
    wpList P ops Q (o :: rest) a (W.alloc (.cells #[.int .i64 y] 3)) := by
  obtain ⟨i0, hi, hz0, hz1, hz2⟩ := info_parts hinfo
  refine wpList_append_own _ hgd s x t ho B 3 i0 _ 1 8 ht hi hz0 hz1 hz2 rfl (by decide) v xs.length (xs.map (Value.int .i64)) hs (World.ownsRow.alloc h _) ⟨W.heap.size, 0, none⟩ 1 1 [.int .i64 y] hx rfl
    (fun j u hu => alloc_cells (by simpa using hu)) (fun u hu => by simp at hu; subst hu; rfl) (by unfold maxLen; omega) (by omega) (by simp; omega) fun v' w' ho' hg _ => ?_
  have g2 : W.grownBy w' v.ownBlock := by
    have g1 := World.grownBy_alloc W (.cells #[.int .i64 y] 3) v.ownBlock
    exact ⟨hg.os.trans g1.os, hg.tape.trans g1.tape, hg.output.trans g1.output, Nat.le_trans g1.size hg.size, fun j hj hne => (hg.block j (Nat.lt_of_lt_of_le hj g1.size) hne).trans (g1.block j hj hne)⟩
  refine k v' w' ?_ (Below.grown (Below.refl _ _) g2 hB fun j hj => (World.ownsRow.lt h j hj).1) g2 (by have := hg.size; simpa using this)
  unfold OwnI
  simpa using ho'
theorem Try.infoI2 : (Try.prog.info? 3).map (fun i => (i.zero, i.size, i.bytes)) = some (some (.int .i64 0), 1, 8) := by kernel_rfl
end Go.Proofs
