/-
  Chapter 4: a block closed, the program.
-/
import Derived.Test.YtnpkhoiblemodaaBkIns
import Derived.Test.YtnpkhoiblemodaaObA
namespace Go.Proofs
open Go.RowKit Av
set_option linter.unusedVariables false
set_option linter.unusedSimpArgs false
/-- a row of the call's own is nil, or it lies in a block -/
theorem OwnB.two {w : World} {B : Nat} {v : Value} {cs : List Blk} (h : OwnB w B v cs) : (v = .slice none 0 0 ∧ cs = []) ∨ ∃ g c, v = .slice (some ⟨g, 0, none⟩) cs.length c ∧ cs.length ≤ c ∧ c ≤ maxLen ∧ g < w.heap.size ∧ ∀ j u, (ecs bcs cs)[j]? = some u → w.cell? ((⟨g, 0, none⟩ : Addr).add j) = some u := by
  rcases h.2 with ⟨rfl, hn⟩ | ⟨g, cap, cur, rfl, _, hg, hcl, hcm, _, _⟩
  · exact .inl ⟨rfl, List.length_eq_zero_iff.1 hn⟩
  · exact .inr ⟨g, cap, rfl, hcl, hcm, (Array.getElem?_eq_some_iff.1 hg).1, OwnE.reads_all bcs_len h rfl⟩
set_option maxRecDepth 100000 in
set_option maxHeartbeats 1600000 in
theorem Try.cloneB (w : World) (B : Nat) (v : Value) (cs : List Blk) (hl : cs.length ≤ 1000000) (h : OwnB w B v cs) :
    Calls Try.prog 56 #[v] w fun e w' => ∃ v', e = .returned v' ∧ OwnB w' w.heap.size v' cs ∧ Below w.heap.size w w' := by
  have heqn := fun (W : World) (A : Option Addr) (l c : Nat) => Lib.run_eql_slice_nil (P := Try.prog) W 28 34 A l c 0 0 Try.underlying28
  rcases OwnB.two h with ⟨rfl, rfl⟩ | ⟨g, c, rfl, _, _, _, hc⟩
  · clear h
    go_enter Try.func56, Try.ntmps56
    go_wp2
    go_ret
    exact ⟨_, rfl, OwnE.nil _ _ _ _ _, Gr.below (by repeat (first | exact Gr.refl _ | refine Gr.alloc ?_ _ | refine Gr.trans ?_ (by assumption) | refine Gr.drew ?_ | refine Gr.drewN ?_ _ | refine Gr.grow ?_ _ | refine Gr.setCell ?_ (by (try simp); (try omega)) _))⟩
  · have HC := Lib.hid hc
    have HL := Lib.hid hl
    clear h hc hl
    go_enter Try.func56, Try.ntmps56
    go_wp2_with (at_builtin; refine wpList_appE bcs_len bcs_one rfl _ _ 28 rfl _ Try.underlying28 Try.infoB rfl (by decide) (by decide) w.heap.size (.slice (some ⟨w.heap.size, 0, none⟩) 0 0) [] rfl (OwnE.empty (by refine heap_new' ?_; simp; done) (Nat.le_refl _)) ⟨g, 0, none⟩ cs.length c cs rfl rfl (fun j u hu => (show Gr w _ from (by repeat (first | exact Gr.refl _ | refine Gr.alloc ?_ _ | refine Gr.trans ?_ (by assumption) | refine Gr.drew ?_ | refine Gr.drewN ?_ _ | refine Gr.grow ?_ _ | refine Gr.setCell ?_ (by (try simp); (try omega)) _))).keep0 (HC.out j u hu)) (by simp) (by have := HL.out; omega) (by simp) ?_; intro v1 w1 ho1 hb1 _ _)
    go_ret
    exact ⟨_, rfl, by simpa using ho1, (Gr.alloc (Gr.refl w) _).below.trans hb1⟩
set_option maxHeartbeats 1600000 in
theorem Try.insertB0 (w : World) (B : Nat) (v : Value) (p0 p1 : Int) (pu : Bool) (b : Nat) (hB : B ≤ w.heap.size) (h : OwnB w B v [])
    (hbk : w.heap[b]? = some (.cells #[.int .i64 p0, .int .i64 p1, .bool pu] 34 (0, 0))) :
    Calls Try.prog 55 #[v, .int .i64 0, .slice (some ⟨b, 0, none⟩) 1 1] w fun e w' => ∃ v', e = .returned v' ∧ OwnB w' B v' [(p0, p1, pu)] ∧ Below B w w' ∧ w.grownBy w' v.ownBlock := by
  have H := Lib.hid h
  have HC := Lib.hid (Bk.lit_cells hbk)
  rcases OwnB.two h with ⟨rfl, _⟩ | ⟨g, c, rfl, _, hcm, _, _⟩
  · clear h hbk
    go_enter Try.func55, Try.ntmps55
    go_wp2_with (at_builtin; refine wpList_appE bcs_len bcs_one rfl _ _ 28 rfl 34 Try.underlying28 Try.infoB rfl (by decide) (by decide) B _ _ rfl H.out ⟨b, 0, none⟩ 1 1 [(p0, p1, pu)] rfl rfl (fun j u hu => HC.out j u hu) (by simp) (by simp) hB ?_; intro v3 w3 ho3 hb3 hg3 _)
    all_goals
      go_ret
      exact ⟨_, rfl, ho3, hb3, hg3⟩
  · have z0 : (0 : Int) ≤ (c : Int) := by omega
    clear h hbk
    simp only [List.length_nil] at *
    go_enter Try.func55, Try.ntmps55
    go_wp2_with (at_builtin; refine wpList_appE bcs_len bcs_one rfl _ _ 28 rfl 34 Try.underlying28 Try.infoB rfl (by decide) (by decide) B _ _ rfl H.out ⟨b, 0, none⟩ 1 1 [(p0, p1, pu)] rfl rfl (fun j u hu => HC.out j u hu) (by simp) (by simp) hB ?_; intro v3 w3 ho3 hb3 hg3 _)
    all_goals
      go_ret
      exact ⟨_, rfl, ho3, hb3, hg3⟩
/-- whatever the list -/
theorem Try.insertA (w : World) (B i : Nat) (v : Value) (ps : List Blk) (p0 p1 : Int) (pu : Bool) (b : Nat) (hB : B ≤ w.heap.size) (hi : i ≤ ps.length) (hl : ps.length ≤ 1000) (hbv : v.ownBlock ≠ some b)
    (h : OwnB w B v ps) (hbk : w.heap[b]? = some (.cells #[.int .i64 p0, .int .i64 p1, .bool pu] 34 (0, 0))) :
    Calls Try.prog 55 #[v, .int .i64 i, .slice (some ⟨b, 0, none⟩) 1 1] w fun e w' => ∃ v', e = .returned v' ∧ OwnB w' B v' (ps.take i ++ (p0, p1, pu) :: ps.drop i) ∧ Below B w w' ∧ w.grownBy w' v.ownBlock := by
  rcases Nat.eq_zero_or_pos ps.length with h0 | h0
  · obtain rfl : ps = [] := List.length_eq_zero_iff.1 h0
    obtain rfl : i = 0 := by simpa using hi
    exact Try.insertB0 w B v p0 p1 pu b hB h hbk
  · exact Bk.Try.insertB w B i v ps p0 p1 pu b hB hi h0 hl hbv h hbk
/-- six cells of a city and a block -/
def SixB (W : World) (N : Nat) (k p : Int) (v : Value) (x y : Int) (u : Bool) : Prop := W.cell? ⟨N, 0, none⟩ = some (.int .i64 k) ∧ W.cell? ⟨N, 1, none⟩ = some (.int .i64 p) ∧ W.cell? ⟨N, 2, none⟩ = some v ∧ W.cell? ⟨N + 1, 0, none⟩ = some (.int .i64 x) ∧ W.cell? ⟨N + 1, 1, none⟩ = some (.int .i64 y) ∧ W.cell? ⟨N + 1, 2, none⟩ = some (.bool u)
theorem SixB.bel {W W' : World} {N n : Nat} {k p x y : Int} {u : Bool} {v : Value} (h : SixB W N k p v x y u) (g : Below n W W') (hn : N + 1 < n) : SixB W' N k p v x y u :=
  ⟨(g.cell (p := ⟨N, 0, none⟩) (Nat.lt_of_succ_lt hn)).trans h.1, (g.cell (p := ⟨N, 1, none⟩) (Nat.lt_of_succ_lt hn)).trans h.2.1, (g.cell (p := ⟨N, 2, none⟩) (Nat.lt_of_succ_lt hn)).trans h.2.2.1, (g.cell (p := ⟨N + 1, 0, none⟩) hn).trans h.2.2.2.1, (g.cell (p := ⟨N + 1, 1, none⟩) hn).trans h.2.2.2.2.1, (g.cell (p := ⟨N + 1, 2, none⟩) hn).trans h.2.2.2.2.2⟩
theorem SixB.gr {W W' : World} {N : Nat} {k p x y : Int} {u : Bool} {v : Value} (h : SixB W N k p v x y u) (g : Gr W W') : SixB W' N k p v x y u := ⟨g.keep0 h.1, g.keep0 h.2.1, g.keep0 h.2.2.1, g.keep0 h.2.2.2.1, g.keep0 h.2.2.2.2.1, g.keep0 h.2.2.2.2.2⟩
theorem SixB.set {W : World} {N o : Nat} {k p x y : Int} {u : Bool} {v t : Value} (h : SixB W N k p v x y u) : SixB (W.setCell ⟨N + 2, o, none⟩ t) N k p v x y u := by
  have k0 : ∀ (b i : Nat) (s : Value), b ≠ N + 2 → W.cell? ⟨b, i, none⟩ = some s → (W.setCell ⟨N + 2, o, none⟩ t).cell? ⟨b, i, none⟩ = some s := fun b i s hb q => (World.cell?_setCell_other _ _ _ _ (by intro e; cases e; exact hb rfl)).trans q
  exact ⟨k0 _ _ _ (by omega) h.1, k0 _ _ _ (by omega) h.2.1, k0 _ _ _ (by omega) h.2.2.1, k0 _ _ _ (by omega) h.2.2.2.1, k0 _ _ _ (by omega) h.2.2.2.2.1, k0 _ _ _ (by omega) h.2.2.2.2.2⟩
def RbxB (W : World) (N : Nat) : Prop := W.cell? ⟨N + 2, 0, none⟩ = some (.int .i64 0) ∧ W.cell? ⟨N + 2, 1, none⟩ = some (.int .i64 0) ∧ W.cell? ⟨N + 2, 2, none⟩ = some (.slice none 0 0) ∧ ∀ o, W.frozen? ⟨N + 2, o, none⟩ = false
theorem RbxB.bel {W W' : World} {N n : Nat} (h : RbxB W N) (g : Below n W W') (hn : N + 2 < n) : RbxB W' N :=
  ⟨(g.cell (p := ⟨N + 2, 0, none⟩) hn).trans h.1, (g.cell (p := ⟨N + 2, 1, none⟩) hn).trans h.2.1, (g.cell (p := ⟨N + 2, 2, none⟩) hn).trans h.2.2.1, fun o => (g.frozen (p := ⟨N + 2, o, none⟩) hn).trans (h.2.2.2 o)⟩
def RetT (w : World) (W H : Int) (cs : List Blk) (e : Ending) (w' : World) : Prop := ∃ v', e = .returned (.agg #[.int .i64 W, .int .i64 H, v']) ∧ OwnB w' w.heap.size v' cs ∧ Below w.heap.size w w'
set_option maxRecDepth 100000 in
set_option maxHeartbeats 1600000 in
theorem Try.closing (w : World) (W H : Int) (B : Nat) (a : Value) (ps : List Blk) (x y : Int) (u : Bool) (hu : Up ps) (hl : ps.length ≤ 100) (h : OwnB w B a ps) :
    Calls Try.prog 36 #[.agg #[.int .i64 W, .int .i64 H, a], .agg #[.int .i64 x, .int .i64 y, .bool u]] w (RetT w W H (ins ps (x, y, u))) := by
  obtain ⟨A, c, rfl, h⟩ := OwnE.eta h
  have PL := Lib.hid (fun (X : World) (g : Gr w X) => Try.placeOfClosed X W H B _ ps x y u hu (by omega) (OwnE.gr h g))
  have CL := Lib.hid (fun (X : World) (g : Gr w X) => Try.cloneB X B _ ps (by omega) (OwnE.gr h g))
  have HLE := Lib.hid (plc_le ps (x, y, u))
  have HLN := Lib.hid hl
  obtain ⟨R, hR⟩ : ∃ R, ins ps (x, y, u) = R := ⟨_, rfl⟩
  have HR := Lib.hid (show ps.take (plc ps (x, y, u)) ++ (x, y, u) :: ps.drop (plc ps (x, y, u)) = R from hR)
  rw [hR]
  generalize plc ps (x, y, u) = pk at *
  generalize has ps (x, y, u) = hz at *
  clear h hR hl hu
  go_enter Try.func36, Try.ntmps36
  go_upto_region 2 with (first | (go_at_call 35; refine (PL.out _ (by repeat (first | exact Gr.refl _ | refine Gr.alloc ?_ _ | refine Gr.trans ?_ (by assumption) | refine Gr.drew ?_ | refine Gr.drewN ?_ _ | refine Gr.grow ?_ _ | refine Gr.setCell ?_ (by (try simp); (try omega)) _))).mono ?_; rintro e W1 ⟨rfl, h1⟩; have a01 : W1.cell? ⟨w.heap.size, 0, none⟩ = some (.int .i64 W) := h1.keep0 (by simp [go_sem]); have a11 : W1.cell? ⟨w.heap.size, 1, none⟩ = some (.int .i64 H) := h1.keep0 (by simp [go_sem]); have a21 : W1.cell? ⟨w.heap.size, 2, none⟩ = some (.slice A ps.length c) := h1.keep0 (by simp [go_sem]); have b01 : W1.cell? ⟨w.heap.size + 1, 0, none⟩ = some (.int .i64 x) := h1.keep0 (by simp [go_sem]); have b11 : W1.cell? ⟨w.heap.size + 1, 1, none⟩ = some (.int .i64 y) := h1.keep0 (by simp [go_sem]); have b21 : W1.cell? ⟨w.heap.size + 1, 2, none⟩ = some (.bool u) := h1.keep0 (by simp [go_sem]); have r01 : W1.cell? ⟨w.heap.size + 2, 0, none⟩ = some (.int .i64 0) := h1.keep0 (by simp [go_sem]); have r11 : W1.cell? ⟨w.heap.size + 2, 1, none⟩ = some (.int .i64 0) := h1.keep0 (by simp [go_sem]); have r21 : W1.cell? ⟨w.heap.size + 2, 2, none⟩ = some (.slice none 0 0) := h1.keep0 (by simp [go_sem]); have rf1 : ∀ o, W1.frozen? ⟨w.heap.size + 2, o, none⟩ = false := fun o => ((bcell h1.below).2 _ _ (by simp)).trans (by simp [go_sem])))
  have GG := Lib.hid (show Gr w W1 from (Gr.alloc (Gr.alloc (Gr.alloc (Gr.refl w) _) _) _).trans h1)
  have HS := Lib.hid (And.intro a01 (And.intro a11 (And.intro a21 (And.intro b01 (And.intro b11 b21)))))
  have HRB := Lib.hid (And.intro r01 (And.intro r11 (And.intro r21 rf1)))
  have zz : w.heap.size + 2 < W1.heap.size := World.block_lt_of_cell? _ _ r01
  clear a01 a11 a21 b01 b11 b21 r01 r11 r21 rf1 h1
  refine wp_region_held_drew (S := fun W' => W'.cell? ⟨w.heap.size, 0, none⟩ = some (.int .i64 W) ∧ W'.cell? ⟨w.heap.size, 1, none⟩ = some (.int .i64 H) ∧ W'.cell? ⟨w.heap.size, 2, none⟩ = some (.slice A ps.length c) ∧ W'.cell? ⟨w.heap.size + 1, 0, none⟩ = some (.int .i64 x) ∧ W'.cell? ⟨w.heap.size + 1, 1, none⟩ = some (.int .i64 y) ∧ W'.cell? ⟨w.heap.size + 1, 2, none⟩ = some (.bool u)) (by kernel_rfl) (SixB.gr HS.out (Gr.drew (Gr.refl _))) (fun hHeld => ?_)
  (refine wpAnyH_take (i := 0) (v := ?_) (by simp only [List.getElem?_toArray, List.getElem?_cons_succ, List.getElem?_cons_zero]; exact rfl) (by kernel_rfl) (by kernel_rfl) (by kernel_rfl) (by intro _ _ _ h; exact h) (Or.inl ⟨by rfl, ?_⟩) (by assumption) ?_; rotate_left; (focus (intro w' hSw; (try dsimp only at hSw); go_simp; (try with_reducible rfl))); try simp only [Act.put, List.setIfInBounds_toArray, List.set_cons_zero, List.set_cons_succ])
  (refine wpAnyH_take (i := 1) (v := ?_) (by simp only [List.getElem?_toArray, List.getElem?_cons_succ, List.getElem?_cons_zero]; exact rfl) (by kernel_rfl) (by kernel_rfl) (by kernel_rfl) (by intro _ _ _ h; exact h) (Or.inl ⟨by rfl, ?_⟩) (by assumption) ?_; rotate_left; (focus (intro w' hSw; (try dsimp only at hSw); go_simp; (try with_reducible rfl))); try simp only [Act.put, List.setIfInBounds_toArray, List.set_cons_zero, List.set_cons_succ])
  (refine wpAnyH_take (i := 2) (v := ?_) (by simp only [List.getElem?_toArray, List.getElem?_cons_succ, List.getElem?_cons_zero]; exact rfl) (by kernel_rfl) (by kernel_rfl) (by kernel_rfl) (by intro _ _ _ h; exact h) (Or.inl ⟨by rfl, ?_⟩) (by assumption) ?_; rotate_left; (focus (intro w' hSw; (try dsimp only at hSw); go_simp; (try with_reducible rfl))); try simp only [Act.put, List.setIfInBounds_toArray, List.set_cons_zero, List.set_cons_succ])
  (refine wpAnyH_take (i := 3) (v := ?_) (by simp only [List.getElem?_toArray, List.getElem?_cons_succ, List.getElem?_cons_zero]; exact rfl) (by kernel_rfl) (by kernel_rfl) (by kernel_rfl) (by intro _ _ _ h; exact h) (Or.inl ⟨by rfl, ?_⟩) (by assumption) ?_; rotate_left; (focus (intro w' hSw; (try dsimp only at hSw); go_simp; (try with_reducible rfl))); try simp only [Act.put, List.setIfInBounds_toArray, List.set_cons_zero, List.set_cons_succ])
  (refine wpAnyH_take (i := 4) (v := ?_) (by simp only [List.getElem?_toArray, List.getElem?_cons_succ, List.getElem?_cons_zero]; exact rfl) (by kernel_rfl) (by kernel_rfl) (by kernel_rfl) (by intro _ _ _ h; exact h) (Or.inl ⟨by rfl, ?_⟩) (by assumption) ?_; rotate_left; (focus (intro w' hSw; (try dsimp only at hSw); go_simp; (try with_reducible rfl))); try simp only [Act.put, List.setIfInBounds_toArray, List.set_cons_zero, List.set_cons_succ])
  (refine wpAnyH_take (i := 5) (v := ?_) (by simp only [List.getElem?_toArray, List.getElem?_cons_succ, List.getElem?_cons_zero]; exact rfl) (by kernel_rfl) (by kernel_rfl) (by kernel_rfl) (by intro _ _ _ h; exact h) (Or.inl ⟨by rfl, ?_⟩) (by assumption) ?_; rotate_left; (focus (intro w' hSw; (try dsimp only at hSw); go_simp; (try with_reducible rfl))); try simp only [Act.put, List.setIfInBounds_toArray, List.set_cons_zero, List.set_cons_succ])
  (refine wpAnyH_take (i := 7) (v := ?_) (by simp only [List.getElem?_toArray, List.getElem?_cons_succ, List.getElem?_cons_zero]; exact rfl) (by kernel_rfl) (by kernel_rfl) (by kernel_rfl) (by intro _ _ _ h; exact h) (Or.inl ⟨by rfl, ?_⟩) (by assumption) ?_; rotate_left; (focus (intro w' hSw; (try dsimp only at hSw); go_simp; (try with_reducible rfl))); try simp only [Act.put, List.setIfInBounds_toArray, List.set_cons_zero, List.set_cons_succ])
  (refine wpAnyH_take (i := 8) (v := ?_) (by simp only [List.getElem?_toArray, List.getElem?_cons_succ, List.getElem?_cons_zero]; exact rfl) (by kernel_rfl) (by kernel_rfl) (by kernel_rfl) (by intro _ _ _ h; exact h) (Or.inl ⟨by rfl, ?_⟩) (by assumption) ?_; rotate_left; (focus (intro w' hSw; (try dsimp only at hSw); go_simp; (try with_reducible rfl))); try simp only [Act.put, List.setIfInBounds_toArray, List.set_cons_zero, List.set_cons_succ])
  refine wpAnyH_ready (rs := [6, 9]) (by kernel_rfl) (by simp) (AllReadyH.cons (by simp only [List.getElem?_toArray, List.getElem?_cons_succ, List.getElem?_cons_zero]; exact rfl) (fun K' hK => ?_) (AllReadyH.cons (by simp only [List.getElem?_toArray, List.getElem?_cons_succ, List.getElem?_cons_zero]; exact rfl) (fun K' hK => ?_) AllReadyH.nil))
  · go_simp
    (go_at_call 56; refine (CL.out _ (Gr.drew GG.out)).mono ?_; rintro e m6 ⟨v6, rfl, o6, d6⟩; obtain ⟨A6, c6, rfl, o6⟩ := OwnE.eta o6)
    have D6 : Below W1.heap.size W1 m6 := (Below.drew (Below.refl _ _)).trans d6
    have S6 := SixB.bel HS.out D6 (Nat.lt_of_succ_lt zz)
    (refine hK.out _ _ (S6) (fun hHeld => ?_); clear hK K'; try simp only [Act.put, List.setIfInBounds_toArray, List.set_cons_zero, List.set_cons_succ])
    refine wpAnyH_ready (rs := [9]) (by kernel_rfl) (by simp) (AllReadyH.cons (by simp only [List.getElem?_toArray, List.getElem?_cons_succ, List.getElem?_cons_zero]; exact rfl) (fun K' hK => ?_) AllReadyH.nil)
    go_simp
    have D9 : Below W1.heap.size W1 (m6.alloc (Obj.cells #[.int .i64 x, .int .i64 y, .bool u] 34)) := D6.trans ((Gr.alloc (Gr.refl m6) (Obj.cells #[.int .i64 x, .int .i64 y, .bool u] 34)).below.mono D6.size)
    (refine hK.out _ _ (SixB.bel HS.out D9 (Nat.lt_of_succ_lt zz)) (fun hHeld => ?_); clear hK K'; try simp only [Act.put, List.setIfInBounds_toArray, List.set_cons_zero, List.set_cons_succ])
    refine wpAnyH_ready (rs := [10]) (by kernel_rfl) (by simp) (AllReadyH.cons (by simp only [List.getElem?_toArray, List.getElem?_cons_succ, List.getElem?_cons_zero]; exact rfl) (fun K' hK => ?_) AllReadyH.nil)
    go_simp
    (go_at_call 55; refine (Try.insertA _ W1.heap.size pk _ ps x y u m6.heap.size ((D9).size) HLE.out (by have := HLN.out; omega) (fun e => by have := (World.ownsRow.lt o6 _ e).2; omega) (OwnE.mono (OwnE.gr o6 (Gr.alloc (Gr.refl m6) _)) (Nat.le_refl _)) (heap_alloc_new m6 _)).mono ?_; rintro e m8 ⟨v8, rfl, o8, d8, _⟩; rw [HR.out] at o8; obtain ⟨A8, c8, rfl, o8⟩ := OwnE.eta o8)
    have D8 : Below W1.heap.size W1 m8 := (D9).trans d8
    have S8 := SixB.bel HS.out D8 (Nat.lt_of_succ_lt zz)
    have R8 := RbxB.bel HRB.out D8 zz
    (refine hK.out _ _ (S8) (fun hHeld => ?_); clear hK K'; try simp only [Act.put, List.setIfInBounds_toArray, List.set_cons_zero, List.set_cons_succ])
    refine wpAnyH_ready (rs := [11]) (by kernel_rfl) (by simp) (AllReadyH.cons (by simp only [List.getElem?_toArray, List.getElem?_cons_succ, List.getElem?_cons_zero]; exact rfl) (fun K' hK => ?_) AllReadyH.nil)
    go_simp
    (refine hK.out _ _ (S8) (fun hHeld => ?_); clear hK K'; try simp only [Act.put, List.setIfInBounds_toArray, List.set_cons_zero, List.set_cons_succ])
    have r0 := R8.1
    have r1 := R8.2.1
    have r2 := R8.2.2.1
    have rf := R8.2.2.2
    refine wpAnyH_ready (rs := [12]) (by kernel_rfl) (by simp) (AllReadyH.cons (by simp only [List.getElem?_toArray, List.getElem?_cons_succ, List.getElem?_cons_zero]; exact rfl) (fun K' hK => ?_) AllReadyH.nil)
    go_simp
    (refine hK.out _ _ (SixB.set (SixB.set (SixB.set S8))) (fun hHeld => ?_); clear hK K'; try simp only [Act.put, List.setIfInBounds_toArray, List.set_cons_zero, List.set_cons_succ])
    refine wpAnyH_done (by kernel_rfl) ?_ _
    go_wp2
    refine bodyPost_ret (v := .agg #[.int .i64 W, .int .i64 H, .slice A8 R.length c8]) (by simp [results, Try.results36, go_sem, r0, r1, r2]) rfl ⟨_, rfl, ?_, ?_⟩
    · exact OwnE.mono (OwnE.setOther (a := ⟨w.heap.size + 2, 2, none⟩) (OwnE.setOther (a := ⟨w.heap.size + 2, 1, none⟩) (OwnE.setOther (a := ⟨w.heap.size + 2, 0, none⟩) o8 zz _) zz _) zz _) (by omega)
    · exact (((GG.out.below.trans (D8.mono GG.out.below.size)).setCell (by simp; omega) _).setCell (by simp; omega) _).setCell (by simp; omega) _
  · go_simp
    (refine hK.out _ _ (SixB.gr HS.out (Gr.alloc (Gr.drew (Gr.refl _)) _)) (fun hHeld => ?_); clear hK K'; try simp only [Act.put, List.setIfInBounds_toArray, List.set_cons_zero, List.set_cons_succ])
    refine wpAnyH_ready (rs := [6]) (by kernel_rfl) (by simp) (AllReadyH.cons (by simp only [List.getElem?_toArray, List.getElem?_cons_succ, List.getElem?_cons_zero]; exact rfl) (fun K' hK => ?_) AllReadyH.nil)
    go_simp
    (go_at_call 56; refine (CL.out _ (Gr.alloc (Gr.drew GG.out) _)).mono ?_; rintro e m6 ⟨v6, rfl, o6, d6⟩; obtain ⟨A6, c6, rfl, o6⟩ := OwnE.eta o6)
    have D0 : Below W1.heap.size W1 (W1.drew.alloc (Obj.cells #[.int .i64 x, .int .i64 y, .bool u] 34)) := (Gr.alloc (Gr.drew (Gr.refl W1)) (Obj.cells #[.int .i64 x, .int .i64 y, .bool u] 34)).below
    have D6 : Below W1.heap.size W1 m6 := D0.trans (d6.mono D0.size)
    have S6 := SixB.bel HS.out D6 (Nat.lt_of_succ_lt zz)
    have hbk : m6.heap[W1.heap.size]? = some (.cells #[.int .i64 x, .int .i64 y, .bool u] 34 (0, 0)) := (d6.block W1.heap.size (by simp)).trans (by refine heap_new' ?_; simp; done)
    (refine hK.out _ _ (S6) (fun hHeld => ?_); clear hK K'; try simp only [Act.put, List.setIfInBounds_toArray, List.set_cons_zero, List.set_cons_succ])
    refine wpAnyH_ready (rs := [10]) (by kernel_rfl) (by simp) (AllReadyH.cons (by simp only [List.getElem?_toArray, List.getElem?_cons_succ, List.getElem?_cons_zero]; exact rfl) (fun K' hK => ?_) AllReadyH.nil)
    go_simp
    (go_at_call 55; refine (Try.insertA _ W1.heap.size pk _ ps x y u W1.heap.size ((D6).size) HLE.out (by have := HLN.out; omega) (fun e => by have := (World.ownsRow.lt o6 _ e).1; simp at this; omega) (OwnE.mono o6 (by simp)) (hbk)).mono ?_; rintro e m8 ⟨v8, rfl, o8, d8, _⟩; rw [HR.out] at o8; obtain ⟨A8, c8, rfl, o8⟩ := OwnE.eta o8)
    have D8 : Below W1.heap.size W1 m8 := (D6).trans d8
    have S8 := SixB.bel HS.out D8 (Nat.lt_of_succ_lt zz)
    have R8 := RbxB.bel HRB.out D8 zz
    (refine hK.out _ _ (S8) (fun hHeld => ?_); clear hK K'; try simp only [Act.put, List.setIfInBounds_toArray, List.set_cons_zero, List.set_cons_succ])
    refine wpAnyH_ready (rs := [11]) (by kernel_rfl) (by simp) (AllReadyH.cons (by simp only [List.getElem?_toArray, List.getElem?_cons_succ, List.getElem?_cons_zero]; exact rfl) (fun K' hK => ?_) AllReadyH.nil)
    go_simp
    (refine hK.out _ _ (S8) (fun hHeld => ?_); clear hK K'; try simp only [Act.put, List.setIfInBounds_toArray, List.set_cons_zero, List.set_cons_succ])
    have r0 := R8.1
    have r1 := R8.2.1
    have r2 := R8.2.2.1
    have rf := R8.2.2.2
    refine wpAnyH_ready (rs := [12]) (by kernel_rfl) (by simp) (AllReadyH.cons (by simp only [List.getElem?_toArray, List.getElem?_cons_succ, List.getElem?_cons_zero]; exact rfl) (fun K' hK => ?_) AllReadyH.nil)
    go_simp
    (refine hK.out _ _ (SixB.set (SixB.set (SixB.set S8))) (fun hHeld => ?_); clear hK K'; try simp only [Act.put, List.setIfInBounds_toArray, List.set_cons_zero, List.set_cons_succ])
    refine wpAnyH_done (by kernel_rfl) ?_ _
    go_wp2
    refine bodyPost_ret (v := .agg #[.int .i64 W, .int .i64 H, .slice A8 R.length c8]) (by simp [results, Try.results36, go_sem, r0, r1, r2]) rfl ⟨_, rfl, ?_, ?_⟩
    · exact OwnE.mono (OwnE.setOther (a := ⟨w.heap.size + 2, 2, none⟩) (OwnE.setOther (a := ⟨w.heap.size + 2, 1, none⟩) (OwnE.setOther (a := ⟨w.heap.size + 2, 0, none⟩) o8 zz _) zz _) zz _) (by omega)
    · exact (((GG.out.below.trans (D8.mono GG.out.below.size)).setCell (by simp; omega) _).setCell (by simp; omega) _).setCell (by simp; omega) _
end Go.Proofs
