/-
  Chapter 9: areClues, at whose door what is no clue is recovered.
-/
import Derived.Test.YtopmclaphcnmbaaDoorPzB
import Derived.Defers
import Derived.Recover
namespace Go.Proofs
open Go.RowKit
set_option linter.unusedVariables false
set_option linter.unusedSimpArgs false
theorem Tryd.assertNo (x y z : Int) (w : World) : (Instr.typeAssert (.iface 87 (.agg #[.int .i64 x, .int .i64 y, .int .i64 z])) 20 87 true).run Tryd.prog w = .ok (.tuple #[.agg #[.int .i64 x, .int .i64 y, .int .i64 z], .bool true]) w := by kernel_rfl
theorem Tryd.assertNil (w : World) : (Instr.typeAssert .nilIface 20 87 true).run Tryd.prog w = .ok (.tuple #[.agg #[.int .i64 0, .int .i64 0, .int .i64 0], .bool false]) w := by kernel_rfl
set_option maxRecDepth 100000 in
set_option maxHeartbeats 800000 in
theorem Tryd.doorNone (q : Nat) (x y z : Int) (w : World) (b : Bool) (hc : w.cell? ⟨q, 0, none⟩ = some (.bool b)) (hz : w.frozen? ⟨q, 0, none⟩ = false) :
    CallsD Tryd.prog 64 #[.pointer (some ⟨q, 0, none⟩)] (.panicking [noC x y z]) w fun e u' w' =>
      e = .returned (.tuple #[]) ∧ u' = .panicking [{ noC x y z with recovered := true }] ∧ ∃ W1, Gr w W1 ∧ w' = W1.setCell ⟨q, 0, none⟩ (.bool false) := by
  have ha := Tryd.assertNo x y z
  have hq := World.block_lt_of_cell? _ _ hc
  have hc1 : ∀ o : Obj, (w.alloc o).cell? ⟨q, 0, none⟩ = some (.bool b) := fun o => (Gr.alloc (Gr.refl w) o).keep0 hc
  have hz1 : ∀ o : Obj, (w.alloc o).frozen? ⟨q, 0, none⟩ = false := fun o => ((bcell (Gr.alloc (Gr.refl w) o).below).2 _ _ hq).trans hz
  have hG : ∀ o : Obj, Gr w (w.alloc o) := fun o => Gr.alloc (Gr.refl w) o
  refine callsD_of_wpS Tryd.func64 rfl fun c₀ cs hu => ?_
  unfold noC at hu
  apply wpS_seq
  apply wpS_region
  simp [wpOpsS, go_sem, recoverD, hu, Tryd.ntmps64, Exit.thenS, ha]
  apply wpS_region
  simp [wpOpsS, go_sem, hc1, hz1, bodyPostS, results, Tryd.results64]
  exact ⟨⟨rfl, rfl⟩, _, hG _, rfl⟩
set_option maxRecDepth 100000 in
set_option maxHeartbeats 800000 in
theorem Tryd.doorIdle (q : Nat) (w : World) (b : Bool) (hc : w.cell? ⟨q, 0, none⟩ = some (.bool b)) (hz : w.frozen? ⟨q, 0, none⟩ = false) :
    CallsD Tryd.prog 64 #[.pointer (some ⟨q, 0, none⟩)] .returning w fun e u' w' =>
      e = .returned (.tuple #[]) ∧ u' = .returning ∧ ∃ W1, Gr w W1 ∧ w' = W1.setCell ⟨q, 0, none⟩ (.bool true) := by
  have ha := Tryd.assertNil
  have hq := World.block_lt_of_cell? _ _ hc
  have hc1 : ∀ o : Obj, (w.alloc o).cell? ⟨q, 0, none⟩ = some (.bool b) := fun o => (Gr.alloc (Gr.refl w) o).keep0 hc
  have hz1 : ∀ o : Obj, (w.alloc o).frozen? ⟨q, 0, none⟩ = false := fun o => ((bcell (Gr.alloc (Gr.refl w) o).below).2 _ _ hq).trans hz
  have hG : ∀ o : Obj, Gr w (w.alloc o) := fun o => Gr.alloc (Gr.refl w) o
  refine callsD_of_wpS Tryd.func64 rfl fun c₀ cs hu => ?_
  apply wpS_seq
  apply wpS_region
  simp [wpOpsS, go_sem, recoverD, hu, Tryd.ntmps64, Exit.thenS, ha]
  apply wpS_region
  simp [wpOpsS, go_sem, hc1, hz1, bodyPostS, results, Tryd.results64]
  cases c₀
  simp_all
  exact ⟨_, hG _, rfl⟩
/-- a row of clues that can be read -/
def CluRow (w : World) (v : Value) (cs : List Clu) : Prop := ∃ A c, v = .slice A cs.length c ∧ cs.length ≤ c ∧ c ≤ maxLen ∧ (cs = [] ∨ ∃ g o, A = some ⟨g, o, none⟩ ∧
  ∀ j, j < cs.length → w.cell? ⟨g, o + j * 3, none⟩ = some (.int .i64 (cs.getD j cl0).1) ∧ w.cell? ⟨g, o + j * 3 + 1, none⟩ = some (.int .i64 (cs.getD j cl0).2.1) ∧ w.cell? ⟨g, o + j * 3 + 2, none⟩ = some (.int .i64 (cs.getD j cl0).2.2))
theorem CluRow.gr {w w' : World} {v : Value} {cs : List Clu} (h : CluRow w v cs) (g : Gr w w') : CluRow w' v cs := by
  obtain ⟨A, c, e, h0, h1, h2⟩ := h
  refine ⟨A, c, e, h0, h1, h2.imp id ?_⟩
  rintro ⟨b, o, e2, h3⟩
  exact ⟨b, o, e2, fun j hj => ⟨g.keep0 (h3 j hj).1, g.keep0 (h3 j hj).2.1, g.keep0 (h3 j hj).2.2⟩⟩
theorem OwnC.row {w : World} {B : Nat} {v : Value} {cs : List Clu} (h : OwnC w B v cs) (hl : cs.length ≤ maxLen) : CluRow w v cs := by
  rcases OwnC.view h with ⟨rfl, A, c, rfl⟩ | ⟨_, g, c, rfl, _, _, h3, h4, hc, _⟩
  · rcases h.2 with ⟨q, _⟩ | ⟨g, cap, cur, q, _, _, _, hm, _, _⟩
    · cases q; exact ⟨_, _, rfl, by simp, by unfold maxLen; omega, .inl rfl⟩
    · cases q; exact ⟨_, _, rfl, by simp, hm, .inl rfl⟩
  · exact ⟨_, c, rfl, h3, h4, .inr ⟨g, 0, rfl, fun j hj => by simpa using hc j hj⟩⟩
def ARelC (cs : List Clu) (w : World) (i : Value) (wr : World) : Prop := Gr w wr ∧ ∃ k : Nat, k ≤ cs.length ∧ i = .int .i64 k ∧ ∀ j, j < k → cok (cs.getD j cl0) = true
theorem all_snocC {q : Nat → Prop} {k : Nat} (h : ∀ j, j < k → q j) (s : q k) : ∀ j, j < k + 1 → q j := fun j hj => by
  rcases Nat.lt_or_eq_of_le (Nat.le_of_lt_succ hj) with c | c
  · exact h j c
  · rw [c]; exact s
set_option maxRecDepth 100000 in
set_option maxHeartbeats 1600000 in
theorem Tryd.areClues (w : World) (v : Value) (cs : List Clu) (b : Bool) (hb : cs.all cok = b) (h : CluRow w v cs) :
    Calls Tryd.prog 49 #[v] w fun e w' => e = .returned (.bool b) ∧ Gr w w' := by
  have hmf : ∀ (fn : Fn) (first cap : Array Value) (w : World), (Instr.makeFunc fn first cap).run Tryd.prog w = .ok (.func fn first cap) w := fun _ _ _ _ => rfl
  obtain ⟨A, c, rfl, hlc, hcm, h⟩ := h
  unfold maxLen at hcm
  have HB := Lib.hid hb
  have HC := Lib.hid h
  clear hb h
  go_enter_defers Tryd.func49, Tryd.ntmps49
  go_wp2
  go_loopw [4, 8] (fun _ i wr => ARelC cs (w.alloc (.cells #[.bool false] 4)) i wr) (fun _ i _ => (cs.length - intOf i).toNat)
  case atStart => exact ⟨by repeat (first | exact Gr.refl _ | refine Gr.alloc ?_ _ | refine Gr.trans ?_ (by assumption) | refine Gr.drew ?_ | refine Gr.drewN ?_ _ | refine Gr.grow ?_ _ | refine Gr.setCell ?_ (by (try simp); (try omega)) _), 0, Nat.zero_le _, rfl, fun j hj => absurd hj (Nat.not_lt_zero _)⟩
  case round =>
    obtain ⟨gr, k, hk, rfl, hall⟩ := hrel
    have gq := gr
    have hq0 : wr.cell? ⟨w.heap.size, 0, none⟩ = some (.bool false) := gr.keep0 (by simp [go_sem])
    have hq1 : wr.frozen? ⟨w.heap.size, 0, none⟩ = false := ((bcell gr.below).2 _ _ (by simp)).trans (by simp [go_sem])
    have gw : Gr w wr := Gr.trans (Gr.alloc (Gr.refl w) _) gr
    by_cases hlt : k < cs.length
    · rcases HC.out with q | ⟨g, o, rfl, hc⟩
      · rw [q] at hlt; simp at hlt
      obtain ⟨c0, c1, c2⟩ := hc k hlt
      have e0 := gw.keep0 c0
      have e1 := gw.keep0 c1
      have e2 := gw.keep0 c2
      have z0 : (0 : Int) ≤ (k : Int) := by omega
      have z1 : (k : Int) < (cs.length : Int) := by omega
      have HA := Lib.hid hall
      have GR := Lib.hid gr
      have GW := Lib.hid gw
      have HQ := Lib.hid (And.intro hq0 hq1)
      rcases hy : cs.getD k cl0 with ⟨x, y, z⟩
      rw [hy] at e0 e1 e2
      simp only at e0 e1 e2
      have HY := Lib.hid hy
      clear hy hc c0 c1 c2 hall gr gq gw hq0 hq1
      cases hok : cok (x, y, z)
      · have HF := Lib.hid (show b = false by
          rw [← HB.out, List.all_eq_false]
          refine ⟨_, List.getElem_mem hlt, ?_⟩
          have := HY.out
          simp only [List.getD, List.getElem?_eq_getElem hlt, Option.getD_some] at this
          rw [this, hok]; simp)
        have HK := Lib.hid hok
        clear hok
        go_wp2_with (go_at_call 65; refine (Tryd.mustBeNo _ _ _ HK.out _).mono ?_; rintro e w2 ⟨rfl, g2⟩)
        have q0 : w2.cell? ⟨w.heap.size, 0, none⟩ = some (.bool false) := (show Gr wr w2 from (by repeat (first | exact Gr.refl _ | refine Gr.alloc ?_ _ | refine Gr.trans ?_ (by assumption) | refine Gr.drew ?_ | refine Gr.drewN ?_ _ | refine Gr.grow ?_ _ | refine Gr.setCell ?_ (by (try simp); (try omega)) _))).keep0 HQ.out.1
        have q1 : w2.frozen? ⟨w.heap.size, 0, none⟩ = false := ((bcell (show Gr wr w2 from (by repeat (first | exact Gr.refl _ | refine Gr.alloc ?_ _ | refine Gr.trans ?_ (by assumption) | refine Gr.drew ?_ | refine Gr.drewN ?_ _ | refine Gr.grow ?_ _ | refine Gr.setCell ?_ (by (try simp); (try omega)) _))).below).2 _ _ (World.block_lt_of_cell? _ _ HQ.out.1)).trans HQ.out.2
        refine leaves_cons (f := 64) (args := #[.pointer (some ⟨w.heap.size, 0, none⟩)]) (by simp) (by simp [go_sem]) ?_
        refine (Tryd.doorNone w.heap.size x y z w2 false q0 q1).mono ?_
        rintro e u' w3 ⟨rfl, rfl, W1, gW1, rfl⟩
        have q2 : (W1.setCell ⟨w.heap.size, 0, none⟩ (.bool false)).cell? ⟨w.heap.size, 0, none⟩ = some (.bool false) := World.cell?_setCell_same _ _ _ (gW1.keep0 q0)
        simp [Leaves, settle, results, Tryd.results49, go_sem, q2, noC]
        exact ⟨HF.out, Gr.setCell (GW.out.trans ((show Gr wr w2 from (by repeat (first | exact Gr.refl _ | refine Gr.alloc ?_ _ | refine Gr.trans ?_ (by assumption) | refine Gr.drew ?_ | refine Gr.drewN ?_ _ | refine Gr.grow ?_ _ | refine Gr.setCell ?_ (by (try simp); (try omega)) _))).trans gW1)) (Nat.le_refl _) _⟩
      · have HS := Lib.hid (all_snocC HA.out (show cok (cs.getD k cl0) = true by rw [HY.out]; exact hok))
        have HK := Lib.hid hok
        clear hok
        go_wp2_with (go_at_call 65; refine (Tryd.mustBe _ _ _ HK.out _).mono ?_; rintro e w2 ⟨rfl, g2⟩)
        go_roundw
        case rel => exact ⟨GR.out.trans (by repeat (first | exact Gr.refl _ | refine Gr.alloc ?_ _ | refine Gr.trans ?_ (by assumption) | refine Gr.drew ?_ | refine Gr.drewN ?_ _ | refine Gr.grow ?_ _ | refine Gr.setCell ?_ (by (try simp); (try omega)) _)), k + 1, by omega, by go_num, HS.out⟩
        case measure => simp [intOf]; omega
    · obtain rfl : k = cs.length := by omega
      have HF := Lib.hid (show b = true from HB.out.symm.trans (by
        rw [List.all_eq_true]
        intro x hx
        obtain ⟨j, hj, rfl⟩ := List.getElem_of_mem hx
        have := hall j hj
        simpa [List.getD, hj] using this))
      have GW := Lib.hid gw
      have HQ := Lib.hid (And.intro hq0 hq1)
      clear hall gr gq gw
      go_wp2
      have q0 : (wr.setCell ⟨w.heap.size, 0, none⟩ (.bool true)).cell? ⟨w.heap.size, 0, none⟩ = some (.bool true) := World.cell?_setCell_same _ _ _ HQ.out.1
      have q1 : (wr.setCell ⟨w.heap.size, 0, none⟩ (.bool true)).frozen? ⟨w.heap.size, 0, none⟩ = false := (World.frozen?_setCell _ _ _ _).trans HQ.out.2
      refine leaves_cons (f := 64) (args := #[.pointer (some ⟨w.heap.size, 0, none⟩)]) (by simp) (by simp [go_sem]) ?_
      refine (Tryd.doorIdle w.heap.size _ true q0 q1).mono ?_
      rintro e u' w3 ⟨rfl, rfl, W1, gW1, rfl⟩
      have q2 : (W1.setCell ⟨w.heap.size, 0, none⟩ (.bool true)).cell? ⟨w.heap.size, 0, none⟩ = some (.bool true) := World.cell?_setCell_same _ _ _ (gW1.keep0 q0)
      simp [Leaves, settle, results, Tryd.results49, go_sem, q2]
      exact ⟨HF.out, Gr.setCell ((Gr.setCell GW.out (Nat.le_refl _) _).trans gW1) (Nat.le_refl _) _⟩
end Go.Proofs
