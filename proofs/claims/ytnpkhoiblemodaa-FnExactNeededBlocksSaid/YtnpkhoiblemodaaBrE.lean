/-
  Contracts of chapter 4: is a block closed? Both sides.
-/
import Derived.Test.YtnpkhoiblemodaaBrD
import Derived.WalkMore
import Derived.Laws.StructEq
namespace Go.Proofs
open Go.RowKit Av
set_option linter.unusedVariables false
set_option linter.unusedSimpArgs false
def SRelB (ps : List Blk) (b : Blk) (w : World) (i : Value) (wr : World) : Prop := Gr w wr ∧ ∃ k : Nat, k ≤ ps.length ∧ i = .int .i64 k ∧ ∀ j, j < k → ps.getD j b0 ≠ b
theorem has_false {ps : List Blk} {b : Blk} (h : ∀ j, j < ps.length → ps.getD j b0 ≠ b) : has ps b = false := by
  unfold has
  rw [decide_eq_false_iff_not]
  intro hm
  obtain ⟨j, hj, e⟩ := List.getElem_of_mem hm
  exact h j hj (by rw [getD_eq _ _ hj, e])
theorem has_true {ps : List Blk} {b : Blk} {j : Nat} (hj : j < ps.length) (h : ps.getD j b0 = b) : has ps b = true := by
  unfold has
  rw [decide_eq_true_iff, ← h]
  exact getD_mem _ _ hj
theorem Try.eqlB (x y : Int) (u : Bool) (p q : Int) (t : Bool) (w : World) : Sem.run Try.prog (binOp .eql 34 (.agg #[.int .i64 x, .int .i64 y, .bool u]) (.agg #[.int .i64 p, .int .i64 q, .bool t])) w = .ok (.bool (decide ((x, y, u) = (p, q, t)))) w := by
  have u3 := Try.underlying3
  have a3 := Try.isAgg3
  have z3 := Try.sizeOf3
  have u4 := Try.underlying4
  have a4 := Try.isAgg4
  have z4 := Try.sizeOf4
  have hS : Try.prog.underlying 34 = some (.struct (Try.prog.fieldsOf 34)) := by kernel_rfl
  have hp : Try.prog.stoodInHeld 34 = false := by kernel_rfl
  rw [run_eql_struct, show (10000 : Nat) = 9999 + 1 from rfl, run_equalIn_agg w 9999 34 _ _ hS hp]
  simp only [Program.fieldsOf, Try.underlying34]
  go_simp
  by_cases h1 : x = p <;> by_cases h2 : y = q <;> by_cases h3 : u = t <;> simp [h1, h2, h3]
set_option maxRecDepth 100000 in
set_option maxHeartbeats 1600000 in
theorem Try.avShut (w : World) (W H : Int) (B : Nat) (a : Value) (ps : List Blk) (x y : Int) (u : Bool) (v : Bool) (hv : has ps (x, y, u) = v) (hl : ps.length ≤ 1048576) (h : OwnB w B a ps) :
    Calls Try.prog 30 #[.agg #[.int .i64 W, .int .i64 H, a], .agg #[.int .i64 x, .int .i64 y, .bool u]] w fun e w' => e = .returned (.bool v) ∧ Gr w w' := by
  have mixed : Try.prog.follows .mixedOrders = true := by kernel_rfl
  rcases OwnB.view h with ⟨rfl, A, c, rfl⟩ | ⟨hpos, g, c, rfl, _, hgw, _, _, hc, _⟩
  · obtain rfl : false = v := by rw [← hv]; rfl
    clear h hv
    go_enter Try.func30, Try.ntmps30
    go_wp2
    refine wp_loop_rounds 1 ?_
    rw [rounds_succ]
    go_wp2
    go_ret
    exact ⟨rfl, by repeat (first | exact Gr.refl _ | refine Gr.alloc ?_ _ | refine Gr.trans ?_ (by assumption) | refine Gr.drew ?_ | refine Gr.drewN ?_ _ | refine Gr.grow ?_ _ | refine Gr.setCell ?_ (by (try simp); (try omega)) _)⟩
  · have HC := Lib.hid hc
    have HV := Lib.hid hv
    clear h hc hv
    go_enter Try.func30, Try.ntmps30
    go_wp2
    go_loopw [6, 10] (fun _ i wr => SRelB ps (x, y, u) w i wr ∧ wr.cell? ⟨w.heap.size + 1, 0, none⟩ = some (.int .i64 x) ∧ wr.cell? ⟨w.heap.size + 1, 1, none⟩ = some (.int .i64 y) ∧ wr.cell? ⟨w.heap.size + 1, 2, none⟩ = some (.bool u)) (fun _ i _ => (ps.length - intOf i).toNat)
    case atStart => exact ⟨⟨by repeat (first | exact Gr.refl _ | refine Gr.alloc ?_ _ | refine Gr.trans ?_ (by assumption) | refine Gr.drew ?_ | refine Gr.drewN ?_ _ | refine Gr.grow ?_ _ | refine Gr.setCell ?_ (by (try simp); (try omega)) _), 0, Nat.zero_le _, rfl, fun j hj => absurd hj (Nat.not_lt_zero _)⟩, by simp [go_sem], by simp [go_sem], by simp [go_sem]⟩
    case round =>
      obtain ⟨⟨gr, k, hk, rfl, hall⟩, t0, t1, t2⟩ := hrel
      by_cases hlt : k < ps.length
      · rcases hp : ps.getD k b0 with ⟨p0, p1, p2⟩
        obtain ⟨e0, e1, e2⟩ := HC.out k hlt
        rw [hp] at e0 e1 e2
        simp only at e0 e1 e2
        replace e0 := gr.keep0 e0
        replace e1 := gr.keep0 e1
        replace e2 := gr.keep0 e2
        have z0 : (0 : Int) ≤ (k : Int) := by omega
        have z1 : (k : Int) < (ps.length : Int) := by omega
        have hs1 := World.block_lt_of_cell? _ _ t0
        simp only at hs1
        have GR := Lib.hid gr
        have HA := Lib.hid hall
        have HP := Lib.hid hp
        clear gr hall hp
        by_cases he : (x, y, u) = (p0, p1, p2)
        · have hE := fun w' => Try.eqlB x y u p0 p1 p2 w'
          rw [decide_eq_true he] at hE
          have HF := Lib.hid (show v = true by rw [← HV.out]; exact has_true hlt (HP.out.trans he.symm))
          clear he
          go_wp2
          go_ret
          exact ⟨by rw [HF.out]; rfl, Gr.alloc GR.out _⟩
        · have hE := fun w' => Try.eqlB x y u p0 p1 p2 w'
          rw [decide_eq_false he] at hE
          have HN := Lib.hid (show ∀ j, j < k + 1 → ps.getD j b0 ≠ (x, y, u) from fun j hj => by
            rcases Nat.lt_or_eq_of_le (Nat.le_of_lt_succ hj) with c | c
            · exact HA.out j c
            · rw [c, HP.out]; exact fun q => he q.symm)
          have g1 := Gr.alloc (Gr.refl wr) (.cells #[.int .i64 p0, .int .i64 p1, .bool p2] 34)
          have q0 := g1.keep0 t0
          have q1 := g1.keep0 t1
          have q2 := g1.keep0 t2
          have HQ := Lib.hid (And.intro q0 (And.intro q1 q2))
          clear he q0 q1 q2 g1
          go_wp2
          go_roundw
          case rel => exact ⟨⟨Gr.alloc GR.out _, k + 1, by omega, by go_num, HN.out⟩, HQ.out⟩
          case measure => simp [intOf]; omega
      · obtain rfl : k = ps.length := by omega
        have HF := Lib.hid (show v = false by rw [← HV.out]; exact has_false hall)
        have GR := Lib.hid gr
        clear gr hall t0 t1 t2
        go_wp2
        go_ret
        exact ⟨by rw [HF.out]; rfl, GR.out⟩
end Go.Proofs
