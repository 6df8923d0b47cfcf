/-
  Chapter 9: a clue added, both sides.
-/
import Derived.Test.YtokfnhbdncebmabPzVi
import Derived.ArgAppend
import Derived.Laws.AppendOwnNone
namespace Go.Proofs
open Go.RowKit
set_option linter.unusedVariables false
set_option linter.unusedSimpArgs false
def acB (k p : Int) (cs : List Clu) (x y z : Int) : Bool := pgood k p cs && cok (x, y, z) && decide (cs.length ≠ 6)
def acL (k p : Int) (cs : List Clu) (x y z : Int) : List Clu := if acB k p cs x y z then cs ++ [(x, y, z)] else []
theorem acL_len (k p : Int) (cs : List Clu) (x y z : Int) : (acL k p cs x y z).length ≤ 7 := by
  unfold acL
  cases h : acB k p cs x y z
  · simp
  · rw [if_pos rfl]
    unfold acB at h
    rw [Bool.and_eq_true, Bool.and_eq_true] at h
    have := (pgood_lt h.1.1).2.1
    simp
    omega
section
variable {α : Type} {k bytes : Nat} {enc : α → List Value} {P : Program} {o : Oper} {a : Act} {W : World} {Q : Exit → Act → World → Prop} {Z : Value} {T : TypeId}
theorem step_appN {ops : Array Oper} {K : Act → World → Prop} {E : Prop} (hgd : o.guard = none) (s x : Operand) (t : TypeId)
    (ho : o.op = .call { callee := .builtin .append, args := #[s, x], argTypes := #[t, t] }) (ht : P.underlying t = some (.slice T))
    (hinfo : (P.info? T).map (fun i => (i.zero, i.size, i.bytes)) = some (some Z, k, bytes)) (B : Nat) (v : Value) (ps : List α) (hs : a.eval s = v) (h : OwnE T k enc W B v ps)
    (hx : a.eval x = .slice none 0 0) (kk : K (a.put o.dst v) W) :
    if Region.wanted o (yielded ops a.tmps) = true then Oper.wp P o a W K Q else E := by
  rw [if_pos (show Region.wanted o (yielded ops a.tmps) = true by simp [Region.wanted, hgd])]
  obtain ⟨i0, hi, _, _, _⟩ := info_parts hinfo
  have hrun := run_append_owned_none (P := P) (w := W) B t o.type T i0 k ht hi v ps.length _ h
  unfold Oper.wp
  simp [execOp, ho, resolve, invoke, builtin, hs, hx, hrun, Result.andThen]
  exact kk
/-- an append onto a slice without room: whatever slice can be read -/
theorem step_growE (hk : ∀ x, (enc x).length = k) (h1 : ∀ x, ∀ u ∈ enc x, u.oneCell' = true) {ops : Array Oper} {K : Act → World → Prop} {E : Prop} (hgd : o.guard = none) (s x : Operand) (t : TypeId)
    (ho : o.op = .call { callee := .builtin .append, args := #[s, x], argTypes := #[t, t] }) (ht : P.underlying t = some (.slice T))
    (hinfo : (P.info? T).map (fun i => (i.zero, i.size, i.bytes)) = some (some Z, k, bytes)) (hZ : Z.cells.size = k) (h0 : 0 < k) (hby : bytes ≤ 64)
    (ao : Option Addr) (n cap : Nat) (ps : List α) (hs : a.eval s = .slice ao n cap) (hnone : ao = none → n = 0 ∧ cap = 0) (hn : ps.length = n) (hold : ∀ b, ao = some b → ∀ j u, (ecs enc ps)[j]? = some u → W.cell? (b.add j) = some u)
    (ad : Addr) (m c : Nat) (qs : List α) (hx : a.eval x = .slice (some ad) m c) (hm : qs.length = m) (hq : ∀ j u, (ecs enc qs)[j]? = some u → W.cell? (ad.add j) = some u) (hfull : cap < n + m) (hl : ps.length ≤ 1000000000) (hl2 : qs.length ≤ 1000000000)
    (kk : ∀ v' w', OwnE T k enc w' W.heap.size v' (ps ++ qs) → Below W.heap.size W w' → K (a.put o.dst v') w') :
    if Region.wanted o (yielded ops a.tmps) = true then Oper.wp P o a W K Q else E := by
  rw [if_pos (show Region.wanted o (yielded ops a.tmps) = true by simp [Region.wanted, hgd])]
  obtain ⟨i0, hi, hz0, hz1, hz2⟩ := info_parts hinfo
  have hb : (n + m) * bytes ≤ 140737488355328 := Nat.le_trans (Nat.mul_le_mul (show n + m ≤ 2000000000 by omega) hby) (by decide)
  have fin : ∀ v' w', w'.ownsRow W.heap.size T k v' (n + m) (ecs enc ps ++ ecs enc qs) → W.grownBy w' none → K (a.put o.dst v') w' := fun v' w' r1 r2 => by
    refine kk v' w' ?_ ⟨r2.os, r2.tape, r2.output, r2.size, fun j hj => r2.block j hj (by simp)⟩
    unfold OwnE
    rw [ecs_append, List.length_append, hm, hn]
    exact r1
  cases ao with
  | some b =>
    obtain ⟨v', w', hrun, r1, r2⟩ := run_append_arg_grows (P := P) W t o.type T i0 _ k bytes ht hi hz0 hz1 hz2 hZ h0 b n cap (ecs enc ps) (by rw [ecs_len hk, hn]) (hold b rfl) ad m c (ecs enc qs) (by rw [ecs_len hk, hm]) hq hfull (by unfold maxLen; omega) hb
    unfold Oper.wp
    simp [execOp, ho, resolve, invoke, builtin, hs, hx, hrun, Result.andThen]
    exact fin _ _ r1 r2
  | none =>
    obtain ⟨rfl, rfl⟩ := hnone rfl
    obtain rfl : ps = [] := List.eq_nil_of_length_eq_zero hn
    obtain ⟨v', w', hrun, r1, r2, _⟩ := run_append_own (P := P) W W.heap.size t o.type T i0 _ k bytes ht hi hz0 hz1 hz2 hZ h0 (.slice none 0 0) 0 [] (World.ownsRow_nil W _ T k) ad m c (ecs enc qs) (by rw [ecs_len hk, hm]) hq (ecs_one h1 qs) (by unfold maxLen; omega) hb (Nat.le_refl _)
    unfold Oper.wp
    simp [execOp, ho, resolve, invoke, builtin, hs, hx, hrun, Result.andThen]
    exact fin _ _ r1 r2
end
/-- six cells -/
def Six (W : World) (N : Nat) (k p x y z : Int) (v : Value) : Prop := W.cell? ⟨N, 0, none⟩ = some (.int .i64 k) ∧ W.cell? ⟨N, 1, none⟩ = some (.int .i64 p) ∧ W.cell? ⟨N, 2, none⟩ = some v ∧ W.cell? ⟨N + 1, 0, none⟩ = some (.int .i64 x) ∧ W.cell? ⟨N + 1, 1, none⟩ = some (.int .i64 y) ∧ W.cell? ⟨N + 1, 2, none⟩ = some (.int .i64 z)
theorem Six.bel {W W' : World} {N n : Nat} {k p x y z : Int} {v : Value} (h : Six W N k p x y z v) (g : Below n W W') (hn : N + 1 < n) : Six W' N k p x y z v :=
  ⟨(g.cell (p := ⟨N, 0, none⟩) (Nat.lt_of_succ_lt hn)).trans h.1, (g.cell (p := ⟨N, 1, none⟩) (Nat.lt_of_succ_lt hn)).trans h.2.1, (g.cell (p := ⟨N, 2, none⟩) (Nat.lt_of_succ_lt hn)).trans h.2.2.1, (g.cell (p := ⟨N + 1, 0, none⟩) hn).trans h.2.2.2.1, (g.cell (p := ⟨N + 1, 1, none⟩) hn).trans h.2.2.2.2.1, (g.cell (p := ⟨N + 1, 2, none⟩) hn).trans h.2.2.2.2.2⟩
theorem Six.gr {W W' : World} {N : Nat} {k p x y z : Int} {v : Value} (h : Six W N k p x y z v) (g : Gr W W') : Six W' N k p x y z v := ⟨g.keep0 h.1, g.keep0 h.2.1, g.keep0 h.2.2.1, g.keep0 h.2.2.2.1, g.keep0 h.2.2.2.2.1, g.keep0 h.2.2.2.2.2⟩
theorem Six.set {W : World} {N o : Nat} {k p x y z : Int} {v u : Value} (h : Six W N k p x y z v) : Six (W.setCell ⟨N + 2, o, none⟩ u) N k p x y z v :=
  ⟨cell_set_lt h.1 (by show N < N + 2; omega), cell_set_lt h.2.1 (by show N < N + 2; omega), cell_set_lt h.2.2.1 (by show N < N + 2; omega), cell_set_lt h.2.2.2.1 (by show N + 1 < N + 2; omega), cell_set_lt h.2.2.2.2.1 (by show N + 1 < N + 2; omega), cell_set_lt h.2.2.2.2.2 (by show N + 1 < N + 2; omega)⟩
/-- the result's box as it was made -/
def Rbx (W : World) (N : Nat) : Prop := W.cell? ⟨N + 2, 0, none⟩ = some (.int .i64 0) ∧ W.cell? ⟨N + 2, 1, none⟩ = some (.int .i64 0) ∧ W.cell? ⟨N + 2, 2, none⟩ = some (.slice none 0 0) ∧ ∀ o, W.frozen? ⟨N + 2, o, none⟩ = false
theorem Rbx.bel {W W' : World} {N n : Nat} (h : Rbx W N) (g : Below n W W') (hn : N + 2 < n) : Rbx W' N :=
  ⟨(g.cell (p := ⟨N + 2, 0, none⟩) hn).trans h.1, (g.cell (p := ⟨N + 2, 1, none⟩) hn).trans h.2.1, (g.cell (p := ⟨N + 2, 2, none⟩) hn).trans h.2.2.1, fun o => (g.frozen (p := ⟨N + 2, o, none⟩) hn).trans (h.2.2.2 o)⟩
set_option maxRecDepth 100000 in
set_option maxHeartbeats 3200000 in
theorem Try.sAddClue (w : World) (k p : Int) (B : Nat) (v : Value) (cs : List Clu) (x y z : Int) (hl : cs.length ≤ 1048576) (ho : OwnC w B v cs) :
    Calls Try.prog 12 #[pzV k p v, .agg #[.int .i64 x, .int .i64 y, .int .i64 z]] w (RetZ w (ifZ (acB k p cs x y z) k) (ifZ (acB k p cs x y z) p) (acL k p cs x y z) (acB k p cs x y z)) := by
  have h := OwnC.row ho (by unfold maxLen; omega)
  have PG := Lib.hid (fun (W : World) (g : Gr w W) b hb => Try.pzGood W k p v cs b hb (h.gr g))
  cases hb : acB k p cs x y z
  · rw [show acL k p cs x y z = [] by simp [acL, hb]]
    unfold ifZ
    simp only [Bool.false_eq_true, if_false]
    obtain ⟨A, c, rfl, _⟩ := h
    cases hg : pgood k p cs
    · have HG := Lib.hid hg
      clear hb hg ho
      go_enter Try.func12, Try.ntmps12
      go_wp2_with (first | (go_at_call 32; refine (PG.out _ (by repeat (first | exact Gr.refl _ | refine Gr.alloc ?_ _ | refine Gr.trans ?_ (by assumption) | refine Gr.drew ?_ | refine Gr.drewN ?_ _ | refine Gr.grow ?_ _ | refine Gr.setCell ?_ (by (try simp); (try omega)) _)) _ HG.out).mono ?_; rintro e W1 ⟨rfl, h1⟩; have S1 : Six W1 w.heap.size k p x y z (.slice A cs.length c) := ⟨h1.keep0 (by simp [go_sem]), h1.keep0 (by simp [go_sem]), h1.keep0 (by simp [go_sem]), h1.keep0 (by simp [go_sem]), h1.keep0 (by simp [go_sem]), h1.keep0 (by simp [go_sem])⟩; have R1 : Rbx W1 w.heap.size := ⟨h1.keep0 (by simp [go_sem]), h1.keep0 (by simp [go_sem]), h1.keep0 (by simp [go_sem]), fun o => ((bcell h1.below).2 _ _ (by simp)).trans (by simp [go_sem])⟩; have a01 := S1.1; have a11 := S1.2.1; have a21 := S1.2.2.1; have b01 := S1.2.2.2.1; have b11 := S1.2.2.2.2.1; have b21 := S1.2.2.2.2.2; have r01 := R1.1; have r11 := R1.2.1; have r21 := R1.2.2.1; have rf1 := R1.2.2.2))
      refine bodyPost_ret (v := .tuple #[.agg #[.int .i64 0, .int .i64 0, .slice none 0 0], .bool false]) (by simp [results, Try.results12, go_sem, r01, r11, r21]) rfl ⟨_, rfl, OwnE.nil _ _ _ _ _, Gr.below (by repeat (first | exact Gr.refl _ | refine Gr.alloc ?_ _ | refine Gr.trans ?_ (by assumption) | refine Gr.drew ?_ | refine Gr.drewN ?_ _ | refine Gr.grow ?_ _ | refine Gr.setCell ?_ (by (try simp); (try omega)) _))⟩
    · have HG := Lib.hid hg
      have q1 := (pgood_lt hg).1
      cases hc : cok (x, y, z)
      · have HC := Lib.hid (show cok (x, y, z) = false by exact hc)
        clear hb hg ho hc q1
        go_enter Try.func12, Try.ntmps12
        go_wp2_with (first | (go_at_call 32; refine (PG.out _ (by repeat (first | exact Gr.refl _ | refine Gr.alloc ?_ _ | refine Gr.trans ?_ (by assumption) | refine Gr.drew ?_ | refine Gr.drewN ?_ _ | refine Gr.grow ?_ _ | refine Gr.setCell ?_ (by (try simp); (try omega)) _)) _ HG.out).mono ?_; rintro e W1 ⟨rfl, h1⟩; have S1 : Six W1 w.heap.size k p x y z (.slice A cs.length c) := ⟨h1.keep0 (by simp [go_sem]), h1.keep0 (by simp [go_sem]), h1.keep0 (by simp [go_sem]), h1.keep0 (by simp [go_sem]), h1.keep0 (by simp [go_sem]), h1.keep0 (by simp [go_sem])⟩; have R1 : Rbx W1 w.heap.size := ⟨h1.keep0 (by simp [go_sem]), h1.keep0 (by simp [go_sem]), h1.keep0 (by simp [go_sem]), fun o => ((bcell h1.below).2 _ _ (by simp)).trans (by simp [go_sem])⟩; have a01 := S1.1; have a11 := S1.2.1; have a21 := S1.2.2.1; have b01 := S1.2.2.2.1; have b11 := S1.2.2.2.2.1; have b21 := S1.2.2.2.2.2; have r01 := R1.1; have r11 := R1.2.1; have r21 := R1.2.2.1; have rf1 := R1.2.2.2) | (go_at_call 33; refine (Try.pzClue _ _ _ _ HC.out _).mono ?_; rintro e W2 ⟨rfl, h2⟩; have h3 := h1.trans h2; have S2 : Six W2 w.heap.size k p x y z (.slice A cs.length c) := ⟨h3.keep0 (by simp [go_sem]), h3.keep0 (by simp [go_sem]), h3.keep0 (by simp [go_sem]), h3.keep0 (by simp [go_sem]), h3.keep0 (by simp [go_sem]), h3.keep0 (by simp [go_sem])⟩; have R2 : Rbx W2 w.heap.size := ⟨h3.keep0 (by simp [go_sem]), h3.keep0 (by simp [go_sem]), h3.keep0 (by simp [go_sem]), fun o => ((bcell h3.below).2 _ _ (by simp)).trans (by simp [go_sem])⟩; have a02 := S2.1; have a12 := S2.2.1; have a22 := S2.2.2.1; have b02 := S2.2.2.2.1; have b12 := S2.2.2.2.2.1; have b22 := S2.2.2.2.2.2; have r02 := R2.1; have r12 := R2.2.1; have r22 := R2.2.2.1; have rf2 := R2.2.2.2))
        refine bodyPost_ret (v := .tuple #[.agg #[.int .i64 0, .int .i64 0, .slice none 0 0], .bool false]) (by simp [results, Try.results12, go_sem, r02, r12, r22]) rfl ⟨_, rfl, OwnE.nil _ _ _ _ _, Gr.below (by repeat (first | exact Gr.refl _ | refine Gr.alloc ?_ _ | refine Gr.trans ?_ (by assumption) | refine Gr.drew ?_ | refine Gr.drewN ?_ _ | refine Gr.grow ?_ _ | refine Gr.setCell ?_ (by (try simp); (try omega)) _))⟩
      · have HC := Lib.hid (show cok (x, y, z) = true by exact hc)
        have h6 : cs.length = 6 := by
          unfold acB at hb
          rw [hg, hc, Bool.true_and, Bool.true_and] at hb
          exact Classical.byContradiction fun q => by rw [decide_eq_true q] at hb; cases hb
        have z6 : ((cs.length : Int) == 6) = true := by rw [h6]; rfl
        have z6' : (cs.length : Int) = 6 := by omega
        clear hb hg ho hc q1 h6
        go_enter Try.func12, Try.ntmps12
        go_wp2_with (first | (go_at_call 32; refine (PG.out _ (by repeat (first | exact Gr.refl _ | refine Gr.alloc ?_ _ | refine Gr.trans ?_ (by assumption) | refine Gr.drew ?_ | refine Gr.drewN ?_ _ | refine Gr.grow ?_ _ | refine Gr.setCell ?_ (by (try simp); (try omega)) _)) _ HG.out).mono ?_; rintro e W1 ⟨rfl, h1⟩; have S1 : Six W1 w.heap.size k p x y z (.slice A cs.length c) := ⟨h1.keep0 (by simp [go_sem]), h1.keep0 (by simp [go_sem]), h1.keep0 (by simp [go_sem]), h1.keep0 (by simp [go_sem]), h1.keep0 (by simp [go_sem]), h1.keep0 (by simp [go_sem])⟩; have R1 : Rbx W1 w.heap.size := ⟨h1.keep0 (by simp [go_sem]), h1.keep0 (by simp [go_sem]), h1.keep0 (by simp [go_sem]), fun o => ((bcell h1.below).2 _ _ (by simp)).trans (by simp [go_sem])⟩; have a01 := S1.1; have a11 := S1.2.1; have a21 := S1.2.2.1; have b01 := S1.2.2.2.1; have b11 := S1.2.2.2.2.1; have b21 := S1.2.2.2.2.2; have r01 := R1.1; have r11 := R1.2.1; have r21 := R1.2.2.1; have rf1 := R1.2.2.2) | (go_at_call 33; refine (Try.pzClue _ _ _ _ HC.out _).mono ?_; rintro e W2 ⟨rfl, h2⟩; have h3 := h1.trans h2; have S2 : Six W2 w.heap.size k p x y z (.slice A cs.length c) := ⟨h3.keep0 (by simp [go_sem]), h3.keep0 (by simp [go_sem]), h3.keep0 (by simp [go_sem]), h3.keep0 (by simp [go_sem]), h3.keep0 (by simp [go_sem]), h3.keep0 (by simp [go_sem])⟩; have R2 : Rbx W2 w.heap.size := ⟨h3.keep0 (by simp [go_sem]), h3.keep0 (by simp [go_sem]), h3.keep0 (by simp [go_sem]), fun o => ((bcell h3.below).2 _ _ (by simp)).trans (by simp [go_sem])⟩; have a02 := S2.1; have a12 := S2.2.1; have a22 := S2.2.2.1; have b02 := S2.2.2.2.1; have b12 := S2.2.2.2.2.1; have b22 := S2.2.2.2.2.2; have r02 := R2.1; have r12 := R2.2.1; have r22 := R2.2.2.1; have rf2 := R2.2.2.2))
        refine bodyPost_ret (v := .tuple #[.agg #[.int .i64 0, .int .i64 0, .slice none 0 0], .bool false]) (by simp [results, Try.results12, go_sem, r02, r12, r22]) rfl ⟨_, rfl, OwnE.nil _ _ _ _ _, Gr.below (by repeat (first | exact Gr.refl _ | refine Gr.alloc ?_ _ | refine Gr.trans ?_ (by assumption) | refine Gr.drew ?_ | refine Gr.drewN ?_ _ | refine Gr.grow ?_ _ | refine Gr.setCell ?_ (by (try simp); (try omega)) _))⟩
  · rw [show acL k p cs x y z = cs ++ [(x, y, z)] by simp [acL, hb]]
    unfold ifZ
    simp only [if_true]
    have hb' := hb
    unfold acB at hb'
    rw [Bool.and_eq_true, Bool.and_eq_true] at hb'
    have HG := Lib.hid hb'.1.1
    have q1 := (pgood_lt hb'.1.1).1
    have HC := Lib.hid (show cok (x, y, z) = true by exact hb'.1.2)
    have h6 : cs.length ≠ 6 := of_decide_eq_true hb'.2
    have H6 := Lib.hid (pgood_lt hb'.1.1).2.1
    clear hb hb' q1 h
    rcases OwnC.two ho with ⟨rfl, rfl⟩ | ⟨g, c, rfl, hcl, hcm, hgs, hc⟩
    · clear ho h6
      go_enter Try.func12, Try.ntmps12
      go_wp2_with (first | (go_at_call 32; refine (PG.out _ (by repeat (first | exact Gr.refl _ | refine Gr.alloc ?_ _ | refine Gr.trans ?_ (by assumption) | refine Gr.drew ?_ | refine Gr.drewN ?_ _ | refine Gr.grow ?_ _ | refine Gr.setCell ?_ (by (try simp); (try omega)) _)) _ HG.out).mono ?_; rintro e W1 ⟨rfl, h1⟩; have S1 : Six W1 w.heap.size k p x y z (.slice none 0 0) := ⟨h1.keep0 (by simp [go_sem]), h1.keep0 (by simp [go_sem]), h1.keep0 (by simp [go_sem]), h1.keep0 (by simp [go_sem]), h1.keep0 (by simp [go_sem]), h1.keep0 (by simp [go_sem])⟩; have R1 : Rbx W1 w.heap.size := ⟨h1.keep0 (by simp [go_sem]), h1.keep0 (by simp [go_sem]), h1.keep0 (by simp [go_sem]), fun o => ((bcell h1.below).2 _ _ (by simp)).trans (by simp [go_sem])⟩; have a01 := S1.1; have a11 := S1.2.1; have a21 := S1.2.2.1; have b01 := S1.2.2.2.1; have b11 := S1.2.2.2.2.1; have b21 := S1.2.2.2.2.2; have r01 := R1.1; have r11 := R1.2.1; have r21 := R1.2.2.1; have rf1 := R1.2.2.2) | (go_at_call 33; refine (Try.pzClue _ _ _ _ HC.out _).mono ?_; rintro e W2 ⟨rfl, h2⟩; have h3 := h1.trans h2; have S2 : Six W2 w.heap.size k p x y z (.slice none 0 0) := ⟨h3.keep0 (by simp [go_sem]), h3.keep0 (by simp [go_sem]), h3.keep0 (by simp [go_sem]), h3.keep0 (by simp [go_sem]), h3.keep0 (by simp [go_sem]), h3.keep0 (by simp [go_sem])⟩; have R2 : Rbx W2 w.heap.size := ⟨h3.keep0 (by simp [go_sem]), h3.keep0 (by simp [go_sem]), h3.keep0 (by simp [go_sem]), fun o => ((bcell h3.below).2 _ _ (by simp)).trans (by simp [go_sem])⟩; have a02 := S2.1; have a12 := S2.2.1; have a22 := S2.2.2.1; have b02 := S2.2.2.2.1; have b12 := S2.2.2.2.2.1; have b22 := S2.2.2.2.2.2; have r02 := R2.1; have r12 := R2.2.1; have r22 := R2.2.2.1; have rf2 := R2.2.2.2))
      have GG := Lib.hid (show Gr w W2 from ((Gr.alloc (Gr.alloc (Gr.alloc (Gr.refl w) _) _) _).trans h3))
      have HS := Lib.hid S2
      have HR := Lib.hid R2
      have zz : w.heap.size + 2 < W2.heap.size := World.block_lt_of_cell? _ _ R2.1
      clear S1 R1 S2 R2 h1 h2 h3 a01 a11 a21 b01 b11 b21 r01 r11 r21 rf1 a02 a12 a22 b02 b12 b22 r02 r12 r22 rf2
      clear W1
      generalize hWW : W2 = W at *
      clear hWW
      refine wp_region_held_drew (S := fun W' => W'.cell? ⟨w.heap.size, 0, none⟩ = some (.int .i64 k) ∧ W'.cell? ⟨w.heap.size, 1, none⟩ = some (.int .i64 p) ∧ W'.cell? ⟨w.heap.size, 2, none⟩ = some (.slice none 0 0) ∧ W'.cell? ⟨w.heap.size + 1, 0, none⟩ = some (.int .i64 x) ∧ W'.cell? ⟨w.heap.size + 1, 1, none⟩ = some (.int .i64 y) ∧ W'.cell? ⟨w.heap.size + 1, 2, none⟩ = some (.int .i64 z)) (by kernel_rfl) (HS.out.gr (Gr.drew (Gr.refl W))) (fun hHeld => ?_)
      (refine wpAnyH_take (i := 0) (v := ?_) (by simp only [List.getElem?_toArray, List.getElem?_cons_succ, List.getElem?_cons_zero]; exact rfl) (by kernel_rfl) (by kernel_rfl) (by kernel_rfl) (by intro _ _ _ h; exact h) (Or.inl ⟨by rfl, ?_⟩) (by assumption) ?_; rotate_left; (focus (intro w' hSw; (try dsimp only at hSw); go_simp; (try with_reducible rfl))); try simp only [Act.put, List.setIfInBounds_toArray, List.set_cons_zero, List.set_cons_succ])
      (refine wpAnyH_take (i := 1) (v := ?_) (by simp only [List.getElem?_toArray, List.getElem?_cons_succ, List.getElem?_cons_zero]; exact rfl) (by kernel_rfl) (by kernel_rfl) (by kernel_rfl) (by intro _ _ _ h; exact h) (Or.inl ⟨by rfl, ?_⟩) (by assumption) ?_; rotate_left; (focus (intro w' hSw; (try dsimp only at hSw); go_simp; (try with_reducible rfl))); try simp only [Act.put, List.setIfInBounds_toArray, List.set_cons_zero, List.set_cons_succ])
      (refine wpAnyH_take (i := 3) (v := ?_) (by simp only [List.getElem?_toArray, List.getElem?_cons_succ, List.getElem?_cons_zero]; exact rfl) (by kernel_rfl) (by kernel_rfl) (by kernel_rfl) (by intro _ _ _ h; exact h) (Or.inl ⟨by rfl, ?_⟩) (by assumption) ?_; rotate_left; (focus (intro w' hSw; (try dsimp only at hSw); go_simp; (try with_reducible rfl))); try simp only [Act.put, List.setIfInBounds_toArray, List.set_cons_zero, List.set_cons_succ])
      (refine wpAnyH_take (i := 4) (v := ?_) (by simp only [List.getElem?_toArray, List.getElem?_cons_succ, List.getElem?_cons_zero]; exact rfl) (by kernel_rfl) (by kernel_rfl) (by kernel_rfl) (by intro _ _ _ h; exact h) (Or.inl ⟨by rfl, ?_⟩) (by assumption) ?_; rotate_left; (focus (intro w' hSw; (try dsimp only at hSw); go_simp; (try with_reducible rfl))); try simp only [Act.put, List.setIfInBounds_toArray, List.set_cons_zero, List.set_cons_succ])
      (refine wpAnyH_take (i := 6) (v := ?_) (by simp only [List.getElem?_toArray, List.getElem?_cons_succ, List.getElem?_cons_zero]; exact rfl) (by kernel_rfl) (by kernel_rfl) (by kernel_rfl) (by intro _ _ _ h; exact h) (Or.inl ⟨by rfl, ?_⟩) (by assumption) ?_; rotate_left; (focus (intro w' hSw; (try dsimp only at hSw); go_simp; (try with_reducible rfl))); try simp only [Act.put, List.setIfInBounds_toArray, List.set_cons_zero, List.set_cons_succ])
      refine wpAnyH_ready (rs := [2, 7]) (by kernel_rfl) (by simp) (AllReadyH.cons (by simp only [List.getElem?_toArray, List.getElem?_cons_succ, List.getElem?_cons_zero]; exact rfl) (fun K' hK => ?_) (AllReadyH.cons (by simp only [List.getElem?_toArray, List.getElem?_cons_succ, List.getElem?_cons_zero]; exact rfl) (fun K' hK => ?_) AllReadyH.nil))
      · go_simp
        (refine hK.out _ _ (HS.out.gr (Gr.alloc (Gr.drew (Gr.refl W)) _)) (fun hHeld => ?_); clear hK K'; try simp only [Act.put, List.setIfInBounds_toArray, List.set_cons_zero, List.set_cons_succ])
        refine wpAnyH_ready (rs := [5, 7]) (by kernel_rfl) (by simp) (AllReadyH.cons (by simp only [List.getElem?_toArray, List.getElem?_cons_succ, List.getElem?_cons_zero]; exact rfl) (fun K' hK => ?_) (AllReadyH.cons (by simp only [List.getElem?_toArray, List.getElem?_cons_succ, List.getElem?_cons_zero]; exact rfl) (fun K' hK => ?_) AllReadyH.nil))
        · refine step_appN (enc := ccs) rfl (.tmp 23) (.tmp 25) 25 rfl Try.underlying25 Try.infoC W.heap.size (.slice (some ⟨W.heap.size, 0, none⟩) 0 0) ([] : List Clu) rfl (OwnE.empty (b := W.heap.size) (by refine heap_new' ?_; simp; done) (by omega)) rfl ?_
          (refine hK.out _ _ (HS.out.gr (Gr.alloc (Gr.drew (Gr.refl W)) _)) (fun hHeld => ?_); clear hK K'; try simp only [Act.put, List.setIfInBounds_toArray, List.set_cons_zero, List.set_cons_succ])
          refine wpAnyH_ready (rs := [7]) (by kernel_rfl) (by simp) (AllReadyH.cons (by simp only [List.getElem?_toArray, List.getElem?_cons_succ, List.getElem?_cons_zero]; exact rfl) (fun K' hK => ?_) AllReadyH.nil)
          go_simp
          (refine hK.out _ _ (HS.out.gr (Gr.alloc (Gr.alloc (Gr.drew (Gr.refl W)) _) _)) (fun hHeld => ?_); clear hK K'; try simp only [Act.put, List.setIfInBounds_toArray, List.set_cons_zero, List.set_cons_succ])
          refine wpAnyH_ready (rs := [8]) (by kernel_rfl) (by simp) (AllReadyH.cons (by simp only [List.getElem?_toArray, List.getElem?_cons_succ, List.getElem?_cons_zero]; exact rfl) (fun K' hK => ?_) AllReadyH.nil)
          refine step_appE ccs_len ccs_one rfl (.tmp 26) (.tmp 28) 25 rfl _ Try.underlying25 Try.infoC rfl (by decide) (by decide) W.heap.size _ ([] : List Clu) rfl (OwnE.empty (b := W.heap.size) (((Gr.alloc (Gr.refl _) _).below.block W.heap.size (by simp)).trans (by refine heap_new' ?_; simp; done)) (by omega)) ⟨W.heap.size + 1, 0, none⟩ 1 1 [(x, y, z)] rfl rfl (fun j u hu => alloc_cells' (by simp; done) (by simpa [ecs, ccs] using hu)) (by have := H6.out; simp; try omega) (by simp) (by (try simp); (try omega)) ?_; intro v8 w8 ho8 hb8 _ _; obtain ⟨A8, c8, rfl, ho8⟩ := OwnE.eta ho8; simp only [List.length_append, List.length_cons, List.length_nil, Nat.zero_add] at ho8
          have B8 : Below W.heap.size W w8 := ((Gr.alloc (Gr.alloc (Gr.drew (Gr.refl W)) _) _).below).trans hb8
          have S8 := HS.out.bel B8 (Nat.lt_of_succ_lt zz)
          have R8 := HR.out.bel B8 zz
          (refine hK.out _ _ (S8) (fun hHeld => ?_); clear hK K'; try simp only [Act.put, List.setIfInBounds_toArray, List.set_cons_zero, List.set_cons_succ])
          refine wpAnyH_ready (rs := [9]) (by kernel_rfl) (by simp) (AllReadyH.cons (by simp only [List.getElem?_toArray, List.getElem?_cons_succ, List.getElem?_cons_zero]; exact rfl) (fun K' hK => ?_) AllReadyH.nil)
          go_simp
          (refine hK.out _ _ (S8) (fun hHeld => ?_); clear hK K'; try simp only [Act.put, List.setIfInBounds_toArray, List.set_cons_zero, List.set_cons_succ])
          have r0 := R8.1
          have r1 := R8.2.1
          have r2 := R8.2.2.1
          have rf := R8.2.2.2
          refine wpAnyH_ready (rs := [10]) (by kernel_rfl) (by simp) (AllReadyH.cons (by simp only [List.getElem?_toArray, List.getElem?_cons_succ, List.getElem?_cons_zero]; exact rfl) (fun K' hK => ?_) AllReadyH.nil)
          go_simp
          (refine hK.out _ _ (Six.set (Six.set (Six.set S8))) (fun hHeld => ?_); clear hK K'; try simp only [Act.put, List.setIfInBounds_toArray, List.set_cons_zero, List.set_cons_succ])
          refine wpAnyH_ready (rs := [11]) (by kernel_rfl) (by simp) (AllReadyH.cons (by simp only [List.getElem?_toArray, List.getElem?_cons_succ, List.getElem?_cons_zero]; exact rfl) (fun K' hK => ?_) AllReadyH.nil)
          go_simp
          (refine hK.out _ _ (Six.set (Six.set (Six.set S8))) (fun hHeld => ?_); clear hK K'; try simp only [Act.put, List.setIfInBounds_toArray, List.set_cons_zero, List.set_cons_succ])
          refine wpAnyH_done (by kernel_rfl) ?_ _
          go_wp2
          refine bodyPost_ret (v := .tuple #[.agg #[.int .i64 k, .int .i64 p, .slice A8 1 c8], .bool true]) (by simp [results, Try.results12, go_sem, r0, r1, r2]) rfl ⟨_, rfl, ?_, ?_⟩
          · exact OwnE.mono (OwnE.setOther (a := ⟨w.heap.size + 2, 2, none⟩) (OwnE.setOther (a := ⟨w.heap.size + 2, 1, none⟩) (OwnE.setOther (a := ⟨w.heap.size + 2, 0, none⟩) ho8 zz _) zz _) zz _) (by omega)
          · exact (((GG.out.below.trans (B8.mono GG.out.below.size)).setCell (by simp; omega) _).setCell (by simp; omega) _).setCell (by simp; omega) _
        · go_simp
          (refine hK.out _ _ (HS.out.gr (Gr.alloc (Gr.alloc (Gr.drew (Gr.refl W)) _) _)) (fun hHeld => ?_); clear hK K'; try simp only [Act.put, List.setIfInBounds_toArray, List.set_cons_zero, List.set_cons_succ])
          refine wpAnyH_ready (rs := [5]) (by kernel_rfl) (by simp) (AllReadyH.cons (by simp only [List.getElem?_toArray, List.getElem?_cons_succ, List.getElem?_cons_zero]; exact rfl) (fun K' hK => ?_) AllReadyH.nil)
          refine step_appN (enc := ccs) rfl (.tmp 23) (.tmp 25) 25 rfl Try.underlying25 Try.infoC W.heap.size (.slice (some ⟨W.heap.size, 0, none⟩) 0 0) ([] : List Clu) rfl (OwnE.empty (b := W.heap.size) (((Gr.alloc (Gr.refl _) _).below.block W.heap.size (by simp)).trans (by refine heap_new' ?_; simp; done)) (by omega)) rfl ?_
          (refine hK.out _ _ (HS.out.gr (Gr.alloc (Gr.alloc (Gr.drew (Gr.refl W)) _) _)) (fun hHeld => ?_); clear hK K'; try simp only [Act.put, List.setIfInBounds_toArray, List.set_cons_zero, List.set_cons_succ])
          refine wpAnyH_ready (rs := [8]) (by kernel_rfl) (by simp) (AllReadyH.cons (by simp only [List.getElem?_toArray, List.getElem?_cons_succ, List.getElem?_cons_zero]; exact rfl) (fun K' hK => ?_) AllReadyH.nil)
          refine step_appE ccs_len ccs_one rfl (.tmp 26) (.tmp 28) 25 rfl _ Try.underlying25 Try.infoC rfl (by decide) (by decide) W.heap.size _ ([] : List Clu) rfl (OwnE.empty (b := W.heap.size) (((Gr.alloc (Gr.refl _) _).below.block W.heap.size (by simp)).trans (by refine heap_new' ?_; simp; done)) (by omega)) ⟨W.heap.size + 1, 0, none⟩ 1 1 [(x, y, z)] rfl rfl (fun j u hu => alloc_cells' (by simp; done) (by simpa [ecs, ccs] using hu)) (by have := H6.out; simp; try omega) (by simp) (by (try simp); (try omega)) ?_; intro v8 w8 ho8 hb8 _ _; obtain ⟨A8, c8, rfl, ho8⟩ := OwnE.eta ho8; simp only [List.length_append, List.length_cons, List.length_nil, Nat.zero_add] at ho8
          have B8 : Below W.heap.size W w8 := ((Gr.alloc (Gr.alloc (Gr.drew (Gr.refl W)) _) _).below).trans hb8
          have S8 := HS.out.bel B8 (Nat.lt_of_succ_lt zz)
          have R8 := HR.out.bel B8 zz
          (refine hK.out _ _ (S8) (fun hHeld => ?_); clear hK K'; try simp only [Act.put, List.setIfInBounds_toArray, List.set_cons_zero, List.set_cons_succ])
          refine wpAnyH_ready (rs := [9]) (by kernel_rfl) (by simp) (AllReadyH.cons (by simp only [List.getElem?_toArray, List.getElem?_cons_succ, List.getElem?_cons_zero]; exact rfl) (fun K' hK => ?_) AllReadyH.nil)
          go_simp
          (refine hK.out _ _ (S8) (fun hHeld => ?_); clear hK K'; try simp only [Act.put, List.setIfInBounds_toArray, List.set_cons_zero, List.set_cons_succ])
          have r0 := R8.1
          have r1 := R8.2.1
          have r2 := R8.2.2.1
          have rf := R8.2.2.2
          refine wpAnyH_ready (rs := [10]) (by kernel_rfl) (by simp) (AllReadyH.cons (by simp only [List.getElem?_toArray, List.getElem?_cons_succ, List.getElem?_cons_zero]; exact rfl) (fun K' hK => ?_) AllReadyH.nil)
          go_simp
          (refine hK.out _ _ (Six.set (Six.set (Six.set S8))) (fun hHeld => ?_); clear hK K'; try simp only [Act.put, List.setIfInBounds_toArray, List.set_cons_zero, List.set_cons_succ])
          refine wpAnyH_ready (rs := [11]) (by kernel_rfl) (by simp) (AllReadyH.cons (by simp only [List.getElem?_toArray, List.getElem?_cons_succ, List.getElem?_cons_zero]; exact rfl) (fun K' hK => ?_) AllReadyH.nil)
          go_simp
          (refine hK.out _ _ (Six.set (Six.set (Six.set S8))) (fun hHeld => ?_); clear hK K'; try simp only [Act.put, List.setIfInBounds_toArray, List.set_cons_zero, List.set_cons_succ])
          refine wpAnyH_done (by kernel_rfl) ?_ _
          go_wp2
          refine bodyPost_ret (v := .tuple #[.agg #[.int .i64 k, .int .i64 p, .slice A8 1 c8], .bool true]) (by simp [results, Try.results12, go_sem, r0, r1, r2]) rfl ⟨_, rfl, ?_, ?_⟩
          · exact OwnE.mono (OwnE.setOther (a := ⟨w.heap.size + 2, 2, none⟩) (OwnE.setOther (a := ⟨w.heap.size + 2, 1, none⟩) (OwnE.setOther (a := ⟨w.heap.size + 2, 0, none⟩) ho8 zz _) zz _) zz _) (by omega)
          · exact (((GG.out.below.trans (B8.mono GG.out.below.size)).setCell (by simp; omega) _).setCell (by simp; omega) _).setCell (by simp; omega) _
      · go_simp
        (refine hK.out _ _ (HS.out.gr (Gr.alloc (Gr.drew (Gr.refl W)) _)) (fun hHeld => ?_); clear hK K'; try simp only [Act.put, List.setIfInBounds_toArray, List.set_cons_zero, List.set_cons_succ])
        refine wpAnyH_ready (rs := [2]) (by kernel_rfl) (by simp) (AllReadyH.cons (by simp only [List.getElem?_toArray, List.getElem?_cons_succ, List.getElem?_cons_zero]; exact rfl) (fun K' hK => ?_) AllReadyH.nil)
        go_simp
        (refine hK.out _ _ (HS.out.gr (Gr.alloc (Gr.alloc (Gr.drew (Gr.refl W)) _) _)) (fun hHeld => ?_); clear hK K'; try simp only [Act.put, List.setIfInBounds_toArray, List.set_cons_zero, List.set_cons_succ])
        refine wpAnyH_ready (rs := [5]) (by kernel_rfl) (by simp) (AllReadyH.cons (by simp only [List.getElem?_toArray, List.getElem?_cons_succ, List.getElem?_cons_zero]; exact rfl) (fun K' hK => ?_) AllReadyH.nil)
        refine step_appN (enc := ccs) rfl (.tmp 23) (.tmp 25) 25 rfl Try.underlying25 Try.infoC W.heap.size (.slice (some ⟨W.heap.size + 1, 0, none⟩) 0 0) ([] : List Clu) rfl (OwnE.empty (b := W.heap.size + 1) (by refine heap_new' ?_; simp; done) (by omega)) rfl ?_
        (refine hK.out _ _ (HS.out.gr (Gr.alloc (Gr.alloc (Gr.drew (Gr.refl W)) _) _)) (fun hHeld => ?_); clear hK K'; try simp only [Act.put, List.setIfInBounds_toArray, List.set_cons_zero, List.set_cons_succ])
        refine wpAnyH_ready (rs := [8]) (by kernel_rfl) (by simp) (AllReadyH.cons (by simp only [List.getElem?_toArray, List.getElem?_cons_succ, List.getElem?_cons_zero]; exact rfl) (fun K' hK => ?_) AllReadyH.nil)
        refine step_appE ccs_len ccs_one rfl (.tmp 26) (.tmp 28) 25 rfl _ Try.underlying25 Try.infoC rfl (by decide) (by decide) W.heap.size _ ([] : List Clu) rfl (OwnE.empty (b := W.heap.size + 1) (by refine heap_new' ?_; simp; done) (by omega)) ⟨W.heap.size, 0, none⟩ 1 1 [(x, y, z)] rfl rfl (fun j u hu => (Gr.alloc (Gr.refl _) _).keep0 (alloc_cells' (by simp; done) (by simpa [ecs, ccs] using hu))) (by have := H6.out; simp; try omega) (by simp) (by (try simp); (try omega)) ?_; intro v8 w8 ho8 hb8 _ _; obtain ⟨A8, c8, rfl, ho8⟩ := OwnE.eta ho8; simp only [List.length_append, List.length_cons, List.length_nil, Nat.zero_add] at ho8
        have B8 : Below W.heap.size W w8 := ((Gr.alloc (Gr.alloc (Gr.drew (Gr.refl W)) _) _).below).trans hb8
        have S8 := HS.out.bel B8 (Nat.lt_of_succ_lt zz)
        have R8 := HR.out.bel B8 zz
        (refine hK.out _ _ (S8) (fun hHeld => ?_); clear hK K'; try simp only [Act.put, List.setIfInBounds_toArray, List.set_cons_zero, List.set_cons_succ])
        refine wpAnyH_ready (rs := [9]) (by kernel_rfl) (by simp) (AllReadyH.cons (by simp only [List.getElem?_toArray, List.getElem?_cons_succ, List.getElem?_cons_zero]; exact rfl) (fun K' hK => ?_) AllReadyH.nil)
        go_simp
        (refine hK.out _ _ (S8) (fun hHeld => ?_); clear hK K'; try simp only [Act.put, List.setIfInBounds_toArray, List.set_cons_zero, List.set_cons_succ])
        have r0 := R8.1
        have r1 := R8.2.1
        have r2 := R8.2.2.1
        have rf := R8.2.2.2
        refine wpAnyH_ready (rs := [10]) (by kernel_rfl) (by simp) (AllReadyH.cons (by simp only [List.getElem?_toArray, List.getElem?_cons_succ, List.getElem?_cons_zero]; exact rfl) (fun K' hK => ?_) AllReadyH.nil)
        go_simp
        (refine hK.out _ _ (Six.set (Six.set (Six.set S8))) (fun hHeld => ?_); clear hK K'; try simp only [Act.put, List.setIfInBounds_toArray, List.set_cons_zero, List.set_cons_succ])
        refine wpAnyH_ready (rs := [11]) (by kernel_rfl) (by simp) (AllReadyH.cons (by simp only [List.getElem?_toArray, List.getElem?_cons_succ, List.getElem?_cons_zero]; exact rfl) (fun K' hK => ?_) AllReadyH.nil)
        go_simp
        (refine hK.out _ _ (Six.set (Six.set (Six.set S8))) (fun hHeld => ?_); clear hK K'; try simp only [Act.put, List.setIfInBounds_toArray, List.set_cons_zero, List.set_cons_succ])
        refine wpAnyH_done (by kernel_rfl) ?_ _
        go_wp2
        refine bodyPost_ret (v := .tuple #[.agg #[.int .i64 k, .int .i64 p, .slice A8 1 c8], .bool true]) (by simp [results, Try.results12, go_sem, r0, r1, r2]) rfl ⟨_, rfl, ?_, ?_⟩
        · exact OwnE.mono (OwnE.setOther (a := ⟨w.heap.size + 2, 2, none⟩) (OwnE.setOther (a := ⟨w.heap.size + 2, 1, none⟩) (OwnE.setOther (a := ⟨w.heap.size + 2, 0, none⟩) ho8 zz _) zz _) zz _) (by omega)
        · exact (((GG.out.below.trans (B8.mono GG.out.below.size)).setCell (by simp; omega) _).setCell (by simp; omega) _).setCell (by simp; omega) _
    · have z6 : ((cs.length : Int) == 6) = false := by rw [beq_eq_false_iff_ne]; omega
      have z6' : ¬ (cs.length : Int) = 6 := by omega
      have z7 : (0 : Int) ≤ (cs.length : Int) := by omega
      have z8 : (cs.length : Int) ≤ (c : Int) := by omega
      have hc := Lib.hid hc
      clear ho h6 hcm
      go_enter Try.func12, Try.ntmps12
      go_wp2_with (first | (go_at_call 32; refine (PG.out _ (by repeat (first | exact Gr.refl _ | refine Gr.alloc ?_ _ | refine Gr.trans ?_ (by assumption) | refine Gr.drew ?_ | refine Gr.drewN ?_ _ | refine Gr.grow ?_ _ | refine Gr.setCell ?_ (by (try simp); (try omega)) _)) _ HG.out).mono ?_; rintro e W1 ⟨rfl, h1⟩; have S1 : Six W1 w.heap.size k p x y z (.slice (some ⟨g, 0, none⟩) cs.length c) := ⟨h1.keep0 (by simp [go_sem]), h1.keep0 (by simp [go_sem]), h1.keep0 (by simp [go_sem]), h1.keep0 (by simp [go_sem]), h1.keep0 (by simp [go_sem]), h1.keep0 (by simp [go_sem])⟩; have R1 : Rbx W1 w.heap.size := ⟨h1.keep0 (by simp [go_sem]), h1.keep0 (by simp [go_sem]), h1.keep0 (by simp [go_sem]), fun o => ((bcell h1.below).2 _ _ (by simp)).trans (by simp [go_sem])⟩; have a01 := S1.1; have a11 := S1.2.1; have a21 := S1.2.2.1; have b01 := S1.2.2.2.1; have b11 := S1.2.2.2.2.1; have b21 := S1.2.2.2.2.2; have r01 := R1.1; have r11 := R1.2.1; have r21 := R1.2.2.1; have rf1 := R1.2.2.2) | (go_at_call 33; refine (Try.pzClue _ _ _ _ HC.out _).mono ?_; rintro e W2 ⟨rfl, h2⟩; have h3 := h1.trans h2; have S2 : Six W2 w.heap.size k p x y z (.slice (some ⟨g, 0, none⟩) cs.length c) := ⟨h3.keep0 (by simp [go_sem]), h3.keep0 (by simp [go_sem]), h3.keep0 (by simp [go_sem]), h3.keep0 (by simp [go_sem]), h3.keep0 (by simp [go_sem]), h3.keep0 (by simp [go_sem])⟩; have R2 : Rbx W2 w.heap.size := ⟨h3.keep0 (by simp [go_sem]), h3.keep0 (by simp [go_sem]), h3.keep0 (by simp [go_sem]), fun o => ((bcell h3.below).2 _ _ (by simp)).trans (by simp [go_sem])⟩; have a02 := S2.1; have a12 := S2.2.1; have a22 := S2.2.2.1; have b02 := S2.2.2.2.1; have b12 := S2.2.2.2.2.1; have b22 := S2.2.2.2.2.2; have r02 := R2.1; have r12 := R2.2.1; have r22 := R2.2.2.1; have rf2 := R2.2.2.2))
      have GG := Lib.hid (show Gr w W2 from ((Gr.alloc (Gr.alloc (Gr.alloc (Gr.refl w) _) _) _).trans h3))
      have HS := Lib.hid S2
      have HR := Lib.hid R2
      have zz : w.heap.size + 2 < W2.heap.size := World.block_lt_of_cell? _ _ R2.1
      have HQ := Lib.hid (fun j u hu => GG.out.keep0 (hc.out j u hu))
      clear S1 R1 S2 R2 h1 h2 h3 a01 a11 a21 b01 b11 b21 r01 r11 r21 rf1 a02 a12 a22 b02 b12 b22 r02 r12 r22 rf2
      clear W1
      generalize hWW : W2 = W at *
      clear hWW
      refine wp_region_held_drew (S := fun W' => W'.cell? ⟨w.heap.size, 0, none⟩ = some (.int .i64 k) ∧ W'.cell? ⟨w.heap.size, 1, none⟩ = some (.int .i64 p) ∧ W'.cell? ⟨w.heap.size, 2, none⟩ = some (.slice (some ⟨g, 0, none⟩) cs.length c) ∧ W'.cell? ⟨w.heap.size + 1, 0, none⟩ = some (.int .i64 x) ∧ W'.cell? ⟨w.heap.size + 1, 1, none⟩ = some (.int .i64 y) ∧ W'.cell? ⟨w.heap.size + 1, 2, none⟩ = some (.int .i64 z)) (by kernel_rfl) (HS.out.gr (Gr.drew (Gr.refl W))) (fun hHeld => ?_)
      (refine wpAnyH_take (i := 0) (v := ?_) (by simp only [List.getElem?_toArray, List.getElem?_cons_succ, List.getElem?_cons_zero]; exact rfl) (by kernel_rfl) (by kernel_rfl) (by kernel_rfl) (by intro _ _ _ h; exact h) (Or.inl ⟨by rfl, ?_⟩) (by assumption) ?_; rotate_left; (focus (intro w' hSw; (try dsimp only at hSw); go_simp; (try with_reducible rfl))); try simp only [Act.put, List.setIfInBounds_toArray, List.set_cons_zero, List.set_cons_succ])
      (refine wpAnyH_take (i := 1) (v := ?_) (by simp only [List.getElem?_toArray, List.getElem?_cons_succ, List.getElem?_cons_zero]; exact rfl) (by kernel_rfl) (by kernel_rfl) (by kernel_rfl) (by intro _ _ _ h; exact h) (Or.inl ⟨by rfl, ?_⟩) (by assumption) ?_; rotate_left; (focus (intro w' hSw; (try dsimp only at hSw); go_simp; (try with_reducible rfl))); try simp only [Act.put, List.setIfInBounds_toArray, List.set_cons_zero, List.set_cons_succ])
      (refine wpAnyH_take (i := 3) (v := ?_) (by simp only [List.getElem?_toArray, List.getElem?_cons_succ, List.getElem?_cons_zero]; exact rfl) (by kernel_rfl) (by kernel_rfl) (by kernel_rfl) (by intro _ _ _ h; exact h) (Or.inl ⟨by rfl, ?_⟩) (by assumption) ?_; rotate_left; (focus (intro w' hSw; (try dsimp only at hSw); go_simp; (try with_reducible rfl))); try simp only [Act.put, List.setIfInBounds_toArray, List.set_cons_zero, List.set_cons_succ])
      (refine wpAnyH_take (i := 4) (v := ?_) (by simp only [List.getElem?_toArray, List.getElem?_cons_succ, List.getElem?_cons_zero]; exact rfl) (by kernel_rfl) (by kernel_rfl) (by kernel_rfl) (by intro _ _ _ h; exact h) (Or.inl ⟨by rfl, ?_⟩) (by assumption) ?_; rotate_left; (focus (intro w' hSw; (try dsimp only at hSw); go_simp; (try with_reducible rfl))); try simp only [Act.put, List.setIfInBounds_toArray, List.set_cons_zero, List.set_cons_succ])
      (refine wpAnyH_take (i := 6) (v := ?_) (by simp only [List.getElem?_toArray, List.getElem?_cons_succ, List.getElem?_cons_zero]; exact rfl) (by kernel_rfl) (by kernel_rfl) (by kernel_rfl) (by intro _ _ _ h; exact h) (Or.inl ⟨by rfl, ?_⟩) (by assumption) ?_; rotate_left; (focus (intro w' hSw; (try dsimp only at hSw); go_simp; (try with_reducible rfl))); try simp only [Act.put, List.setIfInBounds_toArray, List.set_cons_zero, List.set_cons_succ])
      refine wpAnyH_ready (rs := [2, 7]) (by kernel_rfl) (by simp) (AllReadyH.cons (by simp only [List.getElem?_toArray, List.getElem?_cons_succ, List.getElem?_cons_zero]; exact rfl) (fun K' hK => ?_) (AllReadyH.cons (by simp only [List.getElem?_toArray, List.getElem?_cons_succ, List.getElem?_cons_zero]; exact rfl) (fun K' hK => ?_) AllReadyH.nil))
      · go_simp
        (refine hK.out _ _ (HS.out.gr (Gr.alloc (Gr.drew (Gr.refl W)) _)) (fun hHeld => ?_); clear hK K'; try simp only [Act.put, List.setIfInBounds_toArray, List.set_cons_zero, List.set_cons_succ])
        refine wpAnyH_ready (rs := [5, 7]) (by kernel_rfl) (by simp) (AllReadyH.cons (by simp only [List.getElem?_toArray, List.getElem?_cons_succ, List.getElem?_cons_zero]; exact rfl) (fun K' hK => ?_) (AllReadyH.cons (by simp only [List.getElem?_toArray, List.getElem?_cons_succ, List.getElem?_cons_zero]; exact rfl) (fun K' hK => ?_) AllReadyH.nil))
        · refine step_appE ccs_len ccs_one rfl (.tmp 23) (.tmp 25) 25 rfl _ Try.underlying25 Try.infoC rfl (by decide) (by decide) W.heap.size (.slice (some ⟨W.heap.size, 0, none⟩) 0 0) [] rfl (OwnE.empty (b := W.heap.size) (by refine heap_new' ?_; simp; done) (by omega)) ⟨g, 0, none⟩ cs.length c cs rfl rfl (fun j u hu => (show Gr W _ from (Gr.alloc (Gr.drew (Gr.refl W)) _)).keep0 (HQ.out j u hu)) (by simp) (by have := H6.out; omega) (by (try simp); (try omega)) ?_; intro v1 w1 ho1 hb1 gb1 _; rw [List.nil_append] at ho1; obtain ⟨A1, c1, rfl, ho1⟩ := OwnE.eta ho1
          have B1 : Below W.heap.size W w1 := (Gr.alloc (Gr.drew (Gr.refl W)) _).below.trans hb1
          (refine hK.out _ _ (HS.out.bel B1 (Nat.lt_of_succ_lt zz)) (fun hHeld => ?_); clear hK K'; try simp only [Act.put, List.setIfInBounds_toArray, List.set_cons_zero, List.set_cons_succ])
          refine wpAnyH_ready (rs := [7]) (by kernel_rfl) (by simp) (AllReadyH.cons (by simp only [List.getElem?_toArray, List.getElem?_cons_succ, List.getElem?_cons_zero]; exact rfl) (fun K' hK => ?_) AllReadyH.nil)
          go_simp
          have B7 := B1.trans ((Gr.alloc (Gr.refl w1) (Obj.cells #[.int .i64 x, .int .i64 y, .int .i64 z] 42)).below.mono B1.size)
          (refine hK.out _ _ (HS.out.bel B7 (Nat.lt_of_succ_lt zz)) (fun hHeld => ?_); clear hK K'; try simp only [Act.put, List.setIfInBounds_toArray, List.set_cons_zero, List.set_cons_succ])
          refine wpAnyH_ready (rs := [8]) (by kernel_rfl) (by simp) (AllReadyH.cons (by simp only [List.getElem?_toArray, List.getElem?_cons_succ, List.getElem?_cons_zero]; exact rfl) (fun K' hK => ?_) AllReadyH.nil)
          refine step_appE ccs_len ccs_one rfl (.tmp 26) (.tmp 28) 25 rfl _ Try.underlying25 Try.infoC rfl (by decide) (by decide) W.heap.size _ cs rfl (OwnE.gr ho1 (Gr.alloc (Gr.refl _) _)) ⟨w1.heap.size, 0, none⟩ 1 1 [(x, y, z)] rfl rfl (fun j u hu => alloc_cells (by simpa [ecs, ccs] using hu)) (by have := H6.out; simp; try omega) (by simp) (by have q := Below.size (B7); (try simp at q); (try simp); (try omega)) ?_; intro v8 w8 ho8 hb8 _ _; obtain ⟨A8, c8, rfl, ho8⟩ := OwnE.eta ho8; simp only [List.length_append, List.length_cons, List.length_nil, Nat.zero_add] at ho8
          have B8 : Below W.heap.size W w8 := (B7).trans hb8
          have S8 := HS.out.bel B8 (Nat.lt_of_succ_lt zz)
          have R8 := HR.out.bel B8 zz
          (refine hK.out _ _ (S8) (fun hHeld => ?_); clear hK K'; try simp only [Act.put, List.setIfInBounds_toArray, List.set_cons_zero, List.set_cons_succ])
          refine wpAnyH_ready (rs := [9]) (by kernel_rfl) (by simp) (AllReadyH.cons (by simp only [List.getElem?_toArray, List.getElem?_cons_succ, List.getElem?_cons_zero]; exact rfl) (fun K' hK => ?_) AllReadyH.nil)
          go_simp
          (refine hK.out _ _ (S8) (fun hHeld => ?_); clear hK K'; try simp only [Act.put, List.setIfInBounds_toArray, List.set_cons_zero, List.set_cons_succ])
          have r0 := R8.1
          have r1 := R8.2.1
          have r2 := R8.2.2.1
          have rf := R8.2.2.2
          refine wpAnyH_ready (rs := [10]) (by kernel_rfl) (by simp) (AllReadyH.cons (by simp only [List.getElem?_toArray, List.getElem?_cons_succ, List.getElem?_cons_zero]; exact rfl) (fun K' hK => ?_) AllReadyH.nil)
          go_simp
          (refine hK.out _ _ (Six.set (Six.set (Six.set S8))) (fun hHeld => ?_); clear hK K'; try simp only [Act.put, List.setIfInBounds_toArray, List.set_cons_zero, List.set_cons_succ])
          refine wpAnyH_ready (rs := [11]) (by kernel_rfl) (by simp) (AllReadyH.cons (by simp only [List.getElem?_toArray, List.getElem?_cons_succ, List.getElem?_cons_zero]; exact rfl) (fun K' hK => ?_) AllReadyH.nil)
          go_simp
          (refine hK.out _ _ (Six.set (Six.set (Six.set S8))) (fun hHeld => ?_); clear hK K'; try simp only [Act.put, List.setIfInBounds_toArray, List.set_cons_zero, List.set_cons_succ])
          refine wpAnyH_done (by kernel_rfl) ?_ _
          go_wp2
          refine bodyPost_ret (v := .tuple #[.agg #[.int .i64 k, .int .i64 p, .slice A8 (cs.length + 1) c8], .bool true]) (by simp [results, Try.results12, go_sem, r0, r1, r2]) rfl ⟨_, rfl, ?_, ?_⟩
          · exact OwnE.mono (OwnE.setOther (a := ⟨w.heap.size + 2, 2, none⟩) (OwnE.setOther (a := ⟨w.heap.size + 2, 1, none⟩) (OwnE.setOther (a := ⟨w.heap.size + 2, 0, none⟩) ho8 zz _) zz _) zz _) (by omega)
          · exact (((GG.out.below.trans (B8.mono GG.out.below.size)).setCell (by simp; omega) _).setCell (by simp; omega) _).setCell (by simp; omega) _
        · go_simp
          (refine hK.out _ _ (HS.out.gr (Gr.alloc (Gr.alloc (Gr.drew (Gr.refl W)) _) _)) (fun hHeld => ?_); clear hK K'; try simp only [Act.put, List.setIfInBounds_toArray, List.set_cons_zero, List.set_cons_succ])
          refine wpAnyH_ready (rs := [5]) (by kernel_rfl) (by simp) (AllReadyH.cons (by simp only [List.getElem?_toArray, List.getElem?_cons_succ, List.getElem?_cons_zero]; exact rfl) (fun K' hK => ?_) AllReadyH.nil)
          refine step_appE ccs_len ccs_one rfl (.tmp 23) (.tmp 25) 25 rfl _ Try.underlying25 Try.infoC rfl (by decide) (by decide) W.heap.size (.slice (some ⟨W.heap.size, 0, none⟩) 0 0) [] rfl (OwnE.empty (b := W.heap.size) (((Gr.alloc (Gr.refl _) _).below.block W.heap.size (by simp)).trans (by refine heap_new' ?_; simp; done)) (by omega)) ⟨g, 0, none⟩ cs.length c cs rfl rfl (fun j u hu => (show Gr W _ from (Gr.alloc (Gr.alloc (Gr.drew (Gr.refl W)) _) _)).keep0 (HQ.out j u hu)) (by simp) (by have := H6.out; omega) (by (try simp); (try omega)) ?_; intro v1 w1 ho1 hb1 gb1 _; rw [List.nil_append] at ho1; obtain ⟨A1, c1, rfl, ho1⟩ := OwnE.eta ho1
          have B1 : Below W.heap.size W w1 := (Gr.alloc (Gr.alloc (Gr.drew (Gr.refl W)) _) _).below.trans hb1
          (refine hK.out _ _ (HS.out.bel B1 (Nat.lt_of_succ_lt zz)) (fun hHeld => ?_); clear hK K'; try simp only [Act.put, List.setIfInBounds_toArray, List.set_cons_zero, List.set_cons_succ])
          refine wpAnyH_ready (rs := [8]) (by kernel_rfl) (by simp) (AllReadyH.cons (by simp only [List.getElem?_toArray, List.getElem?_cons_succ, List.getElem?_cons_zero]; exact rfl) (fun K' hK => ?_) AllReadyH.nil)
          refine step_appE ccs_len ccs_one rfl (.tmp 26) (.tmp 28) 25 rfl _ Try.underlying25 Try.infoC rfl (by decide) (by decide) W.heap.size _ cs rfl (ho1) ⟨W.heap.size + 1, 0, none⟩ 1 1 [(x, y, z)] rfl rfl (fun j u hu => gb1.cell (alloc_cells' (by simp; done) (by simpa [ecs, ccs] using hu)) (by cases j <;> simp [Value.ownBlock, Addr.add])) (by have := H6.out; simp; try omega) (by simp) (by have q := Below.size (B1); (try simp at q); (try simp); (try omega)) ?_; intro v8 w8 ho8 hb8 _ _; obtain ⟨A8, c8, rfl, ho8⟩ := OwnE.eta ho8; simp only [List.length_append, List.length_cons, List.length_nil, Nat.zero_add] at ho8
          have B8 : Below W.heap.size W w8 := (B1).trans hb8
          have S8 := HS.out.bel B8 (Nat.lt_of_succ_lt zz)
          have R8 := HR.out.bel B8 zz
          (refine hK.out _ _ (S8) (fun hHeld => ?_); clear hK K'; try simp only [Act.put, List.setIfInBounds_toArray, List.set_cons_zero, List.set_cons_succ])
          refine wpAnyH_ready (rs := [9]) (by kernel_rfl) (by simp) (AllReadyH.cons (by simp only [List.getElem?_toArray, List.getElem?_cons_succ, List.getElem?_cons_zero]; exact rfl) (fun K' hK => ?_) AllReadyH.nil)
          go_simp
          (refine hK.out _ _ (S8) (fun hHeld => ?_); clear hK K'; try simp only [Act.put, List.setIfInBounds_toArray, List.set_cons_zero, List.set_cons_succ])
          have r0 := R8.1
          have r1 := R8.2.1
          have r2 := R8.2.2.1
          have rf := R8.2.2.2
          refine wpAnyH_ready (rs := [10]) (by kernel_rfl) (by simp) (AllReadyH.cons (by simp only [List.getElem?_toArray, List.getElem?_cons_succ, List.getElem?_cons_zero]; exact rfl) (fun K' hK => ?_) AllReadyH.nil)
          go_simp
          (refine hK.out _ _ (Six.set (Six.set (Six.set S8))) (fun hHeld => ?_); clear hK K'; try simp only [Act.put, List.setIfInBounds_toArray, List.set_cons_zero, List.set_cons_succ])
          refine wpAnyH_ready (rs := [11]) (by kernel_rfl) (by simp) (AllReadyH.cons (by simp only [List.getElem?_toArray, List.getElem?_cons_succ, List.getElem?_cons_zero]; exact rfl) (fun K' hK => ?_) AllReadyH.nil)
          go_simp
          (refine hK.out _ _ (Six.set (Six.set (Six.set S8))) (fun hHeld => ?_); clear hK K'; try simp only [Act.put, List.setIfInBounds_toArray, List.set_cons_zero, List.set_cons_succ])
          refine wpAnyH_done (by kernel_rfl) ?_ _
          go_wp2
          refine bodyPost_ret (v := .tuple #[.agg #[.int .i64 k, .int .i64 p, .slice A8 (cs.length + 1) c8], .bool true]) (by simp [results, Try.results12, go_sem, r0, r1, r2]) rfl ⟨_, rfl, ?_, ?_⟩
          · exact OwnE.mono (OwnE.setOther (a := ⟨w.heap.size + 2, 2, none⟩) (OwnE.setOther (a := ⟨w.heap.size + 2, 1, none⟩) (OwnE.setOther (a := ⟨w.heap.size + 2, 0, none⟩) ho8 zz _) zz _) zz _) (by omega)
          · exact (((GG.out.below.trans (B8.mono GG.out.below.size)).setCell (by simp; omega) _).setCell (by simp; omega) _).setCell (by simp; omega) _
      · go_simp
        (refine hK.out _ _ (HS.out.gr (Gr.alloc (Gr.drew (Gr.refl W)) _)) (fun hHeld => ?_); clear hK K'; try simp only [Act.put, List.setIfInBounds_toArray, List.set_cons_zero, List.set_cons_succ])
        refine wpAnyH_ready (rs := [2]) (by kernel_rfl) (by simp) (AllReadyH.cons (by simp only [List.getElem?_toArray, List.getElem?_cons_succ, List.getElem?_cons_zero]; exact rfl) (fun K' hK => ?_) AllReadyH.nil)
        go_simp
        (refine hK.out _ _ (HS.out.gr (Gr.alloc (Gr.alloc (Gr.drew (Gr.refl W)) _) _)) (fun hHeld => ?_); clear hK K'; try simp only [Act.put, List.setIfInBounds_toArray, List.set_cons_zero, List.set_cons_succ])
        refine wpAnyH_ready (rs := [5]) (by kernel_rfl) (by simp) (AllReadyH.cons (by simp only [List.getElem?_toArray, List.getElem?_cons_succ, List.getElem?_cons_zero]; exact rfl) (fun K' hK => ?_) AllReadyH.nil)
        refine step_appE ccs_len ccs_one rfl (.tmp 23) (.tmp 25) 25 rfl _ Try.underlying25 Try.infoC rfl (by decide) (by decide) W.heap.size (.slice (some ⟨W.heap.size + 1, 0, none⟩) 0 0) [] rfl (OwnE.empty (b := W.heap.size + 1) (by refine heap_new' ?_; simp; done) (by omega)) ⟨g, 0, none⟩ cs.length c cs rfl rfl (fun j u hu => (show Gr W _ from (Gr.alloc (Gr.alloc (Gr.drew (Gr.refl W)) _) _)).keep0 (HQ.out j u hu)) (by simp) (by have := H6.out; omega) (by (try simp); (try omega)) ?_; intro v1 w1 ho1 hb1 gb1 _; rw [List.nil_append] at ho1; obtain ⟨A1, c1, rfl, ho1⟩ := OwnE.eta ho1
        have B1 : Below W.heap.size W w1 := (Gr.alloc (Gr.alloc (Gr.drew (Gr.refl W)) _) _).below.trans hb1
        (refine hK.out _ _ (HS.out.bel B1 (Nat.lt_of_succ_lt zz)) (fun hHeld => ?_); clear hK K'; try simp only [Act.put, List.setIfInBounds_toArray, List.set_cons_zero, List.set_cons_succ])
        refine wpAnyH_ready (rs := [8]) (by kernel_rfl) (by simp) (AllReadyH.cons (by simp only [List.getElem?_toArray, List.getElem?_cons_succ, List.getElem?_cons_zero]; exact rfl) (fun K' hK => ?_) AllReadyH.nil)
        refine step_appE ccs_len ccs_one rfl (.tmp 26) (.tmp 28) 25 rfl _ Try.underlying25 Try.infoC rfl (by decide) (by decide) W.heap.size _ cs rfl (ho1) ⟨W.heap.size, 0, none⟩ 1 1 [(x, y, z)] rfl rfl (fun j u hu => gb1.cell ((Gr.alloc (Gr.refl _) _).keep0 (alloc_cells' (by simp; done) (by simpa [ecs, ccs] using hu))) (by cases j <;> simp [Value.ownBlock, Addr.add])) (by have := H6.out; simp; try omega) (by simp) (by have q := Below.size (B1); (try simp at q); (try simp); (try omega)) ?_; intro v8 w8 ho8 hb8 _ _; obtain ⟨A8, c8, rfl, ho8⟩ := OwnE.eta ho8; simp only [List.length_append, List.length_cons, List.length_nil, Nat.zero_add] at ho8
        have B8 : Below W.heap.size W w8 := (B1).trans hb8
        have S8 := HS.out.bel B8 (Nat.lt_of_succ_lt zz)
        have R8 := HR.out.bel B8 zz
        (refine hK.out _ _ (S8) (fun hHeld => ?_); clear hK K'; try simp only [Act.put, List.setIfInBounds_toArray, List.set_cons_zero, List.set_cons_succ])
        refine wpAnyH_ready (rs := [9]) (by kernel_rfl) (by simp) (AllReadyH.cons (by simp only [List.getElem?_toArray, List.getElem?_cons_succ, List.getElem?_cons_zero]; exact rfl) (fun K' hK => ?_) AllReadyH.nil)
        go_simp
        (refine hK.out _ _ (S8) (fun hHeld => ?_); clear hK K'; try simp only [Act.put, List.setIfInBounds_toArray, List.set_cons_zero, List.set_cons_succ])
        have r0 := R8.1
        have r1 := R8.2.1
        have r2 := R8.2.2.1
        have rf := R8.2.2.2
        refine wpAnyH_ready (rs := [10]) (by kernel_rfl) (by simp) (AllReadyH.cons (by simp only [List.getElem?_toArray, List.getElem?_cons_succ, List.getElem?_cons_zero]; exact rfl) (fun K' hK => ?_) AllReadyH.nil)
        go_simp
        (refine hK.out _ _ (Six.set (Six.set (Six.set S8))) (fun hHeld => ?_); clear hK K'; try simp only [Act.put, List.setIfInBounds_toArray, List.set_cons_zero, List.set_cons_succ])
        refine wpAnyH_ready (rs := [11]) (by kernel_rfl) (by simp) (AllReadyH.cons (by simp only [List.getElem?_toArray, List.getElem?_cons_succ, List.getElem?_cons_zero]; exact rfl) (fun K' hK => ?_) AllReadyH.nil)
        go_simp
        (refine hK.out _ _ (Six.set (Six.set (Six.set S8))) (fun hHeld => ?_); clear hK K'; try simp only [Act.put, List.setIfInBounds_toArray, List.set_cons_zero, List.set_cons_succ])
        refine wpAnyH_done (by kernel_rfl) ?_ _
        go_wp2
        refine bodyPost_ret (v := .tuple #[.agg #[.int .i64 k, .int .i64 p, .slice A8 (cs.length + 1) c8], .bool true]) (by simp [results, Try.results12, go_sem, r0, r1, r2]) rfl ⟨_, rfl, ?_, ?_⟩
        · exact OwnE.mono (OwnE.setOther (a := ⟨w.heap.size + 2, 2, none⟩) (OwnE.setOther (a := ⟨w.heap.size + 2, 1, none⟩) (OwnE.setOther (a := ⟨w.heap.size + 2, 0, none⟩) ho8 zz _) zz _) zz _) (by omega)
        · exact (((GG.out.below.trans (B8.mono GG.out.below.size)).setCell (by simp; omega) _).setCell (by simp; omega) _).setCell (by simp; omega) _
end Go.Proofs
