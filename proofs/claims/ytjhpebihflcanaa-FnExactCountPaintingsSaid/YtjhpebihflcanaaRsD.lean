/-
  Chapter 7: the better ones of two, and who are neighbours around a ring.
-/
import Derived.Test.YtjhpebihflcanaaRsC
namespace Go.Proofs
open Go.RowKit Go.Maps Rl
set_option linter.unusedVariables false
set_option linter.unusedSimpArgs false
theorem Try.isRoundE (h : Nat) (r : Bool) (w : World) : Calls Try.prog 58 #[.int .i64 h, .bool r] w fun e w' => e = .returned (.bool (r && decide (3 ≤ h))) ∧ Gr w w' := by
  by_cases h3 : 3 ≤ h
  · have z : (3 : Int) ≤ (h : Int) := by omega
    have e : (r && decide (3 ≤ h)) = r := by simp [h3]
    rw [e]
    cases r
    all_goals
      go_enter Try.func58, Try.ntmps58
      go_wp2
      go_ret
      exact ⟨rfl, Gr.refl _⟩
  · have z : ¬ (3 : Int) ≤ (h : Int) := by omega
    have e : (r && decide (3 ≤ h)) = false := by simp [h3]
    rw [e]
    cases r
    all_goals
      go_enter Try.func58, Try.ntmps58
      go_wp2
      go_ret
      exact ⟨rfl, Gr.refl _⟩
/-- the lists that are kept share no block with a box that is new -/
theorem LeV.box3 {w : World} {B b : Nat} {v : Value} {o : Option Le} (h : LeV w B v o) (hb : w.heap[b]? = none ∨ b < B) (u1 u2 u3 : Value) : LeV (((w.setCell ⟨b, 0, none⟩ u1).setCell ⟨b, 1, none⟩ u2).setCell ⟨b, 2, none⟩ u3) B v o := by
  cases o with
  | none => exact h
  | some l =>
    obtain ⟨s, rfl, ho⟩ := h
    refine ⟨s, rfl, OwnI.grown ho (grownBy_set (grownBy_set (grownBy_set (World.grownBy.refl w (some b))))) (.inr fun e => ?_)⟩
    have h1 := World.ownsRow.lt ho b e
    rcases hb with hb | hb
    · rw [Array.getElem?_eq_none_iff] at hb; omega
    · omega
theorem LeV.form {w : World} {B : Nat} {v : Value} {o : Option Le} (h : LeV w B v o) : ∃ (c : Int) (n : Nat) (A : Option Addr) (m k : Nat), v = .agg #[.int .i64 c, .int .i64 n, .slice A m k] := by
  cases o with
  | none => exact ⟨0, 0, none, 0, 0, h⟩
  | some l =>
    obtain ⟨s, rfl, ho⟩ := h
    obtain ⟨A, c, rfl⟩ := ho.form
    exact ⟨_, _, _, _, _, rfl⟩
/-- the boxes of two arguments and of a result -/
theorem box9 (w : World) (x1 x2 x3 y1 y2 y3 : Value) (T : TypeId) (W : World) (hW : ((w.alloc (.cells #[x1, x2, x3] T)).alloc (.cells #[y1, y2, y3] T)).alloc (.cells #[.int .i64 0, .int .i64 0, .slice none 0 0] T) = W) :
    Gr w W ∧ W.heap.size = w.heap.size + 3 ∧ S6 w.heap.size x1 x2 x3 y1 y2 y3 W ∧ (W.cell? ⟨w.heap.size + 2, 0, none⟩ = some (.int .i64 0) ∧ W.cell? ⟨w.heap.size + 2, 1, none⟩ = some (.int .i64 0) ∧ W.cell? ⟨w.heap.size + 2, 2, none⟩ = some (.slice none 0 0)) ∧
      (W.frozen? ⟨w.heap.size + 2, 0, none⟩ = false ∧ W.frozen? ⟨w.heap.size + 2, 1, none⟩ = false ∧ W.frozen? ⟨w.heap.size + 2, 2, none⟩ = false) := by
  subst hW
  refine ⟨Gr.alloc (Gr.alloc (Gr.alloc (Gr.refl _) _) _) _, by simp, ⟨?_, ?_, ?_, ?_, ?_, ?_⟩, ⟨?_, ?_, ?_⟩, ⟨?_, ?_, ?_⟩⟩ <;> simp [go_sem]
set_option maxRecDepth 100000 in
set_option maxHeartbeats 4000000 in
theorem Try.orB (w : World) (B : Nat) (v1 v2 : Value) (l o : Option Le) (hB : B ≤ w.heap.size) (h1 : LeV w B v1 l) (h2 : LeV w B v2 o) (b1 : ∀ x, l = some x → LeB x) (b2 : ∀ x, o = some x → LeB x) :
    Calls Try.prog 59 #[v1, v2] w fun e w' => ∃ v, e = .returned v ∧ LeV w' B v (orL l o) ∧ Below w.heap.size w w' := by
  have mixed : Try.prog.follows .mixedOrders = true := by kernel_rfl
  obtain ⟨c2, n2, A2, m2, k2, e2⟩ := h2.form
  cases l with
  | none =>
    subst e2
    obtain rfl : v1 = .agg #[.int .i64 0, .int .i64 0, .slice none 0 0] := h1
    have H2 := Lib.hid h2
    clear h2 b1 b2
    go_enter Try.func59, Try.ntmps59
    go_wp2
    refine bodyPost_ret (v := .agg #[.int .i64 c2, .int .i64 n2, .slice A2 m2 k2]) ?_ rfl ⟨_, rfl, ?_⟩
    · simp [results, Try.results59, go_sem]
    · exact ⟨LeV.kp (o := o) H2.out (Gr.kp (Gr.alloc (Gr.alloc (Gr.alloc (Gr.refl _) _) _) _)), (Gr.alloc (Gr.alloc (Gr.alloc (Gr.refl _) _) _) _).below⟩
  | some l =>
    obtain ⟨a1, ⟨⟩⟩ : ∃ x : Nat, True := ⟨0, trivial⟩
    obtain ⟨t1, rfl, o1⟩ := h1
    obtain ⟨A1, k1, rfl⟩ := o1.form
    have hl := b1 l rfl
    have l0 := hl.c0
    have l1 := hl.c1
    have l2 := hl.n0
    have l3 := hl.n1
    have l4 := hl.len
    obtain ⟨c1, n1, f1⟩ := l
    simp only at l0 l1 l2 l3 l4 o1
    obtain ⟨m1, hm1⟩ : ∃ m, f1.length = m := ⟨_, rfl⟩
    simp only [hm1] at o1 l4 ⊢
    have HM1 := Lib.hid hm1
    have hz1 : ¬ (n1 : Int) = 0 := by omega
    have hz1' : ¬ n1 = 0 := by omega
    cases o with
    | none =>
      obtain rfl : v2 = .agg #[.int .i64 0, .int .i64 0, .slice none 0 0] := h2
      have O1 := Lib.hid o1
      clear o1 b1 b2 hl hm1 e2
      go_enter Try.func59, Try.ntmps59
      go_wp2
      refine bodyPost_ret (v := .agg #[.int .i64 c1, .int .i64 n1, .slice A1 m1 k1]) ?_ rfl ⟨_, rfl, ?_⟩
      · simp [results, Try.results59, go_sem]
      · exact ⟨LeV.kp (o := some ⟨c1, n1, f1⟩) ⟨_, rfl, O1.out⟩ (Gr.kp (Gr.alloc (Gr.alloc (Gr.alloc (Gr.refl _) _) _) _)), (Gr.alloc (Gr.alloc (Gr.alloc (Gr.refl _) _) _) _).below⟩
    | some o =>
      clear e2
      obtain ⟨t2, rfl, o2⟩ := h2
      obtain ⟨A2', k2', rfl⟩ := o2.form
      have ho := b2 o rfl
      have q0 := ho.c0
      have q1 := ho.c1
      have q2 := ho.n0
      have q3 := ho.n1
      have q4 := ho.len
      obtain ⟨c2, n2, f2⟩ := o
      simp only at q0 q1 q2 q3 q4 o2
      obtain ⟨m2, hm2⟩ : ∃ m, f2.length = m := ⟨_, rfl⟩
      simp only [hm2] at o2 q4 ⊢
      have HM2 := Lib.hid hm2
      have hz2 : ¬ (n2 : Int) = 0 := by omega
      have hz2' : ¬ n2 = 0 := by omega
      have hz3 : (0 : Int) < (n2 : Int) := by omega
      have O1 := Lib.hid o1
      have O2 := Lib.hid o2
      have HO := Lib.hid (show orL (some ⟨c1, n1, f1⟩) (some ⟨c2, n2, f2⟩) = some (orE ⟨c1, n1, f1⟩ ⟨c2, n2, f2⟩) from rfl)
      clear b1 b2 hl ho o1 o2 hm1 hm2
      by_cases hlt : c2 < c1
      · have HE := Lib.hid (show orE ⟨c1, n1, f1⟩ ⟨c2, n2, f2⟩ = ⟨c2, n2, f2⟩ by unfold orE; rw [if_pos hlt])
        go_enter Try.func59, Try.ntmps59
        go_wp2
        refine bodyPost_ret (v := .agg #[.int .i64 c2, .int .i64 n2, .slice A2' m2 k2']) ?_ rfl ⟨_, rfl, ?_⟩
        · simp [results, Try.results59, go_sem]
        · rw [HO.out, HE.out]
          exact ⟨LeV.kp (o := some ⟨c2, n2, f2⟩) ⟨_, rfl, O2.out⟩ (Gr.kp (Gr.alloc (Gr.alloc (Gr.alloc (Gr.refl _) _) _) _)), (Gr.alloc (Gr.alloc (Gr.alloc (Gr.refl _) _) _) _).below⟩
      · by_cases hgt : c1 < c2
        · have HE := Lib.hid (show orE ⟨c1, n1, f1⟩ ⟨c2, n2, f2⟩ = ⟨c1, n1, f1⟩ by unfold orE; simp only; rw [if_neg hlt, if_pos hgt])
          go_enter Try.func59, Try.ntmps59
          go_wp2
          refine bodyPost_ret (v := .agg #[.int .i64 c1, .int .i64 n1, .slice A1 m1 k1]) ?_ rfl ⟨_, rfl, ?_⟩
          · simp [results, Try.results59, go_sem]
          · rw [HO.out, HE.out]
            exact ⟨LeV.kp (o := some ⟨c1, n1, f1⟩) ⟨_, rfl, O1.out⟩ (Gr.kp (Gr.alloc (Gr.alloc (Gr.alloc (Gr.refl _) _) _) _)), (Gr.alloc (Gr.alloc (Gr.alloc (Gr.refl _) _) _) _).below⟩
        · obtain rfl : c1 = c2 := by omega
          have HE := Lib.hid (show orE ⟨c1, n1, f1⟩ ⟨c1, n2, f2⟩ = ⟨c1, n1 + n2, minL f1 f2⟩ by unfold orE; simp only; rw [if_neg hlt, if_neg hgt])
          have HC := Lib.hid (fun (X : World) (g : Gr w X) => Try.compareI X B B _ _ f2 f1 (by rw [HM2.out]; omega) (by rw [HM1.out]; omega) (O2.out.gr g) (O1.out.gr g))
          have hcl := cmpL_lt f2 f1
          clear hlt hgt
          by_cases hcm : cmpL f2 f1 < 0
          · have HN := Lib.hid (show minL f1 f2 = f2 by unfold minL; rw [if_pos (hcl.1 hcm)])
            generalize cmpL f2 f1 = z at *
            clear hcl
            go_enter Try.func59, Try.ntmps59
            go_wp2_with (go_at_call 66; refine (HC.out _ (by repeat (first | exact Gr.refl _ | refine Gr.alloc ?_ _ | refine Gr.trans ?_ (by assumption) | refine Gr.drew ?_ | refine Gr.drewN ?_ _ | refine Gr.grow ?_ _ | refine Gr.setCell ?_ (by (try simp); (try omega)) _))).mono ?_; rintro e w3 ⟨rfl, g3⟩; have hcW := (bcell g3.below).1; have hfW := (bcell g3.below).2; have hzW : w.heap.size < w3.heap.size := (by have hq := g3.below.size; simp at hq; omega); have hyW : w.heap.size + 1 < w3.heap.size := (by have hq := g3.below.size; simp at hq; omega); have hxW : w.heap.size + 1 + 1 < w3.heap.size := (by have hq := g3.below.size; simp at hq; omega); have huW : w.heap.size + 1 + 1 + 1 < w3.heap.size := (by have hq := g3.below.size; simp at hq; omega))
            have GW : Gr w w3 := Gr.trans (Gr.alloc (Gr.alloc (Gr.alloc (Gr.alloc (Gr.refl _) _) _) _) _) g3
            have r0 : w3.cell? ⟨w.heap.size + 1 + 1, 0, none⟩ = some (.int .i64 0) := g3.keep0 (by simp [go_sem])
            have r1 : w3.cell? ⟨w.heap.size + 1 + 1, 1, none⟩ = some (.int .i64 0) := g3.keep0 (by simp [go_sem])
            have r2 : w3.cell? ⟨w.heap.size + 1 + 1, 2, none⟩ = some (.slice none 0 0) := g3.keep0 (by simp [go_sem])
            obtain ⟨u0, u1, u2⟩ := three_set (w := (w3.setCell ⟨w.heap.size + 1 + 1 + 1, 2, none⟩ (.slice A2' m2 k2'))) (b := w.heap.size + 1 + 1) (by rw [World.cell?_setCell_other _ ⟨w.heap.size + 1 + 1 + 1, 2, none⟩ ⟨w.heap.size + 1 + 1, 0, none⟩ _ (by simp)]; exact r0) (by rw [World.cell?_setCell_other _ ⟨w.heap.size + 1 + 1 + 1, 2, none⟩ ⟨w.heap.size + 1 + 1, 1, none⟩ _ (by simp)]; exact r1) (by rw [World.cell?_setCell_other _ ⟨w.heap.size + 1 + 1 + 1, 2, none⟩ ⟨w.heap.size + 1 + 1, 2, none⟩ _ (by simp)]; exact r2) (.int .i64 c1) (.int .i64 ((n1 : Int) + n2)) (.slice A2' m2 k2')
            have GF : Gr w (((((w3.setCell ⟨w.heap.size + 1 + 1 + 1, 2, none⟩ (.slice A2' m2 k2'))).setCell ⟨w.heap.size + 1 + 1, 0, none⟩ (.int .i64 c1)).setCell ⟨w.heap.size + 1 + 1, 1, none⟩ (.int .i64 ((n1 : Int) + n2))).setCell ⟨w.heap.size + 1 + 1, 2, none⟩ (.slice A2' m2 k2')) := Gr.setCell (Gr.setCell (Gr.setCell (Gr.setCell GW (p := ⟨w.heap.size + 1 + 1 + 1, 2, none⟩) (by simp; omega) _) (p := ⟨w.heap.size + 1 + 1, 0, none⟩) (by simp; omega) _) (p := ⟨w.heap.size + 1 + 1, 1, none⟩) (by simp; omega) _) (p := ⟨w.heap.size + 1 + 1, 2, none⟩) (by simp; omega) _
            refine bodyPost_ret (v := .agg #[.int .i64 c1, .int .i64 ((n1 : Int) + n2), .slice A2' m2 k2']) ?_ rfl ⟨_, rfl, ?_⟩
            · simp [results, Try.results59, go_sem, u0, u1, u2]
            · rw [HO.out, HE.out, HN.out]
              exact ⟨⟨.slice A2' m2 k2', by push_cast; rfl, OwnI.gr O2.out GF⟩, GF.below⟩
          · have HN := Lib.hid (show minL f1 f2 = f1 by unfold minL; rw [if_neg (fun h => hcm (hcl.2 h))])
            generalize cmpL f2 f1 = z at *
            clear hcl
            go_enter Try.func59, Try.ntmps59
            go_wp2_with (go_at_call 66; refine (HC.out _ (by repeat (first | exact Gr.refl _ | refine Gr.alloc ?_ _ | refine Gr.trans ?_ (by assumption) | refine Gr.drew ?_ | refine Gr.drewN ?_ _ | refine Gr.grow ?_ _ | refine Gr.setCell ?_ (by (try simp); (try omega)) _))).mono ?_; rintro e w3 ⟨rfl, g3⟩; have hcW := (bcell g3.below).1; have hfW := (bcell g3.below).2; have hzW : w.heap.size < w3.heap.size := (by have hq := g3.below.size; simp at hq; omega); have hyW : w.heap.size + 1 < w3.heap.size := (by have hq := g3.below.size; simp at hq; omega); have hxW : w.heap.size + 1 + 1 < w3.heap.size := (by have hq := g3.below.size; simp at hq; omega); have huW : w.heap.size + 1 + 1 + 1 < w3.heap.size := (by have hq := g3.below.size; simp at hq; omega))
            have GW : Gr w w3 := Gr.trans (Gr.alloc (Gr.alloc (Gr.alloc (Gr.alloc (Gr.refl _) _) _) _) _) g3
            have r0 : w3.cell? ⟨w.heap.size + 1 + 1, 0, none⟩ = some (.int .i64 0) := g3.keep0 (by simp [go_sem])
            have r1 : w3.cell? ⟨w.heap.size + 1 + 1, 1, none⟩ = some (.int .i64 0) := g3.keep0 (by simp [go_sem])
            have r2 : w3.cell? ⟨w.heap.size + 1 + 1, 2, none⟩ = some (.slice none 0 0) := g3.keep0 (by simp [go_sem])
            obtain ⟨u0, u1, u2⟩ := three_set (w := w3) (b := w.heap.size + 1 + 1) r0 r1 r2 (.int .i64 c1) (.int .i64 ((n1 : Int) + n2)) (.slice A1 m1 k1)
            have GF : Gr w ((((w3).setCell ⟨w.heap.size + 1 + 1, 0, none⟩ (.int .i64 c1)).setCell ⟨w.heap.size + 1 + 1, 1, none⟩ (.int .i64 ((n1 : Int) + n2))).setCell ⟨w.heap.size + 1 + 1, 2, none⟩ (.slice A1 m1 k1)) := Gr.setCell (Gr.setCell (Gr.setCell GW (p := ⟨w.heap.size + 1 + 1, 0, none⟩) (by simp; omega) _) (p := ⟨w.heap.size + 1 + 1, 1, none⟩) (by simp; omega) _) (p := ⟨w.heap.size + 1 + 1, 2, none⟩) (by simp; omega) _
            refine bodyPost_ret (v := .agg #[.int .i64 c1, .int .i64 ((n1 : Int) + n2), .slice A1 m1 k1]) ?_ rfl ⟨_, rfl, ?_⟩
            · simp [results, Try.results59, go_sem, u0, u1, u2]
            · rw [HO.out, HE.out, HN.out]
              exact ⟨⟨.slice A1 m1 k1, by push_cast; rfl, OwnI.gr O1.out GF⟩, GF.below⟩
end Go.Proofs
