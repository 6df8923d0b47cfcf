/-
  Chapter 7: lists with an option put in front, the better ones of two.
-/
import Derived.Test.YtjhpebihflcanaaRsA
import Derived.Test.YtjhpebihflcanaaRsB
import Derived.Deep.RegionHeld3
namespace Go.Proofs
open Go.RowKit Go.Maps Rl
set_option linter.unusedVariables false
set_option linter.unusedSimpArgs false
/-- what is kept within bounds -/
structure LeB (l : Le) : Prop where
  c0 : -1000000 ≤ l.cost
  c1 : l.cost ≤ 1000000
  n0 : 1 ≤ l.count
  n1 : l.count ≤ 4000000000000000000
  len : l.first.length ≤ 90
def S6 (b : Nat) (v0 v1 v2 u0 u1 u2 : Value) (w : World) : Prop := w.cell? ⟨b, 0, none⟩ = some v0 ∧ w.cell? ⟨b, 1, none⟩ = some v1 ∧ w.cell? ⟨b, 2, none⟩ = some v2 ∧ w.cell? ⟨b + 1, 0, none⟩ = some u0 ∧ w.cell? ⟨b + 1, 1, none⟩ = some u1 ∧ w.cell? ⟨b + 1, 2, none⟩ = some u2
theorem S6.kp {b : Nat} {v0 v1 v2 u0 u1 u2 : Value} {w w' : World} (h : S6 b v0 v1 v2 u0 u1 u2 w) (k : Kp w w') : S6 b v0 v1 v2 u0 u1 u2 w' :=
  ⟨k.cell h.1, k.cell h.2.1, k.cell h.2.2.1, k.cell h.2.2.2.1, k.cell h.2.2.2.2.1, k.cell h.2.2.2.2.2⟩
theorem S6.alloc {b : Nat} {v0 v1 v2 u0 u1 u2 : Value} {w : World} (h : S6 b v0 v1 v2 u0 u1 u2 w) (o : Obj) : S6 b v0 v1 v2 u0 u1 u2 (w.alloc o) := h.kp (Gr.kp (Gr.alloc (Gr.refl _) _))
theorem S6.drew {b : Nat} {v0 v1 v2 u0 u1 u2 : Value} {w : World} (h : S6 b v0 v1 v2 u0 u1 u2 w) : S6 b v0 v1 v2 u0 u1 u2 w.drew := h.kp (Gr.kp (Gr.drew (Gr.refl _)))
theorem S6.set {b : Nat} {v0 v1 v2 u0 u1 u2 : Value} {w : World} (h : S6 b v0 v1 v2 u0 u1 u2 w) {k i : Nat} (hk : b + 1 < k) (u : Value) : S6 b v0 v1 v2 u0 u1 u2 (w.setCell ⟨k, i, none⟩ u) := by
  have key : ∀ j o (v : Value), j < k → w.cell? ⟨j, o, none⟩ = some v → (w.setCell ⟨k, i, none⟩ u).cell? ⟨j, o, none⟩ = some v := fun j o v hj e => (World.cell?_setCell_far _ _ _ _ (by simp; omega)).trans e
  exact ⟨key _ _ _ (by omega) h.1, key _ _ _ (by omega) h.2.1, key _ _ _ (by omega) h.2.2.1, key _ _ _ (by omega) h.2.2.2.1, key _ _ _ (by omega) h.2.2.2.2.1, key _ _ _ (by omega) h.2.2.2.2.2⟩
theorem wrap_id {x : Int} (h0 : -9223372036854775808 ≤ x) (h1 : x ≤ 9223372036854775807) : IntKind.i64.wrap x = x := by
  exact IntWalk.i64_in _ (by omega)
theorem three_set {w : World} {b : Nat} {x y z : Value} (h0 : w.cell? ⟨b, 0, none⟩ = some x) (h1 : w.cell? ⟨b, 1, none⟩ = some y) (h2 : w.cell? ⟨b, 2, none⟩ = some z) (u1 u2 u3 : Value) :
    (((w.setCell ⟨b, 0, none⟩ u1).setCell ⟨b, 1, none⟩ u2).setCell ⟨b, 2, none⟩ u3).cell? ⟨b, 0, none⟩ = some u1 ∧ (((w.setCell ⟨b, 0, none⟩ u1).setCell ⟨b, 1, none⟩ u2).setCell ⟨b, 2, none⟩ u3).cell? ⟨b, 1, none⟩ = some u2 ∧ (((w.setCell ⟨b, 0, none⟩ u1).setCell ⟨b, 1, none⟩ u2).setCell ⟨b, 2, none⟩ u3).cell? ⟨b, 2, none⟩ = some u3 := by
  have a1 : (w.setCell ⟨b, 0, none⟩ u1).cell? ⟨b, 1, none⟩ = some y := by rw [World.cell?_setCell_other _ ⟨b, 0, none⟩ ⟨b, 1, none⟩ _ (by simp)]; exact h1
  have a2 : (w.setCell ⟨b, 0, none⟩ u1).cell? ⟨b, 2, none⟩ = some z := by rw [World.cell?_setCell_other _ ⟨b, 0, none⟩ ⟨b, 2, none⟩ _ (by simp)]; exact h2
  have a3 : ((w.setCell ⟨b, 0, none⟩ u1).setCell ⟨b, 1, none⟩ u2).cell? ⟨b, 2, none⟩ = some z := by rw [World.cell?_setCell_other _ ⟨b, 1, none⟩ ⟨b, 2, none⟩ _ (by simp)]; exact a2
  refine ⟨?_, ?_, World.cell?_setCell_same _ _ u3 a3⟩
  · rw [World.cell?_setCell_other _ ⟨b, 2, none⟩ ⟨b, 0, none⟩ _ (by simp), World.cell?_setCell_other _ ⟨b, 1, none⟩ ⟨b, 0, none⟩ _ (by simp)]; exact World.cell?_setCell_same _ _ u1 h0
  · rw [World.cell?_setCell_other _ ⟨b, 2, none⟩ ⟨b, 1, none⟩ _ (by simp)]; exact World.cell?_setCell_same _ _ u2 a1
/-- a row that is no box stays when the box is stored into -/
theorem OwnI.box3 {w : World} {B b : Nat} {v : Value} {xs : List Int} (h : OwnI w B v xs) (hb : b < B) (u1 u2 u3 : Value) : OwnI (((w.setCell ⟨b, 0, none⟩ u1).setCell ⟨b, 1, none⟩ u2).setCell ⟨b, 2, none⟩ u3) B v xs := by
  refine OwnI.grown h (grownBy_set (grownBy_set (grownBy_set (World.grownBy.refl w (some b))))) (.inr fun e => ?_)
  have := (World.ownsRow.lt h b e).1
  omega
theorem below_box3 {w0 w : World} {C b : Nat} (h : Below C w0 w) (hb : C ≤ b) (u1 u2 u3 : Value) : Below C w0 (((w.setCell ⟨b, 0, none⟩ u1).setCell ⟨b, 1, none⟩ u2).setCell ⟨b, 2, none⟩ u3) :=
  Below.setCell (Below.setCell (Below.setCell h (p := ⟨b, 0, none⟩) hb _) (p := ⟨b, 1, none⟩) hb _) (p := ⟨b, 2, none⟩) hb _
set_option maxRecDepth 100000 in
set_option maxHeartbeats 4000000 in
theorem Try.behind (w : World) (B1 B2 : Nat) (s t : Value) (l : Le) (hB : LeB l) (o : Rl.Op) (h0 : -100000 ≤ o.cost ∧ o.cost ≤ 100000) (h1 : o.tells.length ≤ 1) (hs : OwnI w B1 s l.first) (ht : OwnI w B2 t o.tells) :
    Calls Try.prog 56 #[.agg #[.int .i64 l.cost, .int .i64 (l.count : Nat), s], .agg #[.int .i64 o.st, .int .i64 o.cost, t]] w fun e w' => ∃ v, e = .returned v ∧ LeV w' w.heap.size v (some (behE o.cost o.tells l)) ∧ Below w.heap.size w w' := by
  have mixed : Try.prog.follows .mixedOrders = true := by kernel_rfl
  obtain ⟨c, n, f⟩ := l
  obtain ⟨x, d, g⟩ := o
  simp only at hs ht h0 h1 ⊢
  have b0 := hB.c0
  have b1 := hB.c1
  have b2 := hB.len
  simp only at b0 b1 b2
  obtain ⟨d0, d1⟩ := h0
  obtain ⟨As, cs, es⟩ := hs.form
  obtain ⟨At, ct, et⟩ := ht.form
  subst es et
  obtain ⟨fl, hfl⟩ : ∃ n, f.length = n := ⟨_, rfl⟩
  obtain ⟨gl, hgl⟩ : ∃ n, g.length = n := ⟨_, rfl⟩
  rw [hfl] at hs b2
  rw [hgl] at ht h1
  have HLN := Lib.hid (show f.length ≤ 100 ∧ g.length ≤ 100 by omega)
  obtain ⟨W, hW⟩ : ∃ W, ((w.alloc (.cells #[.int .i64 c, .int .i64 (n : Nat), .slice As fl cs] 46)).alloc (.cells #[.int .i64 x, .int .i64 d, .slice At gl ct] 63)).alloc (.cells #[.int .i64 0, .int .i64 0, .slice none 0 0] 46) = W := ⟨_, rfl⟩
  have gW : Gr w W := by subst hW; exact Gr.alloc (Gr.alloc (Gr.alloc (Gr.refl _) _) _) _
  have hS : S6 w.heap.size (.int .i64 c) (.int .i64 (n : Nat)) (.slice As fl cs) (.int .i64 x) (.int .i64 d) (.slice At gl ct) W := by subst hW; refine ⟨?_, ?_, ?_, ?_, ?_, ?_⟩ <;> simp [go_sem]
  have szW : W.heap.size = w.heap.size + 3 := by subst hW; simp
  have hR : W.cell? ⟨w.heap.size + 2, 0, none⟩ = some (.int .i64 0) ∧ W.cell? ⟨w.heap.size + 2, 1, none⟩ = some (.int .i64 0) ∧ W.cell? ⟨w.heap.size + 2, 2, none⟩ = some (.slice none 0 0) := by subst hW; refine ⟨?_, ?_, ?_⟩ <;> simp [go_sem]
  have HG := Lib.hid gW
  have HS := Lib.hid hS
  have hF : W.frozen? ⟨w.heap.size + 2, 0, none⟩ = false ∧ W.frozen? ⟨w.heap.size + 2, 1, none⟩ = false ∧ W.frozen? ⟨w.heap.size + 2, 2, none⟩ = false := by subst hW; refine ⟨?_, ?_, ?_⟩ <;> simp [go_sem]
  have HR := Lib.hid (And.intro hR hF)
  have HO := Lib.hid (And.intro (hs.gr gW) (ht.gr gW))
  rw [hfl, hgl]
  have HSZ := Lib.hid szW
  have HLT := Lib.hid (show w.heap.size + 1 < w.heap.size + 2 by omega)
  clear gW hR hF hB hs ht hfl hgl szW
  go_enter Try.func56, Try.ntmps56
  go_wp2_with fail
  go_region_held3 (fun W' => W'.cell? ⟨w.heap.size, 0, none⟩ = some (.int .i64 c) ∧ W'.cell? ⟨w.heap.size, 1, none⟩ = some (.int .i64 (n : Nat)) ∧ W'.cell? ⟨w.heap.size, 2, none⟩ = some (.slice As fl cs) ∧ W'.cell? ⟨w.heap.size + 1, 0, none⟩ = some (.int .i64 x) ∧ W'.cell? ⟨w.heap.size + 1, 1, none⟩ = some (.int .i64 d) ∧ W'.cell? ⟨w.heap.size + 1, 2, none⟩ = some (.slice At gl ct))
    (repeat' (first | exact HS.out | exact HS3.out | refine S6.alloc ?_ _ | refine S6.drew ?_ | refine S6.set ?_ HLT.out _))
    (first | (go_at_call 65; go_loud (refine (Try.concatO _ W.heap.size B2 B1 _ _ g f HLN.out.2 HLN.out.1 (by simp [go_sem]) (by simp [go_sem]) (HO.out.2.gr (by repeat (first | exact Gr.refl _ | refine Gr.alloc ?_ _ | refine Gr.trans ?_ (by assumption) | refine Gr.drew ?_ | refine Gr.drewN ?_ _ | refine Gr.grow ?_ _ | refine Gr.setCell ?_ (by (try simp); (try omega)) _))) (HO.out.1.gr (by repeat (first | exact Gr.refl _ | refine Gr.alloc ?_ _ | refine Gr.trans ?_ (by assumption) | refine Gr.drew ?_ | refine Gr.drewN ?_ _ | refine Gr.grow ?_ _ | refine Gr.setCell ?_ (by (try simp); (try omega)) _)))).mono ?_); rintro e w3 ⟨v3, rfl, ho3, hb3⟩; obtain ⟨A3, c3, rfl, ho3⟩ := ho3.eta; have hK3 : Kp W w3 := Kp.trans (by first | exact Gr.kp (Gr.alloc (Gr.refl _) _) | exact Gr.kp (Gr.drew (Gr.alloc (Gr.refl _) _)) | exact Gr.kp (Gr.alloc (Gr.drew (Gr.refl _)) _)) (below_kp hb3); have HS3 := Lib.hid (HS.out.kp hK3); have r0 := hK3.cell HR.out.1.1; have r1 := hK3.cell HR.out.1.2.1; have r2 := hK3.cell HR.out.1.2.2; have f0 := hK3.frz HR.out.1.1 HR.out.2.1; have f1 := hK3.frz HR.out.1.2.1 HR.out.2.2.1; have f2 := hK3.frz HR.out.1.2.2 HR.out.2.2.2))
  all_goals
    have hwr : IntKind.i64.wrap (c + d) = c + d := wrap_id (by omega) (by omega)
    have hsz3 := hK3.size
    have hq := three_set r0 r1 r2 (.int .i64 (c + d)) (.int .i64 (n : Nat)) (.slice A3 (g.length + f.length) c3)
    have hB4 : Below W.heap.size W w3 := Below.trans (by first | exact (Gr.alloc (Gr.refl _) _).below | exact (Gr.drew (Gr.alloc (Gr.refl _) _)).below | exact (Gr.alloc (Gr.drew (Gr.refl _)) _).below) (hb3.mono (by simp))
    obtain ⟨q0, q1, q2⟩ := hq
    have HQ := Lib.hid (And.intro ho3 hB4)
    have hg3 : (some W.heap.size) ≠ some (w.heap.size + 2) := fun e => by have := Option.some.inj e; have := HSZ.out; omega
    rw [hwr]
    clear r0 r1 r2 f0 f1 f2 hb3 ho3 hB4 hS
    go_wp2
    refine bodyPost_ret (v := .agg #[.int .i64 (c + d), .int .i64 (n : Nat), .slice A3 (g.length + f.length) c3]) ?_ rfl ⟨_, rfl, ⟨_, rfl, ?_⟩, ?_⟩
    · simp [results, Try.results56, go_sem, q0, q1, q2]
    · have hs3 := HSZ.out
      show OwnI _ w.heap.size _ (g ++ f)
      have ho4 : OwnI w3 W.heap.size (.slice A3 (g.length + f.length) c3) (g ++ f) := by have := HQ.out.1; exact OwnI.mono (by simpa using this) (by simp)
      have ho5 := OwnI.box3 (b := w.heap.size + 1 + 1) ho4 (by omega) (.int .i64 (c + d)) (.int .i64 (n : Nat)) (.slice A3 (g.length + f.length) c3)
      exact OwnI.mono ho5 (by omega)
    · have hs3 := HSZ.out
      exact below_box3 (b := w.heap.size + 1 + 1) (HG.out.below.trans (HQ.out.2.mono (by omega))) (by omega) _ _ _
end Go.Proofs
