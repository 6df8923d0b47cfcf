/-
  A range over a function whose iterator keeps its state in a variable's box (a cell that it stores into between two rounds). No program's text here.
-/
import Derived.RangeFuncNested
import Derived.RangeFuncBound
import Derived.RangeFuncCalls
import Derived.RangeFuncLeaves
import Derived.RangeFuncFrom
import Derived.OwnWalkIn
import Derived.TacticsInMore
namespace Go.Proofs
open Go.RowKit
set_option linter.unusedVariables false
set_option linter.unusedSimpArgs false
/-- the blocks from lo on, up to hi, lie as they lay -/
def KpB (lo hi : Nat) (W W' : World) : Prop := ∀ b, lo ≤ b → b < hi → W'.heap[b]? = W.heap[b]?
theorem KpB.trans {lo hi : Nat} {A B C : World} (h : KpB lo hi A B) (k : KpB lo hi B C) : KpB lo hi A C := fun b h1 h2 => (k b h1 h2).trans (h b h1 h2)
theorem KpB.put {lo hi : Nat} {N : Nat} (hN : hi ≤ N) (W : World) (l : Nat) (o o' : Obj) (hl : N ≤ l) (h : W.heap[l]? = some o) (_ : o.isCells = false) (_ : o.isWalk = false) : KpB lo hi W (W.putObj l o') := fun b _ h2 => World.putObj_heap_other (by omega)
theorem KpB.below {lo hi C : Nat} {W W' : World} (h : Below C W W') (hC : hi ≤ C) : KpB lo hi W W' := fun b _ h2 => h.block b (by omega)
theorem KpB.cell {lo hi : Nat} {W W' : World} (h : KpB lo hi W W') {b o : Nat} (h1 : lo ≤ b) (h2 : b < hi) : W'.cell? ⟨b, o, none⟩ = W.cell? ⟨b, o, none⟩ ∧ W'.frozen? ⟨b, o, none⟩ = W.frozen? ⟨b, o, none⟩ := ⟨World.cell?_of_block (h b h1 h2), World.frozen?_of_block (h b h1 h2)⟩
/-- What an iterator with its state in block Bs promises: it stores there, lays blocks of its own, and else calls yield alone. -/
def ItCell (n : Nat) (P : Program) (gf : FuncId) (lb : Array Value) (Bs : Nat) (Kp : World → World → Prop) (S Sp : List ByteArray → Prop) (N : Nat) (w : World) : Prop :=
  ∀ (l : Nat) (J Jx : List ByteArray → World → Prop) (W : World), Below w.heap.size w W → (∀ pre W v, J pre W → J pre (W.setCell ⟨Bs, 0, none⟩ v)) →
    (∀ pre x W, J pre W → pre.length < N → x.size ≤ 1048576 → YieldAt Fence.wide (n - 1) P l #[.string x] W fun e W' =>
      (e = .returned (.bool true) ∧ J (pre ++ [x]) W' ∧ Kp W W') ∨ (e = .returned (.bool false) ∧ Jx (pre ++ [x]) W')) →
    J [] W →
    CallsIn Fence.wide n P gf (#[.func (.yield l) #[] #[]] ++ lb) W fun e W' => (∃ v, e = .returned v) ∧ ((∃ ys, S ys ∧ J ys W') ∨ (∃ pre, Sp pre ∧ Jx pre W'))
set_option maxHeartbeats 1000000 in
theorem rf_cell {P : Program} {g : Operand} {ps : Array Tmp} {assign body : Code} {Q : Exit → Act → World → Prop} {a : Act} {w : World} {n : Nat}
    (h1 : 1 ≤ n) {gf : FuncId} {lb : Array Value} (hg : a.eval g = .func (.func gf) #[] lb) (eg : ∀ args w, (callFunc gf args).run P w = .ok (.enter gf args) w)
    {Bs N : Nat} {Kp : World → World → Prop} {S Sp : List ByteArray → Prop} (hit : ItCell (n - 1) P gf lb Bs Kp S Sp N w)
    (hKt : ∀ {A B C : World}, Kp A B → Kp B C → Kp A C) (hKb : ∀ (W : World) (l : Nat) (o o' : Obj), w.heap.size ≤ l → W.heap[l]? = some o → o.isCells = false → o.isWalk = false → Kp W (W.putObj l o')) (hps : ps.size = 1)
    (I : List ByteArray → World → Prop) (Ix : Code → List ByteArray → World → Prop) (hI : OwnFrom w.heap.size I) (hIx : ∀ c, OwnFrom w.heap.size (Ix c))
    (hIs : ∀ pre W v, I pre W → I pre (W.setCell ⟨Bs, 0, none⟩ v)) (h0 : I [] w) (a₁ : ByteArray → Act)
    (hassign : ∀ (l : Nat) (x : ByteArray) (W : World) (K : Act → World → Prop), K (a₁ x) W →
      assign.wpIn (Fence.wide.inRound l) (n - 1 - 1) P (Exit.then K (fun _ _ _ => False)) { tmps := (ps.zip #[.string x]).foldl (fun t (p, v) => t.setIfInBounds p v) a.tmps, defers := [] } W)
    (hbody : ∀ (l : Nat) (pre : List ByteArray) (x : ByteArray) (W : World), I pre W → pre.length < N → x.size ≤ 1048576 → body.wpIn (Fence.wide.inRound l) (n - 1 - 1) P (ownPostK Kp I Ix (pre ++ [x]) W) (a₁ x) W)
    (hdone : ∀ (D : Nat) (xs : List ByteArray) (W : World), w.heap.size ≤ D → S xs → I xs W → W.heap[D]? = some (.deferred (some [])) → Q .normal { a with defers := { target := .collected D, args := #[] } :: a.defers } W)
    (hstop : ∀ (D : Nat) (c : Code) (pre : List ByteArray) (W : World), w.heap.size ≤ D → Sp pre → Ix c pre W → W.heap[D]? = some (.deferred (some [])) → c.wpIn Fence.wide n P Q { a with defers := { target := .collected D, args := #[] } :: a.defers } W) :
    (Code.rangeFunc g ps assign body).wpIn Fence.wide n P Q a w := by
  refine wpIn_rangeFunc fun fn hfn => ?_
  obtain ⟨R, hR⟩ : ∃ R : LoopState → Option Code → Loop, R = fun st pe => { state := st, pending := pe, fn, tmps := a.tmps, params := ps, assign, body, defers := w.heap.size } := ⟨_, rfl⟩
  obtain ⟨V, hV⟩ : ∃ V, V = (w.alloc (.deferred (some []))).alloc (.loop (R .ready none)) := ⟨_, rfl⟩
  have vl : V.heap[w.heap.size + 1]? = some (.loop (R .ready none)) := by
    have := World.alloc_heap_new (w.alloc (.deferred (some []))) (.loop (R .ready none))
    rw [World.size_alloc] at this
    rw [hV]; exact this
  have vd : V.heap[w.heap.size]? = some (.deferred (some [])) := by
    rw [hV]; exact (Below.heap_alloc _ _ _ (by simp)).trans (World.alloc_heap_new w _)
  have vi : I [] V := by rw [hV]; exact hI.alloc _ (hI.alloc _ h0)
  have vb : Below w.heap.size w V := by rw [hV]; exact ((Below.refl _ w).alloc (Nat.le_refl _) _).alloc (by simp) _
  have key := hit (w.heap.size + 1)
    (fun pre W => I pre W ∧ W.heap[w.heap.size + 1]? = some (.loop (R .ready none)) ∧ W.heap[w.heap.size]? = some (.deferred (some [])))
    (fun pre W => ∃ c, Ix c pre W ∧ W.heap[w.heap.size + 1]? = some (.loop (R .done (some c))) ∧ W.heap[w.heap.size]? = some (.deferred (some [])))
    V vb (fun pre W v h => ⟨hIs _ _ _ h.1, (KeepsOthers.setCell W _ v).same _ _ h.2.1 rfl, (KeepsOthers.setCell W _ v).same _ _ h.2.2 rfl⟩)
  refine ⟨w.heap.size + 1, [{ target := .collected w.heap.size, args := #[] }], V, { target := .fn (.func gf) lb, args := #[.func (.yield (w.heap.size + 1)) #[] #[]] }, V, gf, #[.func (.yield (w.heap.size + 1)) #[] #[]] ++ lb, V, ?_, ?_, ?_, ?_, fun _ => h1, ?_⟩
  · rw [hV, hR]; exact run_enterLoop_outer _ _ _ _ _
  · simp only [resolve, hg]; simp [go_sem]
  · intro f' hf'; trivial
  · simp [invoke, go_sem, eg]
  · refine (key ?_ ⟨vi, vl, vd⟩).mono ?_
    · rintro pre x W ⟨hi, hl, hd⟩ hlen hxs
      have hlt := (Array.getElem?_eq_some_iff.1 hl).1
      have hy := run_yield (P := P) (args := #[.string x]) hl (by rw [hR]; exact hps.symm)
      rw [hR] at hy
      refine ⟨fn, _, assign, body, hy, roundIn_of_wpIn hfn (hassign _ x W _ ⟨_, run_beginRound hl (by rw [hR]), ?_⟩)⟩
      obtain ⟨U, hU⟩ : ∃ U, U = W.putObj (w.heap.size + 1) (.loop { R .ready none with state := .busy }) := ⟨_, rfl⟩
      have ul : U.heap[w.heap.size + 1]? = some (.loop { R .ready none with state := .busy }) := by rw [hU]; exact World.putObj_heap_same hlt
      have ud : U.heap[w.heap.size]? = some (.deferred (some [])) := by rw [hU]; exact (World.putObj_heap_other (by omega)).trans hd
      have ub : Kp W U := by rw [hU]; exact hKb _ _ _ _ (by omega) hl rfl rfl
      have ui : I pre U := by rw [hU]; exact hI.putObj _ hi (by omega) hl rfl
      rw [← hU]
      refine wpIn_mono (hbody _ pre x U ui hlen hxs) ?_
      have fin : ∀ (j : Option Code) (T : World), KeepsOthers U T →
          (Instr.endRound (w.heap.size + 1) j).run P T = .ok (.bool j.isNone) (T.putObj (w.heap.size + 1) (.loop (R (if j.isNone then .ready else .done) j))) ∧
          T.heap[w.heap.size + 1]? = some (.loop { R .ready none with state := .busy }) ∧
          (T.putObj (w.heap.size + 1) (.loop (R (if j.isNone then .ready else .done) j))).heap[w.heap.size + 1]? = some (.loop (R (if j.isNone then .ready else .done) j)) ∧
          (T.putObj (w.heap.size + 1) (.loop (R (if j.isNone then .ready else .done) j))).heap[w.heap.size]? = some (.deferred (some [])) := fun j T hT => by
        have tl := hT.same _ _ ul rfl
        have he := run_endRound (P := P) j tl
        rw [hR] at he tl ⊢
        exact ⟨he, tl, World.putObj_heap_same (Array.getElem?_eq_some_iff.1 tl).1, (World.putObj_heap_other (by omega)).trans (hT.same _ _ ud rfl)⟩
      rintro e a3 T hp
      cases e with
      | normal =>
        obtain ⟨k1, k2, k3⟩ := hp
        obtain ⟨e1, e2, e3, e4⟩ := fin none T k1
        exact ⟨_, _, e1, .inl ⟨rfl, ⟨hI.putObj _ k3 (by omega) e2 rfl, e3, e4⟩, hKt (hKt ub k2) (hKb _ _ _ _ (by omega) e2 rfl rfl)⟩⟩
      | ret =>
        obtain ⟨e1, e2, e3, e4⟩ := fin (some .ret) T hp.1
        exact ⟨_, _, e1, .inr ⟨rfl, .ret, (hIx _).putObj _ hp.2 (by omega) e2 rfl, e3, e4⟩⟩
      | exit id =>
        obtain ⟨e1, e2, e3, e4⟩ := fin (some (.exit id)) T hp.1
        exact ⟨_, _, e1, .inr ⟨rfl, .exit id, (hIx _).putObj _ hp.2 (by omega) e2 rfl, e3, e4⟩⟩
      | goto t =>
        obtain ⟨e1, e2, e3, e4⟩ := fin (some (.goto t)) T hp.1
        exact ⟨_, _, e1, .inr ⟨rfl, .goto t, (hIx _).putObj _ hp.2 (by omega) e2 rfl, e3, e4⟩⟩
      | panic ch => exact hp.elim
      | outgrown => exact hp.elim
    · rintro e T ⟨⟨v, rfl⟩, (⟨xs, hS, hi, hl, hd⟩ | ⟨pre, hSp, c, hi, hl, hd⟩)⟩
      · have he := run_endLoop (P := P) hl (by rw [hR]; simp)
        rw [hR] at he
        exact ⟨none, _, he, hdone _ xs _ (Nat.le_refl _) hS (hI.putObj _ hi (by omega) hl rfl) ((World.putObj_heap_other (by omega)).trans hd)⟩
      · have he := run_endLoop (P := P) hl (by rw [hR]; simp)
        rw [hR] at he
        exact ⟨some c, _, he, hstop _ c pre _ (Nat.le_refl _) hSp ((hIx c).putObj _ hi (by omega) hl rfl) ((World.putObj_heap_other (by omega)).trans hd)⟩
end Go.Proofs
