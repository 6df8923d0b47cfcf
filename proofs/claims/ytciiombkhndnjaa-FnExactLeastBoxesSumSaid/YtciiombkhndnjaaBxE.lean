/-
  Contracts of chapter 5, the program: lists of choices, words; one more choice is appended; an empty part of the street.
-/
import Derived.Test.YtciiombkhndnjaaBxC
import Derived.Test.YtciiombkhndnjaaBxD
import Derived.Test.YtciiombkhndnjaaEls
namespace Go.Proofs
open Go.RowKit
set_option linter.unusedVariables false
set_option linter.unusedSimpArgs false
def ecv (p : Value × Int) : List Value := [p.1, .int .i64 p.2]
theorem ecv_len (p : Value × Int) : (ecv p).length = 2 := rfl
/-- v is a row of m choices, the j-th has the boxes Bf j and the steps Sf j -/
def OwnC (w : World) (B : Nat) (v : Value) (m : Nat) (Bf : Nat → List Int) (Sf : Nat → Int) : Prop :=
  ∃ cs : List (Value × Int), cs.length = m ∧ w.ownsRow B 78 2 v m (ecs ecv cs) ∧ ∀ j p, cs[j]? = some p → OwnI w B p.1 (Bf j) ∧ p.2 = Sf j
theorem OwnC.nil (w : World) (B : Nat) (Bf : Nat → List Int) (Sf : Nat → Int) : OwnC w B (.slice none 0 0) 0 Bf Sf := ⟨[], rfl, World.ownsRow_nil w B _ 2, fun k u h => by simp at h⟩
theorem OwnC.below {w w' : World} {B C m : Nat} {v : Value} {Bf : Nat → List Int} {Sf : Nat → Int} (h : OwnC w B v m Bf Sf) (hb : Below C w w') (hC : w.heap.size ≤ C) : OwnC w' B v m Bf Sf := by
  obtain ⟨cs, h1, h3, h4⟩ := h
  refine ⟨cs, h1, ⟨h3.1, ?_⟩, fun k u hk => ⟨(h4 k u hk).1.below hb hC, (h4 k u hk).2⟩⟩
  rcases h3.2 with hn | ⟨g, cap, cur, rfl, hb', hg, r⟩
  · exact .inl hn
  · exact .inr ⟨g, cap, cur, rfl, hb', by rw [hb.block g (by have := (Array.getElem?_eq_some_iff.1 hg).1; omega)]; exact hg, r⟩
theorem OwnC.gr {w w' : World} {B m : Nat} {v : Value} {Bf : Nat → List Int} {Sf : Nat → Int} (h : OwnC w B v m Bf Sf) (g : Gr w w') : OwnC w' B v m Bf Sf := h.below g.below (Nat.le_refl _)
theorem OwnC.mono {w : World} {B C m : Nat} {v : Value} {Bf : Nat → List Int} {Sf : Nat → Int} (h : OwnC w B v m Bf Sf) (hC : C ≤ B) : OwnC w C v m Bf Sf := by
  obtain ⟨cs, h1, h3, h4⟩ := h
  refine ⟨cs, h1, ⟨h3.1, ?_⟩, fun k u hk => ⟨(h4 k u hk).1.mono hC, (h4 k u hk).2⟩⟩
  rcases h3.2 with hn | ⟨g, cap, cur, rfl, hb', r⟩
  · exact .inl hn
  · exact .inr ⟨g, cap, cur, rfl, by omega, r⟩
theorem OwnC.form {w : World} {B m : Nat} {v : Value} {Bf : Nat → List Int} {Sf : Nat → Int} (h : OwnC w B v m Bf Sf) (hm : 0 < m) :
    ∃ g c, v = .slice (some ⟨g, 0, none⟩) m c ∧ ∀ j, j < m → ∃ u, w.cell? ⟨g, j * 2, none⟩ = some u ∧ w.cell? ⟨g, j * 2 + 1, none⟩ = some (.int .i64 (Sf j)) ∧ OwnI w B u (Bf j) := by
  obtain ⟨cs, h1, h3, h4⟩ := h
  have h30 := h3
  rcases h3.2 with ⟨_, hn⟩ | ⟨g, cap, cur, rfl, hb, hg, hc, hm', hs, ht⟩
  · omega
  · refine ⟨g, cap, rfl, fun j hj => ⟨cs[j].1, ?_, ?_, (h4 j cs[j] (by simp)).1⟩⟩
    · rw [World.ownsRow.cellAt h30 (j * 2) (by omega)]
      have := ecs_get ecv_len (.nilFunc, 0) cs j 0 (by omega) (by decide)
      rw [Nat.add_zero] at this
      rw [this]
      simp [ecv, List.getD, show j < cs.length by omega]
    · rw [World.ownsRow.cellAt h30 (j * 2 + 1) (by omega)]
      have := ecs_get ecv_len (.nilFunc, 0) cs j 1 (by omega) (by decide)
      rw [this, ← (h4 j cs[j] (by simp)).2]
      simp [ecv, List.getD, show j < cs.length by omega]
theorem OwnC.lt {w : World} {B m : Nat} {v : Value} {Bf : Nat → List Int} {Sf : Nat → Int} (h : OwnC w B v m Bf Sf) : ∀ g, v.ownBlock = some g → g < w.heap.size := fun g hg => by
  obtain ⟨vs, h1, h3, h4⟩ := h
  exact (World.ownsRow.lt h3 g hg).2
theorem OwnC.slice {w : World} {B m : Nat} {v : Value} {Bf : Nat → List Int} {Sf : Nat → Int} (h : OwnC w B v m Bf Sf) : ∃ A c, v = .slice A m c ∧ OwnC w B (.slice A m c) m Bf Sf := by
  have h0 := h
  obtain ⟨vs, h1, h3, h4⟩ := h
  rcases h3.2 with ⟨rfl, hn⟩ | ⟨g, cap, cur, rfl, _⟩
  · subst hn; exact ⟨none, 0, rfl, h0⟩
  · exact ⟨_, _, rfl, h0⟩
theorem rowc_ne {w : World} {B B' n : Nat} {v u : Value} {xs : List Int} {cs : List Value} (h : OwnI w B u xs) (h' : w.ownsRow B' 78 2 v n cs) : u.ownBlock = none ∨ u.ownBlock ≠ v.ownBlock := by
  rcases h.2 with ⟨rfl, _⟩ | ⟨g2, cap2, cur2, rfl, _, hg2, _⟩
  · exact .inl rfl
  · refine .inr ?_
    rcases h'.2 with ⟨rfl, _⟩ | ⟨g, cap, cur, rfl, _, hg, _⟩
    · simp [Value.ownBlock]
    · intro e
      have e' : g2 = g := by simpa [Value.ownBlock] using e
      subst e'
      rw [hg] at hg2
      simp only [Option.some.injEq, Obj.cells.injEq] at hg2
      exact absurd hg2.2.1 (by decide)
section
variable {P : Program} {o : Oper} {a : Act} {Q : Exit → Act → World → Prop} {W : World}
theorem wp_app1C {K : Act → World → Prop} (s x : Operand) (t : TypeId)
    (ho : o.op = .call { callee := .builtin .append, args := #[s, x], argTypes := #[t, t] }) (ht : P.underlying t = some (.slice 78))
    (hinfo : (P.info? 78).map (fun i => (i.zero, i.size, i.bytes)) = some (some (.agg #[.slice none 0 0, .int .i64 0]), 2, 32)) (B : Nat) (v : Value) (m : Nat) (Bf : Nat → List Int) (Sf : Nat → Int) (hs : a.eval s = v) (h : OwnC W B v m Bf Sf)
    (u : Value) (hu : OwnI W B u (Bf m)) (b : Nat) (hbs : W.heap.size = b) (hx : a.eval x = .slice (some ⟨b, 0, none⟩) 1 1) (hl : m ≤ 1000000) (hB : B ≤ W.heap.size)
    (k : ∀ v' w', OwnC w' B v' (m + 1) Bf Sf → Below B W w' → W.grownBy w' v.ownBlock → K (a.put o.dst v') w') :
    Oper.wp P o a (W.alloc (.cells #[u, .int .i64 (Sf m)] 78)) K Q := by
  obtain ⟨i0, hi, hz0, hz1, hz2⟩ := info_parts hinfo
  obtain ⟨vs, h1, h3, h4⟩ := h
  have hone : u.oneCell' = true := by
    rcases hu.2 with ⟨rfl, _⟩ | ⟨g, cap, cur, rfl, _⟩ <;> rfl
  refine wp_append_own _ s x t ho B 78 i0 _ 2 32 ht hi hz0 hz1 hz2 rfl (by decide) v m (ecs ecv vs) hs (World.ownsRow.alloc h3 _) ⟨b, 0, none⟩ 1 1 [u, .int .i64 (Sf m)] hx rfl
    (fun j z hz => by subst hbs; exact alloc_cells (by simpa using hz)) (fun z hz => by simp at hz; rcases hz with rfl | rfl; exact hone; rfl) (by unfold maxLen; omega) (by omega) (by simp; omega) fun v' w' ho' hg _ => ?_
  have g2 : W.grownBy w' v.ownBlock := by
    have g1 := World.grownBy_alloc W (.cells #[u, .int .i64 (Sf m)] 78) v.ownBlock
    exact ⟨hg.os.trans g1.os, hg.tape.trans g1.tape, hg.output.trans g1.output, Nat.le_trans g1.size hg.size, fun j hj hne => (hg.block j (Nat.lt_of_lt_of_le hj g1.size) hne).trans (g1.block j hj hne)⟩
  refine k v' w' ⟨vs ++ [(u, Sf m)], by simp [h1], by rw [ecs_append]; simpa [ecs, ecv] using ho', fun j z hz => ?_⟩ (Below.grown (Below.refl _ _) g2 hB fun j hj => (World.ownsRow.lt h3 j hj).1) g2
  rcases Nat.lt_or_ge j vs.length with c | c
  · rw [List.getElem?_append_left c] at hz
    exact ⟨(h4 j z hz).1.grown g2 (rowc_ne (h4 j z hz).1 h3), (h4 j z hz).2⟩
  · rw [List.getElem?_append_right c] at hz
    have ej : j = m := by
      rcases Nat.lt_or_ge (j - vs.length) 1 with q | q
      · omega
      · rw [List.getElem?_eq_none (by simp; omega)] at hz; cases hz
    subst ej
    rw [h1, Nat.sub_self] at hz
    simp only [List.getElem?_cons_zero, Option.some.injEq] at hz
    subst hz
    exact ⟨hu.grown g2 (rowc_ne hu h3), rfl⟩
theorem step_app1C {ops : Array Oper} {K : Act → World → Prop} {E : Prop} (hgd : o.guard = none) (s x : Operand) (t : TypeId)
    (ho : o.op = .call { callee := .builtin .append, args := #[s, x], argTypes := #[t, t] }) (ht : P.underlying t = some (.slice 78))
    (hinfo : (P.info? 78).map (fun i => (i.zero, i.size, i.bytes)) = some (some (.agg #[.slice none 0 0, .int .i64 0]), 2, 32)) (B : Nat) (v : Value) (m : Nat) (Bf : Nat → List Int) (Sf : Nat → Int) (hs : a.eval s = v) (h : OwnC W B v m Bf Sf)
    (u : Value) (hu : OwnI W B u (Bf m)) (b : Nat) (hbs : W.heap.size = b) (hx : a.eval x = .slice (some ⟨b, 0, none⟩) 1 1) (hl : m ≤ 1000000) (hB : B ≤ W.heap.size)
    (k : ∀ v' w', OwnC w' B v' (m + 1) Bf Sf → Below B W w' → W.grownBy w' v.ownBlock → K (a.put o.dst v') w') :
    if Region.wanted o (yielded ops a.tmps) = true then Oper.wp P o a (W.alloc (.cells #[u, .int .i64 (Sf m)] 78)) K Q else E := by
  rw [if_pos (show Region.wanted o (yielded ops a.tmps) = true by simp [Region.wanted, hgd])]
  exact wp_app1C s x t ho ht hinfo B v m Bf Sf hs h u hu b hbs hx hl hB k
theorem wpList_app1C {ops : Array Oper} {rest : List Oper} (hgd : o.guard = none) (s x : Operand) (t : TypeId)
    (ho : o.op = .call { callee := .builtin .append, args := #[s, x], argTypes := #[t, t] }) (ht : P.underlying t = some (.slice 78))
    (hinfo : (P.info? 78).map (fun i => (i.zero, i.size, i.bytes)) = some (some (.agg #[.slice none 0 0, .int .i64 0]), 2, 32)) (B : Nat) (v : Value) (m : Nat) (Bf : Nat → List Int) (Sf : Nat → Int) (hs : a.eval s = v) (h : OwnC W B v m Bf Sf)
    (u : Value) (hu : OwnI W B u (Bf m)) (b : Nat) (hbs : W.heap.size = b) (hx : a.eval x = .slice (some ⟨b, 0, none⟩) 1 1) (hl : m ≤ 1000000) (hB : B ≤ W.heap.size)
    (k : ∀ v' w', OwnC w' B v' (m + 1) Bf Sf → Below B W w' → W.grownBy w' v.ownBlock → wpList P ops Q rest (a.put o.dst v') w') :
    wpList P ops Q (o :: rest) a (W.alloc (.cells #[u, .int .i64 (Sf m)] 78)) :=
  wpList_plain hgd fun _ hK => wp_app1C s x t ho ht hinfo B v m Bf Sf hs h u hu b hbs hx hl hB fun v' w' h1 h2 h3 => hK _ _ (k v' w' h1 h2 h3)
end
theorem Try.infoCh : (Try.prog.info? 78).map (fun i => (i.zero, i.size, i.bytes)) = some (some (.agg #[.slice none 0 0, .int .i64 0]), 2, 32) := by kernel_rfl
set_option maxHeartbeats 800000 in
theorem Try.sumsIn0 (w : World) (v : Value) (xs : List Int) (hp : PplRow w v xs) (hl : xs.length ≤ 60) :
    Calls Try.prog 71 #[v, .int .i64 (-120), .int .i64 0] w fun e w' => ∃ bp bf vp, e = .returned (.func (.func 86) #[] #[.pointer (some ⟨bp, 0, none⟩), .pointer (some ⟨bf, 0, none⟩)]) ∧ Gr w w' ∧ PartRow w' vp xs 0 0 ∧
      w'.cell? ⟨bp, 0, none⟩ = some vp ∧ w'.cell? ⟨bf, 0, none⟩ = some (.int .i64 ((0 : Nat) : Int)) := by
  obtain ⟨g, c, rfl, hpos, hc1, hc2, hc⟩ := hp
  have h1 : max (-120 : Int) 0 = 0 := rfl
  have h2 : min (0 : Int) (xs.length : Int) = 0 := by omega
  have z : (0 : Int) ≤ (c : Int) := by omega
  have z2 : (0 : Int) ≤ (xs.length : Int) := by omega
  have z3 : ¬ c = 0 := by omega
  have z4 : ¬ xs.length = 0 := by omega
  clear hc
  have hmf : ∀ (fn : Fn) (first cap : Array Value) (w : World), (Instr.makeFunc fn first cap).run Try.prog w = .ok (.func fn first cap) w := fun _ _ _ _ => rfl
  go_enter Try.func71, Try.ntmps71
  go_wp2
  go_ret
  refine ⟨w.heap.size + 1, w.heap.size, .slice (some ⟨g, 0, none⟩) 0 0, rfl, by repeat (first | exact Gr.refl _ | refine Gr.alloc ?_ _ | refine Gr.trans ?_ (by assumption) | refine Gr.drew ?_ | refine Gr.drewN ?_ _ | refine Gr.grow ?_ _ | refine Gr.setCell ?_ (by (try simp); (try omega)) _), ⟨g, 0, rfl, by omega, fun j hj => absurd hj (Nat.not_lt_zero _)⟩, ?_, ?_⟩
  · simp [go_sem]
  · simp [go_sem]
end Go.Proofs
