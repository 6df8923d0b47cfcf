/-
  A queue: a part of a row whose beginning moves on; one more element behind it; its first element; the others. No program's text here.
-/
import Derived.Test.YtfdiiichjopncaaDoorBfA
import Derived.Test.YtfdiiichjopncaaDoorPlCp
namespace Go.Proofs
open Go.RowKit
set_option linter.unusedVariables false
set_option linter.unusedSimpArgs false
section
variable {P : Program} (w : World)
theorem run_append_room_at (t ty e : TypeId) (i : TypeInfo) (ht : P.underlying t = some (.slice e)) (hi : P.info? e = some i)
    (g o sLen sCap : Nat) (cur : Array Value) (hg : w.heap[g]? = some (.cells cur e (0, 0)))
    (a : Addr) (m c : Nat) (news : List Value) (hl : news.length = m * i.size) (hnews : ∀ j u, news[j]? = some u → w.cell? (a.add j) = some u) (h1 : ∀ u ∈ news, u.oneCell' = true)
    (hroom : sLen + m ≤ sCap) (hfit : o + sLen * i.size + news.length ≤ cur.size) :
    (Builtin.append_ #[t, t] ty #[.slice (some ⟨g, o, none⟩) sLen sCap, .slice (some a) m c]).run P w =
      .ok (.slice (some ⟨g, o, none⟩) (sLen + m) sCap) (w.setRow g (over cur.toList (o + sLen * i.size) news).toArray) := by
  have hf := run_firstCells_some (P := P) w i.size m a m c news hl hnews
  have hst := run_storeCells_at P g (o + sLen * i.size) e news 0 cur w hg (by simpa using hfit) h1
  simp only [Nat.add_zero] at hst
  simp [Builtin.append_, run_underlying ht, sizeOf, typeInfo, hi, Builtin.lenOf, hroom, hf, Addr.add_lit, hst, over]
end
section
variable {α : Type} {T : TypeId} {k bytes : Nat} {enc : α → List Value} {P : Program} {W : World} {B : Nat} {v : Value} {qs : List α} {Z : Value}
/-- one more element behind a queue that has some -/
theorem run_appQ (hk : ∀ x, (enc x).length = k) (h1 : ∀ x, ∀ u ∈ enc x, u.oneCell' = true) (t ty : TypeId) (ht : P.underlying t = some (.slice T))
    (hinfo : (P.info? T).map (fun i => (i.zero, i.size, i.bytes)) = some (some Z, k, bytes)) (hZ : Z.cells.size = k) (h0 : 0 < k) (hby : bytes ≤ 64) (h : QOwn T k enc W B v qs) (hne : 0 < qs.length) (hl : qs.length ≤ 1000000)
    (ad : Addr) (y : α) (hq : ∀ j u, (enc y)[j]? = some u → W.cell? (ad.add j) = some u) (hB : B ≤ W.heap.size) :
    ∃ v' w', (Builtin.append_ #[t, t] ty #[v, .slice (some ad) 1 1]).run P W = .ok v' w' ∧ QOwn T k enc w' B v' (qs ++ [y]) ∧ W.grownBy w' v.ownBlock ∧ Below B W w' ∧ ∀ g', v'.ownBlock = some g' → v.ownBlock = some g' ∨ W.heap.size ≤ g' := by
  obtain ⟨i0, hi, hz0, hz1, hz2⟩ := info_parts hinfo
  rcases h with ⟨rfl, _⟩ | ⟨_, g, o, c, cur, rfl, hg0, hg, hc, hm, hs, hh⟩
  · simp at hne
  have hlq : (ecs enc qs).length = qs.length * k := ecs_len hk qs
  have hly : (enc y).length = k := hk y
  have hgl : g < W.heap.size := (Array.getElem?_eq_some_iff.1 hg).1
  have ecy : ecs enc (qs ++ [y]) = ecs enc qs ++ enc y := by rw [ecs_append]; simp [ecs]
  by_cases hroom : qs.length + 1 ≤ c
  · have hck : (qs.length + 1) * k ≤ c * k := Nat.mul_le_mul_right k hroom
    rw [Nat.add_mul, Nat.one_mul] at hck
    have hfit : o + qs.length * i0.size + (enc y).length ≤ cur.size := by rw [hz1, hly]; omega
    have hr := run_append_room_at (P := P) W t ty T i0 ht hi g o qs.length c cur hg ad 1 1 (enc y) (by rw [hly, hz1]; simp) hq (h1 y) hroom hfit
    have hg2 : W.grownBy (W.setRow g (over cur.toList (o + qs.length * i0.size) (enc y)).toArray) (some g) := ⟨rfl, rfl, rfl, by simp, fun j _ hj => setRow_other W g j _ (fun e => hj (by rw [e]))⟩
    refine ⟨_, _, hr, .inr ⟨by simp, g, o, c, _, by simp, hg0, setRow_heap W g cur _ T _ hg, by simpa using hroom, hm, ?_, fun j u hj => ?_⟩, hg2, Below.grown (Below.refl _ _) hg2 hB (fun j hj => by cases hj; exact hg0), fun g' hg' => .inl hg'⟩
    · simp only [List.size_toArray]
      rw [over_len _ _ _ (by simpa using hfit)]
      simpa using hs
    · rw [ecy] at hj
      simp only [List.getElem?_toArray]
      by_cases hjl : j < qs.length * k
      · rw [List.getElem?_append_left (by omega)] at hj
        rw [over_get_lo _ _ _ _ (by simpa using hfit) (by rw [hz1]; omega)]
        simpa using hh j u hj
      · rw [List.getElem?_append_right (by omega), hlq] at hj
        have hj2 : j - qs.length * k < (enc y).length := (List.getElem?_eq_some_iff.1 hj).1
        have e : o + j = (o + qs.length * i0.size) + (j - qs.length * k) := by rw [hz1]; omega
        rw [e, over_get_in _ _ _ _ (by simpa using hfit) hj2]
        exact hj
  · have holds : ∀ j u, (ecs enc qs)[j]? = some u → W.cell? ((⟨g, o, none⟩ : Addr).add j) = some u := fun j u hj => by
      rw [Addr.add_lit, cell_of_row W g (o + j) cur T (0, 0) hg]
      exact hh j u hj
    have hb : (qs.length + 1) * i0.bytes ≤ 140737488355328 := Nat.le_trans (Nat.mul_le_mul (show qs.length + 1 ≤ 2000000 by omega) (by rw [hz2]; exact hby)) (by decide)
    have hr := run_append_grow (P := P) W t ty T i0 Z ht hi hz0 ⟨g, o, none⟩ qs.length c (ecs enc qs) (by rw [hlq, hz1]) holds ad 1 1 (enc y) (by rw [hly, hz1]; simp) hq (by omega) (by omega) (growslice_fits (by omega) hb)
    have hge := grownCap_ge W (qs.length + 1) c T
    have hcm := grownCap_le_maxLen W (qs.length + 1) c T (by unfold maxLen; omega)
    generalize grownCap W (qs.length + 1) c T = G at *
    have hg2 : ∀ row, W.grownBy (W.drew.alloc (.cells ((ecs enc qs).toArray ++ (enc y).toArray ++ Builtin.zeroCells Z.cells (G - (qs.length + 1))) T)) row := fun row => ⟨rfl, rfl, rfl, by simp, fun j hj _ => heap_alloc_old W.drew _ hj⟩
    refine ⟨_, _, hr, .inr ⟨by simp, W.heap.size, 0, G, _, by simp, hB, heap_alloc_new W.drew _, by simpa using hge, hcm, ?_, fun j u hj => ?_⟩, hg2 _, Below.grown (Below.refl _ _) (hg2 none) hB (fun j hj => by cases hj), fun g' hg' => .inr (by simp only [Value.ownBlock, Option.some.injEq] at hg'; omega)⟩
    · simp only [Array.size_append, List.size_toArray, size_zeroCells, hZ, hlq, hly]
      have e : G = (qs.length + 1) + (G - (qs.length + 1)) := by omega
      have e2 : G * k = (qs.length + 1) * k + (G - (qs.length + 1)) * k := by rw [← Nat.add_mul, ← e]
      rw [Nat.add_mul, Nat.one_mul] at e2
      omega
    · rw [ecy] at hj
      have hjl := (List.getElem?_eq_some_iff.1 hj).1
      rw [Nat.zero_add, Array.getElem?_append_left (by simpa using hjl)]
      simpa using hj
theorem wpList_appQ {o : Oper} {ops : Array Oper} {rest : List Oper} {a : Act} {Q : Exit → Act → World → Prop} (hgd : o.guard = none) (hk : ∀ x, (enc x).length = k) (h1 : ∀ x, ∀ u ∈ enc x, u.oneCell' = true) (s x : Operand) (t : TypeId)
    (ho : o.op = .call { callee := .builtin .append, args := #[s, x], argTypes := #[t, t] }) (ht : P.underlying t = some (.slice T))
    (hinfo : (P.info? T).map (fun i => (i.zero, i.size, i.bytes)) = some (some Z, k, bytes)) (hZ : Z.cells.size = k) (h0 : 0 < k) (hby : bytes ≤ 64) (hs : a.eval s = v) (h : QOwn T k enc W B v qs) (hne : 0 < qs.length) (hl : qs.length ≤ 1000000)
    (ad : Addr) (y : α) (hx : a.eval x = .slice (some ad) 1 1) (hq : ∀ j u, (enc y)[j]? = some u → W.cell? (ad.add j) = some u) (hB : B ≤ W.heap.size)
    (kk : ∀ v' w', QOwn T k enc w' B v' (qs ++ [y]) → W.grownBy w' v.ownBlock → Below B W w' → (∀ g', v'.ownBlock = some g' → v.ownBlock = some g' ∨ W.heap.size ≤ g') → wpList P ops Q rest (a.put o.dst v') w') : wpList P ops Q (o :: rest) a W := by
  obtain ⟨v', w', hr, h2, h3, h4, h5⟩ := run_appQ (P := P) hk h1 t o.type ht hinfo hZ h0 hby h hne hl ad y hq hB
  refine wpList_plain hgd fun K hK => ?_
  unfold Oper.wp execOp
  simp only [ho, resolve, invoke, builtin, Sem.run_bind, Sem.run_pure, Result.andThen_ok, List.map_toArray, List.map_cons, List.map_nil, hs, hx, hr]
  exact hK _ _ (kk v' w' h2 h3 h4 h5)
/-- the first element, and what is left without it -/
theorem QOwn.uncons (hk : ∀ x, (enc x).length = k) {y : α} (h : QOwn T k enc W B v (y :: qs)) : ∃ g o c, v = .slice (some ⟨g, o, none⟩) (qs.length + 1) c ∧ B ≤ g ∧ g < W.heap.size ∧ qs.length + 1 ≤ c ∧ c ≤ maxLen ∧
    (∀ j u, (enc y)[j]? = some u → W.cell? ⟨g, o + j, none⟩ = some u) ∧ (∀ A, (c ≠ 1 → A = some ⟨g, o + k, none⟩) → QOwn T k enc W B (.slice A qs.length (c - 1)) qs) := by
  rcases h with ⟨h, _⟩ | ⟨_, g, o, c, cur, rfl, hg0, hg, hc, hm, hs, hh⟩
  · cases h
  have hy := hk y
  refine ⟨g, o, c, by simp, hg0, (Array.getElem?_eq_some_iff.1 hg).1, by simpa using hc, hm, fun j u hj => ?_, fun A hA => ?_⟩
  · rw [cell_of_row W g (o + j) cur T (0, 0) hg]
    exact hh j u (by simp only [ecs]; rw [List.getElem?_append_left (List.getElem?_eq_some_iff.1 hj).1]; exact hj)
  · cases qs with
    | nil => exact .inl ⟨rfl, A, c - 1, rfl⟩
    | cons z zs =>
      simp only [List.length_cons] at hc ⊢
      rw [hA (by omega)]
      have e : c * k = (c - 1) * k + k := by rw [← Nat.succ_mul]; congr 1; omega
      refine .inr ⟨by simp, g, o + k, c - 1, cur, by simp, hg0, hg, by simp only [List.length_cons]; omega, by omega, by omega, fun j u hj => ?_⟩
      rw [Nat.add_assoc]
      refine hh (k + j) u ?_
      rw [show ecs enc (y :: z :: zs) = enc y ++ ecs enc (z :: zs) from rfl, List.getElem?_append_right (by omega), hy, Nat.add_sub_cancel_left]
      exact hj
/-- a queue of one element, in a block of its own -/
theorem QOwn.one (hk : ∀ x, (enc x).length = k) {b : Nat} {y : α} (hb : W.heap[b]? = some (.cells (enc y).toArray T (0, 0))) (hB : B ≤ b) : QOwn T k enc W B (.slice (some ⟨b, 0, none⟩) 1 1) [y] :=
  .inr ⟨by simp, b, 0, 1, _, rfl, hB, hb, by simp, by decide, by simp [hk], fun j u hj => by simpa [ecs] using hj⟩
end
end Go.Proofs
