/-
  Chapter 7, plain mathematics: in how many ways houses can be painted at no cost. No program here.
-/
import Derived.Test.YtjhpebihflcanaaRlX
namespace Go.Proofs.Rl
set_option linter.unusedVariables false
set_option linter.unusedSimpArgs false
def cnO : Option Le → Nat
  | none => 0
  | some l => l.count
/-- where nothing costs anything, all count -/
theorem agg_free {u : List (Int × List Int)} (h : ∀ w ∈ u, w.1 = 0) : cnO (agg u) = u.length := by
  cases e : agg u with
  | none => rw [agg_none.1 e]; rfl
  | some l =>
    obtain ⟨_, h2, h3, _⟩ := agg_is e
    have h0 : l.cost = 0 := h _ h3
    show l.count = _
    rw [h2, h0]
    rw [List.countP_eq_length.2 fun w hw => by simp [h w hw]]
def zro (m k : Nat) : List (List Int) := List.replicate m (List.replicate k 0)
theorem paRow_zero (k : Nat) : ∀ o ∈ paRow (List.replicate k 0) 0, o.cost = 0 := by
  intro o ho
  obtain ⟨h1, h2, h3, h4⟩ := paRow_mem _ 0 o ho
  rw [h4]
  simp only [List.getD, List.getElem?_replicate]
  split <;> rfl
theorem paRow_sts : ∀ (k : Nat) (i : Int), (paRow (List.replicate k 0) i).map Op.st = (List.range k).map fun (n : Nat) => i + (n : Int)
  | 0, i => rfl
  | k + 1, i => by
    rw [List.replicate_succ, paRow, List.map_cons, paRow_sts k (i + 1), List.range_succ_eq_map, List.map_cons, List.map_map]
    simp only [List.cons.injEq]
    refine ⟨by simp, List.map_congr_left fun n _ => ?_⟩
    simp only [Function.comp]
    omega
theorem zro_succ (m k : Nat) : ways paF (paO (zro (m + 2) k)) = lead paF (paRow (List.replicate k 0) 0) (ways paF (paO (zro (m + 1) k))) := rfl
theorem zro_ok (k : Nat) : ∀ (m : Nat), ∀ w ∈ ways paF (paO (zro (m + 1) k)), w.c = 0 ∧ w.f ∈ cols k ∧ w.l ∈ cols k
  | 0, w, h => by
    have e : ways paF (paO (zro (0 + 1) k)) = (paRow (List.replicate k 0) 0).map Op.wy := rfl
    rw [e] at h
    obtain ⟨o, ho, rfl⟩ := List.mem_map.1 h
    obtain ⟨h1, h2, _⟩ := paRow_mem _ 0 o ho
    have hc := paRow_zero k o ho
    have hm : o.st ∈ cols k := mem_cols.2 ⟨h1, by rw [List.length_replicate] at h2; omega⟩
    exact ⟨hc, hm, hm⟩
  | m + 1, w, h => by
    rw [zro_succ] at h
    unfold lead at h
    obtain ⟨o, ho, hx⟩ := List.mem_flatMap.1 h
    obtain ⟨x, hx2, rfl⟩ := List.mem_map.1 hx
    obtain ⟨q1, q2, q3⟩ := zro_ok k m x (List.mem_filter.1 hx2).1
    obtain ⟨h1, h2, _⟩ := paRow_mem _ 0 o ho
    have hc := paRow_zero k o ho
    have hm : o.st ∈ cols k := mem_cols.2 ⟨h1, by rw [List.length_replicate] at h2; omega⟩
    exact ⟨by simp only [Op.on]; omega, hm, q3⟩
theorem sum_add (q : Wy → Bool) (g : Wy → Nat) : ∀ (W : List Wy), (W.map fun w => (if q w then 1 else 0) + g w).sum = W.countP q + (W.map g).sum
  | [] => rfl
  | w :: W => by
    rw [List.map_cons, List.sum_cons, sum_add q g W, List.map_cons, List.sum_cons, List.countP_cons]
    omega
theorem lead_count (g : Int → Int → Bool) (W : List Wy) : ∀ (os : List Op), (lead paF os W).countP (fun w => g w.f w.l) = (W.map fun w => os.countP fun o => paF o.st w.f && g o.st w.l).sum
  | [] => by
    have : ∀ (W : List Wy), (W.map fun w => ([] : List Op).countP fun o => paF o.st w.f && g o.st w.l).sum = 0 := fun W => by
      induction W with
      | nil => rfl
      | cons w W ih => rw [List.map_cons, List.sum_cons, ih]; rfl
    rw [this]
    rfl
  | o :: os => by
    have e : lead paF (o :: os) W = (W.filter fun w => paF o.st w.f).map o.on ++ lead paF os W := rfl
    rw [e, List.countP_append, lead_count g W os, List.countP_map, List.countP_filter]
    have e2 : (fun w : Wy => (o :: os).countP fun o => paF o.st w.f && g o.st w.l) = fun w => (if (paF o.st w.f && g o.st w.l) then 1 else 0) + os.countP fun o => paF o.st w.f && g o.st w.l := by
      funext w
      rw [List.countP_cons]
      omega
    rw [e2, sum_add]
    congr 1
    refine List.countP_congr fun w _ => ?_
    simp only [Function.comp, Op.on, Bool.and_eq_true]
    exact And.comm
theorem cols_len (k : Nat) : (cols k).length = k := by simp [cols]
theorem paRow_cols (k : Nat) (q : Int → Bool) : (paRow (List.replicate k 0) 0).countP (fun o => q o.st) = (cols k).countP q := by
  have h := paRow_sts k 0
  have e : (List.range k).map (fun (n : Nat) => 0 + (n : Int)) = cols k := by unfold cols; exact List.map_congr_left fun n _ => by omega
  rw [e] at h
  rw [← h, List.countP_map]
  rfl
theorem nd_one {L : List Int} (hn : L.Nodup) {x : Int} (hx : x ∈ L) : L.countP (fun d => d != x) + 1 = L.length := by
  have h := List.length_eq_countP_add_countP (l := L) (fun d => d != x)
  have h1 : L.countP (fun d => decide ¬((d != x) = true)) = L.count x := by
    unfold List.count
    refine List.countP_congr fun d _ => ?_
    simp
  rw [h1, List.Nodup.count hn, if_pos hx] at h
  omega
theorem nd_two {L : List Int} (hn : L.Nodup) {x y : Int} (hx : x ∈ L) (hy : y ∈ L) (hxy : x ≠ y) : L.countP (fun d => d != x && d != y) + 2 = L.length := by
  have h := nd_one hn hx
  have hn' : (L.filter fun d => d != x).Nodup := hn.filter _
  have hy' : y ∈ L.filter fun d => d != x := List.mem_filter.2 ⟨hy, by simp; exact fun e => hxy e.symm⟩
  have h2 := nd_one hn' hy'
  rw [List.countP_filter, ← List.countP_eq_length_filter] at h2
  have e : L.countP (fun d => d != y && d != x) = L.countP (fun d => d != x && d != y) := List.countP_congr fun d _ => by simp [And.comm]
  rw [e] at h2
  omega
theorem nd_at {L : List Int} (hn : L.Nodup) {x y : Int} (hy : y ∈ L) : L.countP (fun d => d != x && d == y) = if x = y then 0 else 1 := by
  by_cases e : x = y
  · rw [if_pos e]
    refine List.countP_eq_zero.2 fun d _ => ?_
    simp
    intro h1 h2
    exact h1 (by omega)
  · rw [if_neg e]
    have : L.countP (fun d => d != x && d == y) = L.count y := by
      unfold List.count
      refine List.countP_congr fun d _ => ?_
      simp
      intro h1; omega
    rw [this, List.Nodup.count hn, if_pos hy]
def cA (W : List Wy) : Nat := W.countP fun w => w.f == w.l
def cB (W : List Wy) : Nat := W.countP fun w => w.f != w.l
theorem step_A (k : Nat) (W : List Wy) (h : ∀ w ∈ W, w.l ∈ cols k) : cA (lead paF (paRow (List.replicate k 0) 0) W) = cB W := by
  unfold cA cB
  rw [lead_count (fun a b => a == b)]
  induction W with
  | nil => rfl
  | cons w W ih =>
    rw [List.map_cons, List.sum_cons, ih (fun x hx => h x (List.mem_cons_of_mem _ hx)), List.countP_cons]
    have := paRow_cols k (fun d => paF d w.f && d == w.l)
    rw [this]
    have h2 := nd_at (cols_nodup k) (x := w.f) (h w (List.mem_cons_self ..))
    unfold paF
    rw [h2]
    by_cases e : w.f = w.l
    · simp [e]
    · simp [e]; omega
theorem step_B (k : Nat) (W : List Wy) (h : ∀ w ∈ W, w.f ∈ cols k ∧ w.l ∈ cols k) : cB (lead paF (paRow (List.replicate k 0) 0) W) + cA W + 2 * cB W = k * cA W + k * cB W := by
  unfold cA cB
  rw [lead_count (fun a b => a != b)]
  induction W with
  | nil => rfl
  | cons w W ih =>
    have ih := ih (fun x hx => h x (List.mem_cons_of_mem _ hx))
    obtain ⟨hf, hl⟩ := h w (List.mem_cons_self ..)
    rw [List.map_cons, List.sum_cons, List.countP_cons, List.countP_cons]
    have := paRow_cols k (fun d => paF d w.f && d != w.l)
    rw [this]
    unfold paF at ih ⊢
    by_cases e : w.f = w.l
    · have h1 := nd_one (cols_nodup k) hf
      rw [cols_len] at h1
      have e2 : (cols k).countP (fun d => d != w.f && d != w.l) = (cols k).countP (fun d => d != w.f) := by rw [← e]; exact List.countP_congr fun d _ => by simp
      rw [e2]
      simp only [e, beq_self_eq_true, bne_self_eq_false, if_true, Bool.false_eq_true, if_false, Nat.mul_add]
      rw [e] at h1
      omega
    · have h1 := nd_two (cols_nodup k) hf hl e
      rw [cols_len] at h1
      have e3 : (w.f == w.l) = false := by simp [e]
      have e4 : (w.f != w.l) = true := by simp [e]
      rw [e3, e4]
      simp only [if_true, Bool.false_eq_true, if_false, Nat.mul_add]
      omega
/-- what the model keeps: the lists that end with the first colour, and the others -/
def soP (k : Int) : Nat → Int × Int
  | 0 => (k, 0)
  | m + 1 => ((soP k m).2, (soP k m).1 * (k - 1) + (soP k m).2 * (k - 2))
theorem soP_is (k : Nat) : ∀ (m : Nat), soP k m = ((cA (ways paF (paO (zro (m + 1) k))) : Int), (cB (ways paF (paO (zro (m + 1) k))) : Int))
  | 0 => by
    have e : ways paF (paO (zro (0 + 1) k)) = (paRow (List.replicate k 0) 0).map Op.wy := rfl
    rw [e]
    unfold cA cB soP
    rw [List.countP_map, List.countP_map]
    have e1 : (paRow (List.replicate k 0) 0).countP ((fun w : Wy => w.f == w.l) ∘ Op.wy) = (paRow (List.replicate k 0) 0).length := List.countP_eq_length.2 fun o _ => by simp [Op.wy]
    have e2 : (paRow (List.replicate k 0) 0).countP ((fun w : Wy => w.f != w.l) ∘ Op.wy) = 0 := List.countP_eq_zero.2 fun o _ => by simp [Op.wy]
    have e3 : (paRow (List.replicate k 0) 0).length = k := by
      have := congrArg List.length (paRow_sts k 0)
      simpa using this
    rw [e1, e2, e3]
    rfl
  | m + 1 => by
    unfold soP
    rw [soP_is k m, zro_succ]
    have ha := step_A k _ (fun w hw => (zro_ok k m w hw).2.2)
    have hb := step_B k _ (fun w hw => (zro_ok k m w hw).2)
    generalize ways paF (paO (zro (m + 1) k)) = W at *
    rw [ha]
    congr 1
    simp only
    generalize cB (lead paF (paRow (List.replicate k 0) 0) W) = y at *
    have hb' := congrArg (fun n : Nat => (n : Int)) hb
    simp only [Int.natCast_add, Int.natCast_mul] at hb'
    rw [Int.mul_sub, Int.mul_sub, Int.mul_comm (cA W : Int), Int.mul_comm (cB W : Int)]
    generalize (k : Int) * (cA W : Int) = u at *
    generalize (k : Int) * (cB W : Int) = v at *
    omega
theorem cAB (W : List Wy) : cA W + cB W = W.length := by
  unfold cA cB
  have h := List.length_eq_countP_add_countP (l := W) (fun w => w.f == w.l)
  rw [h]
  congr 1
  refine List.countP_congr fun w _ => ?_
  simp
/-- how many paintings -/
def paintN (n k : Nat) (z : Bool) : Int := if z then (soP k (n - 1)).2 else (soP k (n - 1)).1 + (soP k (n - 1)).2
theorem paint_free (n k : Nat) (hn : 1 ≤ n) (z : Bool) (R : Int × Int → Bool) (hR : ∀ a b, R (a, b) = (!z || paF b a)) :
    (cnO (LE R (ways paF (paO (zro n k))) fun _ => true) : Int) = paintN n k z := by
  obtain ⟨m, rfl⟩ : ∃ m, n = m + 1 := ⟨n - 1, by omega⟩
  have hW := zro_ok k m
  unfold paintN
  rw [show m + 1 - 1 = m by omega, soP_is k m]
  unfold LE
  rw [agg_free (fun w hw => by
    obtain ⟨x, hx, rfl⟩ := List.mem_map.1 hw
    exact (hW x (List.mem_filter.1 hx).1).1), List.length_map]
  generalize ways paF (paO (zro (m + 1) k)) = W at *
  cases z with
  | false =>
    have e : (W.filter fun w => R (w.f, w.l) && true) = W := List.filter_eq_self.2 fun w _ => by simp [hR]
    rw [e, ← cAB]
    simp
  | true =>
    rw [← List.countP_eq_length_filter]
    have : W.countP (fun w => R (w.f, w.l) && true) = cB W := by
      unfold cB
      refine List.countP_congr fun w _ => ?_
      rw [hR]
      simp [paF]
      exact ⟨fun h e => h e.symm, fun h e => h e.symm⟩
    rw [this]
    simp
end Go.Proofs.Rl
