/-
  Chapter 7: BestLoot, FirstLoot, CountLoots (the model).
-/
import Derived.Test.YtjhpebihflcanaaRsP
import Derived.Test.YtjhpebihflcanaaRsO
namespace Go.Proofs
open Go.RowKit Go.Maps Rl
set_option linter.unusedVariables false
set_option linter.unusedSimpArgs false
/-- the values of some houses -/
def smL (xs s : List Int) : Int := (s.map fun h => xs.getD h.toNat 0).sum
theorem smL_snoc (xs s : List Int) (h : Int) : smL xs (s ++ [h]) = smL xs s + xs.getD h.toNat 0 := by simp [smL]
theorem loC_sm (xs s : List Int) : loC xs 0 s = - smL xs s := by
  unfold loC smL
  induction s with
  | nil => rfl
  | cons h s ih =>
    simp only [List.map_cons, List.sum_cons, Int.sub_zero] at ih ⊢
    rw [ih]
    omega
theorem smL_bd {xs : List Int} (hx : ∀ v ∈ xs, 0 ≤ v ∧ v ≤ 1000) : ∀ (s : List Int), 0 ≤ smL xs s ∧ smL xs s ≤ 1000 * s.length
  | [] => by simp [smL]
  | h :: s => by
    have ih := smL_bd hx s
    have hb : 0 ≤ xs.getD h.toNat 0 ∧ xs.getD h.toNat 0 ≤ 1000 := by
      by_cases q : h.toNat < xs.length
      · have := hx xs[h.toNat] (by simp)
        simpa [List.getD, q] using this
      · simp [List.getD, List.getElem?_eq_none (Nat.le_of_not_lt q)]
    have e : smL xs (h :: s) = xs.getD h.toNat 0 + smL xs s := by simp [smL]
    rw [e]
    simp only [List.length_cons]
    push_cast
    omega
/-- the greatest one so far -/
def bst (xs : List Int) (p : Int × List Int) (s : List Int) : Int × List Int := if p.1 < smL xs s then (smL xs s, s) else p
def bstL (xs : List Int) (U : List (List Int)) : Int × List Int := U.foldl (bst xs) (-1, [])
theorem bstL_snoc (xs : List Int) (U : List (List Int)) (s : List Int) : bstL xs (U ++ [s]) = bst xs (bstL xs U) s := by simp [bstL]
theorem bstL_is {xs : List Int} (hx : ∀ v ∈ xs, 0 ≤ v ∧ v ≤ 1000) : ∀ (n : Nat) (U : List (List Int)), U.length = n → (U = [] ∧ bstL xs U = (-1, [])) ∨ (0 ≤ (bstL xs U).1 ∧ (∀ s ∈ U, smL xs s ≤ (bstL xs U).1) ∧ U.find? (fun s => decide (smL xs s = (bstL xs U).1)) = some (bstL xs U).2)
  | 0, U, h => by
    have : U = [] := List.length_eq_zero_iff.1 h
    subst this
    exact .inl ⟨rfl, rfl⟩
  | n + 1, U, h => by
    obtain ⟨V, s, rfl⟩ : ∃ V s, U = V ++ [s] := ⟨U.dropLast, U.getLast (by intro e; rw [e] at h; simp at h), (List.dropLast_concat_getLast _).symm⟩
    have hV : V.length = n := by simp at h; omega
    have hs := (smL_bd hx s).1
    right
    rw [bstL_snoc]
    unfold bst
    rcases bstL_is hx n V hV with ⟨rfl, e⟩ | ⟨h1, h2, h3⟩
    · rw [e]
      simp only
      rw [if_pos (by omega)]
      simp
      exact hs
    · by_cases q : (bstL xs V).1 < smL xs s
      · rw [if_pos q]
        simp only
        refine ⟨by omega, fun t ht => ?_, ?_⟩
        · rcases List.mem_append.1 ht with ht | ht
          · have := h2 t ht; omega
          · simp only [List.mem_singleton] at ht; subst ht; exact Int.le_refl _
        · rw [List.find?_append]
          have : V.find? (fun t => decide (smL xs t = smL xs s)) = none := by
            rw [List.find?_eq_none]
            intro t ht
            have := h2 t ht
            simp; omega
          rw [this]
          simp
      · rw [if_neg q]
        refine ⟨h1, fun t ht => ?_, ?_⟩
        · rcases List.mem_append.1 ht with ht | ht
          · exact h2 t ht
          · simp only [List.mem_singleton] at ht; subst ht; omega
        · rw [List.find?_append, h3]
          rfl
theorem rg_same (n : Nat) (ring : Bool) : rgB (n : Int) ring = (ring && decide (3 ≤ n)) := by
  unfold rgB
  congr 1
  apply decide_eq_decide.2
  omega
def loA (n : Nat) (ring : Bool) : List (List Int) := loU n (ring && decide (3 ≤ n))
theorem loA_is (n : Nat) (ring : Bool) : [] :: ltR n (fun a b => neiB (n : Int) a b ring) n [] = loA n ring := by
  unfold loA
  rw [← rg_same]
  exact ltR_all neiL
theorem best_is {xs : List Int} (hU : UpP xs 20 1000) (ring : Bool) : bstL xs (loA xs.length ring) = (blV xs ring true, flV xs ring true) := by
  have hx := allIn_mem hU.2
  cases e : bestE xs ring with
  | none => have := bestE_some xs ring; rw [e] at this; cases this
  | some l =>
    have hb : blV xs ring true = -l.cost := by unfold blV; rw [if_pos rfl, e]
    have hf : flV xs ring true = l.first := by unfold flV; rw [if_pos rfl, e]
    rw [hb, hf]
    have e2 : agg ((loA xs.length ring).map (loV xs 0)) = some l := e
    obtain ⟨a1, a2, a3, a4⟩ := agg_is e2
    have hsort : ((loA xs.length ring).map (loV xs 0)).Pairwise (fun a b => ltL a.2 b.2 = true) := by
      rw [List.pairwise_map]
      exact loU_sorted _ _
    have hfind := agg_find hsort e2
    rcases bstL_is hx _ (loA xs.length ring) rfl with ⟨h, _⟩ | ⟨h1, h2, h3⟩
    · exact absurd h (loU_ne _ _)
    · have hmax : (bstL xs (loA xs.length ring)).1 = -l.cost := by
        obtain ⟨s, hs, es⟩ := List.mem_map.1 a3
        simp only [loV, Prod.mk.injEq] at es
        have q1 := h2 s hs
        have q2 := a1 _ (List.mem_map_of_mem (f := loV xs 0) (List.mem_of_find?_eq_some h3))
        have q3 := List.find?_some h3
        simp only [decide_eq_true_eq] at q3
        simp only [loV] at q2
        rw [loC_sm] at es q2
        omega
      rw [List.find?_map] at hfind
      have hc : ((fun w : Int × List Int => decide (w.1 = l.cost)) ∘ loV xs 0) = (fun s => decide (smL xs s = (bstL xs (loA xs.length ring)).1)) := by
        funext s
        simp only [Function.comp, loV]
        apply decide_eq_decide.2
        show loC xs 0 s = l.cost ↔ _
        rw [loC_sm, hmax]
        omega
      rw [hc, h3] at hfind
      simp only [Option.map_some, Option.some.injEq, loV, Prod.mk.injEq] at hfind
      exact Prod.ext hmax hfind.2
theorem loA_mem {n : Nat} {ring : Bool} {s : List Int} (h : s ∈ loA n ring) : (∀ b ∈ s, 0 ≤ b ∧ b < (n : Int)) ∧ s.length ≤ n := by
  rw [← loA_is] at h
  rcases List.mem_cons.1 h with rfl | h
  · exact ⟨by simp, Nat.zero_le _⟩
  · have := ltR_mem n [] (Nat.le_refl _) (by simp) s h
    exact ⟨this.1, by simpa using this.2⟩
theorem loA_len {n : Nat} {ring : Bool} (hn : n ≤ 20) : (loA n ring).length ≤ 1048576 := by
  rw [← loA_is, List.length_cons]
  have h1 := ltR_len (n := n) (nei := fun a b => neiB (n : Int) a b ring) n []
  have h2 : 2 ^ n ≤ 2 ^ 20 := Nat.pow_le_pow_right (by decide) hn
  have h3 : (2 : Nat) ^ 20 = 1048576 := by decide
  omega
/-- of values that are all nothing each loot has the greatest sum -/
theorem clV_zero (n : Nat) (ring : Bool) : clV (List.replicate n 0) ring = (loA n ring).length := by
  unfold clV
  cases e : bestE (List.replicate n 0) ring with
  | none => have := bestE_some (List.replicate n 0) ring; rw [e] at this; cases this
  | some l =>
    have e2 : agg ((loA n ring).map (loV (List.replicate n 0) 0)) = some l := by
      unfold bestE at e
      rw [List.length_replicate] at e
      exact e
    obtain ⟨a1, a2, a3, a4⟩ := agg_is e2
    have hz : ∀ s, loC (List.replicate n 0) 0 s = 0 := fun s => by
      unfold loC
      induction s with
      | nil => rfl
      | cons h s ih =>
        simp only [List.map_cons, List.sum_cons, ih]
        have : (List.replicate n (0 : Int)).getD (h - 0).toNat 0 = 0 := by
          simp only [List.getD, List.getElem?_replicate]
          split <;> rfl
        rw [this]; rfl
    obtain ⟨s, hs, es⟩ := List.mem_map.1 a3
    simp only [loV, Prod.mk.injEq, hz] at es
    show l.count = _
    rw [a2, ← es.1, List.countP_map]
    rw [List.countP_eq_length]
    intro t ht
    simp [loV, hz]
set_option maxHeartbeats 1600000 in
theorem Try.sCountLoots (w : World) (n : Int) (ring : Bool) (b : Bool) (hb : inn n 1 20 = b) :
    Calls Try.prog 30 #[.int .i64 n, .bool ring] w fun e w' => e = .returned (.tuple #[.int .i64 (if b = true then ((loA n.toNat ring).length : Int) else 0), .bool b]) ∧ Below w.heap.size w w' := by
  have HH := Lib.hid (fun (X : World) => Try.rwHouses n b hb X)
  cases b with
  | false =>
    clear hb
    go_enter Try.func30, Try.ntmps30
    go_wp2_with (go_at_call 36; refine (HH.out _).mono ?_; rintro e w1 ⟨rfl, rfl⟩)
    go_ret2
    exact ⟨rfl, Below.refl _ _⟩
  | true =>
    obtain ⟨h1, h2⟩ := inn_e hb
    obtain ⟨k, rfl⟩ : ∃ k : Nat, n = k := ⟨n.toNat, by omega⟩
    have HR := Lib.hid (fun (X : World) => Try.rwLoots k (by omega) ring k [] X 0 (.slice none 0 0) (Nat.le_refl _) (by simp) (by simp) (.inl ⟨rfl, rfl⟩) (OwnI.nil2 _ _))
    have hIS := loA_is k ring
    rw [hIS] at HR
    rw [if_pos rfl, Int.toNat_natCast]
    have hl := loA_len (n := k) (ring := ring) (by omega)
    generalize loA k ring = U at *
    clear hb h1 h2 hIS
    go_enter Try.func30, Try.ntmps30
    go_wp2_with (first | (go_at_call 36; refine (HH.out _).mono ?_; rintro e w1 ⟨rfl, rfl⟩) | (go_at_call 44; refine (HR.out _).mono ?_; rintro e w2 ⟨u, rfl, ho, hb2⟩; obtain ⟨A2, c2, rfl⟩ := ho.form))
    go_ret2
    exact ⟨rfl, hb2⟩
end Go.Proofs
