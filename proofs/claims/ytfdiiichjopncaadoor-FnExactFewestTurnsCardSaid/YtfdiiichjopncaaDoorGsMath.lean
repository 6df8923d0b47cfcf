/-
  Plain mathematics of a search breadth first, with up to sixteen directions. No program here.
-/
import Derived.Test.YtfdiiichjopncaaDoorGrMath
namespace Go.Proofs.Gs
open Go Go.Proofs.Gm
set_option linter.unusedVariables false
set_option linter.unusedSimpArgs false
def run (nb : Nat → Nat → Option Nat) (N s0 : Nat) : Nat → St
  | 0 => Gm.start N s0
  | k + 1 => if k < (run nb N s0 k).q.length then scan nb ((run nb N s0 k).q.getD k 0) (run nb N s0 k) 16 else run nb N s0 k
def fin (nb : Nat → Nat → Option Nat) (N s0 : Nat) : St := run nb N s0 N
section
variable {nb : Nat → Nat → Option Nat} {N s0 u m : Nat} {s : St}
/-- k are looked at, and j directions of the next one -/
structure Bf (nb : Nat → Nat → Option Nat) (N s0 : Nat) (s : St) (k j : Nat) : Prop where
  inv : Inv N s
  q0 : 0 < s.q.length
  st : s.q.getD 0 0 = s0
  f0 : f s s0 = 0
  so : ∀ a b, a ≤ b → b < s.q.length → f s (s.q.getD a 0) ≤ f s (s.q.getD b 0)
  cl : ∀ a, a < s.q.length → k < s.q.length → f s (s.q.getD a 0) ≤ f s (s.q.getD k 0) + 1
  re : ∀ a i v, a < s.q.length → i < 16 → (a < k ∨ a = k ∧ i < j) → nb (s.q.getD a 0) i = some v → 0 ≤ f s v ∧ f s v ≤ f s (s.q.getD a 0) + 1
  pr : ∀ v, v ∈ s.q → v = s0 ∨ ∃ a i, a < s.q.length ∧ a ≤ k ∧ i < 16 ∧ nb (s.q.getD a 0) i = some v ∧ f s v = f s (s.q.getD a 0) + 1
theorem Bf.visit {k j : Nat} (hv : ∀ n i v, n < N → nb n i = some v → v < N) (h : Bf nb N s0 s k j) (hk : k < s.q.length) (hj : j < 16) (hu : s.q.getD k 0 = u) :
    Bf nb N s0 (visit u s (nb u j)) k (j + 1) ∧ (visit u s (nb u j)).q.getD k 0 = u ∧ k < (visit u s (nb u j)).q.length ∧ ∀ x, 0 ≤ f s x → f (visit u s (nb u j)) x = f s x := by
  have hum : u ∈ s.q := hu ▸ getD_mem _ _ hk
  have huN := h.inv.qn u hum
  have hu0 := (h.inv.fq u huN).2 hum
  cases hnb : nb u j with
  | none =>
    refine ⟨⟨h.inv, h.q0, h.st, h.f0, h.so, h.cl, fun a i v ha hi hc hn => ?_, h.pr⟩, hu, hk, fun x _ => rfl⟩
    rcases hc with c | ⟨c, d⟩
    · exact h.re a i v ha hi (.inl c) hn
    · rcases Nat.lt_or_eq_of_le (Nat.le_of_lt_succ d) with d | d
      · exact h.re a i v ha hi (.inr ⟨c, d⟩) hn
      · subst c; subst d
        have hn' : nb (s.q.getD a 0) i = some v := hn
        rw [hu, hnb] at hn'
        cases hn'
  | some m =>
    have hm : m < N := hv u j m huN hnb
    have keep : ∀ x, 0 ≤ f s x → f (Gm.visit u s (some m)) x = f s x := fun x hx => f_keep h.inv hm x hx
    have fq : ∀ a, a < s.q.length → 0 ≤ f s (s.q.getD a 0) := fun a ha => (h.inv.fq _ (h.inv.qn _ (getD_mem _ _ ha))).2 (getD_mem _ _ ha)
    have hI := visit_inv h.inv hum hm
    by_cases hn : f s m < 0
    · have eq : (Gm.visit u s (some m)).q = s.q ++ [m] := by rw [q_visit, if_pos hn]
      have em : f (Gm.visit u s (some m)) m = f s u + 1 := by rw [f_visit h.inv hm, if_pos ⟨rfl, hn⟩]
      have lo : ∀ a, a < s.q.length → (Gm.visit u s (some m)).q.getD a 0 = s.q.getD a 0 := fun a ha => by rw [eq]; exact app_lo _ _ _ ha
      have hi : (Gm.visit u s (some m)).q.getD s.q.length 0 = m := by rw [eq]; exact app_hi _ _
      have ln : (Gm.visit u s (some m)).q.length = s.q.length + 1 := by rw [eq]; simp
      have c1 := fun a (ha : a < s.q.length) => h.cl a ha hk
      rw [hu] at c1
      have val : ∀ a, a < s.q.length → f (Gm.visit u s (some m)) ((Gm.visit u s (some m)).q.getD a 0) = f s (s.q.getD a 0) := fun a ha => by rw [lo a ha, keep _ (fq a ha)]
      refine ⟨⟨hI, by omega, by rw [lo 0 h.q0, h.st], by rw [keep _ (by rw [h.f0]; omega), h.f0], ?_, ?_, ?_, ?_⟩, by rw [lo k hk, hu], by omega, keep⟩
      · intro a b hab hb
        rw [ln] at hb
        rcases Nat.lt_or_eq_of_le (Nat.le_of_lt_succ hb) with c | c
        · rw [val a (by omega), val b c]; exact h.so a b hab c
        · subst c
          rw [hi, em]
          rcases Nat.lt_or_eq_of_le hab with d | d
          · rw [val a d]; exact c1 a d
          · subst d; rw [hi, em]; omega
      · intro a ha _
        rw [ln] at ha
        rw [val k hk, hu]
        rcases Nat.lt_or_eq_of_le (Nat.le_of_lt_succ ha) with c | c
        · rw [val a c]; exact c1 a c
        · subst c; rw [hi, em]; omega
      · intro a i v ha hi4 hc hnbv
        rw [ln] at ha
        have ha' : a < s.q.length := by rcases hc with c | ⟨c, _⟩ <;> omega
        rw [val a ha']
        rw [lo a ha'] at hnbv
        rcases hc with c | ⟨c, d⟩
        · obtain ⟨x, y⟩ := h.re a i v ha' hi4 (.inl c) hnbv
          rw [keep v x]; exact ⟨x, y⟩
        · rcases Nat.lt_or_eq_of_le (Nat.le_of_lt_succ d) with d | d
          · obtain ⟨x, y⟩ := h.re a i v ha' hi4 (.inr ⟨c, d⟩) hnbv
            rw [keep v x]; exact ⟨x, y⟩
          · subst c; subst d
            rw [hu, hnb] at hnbv
            cases hnbv
            rw [em, hu]; omega
      · intro v hvq
        rw [eq] at hvq
        rcases List.mem_append.1 hvq with c | c
        · have cv := (h.inv.fq v (h.inv.qn v c)).2 c
          rcases h.pr v c with d | ⟨a, i, ha, hak, hi4, e1, e2⟩
          · exact .inl d
          · exact .inr ⟨a, i, by omega, hak, hi4, by rw [lo a ha]; exact e1, by rw [val a ha, keep v cv]; exact e2⟩
        · simp at c; subst c
          exact .inr ⟨k, j, by omega, Nat.le_refl _, hj, by rw [lo k hk, hu]; exact hnb, by rw [val k hk, em, hu]⟩
    · have eq : (Gm.visit u s (some m)).q = s.q := by rw [q_visit, if_neg hn]
      have same : ∀ x, f (Gm.visit u s (some m)) x = f s x := fun x => by rw [f_visit h.inv hm, if_neg (by simp [hn])]
      have c1 := fun a (ha : a < s.q.length) => h.cl a ha hk
      rw [hu] at c1
      refine ⟨⟨hI, by rw [eq]; exact h.q0, by rw [eq]; exact h.st, by rw [same]; exact h.f0, ?_, ?_, ?_, ?_⟩, by rw [eq]; exact hu, by rw [eq]; exact hk, fun x _ => same x⟩
      · rw [eq]; intro a b hab hb; rw [same, same]; exact h.so a b hab hb
      · rw [eq]; intro a ha hk'; rw [same, same]; exact h.cl a ha hk'
      · rw [eq]
        intro a i v ha hi4 hc hnbv
        rw [same, same]
        rcases hc with c | ⟨c, d⟩
        · exact h.re a i v ha hi4 (.inl c) hnbv
        · rcases Nat.lt_or_eq_of_le (Nat.le_of_lt_succ d) with d | d
          · exact h.re a i v ha hi4 (.inr ⟨c, d⟩) hnbv
          · subst c; subst d
            rw [hu, hnb] at hnbv
            cases hnbv
            have hmq : m ∈ s.q := (h.inv.fq m hm).1 (by omega)
            obtain ⟨b, hb, e⟩ := mem_getD _ _ hmq
            have := c1 b hb
            rw [e] at this
            rw [hu]; omega
      · rw [eq]
        intro v hvq
        rcases h.pr v hvq with d | ⟨a, i, ha, hak, hi4, e1, e2⟩
        · exact .inl d
        · exact .inr ⟨a, i, ha, hak, hi4, e1, by rw [same, same]; exact e2⟩
theorem Bf.next {k : Nat} (h : Bf nb N s0 s k 16) (hk : k < s.q.length) : Bf nb N s0 s (k + 1) 0 := by
  refine ⟨h.inv, h.q0, h.st, h.f0, h.so, fun a ha hk' => ?_, fun a i v ha hi hc hn => ?_, fun v hvq => ?_⟩
  · have := h.cl a ha hk
    have := h.so k (k + 1) (by omega) hk'
    omega
  · refine h.re a i v ha hi ?_ hn
    rcases hc with c | ⟨_, c⟩
    · omega
    · omega
  · rcases h.pr v hvq with d | ⟨a, i, ha, hak, r⟩
    · exact .inl d
    · exact .inr ⟨a, i, ha, by omega, r⟩
theorem Bf.scan {k : Nat} (hv : ∀ n i v, n < N → nb n i = some v → v < N) (h : Bf nb N s0 s k 0) (hk : k < s.q.length) (hu : s.q.getD k 0 = u) (j : Nat) (hj : j ≤ 16) :
    Bf nb N s0 (scan nb u s j) k j ∧ (scan nb u s j).q.getD k 0 = u ∧ k < (scan nb u s j).q.length ∧ ∀ x, 0 ≤ f s x → f (scan nb u s j) x = f s x := by
  induction j with
  | zero => exact ⟨h, hu, hk, fun x _ => rfl⟩
  | succ j ih =>
    obtain ⟨h1, h2, h3, h4⟩ := ih (by omega)
    obtain ⟨g1, g2, g3, g4⟩ := h1.visit hv h3 (by omega) h2
    exact ⟨g1, g2, g3, fun x hx => by show f (Gm.visit u (Gm.scan nb u s j) (nb u j)) x = _; rw [g4 x (by rw [h4 x hx]; exact hx), h4 x hx]⟩
theorem run_bf (hv : ∀ n i v, n < N → nb n i = some v → v < N) (hs : s0 < N) (k : Nat) : k ≤ (run nb N s0 k).q.length ∧ Bf nb N s0 (run nb N s0 k) k 0 ∨ (run nb N s0 k).q.length < k ∧ ∃ i, i < k ∧ run nb N s0 k = run nb N s0 i ∧ i = (run nb N s0 i).q.length ∧ Bf nb N s0 (run nb N s0 i) i 0 := by
  induction k with
  | zero =>
    obtain ⟨h1, h2, h3⟩ := start_inv hs
    refine .inl ⟨Nat.zero_le _, ⟨h1, by simp [run, Gm.start], by simp [run, Gm.start], h2, ?_, ?_, ?_, ?_⟩⟩
    · intro a b hab hb
      have : b = 0 := by simpa [run, Gm.start] using hb
      subst this
      have : a = 0 := by omega
      subst this
      exact Int.le_refl _
    · intro a ha _
      have : a = 0 := by simpa [run, Gm.start] using ha
      subst this
      omega
    · intro a i v _ _ hc _; omega
    · intro v hv'
      exact .inl (by simpa [run, Gm.start] using hv')
  | succ k ih =>
    rcases ih with ⟨h1, h2⟩ | ⟨h1, i, hi, e1, e2, e3⟩
    · by_cases hk : k < (run nb N s0 k).q.length
      · have e : run nb N s0 (k + 1) = scan nb ((run nb N s0 k).q.getD k 0) (run nb N s0 k) 16 := by simp only [run]; rw [if_pos hk]
        obtain ⟨g1, g2, g3, _⟩ := h2.scan hv hk rfl 16 (Nat.le_refl _)
        rw [e]
        exact .inl ⟨g3, g1.next g3⟩
      · have e : run nb N s0 (k + 1) = run nb N s0 k := by simp only [run]; rw [if_neg hk]
        rw [e]
        exact .inr ⟨by omega, k, by omega, rfl, by omega, h2⟩
    · have e : run nb N s0 (k + 1) = run nb N s0 k := by simp only [run]; rw [if_neg (by omega)]
      rw [e]
      exact .inr ⟨by omega, i, by omega, e1, e2, e3⟩
theorem run_stays {k : Nat} (h : (run nb N s0 k).q.length ≤ k) (i : Nat) (hi : k ≤ i) : run nb N s0 i = run nb N s0 k := by
  induction i with
  | zero => rw [show k = 0 by omega]
  | succ i ih =>
    rcases Nat.lt_or_eq_of_le hi with c | c
    · have e := ih (by omega)
      simp only [run]
      rw [e, if_neg (by omega)]
    · rw [c]
/-- where the search stops, the state is the last one -/
theorem run_end (hv : ∀ n i v, n < N → nb n i = some v → v < N) (hs : s0 < N) {k : Nat} (h : k = (run nb N s0 k).q.length) : run nb N s0 k = fin nb N s0 := by
  have hk : k ≤ N := by
    rcases run_bf hv hs k with ⟨_, b⟩ | ⟨a, _⟩
    · have := b.inv.len; omega
    · omega
  exact (run_stays (Nat.le_of_eq h.symm) N hk).symm
theorem fin_bf (hv : ∀ n i v, n < N → nb n i = some v → v < N) (hs : s0 < N) : Bf nb N s0 (fin nb N s0) (fin nb N s0).q.length 0 := by
  rcases run_bf hv hs N with ⟨a, b⟩ | ⟨a, i, hi, e1, e2, e3⟩
  · have := b.inv.len
    have e : (fin nb N s0).q.length = N := by unfold fin; omega
    rw [e]; exact b
  · have e : fin nb N s0 = run nb N s0 i := e1
    rw [e, ← e2]; exact e3
/-- what a search finds -/
structure Dist (nb : Nat → Nat → Option Nat) (N s0 : Nat) (F : Nat → Int) : Prop where
  f0 : F s0 = 0
  lo : ∀ v, v < N → -1 ≤ F v
  z : ∀ v, v < N → F v = 0 → v = s0
  re : ∀ u i v, u < N → i < 16 → 0 ≤ F u → nb u i = some v → 0 ≤ F v ∧ F v ≤ F u + 1
  pr : ∀ v, v < N → 0 < F v → ∃ u i, u < N ∧ i < 16 ∧ nb u i = some v ∧ F u = F v - 1
theorem fin_dist (hv : ∀ n i v, n < N → nb n i = some v → v < N) (hs : s0 < N) : Dist nb N s0 (f (fin nb N s0)) := by
  have h := fin_bf hv hs
  have np : ∀ v, v < N → 0 ≤ f (fin nb N s0) v → v = s0 ∨ ∃ u i, u < N ∧ i < 16 ∧ nb u i = some v ∧ f (fin nb N s0) v = f (fin nb N s0) u + 1 ∧ 0 ≤ f (fin nb N s0) u := fun v hvN hv0 => by
    have hq := (h.inv.fq v hvN).1 hv0
    rcases h.pr v hq with d | ⟨a, i, ha, _, hi, e1, e2⟩
    · exact .inl d
    · have hm := getD_mem _ _ ha
      exact .inr ⟨_, i, h.inv.qn _ hm, hi, e1, e2, (h.inv.fq _ (h.inv.qn _ hm)).2 hm⟩
  refine ⟨h.f0, fun v hvN => (h.inv.fm v hvN).1, fun v hvN e => ?_, fun u i v hu hi h0 hn => ?_, fun v hvN h0 => ?_⟩
  · rcases np v hvN (by omega) with d | ⟨u, i, _, _, _, e2, e3⟩
    · exact d
    · omega
  · obtain ⟨a, ha, e⟩ := mem_getD _ _ ((h.inv.fq u hu).1 h0)
    have := h.re a i v ha hi (.inl ha) (by rw [e]; exact hn)
    rwa [e] at this
  · rcases np v hvN (by omega) with d | ⟨u, i, hu, hi, e1, e2, _⟩
    · subst d; have := h.f0; omega
    · exact ⟨u, i, hu, hi, e1, by omega⟩
/-- there is just one -/
theorem Dist.uniq {F G : Nat → Int} (hv : ∀ n i v, n < N → nb n i = some v → v < N) (hF : Dist nb N s0 F) (hG : Dist nb N s0 G) : ∀ v, v < N → F v = G v := by
  have half : ∀ {F G : Nat → Int}, Dist nb N s0 F → Dist nb N s0 G → ∀ (n : Nat) v, v < N → F v = n → 0 ≤ G v ∧ G v ≤ n := by
    intro F G hF hG n
    induction n with
    | zero =>
      intro v hv' e
      rw [hF.z v hv' e, hG.f0]
      omega
    | succ n ih =>
      intro v hv' e
      obtain ⟨u, i, hu, hi, e1, e2⟩ := hF.pr v hv' (by omega)
      obtain ⟨x, y⟩ := ih u hu (by omega)
      obtain ⟨z, t⟩ := hG.re u i v hu hi x e1
      omega
  intro v hv'
  have l1 := hF.lo v hv'
  have l2 := hG.lo v hv'
  by_cases c : 0 ≤ F v
  · obtain ⟨a, b⟩ := half hF hG (F v).toNat v hv' (by omega)
    obtain ⟨a', b'⟩ := half hG hF (G v).toNat v hv' (by omega)
    omega
  · by_cases c' : 0 ≤ G v
    · obtain ⟨a', b'⟩ := half hG hF (G v).toNat v hv' (by omega)
      omega
    · omega
end
end Go.Proofs.Gs
