import Derived.Test.YtjlbbkbcapleiaaDoorBase
/-
  Plain mathematics of a search breadth first, over vertices 0 .. N - 1 with a function that tells where one comes in each of four directions. No program here.
-/
namespace Go.Proofs.Gm
open Go
set_option linter.unusedVariables false
set_option linter.unusedSimpArgs false
theorem getD_set (l : List Int) (i j : Nat) (v d : Int) (h : i < l.length) : (l.set i v).getD j d = if i = j then v else l.getD j d := by
  simp only [List.getD, List.getElem?_set]
  split
  · simp [h]
  · rfl
theorem app_lo (l : List Nat) (m a : Nat) (h : a < l.length) : (l ++ [m]).getD a 0 = l.getD a 0 := by
  simp [List.getD, List.getElem?_append_left h]
theorem app_hi (l : List Nat) (m : Nat) : (l ++ [m]).getD l.length 0 = m := by simp [List.getD]
theorem getD_mem (l : List Nat) (a : Nat) (h : a < l.length) : l.getD a 0 ∈ l := by
  simp only [List.getD, List.getElem?_eq_getElem h, Option.getD_some]
  exact List.getElem_mem h
theorem mem_getD (l : List Nat) (m : Nat) (h : m ∈ l) : ∃ a, a < l.length ∧ l.getD a 0 = m := by
  obtain ⟨a, ha, e⟩ := List.mem_iff_getElem.1 h
  exact ⟨a, ha, by simp [List.getD, List.getElem?_eq_getElem ha, e]⟩
theorem nodup_len (N : Nat) : ∀ l : List Nat, l.Nodup → (∀ m ∈ l, m < N) → l.length ≤ N := by
  induction N with
  | zero =>
    intro l _ h
    cases l with
    | nil => simp
    | cons x l => exact absurd (h x (by simp)) (Nat.not_lt_zero _)
  | succ N ih =>
    intro l hd h
    by_cases hm : N ∈ l
    · have h1 := ih (l.erase N) (hd.erase N) (fun m hm' => by
        have := h m (List.mem_of_mem_erase hm')
        have hne : m ≠ N := fun e => by subst e; exact absurd hm' (by rw [hd.mem_erase_iff]; simp)
        omega)
      rw [List.length_erase_of_mem hm] at h1
      omega
    · have := ih l hd (fun m hm' => by
        have := h m hm'
        have hne : m ≠ N := fun e => hm (e ▸ hm')
        omega)
      omega
/-- how far each is (or -1), in how many ways (in 64 bits), and all that were found, in order -/
structure St where
  far : List Int
  ways : List Int
  q : List Nat
def f (s : St) (m : Nat) : Int := s.far.getD m 0
def g (s : St) (m : Nat) : Int := s.ways.getD m 0
def visit (u : Nat) (s : St) : Option Nat → St
  | none => s
  | some m =>
    ⟨if f s m < 0 then s.far.set m (f s u + 1) else s.far,
     if f s m < 0 ∨ f s m = f s u + 1 then s.ways.set m (IntKind.i64.wrap (g s m + g s u)) else s.ways,
     if f s m < 0 then s.q ++ [m] else s.q⟩
def scan (nb : Nat → Nat → Option Nat) (u : Nat) (s : St) : Nat → St
  | 0 => s
  | j + 1 => visit u (scan nb u s j) (nb u j)
def start (N s0 : Nat) : St := ⟨(List.replicate N (-1)).set s0 0, (List.replicate N 0).set s0 1, [s0]⟩
def run (nb : Nat → Nat → Option Nat) (N s0 : Nat) : Nat → St
  | 0 => start N s0
  | k + 1 => if k < (run nb N s0 k).q.length then scan nb ((run nb N s0 k).q.getD k 0) (run nb N s0 k) 4 else run nb N s0 k
def fin (nb : Nat → Nat → Option Nat) (N s0 : Nat) : St := run nb N s0 N
structure Inv (N : Nat) (s : St) : Prop where
  fl : s.far.length = N
  wl : s.ways.length = N
  nd : s.q.Nodup
  qn : ∀ m ∈ s.q, m < N
  fq : ∀ m, m < N → (0 ≤ f s m ↔ m ∈ s.q)
  fm : ∀ m, m < N → -1 ≤ f s m ∧ f s m < s.q.length
  w0 : ∀ m, m < N → f s m < 0 → g s m = 0
section
variable {nb : Nat → Nat → Option Nat} {N s0 u m : Nat} {s : St}
theorem Inv.len (h : Inv N s) : s.q.length ≤ N := nodup_len N s.q h.nd h.qn
theorem f_visit (h : Inv N s) (hm : m < N) (x : Nat) : f (visit u s (some m)) x = if m = x ∧ f s m < 0 then f s u + 1 else f s x := by
  unfold visit
  by_cases hn : f s m < 0
  · simp only [hn, if_true, and_true]
    show (s.far.set m _).getD x 0 = _
    rw [getD_set _ _ _ _ _ (by rw [h.fl]; exact hm)]
    rfl
  · simp only [hn, if_false, and_false]
    rfl
theorem q_visit : (visit u s (some m)).q = if f s m < 0 then s.q ++ [m] else s.q := rfl
theorem g_visit (h : Inv N s) (hm : m < N) (x : Nat) : g (visit u s (some m)) x = if m = x ∧ (f s m < 0 ∨ f s m = f s u + 1) then IntKind.i64.wrap (g s m + g s u) else g s x := by
  unfold visit
  by_cases hn : f s m < 0 ∨ f s m = f s u + 1
  · simp only [hn, if_true, and_true]
    show (s.ways.set m _).getD x 0 = _
    rw [getD_set _ _ _ _ _ (by rw [h.wl]; exact hm)]
    rfl
  · simp only [hn, if_false, and_false]
    rfl
theorem visit_inv (h : Inv N s) (hu : u ∈ s.q) (hm : m < N) : Inv N (visit u s (some m)) := by
  have hu0 : 0 ≤ f s u := (h.fq u (h.qn u hu)).2 hu
  have hu1 := (h.fm u (h.qn u hu)).2
  have ev : ∀ x, f (visit u s (some m)) x = if m = x ∧ f s m < 0 then f s u + 1 else f s x := f_visit h hm
  have eg : ∀ x, g (visit u s (some m)) x = if m = x ∧ (f s m < 0 ∨ f s m = f s u + 1) then IntKind.i64.wrap (g s m + g s u) else g s x := g_visit h hm
  refine ⟨?_, ?_, ?_, ?_, ?_, ?_, ?_⟩
  · unfold visit; simp only; split <;> simp [h.fl]
  · unfold visit; simp only; split <;> simp [h.wl]
  · rw [q_visit]
    split
    · rename_i hn
      rw [List.nodup_append]
      refine ⟨h.nd, by simp, fun a ha b hb => ?_⟩
      simp at hb; subst hb
      intro e; subst e
      have := (h.fq a hm).2 ha
      omega
    · exact h.nd
  · rw [q_visit]
    split
    · intro x hx
      rcases List.mem_append.1 hx with hx | hx
      · exact h.qn x hx
      · simp at hx; subst hx; exact hm
    · exact h.qn
  · intro x hx
    rw [ev, q_visit]
    by_cases hn : f s m < 0
    · simp only [hn, and_true, if_true]
      by_cases e : m = x
      · subst e; simp; omega
      · rw [if_neg e, h.fq x hx]
        simp [Ne.symm e]
    · simp only [hn, and_false, if_false]
      exact h.fq x hx
  · intro x hx
    rw [ev, q_visit]
    have := h.fm x hx
    by_cases hn : f s m < 0
    · simp only [hn, and_true, if_true, List.length_append, List.length_cons, List.length_nil]
      by_cases e : m = x
      · rw [if_pos e]; omega
      · rw [if_neg e]; omega
    · simp only [hn, and_false, if_false]
      exact this
  · intro x hx
    rw [ev, eg]
    by_cases e : m = x
    · subst e
      by_cases hn : f s m < 0
      · simp only [hn, and_true, if_true, true_and]
        intro q; omega
      · rw [if_neg (by simp [hn])]
        intro q; exact absurd q hn
    · simp only [e, false_and, if_false]
      exact h.w0 x hx
/-- a vertex that was found keeps what was found -/
theorem f_keep (h : Inv N s) (hm : m < N) (x : Nat) (hx : 0 ≤ f s x) : f (visit u s (some m)) x = f s x := by
  rw [f_visit h hm]
  by_cases e : m = x
  · subst e; rw [if_neg (by omega)]
  · rw [if_neg (by simp [e])]
theorem start_inv (h : s0 < N) : Inv N (start N s0) ∧ f (start N s0) s0 = 0 ∧ g (start N s0) s0 = 1 := by
  have ef : ∀ x, f (start N s0) x = if s0 = x then 0 else (List.replicate N (-1 : Int)).getD x 0 := fun x => getD_set _ _ _ _ _ (by simpa using h)
  have eg : ∀ x, g (start N s0) x = if s0 = x then 1 else (List.replicate N (0 : Int)).getD x 0 := fun x => getD_set _ _ _ _ _ (by simpa using h)
  have e1 : ∀ x, x < N → (List.replicate N (-1 : Int)).getD x 0 = -1 := fun x hx => by simp [List.getD, hx]
  have e2 : ∀ x, x < N → (List.replicate N (0 : Int)).getD x 0 = 0 := fun x hx => by simp [List.getD, hx]
  refine ⟨⟨by simp [start], by simp [start], by simp [start], by simp [start, h], fun m hm => ?_, fun m hm => ?_, fun m hm => ?_⟩, by rw [ef]; simp, by rw [eg]; simp⟩
  · rw [ef]
    by_cases e : s0 = m
    · subst e; simp [start]
    · rw [if_neg e, e1 m hm]; simp [start, Ne.symm e]
  · rw [ef]
    by_cases e : s0 = m
    · rw [if_pos e]; simp [start]
    · rw [if_neg e, e1 m hm]; simp [start]
  · rw [ef, eg]
    by_cases e : s0 = m
    · rw [if_pos e]; intro q; omega
    · rw [if_neg e, if_neg e, e2 m hm]; intro _; rfl
/-- k are looked at, and j directions of the next one -/
structure Bf (nb : Nat → Nat → Option Nat) (N s0 : Nat) (s : St) (k j : Nat) : Prop where
  inv : Inv N s
  q0 : 0 < s.q.length
  st : s.q.getD 0 0 = s0
  f0 : f s s0 = 0
  so : ∀ a b, a ≤ b → b < s.q.length → f s (s.q.getD a 0) ≤ f s (s.q.getD b 0)
  cl : ∀ a, a < s.q.length → k < s.q.length → f s (s.q.getD a 0) ≤ f s (s.q.getD k 0) + 1
  re : ∀ a i v, a < s.q.length → i < 4 → (a < k ∨ a = k ∧ i < j) → nb (s.q.getD a 0) i = some v → 0 ≤ f s v ∧ f s v ≤ f s (s.q.getD a 0) + 1
  pr : ∀ v, v ∈ s.q → v = s0 ∨ ∃ a i, a < s.q.length ∧ a ≤ k ∧ i < 4 ∧ nb (s.q.getD a 0) i = some v ∧ f s v = f s (s.q.getD a 0) + 1
theorem Bf.visit {k j : Nat} (hv : ∀ n i v, n < N → nb n i = some v → v < N) (h : Bf nb N s0 s k j) (hk : k < s.q.length) (hj : j < 4) (hu : s.q.getD k 0 = u) :
    Bf nb N s0 (visit u s (nb u j)) k (j + 1) ∧ (visit u s (nb u j)).q.getD k 0 = u ∧ k < (visit u s (nb u j)).q.length ∧ ∀ x, 0 ≤ f s x → f (visit u s (nb u j)) x = f s x := by
  have hum : u ∈ s.q := hu ▸ getD_mem _ _ hk
  have huN := h.inv.qn u hum
  have hu0 := (h.inv.fq u huN).2 hum
  cases hnb : nb u j with
  | none =>
    refine ⟨⟨h.inv, h.q0, h.st, h.f0, h.so, h.cl, fun a i v ha hi hc hn => ?_, h.pr⟩, hu, hk, fun x _ => rfl⟩
    rcases hc with c | ⟨c, d⟩
    · exact h.re a i v ha hi (.inl c) hn
    · rcases Nat.lt_or_eq_of_le (Nat.le_of_lt_succ d) with d | d
      · exact h.re a i v ha hi (.inr ⟨c, d⟩) hn
      · subst c; subst d
        have hn' : nb (s.q.getD a 0) i = some v := hn
        rw [hu, hnb] at hn'
        cases hn'
  | some m =>
    have hm : m < N := hv u j m huN hnb
    have keep : ∀ x, 0 ≤ f s x → f (Gm.visit u s (some m)) x = f s x := fun x hx => f_keep h.inv hm x hx
    have fq : ∀ a, a < s.q.length → 0 ≤ f s (s.q.getD a 0) := fun a ha => (h.inv.fq _ (h.inv.qn _ (getD_mem _ _ ha))).2 (getD_mem _ _ ha)
    have hI := visit_inv h.inv hum hm
    by_cases hn : f s m < 0
    · have eq : (Gm.visit u s (some m)).q = s.q ++ [m] := by rw [q_visit, if_pos hn]
      have em : f (Gm.visit u s (some m)) m = f s u + 1 := by rw [f_visit h.inv hm, if_pos ⟨rfl, hn⟩]
      have lo : ∀ a, a < s.q.length → (Gm.visit u s (some m)).q.getD a 0 = s.q.getD a 0 := fun a ha => by rw [eq]; exact app_lo _ _ _ ha
      have hi : (Gm.visit u s (some m)).q.getD s.q.length 0 = m := by rw [eq]; exact app_hi _ _
      have ln : (Gm.visit u s (some m)).q.length = s.q.length + 1 := by rw [eq]; simp
      have c1 := fun a (ha : a < s.q.length) => h.cl a ha hk
      rw [hu] at c1
      have val : ∀ a, a < s.q.length → f (Gm.visit u s (some m)) ((Gm.visit u s (some m)).q.getD a 0) = f s (s.q.getD a 0) := fun a ha => by rw [lo a ha, keep _ (fq a ha)]
      refine ⟨⟨hI, by omega, by rw [lo 0 h.q0, h.st], by rw [keep _ (by rw [h.f0]; omega), h.f0], ?_, ?_, ?_, ?_⟩, by rw [lo k hk, hu], by omega, keep⟩
      · intro a b hab hb
        rw [ln] at hb
        rcases Nat.lt_or_eq_of_le (Nat.le_of_lt_succ hb) with c | c
        · rw [val a (by omega), val b c]; exact h.so a b hab c
        · subst c
          rw [hi, em]
          rcases Nat.lt_or_eq_of_le hab with d | d
          · rw [val a d]; exact c1 a d
          · subst d; rw [hi, em]; omega
      · intro a ha _
        rw [ln] at ha
        rw [val k hk, hu]
        rcases Nat.lt_or_eq_of_le (Nat.le_of_lt_succ ha) with c | c
        · rw [val a c]; exact c1 a c
        · subst c; rw [hi, em]; omega
      · intro a i v ha hi4 hc hnbv
        rw [ln] at ha
        have ha' : a < s.q.length := by rcases hc with c | ⟨c, _⟩ <;> omega
        rw [val a ha']
        rw [lo a ha'] at hnbv
        rcases hc with c | ⟨c, d⟩
        · obtain ⟨x, y⟩ := h.re a i v ha' hi4 (.inl c) hnbv
          rw [keep v x]; exact ⟨x, y⟩
        · rcases Nat.lt_or_eq_of_le (Nat.le_of_lt_succ d) with d | d
          · obtain ⟨x, y⟩ := h.re a i v ha' hi4 (.inr ⟨c, d⟩) hnbv
            rw [keep v x]; exact ⟨x, y⟩
          · subst c; subst d
            rw [hu, hnb] at hnbv
            cases hnbv
            rw [em, hu]; omega
      · intro v hvq
        rw [eq] at hvq
        rcases List.mem_append.1 hvq with c | c
        · have cv := (h.inv.fq v (h.inv.qn v c)).2 c
          rcases h.pr v c with d | ⟨a, i, ha, hak, hi4, e1, e2⟩
          · exact .inl d
          · exact .inr ⟨a, i, by omega, hak, hi4, by rw [lo a ha]; exact e1, by rw [val a ha, keep v cv]; exact e2⟩
        · simp at c; subst c
          exact .inr ⟨k, j, by omega, Nat.le_refl _, hj, by rw [lo k hk, hu]; exact hnb, by rw [val k hk, em, hu]⟩
    · have eq : (Gm.visit u s (some m)).q = s.q := by rw [q_visit, if_neg hn]
      have same : ∀ x, f (Gm.visit u s (some m)) x = f s x := fun x => by rw [f_visit h.inv hm, if_neg (by simp [hn])]
      have c1 := fun a (ha : a < s.q.length) => h.cl a ha hk
      rw [hu] at c1
      refine ⟨⟨hI, by rw [eq]; exact h.q0, by rw [eq]; exact h.st, by rw [same]; exact h.f0, ?_, ?_, ?_, ?_⟩, by rw [eq]; exact hu, by rw [eq]; exact hk, fun x _ => same x⟩
      · rw [eq]; intro a b hab hb; rw [same, same]; exact h.so a b hab hb
      · rw [eq]; intro a ha hk'; rw [same, same]; exact h.cl a ha hk'
      · rw [eq]
        intro a i v ha hi4 hc hnbv
        rw [same, same]
        rcases hc with c | ⟨c, d⟩
        · exact h.re a i v ha hi4 (.inl c) hnbv
        · rcases Nat.lt_or_eq_of_le (Nat.le_of_lt_succ d) with d | d
          · exact h.re a i v ha hi4 (.inr ⟨c, d⟩) hnbv
          · subst c; subst d
            rw [hu, hnb] at hnbv
            cases hnbv
            have hmq : m ∈ s.q := (h.inv.fq m hm).1 (by omega)
            obtain ⟨b, hb, e⟩ := mem_getD _ _ hmq
            have := c1 b hb
            rw [e] at this
            rw [hu]; omega
      · rw [eq]
        intro v hvq
        rcases h.pr v hvq with d | ⟨a, i, ha, hak, hi4, e1, e2⟩
        · exact .inl d
        · exact .inr ⟨a, i, ha, hak, hi4, e1, by rw [same, same]; exact e2⟩
theorem Bf.next {k : Nat} (h : Bf nb N s0 s k 4) (hk : k < s.q.length) : Bf nb N s0 s (k + 1) 0 := by
  refine ⟨h.inv, h.q0, h.st, h.f0, h.so, fun a ha hk' => ?_, fun a i v ha hi hc hn => ?_, fun v hvq => ?_⟩
  · have := h.cl a ha hk
    have := h.so k (k + 1) (by omega) hk'
    omega
  · refine h.re a i v ha hi ?_ hn
    rcases hc with c | ⟨_, c⟩
    · omega
    · omega
  · rcases h.pr v hvq with d | ⟨a, i, ha, hak, r⟩
    · exact .inl d
    · exact .inr ⟨a, i, ha, by omega, r⟩
theorem Bf.scan {k : Nat} (hv : ∀ n i v, n < N → nb n i = some v → v < N) (h : Bf nb N s0 s k 0) (hk : k < s.q.length) (hu : s.q.getD k 0 = u) (j : Nat) (hj : j ≤ 4) :
    Bf nb N s0 (scan nb u s j) k j ∧ (scan nb u s j).q.getD k 0 = u ∧ k < (scan nb u s j).q.length ∧ ∀ x, 0 ≤ f s x → f (scan nb u s j) x = f s x := by
  induction j with
  | zero => exact ⟨h, hu, hk, fun x _ => rfl⟩
  | succ j ih =>
    obtain ⟨h1, h2, h3, h4⟩ := ih (by omega)
    obtain ⟨g1, g2, g3, g4⟩ := h1.visit hv h3 (by omega) h2
    exact ⟨g1, g2, g3, fun x hx => by show f (Gm.visit u (Gm.scan nb u s j) (nb u j)) x = _; rw [g4 x (by rw [h4 x hx]; exact hx), h4 x hx]⟩
theorem run_bf (hv : ∀ n i v, n < N → nb n i = some v → v < N) (hs : s0 < N) (k : Nat) : k ≤ (run nb N s0 k).q.length ∧ Bf nb N s0 (run nb N s0 k) k 0 ∨ (run nb N s0 k).q.length < k ∧ ∃ i, i < k ∧ run nb N s0 k = run nb N s0 i ∧ i = (run nb N s0 i).q.length ∧ Bf nb N s0 (run nb N s0 i) i 0 := by
  induction k with
  | zero =>
    obtain ⟨h1, h2, h3⟩ := start_inv hs
    refine .inl ⟨Nat.zero_le _, ⟨h1, by simp [run, start], by simp [run, start], h2, ?_, ?_, ?_, ?_⟩⟩
    · intro a b hab hb
      have : b = 0 := by simpa [run, start] using hb
      subst this
      have : a = 0 := by omega
      subst this
      exact Int.le_refl _
    · intro a ha _
      have : a = 0 := by simpa [run, start] using ha
      subst this
      omega
    · intro a i v _ _ hc _; omega
    · intro v hv'
      exact .inl (by simpa [run, start] using hv')
  | succ k ih =>
    rcases ih with ⟨h1, h2⟩ | ⟨h1, i, hi, e1, e2, e3⟩
    · by_cases hk : k < (run nb N s0 k).q.length
      · have e : run nb N s0 (k + 1) = scan nb ((run nb N s0 k).q.getD k 0) (run nb N s0 k) 4 := by simp only [run]; rw [if_pos hk]
        obtain ⟨g1, g2, g3, _⟩ := h2.scan hv hk rfl 4 (Nat.le_refl _)
        rw [e]
        exact .inl ⟨g3, g1.next g3⟩
      · have e : run nb N s0 (k + 1) = run nb N s0 k := by simp only [run]; rw [if_neg hk]
        rw [e]
        exact .inr ⟨by omega, k, by omega, rfl, by omega, h2⟩
    · have e : run nb N s0 (k + 1) = run nb N s0 k := by simp only [run]; rw [if_neg (by omega)]
      rw [e]
      exact .inr ⟨by omega, i, by omega, e1, e2, e3⟩
theorem run_stays {k : Nat} (h : (run nb N s0 k).q.length ≤ k) (i : Nat) (hi : k ≤ i) : run nb N s0 i = run nb N s0 k := by
  induction i with
  | zero => rw [show k = 0 by omega]
  | succ i ih =>
    rcases Nat.lt_or_eq_of_le hi with c | c
    · have e := ih (by omega)
      simp only [run]
      rw [e, if_neg (by omega)]
    · rw [c]
/-- where the search stops, the state is the last one -/
theorem run_end (hv : ∀ n i v, n < N → nb n i = some v → v < N) (hs : s0 < N) {k : Nat} (h : k = (run nb N s0 k).q.length) : run nb N s0 k = fin nb N s0 := by
  have hk : k ≤ N := by
    rcases run_bf hv hs k with ⟨_, b⟩ | ⟨a, _⟩
    · have := b.inv.len; omega
    · omega
  exact (run_stays (Nat.le_of_eq h.symm) N hk).symm
theorem fin_bf (hv : ∀ n i v, n < N → nb n i = some v → v < N) (hs : s0 < N) : Bf nb N s0 (fin nb N s0) (fin nb N s0).q.length 0 := by
  rcases run_bf hv hs N with ⟨a, b⟩ | ⟨a, i, hi, e1, e2, e3⟩
  · have := b.inv.len
    have e : (fin nb N s0).q.length = N := by unfold fin; omega
    rw [e]; exact b
  · have e : fin nb N s0 = run nb N s0 i := e1
    rw [e, ← e2]; exact e3
/-- what a search finds -/
structure Dist (nb : Nat → Nat → Option Nat) (N s0 : Nat) (F : Nat → Int) : Prop where
  f0 : F s0 = 0
  lo : ∀ v, v < N → -1 ≤ F v
  z : ∀ v, v < N → F v = 0 → v = s0
  re : ∀ u i v, u < N → i < 4 → 0 ≤ F u → nb u i = some v → 0 ≤ F v ∧ F v ≤ F u + 1
  pr : ∀ v, v < N → 0 < F v → ∃ u i, u < N ∧ i < 4 ∧ nb u i = some v ∧ F u = F v - 1
theorem fin_dist (hv : ∀ n i v, n < N → nb n i = some v → v < N) (hs : s0 < N) : Dist nb N s0 (f (fin nb N s0)) := by
  have h := fin_bf hv hs
  have np : ∀ v, v < N → 0 ≤ f (fin nb N s0) v → v = s0 ∨ ∃ u i, u < N ∧ i < 4 ∧ nb u i = some v ∧ f (fin nb N s0) v = f (fin nb N s0) u + 1 ∧ 0 ≤ f (fin nb N s0) u := fun v hvN hv0 => by
    have hq := (h.inv.fq v hvN).1 hv0
    rcases h.pr v hq with d | ⟨a, i, ha, _, hi, e1, e2⟩
    · exact .inl d
    · have hm := getD_mem _ _ ha
      exact .inr ⟨_, i, h.inv.qn _ hm, hi, e1, e2, (h.inv.fq _ (h.inv.qn _ hm)).2 hm⟩
  refine ⟨h.f0, fun v hvN => (h.inv.fm v hvN).1, fun v hvN e => ?_, fun u i v hu hi h0 hn => ?_, fun v hvN h0 => ?_⟩
  · rcases np v hvN (by omega) with d | ⟨u, i, _, _, _, e2, e3⟩
    · exact d
    · omega
  · obtain ⟨a, ha, e⟩ := mem_getD _ _ ((h.inv.fq u hu).1 h0)
    have := h.re a i v ha hi (.inl ha) (by rw [e]; exact hn)
    rwa [e] at this
  · rcases np v hvN (by omega) with d | ⟨u, i, hu, hi, e1, e2, _⟩
    · subst d; have := h.f0; omega
    · exact ⟨u, i, hu, hi, e1, by omega⟩
/-- there is just one -/
theorem Dist.uniq {F G : Nat → Int} (hv : ∀ n i v, n < N → nb n i = some v → v < N) (hF : Dist nb N s0 F) (hG : Dist nb N s0 G) : ∀ v, v < N → F v = G v := by
  have half : ∀ {F G : Nat → Int}, Dist nb N s0 F → Dist nb N s0 G → ∀ (n : Nat) v, v < N → F v = n → 0 ≤ G v ∧ G v ≤ n := by
    intro F G hF hG n
    induction n with
    | zero =>
      intro v hv' e
      rw [hF.z v hv' e, hG.f0]
      omega
    | succ n ih =>
      intro v hv' e
      obtain ⟨u, i, hu, hi, e1, e2⟩ := hF.pr v hv' (by omega)
      obtain ⟨x, y⟩ := ih u hu (by omega)
      obtain ⟨z, t⟩ := hG.re u i v hu hi x e1
      omega
  intro v hv'
  have l1 := hF.lo v hv'
  have l2 := hG.lo v hv'
  by_cases c : 0 ≤ F v
  · obtain ⟨a, b⟩ := half hF hG (F v).toNat v hv' (by omega)
    obtain ⟨a', b'⟩ := half hG hF (G v).toNat v hv' (by omega)
    omega
  · by_cases c' : 0 ≤ G v
    · obtain ⟨a', b'⟩ := half hG hF (G v).toNat v hv' (by omega)
      omega
    · omega
end
end Go.Proofs.Gm
/-
  Plain mathematics of a search breadth first: where one comes is told by lists. No program here.
-/
namespace Go.Proofs.Gm
open Go
set_option linter.unusedVariables false
set_option linter.unusedSimpArgs false
/-- where one comes, told by a list, as directions -/
def nbL (ls : Nat → List Nat) (u j : Nat) : Option Nat := (ls u)[j]?
theorem scan_fold (nb : Nat → Nat → Option Nat) (u : Nat) (s : St) (k : Nat) : scan nb u s k = ((List.range k).filterMap (nb u)).foldl (fun s m => visit u s (some m)) s := by
  induction k with
  | zero => rfl
  | succ k ih =>
    rw [List.range_succ, List.filterMap_append, List.foldl_append, ← ih]
    show visit u (scan nb u s k) (nb u k) = _
    cases h : nb u k with
    | none => simp [h, visit]
    | some m => simp [h]
theorem scan_nbL (ls : Nat → List Nat) (u : Nat) (s : St) (k : Nat) : scan (nbL ls) u s k = ((ls u).take k).foldl (fun s m => visit u s (some m)) s := by
  induction k with
  | zero => simp [scan]
  | succ k ih =>
    show visit u (scan (nbL ls) u s k) ((ls u)[k]?) = _
    rw [ih]
    by_cases hk : k < (ls u).length
    · rw [List.take_succ_eq_append_getElem hk, List.foldl_append, List.getElem?_eq_getElem hk]
      rfl
    · rw [List.getElem?_eq_none (by omega), List.take_of_length_le (by omega), List.take_of_length_le (by omega)]
      rfl
theorem scan_end (ls : Nat → List Nat) (u : Nat) (s : St) (k : Nat) (hk : (ls u).length ≤ k) : scan (nbL ls) u s k = scan (nbL ls) u s (ls u).length := by
  rw [scan_nbL, scan_nbL, List.take_of_length_le hk, List.take_of_length_le (Nat.le_refl _)]
/-- directions, as a list -/
def lsN (nb : Nat → Nat → Option Nat) (u : Nat) : List Nat := (List.range 4).filterMap (nb u)
theorem lsN_len (nb : Nat → Nat → Option Nat) (u : Nat) : (lsN nb u).length ≤ 4 := by
  unfold lsN
  exact Nat.le_trans (List.length_filterMap_le _ _) (by simp)
theorem run_lsN (nb : Nat → Nat → Option Nat) (N s0 k : Nat) : run (nbL (lsN nb)) N s0 k = run nb N s0 k := by
  induction k with
  | zero => rfl
  | succ k ih =>
    simp only [run]
    rw [ih]
    congr 1
    rw [scan_fold nb, scan_nbL, List.take_of_length_le (lsN_len nb _)]
    rfl
theorem fin_lsN (nb : Nat → Nat → Option Nat) (N s0 : Nat) : fin (nbL (lsN nb)) N s0 = fin nb N s0 := run_lsN nb N s0 N
theorem lsN_mem {nb : Nat → Nat → Option Nat} {u v : Nat} (h : v ∈ lsN nb u) : ∃ j, j < 4 ∧ nb u j = some v := by
  unfold lsN at h
  obtain ⟨j, hj, e⟩ := List.mem_filterMap.1 h
  exact ⟨j, List.mem_range.1 hj, e⟩
theorem nbL_valid {ls : Nat → List Nat} {N : Nat} (h : ∀ u, u < N → ∀ v ∈ ls u, v < N) : ∀ n i v, n < N → nbL ls n i = some v → v < N := fun n i v hn e => h n hn v (List.mem_of_getElem? e)
end Go.Proofs.Gm
/-
  Plain mathematics of a search: how many vertices are found. No program here.
-/
namespace Go.Proofs.Gm
open Go
set_option linter.unusedVariables false
set_option linter.unusedSimpArgs false
theorem far_map {N : Nat} {s : St} (h : s.far.length = N) : s.far = (List.range N).map (f s) := by
  apply List.ext_getElem
  · simp [h]
  · intro i h1 h2
    simp [f, List.getD, h1]
/-- so many are found as stand in the queue -/
theorem cnt_q {N : Nat} {s : St} (h : Inv N s) : (s.far.filter (fun d => decide (0 ≤ d))).length = s.q.length := by
  rw [far_map h.fl, List.filter_map, List.length_map]
  refine List.Perm.length_eq ((List.perm_ext_iff_of_nodup (List.Pairwise.filter _ List.nodup_range) h.nd).2 fun a => ?_)
  simp only [List.mem_filter, List.mem_range, Function.comp, decide_eq_true_eq]
  constructor
  · rintro ⟨h1, h2⟩
    exact (h.fq a h1).1 h2
  · intro hq
    have := h.qn a hq
    exact ⟨this, (h.fq a this).2 hq⟩
theorem q_le {N : Nat} {s : St} (h : Inv N s) : s.q.length ≤ N := h.len
/-- all are found -/
theorem all_q {N : Nat} {s : St} (h : Inv N s) : (-1 : Int) ∈ s.far ↔ s.q.length ≠ N := by
  constructor
  · intro hm e
    obtain ⟨i, hi, e1⟩ := List.mem_iff_getElem.1 hm
    have h1 : (s.far.filter (fun d => decide (0 ≤ d))).length = s.far.length := by rw [cnt_q h, e, h.fl]
    have h2 := List.length_filter_eq_length_iff.1 h1 _ hm
    simp at h2
  · intro hne
    refine Decidable.byContradiction fun hm => hne ?_
    rw [← cnt_q h, ← h.fl]
    refine List.length_filter_eq_length_iff.2 fun d hd => ?_
    obtain ⟨i, hi, e1⟩ := List.mem_iff_getElem.1 hd
    have := h.fm i (by rw [← h.fl]; exact hi)
    have e2 : f s i = d := by simp [f, List.getD, hi, e1]
    rw [e2] at this
    have hd1 : d ≠ -1 := fun e => hm (e ▸ hd)
    simp
    omega
end Go.Proofs.Gm
/-
  Plain mathematics of a search: where each way can be gone back, distances are the same both ways. No program here.
-/
namespace Go.Proofs.Gm
open Go
set_option linter.unusedVariables false
set_option linter.unusedSimpArgs false
section
variable {nb : Nat → Nat → Option Nat} {N : Nat}
theorem fin_le (hv : ∀ n i v, n < N → nb n i = some v → v < N) {t u : Nat} (ht : t < N) (hu : u < N) {j : Nat} (hj : j < 4) (e : nb t j = some u) :
    ∀ (m : Nat) v, v < N → f (fin nb N u) v = m → 0 ≤ f (fin nb N t) v ∧ f (fin nb N t) v ≤ m + 1 := by
  have hT := fin_dist hv ht
  have hU := fin_dist hv hu
  intro m
  induction m with
  | zero =>
    intro v hvN h
    rw [hU.z v hvN h]
    have := hT.re t j u ht hj (by rw [hT.f0]; omega) e
    rw [hT.f0] at this
    omega
  | succ m ih =>
    intro v hvN h
    obtain ⟨w, i, hw, hi, e1, e2⟩ := hU.pr v hvN (by omega)
    obtain ⟨a, b⟩ := ih w hw (by omega)
    obtain ⟨c, d⟩ := hT.re w i v hw hi a e1
    omega
theorem fin_back (hv : ∀ n i v, n < N → nb n i = some v → v < N) (hs : ∀ n i v, n < N → i < 4 → nb n i = some v → ∃ j, j < 4 ∧ nb v j = some n) :
    ∀ (n : Nat) s t, s < N → t < N → f (fin nb N s) t = n → 0 ≤ f (fin nb N t) s ∧ f (fin nb N t) s ≤ n := by
  intro n
  induction n with
  | zero =>
    intro s t hsN htN h
    have := (fin_dist hv hsN).z t htN h
    subst this
    rw [(fin_dist hv hsN).f0]
    omega
  | succ n ih =>
    intro s t hsN htN h
    obtain ⟨u, i, hu, hi, e1, e2⟩ := (fin_dist hv hsN).pr t htN (by omega)
    obtain ⟨a, b⟩ := ih s u hsN hu (by omega)
    obtain ⟨j, hj, e3⟩ := hs u i t hu hi e1
    obtain ⟨c, d⟩ := fin_le hv htN hu hj e3 (f (fin nb N u) s).toNat s hsN (by omega)
    omega
/-- the same both ways -/
theorem fin_sym (hv : ∀ n i v, n < N → nb n i = some v → v < N) (hs : ∀ n i v, n < N → i < 4 → nb n i = some v → ∃ j, j < 4 ∧ nb v j = some n) {s t : Nat} (hsN : s < N) (htN : t < N) :
    f (fin nb N s) t = f (fin nb N t) s := by
  have l1 := (fin_dist hv hsN).lo t htN
  have l2 := (fin_dist hv htN).lo s hsN
  by_cases c : 0 ≤ f (fin nb N s) t
  · obtain ⟨a, b⟩ := fin_back hv hs (f (fin nb N s) t).toNat s t hsN htN (by omega)
    obtain ⟨a', b'⟩ := fin_back hv hs (f (fin nb N t) s).toNat t s htN hsN (by omega)
    omega
  · by_cases c' : 0 ≤ f (fin nb N t) s
    · obtain ⟨a', b'⟩ := fin_back hv hs (f (fin nb N t) s).toNat t s htN hsN (by omega)
      omega
    · omega
end
end Go.Proofs.Gm
/-
  Plain mathematics of a search: how many ways of so many steps there are; the search counts the shortest ones. No program here.
-/
namespace Go.Proofs.Gm
open Go
set_option linter.unusedVariables false
set_option linter.unusedSimpArgs false
/-- four things added -/
def s4 (F : Nat → Nat) : Nat := F 0 + F 1 + F 2 + F 3
/-- N things added -/
def sm (F : Nat → Nat) : Nat → Nat
  | 0 => 0
  | k + 1 => sm F k + F k
theorem sm_congr {F G : Nat → Nat} {N : Nat} (h : ∀ w, w < N → F w = G w) : sm F N = sm G N := by
  induction N with
  | zero => rfl
  | succ N ih => simp only [sm]; rw [ih (fun w hw => h w (by omega)), h N (by omega)]
theorem sm_zero {F : Nat → Nat} {N : Nat} (h : ∀ w, w < N → F w = 0) : sm F N = 0 := by
  induction N with
  | zero => rfl
  | succ N ih => simp only [sm]; rw [ih (fun w hw => h w (by omega)), h N (by omega)]
theorem sm_add (F G : Nat → Nat) (N : Nat) : sm (fun w => F w + G w) N = sm F N + sm G N := by
  induction N with
  | zero => rfl
  | succ N ih => simp only [sm]; rw [ih]; omega
theorem sm_one {F : Nat → Nat} {N u : Nat} (hu : u < N) (h : ∀ w, w < N → w ≠ u → F w = 0) : sm F N = F u := by
  induction N with
  | zero => omega
  | succ N ih =>
    simp only [sm]
    by_cases e : u = N
    · subst e
      rw [sm_zero (fun w hw => h w (by omega) (by omega))]
      omega
    · rw [ih (by omega) (fun w hw hne => h w (by omega) hne), h N (by omega) (Ne.symm e)]
      omega
theorem s4_sm (G : Nat → Nat → Nat) (N : Nat) : s4 (fun i => sm (G i) N) = sm (fun w => s4 (fun i => G i w)) N := by
  unfold s4
  rw [sm_add, sm_add, sm_add]
/-- one may add by a list without repetition, where all others are 0 -/
theorem sm_list {F : Nat → Nat} {N : Nat} (q : List Nat) (hd : q.Nodup) (hq : ∀ u ∈ q, u < N) (h : ∀ w, w < N → w ∉ q → F w = 0) : sm F N = (q.map F).sum := by
  induction q generalizing F with
  | nil => exact sm_zero (fun w hw => h w hw (by simp))
  | cons u q ih =>
    obtain ⟨hu, hd'⟩ := List.nodup_cons.1 hd
    have e : sm F N = sm (fun w => if w = u then 0 else F w) N + sm (fun w => if w = u then F w else 0) N := by
      rw [← sm_add]
      refine sm_congr fun w _ => ?_
      by_cases c : w = u <;> simp [c]
    rw [e, ih hd' (fun w hw => hq w (by simp [hw])) (fun w hw hn => by
      by_cases c : w = u
      · simp [c]
      · rw [if_neg c]; exact h w hw (by simp [c, hn])), sm_one (u := u) (hq u (by simp)) (fun w _ hne => by simp [hne])]
    simp only [if_pos rfl, List.map_cons, List.sum_cons]
    have : q.map (fun w => if w = u then 0 else F w) = q.map F := List.map_congr_left fun w hw => by
      have c : w ≠ u := fun c => hu (by rw [← c]; exact hw)
      rw [if_neg c]
    rw [this]
    simp only [if_true]
    omega
section
variable {nb : Nat → Nat → Option Nat} {N s0 : Nat}
def ht (o : Option Nat) (v : Nat) : Nat := if o = some v then 1 else 0
/-- how many directions lead from one to another one -/
def ed (nb : Nat → Nat → Option Nat) (w v : Nat) : Nat := s4 (fun i => ht (nb w i) v)
/-- how many ways of n steps there are -/
def pth (nb : Nat → Nat → Option Nat) : Nat → Nat → Nat → Nat
  | 0, u, v => if u = v then 1 else 0
  | n + 1, u, v => s4 (fun i => match nb u i with | some w => pth nb n w v | none => 0)
theorem pth_succ (hv : ∀ n i v, n < N → nb n i = some v → v < N) : ∀ (n u v : Nat), u < N → pth nb (n + 1) u v = sm (fun w => pth nb n u w * ed nb w v) N := by
  intro n
  induction n with
  | zero =>
    intro u v hu
    rw [sm_one hu (fun w _ hne => by simp [pth, Ne.symm hne])]
    simp only [pth, ed, if_true, Nat.one_mul]
    unfold s4 ht
    have k : ∀ i, (match nb u i with | some w => if w = v then 1 else 0 | none => 0) = if nb u i = some v then 1 else 0 := fun i => by
      cases h : nb u i with
      | none => simp
      | some w => simp
    show (match nb u 0 with | some w => if w = v then 1 else 0 | none => 0) + (match nb u 1 with | some w => if w = v then 1 else 0 | none => 0) + (match nb u 2 with | some w => if w = v then 1 else 0 | none => 0) + (match nb u 3 with | some w => if w = v then 1 else 0 | none => 0) = _
    rw [k, k, k, k]
  | succ n ih =>
    intro u v hu
    have e : pth nb (n + 1 + 1) u v = s4 (fun i => sm (fun w => (match nb u i with | some x => pth nb n x w | none => 0) * ed nb w v) N) := by
      show s4 (fun i => match nb u i with | some w => pth nb (n + 1) w v | none => 0) = _
      congr 1
      funext i
      cases h : nb u i with
      | none => simp only []; rw [sm_zero (fun w _ => by simp)]
      | some x => exact ih x v (hv u i x hu h)
    rw [e, s4_sm]
    refine sm_congr fun w _ => ?_
    show _ = s4 (fun i => match nb u i with | some x => pth nb n x w | none => 0) * ed nb w v
    unfold s4
    rw [Nat.add_mul, Nat.add_mul, Nat.add_mul]
/-- what can be gone is found, no farther -/
theorem pth_pos (hv : ∀ n i v, n < N → nb n i = some v → v < N) {F : Nat → Int} (hF : Dist nb N s0 F) (hs : s0 < N) : ∀ (n v : Nat), v < N → pth nb n s0 v ≠ 0 → 0 ≤ F v ∧ F v ≤ n := by
  intro n
  induction n with
  | zero =>
    intro v hvN h
    simp only [pth] at h
    have : s0 = v := Decidable.byContradiction fun c => h (by rw [if_neg c])
    rw [← this, hF.f0]
    omega
  | succ n ih =>
    intro v hvN h
    rw [pth_succ hv n s0 v hs] at h
    have : ∃ w, w < N ∧ pth nb n s0 w * ed nb w v ≠ 0 := Decidable.byContradiction fun c => h (sm_zero fun w hw => Decidable.byContradiction fun d => c ⟨w, hw, d⟩)
    obtain ⟨w, hw, hp⟩ := this
    obtain ⟨a, b⟩ := ih w hw (fun e => hp (by rw [e, Nat.zero_mul]))
    have he : ed nb w v ≠ 0 := fun e => hp (by rw [e, Nat.mul_zero])
    have : ∃ i, i < 4 ∧ nb w i = some v := by
      refine Decidable.byContradiction fun c => he ?_
      have z : ∀ i, i < 4 → ht (nb w i) v = 0 := fun i hi => by unfold ht; rw [if_neg (fun q => c ⟨i, hi, q⟩)]
      show ht (nb w 0) v + ht (nb w 1) v + ht (nb w 2) v + ht (nb w 3) v = 0
      rw [z 0 (by omega), z 1 (by omega), z 2 (by omega), z 3 (by omega)]
    obtain ⟨i, hi, e⟩ := this
    have := hF.re w i v hw hi a e
    omega
/-- what is found stays found -/
structure Ext (s t : St) : Prop where
  f : ∀ x, 0 ≤ f s x → f t x = f s x
  q : ∀ a, a < s.q.length → t.q.getD a 0 = s.q.getD a 0
  l : s.q.length ≤ t.q.length
theorem Ext.refl (s : St) : Ext s s := ⟨fun _ _ => rfl, fun _ _ => rfl, Nat.le_refl _⟩
theorem Ext.trans {s t r : St} (h : Ext s t) (k : Ext t r) : Ext s r :=
  ⟨fun x hx => by rw [k.f x (by rw [h.f x hx]; exact hx), h.f x hx], fun a ha => by rw [k.q a (Nat.lt_of_lt_of_le ha h.l), h.q a ha], Nat.le_trans h.l k.l⟩
theorem ext_visit {s : St} {u : Nat} {o : Option Nat} (h : Inv N s) (ho : ∀ m, o = some m → m < N) : Ext s (visit u s o) := by
  cases o with
  | none => exact Ext.refl s
  | some m =>
    have hm := ho m rfl
    refine ⟨fun x hx => f_keep h hm x hx, fun a ha => ?_, ?_⟩
    · rw [q_visit]; split
      · exact app_lo _ _ _ ha
      · rfl
    · rw [q_visit]; split
      · simp
      · exact Nat.le_refl _
variable {s : St} {u k : Nat}
theorem ext_scan (hv : ∀ n i v, n < N → nb n i = some v → v < N) (h : Bf nb N s0 s k 0) (hk : k < s.q.length) (hu : s.q.getD k 0 = u) (j : Nat) : ∀ i, j + i ≤ 4 → Ext (scan nb u s j) (scan nb u s (j + i)) := by
  intro i
  induction i with
  | zero => intro _; exact Ext.refl _
  | succ i ih =>
    intro hi
    refine (ih (by omega)).trans ?_
    obtain ⟨b, _, _, _⟩ := h.scan hv hk hu (j + i) (by omega)
    have huN : u < N := by rw [← hu]; exact h.inv.qn _ (getD_mem _ _ hk)
    exact ext_visit b.inv (fun m e => hv u (j + i) m huN e)
theorem run_bf' (hv : ∀ n i v, n < N → nb n i = some v → v < N) (hs : s0 < N) (hk : k < (run nb N s0 k).q.length) : Bf nb N s0 (run nb N s0 k) k 0 := by
  rcases run_bf hv hs k with ⟨_, b⟩ | ⟨a, _⟩
  · exact b
  · omega
theorem run_next (hk : k < (run nb N s0 k).q.length) : run nb N s0 (k + 1) = scan nb ((run nb N s0 k).q.getD k 0) (run nb N s0 k) 4 := by
  simp only [run]; rw [if_pos hk]
theorem ext_run (hv : ∀ n i v, n < N → nb n i = some v → v < N) (hs : s0 < N) (k : Nat) : ∀ i, Ext (run nb N s0 k) (run nb N s0 (k + i)) := by
  intro i
  induction i with
  | zero => exact Ext.refl _
  | succ i ih =>
    refine ih.trans ?_
    by_cases hk : k + i < (run nb N s0 (k + i)).q.length
    · rw [show k + (i + 1) = k + i + 1 from rfl, run_next hk]
      exact ext_scan hv (run_bf' hv hs hk) hk rfl 0 4 (by omega)
    · rw [show run nb N s0 (k + (i + 1)) = run nb N s0 (k + i) from by show run nb N s0 (k + i + 1) = _; simp only [run]; rw [if_neg hk]]
      exact Ext.refl _
theorem ext_fin (hv : ∀ n i v, n < N → nb n i = some v → v < N) (hs : s0 < N) (hk : k ≤ N) : Ext (run nb N s0 k) (fin nb N s0) := by
  have := ext_run (nb := nb) hv hs k (N - k)
  rwa [show k + (N - k) = N by omega] at this
/-- some directions -/
def edp (nb : Nat → Nat → Option Nat) (w v : Nat) : Nat → Nat
  | 0 => 0
  | j + 1 => edp nb w v j + ht (nb w j) v
theorem edp_all (w v : Nat) : edp nb w v 4 = ed nb w v := by simp [edp, ed, s4]
theorem edp_zero {w v j : Nat} (h : ∀ i, i < j → nb w i ≠ some v) : edp nb w v j = 0 := by
  induction j with
  | zero => rfl
  | succ j ih => simp only [edp]; rw [ih (fun i hi => h i (by omega))]; unfold ht; rw [if_neg (h j (by omega))]
/-- what is added up so far, told by what is found at last -/
def trm (nb : Nat → Nat → Option Nat) (F : Nat → Int) (s0 v w : Nat) : Nat := if F w + 1 = F v then pth nb (F w).toNat s0 w * ed nb w v else 0
def tt (nb : Nat → Nat → Option Nat) (F : Nat → Int) (Q : List Nat) (s0 k j v : Nat) : Nat :=
  (if v = s0 then 1 else 0) + ((Q.take k).map (trm nb F s0 v)).sum + (if F (Q.getD k 0) + 1 = F v then pth nb (F (Q.getD k 0)).toNat s0 (Q.getD k 0) * edp nb (Q.getD k 0) v j else 0)
theorem tt_next {F : Nat → Int} {Q : List Nat} {v : Nat} (hk : k < Q.length) : tt nb F Q s0 k 4 v = tt nb F Q s0 (k + 1) 0 v := by
  unfold tt
  rw [edp_all, ← List.take_append_getElem hk, List.map_append, List.sum_append]
  have e : Q.getD k 0 = Q[k] := by simp [List.getD, hk]
  rw [e]
  simp only [edp, Nat.mul_zero, ite_self, List.map_cons, List.map_nil, List.sum_cons, List.sum_nil]
  show _ + (if F Q[k] + 1 = F v then pth nb (F Q[k]).toNat s0 Q[k] * ed nb Q[k] v else 0) = _ + (_ + (trm nb F s0 v Q[k] + 0)) + 0
  unfold trm
  omega
theorem sum_zero {l : List Nat} {G : Nat → Nat} (h : ∀ w ∈ l, G w = 0) : (l.map G).sum = 0 := by
  induction l with
  | nil => rfl
  | cons x l ih => simp only [List.map_cons, List.sum_cons]; rw [h x (by simp), ih (fun w hw => h w (by simp [hw]))]
/-- the counts, so far -/
def Wv (nb : Nat → Nat → Option Nat) (N s0 : Nat) (s : St) (k j : Nat) : Prop :=
  ∀ v, v < N → 0 ≤ f s v → g s v = IntKind.i64.wrap (tt nb (f (fin nb N s0)) (fin nb N s0).q s0 k j v : Nat)
theorem mem_take {Q : List Nat} {w : Nat} (h : w ∈ Q.take k) : ∃ a, a < k ∧ a < Q.length ∧ Q.getD a 0 = w := by
  obtain ⟨a, ha, e⟩ := List.mem_iff_getElem.1 h
  rw [List.length_take] at ha
  refine ⟨a, by omega, by omega, ?_⟩
  rw [List.getElem_take] at e
  simp only [List.getD, List.getElem?_eq_getElem (show a < Q.length by omega), Option.getD_some, e]
theorem wrap_wrap_add (a b : Nat) : IntKind.i64.wrap (IntKind.i64.wrap (a : Int) + IntKind.i64.wrap (b : Int)) = IntKind.i64.wrap ((a + b : Nat) : Int) := by
  simp only [IntKind.wrap_i64]; (try unfold wrap64); push_cast; omega
theorem Wv.visit {j : Nat} (hv : ∀ n i v, n < N → nb n i = some v → v < N) (h : Bf nb N s0 s k j) (hk : k < s.q.length) (hj : j < 4) (hu : s.q.getD k 0 = u)
    (hE : Ext (Gm.visit u s (nb u j)) (fin nb N s0)) (hg : g s u = IntKind.i64.wrap (pth nb (f s u).toNat s0 u : Nat)) (hW : Wv nb N s0 s k j) :
    Wv nb N s0 (Gm.visit u s (nb u j)) k (j + 1) ∧ g (Gm.visit u s (nb u j)) u = g s u := by
  have hum : u ∈ s.q := hu ▸ getD_mem _ _ hk
  have huN := h.inv.qn u hum
  have hu0 := (h.inv.fq u huN).2 hum
  have hE0 : Ext s (fin nb N s0) := (ext_visit h.inv (fun m e => hv u j m huN e)).trans hE
  have hQk : (fin nb N s0).q.getD k 0 = u := by rw [hE0.q k hk, hu]
  have hFu : f (fin nb N s0) u = f s u := hE0.f u hu0
  cases hnb : nb u j with
  | none =>
    refine ⟨fun v hvN hv0 => ?_, rfl⟩
    have := hW v hvN hv0
    unfold tt at this ⊢
    simp only [edp]
    rw [hQk] at this ⊢
    rw [hnb]
    show g s v = _
    simpa [ht] using this
  | some m =>
    have hm : m < N := hv u j m huN hnb
    rw [hnb] at hE
    have hfv := f_visit (u := u) h.inv hm
    have hgv := g_visit (u := u) h.inv hm
    have hmF := hE.f m
    refine ⟨fun v hvN hv0 => ?_, ?_⟩
    · unfold tt
      simp only [edp]
      rw [hQk, hnb, hFu]
      by_cases e : m = v
      · subst e
        by_cases hn : f s m < 0
        · have f1 : f (Gm.visit u s (some m)) m = f s u + 1 := by rw [hfv, if_pos ⟨rfl, hn⟩]
          have f2 : f (fin nb N s0) m = f s u + 1 := by rw [hmF (by rw [f1]; omega), f1]
          have m0 : m ≠ s0 := fun e => by rw [e, h.f0] at hn; omega
          have z1 : edp nb u m j = 0 := edp_zero fun i hi e => by
            have := (h.re k i m hk (by omega) (.inr ⟨rfl, hi⟩) (by rw [hu]; exact e)).1
            omega
          have z2 : (((fin nb N s0).q.take k).map (trm nb (f (fin nb N s0)) s0 m)).sum = 0 := sum_zero fun w hw => by
            obtain ⟨a, ha, _, e⟩ := mem_take hw
            rw [hE0.q a (by omega)] at e
            unfold trm
            have : ed nb w m = 0 := by
              rw [← edp_all]
              refine edp_zero fun i hi e2 => ?_
              have := (h.re a i m (by omega) hi (.inl ha) (by rw [e]; exact e2)).1
              omega
            rw [this, Nat.mul_zero]; simp
          rw [f2, z1, z2, if_neg m0, if_pos rfl]
          rw [hgv, if_pos ⟨rfl, .inl hn⟩, h.inv.w0 m hm hn, hg]
          simp only [ht, if_true, Nat.zero_add, Nat.mul_one]
          have := wrap_wrap_add 0 (pth nb (f s u).toNat s0 u)
          rw [show IntKind.i64.wrap ((0 : Nat) : Int) = 0 from by decide, Nat.zero_add] at this
          exact this
        · have f2 : f (fin nb N s0) m = f s m := hE0.f m (by omega)
          have hw := hW m hm (by omega)
          unfold tt at hw
          rw [hQk, hFu, f2] at hw
          rw [f2]
          by_cases hc : f s m = f s u + 1
          · rw [hgv, if_pos ⟨rfl, .inr hc⟩, hw, hg, if_pos hc.symm, if_pos hc.symm, wrap_wrap_add]
            simp only [ht, if_true, Nat.mul_add, Nat.mul_one, Nat.add_assoc]
          · rw [hgv, if_neg (fun x => x.2.elim hn hc), hw, if_neg (Ne.symm hc), if_neg (Ne.symm hc)]
      · have f1 : f (Gm.visit u s (some m)) v = f s v := by rw [hfv, if_neg (fun x => e x.1)]
        rw [f1] at hv0
        have hw := hW v hvN hv0
        unfold tt at hw
        rw [hQk, hFu] at hw
        rw [hgv, if_neg (fun x => e x.1), hw]
        have : ht (some m) v = 0 := by unfold ht; rw [if_neg (fun x => e (Option.some.inj x))]
        rw [this, Nat.add_zero]
    · rw [hgv, if_neg]
      rintro ⟨rfl, x | x⟩
      · omega
      · omega
theorem ed_pos {w v : Nat} (h : ed nb w v ≠ 0) : ∃ i, i < 4 ∧ nb w i = some v := by
  refine Decidable.byContradiction fun c => h ?_
  have z : ∀ i, i < 4 → ht (nb w i) v = 0 := fun i hi => by unfold ht; rw [if_neg (fun q => c ⟨i, hi, q⟩)]
  show ht (nb w 0) v + ht (nb w 1) v + ht (nb w 2) v + ht (nb w 3) v = 0
  rw [z 0 (by omega), z 1 (by omega), z 2 (by omega), z 3 (by omega)]
/-- where all that lead there are looked at, all ways are counted -/
theorem tt_fin (hv : ∀ n i v, n < N → nb n i = some v → v < N) (hs : s0 < N) {v : Nat} (hvN : v < N) (h0 : 0 ≤ f (fin nb N s0) v)
    (hp : ∀ w, w < N → 0 ≤ f (fin nb N s0) w → f (fin nb N s0) w + 1 = f (fin nb N s0) v → w ∈ (fin nb N s0).q.take k) :
    tt nb (f (fin nb N s0)) (fin nb N s0).q s0 k 0 v = pth nb (f (fin nb N s0) v).toNat s0 v := by
  have hD := fin_dist hv hs
  have hI := (fin_bf hv hs).inv
  have hin : ∀ w ∈ (fin nb N s0).q.take k, w < N ∧ 0 ≤ f (fin nb N s0) w := fun w hw => by
    have hq := List.mem_of_mem_take hw
    exact ⟨hI.qn w hq, (hI.fq w (hI.qn w hq)).2 hq⟩
  unfold tt
  simp only [edp, Nat.mul_zero, ite_self, Nat.add_zero]
  generalize hF : f (fin nb N s0) = F at *
  rcases Int.lt_or_le 0 (F v) with c | c
  · obtain ⟨n, hn⟩ : ∃ n : Nat, F v = n + 1 := ⟨(F v - 1).toNat, by omega⟩
    have hne : v ≠ s0 := fun e => by rw [e, hD.f0] at hn; omega
    have key : ∀ w, w < N → pth nb n s0 w * ed nb w v ≠ 0 → 0 ≤ F w ∧ F w = n := fun w hw hz => by
      obtain ⟨a, b⟩ := pth_pos hv hD hs n w hw (fun e => hz (by rw [e, Nat.zero_mul]))
      obtain ⟨i, hi, e⟩ := ed_pos (fun e => hz (by rw [e, Nat.mul_zero]))
      have := hD.re w i v hw hi a e
      omega
    rw [if_neg hne, show (F v).toNat = n + 1 by omega, pth_succ hv n s0 v hs, Nat.zero_add]
    rw [sm_list ((fin nb N s0).q.take k) (hI.nd.sublist (List.take_sublist _ _)) (fun w hw => (hin w hw).1) (fun w hw hnot => Decidable.byContradiction fun hz => by
      obtain ⟨a, b⟩ := key w hw hz
      exact hnot (hp w hw a (by omega)))]
    congr 1
    refine List.map_congr_left fun w hw => ?_
    obtain ⟨a, b⟩ := hin w hw
    unfold trm
    by_cases e : F w + 1 = F v
    · rw [if_pos e, show (F w).toNat = n by omega]
    · rw [if_neg e]
      exact (Decidable.byContradiction fun hz => by
        have := (key w a (Ne.symm hz)).2
        omega)
  · have e0 : F v = 0 := by omega
    have e1 : v = s0 := hD.z v hvN e0
    rw [if_pos e1, e0, sum_zero fun w hw => by
      obtain ⟨a, b⟩ := hin w hw
      unfold trm
      rw [if_neg (by omega)]]
    simp [pth, e1]
theorem Wv.scan (hv : ∀ n i v, n < N → nb n i = some v → v < N) (hs : s0 < N) (hkN : k < N) (h : Bf nb N s0 s k 0) (hk : k < s.q.length) (hu : s.q.getD k 0 = u) (hE : Ext (scan nb u s 4) (fin nb N s0))
    (hg : g s u = IntKind.i64.wrap (pth nb (f s u).toNat s0 u : Nat)) (hW : Wv nb N s0 s k 0) : ∀ j, j ≤ 4 → Wv nb N s0 (scan nb u s j) k j ∧ g (scan nb u s j) u = g s u := by
  intro j
  induction j with
  | zero => intro _; exact ⟨hW, rfl⟩
  | succ j ih =>
    intro hj
    obtain ⟨w1, w2⟩ := ih (by omega)
    obtain ⟨b1, b2, b3, b4⟩ := h.scan hv hk hu j (by omega)
    have hum : u ∈ s.q := hu ▸ getD_mem _ _ hk
    have hu0 := (h.inv.fq u (h.inv.qn u hum)).2 hum
    have e : Ext (Gm.scan nb u s (j + 1)) (fin nb N s0) := by
      have := ext_scan hv h hk hu (j + 1) (3 - j) (by omega)
      rw [show j + 1 + (3 - j) = 4 by omega] at this
      exact this.trans hE
    obtain ⟨z1, z2⟩ := Wv.visit hv b1 b3 (by omega) b2 e (by rw [w2, b4 u hu0]; exact hg) w1
    exact ⟨z1, by show g (Gm.visit u (Gm.scan nb u s j) (nb u j)) u = _; rw [z2, w2]⟩
theorem wv_run (hv : ∀ n i v, n < N → nb n i = some v → v < N) (hs : s0 < N) : ∀ k, k ≤ N → k ≤ (run nb N s0 k).q.length → Wv nb N s0 (run nb N s0 k) k 0 := by
  intro k
  induction k with
  | zero =>
    intro _ _ v hvN hv0
    obtain ⟨hI, hf, hg⟩ := start_inv hs
    have hE : Ext (start N s0) (fin nb N s0) := ext_fin (k := 0) hv hs (Nat.zero_le _)
    have : v = s0 := by
      have := (hI.fq v hvN).1 hv0
      simpa [start] using this
    subst this
    show g (start N v) v = _
    rw [hg]
    simp only [tt, edp, List.take_zero, List.map_nil, List.sum_nil, if_true, Nat.mul_zero, ite_self]
    decide
  | succ k ih =>
    intro hkN hk
    by_cases hlt : k < (run nb N s0 k).q.length
    · have hW := ih (by omega) (by omega)
      have hb := run_bf' hv hs hlt
      have hE := ext_fin (nb := nb) (k := k + 1) hv hs hkN
      have hE0 := ext_fin (nb := nb) (k := k) hv hs (by omega)
      rw [run_next hlt] at hE ⊢
      have hum := getD_mem _ _ hlt
      generalize hu : (run nb N s0 k).q.getD k 0 = u at *
      have huN := hb.inv.qn u hum
      have hu0 := (hb.inv.fq u huN).2 hum
      have hFu := hE0.f u hu0
      have hQk : (fin nb N s0).q.getD k 0 = u := by rw [hE0.q k hlt, hu]
      have hfin := fin_bf hv hs
      have hpre := tt_fin (k := k) hv hs huN (by rw [hFu]; exact hu0) (fun w hw hw0 e => by
        obtain ⟨a, ha, ea⟩ := mem_getD _ _ ((hfin.inv.fq w hw).1 hw0)
        have hkQ : k < (fin nb N s0).q.length := Nat.lt_of_lt_of_le hlt hE0.l
        have hak : a < k := Nat.lt_of_not_le fun c => by
          have := hfin.so k a c ha
          rw [hQk, ea] at this
          omega
        refine List.mem_iff_getElem.2 ⟨a, by rw [List.length_take]; omega, ?_⟩
        rw [List.getElem_take]
        simpa [List.getD, ha] using ea)
      have hg := hW u huN hu0
      rw [hpre, hFu] at hg
      obtain ⟨z1, _⟩ := Wv.scan hv hs (by omega) hb hlt hu hE hg hW 4 (Nat.le_refl _)
      intro v hvN hv0
      rw [← tt_next (Nat.lt_of_lt_of_le hlt hE0.l)]
      exact z1 v hvN hv0
    · have : run nb N s0 (k + 1) = run nb N s0 k := by simp only [run]; rw [if_neg hlt]
      rw [this] at hk
      omega
/-- the search counts the shortest ways -/
theorem fin_ways (hv : ∀ n i v, n < N → nb n i = some v → v < N) (hs : s0 < N) {v : Nat} (hvN : v < N) (h0 : 0 ≤ f (fin nb N s0) v) :
    g (fin nb N s0) v = IntKind.i64.wrap (pth nb (f (fin nb N s0) v).toNat s0 v : Nat) := by
  have hlen := (fin_bf hv hs).inv.len
  have he : run nb N s0 (fin nb N s0).q.length = fin nb N s0 := by
    rcases run_bf hv hs N with ⟨a, b⟩ | ⟨a, i, hi, e1, e2, e3⟩
    · have e : (fin nb N s0).q.length = N := by unfold fin; unfold fin at hlen; omega
      rw [e]; rfl
    · have e : fin nb N s0 = run nb N s0 i := e1
      rw [e, ← e2]
  have hW := wv_run hv hs (fin nb N s0).q.length hlen (by rw [he]; exact Nat.le_refl _)
  rw [he] at hW
  rw [hW v hvN h0, tt_fin hv hs hvN h0 (fun w hw hw0 _ => by
    rw [List.take_length]
    exact ((fin_bf hv hs).inv.fq w hw).1 hw0)]
end
end Go.Proofs.Gm
/-
  Plain mathematics of a search: the shortest ways counted level by level from their end. No program here.
-/
namespace Go.Proofs.Gm
open Go
set_option linter.unusedVariables false
set_option linter.unusedSimpArgs false
section
variable {nb : Nat → Nat → Option Nat} {N s0 t0 : Nat}
theorem s4_ed (hv : ∀ n i v, n < N → nb n i = some v → v < N) {u : Nat} (hu : u < N) (G : Nat → Nat) : s4 (fun i => match nb u i with | some w => G w | none => 0) = sm (fun w => ed nb u w * G w) N := by
  have e : ∀ i, (match nb u i with | some w => G w | none => 0) = sm (fun w => ht (nb u i) w * G w) N := fun i => by
    cases h : nb u i with
    | none => simp only []; rw [sm_zero (fun w _ => by simp [ht])]
    | some x =>
      simp only []
      rw [sm_one (u := x) (hv u i x hu h) (fun w _ hne => by simp [ht, Ne.symm hne])]
      simp [ht]
  have : (fun i => match nb u i with | some w => G w | none => 0) = fun i => sm (fun w => ht (nb u i) w * G w) N := funext e
  rw [this, s4_sm]
  refine sm_congr fun w _ => ?_
  show ht (nb u 0) w * G w + ht (nb u 1) w * G w + ht (nb u 2) w * G w + ht (nb u 3) w * G w = (ht (nb u 0) w + ht (nb u 1) w + ht (nb u 2) w + ht (nb u 3) w) * G w
  rw [Nat.add_mul, Nat.add_mul, Nat.add_mul]
theorem pth_sym (hv : ∀ n i v, n < N → nb n i = some v → v < N) (he : ∀ u v, u < N → v < N → ed nb u v = ed nb v u) : ∀ (n u v : Nat), u < N → v < N → pth nb n u v = pth nb n v u := by
  intro n
  induction n with
  | zero =>
    intro u v _ _
    simp only [pth]
    by_cases e : u = v
    · rw [if_pos e, if_pos e.symm]
    · rw [if_neg e, if_neg (Ne.symm e)]
  | succ n ih =>
    intro u v hu hvN
    rw [pth_succ hv n u v hu]
    show _ = s4 (fun i => match nb v i with | some w => pth nb n w u | none => 0)
    rw [s4_ed hv hvN]
    refine sm_congr fun w hw => ?_
    rw [ih u w hu hw, he w v hw hvN, Nat.mul_comm]
/-- some directions of a way on -/
def pp (nb : Nat → Nat → Option Nat) (n u t0 : Nat) : Nat → Nat
  | 0 => 0
  | j + 1 => pp nb n u t0 j + (match nb u j with | some w => pth nb n w t0 | none => 0)
theorem pp_all (n u : Nat) : pp nb n u t0 4 = pth nb (n + 1) u t0 := by
  show 0 + (match nb u 0 with | some w => pth nb n w t0 | none => 0) + (match nb u 1 with | some w => pth nb n w t0 | none => 0) + (match nb u 2 with | some w => pth nb n w t0 | none => 0) + (match nb u 3 with | some w => pth nb n w t0 | none => 0) = _
  rw [Nat.zero_add]
  rfl
theorem pth_off (hv : ∀ n i v, n < N → nb n i = some v → v < N) (he : ∀ u v, u < N → v < N → ed nb u v = ed nb v u) {F : Nat → Int} (hF : Dist nb N t0 F) (ht0 : t0 < N) {n w : Nat} (hw : w < N) (h : pth nb n w t0 ≠ 0) : 0 ≤ F w ∧ F w ≤ n :=
  pth_pos hv hF ht0 n w hw (by rw [pth_sym hv he n t0 w ht0 hw]; exact h)
/-- what is told of v while level n is at vertex k and direction j -/
def ex (nb : Nat → Nat → Option Nat) (F : Nat → Int) (t0 n k j v : Nat) : Int :=
  if 0 ≤ F v ∧ (F v < n ∨ F v = n ∧ v < k) then IntKind.i64.wrap (pth nb (F v).toNat v t0 : Nat) else if F v = n ∧ v = k then IntKind.i64.wrap (pp nb (n - 1) v t0 j : Nat) else 0
def wl (nb : Nat → Nat → Option Nat) (F : Nat → Int) (N t0 n k j : Nat) : List Int := (List.range N).map (ex nb F t0 n k j)
theorem wl_len (F : Nat → Int) (n k j : Nat) : (wl nb F N t0 n k j).length = N := by simp [wl]
theorem wl_get {F : Nat → Int} {n k j v : Nat} (h : v < N) : (wl nb F N t0 n k j).getD v 0 = ex nb F t0 n k j v := by simp [wl, List.getD, h]
theorem wl_ext {l : List Int} {F : Nat → Int} {n k j : Nat} (hl : l.length = N) (h : ∀ v, v < N → l.getD v 0 = ex nb F t0 n k j v) : l = wl nb F N t0 n k j := by
  apply List.ext_getElem
  · simp [wl, hl]
  · intro i h1 h2
    have := h i (by omega)
    simp only [List.getD, List.getElem?_eq_getElem h1, Option.getD_some] at this
    rw [this]; simp [wl]
theorem wrap_one : IntKind.i64.wrap ((1 : Nat) : Int) = 1 := by decide
theorem wl_start {F : Nat → Int} (hF : Dist nb N t0 F) (ht0 : t0 < N) : (List.replicate N (0 : Int)).set t0 1 = wl nb F N t0 1 0 0 := by
  refine wl_ext (by simp) fun v hv => ?_
  rw [getD_set _ _ _ _ _ (by simpa using ht0)]
  unfold ex
  by_cases e : t0 = v
  · subst e
    rw [if_pos rfl, if_pos ⟨by rw [hF.f0]; omega, .inl (by rw [hF.f0]; omega)⟩, hF.f0]
    simp only [pth, if_true, Int.toNat_zero]
    decide
  · rw [if_neg e]
    have h1 : ¬ (0 ≤ F v ∧ (F v < (1 : Nat) ∨ F v = (1 : Nat) ∧ v < 0)) := by
      rintro ⟨a, b | b⟩
      · exact e (hF.z v hv (by omega)).symm
      · omega
    rw [if_neg h1]
    simp only [pp]
    have : (List.replicate N (0 : Int)).getD v 0 = 0 := by simp [List.getD, hv]
    rw [this]
    split <;> decide
/-- a vertex of another level is passed -/
theorem wl_pass {F : Nat → Int} {n k : Nat} (h : F k ≠ n) : wl nb F N t0 n k 0 = wl nb F N t0 n (k + 1) 0 := by
  refine wl_ext (wl_len F n k 0) fun v hv => ?_
  rw [wl_get hv]
  unfold ex
  by_cases e : v = k
  · subst e
    rw [if_neg (show ¬ (F v = (n : Int) ∧ v = v) from fun q => h q.1), if_neg (show ¬ (F v = (n : Int) ∧ v = v + 1) from fun q => h q.1)]
    have : (0 ≤ F v ∧ (F v < (n : Int) ∨ F v = (n : Int) ∧ v < v)) ↔ (0 ≤ F v ∧ (F v < (n : Int) ∨ F v = (n : Int) ∧ v < v + 1)) := by omega
    simp only [this]
  · have : (0 ≤ F v ∧ (F v < (n : Int) ∨ F v = (n : Int) ∧ v < k)) ↔ (0 ≤ F v ∧ (F v < (n : Int) ∨ F v = (n : Int) ∧ v < k + 1)) := by omega
    simp only [this]
    split
    · rfl
    · rw [if_neg (fun q => e q.2)]
      simp only [pp]
      split <;> decide
/-- a vertex of this level is done -/
theorem wl_done {F : Nat → Int} {n k : Nat} (hn : 1 ≤ n) : wl nb F N t0 n k 4 = wl nb F N t0 n (k + 1) 0 := by
  refine wl_ext (wl_len F n k 4) fun v hv => ?_
  rw [wl_get hv]
  unfold ex
  rw [pp_all, show n - 1 + 1 = n by omega]
  by_cases e : v = k
  · subst e
    by_cases h : F v = n
    · rw [if_neg (by omega), if_pos ⟨h, rfl⟩, if_pos (by omega), h]; rfl
    · have : (0 ≤ F v ∧ (F v < (n : Int) ∨ F v = (n : Int) ∧ v < v)) ↔ (0 ≤ F v ∧ (F v < (n : Int) ∨ F v = (n : Int) ∧ v < v + 1)) := by omega
      rw [if_neg (show ¬ (F v = (n : Int) ∧ v = v) from fun q => h q.1), if_neg (show ¬ (F v = (n : Int) ∧ v = v + 1) from fun q => h q.1)]
      simp only [this]
  · have : (0 ≤ F v ∧ (F v < (n : Int) ∨ F v = (n : Int) ∧ v < k)) ↔ (0 ≤ F v ∧ (F v < (n : Int) ∨ F v = (n : Int) ∧ v < k + 1)) := by omega
    simp only [this]
    split
    · rfl
    · rw [if_neg (fun q => e q.2)]
      simp only [pp]
      split <;> decide
/-- a level is done -/
theorem wl_level {F : Nat → Int} {n : Nat} : wl nb F N t0 n N 0 = wl nb F N t0 (n + 1) 0 0 := by
  refine wl_ext (wl_len F n N 0) fun v hv => ?_
  rw [wl_get hv]
  unfold ex
  have : (0 ≤ F v ∧ (F v < (n : Int) ∨ F v = (n : Int) ∧ v < N)) ↔ (0 ≤ F v ∧ (F v < ((n + 1 : Nat) : Int) ∨ F v = ((n + 1 : Nat) : Int) ∧ v < 0)) := by omega
  simp only [this]
  split
  · rfl
  · rw [if_neg (show ¬ (F v = (n : Int) ∧ v = N) by omega)]
    simp only [pp]
    split <;> decide
/-- a direction that leads nowhere nearer -/
theorem wl_skip {F : Nat → Int} {n k j : Nat} (h : (match nb k j with | some w => pth nb (n - 1) w t0 | none => 0) = 0) : wl nb F N t0 n k (j + 1) = wl nb F N t0 n k j := by
  unfold wl
  refine List.map_congr_left fun v _ => ?_
  unfold ex
  by_cases e : v = k
  · subst e
    simp only [pp]
    rw [h, Nat.add_zero]
  · rw [if_neg (show ¬ (F v = (n : Int) ∧ v = k) from fun q => e q.2), if_neg (show ¬ (F v = (n : Int) ∧ v = k) from fun q => e q.2)]
theorem wl_add {F : Nat → Int} {n k j w : Nat} (hk : k < N) (hw : w < N) (hF : F k = n) (hFw : F w = (n : Int) - 1) (hn : 1 ≤ n) (h : nb k j = some w) :
    (wl nb F N t0 n k j).set k (IntKind.i64.wrap ((wl nb F N t0 n k j).getD k 0 + (wl nb F N t0 n k j).getD w 0)) = wl nb F N t0 n k (j + 1) := by
  have ek : ex nb F t0 n k j k = IntKind.i64.wrap (pp nb (n - 1) k t0 j : Nat) := by unfold ex; rw [if_neg (by omega), if_pos ⟨hF, rfl⟩]
  have ew : ex nb F t0 n k j w = IntKind.i64.wrap (pth nb (n - 1) w t0 : Nat) := by
    unfold ex; rw [if_pos ⟨by omega, .inl (by omega)⟩, show (F w).toNat = n - 1 by omega]
  rw [wl_get hk, wl_get hw, ek, ew, wrap_wrap_add]
  refine wl_ext (by rw [List.length_set, wl_len]) fun v hv => ?_
  rw [getD_set _ _ _ _ _ (by rw [wl_len]; exact hk), wl_get hv]
  by_cases e : k = v
  · subst e
    rw [if_pos rfl]
    unfold ex
    rw [if_neg (by omega), if_pos ⟨hF, rfl⟩]
    simp only [pp]
    rw [h]
  · rw [if_neg e]
    unfold ex
    rw [if_neg (show ¬ (F v = (n : Int) ∧ v = k) from fun q => e q.2.symm), if_neg (show ¬ (F v = (n : Int) ∧ v = k) from fun q => e q.2.symm)]
theorem wl_last {F : Nat → Int} {n v : Nat} (hv : v < N) (h0 : 0 ≤ F v) (h : F v < n) : (wl nb F N t0 n 0 0).getD v 0 = IntKind.i64.wrap (pth nb (F v).toNat v t0 : Nat) := by
  rw [wl_get hv]; unfold ex; rw [if_pos ⟨h0, .inl h⟩]
end
end Go.Proofs.Gm
/-
  Plain mathematics of a search: two graphs, each the other one turned. No program here.
-/
namespace Go.Proofs.Gm
open Go
set_option linter.unusedVariables false
set_option linter.unusedSimpArgs false
section
variable {nb nb' : Nat → Nat → Option Nat} {N t0 : Nat}
theorem fin_back2 (hv : ∀ n i v, n < N → nb n i = some v → v < N) (hv' : ∀ n i v, n < N → nb' n i = some v → v < N) (hs : ∀ n i v, n < N → i < 4 → nb n i = some v → ∃ j, j < 4 ∧ nb' v j = some n) :
    ∀ (n : Nat) s t, s < N → t < N → f (fin nb N s) t = n → 0 ≤ f (fin nb' N t) s ∧ f (fin nb' N t) s ≤ n := by
  intro n
  induction n with
  | zero =>
    intro s t hsN htN h
    have := (fin_dist hv hsN).z t htN h
    subst this
    rw [(fin_dist hv' hsN).f0]
    omega
  | succ n ih =>
    intro s t hsN htN h
    obtain ⟨u, i, hu, hi, e1, e2⟩ := (fin_dist hv hsN).pr t htN (by omega)
    obtain ⟨a, b⟩ := ih s u hsN hu (by omega)
    obtain ⟨j, hj, e3⟩ := hs u i t hu hi e1
    obtain ⟨c, d⟩ := fin_le hv' htN hu hj e3 (f (fin nb' N u) s).toNat s hsN (by omega)
    omega
/-- the same there and back -/
theorem fin_rev (hv : ∀ n i v, n < N → nb n i = some v → v < N) (hv' : ∀ n i v, n < N → nb' n i = some v → v < N) (hs : ∀ n i v, n < N → i < 4 → nb n i = some v → ∃ j, j < 4 ∧ nb' v j = some n) (hs' : ∀ n i v, n < N → i < 4 → nb' n i = some v → ∃ j, j < 4 ∧ nb v j = some n) {s t : Nat} (hsN : s < N) (htN : t < N) :
    f (fin nb N s) t = f (fin nb' N t) s := by
  have l1 := (fin_dist hv hsN).lo t htN
  have l2 := (fin_dist hv' htN).lo s hsN
  by_cases c : 0 ≤ f (fin nb N s) t
  · obtain ⟨a, b⟩ := fin_back2 hv hv' hs (f (fin nb N s) t).toNat s t hsN htN (by omega)
    obtain ⟨a', b'⟩ := fin_back2 hv' hv hs' (f (fin nb' N t) s).toNat t s htN hsN (by omega)
    omega
  · by_cases c' : 0 ≤ f (fin nb' N t) s
    · obtain ⟨a', b'⟩ := fin_back2 hv' hv hs' (f (fin nb' N t) s).toNat t s htN hsN (by omega)
      omega
    · omega
theorem pth_rev (hv : ∀ n i v, n < N → nb n i = some v → v < N) (hv' : ∀ n i v, n < N → nb' n i = some v → v < N) (he : ∀ u v, u < N → v < N → ed nb u v = ed nb' v u) : ∀ (n u v : Nat), u < N → v < N → pth nb n u v = pth nb' n v u := by
  intro n
  induction n with
  | zero =>
    intro u v _ _
    simp only [pth]
    by_cases e : u = v
    · rw [if_pos e, if_pos e.symm]
    · rw [if_neg e, if_neg (Ne.symm e)]
  | succ n ih =>
    intro u v hu hvN
    rw [pth_succ hv n u v hu]
    have e : pth nb' (n + 1) v u = sm (fun w => ed nb' v w * pth nb' n w u) N := s4_ed hv' hvN (fun w => pth nb' n w u)
    rw [e]
    refine sm_congr fun w hw => ?_
    rw [ih u w hu hw, he w v hw hvN, Nat.mul_comm]
theorem pth_off2 (hv : ∀ n i v, n < N → nb n i = some v → v < N) (hv' : ∀ n i v, n < N → nb' n i = some v → v < N) (he : ∀ u v, u < N → v < N → ed nb u v = ed nb' v u) {F : Nat → Int} (hF : Dist nb' N t0 F) (ht0 : t0 < N) {n w : Nat} (hw : w < N) (h : pth nb n w t0 ≠ 0) : 0 ≤ F w ∧ F w ≤ n :=
  pth_pos hv' hF ht0 n w hw (by rw [← pth_rev hv hv' he n w t0 hw ht0]; exact h)
theorem wl_start2 {F : Nat → Int} (hF : Dist nb' N t0 F) (ht0 : t0 < N) : (List.replicate N (0 : Int)).set t0 1 = wl nb F N t0 1 0 0 := by
  refine wl_ext (by simp) fun v hv => ?_
  rw [getD_set _ _ _ _ _ (by simpa using ht0)]
  unfold ex
  by_cases e : t0 = v
  · subst e
    rw [if_pos rfl, if_pos ⟨by rw [hF.f0]; omega, .inl (by rw [hF.f0]; omega)⟩, hF.f0]
    simp only [pth, if_true, Int.toNat_zero]
    decide
  · rw [if_neg e]
    have h1 : ¬ (0 ≤ F v ∧ (F v < (1 : Nat) ∨ F v = (1 : Nat) ∧ v < 0)) := by
      rintro ⟨a, b | b⟩
      · exact e (hF.z v hv (by omega)).symm
      · omega
    rw [if_neg h1]
    simp only [pp]
    have : (List.replicate N (0 : Int)).getD v 0 = 0 := by simp [List.getD, hv]
    rw [this]
    split <;> decide
/-- as many ways where there are as many edges -/
theorem pth_ed (hv : ∀ n i v, n < N → nb n i = some v → v < N) (hv' : ∀ n i v, n < N → nb' n i = some v → v < N) (he : ∀ u v, u < N → v < N → ed nb u v = ed nb' u v) : ∀ (n u v : Nat), u < N → v < N → pth nb n u v = pth nb' n u v := by
  intro n
  induction n with
  | zero => intro u v _ _; rfl
  | succ n ih =>
    intro u v hu hvN
    rw [pth_succ hv n u v hu, pth_succ hv' n u v hu]
    refine sm_congr fun w hw => ?_
    rw [ih u w hu hw, he w v hw hvN]
end
end Go.Proofs.Gm
/-
  Plain mathematics of a search: the first one of the shortest ways to its start, step by step. No program here.
-/
namespace Go.Proofs.Gm
open Go
set_option linter.unusedVariables false
set_option linter.unusedSimpArgs false
section
variable {nb : Nat → Nat → Option Nat} {N b : Nat} {F : Nat → Int}
/-- does a direction lead nearer? -/
def cnd (nb : Nat → Nat → Option Nat) (F : Nat → Int) (u j : Nat) : Bool := match nb u j with | some v => decide (F v = F u - 1) | none => false
theorem cnd_some {u j v : Nat} (h : nb u j = some v) : cnd nb F u j = decide (F v = F u - 1) := by unfold cnd; rw [h]
theorem cnd_none {u j : Nat} (h : nb u j = none) : cnd nb F u j = false := by unfold cnd; rw [h]
/-- the first one that does, or 4 -/
def pk (nb : Nat → Nat → Option Nat) (F : Nat → Int) (u : Nat) : Nat := if cnd nb F u 0 then 0 else if cnd nb F u 1 then 1 else if cnd nb F u 2 then 2 else if cnd nb F u 3 then 3 else 4
theorem pk_eq {u j : Nat} (hj : j < 4) (h : cnd nb F u j = true) (hb : ∀ i, i < j → cnd nb F u i = false) : pk nb F u = j := by
  have : j = 0 ∨ j = 1 ∨ j = 2 ∨ j = 3 := by omega
  unfold pk
  rcases this with rfl | rfl | rfl | rfl
  · simp [h]
  · simp [h, hb 0 (by omega)]
  · simp [h, hb 0 (by omega), hb 1 (by omega)]
  · simp [h, hb 0 (by omega), hb 1 (by omega), hb 2 (by omega)]
/-- so many steps are gone: where one is, and the directions -/
def stW (nb : Nat → Nat → Option Nat) (F : Nat → Int) (a : Nat) : Nat → Nat × List Nat
  | 0 => (a, [])
  | k + 1 => match nb (stW nb F a k).1 (pk nb F (stW nb F a k).1) with
    | some v => (v, (stW nb F a k).2 ++ [pk nb F (stW nb F a k).1])
    | none => stW nb F a k
theorem stW_succ {a k j v : Nat} (h1 : pk nb F (stW nb F a k).1 = j) (h2 : nb (stW nb F a k).1 j = some v) : stW nb F a (k + 1) = (v, (stW nb F a k).2 ++ [j]) := by
  simp only [stW]
  rw [h1, h2]
/-- there is one, until one is there -/
theorem cnd_ex (hv : ∀ n i v, n < N → nb n i = some v → v < N) (hs : ∀ n i v, n < N → i < 4 → nb n i = some v → ∃ j, j < 4 ∧ nb v j = some n) (hF : Dist nb N b F) {u : Nat} (hu : u < N) (h0 : 0 < F u) :
    ∃ j v, j < 4 ∧ nb u j = some v ∧ F v = F u - 1 := by
  obtain ⟨w, i, hw, hi, e1, e2⟩ := hF.pr u hu h0
  obtain ⟨j, hj, e3⟩ := hs w i u hw hi e1
  exact ⟨j, w, hj, e3, by omega⟩
theorem stW_inv (hv : ∀ n i v, n < N → nb n i = some v → v < N) (hs : ∀ n i v, n < N → i < 4 → nb n i = some v → ∃ j, j < 4 ∧ nb v j = some n) (hF : Dist nb N b F) {a : Nat} (ha : a < N) :
    ∀ k : Nat, (k : Int) ≤ F a → (stW nb F a k).1 < N ∧ F (stW nb F a k).1 = F a - k ∧ (stW nb F a k).2.length = k ∧ ∀ i ∈ (stW nb F a k).2, i < 4 := by
  intro k
  induction k with
  | zero => intro _; exact ⟨ha, by simp [stW], rfl, by simp [stW]⟩
  | succ k ih =>
    intro hk
    obtain ⟨h1, h2, h3, h4⟩ := ih (by omega)
    obtain ⟨j, v, hj, e1, e2⟩ := cnd_ex hv hs hF h1 (by omega)
    have hp : ∃ j' v', j' < 4 ∧ nb (stW nb F a k).1 j' = some v' ∧ F v' = F (stW nb F a k).1 - 1 ∧ pk nb F (stW nb F a k).1 = j' := by
      have hc : cnd nb F (stW nb F a k).1 j = true := by rw [cnd_some e1]; exact decide_eq_true e2
      have key : ∀ m, m < 4 → cnd nb F (stW nb F a k).1 m = true → ∃ v', nb (stW nb F a k).1 m = some v' ∧ F v' = F (stW nb F a k).1 - 1 := by
        intro m hm hcm
        unfold cnd at hcm
        split at hcm
        · rename_i v' hv'
          exact ⟨v', hv', of_decide_eq_true hcm⟩
        · cases hcm
      have fst : ∃ m, m < 4 ∧ cnd nb F (stW nb F a k).1 m = true ∧ ∀ i, i < m → cnd nb F (stW nb F a k).1 i = false := by
        by_cases c0 : cnd nb F (stW nb F a k).1 0 = true
        · exact ⟨0, by omega, c0, fun i hi => absurd hi (Nat.not_lt_zero _)⟩
        · by_cases c1 : cnd nb F (stW nb F a k).1 1 = true
          · exact ⟨1, by omega, c1, fun i hi => by have : i = 0 := by omega
                                                   subst this; simpa using c0⟩
          · by_cases c2 : cnd nb F (stW nb F a k).1 2 = true
            · exact ⟨2, by omega, c2, fun i hi => by
                have : i = 0 ∨ i = 1 := by omega
                rcases this with rfl | rfl
                · simpa using c0
                · simpa using c1⟩
            · have : j = 0 ∨ j = 1 ∨ j = 2 ∨ j = 3 := by omega
              rcases this with rfl | rfl | rfl | rfl
              · exact absurd hc c0
              · exact absurd hc c1
              · exact absurd hc c2
              · exact ⟨3, by omega, hc, fun i hi => by
                  have : i = 0 ∨ i = 1 ∨ i = 2 := by omega
                  rcases this with rfl | rfl | rfl
                  · simpa using c0
                  · simpa using c1
                  · simpa using c2⟩
      obtain ⟨m, hm, hcm, hlo⟩ := fst
      obtain ⟨v', e1', e2'⟩ := key m hm hcm
      exact ⟨m, v', hm, e1', e2', pk_eq hm hcm hlo⟩
    obtain ⟨j', v', hj', e1', e2', e3'⟩ := hp
    rw [stW_succ e3' e1']
    refine ⟨hv _ _ _ h1 e1', by simp only; omega, by simp [h3], fun i hi => ?_⟩
    simp only [List.mem_append, List.mem_singleton] at hi
    rcases hi with hi | hi
    · exact h4 i hi
    · omega
end
end Go.Proofs.Gm
/-
  Plain mathematics of a search: the first one of the shortest ways, in a graph that cannot be gone back. No program here.
-/
namespace Go.Proofs.Gm
open Go
set_option linter.unusedVariables false
set_option linter.unusedSimpArgs false
section
variable {nb nb' : Nat → Nat → Option Nat} {N b : Nat} {F : Nat → Int}
/-- there is one, until one is there -/
theorem cnd_ex2 (hs : ∀ n i v, n < N → i < 4 → nb' n i = some v → ∃ j, j < 4 ∧ nb v j = some n) (hF : Dist nb' N b F) {u : Nat} (hu : u < N) (h0 : 0 < F u) :
    ∃ j v, j < 4 ∧ nb u j = some v ∧ F v = F u - 1 := by
  obtain ⟨w, i, hw, hi, e1, e2⟩ := hF.pr u hu h0
  obtain ⟨j, hj, e3⟩ := hs w i u hw hi e1
  exact ⟨j, w, hj, e3, by omega⟩
theorem stW_inv2 (hv : ∀ n i v, n < N → nb n i = some v → v < N) (hs : ∀ n i v, n < N → i < 4 → nb' n i = some v → ∃ j, j < 4 ∧ nb v j = some n) (hF : Dist nb' N b F) {a : Nat} (ha : a < N) :
    ∀ k : Nat, (k : Int) ≤ F a → (stW nb F a k).1 < N ∧ F (stW nb F a k).1 = F a - k ∧ (stW nb F a k).2.length = k ∧ ∀ i ∈ (stW nb F a k).2, i < 4 := by
  intro k
  induction k with
  | zero => intro _; exact ⟨ha, by simp [stW], rfl, by simp [stW]⟩
  | succ k ih =>
    intro hk
    obtain ⟨h1, h2, h3, h4⟩ := ih (by omega)
    obtain ⟨j, v, hj, e1, e2⟩ := cnd_ex2 hs hF h1 (by omega)
    have hp : ∃ j' v', j' < 4 ∧ nb (stW nb F a k).1 j' = some v' ∧ F v' = F (stW nb F a k).1 - 1 ∧ pk nb F (stW nb F a k).1 = j' := by
      have hc : cnd nb F (stW nb F a k).1 j = true := by rw [cnd_some e1]; exact decide_eq_true e2
      have key : ∀ m, m < 4 → cnd nb F (stW nb F a k).1 m = true → ∃ v', nb (stW nb F a k).1 m = some v' ∧ F v' = F (stW nb F a k).1 - 1 := by
        intro m hm hcm
        unfold cnd at hcm
        split at hcm
        · rename_i v' hv'
          exact ⟨v', hv', of_decide_eq_true hcm⟩
        · cases hcm
      have fst : ∃ m, m < 4 ∧ cnd nb F (stW nb F a k).1 m = true ∧ ∀ i, i < m → cnd nb F (stW nb F a k).1 i = false := by
        by_cases c0 : cnd nb F (stW nb F a k).1 0 = true
        · exact ⟨0, by omega, c0, fun i hi => absurd hi (Nat.not_lt_zero _)⟩
        · by_cases c1 : cnd nb F (stW nb F a k).1 1 = true
          · exact ⟨1, by omega, c1, fun i hi => by have : i = 0 := by omega
                                                   subst this; simpa using c0⟩
          · by_cases c2 : cnd nb F (stW nb F a k).1 2 = true
            · exact ⟨2, by omega, c2, fun i hi => by
                have : i = 0 ∨ i = 1 := by omega
                rcases this with rfl | rfl
                · simpa using c0
                · simpa using c1⟩
            · have : j = 0 ∨ j = 1 ∨ j = 2 ∨ j = 3 := by omega
              rcases this with rfl | rfl | rfl | rfl
              · exact absurd hc c0
              · exact absurd hc c1
              · exact absurd hc c2
              · exact ⟨3, by omega, hc, fun i hi => by
                  have : i = 0 ∨ i = 1 ∨ i = 2 := by omega
                  rcases this with rfl | rfl | rfl
                  · simpa using c0
                  · simpa using c1
                  · simpa using c2⟩
      obtain ⟨m, hm, hcm, hlo⟩ := fst
      obtain ⟨v', e1', e2'⟩ := key m hm hcm
      exact ⟨m, v', hm, e1', e2', pk_eq hm hcm hlo⟩
    obtain ⟨j', v', hj', e1', e2', e3'⟩ := hp
    rw [stW_succ e3' e1']
    refine ⟨hv _ _ _ h1 e1', by simp only; omega, by simp [h3], fun i hi => ?_⟩
    simp only [List.mem_append, List.mem_singleton] at hi
    rcases hi with hi | hi
    · exact h4 i hi
    · omega
end
end Go.Proofs.Gm
