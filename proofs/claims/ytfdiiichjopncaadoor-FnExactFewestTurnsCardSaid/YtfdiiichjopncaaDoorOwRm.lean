/-
  Plain mathematics of chapter 6: runs along streets and along avenues, and what they come to. No program here.
-/
import Derived.Test.YtfdiiichjopncaaDoorOwTn
namespace Go.Proofs
open Go.RowKit Av Gm Go.Maps
set_option linter.unusedVariables false
set_option linter.unusedSimpArgs false
/-- where one comes from some vertices by going on -/
inductive Rx (nx : Nat → Option Nat) (S : Nat → Prop) : Nat → Prop
  | base {v} : S v → Rx nx S v
  | step {u v} : Rx nx S u → nx u = some v → Rx nx S v
/-- the direction of a run at a vertex -/
def rnD (s a : ByteArray) (al : Bool) (u : Nat) : Nat := if al then sgi (gb s (u % s.size)) else sgi (gb a (u / s.size))
def rnX (s a : ByteArray) (al : Bool) (u : Nat) : Option Nat := nbW s a u (rnD s a al u)
theorem rnD_lt (s a : ByteArray) (al : Bool) (u : Nat) : rnD s a al u < 4 := by unfold rnD; split <;> exact sgi_lt _
/-- so many steps in one direction -/
def pth (s a : ByteArray) (j : Nat) : Nat → Nat → Nat → Prop
  | 0, u, v => v = u
  | k + 1, u, v => ∃ m, nbW s a u j = some m ∧ pth s a j k m v
theorem pth_snoc {s a : ByteArray} {j : Nat} : ∀ k u v v', pth s a j k u v → nbW s a v j = some v' → pth s a j (k + 1) u v' := by
  intro k
  induction k with
  | zero => rintro u v v' rfl e; exact ⟨v', e, rfl⟩
  | succ k ih => rintro u v v' ⟨m, e1, p⟩ e; exact ⟨m, e1, ih m v v' p e⟩
theorem pth_last {s a : ByteArray} {j : Nat} : ∀ k u v, pth s a j (k + 1) u v → ∃ m, pth s a j k u m ∧ nbW s a m j = some v := by
  intro k
  induction k with
  | zero => rintro u v ⟨m, e, q⟩; cases q; exact ⟨u, rfl, e⟩
  | succ k ih =>
    rintro u v ⟨m, e, q⟩
    obtain ⟨m', q1, q2⟩ := ih m v q
    exact ⟨m', ⟨m, e, q1⟩, q2⟩
theorem ray_pth {s a : ByteArray} {j : Nat} : ∀ b u v, v ∈ ray s a j b u ↔ ∃ k, 1 ≤ k ∧ k ≤ b ∧ pth s a j k u v := by
  intro b
  induction b with
  | zero => intro u v; simp [ray]; intro k h1 h2; omega
  | succ b ih =>
    intro u v
    constructor
    · intro h
      simp only [ray] at h
      cases e : nbW s a u j with
      | none => rw [e] at h; simp at h
      | some m =>
        rw [e] at h
        rcases List.mem_cons.1 h with rfl | h
        · exact ⟨1, by omega, by omega, v, e, rfl⟩
        · obtain ⟨k, h1, h2, p⟩ := (ih m v).1 h
          exact ⟨k + 1, by omega, by omega, m, e, p⟩
    · rintro ⟨k, h1, h2, p⟩
      obtain ⟨k, rfl⟩ : ∃ k', k = k' + 1 := ⟨k - 1, by omega⟩
      obtain ⟨m, e, p⟩ := p
      simp only [ray, e]
      cases k with
      | zero => cases p; exact List.mem_cons_self
      | succ k => exact List.mem_cons_of_mem _ ((ih m v).2 ⟨k + 1, by omega, by omega, p⟩)
/-- where the steps lead -/
theorem nbW_at {s a : ByteArray} {u j m : Nat} (h : nbW s a u j = some m) : u < a.size * s.size ∧ j < 4 ∧ m < a.size * s.size ∧ ((m / s.size : Nat) : Int) = ((u / s.size : Nat) : Int) + dx j ∧ ((m % s.size : Nat) : Int) = ((u % s.size : Nat) : Int) + dy j := by
  have hq : j < 4 ∧ u < a.size * s.size ∧ drv s a (u / s.size) (u % s.size) j = true := by
    unfold nbW at h
    split at h
    · assumption
    · cases h
  obtain ⟨m', e, h1, h2, h3, _⟩ := nbW_some hq.1 hq.2.1 hq.2.2
  rw [h] at e
  cases e
  exact ⟨hq.2.1, hq.1, h1, h2, h3⟩
theorem pth_at {s a : ByteArray} {j : Nat} : ∀ k u v, u < a.size * s.size → pth s a j k u v → v < a.size * s.size ∧ ((v / s.size : Nat) : Int) = ((u / s.size : Nat) : Int) + k * dx j ∧ ((v % s.size : Nat) : Int) = ((u % s.size : Nat) : Int) + k * dy j := by
  intro k
  induction k with
  | zero => rintro u v hu rfl; simp [hu]
  | succ k ih =>
    rintro u v hu ⟨m, e, p⟩
    obtain ⟨_, _, hm, h1, h2⟩ := nbW_at e
    obtain ⟨q1, q2, q3⟩ := ih m v hm p
    refine ⟨q1, ?_, ?_⟩
    · rw [q2, h1]; push_cast; rw [Int.add_mul]; omega
    · rw [q3, h2]; push_cast; rw [Int.add_mul]; omega
theorem okT_gb {p q : UInt8} {s : ByteArray} (h : okT p q s = true) (i : Nat) (hi : i < s.size) : gb s i = p ∨ gb s i = q := by
  rw [← gb_eq s i hi]; exact okT_at h i hi
theorem rnD_dx {s a : ByteArray} (h1 : okT 101 119 s = true) {u : Nat} (hu : u < a.size * s.size) : dy (rnD s a true u) = 0 ∧ (dx (rnD s a true u) = 1 ∨ dx (rnD s a true u) = -1) := by
  unfold rnD
  rw [if_pos rfl]
  rcases okT_gb h1 _ (idx_lt2 hu).2 with e | e <;> rw [e] <;> decide
theorem rnD_dy {s a : ByteArray} (h2 : okT 110 115 a = true) {u : Nat} (hu : u < a.size * s.size) : dx (rnD s a false u) = 0 ∧ (dy (rnD s a false u) = 1 ∨ dy (rnD s a false u) = -1) := by
  unfold rnD
  rw [if_neg (by decide)]
  rcases okT_gb h2 _ (idx_lt2 hu).1 with e | e <;> rw [e] <;> decide
/-- a run keeps its direction -/
theorem rnD_keep {s a : ByteArray} (h1 : okT 101 119 s = true) (h2 : okT 110 115 a = true) {al : Bool} {k u v : Nat} (hu : u < a.size * s.size) (p : pth s a (rnD s a al u) k u v) : rnD s a al v = rnD s a al u := by
  obtain ⟨q1, q2, q3⟩ := pth_at k u v hu p
  cases al
  · rw [(rnD_dy h2 hu).1] at q2
    have : v / s.size = u / s.size := by simp at q2; exact_mod_cast q2
    unfold rnD
    rw [if_neg (by decide), if_neg (by decide), this]
  · rw [(rnD_dx h1 hu).1] at q3
    have : v % s.size = u % s.size := by simp at q3; exact_mod_cast q3
    unfold rnD
    rw [if_pos rfl, if_pos rfl, this]
theorem run_bd {s a : ByteArray} (h1 : okT 101 119 s = true) (h2 : okT 110 115 a = true) {al : Bool} {k u v : Nat} (hu : u < a.size * s.size) (p : pth s a (rnD s a al u) k u v) : k ≤ 8 := by
  obtain ⟨q1, q2, q3⟩ := pth_at k u v hu p
  have l1 := (okT_len h1).2
  have l2 := (okT_len h2).2
  obtain ⟨m1, m2⟩ := idx_lt2 hu
  obtain ⟨n1, n2⟩ := idx_lt2 q1
  generalize v / s.size = x1 at *
  generalize v % s.size = y1 at *
  generalize hx : u / s.size = x0 at *
  generalize hy : u % s.size = y0 at *
  cases al
  · rcases (rnD_dy h2 hu).2 with e | e <;> rw [e] at q3 <;> omega
  · rcases (rnD_dx h1 hu).2 with e | e <;> rw [e] at q2 <;> omega
/-- what a run comes to -/
theorem rx_ray {s a : ByteArray} (h1 : okT 101 119 s = true) (h2 : okT 110 115 a = true) {al : Bool} {S : Nat → Prop} (hS : ∀ u, S u → u < a.size * s.size) (v : Nat) :
    Rx (rnX s a al) S v ↔ S v ∨ ∃ u, S u ∧ v ∈ ray s a (rnD s a al u) 8 u := by
  have key : Rx (rnX s a al) S v → ∃ u k, S u ∧ pth s a (rnD s a al u) k u v := by
    intro h
    induction h with
    | base h => exact ⟨_, 0, h, rfl⟩
    | step _ e ih =>
      obtain ⟨u, k, hu, p⟩ := ih
      refine ⟨u, k + 1, hu, pth_snoc _ _ _ _ p ?_⟩
      rw [← rnD_keep h1 h2 (hS u hu) p]
      exact e
  constructor
  · intro h
    obtain ⟨u, k, hu, p⟩ := key h
    cases k with
    | zero => exact .inl (by cases p; exact hu)
    | succ k => exact .inr ⟨u, hu, (ray_pth 8 u v).2 ⟨k + 1, by omega, run_bd h1 h2 (hS u hu) p, p⟩⟩
  · rintro (h | ⟨u, hu, hm⟩)
    · exact .base h
    · obtain ⟨k, _, _, p⟩ := (ray_pth 8 u v).1 hm
      clear hm
      have aux : ∀ k v, pth s a (rnD s a al u) k u v → Rx (rnX s a al) S v := by
        intro k
        induction k with
        | zero => rintro v rfl; exact .base hu
        | succ k ih =>
          intro v p
          obtain ⟨m, e1, e2⟩ := pth_last k u v p
          refine .step (ih m e1) ?_
          unfold rnX
          rw [rnD_keep h1 h2 (hS u hu) e1]
          exact e2
      exact aux k v p
theorem lsW_run {s a : ByteArray} {u v : Nat} : v ∈ lsW s a 8 u ↔ v ∈ ray s a (rnD s a true u) 8 u ∨ v ∈ ray s a (rnD s a false u) 8 u := by
  unfold lsW rnD
  simp [List.mem_append]
/-- both runs together: one turn more -/
theorem run_both {s a : ByteArray} (h1 : okT 101 119 s = true) (h2 : okT 110 115 a = true) {s0 : Nat} (hs : s0 < a.size * s.size) {v : Nat} (hv : v < a.size * s.size) (t : Nat) :
    (Rx (rnX s a true) (fun u => u < a.size * s.size ∧ 0 ≤ d8W s a s0 u ∧ d8W s a s0 u ≤ t) v ∨ Rx (rnX s a false) (fun u => u < a.size * s.size ∧ 0 ≤ d8W s a s0 u ∧ d8W s a s0 u ≤ t) v) ↔ (0 ≤ d8W s a s0 v ∧ d8W s a s0 v ≤ (t + 1 : Nat)) := by
  have h8 := Gs.fin_dist (nbL_valid (lsW_valid (s := s) (a := a) 8)) hs
  have hl := h8.layL (fun u => by have := lsW_len s a 8 u; omega) hv t
  have e : ∀ u, d8W s a s0 u = f (Gs.fin (nbL (lsW s a 8)) (a.size * s.size) s0) u := fun _ => rfl
  rw [rx_ray h1 h2 (fun u h => h.1), rx_ray h1 h2 (fun u h => h.1)]
  simp only [e]
  rw [hl]
  constructor
  · rintro ((h | ⟨u, hu, hm⟩) | (h | ⟨u, hu, hm⟩))
    · exact .inl h.2
    · exact .inr ⟨u, hu.1, hu.2.1, hu.2.2, lsW_run.2 (.inl hm)⟩
    · exact .inl h.2
    · exact .inr ⟨u, hu.1, hu.2.1, hu.2.2, lsW_run.2 (.inr hm)⟩
  · rintro (h | ⟨u, hu, a1, a2, hm⟩)
    · exact .inl (.inl ⟨hv, h⟩)
    · rcases lsW_run.1 hm with hm | hm
      · exact .inl (.inr ⟨u, ⟨hu, a1, a2⟩, hm⟩)
      · exact .inr (.inr ⟨u, ⟨hu, a1, a2⟩, hm⟩)
end Go.Proofs
