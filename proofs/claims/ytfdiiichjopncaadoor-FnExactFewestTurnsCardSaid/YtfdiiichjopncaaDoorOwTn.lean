/-
  Plain mathematics of chapter 6: parts of eight blocks lead to the same corners as single blocks. No program here.
-/
import Derived.Test.YtfdiiichjopncaaDoorOwTx
import Derived.Test.YtfdiiichjopncaaDoorOwTm
namespace Go.Proofs
open Go.RowKit Av Gm Go.Maps
set_option linter.unusedVariables false
set_option linter.unusedSimpArgs false
theorem reach_ind {nb : Nat → Nat → Option Nat} {N s0 : Nat} {F : Nat → Int} (hF : Dist nb N s0 F) (S : Nat → Prop) (h0 : S s0) (hs : ∀ u i v, u < N → i < 4 → S u → nb u i = some v → S v) : ∀ n v, v < N → F v = (n : Nat) → S v := by
  intro n
  induction n with
  | zero => intro v hv h; rw [hF.z v hv (by omega)]; exact h0
  | succ n ih =>
    intro v hv h
    obtain ⟨u, i, hu, hi, e, f⟩ := hF.pr v hv (by omega)
    exact hs u i v hu hi (ih u hu (by omega)) e
theorem reach_ind16 {nb : Nat → Nat → Option Nat} {N s0 : Nat} {F : Nat → Int} (hF : Gs.Dist nb N s0 F) (S : Nat → Prop) (h0 : S s0) (hs : ∀ u i v, u < N → i < 16 → S u → nb u i = some v → S v) : ∀ n v, v < N → F v = (n : Nat) → S v := by
  intro n
  induction n with
  | zero => intro v hv h; rw [hF.z v hv (by omega)]; exact h0
  | succ n ih =>
    intro v hv h
    obtain ⟨u, i, hu, hi, e, f⟩ := hF.pr v hv (by omega)
    exact hs u i v hu hi (ih u hu (by omega)) e
theorem mem_lsW8 {s a : ByteArray} {u j v : Nat} (h : nbW s a u j = some v) : v ∈ lsW s a 8 u := by
  have h8 : v ∈ ray s a j 8 u := by
    show v ∈ ray s a j (7 + 1) u
    simp only [ray, h]
    exact List.mem_cons_self
  unfold lsW
  rcases (nbW_may h).2 with e | e
  · exact List.mem_append_left _ (e ▸ h8)
  · exact List.mem_append_right _ (e ▸ h8)
theorem ray_reach {s a : ByteArray} {s0 : Nat} {F : Nat → Int} (hF : Dist (nbW s a) (a.size * s.size) s0 F) {j : Nat} (hj : j < 4) : ∀ b u, u < a.size * s.size → 0 ≤ F u → ∀ v ∈ ray s a j b u, 0 ≤ F v := by
  intro b
  induction b with
  | zero => intro u _ _ v hv; simp [ray] at hv
  | succ b ih =>
    intro u hu h0 v hv
    simp only [ray] at hv
    cases h : nbW s a u j with
    | none => rw [h] at hv; simp at hv
    | some m =>
      rw [h] at hv
      have hm := (hF.re u j m hu hj h0 h).1
      rcases List.mem_cons.1 hv with rfl | hv
      · exact hm
      · exact ih m (nbW_valid u j m hu h) hm v hv
/-- whoever is reached by single blocks is reached by parts, and the other way round -/
theorem reach_same {s a : ByteArray} {s0 t0 : Nat} (hs : s0 < a.size * s.size) (ht : t0 < a.size * s.size) : 0 ≤ d8W s a s0 t0 ↔ 0 ≤ dsW s a s0 t0 := by
  have h1 := fin_dist (nbW_valid (s := s) (a := a)) hs
  have h8 := Gs.fin_dist (nbL_valid (lsW_valid (s := s) (a := a) 8)) hs
  unfold d8W dsW
  constructor
  · intro h
    refine reach_ind16 h8 (fun v => 0 ≤ f (fin (nbW s a) (a.size * s.size) s0) v) (by rw [h1.f0]; exact Int.le_refl _) (fun u i v hu hi h0 e => ?_) (f (Gs.fin (nbL (lsW s a 8)) (a.size * s.size) s0) t0).toNat t0 ht (by omega)
    have hm := List.mem_of_getElem? e
    unfold lsW at hm
    rcases List.mem_append.1 hm with h' | h'
    · exact ray_reach h1 (sgi_lt _) 8 u hu h0 v h'
    · exact ray_reach h1 (sgi_lt _) 8 u hu h0 v h'
  · intro h
    refine reach_ind h1 (fun v => 0 ≤ f (Gs.fin (nbL (lsW s a 8)) (a.size * s.size) s0) v) (by rw [h8.f0]; exact Int.le_refl _) (fun u i v hu hi h0 e => ?_) (f (fin (nbW s a) (a.size * s.size) s0) t0).toNat t0 ht (by omega)
    obtain ⟨k, hk, e'⟩ := List.getElem_of_mem (mem_lsW8 e)
    have := lsW_len s a 8 u
    exact (h8.re u k v hu (by omega) h0 (by unfold nbL; rw [List.getElem?_eq_getElem hk, e'])).1
end Go.Proofs
