/-
  Chapter 6: the graph of the ways with all turned; as many edges in both graphs of the ways (plain words).
-/
import Derived.Test.YtjlbbkbcapleiaaDoorOwY
import Derived.Test.YtjlbbkbcapleiaaDoorGrAll
namespace Go.Proofs
open Go.RowKit Av Gm Go.Maps
set_option linter.unusedVariables false
set_option linter.unusedSimpArgs false
/-- each the other one turned -/
structure RevW (s a s' a' : ByteArray) : Prop where
  hs : s'.size = s.size
  ha : a'.size = a.size
  s1 : ∀ k, k < s.size → (gb s k = 101 ∧ gb s' k = 119) ∨ (gb s k = 119 ∧ gb s' k = 101)
  a1 : ∀ k, k < a.size → (gb a k = 110 ∧ gb a' k = 115) ∨ (gb a k = 115 ∧ gb a' k = 110)
theorem RevW.symm {s a s' a' : ByteArray} (h : RevW s a s' a') : RevW s' a' s a where
  hs := h.hs.symm
  ha := h.ha.symm
  s1 := fun k hk => (h.s1 k (h.hs ▸ hk)).elim (fun x => .inr ⟨x.2, x.1⟩) (fun x => .inl ⟨x.2, x.1⟩)
  a1 := fun k hk => (h.a1 k (h.ha ▸ hk)).elim (fun x => .inr ⟨x.2, x.1⟩) (fun x => .inl ⟨x.2, x.1⟩)
theorem gb_flB (s : ByteArray) (k : Nat) (h : k < s.size) : gb (flB s) k = fl (gb s k) := by
  rw [← gb_eq (flB s) k (by rw [flB_size]; exact h), flB_at, gb_eq]
theorem revW_flB {s a : ByteArray} (h : okW s a = true) : RevW s a (flB s) (flB a) := by
  obtain ⟨h1, h2⟩ := okW_and h
  refine ⟨flB_size s, flB_size a, fun k hk => ?_, fun k hk => ?_⟩
  · rw [gb_flB s k hk]
    rcases okT_at h1 k hk with e | e <;> rw [gb_eq] at e <;> rw [e]
    · exact .inl ⟨rfl, by decide⟩
    · exact .inr ⟨rfl, by decide⟩
  · rw [gb_flB a k hk]
    rcases okT_at h2 k hk with e | e <;> rw [gb_eq] at e <;> rw [e]
    · exact .inl ⟨rfl, by decide⟩
    · exact .inr ⟨rfl, by decide⟩
theorem nbW_rev {s a s' a' : ByteArray} (h : RevW s a s' a') {n m j : Nat} (hj : j < 4) (hn : n < a.size * s.size) (e : nbW s a n j = some m) : nbW s' a' m (3 - j) = some n := by
  cases hd : drv s a (n / s.size) (n % s.size) j
  · rw [nbW_none hd] at e; cases e
  · obtain ⟨m1, e1, hm, hx, hy, _⟩ := nbW_some hj hn hd
    rw [e1] at e
    obtain rfl : m1 = m := Option.some.inj e
    obtain ⟨b1, b2⟩ := idx_lt2 hn
    obtain ⟨c1, c2⟩ := idx_lt2 hm
    have hd' : drv s' a' (m1 / s.size) (m1 % s.size) (3 - j) = true := by
      unfold drv mayB at hd ⊢
      simp only [Bool.and_eq_true, Bool.or_eq_true, beq_iff_eq] at hd ⊢
      have hs1 := h.s1 _ b2
      have ha1 := h.a1 _ b1
      have hs2 := h.s1 _ c2
      have ha2 := h.a1 _ c1
      have hon : onB a'.size s'.size (((m1 / s.size : Nat) : Int) + dx (3 - j)) (((m1 % s.size : Nat) : Int) + dy (3 - j)) = true := by
        have q1 : ((m1 / s.size : Nat) : Int) + dx (3 - j) = ((n / s.size : Nat) : Int) := by
          rw [hx]
          have : j = 0 ∨ j = 1 ∨ j = 2 ∨ j = 3 := by omega
          rcases this with rfl | rfl | rfl | rfl <;> simp [dx] <;> omega
        have q2 : ((m1 % s.size : Nat) : Int) + dy (3 - j) = ((n % s.size : Nat) : Int) := by
          rw [hy]
          have : j = 0 ∨ j = 1 ∨ j = 2 ∨ j = 3 := by omega
          rcases this with rfl | rfl | rfl | rfl <;> simp [dy] <;> omega
        rw [q1, q2, h.hs, h.ha]
        exact decide_eq_true (on_idx hn)
      refine ⟨?_, hon⟩
      obtain ⟨hd1, _⟩ := hd
      have : j = 0 ∨ j = 1 ∨ j = 2 ∨ j = 3 := by omega
      rcases this with rfl | rfl | rfl | rfl
      · have z : m1 % s.size = n % s.size := by simp [dy] at hy; omega
        rw [z]
        left
        rcases hs1 with ⟨u, v⟩ | ⟨u, v⟩ <;> rcases ha1 with ⟨u', v'⟩ | ⟨u', v'⟩ <;> rw [u, u'] at hd1 <;> rw [v] <;> revert hd1 <;> decide
      · have z : m1 / s.size = n / s.size := by simp [dx] at hx; omega
        rw [z]
        right
        rcases hs1 with ⟨u, v⟩ | ⟨u, v⟩ <;> rcases ha1 with ⟨u', v'⟩ | ⟨u', v'⟩ <;> rw [u, u'] at hd1 <;> rw [v'] <;> revert hd1 <;> decide
      · have z : m1 / s.size = n / s.size := by simp [dx] at hx; omega
        rw [z]
        right
        rcases hs1 with ⟨u, v⟩ | ⟨u, v⟩ <;> rcases ha1 with ⟨u', v'⟩ | ⟨u', v'⟩ <;> rw [u, u'] at hd1 <;> rw [v'] <;> revert hd1 <;> decide
      · have z : m1 % s.size = n % s.size := by simp [dy] at hy; omega
        rw [z]
        left
        rcases hs1 with ⟨u, v⟩ | ⟨u, v⟩ <;> rcases ha1 with ⟨u', v'⟩ | ⟨u', v'⟩ <;> rw [u, u'] at hd1 <;> rw [v] <;> revert hd1 <;> decide
    rw [← h.hs] at hd'
    obtain ⟨n2, e2, hn2, hx2, hy2, _⟩ := nbW_some (s := s') (a := a') (n := m1) (j := 3 - j) (by omega) (by rw [h.hs, h.ha]; exact hm) hd'
    rw [e2]
    congr 1
    rw [h.hs] at hx2 hy2
    rw [hx] at hx2
    rw [hy] at hy2
    have q1 : n2 / s.size = n / s.size := by
      have : j = 0 ∨ j = 1 ∨ j = 2 ∨ j = 3 := by omega
      rcases this with rfl | rfl | rfl | rfl <;> simp [dx] at hx2 <;> omega
    have q2 : n2 % s.size = n % s.size := by
      have : j = 0 ∨ j = 1 ∨ j = 2 ∨ j = 3 := by omega
      rcases this with rfl | rfl | rfl | rfl <;> simp [dy] at hy2 <;> omega
    have r1 := Nat.div_add_mod n2 s.size
    have r2 := Nat.div_add_mod n s.size
    rw [q1, q2] at r1
    omega
theorem nbW_iff {s a s' a' : ByteArray} (h : RevW s a s' a') {n m j : Nat} (hj : j < 4) (hn : n < a.size * s.size) (hm : m < a.size * s.size) : nbW s a n j = some m ↔ nbW s' a' m (3 - j) = some n := by
  constructor
  · exact nbW_rev h hj hn
  · intro e
    have := nbW_rev h.symm (j := 3 - j) (by omega) (by rw [h.hs, h.ha]; exact hm) e
    rwa [show 3 - (3 - j) = j by omega] at this
theorem ed_rev {s a s' a' : ByteArray} (h : RevW s a s' a') : ∀ u v, u < a.size * s.size → v < a.size * s.size → ed (nbW s a) u v = ed (nbW s' a') v u := by
  intro u v hu hv
  have k : ∀ j, j < 4 → ht (nbW s a u j) v = ht (nbW s' a' v (3 - j)) u := fun j hj => by
    unfold ht
    by_cases c : nbW s a u j = some v
    · rw [if_pos c, if_pos ((nbW_iff h hj hu hv).1 c)]
    · rw [if_neg c, if_neg (fun d => c ((nbW_iff h hj hu hv).2 d))]
  have k0 := k 0 (by omega)
  have k1 := k 1 (by omega)
  have k2 := k 2 (by omega)
  have k3 := k 3 (by omega)
  unfold ed s4
  dsimp only
  simp only [Nat.sub_zero, Nat.reduceSub] at k0 k1 k2 k3
  rw [k0, k1, k2, k3]
  omega
theorem rev_ex {s a s' a' : ByteArray} (h : RevW s a s' a') : ∀ n i v, n < a.size * s.size → i < 4 → nbW s a n i = some v → ∃ j, j < 4 ∧ nbW s' a' v j = some n := fun n i v hn hi e => ⟨3 - i, by omega, nbW_rev h hi hn e⟩
/-- as many edges in the program's graph -/
theorem ed_same {s a s' a' : ByteArray} (h : RevW s a s' a') : ∀ u v, u < a.size * s.size → v < a.size * s.size → ed (nbL (lsW s a 1)) u v = ed (nbW s a) u v := by
  intro u v hu hv
  obtain ⟨b1, b2⟩ := idx_lt2 hu
  have hs1 := h.s1 _ b2
  have ha1 := h.a1 _ b1
  have kN : ∀ j, mayB s a (u / s.size) (u % s.size) j = false → nbW s a u j = none := fun j e => nbW_none (by unfold drv; rw [e]; rfl)
  have hl : ∀ p q, gb s (u % s.size) = p → gb a (u / s.size) = q → lsW s a 1 u = (nbW s a u (sgi p)).toList ++ (nbW s a u (sgi q)).toList := fun p q hp hq => by
    unfold lsW
    rw [hp, hq]
    simp only [ray]
    cases nbW s a u (sgi p) <;> cases nbW s a u (sgi q) <;> rfl
  rcases hs1 with ⟨p, _⟩ | ⟨p, _⟩ <;> rcases ha1 with ⟨q, _⟩ | ⟨q, _⟩
  · have e := hl _ _ p q
    have z1 := kN 2 (by unfold mayB; rw [p, q]; decide)
    have z2 := kN 3 (by unfold mayB; rw [p, q]; decide)
    unfold ed s4 nbL
    dsimp only
    rw [e, z1, z2, show sgi 101 = 0 from rfl, show sgi 110 = 1 from rfl]
    cases nbW s a u 0 <;> cases nbW s a u 1 <;> simp [ht] <;> omega
  · have e := hl _ _ p q
    have z1 := kN 1 (by unfold mayB; rw [p, q]; decide)
    have z2 := kN 3 (by unfold mayB; rw [p, q]; decide)
    unfold ed s4 nbL
    dsimp only
    rw [e, z1, z2, show sgi 101 = 0 from rfl, show sgi 115 = 2 from rfl]
    cases nbW s a u 0 <;> cases nbW s a u 2 <;> simp [ht] <;> omega
  · have e := hl _ _ p q
    have z1 := kN 0 (by unfold mayB; rw [p, q]; decide)
    have z2 := kN 2 (by unfold mayB; rw [p, q]; decide)
    unfold ed s4 nbL
    dsimp only
    rw [e, z1, z2, show sgi 119 = 3 from rfl, show sgi 110 = 1 from rfl]
    cases nbW s a u 3 <;> cases nbW s a u 1 <;> simp [ht] <;> omega
  · have e := hl _ _ p q
    have z1 := kN 0 (by unfold mayB; rw [p, q]; decide)
    have z2 := kN 1 (by unfold mayB; rw [p, q]; decide)
    unfold ed s4 nbL
    dsimp only
    rw [e, z1, z2, show sgi 119 = 3 from rfl, show sgi 115 = 2 from rfl]
    cases nbW s a u 3 <;> cases nbW s a u 2 <;> simp [ht] <;> omega
/-- distances with all turned -/
theorem dsW_rev {s a s' a' : ByteArray} (h : RevW s a s' a') {s0 t0 : Nat} (hs : s0 < a.size * s.size) (ht : t0 < a.size * s.size) : dsW s a s0 t0 = f (fin (nbW s' a') (a.size * s.size) t0) s0 := by
  have hv' : ∀ n i v, n < a.size * s.size → nbW s' a' n i = some v → v < a.size * s.size := fun n i v hn e => by
    have := nbW_valid (s := s') (a := a') n i v (by rw [h.hs, h.ha]; exact hn) e
    rwa [h.hs, h.ha] at this
  exact fin_rev nbW_valid hv' (rev_ex h) (fun n i v hn hi e => by
    have := rev_ex h.symm n i v (by rw [h.hs, h.ha]; exact hn) hi e
    exact this) hs ht
/-- what the program's search counts -/
theorem wcI_pth {s a s' a' : ByteArray} (h : RevW s a s' a') {s0 t0 : Nat} (hs : s0 < a.size * s.size) (ht : t0 < a.size * s.size) (h0 : 0 ≤ dsW s a s0 t0) : wcI s a s0 t0 = IntKind.i64.wrap (pth (nbW s a) (dsW s a s0 t0).toNat s0 t0 : Nat) := by
  have hfs := far_same (s := s) (a := a) hs t0 ht
  unfold wcI
  have hd : f (fin (nbL (lsW s a 1)) (a.size * s.size) s0) t0 = dsW s a s0 t0 := hfs
  rw [fin_ways (nbL_valid (lsW_valid 1)) hs ht (by rw [hd]; exact h0), hd, pth_ed (nbL_valid (lsW_valid 1)) nbW_valid (ed_same h) _ _ _ hs ht]
end Go.Proofs
