/-
  Chapter 6: what is driven from a corner (the program), and that it is what the model finds.
-/
import Derived.Test.YtfdiiichjopncaaDoorRbW
import Derived.Test.YtfdiiichjopncaaDoorOwL
namespace Go.Proofs
open Go.RowKit Av Gm Go.Maps
set_option linter.unusedVariables false
set_option linter.unusedSimpArgs false
theorem ray_valid {s a : ByteArray} {j : Nat} : ∀ b u, u < a.size * s.size → ∀ v ∈ ray s a j b u, v < a.size * s.size := by
  intro b
  induction b with
  | zero => intro u _ v hv; simp [ray] at hv
  | succ b ih =>
    intro u hu v hv
    simp only [ray] at hv
    cases h : nbW s a u j with
    | none => rw [h] at hv; simp at hv
    | some m =>
      rw [h] at hv
      have hm := nbW_valid u j m hu h
      rcases List.mem_cons.1 hv with rfl | hv
      · exact hm
      · exact ih m hm v hv
theorem lsW_valid {s a : ByteArray} (b : Nat) : ∀ u, u < a.size * s.size → ∀ v ∈ lsW s a b u, v < a.size * s.size := by
  intro u hu v hv
  unfold lsW at hv
  rcases List.mem_append.1 hv with h | h
  · exact ray_valid b u hu v h
  · exact ray_valid b u hu v h
theorem lsW_len (s a : ByteArray) (b u : Nat) : (lsW s a b u).length ≤ 2 * b := by
  unfold lsW
  rw [List.length_append]
  have h1 := ray_len s a (sgi (gb s (u % s.size))) b u
  have h2 := ray_len s a (sgi (gb a (u / s.size))) b u
  omega
theorem ray_one {s a : ByteArray} {j u v : Nat} : v ∈ ray s a j 1 u ↔ nbW s a u j = some v := by
  simp only [ray]
  cases nbW s a u j with
  | none => simp
  | some m => simp [eq_comm]
theorem nbW_may {s a : ByteArray} {u j v : Nat} (h : nbW s a u j = some v) : j < 4 ∧ (j = sgi (gb s (u % s.size)) ∨ j = sgi (gb a (u / s.size))) := by
  unfold nbW at h
  split at h
  · rename_i q
    obtain ⟨hj, _, hd⟩ := q
    refine ⟨hj, ?_⟩
    unfold drv mayB at hd
    simp only [Bool.and_eq_true, Bool.or_eq_true, beq_iff_eq] at hd
    have e : sgi (sgc j) = j := by
      have : j = 0 ∨ j = 1 ∨ j = 2 ∨ j = 3 := by omega
      rcases this with rfl | rfl | rfl | rfl <;> decide
    rcases hd.1 with h' | h'
    · left; rw [← h', e]
    · right; rw [← h', e]
  · cases h
/-- the edges are those of the model -/
theorem edges {s a : ByteArray} {u v : Nat} : (∃ i, i < 4 ∧ nbL (lsW s a 1) u i = some v) ↔ ∃ j, j < 4 ∧ nbW s a u j = some v := by
  constructor
  · rintro ⟨i, _, h⟩
    have hm := List.mem_of_getElem? h
    unfold lsW at hm
    rcases List.mem_append.1 hm with h' | h'
    · exact ⟨_, sgi_lt _, ray_one.1 h'⟩
    · exact ⟨_, sgi_lt _, ray_one.1 h'⟩
  · rintro ⟨j, hj, h⟩
    have hm : v ∈ lsW s a 1 u := by
      unfold lsW
      rcases (nbW_may h).2 with e | e
      · exact List.mem_append_left _ (ray_one.2 (e ▸ h))
      · exact List.mem_append_right _ (ray_one.2 (e ▸ h))
    obtain ⟨i, hi, e⟩ := List.getElem_of_mem hm
    have := lsW_len s a 1 u
    exact ⟨i, by omega, by unfold nbL; rw [List.getElem?_eq_getElem hi, e]⟩
theorem dist_congr {nb nb' : Nat → Nat → Option Nat} {N s0 : Nat} {F : Nat → Int} (he : ∀ u v, (∃ i, i < 4 ∧ nb u i = some v) ↔ ∃ j, j < 4 ∧ nb' u j = some v) (h : Dist nb N s0 F) : Dist nb' N s0 F := by
  refine ⟨h.f0, h.lo, h.z, fun u i v hu hi h0 hn => ?_, fun v hv h0 => ?_⟩
  · obtain ⟨j, hj, e⟩ := (he u v).2 ⟨i, hi, hn⟩
    exact h.re u j v hu hj h0 e
  · obtain ⟨u, i, hu, hi, e, f⟩ := h.pr v hv h0
    obtain ⟨j, hj, e'⟩ := (he u v).1 ⟨i, hi, e⟩
    exact ⟨u, j, hu, hj, e', f⟩
theorem far_same {s a : ByteArray} {s0 : Nat} (hs : s0 < a.size * s.size) : ∀ v, v < a.size * s.size → f (fin (nbL (lsW s a 1)) (a.size * s.size) s0) v = f (fin (nbW s a) (a.size * s.size) s0) v :=
  Dist.uniq nbW_valid (dist_congr (fun u v => edges) (fin_dist (nbL_valid (lsW_valid 1)) hs)) (fin_dist nbW_valid hs)
set_option maxRecDepth 100000 in
set_option maxHeartbeats 1600000 in
theorem Tryd.dfFn (w : World) (s a : ByteArray) (h1 : okT 101 119 s = true) (h2 : okT 110 115 a = true) (u b bw bb : Nat) (hu : u < a.size * s.size) (hb : b ≤ 8)
    (c0 : w.cell? ⟨bw, 0, none⟩ = some (.string s)) (c1 : w.cell? ⟨bw, 1, none⟩ = some (.string a)) (c2 : w.cell? ⟨bb, 0, none⟩ = some (.int .i64 (b : Nat))) :
    Calls Tryd.prog 26 (#[.agg #[.int .i64 (crn s.size u).1, .int .i64 (crn s.size u).2]] ++ #[.pointer (some ⟨bw, 0, none⟩), .pointer (some ⟨bb, 0, none⟩)]) w fun e w' => ∃ v, e = .returned v ∧ OwnE 47 2 (ccs s.size) w' w.heap.size v (lsW s a b u) ∧ Below w.heap.size w w' := by
  have HS := Lib.hid (fun (W : World) => Tryd.straightOn W s a h1 h2 u b hu hb)
  have sz0 : bw < w.heap.size := World.block_lt_of_cell? _ _ c0
  have sz1 : bb < w.heap.size := World.block_lt_of_cell? _ _ c2
  clear h1 h2 hu hb
  go_enter Tryd.func26, Tryd.ntmps26
  go_wp2_with (first | (go_at_call 27; refine (HS.out _).mono ?_; rintro e w1 ⟨v, rfl, ho, hb1⟩))
  have gA : Gr w (w.alloc (.cells #[.int .i64 (crn s.size u).1, .int .i64 (crn s.size u).2] 47)) := Gr.alloc (Gr.refl _) _
  go_ret
  exact ⟨_, rfl, ho.mono gA.below.size, Below.trans gA.below (hb1.mono gA.below.size)⟩
set_option maxRecDepth 100000 in
set_option maxHeartbeats 1600000 in
theorem Tryd.drivenFrom (w : World) (s a : ByteArray) (h1 : okT 101 119 s = true) (h2 : okT 110 115 a = true) (s0 : Nat) (hs : s0 < a.size * s.size) :
    Calls Tryd.prog 19 #[.agg #[.string s, .string a], .agg #[.int .i64 (crn s.size s0).1, .int .i64 (crn s.size s0).2], .int .i64 1] w fun e w' => ∃ b n D, e = .returned (.map (some b)) ∧
      w'.ownsMap Tryd.prog 47 rElem b n D ∧ MapIs s.size (a.size * s.size) D (fin (nbL (lsW s a 1)) (a.size * s.size) s0) ∧ Below w.heap.size w w' := by
  obtain ⟨W2, hW2⟩ : ∃ W, ((w.alloc (.cells #[.string s, .string a] 28)).alloc (.cells #[.int .i64 (crn s.size s0).1, .int .i64 (crn s.size s0).2] 47)).alloc (.cells #[.int .i64 1] 3) = W := ⟨_, rfl⟩
  have GX : Gr w W2 := by rw [← hW2]; exact by repeat (first | exact Gr.refl _ | refine Gr.alloc ?_ _ | refine Gr.trans ?_ (by assumption) | refine Gr.drew ?_ | refine Gr.drewN ?_ _ | refine Gr.grow ?_ _ | refine Gr.setCell ?_ (by (try simp); (try omega)) _)
  have c0 : W2.cell? ⟨w.heap.size, 0, none⟩ = some (.string s) := by rw [← hW2]; simp [go_sem]
  have c1 : W2.cell? ⟨w.heap.size, 1, none⟩ = some (.string a) := by rw [← hW2]; simp [go_sem]
  have c2 : W2.cell? ⟨w.heap.size + 1 + 1, 0, none⟩ = some (.int .i64 ((1 : Nat) : Int)) := by rw [← hW2]; simp [go_sem]
  have c3 : W2.cell? ⟨w.heap.size + 1, 0, none⟩ = some (.int .i64 (crn s.size s0).1) := by rw [← hW2]; simp [go_sem]
  have c4 : W2.cell? ⟨w.heap.size + 1, 1, none⟩ = some (.int .i64 (crn s.size s0).2) := by rw [← hW2]; simp [go_sem]
  have l1 := okT_len h1
  have l2 := okT_len h2
  have HR := Lib.hid (Tryd.reachedByW W2 a.size s.size (lsW s a 1) w.heap.size (w.heap.size + 1 + 1) s0 (by omega) (by omega) (lsW_valid 1) (fun u => by have := lsW_len s a 1 u; omega) hs
    (fun X u hu hX => Tryd.dfFn X s a h1 h2 u 1 _ _ hu (by decide) (cell_k2 hX c0) (cell_k2 hX c1) (cell_k2 hX c2)))
  have HG := Lib.hid GX
  clear h1 h2 hs GX c0 c1 c2 l1 l2
  go_enter Tryd.func19, Tryd.ntmps19
  go_wp2_with (first | (go_at_call 25; refine HR.out.mono ?_; rintro e w3 ⟨b, n, D, rfl, hown, hM, hb⟩))
  go_ret
  exact ⟨b, n, D, rfl, hown, hM, Below.trans HG.out.below (hb.mono HG.out.below.size)⟩
end Go.Proofs
