/-
  Chapter 7: a list of lists repeated (slices.Repeat); CountPaintings (the program).
-/
import Derived.Test.YtjhpebihflcanaaRsV
import Derived.Test.YtjhpebihflcanaaRlY
import Derived.Test.YtjhpebihflcanaaShelf
import Derived.Laws.CopyOwn
namespace Go.Proofs
open Go.RowKit Go.Maps Rl
set_option linter.unusedVariables false
set_option linter.unusedSimpArgs false
theorem Try.infoLs : (Try.prog.info? 29).map (fun i => (i.zero, i.size, i.bytes)) = some (some (.slice none 0 0), 1, 24) := by kernel_rfl
/-- n times u, then empty ones -/
def repC (u : Value) (n m : Nat) : List Value := List.replicate n u ++ List.replicate m (.slice none 0 0)
theorem repC_len (u : Value) (n m : Nat) : (repC u n m).length = n + m := by simp [repC]
theorem repC_splice (u : Value) (n m j : Nat) (hj : j ≤ m) : splice (repC u n m) n (List.replicate j u) = repC u (n + j) (m - j) := by
  unfold splice repC
  have e1 : (List.replicate n u ++ List.replicate m (Value.slice none 0 0)).take n = List.replicate n u := by simp
  have e2 : (List.replicate n u ++ List.replicate m (Value.slice none 0 0)).drop (n + (List.replicate j u).length) = List.replicate (m - j) (.slice none 0 0) := by
    rw [List.length_replicate, List.drop_append]
    simp
  rw [e1, e2, ← List.append_assoc, List.replicate_append_replicate]
theorem repC_at (u : Value) (n m i : Nat) (hi : i < n) : (repC u n m)[i]? = some u := by
  unfold repC
  rw [List.getElem?_append_left (by simpa using hi), List.getElem?_replicate, if_pos hi]
theorem one_at {u v : Value} {j : Nat} (h : [u][j]? = some v) : j = 0 ∧ u = v := by
  cases j with
  | zero => simpa using h
  | succ j => simp at h
theorem below_cell {B : Nat} {w w' : World} (h : Below B w w') {g o : Nat} (hg : g < B) : w'.cell? ⟨g, o, none⟩ = w.cell? ⟨g, o, none⟩ := by
  unfold World.cell?
  simp only [h.block g hg]
theorem made_blk {w w' : World} {N : Nat} {u : Value} (h : w'.ownsRow w.heap.size 29 1 (.slice (some ⟨w.heap.size, 0, none⟩) N N) N (madeCells (Value.slice none 0 0).cells (N * 1)).toList) :
    w'.heap[w.heap.size]? = some (.cells (repC u 0 N).toArray 29 (0, 0)) := by
  rcases h.2 with ⟨h1, _⟩ | ⟨g, cap, cur, h1, _, h2, _, _, h3, h4⟩
  · cases h1
  · simp only [Value.slice.injEq, Option.some.injEq, Addr.mk.injEq] at h1
    obtain ⟨⟨rfl, _⟩, _, rfl⟩ := h1
    have e : cur.toList = (madeCells (Value.slice none 0 0).cells (N * 1)).toList := by
      rw [← h4, List.take_of_length_le (by simp; omega)]
    rw [h2, ← Array.toArray_toList (xs := cur), e]
    simp [repC, Value.cells, toList_madeCells_one]
set_option maxRecDepth 100000 in
set_option maxHeartbeats 1600000 in
theorem Try.repeatRows (w : World) (g c N : Nat) (u : Value) (h1 : 1 ≤ N) (h2 : N ≤ 20) (ho : u.oneCell' = true) (hu : w.cell? ⟨g, 0, none⟩ = some u) (hg : g < w.heap.size) :
    Calls Try.prog 40 #[.slice (some ⟨g, 0, none⟩) 1 c, .int .i64 N] w fun e w' => e = .returned (.slice (some ⟨w.heap.size, 0, none⟩) N N) ∧ w'.heap[w.heap.size]? = some (.cells (repC u N 0).toArray 29 (0, 0)) ∧ Below w.heap.size w w' := by
  have mixed : Try.prog.follows .mixedOrders = true := by kernel_rfl
  have HM := Lib.hid (fun (X : World) => Try.bits_Mul 1 N (by decide) (by omega) X)
  have e1 : 1 * N / 18446744073709551616 = 0 := by omega
  have e2 : 1 * N % 18446744073709551616 = N := by omega
  rw [e1, e2] at HM
  obtain ⟨i0, hi, hz0, hz1, hz2⟩ := info_parts Try.infoLs
  have hsz : (Try.prog.info? 29).map (·.size) = some 1 := by rw [hi]; simp [hz1]
  have HSZ := Lib.hid hsz
  have HII := Lib.hid hi
  have HU := Lib.hid (And.intro hu hg)
  have HO := Lib.hid ho
  have n0 : (0 : Int) ≤ (N : Int) := by omega
  have n1 : (1 : Int) ≤ (N : Int) := by omega
  have n2 : (N : Int) ≤ 20 := by omega
  clear e1 e2 hi hu hg ho hsz
  go_enter Try.func40, Try.ntmps40
  go_wp2_with (first
    | (go_at_call 50; refine (HM.out _).mono ?_; rintro e w1 ⟨rfl, hw⟩; have hw' := hw.symm; subst hw'; clear hw)
    | (at_make; refine wpList_make_full _ rfl _ _ 22 rfl w.heap.size 29 i0 (.slice none 0 0) 1 Try.underlying22 HII.out hz0 hz1 .i64 .i64 _ _ N rfl rfl (by rfl) (by rfl) (by rw [hz2]; omega) (by unfold maxLen; omega) (Nat.le_refl _) ?_; intro w1 hown1 hgr1
       have HB1 := Lib.hid ((Below.refl w.heap.size w).grown hgr1 (Nat.le_refl _) (by simp))
       have HC1 := Lib.hid (show w1.heap[w.heap.size]? = some (.cells (repC u 0 N).toArray 29 (0, 0)) from made_blk hown1)
       clear hown1 hgr1)
    | ((refine wpList_copy_splice rfl _ _ 22 22 rfl 29 Try.underlying22 HSZ.out _ _ _ _ _ _ rfl rfl w.heap.size 0 (repC u 0 N) 29 HC1.out [u] (by simp [Nat.min_def]; omega) (fun _ => ⟨rfl, _, rfl, fun j v hj => by
          obtain ⟨rfl, rfl⟩ := one_at hj
          exact (below_cell HB1.out HU.out.2).trans HU.out.1⟩) (by rw [repC_len]; simp; omega) (fun v hv => by rw [List.mem_singleton] at hv; rw [hv]; exact HO.out) w.heap.size w HB1.out (Nat.le_refl _) ?_)
       intro w2 hc2 hb2
       have hc2 := hc2.out
       rw [show ([u] : List Value) = List.replicate 1 u from rfl, repC_splice u 0 N 1 h1] at hc2
       have HC2 := Lib.hid hc2
       have HB2 := Lib.hid hb2
       clear hc2 hb2))
  go_loopw [8] (fun nv wr => ∃ n : Nat, nv = .int .i64 n ∧ 1 ≤ n ∧ n ≤ N ∧ wr.heap[w.heap.size]? = some (.cells (repC u n (N - n)).toArray 29 (0, 0)) ∧ Below w.heap.size w wr) (fun nv _ => N - (intOf nv).toNat)
  case atStart => exact ⟨1, rfl, Nat.le_refl _, h1, HC2.out, HB2.out⟩
  case round =>
    obtain ⟨n, rfl, hn1, hn2, hc, hb⟩ := hrel
    have HC := Lib.hid hc
    have HB := Lib.hid hb
    clear hc hb
    by_cases hlt : n < N
    · have z1 : (n : Int) < (N : Int) := by omega
      have z2 : ¬ N = n := by omega
      have z3 : (0 : Int) ≤ (n : Int) := by omega
      have z4 : ¬ (n : Int) = (N : Int) := by omega
      have z5 : ¬ (N : Int) = (n : Int) := by omega
      obtain ⟨m, hm⟩ : ∃ m, m = Nat.min n (N - n) := ⟨_, rfl⟩
      have hm1 : 1 ≤ m := by rw [hm]; simp [Nat.min_def]; split <;> omega
      have hm2 : m ≤ N - n := by rw [hm]; simp [Nat.min_def]; split <;> omega
      have hm3 : m ≤ n := by rw [hm]; simp [Nat.min_def]; split <;> omega
      have HMM := Lib.hid hm
      clear hm
      have hcr := run_copy_row (P := Try.prog) wr.drew 22 22 3 29 w.heap.size n (N - n) (N - n) ⟨w.heap.size, 0, none⟩ n N (repC u n (N - n)).toArray 29 (List.replicate m u) Try.underlying22 HSZ.out HC.out (by rw [List.length_replicate]; exact HMM.out) (fun j v hj => by
          rw [List.getElem?_replicate] at hj
          split at hj
          · rename_i hjm
            simp only [Option.some.injEq] at hj
            subst hj
            have q : wr.drew.heap[w.heap.size]? = some (Obj.cells (repC u n (N - n)).toArray 29 (0, 0)) := HC.out
            rw [show Addr.add ⟨w.heap.size, 0, none⟩ j = ⟨w.heap.size, j, none⟩ by cases j <;> simp [Addr.add], blk_cell q]
            simp only [List.getElem?_toArray]
            exact repC_at u n (N - n) j (by omega)
          · cases hj) (by simp [repC_len]; omega) (fun v hv => by rw [List.eq_of_mem_replicate hv]; exact HO.out)
      have hnew := setRow_heap wr.drew w.heap.size _ ((repC u n (N - n)).toArray.toList.take n ++ List.replicate m u ++ (repC u n (N - n)).toArray.toList.drop (n + (List.replicate m u).length)).toArray 29 (0, 0) HC.out
      have hbl := below_setRow (Below.drew HB.out) (Nat.le_refl w.heap.size) ((repC u n (N - n)).toArray.toList.take n ++ List.replicate m u ++ (repC u n (N - n)).toArray.toList.drop (n + (List.replicate m u).length)).toArray
      obtain ⟨Z, hZ⟩ : ∃ Z, wr.drew.setRow w.heap.size ((repC u n (N - n)).toArray.toList.take n ++ List.replicate m u ++ (repC u n (N - n)).toArray.toList.drop (n + (List.replicate m u).length)).toArray = Z := ⟨_, rfl⟩
      rw [hZ] at hcr hnew hbl
      have hsp := repC_splice u n (N - n) m hm2
      unfold splice at hsp
      rw [show N - n - m = N - (n + m) by omega] at hsp
      simp only [List.append_assoc] at hnew
      rw [hsp] at hnew
      have hgi : goInt (List.replicate m u).length = .int .i64 (m : Int) := by rw [List.length_replicate]; rfl
      rw [hgi] at hcr
      have HN := Lib.hid hnew
      have HBL := Lib.hid hbl
      have z6 : (n : Int) + (m : Int) ≤ 20 := by omega
      clear hnew hbl hZ hsp hgi
      go_wp2_with fail
      go_region
      all_goals go_wp2_with fail
      all_goals go_roundw
      case rel => exact ⟨n + m, by go_num, by omega, by omega, HN.out, HBL.out⟩
      case measure => simp [intOf]; omega
    · obtain rfl : n = N := by omega
      have z1 : ¬ (n : Int) < (n : Int) := by omega
      have hc := HC.out
      rw [Nat.sub_self] at hc
      have HC0 := Lib.hid hc
      clear hc
      go_wp2_with fail
      go_ret
      exact ⟨rfl, HC0.out, HB.out⟩
end Go.Proofs
