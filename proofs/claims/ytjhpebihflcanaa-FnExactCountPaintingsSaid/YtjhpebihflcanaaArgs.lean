/-
  Arguments that are lists of ints: the word ArgI, and the contract of the law's own copy (laws.toIntS).
-/
import Derived.Test.YtjhpebihflcanaaInts
import Derived.Laws.OwnMore
namespace Go.Proofs
open Go.RowKit
set_option linter.unusedVariables false
set_option linter.unusedSimpArgs false
/-- An argument of ints: nil, or a row that lies anywhere. -/
def ArgI (w : World) (A : Option Addr) (len cap : Nat) (zs : List Int) : Prop :=
  zs.length = len ∧ len ≤ cap ∧ cap ≤ maxLen ∧ (∀ n ∈ zs, (Lit.int .i64 n).wf = true) ∧ (zs = [] ∨ ∃ a, A = some a ∧ ∀ j, j < zs.length → w.cell? (a.add j) = some (.int .i64 (zs.getD j 0)))
theorem Gr.keep3 {w w' : World} {a : Addr} {v : Value} (g : Gr w w') (h : w.cell? a = some v) : w'.cell? a = some v :=
  (g.below.cell (World.block_lt_of_cell? _ _ h)).trans h
theorem Below.keep3 {w w' : World} {a : Addr} {v : Value} (g : Below w.heap.size w w') (h : w.cell? a = some v) : w'.cell? a = some v :=
  (g.cell (World.block_lt_of_cell? _ _ h)).trans h
theorem ArgI.below {w w' : World} {A : Option Addr} {len cap : Nat} {zs : List Int} (h : ArgI w A len cap zs) (g : Below w.heap.size w w') : ArgI w' A len cap zs := by
  obtain ⟨a, b, c, d, e⟩ := h
  refine ⟨a, b, c, d, e.imp id ?_⟩
  rintro ⟨x, rfl, hx⟩
  exact ⟨x, rfl, fun j hj => Below.keep3 g (hx j hj)⟩
/-- What the library reads of an argument of ints gives the word. -/
theorem ArgI.of_open {w : World} {x : Addr} {len cap : Nat} {zs : List Int} (hl : len ≤ cap) (hm : cap ≤ maxLen) (hz : zs.length = cap) (hc : ∀ i, i < zs.length → w.cell? (x.add i) = some (.int .i64 (zs.getD i 0)))
    (hw : ∀ n ∈ zs, (Lit.int .i64 n).wf = true) : ∃ ys, ArgI w (some x) len cap ys :=
  ⟨zs.take len, by simp; omega, hl, hm, fun n hn => hw n (List.mem_of_mem_take hn), .inr ⟨x, rfl, fun j hj => by
    have h1 : j < len := by simp at hj; omega
    rw [hc j (by omega)]
    simp [List.getD, List.getElem?_take, h1]⟩⟩
/-- the first i are copied, the others are still zero -/
def cps (i : Nat) (xs : List Int) : List Int := xs.take i ++ List.replicate (xs.length - i) 0
theorem cps_zero (xs : List Int) : cps 0 xs = List.replicate xs.length 0 := by simp [cps]
theorem cps_all (xs : List Int) : cps xs.length xs = xs := by simp [cps]
theorem cps_len (i : Nat) (xs : List Int) (h : i ≤ xs.length) : (cps i xs).length = xs.length := by simp [cps]; omega
theorem cps_set (i : Nat) (xs : List Int) (h : i < xs.length) : (cps i xs).set i (xs.getD i 0) = cps (i + 1) xs := by
  unfold cps
  rw [List.set_append_right _ _ (by simp; omega)]
  have e : xs.length - i = (xs.length - (i + 1)) + 1 := by omega
  have m : min i xs.length = i := by omega
  rw [e, List.replicate_succ, List.length_take, m, Nat.sub_self, List.set_cons_zero]
  simp only [List.getD, List.getElem?_eq_getElem h, Option.getD_some]
  rw [← List.take_append_getElem h, List.append_assoc]
  rfl
theorem Try.infoI : (Try.prog.info? 3).map (fun i => (i.zero, i.size, i.bytes)) = some (some (.int .i64 0), 1, 8) := by kernel_rfl
def CRel (B : Nat) (xs : List Int) (v : Value) (w : World) (i : Value) (wr : World) : Prop := ∃ k : Nat, k ≤ xs.length ∧ i = .int .i64 k ∧ OwnI wr B v (cps k xs) ∧ Below B w wr
set_option maxHeartbeats 400000 in
theorem Try.toIntS (w : World) (A : Option Addr) (len cap : Nat) (xs : List Int) (hb : len ≤ 1048576) (h : ArgI w A len cap xs) :
    Calls Try.prog 26 #[.slice A len cap] w fun e w' => ∃ v, e = .returned v ∧ OwnI w' w.heap.size v xs ∧ Below w.heap.size w w' := by
  obtain ⟨rfl, h1, h2, h3, h4⟩ := h
  obtain ⟨i0, hi, hz0, hz1, hz2⟩ := info_parts Try.infoI
  have H4 := Lib.hid h4
  clear h1 h2 h3 h4
  go_enter Try.func26, Try.ntmps26
  go_wp2_with (at_make; refine wpList_make_full _ rfl _ _ 29 rfl w.heap.size 3 i0 (.int .i64 0) 1 Try.underlying29 hi hz0 hz1 .i64 .i64 _ _ xs.length rfl rfl (by rfl) (by rfl) (by rw [hz2]; omega) (by unfold maxLen; omega) (Nat.le_refl _) ?_)
  intro w2 hown2 hgrow2
  have hb2 : Below w.heap.size w w2 := (Below.refl _ _).grown hgrow2 (Nat.le_refl _) (by simp)
  have ho2 : OwnI w2 w.heap.size (.slice (some ⟨w.heap.size, 0, none⟩) xs.length xs.length) (cps 0 xs) := by
    unfold OwnI
    rw [cps_zero]
    simpa [Value.cells, toList_madeCells_one] using hown2
  have HO := Lib.hid ho2
  have HB := Lib.hid hb2
  clear hown2 hgrow2 ho2 hb2
  go_wp2
  go_loopw [4] (fun i wr => CRel w.heap.size xs (.slice (some ⟨w.heap.size, 0, none⟩) xs.length xs.length) w i wr) (fun i _ => (xs.length - intOf i).toNat)
  case atStart => exact ⟨0, Nat.zero_le _, rfl, HO.out, HB.out⟩
  case round =>
    obtain ⟨k, hk, rfl, ho, hb'⟩ := hrel
    by_cases hlt : k < xs.length
    · rcases H4.out with q | ⟨a, rfl, hc⟩
      · rw [q] at hlt; simp at hlt
      have hl := cps_len k xs hk
      have ho' := ho
      unfold OwnI at ho'
      rw [hl] at ho'
      have e0 : wr.cell? (a.add k) = some (.int .i64 (xs.getD k 0)) := Below.keep3 hb' (hc k hlt)
      have e1 : wr.cell? ⟨w.heap.size, k, none⟩ = some (.int .i64 ((cps k xs).getD k 0)) := by
        rw [World.ownsRow.cellAt ho' k (by omega)]
        simp [List.getD, show k < (cps k xs).length by omega]
      have e2 : wr.frozen? ⟨w.heap.size, k, none⟩ = false := World.ownsRow.frozenAt ho' k
      have st := (World.ownsRow.stored ho' k (.int .i64 (xs.getD k 0))).1
      have ms := cps_set k xs hlt
      have hl2 := cps_len (k + 1) xs (by omega)
      have z0 : (0 : Int) ≤ (k : Int) := by omega
      have z1 : (k : Int) < (xs.length : Int) := by omega
      have ST := Lib.hid st
      have MS := Lib.hid ms
      have HL := Lib.hid hl2
      have HB' := Lib.hid hb'
      clear st ms ho ho' hl hl2 hb' hc
      generalize xs.getD k 0 = y at *
      generalize (cps k xs).getD k 0 = y' at *
      go_wp2
      go_roundw
      case rel =>
        refine ⟨k + 1, by omega, by go_num, ?_, HB'.out.setCell (Nat.le_refl _) _⟩
        have := ST.out
        unfold OwnI
        rw [HL.out, ← MS.out, List.map_set]
        exact this
      case measure => simp [intOf]; omega
    · obtain rfl : k = xs.length := by omega
      have HO' := Lib.hid ho
      have HB' := Lib.hid hb'
      clear ho hb'
      go_wp2
      go_ret
      exact ⟨_, rfl, by have := HO'.out; rw [cps_all] at this; exact this, HB'.out⟩
end Go.Proofs
