/-
  Chapter 9: solutions, both sides (Solutions, CountSolutions, FirstSolution, RangeOfSolutions, IsSolved; DoesFit).
-/
import Derived.Test.YtbnabjnpdkmbhaaPzI
namespace Go.Proofs
open Go.RowKit
set_option linter.unusedVariables false
set_option linter.unusedSimpArgs false
def solB (k p : Int) (cs : List Clu) : Bool := pgood k p cs
def solL (k p : Int) (cs : List Clu) : List Int := if pgood k p cs then pall k p cs else []
theorem solL_len (k p : Int) (cs : List Clu) : (solL k p cs).length ≤ 40 := by
  unfold solL
  cases h : pgood k p cs
  · simp
  · rw [if_pos rfl]; exact pall_len (pgood_lt h).1 cs
theorem solL_no {k p : Int} {cs : List Clu} (h : pgood k p cs = false) : solL k p cs = [] := by simp [solL, h]
theorem solL_yes {k p : Int} {cs : List Clu} (h : pgood k p cs = true) : solL k p cs = pall k p cs := by simp [solL, h]
set_option maxRecDepth 100000 in
set_option maxHeartbeats 800000 in
theorem Try.sSolutions (w : World) (k p : Int) (v : Value) (cs : List Clu) (b : Bool) (hb : pgood k p cs = b) (h : CluRow w v cs) :
    Calls Try.prog 29 #[pzV k p v] w fun e w' => ∃ v', e = .returned (.tuple #[v', .bool b]) ∧ OwnI w' w.heap.size v' (solL k p cs) ∧ Below w.heap.size w w' := by
  have PG := Lib.hid (fun (W : World) (g : Gr w W) => Try.pzGood W k p v cs _ hb (h.gr g))
  have PA := Lib.hid (fun (W : World) (g : Gr w W) a b => Try.pzAll W k p v cs a b (h.gr g))
  obtain ⟨A, c, rfl, hlc, hm, h⟩ := h
  unfold maxLen at hm
  cases b
  · rw [solL_no hb]
    clear hb h
    go_enter Try.func29, Try.ntmps29
    go_wp2_with (first | (go_at_call 63; refine (PG.out _ (by repeat (first | exact Gr.refl _ | refine Gr.alloc ?_ _ | refine Gr.trans ?_ (by assumption) | refine Gr.drew ?_ | refine Gr.drewN ?_ _ | refine Gr.grow ?_ _ | refine Gr.setCell ?_ (by (try simp); (try omega)) _))).mono ?_; rintro e w1 ⟨rfl, hbW⟩; have hcW := (bcell hbW.below).1; have hfW := (bcell hbW.below).2; (try have hzW : w.heap.size < w1.heap.size := by have hq := hbW.below.size; (try simp at hq); omega); (try have hyW : w.heap.size + 1 < w1.heap.size := by have hq := hbW.below.size; (try simp at hq); omega); (try have hxW : w.heap.size + 2 < w1.heap.size := by have hq := hbW.below.size; (try simp at hq); omega)))
    go_ret2
    exact ⟨_, rfl, OwnI.nil2 _ _, Gr.below (by repeat (first | exact Gr.refl _ | refine Gr.alloc ?_ _ | refine Gr.trans ?_ (by assumption) | refine Gr.drew ?_ | refine Gr.drewN ?_ _ | refine Gr.grow ?_ _ | refine Gr.setCell ?_ (by (try simp); (try omega)) _))⟩
  · rw [solL_yes hb]
    obtain ⟨q1, q2, q3⟩ := pgood_lt hb
    have Q := Lib.hid (And.intro q1 q3)
    clear hb h q1 q2 q3
    go_enter Try.func29, Try.ntmps29
    go_wp2_with (first | (go_at_call 63; refine (PG.out _ (by repeat (first | exact Gr.refl _ | refine Gr.alloc ?_ _ | refine Gr.trans ?_ (by assumption) | refine Gr.drew ?_ | refine Gr.drewN ?_ _ | refine Gr.grow ?_ _ | refine Gr.setCell ?_ (by (try simp); (try omega)) _))).mono ?_; rintro e w1 ⟨rfl, hbW⟩; have hcW := (bcell hbW.below).1; have hfW := (bcell hbW.below).2; (try have hzW : w.heap.size < w1.heap.size := by have hq := hbW.below.size; (try simp at hq); omega); (try have hyW : w.heap.size + 1 < w1.heap.size := by have hq := hbW.below.size; (try simp at hq); omega); (try have hxW : w.heap.size + 2 < w1.heap.size := by have hq := hbW.below.size; (try simp at hq); omega)) | (go_at_call 71; refine (PA.out _ (by repeat (first | exact Gr.refl _ | refine Gr.alloc ?_ _ | refine Gr.trans ?_ (by assumption) | refine Gr.drew ?_ | refine Gr.drewN ?_ _ | refine Gr.grow ?_ _ | refine Gr.setCell ?_ (by (try simp); (try omega)) _)) Q.out.1 Q.out.2).mono ?_; rintro e w2 ⟨v2, rfl, ho, hbl⟩; have GG := Lib.hid (show Gr w w1 from (by repeat (first | exact Gr.refl _ | refine Gr.alloc ?_ _ | refine Gr.trans ?_ (by assumption) | refine Gr.drew ?_ | refine Gr.drewN ?_ _ | refine Gr.grow ?_ _ | refine Gr.setCell ?_ (by (try simp); (try omega)) _))); have HO := Lib.hid ho; have HB := Lib.hid hbl; clear ho hbl))
    go_ret2
    exact ⟨_, rfl, HO.out.mono GG.out.below.size, GG.out.below.trans (HB.out.mono GG.out.below.size)⟩
set_option maxRecDepth 100000 in
set_option maxHeartbeats 800000 in
theorem Try.iSolutions (w : World) (k p : Int) (v : Value) (cs : List Clu) (b : Bool) (hb : pgood k p cs = b) (h : CluRow w v cs) :
    Calls Try.prog 30 #[pzV k p v] w fun e w' => ∃ v', e = .returned (.tuple #[v', .bool b]) ∧ OwnI w' w.heap.size v' (solL k p cs) ∧ Below w.heap.size w w' := by
  have PG := Lib.hid (fun (W : World) (g : Gr w W) => Try.iIsPuzzle W k p v cs _ hb (h.gr g))
  have PA := Lib.hid (fun (W : World) (g : Gr w W) a b => Try.leftBy W k p v cs a b (h.gr g))
  obtain ⟨A, c, rfl, hlc, hm, h⟩ := h
  unfold maxLen at hm
  cases b
  · rw [solL_no hb]
    clear hb h
    go_enter Try.func30, Try.ntmps30
    go_wp2_with (first | (go_at_call 25; refine (PG.out _ (by repeat (first | exact Gr.refl _ | refine Gr.alloc ?_ _ | refine Gr.trans ?_ (by assumption) | refine Gr.drew ?_ | refine Gr.drewN ?_ _ | refine Gr.grow ?_ _ | refine Gr.setCell ?_ (by (try simp); (try omega)) _))).mono ?_; rintro e w1 ⟨rfl, hbW⟩; have hcW := (bcell hbW.below).1; have hfW := (bcell hbW.below).2; (try have hzW : w.heap.size < w1.heap.size := by have hq := hbW.below.size; (try simp at hq); omega); (try have hyW : w.heap.size + 1 < w1.heap.size := by have hq := hbW.below.size; (try simp at hq); omega); (try have hxW : w.heap.size + 2 < w1.heap.size := by have hq := hbW.below.size; (try simp at hq); omega)))
    go_ret2
    exact ⟨_, rfl, OwnI.nil2 _ _, Gr.below (by repeat (first | exact Gr.refl _ | refine Gr.alloc ?_ _ | refine Gr.trans ?_ (by assumption) | refine Gr.drew ?_ | refine Gr.drewN ?_ _ | refine Gr.grow ?_ _ | refine Gr.setCell ?_ (by (try simp); (try omega)) _))⟩
  · rw [solL_yes hb]
    obtain ⟨q1, q2, q3⟩ := pgood_lt hb
    have Q := Lib.hid (And.intro q1 q3)
    clear hb h q1 q2 q3
    go_enter Try.func30, Try.ntmps30
    go_wp2_with (first | (go_at_call 25; refine (PG.out _ (by repeat (first | exact Gr.refl _ | refine Gr.alloc ?_ _ | refine Gr.trans ?_ (by assumption) | refine Gr.drew ?_ | refine Gr.drewN ?_ _ | refine Gr.grow ?_ _ | refine Gr.setCell ?_ (by (try simp); (try omega)) _))).mono ?_; rintro e w1 ⟨rfl, hbW⟩; have hcW := (bcell hbW.below).1; have hfW := (bcell hbW.below).2; (try have hzW : w.heap.size < w1.heap.size := by have hq := hbW.below.size; (try simp at hq); omega); (try have hyW : w.heap.size + 1 < w1.heap.size := by have hq := hbW.below.size; (try simp at hq); omega); (try have hxW : w.heap.size + 2 < w1.heap.size := by have hq := hbW.below.size; (try simp at hq); omega)) | (go_at_call 72; refine (PA.out _ (by repeat (first | exact Gr.refl _ | refine Gr.alloc ?_ _ | refine Gr.trans ?_ (by assumption) | refine Gr.drew ?_ | refine Gr.drewN ?_ _ | refine Gr.grow ?_ _ | refine Gr.setCell ?_ (by (try simp); (try omega)) _)) Q.out.1 Q.out.2).mono ?_; rintro e w2 ⟨v2, rfl, ho, hbl⟩; have GG := Lib.hid (show Gr w w1 from (by repeat (first | exact Gr.refl _ | refine Gr.alloc ?_ _ | refine Gr.trans ?_ (by assumption) | refine Gr.drew ?_ | refine Gr.drewN ?_ _ | refine Gr.grow ?_ _ | refine Gr.setCell ?_ (by (try simp); (try omega)) _))); have HO := Lib.hid ho; have HB := Lib.hid hbl; clear ho hbl))
    go_ret2
    exact ⟨_, rfl, HO.out.mono GG.out.below.size, GG.out.below.trans (HB.out.mono GG.out.below.size)⟩
def solN (k p : Int) (cs : List Clu) : Int := (solL k p cs).length
set_option maxRecDepth 100000 in
set_option maxHeartbeats 800000 in
theorem Try.sCountSolutions (w : World) (k p : Int) (v : Value) (cs : List Clu) (b : Bool) (hb : pgood k p cs = b) (h : CluRow w v cs) :
    Calls Try.prog 35 #[pzV k p v] w fun e w' => e = .returned (.tuple #[.int .i64 (solN k p cs), .bool b]) ∧ Below w.heap.size w w' := by
  have PG := Lib.hid (fun (W : World) (g : Gr w W) => Try.pzGood W k p v cs _ hb (h.gr g))
  have PA := Lib.hid (fun (W : World) (g : Gr w W) a b => Try.pzAll W k p v cs a b (h.gr g))
  obtain ⟨A, c, rfl, hlc, hm, h⟩ := h
  unfold maxLen at hm
  unfold solN
  cases b
  · rw [solL_no hb]
    clear hb h
    go_enter Try.func35, Try.ntmps35
    go_wp2_with (first | (go_at_call 63; refine (PG.out _ (by repeat (first | exact Gr.refl _ | refine Gr.alloc ?_ _ | refine Gr.trans ?_ (by assumption) | refine Gr.drew ?_ | refine Gr.drewN ?_ _ | refine Gr.grow ?_ _ | refine Gr.setCell ?_ (by (try simp); (try omega)) _))).mono ?_; rintro e w1 ⟨rfl, hbW⟩; have hcW := (bcell hbW.below).1; have hfW := (bcell hbW.below).2; (try have hzW : w.heap.size < w1.heap.size := by have hq := hbW.below.size; (try simp at hq); omega); (try have hyW : w.heap.size + 1 < w1.heap.size := by have hq := hbW.below.size; (try simp at hq); omega); (try have hxW : w.heap.size + 2 < w1.heap.size := by have hq := hbW.below.size; (try simp at hq); omega)))
    go_ret2
    exact ⟨rfl, Gr.below (by repeat (first | exact Gr.refl _ | refine Gr.alloc ?_ _ | refine Gr.trans ?_ (by assumption) | refine Gr.drew ?_ | refine Gr.drewN ?_ _ | refine Gr.grow ?_ _ | refine Gr.setCell ?_ (by (try simp); (try omega)) _))⟩
  · rw [solL_yes hb]
    obtain ⟨q1, q2, q3⟩ := pgood_lt hb
    have Q := Lib.hid (And.intro q1 q3)
    clear hb h q1 q2 q3
    go_enter Try.func35, Try.ntmps35
    go_wp2_with (first | (go_at_call 63; refine (PG.out _ (by repeat (first | exact Gr.refl _ | refine Gr.alloc ?_ _ | refine Gr.trans ?_ (by assumption) | refine Gr.drew ?_ | refine Gr.drewN ?_ _ | refine Gr.grow ?_ _ | refine Gr.setCell ?_ (by (try simp); (try omega)) _))).mono ?_; rintro e w1 ⟨rfl, hbW⟩; have hcW := (bcell hbW.below).1; have hfW := (bcell hbW.below).2; (try have hzW : w.heap.size < w1.heap.size := by have hq := hbW.below.size; (try simp at hq); omega); (try have hyW : w.heap.size + 1 < w1.heap.size := by have hq := hbW.below.size; (try simp at hq); omega); (try have hxW : w.heap.size + 2 < w1.heap.size := by have hq := hbW.below.size; (try simp at hq); omega)) | (go_at_call 71; refine (PA.out _ (by repeat (first | exact Gr.refl _ | refine Gr.alloc ?_ _ | refine Gr.trans ?_ (by assumption) | refine Gr.drew ?_ | refine Gr.drewN ?_ _ | refine Gr.grow ?_ _ | refine Gr.setCell ?_ (by (try simp); (try omega)) _)) Q.out.1 Q.out.2).mono ?_; rintro e w2 ⟨v2, rfl, ho, hbl⟩; obtain ⟨A2, c2, rfl, ho⟩ := OwnI.eta ho; have GG := Lib.hid (show Gr w w1 from (by repeat (first | exact Gr.refl _ | refine Gr.alloc ?_ _ | refine Gr.trans ?_ (by assumption) | refine Gr.drew ?_ | refine Gr.drewN ?_ _ | refine Gr.grow ?_ _ | refine Gr.setCell ?_ (by (try simp); (try omega)) _))); have HB := Lib.hid hbl; clear ho hbl))
    go_ret2
    exact ⟨rfl, GG.out.below.trans (HB.out.mono GG.out.below.size)⟩
set_option maxRecDepth 100000 in
set_option maxHeartbeats 800000 in
theorem Try.iCountSolutions (w : World) (k p : Int) (v : Value) (cs : List Clu) (b : Bool) (hb : pgood k p cs = b) (h : CluRow w v cs) :
    Calls Try.prog 36 #[pzV k p v] w fun e w' => e = .returned (.tuple #[.int .i64 (solN k p cs), .bool b]) ∧ Below w.heap.size w w' := by
  have PG := Lib.hid (fun (W : World) (g : Gr w W) => Try.iSolutions W k p v cs _ hb (h.gr g))
  obtain ⟨A, c, rfl, hlc, hm, h⟩ := h
  unfold solN
  clear hb h
  go_enter Try.func36, Try.ntmps36
  go_wp2_with (first | (go_at_call 30; refine (PG.out _ (by repeat (first | exact Gr.refl _ | refine Gr.alloc ?_ _ | refine Gr.trans ?_ (by assumption) | refine Gr.drew ?_ | refine Gr.drewN ?_ _ | refine Gr.grow ?_ _ | refine Gr.setCell ?_ (by (try simp); (try omega)) _))).mono ?_; rintro e w2 ⟨v2, rfl, ho, hbl⟩; obtain ⟨A2, c2, rfl, ho⟩ := OwnI.eta ho; have HB := Lib.hid hbl; clear ho hbl))
  go_ret2
  exact ⟨rfl, (Gr.alloc (Gr.refl w) _).below.trans (HB.out.mono (by simp))⟩
set_option maxRecDepth 100000 in
set_option maxHeartbeats 800000 in
theorem Try.iIsSolved (w : World) (k p : Int) (v : Value) (cs : List Clu) (b : Bool) (hb : pgood k p cs = b) (h : CluRow w v cs) :
    Calls Try.prog 42 #[pzV k p v] w fun e w' => e = .returned (.tuple #[.bool (solN k p cs == 1), .bool b]) ∧ Below w.heap.size w w' := by
  have PG := Lib.hid (fun (W : World) (g : Gr w W) => Try.iCountSolutions W k p v cs _ hb (h.gr g))
  obtain ⟨A, c, rfl, hlc, hm, h⟩ := h
  clear hb h
  go_enter Try.func42, Try.ntmps42
  go_wp2_with (first | (go_at_call 36; refine (PG.out _ (by repeat (first | exact Gr.refl _ | refine Gr.alloc ?_ _ | refine Gr.trans ?_ (by assumption) | refine Gr.drew ?_ | refine Gr.drewN ?_ _ | refine Gr.grow ?_ _ | refine Gr.setCell ?_ (by (try simp); (try omega)) _))).mono ?_; rintro e w2 ⟨rfl, hbl⟩; have HB := Lib.hid hbl; clear hbl))
  go_ret2
  exact ⟨rfl, (Gr.alloc (Gr.refl w) _).below.trans (HB.out.mono (by simp))⟩
set_option maxRecDepth 100000 in
set_option maxHeartbeats 800000 in
theorem Try.pzSolved (w : World) (k p : Int) (v : Value) (cs : List Clu) (hg : pst k p = true) (ha : cs.all cok = true) (h : CluRow w v cs) :
    Calls Try.prog 74 #[.agg #[.int .i64 k, .int .i64 p], v] w fun e w' => e = .returned (.bool (psol k p cs)) ∧ Below w.heap.size w w' := by
  have PA := Lib.hid (fun (W : World) (g : Gr w W) => Try.pzAll W k p v cs hg ha (h.gr g))
  have hl := pall_len hg cs
  obtain ⟨A, c, rfl, hlc, hm, h⟩ := h
  have ep : psol k p cs = (((pall k p cs).length : Int) == 1) := by unfold psol; rw [Bool.eq_iff_iff]; simp; omega
  have EP := Lib.hid ep
  clear h ep hg ha
  go_enter Try.func74, Try.ntmps74
  go_wp2_with (first | (go_at_call 71; refine (PA.out _ (by repeat (first | exact Gr.refl _ | refine Gr.alloc ?_ _ | refine Gr.trans ?_ (by assumption) | refine Gr.drew ?_ | refine Gr.drewN ?_ _ | refine Gr.grow ?_ _ | refine Gr.setCell ?_ (by (try simp); (try omega)) _))).mono ?_; rintro e w2 ⟨v2, rfl, ho, hbl⟩; obtain ⟨A2, c2, rfl, ho⟩ := OwnI.eta ho; have HB := Lib.hid hbl; clear ho hbl))
  go_ret
  exact ⟨by rw [EP.out]; rfl, (Gr.alloc (Gr.refl w) _).below.trans (HB.out.mono (by simp))⟩
set_option maxRecDepth 100000 in
set_option maxHeartbeats 800000 in
theorem Try.isSolvedBy (w : World) (k p : Int) (v : Value) (cs : List Clu) (hg : pst k p = true) (ha : cs.all cok = true) (h : CluRow w v cs) :
    Calls Try.prog 81 #[.agg #[.int .i64 k, .int .i64 p], v] w fun e w' => e = .returned (.bool (psol k p cs)) ∧ Below w.heap.size w w' := by
  have PA := Lib.hid (fun (W : World) (g : Gr w W) => Try.leftBy W k p v cs hg ha (h.gr g))
  have hl := pall_len hg cs
  obtain ⟨A, c, rfl, hlc, hm, h⟩ := h
  have ep : psol k p cs = (((pall k p cs).length : Int) == 1) := by unfold psol; rw [Bool.eq_iff_iff]; simp; omega
  have EP := Lib.hid ep
  clear h ep hg ha
  go_enter Try.func81, Try.ntmps81
  go_wp2_with (first | (go_at_call 72; refine (PA.out _ (by repeat (first | exact Gr.refl _ | refine Gr.alloc ?_ _ | refine Gr.trans ?_ (by assumption) | refine Gr.drew ?_ | refine Gr.drewN ?_ _ | refine Gr.grow ?_ _ | refine Gr.setCell ?_ (by (try simp); (try omega)) _))).mono ?_; rintro e w2 ⟨v2, rfl, ho, hbl⟩; obtain ⟨A2, c2, rfl, ho⟩ := OwnI.eta ho; have HB := Lib.hid hbl; clear ho hbl))
  go_ret
  exact ⟨by rw [EP.out]; rfl, (Gr.alloc (Gr.refl w) _).below.trans (HB.out.mono (by simp))⟩
theorem solN_psol {k p : Int} {cs : List Clu} (h : pgood k p cs = true) : (solN k p cs == 1) = psol k p cs := by
  unfold solN psol
  rw [solL_yes h, Bool.eq_iff_iff]
  simp
  omega
set_option maxRecDepth 100000 in
set_option maxHeartbeats 800000 in
theorem Try.sIsSolved (w : World) (k p : Int) (v : Value) (cs : List Clu) (b : Bool) (hb : pgood k p cs = b) (h : CluRow w v cs) :
    Calls Try.prog 41 #[pzV k p v] w fun e w' => e = .returned (.tuple #[.bool (solN k p cs == 1), .bool b]) ∧ Below w.heap.size w w' := by
  have PG := Lib.hid (fun (W : World) (g : Gr w W) => Try.pzGood W k p v cs _ hb (h.gr g))
  have PA := Lib.hid (fun (W : World) (g : Gr w W) a b => Try.pzSolved W k p v cs a b (h.gr g))
  obtain ⟨A, c, rfl, hlc, hm, h⟩ := h
  unfold maxLen at hm
  cases b
  · have E := Lib.hid (show (solN k p cs == 1) = false by simp [solN, solL_no hb])
    clear hb h
    go_enter Try.func41, Try.ntmps41
    go_wp2_with (first | (go_at_call 63; refine (PG.out _ (by repeat (first | exact Gr.refl _ | refine Gr.alloc ?_ _ | refine Gr.trans ?_ (by assumption) | refine Gr.drew ?_ | refine Gr.drewN ?_ _ | refine Gr.grow ?_ _ | refine Gr.setCell ?_ (by (try simp); (try omega)) _))).mono ?_; rintro e w1 ⟨rfl, hbW⟩; have hcW := (bcell hbW.below).1; have hfW := (bcell hbW.below).2; (try have hzW : w.heap.size < w1.heap.size := by have hq := hbW.below.size; (try simp at hq); omega); (try have hyW : w.heap.size + 1 < w1.heap.size := by have hq := hbW.below.size; (try simp at hq); omega); (try have hxW : w.heap.size + 2 < w1.heap.size := by have hq := hbW.below.size; (try simp at hq); omega)))
    go_ret2
    exact ⟨by rw [E.out]; rfl, Gr.below (by repeat (first | exact Gr.refl _ | refine Gr.alloc ?_ _ | refine Gr.trans ?_ (by assumption) | refine Gr.drew ?_ | refine Gr.drewN ?_ _ | refine Gr.grow ?_ _ | refine Gr.setCell ?_ (by (try simp); (try omega)) _))⟩
  · have E := Lib.hid (solN_psol hb)
    obtain ⟨q1, q2, q3⟩ := pgood_lt hb
    have Q := Lib.hid (And.intro q1 q3)
    clear hb h q1 q2 q3
    go_enter Try.func41, Try.ntmps41
    go_wp2_with (first | (go_at_call 63; refine (PG.out _ (by repeat (first | exact Gr.refl _ | refine Gr.alloc ?_ _ | refine Gr.trans ?_ (by assumption) | refine Gr.drew ?_ | refine Gr.drewN ?_ _ | refine Gr.grow ?_ _ | refine Gr.setCell ?_ (by (try simp); (try omega)) _))).mono ?_; rintro e w1 ⟨rfl, hbW⟩; have hcW := (bcell hbW.below).1; have hfW := (bcell hbW.below).2; (try have hzW : w.heap.size < w1.heap.size := by have hq := hbW.below.size; (try simp at hq); omega); (try have hyW : w.heap.size + 1 < w1.heap.size := by have hq := hbW.below.size; (try simp at hq); omega); (try have hxW : w.heap.size + 2 < w1.heap.size := by have hq := hbW.below.size; (try simp at hq); omega)) | (go_at_call 74; refine (PA.out _ (by repeat (first | exact Gr.refl _ | refine Gr.alloc ?_ _ | refine Gr.trans ?_ (by assumption) | refine Gr.drew ?_ | refine Gr.drewN ?_ _ | refine Gr.grow ?_ _ | refine Gr.setCell ?_ (by (try simp); (try omega)) _)) Q.out.1 Q.out.2).mono ?_; rintro e w2 ⟨rfl, hbl⟩; have GG := Lib.hid (show Gr w w1 from (by repeat (first | exact Gr.refl _ | refine Gr.alloc ?_ _ | refine Gr.trans ?_ (by assumption) | refine Gr.drew ?_ | refine Gr.drewN ?_ _ | refine Gr.grow ?_ _ | refine Gr.setCell ?_ (by (try simp); (try omega)) _))); have HB := Lib.hid hbl; clear hbl))
    go_ret2
    exact ⟨by rw [E.out]; rfl, GG.out.below.trans (HB.out.mono GG.out.below.size)⟩
end Go.Proofs
