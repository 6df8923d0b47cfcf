/-
  Chapter 9: the first and the last solution, whether a house fits, both sides (FirstSolution, RangeOfSolutions, DoesFit).
-/
import Derived.Test.YtbnabjnpdkmbhaaPzJ
namespace Go.Proofs
open Go.RowKit
set_option linter.unusedVariables false
set_option linter.unusedSimpArgs false
def rgA (k p : Int) (cs : List Clu) : Int := (solL k p cs).getD 0 0
def rgZ (k p : Int) (cs : List Clu) : Int := (solL k p cs).getD ((solL k p cs).length - 1) 0
def rgB (k p : Int) (cs : List Clu) : Bool := decide (solL k p cs ≠ [])
theorem rg_nil {k p : Int} {cs : List Clu} (h : solL k p cs = []) : rgA k p cs = 0 ∧ rgZ k p cs = 0 ∧ rgB k p cs = false := by simp [rgA, rgZ, rgB, h]
theorem rg_cons {k p : Int} {cs : List Clu} (h : 0 < (solL k p cs).length) : rgB k p cs = true := by
  unfold rgB
  exact decide_eq_true (fun e => by rw [e] at h; simp at h)
/-- a list's first and last int, where it lies -/
theorem OwnI.ends {w : World} {B : Nat} {v : Value} {xs : List Int} (h : OwnI w B v xs) (h0 : 0 < xs.length) : ∃ g c, v = .slice (some ⟨g, 0, none⟩) xs.length c ∧ g < w.heap.size ∧ w.cell? ⟨g, 0, none⟩ = some (.int .i64 (xs.getD 0 0)) ∧ w.cell? ⟨g, xs.length - 1, none⟩ = some (.int .i64 (xs.getD (xs.length - 1) 0)) := by
  rcases h.view with ⟨hx, _⟩ | ⟨_, g, c, rfl, _, g2, _, hc, _⟩
  · rw [hx] at h0; simp at h0
  · exact ⟨g, c, rfl, g2, hc 0 h0, hc (xs.length - 1) (by omega)⟩
set_option maxRecDepth 100000 in
set_option maxHeartbeats 1600000 in
theorem Try.iRangeOfSolutions (w : World) (k p : Int) (v : Value) (cs : List Clu) (h : CluRow w v cs) :
    Calls Try.prog 40 #[pzV k p v] w fun e w' => e = .returned (.tuple #[.int .i64 (rgA k p cs), .int .i64 (rgZ k p cs), .bool (rgB k p cs)]) ∧ Below w.heap.size w w' := by
  have PG := Lib.hid (fun (W : World) (g : Gr w W) => Try.iSolutions W k p v cs _ rfl (h.gr g))
  have hl := solL_len k p cs
  obtain ⟨A, c, rfl, hlc, hm, h⟩ := h
  clear h
  rcases Nat.eq_zero_or_pos (solL k p cs).length with h0 | h0
  · obtain ⟨r1, r2, r3⟩ := rg_nil (List.length_eq_zero_iff.1 h0)
    rw [r1, r2, r3]
    have hz : ((solL k p cs).length : Int) = 0 := by omega
    clear r1 r2 r3 h0
    go_enter Try.func40, Try.ntmps40
    go_wp2_with (first | (go_at_call 30; refine (PG.out _ (by repeat (first | exact Gr.refl _ | refine Gr.alloc ?_ _ | refine Gr.trans ?_ (by assumption) | refine Gr.drew ?_ | refine Gr.drewN ?_ _ | refine Gr.grow ?_ _ | refine Gr.setCell ?_ (by (try simp); (try omega)) _))).mono ?_; rintro e w2 ⟨v2, rfl, ho, hbl⟩; obtain ⟨A2, c2, rfl, ho⟩ := OwnI.eta ho; have HB := Lib.hid hbl; clear ho hbl))
    go_ret3
    exact ⟨rfl, (Gr.alloc (Gr.refl w) _).below.trans (HB.out.mono (by simp))⟩
  · rw [rg_cons h0]
    have E1 := Lib.hid (show (solL k p cs).getD 0 0 = rgA k p cs from rfl)
    have E2 := Lib.hid (show (solL k p cs).getD ((solL k p cs).length - 1) 0 = rgZ k p cs from rfl)
    generalize rgA k p cs = ra at *
    generalize rgZ k p cs = rz at *
    generalize solL k p cs = xs at *
    obtain ⟨n, hn⟩ : ∃ n, xs.length = n + 1 := ⟨xs.length - 1, by omega⟩
    have HN := Lib.hid hn
    have hz : (((n + 1 : Nat) : Int) == 0) = false := by simp; omega
    have hsub : IntKind.i64.wrap (((n + 1 : Nat) : Int) - 1) = (n : Int) := by rw [wr64 _ (by omega) (by omega)]; omega
    have z0 : (0 : Int) ≤ (n : Int) := by omega
    have z1 : (n : Int) < ((n + 1 : Nat) : Int) := by omega
    have z2 : (0 : Int) < ((n + 1 : Nat) : Int) := by omega
    go_enter Try.func40, Try.ntmps40
    go_wp2_with (first | (go_at_call 30; refine (PG.out _ (by repeat (first | exact Gr.refl _ | refine Gr.alloc ?_ _ | refine Gr.trans ?_ (by assumption) | refine Gr.drew ?_ | refine Gr.drewN ?_ _ | refine Gr.grow ?_ _ | refine Gr.setCell ?_ (by (try simp); (try omega)) _))).mono ?_; rintro e w2 ⟨v2, rfl, ho, hbl⟩; obtain ⟨g, c2, rfl, hgs, q0, q1⟩ := OwnI.ends ho h0; have HB := Lib.hid hbl; rw [E1.out] at q0; rw [E2.out] at q1; rw [hn]; rw [hn, Nat.add_sub_cancel] at q1; clear ho hbl))
    go_quiet (fail)
    go_wp2
    go_ret3
    exact ⟨rfl, (Gr.alloc (Gr.refl w) _).below.trans ((HB.out.trans ((Gr.drewN (Gr.refl w2) _).below.mono HB.out.size)).mono (by simp))⟩
set_option maxRecDepth 100000 in
set_option maxHeartbeats 1600000 in
theorem Try.iFirstSolution (w : World) (k p : Int) (v : Value) (cs : List Clu) (h : CluRow w v cs) :
    Calls Try.prog 38 #[pzV k p v] w fun e w' => e = .returned (.tuple #[.int .i64 (rgA k p cs), .bool (rgB k p cs)]) ∧ Below w.heap.size w w' := by
  have PG := Lib.hid (fun (W : World) (g : Gr w W) => Try.iRangeOfSolutions W k p v cs (h.gr g))
  obtain ⟨A, c, rfl, hlc, hm, h⟩ := h
  clear h
  go_enter Try.func38, Try.ntmps38
  go_wp2_with (first | (go_at_call 40; refine (PG.out _ (by repeat (first | exact Gr.refl _ | refine Gr.alloc ?_ _ | refine Gr.trans ?_ (by assumption) | refine Gr.drew ?_ | refine Gr.drewN ?_ _ | refine Gr.grow ?_ _ | refine Gr.setCell ?_ (by (try simp); (try omega)) _))).mono ?_; rintro e w2 ⟨rfl, hbl⟩; have HB := Lib.hid hbl; clear hbl))
  go_ret2
  exact ⟨rfl, (Gr.alloc (Gr.refl w) _).below.trans (HB.out.mono (by simp))⟩
set_option maxRecDepth 100000 in
set_option maxHeartbeats 1600000 in
theorem Try.sRangeOfSolutions (w : World) (k p : Int) (v : Value) (cs : List Clu) (h : CluRow w v cs) :
    Calls Try.prog 39 #[pzV k p v] w fun e w' => e = .returned (.tuple #[.int .i64 (rgA k p cs), .int .i64 (rgZ k p cs), .bool (rgB k p cs)]) ∧ Below w.heap.size w w' := by
  have PG := Lib.hid (fun (W : World) (g : Gr w W) b hb => Try.pzGood W k p v cs b hb (h.gr g))
  have PA := Lib.hid (fun (W : World) (g : Gr w W) a b => Try.pzAll W k p v cs a b (h.gr g))
  have hl := solL_len k p cs
  obtain ⟨A, c, rfl, hlc, hm, h⟩ := h
  clear h
  unfold maxLen at hm
  cases hb : pgood k p cs
  · obtain ⟨r1, r2, r3⟩ := rg_nil (solL_no hb)
    rw [r1, r2, r3]
    have HB := Lib.hid hb
    clear r1 r2 r3 hb
    go_enter Try.func39, Try.ntmps39
    go_wp2_with (first | (go_at_call 63; refine (PG.out _ (by repeat (first | exact Gr.refl _ | refine Gr.alloc ?_ _ | refine Gr.trans ?_ (by assumption) | refine Gr.drew ?_ | refine Gr.drewN ?_ _ | refine Gr.grow ?_ _ | refine Gr.setCell ?_ (by (try simp); (try omega)) _)) _ HB.out).mono ?_; rintro e w1 ⟨rfl, hbW⟩; have hcW := (bcell hbW.below).1; have hfW := (bcell hbW.below).2; (try have hzW : w.heap.size < w1.heap.size := by have hq := hbW.below.size; (try simp at hq); omega); (try have hyW : w.heap.size + 1 < w1.heap.size := by have hq := hbW.below.size; (try simp at hq); omega); (try have hxW : w.heap.size + 2 < w1.heap.size := by have hq := hbW.below.size; (try simp at hq); omega)))
    go_ret3
    exact ⟨rfl, Gr.below (by repeat (first | exact Gr.refl _ | refine Gr.alloc ?_ _ | refine Gr.trans ?_ (by assumption) | refine Gr.drew ?_ | refine Gr.drewN ?_ _ | refine Gr.grow ?_ _ | refine Gr.setCell ?_ (by (try simp); (try omega)) _))⟩
  · obtain ⟨q1, q2, q3⟩ := pgood_lt hb
    have Q := Lib.hid (And.intro q1 q3)
    have HB := Lib.hid hb
    rw [← solL_yes hb] at PA
    clear hb q1 q2 q3
    rcases Nat.eq_zero_or_pos (solL k p cs).length with h0 | h0
    · obtain ⟨r1, r2, r3⟩ := rg_nil (List.length_eq_zero_iff.1 h0)
      rw [r1, r2, r3]
      have hz : ((solL k p cs).length : Int) = 0 := by omega
      clear r1 r2 r3 h0
      go_enter Try.func39, Try.ntmps39
      go_wp2_with (first | (go_at_call 63; refine (PG.out _ (by repeat (first | exact Gr.refl _ | refine Gr.alloc ?_ _ | refine Gr.trans ?_ (by assumption) | refine Gr.drew ?_ | refine Gr.drewN ?_ _ | refine Gr.grow ?_ _ | refine Gr.setCell ?_ (by (try simp); (try omega)) _)) _ HB.out).mono ?_; rintro e w1 ⟨rfl, hbW⟩; have hcW := (bcell hbW.below).1; have hfW := (bcell hbW.below).2; (try have hzW : w.heap.size < w1.heap.size := by have hq := hbW.below.size; (try simp at hq); omega); (try have hyW : w.heap.size + 1 < w1.heap.size := by have hq := hbW.below.size; (try simp at hq); omega); (try have hxW : w.heap.size + 2 < w1.heap.size := by have hq := hbW.below.size; (try simp at hq); omega)) | (go_at_call 71; refine (PA.out _ (by repeat (first | exact Gr.refl _ | refine Gr.alloc ?_ _ | refine Gr.trans ?_ (by assumption) | refine Gr.drew ?_ | refine Gr.drewN ?_ _ | refine Gr.grow ?_ _ | refine Gr.setCell ?_ (by (try simp); (try omega)) _)) Q.out.1 Q.out.2).mono ?_; rintro e w2 ⟨v2, rfl, ho, hbl⟩; obtain ⟨A2, c2, rfl, ho⟩ := OwnI.eta ho; have GG := Lib.hid (show Gr w w1 from (by repeat (first | exact Gr.refl _ | refine Gr.alloc ?_ _ | refine Gr.trans ?_ (by assumption) | refine Gr.drew ?_ | refine Gr.drewN ?_ _ | refine Gr.grow ?_ _ | refine Gr.setCell ?_ (by (try simp); (try omega)) _))); have HL := Lib.hid hbl; clear ho hbl))
      go_ret3
      exact ⟨rfl, GG.out.below.trans (HL.out.mono GG.out.below.size)⟩
    · rw [rg_cons h0]
      have E1 := Lib.hid (show (solL k p cs).getD 0 0 = rgA k p cs from rfl)
      have E2 := Lib.hid (show (solL k p cs).getD ((solL k p cs).length - 1) 0 = rgZ k p cs from rfl)
      generalize rgA k p cs = ra at *
      generalize rgZ k p cs = rz at *
      generalize solL k p cs = xs at *
      obtain ⟨n, hn⟩ : ∃ n, xs.length = n + 1 := ⟨xs.length - 1, by omega⟩
      have HN := Lib.hid hn
      have hz : (((n + 1 : Nat) : Int) == 0) = false := by simp; omega
      have hsub : IntKind.i64.wrap (((n + 1 : Nat) : Int) - 1) = (n : Int) := by rw [wr64 _ (by omega) (by omega)]; omega
      have z0 : (0 : Int) ≤ (n : Int) := by omega
      have z1 : (n : Int) < ((n + 1 : Nat) : Int) := by omega
      have z2 : (0 : Int) < ((n + 1 : Nat) : Int) := by omega
      go_enter Try.func39, Try.ntmps39
      go_wp2_with (first | (go_at_call 63; refine (PG.out _ (by repeat (first | exact Gr.refl _ | refine Gr.alloc ?_ _ | refine Gr.trans ?_ (by assumption) | refine Gr.drew ?_ | refine Gr.drewN ?_ _ | refine Gr.grow ?_ _ | refine Gr.setCell ?_ (by (try simp); (try omega)) _)) _ HB.out).mono ?_; rintro e w1 ⟨rfl, hbW⟩; have hcW := (bcell hbW.below).1; have hfW := (bcell hbW.below).2; (try have hzW : w.heap.size < w1.heap.size := by have hq := hbW.below.size; (try simp at hq); omega); (try have hyW : w.heap.size + 1 < w1.heap.size := by have hq := hbW.below.size; (try simp at hq); omega); (try have hxW : w.heap.size + 2 < w1.heap.size := by have hq := hbW.below.size; (try simp at hq); omega)) | (go_at_call 71; refine (PA.out _ (by repeat (first | exact Gr.refl _ | refine Gr.alloc ?_ _ | refine Gr.trans ?_ (by assumption) | refine Gr.drew ?_ | refine Gr.drewN ?_ _ | refine Gr.grow ?_ _ | refine Gr.setCell ?_ (by (try simp); (try omega)) _)) Q.out.1 Q.out.2).mono ?_; rintro e w2 ⟨v2, rfl, ho, hbl⟩; obtain ⟨g, c2, rfl, hgs, q0, q1⟩ := OwnI.ends ho h0; have GG := Lib.hid (show Gr w w1 from (by repeat (first | exact Gr.refl _ | refine Gr.alloc ?_ _ | refine Gr.trans ?_ (by assumption) | refine Gr.drew ?_ | refine Gr.drewN ?_ _ | refine Gr.grow ?_ _ | refine Gr.setCell ?_ (by (try simp); (try omega)) _))); have HL := Lib.hid hbl; rw [E1.out] at q0; rw [E2.out] at q1; rw [hn]; rw [hn, Nat.add_sub_cancel] at q1; clear ho hbl))
      go_quiet (fail)
      go_wp2
      go_ret3
      exact ⟨rfl, (GG.out.below.trans (HL.out.mono GG.out.below.size)).trans ((Gr.drewN (Gr.refl w2) _).below.mono (by have := GG.out.below.size; have := HL.out.size; omega))⟩
set_option maxRecDepth 100000 in
set_option maxHeartbeats 1600000 in
theorem Try.sFirstSolution (w : World) (k p : Int) (v : Value) (cs : List Clu) (h : CluRow w v cs) :
    Calls Try.prog 37 #[pzV k p v] w fun e w' => e = .returned (.tuple #[.int .i64 (rgA k p cs), .bool (rgB k p cs)]) ∧ Below w.heap.size w w' := by
  have PG := Lib.hid (fun (W : World) (g : Gr w W) b hb => Try.pzGood W k p v cs b hb (h.gr g))
  have PA := Lib.hid (fun (W : World) (g : Gr w W) a b => Try.pzAll W k p v cs a b (h.gr g))
  have hl := solL_len k p cs
  obtain ⟨A, c, rfl, hlc, hm, h⟩ := h
  clear h
  unfold maxLen at hm
  cases hb : pgood k p cs
  · obtain ⟨r1, r2, r3⟩ := rg_nil (solL_no hb)
    rw [r1, r3]
    have HB := Lib.hid hb
    clear r1 r2 r3 hb
    go_enter Try.func37, Try.ntmps37
    go_wp2_with (first | (go_at_call 63; refine (PG.out _ (by repeat (first | exact Gr.refl _ | refine Gr.alloc ?_ _ | refine Gr.trans ?_ (by assumption) | refine Gr.drew ?_ | refine Gr.drewN ?_ _ | refine Gr.grow ?_ _ | refine Gr.setCell ?_ (by (try simp); (try omega)) _)) _ HB.out).mono ?_; rintro e w1 ⟨rfl, hbW⟩; have hcW := (bcell hbW.below).1; have hfW := (bcell hbW.below).2; (try have hzW : w.heap.size < w1.heap.size := by have hq := hbW.below.size; (try simp at hq); omega); (try have hyW : w.heap.size + 1 < w1.heap.size := by have hq := hbW.below.size; (try simp at hq); omega); (try have hxW : w.heap.size + 2 < w1.heap.size := by have hq := hbW.below.size; (try simp at hq); omega)))
    go_ret2
    exact ⟨rfl, Gr.below (by repeat (first | exact Gr.refl _ | refine Gr.alloc ?_ _ | refine Gr.trans ?_ (by assumption) | refine Gr.drew ?_ | refine Gr.drewN ?_ _ | refine Gr.grow ?_ _ | refine Gr.setCell ?_ (by (try simp); (try omega)) _))⟩
  · obtain ⟨q1, q2, q3⟩ := pgood_lt hb
    have Q := Lib.hid (And.intro q1 q3)
    have HB := Lib.hid hb
    rw [← solL_yes hb] at PA
    clear hb q1 q2 q3
    rcases Nat.eq_zero_or_pos (solL k p cs).length with h0 | h0
    · obtain ⟨r1, r2, r3⟩ := rg_nil (List.length_eq_zero_iff.1 h0)
      rw [r1, r3]
      have hz : ((solL k p cs).length : Int) = 0 := by omega
      clear r1 r2 r3 h0
      go_enter Try.func37, Try.ntmps37
      go_wp2_with (first | (go_at_call 63; refine (PG.out _ (by repeat (first | exact Gr.refl _ | refine Gr.alloc ?_ _ | refine Gr.trans ?_ (by assumption) | refine Gr.drew ?_ | refine Gr.drewN ?_ _ | refine Gr.grow ?_ _ | refine Gr.setCell ?_ (by (try simp); (try omega)) _)) _ HB.out).mono ?_; rintro e w1 ⟨rfl, hbW⟩; have hcW := (bcell hbW.below).1; have hfW := (bcell hbW.below).2; (try have hzW : w.heap.size < w1.heap.size := by have hq := hbW.below.size; (try simp at hq); omega); (try have hyW : w.heap.size + 1 < w1.heap.size := by have hq := hbW.below.size; (try simp at hq); omega); (try have hxW : w.heap.size + 2 < w1.heap.size := by have hq := hbW.below.size; (try simp at hq); omega)) | (go_at_call 71; refine (PA.out _ (by repeat (first | exact Gr.refl _ | refine Gr.alloc ?_ _ | refine Gr.trans ?_ (by assumption) | refine Gr.drew ?_ | refine Gr.drewN ?_ _ | refine Gr.grow ?_ _ | refine Gr.setCell ?_ (by (try simp); (try omega)) _)) Q.out.1 Q.out.2).mono ?_; rintro e w2 ⟨v2, rfl, ho, hbl⟩; obtain ⟨A2, c2, rfl, ho⟩ := OwnI.eta ho; have GG := Lib.hid (show Gr w w1 from (by repeat (first | exact Gr.refl _ | refine Gr.alloc ?_ _ | refine Gr.trans ?_ (by assumption) | refine Gr.drew ?_ | refine Gr.drewN ?_ _ | refine Gr.grow ?_ _ | refine Gr.setCell ?_ (by (try simp); (try omega)) _))); have HL := Lib.hid hbl; clear ho hbl))
      go_ret2
      exact ⟨rfl, GG.out.below.trans (HL.out.mono GG.out.below.size)⟩
    · rw [rg_cons h0]
      have E1 := Lib.hid (show (solL k p cs).getD 0 0 = rgA k p cs from rfl)
      generalize rgA k p cs = ra at *
      generalize solL k p cs = xs at *
      obtain ⟨n, hn⟩ : ∃ n, xs.length = n + 1 := ⟨xs.length - 1, by omega⟩
      have HN := Lib.hid hn
      have hz : (((n + 1 : Nat) : Int) == 0) = false := by simp; omega
      have z2 : (0 : Int) < ((n + 1 : Nat) : Int) := by omega
      go_enter Try.func37, Try.ntmps37
      go_wp2_with (first | (go_at_call 63; refine (PG.out _ (by repeat (first | exact Gr.refl _ | refine Gr.alloc ?_ _ | refine Gr.trans ?_ (by assumption) | refine Gr.drew ?_ | refine Gr.drewN ?_ _ | refine Gr.grow ?_ _ | refine Gr.setCell ?_ (by (try simp); (try omega)) _)) _ HB.out).mono ?_; rintro e w1 ⟨rfl, hbW⟩; have hcW := (bcell hbW.below).1; have hfW := (bcell hbW.below).2; (try have hzW : w.heap.size < w1.heap.size := by have hq := hbW.below.size; (try simp at hq); omega); (try have hyW : w.heap.size + 1 < w1.heap.size := by have hq := hbW.below.size; (try simp at hq); omega); (try have hxW : w.heap.size + 2 < w1.heap.size := by have hq := hbW.below.size; (try simp at hq); omega)) | (go_at_call 71; refine (PA.out _ (by repeat (first | exact Gr.refl _ | refine Gr.alloc ?_ _ | refine Gr.trans ?_ (by assumption) | refine Gr.drew ?_ | refine Gr.drewN ?_ _ | refine Gr.grow ?_ _ | refine Gr.setCell ?_ (by (try simp); (try omega)) _)) Q.out.1 Q.out.2).mono ?_; rintro e w2 ⟨v2, rfl, ho, hbl⟩; obtain ⟨g, c2, rfl, hgs, q0, q1⟩ := OwnI.ends ho h0; have GG := Lib.hid (show Gr w w1 from (by repeat (first | exact Gr.refl _ | refine Gr.alloc ?_ _ | refine Gr.trans ?_ (by assumption) | refine Gr.drew ?_ | refine Gr.drewN ?_ _ | refine Gr.grow ?_ _ | refine Gr.setCell ?_ (by (try simp); (try omega)) _))); have HL := Lib.hid hbl; rw [E1.out] at q0; rw [hn]; clear ho hbl q1))
      go_ret2
      exact ⟨rfl, GG.out.below.trans (HL.out.mono GG.out.below.size)⟩
def dfB (k p x y z n : Int) : Bool := (pst k p && inn n 1 (hs k p)) && cok (x, y, z)
def dfV (k p x y z n : Int) : Bool := dfB k p x y z n && pfit k p (x, y, z) n
set_option maxHeartbeats 400000 in
theorem Try.pzHidden (k p n : Int) (v : Bool) (h : (pst k p && inn n 1 (hs k p)) = v) (w : World) :
    Calls Try.prog 67 #[.agg #[.int .i64 k, .int .i64 p], .int .i64 n] w fun e w' => e = .returned (.bool v) ∧ Gr w w' := by
  subst h
  cases hg : pst k p
  · have H := Lib.hid hg
    clear hg
    go_enter Try.func67, Try.ntmps67
    go_wp2_with (first | (go_at_call 58; refine (Try.pzStreet _ _ _ H.out _).mono ?_; rintro e w1 ⟨rfl, hbW⟩; have hcW := (bcell hbW.below).1; have hfW := (bcell hbW.below).2; (try have hzW : w.heap.size < w1.heap.size := by have hq := hbW.below.size; (try simp at hq); omega); (try have hyW : w.heap.size + 1 < w1.heap.size := by have hq := hbW.below.size; (try simp at hq); omega); (try have hxW : w.heap.size + 2 < w1.heap.size := by have hq := hbW.below.size; (try simp at hq); omega)))
    go_ret
    exact ⟨rfl, by repeat (first | exact Gr.refl _ | refine Gr.alloc ?_ _ | refine Gr.trans ?_ (by assumption) | refine Gr.drew ?_ | refine Gr.drewN ?_ _ | refine Gr.grow ?_ _ | refine Gr.setCell ?_ (by (try simp); (try omega)) _)⟩
  · obtain ⟨h0, h1, h2, h3⟩ := pst_t hg
    have h3' : p ≤ 1000 := by omega
    have H := Lib.hid hg
    clear hg
    go_enter Try.func67, Try.ntmps67
    go_wp2_with (first | (go_at_call 58; refine (Try.pzStreet _ _ _ H.out _).mono ?_; rintro e w1 ⟨rfl, hbW⟩; have hcW := (bcell hbW.below).1; have hfW := (bcell hbW.below).2; (try have hzW : w.heap.size < w1.heap.size := by have hq := hbW.below.size; (try simp at hq); omega); (try have hyW : w.heap.size + 1 < w1.heap.size := by have hq := hbW.below.size; (try simp at hq); omega); (try have hxW : w.heap.size + 2 < w1.heap.size := by have hq := hbW.below.size; (try simp at hq); omega)) | (go_at_call 94; refine (Try.nuHouses _ _ _ h0 h1 h2 h3').mono ?_; rintro e w1 ⟨rfl, hbW⟩; have hcW := (bcell hbW.below).1; have hfW := (bcell hbW.below).2; (try have hzW : w.heap.size < w1.heap.size := by have hq := hbW.below.size; (try simp at hq); omega); (try have hyW : w.heap.size + 1 < w1.heap.size := by have hq := hbW.below.size; (try simp at hq); omega); (try have hxW : w.heap.size + 2 < w1.heap.size := by have hq := hbW.below.size; (try simp at hq); omega)) | (go_at_call 77; refine (Try.l1In _ _ _ _).mono ?_; rintro e w1 ⟨rfl, rfl⟩))
    go_ret
    exact ⟨by simp, by repeat (first | exact Gr.refl _ | refine Gr.alloc ?_ _ | refine Gr.trans ?_ (by assumption) | refine Gr.drew ?_ | refine Gr.drewN ?_ _ | refine Gr.grow ?_ _ | refine Gr.setCell ?_ (by (try simp); (try omega)) _)⟩
theorem asked_pst {k p n : Int} (h : pst k p = true) : decide (Asked k p n) = inn n 1 (hs k p) := by
  obtain ⟨h0, h1, h2, h3⟩ := pst_t h
  unfold inn
  refine decide_eq_decide.2 ?_
  unfold Asked Gd
  constructor
  · exact fun q => q.2
  · exact fun q => ⟨⟨h0, h1, h2, by omega⟩, q⟩
set_option maxRecDepth 100000 in
set_option maxHeartbeats 800000 in
theorem Try.sDoesFit (k p x y z n : Int) (w : World) :
    Calls Try.prog 27 #[.agg #[.int .i64 k, .int .i64 p], .agg #[.int .i64 x, .int .i64 y, .int .i64 z], .int .i64 n] w fun e w' => e = .returned (.tuple #[.bool (dfV k p x y z n), .bool (dfB k p x y z n)]) ∧ Gr w w' := by
  cases hg : (pst k p && inn n 1 (hs k p))
  · have e : dfB k p x y z n = false := by unfold dfB; rw [hg]; rfl
    rw [show dfV k p x y z n = false by unfold dfV; rw [e]; rfl, e]
    have H := Lib.hid hg
    clear hg e
    go_enter Try.func27, Try.ntmps27
    go_wp2_with (first | (go_at_call 67; refine (Try.pzHidden _ _ _ _ H.out _).mono ?_; rintro e w1 ⟨rfl, hbW⟩; have hcW := (bcell hbW.below).1; have hfW := (bcell hbW.below).2; (try have hzW : w.heap.size < w1.heap.size := by have hq := hbW.below.size; (try simp at hq); omega); (try have hyW : w.heap.size + 1 < w1.heap.size := by have hq := hbW.below.size; (try simp at hq); omega); (try have hxW : w.heap.size + 2 < w1.heap.size := by have hq := hbW.below.size; (try simp at hq); omega)))
    go_ret2
    exact ⟨rfl, by repeat (first | exact Gr.refl _ | refine Gr.alloc ?_ _ | refine Gr.trans ?_ (by assumption) | refine Gr.drew ?_ | refine Gr.drewN ?_ _ | refine Gr.grow ?_ _ | refine Gr.setCell ?_ (by (try simp); (try omega)) _)⟩
  · cases hc : cok (x, y, z)
    · have e : dfB k p x y z n = false := by unfold dfB; rw [hc]; simp
      rw [show dfV k p x y z n = false by unfold dfV; rw [e]; rfl, e]
      have H := Lib.hid hg
      have H2 := Lib.hid hc
      clear hg hc e
      go_enter Try.func27, Try.ntmps27
      go_wp2_with (first | (go_at_call 67; refine (Try.pzHidden _ _ _ _ H.out _).mono ?_; rintro e w1 ⟨rfl, hbW⟩; have hcW := (bcell hbW.below).1; have hfW := (bcell hbW.below).2; (try have hzW : w.heap.size < w1.heap.size := by have hq := hbW.below.size; (try simp at hq); omega); (try have hyW : w.heap.size + 1 < w1.heap.size := by have hq := hbW.below.size; (try simp at hq); omega); (try have hxW : w.heap.size + 2 < w1.heap.size := by have hq := hbW.below.size; (try simp at hq); omega)) | (go_at_call 59; refine (Try.pzClue _ _ _ _ H2.out _).mono ?_; rintro e w1 ⟨rfl, hbW⟩; have hcW := (bcell hbW.below).1; have hfW := (bcell hbW.below).2; (try have hzW : w.heap.size < w1.heap.size := by have hq := hbW.below.size; (try simp at hq); omega); (try have hyW : w.heap.size + 1 < w1.heap.size := by have hq := hbW.below.size; (try simp at hq); omega); (try have hxW : w.heap.size + 2 < w1.heap.size := by have hq := hbW.below.size; (try simp at hq); omega)))
      go_ret2
      exact ⟨rfl, by repeat (first | exact Gr.refl _ | refine Gr.alloc ?_ _ | refine Gr.trans ?_ (by assumption) | refine Gr.drew ?_ | refine Gr.drewN ?_ _ | refine Gr.grow ?_ _ | refine Gr.setCell ?_ (by (try simp); (try omega)) _)⟩
    · have e : dfB k p x y z n = true := by unfold dfB; rw [hg, hc]; rfl
      rw [show dfV k p x y z n = pfit k p (x, y, z) n by unfold dfV; rw [e]; rfl, e]
      obtain ⟨hp, hi⟩ := Bool.and_eq_true_iff.1 hg
      obtain ⟨h0, h1, h2, h3⟩ := pst_t hp
      obtain ⟨h4, h5⟩ := inn_e hi
      have F := Lib.hid (fun (w : World) => Try.pzFits k p x y z n w h0 h1 h2 (by omega) h4 h5 (cok_KindOk hc))
      have H := Lib.hid hg
      have H2 := Lib.hid hc
      clear hg hc e hp hi h5
      go_enter Try.func27, Try.ntmps27
      go_wp2_with (first | (go_at_call 67; refine (Try.pzHidden _ _ _ _ H.out _).mono ?_; rintro e w1 ⟨rfl, hbW⟩; have hcW := (bcell hbW.below).1; have hfW := (bcell hbW.below).2; (try have hzW : w.heap.size < w1.heap.size := by have hq := hbW.below.size; (try simp at hq); omega); (try have hyW : w.heap.size + 1 < w1.heap.size := by have hq := hbW.below.size; (try simp at hq); omega); (try have hxW : w.heap.size + 2 < w1.heap.size := by have hq := hbW.below.size; (try simp at hq); omega)) | (go_at_call 59; refine (Try.pzClue _ _ _ _ H2.out _).mono ?_; rintro e w1 ⟨rfl, hbW⟩; have hcW := (bcell hbW.below).1; have hfW := (bcell hbW.below).2; (try have hzW : w.heap.size < w1.heap.size := by have hq := hbW.below.size; (try simp at hq); omega); (try have hyW : w.heap.size + 1 < w1.heap.size := by have hq := hbW.below.size; (try simp at hq); omega); (try have hxW : w.heap.size + 2 < w1.heap.size := by have hq := hbW.below.size; (try simp at hq); omega)) | (go_at_call 68; refine (F.out _).mono ?_; rintro e w1 ⟨rfl, hbW⟩; have hcW := (bcell hbW.below).1; have hfW := (bcell hbW.below).2; (try have hzW : w.heap.size < w1.heap.size := by have hq := hbW.below.size; (try simp at hq); omega); (try have hyW : w.heap.size + 1 < w1.heap.size := by have hq := hbW.below.size; (try simp at hq); omega); (try have hxW : w.heap.size + 2 < w1.heap.size := by have hq := hbW.below.size; (try simp at hq); omega)))
      go_ret2
      exact ⟨rfl, by repeat (first | exact Gr.refl _ | refine Gr.alloc ?_ _ | refine Gr.trans ?_ (by assumption) | refine Gr.drew ?_ | refine Gr.drewN ?_ _ | refine Gr.grow ?_ _ | refine Gr.setCell ?_ (by (try simp); (try omega)) _)⟩
set_option maxRecDepth 100000 in
set_option maxHeartbeats 800000 in
theorem Try.iDoesFit (k p x y z n : Int) (w : World) :
    Calls Try.prog 28 #[.agg #[.int .i64 k, .int .i64 p], .agg #[.int .i64 x, .int .i64 y, .int .i64 z], .int .i64 n] w fun e w' => e = .returned (.tuple #[.bool (dfV k p x y z n), .bool (dfB k p x y z n)]) ∧ Gr w w' := by
  cases hg : (pst k p && cok (x, y, z))
  · have e : dfB k p x y z n = false := by
      unfold dfB
      rcases Bool.and_eq_false_iff.1 hg with q | q <;> rw [q] <;> simp
    rw [show dfV k p x y z n = false by unfold dfV; rw [e]; rfl, e]
    have H := Lib.hid hg
    clear hg e
    go_enter Try.func28, Try.ntmps28
    go_wp2_with (first | (go_at_call 21; refine (Try.iIsClue _ _ _ _ _ _ H.out _).mono ?_; rintro e w1 ⟨rfl, hbW⟩; have hcW := (bcell hbW.below).1; have hfW := (bcell hbW.below).2; (try have hzW : w.heap.size < w1.heap.size := by have hq := hbW.below.size; (try simp at hq); omega); (try have hyW : w.heap.size + 1 < w1.heap.size := by have hq := hbW.below.size; (try simp at hq); omega); (try have hxW : w.heap.size + 2 < w1.heap.size := by have hq := hbW.below.size; (try simp at hq); omega)))
    go_ret2
    exact ⟨rfl, by repeat (first | exact Gr.refl _ | refine Gr.alloc ?_ _ | refine Gr.trans ?_ (by assumption) | refine Gr.drew ?_ | refine Gr.drewN ?_ _ | refine Gr.grow ?_ _ | refine Gr.setCell ?_ (by (try simp); (try omega)) _)⟩
  · obtain ⟨hp, hc⟩ := Bool.and_eq_true_iff.1 hg
    obtain ⟨h0, h1, h2, h3⟩ := pst_t hp
    cases hi : inn n 1 (hs k p)
    · have e : dfB k p x y z n = false := by unfold dfB; rw [hi]; simp
      rw [show dfV k p x y z n = false by unfold dfV; rw [e]; rfl, e]
      have H := Lib.hid hg
      have H2 := Lib.hid ((asked_pst hp).trans hi)
      clear hg hc e hp hi
      go_enter Try.func28, Try.ntmps28
      go_wp2_with (first | (go_at_call 21; refine (Try.iIsClue _ _ _ _ _ _ H.out _).mono ?_; rintro e w1 ⟨rfl, hbW⟩; have hcW := (bcell hbW.below).1; have hfW := (bcell hbW.below).2; (try have hzW : w.heap.size < w1.heap.size := by have hq := hbW.below.size; (try simp at hq); omega); (try have hyW : w.heap.size + 1 < w1.heap.size := by have hq := hbW.below.size; (try simp at hq); omega); (try have hxW : w.heap.size + 2 < w1.heap.size := by have hq := hbW.below.size; (try simp at hq); omega)) | (go_at_call 69; refine (Try.hasHouse _ _ _ _ H2.out _).mono ?_; rintro e w1 ⟨rfl, hbW⟩; have hcW := (bcell hbW.below).1; have hfW := (bcell hbW.below).2; (try have hzW : w.heap.size < w1.heap.size := by have hq := hbW.below.size; (try simp at hq); omega); (try have hyW : w.heap.size + 1 < w1.heap.size := by have hq := hbW.below.size; (try simp at hq); omega); (try have hxW : w.heap.size + 2 < w1.heap.size := by have hq := hbW.below.size; (try simp at hq); omega)))
      go_ret2
      exact ⟨rfl, by repeat (first | exact Gr.refl _ | refine Gr.alloc ?_ _ | refine Gr.trans ?_ (by assumption) | refine Gr.drew ?_ | refine Gr.drewN ?_ _ | refine Gr.grow ?_ _ | refine Gr.setCell ?_ (by (try simp); (try omega)) _)⟩
    · have e : dfB k p x y z n = true := by unfold dfB; rw [hp, hi, hc]; rfl
      rw [show dfV k p x y z n = pfit k p (x, y, z) n by unfold dfV; rw [e]; rfl, e]
      obtain ⟨h4, h5⟩ := inn_e hi
      have F := Lib.hid (fun (w : World) => Try.doesFit k p x y z n w h0 h1 h2 (by omega) h4 h5 (cok_KindOk hc))
      have H := Lib.hid hg
      have H2 := Lib.hid ((asked_pst hp).trans hi)
      clear hg hc e hp hi h5
      go_enter Try.func28, Try.ntmps28
      go_wp2_with (first | (go_at_call 21; refine (Try.iIsClue _ _ _ _ _ _ H.out _).mono ?_; rintro e w1 ⟨rfl, hbW⟩; have hcW := (bcell hbW.below).1; have hfW := (bcell hbW.below).2; (try have hzW : w.heap.size < w1.heap.size := by have hq := hbW.below.size; (try simp at hq); omega); (try have hyW : w.heap.size + 1 < w1.heap.size := by have hq := hbW.below.size; (try simp at hq); omega); (try have hxW : w.heap.size + 2 < w1.heap.size := by have hq := hbW.below.size; (try simp at hq); omega)) | (go_at_call 69; refine (Try.hasHouse _ _ _ _ H2.out _).mono ?_; rintro e w1 ⟨rfl, hbW⟩; have hcW := (bcell hbW.below).1; have hfW := (bcell hbW.below).2; (try have hzW : w.heap.size < w1.heap.size := by have hq := hbW.below.size; (try simp at hq); omega); (try have hyW : w.heap.size + 1 < w1.heap.size := by have hq := hbW.below.size; (try simp at hq); omega); (try have hxW : w.heap.size + 2 < w1.heap.size := by have hq := hbW.below.size; (try simp at hq); omega)) | (go_at_call 70; refine (F.out _).mono ?_; rintro e w1 ⟨rfl, hbW⟩; have hcW := (bcell hbW.below).1; have hfW := (bcell hbW.below).2; (try have hzW : w.heap.size < w1.heap.size := by have hq := hbW.below.size; (try simp at hq); omega); (try have hyW : w.heap.size + 1 < w1.heap.size := by have hq := hbW.below.size; (try simp at hq); omega); (try have hxW : w.heap.size + 2 < w1.heap.size := by have hq := hbW.below.size; (try simp at hq); omega)))
      go_ret2
      exact ⟨rfl, by repeat (first | exact Gr.refl _ | refine Gr.alloc ?_ _ | refine Gr.trans ?_ (by assumption) | refine Gr.drew ?_ | refine Gr.drewN ?_ _ | refine Gr.grow ?_ _ | refine Gr.setCell ?_ (by (try simp); (try omega)) _)⟩
end Go.Proofs
