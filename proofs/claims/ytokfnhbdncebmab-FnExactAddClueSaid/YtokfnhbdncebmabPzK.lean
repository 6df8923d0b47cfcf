/-
  Chapter 9: the first and the last solution, whether a house fits, both sides (FirstSolution, RangeOfSolutions, DoesFit).
-/
import Derived.Test.YtokfnhbdncebmabPzJ
namespace Go.Proofs
open Go.RowKit
set_option linter.unusedVariables false
set_option linter.unusedSimpArgs false
def rgA (k p : Int) (cs : List Clu) : Int := (solL k p cs).getD 0 0
def rgZ (k p : Int) (cs : List Clu) : Int := (solL k p cs).getD ((solL k p cs).length - 1) 0
def rgB (k p : Int) (cs : List Clu) : Bool := decide (solL k p cs ≠ [])
theorem rg_nil {k p : Int} {cs : List Clu} (h : solL k p cs = []) : rgA k p cs = 0 ∧ rgZ k p cs = 0 ∧ rgB k p cs = false := by simp [rgA, rgZ, rgB, h]
theorem rg_cons {k p : Int} {cs : List Clu} (h : 0 < (solL k p cs).length) : rgB k p cs = true := by
  unfold rgB
  exact decide_eq_true (fun e => by rw [e] at h; simp at h)
/-- a list's first and last int, where it lies -/
theorem OwnI.ends {w : World} {B : Nat} {v : Value} {xs : List Int} (h : OwnI w B v xs) (h0 : 0 < xs.length) : ∃ g c, v = .slice (some ⟨g, 0, none⟩) xs.length c ∧ g < w.heap.size ∧ w.cell? ⟨g, 0, none⟩ = some (.int .i64 (xs.getD 0 0)) ∧ w.cell? ⟨g, xs.length - 1, none⟩ = some (.int .i64 (xs.getD (xs.length - 1) 0)) := by
  rcases h.view with ⟨hx, _⟩ | ⟨_, g, c, rfl, _, g2, _, hc, _⟩
  · rw [hx] at h0; simp at h0
  · exact ⟨g, c, rfl, g2, hc 0 h0, hc (xs.length - 1) (by omega)⟩
def dfB (k p x y z n : Int) : Bool := (pst k p && inn n 1 (hs k p)) && cok (x, y, z)
def dfV (k p x y z n : Int) : Bool := dfB k p x y z n && pfit k p (x, y, z) n
set_option maxHeartbeats 400000 in
theorem Try.pzHidden (k p n : Int) (v : Bool) (h : (pst k p && inn n 1 (hs k p)) = v) (w : World) :
    Calls Try.prog 16 #[.agg #[.int .i64 k, .int .i64 p], .int .i64 n] w fun e w' => e = .returned (.bool v) ∧ Gr w w' := by
  subst h
  cases hg : pst k p
  · have H := Lib.hid hg
    clear hg
    go_enter Try.func16, Try.ntmps16
    go_wp2_with (first | (go_at_call 37; refine (Try.pzStreet _ _ _ H.out _).mono ?_; rintro e w1 ⟨rfl, hbW⟩; have hcW := (bcell hbW.below).1; have hfW := (bcell hbW.below).2; (try have hzW : w.heap.size < w1.heap.size := by have hq := hbW.below.size; (try simp at hq); omega); (try have hyW : w.heap.size + 1 < w1.heap.size := by have hq := hbW.below.size; (try simp at hq); omega); (try have hxW : w.heap.size + 2 < w1.heap.size := by have hq := hbW.below.size; (try simp at hq); omega)))
    go_ret
    exact ⟨rfl, by repeat (first | exact Gr.refl _ | refine Gr.alloc ?_ _ | refine Gr.trans ?_ (by assumption) | refine Gr.drew ?_ | refine Gr.drewN ?_ _ | refine Gr.grow ?_ _ | refine Gr.setCell ?_ (by (try simp); (try omega)) _)⟩
  · obtain ⟨h0, h1, h2, h3⟩ := pst_t hg
    have h3' : p ≤ 1000 := by omega
    have H := Lib.hid hg
    clear hg
    go_enter Try.func16, Try.ntmps16
    go_wp2_with (first | (go_at_call 37; refine (Try.pzStreet _ _ _ H.out _).mono ?_; rintro e w1 ⟨rfl, hbW⟩; have hcW := (bcell hbW.below).1; have hfW := (bcell hbW.below).2; (try have hzW : w.heap.size < w1.heap.size := by have hq := hbW.below.size; (try simp at hq); omega); (try have hyW : w.heap.size + 1 < w1.heap.size := by have hq := hbW.below.size; (try simp at hq); omega); (try have hxW : w.heap.size + 2 < w1.heap.size := by have hq := hbW.below.size; (try simp at hq); omega)) | (go_at_call 38; refine (Try.nuHouses _ _ _ h0 h1 h2 h3').mono ?_; rintro e w1 ⟨rfl, hbW⟩; have hcW := (bcell hbW.below).1; have hfW := (bcell hbW.below).2; (try have hzW : w.heap.size < w1.heap.size := by have hq := hbW.below.size; (try simp at hq); omega); (try have hyW : w.heap.size + 1 < w1.heap.size := by have hq := hbW.below.size; (try simp at hq); omega); (try have hxW : w.heap.size + 2 < w1.heap.size := by have hq := hbW.below.size; (try simp at hq); omega)) | (go_at_call 17; refine (Try.l1In _ _ _ _).mono ?_; rintro e w1 ⟨rfl, rfl⟩))
    go_ret
    exact ⟨by simp, by repeat (first | exact Gr.refl _ | refine Gr.alloc ?_ _ | refine Gr.trans ?_ (by assumption) | refine Gr.drew ?_ | refine Gr.drewN ?_ _ | refine Gr.grow ?_ _ | refine Gr.setCell ?_ (by (try simp); (try omega)) _)⟩
theorem asked_pst {k p n : Int} (h : pst k p = true) : decide (Asked k p n) = inn n 1 (hs k p) := by
  obtain ⟨h0, h1, h2, h3⟩ := pst_t h
  unfold inn
  refine decide_eq_decide.2 ?_
  unfold Asked Gd
  constructor
  · exact fun q => q.2
  · exact fun q => ⟨⟨h0, h1, h2, by omega⟩, q⟩
end Go.Proofs
