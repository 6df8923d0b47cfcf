/-
  Chapter 9: harder puzzles, both sides.
-/
import Derived.Test.YtokfnhbdncebmabPzS
import Derived.Lib.LazyBuf
namespace Go.Proofs
open Go.RowKit
set_option linter.unusedVariables false
set_option linter.unusedSimpArgs false
/-- a row of the call's own is nil, or it lies in a block -/
theorem OwnC.two {w : World} {B : Nat} {v : Value} {cs : List Clu} (h : OwnC w B v cs) : (v = .slice none 0 0 ∧ cs = []) ∨ ∃ g c, v = .slice (some ⟨g, 0, none⟩) cs.length c ∧ cs.length ≤ c ∧ c ≤ maxLen ∧ g < w.heap.size ∧ ∀ j u, (ecs ccs cs)[j]? = some u → w.cell? ((⟨g, 0, none⟩ : Addr).add j) = some u := by
  rcases h.2 with ⟨rfl, hn⟩ | ⟨g, cap, cur, rfl, _, hg, hcl, hcm, _, _⟩
  · exact .inl ⟨rfl, List.length_eq_zero_iff.1 hn⟩
  · exact .inr ⟨g, cap, rfl, hcl, hcm, (Array.getElem?_eq_some_iff.1 hg).1, OwnE.reads_all ccs_len h rfl⟩
def hzB (k p : Int) (cs : List Clu) : Bool := pgood k p cs && psol k p cs
def hzL (k p : Int) (cs : List Clu) : List Clu := if hzB k p cs then hrd k p cs.length 0 cs else []
theorem hzL_len (k p : Int) (cs : List Clu) : (hzL k p cs).length ≤ 6 := by
  unfold hzL
  cases h : hzB k p cs
  · simp
  · rw [if_pos rfl]
    unfold hzB at h
    rw [Bool.and_eq_true] at h
    have := (pgood_lt h.1).2.1
    have := hrd_len k p cs.length 0 cs
    omega
def lenV (v : Value) : Nat := match v with
  | .slice _ n _ => n
  | _ => 0
def HRelZ (k p : Int) (R : List Clu) (w W0 : World) (s4 s5 : Value) (wr : World) : Prop := ∃ (cs : List Clu) (j : Nat), s5 = .int .i64 j ∧ j ≤ cs.length ∧ cs.length ≤ 6 ∧ cs.all cok = true ∧ hrd k p (cs.length - j) j cs = R ∧ OwnC wr (w.heap.size + 2) s4 cs ∧ Below (w.heap.size + 2) W0 wr
theorem solN_hz (k p : Int) (cs : List Clu) : (solN k p cs == 1) = hzB k p cs := by
  cases hg : pgood k p cs
  · simp [solN, solL_no hg, hzB, hg]
  · rw [solN_psol hg]; simp [hzB, hg]
end Go.Proofs
