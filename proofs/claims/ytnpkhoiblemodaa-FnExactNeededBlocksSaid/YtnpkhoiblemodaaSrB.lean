/-
  Chapter 4: the library's sort of blocks.
-/
import Derived.Test.YtnpkhoiblemodaaSrK
import Derived.Test.YtnpkhoiblemodaaBrC
import Derived.Test.YtnpkhoiblemodaaAvAll
import Derived.Test.YtnpkhoiblemodaaSort
namespace Go.Proofs
open Go.RowKit Av Go.Sort Go.Lib Go.Shelf
set_option linter.unusedVariables false
set_option linter.unusedSimpArgs false
theorem ltOf_cmpB (x y : Blk) : ltOf cmpB x y = decide (Lt x y) := by
  unfold ltOf
  by_cases h : Lt x y
  · rw [decide_eq_true h, decide_eq_true (cmp_neg.2 h)]
  · rw [decide_eq_false h, decide_eq_false (fun q => h (cmp_neg.1 q))]
theorem swo_cmpB : SWO (ltOf cmpB) where
  irrefl x := by rw [ltOf_cmpB]; exact decide_eq_false (lt_irrefl x)
  trans x y z h1 h2 := by rw [ltOf_cmpB] at *; exact decide_eq_true (lt_trans (of_decide_eq_true h1) (of_decide_eq_true h2))
  ntrans x y z h1 h2 := by
    rw [ltOf_cmpB] at *
    have a := of_decide_eq_false h1
    have b := of_decide_eq_false h2
    refine decide_eq_false fun c => ?_
    rcases lt_total x y with q | q | q
    · exact a q
    · subst q; exact b c
    · exact b (lt_trans q c)
theorem Try.sortB (w : World) (B : Nat) (v : Value) (ps : List Blk) (hB : B ≤ w.heap.size) (hl : ps.length ≤ 1000000) (h : OwnB w B v ps) :
    Calls Try.prog 45 #[v, .func (.func 46) #[] #[]] w fun e w' => e = .returned (.tuple #[]) ∧ OwnB w' B v (ps.mergeSort leB) ∧ Below B w w' := by
  rcases h.2 with ⟨rfl, hn⟩ | ⟨g, cap, cur, rfl, gB, hg, hcl, hcm, hsz, htk⟩
  · obtain rfl : ps = [] := List.length_eq_zero_iff.1 hn
    have hcon := AnyF.slices_SortFunc_none (P := Try.prog) (ρ := Try.sortL_ren) Try.sortL none 0 (.func (.func 46) #[] #[]) w
    change Calls Try.prog 45 _ _ _ at hcon
    refine hcon.mono ?_
    rintro e w' ⟨rfl, rfl⟩
    exact ⟨rfl, by simpa using h, Below.refl _ _⟩
  · have hgl : g < w.heap.size := (Array.getElem?_eq_some_iff.1 hg).1
    have eg : ∀ args w, (callFunc 46 args).run Try.prog w = .ok (.enter 46 args) w := enters_of Try.func46 (by kernel_rfl) rfl
    have hcl2 : CmpLays Try.prog 46 #[] bcs 3 cmpB g 0 ps.toArray.size w := fun m os dk _ x y => Try.compareBlocks x y _ rfl _
    have hcon := AnyQ.slices_SortFunc_total Try.sortL 3 Try.isAgg34 Try.sizeOf34 bcs bcs_len bcs_one cmpB swo_cmpB 46 #[] g 0 cap ps.toArray w eg hcl2 (holdsK_own bcs_len h) hgl (by simp; omega) (fun x y h1 h2 => by rw [ltOf_cmpB] at h1 h2; exact eq_of (of_decide_eq_false h1) (of_decide_eq_false h2))
    change Calls Try.prog 45 _ _ _ at hcon
    simp only [List.size_toArray] at hcon
    refine hcon.mono ?_
    rintro e w' ⟨rfl, m, os, rfl⟩
    have el : (fun x y => !(ltOf cmpB) y x) = leB := by funext x y; unfold leB; rw [ltOf_cmpB]
    rw [el]
    obtain ⟨o1, o2⟩ := own_sortedK bcs_len h (List.length_mergeSort (le := leB) ps) m os
    refine ⟨rfl, ?_, ?_⟩
    · rw [List.length_mergeSort] at o1
      exact o1
    · refine Below.grown (Below.refl _ _) o2 hB ?_
      intro j hj
      simp [Value.ownBlock] at hj
      omega
end Go.Proofs
