/-
  Chapter 6: FewestTurns (the program).
-/
import Derived.Test.YtfdiiichjopncaaDoorOwTx
import Derived.Lib.MinMax
namespace Go.Proofs
open Go.RowKit Av Gm Go.Maps
set_option linter.unusedVariables false
set_option linter.unusedSimpArgs false
/-- the fewest turns -/
def ftV (s a : ByteArray) (xs ys : List Int) : Int := max (w8V s a xs ys - 1) 0
theorem w8V_bd {s a : ByteArray} (xs ys : List Int) : 0 ≤ w8V s a xs ys := by
  unfold w8V
  split
  · rename_i h
    unfold w8B at h
    simp only [Bool.and_eq_true, decide_eq_true_eq] at h
    exact h.2
  · exact Int.le_refl _
set_option maxRecDepth 100000 in
set_option maxHeartbeats 1600000 in
theorem Tryd.iFewestTurns (w : World) (s a : ByteArray) (hs : s.size ≤ maxLen) (ha : a.size ≤ maxLen) (Ba : Nat) (la : Value) (xs : List Int) (Bb : Nat) (lb : Value) (ys : List Int) (v : Int) (b : Bool) (hv : ftV s a xs ys = v) (hb : w8B s a xs ys = b) (hhi : w8V s a xs ys ≤ 1000) (hla : OwnI w Ba la xs) (hlb : OwnI w Bb lb ys) :
    Calls Tryd.prog 8 #[.agg #[.string s, .string a], la, lb] w fun e w' => e = .returned (.tuple #[.int .i64 v, .bool b]) ∧ Below w.heap.size w w' := by
  have HS := Lib.hid (fun (X : World) (g : Gr w X) => Tryd.driven8 X s a hs ha Ba la xs Bb lb ys _ _ b rfl rfl hb (hla.gr g) (hlb.gr g))
  have hlo := w8V_bd (s := s) (a := a) xs ys
  unfold ftV at hv
  generalize w8V s a xs ys = u at *
  generalize w8C s a xs ys = c at *
  obtain ⟨Aa, ca, rfl⟩ := hla.form
  obtain ⟨Ab, cb, rfl⟩ := hlb.form
  clear hb hla hlb hs ha
  subst hv
  go_enter Tryd.func8, Tryd.ntmps8
  go_wp2_with (first | (go_at_call 13; refine (HS.out _ (by repeat (first | exact Gr.refl _ | refine Gr.alloc ?_ _ | refine Gr.trans ?_ (by assumption) | refine Gr.drew ?_ | refine Gr.drewN ?_ _ | refine Gr.grow ?_ _ | refine Gr.setCell ?_ (by (try simp); (try omega)) _))).mono ?_; rintro e w1 ⟨rfl, hb1⟩))
  go_ret2
  exact ⟨rfl, Below.alloc (Below.trans (show Gr w (w.alloc (.cells #[.string s, .string a] 28)) from (by repeat (first | exact Gr.refl _ | refine Gr.alloc ?_ _ | refine Gr.trans ?_ (by assumption) | refine Gr.drew ?_ | refine Gr.drewN ?_ _ | refine Gr.grow ?_ _ | refine Gr.setCell ?_ (by (try simp); (try omega)) _))).below (hb1.mono (by simp))) (by have := hb1.size; simp at this; omega) _⟩
end Go.Proofs
