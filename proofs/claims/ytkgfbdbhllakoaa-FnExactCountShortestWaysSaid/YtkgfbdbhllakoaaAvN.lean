/-
  Contracts of chapter 4: the distance of two corners, and how many shortest ways there are (the program).
-/
import Derived.Test.YtkgfbdbhllakoaaAvK
namespace Go.Proofs
open Go.RowKit Av Gm Go.Maps
set_option linter.unusedVariables false
set_option linter.unusedSimpArgs false
set_option maxRecDepth 100000 in
set_option maxHeartbeats 1600000 in
theorem Try.iCornerDistance (w : World) (W H : Int) (B : Nat) (a : Value) (ps : List Blk) (Ba : Nat) (la : Value) (xs : List Int) (Bb : Nat) (lb : Value) (ys : List Int) (v : Int) (b : Bool) (hv : cdV W H ps xs ys = v) (hb : cdB W H ps xs ys = b) (hl : ps.length ≤ 1048576) (h : OwnB w B a ps) (hla : OwnI w Ba la xs) (hlb : OwnI w Bb lb ys) :
    Calls Try.prog 14 #[.agg #[.int .i64 W, .int .i64 H, a], la, lb] w fun e w' => e = .returned (.tuple #[.int .i64 v, .bool b]) ∧ Below w.heap.size w w' := by
  have mixed : Try.prog.follows .mixedOrders = true := by kernel_rfl
  obtain ⟨A, c, rfl, h⟩ := OwnE.eta h
  have HS := Lib.hid (fun (X : World) (g : Gr w X) => Try.shortest X W H B _ ps Ba la xs Bb lb ys v _ b hv rfl hb hl (h.gr g) (hla.gr g) (hlb.gr g))
  generalize cwV W H ps xs ys = u at *
  clear hv hb h hla hlb
  go_enter Try.func14, Try.ntmps14
  go_wp2_with (first | (go_at_call 34; refine (HS.out _ (by repeat (first | exact Gr.refl _ | refine Gr.alloc ?_ _ | refine Gr.trans ?_ (by assumption) | refine Gr.drew ?_ | refine Gr.drewN ?_ _ | refine Gr.grow ?_ _ | refine Gr.setCell ?_ (by (try simp); (try omega)) _))).mono ?_; rintro e w1 ⟨rfl, hb1⟩))
  go_ret2
  exact ⟨rfl, Below.alloc (Below.trans (show Gr w (w.alloc (.cells #[.int .i64 W, .int .i64 H, .slice A ps.length c] 31)) from (by repeat (first | exact Gr.refl _ | refine Gr.alloc ?_ _ | refine Gr.trans ?_ (by assumption) | refine Gr.drew ?_ | refine Gr.drewN ?_ _ | refine Gr.grow ?_ _ | refine Gr.setCell ?_ (by (try simp); (try omega)) _))).below (hb1.mono (by simp))) (by have := hb1.size; simp at this; omega) _⟩
set_option maxRecDepth 100000 in
set_option maxHeartbeats 1600000 in
theorem Try.iCountShortestWays (w : World) (W H : Int) (B : Nat) (a : Value) (ps : List Blk) (Ba : Nat) (la : Value) (xs : List Int) (Bb : Nat) (lb : Value) (ys : List Int) (v : Int) (b : Bool) (hv : cwV W H ps xs ys = v) (hb : cdB W H ps xs ys = b) (hl : ps.length ≤ 1048576) (h : OwnB w B a ps) (hla : OwnI w Ba la xs) (hlb : OwnI w Bb lb ys) :
    Calls Try.prog 20 #[.agg #[.int .i64 W, .int .i64 H, a], la, lb] w fun e w' => e = .returned (.tuple #[.int .i64 v, .bool b]) ∧ Below w.heap.size w w' := by
  have mixed : Try.prog.follows .mixedOrders = true := by kernel_rfl
  obtain ⟨A, c, rfl, h⟩ := OwnE.eta h
  have HS := Lib.hid (fun (X : World) (g : Gr w X) => Try.shortest X W H B _ ps Ba la xs Bb lb ys _ v b rfl hv hb hl (h.gr g) (hla.gr g) (hlb.gr g))
  generalize cdV W H ps xs ys = u at *
  clear hv hb h hla hlb
  go_enter Try.func20, Try.ntmps20
  go_wp2_with (first | (go_at_call 34; refine (HS.out _ (by repeat (first | exact Gr.refl _ | refine Gr.alloc ?_ _ | refine Gr.trans ?_ (by assumption) | refine Gr.drew ?_ | refine Gr.drewN ?_ _ | refine Gr.grow ?_ _ | refine Gr.setCell ?_ (by (try simp); (try omega)) _))).mono ?_; rintro e w1 ⟨rfl, hb1⟩))
  go_ret2
  exact ⟨rfl, Below.alloc (Below.trans (show Gr w (w.alloc (.cells #[.int .i64 W, .int .i64 H, .slice A ps.length c] 31)) from (by repeat (first | exact Gr.refl _ | refine Gr.alloc ?_ _ | refine Gr.trans ?_ (by assumption) | refine Gr.drew ?_ | refine Gr.drewN ?_ _ | refine Gr.grow ?_ _ | refine Gr.setCell ?_ (by (try simp); (try omega)) _))).below (hb1.mono (by simp))) (by have := hb1.size; simp at this; omega) _⟩
end Go.Proofs
