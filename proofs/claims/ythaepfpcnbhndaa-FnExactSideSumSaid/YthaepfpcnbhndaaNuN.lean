/-
  Contracts of chapter 1: the numbers on a side.
-/
import Derived.Test.YthaepfpcnbhndaaNuB
import Derived.Test.YthaepfpcnbhndaaInts
namespace Go.Proofs
open Go.RowKit
set_option linter.unusedVariables false
set_option linter.unusedSimpArgs false
/-- A call that hands back a list of ints and a bool. -/
def RetI (w : World) (xs : List Int) (b : Bool) (e : Ending) (w' : World) : Prop := ∃ v, e = .returned (.tuple #[v, .bool b]) ∧ OwnI w' w.heap.size v xs ∧ Below w.heap.size w w'
theorem Try.infoInt : (Try.prog.info? 3).map (fun i => (i.zero, i.size, i.bytes)) = some (some (.int .i64 0), 1, 8) := by kernel_rfl
theorem OwnI.nil (w : World) (B : Nat) : OwnI w B (.slice none 0 0) [] := World.ownsRow_nil w B _ 1
def nlist (k p sd : Int) (i : Nat) : List Int := if hsd k sd then (List.range i).map (fun (j : Nat) => num k p sd j) else []
theorem nlist_succ (k p sd : Int) (i : Nat) (h : hsd k sd = true) : nlist k p sd (i + 1) = nlist k p sd i ++ [num k p sd i] := by simp [nlist, h, List.range_succ]
theorem nlist_no (k p sd : Int) (i : Nat) (h : hsd k sd = false) : nlist k p sd i = [] := by simp [nlist, h]
theorem nlist_len (k p sd : Int) (i : Nat) : (nlist k p sd i).length ≤ i := by unfold nlist; split <;> simp
def NRel (k p sd : Int) (w : World) (s n : Value) (wr : World) : Prop := ∃ i : Nat, (i : Int) ≤ p ∧ n = .int .i64 i ∧ OwnI wr w.heap.size s (nlist k p sd i) ∧ Below w.heap.size w wr
set_option maxRecDepth 100000 in
set_option maxHeartbeats 1000000 in
theorem Try.nuNumbers (k p sd : Int) (w : World) (h0 : 0 ≤ k) (h1 : k ≤ 2) (h2 : 1 ≤ p) (h3 : p ≤ 1000) :
    Calls Try.prog 101 #[.agg #[.int .i64 k, .int .i64 p], .int .i64 sd] w fun e w' => ∃ v, e = .returned v ∧ OwnI w' w.heap.size v (nlist k p sd p.toNat) ∧ Below w.heap.size w w' := by
  obtain ⟨i0, hi, hz0, hz1, hz2⟩ := info_parts Try.infoInt
  cases hh : hsd k sd
  · have H := Lib.hid hh
    have HN := Lib.hid (nlist_no k p sd p.toNat hh)
    clear hh
    have z1 : (0 : Int) < p := by omega
    go_enter Try.func101, Try.ntmps101
    go_wp2
    refine wp_loop_rounds 1 ?_
    rw [rounds_succ]
    go_wp2_with (first | (go_at_call 88; refine (Try.nuSide _ _ _ _ H.out _).mono ?_; rintro e w1 ⟨rfl, hbW⟩; have hcW := (bcell hbW.below).1; have hfW := (bcell hbW.below).2; (try have hzW : w.heap.size < w1.heap.size := by have hq := hbW.below.size; (try simp at hq); omega); (try have hyW : w.heap.size + 1 < w1.heap.size := by have hq := hbW.below.size; (try simp at hq); omega)))
    go_ret
    refine ⟨_, rfl, ?_, Gr.below (by repeat (first | exact Gr.refl _ | refine Gr.alloc ?_ _ | refine Gr.trans ?_ (by assumption) | refine Gr.drew ?_ | refine Gr.drewN ?_ _ | refine Gr.grow ?_ _))⟩
    rw [HN.out]
    exact OwnI.nil _ _
  · obtain ⟨d0, d1⟩ := hsd_t hh
    have H := Lib.hid hh
    clear hh
    go_enter Try.func101, Try.ntmps101
    go_wp2
    have c0 : (w.alloc (.cells #[.int .i64 k, .int .i64 p] 41)).cell? ⟨w.heap.size, 0, none⟩ = some (.int .i64 k) := by simp [go_sem]
    have c1 : (w.alloc (.cells #[.int .i64 k, .int .i64 p] 41)).cell? ⟨w.heap.size, 1, none⟩ = some (.int .i64 p) := by simp [go_sem]
    have gw : Gr w (w.alloc (.cells #[.int .i64 k, .int .i64 p] 41)) := (by repeat (first | exact Gr.refl _ | refine Gr.alloc ?_ _ | refine Gr.trans ?_ (by assumption) | refine Gr.drew ?_ | refine Gr.drewN ?_ _ | refine Gr.grow ?_ _))
    generalize hW : w.alloc (.cells #[.int .i64 k, .int .i64 p] 41) = W at *
    have hWs : W.heap.size = w.heap.size + 1 := by rw [← hW]; simp
    have HWs := Lib.hid hWs
    clear hW hWs
    go_loopw [5, 6] (fun s n wr => NRel k p sd W s n wr) (fun _ n _ => (p - intOf n).toNat)
    case atStart => exact ⟨0, by omega, rfl, by simp [nlist]; exact OwnI.nil _ _, Below.refl _ _⟩
    case round =>
      obtain ⟨i, hi', rfl, ho, hb⟩ := hrel
      have e0 := ((bcell hb).1 w.heap.size 0 (by have := HWs.out; omega)).trans c0
      have e1 := ((bcell hb).1 w.heap.size 1 (by have := HWs.out; omega)).trans c1
      have sz : w.heap.size < wr.heap.size := by have := hb.size; have := HWs.out; omega
      by_cases hlt : (i : Int) < p
      · have HO := Lib.hid ho
        have HB := Lib.hid hb
        have HS := Lib.hid (nlist_succ k p sd i H.out)
        have hlen := nlist_len k p sd i
        have z0 : (0 : Int) ≤ (i : Int) := by omega
        have z1 : (i : Int) ≤ p - 1 := by omega
        clear ho hb c0 c1
        go_wp2_with (first | (go_at_call 88; refine (Try.nuSide _ _ _ _ H.out _).mono ?_; rintro e w1 ⟨rfl, g1⟩; have f1 := (bcell g1.below).1; have s1 : w.heap.size < w1.heap.size := Nat.lt_of_lt_of_le sz g1.below.size) | (go_at_call 89; refine (Try.nuNumber _ _ _ _ _ h0 h1 h2 h3 d0 d1 z0 z1).mono ?_; rintro e w2 ⟨rfl, g2⟩) | (at_builtin; refine wpList_append_own _ rfl _ _ 29 rfl W.heap.size 3 i0 (.int .i64 0) 1 8 Try.underlying29 hi hz0 hz1 hz2 rfl (by decide) _ _ _ rfl (World.ownsRow.alloc ((HO.out.gr g1).gr g2) _) ⟨w2.heap.size, 0, none⟩ 1 1 [.int .i64 (num k p sd i)] rfl rfl ?c1 ?c2 ?c3 ?c4 ?c5 ?_; rotate_right; intro v' w3 hown3 hgr3 _))
        case c1 => exact cell_one_new _ _ _
        case c2 => simp [Value.oneCell']
        case c3 => unfold maxLen; omega
        case c4 => omega
        case c5 => have a := HB.out.size; have b := g1.below.size; have c := g2.below.size; simp; omega
        have gb : Below W.heap.size W w3 := by
          have a := HB.out.size; have b := g1.below.size; have c := g2.below.size
          refine Below.grown ((HB.out.trans ((g1.trans g2).below.mono a)).alloc (by omega) _) hgr3 (by simp; omega) ?_
          intro kk hk
          exact (World.ownsRow.lt HO.out kk hk).1
        have ow : OwnI w3 W.heap.size v' (nlist k p sd (i + 1)) := by
          unfold OwnI
          rw [HS.out]
          simpa using hown3
        have GB := Lib.hid gb
        have OW := Lib.hid ow
        clear gb ow hown3 hgr3
        go_wp2
        go_roundw
        case rel => exact ⟨i + 1, by omega, by go_num, OW.out, GB.out⟩
        case measure => simp [intOf]; omega
      · have hip : (i : Int) = p := by omega
        have HT := Lib.hid (show p.toNat = i by omega)
        have HO := Lib.hid ho
        have HB := Lib.hid hb
        have nlt : ¬ (i : Int) < p := hlt
        clear ho hb c0 c1 hip
        go_wp2
        go_ret
        have a := gw.below.size
        exact ⟨_, rfl, by rw [HT.out]; exact OwnI.mono HO.out a, gw.below.trans (HB.out.mono a)⟩
end Go.Proofs
