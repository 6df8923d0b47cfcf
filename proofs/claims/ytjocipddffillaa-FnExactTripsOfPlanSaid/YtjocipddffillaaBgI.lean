/-
  Chapter 8: plans, both sides (spec.bgPlan, bgBoth, IsBagPlan; impl.havePlan, IsBagPlan).
-/
import Derived.Test.YtjocipddffillaaBgG
namespace Go.Proofs
open Go.RowKit Bg
set_option linter.unusedVariables false
set_option linter.unusedSimpArgs false
theorem all_tb {f : Nat → Int} {n : Nat} {lo hi : Int} : AllIn (tb f n) lo hi ↔ ∀ t, t < n → lo ≤ f t ∧ f t ≤ hi := by
  unfold AllIn
  rw [tb_len]
  constructor
  · intro h t ht
    have := inn_e (h t ht)
    rw [tb_get _ _ _ ht] at this
    exact this
  · intro h t ht
    rw [tb_get _ _ _ ht]
    exact inn_t (h t ht).1 (h t ht).2
set_option maxRecDepth 100000 in
set_option maxHeartbeats 1600000 in
theorem Try.bgPlan (w : World) (B B' : Nat) (v v' : Value) (ps : List Pi2) (pl : List Int) (bag : Int) (b : Bool) (hb : b = true ↔ PlanB ps bag pl) (hg : GoodB ps) (hlp : pl.length ≤ 1048576) (h : OwnP 55 w B v ps) (h' : OwnI w B' v' pl) :
    Calls Try.prog 57 #[v, .int .i64 bag, v'] w fun e w' => e = .returned (.bool b) ∧ Below w.heap.size w w' := by
  have hl8 := hg.1
  by_cases hlen : pl.length = ps.length
  case neg =>
    have HF := Lib.hid (not_trueG hb (fun q => hlen q.1))
    have hne : ((pl.length : Int) == (ps.length : Int)) = false := by simp; omega
    have hne2 : ((pl.length : Int) != (ps.length : Int)) = true := by simp; omega
    obtain ⟨A, c, rfl⟩ := h.sl
    obtain ⟨A', c', rfl⟩ := h'.sl
    clear h h' hb
    go_enter Try.func57, Try.ntmps57
    go_wp2
    go_ret
    exact ⟨by rw [HF.out]; rfl, Gr.below (by repeat (first | exact Gr.refl _ | refine Gr.alloc ?_ _ | refine Gr.trans ?_ (by assumption) | refine Gr.drew ?_ | refine Gr.drewN ?_ _ | refine Gr.grow ?_ _ | refine Gr.setCell ?_ (by (try simp); (try omega)) _))⟩
  have heq : ((pl.length : Int) == (ps.length : Int)) = true := by simp; omega
  have heq2 : ((pl.length : Int) != (ps.length : Int)) = false := by simp; omega
  have HN := Lib.hid (Try.bgNamed w B' v' pl (by omega) h')
  obtain ⟨s, hs⟩ := exbG (named pl = pl)
  have HS := Lib.hid (fun W u (o : OwnI W w.heap.size u (named pl)) (bl : Below w.heap.size w W) => Try.l1Same W w.heap.size B' u v' (named pl) pl s hs (by rw [named_len]; omega) hlp o (h'.below bl (Nat.le_refl _)))
  cases hsv : s
  · subst hsv
    have HF := Lib.hid (not_trueG hb (fun q => by have := hs.2 ((named_iff pl).2 q.2.1); cases this))
    obtain ⟨A, c, rfl⟩ := h.sl
    obtain ⟨A', c', rfl⟩ := h'.sl
    generalize named pl = R at *
    clear h h' hb hs hlen
    go_enter Try.func57, Try.ntmps57
    go_wp2_with (first | (go_at_call 82; refine HN.out.mono ?_; rintro e w1 ⟨v1, rfl, ho1, hb1⟩) | (go_at_call 86; refine (HS.out _ _ ho1 hb1).mono ?_; rintro e w2 ⟨rfl, g2⟩))
    go_ret
    exact ⟨by rw [HF.out]; rfl, hb1.trans (g2.below.mono hb1.size)⟩
  · subst hsv
    have hrg := (named_iff pl).1 (hs.1 rfl)
    have HW := Lib.hid (fun W (bl : Below w.heap.size w W) => Try.bgWeights W B B' v v' ps pl hg hlen hrg (h.below bl (Nat.le_refl _)) (h'.below bl (Nat.le_refl _)))
    have hball : b = true ↔ AllIn (tb (wtN (weiF ps) pl pl.length) (cntN pl pl.length)) 1 bag := by
      rw [hb, all_tb]
      constructor
      · intro q t ht
        exact ⟨wt_pos (fun j hj => by have := (hg.2 j (by omega)).2; unfold weiF; omega) hrg t ht, q.2.2 t ht⟩
      · intro q
        exact ⟨hlen, hrg, fun t ht => (q t ht).2⟩
    have hcn := cnt_le pl pl.length
    have HL := Lib.hid (fun W C u (o : OwnI W C u (tb (wtN (weiF ps) pl pl.length) (cntN pl pl.length))) => Try.l1All W C u _ 1 bag b hball (by rw [tb_len]; omega) o)
    obtain ⟨A, c, rfl⟩ := h.sl
    obtain ⟨A', c', rfl⟩ := h'.sl
    generalize named pl = R at *
    generalize tb (wtN (weiF ps) pl pl.length) (cntN pl pl.length) = T at *
    clear h h' hb hs hball hrg hlen
    go_enter Try.func57, Try.ntmps57
    go_wp2_with (first | (go_at_call 82; refine HN.out.mono ?_; rintro e w1 ⟨v1, rfl, ho1, hb1⟩) | (go_at_call 86; refine (HS.out _ _ ho1 hb1).mono ?_; rintro e w2 ⟨rfl, g2⟩; have hb2 := hb1.trans (g2.below.mono hb1.size)) | (go_at_call 61; refine (HW.out _ hb2).mono ?_; rintro e w3 ⟨v3, rfl, ho3, hb3⟩) | (go_at_call 87; refine (HL.out _ _ _ ho3).mono ?_; rintro e w4 ⟨rfl, g4⟩))
    go_ret
    have hb4 := hb2.trans (hb3.mono hb2.size)
    exact ⟨rfl, hb4.trans (g4.below.mono hb4.size)⟩
set_option maxHeartbeats 800000 in
theorem Try.sIsBagPlan (w : World) (B B' : Nat) (v v' : Value) (ps : List Pi2) (pl : List Int) (bag : Int) (a p : Bool) (ha : a = true ↔ AskB ps bag) (hp : p = true ↔ PlanB ps bag pl) (hlp : pl.length ≤ 1048576) (hls : ps.length ≤ 1048576) (h : OwnP 55 w B v ps) (h' : OwnI w B' v' pl) :
    Calls Try.prog 20 #[v, .int .i64 bag, v'] w fun e w' => e = .returned (.tuple #[.bool (a && p), .bool a]) ∧ Below w.heap.size w w' := by
  have HA := Lib.hid (Try.bgAsked w B v ps bag a ha hls h)
  cases hav : a
  · subst hav
    obtain ⟨A, c, rfl⟩ := h.sl
    obtain ⟨A', c', rfl⟩ := h'.sl
    clear h h' ha hp
    go_enter Try.func20, Try.ntmps20
    go_wp2_with (first | (go_at_call 56; refine HA.out.mono ?_; rintro e w1 ⟨rfl, g1⟩))
    go_ret2
    exact ⟨rfl, g1.below⟩
  · subst hav
    have hg := (ha.1 rfl).1
    have HP := Lib.hid (fun W (g : Gr w W) => Try.bgPlan W B B' v v' ps pl bag p hp hg hlp (h.below g.below (Nat.le_refl _)) (h'.gr g))
    obtain ⟨A, c, rfl⟩ := h.sl
    obtain ⟨A', c', rfl⟩ := h'.sl
    clear h h' ha hp hg
    go_enter Try.func20, Try.ntmps20
    go_wp2_with (first | (go_at_call 56; refine HA.out.mono ?_; rintro e w1 ⟨rfl, g1⟩) | (go_at_call 57; refine (HP.out _ g1).mono ?_; rintro e w2 ⟨rfl, b2⟩))
    go_ret2
    exact ⟨rfl, g1.below.trans (b2.mono g1.below.size)⟩
set_option maxHeartbeats 800000 in
theorem Try.bgBoth (w : World) (B B' : Nat) (v v' : Value) (ps : List Pi2) (pl : List Int) (bag : Int) (a p : Bool) (ha : a = true ↔ AskB ps bag) (hp : p = true ↔ PlanB ps bag pl) (hlp : pl.length ≤ 1048576) (hls : ps.length ≤ 1048576) (h : OwnP 55 w B v ps) (h' : OwnI w B' v' pl) :
    Calls Try.prog 60 #[v, .int .i64 bag, v'] w fun e w' => e = .returned (.bool (a && p)) ∧ Below w.heap.size w w' := by
  have HA := Lib.hid (Try.bgAsked w B v ps bag a ha hls h)
  cases hav : a
  · subst hav
    obtain ⟨A, c, rfl⟩ := h.sl
    obtain ⟨A', c', rfl⟩ := h'.sl
    clear h h' ha hp
    go_enter Try.func60, Try.ntmps60
    go_wp2_with (first | (go_at_call 56; refine HA.out.mono ?_; rintro e w1 ⟨rfl, g1⟩))
    go_ret
    exact ⟨rfl, g1.below⟩
  · subst hav
    have hg := (ha.1 rfl).1
    have HP := Lib.hid (fun W (g : Gr w W) => Try.bgPlan W B B' v v' ps pl bag p hp hg hlp (h.below g.below (Nat.le_refl _)) (h'.gr g))
    obtain ⟨A, c, rfl⟩ := h.sl
    obtain ⟨A', c', rfl⟩ := h'.sl
    clear h h' ha hp hg
    go_enter Try.func60, Try.ntmps60
    go_wp2_with (first | (go_at_call 56; refine HA.out.mono ?_; rintro e w1 ⟨rfl, g1⟩) | (go_at_call 57; refine (HP.out _ g1).mono ?_; rintro e w2 ⟨rfl, b2⟩))
    go_ret
    exact ⟨rfl, g1.below.trans (b2.mono g1.below.size)⟩
set_option maxHeartbeats 800000 in
theorem Try.havePlan (w : World) (B B' : Nat) (v v' : Value) (ps : List Pi2) (pl : List Int) (bag : Int) (a p : Bool) (ha : a = true ↔ AskB ps bag) (hp : p = true ↔ PlanB ps bag pl) (hlp : pl.length ≤ 1048576) (hls : ps.length ≤ 1048576) (h : OwnP 55 w B v ps) (h' : OwnI w B' v' pl) :
    Calls Try.prog 58 #[v, .int .i64 bag, v'] w fun e w' => e = .returned (.bool (a && p)) ∧ Below w.heap.size w w' := by
  have HA := Lib.hid (Try.canCarry w B v ps bag a ha hls h)
  cases hav : a
  · subst hav
    obtain ⟨A, c, rfl⟩ := h.sl
    obtain ⟨A', c', rfl⟩ := h'.sl
    clear h h' ha hp
    go_enter Try.func58, Try.ntmps58
    go_wp2_with (first | (go_at_call 59; refine HA.out.mono ?_; rintro e w1 ⟨rfl, g1⟩))
    go_ret
    exact ⟨rfl, g1.below⟩
  · subst hav
    have hg := (ha.1 rfl).1
    have HP := Lib.hid (fun W (g : Gr w W) => Try.isPlan W B B' v v' ps pl bag p hp hg hlp (h.below g.below (Nat.le_refl _)) (h'.gr g))
    obtain ⟨A, c, rfl⟩ := h.sl
    obtain ⟨A', c', rfl⟩ := h'.sl
    clear h h' ha hp hg
    go_enter Try.func58, Try.ntmps58
    go_wp2_with (first | (go_at_call 59; refine HA.out.mono ?_; rintro e w1 ⟨rfl, g1⟩) | (go_at_call 88; refine (HP.out _ g1).mono ?_; rintro e w2 ⟨rfl, b2⟩))
    go_ret
    exact ⟨rfl, g1.below.trans (b2.mono g1.below.size)⟩
set_option maxHeartbeats 800000 in
theorem Try.iIsBagPlan (w : World) (B B' : Nat) (v v' : Value) (ps : List Pi2) (pl : List Int) (bag : Int) (a p : Bool) (ha : a = true ↔ AskB ps bag) (hp : p = true ↔ PlanB ps bag pl) (hlp : pl.length ≤ 1048576) (hls : ps.length ≤ 1048576) (h : OwnP 55 w B v ps) (h' : OwnI w B' v' pl) :
    Calls Try.prog 22 #[v, .int .i64 bag, v'] w fun e w' => e = .returned (.tuple #[.bool (a && p), .bool a]) ∧ Below w.heap.size w w' := by
  have HA := Lib.hid (Try.havePlan w B B' v v' ps pl bag a p ha hp hlp hls h h')
  have HC := Lib.hid (fun W (bl : Below w.heap.size w W) => Try.canCarry W B v ps bag a ha hls (h.below bl (Nat.le_refl _)))
  obtain ⟨A, c, rfl⟩ := h.sl
  obtain ⟨A', c', rfl⟩ := h'.sl
  generalize (a && p) = r at *
  clear h h' ha hp
  go_enter Try.func22, Try.ntmps22
  go_wp2_with (first | (go_at_call 58; refine HA.out.mono ?_; rintro e w1 ⟨rfl, b1⟩) | (go_at_call 59; refine (HC.out _ b1).mono ?_; rintro e w2 ⟨rfl, g2⟩))
  go_ret2
  exact ⟨rfl, b1.trans (g2.below.mono b1.size)⟩
end Go.Proofs
