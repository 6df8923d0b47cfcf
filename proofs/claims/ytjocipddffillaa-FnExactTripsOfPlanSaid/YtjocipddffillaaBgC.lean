/-
  Chapter 8: can parcels be carried in a bag, both sides (spec.bgAsked, impl.canCarry); spec.AreParcels.
-/
import Derived.Test.YtjocipddffillaaBgB
namespace Go.Proofs
open Go.RowKit
set_option linter.unusedVariables false
set_option linter.unusedSimpArgs false
set_option maxHeartbeats 400000 in
theorem Try.sAreParcels (w : World) (B : Nat) (v : Value) (ps : List Pi2) (b : Bool) (hb : b = true ↔ GoodB ps) (hl : ps.length ≤ 1048576) (h : OwnP 55 w B v ps) :
    Calls Try.prog 16 #[v] w fun e w' => e = .returned (.bool b) ∧ Gr w w' := by
  have HG := Lib.hid (Try.bgGood w B v ps b hb hl h)
  clear h hb
  go_enter Try.func16, Try.ntmps16
  go_wp2_with (first | (go_at_call 50; refine (HG.out).mono ?_; rintro e w1 ⟨rfl, hbW⟩; have hcW := (bcell hbW.below).1; have hfW := (bcell hbW.below).2; (try have hzW : w.heap.size < w1.heap.size := by have hq := hbW.below.size; (try simp at hq); omega); (try have hyW : w.heap.size + 1 < w1.heap.size := by have hq := hbW.below.size; (try simp at hq); omega); (try have hxW : w.heap.size + 2 < w1.heap.size := by have hq := hbW.below.size; (try simp at hq); omega)))
  go_ret
  exact ⟨rfl, by repeat (first | exact Gr.refl _ | refine Gr.alloc ?_ _ | refine Gr.trans ?_ (by assumption) | refine Gr.drew ?_ | refine Gr.drewN ?_ _ | refine Gr.grow ?_ _ | refine Gr.setCell ?_ (by (try simp); (try omega)) _)⟩
def LightB (ps : List Pi2) (bag : Int) : Prop := ∀ k, k < ps.length → (ps.getD k (0, 0)).2 ≤ bag
def AskB (ps : List Pi2) (bag : Int) : Prop := GoodB ps ∧ (1 ≤ bag ∧ bag ≤ 10000) ∧ LightB ps bag
/-- what is asked, one after the other -/
theorem askB_cases {ps : List Pi2} {bag : Int} {b : Bool} (hb : b = true ↔ AskB ps bag) : ∃ g l : Bool, (g = true ↔ GoodB ps) ∧ (l = true ↔ LightB ps bag) ∧ b = (g && inn bag 1 10000 && l) := by
  obtain ⟨g, hg⟩ := exbG (GoodB ps)
  obtain ⟨l, hl⟩ := exbG (LightB ps bag)
  refine ⟨g, l, hg, hl, ?_⟩
  rw [Bool.eq_iff_iff, hb, Bool.and_eq_true, Bool.and_eq_true, hg, hl]
  unfold AskB inn
  simp [and_assoc]
theorem OwnP.sl {T : TypeId} {w : World} {B : Nat} {v : Value} {ps : List Pi2} (h : OwnP T w B v ps) : ∃ A c, v = .slice A ps.length c := by
  rcases h.view with ⟨rfl, A, c, rfl⟩ | ⟨_, g, c, rfl, _⟩
  · exact ⟨A, c, rfl⟩
  · exact ⟨_, c, rfl⟩
set_option maxRecDepth 100000 in
set_option maxHeartbeats 1600000 in
theorem Try.bgAsked (w : World) (B : Nat) (v : Value) (ps : List Pi2) (bag : Int) (b : Bool) (hb : b = true ↔ AskB ps bag) (hl : ps.length ≤ 1048576) (h : OwnP 55 w B v ps) :
    Calls Try.prog 56 #[v, .int .i64 bag] w fun e w' => e = .returned (.bool b) ∧ Gr w w' := by
  obtain ⟨g, l, hg, hlt, rfl⟩ := askB_cases hb
  have HG := Lib.hid (Try.bgGood w B v ps g hg hl h)
  clear hb
  cases hgv : g
  · subst hgv
    obtain ⟨A, c, rfl⟩ := h.sl
    clear h hg hlt
    go_enter Try.func56, Try.ntmps56
    go_wp2_with (first | (go_at_call 50; refine (HG.out).mono ?_; rintro e w1 ⟨rfl, hbW⟩; have hcW := (bcell hbW.below).1; have hfW := (bcell hbW.below).2; (try have hzW : w.heap.size < w1.heap.size := by have hq := hbW.below.size; (try simp at hq); omega); (try have hyW : w.heap.size + 1 < w1.heap.size := by have hq := hbW.below.size; (try simp at hq); omega); (try have hxW : w.heap.size + 2 < w1.heap.size := by have hq := hbW.below.size; (try simp at hq); omega)))
    go_ret
    exact ⟨rfl, by repeat (first | exact Gr.refl _ | refine Gr.alloc ?_ _ | refine Gr.trans ?_ (by assumption) | refine Gr.drew ?_ | refine Gr.drewN ?_ _ | refine Gr.grow ?_ _ | refine Gr.setCell ?_ (by (try simp); (try omega)) _)⟩
  · subst hgv
    have hgo := hg.1 rfl
    have hlen := hgo.1
    rw [Bool.true_and]
    cases h1 : inn bag 1 10000
    · have H1 := Lib.hid h1
      obtain ⟨A, c, rfl⟩ := h.sl
      clear h hg hlt h1
      go_enter Try.func56, Try.ntmps56
      go_wp2_with (first | (go_at_call 50; refine (HG.out).mono ?_; rintro e w1 ⟨rfl, hbW⟩; have hcW := (bcell hbW.below).1; have hfW := (bcell hbW.below).2; (try have hzW : w.heap.size < w1.heap.size := by have hq := hbW.below.size; (try simp at hq); omega); (try have hyW : w.heap.size + 1 < w1.heap.size := by have hq := hbW.below.size; (try simp at hq); omega); (try have hxW : w.heap.size + 2 < w1.heap.size := by have hq := hbW.below.size; (try simp at hq); omega)) | (go_at_call 81; refine (Try.l1In _ _ _ _ H1.out _).mono ?_; rintro e w1 ⟨rfl, rfl⟩))
      go_ret
      exact ⟨rfl, by repeat (first | exact Gr.refl _ | refine Gr.alloc ?_ _ | refine Gr.trans ?_ (by assumption) | refine Gr.drew ?_ | refine Gr.drewN ?_ _ | refine Gr.grow ?_ _ | refine Gr.setCell ?_ (by (try simp); (try omega)) _)⟩
    · have H1 := Lib.hid h1
      rw [Bool.true_and]
      rcases h.view with ⟨rfl, _⟩ | ⟨hpos, g, c, rfl, _, _, _, _, hc, _⟩
      · simp at hlen
      · have HC := Lib.hid hc
        have HB := Lib.hid hlt
        clear h hc hg h1 hgo hlt
        go_enter Try.func56, Try.ntmps56
        go_wp2_with (first | (go_at_call 50; refine (HG.out).mono ?_; rintro e w1 ⟨rfl, hbW⟩; have hcW := (bcell hbW.below).1; have hfW := (bcell hbW.below).2; (try have hzW : w.heap.size < w1.heap.size := by have hq := hbW.below.size; (try simp at hq); omega); (try have hyW : w.heap.size + 1 < w1.heap.size := by have hq := hbW.below.size; (try simp at hq); omega); (try have hxW : w.heap.size + 2 < w1.heap.size := by have hq := hbW.below.size; (try simp at hq); omega)) | (go_at_call 81; refine (Try.l1In _ _ _ _ H1.out _).mono ?_; rintro e w1 ⟨rfl, rfl⟩))
        go_loopw [6, 17] (fun _ i wr => GRelB (fun k => (ps.getD k (0, 0)).2 ≤ bag) ps.length w i wr) (fun _ i _ => (ps.length - intOf i).toNat)
        case atStart => exact ⟨by repeat (first | exact Gr.refl _ | refine Gr.alloc ?_ _ | refine Gr.trans ?_ (by assumption) | refine Gr.drew ?_ | refine Gr.drewN ?_ _ | refine Gr.grow ?_ _ | refine Gr.setCell ?_ (by (try simp); (try omega)) _), 0, Nat.zero_le _, rfl, fun j hj => absurd hj (Nat.not_lt_zero _)⟩
        case round =>
          obtain ⟨gr, k, hk, rfl, hall⟩ := hrel
          by_cases hlt : k < ps.length
          · rcases hp : ps.getD k (0, 0) with ⟨p0, p1⟩
            have e0 := gr.keep0 (HC.out k hlt).1
            have e1 := gr.keep0 (HC.out k hlt).2
            rw [hp] at e0 e1
            simp only at e0 e1
            have z0 : (0 : Int) ≤ (k : Int) := by omega
            have z1 : (k : Int) < (ps.length : Int) := by omega
            have GR := Lib.hid gr
            have HA := Lib.hid hall
            have HP := Lib.hid hp
            clear gr hall hp
            by_cases hq : bag < p1
            · have HF := Lib.hid (not_trueG HB.out (fun q => by have := q k hlt; rw [HP.out] at this; simp only at this; omega))
              go_wp2
              go_ret
              exact ⟨by rw [HF.out]; rfl, GR.out.trans (by repeat (first | exact Gr.refl _ | refine Gr.alloc ?_ _ | refine Gr.trans ?_ (by assumption) | refine Gr.drew ?_ | refine Gr.drewN ?_ _ | refine Gr.grow ?_ _ | refine Gr.setCell ?_ (by (try simp); (try omega)) _))⟩
            · have HS := Lib.hid (all_snoc HA.out (show (ps.getD k (0, 0)).2 ≤ bag by rw [HP.out]; simp only; omega))
              go_wp2
              go_roundw
              case rel => exact ⟨GR.out.trans (by repeat (first | exact Gr.refl _ | refine Gr.alloc ?_ _ | refine Gr.trans ?_ (by assumption) | refine Gr.drew ?_ | refine Gr.drewN ?_ _ | refine Gr.grow ?_ _ | refine Gr.setCell ?_ (by (try simp); (try omega)) _)), k + 1, by omega, by go_num, HS.out⟩
              case measure => simp [intOf]; omega
          · obtain rfl : k = ps.length := by omega
            have HF := Lib.hid (show l = true from HB.out.2 hall)
            have GR := Lib.hid gr
            clear gr hall
            go_wp2
            go_ret
            exact ⟨by rw [HF.out]; rfl, GR.out⟩
set_option maxHeartbeats 400000 in
theorem Try.canCarry1 (bag p0 p1 : Int) (b : Nat) (w : World) (hc : w.cell? ⟨b, 0, none⟩ = some (.int .i64 bag)) :
    Calls Try.prog 89 (#[.agg #[.int .i64 p0, .int .i64 p1]] ++ #[.pointer (some ⟨b, 0, none⟩)]) w fun e w' => e = .returned (.bool (decide (bag < p1))) ∧ Gr w w' := by
  have hb := World.block_lt_of_cell? _ _ hc
  have e0 := Gr.keep0 (Gr.alloc (Gr.refl w) (.cells #[.int .i64 p0, .int .i64 p1] 55)) hc
  go_enter Try.func89, Try.ntmps89
  go_wp2
  go_ret
  exact ⟨rfl, by repeat (first | exact Gr.refl _ | refine Gr.alloc ?_ _ | refine Gr.trans ?_ (by assumption) | refine Gr.drew ?_ | refine Gr.drewN ?_ _ | refine Gr.grow ?_ _ | refine Gr.setCell ?_ (by (try simp); (try omega)) _)⟩
set_option maxRecDepth 100000 in
set_option maxHeartbeats 1600000 in
theorem Try.canCarry (w : World) (B : Nat) (v : Value) (ps : List Pi2) (bag : Int) (b : Bool) (hb : b = true ↔ AskB ps bag) (hl : ps.length ≤ 1048576) (h : OwnP 55 w B v ps) :
    Calls Try.prog 59 #[v, .int .i64 bag] w fun e w' => e = .returned (.bool b) ∧ Gr w w' := by
  obtain ⟨g, l, hg, hlt, rfl⟩ := askB_cases hb
  have hc : (w.alloc (.cells #[.int .i64 bag] 3)).cell? ⟨w.heap.size, 0, none⟩ = some (.int .i64 bag) := by simp [go_sem]
  have hG := Gr.alloc (Gr.refl w) (.cells #[.int .i64 bag] 3)
  have HG := Lib.hid (Try.iAreParcels _ B v ps g hg hl (h.gr hG))
  have hmf : ∀ (fn : Fn) (first cap : Array Value) (w : World), (Instr.makeFunc fn first cap).run Try.prog w = .ok (.func fn first cap) w := fun _ _ _ _ => rfl
  clear hb
  cases hgv : g
  · subst hgv
    obtain ⟨A, c, rfl⟩ := h.sl
    clear h hg hlt
    go_enter Try.func59, Try.ntmps59
    go_wp2_with (first | (go_at_call 18; refine (HG.out).mono ?_; rintro e w1 ⟨rfl, hbW⟩; have hcW := (bcell hbW.below).1; have hfW := (bcell hbW.below).2; (try have hzW : w.heap.size < w1.heap.size := by have hq := hbW.below.size; (try simp at hq); omega); (try have hyW : w.heap.size + 1 < w1.heap.size := by have hq := hbW.below.size; (try simp at hq); omega); (try have hxW : w.heap.size + 2 < w1.heap.size := by have hq := hbW.below.size; (try simp at hq); omega)))
    go_ret
    exact ⟨rfl, by repeat (first | exact Gr.refl _ | refine Gr.alloc ?_ _ | refine Gr.trans ?_ (by assumption) | refine Gr.drew ?_ | refine Gr.drewN ?_ _ | refine Gr.grow ?_ _ | refine Gr.setCell ?_ (by (try simp); (try omega)) _)⟩
  · subst hgv
    have hgo := hg.1 rfl
    have hlen := hgo.1
    rw [Bool.true_and]
    cases h1 : inn bag 1 10000
    · have H1 := Lib.hid h1
      obtain ⟨A, c, rfl⟩ := h.sl
      clear h hg hlt h1
      go_enter Try.func59, Try.ntmps59
      go_wp2_with (first | (go_at_call 18; refine HG.out.mono ?_; rintro e w1 ⟨rfl, g1⟩; have hc1 := g1.keep0 hc) | (go_at_call 52; refine (Try.within _ _ _ _ H1.out _).mono ?_; rintro e w1 ⟨rfl, rfl⟩))
      go_ret
      exact ⟨rfl, by repeat (first | exact Gr.refl _ | refine Gr.alloc ?_ _ | refine Gr.trans ?_ (by assumption) | refine Gr.drew ?_ | refine Gr.drewN ?_ _ | refine Gr.grow ?_ _ | refine Gr.setCell ?_ (by (try simp); (try omega)) _)⟩
    · have H1 := Lib.hid h1
      rw [Bool.true_and]
      have eg : ∀ args w, (callFunc 89 args).run Try.prog w = .ok (.enter 89 args) w := enters_of Try.func89 (by kernel_rfl) rfl
      have hb2 : (!l) = true ↔ ∃ k, k < ps.length ∧ decide (bag < (ps.getD k (0, 0)).2) = true := by
        constructor
        · intro q
          by_cases e : ∃ k, k < ps.length ∧ decide (bag < (ps.getD k (0, 0)).2) = true
          · exact e
          · have : l = true := hlt.2 (fun k hk => by
              rcases Int.lt_or_le bag (ps.getD k (0, 0)).2 with c | c
              · exact absurd ⟨k, hk, decide_eq_true c⟩ e
              · exact c)
            rw [this] at q; cases q
        · rintro ⟨k, hk, q⟩
          have q := of_decide_eq_true q
          cases e : l
          · rfl
          · have := hlt.1 e k hk; omega
      have hrow := h.parRow (by omega) (by omega)
      have HS := Lib.hid (fun W (g : Gr (w.alloc (.cells #[.int .i64 bag] 3)) W) => Try.hasFnP 89 #[.pointer (some ⟨w.heap.size, 0, none⟩)] ps (fun k => decide (bag < (ps.getD k (0, 0)).2)) (!l) hb2 W v (hrow.gr (hG.trans g)) eg (fun W' k g' _ => Try.canCarry1 bag _ _ _ W' (g'.keep0 (g.keep0 hc))))
      obtain ⟨gb, c, rfl, _⟩ := hrow
      clear h hg h1 hb2 eg hgo hlt
      go_enter Try.func59, Try.ntmps59
      go_wp2_with (first | (go_at_call 18; refine HG.out.mono ?_; rintro e w1 ⟨rfl, g1⟩; have hc1 := g1.keep0 hc) | (go_at_call 52; refine (Try.within _ _ _ _ H1.out _).mono ?_; rintro e w1 ⟨rfl, rfl⟩) | (go_at_call 53; refine (HS.out _ g1).mono ?_; rintro e w2 ⟨rfl, g2⟩))
      go_ret
      exact ⟨by simp, (hG.trans g1).trans g2⟩
end Go.Proofs
