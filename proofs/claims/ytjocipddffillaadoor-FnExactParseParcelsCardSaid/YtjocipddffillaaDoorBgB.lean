/-
  Chapter 8: slices.IndexFunc and ContainsFunc over parcels with whatever closure; impl.AreParcels, canCarry; spec.bgAsked.
-/
import Derived.Test.YtjocipddffillaaDoorBgA
namespace Go.Proofs
open Go.RowKit
set_option linter.unusedVariables false
set_option linter.unusedSimpArgs false
/-- a row of parcels that can be read -/
def ParRow (w : World) (v : Value) (ps : List Pi2) : Prop := ∃ g c, v = .slice (some ⟨g, 0, none⟩) ps.length c ∧ ps.length ≤ 1000000 ∧
  ∀ j, j < ps.length → w.cell? ⟨g, j * 2, none⟩ = some (.int .i64 (ps.getD j (0, 0)).1) ∧ w.cell? ⟨g, j * 2 + 1, none⟩ = some (.int .i64 (ps.getD j (0, 0)).2)
theorem ParRow.gr {w w' : World} {v : Value} {ps : List Pi2} (h : ParRow w v ps) (g : Gr w w') : ParRow w' v ps := by
  obtain ⟨a, c, e, h0, h1⟩ := h
  exact ⟨a, c, e, h0, fun j hj => ⟨g.keep0 (h1 j hj).1, g.keep0 (h1 j hj).2⟩⟩
theorem OwnP.parRow {T : TypeId} {w : World} {B : Nat} {v : Value} {ps : List Pi2} (h : OwnP T w B v ps) (h0 : 0 < ps.length) (h1 : ps.length ≤ 1000000) : ParRow w v ps := by
  rcases h.view with ⟨rfl, _⟩ | ⟨_, g, c, rfl, _, _, _, _, hc, _⟩
  · simp at h0
  · exact ⟨g, c, rfl, h1, hc⟩
def IRelB (p : Nat → Bool) (n : Nat) (w : World) (i : Value) (wr : World) : Prop := Gr w wr ∧ ∃ k : Nat, k ≤ n ∧ i = .int .i64 k ∧ ∀ j, j < k → p j = false
set_option maxRecDepth 100000 in
set_option maxHeartbeats 800000 in
/-- slices.IndexFunc with a closure that answers p k at the parcel k: the first k where p is true, or -1. -/
theorem Tryd.idxFnP (g : Nat) (cb : Array Value) (ps : List Pi2) (p : Nat → Bool) (r : Int) (hr : (r = -1 ∧ ∀ k, k < ps.length → p k = false) ∨ ∃ k, k < ps.length ∧ r = k ∧ p k = true ∧ ∀ j, j < k → p j = false) (w : World) (v : Value) (h : ParRow w v ps)
    (eg : ∀ args w, (callFunc g args).run Tryd.prog w = .ok (.enter g args) w)
    (hf : ∀ (W : World) (k : Nat), Gr w W → k < ps.length → Calls Tryd.prog g (#[.agg #[.int .i64 (ps.getD k (0, 0)).1, .int .i64 (ps.getD k (0, 0)).2]] ++ cb) W fun e w' => e = .returned (.bool (p k)) ∧ Gr W w') :
    Calls Tryd.prog 39 #[v, .func (.func g) #[] cb] w fun e w' => e = .returned (.int .i64 r) ∧ Gr w w' := by
  obtain ⟨gb, c, rfl, hlen, hc⟩ := h
  have HC := Lib.hid hc
  have HF := Lib.hid hf
  have HR := Lib.hid hr
  clear hc hf hr
  go_enter Tryd.func39, Tryd.ntmps39
  go_wp2
  go_loopw [5, 8] (fun _ i wr => IRelB p ps.length w i wr) (fun _ i _ => (ps.length - intOf i).toNat)
  case atStart => exact ⟨by repeat (first | exact Gr.refl _ | refine Gr.alloc ?_ _ | refine Gr.trans ?_ (by assumption) | refine Gr.drew ?_ | refine Gr.drewN ?_ _ | refine Gr.grow ?_ _ | refine Gr.setCell ?_ (by (try simp); (try omega)) _), 0, Nat.zero_le _, rfl, fun j hj => absurd hj (Nat.not_lt_zero _)⟩
  case round =>
    obtain ⟨gr, k, hk, rfl, hall⟩ := hrel
    by_cases hlt : k < ps.length
    · have e0 := gr.keep0 (HC.out k hlt).1
      have e1 := gr.keep0 (HC.out k hlt).2
      have z0 : (0 : Int) ≤ (k : Int) := by omega
      have z1 : (k : Int) < (ps.length : Int) := by omega
      have HK := Lib.hid (HF.out wr k gr hlt)
      have GR := Lib.hid gr
      have HA := Lib.hid hall
      clear gr hall
      generalize (ps.getD k (0, 0)).1 = p0 at *
      generalize (ps.getD k (0, 0)).2 = p1 at *
      cases hp : p k
      · have HS := Lib.hid (all_snoc HA.out (show (fun j => p j = false) k from hp))
        rw [hp] at HK
        clear hp
        go_wp2_with (go_at_fn g; refine HK.out.mono ?_; rintro e w2 ⟨rfl, g2⟩)
        go_roundw
        case rel => exact ⟨GR.out.trans g2, k + 1, by omega, by go_num, HS.out⟩
        case measure => simp [intOf]; omega
      · obtain rfl : r = k := by
          rcases HR.out with ⟨_, q⟩ | ⟨m, hm, q, q1, q2⟩
          · have := q k hlt; rw [hp] at this; cases this
          · rcases Nat.lt_trichotomy m k with c | c | c
            · have := HA.out m c; rw [q1] at this; cases this
            · rw [q, c]
            · have := q2 k c; rw [hp] at this; cases this
        rw [hp] at HK
        clear hp
        go_wp2_with (go_at_fn g; refine HK.out.mono ?_; rintro e w2 ⟨rfl, g2⟩)
        go_ret
        exact ⟨rfl, GR.out.trans g2⟩
    · obtain rfl : k = ps.length := by omega
      obtain rfl : r = -1 := by
        rcases HR.out with ⟨q, _⟩ | ⟨m, hm, q, q1, q2⟩
        · exact q
        · have := hall m hm; rw [q1] at this; cases this
      have GR := Lib.hid gr
      clear gr hall
      go_wp2
      go_ret
      exact ⟨rfl, GR.out⟩
theorem fst_ex (p : Nat → Bool) (n : Nat) : ∃ r : Int, ((r = -1 ∧ ∀ k, k < n → p k = false) ∨ ∃ k, k < n ∧ r = k ∧ p k = true ∧ ∀ j, j < k → p j = false) := by
  induction n with
  | zero => exact ⟨-1, .inl ⟨rfl, fun k hk => absurd hk (Nat.not_lt_zero _)⟩⟩
  | succ n ih =>
    obtain ⟨r, h | ⟨k, hk, e, a, b⟩⟩ := ih
    · cases hp : p n
      · exact ⟨-1, .inl ⟨rfl, all_snoc h.2 hp⟩⟩
      · exact ⟨n, .inr ⟨n, by omega, rfl, hp, h.2⟩⟩
    · exact ⟨r, .inr ⟨k, by omega, e, a, b⟩⟩
set_option maxHeartbeats 800000 in
/-- slices.ContainsFunc with such a closure -/
theorem Tryd.hasFnP (g : Nat) (cb : Array Value) (ps : List Pi2) (p : Nat → Bool) (b : Bool) (hb : b = true ↔ ∃ k, k < ps.length ∧ p k = true) (w : World) (v : Value) (h : ParRow w v ps)
    (eg : ∀ args w, (callFunc g args).run Tryd.prog w = .ok (.enter g args) w)
    (hf : ∀ (W : World) (k : Nat), Gr w W → k < ps.length → Calls Tryd.prog g (#[.agg #[.int .i64 (ps.getD k (0, 0)).1, .int .i64 (ps.getD k (0, 0)).2]] ++ cb) W fun e w' => e = .returned (.bool (p k)) ∧ Gr W w') :
    Calls Tryd.prog 29 #[v, .func (.func g) #[] cb] w fun e w' => e = .returned (.bool b) ∧ Gr w w' := by
  obtain ⟨r, hr⟩ := fst_ex p ps.length
  have HS := Lib.hid (Tryd.idxFnP g cb ps p r hr w v h eg hf)
  have HV := Lib.hid (show decide ((0 : Int) ≤ r) = b by
    rcases hr with ⟨rfl, q⟩ | ⟨k, hk, rfl, q, _⟩
    · rw [show b = false from not_trueG hb (fun ⟨k, hk, e⟩ => by rw [q k hk] at e; cases e)]; rfl
    · rw [hb.2 ⟨k, hk, q⟩]; simp)
  obtain ⟨gb, c, rfl, _⟩ := h
  clear hr hb hf eg
  go_enter Tryd.func29, Tryd.ntmps29
  go_wp2_with (go_at_call 39; refine HS.out.mono ?_; rintro e w1 ⟨rfl, g1⟩)
  go_ret
  exact ⟨by rw [← HV.out]; rfl, by repeat (first | exact Gr.refl _ | refine Gr.alloc ?_ _ | refine Gr.trans ?_ (by assumption) | refine Gr.drew ?_ | refine Gr.drewN ?_ _ | refine Gr.grow ?_ _ | refine Gr.setCell ?_ (by (try simp); (try omega)) _)⟩
def badB (p0 p1 : Int) : Bool := !(inn p0 1 100) || !(inn p1 1 1000)
theorem badB_f {p : Pi2} (h : badB p.1 p.2 = false) : ParB p := by
  unfold badB at h
  rw [Bool.or_eq_false_iff, Bool.not_eq_false', Bool.not_eq_false'] at h
  exact ⟨inn_e h.1, inn_e h.2⟩
set_option maxHeartbeats 800000 in
theorem Tryd.iAreParcels1 (p0 p1 : Int) (w : World) :
    Calls Tryd.prog 30 (#[.agg #[.int .i64 p0, .int .i64 p1]] ++ #[]) w fun e w' => e = .returned (.bool (badB p0 p1)) ∧ Gr w w' := by
  unfold badB
  cases hn : inn p0 1 100
  all_goals
    have H := Lib.hid hn
    clear hn
    go_enter Tryd.func30, Tryd.ntmps30
    go_wp2_with (first | (go_at_call_of 28 (Value.int .i64 p0); refine (Tryd.within _ _ _ _ H.out _).mono ?_; rintro e w1 ⟨rfl, rfl⟩) | (go_at_call_of 28 (Value.int .i64 p1); refine (Tryd.within _ _ _ _ rfl _).mono ?_; rintro e w1 ⟨rfl, rfl⟩))
    go_ret
    exact ⟨by cases inn p1 1 1000 <;> rfl, by repeat (first | exact Gr.refl _ | refine Gr.alloc ?_ _ | refine Gr.trans ?_ (by assumption) | refine Gr.drew ?_ | refine Gr.drewN ?_ _ | refine Gr.grow ?_ _ | refine Gr.setCell ?_ (by (try simp); (try omega)) _)⟩
set_option maxHeartbeats 800000 in
theorem Tryd.iAreParcels (w : World) (B : Nat) (v : Value) (ps : List Pi2) (b : Bool) (hb : b = true ↔ GoodB ps) (hl : ps.length ≤ 1048576) (h : OwnP 37 w B v ps) :
    Calls Tryd.prog 17 #[v] w fun e w' => e = .returned (.bool b) ∧ Gr w w' := by
  cases h1 : inn (ps.length : Int) 1 8
  · have HF := Lib.hid (not_trueG hb (fun q => by have := q.1; have := of_decide_eq_false h1; omega))
    have H1 := Lib.hid h1
    obtain ⟨A, c, rfl⟩ : ∃ A c, v = .slice A ps.length c := by
      rcases h.view with ⟨rfl, A, c, rfl⟩ | ⟨_, g, c, rfl, _⟩
      · exact ⟨A, c, rfl⟩
      · exact ⟨_, c, rfl⟩
    clear h hb hl h1
    go_enter Tryd.func17, Tryd.ntmps17
    go_wp2_with (first | (go_at_call 28; refine (Tryd.within _ _ _ _ H1.out _).mono ?_; rintro e w1 ⟨rfl, rfl⟩))
    go_ret
    exact ⟨by rw [HF.out]; rfl, by repeat (first | exact Gr.refl _ | refine Gr.alloc ?_ _ | refine Gr.trans ?_ (by assumption) | refine Gr.drew ?_ | refine Gr.drewN ?_ _ | refine Gr.grow ?_ _ | refine Gr.setCell ?_ (by (try simp); (try omega)) _)⟩
  · have hl1 := inn_e h1
    have H1 := Lib.hid h1
    have hrow := h.parRow (by omega) (by omega)
    have eg : ∀ args w, (callFunc 30 args).run Tryd.prog w = .ok (.enter 30 args) w := enters_of Tryd.func30 (by kernel_rfl) rfl
    have hb2 : (!b) = true ↔ ∃ k, k < ps.length ∧ badB (ps.getD k (0, 0)).1 (ps.getD k (0, 0)).2 = true := by
      constructor
      · intro q
        by_cases e : ∃ k, k < ps.length ∧ badB (ps.getD k (0, 0)).1 (ps.getD k (0, 0)).2 = true
        · exact e
        · have : b = true := hb.2 ⟨by omega, fun k hk => by
            exact badB_f (by
              cases c : badB (ps.getD k (0, 0)).1 (ps.getD k (0, 0)).2
              · rfl
              · exact absurd ⟨k, hk, c⟩ e)⟩
          rw [this] at q; cases q
      · rintro ⟨k, hk, q⟩
        cases e : b
        · rfl
        · obtain ⟨a1, a2⟩ := (hb.1 e).2 k hk
          unfold badB at q
          rw [inn_t a1.1 a1.2, inn_t a2.1 a2.2] at q
          cases q
    have HS := Lib.hid (Tryd.hasFnP 30 #[] ps (fun k => badB (ps.getD k (0, 0)).1 (ps.getD k (0, 0)).2) (!b) hb2 w v hrow eg (fun W k _ _ => Tryd.iAreParcels1 _ _ W))
    obtain ⟨gb, c, rfl, _⟩ := hrow
    clear h hb hl h1 hb2 eg
    go_enter Tryd.func17, Tryd.ntmps17
    go_wp2_with (first | (go_at_call 28; refine (Tryd.within _ _ _ _ H1.out _).mono ?_; rintro e w1 ⟨rfl, rfl⟩) | (go_at_call 29; refine HS.out.mono ?_; rintro e w1 ⟨rfl, g1⟩))
    go_ret
    exact ⟨by simp, by repeat (first | exact Gr.refl _ | refine Gr.alloc ?_ _ | refine Gr.trans ?_ (by assumption) | refine Gr.drew ?_ | refine Gr.drewN ?_ _ | refine Gr.grow ?_ _ | refine Gr.setCell ?_ (by (try simp); (try omega)) _)⟩
end Go.Proofs
