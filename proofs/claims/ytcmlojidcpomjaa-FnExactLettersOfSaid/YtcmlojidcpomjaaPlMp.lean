/-
  Contracts of chapter 2: the map from plates to their indices; the place of a plate, both sides.
-/
import Derived.Test.YtcmlojidcpomjaaPlP
import Derived.Maps.OwnOps
import Derived.Maps.OwnSet
import Derived.Maps.Views
import Derived.DeepKeys4
import Derived.MapViews
import Derived.Deep.DeepCutAuto
import Derived.Deep.RegionHeld3
namespace Go.Proofs
open Go.RowKit Pl Go.Maps
set_option linter.unusedVariables false
set_option linter.unusedSimpArgs false
theorem Try.kLaid : laidOutB Try.prog = true := by kernel_rfl
theorem Try.kRow : (78 : TypeId) < Try.prog.types.size := of_decide_eq_true (by kernel_rfl)
theorem Try.kWide : (match Try.prog.underlying 78 with | some (.array _ _) | some (.struct _) => true | _ => false) = true := by rw [Try.underlying78]
set_option maxRecDepth 100000 in
theorem Try.kLaw : Keyed Try.prog 78 := Keyed.of_law (deep_law_laid Try.kLaid (m := 2) (by omega) Try.kRow (by kernel_rfl) Try.kWide)
/-- what a plate's key reads as -/
def klp (p : Pi2) : Lit := .string (keyBytes [.int .i64 p.1, .int .i64 p.2])
def keyV (p : Pi2) : Value := .agg #[.int .i64 p.1, .int .i64 p.2]
def wfP (p : Pi2) : Prop := (Lit.int .i64 p.1).wf = true ∧ (Lit.int .i64 p.2).wf = true
theorem wfP_of {p : Pi2} (h : IsP p) : wfP p := by unfold IsP at h; exact ⟨WalkArith.wf_i64 (by omega), WalkArith.wf_i64 (by omega)⟩
set_option maxRecDepth 100000 in
theorem Try.keyOfP (p : Pi2) (h : wfP p) : keyOf Try.prog 78 (keyV p) = some (klp p) := by
  obtain ⟨h1, h2⟩ := h
  have hk : Try.prog.keyType 78 = true := by kernel_rfl
  have hc : Try.prog.cellsOf 78 = 2 := by kernel_rfl
  have hc3 : Try.prog.cellsOf 3 = 1 := by kernel_rfl
  have hs : ∃ n, Try.prog.types.size = n + 1 := ⟨_, (Nat.succ_pred_eq_of_pos (Nat.lt_of_le_of_lt (Nat.zero_le _) Try.kRow)).symm⟩
  obtain ⟨n, hn⟩ := hs
  have e : List.range 2 = [0, 1] := rfl
  unfold keyOf keyV klp
  rw [Try.underlying78, hk, hn]
  simp [Value.formed, Program.keyLits, Try.underlying78, Try.underlying3, hc, hc3, Value.cells, e, h1, h2]
theorem Try.klp_inj {p q : Pi2} (hp : wfP p) (hq : wfP q) (h : klp p = klp q) : p = q := by
  have := Try.kLaw.inj (Try.keyOfP p hp) (h ▸ Try.keyOfP q hq)
  unfold keyV at this
  simp at this
  exact Prod.ext this.1 this.2
def idxD (ps : List Pi2) : Nat → DataW Unit
  | 0 => .map []
  | k + 1 => (idxD ps k).put (klp (ps.getD k (0, 0))) (.lit (.int .i64 k))
theorem idxD_map (ps : List Pi2) (k : Nat) : IsMap (idxD ps k) := by
  induction k with
  | zero => exact isMap_empty
  | succ k ih => exact ih.put _ _
theorem Try.idxD_has (ps : List Pi2) (hi : ∀ q ∈ ps, IsP q) (p : Pi2) (hp : IsP p) (k : Nat) (hk : k ≤ ps.length) : Maps.has (idxD ps k) (klp p) = true ↔ ∃ j, j < k ∧ ps.getD j (0, 0) = p := by
  induction k with
  | zero =>
    constructor
    · intro h; cases h
    · rintro ⟨j, hj, _⟩; omega
  | succ k ih =>
    have hq : IsP (ps.getD k (0, 0)) := by rw [getD_eq _ _ (by omega)]; exact hi _ (List.getElem_mem _)
    simp only [idxD]
    by_cases e : p = ps.getD k (0, 0)
    · rw [e, has_put_same (idxD_map ps k) (show WideAt.IsKeyLit (klp _) from trivial)]
      exact ⟨fun _ => ⟨k, by omega, rfl⟩, fun _ => rfl⟩
    · rw [has_put_other (fun h => e (Try.klp_inj (wfP_of hp) (wfP_of hq) h))]
      rw [ih (by omega)]
      constructor
      · rintro ⟨j, hj, h⟩; exact ⟨j, by omega, h⟩
      · rintro ⟨j, hj, h⟩
        refine ⟨j, ?_, h⟩
        rcases Nat.lt_or_eq_of_le (Nat.le_of_lt_succ hj) with c | c
        · exact c
        · subst c; exact absurd h.symm e
theorem Try.idxD_at (ps : List Pi2) (hi : ∀ q ∈ ps, IsP q) (hu : Up ps) (j k : Nat) (hj : j < k) (hk : k ≤ ps.length) (z : DataW Unit) : (idxD ps k).atKey (klp (ps.getD j (0, 0))) z = .lit (.int .i64 j) := by
  induction k with
  | zero => omega
  | succ k ih =>
    simp only [idxD]
    rcases Nat.lt_or_eq_of_le (Nat.le_of_lt_succ hj) with c | c
    · have hq : IsP (ps.getD k (0, 0)) := by rw [getD_eq _ _ (by omega)]; exact hi _ (List.getElem_mem _)
      have hp : IsP (ps.getD j (0, 0)) := by rw [getD_eq _ _ (by omega)]; exact hi _ (List.getElem_mem _)
      have hlt : rk (ps.getD j (0, 0)) < rk (ps.getD k (0, 0)) := by
        rw [getD_eq _ _ (by omega), getD_eq _ _ (by omega)]
        exact (List.pairwise_iff_getElem.1 hu) j k (by omega) (by omega) c
      rw [atKey_put_other (fun h => by have := Try.klp_inj (wfP_of hp) (wfP_of hq) h; rw [this] at hlt; omega)]
      exact ih c (by omega)
    · subst c
      exact atKey_put_same (idxD_map ps j) (show WideAt.IsKeyLit (klp _) from trivial) _ _
def ppB (ps : List Pi2) (p : Pi2) : Bool := okB ps && isP p.1 p.2 && decide (Has ps p)
def ppV (ps : List Pi2) (p : Pi2) : Int := if ppB ps p then plc ps p else 0
/-- what the look-up finds -/
theorem Try.idx_has {ps : List Pi2} (h : Ok ps) {p : Pi2} (hp : IsP p) : Maps.has (idxD ps ps.length) (klp p) = decide (Has ps p) := by
  have := Try.idxD_has ps h.2.2.1 p hp ps.length (Nat.le_refl _)
  rw [Bool.eq_iff_iff, this, decide_eq_true_iff]
  constructor
  · rintro ⟨j, hj, e⟩
    exact mem_has h.2.2.2 h.2.2.1 (e ▸ by rw [getD_eq _ _ hj]; exact List.getElem_mem _)
  · intro hh; exact ⟨_, hh.1, hh.2⟩
theorem Try.idx_at {ps : List Pi2} (h : Ok ps) {p : Pi2} (hp : IsP p) {c : Int} (hc : (idxD ps ps.length).atKey (klp p) (.lit (.int .i64 0)) = .lit (.int .i64 c)) : c = if Has ps p then (plc ps p : Int) else 0 := by
  have e := Try.idx_has h hp
  split
  · rename_i hh
    have := Try.idxD_at ps h.2.2.1 h.2.2.2 (plc ps p) ps.length hh.1 (Nat.le_refl _) (.lit (.int .i64 0))
    rw [hh.2, hc] at this
    simpa using this
  · rename_i hh
    rw [decide_eq_false hh] at e
    rw [atKey_of_not_has e] at hc
    simpa using hc.symm
theorem Try.zeroInt (w : World) : (zeroValue 3).run Try.prog w = .ok (.int .i64 0) w := by kernel_rfl
set_option maxHeartbeats 400000 in
theorem Try.keyOfPlate (x y : Int) (w : World) :
    Calls Try.prog 60 #[.agg #[.int .i64 x, .int .i64 y]] w fun e w' => e = .returned (keyV (x, y)) ∧ Gr w w' := by
  go_enter Try.func60, Try.ntmps60
  go_wp2
  exact bodyPost_ret (v := keyV (x, y)) (by simp [results, Try.results60, go_sem, keyV]) rfl ⟨rfl, by repeat (first | exact Gr.refl _ | refine Gr.alloc ?_ _ | refine Gr.trans ?_ (by assumption) | refine Gr.drew ?_ | refine Gr.drewN ?_ _ | refine Gr.grow ?_ _ | refine Gr.setCell ?_ (by (try simp); (try omega)) _)⟩
theorem ownsMap_gr {H : Type} {P : Program} {k : TypeId} {R : Value → Option (DataW H × List MemPlace)} {b n : Nat} {D : DataW H} {w w' : World} (h : w.ownsMap P k R b n D) (g : Gr w w') : w'.ownsMap P k R b n D :=
  h.kept ⟨g.below.os, g.below.tape, g.below.output, g.below.size, fun k hk _ => g.below.block k hk⟩ (row := none) (by simp)
theorem lookup_all {H : Type} {P : Program} {w : World} {t k e : TypeId} {q : IntKind} (law : Keyed P k) (ht : P.underlying t = some (.map k e)) (he : P.underlying e = some (.int q)) (hz : ∀ w, (zeroValue e).run P w = .ok (.int q 0) w) {b n : Nat} {D : DataW H}
    (hown : w.ownsMap P k (plainElem P e) b n D) {key : Value} {kl : Lit} (hkey : keyOf P k key = some kl) :
    ∃ c : Int, D.atKey kl (.lit (.int q 0)) = .lit (.int q c) ∧ ∀ W, Gr w W → (Instr.lookup t (.map (some b)) key true).run P W = .ok (.tuple #[.int q c, .bool (Maps.has D kl)]) W := by
  obtain ⟨v, ps, hrun, hv⟩ := hown.look_ok law ht (hz w) (plainElem_int he (by cases q <;> decide)) hkey
  obtain ⟨c, rfl, hc, hwc⟩ := plainElem_int_inv he hv
  refine ⟨c, congrArg Prod.fst hc, fun W g => ?_⟩
  obtain ⟨v2, ps2, hrun2, hv2⟩ := (ownsMap_gr hown g).look_ok law ht (hz W) (plainElem_int he (by cases q <;> decide)) hkey
  obtain ⟨c2, rfl, hc2, hwc2⟩ := plainElem_int_inv he hv2
  have e1 := congrArg Prod.fst hc
  have e2 := congrArg Prod.fst hc2
  simp only at e1 e2
  rw [e1] at e2
  cases e2
  exact hrun2
theorem run_makeMapH {P : Program} (t k e : TypeId) (ht : P.underlying t = some (.map k e)) (n : Int) (w : World) : (Instr.makeMap t (some (.int .i64 n))).run P w = .ok (.map (some w.heap.size)) (w.alloc (.map #[] 0)) := by
  simp [Instr.makeMap, Sem.run_bind, run_underlying ht, asInt]
  rfl
def Try.MpRel (ps : List Pi2) (W : World) (B b : Nat) (i : Value) (wr : World) : Prop := Below B W wr ∧ ∃ k : Nat, k ≤ ps.length ∧ i = .int .i64 k ∧ wr.ownsMap Try.prog 78 (plainElem Try.prog 3) b k (idxD ps k)
set_option maxRecDepth 100000 in
set_option maxHeartbeats 1600000 in
theorem Try.indicesOfPlates (w : World) (B : Nat) (v : Value) (ps : List Pi2) (hok : Ok ps) (h : OwnP 44 w B v ps) :
    Calls Try.prog 59 #[v] w fun e w' => ∃ b, e = .returned (.map (some b)) ∧ w'.ownsMap Try.prog 78 (plainElem Try.prog 3) b ps.length (idxD ps ps.length) ∧ Below w.heap.size w w' := by
  have mixed : Try.prog.follows .mixedOrders = true := by kernel_rfl
  have h60 := hok.2.1
  have hmm := run_makeMapH (P := Try.prog) 75 78 3 Try.underlying75
  have HI := Lib.hid hok.2.2.1
  rcases h.view with ⟨hz, _⟩ | ⟨_, g, c, rfl, _, g2, _, _, hc, _⟩
  · have := hok.1; subst hz; simp at this
  · have HC := Lib.hid hc
    clear h hc hok
    go_enter Try.func59, Try.ntmps59
    go_wp2
    go_loopw [4, 5, 11] (fun _ _ i wr => Try.MpRel ps w w.heap.size w.heap.size i wr) (fun _ _ i _ => (ps.length - intOf i).toNat)
    case atStart => exact ⟨Gr.below (by repeat (first | exact Gr.refl _ | refine Gr.alloc ?_ _ | refine Gr.trans ?_ (by assumption) | refine Gr.drew ?_ | refine Gr.drewN ?_ _ | refine Gr.grow ?_ _ | refine Gr.setCell ?_ (by (try simp); (try omega)) _)), 0, Nat.zero_le _, rfl, World.ownsMap_made _ _ _ _⟩
    case round =>
      obtain ⟨hbl, k, hk, rfl, hown⟩ := hrel
      by_cases hlt : k < ps.length
      · rcases hq : ps.getD k (0, 0) with ⟨q0, q1⟩
        have e0 := cell_k2 hbl (HC.out k hlt).1
        have e1 := cell_k2 hbl (HC.out k hlt).2
        rw [hq] at e0 e1
        simp only at e0 e1
        have z0 : (0 : Int) ≤ (k : Int) := by omega
        have z1 : (k : Int) < (ps.length : Int) := by omega
        have hwf := wfP_of (at_isP HI.out hlt hq)
        have HKY := Lib.hid (Try.keyOfP (q0, q1) hwf)
        have HS := Lib.hid (show idxD ps (k + 1) = (idxD ps k).put (klp (q0, q1)) (.lit (.int .i64 k)) by simp only [idxD]; rw [hq])
        have HBL := Lib.hid hbl
        have HOW := Lib.hid hown
        clear hbl hown hq hwf
        go_wp2_with (first | (go_at_call 60; refine (Try.keyOfPlate _ _ _).mono ?_; rintro e w4 ⟨rfl, hx4⟩) | (at_mapUpdate; (refine wpList_mapUpdate_own _ rfl _ _ _ 75 rfl 78 3 Try.kLaw Try.underlying75 _ w.heap.size k _ rfl (ownsMap_gr HOW.out (by repeat (first | exact Gr.refl _ | refine Gr.alloc ?_ _ | refine Gr.trans ?_ (by assumption) | refine Gr.drew ?_ | refine Gr.drewN ?_ _ | refine Gr.grow ?_ _ | refine Gr.setCell ?_ (by (try simp); (try omega)) _))) (by unfold maxLen; omega) _ _ _ rfl rfl HKY.out (.lit (.int .i64 k)) [] (plainElem_int Try.underlying3 (WalkArith.wf_i64 (by omega))) ?_); intro w5 hown5 hgr5))
        have hb4 : Below w.heap.size w w4 := HBL.out.trans (Gr.below (by repeat (first | exact Gr.refl _ | refine Gr.alloc ?_ _ | refine Gr.trans ?_ (by assumption) | refine Gr.drew ?_ | refine Gr.drewN ?_ _ | refine Gr.grow ?_ _ | refine Gr.setCell ?_ (by (try simp); (try omega)) _)) |>.mono HBL.out.size)
        exact ⟨⟨hb4.grown hgr5 hb4.size (fun j hj => by cases hj; exact Nat.le_refl _), k + 1, by omega, by go_num, HS.out ▸ hown5⟩, by simp [intOf]; omega⟩
      · obtain rfl : k = ps.length := by omega
        have HBL := Lib.hid hbl
        have HOW := Lib.hid hown
        clear hbl hown
        go_wp2
        go_ret
        exact ⟨_, rfl, HOW.out, HBL.out⟩
set_option maxRecDepth 100000 in
set_option maxHeartbeats 1600000 in
theorem Try.sPlaceOfPlate (w : World) (B : Nat) (v : Value) (ps : List Pi2) (p0 p1 : Int) (hl : ps.length ≤ 1048576) (h : OwnP 44 w B v ps) :
    Calls Try.prog 23 #[v, .agg #[.int .i64 p0, .int .i64 p1]] w fun e w' => e = .returned (.tuple #[.int .i64 (ppV ps (p0, p1)), .bool (ppB ps (p0, p1))]) ∧ Below w.heap.size w w' := by
  cases hg : okB ps
  · have hB : ppB ps (p0, p1) = false := by simp [ppB, hg]
    have HA := Lib.hid (fun (W : World) (k : Gr w W) => Try.isGood W B v ps false (okB_i ps _ hg) hl (h.gr k))
    rw [show ppV ps (p0, p1) = 0 by simp [ppV, hB], hB]
    obtain ⟨A, c, rfl, h⟩ := h.eta
    clear h hg hB
    go_enter Try.func23, Try.ntmps23
    go_wp2_with (first | (go_at_call 54; refine (HA.out _ (by repeat (first | exact Gr.refl _ | refine Gr.alloc ?_ _ | refine Gr.trans ?_ (by assumption) | refine Gr.drew ?_ | refine Gr.drewN ?_ _ | refine Gr.grow ?_ _ | refine Gr.setCell ?_ (by (try simp); (try omega)) _))).mono ?_; rintro e w1 ⟨rfl, hbW⟩; have hcW := (bcell hbW.below).1; have hfW := (bcell hbW.below).2; (try have hzW : w.heap.size < w1.heap.size := by have hq := hbW.below.size; (try simp at hq); omega); (try have hyW : w.heap.size + 1 < w1.heap.size := by have hq := hbW.below.size; (try simp at hq); omega); (try have hxW : w.heap.size + 2 < w1.heap.size := by have hq := hbW.below.size; (try simp at hq); omega)))
    go_ret2
    exact ⟨rfl, Gr.below (by repeat (first | exact Gr.refl _ | refine Gr.alloc ?_ _ | refine Gr.trans ?_ (by assumption) | refine Gr.drew ?_ | refine Gr.drewN ?_ _ | refine Gr.grow ?_ _ | refine Gr.setCell ?_ (by (try simp); (try omega)) _))⟩
  · have HA := Lib.hid (fun (W : World) (k : Gr w W) => Try.isGood W B v ps true (okB_i ps _ hg) hl (h.gr k))
    cases hp : isP p0 p1
    · have hB : ppB ps (p0, p1) = false := by simp [ppB, hp]
      have HP := Lib.hid hp
      rw [show ppV ps (p0, p1) = 0 by simp [ppV, hB], hB]
      obtain ⟨A, c, rfl, h⟩ := h.eta
      clear h hg hB hp
      go_enter Try.func23, Try.ntmps23
      go_wp2_with (first | (go_at_call 54; refine (HA.out _ (by repeat (first | exact Gr.refl _ | refine Gr.alloc ?_ _ | refine Gr.trans ?_ (by assumption) | refine Gr.drew ?_ | refine Gr.drewN ?_ _ | refine Gr.grow ?_ _ | refine Gr.setCell ?_ (by (try simp); (try omega)) _))).mono ?_; rintro e w1 ⟨rfl, hbW⟩; have hcW := (bcell hbW.below).1; have hfW := (bcell hbW.below).2; (try have hzW : w.heap.size < w1.heap.size := by have hq := hbW.below.size; (try simp at hq); omega); (try have hyW : w.heap.size + 1 < w1.heap.size := by have hq := hbW.below.size; (try simp at hq); omega); (try have hxW : w.heap.size + 2 < w1.heap.size := by have hq := hbW.below.size; (try simp at hq); omega)) | (go_at_call 55; refine (Try.isPlate _ _ _ HP.out _).mono ?_; rintro e w1 ⟨rfl, hbW⟩; have hcW := (bcell hbW.below).1; have hfW := (bcell hbW.below).2; (try have hzW : w.heap.size < w1.heap.size := by have hq := hbW.below.size; (try simp at hq); omega); (try have hyW : w.heap.size + 1 < w1.heap.size := by have hq := hbW.below.size; (try simp at hq); omega); (try have hxW : w.heap.size + 2 < w1.heap.size := by have hq := hbW.below.size; (try simp at hq); omega)))
      go_ret2
      exact ⟨rfl, Gr.below (by repeat (first | exact Gr.refl _ | refine Gr.alloc ?_ _ | refine Gr.trans ?_ (by assumption) | refine Gr.drew ?_ | refine Gr.drewN ?_ _ | refine Gr.grow ?_ _ | refine Gr.setCell ?_ (by (try simp); (try omega)) _))⟩
    · have HP := Lib.hid hp
      have hok := (okB_iff ps).1 hg
      have hpl := fun (W : World) (g : Gr w W) => Try.isPlace W B v ps p0 p1 hok.2.2.1 hp hl (h.gr g)
      have hB : ppB ps (p0, p1) = decide (Has ps (p0, p1)) := by simp [ppB, hg, hp]
      by_cases hh : Has ps (p0, p1)
      · rw [decide_eq_true hh] at hpl hB
        rw [show ppV ps (p0, p1) = plc ps (p0, p1) by simp [ppV, hB], hB]
        have HI := Lib.hid hpl
        generalize plc ps (p0, p1) = k at *
        obtain ⟨A, c, rfl, h⟩ := h.eta
        clear h hg hp hok hB hh hpl
        go_enter Try.func23, Try.ntmps23
        go_wp2_with (first | (go_at_call 54; refine (HA.out _ (by repeat (first | exact Gr.refl _ | refine Gr.alloc ?_ _ | refine Gr.trans ?_ (by assumption) | refine Gr.drew ?_ | refine Gr.drewN ?_ _ | refine Gr.grow ?_ _ | refine Gr.setCell ?_ (by (try simp); (try omega)) _))).mono ?_; rintro e w1 ⟨rfl, hbW⟩; have hcW := (bcell hbW.below).1; have hfW := (bcell hbW.below).2; (try have hzW : w.heap.size < w1.heap.size := by have hq := hbW.below.size; (try simp at hq); omega); (try have hyW : w.heap.size + 1 < w1.heap.size := by have hq := hbW.below.size; (try simp at hq); omega); (try have hxW : w.heap.size + 2 < w1.heap.size := by have hq := hbW.below.size; (try simp at hq); omega)) | (go_at_call 55; refine (Try.isPlate _ _ _ HP.out _).mono ?_; rintro e w1 ⟨rfl, hbW⟩; have hcW := (bcell hbW.below).1; have hfW := (bcell hbW.below).2; (try have hzW : w.heap.size < w1.heap.size := by have hq := hbW.below.size; (try simp at hq); omega); (try have hyW : w.heap.size + 1 < w1.heap.size := by have hq := hbW.below.size; (try simp at hq); omega); (try have hxW : w.heap.size + 2 < w1.heap.size := by have hq := hbW.below.size; (try simp at hq); omega)) | (go_at_call 56; refine (HI.out _ (by repeat (first | exact Gr.refl _ | refine Gr.alloc ?_ _ | refine Gr.trans ?_ (by assumption) | refine Gr.drew ?_ | refine Gr.drewN ?_ _ | refine Gr.grow ?_ _ | refine Gr.setCell ?_ (by (try simp); (try omega)) _))).mono ?_; rintro e w1 ⟨rfl, hbW⟩; have hcW := (bcell hbW.below).1; have hfW := (bcell hbW.below).2; (try have hzW : w.heap.size < w1.heap.size := by have hq := hbW.below.size; (try simp at hq); omega); (try have hyW : w.heap.size + 1 < w1.heap.size := by have hq := hbW.below.size; (try simp at hq); omega); (try have hxW : w.heap.size + 2 < w1.heap.size := by have hq := hbW.below.size; (try simp at hq); omega)))
        go_ret2
        exact ⟨rfl, Gr.below (by repeat (first | exact Gr.refl _ | refine Gr.alloc ?_ _ | refine Gr.trans ?_ (by assumption) | refine Gr.drew ?_ | refine Gr.drewN ?_ _ | refine Gr.grow ?_ _ | refine Gr.setCell ?_ (by (try simp); (try omega)) _))⟩
      · rw [decide_eq_false hh] at hpl hB
        rw [show ppV ps (p0, p1) = 0 by simp [ppV, hB], hB]
        have HI := Lib.hid hpl
        generalize plc ps (p0, p1) = k at *
        obtain ⟨A, c, rfl, h⟩ := h.eta
        clear h hg hp hok hB hh hpl
        go_enter Try.func23, Try.ntmps23
        go_wp2_with (first | (go_at_call 54; refine (HA.out _ (by repeat (first | exact Gr.refl _ | refine Gr.alloc ?_ _ | refine Gr.trans ?_ (by assumption) | refine Gr.drew ?_ | refine Gr.drewN ?_ _ | refine Gr.grow ?_ _ | refine Gr.setCell ?_ (by (try simp); (try omega)) _))).mono ?_; rintro e w1 ⟨rfl, hbW⟩; have hcW := (bcell hbW.below).1; have hfW := (bcell hbW.below).2; (try have hzW : w.heap.size < w1.heap.size := by have hq := hbW.below.size; (try simp at hq); omega); (try have hyW : w.heap.size + 1 < w1.heap.size := by have hq := hbW.below.size; (try simp at hq); omega); (try have hxW : w.heap.size + 2 < w1.heap.size := by have hq := hbW.below.size; (try simp at hq); omega)) | (go_at_call 55; refine (Try.isPlate _ _ _ HP.out _).mono ?_; rintro e w1 ⟨rfl, hbW⟩; have hcW := (bcell hbW.below).1; have hfW := (bcell hbW.below).2; (try have hzW : w.heap.size < w1.heap.size := by have hq := hbW.below.size; (try simp at hq); omega); (try have hyW : w.heap.size + 1 < w1.heap.size := by have hq := hbW.below.size; (try simp at hq); omega); (try have hxW : w.heap.size + 2 < w1.heap.size := by have hq := hbW.below.size; (try simp at hq); omega)) | (go_at_call 56; refine (HI.out _ (by repeat (first | exact Gr.refl _ | refine Gr.alloc ?_ _ | refine Gr.trans ?_ (by assumption) | refine Gr.drew ?_ | refine Gr.drewN ?_ _ | refine Gr.grow ?_ _ | refine Gr.setCell ?_ (by (try simp); (try omega)) _))).mono ?_; rintro e w1 ⟨rfl, hbW⟩; have hcW := (bcell hbW.below).1; have hfW := (bcell hbW.below).2; (try have hzW : w.heap.size < w1.heap.size := by have hq := hbW.below.size; (try simp at hq); omega); (try have hyW : w.heap.size + 1 < w1.heap.size := by have hq := hbW.below.size; (try simp at hq); omega); (try have hxW : w.heap.size + 2 < w1.heap.size := by have hq := hbW.below.size; (try simp at hq); omega)))
        go_ret2
        exact ⟨rfl, Gr.below (by repeat (first | exact Gr.refl _ | refine Gr.alloc ?_ _ | refine Gr.trans ?_ (by assumption) | refine Gr.drew ?_ | refine Gr.drewN ?_ _ | refine Gr.grow ?_ _ | refine Gr.setCell ?_ (by (try simp); (try omega)) _))⟩
set_option maxRecDepth 100000 in
set_option maxHeartbeats 1600000 in
theorem Try.iPlaceOfPlate (w : World) (B : Nat) (v : Value) (ps : List Pi2) (p0 p1 : Int) (hl : ps.length ≤ 1048576) (h : OwnP 44 w B v ps) :
    Calls Try.prog 26 #[v, .agg #[.int .i64 p0, .int .i64 p1]] w fun e w' => e = .returned (.tuple #[.int .i64 (ppV ps (p0, p1)), .bool (ppB ps (p0, p1))]) ∧ Below w.heap.size w w' := by
  cases hg : okB ps
  · have hB : ppB ps (p0, p1) = false := by simp [ppB, hg]
    have HA := Lib.hid (fun (W : World) (k : Gr w W) => Try.iArePlates W B v ps false (okB_i ps _ hg) hl (h.gr k))
    rw [show ppV ps (p0, p1) = 0 by simp [ppV, hB], hB]
    obtain ⟨A, c, rfl, h⟩ := h.eta
    clear h hg hB
    go_enter Try.func26, Try.ntmps26
    go_wp2_with (first | (go_at_call 57; refine (HA.out _ (by repeat (first | exact Gr.refl _ | refine Gr.alloc ?_ _ | refine Gr.trans ?_ (by assumption) | refine Gr.drew ?_ | refine Gr.drewN ?_ _ | refine Gr.grow ?_ _ | refine Gr.setCell ?_ (by (try simp); (try omega)) _))).mono ?_; rintro e w1 ⟨rfl, hbW⟩; have hcW := (bcell hbW.below).1; have hfW := (bcell hbW.below).2; (try have hzW : w.heap.size < w1.heap.size := by have hq := hbW.below.size; (try simp at hq); omega); (try have hyW : w.heap.size + 1 < w1.heap.size := by have hq := hbW.below.size; (try simp at hq); omega); (try have hxW : w.heap.size + 2 < w1.heap.size := by have hq := hbW.below.size; (try simp at hq); omega)))
    go_ret2
    exact ⟨rfl, Gr.below (by repeat (first | exact Gr.refl _ | refine Gr.alloc ?_ _ | refine Gr.trans ?_ (by assumption) | refine Gr.drew ?_ | refine Gr.drewN ?_ _ | refine Gr.grow ?_ _ | refine Gr.setCell ?_ (by (try simp); (try omega)) _))⟩
  · have HA := Lib.hid (fun (W : World) (k : Gr w W) => Try.iArePlates W B v ps true (okB_i ps _ hg) hl (h.gr k))
    cases hp : isP p0 p1
    · have hB : ppB ps (p0, p1) = false := by simp [ppB, hp]
      have HP := Lib.hid hp
      rw [show ppV ps (p0, p1) = 0 by simp [ppV, hB], hB]
      obtain ⟨A, c, rfl, h⟩ := h.eta
      clear h hg hB hp
      go_enter Try.func26, Try.ntmps26
      go_wp2_with (first | (go_at_call 57; refine (HA.out _ (by repeat (first | exact Gr.refl _ | refine Gr.alloc ?_ _ | refine Gr.trans ?_ (by assumption) | refine Gr.drew ?_ | refine Gr.drewN ?_ _ | refine Gr.grow ?_ _ | refine Gr.setCell ?_ (by (try simp); (try omega)) _))).mono ?_; rintro e w1 ⟨rfl, hbW⟩; have hcW := (bcell hbW.below).1; have hfW := (bcell hbW.below).2; (try have hzW : w.heap.size < w1.heap.size := by have hq := hbW.below.size; (try simp at hq); omega); (try have hyW : w.heap.size + 1 < w1.heap.size := by have hq := hbW.below.size; (try simp at hq); omega); (try have hxW : w.heap.size + 2 < w1.heap.size := by have hq := hbW.below.size; (try simp at hq); omega)) | (go_at_call 58; refine (Try.iIsPlate _ _ _ HP.out _).mono ?_; rintro e w1 ⟨rfl, hbW⟩; have hcW := (bcell hbW.below).1; have hfW := (bcell hbW.below).2; (try have hzW : w.heap.size < w1.heap.size := by have hq := hbW.below.size; (try simp at hq); omega); (try have hyW : w.heap.size + 1 < w1.heap.size := by have hq := hbW.below.size; (try simp at hq); omega); (try have hxW : w.heap.size + 2 < w1.heap.size := by have hq := hbW.below.size; (try simp at hq); omega)))
      go_ret2
      exact ⟨rfl, Gr.below (by repeat (first | exact Gr.refl _ | refine Gr.alloc ?_ _ | refine Gr.trans ?_ (by assumption) | refine Gr.drew ?_ | refine Gr.drewN ?_ _ | refine Gr.grow ?_ _ | refine Gr.setCell ?_ (by (try simp); (try omega)) _))⟩
    · have HP := Lib.hid hp
      have hok := (okB_iff ps).1 hg
      have hip : IsP (p0, p1) := of_decide_eq_true hp
      have hx := fun (W : World) (g : Gr w W) => Try.indicesOfPlates W B v ps hok (h.gr g)
      have hB : ppB ps (p0, p1) = decide (Has ps (p0, p1)) := by simp [ppB, hg, hp]
      have HH := Lib.hid (Try.idx_has hok hip)
      have HT := Lib.hid (fun c hc => Try.idx_at (p := (p0, p1)) (c := c) hok hip hc)
      have HKY := Lib.hid (Try.keyOfP (p0, p1) (wfP_of hip))
      have HX := Lib.hid hx
      have HB := Lib.hid hB
      obtain ⟨A, c, rfl, h⟩ := h.eta
      clear h hg hp hok hB hx hip
      go_enter Try.func26, Try.ntmps26
      go_upto_region 3 with (first | (go_at_call 57; refine (HA.out _ (by repeat (first | exact Gr.refl _ | refine Gr.alloc ?_ _ | refine Gr.trans ?_ (by assumption) | refine Gr.drew ?_ | refine Gr.drewN ?_ _ | refine Gr.grow ?_ _ | refine Gr.setCell ?_ (by (try simp); (try omega)) _))).mono ?_; rintro e w1 ⟨rfl, hbW⟩; have hcW := (bcell hbW.below).1; have hfW := (bcell hbW.below).2; (try have hzW : w.heap.size < w1.heap.size := by have hq := hbW.below.size; (try simp at hq); omega); (try have hyW : w.heap.size + 1 < w1.heap.size := by have hq := hbW.below.size; (try simp at hq); omega); (try have hxW : w.heap.size + 2 < w1.heap.size := by have hq := hbW.below.size; (try simp at hq); omega)) | (go_at_call 58; refine (Try.iIsPlate _ _ _ HP.out _).mono ?_; rintro e w2 ⟨rfl, hbX⟩))
      have g2 : Gr (w.alloc (.cells #[.int .i64 p0, .int .i64 p1] 44)) w2 := (by repeat (first | exact Gr.refl _ | refine Gr.alloc ?_ _ | refine Gr.trans ?_ (by assumption) | refine Gr.drew ?_ | refine Gr.drewN ?_ _ | refine Gr.grow ?_ _ | refine Gr.setCell ?_ (by (try simp); (try omega)) _))
      have k0 : w2.cell? ⟨w.heap.size, 0, none⟩ = some (.int .i64 p0) := g2.keep0 (by simp [go_sem])
      have k1 : w2.cell? ⟨w.heap.size, 1, none⟩ = some (.int .i64 p1) := g2.keep0 (by simp [go_sem])
      have G2 := Lib.hid (show Gr w w2 from (by repeat (first | exact Gr.refl _ | refine Gr.alloc ?_ _ | refine Gr.trans ?_ (by assumption) | refine Gr.drew ?_ | refine Gr.drewN ?_ _ | refine Gr.grow ?_ _ | refine Gr.setCell ?_ (by (try simp); (try omega)) _)))
      have s2 := G2.out.below.size
      clear hbW hcW hfW hbX g2
      go_region_held3 (fun W' => W'.cell? ⟨w.heap.size, 0, none⟩ = some (.int .i64 p0) ∧ W'.cell? ⟨w.heap.size, 1, none⟩ = some (.int .i64 p1))
        (first | go_keep | exact ⟨k0, k1⟩ | exact two_k2 (by assumption) hx5.below | exact two_k2 (by assumption) hb4)
        ((first | (go_at_call 59; refine (HX.out _ (by first | exact G2.out | exact Gr.drew G2.out)).mono ?_; rintro e w4 ⟨b4, rfl, hown4, hb4⟩; have s4 := hb4.size; (try simp at s4)) | (go_at_call 60; refine (Try.keyOfPlate _ _ _).mono ?_; rintro e w5 ⟨rfl, hx5⟩; have gx5 := Gr.trans (show Gr w4 _ from (by repeat (first | exact Gr.refl _ | refine Gr.alloc ?_ _ | refine Gr.trans ?_ (by assumption) | refine Gr.drew ?_ | refine Gr.drewN ?_ _ | refine Gr.grow ?_ _ | refine Gr.setCell ?_ (by (try simp); (try omega)) _))) hx5; obtain ⟨c6, hc6, hr6⟩ := lookup_all Try.kLaw Try.underlying75 Try.underlying3 Try.zeroInt hown4 HKY.out; have hq6 := hr6 _ gx5; have hq7 := hr6 _ (Gr.drew gx5); have HR6 := Lib.hid hr6; clear hr6)))
      have HC6 := Lib.hid (show c6 = ppV ps (p0, p1) by rw [HT.out c6 hc6]; unfold ppV; rw [HB.out]; simp)
      have HE := Lib.hid (HB.out.trans HH.out.symm)
      have hbl : Below w.heap.size w w5 := Below.trans (Below.trans (Gr.below (by first | exact G2.out | exact Gr.drew G2.out)) (hb4.mono (by (try simp); (try omega)))) (gx5.below.mono (by (try simp); (try omega)))
      have HBL := Lib.hid hbl
      clear hbl hc6 hq6 hq7 HR6
      go_wp2
      go_ret2
      rw [HE.out, HC6.out]
      exact ⟨rfl, HBL.out⟩
end Go.Proofs
