/-
  Contracts of chapter 4: how much farther it is than without closed blocks. Both sides.
-/
import Derived.Test.YtkgfbdbhllakoaaAvQm
import Derived.Test.YtkgfbdbhllakoaaAvN
namespace Go.Proofs
open Go.RowKit Av Gm Go.Maps
set_option linter.unusedVariables false
set_option linter.unusedSimpArgs false
def dtI (W H : Int) (ps : List Blk) (xs ys : List Int) : Int := cdI W H ps xs ys - abv (xs.getD 0 0 - ys.getD 0 0) - abv (xs.getD 1 0 - ys.getD 1 0)
def dtV (W H : Int) (ps : List Blk) (xs ys : List Int) : Int := if cdB W H ps xs ys then dtI W H ps xs ys else 0
theorem abv_neg (n : Int) : abv (-n) = abv n := by unfold abv; split <;> split <;> omega
theorem abv_sub (a b : Int) : abv (a - b) = abv (b - a) := by rw [← abv_neg]; congr 1; omega
theorem okB_nil {W H : Int} {ps : List Blk} (h : okB W H ps = true) : okB W H [] = true := by
  obtain ⟨o1, o2, o3, o4, _⟩ := of_decide_eq_true h
  exact decide_eq_true ⟨o1, o2, o3, o4, by simp, by simp, List.Pairwise.nil⟩
theorem cdB_parts {W H : Int} {ps : List Blk} {xs ys : List Int} (h : cdB W H ps xs ys = true) : okB W H ps = true ∧ isC W H xs = true ∧ isC W H ys = true ∧ 0 ≤ cdI W H ps xs ys := by
  unfold cdB at h
  simp only [Bool.and_eq_true, decide_eq_true_eq] at h
  exact ⟨h.1.1.1, h.1.1.2, h.1.2, h.2⟩
theorem cdI_nil {W H : Int} {xs ys : List Int} (h1 : okB W H [] = true) (h2 : isC W H xs = true) (h3 : isC W H ys = true) : cdI W H [] xs ys = abv (xs.getD 0 0 - ys.getD 0 0) + abv (xs.getD 1 0 - ys.getD 1 0) := by
  obtain ⟨o1, o2, o3, o4, _⟩ := of_decide_eq_true h1
  obtain ⟨p1, p2⟩ := isC_vtx h2 ⟨o1, o2⟩ ⟨o3, o4⟩
  obtain ⟨r1, r2⟩ := isC_vtx h3 ⟨o1, o2⟩ ⟨o3, o4⟩
  unfold cdI
  generalize (xs.getD 0 0 * H + xs.getD 1 0).toNat = s0 at *
  generalize (ys.getD 0 0 * H + ys.getD 1 0).toNat = t0 at *
  rw [dst_nil p1 r1, p2, r2]
  simp only [List.getD_cons_zero, List.getD_cons_succ]
  unfold mhn
  rw [abv_sub (crn H.toNat t0).1, abv_sub (crn H.toNat t0).2]
theorem cdV_nil {W H : Int} {ps : List Blk} {xs ys : List Int} (h : cdB W H ps xs ys = true) : cdV W H [] xs ys = abv (xs.getD 0 0 - ys.getD 0 0) + abv (xs.getD 1 0 - ys.getD 1 0) := by
  obtain ⟨h1, h2, h3, _⟩ := cdB_parts h
  have e := cdI_nil (okB_nil h1) h2 h3
  have : cdB W H [] xs ys = true := by
    unfold cdB
    rw [okB_nil h1, h2, h3, e]
    simp only [Bool.and_self, Bool.true_and, decide_eq_true_eq]
    unfold abv; split <;> split <;> omega
  unfold cdV
  rw [if_pos this, e]
theorem cdI_hi {W H : Int} {ps : List Blk} {xs ys : List Int} (h : cdB W H ps xs ys = true) : 0 ≤ cdI W H ps xs ys ∧ cdI W H ps xs ys ≤ 64 := by
  obtain ⟨h1, h2, h3, h4⟩ := cdB_parts h
  obtain ⟨o1, o2, o3, o4, _⟩ := of_decide_eq_true h1
  obtain ⟨p1, p2⟩ := isC_vtx h2 ⟨o1, o2⟩ ⟨o3, o4⟩
  obtain ⟨r1, r2⟩ := isC_vtx h3 ⟨o1, o2⟩ ⟨o3, o4⟩
  refine ⟨h4, ?_⟩
  unfold cdI
  obtain ⟨Wn, rfl⟩ : ∃ Wn : Nat, W = Wn := ⟨W.toNat, by omega⟩
  obtain ⟨Hn, rfl⟩ : ∃ Hn : Nat, H = Hn := ⟨H.toNat, by omega⟩
  simp only [Int.toNat_natCast] at *
  have := (dst_bd (ps := ps) p1 r1).2
  have hN : Wn * Hn ≤ 64 := Nat.mul_le_mul (show Wn ≤ 8 by omega) (show Hn ≤ 8 by omega)
  have c : ((Wn * Hn : Nat) : Int) = (Wn : Int) * Hn := by push_cast; rfl
  omega
set_option maxHeartbeats 400000 in
theorem Try.l1Abs' (n : Int) (w : World) (h : -1000000 ≤ n) (g : n ≤ 1000000) :
    Calls Try.prog 36 #[.int .i64 n] w fun e w' => e = .returned (.int .i64 (abv n)) ∧ w = w' := by
  go_enter Try.func36, Try.ntmps36
  go_wp2
  all_goals
    go_ret
    exact ⟨ri (by (try simp only [beq_iff_eq, beq_eq_false_iff_ne, bne_iff_ne, ne_eq, decide_eq_true_eq, decide_eq_false_iff_not] at *); (try unfold abv); omega), rfl⟩
set_option maxRecDepth 100000 in
set_option maxHeartbeats 1600000 in
theorem Try.iDetourOf (w : World) (W H : Int) (B : Nat) (a : Value) (ps : List Blk) (Ba : Nat) (la : Value) (xs : List Int) (Bb : Nat) (lb : Value) (ys : List Int) (v : Int) (b : Bool) (hv : dtV W H ps xs ys = v) (hb : cdB W H ps xs ys = b) (hl : ps.length ≤ 1048576) (h : OwnB w B a ps) (hla : OwnI w Ba la xs) (hlb : OwnI w Bb lb ys) :
    Calls Try.prog 18 #[.agg #[.int .i64 W, .int .i64 H, a], la, lb] w fun e w' => e = .returned (.tuple #[.int .i64 v, .bool b]) ∧ Below w.heap.size w w' := by
  have mixed : Try.prog.follows .mixedOrders = true := by kernel_rfl
  subst hv
  obtain ⟨A, c, rfl, h⟩ := OwnE.eta h
  have HS := Lib.hid (fun (X : World) (g : Gr w X) => Try.iCornerDistance X W H B _ ps Ba la xs Bb lb ys _ b rfl hb hl (h.gr g) (hla.gr g) (hlb.gr g))
  cases b
  · have e1 : dtV W H ps xs ys = 0 := by unfold dtV; rw [hb]; rfl
    rw [e1]
    generalize cdV W H ps xs ys = u at *
    clear hb h hla hlb e1
    go_enter Try.func18, Try.ntmps18
    go_wp2_with (first | (go_at_call 14; refine (HS.out _ (by repeat (first | exact Gr.refl _ | refine Gr.alloc ?_ _ | refine Gr.trans ?_ (by assumption) | refine Gr.drew ?_ | refine Gr.drewN ?_ _ | refine Gr.grow ?_ _ | refine Gr.setCell ?_ (by (try simp); (try omega)) _))).mono ?_; rintro e w1 ⟨rfl, hb1⟩))
    go_ret2
    refine ⟨rfl, Below.trans (show Gr w _ from ?_).below (hb1.mono (show Gr w _ from ?_).below.size)⟩
    all_goals exact by repeat (first | exact Gr.refl _ | refine Gr.alloc ?_ _ | refine Gr.trans ?_ (by assumption) | refine Gr.drew ?_ | refine Gr.drewN ?_ _ | refine Gr.grow ?_ _ | refine Gr.setCell ?_ (by (try simp); (try omega)) _)
  · have e1 : dtV W H ps xs ys = dtI W H ps xs ys := by unfold dtV; rw [hb]; rfl
    have e2 : cdV W H ps xs ys = cdI W H ps xs ys := by unfold cdV; rw [hb]; rfl
    have e3 := cdV_nil hb
    have e4 := cdI_hi hb
    have HN := Lib.hid (fun (X : World) (g : Below w.heap.size w X) b' hb' => Try.iCornerDistance X W H 0 (.slice none 0 0) [] Ba la xs Bb lb ys _ b' rfl hb' (by simp) (OwnE.nil _ _ _ _ _) (OwnI.below hla g (Nat.le_refl _)) (OwnI.below hlb g (Nat.le_refl _)))
    obtain ⟨b', hb'⟩ : ∃ b', cdB W H [] xs ys = b' := ⟨_, rfl⟩
    have hlo : 0 ≤ abv (xs.getD 0 0 - ys.getD 0 0) ∧ abv (xs.getD 0 0 - ys.getD 0 0) ≤ 8 := by
      obtain ⟨h1, h2, h3, _⟩ := cdB_parts hb
      obtain ⟨o1, o2, o3, o4, _⟩ := of_decide_eq_true h1
      unfold isC at h2 h3
      rw [Bool.and_eq_true] at h2 h3
      have q1 : onC W H _ := of_decide_eq_true h2.2
      have q2 : onC W H _ := of_decide_eq_true h3.2
      unfold onC at q1 q2
      unfold abv; split <;> omega
    have hlo2 : 0 ≤ abv (xs.getD 1 0 - ys.getD 1 0) ∧ abv (xs.getD 1 0 - ys.getD 1 0) ≤ 8 := by
      obtain ⟨h1, h2, h3, _⟩ := cdB_parts hb
      obtain ⟨o1, o2, o3, o4, _⟩ := of_decide_eq_true h1
      unfold isC at h2 h3
      rw [Bool.and_eq_true] at h2 h3
      have q1 : onC W H _ := of_decide_eq_true h2.2
      have q2 : onC W H _ := of_decide_eq_true h3.2
      unfold onC at q1 q2
      unfold abv; split <;> omega
    have HN' := Lib.hid (fun X g => HN.out X g b' hb')
    rw [e1]
    unfold dtI
    rw [e2] at HS
    rw [e3] at HN'
    generalize cdI W H ps xs ys = d at *
    generalize abv (xs.getD 0 0 - ys.getD 0 0) = p at *
    generalize abv (xs.getD 1 0 - ys.getD 1 0) = q at *
    clear hb h hla hlb e1 e2 e3 HN hb'
    go_enter Try.func18, Try.ntmps18
    go_wp2_with (first | (go_at_call_of 14 (Value.agg #[.int .i64 W, .int .i64 H, .slice A ps.length c]); refine (HS.out _ (by repeat (first | exact Gr.refl _ | refine Gr.alloc ?_ _ | refine Gr.trans ?_ (by assumption) | refine Gr.drew ?_ | refine Gr.drewN ?_ _ | refine Gr.grow ?_ _ | refine Gr.setCell ?_ (by (try simp); (try omega)) _))).mono ?_; rintro e w1 ⟨rfl, hb1⟩; have k0 := cell_k2 hb1 (show (w.alloc (.cells #[.int .i64 W, .int .i64 H, .slice A ps.length c] 31)).cell? ⟨w.heap.size, 0, none⟩ = some (.int .i64 W) by simp [go_sem]); have k1 := cell_k2 hb1 (show (w.alloc (.cells #[.int .i64 W, .int .i64 H, .slice A ps.length c] 31)).cell? ⟨w.heap.size, 1, none⟩ = some (.int .i64 H) by simp [go_sem]); have hbb := Below.trans (show Gr w (w.alloc (.cells #[.int .i64 W, .int .i64 H, .slice A ps.length c] 31)) from (by repeat (first | exact Gr.refl _ | refine Gr.alloc ?_ _ | refine Gr.trans ?_ (by assumption) | refine Gr.drew ?_ | refine Gr.drewN ?_ _ | refine Gr.grow ?_ _ | refine Gr.setCell ?_ (by (try simp); (try omega)) _))).below (hb1.mono (by simp))) | (go_at_call 14; refine (HN'.out _ hbb).mono ?_; rintro e w2 ⟨rfl, hb2⟩; have hbc := Below.trans hbb (hb2.mono hbb.size)))
    go_ret2
    exact ⟨by rw [show d - p - q = d - (p + q) by omega]; rfl, hbc⟩
theorem seven_k' {w w' : World} {a b c d e f h : Addr} {x0 x1 x2 x3 x4 x5 x6 : Value} (g : Below w.heap.size w w') (hh : w.cell? a = some x0 ∧ w.cell? b = some x1 ∧ w.cell? c = some x2 ∧ w.cell? d = some x3 ∧ w.cell? e = some x4 ∧ w.cell? f = some x5 ∧ w.cell? h = some x6) :
    w'.cell? a = some x0 ∧ w'.cell? b = some x1 ∧ w'.cell? c = some x2 ∧ w'.cell? d = some x3 ∧ w'.cell? e = some x4 ∧ w'.cell? f = some x5 ∧ w'.cell? h = some x6 := seven_k g hh
set_option maxRecDepth 100000 in
set_option maxHeartbeats 1600000 in
theorem Try.sDetourOf (w : World) (W H : Int) (B : Nat) (a : Value) (ps : List Blk) (Ba : Nat) (la : Value) (xs : List Int) (Bb : Nat) (lb : Value) (ys : List Int) (v : Int) (b : Bool) (hv : dtV W H ps xs ys = v) (hb : cdB W H ps xs ys = b) (hl : ps.length ≤ 1048576) (h : OwnB w B a ps) (hla : OwnI w Ba la xs) (hlb : OwnI w Bb lb ys) :
    Calls Try.prog 17 #[.agg #[.int .i64 W, .int .i64 H, a], la, lb] w fun e w' => e = .returned (.tuple #[.int .i64 v, .bool b]) ∧ Below w.heap.size w w' := by
  have mixed : Try.prog.follows .mixedOrders = true := by kernel_rfl
  subst hv hb
  obtain ⟨A, c, rfl, h⟩ := OwnE.eta h
  obtain ⟨b1, h1⟩ : ∃ b1, okB W H ps = b1 := ⟨_, rfl⟩
  obtain ⟨b2, h2⟩ : ∃ b1, isC W H xs = b1 := ⟨_, rfl⟩
  obtain ⟨b3, h3⟩ : ∃ b1, isC W H ys = b1 := ⟨_, rfl⟩
  have HA := Lib.hid (fun (X : World) (g : Gr w X) => Try.avAsked X W H B _ ps Ba la xs Bb lb ys b1 b2 b3 h1 h2 h3 hl (h.gr g) (hla.gr g) (hlb.gr g))
  cases hall : (b1 && b2 && b3)
  · have e1 : cdB W H ps xs ys = false := by unfold cdB; rw [h1, h2, h3, hall]; rfl
    have e2 : dtV W H ps xs ys = 0 := by unfold dtV; rw [e1]; rfl
    rw [e1, e2]
    rw [hall] at HA
    clear h hla hlb h1 h2 h3 hall e1 e2
    go_enter Try.func17, Try.ntmps17
    go_wp2_with (first | (go_at_call 31; refine (HA.out _ (by repeat (first | exact Gr.refl _ | refine Gr.alloc ?_ _ | refine Gr.trans ?_ (by assumption) | refine Gr.drew ?_ | refine Gr.drewN ?_ _ | refine Gr.grow ?_ _ | refine Gr.setCell ?_ (by (try simp); (try omega)) _))).mono ?_; rintro e w1 ⟨rfl, hbW⟩; have hcW := (bcell hbW.below).1; have hfW := (bcell hbW.below).2; (try have hzW : w.heap.size < w1.heap.size := by have hq := hbW.below.size; (try simp at hq); omega); (try have hyW : w.heap.size + 1 < w1.heap.size := by have hq := hbW.below.size; (try simp at hq); omega); (try have hxW : w.heap.size + 2 < w1.heap.size := by have hq := hbW.below.size; (try simp at hq); omega)))
    go_ret2
    exact ⟨by simp <;> rfl, Gr.below (by repeat (first | exact Gr.refl _ | refine Gr.alloc ?_ _ | refine Gr.trans ?_ (by assumption) | refine Gr.drew ?_ | refine Gr.drewN ?_ _ | refine Gr.grow ?_ _ | refine Gr.setCell ?_ (by (try simp); (try omega)) _))⟩
  · simp only [Bool.and_eq_true] at hall
    obtain ⟨⟨rfl, rfl⟩, rfl⟩ := hall
    obtain ⟨o1, o2, o3, o4, _⟩ := of_decide_eq_true h1
    obtain ⟨p1, p2⟩ := isC_vtx h2 ⟨o1, o2⟩ ⟨o3, o4⟩
    obtain ⟨r1, r2⟩ := isC_vtx h3 ⟨o1, o2⟩ ⟨o3, o4⟩
    have hd : cdI W H ps xs ys = dst W.toNat H.toNat ps (xs.getD 0 0 * H + xs.getD 1 0).toNat (ys.getD 0 0 * H + ys.getD 1 0).toNat := rfl
    have e1 : cdB W H ps xs ys = decide (0 ≤ cdI W H ps xs ys) := by unfold cdB; rw [h1, h2, h3]; rfl
    have e2 : dtV W H ps xs ys = if decide (0 ≤ cdI W H ps xs ys) = true then dtI W H ps xs ys else 0 := by unfold dtV; rw [e1]
    rw [e1, e2]
    unfold dtI
    rw [hd]
    generalize (xs.getD 0 0 * H + xs.getD 1 0).toNat = s0 at *
    generalize (ys.getD 0 0 * H + ys.getD 1 0).toNat = t0 at *
    obtain ⟨Wn, rfl⟩ : ∃ Wn : Nat, W = Wn := ⟨W.toNat, by omega⟩
    obtain ⟨Hn, rfl⟩ : ∃ Hn : Nat, H = Hn := ⟨H.toNat, by omega⟩
    simp only [Int.toNat_natCast] at *
    subst p2 r2
    simp only [List.getD_cons_zero, List.getD_cons_succ]
    have ho1 := crn_on p1
    have ho2 := crn_on r1
    unfold onC at ho1 ho2
    have HD := Lib.hid (fun (X : World) (g : Below w.heap.size w X) => Try.avDistance X Wn Hn B _ ps Ba la s0 Bb lb t0 (by omega) (by omega) p1 r1 hl (OwnE.below h g (Nat.le_refl _)) (OwnI.below hla g (Nat.le_refl _)) (OwnI.below hlb g (Nat.le_refl _)))
    rcases hla.view with ⟨hx, _⟩ | ⟨_, ga, ca, rfl, _, ga2, _, _, _⟩
    · cases hx
    rcases hlb.view with ⟨hx, _⟩ | ⟨_, gb, cb, rfl, _, gb2, _, _, _⟩
    · cases hx
    obtain ⟨l0, _⟩ := hla.at rfl 0 (by simp)
    obtain ⟨l1, _⟩ := hla.at rfl 1 (by simp)
    obtain ⟨l2, _⟩ := hlb.at rfl 0 (by simp)
    obtain ⟨l3, _⟩ := hlb.at rfl 1 (by simp)
    simp only [List.getD_cons_zero, List.getD_cons_succ, List.length_cons, List.length_nil, Nat.zero_add, Nat.reduceAdd] at l0 l1 l2 l3 HA HD ⊢
    have hbd := dst_bd (ps := ps) p1 r1
    clear h hla hlb h1 h2 h3 e1 e2 hd
    obtain ⟨d, hd⟩ : ∃ d, dst Wn Hn ps s0 t0 = d := ⟨_, rfl⟩
    simp only [hd] at HD hbd ⊢
    have hN : Wn * Hn ≤ 64 := Nat.mul_le_mul (show Wn ≤ 8 by omega) (show Hn ≤ 8 by omega)
    have hN' : ((Wn * Hn : Nat) : Int) = (Wn : Int) * Hn := by push_cast; rfl
    have hdu : d ≤ 64 := by omega
    have hdl := hbd.1
    generalize (crn Hn s0).1 = x0 at *
    generalize (crn Hn s0).2 = y0 at *
    generalize (crn Hn t0).1 = x1 at *
    generalize (crn Hn t0).2 = y1 at *
    clear hd hbd hN hN' p1 r1
    by_cases hz : d < 0
    · have e1 : decide (0 ≤ d) = false := by simpa using hz
      rw [e1]
      go_enter Try.func17, Try.ntmps17
      go_wp2_with (first | (go_at_call 31; refine (HA.out _ (by repeat (first | exact Gr.refl _ | refine Gr.alloc ?_ _ | refine Gr.trans ?_ (by assumption) | refine Gr.drew ?_ | refine Gr.drewN ?_ _ | refine Gr.grow ?_ _ | refine Gr.setCell ?_ (by (try simp); (try omega)) _))).mono ?_; rintro e w1 ⟨rfl, hbW⟩; have hcW := (bcell hbW.below).1; have hfW := (bcell hbW.below).2; (try have hzW : w.heap.size < w1.heap.size := by have hq := hbW.below.size; (try simp at hq); omega); (try have hyW : w.heap.size + 1 < w1.heap.size := by have hq := hbW.below.size; (try simp at hq); omega); (try have hxW : w.heap.size + 2 < w1.heap.size := by have hq := hbW.below.size; (try simp at hq); omega)) | (go_at_call 32; refine (HD.out _ (Gr.below (show Gr w _ from (by repeat (first | exact Gr.refl _ | refine Gr.alloc ?_ _ | refine Gr.trans ?_ (by assumption) | refine Gr.drew ?_ | refine Gr.drewN ?_ _ | refine Gr.grow ?_ _ | refine Gr.setCell ?_ (by (try simp); (try omega)) _))))).mono ?_; rintro e w2 ⟨rfl, hb2⟩))
      go_ret2
      exact ⟨by simp <;> rfl, Below.trans (show Below w.heap.size w _ from Gr.below (by repeat (first | exact Gr.refl _ | refine Gr.alloc ?_ _ | refine Gr.trans ?_ (by assumption) | refine Gr.drew ?_ | refine Gr.drewN ?_ _ | refine Gr.grow ?_ _ | refine Gr.setCell ?_ (by (try simp); (try omega)) _))) (hb2.mono (Gr.below (show Gr w _ from (by repeat (first | exact Gr.refl _ | refine Gr.alloc ?_ _ | refine Gr.trans ?_ (by assumption) | refine Gr.drew ?_ | refine Gr.drewN ?_ _ | refine Gr.grow ?_ _ | refine Gr.setCell ?_ (by (try simp); (try omega)) _)))).size)⟩
    · have e1 : decide (0 ≤ d) = true := by simpa using hz
      have e2 : decide (d < 0) = false := by simpa using hz
      rw [e1, if_pos rfl]
      obtain ⟨p, hp⟩ : ∃ p, abv (x0 - x1) = p := ⟨_, rfl⟩
      obtain ⟨q, hq⟩ : ∃ q, abv (y0 - y1) = q := ⟨_, rfl⟩
      have hp1 : 0 ≤ p ∧ p ≤ 8 := by rw [← hp]; unfold abv; split <;> omega
      have hq1 : 0 ≤ q ∧ q ≤ 8 := by rw [← hq]; unfold abv; split <;> omega
      have HP := Lib.hid (fun X => Try.l1Abs' (x0 - x1) X (by omega) (by omega))
      have HQ := Lib.hid (fun X => Try.l1Abs' (y0 - y1) X (by omega) (by omega))
      rw [hp] at HP ⊢
      rw [hq] at HQ ⊢
      have w1 : IntKind.i64.wrap (x0 - x1) = x0 - x1 := IntWalk.i64_in _ (by omega)
      have w2 : IntKind.i64.wrap (y0 - y1) = y0 - y1 := IntWalk.i64_in _ (by omega)
      have w3 : IntKind.i64.wrap (d - p) = d - p := IntWalk.i64_in _ (by omega)
      have w4 : IntKind.i64.wrap (d - p - q) = d - p - q := IntWalk.i64_in _ (by omega)
      go_enter Try.func17, Try.ntmps17
      go_upto_region 3 with (first | (go_at_call 31; refine (HA.out _ (by repeat (first | exact Gr.refl _ | refine Gr.alloc ?_ _ | refine Gr.trans ?_ (by assumption) | refine Gr.drew ?_ | refine Gr.drewN ?_ _ | refine Gr.grow ?_ _ | refine Gr.setCell ?_ (by (try simp); (try omega)) _))).mono ?_; rintro e w1 ⟨rfl, hbW⟩; have hcW := (bcell hbW.below).1; have hfW := (bcell hbW.below).2; (try have hzW : w.heap.size < w1.heap.size := by have hq := hbW.below.size; (try simp at hq); omega); (try have hyW : w.heap.size + 1 < w1.heap.size := by have hq := hbW.below.size; (try simp at hq); omega); (try have hxW : w.heap.size + 2 < w1.heap.size := by have hq := hbW.below.size; (try simp at hq); omega)) | (go_at_call 32; refine (HD.out _ (Gr.below (show Gr w _ from (by repeat (first | exact Gr.refl _ | refine Gr.alloc ?_ _ | refine Gr.trans ?_ (by assumption) | refine Gr.drew ?_ | refine Gr.drewN ?_ _ | refine Gr.grow ?_ _ | refine Gr.setCell ?_ (by (try simp); (try omega)) _))))).mono ?_; rintro e w2 ⟨rfl, hb2⟩; have gB : Gr (w.alloc (.cells #[.int .i64 Wn, .int .i64 Hn, .slice A ps.length c] 31)) w1 := (by repeat (first | exact Gr.refl _ | refine Gr.alloc ?_ _ | refine Gr.trans ?_ (by assumption) | refine Gr.drew ?_ | refine Gr.drewN ?_ _ | refine Gr.grow ?_ _ | refine Gr.setCell ?_ (by (try simp); (try omega)) _)); have hbb := Below.trans (show Below w.heap.size w w1 from Gr.below (by repeat (first | exact Gr.refl _ | refine Gr.alloc ?_ _ | refine Gr.trans ?_ (by assumption) | refine Gr.drew ?_ | refine Gr.drewN ?_ _ | refine Gr.grow ?_ _ | refine Gr.setCell ?_ (by (try simp); (try omega)) _))) (hb2.mono (Below.size (show Below w.heap.size w w1 from Gr.below (by repeat (first | exact Gr.refl _ | refine Gr.alloc ?_ _ | refine Gr.trans ?_ (by assumption) | refine Gr.drew ?_ | refine Gr.drewN ?_ _ | refine Gr.grow ?_ _ | refine Gr.setCell ?_ (by (try simp); (try omega)) _))))); have q0 := cell_k2 hb2 (gB.keep0 (show (w.alloc (.cells #[.int .i64 Wn, .int .i64 Hn, .slice A ps.length c] 31)).cell? ⟨w.heap.size, 0, none⟩ = some (.int .i64 Wn) by simp [go_sem])); have q1 := cell_k2 hb2 (gB.keep0 (show (w.alloc (.cells #[.int .i64 Wn, .int .i64 Hn, .slice A ps.length c] 31)).cell? ⟨w.heap.size, 1, none⟩ = some (.int .i64 Hn) by simp [go_sem])); have q2 := cell_k2 hb2 (gB.keep0 (show (w.alloc (.cells #[.int .i64 Wn, .int .i64 Hn, .slice A ps.length c] 31)).cell? ⟨w.heap.size, 2, none⟩ = some (.slice A ps.length c) by simp [go_sem])); have q3 := cell_k2 hbb l0; have q4 := cell_k2 hbb l1; have q5 := cell_k2 hbb l2; have q6 := cell_k2 hbb l3))
      have hbb3 := hbb
      clear hcW hfW hzW
      go_region_held3 (fun W' => W'.cell? ⟨w.heap.size, 0, none⟩ = some (.int .i64 Wn) ∧ W'.cell? ⟨w.heap.size, 1, none⟩ = some (.int .i64 Hn) ∧ W'.cell? ⟨w.heap.size, 2, none⟩ = some (.slice A ps.length c) ∧ W'.cell? ⟨ga, 0, none⟩ = some (.int .i64 x0) ∧ W'.cell? ⟨ga, 1, none⟩ = some (.int .i64 y0) ∧ W'.cell? ⟨gb, 0, none⟩ = some (.int .i64 x1) ∧ W'.cell? ⟨gb, 1, none⟩ = some (.int .i64 y1))
        (first | exact ⟨q0, q1, q2, q3, q4, q5, q6⟩ | assumption | exact seven_k (Below.drew (Below.refl _ _)) ⟨q0, q1, q2, q3, q4, q5, q6⟩ | exact seven_k hb4 ⟨q0, q1, q2, q3, q4, q5, q6⟩)
        (first | (go_at_call 32; refine (HD.out _ (by first | exact hbb3 | exact Below.drew hbb3)).mono ?_; rintro e w4 ⟨rfl, hb4⟩; have hbd := Below.trans (show Below w.heap.size w _ by first | exact hbb3 | exact Below.drew hbb3) (hb4.mono hbb3.size)) | (go_at_call_of 36 (Value.int .i64 (x0 - x1)); refine (HP.out _).mono ?_; rintro e w5 ⟨rfl, rfl⟩) | (go_at_call_of 36 (Value.int .i64 (y0 - y1)); refine (HQ.out _).mono ?_; rintro e w6 ⟨rfl, rfl⟩))
      all_goals
        go_wp2
        go_ret2
        exact ⟨rfl, by first | exact hbd | exact Below.drew hbd⟩
end Go.Proofs
