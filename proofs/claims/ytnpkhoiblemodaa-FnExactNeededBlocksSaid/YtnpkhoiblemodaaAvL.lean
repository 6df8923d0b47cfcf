/-
  Contracts of chapter 4: is it a corner? Are they a city and two corners? Both sides.
-/
import Derived.Test.YtnpkhoiblemodaaAfA
import Derived.Deep.RegionHeld3
namespace Go.Proofs
open Go.RowKit Av Gm Go.Maps
set_option linter.unusedVariables false
set_option linter.unusedSimpArgs false
/-- do these two numbers tell a corner? -/
def isC (W H : Int) (xs : List Int) : Bool := decide (xs.length = 2) && onB W H (xs.getD 0 0) (xs.getD 1 0)
theorem isC_len {W H : Int} {xs : List Int} (h : xs.length ≠ 2) : isC W H xs = false := by unfold isC; rw [decide_eq_false h]; rfl
theorem len_two {xs : List Int} (h : xs.length = 2) : ∃ x y, xs = [x, y] := by
  match xs, h with
  | [x, y], _ => exact ⟨x, y, rfl⟩
theorem isC_two (W H x y : Int) : isC W H [x, y] = onB W H x y := rfl
theorem isC_vtx {W H : Int} {xs : List Int} (h : isC W H xs = true) (hW : 1 ≤ W ∧ W ≤ 8) (hH : 1 ≤ H ∧ H ≤ 8) : (xs.getD 0 0 * H + xs.getD 1 0).toNat < W.toNat * H.toNat ∧ xs = [(crn H.toNat (xs.getD 0 0 * H + xs.getD 1 0).toNat).1, (crn H.toNat (xs.getD 0 0 * H + xs.getD 1 0).toNat).2] := by
  unfold isC at h
  rw [Bool.and_eq_true] at h
  obtain ⟨x, y, rfl⟩ := len_two (of_decide_eq_true h.1)
  have ho : onC W H (x, y) := of_decide_eq_true h.2
  unfold onC at ho
  simp only at ho
  obtain ⟨X, rfl⟩ : ∃ X : Nat, x = X := ⟨x.toNat, by omega⟩
  obtain ⟨Y, rfl⟩ : ∃ Y : Nat, y = Y := ⟨y.toNat, by omega⟩
  obtain ⟨Wn, rfl⟩ : ∃ Wn : Nat, W = Wn := ⟨W.toNat, by omega⟩
  obtain ⟨Hn, rfl⟩ : ∃ Hn : Nat, H = Hn := ⟨H.toNat, by omega⟩
  have e : (((X : Int) * (Hn : Int)) + (Y : Int)).toNat = X * Hn + Y := by
    have : ((X : Int) * (Hn : Int)) + (Y : Int) = ((X * Hn + Y : Nat) : Int) := by push_cast; rfl
    rw [this]; rfl
  obtain ⟨i1, i2, i3⟩ := idx_on (Wn := Wn) (Hn := Hn) (x := X) (y := Y) (by omega) (by omega)
  simp only [List.getD_cons_zero, List.getD_cons_succ, Int.toNat_natCast]
  rw [e]
  refine ⟨i1, ?_⟩
  unfold crn
  simp only
  rw [i2, i3]
set_option maxRecDepth 100000 in
set_option maxHeartbeats 1600000 in
theorem Try.avCorner (w : World) (W H : Int) (A : Option Addr) (n c : Nat) (Bl : Nat) (la : Value) (xs : List Int) (hW : 1 ≤ W ∧ W ≤ 8) (hH : 1 ≤ H ∧ H ≤ 8) (v : Bool) (hv : isC W H xs = v) (hla : OwnI w Bl la xs) :
    Calls Try.prog 58 #[.agg #[.int .i64 W, .int .i64 H, .slice A n c], la] w fun e w' => e = .returned (.bool v) ∧ Gr w w' := by
  have mixed : Try.prog.follows .mixedOrders = true := by kernel_rfl
  obtain ⟨q0, q1, q2⟩ := boxG3 (w := w) (W := w.alloc (.cells #[.int .i64 W, .int .i64 H, .slice A n c] 30)) (Gr.refl _)
  by_cases hl : xs.length = 2
  · obtain ⟨x, y, rfl⟩ := len_two hl
    rcases hla.view with ⟨hx, _⟩ | ⟨_, gl, cl, rfl, _, gl2, _, _, _⟩
    · cases hx
    obtain ⟨l0, _⟩ := hla.at rfl 0 (by simp)
    obtain ⟨l1, _⟩ := hla.at rfl 1 (by simp)
    simp only [List.getD_cons_zero, List.getD_cons_succ, List.length_cons, List.length_nil, Nat.zero_add, Nat.reduceAdd] at l0 l1 ⊢
    have r0 := gr_all (Gr.alloc (Gr.refl _) (.cells #[.int .i64 W, .int .i64 H, .slice A n c] 30)) l0
    have r1 := gr_all (Gr.alloc (Gr.refl _) (.cells #[.int .i64 W, .int .i64 H, .slice A n c] 30)) l1
    rw [isC_two, onB_inn] at hv
    subst hv
    clear hla l0 l1 hl
    cases h1 : inn x 0 (W - 1)
    · have H1 := Lib.hid h1
      clear h1
      go_enter Try.func58, Try.ntmps58
      go_wp2
      (refine wp_region_quiet_grown mixed (by kernel_rfl) ?_; (repeat (first | go_big_quiet_step ((first | (go_at_call 50; exact Calls.grown_of (same_gr (Try.l1In _ _ _ _ H1.out _))))) | quiet_step ((first | (go_at_call 50; exact Calls.grown_of (same_gr (Try.l1In _ _ _ _ H1.out _))))))); refine wpQuiet_nil ?_; intro _ hw'; obtain ⟨⟨nq, osq⟩, hw''⟩ := hw'; subst hw'')
      go_wp2
      go_ret
      exact ⟨rfl, by repeat (first | exact Gr.refl _ | refine Gr.alloc ?_ _ | refine Gr.trans ?_ (by assumption) | refine Gr.drew ?_ | refine Gr.drewN ?_ _ | refine Gr.grow ?_ _ | refine Gr.setCell ?_ (by (try simp); (try omega)) _)⟩
    · cases h2 : inn y 0 (H - 1)
      all_goals
        have H1 := Lib.hid h1
        have H2 := Lib.hid h2
        clear h1 h2
        go_enter Try.func58, Try.ntmps58
        go_wp2
        (refine wp_region_quiet_grown mixed (by kernel_rfl) ?_; (repeat (first | go_big_quiet_step ((first | (go_at_call_of 50 (Value.int .i64 x); exact Calls.grown_of (same_gr (Try.l1In _ _ _ _ H1.out _))) | (go_at_call_of 50 (Value.int .i64 y); exact Calls.grown_of (same_gr (Try.l1In _ _ _ _ H2.out _))))) | quiet_step ((first | (go_at_call_of 50 (Value.int .i64 x); exact Calls.grown_of (same_gr (Try.l1In _ _ _ _ H1.out _))) | (go_at_call_of 50 (Value.int .i64 y); exact Calls.grown_of (same_gr (Try.l1In _ _ _ _ H2.out _))))))); refine wpQuiet_nil ?_; intro _ hw'; obtain ⟨⟨nq, osq⟩, hw''⟩ := hw'; subst hw'')
        go_wp2
        go_ret
        exact ⟨rfl, by repeat (first | exact Gr.refl _ | refine Gr.alloc ?_ _ | refine Gr.trans ?_ (by assumption) | refine Gr.drew ?_ | refine Gr.drewN ?_ _ | refine Gr.grow ?_ _ | refine Gr.setCell ?_ (by (try simp); (try omega)) _)⟩
  · rw [isC_len hl] at hv
    subst hv
    obtain ⟨A1, c1, rfl⟩ := hla.form
    have z : ¬ (xs.length : Int) = 2 := by omega
    clear hla
    go_enter Try.func58, Try.ntmps58
    go_wp2
    (refine wp_region_quiet_grown mixed (by kernel_rfl) ?_; (repeat (first | go_big_quiet_step ((fail)) | quiet_step ((fail)))); refine wpQuiet_nil ?_; intro _ hw'; obtain ⟨⟨nq, osq⟩, hw''⟩ := hw'; subst hw'')
    go_wp2
    go_ret
    exact ⟨rfl, by repeat (first | exact Gr.refl _ | refine Gr.alloc ?_ _ | refine Gr.trans ?_ (by assumption) | refine Gr.drew ?_ | refine Gr.drewN ?_ _ | refine Gr.grow ?_ _ | refine Gr.setCell ?_ (by (try simp); (try omega)) _)⟩
set_option maxRecDepth 100000 in
set_option maxHeartbeats 1600000 in
theorem Try.avAsked (w : World) (W H : Int) (B : Nat) (a : Value) (ps : List Blk) (Ba : Nat) (la : Value) (xs : List Int) (Bb : Nat) (lb : Value) (ys : List Int) (b1 b2 b3 : Bool) (h1 : okB W H ps = b1) (h2 : isC W H xs = b2) (h3 : isC W H ys = b3) (hl : ps.length ≤ 1048576) (h : OwnB w B a ps) (hla : OwnI w Ba la xs) (hlb : OwnI w Bb lb ys) :
    Calls Try.prog 39 #[.agg #[.int .i64 W, .int .i64 H, a], la, lb] w fun e w' => e = .returned (.bool (b1 && b2 && b3)) ∧ Gr w w' := by
  have mixed : Try.prog.follows .mixedOrders = true := by kernel_rfl
  obtain ⟨A, c, rfl, h⟩ := OwnE.eta h
  have HA := Lib.hid (fun (X : World) (g : Gr w X) => Try.avGood X W H B _ ps b1 h1 hl (h.gr g))
  have HR := Lib.hid h1
  have H2 := Lib.hid (fun (X : World) (g : Gr w X) hW hH => Try.avCorner X W H A ps.length c Ba la xs hW hH b2 h2 (hla.gr g))
  have H3 := Lib.hid (fun (X : World) (g : Gr w X) hW hH => Try.avCorner X W H A ps.length c Bb lb ys hW hH b3 h3 (hlb.gr g))
  clear h hla hlb h1 h2 h3
  cases b1
  · go_enter Try.func39, Try.ntmps39
    go_wp2_with (first | (go_at_call 28; refine (HA.out _ (by repeat (first | exact Gr.refl _ | refine Gr.alloc ?_ _ | refine Gr.trans ?_ (by assumption) | refine Gr.drew ?_ | refine Gr.drewN ?_ _ | refine Gr.grow ?_ _ | refine Gr.setCell ?_ (by (try simp); (try omega)) _))).mono ?_; rintro e w1 ⟨rfl, hbW⟩; have hcW := (bcell hbW.below).1; have hfW := (bcell hbW.below).2; (try have hzW : w.heap.size < w1.heap.size := by have hq := hbW.below.size; (try simp at hq); omega); (try have hyW : w.heap.size + 1 < w1.heap.size := by have hq := hbW.below.size; (try simp at hq); omega); (try have hxW : w.heap.size + 2 < w1.heap.size := by have hq := hbW.below.size; (try simp at hq); omega)))
    go_ret
    exact ⟨rfl, by repeat (first | exact Gr.refl _ | refine Gr.alloc ?_ _ | refine Gr.trans ?_ (by assumption) | refine Gr.drew ?_ | refine Gr.drewN ?_ _ | refine Gr.grow ?_ _ | refine Gr.setCell ?_ (by (try simp); (try omega)) _)⟩
  · obtain ⟨w1', w2', w3', w4', _⟩ := of_decide_eq_true HR.out
    cases b2
    · go_enter Try.func39, Try.ntmps39
      go_wp2_with (first | (go_at_call 28; refine (HA.out _ (by repeat (first | exact Gr.refl _ | refine Gr.alloc ?_ _ | refine Gr.trans ?_ (by assumption) | refine Gr.drew ?_ | refine Gr.drewN ?_ _ | refine Gr.grow ?_ _ | refine Gr.setCell ?_ (by (try simp); (try omega)) _))).mono ?_; rintro e w1 ⟨rfl, hbW⟩; have hcW := (bcell hbW.below).1; have hfW := (bcell hbW.below).2; (try have hzW : w.heap.size < w1.heap.size := by have hq := hbW.below.size; (try simp at hq); omega); (try have hyW : w.heap.size + 1 < w1.heap.size := by have hq := hbW.below.size; (try simp at hq); omega); (try have hxW : w.heap.size + 2 < w1.heap.size := by have hq := hbW.below.size; (try simp at hq); omega)) | (go_at_call_of 58 (la); refine (H2.out _ (by repeat (first | exact Gr.refl _ | refine Gr.alloc ?_ _ | refine Gr.trans ?_ (by assumption) | refine Gr.drew ?_ | refine Gr.drewN ?_ _ | refine Gr.grow ?_ _ | refine Gr.setCell ?_ (by (try simp); (try omega)) _)) ⟨w1', w2'⟩ ⟨w3', w4'⟩).mono ?_; rintro e w1 ⟨rfl, hbW⟩; have hcW := (bcell hbW.below).1; have hfW := (bcell hbW.below).2; (try have hzW : w.heap.size < w1.heap.size := by have hq := hbW.below.size; (try simp at hq); omega); (try have hyW : w.heap.size + 1 < w1.heap.size := by have hq := hbW.below.size; (try simp at hq); omega); (try have hxW : w.heap.size + 2 < w1.heap.size := by have hq := hbW.below.size; (try simp at hq); omega)))
      go_ret
      exact ⟨rfl, by repeat (first | exact Gr.refl _ | refine Gr.alloc ?_ _ | refine Gr.trans ?_ (by assumption) | refine Gr.drew ?_ | refine Gr.drewN ?_ _ | refine Gr.grow ?_ _ | refine Gr.setCell ?_ (by (try simp); (try omega)) _)⟩
    · go_enter Try.func39, Try.ntmps39
      go_wp2_with (first | (go_at_call 28; refine (HA.out _ (by repeat (first | exact Gr.refl _ | refine Gr.alloc ?_ _ | refine Gr.trans ?_ (by assumption) | refine Gr.drew ?_ | refine Gr.drewN ?_ _ | refine Gr.grow ?_ _ | refine Gr.setCell ?_ (by (try simp); (try omega)) _))).mono ?_; rintro e w1 ⟨rfl, hbW⟩; have hcW := (bcell hbW.below).1; have hfW := (bcell hbW.below).2; (try have hzW : w.heap.size < w1.heap.size := by have hq := hbW.below.size; (try simp at hq); omega); (try have hyW : w.heap.size + 1 < w1.heap.size := by have hq := hbW.below.size; (try simp at hq); omega); (try have hxW : w.heap.size + 2 < w1.heap.size := by have hq := hbW.below.size; (try simp at hq); omega)) | (go_at_call_of 58 (la); refine (H2.out _ (by repeat (first | exact Gr.refl _ | refine Gr.alloc ?_ _ | refine Gr.trans ?_ (by assumption) | refine Gr.drew ?_ | refine Gr.drewN ?_ _ | refine Gr.grow ?_ _ | refine Gr.setCell ?_ (by (try simp); (try omega)) _)) ⟨w1', w2'⟩ ⟨w3', w4'⟩).mono ?_; rintro e w1 ⟨rfl, hbW⟩; have hcW := (bcell hbW.below).1; have hfW := (bcell hbW.below).2; (try have hzW : w.heap.size < w1.heap.size := by have hq := hbW.below.size; (try simp at hq); omega); (try have hyW : w.heap.size + 1 < w1.heap.size := by have hq := hbW.below.size; (try simp at hq); omega); (try have hxW : w.heap.size + 2 < w1.heap.size := by have hq := hbW.below.size; (try simp at hq); omega)) | (go_at_call_of 58 (lb); refine (H3.out _ (by repeat (first | exact Gr.refl _ | refine Gr.alloc ?_ _ | refine Gr.trans ?_ (by assumption) | refine Gr.drew ?_ | refine Gr.drewN ?_ _ | refine Gr.grow ?_ _ | refine Gr.setCell ?_ (by (try simp); (try omega)) _)) ⟨w1', w2'⟩ ⟨w3', w4'⟩).mono ?_; rintro e w1 ⟨rfl, hbW⟩; have hcW := (bcell hbW.below).1; have hfW := (bcell hbW.below).2; (try have hzW : w.heap.size < w1.heap.size := by have hq := hbW.below.size; (try simp at hq); omega); (try have hyW : w.heap.size + 1 < w1.heap.size := by have hq := hbW.below.size; (try simp at hq); omega); (try have hxW : w.heap.size + 2 < w1.heap.size := by have hq := hbW.below.size; (try simp at hq); omega)))
      go_ret
      exact ⟨by simp, by repeat (first | exact Gr.refl _ | refine Gr.alloc ?_ _ | refine Gr.trans ?_ (by assumption) | refine Gr.drew ?_ | refine Gr.drewN ?_ _ | refine Gr.grow ?_ _ | refine Gr.setCell ?_ (by (try simp); (try omega)) _)⟩
/-- how far it is from one vertex to another one, or -1 -/
def dst (Wn Hn : Nat) (ps : List Blk) (s0 t0 : Nat) : Int := f (fin (nbC Wn Hn ps) (Wn * Hn) s0) t0
theorem dst_bd {Wn Hn : Nat} {ps : List Blk} {s0 t0 : Nat} (hs : s0 < Wn * Hn) (ht : t0 < Wn * Hn) : -1 ≤ dst Wn Hn ps s0 t0 ∧ dst Wn Hn ps s0 t0 < Wn * Hn := by
  have h := (fin_bf (@nb_valid Wn Hn ps) hs).inv
  have a := h.fm t0 ht
  have b := h.len
  unfold dst
  have c : ((Wn * Hn : Nat) : Int) = (Wn : Int) * Hn := by push_cast; rfl
  omega
set_option maxRecDepth 100000 in
set_option maxHeartbeats 1600000 in
theorem Try.avDistance (w : World) (Wn Hn : Nat) (B : Nat) (a : Value) (ps : List Blk) (Ba : Nat) (la : Value) (s0 : Nat) (Bb : Nat) (lb : Value) (t0 : Nat) (hW : 1 ≤ Wn ∧ Wn ≤ 8) (hH : 1 ≤ Hn ∧ Hn ≤ 8) (hs : s0 < Wn * Hn) (ht : t0 < Wn * Hn) (hl : ps.length ≤ 1048576) (h : OwnB w B a ps) (hla : OwnI w Ba la [(crn Hn s0).1, (crn Hn s0).2]) (hlb : OwnI w Bb lb [(crn Hn t0).1, (crn Hn t0).2]) :
    Calls Try.prog 40 #[.agg #[.int .i64 Wn, .int .i64 Hn, a], la, lb] w fun e w' => e = .returned (.int .i64 (dst Wn Hn ps s0 t0)) ∧ Below w.heap.size w w' := by
  have mixed : Try.prog.follows .mixedOrders = true := by kernel_rfl
  obtain ⟨A, c, rfl, h⟩ := OwnE.eta h
  have HF := Lib.hid (fun (X : World) (g : Gr w X) => Try.avFar X Wn Hn B _ ps s0 Ba la hW hH hs hl (h.gr g) (hla.gr g))
  rcases hlb.view with ⟨hx, _⟩ | ⟨_, gl, cl, rfl, _, gl2, _, _, _⟩
  · cases hx
  obtain ⟨l0, _⟩ := hlb.at rfl 0 (by simp)
  obtain ⟨l1, _⟩ := hlb.at rfl 1 (by simp)
  simp only [List.getD_cons_zero, List.getD_cons_succ, List.length_cons, List.length_nil, Nat.zero_add, Nat.reduceAdd] at l0 l1 ⊢
  have hfl := (fin_bf (@nb_valid Wn Hn ps) hs).inv.fl
  have HD := Lib.hid (show ∀ (w3 : World) (B3 : Nat) (v : Value), OwnI w3 B3 v (fin (nbC Wn Hn ps) (Wn * Hn) s0).far → ∃ g c, v = .slice (some ⟨g, 0, none⟩) (Wn * Hn) c ∧ w3.cell? ⟨g, t0, none⟩ = some (.int .i64 (dst Wn Hn ps s0 t0)) from fun w3 B3 v ho => by
    rcases ho.view with ⟨hx, _⟩ | ⟨_, g, c, rfl, _, _, _, hc, _⟩
    · rw [hx] at hfl; simp at hfl; omega
    · exact ⟨g, c, by rw [hfl], hc t0 (by rw [hfl]; exact ht)⟩)
  obtain ⟨d0, d1⟩ := dst_bd (ps := ps) hs ht
  have hN : Wn * Hn ≤ 64 := Nat.mul_le_mul hW.2 hH.2
  have hdm : Hn * (t0 / Hn) + t0 % Hn = t0 := Nat.div_add_mod t0 Hn
  rw [Nat.mul_comm] at hdm
  rw [show (crn Hn t0).1 = ((t0 / Hn : Nat) : Int) from rfl] at l0
  rw [show (crn Hn t0).2 = ((t0 % Hn : Nat) : Int) from rfl] at l1
  have hPi : ((t0 / Hn : Nat) : Int) * (Hn : Int) = ((t0 / Hn * Hn : Nat) : Int) := by push_cast; rfl
  generalize t0 / Hn = X at *
  generalize t0 % Hn = Y at *
  generalize X * Hn = P at *
  generalize hNN : Wn * Hn = N at *
  have hsP : (P : Int) + (Y : Int) = (t0 : Int) := by omega
  have hP64 : P ≤ 64 := by omega
  have hY64 : Y ≤ 64 := by omega
  have zs0 : (0 : Int) ≤ (t0 : Int) := by omega
  have zs1 : (t0 : Int) < (N : Int) := by omega
  have hwc : IntKind.i64.wrap (P : Int) = (P : Int) := IntWalk.i64_in _ (by omega)
  have hwd : IntKind.i64.wrap (t0 : Int) = (t0 : Int) := IntWalk.i64_in _ (by omega)
  generalize dst Wn Hn ps s0 t0 = d at *
  obtain ⟨W0, hW0⟩ : ∃ W0, w.alloc (.cells #[.int .i64 Wn, .int .i64 Hn, .slice A ps.length c] 30) = W0 := ⟨_, rfl⟩
  have GW : Gr w W0 := by subst hW0; exact by repeat (first | exact Gr.refl _ | refine Gr.alloc ?_ _ | refine Gr.trans ?_ (by assumption) | refine Gr.drew ?_ | refine Gr.drewN ?_ _ | refine Gr.grow ?_ _ | refine Gr.setCell ?_ (by (try simp); (try omega)) _)
  have k0 : W0.cell? ⟨w.heap.size, 0, none⟩ = some (.int .i64 Wn) := by subst hW0; simp [go_sem]
  have k1 : W0.cell? ⟨w.heap.size, 1, none⟩ = some (.int .i64 Hn) := by subst hW0; simp [go_sem]
  have k2 : W0.cell? ⟨w.heap.size, 2, none⟩ = some (.slice A ps.length c) := by subst hW0; simp [go_sem]
  have l0' := GW.keep0 l0
  have l1' := GW.keep0 l1
  have HG := Lib.hid GW
  clear h hla hlb l0 l1 hs ht hl hfl hdm d0 d1 GW hNN
  go_enter Try.func40, Try.ntmps40
  go_wp2_with fail
  have hall : W0.cell? ⟨w.heap.size, 0, none⟩ = some (.int .i64 Wn) ∧ W0.cell? ⟨w.heap.size, 1, none⟩ = some (.int .i64 Hn) ∧ W0.cell? ⟨w.heap.size, 2, none⟩ = some (.slice A ps.length c) ∧ W0.cell? ⟨gl, 0, none⟩ = some (.int .i64 X) ∧ W0.cell? ⟨gl, 1, none⟩ = some (.int .i64 Y) := ⟨k0, k1, k2, l0', l1'⟩
  refine wp_region_held_drew (S := fun W' => W'.cell? ⟨w.heap.size, 0, none⟩ = some (.int .i64 Wn) ∧ W'.cell? ⟨w.heap.size, 1, none⟩ = some (.int .i64 Hn) ∧ W'.cell? ⟨w.heap.size, 2, none⟩ = some (.slice A ps.length c) ∧ W'.cell? ⟨gl, 0, none⟩ = some (.int .i64 X) ∧ W'.cell? ⟨gl, 1, none⟩ = some (.int .i64 Y)) (by kernel_rfl) ?_ (fun hHeld => ?_)
  · exact hall
  (refine wpAnyH_take (i := 0) (v := ?_) (by simp only [List.getElem?_toArray, List.getElem?_cons_succ, List.getElem?_cons_zero]; exact rfl) (by kernel_rfl) (by kernel_rfl) (by kernel_rfl) (by intro _ _ _ h; exact h) (Or.inl ⟨by rfl, ?_⟩) (by assumption) ?_; rotate_left; (focus (intro w' hSw; (try dsimp only at hSw); go_simp; (try with_reducible rfl))); try simp only [Act.put, List.setIfInBounds_toArray, List.set_cons_zero, List.set_cons_succ])
  (refine wpAnyH_take (i := 1) (v := ?_) (by simp only [List.getElem?_toArray, List.getElem?_cons_succ, List.getElem?_cons_zero]; exact rfl) (by kernel_rfl) (by kernel_rfl) (by kernel_rfl) (by intro _ _ _ h; exact h) (Or.inl ⟨by rfl, ?_⟩) (by assumption) ?_; rotate_left; (focus (intro w' hSw; (try dsimp only at hSw); go_simp; (try with_reducible rfl))); try simp only [Act.put, List.setIfInBounds_toArray, List.set_cons_zero, List.set_cons_succ])
  (refine wpAnyH_take (i := 3) (v := ?_) (by simp only [List.getElem?_toArray, List.getElem?_cons_succ, List.getElem?_cons_zero]; exact rfl) (by kernel_rfl) (by kernel_rfl) (by kernel_rfl) (by intro _ _ _ h; exact h) (Or.inl ⟨by rfl, ?_⟩) (by assumption) ?_; rotate_left; (focus (intro w' hSw; (try dsimp only at hSw); go_simp; (try with_reducible rfl))); try simp only [Act.put, List.setIfInBounds_toArray, List.set_cons_zero, List.set_cons_succ])
  (refine wpAnyH_take (i := 4) (v := ?_) (by simp only [List.getElem?_toArray, List.getElem?_cons_succ, List.getElem?_cons_zero]; exact rfl) (by kernel_rfl) (by kernel_rfl) (by kernel_rfl) (by intro _ _ _ h; exact h) (Or.inl ⟨by rfl, ?_⟩) (by assumption) ?_; rotate_left; (focus (intro w' hSw; (try dsimp only at hSw); go_simp; (try with_reducible rfl))); try simp only [Act.put, List.setIfInBounds_toArray, List.set_cons_zero, List.set_cons_succ])
  (refine wpAnyH_take (i := 5) (v := ?_) (by simp only [List.getElem?_toArray, List.getElem?_cons_succ, List.getElem?_cons_zero]; exact rfl) (by kernel_rfl) (by kernel_rfl) (by kernel_rfl) (by intro _ _ _ h; exact h) (Or.inl ⟨by rfl, ?_⟩) (by assumption) ?_; rotate_left; (focus (intro w' hSw; (try dsimp only at hSw); go_simp; (try with_reducible rfl))); try simp only [Act.put, List.setIfInBounds_toArray, List.set_cons_zero, List.set_cons_succ])
  (refine wpAnyH_take (i := 6) (v := ?_) (by simp only [List.getElem?_toArray, List.getElem?_cons_succ, List.getElem?_cons_zero]; exact rfl) (by kernel_rfl) (by kernel_rfl) (by kernel_rfl) (by intro _ _ _ h; exact h) (Or.inl ⟨by rfl, ?_⟩) (by assumption) ?_; rotate_left; (focus (intro w' hSw; (try dsimp only at hSw); go_simp; (try with_reducible rfl))); try simp only [Act.put, List.setIfInBounds_toArray, List.set_cons_zero, List.set_cons_succ])
  (refine wpAnyH_take (i := 7) (v := ?_) (by simp only [List.getElem?_toArray, List.getElem?_cons_succ, List.getElem?_cons_zero]; exact rfl) (by kernel_rfl) (by kernel_rfl) (by kernel_rfl) (by intro _ _ _ h; exact h) (Or.inl ⟨by rfl, ?_⟩) (by assumption) ?_; rotate_left; (focus (intro w' hSw; (try dsimp only at hSw); go_simp; (try with_reducible rfl))); try simp only [Act.put, List.setIfInBounds_toArray, List.set_cons_zero, List.set_cons_succ])
  (refine wpAnyH_take (i := 8) (v := ?_) (by simp only [List.getElem?_toArray, List.getElem?_cons_succ, List.getElem?_cons_zero]; exact rfl) (by kernel_rfl) (by kernel_rfl) (by kernel_rfl) (by intro _ _ _ h; exact h) (Or.inl ⟨by rfl, ?_⟩) (by assumption) ?_; rotate_left; (focus (intro w' hSw; (try dsimp only at hSw); go_simp; (try with_reducible rfl))); try simp only [Act.put, List.setIfInBounds_toArray, List.set_cons_zero, List.set_cons_succ])
  (refine wpAnyH_take (i := 9) (v := ?_) (by simp only [List.getElem?_toArray, List.getElem?_cons_succ, List.getElem?_cons_zero]; exact rfl) (by kernel_rfl) (by kernel_rfl) (by kernel_rfl) (by intro _ _ _ h; exact h) (Or.inl ⟨by rfl, ?_⟩) (by assumption) ?_; rotate_left; (focus (intro w' hSw; (try dsimp only at hSw); go_simp; (try with_reducible rfl))); try simp only [Act.put, List.setIfInBounds_toArray, List.set_cons_zero, List.set_cons_succ])
  (refine wpAnyH_take (i := 10) (v := ?_) (by simp only [List.getElem?_toArray, List.getElem?_cons_succ, List.getElem?_cons_zero]; exact rfl) (by kernel_rfl) (by kernel_rfl) (by kernel_rfl) (by intro _ _ _ h; exact h) (Or.inl ⟨by rfl, ?_⟩) (by assumption) ?_; rotate_left; (focus (intro w' hSw; (try dsimp only at hSw); go_simp; (try with_reducible rfl))); try simp only [Act.put, List.setIfInBounds_toArray, List.set_cons_zero, List.set_cons_succ])
  (refine wpAnyH_take (i := 11) (v := ?_) (by simp only [List.getElem?_toArray, List.getElem?_cons_succ, List.getElem?_cons_zero]; exact rfl) (by kernel_rfl) (by kernel_rfl) (by kernel_rfl) (by intro _ _ _ h; exact h) (Or.inl ⟨by rfl, ?_⟩) (by assumption) ?_; rotate_left; (focus (intro w' hSw; (try dsimp only at hSw); go_simp; (try with_reducible rfl))); try simp only [Act.put, List.setIfInBounds_toArray, List.set_cons_zero, List.set_cons_succ])
  (refine wpAnyH_take (i := 12) (v := ?_) (by simp only [List.getElem?_toArray, List.getElem?_cons_succ, List.getElem?_cons_zero]; exact rfl) (by kernel_rfl) (by kernel_rfl) (by kernel_rfl) (by intro _ _ _ h; exact h) (Or.inl ⟨by rfl, ?_⟩) (by assumption) ?_; rotate_left; (focus (intro w' hSw; (try dsimp only at hSw); go_simp; (try with_reducible rfl))); try simp only [Act.put, List.setIfInBounds_toArray, List.set_cons_zero, List.set_cons_succ])
  refine wpAnyH_ready (rs := [2]) (by kernel_rfl) (by simp) (AllReadyH.cons (by simp only [List.getElem?_toArray, List.getElem?_cons_succ, List.getElem?_cons_zero]; exact rfl) (fun K' hK => ?_) AllReadyH.nil)
  go_wp2_with (first | (go_at_call 59; refine (HF.out _ (HG.out.trans (by repeat (first | exact Gr.refl _ | refine Gr.alloc ?_ _ | refine Gr.trans ?_ (by assumption) | refine Gr.drew ?_ | refine Gr.drewN ?_ _ | refine Gr.grow ?_ _ | refine Gr.setCell ?_ (by (try simp); (try omega)) _)))).mono ?_; rintro e w3 ⟨v3, rfl, o3, b3⟩; obtain ⟨g3, c3, rfl, r3⟩ := HD.out _ _ _ o3))
  (refine hK.out _ _ (⟨cell_k2 b3 hall.1, cell_k2 b3 hall.2.1, cell_k2 b3 hall.2.2.1, cell_k2 b3 hall.2.2.2.1, cell_k2 b3 hall.2.2.2.2⟩) (fun hHeld => ?_); clear hK K'; try simp only [Act.put, List.setIfInBounds_toArray, List.set_cons_zero, List.set_cons_succ])
  (refine wpAnyH_take (i := 13) (v := ?_) (by simp only [List.getElem?_toArray, List.getElem?_cons_succ, List.getElem?_cons_zero]; exact rfl) (by kernel_rfl) (by kernel_rfl) (by kernel_rfl) (by intro _ _ _ h; exact h) (Or.inl ⟨by rfl, ?_⟩) (by assumption) ?_; rotate_left; (focus (intro w' hSw; (try dsimp only at hSw); go_simp; (try with_reducible rfl))); try simp only [Act.put, List.setIfInBounds_toArray, List.set_cons_zero, List.set_cons_succ])
  refine wpAnyH_ready (rs := [14]) (by kernel_rfl) (by simp) (AllReadyH.cons (by simp only [List.getElem?_toArray, List.getElem?_cons_succ, List.getElem?_cons_zero]; exact rfl) (fun K' hK => ?_) AllReadyH.nil)
  go_wp2
  (refine hK.out _ _ (hHeld) (fun hHeld => ?_); clear hK K'; try simp only [Act.put, List.setIfInBounds_toArray, List.set_cons_zero, List.set_cons_succ])
  (refine wpAnyH_take (i := 15) (v := ?_) (by simp only [List.getElem?_toArray, List.getElem?_cons_succ, List.getElem?_cons_zero]; exact rfl) (by kernel_rfl) (by kernel_rfl) (by kernel_rfl) (by intro _ _ _ h; exact h) (Or.inl ⟨by rfl, ?_⟩) (by assumption) ?_; rotate_left; (focus (intro w' hSw; (try dsimp only at hSw); go_simp; (try with_reducible rfl))); try simp only [Act.put, List.setIfInBounds_toArray, List.set_cons_zero, List.set_cons_succ])
  refine wpAnyH_done (by kernel_rfl) ?_ _
  go_wp2
  go_ret
  refine ⟨rfl, Below.trans HG.out.below (Below.mono (show Below W0.heap.size W0 w3 from ?_) HG.out.below.size)⟩
  first | exact b3 | exact Below.trans (Below.drew (Below.refl _ _)) b3
/-- what is told of a way: its length, if there is one -/
def cdI (W H : Int) (ps : List Blk) (xs ys : List Int) : Int := dst W.toNat H.toNat ps (xs.getD 0 0 * H + xs.getD 1 0).toNat (ys.getD 0 0 * H + ys.getD 1 0).toNat
def cdB (W H : Int) (ps : List Blk) (xs ys : List Int) : Bool := okB W H ps && isC W H xs && isC W H ys && decide (0 ≤ cdI W H ps xs ys)
def cdV (W H : Int) (ps : List Blk) (xs ys : List Int) : Int := if cdB W H ps xs ys then cdI W H ps xs ys else 0
end Go.Proofs
