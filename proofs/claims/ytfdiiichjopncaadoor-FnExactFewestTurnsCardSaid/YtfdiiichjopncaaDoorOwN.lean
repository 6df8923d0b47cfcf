/-
  Chapter 6: corners of ways, how far it is from one to another one (the model); corners of ways (the program).
-/
import Derived.Test.YtfdiiichjopncaaDoorOfA
import Derived.Test.YtfdiiichjopncaaDoorOwK
import Derived.Deep.RegionHeld3
namespace Go.Proofs
open Go.RowKit Av Gm Go.Maps
set_option linter.unusedVariables false
set_option linter.unusedSimpArgs false
/-- do these two numbers tell a corner? -/
def isC (W H : Int) (xs : List Int) : Bool := decide (xs.length = 2) && onB W H (xs.getD 0 0) (xs.getD 1 0)
theorem isC_len {W H : Int} {xs : List Int} (h : xs.length ≠ 2) : isC W H xs = false := by unfold isC; rw [decide_eq_false h]; rfl
theorem len_two {xs : List Int} (h : xs.length = 2) : ∃ x y, xs = [x, y] := by
  match xs, h with
  | [x, y], _ => exact ⟨x, y, rfl⟩
theorem isC_two (W H x y : Int) : isC W H [x, y] = onB W H x y := rfl
theorem isC_vtx {W H : Int} {xs : List Int} (h : isC W H xs = true) (hW : 1 ≤ W ∧ W ≤ 8) (hH : 1 ≤ H ∧ H ≤ 8) : (xs.getD 0 0 * H + xs.getD 1 0).toNat < W.toNat * H.toNat ∧ xs = [(crn H.toNat (xs.getD 0 0 * H + xs.getD 1 0).toNat).1, (crn H.toNat (xs.getD 0 0 * H + xs.getD 1 0).toNat).2] := by
  unfold isC at h
  rw [Bool.and_eq_true] at h
  obtain ⟨x, y, rfl⟩ := len_two (of_decide_eq_true h.1)
  have ho : onC W H (x, y) := of_decide_eq_true h.2
  unfold onC at ho
  simp only at ho
  obtain ⟨X, rfl⟩ : ∃ X : Nat, x = X := ⟨x.toNat, by omega⟩
  obtain ⟨Y, rfl⟩ : ∃ Y : Nat, y = Y := ⟨y.toNat, by omega⟩
  obtain ⟨Wn, rfl⟩ : ∃ Wn : Nat, W = Wn := ⟨W.toNat, by omega⟩
  obtain ⟨Hn, rfl⟩ : ∃ Hn : Nat, H = Hn := ⟨H.toNat, by omega⟩
  have e : (((X : Int) * (Hn : Int)) + (Y : Int)).toNat = X * Hn + Y := by
    have : ((X : Int) * (Hn : Int)) + (Y : Int) = ((X * Hn + Y : Nat) : Int) := by push_cast; rfl
    rw [this]; rfl
  obtain ⟨i1, i2, i3⟩ := idx_on (Wn := Wn) (Hn := Hn) (x := X) (y := Y) (by omega) (by omega)
  simp only [List.getD_cons_zero, List.getD_cons_succ, Int.toNat_natCast]
  rw [e]
  refine ⟨i1, ?_⟩
  unfold crn
  simp only
  rw [i2, i3]
def vx (s : ByteArray) (xs : List Int) : Nat := (xs.getD 0 0 * s.size + xs.getD 1 0).toNat
theorem isC_vx {s a : ByteArray} {xs : List Int} (h : isC a.size s.size xs = true) (hs : 2 ≤ s.size ∧ s.size ≤ 8) (ha : 2 ≤ a.size ∧ a.size ≤ 8) : vx s xs < a.size * s.size ∧ xs = [(crn s.size (vx s xs)).1, (crn s.size (vx s xs)).2] := by
  obtain ⟨h1, h2⟩ := isC_vtx h (by omega) (by omega)
  simp only [Int.toNat_natCast] at h1 h2
  exact ⟨h1, h2⟩
set_option maxRecDepth 100000 in
set_option maxHeartbeats 1600000 in
theorem Tryd.owCorner (w : World) (s a : ByteArray) (hs : 2 ≤ s.size ∧ s.size ≤ 8) (ha : 2 ≤ a.size ∧ a.size ≤ 8) (Bl : Nat) (la : Value) (xs : List Int) (v : Bool) (hv : isC a.size s.size xs = v) (hla : OwnI w Bl la xs) :
    Calls Tryd.prog 15 #[.agg #[.string s, .string a], la] w fun e w' => e = .returned (.bool v) ∧ Gr w w' := by
  have mixed : Tryd.prog.follows .mixedOrders = true := by kernel_rfl
  have q0 := gr_all (Gr.refl (w.alloc (.cells #[.string s, .string a] 28))) (a := ⟨w.heap.size, 0, none⟩) (v := .string s) (by simp [go_sem])
  have q1 := gr_all (Gr.refl (w.alloc (.cells #[.string s, .string a] 28))) (a := ⟨w.heap.size, 1, none⟩) (v := .string a) (by simp [go_sem])
  have zs : (s.size : Int) ≤ 8 := by omega
  have za : (a.size : Int) ≤ 8 := by omega
  have zs2 : (2 : Int) ≤ (s.size : Int) := by omega
  have za2 : (2 : Int) ≤ (a.size : Int) := by omega
  by_cases hl : xs.length = 2
  · obtain ⟨x, y, rfl⟩ := len_two hl
    rcases hla.view with ⟨hx, _⟩ | ⟨_, gl, cl, rfl, _, gl2, _, _, _⟩
    · cases hx
    obtain ⟨l0, _⟩ := hla.at rfl 0 (by simp)
    obtain ⟨l1, _⟩ := hla.at rfl 1 (by simp)
    simp only [List.getD_cons_zero, List.getD_cons_succ, List.length_cons, List.length_nil, Nat.zero_add, Nat.reduceAdd] at l0 l1 ⊢
    have r0 := gr_all (Gr.alloc (Gr.refl _) (.cells #[.string s, .string a] 28)) l0
    have r1 := gr_all (Gr.alloc (Gr.refl _) (.cells #[.string s, .string a] 28)) l1
    rw [isC_two, onB_inn] at hv
    subst hv
    clear hla l0 l1 hl
    cases h1 : inn x 0 (a.size - 1)
    · have H1 := Lib.hid h1
      clear h1
      go_enter Tryd.func15, Tryd.ntmps15
      go_wp2
      (refine wp_region_quiet_grown mixed (by kernel_rfl) ?_; (repeat (first | go_big_quiet_step ((first | (go_at_call 21; exact Calls.grown_of (same_gr (Tryd.l1In _ _ _ _ H1.out _))))) | quiet_step ((first | (go_at_call 21; exact Calls.grown_of (same_gr (Tryd.l1In _ _ _ _ H1.out _))))))); refine wpQuiet_nil ?_; intro _ hw'; obtain ⟨⟨nq, osq⟩, hw''⟩ := hw'; subst hw'')
      go_wp2
      go_ret
      exact ⟨rfl, by repeat (first | exact Gr.refl _ | refine Gr.alloc ?_ _ | refine Gr.trans ?_ (by assumption) | refine Gr.drew ?_ | refine Gr.drewN ?_ _ | refine Gr.grow ?_ _ | refine Gr.setCell ?_ (by (try simp); (try omega)) _)⟩
    · cases h2 : inn y 0 (s.size - 1)
      all_goals
        have H1 := Lib.hid h1
        have H2 := Lib.hid h2
        clear h1 h2
        go_enter Tryd.func15, Tryd.ntmps15
        go_wp2
        (refine wp_region_quiet_grown mixed (by kernel_rfl) ?_; (repeat (first | go_big_quiet_step ((first | (go_at_call_of 21 (Value.int .i64 x); exact Calls.grown_of (same_gr (Tryd.l1In _ _ _ _ H1.out _))) | (go_at_call_of 21 (Value.int .i64 y); exact Calls.grown_of (same_gr (Tryd.l1In _ _ _ _ H2.out _))))) | quiet_step ((first | (go_at_call_of 21 (Value.int .i64 x); exact Calls.grown_of (same_gr (Tryd.l1In _ _ _ _ H1.out _))) | (go_at_call_of 21 (Value.int .i64 y); exact Calls.grown_of (same_gr (Tryd.l1In _ _ _ _ H2.out _))))))); refine wpQuiet_nil ?_; intro _ hw'; obtain ⟨⟨nq, osq⟩, hw''⟩ := hw'; subst hw'')
        go_wp2
        go_ret
        exact ⟨rfl, by repeat (first | exact Gr.refl _ | refine Gr.alloc ?_ _ | refine Gr.trans ?_ (by assumption) | refine Gr.drew ?_ | refine Gr.drewN ?_ _ | refine Gr.grow ?_ _ | refine Gr.setCell ?_ (by (try simp); (try omega)) _)⟩
  · rw [isC_len hl] at hv
    subst hv
    obtain ⟨A1, c1, rfl⟩ := hla.form
    have z : ¬ (xs.length : Int) = 2 := by omega
    clear hla
    go_enter Tryd.func15, Tryd.ntmps15
    go_wp2
    (refine wp_region_quiet_grown mixed (by kernel_rfl) ?_; (repeat (first | go_big_quiet_step ((fail)) | quiet_step ((fail)))); refine wpQuiet_nil ?_; intro _ hw'; obtain ⟨⟨nq, osq⟩, hw''⟩ := hw'; subst hw'')
    go_wp2
    go_ret
    exact ⟨rfl, by repeat (first | exact Gr.refl _ | refine Gr.alloc ?_ _ | refine Gr.trans ?_ (by assumption) | refine Gr.drew ?_ | refine Gr.drewN ?_ _ | refine Gr.grow ?_ _ | refine Gr.setCell ?_ (by (try simp); (try omega)) _)⟩
set_option maxRecDepth 100000 in
set_option maxHeartbeats 1600000 in
theorem Tryd.owAsked (w : World) (s a : ByteArray) (hs : s.size ≤ maxLen) (ha : a.size ≤ maxLen) (Ba : Nat) (la : Value) (xs : List Int) (Bb : Nat) (lb : Value) (ys : List Int) (b1 b2 b3 : Bool) (h1 : okW s a = b1) (h2 : isC a.size s.size xs = b2) (h3 : isC a.size s.size ys = b3) (hla : OwnI w Ba la xs) (hlb : OwnI w Bb lb ys) :
    Calls Tryd.prog 10 #[.agg #[.string s, .string a], la, lb] w fun e w' => e = .returned (.bool (b1 && b2 && b3)) ∧ Gr w w' := by
  have mixed : Tryd.prog.follows .mixedOrders = true := by kernel_rfl
  have HA := Lib.hid (fun (X : World) => Tryd.owGood X s a hs ha b1 h1)
  have HR := Lib.hid h1
  have H2 := Lib.hid (fun (X : World) (g : Gr w X) hW hH => Tryd.owCorner X s a hW hH Ba la xs b2 h2 (hla.gr g))
  have H3 := Lib.hid (fun (X : World) (g : Gr w X) hW hH => Tryd.owCorner X s a hW hH Bb lb ys b3 h3 (hlb.gr g))
  clear hla hlb h1 h2 h3 hs ha
  cases b1
  · go_enter Tryd.func10, Tryd.ntmps10
    go_wp2_with (first | (go_at_call 14; refine (HA.out _).mono ?_; rintro e w1 ⟨rfl, hbW⟩; have hcW := (bcell hbW.below).1; have hfW := (bcell hbW.below).2; (try have hzW : w.heap.size < w1.heap.size := by have hq := hbW.below.size; (try simp at hq); omega); (try have hyW : w.heap.size + 1 < w1.heap.size := by have hq := hbW.below.size; (try simp at hq); omega); (try have hxW : w.heap.size + 2 < w1.heap.size := by have hq := hbW.below.size; (try simp at hq); omega)))
    go_ret
    exact ⟨rfl, by repeat (first | exact Gr.refl _ | refine Gr.alloc ?_ _ | refine Gr.trans ?_ (by assumption) | refine Gr.drew ?_ | refine Gr.drewN ?_ _ | refine Gr.grow ?_ _ | refine Gr.setCell ?_ (by (try simp); (try omega)) _)⟩
  · have o1 := okT_len (okW_and HR.out).1
    have o2 := okT_len (okW_and HR.out).2
    cases b2
    · go_enter Tryd.func10, Tryd.ntmps10
      go_wp2_with (first | (go_at_call 14; refine (HA.out _).mono ?_; rintro e w1 ⟨rfl, hbW⟩; have hcW := (bcell hbW.below).1; have hfW := (bcell hbW.below).2; (try have hzW : w.heap.size < w1.heap.size := by have hq := hbW.below.size; (try simp at hq); omega); (try have hyW : w.heap.size + 1 < w1.heap.size := by have hq := hbW.below.size; (try simp at hq); omega); (try have hxW : w.heap.size + 2 < w1.heap.size := by have hq := hbW.below.size; (try simp at hq); omega)) | (go_at_call_of 15 (la); refine (H2.out _ (by repeat (first | exact Gr.refl _ | refine Gr.alloc ?_ _ | refine Gr.trans ?_ (by assumption) | refine Gr.drew ?_ | refine Gr.drewN ?_ _ | refine Gr.grow ?_ _ | refine Gr.setCell ?_ (by (try simp); (try omega)) _)) o1 o2).mono ?_; rintro e w1 ⟨rfl, hbW⟩; have hcW := (bcell hbW.below).1; have hfW := (bcell hbW.below).2; (try have hzW : w.heap.size < w1.heap.size := by have hq := hbW.below.size; (try simp at hq); omega); (try have hyW : w.heap.size + 1 < w1.heap.size := by have hq := hbW.below.size; (try simp at hq); omega); (try have hxW : w.heap.size + 2 < w1.heap.size := by have hq := hbW.below.size; (try simp at hq); omega)))
      go_ret
      exact ⟨rfl, by repeat (first | exact Gr.refl _ | refine Gr.alloc ?_ _ | refine Gr.trans ?_ (by assumption) | refine Gr.drew ?_ | refine Gr.drewN ?_ _ | refine Gr.grow ?_ _ | refine Gr.setCell ?_ (by (try simp); (try omega)) _)⟩
    · go_enter Tryd.func10, Tryd.ntmps10
      go_wp2_with (first | (go_at_call 14; refine (HA.out _).mono ?_; rintro e w1 ⟨rfl, hbW⟩; have hcW := (bcell hbW.below).1; have hfW := (bcell hbW.below).2; (try have hzW : w.heap.size < w1.heap.size := by have hq := hbW.below.size; (try simp at hq); omega); (try have hyW : w.heap.size + 1 < w1.heap.size := by have hq := hbW.below.size; (try simp at hq); omega); (try have hxW : w.heap.size + 2 < w1.heap.size := by have hq := hbW.below.size; (try simp at hq); omega)) | (go_at_call_of 15 (la); refine (H2.out _ (by repeat (first | exact Gr.refl _ | refine Gr.alloc ?_ _ | refine Gr.trans ?_ (by assumption) | refine Gr.drew ?_ | refine Gr.drewN ?_ _ | refine Gr.grow ?_ _ | refine Gr.setCell ?_ (by (try simp); (try omega)) _)) o1 o2).mono ?_; rintro e w1 ⟨rfl, hbW⟩; have hcW := (bcell hbW.below).1; have hfW := (bcell hbW.below).2; (try have hzW : w.heap.size < w1.heap.size := by have hq := hbW.below.size; (try simp at hq); omega); (try have hyW : w.heap.size + 1 < w1.heap.size := by have hq := hbW.below.size; (try simp at hq); omega); (try have hxW : w.heap.size + 2 < w1.heap.size := by have hq := hbW.below.size; (try simp at hq); omega)) | (go_at_call_of 15 (lb); refine (H3.out _ (by repeat (first | exact Gr.refl _ | refine Gr.alloc ?_ _ | refine Gr.trans ?_ (by assumption) | refine Gr.drew ?_ | refine Gr.drewN ?_ _ | refine Gr.grow ?_ _ | refine Gr.setCell ?_ (by (try simp); (try omega)) _)) o1 o2).mono ?_; rintro e w1 ⟨rfl, hbW⟩; have hcW := (bcell hbW.below).1; have hfW := (bcell hbW.below).2; (try have hzW : w.heap.size < w1.heap.size := by have hq := hbW.below.size; (try simp at hq); omega); (try have hyW : w.heap.size + 1 < w1.heap.size := by have hq := hbW.below.size; (try simp at hq); omega); (try have hxW : w.heap.size + 2 < w1.heap.size := by have hq := hbW.below.size; (try simp at hq); omega)))
      go_ret
      exact ⟨by simp, by repeat (first | exact Gr.refl _ | refine Gr.alloc ?_ _ | refine Gr.trans ?_ (by assumption) | refine Gr.drew ?_ | refine Gr.drewN ?_ _ | refine Gr.grow ?_ _ | refine Gr.setCell ?_ (by (try simp); (try omega)) _)⟩
/-- how far it is from one vertex to another one, or -1 -/
def dsW (s a : ByteArray) (s0 t0 : Nat) : Int := f (fin (nbW s a) (a.size * s.size) s0) t0
theorem dsW_bd {s a : ByteArray} {s0 t0 : Nat} (hs : s0 < a.size * s.size) (ht : t0 < a.size * s.size) : -1 ≤ dsW s a s0 t0 ∧ dsW s a s0 t0 < ((a.size * s.size : Nat) : Int) := by
  have h := (fin_bf (@nbW_valid s a) hs).inv
  have x := h.fm t0 ht
  have y := h.len
  unfold dsW
  omega
set_option maxRecDepth 100000 in
set_option maxHeartbeats 1600000 in
theorem Tryd.owDistance (w : World) (s a : ByteArray) (h1 : okT 101 119 s = true) (h2 : okT 110 115 a = true) (Ba : Nat) (la : Value) (s0 : Nat) (Bb : Nat) (lb : Value) (t0 : Nat) (hs : s0 < a.size * s.size) (ht : t0 < a.size * s.size) (hla : OwnI w Ba la [(crn s.size s0).1, (crn s.size s0).2]) (hlb : OwnI w Bb lb [(crn s.size t0).1, (crn s.size t0).2]) :
    Calls Tryd.prog 11 #[.agg #[.string s, .string a], la, lb] w fun e w' => e = .returned (.int .i64 (dsW s a s0 t0)) ∧ Below w.heap.size w w' := by
  have mixed : Tryd.prog.follows .mixedOrders = true := by kernel_rfl
  have HF := Lib.hid (fun (X : World) (g : Gr w X) => Tryd.owFar X s a h1 h2 s0 Ba la hs (hla.gr g))
  obtain ⟨hH0, hH1⟩ := okT_len h1
  obtain ⟨hW0, hW1⟩ := okT_len h2
  rcases hlb.view with ⟨hx, _⟩ | ⟨_, gl, cl, rfl, _, gl2, _, _, _⟩
  · cases hx
  obtain ⟨l0, _⟩ := hlb.at rfl 0 (by simp)
  obtain ⟨l1, _⟩ := hlb.at rfl 1 (by simp)
  simp only [List.getD_cons_zero, List.getD_cons_succ, List.length_cons, List.length_nil, Nat.zero_add, Nat.reduceAdd] at l0 l1 ⊢
  have hfl := (fin_bf (@nbW_valid s a) hs).inv.fl
  have HD := Lib.hid (show ∀ (w3 : World) (B3 : Nat) (v : Value), OwnI w3 B3 v (fin (nbW s a) (a.size * s.size) s0).far → ∃ g c, v = .slice (some ⟨g, 0, none⟩) (a.size * s.size) c ∧ w3.cell? ⟨g, t0, none⟩ = some (.int .i64 (dsW s a s0 t0)) from fun w3 B3 v ho => by
    rcases ho.view with ⟨hx, _⟩ | ⟨_, g, c, rfl, _, _, _, hc, _⟩
    · rw [hx] at hfl; simp at hfl; omega
    · exact ⟨g, c, by rw [hfl], hc t0 (by rw [hfl]; exact ht)⟩)
  obtain ⟨d0, d1⟩ := dsW_bd (s := s) (a := a) hs ht
  have hN : a.size * s.size ≤ 64 := Nat.mul_le_mul hW1 hH1
  have hdm : s.size * (t0 / s.size) + t0 % s.size = t0 := Nat.div_add_mod t0 s.size
  rw [Nat.mul_comm] at hdm
  rw [show (crn s.size t0).1 = ((t0 / s.size : Nat) : Int) from rfl] at l0
  rw [show (crn s.size t0).2 = ((t0 % s.size : Nat) : Int) from rfl] at l1
  have hPi : ((t0 / s.size : Nat) : Int) * (s.size : Int) = ((t0 / s.size * s.size : Nat) : Int) := by push_cast; rfl
  generalize t0 / s.size = X at *
  generalize t0 % s.size = Y at *
  generalize X * s.size = P at *
  generalize hNN : a.size * s.size = N at *
  have hsP : (P : Int) + (Y : Int) = (t0 : Int) := by omega
  have hP64 : P ≤ 64 := by omega
  have hY64 : Y ≤ 64 := by omega
  have zs0 : (0 : Int) ≤ (t0 : Int) := by omega
  have zs1 : (t0 : Int) < (N : Int) := by omega
  have hwc : IntKind.i64.wrap (P : Int) = (P : Int) := IntWalk.i64_in _ (by omega)
  have hwd : IntKind.i64.wrap (t0 : Int) = (t0 : Int) := IntWalk.i64_in _ (by omega)
  generalize dsW s a s0 t0 = d at *
  obtain ⟨W0, hWW⟩ : ∃ W0, w.alloc (.cells #[.string s, .string a] 28) = W0 := ⟨_, rfl⟩
  have GW : Gr w W0 := by subst hWW; exact by repeat (first | exact Gr.refl _ | refine Gr.alloc ?_ _ | refine Gr.trans ?_ (by assumption) | refine Gr.drew ?_ | refine Gr.drewN ?_ _ | refine Gr.grow ?_ _ | refine Gr.setCell ?_ (by (try simp); (try omega)) _)
  have k0 : W0.cell? ⟨w.heap.size, 0, none⟩ = some (.string s) := by subst hWW; simp [go_sem]
  have k1 : W0.cell? ⟨w.heap.size, 1, none⟩ = some (.string a) := by subst hWW; simp [go_sem]
  have l0' := GW.keep0 l0
  have l1' := GW.keep0 l1
  have HG := Lib.hid GW
  clear hla hlb l0 l1 hs ht hfl hdm d0 d1 GW hNN h1 h2
  go_enter Tryd.func11, Tryd.ntmps11
  go_wp2_with fail
  have hall : W0.cell? ⟨w.heap.size, 0, none⟩ = some (.string s) ∧ W0.cell? ⟨w.heap.size, 1, none⟩ = some (.string a) ∧ W0.cell? ⟨gl, 0, none⟩ = some (.int .i64 X) ∧ W0.cell? ⟨gl, 1, none⟩ = some (.int .i64 Y) := ⟨k0, k1, l0', l1'⟩
  refine wp_region_held_drew (S := fun W' => W'.cell? ⟨w.heap.size, 0, none⟩ = some (.string s) ∧ W'.cell? ⟨w.heap.size, 1, none⟩ = some (.string a) ∧ W'.cell? ⟨gl, 0, none⟩ = some (.int .i64 X) ∧ W'.cell? ⟨gl, 1, none⟩ = some (.int .i64 Y)) (by kernel_rfl) ?_ (fun hHeld => ?_)
  · exact hall
  (refine wpAnyH_take (i := 0) (v := ?_) (by simp only [List.getElem?_toArray, List.getElem?_cons_succ, List.getElem?_cons_zero]; exact rfl) (by kernel_rfl) (by kernel_rfl) (by kernel_rfl) (by intro _ _ _ h; exact h) (Or.inl ⟨by rfl, ?_⟩) (by assumption) ?_; rotate_left; (focus (intro w' hSw; (try dsimp only at hSw); go_simp; (try with_reducible rfl))); try simp only [Act.put, List.setIfInBounds_toArray, List.set_cons_zero, List.set_cons_succ])
  (refine wpAnyH_take (i := 1) (v := ?_) (by simp only [List.getElem?_toArray, List.getElem?_cons_succ, List.getElem?_cons_zero]; exact rfl) (by kernel_rfl) (by kernel_rfl) (by kernel_rfl) (by intro _ _ _ h; exact h) (Or.inl ⟨by rfl, ?_⟩) (by assumption) ?_; rotate_left; (focus (intro w' hSw; (try dsimp only at hSw); go_simp; (try with_reducible rfl))); try simp only [Act.put, List.setIfInBounds_toArray, List.set_cons_zero, List.set_cons_succ])
  (refine wpAnyH_take (i := 3) (v := ?_) (by simp only [List.getElem?_toArray, List.getElem?_cons_succ, List.getElem?_cons_zero]; exact rfl) (by kernel_rfl) (by kernel_rfl) (by kernel_rfl) (by intro _ _ _ h; exact h) (Or.inl ⟨by rfl, ?_⟩) (by assumption) ?_; rotate_left; (focus (intro w' hSw; (try dsimp only at hSw); go_simp; (try with_reducible rfl))); try simp only [Act.put, List.setIfInBounds_toArray, List.set_cons_zero, List.set_cons_succ])
  (refine wpAnyH_take (i := 4) (v := ?_) (by simp only [List.getElem?_toArray, List.getElem?_cons_succ, List.getElem?_cons_zero]; exact rfl) (by kernel_rfl) (by kernel_rfl) (by kernel_rfl) (by intro _ _ _ h; exact h) (Or.inl ⟨by rfl, ?_⟩) (by assumption) ?_; rotate_left; (focus (intro w' hSw; (try dsimp only at hSw); go_simp; (try with_reducible rfl))); try simp only [Act.put, List.setIfInBounds_toArray, List.set_cons_zero, List.set_cons_succ])
  (refine wpAnyH_take (i := 5) (v := ?_) (by simp only [List.getElem?_toArray, List.getElem?_cons_succ, List.getElem?_cons_zero]; exact rfl) (by kernel_rfl) (by kernel_rfl) (by kernel_rfl) (by intro _ _ _ h; exact h) (Or.inl ⟨by rfl, ?_⟩) (by assumption) ?_; rotate_left; (focus (intro w' hSw; (try dsimp only at hSw); go_simp; (try with_reducible rfl))); try simp only [Act.put, List.setIfInBounds_toArray, List.set_cons_zero, List.set_cons_succ])
  (refine wpAnyH_take (i := 6) (v := ?_) (by simp only [List.getElem?_toArray, List.getElem?_cons_succ, List.getElem?_cons_zero]; exact rfl) (by kernel_rfl) (by kernel_rfl) (by kernel_rfl) (by intro _ _ _ h; exact h) (Or.inl ⟨by rfl, ?_⟩) (by assumption) ?_; rotate_left; (focus (intro w' hSw; (try dsimp only at hSw); go_simp; (try with_reducible rfl))); try simp only [Act.put, List.setIfInBounds_toArray, List.set_cons_zero, List.set_cons_succ])
  (refine wpAnyH_take (i := 7) (v := ?_) (by simp only [List.getElem?_toArray, List.getElem?_cons_succ, List.getElem?_cons_zero]; exact rfl) (by kernel_rfl) (by kernel_rfl) (by kernel_rfl) (by intro _ _ _ h; exact h) (Or.inl ⟨by rfl, ?_⟩) (by assumption) ?_; rotate_left; (focus (intro w' hSw; (try dsimp only at hSw); go_simp; (try with_reducible rfl))); try simp only [Act.put, List.setIfInBounds_toArray, List.set_cons_zero, List.set_cons_succ])
  (refine wpAnyH_take (i := 8) (v := ?_) (by simp only [List.getElem?_toArray, List.getElem?_cons_succ, List.getElem?_cons_zero]; exact rfl) (by kernel_rfl) (by kernel_rfl) (by kernel_rfl) (by intro _ _ _ h; exact h) (Or.inl ⟨by rfl, ?_⟩) (by assumption) ?_; rotate_left; (focus (intro w' hSw; (try dsimp only at hSw); go_simp; (try with_reducible rfl))); try simp only [Act.put, List.setIfInBounds_toArray, List.set_cons_zero, List.set_cons_succ])
  (refine wpAnyH_take (i := 9) (v := ?_) (by simp only [List.getElem?_toArray, List.getElem?_cons_succ, List.getElem?_cons_zero]; exact rfl) (by kernel_rfl) (by kernel_rfl) (by kernel_rfl) (by intro _ _ _ h; exact h) (Or.inl ⟨by rfl, ?_⟩) (by assumption) ?_; rotate_left; (focus (intro w' hSw; (try dsimp only at hSw); go_simp; (try with_reducible rfl))); try simp only [Act.put, List.setIfInBounds_toArray, List.set_cons_zero, List.set_cons_succ])
  (refine wpAnyH_take (i := 10) (v := ?_) (by simp only [List.getElem?_toArray, List.getElem?_cons_succ, List.getElem?_cons_zero]; exact rfl) (by kernel_rfl) (by kernel_rfl) (by kernel_rfl) (by intro _ _ _ h; exact h) (Or.inl ⟨by rfl, ?_⟩) (by assumption) ?_; rotate_left; (focus (intro w' hSw; (try dsimp only at hSw); go_simp; (try with_reducible rfl))); try simp only [Act.put, List.setIfInBounds_toArray, List.set_cons_zero, List.set_cons_succ])
  (refine wpAnyH_take (i := 11) (v := ?_) (by simp only [List.getElem?_toArray, List.getElem?_cons_succ, List.getElem?_cons_zero]; exact rfl) (by kernel_rfl) (by kernel_rfl) (by kernel_rfl) (by intro _ _ _ h; exact h) (Or.inl ⟨by rfl, ?_⟩) (by assumption) ?_; rotate_left; (focus (intro w' hSw; (try dsimp only at hSw); go_simp; (try with_reducible rfl))); try simp only [Act.put, List.setIfInBounds_toArray, List.set_cons_zero, List.set_cons_succ])
  (refine wpAnyH_take (i := 12) (v := ?_) (by simp only [List.getElem?_toArray, List.getElem?_cons_succ, List.getElem?_cons_zero]; exact rfl) (by kernel_rfl) (by kernel_rfl) (by kernel_rfl) (by intro _ _ _ h; exact h) (Or.inl ⟨by rfl, ?_⟩) (by assumption) ?_; rotate_left; (focus (intro w' hSw; (try dsimp only at hSw); go_simp; (try with_reducible rfl))); try simp only [Act.put, List.setIfInBounds_toArray, List.set_cons_zero, List.set_cons_succ])
  (refine wpAnyH_take (i := 13) (v := ?_) (by simp only [List.getElem?_toArray, List.getElem?_cons_succ, List.getElem?_cons_zero]; exact rfl) (by kernel_rfl) (by kernel_rfl) (by kernel_rfl) (by intro _ _ _ h; exact h) (Or.inl ⟨by rfl, ?_⟩) (by assumption) ?_; rotate_left; (focus (intro w' hSw; (try dsimp only at hSw); go_simp; (try with_reducible rfl))); try simp only [Act.put, List.setIfInBounds_toArray, List.set_cons_zero, List.set_cons_succ])
  refine wpAnyH_ready (rs := [2]) (by kernel_rfl) (by simp) (AllReadyH.cons (by simp only [List.getElem?_toArray, List.getElem?_cons_succ, List.getElem?_cons_zero]; exact rfl) (fun K' hK => ?_) AllReadyH.nil)
  go_wp2_with (first | (go_at_call 16; refine (HF.out _ (HG.out.trans (by repeat (first | exact Gr.refl _ | refine Gr.alloc ?_ _ | refine Gr.trans ?_ (by assumption) | refine Gr.drew ?_ | refine Gr.drewN ?_ _ | refine Gr.grow ?_ _ | refine Gr.setCell ?_ (by (try simp); (try omega)) _)))).mono ?_; rintro e w3 ⟨v3, rfl, o3, b3⟩; obtain ⟨g3, c3, rfl, r3⟩ := HD.out _ _ _ o3))
  (refine hK.out _ _ (⟨cell_k2 b3 hall.1, cell_k2 b3 hall.2.1, cell_k2 b3 hall.2.2.1, cell_k2 b3 hall.2.2.2⟩) (fun hHeld => ?_); clear hK K'; try simp only [Act.put, List.setIfInBounds_toArray, List.set_cons_zero, List.set_cons_succ])
  (refine wpAnyH_take (i := 14) (v := ?_) (by simp only [List.getElem?_toArray, List.getElem?_cons_succ, List.getElem?_cons_zero]; exact rfl) (by kernel_rfl) (by kernel_rfl) (by kernel_rfl) (by intro _ _ _ h; exact h) (Or.inl ⟨by rfl, ?_⟩) (by assumption) ?_; rotate_left; (focus (intro w' hSw; (try dsimp only at hSw); go_simp; (try with_reducible rfl))); try simp only [Act.put, List.setIfInBounds_toArray, List.set_cons_zero, List.set_cons_succ])
  refine wpAnyH_ready (rs := [15]) (by kernel_rfl) (by simp) (AllReadyH.cons (by simp only [List.getElem?_toArray, List.getElem?_cons_succ, List.getElem?_cons_zero]; exact rfl) (fun K' hK => ?_) AllReadyH.nil)
  go_wp2
  (refine hK.out _ _ (hHeld) (fun hHeld => ?_); clear hK K'; try simp only [Act.put, List.setIfInBounds_toArray, List.set_cons_zero, List.set_cons_succ])
  (refine wpAnyH_take (i := 16) (v := ?_) (by simp only [List.getElem?_toArray, List.getElem?_cons_succ, List.getElem?_cons_zero]; exact rfl) (by kernel_rfl) (by kernel_rfl) (by kernel_rfl) (by intro _ _ _ h; exact h) (Or.inl ⟨by rfl, ?_⟩) (by assumption) ?_; rotate_left; (focus (intro w' hSw; (try dsimp only at hSw); go_simp; (try with_reducible rfl))); try simp only [Act.put, List.setIfInBounds_toArray, List.set_cons_zero, List.set_cons_succ])
  refine wpAnyH_done (by kernel_rfl) ?_ _
  go_wp2
  go_ret
  refine ⟨rfl, Below.trans HG.out.below (Below.mono (show Below W0.heap.size W0 w3 from ?_) HG.out.below.size)⟩
  first | exact b3 | exact Below.trans (Below.drew (Below.refl _ _)) b3
/-- the corner that a list tells, or none -/
def coX (b : Bool) (xs : List Int) : Int := if b then xs.getD 0 0 else 0
def coY (b : Bool) (xs : List Int) : Int := if b then xs.getD 1 0 else 0
def coV (b : Bool) (xs : List Int) : Value := .agg #[.int .i64 (coX b xs), .int .i64 (coY b xs)]
theorem Tryd.arrAt (g c : Nat) (W : World) : (Instr.arrayAt 47 (.slice (some ⟨g, 0, none⟩) 2 c)).run Tryd.prog W = .ok (.pointer (some ⟨g, 0, none⟩)) W := by kernel_rfl
/-- the cells of a result of two, in whatever world behind it -/
theorem resA {w W : World} {A : Obj} {a b : Value} {t : TypeId} (g : Gr ((w.alloc A).alloc (.cells #[a, b] t)) W) :
    (∀ n os, (Go.Sort.grow (W.drewN n) os).cell? ⟨w.heap.size + 1, 0, none⟩ = some a) ∧ (∀ n os, (Go.Sort.grow (W.drewN n) os).cell? ⟨w.heap.size + 1, 1, none⟩ = some b) ∧
    (∀ n os, (Go.Sort.grow (W.drewN n) os).frozen? ⟨w.heap.size + 1, 0, none⟩ = false) ∧ (∀ n os, (Go.Sort.grow (W.drewN n) os).frozen? ⟨w.heap.size + 1, 1, none⟩ = false) :=
  ⟨gr_all g (by simp [go_sem]), gr_all g (by simp [go_sem]), gr_all_f g (by simp) (by simp [go_sem]), gr_all_f g (by simp) (by simp [go_sem])⟩
set_option maxRecDepth 100000 in
set_option maxHeartbeats 1600000 in
theorem Tryd.cornerOf (w : World) (W H : Int) (B : Nat) (a : Value) (ps : List Blk) (Ba : Nat) (la : Value) (xs : List Int) (b1 b2 : Bool) (h1 : okB W H ps = b1) (h2 : isC W H xs = b2) (hl : ps.length ≤ 1048576) (h : OwnB w B a ps) (hla : OwnI w Ba la xs) :
    Calls Tryd.prog 23 #[.agg #[.int .i64 W, .int .i64 H, a], la] w fun e w' => e = .returned (.tuple #[coV (b1 && b2) xs, .bool (b1 && b2)]) ∧ Gr w w' := by
  have mixed : Tryd.prog.follows .mixedOrders = true := by kernel_rfl
  obtain ⟨A, c, rfl, h⟩ := OwnE.eta h
  have HA := Lib.hid (fun (X : World) (g : Gr w X) => Tryd.iIsCity X W H B _ ps b1 h1 hl (h.gr g))
  have HR := Lib.hid h1
  obtain ⟨q0, q1, q2⟩ := boxG3 (w := w) (W := (w.alloc (.cells #[.int .i64 W, .int .i64 H, .slice A ps.length c] 58)).alloc (.cells #[.int .i64 0, .int .i64 0] 47)) (Gr.alloc (Gr.refl _) _)
  obtain ⟨q3, q4, q5, q6⟩ := resA (w := w) (A := .cells #[.int .i64 W, .int .i64 H, .slice A ps.length c] 58) (a := .int .i64 0) (b := .int .i64 0) (t := 47) (Gr.refl _)
  have har := Tryd.arrAt
  by_cases hl2 : xs.length = 2
  · obtain ⟨x, y, rfl⟩ := len_two hl2
    rcases hla.view with ⟨hx, _⟩ | ⟨_, gl, cl, rfl, _, gl2, _, _, _⟩
    · cases hx
    obtain ⟨l0, _⟩ := hla.at rfl 0 (by simp)
    obtain ⟨l1, _⟩ := hla.at rfl 1 (by simp)
    simp only [List.getD_cons_zero, List.getD_cons_succ, List.length_cons, List.length_nil, Nat.zero_add, Nat.reduceAdd] at l0 l1 ⊢
    have r0 := gr_all (Gr.alloc (Gr.alloc (Gr.refl _) (.cells #[.int .i64 W, .int .i64 H, .slice A ps.length c] 58)) (.cells #[.int .i64 0, .int .i64 0] 47)) l0
    have r1 := gr_all (Gr.alloc (Gr.alloc (Gr.refl _) (.cells #[.int .i64 W, .int .i64 H, .slice A ps.length c] 58)) (.cells #[.int .i64 0, .int .i64 0] 47)) l1
    rw [isC_two] at h2
    have HO := Lib.hid h2
    clear h hla l0 l1 hl2 h1 h2
    cases b1
    · go_enter Tryd.func23, Tryd.ntmps23
      go_wp2
      (refine wp_region_quiet_grown mixed (by kernel_rfl) ?_; (repeat (first | go_big_quiet_step ((first | (go_at_call 29; exact Calls.grown_of (HA.out _ (by repeat (first | exact Gr.refl _ | refine Gr.alloc ?_ _ | refine Gr.trans ?_ (by assumption) | refine Gr.drew ?_ | refine Gr.drewN ?_ _ | refine Gr.grow ?_ _ | refine Gr.setCell ?_ (by (try simp); (try omega)) _)))))) | quiet_step ((first | (go_at_call 29; exact Calls.grown_of (HA.out _ (by repeat (first | exact Gr.refl _ | refine Gr.alloc ?_ _ | refine Gr.trans ?_ (by assumption) | refine Gr.drew ?_ | refine Gr.drewN ?_ _ | refine Gr.grow ?_ _ | refine Gr.setCell ?_ (by (try simp); (try omega)) _)))))))); refine wpQuiet_nil ?_; intro _ hw'; obtain ⟨⟨nq, osq⟩, hw''⟩ := hw'; subst hw'')
      go_wp2
      refine bodyPost_ret (v := .tuple #[coV false [x, y], .bool false]) ?_ rfl ⟨rfl, ?_⟩
      · simp [results, Tryd.results23, go_sem, q3, q4, coV, coX, coY]
      · exact Gr.setCell (Gr.setCell (by repeat (first | exact Gr.refl _ | refine Gr.alloc ?_ _ | refine Gr.trans ?_ (by assumption) | refine Gr.drew ?_ | refine Gr.drewN ?_ _ | refine Gr.grow ?_ _ | refine Gr.setCell ?_ (by (try simp); (try omega)) _)) (by simp) _) (by simp) _
    · obtain ⟨o1, o2, o3, o4, _⟩ := of_decide_eq_true HR.out
      have HC := Lib.hid (fun (X : World) => Tryd.hasCorner W H A ps.length c x y ⟨o1, o2⟩ ⟨o3, o4⟩ b2 HO.out X)
      cases b2
      all_goals
        go_enter Tryd.func23, Tryd.ntmps23
        go_wp2
        (refine wp_region_quiet_grown mixed (by kernel_rfl) ?_; (repeat (first | go_big_quiet_step ((first | (go_at_call 29; exact Calls.grown_of (HA.out _ (by repeat (first | exact Gr.refl _ | refine Gr.alloc ?_ _ | refine Gr.trans ?_ (by assumption) | refine Gr.drew ?_ | refine Gr.drewN ?_ _ | refine Gr.grow ?_ _ | refine Gr.setCell ?_ (by (try simp); (try omega)) _)))) | (go_at_call 30; exact Calls.grown_of (HC.out _)))) | quiet_step ((first | (go_at_call 29; exact Calls.grown_of (HA.out _ (by repeat (first | exact Gr.refl _ | refine Gr.alloc ?_ _ | refine Gr.trans ?_ (by assumption) | refine Gr.drew ?_ | refine Gr.drewN ?_ _ | refine Gr.grow ?_ _ | refine Gr.setCell ?_ (by (try simp); (try omega)) _)))) | (go_at_call 30; exact Calls.grown_of (HC.out _)))))); refine wpQuiet_nil ?_; intro _ hw'; obtain ⟨⟨nq, osq⟩, hw''⟩ := hw'; subst hw'')
        go_wp2
        refine bodyPost_ret (v := .tuple #[coV _ [x, y], .bool _]) ?_ rfl ⟨rfl, ?_⟩
        · simp [results, Tryd.results23, go_sem, q3, q4, coV, coX, coY]
        · exact Gr.setCell (Gr.setCell (by repeat (first | exact Gr.refl _ | refine Gr.alloc ?_ _ | refine Gr.trans ?_ (by assumption) | refine Gr.drew ?_ | refine Gr.drewN ?_ _ | refine Gr.grow ?_ _ | refine Gr.setCell ?_ (by (try simp); (try omega)) _)) (by simp) _) (by simp) _
  · obtain ⟨A1, c1, rfl⟩ := hla.form
    rw [isC_len hl2] at h2
    subst h2
    have z : ¬ (xs.length : Int) = 2 := by omega
    clear hla h h1
    cases b1
    all_goals
      go_enter Tryd.func23, Tryd.ntmps23
      go_wp2
      (refine wp_region_quiet_grown mixed (by kernel_rfl) ?_; (repeat (first | go_big_quiet_step ((first | (go_at_call 29; exact Calls.grown_of (HA.out _ (by repeat (first | exact Gr.refl _ | refine Gr.alloc ?_ _ | refine Gr.trans ?_ (by assumption) | refine Gr.drew ?_ | refine Gr.drewN ?_ _ | refine Gr.grow ?_ _ | refine Gr.setCell ?_ (by (try simp); (try omega)) _)))))) | quiet_step ((first | (go_at_call 29; exact Calls.grown_of (HA.out _ (by repeat (first | exact Gr.refl _ | refine Gr.alloc ?_ _ | refine Gr.trans ?_ (by assumption) | refine Gr.drew ?_ | refine Gr.drewN ?_ _ | refine Gr.grow ?_ _ | refine Gr.setCell ?_ (by (try simp); (try omega)) _)))))))); refine wpQuiet_nil ?_; intro _ hw'; obtain ⟨⟨nq, osq⟩, hw''⟩ := hw'; subst hw'')
      go_wp2
      refine bodyPost_ret (v := .tuple #[coV false xs, .bool false]) ?_ rfl ⟨rfl, ?_⟩
      · simp [results, Tryd.results23, go_sem, q3, q4, coV, coX, coY]
      · exact Gr.setCell (Gr.setCell (by repeat (first | exact Gr.refl _ | refine Gr.alloc ?_ _ | refine Gr.trans ?_ (by assumption) | refine Gr.drew ?_ | refine Gr.drewN ?_ _ | refine Gr.grow ?_ _ | refine Gr.setCell ?_ (by (try simp); (try omega)) _)) (by simp) _) (by simp) _
end Go.Proofs
