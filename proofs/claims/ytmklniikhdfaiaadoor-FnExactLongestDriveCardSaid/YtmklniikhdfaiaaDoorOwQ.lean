/-
  Chapter 6: there and back, how many corners are driven to, both functions.
-/
import Derived.Test.YtmklniikhdfaiaaDoorOwP
import Derived.Test.YtmklniikhdfaiaaDoorGrCnt
import Derived.Deep.RegionHeld3
namespace Go.Proofs
open Go.RowKit Av Gm Go.Maps
set_option linter.unusedVariables false
set_option linter.unusedSimpArgs false
/-- the first k, those that are found -/
def cnk (l : List Int) (k : Nat) : Nat := ((l.take k).filter (fun d => decide (0 ≤ d))).length
theorem cnk_succ (l : List Int) (k : Nat) (h : k < l.length) : cnk l (k + 1) = if 0 ≤ l.getD k 0 then cnk l k + 1 else cnk l k := by
  unfold cnk
  rw [← List.take_append_getElem h, List.filter_append, List.length_append]
  have e : l.getD k 0 = l[k] := by simp [List.getD, h]
  rw [e]
  by_cases q : 0 ≤ l[k]
  · simp [q]
  · simp [q]
theorem cnk_le (l : List Int) (k : Nat) : cnk l k ≤ k := by
  unfold cnk
  exact Nat.le_trans (List.length_filter_le _ _) (by simp; omega)
def tbB (s a : ByteArray) (xs ys : List Int) : Bool := wB s a xs ys && wB s a ys xs
def tbV (s a : ByteArray) (xs ys : List Int) : Int := if tbB s a xs ys then wV s a xs ys + wV s a ys xs else 0
theorem ksb {w w' : World} {b : Nat} {x y : Value} (g : Below w.heap.size w w') (h : w.cell? ⟨b, 0, none⟩ = some x ∧ w.cell? ⟨b, 1, none⟩ = some y) : w'.cell? ⟨b, 0, none⟩ = some x ∧ w'.cell? ⟨b, 1, none⟩ = some y := ⟨cell_k2 g h.1, cell_k2 g h.2⟩
theorem wV_bd (s a : ByteArray) (xs ys : List Int) : 0 ≤ wV s a xs ys ∧ wV s a xs ys ≤ 64 := by
  unfold wV
  cases h : wB s a xs ys
  · simp
  · rw [if_pos rfl]
    unfold wB at h
    simp only [Bool.and_eq_true, decide_eq_true_eq] at h
    obtain ⟨⟨⟨h1, h2⟩, h3⟩, h4⟩ := h
    obtain ⟨k1, k2⟩ := okW_and h1
    have l1 := okT_len k1
    have l2 := okT_len k2
    have hN : a.size * s.size ≤ 64 := Nat.mul_le_mul l2.2 l1.2
    have := dsW_bd (s := s) (a := a) (isC_vx h2 l1 l2).1 (isC_vx h3 l1 l2).1
    omega
def drB (s a : ByteArray) (xs : List Int) : Bool := okW s a && isC a.size s.size xs
def drN (s a : ByteArray) (xs : List Int) : Nat := (fin (nbW s a) (a.size * s.size) (vx s xs)).q.length
def drV (s a : ByteArray) (xs : List Int) : Int := if drB s a xs then drN s a xs else 0
/-- as many are found -/
theorem q_same {s a : ByteArray} {s0 : Nat} (hs : s0 < a.size * s.size) : (fin (nbL (lsW s a 1)) (a.size * s.size) s0).q.length = (fin (nbW s a) (a.size * s.size) s0).q.length := by
  have h1 := (fin_bf (nbL_valid (lsW_valid (s := s) (a := a) 1)) hs).inv
  have h2 := (fin_bf (@nbW_valid s a) hs).inv
  rw [← cnt_q h1, ← cnt_q h2, far_map h1.fl, far_map h2.fl]
  congr 2
  apply List.map_congr_left
  intro v hv
  exact far_same hs v (List.mem_range.1 hv)
set_option maxRecDepth 100000 in
set_option maxHeartbeats 1600000 in
theorem Tryd.owReached (w : World) (s a : ByteArray) (h1 : okT 101 119 s = true) (h2 : okT 110 115 a = true) (s0 : Nat) (Ba : Nat) (la : Value) (hs : s0 < a.size * s.size) (hla : OwnI w Ba la [(crn s.size s0).1, (crn s.size s0).2]) :
    Calls Tryd.prog 32 #[.agg #[.string s, .string a], la] w fun e w' => e = .returned (.int .i64 ((fin (nbW s a) (a.size * s.size) s0).q.length : Nat)) ∧ Below w.heap.size w w' := by
  have HF := Lib.hid (fun (X : World) (g : Below w.heap.size w X) => Tryd.owFar X s a h1 h2 s0 Ba la hs (OwnI.below hla g (Nat.le_refl _)))
  have hI := (fin_bf (@nbW_valid s a) hs).inv
  have l1 := okT_len h1
  have l2 := okT_len h2
  have hcn := cnt_q hI
  have hfl := hI.fl
  have hN : a.size * s.size ≤ 64 := Nat.mul_le_mul l2.2 l1.2
  rw [← hcn]
  have hQ : ∀ l : List Int, (l.filter (fun d => decide (0 ≤ d))).length = cnk l l.length := fun l => by unfold cnk; rw [List.take_length]
  rw [hQ]
  generalize (fin (nbW s a) (a.size * s.size) s0).far = fr at *
  have HV := Lib.hid (show ∀ (w3 : World) (B3 : Nat) (v : Value), OwnI w3 B3 v fr → ∃ g c, v = .slice (some ⟨g, 0, none⟩) (a.size * s.size) c ∧ ∀ k, k < a.size * s.size → w3.cell? ⟨g, k, none⟩ = some (.int .i64 (fr.getD k 0)) from fun w3 B3 v ho => by
    rcases ho.view with ⟨hx, _⟩ | ⟨_, g, c, rfl, _, _, _, hc, _⟩
    · rw [hx] at hfl; simp at hfl; omega
    · exact ⟨g, c, by rw [hfl], fun k hk => hc k (by omega)⟩)
  generalize a.size * s.size = N at *
  obtain ⟨Aa, ca, rfl⟩ := hla.form
  clear hla h1 h2 hI hcn hQ hs l1 l2
  go_enter Tryd.func32, Tryd.ntmps32
  go_wp2_with (first | (go_at_call 17; refine (HF.out _ (Gr.below (show Gr w _ from (by repeat (first | exact Gr.refl _ | refine Gr.alloc ?_ _ | refine Gr.trans ?_ (by assumption) | refine Gr.drew ?_ | refine Gr.drewN ?_ _ | refine Gr.grow ?_ _ | refine Gr.setCell ?_ (by (try simp); (try omega)) _))))).mono ?_; rintro e w3 ⟨v3, rfl, hown3, hb3⟩; obtain ⟨g3, c3, rfl, hr3⟩ := HV.out _ _ _ hown3))
  have HB3 := Lib.hid (Below.trans (show Below w.heap.size w _ from Gr.below (by repeat (first | exact Gr.refl _ | refine Gr.alloc ?_ _ | refine Gr.trans ?_ (by assumption) | refine Gr.drew ?_ | refine Gr.drewN ?_ _ | refine Gr.grow ?_ _ | refine Gr.setCell ?_ (by (try simp); (try omega)) _))) (hb3.mono (show Gr w _ from (by repeat (first | exact Gr.refl _ | refine Gr.alloc ?_ _ | refine Gr.trans ?_ (by assumption) | refine Gr.drew ?_ | refine Gr.drewN ?_ _ | refine Gr.grow ?_ _ | refine Gr.setCell ?_ (by (try simp); (try omega)) _))).below.size))
  have HR3 := Lib.hid hr3
  clear hr3 hown3 hb3
  rename World => wo
  go_loopw [5, 12] (fun nv iv wr => wr = wo ∧ ∃ k : Nat, iv = .int .i64 k ∧ k ≤ N ∧ nv = .int .i64 (cnk fr k)) (fun _ i _ => N - (intOf i).toNat)
  case atStart => exact ⟨rfl, 0, rfl, Nat.zero_le _, by simp [cnk]⟩
  case round =>
    obtain ⟨rfl, k, rfl, hk, rfl⟩ := hrel
    by_cases hlt : k < N
    · have e1 := HR3.out k hlt
      have z0 : (0 : Int) ≤ (k : Int) := by omega
      have z1 : (k : Int) < (N : Int) := by omega
      have hc := cnk_succ fr k (by omega)
      have hle := cnk_le fr k
      generalize fr.getD k 0 = d at *
      by_cases hd : 0 ≤ d
      · rw [if_pos hd] at hc
        go_wp2
        go_roundw
        case rel => exact ⟨trivial, k + 1, by go_num, by omega, by rw [hc]; go_num⟩
        case measure => simp [intOf]; omega
      · rw [if_neg hd] at hc
        go_wp2
        go_roundw
        case rel => exact ⟨trivial, k + 1, by go_num, by omega, by rw [hc]⟩
        case measure => simp [intOf]; omega
    · obtain rfl : k = N := by omega
      go_wp2
      go_ret
      exact ⟨by rw [hfl]; rfl, HB3.out⟩
set_option maxRecDepth 100000 in
set_option maxHeartbeats 1600000 in
theorem Tryd.iDrivenFrom (w : World) (s a : ByteArray) (hs : s.size ≤ maxLen) (ha : a.size ≤ maxLen) (Ba : Nat) (la : Value) (xs : List Int) (v : Int) (b : Bool) (hv : drV s a xs = v) (hb : drB s a xs = b) (hla : OwnI w Ba la xs) :
    Calls Tryd.prog 33 #[.agg #[.string s, .string a], la] w fun e w' => e = .returned (.tuple #[.int .i64 v, .bool b]) ∧ Below w.heap.size w w' := by
  obtain ⟨b1, h1⟩ : ∃ b1, okW s a = b1 := ⟨_, rfl⟩
  obtain ⟨b2, h2⟩ : ∃ b1, isC a.size s.size xs = b1 := ⟨_, rfl⟩
  have HA := Lib.hid (fun (X : World) (g : Gr w X) => Tryd.cornerOfWays X s a hs ha Ba la xs b1 b2 h1 h2 (hla.gr g))
  subst hv hb
  have hcb : drB s a xs = (b1 && b2) := by unfold drB; rw [h1, h2]
  have e2 : drV s a xs = if (b1 && b2) then (drN s a xs : Int) else 0 := by unfold drV; rw [hcb]
  rw [hcb, e2]
  clear hcb e2
  cases hall : (b1 && b2)
  · rw [hall] at HA
    unfold coV at HA
    generalize coX false xs = x1 at *
    generalize coY false xs = y1 at *
    obtain ⟨Aa, ca, rfl⟩ := hla.form
    clear hla h1 h2 hall hs ha
    go_enter Tryd.func33, Tryd.ntmps33
    go_wp2_with (first | (go_at_call 39; refine (HA.out _ (by repeat (first | exact Gr.refl _ | refine Gr.alloc ?_ _ | refine Gr.trans ?_ (by assumption) | refine Gr.drew ?_ | refine Gr.drewN ?_ _ | refine Gr.grow ?_ _ | refine Gr.setCell ?_ (by (try simp); (try omega)) _))).mono ?_; rintro e w1 ⟨rfl, hbW⟩; have hcW := (bcell hbW.below).1; have hfW := (bcell hbW.below).2; (try have hzW : w.heap.size < w1.heap.size := by have hq := hbW.below.size; (try simp at hq); omega); (try have hyW : w.heap.size + 1 < w1.heap.size := by have hq := hbW.below.size; (try simp at hq); omega); (try have hxW : w.heap.size + 2 < w1.heap.size := by have hq := hbW.below.size; (try simp at hq); omega)))
    go_ret2
    exact ⟨rfl, Gr.below (by repeat (first | exact Gr.refl _ | refine Gr.alloc ?_ _ | refine Gr.trans ?_ (by assumption) | refine Gr.drew ?_ | refine Gr.drewN ?_ _ | refine Gr.grow ?_ _ | refine Gr.setCell ?_ (by (try simp); (try omega)) _))⟩
  · simp only [Bool.and_eq_true] at hall
    obtain ⟨rfl, rfl⟩ := hall
    obtain ⟨k1, k2⟩ := okW_and h1
    have l1 := okT_len k1
    have l2 := okT_len k2
    obtain ⟨p1, p2⟩ := isC_vx h2 l1 l2
    unfold coV coX coY at HA
    simp only [Bool.and_self, if_true] at HA
    unfold drN
    generalize vx s xs = s0 at *
    subst p2
    simp only [List.getD_cons_zero, List.getD_cons_succ] at HA
    have HR := Lib.hid (fun (X : World) => Tryd.drivenFrom X s a k1 k2 s0 p1)
    rw [← q_same p1]
    generalize fin (nbL (lsW s a 1)) (a.size * s.size) s0 = st at *
    obtain ⟨Aa, ca, rfl⟩ := hla.form
    clear hla h1 h2 p1 k1 k2 l1 l2 hs ha
    obtain ⟨x1, hx1⟩ : ∃ x, (crn s.size s0).1 = x := ⟨_, rfl⟩
    obtain ⟨y1, hy1⟩ : ∃ x, (crn s.size s0).2 = x := ⟨_, rfl⟩
    simp only [hx1, hy1] at HA HR
    go_enter Tryd.func33, Tryd.ntmps33
    go_wp2_with (first | (go_at_call 39; refine (HA.out _ (by repeat (first | exact Gr.refl _ | refine Gr.alloc ?_ _ | refine Gr.trans ?_ (by assumption) | refine Gr.drew ?_ | refine Gr.drewN ?_ _ | refine Gr.grow ?_ _ | refine Gr.setCell ?_ (by (try simp); (try omega)) _))).mono ?_; rintro e w1 ⟨rfl, hbW⟩; have hcW := (bcell hbW.below).1; have hfW := (bcell hbW.below).2; (try have hzW : w.heap.size < w1.heap.size := by have hq := hbW.below.size; (try simp at hq); omega); (try have hyW : w.heap.size + 1 < w1.heap.size := by have hq := hbW.below.size; (try simp at hq); omega); (try have hxW : w.heap.size + 2 < w1.heap.size := by have hq := hbW.below.size; (try simp at hq); omega)) | (go_at_call 22; refine (HR.out _).mono ?_; rintro e w3 ⟨b3, n3, D3, rfl, hown3, hM3, hb3⟩; have hlen := hown3.len Tryd.underlying51 3; rw [hM3.size] at hlen))
    go_ret2
    refine ⟨rfl, Below.trans (show Gr w _ from ?_).below (hb3.mono (show Gr w _ from ?_).below.size)⟩
    all_goals exact by repeat (first | exact Gr.refl _ | refine Gr.alloc ?_ _ | refine Gr.trans ?_ (by assumption) | refine Gr.drew ?_ | refine Gr.drewN ?_ _ | refine Gr.grow ?_ _ | refine Gr.setCell ?_ (by (try simp); (try omega)) _)
end Go.Proofs
