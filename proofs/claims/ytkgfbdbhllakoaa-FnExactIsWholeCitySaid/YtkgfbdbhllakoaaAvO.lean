/-
  Contracts of chapter 4: how many corners there are ways to. Both sides.
-/
import Derived.Test.YtkgfbdbhllakoaaAvN
import Derived.Test.YtkgfbdbhllakoaaGrCnt
namespace Go.Proofs
open Go.RowKit Av Gm Go.Maps
set_option linter.unusedVariables false
set_option linter.unusedSimpArgs false
def vtx (H : Int) (xs : List Int) : Nat := (xs.getD 0 0 * H + xs.getD 1 0).toNat
def crB (W H : Int) (ps : List Blk) (xs : List Int) : Bool := okB W H ps && isC W H xs
def crN (W H : Int) (ps : List Blk) (xs : List Int) : Nat := (fin (nbC W.toNat H.toNat ps) (W.toNat * H.toNat) (vtx H xs)).q.length
def crV (W H : Int) (ps : List Blk) (xs : List Int) : Int := if crB W H ps xs then crN W H ps xs else 0
/-- the first k, those that are found -/
def cnk (l : List Int) (k : Nat) : Nat := ((l.take k).filter (fun d => decide (0 ≤ d))).length
theorem cnk_succ (l : List Int) (k : Nat) (h : k < l.length) : cnk l (k + 1) = if 0 ≤ l.getD k 0 then cnk l k + 1 else cnk l k := by
  unfold cnk
  rw [← List.take_append_getElem h, List.filter_append, List.length_append]
  have e : l.getD k 0 = l[k] := by simp [List.getD, h]
  rw [e]
  by_cases q : 0 ≤ l[k]
  · simp [q]
  · simp [q]
theorem cnk_le (l : List Int) (k : Nat) : cnk l k ≤ k := by
  unfold cnk
  exact Nat.le_trans (List.length_filter_le _ _) (by simp; omega)
set_option maxRecDepth 100000 in
set_option maxHeartbeats 1600000 in
theorem Try.iCornersReached (w : World) (W H : Int) (B : Nat) (a : Value) (ps : List Blk) (Ba : Nat) (la : Value) (xs : List Int) (v : Int) (b : Bool) (hv : crV W H ps xs = v) (hb : crB W H ps xs = b) (hl : ps.length ≤ 1048576) (h : OwnB w B a ps) (hla : OwnI w Ba la xs) :
    Calls Try.prog 24 #[.agg #[.int .i64 W, .int .i64 H, a], la] w fun e w' => e = .returned (.tuple #[.int .i64 v, .bool b]) ∧ Below w.heap.size w w' := by
  have mixed : Try.prog.follows .mixedOrders = true := by kernel_rfl
  subst hv hb
  obtain ⟨A, c, rfl, h⟩ := OwnE.eta h
  obtain ⟨b1, h1⟩ : ∃ b1, okB W H ps = b1 := ⟨_, rfl⟩
  obtain ⟨b2, h2⟩ : ∃ b1, isC W H xs = b1 := ⟨_, rfl⟩
  have HA := Lib.hid (fun (X : World) (g : Gr w X) => Try.cornerOf X W H B _ ps Ba la xs b1 b2 h1 h2 hl (h.gr g) (hla.gr g))
  have hcb : crB W H ps xs = (b1 && b2) := by unfold crB; rw [h1, h2]
  cases hall : (b1 && b2)
  · rw [hall] at hcb
    have e2 : crV W H ps xs = 0 := by unfold crV; rw [hcb]; rfl
    rw [hcb, e2]
    rw [hall] at HA
    unfold coV at HA
    generalize coX false xs = x1 at *
    generalize coY false xs = y1 at *
    clear h hla h1 h2 hall e2 hcb
    go_enter Try.func24, Try.ntmps24
    go_wp2_with (first | (go_at_call 44; refine (HA.out _ (by repeat (first | exact Gr.refl _ | refine Gr.alloc ?_ _ | refine Gr.trans ?_ (by assumption) | refine Gr.drew ?_ | refine Gr.drewN ?_ _ | refine Gr.grow ?_ _ | refine Gr.setCell ?_ (by (try simp); (try omega)) _))).mono ?_; rintro e w1 ⟨rfl, hbW⟩; have hcW := (bcell hbW.below).1; have hfW := (bcell hbW.below).2; (try have hzW : w.heap.size < w1.heap.size := by have hq := hbW.below.size; (try simp at hq); omega); (try have hyW : w.heap.size + 1 < w1.heap.size := by have hq := hbW.below.size; (try simp at hq); omega); (try have hxW : w.heap.size + 2 < w1.heap.size := by have hq := hbW.below.size; (try simp at hq); omega)))
    go_ret2
    exact ⟨rfl, Gr.below (by repeat (first | exact Gr.refl _ | refine Gr.alloc ?_ _ | refine Gr.trans ?_ (by assumption) | refine Gr.drew ?_ | refine Gr.drewN ?_ _ | refine Gr.grow ?_ _ | refine Gr.setCell ?_ (by (try simp); (try omega)) _))⟩
  · rw [hall] at hcb
    simp only [Bool.and_eq_true] at hall
    obtain ⟨rfl, rfl⟩ := hall
    obtain ⟨o1, o2, o3, o4, _, _, o7⟩ := of_decide_eq_true h1
    obtain ⟨p1, p2⟩ := isC_vtx h2 ⟨o1, o2⟩ ⟨o3, o4⟩
    have e2 : crV W H ps xs = crN W H ps xs := by unfold crV; rw [hcb]; rfl
    rw [hcb, e2]
    unfold coV coX coY at HA
    simp only [Bool.and_self, if_true] at HA
    unfold crN vtx
    generalize (xs.getD 0 0 * H + xs.getD 1 0).toNat = s0 at *
    obtain ⟨Wn, rfl⟩ : ∃ Wn : Nat, W = Wn := ⟨W.toNat, by omega⟩
    obtain ⟨Hn, rfl⟩ : ∃ Hn : Nat, H = Hn := ⟨H.toNat, by omega⟩
    simp only [Int.toNat_natCast] at *
    subst p2
    simp only [List.getD_cons_zero, List.getD_cons_succ] at HA
    have HR := Lib.hid (fun (X : World) (g : Below w.heap.size w X) => Try.reachedFrom X Wn Hn B _ ps s0 (by omega) (by omega) o7 p1 hl (OwnE.below h g (Nat.le_refl _)))
    generalize fin (nbC Wn Hn ps) (Wn * Hn) s0 = st at *
    clear h hla h1 h2 e2 hcb p1 o1 o2 o3 o4
    obtain ⟨x1, hx1⟩ : ∃ x, (crn Hn s0).1 = x := ⟨_, rfl⟩
    obtain ⟨y1, hy1⟩ : ∃ x, (crn Hn s0).2 = x := ⟨_, rfl⟩
    simp only [hx1, hy1] at HA HR
    go_enter Try.func24, Try.ntmps24
    go_wp2_with (first | (go_at_call 44; refine (HA.out _ (by repeat (first | exact Gr.refl _ | refine Gr.alloc ?_ _ | refine Gr.trans ?_ (by assumption) | refine Gr.drew ?_ | refine Gr.drewN ?_ _ | refine Gr.grow ?_ _ | refine Gr.setCell ?_ (by (try simp); (try omega)) _))).mono ?_; rintro e w1 ⟨rfl, hbW⟩; have hcW := (bcell hbW.below).1; have hfW := (bcell hbW.below).2; (try have hzW : w.heap.size < w1.heap.size := by have hq := hbW.below.size; (try simp at hq); omega); (try have hyW : w.heap.size + 1 < w1.heap.size := by have hq := hbW.below.size; (try simp at hq); omega); (try have hxW : w.heap.size + 2 < w1.heap.size := by have hq := hbW.below.size; (try simp at hq); omega)) | (go_at_call 40; refine (HR.out _ (Gr.below (show Gr w _ from (by repeat (first | exact Gr.refl _ | refine Gr.alloc ?_ _ | refine Gr.trans ?_ (by assumption) | refine Gr.drew ?_ | refine Gr.drewN ?_ _ | refine Gr.grow ?_ _ | refine Gr.setCell ?_ (by (try simp); (try omega)) _))))).mono ?_; rintro e w3 ⟨b3, n3, D3, rfl, hown3, hM3, hb3⟩; have hlen := hown3.len Try.underlying67 3; rw [hM3.size] at hlen))
    go_ret2
    refine ⟨rfl, Below.trans (show Gr w _ from ?_).below (hb3.mono (show Gr w _ from ?_).below.size)⟩
    all_goals exact by repeat (first | exact Gr.refl _ | refine Gr.alloc ?_ _ | refine Gr.trans ?_ (by assumption) | refine Gr.drew ?_ | refine Gr.drewN ?_ _ | refine Gr.grow ?_ _ | refine Gr.setCell ?_ (by (try simp); (try omega)) _)
set_option maxRecDepth 100000 in
set_option maxHeartbeats 1600000 in
theorem Try.sCornersReached (w : World) (W H : Int) (B : Nat) (a : Value) (ps : List Blk) (Ba : Nat) (la : Value) (xs : List Int) (v : Int) (b : Bool) (hv : crV W H ps xs = v) (hb : crB W H ps xs = b) (hl : ps.length ≤ 1048576) (h : OwnB w B a ps) (hla : OwnI w Ba la xs) :
    Calls Try.prog 23 #[.agg #[.int .i64 W, .int .i64 H, a], la] w fun e w' => e = .returned (.tuple #[.int .i64 v, .bool b]) ∧ Below w.heap.size w w' := by
  have mixed : Try.prog.follows .mixedOrders = true := by kernel_rfl
  subst hv hb
  obtain ⟨A, c, rfl, h⟩ := OwnE.eta h
  obtain ⟨b1, h1⟩ : ∃ b1, okB W H ps = b1 := ⟨_, rfl⟩
  obtain ⟨b2, h2⟩ : ∃ b1, isC W H xs = b1 := ⟨_, rfl⟩
  have HA := Lib.hid (fun (X : World) (g : Gr w X) => Try.avGood X W H B _ ps b1 h1 hl (h.gr g))
  have HC := Lib.hid (fun (X : World) (g : Gr w X) hW hH => Try.avCorner X W H A ps.length c Ba la xs hW hH b2 h2 (hla.gr g))
  have HR1 := Lib.hid h1
  have hcb : crB W H ps xs = (b1 && b2) := by unfold crB; rw [h1, h2]
  cases b1
  · have hcb : crB W H ps xs = false := hcb
    have e2 : crV W H ps xs = 0 := by unfold crV; rw [hcb]; rfl
    rw [hcb, e2]
    clear h hla h1 h2 e2 hcb
    go_enter Try.func23, Try.ntmps23
    go_wp2_with (first | (go_at_call 42; refine (HA.out _ (by repeat (first | exact Gr.refl _ | refine Gr.alloc ?_ _ | refine Gr.trans ?_ (by assumption) | refine Gr.drew ?_ | refine Gr.drewN ?_ _ | refine Gr.grow ?_ _ | refine Gr.setCell ?_ (by (try simp); (try omega)) _))).mono ?_; rintro e w1 ⟨rfl, hbW⟩; have hcW := (bcell hbW.below).1; have hfW := (bcell hbW.below).2; (try have hzW : w.heap.size < w1.heap.size := by have hq := hbW.below.size; (try simp at hq); omega); (try have hyW : w.heap.size + 1 < w1.heap.size := by have hq := hbW.below.size; (try simp at hq); omega); (try have hxW : w.heap.size + 2 < w1.heap.size := by have hq := hbW.below.size; (try simp at hq); omega)))
    go_ret2
    exact ⟨rfl, Gr.below (by repeat (first | exact Gr.refl _ | refine Gr.alloc ?_ _ | refine Gr.trans ?_ (by assumption) | refine Gr.drew ?_ | refine Gr.drewN ?_ _ | refine Gr.grow ?_ _ | refine Gr.setCell ?_ (by (try simp); (try omega)) _))⟩
  · obtain ⟨o1, o2, o3, o4, _, _, o7⟩ := of_decide_eq_true h1
    cases b2
    · have hcb : crB W H ps xs = false := hcb
      have e2 : crV W H ps xs = 0 := by unfold crV; rw [hcb]; rfl
      rw [hcb, e2]
      clear h hla h1 h2 e2 hcb
      go_enter Try.func23, Try.ntmps23
      go_wp2_with (first | (go_at_call 42; refine (HA.out _ (by repeat (first | exact Gr.refl _ | refine Gr.alloc ?_ _ | refine Gr.trans ?_ (by assumption) | refine Gr.drew ?_ | refine Gr.drewN ?_ _ | refine Gr.grow ?_ _ | refine Gr.setCell ?_ (by (try simp); (try omega)) _))).mono ?_; rintro e w1 ⟨rfl, hbW⟩; have hcW := (bcell hbW.below).1; have hfW := (bcell hbW.below).2; (try have hzW : w.heap.size < w1.heap.size := by have hq := hbW.below.size; (try simp at hq); omega); (try have hyW : w.heap.size + 1 < w1.heap.size := by have hq := hbW.below.size; (try simp at hq); omega); (try have hxW : w.heap.size + 2 < w1.heap.size := by have hq := hbW.below.size; (try simp at hq); omega)) | (go_at_call 43; refine (HC.out _ (by repeat (first | exact Gr.refl _ | refine Gr.alloc ?_ _ | refine Gr.trans ?_ (by assumption) | refine Gr.drew ?_ | refine Gr.drewN ?_ _ | refine Gr.grow ?_ _ | refine Gr.setCell ?_ (by (try simp); (try omega)) _)) ⟨o1, o2⟩ ⟨o3, o4⟩).mono ?_; rintro e w1 ⟨rfl, hbW⟩; have hcW := (bcell hbW.below).1; have hfW := (bcell hbW.below).2; (try have hzW : w.heap.size < w1.heap.size := by have hq := hbW.below.size; (try simp at hq); omega); (try have hyW : w.heap.size + 1 < w1.heap.size := by have hq := hbW.below.size; (try simp at hq); omega); (try have hxW : w.heap.size + 2 < w1.heap.size := by have hq := hbW.below.size; (try simp at hq); omega)))
      go_ret2
      exact ⟨rfl, Gr.below (by repeat (first | exact Gr.refl _ | refine Gr.alloc ?_ _ | refine Gr.trans ?_ (by assumption) | refine Gr.drew ?_ | refine Gr.drewN ?_ _ | refine Gr.grow ?_ _ | refine Gr.setCell ?_ (by (try simp); (try omega)) _))⟩
    · have hcb : crB W H ps xs = true := hcb
      obtain ⟨p1, p2⟩ := isC_vtx h2 ⟨o1, o2⟩ ⟨o3, o4⟩
      have e2 : crV W H ps xs = crN W H ps xs := by unfold crV; rw [hcb]; rfl
      rw [hcb, e2]
      unfold crN vtx
      generalize (xs.getD 0 0 * H + xs.getD 1 0).toNat = s0 at *
      obtain ⟨Wn, rfl⟩ : ∃ Wn : Nat, W = Wn := ⟨W.toNat, by omega⟩
      obtain ⟨Hn, rfl⟩ : ∃ Hn : Nat, H = Hn := ⟨H.toNat, by omega⟩
      simp only [Int.toNat_natCast] at *
      subst p2
      have HF := Lib.hid (fun (X : World) (g : Below w.heap.size w X) => Try.avFar X Wn Hn B _ ps s0 Ba la (by omega) (by omega) p1 hl (OwnE.below h g (Nat.le_refl _)) (OwnI.below hla g (Nat.le_refl _)))
      have hI := (fin_bf (@nb_valid Wn Hn ps) p1).inv
      have hcn := cnt_q hI
      have hfl := hI.fl
      have hpos : 0 < Wn * Hn := by omega
      have hN : Wn * Hn ≤ 64 := Nat.mul_le_mul (show Wn ≤ 8 by omega) (show Hn ≤ 8 by omega)
      rw [← hcn]
      have hQ : ∀ l : List Int, (l.filter (fun d => decide (0 ≤ d))).length = cnk l l.length := fun l => by unfold cnk; rw [List.take_length]
      rw [hQ]
      generalize (fin (nbC Wn Hn ps) (Wn * Hn) s0).far = fr at *
      have HV := Lib.hid (show ∀ (w3 : World) (B3 : Nat) (v : Value), OwnI w3 B3 v fr → ∃ g c, v = .slice (some ⟨g, 0, none⟩) (Wn * Hn) c ∧ ∀ k, k < Wn * Hn → w3.cell? ⟨g, k, none⟩ = some (.int .i64 (fr.getD k 0)) from fun w3 B3 v ho => by
        rcases ho.view with ⟨hx, _⟩ | ⟨_, g, c, rfl, _, _, _, hc, _⟩
        · rw [hx] at hfl; simp at hfl; omega
        · exact ⟨g, c, by rw [hfl], fun k hk => hc k (by omega)⟩)
      generalize Wn * Hn = N at *
      clear h hla h1 h2 e2 hcb hI hcn hQ p1
      go_enter Try.func23, Try.ntmps23
      go_wp2_with (first | (go_at_call 42; refine (HA.out _ (by repeat (first | exact Gr.refl _ | refine Gr.alloc ?_ _ | refine Gr.trans ?_ (by assumption) | refine Gr.drew ?_ | refine Gr.drewN ?_ _ | refine Gr.grow ?_ _ | refine Gr.setCell ?_ (by (try simp); (try omega)) _))).mono ?_; rintro e w1 ⟨rfl, hbW⟩; have hcW := (bcell hbW.below).1; have hfW := (bcell hbW.below).2; (try have hzW : w.heap.size < w1.heap.size := by have hq := hbW.below.size; (try simp at hq); omega); (try have hyW : w.heap.size + 1 < w1.heap.size := by have hq := hbW.below.size; (try simp at hq); omega); (try have hxW : w.heap.size + 2 < w1.heap.size := by have hq := hbW.below.size; (try simp at hq); omega)) | (go_at_call 43; refine (HC.out _ (by repeat (first | exact Gr.refl _ | refine Gr.alloc ?_ _ | refine Gr.trans ?_ (by assumption) | refine Gr.drew ?_ | refine Gr.drewN ?_ _ | refine Gr.grow ?_ _ | refine Gr.setCell ?_ (by (try simp); (try omega)) _)) ⟨o1, o2⟩ ⟨o3, o4⟩).mono ?_; rintro e w1 ⟨rfl, hbW⟩; have hcW := (bcell hbW.below).1; have hfW := (bcell hbW.below).2; (try have hzW : w.heap.size < w1.heap.size := by have hq := hbW.below.size; (try simp at hq); omega); (try have hyW : w.heap.size + 1 < w1.heap.size := by have hq := hbW.below.size; (try simp at hq); omega); (try have hxW : w.heap.size + 2 < w1.heap.size := by have hq := hbW.below.size; (try simp at hq); omega)) | (go_at_call 37; refine (HF.out _ (Gr.below (show Gr w _ from (by repeat (first | exact Gr.refl _ | refine Gr.alloc ?_ _ | refine Gr.trans ?_ (by assumption) | refine Gr.drew ?_ | refine Gr.drewN ?_ _ | refine Gr.grow ?_ _ | refine Gr.setCell ?_ (by (try simp); (try omega)) _))))).mono ?_; rintro e w3 ⟨v3, rfl, hown3, hb3⟩; obtain ⟨g3, c3, rfl, hr3⟩ := HV.out _ _ _ hown3))
      have HB3 := Lib.hid (Below.trans (show Below w.heap.size w _ from Gr.below (by repeat (first | exact Gr.refl _ | refine Gr.alloc ?_ _ | refine Gr.trans ?_ (by assumption) | refine Gr.drew ?_ | refine Gr.drewN ?_ _ | refine Gr.grow ?_ _ | refine Gr.setCell ?_ (by (try simp); (try omega)) _))) (hb3.mono (show Gr w _ from (by repeat (first | exact Gr.refl _ | refine Gr.alloc ?_ _ | refine Gr.trans ?_ (by assumption) | refine Gr.drew ?_ | refine Gr.drewN ?_ _ | refine Gr.grow ?_ _ | refine Gr.setCell ?_ (by (try simp); (try omega)) _))).below.size))
      have HR3 := Lib.hid hr3
      clear hr3 hown3 hb3
      rename World => wo
      go_loopw [6, 22] (fun nv iv wr => wr = wo ∧ ∃ k : Nat, iv = .int .i64 k ∧ k ≤ N ∧ nv = .int .i64 (cnk fr k)) (fun _ i _ => N - (intOf i).toNat)
      case atStart => exact ⟨rfl, 0, rfl, Nat.zero_le _, by simp [cnk]⟩
      case round =>
        obtain ⟨rfl, k, rfl, hk, rfl⟩ := hrel
        by_cases hlt : k < N
        · have e1 := HR3.out k hlt
          have z0 : (0 : Int) ≤ (k : Int) := by omega
          have z1 : (k : Int) < (N : Int) := by omega
          have hc := cnk_succ fr k (by omega)
          have hle := cnk_le fr k
          generalize fr.getD k 0 = d at *
          by_cases hd : 0 ≤ d
          · rw [if_pos hd] at hc
            go_wp2
            go_roundw
            case rel => exact ⟨trivial, k + 1, by go_num, by omega, by rw [hc]; go_num⟩
            case measure => simp [intOf]; omega
          · rw [if_neg hd] at hc
            go_wp2
            go_roundw
            case rel => exact ⟨trivial, k + 1, by go_num, by omega, by rw [hc]⟩
            case measure => simp [intOf]; omega
        · obtain rfl : k = N := by omega
          go_wp2
          go_ret2
          exact ⟨by rw [hfl]; rfl, HB3.out⟩
end Go.Proofs
