/-
  The model's helper that puts a number into an increasing list (spec.l1Put).
-/
import Derived.Test.YtcmlojidcpomjaaInts3
import Derived.Deep.DeepCutAuto
import Derived.Deep.RegionHeld3
import Derived.Laws.AppendOwnNone
namespace Go.Proofs
open Go.RowKit
set_option linter.unusedVariables false
set_option linter.unusedSimpArgs false
def plI (xs : List Int) (n : Int) : Nat := (xs.takeWhile (fun y => decide (y < n))).length
theorem plI_le (xs : List Int) (n : Int) : plI xs n ≤ xs.length := (List.takeWhile_prefix _).length_le
theorem plI_before (xs : List Int) (n : Int) (j : Nat) (h : j < plI xs n) : xs.getD j 0 < n := by
  induction xs generalizing j with
  | nil => simp [plI] at h
  | cons q qs ih =>
    by_cases hq : q < n
    · have e : plI (q :: qs) n = plI qs n + 1 := by simp [plI, hq]
      cases j with
      | zero => exact hq
      | succ j => exact ih j (by omega)
    · have e : plI (q :: qs) n = 0 := by simp [plI, hq]
      omega
theorem plI_at (xs : List Int) (n : Int) (h : plI xs n < xs.length) : ¬ xs.getD (plI xs n) 0 < n := by
  induction xs with
  | nil => simp at h
  | cons q qs ih =>
    by_cases hq : q < n
    · have e : plI (q :: qs) n = plI qs n + 1 := by simp [plI, hq]
      rw [e] at h ⊢
      exact ih (by simpa using h)
    · have e : plI (q :: qs) n = 0 := by simp [plI, hq]
      rw [e]; exact hq
theorem plI_eq (xs : List Int) (n : Int) (k : Nat) (hk : k ≤ xs.length) (hb : ∀ j, j < k → xs.getD j 0 < n) (ha : k < xs.length → ¬ xs.getD k 0 < n) : k = plI xs n := by
  rcases Nat.lt_trichotomy k (plI xs n) with h | h | h
  · have := plI_le xs n; exact absurd (plI_before xs n k h) (ha (by omega))
  · exact h
  · exact absurd (hb _ h) (plI_at xs n (by omega))
def hitI (xs : List Int) (n : Int) : Bool := decide (plI xs n < xs.length ∧ xs.getD (plI xs n) 0 = n)
def putI (xs : List Int) (n : Int) : List Int := if hitI xs n then xs else xs.take (plI xs n) ++ n :: xs.drop (plI xs n)
theorem putI_len (xs : List Int) (n : Int) : (putI xs n).length ≤ xs.length + 1 := by
  have := plI_le xs n
  unfold putI
  split <;> simp <;> omega
def PuRel (xs : List Int) (n : Int) (W : World) (i : Value) (wr : World) : Prop := Gr W wr ∧ ∃ k : Nat, k ≤ xs.length ∧ i = .int .i64 k ∧ ∀ j, j < k → xs.getD j 0 < n
set_option maxRecDepth 100000 in
set_option maxHeartbeats 1600000 in
theorem Try.l1Put (w : World) (B : Nat) (v : Value) (xs : List Int) (n : Int) (hB : B ≤ w.heap.size) (hl : xs.length ≤ 1000000) (h : OwnI w B v xs) :
    Calls Try.prog 41 #[v, .int .i64 n] w fun e w' => ∃ v', e = .returned v' ∧ OwnI w' B v' (putI xs n) ∧ Below w.heap.size w w' := by
  have mixed : Try.prog.follows .mixedOrders = true := by kernel_rfl
  rcases h.2 with ⟨rfl, hn⟩ | ⟨g, cap, cur, rfl, gB, hg, hcl, hcm, hsz, htk⟩
  · have hz : xs = [] := List.length_eq_zero_iff.1 hn
    have e : putI xs n = [n] := by rw [hz]; rfl
    rw [e]
    obtain ⟨i0, hi, hz0, hz1, hz2⟩ := info_parts Try.infoI2
    have HII := Lib.hid hi
    clear h hi
    go_enter Try.func41, Try.ntmps41
    go_wp2
    refine wp_loop_rounds 1 ?_
    rw [rounds_succ]
    go_wp2_with (first | (at_builtin; refine wpList_append_own_none rfl _ _ 24 rfl w.heap.size 3 i0 1 Try.underlying24 HII.out _ 0 [] rfl (own_emptyI (heap_new' rfl) (Nat.le_refl _)) rfl ?_) | (at_builtin; refine wpList_appI rfl _ _ 24 rfl Try.underlying24 Try.infoI2 w.heap.size _ [] rfl (OwnI.gr (own_emptyI (heap_new' rfl) (Nat.le_refl _)) (Gr.alloc (Gr.refl _) _)) ⟨w.heap.size + 1, 0, none⟩ 1 1 [n] rfl rfl (fun j u hu => allocI (by simp) j u hu) (by simp) (by simp) (by (try simp); (try omega)) ?_; intro v3 w3 ho3 hb3 hg3) | (at_builtin; refine wpList_append_own_none rfl _ _ 24 rfl w.heap.size 3 i0 1 Try.underlying24 HII.out _ _ _ rfl ho3 rfl ?_))
    go_ret
    exact ⟨_, rfl, OwnI.mono (by simpa using ho3) hB, Below.trans (Gr.below (Gr.alloc (Gr.alloc (Gr.refl _) _) _)) hb3⟩
  · have HO := Lib.hid h
    have hplz := plI_le xs n
    have hcell : ∀ j, j < xs.length → w.cell? ⟨g, j, none⟩ = some (.int .i64 (xs.getD j 0)) := fun j hj => (h.at rfl j hj).1
    have HC := Lib.hid hcell
    have HRD := Lib.hid (fun (W : World) (b : Below w.heap.size w W) (k m : Nat) (hk : k + m ≤ xs.length) => (h.below b (Nat.le_refl _)).reads rfl k m hk)
    have z1 : (xs.length : Int) ≤ (cap : Int) := by omega
    clear h hg hcell htk
    go_enter Try.func41, Try.ntmps41
    go_wp2
    go_loopw [5] (fun i wr => PuRel xs n w i wr) (fun i _ => (xs.length - intOf i).toNat)
    case atStart => exact ⟨Gr.refl _, 0, Nat.zero_le _, rfl, fun j hj => absurd hj (Nat.not_lt_zero _)⟩
    case round =>
      obtain ⟨gr, k, hk, rfl, hall⟩ := hrel
      have zk0 : (0 : Int) ≤ (k : Int) := by omega
      have zk1 : (k : Int) ≤ (xs.length : Int) := by omega
      have zk2 : (k : Int) ≤ (cap : Int) := by omega
      by_cases hlt : k < xs.length
      · have e1 := gr.keep2 (HC.out k hlt)
        have z2 : (k : Int) < (xs.length : Int) := by omega
        have d9 : decide (k < xs.length) = true := by simpa using hlt
        by_cases hyn : xs.getD k 0 < n
        · have HN := Lib.hid (show ∀ j, j < k + 1 → xs.getD j 0 < n from fun j hj => by
            rcases Nat.lt_or_eq_of_le (Nat.le_of_lt_succ hj) with c | c
            · exact hall j c
            · rw [c]; exact hyn)
          have GR := Lib.hid gr
          clear gr hall
          generalize xs.getD k 0 = y at *
          have d1 : decide (y < n) = true := by simpa using hyn
          go_wp2
          go_roundw
          case rel => exact ⟨GR.out.trans (by repeat (first | exact Gr.refl _ | refine Gr.alloc ?_ _ | refine Gr.trans ?_ (by assumption) | refine Gr.drew ?_ | refine Gr.drewN ?_ _ | refine Gr.grow ?_ _ | refine Gr.setCell ?_ (by (try simp); (try omega)) _)), k + 1, by omega, by go_num, HN.out⟩
          case measure => simp [intOf]; omega
        · have hpl : k = plI xs n := plI_eq xs n k hk hall (fun _ => hyn)
          have GR := Lib.hid gr
          clear gr hall
          by_cases heq : xs.getD k 0 = n
          · have HV := Lib.hid (show putI xs n = xs by unfold putI hitI; rw [← hpl]; simp [hlt]; intro h; exact absurd (by simpa [List.getD, hlt] using heq) h)
            generalize xs.getD k 0 = y at *
            have d1 : decide (y < n) = false := by simpa using hyn
            have d2 : ((y : Int) == n) = true := by simp [heq]
            clear hpl
            go_wp2
            go_ret
            exact ⟨_, rfl, by rw [HV.out]; exact HO.out.gr (GR.out.trans (by repeat (first | exact Gr.refl _ | refine Gr.alloc ?_ _ | refine Gr.trans ?_ (by assumption) | refine Gr.drew ?_ | refine Gr.drewN ?_ _ | refine Gr.grow ?_ _ | refine Gr.setCell ?_ (by (try simp); (try omega)) _))), (GR.out.trans (by repeat (first | exact Gr.refl _ | refine Gr.alloc ?_ _ | refine Gr.trans ?_ (by assumption) | refine Gr.drew ?_ | refine Gr.drewN ?_ _ | refine Gr.grow ?_ _ | refine Gr.setCell ?_ (by (try simp); (try omega)) _))).below⟩
          · have HV := Lib.hid (show putI xs n = xs.take k ++ [n] ++ xs.drop k by unfold putI hitI; rw [← hpl]; simp [hlt]; intro h; exact absurd (by simpa [List.getD, hlt] using h) heq)
            generalize xs.getD k 0 = y at *
            have d1 : decide (y < n) = false := by simpa using hyn
            have d2 : ((y : Int) == n) = false := by simp [heq]
            have hkc : ¬ cap = k := by omega
            clear hpl
            go_wp2_with (first
              | (at_builtin; refine wpList_appI rfl _ _ 24 rfl Try.underlying24 Try.infoI2 wr.heap.size _ [] rfl (own_emptyI (heap_new' rfl) (Nat.le_refl _)) ⟨g, 0, none⟩ _ _ (xs.take k) rfl (by (try simp); (try omega)) (fun j u hu => HRD.out _ (GR.out.trans (Gr.alloc (Gr.refl _) _)).below 0 k (by omega) j u (by simpa using hu)) (by simp) (by (try simp); (try omega)) (by simp) ?_; intro v3 w3 ho3 hb3 hg3)
              | (at_builtin; refine wpList_appI rfl _ _ 24 rfl Try.underlying24 Try.infoI2 wr.heap.size _ _ rfl (OwnI.gr ho3 (Gr.alloc (Gr.refl _) _)) ⟨w3.heap.size, 0, none⟩ 1 1 [n] rfl rfl (fun j u hu => allocI rfl j u hu) (by (try simp); (try omega)) (by simp) (by have := hb3.size; (try simp at this); simp; omega) ?_; intro v4 w4 ho4 hb4 hg4)
              | (at_builtin; refine wpList_appI rfl _ _ 24 rfl Try.underlying24 Try.infoI2 wr.heap.size _ _ rfl ho4 ⟨g, k, none⟩ (xs.length - k) (cap - k) (xs.drop k) rfl (by simp) (fun j u hu => HRD.out _ (GR.out.below.trans ((Below.trans (Below.trans (Gr.below (Gr.alloc (Gr.refl _) _)) hb3) (Below.trans ((Gr.below (Gr.alloc (Gr.refl _) _)).mono (by have a := hb3.size; (try simp at a); omega)) hb4)).mono GR.out.below.size)) k (xs.length - k) (by omega) j u (by rwa [List.take_of_length_le (by simp)])) (by (try simp); (try omega)) (by (try simp); (try omega)) (by have a := hb3.size; have b := hb4.size; (try simp at a); (try simp at b); omega) ?_; intro v5 w5 ho5 hb5 hg5))
            go_ret
            exact ⟨_, rfl, OwnI.mono (by rw [HV.out]; simpa using ho5) (Nat.le_trans hB GR.out.below.size), GR.out.below.trans ((Below.trans (Below.trans (Below.trans (Gr.below (Gr.alloc (Gr.refl _) _)) hb3) (Below.trans ((Gr.below (Gr.alloc (Gr.refl _) _)).mono (by have a := hb3.size; (try simp at a); omega)) hb4)) hb5).mono GR.out.below.size)⟩
      · have hk0 : k = xs.length := by omega
        have hpl : k = plI xs n := plI_eq xs n k hk hall (fun q => absurd q hlt)
        have HV := Lib.hid (show putI xs n = xs.take k ++ [n] ++ xs.drop k by unfold putI hitI; rw [← hpl]; simp [hk0])
        have GR := Lib.hid gr
        have d9 : decide (k < xs.length) = false := by simpa using hlt
        have d8 : decide ((k : Int) < (xs.length : Int)) = false := by simp; omega
        have HDR := Lib.hid (show xs.drop k = [] from List.drop_eq_nil_of_le (by omega))
        clear gr hall hpl hk0
        by_cases hkc : cap = k
        · have HV2 := Lib.hid (show putI xs n = xs.take k ++ [n] ++ [] by have := HV.out; rwa [HDR.out] at this)
          have HV := HV2
          clear HV2
          go_wp2_with (first
              | (at_builtin; refine wpList_appI rfl _ _ 24 rfl Try.underlying24 Try.infoI2 wr.heap.size _ [] rfl (own_emptyI (heap_new' rfl) (Nat.le_refl _)) ⟨g, 0, none⟩ _ _ (xs.take k) rfl (by (try simp); (try omega)) (fun j u hu => HRD.out _ (GR.out.trans (Gr.alloc (Gr.refl _) _)).below 0 k (by omega) j u (by simpa using hu)) (by simp) (by (try simp); (try omega)) (by simp) ?_; intro v3 w3 ho3 hb3 hg3)
              | (at_builtin; refine wpList_appI rfl _ _ 24 rfl Try.underlying24 Try.infoI2 wr.heap.size _ _ rfl (OwnI.gr ho3 (Gr.alloc (Gr.refl _) _)) ⟨w3.heap.size, 0, none⟩ 1 1 [n] rfl rfl (fun j u hu => allocI rfl j u hu) (by (try simp); (try omega)) (by simp) (by have := hb3.size; (try simp at this); simp; omega) ?_; intro v4 w4 ho4 hb4 hg4)
              | (at_builtin; refine wpList_appI rfl _ _ 24 rfl Try.underlying24 Try.infoI2 wr.heap.size _ _ rfl ho4 ⟨g, 0, none⟩ _ _ [] rfl (by simp; try omega) (fun j u hu => by simp [ics] at hu) (by (try simp); (try omega)) (by (try simp); (try omega)) (by have a := hb3.size; have b := hb4.size; (try simp at a); (try simp at b); omega) ?_; intro v5 w5 ho5 hb5 hg5))
          go_ret
          exact ⟨_, rfl, OwnI.mono (by rw [HV.out]; simpa using ho5) (Nat.le_trans hB GR.out.below.size), GR.out.below.trans ((Below.trans (Below.trans (Below.trans (Gr.below (Gr.alloc (Gr.refl _) _)) hb3) (Below.trans ((Gr.below (Gr.alloc (Gr.refl _) _)).mono (by have a := hb3.size; (try simp at a); omega)) hb4)) hb5).mono GR.out.below.size)⟩
        · go_wp2_with (first
              | (at_builtin; refine wpList_appI rfl _ _ 24 rfl Try.underlying24 Try.infoI2 wr.heap.size _ [] rfl (own_emptyI (heap_new' rfl) (Nat.le_refl _)) ⟨g, 0, none⟩ _ _ (xs.take k) rfl (by (try simp); (try omega)) (fun j u hu => HRD.out _ (GR.out.trans (Gr.alloc (Gr.refl _) _)).below 0 k (by omega) j u (by simpa using hu)) (by simp) (by (try simp); (try omega)) (by simp) ?_; intro v3 w3 ho3 hb3 hg3)
              | (at_builtin; refine wpList_appI rfl _ _ 24 rfl Try.underlying24 Try.infoI2 wr.heap.size _ _ rfl (OwnI.gr ho3 (Gr.alloc (Gr.refl _) _)) ⟨w3.heap.size, 0, none⟩ 1 1 [n] rfl rfl (fun j u hu => allocI rfl j u hu) (by (try simp); (try omega)) (by simp) (by have := hb3.size; (try simp at this); simp; omega) ?_; intro v4 w4 ho4 hb4 hg4)
              | (at_builtin; refine wpList_appI rfl _ _ 24 rfl Try.underlying24 Try.infoI2 wr.heap.size _ _ rfl ho4 ⟨g, k, none⟩ (xs.length - k) (cap - k) (xs.drop k) rfl (by simp) (fun j u hu => HRD.out _ (GR.out.below.trans ((Below.trans (Below.trans (Gr.below (Gr.alloc (Gr.refl _) _)) hb3) (Below.trans ((Gr.below (Gr.alloc (Gr.refl _) _)).mono (by have a := hb3.size; (try simp at a); omega)) hb4)).mono GR.out.below.size)) k (xs.length - k) (by omega) j u (by rwa [List.take_of_length_le (by simp)])) (by (try simp); (try omega)) (by (try simp); (try omega)) (by have a := hb3.size; have b := hb4.size; (try simp at a); (try simp at b); omega) ?_; intro v5 w5 ho5 hb5 hg5))
          go_ret
          exact ⟨_, rfl, OwnI.mono (by rw [HV.out]; simpa using ho5) (Nat.le_trans hB GR.out.below.size), GR.out.below.trans ((Below.trans (Below.trans (Below.trans (Gr.below (Gr.alloc (Gr.refl _) _)) hb3) (Below.trans ((Gr.below (Gr.alloc (Gr.refl _) _)).mono (by have a := hb3.size; (try simp at a); omega)) hb4)) hb5).mono GR.out.below.size)⟩
end Go.Proofs
