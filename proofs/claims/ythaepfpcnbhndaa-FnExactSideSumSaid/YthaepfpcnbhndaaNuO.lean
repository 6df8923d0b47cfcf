/-
  Contracts of chapter 1: SideNumbers.
-/
import Derived.Test.YthaepfpcnbhndaaNuN
namespace Go.Proofs
open Go.RowKit
set_option linter.unusedVariables false
set_option linter.unusedSimpArgs false
def snB (k p sd : Int) : Bool := gd k p && inn sd 0 1
def snL (k p sd : Int) : List Int := if snB k p sd then nlist k p sd p.toNat else []
theorem snL_len (k p sd : Int) : (snL k p sd).length ≤ 1000 := by
  unfold snL
  split
  · rename_i h
    have hg : gd k p = true := by simp [snB] at h; exact h.1
    obtain ⟨h0, h1, h2, h3⟩ := gd_t hg
    have := nlist_len k p sd p.toNat
    omega
  · simp
set_option maxHeartbeats 400000 in
theorem Try.sSideNumbers (k p sd : Int) (w : World) :
    Calls Try.prog 57 #[.agg #[.int .i64 k, .int .i64 p], .int .i64 sd] w (RetI w (snL k p sd) (snB k p sd)) := by
  cases hg : gd k p
  · have e : snB k p sd = false := by simp [snB, hg]
    rw [show snL k p sd = [] by simp [snL, e], e]
    have H := Lib.hid hg
    clear hg e
    go_enter Try.func57, Try.ntmps57
    go_wp2_with (first | (go_at_call 85; refine (Try.nuGood _ _ _ H.out _).mono ?_; rintro e w1 ⟨rfl, hbW⟩; have hcW := (bcell hbW.below).1; have hfW := (bcell hbW.below).2; (try have hzW : w.heap.size < w1.heap.size := by have hq := hbW.below.size; (try simp at hq); omega); (try have hyW : w.heap.size + 1 < w1.heap.size := by have hq := hbW.below.size; (try simp at hq); omega)))
    go_ret2
    exact ⟨_, rfl, OwnI.nil _ _, Gr.below (by repeat (first | exact Gr.refl _ | refine Gr.alloc ?_ _ | refine Gr.trans ?_ (by assumption) | refine Gr.drew ?_ | refine Gr.drewN ?_ _ | refine Gr.grow ?_ _))⟩
  · obtain ⟨h0, h1, h2, h3⟩ := gd_t hg
    cases hi : inn sd 0 1
    · have e : snB k p sd = false := by simp [snB, hi]
      rw [show snL k p sd = [] by simp [snL, e], e]
      have H := Lib.hid hg
      have H2 := Lib.hid hi
      clear hg e hi
      go_enter Try.func57, Try.ntmps57
      go_wp2_with (first | (go_at_call 85; refine (Try.nuGood _ _ _ H.out _).mono ?_; rintro e w1 ⟨rfl, hbW⟩; have hcW := (bcell hbW.below).1; have hfW := (bcell hbW.below).2; (try have hzW : w.heap.size < w1.heap.size := by have hq := hbW.below.size; (try simp at hq); omega); (try have hyW : w.heap.size + 1 < w1.heap.size := by have hq := hbW.below.size; (try simp at hq); omega)) | (go_at_call 67; refine (Try.l1In_b _ _ _ _ H2.out _).mono ?_; rintro e w1 ⟨rfl, rfl⟩))
      go_ret2
      exact ⟨_, rfl, OwnI.nil _ _, Gr.below (by repeat (first | exact Gr.refl _ | refine Gr.alloc ?_ _ | refine Gr.trans ?_ (by assumption) | refine Gr.drew ?_ | refine Gr.drewN ?_ _ | refine Gr.grow ?_ _))⟩
    · have e : snB k p sd = true := by simp [snB, hi, hg]
      rw [show snL k p sd = nlist k p sd p.toNat by simp [snL, e], e]
      have H := Lib.hid hg
      have H2 := Lib.hid hi
      clear hg e hi
      go_enter Try.func57, Try.ntmps57
      go_wp2_with (first | (go_at_call 85; refine (Try.nuGood _ _ _ H.out _).mono ?_; rintro e w1 ⟨rfl, hbW⟩; have hcW := (bcell hbW.below).1; have hfW := (bcell hbW.below).2; (try have hzW : w.heap.size < w1.heap.size := by have hq := hbW.below.size; (try simp at hq); omega); (try have hyW : w.heap.size + 1 < w1.heap.size := by have hq := hbW.below.size; (try simp at hq); omega)) | (go_at_call 67; refine (Try.l1In_b _ _ _ _ H2.out _).mono ?_; rintro e w1 ⟨rfl, rfl⟩) | (go_at_call 101; refine (Try.nuNumbers _ _ _ _ h0 h1 h2 h3).mono ?_; rintro e w2 ⟨v, rfl, ho, hb⟩))
      go_ret2
      have gg : Gr w w1 := (by repeat (first | exact Gr.refl _ | refine Gr.alloc ?_ _ | refine Gr.trans ?_ (by assumption) | refine Gr.drew ?_ | refine Gr.drewN ?_ _ | refine Gr.grow ?_ _))
      exact ⟨_, rfl, OwnI.mono ho gg.below.size, gg.below.trans (hb.mono gg.below.size)⟩
theorem na_in (k p sd : Int) (i : Nat) (hg : gd k p = true) (hi : (i : Int) < p) : naB k p sd i = hsd k sd ∧ (hsd k sd = true → naV k p sd i = num k p sd i) ∧ (hsd k sd = false → naV k p sd i = 0) := by
  have e : naB k p sd i = hsd k sd := by unfold naB; rw [hg, inn_t (by omega) (by omega)]; simp
  exact ⟨e, fun h => by simp [naV, e, h], fun h => by simp [naV, e, h]⟩
def IRel (k p sd : Int) (w : World) (s n : Value) (wr : World) : Prop := ∃ i : Nat, (i : Int) ≤ p ∧ n = .int .i64 i ∧ OwnI wr w.heap.size s (nlist k p sd i) ∧ Below w.heap.size w wr
set_option maxRecDepth 100000 in
set_option maxHeartbeats 1000000 in
theorem Try.iSideNumbers (k p sd : Int) (w : World) :
    Calls Try.prog 58 #[.agg #[.int .i64 k, .int .i64 p], .int .i64 sd] w (RetI w (snL k p sd) (snB k p sd)) := by
  obtain ⟨i0, hi, hz0, hz1, hz2⟩ := info_parts Try.infoInt
  cases hg : gd k p
  · have e : snB k p sd = false := by simp [snB, hg]
    rw [show snL k p sd = [] by simp [snL, e], e]
    have H := Lib.hid hg
    clear hg e
    go_enter Try.func58, Try.ntmps58
    go_wp2_with (first | (go_at_call 41; refine (Try.iIsStreet _ _ _ H.out _).mono ?_; rintro e w1 ⟨rfl, hbW⟩; have hcW := (bcell hbW.below).1; have hfW := (bcell hbW.below).2; (try have hzW : w.heap.size < w1.heap.size := by have hq := hbW.below.size; (try simp at hq); omega); (try have hyW : w.heap.size + 1 < w1.heap.size := by have hq := hbW.below.size; (try simp at hq); omega)))
    go_ret2
    exact ⟨_, rfl, OwnI.nil _ _, Gr.below (by repeat (first | exact Gr.refl _ | refine Gr.alloc ?_ _ | refine Gr.trans ?_ (by assumption) | refine Gr.drew ?_ | refine Gr.drewN ?_ _ | refine Gr.grow ?_ _))⟩
  · obtain ⟨h0, h1, h2, h3⟩ := gd_t hg
    cases hin : inn sd 0 1
    · have e : snB k p sd = false := by simp [snB, hin]
      rw [show snL k p sd = [] by simp [snL, e], e]
      have H := Lib.hid hg
      have H2 := Lib.hid hin
      clear hg e hin
      go_enter Try.func58, Try.ntmps58
      go_wp2_with (first | (go_at_call 41; refine (Try.iIsStreet _ _ _ H.out _).mono ?_; rintro e w1 ⟨rfl, hbW⟩; have hcW := (bcell hbW.below).1; have hfW := (bcell hbW.below).2; (try have hzW : w.heap.size < w1.heap.size := by have hq := hbW.below.size; (try simp at hq); omega); (try have hyW : w.heap.size + 1 < w1.heap.size := by have hq := hbW.below.size; (try simp at hq); omega)) | (go_at_call 64; refine (Try.within_b _ _ _ _ H2.out _).mono ?_; rintro e w1 ⟨rfl, rfl⟩))
      go_ret2
      exact ⟨_, rfl, OwnI.nil _ _, Gr.below (by repeat (first | exact Gr.refl _ | refine Gr.alloc ?_ _ | refine Gr.trans ?_ (by assumption) | refine Gr.drew ?_ | refine Gr.drewN ?_ _ | refine Gr.grow ?_ _))⟩
    · have e : snB k p sd = true := by simp [snB, hin, hg]
      rw [show snL k p sd = nlist k p sd p.toNat by simp [snL, e], e]
      have H := Lib.hid hg
      have H2 := Lib.hid hin
      have HI := Lib.hid hi
      clear hg e hin hi
      go_enter Try.func58, Try.ntmps58
      go_wp2_with (first | (go_at_call 41; refine (Try.iIsStreet _ _ _ H.out _).mono ?_; rintro e w1 ⟨rfl, hbW⟩; have hcW := (bcell hbW.below).1; have hfW := (bcell hbW.below).2; (try have hzW : w.heap.size < w1.heap.size := by have hq := hbW.below.size; (try simp at hq); omega); (try have hyW : w.heap.size + 1 < w1.heap.size := by have hq := hbW.below.size; (try simp at hq); omega)) | (go_at_call 64; refine (Try.within_b _ _ _ _ H2.out _).mono ?_; rintro e w1 ⟨rfl, rfl⟩))
      have gw : Gr w w1 := (by repeat (first | exact Gr.refl _ | refine Gr.alloc ?_ _ | refine Gr.trans ?_ (by assumption) | refine Gr.drew ?_ | refine Gr.drewN ?_ _ | refine Gr.grow ?_ _))
      have c0 : w1.cell? ⟨w.heap.size, 0, none⟩ = some (.int .i64 k) := by go_simp
      have c1 : w1.cell? ⟨w.heap.size, 1, none⟩ = some (.int .i64 p) := by go_simp
      have HZ := Lib.hid hzW
      clear hcW hfW hbW hzW
      go_loopw [6, 7, 8, 9, 20] (fun s _ _ _ n wr => IRel k p sd w1 s n wr) (fun _ _ _ _ n _ => (p - intOf n).toNat)
      case atStart => exact ⟨0, by omega, rfl, by simp [nlist]; exact OwnI.nil _ _, Below.refl _ _⟩
      case round =>
        obtain ⟨i, hi', rfl, ho, hb⟩ := hrel
        have e0 := ((bcell hb).1 w.heap.size 0 HZ.out).trans c0
        have e1 := ((bcell hb).1 w.heap.size 1 HZ.out).trans c1
        have sz : w.heap.size < wr.heap.size := Nat.lt_of_lt_of_le HZ.out hb.size
        have HO := Lib.hid ho
        have HB := Lib.hid hb
        clear ho hb c0 c1
        by_cases hlt : (i : Int) < p
        · obtain ⟨n1, n2, n3⟩ := na_in k p sd i H.out hlt
          have hlen := nlist_len k p sd i
          have hna := fun (w : World) => Try.iNumberAt k p sd i w
          rw [n1] at hna
          cases hh : hsd k sd
          · rw [hh, n3 hh] at hna
            have HNA := Lib.hid hna
            have HE := Lib.hid (nlist_no k p sd i hh)
            have HE2 := Lib.hid (nlist_no k p sd (i + 1) hh)
            clear hna n1 n2 n3 hh
            go_wp2_with (first | (go_at_call 45; refine (HNA.out _).mono ?_; rintro e w2 ⟨rfl, g2⟩))
            go_roundw
            case rel => exact ⟨i + 1, by omega, by go_num, by rw [HE2.out, ← HE.out]; exact HO.out.gr g2, HB.out.trans (g2.below.mono HB.out.size)⟩
            case measure => simp [intOf]; omega
          · rw [hh, n2 hh] at hna
            have HNA := Lib.hid hna
            have HS := Lib.hid (nlist_succ k p sd i hh)
            clear hna n1 n2 n3 hh
            go_wp2_with (first | (go_at_call 45; refine (HNA.out _).mono ?_; rintro e w2 ⟨rfl, g2⟩) | (at_builtin; refine wpList_append_own _ rfl _ _ 29 rfl w1.heap.size 3 i0 (.int .i64 0) 1 8 Try.underlying29 HI.out hz0 hz1 hz2 rfl (by decide) _ _ _ rfl (World.ownsRow.alloc (HO.out.gr g2) _) ⟨w2.heap.size, 0, none⟩ 1 1 [.int .i64 (num k p sd i)] rfl rfl ?c1 ?c2 ?c3 ?c4 ?c5 ?_; rotate_right; intro v' w3 hown3 hgr3 _))
            case c1 => exact cell_one_new _ _ _
            case c2 => simp [Value.oneCell']
            case c3 => unfold maxLen; omega
            case c4 => omega
            case c5 => have a := HB.out.size; have c := g2.below.size; simp; omega
            have gb : Below w1.heap.size w1 w3 := by
              have a := HB.out.size; have c := g2.below.size
              refine Below.grown ((HB.out.trans (g2.below.mono a)).alloc (by omega) _) hgr3 (by simp; omega) ?_
              intro kk hk
              exact (World.ownsRow.lt HO.out kk hk).1
            have ow : OwnI w3 w1.heap.size v' (nlist k p sd (i + 1)) := by
              unfold OwnI
              rw [HS.out]
              simpa using hown3
            have GB := Lib.hid gb
            have OW := Lib.hid ow
            clear gb ow hown3 hgr3
            go_wp2
            go_roundw
            case rel => exact ⟨i + 1, by omega, by go_num, OW.out, GB.out⟩
            case measure => simp [intOf]; omega
        · have HT := Lib.hid (show p.toNat = i by omega)
          go_wp2
          go_ret2
          have a := gw.below.size
          exact ⟨_, rfl, by rw [HT.out]; exact OwnI.mono HO.out a, gw.below.trans (HB.out.mono a)⟩
end Go.Proofs
