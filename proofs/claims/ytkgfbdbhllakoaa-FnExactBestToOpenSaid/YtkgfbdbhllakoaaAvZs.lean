/-
  Contracts of chapter 4: the closed block that is best to open (the model).
-/
import Derived.Test.YtkgfbdbhllakoaaAvZ
namespace Go.Proofs
open Go.RowKit Av Gm Go.Maps
set_option linter.unusedVariables false
set_option linter.unusedSimpArgs false
def biV (s : Bool × Int × Nat) : Int := if s.1 then s.2.2 else -1
set_option maxRecDepth 100000 in
set_option maxHeartbeats 4000000 in
theorem Try.sBestToOpen (w : World) (W H : Int) (B : Nat) (a : Value) (ps : List Blk) (Ba : Nat) (la : Value) (xs : List Int) (Bb : Nat) (lb : Value) (ys : List Int) (p1 p2 : Int) (p3 : Bool) (v : Int) (b : Bool) (hp : boK W H ps xs ys = (p1, p2, p3)) (hv : boL W H ps xs ys = v) (hb : boB W H ps xs ys = b) (hl : ps.length ≤ 1048576) (h : OwnB w B a ps) (hla : OwnI w Ba la xs) (hlb : OwnI w Bb lb ys) :
    Calls Try.prog 27 #[.agg #[.int .i64 W, .int .i64 H, a], la, lb] w fun e w' => e = .returned (.tuple #[.agg #[.int .i64 p1, .int .i64 p2, .bool p3], .int .i64 v, .bool b]) ∧ Below w.heap.size w w' := by
  have mixed : Try.prog.follows .mixedOrders = true := by kernel_rfl
  obtain ⟨A, c, rfl, h⟩ := OwnE.eta h
  obtain ⟨b1, h1⟩ : ∃ b1, okB W H ps = b1 := ⟨_, rfl⟩
  obtain ⟨b2, h2⟩ : ∃ b1, isC W H xs = b1 := ⟨_, rfl⟩
  obtain ⟨b3, h3⟩ : ∃ b1, isC W H ys = b1 := ⟨_, rfl⟩
  have HA := Lib.hid (fun (X : World) (g : Gr w X) => Try.avAsked X W H B _ ps Ba la xs Bb lb ys b1 b2 b3 h1 h2 h3 hl (h.gr g) (hla.gr g) (hlb.gr g))
  have e0 : ∀ k, (b2 && b3) = false → bo (dkI W H ps xs ys) k = (false, 0, 0) := by
    intro k hh
    induction k with
    | zero => rfl
    | succ k ih =>
      have : dkI W H ps xs ys k = -1 := by unfold dkI; rw [h2, h3, hh]; rfl
      simp only [bo]
      rw [if_neg (by rw [this]; omega), ih]
  cases hall : (b1 && b2 && b3)
  · have e1 : boB W H ps xs ys = false := by
      unfold boB; rw [h1]
      cases b1
      · rfl
      · rw [e0 _ (by simpa using hall)]; rfl
    have e2 : v = 0 := by rw [← hv]; unfold boL; rw [e1]; rfl
    have e3 : (p1, p2, p3) = b0 := by rw [← hp]; unfold boK; rw [e1]; rfl
    rw [e1] at hb
    cases e3
    subst hb e2
    rw [hall] at HA
    clear h hla hlb h1 h2 h3 hv hp hall e0 e1
    go_enter Try.func27, Try.ntmps27
    go_wp2_with (first | (go_at_call 31; refine (HA.out _ (by repeat (first | exact Gr.refl _ | refine Gr.alloc ?_ _ | refine Gr.trans ?_ (by assumption) | refine Gr.drew ?_ | refine Gr.drewN ?_ _ | refine Gr.grow ?_ _ | refine Gr.setCell ?_ (by (try simp); (try omega)) _))).mono ?_; rintro e w1 ⟨rfl, hbW⟩; have hyW : w.heap.size + 1 < w1.heap.size := (by have hq := hbW.below.size; simp at hq; omega); have q0 := hbW.keep0 (a := ⟨w.heap.size + 1, 0, none⟩) (v := .int .i64 0) (by simp [go_sem]); have q1 := hbW.keep0 (a := ⟨w.heap.size + 1, 1, none⟩) (v := .int .i64 0) (by simp [go_sem]); have q2 := hbW.keep0 (a := ⟨w.heap.size + 1, 2, none⟩) (v := .bool false) (by simp [go_sem]); have hcW := (bcell hbW.below).1; have hfW := (bcell hbW.below).2))
    refine bodyPost_ret (v := .tuple #[.agg #[.int .i64 0, .int .i64 0, .bool false], .int .i64 0, .bool false]) ?_ rfl ⟨rfl, ?_⟩
    · simp [results, Try.results27, go_sem, q0, q1, q2, hyW]
    · exact Gr.below (show Gr w _ from Gr.setCell (Gr.setCell (Gr.setCell (by repeat (first | exact Gr.refl _ | refine Gr.alloc ?_ _ | refine Gr.trans ?_ (by assumption) | refine Gr.drew ?_ | refine Gr.drewN ?_ _ | refine Gr.grow ?_ _ | refine Gr.setCell ?_ (by (try simp); (try omega)) _)) (by simp) _) (by simp) _) (by simp) _)
  · simp only [Bool.and_eq_true] at hall
    obtain ⟨⟨rfl, rfl⟩, rfl⟩ := hall
    clear e0
    obtain ⟨o1, o2, o3, o4, o5, _, o7⟩ := of_decide_eq_true h1
    have e1 : boB W H ps xs ys = (bo (dkI W H ps xs ys) ps.length).1 := by unfold boB; rw [h1]; rfl
    have e2 : boL W H ps xs ys = (bo (dkI W H ps xs ys) ps.length).2.1 := by
      unfold boL; rw [e1]
      cases c : (bo (dkI W H ps xs ys) ps.length).1
      · rw [bo_zero _ _ c]; rfl
      · rfl
    have e3 : boK W H ps xs ys = boE ps (bo (dkI W H ps xs ys) ps.length) := by unfold boK boE; rw [e1]
    rw [e1] at hb
    rw [e2] at hv
    rw [e3] at hp
    subst hb hv
    have HHI := Lib.hid (fun k => dkI_hi (xs := xs) (ys := ys) h1 k)
    have hdk : ∀ k, dkI W H ps xs ys k = dst W.toNat H.toNat (del ps k) (xs.getD 0 0 * H + xs.getD 1 0).toNat (ys.getD 0 0 * H + ys.getD 1 0).toNat := fun k => by
      unfold dkI; rw [h2, h3]; rfl
    obtain ⟨p1', p2'⟩ := isC_vtx h2 ⟨o1, o2⟩ ⟨o3, o4⟩
    obtain ⟨r1, r2⟩ := isC_vtx h3 ⟨o1, o2⟩ ⟨o3, o4⟩
    have HOP := Lib.hid (fun (X : World) (g : Below w.heap.size w X) x y u => Try.avOpen X W H B _ ps x y u (by omega) (OwnE.below h g (Nat.le_refl _)))
    have HDF := Lib.hid (fun k hk => del_filter o7 k hk)
    generalize dkI W H ps xs ys = dk at *
    generalize (xs.getD 0 0 * H + xs.getD 1 0).toNat = s0 at *
    generalize (ys.getD 0 0 * H + ys.getD 1 0).toNat = t0 at *
    clear h1 h2 h3 e1 e2 e3
    obtain ⟨Wn, rfl⟩ : ∃ Wn : Nat, W = Wn := ⟨W.toNat, by omega⟩
    obtain ⟨Hn, rfl⟩ : ∃ Hn : Nat, H = Hn := ⟨H.toNat, by omega⟩
    simp only [Int.toNat_natCast] at *
    subst p2' r2
    have HCD := Lib.hid (fun (X : World) (g : Below w.heap.size w X) B' v' k (hk : k < ps.length) (hv : OwnB X B' v' (del ps k)) => Try.avDistance X Wn Hn B' v' (del ps k) Ba la s0 Bb lb t0 (by omega) (by omega) p1' r1 (by rw [del_len _ _ hk]; omega) hv (OwnI.below hla g (Nat.le_refl _)) (OwnI.below hlb g (Nat.le_refl _)))
    have HDK := Lib.hid hdk
    have HV0 := Lib.hid (show ∀ k, k < ps.length → ∃ g, A = some ⟨g, 0, none⟩ ∧ g < w.heap.size ∧ w.cell? ⟨g, k * 3, none⟩ = some (.int .i64 (ps.getD k b0).1) ∧ w.cell? ⟨g, k * 3 + 1, none⟩ = some (.int .i64 (ps.getD k b0).2.1) ∧ w.cell? ⟨g, k * 3 + 2, none⟩ = some (.bool (ps.getD k b0).2.2) from fun k hk => by
      rcases OwnB.view h with ⟨hx, _⟩ | ⟨_, g, c', e, _, hg, _, _, hc, _⟩
      · rw [hx] at hk; simp at hk
      · cases e
        obtain ⟨c0, c1, c2⟩ := hc k hk
        exact ⟨g, rfl, hg, c0, c1, c2⟩)
    have HP := Lib.hid hp
    clear h hla hlb hp hdk p1' r1
    go_enter Try.func27, Try.ntmps27
    go_wp2_with (first | (go_at_call 31; refine (HA.out _ (by repeat (first | exact Gr.refl _ | refine Gr.alloc ?_ _ | refine Gr.trans ?_ (by assumption) | refine Gr.drew ?_ | refine Gr.drewN ?_ _ | refine Gr.grow ?_ _ | refine Gr.setCell ?_ (by (try simp); (try omega)) _))).mono ?_; rintro e w1 ⟨rfl, hbW⟩; have hyW : w.heap.size + 1 < w1.heap.size := (by have hq := hbW.below.size; simp at hq; omega); have hzW : w.heap.size < w1.heap.size := (by omega); have hcW := (bcell hbW.below).1; have hfW := (bcell hbW.below).2))
    have gW : Gr ((w.alloc (.cells #[.int .i64 Wn, .int .i64 Hn, .slice A ps.length c] 31)).alloc (.cells #[.int .i64 0, .int .i64 0, .bool false] 45)) w1 := hbW
    have GW : Gr w w1 := by repeat (first | exact Gr.refl _ | refine Gr.alloc ?_ _ | refine Gr.trans ?_ (by assumption) | refine Gr.drew ?_ | refine Gr.drewN ?_ _ | refine Gr.grow ?_ _ | refine Gr.setCell ?_ (by (try simp); (try omega)) _)
    have k0 : w1.cell? ⟨w.heap.size, 0, none⟩ = some (.int .i64 Wn) := gW.keep0 (by simp [go_sem])
    have k1 : w1.cell? ⟨w.heap.size, 1, none⟩ = some (.int .i64 Hn) := gW.keep0 (by simp [go_sem])
    have k2 : w1.cell? ⟨w.heap.size, 2, none⟩ = some (.slice A ps.length c) := gW.keep0 (by simp [go_sem])
    have k3 : w1.cell? ⟨w.heap.size + 1, 0, none⟩ = some (.int .i64 0) := gW.keep0 (by simp [go_sem])
    have k4 : w1.cell? ⟨w.heap.size + 1, 1, none⟩ = some (.int .i64 0) := gW.keep0 (by simp [go_sem])
    have k5 : w1.cell? ⟨w.heap.size + 1, 2, none⟩ = some (.bool false) := gW.keep0 (by simp [go_sem])
    have k6 : w1.frozen? ⟨w.heap.size + 1, 0, none⟩ = false := ((bcell gW.below).2 _ _ (by simp)).trans (by simp [go_sem])
    have k7 : w1.frozen? ⟨w.heap.size + 1, 1, none⟩ = false := ((bcell gW.below).2 _ _ (by simp)).trans (by simp [go_sem])
    have k8 : w1.frozen? ⟨w.heap.size + 1, 2, none⟩ = false := ((bcell gW.below).2 _ _ (by simp)).trans (by simp [go_sem])
    have HG := Lib.hid GW
    have HK := Lib.hid (And.intro k0 (And.intro k1 k2))
    have HK6 := Lib.hid (And.intro k3 (And.intro k4 (And.intro k5 (And.intro k6 (And.intro k7 k8)))))
    clear gW GW k0 k1 k2 k3 k4 k5 k6 k7 k8 hbW hcW hfW
    go_loopw [9, 10, 23] (fun bv lv iv wr => ∃ k : Nat, iv = .int .i64 k ∧ k ≤ ps.length ∧ bv = .int .i64 (biV (bo dk k)) ∧ lv = .int .i64 (bo dk k).2.1 ∧ Below w1.heap.size w1 wr) (fun _ _ i _ => ps.length - (intOf i).toNat)
    case atStart => exact ⟨0, rfl, Nat.zero_le _, rfl, rfl, Below.refl _ _⟩
    case round =>
      obtain ⟨k, rfl, hk, rfl, rfl, hb⟩ := hrel
      have hs := hb.size
      by_cases hlt : k < ps.length
      · obtain ⟨g, rfl, hgw, e0, e1, e2⟩ := HV0.out k hlt
        rcases hpk : ps.getD k b0 with ⟨x0, y0, u0⟩
        rw [hpk] at e0 e1 e2
        simp only at e0 e1 e2
        replace e0 := cell_k2 hb (HG.out.keep0 e0)
        replace e1 := cell_k2 hb (HG.out.keep0 e1)
        replace e2 := cell_k2 hb (HG.out.keep0 e2)
        have m0 := cell_k2 hb HK.out.1
        have m1 := cell_k2 hb HK.out.2.1
        have m2 := cell_k2 hb HK.out.2.2
        have z0 : (0 : Int) ≤ (k : Int) := by omega
        have z1 : (k : Int) < (ps.length : Int) := by omega
        have hs1 : w.heap.size < wr.heap.size := by omega
        have HBW := Lib.hid (show Below w.heap.size w wr from HG.out.below.trans (hb.mono HG.out.below.size))
        have HPK := Lib.hid hpk
        have HGR := Lib.hid hb
        have HHK := Lib.hid (HHI.out k)
        have HBO := Lib.hid (show bo dk (k + 1) = if 0 ≤ dk k ∧ ((bo dk k).1 = false ∨ dk k < (bo dk k).2.1) then (true, dk k, k) else bo dk k from rfl)
        have HCK := Lib.hid (fun (X : World) g B' v' hv => HCD.out X g B' v' k hlt hv)
        have HOK := Lib.hid (fun (X : World) g => HOP.out X g x0 y0 u0)
        have hdf := HDF.out k hlt
        rw [hpk] at hdf
        rw [hdf] at HOK
        rw [← HDK.out k] at HCK
        obtain ⟨dd, hdd⟩ : ∃ dd, dk k = dd := ⟨_, rfl⟩
        rw [hdd] at HHK HBO HCK
        obtain ⟨bf, hbf⟩ : ∃ x, (bo dk k).1 = x := ⟨_, rfl⟩
        obtain ⟨bl, hbl⟩ : ∃ x, (bo dk k).2.1 = x := ⟨_, rfl⟩
        obtain ⟨bi, hbi⟩ : ∃ x, biV (bo dk k) = x := ⟨_, rfl⟩
        have hbneg : bi < 0 ↔ bf = false := by
          rw [← hbi, ← hbf]; unfold biV
          cases (bo dk k).1
          · simp
          · simp
        have hbhi : -1 ≤ bi ∧ bi ≤ 100 := by
          rw [← hbi]; unfold biV
          cases q : (bo dk k).1
          · simp
          · have := (bo_idx dk k q).1
            simp; omega
        rw [hbf, hbl] at HBO
        rw [hbi, hbl]
        have HBF := Lib.hid (And.intro hbi hbl)
        have HNG := Lib.hid hbneg
        clear hb hpk hdd hbf hbl hbi hdf hbneg
        by_cases hd0 : 0 ≤ dd
        · cases bf
          · have hbn : bi < 0 := HNG.out.2 rfl
            go_wp2_with (first | (go_at_call 46; refine (HOK.out _ (HBW.out.trans ((show Gr wr (wr.alloc (.cells #[.int .i64 x0, .int .i64 y0, .bool u0] 45)) from (by repeat (first | exact Gr.refl _ | refine Gr.alloc ?_ _ | refine Gr.trans ?_ (by assumption) | refine Gr.drew ?_ | refine Gr.drewN ?_ _ | refine Gr.grow ?_ _ | refine Gr.setCell ?_ (by (try simp); (try omega)) _))).below.mono HBW.out.size))).mono ?_; rintro e w3 ⟨v3, rfl, ho3, hb3⟩; obtain ⟨A3, c3, L3, rfl, ho3⟩ := own_open ho3; have hB3 := HBW.out.trans ((show Gr wr (wr.alloc (.cells #[.int .i64 x0, .int .i64 y0, .bool u0] 45)) from (by repeat (first | exact Gr.refl _ | refine Gr.alloc ?_ _ | refine Gr.trans ?_ (by assumption) | refine Gr.drew ?_ | refine Gr.drewN ?_ _ | refine Gr.grow ?_ _ | refine Gr.setCell ?_ (by (try simp); (try omega)) _))).below.mono HBW.out.size); have hB4 := hB3.trans (hb3.mono hB3.size); have g3 := Below.trans (show Gr wr (wr.alloc (.cells #[.int .i64 x0, .int .i64 y0, .bool u0] 45)) from (by repeat (first | exact Gr.refl _ | refine Gr.alloc ?_ _ | refine Gr.trans ?_ (by assumption) | refine Gr.drew ?_ | refine Gr.drewN ?_ _ | refine Gr.grow ?_ _ | refine Gr.setCell ?_ (by (try simp); (try omega)) _))).below (hb3.mono (show Gr wr (wr.alloc (.cells #[.int .i64 x0, .int .i64 y0, .bool u0] 45)) from (by repeat (first | exact Gr.refl _ | refine Gr.alloc ?_ _ | refine Gr.trans ?_ (by assumption) | refine Gr.drew ?_ | refine Gr.drewN ?_ _ | refine Gr.grow ?_ _ | refine Gr.setCell ?_ (by (try simp); (try omega)) _))).below.size)) | (go_at_call 32; refine (HCK.out _ hB4 _ _ ho3).mono ?_; rintro e w4 ⟨rfl, hb4⟩; have g4 := g3.trans (hb4.mono g3.size)))
            go_roundw
            case rel =>
              have HB1 : bo dk (k + 1) = (true, dd, k) := by rw [HBO.out, if_pos (by first | (refine ⟨?_, Or.inr ?_⟩ <;> omega) | (refine ⟨?_, Or.inl ?_⟩ <;> first | rfl | omega | trivial))]
              exact ⟨k + 1, by go_num, by omega, by rw [HB1]; simp [biV], by rw [HB1], HGR.out.trans (g4.mono HGR.out.size)⟩
            case measure => simp [intOf]; omega
          · have hbn : ¬ bi < 0 := fun q => by have := HNG.out.1 q; cases this
            by_cases hdl : dd < bl
            · go_wp2_with (first | (go_at_call 46; refine (HOK.out _ (HBW.out.trans ((show Gr wr (wr.alloc (.cells #[.int .i64 x0, .int .i64 y0, .bool u0] 45)) from (by repeat (first | exact Gr.refl _ | refine Gr.alloc ?_ _ | refine Gr.trans ?_ (by assumption) | refine Gr.drew ?_ | refine Gr.drewN ?_ _ | refine Gr.grow ?_ _ | refine Gr.setCell ?_ (by (try simp); (try omega)) _))).below.mono HBW.out.size))).mono ?_; rintro e w3 ⟨v3, rfl, ho3, hb3⟩; obtain ⟨A3, c3, L3, rfl, ho3⟩ := own_open ho3; have hB3 := HBW.out.trans ((show Gr wr (wr.alloc (.cells #[.int .i64 x0, .int .i64 y0, .bool u0] 45)) from (by repeat (first | exact Gr.refl _ | refine Gr.alloc ?_ _ | refine Gr.trans ?_ (by assumption) | refine Gr.drew ?_ | refine Gr.drewN ?_ _ | refine Gr.grow ?_ _ | refine Gr.setCell ?_ (by (try simp); (try omega)) _))).below.mono HBW.out.size); have hB4 := hB3.trans (hb3.mono hB3.size); have g3 := Below.trans (show Gr wr (wr.alloc (.cells #[.int .i64 x0, .int .i64 y0, .bool u0] 45)) from (by repeat (first | exact Gr.refl _ | refine Gr.alloc ?_ _ | refine Gr.trans ?_ (by assumption) | refine Gr.drew ?_ | refine Gr.drewN ?_ _ | refine Gr.grow ?_ _ | refine Gr.setCell ?_ (by (try simp); (try omega)) _))).below (hb3.mono (show Gr wr (wr.alloc (.cells #[.int .i64 x0, .int .i64 y0, .bool u0] 45)) from (by repeat (first | exact Gr.refl _ | refine Gr.alloc ?_ _ | refine Gr.trans ?_ (by assumption) | refine Gr.drew ?_ | refine Gr.drewN ?_ _ | refine Gr.grow ?_ _ | refine Gr.setCell ?_ (by (try simp); (try omega)) _))).below.size)) | (go_at_call 32; refine (HCK.out _ hB4 _ _ ho3).mono ?_; rintro e w4 ⟨rfl, hb4⟩; have g4 := g3.trans (hb4.mono g3.size)))
              go_roundw
              case rel =>
                have HB1 : bo dk (k + 1) = (true, dd, k) := by rw [HBO.out, if_pos (by first | (refine ⟨?_, Or.inr ?_⟩ <;> omega) | (refine ⟨?_, Or.inl ?_⟩ <;> first | rfl | omega | trivial))]
                exact ⟨k + 1, by go_num, by omega, by rw [HB1]; simp [biV], by rw [HB1], HGR.out.trans (g4.mono HGR.out.size)⟩
              case measure => simp [intOf]; omega
            · go_wp2_with (first | (go_at_call 46; refine (HOK.out _ (HBW.out.trans ((show Gr wr (wr.alloc (.cells #[.int .i64 x0, .int .i64 y0, .bool u0] 45)) from (by repeat (first | exact Gr.refl _ | refine Gr.alloc ?_ _ | refine Gr.trans ?_ (by assumption) | refine Gr.drew ?_ | refine Gr.drewN ?_ _ | refine Gr.grow ?_ _ | refine Gr.setCell ?_ (by (try simp); (try omega)) _))).below.mono HBW.out.size))).mono ?_; rintro e w3 ⟨v3, rfl, ho3, hb3⟩; obtain ⟨A3, c3, L3, rfl, ho3⟩ := own_open ho3; have hB3 := HBW.out.trans ((show Gr wr (wr.alloc (.cells #[.int .i64 x0, .int .i64 y0, .bool u0] 45)) from (by repeat (first | exact Gr.refl _ | refine Gr.alloc ?_ _ | refine Gr.trans ?_ (by assumption) | refine Gr.drew ?_ | refine Gr.drewN ?_ _ | refine Gr.grow ?_ _ | refine Gr.setCell ?_ (by (try simp); (try omega)) _))).below.mono HBW.out.size); have hB4 := hB3.trans (hb3.mono hB3.size); have g3 := Below.trans (show Gr wr (wr.alloc (.cells #[.int .i64 x0, .int .i64 y0, .bool u0] 45)) from (by repeat (first | exact Gr.refl _ | refine Gr.alloc ?_ _ | refine Gr.trans ?_ (by assumption) | refine Gr.drew ?_ | refine Gr.drewN ?_ _ | refine Gr.grow ?_ _ | refine Gr.setCell ?_ (by (try simp); (try omega)) _))).below (hb3.mono (show Gr wr (wr.alloc (.cells #[.int .i64 x0, .int .i64 y0, .bool u0] 45)) from (by repeat (first | exact Gr.refl _ | refine Gr.alloc ?_ _ | refine Gr.trans ?_ (by assumption) | refine Gr.drew ?_ | refine Gr.drewN ?_ _ | refine Gr.grow ?_ _ | refine Gr.setCell ?_ (by (try simp); (try omega)) _))).below.size)) | (go_at_call 32; refine (HCK.out _ hB4 _ _ ho3).mono ?_; rintro e w4 ⟨rfl, hb4⟩; have g4 := g3.trans (hb4.mono g3.size)))
              go_roundw
              case rel =>
                have HB1 : bo dk (k + 1) = bo dk k := by rw [HBO.out, if_neg (by rintro ⟨z1, z | z⟩ <;> first | omega | (cases z; done))]
                exact ⟨k + 1, by go_num, by omega, by rw [HB1, HBF.out.1], by rw [HB1, HBF.out.2], HGR.out.trans (g4.mono HGR.out.size)⟩
              case measure => simp [intOf]; omega
        · go_wp2_with (first | (go_at_call 46; refine (HOK.out _ (HBW.out.trans ((show Gr wr (wr.alloc (.cells #[.int .i64 x0, .int .i64 y0, .bool u0] 45)) from (by repeat (first | exact Gr.refl _ | refine Gr.alloc ?_ _ | refine Gr.trans ?_ (by assumption) | refine Gr.drew ?_ | refine Gr.drewN ?_ _ | refine Gr.grow ?_ _ | refine Gr.setCell ?_ (by (try simp); (try omega)) _))).below.mono HBW.out.size))).mono ?_; rintro e w3 ⟨v3, rfl, ho3, hb3⟩; obtain ⟨A3, c3, L3, rfl, ho3⟩ := own_open ho3; have hB3 := HBW.out.trans ((show Gr wr (wr.alloc (.cells #[.int .i64 x0, .int .i64 y0, .bool u0] 45)) from (by repeat (first | exact Gr.refl _ | refine Gr.alloc ?_ _ | refine Gr.trans ?_ (by assumption) | refine Gr.drew ?_ | refine Gr.drewN ?_ _ | refine Gr.grow ?_ _ | refine Gr.setCell ?_ (by (try simp); (try omega)) _))).below.mono HBW.out.size); have hB4 := hB3.trans (hb3.mono hB3.size); have g3 := Below.trans (show Gr wr (wr.alloc (.cells #[.int .i64 x0, .int .i64 y0, .bool u0] 45)) from (by repeat (first | exact Gr.refl _ | refine Gr.alloc ?_ _ | refine Gr.trans ?_ (by assumption) | refine Gr.drew ?_ | refine Gr.drewN ?_ _ | refine Gr.grow ?_ _ | refine Gr.setCell ?_ (by (try simp); (try omega)) _))).below (hb3.mono (show Gr wr (wr.alloc (.cells #[.int .i64 x0, .int .i64 y0, .bool u0] 45)) from (by repeat (first | exact Gr.refl _ | refine Gr.alloc ?_ _ | refine Gr.trans ?_ (by assumption) | refine Gr.drew ?_ | refine Gr.drewN ?_ _ | refine Gr.grow ?_ _ | refine Gr.setCell ?_ (by (try simp); (try omega)) _))).below.size)) | (go_at_call 32; refine (HCK.out _ hB4 _ _ ho3).mono ?_; rintro e w4 ⟨rfl, hb4⟩; have g4 := g3.trans (hb4.mono g3.size)))
          go_roundw
          case rel =>
            have HB1 : bo dk (k + 1) = bo dk k := by rw [HBO.out, if_neg (by rintro ⟨z1, z | z⟩ <;> first | omega | (cases z; done))]
            exact ⟨k + 1, by go_num, by omega, by rw [HB1, HBF.out.1], by rw [HB1, HBF.out.2], HGR.out.trans (g4.mono HGR.out.size)⟩
          case measure => simp [intOf]; omega
      · obtain rfl : k = ps.length := by omega
        have hs1 : w.heap.size + 1 < wr.heap.size := by omega
        have r0 := cell_k2 hb HK6.out.1
        have r1 := cell_k2 hb HK6.out.2.1
        have r2 := cell_k2 hb HK6.out.2.2.1
        have f0 := ((bcell hb).2 (w.heap.size + 1) 0 (by omega)).trans HK6.out.2.2.2.1
        have f1 := ((bcell hb).2 (w.heap.size + 1) 1 (by omega)).trans HK6.out.2.2.2.2.1
        have f2 := ((bcell hb).2 (w.heap.size + 1) 2 (by omega)).trans HK6.out.2.2.2.2.2
        have HBB := Lib.hid (show Below w.heap.size w wr from HG.out.below.trans (hb.mono HG.out.below.size))
        cases hf : (bo dk ps.length).1
        · have hbz := bo_zero _ _ hf
          have hpe : (p1, p2, p3) = b0 := by rw [← HP.out]; unfold boE; rw [hf]; rfl
          cases hpe
          have hbi : biV (bo dk ps.length) = -1 := by unfold biV; rw [hf]; rfl
          have hbl : (bo dk ps.length).2.1 = 0 := by rw [hbz]
          rw [hbi, hbl]
          have HE := Lib.hid (And.intro hf hbl)
          clear hb hbz hbi hbl hf
          have g0 := World.cell?_setCell_same _ _ (.int .i64 0) r0
          have g0' : ((wr.setCell ⟨w.heap.size + 1, 0, none⟩ (.int .i64 0)).setCell ⟨w.heap.size + 1, 1, none⟩ (.int .i64 0)).cell? ⟨w.heap.size + 1, 0, none⟩ = some (.int .i64 0) := by
            rw [World.cell?_setCell_other _ ⟨w.heap.size + 1, 1, none⟩ ⟨w.heap.size + 1, 0, none⟩ _ (by simp)]; exact g0
          have g1' : ((wr.setCell ⟨w.heap.size + 1, 0, none⟩ (.int .i64 0)).setCell ⟨w.heap.size + 1, 1, none⟩ (.int .i64 0)).cell? ⟨w.heap.size + 1, 1, none⟩ = some (.int .i64 0) := World.cell?_setCell_same _ _ (.int .i64 0) (by
            rw [World.cell?_setCell_other _ ⟨w.heap.size + 1, 0, none⟩ ⟨w.heap.size + 1, 1, none⟩ _ (by simp)]; exact r1)
          have g2' : ((wr.setCell ⟨w.heap.size + 1, 0, none⟩ (.int .i64 0)).setCell ⟨w.heap.size + 1, 1, none⟩ (.int .i64 0)).cell? ⟨w.heap.size + 1, 2, none⟩ = some (.bool false) := by
            rw [World.cell?_setCell_other _ ⟨w.heap.size + 1, 1, none⟩ ⟨w.heap.size + 1, 2, none⟩ _ (by simp), World.cell?_setCell_other _ ⟨w.heap.size + 1, 0, none⟩ ⟨w.heap.size + 1, 2, none⟩ _ (by simp)]; exact r2
          have h0 : (((wr.setCell ⟨w.heap.size + 1, 0, none⟩ (.int .i64 0)).setCell ⟨w.heap.size + 1, 1, none⟩ (.int .i64 0)).setCell ⟨w.heap.size + 1, 2, none⟩ (.bool false)).cell? ⟨w.heap.size + 1, 0, none⟩ = some (.int .i64 0) := by
            rw [World.cell?_setCell_other _ ⟨w.heap.size + 1, 2, none⟩ ⟨w.heap.size + 1, 0, none⟩ _ (by simp)]; exact g0'
          have h1 : (((wr.setCell ⟨w.heap.size + 1, 0, none⟩ (.int .i64 0)).setCell ⟨w.heap.size + 1, 1, none⟩ (.int .i64 0)).setCell ⟨w.heap.size + 1, 2, none⟩ (.bool false)).cell? ⟨w.heap.size + 1, 1, none⟩ = some (.int .i64 0) := by
            rw [World.cell?_setCell_other _ ⟨w.heap.size + 1, 2, none⟩ ⟨w.heap.size + 1, 1, none⟩ _ (by simp)]; exact g1'
          have h2 := World.cell?_setCell_same _ _ (.bool false) g2'
          clear g0 g0' g1' g2'
          go_wp2
          refine bodyPost_ret (v := .tuple #[.agg #[.int .i64 0, .int .i64 0, .bool false], .int .i64 0, .bool false]) ?_ rfl ⟨by rw [HE.out.1, HE.out.2], ?_⟩
          · simp [results, Try.results27, go_sem, h0, h1, h2]
          · exact Below.setCell (Below.setCell (Below.setCell HBB.out (by simp) _) (by simp) _) (by simp) _
        · have i1 := (bo_idx _ _ hf).1
          have hpe : ps.getD (bo dk ps.length).2.2 b0 = (p1, p2, p3) := by rw [← HP.out]; unfold boE; rw [hf]; rfl
          have hbi : biV (bo dk ps.length) = ((bo dk ps.length).2.2 : Nat) := by unfold biV; rw [hf]; rfl
          obtain ⟨g, rfl, hgw, e0, e1, e2⟩ := HV0.out _ i1
          rw [hpe] at e0 e1 e2
          simp only at e0 e1 e2
          replace e0 := cell_k2 hb (HG.out.keep0 e0)
          replace e1 := cell_k2 hb (HG.out.keep0 e1)
          replace e2 := cell_k2 hb (HG.out.keep0 e2)
          have m2 := cell_k2 hb HK.out.2.2
          rw [hbi]
          have HE := Lib.hid hf
          obtain ⟨bi, hbi2⟩ : ∃ x, (bo dk ps.length).2.2 = x := ⟨_, rfl⟩
          obtain ⟨bl, hbl2⟩ : ∃ x, (bo dk ps.length).2.1 = x := ⟨_, rfl⟩
          rw [hbi2] at i1 e0 e1 e2 ⊢
          rw [hbl2]
          have HBL := Lib.hid hbl2
          have z0 : (0 : Int) ≤ (bi : Int) := by omega
          have z1 : (bi : Int) < (ps.length : Int) := by omega
          have z2 : ¬ (bi : Int) < 0 := by omega
          clear hb hbi hf hpe hbi2 hbl2
          have g0 := World.cell?_setCell_same _ _ (.int .i64 p1) r0
          have g0' : ((wr.setCell ⟨w.heap.size + 1, 0, none⟩ (.int .i64 p1)).setCell ⟨w.heap.size + 1, 1, none⟩ (.int .i64 p2)).cell? ⟨w.heap.size + 1, 0, none⟩ = some (.int .i64 p1) := by
            rw [World.cell?_setCell_other _ ⟨w.heap.size + 1, 1, none⟩ ⟨w.heap.size + 1, 0, none⟩ _ (by simp)]; exact g0
          have g1' : ((wr.setCell ⟨w.heap.size + 1, 0, none⟩ (.int .i64 p1)).setCell ⟨w.heap.size + 1, 1, none⟩ (.int .i64 p2)).cell? ⟨w.heap.size + 1, 1, none⟩ = some (.int .i64 p2) := World.cell?_setCell_same _ _ (.int .i64 p2) (by
            rw [World.cell?_setCell_other _ ⟨w.heap.size + 1, 0, none⟩ ⟨w.heap.size + 1, 1, none⟩ _ (by simp)]; exact r1)
          have g2' : ((wr.setCell ⟨w.heap.size + 1, 0, none⟩ (.int .i64 p1)).setCell ⟨w.heap.size + 1, 1, none⟩ (.int .i64 p2)).cell? ⟨w.heap.size + 1, 2, none⟩ = some (.bool false) := by
            rw [World.cell?_setCell_other _ ⟨w.heap.size + 1, 1, none⟩ ⟨w.heap.size + 1, 2, none⟩ _ (by simp), World.cell?_setCell_other _ ⟨w.heap.size + 1, 0, none⟩ ⟨w.heap.size + 1, 2, none⟩ _ (by simp)]; exact r2
          have h0 : (((wr.setCell ⟨w.heap.size + 1, 0, none⟩ (.int .i64 p1)).setCell ⟨w.heap.size + 1, 1, none⟩ (.int .i64 p2)).setCell ⟨w.heap.size + 1, 2, none⟩ (.bool p3)).cell? ⟨w.heap.size + 1, 0, none⟩ = some (.int .i64 p1) := by
            rw [World.cell?_setCell_other _ ⟨w.heap.size + 1, 2, none⟩ ⟨w.heap.size + 1, 0, none⟩ _ (by simp)]; exact g0'
          have h1 : (((wr.setCell ⟨w.heap.size + 1, 0, none⟩ (.int .i64 p1)).setCell ⟨w.heap.size + 1, 1, none⟩ (.int .i64 p2)).setCell ⟨w.heap.size + 1, 2, none⟩ (.bool p3)).cell? ⟨w.heap.size + 1, 1, none⟩ = some (.int .i64 p2) := by
            rw [World.cell?_setCell_other _ ⟨w.heap.size + 1, 2, none⟩ ⟨w.heap.size + 1, 1, none⟩ _ (by simp)]; exact g1'
          have h2 := World.cell?_setCell_same _ _ (.bool p3) g2'
          clear g0 g0' g1' g2'
          go_wp2
          refine bodyPost_ret (v := .tuple #[.agg #[.int .i64 p1, .int .i64 p2, .bool p3], .int .i64 bl, .bool true]) ?_ rfl ⟨by rw [HE.out, HBL.out], ?_⟩
          · simp [results, Try.results27, go_sem, h0, h1, h2]
          · exact Below.setCell (Below.setCell (Below.setCell HBB.out (by simp) _) (by simp) _) (by simp) _
end Go.Proofs
