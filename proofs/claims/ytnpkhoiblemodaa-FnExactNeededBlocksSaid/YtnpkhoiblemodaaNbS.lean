/-
  Chapter 4: the blocks that each way needs, the model's.
-/
import Derived.Test.YtnpkhoiblemodaaNbM
import Derived.Test.YtnpkhoiblemodaaMrW
import Derived.Test.YtnpkhoiblemodaaCbC
import Derived.Deep.DeepCutAuto
namespace Go.Proofs
open Go.RowKit Av Gm Go.Maps
set_option linter.unusedVariables false
set_option linter.unusedSimpArgs false
/-- a list of blocks and a bool -/
def RetJ (w : World) (cs : List Blk) (b : Bool) (e : Ending) (w' : World) : Prop := ∃ v', e = .returned (.tuple #[v', .bool b]) ∧ OwnB w' w.heap.size v' cs ∧ Below w.heap.size w w'
def nbL (W H : Int) (ps : List Blk) (xs ys : List Int) : List Blk := if cdB W H ps xs ys then nTo W.toNat H.toNat ps (xs.getD 0 0 * H + xs.getD 1 0).toNat (ys.getD 0 0 * H + ys.getD 1 0).toNat (2 * (W.toNat * H.toNat)) else []
theorem needB_eq {Wn Hn : Nat} {ps : List Blk} {s0 t0 : Nat} {b : Blk} {v1 v2 v3 : Bool} (h1 : isB Wn Hn b = v1) (h2 : has ps b = v2) (h3 : nlB Wn Hn ps s0 t0 b = v3) : needB Wn Hn ps s0 t0 b = (v1 && !v2 && v3) := by
  unfold needB
  unfold isB at h1
  rw [h1, h2, h3]
theorem blAt_at {Hn x y k : Nat} (hy : y < Hn) (hk : k < 2) : blAt Hn (2 * (x * Hn + y) + k) = ((x : Int), (y : Int), decide (k = 1)) := by
  have h1 : (2 * (x * Hn + y) + k) / 2 = x * Hn + y := by omega
  have h2 : (2 * (x * Hn + y) + k) % 2 = k := by omega
  have h3 : (x * Hn + y) / Hn = x := by rw [Nat.mul_comm, Nat.mul_add_div (by omega), Nat.div_eq_of_lt hy]; rfl
  have h4 : (x * Hn + y) % Hn = y := by rw [Nat.mul_comm, Nat.mul_add_mod, Nat.mod_eq_of_lt hy]
  unfold blAt
  rw [h1, h2, h3, h4]
set_option maxRecDepth 100000 in
set_option maxHeartbeats 3200000 in
theorem Try.sNeededBlocks (w : World) (W H : Int) (B : Nat) (a : Value) (ps : List Blk) (Ba : Nat) (la : Value) (xs : List Int) (Bb : Nat) (lb : Value) (ys : List Int) (v : List Blk) (b : Bool) (hv : nbL W H ps xs ys = v) (hb : cdB W H ps xs ys = b) (hl : ps.length ≤ 1048576) (h : OwnB w B a ps) (hla : OwnI w Ba la xs) (hlb : OwnI w Bb lb ys) :
    Calls Try.prog 17 #[.agg #[.int .i64 W, .int .i64 H, a], la, lb] w (RetJ w v b) := by
  have mixed : Try.prog.follows .mixedOrders = true := by kernel_rfl
  subst hv hb
  obtain ⟨A, c, rfl, h⟩ := OwnE.eta h
  obtain ⟨b1, h1⟩ : ∃ b1, okB W H ps = b1 := ⟨_, rfl⟩
  obtain ⟨b2, h2⟩ : ∃ b1, isC W H xs = b1 := ⟨_, rfl⟩
  obtain ⟨b3, h3⟩ : ∃ b1, isC W H ys = b1 := ⟨_, rfl⟩
  have HA := Lib.hid (fun (X : World) (g : Gr w X) => Try.avAsked X W H B _ ps Ba la xs Bb lb ys b1 b2 b3 h1 h2 h3 hl (h.gr g) (hla.gr g) (hlb.gr g))
  cases hall : (b1 && b2 && b3)
  · have e1 : cdB W H ps xs ys = false := by unfold cdB; rw [h1, h2, h3, hall]; rfl
    have e2 : nbL W H ps xs ys = [] := by unfold nbL; rw [e1]; rfl
    rw [e1, e2]
    rw [hall] at HA
    clear h hla hlb h1 h2 h3 hall e1 e2
    go_enter Try.func17, Try.ntmps17
    go_wp2_with (first | (go_at_call 39; refine (HA.out _ (by repeat (first | exact Gr.refl _ | refine Gr.alloc ?_ _ | refine Gr.trans ?_ (by assumption) | refine Gr.drew ?_ | refine Gr.drewN ?_ _ | refine Gr.grow ?_ _ | refine Gr.setCell ?_ (by (try simp); (try omega)) _))).mono ?_; rintro e w1 ⟨rfl, hbW⟩; have hcW := (bcell hbW.below).1; have hfW := (bcell hbW.below).2; (try have hzW : w.heap.size < w1.heap.size := by have hq := hbW.below.size; (try simp at hq); omega); (try have hyW : w.heap.size + 1 < w1.heap.size := by have hq := hbW.below.size; (try simp at hq); omega); (try have hxW : w.heap.size + 2 < w1.heap.size := by have hq := hbW.below.size; (try simp at hq); omega)))
    go_ret2
    exact ⟨_, rfl, OwnE.nil _ _ _ _ _, Gr.below (by repeat (first | exact Gr.refl _ | refine Gr.alloc ?_ _ | refine Gr.trans ?_ (by assumption) | refine Gr.drew ?_ | refine Gr.drewN ?_ _ | refine Gr.grow ?_ _ | refine Gr.setCell ?_ (by (try simp); (try omega)) _))⟩
  · simp only [Bool.and_eq_true] at hall
    obtain ⟨⟨rfl, rfl⟩, rfl⟩ := hall
    obtain ⟨o1, o2, o3, o4, o5, _, o7⟩ := of_decide_eq_true h1
    obtain ⟨p1, p2⟩ := isC_vtx h2 ⟨o1, o2⟩ ⟨o3, o4⟩
    obtain ⟨r1, r2⟩ := isC_vtx h3 ⟨o1, o2⟩ ⟨o3, o4⟩
    have hd : cdI W H ps xs ys = dst W.toNat H.toNat ps (xs.getD 0 0 * H + xs.getD 1 0).toNat (ys.getD 0 0 * H + ys.getD 1 0).toNat := rfl
    have e1 : cdB W H ps xs ys = decide (0 ≤ cdI W H ps xs ys) := by unfold cdB; rw [h1, h2, h3]; rfl
    unfold nbL
    rw [e1]
    rw [hd]
    generalize (xs.getD 0 0 * H + xs.getD 1 0).toNat = s0 at *
    generalize (ys.getD 0 0 * H + ys.getD 1 0).toNat = t0 at *
    obtain ⟨Wn, rfl⟩ : ∃ Wn : Nat, W = Wn := ⟨W.toNat, by omega⟩
    obtain ⟨Hn, rfl⟩ : ∃ Hn : Nat, H = Hn := ⟨H.toNat, by omega⟩
    simp only [Int.toNat_natCast] at *
    subst p2 r2
    have HD := Lib.hid (fun (X : World) (g : Below w.heap.size w X) => Try.avDistance X Wn Hn B _ ps Ba la s0 Bb lb t0 (by omega) (by omega) p1 r1 hl (OwnE.below h g (Nat.le_refl _)) (OwnI.below hla g (Nat.le_refl _)) (OwnI.below hlb g (Nat.le_refl _)))
    clear h1 h2 h3 e1 hd
    by_cases hz : dst Wn Hn ps s0 t0 < 0
    · have e1 : decide (0 ≤ dst Wn Hn ps s0 t0) = false := by simpa using hz
      rw [e1]
      have hbd := dst_bd (ps := ps) p1 r1
      clear h hla hlb p1 r1
      generalize dst Wn Hn ps s0 t0 = d at *
      clear hbd
      go_enter Try.func17, Try.ntmps17
      go_wp2_with (first | (go_at_call 39; refine (HA.out _ (by repeat (first | exact Gr.refl _ | refine Gr.alloc ?_ _ | refine Gr.trans ?_ (by assumption) | refine Gr.drew ?_ | refine Gr.drewN ?_ _ | refine Gr.grow ?_ _ | refine Gr.setCell ?_ (by (try simp); (try omega)) _))).mono ?_; rintro e w1 ⟨rfl, hbW⟩; have hcW := (bcell hbW.below).1; have hfW := (bcell hbW.below).2; (try have hzW : w.heap.size < w1.heap.size := by have hq := hbW.below.size; (try simp at hq); omega); (try have hyW : w.heap.size + 1 < w1.heap.size := by have hq := hbW.below.size; (try simp at hq); omega); (try have hxW : w.heap.size + 2 < w1.heap.size := by have hq := hbW.below.size; (try simp at hq); omega)) | (go_at_call 40; refine (HD.out _ (Gr.below (show Gr w _ from (by repeat (first | exact Gr.refl _ | refine Gr.alloc ?_ _ | refine Gr.trans ?_ (by assumption) | refine Gr.drew ?_ | refine Gr.drewN ?_ _ | refine Gr.grow ?_ _ | refine Gr.setCell ?_ (by (try simp); (try omega)) _))))).mono ?_; rintro e w2 ⟨rfl, hb2⟩))
      go_ret2
      exact ⟨_, rfl, OwnE.nil _ _ _ _ _, Below.trans (show Below w.heap.size w _ from Gr.below (by repeat (first | exact Gr.refl _ | refine Gr.alloc ?_ _ | refine Gr.trans ?_ (by assumption) | refine Gr.drew ?_ | refine Gr.drewN ?_ _ | refine Gr.grow ?_ _ | refine Gr.setCell ?_ (by (try simp); (try omega)) _))) (hb2.mono (Gr.below (show Gr w _ from (by repeat (first | exact Gr.refl _ | refine Gr.alloc ?_ _ | refine Gr.trans ?_ (by assumption) | refine Gr.drew ?_ | refine Gr.drewN ?_ _ | refine Gr.grow ?_ _ | refine Gr.setCell ?_ (by (try simp); (try omega)) _)))).size)⟩
    · have e1 : decide (0 ≤ dst Wn Hn ps s0 t0) = true := by simpa using hz
      rw [e1, if_pos rfl]
      have HD2 := Lib.hid (fun (X : World) (v : Value) (B' : Nat) (b : Blk) (g : Below w.heap.size w X) (ho : OwnB X B' v (ins ps b)) => Try.avDistance X Wn Hn B' v (ins ps b) Ba la s0 Bb lb t0 (by omega) (by omega) p1 r1 (by rw [ins_len]; omega) ho (OwnI.below hla g (Nat.le_refl _)) (OwnI.below hlb g (Nat.le_refl _)))
      have HIS := Lib.hid (fun (X : World) (x y : Int) (u v : Bool) (hv : isB Wn Hn (x, y, u) = v) => Try.avIs Wn Hn x y u (by omega) (by omega) v hv X)
      have HSH := Lib.hid (fun (X : World) (g : Below w.heap.size w X) (x y : Int) (u v : Bool) (hv : has ps (x, y, u) = v) => Try.avShut X Wn Hn B _ ps x y u v hv hl (OwnE.below h g (Nat.le_refl _)))
      have HCL := Lib.hid (fun (X : World) (g : Below w.heap.size w X) (x y : Int) (u : Bool) => Try.avClose X Wn Hn B _ ps x y u o7 (by omega) (OwnE.below h g (Nat.le_refl _)))
      have hN : Wn * Hn ≤ 64 := Nat.mul_le_mul (show Wn ≤ 8 by omega) (show Hn ≤ 8 by omega)
      have hWn : Wn ≤ 8 := by omega
      have hHn : Hn ≤ 8 := by omega
      have HD := Lib.hid HD.out
      have hd0 : ¬ dst Wn Hn ps s0 t0 < 0 := hz
      generalize hdd : dst Wn Hn ps s0 t0 = d0 at HD hd0
      clear h hla hlb p1 r1 hz e1 hdd o1 o2 o3 o4 o5 o7
      go_enter Try.func17, Try.ntmps17
      go_wp2_with (first | (go_at_call 39; refine (HA.out _ (by repeat (first | exact Gr.refl _ | refine Gr.alloc ?_ _ | refine Gr.trans ?_ (by assumption) | refine Gr.drew ?_ | refine Gr.drewN ?_ _ | refine Gr.grow ?_ _ | refine Gr.setCell ?_ (by (try simp); (try omega)) _))).mono ?_; rintro e w1 ⟨rfl, hbW⟩; have hcW := (bcell hbW.below).1; have hfW := (bcell hbW.below).2; (try have hzW : w.heap.size < w1.heap.size := by have hq := hbW.below.size; (try simp at hq); omega); (try have hyW : w.heap.size + 1 < w1.heap.size := by have hq := hbW.below.size; (try simp at hq); omega); (try have hxW : w.heap.size + 2 < w1.heap.size := by have hq := hbW.below.size; (try simp at hq); omega)) | (go_at_call 40; refine (HD.out _ (Gr.below (show Gr w _ from (by repeat (first | exact Gr.refl _ | refine Gr.alloc ?_ _ | refine Gr.trans ?_ (by assumption) | refine Gr.drew ?_ | refine Gr.drewN ?_ _ | refine Gr.grow ?_ _ | refine Gr.setCell ?_ (by (try simp); (try omega)) _))))).mono ?_; rintro e w2 ⟨rfl, hb2⟩))
      have HGW := Lib.hid (Below.trans (show Below w.heap.size w _ from Gr.below (by repeat (first | exact Gr.refl _ | refine Gr.alloc ?_ _ | refine Gr.trans ?_ (by assumption) | refine Gr.drew ?_ | refine Gr.drewN ?_ _ | refine Gr.grow ?_ _ | refine Gr.setCell ?_ (by (try simp); (try omega)) _))) (hb2.mono (Gr.below (show Gr w _ from (by repeat (first | exact Gr.refl _ | refine Gr.alloc ?_ _ | refine Gr.trans ?_ (by assumption) | refine Gr.drew ?_ | refine Gr.drewN ?_ _ | refine Gr.grow ?_ _ | refine Gr.setCell ?_ (by (try simp); (try omega)) _)))).size))
      have K0 := Lib.hid (show Bx w2 w.heap.size (.int .i64 Wn) (.int .i64 Hn) (.slice A ps.length c) from ⟨cell_k2 hb2 (by simp [hcW, go_sem]), cell_k2 hb2 (by simp [hcW, go_sem]), cell_k2 hb2 (by simp [hcW, go_sem]), fun o => ((bcell hb2).2 _ _ hzW).trans (by simp [hfW, go_sem])⟩)
      have zw2 : w.heap.size < w2.heap.size := K0.out.lt
      clear hcW hfW hzW hbW hb2
      go_loopw [8, 9, 10, 11, 12] (fun v iv _ _ _ wr => ∃ x : Nat, iv = .int .i64 x ∧ x ≤ Wn ∧ OwnB wr w2.heap.size v (nTo Wn Hn ps s0 t0 (2 * (x * Hn))) ∧ Below w2.heap.size w2 wr) (fun _ i _ _ _ _ => Wn - (intOf i).toNat)
      case atStart => exact ⟨0, rfl, Nat.zero_le _, by rw [Nat.zero_mul]; exact OwnE.nil _ _ _ _ _, Below.refl _ _⟩
      case round =>
        obtain ⟨x, rfl, hx, ho, hb⟩ := hrel
        have HO := Lib.hid ho
        have HB := Lib.hid hb
        obtain ⟨k0, k1, k2, kf⟩ := K0.out.bel hb zw2
        by_cases hlt : x < Wn
        · have z1 : (x : Int) < (Wn : Int) := by omega
          clear ho hb
          go_wp2_with fail
          rename World => wo
          go_loopw [8, 10, 11, 12] (fun v iv _ _ wr => ∃ y : Nat, iv = .int .i64 y ∧ y ≤ Hn ∧ OwnB wr w2.heap.size v (nTo Wn Hn ps s0 t0 (2 * (x * Hn + y))) ∧ Below w2.heap.size w2 wr) (fun _ i _ _ _ => Hn - (intOf i).toNat)
          case atStart => exact ⟨0, rfl, Nat.zero_le _, HO.out, HB.out⟩
          case round =>
            obtain ⟨y, rfl, hy, ho, hb⟩ := hrel
            have HO := Lib.hid ho
            have HB := Lib.hid hb
            obtain ⟨k0, k1, k2, kf⟩ := K0.out.bel hb zw2
            by_cases hlt2 : y < Hn
            · have z2 : (y : Int) < (Hn : Int) := by omega
              clear ho hb
              go_wp2_with fail
              rename World => wp
              go_loopw [8, 11, 12] (fun v iv _ wr => ∃ k : Nat, iv = .int .i64 k ∧ k ≤ 2 ∧ OwnB wr w2.heap.size v (nTo Wn Hn ps s0 t0 (2 * (x * Hn + y) + k)) ∧ Below w2.heap.size w2 wr) (fun _ i _ _ => 2 - (intOf i).toNat)
              case atStart => exact ⟨0, rfl, Nat.zero_le _, HO.out, HB.out⟩
              case round =>
                obtain ⟨k, rfl, hk, ho, hb⟩ := hrel
                have HO := Lib.hid ho
                have HB := Lib.hid hb
                have KB := K0.out.bel hb zw2
                obtain ⟨k0, k1, k2, kf⟩ := KB
                have hsz := hb.size
                by_cases hlt3 : k < 2
                · have z3 : (k : Int) < 2 := by omega
                  have hbl := blAt_at (x := x) hlt2 hlt3
                  have hst := nTo_succ (Wn := Wn) (Hn := Hn) (ps := ps) (s0 := s0) (t0 := t0) (2 * (x * Hn + y) + k)
                  rw [hbl] at hst
                  have hle := nTo_len (Wn := Wn) (Hn := Hn) (ps := ps) (s0 := s0) (t0 := t0) (2 * (x * Hn + y) + k)
                  have hxy : x * Hn ≤ 64 := Nat.mul_le_mul (show x ≤ 8 by omega) (show Hn ≤ 8 by omega)
                  have HLN := Lib.hid (show (nTo Wn Hn ps s0 t0 (2 * (x * Hn + y) + k)).length ≤ 1000000000 by omega)
                  obtain ⟨A4, c4, rfl, ho4⟩ := OwnE.eta ho
                  have HO4 := Lib.hid ho4
                  have eu : (((k : Int)) == 1) = decide (k = 1) := by rcases (show k = 0 ∨ k = 1 by omega) with rfl | rfl <;> rfl
                  generalize decide (k = 1) = u at *
                  have WBG := HGW.out.trans (HB.out.mono HGW.out.size)
                  have HWB := Lib.hid WBG
                  obtain ⟨v1, e1⟩ : ∃ v1, isB Wn Hn ((x : Int), (y : Int), u) = v1 := ⟨_, rfl⟩
                  obtain ⟨v2, e2⟩ : ∃ v2, has ps ((x : Int), (y : Int), u) = v2 := ⟨_, rfl⟩
                  obtain ⟨v3, e3⟩ : ∃ v3, nlB Wn Hn ps s0 t0 ((x : Int), (y : Int), u) = v3 := ⟨_, rfl⟩
                  have hne := needB_eq e1 e2 e3
                  rw [hne] at hst
                  have HST := Lib.hid hst
                  have E1 := Lib.hid e1
                  have E2 := Lib.hid e2
                  have e3' : decide (dst Wn Hn (ins ps ((x : Int), (y : Int), u)) s0 t0 < 0) = v3 := e3
                  have HD3 := Lib.hid (fun (X : World) (v : Value) (B' : Nat) (g : Below w.heap.size w X) (ho : OwnB X B' v (ins ps ((x : Int), (y : Int), u))) => HD2.out X v B' _ g ho)
                  generalize hdn : dst Wn Hn (ins ps ((x : Int), (y : Int), u)) s0 t0 = dn at HD3 e3'
                  clear ho ho4 hb hbl hst hne e1 e2 e3 hdn WBG HO
                  obtain ⟨V, hV⟩ : ∃ V, wr.alloc (.cells #[.int .i64 x, .int .i64 y, .bool u] 34) = V := ⟨_, rfl⟩
                  have gV : Gr wr V := by rw [← hV]; exact Gr.alloc (Gr.refl _) _
                  have BBV : Bx V wr.heap.size (.int .i64 x) (.int .i64 y) (.bool u) := by rw [← hV]; exact ⟨by simp [go_sem], by simp [go_sem], by simp [go_sem], fun o => by simp [go_sem]⟩
                  have HVV := Lib.hid hV
                  have HGV := Lib.hid gV
                  have HBV := Lib.hid BBV
                  have HKV := Lib.hid (Bx.bel (show Bx wr w.heap.size _ _ _ from ⟨k0, k1, k2, kf⟩) gV.below (World.block_lt_of_cell? _ _ k0))
                  clear hV gV BBV
                  go_upto_region 14 with fail
                  rw [HVV.out]
                  have WV := Lib.hid (HWB.out.trans (HGV.out.below.mono HWB.out.size))
                  obtain ⟨k0, k1, k2, kf⟩ := HKV.out
                  obtain ⟨b0, b1, b2, bf⟩ := HBV.out
                  clear HVV
                  have HOX := Lib.hid (fun (X : World) (g : Below V.heap.size V X) => OwnE.below HO4.out (HGV.out.below.trans (g.mono HGV.out.below.size)) (Nat.le_refl _))
                  have HBX := Lib.hid (fun (X : World) (g : Below V.heap.size V X) => HB.out.trans ((HGV.out.below.trans (g.mono HGV.out.below.size)).mono hsz))
                  have HVS := Lib.hid (show wr.heap.size < V.heap.size from HBV.out.lt)
                  have ek : 2 * (x * Hn + y) + (k + 1) = 2 * (x * Hn + y) + k + 1 := by omega
                  have EK := Lib.hid ek
                  clear ek hle
                  cases v1
                  · clear HSH HCL HD3
                    go_wp2_with (first | (go_at_call 29; refine (HIS.out _ _ _ _ _ E1.out).mono ?_; rintro e w3 ⟨rfl, g3⟩; obtain ⟨k0, k1, k2, kf⟩ := HKV.out.bel g3.below HKV.out.lt; obtain ⟨b0, b1, b2, bf⟩ := HBV.out.bel g3.below HBV.out.lt; have W3 := Lib.hid (WV.out.trans (g3.below.mono WV.out.size))))
                    go_roundw
                    case rel => exact ⟨k + 1, by go_num, by omega, by rw [EK.out, HST.out]; simpa using HOX.out _ (g3.below), HBX.out _ (g3.below)⟩
                    case measure => simp [intOf]; omega
                  · cases v2
                    · cases v3
                      · have hz : ¬ dn < 0 := of_decide_eq_false e3'
                        go_wp2_with (first | (go_at_call 29; refine (HIS.out _ _ _ _ _ E1.out).mono ?_; rintro e w3 ⟨rfl, g3⟩; obtain ⟨k0, k1, k2, kf⟩ := HKV.out.bel g3.below HKV.out.lt; obtain ⟨b0, b1, b2, bf⟩ := HBV.out.bel g3.below HBV.out.lt; have W3 := Lib.hid (WV.out.trans (g3.below.mono WV.out.size))) | (go_at_call 30; refine (HSH.out _ W3.out _ _ _ _ E2.out).mono ?_; rintro e w4 ⟨rfl, g4⟩; have g34 := g3.trans g4; obtain ⟨k0, k1, k2, kf⟩ := HKV.out.bel g34.below HKV.out.lt; obtain ⟨b0, b1, b2, bf⟩ := HBV.out.bel g34.below HBV.out.lt; have W4 := Lib.hid (WV.out.trans (g34.below.mono WV.out.size))) | (go_at_call 31; refine (HCL.out _ W4.out _ _ _).mono ?_; rintro e w5 ⟨v5, rfl, ho5, hb5⟩; obtain ⟨A5, c5, rfl, ho5⟩ := OwnE.eta ho5; have W5 := Lib.hid (W4.out.trans (hb5.mono W4.out.size)); have HO5 := Lib.hid ho5; clear ho5) | (go_at_call 40; refine (HD3.out _ _ _ W5.out HO5.out).mono ?_; rintro e w6 ⟨rfl, hb6⟩; have h56 : Below V.heap.size V w6 := (g34.below.trans (hb5.mono g34.below.size)).trans (hb6.mono (Nat.le_trans g34.below.size hb5.size)); obtain ⟨b0, b1, b2, bf⟩ := HBV.out.bel h56 HBV.out.lt; have H56 := Lib.hid h56; clear h56 hb6 hb5))
                        go_roundw
                        case rel => exact ⟨k + 1, by go_num, by omega, by rw [EK.out, HST.out]; simpa using HOX.out _ (H56.out), HBX.out _ (H56.out)⟩
                        case measure => simp [intOf]; omega
                      · have hz : dn < 0 := of_decide_eq_true e3'
                        go_wp2_with (first | (go_at_call 29; refine (HIS.out _ _ _ _ _ E1.out).mono ?_; rintro e w3 ⟨rfl, g3⟩; obtain ⟨k0, k1, k2, kf⟩ := HKV.out.bel g3.below HKV.out.lt; obtain ⟨b0, b1, b2, bf⟩ := HBV.out.bel g3.below HBV.out.lt; have W3 := Lib.hid (WV.out.trans (g3.below.mono WV.out.size))) | (go_at_call 30; refine (HSH.out _ W3.out _ _ _ _ E2.out).mono ?_; rintro e w4 ⟨rfl, g4⟩; have g34 := g3.trans g4; obtain ⟨k0, k1, k2, kf⟩ := HKV.out.bel g34.below HKV.out.lt; obtain ⟨b0, b1, b2, bf⟩ := HBV.out.bel g34.below HBV.out.lt; have W4 := Lib.hid (WV.out.trans (g34.below.mono WV.out.size))) | (go_at_call 31; refine (HCL.out _ W4.out _ _ _).mono ?_; rintro e w5 ⟨v5, rfl, ho5, hb5⟩; obtain ⟨A5, c5, rfl, ho5⟩ := OwnE.eta ho5; have W5 := Lib.hid (W4.out.trans (hb5.mono W4.out.size)); have HO5 := Lib.hid ho5; clear ho5) | (go_at_call 40; refine (HD3.out _ _ _ W5.out HO5.out).mono ?_; rintro e w6 ⟨rfl, hb6⟩; have h56 : Below V.heap.size V w6 := (g34.below.trans (hb5.mono g34.below.size)).trans (hb6.mono (Nat.le_trans g34.below.size hb5.size)); obtain ⟨b0, b1, b2, bf⟩ := HBV.out.bel h56 HBV.out.lt; have H56 := Lib.hid h56; clear h56 hb6 hb5) | (at_builtin; refine wpList_appE bcs_len bcs_one rfl _ _ 28 rfl 34 Try.underlying28 Try.infoB rfl (by decide) (by decide) w2.heap.size _ _ rfl (OwnE.gr (HOX.out _ H56.out) (Gr.alloc (Gr.refl _) _)) ⟨w6.heap.size, 0, none⟩ 1 1 [((x : Int), (y : Int), u)] rfl rfl (fun j u hu => alloc_cells (by simpa [ecs, bcs] using hu)) HLN.out (by simp) (by have := (HBX.out _ H56.out).size; simp; omega) ?_; intro v7 w7 ho7 hb7 _ _; have HO7 := Lib.hid ho7; have HB7 := Lib.hid ((HBX.out _ H56.out).trans (((Gr.alloc (Gr.refl w6) (.cells #[.int .i64 x, .int .i64 y, .bool u] 34)).below.mono (HBX.out _ H56.out).size).trans hb7)); clear ho7 hb7))
                        go_roundw
                        case rel => exact ⟨k + 1, by go_num, by omega, by rw [EK.out, HST.out]; simpa using HO7.out, HB7.out⟩
                        case measure => simp [intOf]; omega
                    · clear HCL HD3
                      go_wp2_with (first | (go_at_call 29; refine (HIS.out _ _ _ _ _ E1.out).mono ?_; rintro e w3 ⟨rfl, g3⟩; obtain ⟨k0, k1, k2, kf⟩ := HKV.out.bel g3.below HKV.out.lt; obtain ⟨b0, b1, b2, bf⟩ := HBV.out.bel g3.below HBV.out.lt; have W3 := Lib.hid (WV.out.trans (g3.below.mono WV.out.size))) | (go_at_call 30; refine (HSH.out _ W3.out _ _ _ _ E2.out).mono ?_; rintro e w4 ⟨rfl, g4⟩; have g34 := g3.trans g4; obtain ⟨k0, k1, k2, kf⟩ := HKV.out.bel g34.below HKV.out.lt; obtain ⟨b0, b1, b2, bf⟩ := HBV.out.bel g34.below HBV.out.lt; have W4 := Lib.hid (WV.out.trans (g34.below.mono WV.out.size))))
                      go_roundw
                      case rel => exact ⟨k + 1, by go_num, by omega, by rw [EK.out, HST.out]; simpa using HOX.out _ (g34.below), HBX.out _ (g34.below)⟩
                      case measure => simp [intOf]; omega
                · obtain rfl : k = 2 := by omega
                  clear ho hb
                  go_wp2
                  go_roundw
                  case rel => exact ⟨y + 1, by go_num, by omega, by rw [show 2 * (x * Hn + (y + 1)) = 2 * (x * Hn + y) + 2 by omega]; exact HO.out, HB.out⟩
                  case measure => simp [intOf]; omega
            · obtain rfl : y = Hn := by omega
              clear ho hb
              go_wp2
              go_roundw
              case rel => exact ⟨x + 1, by go_num, by omega, by rw [show (x + 1) * y = x * y + y from Nat.succ_mul x y]; exact HO.out, HB.out⟩
              case measure => simp [intOf]; omega
        · obtain rfl : x = Wn := by omega
          clear ho hb
          go_wp2
          go_ret2
          exact ⟨_, rfl, OwnE.mono HO.out HGW.out.size, HGW.out.trans (HB.out.mono HGW.out.size)⟩
end Go.Proofs
