/-
  Chapter 6: ways out of a text: plain, strings.Cut at a slash, both functions.
-/
import Derived.Test.YtcmjckipicmmeaaDoorOwH
import Derived.Test.YtcmjckipicmmeaaDoorPsSpl
import Derived.Test.YtcmjckipicmmeaaDoorQTail
namespace Go.Proofs
open Go.RowKit
set_option linter.unusedVariables false
set_option linter.unusedSimpArgs false
def ix47 (t : ByteArray) : Int := Lib.indexByte t.data.toList 47
def pw1 (t : ByteArray) : ByteArray := if ix47 t < 0 then t else t.extract 0 (ix47 t).toNat
def pw2 (t : ByteArray) : ByteArray := if ix47 t < 0 then ⟨#[]⟩ else t.extract ((ix47 t).toNat + 1) t.size
def pwB (t : ByteArray) : Bool := okW (pw1 t) (pw2 t)
theorem ixB_eq (t : ByteArray) : Lib.indexB t Ps.cm = ix47 t := by
  show Lib.index _ [47] = _
  rw [Lib.index_one]; rfl
theorem ix_cases (t : ByteArray) : ix47 t = -1 ∨ ∃ o : Nat, ix47 t = o ∧ ∃ h : o < t.size, t[o] = 47 := by
  have hg := Lib.indexByte_ge t.data.toList 47
  unfold ix47
  obtain ⟨r, hr⟩ : ∃ r, Lib.indexByte t.data.toList 47 = r := ⟨_, rfl⟩
  rw [hr] at hg ⊢
  rcases (show r = -1 ∨ ∃ o : Nat, r = o by rcases (show r = -1 ∨ 0 ≤ r by omega) with h | h; exact .inl h; exact .inr ⟨r.toNat, by omega⟩) with h | ⟨o, h⟩
  · exact .inl h
  · rw [h] at hr
    obtain ⟨h1, _⟩ := Lib.indexByte_some hr
    obtain ⟨hl, h2⟩ := List.getElem?_eq_some_iff.1 h1
    exact .inr ⟨o, h, by simpa using hl, h2⟩
theorem splitB_pos (sep : ByteArray) (k : Nat) (s : ByteArray) : 1 ≤ (Lib.splitB sep 0 k s).length := by
  cases k with
  | zero => simp [Lib.splitB]
  | succ k => unfold Lib.splitB; split <;> simp
theorem spl_cases (t : ByteArray) : ((Ps.spl t).length ≠ 2 ∧ pwB t = false) ∨ Ps.spl t = [pw1 t, pw2 t] := by
  rcases ix_cases t with h | ⟨o, h, ho, hc⟩
  · left
    constructor
    · unfold Ps.spl
      rw [Lib.splitB_miss _ _ _ _ (by rw [ixB_eq, h])]
      simp
    · unfold pwB pw2 okW
      rw [if_pos (by omega), okT_short (s := ⟨#[]⟩) (.inl (by decide)), Bool.and_false]
  · have e1 : pw1 t = t.extract 0 o := by unfold pw1; rw [h, if_neg (by omega), Int.toNat_natCast]
    have e2 : pw2 t = t.extract (o + 1) t.size := by unfold pw2; rw [h, if_neg (by omega), Int.toNat_natCast]
    have e3 : Ps.spl t = pw1 t :: Lib.splitB Ps.cm 0 (t.size - 1) (pw2 t) := by
      unfold Ps.spl
      obtain ⟨k, hk⟩ : ∃ k, t.size = k + 1 := ⟨t.size - 1, by omega⟩
      rw [e1, e2]
      have := Lib.splitB_hit Ps.cm 0 k t o (by rw [ixB_eq, h])
      rw [hk, Nat.add_sub_cancel]
      rw [this]
      have h1 : Ps.cm.size = 1 := rfl
      rw [h1, hk, Nat.add_zero]
    rcases ix_cases (pw2 t) with h' | ⟨o', h', ho', hc'⟩
    · right
      rw [e3, Lib.splitB_miss _ _ _ _ (by rw [ixB_eq, h'])]
    · left
      constructor
      · rw [e3]
        have hsz : (pw2 t).size ≤ t.size - 1 := by rw [e2, ByteArray.size_extract]; omega
        obtain ⟨k, hk⟩ : ∃ k, t.size - 1 = k + 1 := ⟨t.size - 1 - 1, by omega⟩
        rw [hk, Lib.splitB_hit Ps.cm 0 k _ o' (by rw [ixB_eq, h'])]
        simp only [List.length_cons]
        have := splitB_pos Ps.cm k ((pw2 t).extract (o' + Ps.cm.size) (pw2 t).size)
        omega
      · unfold pwB okW
        rw [okT_bad (s := pw2 t) o' ho' (by rw [hc']; decide) (by rw [hc']; decide), Bool.and_false]
theorem pw_size (t : ByteArray) : (pw1 t).size ≤ t.size ∧ (pw2 t).size ≤ t.size := by
  unfold pw1 pw2
  constructor
  · split
    · exact Nat.le_refl _
    · rw [ByteArray.size_extract]; omega
  · split
    · exact Nat.zero_le _
    · rw [ByteArray.size_extract]; omega
set_option maxRecDepth 100000 in
set_option maxHeartbeats 800000 in
theorem Tryd.slCut (w : World) (t : ByteArray) (ht : t.size ≤ maxLen) :
    Calls Tryd.prog 71 #[.string t, .string ⟨#[47]⟩] w fun e w' => (∃ b, e = .returned (.tuple #[.string (pw1 t), .string (pw2 t), .bool b])) ∧ Gr w w' := by
  have mixed : Tryd.prog.follows .mixedOrders = true := by kernel_rfl
  have HI := Lib.hid (fun (W : World) => Tryd.stringslite_Index_one t 47 W)
  change Hid (∀ W, Calls Tryd.prog 81 #[.string t, .string ⟨#[47]⟩] W fun e w' => e = .returned (.int .i64 (ix47 t)) ∧ w' = W) at HI
  rcases ix_cases t with h | ⟨o, h, ho, hc⟩
  · have e1 : pw1 t = t := by unfold pw1; rw [if_pos (by omega)]
    have e2 : pw2 t = ⟨#[]⟩ := by unfold pw2; rw [if_pos (by omega)]
    rw [e1, e2]
    rw [h] at HI
    go_enter Tryd.func71, Tryd.ntmps71
    go_wp2_with (first | (go_at_call 81; refine (HI.out _).mono ?_; rintro e w1 ⟨rfl, rfl⟩))
    go_ret3
    exact ⟨⟨_, rfl⟩, Gr.refl _⟩
  · have e1 : pw1 t = t.extract 0 o := by unfold pw1; rw [h, if_neg (by omega), Int.toNat_natCast]
    have e2 : pw2 t = t.extract (o + 1) t.size := by unfold pw2; rw [h, if_neg (by omega), Int.toNat_natCast]
    rw [e1, e2]
    rw [h] at HI
    unfold maxLen at ht
    have z0 : (0 : Int) ≤ (o : Int) := by omega
    have z1 : (o : Int) ≤ (t.size : Int) := by omega
    have z2 : (0 : Int) ≤ (o : Int) + 1 := by omega
    have z3 : (o : Int) + 1 ≤ (t.size : Int) := by omega
    have n1 : ((o : Int) + 1).toNat = o + 1 := by omega
    have wr1 : IntKind.i64.wrap ((o : Int) + 1) = (o : Int) + 1 := IntWalk.i64_in _ (by omega)
    clear h hc e1 e2
    go_enter Tryd.func71, Tryd.ntmps71
    go_wp2_with (first | (go_at_call 81; refine (HI.out _).mono ?_; rintro e w1 ⟨rfl, rfl⟩))
    (refine wp_region_quiet_grown mixed (by kernel_rfl) ?_; (repeat (first | go_big_quiet_step ((fail)) | quiet_step ((fail)))); refine wpQuiet_nil ?_; intro _ hw'; obtain ⟨⟨nq, osq⟩, hw''⟩ := hw'; subst hw'')
    go_wp2_with fail
    go_ret3
    exact ⟨⟨_, rfl⟩, Gr.grow (Gr.drewN (Gr.refl _) _) _⟩
set_option maxHeartbeats 800000 in
theorem Tryd.strCut (w : World) (t : ByteArray) (ht : t.size ≤ maxLen) :
    Calls Tryd.prog 59 #[.string t, .string ⟨#[47]⟩] w fun e w' => (∃ b, e = .returned (.tuple #[.string (pw1 t), .string (pw2 t), .bool b])) ∧ Gr w w' := by
  have HI := Lib.hid (fun (W : World) => Tryd.slCut W t ht)
  generalize pw1 t = p1 at *
  generalize pw2 t = p2 at *
  clear ht
  go_enter Tryd.func59, Tryd.ntmps59
  go_wp2_with (first | (go_at_call 71; refine (HI.out _).mono ?_; rintro e w1 ⟨⟨b, rfl⟩, g1⟩))
  go_ret3
  exact ⟨⟨_, rfl⟩, g1⟩
/-- what comes out -/
def pv1 (t : ByteArray) : ByteArray := if pwB t then pw1 t else ⟨#[]⟩
def pv2 (t : ByteArray) : ByteArray := if pwB t then pw2 t else ⟨#[]⟩
set_option maxRecDepth 100000 in
set_option maxHeartbeats 1600000 in
theorem Tryd.iParseWays (w : World) (t : ByteArray) (ht : t.size ≤ maxLen) :
    Calls Tryd.prog 39 #[.string t] w fun e w' => e = .returned (.tuple #[.agg #[.string (pv1 t), .string (pv2 t)], .bool (pwB t)]) ∧ Gr w w' := by
  obtain ⟨b, hb⟩ : ∃ b, pwB t = b := ⟨_, rfl⟩
  have HA := Lib.hid (fun (X : World) => Tryd.iAreWays X (pw1 t) (pw2 t) (Nat.le_trans (pw_size t).1 ht) (Nat.le_trans (pw_size t).2 ht) b hb)
  have HC := Lib.hid (fun (X : World) => Tryd.strCut X t ht)
  unfold pv1 pv2
  rw [hb]
  clear hb
  generalize pw1 t = p1 at *
  generalize pw2 t = p2 at *
  obtain ⟨W2, hW2⟩ : ∃ W, ((w.alloc (.cells #[.string ⟨#[]⟩, .string ⟨#[]⟩] 26)).alloc (.cells #[.string ⟨#[]⟩, .string ⟨#[]⟩] 26)) = W := ⟨_, rfl⟩
  have c0 : W2.cell? ⟨w.heap.size, 0, none⟩ = some (.string ⟨#[]⟩) := by subst hW2; simp [go_sem]
  have c1 : W2.cell? ⟨w.heap.size, 1, none⟩ = some (.string ⟨#[]⟩) := by subst hW2; simp [go_sem]
  have c2 : W2.cell? ⟨w.heap.size + 1, 0, none⟩ = some (.string ⟨#[]⟩) := by subst hW2; simp [go_sem]
  have c3 : W2.cell? ⟨w.heap.size + 1, 1, none⟩ = some (.string ⟨#[]⟩) := by subst hW2; simp [go_sem]
  have f0 : W2.frozen? ⟨w.heap.size, 0, none⟩ = false := by subst hW2; simp [go_sem]
  have f1 : W2.frozen? ⟨w.heap.size, 1, none⟩ = false := by subst hW2; simp [go_sem]
  have f2 : W2.frozen? ⟨w.heap.size + 1, 0, none⟩ = false := by subst hW2; simp [go_sem]
  have f3 : W2.frozen? ⟨w.heap.size + 1, 1, none⟩ = false := by subst hW2; simp [go_sem]
  have sz : w.heap.size + 1 < W2.heap.size := by subst hW2; simp
  have GG := Lib.hid (show Gr w W2 by subst hW2; exact by repeat (first | exact Gr.refl _ | refine Gr.alloc ?_ _ | refine Gr.trans ?_ (by assumption) | refine Gr.drew ?_ | refine Gr.drewN ?_ _ | refine Gr.grow ?_ _ | refine Gr.setCell ?_ (by (try simp); (try omega)) _))
  have HS := Lib.hid (fun (X Y : World) (g : Gr X Y) (hX : w.heap.size + 1 < X.heap.size) (k : X.frozen? ⟨w.heap.size, 0, none⟩ = false ∧ X.frozen? ⟨w.heap.size, 1, none⟩ = false ∧ X.frozen? ⟨w.heap.size + 1, 0, none⟩ = false ∧ X.frozen? ⟨w.heap.size + 1, 1, none⟩ = false) =>
    (show Y.frozen? ⟨w.heap.size, 0, none⟩ = false ∧ Y.frozen? ⟨w.heap.size, 1, none⟩ = false ∧ Y.frozen? ⟨w.heap.size + 1, 0, none⟩ = false ∧ Y.frozen? ⟨w.heap.size + 1, 1, none⟩ = false from
      ⟨((bcell g.below).2 _ _ (by omega)).trans k.1, ((bcell g.below).2 _ _ (by omega)).trans k.2.1, ((bcell g.below).2 _ _ (by omega)).trans k.2.2.1, ((bcell g.below).2 _ _ (by omega)).trans k.2.2.2⟩))
  go_enter Tryd.func39, Tryd.ntmps39
  go_wp2_with fail
  refine (HC.out W2).mono ?_
  rintro e w1 ⟨⟨bb, rfl⟩, g1⟩
  have d0 := g1.keep0 c0
  have d1 := g1.keep0 c1
  have d2 := g1.keep0 c2
  have d3 := g1.keep0 c3
  obtain ⟨e0, e1, e2, e3⟩ := HS.out W2 w1 g1 sz ⟨f0, f1, f2, f3⟩
  have sz1 := Nat.lt_of_lt_of_le sz g1.below.size
  have G1 := Lib.hid (Gr.trans GG.out g1)
  clear c0 c1 c2 c3 f0 f1 f2 f3 g1 hW2
  go_wp2_with fail
  obtain ⟨X, hX⟩ : ∃ X, (w1.setCell ⟨w.heap.size + 1, 0, none⟩ (.string p1)).setCell ⟨w.heap.size + 1, 1, none⟩ (.string p2) = X := ⟨_, rfl⟩
  simp only [hX]
  have GX := Lib.hid (show Gr w X by rw [← hX]; exact Gr.setCell (Gr.setCell G1.out (Nat.le_succ _) _) (Nat.le_succ _) _)
  obtain ⟨y2, y3⟩ := two_set d2 d3 (.string p1) (.string p2)
  obtain ⟨y0, y1⟩ := kset (kset ⟨d0, d1⟩ (show w.heap.size ≠ (⟨w.heap.size + 1, 0, none⟩ : Addr).block by simp) (u := .string p1)) (show w.heap.size ≠ (⟨w.heap.size + 1, 1, none⟩ : Addr).block by simp) (u := .string p2)
  have h0 : X.frozen? ⟨w.heap.size, 0, none⟩ = false := by rw [← hX]; simpa [go_sem] using e0
  have h1 : X.frozen? ⟨w.heap.size, 1, none⟩ = false := by rw [← hX]; simpa [go_sem] using e1
  have h2 : X.frozen? ⟨w.heap.size + 1, 0, none⟩ = false := by rw [← hX]; simpa [go_sem] using e2
  have h3 : X.frozen? ⟨w.heap.size + 1, 1, none⟩ = false := by rw [← hX]; simpa [go_sem] using e3
  rw [hX] at y0 y1 y2 y3
  have szX : w.heap.size + 1 < X.heap.size := World.block_lt_of_cell? _ _ y2
  clear hX d0 d1 d2 d3 e0 e1 e2 e3 sz1 G1
  refine (HA.out X).mono ?_
  rintro e w2 ⟨rfl, g2⟩
  have x0 := g2.keep0 y0
  have x1 := g2.keep0 y1
  have x2 := g2.keep0 y2
  have x3 := g2.keep0 y3
  obtain ⟨e0, e1, e2, e3⟩ := HS.out X w2 g2 szX ⟨h0, h1, h2, h3⟩
  have sz2 := Nat.lt_of_lt_of_le szX g2.below.size
  have G2 := Lib.hid (Gr.trans GX.out g2)
  clear y0 y1 y2 y3 h0 h1 h2 h3 g2 GX HA HC HS
  cases b
  · simp only [Bool.false_eq_true, if_false]
    go_wp2_with fail
    obtain ⟨q0, q1⟩ := two_set x0 x1 (.string ⟨#[]⟩) (.string ⟨#[]⟩)
    refine bodyPost_ret (v := .tuple #[.agg #[.string ⟨#[]⟩, .string ⟨#[]⟩], .bool false]) ?_ rfl ⟨rfl, ?_⟩
    · simp [results, Tryd.results39, go_sem, q0, q1]
    · exact Gr.setCell (Gr.setCell G2.out (Nat.le_refl _) _) (Nat.le_refl _) _
  · simp only [if_true]
    go_wp2_with fail
    obtain ⟨q0, q1⟩ := two_set x0 x1 (.string p1) (.string p2)
    refine bodyPost_ret (v := .tuple #[.agg #[.string p1, .string p2], .bool true]) ?_ rfl ⟨rfl, ?_⟩
    · simp [results, Tryd.results39, go_sem, q0, q1]
    · exact Gr.setCell (Gr.setCell G2.out (Nat.le_refl _) _) (Nat.le_refl _) _
set_option maxRecDepth 100000 in
set_option maxHeartbeats 1600000 in
theorem Tryd.sParseWays (w : World) (t : ByteArray) (ht : t.size ≤ 1048576) :
    Calls Tryd.prog 38 #[.string t] w fun e w' => e = .returned (.tuple #[.agg #[.string (pv1 t), .string (pv2 t)], .bool (pwB t)]) ∧ Below w.heap.size w w' := by
  have mixed : Tryd.prog.follows .mixedOrders = true := by kernel_rfl
  have HL := Lib.hid (fun (X : World) => Tryd.l1Split t X (by omega))
  obtain ⟨W2, hW2⟩ : ∃ W, (w.alloc (.cells #[.string ⟨#[]⟩, .string ⟨#[]⟩] 26)) = W := ⟨_, rfl⟩
  have c0 : W2.cell? ⟨w.heap.size, 0, none⟩ = some (.string ⟨#[]⟩) := by subst hW2; simp [go_sem]
  have c1 : W2.cell? ⟨w.heap.size, 1, none⟩ = some (.string ⟨#[]⟩) := by subst hW2; simp [go_sem]
  have f0 : W2.frozen? ⟨w.heap.size, 0, none⟩ = false := by subst hW2; simp [go_sem]
  have f1 : W2.frozen? ⟨w.heap.size, 1, none⟩ = false := by subst hW2; simp [go_sem]
  have sz : w.heap.size < W2.heap.size := by subst hW2; simp
  have GG := Lib.hid (show Gr w W2 by subst hW2; exact by repeat (first | exact Gr.refl _ | refine Gr.alloc ?_ _ | refine Gr.trans ?_ (by assumption) | refine Gr.drew ?_ | refine Gr.drewN ?_ _ | refine Gr.grow ?_ _ | refine Gr.setCell ?_ (by (try simp); (try omega)) _))
  rcases spl_cases t with ⟨hne, hb⟩ | hsp
  · unfold pv1 pv2
    rw [hb]
    simp only [Bool.false_eq_true, if_false]
    generalize Ps.spl t = ps at *
    go_enter Tryd.func38, Tryd.ntmps38
    go_wp2_with fail
    refine (HL.out W2).mono ?_
    rintro e w1 ⟨v1, rfl, ho, hb1⟩
    obtain ⟨A, c, rfl⟩ : ∃ A c, v1 = .slice A ps.length c := by
      rcases ho.2 with ⟨h, hn⟩ | ⟨g, cap, cur, rfl, _⟩
      · exact ⟨none, 0, by rw [hn, h]⟩
      · exact ⟨_, _, rfl⟩
    have d0 := cell_k2 hb1 c0
    have d1 := cell_k2 hb1 c1
    have e0 := ((bcell hb1).2 _ _ sz).trans f0
    have e1 := ((bcell hb1).2 _ _ sz).trans f1
    have hn2 : ((ps.length : Int) != 2) = true := by simp; omega
    have HB := Lib.hid (Below.trans GG.out.below (hb1.mono GG.out.below.size))
    clear ho hW2 hb1
    generalize ps.length = n at *
    go_wp2_with fail
    obtain ⟨q0, q1⟩ := two_set d0 d1 (.string ⟨#[]⟩) (.string ⟨#[]⟩)
    refine bodyPost_ret (v := .tuple #[.agg #[.string ⟨#[]⟩, .string ⟨#[]⟩], .bool false]) ?_ rfl ⟨rfl, ?_⟩
    · simp [results, Tryd.results38, go_sem, q0, q1]
    · exact Below.setCell (Below.setCell HB.out (Nat.le_refl _) _) (Nat.le_refl _) _
  · obtain ⟨b, hb⟩ : ∃ b, pwB t = b := ⟨_, rfl⟩
    have hml : t.size ≤ maxLen := by unfold maxLen; omega
    have HA := Lib.hid (fun (X : World) => Tryd.owGood X (pw1 t) (pw2 t) (Nat.le_trans (pw_size t).1 hml) (Nat.le_trans (pw_size t).2 hml) b hb)
    rw [hsp] at HL
    unfold pv1 pv2
    rw [hb]
    clear hb hsp hml ht
    generalize pw1 t = p1 at *
    generalize pw2 t = p2 at *
    go_enter Tryd.func38, Tryd.ntmps38
    go_wp2_with fail
    refine (HL.out W2).mono ?_
    rintro e w1 ⟨v1, rfl, ho, hb1⟩
    obtain ⟨g, c, rfl, hg, hc, hcell⟩ := ho.view (by simp)
    have k0 := hcell 0 p1 rfl
    have k1 := hcell 1 p2 rfl
    simp only [List.length_cons, List.length_nil, Nat.zero_add, Nat.reduceAdd] at k0 k1 hc ⊢
    have d0 := cell_k2 hb1 c0
    have d1 := cell_k2 hb1 c1
    have e0 := ((bcell hb1).2 _ _ sz).trans f0
    have e1 := ((bcell hb1).2 _ _ sz).trans f1
    have sz1 := Nat.lt_of_lt_of_le sz hb1.size
    have HB := Lib.hid (Below.trans GG.out.below (hb1.mono GG.out.below.size))
    clear ho hW2 hb1 hcell c0 c1 f0 f1 GG sz HL
    go_wp2_with fail
    have HS0 := And.intro k0 k1
    go_region_held3 (fun W' => W'.cell? ⟨g, 0, none⟩ = some (.string p1) ∧ W'.cell? ⟨g, 1, none⟩ = some (.string p2))
      (first | assumption | (refine ks (Gr.drew (Gr.refl _)) ?_; assumption; done) | (refine ks (Gr.alloc (Gr.refl _) _) ?_; assumption; done) | (refine ks (Gr.drew (Gr.alloc (Gr.refl _) _)) ?_; assumption; done) | (refine ks (Gr.alloc (Gr.drew (Gr.refl _)) _) ?_; assumption; done))
      (fail)
    obtain ⟨X, hX⟩ : ∃ X, (w1.alloc (.cells #[.string p1, .string p2] 26)).drew = X := ⟨_, rfl⟩
    simp only [hX]
    have gX : Gr w1 X := by rw [← hX]; exact Gr.drew (Gr.alloc (Gr.refl _) _)
    have y2 : X.cell? ⟨w1.heap.size, 0, none⟩ = some (.string p1) := by rw [← hX]; simp [go_sem]
    have y3 : X.cell? ⟨w1.heap.size, 1, none⟩ = some (.string p2) := by rw [← hX]; simp [go_sem]
    have y0 := gX.keep0 d0
    have y1 := gX.keep0 d1
    have h0 := ((bcell gX.below).2 _ _ sz1).trans e0
    have h1 := ((bcell gX.below).2 _ _ sz1).trans e1
    have szX := Nat.lt_of_lt_of_le sz1 gX.below.size
    have BX := Lib.hid (Below.trans HB.out (gX.below.mono HB.out.size))
    clear hX d0 d1 e0 e1 HS0 k0 k1 gX HB
    go_wp2_with (first | (go_at_call 40; refine (HA.out X).mono ?_; rintro e w2 ⟨rfl, g2⟩; have x0 := g2.keep0 y0; have x1 := g2.keep0 y1; have x2 := g2.keep0 y2; have x3 := g2.keep0 y3; have e0 := ((bcell g2.below).2 _ _ szX).trans h0; have e1 := ((bcell g2.below).2 _ _ szX).trans h1; have B2 := Lib.hid (Below.trans BX.out (g2.below.mono BX.out.size)); clear y0 y1 y2 y3 h0 h1; cases b))
    · obtain ⟨q0, q1⟩ := two_set x0 x1 (.string ⟨#[]⟩) (.string ⟨#[]⟩)
      refine bodyPost_ret (v := .tuple #[.agg #[.string ⟨#[]⟩, .string ⟨#[]⟩], .bool false]) ?_ rfl ⟨rfl, ?_⟩
      · simp [results, Tryd.results38, go_sem, q0, q1]
      · exact Below.setCell (Below.setCell B2.out (Nat.le_refl _) _) (Nat.le_refl _) _
    · obtain ⟨q0, q1⟩ := two_set x0 x1 (.string p1) (.string p2)
      refine bodyPost_ret (v := .tuple #[.agg #[.string p1, .string p2], .bool true]) ?_ rfl ⟨rfl, ?_⟩
      · simp [results, Tryd.results38, go_sem, q0, q1]
      · exact Below.setCell (Below.setCell B2.out (Nat.le_refl _) _) (Nat.le_refl _) _
end Go.Proofs
