/-
  Chapter 8: parcels out of a text, the model's (spec.ParseParcels).
-/
import Derived.Test.YtjocipddffillaaDoorPrM
import Derived.Test.YtjocipddffillaaDoorRead
import Derived.Test.YtjocipddffillaaDoorQTail
namespace Sp
open Go
theorem spl_pos (sb : UInt8) (t : ByteArray) : 0 < (spl sb t).length := by
  unfold spl
  cases t.size with
  | zero => simp [Lib.splitB]
  | succ k => unfold Lib.splitB; split <;> simp
theorem spl_size (sb : UInt8) (t : ByteArray) : ∀ x, x ∈ spl sb t → x.size ≤ t.size := by
  unfold spl
  have key : ∀ (k : Nat) (s : ByteArray), s.size ≤ t.size → ∀ x, x ∈ Lib.splitB (cm sb) 0 k s → x.size ≤ t.size := by
    intro k
    induction k with
    | zero => intro s hs x hx; simp [Lib.splitB] at hx; subst hx; exact hs
    | succ k ih =>
      intro s hs x hx
      unfold Lib.splitB at hx
      split at hx
      · simp at hx; subst hx; exact hs
      · rcases List.mem_cons.1 hx with rfl | hx
        · rw [ByteArray.size_extract]; omega
        · exact ih _ (by rw [ByteArray.size_extract]; omega) x hx
  exact key _ _ (Nat.le_refl _)
theorem spl_len (sb : UInt8) (t : ByteArray) : (spl sb t).length ≤ t.size + 1 := Lib.splitB_length_le _ _ _ _
end Sp
namespace Go.Proofs
open Go.RowKit Sp
set_option linter.unusedVariables false
set_option linter.unusedSimpArgs false
theorem ne_txt {s t : ByteArray} (h : ¬ s = t) : (s.toList == t.toList) = false := by
  rw [beq_eq_false_iff_ne]
  intro e
  rw [Lib.toList_data, Lib.toList_data] at e
  exact h (ByteArray.ext (Array.toList_inj.1 e))
theorem ownS_ge {w : World} {B g n c : Nat} {v : Value} {xs : List ByteArray} (h : OwnS w B v xs) (hpos : 0 < xs.length) (hv : v = .slice (some ⟨g, 0, none⟩) n c) : B ≤ g := by
  rcases h.2 with ⟨_, hn⟩ | ⟨g', cap, cur, e, hb, _⟩
  · omega
  · rw [hv] at e; cases e; exact hb
theorem etaB {T : TypeId} {w : World} {B : Nat} {v : Value} {ps : List Pi2} (h : OwnP T w B v ps) : ∃ A c, v = .slice A ps.length c ∧ OwnP T w B (.slice A ps.length c) ps := by
  rcases h.2 with ⟨rfl, hn⟩ | ⟨g, cap, cur, rfl, _⟩
  · exact ⟨none, 0, by rw [hn], by rw [hn]; exact h⟩
  · exact ⟨_, cap, rfl, h⟩
/-- a call that hands back a list of parcels and a bool -/
def RetB (w : World) (ps : List Pi2) (b : Bool) (e : Ending) (w' : World) : Prop := ∃ v, e = .returned (.tuple #[v, .bool b]) ∧ OwnP 37 w' w.heap.size v ps ∧ Below w.heap.size w w'
def PrRel (xs : List ByteArray) (w : World) (o i : Value) (wr : World) : Prop := ∃ k : Nat, k ≤ xs.length ∧ i = .int .i64 k ∧ OwnP 37 wr w.heap.size o ((xs.take k).map prf) ∧ Below w.heap.size w wr ∧ ∀ j, j < k → ∀ x, xs[j]? = some x → (spl 42 x).length = 2
set_option maxRecDepth 100000 in
set_option maxHeartbeats 1600000 in
theorem Tryd.sParseParcels (t : ByteArray) (w : World) (ht : t.size ≤ 1048576) :
    Calls Tryd.prog 10 #[.string t] w (RetB w (prV t) (prB t)) := by
  have mixed : Tryd.prog.follows .mixedOrders = true := by kernel_rfl
  by_cases hs : t.size ≤ 80
  · have HSP := Lib.hid (Tryd.l1Split44 t w (by omega))
    have hpos := spl_pos 44 t
    have hlen := spl_len 44 t
    have hsz := spl_size 44 t
    have hV := Lib.hid (show prB t = (prA (spl 44 t) && (decide (GoodB ((spl 44 t).map prf)) && decide (jtT ((spl 44 t).map prf) = t))) by simp [prB, hs])
    have hW := Lib.hid (show prB t = true → prV t = (spl 44 t).map prf from fun h => by simp [prV, h])
    have hW0 := Lib.hid (show prB t = false → prV t = [] from fun h => by simp [prV, h])
    generalize prV t = rv at *
    generalize prB t = rb at *
    generalize spl 44 t = xs at *
    have d0 : decide (80 < (t.size : Int)) = false := by simp; omega
    have d0' : (t.size : Int) ≤ 80 := by omega
    have d0'' : ¬ (80 : Int) < (t.size : Int) := by omega
    go_enter Tryd.func10, Tryd.ntmps10
    go_wp2_with (first | (go_at_call 21; refine HSP.out.mono ?_; rintro e W ⟨v, rfl, ho, hb⟩; obtain ⟨g, c, rfl, hg, hc, hcell⟩ := ho.view hpos; have HC := Lib.hid hcell; have HBW := Lib.hid hb; clear ho hb hcell HSP))
    have HLX := Lib.hid (show xs.length ≤ 81 by omega)
    have HSZ := Lib.hid hsz
    have HTS := Lib.hid hs
    have zx : (xs.length : Int) ≤ (c : Int) := by omega
    have HX := Lib.hid hc
    clear hsz hlen hpos d0 d0' d0'' hs
    go_loopw [4, 14] (fun o i wr => PrRel xs W o i wr) (fun _ i _ => (xs.length - intOf i).toNat)
    case atStart => exact ⟨0, Nat.zero_le _, rfl, OwnP.nil _ _ _, Below.refl _ _, fun j hj => absurd hj (Nat.not_lt_zero _)⟩
    case round =>
      obtain ⟨k, hk, rfl, ho, hb, hall⟩ := hrel
      have z0 : (0 : Int) ≤ (k : Int) := by omega
      have HO := Lib.hid ho
      have HB := Lib.hid hb
      have HA := Lib.hid hall
      have sz := hb.size
      clear ho hall
      by_cases hlt : k < xs.length
      · obtain ⟨x, hx⟩ : ∃ x, xs[k]? = some x := ⟨xs[k], by simp [hlt]⟩
        have e0 := ((bcell hb).1 g (0 + k) hg).trans (HC.out k x hx)
        have HLT := Lib.hid hlt
        have hmx := HSZ.out x (List.mem_of_getElem? hx)
        have hms := HTS.out
        have HS2 := Lib.hid (fun (W : World) => Tryd.l1Split42 x W (by omega))
        have hp2 := spl_pos 42 x
        have hl2 := spl_len 42 x
        have hs2 := spl_size 42 x
        have z1 : (k : Int) < (xs.length : Int) := by omega
        have z2 : (k : Int) < (c : Int) := by omega
        have z3 : (xs.length : Int) ≤ 81 := by have := HLX.out; omega
        have hpf : prf x = (Rd.rd (nth (spl 42 x) 0).data.toList, Rd.rd (nth (spl 42 x) 1).data.toList) := rfl
        have hALL := Lib.hid (show (spl 42 x).length = 2 → ∀ j, j < k + 1 → ∀ y, xs[j]? = some y → (spl 42 y).length = 2 from fun hp j hj y hy => by
            rcases (show j < k ∨ j = k by omega) with q | q
            · exact HA.out j q y hy
            · rw [q, hx] at hy; cases hy; exact hp)
        have hBad := Lib.hid (show ¬ (spl 42 x).length = 2 → prA xs = false from fun hp => by
              rw [prA, List.all_eq_false]
              exact ⟨x, List.mem_of_getElem? hx, by simpa using hp⟩)
        rw [Nat.zero_add] at e0
        generalize spl 42 x = ys at *
        by_cases hp : ys.length = 2
        · obtain ⟨y0, y1, rfl⟩ : ∃ y0 y1, ys = [y0, y1] := by
            match ys, hp with
            | [a, b], _ => exact ⟨a, b, rfl⟩
          have hN := Lib.hid (show (xs.take (k + 1)).map prf = (xs.take k).map prf ++ [(Rd.rd y0.data.toList, Rd.rd y1.data.toList)] by
            rw [List.take_add_one, hx]; simp [hpf, nth])
          have hLN := Lib.hid (show ((xs.take k).map prf).length ≤ 1000000000 by have := HLX.out; simp; omega)
          have hy0 : y0.size ≤ maxLen := by have := hs2 y0 (by simp); unfold maxLen; omega
          have hy1 : y1.size ≤ maxLen := by have := hs2 y1 (by simp); unfold maxLen; omega
          have HR0 := Lib.hid (fun (W : World) => Tryd.l1Read y0 W hy0)
          have HR1 := Lib.hid (fun (W : World) => Tryd.l1Read y1 W hy1)
          have hALL := Lib.hid (hALL.out rfl)
          obtain ⟨A4, c4, rfl, ho4⟩ := etaB HO.out
          have hlk : ((xs.take k).map prf).length = k := by simp; omega
          rw [hlk] at ho4
          rw [hlk]
          have HO4 := Lib.hid ho4
          clear ho4 hlk HO
          generalize Rd.rd y0.data.toList = X at *
          generalize Rd.rd y1.data.toList = Y at *
          clear hs2 hl2 hp hpf hBad hmx hms
          go_wp2_with (first | (go_at_call_of 21 (Value.string x); refine (HS2.out _).mono ?_; rintro e w1 ⟨v1, rfl, ho1, hb1⟩; obtain ⟨g1, c1, rfl, hg1, hc1, hcell1⟩ := ho1.view hp2; have hB1 := ownS_ge ho1 hp2 rfl; have u0 := hcell1 0 y0 rfl; have u1 := hcell1 1 y1 rfl; have z5 : (2 : Int) ≤ (c1 : Int) := (by simp at hc1; omega); clear ho1 hcell1))
          have szW := Nat.le_trans sz hb1.size
          have hneB : some g1 ≠ (Value.slice A4 k c4).ownBlock := fun e => by have := (World.ownsRow.lt HO4.out _ e.symm).2; omega
          go_region_held3 (fun W' => W'.cell? ⟨g1, 0 + 0, none⟩ = some (.string y0) ∧ W'.cell? ⟨g1, 0 + 1, none⟩ = some (.string y1))
            (first | exact ⟨u0, u1⟩ | assumption | exact ⟨(Gr.drew (Gr.refl _)).keep0 u0, (Gr.drew (Gr.refl _)).keep0 u1⟩ | exact ⟨G1.keep0 u0, G1.keep0 u1⟩ | exact ⟨(Gr.drew G1).keep0 u0, (Gr.drew G1).keep0 u1⟩ | exact ⟨G2.keep0 u0, G2.keep0 u1⟩ | exact ⟨(Gr.drew G2).keep0 u0, (Gr.drew G2).keep0 u1⟩ | exact ⟨(Gr.alloc G2 _).keep0 u0, (Gr.alloc G2 _).keep0 u1⟩ | exact ⟨(Gr.drew (Gr.alloc G2 _)).keep0 u0, (Gr.drew (Gr.alloc G2 _)).keep0 u1⟩ | exact ⟨hg3.cell ((Gr.alloc G2 _).keep0 u0) hneB, hg3.cell ((Gr.alloc G2 _).keep0 u1) hneB⟩ | exact ⟨(Gr.drew (Gr.refl _)).keep0 (hg3.cell ((Gr.alloc G2 _).keep0 u0) hneB), (Gr.drew (Gr.refl _)).keep0 (hg3.cell ((Gr.alloc G2 _).keep0 u1) hneB)⟩)
            ((first | (go_at_call_of 22 (Value.string y0); refine (same_gr (HR0.out _)).mono ?_; rintro e v1 ⟨rfl, g1'⟩; have G1 : Gr w1 v1 := Gr.trans (by repeat (first | exact Gr.refl _ | refine Gr.alloc ?_ _ | refine Gr.trans ?_ (by assumption) | refine Gr.drew ?_ | refine Gr.drewN ?_ _ | refine Gr.grow ?_ _ | refine Gr.setCell ?_ (by (try simp); (try omega)) _)) g1') | (go_at_call_of 22 (Value.string y1); refine (same_gr (HR1.out _)).mono ?_; rintro e v2 ⟨rfl, g2'⟩; have G2 : Gr w1 v2 := Gr.trans (by repeat (first | exact Gr.refl _ | refine Gr.alloc ?_ _ | refine Gr.trans ?_ (by assumption) | refine Gr.drew ?_ | refine Gr.drewN ?_ _ | refine Gr.grow ?_ _ | refine Gr.setCell ?_ (by (try simp); (try omega)) _)) g2') | (refine step_appP rfl (.tmp 23) (.tmp 33) 26 rfl 37 Tryd.underlying26 Tryd.infoP W.heap.size (.slice A4 k c4) _ rfl ((HO4.out.below hb1 (Nat.le_refl _)).gr (Gr.alloc G2 _)) ⟨v2.heap.size, 0, none⟩ 1 1 [(X, Y)] rfl rfl (fun j u hu => alloc_cells hu) hLN.out (by simp) (by have := G2.below.size; simp; omega) ?_; intro v' w3 ho3 hb3 hg3)))
          have gg := Gr.alloc G2 (.cells #[.int .i64 X, .int .i64 Y] 37)
          go_wp2
          go_roundw
          case rel =>
            exact ⟨k + 1, HLT.out, by go_num, by rw [hN.out]; exact ho3, (HB.out.trans ((hb1.trans (gg.below.mono hb1.size)).mono HB.out.size)).trans hb3, hALL.out⟩
          case measure => have := HLT.out; have := HLX.out; simp [intOf]; omega
        · have hrb : rb = false := by rw [hV.out, hBad.out hp]; rfl
          have hrv := hW0.out hrb
          subst hrb hrv
          have d2 : ¬ (ys.length : Int) = 2 := by omega
          have d2' : ((ys.length : Int) == 2) = false := by simpa using d2
          clear hs2 hl2 hpf hBad hmx hms hb
          go_wp2_with (first | (go_at_call_of 21 (Value.string x); refine (HS2.out _).mono ?_; rintro e w1 ⟨v1, rfl, ho1, hb1⟩; obtain ⟨g1, c1, rfl, hg1, hc1, hcell1⟩ := ho1.view hp2; clear ho1 hcell1))
          go_ret2
          exact ⟨_, rfl, OwnP.nil _ _ _, HBW.out.trans ((HB.out.trans (hb1.mono HB.out.size)).mono HBW.out.size)⟩
      · obtain rfl : k = xs.length := by omega
        have hps : prA xs = true := by
          rw [prA, List.all_eq_true]
          intro x hx
          obtain ⟨j, hj, rfl⟩ := List.getElem_of_mem hx
          have := HA.out j hj xs[j] (by simp [hj])
          simp [this]
        have hrb : rb = (decide (GoodB (xs.map prf)) && decide (jtT (xs.map prf) = t)) := by rw [hV.out, hps]; rfl
        have HL := Lib.hid (show (xs.map prf).length ≤ 1048576 by have := HLX.out; simp; omega)
        have ho := HO.out
        rw [List.take_length] at ho
        obtain ⟨A, c', rfl, ho⟩ := etaB ho
        have HO2 := Lib.hid ho
        have HK := Lib.hid hrb
        clear ho hb hps hrb HO
        have hW := hW.out
        generalize xs.map prf = ps at *
        have HW := Lib.hid hW
        clear hW
        clear HA HSZ HC
        by_cases hG : GoodB ps
        · have HT := Lib.hid (fun W' (g : Gr wr W') => Tryd.bgText W' _ _ ps hG (HO2.out.gr g))
          have HG := Lib.hid (Tryd.bgGood wr _ _ ps true ⟨fun _ => hG, fun _ => rfl⟩ HL.out HO2.out)
          rw [show (⟨(jtB ps).toArray⟩ : ByteArray) = jtT ps from rfl] at HT
          have hk2 : rb = decide (jtT ps = t) := by rw [HK.out, decide_eq_true hG]; rfl
          by_cases hT : jtT ps = t
          · have hrb : rb = true := by rw [hk2, decide_eq_true hT]
            have hrv := HW.out hrb
            subst hrb hrv
            rw [hT] at HT
            clear hT hk2 HK
            go_wp2_with (first | (go_at_call 14; refine HG.out.mono ?_; rintro e w1 ⟨rfl, g1⟩) | (go_at_call 15; refine (HT.out _ g1).mono ?_; rintro e w2 ⟨rfl, g2⟩))
            go_ret2
            have gf : Gr wr w2 := g1.trans g2
            exact ⟨_, rfl, OwnP.mono (HO2.out.gr gf) HBW.out.size, HBW.out.trans ((HB.out.trans (gf.below.mono HB.out.size)).mono HBW.out.size)⟩
          · have hrb : rb = false := by rw [hk2, decide_eq_false hT]
            have hrv := hW0.out hrb
            subst hrb hrv
            have d3 : ((jtT ps).toList == t.toList) = false := ne_txt hT
            clear hk2 HK
            generalize jtT ps = T at *
            go_wp2_with (first | (go_at_call 14; refine HG.out.mono ?_; rintro e w1 ⟨rfl, g1⟩) | (go_at_call 15; refine (HT.out _ g1).mono ?_; rintro e w2 ⟨rfl, g2⟩))
            go_ret2
            have gf : Gr wr w2 := g1.trans g2
            exact ⟨_, rfl, OwnP.nil _ _ _, HBW.out.trans ((HB.out.trans (gf.below.mono HB.out.size)).mono HBW.out.size)⟩
        · have HG := Lib.hid (Tryd.bgGood wr _ _ ps false ⟨(fun h => by cases h), fun h => absurd h hG⟩ HL.out HO2.out)
          have hrb : rb = false := by rw [HK.out, decide_eq_false hG]; rfl
          have hrv := hW0.out hrb
          subst hrb hrv
          clear HK
          go_wp2_with (first | (go_at_call 14; refine HG.out.mono ?_; rintro e w1 ⟨rfl, g1⟩))
          go_ret2
          exact ⟨_, rfl, OwnP.nil _ _ _, HBW.out.trans ((HB.out.trans (g1.below.mono HB.out.size)).mono HBW.out.size)⟩
  · have e : prB t = false := by simp [prB, hs]
    rw [show prV t = [] by simp [prV, e], e]
    have d1 : decide (80 < t.size) = true := by simp; omega
    go_enter Tryd.func10, Tryd.ntmps10
    go_wp2
    go_ret2
    exact ⟨_, rfl, OwnP.nil _ _ _, Below.refl _ _⟩
end Go.Proofs
