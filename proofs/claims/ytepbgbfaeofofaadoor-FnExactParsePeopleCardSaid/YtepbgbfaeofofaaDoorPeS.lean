/-
  Chapter 5: people out of a text, the model's (spec.ParsePeople).
-/
import Derived.Test.YtepbgbfaeofofaaDoorPeM
import Derived.Test.YtepbgbfaeofofaaDoorRead
import Derived.Test.YtepbgbfaeofofaaDoorQTail
namespace Sp
open Go
theorem spl_pos (sb : UInt8) (t : ByteArray) : 0 < (spl sb t).length := by
  unfold spl
  cases t.size with
  | zero => simp [Lib.splitB]
  | succ k => unfold Lib.splitB; split <;> simp
theorem spl_size (sb : UInt8) (t : ByteArray) : ∀ x, x ∈ spl sb t → x.size ≤ t.size := by
  unfold spl
  have key : ∀ (k : Nat) (s : ByteArray), s.size ≤ t.size → ∀ x, x ∈ Lib.splitB (cm sb) 0 k s → x.size ≤ t.size := by
    intro k
    induction k with
    | zero => intro s hs x hx; simp [Lib.splitB] at hx; subst hx; exact hs
    | succ k ih =>
      intro s hs x hx
      unfold Lib.splitB at hx
      split at hx
      · simp at hx; subst hx; exact hs
      · rcases List.mem_cons.1 hx with rfl | hx
        · rw [ByteArray.size_extract]; omega
        · exact ih _ (by rw [ByteArray.size_extract]; omega) x hx
  exact key _ _ (Nat.le_refl _)
theorem spl_len (sb : UInt8) (t : ByteArray) : (spl sb t).length ≤ t.size + 1 := Lib.splitB_length_le _ _ _ _
end Sp
namespace Go.Proofs
open Go.RowKit Sp
set_option linter.unusedVariables false
set_option linter.unusedSimpArgs false
theorem ne_txt {s t : ByteArray} (h : ¬ s = t) : (s.toList == t.toList) = false := by
  rw [beq_eq_false_iff_ne]
  intro e
  rw [Lib.toList_data, Lib.toList_data] at e
  exact h (ByteArray.ext (Array.toList_inj.1 e))
/-- a call that hands back a list of ints and a bool -/
def RetI (w : World) (ps : List Int) (b : Bool) (e : Ending) (w' : World) : Prop := ∃ v, e = .returned (.tuple #[v, .bool b]) ∧ OwnI w' w.heap.size v ps ∧ Below w.heap.size w w'
def PeRel (xs : List ByteArray) (w : World) (o i : Value) (wr : World) : Prop := ∃ k : Nat, k ≤ xs.length ∧ i = .int .i64 k ∧ OwnI wr w.heap.size o ((xs.take k).map rdx) ∧ Below w.heap.size w wr
set_option maxRecDepth 100000 in
set_option maxHeartbeats 1600000 in
theorem Tryd.mdParse (t : ByteArray) (w : World) (ht : t.size ≤ 1048576) :
    Calls Tryd.prog 9 #[.string t] w (RetI w (peV t) (peB t)) := by
  have mixed : Tryd.prog.follows .mixedOrders = true := by kernel_rfl
  by_cases hs : t.size ≤ 300
  · have HSP := Lib.hid (Tryd.l1SplitB 45 t w (by omega))
    change Hid (Calls Tryd.prog 13 #[.string t, .int .u8 45] w _) at HSP
    have hpos := spl_pos 45 t
    have hlen := spl_len 45 t
    have hsz := spl_size 45 t
    have hV := Lib.hid (show peB t = goodB ((spl 45 t).map rdx) by simp [peB, hs])
    have hW := Lib.hid (show peB t = true → peV t = (spl 45 t).map rdx from fun h => by simp [peV, h])
    have hW0 := Lib.hid (show peB t = false → peV t = [] from fun h => by simp [peV, h])
    generalize peV t = rv at *
    generalize peB t = rb at *
    generalize spl 45 t = xs at *
    have d0 : decide (300 < (t.size : Int)) = false := by simp; omega
    have d0' : (t.size : Int) ≤ 300 := by omega
    have d0'' : ¬ (300 : Int) < (t.size : Int) := by omega
    go_enter Tryd.func9, Tryd.ntmps9
    go_wp2_with (first | (go_at_call 13; refine HSP.out.mono ?_; rintro e W ⟨v, rfl, ho, hb⟩; obtain ⟨g, c, rfl, hg, hc, hcell⟩ := ho.view hpos; have HC := Lib.hid hcell; have HBW := Lib.hid hb; clear ho hb hcell HSP))
    have HLX := Lib.hid (show xs.length ≤ 301 by omega)
    have HSZ := Lib.hid hsz
    have HTS := Lib.hid hs
    have zx : (xs.length : Int) ≤ (c : Int) := by omega
    have HX := Lib.hid hc
    clear hsz hlen hpos d0 d0' d0'' hs
    go_loopw [4, 13] (fun o i wr => PeRel xs W o i wr) (fun _ i _ => (xs.length - intOf i).toNat)
    case atStart => exact ⟨0, Nat.zero_le _, rfl, OwnI.nil2 _ _, Below.refl _ _⟩
    case round =>
      obtain ⟨k, hk, rfl, ho, hb⟩ := hrel
      have z0 : (0 : Int) ≤ (k : Int) := by omega
      have HO := Lib.hid ho
      have HB := Lib.hid hb
      have sz := hb.size
      clear ho
      by_cases hlt : k < xs.length
      · obtain ⟨x, hx⟩ : ∃ x, xs[k]? = some x := ⟨xs[k], by simp [hlt]⟩
        have e0 := ((bcell hb).1 g (0 + k) hg).trans (HC.out k x hx)
        have HLT := Lib.hid hlt
        have hmx := HSZ.out x (List.mem_of_getElem? hx)
        have hms := HTS.out
        have z1 : (k : Int) < (xs.length : Int) := by omega
        have z2 : (k : Int) < (c : Int) := by omega
        have z3 : (xs.length : Int) ≤ 301 := by have := HLX.out; omega
        have HR := Lib.hid (fun (V : World) => Tryd.l1Read x V (by unfold maxLen; omega))
        change Hid (∀ V : World, Calls Tryd.prog 14 #[.string x] V fun e w' => e = .returned (.int .i64 (rdx x)) ∧ V = w') at HR
        have hN := Lib.hid (show (xs.take (k + 1)).map rdx = (xs.take k).map rdx ++ [rdx x] by
          rw [List.take_add_one, hx]; simp)
        have hLN := Lib.hid (show ((xs.take k).map rdx).length ≤ 1000000000 by have := HLX.out; simp; omega)
        generalize rdx x = X at *
        rw [Nat.zero_add] at e0
        clear hmx hms hb
        go_wp2_with (first | (go_at_call 14; refine (HR.out _).mono ?_; rintro e w1 ⟨rfl, rfl⟩) | (at_builtin; refine wpList_app1I rfl _ _ 22 rfl Tryd.underlying22 Tryd.infoI2 W.heap.size _ _ rfl HO.out X rfl hLN.out sz ?_; intro v' w3 ho3 hb3 _ _))
        go_roundw
        case rel => exact ⟨k + 1, HLT.out, by go_num, by rw [hN.out]; exact ho3, HB.out.trans hb3⟩
        case measure => have := HLT.out; have := HLX.out; simp [intOf]; omega
      · obtain rfl : k = xs.length := by omega
        have HL := Lib.hid (show (xs.map rdx).length ≤ 1048576 by have := HLX.out; simp; omega)
        have ho := HO.out
        rw [List.take_length] at ho
        obtain ⟨A, c', rfl, ho⟩ := ho.eta
        have HO2 := Lib.hid ho
        clear ho hb HO
        have hW := hW.out
        generalize xs.map rdx = ps at *
        have HW := Lib.hid hW
        clear hW
        clear HSZ HC
        have HG := Lib.hid (Tryd.mdGood wr _ _ ps rb (by rw [hV.out]; exact goodB_iff ps) HL.out HO2.out)
        cases rb
        · have hrv := hW0.out rfl
          subst hrv
          go_wp2_with (first | (go_at_call 15; refine HG.out.mono ?_; rintro e w1 ⟨rfl, g1⟩))
          go_ret2
          exact ⟨_, rfl, OwnI.nil2 _ _, HBW.out.trans ((HB.out.trans (g1.below.mono HB.out.size)).mono HBW.out.size)⟩
        · have hrv := HW.out rfl
          subst hrv
          go_wp2_with (first | (go_at_call 15; refine HG.out.mono ?_; rintro e w1 ⟨rfl, g1⟩))
          go_ret2
          exact ⟨_, rfl, OwnI.mono (HO2.out.gr g1) HBW.out.size, HBW.out.trans ((HB.out.trans (g1.below.mono HB.out.size)).mono HBW.out.size)⟩
  · have e : peB t = false := by simp [peB, hs]
    rw [show peV t = [] by simp [peV, e], e]
    have d1 : decide (300 < t.size) = true := by simp; omega
    go_enter Tryd.func9, Tryd.ntmps9
    go_wp2
    go_ret2
    exact ⟨_, rfl, OwnI.nil2 _ _, Below.refl _ _⟩
theorem Tryd.sParsePeople (t : ByteArray) (w : World) (ht : t.size ≤ 1048576) :
    Calls Tryd.prog 4 #[.string t] w (RetI w (peV t) (peB t)) := by
  have H := Lib.hid (Tryd.mdParse t w ht)
  generalize peV t = xs at *
  generalize peB t = b at *
  go_enter Tryd.func4, Tryd.ntmps4
  go_wp2_with (first | (go_at_call 9; refine H.out.mono ?_; rintro e w1 ⟨v, rfl, ho, hb⟩))
  go_ret2
  exact ⟨_, rfl, ho, hb⟩
end Go.Proofs
