/-
  strings.SplitSeq at a comma: the iterator.
-/
import Derived.RangeFuncNested
import Derived.RangeFuncBound
import Derived.RangeFuncCalls
import Derived.RangeFuncLeaves
import Derived.Shelf.Abstract
import Derived.Shelf.RegionOpen
import Derived.WalkKit
import Derived.OwnWalkIn
import Derived.TacticsInMore
import Derived.LoopNIn
import Derived.LoopIn
import Derived.Test.YtopmclaphcnmbaaDoorRfC
import Derived.Test.YtopmclaphcnmbaaDoorSpS
import Derived.Test.YtopmclaphcnmbaaDoorShelf
namespace Go.Proofs
open Go.RowKit Go.Shelf Sp
set_option linter.unusedVariables false
set_option linter.unusedSimpArgs false
attribute [local go_sem] Oper.semAt_some
theorem Tryd.strings_Index_cm (s : ByteArray) (w : World) :
    Calls Tryd.prog 47 #[.string s, .string ⟨#[44]⟩] w fun e w' => e = .returned (.int .i64 (Lib.indexByte s.data.toList 44)) ∧ w' = w := by
  go_enter Tryd.func47, Tryd.ntmps47
  go_wp2_with (first | (go_at_call 40; refine (Tryd.stringslite_Index_one s 44 _).mono ?_; rintro e w1 ⟨rfl, rfl⟩))
  go_ret
  exact ⟨rfl, rfl⟩
theorem ixcm_cases (r : ByteArray) : (Lib.indexByte r.data.toList 44 = -1 ∧ Lib.indexB r (cm 44) = -1) ∨ ∃ i : Nat, Lib.indexByte r.data.toList 44 = i ∧ Lib.indexB r (cm 44) = i ∧ i + 1 ≤ r.size := by
  have e : Lib.indexB r (cm 44) = Lib.indexByte r.data.toList 44 := by
    show Lib.index _ [44] = _
    rw [Lib.index_one]
  rcases Lib.indexB_cases r (cm 44) with h | ⟨i, h, hi⟩
  · exact .inl ⟨by rw [← e, h], h⟩
  · exact .inr ⟨i, by rw [← e, h], h, hi⟩
/-- the size of the text that a box holds -/
def szAt (W : World) (B : Nat) : Nat := match W.cell? ⟨B, 0, none⟩ with | some (.string r) => r.size | _ => 0
theorem szAt_eq {W : World} {B : Nat} {r : ByteArray} (h : W.cell? ⟨B, 0, none⟩ = some (.string r)) : szAt W B = r.size := by simp [szAt, h]
def ItRel (t : ByteArray) (Bs Bp Bv : Nat) (J : List ByteArray → World → Prop) (W : World) : Prop := ∃ (k : Nat) (pre : List ByteArray) (r : ByteArray), W.cell? ⟨Bs, 0, none⟩ = some (.string r) ∧ W.frozen? ⟨Bs, 0, none⟩ = false ∧ W.cell? ⟨Bp, 0, none⟩ = some (.string ⟨#[44]⟩) ∧ W.cell? ⟨Bv, 0, none⟩ = some (.int .i64 0) ∧
  spl 44 t = pre ++ Lib.splitB (cm 44) 0 k r ∧ r.size ≤ k ∧ r.size ≤ t.size ∧ J pre W
set_option maxRecDepth 100000 in
set_option maxHeartbeats 1600000 in
theorem Tryd.split1_in (n : Nat) (hn : 1 ≤ n) (l Bs Bp Bv lo hi : Nat) (t : ByteArray) (ht : t.size ≤ 1048576) (J Jx : List ByteArray → World → Prop)
    (hJb : ∀ pre W v, J pre W → J pre (W.setCell ⟨Bs, 0, none⟩ v))
    (hY : ∀ pre x W, J pre W → pre.length < (spl 44 t).length → x.size ≤ 1048576 → YieldAt Fence.wide (n - 1) Tryd.prog l #[.string x] W fun e W' =>
      (e = .returned (.bool true) ∧ J (pre ++ [x]) W' ∧ KpB lo hi W W') ∨ (e = .returned (.bool false) ∧ Jx (pre ++ [x]) W'))
    (W : World) (hBs : lo ≤ Bs ∧ Bs < hi) (hBp : lo ≤ Bp ∧ Bp < hi) (hBv : lo ≤ Bv ∧ Bv < hi) (hne1 : Bs ≠ Bp) (hne2 : Bs ≠ Bv)
    (hcs : W.cell? ⟨Bs, 0, none⟩ = some (.string t)) (hfs : W.frozen? ⟨Bs, 0, none⟩ = false) (hcp : W.cell? ⟨Bp, 0, none⟩ = some (.string ⟨#[44]⟩)) (hcv : W.cell? ⟨Bv, 0, none⟩ = some (.int .i64 0)) (h0 : J [] W) :
    CallsIn Fence.wide n Tryd.prog 45 #[.func (.yield l) #[] #[], .pointer (some ⟨Bp, 0, none⟩), .pointer (some ⟨Bs, 0, none⟩), .pointer (some ⟨Bv, 0, none⟩)] W fun e W' => (∃ v, e = .returned v) ∧
      ((∃ ys, ys = spl 44 t ∧ J ys W') ∨ (∃ pre, pre <+: spl 44 t ∧ Jx pre W')) := by
  refine callsIn_of_wp Tryd.func45 rfl trivial ?_ rfl
  simp only [Tryd.ntmps45, List.size_toArray, List.length_cons, List.length_nil, Nat.reduceAdd, Nat.reduceSub, Array.replicate_succ, Array.replicate_zero, List.push_toArray, List.append_toArray, List.nil_append, List.cons_append]
  have d0 : ((⟨#[44]⟩ : ByteArray).size) = 1 := rfl
  have HR : ItRel t Bs Bp Bv J W := ⟨t.size, [], t, hcs, hfs, hcp, hcv, rfl, Nat.le_refl _, Nat.le_refl _, h0⟩
  have HRH := Lib.hid HR
  gi_wp2
  clear h0 hcs hfs hcp hcv HR
  gi_loopw [7] (fun _ wr => ItRel t Bs Bp Bv J wr) (fun _ wr => szAt wr Bs)
  case atStart => exact HRH.out
  case round =>
    obtain ⟨k, pre, r, es, fs, ep, ev, hsp, hrk, hrt, hJ⟩ := hrel
    rcases ixcm_cases r with ⟨x1, x2⟩ | ⟨i, x1, x2, hi⟩
    · have hfin : spl 44 t = pre ++ [r] := by rw [hsp, Lib.splitB_miss _ _ _ _ x2]
      obtain ⟨fn, tmps, assign, body, hy, hR⟩ := hY pre r wr hJ (by rw [hfin]; simp) (by omega)
      have HF := Lib.hid hfin
      have HI := Lib.hid (fun (w : World) => (Tryd.strings_Index_cm r w))
      simp only [x1] at HI
      have HRR := Lib.hid hR
      clear hsp hrk x1 x2 hfin hR
      gi_wp2_with (refine ⟨trivial, ?_⟩; gi_at_call 47; refine (callsIn_wide.2 (HI.out _)).mono ?_; rintro e w1 ⟨rfl, rfl⟩)
      refine HRR.out.mono ?_
      rintro e W2 (⟨rfl, hJ2, hk2⟩ | ⟨rfl, hJ2⟩)
      · gi_wp2
        go_end0
        exact ⟨⟨_, rfl⟩, .inl ⟨_, HF.out.symm, hJ2⟩⟩
      · gi_wp2
        go_end0
        exact ⟨⟨_, rfl⟩, .inr ⟨_, by rw [HF.out]; exact List.prefix_refl _, hJ2⟩⟩
    · obtain ⟨k', rfl⟩ : ∃ k', k = k' + 1 := ⟨k - 1, by omega⟩
      have hhit := Lib.splitB_hit (cm 44) 0 k' r i x2
      have hs2 : spl 44 t = (pre ++ [r.extract 0 i]) ++ Lib.splitB (cm 44) 0 k' (r.extract (i + 1) r.size) := by
        rw [hsp, hhit]
        simp only [List.append_assoc, List.cons_append, List.nil_append, Nat.add_zero]
        rfl
      obtain ⟨fn, tmps, assign, body, hy, hR⟩ := hY pre (r.extract 0 i) wr hJ (by rw [hs2]; simp) (by rw [ByteArray.size_extract]; omega)
      have HF := Lib.hid hs2
      have HI := Lib.hid (fun (w : World) => (Tryd.strings_Index_cm r w))
      simp only [x1] at HI
      have HRR := Lib.hid hR
      have z0 : (0 : Int) ≤ (i : Int) := by omega
      have z1 : (i : Int) + 1 ≤ (r.size : Int) := by omega
      have z2 : (r.size : Int) ≤ 1048576 := by omega
      have HZ := Lib.hid hi
      have HZ2 := Lib.hid hrt
      have HZ3 := Lib.hid hrk
      clear hsp hrk x1 x2 hs2 hR hhit hi hrt
      gi_wp2_with (refine ⟨trivial, ?_⟩; gi_at_call 47; refine (callsIn_wide.2 (HI.out _)).mono ?_; rintro e w1 ⟨rfl, rfl⟩)
      refine HRR.out.mono ?_
      rintro e W2 (⟨rfl, hJ2, hk2⟩ | ⟨rfl, hJ2⟩)
      · have es2 := (hk2.cell hBs.1 hBs.2).1.trans es
        have fs2 := (hk2.cell hBs.1 hBs.2).2.trans fs
        have ep2 := (hk2.cell hBp.1 hBp.2).1.trans ep
        have ev2 := (hk2.cell hBv.1 hBv.2).1.trans ev
        gi_wp2
        go_roundw
        case rel =>
          refine ⟨k', _, r.extract (i + 1) r.size, World.cell?_setCell_same' _ _ _ (by rw [es2]; rfl), by rw [World.frozen?_setCell]; exact fs2, ?_, ?_, HF.out, ?_, ?_, hJb _ _ _ hJ2⟩
          · rw [World.cell?_setCell_other _ _ _ _ (by intro e; cases e; exact hne1 rfl)]; exact ep2
          · rw [World.cell?_setCell_other _ _ _ _ (by intro e; cases e; exact hne2 rfl)]; exact ev2
          · have := HZ3.out; have := HZ.out; rw [ByteArray.size_extract]; omega
          · have := HZ2.out; have := HZ.out; rw [ByteArray.size_extract]; omega
        case measure =>
          rw [szAt_eq (World.cell?_setCell_same' _ _ _ (by rw [es2]; rfl)), szAt_eq es]
          have := HZ.out
          rw [ByteArray.size_extract]; omega
      · gi_wp2
        refine bodyPost_ret (results_none rfl _ _ _) rfl ?_
        exact ⟨⟨_, rfl⟩, .inr ⟨_, by rw [HF.out]; exact List.prefix_append _ _, hJ2⟩⟩
theorem Tryd.split_it (n : Nat) (hn : 1 ≤ n) (Bs Bp Bv lo hi : Nat) (t : ByteArray) (ht : t.size ≤ 1048576) (w : World) (hw : hi ≤ w.heap.size)
    (hBs : lo ≤ Bs ∧ Bs < hi) (hBp : lo ≤ Bp ∧ Bp < hi) (hBv : lo ≤ Bv ∧ Bv < hi) (hne1 : Bs ≠ Bp) (hne2 : Bs ≠ Bv)
    (hcs : w.cell? ⟨Bs, 0, none⟩ = some (.string t)) (hfs : w.frozen? ⟨Bs, 0, none⟩ = false) (hcp : w.cell? ⟨Bp, 0, none⟩ = some (.string ⟨#[44]⟩)) (hcv : w.cell? ⟨Bv, 0, none⟩ = some (.int .i64 0)) :
    ItCell n Tryd.prog 45 #[.pointer (some ⟨Bp, 0, none⟩), .pointer (some ⟨Bs, 0, none⟩), .pointer (some ⟨Bv, 0, none⟩)] Bs (KpB lo hi) (fun ys => ys = spl 44 t) (fun pre => pre <+: spl 44 t) (spl 44 t).length w := by
  intro l J Jx W hb hJb hY h0
  exact Tryd.split1_in n hn l Bs Bp Bv lo hi t ht J Jx hJb hY W hBs hBp hBv hne1 hne2
    ((hb.cell (p := ⟨Bs, 0, none⟩) (by show Bs < _; omega)).trans hcs) ((hb.frozen (p := ⟨Bs, 0, none⟩) (by show Bs < _; omega)).trans hfs) ((hb.cell (p := ⟨Bp, 0, none⟩) (by show Bp < _; omega)).trans hcp) ((hb.cell (p := ⟨Bv, 0, none⟩) (by show Bv < _; omega)).trans hcv) h0
end Go.Proofs
