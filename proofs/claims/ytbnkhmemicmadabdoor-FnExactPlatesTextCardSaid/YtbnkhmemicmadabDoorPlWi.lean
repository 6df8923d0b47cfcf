/-
  Contracts of chapter 2: PlatesText, the program's.
-/
import Derived.Test.YtbnkhmemicmadabDoorPlWt
namespace Go.Proofs
open Go.RowKit Pl
set_option linter.unusedVariables false
set_option linter.unusedSimpArgs false
def SRel (ps : List Pi2) (w : World) (s i : Value) (wr : World) : Prop := ∃ k : Nat, k ≤ ps.length ∧ i = .int .i64 k ∧ OwnS wr w.heap.size s ((ps.take k).map ptx) ∧ Below w.heap.size w wr
theorem take_ptx {ps : List Pi2} {k : Nat} (hk : k < ps.length) {x l : Int} (hx : ps.getD k (0, 0) = (x, l)) : (ps.take (k + 1)).map ptx = (ps.take k).map ptx ++ [(⟨(Lib.decDigits x.toNat).toArray⟩ : ByteArray) ++ ltr l] := by
  rw [List.take_succ_eq_append_getElem hk, ← getD_eq _ _ hk, hx]
  simp [ptx]
set_option maxRecDepth 100000 in
set_option maxHeartbeats 800000 in
theorem Tryd.iPlatesText (w : World) (B : Nat) (v : Value) (ps : List Pi2) (hl : ps.length ≤ 1048576) (ht : Tab w) (h : OwnP 26 w B v ps) :
    Calls Tryd.prog 15 #[v] w fun e w' => e = .returned (.tuple #[.string (jtV ps), .bool (okB ps)]) ∧ Below w.heap.size w w' := by
  cases hg : okB ps
  · have HA := Lib.hid (Tryd.iArePlates w B v ps false (okB_i ps _ hg) hl h)
    rw [show jtV ps = ⟨#[]⟩ by simp [jtV, hg]]
    obtain ⟨A, c, rfl, h⟩ := h.eta
    clear h hg
    go_enter Tryd.func15, Tryd.ntmps15
    go_wp2_with (go_at_call 26; refine (HA.out).mono ?_; rintro e w1 ⟨rfl, hbW⟩; have hcW := (bcell hbW.below).1; have hfW := (bcell hbW.below).2; (try have hzW : w.heap.size < w1.heap.size := by have hq := hbW.below.size; (try simp at hq); omega); (try have hyW : w.heap.size + 1 < w1.heap.size := by have hq := hbW.below.size; (try simp at hq); omega); (try have hxW : w.heap.size + 2 < w1.heap.size := by have hq := hbW.below.size; (try simp at hq); omega))
    go_ret2
    exact ⟨rfl, Gr.below (by repeat (first | exact Gr.refl _ | refine Gr.alloc ?_ _ | refine Gr.trans ?_ (by assumption) | refine Gr.drew ?_ | refine Gr.drewN ?_ _ | refine Gr.grow ?_ _ | refine Gr.setCell ?_ (by (try simp); (try omega)) _))⟩
  · have HA := Lib.hid (Tryd.iArePlates w B v ps true (okB_i ps _ hg) hl h)
    have hok := (okB_iff ps).1 hg
    have HOK := Lib.hid hok
    have h60 := hok.2.1
    have HT := Lib.hid ht
    rw [show jtV ps = ⟨(jt ps).toArray⟩ by simp [jtV, hg]]
    rcases h.view with ⟨hz, _⟩ | ⟨hpos, g, c, rfl, _, g2, _, _, hc, _⟩
    · subst hz; have := hok.1; simp at this
    · have HC := Lib.hid hc
      have zp : (0 : Int) < (ps.length : Int) := by omega
      clear h hc hg hok ht
      go_enter Tryd.func15, Tryd.ntmps15
      go_wp2_with (go_at_call 26; refine (HA.out).mono ?_; rintro e w1 ⟨rfl, hbW⟩; have hcW := (bcell hbW.below).1; have hfW := (bcell hbW.below).2; (try have hzW : w.heap.size < w1.heap.size := by have hq := hbW.below.size; (try simp at hq); omega); (try have hyW : w.heap.size + 1 < w1.heap.size := by have hq := hbW.below.size; (try simp at hq); omega); (try have hxW : w.heap.size + 2 < w1.heap.size := by have hq := hbW.below.size; (try simp at hq); omega))
      have HBW := Lib.hid hbW
      clear hcW hfW hbW
      go_loopw [4, 14] (fun s i wr => SRel ps w s i wr) (fun _ i _ => (ps.length - intOf i).toNat)
      case atStart => exact ⟨0, Nat.zero_le _, rfl, OwnS.nil _ _, Gr.below HBW.out⟩
      case round =>
        obtain ⟨k, hk, rfl, ho, hb⟩ := hrel
        by_cases hlt : k < ps.length
        · obtain ⟨x, l, hx⟩ : ∃ x l, ps.getD k (0, 0) = (x, l) := ⟨_, _, rfl⟩
          have hip : IsP (x, l) := by rw [← hx, getD_eq _ _ hlt]; exact HOK.out.2.2.1 _ (List.getElem_mem hlt)
          have hp : isP x l = true := decide_eq_true hip
          have hv : ptV x l = (⟨(Lib.decDigits x.toNat).toArray⟩ : ByteArray) ++ ltr l := by unfold ptV; rw [if_pos hp]
          have HPT := Lib.hid (fun (W : World) (h : Tab W) => (by have q := Tryd.iPlateText x l W h; rwa [hv, hp] at q : Calls Tryd.prog 8 #[.agg #[.int .i64 x, .int .i64 l]] W fun e w' => e = .returned (.tuple #[.string ((⟨(Lib.decDigits x.toNat).toArray⟩ : ByteArray) ++ ltr l), .bool true]) ∧ Gr W w'))
          have hnx := take_ptx hlt hx
          have e0 := cell_k2 hb (HC.out k hlt).1
          have e1 := cell_k2 hb (HC.out k hlt).2
          rw [hx] at e0 e1
          simp only at e0 e1
          generalize (⟨(Lib.decDigits x.toNat).toArray⟩ : ByteArray) ++ ltr l = T at *
          have z0 : (0 : Int) ≤ (k : Int) := by omega
          have z1 : (k : Int) < (ps.length : Int) := by omega
          have sz := hb.size
          have HL := Lib.hid (show ((ps.take k).map ptx).length ≤ 1000000 by simp; omega)
          have HNX := Lib.hid hnx
          have HO := Lib.hid ho
          have HB := Lib.hid hb
          have HTR := Lib.hid (HT.out.belowT hb)
          clear ho hb hx hv hp hip hnx
          go_wp2_with (first | (go_at_call 8; refine (HPT.out _ (HTR.out.gr (Gr.alloc (Gr.refl _) _))).mono ?_; rintro e w2 ⟨rfl, g2'⟩; have q2 := g2'.below.size; (try simp at q2)) | (at_builtin; refine wpList_app1S rfl _ _ 50 rfl Tryd.underlying50 Tryd.infoSt w.heap.size _ _ rfl (HO.out.below (Gr.below (Gr.trans (Gr.alloc (Gr.refl _) _) g2')) (Nat.le_refl _)) T rfl HL.out (by omega) ?_; intro v' w3 ho3 hb3))
          have OW := Lib.hid ho3
          have GB := Lib.hid (HB.out.trans (((Gr.below (Gr.trans (Gr.alloc (Gr.refl _) _) g2')).mono sz).trans hb3))
          clear ho3 hb3
          go_wp2
          go_roundw
          case rel => exact ⟨k + 1, by omega, by go_num, by rw [HNX.out]; exact OW.out, GB.out⟩
          case measure => simp [intOf]; omega
        · obtain rfl : k = ps.length := by omega
          obtain ⟨xs, hxs⟩ : ∃ xs, xs = (ps.take ps.length).map ptx := ⟨_, rfl⟩
          rw [← hxs] at ho
          have hxl : xs.length = ps.length := by rw [hxs]; simp
          obtain ⟨g', c', rfl, hg', hc', hcells⟩ := ho.view (by omega)
          have hj : Lib.join (xs.map (·.data.toList)) (⟨#[44]⟩ : ByteArray).data.toList = jt ps := by
            rw [hxs, List.take_length]
            unfold jt
            rw [List.map_map]
            rfl
          have hb6 := jt_bd HOK.out.2.2.1 ps.length (Nat.le_refl _)
          rw [List.take_length] at hb6
          have HJ := Lib.hid (by
            have q := Tryd.strings_Join g' 0 c' xs ⟨#[44]⟩ wr hcells hg' (by omega) hc' (by rw [hj]; omega)
            rw [hj] at q
            exact q)
          have HB := Lib.hid hb
          clear ho hb hxs hxl hj hcells hb6
          go_wp2_with (go_at_call 27; refine (HJ.out).mono ?_; rintro e w2 ⟨rfl, hb2⟩)
          go_ret2
          exact ⟨rfl, HB.out.trans (hb2.mono HB.out.size)⟩
end Go.Proofs
