/-
  Contracts of chapter 5: the text of people (the program's).
-/
import Derived.Test.YtepbgbfaeofofaaDoorPeX
import Derived.Test.YtepbgbfaeofofaaDoorOwS
import Derived.LoopTactic
namespace Go.Proofs
open Go.RowKit
set_option linter.unusedVariables false
set_option linter.unusedSimpArgs false
theorem Tryd.gPow : Tryd.prog.globalNamed "internal/strconv.uint64pow10" = some 5 := by kernel_rfl
def Tab (w : World) : Prop := Lib.TabIs Tryd.prog w "internal/strconv.uint64pow10" .u64 Lib.pow10Tab
theorem Tab.below {w w' : World} (h : Tab w) (g : Below w.heap.size w w') : Tab w' := by
  have hc := Lib.TabIs.cell h Tryd.gPow 0 (by decide)
  exact var?_below g Tryd.gPow (World.block_lt_of_cell? _ _ hc) h
theorem Tab.gr {w w' : World} (h : Tab w) (g : Gr w w') : Tab w' := h.below g.below
theorem Tryd.itoa (p : Int) (h2 : 0 ≤ p) (h3 : p ≤ 100000) (w : World) (ht : Tab w) :
    Calls Tryd.prog 20 #[.int .i64 p] w fun e w' => e = .returned (.string (itx p)) ∧ Gr w w' := by
  have h := Tryd.strconv_Itoa p (by omega) (by omega) w ht
  rw [show Lib.itoa p = Lib.decDigits p.toNat by unfold Lib.itoa; rw [if_neg (by omega)]] at h
  exact h
def SRelI (xs : List Int) (w : World) (s i : Value) (wr : World) : Prop := ∃ k : Nat, k ≤ xs.length ∧ i = .int .i64 k ∧ OwnS wr w.heap.size s ((xs.take k).map itx) ∧ Below w.heap.size w wr
set_option maxRecDepth 100000 in
set_option maxHeartbeats 800000 in
theorem Tryd.iPeopleText (w : World) (B : Nat) (v : Value) (xs : List Int) (b : Bool) (hb : b = true ↔ GoodP xs) (hl : xs.length ≤ 1048576) (ht : Tab w) (h : OwnI w B v xs) :
    Calls Tryd.prog 12 #[v] w fun e w' => e = .returned (.tuple #[.string (ptV5 xs b), .bool b]) ∧ Below w.heap.size w w' := by
  have HH := Lib.hid (Tryd.iArePeople w B v xs b hb hl h)
  cases q : b
  · rw [q] at HH
    obtain ⟨A, c, rfl, _⟩ := h.eta
    have e : ptV5 xs false = ⟨#[]⟩ := rfl
    rw [e]
    clear h hb q e
    go_enter Tryd.func12, Tryd.ntmps12
    go_wp2_with (first | (go_at_call 19; refine (HH.out).mono ?_; rintro e w1 ⟨rfl, hbW⟩; have hcW := (bcell hbW.below).1; have hfW := (bcell hbW.below).2; (try have hzW : w.heap.size < w1.heap.size := by have hq := hbW.below.size; (try simp at hq); omega); (try have hyW : w.heap.size + 1 < w1.heap.size := by have hq := hbW.below.size; (try simp at hq); omega); (try have hxW : w.heap.size + 2 < w1.heap.size := by have hq := hbW.below.size; (try simp at hq); omega)))
    go_ret2
    exact ⟨rfl, Gr.below (by repeat (first | exact Gr.refl _ | refine Gr.alloc ?_ _ | refine Gr.trans ?_ (by assumption) | refine Gr.drew ?_ | refine Gr.drewN ?_ _ | refine Gr.grow ?_ _ | refine Gr.setCell ?_ (by (try simp); (try omega)) _))⟩
  · rw [q] at HH
    have hg := hb.1 q
    have HGD := Lib.hid hg
    have h60 := hg.1
    have HT := Lib.hid ht
    have e : ptV5 xs true = ⟨(jti xs).toArray⟩ := rfl
    rw [e]
    rcases h.view with ⟨hz, _⟩ | ⟨hpos, g, c, rfl, _, g2, _, hc, _⟩
    · subst hz; simp at h60
    · have HC := Lib.hid hc
      have zp : (0 : Int) < (xs.length : Int) := by omega
      clear h hc hg hb q ht e
      go_enter Tryd.func12, Tryd.ntmps12
      go_wp2_with (first | (go_at_call 19; refine (HH.out).mono ?_; rintro e w1 ⟨rfl, hbW⟩; have hcW := (bcell hbW.below).1; have hfW := (bcell hbW.below).2; (try have hzW : w.heap.size < w1.heap.size := by have hq := hbW.below.size; (try simp at hq); omega); (try have hyW : w.heap.size + 1 < w1.heap.size := by have hq := hbW.below.size; (try simp at hq); omega); (try have hxW : w.heap.size + 2 < w1.heap.size := by have hq := hbW.below.size; (try simp at hq); omega)))
      have HBW := Lib.hid (show Gr w w1 from (by repeat (first | exact Gr.refl _ | refine Gr.alloc ?_ _ | refine Gr.trans ?_ (by assumption) | refine Gr.drew ?_ | refine Gr.drewN ?_ _ | refine Gr.grow ?_ _ | refine Gr.setCell ?_ (by (try simp); (try omega)) _)))
      clear hcW hfW hbW
      go_loopw [4, 12] (fun s i wr => SRelI xs w s i wr) (fun _ i _ => (xs.length - intOf i).toNat)
      case atStart => exact ⟨0, Nat.zero_le _, rfl, OwnS.nil _ _, Gr.below HBW.out⟩
      case round =>
        obtain ⟨k, hk, rfl, ho, hb⟩ := hrel
        by_cases hlt : k < xs.length
        · have bd := HGD.out.bd k
          have hnx : (xs.take (k + 1)).map itx = (xs.take k).map itx ++ [itx (gx xs k)] := by rw [take_gx hlt]; simp
          have e0 := cell_k2 hb (HC.out k hlt)
          rw [show xs.getD k 0 = gx xs k from rfl] at e0
          have HPT := Lib.hid (fun (W : World) (h : Tab W) => Tryd.itoa (gx xs k) bd.1 (by omega) W h)
          have z0 : (0 : Int) ≤ (k : Int) := by omega
          have z1 : (k : Int) < (xs.length : Int) := by omega
          have sz := hb.size
          have HL := Lib.hid (show ((xs.take k).map itx).length ≤ 1000000 by simp; omega)
          have HNX := Lib.hid hnx
          have HO := Lib.hid ho
          have HB := Lib.hid hb
          have HTR := Lib.hid (HT.out.below hb)
          clear ho hb hnx
          generalize itx (gx xs k) = T at *
          generalize gx xs k = y at *
          go_wp2_with (first | (go_at_call 20; refine (HPT.out _ HTR.out).mono ?_; rintro e w2 ⟨rfl, g2'⟩; have q2 := g2'.below.size) | (at_builtin; refine wpList_app1S rfl _ _ 37 rfl Tryd.underlying37 Tryd.infoSt w.heap.size _ _ rfl (HO.out.below (Gr.below g2') (Nat.le_refl _)) T rfl HL.out (by omega) ?_; intro v' w3 ho3 hb3))
          have OW := Lib.hid ho3
          have GB := Lib.hid (HB.out.trans (((Gr.below g2').mono sz).trans hb3))
          clear ho3 hb3
          go_wp2
          go_roundw
          case rel => exact ⟨k + 1, by omega, by go_num, by rw [HNX.out]; exact OW.out, GB.out⟩
          case measure => simp [intOf]; omega
        · obtain rfl : k = xs.length := by omega
          obtain ⟨ys, hys⟩ : ∃ ys, ys = (xs.take xs.length).map itx := ⟨_, rfl⟩
          rw [← hys] at ho
          have hxl : ys.length = xs.length := by rw [hys]; simp
          obtain ⟨g', c', rfl, hg', hc', hcells⟩ := ho.view (by omega)
          have hj : Lib.join (ys.map (·.data.toList)) (⟨#[45]⟩ : ByteArray).data.toList = jti xs := by
            rw [hys, List.take_length]
            unfold jti
            rw [List.map_map]
            rfl
          have hb6 := jti_bd (fun j _ => HGD.out.bd j) xs.length (Nat.le_refl _)
          rw [List.take_length] at hb6
          have HJ := Lib.hid (by
            have q := Tryd.strings_Join g' 0 c' ys ⟨#[45]⟩ wr hcells hg' (by omega) hc' (by rw [hj]; omega)
            rw [hj] at q
            exact q)
          have HB := Lib.hid hb
          clear ho hb hys hxl hj hcells hb6
          go_wp2_with (go_at_call 21; refine (HJ.out).mono ?_; rintro e w2 ⟨rfl, hb2⟩)
          go_ret2
          exact ⟨rfl, HB.out.trans (hb2.mono HB.out.size)⟩
end Go.Proofs
