/-
  Chapter 8: the text of parcels, the program's (impl.ParcelsText).
-/
import Derived.Test.YtjocipddffillaaDoorBgX
import Derived.Test.YtjocipddffillaaDoorOwS
import Derived.Test.YtjocipddffillaaDoorShelf
namespace Go.Proofs
open Go.RowKit
set_option linter.unusedVariables false
set_option linter.unusedSimpArgs false
theorem Tryd.gPow : Tryd.prog.globalNamed "internal/strconv.uint64pow10" = some 3 := by kernel_rfl
def Tab (w : World) : Prop := Lib.TabIs Tryd.prog w "internal/strconv.uint64pow10" .u64 Lib.pow10Tab
theorem Tab.below {w w' : World} (h : Tab w) (g : Below w.heap.size w w') : Tab w' := by
  have hc := Lib.TabIs.cell h Tryd.gPow 0 (by decide)
  exact var?_below g Tryd.gPow (World.block_lt_of_cell? _ _ hc) h
theorem Tab.gr {w w' : World} (h : Tab w) (g : Gr w w') : Tab w' := h.below g.below
theorem Tryd.itoa (p : Int) (h2 : 0 ≤ p) (h3 : p ≤ 100000) (w : World) (ht : Tab w) :
    Calls Tryd.prog 18 #[.int .i64 p] w fun e w' => e = .returned (.string (itx p)) ∧ Gr w w' := by
  have h := Tryd.strconv_Itoa p (by omega) (by omega) w ht
  rw [show Lib.itoa p = Lib.decDigits p.toNat by unfold Lib.itoa; rw [if_neg (by omega)]] at h
  exact h
theorem step_appS1 {P : Program} {ops : Array Oper} {o : Oper} {a : Act} {w : World} {K : Act → World → Prop} {Q : Exit → Act → World → Prop} {E : Prop} (hgd : o.guard = none) (s x : Operand) (t : TypeId)
    (ho : o.op = .call { callee := .builtin .append, args := #[s, x], argTypes := #[t, t] }) (ht : P.underlying t = some (.slice 9))
    (hinfo : (P.info? 9).map (fun i => (i.zero, i.size, i.bytes)) = some (some (.string ⟨#[]⟩), 1, 16)) (B : Nat) (v : Value) (xs : List ByteArray) (hs : a.eval s = v) (h : OwnS w B v xs)
    (b c : Nat) (T : ByteArray) (hx : a.eval x = .slice (some ⟨b, 0, none⟩) 1 c) (hq : w.cell? ⟨b, 0, none⟩ = some (.string T)) (hl : xs.length ≤ 1000000) (hB : B ≤ w.heap.size)
    (k : ∀ v' w', OwnS w' B v' (xs ++ [T]) → Below B w w' → w.grownBy w' v.ownBlock → K (a.put o.dst v') w') :
    if Region.wanted o (yielded ops a.tmps) = true then Oper.wp P o a w K Q else E := by
  rw [if_pos (show Region.wanted o (yielded ops a.tmps) = true by simp [Region.wanted, hgd])]
  obtain ⟨i0, hi, hz0, hz1, hz2⟩ := info_parts hinfo
  refine wp_append_own w s x t ho B 9 i0 _ 1 16 ht hi hz0 hz1 hz2 rfl (by decide) v xs.length (xs.map Value.string) hs h ⟨b, 0, none⟩ 1 c [.string T] hx rfl
    (fun j u hu => by
      cases j with
      | zero => simp at hu; subst hu; simpa [Addr.add] using hq
      | succ j => simp at hu) (fun u hu => by simp at hu; subst hu; rfl) (by unfold maxLen; omega) (by omega) hB fun v' w' ho' hg _ => ?_
  refine k v' w' ?_ (Below.grown (Below.refl _ _) hg hB fun j hj => (World.ownsRow.lt h j hj).1) hg
  unfold OwnS
  simpa using ho'
theorem OwnS.slB {w : World} {B : Nat} {v : Value} {xs : List ByteArray} (h : OwnS w B v xs) : ∃ A c, v = .slice A xs.length c := by
  rcases h.2 with ⟨rfl, hn⟩ | ⟨g, cap, cur, rfl, _⟩
  · exact ⟨none, 0, by rw [hn]⟩
  · exact ⟨_, cap, rfl⟩
def SRelB (ps : List Pi2) (w : World) (s i : Value) (wr : World) : Prop := ∃ k : Nat, k ≤ ps.length ∧ i = .int .i64 k ∧ OwnS wr w.heap.size s ((ps.take k).map pax) ∧ Below w.heap.size w wr
set_option maxRecDepth 100000 in
set_option maxHeartbeats 1600000 in
theorem Tryd.iParcelsText (w : World) (B : Nat) (v : Value) (ps : List Pi2) (b : Bool) (hb : b = true ↔ GoodB ps) (hl : ps.length ≤ 1048576) (ht : Tab w) (h : OwnP 37 w B v ps) :
    Calls Tryd.prog 8 #[v] w fun e w' => e = .returned (.tuple #[.string (txB ps b), .bool b]) ∧ Below w.heap.size w w' := by
  have mixed : Tryd.prog.follows .mixedOrders = true := by kernel_rfl
  have HH := Lib.hid (Tryd.iAreParcels w B v ps b hb hl h)
  have hsl : ∃ A c, v = .slice A ps.length c := by
    rcases h.view with ⟨rfl, A, c, rfl⟩ | ⟨_, g, c, rfl, _⟩
    · exact ⟨A, c, rfl⟩
    · exact ⟨_, c, rfl⟩
  cases b
  · obtain ⟨A, c, rfl⟩ := hsl
    have e : txB ps false = ⟨#[]⟩ := rfl
    rw [e]
    clear h hb e
    go_enter Tryd.func8, Tryd.ntmps8
    go_wp2_with (first | (go_at_call 17; refine HH.out.mono ?_; rintro e w1 ⟨rfl, g1⟩))
    go_ret2
    exact ⟨rfl, g1.below⟩
  · have hg := hb.1 rfl
    have HGD := Lib.hid hg
    have hl8 := hg.1
    have HT := Lib.hid ht
    have e : txB ps true = ⟨(jtB ps).toArray⟩ := rfl
    rw [e]
    clear hsl
    rcases h.view with ⟨hz, _⟩ | ⟨hpos, g, c, rfl, _, g2, _, _, hc, _⟩
    · subst hz; simp at hl8
    · have HC := Lib.hid hc
      have zp : (0 : Int) < (ps.length : Int) := by omega
      clear h hc hg hb ht e
      go_enter Tryd.func8, Tryd.ntmps8
      go_wp2_with (first | (go_at_call 17; refine HH.out.mono ?_; rintro e w1 ⟨rfl, g1⟩))
      have HBW := Lib.hid g1
      go_loopw [4, 6, 12] (fun s _ i wr => SRelB ps w s i wr) (fun _ _ i _ => (ps.length - intOf i).toNat)
      case atStart => exact ⟨0, Nat.zero_le _, rfl, OwnS.nil _ _, Gr.below HBW.out⟩
      case round =>
        obtain ⟨k, hk, rfl, ho, hb⟩ := hrel
        by_cases hlt : k < ps.length
        · have bd := HGD.out.2 k hlt
          have hnx : (ps.take (k + 1)).map pax = (ps.take k).map pax ++ [pax (ps.getD k (0, 0))] := by rw [take_ps hlt]; simp
          have hpx : pax (ps.getD k (0, 0)) = itx (ps.getD k (0, 0)).1 ++ ⟨#[42]⟩ ++ itx (ps.getD k (0, 0)).2 := rfl
          rw [hpx] at hnx
          have e0 := cell_k2 hb (HC.out k hlt).1
          have e1 := cell_k2 hb (HC.out k hlt).2
          obtain ⟨b1, b2⟩ := bd
          have t1 := itx_sz (n := (ps.getD k (0, 0)).1) (by omega) (by omega)
          have t2 := itx_sz (n := (ps.getD k (0, 0)).2) (by omega) (by omega)
          have H1 := Lib.hid (fun (W : World) (h : Tab W) => Tryd.itoa (ps.getD k (0, 0)).1 (by omega) (by omega) W h)
          have H2 := Lib.hid (fun (W : World) (h : Tab W) => Tryd.itoa (ps.getD k (0, 0)).2 (by omega) (by omega) W h)
          have z0 : (0 : Int) ≤ (k : Int) := by omega
          have z1 : (k : Int) < (ps.length : Int) := by omega
          obtain ⟨A4, c4, rfl⟩ := ho.slB
          have hlk : ((ps.take k).map pax).length = k := by simp; omega
          rw [hlk] at ho ⊢
          have sz := hb.size
          have HL := Lib.hid (show ((ps.take k).map pax).length ≤ 1000000 by simp; omega)
          have HNX := Lib.hid hnx
          have HO := Lib.hid ho
          have HB := Lib.hid hb
          have HTR := Lib.hid (HT.out.below hb)
          clear ho hb hnx hpx b1 b2
          generalize itx (ps.getD k (0, 0)).1 = T1 at *
          generalize itx (ps.getD k (0, 0)).2 = T2 at *
          generalize (ps.getD k (0, 0)).1 = x at *
          generalize (ps.getD k (0, 0)).2 = y at *
          have hadd1 := fun W => run_string_add (P := Tryd.prog) (w := W) T1 ⟨#[42]⟩ (by omega) (by decide)
          have hadd2 := fun W => run_string_add (P := Tryd.prog) (w := W) (T1 ++ ⟨#[42]⟩) T2 (by rw [ByteArray.size_append, size_one]; omega) (by omega)
          obtain ⟨b0, b1⟩ := box2 wr (.int .i64 x) (.int .i64 y) 37
          obtain ⟨X, hX⟩ : ∃ X, wr.alloc (.cells #[.int .i64 x, .int .i64 y] 37) = X := ⟨_, rfl⟩
          have HGX := Lib.hid (show Gr wr X by rw [← hX]; exact Gr.alloc (Gr.refl _) _)
          have HTX := Lib.hid (HTR.out.gr HGX.out)
          have hneB : some wr.heap.size ≠ (Value.slice A4 k c4).ownBlock := fun e => by have := (World.ownsRow.lt HO.out _ e.symm).2; omega
          rw [hX] at b0 b1
          go_wp2
          (try simp only [hX])
          clear hX
          have q0 : X.cell? ⟨wr.heap.size, 0, none⟩ = some (.int .i64 x) := by have := b0 0 #[]; simpa [Go.Sort.grow_empty] using this
          have q1 : X.cell? ⟨wr.heap.size, 1, none⟩ = some (.int .i64 y) := by have := b1 0 #[]; simpa [Go.Sort.grow_empty] using this
          clear b0 b1
          go_region_held3 (fun W' => W'.cell? ⟨wr.heap.size, 0, none⟩ = some (.int .i64 x) ∧ W'.cell? ⟨wr.heap.size, 1, none⟩ = some (.int .i64 y))
            (first | exact ⟨q0, q1⟩ | assumption | exact ⟨(Gr.drew (Gr.refl _)).keep0 q0, (Gr.drew (Gr.refl _)).keep0 q1⟩ | exact ⟨G1.keep0 q0, G1.keep0 q1⟩ | exact ⟨(Gr.drew G1).keep0 q0, (Gr.drew G1).keep0 q1⟩ | exact ⟨G2.keep0 q0, G2.keep0 q1⟩ | exact ⟨(Gr.drew G2).keep0 q0, (Gr.drew G2).keep0 q1⟩ | exact ⟨(Gr.alloc G2 _).keep0 q0, (Gr.alloc G2 _).keep0 q1⟩ | exact ⟨(Gr.drew (Gr.alloc G2 _)).keep0 q0, (Gr.drew (Gr.alloc G2 _)).keep0 q1⟩ | exact ⟨hg3.cell ((Gr.alloc G2 _).keep0 q0) hneB, hg3.cell ((Gr.alloc G2 _).keep0 q1) hneB⟩ | exact ⟨(Gr.drew (Gr.refl _)).keep0 (hg3.cell ((Gr.alloc G2 _).keep0 q0) hneB), (Gr.drew (Gr.refl _)).keep0 (hg3.cell ((Gr.alloc G2 _).keep0 q1) hneB)⟩)
            ((first | (go_at_call_of 18 (Value.int .i64 x); refine (H1.out _ (Tab.gr HTX.out (by repeat (first | exact Gr.refl _ | refine Gr.alloc ?_ _ | refine Gr.trans ?_ (by assumption) | refine Gr.drew ?_ | refine Gr.drewN ?_ _ | refine Gr.grow ?_ _ | refine Gr.setCell ?_ (by (try simp); (try omega)) _)))).mono ?_; rintro e w1 ⟨rfl, g1⟩; have G1 : Gr X w1 := Gr.trans (by repeat (first | exact Gr.refl _ | refine Gr.alloc ?_ _ | refine Gr.trans ?_ (by assumption) | refine Gr.drew ?_ | refine Gr.drewN ?_ _ | refine Gr.grow ?_ _ | refine Gr.setCell ?_ (by (try simp); (try omega)) _)) g1) | (go_at_call_of 18 (Value.int .i64 y); refine (H2.out _ (Tab.gr HTX.out (by repeat (first | exact Gr.refl _ | refine Gr.alloc ?_ _ | refine Gr.trans ?_ (by assumption) | refine Gr.drew ?_ | refine Gr.drewN ?_ _ | refine Gr.grow ?_ _ | refine Gr.setCell ?_ (by (try simp); (try omega)) _)))).mono ?_; rintro e w2 ⟨rfl, g2'⟩; have G2 : Gr X w2 := Gr.trans (by repeat (first | exact Gr.refl _ | refine Gr.alloc ?_ _ | refine Gr.trans ?_ (by assumption) | refine Gr.drew ?_ | refine Gr.drewN ?_ _ | refine Gr.grow ?_ _ | refine Gr.setCell ?_ (by (try simp); (try omega)) _)) g2') | (refine step_appS1 rfl (.tmp 16) (.tmp 25) 40 rfl Tryd.underlying40 Tryd.infoSt w.heap.size (.slice A4 k c4) _ rfl (HO.out.below (Gr.below (HGX.out.trans (Gr.alloc G2 _))) (Nat.le_refl _)) w2.heap.size 1 (T1 ++ ⟨#[42]⟩ ++ T2) rfl (by simp [go_sem]) HL.out (by have := G2.below.size; have := HGX.out.below.size; simp; omega) ?_; intro v' w3 ho3 hb3 hg3)))
          have gg := HGX.out.trans (Gr.alloc G2 (.cells #[.string (T1 ++ ⟨#[42]⟩ ++ T2)] 9))
          go_wp2
          go_roundw
          case rel => exact ⟨k + 1, by omega, by go_num, by rw [HNX.out]; exact ho3, HB.out.trans ((gg.below.mono sz).trans hb3)⟩
          case measure => simp [intOf]; omega
        · obtain rfl : k = ps.length := by omega
          obtain ⟨ys, hys⟩ : ∃ ys, ys = (ps.take ps.length).map pax := ⟨_, rfl⟩
          rw [← hys] at ho
          have hxl : ys.length = ps.length := by rw [hys]; simp
          obtain ⟨g', c', rfl, hg', hc', hcells⟩ := ho.view (by omega)
          have hj : Lib.join (ys.map (·.data.toList)) (⟨#[44]⟩ : ByteArray).data.toList = jtB ps := by
            rw [hys, List.take_length]
            unfold jtB
            rw [List.map_map]
            rfl
          have hb6 := jtB_bd (ps := ps) HGD.out.2 ps.length (Nat.le_refl _)
          rw [List.take_length] at hb6
          have HJ := Lib.hid (by
            have q := Tryd.strings_Join g' 0 c' ys ⟨#[44]⟩ wr hcells hg' (by omega) hc' (by rw [hj]; omega)
            rw [hj] at q
            exact q)
          have HB := Lib.hid hb
          clear ho hb hys hxl hj hcells hb6
          go_wp2_with (go_at_call 19; refine (HJ.out).mono ?_; rintro e w2 ⟨rfl, hb2⟩)
          go_ret2
          exact ⟨rfl, HB.out.trans (hb2.mono HB.out.size)⟩
end Go.Proofs
