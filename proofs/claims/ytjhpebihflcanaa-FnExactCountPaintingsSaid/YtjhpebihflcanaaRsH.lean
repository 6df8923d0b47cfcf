/-
  Chapter 7: the lists with the least cost (leastOf).
-/
import Derived.Test.YtjhpebihflcanaaRsG
import Derived.ScopeJumps
import Derived.WalkMore
namespace Go.Proofs
open Go.RowKit Go.Maps Rl
set_option linter.unusedVariables false
set_option linter.unusedSimpArgs false
/-- a scope whose first walk comes to the label as the others do -/
theorem scope_jumps2 {P : Program} {a : Act} {w : World} {Q : Exit → Act → World → Prop} {c rest : Code} (l : Nat) (J : Act → World → Prop) (μ : Act → World → Nat) (hf : findLabel c l = some (Code.seq .skip rest))
    (pass : ∀ a w, J a w → rest.wp P (Exit.jump l (fun a' w' => J a' w' ∧ μ a' w' < μ a w) Q) a w)
    (first : (∀ a w, J a w → rest.wp P (Exit.jump l J Q) a w) → c.wp P (Exit.jump l J Q) a w) : (Code.scope c).wp P Q a w :=
  wp_scope_jumps l J μ hf (first (fun a w h => wp_mono (pass a w h) (fun e a' w' q => by cases e <;> first | exact q | exact ⟨q.1, q.2.1⟩))) (fun a w h => wp_seq (wp_skip (pass a w h)))
/-- the options of all houses, to be read -/
def RowsR (w : World) (B : Nat) (v : Value) (oss : List (List Rl.Op)) : Prop := ∃ g c, v = .slice (some ⟨g, 0, none⟩) oss.length c ∧ ∀ i os, oss[i]? = some os → ∃ u, w.cell? ⟨g, i, none⟩ = some u ∧ OptR w B u os
structure OsB (os : List Rl.Op) : Prop where
  len : os.length ≤ 8
  dif : Dif os
  ob : ∀ o ∈ os, OpB o
/-- which ways are good around a ring -/
def rnd (fits : Int → Int → Bool) (n : Nat) (ring : Bool) (k : Int × Int) : Bool := !(ring && decide (3 ≤ n)) || fits k.2 k.1
def leastE (fits : Int → Int → Bool) (oss : List (List Rl.Op)) (ring : Bool) : Option Le := Rl.LE (rnd fits oss.length ring) (Rl.ways fits oss) (fun _ => true)
structure Try.FsR (b1 Bm : Nat) (os : List Rl.Op) (W0 wr : World) (i : Nat) (D : DataW Unit) : Prop where
  o1 : wr.ownsMap Try.prog 73 lElem b1 64 D
  m1 : MapL wr Bm D (T ((os.take i).map Op.wy))
  o2 : wr.ownsMap Try.prog 73 lElem (b1 + 1) 64 (.map [] : DataW Unit)
  kp : Kp W0 wr
  bl : Below b1 W0 wr
def S3 (q : Nat) (v0 v1 v2 : Value) (w : World) : Prop := w.cell? ⟨q, 0, none⟩ = some v0 ∧ w.cell? ⟨q, 1, none⟩ = some v1 ∧ w.cell? ⟨q, 2, none⟩ = some v2
theorem S3.kp {q : Nat} {v0 v1 v2 : Value} {w w' : World} (h : S3 q v0 v1 v2 w) (k : Kp w w') : S3 q v0 v1 v2 w' := ⟨k.cell h.1, k.cell h.2.1, k.cell h.2.2⟩
theorem S3.set {q : Nat} {v0 v1 v2 : Value} {w : World} (h : S3 q v0 v1 v2 w) {k i : Nat} (hk : k < q) (u : Value) : S3 q v0 v1 v2 (w.setCell ⟨k, i, none⟩ u) := by
  have key : ∀ o (v : Value), w.cell? ⟨q, o, none⟩ = some v → (w.setCell ⟨k, i, none⟩ u).cell? ⟨q, o, none⟩ = some v := fun o v e => (World.cell?_setCell_far _ _ _ _ (by simp; omega)).trans e
  exact ⟨key _ _ h.1, key _ _ h.2.1, key _ _ h.2.2⟩
theorem S3.drew {q : Nat} {v0 v1 v2 : Value} {w : World} (h : S3 q v0 v1 v2 w) : S3 q v0 v1 v2 w.drew := h.kp (Gr.kp (Gr.drew (Gr.refl _)))
/-- the end, in the course of the range -/
structure Try.EnR (b r q Bm : Nat) (R : Int × Int → Bool) (W : List Wy) (w X wr : World) (left : Lit → Bool) (cnt : Nat) (D : DataW Unit) : Prop where
  rg : wr.ranges Try.prog 73 lElem b r 64 D left cnt
  m : MapL wr Bm D (T W)
  bx : ∃ (c : Int) (n : Nat) (A : Option Addr) (mm k : Nat), wr.heap[q]? = some (Obj.cells #[.int .i64 c, .int .i64 n, .slice A mm k] 46 (0, 0)) ∧ LeV wr Bm (.agg #[.int .i64 c, .int .i64 n, .slice A mm k]) (Rl.LE R W (fun k => !left (kle k)))
  sub : ∀ kl, left kl = true → Maps.has D kl = true
  kp : Kp X wr
  bl : Below Bm w wr
/-- what holds at the label -/
structure Try.LbR (fits : Int → Int → Bool) (oss : List (List Rl.Op)) (n h bl bo : Nat) (D D0 : DataW Unit) (w W0 X : World) : Prop where
  hh : h ≤ n
  hb : (bl = w.heap.size + 1 ∧ bo = w.heap.size + 2) ∨ (bl = w.heap.size + 2 ∧ bo = w.heap.size + 1)
  o1 : X.ownsMap Try.prog 73 lElem bl 64 D
  m1 : MapL X w.heap.size D (T (Rl.ways fits (oss.drop h)))
  o2 : X.ownsMap Try.prog 73 lElem bo 64 D0
  m2 : MapL X w.heap.size D0 (fun _ => none)
  kp : Kp W0 X
  bl : Below w.heap.size w X
def Try.FsL (fits : Int → Int → Bool) (oss : List (List Rl.Op)) (n g cp fg : Nat) (ring : Bool) (w W0 : World) (a : Act) (X : World) : Prop :=
  ∃ (h bl bo : Nat) (D D0 : DataW Unit) (z3 z4 z5 z11 z12 z13 z14 z15 z16 z17 z18 z19 z20 z21 z22 z23 z24 z25 z26 z27 z28 z29 z30 z31 z32 z33 z34 z35 z36 z37 z38 z39 z40 z41 z42 z43 z44 z45 z46 z47 z48 z49 z50 z51 z52 z53 z54 z55 z56 z57 z58 z59 z60 z61 z62 z63 z64 z65 z66 z67 z68 z69 z70 z71 z72 z73 z74 z75 z76 z77 z78 z79 z80 : Value), a = { tmps := #[.slice (some ⟨g, 0, none⟩) (n + 1) cp, .func (.func fg) #[] #[], .bool ring, z3, z4, z5, .pointer (some ⟨w.heap.size, 0, none⟩), .bool false, .map (some bl), .map (some bo), .int .i64 (h : Nat), z11, z12, z13, z14, z15, z16, z17, z18, z19, z20, z21, z22, z23, z24, z25, z26, z27, z28, z29, z30, z31, z32, z33, z34, z35, z36, z37, z38, z39, z40, z41, z42, z43, z44, z45, z46, z47, z48, z49, z50, z51, z52, z53, z54, z55, z56, z57, z58, z59, z60, z61, z62, z63, z64, z65, z66, z67, z68, z69, z70, z71, z72, z73, z74, z75, z76, z77, z78, z79, z80], defers := [] } ∧ Try.LbR fits oss n h bl bo D D0 w W0 X
theorem kept_turn {W0 w w' : World} {b1 : Nat} (h : Below b1 W0 w) (hb : b1 ≤ w.heap.size) (ht : w.mapTurned w' b1) : Below b1 W0 w' := h.grown ht.grown hb (fun j e => by cases e; exact Nat.le_refl _)
set_option maxRecDepth 100000 in
set_option maxHeartbeats 8000000 in
theorem Try.leastOf (w : World) (B' : Nat) (la : Value) (oss : List (List Rl.Op)) (fg : Nat) (fits : Int → Int → Bool) (ring : Bool) (h1 : 1 ≤ oss.length) (h20 : oss.length ≤ 20) (hB : ∀ os ∈ oss, OsB os) (hr : RowsR w B' la oss)
    (eg : ∀ args w, (callFunc fg args).run Try.prog w = .ok (.enter fg args) w)
    (hf : ∀ (X : World) (x y : Int), Calls Try.prog fg (#[.int .i64 x, .int .i64 y] ++ #[]) X fun e w' => e = .returned (.bool (fits x y)) ∧ Gr X w') :
    Calls Try.prog 48 #[la, .func (.func fg) #[] #[], .bool ring] w fun e w' => ∃ v, e = .returned (.tuple #[v, .bool (leastE fits oss ring).isSome]) ∧ LeV w' w.heap.size v (leastE fits oss ring) ∧ Below w.heap.size w w' := by
  have mixed : Try.prog.follows .mixedOrders = true := by kernel_rfl
  obtain ⟨g, cp, rfl, hrows⟩ := hr
  have HROW := Lib.hid hrows
  have HF := Lib.hid hf
  have HB := Lib.hid hB
  have hmm := fun (W : World) => (run_makeMap (P := Try.prog) 70 W)
  obtain ⟨n, hn⟩ : ∃ n, oss.length = n + 1 := ⟨oss.length - 1, by omega⟩
  obtain ⟨os, hos⟩ : ∃ os, oss[n]? = some os := ⟨oss[n], List.getElem?_eq_getElem (by omega)⟩
  obtain ⟨u, hu, A, c, rfl, hopt⟩ := hrows n os hos
  have hOS := hB os (List.mem_of_getElem? hos)
  have HOS := Lib.hid hOS
  have HOPT := Lib.hid hopt
  have HN := Lib.hid hn
  have z0 : (0 : Int) ≤ (n : Int) := by omega
  have z1 : (n : Int) < ((n + 1 : Nat) : Int) := by omega
  have hn19 : (n : Int) ≤ 19 := by omega
  have HDR := Lib.hid (show oss.drop n = [os] by
    rw [List.drop_eq_getElem_cons (by omega), List.drop_of_length_le (by omega)]
    rw [List.getElem?_eq_getElem (by omega)] at hos
    rw [Option.some.inj hos])
  rw [hn]
  clear hrows hf hB hn hos hopt hOS
  go_enter Try.func48, Try.ntmps48
  go_wp2
  obtain ⟨W0, hW0⟩ : ∃ W, w.alloc (.cells #[.int .i64 0, .int .i64 0, .slice none 0 0] 46) = W := ⟨_, rfl⟩
  have gW0 : Gr w W0 := by rw [← hW0]; exact Gr.alloc (Gr.refl _) _
  have sz0 : W0.heap.size = w.heap.size + 1 := by rw [← hW0]; simp
  have HG0 := Lib.hid gW0
  have HS0 := Lib.hid sz0
  have hu0 := gW0.keep0 hu
  have HW0 := Lib.hid hW0
  rw [hW0]
  clear gW0 hW0
  refine scope_jumps2 0 (Try.FsL fits oss n g cp fg ring w W0) (fun a' _ => (intOf (a'.tmps.getD 10 undef)).toNat) rfl ?_ ?_
  · rintro a' X ⟨h, bl, bo, D, D0, z3, z4, z5, z11, z12, z13, z14, z15, z16, z17, z18, z19, z20, z21, z22, z23, z24, z25, z26, z27, z28, z29, z30, z31, z32, z33, z34, z35, z36, z37, z38, z39, z40, z41, z42, z43, z44, z45, z46, z47, z48, z49, z50, z51, z52, z53, z54, z55, z56, z57, z58, z59, z60, z61, z62, z63, z64, z65, z66, z67, z68, z69, z70, z71, z72, z73, z74, z75, z76, z77, z78, z79, z80, rfl, hJ⟩
    have HJ := Lib.hid hJ
    have hhn := hJ.hh
    have HKX := Lib.hid (show Kp w X from (Gr.kp HG0.out).trans hJ.kp)
    have HSX := Lib.hid (show w.heap.size + 1 ≤ X.heap.size by have := hJ.kp.size; have := HS0.out; omega)
    have HLN := Lib.hid (And.intro HN.out h20)
    clear hJ
    by_cases h0 : 0 < h
    · obtain ⟨m, rfl⟩ : ∃ m, h = m + 1 := ⟨h - 1, by omega⟩
      obtain ⟨os2, hos2⟩ : ∃ os2, oss[m]? = some os2 := ⟨oss[m]'(by have := HN.out; omega), List.getElem?_eq_getElem (by have := HN.out; omega)⟩
      obtain ⟨u2, hu2, hopt2⟩ := HROW.out m os2 hos2
      have hcu := HKX.out.cell hu2
      have HOS2 := Lib.hid (HB.out os2 (List.mem_of_getElem? hos2))
      have HW := Lib.hid (fun (q : List Rl.Op) (hq : q ∈ oss.drop (m + 1)) => HB.out q (List.mem_of_mem_drop hq))
      have HDL := Lib.hid (show (oss.drop (m + 1)).length ≤ 19 by rw [List.length_drop]; have := HN.out; omega)
      have HDR2 := Lib.hid (show Rl.ways fits (oss.drop m) = lead fits os2 (Rl.ways fits (oss.drop (m + 1))) by
        have hm : m < oss.length := by have := HN.out; omega
        have e1 : oss.drop m = os2 :: oss.drop (m + 1) := by
          rw [List.drop_eq_getElem_cons hm]
          rw [List.getElem?_eq_getElem hm] at hos2
          rw [Option.some.inj hos2]
        rw [e1]
        cases e2 : oss.drop (m + 1) with
        | nil =>
          have := congrArg List.length e2
          rw [List.length_drop] at this
          have := HN.out
          simp at *
          omega
        | cons a r => rfl)
      have HLD := Lib.hid (Try.leadOn X w.heap.size B' bl bo D D0 (Rl.ways fits (oss.drop (m + 1))) os2 u2 fg fits (by have := HJ.out.hb; omega) (by have := HJ.out.hb; omega) (by have := HJ.out.hb; omega) HJ.out.o1 HJ.out.m1 HJ.out.o2 HJ.out.m2 (hopt2.kp HKX.out) HOS2.out.len HOS2.out.dif HOS2.out.ob
        (fun x hx => by have b := ways_bd fits _ (fun q hq o ho => (HW.out q hq).ob o ho) x hx; exact ⟨b.f, b.l⟩)
        (fun DD k l e => LG_le HDL.out (fun q hq => (HW.out q hq).len) (fun q hq => (HW.out q hq).ob) HOS2.out.len HOS2.out.ob DD k l e)
        (fun k l e => T_le (Nat.le_trans HDL.out (by decide)) (fun q hq => (HW.out q hq).len) (fun q hq => (HW.out q hq).ob) k l e)
        (fun k l o e ho => beh_le HDL.out (fun q hq => (HW.out q hq).len) (fun q hq => (HW.out q hq).ob) HOS2.out.ob k l o e ho) eg HF.out)
      obtain ⟨A2, c2, rfl, hopt3⟩ := hopt2
      have z2 : (0 : Int) < ((m + 1 : Nat) : Int) := by omega
      have z3 : (0 : Int) ≤ (m : Int) := by omega
      have z4 : (m : Int) < ((n + 1 : Nat) : Int) := by omega
      have z5 : (m : Int) ≤ 19 := by omega
      clear hos2 hu2 hopt3
      go_wp2_with (go_at_call 57; refine HLD.out.mono ?_; rintro e w5 ⟨rfl, D1', D2', o1', m1', o2', m2', k', b'⟩)
      go_step3
      refine ⟨rfl, ⟨m, bo, bl, D2', D1', _, _, _, _, _, _, _, _, _, _, _, _, _, _, _, _, _, _, _, _, _, _, _, _, _, _, _, _, _, _, _, _, _, _, _, _, _, _, _, _, _, _, _, _, _, _, _, _, _, _, _, _, _, _, _, _, _, _, _, _, _, _, _, _, _, _, _, _, _, _, _, _, _, rfl, ⟨by omega, by have := HJ.out.hb; omega, o2', m2'.congr (fun k _ => by rw [HDR2.out]), o1', m1', HJ.out.kp.trans k', HJ.out.bl.trans b'⟩⟩, ?_⟩
      simp [intOf] <;> omega
    · obtain rfl : h = 0 := by omega
      have zz : ¬ (0 : Int) < ((0 : Nat) : Int) := by simp
      have HRND := Lib.hid (fun (Y : World) => (by have q := Try.isRoundE (n + 1) ring Y; rwa [Int.natCast_add] at q : Calls Try.prog 58 #[.int .i64 ((n : Int) + 1), .bool ring] Y fun e w' => e = .returned (.bool (ring && decide (3 ≤ n + 1))) ∧ Gr Y w'))
      have hWB := fun x hx => ways_bd fits oss (fun q hq o ho => (HB.out q hq).ob o ho) x hx
      have HWB := Lib.hid (show ∀ x ∈ Rl.ways fits oss, inK (x.f, x.l) from fun x hx => ⟨(hWB x hx).f, (hWB x hx).l⟩)
      have HLEB := Lib.hid (fun R DD l e => LE_le (fits := fits) (r := oss) HLN.out.2 (fun q hq => (HB.out q hq).len) (fun q hq => (HB.out q hq).ob) R DD l e)
      have HTLE := Lib.hid (fun k l e => T_le (fits := fits) (r := oss) HLN.out.2 (fun q hq => (HB.out q hq).len) (fun q hq => (HB.out q hq).ob) k l e)
      have hm0 := HJ.out.m1
      rw [List.drop_zero] at hm0
      have HM0 := Lib.hid hm0
      have hown := HJ.out.o1
      obtain ⟨q, hq⟩ : ∃ q, X.heap.size = q := ⟨_, rfl⟩
      have HQ := Lib.hid hq
      clear hWB hm0
      go_upto_region 13 with fail
      obtain ⟨XA, hXA⟩ : ∃ XA, X.alloc (.cells #[.int .i64 0, .int .i64 0, .slice none 0 0] 46) = XA := ⟨_, rfl⟩
      have gXA : Gr X XA := by rw [← hXA]; exact Gr.alloc (Gr.refl _) _
      have hbx : XA.heap[q]? = some (Obj.cells #[.int .i64 0, .int .i64 0, .slice none 0 0] 46 (0, 0)) := by rw [← hXA, ← hq]; exact heap_alloc_new X _
      have szA : XA.heap.size = q + 1 := by rw [← hXA, ← hq]; simp
      have hownA := hown.kept (gXA.grownBy none) (by simp)
      have hbl := hown.lt
      have HBXA := Lib.hid hbx
      have HGA := Lib.hid gXA
      have HSA := Lib.hid szA
      simp only [hXA, hq]
      clear hbx gXA szA hXA hown
      go_wp2_with (first
        | (at_range; refine wpList_range_own _ rfl _ 70 rfl 73 46 Try.eLaw Try.underlying70 _ bl 64 D rfl hownA ?_; intro w0 hrg0 hg0 hs0)
        | go_in)
      try go_frame
      obtain ⟨r, hr⟩ : ∃ r, XA.heap.size = r := ⟨_, rfl⟩
      rw [hr] at hrg0
      have hrq : r = q + 1 := by rw [← hr]; exact HSA.out
      have hblq : bl < q := by rw [← hq]; exact hbl
      have hwq : w.heap.size + 1 ≤ q := by rw [← hq]; exact HSX.out
      have hwb : w.heap.size < bl := by have := HJ.out.hb; omega
      try simp only [hr]
      have HE0 := Lib.hid (show Try.EnR bl r q w.heap.size (rnd fits (n + 1) ring) (Rl.ways fits oss) w X w0 (Maps.has D) (Maps.size D) D from by
        have K0 : Kp X w0 := (Gr.kp HGA.out).trans (none_kp hg0)
        refine ⟨hrg0, HM0.out.kp K0, ⟨0, 0, none, 0, 0, (none_kp hg0).blk _ _ _ _ HBXA.out, ?_⟩, fun _ h => h, K0, ?_⟩
        · have e : Rl.LE (rnd fits (n + 1) ring) (Rl.ways fits oss) (fun k => !Maps.has D (kle k)) = none := by
            rw [← LE_none (rnd fits (n + 1) ring) (Rl.ways fits oss)]
            refine LE_congr _ _ _ _ fun x hx => ?_
            rw [HM0.out.has _ (HWB.out x hx)]
            cases e : T (Rl.ways fits oss) (x.f, x.l)
            · exact absurd rfl ((T_none _ _).1 e x hx)
            · rfl
          rw [e]
          rfl
        · exact HJ.out.bl.trans ((HGA.out.below.mono (by omega)).trans ⟨hg0.os, hg0.tape, hg0.output, hg0.size, fun i hi => hg0.block i (by have := HSA.out; omega) (by simp)⟩))
      have hqr : q < r := by omega
      clear hrg0 hg0 hs0 hownA hr hbl hrq hq
      go_loopw [14] (fun _ wr => ∃ left cnt D, Try.EnR bl r q w.heap.size (rnd fits (n + 1) ring) (Rl.ways fits oss) w X wr left cnt D) (fun _ wr => wr.rangeLeft bl r)
      case atStart => exact ⟨_, _, _, HE0.out⟩
      case round =>
        obtain ⟨left, cnt, D, hE⟩ := hrel
        have HE := Lib.hid hE
        have hrg := hE.rg
        clear hE
        go_wp2_with (first
          | (at_next; refine wpList_next_ranges _ rfl _ rfl 73 Try.eLaw lElem (fun v : Value => v) (fun v : Value => v) (fun key kl _ => ⟨key, rfl⟩) (fun v y _ => ⟨v, rfl⟩) bl r 64 _ _ _ rfl hrg ?_ ?_)
          | go_in)
        · intro _ hl0
          have hEQ : Rl.LE (rnd fits (n + 1) ring) (Rl.ways fits oss) (fun k => !left (kle k)) = leastE fits oss ring := by
            unfold leastE
            rw [HN.out]
            exact LE_congr _ _ _ _ fun x _ => by rw [hl0]; rfl
          obtain ⟨bc, bn, bA, bm, bk, hbx, hbv⟩ := HE.out.bx
          rw [hEQ] at hbv
          have hpn : decide (0 < bn) = (leastE fits oss ring).isSome := by
            cases he : leastE fits oss ring with
            | none =>
              rw [he] at hbv
              unfold LeV at hbv
              simp at hbv
              rw [hbv.2.1]; rfl
            | some l =>
              rw [he] at hbv
              obtain ⟨s, hs, _⟩ := hbv
              simp at hs
              have := (HLEB.out _ _ l (by unfold leastE at he; exact he)).n0
              have hq2 : bn = l.count := Int.ofNat.inj hs.2.1
              rw [hq2]
              simp; omega
          have HBV := Lib.hid hbv
          have HBX := Lib.hid hbx
          have hKW : Kp W0 wr := HJ.out.kp.trans HE.out.kp
          have hb0 : W0.heap[w.heap.size]? = some (Obj.cells #[.int .i64 0, .int .i64 0, .slice none 0 0] 46 (0, 0)) := by rw [← HW0.out]; exact heap_alloc_new w _
          have hbr := hKW.blk _ _ _ _ hb0
          have HBR := Lib.hid hbr
          have r0 : wr.cell? ⟨w.heap.size, 0, none⟩ = some (.int .i64 0) := by rw [blk_cell hbr]; rfl
          have r1 : wr.cell? ⟨w.heap.size, 1, none⟩ = some (.int .i64 0) := by rw [blk_cell hbr]; rfl
          have r2 : wr.cell? ⟨w.heap.size, 2, none⟩ = some (.slice none 0 0) := by rw [blk_cell hbr]; rfl
          have f0 := blk_frz hbr 0
          have f1 := blk_frz hbr 1
          have f2 := blk_frz hbr 2
          have c0 : wr.cell? ⟨q, 0, none⟩ = some (.int .i64 bc) := by rw [blk_cell hbx]; rfl
          have c1 : wr.cell? ⟨q, 1, none⟩ = some (.int .i64 bn) := by rw [blk_cell hbx]; rfl
          have c2 : wr.cell? ⟨q, 2, none⟩ = some (.slice bA bm bk) := by rw [blk_cell hbx]; rfl
          have HS := Lib.hid (show S3 q (.int .i64 bc) (.int .i64 bn) (.slice bA bm bk) wr from ⟨c0, c1, c2⟩)
          have HWQ := Lib.hid (show w.heap.size < q by omega)
          have HRR := Lib.hid (And.intro r0 (And.intro r1 r2))
          have HPN := Lib.hid hpn
          clear hrg hl0 hbv hbx hEQ hKW hb0 hbr hpn
          go_wp2_with fail
          go_region_held3 (fun W' => W'.cell? ⟨q, 0, none⟩ = some (.int .i64 bc) ∧ W'.cell? ⟨q, 1, none⟩ = some (.int .i64 bn) ∧ W'.cell? ⟨q, 2, none⟩ = some (.slice bA bm bk))
            (repeat' (first | exact HS.out | refine S3.drew ?_ | refine S3.set ?_ HWQ.out _))
            (fail)
          obtain ⟨u0, u1, u2⟩ := three_set r0 r1 r2 (.int .i64 bc) (.int .i64 bn) (.slice bA bm bk)
          have hT : (46 : TypeId) ≠ 3 := by decide
          clear c0 c1 c2 r0 r1 r2 f0 f1 f2
          go_wp2
          simp only [Exit.jump]
          refine bodyPost_ret (v := .tuple #[.agg #[.int .i64 bc, .int .i64 bn, .slice bA bm bk], .bool (leastE fits oss ring).isSome]) ?_ rfl ⟨_, rfl, ?_, ?_⟩
          · rw [← HPN.out]
            simp [results, Try.results48, go_sem, u0, u1, u2]
          · exact (HBV.out.kq (kq_box3 _ _ _) HBR.out hT).kp (Gr.kp (Gr.drew (Gr.refl _)))
          · exact Below.drew (below_box3 HE.out.bl (Nat.le_refl _) _ _ _)
        · intro x v kl d y2 w1 cnt1 hkey hlk hv hat hrg1 hlt hg1 hs1 hen
          obtain ⟨k, hk, rfl⟩ := HE.out.m.only kl (HE.out.sub kl hlk)
          obtain rfl : x = keyE k := Try.eLaw.inj hkey (Try.keyOfE k (inK_wf hk))
          obtain ⟨l, hTl⟩ : ∃ l, T (Rl.ways fits oss) k = some l := by
            have h := HE.out.m.has k hk
            rw [HE.out.sub _ hlk] at h
            cases e : T (Rl.ways fits oss) k with
            | none => rw [e] at h; cases h
            | some l => exact ⟨l, rfl⟩
          obtain ⟨v0, d0, hv0, hat0, hle⟩ := HE.out.m.val k l hk hTl
          obtain rfl : d = d0 := (hat (.agg [])).symm.trans (hat0 (.agg []))
          obtain rfl : v = v0 := lElem_inj hv hv0
          have hk1 : Kp wr w1 := grown_kp hg1 (rg_iter hrg)
          have hle1 := hle.kp hk1
          obtain ⟨s, rfl, hown⟩ := hle1
          obtain ⟨As, cs, rfl⟩ := hown.form
          have HLB := Lib.hid (HTLE.out k l hTl)
          have HMS := Lib.hid (show wr.rangeLeft bl r = cnt from hrg.left_eq)
          have HK1 := Lib.hid hk1
          have HG1 := Lib.hid hg1
          have HS1 := Lib.hid hs1
          have HRG1 := Lib.hid hrg1
          have HLT := Lib.hid hlt
          have HTL := Lib.hid hTl
          have HKK := Lib.hid hk
          have HOW := Lib.hid hown
          have HST := Lib.hid (show Rl.LE (rnd fits (n + 1) ring) (Rl.ways fits oss) (fun q => !(left (kle q) && !(kle q).sameKey (kle k))) = if rnd fits (n + 1) ring k = true then orL (Rl.LE (rnd fits (n + 1) ring) (Rl.ways fits oss) (fun q => !left (kle q))) (T (Rl.ways fits oss) k) else Rl.LE (rnd fits (n + 1) ring) (Rl.ways fits oss) (fun q => !left (kle q)) from by
            rw [← LE_step _ _ (fun q => !left (kle q)) k (by simp [hlk])]
            refine LE_congr _ _ _ _ fun x hx => ?_
            rw [Try.same_kle (HWB.out x hx) hk]
            cases left (kle (x.f, x.l)) <;> cases ((x.f, x.l) == k) <;> rfl)
          clear hkey hv hat hv0 hat0 hle hown hg1 hs1 hrg1 hlt hrg hk1 hlk
          unfold keyE at hen
          obtain ⟨ka, kb⟩ := k
          obtain ⟨lc, ln, lf⟩ := l
          simp only at hen HOW ⊢
          obtain ⟨bc, bn, bA, bm, bk, hbx, hbv⟩ := HE.out.bx
          have HBX := Lib.hid (And.intro hbx hbv)
          clear hbx hbv
          go_upto_region 16 with fail
          obtain ⟨p, hp⟩ : ∃ p, w1.heap.size = p := ⟨_, rfl⟩
          obtain ⟨wk, hwk⟩ : ∃ wk, (w1.alloc (.cells #[.int .i64 ka, .int .i64 kb] 73)).alloc (.cells #[.int .i64 lc, .int .i64 (ln : Nat), .slice As lf.length cs] 46) = wk := ⟨_, rfl⟩
          have gK : Gr w1 wk := by rw [← hwk]; exact Gr.alloc (Gr.alloc (Gr.refl _) _) _
          have x0 : wk.cell? ⟨p, 0, none⟩ = some (.int .i64 ka) := by rw [← hwk, ← hp]; simp [go_sem]
          have x1 : wk.cell? ⟨p, 1, none⟩ = some (.int .i64 kb) := by rw [← hwk, ← hp]; simp [go_sem]
          have x2 : wk.cell? ⟨p + 1, 0, none⟩ = some (.int .i64 lc) := by rw [← hwk, ← hp]; simp [go_sem]
          have x3 : wk.cell? ⟨p + 1, 1, none⟩ = some (.int .i64 (ln : Nat)) := by rw [← hwk, ← hp]; simp [go_sem]
          have x4 : wk.cell? ⟨p + 1, 2, none⟩ = some (.slice As lf.length cs) := by rw [← hwk, ← hp]; simp [go_sem]
          have HX := Lib.hid (And.intro (And.intro x0 x1) (And.intro x2 (And.intro x3 x4)))
          have HGK := Lib.hid gK
          have HPP := Lib.hid hp
          have KRK := Lib.hid (HK1.out.trans (Gr.kp gK))
          simp only [hp, hwk]
          clear x0 x1 x2 x3 x4 gK hwk hp hen
          have hrr : rnd fits (n + 1) ring (ka, kb) = (!(ring && decide (3 ≤ n + 1)) || fits kb ka) := rfl
          have HFF := Lib.hid (fun Y => HF.out Y kb ka)
          cases hring : (ring && decide (3 ≤ n + 1))
          · have hR : rnd fits (n + 1) ring (ka, kb) = true := by rw [hrr, hring]; rfl
            rw [hring] at HRND
            clear hring hrr
            go_upto_region 17 with (go_at_call 58; refine (HRND.out _).mono ?_; rintro e wY ⟨rfl, gY⟩)
            have KY : Kp wr wY := KRK.out.trans (Gr.kp gY)
            have hszY := KY.size
            have HBQ := Lib.hid (show wY.heap[q]? = some (Obj.cells #[.int .i64 bc, .int .i64 bn, .slice bA bm bk] 46 (0, 0)) from KY.blk _ _ _ _ HBX.out.1)
            have c0 : wY.cell? ⟨q, 0, none⟩ = some (.int .i64 bc) := by rw [blk_cell HBQ.out]; rfl
            have c1 : wY.cell? ⟨q, 1, none⟩ = some (.int .i64 bn) := by rw [blk_cell HBQ.out]; rfl
            have c2 : wY.cell? ⟨q, 2, none⟩ = some (.slice bA bm bk) := by rw [blk_cell HBQ.out]; rfl
            have d0 := gY.keep0 HX.out.2.1
            have d1 := gY.keep0 HX.out.2.2.1
            have d2 := gY.keep0 HX.out.2.2.2
            have HOR := Lib.hid (Try.orB wY w.heap.size (.agg #[.int .i64 bc, .int .i64 bn, .slice bA bm bk]) (.agg #[.int .i64 lc, .int .i64 (ln : Nat), .slice As lf.length cs]) (Rl.LE (rnd fits (n + 1) ring) (Rl.ways fits oss) (fun k => !left (kle k))) (some ⟨lc, ln, lf⟩) (by have := HE.out.bl.size; omega) (HBX.out.2.kp KY) ⟨_, rfl, (Gr.kp (HGK.out.trans gY)).own HOW.out⟩ (fun x hx => HLEB.out _ _ x hx) (fun x hx => by cases hx; exact HLB.out))
            have HKY := Lib.hid KY
            have HGY := Lib.hid gY
            clear gY KY
            go_wp2_with (go_at_call 59; refine HOR.out.mono ?_; rintro e w6 ⟨v6, rfl, hle6, hb6⟩; obtain ⟨c6, n6, A6, m6, k6, rfl⟩ := hle6.form; have hbq6 := (below_kp hb6).blk _ _ _ _ HBQ.out; have HBQ6 := Lib.hid hbq6; have e0 : w6.cell? ⟨q, 0, none⟩ = some (.int .i64 bc) := (by rw [blk_cell hbq6]; rfl); have e1 : w6.cell? ⟨q, 1, none⟩ = some (.int .i64 bn) := (by rw [blk_cell hbq6]; rfl); have e2 : w6.cell? ⟨q, 2, none⟩ = some (.slice bA bm bk) := (by rw [blk_cell hbq6]; rfl); have f0 := blk_frz hbq6 0; have f1 := blk_frz hbq6 1; have f2 := blk_frz hbq6 2; have HL6 := Lib.hid hle6; have HB6 := Lib.hid hb6; clear hbq6)
            have hql : q < w6.heap.size := World.block_lt_of_cell? _ _ e0
            obtain ⟨w7, hw7⟩ : ∃ w7, ((w6.setCell ⟨q, 0, none⟩ (.int .i64 c6)).setCell ⟨q, 1, none⟩ (.int .i64 n6)).setCell ⟨q, 2, none⟩ (.slice A6 m6 k6) = w7 := ⟨_, rfl⟩
            have hk7 : Kq q w6 w7 := by rw [← hw7]; exact kq_box3 _ _ _
            have hg7 : w6.grownBy w7 (some q) := by rw [← hw7]; exact grownBy_set (grownBy_set (grownBy_set (World.grownBy.refl w6 (some q))))
            have hb7 : w7.heap[q]? = some (Obj.cells #[.int .i64 c6, .int .i64 n6, .slice A6 m6 k6] 46 (0, 0)) := by rw [← hw7]; exact box3_blk HBQ6.out
            have hT : (46 : TypeId) ≠ 3 := by decide
            have K6 : Kp wr w6 := HKY.out.trans (below_kp HB6.out)
            have HN7 := Lib.hid (show Try.EnR bl r q w.heap.size (rnd fits (n + 1) ring) (Rl.ways fits oss) w X w7 (fun z => left z && !z.sameKey (kle (ka, kb))) cnt1 D from by
              refine ⟨?_, (HE.out.m.kp K6).kq hk7 HBQ6.out hT, ⟨c6, n6, A6, m6, k6, hb7, ?_⟩, ?_, ?_, ?_⟩
              · exact (((HRG1.out.kept (HGK.out.grownBy none) (by simp) (by simp)).kept (Gr.grownBy HGY.out none) (by simp) (by simp)).kept (below_grown HB6.out none) (by simp) (by simp)).kept hg7 (fun e => by have := Option.some.inj e; omega) (fun e => by have := Option.some.inj e; omega)
              · rw [HST.out, if_pos hR, HTL.out]
                exact HL6.out.kq hk7 HBQ6.out hT
              · intro kl h
                simp only [Bool.and_eq_true] at h
                exact HE.out.sub kl h.1
              · have kx := HE.out.kp.trans K6
                exact ⟨Nat.le_trans kx.size hg7.size, fun k c t fz e => hk7.blk _ _ _ _ (fun h => by have := (Array.getElem?_eq_some_iff.1 e).1; have := HQ.out; omega) (kx.blk _ _ _ _ e)⟩
              · have q1 : Below w.heap.size wr w1 := ⟨HG1.out.os, HG1.out.tape, HG1.out.output, HG1.out.size, fun k hk => HG1.out.block k (by have := HE.out.bl.size; omega) (fun e => by have := Option.some.inj e; omega)⟩
                have q2 : Below w.heap.size w1 wY := (HGK.out.trans HGY.out).below.mono (by have := HE.out.bl.size; have := HS1.out; omega)
                have q3 := HB6.out.mono (show w.heap.size ≤ wY.heap.size by have := HE.out.bl.size; omega)
                exact Below.grown (HE.out.bl.trans (q1.trans (q2.trans q3))) hg7 (by have := HE.out.bl.size; have := HB6.out.size; omega) (fun j e => by cases e; omega))
            simp only [hw7]
            clear hk7 hg7 hb7 hw7 K6 e0 e1 e2 f0 f1 f2 c0 c1 c2 d0 d1 d2
            go_wp2_with fail
            go_roundw
            case rel => exact ⟨_, _, _, HN7.out⟩
            case measure => rw [HN7.out.rg.left_eq, HMS.out]; exact HLT.out
          · rw [hring] at HRND
            cases hfit : fits kb ka
            · have hR : rnd fits (n + 1) ring (ka, kb) = false := by rw [hrr, hring, hfit]; rfl
              rw [hfit] at HFF
              clear hring hrr hfit
              go_wp2_with (first | (go_at_call 58; refine (HRND.out _).mono ?_; rintro e wI ⟨rfl, gI⟩; have y0 := gI.keep0 HX.out.1.1; have y1 := gI.keep0 HX.out.1.2) | (go_at_fn fg; refine (HFF.out _).mono ?_; rintro e wY ⟨rfl, gZ⟩))
              have gY : Gr wk wY := gI.trans gZ
              have KY : Kp wr wY := KRK.out.trans (Gr.kp gY)
              have HN7 := Lib.hid (show Try.EnR bl r q w.heap.size (rnd fits (n + 1) ring) (Rl.ways fits oss) w X wY (fun z => left z && !z.sameKey (kle (ka, kb))) cnt1 D from by
                refine ⟨?_, HE.out.m.kp KY, ⟨bc, bn, bA, bm, bk, KY.blk _ _ _ _ HBX.out.1, ?_⟩, ?_, HE.out.kp.trans KY, ?_⟩
                · exact (HRG1.out.kept (HGK.out.grownBy none) (by simp) (by simp)).kept (Gr.grownBy gY none) (by simp) (by simp)
                · rw [HST.out, if_neg (by rw [hR]; decide)]
                  exact HBX.out.2.kp KY
                · intro kl h
                  simp only [Bool.and_eq_true] at h
                  exact HE.out.sub kl h.1
                · have q1 : Below w.heap.size wr w1 := ⟨HG1.out.os, HG1.out.tape, HG1.out.output, HG1.out.size, fun k hk => HG1.out.block k (by have := HE.out.bl.size; omega) (fun e => by have := Option.some.inj e; omega)⟩
                  have q2 : Below w.heap.size w1 wY := (HGK.out.trans gY).below.mono (by have := HE.out.bl.size; have := HS1.out; omega)
                  exact HE.out.bl.trans (q1.trans q2))
              go_roundw
              case rel => exact ⟨_, _, _, HN7.out⟩
              case measure => rw [HN7.out.rg.left_eq, HMS.out]; exact HLT.out
            · have hR : rnd fits (n + 1) ring (ka, kb) = true := by rw [hrr, hring, hfit]; rfl
              rw [hfit] at HFF
              clear hring hrr hfit
              go_upto_region 17 with (first | (go_at_call 58; refine (HRND.out _).mono ?_; rintro e wI ⟨rfl, gI⟩; have y0 := gI.keep0 HX.out.1.1; have y1 := gI.keep0 HX.out.1.2) | (go_at_fn fg; refine (HFF.out _).mono ?_; rintro e wY ⟨rfl, gZ⟩))
              have gY : Gr wk wY := gI.trans gZ
              have KY : Kp wr wY := KRK.out.trans (Gr.kp gY)
              clear gI gZ y0 y1
              have hszY := KY.size
              have HBQ := Lib.hid (show wY.heap[q]? = some (Obj.cells #[.int .i64 bc, .int .i64 bn, .slice bA bm bk] 46 (0, 0)) from KY.blk _ _ _ _ HBX.out.1)
              have c0 : wY.cell? ⟨q, 0, none⟩ = some (.int .i64 bc) := by rw [blk_cell HBQ.out]; rfl
              have c1 : wY.cell? ⟨q, 1, none⟩ = some (.int .i64 bn) := by rw [blk_cell HBQ.out]; rfl
              have c2 : wY.cell? ⟨q, 2, none⟩ = some (.slice bA bm bk) := by rw [blk_cell HBQ.out]; rfl
              have d0 := gY.keep0 HX.out.2.1
              have d1 := gY.keep0 HX.out.2.2.1
              have d2 := gY.keep0 HX.out.2.2.2
              have HOR := Lib.hid (Try.orB wY w.heap.size (.agg #[.int .i64 bc, .int .i64 bn, .slice bA bm bk]) (.agg #[.int .i64 lc, .int .i64 (ln : Nat), .slice As lf.length cs]) (Rl.LE (rnd fits (n + 1) ring) (Rl.ways fits oss) (fun k => !left (kle k))) (some ⟨lc, ln, lf⟩) (by have := HE.out.bl.size; omega) (HBX.out.2.kp KY) ⟨_, rfl, (Gr.kp (HGK.out.trans gY)).own HOW.out⟩ (fun x hx => HLEB.out _ _ x hx) (fun x hx => by cases hx; exact HLB.out))
              have HKY := Lib.hid KY
              have HGY := Lib.hid gY
              clear gY KY
              go_wp2_with (go_at_call 59; refine HOR.out.mono ?_; rintro e w6 ⟨v6, rfl, hle6, hb6⟩; obtain ⟨c6, n6, A6, m6, k6, rfl⟩ := hle6.form; have hbq6 := (below_kp hb6).blk _ _ _ _ HBQ.out; have HBQ6 := Lib.hid hbq6; have e0 : w6.cell? ⟨q, 0, none⟩ = some (.int .i64 bc) := (by rw [blk_cell hbq6]; rfl); have e1 : w6.cell? ⟨q, 1, none⟩ = some (.int .i64 bn) := (by rw [blk_cell hbq6]; rfl); have e2 : w6.cell? ⟨q, 2, none⟩ = some (.slice bA bm bk) := (by rw [blk_cell hbq6]; rfl); have f0 := blk_frz hbq6 0; have f1 := blk_frz hbq6 1; have f2 := blk_frz hbq6 2; have HL6 := Lib.hid hle6; have HB6 := Lib.hid hb6; clear hbq6)
              have hql : q < w6.heap.size := World.block_lt_of_cell? _ _ e0
              obtain ⟨w7, hw7⟩ : ∃ w7, ((w6.setCell ⟨q, 0, none⟩ (.int .i64 c6)).setCell ⟨q, 1, none⟩ (.int .i64 n6)).setCell ⟨q, 2, none⟩ (.slice A6 m6 k6) = w7 := ⟨_, rfl⟩
              have hk7 : Kq q w6 w7 := by rw [← hw7]; exact kq_box3 _ _ _
              have hg7 : w6.grownBy w7 (some q) := by rw [← hw7]; exact grownBy_set (grownBy_set (grownBy_set (World.grownBy.refl w6 (some q))))
              have hb7 : w7.heap[q]? = some (Obj.cells #[.int .i64 c6, .int .i64 n6, .slice A6 m6 k6] 46 (0, 0)) := by rw [← hw7]; exact box3_blk HBQ6.out
              have hT : (46 : TypeId) ≠ 3 := by decide
              have K6 : Kp wr w6 := HKY.out.trans (below_kp HB6.out)
              have HN7 := Lib.hid (show Try.EnR bl r q w.heap.size (rnd fits (n + 1) ring) (Rl.ways fits oss) w X w7 (fun z => left z && !z.sameKey (kle (ka, kb))) cnt1 D from by
                refine ⟨?_, (HE.out.m.kp K6).kq hk7 HBQ6.out hT, ⟨c6, n6, A6, m6, k6, hb7, ?_⟩, ?_, ?_, ?_⟩
                · exact (((HRG1.out.kept (HGK.out.grownBy none) (by simp) (by simp)).kept (Gr.grownBy HGY.out none) (by simp) (by simp)).kept (below_grown HB6.out none) (by simp) (by simp)).kept hg7 (fun e => by have := Option.some.inj e; omega) (fun e => by have := Option.some.inj e; omega)
                · rw [HST.out, if_pos hR, HTL.out]
                  exact HL6.out.kq hk7 HBQ6.out hT
                · intro kl h
                  simp only [Bool.and_eq_true] at h
                  exact HE.out.sub kl h.1
                · have kx := HE.out.kp.trans K6
                  exact ⟨Nat.le_trans kx.size hg7.size, fun k c t fz e => hk7.blk _ _ _ _ (fun h => by have := (Array.getElem?_eq_some_iff.1 e).1; have := HQ.out; omega) (kx.blk _ _ _ _ e)⟩
                · have q1 : Below w.heap.size wr w1 := ⟨HG1.out.os, HG1.out.tape, HG1.out.output, HG1.out.size, fun k hk => HG1.out.block k (by have := HE.out.bl.size; omega) (fun e => by have := Option.some.inj e; omega)⟩
                  have q2 : Below w.heap.size w1 wY := (HGK.out.trans HGY.out).below.mono (by have := HE.out.bl.size; have := HS1.out; omega)
                  have q3 := HB6.out.mono (show w.heap.size ≤ wY.heap.size by have := HE.out.bl.size; omega)
                  exact Below.grown (HE.out.bl.trans (q1.trans (q2.trans q3))) hg7 (by have := HE.out.bl.size; have := HB6.out.size; omega) (fun j e => by cases e; omega))
              simp only [hw7]
              clear hk7 hg7 hb7 hw7 K6 e0 e1 e2 f0 f1 f2 c0 c1 c2 d0 d1 d2
              go_wp2_with fail
              go_roundw
              case rel => exact ⟨_, _, _, HN7.out⟩
              case measure => rw [HN7.out.rg.left_eq, HMS.out]; exact HLT.out
  · intro hpass
    have HP := Lib.hid hpass
    clear hpass
    go_upto_region 3 with fail
    obtain ⟨W1, hW1⟩ : ∃ W, (W0.alloc (.map #[] 0)).alloc (.map #[] 0) = W := ⟨_, rfl⟩
    have g1 : Gr W0 W1 := by rw [← hW1]; exact Gr.alloc (Gr.alloc (Gr.refl _) _) _
    have o1 : W1.ownsMap Try.prog 73 lElem (w.heap.size + 1) 64 (.map [] : DataW Unit) := by
      rw [← hW1, ← sz0]
      exact ((World.ownsMap_made W0 Try.prog 73 lElem).alloc _).mono (by omega)
    have o2 : W1.ownsMap Try.prog 73 lElem (w.heap.size + 2) 64 (.map [] : DataW Unit) := by
      rw [← hW1, show w.heap.size + 2 = (W0.alloc (.map #[] 0)).heap.size by simp; omega]
      exact (World.ownsMap_made _ Try.prog 73 lElem).mono (by omega)
    have HO1 := Lib.hid o1
    have HO2 := Lib.hid o2
    have HG1 := Lib.hid g1
    have hu1 := g1.keep0 hu0
    have sz1 : W1.heap.size = w.heap.size + 3 := by rw [← hW1]; simp; omega
    have HS1 := Lib.hid sz1
    have e1 : W0.heap.size = w.heap.size + 1 := sz0
    simp only [hW1]
    clear o1 o2 g1 hW1 hu0 hu sz1
    go_wp2_with fail
    have HKW := Lib.hid (show Kp w W1 from (Gr.kp HG0.out).trans (Gr.kp HG1.out))
    clear hu1
    have hol8 := HOS.out.len
    go_loopw [26] (fun iv wr => ∃ (i : Nat) (D : DataW Unit), iv = .int .i64 i ∧ i ≤ os.length ∧ Try.FsR (w.heap.size + 1) w.heap.size os W1 wr i D) (fun i _ => os.length - (intOf i).toNat)
    case atStart => exact ⟨0, .map [], rfl, Nat.zero_le _, HO1.out, (MapL.empty _ _).congr (fun k _ => by simp [T, agg]), HO2.out, Kp.refl _, Below.refl _ _⟩
    case round =>
      obtain ⟨i, D, rfl, hi, hI⟩ := hrel
      have HI := Lib.hid hI
      have KALL := Lib.hid (HKW.out.trans hI.kp)
      have hszr : w.heap.size + 3 ≤ wr.heap.size := by have := hI.kp.size; have := HS1.out; omega
      clear hI
      by_cases hlt : i < os.length
      · obtain ⟨o, hoi⟩ : ∃ o, os[i]? = some o := ⟨os[i], List.getElem?_eq_getElem hlt⟩
        obtain ⟨g2, t, rfl, c0, c1, c2, ht⟩ := HOPT.out i o hoi
        obtain ⟨At, ct, rfl⟩ := ht.form
        have d0 := KALL.out.cell c0
        have d1 := KALL.out.cell c1
        have d2 := KALL.out.cell c2
        have HT := Lib.hid (KALL.out.own ht)
        have hmem : o ∈ os := List.mem_of_getElem? hoi
        have HOB := Lib.hid (HOS.out.ob o hmem)
        have hgi : os[i] = o := by rw [List.getElem?_eq_getElem hlt] at hoi; exact Option.some.inj hoi
        have HSN := Lib.hid (show ∀ k, T ((os.take (i + 1)).map Op.wy) k = if k = (o.st, o.st) then some ⟨o.cost, 1, o.tells⟩ else T ((os.take i).map Op.wy) k from fun k => by
          rw [List.take_succ_eq_append_getElem hlt, hgi]
          exact T_snoc _ o (fun b hb => by
            rw [List.mem_take_iff_getElem] at hb
            obtain ⟨j, hj, rfl⟩ := hb
            have := List.pairwise_iff_getElem.1 HOS.out.dif j i (by omega) hlt (by omega)
            rw [hgi] at this
            exact this) k)
        have z2 : (0 : Int) ≤ (i : Int) := by omega
        have z3 : (i : Int) < (os.length : Int) := by omega
        clear c0 c1 c2 ht hmem hoi hgi
        obtain ⟨os0, oc0, ot0⟩ := o
        simp only at d0 d1 d2 HT HSN HOB ⊢
        go_upto_region 6 with fail
        obtain ⟨q, hq⟩ : ∃ q, wr.heap.size = q := ⟨_, rfl⟩
        obtain ⟨X, hX⟩ : ∃ X, wr.alloc (.cells #[.int .i64 os0, .int .i64 oc0, .slice At ot0.length ct] 63) = X := ⟨_, rfl⟩
        have gX : Gr wr X := by rw [← hX]; exact Gr.alloc (Gr.refl _) _
        have s0 : X.cell? ⟨q, 0, none⟩ = some (.int .i64 os0) := by rw [← hX, ← hq]; simp [go_sem]
        have s1 : X.cell? ⟨q, 1, none⟩ = some (.int .i64 oc0) := by rw [← hX, ← hq]; simp [go_sem]
        have s2 : X.cell? ⟨q, 2, none⟩ = some (.slice At ot0.length ct) := by rw [← hX, ← hq]; simp [go_sem]
        have HSX := Lib.hid (show S3 q (.int .i64 os0) (.int .i64 oc0) (.slice At ot0.length ct) X from ⟨s0, s1, s2⟩)
        have HGX := Lib.hid gX
        have HTX := Lib.hid ((Gr.kp gX).own HT.out)
        have HOX := Lib.hid (HI.out.o1.kept (gX.grownBy none) (by simp))
        have HKE := Lib.hid (show inK (os0, os0) from ⟨HOB.out.st, HOB.out.st⟩)
        have HXS := Lib.hid (show w.heap.size + 3 ≤ X.heap.size by have := gX.below.size; omega)
        simp only [hq, hX]
        clear d0 d1 d2 hX gX hq hszr
        go_region_held3 (fun W' => W'.cell? ⟨q, 0, none⟩ = some (.int .i64 os0) ∧ W'.cell? ⟨q, 1, none⟩ = some (.int .i64 oc0) ∧ W'.cell? ⟨q, 2, none⟩ = some (.slice At ot0.length ct))
          (repeat' (first | exact HSX.out | exact HS4.out | exact HS6.out | refine S3.drew ?_))
          (first
            | (go_at_call 56; go_loud (refine (Try.behind _ w.heap.size B' (.slice none 0 0) _ ⟨0, 1, []⟩ ⟨by decide, by decide, by decide, by decide, by decide⟩ ⟨os0, oc0, ot0⟩ ⟨show -100000 ≤ oc0 by have := HOB.out.c0; simp only at this; omega, show oc0 ≤ 100000 by have := HOB.out.c1; simp only at this; omega⟩ HOB.out.tl (OwnI.nil2 _ _) (HTX.out.gr (by repeat (first | exact Gr.refl _ | refine Gr.alloc ?_ _ | refine Gr.trans ?_ (by assumption) | refine Gr.drew ?_ | refine Gr.drewN ?_ _ | refine Gr.grow ?_ _ | refine Gr.setCell ?_ (by (try simp); (try omega)) _)))).mono ?_); rintro e w4 ⟨v4, rfl, hle4, hb4⟩; obtain ⟨c4, n4, A4, m4, k4, rfl⟩ := hle4.form; have hB4 : Below X.heap.size X w4 := Below.trans (Gr.below (show Gr X _ from (by repeat (first | exact Gr.refl _ | refine Gr.alloc ?_ _ | refine Gr.trans ?_ (by assumption) | refine Gr.drew ?_ | refine Gr.drewN ?_ _ | refine Gr.grow ?_ _ | refine Gr.setCell ?_ (by (try simp); (try omega)) _)))) (hb4.mono (by simp)); have HS4 := Lib.hid (HSX.out.kp (below_kp hB4)); obtain ⟨d4, hd4⟩ := hle4.elem (H := Unit); obtain ⟨w6, hrun6, ho6, ht6⟩ := World.ownsMap.store (HOX.out.kept (below_grown hB4 none) (by simp)) Try.eLaw Try.underlying70 (by unfold maxLen; omega) (show keyOf Try.prog 73 (.agg #[.int .i64 os0, .int .i64 os0]) = some (kle (os0, os0)) from Try.keyOfE (os0, os0) (inK_wf HKE.out)) hd4; have HS6 := Lib.hid (HS4.out.kp (turned_kp ht6)); have HB4 := Lib.hid hB4; have HL4 := Lib.hid (LeV.mono hle4 (show w.heap.size ≤ _ by have := HXS.out; simp; omega)); have HD4 := Lib.hid hd4))
        all_goals
          have K6 : Kp wr w6 := (Gr.kp HGX.out).trans ((below_kp HB4.out).trans (turned_kp ht6))
          have hE : behE oc0 ot0 ⟨0, 1, []⟩ = ⟨oc0, 1, ot0⟩ := by simp [behE]
          have hL := HL4.out
          rw [hE] at hL
          have hM : MapL w6 w.heap.size (D.put (kle (os0, os0)) d4) (T ((os.take (i + 1)).map Op.wy)) := (Try.mapL_put (HI.out.m1.kp K6) HKE.out HD4.out (hL.kp (turned_kp ht6))).congr (fun k _ => (HSN.out k).symm)
          have HII := Lib.hid (show Try.FsR (w.heap.size + 1) w.heap.size os W1 w6 (i + 1) (D.put (kle (os0, os0)) d4) from ⟨owns_tight ho6 (Try.mapSize hM ho6), hM, ((HI.out.o2.kept (Gr.grownBy HGX.out none) (by simp)).kept (below_grown HB4.out none) (by simp)).kept ht6.grown (fun e => by have := Option.some.inj e; omega), HI.out.kp.trans K6, by
            have q1 := HB4.out.mono (B := X.heap.size) (show w.heap.size + 1 ≤ X.heap.size by have := HXS.out; omega)
            have q3 : Below (w.heap.size + 1) wr X := HGX.out.below.mono (by have := HI.out.bl.size; have := HS1.out; omega)
            exact Below.grown (HI.out.bl.trans (q3.trans q1)) ht6.grown (by have := HB4.out.size; have := HXS.out; omega) (fun j e => by cases e; exact Nat.le_refl _)⟩)
          clear K6 hE hL hM ht6 ho6 hrun6 s0 s1 s2
          go_wp2_with fail
          go_roundw
          case rel => exact ⟨i + 1, _, by go_num, by omega, HII.out⟩
          case measure => simp [intOf]; omega
      · obtain rfl : i = os.length := by omega
        have z3 : ¬ (os.length : Int) < (os.length : Int) := by omega
        go_wp2_with fail
        go_step3
        refine ‹∀ (a : Act) (w : World), Code.wp _ _ _ a w → _› _ _ (HP.out _ _ ?_)
        refine ⟨n, w.heap.size + 1, w.heap.size + 1 + 1, D, .map [], _, _, _, _, _, _, _, _, _, _, _, _, _, _, _, _, _, _, _, _, _, _, _, _, _, _, _, _, _, _, _, _, _, _, _, _, _, _, _, _, _, _, _, _, _, _, _, _, _, _, _, _, _, _, _, _, _, _, _, _, _, _, _, _, _, _, _, _, _, _, _, _, _, rfl, ⟨Nat.le_refl _, .inl ⟨rfl, rfl⟩, HI.out.o1, HI.out.m1.congr (fun k _ => ?_), HI.out.o2, MapL.empty _ _, (Gr.kp HG1.out).trans HI.out.kp, ?_⟩⟩
        · rw [List.take_of_length_le (Nat.le_refl _), HDR.out]; rfl
        · exact HG0.out.below.trans ((HG1.out.below.mono HG0.out.below.size).trans (HI.out.bl.mono (by omega)))
end Go.Proofs
