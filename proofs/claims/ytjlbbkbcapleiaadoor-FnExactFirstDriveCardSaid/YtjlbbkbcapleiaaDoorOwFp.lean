/-
  Chapter 6: the first drive (the program).
-/
import Derived.Test.YtjlbbkbcapleiaaDoorOwFd
import Derived.Test.YtjlbbkbcapleiaaDoorOwP
import Derived.Deep.DeepCutAuto
namespace Go.Proofs
open Go.RowKit Av Gm Go.Maps
set_option linter.unusedVariables false
set_option linter.unusedSimpArgs false
/-- a scope whose first walk comes to the label as the others do -/
theorem scope_jumps2 {P : Program} {a : Act} {w : World} {Q : Exit → Act → World → Prop} {c rest : Code} (l : Nat) (J : Act → World → Prop) (μ : Act → World → Nat) (hf : findLabel c l = some (Code.seq .skip rest))
    (pass : ∀ a w, J a w → rest.wp P (Exit.jump l (fun a' w' => J a' w' ∧ μ a' w' < μ a w) Q) a w)
    (first : (∀ a w, J a w → rest.wp P (Exit.jump l J Q) a w) → c.wp P (Exit.jump l J Q) a w) : (Code.scope c).wp P Q a w :=
  wp_scope_jumps l J μ hf (first (fun a w h => wp_mono (pass a w h) (fun e a' w' q => by cases e <;> first | exact q | exact ⟨q.1, q.2.1⟩))) (fun a w h => wp_seq (wp_skip (pass a w h)))
theorem q4f {w w' : World} {a b c d : Addr} {x y z u : Value} (h : (w.cell? a = some x ∧ w.cell? b = some y) ∧ w.cell? c = some z ∧ w.cell? d = some u) (g : Below w.heap.size w w') : w'.cell? a = some x ∧ w'.cell? b = some y ∧ w'.cell? c = some z ∧ w'.cell? d = some u :=
  ⟨cell_k2 g h.1.1, cell_k2 g h.1.2, cell_k2 g h.2.1, cell_k2 g h.2.2⟩
def strOf : Value → ByteArray | .string s => s | _ => ⟨#[]⟩
theorem ownsMap_belowF {H : Type} {P : Program} {k : TypeId} {R : Value → Option (DataW H × List MemPlace)} {b n : Nat} {D : DataW H} {w w' : World} (h : w.ownsMap P k R b n D) (g : Below w.heap.size w w') : w'.ownsMap P k R b n D :=
  h.kept ⟨g.os, g.tape, g.output, g.size, fun k hk _ => g.block k hk⟩ (row := none) (by simp)
/-- what holds at the label -/
structure Tryd.FdK (s a : ByteArray) (nb : Nat → Nat → Option Nat) (fn : St) (F : Nat → Int) (N s0 d : Nat) (w : World) (k bk b3 n3 : Nat) (D3 : DataW Unit) (X : World) : Prop where
  hk : k ≤ d
  bel : Below w.heap.size w X
  own : X.ownsMap Tryd.prog 45 rElem b3 n3 D3
  mp : MapIs s.size N D3 fn
  wc0 : X.cell? ⟨w.heap.size, 0, none⟩ = some (.string s)
  wc1 : X.cell? ⟨w.heap.size, 1, none⟩ = some (.string a)
  x : X.cell? ⟨bk, 0, none⟩ = some (.int .i64 (crn s.size (stW nb F s0 k).1).1)
  y : X.cell? ⟨bk, 1, none⟩ = some (.int .i64 (crn s.size (stW nb F s0 k).1).2)
  f0 : X.frozen? ⟨bk, 0, none⟩ = false
  f1 : X.frozen? ⟨bk, 1, none⟩ = false
  lo : w.heap.size < bk
  ne : b3 ≠ bk
def Tryd.FdL (s a : ByteArray) (nb : Nat → Nat → Option Nat) (fn : St) (F : Nat → Int) (N s0 d : Nat) (w : World) (a' : Act) (X : World) : Prop :=
  ∃ (k bk b3 n3 : Nat) (D3 : DataW Unit) (z0 z1 z2 z4 z5 z6 z7 z8 z9 z11 z12 z13 z16 z17 z18 z19 z20 z21 z22 z23 z24 z25 z26 z27 z28 z29 z30 z31 z32 z33 z34 z35 z36 z37 z38 z39 z40 z41 z42 z43 z44 z45 z46 z47 z48 z49 z50 z51 z52 z53 z54 z55 z56 z57 z58 z59 z60 z61 z62 z63 z64 z65 z66 z67 z68 z69 z70 z71 z72 z73 z74 z75 z76 z77 z78 z79 z80 : Value), a' = { tmps := #[z0, z1, z2, .pointer (some ⟨w.heap.size, 0, none⟩), z4, z5, z6, z7, z8, z9, .pointer (some ⟨bk, 0, none⟩), z11, z12, z13, .map (some b3), .string (wsB (stW nb F s0 k).2), z16, z17, z18, z19, z20, z21, z22, z23, z24, z25, z26, z27, z28, z29, z30, z31, z32, z33, z34, z35, z36, z37, z38, z39, z40, z41, z42, z43, z44, z45, z46, z47, z48, z49, z50, z51, z52, z53, z54, z55, z56, z57, z58, z59, z60, z61, z62, z63, z64, z65, z66, z67, z68, z69, z70, z71, z72, z73, z74, z75, z76, z77, z78, z79, z80], defers := [] } ∧ Tryd.FdK s a nb fn F N s0 d w k bk b3 n3 D3 X
set_option maxRecDepth 100000 in
set_option maxHeartbeats 8000000 in
theorem Tryd.iFirstDrive (w : World) (s a : ByteArray) (hs : s.size ≤ maxLen) (ha : a.size ≤ maxLen) (Ba : Nat) (la : Value) (xs : List Int) (Bb : Nat) (lb : Value) (ys : List Int) (v : ByteArray) (b : Bool) (hv : fdV s a xs ys = v) (hb : wB s a xs ys = b) (hla : OwnI w Ba la xs) (hlb : OwnI w Bb lb ys) :
    Calls Tryd.prog 8 #[.agg #[.string s, .string a], la, lb] w fun e w' => e = .returned (.tuple #[.string v, .bool b]) ∧ Below w.heap.size w w' := by
  have mixed : Tryd.prog.follows .mixedOrders = true := by kernel_rfl
  subst hv
  have HD := Lib.hid (fun (X : World) (g : Gr w X) => Tryd.driven X s a hs ha Ba _ xs Bb _ ys (wV s a xs ys) (wcV s a xs ys) b rfl rfl hb (hla.gr g) (hlb.gr g))
  cases hbb : b
  · have e1 : wB s a xs ys = false := by rw [hb, hbb]
    have e2 : fdV s a xs ys = ⟨#[]⟩ := by unfold fdV; rw [e1]; rfl
    rw [e2]
    rw [hbb] at HD
    generalize wV s a xs ys = v1 at *
    generalize wcV s a xs ys = v2 at *
    clear hla hlb hb e1 e2
    go_enter Tryd.func8, Tryd.ntmps8
    go_wp2_with fail
    go_step3
    go_wp2_with (first | (go_at_call 15; refine (HD.out _ (by repeat (first | exact Gr.refl _ | refine Gr.alloc ?_ _ | refine Gr.trans ?_ (by assumption) | refine Gr.drew ?_ | refine Gr.drewN ?_ _ | refine Gr.grow ?_ _ | refine Gr.setCell ?_ (by (try simp); (try omega)) _))).mono ?_; rintro e w1 ⟨rfl, hb1⟩))
    rw [Exit.noGoto_ret]
    go_ret2
    exact ⟨rfl, Below.alloc (Below.trans (show Gr w _ from (by repeat (first | exact Gr.refl _ | refine Gr.alloc ?_ _ | refine Gr.trans ?_ (by assumption) | refine Gr.drew ?_ | refine Gr.drewN ?_ _ | refine Gr.grow ?_ _ | refine Gr.setCell ?_ (by (try simp); (try omega)) _))).below (hb1.mono (show Gr w _ from (by repeat (first | exact Gr.refl _ | refine Gr.alloc ?_ _ | refine Gr.trans ?_ (by assumption) | refine Gr.drew ?_ | refine Gr.drewN ?_ _ | refine Gr.grow ?_ _ | refine Gr.setCell ?_ (by (try simp); (try omega)) _))).below.size)) (Nat.le_trans (show Gr w _ from (by repeat (first | exact Gr.refl _ | refine Gr.alloc ?_ _ | refine Gr.trans ?_ (by assumption) | refine Gr.drew ?_ | refine Gr.drewN ?_ _ | refine Gr.grow ?_ _ | refine Gr.setCell ?_ (by (try simp); (try omega)) _))).below.size hb1.size) _⟩
  · have hB : wB s a xs ys = true := by rw [hb, hbb]
    have hB' := hB
    unfold wB at hB'
    simp only [Bool.and_eq_true, decide_eq_true_eq] at hB'
    obtain ⟨⟨⟨h1, h2⟩, h3⟩, h4⟩ := hB'
    obtain ⟨kk1, kk2⟩ := okW_and h1
    have l1 := okT_len kk1
    have l2 := okT_len kk2
    obtain ⟨p1, p2⟩ := isC_vx h2 l1 l2
    obtain ⟨r1, r2⟩ := isC_vx h3 l1 l2
    have e2 : fdV s a xs ys = fdW s a (vx s xs) (vx s ys) := by unfold fdV; rw [if_pos hB]
    rw [e2]
    rw [hbb] at HD
    unfold fdW
    generalize wV s a xs ys = v1 at *
    generalize wcV s a xs ys = v2 at *
    generalize vx s xs = s0 at *
    generalize vx s ys = t0 at *
    subst p2 r2
    have hRV := revW_flB h1
    obtain ⟨m1, m2⟩ := okW_and (okW_flB h1)
    have hv' : ∀ n i v, n < a.size * s.size → nbW (flB s) (flB a) n i = some v → v < a.size * s.size := fun n i v hn e => by
      have := nbW_valid (s := flB s) (a := flB a) n i v (by rw [flB_size, flB_size]; exact hn) e
      rwa [flB_size, flB_size] at this
    have hsym := dsW_rev hRV p1 r1
    have hFD := fin_dist hv' r1
    have HBK := Lib.hid (fun (X : World) => Tryd.iBackWays X s a hs ha true h1 (flB s) (flB a) rfl rfl)
    have HDF := Lib.hid (fun (X : World) => show Calls Tryd.prog 17 #[.agg #[.string (flB s), .string (flB a)], .agg #[.int .i64 (crn s.size t0).1, .int .i64 (crn s.size t0).2], .int .i64 1] X (fun e w' => ∃ b n D, e = .returned (.map (some b)) ∧ w'.ownsMap Tryd.prog 45 rElem b n D ∧ MapIs s.size (a.size * s.size) D (fin (nbL (lsW (flB s) (flB a) 1)) (a.size * s.size) t0) ∧ Below X.heap.size X w') by
      have := Tryd.drivenFrom X (flB s) (flB a) m1 m2 t0 (by rw [flB_size, flB_size]; exact r1)
      rw [flB_size, flB_size] at this
      exact this)
    have HFS := Lib.hid (show ∀ v, v < a.size * s.size → f (fin (nbL (lsW (flB s) (flB a) 1)) (a.size * s.size) t0) v = f (fin (nbW (flB s) (flB a)) (a.size * s.size) t0) v by
      have := far_same (s := flB s) (a := flB a) (s0 := t0) (by rw [flB_size, flB_size]; exact r1)
      rw [flB_size, flB_size] at this
      exact this)
    have HINV := Lib.hid (stW_inv2 (nbW_valid (s := s) (a := a)) (rev_ex' hRV) hFD p1)
    have HEX := Lib.hid (fun (u : Nat) hu h0 => cnd_ex2 (rev_ex' hRV) hFD (u := u) hu h0)
    have HRE := Lib.hid (fun (u j m : Nat) (hj : j < 4) (hu : u < a.size * s.size) (hm : m < a.size * s.size) (e : nbW s a u j = some m) (h0 : 0 ≤ f (fin (nbW (flB s) (flB a)) (a.size * s.size) t0) m) => show f (fin (nbW (flB s) (flB a)) (a.size * s.size) t0) u ≤ f (fin (nbW (flB s) (flB a)) (a.size * s.size) t0) m + 1 by
      obtain ⟨j', hj', e'⟩ := rev_ex hRV u j m hu hj e
      exact (hFD.re m j' u hm hj' h0 e').2)
    have HST := Lib.hid (fun (X : World) (u j : Nat) (hj : j < 4) (hu : u < a.size * s.size) => Tryd.iwStep X s a l1 l2 (u / s.size) (u % s.size) (idx_lt2 hu).1 (idx_lt2 hu).2 j hj)
    have HNBS := Lib.hid (fun (n j : Nat) hj hn hh => @nbW_some s a n j hj hn hh)
    have HNBN := Lib.hid (fun (n j : Nat) hh => @nbW_none s a n j hh)
    have HLO := Lib.hid (fun (X : World) b n D (m : Nat) hm (hown : X.ownsMap Tryd.prog 45 rElem b n D) (hM : MapIs s.size (a.size * s.size) D (fin (nbL (lsW (flB s) (flB a) 1)) (a.size * s.size) t0)) (W' : World) (g : Gr X W') => Tryd.lookOk (w := X) (Wn := a.size) (Hn := s.size) (n := m) l2.2 l1.2 hown hM hm W' g)
    have HLF := Lib.hid (fun (X : World) b n D (m : Nat) hm h0 (hown : X.ownsMap Tryd.prog 45 rElem b n D) (hM : MapIs s.size (a.size * s.size) D (fin (nbL (lsW (flB s) (flB a) 1)) (a.size * s.size) t0)) (W' : World) (g : Gr X W') => Tryd.lookF (w := X) (Wn := a.size) (Hn := s.size) (n := m) l2.2 l1.2 hown hM hm h0 W' g)
    have hN0 : 0 < a.size * s.size := by have := p1; omega
    rcases hla.view with ⟨hx, _⟩ | ⟨_, ga, ca, rfl, _, ga2, _, _, _⟩
    · cases hx
    rcases hlb.view with ⟨hx, _⟩ | ⟨_, gb, cb, rfl, _, gb2, _, _, _⟩
    · cases hx
    obtain ⟨l0, _⟩ := hla.at rfl 0 (by simp)
    obtain ⟨l1', _⟩ := hla.at rfl 1 (by simp)
    obtain ⟨m0, _⟩ := hlb.at rfl 0 (by simp)
    obtain ⟨m1', _⟩ := hlb.at rfl 1 (by simp)
    simp only [List.getD_cons_zero, List.getD_cons_succ, List.length_cons, List.length_nil, Nat.zero_add, Nat.reduceAdd] at l0 l1' m0 m1' HD ⊢
    have HLM := Lib.hid (And.intro (And.intro l0 l1') (And.intro m0 m1'))
    have hbd := dsW_bd (s := s) (a := a) p1 r1
    have hN : a.size * s.size ≤ 64 := Nat.mul_le_mul (show a.size ≤ 8 by omega) (show s.size ≤ 8 by omega)
    have hN' : (a.size : Int) * s.size = ((a.size * s.size : Nat) : Int) := by push_cast; rfl
    have HV := Lib.hid (nbW_valid (s := s) (a := a))
    rw [hsym] at h4 hbd ⊢
    generalize hFF : f (fin (nbW (flB s) (flB a)) (a.size * s.size) t0) = F at *
    generalize (fin (nbL (lsW (flB s) (flB a) 1)) (a.size * s.size) t0) = fn at *
    generalize hsz : nbW s a = nb at *
    generalize hs' : flB s = s' at *
    generalize ha' : flB a = a' at *
    generalize hNN : a.size * s.size = N at *
    obtain ⟨d, hdd⟩ : ∃ d : Nat, F s0 = d := ⟨(F s0).toNat, by omega⟩
    rw [hdd] at h4 hbd ⊢
    rw [Int.toNat_natCast]
    have HDD := Lib.hid hdd
    have hdN : d ≤ 64 := by omega
    clear hla hlb hb hB e2 h1 h2 h3 h4 kk1 kk2 hRV m1 m2 hv' hsym hFD l0 l1' m0 m1' hFF hsz hs' ha' hbb hs ha hdd
    go_enter Tryd.func8, Tryd.ntmps8
    go_wp2_with fail
    refine scope_jumps2 0 (Tryd.FdL s a nb fn F N s0 d w) (fun a' _ => d - (strOf (a'.tmps.getD 15 undef)).size) rfl ?_ ?_
    · rintro a' X ⟨k, bk, b3, n3, D3, z0, z1, z2, z4, z5, z6, z7, z8, z9, z11, z12, z13, z16, z17, z18, z19, z20, z21, z22, z23, z24, z25, z26, z27, z28, z29, z30, z31, z32, z33, z34, z35, z36, z37, z38, z39, z40, z41, z42, z43, z44, z45, z46, z47, z48, z49, z50, z51, z52, z53, z54, z55, z56, z57, z58, z59, z60, z61, z62, z63, z64, z65, z66, z67, z68, z69, z70, z71, z72, z73, z74, z75, z76, z77, z78, z79, z80, rfl, hJ⟩
      have HJ := Lib.hid hJ
      obtain ⟨u1, u2, u3, u4⟩ := HINV.out k (by rw [HDD.out]; have := hJ.hk; omega)
      rw [HDD.out] at u2
      have hk := hJ.hk
      have c0 := hJ.wc0
      have c1 := hJ.wc1
      have a0 := hJ.x
      have a1 := hJ.y
      have HAF := Lib.hid (And.intro hJ.f0 hJ.f1)
      have HAT := Lib.hid (And.intro hJ.x hJ.y)
      have HWC := Lib.hid (And.intro hJ.wc0 hJ.wc1)
      have HOWN := Lib.hid hJ.own
      have HM3 := Lib.hid hJ.mp
      have HB3 := Lib.hid hJ.bel
      have HLN := Lib.hid (And.intro hJ.lo hJ.ne)
      have HNX := Lib.hid (fun j v h1 h2 => @stW_succ nb F s0 k j v h1 h2)
      clear hJ HJ
      generalize hst : stW nb F s0 k = st at *
      obtain ⟨u, l⟩ := st
      simp only at u1 u2 u3 u4 HNX a0 a1 HAT ⊢
      have HU1 := Lib.hid u1
      have HU2 := Lib.hid u2
      have HST4 := Lib.hid hst
      clear hst
      have hbk : bk < X.heap.size := World.block_lt_of_cell? _ _ HAT.out.1
      go_wp2_with fail
      clear c0 c1 a0 a1
      have GI : Gr X (X.iter sgB 0) := Gr.alloc (Gr.refl _) _
      go_loopg [15] 4 (fun gk ov wi => ∃ j, j + gk = 4 ∧ ov = .string (wsB l) ∧ (∀ i, i < j → k < d → cnd nb F u i = false) ∧ wi.heap[X.heap.size]? = some (.stringIter sgB j) ∧ Below X.heap.size X wi)
      case atStart => exact ⟨0, rfl, rfl, fun i hi _ => absurd hi (Nat.not_lt_zero _), World.iter_heap X sgB 0, GI.below⟩
      case round =>
        obtain ⟨j, hjg, rfl, hno, hit, hb⟩ := hrel
        by_cases hj : j < 4
        · have hnx : ∀ ty, (Instr.next (.pointer (some ⟨X.heap.size, 0, none⟩)) true ty).run Tryd.prog wr = .ok (.tuple #[.bool true, .int .i64 j, .int .i32 (sgn j)]) (wr.iterAt X.heap.size sgB (j + 1)) := fun ty => by
            have := Go.Lib.run_next_ascii_at (P := Tryd.prog) wr X.heap.size sgB j ty hit hj (sgB_lt ⟨j, hj⟩)
            rw [this]
            exact congrArg (fun z => Result.ok (Value.tuple #[.bool true, .int .i64 j, .int .i32 z]) (wr.iterAt X.heap.size sgB (j + 1))) (sgB_at ⟨j, hj⟩)
          obtain ⟨wi, hwi⟩ : ∃ wi, wr.iterAt X.heap.size sgB (j + 1) = wi := ⟨_, rfl⟩
          have hitw : wi.heap[X.heap.size]? = some (.stringIter sgB (j + 1)) := by rw [← hwi]; exact Go.Lib.iterAt_heap wr _ sgB j (j + 1) hit
          have hbi : Below X.heap.size X wi := by rw [← hwi]; exact Go.Lib.below_iterAt hb (by omega) _ _
          rw [hwi] at hnx
          have c0 := cell_k2 hbi HWC.out.1
          have c1 := cell_k2 hbi HWC.out.2
          have a0 := cell_k2 hbi HAT.out.1
          have a1 := cell_k2 hbi HAT.out.2
          have HBI := Lib.hid hbi
          have HIT := Lib.hid hitw
          have HNO := Lib.hid hno
          have HAI := Lib.hid (And.intro a0 a1)
          have hbw : bk < wi.heap.size := World.block_lt_of_cell? _ _ a0
          have hsw : X.heap.size < wi.heap.size := (Array.getElem?_eq_some_iff.1 hitw).1
          have HSS := Lib.hid (fun (Y : World) => HST.out Y u j hj HU1.out)
          have HOI := Lib.hid (ownsMap_belowF HOWN.out hbi)
          have hsb := sgn_bd j
          have henc := enc_sgn ⟨j, hj⟩
          simp only at henc
          obtain ⟨sj, hsj⟩ : ∃ s, sgn j = s := ⟨_, rfl⟩
          rw [hsj] at hnx HSS hsb henc
          have hsb1 := hsb.1
          have hsb2 := hsb.2
          clear hno hit hb hwi hitw hbi hsb hsj
          cases hdr : drv s a (u / s.size) (u % s.size) j
          · have HC := Lib.hid (cnd_none (F := F) (HNBN.out u j hdr))
            rw [iwV_f hdr] at HSS
            change Hid (∀ Y : World, Calls Tryd.prog 18 #[.agg #[.string s, .string a], .agg #[.int .i64 (crn s.size u).1, .int .i64 (crn s.size u).2], .int .i32 sj] Y fun e w' => e = .returned (.tuple #[.agg #[.int .i64 0, .int .i64 0], .bool false]) ∧ Gr Y w') at HSS
            have HL0 := Lib.hid (fun (W' : World) (g : Gr wi W') => HLO.out wi b3 n3 D3 0 hN0 HOI.out HM3.out W' g)
            simp only [show crn s.size 0 = (0, 0) by unfold crn; simp] at HL0
            generalize (if 0 ≤ f fn 0 then f fn 0 else 0) = q1 at *
            generalize (if 0 ≤ f fn 0 then Gm.g fn 0 else 0) = q2 at *
            generalize decide (0 ≤ f fn 0) = q3 at *
            clear hdr henc
            go_wp2_with (first | (go_at_call 18; refine (HSS.out _).mono ?_; rintro e w6 ⟨rfl, hg6⟩; have n0 := HL0.out (w6.alloc (.cells #[.int .i64 0, .int .i64 0] 45)) (Gr.alloc hg6 _)))
            (refine wp_region_quiet_grown mixed (by kernel_rfl) ?_; (repeat (first | go_big_quiet_step ((fail)) | quiet_step ((fail)))); refine wpQuiet_nil ?_; intro _ hw'; obtain ⟨⟨nq, osq⟩, hw''⟩ := hw'; subst hw'')
            go_wp2_with fail
            have gE : Gr wi (Go.Sort.grow (((w6.alloc (.cells #[.int .i64 0, .int .i64 0] 45)).alloc (.cells #[.int .i64 q1, .int .i64 q2] 41)).drewN nq) osq) := Gr.grow (Gr.drewN (Gr.alloc (Gr.alloc hg6 _) _) _) _
            go_roundg (gk - 1)
            case rel =>
              refine ⟨j + 1, by omega, rfl, fun i hi hkd => ?_, by rw [gE.below.block _ hsw]; exact HIT.out, HBI.out.trans (gE.below.mono HBI.out.size)⟩
              rcases Nat.lt_or_eq_of_le (Nat.le_of_lt_succ hi) with q | q
              · exact HNO.out i q hkd
              · rw [q]; exact HC.out
            case measure => omega
          · obtain ⟨m, hnn, hmN, hmx, hmy, hme⟩ := HNBS.out u j hj HU1.out hdr
            rw [iwV_t hdr, ← hmx, ← hmy] at HSS
            change Hid (∀ Y : World, Calls Tryd.prog 18 #[.agg #[.string s, .string a], .agg #[.int .i64 (crn s.size u).1, .int .i64 (crn s.size u).2], .int .i32 sj] Y fun e w' => e = .returned (.tuple #[.agg #[.int .i64 (crn s.size m).1, .int .i64 (crn s.size m).2], .bool true]) ∧ Gr Y w') at HSS
            have HC := Lib.hid (cnd_some (F := F) hnn)
            have HNN := Lib.hid hnn
            have HLM := Lib.hid (fun (W' : World) (g : Gr wi W') => HLO.out wi b3 n3 D3 m hmN HOI.out HM3.out W' g)
            have HLU := Lib.hid (fun (W' : World) (g : Gr wi W') => HLF.out wi b3 n3 D3 u HU1.out (by rw [HFS.out u HU1.out, HU2.out]; omega) HOI.out HM3.out W' g)
            rw [HFS.out m hmN] at HLM
            rw [HFS.out u HU1.out, HU2.out] at HLU
            have hre := HRE.out u j m hj HU1.out hmN hnn
            rw [HU2.out] at hre HC
            have hF0 := Tryd.fieldR0
            clear hdr hnn hmx hmy hme
            obtain ⟨cx, hcx⟩ : ∃ x, (crn s.size u).1 = x := ⟨_, rfl⟩
            obtain ⟨cy, hcy⟩ : ∃ x, (crn s.size u).2 = x := ⟨_, rfl⟩
            obtain ⟨mx, hmx⟩ : ∃ x, (crn s.size m).1 = x := ⟨_, rfl⟩
            obtain ⟨my, hmy⟩ : ∃ x, (crn s.size m).2 = x := ⟨_, rfl⟩
            rw [hcx, hcy, hmx, hmy] at HSS
            rw [hmx, hmy] at HLM
            rw [hcx, hcy] at HLU
            rw [hcx] at a0
            rw [hcy] at a1
            have HMX := Lib.hid (And.intro hmx hmy)
            clear hcx hcy hmx hmy
            generalize Gm.g fn u = gu at *
            generalize Gm.g fn m = gm at *
            obtain ⟨fm, hfm⟩ : ∃ x, F m = x := ⟨_, rfl⟩
            rw [hfm] at HLM hre HC
            clear hfm
            by_cases h0 : fm < 0
            · have HC2 := Lib.hid (show k < d → cnd nb F u j = false from fun hkd => by rw [HC.out]; exact decide_eq_false (by omega))
              rw [if_neg (by omega), if_neg (by omega), decide_eq_false (by omega)] at HLM
              clear hre henc HLU
              go_wp2_with (first | (go_at_call 18; refine (HSS.out _).mono ?_; rintro e w6 ⟨rfl, hg6⟩; have hlm := HLM.out (w6.alloc (.cells #[.int .i64 mx, .int .i64 my] 45)) (Gr.alloc hg6 _)))
              (refine wp_region_quiet_grown mixed (by kernel_rfl) ?_; (repeat (first | go_big_quiet_step ((fail)) | quiet_step ((fail)))); refine wpQuiet_nil ?_; intro _ hw'; obtain ⟨⟨nq, osq⟩, hw''⟩ := hw'; subst hw'')
              go_wp2_with fail
              have gE : Gr wi (Go.Sort.grow (((w6.alloc (.cells #[.int .i64 mx, .int .i64 my] 45)).alloc (.cells #[.int .i64 0, .int .i64 0] 41)).drewN nq) osq) := Gr.grow (Gr.drewN (Gr.alloc (Gr.alloc hg6 _) _) _) _
              go_roundg (gk - 1)
              case rel =>
                refine ⟨j + 1, by omega, rfl, fun i hi hkd => ?_, by rw [gE.below.block _ hsw]; exact HIT.out, HBI.out.trans (gE.below.mono HBI.out.size)⟩
                rcases Nat.lt_or_eq_of_le (Nat.le_of_lt_succ hi) with q | q
                · exact HNO.out i q hkd
                · rw [q]; exact HC2.out hkd
              case measure => omega
            · have hre' := hre (by omega)
              rw [if_pos (by omega), if_pos (by omega), decide_eq_true (by omega)] at HLM
              by_cases hFm : fm = (d : Int) - k - 1
              · have hlt : fm < (d : Int) - k := by omega
                have HPK := Lib.hid (pk_eq hj (by rw [HC.out]; exact decide_eq_true hFm) (fun i hi => HNO.out i hi (by omega)))
                have HS := Lib.hid (HNX.out j m HPK.out HNN.out)
                have HSZ := Lib.hid (show (wsB l).size = k by rw [wsB_size]; exact u3)
                have HWS := Lib.hid (wsB_snoc l j)
                generalize hSl : wsB l = S at *
                have HSL := Lib.hid hSl
                clear hSl
                generalize hch : sgU j = ch at *
                have hz1 : (⟨#[ch]⟩ : ByteArray).size = 1 := rfl
                have hadd := fun W => run_string_add (P := Tryd.prog) (w := W) S ⟨#[ch]⟩ (by rw [HSZ.out]; omega) (by rw [hz1]; decide)
                have HFM := Lib.hid hFm
                have hkd : k < d := by omega
                clear hz1 hch hre hFm
                go_wp2_with (first | (go_at_call 18; refine (HSS.out _).mono ?_; rintro e w6 ⟨rfl, hg6⟩; have hlm := HLM.out (w6.alloc (.cells #[.int .i64 mx, .int .i64 my] 45)) (Gr.alloc hg6 _); have n0 := gr_all (Gr.refl ((w6.alloc (.cells #[.int .i64 mx, .int .i64 my] 45)).alloc (.cells #[.int .i64 fm, .int .i64 gm] 41))) (show ((w6.alloc (.cells #[.int .i64 mx, .int .i64 my] 45)).alloc (.cells #[.int .i64 fm, .int .i64 gm] 41)).cell? ⟨w6.heap.size + 1, 0, none⟩ = some (.int .i64 fm) by simp [go_sem]); have n2 := gr_all (Gr.alloc (Gr.alloc hg6 (.cells #[.int .i64 mx, .int .i64 my] 45)) (.cells #[.int .i64 fm, .int .i64 gm] 41)) a0; have n3 := gr_all (Gr.alloc (Gr.alloc hg6 (.cells #[.int .i64 mx, .int .i64 my] 45)) (.cells #[.int .i64 fm, .int .i64 gm] 41)) a1; have hlu := fun nn os => HLU.out (Go.Sort.grow (((w6.alloc (.cells #[.int .i64 mx, .int .i64 my] 45)).alloc (.cells #[.int .i64 fm, .int .i64 gm] 41)).drewN nn) os) (Gr.grow (Gr.drewN (Gr.alloc (Gr.alloc hg6 _) _) nn) os)))
                (refine wp_region_quiet_grown mixed (by kernel_rfl) ?_; (repeat (first | go_big_quiet_step ((fail)) | quiet_step ((fail)))); refine wpQuiet_nil ?_; intro _ hw'; obtain ⟨⟨nq, osq⟩, hw''⟩ := hw'; subst hw'')
                go_wp2_with fail
                have gE : Gr wi (Go.Sort.grow (((w6.alloc (.cells #[.int .i64 mx, .int .i64 my] 45)).alloc (.cells #[.int .i64 fm, .int .i64 gm] 41)).drewN nq) osq) := Gr.grow (Gr.drewN (Gr.alloc (Gr.alloc hg6 _) _) _) _
                have o0 := gr_all (Gr.refl ((w6.alloc (.cells #[.int .i64 mx, .int .i64 my] 45)).alloc (.cells #[.int .i64 fm, .int .i64 gm] 41))) (show ((w6.alloc (.cells #[.int .i64 mx, .int .i64 my] 45)).alloc (.cells #[.int .i64 fm, .int .i64 gm] 41)).cell? ⟨w6.heap.size, 0, none⟩ = some (.int .i64 mx) by simp [go_sem]) nq osq
                have o1 := gr_all (Gr.refl ((w6.alloc (.cells #[.int .i64 mx, .int .i64 my] 45)).alloc (.cells #[.int .i64 fm, .int .i64 gm] 41))) (show ((w6.alloc (.cells #[.int .i64 mx, .int .i64 my] 45)).alloc (.cells #[.int .i64 fm, .int .i64 gm] 41)).cell? ⟨w6.heap.size, 1, none⟩ = some (.int .i64 my) by simp [go_sem]) nq osq
                obtain ⟨wG, hwG⟩ : ∃ wG, Go.Sort.grow (((w6.alloc (.cells #[.int .i64 mx, .int .i64 my] 45)).alloc (.cells #[.int .i64 fm, .int .i64 gm] 41)).drewN nq) osq = wG := ⟨_, rfl⟩
                rw [hwG] at gE o0 o1
                simp only [hwG]
                clear hwG n0 n2 n3 hlm hlu
                have r0 := gr_all (Gr.refl wG) o0
                have r1 := gr_all (Gr.refl wG) o1
                (refine wp_region_grown_tail 6 mixed (by kernel_rfl) ?_; simp only [List.take_succ_cons, List.take_zero, List.drop_succ_cons, List.drop_zero]; (repeat (first | go_big_quiet_step ((fail)) | quiet_step ((fail)))); refine wpQuiet_nil ?_; intro _ hw'; obtain ⟨⟨nq, osq⟩, hw''⟩ := hw'; subst hw'')
                have gH : Gr wi (Go.Sort.grow (wG.drewN nq) osq) := gE.trans (Gr.grow (Gr.drewN (Gr.refl wG) nq) osq)
                obtain ⟨wH, hwH⟩ : ∃ wH, Go.Sort.grow (wG.drewN nq) osq = wH := ⟨_, rfl⟩
                rw [hwH] at gH
                simp only [hwH]
                clear hwH r0 r1 o0 o1 gE
                have t0' := gH.keep0 a0
                have t1' := gH.keep0 a1
                have t2' : wH.frozen? ⟨bk, 0, none⟩ = false := ((bcell ((HBI.out.trans (gH.below.mono HBI.out.size)).mono (Nat.le_refl _))).2 _ _ hbk).trans HAF.out.1
                have t3' : wH.frozen? ⟨bk, 1, none⟩ = false := ((bcell ((HBI.out.trans (gH.below.mono HBI.out.size)).mono (Nat.le_refl _))).2 _ _ hbk).trans HAF.out.2
                have g0 := World.cell?_setCell_same _ _ (.int .i64 mx) t0'
                have g0' : ((wH.setCell ⟨bk, 0, none⟩ (.int .i64 mx)).setCell ⟨bk, 1, none⟩ (.int .i64 my)).cell? ⟨bk, 0, none⟩ = some (.int .i64 mx) := by
                  rw [World.cell?_setCell_other _ ⟨bk, 1, none⟩ ⟨bk, 0, none⟩ _ (by simp)]; exact g0
                have g1' : ((wH.setCell ⟨bk, 0, none⟩ (.int .i64 mx)).setCell ⟨bk, 1, none⟩ (.int .i64 my)).cell? ⟨bk, 1, none⟩ = some (.int .i64 my) := World.cell?_setCell_same _ _ (.int .i64 my) (by
                  rw [World.cell?_setCell_other _ ⟨bk, 0, none⟩ ⟨bk, 1, none⟩ _ (by simp)]; exact t1')
                clear g0
                have HG01 := Lib.hid (And.intro g0' g1')
                have HGH := Lib.hid gH
                have HFZ := Lib.hid (And.intro t2' t3')
                go_wp2_with fail
                clear g0' g1' t0' t1' t2' t3' gH
                go_step3
                rw [show (S ++ ⟨#[ch]⟩ : ByteArray) = wsB (stW nb F s0 (k + 1)).2 from by rw [HS.out]; exact HWS.out.symm]
                refine ⟨rfl, ⟨k + 1, bk, b3, n3, D3, _, _, _, _, _, _, _, _, _, _, _, _, _, _, _, _, _, _, _, _, _, _, _, _, _, _, _, _, _, _, _, _, _, _, _, _, _, _, _, _, _, _, _, _, _, _, _, _, _, _, _, _, _, _, _, _, _, _, _, _, _, _, _, _, _, _, _, _, _, _, _, _, _, _, _, _, _, rfl, ?_⟩, ?_⟩
                · have hlo := HLN.out.1
                  have hw0 := cell_k2 HBI.out HWC.out.1
                  refine ⟨by omega, Below.setCell (Below.setCell (HB3.out.trans ((HBI.out.trans (HGH.out.below.mono HBI.out.size)).mono HB3.out.size)) (Nat.le_of_lt hlo) _) (Nat.le_of_lt hlo) _, (ownsMap_belowF HOI.out HGH.out.below).kept (grownBy_setCell (grownBy_setCell (World.grownBy.refl _ _))) (by simp; exact HLN.out.2), HM3.out, ?_, ?_, ?_, ?_, ?_, ?_, hlo, HLN.out.2⟩
                  · rw [World.cell?_setCell_other _ ⟨bk, 1, none⟩ ⟨w.heap.size, 0, none⟩ _ (by simp <;> omega), World.cell?_setCell_other _ ⟨bk, 0, none⟩ ⟨w.heap.size, 0, none⟩ _ (by simp <;> omega)]; exact HGH.out.keep0 (cell_k2 HBI.out HWC.out.1)
                  · rw [World.cell?_setCell_other _ ⟨bk, 1, none⟩ ⟨w.heap.size, 1, none⟩ _ (by simp <;> omega), World.cell?_setCell_other _ ⟨bk, 0, none⟩ ⟨w.heap.size, 1, none⟩ _ (by simp <;> omega)]; exact HGH.out.keep0 (cell_k2 HBI.out HWC.out.2)
                  · rw [HS.out, HMX.out.1]; exact HG01.out.1
                  · rw [HS.out, HMX.out.2]; exact HG01.out.2
                  · have := HFZ.out.1; simp [go_sem, this]
                  · have := HFZ.out.2; simp [go_sem, this]
                · have h1 : (wsB (stW nb F s0 (k + 1)).2).size = k + 1 := by rw [wsB_size, HS.out]; simp [u3]
                  show d - (wsB (stW nb F s0 (k + 1)).2).size < d - (wsB l).size
                  rw [h1, HSL.out, HSZ.out]
                  omega
              · have hlt : ¬ fm < (d : Int) - k := by omega
                have HC2 := Lib.hid (show k < d → cnd nb F u j = false from fun _ => by rw [HC.out]; exact decide_eq_false hFm)
                clear hFm henc hre
                go_wp2_with (first | (go_at_call 18; refine (HSS.out _).mono ?_; rintro e w6 ⟨rfl, hg6⟩; have hlm := HLM.out (w6.alloc (.cells #[.int .i64 mx, .int .i64 my] 45)) (Gr.alloc hg6 _); have n0 := gr_all (Gr.refl ((w6.alloc (.cells #[.int .i64 mx, .int .i64 my] 45)).alloc (.cells #[.int .i64 fm, .int .i64 gm] 41))) (show ((w6.alloc (.cells #[.int .i64 mx, .int .i64 my] 45)).alloc (.cells #[.int .i64 fm, .int .i64 gm] 41)).cell? ⟨w6.heap.size + 1, 0, none⟩ = some (.int .i64 fm) by simp [go_sem]); have n2 := gr_all (Gr.alloc (Gr.alloc hg6 (.cells #[.int .i64 mx, .int .i64 my] 45)) (.cells #[.int .i64 fm, .int .i64 gm] 41)) a0; have n3 := gr_all (Gr.alloc (Gr.alloc hg6 (.cells #[.int .i64 mx, .int .i64 my] 45)) (.cells #[.int .i64 fm, .int .i64 gm] 41)) a1; have hlu := fun nn os => HLU.out (Go.Sort.grow (((w6.alloc (.cells #[.int .i64 mx, .int .i64 my] 45)).alloc (.cells #[.int .i64 fm, .int .i64 gm] 41)).drewN nn) os) (Gr.grow (Gr.drewN (Gr.alloc (Gr.alloc hg6 _) _) nn) os)))
                (refine wp_region_quiet_grown mixed (by kernel_rfl) ?_; (repeat (first | go_big_quiet_step ((fail)) | quiet_step ((fail)))); refine wpQuiet_nil ?_; intro _ hw'; obtain ⟨⟨nq, osq⟩, hw''⟩ := hw'; subst hw'')
                clear n0 n2 n3 hlm hlu
                go_wp2_with fail
                have gE : Gr wi (Go.Sort.grow (((w6.alloc (.cells #[.int .i64 mx, .int .i64 my] 45)).alloc (.cells #[.int .i64 fm, .int .i64 gm] 41)).drewN nq) osq) := Gr.grow (Gr.drewN (Gr.alloc (Gr.alloc hg6 _) _) _) _
                go_roundg (gk - 1)
                case rel =>
                  refine ⟨j + 1, by omega, rfl, fun i hi hkd => ?_, by rw [gE.below.block _ hsw]; exact HIT.out, HBI.out.trans (gE.below.mono HBI.out.size)⟩
                  rcases Nat.lt_or_eq_of_le (Nat.le_of_lt_succ hi) with q | q
                  · exact HNO.out i q hkd
                  · rw [q]; exact HC2.out hkd
                case measure => omega
        · obtain rfl : j = 4 := by omega
          have hkd : k = d := by
            refine Decidable.byContradiction fun hc => ?_
            obtain ⟨j', v', hj', e', f'⟩ := HEX.out u HU1.out (by rw [HU2.out]; omega)
            have := hno j' hj' (by omega)
            rw [cnd_some e', decide_eq_true f'] at this
            cases this
          have hne := fun ty => Go.Lib.run_next_end_at (P := Tryd.prog) wr X.heap.size sgB 4 ty hit (by decide)
          have HBX := Lib.hid hb
          have HKD := Lib.hid hkd
          clear hb hno hit hkd
          go_wp2
          simp only [Exit.jump]
          go_ret2
          exact ⟨by rw [← HKD.out, HST4.out]; rfl, HB3.out.trans (HBX.out.mono HB3.out.size)⟩
    · intro HP
      have HP := Lib.hid HP
      go_upto_region 4 with (first | (go_at_call 15; refine (HD.out _ (by repeat (first | exact Gr.refl _ | refine Gr.alloc ?_ _ | refine Gr.trans ?_ (by assumption) | refine Gr.drew ?_ | refine Gr.drewN ?_ _ | refine Gr.grow ?_ _ | refine Gr.setCell ?_ (by (try simp); (try omega)) _))).mono ?_; rintro e w1 ⟨rfl, hb1⟩))
      obtain ⟨W1, hW1⟩ : ∃ W, w1.alloc (.cells #[.int .i64 v1, .int .i64 v2] 41) = W := ⟨_, rfl⟩
      have gA : Gr w (w.alloc (.cells #[.string s, .string a] 28)) := Gr.alloc (Gr.refl _) _
      have gB : Gr w1 W1 := by rw [← hW1]; exact Gr.alloc (Gr.refl _) _
      have BW := Lib.hid (show Below w.heap.size w W1 from gA.below.trans ((hb1.mono gA.below.size).trans (gB.below.mono (Nat.le_trans gA.below.size hb1.size))))
      have HW1 := Lib.hid (show w.heap.size < W1.heap.size by have h1 := hb1.size; have h2 := gB.below.size; simp at h1; omega)
      have KC := Lib.hid (show W1.cell? ⟨w.heap.size, 0, none⟩ = some (.string s) ∧ W1.cell? ⟨w.heap.size, 1, none⟩ = some (.string a) from ⟨gB.keep0 (cell_k2 hb1 (by simp [go_sem])), gB.keep0 (cell_k2 hb1 (by simp [go_sem]))⟩)
      have LL := Lib.hid (show (W1.cell? ⟨ga, 0, none⟩ = some (.int .i64 (crn s.size s0).1) ∧ W1.cell? ⟨ga, 1, none⟩ = some (.int .i64 (crn s.size s0).2)) ∧ W1.cell? ⟨gb, 0, none⟩ = some (.int .i64 (crn s.size t0).1) ∧ W1.cell? ⟨gb, 1, none⟩ = some (.int .i64 (crn s.size t0).2) from ⟨⟨cell_k2 BW.out HLM.out.1.1, cell_k2 BW.out HLM.out.1.2⟩, cell_k2 BW.out HLM.out.2.1, cell_k2 BW.out HLM.out.2.2⟩)
      rw [hW1]
      have hA1 := fun W => Tryd.arrAt ga ca W
      have hA2 := fun W => Tryd.arrAt gb cb W
      clear hb1 gA gB hW1
      refine wp_region_held_drew (S := fun W' => W'.cell? ⟨ga, 0, none⟩ = some (.int .i64 (crn s.size s0).1) ∧ W'.cell? ⟨ga, 1, none⟩ = some (.int .i64 (crn s.size s0).2) ∧ W'.cell? ⟨gb, 0, none⟩ = some (.int .i64 (crn s.size t0).1) ∧ W'.cell? ⟨gb, 1, none⟩ = some (.int .i64 (crn s.size t0).2)) (by kernel_rfl) (q4f LL.out (show Gr W1 _ from (by repeat (first | exact Gr.refl _ | refine Gr.alloc ?_ _ | refine Gr.trans ?_ (by assumption) | refine Gr.drew ?_ | refine Gr.drewN ?_ _ | refine Gr.grow ?_ _ | refine Gr.setCell ?_ (by (try simp); (try omega)) _))).below) (fun hHeld => ?_)
      (refine wpAnyH_take (i := 0) (v := ?_) (by simp only [List.getElem?_toArray, List.getElem?_cons_succ, List.getElem?_cons_zero]; exact rfl) (by kernel_rfl) (by kernel_rfl) (by kernel_rfl) (by intro _ _ _ h; exact h) (Or.inl ⟨by rfl, ?_⟩) (by assumption) ?_; rotate_left; (focus (intro w' hSw; (try dsimp only at hSw); go_simp; (try with_reducible rfl))); try simp only [Act.put, List.setIfInBounds_toArray, List.set_cons_zero, List.set_cons_succ])
      (refine wpAnyH_take (i := 1) (v := ?_) (by simp only [List.getElem?_toArray, List.getElem?_cons_succ, List.getElem?_cons_zero]; exact rfl) (by kernel_rfl) (by kernel_rfl) (by kernel_rfl) (by intro _ _ _ h; exact h) (Or.inl ⟨by rfl, ?_⟩) (by assumption) ?_; rotate_left; (focus (intro w' hSw; (try dsimp only at hSw); go_simp; (try with_reducible rfl))); try simp only [Act.put, List.setIfInBounds_toArray, List.set_cons_zero, List.set_cons_succ])
      (refine wpAnyH_take (i := 2) (v := ?_) (by simp only [List.getElem?_toArray, List.getElem?_cons_succ, List.getElem?_cons_zero]; exact rfl) (by kernel_rfl) (by kernel_rfl) (by kernel_rfl) (by intro _ _ _ h; exact h) (Or.inl ⟨by rfl, ?_⟩) (by assumption) ?_; rotate_left; (focus (intro w' hSw; (try dsimp only at hSw); go_simp; (try with_reducible rfl))); try simp only [Act.put, List.setIfInBounds_toArray, List.set_cons_zero, List.set_cons_succ])
      (refine wpAnyH_take (i := 3) (v := ?_) (by simp only [List.getElem?_toArray, List.getElem?_cons_succ, List.getElem?_cons_zero]; exact rfl) (by kernel_rfl) (by kernel_rfl) (by kernel_rfl) (by intro _ _ _ h; exact h) (Or.inl ⟨by rfl, ?_⟩) (by assumption) ?_; rotate_left; (focus (intro w' hSw; (try dsimp only at hSw); go_simp; (try with_reducible rfl))); try simp only [Act.put, List.setIfInBounds_toArray, List.set_cons_zero, List.set_cons_succ])
      (refine wpAnyH_take (i := 4) (v := ?_) (by simp only [List.getElem?_toArray, List.getElem?_cons_succ, List.getElem?_cons_zero]; exact rfl) (by kernel_rfl) (by kernel_rfl) (by kernel_rfl) (by intro _ _ _ h; exact h) (Or.inl ⟨by rfl, ?_⟩) (by assumption) ?_; rotate_left; (focus (intro w' hSw; (try dsimp only at hSw); go_simp; (try with_reducible rfl))); try simp only [Act.put, List.setIfInBounds_toArray, List.set_cons_zero, List.set_cons_succ])
      (refine wpAnyH_take (i := 5) (v := ?_) (by simp only [List.getElem?_toArray, List.getElem?_cons_succ, List.getElem?_cons_zero]; exact rfl) (by kernel_rfl) (by kernel_rfl) (by kernel_rfl) (by intro _ _ _ h; exact h) (Or.inl ⟨by rfl, ?_⟩) (by assumption) ?_; rotate_left; (focus (intro w' hSw; (try dsimp only at hSw); go_simp; (try with_reducible rfl))); try simp only [Act.put, List.setIfInBounds_toArray, List.set_cons_zero, List.set_cons_succ])
      refine wpAnyH_ready (rs := [6, 7]) (by kernel_rfl) (by simp) (AllReadyH.cons (by first | (simp only [List.getElem?_toArray, List.getElem?_cons_succ, List.getElem?_cons_zero]; exact rfl) | rfl) (fun K' hK => ?_) (AllReadyH.cons (by first | (simp only [List.getElem?_toArray, List.getElem?_cons_succ, List.getElem?_cons_zero]; exact rfl) | rfl) (fun K' hK => ?_) AllReadyH.nil))
      · go_simp
        (refine hK.out _ _ (q4f LL.out (show Gr W1 _ from (by repeat (first | exact Gr.refl _ | refine Gr.alloc ?_ _ | refine Gr.trans ?_ (by assumption) | refine Gr.drew ?_ | refine Gr.drewN ?_ _ | refine Gr.grow ?_ _ | refine Gr.setCell ?_ (by (try simp); (try omega)) _))).below) (fun hHeld => ?_); clear hK K'; try simp only [Act.put, List.setIfInBounds_toArray, List.set_cons_zero, List.set_cons_succ])
        refine wpAnyH_ready (rs := [7]) (by kernel_rfl) (by simp) (AllReadyH.cons (by first | (simp only [List.getElem?_toArray, List.getElem?_cons_succ, List.getElem?_cons_zero]; exact rfl) | rfl) (fun K' hK => ?_) AllReadyH.nil)
        go_simp
        (refine hK.out _ _ (q4f LL.out (show Gr W1 _ from (by repeat (first | exact Gr.refl _ | refine Gr.alloc ?_ _ | refine Gr.trans ?_ (by assumption) | refine Gr.drew ?_ | refine Gr.drewN ?_ _ | refine Gr.grow ?_ _ | refine Gr.setCell ?_ (by (try simp); (try omega)) _))).below) (fun hHeld => ?_); clear hK K'; try simp only [Act.put, List.setIfInBounds_toArray, List.set_cons_zero, List.set_cons_succ])
        refine wpAnyH_ready (rs := [8]) (by kernel_rfl) (by simp) (AllReadyH.cons (by first | (simp only [List.getElem?_toArray, List.getElem?_cons_succ, List.getElem?_cons_zero]; exact rfl) | rfl) (fun K' hK => ?_) AllReadyH.nil)
        go_simp
        (refine hK.out _ _ (q4f LL.out (show Gr W1 _ from (by repeat (first | exact Gr.refl _ | refine Gr.alloc ?_ _ | refine Gr.trans ?_ (by assumption) | refine Gr.drew ?_ | refine Gr.drewN ?_ _ | refine Gr.grow ?_ _ | refine Gr.setCell ?_ (by (try simp); (try omega)) _))).below) (fun hHeld => ?_); clear hK K'; try simp only [Act.put, List.setIfInBounds_toArray, List.set_cons_zero, List.set_cons_succ])
        refine wpAnyH_ready (rs := [9]) (by kernel_rfl) (by simp) (AllReadyH.cons (by first | (simp only [List.getElem?_toArray, List.getElem?_cons_succ, List.getElem?_cons_zero]; exact rfl) | rfl) (fun K' hK => ?_) AllReadyH.nil)
        go_simp
        (refine hK.out _ _ (q4f LL.out (show Gr W1 _ from (by repeat (first | exact Gr.refl _ | refine Gr.alloc ?_ _ | refine Gr.trans ?_ (by assumption) | refine Gr.drew ?_ | refine Gr.drewN ?_ _ | refine Gr.grow ?_ _ | refine Gr.setCell ?_ (by (try simp); (try omega)) _))).below) (fun hHeld => ?_); clear hK K'; try simp only [Act.put, List.setIfInBounds_toArray, List.set_cons_zero, List.set_cons_succ])
        refine wpAnyH_done (by kernel_rfl) ?_ _
        go_upto_region 5 with fail
        obtain ⟨V, hV⟩ : ∃ V, ((W1.alloc (.cells #[.int .i64 (crn s.size s0).1, .int .i64 (crn s.size s0).2] 45)).alloc (.cells #[.int .i64 (crn s.size t0).1, .int .i64 (crn s.size t0).2] 45)).drew = V := ⟨_, rfl⟩
        rw [hV]
        have gV : Gr W1 V := by rw [← hV]; exact Gr.drew (Gr.alloc (Gr.alloc (Gr.refl _) _) _)
        obtain ⟨fb, hfb⟩ : ∃ fb, W1.heap.size = fb := ⟨_, rfl⟩
        obtain ⟨tb, htb⟩ : ∃ tb, W1.heap.size + 1 = tb := ⟨_, rfl⟩
        have F0 : V.cell? ⟨fb, 0, none⟩ = some (.int .i64 (crn s.size s0).1) := by rw [← hV, ← hfb]; simp [go_sem]
        have F1 : V.cell? ⟨fb, 1, none⟩ = some (.int .i64 (crn s.size s0).2) := by rw [← hV, ← hfb]; simp [go_sem]
        have F2 : V.frozen? ⟨fb, 0, none⟩ = false := by rw [← hV, ← hfb]; simp [go_sem]
        have F3 : V.frozen? ⟨fb, 1, none⟩ = false := by rw [← hV, ← hfb]; simp [go_sem]
        have T0 : V.cell? ⟨tb, 0, none⟩ = some (.int .i64 (crn s.size t0).1) := by rw [← hV, ← htb]; simp [go_sem]
        have T1 : V.cell? ⟨tb, 1, none⟩ = some (.int .i64 (crn s.size t0).2) := by rw [← hV, ← htb]; simp [go_sem]
        have c0 := gV.keep0 KC.out.1
        have c1 := gV.keep0 KC.out.2
        have HFB := Lib.hid (And.intro (And.intro F0 F1) (And.intro F2 F3))
        have HCC := Lib.hid (And.intro c0 c1)
        have BV := Lib.hid (BW.out.trans (gV.below.mono BW.out.size))
        have hlo : w.heap.size < fb := by rw [← hfb]; have := HW1.out; omega
        have hfV : fb < V.heap.size := World.block_lt_of_cell? _ _ F0
        rw [htb, hfb]
        clear hV gV KC BW hfb htb LL F0 F1 F2 F3
        go_wp2_with (first | (go_at_call 16; refine (HBK.out _).mono ?_; rintro e w5 ⟨rfl, g5⟩; have t0' := g5.keep0 T0; have t1' := g5.keep0 T1; have hz5 : tb < w5.heap.size := World.block_lt_of_cell? _ _ t0') | (go_at_call 17; refine (HDF.out _).mono ?_; rintro e w6 ⟨b6, n6, D6, rfl, hown6, hM6, hb6⟩))

        have gE : Gr V (w5.alloc (.cells #[.string s', .string a'] 28)) := Gr.alloc g5 _
        have bE : Below V.heap.size V w6 := gE.below.trans (hb6.mono gE.below.size)
        go_wp2_with fail
        go_step3
        have e0 : (stW nb F s0 0).1 = s0 := rfl
        refine ‹∀ (a : Act) (w : World), Code.wp _ _ _ a w → _› _ _ (HP.out _ _ ?_)
        refine ⟨0, fb, b6, n6, D6, _, _, _, _, _, _, _, _, _, _, _, _, _, _, _, _, _, _, _, _, _, _, _, _, _, _, _, _, _, _, _, _, _, _, _, _, _, _, _, _, _, _, _, _, _, _, _, _, _, _, _, _, _, _, _, _, _, _, _, _, _, _, _, _, _, _, _, _, _, _, _, _, _, _, _, _, _, rfl, ⟨Nat.zero_le _, BV.out.trans (bE.mono BV.out.size), hown6, hM6, cell_k2 bE HCC.out.1, cell_k2 bE HCC.out.2, ?_, ?_, ?_, ?_, hlo, ?_⟩⟩
        · rw [e0]; exact cell_k2 bE HFB.out.1.1
        · rw [e0]; exact cell_k2 bE HFB.out.1.2
        · exact ((bcell bE).2 _ _ hfV).trans HFB.out.2.1
        · exact ((bcell bE).2 _ _ hfV).trans HFB.out.2.2
        · intro e
          have h1 := cell_k2 bE HFB.out.1.1
          obtain ⟨es, clock, hb, _⟩ := hown6
          subst e
          unfold World.cell? at h1
          rw [hb] at h1
          cases h1
      · go_simp
        (refine hK.out _ _ (q4f LL.out (show Gr W1 _ from (by repeat (first | exact Gr.refl _ | refine Gr.alloc ?_ _ | refine Gr.trans ?_ (by assumption) | refine Gr.drew ?_ | refine Gr.drewN ?_ _ | refine Gr.grow ?_ _ | refine Gr.setCell ?_ (by (try simp); (try omega)) _))).below) (fun hHeld => ?_); clear hK K'; try simp only [Act.put, List.setIfInBounds_toArray, List.set_cons_zero, List.set_cons_succ])
        refine wpAnyH_ready (rs := [6]) (by kernel_rfl) (by simp) (AllReadyH.cons (by first | (simp only [List.getElem?_toArray, List.getElem?_cons_succ, List.getElem?_cons_zero]; exact rfl) | rfl) (fun K' hK => ?_) AllReadyH.nil)
        go_simp
        (refine hK.out _ _ (q4f LL.out (show Gr W1 _ from (by repeat (first | exact Gr.refl _ | refine Gr.alloc ?_ _ | refine Gr.trans ?_ (by assumption) | refine Gr.drew ?_ | refine Gr.drewN ?_ _ | refine Gr.grow ?_ _ | refine Gr.setCell ?_ (by (try simp); (try omega)) _))).below) (fun hHeld => ?_); clear hK K'; try simp only [Act.put, List.setIfInBounds_toArray, List.set_cons_zero, List.set_cons_succ])
        refine wpAnyH_ready (rs := [8]) (by kernel_rfl) (by simp) (AllReadyH.cons (by first | (simp only [List.getElem?_toArray, List.getElem?_cons_succ, List.getElem?_cons_zero]; exact rfl) | rfl) (fun K' hK => ?_) AllReadyH.nil)
        go_simp
        (refine hK.out _ _ (q4f LL.out (show Gr W1 _ from (by repeat (first | exact Gr.refl _ | refine Gr.alloc ?_ _ | refine Gr.trans ?_ (by assumption) | refine Gr.drew ?_ | refine Gr.drewN ?_ _ | refine Gr.grow ?_ _ | refine Gr.setCell ?_ (by (try simp); (try omega)) _))).below) (fun hHeld => ?_); clear hK K'; try simp only [Act.put, List.setIfInBounds_toArray, List.set_cons_zero, List.set_cons_succ])
        refine wpAnyH_ready (rs := [9]) (by kernel_rfl) (by simp) (AllReadyH.cons (by first | (simp only [List.getElem?_toArray, List.getElem?_cons_succ, List.getElem?_cons_zero]; exact rfl) | rfl) (fun K' hK => ?_) AllReadyH.nil)
        go_simp
        (refine hK.out _ _ (q4f LL.out (show Gr W1 _ from (by repeat (first | exact Gr.refl _ | refine Gr.alloc ?_ _ | refine Gr.trans ?_ (by assumption) | refine Gr.drew ?_ | refine Gr.drewN ?_ _ | refine Gr.grow ?_ _ | refine Gr.setCell ?_ (by (try simp); (try omega)) _))).below) (fun hHeld => ?_); clear hK K'; try simp only [Act.put, List.setIfInBounds_toArray, List.set_cons_zero, List.set_cons_succ])
        refine wpAnyH_done (by kernel_rfl) ?_ _
        go_upto_region 5 with fail
        obtain ⟨V, hV⟩ : ∃ V, ((W1.alloc (.cells #[.int .i64 (crn s.size t0).1, .int .i64 (crn s.size t0).2] 45)).alloc (.cells #[.int .i64 (crn s.size s0).1, .int .i64 (crn s.size s0).2] 45)).drew = V := ⟨_, rfl⟩
        rw [hV]
        have gV : Gr W1 V := by rw [← hV]; exact Gr.drew (Gr.alloc (Gr.alloc (Gr.refl _) _) _)
        obtain ⟨fb, hfb⟩ : ∃ fb, W1.heap.size + 1 = fb := ⟨_, rfl⟩
        obtain ⟨tb, htb⟩ : ∃ tb, W1.heap.size = tb := ⟨_, rfl⟩
        have F0 : V.cell? ⟨fb, 0, none⟩ = some (.int .i64 (crn s.size s0).1) := by rw [← hV, ← hfb]; simp [go_sem]
        have F1 : V.cell? ⟨fb, 1, none⟩ = some (.int .i64 (crn s.size s0).2) := by rw [← hV, ← hfb]; simp [go_sem]
        have F2 : V.frozen? ⟨fb, 0, none⟩ = false := by rw [← hV, ← hfb]; simp [go_sem]
        have F3 : V.frozen? ⟨fb, 1, none⟩ = false := by rw [← hV, ← hfb]; simp [go_sem]
        have T0 : V.cell? ⟨tb, 0, none⟩ = some (.int .i64 (crn s.size t0).1) := by rw [← hV, ← htb]; simp [go_sem]
        have T1 : V.cell? ⟨tb, 1, none⟩ = some (.int .i64 (crn s.size t0).2) := by rw [← hV, ← htb]; simp [go_sem]
        have c0 := gV.keep0 KC.out.1
        have c1 := gV.keep0 KC.out.2
        have HFB := Lib.hid (And.intro (And.intro F0 F1) (And.intro F2 F3))
        have HCC := Lib.hid (And.intro c0 c1)
        have BV := Lib.hid (BW.out.trans (gV.below.mono BW.out.size))
        have hlo : w.heap.size < fb := by rw [← hfb]; have := HW1.out; omega
        have hfV : fb < V.heap.size := World.block_lt_of_cell? _ _ F0
        rw [hfb, htb]
        clear hV gV KC BW hfb htb LL F0 F1 F2 F3
        go_wp2_with (first | (go_at_call 16; refine (HBK.out _).mono ?_; rintro e w5 ⟨rfl, g5⟩; have t0' := g5.keep0 T0; have t1' := g5.keep0 T1; have hz5 : tb < w5.heap.size := World.block_lt_of_cell? _ _ t0') | (go_at_call 17; refine (HDF.out _).mono ?_; rintro e w6 ⟨b6, n6, D6, rfl, hown6, hM6, hb6⟩))
        have gE : Gr V (w5.alloc (.cells #[.string s', .string a'] 28)) := Gr.alloc g5 _
        have bE : Below V.heap.size V w6 := gE.below.trans (hb6.mono gE.below.size)
        go_wp2_with fail
        go_step3
        have e0 : (stW nb F s0 0).1 = s0 := rfl
        refine ‹∀ (a : Act) (w : World), Code.wp _ _ _ a w → _› _ _ (HP.out _ _ ?_)
        refine ⟨0, fb, b6, n6, D6, _, _, _, _, _, _, _, _, _, _, _, _, _, _, _, _, _, _, _, _, _, _, _, _, _, _, _, _, _, _, _, _, _, _, _, _, _, _, _, _, _, _, _, _, _, _, _, _, _, _, _, _, _, _, _, _, _, _, _, _, _, _, _, _, _, _, _, _, _, _, _, _, _, _, _, _, _, rfl, ⟨Nat.zero_le _, BV.out.trans (bE.mono BV.out.size), hown6, hM6, cell_k2 bE HCC.out.1, cell_k2 bE HCC.out.2, ?_, ?_, ?_, ?_, hlo, ?_⟩⟩
        · rw [e0]; exact cell_k2 bE HFB.out.1.1
        · rw [e0]; exact cell_k2 bE HFB.out.1.2
        · exact ((bcell bE).2 _ _ hfV).trans HFB.out.2.1
        · exact ((bcell bE).2 _ _ hfV).trans HFB.out.2.2
        · intro e
          have h1 := cell_k2 bE HFB.out.1.1
          obtain ⟨es, clock, hb, _⟩ := hown6
          subst e
          unfold World.cell? at h1
          rw [hb] at h1
          cases h1
end Go.Proofs
