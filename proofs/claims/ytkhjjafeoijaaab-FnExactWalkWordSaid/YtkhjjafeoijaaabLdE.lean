/-
  Chapter 4: a word that is walked, the model (spec.WalkWord).
-/
import Derived.Test.YtkhjjafeoijaaabLdD
namespace Go.Proofs
open Go.RowKit Av
set_option linter.unusedVariables false
set_option linter.unusedSimpArgs false
theorem cell_gb {w w' : World} {row : Option Nat} (d : w.grownBy w' row) {b o : Nat} {v : Value} (h : w.cell? ⟨b, o, none⟩ = some v) (hne : some b ≠ row) : w'.cell? ⟨b, o, none⟩ = some v := by
  have hb := World.block_lt_of_cell? _ _ h
  have e := d.block b hb hne
  unfold World.cell? at *
  simp only at *
  rw [e]
  exact h
theorem own_two (w : World) (B : Nat) (h : B ≤ w.heap.size) (x y : Int) : OwnI (w.alloc (.cells #[.int .i64 x, .int .i64 y] 3)) B (.slice (some ⟨w.heap.size, 0, none⟩) 2 2) [x, y] :=
  ⟨rfl, .inr ⟨w.heap.size, 2, #[.int .i64 x, .int .i64 y], rfl, h, heap_alloc_new _ _, Nat.le_refl _, by decide, rfl, rfl⟩⟩
set_option maxRecDepth 100000 in
set_option maxHeartbeats 3200000 in
theorem Try.sWalkWord (w : World) (W H : Int) (B : Nat) (a : Value) (ps : List Blk) (Ba : Nat) (la : Value) (xs : List Int) (s : ByteArray) (hs : s.size ≤ maxLen) (R : Option Cr) (hR : wkR W H ps xs s = R) (hl : ps.length ≤ 1048576) (h : OwnB w B a ps) (hla : OwnI w Ba la xs) :
    Calls Try.prog 9 #[.agg #[.int .i64 W, .int .i64 H, a], la, .string s] w fun e w' => ∃ v, e = .returned (.tuple #[v, .bool R.isSome]) ∧ OwnI w' w.heap.size v (lsO R) ∧ Below w.heap.size w w' := by
  have mixed : Try.prog.follows .mixedOrders = true := by kernel_rfl
  unfold maxLen at hs
  obtain ⟨A, c, rfl, h⟩ := OwnE.eta h
  obtain ⟨b1, h1⟩ : ∃ b1, okB W H ps = b1 := ⟨_, rfl⟩
  obtain ⟨b2, h2⟩ : ∃ b1, isC W H xs = b1 := ⟨_, rfl⟩
  have HA := Lib.hid (fun (X : World) (g : Gr w X) => Try.avGood X W H B _ ps b1 h1 hl (h.gr g))
  cases b1
  · have HF := Lib.hid (show R = none by rw [← hR]; exact wkR_no (by unfold wkP; rw [h1]; rfl))
    obtain ⟨A2, c2, rfl, _⟩ := hla.eta
    clear h hla h1 h2 hR
    go_enter Try.func9, Try.ntmps9
    go_wp2_with (first | (go_at_call 24; refine (HA.out _ (by repeat (first | exact Gr.refl _ | refine Gr.alloc ?_ _ | refine Gr.trans ?_ (by assumption) | refine Gr.drew ?_ | refine Gr.drewN ?_ _ | refine Gr.grow ?_ _ | refine Gr.setCell ?_ (by (try simp); (try omega)) _))).mono ?_; rintro e w1 ⟨rfl, hbW⟩; have hcW := (bcell hbW.below).1; have hfW := (bcell hbW.below).2; (try have hzW : w.heap.size < w1.heap.size := by have hq := hbW.below.size; (try simp at hq); omega); (try have hyW : w.heap.size + 1 < w1.heap.size := by have hq := hbW.below.size; (try simp at hq); omega); (try have hxW : w.heap.size + 2 < w1.heap.size := by have hq := hbW.below.size; (try simp at hq); omega)))
    go_ret2
    exact ⟨_, by rw [HF.out]; rfl, by rw [HF.out]; exact OwnI.nil2 _ _, Gr.below (by repeat (first | exact Gr.refl _ | refine Gr.alloc ?_ _ | refine Gr.trans ?_ (by assumption) | refine Gr.drew ?_ | refine Gr.drewN ?_ _ | refine Gr.grow ?_ _ | refine Gr.setCell ?_ (by (try simp); (try omega)) _))⟩
  · obtain ⟨oW, oH, oU⟩ := okB_len h1
    have HC := Lib.hid (fun (X : World) (g : Gr w X) => Try.avCorner X W H A ps.length c Ba la xs oW oH b2 h2 (hla.gr g))
    cases b2
    · have HF := Lib.hid (show R = none by rw [← hR]; exact wkR_no (by unfold wkP; rw [h2, Bool.and_false]; rfl))
      obtain ⟨A2, c2, rfl, _⟩ := hla.eta
      clear h hla h1 h2 hR oW oH oU
      go_enter Try.func9, Try.ntmps9
      go_wp2_with (first | (go_at_call 24; refine (HA.out _ (by repeat (first | exact Gr.refl _ | refine Gr.alloc ?_ _ | refine Gr.trans ?_ (by assumption) | refine Gr.drew ?_ | refine Gr.drewN ?_ _ | refine Gr.grow ?_ _ | refine Gr.setCell ?_ (by (try simp); (try omega)) _))).mono ?_; rintro e w1 ⟨rfl, hbW⟩; have hcW := (bcell hbW.below).1; have hfW := (bcell hbW.below).2; (try have hzW : w.heap.size < w1.heap.size := by have hq := hbW.below.size; (try simp at hq); omega); (try have hyW : w.heap.size + 1 < w1.heap.size := by have hq := hbW.below.size; (try simp at hq); omega); (try have hxW : w.heap.size + 2 < w1.heap.size := by have hq := hbW.below.size; (try simp at hq); omega)) | (go_at_call 25; refine (HC.out _ (show Gr w _ from (by repeat (first | exact Gr.refl _ | refine Gr.alloc ?_ _ | refine Gr.trans ?_ (by assumption) | refine Gr.drew ?_ | refine Gr.drewN ?_ _ | refine Gr.grow ?_ _ | refine Gr.setCell ?_ (by (try simp); (try omega)) _)))).mono ?_; rintro e w2 ⟨rfl, hbX⟩))
      go_ret2
      exact ⟨_, by rw [HF.out]; rfl, by rw [HF.out]; exact OwnI.nil2 _ _, Gr.below (by repeat (first | exact Gr.refl _ | refine Gr.alloc ?_ _ | refine Gr.trans ?_ (by assumption) | refine Gr.drew ?_ | refine Gr.drewN ?_ _ | refine Gr.grow ?_ _ | refine Gr.setCell ?_ (by (try simp); (try omega)) _))⟩
    · obtain ⟨x, y, rfl, ho⟩ := isC_some h2
      rcases hla.view with ⟨q, _⟩ | ⟨_, gl, cl, rfl, _, _, _, hcl, _⟩
      · cases q
      simp only [List.length_cons, List.length_nil] at HC hcl ⊢
      by_cases hsz : s.size ≤ 200
      · have hR' : gone (stC W H ps) s (x, y) s.size = R := by rw [← hR]; unfold wkR wkP; rw [h1, h2, decide_eq_true hsz]; rfl
        have HRR := Lib.hid hR'
        have HO := Lib.hid ho
        have HST := Lib.hid (fun (X : World) (q : Cr) (j : Nat) (hq : onC W H q) (hj : j < 4) (g : Gr w X) => Try.avStep X W H B _ ps q.1 q.2 j hj oW oH hq hl (h.gr g))
        have HNO := Lib.hid (fun (X : World) (q : Cr) (cc : UInt8) (hq : ¬ isSg cc) => Try.avStepNo X W H (.slice A ps.length c) q.1 q.2 cc hq ⟨_, _, _, rfl⟩)
        have zz : ¬ (200 : Int) < (s.size : Int) := by omega
        have l0 := hcl 0 (by omega)
        have l1 := hcl 1 (by omega)
        simp only [List.getD_cons_zero, List.getD_cons_succ] at l0 l1
        have HL := Lib.hid (And.intro l0 l1)
        clear h hla h1 h2 hR hR' ho oW oH oU hcl l0 l1
        go_enter Try.func9, Try.ntmps9
        go_wp2_with (first | (go_at_call 24; refine (HA.out _ (by repeat (first | exact Gr.refl _ | refine Gr.alloc ?_ _ | refine Gr.trans ?_ (by assumption) | refine Gr.drew ?_ | refine Gr.drewN ?_ _ | refine Gr.grow ?_ _ | refine Gr.setCell ?_ (by (try simp); (try omega)) _))).mono ?_; rintro e w1 ⟨rfl, hbW⟩; have hcW := (bcell hbW.below).1; have hfW := (bcell hbW.below).2; (try have hzW : w.heap.size < w1.heap.size := by have hq := hbW.below.size; (try simp at hq); omega); (try have hyW : w.heap.size + 1 < w1.heap.size := by have hq := hbW.below.size; (try simp at hq); omega); (try have hxW : w.heap.size + 2 < w1.heap.size := by have hq := hbW.below.size; (try simp at hq); omega)) | (go_at_call 25; refine (HC.out _ (show Gr w _ from (by repeat (first | exact Gr.refl _ | refine Gr.alloc ?_ _ | refine Gr.trans ?_ (by assumption) | refine Gr.drew ?_ | refine Gr.drewN ?_ _ | refine Gr.grow ?_ _ | refine Gr.setCell ?_ (by (try simp); (try omega)) _)))).mono ?_; rintro e w2 ⟨rfl, hbX⟩))
        have GA : Gr (w.alloc (.cells #[.int .i64 W, .int .i64 H, .slice A ps.length c] 34)) w2 := hbW.trans hbX
        have GB : Gr w w2 := (Gr.alloc (Gr.refl _) _).trans GA
        have HGA := Lib.hid GA
        have HGB := Lib.hid GB
        have k0 := gr_all GB HL.out.1
        have k1 := gr_all GB HL.out.2
        clear GA GB
        (refine wp_region_quiet_grown mixed (by kernel_rfl) ?_; (repeat (first | go_big_quiet_step ((fail)) | quiet_step ((fail)))); refine wpQuiet_nil ?_; intro _ hw'; obtain ⟨⟨nq, osq⟩, hw''⟩ := hw'; subst hw'')
        clear k0 k1
        have GC : Gr w2 (Go.Sort.grow (w2.drewN nq) osq) := Gr.grow (Gr.drewN (Gr.refl _) _) _
        have HGC := Lib.hid GC
        obtain ⟨W3, hW3⟩ : ∃ X, Go.Sort.grow (w2.drewN nq) osq = X := ⟨_, rfl⟩
        rw [hW3] at HGC
        simp only [hW3]
        clear GC hW3
        go_wp2_with fail
        go_loopw [8, 9, 10] (fun xv yv i wr => WkS W H ps s (x, y) W3 xv yv i wr) (fun _ _ i _ => (s.size - intOf i).toNat)
        case atStart => exact ⟨Gr.refl _, 0, (x, y), Nat.zero_le _, rfl, rfl, HO.out, rfl, rfl⟩
        case round =>
          obtain ⟨gr, k, q, hk, rfl, hgo, hok, rfl, rfl⟩ := hrel
          have HG := Lib.hid gr
          have HGO := Lib.hid hgo
          have HK := Lib.hid hok
          have hgw : Gr w wr := HGB.out.trans (HGC.out.trans gr)
          have hgc : Gr (w.alloc (.cells #[.int .i64 W, .int .i64 H, .slice A ps.length c] 34)) wr := HGA.out.trans (HGC.out.trans gr)
          have HGW := Lib.hid hgw
          by_cases hlt : k < s.size
          · have z0 : (0 : Int) ≤ (k : Int) := by omega
            have z1 : (k : Int) < (s.size : Int) := by omega
            obtain ⟨q0, q1, q2⟩ := boxG3 hgc
            by_cases hsg : isSg (s[k]'hlt)
            · have HS1 := Lib.hid (fun (X : World) (g : Gr w X) => HST.out X q (sgx (s[k]'hlt)) hok (sgx_lt _) g)
              rw [← sgx_sgn hsg] at HS1
              have HGS := Lib.hid (gone_sg hgo hlt hsg)
              obtain ⟨j, hj⟩ : ∃ j, sgx (s[k]'hlt) = j := ⟨_, rfl⟩
              rw [hj] at HS1 HGS
              obtain ⟨qx, qy⟩ := q
              unfold stV at HS1
              simp only at HS1 ⊢
              cases hst : stp W H ps (qx, qy) j
              · rw [hst] at HS1
                have HF := Lib.hid (show R = none by
                  rw [← HRR.out]
                  have e : gone (stC W H ps) s (x, y) (k + 1) = none := by rw [HGS.out]; unfold stC; rw [hst]; rfl
                  have := gone_none e (s.size - (k + 1))
                  rwa [show k + 1 + (s.size - (k + 1)) = s.size by omega] at this)
                simp only [Bool.false_eq_true, if_false] at HS1
                clear gr hgo hok hgw hgc hsg hj hst
                go_wp2_with fail
                (refine wp_region_quiet_grown mixed (by kernel_rfl) ?_; (repeat (first | go_big_quiet_step ((go_at_call 26; exact Calls.grown_of (HS1.out _ (Gr.grow (Gr.drewN HGW.out _) _)))) | quiet_step ((go_at_call 26; exact Calls.grown_of (HS1.out _ (Gr.grow (Gr.drewN HGW.out _) _)))))); refine wpQuiet_nil ?_; intro _ hw'; obtain ⟨⟨nq, osq⟩, hw''⟩ := hw'; subst hw'')
                clear q0 q1 q2
                go_wp2
                go_ret2
                exact ⟨_, by rw [HF.out]; rfl, by rw [HF.out]; exact OwnI.nil2 _ _, Gr.below (Gr.grow (Gr.drewN HGW.out _) _)⟩
              · rw [hst] at HS1
                have HN := Lib.hid (show gone (stC W H ps) s (x, y) (k + 1) = some (qx + dx j, qy + dy j) by rw [HGS.out]; unfold stC; rw [hst]; rfl)
                have HON := Lib.hid (show onC W H (qx + dx j, qy + dy j) from stC_ok (ps := ps) (q := (qx, qy)) (j := j) (by unfold stC; rw [hst]; rfl))
                simp only [if_true] at HS1
                clear gr hgo hok hgw hgc hsg hj hst
                generalize qx + dx j = nxx at *
                generalize qy + dy j = nyy at *
                go_wp2_with fail
                (refine wp_region_quiet_grown mixed (by kernel_rfl) ?_; (repeat (first | go_big_quiet_step ((go_at_call 26; exact Calls.grown_of (HS1.out _ (Gr.grow (Gr.drewN HGW.out _) _)))) | quiet_step ((go_at_call 26; exact Calls.grown_of (HS1.out _ (Gr.grow (Gr.drewN HGW.out _) _)))))); refine wpQuiet_nil ?_; intro _ hw'; obtain ⟨⟨nq, osq⟩, hw''⟩ := hw'; subst hw'')
                clear q0 q1 q2
                go_wp2
                go_roundw
                case rel => exact ⟨Gr.grow (Gr.drewN HG.out _) _, k + 1, (nxx, nyy), by omega, by go_num, HN.out, HON.out, rfl, rfl⟩
                case measure => simp [intOf]; omega
            · have HS1 := Lib.hid (fun (X : World) => HNO.out X q (s[k]'hlt) hsg)
              have HF := Lib.hid (show R = none by
                rw [← HRR.out]
                have := gone_none (gone_no hgo hlt hsg) (s.size - (k + 1))
                rwa [show k + 1 + (s.size - (k + 1)) = s.size by omega] at this)
              obtain ⟨qx, qy⟩ := q
              simp only at HS1 ⊢
              clear gr hgo hok hgw hgc hsg
              go_wp2_with fail
              (refine wp_region_quiet_grown mixed (by kernel_rfl) ?_; (repeat (first | go_big_quiet_step ((go_at_call 26; exact Calls.grown_of (HS1.out _))) | quiet_step ((go_at_call 26; exact Calls.grown_of (HS1.out _))))); refine wpQuiet_nil ?_; intro _ hw'; obtain ⟨⟨nq, osq⟩, hw''⟩ := hw'; subst hw'')
              clear q0 q1 q2
              go_wp2
              go_ret2
              exact ⟨_, by rw [HF.out]; rfl, by rw [HF.out]; exact OwnI.nil2 _ _, Gr.below (Gr.grow (Gr.drewN HGW.out _) _)⟩
          · obtain rfl : k = s.size := by omega
            have HF := Lib.hid (show R = some q by rw [← HRR.out]; exact hgo)
            obtain ⟨qx, qy⟩ := q
            clear gr hgo hok hgw hgc
            go_wp2
            go_ret2
            exact ⟨_, by rw [HF.out]; rfl, by rw [HF.out]; exact own_two _ _ HGW.out.below.size _ _, Gr.below (Gr.alloc HGW.out _)⟩
      · have HF := Lib.hid (show R = none by rw [← hR]; exact wkR_no (by unfold wkP; rw [h1, h2, decide_eq_false hsz]; rfl))
        have zz : (200 : Int) < (s.size : Int) := by omega
        clear h hla h1 h2 hR ho oW oH oU hcl
        go_enter Try.func9, Try.ntmps9
        go_wp2_with (first | (go_at_call 24; refine (HA.out _ (by repeat (first | exact Gr.refl _ | refine Gr.alloc ?_ _ | refine Gr.trans ?_ (by assumption) | refine Gr.drew ?_ | refine Gr.drewN ?_ _ | refine Gr.grow ?_ _ | refine Gr.setCell ?_ (by (try simp); (try omega)) _))).mono ?_; rintro e w1 ⟨rfl, hbW⟩; have hcW := (bcell hbW.below).1; have hfW := (bcell hbW.below).2; (try have hzW : w.heap.size < w1.heap.size := by have hq := hbW.below.size; (try simp at hq); omega); (try have hyW : w.heap.size + 1 < w1.heap.size := by have hq := hbW.below.size; (try simp at hq); omega); (try have hxW : w.heap.size + 2 < w1.heap.size := by have hq := hbW.below.size; (try simp at hq); omega)) | (go_at_call 25; refine (HC.out _ (show Gr w _ from (by repeat (first | exact Gr.refl _ | refine Gr.alloc ?_ _ | refine Gr.trans ?_ (by assumption) | refine Gr.drew ?_ | refine Gr.drewN ?_ _ | refine Gr.grow ?_ _ | refine Gr.setCell ?_ (by (try simp); (try omega)) _)))).mono ?_; rintro e w2 ⟨rfl, hbX⟩))
        go_ret2
        exact ⟨_, by rw [HF.out]; rfl, by rw [HF.out]; exact OwnI.nil2 _ _, Gr.below (by repeat (first | exact Gr.refl _ | refine Gr.alloc ?_ _ | refine Gr.trans ?_ (by assumption) | refine Gr.drew ?_ | refine Gr.drewN ?_ _ | refine Gr.grow ?_ _ | refine Gr.setCell ?_ (by (try simp); (try omega)) _))⟩
end Go.Proofs
