/-
  Chapter 6: a word that is driven, the model (spec.DriveWord).
-/
import Derived.Test.YtkhjjafeoijaaabDoorLwD
namespace Go.Proofs
open Go.RowKit Av
set_option linter.unusedVariables false
set_option linter.unusedSimpArgs false
theorem cell_gb {w w' : World} {row : Option Nat} (d : w.grownBy w' row) {b o : Nat} {v : Value} (h : w.cell? ⟨b, o, none⟩ = some v) (hne : some b ≠ row) : w'.cell? ⟨b, o, none⟩ = some v := by
  have hb := World.block_lt_of_cell? _ _ h
  have e := d.block b hb hne
  unfold World.cell? at *
  simp only at *
  rw [e]
  exact h
theorem own_two (w : World) (B : Nat) (h : B ≤ w.heap.size) (x y : Int) : OwnI (w.alloc (.cells #[.int .i64 x, .int .i64 y] 3)) B (.slice (some ⟨w.heap.size, 0, none⟩) 2 2) [x, y] :=
  ⟨rfl, .inr ⟨w.heap.size, 2, #[.int .i64 x, .int .i64 y], rfl, h, heap_alloc_new _ _, Nat.le_refl _, by decide, rfl, rfl⟩⟩
def WdS (s a : ByteArray) (t : ByteArray) (p : Cr) (w : World) (x y i : Value) (wr : World) : Prop :=
  Gr w wr ∧ ∃ k q, k ≤ t.size ∧ i = .int .i64 (k : Nat) ∧ gone (stW2 s a) t p k = some q ∧ onC a.size s.size q ∧ x = .int .i64 q.1 ∧ y = .int .i64 q.2
/-- a step of the model by whatever sign -/
theorem owV_is (s a : ByteArray) (x y j : Nat) : ∃ u v : Int, owV s a x y j = .tuple #[.int .i64 u, .int .i64 v, .bool (drv s a x y j)] ∧ (drv s a x y j = true → u = (x : Int) + dx j ∧ v = (y : Int) + dy j) := by
  unfold owV drv
  cases mayB s a x y j
  · exact ⟨0, 0, rfl, fun h => by simp at h⟩
  · exact ⟨_, _, rfl, fun _ => ⟨rfl, rfl⟩⟩
set_option maxRecDepth 100000 in
set_option maxHeartbeats 3200000 in
theorem Tryd.sDriveWord (w : World) (s a : ByteArray) (hs : s.size ≤ maxLen) (ha : a.size ≤ maxLen) (Ba : Nat) (la : Value) (xs : List Int) (t : ByteArray) (ht : t.size ≤ maxLen) (R : Option Cr) (hR : dvR s a xs t = R) (hla : OwnI w Ba la xs) :
    Calls Tryd.prog 13 #[.agg #[.string s, .string a], la, .string t] w fun e w' => ∃ v, e = .returned (.tuple #[v, .bool R.isSome]) ∧ OwnI w' w.heap.size v (lsO R) ∧ Below w.heap.size w w' := by
  have mixed : Tryd.prog.follows .mixedOrders = true := by kernel_rfl
  unfold maxLen at ht
  obtain ⟨b1, h1⟩ : ∃ b1, okW s a = b1 := ⟨_, rfl⟩
  obtain ⟨b2, h2⟩ : ∃ b1, isC a.size s.size xs = b1 := ⟨_, rfl⟩
  have HA := Lib.hid (fun (X : World) => Tryd.owGood X s a hs ha b1 h1)
  cases b1
  · have HF := Lib.hid (show R = none by rw [← hR]; exact dvR_no (by unfold dvP; rw [h1]; rfl))
    obtain ⟨A2, c2, rfl, _⟩ := hla.eta
    clear hla h1 h2 hR
    go_enter Tryd.func13, Tryd.ntmps13
    go_wp2_with (first | (go_at_call 21; refine (HA.out _).mono ?_; rintro e w1 ⟨rfl, hbW⟩; have hcW := (bcell hbW.below).1; have hfW := (bcell hbW.below).2; (try have hzW : w.heap.size < w1.heap.size := by have hq := hbW.below.size; (try simp at hq); omega); (try have hyW : w.heap.size + 1 < w1.heap.size := by have hq := hbW.below.size; (try simp at hq); omega); (try have hxW : w.heap.size + 2 < w1.heap.size := by have hq := hbW.below.size; (try simp at hq); omega)))
    go_ret2
    exact ⟨_, by rw [HF.out]; rfl, by rw [HF.out]; exact OwnI.nil2 _ _, Gr.below (by repeat (first | exact Gr.refl _ | refine Gr.alloc ?_ _ | refine Gr.trans ?_ (by assumption) | refine Gr.drew ?_ | refine Gr.drewN ?_ _ | refine Gr.grow ?_ _ | refine Gr.setCell ?_ (by (try simp); (try omega)) _))⟩
  · obtain ⟨ok1, ok2⟩ := okW_and h1
    have l1 := okT_len ok1
    have l2 := okT_len ok2
    have HC := Lib.hid (fun (X : World) (g : Gr w X) => Tryd.owCorner X s a l1 l2 Ba la xs b2 h2 (hla.gr g))
    cases b2
    · have HF := Lib.hid (show R = none by rw [← hR]; exact dvR_no (by unfold dvP; rw [h2, Bool.and_false]; rfl))
      obtain ⟨A2, c2, rfl, _⟩ := hla.eta
      clear hla h1 h2 hR ok1 ok2 l1 l2
      go_enter Tryd.func13, Tryd.ntmps13
      go_wp2_with (first | (go_at_call 21; refine (HA.out _).mono ?_; rintro e w1 ⟨rfl, hbW⟩; have hcW := (bcell hbW.below).1; have hfW := (bcell hbW.below).2; (try have hzW : w.heap.size < w1.heap.size := by have hq := hbW.below.size; (try simp at hq); omega); (try have hyW : w.heap.size + 1 < w1.heap.size := by have hq := hbW.below.size; (try simp at hq); omega); (try have hxW : w.heap.size + 2 < w1.heap.size := by have hq := hbW.below.size; (try simp at hq); omega)) | (go_at_call 22; refine (HC.out _ (show Gr w _ from (by repeat (first | exact Gr.refl _ | refine Gr.alloc ?_ _ | refine Gr.trans ?_ (by assumption) | refine Gr.drew ?_ | refine Gr.drewN ?_ _ | refine Gr.grow ?_ _ | refine Gr.setCell ?_ (by (try simp); (try omega)) _)))).mono ?_; rintro e w2 ⟨rfl, hbX⟩))
      go_ret2
      exact ⟨_, by rw [HF.out]; rfl, by rw [HF.out]; exact OwnI.nil2 _ _, Gr.below (by repeat (first | exact Gr.refl _ | refine Gr.alloc ?_ _ | refine Gr.trans ?_ (by assumption) | refine Gr.drew ?_ | refine Gr.drewN ?_ _ | refine Gr.grow ?_ _ | refine Gr.setCell ?_ (by (try simp); (try omega)) _))⟩
    · obtain ⟨x, y, rfl, ho⟩ := isC_some h2
      rcases hla.view with ⟨q, _⟩ | ⟨_, gl, cl, rfl, _, _, _, hcl, _⟩
      · cases q
      simp only [List.length_cons, List.length_nil] at HC hcl ⊢
      by_cases hsz : t.size ≤ 100
      · have hR' : gone (stW2 s a) t (x, y) t.size = R := by rw [← hR]; unfold dvR dvP; rw [h1, h2, decide_eq_true hsz]; rfl
        have HRR := Lib.hid hR'
        have HO := Lib.hid ho
        have HST := Lib.hid (fun (X : World) (xn yn : Nat) (hx : xn < a.size) (hy : yn < s.size) (j : Nat) (hj : j < 4) => Tryd.owStep X s a ok1 ok2 xn yn hx hy j hj)
        have HNO := Lib.hid (fun (X : World) (xn yn : Nat) (hx : xn < a.size) (hy : yn < s.size) (cc : UInt8) (hq : ¬ isSg cc) => Tryd.owStepNo X s a ok1 ok2 xn yn hx hy cc hq)
        have zz : ¬ (100 : Int) < (t.size : Int) := by omega
        have l0 := hcl 0 (by omega)
        have l00 := hcl 1 (by omega)
        simp only [List.getD_cons_zero, List.getD_cons_succ] at l0 l00
        have HL := Lib.hid (And.intro l0 l00)
        clear hla h1 h2 hR hR' ho ok1 ok2 l1 l2 hcl l0 l00
        go_enter Tryd.func13, Tryd.ntmps13
        go_wp2_with (first | (go_at_call 21; refine (HA.out _).mono ?_; rintro e w1 ⟨rfl, hbW⟩; have hcW := (bcell hbW.below).1; have hfW := (bcell hbW.below).2; (try have hzW : w.heap.size < w1.heap.size := by have hq := hbW.below.size; (try simp at hq); omega); (try have hyW : w.heap.size + 1 < w1.heap.size := by have hq := hbW.below.size; (try simp at hq); omega); (try have hxW : w.heap.size + 2 < w1.heap.size := by have hq := hbW.below.size; (try simp at hq); omega)) | (go_at_call 22; refine (HC.out _ (show Gr w _ from (by repeat (first | exact Gr.refl _ | refine Gr.alloc ?_ _ | refine Gr.trans ?_ (by assumption) | refine Gr.drew ?_ | refine Gr.drewN ?_ _ | refine Gr.grow ?_ _ | refine Gr.setCell ?_ (by (try simp); (try omega)) _)))).mono ?_; rintro e w2 ⟨rfl, hbX⟩))
        have GA : Gr (w.alloc (.cells #[.string s, .string a] 28)) w2 := hbW.trans hbX
        have GB : Gr w w2 := (Gr.alloc (Gr.refl _) _).trans GA
        have HGA := Lib.hid GA
        have HGB := Lib.hid GB
        have k0 := gr_all GB HL.out.1
        have k1 := gr_all GB HL.out.2
        clear GA GB
        (refine wp_region_quiet_grown mixed (by kernel_rfl) ?_; (repeat (first | go_big_quiet_step ((fail)) | quiet_step ((fail)))); refine wpQuiet_nil ?_; intro _ hw'; obtain ⟨⟨nq, osq⟩, hw''⟩ := hw'; subst hw'')
        clear k0 k1
        have GC : Gr w2 (Go.Sort.grow (w2.drewN nq) osq) := Gr.grow (Gr.drewN (Gr.refl _) _) _
        have HGC := Lib.hid GC
        obtain ⟨W3, hW3⟩ : ∃ X, Go.Sort.grow (w2.drewN nq) osq = X := ⟨_, rfl⟩
        rw [hW3] at HGC
        simp only [hW3]
        clear GC hW3
        go_wp2_with fail
        go_loopw [8, 9, 10] (fun xv yv i wr => WdS s a t (x, y) W3 xv yv i wr) (fun _ _ i _ => (t.size - intOf i).toNat)
        case atStart => exact ⟨Gr.refl _, 0, (x, y), Nat.zero_le _, rfl, rfl, HO.out, rfl, rfl⟩
        case round =>
          obtain ⟨gr, k, q, hk, rfl, hgo, hok, rfl, rfl⟩ := hrel
          have HG := Lib.hid gr
          have hgw : Gr w wr := HGB.out.trans (HGC.out.trans gr)
          have hgc : Gr (w.alloc (.cells #[.string s, .string a] 28)) wr := HGA.out.trans (HGC.out.trans gr)
          have HGW := Lib.hid hgw
          by_cases hlt : k < t.size
          · have z0 : (0 : Int) ≤ (k : Int) := by omega
            have z1 : (k : Int) < (t.size : Int) := by omega
            have q0 := gr_all hgc (a := ⟨w.heap.size, 0, none⟩) (v := .string s) (by simp [go_sem])
            have q1 := gr_all hgc (a := ⟨w.heap.size, 1, none⟩) (v := .string a) (by simp [go_sem])
            obtain ⟨xn, yn, rfl, hx, hy⟩ := onC_nat hok
            by_cases hsg : isSg (t[k]'hlt)
            · have HS1 := Lib.hid (fun (X : World) => HST.out X xn yn hx hy (sgx (t[k]'hlt)) (sgx_lt _))
              rw [← sgx_sgn hsg] at HS1
              have HGS := Lib.hid (gone_sg hgo hlt hsg)
              have hst2 : ∀ j, stW2 s a ((xn : Int), (yn : Int)) j = if drv s a xn yn j = true then some (nx ((xn : Int), (yn : Int)) j) else none := fun j => by unfold stW2; simp only [Int.toNat_natCast]
              obtain ⟨j, hj⟩ : ∃ j, sgx (t[k]'hlt) = j := ⟨_, rfl⟩
              rw [hj] at HS1 HGS
              obtain ⟨u, v, e5, e6⟩ := owV_is s a xn yn j
              rw [e5] at HS1
              simp only at HS1 ⊢
              cases hst : drv s a xn yn j
              · rw [hst] at HS1
                have HF := Lib.hid (show R = none by
                  rw [← HRR.out]
                  have e : gone (stW2 s a) t (x, y) (k + 1) = none := by rw [HGS.out, hst2, hst]; rfl
                  have := gone_none e (t.size - (k + 1))
                  rwa [show k + 1 + (t.size - (k + 1)) = t.size by omega] at this)
                clear gr hgo hok hgw hgc hsg hj hst e5 e6 hst2
                go_wp2_with fail
                (refine wp_region_quiet_grown mixed (by kernel_rfl) ?_; (repeat (first | go_big_quiet_step ((go_at_call 24; exact Calls.grown_of (HS1.out _))) | quiet_step ((go_at_call 24; exact Calls.grown_of (HS1.out _))))); refine wpQuiet_nil ?_; intro _ hw'; obtain ⟨⟨nq, osq⟩, hw''⟩ := hw'; subst hw'')
                clear q0 q1
                go_wp2
                go_ret2
                exact ⟨_, by rw [HF.out]; rfl, by rw [HF.out]; exact OwnI.nil2 _ _, Gr.below (Gr.grow (Gr.drewN HGW.out _) _)⟩
              · rw [hst] at HS1
                obtain ⟨eu, ev⟩ := e6 hst
                have hN : gone (stW2 s a) t (x, y) (k + 1) = some (u, v) := by rw [HGS.out, hst2, hst, eu, ev]; rfl
                have HN := Lib.hid hN
                have HON := Lib.hid (show onC a.size s.size (u, v) from stW2_ok (q := ((xn : Int), (yn : Int))) (j := j) hok (by rw [hst2, hst, eu, ev]; rfl))
                clear gr hgo hok hgw hgc hsg hj hst e5 e6 hst2 eu ev hN
                go_wp2_with fail
                (refine wp_region_quiet_grown mixed (by kernel_rfl) ?_; (repeat (first | go_big_quiet_step ((go_at_call 24; exact Calls.grown_of (HS1.out _))) | quiet_step ((go_at_call 24; exact Calls.grown_of (HS1.out _))))); refine wpQuiet_nil ?_; intro _ hw'; obtain ⟨⟨nq, osq⟩, hw''⟩ := hw'; subst hw'')
                clear q0 q1
                go_wp2
                go_roundw
                case rel => exact ⟨Gr.grow (Gr.drewN HG.out _) _, k + 1, (u, v), by omega, by go_num, HN.out, HON.out, rfl, rfl⟩
                case measure => simp [intOf]; omega
            · have HS1 := Lib.hid (fun (X : World) => HNO.out X xn yn hx hy (t[k]'hlt) hsg)
              have HF := Lib.hid (show R = none by
                rw [← HRR.out]
                have := gone_none (gone_no hgo hlt hsg) (t.size - (k + 1))
                rwa [show k + 1 + (t.size - (k + 1)) = t.size by omega] at this)
              simp only at HS1 ⊢
              clear gr hgo hok hgw hgc hsg
              go_wp2_with fail
              (refine wp_region_quiet_grown mixed (by kernel_rfl) ?_; (repeat (first | go_big_quiet_step ((go_at_call 24; exact Calls.grown_of (HS1.out _))) | quiet_step ((go_at_call 24; exact Calls.grown_of (HS1.out _))))); refine wpQuiet_nil ?_; intro _ hw'; obtain ⟨⟨nq, osq⟩, hw''⟩ := hw'; subst hw'')
              clear q0 q1
              go_wp2
              go_ret2
              exact ⟨_, by rw [HF.out]; rfl, by rw [HF.out]; exact OwnI.nil2 _ _, Gr.below (Gr.grow (Gr.drewN HGW.out _) _)⟩
          · obtain rfl : k = t.size := by omega
            have HF := Lib.hid (show R = some q by rw [← HRR.out]; exact hgo)
            obtain ⟨qx, qy⟩ := q
            clear gr hgo hok hgw hgc
            go_wp2
            go_ret2
            exact ⟨_, by rw [HF.out]; rfl, by rw [HF.out]; exact own_two _ _ HGW.out.below.size _ _, Gr.below (Gr.alloc HGW.out _)⟩
      · have HF := Lib.hid (show R = none by rw [← hR]; exact dvR_no (by unfold dvP; rw [h1, h2, decide_eq_false hsz]; rfl))
        have zz : (100 : Int) < (t.size : Int) := by omega
        clear hla h1 h2 hR ho ok1 ok2 l1 l2 hcl
        go_enter Tryd.func13, Tryd.ntmps13
        go_wp2_with (first | (go_at_call 21; refine (HA.out _).mono ?_; rintro e w1 ⟨rfl, hbW⟩; have hcW := (bcell hbW.below).1; have hfW := (bcell hbW.below).2; (try have hzW : w.heap.size < w1.heap.size := by have hq := hbW.below.size; (try simp at hq); omega); (try have hyW : w.heap.size + 1 < w1.heap.size := by have hq := hbW.below.size; (try simp at hq); omega); (try have hxW : w.heap.size + 2 < w1.heap.size := by have hq := hbW.below.size; (try simp at hq); omega)) | (go_at_call 22; refine (HC.out _ (show Gr w _ from (by repeat (first | exact Gr.refl _ | refine Gr.alloc ?_ _ | refine Gr.trans ?_ (by assumption) | refine Gr.drew ?_ | refine Gr.drewN ?_ _ | refine Gr.grow ?_ _ | refine Gr.setCell ?_ (by (try simp); (try omega)) _)))).mono ?_; rintro e w2 ⟨rfl, hbX⟩))
        go_ret2
        exact ⟨_, by rw [HF.out]; rfl, by rw [HF.out]; exact OwnI.nil2 _ _, Gr.below (by repeat (first | exact Gr.refl _ | refine Gr.alloc ?_ _ | refine Gr.trans ?_ (by assumption) | refine Gr.drew ?_ | refine Gr.drewN ?_ _ | refine Gr.grow ?_ _ | refine Gr.setCell ?_ (by (try simp); (try omega)) _))⟩
end Go.Proofs
