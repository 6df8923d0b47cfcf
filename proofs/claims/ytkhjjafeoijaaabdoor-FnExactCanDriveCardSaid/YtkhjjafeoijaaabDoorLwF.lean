/-
  Chapter 6: whether one can drive by a sign, both sides (CanDrive).
-/
import Derived.Test.YtkhjjafeoijaaabDoorLwE
import Derived.Test.YtkhjjafeoijaaabDoorRuT
namespace Go.Proofs
open Go.RowKit Av
set_option linter.unusedVariables false
set_option linter.unusedSimpArgs false
def caB (s a : ByteArray) (xs : List Int) (t : ByteArray) : Bool := okW s a && isC a.size s.size xs && decide (t.size = 1) && decide (isSg (gU t 0))
def caV (s a : ByteArray) (xs : List Int) (t : ByteArray) : Bool := caB s a xs t && drv s a (xs.getD 0 0).toNat (xs.getD 1 0).toNat (sgx (gU t 0))
theorem one_byte {t : ByteArray} (h : t.size = 1) : t = ⟨#[gU t 0]⟩ := by
  apply ByteArray.ext
  have hd : t.data.size = 1 := h
  apply Array.ext
  · rw [hd]; rfl
  · intro i h1 h2
    have e : i = 0 := by have : i < 1 := h2; omega
    subst e
    have := gU_eq t 0 (by omega)
    exact this
theorem ib_sg (c : UInt8) : decide (0 ≤ Lib.indexByte (⟨#[101, 110, 115, 119]⟩ : ByteArray).data.toList c) = decide (isSg c) := by
  by_cases h : isSg c
  · rw [decide_eq_true h]
    rcases h with e | e | e | e <;> subst e <;> decide
  · rw [decide_eq_false h, ixB_none _ _ (sg_not h)]; rfl
set_option maxRecDepth 100000 in
set_option maxHeartbeats 1600000 in
theorem Tryd.iCanDrive (w : World) (s a : ByteArray) (hs : s.size ≤ maxLen) (ha : a.size ≤ maxLen) (Ba : Nat) (la : Value) (xs : List Int) (t : ByteArray) (ht : t.size ≤ maxLen) (b v : Bool) (hb : caB s a xs t = b) (hv : caV s a xs t = v) (hla : OwnI w Ba la xs) :
    Calls Tryd.prog 11 #[.agg #[.string s, .string a], la, .string t] w fun e w' => e = .returned (.tuple #[.bool v, .bool b]) ∧ Below w.heap.size w w' := by
  have mixed : Tryd.prog.follows .mixedOrders = true := by kernel_rfl
  obtain ⟨b1, h1⟩ : ∃ b1, okW s a = b1 := ⟨_, rfl⟩
  obtain ⟨b2, h2⟩ : ∃ b1, isC a.size s.size xs = b1 := ⟨_, rfl⟩
  have HA := Lib.hid (fun (X : World) (g : Gr w X) => Tryd.cornerOfWays X s a hs ha Ba la xs b1 b2 h1 h2 (hla.gr g))
  unfold caV at hv
  rw [hb] at hv
  unfold caB at hb
  rw [h1, h2] at hb
  have htl := ht
  unfold maxLen at htl
  cases hall : (b1 && b2)
  · rw [hall] at hb
    simp only [Bool.false_and] at hb
    subst hb
    simp only [Bool.false_and] at hv
    subst hv
    rw [hall] at HA
    unfold coV at HA
    generalize coX false xs = x1 at *
    generalize coY false xs = y1 at *
    obtain ⟨A2, c2, rfl, _⟩ := hla.eta
    clear hla h1 h2 hall
    go_enter Tryd.func11, Tryd.ntmps11
    go_wp2_with (first | (go_at_call 25; refine (HA.out _ (by repeat (first | exact Gr.refl _ | refine Gr.alloc ?_ _ | refine Gr.trans ?_ (by assumption) | refine Gr.drew ?_ | refine Gr.drewN ?_ _ | refine Gr.grow ?_ _ | refine Gr.setCell ?_ (by (try simp); (try omega)) _))).mono ?_; rintro e w1 ⟨rfl, hbW⟩; have hcW := (bcell hbW.below).1; have hfW := (bcell hbW.below).2; (try have hzW : w.heap.size < w1.heap.size := by have hq := hbW.below.size; (try simp at hq); omega); (try have hyW : w.heap.size + 1 < w1.heap.size := by have hq := hbW.below.size; (try simp at hq); omega); (try have hxW : w.heap.size + 2 < w1.heap.size := by have hq := hbW.below.size; (try simp at hq); omega)))
    go_ret2
    exact ⟨rfl, Gr.below (by repeat (first | exact Gr.refl _ | refine Gr.alloc ?_ _ | refine Gr.trans ?_ (by assumption) | refine Gr.drew ?_ | refine Gr.drewN ?_ _ | refine Gr.grow ?_ _ | refine Gr.setCell ?_ (by (try simp); (try omega)) _))⟩
  · rw [hall] at HA hb
    unfold coV coX coY at HA
    simp only [if_true] at HA
    simp only [Bool.true_and] at hb
    by_cases hsz : t.size = 1
    · have hone := one_byte hsz
      rw [decide_eq_true hsz, Bool.true_and] at hb
      have z1 : ((t.size : Int) == 1) = true := by simp [hsz]
      have HCT := Lib.hid (fun (W : World) => show Calls Tryd.prog 26 #[.string ⟨#[101, 110, 115, 119]⟩, .string t] W (fun e w' => e = .returned (.bool b) ∧ w' = W) from by
        have := Tryd.strings_Contains_one ⟨#[101, 110, 115, 119]⟩ (gU t 0) W
        rw [ib_sg, hb, ← hone] at this
        exact this)
      cases b
      · simp only [Bool.false_and] at hv
        subst hv
        obtain ⟨A2, c2, rfl, _⟩ := hla.eta
        generalize xs.getD 0 0 = x1 at *
        generalize xs.getD 1 0 = y1 at *
        clear hla h1 h2 hall hb hone
        go_enter Tryd.func11, Tryd.ntmps11
        go_wp2_with (first | (go_at_call 25; refine (HA.out _ (by repeat (first | exact Gr.refl _ | refine Gr.alloc ?_ _ | refine Gr.trans ?_ (by assumption) | refine Gr.drew ?_ | refine Gr.drewN ?_ _ | refine Gr.grow ?_ _ | refine Gr.setCell ?_ (by (try simp); (try omega)) _))).mono ?_; rintro e w1 ⟨rfl, hbW⟩; have hcW := (bcell hbW.below).1; have hfW := (bcell hbW.below).2; (try have hzW : w.heap.size < w1.heap.size := by have hq := hbW.below.size; (try simp at hq); omega); (try have hyW : w.heap.size + 1 < w1.heap.size := by have hq := hbW.below.size; (try simp at hq); omega); (try have hxW : w.heap.size + 2 < w1.heap.size := by have hq := hbW.below.size; (try simp at hq); omega)) | (go_at_call 26; refine (HCT.out _).mono ?_; rintro e w2 ⟨rfl, rfl⟩))
        go_ret2
        exact ⟨rfl, Gr.below (by repeat (first | exact Gr.refl _ | refine Gr.alloc ?_ _ | refine Gr.trans ?_ (by assumption) | refine Gr.drew ?_ | refine Gr.drewN ?_ _ | refine Gr.grow ?_ _ | refine Gr.setCell ?_ (by (try simp); (try omega)) _))⟩
      · simp only [Bool.true_and] at hv
        simp only [Bool.and_eq_true] at hall
        obtain ⟨rfl, rfl⟩ := hall
        have hsg := of_decide_eq_true hb
        have hk : 0 < t.size := by omega
        have hR : (dvR s a xs t).isSome = v := by
          unfold dvR dvP
          rw [h1, h2, decide_eq_true (show t.size ≤ 100 by omega)]
          simp only [Bool.and_self, if_true]
          rw [hsz, gone_sg (q := (xs.getD 0 0, xs.getD 1 0)) (k := 0) rfl hk (by rw [gU_eq]; exact hsg), gU_eq t 0 hk]
          unfold stW2
          simp only
          rw [hv]
          cases v <;> simp
        have HD := Lib.hid (fun (X : World) (g : Gr w X) => Tryd.iDriveWord X s a hs ha Ba la xs t ht _ rfl (hla.gr g))
        rw [hR] at HD
        generalize lsO (dvR s a xs t) = zr at *
        obtain ⟨A2, c2, rfl, _⟩ := hla.eta
        generalize xs.getD 0 0 = x1 at *
        generalize xs.getD 1 0 = y1 at *
        clear hla h1 h2 hb hone hv hsg hR
        go_enter Tryd.func11, Tryd.ntmps11
        go_wp2_with (first | (go_at_call 25; refine (HA.out _ (by repeat (first | exact Gr.refl _ | refine Gr.alloc ?_ _ | refine Gr.trans ?_ (by assumption) | refine Gr.drew ?_ | refine Gr.drewN ?_ _ | refine Gr.grow ?_ _ | refine Gr.setCell ?_ (by (try simp); (try omega)) _))).mono ?_; rintro e w1 ⟨rfl, hbW⟩; have hcW := (bcell hbW.below).1; have hfW := (bcell hbW.below).2; (try have hzW : w.heap.size < w1.heap.size := by have hq := hbW.below.size; (try simp at hq); omega); (try have hyW : w.heap.size + 1 < w1.heap.size := by have hq := hbW.below.size; (try simp at hq); omega); (try have hxW : w.heap.size + 2 < w1.heap.size := by have hq := hbW.below.size; (try simp at hq); omega)) | (go_at_call 26; refine (HCT.out _).mono ?_; rintro e w2 ⟨rfl, rfl⟩) | (go_at_call 14; refine (HD.out _ (show Gr w _ from (by repeat (first | exact Gr.refl _ | refine Gr.alloc ?_ _ | refine Gr.trans ?_ (by assumption) | refine Gr.drew ?_ | refine Gr.drewN ?_ _ | refine Gr.grow ?_ _ | refine Gr.setCell ?_ (by (try simp); (try omega)) _)))).mono ?_; rintro e w3 ⟨v3, rfl, ov, bv⟩; have hov := ov.eta; clear ov; obtain ⟨Av, cv, rfl, ov⟩ := hov))
        go_ret2
        exact ⟨rfl, Below.trans (Gr.below (by repeat (first | exact Gr.refl _ | refine Gr.alloc ?_ _ | refine Gr.trans ?_ (by assumption) | refine Gr.drew ?_ | refine Gr.drewN ?_ _ | refine Gr.grow ?_ _ | refine Gr.setCell ?_ (by (try simp); (try omega)) _))) (bv.mono (Gr.sz (by repeat (first | exact Gr.refl _ | refine Gr.alloc ?_ _ | refine Gr.trans ?_ (by assumption) | refine Gr.drew ?_ | refine Gr.drewN ?_ _ | refine Gr.grow ?_ _ | refine Gr.setCell ?_ (by (try simp); (try omega)) _))))⟩
    · rw [decide_eq_false hsz, Bool.false_and] at hb
      subst hb
      simp only [Bool.false_and] at hv
      subst hv
      have z1 : ((t.size : Int) == 1) = false := by simp; omega
      have z2 : ((t.size : Int) != 1) = true := by simp [bne, z1]
      obtain ⟨A2, c2, rfl, _⟩ := hla.eta
      generalize xs.getD 0 0 = x1 at *
      generalize xs.getD 1 0 = y1 at *
      clear hla h1 h2 hall
      go_enter Tryd.func11, Tryd.ntmps11
      go_wp2_with (first | (go_at_call 25; refine (HA.out _ (by repeat (first | exact Gr.refl _ | refine Gr.alloc ?_ _ | refine Gr.trans ?_ (by assumption) | refine Gr.drew ?_ | refine Gr.drewN ?_ _ | refine Gr.grow ?_ _ | refine Gr.setCell ?_ (by (try simp); (try omega)) _))).mono ?_; rintro e w1 ⟨rfl, hbW⟩; have hcW := (bcell hbW.below).1; have hfW := (bcell hbW.below).2; (try have hzW : w.heap.size < w1.heap.size := by have hq := hbW.below.size; (try simp at hq); omega); (try have hyW : w.heap.size + 1 < w1.heap.size := by have hq := hbW.below.size; (try simp at hq); omega); (try have hxW : w.heap.size + 2 < w1.heap.size := by have hq := hbW.below.size; (try simp at hq); omega)))
      go_ret2
      exact ⟨rfl, Gr.below (by repeat (first | exact Gr.refl _ | refine Gr.alloc ?_ _ | refine Gr.trans ?_ (by assumption) | refine Gr.drew ?_ | refine Gr.drewN ?_ _ | refine Gr.grow ?_ _ | refine Gr.setCell ?_ (by (try simp); (try omega)) _))⟩
set_option maxRecDepth 100000 in
set_option maxHeartbeats 1600000 in
theorem Tryd.sCanDrive (w : World) (s a : ByteArray) (hs : s.size ≤ maxLen) (ha : a.size ≤ maxLen) (Ba : Nat) (la : Value) (xs : List Int) (t : ByteArray) (ht : t.size ≤ maxLen) (b v : Bool) (hb : caB s a xs t = b) (hv : caV s a xs t = v) (hla : OwnI w Ba la xs) :
    Calls Tryd.prog 8 #[.agg #[.string s, .string a], la, .string t] w fun e w' => e = .returned (.tuple #[.bool v, .bool b]) ∧ Below w.heap.size w w' := by
  have mixed : Tryd.prog.follows .mixedOrders = true := by kernel_rfl
  unfold maxLen at ht
  obtain ⟨b1, h1⟩ : ∃ b1, okW s a = b1 := ⟨_, rfl⟩
  obtain ⟨b2, h2⟩ : ∃ b1, isC a.size s.size xs = b1 := ⟨_, rfl⟩
  have HA := Lib.hid (fun (X : World) => Tryd.owGood X s a hs ha b1 h1)
  unfold caV at hv
  rw [hb] at hv
  unfold caB at hb
  rw [h1, h2] at hb
  cases b1
  · simp only [Bool.false_and] at hb
    subst hb
    simp only [Bool.false_and] at hv
    subst hv
    obtain ⟨A2, c2, rfl, _⟩ := hla.eta
    clear hla h1 h2
    go_enter Tryd.func8, Tryd.ntmps8
    go_wp2_with (first | (go_at_call 21; refine (HA.out _).mono ?_; rintro e w1 ⟨rfl, hbW⟩; have hcW := (bcell hbW.below).1; have hfW := (bcell hbW.below).2; (try have hzW : w.heap.size < w1.heap.size := by have hq := hbW.below.size; (try simp at hq); omega); (try have hyW : w.heap.size + 1 < w1.heap.size := by have hq := hbW.below.size; (try simp at hq); omega); (try have hxW : w.heap.size + 2 < w1.heap.size := by have hq := hbW.below.size; (try simp at hq); omega)))
    go_ret2
    exact ⟨rfl, Gr.below (by repeat (first | exact Gr.refl _ | refine Gr.alloc ?_ _ | refine Gr.trans ?_ (by assumption) | refine Gr.drew ?_ | refine Gr.drewN ?_ _ | refine Gr.grow ?_ _ | refine Gr.setCell ?_ (by (try simp); (try omega)) _))⟩
  · obtain ⟨ok1, ok2⟩ := okW_and h1
    have l1 := okT_len ok1
    have l2 := okT_len ok2
    have HC := Lib.hid (fun (X : World) (g : Gr w X) => Tryd.owCorner X s a l1 l2 Ba la xs b2 h2 (hla.gr g))
    cases b2
    · simp only [Bool.and_false, Bool.false_and] at hb
      subst hb
      simp only [Bool.false_and] at hv
      subst hv
      obtain ⟨A2, c2, rfl, _⟩ := hla.eta
      clear hla h1 h2 ok1 ok2 l1 l2
      go_enter Tryd.func8, Tryd.ntmps8
      go_wp2_with (first | (go_at_call 21; refine (HA.out _).mono ?_; rintro e w1 ⟨rfl, hbW⟩; have hcW := (bcell hbW.below).1; have hfW := (bcell hbW.below).2; (try have hzW : w.heap.size < w1.heap.size := by have hq := hbW.below.size; (try simp at hq); omega); (try have hyW : w.heap.size + 1 < w1.heap.size := by have hq := hbW.below.size; (try simp at hq); omega); (try have hxW : w.heap.size + 2 < w1.heap.size := by have hq := hbW.below.size; (try simp at hq); omega)) | (go_at_call 22; refine (HC.out _ (show Gr w _ from (by repeat (first | exact Gr.refl _ | refine Gr.alloc ?_ _ | refine Gr.trans ?_ (by assumption) | refine Gr.drew ?_ | refine Gr.drewN ?_ _ | refine Gr.grow ?_ _ | refine Gr.setCell ?_ (by (try simp); (try omega)) _)))).mono ?_; rintro e w2 ⟨rfl, hbX⟩))
      go_ret2
      exact ⟨rfl, Gr.below (by repeat (first | exact Gr.refl _ | refine Gr.alloc ?_ _ | refine Gr.trans ?_ (by assumption) | refine Gr.drew ?_ | refine Gr.drewN ?_ _ | refine Gr.grow ?_ _ | refine Gr.setCell ?_ (by (try simp); (try omega)) _))⟩
    · obtain ⟨x, y, rfl, ho⟩ := isC_some h2
      rcases hla.view with ⟨q, _⟩ | ⟨_, gl, cl, rfl, _, _, _, hcl, _⟩
      · cases q
      simp only [List.length_cons, List.length_nil] at HC hcl ⊢
      simp only [Bool.and_self, Bool.true_and] at hb
      by_cases hsz : t.size = 1
      · rw [decide_eq_true hsz, Bool.true_and] at hb
        have hk : 0 < t.size := by omega
        have z1 : ((t.size : Int) == 1) = true := by simp [hsz]
        have z2 : ((t.size : Int) != 1) = false := by simp [bne, z1]
        have z3 : (0 : Int) < (t.size : Int) := by omega
        have HSG := Lib.hid (fun (W : World) => Tryd.owSign W (t[0]'hk) b (by rw [gU_eq, ← hb]; exact decide_eq_true_iff))
        cases b
        · simp only [Bool.false_and] at hv
          subst hv
          clear hla h1 h2 ok1 ok2 l1 l2 ho hcl hb hsz
          go_enter Tryd.func8, Tryd.ntmps8
          go_wp2_with (first | (go_at_call 21; refine (HA.out _).mono ?_; rintro e w1 ⟨rfl, hbW⟩; have hcW := (bcell hbW.below).1; have hfW := (bcell hbW.below).2; (try have hzW : w.heap.size < w1.heap.size := by have hq := hbW.below.size; (try simp at hq); omega); (try have hyW : w.heap.size + 1 < w1.heap.size := by have hq := hbW.below.size; (try simp at hq); omega); (try have hxW : w.heap.size + 2 < w1.heap.size := by have hq := hbW.below.size; (try simp at hq); omega)) | (go_at_call 22; refine (HC.out _ (show Gr w _ from (by repeat (first | exact Gr.refl _ | refine Gr.alloc ?_ _ | refine Gr.trans ?_ (by assumption) | refine Gr.drew ?_ | refine Gr.drewN ?_ _ | refine Gr.grow ?_ _ | refine Gr.setCell ?_ (by (try simp); (try omega)) _)))).mono ?_; rintro e w2 ⟨rfl, hbX⟩) | (go_at_call 23; refine (HSG.out _).mono ?_; rintro e w3 ⟨rfl, rfl⟩))
          go_ret2
          exact ⟨rfl, Gr.below (by repeat (first | exact Gr.refl _ | refine Gr.alloc ?_ _ | refine Gr.trans ?_ (by assumption) | refine Gr.drew ?_ | refine Gr.drewN ?_ _ | refine Gr.grow ?_ _ | refine Gr.setCell ?_ (by (try simp); (try omega)) _))⟩
        · simp only [Bool.true_and, List.getD_cons_zero, List.getD_cons_succ] at hv
          have hsg := of_decide_eq_true hb
          obtain ⟨xn, yn, hq, hx, hy⟩ := onC_nat ho
          simp only [Prod.mk.injEq] at hq
          obtain ⟨rfl, rfl⟩ := hq
          simp only [Int.toNat_natCast] at hv
          rw [← gU_eq t 0 hk] at hv hsg
          have HST := Lib.hid (fun (X : World) => Tryd.owStep X s a ok1 ok2 xn yn hx hy (sgx (t[0]'hk)) (sgx_lt _))
          rw [← sgx_sgn hsg] at HST
          obtain ⟨u, v', e5, _⟩ := owV_is s a xn yn (sgx (t[0]'hk))
          rw [e5, hv] at HST
          have l0 := hcl 0 (by omega)
          have l00 := hcl 1 (by omega)
          simp only [List.getD_cons_zero, List.getD_cons_succ] at l0 l00
          have HL := Lib.hid (And.intro l0 l00)
          clear hla h1 h2 ok1 ok2 l1 l2 ho hcl hb hsz hsg hv e5 l0 l00
          go_enter Tryd.func8, Tryd.ntmps8
          go_wp2_with (first | (go_at_call 21; refine (HA.out _).mono ?_; rintro e w1 ⟨rfl, hbW⟩; have hcW := (bcell hbW.below).1; have hfW := (bcell hbW.below).2; (try have hzW : w.heap.size < w1.heap.size := by have hq := hbW.below.size; (try simp at hq); omega); (try have hyW : w.heap.size + 1 < w1.heap.size := by have hq := hbW.below.size; (try simp at hq); omega); (try have hxW : w.heap.size + 2 < w1.heap.size := by have hq := hbW.below.size; (try simp at hq); omega)) | (go_at_call 22; refine (HC.out _ (show Gr w _ from (by repeat (first | exact Gr.refl _ | refine Gr.alloc ?_ _ | refine Gr.trans ?_ (by assumption) | refine Gr.drew ?_ | refine Gr.drewN ?_ _ | refine Gr.grow ?_ _ | refine Gr.setCell ?_ (by (try simp); (try omega)) _)))).mono ?_; rintro e w2 ⟨rfl, hbX⟩) | (go_at_call 23; refine (HSG.out _).mono ?_; rintro e w3 ⟨rfl, rfl⟩))
          have GA : Gr (w.alloc (.cells #[.string s, .string a] 28)) w2 := hbW.trans hbX
          have GB : Gr w w2 := (Gr.alloc (Gr.refl _) _).trans GA
          have HGB := Lib.hid GB
          have k0 := gr_all GB HL.out.1
          have k1 := gr_all GB HL.out.2
          have q0 := gr_all GA (a := ⟨w.heap.size, 0, none⟩) (v := .string s) (by simp [go_sem])
          have q1 := gr_all GA (a := ⟨w.heap.size, 1, none⟩) (v := .string a) (by simp [go_sem])
          clear GA GB
          (refine wp_region_quiet_grown mixed (by kernel_rfl) ?_; (repeat (first | go_big_quiet_step ((go_at_call 24; exact Calls.grown_of (HST.out _))) | quiet_step ((go_at_call 24; exact Calls.grown_of (HST.out _))))); refine wpQuiet_nil ?_; intro _ hw'; obtain ⟨⟨nq, osq⟩, hw''⟩ := hw'; subst hw'')
          clear k0 k1 q0 q1
          go_wp2
          go_ret2
          exact ⟨rfl, Gr.below (Gr.grow (Gr.drewN HGB.out _) _)⟩
      · rw [decide_eq_false hsz, Bool.false_and] at hb
        subst hb
        simp only [Bool.false_and] at hv
        subst hv
        have z1 : ((t.size : Int) == 1) = false := by simp; omega
        have z2 : ((t.size : Int) != 1) = true := by simp [bne, z1]
        clear hla h1 h2 ok1 ok2 l1 l2 ho hcl
        go_enter Tryd.func8, Tryd.ntmps8
        go_wp2_with (first | (go_at_call 21; refine (HA.out _).mono ?_; rintro e w1 ⟨rfl, hbW⟩; have hcW := (bcell hbW.below).1; have hfW := (bcell hbW.below).2; (try have hzW : w.heap.size < w1.heap.size := by have hq := hbW.below.size; (try simp at hq); omega); (try have hyW : w.heap.size + 1 < w1.heap.size := by have hq := hbW.below.size; (try simp at hq); omega); (try have hxW : w.heap.size + 2 < w1.heap.size := by have hq := hbW.below.size; (try simp at hq); omega)) | (go_at_call 22; refine (HC.out _ (show Gr w _ from (by repeat (first | exact Gr.refl _ | refine Gr.alloc ?_ _ | refine Gr.trans ?_ (by assumption) | refine Gr.drew ?_ | refine Gr.drewN ?_ _ | refine Gr.grow ?_ _ | refine Gr.setCell ?_ (by (try simp); (try omega)) _)))).mono ?_; rintro e w2 ⟨rfl, hbX⟩))
        go_ret2
        exact ⟨rfl, Gr.below (by repeat (first | exact Gr.refl _ | refine Gr.alloc ?_ _ | refine Gr.trans ?_ (by assumption) | refine Gr.drew ?_ | refine Gr.drewN ?_ _ | refine Gr.grow ?_ _ | refine Gr.setCell ?_ (by (try simp); (try omega)) _))⟩
end Go.Proofs
