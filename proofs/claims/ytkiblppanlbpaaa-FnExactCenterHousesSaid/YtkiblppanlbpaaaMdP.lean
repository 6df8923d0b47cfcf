/-
  Contracts of chapter 5: people who move (both sides).
-/
import Derived.Test.YtkiblppanlbpaaaMdO
namespace Go.Proofs
open Go.RowKit
set_option linter.unusedVariables false
set_option linter.unusedSimpArgs false
theorem OwnI.row {w : World} {B : Nat} {v : Value} {xs : List Int} (h : OwnI w B v xs) (h0 : 0 < xs.length) : ∃ g c, v = .slice (some ⟨g, 0, none⟩) xs.length c ∧ B ≤ g ∧ g < w.heap.size ∧ OwnI w B (.slice (some ⟨g, 0, none⟩) xs.length c) xs := by
  rcases h.view with ⟨e, _⟩ | ⟨_, g, c, rfl, h1, h2, _⟩
  · rw [e] at h0; simp at h0
  · exact ⟨g, c, rfl, h1, h2, h⟩
noncomputable def hsB (xs : List Int) (n : Int) : Bool := @decide (HouseP xs n) (Classical.propDecidable _)
theorem hsB_iff (xs : List Int) (n : Int) : hsB xs n = true ↔ HouseP xs n := @decide_eq_true_iff _ (Classical.propDecidable _)
def MoveP (xs : List Int) (f t m : Int) : Prop := HouseP xs f ∧ HouseP xs t ∧ f ≠ t ∧ 1 ≤ m ∧ m ≤ gx xs f.toNat
def movL (xs : List Int) (f t m : Int) : List Int := (xs.set f.toNat (gx xs f.toNat - m)).set t.toNat (gx xs t.toNat + m)
def MovedP (xs : List Int) (f t m : Int) : Prop := MoveP xs f t m ∧ GoodP (movL xs f t m)
set_option maxRecDepth 100000 in
set_option maxHeartbeats 1600000 in
theorem Try.sMovedPeople (w : World) (B : Nat) (v : Value) (xs : List Int) (f t m : Int) (b : Bool) (hb : b = true ↔ MovedP xs f t m) (hl : xs.length ≤ 1048576) (h : OwnI w B v xs) :
    Calls Try.prog 45 #[v, .int .i64 f, .int .i64 t, .int .i64 m] w (RetL w (if b then movL xs f t m else []) b) := by
  have HO := Lib.hid h
  have HHS := Lib.hid (fun w1 n (g : Gr w w1) => Try.mdHouse w1 B v xs n _ (hsB_iff xs n) hl (HO.out.gr g))
  by_cases hf : HouseP xs f
  case neg =>
    have bf := not_true (hsB_iff xs f) hf
    obtain ⟨A, c, rfl, _⟩ := h.eta
    obtain rfl : b = false := not_true hb (fun q => hf q.1.1)
    clear h hb hf
    go_enter Try.func45, Try.ntmps45
    go_wp2_with (first | (go_at_call 53; refine (HHS.out _ _ (by repeat (first | exact Gr.refl _ | refine Gr.alloc ?_ _ | refine Gr.trans ?_ (by assumption) | refine Gr.drew ?_ | refine Gr.drewN ?_ _ | refine Gr.grow ?_ _ | refine Gr.setCell ?_ (by (try simp); (try omega)) _))).mono ?_; rintro e w1 ⟨rfl, g1⟩))
    go_ret2
    exact ⟨_, rfl, OwnI.nil2 _ _, Gr.below (by repeat (first | exact Gr.refl _ | refine Gr.alloc ?_ _ | refine Gr.trans ?_ (by assumption) | refine Gr.drew ?_ | refine Gr.drewN ?_ _ | refine Gr.grow ?_ _ | refine Gr.setCell ?_ (by (try simp); (try omega)) _))⟩
  have bf := (hsB_iff xs f).2 hf
  by_cases ht : HouseP xs t
  case neg =>
    have bt := not_true (hsB_iff xs t) ht
    obtain ⟨A, c, rfl, _⟩ := h.eta
    obtain rfl : b = false := not_true hb (fun q => ht q.1.2.1)
    clear h hb hf ht
    go_enter Try.func45, Try.ntmps45
    go_wp2_with (first | (go_at_call 53; refine (HHS.out _ _ (by repeat (first | exact Gr.refl _ | refine Gr.alloc ?_ _ | refine Gr.trans ?_ (by assumption) | refine Gr.drew ?_ | refine Gr.drewN ?_ _ | refine Gr.grow ?_ _ | refine Gr.setCell ?_ (by (try simp); (try omega)) _))).mono ?_; rintro e w1 ⟨rfl, g1⟩))
    go_ret2
    exact ⟨_, rfl, OwnI.nil2 _ _, Gr.below (by repeat (first | exact Gr.refl _ | refine Gr.alloc ?_ _ | refine Gr.trans ?_ (by assumption) | refine Gr.drew ?_ | refine Gr.drewN ?_ _ | refine Gr.grow ?_ _ | refine Gr.setCell ?_ (by (try simp); (try omega)) _))⟩
  have bt := (hsB_iff xs t).2 ht
  by_cases hft : f = t
  case pos =>
    obtain ⟨A, c, rfl, _⟩ := h.eta
    obtain rfl : b = false := not_true hb (fun q => q.1.2.2.1 hft)
    subst hft
    have d1 : ((f : Int) == f) = true := by simp
    clear h hb hf ht
    go_enter Try.func45, Try.ntmps45
    go_wp2_with (first | (go_at_call 53; refine (HHS.out _ _ (by repeat (first | exact Gr.refl _ | refine Gr.alloc ?_ _ | refine Gr.trans ?_ (by assumption) | refine Gr.drew ?_ | refine Gr.drewN ?_ _ | refine Gr.grow ?_ _ | refine Gr.setCell ?_ (by (try simp); (try omega)) _))).mono ?_; rintro e w1 ⟨rfl, g1⟩))
    go_ret2
    exact ⟨_, rfl, OwnI.nil2 _ _, Gr.below (by repeat (first | exact Gr.refl _ | refine Gr.alloc ?_ _ | refine Gr.trans ?_ (by assumption) | refine Gr.drew ?_ | refine Gr.drewN ?_ _ | refine Gr.grow ?_ _ | refine Gr.setCell ?_ (by (try simp); (try omega)) _))⟩
  have hxl := hf.1.1
  have HGD := Lib.hid hf.1
  obtain ⟨fn, rfl⟩ : ∃ n : Nat, f = (n : Int) := ⟨f.toNat, by have := hf.2; omega⟩
  obtain ⟨tn, rfl⟩ : ∃ n : Nat, t = (n : Int) := ⟨t.toNat, by have := ht.2; omega⟩
  have hfn : fn < xs.length := by have := hf.2; omega
  have htn : tn < xs.length := by have := ht.2; omega
  have hne : ¬ fn = tn := by omega
  have hne2 : ¬ tn = fn := by omega
  have d1 : (((fn : Int)) == (tn : Int)) = false := by simp; omega
  have z0 : (0 : Int) ≤ (fn : Int) := by omega
  have z1 : (fn : Int) < (xs.length : Int) := by omega
  have z2 : (0 : Int) ≤ (tn : Int) := by omega
  have z3 : (tn : Int) < (xs.length : Int) := by omega
  have hML : movL xs (fn : Int) (tn : Int) m = (xs.set fn (gx xs fn - m)).set tn (gx xs tn + m) := rfl
  have hMP : MovedP xs (fn : Int) (tn : Int) m ↔ (1 ≤ m ∧ m ≤ gx xs fn) ∧ GoodP (movL xs (fn : Int) (tn : Int) m) := ⟨fun q => ⟨q.1.2.2.2, q.2⟩, fun q => ⟨⟨hf, ht, hft, q.1⟩, q.2⟩⟩
  obtain ⟨g, c, rfl, _, gl, _⟩ := h.row hxl.1
  rcases h.view with ⟨q, _⟩ | ⟨_, g', c', q, _, _, _, hc, _⟩
  · rw [q] at hxl; simp at hxl
  simp only [Value.slice.injEq, Option.some.injEq, Addr.mk.injEq] at q
  obtain ⟨⟨q, _⟩, _, q2⟩ := q
  subst q
  subst q2
  have e0 := hc fn hfn
  rw [show xs.getD fn 0 = gx xs fn from rfl] at e0
  have bx := hf.1.bd fn
  have by' := hf.1.bd tn
  have HE0 := Lib.hid e0
  cases hi : inn m 1 (gx xs fn)
  · have HI := Lib.hid hi
    obtain rfl : b = false := not_true hb (fun q => by have := (hMP.1 q).1; have := of_decide_eq_false hi; omega)
    rw [if_neg (by simp)]
    generalize gx xs fn = x at *
    clear h hb hf ht hi hc hMP hML
    go_enter Try.func45, Try.ntmps45
    go_wp2_with (first | (go_at_call 53; refine (HHS.out _ _ (by first | exact Gr.refl _ | assumption)).mono ?_; rintro e w1 ⟨rfl, g1⟩; have gw := (show Gr w w1 from (by first | assumption | exact Gr.trans (by assumption) g1)); have e2 := gw.keep2 HE0.out) | (go_at_call 74; refine (Try.l1In _ _ _ _ HI.out _).mono ?_; rintro e w1 ⟨rfl, rfl⟩))
    go_ret2
    exact ⟨_, rfl, OwnI.nil2 _ _, gw.below⟩
  · have HI := Lib.hid hi
    have hm := inn_e hi
    have hMP' : b = true ↔ GoodP (movL xs (fn : Int) (tn : Int) m) := hb.trans (hMP.trans ⟨fun q => q.2, fun q => ⟨hm, q⟩⟩)
    rw [hML] at hMP' ⊢
    have HMP := Lib.hid hMP'
    have HC := Lib.hid (fun W (g' : Gr w W) => Try.l1Own W B _ xs hxl.1 hl (HO.out.gr g'))
    have HROW := Lib.hid (fun (W : World) (B : Nat) (v : Value) (h : OwnI W B v xs) => h.row hxl.1)
    have HAT := Lib.hid (fun (W : World) (B g n c : Nat) (h : OwnI W B (.slice (some ⟨g, 0, none⟩) xs.length c) xs) => h.at rfl fn hfn)
    have HAT2 := Lib.hid (fun (W : World) (B g n c : Nat) (h : OwnI W B (.slice (some ⟨g, 0, none⟩) xs.length c) xs) => h.at rfl tn htn)
    have HST := Lib.hid (fun (W : World) (B g c : Nat) (h : OwnI W B (.slice (some ⟨g, 0, none⟩) xs.length c) xs) =>
      OwnI.set (OwnI.set h rfl fn (gx xs fn - m)) (by simp) tn (gx xs tn + m))
    have HGO := Lib.hid (fun (W : World) (B : Nat) (v : Value) (h : OwnI W B v ((xs.set fn (gx xs fn - m)).set tn (gx xs tn + m))) => Try.mdGood W B v _ b hMP' (by simp; omega) h)
    rw [show xs.getD fn 0 = gx xs fn from rfl] at HAT
    rw [show xs.getD tn 0 = gx xs tn from rfl] at HAT2
    obtain ⟨ys, hys⟩ : ∃ ys, (xs.set fn (gx xs fn - m)).set tn (gx xs tn + m) = ys := ⟨_, rfl⟩
    rw [hys] at HST HGO ⊢
    obtain ⟨x, hx⟩ : ∃ x, gx xs fn = x := ⟨_, rfl⟩
    obtain ⟨y, hy⟩ : ∃ y, gx xs tn = y := ⟨_, rfl⟩
    rw [hx] at HAT HST bx HE0 HI hm
    rw [hy] at HAT2 HST by'
    have w1' : IntKind.i64.wrap (x - m) = x - m := IntWalk.i64_in _ (by omega)
    have w2' : IntKind.i64.wrap (y + m) = y + m := IntWalk.i64_in _ (by omega)
    clear h hb hf ht hi hc hMP hMP' HMP hML hys hx hy e0
    cases b
    · go_enter Try.func45, Try.ntmps45
      go_wp2_with (first | (go_at_call 53; refine (HHS.out _ _ (by first | exact Gr.refl _ | assumption)).mono ?_; rintro e w1 ⟨rfl, g1⟩; have gw := (show Gr w w1 from (by first | assumption | exact Gr.trans (by assumption) g1)); have e2 := gw.keep2 HE0.out) | (go_at_call 74; refine (Try.l1In _ _ _ _ HI.out _).mono ?_; rintro e w1 ⟨rfl, rfl⟩) | (go_at_call 77; refine (HC.out _ gw).mono ?_; rintro e w3 ⟨v2, rfl, ho2, hb2⟩; obtain ⟨g2', c2, rfl, hg2, hg2l, ho3⟩ := HROW.out _ _ _ ho2; have f0 := (HAT.out _ _ _ 0 _ ho3); have f0c := f0.1; have f0f := f0.2; have f1 := (HAT2.out _ _ _ 0 _ ho3); have f2 : (w3.setCell ⟨g2', fn, none⟩ (.int .i64 (x - m))).cell? ⟨g2', tn, none⟩ = some (.int .i64 y) := (World.cell?_setCell_other _ ⟨g2', fn, none⟩ ⟨g2', tn, none⟩ _ (by first | (simp; done) | (simp; omega))).trans f1.1; have f3 : (w3.setCell ⟨g2', fn, none⟩ (.int .i64 (x - m))).frozen? ⟨g2', tn, none⟩ = false := (by simpa using f1.2); have OS := Lib.hid (HST.out _ _ _ _ ho3); have HB5 := Lib.hid (Below.setCell (Below.setCell hb2 (p := ⟨g2', fn, none⟩) hg2 (.int .i64 (x - m))) (p := ⟨g2', tn, none⟩) hg2 (.int .i64 (y + m))); clear f0 f1 ho2 ho3 hb2) | (go_at_call 49; refine (HGO.out _ _ _ OS.out).mono ?_; rintro e w6 ⟨rfl, g6⟩))
      have s1 := gw.below.size
      have BT := Lib.hid (gw.below.trans ((HB5.out.trans (g6.below.mono (by have := HB5.out.size; exact this))).mono s1))
      clear HB5
      go_wp2
      go_ret2
      exact ⟨_, rfl, OwnI.nil2 _ _, BT.out⟩
    · go_enter Try.func45, Try.ntmps45
      go_wp2_with (first | (go_at_call 53; refine (HHS.out _ _ (by first | exact Gr.refl _ | assumption)).mono ?_; rintro e w1 ⟨rfl, g1⟩; have gw := (show Gr w w1 from (by first | assumption | exact Gr.trans (by assumption) g1)); have e2 := gw.keep2 HE0.out) | (go_at_call 74; refine (Try.l1In _ _ _ _ HI.out _).mono ?_; rintro e w1 ⟨rfl, rfl⟩) | (go_at_call 77; refine (HC.out _ gw).mono ?_; rintro e w3 ⟨v2, rfl, ho2, hb2⟩; obtain ⟨g2', c2, rfl, hg2, hg2l, ho3⟩ := HROW.out _ _ _ ho2; have f0 := (HAT.out _ _ _ 0 _ ho3); have f0c := f0.1; have f0f := f0.2; have f1 := (HAT2.out _ _ _ 0 _ ho3); have f2 : (w3.setCell ⟨g2', fn, none⟩ (.int .i64 (x - m))).cell? ⟨g2', tn, none⟩ = some (.int .i64 y) := (World.cell?_setCell_other _ ⟨g2', fn, none⟩ ⟨g2', tn, none⟩ _ (by first | (simp; done) | (simp; omega))).trans f1.1; have f3 : (w3.setCell ⟨g2', fn, none⟩ (.int .i64 (x - m))).frozen? ⟨g2', tn, none⟩ = false := (by simpa using f1.2); have OS := Lib.hid (HST.out _ _ _ _ ho3); have HB5 := Lib.hid (Below.setCell (Below.setCell hb2 (p := ⟨g2', fn, none⟩) hg2 (.int .i64 (x - m))) (p := ⟨g2', tn, none⟩) hg2 (.int .i64 (y + m))); clear f0 f1 ho2 ho3 hb2) | (go_at_call 49; refine (HGO.out _ _ _ OS.out).mono ?_; rintro e w6 ⟨rfl, g6⟩))
      have s1 := gw.below.size
      have BT := Lib.hid (gw.below.trans ((HB5.out.trans (g6.below.mono (by have := HB5.out.size; exact this))).mono s1))
      clear HB5
      go_wp2
      go_ret2
      exact ⟨_, rfl, (OS.out.gr g6).mono s1, BT.out⟩
set_option maxRecDepth 100000 in
set_option maxHeartbeats 1600000 in
theorem Try.iMovedPeople (w : World) (B : Nat) (v : Value) (xs : List Int) (f t m : Int) (b : Bool) (hb : b = true ↔ MovedP xs f t m) (hl : xs.length ≤ 1048576) (h : OwnI w B v xs) :
    Calls Try.prog 46 #[v, .int .i64 f, .int .i64 t, .int .i64 m] w (RetL w (if b then movL xs f t m else []) b) := by
  have HO := Lib.hid h
  have HHS := Lib.hid (fun w1 n (g : Gr w w1) => Try.haveHouse w1 B v xs n _ (hsB_iff xs n) hl (HO.out.gr g))
  by_cases hf : HouseP xs f
  case neg =>
    have bf := not_true (hsB_iff xs f) hf
    obtain ⟨A, c, rfl, _⟩ := h.eta
    obtain rfl : b = false := not_true hb (fun q => hf q.1.1)
    clear h hb hf
    go_enter Try.func46, Try.ntmps46
    go_wp2_with (first | (go_at_call 59; refine (HHS.out _ _ (by repeat (first | exact Gr.refl _ | refine Gr.alloc ?_ _ | refine Gr.trans ?_ (by assumption) | refine Gr.drew ?_ | refine Gr.drewN ?_ _ | refine Gr.grow ?_ _ | refine Gr.setCell ?_ (by (try simp); (try omega)) _))).mono ?_; rintro e w1 ⟨rfl, g1⟩))
    go_ret2
    exact ⟨_, rfl, OwnI.nil2 _ _, Gr.below (by repeat (first | exact Gr.refl _ | refine Gr.alloc ?_ _ | refine Gr.trans ?_ (by assumption) | refine Gr.drew ?_ | refine Gr.drewN ?_ _ | refine Gr.grow ?_ _ | refine Gr.setCell ?_ (by (try simp); (try omega)) _))⟩
  have bf := (hsB_iff xs f).2 hf
  by_cases ht : HouseP xs t
  case neg =>
    have bt := not_true (hsB_iff xs t) ht
    obtain ⟨A, c, rfl, _⟩ := h.eta
    obtain rfl : b = false := not_true hb (fun q => ht q.1.2.1)
    clear h hb hf ht
    go_enter Try.func46, Try.ntmps46
    go_wp2_with (first | (go_at_call 59; refine (HHS.out _ _ (by repeat (first | exact Gr.refl _ | refine Gr.alloc ?_ _ | refine Gr.trans ?_ (by assumption) | refine Gr.drew ?_ | refine Gr.drewN ?_ _ | refine Gr.grow ?_ _ | refine Gr.setCell ?_ (by (try simp); (try omega)) _))).mono ?_; rintro e w1 ⟨rfl, g1⟩))
    go_ret2
    exact ⟨_, rfl, OwnI.nil2 _ _, Gr.below (by repeat (first | exact Gr.refl _ | refine Gr.alloc ?_ _ | refine Gr.trans ?_ (by assumption) | refine Gr.drew ?_ | refine Gr.drewN ?_ _ | refine Gr.grow ?_ _ | refine Gr.setCell ?_ (by (try simp); (try omega)) _))⟩
  have bt := (hsB_iff xs t).2 ht
  by_cases hft : f = t
  case pos =>
    obtain ⟨A, c, rfl, _⟩ := h.eta
    obtain rfl : b = false := not_true hb (fun q => q.1.2.2.1 hft)
    subst hft
    have d1 : ((f : Int) == f) = true := by simp
    clear h hb hf ht
    go_enter Try.func46, Try.ntmps46
    go_wp2_with (first | (go_at_call 59; refine (HHS.out _ _ (by repeat (first | exact Gr.refl _ | refine Gr.alloc ?_ _ | refine Gr.trans ?_ (by assumption) | refine Gr.drew ?_ | refine Gr.drewN ?_ _ | refine Gr.grow ?_ _ | refine Gr.setCell ?_ (by (try simp); (try omega)) _))).mono ?_; rintro e w1 ⟨rfl, g1⟩))
    go_ret2
    exact ⟨_, rfl, OwnI.nil2 _ _, Gr.below (by repeat (first | exact Gr.refl _ | refine Gr.alloc ?_ _ | refine Gr.trans ?_ (by assumption) | refine Gr.drew ?_ | refine Gr.drewN ?_ _ | refine Gr.grow ?_ _ | refine Gr.setCell ?_ (by (try simp); (try omega)) _))⟩
  have hxl := hf.1.1
  have HGD := Lib.hid hf.1
  obtain ⟨fn, rfl⟩ : ∃ n : Nat, f = (n : Int) := ⟨f.toNat, by have := hf.2; omega⟩
  obtain ⟨tn, rfl⟩ : ∃ n : Nat, t = (n : Int) := ⟨t.toNat, by have := ht.2; omega⟩
  have hfn : fn < xs.length := by have := hf.2; omega
  have htn : tn < xs.length := by have := ht.2; omega
  have hne : ¬ fn = tn := by omega
  have hne2 : ¬ tn = fn := by omega
  have d1 : (((fn : Int)) == (tn : Int)) = false := by simp; omega
  have z0 : (0 : Int) ≤ (fn : Int) := by omega
  have z1 : (fn : Int) < (xs.length : Int) := by omega
  have z2 : (0 : Int) ≤ (tn : Int) := by omega
  have z3 : (tn : Int) < (xs.length : Int) := by omega
  have hML : movL xs (fn : Int) (tn : Int) m = (xs.set fn (gx xs fn - m)).set tn (gx xs tn + m) := rfl
  have hMP : MovedP xs (fn : Int) (tn : Int) m ↔ (1 ≤ m ∧ m ≤ gx xs fn) ∧ GoodP (movL xs (fn : Int) (tn : Int) m) := ⟨fun q => ⟨q.1.2.2.2, q.2⟩, fun q => ⟨⟨hf, ht, hft, q.1⟩, q.2⟩⟩
  obtain ⟨g, c, rfl, _, gl, _⟩ := h.row hxl.1
  rcases h.view with ⟨q, _⟩ | ⟨_, g', c', q, _, _, _, hc, _⟩
  · rw [q] at hxl; simp at hxl
  simp only [Value.slice.injEq, Option.some.injEq, Addr.mk.injEq] at q
  obtain ⟨⟨q, _⟩, _, q2⟩ := q
  subst q
  subst q2
  have e0 := hc fn hfn
  rw [show xs.getD fn 0 = gx xs fn from rfl] at e0
  have bx := hf.1.bd fn
  have by' := hf.1.bd tn
  have HE0 := Lib.hid e0
  cases hi : inn m 1 (gx xs fn)
  · have HI := Lib.hid hi
    obtain rfl : b = false := not_true hb (fun q => by have := (hMP.1 q).1; have := of_decide_eq_false hi; omega)
    rw [if_neg (by simp)]
    generalize gx xs fn = x at *
    clear h hb hf ht hi hc hMP hML
    go_enter Try.func46, Try.ntmps46
    go_wp2_with (first | (go_at_call 59; refine (HHS.out _ _ (by first | exact Gr.refl _ | assumption)).mono ?_; rintro e w1 ⟨rfl, g1⟩; have gw := (show Gr w w1 from (by first | assumption | exact Gr.trans (by assumption) g1)); have e2 := gw.keep2 HE0.out) | (go_at_call 50; refine (Try.within _ _ _ _ HI.out _).mono ?_; rintro e w1 ⟨rfl, rfl⟩))
    go_ret2
    exact ⟨_, rfl, OwnI.nil2 _ _, gw.below⟩
  · have HI := Lib.hid hi
    have hm := inn_e hi
    have hMP' : b = true ↔ GoodP (movL xs (fn : Int) (tn : Int) m) := hb.trans (hMP.trans ⟨fun q => q.2, fun q => ⟨hm, q⟩⟩)
    rw [hML] at hMP' ⊢
    have HMP := Lib.hid hMP'
    have HC := Lib.hid (fun W (g' : Gr w W) => Try.cloneI W B _ xs hxl.1 hl (HO.out.gr g'))
    have HROW := Lib.hid (fun (W : World) (B : Nat) (v : Value) (h : OwnI W B v xs) => h.row hxl.1)
    have HAT := Lib.hid (fun (W : World) (B g n c : Nat) (h : OwnI W B (.slice (some ⟨g, 0, none⟩) xs.length c) xs) => h.at rfl fn hfn)
    have HAT2 := Lib.hid (fun (W : World) (B g n c : Nat) (h : OwnI W B (.slice (some ⟨g, 0, none⟩) xs.length c) xs) => h.at rfl tn htn)
    have HST := Lib.hid (fun (W : World) (B g c : Nat) (h : OwnI W B (.slice (some ⟨g, 0, none⟩) xs.length c) xs) =>
      OwnI.set (OwnI.set h rfl fn (gx xs fn - m)) (by simp) tn (gx xs tn + m))
    have HGO := Lib.hid (fun (W : World) (B : Nat) (v : Value) (h : OwnI W B v ((xs.set fn (gx xs fn - m)).set tn (gx xs tn + m))) => Try.iArePeople W B v _ b hMP' (by simp; omega) h)
    rw [show xs.getD fn 0 = gx xs fn from rfl] at HAT
    rw [show xs.getD tn 0 = gx xs tn from rfl] at HAT2
    obtain ⟨ys, hys⟩ : ∃ ys, (xs.set fn (gx xs fn - m)).set tn (gx xs tn + m) = ys := ⟨_, rfl⟩
    rw [hys] at HST HGO ⊢
    obtain ⟨x, hx⟩ : ∃ x, gx xs fn = x := ⟨_, rfl⟩
    obtain ⟨y, hy⟩ : ∃ y, gx xs tn = y := ⟨_, rfl⟩
    rw [hx] at HAT HST bx HE0 HI hm
    rw [hy] at HAT2 HST by'
    have w1' : IntKind.i64.wrap (x - m) = x - m := IntWalk.i64_in _ (by omega)
    have w2' : IntKind.i64.wrap (y + m) = y + m := IntWalk.i64_in _ (by omega)
    clear h hb hf ht hi hc hMP hMP' HMP hML hys hx hy e0
    cases b
    · go_enter Try.func46, Try.ntmps46
      go_wp2_with (first | (go_at_call 59; refine (HHS.out _ _ (by first | exact Gr.refl _ | assumption)).mono ?_; rintro e w1 ⟨rfl, g1⟩; have gw := (show Gr w w1 from (by first | assumption | exact Gr.trans (by assumption) g1)); have e2 := gw.keep2 HE0.out) | (go_at_call 50; refine (Try.within _ _ _ _ HI.out _).mono ?_; rintro e w1 ⟨rfl, rfl⟩) | (go_at_call 78; refine (HC.out _ gw).mono ?_; rintro e w3 ⟨v2, rfl, ho2, hb2⟩; obtain ⟨g2', c2, rfl, hg2, hg2l, ho3⟩ := HROW.out _ _ _ ho2; have f0 := (HAT.out _ _ _ 0 _ ho3); have f0c := f0.1; have f0f := f0.2; have f1 := (HAT2.out _ _ _ 0 _ ho3); have f2 : (w3.setCell ⟨g2', fn, none⟩ (.int .i64 (x - m))).cell? ⟨g2', tn, none⟩ = some (.int .i64 y) := (World.cell?_setCell_other _ ⟨g2', fn, none⟩ ⟨g2', tn, none⟩ _ (by first | (simp; done) | (simp; omega))).trans f1.1; have f3 : (w3.setCell ⟨g2', fn, none⟩ (.int .i64 (x - m))).frozen? ⟨g2', tn, none⟩ = false := (by simpa using f1.2); have OS := Lib.hid (HST.out _ _ _ _ ho3); have HB5 := Lib.hid (Below.setCell (Below.setCell hb2 (p := ⟨g2', fn, none⟩) hg2 (.int .i64 (x - m))) (p := ⟨g2', tn, none⟩) hg2 (.int .i64 (y + m))); clear f0 f1 ho2 ho3 hb2) | (go_at_call 19; refine (HGO.out _ _ _ OS.out).mono ?_; rintro e w6 ⟨rfl, g6⟩))
      have s1 := gw.below.size
      have BT := Lib.hid (gw.below.trans ((HB5.out.trans (g6.below.mono (by have := HB5.out.size; exact this))).mono s1))
      clear HB5
      go_wp2
      go_ret2
      exact ⟨_, rfl, OwnI.nil2 _ _, BT.out⟩
    · go_enter Try.func46, Try.ntmps46
      go_wp2_with (first | (go_at_call 59; refine (HHS.out _ _ (by first | exact Gr.refl _ | assumption)).mono ?_; rintro e w1 ⟨rfl, g1⟩; have gw := (show Gr w w1 from (by first | assumption | exact Gr.trans (by assumption) g1)); have e2 := gw.keep2 HE0.out) | (go_at_call 50; refine (Try.within _ _ _ _ HI.out _).mono ?_; rintro e w1 ⟨rfl, rfl⟩) | (go_at_call 78; refine (HC.out _ gw).mono ?_; rintro e w3 ⟨v2, rfl, ho2, hb2⟩; obtain ⟨g2', c2, rfl, hg2, hg2l, ho3⟩ := HROW.out _ _ _ ho2; have f0 := (HAT.out _ _ _ 0 _ ho3); have f0c := f0.1; have f0f := f0.2; have f1 := (HAT2.out _ _ _ 0 _ ho3); have f2 : (w3.setCell ⟨g2', fn, none⟩ (.int .i64 (x - m))).cell? ⟨g2', tn, none⟩ = some (.int .i64 y) := (World.cell?_setCell_other _ ⟨g2', fn, none⟩ ⟨g2', tn, none⟩ _ (by first | (simp; done) | (simp; omega))).trans f1.1; have f3 : (w3.setCell ⟨g2', fn, none⟩ (.int .i64 (x - m))).frozen? ⟨g2', tn, none⟩ = false := (by simpa using f1.2); have OS := Lib.hid (HST.out _ _ _ _ ho3); have HB5 := Lib.hid (Below.setCell (Below.setCell hb2 (p := ⟨g2', fn, none⟩) hg2 (.int .i64 (x - m))) (p := ⟨g2', tn, none⟩) hg2 (.int .i64 (y + m))); clear f0 f1 ho2 ho3 hb2) | (go_at_call 19; refine (HGO.out _ _ _ OS.out).mono ?_; rintro e w6 ⟨rfl, g6⟩))
      have s1 := gw.below.size
      have BT := Lib.hid (gw.below.trans ((HB5.out.trans (g6.below.mono (by have := HB5.out.size; exact this))).mono s1))
      clear HB5
      go_wp2
      go_ret2
      exact ⟨_, rfl, (OS.out.gr g6).mono s1, BT.out⟩
end Go.Proofs
