/-
  Contracts of chapter 5: best houses and centers (both sides).
-/
import Derived.Test.YtkhjjafeoijaaaaMdU
namespace Go.Proofs
open Go.RowKit
set_option linter.unusedVariables false
set_option linter.unusedSimpArgs false
def LhRel (f : Nat → Int) (n : Nat) (w : World) (B : Nat) (s l i : Value) (wr : World) : Prop := ∃ k : Nat, k ≤ n ∧ i = .int .i64 k ∧ OwnI wr B s (bsN f k) ∧ l = .int .i64 (mnN f k) ∧ Below B w wr
set_option maxRecDepth 100000 in
set_option maxHeartbeats 1600000 in
theorem Try.leastHouses (w : World) (B : Nat) (v : Value) (xs : List Int) (b : Bool) (hb : b = true ↔ GoodP xs) (hl : xs.length ≤ 1048576) (h : OwnI w B v xs) (g : Nat) (f : Nat → Int)
    (eg : ∀ args w, (callFunc g args).run Try.prog w = .ok (.enter g args) w)
    (hf : ∀ (W : World) (k : Nat), b = true → OwnI W B v xs → k < xs.length → Calls Try.prog g (#[v, .int .i64 (k : Int)] ++ #[]) W fun e w' => e = .returned (.tuple #[.int .i64 (f k), .bool true]) ∧ Gr W w') :
    Calls Try.prog 45 #[v, .func (.func g) #[] #[]] w (RetL w (if b then bsN f xs.length else []) b) := by
  have HH := Lib.hid (Try.iArePeople w B v xs b hb hl h)
  have HO0 := Lib.hid h
  obtain ⟨A, c, rfl, _⟩ := h.eta
  cases q : b
  · rw [q] at HH
    clear h hb q hf
    go_enter Try.func45, Try.ntmps45
    go_wp2_with (first | (go_at_call 70; refine (HH.out).mono ?_; rintro e w1 ⟨rfl, hbW⟩; have hcW := (bcell hbW.below).1; have hfW := (bcell hbW.below).2; (try have hzW : w.heap.size < w1.heap.size := by have hq := hbW.below.size; (try simp at hq); omega); (try have hyW : w.heap.size + 1 < w1.heap.size := by have hq := hbW.below.size; (try simp at hq); omega); (try have hxW : w.heap.size + 2 < w1.heap.size := by have hq := hbW.below.size; (try simp at hq); omega)))
    go_ret2
    exact ⟨_, rfl, OwnI.nil2 _ _, Gr.below (by repeat (first | exact Gr.refl _ | refine Gr.alloc ?_ _ | refine Gr.trans ?_ (by assumption) | refine Gr.drew ?_ | refine Gr.drewN ?_ _ | refine Gr.grow ?_ _ | refine Gr.setCell ?_ (by (try simp); (try omega)) _))⟩
  · rw [q] at HH
    have HF := Lib.hid (fun W k h1 h2 => hf W k q h1 h2)
    have hxl := (hb.1 q).1
    rw [if_pos rfl]
    obtain ⟨R, hR⟩ : ∃ R, bsN f xs.length = R := ⟨_, rfl⟩
    have HE := Lib.hid hR
    rw [hR]
    clear h hb q hf hR
    go_enter Try.func45, Try.ntmps45
    go_wp2_with (first | (go_at_call 70; refine (HH.out).mono ?_; rintro e w1 ⟨rfl, hbW⟩; have hcW := (bcell hbW.below).1; have hfW := (bcell hbW.below).2; (try have hzW : w.heap.size < w1.heap.size := by have hq := hbW.below.size; (try simp at hq); omega); (try have hyW : w.heap.size + 1 < w1.heap.size := by have hq := hbW.below.size; (try simp at hq); omega); (try have hxW : w.heap.size + 2 < w1.heap.size := by have hq := hbW.below.size; (try simp at hq); omega)))
    have GW := Lib.hid (show Gr w w1 from (by repeat (first | exact Gr.refl _ | refine Gr.alloc ?_ _ | refine Gr.trans ?_ (by assumption) | refine Gr.drew ?_ | refine Gr.drewN ?_ _ | refine Gr.grow ?_ _ | refine Gr.setCell ?_ (by (try simp); (try omega)) _)))
    clear hcW hfW hbW
    go_loopw [6, 7, 16] (fun s l i wr => LhRel f xs.length w w.heap.size s l i wr) (fun _ _ i _ => (xs.length - intOf i).toNat)
    case atStart => exact ⟨0, Nat.zero_le _, rfl, OwnI.nil2 _ _, rfl, GW.out.below⟩
    case round =>
      obtain ⟨k, hk, rfl, ho, rfl, hbl⟩ := hrel
      have HO := Lib.hid ho
      have HL := Lib.hid hbl
      have szr := hbl.size
      by_cases hlt : k < xs.length
      · have z0 : (0 : Int) ≤ (k : Int) := by omega
        have z1 : (k : Int) < (xs.length : Int) := by omega
        have hs := bs_s f k
        have hm := mn_s f k
        have HC := Lib.hid (HF.out wr k (HO0.out.below hbl (Nat.le_refl _)) hlt)
        have HBL := Lib.hid (bsN_len f k)
        have HNIL := Lib.hid (fun (W : World) => OwnI.nil2 W w.heap.size)
        clear ho hbl
        by_cases c1 : k = 0 ∨ f k < mnN f k
        · rw [if_pos c1] at hs hm
          have HN := Lib.hid hs
          have HM := Lib.hid hm
          clear hs hm
          generalize mnN f k = M at *
          generalize f k = y at *
          have d1 : ((y : Int) == y) = true := by simp
          rcases Nat.eq_zero_or_pos k with k0 | kpos
          · subst k0
            go_wp2_with (first | (go_at_fn g; refine HC.out.mono ?_; rintro e w2 ⟨rfl, g2⟩) | (at_builtin; refine wpList_app1I rfl _ _ 22 rfl Try.underlying22 Try.infoI2 w.heap.size _ [] rfl (HNIL.out _) ((0 : Nat) : Int) rfl (by simp) (by have := g2.below.size; omega) ?_; intro v' w3 ho3 hb3 _ _))
            have OW := Lib.hid ho3
            have GB := Lib.hid ((HL.out.trans (g2.below.mono szr)).trans hb3)
            clear ho3 hb3 g2
            go_wp2
            go_roundw
            case rel => exact ⟨1, by omega, by go_num, by rw [HN.out]; exact OW.out, by rw [HM.out], GB.out⟩
            case measure => simp [intOf]; omega
          · have c1' : y < M := c1.elim (fun q => by omega) id
            have d0 : (((k : Int)) == 0) = false := by rw [beq_eq_false_iff_ne]; omega
            go_wp2_with (first | (go_at_fn g; refine HC.out.mono ?_; rintro e w2 ⟨rfl, g2⟩) | (at_builtin; refine wpList_app1I rfl _ _ 22 rfl Try.underlying22 Try.infoI2 w.heap.size _ [] rfl (HNIL.out _) (k : Int) rfl (by simp) (by have := g2.below.size; omega) ?_; intro v' w3 ho3 hb3 _ _))
            have OW := Lib.hid ho3
            have GB := Lib.hid ((HL.out.trans (g2.below.mono szr)).trans hb3)
            clear ho3 hb3 g2
            go_wp2
            go_roundw
            case rel => exact ⟨k + 1, by omega, by go_num, by rw [HN.out]; exact OW.out, by rw [HM.out], GB.out⟩
            case measure => simp [intOf]; omega
        · rw [if_neg c1] at hs hm
          have k0 : ¬ k = 0 := fun q => c1 (.inl q)
          have c1' : ¬ f k < mnN f k := fun q => c1 (.inr q)
          have d0 : (((k : Int)) == 0) = false := by rw [beq_eq_false_iff_ne]; omega
          have HM := Lib.hid hm
          have HEQ := Lib.hid hs
          clear hs hm c1
          generalize mnN f k = M at *
          generalize f k = y at *
          by_cases c2 : y = M
          · have HN := Lib.hid (HEQ.out.trans (if_pos c2))
            have d1 : ((y : Int) == M) = true := by simp [c2]
            clear HEQ
            go_wp2_with (first | (go_at_fn g; refine HC.out.mono ?_; rintro e w2 ⟨rfl, g2⟩) | (at_builtin; refine wpList_app1I rfl _ _ 22 rfl Try.underlying22 Try.infoI2 w.heap.size _ _ rfl (HO.out.gr g2) (k : Int) rfl (by have := HBL.out; omega) (by have := g2.below.size; omega) ?_; intro v' w3 ho3 hb3 _ _))
            have OW := Lib.hid ho3
            have GB := Lib.hid ((HL.out.trans (g2.below.mono szr)).trans hb3)
            clear ho3 hb3 g2
            go_wp2
            go_roundw
            case rel => exact ⟨k + 1, by omega, by go_num, by rw [HN.out]; exact OW.out, by rw [HM.out], GB.out⟩
            case measure => simp [intOf]; omega
          · have HN := Lib.hid (HEQ.out.trans (if_neg c2))
            have d1 : ((y : Int) == M) = false := by simp [c2]
            clear HEQ
            go_wp2_with (first | (go_at_fn g; refine HC.out.mono ?_; rintro e w2 ⟨rfl, g2⟩))
            have GB := Lib.hid (HL.out.trans (g2.below.mono szr))
            have OW := Lib.hid (HO.out.gr g2)
            clear g2
            go_wp2
            go_roundw
            case rel => exact ⟨k + 1, by omega, by go_num, by rw [HN.out]; exact OW.out, by rw [HM.out], GB.out⟩
            case measure => simp [intOf]; omega
      · obtain rfl : k = xs.length := by omega
        rw [HE.out] at HO
        clear ho hbl
        go_wp2
        go_ret2
        exact ⟨_, rfl, HO.out, HL.out⟩
def bestL (xs : List Int) (far : Bool) : List Int := bsN (tabF xs far) xs.length
set_option maxHeartbeats 800000 in
theorem Try.sBestHouses (w : World) (B : Nat) (v : Value) (xs : List Int) (b : Bool) (hb : b = true ↔ GoodP xs) (hl : xs.length ≤ 1048576) (h : OwnI w B v xs) :
    Calls Try.prog 20 #[v] w (RetL w (if b then bestL xs false else []) b) := by
  have HH := Lib.hid (Try.mdGood w B v xs b hb hl h)
  have HO := Lib.hid h
  obtain ⟨A, c, rfl, _⟩ := h.eta
  cases q : b
  · rw [q] at HH
    clear h hb q
    go_enter Try.func20, Try.ntmps20
    go_wp2_with (first | (go_at_call 42; refine (HH.out).mono ?_; rintro e w1 ⟨rfl, hbW⟩; have hcW := (bcell hbW.below).1; have hfW := (bcell hbW.below).2; (try have hzW : w.heap.size < w1.heap.size := by have hq := hbW.below.size; (try simp at hq); omega); (try have hyW : w.heap.size + 1 < w1.heap.size := by have hq := hbW.below.size; (try simp at hq); omega); (try have hxW : w.heap.size + 2 < w1.heap.size := by have hq := hbW.below.size; (try simp at hq); omega)))
    go_ret2
    exact ⟨_, rfl, OwnI.nil2 _ _, Gr.below (by repeat (first | exact Gr.refl _ | refine Gr.alloc ?_ _ | refine Gr.trans ?_ (by assumption) | refine Gr.drew ?_ | refine Gr.drewN ?_ _ | refine Gr.grow ?_ _ | refine Gr.setCell ?_ (by (try simp); (try omega)) _))⟩
  · rw [q] at HH
    have hg := hb.1 q
    have HT := Lib.hid (fun w1 (g : Gr w w1) => Try.mdTable w1 B _ xs false hg (HO.out.gr g))
    have HB := Lib.hid (fun w2 B2 v2 (h2 : OwnI w2 B2 v2 (tbl (tabF xs false) xs.length)) => Try.mdBest w2 B2 v2 (tabF xs false) xs.length hg.1.1 hg.1.2 h2)
    rw [if_pos rfl]
    have HE := Lib.hid (show bsN (tabF xs false) xs.length = bestL xs false from rfl)
    rw [HE.out] at HB
    generalize bestL xs false = R at *
    clear h hb q hg
    go_enter Try.func20, Try.ntmps20
    go_wp2_with (first | (go_at_call 42; refine (HH.out).mono ?_; rintro e w1 ⟨rfl, hbW⟩; have hcW := (bcell hbW.below).1; have hfW := (bcell hbW.below).2; (try have hzW : w.heap.size < w1.heap.size := by have hq := hbW.below.size; (try simp at hq); omega); (try have hyW : w.heap.size + 1 < w1.heap.size := by have hq := hbW.below.size; (try simp at hq); omega); (try have hxW : w.heap.size + 2 < w1.heap.size := by have hq := hbW.below.size; (try simp at hq); omega)) | (go_at_call 44; refine (HT.out _ (by assumption)).mono ?_; rintro e w2 ⟨v2, rfl, ho2, hb2⟩) | (go_at_call 43; refine (HB.out _ _ _ ho2).mono ?_; rintro e w3 ⟨v3, rfl, ho3, hb3⟩))
    go_ret2
    have s1 := hbW.below.size
    have b2 := hbW.below.trans (hb2.mono s1)
    exact ⟨_, rfl, ho3.mono b2.size, b2.trans (hb3.mono b2.size)⟩
set_option maxHeartbeats 800000 in
theorem Try.iBestHouses (w : World) (B : Nat) (v : Value) (xs : List Int) (b : Bool) (hb : b = true ↔ GoodP xs) (hl : xs.length ≤ 1048576) (h : OwnI w B v xs) :
    Calls Try.prog 21 #[v] w (RetL w (if b then bestL xs false else []) b) := by
  have eg : ∀ args w, (callFunc 19 args).run Try.prog w = .ok (.enter 19 args) w := enters_of Try.func19 (by kernel_rfl) rfl
  have HL := Lib.hid (Try.leastHouses w B v xs b hb hl h 19 (tabF xs false) eg (fun W k q ho hk => by
    have hg := hb.1 q
    have := Try.iWalksTo W B v xs (k : Int) true ⟨fun _ => ⟨hg, by omega, by omega⟩, fun _ => rfl⟩ hl ho
    exact this))
  obtain ⟨A, c, rfl, _⟩ := h.eta
  rw [show bsN (tabF xs false) xs.length = bestL xs false from rfl] at HL
  generalize (if b = true then bestL xs false else []) = R at *
  clear h hb eg
  go_enter Try.func21, Try.ntmps21
  go_wp2_with (first | (go_at_call 45; refine HL.out.mono ?_; rintro e w2 ⟨v2, rfl, ho2, hb2⟩))
  go_ret2
  exact ⟨_, rfl, ho2, hb2⟩
end Go.Proofs
