/-
  Contracts of chapter 5: how many live within a walk of a house (both sides).
-/
import Derived.Test.YtkiblppanlbpaaaMdL
namespace Go.Proofs
open Go.RowKit
set_option linter.unusedVariables false
set_option linter.unusedSimpArgs false
def WithinP (xs : List Int) (h far : Int) : Prop := HouseP xs h ∧ 0 ≤ far ∧ far ≤ 60
def pwf (xs : List Int) (h far : Int) (i : Nat) : Int := if avv ((i : Int) - h) ≤ far then gx xs i else 0
def pplW (xs : List Int) (h far : Int) : Int := sumF (pwf xs h far) xs.length
theorem pwf_bd {xs : List Int} (hg : GoodP xs) (h far : Int) (i : Nat) : 0 ≤ pwf xs h far i ∧ pwf xs h far i ≤ 1000 := by
  have := hg.bd i
  unfold pwf
  split <;> omega
theorem pplW_part {xs : List Int} {h far : Int} (hp : WithinP xs h far) (fo n : Nat) (h1 : max (h - far) 0 = (fo : Int)) (h2 : min (h + far + 1) (xs.length : Int) = ((fo + n : Nat) : Int)) : pplW xs h far = sumF (hdf xs fo) n := by
  obtain ⟨⟨hg, a, b⟩, c, d⟩ := hp
  obtain ⟨m, hm⟩ : ∃ m, xs.length = fo + n + m := ⟨xs.length - (fo + n), by omega⟩
  unfold pplW
  rw [hm, sumF_split, sumF_split]
  have z1 : sumF (pwf xs h far) fo = 0 := sumF_zeros fun i hi => by
    unfold pwf
    rw [if_neg (by unfold avv; split <;> omega)]
  have z2 : sumF (fun i => pwf xs h far (fo + n + i)) m = 0 := sumF_zeros fun i hi => by
    unfold pwf
    rw [if_neg (by unfold avv; split <;> omega)]
  have z3 : sumF (fun i => pwf xs h far (fo + i)) n = sumF (hdf xs fo) n := sumF_ext fun i hi => by
    unfold pwf hdf
    rw [if_pos (by unfold avv; split <;> omega)]
  rw [z1, z2, z3]
  omega
def PWRel (xs : List Int) (h far : Int) (w : World) (s i : Value) (wr : World) : Prop := Gr w wr ∧ ∃ k : Nat, k ≤ xs.length ∧ i = .int .i64 k ∧ s = .int .i64 (sumF (pwf xs h far) k)
set_option maxRecDepth 100000 in
set_option maxHeartbeats 1600000 in
theorem Try.sPeopleWithin (w : World) (B : Nat) (v : Value) (xs : List Int) (n far : Int) (b : Bool) (hb : b = true ↔ WithinP xs n far) (hl : xs.length ≤ 1048576) (h : OwnI w B v xs) :
    Calls Try.prog 39 #[v, .int .i64 n, .int .i64 far] w fun e w' => e = .returned (.tuple #[.int .i64 (if b then pplW xs n far else 0), .bool b]) ∧ Gr w w' := by
  obtain ⟨r, hr⟩ := exb (HouseP xs n)
  have HH := Lib.hid (Try.mdHouse w B v xs n r hr hl h)
  cases hq : r
  · rw [hq] at HH
    obtain rfl : b = false := not_true hb (fun p => by have := hr.2 p.1; rw [hq] at this; cases this)
    obtain ⟨A, c, rfl, _⟩ := h.eta
    clear h hb hr hq
    go_enter Try.func39, Try.ntmps39
    go_wp2_with (first | (go_at_call 53; refine (HH.out).mono ?_; rintro e w1 ⟨rfl, hbW⟩; have hcW := (bcell hbW.below).1; have hfW := (bcell hbW.below).2; (try have hzW : w.heap.size < w1.heap.size := by have hq := hbW.below.size; (try simp at hq); omega); (try have hyW : w.heap.size + 1 < w1.heap.size := by have hq := hbW.below.size; (try simp at hq); omega); (try have hxW : w.heap.size + 2 < w1.heap.size := by have hq := hbW.below.size; (try simp at hq); omega)))
    go_ret2
    exact ⟨rfl, by repeat (first | exact Gr.refl _ | refine Gr.alloc ?_ _ | refine Gr.trans ?_ (by assumption) | refine Gr.drew ?_ | refine Gr.drewN ?_ _ | refine Gr.grow ?_ _ | refine Gr.setCell ?_ (by (try simp); (try omega)) _)⟩
  · rw [hq] at HH
    have hH := hr.1 hq
    cases hi : inn far 0 60
    · have HI := Lib.hid hi
      obtain rfl : b = false := not_true hb (fun p => by have := p.2; have := of_decide_eq_false hi; omega)
      obtain ⟨A, c, rfl, _⟩ := h.eta
      clear h hb hr hq hi hH
      go_enter Try.func39, Try.ntmps39
      go_wp2_with (first | (go_at_call 53; refine (HH.out).mono ?_; rintro e w1 ⟨rfl, hbW⟩; have hcW := (bcell hbW.below).1; have hfW := (bcell hbW.below).2; (try have hzW : w.heap.size < w1.heap.size := by have hq := hbW.below.size; (try simp at hq); omega); (try have hyW : w.heap.size + 1 < w1.heap.size := by have hq := hbW.below.size; (try simp at hq); omega); (try have hxW : w.heap.size + 2 < w1.heap.size := by have hq := hbW.below.size; (try simp at hq); omega)) | (go_at_call 74; refine (Try.l1In _ _ _ _ HI.out _).mono ?_; rintro e w1 ⟨rfl, rfl⟩))
      go_ret2
      exact ⟨rfl, by repeat (first | exact Gr.refl _ | refine Gr.alloc ?_ _ | refine Gr.trans ?_ (by assumption) | refine Gr.drew ?_ | refine Gr.drewN ?_ _ | refine Gr.grow ?_ _ | refine Gr.setCell ?_ (by (try simp); (try omega)) _)⟩
    · have HI := Lib.hid hi
      have hf := inn_e hi
      obtain rfl : b = true := hb.2 ⟨hH, hf⟩
      have hxl := hH.1.1
      have hn := hH.2
      have HGD := Lib.hid hH.1
      rcases h.view with ⟨rfl, _⟩ | ⟨hpos, g, c, rfl, _, _, _, hc, _⟩
      · simp at hxl
      · have HC := Lib.hid hc
        obtain ⟨R, hR⟩ : ∃ R, pplW xs n far = R := ⟨_, rfl⟩
        have HE := Lib.hid (show sumF (pwf xs n far) xs.length = R from hR)
        rw [if_pos rfl, hR]
        clear h hb hr hq hi hH hc hR
        go_enter Try.func39, Try.ntmps39
        go_wp2_with (first | (go_at_call 53; refine (HH.out).mono ?_; rintro e w1 ⟨rfl, hbW⟩; have hcW := (bcell hbW.below).1; have hfW := (bcell hbW.below).2; (try have hzW : w.heap.size < w1.heap.size := by have hq := hbW.below.size; (try simp at hq); omega); (try have hyW : w.heap.size + 1 < w1.heap.size := by have hq := hbW.below.size; (try simp at hq); omega); (try have hxW : w.heap.size + 2 < w1.heap.size := by have hq := hbW.below.size; (try simp at hq); omega)) | (go_at_call 74; refine (Try.l1In _ _ _ _ HI.out _).mono ?_; rintro e w1 ⟨rfl, rfl⟩))
        have GW := Lib.hid (show Gr w w1 from (by repeat (first | exact Gr.refl _ | refine Gr.alloc ?_ _ | refine Gr.trans ?_ (by assumption) | refine Gr.drew ?_ | refine Gr.drewN ?_ _ | refine Gr.grow ?_ _ | refine Gr.setCell ?_ (by (try simp); (try omega)) _)))
        clear hcW hfW hbW
        go_loopw [8, 22] (fun s i wr => PWRel xs n far w s i wr) (fun _ i _ => (xs.length - intOf i).toNat)
        case atStart => exact ⟨GW.out, 0, Nat.zero_le _, rfl, rfl⟩
        case round =>
          obtain ⟨gr, k, hk, rfl, rfl⟩ := hrel
          have HG := Lib.hid gr
          by_cases hlt : k < xs.length
          · have e1 := gr.keep2 (HC.out k hlt)
            have z0 : (0 : Int) ≤ (k : Int) := by omega
            have z1 : (k : Int) < (xs.length : Int) := by omega
            have hs := sumF_bd (f := pwf xs n far) (n := k) (K := 1000) (fun i _ => pwf_bd HGD.out n far i)
            have hp := pwf_bd HGD.out n far k
            have HN := Lib.hid (sumF_succ (pwf xs n far) k)
            have hm : pwf xs n far k = if avv ((k : Int) - n) ≤ far then gx xs k else 0 := rfl
            have wd : IntKind.i64.wrap ((k : Int) - n) = (k : Int) - n := IntWalk.i64_in _ (by omega)
            have HA := Lib.hid (fun W => Try.l1AbsM ((k : Int) - n) W (by omega) (by omega))
            rw [show xs.getD k 0 = gx xs k from rfl] at e1
            generalize avv ((k : Int) - n) = d at HA hm
            generalize gx xs k = y at e1 hm
            generalize pwf xs n far k = p at *
            generalize sumF (pwf xs n far) k = s at *
            have ws : IntKind.i64.wrap (s + p) = s + p := IntWalk.i64_in _ (by omega)
            clear gr
            by_cases hd : d ≤ far
            · rw [if_pos hd] at hm
              subst hm
              go_wp2_with (first | (go_at_call 65; refine (HA.out _).mono ?_; rintro e w1 ⟨rfl, rfl⟩))
              go_roundw
              case rel => exact ⟨HG.out, k + 1, by omega, by go_num, by rw [HN.out]⟩
              case measure => simp [intOf]; omega
            · rw [if_neg hd] at hm
              subst hm
              go_wp2_with (first | (go_at_call 65; refine (HA.out _).mono ?_; rintro e w1 ⟨rfl, rfl⟩))
              go_roundw
              case rel => exact ⟨HG.out, k + 1, by omega, by go_num, by rw [HN.out, Int.add_zero]⟩
              case measure => simp [intOf]; omega
          · obtain rfl : k = xs.length := by omega
            rw [HE.out]
            clear gr
            go_wp2
            go_ret2
            exact ⟨rfl, HG.out⟩
set_option maxRecDepth 100000 in
set_option maxHeartbeats 1600000 in
theorem Try.iPeopleWithin (w : World) (B : Nat) (v : Value) (xs : List Int) (n far : Int) (b : Bool) (hb : b = true ↔ WithinP xs n far) (hl : xs.length ≤ 1048576) (h : OwnI w B v xs) :
    Calls Try.prog 40 #[v, .int .i64 n, .int .i64 far] w fun e w' => e = .returned (.tuple #[.int .i64 (if b then pplW xs n far else 0), .bool b]) ∧ Gr w w' := by
  obtain ⟨r, hr⟩ := exb (HouseP xs n)
  have HH := Lib.hid (Try.haveHouse w B v xs n r hr hl h)
  cases hq : r
  · rw [hq] at HH
    obtain rfl : b = false := not_true hb (fun p => by have := hr.2 p.1; rw [hq] at this; cases this)
    obtain ⟨A, c, rfl, _⟩ := h.eta
    clear h hb hr hq
    go_enter Try.func40, Try.ntmps40
    go_wp2_with (first | (go_at_call 59; refine (HH.out).mono ?_; rintro e w1 ⟨rfl, hbW⟩; have hcW := (bcell hbW.below).1; have hfW := (bcell hbW.below).2; (try have hzW : w.heap.size < w1.heap.size := by have hq := hbW.below.size; (try simp at hq); omega); (try have hyW : w.heap.size + 1 < w1.heap.size := by have hq := hbW.below.size; (try simp at hq); omega); (try have hxW : w.heap.size + 2 < w1.heap.size := by have hq := hbW.below.size; (try simp at hq); omega)))
    go_ret2
    exact ⟨rfl, by repeat (first | exact Gr.refl _ | refine Gr.alloc ?_ _ | refine Gr.trans ?_ (by assumption) | refine Gr.drew ?_ | refine Gr.drewN ?_ _ | refine Gr.grow ?_ _ | refine Gr.setCell ?_ (by (try simp); (try omega)) _)⟩
  · rw [hq] at HH
    have hH := hr.1 hq
    cases hi : inn far 0 60
    · have HI := Lib.hid hi
      obtain rfl : b = false := not_true hb (fun p => by have := p.2; have := of_decide_eq_false hi; omega)
      obtain ⟨A, c, rfl, _⟩ := h.eta
      clear h hb hr hq hi hH
      go_enter Try.func40, Try.ntmps40
      go_wp2_with (first | (go_at_call 59; refine (HH.out).mono ?_; rintro e w1 ⟨rfl, hbW⟩; have hcW := (bcell hbW.below).1; have hfW := (bcell hbW.below).2; (try have hzW : w.heap.size < w1.heap.size := by have hq := hbW.below.size; (try simp at hq); omega); (try have hyW : w.heap.size + 1 < w1.heap.size := by have hq := hbW.below.size; (try simp at hq); omega); (try have hxW : w.heap.size + 2 < w1.heap.size := by have hq := hbW.below.size; (try simp at hq); omega)) | (go_at_call 50; refine (Try.within _ _ _ _ HI.out _).mono ?_; rintro e w1 ⟨rfl, rfl⟩))
      go_ret2
      exact ⟨rfl, by repeat (first | exact Gr.refl _ | refine Gr.alloc ?_ _ | refine Gr.trans ?_ (by assumption) | refine Gr.drew ?_ | refine Gr.drewN ?_ _ | refine Gr.grow ?_ _ | refine Gr.setCell ?_ (by (try simp); (try omega)) _)⟩
    · have HI := Lib.hid hi
      have hf := inn_e hi
      obtain rfl : b = true := hb.2 ⟨hH, hf⟩
      have hxl := hH.1.1
      have hn := hH.2
      obtain ⟨fo, hfo⟩ : ∃ fo : Nat, max (n - far) 0 = (fo : Int) := ⟨(max (n - far) 0).toNat, by rw [Int.max_def]; split <;> omega⟩
      obtain ⟨m, hm, hm0⟩ : ∃ m : Nat, min (n + far + 1) (xs.length : Int) = ((fo + m : Nat) : Int) ∧ 0 < m := by
        refine ⟨(min (n + far + 1) (xs.length : Int)).toNat - fo, ?_, ?_⟩ <;> omega
      have HE := Lib.hid (pplW_part (hb.1 rfl) fo m hfo hm)
      have HP := Lib.hid (h.ppl hxl.1)
      have HSI := Lib.hid (fun w1 (g : Gr w w1) => Try.sumsIn w1 v xs (n - far) (n + far + 1) fo m (HP.out.gr g) hxl.2 hfo hm hm0)
      have HGD := Lib.hid hH.1
      have hbx : ∀ (W : World), BoxRow (W.alloc (.cells #[.int .i64 n] 3)) (.slice (some ⟨W.heap.size, 0, none⟩) 1 1) [n] := fun W => (own_one W n _ (Nat.le_refl _)).boxes (by simp) (by simp) (fun j hj => by
          obtain rfl : j = 0 := by simp at hj; exact hj
          simp [gx]; omega)
      have HBX := Lib.hid hbx
      obtain ⟨A, c, rfl, _⟩ := h.eta
      rw [if_pos rfl, HE.out]
      obtain ⟨R, hR⟩ : ∃ R, sumF (hdf xs fo) m = R := ⟨_, rfl⟩
      rw [hR]
      have HRR := Lib.hid hR
      clear hR
      have hix := Try.idx0
      clear h hb hr hq hi hH hbx HE HP hfo hm
      go_enter Try.func40, Try.ntmps40
      go_wp2_with (first | (go_at_call 59; refine (HH.out).mono ?_; rintro e w1 ⟨rfl, hbW⟩; have hcW := (bcell hbW.below).1; have hfW := (bcell hbW.below).2; (try have hzW : w.heap.size < w1.heap.size := by have hq := hbW.below.size; (try simp at hq); omega); (try have hyW : w.heap.size + 1 < w1.heap.size := by have hq := hbW.below.size; (try simp at hq); omega); (try have hxW : w.heap.size + 2 < w1.heap.size := by have hq := hbW.below.size; (try simp at hq); omega)) | (go_at_call 50; refine (Try.within _ _ _ _ HI.out _).mono ?_; rintro e w1 ⟨rfl, rfl⟩) | (go_at_call 63; refine (HSI.out _ (by assumption)).mono ?_; rintro e w2 ⟨bp, bf, vp, rfl, g2, p2, c1, c2⟩; have HF := Lib.hid (Try.sumsFn (w2.alloc (.cells #[.int .i64 n] 3)) _ vp [n] xs fo m bp bf HGD.out (HBX.out w2) (p2.gr (Gr.alloc (Gr.refl _) _)) ((Gr.alloc (Gr.refl _) _).keep2 c1) ((Gr.alloc (Gr.refl _) _).keep2 c2)); rw [HRR.out] at HF; have GG := Lib.hid (hbW.trans g2); clear p2 c1 c2) | (go_at_call 82; refine HF.out.mono ?_; rintro e w3 ⟨rfl, g3⟩))
      go_ret2
      exact ⟨rfl, (Gr.alloc GG.out _).trans g3⟩
end Go.Proofs
