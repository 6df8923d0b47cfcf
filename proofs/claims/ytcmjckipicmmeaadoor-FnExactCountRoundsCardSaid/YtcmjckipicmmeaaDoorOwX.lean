/-
  Chapter 6: around how many blocks one can drive, both functions.
-/
import Derived.Test.YtcmjckipicmmeaaDoorOwV
namespace Go.Proofs
open Go.RowKit
set_option linter.unusedVariables false
set_option linter.unusedSimpArgs false
def fR (s a : ByteArray) (x y : Nat) : Nat := (rdW s a x y).natAbs
def rowR (s a : ByteArray) (x : Nat) : Nat → Nat
  | 0 => 0
  | n + 1 => rowR s a x n + fR s a x n
def colR (s a : ByteArray) (m : Nat) : Nat → Nat
  | 0 => 0
  | n + 1 => colR s a m n + rowR s a n m
def crV (s a : ByteArray) (b : Bool) : Int := if b then ((colR s a (s.size - 1) (a.size - 1) : Nat) : Int) else 0
theorem rdW_sp (s a : ByteArray) (x y : Nat) : rdW s a x y = 0 ∨ rdW s a x y = 1 ∨ rdW s a x y = -1 := by
  unfold rdW
  rcases @rg_sp (gb s y) (gb s (y + 1)) (gb a x) (gb a (x + 1)) with h | h | h
  · exact .inl h
  · exact .inr (.inl h.1)
  · exact .inr (.inr h.1)
theorem fR_le (s a : ByteArray) (x y : Nat) : fR s a x y ≤ 1 := by
  unfold fR
  rcases rdW_sp s a x y with h | h | h <;> rw [h] <;> decide
theorem rowR_le (s a : ByteArray) (x n : Nat) : rowR s a x n ≤ n := by
  induction n with
  | zero => exact Nat.le_refl 0
  | succ n ih => have := fR_le s a x n; show rowR s a x n + fR s a x n ≤ n + 1; omega
theorem colR_le (s a : ByteArray) (m n : Nat) : colR s a m n ≤ n * m := by
  induction n with
  | zero => exact Nat.zero_le _
  | succ n ih => have := rowR_le s a n m; show colR s a m n + rowR s a n m ≤ (n + 1) * m; rw [Nat.succ_mul]; omega
set_option maxHeartbeats 400000 in
theorem Tryd.l1AbsR (n : Int) (w : World) (h : -1000000 ≤ n) (g : n ≤ 1000000) :
    Calls Tryd.prog 55 #[.int .i64 n] w fun e w' => e = .returned (.int .i64 (n.natAbs : Nat)) ∧ w = w' := by
  go_enter Tryd.func55, Tryd.ntmps55
  go_wp2
  all_goals
    go_ret
    exact ⟨congrArg (fun z => Ending.returned (Value.int .i64 z)) (by omega), rfl⟩
set_option maxRecDepth 100000 in
set_option maxHeartbeats 1600000 in
theorem Tryd.sCountRounds (w : World) (s a : ByteArray) (hs : s.size ≤ maxLen) (ha : a.size ≤ maxLen) (b : Bool) (v : Int) (hb : okW s a = b) (hv : crV s a b = v) :
    Calls Tryd.prog 29 #[.agg #[.string s, .string a]] w fun e w' => e = .returned (.tuple #[.int .i64 v, .bool b]) ∧ Gr w w' := by
  have H1 := Lib.hid (fun (W : World) => Tryd.owGood W s a hs ha b hb)
  subst hv
  cases b
  · unfold crV
    simp only [Bool.false_eq_true, if_false]
    clear hs ha hb
    go_enter Tryd.func29, Tryd.ntmps29
    go_wp2_with (first | (go_at_call 40; refine (H1.out _).mono ?_; rintro e w1 ⟨rfl, hbW⟩; have hcW := (bcell hbW.below).1; have hfW := (bcell hbW.below).2; (try have hzW : w.heap.size < w1.heap.size := by have hq := hbW.below.size; (try simp at hq); omega); (try have hyW : w.heap.size + 1 < w1.heap.size := by have hq := hbW.below.size; (try simp at hq); omega); (try have hxW : w.heap.size + 2 < w1.heap.size := by have hq := hbW.below.size; (try simp at hq); omega)))
    go_ret2
    exact ⟨rfl, by repeat (first | exact Gr.refl _ | refine Gr.alloc ?_ _ | refine Gr.trans ?_ (by assumption) | refine Gr.drew ?_ | refine Gr.drewN ?_ _ | refine Gr.grow ?_ _ | refine Gr.setCell ?_ (by (try simp); (try omega)) _)⟩
  · obtain ⟨h1, h2⟩ := okW_and hb
    have l1 := okT_len h1
    have l2 := okT_len h2
    unfold crV
    simp only [if_true]
    have HR := Lib.hid (fun (x y : Nat) (hx : x + 1 < a.size) (hy : y + 1 < s.size) (W : World) => Tryd.owRound W s a h1 h2 x y hx hy)
    clear hs ha hb h1 h2
    go_enter Tryd.func29, Tryd.ntmps29
    go_wp2_with (first | (go_at_call 40; refine (H1.out _).mono ?_; rintro e wA ⟨rfl, gA⟩; obtain ⟨y0, y1⟩ := ks gA (b := w.heap.size) (x := .string s) (y := .string a) ⟨by simp [go_sem], by simp [go_sem]⟩))
    have HA := Lib.hid (Gr.trans (Gr.alloc (Gr.refl w) _) gA)
    have HY := Lib.hid (And.intro y0 y1)
    clear gA y0 y1
    go_loopw [4, 5] (fun cv xv wr => Gr wA wr ∧ ∃ x : Nat, xv = .int .i64 x ∧ x + 1 ≤ a.size ∧ cv = .int .i64 (colR s a (s.size - 1) x : Nat)) (fun _ i _ => a.size - (intOf i).toNat)
    case atStart => exact ⟨Gr.refl _, 0, rfl, by omega, rfl⟩
    case round =>
      obtain ⟨gr, x, rfl, hx, rfl⟩ := hrel
      obtain ⟨y0, y1⟩ := ks gr HY.out
      have HG := Lib.hid gr
      have wx : IntKind.i64.wrap ((x : Int) + 1) = (x : Int) + 1 := IntWalk.i64_in _ (by omega)
      clear gr
      by_cases hlt : x + 1 < a.size
      · have z1 : (x : Int) + 1 < (a.size : Int) := by omega
        have hcb := colR_le s a (s.size - 1) x
        have hcb2 : x * (s.size - 1) ≤ 49 := Nat.mul_le_mul (show x ≤ 7 by omega) (show s.size - 1 ≤ 7 by omega)
        have HC := Lib.hid (show colR s a (s.size - 1) (x + 1) = colR s a (s.size - 1) x + rowR s a x (s.size - 1) from rfl)
        generalize colR s a (s.size - 1) x = c at *
        go_wp2_with fail
        rename World => wo
        clear y0 y1
        go_loopw [4, 6] (fun cv yv wr => Gr wA wr ∧ ∃ y : Nat, yv = .int .i64 y ∧ y + 1 ≤ s.size ∧ cv = .int .i64 ((c + rowR s a x y : Nat) : Int)) (fun _ i _ => s.size - (intOf i).toNat)
        case atStart => exact ⟨HG.out, 0, rfl, by omega, rfl⟩
        case round =>
          obtain ⟨gr, y, rfl, hy, rfl⟩ := hrel
          obtain ⟨y0, y1⟩ := ks gr HY.out
          have HG2 := Lib.hid gr
          have wy : IntKind.i64.wrap ((y : Int) + 1) = (y : Int) + 1 := IntWalk.i64_in _ (by omega)
          clear gr
          by_cases hlt2 : y + 1 < s.size
          · have z2 : (y : Int) + 1 < (s.size : Int) := by omega
            have HQ := Lib.hid (HR.out x y hlt hlt2)
            have hsp := rdW_sp s a x y
            have hrb := rowR_le s a x y
            have HD := Lib.hid (show rowR s a x (y + 1) = rowR s a x y + (rdW s a x y).natAbs from rfl)
            generalize rdW s a x y = r at *
            have HL := Lib.hid (fun W => Tryd.l1AbsR r W (by omega) (by omega))
            generalize rowR s a x y = q at *
            have hn : r.natAbs ≤ 1 := by omega
            have hw3 : IntKind.i64.wrap (((c + q : Nat) : Int) + (r.natAbs : Nat)) = ((c + q : Nat) : Int) + (r.natAbs : Nat) := IntWalk.i64_in _ (by omega)
            generalize r.natAbs = m at *
            go_wp2_with (first | (go_at_call 53; refine (HQ.out _).mono ?_; rintro e w5 ⟨rfl, g5⟩) | (go_at_call 55; refine (HL.out _).mono ?_; rintro e w1 ⟨rfl, rfl⟩))
            go_roundw
            case rel => exact ⟨Gr.trans HG2.out g5, y + 1, by go_num, by omega, by rw [HD.out]; exact congrArg (Value.int .i64) (by omega)⟩
            case measure => simp [intOf]; omega
          · have z2 : ¬ (y : Int) + 1 < (s.size : Int) := by omega
            obtain rfl : y = s.size - 1 := by omega
            go_wp2
            go_roundw
            case rel => exact ⟨HG2.out, x + 1, by go_num, by omega, by rw [HC.out]⟩
            case measure => simp [intOf]; omega
      · have z1 : ¬ (x : Int) + 1 < (a.size : Int) := by omega
        obtain rfl : x = a.size - 1 := by omega
        go_wp2
        go_ret2
        exact ⟨rfl, Gr.trans HA.out HG.out⟩
set_option maxRecDepth 100000 in
set_option maxHeartbeats 1600000 in
theorem Tryd.iCountRounds (w : World) (s a : ByteArray) (hs : s.size ≤ maxLen) (ha : a.size ≤ maxLen) (b : Bool) (v : Int) (hb : okW s a = b) (hv : crV s a b = v) :
    Calls Tryd.prog 30 #[.agg #[.string s, .string a]] w fun e w' => e = .returned (.tuple #[.int .i64 v, .bool b]) ∧ Gr w w' := by
  have H1 := Lib.hid (fun (W : World) => Tryd.iAreWays W s a hs ha b hb)
  subst hv
  cases b
  · unfold crV
    simp only [Bool.false_eq_true, if_false]
    clear hs ha hb
    go_enter Tryd.func30, Tryd.ntmps30
    go_wp2_with (first | (go_at_call 16; refine (H1.out _).mono ?_; rintro e w1 ⟨rfl, hbW⟩; have hcW := (bcell hbW.below).1; have hfW := (bcell hbW.below).2; (try have hzW : w.heap.size < w1.heap.size := by have hq := hbW.below.size; (try simp at hq); omega); (try have hyW : w.heap.size + 1 < w1.heap.size := by have hq := hbW.below.size; (try simp at hq); omega); (try have hxW : w.heap.size + 2 < w1.heap.size := by have hq := hbW.below.size; (try simp at hq); omega)))
    go_ret2
    exact ⟨rfl, by repeat (first | exact Gr.refl _ | refine Gr.alloc ?_ _ | refine Gr.trans ?_ (by assumption) | refine Gr.drew ?_ | refine Gr.drewN ?_ _ | refine Gr.grow ?_ _ | refine Gr.setCell ?_ (by (try simp); (try omega)) _)⟩
  · obtain ⟨h1, h2⟩ := okW_and hb
    have l1 := okT_len h1
    have l2 := okT_len h2
    unfold crV
    simp only [if_true]
    have HR : Hid (∀ (x y : Nat) (hx : x + 1 < a.size) (hy : y + 1 < s.size) (W : World), Calls Tryd.prog 28 #[.agg #[.string s, .string a], .int .i64 x, .int .i64 y] W fun e w' => e = .returned (.tuple #[.int .i64 (rdW s a x y), .bool true]) ∧ Gr W w') := Lib.hid (fun x y hx hy W => by
      have e : rbB s a x y = true := by
        unfold rbB
        rw [hb, inn_t (by omega) (by omega), inn_t (by omega) (by omega)]; rfl
      have := Tryd.iRoundOfBlock W s a hs ha x y
      unfold rbV at this
      rw [e] at this
      simpa only [if_true, Int.toNat_natCast] using this)
    have wl1 : IntKind.i64.wrap ((a.size : Int) - 1) = (a.size : Int) - 1 := IntWalk.i64_in _ (by omega)
    have wl2 : IntKind.i64.wrap ((s.size : Int) - 1) = (s.size : Int) - 1 := IntWalk.i64_in _ (by omega)
    clear hs ha hb h1 h2
    go_enter Tryd.func30, Tryd.ntmps30
    go_wp2_with (first | (go_at_call 16; refine (H1.out _).mono ?_; rintro e wA ⟨rfl, gA⟩; obtain ⟨y0, y1⟩ := ks gA (b := w.heap.size) (x := .string s) (y := .string a) ⟨by simp [go_sem], by simp [go_sem]⟩))
    have HA := Lib.hid (Gr.trans (Gr.alloc (Gr.refl w) _) gA)
    have HY := Lib.hid (And.intro y0 y1)
    clear gA y0 y1
    go_loopw [4, 16] (fun cv xv wr => Gr wA wr ∧ ∃ x : Nat, xv = .int .i64 x ∧ x + 1 ≤ a.size ∧ cv = .int .i64 (colR s a (s.size - 1) x : Nat)) (fun _ i _ => a.size - (intOf i).toNat)
    case atStart => exact ⟨Gr.refl _, 0, rfl, by omega, rfl⟩
    case round =>
      obtain ⟨gr, x, rfl, hx, rfl⟩ := hrel
      obtain ⟨y0, y1⟩ := ks gr HY.out
      have HG := Lib.hid gr
      clear gr
      by_cases hlt : x + 1 < a.size
      · have z1 : (x : Int) < (a.size : Int) - 1 := by omega
        have hcb := colR_le s a (s.size - 1) x
        have hcb2 : x * (s.size - 1) ≤ 49 := Nat.mul_le_mul (show x ≤ 7 by omega) (show s.size - 1 ≤ 7 by omega)
        have HC := Lib.hid (show colR s a (s.size - 1) (x + 1) = colR s a (s.size - 1) x + rowR s a x (s.size - 1) from rfl)
        generalize colR s a (s.size - 1) x = c at *
        go_wp2_with fail
        rename World => wo
        clear y0 y1
        go_loopw [4, 23] (fun cv yv wr => Gr wA wr ∧ ∃ y : Nat, yv = .int .i64 y ∧ y + 1 ≤ s.size ∧ cv = .int .i64 ((c + rowR s a x y : Nat) : Int)) (fun _ i _ => s.size - (intOf i).toNat)
        case atStart => exact ⟨HG.out, 0, rfl, by omega, rfl⟩
        case round =>
          obtain ⟨gr, y, rfl, hy, rfl⟩ := hrel
          obtain ⟨y0, y1⟩ := ks gr HY.out
          have HG2 := Lib.hid gr
          clear gr
          by_cases hlt2 : y + 1 < s.size
          · have z2 : (y : Int) < (s.size : Int) - 1 := by omega
            have HQ := Lib.hid (HR.out x y hlt hlt2)
            have hsp := rdW_sp s a x y
            have hrb := rowR_le s a x y
            have HD := Lib.hid (show rowR s a x (y + 1) = rowR s a x y + (rdW s a x y).natAbs from rfl)
            generalize rdW s a x y = r at *
            generalize rowR s a x y = q at *
            have hw3 : IntKind.i64.wrap (((c + q : Nat) : Int) + 1) = ((c + q : Nat) : Int) + 1 := IntWalk.i64_in _ (by omega)
            rcases hsp with rfl | rfl | rfl <;>
            · go_wp2_with (first | (go_at_call 28; refine (HQ.out _).mono ?_; rintro e w5 ⟨rfl, g5⟩))
              go_roundw
              case rel => exact ⟨Gr.trans HG2.out g5, y + 1, by go_num, by omega, by rw [HD.out]; exact congrArg (Value.int .i64) (by first | rfl | (simp; done) | (simp; omega))⟩
              case measure => simp [intOf]; omega
          · have z2 : ¬ (y : Int) < (s.size : Int) - 1 := by omega
            obtain rfl : y = s.size - 1 := by omega
            go_wp2
            go_roundw
            case rel => exact ⟨HG2.out, x + 1, by go_num, by omega, by rw [HC.out]⟩
            case measure => simp [intOf]; omega
      · have z1 : ¬ (x : Int) < (a.size : Int) - 1 := by omega
        obtain rfl : x = a.size - 1 := by omega
        go_wp2
        go_ret2
        exact ⟨rfl, Gr.trans HA.out HG.out⟩
end Go.Proofs
