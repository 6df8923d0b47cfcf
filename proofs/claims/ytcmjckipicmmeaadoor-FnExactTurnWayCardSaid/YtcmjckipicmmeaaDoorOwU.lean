/-
  Chapter 6: rounds of a block, both functions.
-/
import Derived.Test.YtcmjckipicmmeaaDoorOwH
namespace Go.Proofs
open Go.RowKit
set_option linter.unusedVariables false
set_option linter.unusedSimpArgs false
/-- whether there is a block, and how one drives around it -/
def rbB (s a : ByteArray) (x y : Int) : Bool := okW s a && (inn x 0 (a.size - 2) && inn y 0 (s.size - 2))
def rdW (s a : ByteArray) (x y : Nat) : Int := rg (gb s y) (gb s (y + 1)) (gb a x) (gb a (x + 1))
def rbV (s a : ByteArray) (x y : Int) : Int := if rbB s a x y then rdW s a x.toNat y.toNat else 0
theorem ext_2g (s : ByteArray) (k : Nat) (h : k + 1 < s.size) : s.extract k (k + 2) = ⟨#[gb s k, gb s (k + 1)]⟩ := by
  rw [ext_two s k h, gb_eq, gb_eq]
theorem okT_two {p q : UInt8} {s : ByteArray} (h : okT p q s = true) (k : Nat) (hk : k + 1 < s.size) : okT p q ⟨#[gb s k, gb s (k + 1)]⟩ = true := by
  have h1 := okT_at h k (by omega)
  have h2 := okT_at h (k + 1) hk
  rw [gb_eq] at h1 h2
  unfold okT
  have e : (⟨#[gb s k, gb s (k + 1)]⟩ : ByteArray).data.toList = [gb s k, gb s (k + 1)] := rfl
  have e2 : (⟨#[gb s k, gb s (k + 1)]⟩ : ByteArray).size = 2 := rfl
  rw [e, e2]
  unfold isIn
  rcases h1 with h1 | h1 <;> rcases h2 with h2 | h2 <;> simp [h1, h2]
set_option maxRecDepth 100000 in
set_option maxHeartbeats 1600000 in
theorem Tryd.owRound (w : World) (s a : ByteArray) (h1 : okT 101 119 s = true) (h2 : okT 110 115 a = true) (x y : Nat) (hx : x + 1 < a.size) (hy : y + 1 < s.size) :
    Calls Tryd.prog 53 #[.agg #[.string s, .string a], .int .i64 (x : Nat), .int .i64 (y : Nat)] w fun e w' => e = .returned (.int .i64 (rdW s a x y)) ∧ Gr w w' := by
  have mixed : Tryd.prog.follows .mixedOrders = true := by kernel_rfl
  have l1 := okT_len h1
  have l2 := okT_len h2
  obtain ⟨W2, hW2⟩ : ∃ W, w.alloc (.cells #[.string s, .string a] 26) = W := ⟨_, rfl⟩
  have GG := Lib.hid (show Gr w W2 by subst hW2; exact by repeat (first | exact Gr.refl _ | refine Gr.alloc ?_ _ | refine Gr.trans ?_ (by assumption) | refine Gr.drew ?_ | refine Gr.drewN ?_ _ | refine Gr.grow ?_ _ | refine Gr.setCell ?_ (by (try simp); (try omega)) _))
  have r0 := gr_all (Gr.refl W2) (a := ⟨w.heap.size, 0, none⟩) (v := .string s) (by subst hW2; simp [go_sem])
  have r1 := gr_all (Gr.refl W2) (a := ⟨w.heap.size, 1, none⟩) (v := .string a) (by subst hW2; simp [go_sem])
  have c0 : W2.cell? ⟨w.heap.size, 0, none⟩ = some (.string s) := by subst hW2; simp [go_sem]
  have c1 : W2.cell? ⟨w.heap.size, 1, none⟩ = some (.string a) := by subst hW2; simp [go_sem]
  have zx0 : (0 : Int) ≤ (x : Int) := by omega
  have zy0 : (0 : Int) ≤ (y : Int) := by omega
  have zx1 : (x : Int) ≤ 7 := by omega
  have zy1 : (y : Int) ≤ 7 := by omega
  have zx2 : (x : Int) + 2 ≤ (a.size : Int) := by omega
  have zy2 : (y : Int) + 2 ≤ (s.size : Int) := by omega
  have zx3 : (0 : Int) ≤ (x : Int) + 2 := by omega
  have zy3 : (0 : Int) ≤ (y : Int) + 2 := by omega
  have zx4 : (x : Int) ≤ (x : Int) + 2 := by omega
  have zy4 : (y : Int) ≤ (y : Int) + 2 := by omega
  have n1 : ((x : Int) + 2).toNat = x + 2 := by omega
  have n2 : ((y : Int) + 2).toNat = y + 2 := by omega
  have wr1 : IntKind.i64.wrap ((x : Int) + 2) = (x : Int) + 2 := IntWalk.i64_in _ (by omega)
  have wr2 : IntKind.i64.wrap ((y : Int) + 2) = (y : Int) + 2 := IntWalk.i64_in _ (by omega)
  have e1 := ext_2g s y hy
  have e2 := ext_2g a x hx
  have HR := Lib.hid (fun (W : World) (b : Bool) (hb : rgB (gb s y) (gb s (y + 1)) (gb a x) (gb a (x + 1)) = b) => Tryd.owRing W ⟨#[gb s y, gb s (y + 1)]⟩ ⟨#[gb a x, gb a (x + 1)]⟩ (okT_two h1 y hy) (okT_two h2 x hx) ⟨Nat.le_refl 2, show (2 : Nat) ≤ 8 by omega⟩ ⟨Nat.le_refl 2, show (2 : Nat) ≤ 8 by omega⟩ b hb)
  unfold rdW
  have hsp := @rg_sp (gb s y) (gb s (y + 1)) (gb a x) (gb a (x + 1))
  have hrb : rgB (gb s y) (gb s (y + 1)) (gb a x) (gb a (x + 1)) = decide (rg (gb s y) (gb s (y + 1)) (gb a x) (gb a (x + 1)) ≠ 0) := rfl
  generalize rg (gb s y) (gb s (y + 1)) (gb a x) (gb a (x + 1)) = r at *
  generalize gb s y = p0 at *
  generalize gb s (y + 1) = p1 at *
  generalize gb a x = q0 at *
  generalize gb a (x + 1) = q1 at *
  clear h1 h2 l1 l2
  go_enter Tryd.func53, Tryd.ntmps53
  go_wp2_with fail
  have HS0 := And.intro c0 c1
  clear r0 r1
  go_region_held3 (fun W' => W'.cell? ⟨w.heap.size, 0, none⟩ = some (.string s) ∧ W'.cell? ⟨w.heap.size, 1, none⟩ = some (.string a))
    (first | assumption | (refine ks (Gr.drew (Gr.refl _)) ?_; assumption; done) | (refine ks (Gr.alloc (Gr.refl _) _) ?_; assumption; done) | (refine ks (Gr.drew (Gr.alloc (Gr.refl _) _)) ?_; assumption; done) | (refine ks (Gr.alloc (Gr.drew (Gr.refl _)) _) ?_; assumption; done))
    (fail)
  obtain ⟨X, hX⟩ : ∃ X, (W2.alloc (.cells #[.string ⟨#[p0, p1]⟩, .string ⟨#[q0, q1]⟩] 26)).drew = X := ⟨_, rfl⟩
  simp only [hX]
  have GX := Lib.hid (show Gr w X by rw [← hX]; exact Gr.drew (Gr.alloc GG.out _))
  have y0 : X.cell? ⟨W2.heap.size, 0, none⟩ = some (.string ⟨#[p0, p1]⟩) := by (rw [← hX]; simp [go_sem])
  have y1 : X.cell? ⟨W2.heap.size, 1, none⟩ = some (.string ⟨#[q0, q1]⟩) := by (rw [← hX]; simp [go_sem])
  have hXs : W2.heap.size < X.heap.size := by (rw [← hX]; simp)
  clear hX c0 c1 HS0 hW2 e1 e2 wr1 wr2 n1 n2
  rcases hsp with rfl | ⟨rfl, rfl⟩ | ⟨rfl, rfl⟩
  · go_wp2_with fail
    refine (HR.out X false (by rw [hrb]; rfl)).mono ?_
    rintro e w1 ⟨rfl, g1⟩
    go_wp2_with fail
    go_ret
    exact ⟨rfl, GX.out.trans g1⟩
  · go_wp2_with fail
    refine (HR.out X true (by rw [hrb]; rfl)).mono ?_
    rintro e w1 ⟨rfl, g1⟩
    have y2 := g1.keep0 y0
    have y3 := g1.keep0 y1
    clear y0 y1
    go_wp2_with fail
    go_ret
    exact ⟨rfl, GX.out.trans g1⟩
  · go_wp2_with fail
    refine (HR.out X true (by rw [hrb]; rfl)).mono ?_
    rintro e w1 ⟨rfl, g1⟩
    have y2 := g1.keep0 y0
    have y3 := g1.keep0 y1
    clear y0 y1
    go_wp2_with fail
    go_ret
    exact ⟨rfl, GX.out.trans g1⟩
end Go.Proofs
