/-
  Steps of ways by what is no sign, both sides.
-/
import Derived.Test.YtkhjjafeoijaaabDoorOwLc
import Derived.Test.YtkhjjafeoijaaabDoorLdM
namespace Go.Proofs
open Go.RowKit Av
set_option linter.unusedVariables false
set_option linter.unusedSimpArgs false
theorem noSg_two {r : Int} {p q : UInt8} (h : NoSg (⟨#[101, 110, 115, 119]⟩ : ByteArray).data.toList r) (hp : isSg p) (hq : isSg q) : NoSg (⟨#[p, q]⟩ : ByteArray).data.toList r := by
  rcases h with ⟨c, rfl, h1, h2⟩ | h
  · refine .inl ⟨c, rfl, h1, fun m => h2 ?_⟩
    have e : (⟨#[p, q]⟩ : ByteArray).data.toList = [p, q] := rfl
    rw [e] at m
    simp only [List.mem_cons, List.not_mem_nil, or_false] at m ⊢
    rcases m with rfl | rfl
    · rcases hp with e | e | e | e <;> simp [e]
    · rcases hq with e | e | e | e <;> simp [e]
  · exact .inr h
set_option maxHeartbeats 800000 in
theorem Tryd.hasNo (p q : UInt8) (hp : isSg p) (hq : isSg q) (r : Int) (h : NoSg (⟨#[101, 110, 115, 119]⟩ : ByteArray).data.toList r) (w : World) :
    Calls Tryd.prog 47 #[.string ⟨#[p, q]⟩, .int .i32 r] w fun e w' => e = .returned (.bool false) ∧ Gr w w' := by
  have HX := Lib.hid (fun (W : World) => Tryd.idxRune_no ⟨#[p, q]⟩ (by
    intro i hi
    have hi2 : i < 2 := hi
    rcases (show i = 0 ∨ i = 1 by omega) with e | e <;> subst e
    · exact sg_lo hp
    · exact sg_lo hq) (by show (2 : Nat) ≤ 8; decide) r (noSg_two h hp hq) W)
  clear h
  go_enter Tryd.func47, Tryd.ntmps47
  go_wp2_with (first | (go_at_call 60; refine (HX.out _).mono ?_; rintro e w1 ⟨rfl, hbW⟩))
  go_ret
  exact ⟨rfl, by repeat (first | exact Gr.refl _ | refine Gr.alloc ?_ _ | refine Gr.trans ?_ (by assumption) | refine Gr.drew ?_ | refine Gr.drewN ?_ _ | refine Gr.grow ?_ _ | refine Gr.setCell ?_ (by (try simp); (try omega)) _)⟩
theorem okT_sgE {s : ByteArray} (h : okT 101 119 s = true) (y : Nat) (hy : y < s.size) : isSg (gb s y) := by
  rw [← gb_eq s y hy]
  rcases okT_at h y hy with e | e <;> rw [e]
  · exact .inl rfl
  · exact .inr (.inl rfl)
theorem okT_sgN {s : ByteArray} (h : okT 110 115 s = true) (y : Nat) (hy : y < s.size) : isSg (gb s y) := by
  rw [← gb_eq s y hy]
  rcases okT_at h y hy with e | e <;> rw [e]
  · exact .inr (.inr (.inl rfl))
  · exact .inr (.inr (.inr rfl))
set_option maxRecDepth 100000 in
set_option maxHeartbeats 1600000 in
theorem Tryd.iwStepNo (w : World) (s a : ByteArray) (h1 : okT 101 119 s = true) (h2 : okT 110 115 a = true) (x y : Nat) (hx : x < a.size) (hy : y < s.size) (r : Int) (hr : NoSg (⟨#[101, 110, 115, 119]⟩ : ByteArray).data.toList r) :
    Calls Tryd.prog 28 #[.agg #[.string s, .string a], .agg #[.int .i64 (x : Nat), .int .i64 (y : Nat)], .int .i32 r] w fun e w' => e = .returned (.tuple #[.agg #[.int .i64 0, .int .i64 0], .bool false]) ∧ Gr w w' := by
  have l1 := okT_len h1
  have l2 := okT_len h2
  have HS := Lib.hid (fun (W : World) => Tryd.signsAt W s a l1.2 l2.2 x y hx hy)
  have HD := Lib.hid (fun (W : World) => Tryd.hasNo (gb s y) (gb a x) (okT_sgE h1 y hy) (okT_sgN h2 x hx) r hr W)
  generalize gb s y = p at *
  generalize gb a x = q at *
  clear h1 h2 hr
  go_enter Tryd.func28, Tryd.ntmps28
  go_wp2_with (first | (go_at_call 48; refine (HS.out _).mono ?_; rintro e w1 ⟨rfl, hbW⟩; have hcW := (bcell hbW.below).1; have hfW := (bcell hbW.below).2; (try have hzW : w.heap.size < w1.heap.size := by have hq := hbW.below.size; (try simp at hq); omega); (try have hyW : w.heap.size + 1 < w1.heap.size := by have hq := hbW.below.size; (try simp at hq); omega); (try have hxW : w.heap.size + 2 < w1.heap.size := by have hq := hbW.below.size; (try simp at hq); omega)) | (go_at_call 47; refine (HD.out _).mono ?_; rintro e w2 ⟨rfl, hbX⟩; have hg2 := hbW.trans hbX; have m0 := hg2.keep0 (a := ⟨w.heap.size + 1 + 1, 0, none⟩) (v := .int .i64 0) (by simp [go_sem]); have m1 := hg2.keep0 (a := ⟨w.heap.size + 1 + 1, 1, none⟩) (v := .int .i64 0) (by simp [go_sem]); have n0 := ((bcell hg2.below).2 (w.heap.size + 1 + 1) 0 (by simp)).trans (show _ = false by simp [go_sem]); have n1 := ((bcell hg2.below).2 (w.heap.size + 1 + 1) 1 (by simp)).trans (show _ = false by simp [go_sem])))
  obtain ⟨q0, q1⟩ := resSet2 (w := w) (hbW.trans hbX) (.int .i64 0) (.int .i64 0)
  refine bodyPost_ret (v := .tuple #[.agg #[.int .i64 0, .int .i64 0], .bool false]) ?_ rfl ⟨rfl, ?_⟩
  · simp [results, Tryd.results28, go_sem, q0, q1]
  · exact by repeat (first | exact Gr.refl _ | refine Gr.alloc ?_ _ | refine Gr.trans ?_ (by assumption) | refine Gr.drew ?_ | refine Gr.drewN ?_ _ | refine Gr.grow ?_ _ | refine Gr.setCell ?_ (by (try simp); (try omega)) _)
set_option maxRecDepth 100000 in
set_option maxHeartbeats 1600000 in
theorem Tryd.owStepNo (w : World) (s a : ByteArray) (h1 : okT 101 119 s = true) (h2 : okT 110 115 a = true) (x y : Nat) (hx : x < a.size) (hy : y < s.size) (c : UInt8) (hc : ¬ isSg c) :
    Calls Tryd.prog 24 #[.agg #[.string s, .string a], .int .i64 (x : Nat), .int .i64 (y : Nat), .int .u8 (c.toNat : Int)] w fun e w' => e = .returned (.tuple #[.int .i64 0, .int .i64 0, .bool false]) ∧ Gr w w' := by
  have l1 := okT_len h1
  have l2 := okT_len h2
  have zx0 : (0 : Int) ≤ (x : Int) := by omega
  have zy0 : (0 : Int) ≤ (y : Int) := by omega
  have zx1 : (x : Int) < (a.size : Int) := by omega
  have zy1 : (y : Int) < (s.size : Int) := by omega
  have e1 : ((c.toNat : Int) == ((s[y]'hy).toNat : Int)) = false := by
    rw [u8_eq]
    exact decide_eq_false (fun e => hc (by rw [e, gb_eq s y hy]; exact okT_sgE h1 y hy))
  have e2 : ((c.toNat : Int) == ((a[x]'hx).toNat : Int)) = false := by
    rw [u8_eq]
    exact decide_eq_false (fun e => hc (by rw [e, gb_eq a x hx]; exact okT_sgN h2 x hx))
  clear h1 h2 hc
  go_enter Tryd.func24, Tryd.ntmps24
  go_wp2_with fail
  exact bodyPost_ret (v := .tuple #[.int .i64 0, .int .i64 0, .bool false]) (by simp [results, Tryd.results24, go_sem]) rfl ⟨rfl, by repeat (first | exact Gr.refl _ | refine Gr.alloc ?_ _ | refine Gr.trans ?_ (by assumption) | refine Gr.drew ?_ | refine Gr.drewN ?_ _ | refine Gr.grow ?_ _ | refine Gr.setCell ?_ (by (try simp); (try omega)) _)⟩
end Go.Proofs
