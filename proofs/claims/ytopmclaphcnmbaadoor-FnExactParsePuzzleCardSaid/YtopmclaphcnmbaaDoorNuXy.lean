/-
  Chapter 9, the program: numbers' texts, StreetText.
-/
import Derived.Test.YtopmclaphcnmbaaDoorPzX
import Derived.Test.YtopmclaphcnmbaaDoorOwS
import Derived.Test.YtopmclaphcnmbaaDoorShelf
namespace Go.Proofs
open Go.RowKit
set_option linter.unusedVariables false
set_option linter.unusedSimpArgs false
theorem Tryd.gPow : Tryd.prog.globalNamed "internal/strconv.uint64pow10" = some 5 := by kernel_rfl
def Tab (w : World) : Prop := Lib.TabIs Tryd.prog w "internal/strconv.uint64pow10" .u64 Lib.pow10Tab
theorem Tab.below {w w' : World} (h : Tab w) (g : Below w.heap.size w w') : Tab w' := by
  have hc := Lib.TabIs.cell h Tryd.gPow 0 (by decide)
  exact var?_below g Tryd.gPow (World.block_lt_of_cell? _ _ hc) h
theorem Tab.gr {w w' : World} (h : Tab w) (g : Gr w w') : Tab w' := h.below g.below
theorem Tryd.itoa (p : Int) (h2 : 0 ≤ p) (h3 : p ≤ 100000) (w : World) (ht : Tab w) :
    Calls Tryd.prog 31 #[.int .i64 p] w fun e w' => e = .returned (.string (itx p)) ∧ Gr w w' := by
  have h := Tryd.strconv_Itoa p (by omega) (by omega) w ht
  rw [show Lib.itoa p = Lib.decDigits p.toNat by unfold Lib.itoa; rw [if_neg (by omega)]] at h
  exact h
theorem Tryd.itoaD (p : Int) (h2 : 1 ≤ p) (h3 : p ≤ 1000) (w : World) (ht : Tab w) :
    Calls Tryd.prog 31 #[.int .i64 p] w fun e w' => e = .returned (.string ⟨(Lib.decDigits p.toNat).toArray⟩) ∧ Gr w w' := by
  have h := Tryd.strconv_Itoa p (by omega) (by omega) w ht
  rw [show Lib.itoa p = Lib.decDigits p.toNat by unfold Lib.itoa; rw [if_neg (by omega)]] at h
  exact h
set_option maxHeartbeats 400000 in
theorem Tryd.iStreetText (k p : Int) (w : World) (ht : Tab w) :
    Calls Tryd.prog 27 #[.agg #[.int .i64 k, .int .i64 p]] w fun e w' => e = .returned (.tuple #[.string (stV k p), .bool (gd k p)]) ∧ Gr w w' := by
  cases hg : gd k p
  · rw [show stV k p = ⟨#[]⟩ by simp [stV, hg]]
    have H := Lib.hid hg
    clear hg
    go_enter Tryd.func27, Tryd.ntmps27
    go_wp2_with (first | (go_at_call 44; refine (Tryd.iIsStreet _ _ _ H.out _).mono ?_; rintro e w1 ⟨rfl, hbW⟩; have hcW := (bcell hbW.below).1; have hfW := (bcell hbW.below).2; (try have hzW : w.heap.size < w1.heap.size := by have hq := hbW.below.size; (try simp at hq); omega); (try have hyW : w.heap.size + 1 < w1.heap.size := by have hq := hbW.below.size; (try simp at hq); omega); (try have hxW : w.heap.size + 2 < w1.heap.size := by have hq := hbW.below.size; (try simp at hq); omega)))
    go_ret2
    exact ⟨rfl, by repeat (first | exact Gr.refl _ | refine Gr.alloc ?_ _ | refine Gr.trans ?_ (by assumption) | refine Gr.drew ?_ | refine Gr.drewN ?_ _ | refine Gr.grow ?_ _ | refine Gr.setCell ?_ (by (try simp); (try omega)) _)⟩
  · obtain ⟨h0, h1, h2, h3⟩ := gd_t hg
    rw [show stV k p = kl k ++ ⟨(Lib.decDigits p.toNat).toArray⟩ by simp [stV, hg]]
    have H := Lib.hid hg
    have mixed : Tryd.prog.follows .mixedOrders = true := by kernel_rfl
    clear hg
    rcases (show k = 0 ∨ k = 1 ∨ k = 2 by omega) with rfl | rfl | rfl
    · rw [show kl 0 = ⟨#[114]⟩ from rfl]
      have hadd := fun W => run_string_add (P := Tryd.prog) (w := W) ⟨#[114]⟩ ⟨(Lib.decDigits p.toNat).toArray⟩ (by decide) (dec_size _ (by omega))
      have hsl : ∀ W, (Instr.slice 9 (.string ⟨#[114, 111, 117]⟩) (some (.int .i64 0)) (some (.int .i64 1)) none).run Tryd.prog W = .ok (.string ⟨#[114]⟩) W := fun _ => by kernel_rfl
      have e1 : IntKind.i64.wrap (0 + 1) = 1 := by decide
      go_enter Tryd.func27, Tryd.ntmps27
      go_wp2_with (first | (go_at_call 44; refine (Tryd.iIsStreet _ _ _ H.out _).mono ?_; rintro e w1 ⟨rfl, hbW⟩; have hcW := (bcell hbW.below).1; have hfW := (bcell hbW.below).2; (try have hzW : w.heap.size < w1.heap.size := by have hq := hbW.below.size; (try simp at hq); omega); (try have hyW : w.heap.size + 1 < w1.heap.size := by have hq := hbW.below.size; (try simp at hq); omega); (try have hxW : w.heap.size + 2 < w1.heap.size := by have hq := hbW.below.size; (try simp at hq); omega)))
      have gw : Gr w w1 := (by repeat (first | exact Gr.refl _ | refine Gr.alloc ?_ _ | refine Gr.trans ?_ (by assumption) | refine Gr.drew ?_ | refine Gr.drewN ?_ _ | refine Gr.grow ?_ _ | refine Gr.setCell ?_ (by (try simp); (try omega)) _))
      have c0 : w1.cell? ⟨w.heap.size, 0, none⟩ = some (.int .i64 0) := by go_simp
      have c1 : w1.cell? ⟨w.heap.size, 1, none⟩ = some (.int .i64 p) := by go_simp
      have b0 := fun n os => cell_grown hzW c0 n os
      have b1 := fun n os => cell_grown hzW c1 n os
      have HT := Lib.hid (ht.gr gw)
      clear hcW hfW hbW
      (refine wp_region_quiet_grown mixed (by kernel_rfl) ?_; (repeat (first | go_big_quiet_step ((first | (go_at_call 31; exact Calls.grown_of (Tryd.itoaD _ h2 h3 _ (HT.out.gr ⟨_, _, rfl⟩))))) | quiet_step ((first | (go_at_call 31; exact Calls.grown_of (Tryd.itoaD _ h2 h3 _ (HT.out.gr ⟨_, _, rfl⟩))))))); refine wpQuiet_nil ?_; intro _ hw'; obtain ⟨⟨nq, osq⟩, hw''⟩ := hw'; subst hw'')
      go_wp2
      go_ret2
      exact ⟨rfl, gw.trans ⟨_, _, rfl⟩⟩
    · rw [show kl 1 = ⟨#[111]⟩ from rfl]
      have hadd := fun W => run_string_add (P := Tryd.prog) (w := W) ⟨#[111]⟩ ⟨(Lib.decDigits p.toNat).toArray⟩ (by decide) (dec_size _ (by omega))
      have hsl : ∀ W, (Instr.slice 9 (.string ⟨#[114, 111, 117]⟩) (some (.int .i64 1)) (some (.int .i64 2)) none).run Tryd.prog W = .ok (.string ⟨#[111]⟩) W := fun _ => by kernel_rfl
      have e1 : IntKind.i64.wrap (1 + 1) = 2 := by decide
      go_enter Tryd.func27, Tryd.ntmps27
      go_wp2_with (first | (go_at_call 44; refine (Tryd.iIsStreet _ _ _ H.out _).mono ?_; rintro e w1 ⟨rfl, hbW⟩; have hcW := (bcell hbW.below).1; have hfW := (bcell hbW.below).2; (try have hzW : w.heap.size < w1.heap.size := by have hq := hbW.below.size; (try simp at hq); omega); (try have hyW : w.heap.size + 1 < w1.heap.size := by have hq := hbW.below.size; (try simp at hq); omega); (try have hxW : w.heap.size + 2 < w1.heap.size := by have hq := hbW.below.size; (try simp at hq); omega)))
      have gw : Gr w w1 := (by repeat (first | exact Gr.refl _ | refine Gr.alloc ?_ _ | refine Gr.trans ?_ (by assumption) | refine Gr.drew ?_ | refine Gr.drewN ?_ _ | refine Gr.grow ?_ _ | refine Gr.setCell ?_ (by (try simp); (try omega)) _))
      have c0 : w1.cell? ⟨w.heap.size, 0, none⟩ = some (.int .i64 1) := by go_simp
      have c1 : w1.cell? ⟨w.heap.size, 1, none⟩ = some (.int .i64 p) := by go_simp
      have b0 := fun n os => cell_grown hzW c0 n os
      have b1 := fun n os => cell_grown hzW c1 n os
      have HT := Lib.hid (ht.gr gw)
      clear hcW hfW hbW
      (refine wp_region_quiet_grown mixed (by kernel_rfl) ?_; (repeat (first | go_big_quiet_step ((first | (go_at_call 31; exact Calls.grown_of (Tryd.itoaD _ h2 h3 _ (HT.out.gr ⟨_, _, rfl⟩))))) | quiet_step ((first | (go_at_call 31; exact Calls.grown_of (Tryd.itoaD _ h2 h3 _ (HT.out.gr ⟨_, _, rfl⟩))))))); refine wpQuiet_nil ?_; intro _ hw'; obtain ⟨⟨nq, osq⟩, hw''⟩ := hw'; subst hw'')
      go_wp2
      go_ret2
      exact ⟨rfl, gw.trans ⟨_, _, rfl⟩⟩
    · rw [show kl 2 = ⟨#[117]⟩ from rfl]
      have hadd := fun W => run_string_add (P := Tryd.prog) (w := W) ⟨#[117]⟩ ⟨(Lib.decDigits p.toNat).toArray⟩ (by decide) (dec_size _ (by omega))
      have hsl : ∀ W, (Instr.slice 9 (.string ⟨#[114, 111, 117]⟩) (some (.int .i64 2)) (some (.int .i64 3)) none).run Tryd.prog W = .ok (.string ⟨#[117]⟩) W := fun _ => by kernel_rfl
      have e1 : IntKind.i64.wrap (2 + 1) = 3 := by decide
      go_enter Tryd.func27, Tryd.ntmps27
      go_wp2_with (first | (go_at_call 44; refine (Tryd.iIsStreet _ _ _ H.out _).mono ?_; rintro e w1 ⟨rfl, hbW⟩; have hcW := (bcell hbW.below).1; have hfW := (bcell hbW.below).2; (try have hzW : w.heap.size < w1.heap.size := by have hq := hbW.below.size; (try simp at hq); omega); (try have hyW : w.heap.size + 1 < w1.heap.size := by have hq := hbW.below.size; (try simp at hq); omega); (try have hxW : w.heap.size + 2 < w1.heap.size := by have hq := hbW.below.size; (try simp at hq); omega)))
      have gw : Gr w w1 := (by repeat (first | exact Gr.refl _ | refine Gr.alloc ?_ _ | refine Gr.trans ?_ (by assumption) | refine Gr.drew ?_ | refine Gr.drewN ?_ _ | refine Gr.grow ?_ _ | refine Gr.setCell ?_ (by (try simp); (try omega)) _))
      have c0 : w1.cell? ⟨w.heap.size, 0, none⟩ = some (.int .i64 2) := by go_simp
      have c1 : w1.cell? ⟨w.heap.size, 1, none⟩ = some (.int .i64 p) := by go_simp
      have b0 := fun n os => cell_grown hzW c0 n os
      have b1 := fun n os => cell_grown hzW c1 n os
      have HT := Lib.hid (ht.gr gw)
      clear hcW hfW hbW
      (refine wp_region_quiet_grown mixed (by kernel_rfl) ?_; (repeat (first | go_big_quiet_step ((first | (go_at_call 31; exact Calls.grown_of (Tryd.itoaD _ h2 h3 _ (HT.out.gr ⟨_, _, rfl⟩))))) | quiet_step ((first | (go_at_call 31; exact Calls.grown_of (Tryd.itoaD _ h2 h3 _ (HT.out.gr ⟨_, _, rfl⟩))))))); refine wpQuiet_nil ?_; intro _ hw'; obtain ⟨⟨nq, osq⟩, hw''⟩ := hw'; subst hw'')
      go_wp2
      go_ret2
      exact ⟨rfl, gw.trans ⟨_, _, rfl⟩⟩
end Go.Proofs
