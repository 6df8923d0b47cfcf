/-
  Contracts of chapter 1: StreetText.
-/
import Derived.Test.YtopmclaphcnmbaaDoorNuA
import Derived.Test.YtopmclaphcnmbaaDoorDec
import Derived.WalkSmall
namespace Go.Proofs
open Go.RowKit
set_option linter.unusedVariables false
set_option linter.unusedSimpArgs false
def rou : ByteArray := ⟨#[114, 111, 117]⟩
def kl (k : Int) : ByteArray := if k = 0 then ⟨#[114]⟩ else if k = 1 then ⟨#[111]⟩ else ⟨#[117]⟩
def stV (k p : Int) : ByteArray := if gd k p then kl k ++ ⟨(Lib.decDigits p.toNat).toArray⟩ else ⟨#[]⟩
theorem kl_size (k : Int) : ((kl k).size : Int) ≤ 8388608 := by unfold kl; split <;> (try split) <;> decide
set_option maxHeartbeats 400000 in
theorem Tryd.nuText (k p : Int) (w : World) (h0 : 0 ≤ k) (h1 : k ≤ 2) (h2 : 1 ≤ p) (h3 : p ≤ 1000) :
    Calls Tryd.prog 38 #[.agg #[.int .i64 k, .int .i64 p]] w fun e w' => e = .returned (.string (kl k ++ ⟨(Lib.decDigits p.toNat).toArray⟩)) ∧ Gr w w' := by
  have mixed : Tryd.prog.follows .mixedOrders = true := by kernel_rfl
  rcases (show k = 0 ∨ k = 1 ∨ k = 2 by omega) with rfl | rfl | rfl
  · rw [show kl 0 = ⟨#[114]⟩ from rfl]
    have hadd := fun W => run_string_add (P := Tryd.prog) (w := W) ⟨#[114]⟩ ⟨(Lib.decDigits p.toNat).toArray⟩ (by decide) (dec_size _ (by omega))
    have hsl : ∀ W, (Instr.slice 9 (.string ⟨#[114, 111, 117]⟩) (some (.int .i64 0)) (some (.int .i64 1)) none).run Tryd.prog W = .ok (.string ⟨#[114]⟩) W := fun _ => by kernel_rfl
    have e1 : IntKind.i64.wrap (0 + 1) = 1 := by decide
    obtain ⟨b0, b1⟩ := box2 w (.int .i64 0) (.int .i64 p) 23
    go_enter Tryd.func38, Tryd.ntmps38
    go_wp2_with fail
    (refine wp_region_quiet_grown mixed (by kernel_rfl) ?_; (repeat (first | go_big_quiet_step ((first | (go_at_call 39; exact Calls.grown_of (Tryd.l1Num _ (by omega) (by omega) _)))) | quiet_step ((first | (go_at_call 39; exact Calls.grown_of (Tryd.l1Num _ (by omega) (by omega) _)))))); refine wpQuiet_nil ?_; intro _ hw'; obtain ⟨⟨nq, osq⟩, hw''⟩ := hw'; subst hw'')
    go_wp2
    go_ret
    exact ⟨rfl, by repeat (first | exact Gr.refl _ | refine Gr.alloc ?_ _ | refine Gr.trans ?_ (by assumption) | refine Gr.drew ?_ | refine Gr.drewN ?_ _ | refine Gr.grow ?_ _ | refine Gr.setCell ?_ (by (try simp); (try omega)) _)⟩
  · rw [show kl 1 = ⟨#[111]⟩ from rfl]
    have hadd := fun W => run_string_add (P := Tryd.prog) (w := W) ⟨#[111]⟩ ⟨(Lib.decDigits p.toNat).toArray⟩ (by decide) (dec_size _ (by omega))
    have hsl : ∀ W, (Instr.slice 9 (.string ⟨#[114, 111, 117]⟩) (some (.int .i64 1)) (some (.int .i64 2)) none).run Tryd.prog W = .ok (.string ⟨#[111]⟩) W := fun _ => by kernel_rfl
    have e1 : IntKind.i64.wrap (1 + 1) = 2 := by decide
    obtain ⟨b0, b1⟩ := box2 w (.int .i64 1) (.int .i64 p) 23
    go_enter Tryd.func38, Tryd.ntmps38
    go_wp2_with fail
    (refine wp_region_quiet_grown mixed (by kernel_rfl) ?_; (repeat (first | go_big_quiet_step ((first | (go_at_call 39; exact Calls.grown_of (Tryd.l1Num _ (by omega) (by omega) _)))) | quiet_step ((first | (go_at_call 39; exact Calls.grown_of (Tryd.l1Num _ (by omega) (by omega) _)))))); refine wpQuiet_nil ?_; intro _ hw'; obtain ⟨⟨nq, osq⟩, hw''⟩ := hw'; subst hw'')
    go_wp2
    go_ret
    exact ⟨rfl, by repeat (first | exact Gr.refl _ | refine Gr.alloc ?_ _ | refine Gr.trans ?_ (by assumption) | refine Gr.drew ?_ | refine Gr.drewN ?_ _ | refine Gr.grow ?_ _ | refine Gr.setCell ?_ (by (try simp); (try omega)) _)⟩
  · rw [show kl 2 = ⟨#[117]⟩ from rfl]
    have hadd := fun W => run_string_add (P := Tryd.prog) (w := W) ⟨#[117]⟩ ⟨(Lib.decDigits p.toNat).toArray⟩ (by decide) (dec_size _ (by omega))
    have hsl : ∀ W, (Instr.slice 9 (.string ⟨#[114, 111, 117]⟩) (some (.int .i64 2)) (some (.int .i64 3)) none).run Tryd.prog W = .ok (.string ⟨#[117]⟩) W := fun _ => by kernel_rfl
    have e1 : IntKind.i64.wrap (2 + 1) = 3 := by decide
    obtain ⟨b0, b1⟩ := box2 w (.int .i64 2) (.int .i64 p) 23
    go_enter Tryd.func38, Tryd.ntmps38
    go_wp2_with fail
    (refine wp_region_quiet_grown mixed (by kernel_rfl) ?_; (repeat (first | go_big_quiet_step ((first | (go_at_call 39; exact Calls.grown_of (Tryd.l1Num _ (by omega) (by omega) _)))) | quiet_step ((first | (go_at_call 39; exact Calls.grown_of (Tryd.l1Num _ (by omega) (by omega) _)))))); refine wpQuiet_nil ?_; intro _ hw'; obtain ⟨⟨nq, osq⟩, hw''⟩ := hw'; subst hw'')
    go_wp2
    go_ret
    exact ⟨rfl, by repeat (first | exact Gr.refl _ | refine Gr.alloc ?_ _ | refine Gr.trans ?_ (by assumption) | refine Gr.drew ?_ | refine Gr.drewN ?_ _ | refine Gr.grow ?_ _ | refine Gr.setCell ?_ (by (try simp); (try omega)) _)⟩
end Go.Proofs
