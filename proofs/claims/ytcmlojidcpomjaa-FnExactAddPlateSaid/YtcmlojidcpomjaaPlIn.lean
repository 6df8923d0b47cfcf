/-
  Contracts of chapter 2: slices.Insert of one plate, at the end.
-/
import Derived.Test.YtcmlojidcpomjaaPlGr
namespace Go.Proofs
open Go.RowKit Pl
set_option linter.unusedVariables false
set_option linter.unusedSimpArgs false
set_option maxRecDepth 100000 in
set_option maxHeartbeats 1600000 in
theorem Try.insertEnd (w : World) (B : Nat) (v : Value) (ps : List Pi2) (p0 p1 : Int) (b : Nat) (hB : B ≤ w.heap.size) (hpos : 0 < ps.length) (hl : ps.length ≤ 1000) (h : OwnP 44 w B v ps)
    (hc0 : w.cell? ⟨b, 0, none⟩ = some (.int .i64 p0)) (hc1 : w.cell? ⟨b, 1, none⟩ = some (.int .i64 p1)) :
    Calls Try.prog 71 #[v, .int .i64 ps.length, .slice (some ⟨b, 0, none⟩) 1 1] w fun e w' => ∃ v', e = .returned v' ∧ OwnP 44 w' B v' (ps ++ [(p0, p1)]) ∧ Below B w w' ∧ w.grownBy w' v.ownBlock := by
  rcases h.view with ⟨hz, _⟩ | ⟨_, g, c, rfl, _, g2, hcap, hcm, _, _⟩
  · subst hz; simp at hpos
  · have H := Lib.hid h
    have HC := Lib.hid (cells2 (x := .int .i64 p0) (y := .int .i64 p1) (ad := ⟨b, 0, none⟩) hc0 (by simpa [Addr.add] using hc1))
    have z0 : (0 : Int) ≤ (ps.length : Int) := by omega
    have z1 : (ps.length : Int) ≤ (c : Int) := by omega
    clear h hc0 hc1
    go_enter Try.func71, Try.ntmps71
    go_wp2_with (at_builtin; refine wpList_appP rfl _ _ 42 rfl 44 Try.underlying42 Try.infoP B _ _ rfl H.out ⟨b, 0, none⟩ 1 1 [(p0, p1)] rfl rfl (fun j u hu => HC.out j u hu) (by omega) (by simp) hB ?_; intro v3 w3 ho3 hb3 hg3)
    all_goals
      go_ret
      exact ⟨_, rfl, ho3, hb3, hg3⟩
end Go.Proofs
