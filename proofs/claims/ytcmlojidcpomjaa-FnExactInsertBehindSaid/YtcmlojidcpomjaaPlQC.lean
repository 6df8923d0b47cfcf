/-
  Contracts of chapter 2: slices.Clone of plates.
-/
import Derived.Test.YtcmlojidcpomjaaPlQ
import Derived.Lib.LazyBuf
namespace Go.Proofs
open Go.RowKit Pl
set_option linter.unusedVariables false
set_option linter.unusedSimpArgs false
set_option maxRecDepth 100000 in
set_option maxHeartbeats 1600000 in
theorem Try.cloneP (w : World) (ad : Addr) (m c : Nat) (qs : List Pi2) (hm : qs.length = m) (hl : m ≤ 1048576) (hq : ∀ j u, (pcs qs)[j]? = some u → w.cell? (ad.add j) = some u) :
    Calls Try.prog 70 #[.slice (some ad) m c] w fun e w' => ∃ v', e = .returned v' ∧ OwnP 44 w' w.heap.size v' qs ∧ Below w.heap.size w w' := by
  have HQ := Lib.hid hq
  have HM := Lib.hid hm
  clear hq hm
  have q22 : ∀ (w : World) (a : Option Addr) (n c : Nat), (Sem.run Try.prog (binOp .eql 42 (.slice a n c) (.slice none 0 0)) w) = .ok (.bool a.isNone) w := fun w a n c => Lib.run_eql_slice_nil w _ _ a n c 0 0 Try.underlying42
  go_enter Try.func70, Try.ntmps70
  go_wp2_with (at_builtin; refine wpList_appP rfl _ _ 42 rfl 44 Try.underlying42 Try.infoP w.heap.size _ [] rfl (own_empty (heap_new' (by simp)) (by omega)) ad m c qs rfl HM.out (fun j u hu => (Gr.alloc (Gr.refl _) _).keep0 (HQ.out j u hu)) (by simp) (by have := HM.out; omega) (by simp) ?_; intro v3 w3 ho3 hb3 _)
  go_ret
  exact ⟨_, rfl, by simpa using ho3, ((Below.refl _ w).alloc (Nat.le_refl _) _).trans hb3⟩
end Go.Proofs
