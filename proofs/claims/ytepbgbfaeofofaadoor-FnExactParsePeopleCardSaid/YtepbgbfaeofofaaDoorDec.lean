/-
  Contracts: decimal numbers of the model.
-/
import Derived.Test.YtepbgbfaeofofaaDoorBase
import Derived.Lib.ItoaNum
import Derived.Laws.BytesArg
import Derived.Laws.Concat
import Derived.Lib.ItoaLen
import Derived.Deep.RegionWith
namespace Go.Proofs
open Go.RowKit
set_option linter.unusedVariables false
set_option linter.unusedSimpArgs false
theorem wr64 (x : Int) (h : -9000000000000000000 ≤ x) (g : x ≤ 9000000000000000000) : IntKind.i64.wrap x = x := IntWalk.i64_in _ (by omega)
theorem dig1 (n : Int) (h0 : 0 ≤ n) (h : n < 10) : strOfNums [48 + n] = ⟨(Lib.decDigits n.toNat).toArray⟩ := by
  rw [Lib.decDigits, dif_pos (by omega)]
  unfold strOfNums
  simp only [List.map_cons, List.map_nil]
  rw [show (48 + n).toNat = 48 + n.toNat by omega]
theorem dig2 (n : Int) (h0 : 0 ≤ n) (h : ¬ n < 10) : (⟨(Lib.decDigits (n / 10).toNat).toArray⟩ : ByteArray) ++ strOfNums [48 + n % 10] = ⟨(Lib.decDigits n.toNat).toArray⟩ := by
  rw [Lib.decDigits.eq_def n.toNat, dif_neg (by omega)]
  unfold strOfNums
  simp only [List.map_cons, List.map_nil]
  rw [show (48 + n % 10).toNat = 48 + n.toNat % 10 by omega, show (n / 10).toNat = n.toNat / 10 by omega]
  apply ByteArray.ext
  simp
theorem dec_size (u : Nat) (h : u < 18446744073709551616) : ((⟨(Lib.decDigits u).toArray⟩ : ByteArray).size : Int) ≤ 8388608 := by
  have e : (⟨(Lib.decDigits u).toArray⟩ : ByteArray).size = Lib.nDigits u := by
    show (Lib.decDigits u).toArray.size = _
    rw [Lib.decDigits_eq]
    simp
  have := Lib.nDigits_le20 u h
  omega
theorem Tryd.conv1 (W : World) (b : Nat) (c : Int) (h : W.cell? ⟨b, 0, none⟩ = some (.int .u8 c)) :
    (convert 52 9 (.slice (some ⟨b, 0, none⟩) 1 1)).run Tryd.prog W = .ok (.string (strOfNums [c])) W :=
  run_convert_bytes_arg W _ _ Tryd.underlying52 Tryd.underlying5 b 0 1 1 [c] rfl (fun i hi => by (obtain rfl : i = 0 := by omega); exact h) _ Tryd.underlying9
end Go.Proofs
