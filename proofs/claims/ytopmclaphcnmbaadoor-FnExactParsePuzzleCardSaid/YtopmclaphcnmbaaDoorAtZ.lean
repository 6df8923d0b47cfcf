/-
  strconv.Atoi at whatever text; a text cut at one byte.
-/
import Derived.Test.YtopmclaphcnmbaaDoorSpS
import Derived.Test.YtopmclaphcnmbaaDoorNuZz
import Derived.Test.YtopmclaphcnmbaaDoorPrC
import Derived.Lib.AtoiAll
namespace Go.Proofs
open Go.RowKit Go.Shelf Sp
set_option linter.unusedVariables false
set_option linter.unusedSimpArgs false
def atB (b : ByteArray) : Bool := match Lib.atoiAll b.data.toList with | .ok _ => true | _ => false
def atV (b : ByteArray) : Int := match Lib.atoiAll b.data.toList with | .ok v => v | _ => 0
theorem at_ok {b : ByteArray} {v : Int} (h : Lib.atoiAll b.data.toList = .ok v) : atB b = true ∧ atV b = v := by unfold atB atV; rw [h]; exact ⟨rfl, rfl⟩
theorem at_pos {b : ByteArray} (h : atB b = true) : 0 < b.size := by
  rcases Nat.eq_zero_or_pos b.size with q | q
  · have e : b.data.toList = [] := by
      have : b.data.toList.length = 0 := by simpa using q
      exact List.eq_nil_of_length_eq_zero this
    unfold atB at h
    rw [e] at h
    simp [Lib.atoiAll] at h
  · exact q
theorem pw_cut {sb : UInt8} {x : ByteArray} (h : Free sb x) (y : ByteArray) : pw1 sb (x ++ ⟨#[sb]⟩ ++ y) = x ∧ pw2 sb (x ++ ⟨#[sb]⟩ ++ y) = y := by
  have e : ixc sb (x ++ ⟨#[sb]⟩ ++ y) = (x.size : Int) := by
    rw [← ix_cut h (y := y)]
    show _ = Lib.index _ [sb]
    rw [Lib.index_one]; rfl
  unfold pw1 pw2
  rw [e, if_neg (by omega), if_neg (by omega), Int.toNat_natCast, cut_left, cut_right]
  exact ⟨rfl, rfl⟩
theorem spl_sum (sb : UInt8) (t : ByteArray) : ((spl sb t).map fun p => p.size + 1).sum = t.size + 1 := by
  unfold spl
  have key : ∀ (k : Nat) (s : ByteArray), ((Lib.splitB (cm sb) 0 k s).map fun p => p.size + 1).sum = s.size + 1 := by
    intro k
    induction k with
    | zero => intro s; simp [Lib.splitB]
    | succ k ih =>
      intro s
      rcases Lib.indexB_cases s (cm sb) with h | ⟨i, h, hi⟩
      · rw [Lib.splitB_miss _ _ _ _ h]; simp
      · rw [Lib.splitB_hit _ _ _ _ i h, List.map_cons, List.sum_cons, ih]
        have : (cm sb).size = 1 := rfl
        simp only [ByteArray.size_extract]
        omega
  exact key _ _
theorem Tryd.atoiOk (D : ByteArray) (W : World) (hz : D.size ≤ 1048576) (h : atB D = true) :
    Calls Tryd.prog 25 #[.string D] W fun e w' => e = .returned (.tuple #[.int .i64 (atV D), .nilIface]) ∧ Below W.heap.size W w' := by
  cases ha : Lib.atoiAll D.data.toList
  · rename_i v
    rw [(at_ok ha).2]
    refine (Tryd.strconv_Atoi_ok D (by omega) v ha W).mono ?_
    rintro e w' ⟨rfl, rfl | ⟨s, rfl⟩⟩
    · exact ⟨rfl, Below.refl _ _⟩
    · exact ⟨rfl, Lib.bytesWorld_below _ _ _⟩
  · unfold atB at h; rw [ha] at h; cases h
  · unfold atB at h; rw [ha] at h; cases h
theorem Tryd.atoiBad (D : ByteArray) (W : World) (hz : D.size ≤ 1048576) (hW : ErrVars W) (h : atB D = false) :
    Calls Tryd.prog 25 #[.string D] W fun e w' => ∃ N x, e = .returned (.tuple #[.int .i64 x, .iface 84 (.pointer (some ⟨N, 0, none⟩))]) ∧ Below W.heap.size W w' := by
  obtain ⟨⟨tp, p, h1⟩, tp2, p2, h2⟩ := hW
  cases ha : Lib.atoiAll D.data.toList
  · rw [(at_ok ha).1] at h; cases h
  · exact (Any.strconv_Atoi_syntax_var Tryd.laysC172 D (by omega) ha tp p W h1).mono fun _ _ ⟨N, e, _, _, hb⟩ => ⟨N, _, e, hb⟩
  · exact (Any.strconv_Atoi_range_var Tryd.laysC172 D (by omega) ha tp2 p2 W h2).mono fun _ _ ⟨N, e, _, _, hb⟩ => ⟨N, _, e, hb⟩
theorem Tryd.atoiAny (D : ByteArray) (W : World) (hz : D.size ≤ 1048576) (hW : ErrVars W) :
    Calls Tryd.prog 25 #[.string D] W fun e w' => ∃ x v, e = .returned (.tuple #[.int .i64 x, v]) ∧ Below W.heap.size W w' := by
  cases h : atB D
  · exact (Tryd.atoiBad D W hz hW h).mono fun _ _ ⟨N, x, e, hb⟩ => ⟨x, _, e, hb⟩
  · exact (Tryd.atoiOk D W hz h).mono fun _ _ ⟨e, hb⟩ => ⟨_, _, e, hb⟩
end Go.Proofs
