/-
  A text cut at whatever byte: plain, and the model's helper (spec.l1Split).
-/
import Derived.Test.YtopmclaphcnmbaaDoorOwS
import Derived.Lib.Split
import Derived.Lib.IndexBytes
namespace Sp
open Go
set_option linter.unusedVariables false
def cm (sb : UInt8) : ByteArray := ⟨#[sb]⟩
/-- the pieces of a text between its commas -/
def spl (sb : UInt8) (t : ByteArray) : List ByteArray := Lib.splitB (cm sb) 0 t.size t
def NoC (sb : UInt8) (t : ByteArray) (a b : Nat) : Prop := ∀ j, a ≤ j → j < b → t.data.toList[j]? ≠ some sb
theorem ix_eq (sb : UInt8) (t : ByteArray) (a : Nat) : Lib.indexB (t.extract a t.size) (cm sb) = Lib.indexByte (t.data.toList.drop a) sb := by
  show Lib.index _ [sb] = _
  rw [Lib.index_one, Lib.extract_to_end]
theorem ix_hit {sb : UInt8} {t : ByteArray} {a i : Nat} (ha : a ≤ i) (hno : NoC sb t a i) (hc : t.data.toList[i]? = some sb) : Lib.indexB (t.extract a t.size) (cm sb) = ((i - a : Nat) : Int) := by
  rw [ix_eq]
  have hd : (t.data.toList.drop a)[i - a]? = some sb := by rw [List.getElem?_drop, show a + (i - a) = i by omega]; exact hc
  have hg := Lib.indexByte_ge (t.data.toList.drop a) sb
  obtain ⟨r, hr⟩ : ∃ r, Lib.indexByte (t.data.toList.drop a) sb = r := ⟨_, rfl⟩
  rw [hr] at hg ⊢
  rcases (show r = -1 ∨ ∃ o : Nat, r = o by rcases (show r = -1 ∨ 0 ≤ r by omega) with h | h; exact .inl h; exact .inr ⟨r.toNat, by omega⟩) with h | ⟨o, h⟩
  · rw [h] at hr
    exact absurd hd (Lib.indexByte_none hr _)
  · rw [h] at hr
    obtain ⟨h1, h2⟩ := Lib.indexByte_some hr
    rw [h]
    rcases Nat.lt_trichotomy o (i - a) with q | q | q
    · rw [List.getElem?_drop] at h1
      exact absurd h1 (hno (a + o) (by omega) (by omega))
    · rw [q]
    · exact absurd hd (h2 _ q)
theorem ix_miss {sb : UInt8} {t : ByteArray} {a : Nat} (hno : NoC sb t a t.size) : Lib.indexB (t.extract a t.size) (cm sb) = -1 := by
  rw [ix_eq]
  have hg := Lib.indexByte_ge (t.data.toList.drop a) sb
  obtain ⟨r, hr⟩ : ∃ r, Lib.indexByte (t.data.toList.drop a) sb = r := ⟨_, rfl⟩
  rw [hr] at hg ⊢
  rcases (show r = -1 ∨ ∃ o : Nat, r = o by rcases (show r = -1 ∨ 0 ≤ r by omega) with h | h; exact .inl h; exact .inr ⟨r.toNat, by omega⟩) with h | ⟨o, h⟩
  · exact h
  · rw [h] at hr
    obtain ⟨h1, _⟩ := Lib.indexByte_some hr
    rw [List.getElem?_drop] at h1
    have hl := (List.getElem?_eq_some_iff.1 h1).1
    exact absurd h1 (hno (a + o) (by omega) (by have e : t.data.toList.length = t.size := (by simp); omega))
/-- pre has been cut off, the rest begins at a -/
def SplI (sb : UInt8) (t : ByteArray) (k a : Nat) (pre : List ByteArray) : Prop := spl sb t = pre ++ Lib.splitB (cm sb) 0 k (t.extract a t.size) ∧ t.size ≤ a + k ∧ a ≤ t.size
theorem SplI.start (sb : UInt8) (t : ByteArray) : SplI sb t t.size 0 [] := ⟨by
    have e : t.extract 0 t.size = t := by apply ByteArray.ext; rw [ByteArray.data_extract]; exact Array.extract_size
    rw [e]; rfl, by omega, by omega⟩
theorem ext_ext (t : ByteArray) (a b c d : Nat) (h : a + d ≤ b) (hb : b ≤ t.size) : (t.extract a b).extract c d = t.extract (a + c) (a + d) := by
  apply ByteArray.ext
  rw [ByteArray.data_extract, ByteArray.data_extract, ByteArray.data_extract, Array.extract_extract]
  congr 1
  omega
theorem SplI.hit {sb : UInt8} {t : ByteArray} {k a i : Nat} {pre : List ByteArray} (h : SplI sb t k a pre) (ha : a ≤ i) (hi : i < t.size) (hno : NoC sb t a i) (hc : t.data.toList[i]? = some sb) :
    SplI sb t (k - 1) (i + 1) (pre ++ [t.extract a i]) := by
  obtain ⟨h1, h2, h3⟩ := h
  refine ⟨?_, by omega, by omega⟩
  rw [h1]
  obtain ⟨k', rfl⟩ : ∃ k', k = k' + 1 := ⟨k - 1, by omega⟩
  rw [Lib.splitB_hit (cm sb) 0 k' _ (i - a) (ix_hit ha hno hc)]
  have e1 : (t.extract a t.size).extract 0 (i - a + 0) = t.extract a i := by rw [ext_ext _ _ _ _ _ (by omega) (by omega)]; congr 1; omega
  have e2 : (t.extract a t.size).extract (i - a + (cm sb).size) (t.extract a t.size).size = t.extract (i + 1) t.size := by
    have : (cm sb).size = 1 := rfl
    have hs : (t.extract a t.size).size = t.size - a := by rw [ByteArray.size_extract]; omega
    rw [hs, this, ext_ext _ _ _ _ _ (by omega) (by omega)]
    congr 1 <;> omega
  rw [e1, e2]
  simp
theorem SplI.fin {sb : UInt8} {t : ByteArray} {k a : Nat} {pre : List ByteArray} (h : SplI sb t k a pre) (hno : NoC sb t a t.size) : spl sb t = pre ++ [t.extract a t.size] := by
  rw [h.1, Lib.splitB_miss _ _ _ _ (ix_miss hno)]
theorem NoC.refl (sb : UInt8) (t : ByteArray) (a : Nat) : NoC sb t a a := fun j h1 h2 => by omega
theorem NoC.succ {sb : UInt8} {t : ByteArray} {a i : Nat} (h : NoC sb t a i) (hc : t.data.toList[i]? ≠ some sb) : NoC sb t a (i + 1) := fun j h1 h2 => by
  rcases (show j < i ∨ j = i by omega) with q | q
  · exact h j h1 q
  · rw [q]; exact hc
end Sp
namespace Go.Proofs
open Go.RowKit Sp
set_option linter.unusedVariables false
set_option linter.unusedSimpArgs false
def SpRel (sb : UInt8) (t : ByteArray) (w : World) (o f i : Value) (wr : World) : Prop := ∃ (a k j : Nat) (pre : List ByteArray), a ≤ j ∧ j ≤ t.size ∧ f = .int .i64 a ∧ i = .int .i64 j ∧ OwnS wr w.heap.size o pre ∧ Below w.heap.size w wr ∧ NoC sb t a j ∧ SplI sb t k a pre ∧ pre.length ≤ j
set_option maxRecDepth 100000 in
set_option maxHeartbeats 1600000 in
theorem Tryd.l1SplitB (sb : UInt8) (t : ByteArray) (w : World) (ht : t.size ≤ 1048576) :
    Calls Tryd.prog 19 #[.string t, .int .u8 (sb.toNat : Int)] w fun e w' => ∃ v, e = .returned v ∧ OwnS w' w.heap.size v (spl sb t) ∧ Below w.heap.size w w' := by
  go_enter Tryd.func19, Tryd.ntmps19
  go_wp2
  go_loopw [5, 6, 7] (fun o f i wr => SpRel sb t w o f i wr) (fun _ _ i _ => (t.size - intOf i).toNat)
  case atStart => exact ⟨0, t.size, 0, [], Nat.le_refl _, Nat.zero_le _, rfl, rfl, OwnS.nil _ _, Below.refl _ _, NoC.refl _ _ _, SplI.start _ t, Nat.le_refl _⟩
  case round =>
    obtain ⟨a, k, j, pre, ha, hj, rfl, rfl, ho, hb, hno, hs, hpl⟩ := hrel
    have HO := Lib.hid ho
    have HB := Lib.hid hb
    have HN := Lib.hid hno
    have HS := Lib.hid hs
    clear ho hb hno hs
    have z0 : (0 : Int) ≤ (j : Int) := by omega
    have hpl2 : pre.length ≤ 2000000 := by omega
    have HP := Lib.hid hpl2
    have HA := Lib.hid ha
    have sz := HB.out.size
    have SZ := Lib.hid sz
    have z1 : (0 : Int) ≤ (a : Int) := by omega
    have z2 : (a : Int) ≤ (j : Int) := by omega
    have z3 : (j : Int) ≤ (t.size : Int) := by omega
    by_cases hlt : j < t.size
    · have hq : t.data.toList[j]? = some t[j] := by simp [hlt]; rfl
      by_cases hc : t[j] = sb
      · have HH := Lib.hid (HS.out.hit ha hlt HN.out (by rw [hq, hc]))
        have d1 : (((t[j]).toNat : Int) == (sb.toNat : Int)) = true := by rw [hc]; simp
        clear hq hc hpl2
        go_wp2_with (at_builtin; refine wpList_app1T rfl _ _ 47 rfl Tryd.underlying47 Tryd.infoSt w.heap.size _ _ rfl HO.out (t.extract a j) rfl HP.out SZ.out ?_; intro v' w3 ho3 hb3)
        go_roundw
        case rel => exact ⟨j + 1, k - 1, j + 1, _, Nat.le_refl _, by omega, by go_num, by go_num, ho3, HB.out.trans hb3, NoC.refl _ _ _, HH.out, by simp; omega⟩
        case measure => simp [intOf]; omega
      · have HH := Lib.hid (HN.out.succ (show t.data.toList[j]? ≠ some sb by rw [hq]; simpa using hc))
        have d1 : (((t[j]).toNat : Int) == (sb.toNat : Int)) = false := by
          rw [beq_eq_false_iff_ne]
          intro e
          exact hc (UInt8.toNat_inj.1 (by omega))
        clear hq hc hpl2
        go_wp2
        go_roundw
        case rel => exact ⟨a, k, j + 1, _, by omega, by omega, rfl, by go_num, HO.out, HB.out, HH.out, HS.out, by omega⟩
        case measure => simp [intOf]; omega
    · obtain rfl : j = t.size := by omega
      have HE := Lib.hid (HS.out.fin HN.out)
      go_wp2_with (at_builtin; refine wpList_app1T rfl _ _ 47 rfl Tryd.underlying47 Tryd.infoSt w.heap.size _ _ rfl HO.out (t.extract a t.size) rfl HP.out SZ.out ?_; intro v' w3 ho3 hb3)
      go_ret
      exact ⟨_, rfl, by rw [HE.out]; exact ho3, HB.out.trans hb3⟩
theorem Tryd.l1Split44 (t : ByteArray) (w : World) (ht : t.size ≤ 1048576) :
    Calls Tryd.prog 19 #[.string t, .int .u8 44] w fun e w' => ∃ v, e = .returned v ∧ OwnS w' w.heap.size v (spl 44 t) ∧ Below w.heap.size w w' := Tryd.l1SplitB 44 t w ht
theorem Tryd.l1Split42 (t : ByteArray) (w : World) (ht : t.size ≤ 1048576) :
    Calls Tryd.prog 19 #[.string t, .int .u8 42] w fun e w' => ∃ v, e = .returned v ∧ OwnS w' w.heap.size v (spl 42 t) ∧ Below w.heap.size w w' := Tryd.l1SplitB 42 t w ht
end Go.Proofs
