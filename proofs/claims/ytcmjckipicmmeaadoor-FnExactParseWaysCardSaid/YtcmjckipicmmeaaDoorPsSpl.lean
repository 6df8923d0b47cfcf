/-
  Chapter 6: a text cut at its slashes: plain, and the model's helper (spec.l1Split).
-/
import Derived.Test.YtcmjckipicmmeaaDoorPsOwS
import Derived.Lib.Split
import Derived.Lib.IndexBytes
namespace Ps
open Go
def cm : ByteArray := ⟨#[47]⟩
/-- the pieces of a text between its slashes -/
def spl (t : ByteArray) : List ByteArray := Lib.splitB cm 0 t.size t
def NoC (t : ByteArray) (a b : Nat) : Prop := ∀ j, a ≤ j → j < b → t.data.toList[j]? ≠ some 47
theorem ix_eq (t : ByteArray) (a : Nat) : Lib.indexB (t.extract a t.size) cm = Lib.indexByte (t.data.toList.drop a) 47 := by
  show Lib.index _ [47] = _
  rw [Lib.index_one, Lib.extract_to_end]
theorem ix_hit {t : ByteArray} {a i : Nat} (ha : a ≤ i) (hno : NoC t a i) (hc : t.data.toList[i]? = some 47) : Lib.indexB (t.extract a t.size) cm = ((i - a : Nat) : Int) := by
  rw [ix_eq]
  have hd : (t.data.toList.drop a)[i - a]? = some 47 := by rw [List.getElem?_drop, show a + (i - a) = i by omega]; exact hc
  have hg := Lib.indexByte_ge (t.data.toList.drop a) 47
  obtain ⟨r, hr⟩ : ∃ r, Lib.indexByte (t.data.toList.drop a) 47 = r := ⟨_, rfl⟩
  rw [hr] at hg ⊢
  rcases (show r = -1 ∨ ∃ o : Nat, r = o by rcases (show r = -1 ∨ 0 ≤ r by omega) with h | h; exact .inl h; exact .inr ⟨r.toNat, by omega⟩) with h | ⟨o, h⟩
  · rw [h] at hr
    exact absurd hd (Lib.indexByte_none hr _)
  · rw [h] at hr
    obtain ⟨h1, h2⟩ := Lib.indexByte_some hr
    rw [h]
    rcases Nat.lt_trichotomy o (i - a) with q | q | q
    · rw [List.getElem?_drop] at h1
      exact absurd h1 (hno (a + o) (by omega) (by omega))
    · rw [q]
    · exact absurd hd (h2 _ q)
theorem ix_miss {t : ByteArray} {a : Nat} (hno : NoC t a t.size) : Lib.indexB (t.extract a t.size) cm = -1 := by
  rw [ix_eq]
  have hg := Lib.indexByte_ge (t.data.toList.drop a) 47
  obtain ⟨r, hr⟩ : ∃ r, Lib.indexByte (t.data.toList.drop a) 47 = r := ⟨_, rfl⟩
  rw [hr] at hg ⊢
  rcases (show r = -1 ∨ ∃ o : Nat, r = o by rcases (show r = -1 ∨ 0 ≤ r by omega) with h | h; exact .inl h; exact .inr ⟨r.toNat, by omega⟩) with h | ⟨o, h⟩
  · exact h
  · rw [h] at hr
    obtain ⟨h1, _⟩ := Lib.indexByte_some hr
    rw [List.getElem?_drop] at h1
    have hl := (List.getElem?_eq_some_iff.1 h1).1
    exact absurd h1 (hno (a + o) (by omega) (by have e : t.data.toList.length = t.size := (by simp); omega))
/-- pre has been cut off, the rest begins at a -/
def SplI (t : ByteArray) (k a : Nat) (pre : List ByteArray) : Prop := spl t = pre ++ Lib.splitB cm 0 k (t.extract a t.size) ∧ t.size ≤ a + k ∧ a ≤ t.size
theorem SplI.start (t : ByteArray) : SplI t t.size 0 [] := ⟨by
    have e : t.extract 0 t.size = t := by apply ByteArray.ext; rw [ByteArray.data_extract]; exact Array.extract_size
    rw [e]; rfl, by omega, by omega⟩
theorem ext_ext (t : ByteArray) (a b c d : Nat) (h : a + d ≤ b) (hb : b ≤ t.size) : (t.extract a b).extract c d = t.extract (a + c) (a + d) := by
  apply ByteArray.ext
  rw [ByteArray.data_extract, ByteArray.data_extract, ByteArray.data_extract, Array.extract_extract]
  congr 1
  omega
theorem SplI.hit {t : ByteArray} {k a i : Nat} {pre : List ByteArray} (h : SplI t k a pre) (ha : a ≤ i) (hi : i < t.size) (hno : NoC t a i) (hc : t.data.toList[i]? = some 47) :
    SplI t (k - 1) (i + 1) (pre ++ [t.extract a i]) := by
  obtain ⟨h1, h2, h3⟩ := h
  refine ⟨?_, by omega, by omega⟩
  rw [h1]
  obtain ⟨k', rfl⟩ : ∃ k', k = k' + 1 := ⟨k - 1, by omega⟩
  rw [Lib.splitB_hit cm 0 k' _ (i - a) (ix_hit ha hno hc)]
  have e1 : (t.extract a t.size).extract 0 (i - a + 0) = t.extract a i := by rw [ext_ext _ _ _ _ _ (by omega) (by omega)]; congr 1; omega
  have e2 : (t.extract a t.size).extract (i - a + cm.size) (t.extract a t.size).size = t.extract (i + 1) t.size := by
    have : cm.size = 1 := rfl
    have hs : (t.extract a t.size).size = t.size - a := by rw [ByteArray.size_extract]; omega
    rw [hs, this, ext_ext _ _ _ _ _ (by omega) (by omega)]
    congr 1 <;> omega
  rw [e1, e2]
  simp
theorem SplI.fin {t : ByteArray} {k a : Nat} {pre : List ByteArray} (h : SplI t k a pre) (hno : NoC t a t.size) : spl t = pre ++ [t.extract a t.size] := by
  rw [h.1, Lib.splitB_miss _ _ _ _ (ix_miss hno)]
theorem NoC.refl (t : ByteArray) (a : Nat) : NoC t a a := fun j h1 h2 => by omega
theorem NoC.succ {t : ByteArray} {a i : Nat} (h : NoC t a i) (hc : t.data.toList[i]? ≠ some 47) : NoC t a (i + 1) := fun j h1 h2 => by
  rcases (show j < i ∨ j = i by omega) with q | q
  · exact h j h1 q
  · rw [q]; exact hc
end Ps
namespace Go.Proofs
open Go.RowKit Ps
set_option linter.unusedVariables false
set_option linter.unusedSimpArgs false
def SpRelS (t : ByteArray) (w : World) (o f i : Value) (wr : World) : Prop := ∃ (a k j : Nat) (pre : List ByteArray), a ≤ j ∧ j ≤ t.size ∧ f = .int .i64 a ∧ i = .int .i64 j ∧ OwnS wr w.heap.size o pre ∧ Below w.heap.size w wr ∧ NoC t a j ∧ SplI t k a pre ∧ pre.length ≤ j
set_option maxRecDepth 100000 in
set_option maxHeartbeats 1600000 in
theorem Tryd.l1Split (t : ByteArray) (w : World) (ht : t.size ≤ 2000000) :
    Calls Tryd.prog 58 #[.string t, .int .u8 47] w fun e w' => ∃ v, e = .returned v ∧ OwnS w' w.heap.size v (spl t) ∧ Below w.heap.size w w' := by
  go_enter Tryd.func58, Tryd.ntmps58
  go_wp2
  go_loopw [5, 6, 7] (fun o f i wr => SpRelS t w o f i wr) (fun _ _ i _ => (t.size - intOf i).toNat)
  case atStart => exact ⟨0, t.size, 0, [], Nat.le_refl _, Nat.zero_le _, rfl, rfl, OwnS.nil _ _, Below.refl _ _, NoC.refl _ _, SplI.start t, Nat.le_refl _⟩
  case round =>
    obtain ⟨a, k, j, pre, ha, hj, rfl, rfl, ho, hb, hno, hs, hpl⟩ := hrel
    have HO := Lib.hid ho
    have HB := Lib.hid hb
    have HN := Lib.hid hno
    have HS := Lib.hid hs
    clear ho hb hno hs
    have z0 : (0 : Int) ≤ (j : Int) := by omega
    have hpl2 : pre.length ≤ 2000000 := by omega
    have HP := Lib.hid hpl2
    have HA := Lib.hid ha
    have sz := HB.out.size
    have SZ := Lib.hid sz
    have z1 : (0 : Int) ≤ (a : Int) := by omega
    have z2 : (a : Int) ≤ (j : Int) := by omega
    have z3 : (j : Int) ≤ (t.size : Int) := by omega
    by_cases hlt : j < t.size
    · have hq : t.data.toList[j]? = some t[j] := by simp [hlt]; rfl
      by_cases hc : t[j] = 47
      · have HH := Lib.hid (HS.out.hit ha hlt HN.out (by rw [hq, hc]))
        have d1 : (((t[j]).toNat : Int) == 47) = true := by rw [hc]; rfl
        clear hq hc hpl2
        go_wp2_with (at_builtin; refine wpList_app1S rfl _ _ 69 rfl Tryd.underlying69 Tryd.infoSt w.heap.size _ _ rfl HO.out (t.extract a j) rfl HP.out SZ.out ?_; intro v' w3 ho3 hb3)
        go_roundw
        case rel => exact ⟨j + 1, k - 1, j + 1, _, Nat.le_refl _, by omega, by go_num, by go_num, ho3, HB.out.trans hb3, NoC.refl _ _, HH.out, by simp; omega⟩
        case measure => simp [intOf]; omega
      · have HH := Lib.hid (HN.out.succ (show t.data.toList[j]? ≠ some 47 by rw [hq]; simpa using hc))
        have d1 : (((t[j]).toNat : Int) == 47) = false := by
          rw [beq_eq_false_iff_ne]
          intro e
          exact hc (UInt8.toNat_inj.1 (by have : (47 : UInt8).toNat = 47 := rfl; omega))
        clear hq hc hpl2
        go_wp2
        go_roundw
        case rel => exact ⟨a, k, j + 1, _, by omega, by omega, rfl, by go_num, HO.out, HB.out, HH.out, HS.out, by omega⟩
        case measure => simp [intOf]; omega
    · obtain rfl : j = t.size := by omega
      have HE := Lib.hid (HS.out.fin HN.out)
      go_wp2_with (at_builtin; refine wpList_app1S rfl _ _ 69 rfl Tryd.underlying69 Tryd.infoSt w.heap.size _ _ rfl HO.out (t.extract a t.size) rfl HP.out SZ.out ?_; intro v' w3 ho3 hb3)
      go_ret
      exact ⟨_, rfl, by rw [HE.out]; exact ho3, HB.out.trans hb3⟩
end Go.Proofs
