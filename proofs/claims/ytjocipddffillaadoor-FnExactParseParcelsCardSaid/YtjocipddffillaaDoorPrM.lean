/-
  Chapter 8: parcels out of a text: plain (a text cut at a byte, what both sides answer).
-/
import Derived.Test.YtjocipddffillaaDoorSpG
import Derived.Test.YtjocipddffillaaDoorBgX
namespace Sp
open Go
theorem fuel (c : ByteArray) (hc : 0 < c.size) (n : Nat) : ∀ (k k' : Nat) (s : ByteArray), k ≤ n → k' ≤ n → s.size ≤ k → s.size ≤ k' → Lib.splitB c 0 k s = Lib.splitB c 0 k' s := by
  induction n with
  | zero => intro k k' s h1 h2 _ _; obtain rfl : k = 0 := by omega
            obtain rfl : k' = 0 := by omega
            rfl
  | succ n ih =>
    intro k k' s h1 h2 h3 h4
    rcases Lib.indexB_cases s c with h | ⟨i, h, hi⟩
    · rw [Lib.splitB_miss _ _ _ _ h, Lib.splitB_miss _ _ _ _ h]
    · obtain ⟨a, rfl⟩ : ∃ a, k = a + 1 := ⟨k - 1, by omega⟩
      obtain ⟨b, rfl⟩ : ∃ b, k' = b + 1 := ⟨k' - 1, by omega⟩
      rw [Lib.splitB_hit _ _ _ _ i h, Lib.splitB_hit _ _ _ _ i h]
      rw [ih a b _ (by omega) (by omega) (by rw [ByteArray.size_extract]; omega) (by rw [ByteArray.size_extract]; omega)]
theorem ext_all (t : ByteArray) : t.extract 0 t.size = t := by apply ByteArray.ext; rw [ByteArray.data_extract]; exact Array.extract_size
def Free (sb : UInt8) (x : ByteArray) : Prop := ∀ c, c ∈ x.data.toList → c ≠ sb
theorem spl_one {sb : UInt8} {x : ByteArray} (h : Free sb x) : spl sb x = [x] := by
  unfold spl
  have hm : Lib.indexB x (cm sb) = -1 := by
    have := ix_miss (sb := sb) (t := x) (a := 0) (fun j _ _ e => h _ (List.mem_of_getElem? e) rfl)
    rw [ext_all] at this
    exact this
  rw [Lib.splitB_miss _ _ _ _ hm]
theorem ix_cut {sb : UInt8} {x y : ByteArray} (h : Free sb x) : Lib.indexB (x ++ ⟨#[sb]⟩ ++ y) (cm sb) = (x.size : Int) := by
  have hl : (x ++ ⟨#[sb]⟩ ++ y).data.toList = x.data.toList ++ (sb :: y.data.toList) := by simp
  have hx : x.data.toList.length = x.size := by simp
  have := ix_hit (sb := sb) (t := x ++ ⟨#[sb]⟩ ++ y) (a := 0) (i := x.size) (Nat.zero_le _) (fun j _ hj e => by
    rw [hl, List.getElem?_append_left (by omega)] at e
    exact h _ (List.mem_of_getElem? e) rfl) (by rw [hl, List.getElem?_append_right (by omega), hx, Nat.sub_self]; rfl)
  rw [ext_all] at this
  simpa using this
theorem cut_size (sb : UInt8) (x y : ByteArray) : (x ++ ⟨#[sb]⟩ ++ y).size = x.size + 1 + y.size := by
  rw [ByteArray.size_append, ByteArray.size_append]; rfl
theorem cut_left (sb : UInt8) (x y : ByteArray) : (x ++ ⟨#[sb]⟩ ++ y).extract 0 x.size = x := by
  rw [ByteArray.append_assoc, ByteArray.extract_append_eq_left rfl]
theorem cut_right (sb : UInt8) (x y : ByteArray) : (x ++ ⟨#[sb]⟩ ++ y).extract (x.size + 1) (x ++ ⟨#[sb]⟩ ++ y).size = y := by
  have e : (x ++ ⟨#[sb]⟩).size = x.size + 1 := by rw [ByteArray.size_append]; rfl
  rw [ByteArray.extract_append_eq_right e.symm (by rw [ByteArray.size_append])]
theorem spl_cons {sb : UInt8} {x : ByteArray} (h : Free sb x) (y : ByteArray) : spl sb (x ++ ⟨#[sb]⟩ ++ y) = x :: spl sb y := by
  unfold spl
  rw [cut_size]
  obtain ⟨k, hk⟩ : ∃ k, x.size + 1 + y.size = k + 1 := ⟨x.size + y.size, by omega⟩
  rw [hk, Lib.splitB_hit _ _ _ _ x.size (ix_cut h), Nat.add_zero, cut_left]
  have : (cm sb).size = 1 := rfl
  rw [this, cut_right, fuel (cm sb) (show 0 < (cm sb).size from Nat.one_pos) (k + y.size) k y.size y (by omega) (by omega) (by omega) (Nat.le_refl _)]
end Sp
namespace Go.Proofs
open Go.RowKit Sp
theorem dig_ne {c : UInt8} {l : List UInt8} (h : l.all Rd.isDig = true) (hc : c ∈ l) : c ≠ 42 ∧ c ≠ 44 := by
  have := List.all_eq_true.1 h c hc
  constructor <;> (rintro rfl; revert this; decide)
theorem itx_free (n : Int) : Free 42 (itx n) ∧ Free 44 (itx n) := by
  constructor <;> (intro c hc; unfold itx at hc; have := dig_ne (Rd.dec_dig n.toNat) (by simpa using hc); first | exact this.1 | exact this.2)
theorem pax_free (p : Pi2) : Free 44 (pax p) := by
  intro c hc
  unfold pax at hc
  simp only [ByteArray.data_append, Array.toList_append, List.mem_append] at hc
  rcases hc with (h | h) | h
  · exact (itx_free p.1).2 c h
  · simp at h; subst h; decide
  · exact (itx_free p.2).2 c h
theorem spl_pax (p : Pi2) : spl 42 (pax p) = [itx p.1, itx p.2] := by
  unfold pax
  rw [spl_cons (itx_free p.1).1, spl_one (itx_free p.2).1]
theorem jt_cons (p q : Pi2) (r : List Pi2) : (⟨(jtB (p :: q :: r)).toArray⟩ : ByteArray) = pax p ++ ⟨#[44]⟩ ++ ⟨(jtB (q :: r)).toArray⟩ := by
  apply ByteArray.ext
  unfold jtB
  simp [Lib.join_cons, Lib.joinTail]
theorem spl_jt (ps : List Pi2) (h : 0 < ps.length) : spl 44 ⟨(jtB ps).toArray⟩ = ps.map pax := by
  induction ps with
  | nil => simp at h
  | cons p r ih =>
    cases r with
    | nil =>
      have e : (⟨(jtB [p]).toArray⟩ : ByteArray) = pax p := by rw [jtB_one]
      rw [e, spl_one (pax_free p)]; rfl
    | cons q r => rw [jt_cons, spl_cons (pax_free p), ih (by simp)]; rfl
/-- what the model reads -/
def nth (xs : List ByteArray) (k : Nat) : ByteArray := xs.getD k ⟨#[]⟩
def prf (x : ByteArray) : Pi2 := (Rd.rd (nth (spl 42 x) 0).data.toList, Rd.rd (nth (spl 42 x) 1).data.toList)
def prA (xs : List ByteArray) : Bool := xs.all fun x => (spl 42 x).length == 2
instance (p : Pi2) : Decidable (ParB p) := by unfold ParB; infer_instance
instance (ps : List Pi2) : Decidable (GoodB ps) := by unfold GoodB; infer_instance
def jtT (ps : List Pi2) : ByteArray := ⟨(jtB ps).toArray⟩
def prB (t : ByteArray) : Bool := decide (t.size ≤ 80) && (prA (spl 44 t) && (decide (GoodB ((spl 44 t).map prf)) && decide (jtT ((spl 44 t).map prf) = t)))
def prV (t : ByteArray) : List Pi2 := if prB t then (spl 44 t).map prf else []
theorem itx_list (n : Int) : (itx n).data.toList = Lib.decDigits n.toNat := by simp [itx]
theorem prf_pax {p : Pi2} (h : ParB p) : prf (pax p) = p := by
  unfold prf
  rw [spl_pax]
  obtain ⟨a, b⟩ := h
  obtain ⟨x, y⟩ := p
  show (Rd.rd (itx x).data.toList, Rd.rd (itx y).data.toList) = (x, y)
  simp only at a b
  rw [itx_list, itx_list, Rd.rd_dec _ (by omega), Rd.rd_dec _ (by omega)]
  have e1 : (x.toNat : Int) = x := by omega
  have e2 : (y.toNat : Int) = y := by omega
  rw [e1, e2]
theorem good_mem {ps : List Pi2} (h : GoodB ps) {p : Pi2} (hp : p ∈ ps) : ParB p := by
  obtain ⟨k, hk, rfl⟩ := List.getElem_of_mem hp
  have := h.2 k hk
  simpa [List.getD, hk] using this
theorem map_same {α : Type} {f : α → α} {xs : List α} (h : ∀ x, x ∈ xs → f x = x) : xs.map f = xs := by
  induction xs with
  | nil => rfl
  | cons a r ih => rw [List.map_cons, h a (by simp), ih (fun x hx => h x (by simp [hx]))]
/-- a reader that gives the numbers of a parcel's text back gives those of the whole text back -/
theorem back {f : ByteArray → Pi2} (hf : ∀ p, ParB p → f (pax p) = p) {ps : List Pi2} (h : GoodB ps) : (spl 44 (jtT ps)).map f = ps := by
  unfold jtT
  rw [spl_jt ps h.1.1, List.map_map]
  exact map_same fun p hp => hf p (good_mem h hp)
theorem jt_size {ps : List Pi2} (h : GoodB ps) : (jtT ps).size ≤ 80 := by
  have := jtB_bd (ps := ps) h.2 ps.length (Nat.le_refl _)
  rw [List.take_length] at this
  have e : (jtT ps).size = (jtB ps).length := by simp [jtT, ByteArray.size]
  have := h.1
  omega
theorem prB_iff (t : ByteArray) : prB t = true ↔ ∃ ps, GoodB ps ∧ jtT ps = t := by
  unfold prB
  simp only [Bool.and_eq_true, decide_eq_true_eq]
  constructor
  · rintro ⟨_, _, h3, h4⟩
    exact ⟨_, h3, h4⟩
  · rintro ⟨ps, h, rfl⟩
    rw [back (fun p hp => prf_pax hp) h]
    refine ⟨jt_size h, ?_, h, rfl⟩
    unfold prA jtT
    rw [spl_jt ps h.1.1, List.all_eq_true]
    intro x hx
    obtain ⟨p, _, rfl⟩ := List.mem_map.1 hx
    rw [spl_pax]; rfl
/-- what another reader answers comes to the same -/
def rdB (a : ByteArray → Bool) (f : ByteArray → Pi2) (t : ByteArray) : Bool := (spl 44 t).all a && (decide (GoodB ((spl 44 t).map f)) && decide (jtT ((spl 44 t).map f) = t))
theorem rdB_eq {a : ByteArray → Bool} {f : ByteArray → Pi2} (ha : ∀ p, ParB p → a (pax p) = true) (hf : ∀ p, ParB p → f (pax p) = p) (t : ByteArray) : rdB a f t = prB t ∧ (prB t = true → (spl 44 t).map f = prV t) := by
  have key : rdB a f t = true ↔ ∃ ps, GoodB ps ∧ jtT ps = t := by
    unfold rdB
    simp only [Bool.and_eq_true, decide_eq_true_eq]
    constructor
    · rintro ⟨_, h3, h4⟩
      exact ⟨_, h3, h4⟩
    · rintro ⟨ps, h, rfl⟩
      rw [back hf h]
      refine ⟨?_, h, rfl⟩
      unfold jtT
      rw [spl_jt ps h.1.1, List.all_eq_true]
      intro x hx
      obtain ⟨p, hp, rfl⟩ := List.mem_map.1 hx
      exact ha p (good_mem h hp)
  constructor
  · rw [Bool.eq_iff_iff, key, prB_iff]
  · intro h
    unfold prV
    rw [if_pos h]
    obtain ⟨ps, hg, rfl⟩ := (prB_iff t).1 h
    rw [back hf hg, back (fun p hp => prf_pax hp) hg]
end Go.Proofs
