/-
  Chapter 5: people out of a text: plain (what both sides answer).
-/
import Derived.Test.YtepbgbfaeofofaaDoorSpG
import Derived.Test.YtepbgbfaeofofaaDoorPeX
namespace Sp
open Go
theorem fuel (c : ByteArray) (hc : 0 < c.size) (n : Nat) : ∀ (k k' : Nat) (s : ByteArray), k ≤ n → k' ≤ n → s.size ≤ k → s.size ≤ k' → Lib.splitB c 0 k s = Lib.splitB c 0 k' s := by
  induction n with
  | zero => intro k k' s h1 h2 _ _; obtain rfl : k = 0 := by omega
            obtain rfl : k' = 0 := by omega
            rfl
  | succ n ih =>
    intro k k' s h1 h2 h3 h4
    rcases Lib.indexB_cases s c with h | ⟨i, h, hi⟩
    · rw [Lib.splitB_miss _ _ _ _ h, Lib.splitB_miss _ _ _ _ h]
    · obtain ⟨a, rfl⟩ : ∃ a, k = a + 1 := ⟨k - 1, by omega⟩
      obtain ⟨b, rfl⟩ : ∃ b, k' = b + 1 := ⟨k' - 1, by omega⟩
      rw [Lib.splitB_hit _ _ _ _ i h, Lib.splitB_hit _ _ _ _ i h]
      rw [ih a b _ (by omega) (by omega) (by rw [ByteArray.size_extract]; omega) (by rw [ByteArray.size_extract]; omega)]
theorem ext_all (t : ByteArray) : t.extract 0 t.size = t := by apply ByteArray.ext; rw [ByteArray.data_extract]; exact Array.extract_size
def Free (sb : UInt8) (x : ByteArray) : Prop := ∀ c, c ∈ x.data.toList → c ≠ sb
theorem spl_one {sb : UInt8} {x : ByteArray} (h : Free sb x) : spl sb x = [x] := by
  unfold spl
  have hm : Lib.indexB x (cm sb) = -1 := by
    have := ix_miss (sb := sb) (t := x) (a := 0) (fun j _ _ e => h _ (List.mem_of_getElem? e) rfl)
    rw [ext_all] at this
    exact this
  rw [Lib.splitB_miss _ _ _ _ hm]
theorem ix_cut {sb : UInt8} {x y : ByteArray} (h : Free sb x) : Lib.indexB (x ++ ⟨#[sb]⟩ ++ y) (cm sb) = (x.size : Int) := by
  have hl : (x ++ ⟨#[sb]⟩ ++ y).data.toList = x.data.toList ++ (sb :: y.data.toList) := by simp
  have hx : x.data.toList.length = x.size := by simp
  have := ix_hit (sb := sb) (t := x ++ ⟨#[sb]⟩ ++ y) (a := 0) (i := x.size) (Nat.zero_le _) (fun j _ hj e => by
    rw [hl, List.getElem?_append_left (by omega)] at e
    exact h _ (List.mem_of_getElem? e) rfl) (by rw [hl, List.getElem?_append_right (by omega), hx, Nat.sub_self]; rfl)
  rw [ext_all] at this
  simpa using this
theorem cut_size (sb : UInt8) (x y : ByteArray) : (x ++ ⟨#[sb]⟩ ++ y).size = x.size + 1 + y.size := by
  rw [ByteArray.size_append, ByteArray.size_append]; rfl
theorem cut_left (sb : UInt8) (x y : ByteArray) : (x ++ ⟨#[sb]⟩ ++ y).extract 0 x.size = x := by
  rw [ByteArray.append_assoc, ByteArray.extract_append_eq_left rfl]
theorem cut_right (sb : UInt8) (x y : ByteArray) : (x ++ ⟨#[sb]⟩ ++ y).extract (x.size + 1) (x ++ ⟨#[sb]⟩ ++ y).size = y := by
  have e : (x ++ ⟨#[sb]⟩).size = x.size + 1 := by rw [ByteArray.size_append]; rfl
  rw [ByteArray.extract_append_eq_right e.symm (by rw [ByteArray.size_append])]
theorem spl_cons {sb : UInt8} {x : ByteArray} (h : Free sb x) (y : ByteArray) : spl sb (x ++ ⟨#[sb]⟩ ++ y) = x :: spl sb y := by
  unfold spl
  rw [cut_size]
  obtain ⟨k, hk⟩ : ∃ k, x.size + 1 + y.size = k + 1 := ⟨x.size + y.size, by omega⟩
  rw [hk, Lib.splitB_hit _ _ _ _ x.size (ix_cut h), Nat.add_zero, cut_left]
  have : (cm sb).size = 1 := rfl
  rw [this, cut_right, fuel (cm sb) (show 0 < (cm sb).size from Nat.one_pos) (k + y.size) k y.size y (by omega) (by omega) (by omega) (Nat.le_refl _)]
/-- the pieces joined are the text -/
theorem join_spl (sb : UInt8) (t : ByteArray) : Lib.join ((spl sb t).map (·.data.toList)) [sb] = t.data.toList := by
  unfold spl
  have key : ∀ (k : Nat) (s : ByteArray), Lib.join ((Lib.splitB (cm sb) 0 k s).map (·.data.toList)) [sb] = s.data.toList := by
    intro k
    induction k with
    | zero => intro s; simp [Lib.splitB, Lib.join_one]
    | succ k ih =>
      intro s
      rcases Lib.indexB_cases s (cm sb) with h | ⟨i, h, hi⟩
      · rw [Lib.splitB_miss _ _ _ _ h]; simp [Lib.join_one]
      · rw [Lib.splitB_hit _ _ _ _ i h, List.map_cons]
        have h1 : (cm sb).size = 1 := rfl
        rw [h1, Nat.add_zero]
        have hI := ih (s.extract (i + 1) s.size)
        rw [h1] at hi
        have hb : s.data.toList[i]? = some sb := by
          have e := ix_eq sb s (a := 0)
          rw [ext_all, List.drop_zero] at e
          rw [h] at e
          exact (Lib.indexByte_some e.symm).1
        have hl : s.data.toList = s.data.toList.take i ++ sb :: s.data.toList.drop (i + 1) := by
          have hlt : i < s.data.toList.length := by simp; omega
          conv => lhs; rw [← List.take_append_drop i s.data.toList]
          rw [List.drop_eq_getElem_cons hlt]
          have := List.getElem?_eq_getElem hlt
          rw [this] at hb
          rw [Option.some.inj hb]
        have e1 : (s.extract 0 i).data.toList = s.data.toList.take i := Lib.extract_from_zero s i
        have e2 : (s.extract (i + 1) s.size).data.toList = s.data.toList.drop (i + 1) := Lib.extract_to_end s (i + 1)
        rw [e1]
        rw [e2] at hI
        cases hq : (Lib.splitB (cm sb) 0 k (s.extract (i + 1) s.size)).map (·.data.toList) with
        | nil =>
          exfalso
          have hne : Lib.splitB (cm sb) 0 k (s.extract (i + 1) s.size) ≠ [] := by
            cases k with
            | zero => simp [Lib.splitB]
            | succ k => unfold Lib.splitB; split <;> simp
          exact hne (List.map_eq_nil_iff.1 hq)
        | cons q r =>
          rw [hq] at hI
          rw [Lib.join_cons] at hI ⊢
          have hT : Lib.joinTail [sb] (q :: r) = sb :: (q ++ Lib.joinTail [sb] r) := by simp [Lib.joinTail]
          rw [hT, hI]
          exact hl.symm
  exact key _ _
end Sp
namespace Go.Proofs
open Go.RowKit Sp
theorem dig_ne {c : UInt8} {l : List UInt8} (h : l.all Rd.isDig = true) (hc : c ∈ l) : c ≠ 45 := by
  have := List.all_eq_true.1 h c hc
  rintro rfl; revert this; decide
theorem itx_free (n : Int) : Free 45 (itx n) := by
  intro c hc
  unfold itx at hc
  exact dig_ne (Rd.dec_dig n.toNat) (by simpa using hc)
theorem jt_cons (p q : Int) (r : List Int) : (⟨(jti (p :: q :: r)).toArray⟩ : ByteArray) = itx p ++ ⟨#[45]⟩ ++ ⟨(jti (q :: r)).toArray⟩ := by
  apply ByteArray.ext
  unfold jti
  simp [Lib.join_cons, Lib.joinTail]
theorem spl_jt (ps : List Int) (h : 0 < ps.length) : spl 45 ⟨(jti ps).toArray⟩ = ps.map itx := by
  induction ps with
  | nil => simp at h
  | cons p r ih =>
    cases r with
    | nil =>
      have e : (⟨(jti [p]).toArray⟩ : ByteArray) = itx p := by rw [jti_one]
      rw [e, spl_one (itx_free p)]; rfl
    | cons q r => rw [jt_cons, spl_cons (itx_free p), ih (by simp)]; rfl
/-- what the model reads -/
def rdx (x : ByteArray) : Int := Rd.rd x.data.toList
noncomputable def goodB (ps : List Int) : Bool := @decide (GoodP ps) (Classical.propDecidable _)
theorem goodB_iff (ps : List Int) : goodB ps = true ↔ GoodP ps := @decide_eq_true_iff (GoodP ps) (Classical.propDecidable _)
theorem goodB_f {ps : List Int} (h : ¬ GoodP ps) : goodB ps = false := by
  cases q : goodB ps
  · rfl
  · exact absurd ((goodB_iff ps).1 q) h
def jtT (ps : List Int) : ByteArray := ⟨(jti ps).toArray⟩
noncomputable def peB (t : ByteArray) : Bool := decide (t.size ≤ 300) && goodB ((spl 45 t).map rdx)
noncomputable def peV (t : ByteArray) : List Int := if peB t then (spl 45 t).map rdx else []
theorem itx_list (n : Int) : (itx n).data.toList = Lib.decDigits n.toNat := by simp [itx]
theorem rdx_itx {n : Int} (h0 : 0 ≤ n) (h1 : n ≤ 1000) : rdx (itx n) = n := by
  unfold rdx
  rw [itx_list, Rd.rd_dec _ (by omega)]
  omega
theorem good_mem {ps : List Int} (h : GoodP ps) {p : Int} (hp : p ∈ ps) : 0 ≤ p ∧ p ≤ 1000 := by
  obtain ⟨k, hk, rfl⟩ := List.getElem_of_mem hp
  have := h.bd k
  simpa [gx, List.getD, hk] using this
theorem map_same {α : Type} {f : α → α} {xs : List α} (h : ∀ x, x ∈ xs → f x = x) : xs.map f = xs := by
  induction xs with
  | nil => rfl
  | cons a r ih => rw [List.map_cons, h a (by simp), ih (fun x hx => h x (by simp [hx]))]
theorem back {f : ByteArray → Int} (hf : ∀ n, 0 ≤ n → n ≤ 1000 → f (itx n) = n) {ps : List Int} (h : GoodP ps) : (spl 45 (jtT ps)).map f = ps := by
  unfold jtT
  rw [spl_jt ps (by have := h.1; omega), List.map_map]
  exact map_same fun p hp => hf p (good_mem h hp).1 (good_mem h hp).2
theorem jt_size {ps : List Int} (h : GoodP ps) : (jtT ps).size ≤ 300 := by
  have := jti_bd (xs := ps) (fun j _ => h.bd j) ps.length (Nat.le_refl _)
  rw [List.take_length] at this
  have e : (jtT ps).size = (jti ps).length := by simp [jtT, ByteArray.size]
  have := h.1
  omega
theorem jt_rd {t : ByteArray} (h : ∀ x, x ∈ spl 45 t → 0 ≤ rdx x) : jtT ((spl 45 t).map rdx) = t := by
  have hj := join_spl 45 t
  apply ByteArray.ext
  apply Array.toList_inj.1
  rw [← hj]
  unfold jtT jti
  simp only [List.map_map]
  congr 1
  apply List.map_congr_left
  intro x hx
  show (itx (rdx x)).data.toList = x.data.toList
  rw [itx_list]
  exact ((Rd.rd_is x.data.toList (rdx x) rfl (h x hx)).1).symm
theorem peB_iff (t : ByteArray) : peB t = true ↔ ∃ ps, GoodP ps ∧ jtT ps = t := by
  unfold peB
  simp only [Bool.and_eq_true, decide_eq_true_eq, goodB_iff]
  constructor
  · rintro ⟨_, h3⟩
    exact ⟨_, h3, jt_rd fun x hx => (good_mem h3 (List.mem_map_of_mem hx)).1⟩
  · rintro ⟨ps, h, rfl⟩
    rw [back (fun n a b => rdx_itx a b) h]
    exact ⟨jt_size h, h⟩
/-- what another reader answers comes to the same -/
noncomputable def rdB (a : ByteArray → Bool) (f : ByteArray → Int) (t : ByteArray) : Bool := (spl 45 t).all a && (goodB ((spl 45 t).map f) && decide (jtT ((spl 45 t).map f) = t))
theorem rdB_eq {a : ByteArray → Bool} {f : ByteArray → Int} (ha : ∀ n, 0 ≤ n → n ≤ 1000 → a (itx n) = true) (hf : ∀ n, 0 ≤ n → n ≤ 1000 → f (itx n) = n) (t : ByteArray) : rdB a f t = peB t ∧ (peB t = true → (spl 45 t).map f = peV t) := by
  have key : rdB a f t = true ↔ ∃ ps, GoodP ps ∧ jtT ps = t := by
    unfold rdB
    simp only [Bool.and_eq_true, decide_eq_true_eq, goodB_iff]
    constructor
    · rintro ⟨_, h3, h4⟩
      exact ⟨_, h3, h4⟩
    · rintro ⟨ps, h, rfl⟩
      rw [back hf h]
      refine ⟨?_, h, rfl⟩
      unfold jtT
      rw [spl_jt ps (by have := h.1; omega), List.all_eq_true]
      intro x hx
      obtain ⟨p, hp, rfl⟩ := List.mem_map.1 hx
      exact ha p (good_mem h hp).1 (good_mem h hp).2
  constructor
  · rw [Bool.eq_iff_iff, key, peB_iff]
  · intro h
    unfold peV
    rw [if_pos h]
    obtain ⟨ps, hg, rfl⟩ := (peB_iff t).1 h
    rw [back hf hg, back (fun n a b => rdx_itx a b) hg]
end Go.Proofs
