/-
  Chapter 9: a puzzle out of a text, plain: what both sides answer.
-/
import Derived.Test.YtopmclaphcnmbaaDoorSpS
import Derived.Test.YtopmclaphcnmbaaDoorAtZ
import Derived.Test.YtopmclaphcnmbaaDoorPzX
namespace Go.Proofs
open Go.RowKit Sp
set_option linter.unusedVariables false
set_option linter.unusedSimpArgs false
def ZtT (k p : Int) (ps : List Clu) : ByteArray := hdZ k p ++ ⟨(jtZ ps).toArray⟩
def nthB (xs : List ByteArray) (k : Nat) : ByteArray := xs.getD k ⟨#[]⟩
/-- a clue out of a text of three numbers -/
def mcl (x : ByteArray) : Clu := (Rd.rd (nthB (spl 46 x) 0).data.toList, Rd.rd (nthB (spl 46 x) 1).data.toList, Rd.rd (nthB (spl 46 x) 2).data.toList)
def ppS (t : ByteArray) : ByteArray := nthB (spl 59 t) 0
def ppC (t : ByteArray) : ByteArray := nthB (spl 59 t) 1
def ppK (t : ByteArray) : Int := psK (ppS t).data.toList
def ppP (t : ByteArray) : Int := psP (ppS t).data.toList
def ppL (t : ByteArray) : List Clu := if 0 < (ppC t).size then (spl 44 (ppC t)).map mcl else []
def pp3 (t : ByteArray) : Bool := if 0 < (ppC t).size then (spl 44 (ppC t)).all (fun x => (spl 46 x).length == 3) else true
def ppB (t : ByteArray) : Bool := decide (t.size ≤ 100) && (decide ((spl 59 t).length = 2) && (psB (ppS t).data.toList && (pp3 t && (pgood (ppK t) (ppP t) (ppL t) && decide (ZtT (ppK t) (ppP t) (ppL t) = t)))))
def ppR (t : ByteArray) : List Clu := if ppB t then ppL t else []
def ifP (b : Bool) (n : Int) : Int := if b then n else 0
theorem dig_out {sb c : UInt8} (hs : Rd.isDig sb = false) {l : List UInt8} (h : l.all Rd.isDig = true) (hc : c ∈ l) : c ≠ sb := by
  have := List.all_eq_true.1 h c hc
  rintro rfl
  rw [hs] at this
  cases this
theorem itx_out {sb : UInt8} (hs : Rd.isDig sb = false) (n : Int) : Free sb (itx n) := by
  intro c hc
  unfold itx at hc
  exact dig_out hs (Rd.dec_dig n.toNat) (by simpa using hc)
theorem clx_out {sb : UInt8} (hs : Rd.isDig sb = false) (h1 : sb ≠ 46) (b : Clu) : Free sb (clx b) := by
  intro c hc
  unfold clx at hc
  simp only [ByteArray.data_append, Array.toList_append, List.mem_append] at hc
  rcases hc with (((h | h) | h) | h) | h
  · exact itx_out hs b.1 c h
  · simp at h; subst h; exact fun e => h1 e.symm
  · exact itx_out hs b.2.1 c h
  · simp at h; subst h; exact fun e => h1 e.symm
  · exact itx_out hs b.2.2 c h
theorem jz_cons (p q : Clu) (r : List Clu) : (⟨(jtZ (p :: q :: r)).toArray⟩ : ByteArray) = clx p ++ ⟨#[44]⟩ ++ ⟨(jtZ (q :: r)).toArray⟩ := by
  apply ByteArray.ext
  unfold jtZ
  simp [Lib.join_cons, Lib.joinTail]
theorem jz_one (p : Clu) : (⟨(jtZ [p]).toArray⟩ : ByteArray) = clx p := by rw [jtZ_one]
theorem jz_out {sb : UInt8} (hs : Rd.isDig sb = false) (h1 : sb ≠ 46) (h3 : sb ≠ 44) : ∀ ps : List Clu, Free sb ⟨(jtZ ps).toArray⟩
  | [] => by intro c hc; simp [jtZ_nil] at hc
  | [p] => by rw [jz_one]; exact clx_out hs h1 p
  | p :: q :: r => by
    rw [jz_cons]
    intro c hc
    simp only [ByteArray.data_append, Array.toList_append, List.mem_append] at hc
    rcases hc with (h | h) | h
    · exact clx_out hs h1 p c h
    · simp at h; subst h; exact fun e => h3 e.symm
    · exact jz_out hs h1 h3 (q :: r) c h
theorem spl_jz : ∀ ps : List Clu, 0 < ps.length → spl 44 ⟨(jtZ ps).toArray⟩ = ps.map clx
  | [], h => by simp at h
  | [p], _ => by rw [jz_one, spl_one (clx_out (by decide) (by decide) p)]; rfl
  | p :: q :: r, _ => by rw [jz_cons, spl_cons (clx_out (by decide) (by decide) p), spl_jz (q :: r) (by simp)]; rfl
theorem clx_eq (b : Clu) : clx b = itx b.1 ++ ⟨#[46]⟩ ++ (itx b.2.1 ++ ⟨#[46]⟩ ++ itx b.2.2) := by
  unfold clx
  simp only [ByteArray.append_assoc]
theorem spl_clx (b : Clu) : spl 46 (clx b) = [itx b.1, itx b.2.1, itx b.2.2] := by
  rw [clx_eq, spl_cons (itx_out (by decide) b.1), spl_cons (itx_out (by decide) b.2.1), spl_one (itx_out (by decide) b.2.2)]
theorem itx_ls (n : Int) : (itx n).data.toList = Lib.decDigits n.toNat := by simp [itx]
theorem rd_itx {n : Int} (h0 : 0 ≤ n) (h1 : n ≤ 1000) : Rd.rd (itx n).data.toList = n := by
  rw [itx_ls, Rd.rd_dec _ (by omega)]
  omega
theorem at_it {n : Int} (h0 : 0 ≤ n) (h1 : n ≤ 1000) : atB (itx n) = true ∧ atV (itx n) = n := by
  have h := at_ok (b := itx n) (v := (n.toNat : Int)) (by rw [itx_ls]; exact Rd.atoi_dec _ (by omega))
  exact ⟨h.1, by rw [h.2]; omega⟩
theorem mcl_clx {b : Clu} (h : cok b = true) : mcl (clx b) = b := by
  obtain ⟨h1, h2, h3⟩ := cok_bd h
  obtain ⟨x, y, z⟩ := b
  unfold mcl
  rw [spl_clx]
  show (Rd.rd (itx x).data.toList, Rd.rd (itx y).data.toList, Rd.rd (itx z).data.toList) = (x, y, z)
  simp only at h1 h2 h3
  rw [rd_itx (by omega) (by omega), rd_itx (by omega) (by omega), rd_itx (by omega) (by omega)]
theorem map_cx {f : ByteArray → Clu} {xs : List Clu} (h : ∀ x, x ∈ xs → f (clx x) = x) : (xs.map clx).map f = xs := by
  induction xs with
  | nil => rfl
  | cons a r ih => rw [List.map_cons, List.map_cons, h a (by simp), ih (fun x hx => h x (by simp [hx]))]
/-- the street's text -/
def stT (k p : Int) : ByteArray := kl k ++ itx p
theorem ZtT_eq (k p : Int) (ps : List Clu) : ZtT k p ps = stT k p ++ ⟨#[59]⟩ ++ ⟨(jtZ ps).toArray⟩ := rfl
theorem kl_one {k : Int} (h0 : 0 ≤ k) (h1 : k ≤ 2) : ∃ c : UInt8, kl k = ⟨#[c]⟩ ∧ psI c = k ∧ c ≠ 59 := by
  rcases (show k = 0 ∨ k = 1 ∨ k = 2 by omega) with rfl | rfl | rfl
  · exact ⟨114, rfl, rfl, by decide⟩
  · exact ⟨111, rfl, rfl, by decide⟩
  · exact ⟨117, rfl, rfl, by decide⟩
theorem st_back {k p : Int} (h : pst k p = true) : Free 59 (stT k p) ∧ psB (stT k p).data.toList = true ∧ psK (stT k p).data.toList = k ∧ psP (stT k p).data.toList = p := by
  obtain ⟨h0, h1, h2, h3⟩ := pst_t h
  obtain ⟨c, ec, hc, hn⟩ := kl_one h0 h1
  have hg : gd k p = true := by rw [pst_gd, Bool.and_eq_true] at h; exact h.1
  have e : (stT k p).data.toList = c :: Lib.decDigits p.toNat := by unfold stT itx; rw [ec]; simp
  have hl := Rd.dec_length p.toNat
  have hl1 : 1 ≤ (Lib.decDigits p.toNat).length ∧ (Lib.decDigits p.toNat).length ≤ 4 := by
    rw [hl]
    rcases (show p < 10 ∨ 10 ≤ p by omega) with q | q
    · rw [Lib.nDigits_small (by omega)]; omega
    · rw [Lib.nDigits_unique 1 p.toNat (by simp; omega) (by simp; omega)]; omega
  have hr := Rd.rd_dec p.toNat (by omega)
  have hp : (p.toNat : Int) = p := by omega
  have hB : psB (stT k p).data.toList = true := by
    rw [e]
    unfold psB
    rw [decide_eq_true (by simp only [List.length_cons]; omega)]
    simp only [List.headD_cons, List.drop_succ_cons, List.drop_zero, hc, hr, hp, hg, Bool.true_and]
  refine ⟨?_, hB, ?_, ?_⟩
  · intro d hd
    rw [e] at hd
    rcases List.mem_cons.1 hd with rfl | hd
    · exact hn
    · exact dig_out (by decide) (Rd.dec_dig p.toNat) hd
  · unfold psK; rw [if_pos hB, e]; exact hc
  · unfold psP; rw [if_pos hB, e]; simp only [List.drop_succ_cons, List.drop_zero]; rw [hr, hp]
theorem back59 {k p : Int} (h : pst k p = true) (ps : List Clu) : spl 59 (ZtT k p ps) = [stT k p, ⟨(jtZ ps).toArray⟩] := by
  rw [ZtT_eq, spl_cons (st_back h).1, spl_one (jz_out (by decide) (by decide) (by decide) ps)]
theorem pg_t {k p : Int} {ps : List Clu} (h : pgood k p ps = true) : pst k p = true ∧ ps.length ≤ 6 ∧ ps.all cok = true := by
  unfold pgood at h
  simp only [Bool.and_eq_true, decide_eq_true_eq] at h
  exact ⟨h.1.1, h.1.2, h.2⟩
theorem jz_pos : ∀ ps : List Clu, 0 < ps.length → 0 < (jtZ ps).length
  | [], h => by simp at h
  | [p], _ => by
    rw [jtZ_one]
    have e : (clx p).data.toList.length = (clx p).size := by simp
    rw [e]
    unfold clx
    simp only [ByteArray.size_append, size_one]
    omega
  | p :: q :: r, _ => by
    have e := congrArg ByteArray.size (jz_cons p q r)
    have e3 : ((⟨(jtZ (p :: q :: r)).toArray⟩ : ByteArray).size) = (jtZ (p :: q :: r)).length := by simp [ByteArray.size]
    rw [ByteArray.size_append, ByteArray.size_append, e3] at e
    have : (⟨#[44]⟩ : ByteArray).size = 1 := rfl
    omega
/-- a puzzle's text is read back -/
theorem pp_back {k p : Int} {ps : List Clu} (h : pgood k p ps = true) : ppB (ZtT k p ps) = true ∧ ppK (ZtT k p ps) = k ∧ ppP (ZtT k p ps) = p ∧ ppL (ZtT k p ps) = ps := by
  obtain ⟨hs, h6, hall⟩ := pg_t h
  obtain ⟨_, sB, sK, sP⟩ := st_back hs
  have hm : ∀ b ∈ ps, cok b = true := fun b hb => List.all_eq_true.1 hall b hb
  have e0 : ppS (ZtT k p ps) = stT k p := by unfold ppS; rw [back59 hs]; rfl
  have e1 : ppC (ZtT k p ps) = ⟨(jtZ ps).toArray⟩ := by unfold ppC; rw [back59 hs]; rfl
  have eK : ppK (ZtT k p ps) = k := by unfold ppK; rw [e0, sK]
  have eP : ppP (ZtT k p ps) = p := by unfold ppP; rw [e0, sP]
  have es : ((⟨(jtZ ps).toArray⟩ : ByteArray).size) = (jtZ ps).length := by simp [ByteArray.size]
  have eC : ppL (ZtT k p ps) = ps ∧ pp3 (ZtT k p ps) = true := by
    unfold ppL pp3
    rw [e1, es]
    rcases Nat.eq_zero_or_pos ps.length with q | q
    · obtain rfl : ps = [] := List.length_eq_zero_iff.1 q
      simp [jtZ_nil]
    · rw [if_pos (jz_pos ps q), if_pos (jz_pos ps q), spl_jz ps q]
      refine ⟨map_cx fun x hx => mcl_clx (hm x hx), ?_⟩
      rw [List.all_eq_true]
      intro x hx
      obtain ⟨b, hb, rfl⟩ := List.mem_map.1 hx
      rw [spl_clx]; rfl
  refine ⟨?_, eK, eP, eC.1⟩
  unfold ppB
  rw [eK, eP, eC.1, eC.2, h, e0, sB, back59 hs]
  have hz : (ZtT k p ps).size ≤ 100 := by
    have hst := pst_t hs
    have h1 := hdZ_sz (k := k) (p := p) (by omega) (by omega)
    have h2 := jtZ_bd hall ps.length (Nat.le_refl _)
    rw [List.take_length] at h2
    unfold ZtT
    rw [ByteArray.size_append, es]
    omega
  rw [decide_eq_true hz]
  simp
theorem pp_t {t : ByteArray} (h : ppB t = true) : pgood (ppK t) (ppP t) (ppL t) = true ∧ ZtT (ppK t) (ppP t) (ppL t) = t := by
  unfold ppB at h
  simp only [Bool.and_eq_true, decide_eq_true_eq] at h
  exact ⟨h.2.2.2.2.1, h.2.2.2.2.2⟩
theorem ppR_len (t : ByteArray) : (ppR t).length ≤ 6 := by
  unfold ppR
  cases h : ppB t
  · simp
  · rw [if_pos rfl]
    exact (pg_t (pp_t h).1).2.1
/-! the program's reading -/
/-- what the program may read for a number: the number, if it is one -/
def Rv (x : ByteArray) (n : Int) : Prop := atB x = true → n = atV x
def RdC (x : ByteArray) (b : Clu) : Prop := Rv (pw1 46 x) b.1 ∧ Rv (pw1 46 (pw2 46 x)) b.2.1 ∧ Rv (pw2 46 (pw2 46 x)) b.2.2
theorem rdC_clx {a b : Clu} (ha : cok a = true) (h : RdC (clx a) b) : b = a := by
  obtain ⟨h1, h2, h3⟩ := h
  obtain ⟨a1, a2, a3⟩ := cok_bd ha
  obtain ⟨p1, p2⟩ := pw_cut (itx_out (sb := 46) (by decide) a.1) (itx a.2.1 ++ ⟨#[46]⟩ ++ itx a.2.2)
  obtain ⟨r1, r2⟩ := pw_cut (itx_out (sb := 46) (by decide) a.2.1) (itx a.2.2)
  rw [clx_eq, p1] at h1
  rw [clx_eq, p2, r1] at h2
  rw [clx_eq, p2, r2] at h3
  have q1 := at_it (n := a.1) (by omega) (by omega)
  have q2 := at_it (n := a.2.1) (by omega) (by omega)
  have q3 := at_it (n := a.2.2) (by omega) (by omega)
  have s1 := h1 q1.1
  have s2 := h2 q2.1
  have s3 := h3 q3.1
  rw [q1.2] at s1
  rw [q2.2] at s2
  rw [q3.2] at s3
  obtain ⟨x, y, z⟩ := b
  obtain ⟨x', y', z'⟩ := a
  simp only at s1 s2 s3
  rw [s1, s2, s3]
/-- the clues that the program may read -/
inductive RdL : List ByteArray → List Clu → Prop
  | nil : RdL [] []
  | snoc {xs ps x b} : RdL xs ps → RdC x b → RdL (xs ++ [x]) (ps ++ [b])
theorem RdL.len {xs : List ByteArray} {ps : List Clu} (h : RdL xs ps) : ps.length = xs.length := by
  induction h with
  | nil => rfl
  | snoc _ _ ih => simp [ih]
theorem RdL.back {xs : List ByteArray} {ps : List Clu} (h : RdL xs ps) : ∀ qs : List Clu, (∀ b ∈ qs, cok b = true) → xs = qs.map clx → ps = qs := by
  induction h with
  | nil => intro qs _ e; cases qs with | nil => rfl | cons a r => simp at e
  | snoc hr hb ih =>
    intro qs hq e
    rcases List.eq_nil_or_concat qs with rfl | ⟨r, a, rfl⟩
    · simp at e
    · rw [List.concat_eq_append, List.map_append] at e
      obtain ⟨e1, e2⟩ := List.append_inj' e rfl
      simp only [List.map_cons, List.map_nil, List.cons.injEq, and_true] at e2
      subst e2
      rw [List.concat_eq_append] at hq ⊢
      rw [ih r (fun b hb => hq b (by simp [hb])) e1, rdC_clx (hq a (by simp)) hb]
theorem pp_prog {t : ByteArray} {cs : List Clu} 
    (hc : (pw2 59 t).size = 0 → cs = []) (hc2 : ¬ (pw2 59 t).size = 0 → RdL (spl 44 (pw2 59 t)) cs) :
    ((pgood (psK (pw1 59 t).data.toList) (psP (pw1 59 t).data.toList) cs && decide (ZtT (psK (pw1 59 t).data.toList) (psP (pw1 59 t).data.toList) cs = t)) = ppB t) ∧ (ppB t = true → psK (pw1 59 t).data.toList = ppK t ∧ psP (pw1 59 t).data.toList = ppP t ∧ cs = ppL t) := by
  have key : ppB t = true → psK (pw1 59 t).data.toList = ppK t ∧ psP (pw1 59 t).data.toList = ppP t ∧ cs = ppL t := by
    intro hb
    obtain ⟨h1, h2⟩ := pp_t hb
    obtain ⟨hs, h6, hall⟩ := pg_t h1
    have hm : ∀ b ∈ ppL t, cok b = true := fun b hb => List.all_eq_true.1 hall b hb
    generalize ppK t = k at *
    generalize ppP t = p at *
    generalize ppL t = ps at *
    obtain ⟨sF, sB, sK, sP⟩ := st_back hs
    rw [← h2, ZtT_eq] at hc hc2 ⊢
    obtain ⟨p1, p2⟩ := pw_cut sF (⟨(jtZ ps).toArray⟩ : ByteArray)
    rw [p1]
    rw [p2] at hc hc2
    refine ⟨sK, sP, ?_⟩
    have es : ((⟨(jtZ ps).toArray⟩ : ByteArray).size) = (jtZ ps).length := by simp [ByteArray.size]
    rw [es] at hc hc2
    rcases Nat.eq_zero_or_pos ps.length with q | q
    · obtain rfl : ps = [] := List.length_eq_zero_iff.1 q
      exact hc rfl
    · have hp := jz_pos ps q
      have := hc2 (by omega)
      rw [spl_jz ps q] at this
      exact this.back ps hm rfl
  refine ⟨?_, key⟩
  rw [Bool.eq_iff_iff]
  constructor
  · intro h
    simp only [Bool.and_eq_true, decide_eq_true_eq] at h
    obtain ⟨h1, h2⟩ := h
    rw [← h2]
    exact (pp_back h1).1
  · intro h
    obtain ⟨e1, e2, e3⟩ := key h
    rw [e1, e2, e3]
    obtain ⟨h1, h2⟩ := pp_t h
    rw [h1, decide_eq_true h2]; rfl
end Go.Proofs
