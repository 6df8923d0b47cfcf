/-
  Chapter 4: a city out of a text, plain: what both sides answer.
-/
import Derived.Test.YtnpkhoiblemodaaDoorSpS
import Derived.Test.YtnpkhoiblemodaaDoorAtN
import Derived.Test.YtnpkhoiblemodaaDoorCtX
namespace Go.Proofs
open Go.RowKit Av Sp
set_option linter.unusedVariables false
set_option linter.unusedSimpArgs false
def CtT (W H : Int) (ps : List Blk) : ByteArray := hdC W H ++ ⟨(jtK ps).toArray⟩
def nthB (xs : List ByteArray) (k : Nat) : ByteArray := xs.getD k ⟨#[]⟩
/-- a block out of a text of three bytes -/
def mbk (x : ByteArray) : Blk := (((x.data.toList.getD 0 0).toNat : Int) - 48, ((x.data.toList.getD 2 0).toNat : Int) - 48, x.data.toList.getD 1 0 == 124)
def pcS (t : ByteArray) : ByteArray := nthB (spl 58 t) 0
def pcK (t : ByteArray) : ByteArray := nthB (spl 58 t) 1
def pcW (t : ByteArray) : Int := Rd.rd (nthB (spl 120 (pcS t)) 0).data.toList
def pcH (t : ByteArray) : Int := Rd.rd (nthB (spl 120 (pcS t)) 1).data.toList
def pcC (t : ByteArray) : List Blk := if 0 < (pcK t).size then (spl 44 (pcK t)).map mbk else []
def pc3 (t : ByteArray) : Bool := if 0 < (pcK t).size then (spl 44 (pcK t)).all (fun x => x.size == 3) else true
def pcB (t : ByteArray) : Bool := decide (t.size ≤ 140) && (decide ((spl 58 t).length = 2) && (decide ((spl 120 (pcS t)).length = 2) && (pc3 t && (okB (pcW t) (pcH t) (pcC t) && decide (CtT (pcW t) (pcH t) (pcC t) = t)))))
def pcL (t : ByteArray) : List Blk := if pcB t then pcC t else []
def ifP (b : Bool) (n : Int) : Int := if b then n else 0
theorem dig_out {sb c : UInt8} (hs : Rd.isDig sb = false) {l : List UInt8} (h : l.all Rd.isDig = true) (hc : c ∈ l) : c ≠ sb := by
  have := List.all_eq_true.1 h c hc
  rintro rfl
  rw [hs] at this
  cases this
theorem itx_out {sb : UInt8} (hs : Rd.isDig sb = false) (n : Int) : Free sb (itx n) := by
  intro c hc
  unfold itx at hc
  exact dig_out hs (Rd.dec_dig n.toNat) (by simpa using hc)
theorem bkx_out {sb : UInt8} (hs : Rd.isDig sb = false) (h1 : sb ≠ 124) (h2 : sb ≠ 45) (b : Blk) : Free sb (bkx b) := by
  intro c hc
  unfold bkx at hc
  simp only [ByteArray.data_append, Array.toList_append, List.mem_append] at hc
  rcases hc with (h | h) | h
  · exact itx_out hs b.1 c h
  · rcases bsg_c b.2.2 with ⟨_, e⟩ | ⟨_, e⟩
    · rw [e] at h; simp at h; subst h; exact fun e => h1 e.symm
    · rw [e] at h; simp at h; subst h; exact fun e => h2 e.symm
  · exact itx_out hs b.2.1 c h
theorem jk_cons (p q : Blk) (r : List Blk) : (⟨(jtK (p :: q :: r)).toArray⟩ : ByteArray) = bkx p ++ ⟨#[44]⟩ ++ ⟨(jtK (q :: r)).toArray⟩ := by
  apply ByteArray.ext
  unfold jtK
  simp [Lib.join_cons, Lib.joinTail]
theorem jk_one (p : Blk) : (⟨(jtK [p]).toArray⟩ : ByteArray) = bkx p := by rw [jtK_one]
theorem jk_out {sb : UInt8} (hs : Rd.isDig sb = false) (h1 : sb ≠ 124) (h2 : sb ≠ 45) (h3 : sb ≠ 44) : ∀ ps : List Blk, Free sb ⟨(jtK ps).toArray⟩
  | [] => by intro c hc; simp [jtK_nil] at hc
  | [p] => by rw [jk_one]; exact bkx_out hs h1 h2 p
  | p :: q :: r => by
    rw [jk_cons]
    intro c hc
    simp only [ByteArray.data_append, Array.toList_append, List.mem_append] at hc
    rcases hc with (h | h) | h
    · exact bkx_out hs h1 h2 p c h
    · simp at h; subst h; exact fun e => h3 e.symm
    · exact jk_out hs h1 h2 h3 (q :: r) c h
theorem spl_jk : ∀ ps : List Blk, 0 < ps.length → spl 44 ⟨(jtK ps).toArray⟩ = ps.map bkx
  | [], h => by simp at h
  | [p], _ => by rw [jk_one, spl_one (bkx_out (by decide) (by decide) (by decide) p)]; rfl
  | p :: q :: r, _ => by rw [jk_cons, spl_cons (bkx_out (by decide) (by decide) (by decide) p), spl_jk (q :: r) (by simp)]; rfl
/-- one digit -/
theorem itx_dig {n : Int} (h0 : 0 ≤ n) (h1 : n ≤ 9) : ∃ c : UInt8, itx n = ⟨#[c]⟩ ∧ (c.toNat : Int) = 48 + n := by
  have hl := Rd.dec_length n.toNat
  rw [Lib.nDigits_small (by omega)] at hl
  have hd := Rd.dec_dig n.toNat
  have hv := Rd.dec_val n.toNat
  unfold itx
  match hm : Lib.decDigits n.toNat, hl with
  | [c], _ =>
    rw [hm] at hd hv
    refine ⟨c, rfl, ?_⟩
    simp [Rd.isDig] at hd
    simp [Rd.val] at hv
    omega
theorem bkx_three {b : Blk} (h : Bd b) : ∃ c d s : UInt8, bkx b = ⟨#[c, s, d]⟩ ∧ (c.toNat : Int) = 48 + b.1 ∧ (d.toNat : Int) = 48 + b.2.1 ∧ (s == 124) = b.2.2 := by
  obtain ⟨a0, a1, c0, c1⟩ := h
  obtain ⟨c, ec, hc⟩ := itx_dig (n := b.1) (by omega) (by omega)
  obtain ⟨d, ed, hd⟩ := itx_dig (n := b.2.1) (by omega) (by omega)
  unfold bkx
  rw [ec, ed]
  rcases bsg_c b.2.2 with ⟨e1, e⟩ | ⟨e1, e⟩
  · exact ⟨c, d, 124, by rw [e]; rfl, hc, hd, by rw [e1]; rfl⟩
  · exact ⟨c, d, 45, by rw [e]; rfl, hc, hd, by rw [e1]; rfl⟩
theorem bkx_size {b : Blk} (h : Bd b) : (bkx b).size = 3 := by obtain ⟨c, d, s, e, _⟩ := bkx_three h; rw [e]; rfl
theorem mbk_bkx {b : Blk} (h : Bd b) : mbk (bkx b) = b := by
  obtain ⟨c, d, s, e, hc, hd, hs⟩ := bkx_three h
  obtain ⟨x, y, u⟩ := b
  simp only at hc hd hs
  unfold mbk
  rw [e]
  simp [hs]
  omega
theorem ok_mem {W H : Int} {ps : List Blk} (h : okB W H ps = true) {b : Blk} (hb : b ∈ ps) : Bd b := by
  obtain ⟨j, hj, rfl⟩ := List.getElem_of_mem hb
  have := (ok_bd h).2.2.2 j hj
  rwa [getD_eq _ _ hj] at this
theorem jk_size : ∀ ps : List Blk, (∀ b ∈ ps, Bd b) → (jtK ps).length ≤ 4 * ps.length ∧ (0 < ps.length → 0 < (jtK ps).length)
  | [], _ => by simp [jtK_nil]
  | [p], h => by
    have := bkx_size (h p (by simp))
    rw [jtK_one]
    have e : (bkx p).data.toList.length = (bkx p).size := by simp
    simp only [List.length_cons, List.length_nil]
    omega
  | p :: q :: r, h => by
    have h1 := bkx_size (h p (by simp))
    have h2 := jk_size (q :: r) (fun b hb => h b (by simp at hb ⊢; exact .inr hb))
    have e := congrArg ByteArray.size (jk_cons p q r)
    have e2 : ((⟨(jtK (q :: r)).toArray⟩ : ByteArray).size) = (jtK (q :: r)).length := by simp [ByteArray.size]
    have e3 : ((⟨(jtK (p :: q :: r)).toArray⟩ : ByteArray).size) = (jtK (p :: q :: r)).length := by simp [ByteArray.size]
    rw [ByteArray.size_append, ByteArray.size_append, h1, e2, e3] at e
    have : (⟨#[44]⟩ : ByteArray).size = 1 := rfl
    simp only [List.length_cons] at h2 ⊢
    omega
/-- the sizes' text -/
def szT (W H : Int) : ByteArray := itx W ++ ⟨#[120]⟩ ++ itx H
theorem CtT_eq (W H : Int) (ps : List Blk) : CtT W H ps = szT W H ++ ⟨#[58]⟩ ++ ⟨(jtK ps).toArray⟩ := rfl
theorem szT_out {sb : UInt8} (hs : Rd.isDig sb = false) (h1 : sb ≠ 120) (W H : Int) : Free sb (szT W H) := by
  intro c hc
  unfold szT at hc
  simp only [ByteArray.data_append, Array.toList_append, List.mem_append] at hc
  rcases hc with (h | h) | h
  · exact itx_out hs W c h
  · simp at h; subst h; exact fun e => h1 e.symm
  · exact itx_out hs H c h
theorem back58 (W H : Int) (ps : List Blk) : spl 58 (CtT W H ps) = [szT W H, ⟨(jtK ps).toArray⟩] := by
  rw [CtT_eq, spl_cons (szT_out (by decide) (by decide) W H), spl_one (jk_out (by decide) (by decide) (by decide) (by decide) ps)]
theorem back120 (W H : Int) : spl 120 (szT W H) = [itx W, itx H] := by
  unfold szT
  rw [spl_cons (itx_out (by decide) W), spl_one (itx_out (by decide) H)]
theorem itx_ls (n : Int) : (itx n).data.toList = Lib.decDigits n.toNat := by simp [itx]
theorem rd_itx {n : Int} (h0 : 0 ≤ n) (h1 : n ≤ 9) : Rd.rd (itx n).data.toList = n := by
  rw [itx_ls, Rd.rd_dec _ (by omega)]
  omega
theorem at_it {n : Int} (h0 : 0 ≤ n) (h1 : n ≤ 9) : atB (itx n) = true ∧ atV (itx n) = n := by
  have h := at_ok (b := itx n) (v := (n.toNat : Int)) (by rw [itx_ls]; exact Rd.atoi_dec _ (by omega))
  exact ⟨h.1, by rw [h.2]; omega⟩
theorem map_bk {f : ByteArray → Blk} {xs : List Blk} (h : ∀ x, x ∈ xs → f (bkx x) = x) : (xs.map bkx).map f = xs := by
  induction xs with
  | nil => rfl
  | cons a r ih => rw [List.map_cons, List.map_cons, h a (by simp), ih (fun x hx => h x (by simp [hx]))]
/-- a city's text is read back -/
theorem pc_back {W H : Int} {ps : List Blk} (h : okB W H ps = true) : pcB (CtT W H ps) = true ∧ pcW (CtT W H ps) = W ∧ pcH (CtT W H ps) = H ∧ pcC (CtT W H ps) = ps := by
  obtain ⟨hW, hH, h30, _⟩ := ok_bd h
  have hm : ∀ b ∈ ps, Bd b := fun b hb => ok_mem h hb
  have e0 : pcS (CtT W H ps) = szT W H := by unfold pcS; rw [back58]; rfl
  have e1 : pcK (CtT W H ps) = ⟨(jtK ps).toArray⟩ := by unfold pcK; rw [back58]; rfl
  have eW : pcW (CtT W H ps) = W := by unfold pcW; rw [e0, back120]; exact rd_itx (by omega) (by omega)
  have eH : pcH (CtT W H ps) = H := by unfold pcH; rw [e0, back120]; exact rd_itx (by omega) (by omega)
  have hs := jk_size ps hm
  have es : ((⟨(jtK ps).toArray⟩ : ByteArray).size) = (jtK ps).length := by simp [ByteArray.size]
  have eC : pcC (CtT W H ps) = ps ∧ pc3 (CtT W H ps) = true := by
    unfold pcC pc3
    rw [e1, es]
    rcases Nat.eq_zero_or_pos ps.length with q | q
    · obtain rfl : ps = [] := List.length_eq_zero_iff.1 q
      simp [jtK_nil]
    · rw [if_pos (hs.2 q), if_pos (hs.2 q), spl_jk ps q]
      refine ⟨map_bk fun x hx => mbk_bkx (hm x hx), ?_⟩
      rw [List.all_eq_true]
      intro x hx
      obtain ⟨b, hb, rfl⟩ := List.mem_map.1 hx
      rw [bkx_size (hm b hb)]; rfl
  refine ⟨?_, eW, eH, eC.1⟩
  unfold pcB
  rw [eW, eH, eC.1, eC.2, h, e0, back120, back58]
  have hz : (CtT W H ps).size ≤ 140 := by
    rw [CtT_eq, ByteArray.size_append, ByteArray.size_append, es]
    have : (szT W H).size ≤ 10 := by
      have a := itx_sz (n := W) (by omega) (by omega)
      have b := itx_sz (n := H) (by omega) (by omega)
      unfold szT
      simp only [ByteArray.size_append, size_one]
      omega
    have : (⟨#[58]⟩ : ByteArray).size = 1 := rfl
    omega
  rw [decide_eq_true hz]
  simp
theorem pc_t {t : ByteArray} (h : pcB t = true) : okB (pcW t) (pcH t) (pcC t) = true ∧ CtT (pcW t) (pcH t) (pcC t) = t := by
  unfold pcB at h
  simp only [Bool.and_eq_true, decide_eq_true_eq] at h
  exact ⟨h.2.2.2.2.1, h.2.2.2.2.2⟩
theorem pcL_len (t : ByteArray) : (pcL t).length ≤ 30 := by
  unfold pcL
  cases h : pcB t
  · simp
  · rw [if_pos rfl]
    exact (ok_bd (pc_t h).1).2.2.1
/-! the program's reading -/
def hasBar (x : ByteArray) : Bool := decide (0 ≤ ixc 124 x)
def sgB (u : Bool) : UInt8 := if u then 124 else 45
/-- what the program may read for a number: the number, if it is one -/
def Rv (x : ByteArray) (n : Int) : Prop := atB x = true → n = atV x
def RdB (x : ByteArray) (b : Blk) : Prop := b.2.2 = hasBar x ∧ Rv (pw1 (sgB (hasBar x)) x) b.1 ∧ Rv (pw2 (sgB (hasBar x)) x) b.2.1
theorem bar_bkx (b : Blk) : hasBar (bkx b) = b.2.2 := by
  unfold hasBar
  have e : bkx b = itx b.1 ++ bsg b.2.2 ++ itx b.2.1 := rfl
  cases hu : b.2.2
  · rw [hu] at e
    have hf : Free 124 (bkx b) := by
      rw [e]
      intro c hc
      simp only [ByteArray.data_append, Array.toList_append, List.mem_append] at hc
      rcases hc with (h | h) | h
      · exact itx_out (by decide) b.1 c h
      · simp [bsg] at h; subst h; decide
      · exact itx_out (by decide) b.2.1 c h
    rcases ixc_cases 124 (bkx b) with q | ⟨o, _, ho, hc⟩
    · rw [q]; rfl
    · exact absurd hc (hf _ (Array.mem_toList_iff.2 (Array.getElem_mem (xs := (bkx b).data) (i := o) ho)))
  · rw [hu] at e
    have hix := ix_cut (sb := 124) (x := itx b.1) (y := itx b.2.1) (itx_out (by decide) b.1)
    have : ixc 124 (bkx b) = ((itx b.1).size : Int) := by
      rw [e, ← hix]
      show _ = Lib.index _ [124]
      rw [Lib.index_one]; rfl
    rw [this]
    exact decide_eq_true (by omega)
theorem rdB_bkx {a b : Blk} (ha : Bd a) (h : RdB (bkx a) b) : b = a := by
  obtain ⟨h1, h2, h3⟩ := h
  obtain ⟨a0, a1, a2, a3⟩ := ha
  rw [bar_bkx] at h1 h2 h3
  have e : bkx a = itx a.1 ++ ⟨#[sgB a.2.2]⟩ ++ itx a.2.1 := by
    unfold bkx sgB
    cases a.2.2 <;> rfl
  have hf : Free (sgB a.2.2) (itx a.1) := itx_out (by cases a.2.2 <;> decide) a.1
  obtain ⟨p1, p2⟩ := pw_cut hf (itx a.2.1)
  rw [e, p1] at h2
  rw [e, p2] at h3
  have q1 := at_it (n := a.1) (by omega) (by omega)
  have q2 := at_it (n := a.2.1) (by omega) (by omega)
  have r1 := h2 q1.1
  have r2 := h3 q2.1
  rw [q1.2] at r1
  rw [q2.2] at r2
  obtain ⟨x, y, u⟩ := b
  obtain ⟨x', y', u'⟩ := a
  simp only at r1 r2 h1
  rw [r1, r2, h1]
/-- the blocks that the program may read -/
inductive RdL : List ByteArray → List Blk → Prop
  | nil : RdL [] []
  | snoc {xs ps x b} : RdL xs ps → RdB x b → RdL (xs ++ [x]) (ps ++ [b])
theorem RdL.len {xs : List ByteArray} {ps : List Blk} (h : RdL xs ps) : ps.length = xs.length := by
  induction h with
  | nil => rfl
  | snoc _ _ ih => simp [ih]
theorem RdL.back {xs : List ByteArray} {ps : List Blk} (h : RdL xs ps) : ∀ qs : List Blk, (∀ b ∈ qs, Bd b) → xs = qs.map bkx → ps = qs := by
  induction h with
  | nil => intro qs _ e; cases qs with | nil => rfl | cons a r => simp at e
  | snoc hr hb ih =>
    intro qs hq e
    rcases List.eq_nil_or_concat qs with rfl | ⟨r, a, rfl⟩
    · simp at e
    · rw [List.concat_eq_append, List.map_append] at e
      obtain ⟨e1, e2⟩ := List.append_inj' e rfl
      simp only [List.map_cons, List.map_nil, List.cons.injEq, and_true] at e2
      subst e2
      rw [List.concat_eq_append] at hq ⊢
      rw [ih r (fun b hb => hq b (by simp [hb])) e1, rdB_bkx (hq a (by simp)) hb]
theorem pc_prog {t : ByteArray} {W H : Int} {cs : List Blk} (hW : Rv (pw1 120 (pw1 58 t)) W) (hH : Rv (pw2 120 (pw1 58 t)) H)
    (hc : (pw2 58 t).size = 0 → cs = []) (hc2 : ¬ (pw2 58 t).size = 0 → RdL (spl 44 (pw2 58 t)) cs) :
    ((okB W H cs && decide (CtT W H cs = t)) = pcB t) ∧ (pcB t = true → W = pcW t ∧ H = pcH t ∧ cs = pcC t) := by
  have key : pcB t = true → W = pcW t ∧ H = pcH t ∧ cs = pcC t := by
    intro hb
    obtain ⟨h1, h2⟩ := pc_t hb
    have hm : ∀ b ∈ pcC t, Bd b := fun b hb => ok_mem h1 hb
    obtain ⟨bW, bH, _, _⟩ := ok_bd h1
    generalize pcW t = W' at *
    generalize pcH t = H' at *
    generalize pcC t = ps at *
    rw [← h2, CtT_eq] at hW hH hc hc2
    obtain ⟨p1, p2⟩ := pw_cut (szT_out (sb := 58) (by decide) (by decide) W' H') (⟨(jtK ps).toArray⟩ : ByteArray)
    rw [p1] at hW hH
    rw [p2] at hc hc2
    unfold szT at hW hH
    obtain ⟨r1, r2⟩ := pw_cut (itx_out (sb := 120) (by decide) W') (itx H')
    rw [r1] at hW
    rw [r2] at hH
    have q1 := at_it (n := W') (by omega) (by omega)
    have q2 := at_it (n := H') (by omega) (by omega)
    refine ⟨by rw [hW q1.1, q1.2], by rw [hH q2.1, q2.2], ?_⟩
    have es : ((⟨(jtK ps).toArray⟩ : ByteArray).size) = (jtK ps).length := by simp [ByteArray.size]
    rw [es] at hc hc2
    rcases Nat.eq_zero_or_pos ps.length with q | q
    · obtain rfl : ps = [] := List.length_eq_zero_iff.1 q
      exact hc rfl
    · have hp := (jk_size ps hm).2 q
      have := hc2 (by omega)
      rw [spl_jk ps q] at this
      exact this.back ps hm rfl
  refine ⟨?_, key⟩
  rw [Bool.eq_iff_iff]
  constructor
  · intro h
    simp only [Bool.and_eq_true, decide_eq_true_eq] at h
    obtain ⟨h1, h2⟩ := h
    rw [← h2]
    exact (pc_back h1).1
  · intro h
    obtain ⟨rfl, rfl, rfl⟩ := key h
    obtain ⟨h1, h2⟩ := pc_t h
    rw [h1, decide_eq_true h2]; rfl
end Go.Proofs
