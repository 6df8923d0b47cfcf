/-
  Contracts of chapter 1: ParseStreet, the program's.
-/
import Derived.Test.YtopmclaphcnmbaaDoorNuYz
import Derived.Test.YtopmclaphcnmbaaDoorNuXy
import Derived.Lib.AtoiAllCases
import Derived.Lib.AtoiErrMem
namespace Go.Proofs
open Go.RowKit
set_option linter.unusedVariables false
set_option linter.unusedSimpArgs false
theorem ps_rest {l : List UInt8} (h : psB l = true) : ∃ n : Nat, n < 1000000 ∧ l.drop 1 = Lib.decDigits n ∧ Rd.rd (l.drop 1) = n ∧ gd (psI (l.headD 0)) n = true ∧ 2 ≤ l.length := by
  unfold psB at h
  simp only [Bool.and_eq_true, decide_eq_true_eq] at h
  obtain ⟨⟨h2, _⟩, hg⟩ := h
  obtain ⟨_, _, g1, g2⟩ := gd_t hg
  obtain ⟨e, hl⟩ := Rd.rd_is (l.drop 1) _ rfl (by omega)
  have hn : ((Rd.rd (l.drop 1)).toNat : Int) = Rd.rd (l.drop 1) := by omega
  exact ⟨(Rd.rd (l.drop 1)).toNat, by omega, e, hn.symm, by rw [hn]; exact hg, h2⟩
theorem ps_bad {l : List UInt8} (h : ∀ v, Lib.atoiAll (l.drop 1) ≠ .ok v) : psB l = false := by
  cases hb : psB l
  · rfl
  · obtain ⟨n, hn, e, _⟩ := ps_rest hb
    exact absurd (by rw [e]; exact Rd.atoi_dec n hn) (h n)
theorem ps_val {l : List UInt8} {v : Int} (h : Lib.atoiAll (l.drop 1) = .ok v) (hb : psB l = true) : Rd.rd (l.drop 1) = v ∧ gd (psI (l.headD 0)) v = true ∧ l.drop 1 = Lib.decDigits v.toNat := by
  obtain ⟨n, hn, e, e2, hg, _⟩ := ps_rest hb
  rw [e, Rd.atoi_dec n hn] at h
  have hv : (n : Int) = v := by injection h
  subst hv
  exact ⟨e2, hg, by rw [e]; simp⟩
theorem kl_psI {c : UInt8} {v : Int} (h : gd (psI c) v = true) : kl (psI c) = ⟨#[c]⟩ := by
  obtain ⟨h0, _, _, _⟩ := gd_t h
  unfold psI at h0 ⊢
  unfold kl
  split
  · rename_i e
    rw [if_pos rfl]
    congr 2
    have : c = 114 := UInt8.toNat_inj.1 (by simpa using e)
    rw [this]
  · split
    · rename_i e
      rw [if_neg (by omega), if_pos rfl]
      have : c = 111 := UInt8.toNat_inj.1 (by simpa using e)
      rw [this]
    · split
      · rename_i e
        rw [if_neg (by omega), if_neg (by omega)]
        have : c = 117 := UInt8.toNat_inj.1 (by simpa using e)
        rw [this]
      · rename_i a b d
        rw [if_neg a, if_neg b, if_neg d] at h0
        omega
/-- what a text says that is written again -/
theorem ps_text {t : ByteArray} {v : Int} (h0 : 0 < t.size) (ha : Lib.atoiAll (t.data.toList.drop 1) = .ok v) (hg : gd (psI t[0]) v = true) :
    (stV (psI t[0]) v = t → psB t.data.toList = true ∧ psK t.data.toList = psI t[0] ∧ psP t.data.toList = v) ∧ (stV (psI t[0]) v ≠ t → psB t.data.toList = false) := by
  have hst : stV (psI t[0]) v = (⟨#[t[0]]⟩ : ByteArray) ++ ⟨(Lib.decDigits v.toNat).toArray⟩ := by unfold stV; rw [if_pos hg, kl_psI hg]
  have hd := head_is t h0
  have hc : t.data.toList = t[0] :: t.data.toList.drop 1 := by
    rw [← hd]
    cases hl : t.data.toList with
    | nil => have : t.data.toList.length = t.size := by simp
             rw [hl] at this; simp at this; omega
    | cons a r => rfl
  obtain ⟨_, _, v1, v2⟩ := gd_t hg
  have hdl : (stV (psI t[0]) v).data.toList = t[0] :: Lib.decDigits v.toNat := by rw [hst]; simp
  constructor
  · intro e
    have hr : t.data.toList.drop 1 = Lib.decDigits v.toNat := by
      have h1 := hdl
      rw [e, hc] at h1
      simpa using h1
    have hrd : Rd.rd (t.data.toList.drop 1) = v := by rw [hr, Rd.rd_dec _ (by omega)]; omega
    have hlen : t.data.toList.length = 1 + Lib.nDigits v.toNat := by
      rw [hc, hr, List.length_cons, Rd.dec_length]; omega
    have hn := Lib.nDigits_pos v.toNat
    have hn2 : Lib.nDigits v.toNat ≤ 4 := by
      rcases (show v < 10 ∨ (10 ≤ v ∧ v < 100) ∨ (100 ≤ v ∧ v < 1000) ∨ v = 1000 by omega) with c | c | c | c
      · rw [Lib.nDigits_small (by omega)]; omega
      · rw [Lib.nDigits_unique 1 v.toNat (by simp; omega) (by simp; omega)]; omega
      · rw [Lib.nDigits_unique 2 v.toNat (by simp; omega) (by simp; omega)]; omega
      · rw [Lib.nDigits_unique 3 v.toNat (by simp; omega) (by simp; omega)]; omega
    have hb : psB t.data.toList = true := by
      unfold psB
      rw [hd, hrd, hg, show decide (2 ≤ t.data.toList.length ∧ t.data.toList.length ≤ 5) = true from decide_eq_true (by omega)]
      rfl
    exact ⟨hb, by unfold psK; rw [if_pos hb, hd], by unfold psP; rw [if_pos hb, hrd]⟩
  · intro hne
    cases hb : psB t.data.toList
    · rfl
    · obtain ⟨_, _, e⟩ := ps_val ha hb
      refine absurd ?_ hne
      apply ByteArray.ext
      apply Array.toList_inj.1
      rw [hdl, hc, e]
theorem ps_no {t : ByteArray} {v : Int} (h0 : 0 < t.size) (ha : Lib.atoiAll (t.data.toList.drop 1) = .ok v) (hg : gd (psI t[0]) v = false) : psB t.data.toList = false := by
  cases hb : psB t.data.toList
  · rfl
  · obtain ⟨_, e, _⟩ := ps_val ha hb
    rw [head_is t h0, hg] at e
    cases e
theorem ps_zero {l : List UInt8} (h : psB l = false) : psK l = 0 ∧ psP l = 0 := ⟨by simp [psK, h], by simp [psP, h]⟩
theorem idx_psI (c : UInt8) : Lib.indexByte [114, 111, 117] c = psI c := by
  unfold psI
  have e1 : (c.toNat = 114) ↔ c = 114 := ⟨fun h => UInt8.toNat_inj.1 (by simpa using h), fun h => by rw [h]; rfl⟩
  have e2 : (c.toNat = 111) ↔ c = 111 := ⟨fun h => UInt8.toNat_inj.1 (by simpa using h), fun h => by rw [h]; rfl⟩
  have e3 : (c.toNat = 117) ↔ c = 117 := ⟨fun h => UInt8.toNat_inj.1 (by simpa using h), fun h => by rw [h]; rfl⟩
  simp only [Lib.indexByte]
  by_cases a : c = 114
  · subst a; decide
  · by_cases b : c = 111
    · subst b; decide
    · by_cases d : c = 117
      · subst d; decide
      · simp [e1, e2, e3, a, b, d, Ne.symm a, Ne.symm b, Ne.symm d]
theorem Tab.belowT {w w' : World} (h : Tab w) (hb : Below w.heap.size w w') : Tab w' := by
  have hc := Lib.TabIs.cell h Tryd.gPow 0 (by decide)
  exact var?_below hb Tryd.gPow (World.block_lt_of_cell? _ _ hc) h
def ErrVars (w : World) : Prop := (∃ tp p, w.var? Tryd.prog "strconv.ErrSyntax" = some #[.iface tp p]) ∧ ∃ tp p, w.var? Tryd.prog "strconv.ErrRange" = some #[.iface tp p]
theorem Tryd.gES : Tryd.prog.globalNamed "strconv.ErrSyntax" = some 1 := by kernel_rfl
theorem Tryd.gER : Tryd.prog.globalNamed "strconv.ErrRange" = some 2 := by kernel_rfl
theorem ErrVars.below {w w' : World} (h : ErrVars w) (hb : Below w.heap.size w w') : ErrVars w' := by
  obtain ⟨⟨tp, p, h1⟩, tp2, p2, h2⟩ := h
  have c1 := World.var?_cell Tryd.gES h1 0
  have c2 := World.var?_cell Tryd.gER h2 0
  exact ⟨⟨tp, p, var?_below hb Tryd.gES (World.block_lt_of_cell? _ _ (by simpa using c1)) h1⟩, tp2, p2, var?_below hb Tryd.gER (World.block_lt_of_cell? _ _ (by simpa using c2)) h2⟩
theorem ne_nil {t : ByteArray} (h0 : 0 < t.size) : t.toList.isEmpty = false := by
  have hl : t.toList.length = t.size := by rw [Lib.toList_data]; simp
  rw [List.isEmpty_eq_false_iff]
  intro e
  rw [e] at hl
  simp at hl
  omega
set_option maxHeartbeats 400000 in
theorem Tryd.iParseNil (w : World) :
    Calls Tryd.prog 11 #[.string ⟨#[]⟩] w fun e w' => e = .returned (.tuple #[.agg #[.int .i64 0, .int .i64 0], .bool false]) ∧ Below w.heap.size w w' := by
  go_enter Tryd.func11, Tryd.ntmps11
  go_wp2
  refine bodyPost_ret (v := .tuple #[.agg #[.int .i64 0, .int .i64 0], .bool false]) ?_ rfl ⟨rfl, ?_⟩
  · simp [results, Tryd.results11, go_sem]
  · exact Gr.below (by repeat (first | exact Gr.refl _ | refine Gr.alloc ?_ _ | refine Gr.trans ?_ (by assumption) | refine Gr.drew ?_ | refine Gr.drewN ?_ _ | refine Gr.grow ?_ _ | refine Gr.setCell ?_ (by (try simp); (try omega)) _))
set_option maxHeartbeats 800000 in
theorem Tryd.iParseBad (t : ByteArray) (w : World) (hs : t.size ≤ 281474976710656) (h0 : 0 < t.size) (he : ErrVars w) (h : ∀ v, Lib.atoiAll (t.data.toList.drop 1) ≠ .ok v) :
    Calls Tryd.prog 11 #[.string t] w fun e w' => e = .returned (.tuple #[.agg #[.int .i64 0, .int .i64 0], .bool false]) ∧ Below w.heap.size w w' := by
  have hx : (t.extract 1 t.size).data.toList = t.data.toList.drop 1 := Lib.extract_to_end t 1
  have hA : ∀ W : World, ErrVars W → Calls Tryd.prog 25 #[.string (t.extract 1 t.size)] W fun e w' => ∃ N x, e = .returned (.tuple #[.int .i64 x, .iface 84 (.pointer (some ⟨N, 0, none⟩))]) ∧ Below W.heap.size W w' := by
    intro W hW
    obtain ⟨⟨tp, p, h1⟩, tp2, p2, h2⟩ := hW
    cases ha : Lib.atoiAll (t.data.toList.drop 1)
    · rename_i v
      exact absurd ha (h v)
    · exact (Any.strconv_Atoi_syntax_var Tryd.laysC172 (t.extract 1 t.size) (by rw [ByteArray.size_extract]; omega) (by rw [hx]; exact ha) tp p W h1).mono fun _ _ ⟨N, e, _, _, hb⟩ => ⟨N, _, e, hb⟩
    · exact (Any.strconv_Atoi_range_var Tryd.laysC172 (t.extract 1 t.size) (by rw [ByteArray.size_extract]; omega) (by rw [hx]; exact ha) tp2 p2 W h2).mono fun _ _ ⟨N, e, _, _, hb⟩ => ⟨N, _, e, hb⟩
  have HA := Lib.hid hA
  have HE := Lib.hid he
  have hz1 : (1 : Int) ≤ (t.size : Int) := by omega
  have hne := ne_nil h0
  clear hA he hx h
  go_enter Tryd.func11, Tryd.ntmps11
  go_wp2_with fail
  have bW : Below w.heap.size w (w.alloc (.cells #[.int .i64 0, .int .i64 0] 23)) := Gr.below (by repeat (first | exact Gr.refl _ | refine Gr.alloc ?_ _ | refine Gr.trans ?_ (by assumption) | refine Gr.drew ?_ | refine Gr.drewN ?_ _ | refine Gr.grow ?_ _ | refine Gr.setCell ?_ (by (try simp); (try omega)) _))
  refine (HA.out _ (HE.out.below bW)).mono ?_
  rintro e w1 ⟨N, x, rfl, hb1⟩
  have c1 := (bcell hb1).1
  have f1 := (bcell hb1).2
  have z1 : w.heap.size < w1.heap.size := by have hq := hb1.size; simp at hq; omega
  have b1 := bW.trans (hb1.mono bW.size)
  clear bW
  go_wp2
  refine bodyPost_ret (v := .tuple #[.agg #[.int .i64 0, .int .i64 0], .bool false]) ?_ rfl ⟨rfl, ?_⟩
  · simp [results, Tryd.results11, go_sem, c1, f1, z1]
  · exact (b1.setCell (by simp) _).setCell (by simp) _
set_option maxHeartbeats 800000 in
theorem Tryd.iParseOk (t : ByteArray) (v : Int) (w : World) (hs : t.size ≤ 281474976710656) (h0 : 0 < t.size) (ht : Tab w) (h : Lib.atoiAll (t.data.toList.drop 1) = .ok v) :
    Calls Tryd.prog 11 #[.string t] w fun e w' => e = .returned (.tuple #[.agg #[.int .i64 (psK t.data.toList), .int .i64 (psP t.data.toList)], .bool (psB t.data.toList)]) ∧ Below w.heap.size w w' := by
  have hx : (t.extract 1 t.size).data.toList = t.data.toList.drop 1 := Lib.extract_to_end t 1
  have hA : ∀ W : World, Calls Tryd.prog 25 #[.string (t.extract 1 t.size)] W fun e w' => e = .returned (.tuple #[.int .i64 v, .nilIface]) ∧ Below W.heap.size W w' := by
    intro W
    refine (Tryd.strconv_Atoi_ok (t.extract 1 t.size) (by rw [ByteArray.size_extract]; omega) v (by rw [hx]; exact h) W).mono ?_
    rintro e w' ⟨rfl, rfl | ⟨s, rfl⟩⟩
    · exact ⟨rfl, Below.refl _ _⟩
    · exact ⟨rfl, Lib.bytesWorld_below _ _ _⟩
  have hI : ∀ W : World, Calls Tryd.prog 26 #[.string ⟨#[114, 111, 117]⟩, .int .u8 (t[0].toNat : Int)] W fun e w' => e = .returned (.int .i64 (psI t[0])) ∧ W = w' := by
    intro W
    have q := Tryd.strings_IndexByte ⟨#[114, 111, 117]⟩ (t[0].toNat : Int) W
    rw [show ((t[0].toNat : Int).toNat.toUInt8) = t[0] by simp, show (⟨#[114, 111, 117]⟩ : ByteArray).data.toList = [114, 111, 117] from rfl, idx_psI] at q
    exact q.mono fun _ _ ⟨a, b⟩ => ⟨a, b.symm⟩
  obtain ⟨hy, hn⟩ : (gd (psI t[0]) v = true → stV (psI t[0]) v = t → psB t.data.toList = true ∧ psK t.data.toList = psI t[0] ∧ psP t.data.toList = v) ∧ ((gd (psI t[0]) v = false ∨ stV (psI t[0]) v ≠ t) → psB t.data.toList = false) := by
    refine ⟨fun hg he => (ps_text h0 h hg).1 he, fun ho => ?_⟩
    cases hg : gd (psI t[0]) v
    · exact ps_no h0 h hg
    · exact (ps_text h0 h hg).2 (by rcases ho with c | c; · rw [hg] at c; cases c
                                    · exact c)
  have hz := fun (q : psB t.data.toList = false) => ps_zero q
  generalize psB t.data.toList = B at *
  generalize psK t.data.toList = K at *
  generalize psP t.data.toList = P at *
  have HA := Lib.hid hA
  have HI := Lib.hid hI
  have HT := Lib.hid ht
  have hz1 : (1 : Int) ≤ (t.size : Int) := by omega
  have hz0 : (0 : Int) < (t.size : Int) := by omega
  have hne := ne_nil h0
  have hS := fun (w : World) => Tryd.iStreetText (psI t[0]) v w
  generalize stV (psI t[0]) v = s at *
  generalize hgg : gd (psI t[0]) v = b at *
  have HSS := Lib.hid hS
  have HY := Lib.hid hy
  have HN := Lib.hid hn
  have HZ := Lib.hid hz
  clear hA hI ht hx h hS hy hn hz hgg
  by_cases hb : b = true ∧ s = t
  · obtain ⟨rfl, rfl⟩ := hb
    obtain ⟨rfl, rfl, rfl⟩ := HY.out rfl rfl
    go_enter Tryd.func11, Tryd.ntmps11
    have bW : Below w.heap.size w (w.alloc (.cells #[.int .i64 0, .int .i64 0] 23)) := Gr.below (by repeat (first | exact Gr.refl _ | refine Gr.alloc ?_ _ | refine Gr.trans ?_ (by assumption) | refine Gr.drew ?_ | refine Gr.drewN ?_ _ | refine Gr.grow ?_ _ | refine Gr.setCell ?_ (by (try simp); (try omega)) _))
    go_wp2_with fail
    refine (HA.out _).mono ?_
    rintro e w1 ⟨rfl, hb1⟩
    have c1 := (bcell hb1).1
    have f1 := (bcell hb1).2
    have z1 : w.heap.size < w1.heap.size := by have hq := hb1.size; simp at hq; omega
    have b1 := bW.trans (hb1.mono bW.size)
    have HT1 := Lib.hid (HT.out.belowT b1)
    clear bW
    go_wp2_with (first | (go_at_call 26; refine (HI.out _).mono ?_; rintro e w2 ⟨rfl, rfl⟩))
    refine (HSS.out _ (HT1.out.gr (Gr.alloc (Gr.refl _) _))).mono ?_
    rintro e w3 ⟨rfl, g3⟩
    have c3 := (bcell g3.below).1
    have f3 := (bcell g3.below).2
    have z3 : w.heap.size < w3.heap.size := by have hq := g3.below.size; simp at hq; omega
    have z4 : w1.heap.size < w3.heap.size := by have hq := g3.below.size; simp at hq; omega
    have b3 : Below w.heap.size w w3 := (b1.alloc b1.size _).trans (g3.below.mono (by have := b1.size; simp; omega))
    have bb : Below (w.alloc (.cells #[.int .i64 0, .int .i64 0] 23)).heap.size (w.alloc (.cells #[.int .i64 0, .int .i64 0] 23)) w3 := (hb1.alloc hb1.size _).trans (g3.below.mono (by have hq := hb1.size; simp at hq ⊢; omega))
    have r0 : w3.cell? ⟨w.heap.size, 0, none⟩ = some (.int .i64 0) := ((bcell bb).1 w.heap.size 0 (by simp)).trans (by simp [go_sem])
    have r1 : w3.cell? ⟨w.heap.size, 1, none⟩ = some (.int .i64 0) := ((bcell bb).1 w.heap.size 1 (by simp)).trans (by simp [go_sem])
    have f0 : w3.frozen? ⟨w.heap.size, 0, none⟩ = false := ((bcell bb).2 w.heap.size 0 (by simp)).trans (by simp [go_sem])
    have f4 : w3.frozen? ⟨w.heap.size, 1, none⟩ = false := ((bcell bb).2 w.heap.size 1 (by simp)).trans (by simp [go_sem])
    clear bb
    go_wp2
    refine bodyPost_ret (v := .tuple #[.agg #[.int .i64 (psI s[0]), .int .i64 P], .bool true]) ?_ rfl ⟨rfl, ?_⟩
    · simp [results, Tryd.results11, go_sem, z1, z3, z4, r0, r1, f0, f4]
    · exact (b3.setCell (by simp) _).setCell (by simp) _
  · have hB := HN.out (by
      cases b
      · exact .inl rfl
      · exact .inr (fun e => hb ⟨rfl, e⟩))
    obtain ⟨rfl, rfl⟩ := HZ.out hB
    subst hB
    have hdec : b = false ∨ (b = true ∧ (s.toList == t.toList) = false) := by
      cases b
      · exact .inl rfl
      · refine .inr ⟨rfl, ?_⟩
        have hne3 : s ≠ t := fun e => hb ⟨rfl, e⟩
        cases hq : (s.toList == t.toList)
        · rfl
        · refine absurd ?_ hne3
          have := eq_of_beq hq
          rw [Lib.toList_data, Lib.toList_data] at this
          exact ByteArray.ext (Array.toList_inj.1 this)
    clear hb
    rcases hdec with rfl | ⟨rfl, q2⟩
    all_goals
      go_enter Tryd.func11, Tryd.ntmps11
      have bW : Below w.heap.size w (w.alloc (.cells #[.int .i64 0, .int .i64 0] 23)) := Gr.below (by repeat (first | exact Gr.refl _ | refine Gr.alloc ?_ _ | refine Gr.trans ?_ (by assumption) | refine Gr.drew ?_ | refine Gr.drewN ?_ _ | refine Gr.grow ?_ _ | refine Gr.setCell ?_ (by (try simp); (try omega)) _))
      go_wp2_with fail
      refine (HA.out _).mono ?_
      rintro e w1 ⟨rfl, hb1⟩
      have c1 := (bcell hb1).1
      have f1 := (bcell hb1).2
      have z1 : w.heap.size < w1.heap.size := by have hq := hb1.size; simp at hq; omega
      have b1 := bW.trans (hb1.mono bW.size)
      have HT1 := Lib.hid (HT.out.belowT b1)
      clear bW
      go_wp2_with (first | (go_at_call 26; refine (HI.out _).mono ?_; rintro e w2 ⟨rfl, rfl⟩))
      refine (HSS.out _ (HT1.out.gr (Gr.alloc (Gr.refl _) _))).mono ?_
      rintro e w3 ⟨rfl, g3⟩
      have c3 := (bcell g3.below).1
      have f3 := (bcell g3.below).2
      have z3 : w.heap.size < w3.heap.size := by have hq := g3.below.size; simp at hq; omega
      have z4 : w1.heap.size < w3.heap.size := by have hq := g3.below.size; simp at hq; omega
      have b3 : Below w.heap.size w w3 := (b1.alloc b1.size _).trans (g3.below.mono (by have := b1.size; simp; omega))
      have bb : Below (w.alloc (.cells #[.int .i64 0, .int .i64 0] 23)).heap.size (w.alloc (.cells #[.int .i64 0, .int .i64 0] 23)) w3 := (hb1.alloc hb1.size _).trans (g3.below.mono (by have hq := hb1.size; simp at hq ⊢; omega))
      have r0 : w3.cell? ⟨w.heap.size, 0, none⟩ = some (.int .i64 0) := ((bcell bb).1 w.heap.size 0 (by simp)).trans (by simp [go_sem])
      have r1 : w3.cell? ⟨w.heap.size, 1, none⟩ = some (.int .i64 0) := ((bcell bb).1 w.heap.size 1 (by simp)).trans (by simp [go_sem])
      have f0 : w3.frozen? ⟨w.heap.size, 0, none⟩ = false := ((bcell bb).2 w.heap.size 0 (by simp)).trans (by simp [go_sem])
      have f4 : w3.frozen? ⟨w.heap.size, 1, none⟩ = false := ((bcell bb).2 w.heap.size 1 (by simp)).trans (by simp [go_sem])
      clear bb
      go_wp2
      refine bodyPost_ret (v := .tuple #[.agg #[.int .i64 0, .int .i64 0], .bool false]) ?_ rfl ⟨rfl, ?_⟩
      · simp [results, Tryd.results11, go_sem, z1, z3, z4, r0, r1, f0, f4]
      · exact (b3.setCell (by simp) _).setCell (by simp) _
theorem Tryd.iParseStreet (t : ByteArray) (w : World) (hs : t.size ≤ 281474976710656) (ht : Tab w) (he : ErrVars w) :
    Calls Tryd.prog 11 #[.string t] w fun e w' => e = .returned (.tuple #[.agg #[.int .i64 (psK t.data.toList), .int .i64 (psP t.data.toList)], .bool (psB t.data.toList)]) ∧ Below w.heap.size w w' := by
  rcases Nat.eq_zero_or_pos t.size with h0 | h0
  · have e : t = ⟨#[]⟩ := by
      apply ByteArray.ext
      apply Array.eq_empty_of_size_eq_zero
      exact h0
    subst e
    exact Tryd.iParseNil w
  · by_cases h : ∃ v, Lib.atoiAll (t.data.toList.drop 1) = .ok v
    · obtain ⟨v, hv⟩ := h
      exact Tryd.iParseOk t v w hs h0 ht hv
    · have hb := ps_bad (l := t.data.toList) (fun v e => h ⟨v, e⟩)
      obtain ⟨k, p⟩ := ps_zero hb
      rw [hb, k, p]
      exact Tryd.iParseBad t w hs h0 he (fun v e => h ⟨v, e⟩)
end Go.Proofs
