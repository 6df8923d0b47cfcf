/-
  Contracts of chapter 2: ParsePlate, both sides.
-/
import Derived.Test.YtcmlojidcpomjaaDoorPlY
import Derived.Lib.AtoiAllCases
import Derived.Lib.AtoiErrMem
import Derived.Lib.IndexBytes
namespace Go.Proofs
open Go.RowKit Pl
set_option linter.unusedVariables false
set_option linter.unusedSimpArgs false
def ppX (l : List UInt8) : Int := if ppB l then ppN l else 0
def ppY (l : List UInt8) : Int := if ppB l then ppL l else 0
theorem pp_zero {l : List UInt8} (h : ppB l = false) : ppX l = 0 ∧ ppY l = 0 := ⟨by simp [ppX, h], by simp [ppY, h]⟩
theorem pp_back {t : ByteArray} {v : Int} (h0 : 0 < t.size) (ht : (⟨(Lib.decDigits v.toNat).toArray⟩ : ByteArray) ++ ltr (ppL t.data.toList) = t) : bodyB t.data.toList = Lib.decDigits v.toNat := by
  have dl : t.data.toList = Lib.decDigits v.toNat ++ (ltr (ppL t.data.toList)).data.toList := by
    refine (congrArg (fun b : ByteArray => b.data.toList) ht).symm.trans ?_
    simp
  unfold bodyB
  by_cases e : lt (lastB t.data.toList) = 0
  · rw [if_pos e]
    have e2 : ppL t.data.toList = 0 := e
    rw [e2] at dl
    rw [dl]
    simp [ltr]
  · rw [if_neg e]
    have e2 : ltr (ppL t.data.toList) = ⟨#[lastB t.data.toList]⟩ := ltr_lt e
    rw [e2] at dl
    rw [dl]
    simp
theorem pp_okv {l : List UInt8} {v : Int} (h0 : 1 ≤ l.length) (ha : Lib.atoiAll (bodyB l) = .ok v) (hb : ppB l = true) : ppN l = v ∧ isP v (ppL l) = true := by
  unfold ppB at hb
  rw [Bool.and_eq_true] at hb
  obtain ⟨e, _⟩ := pp_is h0 hb.2
  obtain ⟨n1, n2, _, _⟩ := isP_t hb.2
  rw [e, Rd.atoi_dec _ (by omega)] at ha
  have hv : ((ppN l).toNat : Int) = v := by injection ha
  have : ppN l = v := by omega
  exact ⟨this, this ▸ hb.2⟩
theorem pp_bad {l : List UInt8} (h0 : 1 ≤ l.length) (h : ∀ v, Lib.atoiAll (bodyB l) ≠ .ok v) : ppB l = false := by
  cases hb : ppB l
  · rfl
  · unfold ppB at hb
    rw [Bool.and_eq_true] at hb
    obtain ⟨e, _⟩ := pp_is h0 hb.2
    obtain ⟨n1, n2, _, _⟩ := isP_t hb.2
    exact absurd (by rw [e]; exact Rd.atoi_dec _ (by omega)) (h _)
theorem pp_yes {t : ByteArray} {v : Int} (h0 : 0 < t.size) (hp : isP v (ppL t.data.toList) = true) (ht : ptV v (ppL t.data.toList) = t) : ppB t.data.toList = true ∧ ppX t.data.toList = v ∧ ppY t.data.toList = ppL t.data.toList := by
  obtain ⟨n1, n2, _, _⟩ := isP_t hp
  unfold ptV at ht
  rw [if_pos hp] at ht
  have e := pp_back h0 ht
  have hn : ppN t.data.toList = v := by unfold ppN; rw [e, Rd.rd_dec _ (by omega)]; omega
  have hlen : t.data.toList.length = t.size := by simp
  have hs : t.size ≤ 5 := by
    rw [← ht]
    have h4 : (Lib.decDigits v.toNat).length ≤ 4 := by
      rw [Rd.dec_length]
      rcases (show v < 10 ∨ (10 ≤ v ∧ v < 100) ∨ (100 ≤ v ∧ v < 1000) ∨ (1000 ≤ v ∧ v < 10000) by omega) with c | c | c | c
      · rw [Lib.nDigits_small (by omega)]; omega
      · rw [Lib.nDigits_unique 1 v.toNat (by simp; omega) (by simp; omega)]; omega
      · rw [Lib.nDigits_unique 2 v.toNat (by simp; omega) (by simp; omega)]; omega
      · rw [Lib.nDigits_unique 3 v.toNat (by simp; omega) (by simp; omega)]; omega
    have h1 : (ltr (ppL t.data.toList)).size ≤ 1 := by unfold ltr; split <;> simp [ByteArray.size]
    rw [ByteArray.size_append]
    have : (⟨(Lib.decDigits v.toNat).toArray⟩ : ByteArray).size = (Lib.decDigits v.toNat).length := by simp [ByteArray.size]
    omega
  have hb : ppB t.data.toList = true := by
    unfold ppB
    rw [hn, hp, show decide (1 ≤ t.data.toList.length ∧ t.data.toList.length ≤ 5) = true from decide_eq_true (by omega)]
    rfl
  exact ⟨hb, by simp [ppX, hb, hn], by simp [ppY, hb]⟩
theorem pp_no {t : ByteArray} {v : Int} (h0 : 0 < t.size) (ha : Lib.atoiAll (bodyB t.data.toList) = .ok v) (ho : isP v (ppL t.data.toList) = false ∨ ptV v (ppL t.data.toList) ≠ t) : ppB t.data.toList = false := by
  have hlen : t.data.toList.length = t.size := by simp
  cases hb : ppB t.data.toList
  · rfl
  · obtain ⟨e, hp⟩ := pp_okv (by omega) ha hb
    rcases ho with c | c
    · rw [hp] at c; cases c
    · refine absurd ?_ c
      unfold ptV
      rw [if_pos hp]
      unfold ppB at hb
      rw [Bool.and_eq_true] at hb
      have := (pp_is (l := t.data.toList) (by omega) hb.2).2
      rw [e, mk_data] at this
      exact this
theorem idx_sgn (c : UInt8) : (lt c ≠ 0 → Lib.indexByte sgn.data.toList c = lt c) ∧ (lt c = 0 → Lib.indexByte sgn.data.toList c ≤ 0) := by
  have h : ∀ n, n < 256 → (lt (UInt8.ofNat n) ≠ 0 → Lib.indexByte sgn.data.toList (UInt8.ofNat n) = lt (UInt8.ofNat n)) ∧ (lt (UInt8.ofNat n) = 0 → Lib.indexByte sgn.data.toList (UInt8.ofNat n) ≤ 0) := by decide +kernel
  have := h c.toNat c.toNat_lt
  simpa using this
theorem Tab.belowT {w w' : World} (h : Tab w) (hb : Below w.heap.size w w') : Tab w' := by
  have hc := Lib.TabIs.cell h Tryd.gPow 0 (by decide)
  exact var?_below hb Tryd.gPow (World.block_lt_of_cell? _ _ hc) h
def ErrVars (w : World) : Prop := (∃ tp p, w.var? Tryd.prog "strconv.ErrSyntax" = some #[.iface tp p]) ∧ ∃ tp p, w.var? Tryd.prog "strconv.ErrRange" = some #[.iface tp p]
theorem Tryd.gES : Tryd.prog.globalNamed "strconv.ErrSyntax" = some 3 := by kernel_rfl
theorem Tryd.gER : Tryd.prog.globalNamed "strconv.ErrRange" = some 4 := by kernel_rfl
theorem ErrVars.below {w w' : World} (h : ErrVars w) (hb : Below w.heap.size w w') : ErrVars w' := by
  obtain ⟨⟨tp, p, h1⟩, tp2, p2, h2⟩ := h
  have c1 := World.var?_cell Tryd.gES h1 0
  have c2 := World.var?_cell Tryd.gER h2 0
  exact ⟨⟨tp, p, var?_below hb Tryd.gES (World.block_lt_of_cell? _ _ (by simpa using c1)) h1⟩, tp2, p2, var?_below hb Tryd.gER (World.block_lt_of_cell? _ _ (by simpa using c2)) h2⟩
theorem ne_nil {t : ByteArray} (h0 : 0 < t.size) : t.toList.isEmpty = false := by
  have hl : t.toList.length = t.size := by rw [Lib.toList_data]; simp
  rw [List.isEmpty_eq_false_iff]
  intro e
  rw [e] at hl
  simp at hl
  omega
set_option maxHeartbeats 400000 in
theorem Tryd.iPPNil (w : World) :
    Calls Tryd.prog 13 #[.string ⟨#[]⟩] w fun e w' => e = .returned (.tuple #[.agg #[.int .i64 0, .int .i64 0], .bool false]) ∧ Below w.heap.size w w' := by
  go_enter Tryd.func13, Tryd.ntmps13
  go_wp2
  refine bodyPost_ret (v := .tuple #[.agg #[.int .i64 0, .int .i64 0], .bool false]) ?_ rfl ⟨rfl, ?_⟩
  · simp [results, Tryd.results13, go_sem]
  · exact Gr.below (by repeat (first | exact Gr.refl _ | refine Gr.alloc ?_ _ | refine Gr.trans ?_ (by assumption) | refine Gr.drew ?_ | refine Gr.drewN ?_ _ | refine Gr.grow ?_ _ | refine Gr.setCell ?_ (by (try simp); (try omega)) _))
set_option maxHeartbeats 800000 in
theorem Tryd.iPPBad (t : ByteArray) (w : World) (hs : t.size ≤ 281474976710656) (h0 : 0 < t.size) (he : ErrVars w) (h : ∀ v, Lib.atoiAll (bodyB t.data.toList) ≠ .ok v) :
    Calls Tryd.prog 13 #[.string t] w fun e w' => e = .returned (.tuple #[.agg #[.int .i64 0, .int .i64 0], .bool false]) ∧ Below w.heap.size w w' := by
  have hA : ∀ (D : ByteArray) (W : World), D.data.toList = bodyB t.data.toList → D.size ≤ 281474976710656 → ErrVars W → Calls Tryd.prog 23 #[.string D] W fun e w' => ∃ N x, e = .returned (.tuple #[.int .i64 x, .iface 64 (.pointer (some ⟨N, 0, none⟩))]) ∧ Below W.heap.size W w' := by
    intro D W hD hz hW
    obtain ⟨⟨tp, p, h1⟩, tp2, p2, h2⟩ := hW
    cases ha : Lib.atoiAll (bodyB t.data.toList)
    · rename_i v
      exact absurd ha (h v)
    · exact (Any.strconv_Atoi_syntax_var Tryd.laysC172 D (by omega) (by rw [hD]; exact ha) tp p W h1).mono fun _ _ ⟨N, e, _, _, hb⟩ => ⟨N, _, e, hb⟩
    · exact (Any.strconv_Atoi_range_var Tryd.laysC172 D (by omega) (by rw [hD]; exact ha) tp2 p2 W h2).mono fun _ _ ⟨N, e, _, _, hb⟩ => ⟨N, _, e, hb⟩
  have hI : ∀ W : World, Calls Tryd.prog 22 #[.string sgn, .int .u8 (t[t.size - 1].toNat : Int)] W fun e w' => e = .returned (.int .i64 (Lib.indexByte sgn.data.toList t[t.size - 1])) ∧ W = w' := by
    intro W
    have q := Tryd.strings_IndexByte sgn (t[t.size - 1].toNat : Int) W
    rw [show ((t[t.size - 1].toNat : Int).toNat.toUInt8) = t[t.size - 1] by simp] at q
    exact q.mono fun _ _ ⟨a, b⟩ => ⟨a, b.symm⟩
  unfold sgn at hI
  have HI := Lib.hid hI
  have HE := Lib.hid he
  have hz1 : (1 : Int) ≤ (t.size : Int) := by omega
  have hne := ne_nil h0
  have wi : (t.size : Int) - 1 = ((t.size - 1 : Nat) : Int) := by omega
  have zi : ((t.size - 1 : Nat) : Int) < (t.size : Int) := by omega
  have hc := last_is t h0
  obtain ⟨i1, i2⟩ := idx_sgn t[t.size - 1]
  unfold sgn at i1 i2
  by_cases e : lt (lastB t.data.toList) = 0
  · have HA := Lib.hid (fun (W : World) (hW : ErrVars W) => hA t W (by unfold bodyB; rw [if_pos e]) (hs) hW)
    rw [hc] at e
    have hi := i2 e
    have hp : ¬ (0 < Lib.indexByte (⟨#[45, 97, 98, 99, 100, 101, 102, 103, 104, 105, 106, 107, 108, 109, 110, 111, 112, 113, 114, 115, 116, 117, 118, 119, 120, 121, 122]⟩ : ByteArray).data.toList t[t.size - 1]) := by omega
    clear hi i1 i2 e hc hA hI he h
    generalize Lib.indexByte (⟨#[45, 97, 98, 99, 100, 101, 102, 103, 104, 105, 106, 107, 108, 109, 110, 111, 112, 113, 114, 115, 116, 117, 118, 119, 120, 121, 122]⟩ : ByteArray).data.toList t[t.size - 1] = i at *
    go_enter Tryd.func13, Tryd.ntmps13
    go_wp2_with (first | (go_at_call 22; refine (HI.out _).mono ?_; rintro e w2 ⟨rfl, rfl⟩))
    have bW : Below w.heap.size w (w.alloc (.cells #[.int .i64 0, .int .i64 0] 31)) := Gr.below (by repeat (first | exact Gr.refl _ | refine Gr.alloc ?_ _ | refine Gr.trans ?_ (by assumption) | refine Gr.drew ?_ | refine Gr.drewN ?_ _ | refine Gr.grow ?_ _ | refine Gr.setCell ?_ (by (try simp); (try omega)) _))
    refine (HA.out _ (HE.out.below bW)).mono ?_
    rintro e w1 ⟨N, x, rfl, hb1⟩
    have c1 := (bcell hb1).1
    have f1 := (bcell hb1).2
    have z1 : w.heap.size < w1.heap.size := by (have hq := hb1.size; simp at hq; omega)
    have b1 := bW.trans (hb1.mono bW.size)
    clear bW
    go_wp2
    refine bodyPost_ret (v := .tuple #[.agg #[.int .i64 0, .int .i64 0], .bool false]) ?_ rfl ⟨rfl, ?_⟩
    · simp [results, Tryd.results13, go_sem, c1, f1, z1]
    · exact (b1.setCell (by simp) _).setCell (by simp) _
  · have HA := Lib.hid (fun (W : World) (hW : ErrVars W) => hA (t.extract 0 (t.size - 1)) W (body_cut t h0 e) (by rw [ByteArray.size_extract]; omega) hW)
    rw [hc] at e
    have hi := i1 e
    have hp : 0 < Lib.indexByte (⟨#[45, 97, 98, 99, 100, 101, 102, 103, 104, 105, 106, 107, 108, 109, 110, 111, 112, 113, 114, 115, 116, 117, 118, 119, 120, 121, 122]⟩ : ByteArray).data.toList t[t.size - 1] := by rw [hi]; have := lt_bd t[t.size - 1]; omega
    clear hi i1 i2 e hc hA hI he h
    generalize Lib.indexByte (⟨#[45, 97, 98, 99, 100, 101, 102, 103, 104, 105, 106, 107, 108, 109, 110, 111, 112, 113, 114, 115, 116, 117, 118, 119, 120, 121, 122]⟩ : ByteArray).data.toList t[t.size - 1] = i at *
    go_enter Tryd.func13, Tryd.ntmps13
    go_wp2_with (first | (go_at_call 22; refine (HI.out _).mono ?_; rintro e w2 ⟨rfl, rfl⟩))
    have bW : Below w.heap.size w (w.alloc (.cells #[.int .i64 0, .int .i64 0] 31)) := Gr.below (by repeat (first | exact Gr.refl _ | refine Gr.alloc ?_ _ | refine Gr.trans ?_ (by assumption) | refine Gr.drew ?_ | refine Gr.drewN ?_ _ | refine Gr.grow ?_ _ | refine Gr.setCell ?_ (by (try simp); (try omega)) _))
    refine (HA.out _ (HE.out.below bW)).mono ?_
    rintro e w1 ⟨N, x, rfl, hb1⟩
    have c1 := (bcell hb1).1
    have f1 := (bcell hb1).2
    have z1 : w.heap.size < w1.heap.size := by (have hq := hb1.size; simp at hq; omega)
    have b1 := bW.trans (hb1.mono bW.size)
    clear bW
    go_wp2
    refine bodyPost_ret (v := .tuple #[.agg #[.int .i64 0, .int .i64 0], .bool false]) ?_ rfl ⟨rfl, ?_⟩
    · simp [results, Tryd.results13, go_sem, c1, f1, z1]
    · exact (b1.setCell (by simp) _).setCell (by simp) _
set_option maxRecDepth 100000 in
set_option maxHeartbeats 1600000 in
theorem Tryd.iPPOk (t : ByteArray) (v : Int) (w : World) (hs : t.size ≤ 281474976710656) (h0 : 0 < t.size) (ht : Tab w) (h : Lib.atoiAll (bodyB t.data.toList) = .ok v) :
    Calls Tryd.prog 13 #[.string t] w fun e w' => e = .returned (.tuple #[.agg #[.int .i64 (ppX t.data.toList), .int .i64 (ppY t.data.toList)], .bool (ppB t.data.toList)]) ∧ Below w.heap.size w w' := by
  have hA : ∀ (D : ByteArray) (W : World), D.data.toList = bodyB t.data.toList → D.size ≤ 281474976710656 → Calls Tryd.prog 23 #[.string D] W fun e w' => e = .returned (.tuple #[.int .i64 v, .nilIface]) ∧ Below W.heap.size W w' := by
    intro D W hD hz
    refine (Tryd.strconv_Atoi_ok D (by omega) v (by rw [hD]; exact h) W).mono ?_
    rintro e w' ⟨rfl, rfl | ⟨s, rfl⟩⟩
    · exact ⟨rfl, Below.refl _ _⟩
    · exact ⟨rfl, Lib.bytesWorld_below _ _ _⟩
  have hI : ∀ W : World, Calls Tryd.prog 22 #[.string sgn, .int .u8 (t[t.size - 1].toNat : Int)] W fun e w' => e = .returned (.int .i64 (Lib.indexByte sgn.data.toList t[t.size - 1])) ∧ W = w' := by
    intro W
    have q := Tryd.strings_IndexByte sgn (t[t.size - 1].toNat : Int) W
    rw [show ((t[t.size - 1].toNat : Int).toNat.toUInt8) = t[t.size - 1] by simp] at q
    exact q.mono fun _ _ ⟨a, b⟩ => ⟨a, b.symm⟩
  unfold sgn at hI
  have HI := Lib.hid hI
  have HT := Lib.hid ht
  have hz1 : (1 : Int) ≤ (t.size : Int) := by omega
  have hne := ne_nil h0
  have wi : (t.size : Int) - 1 = ((t.size - 1 : Nat) : Int) := by omega
  have zi : ((t.size - 1 : Nat) : Int) < (t.size : Int) := by omega
  have hc := last_is t h0
  obtain ⟨i1, i2⟩ := idx_sgn t[t.size - 1]
  unfold sgn at i1 i2
  have HY := Lib.hid (fun hp hq => pp_yes (t := t) (v := v) h0 hp hq)
  have HN := Lib.hid (fun ho => pp_no (t := t) (v := v) h0 h ho)
  have HZ := Lib.hid (fun h => pp_zero (l := t.data.toList) h)
  have hS := fun (w : World) => Tryd.iPlateText v (ppL t.data.toList) w
  have eL : ppL t.data.toList = lt (lastB t.data.toList) := rfl
  by_cases e : lt (lastB t.data.toList) = 0
  · have HA := Lib.hid (fun (W : World) => hA t W (by unfold bodyB; rw [if_pos e]) (hs))
    rw [e] at eL
    rw [hc] at e
    have hi := i2 e
    have hp : ¬ (0 < Lib.indexByte (⟨#[45, 97, 98, 99, 100, 101, 102, 103, 104, 105, 106, 107, 108, 109, 110, 111, 112, 113, 114, 115, 116, 117, 118, 119, 120, 121, 122]⟩ : ByteArray).data.toList t[t.size - 1]) := by omega
    skip
    rw [eL] at HY HN hS
    generalize Lib.indexByte (⟨#[45, 97, 98, 99, 100, 101, 102, 103, 104, 105, 106, 107, 108, 109, 110, 111, 112, 113, 114, 115, 116, 117, 118, 119, 120, 121, 122]⟩ : ByteArray).data.toList t[t.size - 1] = i at *
    clear hi i1 i2 e hc hA hI ht h eL
    generalize ptV v 0 = s at *
    generalize isP v 0 = g at *
    generalize ppX t.data.toList = X at *
    generalize ppY t.data.toList = Y at *
    generalize ppB t.data.toList = B at *
    have HSS := Lib.hid hS
    clear hS
    by_cases hb : g = true ∧ s = t
    · obtain ⟨rfl, rfl⟩ := hb
      obtain ⟨rfl, rfl, rfl⟩ := HY.out rfl rfl
      go_enter Tryd.func13, Tryd.ntmps13
      go_wp2_with (first | (go_at_call 22; refine (HI.out _).mono ?_; rintro e w2 ⟨rfl, rfl⟩))
      have bW : Below w.heap.size w (w.alloc (.cells #[.int .i64 0, .int .i64 0] 31)) := Gr.below (by repeat (first | exact Gr.refl _ | refine Gr.alloc ?_ _ | refine Gr.trans ?_ (by assumption) | refine Gr.drew ?_ | refine Gr.drewN ?_ _ | refine Gr.grow ?_ _ | refine Gr.setCell ?_ (by (try simp); (try omega)) _))
      refine (HA.out _).mono ?_
      rintro e w1 ⟨rfl, hb1⟩
      have c1 := (bcell hb1).1
      have f1 := (bcell hb1).2
      have z1 : w.heap.size < w1.heap.size := by (have hq := hb1.size; simp at hq; omega)
      have b1 := bW.trans (hb1.mono bW.size)
      have HT1 := Lib.hid (HT.out.belowT b1)
      clear bW
      go_wp2_with fail
      refine (HSS.out _ (HT1.out.gr (Gr.alloc (Gr.refl _) _))).mono ?_
      rintro e w3 ⟨rfl, g3⟩
      have c3 := (bcell g3.below).1
      have f3 := (bcell g3.below).2
      have z3 : w.heap.size < w3.heap.size := by (have hq := g3.below.size; simp at hq; omega)
      have z4 : w1.heap.size < w3.heap.size := by (have hq := g3.below.size; simp at hq; omega)
      have b3 : Below w.heap.size w w3 := (b1.alloc b1.size _).trans (g3.below.mono (by have := b1.size; simp; omega))
      have bb : Below (w.alloc (.cells #[.int .i64 0, .int .i64 0] 31)).heap.size (w.alloc (.cells #[.int .i64 0, .int .i64 0] 31)) w3 := (hb1.alloc hb1.size _).trans (g3.below.mono (by have hq := hb1.size; simp at hq ⊢; omega))
      have r0 : w3.cell? ⟨w.heap.size, 0, none⟩ = some (.int .i64 0) := ((bcell bb).1 w.heap.size 0 (by simp)).trans (by simp [go_sem])
      have r1 : w3.cell? ⟨w.heap.size, 1, none⟩ = some (.int .i64 0) := ((bcell bb).1 w.heap.size 1 (by simp)).trans (by simp [go_sem])
      have f0 : w3.frozen? ⟨w.heap.size, 0, none⟩ = false := ((bcell bb).2 w.heap.size 0 (by simp)).trans (by simp [go_sem])
      have f4 : w3.frozen? ⟨w.heap.size, 1, none⟩ = false := ((bcell bb).2 w.heap.size 1 (by simp)).trans (by simp [go_sem])
      clear bb
      go_wp2
      refine bodyPost_ret (v := .tuple #[.agg #[.int .i64 X, .int .i64 0], .bool true]) ?_ rfl ⟨rfl, ?_⟩
      · simp [results, Tryd.results13, go_sem, z1, z3, z4, r0, r1, f0, f4]
      · exact (b3.setCell (by simp) _).setCell (by simp) _
    · have hB := HN.out (by
        cases g
        · exact .inl rfl
        · exact .inr (fun e => hb ⟨rfl, e⟩))
      obtain ⟨rfl, rfl⟩ := HZ.out hB
      subst hB
      have hdec : g = false ∨ (g = true ∧ (s.toList == t.toList) = false) := by
        cases g
        · exact .inl rfl
        · refine .inr ⟨rfl, ?_⟩
          have hne3 : s ≠ t := fun e => hb ⟨rfl, e⟩
          cases hq : (s.toList == t.toList)
          · rfl
          · refine absurd ?_ hne3
            have := eq_of_beq hq
            rw [Lib.toList_data, Lib.toList_data] at this
            exact ByteArray.ext (Array.toList_inj.1 this)
      clear hb
      rcases hdec with rfl | ⟨rfl, q2⟩
      all_goals
        go_enter Tryd.func13, Tryd.ntmps13
        go_wp2_with (first | (go_at_call 22; refine (HI.out _).mono ?_; rintro e w2 ⟨rfl, rfl⟩))
        have bW : Below w.heap.size w (w.alloc (.cells #[.int .i64 0, .int .i64 0] 31)) := Gr.below (by repeat (first | exact Gr.refl _ | refine Gr.alloc ?_ _ | refine Gr.trans ?_ (by assumption) | refine Gr.drew ?_ | refine Gr.drewN ?_ _ | refine Gr.grow ?_ _ | refine Gr.setCell ?_ (by (try simp); (try omega)) _))
        refine (HA.out _).mono ?_
        rintro e w1 ⟨rfl, hb1⟩
        have c1 := (bcell hb1).1
        have f1 := (bcell hb1).2
        have z1 : w.heap.size < w1.heap.size := by (have hq := hb1.size; simp at hq; omega)
        have b1 := bW.trans (hb1.mono bW.size)
        have HT1 := Lib.hid (HT.out.belowT b1)
        clear bW
        go_wp2_with fail
        refine (HSS.out _ (HT1.out.gr (Gr.alloc (Gr.refl _) _))).mono ?_
        rintro e w3 ⟨rfl, g3⟩
        have c3 := (bcell g3.below).1
        have f3 := (bcell g3.below).2
        have z3 : w.heap.size < w3.heap.size := by (have hq := g3.below.size; simp at hq; omega)
        have z4 : w1.heap.size < w3.heap.size := by (have hq := g3.below.size; simp at hq; omega)
        have b3 : Below w.heap.size w w3 := (b1.alloc b1.size _).trans (g3.below.mono (by have := b1.size; simp; omega))
        have bb : Below (w.alloc (.cells #[.int .i64 0, .int .i64 0] 31)).heap.size (w.alloc (.cells #[.int .i64 0, .int .i64 0] 31)) w3 := (hb1.alloc hb1.size _).trans (g3.below.mono (by have hq := hb1.size; simp at hq ⊢; omega))
        have r0 : w3.cell? ⟨w.heap.size, 0, none⟩ = some (.int .i64 0) := ((bcell bb).1 w.heap.size 0 (by simp)).trans (by simp [go_sem])
        have r1 : w3.cell? ⟨w.heap.size, 1, none⟩ = some (.int .i64 0) := ((bcell bb).1 w.heap.size 1 (by simp)).trans (by simp [go_sem])
        have f0 : w3.frozen? ⟨w.heap.size, 0, none⟩ = false := ((bcell bb).2 w.heap.size 0 (by simp)).trans (by simp [go_sem])
        have f4 : w3.frozen? ⟨w.heap.size, 1, none⟩ = false := ((bcell bb).2 w.heap.size 1 (by simp)).trans (by simp [go_sem])
        clear bb
        go_wp2
        refine bodyPost_ret (v := .tuple #[.agg #[.int .i64 0, .int .i64 0], .bool false]) ?_ rfl ⟨rfl, ?_⟩
        · simp [results, Tryd.results13, go_sem, z1, z3, z4, r0, r1, f0, f4]
        · exact (b3.setCell (by simp) _).setCell (by simp) _
  · have HA := Lib.hid (fun (W : World) => hA (t.extract 0 (t.size - 1)) W (body_cut t h0 e) (by rw [ByteArray.size_extract]; omega))
    rw [hc] at e eL
    skip
    have hi := i1 e
    have hp : 0 < lt t[t.size - 1] := by have := lt_bd t[t.size - 1]; omega
    rw [hi] at HI
    rw [eL] at HY HN hS
    generalize lt t[t.size - 1] = i at *
    clear hi i1 i2 e hc hA hI ht h eL
    generalize ptV v i = s at *
    generalize isP v i = g at *
    generalize ppX t.data.toList = X at *
    generalize ppY t.data.toList = Y at *
    generalize ppB t.data.toList = B at *
    have HSS := Lib.hid hS
    clear hS
    by_cases hb : g = true ∧ s = t
    · obtain ⟨rfl, rfl⟩ := hb
      obtain ⟨rfl, rfl, rfl⟩ := HY.out rfl rfl
      go_enter Tryd.func13, Tryd.ntmps13
      go_wp2_with (first | (go_at_call 22; refine (HI.out _).mono ?_; rintro e w2 ⟨rfl, rfl⟩))
      have bW : Below w.heap.size w (w.alloc (.cells #[.int .i64 0, .int .i64 0] 31)) := Gr.below (by repeat (first | exact Gr.refl _ | refine Gr.alloc ?_ _ | refine Gr.trans ?_ (by assumption) | refine Gr.drew ?_ | refine Gr.drewN ?_ _ | refine Gr.grow ?_ _ | refine Gr.setCell ?_ (by (try simp); (try omega)) _))
      refine (HA.out _).mono ?_
      rintro e w1 ⟨rfl, hb1⟩
      have c1 := (bcell hb1).1
      have f1 := (bcell hb1).2
      have z1 : w.heap.size < w1.heap.size := by (have hq := hb1.size; simp at hq; omega)
      have b1 := bW.trans (hb1.mono bW.size)
      have HT1 := Lib.hid (HT.out.belowT b1)
      clear bW
      go_wp2_with fail
      refine (HSS.out _ (HT1.out.gr (Gr.alloc (Gr.refl _) _))).mono ?_
      rintro e w3 ⟨rfl, g3⟩
      have c3 := (bcell g3.below).1
      have f3 := (bcell g3.below).2
      have z3 : w.heap.size < w3.heap.size := by (have hq := g3.below.size; simp at hq; omega)
      have z4 : w1.heap.size < w3.heap.size := by (have hq := g3.below.size; simp at hq; omega)
      have b3 : Below w.heap.size w w3 := (b1.alloc b1.size _).trans (g3.below.mono (by have := b1.size; simp; omega))
      have bb : Below (w.alloc (.cells #[.int .i64 0, .int .i64 0] 31)).heap.size (w.alloc (.cells #[.int .i64 0, .int .i64 0] 31)) w3 := (hb1.alloc hb1.size _).trans (g3.below.mono (by have hq := hb1.size; simp at hq ⊢; omega))
      have r0 : w3.cell? ⟨w.heap.size, 0, none⟩ = some (.int .i64 0) := ((bcell bb).1 w.heap.size 0 (by simp)).trans (by simp [go_sem])
      have r1 : w3.cell? ⟨w.heap.size, 1, none⟩ = some (.int .i64 0) := ((bcell bb).1 w.heap.size 1 (by simp)).trans (by simp [go_sem])
      have f0 : w3.frozen? ⟨w.heap.size, 0, none⟩ = false := ((bcell bb).2 w.heap.size 0 (by simp)).trans (by simp [go_sem])
      have f4 : w3.frozen? ⟨w.heap.size, 1, none⟩ = false := ((bcell bb).2 w.heap.size 1 (by simp)).trans (by simp [go_sem])
      clear bb
      go_wp2
      refine bodyPost_ret (v := .tuple #[.agg #[.int .i64 X, .int .i64 Y], .bool true]) ?_ rfl ⟨rfl, ?_⟩
      · simp [results, Tryd.results13, go_sem, z1, z3, z4, r0, r1, f0, f4]
      · exact (b3.setCell (by simp) _).setCell (by simp) _
    · have hB := HN.out (by
        cases g
        · exact .inl rfl
        · exact .inr (fun e => hb ⟨rfl, e⟩))
      obtain ⟨rfl, rfl⟩ := HZ.out hB
      subst hB
      have hdec : g = false ∨ (g = true ∧ (s.toList == t.toList) = false) := by
        cases g
        · exact .inl rfl
        · refine .inr ⟨rfl, ?_⟩
          have hne3 : s ≠ t := fun e => hb ⟨rfl, e⟩
          cases hq : (s.toList == t.toList)
          · rfl
          · refine absurd ?_ hne3
            have := eq_of_beq hq
            rw [Lib.toList_data, Lib.toList_data] at this
            exact ByteArray.ext (Array.toList_inj.1 this)
      clear hb
      rcases hdec with rfl | ⟨rfl, q2⟩
      all_goals
        go_enter Tryd.func13, Tryd.ntmps13
        go_wp2_with (first | (go_at_call 22; refine (HI.out _).mono ?_; rintro e w2 ⟨rfl, rfl⟩))
        have bW : Below w.heap.size w (w.alloc (.cells #[.int .i64 0, .int .i64 0] 31)) := Gr.below (by repeat (first | exact Gr.refl _ | refine Gr.alloc ?_ _ | refine Gr.trans ?_ (by assumption) | refine Gr.drew ?_ | refine Gr.drewN ?_ _ | refine Gr.grow ?_ _ | refine Gr.setCell ?_ (by (try simp); (try omega)) _))
        refine (HA.out _).mono ?_
        rintro e w1 ⟨rfl, hb1⟩
        have c1 := (bcell hb1).1
        have f1 := (bcell hb1).2
        have z1 : w.heap.size < w1.heap.size := by (have hq := hb1.size; simp at hq; omega)
        have b1 := bW.trans (hb1.mono bW.size)
        have HT1 := Lib.hid (HT.out.belowT b1)
        clear bW
        go_wp2_with fail
        refine (HSS.out _ (HT1.out.gr (Gr.alloc (Gr.refl _) _))).mono ?_
        rintro e w3 ⟨rfl, g3⟩
        have c3 := (bcell g3.below).1
        have f3 := (bcell g3.below).2
        have z3 : w.heap.size < w3.heap.size := by (have hq := g3.below.size; simp at hq; omega)
        have z4 : w1.heap.size < w3.heap.size := by (have hq := g3.below.size; simp at hq; omega)
        have b3 : Below w.heap.size w w3 := (b1.alloc b1.size _).trans (g3.below.mono (by have := b1.size; simp; omega))
        have bb : Below (w.alloc (.cells #[.int .i64 0, .int .i64 0] 31)).heap.size (w.alloc (.cells #[.int .i64 0, .int .i64 0] 31)) w3 := (hb1.alloc hb1.size _).trans (g3.below.mono (by have hq := hb1.size; simp at hq ⊢; omega))
        have r0 : w3.cell? ⟨w.heap.size, 0, none⟩ = some (.int .i64 0) := ((bcell bb).1 w.heap.size 0 (by simp)).trans (by simp [go_sem])
        have r1 : w3.cell? ⟨w.heap.size, 1, none⟩ = some (.int .i64 0) := ((bcell bb).1 w.heap.size 1 (by simp)).trans (by simp [go_sem])
        have f0 : w3.frozen? ⟨w.heap.size, 0, none⟩ = false := ((bcell bb).2 w.heap.size 0 (by simp)).trans (by simp [go_sem])
        have f4 : w3.frozen? ⟨w.heap.size, 1, none⟩ = false := ((bcell bb).2 w.heap.size 1 (by simp)).trans (by simp [go_sem])
        clear bb
        go_wp2
        refine bodyPost_ret (v := .tuple #[.agg #[.int .i64 0, .int .i64 0], .bool false]) ?_ rfl ⟨rfl, ?_⟩
        · simp [results, Tryd.results13, go_sem, z1, z3, z4, r0, r1, f0, f4]
        · exact (b3.setCell (by simp) _).setCell (by simp) _
theorem Tryd.iParsePlate (t : ByteArray) (w : World) (hs : t.size ≤ 281474976710656) (ht : Tab w) (he : ErrVars w) :
    Calls Tryd.prog 13 #[.string t] w fun e w' => e = .returned (.tuple #[.agg #[.int .i64 (ppX t.data.toList), .int .i64 (ppY t.data.toList)], .bool (ppB t.data.toList)]) ∧ Below w.heap.size w w' := by
  rcases Nat.eq_zero_or_pos t.size with h0 | h0
  · obtain rfl : t = ⟨#[]⟩ := by
      apply ByteArray.ext
      apply Array.eq_empty_of_size_eq_zero
      exact h0
    have hB : ppB ([] : List UInt8) = false := by decide
    obtain ⟨a, b⟩ := pp_zero hB
    show Calls _ _ _ _ fun e w' => e = .returned (.tuple #[.agg #[.int .i64 (ppX []), .int .i64 (ppY [])], .bool (ppB [])]) ∧ _
    rw [hB, a, b]
    exact Tryd.iPPNil w
  · have hlen : t.data.toList.length = t.size := by simp
    by_cases h : ∃ v, Lib.atoiAll (bodyB t.data.toList) = .ok v
    · obtain ⟨v, h⟩ := h
      exact Tryd.iPPOk t v w hs h0 ht h
    · have hbad : ∀ v, Lib.atoiAll (bodyB t.data.toList) ≠ .ok v := fun v hv => h ⟨v, hv⟩
      have hB := pp_bad (by omega) hbad
      obtain ⟨a, b⟩ := pp_zero hB
      rw [hB, a, b]
      exact Tryd.iPPBad t w hs h0 he hbad
end Go.Proofs
