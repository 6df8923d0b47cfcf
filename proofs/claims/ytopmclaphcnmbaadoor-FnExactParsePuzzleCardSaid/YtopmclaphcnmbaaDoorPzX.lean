/-
  Chapter 9: the text of puzzles (plain; the model's).
-/
import Derived.Test.YtopmclaphcnmbaaDoorPzD
import Derived.Test.YtopmclaphcnmbaaDoorNuXz
import Derived.Test.YtopmclaphcnmbaaDoorRd
import Derived.Lib.Join
namespace Go.Proofs
open Go.RowKit
set_option linter.unusedVariables false
set_option linter.unusedSimpArgs false
/-- a number's text -/
def itx (n : Int) : ByteArray := ⟨(Lib.decDigits n.toNat).toArray⟩
theorem itx_le {n : Int} (h0 : 0 ≤ n) (h1 : n ≤ 1000) : (itx n).data.toList.length ≤ 4 := by
  unfold itx
  show (Lib.decDigits n.toNat).toArray.toList.length ≤ 4
  rw [List.toList_toArray, Rd.dec_length]
  rcases (show n < 10 ∨ (10 ≤ n ∧ n < 100) ∨ (100 ≤ n ∧ n < 1000) ∨ (1000 ≤ n ∧ n < 10000) by omega) with c | c | c | c
  · rw [Lib.nDigits_small (by omega)]; omega
  · rw [Lib.nDigits_unique 1 n.toNat (by simp; omega) (by simp; omega)]; omega
  · rw [Lib.nDigits_unique 2 n.toNat (by simp; omega) (by simp; omega)]; omega
  · rw [Lib.nDigits_unique 3 n.toNat (by simp; omega) (by simp; omega)]; omega
theorem itx_sz {n : Int} (h0 : 0 ≤ n) (h1 : n ≤ 1000) : (itx n).size ≤ 4 := by
  have := itx_le h0 h1
  rw [Array.length_toList] at this
  exact this
theorem cok_bd {c : Clu} (h : cok c = true) : (0 ≤ c.1 ∧ c.1 ≤ 5) ∧ (0 ≤ c.2.1 ∧ c.2.1 ≤ 40) ∧ (0 ≤ c.2.2 ∧ c.2.2 ≤ 40) := by
  have hk := cok_kind h
  obtain ⟨x, y, z⟩ := c
  rw [cok_spans hk.1 hk.2, Bool.and_eq_true] at h
  obtain ⟨a1, a2⟩ := inn_e h.1
  obtain ⟨b1, b2⟩ := inn_e h.2
  refine ⟨hk, ?_, ?_⟩
  · unfold spA at a1 a2
    by_cases c2 : x = 2
    · simp [c2] at a1 a2; simp only; omega
    · by_cases c4 : x = 4
      · simp [c4] at a1 a2; simp only; omega
      · simp [c2, c4] at a1 a2; simp only; omega
  · simp only at hk
    unfold spB at b1 b2
    rcases (show x = 0 ∨ x = 1 ∨ x = 2 ∨ x = 3 ∨ x = 4 ∨ x = 5 by omega) with rfl | rfl | rfl | rfl | rfl | rfl <;> (simp at b1 b2; simp only; omega)
/-- a clue's text -/
def clx (c : Clu) : ByteArray := itx c.1 ++ ⟨#[46]⟩ ++ itx c.2.1 ++ ⟨#[46]⟩ ++ itx c.2.2
theorem size_one (b : UInt8) : (⟨#[b]⟩ : ByteArray).size = 1 := rfl
theorem clx_sz {c : Clu} (h : cok c = true) : (clx c).size ≤ 14 := by
  unfold clx
  obtain ⟨b0, b1, b2⟩ := cok_bd h
  have p := itx_sz (n := c.1) (by omega) (by omega)
  have q := itx_sz (n := c.2.1) (by omega) (by omega)
  have r := itx_sz (n := c.2.2) (by omega) (by omega)
  simp only [ByteArray.size_append, size_one]
  omega
/-- the texts of clues, joined -/
def jtZ (ps : List Clu) : List UInt8 := Lib.join (ps.map fun p => (clx p).data.toList) [44]
theorem jtZ_nil : jtZ [] = [] := rfl
theorem jtZ_one (p : Clu) : jtZ [p] = (clx p).data.toList := by simp [jtZ, Lib.join_one]
theorem jtZ_snoc (ps : List Clu) (p : Clu) (h : 0 < ps.length) : jtZ (ps ++ [p]) = jtZ ps ++ 44 :: (clx p).data.toList := by
  cases ps with
  | nil => simp at h
  | cons q r =>
    unfold jtZ
    simp only [List.cons_append, List.map_cons, List.map_append, List.map_nil]
    rw [Lib.join_cons, Lib.join_cons]
    simp [Lib.joinTail]
theorem take_cs {ps : List Clu} {k : Nat} (hk : k < ps.length) : ps.take (k + 1) = ps.take k ++ [ps.getD k cl0] := by
  rw [List.take_succ_eq_append_getElem hk]
  simp [List.getD, hk]
theorem jtZ_step {ps : List Clu} {k : Nat} (H : ByteArray) (hk : k < ps.length) :
    (k = 0 → H ++ (⟨(jtZ (ps.take (k + 1))).toArray⟩ : ByteArray) = H ++ clx (ps.getD k cl0)) ∧
    (0 < k → H ++ (⟨(jtZ (ps.take (k + 1))).toArray⟩ : ByteArray) = H ++ ⟨(jtZ (ps.take k)).toArray⟩ ++ ⟨#[44]⟩ ++ clx (ps.getD k cl0)) := by
  rw [take_cs hk]
  constructor
  · rintro rfl
    rw [List.take_zero, List.nil_append, jtZ_one]
  · intro h0
    rw [jtZ_snoc _ _ (by simp; omega), show (⟨(jtZ (ps.take k) ++ 44 :: (clx (ps.getD k cl0)).data.toList).toArray⟩ : ByteArray) = ⟨(jtZ (ps.take k)).toArray⟩ ++ ⟨#[44]⟩ ++ clx (ps.getD k cl0) by apply ByteArray.ext; simp]
    apply ByteArray.ext
    simp
theorem clx_len {p : Clu} (h : cok p = true) : (clx p).data.toList.length ≤ 14 := by
  have := clx_sz h
  rw [Array.length_toList]
  exact this
theorem getD_cok {ps : List Clu} (h : ps.all cok = true) (j : Nat) (hj : j < ps.length) : cok (ps.getD j cl0) = true := by
  have := List.all_eq_true.1 h _ (List.getElem_mem hj)
  simpa [List.getD, hj] using this
theorem jtZ_bd {ps : List Clu} (hg : ps.all cok = true) : ∀ k, k ≤ ps.length → (jtZ (ps.take k)).length ≤ 15 * k := by
  intro k
  induction k with
  | zero => intro _; simp [jtZ_nil]
  | succ k ih =>
    intro h
    have h5 := clx_len (getD_cok hg k (by omega))
    have := ih (by omega)
    rw [take_cs (by omega)]
    rcases Nat.eq_zero_or_pos k with rfl | h0
    · rw [List.take_zero, List.nil_append, jtZ_one]; omega
    · rw [jtZ_snoc _ _ (by simp; omega)]
      simp only [List.length_append, List.length_cons]
      omega
theorem nil_addZ (T : ByteArray) : T ++ (⟨#[]⟩ : ByteArray) = T := by apply ByteArray.ext; simp
/-- the text of a street, and the mark behind it -/
def hdZ (k p : Int) : ByteArray := kl k ++ itx p ++ ⟨#[59]⟩
theorem hdZ_sz {k p : Int} (h0 : 0 ≤ p) (h1 : p ≤ 1000) : (hdZ k p).size ≤ 6 := by
  have := itx_sz h0 h1
  have hk : (kl k).size = 1 := by unfold kl; split <;> (try split) <;> rfl
  unfold hdZ
  simp only [ByteArray.size_append, size_one, hk]
  omega
def JRelZ (H : ByteArray) (ps : List Clu) (w : World) (s i : Value) (wr : World) : Prop := ∃ k : Nat, k ≤ ps.length ∧ i = .int .i64 k ∧ s = .string (H ++ ⟨(jtZ (ps.take k)).toArray⟩) ∧ Gr w wr
set_option maxRecDepth 100000 in
set_option maxHeartbeats 1600000 in
theorem Tryd.pzText (w : World) (k p : Int) (v : Value) (ps : List Clu) (hg : pgood k p ps = true) (h : CluRow w v ps) :
    Calls Tryd.prog 23 #[pzV k p v] w fun e w' => e = .returned (.string (hdZ k p ++ ⟨(jtZ ps).toArray⟩)) ∧ Gr w w' := by
  have mixed : Tryd.prog.follows .mixedOrders = true := by kernel_rfl
  obtain ⟨hs, h6, hall⟩ := pgood_lt hg
  obtain ⟨k0, k2, p1, p20⟩ := pst_t hs
  have HT := Lib.hid (fun (W : World) => Tryd.nuText k p W k0 k2 p1 (by omega))
  have hsz := hdZ_sz (k := k) (show 0 ≤ p by omega) (show p ≤ 1000 by omega)
  have hH : hdZ k p = (kl k ++ itx p) ++ ⟨#[59]⟩ := rfl
  rw [show (kl k ++ (⟨(Lib.decDigits p.toNat).toArray⟩ : ByteArray)) = kl k ++ itx p from rfl] at HT
  have hs0 : (kl k ++ itx p).size ≤ 6 := by rw [hH, ByteArray.size_append] at hsz; omega
  generalize kl k ++ itx p = S0 at *
  have hadd0 := fun W => run_string_add (P := Tryd.prog) (w := W) S0 ⟨#[59]⟩ (by omega) (by decide)
  rw [← hH] at hadd0
  generalize hdZ k p = H at *
  obtain ⟨A, c, rfl, hlc, hcm, hc⟩ := h
  unfold maxLen at hcm
  have HC := Lib.hid hc
  have HAll := Lib.hid hall
  clear hc hall hg hs hH
  go_enter Tryd.func23, Tryd.ntmps23
  go_wp2_with (first | (go_at_call 38; refine (HT.out _).mono ?_; rintro e w1 ⟨rfl, hbW⟩; have hcW := (bcell hbW.below).1; have hfW := (bcell hbW.below).2; (try have hzW : w.heap.size < w1.heap.size := by have hq := hbW.below.size; (try simp at hq); omega); (try have hyW : w.heap.size + 1 < w1.heap.size := by have hq := hbW.below.size; (try simp at hq); omega); (try have hxW : w.heap.size + 2 < w1.heap.size := by have hq := hbW.below.size; (try simp at hq); omega)))
  have GW := Lib.hid (show Gr w w1 from (by repeat (first | exact Gr.refl _ | refine Gr.alloc ?_ _ | refine Gr.trans ?_ (by assumption) | refine Gr.drew ?_ | refine Gr.drewN ?_ _ | refine Gr.grow ?_ _ | refine Gr.setCell ?_ (by (try simp); (try omega)) _)))
  clear hbW hcW hfW hadd0
  go_loopw [3, 4, 5, 13] (fun s _ _ i wr => JRelZ H ps w1 s i wr) (fun _ _ _ i _ => (ps.length - intOf i).toNat)
  case atStart => exact ⟨0, Nat.zero_le _, rfl, by rw [List.take_zero, jtZ_nil, nil_addZ], Gr.refl _⟩
  case round =>
    obtain ⟨q, hk, rfl, rfl, gr⟩ := hrel
    have gw := GW.out.trans gr
    by_cases hlt : q < ps.length
    · rcases HC.out with e | ⟨g, o, rfl, hc⟩
      · rw [e] at hlt; simp at hlt
      have hok := getD_cok HAll.out q hlt
      obtain ⟨bd0, bd1, bd2⟩ := cok_bd hok
      obtain ⟨c0, c1, c2⟩ := hc q hlt
      have e0 := gw.keep0 c0
      have e1 := gw.keep0 c1
      have e2 := gw.keep0 c2
      have z0 : (0 : Int) ≤ (q : Int) := by omega
      have z1 : (q : Int) < (ps.length : Int) := by omega
      obtain ⟨s0, s1⟩ := jtZ_step H hlt
      have hpx : clx (ps.getD q cl0) = itx (ps.getD q cl0).1 ++ ⟨#[46]⟩ ++ itx (ps.getD q cl0).2.1 ++ ⟨#[46]⟩ ++ itx (ps.getD q cl0).2.2 := rfl
      have t1 := itx_sz (n := (ps.getD q cl0).1) (by omega) (by omega)
      have t2 := itx_sz (n := (ps.getD q cl0).2.1) (by omega) (by omega)
      have t3 := itx_sz (n := (ps.getD q cl0).2.2) (by omega) (by omega)
      have hS : (H ++ (⟨(jtZ (ps.take q)).toArray⟩ : ByteArray)).size ≤ 300 := by
        have : (⟨(jtZ (ps.take q)).toArray⟩ : ByteArray).size = (jtZ (ps.take q)).length := by simp [ByteArray.size]
        have := jtZ_bd HAll.out q hk
        rw [ByteArray.size_append]
        omega
      have H1 := Lib.hid (fun (W : World) => Tryd.l1Num (ps.getD q cl0).1 (by omega) (by omega) W)
      have H2 := Lib.hid (fun (W : World) => Tryd.l1Num (ps.getD q cl0).2.1 (by omega) (by omega) W)
      have H3 := Lib.hid (fun (W : World) => Tryd.l1Num (ps.getD q cl0).2.2 (by omega) (by omega) W)
      rw [show (⟨(Lib.decDigits (ps.getD q cl0).1.toNat).toArray⟩ : ByteArray) = itx (ps.getD q cl0).1 from rfl] at H1
      rw [show (⟨(Lib.decDigits (ps.getD q cl0).2.1.toNat).toArray⟩ : ByteArray) = itx (ps.getD q cl0).2.1 from rfl] at H2
      rw [show (⟨(Lib.decDigits (ps.getD q cl0).2.2.toNat).toArray⟩ : ByteArray) = itx (ps.getD q cl0).2.2 from rfl] at H3
      rw [hpx] at s0 s1
      have GR := Lib.hid gr
      clear gr hpx bd0 bd1 bd2 hok hc c0 c1 c2 gw
      generalize itx (ps.getD q cl0).1 = T1 at *
      generalize itx (ps.getD q cl0).2.1 = T2 at *
      generalize itx (ps.getD q cl0).2.2 = T3 at *
      generalize (ps.getD q cl0).1 = x at *
      generalize (ps.getD q cl0).2.1 = y at *
      generalize (ps.getD q cl0).2.2 = z at *
      have hadd1 := fun W => run_string_add (P := Tryd.prog) (w := W) T1 ⟨#[46]⟩ (by omega) (by decide)
      have hadd2 := fun W => run_string_add (P := Tryd.prog) (w := W) (T1 ++ ⟨#[46]⟩) T2 (by rw [ByteArray.size_append, size_one]; omega) (by omega)
      have hadd3 := fun W => run_string_add (P := Tryd.prog) (w := W) (T1 ++ ⟨#[46]⟩ ++ T2) ⟨#[46]⟩ (by simp only [ByteArray.size_append, size_one]; omega) (by decide)
      have hadd4 := fun W => run_string_add (P := Tryd.prog) (w := W) (T1 ++ ⟨#[46]⟩ ++ T2 ++ ⟨#[46]⟩) T3 (by simp only [ByteArray.size_append, size_one]; omega) (by omega)
      have hT : (T1 ++ ⟨#[46]⟩ ++ T2 ++ ⟨#[46]⟩ ++ T3).size ≤ 14 := by simp only [ByteArray.size_append, size_one]; omega
      have gb := Gr.refl (wr.alloc (.cells #[.int .i64 x, .int .i64 y, .int .i64 z] 40))
      have b0 : ∀ n os, (Go.Sort.grow ((wr.alloc (.cells #[.int .i64 x, .int .i64 y, .int .i64 z] 40)).drewN n) os).cell? ⟨wr.heap.size, 0, none⟩ = some (.int .i64 x) := gr_all gb (by simp [go_sem])
      have b1 : ∀ n os, (Go.Sort.grow ((wr.alloc (.cells #[.int .i64 x, .int .i64 y, .int .i64 z] 40)).drewN n) os).cell? ⟨wr.heap.size, 1, none⟩ = some (.int .i64 y) := gr_all gb (by simp [go_sem])
      have b2 : ∀ n os, (Go.Sort.grow ((wr.alloc (.cells #[.int .i64 x, .int .i64 y, .int .i64 z] 40)).drewN n) os).cell? ⟨wr.heap.size, 2, none⟩ = some (.int .i64 z) := gr_all gb (by simp [go_sem])
      clear gb
      rcases Nat.eq_zero_or_pos q with hk0 | hk0
      · have HE := Lib.hid (s0 hk0)
        have hS0 : H ++ (⟨(jtZ (ps.take q)).toArray⟩ : ByteArray) = H := by rw [hk0, List.take_zero, jtZ_nil, nil_addZ]
        rw [hS0]
        have hadd5 := fun W => run_string_add (P := Tryd.prog) (w := W) H (T1 ++ ⟨#[46]⟩ ++ T2 ++ ⟨#[46]⟩ ++ T3) (by omega) (by omega)
        have dk : ¬ (0 : Int) < (q : Int) := by omega
        have dk2 : decide (0 < q) = false := by simp; omega
        clear s0 s1 hS hS0 hk0
        go_wp2
        (refine wp_region_quiet_grown mixed (by kernel_rfl) ?_; (repeat (first | go_big_quiet_step ((first | (go_at_call_of 39 (Value.int .i64 x); exact Calls.grown_of (H1.out _)) | (go_at_call_of 39 (Value.int .i64 y); exact Calls.grown_of (H2.out _)) | (go_at_call_of 39 (Value.int .i64 z); exact Calls.grown_of (H3.out _)))) | quiet_step ((first | (go_at_call_of 39 (Value.int .i64 x); exact Calls.grown_of (H1.out _)) | (go_at_call_of 39 (Value.int .i64 y); exact Calls.grown_of (H2.out _)) | (go_at_call_of 39 (Value.int .i64 z); exact Calls.grown_of (H3.out _)))))); refine wpQuiet_nil ?_; intro _ hw'; obtain ⟨⟨nq, osq⟩, hw''⟩ := hw'; subst hw'')
        go_wp2
        go_roundw
        case rel => exact ⟨q + 1, by omega, by go_num, by rw [HE.out], GR.out.trans (by repeat (first | exact Gr.refl _ | refine Gr.alloc ?_ _ | refine Gr.trans ?_ (by assumption) | refine Gr.drew ?_ | refine Gr.drewN ?_ _ | refine Gr.grow ?_ _ | refine Gr.setCell ?_ (by (try simp); (try omega)) _))⟩
        case measure => simp [intOf]; omega
      · have HE := Lib.hid (s1 hk0)
        generalize (H ++ (⟨(jtZ (ps.take q)).toArray⟩ : ByteArray)) = S at *
        have hadd6 := fun W => run_string_add (P := Tryd.prog) (w := W) S ⟨#[44]⟩ (by omega) (by decide)
        have hadd5 := fun W => run_string_add (P := Tryd.prog) (w := W) (S ++ ⟨#[44]⟩) (T1 ++ ⟨#[46]⟩ ++ T2 ++ ⟨#[46]⟩ ++ T3) (by rw [ByteArray.size_append, size_one]; omega) (by omega)
        have zk : (0 : Int) < (q : Int) := by omega
        have dk : decide (0 < q) = true := by simpa using hk0
        clear s0 s1 hS
        go_wp2
        (refine wp_region_quiet_grown mixed (by kernel_rfl) ?_; (repeat (first | go_big_quiet_step ((first | (go_at_call_of 39 (Value.int .i64 x); exact Calls.grown_of (H1.out _)) | (go_at_call_of 39 (Value.int .i64 y); exact Calls.grown_of (H2.out _)) | (go_at_call_of 39 (Value.int .i64 z); exact Calls.grown_of (H3.out _)))) | quiet_step ((first | (go_at_call_of 39 (Value.int .i64 x); exact Calls.grown_of (H1.out _)) | (go_at_call_of 39 (Value.int .i64 y); exact Calls.grown_of (H2.out _)) | (go_at_call_of 39 (Value.int .i64 z); exact Calls.grown_of (H3.out _)))))); refine wpQuiet_nil ?_; intro _ hw'; obtain ⟨⟨nq, osq⟩, hw''⟩ := hw'; subst hw'')
        go_wp2
        go_roundw
        case rel => exact ⟨q + 1, by omega, by go_num, by rw [HE.out], GR.out.trans (by repeat (first | exact Gr.refl _ | refine Gr.alloc ?_ _ | refine Gr.trans ?_ (by assumption) | refine Gr.drew ?_ | refine Gr.drewN ?_ _ | refine Gr.grow ?_ _ | refine Gr.setCell ?_ (by (try simp); (try omega)) _))⟩
        case measure => simp [intOf]; omega
    · obtain rfl : q = ps.length := by omega
      rw [List.take_length]
      have GR := Lib.hid gw
      clear gr gw
      go_wp2
      go_ret
      exact ⟨rfl, GR.out⟩
/-- the text that is told -/
def txZ (k p : Int) (ps : List Clu) : ByteArray := if pgood k p ps = true then hdZ k p ++ ⟨(jtZ ps).toArray⟩ else ⟨#[]⟩
end Go.Proofs
