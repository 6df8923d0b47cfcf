/-
  Chapter 8: the text of parcels (plain; the model's).
-/
import Derived.Test.YtjocipddffillaaDoorBgB
import Derived.Test.YtjocipddffillaaDoorDec
import Derived.Test.YtjocipddffillaaDoorRd
import Derived.Lib.Join
namespace Go.Proofs
open Go.RowKit
set_option linter.unusedVariables false
set_option linter.unusedSimpArgs false
/-- a number's text -/
def itx (n : Int) : ByteArray := ⟨(Lib.decDigits n.toNat).toArray⟩
theorem itx_le {n : Int} (h0 : 0 ≤ n) (h1 : n ≤ 1000) : (itx n).data.toList.length ≤ 4 := by
  unfold itx
  show (Lib.decDigits n.toNat).toArray.toList.length ≤ 4
  rw [List.toList_toArray, Rd.dec_length]
  rcases (show n < 10 ∨ (10 ≤ n ∧ n < 100) ∨ (100 ≤ n ∧ n < 1000) ∨ (1000 ≤ n ∧ n < 10000) by omega) with c | c | c | c
  · rw [Lib.nDigits_small (by omega)]; omega
  · rw [Lib.nDigits_unique 1 n.toNat (by simp; omega) (by simp; omega)]; omega
  · rw [Lib.nDigits_unique 2 n.toNat (by simp; omega) (by simp; omega)]; omega
  · rw [Lib.nDigits_unique 3 n.toNat (by simp; omega) (by simp; omega)]; omega
theorem itx_sz {n : Int} (h0 : 0 ≤ n) (h1 : n ≤ 1000) : (itx n).size ≤ 4 := by
  have := itx_le h0 h1
  rw [Array.length_toList] at this
  exact this
/-- a parcel's text -/
def pax (p : Pi2) : ByteArray := itx p.1 ++ ⟨#[42]⟩ ++ itx p.2
theorem size_one (b : UInt8) : (⟨#[b]⟩ : ByteArray).size = 1 := rfl
theorem pax_sz {p : Pi2} (h : ParB p) : (pax p).size ≤ 9 := by
  unfold pax
  have a := itx_sz (n := p.1) (by have := h.1; omega) (by have := h.1; omega)
  have b := itx_sz (n := p.2) (by have := h.2; omega) (by have := h.2; omega)
  rw [ByteArray.size_append, ByteArray.size_append, size_one]
  omega
/-- the texts of parcels, joined -/
def jtB (ps : List Pi2) : List UInt8 := Lib.join (ps.map fun p => (pax p).data.toList) [44]
theorem jtB_nil : jtB [] = [] := rfl
theorem jtB_one (p : Pi2) : jtB [p] = (pax p).data.toList := by simp [jtB, Lib.join_one]
theorem jtB_snoc (ps : List Pi2) (p : Pi2) (h : 0 < ps.length) : jtB (ps ++ [p]) = jtB ps ++ 44 :: (pax p).data.toList := by
  cases ps with
  | nil => simp at h
  | cons q r =>
    unfold jtB
    simp only [List.cons_append, List.map_cons, List.map_append, List.map_nil]
    rw [Lib.join_cons, Lib.join_cons]
    simp [Lib.joinTail]
theorem take_ps {ps : List Pi2} {k : Nat} (hk : k < ps.length) : ps.take (k + 1) = ps.take k ++ [ps.getD k (0, 0)] := by
  rw [List.take_succ_eq_append_getElem hk]
  simp [List.getD, hk]
theorem jtB_step {ps : List Pi2} {k : Nat} (hk : k < ps.length) :
    (k = 0 → (⟨(jtB (ps.take (k + 1))).toArray⟩ : ByteArray) = pax (ps.getD k (0, 0))) ∧
    (0 < k → (⟨(jtB (ps.take (k + 1))).toArray⟩ : ByteArray) = ⟨(jtB (ps.take k)).toArray⟩ ++ ⟨#[44]⟩ ++ pax (ps.getD k (0, 0))) := by
  rw [take_ps hk]
  constructor
  · rintro rfl
    rw [List.take_zero, List.nil_append, jtB_one]
  · intro h0
    rw [jtB_snoc _ _ (by simp; omega)]
    apply ByteArray.ext
    simp
theorem pax_len {p : Pi2} (h : ParB p) : (pax p).data.toList.length ≤ 9 := by
  have := pax_sz h
  rw [Array.length_toList]
  exact this
theorem jtB_bd {ps : List Pi2} (hg : ∀ j, j < ps.length → ParB (ps.getD j (0, 0))) : ∀ k, k ≤ ps.length → (jtB (ps.take k)).length ≤ 10 * k := by
  intro k
  induction k with
  | zero => intro _; simp [jtB_nil]
  | succ k ih =>
    intro h
    have h5 := pax_len (hg k (by omega))
    have := ih (by omega)
    rw [take_ps (by omega)]
    rcases Nat.eq_zero_or_pos k with rfl | h0
    · rw [List.take_zero, List.nil_append, jtB_one]; omega
    · rw [jtB_snoc _ _ (by simp; omega)]
      simp only [List.length_append, List.length_cons]
      omega
theorem nil_addB (T : ByteArray) : (⟨#[]⟩ : ByteArray) ++ T = T := by apply ByteArray.ext; simp
theorem add_as (a b c : ByteArray) : a ++ b ++ c = a ++ (b ++ c) := by apply ByteArray.ext; simp
def JRelB (ps : List Pi2) (w : World) (s i : Value) (wr : World) : Prop := ∃ k : Nat, k ≤ ps.length ∧ i = .int .i64 k ∧ s = .string ⟨(jtB (ps.take k)).toArray⟩ ∧ Gr w wr
set_option maxRecDepth 100000 in
set_option maxHeartbeats 1600000 in
theorem Tryd.bgText (w : World) (B : Nat) (v : Value) (ps : List Pi2) (hg : GoodB ps) (h : OwnP 37 w B v ps) :
    Calls Tryd.prog 15 #[v] w fun e w' => e = .returned (.string ⟨(jtB ps).toArray⟩) ∧ Gr w w' := by
  have mixed : Tryd.prog.follows .mixedOrders = true := by kernel_rfl
  have hl8 := hg.1
  rcases h.view with ⟨rfl, _⟩ | ⟨hpos, g, c, rfl, _, _, _, _, hc, _⟩
  · simp at hl8
  · have HC := Lib.hid hc
    have HGD := Lib.hid hg
    clear h hc hg
    go_enter Tryd.func15, Tryd.ntmps15
    go_wp2
    go_loopw [3, 4, 5, 8] (fun s _ _ i wr => JRelB ps w s i wr) (fun _ _ _ i _ => (ps.length - intOf i).toNat)
    case atStart => exact ⟨0, Nat.zero_le _, rfl, rfl, Gr.refl _⟩
    case round =>
      obtain ⟨k, hk, rfl, rfl, gr⟩ := hrel
      by_cases hlt : k < ps.length
      · have bd := HGD.out.2 k hlt
        have e0 := gr.keep0 (HC.out k hlt).1
        have e1 := gr.keep0 (HC.out k hlt).2
        have z0 : (0 : Int) ≤ (k : Int) := by omega
        have z1 : (k : Int) < (ps.length : Int) := by omega
        obtain ⟨s0, s1⟩ := jtB_step hlt
        have hpx : pax (ps.getD k (0, 0)) = itx (ps.getD k (0, 0)).1 ++ ⟨#[42]⟩ ++ itx (ps.getD k (0, 0)).2 := rfl
        obtain ⟨b1, b2⟩ := bd
        have t1 := itx_sz (n := (ps.getD k (0, 0)).1) (by omega) (by omega)
        have t2 := itx_sz (n := (ps.getD k (0, 0)).2) (by omega) (by omega)
        have hS : (⟨(jtB (ps.take k)).toArray⟩ : ByteArray).size ≤ 300 := by
          have : (⟨(jtB (ps.take k)).toArray⟩ : ByteArray).size = (jtB (ps.take k)).length := by simp [ByteArray.size]
          have := jtB_bd HGD.out.2 k hk
          omega
        have H1 := Lib.hid (fun (W : World) => Tryd.l1Num (ps.getD k (0, 0)).1 (by omega) (by omega) W)
        have H2 := Lib.hid (fun (W : World) => Tryd.l1Num (ps.getD k (0, 0)).2 (by omega) (by omega) W)
        rw [show (⟨(Lib.decDigits (ps.getD k (0, 0)).1.toNat).toArray⟩ : ByteArray) = itx (ps.getD k (0, 0)).1 from rfl] at H1
        rw [show (⟨(Lib.decDigits (ps.getD k (0, 0)).2.toNat).toArray⟩ : ByteArray) = itx (ps.getD k (0, 0)).2 from rfl] at H2
        rw [hpx] at s0 s1
        have GR := Lib.hid gr
        clear gr hpx b1 b2
        generalize itx (ps.getD k (0, 0)).1 = T1 at *
        generalize itx (ps.getD k (0, 0)).2 = T2 at *
        generalize (ps.getD k (0, 0)).1 = x at *
        generalize (ps.getD k (0, 0)).2 = y at *
        have hadd1 := fun W => run_string_add (P := Tryd.prog) (w := W) T1 ⟨#[42]⟩ (by omega) (by decide)
        have hadd2 := fun W => run_string_add (P := Tryd.prog) (w := W) (T1 ++ ⟨#[42]⟩) T2 (by rw [ByteArray.size_append, size_one]; omega) (by omega)
        obtain ⟨b0, b1⟩ := box2 wr (.int .i64 x) (.int .i64 y) 37
        rcases Nat.eq_zero_or_pos k with hk0 | hk0
        · have HE := Lib.hid (s0 hk0)
          have hS0 : (⟨(jtB (ps.take k)).toArray⟩ : ByteArray) = ⟨#[]⟩ := by rw [hk0]; rfl
          rw [hS0]
          have hadd3 := fun W => run_string_add (P := Tryd.prog) (w := W) ⟨#[]⟩ (T1 ++ ⟨#[42]⟩ ++ T2) (by decide) (by rw [ByteArray.size_append, ByteArray.size_append, size_one]; omega)
          have dk : ¬ (0 : Int) < (k : Int) := by omega
          have dk2 : decide (0 < k) = false := by simp; omega
          clear s0 s1 hS hS0 hk0
          go_wp2
          (refine wp_region_quiet_grown mixed (by kernel_rfl) ?_; (repeat (first | go_big_quiet_step ((first | (go_at_call_of 27 (Value.int .i64 x); exact Calls.grown_of (H1.out _)) | (go_at_call_of 27 (Value.int .i64 y); exact Calls.grown_of (H2.out _)))) | quiet_step ((first | (go_at_call_of 27 (Value.int .i64 x); exact Calls.grown_of (H1.out _)) | (go_at_call_of 27 (Value.int .i64 y); exact Calls.grown_of (H2.out _)))))); refine wpQuiet_nil ?_; intro _ hw'; obtain ⟨⟨nq, osq⟩, hw''⟩ := hw'; subst hw'')
          go_wp2
          go_roundw
          case rel => exact ⟨k + 1, by omega, by go_num, by rw [HE.out, nil_addB], GR.out.trans (by repeat (first | exact Gr.refl _ | refine Gr.alloc ?_ _ | refine Gr.trans ?_ (by assumption) | refine Gr.drew ?_ | refine Gr.drewN ?_ _ | refine Gr.grow ?_ _ | refine Gr.setCell ?_ (by (try simp); (try omega)) _))⟩
          case measure => simp [intOf]; omega
        · have HE := Lib.hid (s1 hk0)
          generalize (⟨(jtB (ps.take k)).toArray⟩ : ByteArray) = S at *
          have hadd4 := fun W => run_string_add (P := Tryd.prog) (w := W) S ⟨#[44]⟩ (by omega) (by decide)
          have hadd3 := fun W => run_string_add (P := Tryd.prog) (w := W) (S ++ ⟨#[44]⟩) (T1 ++ ⟨#[42]⟩ ++ T2) (by rw [ByteArray.size_append, size_one]; omega) (by rw [ByteArray.size_append, ByteArray.size_append, size_one]; omega)
          have zk : (0 : Int) < (k : Int) := by omega
          have dk : decide (0 < k) = true := by simpa using hk0
          clear s0 s1 hS
          go_wp2
          (refine wp_region_quiet_grown mixed (by kernel_rfl) ?_; (repeat (first | go_big_quiet_step ((first | (go_at_call_of 27 (Value.int .i64 x); exact Calls.grown_of (H1.out _)) | (go_at_call_of 27 (Value.int .i64 y); exact Calls.grown_of (H2.out _)))) | quiet_step ((first | (go_at_call_of 27 (Value.int .i64 x); exact Calls.grown_of (H1.out _)) | (go_at_call_of 27 (Value.int .i64 y); exact Calls.grown_of (H2.out _)))))); refine wpQuiet_nil ?_; intro _ hw'; obtain ⟨⟨nq, osq⟩, hw''⟩ := hw'; subst hw'')
          go_wp2
          go_roundw
          case rel => exact ⟨k + 1, by omega, by go_num, by rw [HE.out], GR.out.trans (by repeat (first | exact Gr.refl _ | refine Gr.alloc ?_ _ | refine Gr.trans ?_ (by assumption) | refine Gr.drew ?_ | refine Gr.drewN ?_ _ | refine Gr.grow ?_ _ | refine Gr.setCell ?_ (by (try simp); (try omega)) _))⟩
          case measure => simp [intOf]; omega
      · obtain rfl : k = ps.length := by omega
        rw [List.take_length]
        have GR := Lib.hid gr
        clear gr
        go_wp2
        go_ret
        exact ⟨rfl, GR.out⟩
/-- the text that is told -/
def txB (ps : List Pi2) (b : Bool) : ByteArray := if b = true then ⟨(jtB ps).toArray⟩ else ⟨#[]⟩
set_option maxHeartbeats 800000 in
theorem Tryd.sParcelsText (w : World) (B : Nat) (v : Value) (ps : List Pi2) (b : Bool) (hb : b = true ↔ GoodB ps) (hl : ps.length ≤ 1048576) (h : OwnP 37 w B v ps) :
    Calls Tryd.prog 6 #[v] w fun e w' => e = .returned (.tuple #[.string (txB ps b), .bool b]) ∧ Gr w w' := by
  have HH := Lib.hid (Tryd.bgGood w B v ps b hb hl h)
  have hsl : ∃ A c, v = .slice A ps.length c := by
    rcases h.view with ⟨rfl, A, c, rfl⟩ | ⟨_, g, c, rfl, _⟩
    · exact ⟨A, c, rfl⟩
    · exact ⟨_, c, rfl⟩
  cases b
  · obtain ⟨A, c, rfl⟩ := hsl
    clear h hb
    go_enter Tryd.func6, Tryd.ntmps6
    go_wp2_with (first | (go_at_call 14; refine HH.out.mono ?_; rintro e w1 ⟨rfl, g1⟩))
    go_ret2
    exact ⟨rfl, g1⟩
  · have HT := Lib.hid (fun W (g : Gr w W) => Tryd.bgText W B v ps (hb.1 rfl) (h.below g.below (Nat.le_refl _)))
    have e : txB ps true = ⟨(jtB ps).toArray⟩ := rfl
    rw [e]
    generalize (⟨(jtB ps).toArray⟩ : ByteArray) = T at *
    obtain ⟨A, c, rfl⟩ := hsl
    clear h hb e
    go_enter Tryd.func6, Tryd.ntmps6
    go_wp2_with (first | (go_at_call 14; refine HH.out.mono ?_; rintro e w1 ⟨rfl, g1⟩) | (go_at_call 15; refine (HT.out _ g1).mono ?_; rintro e w2 ⟨rfl, g2⟩))
    go_ret2
    exact ⟨rfl, g1.trans g2⟩
end Go.Proofs
