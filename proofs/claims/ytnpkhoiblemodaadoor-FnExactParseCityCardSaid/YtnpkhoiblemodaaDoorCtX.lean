/-
  Chapter 4: the text of cities (plain; the model's).
-/
import Derived.Test.YtnpkhoiblemodaaDoorBrD
import Derived.Test.YtnpkhoiblemodaaDoorDec
import Derived.Test.YtnpkhoiblemodaaDoorRd
import Derived.Lib.Join
namespace Go.Proofs
open Go.RowKit Av
set_option linter.unusedVariables false
set_option linter.unusedSimpArgs false
/-- a number's text -/
def itx (n : Int) : ByteArray := ⟨(Lib.decDigits n.toNat).toArray⟩
theorem itx_le {n : Int} (h0 : 0 ≤ n) (h1 : n ≤ 1000) : (itx n).data.toList.length ≤ 4 := by
  unfold itx
  show (Lib.decDigits n.toNat).toArray.toList.length ≤ 4
  rw [List.toList_toArray, Rd.dec_length]
  rcases (show n < 10 ∨ (10 ≤ n ∧ n < 100) ∨ (100 ≤ n ∧ n < 1000) ∨ (1000 ≤ n ∧ n < 10000) by omega) with c | c | c | c
  · rw [Lib.nDigits_small (by omega)]; omega
  · rw [Lib.nDigits_unique 1 n.toNat (by simp; omega) (by simp; omega)]; omega
  · rw [Lib.nDigits_unique 2 n.toNat (by simp; omega) (by simp; omega)]; omega
  · rw [Lib.nDigits_unique 3 n.toNat (by simp; omega) (by simp; omega)]; omega
theorem itx_sz {n : Int} (h0 : 0 ≤ n) (h1 : n ≤ 1000) : (itx n).size ≤ 4 := by
  have := itx_le h0 h1
  rw [Array.length_toList] at this
  exact this
def Bd (b : Blk) : Prop := 0 ≤ b.1 ∧ b.1 ≤ 7 ∧ 0 ≤ b.2.1 ∧ b.2.1 ≤ 7
theorem ok_bd {W H : Int} {ps : List Blk} (h : okB W H ps = true) : (1 ≤ W ∧ W ≤ 8) ∧ (1 ≤ H ∧ H ≤ 8) ∧ ps.length ≤ 30 ∧ ∀ j, j < ps.length → Bd (ps.getD j b0) := by
  have ok := of_decide_eq_true h
  refine ⟨⟨ok.1, ok.2.1⟩, ⟨ok.2.2.1, ok.2.2.2.1⟩, ok.2.2.2.2.1, fun j hj => ?_⟩
  have q := ok.2.2.2.2.2.1 _ (getD_mem ps j hj)
  have e := up_b (ps.getD j b0)
  have w1 := ok.2.1
  have h1 := ok.2.2.2.1
  unfold IsB at q
  unfold Bd
  omega
/-- a block's sign -/
def bsg (u : Bool) : ByteArray := if u then ⟨#[124]⟩ else ⟨#[45]⟩
theorem bsg_c (u : Bool) : (u = true ∧ bsg u = ⟨#[124]⟩) ∨ (u = false ∧ bsg u = ⟨#[45]⟩) := by cases u <;> simp [bsg]
/-- a block's text -/
def bkx (b : Blk) : ByteArray := itx b.1 ++ bsg b.2.2 ++ itx b.2.1
theorem size_one (b : UInt8) : (⟨#[b]⟩ : ByteArray).size = 1 := rfl
theorem bsg_sz (u : Bool) : (bsg u).size = 1 := by cases u <;> rfl
theorem bkx_sz {b : Blk} (h : Bd b) : (bkx b).size ≤ 9 := by
  unfold bkx
  obtain ⟨a0, a1, c0, c1⟩ := h
  have p := itx_sz (n := b.1) (by omega) (by omega)
  have q := itx_sz (n := b.2.1) (by omega) (by omega)
  simp only [ByteArray.size_append, bsg_sz]
  omega
/-- the texts of blocks, joined -/
def jtK (ps : List Blk) : List UInt8 := Lib.join (ps.map fun p => (bkx p).data.toList) [44]
theorem jtK_nil : jtK [] = [] := rfl
theorem jtK_one (p : Blk) : jtK [p] = (bkx p).data.toList := by simp [jtK, Lib.join_one]
theorem jtK_snoc (ps : List Blk) (p : Blk) (h : 0 < ps.length) : jtK (ps ++ [p]) = jtK ps ++ 44 :: (bkx p).data.toList := by
  cases ps with
  | nil => simp at h
  | cons q r =>
    unfold jtK
    simp only [List.cons_append, List.map_cons, List.map_append, List.map_nil]
    rw [Lib.join_cons, Lib.join_cons]
    simp [Lib.joinTail]
theorem take_bs {ps : List Blk} {k : Nat} (hk : k < ps.length) : ps.take (k + 1) = ps.take k ++ [ps.getD k b0] := by
  rw [List.take_succ_eq_append_getElem hk]
  simp [List.getD, hk]
theorem jtK_step {ps : List Blk} {k : Nat} (H : ByteArray) (hk : k < ps.length) :
    (k = 0 → H ++ (⟨(jtK (ps.take (k + 1))).toArray⟩ : ByteArray) = H ++ bkx (ps.getD k b0)) ∧
    (0 < k → H ++ (⟨(jtK (ps.take (k + 1))).toArray⟩ : ByteArray) = H ++ ⟨(jtK (ps.take k)).toArray⟩ ++ ⟨#[44]⟩ ++ bkx (ps.getD k b0)) := by
  rw [take_bs hk]
  constructor
  · rintro rfl
    rw [List.take_zero, List.nil_append, jtK_one]
  · intro h0
    rw [jtK_snoc _ _ (by simp; omega), show (⟨(jtK (ps.take k) ++ 44 :: (bkx (ps.getD k b0)).data.toList).toArray⟩ : ByteArray) = ⟨(jtK (ps.take k)).toArray⟩ ++ ⟨#[44]⟩ ++ bkx (ps.getD k b0) by apply ByteArray.ext; simp]
    apply ByteArray.ext
    simp
theorem bkx_len {p : Blk} (h : Bd p) : (bkx p).data.toList.length ≤ 9 := by
  have := bkx_sz h
  rw [Array.length_toList]
  exact this
theorem jtK_bd {ps : List Blk} (hg : ∀ j, j < ps.length → Bd (ps.getD j b0)) : ∀ k, k ≤ ps.length → (jtK (ps.take k)).length ≤ 10 * k := by
  intro k
  induction k with
  | zero => intro _; simp [jtK_nil]
  | succ k ih =>
    intro h
    have h5 := bkx_len (hg k (by omega))
    have := ih (by omega)
    rw [take_bs (by omega)]
    rcases Nat.eq_zero_or_pos k with rfl | h0
    · rw [List.take_zero, List.nil_append, jtK_one]; omega
    · rw [jtK_snoc _ _ (by simp; omega)]
      simp only [List.length_append, List.length_cons]
      omega
theorem nil_addK (T : ByteArray) : T ++ (⟨#[]⟩ : ByteArray) = T := by apply ByteArray.ext; simp
/-- the sizes, and the mark behind them -/
def hdC (W H : Int) : ByteArray := itx W ++ ⟨#[120]⟩ ++ itx H ++ ⟨#[58]⟩
theorem hdC_sz {W H : Int} (hW : 1 ≤ W ∧ W ≤ 8) (hH : 1 ≤ H ∧ H ≤ 8) : (hdC W H).size ≤ 10 := by
  have a := itx_sz (n := W) (by omega) (by omega)
  have b := itx_sz (n := H) (by omega) (by omega)
  unfold hdC
  simp only [ByteArray.size_append, size_one]
  omega
theorem OwnB.els {w : World} {B : Nat} {A : Option Addr} {c : Nat} {ps : List Blk} (h : OwnB w B (.slice A ps.length c) ps) : ∀ j, j < ps.length → ∃ g, A = some ⟨g, 0, none⟩ ∧ w.cell? ⟨g, j * 3, none⟩ = some (.int .i64 (ps.getD j b0).1) ∧ w.cell? ⟨g, j * 3 + 1, none⟩ = some (.int .i64 (ps.getD j b0).2.1) ∧ w.cell? ⟨g, j * 3 + 2, none⟩ = some (.bool (ps.getD j b0).2.2) := by
  rcases OwnB.view h with ⟨rfl, _⟩ | ⟨_, g, c', e, _, _, _, _, hc, _⟩
  · intro j hj; simp at hj
  · intro j hj
    simp only [Value.slice.injEq] at e
    exact ⟨g, e.1, hc j hj⟩
def JRelK (H : ByteArray) (ps : List Blk) (w : World) (s i : Value) (wr : World) : Prop := ∃ k : Nat, k ≤ ps.length ∧ i = .int .i64 k ∧ s = .string (H ++ ⟨(jtK (ps.take k)).toArray⟩) ∧ Gr w wr
set_option maxRecDepth 100000 in
set_option maxHeartbeats 1600000 in
theorem Tryd.avText (w : World) (W H : Int) (B : Nat) (a : Value) (ps : List Blk) (hg : okB W H ps = true) (h : OwnB w B a ps) :
    Calls Tryd.prog 16 #[.agg #[.int .i64 W, .int .i64 H, a]] w fun e w' => e = .returned (.string (hdC W H ++ ⟨(jtK ps).toArray⟩)) ∧ Gr w w' := by
  have mixed : Tryd.prog.follows .mixedOrders = true := by kernel_rfl
  obtain ⟨hW, hH, h30, hall⟩ := ok_bd hg
  have HW := Lib.hid (fun (X : World) => Tryd.l1Num W (by omega) (by omega) X)
  have HH := Lib.hid (fun (X : World) => Tryd.l1Num H (by omega) (by omega) X)
  rw [show (⟨(Lib.decDigits W.toNat).toArray⟩ : ByteArray) = itx W from rfl] at HW
  rw [show (⟨(Lib.decDigits H.toNat).toArray⟩ : ByteArray) = itx H from rfl] at HH
  have tW := itx_sz (n := W) (by omega) (by omega)
  have tH := itx_sz (n := H) (by omega) (by omega)
  have hsz := hdC_sz hW hH
  have hHd : hdC W H = itx W ++ ⟨#[120]⟩ ++ itx H ++ ⟨#[58]⟩ := rfl
  generalize itx W = TW at *
  generalize itx H = TH at *
  have haddA := fun X => run_string_add (P := Tryd.prog) (w := X) TW ⟨#[120]⟩ (by omega) (by decide)
  have haddB := fun X => run_string_add (P := Tryd.prog) (w := X) (TW ++ ⟨#[120]⟩) TH (by rw [ByteArray.size_append, size_one]; omega) (by omega)
  have haddC := fun X => run_string_add (P := Tryd.prog) (w := X) (TW ++ ⟨#[120]⟩ ++ TH) ⟨#[58]⟩ (by simp only [ByteArray.size_append, size_one]; omega) (by decide)
  rw [← hHd] at haddC
  generalize hdC W H = D at *
  obtain ⟨A, c, rfl, h⟩ := OwnE.eta h
  have HC := Lib.hid (OwnB.els h)
  have HAll := Lib.hid hall
  have gb := Gr.refl (w.alloc (.cells #[.int .i64 W, .int .i64 H, .slice A ps.length c] 30))
  have x0 := gr_all gb (show (w.alloc (.cells #[.int .i64 W, .int .i64 H, .slice A ps.length c] 30)).cell? ⟨w.heap.size, 0, none⟩ = some (.int .i64 W) by simp [go_sem])
  have x1 := gr_all gb (show (w.alloc (.cells #[.int .i64 W, .int .i64 H, .slice A ps.length c] 30)).cell? ⟨w.heap.size, 1, none⟩ = some (.int .i64 H) by simp [go_sem])
  have x2 := gr_all gb (show (w.alloc (.cells #[.int .i64 W, .int .i64 H, .slice A ps.length c] 30)).cell? ⟨w.heap.size, 2, none⟩ = some (.slice A ps.length c) by simp [go_sem])
  clear gb h hall hg hW hH hHd
  go_enter Tryd.func16, Tryd.ntmps16
  go_wp2
  (refine wp_region_quiet_grown mixed (by kernel_rfl) ?_; (repeat (first | go_big_quiet_step ((first | (go_at_call_of 32 (Value.int .i64 W); exact Calls.grown_of (HW.out _)) | (go_at_call_of 32 (Value.int .i64 H); exact Calls.grown_of (HH.out _)))) | quiet_step ((first | (go_at_call_of 32 (Value.int .i64 W); exact Calls.grown_of (HW.out _)) | (go_at_call_of 32 (Value.int .i64 H); exact Calls.grown_of (HH.out _)))))); refine wpQuiet_nil ?_; intro _ hw'; obtain ⟨⟨nq, osq⟩, hw''⟩ := hw'; subst hw'')
  go_wp2
  have GW := Lib.hid (show Gr w (Go.Sort.grow ((w.alloc (.cells #[.int .i64 W, .int .i64 H, .slice A ps.length c] 30)).drewN nq) osq) from Gr.grow (Gr.drewN (Gr.alloc (Gr.refl _) _) _) _)
  go_loopw [3, 4, 5, 6, 19] (fun s _ _ _ i wr => JRelK D ps w s i wr) (fun _ _ _ _ i _ => (ps.length - intOf i).toNat)
  case atStart => exact ⟨0, Nat.zero_le _, rfl, by rw [List.take_zero, jtK_nil, nil_addK], GW.out⟩
  case round =>
    obtain ⟨q, hk, rfl, rfl, gr⟩ := hrel
    by_cases hlt : q < ps.length
    · obtain ⟨g, rfl, c0, c1, c2⟩ := HC.out q hlt
      have hok := HAll.out q hlt
      obtain ⟨bd0, bd1, bd2, bd3⟩ := hok
      have e0 := gr.keep0 c0
      have e1 := gr.keep0 c1
      have e2 := gr.keep0 c2
      have z0 : (0 : Int) ≤ (q : Int) := by omega
      have z1 : (q : Int) < (ps.length : Int) := by omega
      obtain ⟨s0, s1⟩ := jtK_step D hlt
      have hpx : bkx (ps.getD q b0) = itx (ps.getD q b0).1 ++ bsg (ps.getD q b0).2.2 ++ itx (ps.getD q b0).2.1 := rfl
      have t1 := itx_sz (n := (ps.getD q b0).1) (by omega) (by omega)
      have t2 := itx_sz (n := (ps.getD q b0).2.1) (by omega) (by omega)
      have hS : (D ++ (⟨(jtK (ps.take q)).toArray⟩ : ByteArray)).size ≤ 400 := by
        have : (⟨(jtK (ps.take q)).toArray⟩ : ByteArray).size = (jtK (ps.take q)).length := by simp [ByteArray.size]
        have := jtK_bd HAll.out q hk
        rw [ByteArray.size_append]
        omega
      have H1 := Lib.hid (fun (X : World) => Tryd.l1Num (ps.getD q b0).1 (by omega) (by omega) X)
      have H2 := Lib.hid (fun (X : World) => Tryd.l1Num (ps.getD q b0).2.1 (by omega) (by omega) X)
      rw [show (⟨(Lib.decDigits (ps.getD q b0).1.toNat).toArray⟩ : ByteArray) = itx (ps.getD q b0).1 from rfl] at H1
      rw [show (⟨(Lib.decDigits (ps.getD q b0).2.1.toNat).toArray⟩ : ByteArray) = itx (ps.getD q b0).2.1 from rfl] at H2
      rw [hpx] at s0 s1
      have GR := Lib.hid gr
      have sc := bsg_c (ps.getD q b0).2.2
      have sz1 := bsg_sz (ps.getD q b0).2.2
      clear gr hpx bd0 bd1 bd2 bd3 c0 c1 c2
      generalize itx (ps.getD q b0).1 = T1 at *
      generalize itx (ps.getD q b0).2.1 = T2 at *
      generalize bsg (ps.getD q b0).2.2 = sg at *
      generalize (ps.getD q b0).1 = x at *
      generalize (ps.getD q b0).2.1 = y at *
      generalize (ps.getD q b0).2.2 = u at *
      have hadd1 := fun X => run_string_add (P := Tryd.prog) (w := X) T1 sg (by omega) (by omega)
      have hadd2 := fun X => run_string_add (P := Tryd.prog) (w := X) (T1 ++ sg) T2 (by rw [ByteArray.size_append]; omega) (by omega)
      have hT : (T1 ++ sg ++ T2).size ≤ 9 := by simp only [ByteArray.size_append]; omega
      have gb := Gr.refl (wr.alloc (.cells #[.int .i64 x, .int .i64 y, .bool u] 44))
      have y0 := gr_all gb (show (wr.alloc (.cells #[.int .i64 x, .int .i64 y, .bool u] 44)).cell? ⟨wr.heap.size, 0, none⟩ = some (.int .i64 x) by simp [go_sem])
      have y1 := gr_all gb (show (wr.alloc (.cells #[.int .i64 x, .int .i64 y, .bool u] 44)).cell? ⟨wr.heap.size, 1, none⟩ = some (.int .i64 y) by simp [go_sem])
      have y2 := gr_all gb (show (wr.alloc (.cells #[.int .i64 x, .int .i64 y, .bool u] 44)).cell? ⟨wr.heap.size, 2, none⟩ = some (.bool u) by simp [go_sem])
      clear gb
      rcases Nat.eq_zero_or_pos q with hk0 | hk0
      · have HE := Lib.hid (s0 hk0)
        have hS0 : D ++ (⟨(jtK (ps.take q)).toArray⟩ : ByteArray) = D := by rw [hk0, List.take_zero, jtK_nil, nil_addK]
        rw [hS0]
        have hadd5 := fun X => run_string_add (P := Tryd.prog) (w := X) D (T1 ++ sg ++ T2) (by omega) (by omega)
        have dk : ¬ (0 : Int) < (q : Int) := by omega
        have dk2 : decide (0 < q) = false := by simp; omega
        clear s0 s1 hS hS0 hk0
        rcases sc with ⟨rfl, rfl⟩ | ⟨rfl, rfl⟩
        all_goals
          go_wp2
          (refine wp_region_quiet_grown mixed (by kernel_rfl) ?_; (repeat (first | go_big_quiet_step ((first | (go_at_call_of 32 (Value.int .i64 x); exact Calls.grown_of (H1.out _)) | (go_at_call_of 32 (Value.int .i64 y); exact Calls.grown_of (H2.out _)))) | quiet_step ((first | (go_at_call_of 32 (Value.int .i64 x); exact Calls.grown_of (H1.out _)) | (go_at_call_of 32 (Value.int .i64 y); exact Calls.grown_of (H2.out _)))))); refine wpQuiet_nil ?_; intro _ hw'; obtain ⟨⟨nq, osq⟩, hw''⟩ := hw'; subst hw'')
          go_wp2
          go_roundw
          case rel => exact ⟨q + 1, by omega, by go_num, by rw [HE.out], GR.out.trans (by repeat (first | exact Gr.refl _ | refine Gr.alloc ?_ _ | refine Gr.trans ?_ (by assumption) | refine Gr.drew ?_ | refine Gr.drewN ?_ _ | refine Gr.grow ?_ _ | refine Gr.setCell ?_ (by (try simp); (try omega)) _))⟩
          case measure => simp [intOf]; omega
      · have HE := Lib.hid (s1 hk0)
        generalize (D ++ (⟨(jtK (ps.take q)).toArray⟩ : ByteArray)) = S at *
        have hadd6 := fun X => run_string_add (P := Tryd.prog) (w := X) S ⟨#[44]⟩ (by omega) (by decide)
        have hadd5 := fun X => run_string_add (P := Tryd.prog) (w := X) (S ++ ⟨#[44]⟩) (T1 ++ sg ++ T2) (by rw [ByteArray.size_append, size_one]; omega) (by omega)
        have zk : (0 : Int) < (q : Int) := by omega
        have dk : decide (0 < q) = true := by simpa using hk0
        clear s0 s1 hS
        rcases sc with ⟨rfl, rfl⟩ | ⟨rfl, rfl⟩
        all_goals
          go_wp2
          (refine wp_region_quiet_grown mixed (by kernel_rfl) ?_; (repeat (first | go_big_quiet_step ((first | (go_at_call_of 32 (Value.int .i64 x); exact Calls.grown_of (H1.out _)) | (go_at_call_of 32 (Value.int .i64 y); exact Calls.grown_of (H2.out _)))) | quiet_step ((first | (go_at_call_of 32 (Value.int .i64 x); exact Calls.grown_of (H1.out _)) | (go_at_call_of 32 (Value.int .i64 y); exact Calls.grown_of (H2.out _)))))); refine wpQuiet_nil ?_; intro _ hw'; obtain ⟨⟨nq, osq⟩, hw''⟩ := hw'; subst hw'')
          go_wp2
          go_roundw
          case rel => exact ⟨q + 1, by omega, by go_num, by rw [HE.out], GR.out.trans (by repeat (first | exact Gr.refl _ | refine Gr.alloc ?_ _ | refine Gr.trans ?_ (by assumption) | refine Gr.drew ?_ | refine Gr.drewN ?_ _ | refine Gr.grow ?_ _ | refine Gr.setCell ?_ (by (try simp); (try omega)) _))⟩
          case measure => simp [intOf]; omega
    · obtain rfl : q = ps.length := by omega
      rw [List.take_length]
      have GR := Lib.hid gr
      clear gr
      go_wp2
      go_ret
      exact ⟨rfl, GR.out⟩
/-- the text that is told -/
def txC (W H : Int) (ps : List Blk) : ByteArray := if okB W H ps = true then hdC W H ++ ⟨(jtK ps).toArray⟩ else ⟨#[]⟩
set_option maxRecDepth 100000 in
set_option maxHeartbeats 800000 in
theorem Tryd.sCityText (w : World) (W H : Int) (B : Nat) (a : Value) (ps : List Blk) (b : Bool) (hb : okB W H ps = b) (hl : ps.length ≤ 1048576) (h : OwnB w B a ps) :
    Calls Tryd.prog 6 #[.agg #[.int .i64 W, .int .i64 H, a]] w fun e w' => e = .returned (.tuple #[.string (txC W H ps), .bool b]) ∧ Below w.heap.size w w' := by
  obtain ⟨A, c, rfl, h⟩ := OwnE.eta h
  have PG := Lib.hid (fun (X : World) (g : Gr w X) => Tryd.avGood X W H B _ ps _ hb hl (OwnE.gr h g))
  cases b
  · have e : txC W H ps = ⟨#[]⟩ := by unfold txC; rw [hb]; rfl
    rw [e]
    clear h hb e
    go_enter Tryd.func6, Tryd.ntmps6
    go_wp2_with (first | (go_at_call 15; refine (PG.out _ (by repeat (first | exact Gr.refl _ | refine Gr.alloc ?_ _ | refine Gr.trans ?_ (by assumption) | refine Gr.drew ?_ | refine Gr.drewN ?_ _ | refine Gr.grow ?_ _ | refine Gr.setCell ?_ (by (try simp); (try omega)) _))).mono ?_; rintro e W1 ⟨rfl, q1⟩; have a0 : W1.cell? ⟨w.heap.size, 0, none⟩ = some (.int .i64 W) := q1.keep0 (by simp [go_sem]); have a1 : W1.cell? ⟨w.heap.size, 1, none⟩ = some (.int .i64 H) := q1.keep0 (by simp [go_sem]); have a2 : W1.cell? ⟨w.heap.size, 2, none⟩ = some (.slice A ps.length c) := q1.keep0 (by simp [go_sem])))
    go_ret2
    exact ⟨rfl, Gr.below (by repeat (first | exact Gr.refl _ | refine Gr.alloc ?_ _ | refine Gr.trans ?_ (by assumption) | refine Gr.drew ?_ | refine Gr.drewN ?_ _ | refine Gr.grow ?_ _ | refine Gr.setCell ?_ (by (try simp); (try omega)) _))⟩
  · have HT := Lib.hid (fun X (g : Gr w X) => Tryd.avText X W H B _ ps hb (OwnE.gr h g))
    have e : txC W H ps = hdC W H ++ ⟨(jtK ps).toArray⟩ := by unfold txC; rw [if_pos hb]
    rw [e]
    generalize (hdC W H ++ (⟨(jtK ps).toArray⟩ : ByteArray)) = T at *
    clear h hb e
    go_enter Tryd.func6, Tryd.ntmps6
    go_wp2_with (first | (go_at_call 15; refine (PG.out _ (by repeat (first | exact Gr.refl _ | refine Gr.alloc ?_ _ | refine Gr.trans ?_ (by assumption) | refine Gr.drew ?_ | refine Gr.drewN ?_ _ | refine Gr.grow ?_ _ | refine Gr.setCell ?_ (by (try simp); (try omega)) _))).mono ?_; rintro e W1 ⟨rfl, q1⟩; have a0 : W1.cell? ⟨w.heap.size, 0, none⟩ = some (.int .i64 W) := q1.keep0 (by simp [go_sem]); have a1 : W1.cell? ⟨w.heap.size, 1, none⟩ = some (.int .i64 H) := q1.keep0 (by simp [go_sem]); have a2 : W1.cell? ⟨w.heap.size, 2, none⟩ = some (.slice A ps.length c) := q1.keep0 (by simp [go_sem])) | (go_at_call 16; refine (HT.out _ (by repeat (first | exact Gr.refl _ | refine Gr.alloc ?_ _ | refine Gr.trans ?_ (by assumption) | refine Gr.drew ?_ | refine Gr.drewN ?_ _ | refine Gr.grow ?_ _ | refine Gr.setCell ?_ (by (try simp); (try omega)) _))).mono ?_; rintro e W2 ⟨rfl, q2⟩))
    go_ret2
    exact ⟨rfl, Gr.below (by repeat (first | exact Gr.refl _ | refine Gr.alloc ?_ _ | refine Gr.trans ?_ (by assumption) | refine Gr.drew ?_ | refine Gr.drewN ?_ _ | refine Gr.grow ?_ _ | refine Gr.setCell ?_ (by (try simp); (try omega)) _))⟩
end Go.Proofs
