/-
  Chapter 8: sums of numbers that a closure tells (impl.sumOf over ints), lengths of trips (impl.lengthOf), how many trips (impl.countTrips), the farthest houses (impl.farthestOf); the model's length (spec.bgLength).
-/
import Derived.Test.YtjocipddffillaaBgH
import Derived.Test.YtjocipddffillaaBgU
import Derived.Test.YtjocipddffillaaInts3
namespace Go.Proofs
open Go.RowKit Bg
set_option linter.unusedVariables false
set_option linter.unusedSimpArgs false
/-- the sum of the first k values -/
def smF (F : Nat → Int) : Nat → Int
  | 0 => 0
  | k + 1 => smF F k + F k
theorem smF_in {F : Nat → Int} {M : Int} {n : Nat} (h : ∀ j, j < n → 0 ≤ F j ∧ F j ≤ M) : ∀ k, k ≤ n → 0 ≤ smF F k ∧ smF F k ≤ M * k := by
  intro k
  induction k with
  | zero => intro _; exact ⟨Int.le_refl _, by simp [smF]⟩
  | succ k ih =>
    intro hk
    have a := ih (by omega)
    have b := h k (by omega)
    simp only [smF]
    refine ⟨by omega, ?_⟩
    rw [show M * ((k + 1 : Nat) : Int) = M * (k : Int) + M by rw [Int.natCast_add, Int.mul_add]; simp]
    omega
theorem smF_congr {F G : Nat → Int} (n : Nat) (h : ∀ j, j < n → F j = G j) : smF F n = smF G n := by
  induction n with
  | zero => rfl
  | succ n ih => simp only [smF]; rw [ih (fun j hj => h j (by omega)), h n (by omega)]
def SmfRel (F : Nat → Int) (n : Nat) (w : World) (s i : Value) (wr : World) : Prop := Gr w wr ∧ ∃ k : Nat, k ≤ n ∧ i = .int .i64 k ∧ s = .int .i64 (smF F k)
set_option maxRecDepth 100000 in
set_option maxHeartbeats 800000 in
theorem Try.sumInts (g : Nat) (cb : Array Value) (xs : List Int) (F : Nat → Int) (w : World) (B : Nat) (v : Value) (h : OwnI w B v xs) (hl : xs.length ≤ 1000000)
    (hF : ∀ k, k ≤ xs.length → -1000000000000 ≤ smF F k ∧ smF F k ≤ 1000000000000)
    (eg : ∀ args w, (callFunc g args).run Try.prog w = .ok (.enter g args) w)
    (hf : ∀ (W : World) (k : Nat), Gr w W → k < xs.length → Calls Try.prog g (#[.int .i64 (xs.getD k 0)] ++ cb) W fun e w' => e = .returned (.int .i64 (F k)) ∧ Gr W w') :
    Calls Try.prog 93 #[v, .func (.func g) #[] cb] w fun e w' => e = .returned (.int .i64 (smF F xs.length)) ∧ Gr w w' := by
  obtain ⟨A, c, rfl, h⟩ := h.eta
  have HO := Lib.hid h
  have HF := Lib.hid hf
  have HB := Lib.hid hF
  clear h hf hF
  go_enter Try.func93, Try.ntmps93
  go_wp2
  go_loopw [5, 7, 10] (fun s _ i wr => SmfRel F xs.length w s i wr) (fun _ _ i _ => (xs.length - intOf i).toNat)
  case atStart => exact ⟨by repeat (first | exact Gr.refl _ | refine Gr.alloc ?_ _ | refine Gr.trans ?_ (by assumption) | refine Gr.drew ?_ | refine Gr.drewN ?_ _ | refine Gr.grow ?_ _ | refine Gr.setCell ?_ (by (try simp); (try omega)) _), 0, Nat.zero_le _, rfl, rfl⟩
  case round =>
    obtain ⟨gr, k, hk, rfl, rfl⟩ := hrel
    by_cases hlt : k < xs.length
    · obtain ⟨gb, rfl⟩ := HO.out.addr (by omega)
      have e1 := gr.keep2 (HO.out.at rfl k hlt).1
      have z0 : (0 : Int) ≤ (k : Int) := by omega
      have z1 : (k : Int) < (xs.length : Int) := by omega
      have HK := Lib.hid (HF.out wr k gr hlt)
      have GR := Lib.hid gr
      have b1 := HB.out (k + 1) (by omega)
      have hs : smF F (k + 1) = smF F k + F k := rfl
      rw [hs] at b1
      have HS := Lib.hid hs
      clear gr hs
      generalize xs.getD k 0 = x at *
      generalize smF F k = s at *
      generalize F k = y at *
      have ws : IntKind.i64.wrap (s + y) = s + y := IntWalk.i64_in _ (by omega)
      go_wp2_with (go_at_fn g; refine HK.out.mono ?_; rintro e w2 ⟨rfl, g2⟩)
      go_roundw
      case rel => exact ⟨GR.out.trans g2, k + 1, by omega, by go_num, by rw [HS.out]⟩
      case measure => simp [intOf]; omega
    · obtain rfl : k = xs.length := by omega
      have GR := Lib.hid gr
      clear gr
      go_wp2
      go_ret
      exact ⟨rfl, GR.out⟩
/-- the length of trips to some houses -/
def lenS (xs : List Int) : Int := smF (fun k => 2 * xs.getD k 0) xs.length
set_option maxHeartbeats 400000 in
theorem Try.lengthOf1 (x : Int) (h : 0 ≤ x ∧ x ≤ 1000) (w : World) : Calls Try.prog 94 (#[.int .i64 x] ++ #[]) w fun e w' => e = .returned (.int .i64 (2 * x)) ∧ Gr w w' := by
  have wx : IntKind.i64.wrap (2 * x) = 2 * x := IntWalk.i64_in _ (by omega)
  go_enter Try.func94, Try.ntmps94
  go_wp2
  go_ret
  exact ⟨rfl, by repeat (first | exact Gr.refl _ | refine Gr.alloc ?_ _ | refine Gr.trans ?_ (by assumption) | refine Gr.drew ?_ | refine Gr.drewN ?_ _ | refine Gr.grow ?_ _ | refine Gr.setCell ?_ (by (try simp); (try omega)) _)⟩
set_option maxHeartbeats 400000 in
theorem Try.lengthOf (xs : List Int) (w : World) (B : Nat) (v : Value) (h : OwnI w B v xs) (hl : xs.length ≤ 1000000) (hx : ∀ k, k < xs.length → 0 ≤ xs.getD k 0 ∧ xs.getD k 0 ≤ 1000) :
    Calls Try.prog 64 #[v] w fun e w' => e = .returned (.int .i64 (lenS xs)) ∧ Gr w w' := by
  have eg : ∀ args w, (callFunc 94 args).run Try.prog w = .ok (.enter 94 args) w := enters_of Try.func94 (by kernel_rfl) rfl
  have HS := Lib.hid (Try.sumInts 94 #[] xs (fun k => 2 * xs.getD k 0) w B v h hl (fun k hk => by
    have := smF_in (F := fun k => 2 * xs.getD k 0) (M := 2000) (n := xs.length) (fun j hj => by have := hx j hj; (try simp only); omega) k hk
    omega) eg (fun W k _ hk => Try.lengthOf1 _ (hx k hk) W))
  change RowKit.Hid (Calls Try.prog 93 #[v, .func (.func 94) #[] #[]] w fun e w' => e = .returned (.int .i64 (lenS xs)) ∧ Gr w w') at HS
  generalize lenS xs = r at *
  obtain ⟨A, c, rfl⟩ := h.sl
  clear h hx eg
  go_enter Try.func64, Try.ntmps64
  go_wp2_with (go_at_call 93; refine HS.out.mono ?_; rintro e w1 ⟨rfl, g1⟩)
  go_ret
  exact ⟨rfl, by repeat (first | exact Gr.refl _ | refine Gr.alloc ?_ _ | refine Gr.trans ?_ (by assumption) | refine Gr.drew ?_ | refine Gr.drewN ?_ _ | refine Gr.grow ?_ _ | refine Gr.setCell ?_ (by (try simp); (try omega)) _)⟩
theorem cnt_pos {pl : List Int} {k : Nat} (h : RgUp pl k) (h0 : 0 < k) : 0 < cntN pl k := by
  have a := rg_lt h 0 h0
  have b := (h 0 h0).1
  omega
theorem max_cnt {pl : List Int} (h : RgUp pl pl.length) (h0 : 0 < pl.length) : Lib.maxOf (pl.take pl.length) = (cntN pl pl.length : Int) - 1 := by
  obtain ⟨a, j, hj, e⟩ := maxOf_specR pl pl.length h0 (Nat.le_refl _)
  have b := rg_lt h j hj
  have c := cnt_pos h h0
  obtain ⟨i, hi, ei⟩ := rg_top h (cntN pl pl.length - 1) (by omega)
  have d := a i hi
  omega
theorem Try.maxI (w : World) (B : Nat) (v : Value) (xs : List Int) (h0 : 0 < xs.length) (hl : xs.length ≤ 1000000) (h : OwnI w B v xs) :
    Calls Try.prog 66 #[v] w fun e w' => e = .returned (.int .i64 (Lib.maxOf (xs.take xs.length))) ∧ w = w' := by
  rcases h.view with ⟨rfl, _⟩ | ⟨_, g, c, rfl, _, _, _, hc, _⟩
  · simp at h0
  · exact (Try.slices_Max_int g 0 xs.length c xs w h0 (Nat.le_refl _) (by omega) (fun j hj => by rw [Nat.zero_add]; exact hc j hj)).mono fun e w' ⟨he, hw⟩ => ⟨he, hw.symm⟩
set_option maxHeartbeats 400000 in
theorem Try.countTrips (w : World) (B : Nat) (v : Value) (pl : List Int) (hl : pl.length ≤ 1000000) (h0 : 0 < pl.length) (hrg : RgUp pl pl.length) (h : OwnI w B v pl) :
    Calls Try.prog 90 #[v] w fun e w' => e = .returned (.int .i64 (cntN pl pl.length)) ∧ w = w' := by
  have HM := Lib.hid (Try.maxI w B v pl h0 hl h)
  rw [max_cnt hrg h0] at HM
  have hc := cnt_le pl pl.length
  have wc : IntKind.i64.wrap ((cntN pl pl.length : Int) - 1 + 1) = (cntN pl pl.length : Int) := by rw [Int.sub_add_cancel]; exact IntWalk.i64_in _ (by omega)
  generalize cntN pl pl.length = n at *
  obtain ⟨A, c, rfl⟩ := h.sl
  clear h hrg
  go_enter Try.func90, Try.ntmps90
  go_wp2_with (go_at_call 66; refine HM.out.mono ?_; rintro e w1 ⟨rfl, rfl⟩)
  go_ret
  exact ⟨rfl, rfl⟩
/-- the greatest of the first k, or 0 -/
def mxN (xs : List Int) : Nat → Int
  | 0 => 0
  | k + 1 => max (mxN xs k) (xs.getD k 0)
theorem mxN_spec (xs : List Int) (k : Nat) : (∀ j, j < k → xs.getD j 0 ≤ mxN xs k) ∧ (0 ≤ mxN xs k) ∧ (mxN xs k = 0 ∨ ∃ j, j < k ∧ mxN xs k = xs.getD j 0) := by
  induction k with
  | zero => exact ⟨fun j hj => absurd hj (Nat.not_lt_zero _), Int.le_refl _, .inl rfl⟩
  | succ k ih =>
    obtain ⟨a, b, c⟩ := ih
    simp only [mxN]
    refine ⟨fun j hj => ?_, by omega, ?_⟩
    · rcases Nat.lt_or_eq_of_le (Nat.le_of_lt_succ hj) with d | d
      · have := a j d; omega
      · subst d; omega
    · rcases Int.le_total (mxN xs k) (xs.getD k 0) with d | d
      · exact .inr ⟨k, by omega, by omega⟩
      · rcases c with c | ⟨j, hj, c⟩
        · exact .inl (by omega)
        · exact .inr ⟨j, by omega, by omega⟩
theorem mxN_max {xs : List Int} (h0 : 0 < xs.length) (hx : ∀ j, j < xs.length → 0 ≤ xs.getD j 0) : Lib.maxOf (xs.take xs.length) = mxN xs xs.length := by
  obtain ⟨a, j, hj, e⟩ := maxOf_specR xs xs.length h0 (Nat.le_refl _)
  obtain ⟨a', b', c'⟩ := mxN_spec xs xs.length
  have := a' j hj
  rcases c' with c | ⟨i, hi, c⟩
  · have := hx j hj; omega
  · have := a i hi; omega
def BlRel (xs : List Int) (w : World) (s m i : Value) (wr : World) : Prop := Below w.heap.size w wr ∧ ∃ k : Nat, k ≤ xs.length ∧ i = .int .i64 k ∧ s = .int .i64 (smF (fun k => 2 * xs.getD k 0) k) ∧ m = .int .i64 (mxN xs k)
def farB (ps : List Pi2) (pl : List Int) : List Int := tb (faN (houF ps) pl pl.length) (cntN pl pl.length)
theorem farB_in {ps : List Pi2} (hg : GoodB ps) (pl : List Int) (k : Nat) (hk : k < (farB ps pl).length) : 0 ≤ (farB ps pl).getD k 0 ∧ (farB ps pl).getD k 0 ≤ 100 := by
  unfold farB at *
  rw [tb_len] at hk
  rw [tb_get _ _ _ hk]
  exact fa_in (by omega) (fun j _ => good_hou hg j) k
set_option maxRecDepth 100000 in
set_option maxHeartbeats 1600000 in
theorem Try.bgLength (w : World) (B B' : Nat) (v v' : Value) (ps : List Pi2) (pl : List Int) (hg : GoodB ps) (hlen : pl.length = ps.length) (hrg : RgUp pl pl.length) (h : OwnP 55 w B v ps) (h' : OwnI w B' v' pl) :
    Calls Try.prog 63 #[v, v'] w fun e w' => e = .returned (.tuple #[.int .i64 (lenS (farB ps pl)), .int .i64 (mxN (farB ps pl) (farB ps pl).length)]) ∧ Below w.heap.size w w' := by
  have HF := Lib.hid (Try.bgFar w B B' v v' ps pl hg hlen hrg h h')
  have hin := farB_in hg pl
  have hl8 := hg.1
  have hfl : (farB ps pl).length ≤ 8 := by unfold farB; rw [tb_len]; have := cnt_le pl pl.length; omega
  change RowKit.Hid (Calls Try.prog 91 #[v, v'] w fun e w' => ∃ u, e = .returned u ∧ OwnI w' w.heap.size u (farB ps pl) ∧ Below w.heap.size w w') at HF
  unfold lenS
  generalize farB ps pl = T at *
  obtain ⟨A, c, rfl⟩ := h.sl
  obtain ⟨A', c', rfl⟩ := h'.sl
  have HIN := Lib.hid hin
  clear h h' hrg hlen hin
  go_enter Try.func63, Try.ntmps63
  go_wp2_with (go_at_call 91; refine HF.out.mono ?_; rintro e w1 ⟨v1, rfl, ho1, hb1⟩; obtain ⟨A1, c1, rfl, ho1⟩ := ho1.eta)
  have HO := Lib.hid ho1
  have HB := Lib.hid hb1
  clear ho1 hb1
  go_loopw [6, 7, 9, 14] (fun s m _ i wr => BlRel T w s m i wr ∧ Gr w1 wr) (fun _ _ _ i _ => (T.length - intOf i).toNat)
  case atStart => exact ⟨⟨HB.out, 0, Nat.zero_le _, rfl, rfl, rfl⟩, Gr.refl _⟩
  case round =>
    obtain ⟨⟨hb', k, hk, rfl, rfl, rfl⟩, gr⟩ := hrel
    by_cases hlt : k < T.length
    · obtain ⟨gb, rfl⟩ := HO.out.addr (by omega)
      have e1 := gr.keep2 (HO.out.at rfl k hlt).1
      have z0 : (0 : Int) ≤ (k : Int) := by omega
      have z1 : (k : Int) < (T.length : Int) := by omega
      have b1 := smF_in (F := fun k => 2 * T.getD k 0) (M := 200) (n := T.length) (fun j hj => by have := HIN.out j hj; (try simp only); omega) k hk
      have b2 := HIN.out k hlt
      have hs : smF (fun k => 2 * T.getD k 0) (k + 1) = smF (fun k => 2 * T.getD k 0) k + 2 * T.getD k 0 := rfl
      have hm : mxN T (k + 1) = max (mxN T k) (T.getD k 0) := rfl
      have HS := Lib.hid hs
      have HM := Lib.hid hm
      have HBB := Lib.hid hb'
      have GR := Lib.hid gr
      clear hs hm hb' gr
      generalize smF (fun k => 2 * T.getD k 0) k = s at *
      generalize mxN T k = m at *
      generalize T.getD k 0 = x at *
      have HMO := Lib.hid (fun W => Try.l1MostB m x W)
      have wx : IntKind.i64.wrap (2 * x) = 2 * x := IntWalk.i64_in _ (by omega)
      have ws : IntKind.i64.wrap (s + 2 * x) = s + 2 * x := IntWalk.i64_in _ (by omega)
      generalize max m x = m' at *
      go_wp2_with (first | (go_at_call 92; refine (HMO.out _).mono ?_; rintro e w1 ⟨rfl, rfl⟩))
      go_roundw
      case rel => exact ⟨⟨HBB.out, k + 1, by omega, by go_num, by rw [HS.out], by rw [HM.out]⟩, GR.out⟩
      case measure => simp [intOf]; omega
    · obtain rfl : k = T.length := by omega
      have HBB := Lib.hid hb'
      clear gr hb'
      go_wp2
      go_ret2
      exact ⟨rfl, HBB.out⟩
end Go.Proofs
