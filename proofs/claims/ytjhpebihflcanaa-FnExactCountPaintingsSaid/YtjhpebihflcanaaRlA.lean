/-
  Arguments that are lists of lists of ints: words, and contracts of the law's own helpers (size, copy, same lists).
-/
import Derived.Test.YtjhpebihflcanaaRlW
import Derived.Test.YtjhpebihflcanaaArgs
import Derived.Deep.Matrix
namespace Go.Proofs
open Go.RowKit
set_option linter.unusedVariables false
set_option linter.unusedSimpArgs false
def rowOf (zss : List (List Int)) (k : Nat) : List Int := zss.getD k []
def OwnZ (w : World) (B : Nat) (v : Value) (zss : List (List Int)) : Prop := OwnLL w B v zss.length (rowOf zss)
theorem OwnZ.below {w w' : World} {B C : Nat} {v : Value} {zss : List (List Int)} (h : OwnZ w B v zss) (hb : Below C w w') (hC : w.heap.size ≤ C) : OwnZ w' B v zss := OwnLL.below h hb hC
theorem OwnZ.gr {w w' : World} {B : Nat} {v : Value} {zss : List (List Int)} (h : OwnZ w B v zss) (g : Gr w w') : OwnZ w' B v zss := OwnLL.gr h g
/-- An argument: nil, or a row of lists that lies anywhere. -/
def ArgZ (w : World) (A : Option Addr) (len cap : Nat) (zss : List (List Int)) : Prop :=
  zss.length = len ∧ len ≤ cap ∧ cap ≤ maxLen ∧ (zss = [] ∨ ∃ a, A = some a ∧ ∀ r, r < zss.length → ∃ A' l c, w.cell? (a.add r) = some (.slice A' l c) ∧ ArgI w A' l c (rowOf zss r))
theorem ArgZ.below {w w' : World} {A : Option Addr} {len cap : Nat} {zss : List (List Int)} (h : ArgZ w A len cap zss) (g : Below w.heap.size w w') : ArgZ w' A len cap zss := by
  obtain ⟨a, b, c, e⟩ := h
  refine ⟨a, b, c, e.imp id ?_⟩
  rintro ⟨x, rfl, hx⟩
  exact ⟨x, rfl, fun j hj => by
    obtain ⟨A', l, c', h1, h2⟩ := hx j hj
    exact ⟨A', l, c', Below.keep3 g h1, h2.below g⟩⟩
section
open Go.ChangeShapes Go.WideShapes
theorem ArgZ.of_trod {H : Type} {enc : TypeId × Value → H} {P : Program} {w : World} {base : Nat} {held : Bool} {t e q : TypeId} {fuel : Nat} {A : Option Addr} {len cap : Nat} {x : DataW H × List MemPlace}
    (ht : P.underlying t = some (.slice e)) (he : P.underlying e = some (.slice q)) (hq : P.underlying q = some (.int .i64)) (ce : P.cellsOf e = 1) (cq : P.cellsOf q = 1)
    (h : DataW.trod enc P w base (fun _ => true) held fuel t [.slice A len cap] = some x) : ∃ zss, ArgZ w A len cap zss := by
  rcases Go.Deep.open_int_rows ht he hq ce cq h with ⟨hcs, _⟩ | ⟨a, l, c, AA, L, C, Z, hcs, hb, hl, hm, hx, hi⟩
  · simp at hcs
    obtain ⟨rfl, rfl, rfl⟩ := hcs
    exact ⟨[], rfl, Nat.le_refl _, Nat.zero_le _, .inl rfl⟩
  · simp at hcs
    obtain ⟨rfl, rfl, rfl⟩ := hcs
    refine ⟨(List.range len).map fun r => (Z r).take (L r), by simp, hl, hm, .inr ⟨a, rfl, fun r hr => ?_⟩⟩
    have hrl : r < len := by simpa using hr
    obtain ⟨h1, h2, h3, h4, h5, h6, h7⟩ := hi r (by omega)
    have er : rowOf ((List.range len).map fun r => (Z r).take (L r)) r = (Z r).take (L r) := by simp [rowOf, List.getD, hrl]
    rw [er]
    refine ⟨AA r, L r, C r, h1, by simp; omega, h2, h3, fun n hn => h5 n (List.mem_of_mem_take hn), ?_⟩
    cases hA : AA r with
    | none => exact .inl (by have := h6 hA; rw [show L r = 0 by omega]; simp)
    | some a' =>
      refine .inr ⟨a', rfl, fun j hj => ?_⟩
      have hj' : j < L r := by simp at hj; omega
      rw [(h7 a' hA).2 j (by omega)]
      simp [List.getD, List.getElem?_take, hj']
end
/-- the size that is left behind k lists -/
def szZ (zss : List (List Int)) (l : Int) : Nat → Int | 0 => l - (zss.length : Int) | k + 1 => szZ zss l k - ((rowOf zss k).length : Int)
theorem szZ_le (zss : List (List Int)) (l : Int) (k m : Nat) : szZ zss l (k + m) ≤ szZ zss l k := by
  induction m with
  | zero => exact Int.le_refl _
  | succ m ih =>
    have : szZ zss l (k + m + 1) = szZ zss l (k + m) - ((rowOf zss (k + m)).length : Int) := rfl
    rw [← Nat.add_assoc]; omega
theorem szZ_le0 (zss : List (List Int)) (l : Int) (k : Nat) : szZ zss l k ≤ l - (zss.length : Int) := by
  have := szZ_le zss l 0 k
  rw [Nat.zero_add] at this
  exact this
def SmallZ (zss : List (List Int)) : Prop := zss.length ≤ 1048576 ∧ ∀ k, (rowOf zss k).length ≤ 1048576
theorem SmallZ.of {zss : List (List Int)} (h : 0 ≤ szZ zss 1048576 zss.length) : SmallZ zss := by
  have h0 := szZ_le0 zss 1048576 zss.length
  refine ⟨by omega, fun k => ?_⟩
  by_cases c : k < zss.length
  · have h1 := szZ_le0 zss 1048576 k
    have h2 := szZ_le zss 1048576 (k + 1) (zss.length - (k + 1))
    rw [show k + 1 + (zss.length - (k + 1)) = zss.length by omega] at h2
    have h3 : szZ zss 1048576 (k + 1) = szZ zss 1048576 k - ((rowOf zss k).length : Int) := rfl
    omega
  · simp [rowOf, List.getD, show zss[k]? = none by simp; omega]
set_option maxHeartbeats 400000 in
theorem Try.szIntS (w : World) (A : Option Addr) (n c : Nat) (l : Int) (r : Int) (hr : l - (n : Int) = r) (h0 : 0 ≤ l) (h1 : l ≤ 4000000) (hn : n ≤ maxLen) :
    Calls Try.prog 32 #[.slice A n c, .int .i64 l] w fun e w' => e = .returned (.int .i64 (if 0 ≤ r then r else -1)) ∧ w = w' := by
  unfold maxLen at hn
  have HR := Lib.hid hr
  have wr : IntKind.i64.wrap (l - (n : Int)) = r := by rw [hr]; exact IntWalk.i64_in _ (by omega)
  have wr' : l - (n : Int) = r := hr
  by_cases hc : 0 ≤ r
  · rw [if_pos hc]
    have z : ¬ r < 0 := by omega
    go_enter Try.func32, Try.ntmps32
    go_wp2
    go_ret
    exact ⟨rfl, rfl⟩
  · rw [if_neg hc]
    have z : r < 0 := by omega
    go_enter Try.func32, Try.ntmps32
    go_wp2
    go_ret
    exact ⟨rfl, rfl⟩
def SRelZ (zss : List (List Int)) (w : World) (s i : Value) (wr : World) : Prop := w = wr ∧ ∃ k : Nat, k ≤ zss.length ∧ i = .int .i64 k ∧ s = .int .i64 (szZ zss 1048576 k) ∧ 0 ≤ szZ zss 1048576 k
set_option maxRecDepth 100000 in
set_option maxHeartbeats 800000 in
theorem Try.szIntSS (w : World) (A : Option Addr) (len cap : Nat) (zss : List (List Int)) (r : Int) (hr : szZ zss 1048576 zss.length = r) (h : ArgZ w A len cap zss) :
    Calls Try.prog 10 #[.slice A len cap, .int .i64 1048576] w fun e w' => e = .returned (.int .i64 (if 0 ≤ r then r else -1)) ∧ w = w' := by
  obtain ⟨rfl, h1, h2, h4⟩ := h
  have hm : zss.length ≤ maxLen := by omega
  unfold maxLen at hm
  have H4 := Lib.hid h4
  have HR := Lib.hid hr
  obtain ⟨R, hR⟩ : ∃ R, (if 0 ≤ r then r else -1) = R := ⟨_, rfl⟩
  rw [hR]
  have HRR := Lib.hid hR
  clear h1 h2 h4 hr hR
  by_cases hz : 0 ≤ 1048576 - (zss.length : Int)
  · have wz : IntKind.i64.wrap (1048576 - (zss.length : Int)) = 1048576 - (zss.length : Int) := IntWalk.i64_in _ (by omega)
    have nz : ¬ (1048576 - (zss.length : Int) < 0) := by omega
    go_enter Try.func10, Try.ntmps10
    go_wp2
    go_loopw [1, 5] (fun s i wr => SRelZ zss w s i wr) (fun _ i _ => (zss.length - intOf i).toNat)
    case atStart => exact ⟨rfl, 0, Nat.zero_le _, rfl, rfl, hz⟩
    case round =>
      obtain ⟨rfl, k, hk, rfl, rfl, hnn⟩ := hrel
      by_cases hlt : k < zss.length
      · rcases H4.out with q | ⟨a, rfl, hc⟩
        · rw [q] at hlt; simp at hlt
        obtain ⟨A', l, c', e1, e2⟩ := hc k hlt
        have hs : szZ zss 1048576 (k + 1) = szZ zss 1048576 k - ((rowOf zss k).length : Int) := rfl
        rw [e2.1] at hs
        have hl0 := szZ_le0 zss 1048576 k
        have HS := Lib.hid hs
        have hl1 : l ≤ maxLen := Nat.le_trans e2.2.1 e2.2.2.1
        obtain ⟨s', hs'⟩ : ∃ s', szZ zss 1048576 (k + 1) = s' := ⟨_, rfl⟩
        have HS' := Lib.hid hs'
        rw [hs'] at hs
        have hle : r ≤ s' := by
          rw [← HR.out, ← hs']
          have := szZ_le zss 1048576 (k + 1) (zss.length - (k + 1))
          rwa [show k + 1 + (zss.length - (k + 1)) = zss.length by omega] at this
        have z0 : (0 : Int) ≤ (k : Int) := by omega
        have z1 : (k : Int) < (zss.length : Int) := by omega
        have HI := Lib.hid (fun W => Try.szIntS W A' l c' (szZ zss 1048576 k) s' hs.symm (by omega) (by omega) hl1)
        clear e2 hc hl0 hs hs' hl1
        generalize szZ zss 1048576 k = s at *
        by_cases hneg : 0 ≤ s'
        · rw [if_pos hneg] at HI
          have ng : ¬ s' < 0 := by omega
          go_wp2_with (first | (go_at_call 32; refine (HI.out _).mono ?_; rintro e w1 ⟨rfl, rfl⟩))
          go_roundw
          case rel => exact ⟨rfl, k + 1, by omega, by go_num, by rw [HS'.out], by rw [HS'.out]; exact hneg⟩
          case measure => simp [intOf]; omega
        · rw [if_neg hneg] at HI
          have HE := Lib.hid (show -1 = R by rw [← HRR.out, if_neg (show ¬ 0 ≤ r by omega)])
          go_wp2_with (first | (go_at_call 32; refine (HI.out _).mono ?_; rintro e w1 ⟨rfl, rfl⟩))
          go_ret
          exact ⟨ri HE.out, rfl⟩
      · obtain rfl : k = zss.length := by omega
        rw [HR.out] at hnn ⊢
        have HE := Lib.hid (show r = R by rw [← HRR.out, if_pos hnn])
        go_wp2
        go_ret
        exact ⟨ri HE.out, rfl⟩
  · have hrn : ¬ 0 ≤ r := by rw [← HR.out]; have := szZ_le0 zss 1048576 zss.length; omega
    have HE := Lib.hid (show -1 = R by rw [← HRR.out, if_neg hrn])
    have nz : (1048576 - (zss.length : Int) < 0) := by omega
    have wz : IntKind.i64.wrap (1048576 - (zss.length : Int)) = 1048576 - (zss.length : Int) := IntWalk.i64_in _ (by omega)
    go_enter Try.func10, Try.ntmps10
    go_wp2
    go_ret
    exact ⟨ri HE.out, rfl⟩
def ERelZ (n : Nat) (w : World) (s : Value) (wr : World) : Prop := Gr w wr ∧ ∃ i : Nat, i ≤ n ∧ s = .int .i64 i
set_option maxRecDepth 100000 in
set_option maxHeartbeats 800000 in
theorem Try.eqIntSS (w : World) (B B' : Nat) (a b : Value) (zss : List (List Int)) (ha : OwnZ w B a zss) (hb : OwnZ w B' b zss) :
    Calls Try.prog 14 #[a, b] w fun e w' => e = .returned (.bool true) ∧ Gr w w' := by
  unfold OwnZ at ha hb
  have HM := Lib.hid (show zss.length ≤ maxLen by
    obtain ⟨vs, h1, h2, _⟩ := ha
    rcases h2.2 with ⟨_, q⟩ | ⟨g, cap, cur, _, _, _, q1, q2, _⟩ <;> unfold maxLen at * <;> omega)
  generalize hn : zss.length = n at *
  have HN := Lib.hid hn
  clear hn
  rcases Nat.eq_zero_or_pos n with h0 | h0
  · subst h0
    obtain ⟨A, c, rfl, _⟩ := ha.slice
    obtain ⟨A', c', rfl, _⟩ := hb.slice
    clear ha hb
    go_enter Try.func14, Try.ntmps14
    go_wp2
    refine wp_loop_rounds 1 ?_
    rw [rounds_succ]
    go_wp2
    go_ret
    exact ⟨rfl, by repeat (first | exact Gr.refl _ | refine Gr.alloc ?_ _ | refine Gr.trans ?_ (by assumption) | refine Gr.drew ?_ | refine Gr.drewN ?_ _ | refine Gr.grow ?_ _ | refine Gr.setCell ?_ (by (try simp); (try omega)) _)⟩
  · obtain ⟨g, c, rfl, hc⟩ := ha.form h0
    obtain ⟨g', c', rfl, hc'⟩ := hb.form h0
    have hm := HM.out
    unfold maxLen at hm
    have HC := Lib.hid hc
    have HC' := Lib.hid hc'
    clear hc hc' ha hb h0
    have mixed : Try.prog.follows .mixedOrders = true := by kernel_rfl
    go_enter Try.func14, Try.ntmps14
    go_wp2
    go_loopw [5] (fun s wr => ERelZ n w s wr) (fun s _ => n - (intOf s).toNat)
    case atStart => exact ⟨Gr.refl _, 0, Nat.zero_le _, rfl⟩
    case round =>
      obtain ⟨gr, i, hi, rfl⟩ := hrel
      by_cases hlt : i < n
      · obtain ⟨u, k1, k2⟩ := HC.out i hlt
        obtain ⟨u', k3, k4⟩ := HC'.out i hlt
        have e1 := gr_all gr k1
        have e3 := gr_all gr k3
        have z0 : (0 : Int) ≤ (i : Int) := by omega
        have z1 : (i : Int) < (n : Int) := by omega
        have GR := Lib.hid gr
        have K2 := Lib.hid k2
        have K4 := Lib.hid k4
        clear gr k1 k2 k3 k4
        generalize rowOf zss i = xs at *
        go_wp2
        (refine wp_region_quiet_grown mixed (by kernel_rfl) ?_; (repeat (first | go_big_quiet_step ((first | (go_at_call 17; exact Calls.grown_of (Try.eqIntS _ _ _ _ _ _ (K2.out.gr (Gr.grow (Gr.drewN GR.out _) _)) (K4.out.gr (Gr.grow (Gr.drewN GR.out _) _)))))) | quiet_step ((first | (go_at_call 17; exact Calls.grown_of (Try.eqIntS _ _ _ _ _ _ (K2.out.gr (Gr.grow (Gr.drewN GR.out _) _)) (K4.out.gr (Gr.grow (Gr.drewN GR.out _) _)))))))); refine wpQuiet_nil ?_; intro _ hw'; obtain ⟨⟨nq, osq⟩, hw''⟩ := hw'; subst hw'')
        go_wp2
        go_roundw
        case rel => exact ⟨Gr.grow (Gr.drewN GR.out _) _, i + 1, by omega, by go_num⟩
        case measure => simp [intOf]; omega
      · obtain rfl : i = n := by omega
        go_wp2
        go_ret
        exact ⟨rfl, gr⟩
theorem OwnLL.set {w : World} {B n g c : Nat} {F : Nat → List Int} (h : OwnLL w B (.slice (some ⟨g, 0, none⟩) n c) n F) (k : Nat) (hk : k < n) (u : Value) (xs : List Int) (hu : OwnI w B u xs) :
    OwnLL (w.setCell ⟨g, k, none⟩ u) B (.slice (some ⟨g, 0, none⟩) n c) n (fun j => if j = k then xs else F j) := by
  obtain ⟨vs, h1, h3, h4⟩ := h
  have gb : w.grownBy (w.setCell ⟨g, k, none⟩ u) (some g) := grownBy_set (World.grownBy.refl _ _)
  refine ⟨vs.set k u, by simpa using h1, (World.ownsRow.stored h3 k u).1, fun j z hz => ?_⟩
  by_cases e : j = k
  · subst e
    rw [List.getElem?_set_self (by omega)] at hz
    simp only [Option.some.injEq] at hz
    subst hz
    show OwnI _ B u (if j = j then xs else F j)
    rw [if_pos rfl]
    exact hu.grown gb (rows_ne hu h3)
  · rw [List.getElem?_set_ne (by omega)] at hz
    show OwnI _ B z (if j = k then xs else F j)
    rw [if_neg e]
    exact (h4 j z hz).grown gb (rows_ne (h4 j z hz) h3)
theorem OwnLL.cellK {w : World} {B n g c : Nat} {F : Nat → List Int} (h : OwnLL w B (.slice (some ⟨g, 0, none⟩) n c) n F) (k : Nat) (hk : k < n) : (∃ u, w.cell? ⟨g, k, none⟩ = some u) ∧ w.frozen? ⟨g, k, none⟩ = false := by
  obtain ⟨g', cc', hv, hcell⟩ := h.form (by omega)
  obtain ⟨uo, huo, _⟩ := hcell k hk
  simp only [Value.slice.injEq, Option.some.injEq, Addr.mk.injEq] at hv
  obtain ⟨⟨rfl, _⟩, _, rfl⟩ := hv
  refine ⟨⟨uo, huo⟩, ?_⟩
  obtain ⟨vs, q1, q3, q4⟩ := h
  exact World.ownsRow.frozenAt q3 k
theorem OwnLL.congr {w : World} {B n : Nat} {v : Value} {F G : Nat → List Int} (h : OwnLL w B v n F) (e : ∀ j, j < n → F j = G j) : OwnLL w B v n G := by
  obtain ⟨vs, h1, h3, h4⟩ := h
  exact ⟨vs, h1, h3, fun j z hz => by rw [← e j (by have := (List.getElem?_eq_some_iff.1 hz).1; omega)]; exact h4 j z hz⟩
/-- the first k are copied, the others are still nil -/
def cpz (zss : List (List Int)) (k j : Nat) : List Int := if j < k then rowOf zss j else []
theorem cpz_set (zss : List (List Int)) (k : Nat) : (fun j => if j = k then rowOf zss k else cpz zss k j) = cpz zss (k + 1) := by
  funext j
  unfold cpz
  by_cases e : j = k
  · subst e; simp
  · rw [if_neg e]
    by_cases c : j < k
    · rw [if_pos c, if_pos (by omega)]
    · rw [if_neg c, if_neg (by omega)]
def ZRel (B : Nat) (zss : List (List Int)) (v : Value) (w : World) (i : Value) (wr : World) : Prop := ∃ k : Nat, k ≤ zss.length ∧ i = .int .i64 k ∧ OwnLL wr B v zss.length (cpz zss k) ∧ Below B w wr
set_option maxRecDepth 100000 in
set_option maxHeartbeats 800000 in
theorem Try.toIntSS (w : World) (A : Option Addr) (len cap : Nat) (zss : List (List Int)) (hb : SmallZ zss) (h : ArgZ w A len cap zss) :
    Calls Try.prog 12 #[.slice A len cap] w fun e w' => ∃ v, e = .returned v ∧ OwnZ w' w.heap.size v zss ∧ Below w.heap.size w w' := by
  obtain ⟨rfl, h1, h2, h4⟩ := h
  obtain ⟨i0, hi, hz0, hz1, hz2⟩ := info_parts Try.infoS2
  have H4 := Lib.hid h4
  have HSM := Lib.hid hb
  have hsm := hb.1
  clear h1 h2 h4 hb
  go_enter Try.func12, Try.ntmps12
  go_wp2_with (at_make; refine wpList_make_full _ rfl _ _ 22 rfl w.heap.size 29 i0 (.slice none 0 0) 1 Try.underlying22 hi hz0 hz1 .i64 .i64 _ _ zss.length rfl rfl (by rfl) (by rfl) (by rw [hz2]; omega) (by unfold maxLen; omega) (Nat.le_refl _) ?_)
  intro w2 hown2 hgrow2
  have hb2 : Below w.heap.size w w2 := (Below.refl _ _).grown hgrow2 (Nat.le_refl _) (by simp)
  have ho2 : OwnLL w2 w.heap.size (.slice (some ⟨w.heap.size, 0, none⟩) zss.length zss.length) zss.length (cpz zss 0) := by
    refine ⟨List.replicate zss.length (.slice none 0 0), by simp, by simpa [Value.cells, toList_madeCells_one] using hown2, fun k u hu => ?_⟩
    rw [List.getElem?_replicate] at hu
    split at hu
    · simp only [Option.some.injEq] at hu
      subst hu
      exact OwnI.nil2 _ _
    · cases hu
  have HO := Lib.hid ho2
  have HB := Lib.hid hb2
  clear hown2 hgrow2 ho2 hb2
  go_wp2
  go_loopw [4] (fun i wr => ZRel w.heap.size zss (.slice (some ⟨w.heap.size, 0, none⟩) zss.length zss.length) w i wr) (fun i _ => (zss.length - intOf i).toNat)
  case atStart => exact ⟨0, Nat.zero_le _, rfl, HO.out, HB.out⟩
  case round =>
    obtain ⟨k, hk, rfl, ho, hb'⟩ := hrel
    by_cases hlt : k < zss.length
    · rcases H4.out with q | ⟨a, rfl, hc⟩
      · rw [q] at hlt; simp at hlt
      obtain ⟨A', l, c', e1, e2⟩ := hc k hlt
      have e0 : wr.cell? (a.add k) = some (.slice A' l c') := Below.keep3 hb' e1
      have HT := Lib.hid (Try.toIntS wr A' l c' (rowOf zss k) (by have := HSM.out.2 k; rw [e2.1] at this; exact this) (e2.below hb'))
      have z0 : (0 : Int) ≤ (k : Int) := by omega
      have z1 : (k : Int) < (zss.length : Int) := by omega
      have HO' := Lib.hid ho
      have HB' := Lib.hid hb'
      have szr := hb'.size
      clear ho hb' hc e1 e2
      go_wp2_with (first | (go_at_call 26; refine HT.out.mono ?_; rintro e w1 ⟨u, rfl, ou, bu⟩; have hou := ou.eta; clear ou; obtain ⟨Au, cu, rfl, ou⟩ := hou; have HOU := Lib.hid ou; have HBU := Lib.hid bu; clear ou bu; obtain ⟨⟨uo, huo⟩, hfr⟩ := (HO'.out.below HBU.out (Nat.le_refl _)).cellK k hlt))
      have HS := Lib.hid (cpz_set zss k ▸ OwnLL.set (HO'.out.below HBU.out (Nat.le_refl _)) k hlt _ (rowOf zss k) (HOU.out.mono szr))
      have HBN := Lib.hid ((HB'.out.trans (HBU.out.mono szr)).setCell (p := ⟨w.heap.size, k, none⟩) (Nat.le_refl _) (.slice Au (rowOf zss k).length cu))
      go_roundw
      case rel => exact ⟨k + 1, by omega, by go_num, HS.out, HBN.out⟩
      case measure => simp [intOf]; omega
    · obtain rfl : k = zss.length := by omega
      have HO' := Lib.hid ho
      have HB' := Lib.hid hb'
      clear ho hb'
      go_wp2
      go_ret
      exact ⟨_, rfl, OwnLL.congr HO'.out (fun j hj => by unfold cpz; rw [if_pos hj]), HB'.out⟩
end Go.Proofs
