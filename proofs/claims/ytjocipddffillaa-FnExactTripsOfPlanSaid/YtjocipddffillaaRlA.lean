/-
  Arguments that are lists of lists of ints: words, and contracts of the law's own helpers (size, copy, same lists).
-/
import Derived.Test.YtjocipddffillaaRlW
import Derived.Test.YtjocipddffillaaArgs
import Derived.Deep.Matrix
namespace Go.Proofs
open Go.RowKit
set_option linter.unusedVariables false
set_option linter.unusedSimpArgs false
def rowOf (zss : List (List Int)) (k : Nat) : List Int := zss.getD k []
def OwnZ (w : World) (B : Nat) (v : Value) (zss : List (List Int)) : Prop := OwnLL w B v zss.length (rowOf zss)
theorem OwnZ.below {w w' : World} {B C : Nat} {v : Value} {zss : List (List Int)} (h : OwnZ w B v zss) (hb : Below C w w') (hC : w.heap.size ≤ C) : OwnZ w' B v zss := OwnLL.below h hb hC
theorem OwnZ.gr {w w' : World} {B : Nat} {v : Value} {zss : List (List Int)} (h : OwnZ w B v zss) (g : Gr w w') : OwnZ w' B v zss := OwnLL.gr h g
/-- An argument: nil, or a row of lists that lies anywhere. -/
def ArgZ (w : World) (A : Option Addr) (len cap : Nat) (zss : List (List Int)) : Prop :=
  zss.length = len ∧ len ≤ cap ∧ cap ≤ maxLen ∧ (zss = [] ∨ ∃ a, A = some a ∧ ∀ r, r < zss.length → ∃ A' l c, w.cell? (a.add r) = some (.slice A' l c) ∧ ArgI w A' l c (rowOf zss r))
theorem ArgZ.below {w w' : World} {A : Option Addr} {len cap : Nat} {zss : List (List Int)} (h : ArgZ w A len cap zss) (g : Below w.heap.size w w') : ArgZ w' A len cap zss := by
  obtain ⟨a, b, c, e⟩ := h
  refine ⟨a, b, c, e.imp id ?_⟩
  rintro ⟨x, rfl, hx⟩
  exact ⟨x, rfl, fun j hj => by
    obtain ⟨A', l, c', h1, h2⟩ := hx j hj
    exact ⟨A', l, c', Below.keep3 g h1, h2.below g⟩⟩
section
open Go.ChangeShapes Go.WideShapes
theorem ArgZ.of_trod {H : Type} {enc : TypeId × Value → H} {P : Program} {w : World} {base : Nat} {held : Bool} {t e q : TypeId} {fuel : Nat} {A : Option Addr} {len cap : Nat} {x : DataW H × List MemPlace}
    (ht : P.underlying t = some (.slice e)) (he : P.underlying e = some (.slice q)) (hq : P.underlying q = some (.int .i64)) (ce : P.cellsOf e = 1) (cq : P.cellsOf q = 1)
    (h : DataW.trod enc P w base (fun _ => true) held fuel t [.slice A len cap] = some x) : ∃ zss, ArgZ w A len cap zss := by
  rcases Go.Deep.open_int_rows ht he hq ce cq h with ⟨hcs, _⟩ | ⟨a, l, c, AA, L, C, Z, hcs, hb, hl, hm, hx, hi⟩
  · simp at hcs
    obtain ⟨rfl, rfl, rfl⟩ := hcs
    exact ⟨[], rfl, Nat.le_refl _, Nat.zero_le _, .inl rfl⟩
  · simp at hcs
    obtain ⟨rfl, rfl, rfl⟩ := hcs
    refine ⟨(List.range len).map fun r => (Z r).take (L r), by simp, hl, hm, .inr ⟨a, rfl, fun r hr => ?_⟩⟩
    have hrl : r < len := by simpa using hr
    obtain ⟨h1, h2, h3, h4, h5, h6, h7⟩ := hi r (by omega)
    have er : rowOf ((List.range len).map fun r => (Z r).take (L r)) r = (Z r).take (L r) := by simp [rowOf, List.getD, hrl]
    rw [er]
    refine ⟨AA r, L r, C r, h1, by simp; omega, h2, h3, fun n hn => h5 n (List.mem_of_mem_take hn), ?_⟩
    cases hA : AA r with
    | none => exact .inl (by have := h6 hA; rw [show L r = 0 by omega]; simp)
    | some a' =>
      refine .inr ⟨a', rfl, fun j hj => ?_⟩
      have hj' : j < L r := by simp at hj; omega
      rw [(h7 a' hA).2 j (by omega)]
      simp [List.getD, List.getElem?_take, hj']
end
/-- the size that is left behind k lists -/
def szZ (zss : List (List Int)) (l : Int) : Nat → Int | 0 => l - (zss.length : Int) | k + 1 => szZ zss l k - ((rowOf zss k).length : Int)
theorem szZ_le (zss : List (List Int)) (l : Int) (k m : Nat) : szZ zss l (k + m) ≤ szZ zss l k := by
  induction m with
  | zero => exact Int.le_refl _
  | succ m ih =>
    have : szZ zss l (k + m + 1) = szZ zss l (k + m) - ((rowOf zss (k + m)).length : Int) := rfl
    rw [← Nat.add_assoc]; omega
theorem szZ_le0 (zss : List (List Int)) (l : Int) (k : Nat) : szZ zss l k ≤ l - (zss.length : Int) := by
  have := szZ_le zss l 0 k
  rw [Nat.zero_add] at this
  exact this
def SmallZ (zss : List (List Int)) : Prop := zss.length ≤ 1048576 ∧ ∀ k, (rowOf zss k).length ≤ 1048576
theorem SmallZ.of {zss : List (List Int)} (h : 0 ≤ szZ zss 1048576 zss.length) : SmallZ zss := by
  have h0 := szZ_le0 zss 1048576 zss.length
  refine ⟨by omega, fun k => ?_⟩
  by_cases c : k < zss.length
  · have h1 := szZ_le0 zss 1048576 k
    have h2 := szZ_le zss 1048576 (k + 1) (zss.length - (k + 1))
    rw [show k + 1 + (zss.length - (k + 1)) = zss.length by omega] at h2
    have h3 : szZ zss 1048576 (k + 1) = szZ zss 1048576 k - ((rowOf zss k).length : Int) := rfl
    omega
  · simp [rowOf, List.getD, show zss[k]? = none by simp; omega]
def SRelZ (zss : List (List Int)) (w : World) (s i : Value) (wr : World) : Prop := w = wr ∧ ∃ k : Nat, k ≤ zss.length ∧ i = .int .i64 k ∧ s = .int .i64 (szZ zss 1048576 k) ∧ 0 ≤ szZ zss 1048576 k
def ERelZ (n : Nat) (w : World) (s : Value) (wr : World) : Prop := Gr w wr ∧ ∃ i : Nat, i ≤ n ∧ s = .int .i64 i
set_option maxRecDepth 100000 in
set_option maxHeartbeats 800000 in
theorem Try.eqIntSS (w : World) (B B' : Nat) (a b : Value) (zss : List (List Int)) (ha : OwnZ w B a zss) (hb : OwnZ w B' b zss) :
    Calls Try.prog 26 #[a, b] w fun e w' => e = .returned (.bool true) ∧ Gr w w' := by
  unfold OwnZ at ha hb
  have HM := Lib.hid (show zss.length ≤ maxLen by
    obtain ⟨vs, h1, h2, _⟩ := ha
    rcases h2.2 with ⟨_, q⟩ | ⟨g, cap, cur, _, _, _, q1, q2, _⟩ <;> unfold maxLen at * <;> omega)
  generalize hn : zss.length = n at *
  have HN := Lib.hid hn
  clear hn
  rcases Nat.eq_zero_or_pos n with h0 | h0
  · subst h0
    obtain ⟨A, c, rfl, _⟩ := ha.slice
    obtain ⟨A', c', rfl, _⟩ := hb.slice
    clear ha hb
    go_enter Try.func26, Try.ntmps26
    go_wp2
    refine wp_loop_rounds 1 ?_
    rw [rounds_succ]
    go_wp2
    go_ret
    exact ⟨rfl, by repeat (first | exact Gr.refl _ | refine Gr.alloc ?_ _ | refine Gr.trans ?_ (by assumption) | refine Gr.drew ?_ | refine Gr.drewN ?_ _ | refine Gr.grow ?_ _ | refine Gr.setCell ?_ (by (try simp); (try omega)) _)⟩
  · obtain ⟨g, c, rfl, hc⟩ := ha.form h0
    obtain ⟨g', c', rfl, hc'⟩ := hb.form h0
    have hm := HM.out
    unfold maxLen at hm
    have HC := Lib.hid hc
    have HC' := Lib.hid hc'
    clear hc hc' ha hb h0
    have mixed : Try.prog.follows .mixedOrders = true := by kernel_rfl
    go_enter Try.func26, Try.ntmps26
    go_wp2
    go_loopw [5] (fun s wr => ERelZ n w s wr) (fun s _ => n - (intOf s).toNat)
    case atStart => exact ⟨Gr.refl _, 0, Nat.zero_le _, rfl⟩
    case round =>
      obtain ⟨gr, i, hi, rfl⟩ := hrel
      by_cases hlt : i < n
      · obtain ⟨u, k1, k2⟩ := HC.out i hlt
        obtain ⟨u', k3, k4⟩ := HC'.out i hlt
        have e1 := gr_all gr k1
        have e3 := gr_all gr k3
        have z0 : (0 : Int) ≤ (i : Int) := by omega
        have z1 : (i : Int) < (n : Int) := by omega
        have GR := Lib.hid gr
        have K2 := Lib.hid k2
        have K4 := Lib.hid k4
        clear gr k1 k2 k3 k4
        generalize rowOf zss i = xs at *
        go_wp2
        (refine wp_region_quiet_grown mixed (by kernel_rfl) ?_; (repeat (first | go_big_quiet_step ((first | (go_at_call 23; exact Calls.grown_of (Try.eqIntS _ _ _ _ _ _ (K2.out.gr (Gr.grow (Gr.drewN GR.out _) _)) (K4.out.gr (Gr.grow (Gr.drewN GR.out _) _)))))) | quiet_step ((first | (go_at_call 23; exact Calls.grown_of (Try.eqIntS _ _ _ _ _ _ (K2.out.gr (Gr.grow (Gr.drewN GR.out _) _)) (K4.out.gr (Gr.grow (Gr.drewN GR.out _) _)))))))); refine wpQuiet_nil ?_; intro _ hw'; obtain ⟨⟨nq, osq⟩, hw''⟩ := hw'; subst hw'')
        go_wp2
        go_roundw
        case rel => exact ⟨Gr.grow (Gr.drewN GR.out _) _, i + 1, by omega, by go_num⟩
        case measure => simp [intOf]; omega
      · obtain rfl : i = n := by omega
        go_wp2
        go_ret
        exact ⟨rfl, gr⟩
theorem OwnLL.set {w : World} {B n g c : Nat} {F : Nat → List Int} (h : OwnLL w B (.slice (some ⟨g, 0, none⟩) n c) n F) (k : Nat) (hk : k < n) (u : Value) (xs : List Int) (hu : OwnI w B u xs) :
    OwnLL (w.setCell ⟨g, k, none⟩ u) B (.slice (some ⟨g, 0, none⟩) n c) n (fun j => if j = k then xs else F j) := by
  obtain ⟨vs, h1, h3, h4⟩ := h
  have gb : w.grownBy (w.setCell ⟨g, k, none⟩ u) (some g) := grownBy_set (World.grownBy.refl _ _)
  refine ⟨vs.set k u, by simpa using h1, (World.ownsRow.stored h3 k u).1, fun j z hz => ?_⟩
  by_cases e : j = k
  · subst e
    rw [List.getElem?_set_self (by omega)] at hz
    simp only [Option.some.injEq] at hz
    subst hz
    show OwnI _ B u (if j = j then xs else F j)
    rw [if_pos rfl]
    exact hu.grown gb (rows_ne hu h3)
  · rw [List.getElem?_set_ne (by omega)] at hz
    show OwnI _ B z (if j = k then xs else F j)
    rw [if_neg e]
    exact (h4 j z hz).grown gb (rows_ne (h4 j z hz) h3)
theorem OwnLL.cellK {w : World} {B n g c : Nat} {F : Nat → List Int} (h : OwnLL w B (.slice (some ⟨g, 0, none⟩) n c) n F) (k : Nat) (hk : k < n) : (∃ u, w.cell? ⟨g, k, none⟩ = some u) ∧ w.frozen? ⟨g, k, none⟩ = false := by
  obtain ⟨g', cc', hv, hcell⟩ := h.form (by omega)
  obtain ⟨uo, huo, _⟩ := hcell k hk
  simp only [Value.slice.injEq, Option.some.injEq, Addr.mk.injEq] at hv
  obtain ⟨⟨rfl, _⟩, _, rfl⟩ := hv
  refine ⟨⟨uo, huo⟩, ?_⟩
  obtain ⟨vs, q1, q3, q4⟩ := h
  exact World.ownsRow.frozenAt q3 k
theorem OwnLL.congr {w : World} {B n : Nat} {v : Value} {F G : Nat → List Int} (h : OwnLL w B v n F) (e : ∀ j, j < n → F j = G j) : OwnLL w B v n G := by
  obtain ⟨vs, h1, h3, h4⟩ := h
  exact ⟨vs, h1, h3, fun j z hz => by rw [← e j (by have := (List.getElem?_eq_some_iff.1 hz).1; omega)]; exact h4 j z hz⟩
/-- the first k are copied, the others are still nil -/
def cpz (zss : List (List Int)) (k j : Nat) : List Int := if j < k then rowOf zss j else []
theorem cpz_set (zss : List (List Int)) (k : Nat) : (fun j => if j = k then rowOf zss k else cpz zss k j) = cpz zss (k + 1) := by
  funext j
  unfold cpz
  by_cases e : j = k
  · subst e; simp
  · rw [if_neg e]
    by_cases c : j < k
    · rw [if_pos c, if_pos (by omega)]
    · rw [if_neg c, if_neg (by omega)]
def ZRel (B : Nat) (zss : List (List Int)) (v : Value) (w : World) (i : Value) (wr : World) : Prop := ∃ k : Nat, k ≤ zss.length ∧ i = .int .i64 k ∧ OwnLL wr B v zss.length (cpz zss k) ∧ Below B w wr
end Go.Proofs
