/-
  Searches in a city: the graph of its corners; a map from corners to what is reached; a queue whose beginning moves on.
-/
import Derived.Test.YtfdiiichjopncaaDoorBrH
import Derived.Test.YtfdiiichjopncaaDoorGrMath
import Derived.Maps.OwnOps
import Derived.Maps.OwnSet
import Derived.Maps.Views
import Derived.DeepKeys4
import Derived.MapViews
import Derived.Lib.OthersKept
namespace Go.Proofs
open Go.RowKit Av Gm Go.Maps
set_option linter.unusedVariables false
set_option linter.unusedSimpArgs false
/-! ### the graph -/
/-- where one comes from a vertex in a direction -/
def nbC (Wn Hn : Nat) (cl : List Blk) (n j : Nat) : Option Nat :=
  if j < 4 ∧ n < Wn * Hn ∧ stp Wn Hn cl (((n / Hn : Nat) : Int), ((n % Hn : Nat) : Int)) j = true then some ((((n / Hn : Nat) : Int) + dx j) * Hn + (((n % Hn : Nat) : Int) + dy j)).toNat else none
theorem on_idx {Wn Hn n : Nat} (hn : n < Wn * Hn) : onC Wn Hn (((n / Hn : Nat) : Int), ((n % Hn : Nat) : Int)) := by
  have h0 : 0 < Hn := by rcases Nat.eq_zero_or_pos Hn with e | e
                         · subst e; simp at hn
                         · exact e
  have h1 : n / Hn < Wn := (Nat.div_lt_iff_lt_mul h0).2 hn
  have h2 : n % Hn < Hn := Nat.mod_lt _ h0
  unfold onC; simp only
  generalize n / Hn = a at *
  generalize n % Hn = b at *
  omega
theorem idx_on {Wn Hn : Nat} {x y : Nat} (hx : x < Wn) (hy : y < Hn) : x * Hn + y < Wn * Hn ∧ (x * Hn + y) / Hn = x ∧ (x * Hn + y) % Hn = y := by
  refine ⟨Nat.lt_of_lt_of_le (by rw [Nat.succ_mul]; omega) (Nat.mul_le_mul_right Hn hx), ?_, ?_⟩
  · rw [Nat.mul_comm, Nat.mul_add_div (by omega), Nat.div_eq_of_lt hy]; rfl
  · rw [Nat.mul_comm, Nat.mul_add_mod, Nat.mod_eq_of_lt hy]
theorem nb_some {Wn Hn : Nat} {cl : List Blk} {n j : Nat} (hj : j < 4) (hn : n < Wn * Hn) (h : stp Wn Hn cl (((n / Hn : Nat) : Int), ((n % Hn : Nat) : Int)) j = true) :
    ∃ m, nbC Wn Hn cl n j = some m ∧ m < Wn * Hn ∧ ((m / Hn : Nat) : Int) = ((n / Hn : Nat) : Int) + dx j ∧ ((m % Hn : Nat) : Int) = ((n % Hn : Nat) : Int) + dy j ∧ (m : Int) = (((n / Hn : Nat) : Int) + dx j) * Hn + (((n % Hn : Nat) : Int) + dy j) := by
  have ho : onC Wn Hn (nx (((n / Hn : Nat) : Int), ((n % Hn : Nat) : Int)) j) := by
    unfold stp at h
    simp only [Bool.and_eq_true, decide_eq_true_eq] at h
    exact of_decide_eq_true (by have := h.1; simpa using this)
  unfold onC nx at ho
  simp only at ho
  obtain ⟨x, hx⟩ : ∃ x : Nat, ((n / Hn : Nat) : Int) + dx j = x := ⟨_, (Int.toNat_of_nonneg ho.1).symm⟩
  obtain ⟨y, hy⟩ : ∃ y : Nat, ((n % Hn : Nat) : Int) + dy j = y := ⟨_, (Int.toNat_of_nonneg ho.2.2.1).symm⟩
  rw [hx, hy] at ho
  have e := idx_on (Wn := Wn) (Hn := Hn) (x := x) (y := y) (by omega) (by omega)
  refine ⟨x * Hn + y, ?_, e.1, by rw [e.2.1, hx], by rw [e.2.2, hy], by rw [hx, hy]; simp⟩
  unfold nbC
  rw [if_pos ⟨hj, hn, h⟩, hx, hy]
  congr 1
theorem nb_none {Wn Hn : Nat} {cl : List Blk} {n j : Nat} (h : stp Wn Hn cl (((n / Hn : Nat) : Int), ((n % Hn : Nat) : Int)) j = false) : nbC Wn Hn cl n j = none := by
  unfold nbC
  rw [if_neg (by rw [h]; simp)]
theorem nb_valid {Wn Hn : Nat} {cl : List Blk} : ∀ n j v, n < Wn * Hn → nbC Wn Hn cl n j = some v → v < Wn * Hn := by
  intro n j v hn h
  cases hs : stp Wn Hn cl (((n / Hn : Nat) : Int), ((n % Hn : Nat) : Int)) j
  · rw [nb_none hs] at h; cases h
  · have hj : j < 4 := by
      unfold nbC at h
      split at h
      · rename_i q; exact q.1
      · cases h
    obtain ⟨m, e, hm, _⟩ := nb_some hj hn hs
    rw [e] at h; cases h; exact hm
/-! ### the map -/
theorem Tryd.cLaid : laidOutB Tryd.prog = true := by kernel_rfl
theorem Tryd.cRow : (47 : TypeId) < Tryd.prog.types.size := of_decide_eq_true (by kernel_rfl)
theorem Tryd.cWide : (match Tryd.prog.underlying 47 with | some (.array _ _) | some (.struct _) => true | _ => false) = true := by rw [Tryd.underlying47]
set_option maxRecDepth 100000 in
theorem Tryd.cLaw : Keyed Tryd.prog 47 := Keyed.of_law (deep_law_laid Tryd.cLaid (m := 2) (by omega) Tryd.cRow (by kernel_rfl) Tryd.cWide)
/-- what a corner's key reads as -/
def klc (p : Cr) : Lit := .string (keyBytes [.int .i64 p.1, .int .i64 p.2])
def keyC (p : Cr) : Value := .agg #[.int .i64 p.1, .int .i64 p.2]
def wfC (p : Cr) : Prop := (Lit.int .i64 p.1).wf = true ∧ (Lit.int .i64 p.2).wf = true
set_option maxRecDepth 100000 in
theorem Tryd.keyOfC (p : Cr) (h : wfC p) : keyOf Tryd.prog 47 (keyC p) = some (klc p) := by
  obtain ⟨h1, h2⟩ := h
  have hk : Tryd.prog.keyType 47 = true := by kernel_rfl
  have hc : Tryd.prog.cellsOf 47 = 2 := by kernel_rfl
  have hc3 : Tryd.prog.cellsOf 3 = 1 := by kernel_rfl
  have hs : ∃ n, Tryd.prog.types.size = n + 1 := ⟨_, (Nat.succ_pred_eq_of_pos (Nat.lt_of_le_of_lt (Nat.zero_le _) Tryd.cRow)).symm⟩
  obtain ⟨n, hn⟩ := hs
  have e : List.range 2 = [0, 1] := rfl
  unfold keyOf keyC klc
  rw [Tryd.underlying47, hk, hn]
  simp [Value.formed, Program.keyLits, Tryd.underlying47, Tryd.underlying3, hc, hc3, Value.cells, e, h1, h2]
theorem Tryd.klc_inj {p q : Cr} (hp : wfC p) (hq : wfC q) (h : klc p = klc q) : p = q := by
  have := Tryd.cLaw.inj (Tryd.keyOfC p hp) (h ▸ Tryd.keyOfC q hq)
  unfold keyC at this
  simp at this
  exact Prod.ext this.1 this.2
/-- the corner of a vertex -/
def crn (Hn n : Nat) : Cr := (((n / Hn : Nat) : Int), ((n % Hn : Nat) : Int))
theorem crn_inj {Hn n m : Nat} (h : crn Hn n = crn Hn m) : n = m := by
  unfold crn at h
  simp only [Prod.mk.injEq] at h
  rw [← Nat.div_add_mod n Hn, ← Nat.div_add_mod m Hn, show n / Hn = m / Hn by omega, show n % Hn = m % Hn by omega]
theorem crn_wf {Wn Hn n : Nat} (hW : Wn ≤ 8) (hH : Hn ≤ 8) (hn : n < Wn * Hn) : wfC (crn Hn n) := by
  have ho := on_idx hn
  unfold onC at ho
  simp only at ho
  exact ⟨WalkArith.wf_i64 (by unfold crn; simp only; omega), WalkArith.wf_i64 (by unfold crn; simp only; omega)⟩
/-- how what is reached reads -/
def rElem {H : Type} : Value → Option (DataW H × List MemPlace)
  | .agg cs => match cs.toList with
    | [.int .i64 a, .int .i64 b] => some (.agg [.lit (.int .i64 a), .lit (.int .i64 b)], [])
    | _ => none
  | _ => none
theorem rElem_mk {H : Type} (a b : Int) : rElem (H := H) (.agg #[.int .i64 a, .int .i64 b]) = some (.agg [.lit (.int .i64 a), .lit (.int .i64 b)], []) := rfl
theorem rElem_inv {H : Type} {v : Value} {d : DataW H} {ps : List MemPlace} (h : rElem v = some (d, ps)) : ∃ a b, v = .agg #[.int .i64 a, .int .i64 b] ∧ d = .agg [.lit (.int .i64 a), .lit (.int .i64 b)] := by
  cases v with
  | agg cs =>
    simp only [rElem] at h
    split at h
    · rename_i a b e
      cases h
      refine ⟨a, b, ?_, rfl⟩
      congr 1
      exact Array.ext' e
    · cases h
  | _ => cases h
/-- the map holds what was found -/
structure MapIs (Hn N : Nat) (D : DataW Unit) (s : St) : Prop where
  tidy : Tidy D
  has : ∀ n, n < N → Maps.has D (klc (crn Hn n)) = decide (0 ≤ f s n)
  val : ∀ n, n < N → 0 ≤ f s n → ∀ z, D.atKey (klc (crn Hn n)) z = .agg [.lit (.int .i64 (f s n)), .lit (.int .i64 (g s n))]
  size : Maps.size D = s.q.length
theorem tidy_isMap {D : DataW Unit} (h : Tidy D) : IsMap D := by obtain ⟨es, rfl, _⟩ := h; exact ⟨es, rfl⟩
section
variable {Wn Hn : Nat} {D : DataW Unit} {s : St}
theorem Tryd.MapIs.visit (hW : Wn ≤ 8) (hH : Hn ≤ 8) (h : MapIs Hn (Wn * Hn) D s) (hI : Inv (Wn * Hn) s) {u m : Nat} (hu : u ∈ s.q) (hm : m < Wn * Hn) (ht : Tidy (D.put (klc (crn Hn m)) (.agg [.lit (.int .i64 (f (Gm.visit u s (some m)) m)), .lit (.int .i64 (g (Gm.visit u s (some m)) m))]))) :
    MapIs Hn (Wn * Hn) (D.put (klc (crn Hn m)) (.agg [.lit (.int .i64 (f (Gm.visit u s (some m)) m)), .lit (.int .i64 (g (Gm.visit u s (some m)) m))])) (Gm.visit u s (some m)) := by
  have hu0 : 0 ≤ f s u := (hI.fq u (hI.qn u hu)).2 hu
  have hkey : WideAt.IsKeyLit (klc (crn Hn m)) := trivial
  have fm : 0 ≤ f (Gm.visit u s (some m)) m := by
    rw [f_visit hI hm]
    by_cases hn : f s m < 0
    · rw [if_pos ⟨rfl, hn⟩]; omega
    · rw [if_neg (by simp [hn])]; omega
  have other : ∀ n, n < Wn * Hn → n ≠ m → klc (crn Hn n) ≠ klc (crn Hn m) := fun n hn hne e => hne (crn_inj (Tryd.klc_inj (crn_wf hW hH hn) (crn_wf hW hH hm) e))
  refine ⟨ht, fun n hn => ?_, fun n hn h0 z => ?_, ?_⟩
  · by_cases e : n = m
    · subst e
      rw [has_put_same (tidy_isMap h.tidy) hkey, decide_eq_true fm]
    · rw [has_put_other (other n hn e), h.has n hn, f_visit hI hm, if_neg (by simp [Ne.symm e])]
  · by_cases e : n = m
    · subst e
      exact atKey_put_same (tidy_isMap h.tidy) hkey _ _
    · rw [atKey_put_other (other n hn e)]
      have ef : f (Gm.visit u s (some m)) n = f s n := by rw [f_visit hI hm, if_neg (by simp [Ne.symm e])]
      have eg : g (Gm.visit u s (some m)) n = g s n := by rw [g_visit hI hm, if_neg (by simp [Ne.symm e])]
      rw [ef] at h0 ⊢
      rw [eg]
      exact h.val n hn h0 z
  · rw [size_put h.tidy, h.has m hm, h.size, q_visit]
    by_cases hn : f s m < 0
    · rw [if_pos hn, decide_eq_false (by omega)]; simp
    · rw [if_neg hn, decide_eq_true (by omega)]; simp
end
/-! ### the queue -/
section
variable {α : Type} {T : TypeId} {k : Nat} {enc : α → List Value} {w w' : World} {B C : Nat} {v : Value} {qs : List α}
/-- The slice value v is a part of a row of the call's own, from whatever place on, that holds qs. -/
def QOwn (T : TypeId) (k : Nat) (enc : α → List Value) (w : World) (B : Nat) (v : Value) (qs : List α) : Prop :=
  (qs = [] ∧ ∃ A c, v = .slice A 0 c) ∨ (0 < qs.length ∧ ∃ (g o c : Nat) (cur : Array Value), v = .slice (some ⟨g, o, none⟩) qs.length c ∧ B ≤ g ∧ w.heap[g]? = some (.cells cur T (0, 0)) ∧ qs.length ≤ c ∧ c ≤ maxLen ∧ o + c * k ≤ cur.size ∧
    ∀ j u, (ecs enc qs)[j]? = some u → cur[o + j]? = some u)
theorem QOwn.kept (h : QOwn T k enc w B v qs) {row : Option Nat} (hg : w.grownBy w' row) (hr : ∀ b, row = some b → ∀ g, v.ownBlock = some g → g ≠ b) : QOwn T k enc w' B v qs := by
  rcases h with h | ⟨h0, g, o, c, cur, rfl, hb, hh, r⟩
  · exact .inl h
  · refine .inr ⟨h0, g, o, c, cur, rfl, hb, ?_, r⟩
    rw [hg.block g (Array.getElem?_eq_some_iff.1 hh).1 (fun e => by
      rcases row with _ | b
      · cases e
      · exact hr b rfl g rfl (by cases e; rfl))]
    exact hh
theorem QOwn.lt (h : QOwn T k enc w B v qs) : ∀ b, v.ownBlock = some b → 0 < qs.length → b < w.heap.size := by
  intro b hb hp
  rcases h with ⟨rfl, _⟩ | ⟨h0, g, o, c, cur, rfl, _, hh, _⟩
  · simp at hp
  · cases hb
    exact (Array.getElem?_eq_some_iff.1 hh).1
theorem QOwn.setCell (h : QOwn T k enc w B v qs) {a : Addr} (hr : ∀ g, v.ownBlock = some g → g ≠ a.block) (u : Value) : QOwn T k enc (w.setCell a u) B v qs := by
  rcases h with h | ⟨h0, g, o, c, cur, rfl, hb, hh, r⟩
  · exact .inl h
  · exact .inr ⟨h0, g, o, c, cur, rfl, hb, by rw [heap_setCell_other w a g u (hr g rfl)]; exact hh, r⟩
theorem QOwn.gr (h : QOwn T k enc w B v qs) (g : Gr w w') : QOwn T k enc w' B v qs := by
  rcases h with h | ⟨h0, b, o, c, cur, rfl, hb, hh, r⟩
  · exact .inl h
  · exact .inr ⟨h0, b, o, c, cur, rfl, hb, by rw [g.below.block b (Array.getElem?_eq_some_iff.1 hh).1]; exact hh, r⟩
end
end Go.Proofs
