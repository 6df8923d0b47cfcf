/-
  Chapter 7: maps from the states of two ends to lists of the least cost: words. The keys are structs of two ints, the elements structs that hold a slice.
-/
import Derived.Test.YtjhpebihflcanaaInts3
import Derived.Test.YtjhpebihflcanaaRlN
import Derived.Maps.OwnOps
import Derived.Maps.OwnSet
import Derived.Maps.Views
import Derived.Maps.RangeWalk
import Derived.DeepKeys4
import Derived.MapViews
namespace Go.Proofs
open Go.RowKit Go.Maps Rl
set_option linter.unusedVariables false
set_option linter.unusedSimpArgs false
/-! ### what is kept: all blocks of cells -/
/-- every block of cells is as it was -/
structure Kp (w w' : World) : Prop where
  size : w.heap.size ≤ w'.heap.size
  blk : ∀ (k : Nat) (c : Array Value) (t : TypeId) (fz : Nat × Nat), w.heap[k]? = some (Obj.cells c t fz) → w'.heap[k]? = some (Obj.cells c t fz)
theorem Kp.refl (w : World) : Kp w w := ⟨Nat.le_refl _, fun _ _ _ _ h => h⟩
theorem Kp.trans {a b c : World} (h : Kp a b) (k : Kp b c) : Kp a c := ⟨Nat.le_trans h.size k.size, fun i x t f e => k.blk i x t f (h.blk i x t f e)⟩
theorem below_kp {w w' : World} (h : Below w.heap.size w w') : Kp w w' := ⟨h.size, fun k c t fz e => by rw [h.block k (Array.getElem?_eq_some_iff.1 e).1]; exact e⟩
theorem Gr.kp {w w' : World} (h : Gr w w') : Kp w w' := below_kp h.below
theorem grown_kp {w w' : World} {b : Nat} (h : w.grownBy w' (some b)) (hb : ∀ c t fz, w.heap[b]? ≠ some (Obj.cells c t fz)) : Kp w w' := ⟨h.size, fun k c t fz e => by
  rw [h.block k (Array.getElem?_eq_some_iff.1 e).1 (fun q => by rw [Option.some.inj q] at e; exact hb _ _ _ e)]; exact e⟩
theorem none_kp {w w' : World} (h : w.grownBy w' none) : Kp w w' := ⟨h.size, fun k c t fz e => by rw [h.block k (Array.getElem?_eq_some_iff.1 e).1 (by simp)]; exact e⟩
theorem turned_kp {w w' : World} {b : Nat} (h : w.mapTurned w' b) : Kp w w' := by
  have hg := h.grown
  obtain ⟨es, clock, es', clock', e, _⟩ := h
  exact grown_kp hg (fun c t fz q => by rw [e] at q; cases q)
theorem Kp.cell {w w' : World} (h : Kp w w') {a : Addr} {v : Value} (hc : w.cell? a = some v) : w'.cell? a = some v := by
  have hb : w'.heap[a.block]? = w.heap[a.block]? := by
    unfold World.cell? at hc
    cases e : w.heap[a.block]? with
    | none => rw [e] at hc; simp at hc
    | some o =>
      cases o with
      | cells c t fz => rw [h.blk _ c t fz e]
      | _ => rw [e] at hc; simp at hc
  rw [World.cell?_of_block hb]; exact hc
theorem Kp.blkc {w w' : World} (h : Kp w w') {a : Addr} {v : Value} (hc : w.cell? a = some v) : w'.heap[a.block]? = w.heap[a.block]? := by
  unfold World.cell? at hc
  cases e : w.heap[a.block]? with
  | none => rw [e] at hc; simp at hc
  | some o =>
    cases o with
    | cells c t fz => rw [h.blk _ c t fz e]
    | _ => rw [e] at hc; simp at hc
theorem Kp.frz {w w' : World} (h : Kp w w') {a : Addr} {v : Value} (hc : w.cell? a = some v) (hf : w.frozen? a = false) : w'.frozen? a = false := by
  rw [World.frozen?_of_block (h.blkc hc)]; exact hf
theorem Kp.own {w w' : World} (h : Kp w w') {B : Nat} {v : Value} {xs : List Int} (ho : OwnI w B v xs) : OwnI w' B v xs := by
  refine ⟨ho.1, ?_⟩
  rcases ho.2 with hn | ⟨g, cap, cur, rfl, hb', hg, r⟩
  · exact .inl hn
  · exact .inr ⟨g, cap, cur, rfl, hb', h.blk _ _ _ _ hg, r⟩
/-! ### keys -/
theorem Try.eLaid : laidOutB Try.prog = true := by kernel_rfl
theorem Try.eRow : (73 : TypeId) < Try.prog.types.size := of_decide_eq_true (by kernel_rfl)
theorem Try.eWide : (match Try.prog.underlying 73 with | some (.array _ _) | some (.struct _) => true | _ => false) = true := by rw [Try.underlying73]
set_option maxRecDepth 100000 in
theorem Try.eLaw : Keyed Try.prog 73 := Keyed.of_law (deep_law_laid Try.eLaid (m := 2) (by omega) Try.eRow (by kernel_rfl) Try.eWide)
def kle (p : Int × Int) : Lit := .string (keyBytes [.int .i64 p.1, .int .i64 p.2])
def keyE (p : Int × Int) : Value := .agg #[.int .i64 p.1, .int .i64 p.2]
def wfE (p : Int × Int) : Prop := (Lit.int .i64 p.1).wf = true ∧ (Lit.int .i64 p.2).wf = true
set_option maxRecDepth 100000 in
theorem Try.keyOfE (p : Int × Int) (h : wfE p) : keyOf Try.prog 73 (keyE p) = some (kle p) := by
  obtain ⟨h1, h2⟩ := h
  have hk : Try.prog.keyType 73 = true := by kernel_rfl
  have hc : Try.prog.cellsOf 73 = 2 := by kernel_rfl
  have hc3 : Try.prog.cellsOf 3 = 1 := by kernel_rfl
  have hs : ∃ n, Try.prog.types.size = n + 1 := ⟨_, (Nat.succ_pred_eq_of_pos (Nat.lt_of_le_of_lt (Nat.zero_le _) Try.eRow)).symm⟩
  obtain ⟨n, hn⟩ := hs
  have e : List.range 2 = [0, 1] := rfl
  unfold keyOf keyE kle
  rw [Try.underlying73, hk, hn]
  simp [Value.formed, Program.keyLits, Try.underlying73, Try.underlying3, hc, hc3, Value.cells, e, h1, h2]
theorem Try.kle_inj {p q : Int × Int} (hp : wfE p) (hq : wfE q) (h : kle p = kle q) : p = q := by
  have := Try.eLaw.inj (Try.keyOfE p hp) (h ▸ Try.keyOfE q hq)
  unfold keyE at this
  simp at this
  exact Prod.ext this.1 this.2
/-- a state of a house -/
def inS (x : Int) : Prop := 0 ≤ x ∧ x < 8
def inK (p : Int × Int) : Prop := inS p.1 ∧ inS p.2
theorem inK_wf {p : Int × Int} (h : inK p) : wfE p := ⟨WalkArith.wf_i64 (by have := h.1; unfold inS at this; omega), WalkArith.wf_i64 (by have := h.2; unfold inS at this; omega)⟩
theorem Try.kleInj {p q : Int × Int} (hp : inK p) (hq : inK q) (h : kle p = kle q) : p = q := Try.kle_inj (inK_wf hp) (inK_wf hq) h
/-! ### elements -/
def slD {H : Type} : Value → Option (DataW H)
  | .slice none 0 0 => some (.agg [])
  | .slice (some ⟨g, 0, none⟩) n c => some (.agg [.lit (.int .i64 g), .lit (.int .i64 n), .lit (.int .i64 c)])
  | _ => none
def lElem {H : Type} : Value → Option (DataW H × List MemPlace)
  | .agg cs => match cs.toList with
    | [.int .i64 a, .int .i64 b, v] => (slD v).map fun d => (.agg [.lit (.int .i64 a), .lit (.int .i64 b), d], [])
    | _ => none
  | _ => none
theorem slD_inv {H : Type} {v : Value} {d : DataW H} (h : slD v = some d) : (v = .slice none 0 0 ∧ d = .agg []) ∨ ∃ g n c : Nat, v = .slice (some ⟨g, 0, none⟩) n c ∧ d = .agg [.lit (.int .i64 g), .lit (.int .i64 n), .lit (.int .i64 c)] := by
  unfold slD at h
  split at h
  · cases h; exact .inl ⟨rfl, rfl⟩
  · rename_i g n c
    cases h; exact .inr ⟨g, n, c, rfl, rfl⟩
  · cases h
theorem slD_inj {H : Type} {v v' : Value} {d : DataW H} (h : slD v = some d) (h' : slD v' = some d) : v = v' := by
  rcases slD_inv h with ⟨rfl, rfl⟩ | ⟨g, n, c, rfl, rfl⟩ <;> rcases slD_inv h' with ⟨rfl, e⟩ | ⟨g', n', c', rfl, e⟩
  · rfl
  · simp at e
  · simp at e
  · simp at e
    obtain ⟨e1, e2, e3⟩ := e
    rw [Int.ofNat.inj e1, Int.ofNat.inj e2, Int.ofNat.inj e3]
theorem lElem_inv {H : Type} {v : Value} {d : DataW H} {ps : List MemPlace} (h : lElem v = some (d, ps)) : ∃ a b s e, v = .agg #[.int .i64 a, .int .i64 b, s] ∧ slD s = some e ∧ d = .agg [.lit (.int .i64 a), .lit (.int .i64 b), e] ∧ ps = [] := by
  cases v with
  | agg cs =>
    simp only [lElem] at h
    split at h
    · rename_i a b s e
      cases hs : slD (H := H) s with
      | none => rw [hs] at h; cases h
      | some d' =>
        rw [hs] at h
        cases h
        exact ⟨a, b, s, d', by congr 1; exact Array.ext' e, hs, rfl, rfl⟩
    · cases h
  | _ => cases h
theorem lElem_inj {H : Type} {v v' : Value} {d : DataW H} {ps ps' : List MemPlace} (h : lElem v = some (d, ps)) (h' : lElem v' = some (d, ps')) : v = v' := by
  obtain ⟨a, b, s, e, rfl, hs, rfl, _⟩ := lElem_inv h
  obtain ⟨a', b', s', e', rfl, hs', hd, _⟩ := lElem_inv h'
  simp only [DataW.agg.injEq, List.cons.injEq, DataW.lit.injEq, Lit.int.injEq, true_and, and_true] at hd
  obtain ⟨rfl, rfl, rfl⟩ := hd
  rw [slD_inj hs hs']
/-- what the program keeps of the lists with the least cost -/
def LeV (w : World) (B : Nat) (v : Value) : Option Le → Prop
  | none => v = .agg #[.int .i64 0, .int .i64 0, .slice none 0 0]
  | some l => ∃ s, v = .agg #[.int .i64 l.cost, .int .i64 (l.count : Nat), s] ∧ OwnI w B s l.first
theorem LeV.kp {w w' : World} {B : Nat} {v : Value} {o : Option Le} (h : LeV w B v o) (k : Kp w w') : LeV w' B v o := by
  cases o with
  | none => exact h
  | some l => obtain ⟨s, rfl, ho⟩ := h; exact ⟨s, rfl, k.own ho⟩
theorem LeV.mono {w : World} {B C : Nat} {v : Value} {o : Option Le} (h : LeV w B v o) (hC : C ≤ B) : LeV w C v o := by
  cases o with
  | none => exact h
  | some l => obtain ⟨s, rfl, ho⟩ := h; exact ⟨s, rfl, ho.mono hC⟩
theorem LeV.elem {H : Type} {w : World} {B : Nat} {v : Value} {o : Option Le} (h : LeV w B v o) : ∃ d, lElem (H := H) v = some (d, []) := by
  cases o with
  | none => subst h; exact ⟨_, rfl⟩
  | some l =>
    obtain ⟨s, rfl, ho⟩ := h
    rcases ho.2 with ⟨rfl, _⟩ | ⟨g, cap, cur, rfl, _⟩
    · exact ⟨_, rfl⟩
    · exact ⟨_, rfl⟩
/-- a map from ends to lists -/
structure MapL (w : World) (B : Nat) (D : DataW Unit) (τ : Int × Int → Option Le) : Prop where
  tidy : Tidy D
  only : ∀ kl, Maps.has D kl = true → ∃ k, inK k ∧ kl = kle k
  has : ∀ k, inK k → Maps.has D (kle k) = (τ k).isSome
  val : ∀ k l, inK k → τ k = some l → ∃ v d, lElem v = some (d, []) ∧ (∀ z, D.atKey (kle k) z = d) ∧ LeV w B v (some l)
theorem tidy_isMapE {D : DataW Unit} (h : Tidy D) : IsMap D := by obtain ⟨es, rfl, _⟩ := h; exact ⟨es, rfl⟩
theorem MapL.kp {w w' : World} {B : Nat} {D : DataW Unit} {τ : Int × Int → Option Le} (h : MapL w B D τ) (k : Kp w w') : MapL w' B D τ :=
  ⟨h.tidy, h.only, h.has, fun q l hq e => by obtain ⟨v, d, a, b, c⟩ := h.val q l hq e; exact ⟨v, d, a, b, c.kp k⟩⟩
theorem MapL.congr {w : World} {B : Nat} {D : DataW Unit} {τ τ' : Int × Int → Option Le} (h : MapL w B D τ) (e : ∀ k, inK k → τ k = τ' k) : MapL w B D τ' :=
  ⟨h.tidy, h.only, fun k hk => by rw [← e k hk]; exact h.has k hk, fun k l hk he => h.val k l hk (by rw [e k hk]; exact he)⟩
theorem MapL.empty (w : World) (B : Nat) : MapL w B (.map []) fun _ => none :=
  ⟨tidy_empty, fun kl (h : Maps.has (.map []) kl = true) => (by cases h), fun k _ => rfl, fun k l _ (h : none = some l) => (by cases h)⟩
/-- one entry more, or another one -/
theorem Try.mapL_put {w : World} {B : Nat} {D : DataW Unit} {τ : Int × Int → Option Le} (h : MapL w B D τ) {k : Int × Int} (hk : inK k) {v : Value} {d : DataW Unit} {l : Le} (hd : lElem v = some (d, [])) (hv : LeV w B v (some l)) :
    MapL w B (D.put (kle k) d) (fun q => if q = k then some l else τ q) := by
  have hkey : WideAt.IsKeyLit (kle k) := trivial
  have hm := tidy_isMapE h.tidy
  have other : ∀ q, inK q → q ≠ k → kle q ≠ kle k := fun q hq hne e => hne (Try.kleInj hq hk e)
  refine ⟨h.tidy.put hkey d, fun kl hh => ?_, fun q hq => ?_, fun q l' hq e => ?_⟩
  · by_cases e : kl = kle k
    · exact ⟨k, hk, e⟩
    · rw [has_put_other e] at hh
      exact h.only kl hh
  · by_cases e : q = k
    · subst e
      rw [has_put_same hm hkey, if_pos rfl]; rfl
    · rw [has_put_other (other q hq e), if_neg e]
      exact h.has q hq
  · by_cases e' : q = k
    · subst e'
      rw [if_pos rfl] at e
      cases e
      exact ⟨v, d, hd, fun z => atKey_put_same hm hkey _ _, hv⟩
    · rw [if_neg e'] at e
      obtain ⟨v', d', a, b, c⟩ := h.val q l' hq e
      exact ⟨v', d', a, fun z => by rw [atKey_put_other (other q hq e')]; exact b z, c⟩
theorem Try.mapL_del {w : World} {B : Nat} {D : DataW Unit} {τ : Int × Int → Option Le} (h : MapL w B D τ) {k : Int × Int} (hk : inK k) : MapL w B (D.del (kle k)) (fun q => if q = k then none else τ q) := by
  have other : ∀ q, inK q → q ≠ k → kle q ≠ kle k := fun q hq hne e => hne (Try.kleInj hq hk e)
  refine ⟨h.tidy.del _, fun kl hh => ?_, fun q hq => ?_, fun q l' hq e => ?_⟩
  · by_cases e : kl = kle k
    · subst e; rw [has_del_same] at hh; cases hh
    · rw [has_del_other e] at hh
      exact h.only kl hh
  · by_cases e : q = k
    · subst e
      rw [has_del_same, if_pos rfl]; rfl
    · rw [has_del_other (other q hq e), if_neg e]
      exact h.has q hq
  · by_cases e' : q = k
    · subst e'
      rw [if_pos rfl] at e
      cases e
    · rw [if_neg e'] at e
      obtain ⟨v', d', a, b, c⟩ := h.val q l' hq e
      exact ⟨v', d', a, fun z => by rw [atKey_del_other (other q hq e')]; exact b z, c⟩
end Go.Proofs
