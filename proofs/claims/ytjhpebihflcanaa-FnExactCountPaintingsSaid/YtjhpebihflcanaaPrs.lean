/-
  Lists of pairs of ints (plates): words for a row of them that a call owns; for a list of them that is read. No program's text here.
-/
import Derived.Test.YtjhpebihflcanaaBase
import Derived.OwnWalk
import Derived.Laws.OwnMore
import Derived.Deep.LoopGhost
import Derived.LoopTactic
import Derived.Deep.MidRow
import Derived.Deep.SlicePairs
namespace Go.Proofs
open Go.RowKit
set_option linter.unusedVariables false
set_option linter.unusedSimpArgs false
theorem cell_k2 {w w' : World} {a : Addr} {v : Value} (g : Below w.heap.size w w') (h : w.cell? a = some v) : w'.cell? a = some v :=
  (g.cell (World.block_lt_of_cell? _ _ h)).trans h
theorem cell_k3 {w w' : World} {a : Addr} {v : Value} (g : Gr w w') (h : w.cell? a = some v) : w'.cell? a = some v := cell_k2 g.below h
theorem two_k2 {w w' : World} {a b : Addr} {x y : Value} (h : w.cell? a = some x ∧ w.cell? b = some y) (g : Below w.heap.size w w') : w'.cell? a = some x ∧ w'.cell? b = some y := ⟨cell_k2 g h.1, cell_k2 g h.2⟩
abbrev Pi2 := Int × Int
/-- the cells of pairs -/
def pcs : List Pi2 → List Value
  | [] => []
  | p :: ps => .int .i64 p.1 :: .int .i64 p.2 :: pcs ps
theorem pcs_len (ps : List Pi2) : (pcs ps).length = ps.length * 2 := by induction ps with | nil => rfl | cons p ps ih => simp [pcs, ih]; omega
theorem pcs_append (ps qs : List Pi2) : pcs (ps ++ qs) = pcs ps ++ pcs qs := by induction ps with | nil => rfl | cons p ps ih => simp [pcs, ih]
theorem pcs_one (ps : List Pi2) : ∀ u ∈ pcs ps, u.oneCell' = true := by
  induction ps with
  | nil => intro u hu; simp [pcs] at hu
  | cons p ps ih =>
    intro u hu
    simp only [pcs, List.mem_cons] at hu
    rcases hu with rfl | rfl | hu
    · rfl
    · rfl
    · exact ih u hu
theorem pcs_get0 (ps : List Pi2) (j : Nat) (h : j < ps.length) : (pcs ps)[j * 2]? = some (.int .i64 (ps.getD j (0, 0)).1) := by
  induction ps generalizing j with
  | nil => simp at h
  | cons p ps ih =>
    cases j with
    | zero => rfl
    | succ j => rw [show (j + 1) * 2 = j * 2 + 2 by omega]; simpa [pcs, List.getD] using ih j (by simpa using h)
theorem pcs_get1 (ps : List Pi2) (j : Nat) (h : j < ps.length) : (pcs ps)[j * 2 + 1]? = some (.int .i64 (ps.getD j (0, 0)).2) := by
  induction ps generalizing j with
  | nil => simp at h
  | cons p ps ih =>
    cases j with
    | zero => rfl
    | succ j => rw [show (j + 1) * 2 + 1 = j * 2 + 1 + 2 by omega]; simpa [pcs, List.getD] using ih j (by simpa using h)
theorem pcs_set0 (ps : List Pi2) (j : Nat) (x : Int) (h : j < ps.length) : (pcs ps).set (j * 2) (.int .i64 x) = pcs (ps.set j (x, (ps.getD j (0, 0)).2)) := by
  induction ps generalizing j with
  | nil => simp at h
  | cons p ps ih =>
    cases j with
    | zero => rfl
    | succ j => rw [show (j + 1) * 2 = j * 2 + 2 by omega]; simpa [pcs, List.getD] using ih j (by simpa using h)
theorem pcs_set1 (ps : List Pi2) (j : Nat) (x : Int) (h : j < ps.length) : (pcs ps).set (j * 2 + 1) (.int .i64 x) = pcs (ps.set j ((ps.getD j (0, 0)).1, x)) := by
  induction ps generalizing j with
  | nil => simp at h
  | cons p ps ih =>
    cases j with
    | zero => rfl
    | succ j => rw [show (j + 1) * 2 + 1 = j * 2 + 1 + 2 by omega]; simpa [pcs, List.getD] using ih j (by simpa using h)
theorem pcs_take (ps : List Pi2) (k : Nat) : (pcs ps).take (k * 2) = pcs (ps.take k) := by
  induction ps generalizing k with
  | nil => simp [pcs]
  | cons p ps ih =>
    cases k with
    | zero => simp [pcs]
    | succ k => rw [show (k + 1) * 2 = k * 2 + 2 by omega]; simpa [pcs] using ih k
theorem pcs_drop (ps : List Pi2) (k : Nat) : (pcs ps).drop (k * 2) = pcs (ps.drop k) := by
  induction ps generalizing k with
  | nil => simp [pcs]
  | cons p ps ih =>
    cases k with
    | zero => simp [pcs]
    | succ k => rw [show (k + 1) * 2 = k * 2 + 2 by omega]; simpa [pcs] using ih k
/-- The slice value v is a row of the call's own, from block B on, elements of the type T, that holds the pairs ps. -/
def OwnP (T : TypeId) (w : World) (B : Nat) (v : Value) (ps : List Pi2) : Prop := w.ownsRow B T 2 v ps.length (pcs ps)
section
variable {T : TypeId} {w w' : World} {B C : Nat} {v : Value} {ps : List Pi2}
theorem OwnP.view (h : OwnP T w B v ps) :
    (ps = [] ∧ ∃ A c, v = .slice A 0 c) ∨ (0 < ps.length ∧ ∃ g c, v = .slice (some ⟨g, 0, none⟩) ps.length c ∧ B ≤ g ∧ g < w.heap.size ∧ ps.length ≤ c ∧ c ≤ maxLen ∧
      (∀ j, j < ps.length → w.cell? ⟨g, j * 2, none⟩ = some (.int .i64 (ps.getD j (0, 0)).1) ∧ w.cell? ⟨g, j * 2 + 1, none⟩ = some (.int .i64 (ps.getD j (0, 0)).2)) ∧ ∀ j, w.frozen? ⟨g, j, none⟩ = false) := by
  have h0 := h
  rcases h.2 with ⟨rfl, hn⟩ | ⟨g, cap, cur, rfl, hb, hg, hc, hm, hs, ht⟩
  · exact .inl ⟨List.length_eq_zero_iff.1 hn, none, 0, rfl⟩
  · rcases Nat.eq_zero_or_pos ps.length with e | e
    · exact .inl ⟨List.length_eq_zero_iff.1 e, _, cap, by rw [e]⟩
    · refine .inr ⟨e, g, cap, rfl, hb, (Array.getElem?_eq_some_iff.1 hg).1, hc, hm, fun j hj => ⟨?_, ?_⟩, fun j => World.ownsRow.frozenAt h0 j⟩
      · rw [World.ownsRow.cellAt h0 (j * 2) (by omega)]; exact pcs_get0 ps j hj
      · rw [World.ownsRow.cellAt h0 (j * 2 + 1) (by omega)]; exact pcs_get1 ps j hj
theorem OwnP.slice (h : OwnP T w B v ps) : ∃ A c, v = .slice A ps.length c := by
  rcases h.2 with ⟨rfl, hn⟩ | ⟨g, cap, cur, rfl, hb, hg, hc, hm, hs, ht⟩
  · exact ⟨none, 0, by rw [hn]⟩
  · exact ⟨_, _, rfl⟩
theorem OwnP.below (h : OwnP T w B v ps) (hb : Below C w w') (hC : w.heap.size ≤ C) : OwnP T w' B v ps := by
  refine ⟨h.1, ?_⟩
  rcases h.2 with hn | ⟨g, cap, cur, rfl, hb', hg, r⟩
  · exact .inl hn
  · exact .inr ⟨g, cap, cur, rfl, hb', by rw [hb.block g (by have := (Array.getElem?_eq_some_iff.1 hg).1; omega)]; exact hg, r⟩
theorem OwnP.under (h : OwnP T w B v ps) (hb : Below C w w') (hC : ∀ g, v.ownBlock = some g → g < C) : OwnP T w' B v ps := by
  refine ⟨h.1, ?_⟩
  rcases h.2 with hn | ⟨g, cap, cur, rfl, hb', hg, r⟩
  · exact .inl hn
  · exact .inr ⟨g, cap, cur, rfl, hb', by rw [hb.block g (hC g rfl)]; exact hg, r⟩
theorem OwnP.lt (h : OwnP T w B v ps) : ∀ g, v.ownBlock = some g → g < w.heap.size := fun g hg => (World.ownsRow.lt h g hg).2
theorem OwnP.gr (h : OwnP T w B v ps) (g : Gr w w') : OwnP T w' B v ps := h.below g.below (Nat.le_refl _)
theorem OwnP.mono (h : OwnP T w B v ps) (hC : C ≤ B) : OwnP T w C v ps := by
  refine ⟨h.1, ?_⟩
  rcases h.2 with hn | ⟨g, cap, cur, rfl, hb', r⟩
  · exact .inl hn
  · exact .inr ⟨g, cap, cur, rfl, by omega, r⟩
theorem OwnP.grown {row : Option Nat} (h : OwnP T w B v ps) (hg : w.grownBy w' row) (hne : v.ownBlock = none ∨ v.ownBlock ≠ row) : OwnP T w' B v ps := World.ownsRow.kept h hg hne
/-- one cell is stored -/
theorem OwnP.set0 {g c : Nat} (h : OwnP T w B (.slice (some ⟨g, 0, none⟩) ps.length c) ps) (j : Nat) (x : Int) (hj : j < ps.length) : OwnP T (w.setCell ⟨g, j * 2, none⟩ (.int .i64 x)) B (.slice (some ⟨g, 0, none⟩) ps.length c) (ps.set j (x, (ps.getD j (0, 0)).2)) := by
  have := (World.ownsRow.stored h (j * 2) (.int .i64 x)).1
  rw [pcs_set0 ps j x hj] at this
  unfold OwnP
  simpa using this
theorem OwnP.set1 {g c : Nat} (h : OwnP T w B (.slice (some ⟨g, 0, none⟩) ps.length c) ps) (j : Nat) (x : Int) (hj : j < ps.length) : OwnP T (w.setCell ⟨g, j * 2 + 1, none⟩ (.int .i64 x)) B (.slice (some ⟨g, 0, none⟩) ps.length c) (ps.set j ((ps.getD j (0, 0)).1, x)) := by
  have := (World.ownsRow.stored h (j * 2 + 1) (.int .i64 x)).1
  rw [pcs_set1 ps j x hj] at this
  unfold OwnP
  simpa using this
theorem OwnP.at {g n c : Nat} (h : OwnP T w B (.slice (some ⟨g, 0, none⟩) n c) ps) (hn : ps.length = n) (j : Nat) (hj : j < n) :
    w.cell? ⟨g, j * 2, none⟩ = some (.int .i64 (ps.getD j (0, 0)).1) ∧ w.cell? ⟨g, j * 2 + 1, none⟩ = some (.int .i64 (ps.getD j (0, 0)).2) ∧ w.frozen? ⟨g, j * 2, none⟩ = false ∧ w.frozen? ⟨g, j * 2 + 1, none⟩ = false := by
  subst hn
  refine ⟨?_, ?_, World.ownsRow.frozenAt h _, World.ownsRow.frozenAt h _⟩
  · rw [World.ownsRow.cellAt h (j * 2) (by omega)]; exact pcs_get0 ps j hj
  · rw [World.ownsRow.cellAt h (j * 2 + 1) (by omega)]; exact pcs_get1 ps j hj
theorem OwnP.set2 {g n c : Nat} (h : OwnP T w B (.slice (some ⟨g, 0, none⟩) n c) ps) (hn : ps.length = n) (j : Nat) (x y : Int) (hj : j < n) :
    OwnP T ((w.setCell ⟨g, j * 2, none⟩ (.int .i64 x)).setCell ⟨g, j * 2 + 1, none⟩ (.int .i64 y)) B (.slice (some ⟨g, 0, none⟩) n c) (ps.set j (x, y)) := by
  subst hn
  have h1 := h.set0 j x hj
  have e : (ps.set j (x, (ps.getD j (0, 0)).2)).length = ps.length := by simp
  rw [← e] at h1
  have h2 := h1.set1 j y (by rw [e]; exact hj)
  rw [e] at h2
  simpa [List.getD, hj] using h2
end
/-- A variable of several cells that lies anywhere is read. -/
theorem run_load_at {P : Program} (w : World) (ad : Addr) (ty : TypeId) (cs : List Value) (d : TypeDesc) (hc : ∀ j v, cs[j]? = some v → w.cell? (ad.add j) = some v)
    (hu : P.underlying ty = some d) (hd : d.isRow = true) (hi : (P.info? ty).map (·.size) = some cs.length) : (Instr.loadAt ty (.pointer (some ad))).run P w = .ok (.agg cs.toArray) w := by
  have hl : (loadCells ad cs.length).run P w = .ok cs.toArray w := run_loadCells_list (P := P) w ad cs hc
  cases hq : P.info? ty with
  | none => simp [hq] at hi
  | some i =>
    have hs : i.size = cs.length := by simpa [hq] using hi
    have ha : (isAgg ty).run P w = .ok true w := by
      unfold isAgg
      rw [Sem.run_bind, run_underlying hu w]
      cases d <;> simp_all [TypeDesc.isRow]
    simp [Instr.loadAt, Instr.sureAddr, loadVar, Sem.run_bind, ha, sizeOf, typeInfo, hq, hs, hl]
theorem wpList_load_at {P : Program} {ops : Array Oper} {rest : List Oper} {op : Oper} {a : Act} {w : World} {Q : Exit → Act → World → Prop} (hgd : op.guard = none) (ty : TypeId) (x : Operand) (ho : op.op = .load ty x)
    (ad : Addr) (hx : a.eval x = .pointer (some ad)) (cs : List Value) (d : TypeDesc) (hc : ∀ j v, cs[j]? = some v → w.cell? (ad.add j) = some v)
    (hu : P.underlying ty = some d) (hd : d.isRow = true) (hi : (P.info? ty).map (·.size) = some cs.length)
    (h : wpList P ops Q rest (a.put op.dst (.agg cs.toArray)) w) : wpList P ops Q (op :: rest) a w := by
  refine wpList_plain hgd fun K hK => ?_
  unfold Oper.wp execOp
  simp only [ho, hx, Sem.run_bind, run_load_at w ad ty cs d hc hu hd hi, Sem.run_pure, Result.andThen_ok]
  exact hK _ _ h
theorem cells2 {w : World} {ad : Addr} {x y : Value} (h0 : w.cell? ad = some x) (h1 : w.cell? (ad.add 1) = some y) : ∀ j v, [x, y][j]? = some v → w.cell? (ad.add j) = some v := by
  intro j v hv
  match j with
  | 0 => simp at hv; subst hv; rw [show ad.add 0 = ad by simp [Addr.add]]; exact h0
  | 1 => simp at hv; subst hv; exact h1
  | j + 2 => simp at hv
/-- An argument of pairs: nil, or a row that lies anywhere. -/
def ArgP (w : World) (A : Option Addr) (len cap : Nat) (zs : List Pi2) : Prop :=
  zs.length = len ∧ len ≤ cap ∧ cap ≤ maxLen ∧ (∀ p ∈ zs, (Lit.int .i64 p.1).wf = true ∧ (Lit.int .i64 p.2).wf = true) ∧
    (zs = [] ∨ ∃ a, A = some a ∧ ∀ j, j < zs.length → w.cell? (a.add (j * 2)) = some (.int .i64 (zs.getD j (0, 0)).1) ∧ w.cell? (a.add (j * 2 + 1)) = some (.int .i64 (zs.getD j (0, 0)).2))
theorem ArgP.below {w w' : World} {A : Option Addr} {len cap : Nat} {zs : List Pi2} (h : ArgP w A len cap zs) (g : Below w.heap.size w w') : ArgP w' A len cap zs := by
  obtain ⟨a, b, c, d, e⟩ := h
  refine ⟨a, b, c, d, e.imp id ?_⟩
  rintro ⟨x, rfl, hx⟩
  exact ⟨x, rfl, fun j hj => ⟨cell_k2 g (hx j hj).1, cell_k2 g (hx j hj).2⟩⟩
/-- the first i are copied, the others are still zero -/
def cpp (i : Nat) (xs : List Pi2) : List Pi2 := xs.take i ++ List.replicate (xs.length - i) (0, 0)
theorem cpp_zero (xs : List Pi2) : cpp 0 xs = List.replicate xs.length (0, 0) := by simp [cpp]
theorem cpp_all (xs : List Pi2) : cpp xs.length xs = xs := by simp [cpp]
theorem cpp_len (i : Nat) (xs : List Pi2) (h : i ≤ xs.length) : (cpp i xs).length = xs.length := by simp [cpp]; omega
theorem cpp_set (i : Nat) (xs : List Pi2) (h : i < xs.length) : (cpp i xs).set i (xs.getD i (0, 0)) = cpp (i + 1) xs := by
  unfold cpp
  rw [List.set_append_right _ _ (by simp; omega)]
  have e : xs.length - i = (xs.length - (i + 1)) + 1 := by omega
  have m : min i xs.length = i := by omega
  rw [e, List.replicate_succ, List.length_take, m, Nat.sub_self, List.set_cons_zero]
  simp only [List.getD, List.getElem?_eq_getElem h, Option.getD_some]
  rw [← List.take_append_getElem h, List.append_assoc]
  rfl
theorem pcs_zero (n : Nat) : pcs (List.replicate n (0, 0)) = (madeCells #[.int .i64 0, .int .i64 0] (n * 2)).toList := by
  apply List.ext_getElem?
  intro j
  by_cases hj : j < n * 2
  · have e : (madeCells #[.int .i64 0, .int .i64 0] (n * 2)).toList[j]? = some (.int .i64 0) := by
      rcases Nat.mod_two_eq_zero_or_one j with q | q <;> simp [madeCells, hj, q]
    rw [e]
    have d : j / 2 < n := by omega
    rcases Nat.mod_two_eq_zero_or_one j with q | q
    · have := pcs_get0 (List.replicate n (0, 0)) (j / 2) (by simpa using d)
      rw [show j / 2 * 2 = j by omega] at this
      rw [this]
      simp [List.getD, d]
    · have := pcs_get1 (List.replicate n (0, 0)) (j / 2) (by simpa using d)
      rw [show j / 2 * 2 + 1 = j by omega] at this
      rw [this]
      simp [List.getD, d]
  · rw [List.getElem?_eq_none (by rw [pcs_len]; simp; omega), List.getElem?_eq_none (by simp [madeCells]; omega)]
/-- the first i are marked m, m + 1; m + 2, m + 3; .. -/
def mkp (m : Int) (i : Nat) (xs : List Pi2) : List Pi2 := (List.range i).map (fun (j : Nat) => (m + 2 * j, m + 2 * j + 1)) ++ xs.drop i
theorem mkp_zero (m : Int) (xs : List Pi2) : mkp m 0 xs = xs := by simp [mkp]
theorem mkp_len (m : Int) (i : Nat) (xs : List Pi2) (h : i ≤ xs.length) : (mkp m i xs).length = xs.length := by simp [mkp]; omega
theorem mkp_set (m : Int) (i : Nat) (xs : List Pi2) (h : i < xs.length) : (mkp m i xs).set i (m + 2 * i, m + 2 * i + 1) = mkp m (i + 1) xs := by
  unfold mkp
  rw [List.set_append_right _ _ (by simp)]
  simp only [List.length_map, List.length_range, Nat.sub_self]
  rw [List.range_succ, List.map_append, List.append_assoc, List.drop_eq_getElem_cons h, List.set_cons_zero]
  simp
theorem mkp_get (m : Int) (xs : List Pi2) (j : Nat) (h : j < xs.length) : (mkp m xs.length xs).getD j (0, 0) = (m + 2 * j, m + 2 * j + 1) := by
  simp [mkp, List.getD, h]
/-- two rows in different blocks -/
theorem own_ne {T T' : TypeId} {w w' : World} {B B' n n' s s' : Nat} {v v' : Value} {xs xs' : List Value} (h : w.ownsRow B T s v n xs) (h' : w'.ownsRow B' T' s' v' n' xs') (hlt : w'.heap.size ≤ B) : v.ownBlock = none ∨ v.ownBlock ≠ v'.ownBlock := by
  cases hv : v.ownBlock with
  | none => exact .inl rfl
  | some g =>
    refine .inr fun e => ?_
    have a := (World.ownsRow.lt h g hv).1
    have b := (World.ownsRow.lt h' g e.symm).2
    omega
theorem own_ne' {T T' : TypeId} {w w' : World} {B B' n n' s s' : Nat} {v v' : Value} {xs xs' : List Value} (h : w.ownsRow B T s v n xs) (h' : w'.ownsRow B' T' s' v' n' xs') (hlt : w.heap.size ≤ B') : v.ownBlock = none ∨ v.ownBlock ≠ v'.ownBlock := by
  cases hv : v.ownBlock with
  | none => exact .inl rfl
  | some g =>
    refine .inr fun e => ?_
    have a := (World.ownsRow.lt h g hv).2
    have b := (World.ownsRow.lt h' g e.symm).1
    omega
theorem OwnP.nil (T : TypeId) (w : World) (B : Nat) : OwnP T w B (.slice none 0 0) [] := World.ownsRow_nil w B _ 2
theorem alloc_cells {w : World} {cs : Array Value} {T : TypeId} {j : Nat} {u : Value} (h : cs.toList[j]? = some u) : (w.alloc (.cells cs T)).cell? ((⟨w.heap.size, 0, none⟩ : Addr).add j) = some u := by
  rw [show (⟨w.heap.size, 0, none⟩ : Addr).add j = ⟨w.heap.size, j, none⟩ by cases j <;> simp [Addr.add]]
  rw [cell_of_row _ w.heap.size j cs T (0, 0) (heap_alloc_new w _)]
  simpa using h
theorem alloc_cells' {w : World} {cs : Array Value} {T : TypeId} {j b : Nat} {u : Value} (hb : w.heap.size = b) (h : cs.toList[j]? = some u) : (w.alloc (.cells cs T)).cell? ((⟨b, 0, none⟩ : Addr).add j) = some u := by subst hb; exact alloc_cells h
theorem heap_new' {w : World} {o : Obj} {b : Nat} (hb : w.heap.size = b) : (w.alloc o).heap[b]? = some o := by subst hb; exact heap_alloc_new w o
/-- one more pair is appended: it lies in a block laid for it -/
theorem wpList_app1 {P : Program} {ops : Array Oper} {rest : List Oper} {o : Oper} {a : Act} {Q : Exit → Act → World → Prop} {W : World} (hgd : o.guard = none) (s x : Operand) (t : TypeId)
    (ho : o.op = .call { callee := .builtin .append, args := #[s, x], argTypes := #[t, t] }) (T : TypeId) (ht : P.underlying t = some (.slice T))
    (hinfo : (P.info? T).map (fun i => (i.zero, i.size, i.bytes)) = some (some (.agg #[.int .i64 0, .int .i64 0]), 2, 16)) (B : Nat) (v : Value) (ps : List Pi2) (hs : a.eval s = v) (h : OwnP T W B v ps)
    (p q : Int) (hx : a.eval x = .slice (some ⟨W.heap.size, 0, none⟩) 1 1) (hl : ps.length ≤ 1000000000) (hB : B ≤ W.heap.size)
    (k : ∀ v' w', OwnP T w' B v' (ps ++ [(p, q)]) → Below B W w' → W.grownBy w' v.ownBlock → W.heap.size + 1 ≤ w'.heap.size → wpList P ops Q rest (a.put o.dst v') w') :
    wpList P ops Q (o :: rest) a (W.alloc (.cells #[.int .i64 p, .int .i64 q] T)) := by
  obtain ⟨i0, hi, hz0, hz1, hz2⟩ := info_parts hinfo
  refine wpList_append_own _ hgd s x t ho B T i0 _ 2 16 ht hi hz0 hz1 hz2 rfl (by decide) v ps.length (pcs ps) hs (World.ownsRow.alloc h _) ⟨W.heap.size, 0, none⟩ 1 1 [.int .i64 p, .int .i64 q] hx rfl
    (fun j u hu => alloc_cells (by simpa using hu)) (fun u hu => by simp at hu; rcases hu with rfl | rfl <;> rfl) (by unfold maxLen; omega) (by omega) (by simp; omega) fun v' w' ho' hg _ => ?_
  have g2 : W.grownBy w' v.ownBlock := by
    have g1 := World.grownBy_alloc W (.cells #[.int .i64 p, .int .i64 q] T) v.ownBlock
    exact ⟨hg.os.trans g1.os, hg.tape.trans g1.tape, hg.output.trans g1.output, Nat.le_trans g1.size hg.size, fun j hj hne => (hg.block j (Nat.lt_of_lt_of_le hj g1.size) hne).trans (g1.block j hj hne)⟩
  refine k v' w' ?_ (Below.grown (Below.refl _ _) g2 hB fun j hj => (World.ownsRow.lt h j hj).1) g2 (by have := hg.size; simpa using this)
  unfold OwnP
  rw [pcs_append, List.length_append]
  exact ho'
/-- pairs that can be read are appended: as one step of a region that draws its order, and as one of a plain region -/
theorem wp_appP {P : Program} {o : Oper} {a : Act} {w : World} {K : Act → World → Prop} {Q : Exit → Act → World → Prop} (s x : Operand) (t : TypeId)
    (ho : o.op = .call { callee := .builtin .append, args := #[s, x], argTypes := #[t, t] }) (T : TypeId) (ht : P.underlying t = some (.slice T))
    (hinfo : (P.info? T).map (fun i => (i.zero, i.size, i.bytes)) = some (some (.agg #[.int .i64 0, .int .i64 0]), 2, 16)) (B : Nat) (v : Value) (ps : List Pi2) (hs : a.eval s = v) (h : OwnP T w B v ps)
    (ad : Addr) (m c : Nat) (qs : List Pi2) (hx : a.eval x = .slice (some ad) m c) (hm : qs.length = m) (hq : ∀ j u, (pcs qs)[j]? = some u → w.cell? (ad.add j) = some u) (hl : ps.length ≤ 1000000000) (hl2 : qs.length ≤ 1000000000) (hB : B ≤ w.heap.size)
    (k : ∀ v' w', OwnP T w' B v' (ps ++ qs) → Below B w w' → w.grownBy w' v.ownBlock → K (a.put o.dst v') w') : Oper.wp P o a w K Q := by
  obtain ⟨i0, hi, hz0, hz1, hz2⟩ := info_parts hinfo
  refine wp_append_own w s x t ho B T i0 _ 2 16 ht hi hz0 hz1 hz2 rfl (by decide) v ps.length (pcs ps) hs h ad m c (pcs qs) hx (by rw [pcs_len, hm]) hq (pcs_one qs) (by unfold maxLen; omega) (by omega) hB fun v' w' ho' hg _ => ?_
  refine k v' w' ?_ (Below.grown (Below.refl _ _) hg hB fun j hj => (World.ownsRow.lt h j hj).1) hg
  unfold OwnP
  rw [pcs_append, List.length_append, hm]
  exact ho'
theorem step_appP {P : Program} {ops : Array Oper} {o : Oper} {a : Act} {w : World} {K : Act → World → Prop} {Q : Exit → Act → World → Prop} {E : Prop} (hgd : o.guard = none) (s x : Operand) (t : TypeId)
    (ho : o.op = .call { callee := .builtin .append, args := #[s, x], argTypes := #[t, t] }) (T : TypeId) (ht : P.underlying t = some (.slice T))
    (hinfo : (P.info? T).map (fun i => (i.zero, i.size, i.bytes)) = some (some (.agg #[.int .i64 0, .int .i64 0]), 2, 16)) (B : Nat) (v : Value) (ps : List Pi2) (hs : a.eval s = v) (h : OwnP T w B v ps)
    (ad : Addr) (m c : Nat) (qs : List Pi2) (hx : a.eval x = .slice (some ad) m c) (hm : qs.length = m) (hq : ∀ j u, (pcs qs)[j]? = some u → w.cell? (ad.add j) = some u) (hl : ps.length ≤ 1000000000) (hl2 : qs.length ≤ 1000000000) (hB : B ≤ w.heap.size)
    (k : ∀ v' w', OwnP T w' B v' (ps ++ qs) → Below B w w' → w.grownBy w' v.ownBlock → K (a.put o.dst v') w') :
    if Region.wanted o (yielded ops a.tmps) = true then Oper.wp P o a w K Q else E := by
  rw [if_pos (show Region.wanted o (yielded ops a.tmps) = true by simp [Region.wanted, hgd])]
  exact wp_appP s x t ho T ht hinfo B v ps hs h ad m c qs hx hm hq hl hl2 hB k
theorem wpList_appP {P : Program} {ops : Array Oper} {rest : List Oper} {o : Oper} {a : Act} {w : World} {Q : Exit → Act → World → Prop} (hgd : o.guard = none) (s x : Operand) (t : TypeId)
    (ho : o.op = .call { callee := .builtin .append, args := #[s, x], argTypes := #[t, t] }) (T : TypeId) (ht : P.underlying t = some (.slice T))
    (hinfo : (P.info? T).map (fun i => (i.zero, i.size, i.bytes)) = some (some (.agg #[.int .i64 0, .int .i64 0]), 2, 16)) (B : Nat) (v : Value) (ps : List Pi2) (hs : a.eval s = v) (h : OwnP T w B v ps)
    (ad : Addr) (m c : Nat) (qs : List Pi2) (hx : a.eval x = .slice (some ad) m c) (hm : qs.length = m) (hq : ∀ j u, (pcs qs)[j]? = some u → w.cell? (ad.add j) = some u) (hl : ps.length ≤ 1000000000) (hl2 : qs.length ≤ 1000000000) (hB : B ≤ w.heap.size)
    (k : ∀ v' w', OwnP T w' B v' (ps ++ qs) → Below B w w' → w.grownBy w' v.ownBlock → wpList P ops Q rest (a.put o.dst v') w') : wpList P ops Q (o :: rest) a w :=
  wpList_plain hgd fun _ hK => wp_appP s x t ho T ht hinfo B v ps hs h ad m c qs hx hm hq hl hl2 hB fun v' w' h1 h2 h3 => hK _ _ (k v' w' h1 h2 h3)
/-- a literal without elements -/
theorem own_empty {T : TypeId} {w : World} {B b : Nat} (h : w.heap[b]? = some (.cells #[] T (0, 0))) (hB : B ≤ b) : OwnP T w B (.slice (some ⟨b, 0, none⟩) 0 0) [] :=
  ⟨rfl, .inr ⟨b, 0, #[], rfl, hB, h, Nat.le_refl _, by decide, rfl, rfl⟩⟩
/-- the pairs from k on, or up to k, can be read where the row lies -/
theorem OwnP.reads {T : TypeId} {w : World} {B g n c : Nat} {ps : List Pi2} (h : OwnP T w B (.slice (some ⟨g, 0, none⟩) n c) ps) (hn : ps.length = n) (k m : Nat) (hk : k + m ≤ n) :
    ∀ j u, (pcs ((ps.drop k).take m))[j]? = some u → w.cell? ((⟨g, k * 2, none⟩ : Addr).add j) = some u := by
  intro j u hu
  subst hn
  have hj : j < m * 2 := by
    have := (List.getElem?_eq_some_iff.1 hu).1
    rw [pcs_len] at this
    simp at this; omega
  rw [show (⟨g, k * 2, none⟩ : Addr).add j = ⟨g, k * 2 + j, none⟩ from Addr.add_lit _ _ _]
  rw [World.ownsRow.cellAt h (k * 2 + j) (by omega)]
  rw [← pcs_take, ← pcs_drop, List.getElem?_take, if_pos hj, List.getElem?_drop] at hu
  exact hu
end Go.Proofs
