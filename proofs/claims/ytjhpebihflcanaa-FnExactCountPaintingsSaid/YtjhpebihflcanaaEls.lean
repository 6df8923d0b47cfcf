/-
  Lists of structs of several cells: words for a row of them that a call owns; for a list of them that is read. No program's text here.
-/
import Derived.Test.YtjhpebihflcanaaPrs
import Derived.Laws.CopyRow
namespace Go.Proofs
open Go.RowKit
set_option linter.unusedVariables false
set_option linter.unusedSimpArgs false
/-- the cells of elements -/
def ecs {α : Type} (enc : α → List Value) : List α → List Value
  | [] => []
  | x :: xs => enc x ++ ecs enc xs
section
variable {α : Type} {enc : α → List Value} {k : Nat}
theorem ecs_len (hk : ∀ x, (enc x).length = k) (xs : List α) : (ecs enc xs).length = xs.length * k := by
  induction xs with
  | nil => simp [ecs]
  | cons x xs ih => simp only [ecs, List.length_append, List.length_cons, ih, hk, Nat.succ_mul]; omega
theorem ecs_append (xs ys : List α) : ecs enc (xs ++ ys) = ecs enc xs ++ ecs enc ys := by induction xs with | nil => rfl | cons p ps ih => simp [ecs, ih]
theorem ecs_one (h1 : ∀ x, ∀ u ∈ enc x, u.oneCell' = true) (xs : List α) : ∀ u ∈ ecs enc xs, u.oneCell' = true := by
  induction xs with
  | nil => intro u hu; simp [ecs] at hu
  | cons x xs ih =>
    intro u hu
    simp only [ecs, List.mem_append] at hu
    rcases hu with hu | hu
    · exact h1 x u hu
    · exact ih u hu
theorem ecs_get (hk : ∀ x, (enc x).length = k) (d : α) (xs : List α) (j i : Nat) (hj : j < xs.length) (hi : i < k) : (ecs enc xs)[j * k + i]? = (enc (xs.getD j d))[i]? := by
  induction xs generalizing j with
  | nil => simp at hj
  | cons x xs ih =>
    have hx := hk x
    cases j with
    | zero => simp only [ecs, Nat.zero_mul, Nat.zero_add]; rw [List.getElem?_append_left (by omega)]; rfl
    | succ j =>
      simp only [ecs]
      rw [Nat.succ_mul, List.getElem?_append_right (by omega), hx, show j * k + k + i - k = j * k + i by omega, ih j (by simpa using hj)]
      rfl
theorem ecs_set (hk : ∀ x, (enc x).length = k) (d : α) (xs : List α) (j i : Nat) (v : Value) (y : α) (hj : j < xs.length) (hi : i < k) (hy : enc y = (enc (xs.getD j d)).set i v) :
    (ecs enc xs).set (j * k + i) v = ecs enc (xs.set j y) := by
  induction xs generalizing j with
  | nil => simp at hj
  | cons x xs ih =>
    have hx := hk x
    cases j with
    | zero =>
      simp only [ecs, Nat.zero_mul, Nat.zero_add, List.set_cons_zero]
      rw [List.set_append_left _ _ (by omega), hy]
      rfl
    | succ j =>
      simp only [ecs, List.set_cons_succ]
      rw [Nat.succ_mul, List.set_append_right _ _ (by omega), hx, show j * k + k + i - k = j * k + i by omega, ih j (by simpa using hj) (by simpa [List.getD] using hy)]
theorem ecs_take (hk : ∀ x, (enc x).length = k) (xs : List α) (m : Nat) : (ecs enc xs).take (m * k) = ecs enc (xs.take m) := by
  induction xs generalizing m with
  | nil => simp [ecs]
  | cons x xs ih =>
    have hx := hk x
    cases m with
    | zero => simp [ecs]
    | succ m =>
      simp only [ecs, List.take_succ_cons]
      rw [Nat.succ_mul, List.take_append, hx, List.take_of_length_le (by omega), show m * k + k - k = m * k by omega, ih]
theorem ecs_drop (hk : ∀ x, (enc x).length = k) (xs : List α) (m : Nat) : (ecs enc xs).drop (m * k) = ecs enc (xs.drop m) := by
  induction xs generalizing m with
  | nil => simp [ecs]
  | cons x xs ih =>
    have hx := hk x
    cases m with
    | zero => simp [ecs]
    | succ m =>
      simp only [ecs, List.drop_succ_cons]
      rw [Nat.succ_mul, List.drop_append, hx, List.drop_of_length_le (by omega), show m * k + k - k = m * k by omega, ih]
      rfl
/-- zeros: what a new row holds -/
theorem ecs_zero (hk : ∀ x, (enc x).length = k) (h0 : 0 < k) (d : α) (zs : Array Value) (hz : enc d = zs.toList) (n : Nat) : ecs enc (List.replicate n d) = (madeCells zs (n * k)).toList := by
  have hzs : zs.size = k := by rw [← hk d, hz]; simp
  apply List.ext_getElem?
  intro j
  by_cases hj : j < n * k
  · have e : (madeCells zs (n * k)).toList[j]? = zs[j % k]? := by
      have : j % zs.size < zs.size := Nat.mod_lt _ (by omega)
      simp [madeCells, hj, hzs] 
      have : j % k < zs.size := by rw [hzs]; exact Nat.mod_lt _ h0
      simp [this]
    have d1 : j / k < n := (Nat.div_lt_iff_lt_mul h0).2 hj
    have d2 : j % k < k := Nat.mod_lt _ h0
    have := ecs_get hk d (List.replicate n d) (j / k) (j % k) (by simpa using d1) d2
    rw [show j / k * k + j % k = j by rw [Nat.mul_comm]; exact Nat.div_add_mod j k] at this
    rw [this, e, show (List.replicate n d).getD (j / k) d = d by simp [List.getD, d1], hz]
    simp
  · rw [List.getElem?_eq_none (by rw [ecs_len hk]; simp; omega), List.getElem?_eq_none (by simp [madeCells]; omega)]
end
/-- The slice value v is a row of the call's own, from block B on, elements of the type T in k cells each, that holds xs. -/
def OwnE {α : Type} (T : TypeId) (k : Nat) (enc : α → List Value) (w : World) (B : Nat) (v : Value) (xs : List α) : Prop := w.ownsRow B T k v xs.length (ecs enc xs)
section
variable {α : Type} {T : TypeId} {k : Nat} {enc : α → List Value} {w w' : World} {B C : Nat} {v : Value} {ps : List α}
theorem OwnE.view (hk : ∀ x, (enc x).length = k) (d : α) (h : OwnE T k enc w B v ps) :
    (ps = [] ∧ ∃ A c, v = .slice A 0 c) ∨ (0 < ps.length ∧ ∃ g c, v = .slice (some ⟨g, 0, none⟩) ps.length c ∧ B ≤ g ∧ g < w.heap.size ∧ ps.length ≤ c ∧ c ≤ maxLen ∧
      (∀ j i, j < ps.length → i < k → w.cell? ⟨g, j * k + i, none⟩ = (enc (ps.getD j d))[i]?) ∧ ∀ j, w.frozen? ⟨g, j, none⟩ = false) := by
  have h0 := h
  rcases h.2 with ⟨rfl, hn⟩ | ⟨g, cap, cur, rfl, hb, hg, hc, hm, hs, ht⟩
  · exact .inl ⟨List.length_eq_zero_iff.1 hn, none, 0, rfl⟩
  · rcases Nat.eq_zero_or_pos ps.length with e | e
    · exact .inl ⟨List.length_eq_zero_iff.1 e, _, cap, by rw [e]⟩
    · refine .inr ⟨e, g, cap, rfl, hb, (Array.getElem?_eq_some_iff.1 hg).1, hc, hm, fun j i hj hi => ?_, fun j => World.ownsRow.frozenAt h0 j⟩
      have : j * k + i < ps.length * k := Nat.lt_of_lt_of_le (by rw [Nat.succ_mul]; omega) (Nat.mul_le_mul_right k hj)
      rw [World.ownsRow.cellAt h0 _ this]
      exact ecs_get hk d ps j i hj hi
theorem OwnE.slice (h : OwnE T k enc w B v ps) : ∃ A c, v = .slice A ps.length c := by
  rcases h.2 with ⟨rfl, hn⟩ | ⟨g, cap, cur, rfl, hb, hg, hc, hm, hs, ht⟩
  · exact ⟨none, 0, by rw [hn]⟩
  · exact ⟨_, _, rfl⟩
theorem OwnE.eta (h : OwnE T k enc w B v ps) : ∃ A c, v = .slice A ps.length c ∧ OwnE T k enc w B (.slice A ps.length c) ps := by
  obtain ⟨A, c, rfl⟩ := h.slice
  exact ⟨A, c, rfl, h⟩
theorem OwnE.below (h : OwnE T k enc w B v ps) (hb : Below C w w') (hC : w.heap.size ≤ C) : OwnE T k enc w' B v ps := by
  refine ⟨h.1, ?_⟩
  rcases h.2 with hn | ⟨g, cap, cur, rfl, hb', hg, r⟩
  · exact .inl hn
  · exact .inr ⟨g, cap, cur, rfl, hb', by rw [hb.block g (by have := (Array.getElem?_eq_some_iff.1 hg).1; omega)]; exact hg, r⟩
theorem OwnE.under (h : OwnE T k enc w B v ps) (hb : Below C w w') (hC : ∀ g, v.ownBlock = some g → g < C) : OwnE T k enc w' B v ps := by
  refine ⟨h.1, ?_⟩
  rcases h.2 with hn | ⟨g, cap, cur, rfl, hb', hg, r⟩
  · exact .inl hn
  · exact .inr ⟨g, cap, cur, rfl, hb', by rw [hb.block g (hC g rfl)]; exact hg, r⟩
theorem OwnE.lt (h : OwnE T k enc w B v ps) : ∀ g, v.ownBlock = some g → g < w.heap.size := fun g hg => (World.ownsRow.lt h g hg).2
theorem OwnE.gr (h : OwnE T k enc w B v ps) (g : Gr w w') : OwnE T k enc w' B v ps := h.below g.below (Nat.le_refl _)
theorem OwnE.mono (h : OwnE T k enc w B v ps) (hC : C ≤ B) : OwnE T k enc w C v ps := by
  refine ⟨h.1, ?_⟩
  rcases h.2 with hn | ⟨g, cap, cur, rfl, hb', r⟩
  · exact .inl hn
  · exact .inr ⟨g, cap, cur, rfl, by omega, r⟩
theorem OwnE.grown {row : Option Nat} (h : OwnE T k enc w B v ps) (hg : w.grownBy w' row) (hne : v.ownBlock = none ∨ v.ownBlock ≠ row) : OwnE T k enc w' B v ps := World.ownsRow.kept h hg hne
theorem OwnE.setOther (h : OwnE T k enc w B v ps) {a : Addr} (ha : a.block < B) (u : Value) : OwnE T k enc (w.setCell a u) B v ps := by
  refine ⟨h.1, ?_⟩
  rcases h.2 with hn | ⟨g, cap, cur, rfl, hb', hg, r⟩
  · exact .inl hn
  · exact .inr ⟨g, cap, cur, rfl, hb', by rw [heap_setCell_other w a g u (fun e => by omega)]; exact hg, r⟩
/-- one cell is stored -/
theorem OwnE.set (hk : ∀ x, (enc x).length = k) (d : α) {g n c : Nat} (h : OwnE T k enc w B (.slice (some ⟨g, 0, none⟩) n c) ps) (hn : ps.length = n) (j i : Nat) (u : Value) (y : α) (hj : j < n) (hi : i < k) (hy : enc y = (enc (ps.getD j d)).set i u) :
    OwnE T k enc (w.setCell ⟨g, j * k + i, none⟩ u) B (.slice (some ⟨g, 0, none⟩) n c) (ps.set j y) := by
  subst hn
  have := (World.ownsRow.stored h (j * k + i) u).1
  rw [ecs_set hk d ps j i u y hj hi hy] at this
  unfold OwnE
  simpa using this
theorem OwnE.cell (hk : ∀ x, (enc x).length = k) (d : α) {g n c : Nat} (h : OwnE T k enc w B (.slice (some ⟨g, 0, none⟩) n c) ps) (hn : ps.length = n) (j i : Nat) (hj : j < n) (hi : i < k) :
    w.cell? ⟨g, j * k + i, none⟩ = (enc (ps.getD j d))[i]? ∧ w.frozen? ⟨g, j * k + i, none⟩ = false := by
  subst hn
  refine ⟨?_, World.ownsRow.frozenAt h _⟩
  have : j * k + i < ps.length * k := Nat.lt_of_lt_of_le (by rw [Nat.succ_mul]; omega) (Nat.mul_le_mul_right k hj)
  rw [World.ownsRow.cellAt h _ this]
  exact ecs_get hk d ps j i hj hi
theorem OwnE.nil (T : TypeId) (k : Nat) (enc : α → List Value) (w : World) (B : Nat) : OwnE T k enc w B (.slice none 0 0) [] := World.ownsRow_nil w B _ k
theorem OwnE.empty {b : Nat} (h : w.heap[b]? = some (.cells #[] T (0, 0))) (hB : B ≤ b) : OwnE T k enc w B (.slice (some ⟨b, 0, none⟩) 0 0) [] :=
  ⟨by simp [ecs], .inr ⟨b, 0, #[], rfl, hB, h, Nat.le_refl _, by decide, by simp, by simp [ecs]⟩⟩
/-- the elements from m on, so many, can be read where the row lies -/
theorem OwnE.reads (hk : ∀ x, (enc x).length = k) {g n c : Nat} (h : OwnE T k enc w B (.slice (some ⟨g, 0, none⟩) n c) ps) (hn : ps.length = n) (m l : Nat) (hm : m + l ≤ n) :
    ∀ j u, (ecs enc ((ps.drop m).take l))[j]? = some u → w.cell? ((⟨g, m * k, none⟩ : Addr).add j) = some u := by
  intro j u hu
  subst hn
  have hj : j < l * k := by
    have := (List.getElem?_eq_some_iff.1 hu).1
    rw [ecs_len hk] at this
    refine Nat.lt_of_lt_of_le this (Nat.mul_le_mul_right k ?_)
    simp; omega
  rw [show (⟨g, m * k, none⟩ : Addr).add j = ⟨g, m * k + j, none⟩ from Addr.add_lit _ _ _]
  rw [World.ownsRow.cellAt h (m * k + j) (Nat.lt_of_lt_of_le (by rw [Nat.add_mul]; omega) (Nat.mul_le_mul_right k hm))]
  rw [← ecs_take hk, ← ecs_drop hk, List.getElem?_take, if_pos hj, List.getElem?_drop] at hu
  exact hu
theorem OwnE.reads_all (hk : ∀ x, (enc x).length = k) {g n c : Nat} (h : OwnE T k enc w B (.slice (some ⟨g, 0, none⟩) n c) ps) (hn : ps.length = n) :
    ∀ j u, (ecs enc ps)[j]? = some u → w.cell? ((⟨g, 0, none⟩ : Addr).add j) = some u := by
  have := OwnE.reads hk h hn 0 n (by omega)
  simpa [← hn] using this
end
/-- An argument of structs: nil, or a row that lies anywhere. -/
def ArgE {α : Type} (k : Nat) (enc : α → List Value) (w : World) (A : Option Addr) (len cap : Nat) (zs : List α) : Prop :=
  zs.length = len ∧ len ≤ cap ∧ cap ≤ maxLen ∧ (zs = [] ∨ ∃ a, A = some a ∧ ∀ j u, (ecs enc zs)[j]? = some u → w.cell? (a.add j) = some u)
theorem ArgE.below {α : Type} {k : Nat} {enc : α → List Value} {w w' : World} {A : Option Addr} {len cap : Nat} {zs : List α} (h : ArgE k enc w A len cap zs) (g : Below w.heap.size w w') : ArgE k enc w' A len cap zs := by
  obtain ⟨a, b, c, e⟩ := h
  refine ⟨a, b, c, e.imp id ?_⟩
  rintro ⟨x, rfl, hx⟩
  exact ⟨x, rfl, fun j u hu => cell_k2 g (hx j u hu)⟩
/-- the cells of one element of what is read -/
theorem ArgE.at {α : Type} {k : Nat} {enc : α → List Value} (hk : ∀ x, (enc x).length = k) (d : α) {w : World} {a : Addr} {zs : List α} (h : ∀ j u, (ecs enc zs)[j]? = some u → w.cell? (a.add j) = some u) (j : Nat) (hj : j < zs.length) :
    ∀ i u, (enc (zs.getD j d))[i]? = some u → w.cell? ((a.add (j * k)).add i) = some u := by
  intro i u hu
  have hi : i < k := by have := (List.getElem?_eq_some_iff.1 hu).1; rwa [hk] at this
  rw [Go.Deep.add_add]
  exact h _ _ ((ecs_get hk d zs j i hj hi).trans hu)
/-- the first i are copied, the others are still zero -/
def cpe {α : Type} (d : α) (i : Nat) (xs : List α) : List α := xs.take i ++ List.replicate (xs.length - i) d
section
variable {α : Type} {d : α}
theorem cpe_zero (xs : List α) : cpe d 0 xs = List.replicate xs.length d := by simp [cpe]
theorem cpe_all (xs : List α) : cpe d xs.length xs = xs := by simp [cpe]
theorem cpe_len (i : Nat) (xs : List α) (h : i ≤ xs.length) : (cpe d i xs).length = xs.length := by simp [cpe]; omega
theorem cpe_set (i : Nat) (xs : List α) (h : i < xs.length) : (cpe d i xs).set i (xs.getD i d) = cpe d (i + 1) xs := by
  unfold cpe
  rw [List.set_append_right _ _ (by simp; omega)]
  have e : xs.length - i = (xs.length - (i + 1)) + 1 := by omega
  have m : min i xs.length = i := by omega
  rw [e, List.replicate_succ, List.length_take, m, Nat.sub_self, List.set_cons_zero]
  simp only [List.getD, List.getElem?_eq_getElem h, Option.getD_some]
  rw [← List.take_append_getElem h, List.append_assoc]
  rfl
/-- the first i are marked -/
def mke (f : Nat → α) (i : Nat) (xs : List α) : List α := (List.range i).map f ++ xs.drop i
theorem mke_zero (f : Nat → α) (xs : List α) : mke f 0 xs = xs := by simp [mke]
theorem mke_len (f : Nat → α) (i : Nat) (xs : List α) (h : i ≤ xs.length) : (mke f i xs).length = xs.length := by simp [mke]; omega
theorem mke_set (f : Nat → α) (i : Nat) (xs : List α) (h : i < xs.length) : (mke f i xs).set i (f i) = mke f (i + 1) xs := by
  unfold mke
  rw [List.set_append_right _ _ (by simp)]
  simp only [List.length_map, List.length_range, Nat.sub_self]
  rw [List.range_succ, List.map_append, List.append_assoc, List.drop_eq_getElem_cons h, List.set_cons_zero]
  simp
theorem mke_get (f : Nat → α) (xs : List α) (j : Nat) (h : j < xs.length) : (mke f xs.length xs).getD j d = f j := by
  simp [mke, List.getD, h]
end
section
variable {α : Type} {k bytes : Nat} {enc : α → List Value} {P : Program} {o : Oper} {a : Act} {W : World} {Q : Exit → Act → World → Prop} {Z : Value}
/-- elements that can be read are appended -/
theorem wp_appE (hk : ∀ x, (enc x).length = k) (h1 : ∀ x, ∀ u ∈ enc x, u.oneCell' = true) {K : Act → World → Prop} (s x : Operand) (t : TypeId)
    (ho : o.op = .call { callee := .builtin .append, args := #[s, x], argTypes := #[t, t] }) (T : TypeId) (ht : P.underlying t = some (.slice T))
    (hinfo : (P.info? T).map (fun i => (i.zero, i.size, i.bytes)) = some (some Z, k, bytes)) (hZ : Z.cells.size = k) (h0 : 0 < k) (hby : bytes ≤ 64) (B : Nat) (v : Value) (ps : List α) (hs : a.eval s = v) (h : OwnE T k enc W B v ps)
    (ad : Addr) (m c : Nat) (qs : List α) (hx : a.eval x = .slice (some ad) m c) (hm : qs.length = m) (hq : ∀ j u, (ecs enc qs)[j]? = some u → W.cell? (ad.add j) = some u) (hl : ps.length ≤ 1000000000) (hl2 : qs.length ≤ 1000000000) (hB : B ≤ W.heap.size)
    (kk : ∀ v' w', OwnE T k enc w' B v' (ps ++ qs) → Below B W w' → W.grownBy w' v.ownBlock → (v' = .slice none 0 0 ↔ v = .slice none 0 0 ∧ m = 0) → K (a.put o.dst v') w') : Oper.wp P o a W K Q := by
  obtain ⟨i0, hi, hz0, hz1, hz2⟩ := info_parts hinfo
  have hb : (ps.length + m) * bytes ≤ 140737488355328 := Nat.le_trans (Nat.mul_le_mul (show ps.length + m ≤ 2000000000 by omega) hby) (by decide)
  refine wp_append_own W s x t ho B T i0 _ k bytes ht hi hz0 hz1 hz2 hZ h0 v ps.length (ecs enc ps) hs h ad m c (ecs enc qs) hx (by rw [ecs_len hk, hm]) hq (ecs_one h1 qs) (by unfold maxLen; omega) hb hB fun v' w' ho' hg hn => ?_
  refine kk v' w' ?_ (Below.grown (Below.refl _ _) hg hB fun j hj => (World.ownsRow.lt h j hj).1) hg hn
  unfold OwnE
  rw [ecs_append, List.length_append, hm]
  exact ho'
theorem wpList_appE (hk : ∀ x, (enc x).length = k) (h1 : ∀ x, ∀ u ∈ enc x, u.oneCell' = true) {ops : Array Oper} {rest : List Oper} (hgd : o.guard = none) (s x : Operand) (t : TypeId)
    (ho : o.op = .call { callee := .builtin .append, args := #[s, x], argTypes := #[t, t] }) (T : TypeId) (ht : P.underlying t = some (.slice T))
    (hinfo : (P.info? T).map (fun i => (i.zero, i.size, i.bytes)) = some (some Z, k, bytes)) (hZ : Z.cells.size = k) (h0 : 0 < k) (hby : bytes ≤ 64) (B : Nat) (v : Value) (ps : List α) (hs : a.eval s = v) (h : OwnE T k enc W B v ps)
    (ad : Addr) (m c : Nat) (qs : List α) (hx : a.eval x = .slice (some ad) m c) (hm : qs.length = m) (hq : ∀ j u, (ecs enc qs)[j]? = some u → W.cell? (ad.add j) = some u) (hl : ps.length ≤ 1000000000) (hl2 : qs.length ≤ 1000000000) (hB : B ≤ W.heap.size)
    (kk : ∀ v' w', OwnE T k enc w' B v' (ps ++ qs) → Below B W w' → W.grownBy w' v.ownBlock → (v' = .slice none 0 0 ↔ v = .slice none 0 0 ∧ m = 0) → wpList P ops Q rest (a.put o.dst v') w') : wpList P ops Q (o :: rest) a W :=
  wpList_plain hgd fun _ hK => wp_appE hk h1 s x t ho T ht hinfo hZ h0 hby B v ps hs h ad m c qs hx hm hq hl hl2 hB fun v' w' h1 h2 h3 h4 => hK _ _ (kk v' w' h1 h2 h3 h4)
theorem step_appE (hk : ∀ x, (enc x).length = k) (h1 : ∀ x, ∀ u ∈ enc x, u.oneCell' = true) {ops : Array Oper} {K : Act → World → Prop} {E : Prop} (hgd : o.guard = none) (s x : Operand) (t : TypeId)
    (ho : o.op = .call { callee := .builtin .append, args := #[s, x], argTypes := #[t, t] }) (T : TypeId) (ht : P.underlying t = some (.slice T))
    (hinfo : (P.info? T).map (fun i => (i.zero, i.size, i.bytes)) = some (some Z, k, bytes)) (hZ : Z.cells.size = k) (h0 : 0 < k) (hby : bytes ≤ 64) (B : Nat) (v : Value) (ps : List α) (hs : a.eval s = v) (h : OwnE T k enc W B v ps)
    (ad : Addr) (m c : Nat) (qs : List α) (hx : a.eval x = .slice (some ad) m c) (hm : qs.length = m) (hq : ∀ j u, (ecs enc qs)[j]? = some u → W.cell? (ad.add j) = some u) (hl : ps.length ≤ 1000000000) (hl2 : qs.length ≤ 1000000000) (hB : B ≤ W.heap.size)
    (kk : ∀ v' w', OwnE T k enc w' B v' (ps ++ qs) → Below B W w' → W.grownBy w' v.ownBlock → (v' = .slice none 0 0 ↔ v = .slice none 0 0 ∧ m = 0) → K (a.put o.dst v') w') :
    if Region.wanted o (yielded ops a.tmps) = true then Oper.wp P o a W K Q else E := by
  rw [if_pos (show Region.wanted o (yielded ops a.tmps) = true by simp [Region.wanted, hgd])]
  exact wp_appE hk h1 s x t ho T ht hinfo hZ h0 hby B v ps hs h ad m c qs hx hm hq hl hl2 hB kk
end
end Go.Proofs
