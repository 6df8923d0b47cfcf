/-
  The built-in copy at rows of pairs (plates): as an operation of a plain region, and of one that draws its order. No program's text here.
-/
import Derived.Test.YtfdiiichjopncaaDoorPrs
import Derived.Laws.CopyRow
namespace Go.Proofs
open Go.RowKit
set_option linter.unusedVariables false
set_option linter.unusedSimpArgs false
/-- cells laid over others, from a place on -/
def over (L : List Value) (off : Nat) (cs : List Value) : List Value := L.take off ++ (cs ++ L.drop (off + cs.length))
theorem over_len (L : List Value) (off : Nat) (cs : List Value) (h : off + cs.length ≤ L.length) : (over L off cs).length = L.length := by simp [over]; omega
theorem over_get_in (L : List Value) (off : Nat) (cs : List Value) (j : Nat) (h : off + cs.length ≤ L.length) (hj : j < cs.length) : (over L off cs)[off + j]? = cs[j]? := by
  unfold over
  rw [List.getElem?_append_right (by simp; omega)]
  have e : off + j - (L.take off).length = j := by simp; omega
  rw [e, List.getElem?_append_left hj]
theorem over_get_lo (L : List Value) (off : Nat) (cs : List Value) (j : Nat) (h : off + cs.length ≤ L.length) (hj : j < off) : (over L off cs)[j]? = L[j]? := by
  unfold over
  rw [List.getElem?_append_left (by simp; omega), List.getElem?_take, if_pos hj]
theorem over_get_hi (L : List Value) (off : Nat) (cs : List Value) (j : Nat) (h : off + cs.length ≤ L.length) (hj : off + cs.length ≤ j) : (over L off cs)[j]? = L[j]? := by
  unfold over
  rw [List.getElem?_append_right (by simp; omega), List.getElem?_append_right (by simp; omega), List.getElem?_drop]
  congr 1
  simp
  omega
theorem run_copyP {P : Program} (w : World) (dT sT ty elem : TypeId) (g o dLen dCap : Nat) (a : Addr) (sLen sCap : Nat) (cur : Array Value) (t : TypeId) (cs : List Value) (n : Nat)
    (hu : P.underlying dT = some (.slice elem)) (hs : (P.info? elem).map (·.size) = some 2)
    (hg : w.heap[g]? = some (.cells cur t (0, 0))) (hn : n = Nat.min sLen dLen) (hl : cs.length = n * 2)
    (hsrc : ∀ j v, cs[j]? = some v → w.cell? (a.add j) = some v) (hfit : o + cs.length ≤ cur.size) (h1 : ∀ v ∈ cs, v.oneCell' = true) :
    (Builtin.copy_ #[dT, sT] ty #[.slice (some ⟨g, o, none⟩) dLen dCap, .slice (some a) sLen sCap]).run P w =
      .ok (goInt n) (w.setRow g (over cur.toList o cs).toArray) := by
  have hl' := run_loadCells_list (P := P) w a cs hsrc
  have hst := run_storeCells_at P g o t cs 0 cur w hg (by simpa using hfit) h1
  cases hq : P.info? elem with
  | none => simp [hq] at hs
  | some i =>
    have hi : i.size = 2 := by simpa [hq] using hs
    simp [Builtin.copy_, run_underlying hu, Builtin.lenOf, Builtin.firstCells, sizeOf, typeInfo, hq, hi, ← hn, ← hl, hl', hst, over]
/-- what is known of a world behind such a copy: block g alone has turned -/
structure Cped (g : Nat) (t : TypeId) (row : List Value) (w w' : World) : Prop where
  here : w'.heap[g]? = some (.cells row.toArray t (0, 0))
  other : ∀ k, k ≠ g → w'.heap[k]? = w.heap[k]?
  size : w'.heap.size = w.heap.size
  below : ∀ B, B ≤ g → Below B w w'
theorem cped_setRow {w : World} {g : Nat} {cur : Array Value} {t : TypeId} (row : List Value) (hg : w.heap[g]? = some (.cells cur t (0, 0))) : Cped g t row w (w.setRow g row.toArray) :=
  ⟨setRow_heap w g _ _ t _ hg, fun k hk => setRow_other w g k _ hk, by simp, fun B hB => ⟨rfl, rfl, rfl, by simp, fun k hk => setRow_other w g k _ (by omega)⟩⟩
theorem Cped.cell {g : Nat} {t : TypeId} {row : List Value} {w w' : World} (h : Cped g t row w w') (a : Addr) (ha : a.block ≠ g) : w'.cell? a = w.cell? a := by
  unfold World.cell?
  rw [h.other _ ha]
theorem Cped.at {g : Nat} {t : TypeId} {row : List Value} {w w' : World} (h : Cped g t row w w') (j : Nat) : w'.cell? ⟨g, j, none⟩ = row[j]? := by
  rw [cell_of_row _ g j row.toArray t (0, 0) h.here]
  simp
section
variable {P : Program} {o : Oper} {a : Act} {w : World} {Q : Exit → Act → World → Prop}
theorem wp_copyP {K : Act → World → Prop} (d s : Operand) (t t' : TypeId) (ho : o.op = .call { callee := .builtin .copy, args := #[d, s], argTypes := #[t, t'] }) (T : TypeId) (ht : P.underlying t = some (.slice T))
    (hinfo : (P.info? T).map (fun i => (i.zero, i.size, i.bytes)) = some (some (.agg #[.int .i64 0, .int .i64 0]), 2, 16))
    (g off dLen dCap : Nat) (ad : Addr) (sLen sCap : Nat) (hd : a.eval d = .slice (some ⟨g, off, none⟩) dLen dCap) (hs : a.eval s = .slice (some ad) sLen sCap)
    (cur : List Value) (hg : w.heap[g]? = some (.cells cur.toArray T (0, 0))) (qs : List Pi2) (hn : qs.length = Nat.min sLen dLen)
    (hsrc : ∀ j v, (pcs qs)[j]? = some v → w.cell? (ad.add j) = some v) (hfit : off + qs.length * 2 ≤ cur.length)
    (h : ∀ w', Hid (Cped g T (over cur off (pcs qs)) w w') → K (a.put o.dst (goInt qs.length)) w') : o.wp P a w K Q := by
  have hsz : (P.info? T).map (·.size) = some 2 := by
    obtain ⟨i0, hi, hz0, hz1, hz2⟩ := info_parts hinfo
    rw [hi]; simp [hz1]
  have hr := run_copyP (P := P) w t t' o.type T g off dLen dCap ad sLen sCap cur.toArray T (pcs qs) qs.length ht hsz hg hn (by rw [pcs_len]) hsrc (by rw [pcs_len]; simpa using hfit) (pcs_one qs)
  unfold Oper.wp execOp
  simp only [ho, resolve, invoke, builtin, Sem.run_bind, Sem.run_pure, Result.andThen_ok, List.map_toArray, List.map_cons, List.map_nil, hd, hs, hr]
  exact h _ (Lib.hid (cped_setRow _ hg))
theorem wpList_copyP {ops : Array Oper} {rest : List Oper} (hgd : o.guard = none) (d s : Operand) (t t' : TypeId) (ho : o.op = .call { callee := .builtin .copy, args := #[d, s], argTypes := #[t, t'] }) (T : TypeId) (ht : P.underlying t = some (.slice T))
    (hinfo : (P.info? T).map (fun i => (i.zero, i.size, i.bytes)) = some (some (.agg #[.int .i64 0, .int .i64 0]), 2, 16))
    (g off dLen dCap : Nat) (ad : Addr) (sLen sCap : Nat) (hd : a.eval d = .slice (some ⟨g, off, none⟩) dLen dCap) (hs : a.eval s = .slice (some ad) sLen sCap)
    (cur : List Value) (hg : w.heap[g]? = some (.cells cur.toArray T (0, 0))) (qs : List Pi2) (hn : qs.length = Nat.min sLen dLen)
    (hsrc : ∀ j v, (pcs qs)[j]? = some v → w.cell? (ad.add j) = some v) (hfit : off + qs.length * 2 ≤ cur.length)
    (h : ∀ w', Hid (Cped g T (over cur off (pcs qs)) w w') → wpList P ops Q rest (a.put o.dst (goInt qs.length)) w') : wpList P ops Q (o :: rest) a w :=
  wpList_plain hgd fun _ hK => wp_copyP d s t t' ho T ht hinfo g off dLen dCap ad sLen sCap hd hs cur hg qs hn hsrc hfit fun w' h' => hK _ _ (h w' h')
theorem step_copyP {ops : Array Oper} {K : Act → World → Prop} {E : Prop} (hgd : o.guard = none) (d s : Operand) (t t' : TypeId) (ho : o.op = .call { callee := .builtin .copy, args := #[d, s], argTypes := #[t, t'] }) (T : TypeId) (ht : P.underlying t = some (.slice T))
    (hinfo : (P.info? T).map (fun i => (i.zero, i.size, i.bytes)) = some (some (.agg #[.int .i64 0, .int .i64 0]), 2, 16))
    (g off dLen dCap : Nat) (ad : Addr) (sLen sCap : Nat) (hd : a.eval d = .slice (some ⟨g, off, none⟩) dLen dCap) (hs : a.eval s = .slice (some ad) sLen sCap)
    (cur : List Value) (hg : w.heap[g]? = some (.cells cur.toArray T (0, 0))) (qs : List Pi2) (hn : qs.length = Nat.min sLen dLen)
    (hsrc : ∀ j v, (pcs qs)[j]? = some v → w.cell? (ad.add j) = some v) (hfit : off + qs.length * 2 ≤ cur.length)
    (h : ∀ w', Hid (Cped g T (over cur off (pcs qs)) w w') → K (a.put o.dst (goInt qs.length)) w') :
    if Region.wanted o (yielded ops a.tmps) = true then Oper.wp P o a w K Q else E := by
  rw [if_pos (show Region.wanted o (yielded ops a.tmps) = true by simp [Region.wanted, hgd])]
  exact wp_copyP d s t t' ho T ht hinfo g off dLen dCap ad sLen sCap hd hs cur hg qs hn hsrc hfit h
end
end Go.Proofs
