/-
  Contracts of chapter 4: slices.Insert of one block, at whatever place.
-/
import Derived.Test.YtnpkhoiblemodaaBrI
import Derived.Test.YtnpkhoiblemodaaPlCp
import Derived.Lib.Overlaps
import Derived.Lib.AppendZerosOnto
import Derived.Laws.Externs
import Derived.Deep.DeepCutAuto
namespace Go.Proofs.Bk
open Go.RowKit Av
set_option linter.unusedVariables false
set_option linter.unusedSimpArgs false
abbrev pcs (ps : List Blk) : List Value := ecs bcs ps
theorem pcs_len (ps : List Blk) : (pcs ps).length = ps.length * 3 := ecs_len bcs_len ps
theorem pcs_append (ps qs : List Blk) : pcs (ps ++ qs) = pcs ps ++ pcs qs := ecs_append ps qs
theorem pcs_one (ps : List Blk) : ∀ u ∈ pcs ps, u.oneCell' = true := ecs_one bcs_one ps
theorem pcs_take (ps : List Blk) (k : Nat) : (pcs ps).take (k * 3) = pcs (ps.take k) := ecs_take bcs_len ps k
theorem lit_cells {w : World} {b : Nat} {p0 p1 : Int} {pu : Bool} {T : TypeId} (h : w.heap[b]? = some (.cells #[.int .i64 p0, .int .i64 p1, .bool pu] T (0, 0))) : ∀ j u, (pcs [(p0, p1, pu)])[j]? = some u → w.cell? ((⟨b, 0, none⟩ : Addr).add j) = some u := by
  intro j u hu
  rw [show (⟨b, 0, none⟩ : Addr).add j = ⟨b, j, none⟩ by rw [Addr.add_lit]; simp, cell_of_row _ b j _ T (0, 0) h]
  simpa [pcs, ecs, bcs] using hu
theorem run_copyB {P : Program} (w : World) (dT sT ty elem : TypeId) (g o dLen dCap : Nat) (a : Addr) (sLen sCap : Nat) (cur : Array Value) (t : TypeId) (cs : List Value) (n : Nat)
    (hu : P.underlying dT = some (.slice elem)) (hs : (P.info? elem).map (·.size) = some 3)
    (hg : w.heap[g]? = some (.cells cur t (0, 0))) (hn : n = Nat.min sLen dLen) (hl : cs.length = n * 3)
    (hsrc : ∀ j v, cs[j]? = some v → w.cell? (a.add j) = some v) (hfit : o + cs.length ≤ cur.size) (h1 : ∀ v ∈ cs, v.oneCell' = true) :
    (Builtin.copy_ #[dT, sT] ty #[.slice (some ⟨g, o, none⟩) dLen dCap, .slice (some a) sLen sCap]).run P w =
      .ok (goInt n) (w.setRow g (over cur.toList o cs).toArray) := by
  have hl' := run_loadCells_list (P := P) w a cs hsrc
  have hst := run_storeCells_at P g o t cs 0 cur w hg (by simpa using hfit) h1
  cases hq : P.info? elem with
  | none => simp [hq] at hs
  | some i =>
    have hi : i.size = 3 := by simpa [hq] using hs
    simp [Builtin.copy_, run_underlying hu, Builtin.lenOf, Builtin.firstCells, sizeOf, typeInfo, hq, hi, ← hn, ← hl, hl', hst, over]
section
variable {P : Program} {o : Oper} {a : Act} {w : World} {Q : Exit → Act → World → Prop}
theorem wp_copyB {K : Act → World → Prop} (d s : Operand) (t t' : TypeId) (ho : o.op = .call { callee := .builtin .copy, args := #[d, s], argTypes := #[t, t'] }) (T : TypeId) (ht : P.underlying t = some (.slice T))
    (hinfo : (P.info? T).map (fun i => (i.zero, i.size, i.bytes)) = some (some (.agg #[.int .i64 0, .int .i64 0, .bool false]), 3, 24))
    (g off dLen dCap : Nat) (ad : Addr) (sLen sCap : Nat) (hd : a.eval d = .slice (some ⟨g, off, none⟩) dLen dCap) (hs : a.eval s = .slice (some ad) sLen sCap)
    (cur : List Value) (hg : w.heap[g]? = some (.cells cur.toArray T (0, 0))) (qs : List Blk) (hn : qs.length = Nat.min sLen dLen)
    (hsrc : ∀ j v, (pcs qs)[j]? = some v → w.cell? (ad.add j) = some v) (hfit : off + qs.length * 3 ≤ cur.length)
    (h : ∀ w', Hid (Cped g T (over cur off (pcs qs)) w w') → K (a.put o.dst (goInt qs.length)) w') : o.wp P a w K Q := by
  have hsz : (P.info? T).map (·.size) = some 3 := by
    obtain ⟨i0, hi, hz0, hz1, hz2⟩ := info_parts hinfo
    rw [hi]; simp [hz1]
  have hr := run_copyB (P := P) w t t' o.type T g off dLen dCap ad sLen sCap cur.toArray T (pcs qs) qs.length ht hsz hg hn (by rw [pcs_len]) hsrc (by rw [pcs_len]; simpa using hfit) (pcs_one qs)
  unfold Oper.wp execOp
  simp only [ho, resolve, invoke, builtin, Sem.run_bind, Sem.run_pure, Result.andThen_ok, List.map_toArray, List.map_cons, List.map_nil, hd, hs, hr]
  exact h _ (Lib.hid (cped_setRow _ hg))
theorem wpList_copyB {ops : Array Oper} {rest : List Oper} (hgd : o.guard = none) (d s : Operand) (t t' : TypeId) (ho : o.op = .call { callee := .builtin .copy, args := #[d, s], argTypes := #[t, t'] }) (T : TypeId) (ht : P.underlying t = some (.slice T))
    (hinfo : (P.info? T).map (fun i => (i.zero, i.size, i.bytes)) = some (some (.agg #[.int .i64 0, .int .i64 0, .bool false]), 3, 24))
    (g off dLen dCap : Nat) (ad : Addr) (sLen sCap : Nat) (hd : a.eval d = .slice (some ⟨g, off, none⟩) dLen dCap) (hs : a.eval s = .slice (some ad) sLen sCap)
    (cur : List Value) (hg : w.heap[g]? = some (.cells cur.toArray T (0, 0))) (qs : List Blk) (hn : qs.length = Nat.min sLen dLen)
    (hsrc : ∀ j v, (pcs qs)[j]? = some v → w.cell? (ad.add j) = some v) (hfit : off + qs.length * 3 ≤ cur.length)
    (h : ∀ w', Hid (Cped g T (over cur off (pcs qs)) w w') → wpList P ops Q rest (a.put o.dst (goInt qs.length)) w') : wpList P ops Q (o :: rest) a w :=
  wpList_plain hgd fun _ hK => wp_copyB d s t t' ho T ht hinfo g off dLen dCap ad sLen sCap hd hs cur hg qs hn hsrc hfit fun w' h' => hK _ _ (h w' h')
theorem step_copyB {ops : Array Oper} {K : Act → World → Prop} {E : Prop} (hgd : o.guard = none) (d s : Operand) (t t' : TypeId) (ho : o.op = .call { callee := .builtin .copy, args := #[d, s], argTypes := #[t, t'] }) (T : TypeId) (ht : P.underlying t = some (.slice T))
    (hinfo : (P.info? T).map (fun i => (i.zero, i.size, i.bytes)) = some (some (.agg #[.int .i64 0, .int .i64 0, .bool false]), 3, 24))
    (g off dLen dCap : Nat) (ad : Addr) (sLen sCap : Nat) (hd : a.eval d = .slice (some ⟨g, off, none⟩) dLen dCap) (hs : a.eval s = .slice (some ad) sLen sCap)
    (cur : List Value) (hg : w.heap[g]? = some (.cells cur.toArray T (0, 0))) (qs : List Blk) (hn : qs.length = Nat.min sLen dLen)
    (hsrc : ∀ j v, (pcs qs)[j]? = some v → w.cell? (ad.add j) = some v) (hfit : off + qs.length * 3 ≤ cur.length)
    (h : ∀ w', Hid (Cped g T (over cur off (pcs qs)) w w') → K (a.put o.dst (goInt qs.length)) w') :
    if Region.wanted o (yielded ops a.tmps) = true then Oper.wp P o a w K Q else E := by
  rw [if_pos (show Region.wanted o (yielded ops a.tmps) = true by simp [Region.wanted, hgd])]
  exact wp_copyB d s t t' ho T ht hinfo g off dLen dCap ad sLen sCap hd hs cur hg qs hn hsrc hfit h
end
set_option maxRecDepth 100000 in
set_option maxHeartbeats 1600000 in
theorem Try.insertEndB (w : World) (B : Nat) (v : Value) (ps : List Blk) (p0 p1 : Int) (pu : Bool) (b : Nat) (hB : B ≤ w.heap.size) (hpos : 0 < ps.length) (hl : ps.length ≤ 1000) (h : OwnB w B v ps)
    (hbk : w.heap[b]? = some (.cells #[.int .i64 p0, .int .i64 p1, .bool pu] 34 (0, 0))) :
    Calls Try.prog 55 #[v, .int .i64 ps.length, .slice (some ⟨b, 0, none⟩) 1 1] w fun e w' => ∃ v', e = .returned v' ∧ OwnB w' B v' (ps ++ [(p0, p1, pu)]) ∧ Below B w w' ∧ w.grownBy w' v.ownBlock := by
  rcases OwnB.view h with ⟨hz, _⟩ | ⟨_, g, c, rfl, _, g2, hcap, hcm, _, _⟩
  · subst hz; simp at hpos
  · have H := Lib.hid h
    have HC := Lib.hid (lit_cells hbk)
    have z0 : (0 : Int) ≤ (ps.length : Int) := by omega
    have z1 : (ps.length : Int) ≤ (c : Int) := by omega
    clear h hbk
    go_enter Try.func55, Try.ntmps55
    go_wp2_with (at_builtin; refine wpList_appE bcs_len bcs_one rfl _ _ 28 rfl 34 Try.underlying28 Try.infoB rfl (by decide) (by decide) B _ _ rfl H.out ⟨b, 0, none⟩ 1 1 [(p0, p1, pu)] rfl rfl (fun j u hu => HC.out j u hu) (by omega) (by simp) hB ?_; intro v3 w3 ho3 hb3 hg3 _)
    all_goals
      go_ret
      exact ⟨_, rfl, ho3, hb3, hg3⟩
/-- a row whose cells are known up to a place -/
theorem own_ofB {T : TypeId} {w : World} {B g n c : Nat} {row : List Value} {ps : List Blk} (hg : w.heap[g]? = some (.cells row.toArray T (0, 0))) (hB : B ≤ g) (hn : ps.length = n) (hc : n ≤ c) (hm : c ≤ maxLen) (hr : row.length = c * 3)
    (h : ∀ j, j < n * 3 → row[j]? = (pcs ps)[j]?) : OwnE T 3 bcs w B (.slice (some ⟨g, 0, none⟩) n c) ps := by
  refine ⟨pcs_len ps, .inr ⟨g, c, row.toArray, by rw [hn], hB, hg, by omega, hm, by simpa using hr, ?_⟩⟩
  apply List.ext_getElem?
  intro j
  rw [List.getElem?_take]
  by_cases hj : j < n * 3
  · rw [if_pos (by rw [hn]; exact hj)]; simpa using h j hj
  · rw [if_neg (by rw [hn]; exact hj), List.getElem?_eq_none (by rw [pcs_len]; omega)]
theorem grown_ofB_belowB {w w' : World} (h : Below w.heap.size w w') (row : Option Nat) : w.grownBy w' row := ⟨h.os, h.tape, h.output, h.size, fun k hk _ => h.block k hk⟩
/-- what a place of the list behind holds: v laid over, then those that stood from i on -/
theorem ins_cellsB (R : List Value) (ps : List Blk) (p : Blk) (i n : Nat) (hn : ps.length = n) (hi : i ≤ n) (hR : n * 3 + 3 ≤ R.length) (h : ∀ j, j < i * 3 → R[j]? = (pcs ps)[j]?) :
    ∀ j, j < (n + 1) * 3 → (over (over R (i * 3) (pcs [p])) ((i + 1) * 3) (pcs (ps.drop i)))[j]? = (pcs (ps.take i ++ p :: ps.drop i))[j]? := by
  intro j hj
  have e : pcs (ps.take i ++ p :: ps.drop i) = pcs (ps.take i) ++ (pcs [p] ++ pcs (ps.drop i)) := by rw [pcs_append, show p :: ps.drop i = [p] ++ ps.drop i from rfl, pcs_append]
  have l0 : (pcs (ps.take i)).length = i * 3 := by rw [pcs_len]; simp; omega
  have l1 : (pcs [p]).length = 3 := rfl
  have l2 : (pcs (ps.drop i)).length = (n - i) * 3 := by rw [pcs_len]; simp; omega
  have lo : (over R (i * 3) (pcs [p])).length = R.length := over_len _ _ _ (by omega)
  rw [e]
  by_cases h1 : j < i * 3
  · rw [over_get_lo _ _ _ _ (by omega) (by omega), over_get_lo _ _ _ _ (by omega) h1, h j h1, List.getElem?_append_left (by omega), ← pcs_take, List.getElem?_take, if_pos h1]
  · by_cases h2 : j < (i + 1) * 3
    · rw [over_get_lo _ _ _ _ (by omega) h2]
      obtain ⟨k, rfl⟩ : ∃ k, j = i * 3 + k := ⟨j - i * 3, by omega⟩
      rw [over_get_in _ _ _ _ (by omega) (by omega), List.getElem?_append_right (by omega), l0, show i * 3 + k - i * 3 = k by omega, List.getElem?_append_left (by omega)]
    · obtain ⟨k, rfl⟩ : ∃ k, j = (i + 1) * 3 + k := ⟨j - (i + 1) * 3, by omega⟩
      rw [over_get_in _ _ _ _ (by omega) (by omega), List.getElem?_append_right (by omega), l0, List.getElem?_append_right (by omega), l1]
      congr 1
      omega
theorem over_swap (R : List Value) (o : Nat) (x y : List Value) (h : o + x.length + y.length ≤ R.length) : over (over R (o + x.length) y) o x = over (over R o x) (o + x.length) y := by
  have e1 : (over R (o + x.length) y).length = R.length := over_len _ _ _ (by omega)
  have e2 : (over R o x).length = R.length := over_len _ _ _ (by omega)
  apply List.ext_getElem?
  intro j
  by_cases h1 : j < o
  · rw [over_get_lo _ _ _ _ (by omega) h1, over_get_lo _ _ _ _ (by omega) (by omega), over_get_lo _ _ _ _ (by omega) (by omega), over_get_lo _ _ _ _ (by omega) h1]
  · by_cases h2 : j < o + x.length
    · obtain ⟨k, rfl⟩ : ∃ k, j = o + k := ⟨j - o, by omega⟩
      rw [over_get_in _ _ _ _ (by omega) (by omega), over_get_lo _ _ _ _ (by omega) h2, over_get_in _ _ _ _ (by omega) (by omega)]
    · by_cases h3 : j < o + x.length + y.length
      · obtain ⟨k, rfl⟩ : ∃ k, j = o + x.length + k := ⟨j - (o + x.length), by omega⟩
        rw [over_get_hi _ _ _ _ (by omega) (by omega), over_get_in _ _ _ _ (by omega) (by omega), over_get_in _ _ _ _ (by omega) (by omega)]
      · rw [over_get_hi _ _ _ _ (by omega) (by omega), over_get_hi _ _ _ _ (by omega) (by omega), over_get_hi _ _ _ _ (by omega) (by omega), over_get_hi _ _ _ _ (by omega) (by omega)]
set_option maxRecDepth 100000 in
set_option maxHeartbeats 4000000 in
/-- no room: a new row -/
theorem Try.insGrowB (w : World) (B g i : Nat) (ps : List Blk) (p0 p1 : Int) (pu : Bool) (b : Nat) (hB : B ≤ w.heap.size) (hi : i < ps.length) (hl : ps.length ≤ 1000)
    (h : OwnB w B (.slice (some ⟨g, 0, none⟩) ps.length ps.length) ps) (hbk : w.heap[b]? = some (.cells #[.int .i64 p0, .int .i64 p1, .bool pu] 34 (0, 0))) :
    Calls Try.prog 55 #[.slice (some ⟨g, 0, none⟩) ps.length ps.length, .int .i64 i, .slice (some ⟨b, 0, none⟩) 1 1] w fun e w' => ∃ v', e = .returned v' ∧ OwnB w' B v' (ps.take i ++ (p0, p1, pu) :: ps.drop i) ∧ Below B w w' ∧ w.grownBy w' (some g) := by
  obtain ⟨i0, hi0, hz0, hzs, hzb⟩ := info_parts Try.infoB
  generalize hn : ps.length = n at *
  have hbw : b < w.heap.size := (Array.getElem?_eq_some_iff.1 hbk).1
  have hgw : g < w.heap.size := (World.ownsRow.lt h g rfl).2
  have hrd := fun (k m : Nat) (hk : k + m ≤ n) => OwnE.reads bcs_len h hn k m hk
  have hcs := lit_cells hbk
  have hkk : (n : Int) + 1 - (i : Int) = ((n + 1 - i : Nat) : Int) := by omega
  have hik : i + (n + 1 - i) = n + 1 := by omega
  have hold : (Builtin.firstCells i0.size i (.slice (some ⟨g, 0, none⟩) i n)).run Try.prog w.drew = .ok (pcs (ps.take i)).toArray w.drew := by
    rw [hzs]
    exact run_firstCells_some w.drew 3 i ⟨g, 0, none⟩ i n (pcs (ps.take i)) (by rw [pcs_len, List.length_take]; omega) (fun j v hj => by have := hrd 0 i (by omega) j v (by simpa using hj); simpa using this)
  have hrz : ∀ ty, (Builtin.append_ #[28, 3] ty #[.slice (some ⟨g, 0, none⟩) i n, .int .i64 ((n : Int) + 1 - (i : Int))]).run Try.prog w =
      .ok (.slice (some ⟨w.heap.size, 0, none⟩) (n + 1) (grownCap w (n + 1) n 34)) (w.drew.alloc (.cells ((pcs (ps.take i)).toArray ++ Builtin.zeroCells (Value.agg #[.int .i64 0, .int .i64 0, .bool false]).cells (n + 1 - i) ++ Builtin.zeroCells (Value.agg #[.int .i64 0, .int .i64 0, .bool false]).cells (grownCap w (n + 1) n 34 - (n + 1))) 34)) := fun ty => by
    have h := Lib.run_append_grow_zeros w 28 3 ty 34 i0 _ .i64 .i64 Try.underlying28 Try.underlying3 hi0 hz0 (some ⟨g, 0, none⟩) i n (pcs (ps.take i)) hold (n + 1 - i) (by omega) (by omega) (by omega) (by omega) (by rw [hzb]; omega) (by rw [hzb, hik]; exact growslice_fits (by omega) (by omega))
    rw [hik] at h
    rw [hkk]
    exact h
  have hGn := grownCap_ge w (n + 1) n 34
  have hGm := grownCap_le_maxLen w (n + 1) n 34 (by unfold maxLen; omega)
  generalize grownCap w (n + 1) n 34 = G at *
  obtain ⟨ROW, hROW⟩ : ∃ ROW : List Value, ROW.toArray = (pcs (ps.take i)).toArray ++ Builtin.zeroCells (Value.agg #[.int .i64 0, .int .i64 0, .bool false]).cells (n + 1 - i) ++ Builtin.zeroCells (Value.agg #[.int .i64 0, .int .i64 0, .bool false]).cells (G - (n + 1)) := ⟨((pcs (ps.take i)).toArray ++ Builtin.zeroCells (Value.agg #[.int .i64 0, .int .i64 0, .bool false]).cells (n + 1 - i) ++ Builtin.zeroCells (Value.agg #[.int .i64 0, .int .i64 0, .bool false]).cells (G - (n + 1))).toList, by simp⟩
  rw [← hROW] at hrz
  have hRl : ROW.length = G * 3 := by
    have := congrArg Array.size hROW
    simp [size_zeroCells, Value.cells, pcs_len] at this
    omega
  have hR0 : ∀ j, j < i * 3 → ROW[j]? = (pcs ps)[j]? := fun j hj => by
    have e : ROW[j]? = ROW.toArray[j]? := by simp
    have l0 : (pcs (ps.take i)).length = i * 3 := by rw [pcs_len]; simp; omega
    rw [e, hROW, Array.append_assoc, Array.getElem?_append_left (by simpa [l0] using hj)]
    rw [List.getElem?_toArray, ← pcs_take, List.getElem?_take, if_pos hj]
  have hfin := ins_cellsB ROW ps (p0, p1, pu) i n hn (by omega) (by omega) hR0
  have hlen : (ps.take i ++ (p0, p1, pu) :: ps.drop i).length = n + 1 := by simp; omega
  have HRZ := Lib.hid hrz
  have HRD := Lib.hid hrd
  have HCS := Lib.hid hcs
  have HFI := Lib.hid hfin
  have HLN := Lib.hid hlen
  have HRL := Lib.hid hRl
  have HN := Lib.hid hn
  have hG63 : G ≤ 9223372036854775807 := by unfold maxLen at hGm; omega
  have hGi : ¬ (G = i) := by omega
  have hGim : ¬ (G = i + 1) := by omega
  have hci : ¬ (n = i) := by omega
  have hz2 : ¬ ((i : Int) = (n : Int)) := by omega
  have hw1 : IntKind.i64.wrap ((i : Int) + 1) = (i : Int) + 1 := by rw [IntKind.wrap_i64]; omega
  have hb1 : (0 : Int) ≤ (i : Int) + 1 := by omega
  have hin : i ≤ n := by omega
  have htn : ((i : Int) + 1).toNat = i + 1 := by omega
  have hb3 : (i : Int) ≤ (n : Int) := by omega
  have hW1 : ((w.alloc (.cells ROW.toArray 34)).drew).heap[w.heap.size]? = some (.cells ROW.toArray 34 (0, 0)) := (show (w.alloc (.cells ROW.toArray 34)).heap[w.heap.size]? = _ from heap_new' rfl)
  obtain ⟨W2, hr2, hc2⟩ : ∃ W2, (∀ ty dc, (Builtin.copy_ #[28, 28] ty #[.slice (some ⟨w.heap.size, i * 3, none⟩) (n + 1 - i) dc, .slice (some ⟨b, 0, none⟩) 1 1]).run Try.prog (w.alloc (.cells ROW.toArray 34)).drew = .ok (goInt 1) W2) ∧ Hid (Cped w.heap.size 34 (over ROW (i * 3) (pcs [(p0, p1, pu)])) (w.alloc (.cells ROW.toArray 34)).drew W2) :=
    ⟨_, fun ty dc => run_copyB (P := Try.prog) _ 28 28 ty 34 w.heap.size (i * 3) (n + 1 - i) dc ⟨b, 0, none⟩ 1 1 ROW.toArray 34 (pcs [(p0, p1, pu)]) 1 Try.underlying28 (by rw [hi0]; simp [hzs]) hW1 (by simp [Nat.min_def]; omega) rfl
      (fun j u hu => (show (w.alloc (.cells ROW.toArray 34)).cell? _ = _ from (Gr.alloc (Gr.refl _) _).keep0 (hcs j u hu))) (by simp [pcs, ecs, bcs]; omega) (pcs_one _), Lib.hid (cped_setRow _ hW1)⟩
  clear hrz hrd hcs hfin hlen hRl hn hROW hR0 hold hkk hik h hbk hi0 hz0
  go_enter Try.func55, Try.ntmps55
  go_upto_region 11 with (first
    | (at_builtin; refine Lib.wpList_append_run _ rfl _ _ _ _ rfl _ _ rfl rfl _ _ (HRZ.out _) ?_))
  have hbW : Below B w W2 := ((Gr.below (Gr.drew (Gr.alloc (Gr.refl w) (.cells ROW.toArray 34)))).mono hB).trans (hc2.out.below B hB)
  have HBT := Lib.hid ((Gr.below (Gr.drew (Gr.alloc (Gr.refl w) (.cells ROW.toArray 34)))).trans (hc2.out.below w.heap.size (Nat.le_refl _)))
  have hne : g ≠ w.heap.size := by omega
  have HRE := Lib.hid (show ∀ j u, (pcs (ps.drop i))[j]? = some u → W2.cell? ((⟨g, i * 3, none⟩ : Addr).add j) = some u by
    intro j u hu
    have e : (⟨g, i * 3, none⟩ : Addr).add j = ⟨g, i * 3 + j, none⟩ := Addr.add_lit _ _ _
    have h0 := HRD.out i (n - i) (by omega) j u (by rwa [List.take_of_length_le (by simp; have := HN.out; omega)])
    rw [e] at h0 ⊢
    rw [hc2.out.cell _ hne]
    exact (show (w.alloc (.cells ROW.toArray 34)).cell? _ = _ from (Gr.alloc (Gr.refl _) _).keep0 h0))
  clear hbW hr2
  have hlo : (over ROW (i * 3) (pcs [(p0, p1, pu)])).length = ROW.length := over_len _ _ _ (by have := HRL.out; simp [pcs, ecs, bcs]; omega)
  have HLO := Lib.hid hlo
  clear hlo
  generalize hov : over ROW (i * 3) (pcs [(p0, p1, pu)]) = ROV at *
  have hgov := hc2.out.here
  have HGV := Lib.hid hgov
  clear hgov hov
  go_region_held3 (fun _ => True) (trivial)
    ((refine step_copyB rfl (.tmp 50) (.tmp 53) 28 28 rfl 34 Try.underlying28 Try.infoB w.heap.size ((i + 1) * 3) (n + 1 - (i + 1)) (G - (i + 1)) ⟨g, i * 3, none⟩ (n - i) (n - i) (by simp [Act.eval, Act.put]) (by simp [Act.eval, Act.put]) ROV HGV.out (ps.drop i) (by have := HN.out; simp [Nat.min_def]; omega) (fun j u hu => HRE.out j u hu) (by have := HLO.out; have := HRL.out; have := HN.out; simp; omega) ?_; intro w4 hc4))
  all_goals
    go_wp2
    go_ret
    have hbT := HBT.out.trans (Below.trans (Below.drew (Below.refl _ _)) (hc4.out.below w.heap.size (Nat.le_refl _)))
    refine ⟨_, rfl, ?_, hbT.mono hB, grown_ofB_belowB hbT _⟩
    have h1 := HLO.out; have h2 := HRL.out; have h3 := HN.out
    exact own_ofB hc4.out.here hB HLN.out hGn hGm (by rw [over_len _ _ _ (by rw [pcs_len]; simp; omega)]; omega) HFI.out
set_option maxRecDepth 100000 in
set_option maxHeartbeats 4000000 in
/-- there is room: in place -/
theorem Try.insRoomB (w : World) (B g i c : Nat) (ps : List Blk) (p0 p1 : Int) (pu : Bool) (b : Nat) (hB : B ≤ w.heap.size) (hi : i < ps.length) (hl : ps.length ≤ 1000) (hc : ps.length < c) (hbg : b ≠ g)
    (h : OwnB w B (.slice (some ⟨g, 0, none⟩) ps.length c) ps) (hbk : w.heap[b]? = some (.cells #[.int .i64 p0, .int .i64 p1, .bool pu] 34 (0, 0))) :
    Calls Try.prog 55 #[.slice (some ⟨g, 0, none⟩) ps.length c, .int .i64 i, .slice (some ⟨b, 0, none⟩) 1 1] w fun e w' => ∃ v', e = .returned v' ∧ OwnB w' B v' (ps.take i ++ (p0, p1, pu) :: ps.drop i) ∧ Below B w w' ∧ w.grownBy w' (some g) := by
  have mixed : Try.prog.follows .mixedOrders = true := by kernel_rfl
  obtain ⟨i0, hi0, hz0, hzs, hzb⟩ := info_parts Try.infoB
  have hsz : (Try.prog.info? 34).map (·.size) = some 3 := by rw [hi0]; simp [hzs]
  generalize hn : ps.length = n at *
  have hBg : B ≤ g := (World.ownsRow.lt h g rfl).1
  have hrd := fun (k m : Nat) (hk : k + m ≤ n) => OwnE.reads bcs_len h hn k m hk
  obtain ⟨cur, hg, hcs, hct, hcm⟩ : ∃ cur : List Value, w.heap[g]? = some (.cells cur.toArray 34 (0, 0)) ∧ cur.length = c * 3 ∧ (∀ j, j < n * 3 → cur[j]? = (pcs ps)[j]?) ∧ c ≤ maxLen := by
    rcases h.2 with ⟨hx, _⟩ | ⟨g', cap, cur, hv, _, hg, _, hm, hs, ht⟩
    · cases hx
    · cases hv
      refine ⟨cur.toList, by simpa using hg, by simpa using hs, fun j hj => ?_, hm⟩
      show cur.toList[j]? = (ecs bcs ps)[j]?
      rw [← ht, List.getElem?_take, if_pos (by omega)]
  have hrows := ins_cellsB cur ps (p0, p1, pu) i n hn (by omega) (by omega) (fun j hj => hct j (by omega))
  have hsw := over_swap cur (i * 3) (pcs [(p0, p1, pu)]) (pcs (ps.drop i)) (by rw [pcs_len, pcs_len]; simp only [List.length_drop, List.length_cons, List.length_nil]; omega)
  have hl1 : (pcs [(p0, p1, pu)]).length = 3 := rfl
  rw [hl1, show i * 3 + 3 = (i + 1) * 3 by omega] at hsw
  have hlen : (ps.take i ++ (p0, p1, pu) :: ps.drop i).length = n + 1 := by simp; omega
  have hlo : (over cur ((i + 1) * 3) (pcs (ps.drop i))).length = c * 3 := by rw [over_len _ _ _ (by rw [pcs_len]; simp; omega)]; exact hcs
  have hlo2 : (over (over cur ((i + 1) * 3) (pcs (ps.drop i))) (i * 3) (pcs [(p0, p1, pu)])).length = c * 3 := by rw [over_len _ _ _ (by rw [hlo, hl1]; omega)]; exact hlo
  rw [← hsw] at hrows
  have hbs : w.shape? b = some (34, 3) := by simp [World.shape?, hbk]
  have hgs : w.shape? g = some (34, cur.toArray.size) := by simp [World.shape?, hg]
  have hov : ∀ lb cb, (callFunc 68 #[.slice (some ⟨b, 0, none⟩) 1 1, .slice (some ⟨g, (i + 1) * 3, none⟩) lb cb]).run Try.prog w = .ok (.value (.bool false)) w := fun lb cb => by
    rw [run_callFunc_extern Try.func68 (by kernel_rfl) (by kernel_rfl) (by kernel_rfl) (e := Extern.SlicesOverlaps.overlaps #[28, 28] #[4]) (by kernel_rfl),
      Lib.run_overlaps_apart w 28 4 34 Try.underlying28 3 (fun W => by simp [sizeOf, typeInfo, hi0, hzs]) ⟨b, 0, none⟩ ⟨g, (i + 1) * 3, none⟩ 1 1 lb cb hbg 34 34 3 cur.toArray.size hbs hgs (by rw [List.size_toArray]; omega) (by simp [World.frozen?, hbk]) (by simp [World.frozen?, hbk])]
    rfl
  have HRD := Lib.hid hrd
  have HRW := Lib.hid hrows
  have HLN := Lib.hid hlen
  have HCS := Lib.hid hcs
  have HN := Lib.hid hn
  have HG := Lib.hid hg
  have HBK := Lib.hid hbk
  have HSZ := Lib.hid hsz
  have HLO := Lib.hid hlo
  have HLO2 := Lib.hid hlo2
  have HCM := Lib.hid hcm
  have hc63 : c ≤ 9223372036854775807 := by unfold maxLen at hcm; omega
  have hci : ¬ (c = i) := by omega
  have hcim : ¬ (c = i + 1) := by omega
  have hz2 : ¬ ((i : Int) = (n : Int)) := by omega
  have hz3 : ¬ ((c : Int) < (n : Int) + 1) := by omega
  have hw1 : IntKind.i64.wrap ((i : Int) + 1) = (i : Int) + 1 := by rw [IntKind.wrap_i64]; omega
  have hw2 : IntKind.i64.wrap ((n : Int) + 1) = (n : Int) + 1 := by rw [IntKind.wrap_i64]; omega
  have hb1 : (0 : Int) ≤ (i : Int) + 1 := by omega
  have hb5 : (0 : Int) ≤ (n : Int) + 1 := by omega
  have hin : i ≤ n := by omega
  have hin2 : i ≤ n + 1 := by omega
  have htn : ((i : Int) + 1).toNat = i + 1 := by omega
  have htn2 : ((n : Int) + 1).toNat = n + 1 := by omega
  have hb3 : (i : Int) ≤ (n : Int) := by omega
  have hb4 : (i : Int) ≤ (n : Int) + 1 := by omega
  have hb6 : (n : Int) + 1 ≤ (c : Int) := by omega
  clear hrd hrows hlen hcs hn hg hbk hsz hlo hlo2 hct hsw h hgs hbs hcm hi0 hz0
  go_enter Try.func55, Try.ntmps55
  go_upto_region 15 with (simp only [hov])
  go_region_held3 (fun _ => True) (trivial)
    ((refine step_copyB rfl (.tmp 73) (.tmp 76) 28 28 rfl 34 Try.underlying28 Try.infoB g ((i + 1) * 3) (n + 1 - (i + 1)) (c - (i + 1)) ⟨g, i * 3, none⟩ (n + 1 - i) (c - i) (by simp [Act.eval, Act.put]) (by simp [Act.eval, Act.put]) cur HG.out (ps.drop i) (by have := HN.out; rw [List.length_drop]; simp only [Nat.min_def]; split <;> omega) (fun j u hu => (show w.cell? _ = _ from by have h0 := HRD.out i (n - i) (by omega) j u (by rwa [List.take_of_length_le (by simp; have := HN.out; omega)]); exact h0)) (by have := HCS.out; have := HN.out; simp; omega) ?_; intro w4 hc4))
  have hW4 := hc4.out.here
  obtain ⟨W5, hr5, hc5⟩ : ∃ W5, (∀ ty dc, (Builtin.copy_ #[28, 28] ty #[.slice (some ⟨g, i * 3, none⟩) (n + 1 - i) dc, .slice (some ⟨b, 0, none⟩) 1 1]).run Try.prog w4 = .ok (goInt 1) W5) ∧ Hid (Cped g 34 (over (over cur ((i + 1) * 3) (pcs (ps.drop i))) (i * 3) (pcs [(p0, p1, pu)])) w4 W5) :=
    ⟨_, fun ty dc => run_copyB (P := Try.prog) w4 28 28 ty 34 g (i * 3) (n + 1 - i) dc ⟨b, 0, none⟩ 1 1 (over cur ((i + 1) * 3) (pcs (ps.drop i))).toArray 34 (pcs [(p0, p1, pu)]) 1 Try.underlying28 HSZ.out hW4 (by simp [Nat.min_def]; omega) rfl
      (fun j u hu => by
        rw [hc4.out.cell _ (by rw [Addr.add_lit]; exact hbg)]
        have hk := HBK.out
        have e : (⟨b, 0, none⟩ : Addr).add j = ⟨b, j, none⟩ := by rw [Addr.add_lit]; simp
        rw [e]
        show w.cell? _ = _
        rw [cell_of_row _ b j #[.int .i64 p0, .int .i64 p1, .bool pu] 34 (0, 0) hk]
        simpa [pcs, ecs, bcs] using hu) (by have := HLO.out; simp only [pcs] at this; simp [pcs, ecs, bcs]; omega) (pcs_one _), Lib.hid (cped_setRow _ hW4)⟩
  have HC4 := Lib.hid hc4.out
  clear hW4 hc4
  go_wp2
  go_ret
  have hbT := (Below.trans (Below.drew (Below.refl _ _)) (HC4.out.below B hBg)).trans (hc5.out.below B hBg)
  have hgT : w.grownBy W5 (some g) := ⟨hbT.os, hbT.tape, hbT.output, hbT.size, fun k hk hne => by rw [hc5.out.other k (fun e => hne (by rw [e])), HC4.out.other k (fun e => hne (by rw [e]))]; rfl⟩
  refine ⟨_, rfl, ?_, hbT, hgT⟩
  exact own_ofB hc5.out.here hBg HLN.out (by omega) HCM.out HLO2.out HRW.out
/-- whatever the place -/
theorem Try.insertB (w : World) (B i : Nat) (v : Value) (ps : List Blk) (p0 p1 : Int) (pu : Bool) (b : Nat) (hB : B ≤ w.heap.size) (hi : i ≤ ps.length) (hpos : 0 < ps.length) (hl : ps.length ≤ 1000) (hbv : v.ownBlock ≠ some b)
    (h : OwnB w B v ps) (hbk : w.heap[b]? = some (.cells #[.int .i64 p0, .int .i64 p1, .bool pu] 34 (0, 0))) :
    Calls Try.prog 55 #[v, .int .i64 i, .slice (some ⟨b, 0, none⟩) 1 1] w fun e w' => ∃ v', e = .returned v' ∧ OwnB w' B v' (ps.take i ++ (p0, p1, pu) :: ps.drop i) ∧ Below B w w' ∧ w.grownBy w' v.ownBlock := by
  rcases Nat.lt_or_eq_of_le hi with hlt | rfl
  · rcases OwnB.view h with ⟨hz, _⟩ | ⟨_, g, c, rfl, _, g2, hcap, hcm, _, _⟩
    · subst hz; simp at hpos
    · rcases Nat.lt_or_eq_of_le hcap with hc | rfl
      · exact Try.insRoomB w B g i c ps p0 p1 pu b hB hlt hl hc (fun e => hbv (by rw [e]; rfl)) h hbk
      · exact Try.insGrowB w B g i ps p0 p1 pu b hB hlt hl h hbk
  · have := Try.insertEndB w B v ps p0 p1 pu b hB hpos hl h hbk
    simpa using this
end Go.Proofs.Bk
