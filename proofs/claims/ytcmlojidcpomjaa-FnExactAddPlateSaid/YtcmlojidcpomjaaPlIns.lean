/-
  Contracts of chapter 2: slices.Insert of one plate, at whatever place.
-/
import Derived.Test.YtcmlojidcpomjaaPlIn
import Derived.Test.YtcmlojidcpomjaaPlCp
import Derived.Lib.Overlaps
import Derived.Lib.AppendZerosOnto
import Derived.Laws.Externs
import Derived.Deep.DeepCutAuto
namespace Go.Proofs
open Go.RowKit Pl
set_option linter.unusedVariables false
set_option linter.unusedSimpArgs false
/-- a row whose cells are known up to a place -/
theorem own_of {T : TypeId} {w : World} {B g n c : Nat} {row : List Value} {ps : List Pi2} (hg : w.heap[g]? = some (.cells row.toArray T (0, 0))) (hB : B ≤ g) (hn : ps.length = n) (hc : n ≤ c) (hm : c ≤ maxLen) (hr : row.length = c * 2)
    (h : ∀ j, j < n * 2 → row[j]? = (pcs ps)[j]?) : OwnP T w B (.slice (some ⟨g, 0, none⟩) n c) ps := by
  refine ⟨pcs_len ps, .inr ⟨g, c, row.toArray, by rw [hn], hB, hg, by omega, hm, by simpa using hr, ?_⟩⟩
  apply List.ext_getElem?
  intro j
  rw [List.getElem?_take]
  by_cases hj : j < n * 2
  · rw [if_pos (by rw [hn]; exact hj)]; simpa using h j hj
  · rw [if_neg (by rw [hn]; exact hj), List.getElem?_eq_none (by rw [pcs_len]; omega)]
theorem two_k4 {w w' : World} {a b : Addr} {x y : Value} (h : w.cell? a = some x ∧ w.cell? b = some y) (g : Below w.heap.size w w') : w'.cell? a = some x ∧ w'.cell? b = some y := ⟨cell_k2 g h.1, cell_k2 g h.2⟩
theorem two_k5 {w w' : World} {r : Option Nat} {a b : Addr} {x y : Value} (h : w.cell? a = some x ∧ w.cell? b = some y) (g : w.grownBy w' r) (ha : some a.block ≠ r) (hb : some b.block ≠ r) : w'.cell? a = some x ∧ w'.cell? b = some y := ⟨g.cell h.1 ha, g.cell h.2 hb⟩
theorem grown_of_below {w w' : World} (h : Below w.heap.size w w') (row : Option Nat) : w.grownBy w' row := ⟨h.os, h.tape, h.output, h.size, fun k hk _ => h.block k hk⟩
/-- what a place of the list behind holds: v laid over, then those that stood from i on -/
theorem ins_cells (R : List Value) (ps : List Pi2) (p : Pi2) (i n : Nat) (hn : ps.length = n) (hi : i ≤ n) (hR : n * 2 + 2 ≤ R.length) (h : ∀ j, j < i * 2 → R[j]? = (pcs ps)[j]?) :
    ∀ j, j < (n + 1) * 2 → (over (over R (i * 2) (pcs [p])) ((i + 1) * 2) (pcs (ps.drop i)))[j]? = (pcs (ps.take i ++ p :: ps.drop i))[j]? := by
  intro j hj
  have e : pcs (ps.take i ++ p :: ps.drop i) = pcs (ps.take i) ++ (pcs [p] ++ pcs (ps.drop i)) := by rw [pcs_append, show p :: ps.drop i = [p] ++ ps.drop i from rfl, pcs_append]
  have l0 : (pcs (ps.take i)).length = i * 2 := by rw [pcs_len]; simp; omega
  have l1 : (pcs [p]).length = 2 := rfl
  have l2 : (pcs (ps.drop i)).length = (n - i) * 2 := by rw [pcs_len]; simp; omega
  have lo : (over R (i * 2) (pcs [p])).length = R.length := over_len _ _ _ (by omega)
  rw [e]
  by_cases h1 : j < i * 2
  · rw [over_get_lo _ _ _ _ (by omega) (by omega), over_get_lo _ _ _ _ (by omega) h1, h j h1, List.getElem?_append_left (by omega), ← pcs_take, List.getElem?_take, if_pos h1]
  · by_cases h2 : j < (i + 1) * 2
    · rw [over_get_lo _ _ _ _ (by omega) h2]
      obtain ⟨k, rfl⟩ : ∃ k, j = i * 2 + k := ⟨j - i * 2, by omega⟩
      rw [over_get_in _ _ _ _ (by omega) (by omega), List.getElem?_append_right (by omega), l0, show i * 2 + k - i * 2 = k by omega, List.getElem?_append_left (by omega)]
    · obtain ⟨k, rfl⟩ : ∃ k, j = (i + 1) * 2 + k := ⟨j - (i + 1) * 2, by omega⟩
      rw [over_get_in _ _ _ _ (by omega) (by omega), List.getElem?_append_right (by omega), l0, List.getElem?_append_right (by omega), l1]
      congr 1
      omega
theorem over_swap (R : List Value) (o : Nat) (x y : List Value) (h : o + x.length + y.length ≤ R.length) : over (over R (o + x.length) y) o x = over (over R o x) (o + x.length) y := by
  have e1 : (over R (o + x.length) y).length = R.length := over_len _ _ _ (by omega)
  have e2 : (over R o x).length = R.length := over_len _ _ _ (by omega)
  apply List.ext_getElem?
  intro j
  by_cases h1 : j < o
  · rw [over_get_lo _ _ _ _ (by omega) h1, over_get_lo _ _ _ _ (by omega) (by omega), over_get_lo _ _ _ _ (by omega) (by omega), over_get_lo _ _ _ _ (by omega) h1]
  · by_cases h2 : j < o + x.length
    · obtain ⟨k, rfl⟩ : ∃ k, j = o + k := ⟨j - o, by omega⟩
      rw [over_get_in _ _ _ _ (by omega) (by omega), over_get_lo _ _ _ _ (by omega) h2, over_get_in _ _ _ _ (by omega) (by omega)]
    · by_cases h3 : j < o + x.length + y.length
      · obtain ⟨k, rfl⟩ : ∃ k, j = o + x.length + k := ⟨j - (o + x.length), by omega⟩
        rw [over_get_hi _ _ _ _ (by omega) (by omega), over_get_in _ _ _ _ (by omega) (by omega), over_get_in _ _ _ _ (by omega) (by omega)]
      · rw [over_get_hi _ _ _ _ (by omega) (by omega), over_get_hi _ _ _ _ (by omega) (by omega), over_get_hi _ _ _ _ (by omega) (by omega), over_get_hi _ _ _ _ (by omega) (by omega)]
set_option maxRecDepth 100000 in
set_option maxHeartbeats 4000000 in
/-- no room: a new row -/
theorem Try.insGrow (w : World) (B g i : Nat) (ps : List Pi2) (p0 p1 : Int) (b : Nat) (hB : B ≤ w.heap.size) (hi : i < ps.length) (hl : ps.length ≤ 1000)
    (h : OwnP 44 w B (.slice (some ⟨g, 0, none⟩) ps.length ps.length) ps) (hc0 : w.cell? ⟨b, 0, none⟩ = some (.int .i64 p0)) (hc1 : w.cell? ⟨b, 1, none⟩ = some (.int .i64 p1)) :
    Calls Try.prog 71 #[.slice (some ⟨g, 0, none⟩) ps.length ps.length, .int .i64 i, .slice (some ⟨b, 0, none⟩) 1 1] w fun e w' => ∃ v', e = .returned v' ∧ OwnP 44 w' B v' (ps.take i ++ (p0, p1) :: ps.drop i) ∧ Below B w w' ∧ w.grownBy w' (some g) := by
  obtain ⟨i0, hi0, hz0, hzs, hzb⟩ := info_parts Try.infoP
  generalize hn : ps.length = n at *
  have hbw : b < w.heap.size := World.block_lt_of_cell? _ _ hc0
  have hgw : g < w.heap.size := (World.ownsRow.lt h g rfl).2
  have hrd := fun (k m : Nat) (hk : k + m ≤ n) => h.reads hn k m hk
  have hcs := cells2 (x := .int .i64 p0) (y := .int .i64 p1) (ad := ⟨b, 0, none⟩) hc0 (by simpa [Addr.add] using hc1)
  have hkk : (n : Int) + 1 - (i : Int) = ((n + 1 - i : Nat) : Int) := by omega
  have hik : i + (n + 1 - i) = n + 1 := by omega
  have hold : (Builtin.firstCells i0.size i (.slice (some ⟨g, 0, none⟩) i n)).run Try.prog w.drew = .ok (pcs (ps.take i)).toArray w.drew := by
    rw [hzs]
    exact run_firstCells_some w.drew 2 i ⟨g, 0, none⟩ i n (pcs (ps.take i)) (by rw [pcs_len, List.length_take]; omega) (fun j v hj => by have := hrd 0 i (by omega) j v (by simpa using hj); simpa using this)
  have hrz : ∀ ty, (Builtin.append_ #[42, 3] ty #[.slice (some ⟨g, 0, none⟩) i n, .int .i64 ((n : Int) + 1 - (i : Int))]).run Try.prog w =
      .ok (.slice (some ⟨w.heap.size, 0, none⟩) (n + 1) (grownCap w (n + 1) n 44)) (w.drew.alloc (.cells ((pcs (ps.take i)).toArray ++ Builtin.zeroCells (Value.agg #[.int .i64 0, .int .i64 0]).cells (n + 1 - i) ++ Builtin.zeroCells (Value.agg #[.int .i64 0, .int .i64 0]).cells (grownCap w (n + 1) n 44 - (n + 1))) 44)) := fun ty => by
    have h := Lib.run_append_grow_zeros w 42 3 ty 44 i0 _ .i64 .i64 Try.underlying42 Try.underlying3 hi0 hz0 (some ⟨g, 0, none⟩) i n (pcs (ps.take i)) hold (n + 1 - i) (by omega) (by omega) (by omega) (by omega) (by rw [hzb]; omega) (by rw [hzb, hik]; exact growslice_fits (by omega) (by omega))
    rw [hik] at h
    rw [hkk]
    exact h
  have hGn := grownCap_ge w (n + 1) n 44
  have hGm := grownCap_le_maxLen w (n + 1) n 44 (by unfold maxLen; omega)
  generalize grownCap w (n + 1) n 44 = G at *
  obtain ⟨ROW, hROW⟩ : ∃ ROW : List Value, ROW.toArray = (pcs (ps.take i)).toArray ++ Builtin.zeroCells (Value.agg #[.int .i64 0, .int .i64 0]).cells (n + 1 - i) ++ Builtin.zeroCells (Value.agg #[.int .i64 0, .int .i64 0]).cells (G - (n + 1)) := ⟨((pcs (ps.take i)).toArray ++ Builtin.zeroCells (Value.agg #[.int .i64 0, .int .i64 0]).cells (n + 1 - i) ++ Builtin.zeroCells (Value.agg #[.int .i64 0, .int .i64 0]).cells (G - (n + 1))).toList, by simp⟩
  rw [← hROW] at hrz
  have hRl : ROW.length = G * 2 := by
    have := congrArg Array.size hROW
    simp [size_zeroCells, Value.cells, pcs_len] at this
    omega
  have hR0 : ∀ j, j < i * 2 → ROW[j]? = (pcs ps)[j]? := fun j hj => by
    have e : ROW[j]? = ROW.toArray[j]? := by simp
    have l0 : (pcs (ps.take i)).length = i * 2 := by rw [pcs_len]; simp; omega
    rw [e, hROW, Array.append_assoc, Array.getElem?_append_left (by simpa [l0] using hj)]
    rw [List.getElem?_toArray, ← pcs_take, List.getElem?_take, if_pos hj]
  have hfin := ins_cells ROW ps (p0, p1) i n hn (by omega) (by omega) hR0
  have hlen : (ps.take i ++ (p0, p1) :: ps.drop i).length = n + 1 := by simp; omega
  have HRZ := Lib.hid hrz
  have HRD := Lib.hid hrd
  have HCS := Lib.hid hcs
  have HFI := Lib.hid hfin
  have HLN := Lib.hid hlen
  have HRL := Lib.hid hRl
  have HN := Lib.hid hn
  have hG63 : G ≤ 9223372036854775807 := by unfold maxLen at hGm; omega
  have hGi : ¬ (G = i) := by omega
  have hGim : ¬ (G = i + 1) := by omega
  have hci : ¬ (n = i) := by omega
  have hz2 : ¬ ((i : Int) = (n : Int)) := by omega
  have hw1 : IntKind.i64.wrap ((i : Int) + 1) = (i : Int) + 1 := by rw [IntKind.wrap_i64]; omega
  have hb1 : (0 : Int) ≤ (i : Int) + 1 := by omega
  have hin : i ≤ n := by omega
  have htn : ((i : Int) + 1).toNat = i + 1 := by omega
  have hb3 : (i : Int) ≤ (n : Int) := by omega
  have hW1 : ((w.alloc (.cells ROW.toArray 44)).drew).heap[w.heap.size]? = some (.cells ROW.toArray 44 (0, 0)) := (show (w.alloc (.cells ROW.toArray 44)).heap[w.heap.size]? = _ from heap_new' rfl)
  obtain ⟨W2, hr2, hc2⟩ : ∃ W2, (∀ ty dc, (Builtin.copy_ #[42, 42] ty #[.slice (some ⟨w.heap.size, i * 2, none⟩) (n + 1 - i) dc, .slice (some ⟨b, 0, none⟩) 1 1]).run Try.prog (w.alloc (.cells ROW.toArray 44)).drew = .ok (goInt 1) W2) ∧ Hid (Cped w.heap.size 44 (over ROW (i * 2) (pcs [(p0, p1)])) (w.alloc (.cells ROW.toArray 44)).drew W2) :=
    ⟨_, fun ty dc => run_copyP (P := Try.prog) _ 42 42 ty 44 w.heap.size (i * 2) (n + 1 - i) dc ⟨b, 0, none⟩ 1 1 ROW.toArray 44 (pcs [(p0, p1)]) 1 Try.underlying42 (by rw [hi0]; simp [hzs]) hW1 (by simp [Nat.min_def]; omega) rfl
      (fun j u hu => (show (w.alloc (.cells ROW.toArray 44)).cell? _ = _ from (Gr.alloc (Gr.refl _) _).keep0 (hcs j u hu))) (by simp [pcs]; omega) (pcs_one _), Lib.hid (cped_setRow _ hW1)⟩
  clear hrz hrd hcs hfin hlen hRl hn hROW hR0 hold hkk hik h hc0 hc1 hi0 hz0
  go_enter Try.func71, Try.ntmps71
  go_upto_region 11 with (first
    | (at_builtin; refine Lib.wpList_append_run _ rfl _ _ _ _ rfl _ _ rfl rfl _ _ (HRZ.out _) ?_))
  have hbW : Below B w W2 := ((Gr.below (Gr.drew (Gr.alloc (Gr.refl w) (.cells ROW.toArray 44)))).mono hB).trans (hc2.out.below B hB)
  have HBT := Lib.hid ((Gr.below (Gr.drew (Gr.alloc (Gr.refl w) (.cells ROW.toArray 44)))).trans (hc2.out.below w.heap.size (Nat.le_refl _)))
  have hne : g ≠ w.heap.size := by omega
  have HRE := Lib.hid (show ∀ j u, (pcs (ps.drop i))[j]? = some u → W2.cell? ((⟨g, i * 2, none⟩ : Addr).add j) = some u by
    intro j u hu
    have e : (⟨g, i * 2, none⟩ : Addr).add j = ⟨g, i * 2 + j, none⟩ := Addr.add_lit _ _ _
    have h0 := HRD.out i (n - i) (by omega) j u (by rwa [List.take_of_length_le (by simp; have := HN.out; omega)])
    rw [e] at h0 ⊢
    rw [hc2.out.cell _ hne]
    exact (show (w.alloc (.cells ROW.toArray 44)).cell? _ = _ from (Gr.alloc (Gr.refl _) _).keep0 h0))
  clear hbW hr2
  have hlo : (over ROW (i * 2) (pcs [(p0, p1)])).length = ROW.length := over_len _ _ _ (by have := HRL.out; simp [pcs]; omega)
  have HLO := Lib.hid hlo
  clear hlo
  generalize hov : over ROW (i * 2) (pcs [(p0, p1)]) = ROV at *
  have hgov := hc2.out.here
  have HGV := Lib.hid hgov
  clear hgov hov
  go_region_held3 (fun _ => True) (trivial)
    ((refine step_copyP rfl (.tmp 50) (.tmp 53) 42 42 rfl 44 Try.underlying42 Try.infoP w.heap.size ((i + 1) * 2) (n + 1 - (i + 1)) (G - (i + 1)) ⟨g, i * 2, none⟩ (n - i) (n - i) (by simp [Act.eval, Act.put]) (by simp [Act.eval, Act.put]) ROV HGV.out (ps.drop i) (by have := HN.out; simp [Nat.min_def]; omega) (fun j u hu => HRE.out j u hu) (by have := HLO.out; have := HRL.out; have := HN.out; simp; omega) ?_; intro w4 hc4))
  all_goals
    go_wp2
    go_ret
    have hbT := HBT.out.trans (Below.trans (Below.drew (Below.refl _ _)) (hc4.out.below w.heap.size (Nat.le_refl _)))
    refine ⟨_, rfl, ?_, hbT.mono hB, grown_of_below hbT _⟩
    have h1 := HLO.out; have h2 := HRL.out; have h3 := HN.out
    exact own_of hc4.out.here hB HLN.out hGn hGm (by rw [over_len _ _ _ (by rw [pcs_len]; simp; omega)]; omega) HFI.out
set_option maxRecDepth 100000 in
set_option maxHeartbeats 4000000 in
/-- there is room: in place -/
theorem Try.insRoom (w : World) (B g i c : Nat) (ps : List Pi2) (p0 p1 : Int) (b : Nat) (hB : B ≤ w.heap.size) (hi : i < ps.length) (hl : ps.length ≤ 1000) (hc : ps.length < c) (hbg : b ≠ g)
    (h : OwnP 44 w B (.slice (some ⟨g, 0, none⟩) ps.length c) ps) (hbk : w.heap[b]? = some (.cells #[.int .i64 p0, .int .i64 p1] 44 (0, 0))) :
    Calls Try.prog 71 #[.slice (some ⟨g, 0, none⟩) ps.length c, .int .i64 i, .slice (some ⟨b, 0, none⟩) 1 1] w fun e w' => ∃ v', e = .returned v' ∧ OwnP 44 w' B v' (ps.take i ++ (p0, p1) :: ps.drop i) ∧ Below B w w' ∧ w.grownBy w' (some g) := by
  have mixed : Try.prog.follows .mixedOrders = true := by kernel_rfl
  obtain ⟨i0, hi0, hz0, hzs, hzb⟩ := info_parts Try.infoP
  have hsz : (Try.prog.info? 44).map (·.size) = some 2 := by rw [hi0]; simp [hzs]
  generalize hn : ps.length = n at *
  have hBg : B ≤ g := (World.ownsRow.lt h g rfl).1
  have hrd := fun (k m : Nat) (hk : k + m ≤ n) => h.reads hn k m hk
  obtain ⟨cur, hg, hcs, hct, hcm⟩ : ∃ cur : List Value, w.heap[g]? = some (.cells cur.toArray 44 (0, 0)) ∧ cur.length = c * 2 ∧ (∀ j, j < n * 2 → cur[j]? = (pcs ps)[j]?) ∧ c ≤ maxLen := by
    rcases h.2 with ⟨hx, _⟩ | ⟨g', cap, cur, hv, _, hg, _, hm, hs, ht⟩
    · cases hx
    · cases hv
      refine ⟨cur.toList, by simpa using hg, by simpa using hs, fun j hj => ?_, hm⟩
      rw [← ht, List.getElem?_take, if_pos (by omega)]
  have hrows := ins_cells cur ps (p0, p1) i n hn (by omega) (by omega) (fun j hj => hct j (by omega))
  have hsw := over_swap cur (i * 2) (pcs [(p0, p1)]) (pcs (ps.drop i)) (by rw [pcs_len, pcs_len]; simp only [List.length_drop, List.length_cons, List.length_nil]; omega)
  have hl1 : (pcs [(p0, p1)]).length = 2 := rfl
  rw [hl1, show i * 2 + 2 = (i + 1) * 2 by omega] at hsw
  have hlen : (ps.take i ++ (p0, p1) :: ps.drop i).length = n + 1 := by simp; omega
  have hlo : (over cur ((i + 1) * 2) (pcs (ps.drop i))).length = c * 2 := by rw [over_len _ _ _ (by rw [pcs_len]; simp; omega)]; exact hcs
  have hlo2 : (over (over cur ((i + 1) * 2) (pcs (ps.drop i))) (i * 2) (pcs [(p0, p1)])).length = c * 2 := by rw [over_len _ _ _ (by rw [hlo, hl1]; omega)]; exact hlo
  rw [← hsw] at hrows
  have hbs : w.shape? b = some (44, 2) := by simp [World.shape?, hbk]
  have hgs : w.shape? g = some (44, cur.toArray.size) := by simp [World.shape?, hg]
  have hov : ∀ lb cb, (callFunc 87 #[.slice (some ⟨b, 0, none⟩) 1 1, .slice (some ⟨g, (i + 1) * 2, none⟩) lb cb]).run Try.prog w = .ok (.value (.bool false)) w := fun lb cb => by
    rw [run_callFunc_extern Try.func87 (by kernel_rfl) (by kernel_rfl) (by kernel_rfl) (e := Extern.SlicesOverlaps.overlaps #[42, 42] #[4]) (by kernel_rfl),
      Lib.run_overlaps_apart w 42 4 44 Try.underlying42 2 (fun W => by simp [sizeOf, typeInfo, hi0, hzs]) ⟨b, 0, none⟩ ⟨g, (i + 1) * 2, none⟩ 1 1 lb cb hbg 44 44 2 cur.toArray.size hbs hgs (by rw [List.size_toArray]; omega) (by simp [World.frozen?, hbk]) (by simp [World.frozen?, hbk])]
    rfl
  have HRD := Lib.hid hrd
  have HRW := Lib.hid hrows
  have HLN := Lib.hid hlen
  have HCS := Lib.hid hcs
  have HN := Lib.hid hn
  have HG := Lib.hid hg
  have HBK := Lib.hid hbk
  have HSZ := Lib.hid hsz
  have HLO := Lib.hid hlo
  have HLO2 := Lib.hid hlo2
  have HCM := Lib.hid hcm
  have hc63 : c ≤ 9223372036854775807 := by unfold maxLen at hcm; omega
  have hci : ¬ (c = i) := by omega
  have hcim : ¬ (c = i + 1) := by omega
  have hz2 : ¬ ((i : Int) = (n : Int)) := by omega
  have hz3 : ¬ ((c : Int) < (n : Int) + 1) := by omega
  have hw1 : IntKind.i64.wrap ((i : Int) + 1) = (i : Int) + 1 := by rw [IntKind.wrap_i64]; omega
  have hw2 : IntKind.i64.wrap ((n : Int) + 1) = (n : Int) + 1 := by rw [IntKind.wrap_i64]; omega
  have hb1 : (0 : Int) ≤ (i : Int) + 1 := by omega
  have hb5 : (0 : Int) ≤ (n : Int) + 1 := by omega
  have hin : i ≤ n := by omega
  have hin2 : i ≤ n + 1 := by omega
  have htn : ((i : Int) + 1).toNat = i + 1 := by omega
  have htn2 : ((n : Int) + 1).toNat = n + 1 := by omega
  have hb3 : (i : Int) ≤ (n : Int) := by omega
  have hb4 : (i : Int) ≤ (n : Int) + 1 := by omega
  have hb6 : (n : Int) + 1 ≤ (c : Int) := by omega
  clear hrd hrows hlen hcs hn hg hbk hsz hlo hlo2 hct hsw h hgs hbs hcm hi0 hz0
  go_enter Try.func71, Try.ntmps71
  go_upto_region 15 with (simp only [hov])
  go_region_held3 (fun _ => True) (trivial)
    ((refine step_copyP rfl (.tmp 73) (.tmp 76) 42 42 rfl 44 Try.underlying42 Try.infoP g ((i + 1) * 2) (n + 1 - (i + 1)) (c - (i + 1)) ⟨g, i * 2, none⟩ (n + 1 - i) (c - i) (by simp [Act.eval, Act.put]) (by simp [Act.eval, Act.put]) cur HG.out (ps.drop i) (by have := HN.out; rw [List.length_drop]; simp only [Nat.min_def]; split <;> omega) (fun j u hu => (show w.cell? _ = _ from by have h0 := HRD.out i (n - i) (by omega) j u (by rwa [List.take_of_length_le (by simp; have := HN.out; omega)]); exact h0)) (by have := HCS.out; have := HN.out; simp; omega) ?_; intro w4 hc4))
  have hW4 := hc4.out.here
  obtain ⟨W5, hr5, hc5⟩ : ∃ W5, (∀ ty dc, (Builtin.copy_ #[42, 42] ty #[.slice (some ⟨g, i * 2, none⟩) (n + 1 - i) dc, .slice (some ⟨b, 0, none⟩) 1 1]).run Try.prog w4 = .ok (goInt 1) W5) ∧ Hid (Cped g 44 (over (over cur ((i + 1) * 2) (pcs (ps.drop i))) (i * 2) (pcs [(p0, p1)])) w4 W5) :=
    ⟨_, fun ty dc => run_copyP (P := Try.prog) w4 42 42 ty 44 g (i * 2) (n + 1 - i) dc ⟨b, 0, none⟩ 1 1 (over cur ((i + 1) * 2) (pcs (ps.drop i))).toArray 44 (pcs [(p0, p1)]) 1 Try.underlying42 HSZ.out hW4 (by simp [Nat.min_def]; omega) rfl
      (fun j u hu => by
        rw [hc4.out.cell _ (by rw [Addr.add_lit]; exact hbg)]
        have hk := HBK.out
        have e : (⟨b, 0, none⟩ : Addr).add j = ⟨b, j, none⟩ := by rw [Addr.add_lit]; simp
        rw [e]
        show w.cell? _ = _
        rw [cell_of_row _ b j #[.int .i64 p0, .int .i64 p1] 44 (0, 0) hk]
        simpa [pcs] using hu) (by have := HLO.out; simp [pcs]; omega) (pcs_one _), Lib.hid (cped_setRow _ hW4)⟩
  have HC4 := Lib.hid hc4.out
  clear hW4 hc4
  go_wp2
  go_ret
  have hbT := (Below.trans (Below.drew (Below.refl _ _)) (HC4.out.below B hBg)).trans (hc5.out.below B hBg)
  have hgT : w.grownBy W5 (some g) := ⟨hbT.os, hbT.tape, hbT.output, hbT.size, fun k hk hne => by rw [hc5.out.other k (fun e => hne (by rw [e])), HC4.out.other k (fun e => hne (by rw [e]))]; rfl⟩
  refine ⟨_, rfl, ?_, hbT, hgT⟩
  exact own_of hc5.out.here hBg HLN.out (by omega) HCM.out HLO2.out HRW.out
/-- whatever the place -/
theorem Try.insertP (w : World) (B i : Nat) (v : Value) (ps : List Pi2) (p0 p1 : Int) (b : Nat) (hB : B ≤ w.heap.size) (hi : i ≤ ps.length) (hpos : 0 < ps.length) (hl : ps.length ≤ 1000) (hbv : v.ownBlock ≠ some b)
    (h : OwnP 44 w B v ps) (hbk : w.heap[b]? = some (.cells #[.int .i64 p0, .int .i64 p1] 44 (0, 0))) :
    Calls Try.prog 71 #[v, .int .i64 i, .slice (some ⟨b, 0, none⟩) 1 1] w fun e w' => ∃ v', e = .returned v' ∧ OwnP 44 w' B v' (ps.take i ++ (p0, p1) :: ps.drop i) ∧ Below B w w' ∧ w.grownBy w' v.ownBlock := by
  have hc0 : w.cell? ⟨b, 0, none⟩ = some (.int .i64 p0) := by rw [cell_of_row _ b 0 _ _ _ hbk]; rfl
  have hc1 : w.cell? ⟨b, 1, none⟩ = some (.int .i64 p1) := by rw [cell_of_row _ b 1 _ _ _ hbk]; rfl
  rcases Nat.lt_or_eq_of_le hi with hlt | rfl
  · rcases h.view with ⟨hz, _⟩ | ⟨_, g, c, rfl, _, g2, hcap, hcm, _, _⟩
    · subst hz; simp at hpos
    · rcases Nat.lt_or_eq_of_le hcap with hc | rfl
      · exact Try.insRoom w B g i c ps p0 p1 b hB hlt hl hc (fun e => hbv (by rw [e]; rfl)) h hbk
      · exact Try.insGrow w B g i ps p0 p1 b hB hlt hl h hc0 hc1
  · have := Try.insertEnd w B v ps p0 p1 b hB hpos hl h hc0 hc1
    simpa using this
end Go.Proofs
