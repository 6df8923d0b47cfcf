/-
  Chapter 8: numbers told anew, both sides (spec.bgNamed, NamedPlan; impl.NamedPlan).
-/
import Derived.Test.YtjocipddffillaaBgM
import Derived.Test.YtjocipddffillaaInts2
import Derived.Test.YtjocipddffillaaShelf
import Derived.Maps.AppendAt
import Derived.Test.YtjocipddffillaaQTail
namespace Go.Proofs
open Go.RowKit
set_option linter.unusedVariables false
set_option linter.unusedSimpArgs false
def RetI (w : World) (xs : List Int) (b : Bool) (e : Ending) (w' : World) : Prop := ∃ v', e = .returned (.tuple #[v', .bool b]) ∧ OwnI w' w.heap.size v' xs ∧ Below w.heap.size w w'
theorem ifG (b : Bool) (xs : List Int) (h : xs.length ≤ 1000000000) : (if b = true then xs else []).length ≤ 1000000000 := by cases b <;> simp [h]
/-- one more int is appended: it lies in a block laid for it; where the row lies then -/
theorem wpList_app1J {P : Program} {ops : Array Oper} {rest : List Oper} {o : Oper} {a : Act} {Q : Exit → Act → World → Prop} {W : World} (hgd : o.guard = none) (s x : Operand) (t : TypeId)
    (ho : o.op = .call { callee := .builtin .append, args := #[s, x], argTypes := #[t, t] }) (ht : P.underlying t = some (.slice 3))
    (hinfo : (P.info? 3).map (fun i => (i.zero, i.size, i.bytes)) = some (some (.int .i64 0), 1, 8)) (B : Nat) (v : Value) (xs : List Int) (hs : a.eval s = v) (h : OwnI W B v xs)
    (y : Int) (hx : a.eval x = .slice (some ⟨W.heap.size, 0, none⟩) 1 1) (hl : xs.length ≤ 1000000000) (hB : B ≤ W.heap.size)
    (k : ∀ v' w', OwnI w' B v' (xs ++ [y]) → Below B W w' → W.grownBy w' v.ownBlock → W.heap.size + 1 ≤ w'.heap.size → (v'.ownBlock = v.ownBlock ∨ v'.ownBlock = some (W.heap.size + 1)) → wpList P ops Q rest (a.put o.dst v') w') :
    wpList P ops Q (o :: rest) a (W.alloc (.cells #[.int .i64 y] 3)) := by
  obtain ⟨i0, hi, hz0, hz1, hz2⟩ := info_parts hinfo
  refine wpList_append_own_at (w := W.alloc (.cells #[.int .i64 y] 3)) hgd s x t ho B 3 i0 _ 1 8 ht hi hz0 hz1 hz2 rfl (by decide) v xs.length (xs.map (Value.int .i64)) hs (World.ownsRow.alloc h _) ⟨W.heap.size, 0, none⟩ 1 1 [.int .i64 y] hx rfl
    (fun j u hu => alloc_cells (by simpa using hu)) (fun u hu => by simp at hu; subst hu; rfl) (by unfold maxLen; omega) (by omega) (by simp; omega) fun v' w' ho' hg _ hat => ?_
  have g2 : W.grownBy w' v.ownBlock := by
    have g1 := World.grownBy_alloc W (.cells #[.int .i64 y] 3) v.ownBlock
    exact ⟨hg.os.trans g1.os, hg.tape.trans g1.tape, hg.output.trans g1.output, Nat.le_trans g1.size hg.size, fun j hj hne => (hg.block j (Nat.lt_of_lt_of_le hj g1.size) hne).trans (g1.block j hj hne)⟩
  refine k v' w' ?_ (Below.grown (Below.refl _ _) g2 hB fun j hj => (World.ownsRow.lt h j hj).1) g2 (by have := hg.size; simpa using this) (by simpa using hat)
  unfold OwnI
  simpa using ho'
/-- two rows that lie in different blocks -/
def NE (a b : Value) : Prop := a.ownBlock = none ∨ a.ownBlock ≠ b.ownBlock
theorem NE.sym {a b : Value} (h : NE a b) : NE b a := by
  rcases h with h | h
  · cases e : b.ownBlock
    · exact .inl e
    · exact .inr (by rw [e, h]; simp)
  · exact .inr (fun q => h q.symm)
theorem NE.app {W : World} {B : Nat} {a a' b : Value} {ys : List Int} (h : NE a b) (hb : OwnI W B b ys) (ha : a'.ownBlock = a.ownBlock ∨ a'.ownBlock = some (W.heap.size + 1)) : NE a' b := by
  rcases ha with e | e
  · rcases h with q | q
    · exact .inl (e.trans q)
    · exact .inr (by rw [e]; exact q)
  · refine .inr fun q => ?_
    have := hb.lt _ (q.symm.trans e)
    omega
theorem OwnI.addr {w : World} {B n c : Nat} {A : Option Addr} {xs : List Int} (h : OwnI w B (.slice A n c) xs) (h0 : 0 < xs.length) : ∃ g, A = some ⟨g, 0, none⟩ := by
  rcases h.view with ⟨rfl, _⟩ | ⟨_, g, c', e, _⟩
  · simp at h0
  · simp only [Value.slice.injEq] at e
    exact ⟨g, e.1⟩
theorem idx_of {xs : List Int} {x : Int} {k : Nat} (hk : k ≤ xs.length) (h : ∀ j, j < k → xs.getD j 0 ≠ x) (e : k = xs.length ∨ xs.getD k 0 = x) : xs.idxOf x = k := by
  induction xs generalizing k with
  | nil => simp at hk; subst hk; rfl
  | cons y ys ih =>
    rw [List.idxOf_cons]
    by_cases c : y = x
    · subst c
      have : k = 0 := by
        rcases Nat.eq_zero_or_pos k with q | q
        · exact q
        · exact absurd rfl (h 0 q)
      simp [this]
    · have : k ≠ 0 := by
        rintro rfl
        rcases e with e | e
        · simp at e
        · exact c e
      obtain ⟨m, rfl⟩ : ∃ m, k = m + 1 := ⟨k - 1, by omega⟩
      rw [show (y == x) = false by simpa using c]
      simp only [cond_false]
      rw [ih (k := m) (by simpa using hk) (fun j hj => by simpa using h (j + 1) (by omega)) (by
        rcases e with e | e
        · exact .inl (by simpa using e)
        · exact .inr (by simpa using e))]
theorem all_snocD {q : Nat → Prop} {k : Nat} (h : ∀ j, j < k → q j) (s : q k) : ∀ j, j < k + 1 → q j := fun j hj => by
  rcases Nat.lt_or_eq_of_le (Nat.le_of_lt_succ hj) with c | c
  · exact h j c
  · rw [c]; exact s
open Bg
def NmRel (pl : List Int) (w : World) (s3 s4 i : Value) (wr : World) : Prop := ∃ k : Nat, k ≤ pl.length ∧ i = .int .i64 k ∧ OwnI wr w.heap.size s3 (nmN pl k) ∧ OwnI wr w.heap.size s4 (tb (fun j => (nid pl j : Int)) k) ∧ NE s3 s4 ∧ Below w.heap.size w wr
def NjRel (xs : List Int) (x : Int) (W : World) (s : Value) (wr : World) : Prop := wr = W ∧ ∃ m : Nat, m ≤ xs.length ∧ s = .int .i64 m ∧ ∀ j, j < m → xs.getD j 0 ≠ x
set_option maxRecDepth 100000 in
set_option maxHeartbeats 1600000 in
theorem Try.bgNamed (w : World) (B : Nat) (v : Value) (pl : List Int) (hl : pl.length ≤ 1000) (h : OwnI w B v pl) :
    Calls Try.prog 82 #[v] w fun e w' => ∃ v', e = .returned v' ∧ OwnI w' w.heap.size v' (named pl) ∧ Below w.heap.size w w' := by
  obtain ⟨A, c, rfl, h⟩ := h.eta
  have HO := Lib.hid h
  clear h
  go_enter Try.func82, Try.ntmps82
  go_wp2
  go_loopw [3, 4, 6, 7, 10] (fun s3 s4 _ _ i wr => NmRel pl w s3 s4 i wr) (fun _ _ _ _ i _ => (pl.length - intOf i).toNat)
  case atStart => exact ⟨0, Nat.zero_le _, rfl, OwnI.nil2 _ _, OwnI.nil2 _ _, .inl rfl, Below.refl _ _⟩
  case round =>
    obtain ⟨k, hk, rfl, o3, o4, ne, hb'⟩ := hrel
    by_cases hlt : k < pl.length
    · obtain ⟨g, rfl⟩ := HO.out.addr (by omega)
      have e0 := cell_k2 hb' (HO.out.at rfl k hlt).1
      obtain ⟨A3, c3, rfl, o3⟩ := o3.eta
      have hnl := nm_len pl k
      have hnx : nmN pl (k + 1) = if pl.getD k 0 ∈ nmN pl k then nmN pl k else nmN pl k ++ [pl.getD k 0] := rfl
      have hnid : nid pl k = (nmN pl k).idxOf (pl.getD k 0) := rfl
      have hts := tb_succ (fun j => (nid pl j : Int)) k
      have htl := tb_len (fun j => (nid pl j : Int)) k
      have hmem := nid_lt_iff pl k
      have z0 : (0 : Int) ≤ (k : Int) := by omega
      have z1 : (k : Int) < (pl.length : Int) := by omega
      have HX := Lib.hid hnx
      have HID := Lib.hid hnid
      have HTS := Lib.hid hts
      have HTL := Lib.hid htl
      have HM := Lib.hid hmem
      have O3 := Lib.hid o3
      have O4 := Lib.hid o4
      have HN := Lib.hid ne
      have HB := Lib.hid hb'
      clear hnx hnid hts htl hmem o3 o4 ne hb'
      generalize pl.getD k 0 = x at *
      generalize nmN pl k = nm at *
      generalize hcur : wr = W
      subst hcur
      rename World => X
      go_wp2
      go_loopw [7] (fun s wr' => NjRel nm x X s wr') (fun s _ => (nm.length - intOf s).toNat)
      case atStart => exact ⟨rfl, 0, Nat.zero_le _, rfl, fun j hj => absurd hj (Nat.not_lt_zero _)⟩
      case round =>
        obtain ⟨rfl, m, hm, rfl, hall⟩ := hrel
        by_cases hm2 : m < nm.length
        · obtain ⟨g3, rfl⟩ := O3.out.addr (by omega)
          have e3 := (O3.out.at rfl m hm2).1
          have y0 : (0 : Int) ≤ (m : Int) := by omega
          have y1 : (m : Int) < (nm.length : Int) := by omega
          by_cases hx : nm.getD m 0 = x
          · have hidx := idx_of hm hall (.inr hx)
            rw [← HID.out] at hidx
            have hin := HM.out.1 (by omega)
            have hX := HX.out
            rw [if_pos hin] at hX
            have HX2 := Lib.hid hX
            have hT := HTS.out
            rw [hidx] at hT
            have HT2 := Lib.hid hT
            have hne : ¬ (m : Int) = (nm.length : Int) := by omega
            have hne2 : ((m : Int) == (nm.length : Int)) = false := by simp; omega
            rw [hx] at e3
            clear hall hX hT hin
            go_wp2_with (first | (at_builtin; refine wpList_app1J rfl _ _ 29 rfl Try.underlying29 Try.infoI2 w.heap.size _ _ rfl O4.out (m : Int) rfl (by rw [HTL.out]; omega) (by have := HB.out.size; omega) ?_; intro v' w3 ho3 hb3 hg3 hs3 hat3))
            go_roundw
            case rel => exact ⟨k + 1, by omega, by go_num, by rw [HX2.out]; exact O3.out.grown hg3 HN.out, by rw [HT2.out]; exact ho3, (HN.out.sym.app O3.out hat3).sym, HB.out.trans hb3⟩
            case measure => simp [intOf]; omega
          · have HS := Lib.hid (all_snocD hall hx)
            have hne2 : ((nm.getD m 0) == x) = false := by simpa using hx
            clear hall
            generalize nm.getD m 0 = y at *
            go_wp2
            go_roundw
            case rel => exact ⟨rfl, m + 1, by omega, by go_num, HS.out⟩
            case measure => simp [intOf]; omega
        · obtain rfl : m = nm.length := by omega
          have hidx := idx_of hm hall (.inl rfl)
          rw [← HID.out] at hidx
          have hX := HX.out
          rw [if_neg (fun q => by have := HM.out.2 q; omega)] at hX
          have HX2 := Lib.hid hX
          have hT := HTS.out
          rw [hidx] at hT
          have HT2 := Lib.hid hT
          clear hall hX hT
          go_wp2_with (first | (at_builtin; refine wpList_app1J rfl _ _ 29 rfl Try.underlying29 Try.infoI2 w.heap.size _ _ rfl O3.out x rfl (by omega) (by have := HB.out.size; omega) ?_; intro v3' w2 ho2 hb2 hg2 hs2 hat2; have O4b := Lib.hid (O4.out.grown hg2 HN.out.sym); have HNb := Lib.hid (HN.out.app O4.out hat2)) | (at_builtin; refine wpList_app1J rfl _ _ 29 rfl Try.underlying29 Try.infoI2 w.heap.size _ _ rfl O4b.out (nm.length : Int) rfl (by rw [HTL.out]; omega) (by have := HB.out.size; omega) ?_; intro v' w3 ho3 hb3 hg3 hs3 hat3))
          go_roundw
          case rel => exact ⟨k + 1, by omega, by go_num, by rw [HX2.out]; exact ho2.grown hg3 HNb.out, by rw [HT2.out]; exact ho3, (HNb.out.sym.app ho2 hat3).sym, (HB.out.trans hb2).trans hb3⟩
          case measure => simp [intOf]; omega
    · obtain rfl : k = pl.length := by omega
      have O4 := Lib.hid o4
      have HB := Lib.hid hb'
      clear o3 o4 ne hb'
      go_wp2
      go_ret
      exact ⟨_, rfl, O4.out, HB.out⟩
end Go.Proofs
