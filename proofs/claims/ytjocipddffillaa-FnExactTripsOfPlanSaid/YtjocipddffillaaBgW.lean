/-
  Chapter 8: the parcels of each trip, both sides (spec.TripsOfPlan, impl.TripsOfPlan); marks in lists of lists (laws.markIntSS, heldIntSS).
-/
import Derived.Test.YtjocipddffillaaBgV
import Derived.Test.YtjocipddffillaaRlA
namespace Go.Proofs
open Go.RowKit Bg
set_option linter.unusedVariables false
set_option linter.unusedSimpArgs false
theorem OwnLD.mark {W w' : World} {B n g c t : Nat} {F : Nat → List Int} {ys : List Int} (h : OwnLD W B (.slice (some ⟨g, 0, none⟩) n c) n F) (ht : t < n) {u : Value} (hu : W.cell? ⟨g, t, none⟩ = some u)
    (hv : OwnI w' B u ys) (hg : W.grownBy w' u.ownBlock) : OwnLD w' B (.slice (some ⟨g, 0, none⟩) n c) n (fun j => if j = t then ys else F j) := by
  obtain ⟨vs, h1, h3, h4, h5⟩ := h
  have htv : vs[t]? = some u := by
    have e := World.ownsRow.cellAt h3 t (by omega)
    rw [hu] at e
    exact e.symm
  have hou := h4 t u htv
  refine ⟨vs, h1, World.ownsRow.kept h3 hg (rows_ne2 hou h3), fun j z hz => ?_, h5⟩
  by_cases e : j = t
  · subst e
    rw [htv] at hz
    simp only [Option.some.injEq] at hz
    subst hz
    show OwnI _ B u (if j = j then ys else F j)
    rw [if_pos rfl]
    exact hv
  · show OwnI _ B z (if j = t then ys else F j)
    rw [if_neg e]
    exact (h4 j z hz).grown hg (h5 j t z u e hz htv)
theorem OwnLD.congr {w : World} {B n : Nat} {v : Value} {F G : Nat → List Int} (h : OwnLD w B v n F) (e : ∀ j, j < n → F j = G j) : OwnLD w B v n G := by
  obtain ⟨vs, h1, h3, h4, h5⟩ := h
  exact ⟨vs, h1, h3, fun j z hz => by rw [← e j (by have := (List.getElem?_eq_some_iff.1 hz).1; omega)]; exact h4 j z hz, h5⟩
theorem OwnLD.low {w w' : World} {B n : Nat} {v : Value} {F : Nat → List Int} {row : Option Nat} (h : OwnLD w B v n F) (hg : w.grownBy w' row) (hr : ∀ b, row = some b → b < B) : OwnLD w' B v n F := by
  obtain ⟨vs, h1, h3, h4, h5⟩ := h
  have key : ∀ {T : TypeId} {z : Value} {k : Nat} {cs : List Value}, w.ownsRow B T 1 z k cs → (z.ownBlock = none ∨ z.ownBlock ≠ row) := fun hz => by
    rename_i z _ _
    cases e : z.ownBlock with
    | none => exact .inl rfl
    | some b =>
      refine .inr fun q => ?_
      have a := (World.ownsRow.lt hz b e).1
      have := hr b q.symm
      omega
  exact ⟨vs, h1, World.ownsRow.kept h3 hg (key h3), fun j z hz => (h4 j z hz).grown hg (key (h4 j z hz)), h5⟩
def offN (m : Int) (F : Nat → List Int) : Nat → Int
  | 0 => m
  | i + 1 => offN m F i + ((F i).length : Int)
def mkF (m : Int) (F : Nat → List Int) (i j : Nat) : List Int := if j < i then mki (offN m F j) (F j).length (F j) else F j
theorem offN_in {m : Int} {F : Nat → List Int} (h : ∀ j, (F j).length ≤ 8) (i : Nat) : m ≤ offN m F i ∧ offN m F i ≤ m + 8 * (i : Int) := by
  induction i with
  | zero => exact ⟨Int.le_refl _, by simp [offN]⟩
  | succ i ih =>
    have := h i
    simp only [offN]
    omega
theorem mkF_step {m : Int} {F : Nat → List Int} (i : Nat) : (fun j => if j = i then mki (offN m F i) (F i).length (F i) else mkF m F i j) = mkF m F (i + 1) := by
  funext j
  unfold mkF
  by_cases e : j = i
  · subst e; rw [if_pos rfl, if_pos (by omega)]
  · rw [if_neg e]
    by_cases c : j < i
    · rw [if_pos c, if_pos (by omega)]
    · rw [if_neg c, if_neg (by omega)]
theorem mkF_zero (m : Int) (F : Nat → List Int) : mkF m F 0 = F := by funext j; unfold mkF; rw [if_neg (by omega)]
def MsRel (m : Int) (F : Nat → List Int) (n B : Nat) (v : Value) (w : World) (s i : Value) (wr : World) : Prop := ∃ k : Nat, k ≤ n ∧ i = .int .i64 k ∧ s = .int .i64 (offN m F k) ∧ OwnLD wr B v n (mkF m F k) ∧ Below B w wr
set_option maxRecDepth 100000 in
set_option maxHeartbeats 1600000 in
theorem Try.markIntSS (w : World) (B : Nat) (v : Value) (n : Nat) (F : Nat → List Int) (m : Int) (hB : B ≤ w.heap.size) (m0 : 0 ≤ m) (m1 : m ≤ 1000) (hn : n ≤ 8) (hl : ∀ j, (F j).length ≤ 8) (h : OwnLD w B v n F) :
    Calls Try.prog 29 #[v, .int .i64 m] w fun e w' => e = .returned (.int .i64 (offN m F n)) ∧ OwnLD w' B v n (mkF m F n) ∧ Below B w w' := by
  obtain ⟨A, c, rfl, _⟩ := h.ll.slice
  rw [← mkF_zero m F] at h
  have HO := Lib.hid h
  have HLL := Lib.hid hl
  have HOF := Lib.hid (fun i => offN_in (m := m) hl i)
  clear h hl
  go_enter Try.func29, Try.ntmps29
  go_wp2
  go_loopw [1, 5] (fun s i wr => MsRel m F n B (.slice A n c) w s i wr) (fun _ i _ => (n - intOf i).toNat)
  case atStart => exact ⟨0, Nat.zero_le _, rfl, rfl, HO.out, Below.refl _ _⟩
  case round =>
    obtain ⟨k, hk, rfl, rfl, ol, hb'⟩ := hrel
    by_cases hlt : k < n
    · obtain ⟨g, rfl⟩ : ∃ g, A = some ⟨g, 0, none⟩ := by
        obtain ⟨g', c', e, _⟩ := ol.ll.form (by omega)
        simp only [Value.slice.injEq] at e
        exact ⟨g', e.1⟩
      obtain ⟨u, cu, ou, _⟩ := ol.row k hlt
      have hfk : mkF m F k k = F k := by unfold mkF; rw [if_neg (by omega)]
      rw [hfk] at ou
      obtain ⟨Au, lu, cu', rfl⟩ : ∃ A l c, u = .slice A l c := by obtain ⟨A, c, e⟩ := ou.sl; exact ⟨_, _, _, e⟩
      have hof := HOF.out k
      have HM := Lib.hid (Try.markIntM wr B _ (F k) (offN m F k) (by omega) (by omega) (by have := HLL.out k; omega) ou)
      rw [Int.one_mul] at HM
      have hox : offN m F (k + 1) = offN m F k + ((F k).length : Int) := rfl
      have hst := mkF_step (m := m) (F := F) k
      have HOX := Lib.hid hox
      have HST := Lib.hid hst
      have OL := Lib.hid ol
      have HB := Lib.hid hb'
      have HCU := Lib.hid cu
      have HLT := Lib.hid (World.ownsRow.lt ou)
      have z0 : (0 : Int) ≤ (k : Int) := by omega
      have z1 : (k : Int) < (n : Int) := by omega
      clear hox hst ol hb' ou hfk
      generalize hmk : mki (offN m F k) (F k).length (F k) = ys at *
      generalize offN m F k = q at *
      go_wp2_with (go_at_call 28; refine HM.out.mono ?_; rintro e w2 ⟨rfl, o2, g2⟩)
      go_roundw
      case rel =>
        refine ⟨k + 1, by omega, by go_num, by rw [HOX.out], ?_, HB.out.trans (Below.grown (Below.refl _ _) g2 (Nat.le_trans hB HB.out.size) (fun j hj => (HLT.out j hj).1))⟩
        have := OwnLD.mark OL.out hlt HCU.out o2 g2
        rw [HST.out] at this
        exact this
      case measure => simp [intOf]; omega
    · obtain rfl : k = n := by omega
      have OL := Lib.hid ol
      have HB := Lib.hid hb'
      clear ol hb'
      go_wp2
      go_ret
      exact ⟨rfl, OL.out, HB.out⟩
def HsRel (m : Int) (F : Nat → List Int) (n : Nat) (w : World) (s i : Value) (wr : World) : Prop := w = wr ∧ ∃ k : Nat, k ≤ n ∧ i = .int .i64 k ∧ s = .int .i64 (offN m F k)
set_option maxRecDepth 100000 in
set_option maxHeartbeats 1600000 in
theorem Try.heldIntSS (w : World) (B : Nat) (v : Value) (n : Nat) (F : Nat → List Int) (m : Int) (m0 : 0 ≤ m) (m1 : m ≤ 1000) (hn : n ≤ 8) (hl : ∀ j, (F j).length ≤ 8) (h : OwnLD w B v n (mkF m F n)) :
    Calls Try.prog 30 #[v, .int .i64 m] w fun e w' => e = .returned (.int .i64 (offN m F n)) ∧ w = w' := by
  obtain ⟨A, c, rfl, _⟩ := h.ll.slice
  have HO := Lib.hid h
  have HLL := Lib.hid hl
  have HOF := Lib.hid (fun i => offN_in (m := m) hl i)
  clear h hl
  go_enter Try.func30, Try.ntmps30
  go_wp2
  go_loopw [1, 5] (fun s i wr => HsRel m F n w s i wr) (fun _ i _ => (n - intOf i).toNat)
  case atStart => exact ⟨rfl, 0, Nat.zero_le _, rfl, rfl⟩
  case round =>
    obtain ⟨rfl, k, hk, rfl, rfl⟩ := hrel
    by_cases hlt : k < n
    · obtain ⟨g, rfl⟩ : ∃ g, A = some ⟨g, 0, none⟩ := by
        obtain ⟨g', c', e, _⟩ := HO.out.ll.form (by omega)
        simp only [Value.slice.injEq] at e
        exact ⟨g', e.1⟩
      obtain ⟨u, cu, ou, _⟩ := HO.out.row k hlt
      have hfk : mkF m F n k = mki (offN m F k) (F k).length (F k) := by unfold mkF; rw [if_pos hlt]
      rw [hfk] at ou
      obtain ⟨Au, lu, cu', rfl⟩ : ∃ A l c, u = .slice A l c := by obtain ⟨A, c, e⟩ := ou.sl; exact ⟨_, _, _, e⟩
      have hof := HOF.out k
      have HM := Lib.hid (Try.heldIntM w B _ (F k) (offN m F k) (by omega) (by omega) (by have := HLL.out k; omega) ou)
      rw [Int.one_mul] at HM
      have hox : offN m F (k + 1) = offN m F k + ((F k).length : Int) := rfl
      have hof2 := HOF.out (k + 1)
      rw [hox] at hof2
      have HOX := Lib.hid hox
      have z0 : (0 : Int) ≤ (k : Int) := by omega
      have z1 : (k : Int) < (n : Int) := by omega
      clear hox ou hfk
      have HL := Lib.hid (HLL.out k)
      generalize offN m F k = q at *
      generalize ((F k).length : Int) = r at *
      have hneg : ¬ q + r < 0 := by omega
      go_wp2_with (go_at_call 37; refine HM.out.mono ?_; rintro e w2 ⟨rfl, rfl⟩)
      go_roundw
      case rel => exact ⟨rfl, k + 1, by omega, by go_num, by rw [HOX.out]⟩
      case measure => simp [intOf]; omega
    · obtain rfl : k = n := by omega
      go_wp2
      go_ret
      exact ⟨rfl, rfl⟩
end Go.Proofs
