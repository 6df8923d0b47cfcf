/-
  Contracts of chapter 5: all houses with the least number (both sides): best houses and centers.
-/
import Derived.Test.YtkhjjafeoijaaaaMdT
namespace Go.Proofs
open Go.RowKit
set_option linter.unusedVariables false
set_option linter.unusedSimpArgs false
/-- the least of the first k numbers, and where it is -/
def mnN (f : Nat → Int) : Nat → Int
  | 0 => 0
  | k + 1 => if k = 0 ∨ f k < mnN f k then f k else mnN f k
def bsN (f : Nat → Int) : Nat → List Int
  | 0 => []
  | k + 1 => if k = 0 ∨ f k < mnN f k then [(k : Int)] else if f k = mnN f k then bsN f k ++ [(k : Int)] else bsN f k
theorem mn_s (f : Nat → Int) (k : Nat) : mnN f (k + 1) = if k = 0 ∨ f k < mnN f k then f k else mnN f k := rfl
theorem bs_s (f : Nat → Int) (k : Nat) : bsN f (k + 1) = if k = 0 ∨ f k < mnN f k then [(k : Int)] else if f k = mnN f k then bsN f k ++ [(k : Int)] else bsN f k := rfl
theorem bsN_len (f : Nat → Int) (k : Nat) : (bsN f k).length ≤ k := by
  induction k with
  | zero => simp [bsN]
  | succ k ih =>
    rw [bs_s]
    split
    · simp
    · split
      · simp; omega
      · omega
theorem bsN_head (f : Nat → Int) (k : Nat) (h : 0 < k) : 0 < (bsN f k).length ∧ ∃ j : Nat, j < k ∧ (bsN f k).getD 0 0 = (j : Int) ∧ f j = mnN f k := by
  induction k with
  | zero => omega
  | succ k ih =>
    rw [bs_s, mn_s]
    by_cases c : k = 0 ∨ f k < mnN f k
    · rw [if_pos c, if_pos c]
      exact ⟨by simp, k, by omega, by simp, rfl⟩
    · rw [if_neg c, if_neg c]
      obtain ⟨a, j, hj, e1, e2⟩ := ih (by omega)
      split
      · refine ⟨by simp, j, by omega, ?_, e2⟩
        rw [← e1]
        unfold List.getD
        rw [List.getElem?_append_left a]
      · exact ⟨a, j, by omega, e1, e2⟩
theorem bsN_ext {f g : Nat → Int} (n : Nat) (h : ∀ i, i < n → f i = g i) : bsN f n = bsN g n ∧ mnN f n = mnN g n := by
  induction n with
  | zero => exact ⟨rfl, rfl⟩
  | succ n ih =>
    obtain ⟨a, b⟩ := ih (fun i hi => h i (by omega))
    rw [bs_s, mn_s, bs_s, mn_s, a, b, h n (by omega)]
    exact ⟨rfl, rfl⟩
def BsRel (f : Nat → Int) (n : Nat) (w : World) (B : Nat) (s i : Value) (wr : World) : Prop := ∃ k : Nat, k ≤ n ∧ i = .int .i64 k ∧ OwnI wr B s (bsN f k) ∧ Below B w wr
set_option maxRecDepth 100000 in
set_option maxHeartbeats 1600000 in
theorem Try.mdBest (w : World) (B : Nat) (v : Value) (f : Nat → Int) (n : Nat) (hn : 0 < n) (hl : n ≤ 60) (h : OwnI w B v (tbl f n)) :
    Calls Try.prog 43 #[v] w fun e w' => ∃ v', e = .returned v' ∧ OwnI w' w.heap.size v' (bsN f n) ∧ Below w.heap.size w w' := by
  have hlen := tbl_len f n
  rcases h.view with ⟨e, _⟩ | ⟨hpos, g, c, rfl, _, _, _, hc, _⟩
  · rw [e] at hlen; simp at hlen; omega
  · rw [hlen] at hc ⊢
    have hc' : ∀ j, j < n → w.cell? ⟨g, j, none⟩ = some (.int .i64 (f j)) := fun j hj => by rw [hc j hj, tbl_get f n j hj]
    have HC := Lib.hid hc'
    clear h hc hc' hlen hpos
    go_enter Try.func43, Try.ntmps43
    go_wp2
    go_loopw [3, 8] (fun s i wr => BsRel f n w w.heap.size s i wr) (fun _ i _ => (n - intOf i).toNat)
    case atStart => exact ⟨0, Nat.zero_le _, rfl, OwnI.nil2 _ _, Below.refl _ _⟩
    case round =>
      obtain ⟨k, hk, rfl, ho, hbl⟩ := hrel
      have HO := Lib.hid ho
      have HL := Lib.hid hbl
      have szr := hbl.size
      by_cases hlt : k < n
      · have e1 := cell_k2 hbl (HC.out k hlt)
        have z0 : (0 : Int) ≤ (k : Int) := by omega
        have z1 : (k : Int) < (n : Int) := by omega
        have hs : bsN f (k + 1) = if k = 0 ∨ f k < mnN f k then [(k : Int)] else if f k = mnN f k then bsN f k ++ [(k : Int)] else bsN f k := rfl
        rcases Nat.eq_zero_or_pos k with k0 | kpos
        · subst k0
          rw [if_pos (.inl rfl)] at hs
          have HN := Lib.hid hs
          obtain ⟨A2, c2, rfl, _⟩ := ho.eta
          have hl0 : (bsN f 0).length = 0 := rfl
          rw [hl0]
          have OW := Lib.hid (own_one wr ((0 : Nat) : Int) w.heap.size szr)
          have GB := Lib.hid (HL.out.trans ((Gr.alloc (Gr.refl wr) (.cells #[.int .i64 ((0 : Nat) : Int)] 3)).below.mono szr))
          clear ho hbl hs
          go_wp2
          go_roundw
          case rel => exact ⟨1, by omega, by go_num, by rw [HN.out]; exact OW.out, GB.out⟩
          case measure => simp [intOf]; omega
        · obtain ⟨hpos, j, hj, ej, em⟩ := bsN_head f k kpos
          have e2 := cell_k2 hbl (HC.out j (by omega))
          rw [em] at e2
          obtain ⟨g2, c2, rfl, _, _, ho2⟩ := ho.row hpos
          have e3 := (ho2.at rfl 0 hpos).1
          rw [ej] at e3
          have y0 : (0 : Int) ≤ (j : Int) := by omega
          have y1 : (j : Int) < (n : Int) := by omega
          have y2 : (0 : Int) < ((bsN f k).length : Int) := by omega
          have y3 : ¬ (bsN f k).length = 0 := by omega
          have y4 : (((bsN f k).length : Int) == 0) = false := by rw [beq_eq_false_iff_ne]; omega
          have HBL := Lib.hid (bsN_len f k)
          have k0 : ¬ k = 0 := by omega
          have HEQ := Lib.hid hs
          clear ho hbl ej em ho2 hs
          generalize mnN f k = M at *
          generalize f k = y at *
          by_cases c1 : y < M
          · have HN := Lib.hid (HEQ.out.trans (if_pos (.inr c1)))
            have OW := Lib.hid (own_one wr (k : Int) w.heap.size szr)
            have GB := Lib.hid (HL.out.trans ((Gr.alloc (Gr.refl wr) (.cells #[.int .i64 (k : Int)] 3)).below.mono szr))
            go_wp2
            go_roundw
            case rel => exact ⟨k + 1, by omega, by go_num, by rw [HN.out]; exact OW.out, GB.out⟩
            case measure => simp [intOf]; omega
          · by_cases c2' : y = M
            · have HN := Lib.hid (HEQ.out.trans ((if_neg (fun q => q.elim k0 c1)).trans (if_pos c2')))
              have d1 : ((y : Int) == M) = true := by simp [c2']
              clear HEQ
              go_wp2_with (first | (at_builtin; refine wpList_app1I rfl _ _ 22 rfl Try.underlying22 Try.infoI2 w.heap.size _ _ rfl HO.out (k : Int) rfl (by have := HBL.out; omega) szr ?_; intro v' w3 ho3 hb3 _ _))
              have OW := Lib.hid ho3
              have GB := Lib.hid (HL.out.trans hb3)
              clear ho3 hb3
              go_wp2
              go_roundw
              case rel => exact ⟨k + 1, by omega, by go_num, by rw [HN.out]; exact OW.out, GB.out⟩
              case measure => simp [intOf]; omega
            · have HN := Lib.hid (HEQ.out.trans ((if_neg (fun q => q.elim k0 c1)).trans (if_neg c2')))
              have d1 : ((y : Int) == M) = false := by simp [c2']
              clear HEQ
              go_wp2
              go_roundw
              case rel => exact ⟨k + 1, by omega, by go_num, by rw [HN.out]; exact HO.out, HL.out⟩
              case measure => simp [intOf]; omega
      · obtain rfl : k = n := by omega
        clear ho hbl
        go_wp2
        go_ret
        exact ⟨_, rfl, HO.out, HL.out⟩
end Go.Proofs
