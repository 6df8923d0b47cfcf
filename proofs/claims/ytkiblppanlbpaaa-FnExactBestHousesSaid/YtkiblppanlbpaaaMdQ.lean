/-
  Contracts of chapter 5: how many boxes are enough for a longest walk (both sides), fewest boxes, as many boxes as asked for.
-/
import Derived.Test.YtkiblppanlbpaaaMdP
namespace Go.Proofs
open Go.RowKit
set_option linter.unusedVariables false
set_option linter.unusedSimpArgs false
/-- boxes needed by the first houses, and how far the last one reaches -/
def ndS (xs : List Int) (far : Int) : Nat → Int × Int
  | 0 => (0, -1)
  | i + 1 => if 0 < gx xs i ∧ (ndS xs far i).2 < (i : Int) then ((ndS xs far i).1 + 1, (i : Int) + 2 * far) else ndS xs far i
def ndI (xs : List Int) (far : Int) : Int := (ndS xs far xs.length).1
theorem ndS_bd (xs : List Int) (far : Int) (h0 : 0 ≤ far) (i : Nat) : 0 ≤ (ndS xs far i).1 ∧ (ndS xs far i).1 ≤ i ∧ -1 ≤ (ndS xs far i).2 ∧ (ndS xs far i).2 ≤ (i : Int) - 1 + 2 * far := by
  induction i with
  | zero => simp [ndS]; omega
  | succ i ih => unfold ndS; split <;> (try simp only) <;> omega
theorem ndS_stay (xs : List Int) (far : Int) (i m : Nat) (h : ∀ t : Nat, i ≤ t → t < i + m → (t : Int) ≤ (ndS xs far i).2) : ndS xs far (i + m) = ndS xs far i := by
  induction m with
  | zero => rfl
  | succ m ih =>
    have e := ih (fun t h1 h2 => h t h1 (by omega))
    rw [← Nat.add_assoc, ndS, e, if_neg]
    intro c
    have := h (i + m) (by omega) (by omega)
    omega
theorem ndS_mono (xs : List Int) (a b : Int) (h0 : 0 ≤ a) (h : a ≤ b) (i : Nat) : (ndS xs b i).1 < (ndS xs a i).1 ∨ ((ndS xs b i).1 = (ndS xs a i).1 ∧ (ndS xs a i).2 ≤ (ndS xs b i).2) := by
  induction i with
  | zero => right; simp [ndS]
  | succ i ih =>
    have c := ndS_bd xs a h0 i
    have d := ndS_bd xs b (by omega) i
    unfold ndS
    by_cases p : 0 < gx xs i
    · by_cases q : (ndS xs a i).2 < (i : Int) <;> by_cases r : (ndS xs b i).2 < (i : Int) <;> simp only [p, q, r, and_self, and_true, true_and, if_true, and_false, if_false] <;> omega
    · simp only [p, false_and, if_false]; exact ih
theorem ndI_mono (xs : List Int) (a b : Int) (h0 : 0 ≤ a) (h : a ≤ b) : ndI xs b ≤ ndI xs a := by
  have := ndS_mono xs a b h0 h xs.length
  unfold ndI
  omega
/-- thirty steps are enough for one box -/
theorem ndI_one (xs : List Int) (hl : xs.length ≤ 60) : ndI xs 30 ≤ 1 := by
  have key : ∀ i : Nat, i ≤ 60 → (ndS xs 30 i).1 ≤ 0 ∨ ((ndS xs 30 i).1 = 1 ∧ 60 ≤ (ndS xs 30 i).2) := by
    intro i
    induction i with
    | zero => intro _; left; simp [ndS]
    | succ i ih =>
      intro hi
      unfold ndS
      split
      · rename_i c
        rcases ih (by omega) with q | q
        · have := ndS_bd xs 30 (by omega) i
          right; simp only; omega
        · omega
      · exact ih (by omega)
  have := key xs.length hl
  unfold ndI
  omega
theorem ndI_pos {xs : List Int} (hg : GoodP xs) (far : Int) (h0 : 0 ≤ far) : 1 ≤ ndI xs far := by
  obtain ⟨j, hj, pj⟩ := (sumF_pos (f := gx xs) (fun i _ => (hg.bd i).1)).1 hg.2.2
  have key : ∀ i : Nat, (∃ j, j < i ∧ 0 < gx xs j) → 1 ≤ (ndS xs far i).1 := by
    intro i
    induction i with
    | zero => rintro ⟨j, hj, _⟩; omega
    | succ i ih =>
      rintro ⟨j, hj, pj⟩
      have b := ndS_bd xs far h0 i
      unfold ndS
      by_cases c : ∃ j, j < i ∧ 0 < gx xs j
      · have := ih c
        split <;> (try simp only) <;> omega
      · have e : j = i := by
          rcases Nat.lt_or_eq_of_le (Nat.le_of_lt_succ hj) with q | q
          · exact absurd ⟨j, q, pj⟩ c
          · exact q
        subst e
        have z : ∀ t : Nat, (∀ u, u < t → ¬ 0 < gx xs u) → ndS xs far t = (0, -1) := by
          intro t
          induction t with
          | zero => intro _; rfl
          | succ t ih2 => intro hu; rw [ndS, ih2 (fun u h => hu u (by omega)), if_neg (fun q => hu t (by omega) q.1)]
        rw [z j (fun u hu pu => c ⟨u, hu, pu⟩), if_pos ⟨pj, by simp only; omega⟩]
        simp
  exact key xs.length ⟨j, hj, pj⟩
def NdRel (xs : List Int) (far : Int) (w : World) (n r i : Value) (wr : World) : Prop := Gr w wr ∧ ∃ k : Nat, k ≤ xs.length ∧ i = .int .i64 k ∧ n = .int .i64 (ndS xs far k).1 ∧ r = .int .i64 (ndS xs far k).2
set_option maxRecDepth 100000 in
set_option maxHeartbeats 1600000 in
theorem Try.mdNeed (w : World) (B : Nat) (v : Value) (xs : List Int) (far : Int) (hl : xs.length ≤ 60) (h0 : 0 ≤ far) (h1 : far ≤ 60) (h : OwnI w B v xs) :
    Calls Try.prog 70 #[v, .int .i64 far] w fun e w' => e = .returned (.int .i64 (ndI xs far)) ∧ Gr w w' := by
  rcases h.view with ⟨rfl, A, c, rfl⟩ | ⟨hpos, g, c, rfl, _, _, _, hc, _⟩
  · clear h
    go_enter Try.func70, Try.ntmps70
    go_wp2
    refine wp_loop_rounds 1 ?_
    rw [rounds_succ]
    go_wp2
    go_ret
    exact ⟨rfl, by repeat (first | exact Gr.refl _ | refine Gr.alloc ?_ _ | refine Gr.trans ?_ (by assumption) | refine Gr.drew ?_ | refine Gr.drewN ?_ _ | refine Gr.grow ?_ _ | refine Gr.setCell ?_ (by (try simp); (try omega)) _)⟩
  · have HC := Lib.hid hc
    have HE := Lib.hid (show ndI xs far = (ndS xs far xs.length).1 from rfl)
    obtain ⟨R, hR⟩ : ∃ R, ndI xs far = R := ⟨_, rfl⟩
    rw [hR] at HE ⊢
    clear h hc hR
    go_enter Try.func70, Try.ntmps70
    go_wp2
    go_loopw [5, 6, 11] (fun n r i wr => NdRel xs far w n r i wr) (fun _ _ i _ => (xs.length - intOf i).toNat)
    case atStart => exact ⟨Gr.refl _, 0, Nat.zero_le _, rfl, rfl, rfl⟩
    case round =>
      obtain ⟨gr, k, hk, rfl, rfl, rfl⟩ := hrel
      have HG := Lib.hid gr
      by_cases hlt : k < xs.length
      · have e1 := gr.keep2 (HC.out k hlt)
        have z0 : (0 : Int) ≤ (k : Int) := by omega
        have z1 : (k : Int) < (xs.length : Int) := by omega
        have bd := ndS_bd xs far h0 k
        have hs : ndS xs far (k + 1) = if 0 < gx xs k ∧ (ndS xs far k).2 < (k : Int) then ((ndS xs far k).1 + 1, (k : Int) + 2 * far) else ndS xs far k := rfl
        rw [show xs.getD k 0 = gx xs k from rfl] at e1
        generalize ndS xs far k = s at *
        obtain ⟨a, b⟩ := s
        simp only at bd hs ⊢
        generalize gx xs k = y at *
        have wm : IntKind.i64.wrap (2 * far) = 2 * far := IntWalk.i64_in _ (by omega)
        have wa : IntKind.i64.wrap ((k : Int) + 2 * far) = (k : Int) + 2 * far := IntWalk.i64_in _ (by omega)
        have wn : IntKind.i64.wrap (a + 1) = a + 1 := IntWalk.i64_in _ (by omega)
        clear gr
        by_cases hp : 0 < y
        · by_cases hq : b < (k : Int)
          · rw [if_pos ⟨hp, hq⟩] at hs
            have HN := Lib.hid hs
            clear hs
            go_wp2
            go_roundw
            case rel => exact ⟨HG.out, k + 1, by omega, by go_num, by rw [HN.out], by rw [HN.out]⟩
            case measure => simp [intOf]; omega
          · rw [if_neg (fun c => hq c.2)] at hs
            have HN := Lib.hid hs
            clear hs
            go_wp2
            go_roundw
            case rel => exact ⟨HG.out, k + 1, by omega, by go_num, by rw [HN.out], by rw [HN.out]⟩
            case measure => simp [intOf]; omega
        · rw [if_neg (fun c => hp c.1)] at hs
          have HN := Lib.hid hs
          clear hs
          go_wp2
          go_roundw
          case rel => exact ⟨HG.out, k + 1, by omega, by go_num, by rw [HN.out], by rw [HN.out]⟩
          case measure => simp [intOf]; omega
      · obtain rfl : k = xs.length := by omega
        rw [← HE.out]
        clear gr
        go_wp2
        go_ret
        exact ⟨rfl, HG.out⟩
/-- at a house that is not reached yet -/
def BwRel (xs : List Int) (far : Int) (w : World) (n i : Value) (wr : World) : Prop := Gr w wr ∧ ∃ k : Nat, k ≤ xs.length + 200 ∧ i = .int .i64 k ∧ n = .int .i64 (ndS xs far (min k xs.length)).1 ∧ (ndS xs far (min k xs.length)).2 < (k : Int)
set_option maxRecDepth 100000 in
set_option maxHeartbeats 1600000 in
theorem Try.boxesWithin (w : World) (v : Value) (xs : List Int) (far : Nat) (hl : xs.length ≤ 60) (h1 : far ≤ 60) (h : PplRow w v xs) :
    Calls Try.prog 73 #[v, .int .i64 (far : Int)] w fun e w' => e = .returned (.int .i64 (ndI xs (far : Int))) ∧ Gr w w' := by
  obtain ⟨g, c, rfl, hpos, _, _, hc⟩ := h
  have HC := Lib.hid hc
  have HE := Lib.hid (show ndI xs (far : Int) = (ndS xs (far : Int) xs.length).1 from rfl)
  obtain ⟨R, hR⟩ : ∃ R, ndI xs (far : Int) = R := ⟨_, rfl⟩
  rw [hR] at HE ⊢
  clear hc hR
  go_enter Try.func73, Try.ntmps73
  go_wp2
  go_loopw [5, 6] (fun n i wr => BwRel xs (far : Int) w n i wr) (fun _ i _ => (xs.length - intOf i).toNat)
  case atStart => exact ⟨Gr.refl _, 0, by omega, rfl, by simp [ndS], by simp [ndS]⟩
  case round =>
    obtain ⟨gr, k, hk, rfl, rfl, hr⟩ := hrel
    have HG := Lib.hid gr
    by_cases hlt : k < xs.length
    · have e1 := gr.keep2 (HC.out k hlt)
      have z0 : (0 : Int) ≤ (k : Int) := by omega
      have z1 : (k : Int) < (xs.length : Int) := by omega
      have em : min k xs.length = k := by omega
      rw [em] at hr ⊢
      have bd := ndS_bd xs (far : Int) (by omega) k
      have hs : ndS xs (far : Int) (k + 1) = if 0 < gx xs k ∧ (ndS xs (far : Int) k).2 < (k : Int) then ((ndS xs (far : Int) k).1 + 1, (k : Int) + 2 * (far : Int)) else ndS xs (far : Int) k := rfl
      by_cases hp : 0 < gx xs k
      · rw [if_pos ⟨hp, hr⟩] at hs
        have stay := ndS_stay xs (far : Int) (k + 1) (min (k + 1 + 2 * far) xs.length - (k + 1)) (fun t h1 h2 => by rw [hs]; simp only; omega)
        rw [show k + 1 + (min (k + 1 + 2 * far) xs.length - (k + 1)) = min (k + 1 + 2 * far) xs.length by omega, hs] at stay
        have HS := Lib.hid stay
        have wm : IntKind.i64.wrap (2 * (far : Int)) = 2 * (far : Int) := IntWalk.i64_in _ (by omega)
        have wa : IntKind.i64.wrap ((k : Int) + 2 * (far : Int)) = (k : Int) + 2 * (far : Int) := IntWalk.i64_in _ (by omega)
        have wb : IntKind.i64.wrap ((k : Int) + 2 * (far : Int) + 1) = (k : Int) + 2 * (far : Int) + 1 := IntWalk.i64_in _ (by omega)
        clear gr stay hs hr em
        generalize (ndS xs (far : Int) k).1 = a at *
        generalize gx xs k = y at *
        have wn : IntKind.i64.wrap (a + 1) = a + 1 := IntWalk.i64_in _ (by omega)
        go_wp2
        go_roundw
        case rel => exact ⟨HG.out, k + 1 + 2 * far, by omega, by first | go_num | (congr 1; omega) | (simp; omega), by rw [HS.out], by rw [HS.out]; simp only; omega⟩
        case measure => simp [intOf]; omega
      · rw [if_neg (fun c => hp c.1)] at hs
        have HS := Lib.hid hs
        have HR := Lib.hid hr
        clear gr hs hr em
        generalize gx xs k = y at *
        go_wp2
        go_roundw
        case rel => exact ⟨HG.out, k + 1, by omega, by go_num, by rw [show min (k + 1) xs.length = k + 1 by omega, HS.out], by rw [show min (k + 1) xs.length = k + 1 by omega, HS.out]; have := HR.out; omega⟩
        case measure => simp [intOf]; omega
    · have em : min k xs.length = xs.length := by omega
      have z1 : ¬ (k : Int) < (xs.length : Int) := by omega
      rw [em, ← HE.out]
      clear gr hr
      go_wp2
      go_ret
      exact ⟨rfl, HG.out⟩
end Go.Proofs
