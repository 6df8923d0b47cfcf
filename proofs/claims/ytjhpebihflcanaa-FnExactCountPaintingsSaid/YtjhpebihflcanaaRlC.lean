/-
  Chapter 7, plain mathematics: colours (rwPaint's table, the first list). No seat.
-/
import Derived.Test.YtjhpebihflcanaaRlL
namespace Go.Proofs.Rl
set_option linter.unusedVariables false
set_option linter.unusedSimpArgs false
def paF (a b : Int) : Bool := a != b
def paRow : List Int → Int → List Op
  | [], _ => []
  | c :: cs, i => ⟨i, c, [i]⟩ :: paRow cs (i + 1)
def paO (costs : List (List Int)) : List (List Op) := costs.map fun r => paRow r 0
def cols (k : Nat) : List Int := (List.range k).map fun (n : Nat) => (n : Int)
theorem mem_cols {k : Nat} {d : Int} : d ∈ cols k ↔ 0 ≤ d ∧ d < k := by
  unfold cols
  rw [List.mem_map]
  constructor
  · rintro ⟨n, hn, rfl⟩
    have := List.mem_range.1 hn; omega
  · intro ⟨h1, h2⟩
    exact ⟨d.toNat, List.mem_range.2 (by omega), by omega⟩
theorem cols_lt (k : Nat) : (cols k).Pairwise (· < ·) := by
  unfold cols
  rw [List.pairwise_map]
  exact (List.pairwise_lt_range (n := k)).imp (fun {a b} (h : a < b) => Int.ofNat_lt.2 h)
theorem cols_nodup (k : Nat) : (cols k).Nodup := (cols_lt k).imp (fun {a b} (h : a < b) => Int.ne_of_lt h)
theorem paRow_mem : ∀ (r : List Int) (i : Int), ∀ o ∈ paRow r i, i ≤ o.st ∧ o.st < i + r.length ∧ o.tells = [o.st] ∧ o.cost = r.getD (o.st - i).toNat 0
  | [], _, o, h => by simp [paRow] at h
  | c :: r, i, o, h => by
    unfold paRow at h
    rcases List.mem_cons.1 h with rfl | h
    · simp; omega
    · obtain ⟨h1, h2, h3, h4⟩ := paRow_mem r (i + 1) o h
      refine ⟨by omega, by simp only [List.length_cons]; omega, h3, ?_⟩
      have e : (o.st - i).toNat = (o.st - (i + 1)).toNat + 1 := by omega
      rw [e, List.getD_cons_succ]; exact h4
theorem paRow_dif : ∀ (r : List Int) (i : Int), Dif (paRow r i)
  | [], _ => List.Pairwise.nil
  | c :: r, i => by
    unfold paRow Dif
    rw [List.pairwise_cons]
    refine ⟨?_, paRow_dif r (i + 1)⟩
    intro o ho
    have := (paRow_mem r (i + 1) o ho).1
    simp only; omega
theorem paRow_at : ∀ (r : List Int) (i : Int) (c : Nat), c < r.length → (⟨i + c, r.getD c 0, [i + c]⟩ : Op) ∈ paRow r i
  | [], _, c, h => by simp at h
  | x :: r, i, 0, h => by simp [paRow]
  | x :: r, i, c + 1, h => by
    unfold paRow
    have := paRow_at r (i + 1) c (by simp only [List.length_cons] at h; omega)
    rw [List.getD_cons_succ]
    refine List.mem_cons_of_mem _ ?_
    rw [show i + ((c + 1 : Nat) : Int) = i + 1 + (c : Int) by omega]; exact this
/-- costs of k colours -/
def Cok (k : Nat) (costs : List (List Int)) : Prop := ∀ r ∈ costs, r.length = k
theorem pa_f (k : Nat) : ∀ (costs : List (List Int)), Cok k costs → ∀ w ∈ ways paF (paO costs), w.f ∈ cols k
  | [], _, w, h => by simp [paO, ways] at h
  | [r], hk, w, h => by
    simp only [paO, List.map_cons, List.map_nil, ways, List.mem_map] at h
    obtain ⟨o, ho, rfl⟩ := h
    obtain ⟨h1, h2, _⟩ := paRow_mem r 0 o ho
    have := hk r (List.mem_cons_self ..)
    exact mem_cols.2 ⟨h1, by simp only [Op.wy]; omega⟩
  | r :: s :: costs, hk, w, h => by
    have hr : ways paF (paO (r :: s :: costs)) = lead paF (paRow r 0) (ways paF (paO (s :: costs))) := rfl
    rw [hr] at h
    unfold lead at h
    obtain ⟨o, ho, h⟩ := List.mem_flatMap.1 h
    obtain ⟨x, hx, rfl⟩ := List.mem_map.1 h
    obtain ⟨h1, h2, _⟩ := paRow_mem r 0 o ho
    have := hk r (List.mem_cons_self ..)
    exact mem_cols.2 ⟨h1, by simp only [Op.on]; omega⟩
theorem PB_end (Q : Int → Bool) (r : List Int) (c : Nat) (hc : c < r.length) : PB paF (paO [r]) Q c = if Q c then some ⟨r.getD c 0, 1, [(c : Int)]⟩ else none := by
  have h := PB_last paF (paRow r 0) Q (paRow_dif r 0) _ (paRow_at r 0 c hc)
  simp only [Int.zero_add] at h
  exact h
theorem PB_row (Q : Int → Bool) (k : Nat) (r s : List Int) (costs : List (List Int)) (hk : Cok k (r :: s :: costs)) (c : Nat) (hc : c < k) :
    PB paF (paO (r :: s :: costs)) Q c = ((cols k).map fun d => if (c : Int) ≠ d then (PB paF (paO (s :: costs)) Q d).map (behE (r.getD c 0) [(c : Int)]) else none).foldr orL none := by
  have hr := hk r (List.mem_cons_self ..)
  have h := PB_cons paF (paRow r 0) (paO (s :: costs)) (by simp [paO]) Q (paRow_dif r 0) _ (paRow_at r 0 c (by omega)) (cols k) (cols_nodup k) (pa_f k _ (fun x hx => hk x (List.mem_cons_of_mem _ hx)))
  simp only [Int.zero_add] at h
  have e : paO (r :: s :: costs) = paRow r 0 :: paO (s :: costs) := rfl
  rw [e, h]
  congr 1
  refine List.map_congr_left ?_
  intro d hd
  by_cases hcd : (c : Int) = d
  · subst hcd; simp [paF]
  · rw [if_pos (by simp [paF, hcd]), if_pos hcd]
/-- a list of the table begins with its colour -/
theorem PB_head (Q : Int → Bool) (k : Nat) : ∀ (costs : List (List Int)), costs ≠ [] → Cok k costs → ∀ (c : Nat), c < k → ∀ m, PB paF (paO costs) Q c = some m → ∃ t, m.first = (c : Int) :: t
  | [], h, _, _, _, _, _ => absurd rfl h
  | [r], _, hk, c, hc, m, h => by
    rw [PB_end Q r c (by rw [hk r (List.mem_cons_self ..)]; exact hc)] at h
    split at h
    · injection h with h; subst h; exact ⟨[], rfl⟩
    · cases h
  | r :: s :: costs, _, hk, c, hc, m, h => by
    obtain ⟨_, _, h3, _⟩ := agg_is h
    obtain ⟨w, hw, e⟩ := List.mem_map.1 h3
    obtain ⟨hw1, hw2⟩ := List.mem_filter.1 hw
    have hr : ways paF (paO (r :: s :: costs)) = lead paF (paRow r 0) (ways paF (paO (s :: costs))) := rfl
    rw [hr] at hw1
    unfold lead at hw1
    obtain ⟨o, ho, hx⟩ := List.mem_flatMap.1 hw1
    obtain ⟨x, hx, rfl⟩ := List.mem_map.1 hx
    obtain ⟨_, _, q, _⟩ := paRow_mem r 0 o ho
    simp only [Op.on, Bool.and_eq_true, beq_iff_eq] at hw2
    unfold Wy.v Op.on at e
    injection e with e1 e2
    simp only at e2
    rw [q, hw2.1] at e2
    exact ⟨_, e2.symm⟩
end Go.Proofs.Rl
