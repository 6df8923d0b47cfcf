/-
  Chapter 6: what ways are (plain words), and whether two texts are ways (the model).
-/
import Derived.Test.YtfdiiichjopncaaDoorInn
import Derived.LoopTactic
namespace Go.Proofs
open Go.RowKit
set_option linter.unusedVariables false
set_option linter.unusedSimpArgs false
def isIn (p q c : UInt8) : Bool := c == p || c == q
/-- a text of two to eight of two signs -/
def okT (p q : UInt8) (s : ByteArray) : Bool := decide (2 ≤ s.size ∧ s.size ≤ 8) && s.data.toList.all (isIn p q)
def okW (s a : ByteArray) : Bool := okT 101 119 s && okT 110 115 a
theorem okT_len {p q : UInt8} {s : ByteArray} (h : okT p q s = true) : 2 ≤ s.size ∧ s.size ≤ 8 := by
  unfold okT at h
  simp only [Bool.and_eq_true, decide_eq_true_eq] at h
  exact h.1
theorem okT_at {p q : UInt8} {s : ByteArray} (h : okT p q s = true) (i : Nat) (hi : i < s.size) : s[i] = p ∨ s[i] = q := by
  unfold okT at h
  simp only [Bool.and_eq_true, decide_eq_true_eq, List.all_eq_true] at h
  have := h.2 s[i] (by
    have : s[i] = s.data.toList[i]'(by simpa using hi) := rfl
    rw [this]; exact List.getElem_mem _)
  unfold isIn at this
  simpa using this
theorem okT_short {p q : UInt8} {s : ByteArray} (h : s.size < 2 ∨ 8 < s.size) : okT p q s = false := by
  unfold okT
  rw [decide_eq_false (by omega)]; rfl
theorem okT_bad {p q : UInt8} {s : ByteArray} (i : Nat) (hi : i < s.size) (h1 : ¬ s[i] = p) (h2 : ¬ s[i] = q) : okT p q s = false := by
  cases h : okT p q s
  · rfl
  · rcases okT_at h i hi with e | e
    · exact absurd e h1
    · exact absurd e h2
theorem okT_all {p q : UInt8} {s : ByteArray} (h2 : 2 ≤ s.size) (h8 : s.size ≤ 8) (h : ∀ i, ∀ hi : i < s.size, s[i] = p ∨ s[i] = q) : okT p q s = true := by
  unfold okT
  rw [decide_eq_true ⟨h2, h8⟩]
  simp only [Bool.true_and, List.all_eq_true]
  intro x hx
  obtain ⟨i, hi, rfl⟩ := List.getElem_of_mem hx
  have := h i (by simpa using hi)
  unfold isIn
  rcases this with e | e
  · have : s.data.toList[i] = p := e
    rw [this]; simp
  · have : s.data.toList[i] = q := e
    rw [this]; simp
theorem u8_eq (x p : UInt8) : ((x.toNat : Int) == (p.toNat : Int)) = decide (x = p) := by
  by_cases h : x = p
  · subst h; simp
  · rw [decide_eq_false h]
    have : x.toNat ≠ p.toNat := fun e => h (UInt8.toNat_inj.1 e)
    simp; omega
theorem u8_ne (x p : UInt8) : ((x.toNat : Int) != (p.toNat : Int)) = !decide (x = p) := by rw [← u8_eq]; rfl
set_option maxHeartbeats 800000 in
theorem Tryd.owText (w : World) (s : ByteArray) (p q : UInt8) (P Q : Int) (hp : (p.toNat : Int) = P) (hq : (q.toNat : Int) = Q) (hs : s.size ≤ maxLen) (b : Bool) (hb : okT p q s = b) :
    Calls Tryd.prog 20 #[.string s, .int .u8 P, .int .u8 Q] w fun e w' => e = .returned (.bool b) ∧ w = w' := by
  subst hp hq hb
  unfold maxLen at hs
  by_cases hin : 2 ≤ s.size ∧ s.size ≤ 8
  · obtain ⟨a1, a2⟩ := hin
    have HN := Lib.hid (Tryd.l1In (s.size : Int) 2 8 true (inn_t (by omega) (by omega)))
    have HA := Lib.hid (@okT_all p q s a1 a2)
    have HB := Lib.hid (@okT_bad p q s)
    go_enter Tryd.func20, Tryd.ntmps20
    go_wp2_with (first | (go_at_call 21; refine (HN.out _).mono ?_; rintro e w1 ⟨rfl, rfl⟩))
    go_loopw [7] (fun i wr => ∃ k : Nat, k ≤ s.size ∧ i = .int .i64 k ∧ wr = w ∧ ∀ j, ∀ hj : j < s.size, j < k → s[j] = p ∨ s[j] = q) (fun i _ => s.size - (intOf i).toNat)
    case atStart => exact ⟨0, Nat.zero_le _, rfl, rfl, fun j _ hj => absurd hj (Nat.not_lt_zero _)⟩
    case round =>
      obtain ⟨k, hk, rfl, rfl, hall⟩ := hrel
      have HL := Lib.hid hall
      clear hall
      by_cases hlt : k < s.size
      · have z0 : (0 : Int) ≤ (k : Int) := by omega
        have z1 : (k : Int) < (s.size : Int) := by omega
        have e1 := u8_ne s[k] p
        have e2 := u8_ne s[k] q
        by_cases c1 : s[k] = p
        · rw [decide_eq_true c1, Bool.not_true] at e1
          have HC := Lib.hid (show s[k] = p ∨ s[k] = q from .inl c1)
          clear c1 e2
          go_wp2
          go_roundw
          case rel =>
            refine ⟨k + 1, by omega, by go_num, trivial, fun j hj hjk => ?_⟩
            by_cases e : j = k
            · subst e; exact HC.out
            · exact HL.out j hj (by omega)
          case measure => simp [intOf] <;> omega
        · rw [decide_eq_false c1, Bool.not_false] at e1
          by_cases c2 : s[k] = q
          · rw [decide_eq_true c2, Bool.not_true] at e2
            have HC := Lib.hid (show s[k] = p ∨ s[k] = q from .inr c2)
            clear c1 c2
            go_wp2
            go_roundw
            case rel =>
              refine ⟨k + 1, by omega, by go_num, trivial, fun j hj hjk => ?_⟩
              by_cases e : j = k
              · subst e; exact HC.out
              · exact HL.out j hj (by omega)
            case measure => simp [intOf] <;> omega
          · rw [decide_eq_false c2, Bool.not_false] at e2
            have HF := Lib.hid (HB.out k hlt c1 c2)
            clear c1 c2
            go_wp2
            go_ret
            exact ⟨congrArg (fun z => Ending.returned (Value.bool z)) HF.out.symm, rfl⟩
      · obtain rfl : k = s.size := by omega
        have HF := Lib.hid (HA.out (fun i hi => HL.out i hi hi))
        go_wp2
        go_ret
        exact ⟨congrArg (fun z => Ending.returned (Value.bool z)) HF.out.symm, rfl⟩
  · rw [okT_short (by omega)]
    have HN := Lib.hid (Tryd.l1In (s.size : Int) 2 8 false (inn_f (by omega)))
    clear hin
    go_enter Tryd.func20, Tryd.ntmps20
    go_wp2_with (first | (go_at_call 21; refine (HN.out _).mono ?_; rintro e w1 ⟨rfl, rfl⟩))
    go_ret
    exact ⟨rfl, rfl⟩
end Go.Proofs
