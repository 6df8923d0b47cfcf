/-
  Chapter 7: whether a text is a row of lamps, both sides (IsLitRow).
-/
import Derived.Test.YtaimpeajeppaiaaDoorOwB
namespace Go.Proofs
open Go.RowKit Go.Shelf
set_option linter.unusedVariables false
set_option linter.unusedSimpArgs false
/-- a text of one to twenty of two signs -/
def okR (s : ByteArray) : Bool := decide (1 ≤ s.size ∧ s.size ≤ 20) && s.data.toList.all (isIn 35 46)
theorem okR_len {s : ByteArray} (h : okR s = true) : 1 ≤ s.size ∧ s.size ≤ 20 := by
  unfold okR at h
  simp only [Bool.and_eq_true, decide_eq_true_eq] at h
  exact h.1
theorem okR_at {s : ByteArray} (h : okR s = true) (i : Nat) (hi : i < s.size) : s[i] = 35 ∨ s[i] = 46 := by
  unfold okR at h
  simp only [Bool.and_eq_true, decide_eq_true_eq, List.all_eq_true] at h
  have := h.2 s[i] (by
    have : s[i] = s.data.toList[i]'(by simpa using hi) := rfl
    rw [this]; exact List.getElem_mem _)
  unfold isIn at this
  simpa using this
theorem okR_short {s : ByteArray} (h : s.size < 1 ∨ 20 < s.size) : okR s = false := by
  unfold okR
  rw [decide_eq_false (by omega)]; rfl
theorem okR_bad {s : ByteArray} (i : Nat) (hi : i < s.size) (h1 : ¬ s[i] = 35) (h2 : ¬ s[i] = 46) : okR s = false := by
  cases h : okR s
  · rfl
  · rcases okR_at h i hi with e | e
    · exact absurd e h1
    · exact absurd e h2
theorem okR_all {s : ByteArray} (h2 : 1 ≤ s.size) (h8 : s.size ≤ 20) (h : ∀ i, ∀ hi : i < s.size, s[i] = 35 ∨ s[i] = 46) : okR s = true := by
  unfold okR
  rw [decide_eq_true ⟨h2, h8⟩]
  simp only [Bool.true_and, List.all_eq_true]
  intro x hx
  obtain ⟨i, hi, rfl⟩ := List.getElem_of_mem hx
  have := h i (by simpa using hi)
  unfold isIn
  rcases this with e | e
  · have : s.data.toList[i] = 35 := e
    rw [this]; simp
  · have : s.data.toList[i] = 46 := e
    rw [this]; simp
set_option maxHeartbeats 400000 in
theorem Tryd.rwHousesD (n : Int) (v : Bool) (h : inn n 1 20 = v) (w : World) : Calls Tryd.prog 35 #[.int .i64 n] w fun e w' => e = .returned (.bool v) ∧ w = w' := by
  go_enter Tryd.func35, Tryd.ntmps35
  go_wp2_with (first | (go_at_call 38; refine (Tryd.l1In _ _ _ _ h _).mono ?_; rintro e w1 ⟨rfl, rfl⟩))
  go_ret
  exact ⟨rfl, rfl⟩
set_option maxHeartbeats 800000 in
theorem Tryd.rwRow (w : World) (s : ByteArray) (hs : s.size ≤ maxLen) (b : Bool) (hb : okR s = b) :
    Calls Tryd.prog 28 #[.string s] w fun e w' => e = .returned (.bool b) ∧ w = w' := by
  subst hb
  unfold maxLen at hs
  by_cases hin : 1 ≤ s.size ∧ s.size ≤ 20
  · obtain ⟨a1, a2⟩ := hin
    have HN := Lib.hid (Tryd.rwHousesD (s.size : Int) true (inn_t (by omega) (by omega)))
    have HA := Lib.hid (@okR_all s a1 a2)
    have HB := Lib.hid (@okR_bad s)
    go_enter Tryd.func28, Tryd.ntmps28
    go_wp2_with (first | (go_at_call 35; refine (HN.out _).mono ?_; rintro e w1 ⟨rfl, rfl⟩))
    go_loopw [3] (fun i wr => ∃ k : Nat, k ≤ s.size ∧ i = .int .i64 k ∧ wr = w ∧ ∀ j, ∀ hj : j < s.size, j < k → s[j] = 35 ∨ s[j] = 46) (fun i _ => s.size - (intOf i).toNat)
    case atStart => exact ⟨0, Nat.zero_le _, rfl, rfl, fun j _ hj => absurd hj (Nat.not_lt_zero _)⟩
    case round =>
      obtain ⟨k, hk, rfl, rfl, hall⟩ := hrel
      have HL := Lib.hid hall
      clear hall
      by_cases hlt : k < s.size
      · have z0 : (0 : Int) ≤ (k : Int) := by omega
        have z1 : (k : Int) < (s.size : Int) := by omega
        have e1 : (((s[k]).toNat : Int) != 35) = !decide (s[k] = 35) := u8_ne s[k] 35
        have e2 : (((s[k]).toNat : Int) != 46) = !decide (s[k] = 46) := u8_ne s[k] 46
        by_cases c1 : s[k] = 35
        · rw [decide_eq_true c1, Bool.not_true] at e1
          have HC := Lib.hid (show s[k] = 35 ∨ s[k] = 46 from .inl c1)
          clear c1 e2
          go_wp2
          go_roundw
          case rel =>
            refine ⟨k + 1, by omega, by go_num, trivial, fun j hj hjk => ?_⟩
            by_cases e : j = k
            · subst e; exact HC.out
            · exact HL.out j hj (by omega)
          case measure => simp [intOf] <;> omega
        · rw [decide_eq_false c1, Bool.not_false] at e1
          by_cases c2 : s[k] = 46
          · rw [decide_eq_true c2, Bool.not_true] at e2
            have HC := Lib.hid (show s[k] = 35 ∨ s[k] = 46 from .inr c2)
            clear c1 c2
            go_wp2
            go_roundw
            case rel =>
              refine ⟨k + 1, by omega, by go_num, trivial, fun j hj hjk => ?_⟩
              by_cases e : j = k
              · subst e; exact HC.out
              · exact HL.out j hj (by omega)
            case measure => simp [intOf] <;> omega
          · rw [decide_eq_false c2, Bool.not_false] at e2
            have HF := Lib.hid (HB.out k hlt c1 c2)
            clear c1 c2
            go_wp2
            go_ret
            exact ⟨congrArg (fun z => Ending.returned (Value.bool z)) HF.out.symm, rfl⟩
      · obtain rfl : k = s.size := by omega
        have HF := Lib.hid (HA.out (fun i hi => HL.out i hi hi))
        go_wp2
        go_ret
        exact ⟨congrArg (fun z => Ending.returned (Value.bool z)) HF.out.symm, rfl⟩
  · rw [okR_short (by omega)]
    have HN := Lib.hid (Tryd.rwHousesD (s.size : Int) false (inn_f (by omega)))
    clear hin
    go_enter Tryd.func28, Tryd.ntmps28
    go_wp2_with (first | (go_at_call 35; refine (HN.out _).mono ?_; rintro e w1 ⟨rfl, rfl⟩))
    go_ret
    exact ⟨rfl, rfl⟩
theorem trim_empR (s : ByteArray) (h2 : 1 ≤ s.size) (h8 : s.size ≤ 20) : (⟨(Lib.trimS s.data.toList [35, 46]).toArray⟩ : ByteArray).toList.isEmpty = okR s := by
  have e : (⟨(Lib.trimS s.data.toList [35, 46]).toArray⟩ : ByteArray).toList = Lib.trimS s.data.toList [35, 46] := by rw [Lib.toList_data]
  rw [e]
  have this : (fun x : UInt8 => [35, 46].contains x) = isIn 35 46 := by
    funext x
    unfold isIn
    simp [List.contains, List.elem]
    cases hp : x == 35 <;> cases hq : x == 46 <;> simp
  have h1 := trim_nil s.data.toList [35, 46]
  rw [this] at h1
  unfold okR
  rw [decide_eq_true (p := 1 ≤ s.size ∧ s.size ≤ 20) ⟨h2, h8⟩, Bool.true_and]
  cases h : s.data.toList.all (isIn 35 46)
  · cases ht : Lib.trimS s.data.toList [35, 46]
    · rw [h1.1 ht] at h; cases h
    · rfl
  · rw [h1.2 h]; rfl
set_option maxRecDepth 100000 in
set_option maxHeartbeats 1600000 in
theorem Tryd.iIsLitRow (w : World) (s : ByteArray) (hs : s.size ≤ maxLen) (b : Bool) (hb : okR s = b) :
    Calls Tryd.prog 27 #[.string s] w fun e w' => e = .returned (.bool b) ∧ Gr w w' := by
  unfold maxLen at hs
  by_cases hin : 1 ≤ s.size ∧ s.size ≤ 20
  · obtain ⟨a1, a2⟩ := hin
    have HN := Lib.hid (Tryd.within (s.size : Int) 1 20 true (inn_t (by omega) (by omega)))
    have HT := Lib.hid (fun (W : World) => Any.strings_Trim_set Tryd.lays160 (zero_of_info Tryd.h116).1 (zero_of_info Tryd.h116).2 s ⟨#[35, 46]⟩ W (Nat.le_refl 2) (by omega) (by omega) (show (2 : Nat) < 4294967281 by decide) (by
      intro j b h
      rcases j with _ | _ | j
      · simp at h; subst h; decide
      · simp at h; subst h; decide
      · simp at h))
    have hd := trim_empR s a1 a2
    rw [hb] at hd
    change Hid (∀ W : World, Calls Tryd.prog 39 #[.string s, .string ⟨#[35, 46]⟩] W fun e w' => e = .returned (.string ⟨(Lib.trimS s.data.toList [35, 46]).toArray⟩) ∧ _) at HT
    generalize (⟨(Lib.trimS s.data.toList [35, 46]).toArray⟩ : ByteArray) = r at *
    clear a1 a2 hb
    go_enter Tryd.func27, Tryd.ntmps27
    go_wp2_with (first | (go_at_call 36; refine (HN.out _).mono ?_; rintro e w1 ⟨rfl, rfl⟩) | (go_at_call 39; refine (HT.out _).mono ?_; rintro e w1 ⟨rfl, q1, rfl⟩))
    go_ret
    exact ⟨rfl, by repeat (first | exact Gr.refl _ | refine Gr.alloc ?_ _ | refine Gr.trans ?_ (by assumption) | refine Gr.drew ?_ | refine Gr.drewN ?_ _ | refine Gr.grow ?_ _ | refine Gr.setCell ?_ (by (try simp); (try omega)) _)⟩
  · rw [okR_short (by omega)] at hb
    subst hb
    have HN := Lib.hid (Tryd.within (s.size : Int) 1 20 false (inn_f (by omega)))
    clear hin
    go_enter Tryd.func27, Tryd.ntmps27
    go_wp2_with (first | (go_at_call 36; refine (HN.out _).mono ?_; rintro e w1 ⟨rfl, rfl⟩))
    go_ret
    exact ⟨rfl, by repeat (first | exact Gr.refl _ | refine Gr.alloc ?_ _ | refine Gr.trans ?_ (by assumption) | refine Gr.drew ?_ | refine Gr.drewN ?_ _ | refine Gr.grow ?_ _ | refine Gr.setCell ?_ (by (try simp); (try omega)) _)⟩
set_option maxHeartbeats 800000 in
theorem Tryd.sIsLitRow (w : World) (s : ByteArray) (hs : s.size ≤ maxLen) (b : Bool) (hb : okR s = b) :
    Calls Tryd.prog 26 #[.string s] w fun e w' => e = .returned (.bool b) ∧ Gr w w' := by
  have HG := Lib.hid (fun W => Tryd.rwRow W s hs b hb)
  clear hb hs
  go_enter Tryd.func26, Tryd.ntmps26
  go_wp2_with (first | (go_at_call 28; refine (HG.out _).mono ?_; rintro e w1 ⟨rfl, rfl⟩))
  go_ret
  exact ⟨rfl, by repeat (first | exact Gr.refl _ | refine Gr.alloc ?_ _ | refine Gr.trans ?_ (by assumption) | refine Gr.drew ?_ | refine Gr.drewN ?_ _ | refine Gr.grow ?_ _ | refine Gr.setCell ?_ (by (try simp); (try omega)) _)⟩
end Go.Proofs
