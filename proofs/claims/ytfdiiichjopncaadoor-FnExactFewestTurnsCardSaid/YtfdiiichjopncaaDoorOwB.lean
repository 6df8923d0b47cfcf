/-
  Chapter 6: whether two texts are ways (the program, by strings.Trim), and the laws' small words of ways.
-/
import Derived.Test.YtfdiiichjopncaaDoorOwA
import Derived.Test.YtfdiiichjopncaaDoorShelf
import Derived.Shelf.Strings.SlTrimAscii
namespace Go.Proofs
open Go.RowKit Go.Shelf
set_option linter.unusedVariables false
set_option linter.unusedSimpArgs false
theorem dw_nil (p : UInt8 → Bool) (l : List UInt8) : l.dropWhile p = [] ↔ l.all p = true := by
  induction l with
  | nil => simp
  | cons x l ih =>
    rw [List.dropWhile_cons, List.all_cons]
    cases h : p x
    · simp
    · simp only [if_true, Bool.true_and]; exact ih
theorem dw_all (p : UInt8 → Bool) (l : List UInt8) (h : (l.dropWhile p).all p = true) : l.dropWhile p = [] := by
  induction l with
  | nil => simp
  | cons x l ih =>
    rw [List.dropWhile_cons] at h ⊢
    cases hx : p x
    · rw [hx] at h
      simp [hx] at h
    · rw [hx] at h
      simp only [if_true] at h ⊢
      exact ih h
theorem trim_nil (l cs : List UInt8) : Lib.trimS l cs = [] ↔ l.all (cs.contains ·) = true := by
  unfold Lib.trimS Lib.trimLeftS Lib.trimRightS
  rw [dw_nil, List.all_reverse]
  constructor
  · intro h
    have := dw_all _ _ h
    rw [dw_nil, List.all_reverse] at this
    exact this
  · intro h
    have : l.reverse.dropWhile (cs.contains ·) = [] := (dw_nil _ _).2 (by rw [List.all_reverse]; exact h)
    rw [this]; rfl
theorem trim_emp (p q : UInt8) (s : ByteArray) (h2 : 2 ≤ s.size) (h8 : s.size ≤ 8) : (⟨(Lib.trimS s.data.toList [p, q]).toArray⟩ : ByteArray).toList.isEmpty = okT p q s := by
  have e : (⟨(Lib.trimS s.data.toList [p, q]).toArray⟩ : ByteArray).toList = Lib.trimS s.data.toList [p, q] := by rw [Lib.toList_data]
  rw [e]
  have this : (fun x : UInt8 => [p, q].contains x) = isIn p q := by
    funext x
    unfold isIn
    simp [List.contains, List.elem]
    cases hp : x == p <;> cases hq : x == q <;> simp
  have h1 := trim_nil s.data.toList [p, q]
  rw [this] at h1
  unfold okT
  rw [decide_eq_true (p := 2 ≤ s.size ∧ s.size ≤ 8) ⟨h2, h8⟩, Bool.true_and]
  cases h : s.data.toList.all (isIn p q)
  · cases ht : Lib.trimS s.data.toList [p, q]
    · rw [h1.1 ht] at h; cases h
    · rfl
  · rw [h1.2 h]; rfl
theorem Tryd.h116 : (Tryd.prog.info? 77).map (fun i => (i.zero, i.size)) = some (some (.agg (Array.replicate 256 (.bool false))), 256) := by kernel_rfl
set_option maxRecDepth 100000 in
set_option maxHeartbeats 1600000 in
theorem Tryd.areSigns (w : World) (s : ByteArray) (p q : UInt8) (hp : p.toNat < 128) (hq : q.toNat < 128) (hs : s.size ≤ maxLen) (b : Bool) (hb : okT p q s = b) :
    Calls Tryd.prog 28 #[.string s, .string ⟨#[p, q]⟩] w fun e w' => e = .returned (.bool b) ∧ Gr w w' := by
  unfold maxLen at hs
  by_cases hin : 2 ≤ s.size ∧ s.size ≤ 8
  · obtain ⟨a1, a2⟩ := hin
    have HN := Lib.hid (Tryd.within (s.size : Int) 2 8 true (inn_t (by omega) (by omega)))
    have HT := Lib.hid (fun (W : World) => Any.strings_Trim_set Tryd.lays160 (zero_of_info Tryd.h116).1 (zero_of_info Tryd.h116).2 s ⟨#[p, q]⟩ W (Nat.le_refl 2) (by omega) (by omega) (show (2 : Nat) < 4294967281 by decide) (by
      intro j b h
      rcases j with _ | _ | j
      · simp at h; subst h; exact hp
      · simp at h; subst h; exact hq
      · simp at h))
    have hd := trim_emp p q s a1 a2
    rw [hb] at hd
    change Hid (∀ W : World, Calls Tryd.prog 34 #[.string s, .string ⟨#[p, q]⟩] W fun e w' => e = .returned (.string ⟨(Lib.trimS s.data.toList [p, q]).toArray⟩) ∧ _) at HT
    generalize (⟨(Lib.trimS s.data.toList [p, q]).toArray⟩ : ByteArray) = r at *
    clear a1 a2 hb
    go_enter Tryd.func28, Tryd.ntmps28
    go_wp2_with (first | (go_at_call 33; refine (HN.out _).mono ?_; rintro e w1 ⟨rfl, rfl⟩) | (go_at_call 34; refine (HT.out _).mono ?_; rintro e w1 ⟨rfl, q1, rfl⟩))
    go_ret
    exact ⟨rfl, by repeat (first | exact Gr.refl _ | refine Gr.alloc ?_ _ | refine Gr.trans ?_ (by assumption) | refine Gr.drew ?_ | refine Gr.drewN ?_ _ | refine Gr.grow ?_ _ | refine Gr.setCell ?_ (by (try simp); (try omega)) _)⟩
  · rw [okT_short (by omega)] at hb
    subst hb
    have HN := Lib.hid (Tryd.within (s.size : Int) 2 8 false (inn_f (by omega)))
    clear hin
    go_enter Tryd.func28, Tryd.ntmps28
    go_wp2_with (first | (go_at_call 33; refine (HN.out _).mono ?_; rintro e w1 ⟨rfl, rfl⟩))
    go_ret
    exact ⟨rfl, by repeat (first | exact Gr.refl _ | refine Gr.alloc ?_ _ | refine Gr.trans ?_ (by assumption) | refine Gr.drew ?_ | refine Gr.drewN ?_ _ | refine Gr.grow ?_ _ | refine Gr.setCell ?_ (by (try simp); (try omega)) _)⟩
end Go.Proofs
