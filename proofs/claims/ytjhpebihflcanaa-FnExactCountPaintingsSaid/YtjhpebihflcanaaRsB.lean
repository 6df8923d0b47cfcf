/-
  Chapter 7: lists put behind one another, lists compared (the library, walked).
-/
import Derived.Test.YtjhpebihflcanaaInts3
import Derived.Test.YtjhpebihflcanaaQTail
import Derived.Test.YtjhpebihflcanaaRlM
import Derived.Test.YtjhpebihflcanaaShelf
import Derived.Lib.AppendZerosOnto
import Derived.OwnWalk
import Derived.Laws.AppendOwnNone
namespace Go.Proofs
open Go.RowKit Rl
set_option linter.unusedVariables false
set_option linter.unusedSimpArgs false
set_option maxRecDepth 100000 in
set_option maxHeartbeats 1600000 in
theorem Try.growI (w : World) (n : Nat) (h0 : 0 < n) (hn : n ≤ 1000) :
    Calls Try.prog 68 #[.slice none 0 0, .int .i64 n] w fun e w' => ∃ v', e = .returned v' ∧ OwnI w' w.heap.size v' [] ∧ Below w.heap.size w w' := by
  have z0 : (0 : Int) < (n : Int) := by omega
  have z1 : (0 : Int) ≤ (n : Int) := by omega
  obtain ⟨i, hi, hz, hsz, hby⟩ := info_parts Try.infoI2
  have hG0 := grownCap_ge w n 0 3
  have hG1 := grownCap_le_maxLen w n 0 3 (by unfold maxLen; omega)
  have hrz := fun ty => Lib.run_append_nil_zeros (P := Try.prog) w 29 3 ty 3 i (.int .i64 0) .i64 .i64 Try.underlying29 Try.underlying3 hi hz n h0 (by omega) (by omega) (by rw [hby]; omega)
  generalize grownCap w n 0 3 = G at *
  have zG : (n : Int) ≤ (G : Int) := by omega
  have zG0 : (0 : Int) ≤ (G : Int) := by omega
  have HRZ := Lib.hid hrz
  clear hi hz hrz
  go_enter Try.func68, Try.ntmps68
  go_wp2_with (at_builtin; refine Lib.wpList_append_run _ rfl _ _ _ _ rfl _ _ rfl rfl _ _ (HRZ.out _) ?_)
  go_ret
  refine ⟨_, rfl, ⟨rfl, .inr ⟨w.heap.size, G, _, rfl, Nat.le_refl _, heap_new' rfl, Nat.zero_le _, hG1, ?_, rfl⟩⟩, ?_⟩
  · simp [size_zeroCells, Value.cells]; omega
  · exact Gr.below (by repeat (first | exact Gr.refl _ | refine Gr.alloc ?_ _ | refine Gr.trans ?_ (by assumption) | refine Gr.drew ?_ | refine Gr.drewN ?_ _ | refine Gr.grow ?_ _ | refine Gr.setCell ?_ (by (try simp); (try omega)) _))
set_option maxRecDepth 100000 in
set_option maxHeartbeats 1600000 in
theorem Try.growI0 (w : World) :
    Calls Try.prog 68 #[.slice none 0 0, .int .i64 0] w fun e w' => ∃ v', e = .returned v' ∧ OwnI w' w.heap.size v' [] ∧ Below w.heap.size w w' := by
  go_enter Try.func68, Try.ntmps68
  go_wp2
  go_ret
  exact ⟨_, rfl, OwnI.nil2 _ _, Gr.below (by repeat (first | exact Gr.refl _ | refine Gr.alloc ?_ _ | refine Gr.trans ?_ (by assumption) | refine Gr.drew ?_ | refine Gr.drewN ?_ _ | refine Gr.grow ?_ _ | refine Gr.setCell ?_ (by (try simp); (try omega)) _))⟩
theorem Try.growIn (w : World) (n : Nat) (hn : n ≤ 1000) :
    Calls Try.prog 68 #[.slice none 0 0, .int .i64 n] w fun e w' => ∃ v', e = .returned v' ∧ OwnI w' w.heap.size v' [] ∧ Below w.heap.size w w' := by
  rcases Nat.eq_zero_or_pos n with e | e
  · subst e; exact Try.growI0 w
  · exact Try.growI w n e hn
section
variable {P : Program} {o : Oper} {a : Act} {w : World} {Q : Exit → Act → World → Prop}
/-- a list of one's own, whichever, is appended -/
theorem wpList_appO {ops : Array Oper} {rest : List Oper} (hgd : o.guard = none) (s x : Operand) (t : TypeId)
    (ho : o.op = .call { callee := .builtin .append, args := #[s, x], argTypes := #[t, t] }) (ht : P.underlying t = some (.slice 3))
    (hinfo : (P.info? 3).map (fun i => (i.zero, i.size, i.bytes)) = some (some (.int .i64 0), 1, 8)) (B : Nat) (v : Value) (ps : List Int) (hs : a.eval s = v) (h : OwnI w B v ps)
    (C : Nat) (u : Value) (qs : List Int) (hx : a.eval x = u) (hu : OwnI w C u qs) (hl : ps.length ≤ 1000000000) (hl2 : qs.length ≤ 1000000000) (hB : B ≤ w.heap.size)
    (k : ∀ v' w', OwnI w' B v' (ps ++ qs) → Below B w w' → wpList P ops Q rest (a.put o.dst v') w') : wpList P ops Q (o :: rest) a w := by
  rcases hu.2 with ⟨rfl, hq⟩ | ⟨g, cap, cur, rfl, hb, hg, hc, hm, hsz, hh⟩
  · obtain rfl : qs = [] := List.length_eq_zero_iff.1 hq
    obtain ⟨i0, hi, _, _, _⟩ := info_parts hinfo
    have hrun := run_append_owned_none (P := P) (w := w) B t o.type 3 i0 1 ht hi v ps.length _ h
    refine wpList_plain hgd fun K hK => ?_
    unfold Oper.wp
    simp [execOp, ho, resolve, invoke, builtin, hs, hx, hrun, Result.andThen]
    exact hK _ _ (k v w (by simpa using h) (Below.refl _ _))
  · exact wpList_appI hgd s x t ho ht hinfo B v ps hs h ⟨g, 0, none⟩ qs.length cap qs hx rfl (fun j y hy => by
      have hj : j < qs.length := by have := (List.getElem?_eq_some_iff.1 hy).1; rwa [ics_len] at this
      rw [show (⟨g, 0, none⟩ : Addr).add j = ⟨g, j, none⟩ by cases j <;> simp [Addr.add]]
      rw [World.ownsRow.cellAt hu j (by omega), ← hy]; rfl) hl hl2 hB fun v' w' h1 h2 _ => k v' w' h1 h2
end
set_option maxRecDepth 100000 in
set_option maxHeartbeats 1600000 in
theorem Try.concatO (w : World) (b : Nat) (B1 B2 : Nat) (u1 u2 : Value) (q1 q2 : List Int) (hl1 : q1.length ≤ 100) (hl2 : q2.length ≤ 100)
    (hc0 : w.cell? ⟨b, 0, none⟩ = some u1) (hc1 : w.cell? ⟨b, 1, none⟩ = some u2) (ho1 : OwnI w B1 u1 q1) (ho2 : OwnI w B2 u2 q2) :
    Calls Try.prog 65 #[.slice (some ⟨b, 0, none⟩) 2 2] w fun e w' => ∃ v', e = .returned v' ∧ OwnI w' w.heap.size v' (q1 ++ q2) ∧ Below w.heap.size w w' := by
  have HQ1 := Lib.hid ho1
  have HQ2 := Lib.hid ho2
  obtain ⟨A1, c1, rfl⟩ := ho1.form
  obtain ⟨A2, c2, rfl⟩ := ho2.form
  have H1 := Lib.hid hl1
  have H2 := Lib.hid hl2
  obtain ⟨m1, hm1⟩ : ∃ m, q1.length = m := ⟨_, rfl⟩
  obtain ⟨m2, hm2⟩ : ∃ m, q2.length = m := ⟨_, rfl⟩
  rw [hm1] at hc0 HQ1 hl1
  rw [hm2] at hc1 HQ2 hl2
  have z1 : (0 : Int) ≤ (m1 : Int) := by omega
  have z2 : (0 : Int) ≤ (m2 : Int) := by omega
  have z3 : (0 : Int) ≤ (m1 : Int) + (m2 : Int) := by omega
  have HG := Lib.hid (fun (W : World) => (by have q := Try.growIn W (m1 + m2) (by omega); rwa [Int.natCast_add] at q : Calls Try.prog 68 #[.slice none 0 0, .int .i64 ((m1 : Int) + (m2 : Int))] W fun e w' => ∃ v', e = .returned v' ∧ OwnI w' W.heap.size v' [] ∧ Below W.heap.size W w'))
  clear ho1 ho2 hm1 hm2
  go_enter Try.func65, Try.ntmps65
  go_wp2
  refine wp_loop_rounds 3 ?_
  rw [rounds_succ]
  go_wp2
  rw [rounds_succ]
  go_wp2
  rw [rounds_succ]
  go_wp2_with (first | (go_at_call 68; refine (HG.out _).mono ?_; rintro e w1 ⟨v1, rfl, ho1, hb1⟩))
  have HO1 := Lib.hid ho1
  have HB1 := Lib.hid hb1
  have k0 := cell_k2 hb1 hc0
  have k1 := cell_k2 hb1 hc1
  clear ho1 hb1
  refine wp_loop_rounds 3 ?_
  rw [rounds_succ]
  go_wp2_with (at_builtin; refine wpList_appO rfl _ _ 29 rfl Try.underlying29 Try.infoI2 w.heap.size _ _ rfl HO1.out B1 _ q1 rfl (HQ1.out.below HB1.out (Nat.le_refl _)) (by simp) (by have := H1.out; omega) HB1.out.size ?_; intro v2 w2 ho2 hb2)
  have HO2 := Lib.hid ho2
  have HB2 := Lib.hid (HB1.out.trans hb2)
  have l0 := cell_k2 HB2.out hc0
  have l1 := cell_k2 HB2.out hc1
  clear ho2 hb2
  rw [rounds_succ]
  go_wp2_with (at_builtin; refine wpList_appO rfl _ _ 29 rfl Try.underlying29 Try.infoI2 w.heap.size _ _ rfl HO2.out B2 _ q2 rfl (HQ2.out.below HB2.out (Nat.le_refl _)) (by have := H1.out; simp; omega) (by have := H2.out; omega) HB2.out.size ?_; intro v3 w3 ho3 hb3)
  rw [rounds_succ]
  go_wp2
  go_ret
  exact ⟨_, rfl, by simpa using ho3, HB2.out.trans hb3⟩
theorem OwnI.addr {w : World} {B n c : Nat} {A : Option Addr} {xs : List Int} (h : OwnI w B (.slice A n c) xs) (h0 : 0 < xs.length) : ∃ g, A = some ⟨g, 0, none⟩ := by
  rcases h.2 with ⟨e, hn⟩ | ⟨g, cap, cur, e, _⟩
  · omega
  · cases e; exact ⟨g, rfl⟩
/-- which of two lists comes first -/
def cmpL : List Int → List Int → Int
  | [], [] => 0
  | [], _ :: _ => -1
  | _ :: _, [] => 1
  | a :: s, b :: t => if a < b then -1 else if b < a then 1 else cmpL s t
theorem cmpL_lt : ∀ s t, cmpL s t < 0 ↔ ltL s t = true
  | [], [] => by simp [cmpL, ltL]
  | [], _ :: _ => by simp [cmpL, ltL]
  | _ :: _, [] => by simp [cmpL, ltL]
  | a :: s, b :: t => by
    simp only [cmpL, ltL]
    split
    · simp
    · split
      · simp
      · exact cmpL_lt s t
/-- the beginnings are alike: what is left decides -/
theorem cmpL_drop : ∀ (k : Nat) (s t : List Int), s.take k = t.take k → cmpL s t = cmpL (s.drop k) (t.drop k)
  | 0, _, _, _ => rfl
  | k + 1, [], [], _ => rfl
  | k + 1, [], b :: t, h => by simp at h
  | k + 1, a :: s, [], h => by simp at h
  | k + 1, a :: s, b :: t, h => by
    simp only [List.take_succ_cons, List.cons.injEq] at h
    obtain ⟨rfl, h⟩ := h
    simp only [cmpL, Int.lt_irrefl, if_false, List.drop_succ_cons]
    exact cmpL_drop k s t h
set_option maxRecDepth 100000 in
set_option maxHeartbeats 1600000 in
theorem Try.compareI (w : World) (B1 B2 : Nat) (u1 u2 : Value) (q1 q2 : List Int) (hl1 : q1.length ≤ 1000) (hl2 : q2.length ≤ 1000) (ho1 : OwnI w B1 u1 q1) (ho2 : OwnI w B2 u2 q2) :
    Calls Try.prog 66 #[u1, u2] w fun e w' => e = .returned (.int .i64 (cmpL q1 q2)) ∧ Gr w w' := by
  have HQ1 := Lib.hid ho1
  have HQ2 := Lib.hid ho2
  have HC := Lib.hid (fun (x y : Int) (W : World) => Try.cmp_Compare_int x y W)
  obtain ⟨A1, c1, rfl⟩ := ho1.form
  obtain ⟨A2, c2, rfl⟩ := ho2.form
  obtain ⟨m1, hm1⟩ : ∃ m, q1.length = m := ⟨_, rfl⟩
  obtain ⟨m2, hm2⟩ : ∃ m, q2.length = m := ⟨_, rfl⟩
  rw [hm1] at hl1 HQ1 ⊢
  rw [hm2] at hl2 HQ2 ⊢
  have HM1 := Lib.hid hm1
  have HM2 := Lib.hid hm2
  clear ho1 ho2 hm1 hm2
  go_enter Try.func66, Try.ntmps66
  go_wp2_with fail
  go_loopw [11] (fun iv wr => ∃ k : Nat, iv = .int .i64 k ∧ k ≤ m1 ∧ k ≤ m2 ∧ q1.take k = q2.take k ∧ wr = w) (fun i _ => m1 - (intOf i).toNat)
  case atStart => exact ⟨0, rfl, Nat.zero_le _, Nat.zero_le _, rfl, rfl⟩
  case round =>
    obtain ⟨k, rfl, hk1, hk2, htk, rfl⟩ := hrel
    have HD := Lib.hid (cmpL_drop k q1 q2 htk)
    have HTK := Lib.hid htk
    clear htk
    by_cases h1 : k < m1
    · obtain ⟨g1, rfl⟩ := HQ1.out.addr (by rw [HM1.out]; omega)
      have a1 := (HQ1.out.at HM1.out k h1).1
      have z0 : (0 : Int) ≤ (k : Int) := by omega
      have z1 : (k : Int) < (m1 : Int) := by omega
      have e1 : q1.drop k = q1.getD k 0 :: q1.drop (k + 1) := by rw [List.drop_eq_getElem_cons (by rw [HM1.out]; exact h1)]; simp [List.getD, HM1.out, h1]
      by_cases h2 : k < m2
      · obtain ⟨g2, rfl⟩ := HQ2.out.addr (by rw [HM2.out]; omega)
        have a2 := (HQ2.out.at HM2.out k h2).1
        have z2 : (k : Int) < (m2 : Int) := by omega
        have z3 : ¬ (m2 : Int) ≤ (k : Int) := by omega
        have e2 : q2.drop k = q2.getD k 0 :: q2.drop (k + 1) := by rw [List.drop_eq_getElem_cons (by rw [HM2.out]; exact h2)]; simp [List.getD, HM2.out, h2]
        have HE := Lib.hid (show cmpL q1 q2 = if q1.getD k 0 < q2.getD k 0 then -1 else if q2.getD k 0 < q1.getD k 0 then 1 else cmpL (q1.drop (k + 1)) (q2.drop (k + 1)) by rw [HD.out, e1, e2]; rfl)
        have HT := Lib.hid (show q1.getD k 0 = q2.getD k 0 → q1.take (k + 1) = q2.take (k + 1) by
          intro e
          rw [List.take_succ_eq_append_getElem (by rw [HM1.out]; exact h1), List.take_succ_eq_append_getElem (by rw [HM2.out]; exact h2), HTK.out]
          congr 1
          simp only [List.getD, HM1.out, HM2.out, h1, h2, List.getElem?_eq_getElem, Option.getD_some] at e
          rw [e])
        clear e1 e2 HD HTK
        generalize q1.getD k 0 = x at *
        generalize q2.getD k 0 = y at *
        have hcz : Lib.compareInt x y = (if x < y then -1 else if y < x then 1 else 0) := by unfold Lib.compareInt; rfl
        have HC2 := Lib.hid (fun (W : World) => HC.out x y W)
        by_cases hxy : x = y
        · have hc0 : Lib.compareInt x y = 0 := by rw [hcz, if_neg (by omega), if_neg (by omega)]
          have HT2 := Lib.hid (HT.out hxy)
          rw [hc0] at HC2
          clear hcz HT HE hxy hc0
          go_wp2_with (go_at_call 69; refine (HC2.out _).mono ?_; rintro e w1 ⟨rfl, rfl⟩)
          go_roundw
          case rel => exact ⟨k + 1, by go_num, by omega, by omega, HT2.out, by trivial⟩
          case measure => simp [intOf]; omega
        · have hc0 : ¬ Lib.compareInt x y = 0 := by rw [hcz]; split <;> (try split) <;> omega
          have HR := Lib.hid (show Lib.compareInt x y = cmpL q1 q2 by
            rw [HE.out, hcz]
            by_cases q : x < y
            · rw [if_pos q, if_pos q]
            · rw [if_neg q, if_neg q, if_pos (by omega), if_pos (by omega)])
          clear hcz
          generalize Lib.compareInt x y = z at *
          have hc1 : (z == 0) = false := by simpa using hc0
          have hc2 : (z != 0) = true := by simpa using hc0
          go_wp2_with (go_at_call 69; refine (HC2.out _).mono ?_; rintro e w1 ⟨rfl, rfl⟩)
          go_ret
          exact ⟨by rw [HR.out]; rfl, Gr.refl _⟩
      · have z3 : (m2 : Int) ≤ (k : Int) := by omega
        have HE := Lib.hid (show cmpL q1 q2 = 1 by rw [HD.out, e1, show q2.drop k = [] from List.drop_of_length_le (by rw [HM2.out]; omega)]; rfl)
        clear e1 HD
        go_wp2
        go_ret
        exact ⟨by rw [HE.out]; rfl, Gr.refl _⟩
    · obtain rfl : k = m1 := by omega
      have z1 : ¬ (k : Int) < (k : Int) := by omega
      have e1 : q1.drop k = [] := List.drop_of_length_le (by rw [HM1.out]; omega)
      by_cases h2 : k < m2
      · have z2 : (k : Int) < (m2 : Int) := by omega
        have HE := Lib.hid (show cmpL q1 q2 = -1 by rw [HD.out, e1, List.drop_eq_getElem_cons (by rw [HM2.out]; exact h2)]; rfl)
        clear e1 HD
        go_wp2
        go_ret
        exact ⟨by rw [HE.out]; rfl, Gr.refl _⟩
      · obtain rfl : k = m2 := by omega
        have HE := Lib.hid (show cmpL q1 q2 = 0 by rw [HD.out, e1, show q2.drop k = [] from List.drop_of_length_le (by rw [HM2.out]; omega)]; rfl)
        clear e1 HD
        go_wp2
        go_ret
        exact ⟨by rw [HE.out]; rfl, Gr.refl _⟩
end Go.Proofs
