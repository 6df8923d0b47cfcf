/-
  Chapter 6: are there drives to all corners from each? Both sides.
-/
import Derived.Test.YtmklniikhdfaiaaDoorOwQ
import Derived.Test.YtmklniikhdfaiaaDoorOwE
namespace Go.Proofs
open Go.RowKit Av Gm Go.Maps
set_option linter.unusedVariables false
set_option linter.unusedSimpArgs false
theorem own_lit2 {w : World} {b : Nat} {x y : Int} (h : w.heap[b]? = some (.cells #[.int .i64 x, .int .i64 y] 3 (0, 0))) : OwnI w b (.slice (some ⟨b, 0, none⟩) 2 2) [x, y] :=
  ⟨rfl, .inr ⟨b, 2, _, rfl, Nat.le_refl _, h, by simp, by decide, rfl, rfl⟩⟩
theorem crn0 (Hn : Nat) : (crn Hn 0).1 = 0 ∧ (crn Hn 0).2 = 0 := by unfold crn; simp
theorem isC00 {W H : Int} (hW : 1 ≤ W) (hH : 1 ≤ H) : isC W H [0, 0] = true := by
  unfold isC onB onC; simp; omega
theorem flB_at (s : ByteArray) (i : Nat) (hi : i < (flB s).size) : (flB s)[i] = fl (s[i]'(by rw [flB_size] at hi; exact hi)) := by
  have h2 : i < s.size := by rwa [flB_size] at hi
  have e : some (flB s)[i] = some (fl s[i]) := by
    have a1 : (flB s).data.toList[i]? = some (flB s)[i] := List.getElem?_eq_getElem (by simpa using hi)
    have a2 : s.data.toList[i]? = some s[i] := List.getElem?_eq_getElem (by simpa using h2)
    rw [← a1]
    show (List.map fl s.data.toList)[i]? = _
    rw [List.getElem?_map, a2]; rfl
  exact Option.some.inj e
theorem okW_flB {s a : ByteArray} (h : okW s a = true) : okW (flB s) (flB a) = true := by
  obtain ⟨h1, h2⟩ := okW_and h
  have l1 := okT_len h1
  have l2 := okT_len h2
  unfold okW
  rw [okT_all (by rw [flB_size]; omega) (by rw [flB_size]; omega) (fun i hi => ?_), okT_all (by rw [flB_size]; omega) (by rw [flB_size]; omega) (fun i hi => ?_)]
  · rfl
  · rw [flB_at]
    rcases okT_at h2 i (by rw [flB_size] at hi; exact hi) with e | e <;> rw [e] <;> decide
  · rw [flB_at]
    rcases okT_at h1 i (by rw [flB_size] at hi; exact hi) with e | e <;> rw [e] <;> decide
/-- whole? -/
def whW (s a : ByteArray) : Bool := okW s a && (decide (drN s a [0, 0] = s.size * a.size) && decide (drN (flB s) (flB a) [0, 0] = s.size * a.size))
theorem nat_eqD (n m : Nat) : ((n : Int) == (m : Int)) = decide (n = m) := by
  by_cases q : n = m
  · simp [q]
  · simp [q]; omega
theorem vx00 (s : ByteArray) : vx s [0, 0] = 0 := by unfold vx; simp
set_option maxRecDepth 100000 in
set_option maxHeartbeats 1600000 in
theorem Tryd.owWhole (w : World) (s a : ByteArray) (h : okW s a = true) (v : Bool) (hv : whW s a = v) :
    Calls Tryd.prog 16 #[.agg #[.string s, .string a]] w fun e w' => e = .returned (.bool v) ∧ Below w.heap.size w w' := by
  have mixed : Tryd.prog.follows .mixedOrders = true := by kernel_rfl
  subst hv
  obtain ⟨h1, h2⟩ := okW_and h
  obtain ⟨k1, k2⟩ := okW_and (okW_flB h)
  have l1 := okT_len h1
  have l2 := okT_len h2
  have hp : 0 < a.size * s.size := Nat.mul_pos (by omega) (by omega)
  have hp2 : 0 < (flB a).size * (flB s).size := by rw [flB_size, flB_size]; exact hp
  have e2 : whW s a = (decide (drN s a [0, 0] = s.size * a.size) && decide (drN (flB s) (flB a) [0, 0] = s.size * a.size)) := by unfold whW; rw [h]; rfl
  rw [e2]
  unfold drN
  rw [vx00, vx00]
  have HR1 := Lib.hid (fun (X : World) b' (hla : OwnI X b' (.slice (some ⟨b', 0, none⟩) 2 2) [0, 0]) => Tryd.owReached X s a h1 h2 0 b' _ hp (by rw [(crn0 _).1, (crn0 _).2]; exact hla))
  have HR2 := Lib.hid (fun (X : World) b' b'' (hla : OwnI X b' (.slice (some ⟨b'', 0, none⟩) 2 2) [0, 0]) => Tryd.owReached X (flB s) (flB a) k1 k2 0 b' _ hp2 (by rw [(crn0 _).1, (crn0 _).2]; exact hla))
  have HB := Lib.hid (fun (X : World) => Tryd.owBack X s a h)
  generalize (fin (nbW s a) (a.size * s.size) 0).q.length = n1 at *
  generalize (fin (nbW (flB s) (flB a)) ((flB a).size * (flB s).size) 0).q.length = n2 at *
  generalize flB s = s' at *
  generalize flB a = a' at *
  have hN : s.size * a.size ≤ 64 := Nat.mul_le_mul l1.2 l2.2
  have hN' : (s.size : Int) * a.size = ((s.size * a.size : Nat) : Int) := by push_cast; rfl
  have hwr : IntKind.i64.wrap ((s.size : Int) * a.size) = ((s.size * a.size : Nat) : Int) := by rw [hN']; exact IntWalk.i64_in _ (by omega)
  have q1 := nat_eqD n1 (s.size * a.size)
  have q2 := nat_eqD n2 (s.size * a.size)
  generalize decide (n1 = s.size * a.size) = r1 at *
  generalize decide (n2 = s.size * a.size) = r2 at *
  generalize s.size * a.size = N at *
  clear h h1 h2 k1 k2 hp hp2 e2 hN'
  obtain ⟨W2, hW2⟩ : ∃ W, ((w.alloc (.cells #[.string s, .string a] 28)).alloc (.cells #[.int .i64 0, .int .i64 0] 3)) = W := ⟨_, rfl⟩
  have c0 : W2.cell? ⟨w.heap.size, 0, none⟩ = some (.string s) := by subst hW2; simp [go_sem]
  have c1 : W2.cell? ⟨w.heap.size, 1, none⟩ = some (.string a) := by subst hW2; simp [go_sem]
  have ho : OwnI W2 (w.heap.size + 1) (.slice (some ⟨w.heap.size + 1, 0, none⟩) 2 2) [0, 0] := own_lit2 (by subst hW2; exact heap_new' (by simp))
  have GG := Lib.hid (show Gr w W2 by subst hW2; exact by repeat (first | exact Gr.refl _ | refine Gr.alloc ?_ _ | refine Gr.trans ?_ (by assumption) | refine Gr.drew ?_ | refine Gr.drewN ?_ _ | refine Gr.grow ?_ _ | refine Gr.setCell ?_ (by (try simp); (try omega)) _))
  have HO := Lib.hid ho
  have HC := Lib.hid (And.intro c0 c1)
  clear ho
  go_enter Tryd.func16, Tryd.ntmps16
  go_wp2_with fail
  refine (HR1.out W2 _ HO.out).mono ?_
  rintro e w1 ⟨rfl, hb1⟩
  have ho1 := Lib.hid (HO.out.below hb1 (Nat.le_refl _))
  have d0 := cell_k2 hb1 c0
  have d1 := cell_k2 hb1 c1
  clear c0 c1
  cases r1
  · go_wp2_with fail
    go_ret
    exact ⟨rfl, Below.trans GG.out.below (hb1.mono GG.out.below.size)⟩
  · go_wp2_with (first | (go_at_call 26; refine (HB.out _).mono ?_; rintro e w2 ⟨rfl, g2⟩))
    refine (HR2.out w2 _ _ (ho1.out.gr g2)).mono ?_
    rintro e w3 ⟨rfl, hb3⟩
    go_wp2_with fail
    go_ret
    exact ⟨rfl, Below.trans GG.out.below ((Below.trans (Below.trans hb1 (g2.below.mono hb1.size)) (hb3.mono (Nat.le_trans hb1.size g2.below.size))).mono GG.out.below.size)⟩
set_option maxRecDepth 100000 in
set_option maxHeartbeats 1600000 in
theorem Tryd.iIsWholeWays (w : World) (s a : ByteArray) (hs : s.size ≤ 1048576) (ha : a.size ≤ 1048576) (b v : Bool) (hb : okW s a = b) (hv : whW s a = v) :
    Calls Tryd.prog 18 #[.agg #[.string s, .string a]] w fun e w' => e = .returned (.tuple #[.bool v, .bool b]) ∧ Below w.heap.size w w' := by
  have mixed : Tryd.prog.follows .mixedOrders = true := by kernel_rfl
  have hsm : s.size ≤ maxLen := by unfold maxLen; omega
  have ham : a.size ≤ maxLen := by unfold maxLen; omega
  obtain ⟨s', hs'⟩ : ∃ s', (if b then flB s else ⟨#[]⟩ : ByteArray) = s' := ⟨_, rfl⟩
  obtain ⟨a', ha'⟩ : ∃ s', (if b then flB a else ⟨#[]⟩ : ByteArray) = s' := ⟨_, rfl⟩
  have hsm' : s'.size ≤ maxLen := by subst hs'; cases b; exact Nat.zero_le _; show (flB s).size ≤ _; rw [flB_size]; exact hsm
  have ham' : a'.size ≤ maxLen := by subst ha'; cases b; exact Nat.zero_le _; show (flB a).size ≤ _; rw [flB_size]; exact ham
  have HB := Lib.hid (fun (X : World) => Tryd.iBackWays X s a hsm ham b hb s' a' hs' ha')
  obtain ⟨n1, hn1⟩ : ∃ n, drV s a [0, 0] = n := ⟨_, rfl⟩
  obtain ⟨n2, hn2⟩ : ∃ n, drV s' a' [0, 0] = n := ⟨_, rfl⟩
  obtain ⟨b2, hb2⟩ : ∃ n, drB s' a' [0, 0] = n := ⟨_, rfl⟩
  have hb1 : drB s a [0, 0] = b := by
    unfold drB; rw [hb]
    cases b
    · rfl
    · obtain ⟨h1, h2⟩ := okW_and hb
      have l1 := okT_len h1
      have l2 := okT_len h2
      rw [isC00 (by omega) (by omega)]; rfl
  have HR1 := Lib.hid (fun (X : World) b' (hla : OwnI X b' (.slice (some ⟨b', 0, none⟩) 2 2) [0, 0]) => Tryd.iDrivenFrom X s a hsm ham b' _ [0, 0] n1 b hn1 hb1 hla)
  have HR2 := Lib.hid (fun (X : World) b' b'' (hla : OwnI X b' (.slice (some ⟨b'', 0, none⟩) 2 2) [0, 0]) => Tryd.iDrivenFrom X s' a' hsm' ham' b' _ [0, 0] n2 b2 hn2 hb2 hla)
  have hN' : (s.size : Int) * a.size = ((s.size * a.size : Nat) : Int) := by push_cast; rfl
  have hN : s.size * a.size ≤ 1099511627776 := Nat.mul_le_mul hs ha
  have hwr : IntKind.i64.wrap ((s.size : Int) * a.size) = ((s.size * a.size : Nat) : Int) := by rw [hN']; exact IntWalk.i64_in _ (by omega)
  have HV : Hid (v = (b && ((n1 == ((s.size * a.size : Nat) : Int)) && (n2 == ((s.size * a.size : Nat) : Int))))) := Lib.hid (by
    subst hv hn1 hn2
    cases b
    · unfold whW; rw [hb]; rfl
    · simp only [if_true] at hs' ha'
      subst hs' ha'
      have hb3 : drB (flB s) (flB a) [0, 0] = true := by
        have hk := okW_flB hb
        obtain ⟨h1, h2⟩ := okW_and hk
        have l1 := okT_len h1
        have l2 := okT_len h2
        unfold drB; rw [hk, isC00 (by omega) (by omega)]; rfl
      unfold whW drV
      rw [hb, hb1, hb3, if_pos rfl, if_pos rfl, nat_eqD, nat_eqD])
  have q1 : ((n1 : Int) == ((s.size * a.size : Nat) : Int)) = ((n1 : Int) == ((s.size * a.size : Nat) : Int)) := rfl
  have q2 : ((n2 : Int) == ((s.size * a.size : Nat) : Int)) = ((n2 : Int) == ((s.size * a.size : Nat) : Int)) := rfl
  generalize hr1 : ((n1 : Int) == ((s.size * a.size : Nat) : Int)) = r1 at q1 HV
  generalize hr2 : ((n2 : Int) == ((s.size * a.size : Nat) : Int)) = r2 at q2 HV
  clear q1 q2
  generalize s.size * a.size = N at *
  clear hN hN' hb hv hn1 hn2 hb1 hb2 hs' ha' hs ha hsm' ham'
  obtain ⟨W2, hW2⟩ : ∃ W, ((w.alloc (.cells #[.string s, .string a] 28)).alloc (.cells #[.int .i64 0, .int .i64 0] 3)) = W := ⟨_, rfl⟩
  have c0 : W2.cell? ⟨w.heap.size, 0, none⟩ = some (.string s) := by subst hW2; simp [go_sem]
  have c1 : W2.cell? ⟨w.heap.size, 1, none⟩ = some (.string a) := by subst hW2; simp [go_sem]
  have ho : OwnI W2 (w.heap.size + 1) (.slice (some ⟨w.heap.size + 1, 0, none⟩) 2 2) [0, 0] := own_lit2 (by subst hW2; exact heap_new' (by simp))
  have GG := Lib.hid (show Gr w W2 by subst hW2; exact by repeat (first | exact Gr.refl _ | refine Gr.alloc ?_ _ | refine Gr.trans ?_ (by assumption) | refine Gr.drew ?_ | refine Gr.drewN ?_ _ | refine Gr.grow ?_ _ | refine Gr.setCell ?_ (by (try simp); (try omega)) _))
  have HO := Lib.hid ho
  clear ho
  go_enter Tryd.func18, Tryd.ntmps18
  go_wp2_with fail
  refine (HR1.out W2 _ HO.out).mono ?_
  rintro e w1 ⟨rfl, hb1⟩
  have ho1 := Lib.hid (HO.out.below hb1 (Nat.le_refl _))
  have d0 := cell_k2 hb1 c0
  have d1 := cell_k2 hb1 c1
  clear c0 c1
  go_wp2_with (first | (go_at_call 29; refine (HB.out _).mono ?_; rintro e w2 ⟨rfl, g2⟩))
  have e0 := g2.keep0 d0
  have e1 := g2.keep0 d1
  clear d0 d1
  obtain ⟨X, hX⟩ : ∃ X, w2.alloc (.cells #[.string s', .string a'] 28) = X := ⟨_, rfl⟩
  simp only [hX]
  have gX : Gr w2 X := by (rw [← hX]; exact Gr.alloc (Gr.refl _) _)
  have f0 := gX.keep0 e0
  have f1 := gX.keep0 e1
  have ho2 := Lib.hid ((ho1.out.gr g2).gr gX)
  clear hX e0 e1
  refine (HR2.out X _ _ ho2.out).mono ?_
  rintro e w3 ⟨rfl, hb3⟩
  have d0 := cell_k2 hb3 f0
  have d1 := cell_k2 hb3 f1
  clear f0 f1
  have hfin : v = (b && (r1 && r2)) := HV.out
  have gall := (g2.trans gX).below
  have HE := Lib.hid (Below.trans GG.out.below ((Below.trans (Below.trans hb1 (gall.mono hb1.size)) (hb3.mono (Nat.le_trans hb1.size gall.size))).mono GG.out.below.size))
  clear HV
  cases b
  · subst hfin
    go_wp2_with fail
    go_ret2
    exact ⟨rfl, HE.out⟩
  · cases r1
    · subst hfin
      go_wp2_with fail
      go_ret2
      exact ⟨rfl, HE.out⟩
    · subst hfin
      go_wp2_with fail
      go_ret2
      exact ⟨rfl, HE.out⟩
end Go.Proofs
