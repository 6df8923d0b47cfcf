/-
  Chapter 6: streets and avenues that go around, both functions.
-/
import Derived.Test.YtcmjckipicmmeaaDoorOwF
namespace Go.Proofs
open Go.RowKit
set_option linter.unusedVariables false
set_option linter.unusedSimpArgs false
/-- 1 to the left, -1 to the right, 0: of the signs of the first and the last street, the first and the last avenue -/
def rg (p0 p1 q0 q1 : UInt8) : Int := if p0 = 101 ∧ p1 = 119 ∧ q0 = 115 ∧ q1 = 110 then 1 else if p0 = 119 ∧ p1 = 101 ∧ q0 = 110 ∧ q1 = 115 then -1 else 0
def rgB (p0 p1 q0 q1 : UInt8) : Bool := decide (rg p0 p1 q0 q1 ≠ 0)
theorem rg_sp {p0 p1 q0 q1 : UInt8} : rg p0 p1 q0 q1 = 0 ∨ (rg p0 p1 q0 q1 = 1 ∧ p0 = 101) ∨ (rg p0 p1 q0 q1 = -1 ∧ p0 = 119) := by
  unfold rg
  split
  · rename_i h; exact .inr (.inl ⟨rfl, h.1⟩)
  · split
    · rename_i h; exact .inr (.inr ⟨rfl, h.1⟩)
    · exact .inl rfl
theorem ext_one (s : ByteArray) (k : Nat) (h : k < s.size) : s.extract k (k + 1) = ⟨#[s[k]]⟩ := by
  apply ByteArray.ext
  rw [ByteArray.data_extract]
  have hd : s.data.size = s.size := rfl
  apply Array.ext
  · rw [Array.size_extract, hd]
    show min (k + 1) s.size - k = 1
    omega
  · intro i h1 h2
    have e : i = 0 := Nat.lt_one_iff.1 h2
    subst e
    rw [Array.getElem_extract]
    rfl
theorem ext_two (s : ByteArray) (k : Nat) (h : k + 1 < s.size) : s.extract k (k + 2) = ⟨#[s[k], s[k + 1]]⟩ := by
  apply ByteArray.ext
  rw [ByteArray.data_extract]
  have hd : s.data.size = s.size := rfl
  apply Array.ext
  · rw [Array.size_extract, hd]
    show min (k + 2) s.size - k = 2
    omega
  · intro i h1 h2
    have h2' : i < 2 := h2
    rw [Array.getElem_extract]
    match i, h2' with
    | 0, _ => rfl
    | 1, _ => rfl
set_option maxRecDepth 100000 in
set_option maxHeartbeats 1600000 in
theorem Tryd.owRing (w : World) (s a : ByteArray) (hs0 : okT 101 119 s = true) (ha0 : okT 110 115 a = true) (hs : 2 ≤ s.size ∧ s.size ≤ 8) (ha : 2 ≤ a.size ∧ a.size ≤ 8) (b : Bool)
    (hb : rgB (s[0]'(by omega)) (s[s.size - 1]'(by omega)) (a[0]'(by omega)) (a[a.size - 1]'(by omega)) = b) :
    Calls Tryd.prog 49 #[.agg #[.string s, .string a]] w fun e w' => e = .returned (.bool b) ∧ Gr w w' := by
  have mixed : Tryd.prog.follows .mixedOrders = true := by kernel_rfl
  have r0 := gr_all (Gr.refl (w.alloc (.cells #[.string s, .string a] 26))) (a := ⟨w.heap.size, 0, none⟩) (v := .string s) (by simp [go_sem])
  have r1 := gr_all (Gr.refl (w.alloc (.cells #[.string s, .string a] 26))) (a := ⟨w.heap.size, 1, none⟩) (v := .string a) (by simp [go_sem])
  obtain ⟨s1, s2⟩ := hs
  obtain ⟨a1, a2⟩ := ha
  have z1 : (0 : Int) < (s.size : Int) := by omega
  have z2 : (0 : Int) ≤ (s.size : Int) - 1 := by omega
  have z3 : (s.size : Int) - 1 < (s.size : Int) := by omega
  have z4 : (0 : Int) < (a.size : Int) := by omega
  have z5 : (0 : Int) ≤ (a.size : Int) - 1 := by omega
  have z6 : (a.size : Int) - 1 < (a.size : Int) := by omega
  have y1 : 0 < s.size := by omega
  have y2 : 0 < a.size := by omega
  have y3 : (1 : Int) ≤ (s.size : Int) := by omega
  have y4 : (1 : Int) ≤ (a.size : Int) := by omega
  have y5 : 1 ≤ s.size := by omega
  have y6 : 1 ≤ a.size := by omega
  have n1 : ((s.size : Int) - 1).toNat = s.size - 1 := by omega
  have n2 : ((a.size : Int) - 1).toNat = a.size - 1 := by omega
  go_enter Tryd.func49, Tryd.ntmps49
  go_wp2
  (refine wp_region_quiet_grown mixed (by kernel_rfl) ?_; (repeat (first | go_big_quiet_step ((fail)) | quiet_step ((fail)))); refine wpQuiet_nil ?_; intro _ hw'; obtain ⟨⟨nq, osq⟩, hw''⟩ := hw'; subst hw'')
  go_wp2
  (refine wp_region_quiet_grown mixed (by kernel_rfl) ?_; (repeat (first | go_big_quiet_step ((fail)) | quiet_step ((fail)))); refine wpQuiet_nil ?_; intro _ hw'; obtain ⟨⟨nq, osq⟩, hw''⟩ := hw'; subst hw'')
  have HP := Lib.hid (And.intro (okT_at hs0 0 y1) (And.intro (okT_at hs0 (s.size - 1) (by omega)) (And.intro (okT_at ha0 0 y2) (okT_at ha0 (a.size - 1) (by omega)))))
  have HB := Lib.hid hb
  clear hb
  generalize s[0] = p0 at *
  generalize s[s.size - 1] = p1 at *
  generalize a[0] = q0 at *
  generalize a[a.size - 1] = q1 at *
  clear r0 r1 z1 z2 z3 z4 z5 z6 y1 y2 y3 y4 y5 y6 n1 n2 hs0 ha0 s1 s2 a1 a2
  obtain ⟨h1, h2, h3, h4⟩ := HP.out
  clear HP
  rcases h1 with rfl | rfl <;> rcases h2 with rfl | rfl <;> rcases h3 with rfl | rfl <;> rcases h4 with rfl | rfl
  all_goals
    go_wp2
    go_ret
    exact ⟨by rw [← HB.out]; rfl, by repeat (first | exact Gr.refl _ | refine Gr.alloc ?_ _ | refine Gr.trans ?_ (by assumption) | refine Gr.drew ?_ | refine Gr.drewN ?_ _ | refine Gr.grow ?_ _ | refine Gr.setCell ?_ (by (try simp); (try omega)) _)⟩
/-- the outermost signs of a text -/
def omB (s : ByteArray) : ByteArray := s.extract 0 1 ++ s.extract (s.size - 1) s.size
theorem omB_eq (s : ByteArray) (h : 2 ≤ s.size) : omB s = ⟨#[s[0], s[s.size - 1]]⟩ := by
  unfold omB
  have e1 : s.extract 0 1 = ⟨#[s[0]]⟩ := ext_one s 0 (by omega)
  have e2 := ext_one s (s.size - 1) (by omega)
  rw [show s.size - 1 + 1 = s.size by omega] at e2
  rw [e1, e2]
  rfl
set_option maxRecDepth 100000 in
set_option maxHeartbeats 1600000 in
theorem Tryd.outermost (w : World) (s : ByteArray) (hs : 2 ≤ s.size ∧ s.size ≤ 8) :
    Calls Tryd.prog 50 #[.string s] w fun e w' => e = .returned (.string (omB s)) ∧ Gr w w' := by
  have mixed : Tryd.prog.follows .mixedOrders = true := by kernel_rfl
  obtain ⟨s1, s2⟩ := hs
  have y1 : 1 ≤ s.size := by omega
  have y3 : (1 : Int) ≤ (s.size : Int) := by omega
  have y4 : (s.size : Int) - 1 ≤ (s.size : Int) := by omega
  have y5 : (0 : Int) ≤ (s.size : Int) - 1 := by omega
  have n1 : ((s.size : Int) - 1).toNat = s.size - 1 := by omega
  have hz : (s.extract 0 1).size ≤ 8 := by rw [ByteArray.size_extract]; omega
  have hz2 : (s.extract (s.size - 1) s.size).size ≤ 8 := by rw [ByteArray.size_extract]; omega
  have hadd := fun W => run_string_add (P := Tryd.prog) (w := W) (s.extract 0 1) (s.extract (s.size - 1) s.size) (by omega) (by omega)
  have HO := Lib.hid (show s.extract 0 1 ++ s.extract (s.size - 1) s.size = omB s from rfl)
  clear hz hz2
  go_enter Tryd.func50, Tryd.ntmps50
  go_wp2
  (refine wp_region_quiet_grown mixed (by kernel_rfl) ?_; (repeat (first | go_big_quiet_step ((fail)) | quiet_step ((fail)))); refine wpQuiet_nil ?_; intro _ hw'; obtain ⟨⟨nq, osq⟩, hw''⟩ := hw'; subst hw'')
  go_wp2
  go_ret
  exact ⟨rfl, by repeat (first | exact Gr.refl _ | refine Gr.alloc ?_ _ | refine Gr.trans ?_ (by assumption) | refine Gr.drew ?_ | refine Gr.drewN ?_ _ | refine Gr.grow ?_ _ | refine Gr.setCell ?_ (by (try simp); (try omega)) _)⟩
end Go.Proofs
