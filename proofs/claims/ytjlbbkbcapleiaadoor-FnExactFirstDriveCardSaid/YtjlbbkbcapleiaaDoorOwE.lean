/-
  Chapter 6: ways with all turned, both functions; texts of ways, both functions.
-/
import Derived.Test.YtjlbbkbcapleiaaDoorOwD
import Derived.Test.YtjlbbkbcapleiaaDoorQTail
namespace Go.Proofs
open Go.RowKit
set_option linter.unusedVariables false
set_option linter.unusedSimpArgs false
def gb (s : ByteArray) (i : Nat) : UInt8 := s.data.toList.getD i 0
theorem gb_eq (s : ByteArray) (i : Nat) (h : i < s.size) : s[i] = gb s i := by
  unfold gb
  have h' : i < s.data.toList.length := by simpa using h
  rw [List.getD_eq_getElem?_getD, List.getElem?_eq_getElem h']
  rfl
theorem okT_sg {p q : UInt8} {s : ByteArray} (h : okT p q s = true) (hp : isSg p) (hq : isSg q) : ∀ i, ∀ hi : i < s.size, isSg s[i] := fun i hi => by
  rcases okT_at h i hi with e | e <;> rw [e] <;> assumption
theorem sgE : isSg 101 := .inl rfl
theorem sgW : isSg 119 := .inr (.inl rfl)
theorem sgN : isSg 110 := .inr (.inr (.inl rfl))
theorem sgS : isSg 115 := .inr (.inr (.inr rfl))
theorem okW_and {s a : ByteArray} (h : okW s a = true) : okT 101 119 s = true ∧ okT 110 115 a = true := by
  unfold okW at h
  simpa using h
theorem two_set {w1 : World} {b : Nat} {x y : Value} (h0 : w1.cell? ⟨b, 0, none⟩ = some x) (h1 : w1.cell? ⟨b, 1, none⟩ = some y) (u v : Value) :
    ((w1.setCell ⟨b, 0, none⟩ u).setCell ⟨b, 1, none⟩ v).cell? ⟨b, 0, none⟩ = some u ∧ ((w1.setCell ⟨b, 0, none⟩ u).setCell ⟨b, 1, none⟩ v).cell? ⟨b, 1, none⟩ = some v := by
  have e1 : (w1.setCell ⟨b, 0, none⟩ u).cell? ⟨b, 1, none⟩ = some y := by
    rw [World.cell?_setCell_other _ ⟨b, 0, none⟩ ⟨b, 1, none⟩ _ (by simp)]; exact h1
  refine ⟨?_, World.cell?_setCell_same _ _ v e1⟩
  rw [World.cell?_setCell_other _ ⟨b, 1, none⟩ ⟨b, 0, none⟩ _ (by simp)]; exact World.cell?_setCell_same _ _ u h0
/-- a result of two cells that is stored behind a walk -/
theorem resSet {w W : World} {A : Obj} {x y : Value} {t : TypeId} (g : Gr ((w.alloc A).alloc (.cells #[x, y] t)) W) (u v : Value) :
    ((W.setCell ⟨w.heap.size + 1, 0, none⟩ u).setCell ⟨w.heap.size + 1, 1, none⟩ v).cell? ⟨w.heap.size + 1, 0, none⟩ = some u ∧ ((W.setCell ⟨w.heap.size + 1, 0, none⟩ u).setCell ⟨w.heap.size + 1, 1, none⟩ v).cell? ⟨w.heap.size + 1, 1, none⟩ = some v :=
  two_set (g.keep0 (v := x) (by simp [go_sem])) (g.keep0 (v := y) (by simp [go_sem])) u v
set_option maxRecDepth 100000 in
set_option maxHeartbeats 1600000 in
theorem Tryd.owBack (w : World) (s a : ByteArray) (h : okW s a = true) :
    Calls Tryd.prog 13 #[.agg #[.string s, .string a]] w fun e w' => e = .returned (.agg #[.string (flB s), .string (flB a)]) ∧ Gr w w' := by
  obtain ⟨h1, h2⟩ := okW_and h
  obtain ⟨l1, l2⟩ := okT_len h1
  obtain ⟨m1, m2⟩ := okT_len h2
  have H1 := Lib.hid (okT_at h1)
  have H2 := Lib.hid (okT_at h2)
  have e0 : flL [] = ⟨#[]⟩ := rfl
  clear h h1 h2
  go_enter Tryd.func13, Tryd.ntmps13
  go_wp2_with fail
  go_loopg [4] s.size (fun gk v wr => ∃ k : Nat, k + gk = s.size ∧ v = .int .i64 k ∧ wr = ((w.alloc (.cells #[.string s, .string a] 28)).alloc (.cells #[.string ⟨#[]⟩, .string ⟨#[]⟩] 28)).alloc (.cells #[.string (flL (s.data.toList.take k)), .string ⟨#[]⟩] 28))
  case atStart => exact ⟨0, by omega, rfl, by simp [e0]⟩
  case round =>
    obtain ⟨k, hk, rfl, rfl⟩ := hrel
    by_cases hlt : k < s.size
    · have z1 : (k : Int) < (s.size : Int) := by omega
      have z0 : (0 : Int) ≤ (k : Int) := by omega
      have hsg := H1.out k hlt
      have HS := Lib.hid (show flL (s.data.toList.take (k + 1)) = flL (s.data.toList.take k) ++ ⟨#[fl s[k]]⟩ by rw [take_snocW s k hlt, flL_snoc])
      have hz : (flL (s.data.toList.take k)).size ≤ 8 := by rw [flL_size, List.length_take]; omega
      have hadd := fun W c => run_string_add (P := Tryd.prog) (w := W) (flL (s.data.toList.take k)) ⟨#[c]⟩ (by omega) (by have : (⟨#[c]⟩ : ByteArray).size = 1 := rfl; omega)
      generalize flL (s.data.toList.take k) = S at *
      rcases hsg with e | e
      · have e1 : ((s[k].toNat : Int) == 101) = true := by rw [e]; rfl
        have HC := Lib.hid (show fl s[k] = 119 by rw [e]; rfl)
        clear e hz
        go_wp2_with fail
        go_roundg (gk - 1)
        case rel => exact ⟨k + 1, by omega, by go_num, by rw [HS.out, HC.out]⟩
        case measure => omega
      · have e1 : ((s[k].toNat : Int) == 101) = false := by rw [e]; rfl
        have HC := Lib.hid (show fl s[k] = 101 by rw [e]; rfl)
        clear e hz
        go_wp2_with fail
        go_roundg (gk - 1)
        case rel => exact ⟨k + 1, by omega, by go_num, by rw [HS.out, HC.out]⟩
        case measure => omega
    · obtain rfl : k = s.size := by omega
      have HT := Lib.hid (show flL (s.data.toList.take s.size) = flB s by rw [take_allW]; rfl)
      clear hk hlt
      go_wp2_with fail
      go_loopg [5] a.size (fun gk v wr => ∃ k : Nat, k + gk = a.size ∧ v = .int .i64 k ∧ wr = ((w.alloc (.cells #[.string s, .string a] 28)).alloc (.cells #[.string ⟨#[]⟩, .string ⟨#[]⟩] 28)).alloc (.cells #[.string (flB s), .string (flL (a.data.toList.take k))] 28))
      case atStart => exact ⟨0, by omega, rfl, by rw [HT.out]; simp [e0]⟩
      case round =>
        obtain ⟨k, hk, rfl, rfl⟩ := hrel
        by_cases hlt : k < a.size
        · have z1 : (k : Int) < (a.size : Int) := by omega
          have z0 : (0 : Int) ≤ (k : Int) := by omega
          have hsg := H2.out k hlt
          have HS := Lib.hid (show flL (a.data.toList.take (k + 1)) = flL (a.data.toList.take k) ++ ⟨#[fl a[k]]⟩ by rw [take_snocW a k hlt, flL_snoc])
          have hz : (flL (a.data.toList.take k)).size ≤ 8 := by rw [flL_size, List.length_take]; omega
          have hadd := fun W c => run_string_add (P := Tryd.prog) (w := W) (flL (a.data.toList.take k)) ⟨#[c]⟩ (by omega) (by have : (⟨#[c]⟩ : ByteArray).size = 1 := rfl; omega)
          generalize flL (a.data.toList.take k) = S at *
          rcases hsg with e | e
          · have e1 : ((a[k].toNat : Int) == 110) = true := by rw [e]; rfl
            have HC := Lib.hid (show fl a[k] = 115 by rw [e]; rfl)
            clear e hz
            go_wp2_with fail
            go_roundg (gk - 1)
            case rel => exact ⟨k + 1, by omega, by go_num, by rw [HS.out, HC.out]⟩
            case measure => omega
          · have e1 : ((a[k].toNat : Int) == 110) = false := by rw [e]; rfl
            have HC := Lib.hid (show fl a[k] = 110 by rw [e]; rfl)
            clear e hz
            go_wp2_with fail
            go_roundg (gk - 1)
            case rel => exact ⟨k + 1, by omega, by go_num, by rw [HS.out, HC.out]⟩
            case measure => omega
        · obtain rfl : k = a.size := by omega
          have HT2 := Lib.hid (show flL (a.data.toList.take a.size) = flB a by rw [take_allW]; rfl)
          clear hk hlt
          go_wp2
          refine bodyPost_ret (v := .agg #[.string (flB s), .string (flB a)]) ?_ rfl ⟨rfl, ?_⟩
          · simp [results, Tryd.results13, go_sem, HT2.out]
          · exact by repeat (first | exact Gr.refl _ | refine Gr.alloc ?_ _ | refine Gr.trans ?_ (by assumption) | refine Gr.drew ?_ | refine Gr.drewN ?_ _ | refine Gr.grow ?_ _ | refine Gr.setCell ?_ (by (try simp); (try omega)) _)
theorem Tryd.zWays (w : World) : (zeroValue 28).run Tryd.prog w = .ok (.agg #[.string ⟨#[]⟩, .string ⟨#[]⟩]) w := by kernel_rfl
set_option maxRecDepth 100000 in
set_option maxHeartbeats 1600000 in
theorem Tryd.iBackWays (w : World) (s a : ByteArray) (hs : s.size ≤ maxLen) (ha : a.size ≤ maxLen) (b : Bool) (hb : okW s a = b) (s' a' : ByteArray) (hs' : (if b then flB s else ⟨#[]⟩) = s') (ha' : (if b then flB a else ⟨#[]⟩) = a') :
    Calls Tryd.prog 16 #[.agg #[.string s, .string a]] w fun e w' => e = .returned (.tuple #[.agg #[.string s', .string a'], .bool b]) ∧ Gr w w' := by
  have mixed : Tryd.prog.follows .mixedOrders = true := by kernel_rfl
  subst hs' ha'
  have H1 := Lib.hid (fun (W : World) => Tryd.iAreWays W s a hs ha b hb)
  cases b
  · clear hs ha hb
    go_enter Tryd.func16, Tryd.ntmps16
    go_wp2_with (first | (go_at_call 23; refine (H1.out _).mono ?_; rintro e w1 ⟨rfl, hbW⟩; have hcW := (bcell hbW.below).1; have hfW := (bcell hbW.below).2; (try have hzW : w.heap.size < w1.heap.size := by have hq := hbW.below.size; (try simp at hq); omega); (try have hyW : w.heap.size + 1 < w1.heap.size := by have hq := hbW.below.size; (try simp at hq); omega); (try have hxW : w.heap.size + 2 < w1.heap.size := by have hq := hbW.below.size; (try simp at hq); omega)))
    obtain ⟨q0, q1⟩ := resSet hbW (.string ⟨#[]⟩) (.string ⟨#[]⟩)
    refine bodyPost_ret (v := .tuple #[.agg #[.string ⟨#[]⟩, .string ⟨#[]⟩], .bool false]) ?_ rfl ⟨rfl, ?_⟩
    · simp [results, Tryd.results16, go_sem, q0, q1]
    · exact by repeat (first | exact Gr.refl _ | refine Gr.alloc ?_ _ | refine Gr.trans ?_ (by assumption) | refine Gr.drew ?_ | refine Gr.drewN ?_ _ | refine Gr.grow ?_ _ | refine Gr.setCell ?_ (by (try simp); (try omega)) _)
  · obtain ⟨h1, h2⟩ := okW_and hb
    have HT1 := Lib.hid (fun (W : World) => Tryd.turned W s (okT_len h1).2 (okT_sg h1 sgE sgW))
    have HT2 := Lib.hid (fun (W : World) => Tryd.turned W a (okT_len h2).2 (okT_sg h2 sgN sgS))
    clear hs ha hb h1 h2
    go_enter Tryd.func16, Tryd.ntmps16
    go_wp2_with (first | (go_at_call 23; refine (H1.out _).mono ?_; rintro e w1 ⟨rfl, hbW⟩; have hcW := (bcell hbW.below).1; have hfW := (bcell hbW.below).2; (try have hzW : w.heap.size < w1.heap.size := by have hq := hbW.below.size; (try simp at hq); omega); (try have hyW : w.heap.size + 1 < w1.heap.size := by have hq := hbW.below.size; (try simp at hq); omega); (try have hxW : w.heap.size + 2 < w1.heap.size := by have hq := hbW.below.size; (try simp at hq); omega)))
    have r0 := gr_all hbW (a := ⟨w.heap.size, 0, none⟩) (v := .string s) (by simp [go_sem])
    have r1 := gr_all hbW (a := ⟨w.heap.size, 1, none⟩) (v := .string a) (by simp [go_sem])
    have f0 := gr_all hbW (a := ⟨w.heap.size + 1, 0, none⟩) (v := .string ⟨#[]⟩) (by simp [go_sem])
    have f1 := gr_all hbW (a := ⟨w.heap.size + 1, 1, none⟩) (v := .string ⟨#[]⟩) (by simp [go_sem])
    have f2 := gr_all_f hbW (b := w.heap.size + 1) (o := 0) (by simp) (by simp [go_sem])
    have f3 := gr_all_f hbW (b := w.heap.size + 1) (o := 1) (by simp) (by simp [go_sem])
    (refine wp_region_grown_tail 7 mixed (by kernel_rfl) ?_; simp only [List.take_succ_cons, List.take_zero, List.drop_succ_cons, List.drop_zero]; (repeat (first | go_big_quiet_step ((first | (go_at_call_of 24 (Value.string s); exact Calls.grown_of (HT1.out _)) | (go_at_call_of 24 (Value.string a); exact Calls.grown_of (HT2.out _)))) | quiet_step ((first | (go_at_call_of 24 (Value.string s); exact Calls.grown_of (HT1.out _)) | (go_at_call_of 24 (Value.string a); exact Calls.grown_of (HT2.out _)))))); refine wpQuiet_nil ?_; intro _ hw'; obtain ⟨⟨nq, osq⟩, hw''⟩ := hw'; subst hw'')
    go_wp2_with fail
    obtain ⟨q0, q1⟩ := resSet (W := Go.Sort.grow (w1.drewN nq) osq) (Gr.grow (Gr.drewN hbW nq) osq) (.string (flB s)) (.string (flB a))
    refine bodyPost_ret (v := .tuple #[.agg #[.string (flB s), .string (flB a)], .bool true]) ?_ rfl ⟨rfl, ?_⟩
    · simp [results, Tryd.results16, go_sem, q0, q1]
    · exact by repeat (first | exact Gr.refl _ | refine Gr.alloc ?_ _ | refine Gr.trans ?_ (by assumption) | refine Gr.drew ?_ | refine Gr.drewN ?_ _ | refine Gr.grow ?_ _ | refine Gr.setCell ?_ (by (try simp); (try omega)) _)
end Go.Proofs
