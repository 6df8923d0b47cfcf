/-
  Chapter 6: turns of a word, the program (impl.TurnsOfWord).
-/
import Derived.Test.YtkhjjafeoijaaabRuU
namespace Go.Proofs
open Go.RowKit
set_option linter.unusedVariables false
set_option linter.unusedSimpArgs false
theorem cell_iterAt (w : World) (k n t : Nat) (s : ByteArray) (p : Nat) (h : n ≠ k) : (w.iterAt k s p).cell? ⟨n, t, none⟩ = w.cell? ⟨n, t, none⟩ := by
  unfold World.cell?
  simp only
  rw [Lib.iterAt_other w k n s p h]
theorem frozen_iterAt (w : World) (k n t : Nat) (s : ByteArray) (p : Nat) (h : n ≠ k) : (w.iterAt k s p).frozen? ⟨n, t, none⟩ = w.frozen? ⟨n, t, none⟩ := by
  unfold World.frozen?
  simp only
  rw [Lib.iterAt_other w k n s p h]
def bfw (s : ByteArray) (k : Nat) : Nat := if k = 0 then 0 else wy (gB s (k - 1))
/-- the four counters stand in their block -/
def Cnt (n : Nat) (s : ByteArray) (k : Nat) (wr : World) : Prop := ∀ t, t < 4 → wr.cell? ⟨n, t, none⟩ = some (.int .i64 (cn s t k)) ∧ wr.frozen? ⟨n, t, none⟩ = false
def TwI (s : ByteArray) (w : World) (gk : Nat) (v : Value) (wr : World) : Prop :=
  ∃ k, k + gk = s.size ∧ v = .int .i64 (bfw s k) ∧ wr.heap[w.heap.size + 1]? = some (.stringIter s k) ∧ Cnt w.heap.size s k wr ∧ Below w.heap.size w wr ∧ ∀ i, ∀ h : i < s.size, i < k → isSg (s[i]'h)
theorem ix_sign {c : UInt8} (h : isSg c) : Lib.indexByte (⟨#[101, 110, 119, 115]⟩ : ByteArray).data.toList c = (wy c : Int) := by
  rcases h with e | e | e | e <;> subst e <;> decide
theorem sg_notR {c : UInt8} (h : ¬ isSg c) : c ∉ (⟨#[101, 110, 119, 115]⟩ : ByteArray).data.toList := by
  intro m
  simp only [List.mem_cons, List.not_mem_nil, or_false] at m
  unfold isSg at h
  rcases m with e | e | e | e <;> simp [e] at h
theorem noSgR {c : UInt8} {r : Int} (h : ¬ isSg c) {q k : Nat} (hr : (((c.toNat < 128 ∧ r = (c.toNat : Int)) ∧ q = k + 1) ∨ (128 ≤ c.toNat ∧ 128 ≤ r ∧ Lib.validRune r = true))) : NoSg (⟨#[101, 110, 119, 115]⟩ : ByteArray).data.toList r := by
  rcases hr with ⟨⟨h1, h2⟩, _⟩ | ⟨_, h1, h2⟩
  · exact .inl ⟨c, h2, h1, sg_notR h⟩
  · exact .inr ⟨h1, h2⟩
theorem next_at_at {P : Program} (w : World) (b : Nat) (s : ByteArray) (k : Nat) (hk : w.heap[b]? = some (.stringIter s k)) (h : k < s.size) : ∃ (r : Int) (q : Nat), (∀ ty, (Instr.next (.pointer (some ⟨b, 0, none⟩)) true ty).run P w = .ok (.tuple #[.bool true, .int .i64 k, .int .i32 r]) (w.iterAt b s q)) ∧
    ((((s[k]'h).toNat < 128 ∧ r = ((s[k]'h).toNat : Int)) ∧ q = k + 1) ∨ (128 ≤ (s[k]'h).toNat ∧ 128 ≤ r ∧ Lib.validRune r = true)) := by
  by_cases c : (s[k]'h).toNat < 128
  · exact ⟨_, k + 1, fun ty => Lib.run_next_ascii_at w b s k ty hk h c, .inl ⟨⟨c, rfl⟩, rfl⟩⟩
  · have hd := decode_high s k h (by omega)
    exact ⟨_, _, fun ty => Lib.run_next_any_at w b s k ty hk h, .inr ⟨by omega, by have := hd.1; omega, decode_val s k⟩⟩
theorem Cnt.step {n b : Nat} {s : ByteArray} {k : Nat} {wr : World} (h : Cnt n s k wr) (hb : n ≠ b) (hk : 1 ≤ k) (hT : tn s k < 4) (p : Nat) :
    Cnt n s (k + 1) ((wr.iterAt b s p).setCell ⟨n, tn s k, none⟩ (.int .i64 ((cn s (tn s k) k : Int) + 1))) := by
  intro t ht
  obtain ⟨h1, h2⟩ := h t ht
  refine ⟨?_, by rw [World.frozen?_setCell, frozen_iterAt _ _ _ _ _ _ hb]; exact h2⟩
  rw [cn_s s t k hk]
  by_cases e : tn s k = t
  · subst e
    rw [World.cell?_setCell_same _ _ _ (u := .int .i64 (cn s (tn s k) k)) (by rw [cell_iterAt _ _ _ _ _ _ hb]; exact h1)]
    simp
  · rw [World.cell?_setCell_other _ _ _ _ (by intro q; injection q with _ q2 _; exact e q2), cell_iterAt _ _ _ _ _ _ hb, h1]
    simp [e]
theorem Cnt.first {n b : Nat} {s : ByteArray} {wr : World} (h : Cnt n s 0 wr) (hb : n ≠ b) (p : Nat) : Cnt n s 1 (wr.iterAt b s p) := by
  intro t ht
  obtain ⟨h1, h2⟩ := h t ht
  rw [cell_iterAt _ _ _ _ _ _ hb, frozen_iterAt _ _ _ _ _ _ hb, cn_one]
  exact ⟨h1, h2⟩
set_option maxRecDepth 100000 in
set_option maxHeartbeats 1600000 in
theorem Try.iTurnsOfWord (w : World) (s : ByteArray) (hs : s.size ≤ maxLen) (b : Bool) (hb : b = true ↔ TwP s) (l r : Int) (hlv : twV s b 1 = l) (hrv : twV s b 3 = r) :
    Calls Try.prog 7 #[.string s] w fun e w' => e = .returned (.tuple #[.int .i64 l, .int .i64 r, .bool b]) ∧ Below w.heap.size w w' := by
  have mixed : Try.prog.follows .mixedOrders = true := by kernel_rfl
  unfold maxLen at hs
  have HB := Lib.hid hb
  have HLV := Lib.hid hlv
  have HRV := Lib.hid hrv
  by_cases hl : s.size ≤ 100
  · clear hb hlv hrv
    go_enter Try.func7, Try.ntmps7
    go_wp2_with fail
    go_loopg [6] s.size (fun gk v wr => TwI s w gk v wr)
    case atStart =>
      refine ⟨0, by omega, rfl, ?_, fun t ht => ?_, Gr.below (by repeat (first | exact Gr.refl _ | refine Gr.alloc ?_ _ | refine Gr.trans ?_ (by assumption) | refine Gr.drew ?_ | refine Gr.drewN ?_ _ | refine Gr.grow ?_ _ | refine Gr.setCell ?_ (by (try simp); (try omega)) _)), fun i _ h => by omega⟩
      · have := heap_alloc_new (w.alloc (.cells #[.int .i64 0, .int .i64 0, .int .i64 0, .int .i64 0] 46)) (.stringIter s 0)
        simpa [World.iter] using this
      · rcases (show t = 0 ∨ t = 1 ∨ t = 2 ∨ t = 3 by omega) with rfl | rfl | rfl | rfl <;> exact ⟨by simp [go_sem, World.iter, cn], by simp [go_sem, World.iter]⟩
    case round =>
      obtain ⟨k, hk, rfl, hit, hcnt, hbel, hall⟩ := hrel
      have HA := Lib.hid hall
      have HI := Lib.hid hit
      have HC := Lib.hid hcnt
      have HBL := Lib.hid hbel
      have szr := hbel.size
      by_cases hlt : k < s.size
      · by_cases hsg : isSg (s[k]'hlt)
        · have h128 := sg_lo hsg
          have hnx := fun ty => Lib.run_next_ascii_at (P := Try.prog) wr (w.heap.size + 1) s k ty hit hlt h128
          have HN := Lib.hid (show ∀ i, ∀ h : i < s.size, i < k + 1 → isSg (s[i]'h) from fun i h hi => by
            by_cases e : i = k
            · subst e; exact hsg
            · exact HA.out i h (by omega))
          have HX := Lib.hid (fun (W : World) => show Calls Try.prog 22 #[.string ⟨#[101, 110, 119, 115]⟩, .int .i32 ((s[k]'hlt).toNat : Int)] W (fun e w' => e = .returned (.int .i64 (wy (s[k]'hlt))) ∧ w' = W) from (Try.strings_IndexRune_ascii ⟨#[101, 110, 119, 115]⟩ ((s[k]'hlt).toNat : Int) W (by omega) (by omega)).mono (by
            rintro e w' ⟨he, hw⟩
            refine ⟨?_, hw⟩
            rw [he, show (((s[k]'hlt).toNat : Int)).toNat.toUInt8 = s[k]'hlt by simp, ix_sign hsg]))
          have HIT := Lib.hid (Lib.iterAt_heap wr (w.heap.size + 1) s k (k + 1) hit)
          have HBF := Lib.hid (show bfw s (k + 1) = wy (s[k]'hlt) by unfold bfw; rw [if_neg (by omega), Nat.add_sub_cancel, gB_eq s k hlt])
          have h0 := wy_lt (s[k]'hlt)
          rcases Nat.eq_zero_or_pos k with k0 | kpos
          · subst k0
            have HC1 := Lib.hid (hcnt.first (b := w.heap.size + 1) (by omega) 1)
            have HB1 := Lib.hid (Lib.below_iterAt hbel (k := w.heap.size + 1) (by omega) s 1)
            clear hall hcnt hbel hit hsg h128
            generalize wy (s[0]'hlt) = p0 at *
            generalize (s[0]'hlt).toNat = C0 at *
            go_wp2_with (first | (go_at_call 22; refine (HX.out _).mono ?_; rintro e w1 ⟨rfl, rfl⟩))
            go_roundg (gk - 1)
            case rel => exact ⟨1, by omega, by rw [HBF.out], HIT.out, HC1.out, HB1.out, HN.out⟩
            case measure => omega
          · have hml : k - 1 < s.size := by omega
            have hsm := HA.out (k - 1) hml (by omega)
            have h1 := wy_lt (s[k - 1]'hml)
            have HBK := Lib.hid (show bfw s k = wy (s[k - 1]'hml) by unfold bfw; rw [if_neg (by omega), gB_eq s (k - 1) hml])
            have HT := Lib.hid (show tn s k = (4 + wy (s[k]'hlt) - wy (s[k - 1]'hml)) % 4 by unfold tn; rw [gB_eq s k hlt, gB_eq s (k - 1) hml])
            have hTL := tn_lt s k
            have e1 := cell_iterAt wr (w.heap.size + 1) w.heap.size (tn s k) s (k + 1) (by omega)
            rw [(hcnt _ hTL).1] at e1
            have e2 := frozen_iterAt wr (w.heap.size + 1) w.heap.size (tn s k) s (k + 1) (by omega)
            rw [(hcnt _ hTL).2] at e2
            have cb := cn_le s (tn s k) k
            have HC1 := Lib.hid (hcnt.step (b := w.heap.size + 1) (by omega) kpos hTL (k + 1))
            have HB1 := Lib.hid ((Lib.below_iterAt hbel (k := w.heap.size + 1) (by omega) s (k + 1)).setCell (p := ⟨w.heap.size, tn s k, none⟩) (Nat.le_refl _) (.int .i64 ((cn s (tn s k) k : Int) + 1)))
            have d0 : decide ((0 : Int) < (k : Int)) = true := by simp; omega
            have d9 : decide (0 < k) = true := by simp; omega
            clear hall hcnt hbel hit hsg h128 hsm
            rw [HBK.out]
            generalize hT : tn s k = T at *
            have HTT := Lib.hid hT
            clear hT
            generalize cn s T k = cT at *
            generalize wy (s[k]'hlt) = p0 at *
            generalize wy (s[k - 1]'hml) = p1 at *
            generalize (s[k]'hlt).toNat = C0 at *
            have w1 : IntKind.i64.wrap ((p0 : Int) - (p1 : Int)) = (p0 : Int) - (p1 : Int) := IntWalk.i64_in _ (by omega)
            have w2 : IntKind.i64.wrap ((p0 : Int) - (p1 : Int) + 4) = (p0 : Int) - (p1 : Int) + 4 := IntWalk.i64_in _ (by omega)
            have tm : Int.tmod ((p0 : Int) - (p1 : Int) + 4) 4 = (T : Int) := by rw [HT.out, Int.tmod_eq_emod_of_nonneg (by omega)]; omega
            have z0 : (0 : Int) ≤ (T : Int) := by omega
            have z1 : (T : Int) < 4 := by omega
            go_wp2_with (first | (go_at_call 22; refine (HX.out _).mono ?_; rintro e w1 ⟨rfl, rfl⟩))
            go_roundg (gk - 1)
            case rel => exact ⟨k + 1, by omega, by rw [HBF.out], by rw [heap_setCell_other _ _ _ _ (by show w.heap.size + 1 ≠ w.heap.size; omega)]; exact HIT.out, HC1.out, HB1.out, HN.out⟩
            case measure => omega
        · obtain ⟨ru, q, hnx, hcase⟩ := next_at_at (P := Try.prog) wr (w.heap.size + 1) s k hit hlt
          have HBS := Lib.hid (fun (W : World) => Try.idxRune_no ⟨#[101, 110, 119, 115]⟩ (by
            intro i hi
            have hi4 : i < 4 := hi
            rcases (show i = 0 ∨ i = 1 ∨ i = 2 ∨ i = 3 by omega) with e | e | e | e <;> subst e
            · show (101 : UInt8).toNat < 128; decide
            · show (110 : UInt8).toNat < 128; decide
            · show (119 : UInt8).toNat < 128; decide
            · show (115 : UInt8).toNat < 128; decide) (by decide) ru (noSgR hsg hcase) W)
          have HF := Lib.hid (show b = false from not_trueU HB.out (fun c => hsg (c.2.1 k hlt)))
          have HL0 := Lib.hid (show l = 0 by rw [← HLV.out, HF.out]; rfl)
          have HR0 := Lib.hid (show r = 0 by rw [← HRV.out, HF.out]; rfl)
          have HB1 := Lib.hid (Lib.below_iterAt hbel (k := w.heap.size + 1) (by omega) s q)
          clear hsg hcase hall hcnt hbel hit
          generalize bfw s k = p1 at *
          go_wp2_with (first | (go_at_call 22; refine (HBS.out _).mono ?_; rintro e w1 ⟨rfl, hbW⟩))
          go_ret3
          exact ⟨by rw [HF.out, HL0.out, HR0.out]; rfl, HB1.out.trans (hbW.below.mono HB1.out.size)⟩
      · obtain rfl : k = s.size := by omega
        have hne := fun ty => Lib.run_next_end_at (P := Try.prog) wr (w.heap.size + 1) s s.size ty hit (by omega)
        obtain ⟨c1, f1⟩ := hcnt 1 (by omega)
        obtain ⟨c2, f2⟩ := hcnt 2 (by omega)
        obtain ⟨c3, f3⟩ := hcnt 3 (by omega)
        by_cases h2 : cn s 2 s.size = 0
        · have HF := Lib.hid (show b = true from HB.out.2 ⟨hl, fun i h => HA.out i h h, h2⟩)
          have HL0 := Lib.hid (show (cn s 1 s.size : Int) = l by rw [← HLV.out, HF.out]; rfl)
          have HR0 := Lib.hid (show (cn s 3 s.size : Int) = r by rw [← HRV.out, HF.out]; rfl)
          rw [h2] at c2
          clear hall hcnt hbel hit h2 f1 f2 f3
          have g1 := gr_all (Gr.refl _) c1
          have g3 := gr_all (Gr.refl _) c3
          generalize cn s 1 s.size = n1 at *
          generalize cn s 3 s.size = n3 at *
          generalize bfw s s.size = p1 at *
          go_wp2
          clear c1 c3
          (refine wp_region_quiet_grown mixed (by kernel_rfl) ?_; (repeat (first | go_big_quiet_step ((fail)) | quiet_step ((fail)))); refine wpQuiet_nil ?_; intro _ hw'; obtain ⟨⟨nq, osq⟩, hw''⟩ := hw'; subst hw'')
          clear g1 g3
          go_wp2
          go_ret3
          exact ⟨by rw [HF.out, ← HL0.out, ← HR0.out]; rfl, HBL.out.trans ((Gr.below (by repeat (first | exact Gr.refl _ | refine Gr.alloc ?_ _ | refine Gr.trans ?_ (by assumption) | refine Gr.drew ?_ | refine Gr.drewN ?_ _ | refine Gr.grow ?_ _ | refine Gr.setCell ?_ (by (try simp); (try omega)) _))).mono szr)⟩
        · have HF := Lib.hid (show b = false from not_trueU HB.out (fun c => h2 c.2.2))
          have HL0 := Lib.hid (show l = 0 by rw [← HLV.out, HF.out]; rfl)
          have HR0 := Lib.hid (show r = 0 by rw [← HRV.out, HF.out]; rfl)
          have z2 : (0 : Int) < (cn s 2 s.size : Int) := by omega
          clear hall hcnt hbel hit h2 f1 f2 f3 c1 c3
          generalize cn s 2 s.size = n2 at *
          generalize bfw s s.size = p1 at *
          go_wp2
          go_ret3
          exact ⟨by rw [HF.out, HL0.out, HR0.out]; rfl, HBL.out⟩
  · have HF := Lib.hid (show b = false from not_trueU hb (fun c => hl c.1))
    have HL0 := Lib.hid (show l = 0 by rw [← HLV.out, HF.out]; rfl)
    have HR0 := Lib.hid (show r = 0 by rw [← HRV.out, HF.out]; rfl)
    clear hb hlv hrv
    go_enter Try.func7, Try.ntmps7
    go_wp2
    go_ret3
    exact ⟨by rw [HF.out, HL0.out, HR0.out]; rfl, Gr.below (by repeat (first | exact Gr.refl _ | refine Gr.alloc ?_ _ | refine Gr.trans ?_ (by assumption) | refine Gr.drew ?_ | refine Gr.drewN ?_ _ | refine Gr.grow ?_ _ | refine Gr.setCell ?_ (by (try simp); (try omega)) _))⟩
end Go.Proofs
