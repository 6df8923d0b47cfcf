/-
  Chapter 6: streets and avenues that go around: of ways, and of a block, both functions.
-/
import Derived.Test.YtcmjckipicmmeaaDoorOwG
namespace Go.Proofs
open Go.RowKit
set_option linter.unusedVariables false
set_option linter.unusedSimpArgs false
theorem ba_inj (s t : ByteArray) : (s.toList = t.toList) = (s = t) := propext ⟨fun e => by
  rw [Lib.toList_data, Lib.toList_data] at e
  exact ByteArray.ext (Array.ext' e), fun e => by rw [e]⟩
theorem ba_toList (s t : ByteArray) : (s.toList == t.toList) = decide (s = t) := by
  by_cases h : s = t
  · subst h; simp
  · rw [decide_eq_false h]
    have : s.toList ≠ t.toList := fun e => h (by
      rw [Lib.toList_data, Lib.toList_data] at e
      exact ByteArray.ext (Array.ext' e))
    simpa using this
theorem two_eq (a b c d : UInt8) : decide ((⟨#[a, b]⟩ : ByteArray) = ⟨#[c, d]⟩) = decide (a = c ∧ b = d) := by
  have : ((⟨#[a, b]⟩ : ByteArray) = ⟨#[c, d]⟩) ↔ (a = c ∧ b = d) := by
    constructor
    · intro h
      have := congrArg (fun x : ByteArray => x.data.toList) h
      simpa using this
    · rintro ⟨rfl, rfl⟩; rfl
  exact decide_eq_decide.2 this
theorem Tryd.fieldsW : Tryd.prog.underlying 26 = some (.struct (Tryd.prog.fieldsOf 26)) := by kernel_rfl
theorem Tryd.eqlW (s a s' a' : ByteArray) (w : World) : Sem.run Tryd.prog (Op.equalIn 10000 26 (.agg #[.string s, .string a]) (.agg #[.string s', .string a'])) w = .ok (decide (s = s') && decide (a = a')) w := by
  have u3 := Tryd.underlying9
  have := run_equalIn_agg (P := Tryd.prog) (w := w) 9999 26 #[.string s, .string a] #[.string s', .string a'] Tryd.fieldsW (by kernel_rfl)
  rw [show (10000 : Nat) = 9999 + 1 from rfl, this]
  have h0 := Tryd.fieldsW
  rw [Tryd.underlying26] at h0
  simp only [Option.some.injEq, TypeDesc.struct.injEq] at h0
  rw [← h0]
  have hc : Tryd.prog.cellsOf 9 = 1 := by kernel_rfl
  have z9 := Tryd.sizeOf9
  have a9 := Tryd.isAgg9
  simp only [Op.eqFields]
  go_simp
  simp only [ba_inj]
  by_cases h1 : s = s' <;> by_cases h2 : a = a' <;> simp [h1, h2]
/-- two cells that are kept -/
theorem ks {w w' : World} {b : Nat} {x y : Value} (g : Gr w w') (h : w.cell? ⟨b, 0, none⟩ = some x ∧ w.cell? ⟨b, 1, none⟩ = some y) : w'.cell? ⟨b, 0, none⟩ = some x ∧ w'.cell? ⟨b, 1, none⟩ = some y := ⟨g.keep0 h.1, g.keep0 h.2⟩
theorem kset {w : World} {p : Addr} {u : Value} {b : Nat} {x y : Value} (h : w.cell? ⟨b, 0, none⟩ = some x ∧ w.cell? ⟨b, 1, none⟩ = some y) (hb : b ≠ p.block) : (w.setCell p u).cell? ⟨b, 0, none⟩ = some x ∧ (w.setCell p u).cell? ⟨b, 1, none⟩ = some y := by
  have e : ∀ o, (w.setCell p u).cell? ⟨b, o, none⟩ = w.cell? ⟨b, o, none⟩ := fun o => by
    unfold World.cell?
    rw [show (w.setCell p u).heap[b]? = w.heap[b]? from heap_setCell_other w p b u hb]
  rw [e, e]; exact h
set_option maxRecDepth 100000 in
set_option maxHeartbeats 1600000 in
theorem Tryd.roundOf (w : World) (p0 p1 q0 q1 : UInt8) :
    Calls Tryd.prog 51 #[.agg #[.string ⟨#[p0, p1]⟩, .string ⟨#[q0, q1]⟩]] w fun e w' => e = .returned (.int .i64 (rg p0 p1 q0 q1)) ∧ Gr w w' := by
  have mixed : Tryd.prog.follows .mixedOrders = true := by kernel_rfl
  have HT1 := Lib.hid (fun (W : World) => show Calls Tryd.prog 57 #[.string ⟨#[101, 119]⟩] W (fun e w' => e = .returned (.string ⟨#[119, 101]⟩) ∧ Gr W w') from Tryd.turned W ⟨#[101, 119]⟩ (by decide) (okT_sg (p := 101) (q := 119) (by decide) sgE sgW))
  have HT2 := Lib.hid (fun (W : World) => show Calls Tryd.prog 57 #[.string ⟨#[115, 110]⟩] W (fun e w' => e = .returned (.string ⟨#[110, 115]⟩) ∧ Gr W w') from Tryd.turned W ⟨#[115, 110]⟩ (by decide) (okT_sg (p := 110) (q := 115) (by decide) sgN sgS))
  have hE := Tryd.eqlW
  obtain ⟨W2, hW2⟩ : ∃ W, ((w.alloc (.cells #[.string ⟨#[p0, p1]⟩, .string ⟨#[q0, q1]⟩] 26)).alloc (.cells #[.string ⟨#[101, 119]⟩, .string ⟨#[115, 110]⟩] 26)) = W := ⟨_, rfl⟩
  have c0 : W2.cell? ⟨w.heap.size, 0, none⟩ = some (.string ⟨#[p0, p1]⟩) := by subst hW2; simp [go_sem]
  have c1 : W2.cell? ⟨w.heap.size, 1, none⟩ = some (.string ⟨#[q0, q1]⟩) := by subst hW2; simp [go_sem]
  have c2 : W2.cell? ⟨w.heap.size + 1, 0, none⟩ = some (.string ⟨#[101, 119]⟩) := by subst hW2; simp [go_sem]
  have c3 : W2.cell? ⟨w.heap.size + 1, 1, none⟩ = some (.string ⟨#[115, 110]⟩) := by subst hW2; simp [go_sem]
  have sz : w.heap.size + 1 < W2.heap.size := by subst hW2; simp
  have GG := Lib.hid (show Gr w W2 by subst hW2; exact by repeat (first | exact Gr.refl _ | refine Gr.alloc ?_ _ | refine Gr.trans ?_ (by assumption) | refine Gr.drew ?_ | refine Gr.drewN ?_ _ | refine Gr.grow ?_ _ | refine Gr.setCell ?_ (by (try simp); (try omega)) _))
  have r0 := gr_all (Gr.refl W2) c0
  have r1 := gr_all (Gr.refl W2) c1
  have r2 := gr_all (Gr.refl W2) c2
  have r3 := gr_all (Gr.refl W2) c3
  go_enter Tryd.func51, Tryd.ntmps51
  go_wp2_with fail
  have HS0 := And.intro c2 c3
  clear r0 r1 r2 r3
  go_region_held3 (fun W' => W'.cell? ⟨w.heap.size + 1, 0, none⟩ = some (.string ⟨#[101, 119]⟩) ∧ W'.cell? ⟨w.heap.size + 1, 1, none⟩ = some (.string ⟨#[115, 110]⟩))
    (first | assumption | (refine ks (Gr.drew (Gr.refl _)) ?_; assumption; done) | (refine ks (Gr.alloc (Gr.refl _) _) ?_; assumption; done) | (refine ks (Gr.drew (Gr.alloc (Gr.refl _) _)) ?_; assumption; done) | (refine ks (Gr.alloc (Gr.drew (Gr.refl _)) _) ?_; assumption; done) | (refine kset (kset ?_ ?_) ?_ <;> first | assumption | (simp; omega)) | (refine kset (kset (ks (Gr.alloc (Gr.refl _) _) ?_) ?_) ?_ <;> first | assumption | (simp; omega)))
    (first | (go_at_call_of 57 (Value.string ⟨#[101, 119]⟩); refine (HT1.out _).mono ?_; rintro e w1 ⟨rfl, g1⟩; have HS1 := ks (show Gr W2 w1 from (by repeat (first | exact Gr.refl _ | refine Gr.alloc ?_ _ | refine Gr.trans ?_ (by assumption) | refine Gr.drew ?_ | refine Gr.drewN ?_ _ | refine Gr.grow ?_ _ | refine Gr.setCell ?_ (by (try simp); (try omega)) _))) HS0; have hs1 := (show Gr W2 w1 from (by repeat (first | exact Gr.refl _ | refine Gr.alloc ?_ _ | refine Gr.trans ?_ (by assumption) | refine Gr.drew ?_ | refine Gr.drewN ?_ _ | refine Gr.grow ?_ _ | refine Gr.setCell ?_ (by (try simp); (try omega)) _))).below.size; have hc1 := (bcell g1.below).1; have hf1 := (bcell g1.below).2; (try have hz1 : W2.heap.size < w1.heap.size := by have hq := g1.below.size; simp at hq; omega)) | (go_at_call_of 57 (Value.string ⟨#[115, 110]⟩); refine (HT2.out _).mono ?_; rintro e w2 ⟨rfl, g2⟩; have HS2 := ks (show Gr w1 w2 from (by repeat (first | exact Gr.refl _ | refine Gr.alloc ?_ _ | refine Gr.trans ?_ (by assumption) | refine Gr.drew ?_ | refine Gr.drewN ?_ _ | refine Gr.grow ?_ _ | refine Gr.setCell ?_ (by (try simp); (try omega)) _))) HS1; have hs2 := (show Gr w1 w2 from (by repeat (first | exact Gr.refl _ | refine Gr.alloc ?_ _ | refine Gr.trans ?_ (by assumption) | refine Gr.drew ?_ | refine Gr.drewN ?_ _ | refine Gr.grow ?_ _ | refine Gr.setCell ?_ (by (try simp); (try omega)) _))).below.size; have hc2 := (bcell g2.below).1; have hf2 := (bcell g2.below).2; (try have hz2 : W2.heap.size < w2.heap.size := by have hq := g2.below.size; simp at hq; omega); (try have hz3 : w1.heap.size < w2.heap.size := by have hq := g2.below.size; simp at hq; omega)))
  all_goals
    have HF := Lib.hid (show rg p0 p1 q0 q1 = if (decide ((⟨#[p0, p1]⟩ : ByteArray) = ⟨#[101, 119]⟩) && decide ((⟨#[q0, q1]⟩ : ByteArray) = ⟨#[115, 110]⟩)) = true then 1 else if (decide ((⟨#[p0, p1]⟩ : ByteArray) = ⟨#[119, 101]⟩) && decide ((⟨#[q0, q1]⟩ : ByteArray) = ⟨#[110, 115]⟩)) = true then -1 else 0 by
      rw [two_eq, two_eq, two_eq, two_eq]
      unfold rg
      simp only [Bool.and_eq_true, decide_eq_true_eq, and_assoc])
    have hE1 := fun W => hE ⟨#[p0, p1]⟩ ⟨#[q0, q1]⟩ ⟨#[101, 119]⟩ ⟨#[115, 110]⟩ W
    have hE2 := fun W => hE ⟨#[p0, p1]⟩ ⟨#[q0, q1]⟩ ⟨#[119, 101]⟩ ⟨#[110, 115]⟩ W
    have f1 := HF.out
    clear hE HF hW2
    generalize (decide ((⟨#[p0, p1]⟩ : ByteArray) = ⟨#[101, 119]⟩) && decide ((⟨#[q0, q1]⟩ : ByteArray) = ⟨#[115, 110]⟩)) = b1 at *
    generalize (decide ((⟨#[p0, p1]⟩ : ByteArray) = ⟨#[119, 101]⟩) && decide ((⟨#[q0, q1]⟩ : ByteArray) = ⟨#[110, 115]⟩)) = b2 at *
    have F1 := Lib.hid f1
    clear f1
  · obtain ⟨X, hX⟩ : ∃ X, (w2.alloc (.cells #[.string ⟨#[119, 101]⟩, .string ⟨#[110, 115]⟩] 26)) = X := ⟨_, rfl⟩
    simp only [hX]
    have gX : Gr W2 X := by (rw [← hX]; exact Gr.alloc (show Gr W2 w2 from (by repeat (first | exact Gr.refl _ | refine Gr.alloc ?_ _ | refine Gr.trans ?_ (by assumption) | refine Gr.drew ?_ | refine Gr.drewN ?_ _ | refine Gr.grow ?_ _ | refine Gr.setCell ?_ (by (try simp); (try omega)) _))) _)
    have y0 : X.cell? ⟨w2.heap.size, 0, none⟩ = some (.string ⟨#[119, 101]⟩) := by (rw [← hX]; simp [go_sem])
    have y1 : X.cell? ⟨w2.heap.size, 1, none⟩ = some (.string ⟨#[110, 115]⟩) := by (rw [← hX]; simp [go_sem])
    have hXs : w2.heap.size < X.heap.size := by (rw [← hX]; simp)
    clear hX
    have x0 := gX.keep0 c0
    have x1 := gX.keep0 c1
    have x2 := gX.keep0 c2
    have x3 := gX.keep0 c3
    have hz0 := gX.below.size
    have hz9 : w.heap.size < X.heap.size := by omega
    have hz8 : w.heap.size + 1 < X.heap.size := by omega
    have GX := Lib.hid (GG.out.trans gX)
    clear gX c0 c1 c2 c3 HS0
    cases b1 <;> cases b2 <;> (go_wp2_with fail; go_ret; exact ⟨congrArg (fun z => Ending.returned (Value.int .i64 z)) (by rw [F1.out]; rfl), GX.out⟩)
  · obtain ⟨X, hX⟩ : ∃ X, ((w2.setCell ⟨w1.heap.size, 0, none⟩ (.string ⟨#[119, 101]⟩)).setCell ⟨w1.heap.size, 1, none⟩ (.string ⟨#[110, 115]⟩)) = X := ⟨_, rfl⟩
    simp only [hX]
    have b0 : w2.cell? ⟨w1.heap.size, 0, none⟩ = some (.string ⟨#[]⟩) := g2.keep0 (by simp [go_sem])
    have b1 : w2.cell? ⟨w1.heap.size, 1, none⟩ = some (.string ⟨#[]⟩) := g2.keep0 (by simp [go_sem])
    have gX : Gr W2 X := by (rw [← hX]; exact Gr.setCell (Gr.setCell (show Gr W2 w2 from (by repeat (first | exact Gr.refl _ | refine Gr.alloc ?_ _ | refine Gr.trans ?_ (by assumption) | refine Gr.drew ?_ | refine Gr.drewN ?_ _ | refine Gr.grow ?_ _ | refine Gr.setCell ?_ (by (try simp); (try omega)) _))) (by (try simp) <;> omega) _) (by (try simp) <;> omega) _)
    obtain ⟨y0, y1⟩ := two_set b0 b1 (.string ⟨#[119, 101]⟩) (.string ⟨#[110, 115]⟩)
    rw [hX] at y0 y1
    have hXs : w1.heap.size < X.heap.size := World.block_lt_of_cell? _ _ y0
    clear b0 b1
    clear hX
    have x0 := gX.keep0 c0
    have x1 := gX.keep0 c1
    have x2 := gX.keep0 c2
    have x3 := gX.keep0 c3
    have hz0 := gX.below.size
    have hz9 : w.heap.size < X.heap.size := by omega
    have hz8 : w.heap.size + 1 < X.heap.size := by omega
    have GX := Lib.hid (GG.out.trans gX)
    clear gX c0 c1 c2 c3 HS0
    cases b1 <;> cases b2 <;> (go_wp2_with fail; go_ret; exact ⟨congrArg (fun z => Ending.returned (Value.int .i64 z)) (by rw [F1.out]; rfl), GX.out⟩)
  · obtain ⟨X, hX⟩ : ∃ X, ((w2.setCell ⟨W2.heap.size, 0, none⟩ (.string ⟨#[119, 101]⟩)).setCell ⟨W2.heap.size, 1, none⟩ (.string ⟨#[110, 115]⟩)) = X := ⟨_, rfl⟩
    simp only [hX]
    have b0 : w2.cell? ⟨W2.heap.size, 0, none⟩ = some (.string ⟨#[]⟩) := Gr.keep0 (w := W2.drew.alloc (.cells #[.string ⟨#[]⟩, .string ⟨#[]⟩] 26)) (g1.trans (show Gr w1 w2 from (by repeat (first | exact Gr.refl _ | refine Gr.alloc ?_ _ | refine Gr.trans ?_ (by assumption) | refine Gr.drew ?_ | refine Gr.drewN ?_ _ | refine Gr.grow ?_ _ | refine Gr.setCell ?_ (by (try simp); (try omega)) _)))) (by simp [go_sem])
    have b1 : w2.cell? ⟨W2.heap.size, 1, none⟩ = some (.string ⟨#[]⟩) := Gr.keep0 (w := W2.drew.alloc (.cells #[.string ⟨#[]⟩, .string ⟨#[]⟩] 26)) (g1.trans (show Gr w1 w2 from (by repeat (first | exact Gr.refl _ | refine Gr.alloc ?_ _ | refine Gr.trans ?_ (by assumption) | refine Gr.drew ?_ | refine Gr.drewN ?_ _ | refine Gr.grow ?_ _ | refine Gr.setCell ?_ (by (try simp); (try omega)) _)))) (by simp [go_sem])
    have gX : Gr W2 X := by (rw [← hX]; exact Gr.setCell (Gr.setCell (show Gr W2 w2 from (by repeat (first | exact Gr.refl _ | refine Gr.alloc ?_ _ | refine Gr.trans ?_ (by assumption) | refine Gr.drew ?_ | refine Gr.drewN ?_ _ | refine Gr.grow ?_ _ | refine Gr.setCell ?_ (by (try simp); (try omega)) _))) (by (try simp) <;> omega) _) (by (try simp) <;> omega) _)
    obtain ⟨y0, y1⟩ := two_set b0 b1 (.string ⟨#[119, 101]⟩) (.string ⟨#[110, 115]⟩)
    rw [hX] at y0 y1
    have hXs : W2.heap.size < X.heap.size := World.block_lt_of_cell? _ _ y0
    clear b0 b1
    clear hX
    have x0 := gX.keep0 c0
    have x1 := gX.keep0 c1
    have x2 := gX.keep0 c2
    have x3 := gX.keep0 c3
    have hz0 := gX.below.size
    have hz9 : w.heap.size < X.heap.size := by omega
    have hz8 : w.heap.size + 1 < X.heap.size := by omega
    have GX := Lib.hid (GG.out.trans gX)
    clear gX c0 c1 c2 c3 HS0
    cases b1 <;> cases b2 <;> (go_wp2_with fail; go_ret; exact ⟨congrArg (fun z => Ending.returned (Value.int .i64 z)) (by rw [F1.out]; rfl), GX.out⟩)
def ringB (s a : ByteArray) : Bool := rgB (gb s 0) (gb s (s.size - 1)) (gb a 0) (gb a (a.size - 1))
set_option maxRecDepth 100000 in
set_option maxHeartbeats 1600000 in
theorem Tryd.iHasRing (w : World) (s a : ByteArray) (hs : s.size ≤ maxLen) (ha : a.size ≤ maxLen) (b v : Bool) (hb : okW s a = b) (hv : (b && ringB s a) = v) :
    Calls Tryd.prog 26 #[.agg #[.string s, .string a]] w fun e w' => e = .returned (.tuple #[.bool v, .bool b]) ∧ Gr w w' := by
  have mixed : Tryd.prog.follows .mixedOrders = true := by kernel_rfl
  have H1 := Lib.hid (fun (W : World) => Tryd.iAreWays W s a hs ha b hb)
  subst hv
  cases b
  · simp only [Bool.false_and]
    clear hs ha hb
    go_enter Tryd.func26, Tryd.ntmps26
    go_wp2_with (first | (go_at_call 16; refine (H1.out _).mono ?_; rintro e w1 ⟨rfl, hbW⟩; have hcW := (bcell hbW.below).1; have hfW := (bcell hbW.below).2; (try have hzW : w.heap.size < w1.heap.size := by have hq := hbW.below.size; (try simp at hq); omega); (try have hyW : w.heap.size + 1 < w1.heap.size := by have hq := hbW.below.size; (try simp at hq); omega); (try have hxW : w.heap.size + 2 < w1.heap.size := by have hq := hbW.below.size; (try simp at hq); omega)))
    go_ret2
    exact ⟨rfl, by repeat (first | exact Gr.refl _ | refine Gr.alloc ?_ _ | refine Gr.trans ?_ (by assumption) | refine Gr.drew ?_ | refine Gr.drewN ?_ _ | refine Gr.grow ?_ _ | refine Gr.setCell ?_ (by (try simp); (try omega)) _)⟩
  · obtain ⟨h1, h2⟩ := okW_and hb
    have HO1 := Lib.hid (fun (W : World) => Tryd.outermost W s (okT_len h1))
    have HO2 := Lib.hid (fun (W : World) => Tryd.outermost W a (okT_len h2))
    rw [omB_eq s (okT_len h1).1, gb_eq, gb_eq] at HO1
    rw [omB_eq a (okT_len h2).1, gb_eq, gb_eq] at HO2
    simp only [Bool.true_and]
    have HR := Lib.hid (fun (W : World) => Tryd.roundOf W (gb s 0) (gb s (s.size - 1)) (gb a 0) (gb a (a.size - 1)))
    have HV := Lib.hid (show (rg (gb s 0) (gb s (s.size - 1)) (gb a 0) (gb a (a.size - 1)) != 0) = ringB s a by unfold ringB rgB; generalize rg (gb s 0) (gb s (s.size - 1)) (gb a 0) (gb a (a.size - 1)) = r; by_cases hr : r = 0 <;> simp [hr])
    generalize rg (gb s 0) (gb s (s.size - 1)) (gb a 0) (gb a (a.size - 1)) = r at *
    generalize gb s 0 = p0 at *
    generalize gb s (s.size - 1) = p1 at *
    generalize gb a 0 = q0 at *
    generalize gb a (a.size - 1) = q1 at *
    generalize ringB s a = v at *
    clear hs ha hb h1 h2
    go_enter Tryd.func26, Tryd.ntmps26
    go_wp2_with (first | (go_at_call 16; refine (H1.out _).mono ?_; rintro e wA ⟨rfl, gA⟩))
    have HS0 := ks gA (b := w.heap.size) (x := .string s) (y := .string a) ⟨by simp [go_sem], by simp [go_sem]⟩
    have szA : w.heap.size < wA.heap.size := World.block_lt_of_cell? _ _ HS0.1
    go_region_held3 (fun W' => W'.cell? ⟨w.heap.size, 0, none⟩ = some (.string s) ∧ W'.cell? ⟨w.heap.size, 1, none⟩ = some (.string a))
      (first | assumption | (refine ks (Gr.drew (Gr.refl _)) ?_; assumption; done) | (refine ks (Gr.alloc (Gr.refl _) _) ?_; assumption; done) | (refine ks (Gr.drew (Gr.alloc (Gr.refl _) _)) ?_; assumption; done) | (refine ks (Gr.alloc (Gr.drew (Gr.refl _)) _) ?_; assumption; done) | (refine kset (kset ?_ ?_) ?_ <;> first | assumption | (simp; omega)) | (refine kset (kset (ks (Gr.alloc (Gr.refl _) _) ?_) ?_) ?_ <;> first | assumption | (simp; omega)))
      (first | (go_at_call_of 50 (Value.string s); refine (HO1.out _).mono ?_; rintro e w1 ⟨rfl, g1⟩; have HS1 := ks (show Gr wA w1 from (by repeat (first | exact Gr.refl _ | refine Gr.alloc ?_ _ | refine Gr.trans ?_ (by assumption) | refine Gr.drew ?_ | refine Gr.drewN ?_ _ | refine Gr.grow ?_ _ | refine Gr.setCell ?_ (by (try simp); (try omega)) _))) HS0; have hs1 := (show Gr wA w1 from (by repeat (first | exact Gr.refl _ | refine Gr.alloc ?_ _ | refine Gr.trans ?_ (by assumption) | refine Gr.drew ?_ | refine Gr.drewN ?_ _ | refine Gr.grow ?_ _ | refine Gr.setCell ?_ (by (try simp); (try omega)) _))).below.size; have hc1 := (bcell g1.below).1; have hf1 := (bcell g1.below).2; (try have hz1 : wA.heap.size < w1.heap.size := by have hq := g1.below.size; simp at hq; omega)) | (go_at_call_of 50 (Value.string a); refine (HO2.out _).mono ?_; rintro e w2 ⟨rfl, g2⟩; have HS2 := ks (show Gr w1 w2 from (by repeat (first | exact Gr.refl _ | refine Gr.alloc ?_ _ | refine Gr.trans ?_ (by assumption) | refine Gr.drew ?_ | refine Gr.drewN ?_ _ | refine Gr.grow ?_ _ | refine Gr.setCell ?_ (by (try simp); (try omega)) _))) HS1; have hs2 := (show Gr w1 w2 from (by repeat (first | exact Gr.refl _ | refine Gr.alloc ?_ _ | refine Gr.trans ?_ (by assumption) | refine Gr.drew ?_ | refine Gr.drewN ?_ _ | refine Gr.grow ?_ _ | refine Gr.setCell ?_ (by (try simp); (try omega)) _))).below.size; have hc2 := (bcell g2.below).1; have hf2 := (bcell g2.below).2; (try have hz2 : wA.heap.size < w2.heap.size := by have hq := g2.below.size; simp at hq; omega); (try have hz3 : w1.heap.size < w2.heap.size := by have hq := g2.below.size; simp at hq; omega)))
    · obtain ⟨X, hX⟩ : ∃ X, (w2.alloc (.cells #[.string ⟨#[p0, p1]⟩, .string ⟨#[q0, q1]⟩] 26)) = X := ⟨_, rfl⟩
      simp only [hX]
      have gX : Gr wA X := by (rw [← hX]; exact Gr.alloc (show Gr wA w2 from (by repeat (first | exact Gr.refl _ | refine Gr.alloc ?_ _ | refine Gr.trans ?_ (by assumption) | refine Gr.drew ?_ | refine Gr.drewN ?_ _ | refine Gr.grow ?_ _ | refine Gr.setCell ?_ (by (try simp); (try omega)) _))) _)
      have y0 : X.cell? ⟨w2.heap.size, 0, none⟩ = some (.string ⟨#[p0, p1]⟩) := by (rw [← hX]; simp [go_sem])
      have y1 : X.cell? ⟨w2.heap.size, 1, none⟩ = some (.string ⟨#[q0, q1]⟩) := by (rw [← hX]; simp [go_sem])
      have hXs : w2.heap.size < X.heap.size := by (rw [← hX]; simp)
      clear hX
      have hzX := gX.below.size
      have GX := Lib.hid gX
      clear gX HS0
      go_wp2_with (first | (go_at_call 51; refine (HR.out _).mono ?_; rintro e w3 ⟨rfl, g3⟩))
      go_ret2
      exact ⟨congrArg (fun z => Ending.returned (Value.tuple #[.bool z, .bool true])) HV.out, Gr.trans (Gr.alloc (Gr.refl _) _) (gA.trans (GX.out.trans g3))⟩
    · obtain ⟨X, hX⟩ : ∃ X, ((w2.setCell ⟨w1.heap.size, 0, none⟩ (.string ⟨#[p0, p1]⟩)).setCell ⟨w1.heap.size, 1, none⟩ (.string ⟨#[q0, q1]⟩)) = X := ⟨_, rfl⟩
      simp only [hX]
      have b0 : w2.cell? ⟨w1.heap.size, 0, none⟩ = some (.string ⟨#[]⟩) := g2.keep0 (by simp [go_sem])
      have b1 : w2.cell? ⟨w1.heap.size, 1, none⟩ = some (.string ⟨#[]⟩) := g2.keep0 (by simp [go_sem])
      have gX : Gr wA X := by (rw [← hX]; exact Gr.setCell (Gr.setCell (show Gr wA w2 from (by repeat (first | exact Gr.refl _ | refine Gr.alloc ?_ _ | refine Gr.trans ?_ (by assumption) | refine Gr.drew ?_ | refine Gr.drewN ?_ _ | refine Gr.grow ?_ _ | refine Gr.setCell ?_ (by (try simp); (try omega)) _))) (by (try simp) <;> omega) _) (by (try simp) <;> omega) _)
      obtain ⟨y0, y1⟩ := two_set b0 b1 (.string ⟨#[p0, p1]⟩) (.string ⟨#[q0, q1]⟩)
      rw [hX] at y0 y1
      have hXs : w1.heap.size < X.heap.size := World.block_lt_of_cell? _ _ y0
      clear b0 b1
      clear hX
      have hzX := gX.below.size
      have GX := Lib.hid gX
      clear gX HS0
      go_wp2_with (first | (go_at_call 51; refine (HR.out _).mono ?_; rintro e w3 ⟨rfl, g3⟩))
      go_ret2
      exact ⟨congrArg (fun z => Ending.returned (Value.tuple #[.bool z, .bool true])) HV.out, Gr.trans (Gr.alloc (Gr.refl _) _) (gA.trans (GX.out.trans g3))⟩
    · obtain ⟨X, hX⟩ : ∃ X, ((w2.setCell ⟨wA.heap.size, 0, none⟩ (.string ⟨#[p0, p1]⟩)).setCell ⟨wA.heap.size, 1, none⟩ (.string ⟨#[q0, q1]⟩)) = X := ⟨_, rfl⟩
      simp only [hX]
      have b0 : w2.cell? ⟨wA.heap.size, 0, none⟩ = some (.string ⟨#[]⟩) := Gr.keep0 (w := wA.drew.alloc (.cells #[.string ⟨#[]⟩, .string ⟨#[]⟩] 26)) (g1.trans (show Gr w1 w2 from (by repeat (first | exact Gr.refl _ | refine Gr.alloc ?_ _ | refine Gr.trans ?_ (by assumption) | refine Gr.drew ?_ | refine Gr.drewN ?_ _ | refine Gr.grow ?_ _ | refine Gr.setCell ?_ (by (try simp); (try omega)) _)))) (by simp [go_sem])
      have b1 : w2.cell? ⟨wA.heap.size, 1, none⟩ = some (.string ⟨#[]⟩) := Gr.keep0 (w := wA.drew.alloc (.cells #[.string ⟨#[]⟩, .string ⟨#[]⟩] 26)) (g1.trans (show Gr w1 w2 from (by repeat (first | exact Gr.refl _ | refine Gr.alloc ?_ _ | refine Gr.trans ?_ (by assumption) | refine Gr.drew ?_ | refine Gr.drewN ?_ _ | refine Gr.grow ?_ _ | refine Gr.setCell ?_ (by (try simp); (try omega)) _)))) (by simp [go_sem])
      have gX : Gr wA X := by (rw [← hX]; exact Gr.setCell (Gr.setCell (show Gr wA w2 from (by repeat (first | exact Gr.refl _ | refine Gr.alloc ?_ _ | refine Gr.trans ?_ (by assumption) | refine Gr.drew ?_ | refine Gr.drewN ?_ _ | refine Gr.grow ?_ _ | refine Gr.setCell ?_ (by (try simp); (try omega)) _))) (by (try simp) <;> omega) _) (by (try simp) <;> omega) _)
      obtain ⟨y0, y1⟩ := two_set b0 b1 (.string ⟨#[p0, p1]⟩) (.string ⟨#[q0, q1]⟩)
      rw [hX] at y0 y1
      have hXs : wA.heap.size < X.heap.size := World.block_lt_of_cell? _ _ y0
      clear b0 b1
      clear hX
      have hzX := gX.below.size
      have GX := Lib.hid gX
      clear gX HS0
      go_wp2_with (first | (go_at_call 51; refine (HR.out _).mono ?_; rintro e w3 ⟨rfl, g3⟩))
      go_ret2
      exact ⟨congrArg (fun z => Ending.returned (Value.tuple #[.bool z, .bool true])) HV.out, Gr.trans (Gr.alloc (Gr.refl _) _) (gA.trans (GX.out.trans g3))⟩
set_option maxHeartbeats 800000 in
theorem Tryd.sHasRing (w : World) (s a : ByteArray) (hs : s.size ≤ maxLen) (ha : a.size ≤ maxLen) (b v : Bool) (hb : okW s a = b) (hv : (b && ringB s a) = v) :
    Calls Tryd.prog 25 #[.agg #[.string s, .string a]] w fun e w' => e = .returned (.tuple #[.bool v, .bool b]) ∧ Gr w w' := by
  have H1 := Lib.hid (fun (W : World) => Tryd.owGood W s a hs ha b hb)
  subst hv
  cases b
  · simp only [Bool.false_and]
    clear hs ha hb
    go_enter Tryd.func25, Tryd.ntmps25
    go_wp2_with (first | (go_at_call 40; refine (H1.out _).mono ?_; rintro e w1 ⟨rfl, hbW⟩; have hcW := (bcell hbW.below).1; have hfW := (bcell hbW.below).2; (try have hzW : w.heap.size < w1.heap.size := by have hq := hbW.below.size; (try simp at hq); omega); (try have hyW : w.heap.size + 1 < w1.heap.size := by have hq := hbW.below.size; (try simp at hq); omega); (try have hxW : w.heap.size + 2 < w1.heap.size := by have hq := hbW.below.size; (try simp at hq); omega)))
    go_ret2
    exact ⟨rfl, by repeat (first | exact Gr.refl _ | refine Gr.alloc ?_ _ | refine Gr.trans ?_ (by assumption) | refine Gr.drew ?_ | refine Gr.drewN ?_ _ | refine Gr.grow ?_ _ | refine Gr.setCell ?_ (by (try simp); (try omega)) _)⟩
  · obtain ⟨h1, h2⟩ := okW_and hb
    have HR := Lib.hid (fun (W : World) => Tryd.owRing W s a h1 h2 (okT_len h1) (okT_len h2) (ringB s a) (by rw [gb_eq, gb_eq, gb_eq, gb_eq]; rfl))
    simp only [Bool.true_and]
    generalize ringB s a = v at *
    clear hs ha hb h1 h2
    go_enter Tryd.func25, Tryd.ntmps25
    go_wp2_with (first | (go_at_call 40; refine (H1.out _).mono ?_; rintro e w1 ⟨rfl, hbW⟩; have hcW := (bcell hbW.below).1; have hfW := (bcell hbW.below).2; (try have hzW : w.heap.size < w1.heap.size := by have hq := hbW.below.size; (try simp at hq); omega); (try have hyW : w.heap.size + 1 < w1.heap.size := by have hq := hbW.below.size; (try simp at hq); omega); (try have hxW : w.heap.size + 2 < w1.heap.size := by have hq := hbW.below.size; (try simp at hq); omega)) | (go_at_call 49; refine (HR.out _).mono ?_; rintro e w1 ⟨rfl, hbW⟩; have hcW := (bcell hbW.below).1; have hfW := (bcell hbW.below).2; (try have hzW : w.heap.size < w1.heap.size := by have hq := hbW.below.size; (try simp at hq); omega); (try have hyW : w.heap.size + 1 < w1.heap.size := by have hq := hbW.below.size; (try simp at hq); omega); (try have hxW : w.heap.size + 2 < w1.heap.size := by have hq := hbW.below.size; (try simp at hq); omega)))
    go_ret2
    exact ⟨rfl, by repeat (first | exact Gr.refl _ | refine Gr.alloc ?_ _ | refine Gr.trans ?_ (by assumption) | refine Gr.drew ?_ | refine Gr.drewN ?_ _ | refine Gr.grow ?_ _ | refine Gr.setCell ?_ (by (try simp); (try omega)) _)⟩
end Go.Proofs
