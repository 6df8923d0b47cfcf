/-
  Chapter 6: drives by parts that go on, up to eight blocks (the program).
-/
import Derived.Test.YtfdiiichjopncaaDoorOwP
import Derived.Test.YtfdiiichjopncaaDoorRbX
namespace Go.Proofs
open Go.RowKit Av Gm Go.Maps
set_option linter.unusedVariables false
set_option linter.unusedSimpArgs false
def d8W (s a : ByteArray) (s0 t0 : Nat) : Int := f (Gs.fin (nbL (lsW s a 8)) (a.size * s.size) s0) t0
def d8I (s a : ByteArray) (s0 t0 : Nat) : Int := Gm.g (Gs.fin (nbL (lsW s a 8)) (a.size * s.size) s0) t0
def w8B (s a : ByteArray) (xs ys : List Int) : Bool := okW s a && isC a.size s.size xs && isC a.size s.size ys && decide (0 ≤ d8W s a (vx s xs) (vx s ys))
def w8V (s a : ByteArray) (xs ys : List Int) : Int := if w8B s a xs ys then d8W s a (vx s xs) (vx s ys) else 0
def w8C (s a : ByteArray) (xs ys : List Int) : Int := if w8B s a xs ys then d8I s a (vx s xs) (vx s ys) else 0
set_option maxRecDepth 100000 in
set_option maxHeartbeats 1600000 in
theorem Tryd.drivenFrom8 (w : World) (s a : ByteArray) (h1 : okT 101 119 s = true) (h2 : okT 110 115 a = true) (s0 : Nat) (hs : s0 < a.size * s.size) :
    Calls Tryd.prog 19 #[.agg #[.string s, .string a], .agg #[.int .i64 (crn s.size s0).1, .int .i64 (crn s.size s0).2], .int .i64 8] w fun e w' => ∃ b n D, e = .returned (.map (some b)) ∧
      w'.ownsMap Tryd.prog 47 rElem b n D ∧ MapIs s.size (a.size * s.size) D (Gs.fin (nbL (lsW s a 8)) (a.size * s.size) s0) ∧ Below w.heap.size w w' := by
  obtain ⟨W2, hW2⟩ : ∃ W, ((w.alloc (.cells #[.string s, .string a] 28)).alloc (.cells #[.int .i64 (crn s.size s0).1, .int .i64 (crn s.size s0).2] 47)).alloc (.cells #[.int .i64 8] 3) = W := ⟨_, rfl⟩
  have GX : Gr w W2 := by rw [← hW2]; exact by repeat (first | exact Gr.refl _ | refine Gr.alloc ?_ _ | refine Gr.trans ?_ (by assumption) | refine Gr.drew ?_ | refine Gr.drewN ?_ _ | refine Gr.grow ?_ _ | refine Gr.setCell ?_ (by (try simp); (try omega)) _)
  have c0 : W2.cell? ⟨w.heap.size, 0, none⟩ = some (.string s) := by rw [← hW2]; simp [go_sem]
  have c1 : W2.cell? ⟨w.heap.size, 1, none⟩ = some (.string a) := by rw [← hW2]; simp [go_sem]
  have c2 : W2.cell? ⟨w.heap.size + 1 + 1, 0, none⟩ = some (.int .i64 ((8 : Nat) : Int)) := by rw [← hW2]; simp [go_sem]
  have c3 : W2.cell? ⟨w.heap.size + 1, 0, none⟩ = some (.int .i64 (crn s.size s0).1) := by rw [← hW2]; simp [go_sem]
  have c4 : W2.cell? ⟨w.heap.size + 1, 1, none⟩ = some (.int .i64 (crn s.size s0).2) := by rw [← hW2]; simp [go_sem]
  have l1 := okT_len h1
  have l2 := okT_len h2
  have HR := Lib.hid (Tryd.reachedByX W2 a.size s.size (lsW s a 8) w.heap.size (w.heap.size + 1 + 1) s0 (by omega) (by omega) (lsW_valid 8) (fun u => by have := lsW_len s a 8 u; omega) hs
    (fun X u hu hX => Tryd.dfFn X s a h1 h2 u 8 _ _ hu (by decide) (cell_k2 hX c0) (cell_k2 hX c1) (cell_k2 hX c2)))
  have HG := Lib.hid GX
  clear h1 h2 hs GX c0 c1 c2 l1 l2
  go_enter Tryd.func19, Tryd.ntmps19
  go_wp2_with (first | (go_at_call 25; refine HR.out.mono ?_; rintro e w3 ⟨b, n, D, rfl, hown, hM, hb⟩))
  go_ret
  exact ⟨b, n, D, rfl, hown, hM, Below.trans HG.out.below (hb.mono HG.out.below.size)⟩
set_option maxRecDepth 100000 in
set_option maxHeartbeats 1600000 in
theorem Tryd.driven8 (w : World) (s a : ByteArray) (hs : s.size ≤ maxLen) (ha : a.size ≤ maxLen) (Ba : Nat) (la : Value) (xs : List Int) (Bb : Nat) (lb : Value) (ys : List Int) (v u : Int) (b : Bool) (hv : w8V s a xs ys = v) (hu : w8C s a xs ys = u) (hb : w8B s a xs ys = b) (hla : OwnI w Ba la xs) (hlb : OwnI w Bb lb ys) :
    Calls Tryd.prog 13 #[.agg #[.string s, .string a], la, lb, .int .i64 8] w fun e w' => e = .returned (.tuple #[.agg #[.int .i64 v, .int .i64 u], .bool b]) ∧ Below w.heap.size w w' := by
  have mixed : Tryd.prog.follows .mixedOrders = true := by kernel_rfl
  subst hv hu hb
  obtain ⟨b1, h1⟩ : ∃ b1, okW s a = b1 := ⟨_, rfl⟩
  obtain ⟨b2, h2⟩ : ∃ b1, isC a.size s.size xs = b1 := ⟨_, rfl⟩
  obtain ⟨b3, h3⟩ : ∃ b1, isC a.size s.size ys = b1 := ⟨_, rfl⟩
  have HA := Lib.hid (fun (X : World) (g : Gr w X) => Tryd.cornerOfWays X s a hs ha Ba la xs b1 b2 h1 h2 (hla.gr g))
  have HB := Lib.hid (fun (X : World) (g : Gr w X) => Tryd.cornerOfWays X s a hs ha Bb lb ys b1 b3 h1 h3 (hlb.gr g))
  obtain ⟨Aa, ca, rfl⟩ := hla.form
  obtain ⟨Ab, cb, rfl⟩ := hlb.form
  cases hall : (b1 && b2 && b3)
  · have e1 : w8B s a xs ys = false := by unfold w8B; rw [h1, h2, h3, hall]; rfl
    have e2 : w8V s a xs ys = 0 := by unfold w8V; rw [e1]; rfl
    have e3 : w8C s a xs ys = 0 := by unfold w8C; rw [e1]; rfl
    rw [e1, e2, e3]
    unfold coV at HA HB
    generalize coX (b1 && b2) xs = x1 at *
    generalize coY (b1 && b2) xs = y1 at *
    generalize coX (b1 && b3) ys = x2 at *
    generalize coY (b1 && b3) ys = y2 at *
    have hor : (b1 && b2) = false ∨ (b1 && b2) = true ∧ (b1 && b3) = false := by cases b1 <;> cases b2 <;> cases b3 <;> simp_all
    generalize (b1 && b2) = p at *
    generalize (b1 && b3) = q at *
    clear hla hlb h1 h2 h3 hall e1 e2 e3 hs ha
    rcases hor with rfl | ⟨rfl, rfl⟩
    all_goals
      go_enter Tryd.func13, Tryd.ntmps13
      go_wp2_with fail
      refine (HA.out _ (by repeat (first | exact Gr.refl _ | refine Gr.alloc ?_ _ | refine Gr.trans ?_ (by assumption) | refine Gr.drew ?_ | refine Gr.drewN ?_ _ | refine Gr.grow ?_ _ | refine Gr.setCell ?_ (by (try simp); (try omega)) _))).mono ?_
      rintro e w1 ⟨rfl, g1⟩
      have hc1 := (bcell g1.below).1
      have hf1 := (bcell g1.below).2
      have hz1 : w.heap.size < w1.heap.size := by have hq := g1.below.size; simp at hq; omega
      have hy1 : w.heap.size + 1 < w1.heap.size := by have hq := g1.below.size; simp at hq; omega
      go_wp2_with fail
      refine (HB.out _ (by repeat (first | exact Gr.refl _ | refine Gr.alloc ?_ _ | refine Gr.trans ?_ (by assumption) | refine Gr.drew ?_ | refine Gr.drewN ?_ _ | refine Gr.grow ?_ _ | refine Gr.setCell ?_ (by (try simp); (try omega)) _))).mono ?_
      rintro e w2 ⟨rfl, g2⟩
      have gW : Gr ((w.alloc (.cells #[.string s, .string a] 28)).alloc (.cells #[.int .i64 0, .int .i64 0] 38)) (w2.alloc (.cells #[.int .i64 x2, .int .i64 y2] 47)) := Gr.alloc (g1.trans ((Gr.alloc (Gr.refl _) _).trans g2)) _
      obtain ⟨wb, hwb⟩ : ∃ wb, w2.alloc (.cells #[.int .i64 x2, .int .i64 y2] 47) = wb := ⟨_, rfl⟩
      rw [hwb] at gW
      have k7 : wb.cell? ⟨w.heap.size + 1, 0, none⟩ = some (.int .i64 0) := gW.keep0 (by simp [go_sem])
      have k8 : wb.cell? ⟨w.heap.size + 1, 1, none⟩ = some (.int .i64 0) := gW.keep0 (by simp [go_sem])
      have k9 : wb.frozen? ⟨w.heap.size + 1, 0, none⟩ = false := ((bcell gW.below).2 _ _ (by simp)).trans (by simp [go_sem])
      have k10 : wb.frozen? ⟨w.heap.size + 1, 1, none⟩ = false := ((bcell gW.below).2 _ _ (by simp)).trans (by simp [go_sem])
      obtain ⟨q0, q1⟩ := two_set k7 k8 (.int .i64 0) (.int .i64 0)
      have GF := Lib.hid (show Gr w wb from Gr.trans (Gr.alloc (Gr.alloc (Gr.refl _) _) _) gW)
      clear hc1 hf1 gW
      go_wp2_with fail
      refine bodyPost_ret (v := .tuple #[.agg #[.int .i64 0, .int .i64 0], .bool false]) ?_ rfl ⟨rfl, ?_⟩
      · simp [results, Tryd.results13, go_sem, q0, q1]
      · exact Gr.below (Gr.setCell (Gr.setCell GF.out (by simp) _) (by simp) _)
  · simp only [Bool.and_eq_true] at hall
    obtain ⟨⟨rfl, rfl⟩, rfl⟩ := hall
    obtain ⟨k1, k2⟩ := okW_and h1
    have l1 := okT_len k1
    have l2 := okT_len k2
    obtain ⟨p1, p2⟩ := isC_vx h2 l1 l2
    obtain ⟨r1, r2⟩ := isC_vx h3 l1 l2
    have e1 : w8B s a xs ys = decide (0 ≤ d8W s a (vx s xs) (vx s ys)) := by unfold w8B; rw [h1, h2, h3]; rfl
    have e2 : w8V s a xs ys = if 0 ≤ d8W s a (vx s xs) (vx s ys) then d8W s a (vx s xs) (vx s ys) else 0 := by unfold w8V; rw [e1]; simp
    have e3 : w8C s a xs ys = if 0 ≤ d8W s a (vx s xs) (vx s ys) then d8I s a (vx s xs) (vx s ys) else 0 := by unfold w8C; rw [e1]; simp
    rw [e1, e2, e3]
    clear h2 h3 e1 e2 e3
    unfold coV coX coY at HA HB
    simp only [Bool.and_self, if_true] at HA HB
    generalize vx s xs = s0 at *
    generalize vx s ys = t0 at *
    subst p2 r2
    simp only [List.getD_cons_zero, List.getD_cons_succ] at HA HB
    have HR := Lib.hid (fun (X : World) => Tryd.drivenFrom8 X s a k1 k2 s0 p1)
    have HO := Lib.hid (fun (X : World) b n D (hown : X.ownsMap Tryd.prog 47 rElem b n D) (hM : MapIs s.size (a.size * s.size) D (Gs.fin (nbL (lsW s a 8)) (a.size * s.size) s0)) (W' : World) (g : Gr X W') => Tryd.lookOk (w := X) (Wn := a.size) (Hn := s.size) l2.2 l1.2 hown hM r1 W' g)
    have hds : d8W s a s0 t0 = f (Gs.fin (nbL (lsW s a 8)) (a.size * s.size) s0) t0 := rfl
    rw [hds]
    unfold d8I
    generalize (if 0 ≤ f (Gs.fin (nbL (lsW s a 8)) (a.size * s.size) s0) t0 then f (Gs.fin (nbL (lsW s a 8)) (a.size * s.size) s0) t0 else 0) = vd at *
    generalize (if 0 ≤ f (Gs.fin (nbL (lsW s a 8)) (a.size * s.size) s0) t0 then Gm.g (Gs.fin (nbL (lsW s a 8)) (a.size * s.size) s0) t0 else 0) = vg at *
    generalize decide (0 ≤ f (Gs.fin (nbL (lsW s a 8)) (a.size * s.size) s0) t0) = vb at *
    clear hla hlb h1 hds p1 r1 l1 l2 k1 k2 hs ha
    obtain ⟨x1, hx1⟩ : ∃ x, (crn s.size s0).1 = x := ⟨_, rfl⟩
    obtain ⟨y1, hy1⟩ : ∃ x, (crn s.size s0).2 = x := ⟨_, rfl⟩
    obtain ⟨x2, hx2⟩ : ∃ x, (crn s.size t0).1 = x := ⟨_, rfl⟩
    obtain ⟨y2, hy2⟩ : ∃ x, (crn s.size t0).2 = x := ⟨_, rfl⟩
    simp only [hx1, hy1, hx2, hy2] at HA HB HR HO
    go_enter Tryd.func13, Tryd.ntmps13
    go_wp2_with fail
    refine (HA.out _ (by repeat (first | exact Gr.refl _ | refine Gr.alloc ?_ _ | refine Gr.trans ?_ (by assumption) | refine Gr.drew ?_ | refine Gr.drewN ?_ _ | refine Gr.grow ?_ _ | refine Gr.setCell ?_ (by (try simp); (try omega)) _))).mono ?_
    rintro e w1 ⟨rfl, g1⟩
    have hc1 := (bcell g1.below).1
    have hf1 := (bcell g1.below).2
    have hz1 : w.heap.size < w1.heap.size := by have hq := g1.below.size; simp at hq; omega
    have hy1 : w.heap.size + 1 < w1.heap.size := by have hq := g1.below.size; simp at hq; omega
    go_wp2_with fail
    refine (HB.out _ (by repeat (first | exact Gr.refl _ | refine Gr.alloc ?_ _ | refine Gr.trans ?_ (by assumption) | refine Gr.drew ?_ | refine Gr.drewN ?_ _ | refine Gr.grow ?_ _ | refine Gr.setCell ?_ (by (try simp); (try omega)) _))).mono ?_
    rintro e w2 ⟨rfl, g2⟩
    have gW : Gr ((w.alloc (.cells #[.string s, .string a] 28)).alloc (.cells #[.int .i64 0, .int .i64 0] 38)) (w2.alloc (.cells #[.int .i64 x2, .int .i64 y2] 47)) := Gr.alloc (g1.trans ((Gr.alloc (Gr.refl _) _).trans g2)) _
    have gV : Gr (w1.alloc (.cells #[.int .i64 x1, .int .i64 y1] 47)) (w2.alloc (.cells #[.int .i64 x2, .int .i64 y2] 47)) := Gr.alloc g2 _
    have hx12 : w1.heap.size < w2.heap.size := by have hq := g2.below.size; simp at hq; omega
    obtain ⟨wb, hwb⟩ : ∃ wb, w2.alloc (.cells #[.int .i64 x2, .int .i64 y2] 47) = wb := ⟨_, rfl⟩
    have szb : wb.heap.size = w2.heap.size + 1 := by rw [← hwb]; simp
    have k5 : wb.cell? ⟨w2.heap.size, 0, none⟩ = some (.int .i64 x2) := by rw [← hwb]; simp [go_sem]
    have k6 : wb.cell? ⟨w2.heap.size, 1, none⟩ = some (.int .i64 y2) := by rw [← hwb]; simp [go_sem]
    rw [hwb] at gW gV
    have k0 : wb.cell? ⟨w.heap.size, 0, none⟩ = some (.string s) := gW.keep0 (by simp [go_sem])
    have k1 : wb.cell? ⟨w.heap.size, 1, none⟩ = some (.string a) := gW.keep0 (by simp [go_sem])
    have k3 : wb.cell? ⟨w1.heap.size, 0, none⟩ = some (.int .i64 x1) := gV.keep0 (by simp [go_sem])
    have k4 : wb.cell? ⟨w1.heap.size, 1, none⟩ = some (.int .i64 y1) := gV.keep0 (by simp [go_sem])
    have k7 : wb.cell? ⟨w.heap.size + 1, 0, none⟩ = some (.int .i64 0) := gW.keep0 (by simp [go_sem])
    have k8 : wb.cell? ⟨w.heap.size + 1, 1, none⟩ = some (.int .i64 0) := gW.keep0 (by simp [go_sem])
    have k9 : wb.frozen? ⟨w.heap.size + 1, 0, none⟩ = false := ((bcell gW.below).2 _ _ (by simp)).trans (by simp [go_sem])
    have k10 : wb.frozen? ⟨w.heap.size + 1, 1, none⟩ = false := ((bcell gW.below).2 _ _ (by simp)).trans (by simp [go_sem])
    have HK := Lib.hid (And.intro k7 (And.intro k8 (And.intro k9 k10)))
    have HG := Lib.hid (show Gr w wb from Gr.trans (Gr.alloc (Gr.alloc (Gr.refl _) _) _) gW)
    clear hc1 hf1 gW gV g1 g2 k7 k8 k9 k10
    go_wp2_with fail
    go_region_held3 (fun W' => W'.cell? ⟨w.heap.size, 0, none⟩ = some (.string s) ∧ W'.cell? ⟨w.heap.size, 1, none⟩ = some (.string a) ∧ W'.cell? ⟨w1.heap.size, 0, none⟩ = some (.int .i64 x1) ∧ W'.cell? ⟨w1.heap.size, 1, none⟩ = some (.int .i64 y1) ∧ W'.cell? ⟨w2.heap.size, 0, none⟩ = some (.int .i64 x2) ∧ W'.cell? ⟨w2.heap.size, 1, none⟩ = some (.int .i64 y2))
      (first | exact ⟨k0, k1, k3, k4, k5, k6⟩ | assumption | (refine sixk (w := wb) ?_ ⟨k0, k1, k3, k4, k5, k6⟩; (first | exact hB3 | exact Below.alloc hB3 hB3.size _ | exact Below.setCell (Below.setCell hB3 (by simp; omega) _) (by simp; omega) _ | exact Below.drew (Below.refl _ _) | exact Below.drew (Below.alloc (Below.refl _ _) (by simp) _) | exact Below.alloc (Below.drew (Below.refl _ _)) (by simp) _)))
      (first | (go_at_call 19; refine (HR.out _).mono ?_; rintro e w3 ⟨b3, n3, D3, rfl, hown3, hM3, hb3⟩; have hlk0 := HO.out _ b3 n3 D3 hown3 hM3 w3 (Gr.refl _); have hlk1 := fun o => HO.out _ b3 n3 D3 hown3 hM3 (w3.alloc o) (Gr.alloc (Gr.refl _) o); have hcA := (bcell hb3).1; have hfA := (bcell hb3).2; have hB3 : Below wb.heap.size wb w3 := Below.trans (by first | exact Below.drew (Below.refl _ _) | exact Below.drew (Below.alloc (Below.refl _ _) (Nat.le_refl _) _) | exact Below.alloc (Below.drew (Below.refl _ _)) (by simp) _) (hb3.mono (by simp)); have hs3 := hb3.size; simp at hs3))
    all_goals
      have q0 := cell_k2 hB3 HK.out.1
      have q1 := cell_k2 hB3 HK.out.2.1
      have q2 := ((bcell hB3).2 (w.heap.size + 1) 0 (by omega)).trans HK.out.2.2.1
      have q3 := ((bcell hB3).2 (w.heap.size + 1) 1 (by omega)).trans HK.out.2.2.2
      have hB4 := Below.trans HG.out.below (hB3.mono HG.out.below.size)
      have hs4 := hB3.size
    iterate 2
      · clear hcA hfA hlk0 hlk1 k0 k1 k3 k4 k5 k6
        have u1 : w.heap.size + 1 < w3.heap.size := by omega
        go_wp2
        refine bodyPost_ret (v := .tuple #[.agg #[.int .i64 vd, .int .i64 vg], .bool vb]) ?_ rfl ⟨rfl, ?_⟩
        · simp [results, Tryd.results13, go_sem, q0, q1, q2, q3, u1]
        · exact Below.alloc (Below.setCell (Below.setCell hB4 (by simp) _) (by simp) _) (by simp; omega) _
    · have t0 : w3.cell? ⟨w2.heap.size + 1, 0, none⟩ = some (.int .i64 0) := cell_k2 hb3 (by simp [go_sem, ← szb])
      have t1 : w3.cell? ⟨w2.heap.size + 1, 1, none⟩ = some (.int .i64 0) := cell_k2 hb3 (by simp [go_sem, ← szb])
      clear hcA hfA hlk0 hlk1 k0 k1 k3 k4 k5 k6
      have u1 : w.heap.size + 1 < w3.heap.size := by omega
      have u2 : ¬ w.heap.size + 1 = w2.heap.size + 1 := by omega
      have u3 : ¬ w2.heap.size + 1 = w.heap.size + 1 := by omega
      obtain ⟨g0', g1'⟩ := two_set t0 t1 (.int .i64 vd) (.int .i64 vg)
      go_wp2
      refine bodyPost_ret (v := .tuple #[.agg #[.int .i64 vd, .int .i64 vg], .bool vb]) ?_ rfl ⟨rfl, ?_⟩
      · simp [results, Tryd.results13, go_sem, q0, q1, q2, q3, u1, u2, u3]
      · exact Below.setCell (Below.setCell (Below.setCell (Below.setCell hB4 (by simp; omega) _) (by simp; omega) _) (by simp) _) (by simp) _
end Go.Proofs
