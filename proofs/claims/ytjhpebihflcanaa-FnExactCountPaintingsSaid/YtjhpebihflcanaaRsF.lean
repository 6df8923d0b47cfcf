/-
  Chapter 7: lists led on by a house more (leadOn): a range over a map with delete, a store into another one, in whatever order.
-/
import Derived.Test.YtjhpebihflcanaaRsE
import Derived.Deep.LoopGhost
import Derived.Deep.DeepCutAuto
namespace Go.Proofs
open Go.RowKit Go.Maps Rl
set_option linter.unusedVariables false
set_option linter.unusedSimpArgs false
/-- a row of options that can be read -/
def OptR (w : World) (B : Nat) (v : Value) (os : List Rl.Op) : Prop := ∃ A c, v = .slice A os.length c ∧ ∀ i o, os[i]? = some o → ∃ g t, A = some ⟨g, 0, none⟩ ∧ w.cell? ⟨g, i * 3, none⟩ = some (.int .i64 o.st) ∧ w.cell? ⟨g, i * 3 + 1, none⟩ = some (.int .i64 o.cost) ∧ w.cell? ⟨g, i * 3 + 2, none⟩ = some t ∧ OwnI w B t o.tells
theorem OptR.kp {w w' : World} {B : Nat} {v : Value} {os : List Rl.Op} (h : OptR w B v os) (k : Kp w w') : OptR w' B v os := by
  obtain ⟨A, c, e, h⟩ := h
  exact ⟨A, c, e, fun i o hi => by obtain ⟨g, t, a1, a2, a3, a4, a5⟩ := h i o hi; exact ⟨g, t, a1, k.cell a2, k.cell a3, k.cell a4, k.own a5⟩⟩
def S8 (z p q : Nat) (v0 v1 u0 u1 u2 t0 t1 t2 : Value) (w : World) : Prop := w.cell? ⟨z, 0, none⟩ = some v0 ∧ w.cell? ⟨z, 1, none⟩ = some v1 ∧ w.cell? ⟨p + 1, 0, none⟩ = some u0 ∧ w.cell? ⟨p + 1, 1, none⟩ = some u1 ∧ w.cell? ⟨p + 1, 2, none⟩ = some u2 ∧ w.cell? ⟨q, 0, none⟩ = some t0 ∧ w.cell? ⟨q, 1, none⟩ = some t1 ∧ w.cell? ⟨q, 2, none⟩ = some t2
theorem S8.kp {z p q : Nat} {v0 v1 u0 u1 u2 t0 t1 t2 : Value} {w w' : World} (h : S8 z p q v0 v1 u0 u1 u2 t0 t1 t2 w) (k : Kp w w') : S8 z p q v0 v1 u0 u1 u2 t0 t1 t2 w' :=
  ⟨k.cell h.1, k.cell h.2.1, k.cell h.2.2.1, k.cell h.2.2.2.1, k.cell h.2.2.2.2.1, k.cell h.2.2.2.2.2.1, k.cell h.2.2.2.2.2.2.1, k.cell h.2.2.2.2.2.2.2⟩
theorem S8.drew {z p q : Nat} {v0 v1 u0 u1 u2 t0 t1 t2 : Value} {w : World} (h : S8 z p q v0 v1 u0 u1 u2 t0 t1 t2 w) : S8 z p q v0 v1 u0 u1 u2 t0 t1 t2 w.drew := h.kp (Gr.kp (Gr.drew (Gr.refl _)))
theorem below_grown {w w' : World} (h : Below w.heap.size w w') (row : Option Nat) : w.grownBy w' row := ⟨h.os, h.tape, h.output, h.size, fun k hk _ => h.block k hk⟩
theorem rg_iter {H : Type} {P : Program} {k : TypeId} {R : Value → Option (DataW H × List MemPlace)} {w : World} {b r n : Nat} {D : DataW H} {left : Lit → Bool} {cnt : Nat} (h : w.ranges P k R b r n D left cnt) (c : Array Value) (t : TypeId) (fz : Nat × Nat) : w.heap[r]? ≠ some (Obj.cells c t fz) := by
  obtain ⟨es, clock, since, seen, c0, _, _, _, _, hr, _⟩ := h
  rw [hr]
  intro e
  cases e
theorem Gr.grownBy {w w' : World} (h : Gr w w') (row : Option Nat) : w.grownBy w' row := ⟨h.below.os, h.below.tape, h.below.output, h.below.size, fun k hk _ => h.below.block k hk⟩
structure OpB (o : Rl.Op) : Prop where
  st : inS o.st
  c0 : -1000 ≤ o.cost
  c1 : o.cost ≤ 1000
  tl : o.tells.length ≤ 1
/-- the map that is led on, in the course of the range -/
structure Try.LdR (Bm b1 b2 r : Nat) (fits : Int → Int → Bool) (os : List Rl.Op) (W : List Wy) (w wr : World) (left : Lit → Bool) (cnt : Nat) (D1 D2 : DataW Unit) : Prop where
  rg : wr.ranges Try.prog 73 lElem b1 r 64 D1 left cnt
  hs : ∀ kl, Maps.has D1 kl = left kl
  m1 : MapL wr Bm D1 (fun k => if left (kle k) then T W k else none)
  o2 : wr.ownsMap Try.prog 73 lElem b2 64 D2
  m2 : MapL wr Bm D2 (LG fits os W (fun _ q => !left (kle q)))
  kp : Kp w wr
  bl : Below Bm w wr
/-- .. in the course of one key -/
structure Try.LdI (Bm b1 b2 r : Nat) (fits : Int → Int → Bool) (os : List Rl.Op) (W : List Wy) (w wk wr : World) (left : Lit → Bool) (k : Int × Int) (cnt : Nat) (D1 D2 : DataW Unit) (i : Nat) : Prop where
  rg : wr.ranges Try.prog 73 lElem b1 r 64 D1 (fun z => left z && !z.sameKey (kle k)) cnt
  m1 : MapL wr Bm D1 (fun k => if left (kle k) then T W k else none)
  o2 : wr.ownsMap Try.prog 73 lElem b2 64 D2
  m2 : MapL wr Bm D2 (LG fits os W (dnK left os k i))
  kp : Kp wk wr
  bl : Below Bm w wr
set_option maxRecDepth 100000 in
set_option maxHeartbeats 8000000 in
theorem Try.leadOn (w : World) (Bm B' b1 b2 : Nat) (D1 D2 : DataW Unit) (W : List Wy) (os : List Rl.Op) (la : Value) (fg : Nat) (fits : Int → Int → Bool) (hb12 : b1 ≠ b2) (hB1 : Bm ≤ b1) (hB2 : Bm ≤ b2)
    (h1 : w.ownsMap Try.prog 73 lElem b1 64 D1) (m1 : MapL w Bm D1 (T W)) (h2 : w.ownsMap Try.prog 73 lElem b2 64 D2) (m2 : MapL w Bm D2 (fun _ => none))
    (ho : OptR w B' la os) (hol : os.length ≤ 8) (hd : Dif os) (hop : ∀ o ∈ os, OpB o) (hw : ∀ x ∈ W, inS x.f ∧ inS x.l)
    (hLB : ∀ D k l, LG fits os W D k = some l → LeB l) (hTB : ∀ k l, T W k = some l → LeB l) (hBB : ∀ k l o, T W k = some l → o ∈ os → LeB (behE o.cost o.tells l))
    (eg : ∀ args w, (callFunc fg args).run Try.prog w = .ok (.enter fg args) w)
    (hf : ∀ (X : World) (x y : Int), Calls Try.prog fg (#[.int .i64 x, .int .i64 y] ++ #[]) X fun e w' => e = .returned (.bool (fits x y)) ∧ Gr X w') :
    Calls Try.prog 57 #[.map (some b1), .map (some b2), la, .func (.func fg) #[] #[]] w fun e w' => e = .returned (.tuple #[]) ∧ ∃ D1' D2', w'.ownsMap Try.prog 73 lElem b1 64 D1' ∧ MapL w' Bm D1' (fun _ => none) ∧ w'.ownsMap Try.prog 73 lElem b2 64 D2' ∧ MapL w' Bm D2' (T (lead fits os W)) ∧ Kp w w' ∧ Below Bm w w' := by
  have mixed : Try.prog.follows .mixedOrders = true := by kernel_rfl
  have hblt := h1.lt
  have hblt2 := h2.lt
  obtain ⟨A, c, rfl, hop2⟩ := ho
  have HOP := Lib.hid hop2
  have HF := Lib.hid hf
  have HB := Lib.hid (And.intro hLB (And.intro hTB hBB))
  have HW := Lib.hid hw
  have HD := Lib.hid (And.intro hd hop)
  have M1 := Lib.hid m1
  have M2 := Lib.hid m2
  have H2 := Lib.hid h2
  clear hop2 hf hLB hTB hBB hw hd hop m1 m2 h2
  go_enter Try.func57, Try.ntmps57
  go_wp2_with (first
    | (at_range; refine wpList_range_own _ rfl _ 70 rfl 73 46 Try.eLaw Try.underlying70 _ b1 64 D1 rfl h1 ?_; intro w0 hrg0 hg0 hs0)
    | go_in)
  go_frame
  have HG0 := Lib.hid hg0
  have HRG0 := Lib.hid hrg0
  have HS0 := Lib.hid hs0
  clear hrg0 hg0 hs0 h1
  obtain ⟨r, hr⟩ : ∃ r, w.heap.size = r := ⟨_, rfl⟩
  rw [hr] at HRG0 HS0 hblt hblt2 ⊢
  have HRR := Lib.hid hr
  clear hr
  go_loopw [8] (fun _ wr => ∃ left cnt D1 D2, Try.LdR Bm b1 b2 r fits os W w wr left cnt D1 D2) (fun _ wr => wr.rangeLeft b1 r)
  case atStart =>
    refine ⟨_, _, _, D2, HRG0.out, fun _ => rfl, (M1.out.kp (none_kp HG0.out)).congr (fun k hk => ?_), H2.out.kept HG0.out (by simp), (M2.out.kp (none_kp HG0.out)).congr (fun k hk => ?_), none_kp HG0.out, ⟨HG0.out.os, HG0.out.tape, HG0.out.output, HG0.out.size, fun i hi => HG0.out.block i (by have := HRR.out; omega) (by simp)⟩⟩
    · rw [M1.out.has k hk]
      cases T W k <;> rfl
    · symm
      rw [← LG_none fits W k os]
      refine LG_congr _ _ _ _ _ _ fun o ho x hx => ?_
      have := M1.out.has (x.f, x.l) (HW.out x hx)
      rw [this]
      have hT : T W (x.f, x.l) ≠ none := fun e => (T_none W _).1 e x hx rfl
      cases e : T W (x.f, x.l)
      · exact absurd e hT
      · rfl
  case round =>
    obtain ⟨left, cnt, D1, D2, hR⟩ := hrel
    have HR := Lib.hid hR
    have hrg := hR.rg
    clear hR
    go_wp2_with (first
      | (at_next; refine wpList_next_ranges _ rfl _ rfl 73 Try.eLaw lElem (fun v : Value => v) (fun v : Value => v) (fun key kl _ => ⟨key, rfl⟩) (fun v y _ => ⟨v, rfl⟩) b1 r 64 _ _ _ rfl hrg ?_ ?_)
      | go_in)
    · intro _ hl0
      have HL0 := Lib.hid hl0
      clear hrg hl0
      go_wp2
      refine bodyPost_end (results_none rfl _ _ _) rfl ?_
      refine ⟨rfl, D1, D2, HR.out.rg.owns, HR.out.m1.congr (fun k hk => by rw [HL0.out]; rfl), HR.out.o2, HR.out.m2.congr (fun k hk => LG_all fits W _ k os (fun o _ x _ => by rw [HL0.out]; rfl)), HR.out.kp, HR.out.bl⟩
    · intro x v kl d y2 w1 cnt1 hkey hlk hv hat hrg1 hlt hg1 hs1 hen
      obtain ⟨k, hk, rfl⟩ := HR.out.m1.only kl (by rw [HR.out.hs]; exact hlk)
      obtain rfl : x = keyE k := Try.eLaw.inj hkey (Try.keyOfE k (inK_wf hk))
      obtain ⟨l, hTl⟩ : ∃ l, T W k = some l := by
        have h := HR.out.m1.has k hk
        rw [HR.out.hs, hlk, if_pos rfl] at h
        cases e : T W k with
        | none => rw [e] at h; cases h
        | some l => exact ⟨l, rfl⟩
      obtain ⟨v0, d0, hv0, hat0, hle⟩ := HR.out.m1.val k l hk (by rw [if_pos hlk]; exact hTl)
      obtain rfl : d = d0 := (hat (.agg [])).symm.trans (hat0 (.agg []))
      obtain rfl : v = v0 := lElem_inj hv hv0
      have hk1 : Kp wr w1 := grown_kp hg1 (rg_iter hrg)
      have hle1 := hle.kp hk1
      obtain ⟨s, rfl, hown⟩ := hle1
      obtain ⟨As, cs, rfl⟩ := hown.form
      have HLB := Lib.hid (HB.out.2.1 k l hTl)
      have HMS := Lib.hid (show wr.rangeLeft b1 r = cnt from hrg.left_eq)
      have HK1 := Lib.hid hk1
      have HG1 := Lib.hid hg1
      have HS1 := Lib.hid hs1
      have HRG1 := Lib.hid hrg1
      have HLT := Lib.hid hlt
      have HTL := Lib.hid hTl
      have HLK := Lib.hid hlk
      have HKK := Lib.hid hk
      have HOW := Lib.hid hown
      clear hkey hv hat hv0 hat0 hle hown hg1 hs1 hrg1 hlt hrg hk1 hlk
      unfold keyE at hen
      obtain ⟨ka, kb⟩ := k
      obtain ⟨lc, ln, lf⟩ := l
      simp only at hen HOW ⊢
      go_wp2_with fail
      obtain ⟨p, hp⟩ : ∃ p, w1.heap.size = p := ⟨_, rfl⟩
      obtain ⟨wk, hwk⟩ : ∃ wk, (w1.alloc (.cells #[.int .i64 ka, .int .i64 kb] 73)).alloc (.cells #[.int .i64 lc, .int .i64 (ln : Nat), .slice As lf.length cs] 46) = wk := ⟨_, rfl⟩
      have gK : Gr w1 wk := by rw [← hwk]; exact Gr.alloc (Gr.alloc (Gr.refl _) _) _
      have x0 : wk.cell? ⟨p, 0, none⟩ = some (.int .i64 ka) := by rw [← hwk, ← hp]; simp [go_sem]
      have x1 : wk.cell? ⟨p, 1, none⟩ = some (.int .i64 kb) := by rw [← hwk, ← hp]; simp [go_sem]
      have x2 : wk.cell? ⟨p + 1, 0, none⟩ = some (.int .i64 lc) := by rw [← hwk, ← hp]; simp [go_sem]
      have x3 : wk.cell? ⟨p + 1, 1, none⟩ = some (.int .i64 (ln : Nat)) := by rw [← hwk, ← hp]; simp [go_sem]
      have x4 : wk.cell? ⟨p + 1, 2, none⟩ = some (.slice As lf.length cs) := by rw [← hwk, ← hp]; simp [go_sem]
      have hrp : r < p := by
        have h1 := HRG1.out.lt
        omega
      have HX := Lib.hid (And.intro (And.intro x0 x1) (And.intro x2 (And.intro x3 x4)))
      have HGK := Lib.hid gK
      have HPP := Lib.hid hp
      simp only [hp, hwk]
      have HI0 := Lib.hid (show Try.LdI Bm b1 b2 r fits os W w wk wk left (ka, kb) cnt1 D1 D2 0 from by
        refine ⟨?_, ?_, ?_, ?_, Kp.refl _, ?_⟩
        · exact HRG1.out.kept (gK.grownBy none) (by simp) (by simp)
        · exact HR.out.m1.kp (HK1.out.trans (Gr.kp gK))
        · exact (HR.out.o2.kept HG1.out (fun e => by have := Option.some.inj e; omega)).kept (gK.grownBy none) (by simp)
        · refine (HR.out.m2.kp (HK1.out.trans (Gr.kp gK))).congr fun q hq => LG_congr _ _ _ _ _ _ fun o ho x hx => ?_
          simp [dnK]
        · exact (HR.out.bl.grown HG1.out (by have := HR.out.bl.size; have := HRR.out; omega) (fun j e => by cases e; omega)).trans (gK.below.mono (by omega)))
      clear x0 x1 x2 x3 x4 gK hwk hp hen
      go_loopw [22] (fun iv wr2 => ∃ (i : Nat) (D2' : DataW Unit), iv = .int .i64 i ∧ i ≤ os.length ∧ Try.LdI Bm b1 b2 r fits os W w wk wr2 left (ka, kb) cnt1 D1 D2' i) (fun i _ => os.length - (intOf i).toNat)
      case atStart => exact ⟨0, D2, rfl, Nat.zero_le _, HI0.out⟩
      case round =>
        rename World => wr2
        obtain ⟨i, D2', rfl, hi, hI⟩ := hrel
        have HI := Lib.hid hI
        have kI := hI.kp
        have k0 := kI.cell HX.out.1.1
        have k1 := kI.cell HX.out.1.2
        have k2 := kI.cell HX.out.2.1
        have k3 := kI.cell HX.out.2.2.1
        have k4 := kI.cell HX.out.2.2.2
        have KALL := Lib.hid (show Kp w wr2 from HR.out.kp.trans (HK1.out.trans ((Gr.kp HGK.out).trans kI)))
        have hszi : p + 1 < wr2.heap.size := World.block_lt_of_cell? _ _ k2
        have hszj : p < wr2.heap.size := by omega
        clear hI kI
        by_cases hlt : i < os.length
        · obtain ⟨o, hoi⟩ : ∃ o, os[i]? = some o := ⟨os[i], List.getElem?_eq_getElem hlt⟩
          obtain ⟨g, t, rfl, c0, c1, c2, ht⟩ := HOP.out i o hoi
          obtain ⟨At, ct, rfl⟩ := ht.form
          have d0 := KALL.out.cell c0
          have d1 := KALL.out.cell c1
          have d2 := KALL.out.cell c2
          have HT := Lib.hid (KALL.out.own ht)
          have HOI := Lib.hid (show os[i] = o by rw [List.getElem?_eq_getElem hlt] at hoi; exact Option.some.inj hoi)
          have hmem : o ∈ os := List.mem_of_getElem? hoi
          have hOB := HD.out.2 o hmem
          have z0 : (0 : Int) ≤ (i : Int) := by omega
          have z1 : (i : Int) < (os.length : Int) := by omega
          have HMEM := Lib.hid hmem
          have HOB := Lib.hid hOB
          have HSTEP := Lib.hid (fun a => LG_step fits os W (dnK left os (ka, kb) i) o (ka, kb) HD.out.1 hmem (by have := dnK_no left os (ka, kb) i hlt HD.out.1 HLK.out; rw [HOI.out] at this; exact this) a)
          have HSUC := Lib.hid (show dnK left os (ka, kb) (i + 1) = fun s q => dnK left os (ka, kb) i s q || (s == o.st && q == (ka, kb)) by have := dnK_succ left os (ka, kb) i hlt; rw [HOI.out] at this; exact this)
          clear c0 c1 c2 ht hmem hOB hoi
          obtain ⟨os0, oc0, ot0⟩ := o
          simp only at d0 d1 d2 HT HSTEP HSUC HOB ⊢
          have HFF := Lib.hid (fun X => HF.out X os0 ka)
          cases hfit : fits os0 ka
          · rw [hfit] at HFF
            go_wp2_with (go_at_fn fg; refine (HFF.out _).mono ?_; rintro e w3 ⟨rfl, g3⟩)
            go_roundw
            case rel => 
              have GG : Gr wr2 w3 := Gr.trans (Gr.alloc (Gr.refl _) _) g3
              exact ⟨i + 1, D2', by go_num, by omega, HI.out.rg.kept (GG.grownBy none) (by simp) (by simp), HI.out.m1.kp (Gr.kp GG), HI.out.o2.kept (GG.grownBy none) (by simp), (HI.out.m2.kp (Gr.kp GG)).congr (fun q hq => by rw [HSUC.out, HSTEP.out q, if_neg (fun h => by rw [hfit] at h; cases h.1)]), HI.out.kp.trans (Gr.kp GG), HI.out.bl.trans (GG.below.mono (by have := HRR.out; omega))⟩
            case measure => simp [intOf]; omega
          · rw [hfit] at HFF
            go_upto_region 8 with (go_at_fn fg; refine (HFF.out _).mono ?_; rintro e w3 ⟨rfl, g3⟩; have j0 := g3.keep0 (show (wr2.alloc (.cells #[.int .i64 os0, .int .i64 oc0, .slice At ot0.length ct] 63)).cell? ⟨wr2.heap.size, 0, none⟩ = some (.int .i64 os0) by simp [go_sem]); have j1 := ((Gr.trans (Gr.alloc (Gr.refl _) _) g3).keep0 k1))
            obtain ⟨q, hq⟩ : ∃ q, wr2.heap.size = q := ⟨_, rfl⟩
            obtain ⟨z, hz⟩ : ∃ z, w3.heap.size = z := ⟨_, rfl⟩
            obtain ⟨X, hX⟩ : ∃ X, w3.alloc (.cells #[.int .i64 os0, .int .i64 kb] 73) = X := ⟨_, rfl⟩
            have G23 : Gr wr2 w3 := Gr.trans (Gr.alloc (Gr.refl _) _) g3
            have G2X : Gr wr2 X := by rw [← hX]; exact Gr.alloc G23 _
            have S0 : S8 z p q (.int .i64 os0) (.int .i64 kb) (.int .i64 lc) (.int .i64 (ln : Nat)) (.slice As lf.length cs) (.int .i64 os0) (.int .i64 oc0) (.slice At ot0.length ct) X := by
              have gX : Gr w3 X := by rw [← hX]; exact Gr.alloc (Gr.refl _) _
              refine ⟨?_, ?_, G2X.keep0 k2, G2X.keep0 k3, G2X.keep0 k4, ?_, ?_, ?_⟩
              · rw [← hX, ← hz]; simp [go_sem]
              · rw [← hX, ← hz]; simp [go_sem]
              · exact gX.keep0 (g3.keep0 (by rw [← hq]; simp [go_sem]))
              · exact gX.keep0 (g3.keep0 (by rw [← hq]; simp [go_sem]))
              · exact gX.keep0 (g3.keep0 (by rw [← hq]; simp [go_sem]))
            have hKE : inK (os0, kb) := ⟨HOB.out.st, HKK.out.2⟩
            obtain ⟨vl, dl, hv1, hv2, hvL⟩ := (HI.out.m2.kp (Gr.kp G2X)).look hKE
            obtain ⟨c6, n6, A6, m6, k6, rfl⟩ := hvL.form
            have HOX := Lib.hid (HI.out.o2.kept (G2X.grownBy none) (by simp))
            have hlk0 := Try.lookE HOX.out hKE hv1 hv2
            have hlk1 := Try.lookE (HOX.out.kept ((Gr.drew (Gr.refl X)).grownBy none) (by simp)) hKE hv1 hv2
            have HLE := Lib.hid (fun (Y : World) (hY : Kp X Y) => Try.lookE (Y := Y) (n := 64) (b := b2) (D := D2') (x := os0) (y := kb) (v := .agg #[.int .i64 c6, .int .i64 n6, .slice A6 m6 k6]) (d := dl))
            have HV12 := Lib.hid (And.intro hv1 (And.intro hv2 hvL))
            have OWX := Lib.hid ((HGK.out.kp.trans (HI.out.kp.trans (Gr.kp G2X))).own HOW.out)
            have OTX := Lib.hid ((Gr.kp G2X).own HT.out)
            have HSX := Lib.hid S0
            have HGX := Lib.hid G2X
            have HKE := Lib.hid hKE
            have hBmX : Bm ≤ X.heap.size := by have := HI.out.bl.size; have := HRR.out; have := G2X.below.size; omega
            have HBX := Lib.hid hBmX
            have hxx := S0
            obtain ⟨s0, s1, s2, s3, s4, s5, s6, s7⟩ := hxx
            simp only [hq, hz, hX]
            clear j0 j1 g3 G23 G2X hv1 hv2 hvL k0 k1 k2 k3 k4 d0 d1 d2 hX hq hz hszi hszj hBmX
            go_region_held3 (fun W' => W'.cell? ⟨z, 0, none⟩ = some (.int .i64 os0) ∧ W'.cell? ⟨z, 1, none⟩ = some (.int .i64 kb) ∧ W'.cell? ⟨p + 1, 0, none⟩ = some (.int .i64 lc) ∧ W'.cell? ⟨p + 1, 1, none⟩ = some (.int .i64 (ln : Nat)) ∧ W'.cell? ⟨p + 1, 2, none⟩ = some (.slice As lf.length cs) ∧ W'.cell? ⟨q, 0, none⟩ = some (.int .i64 os0) ∧ W'.cell? ⟨q, 1, none⟩ = some (.int .i64 oc0) ∧ W'.cell? ⟨q, 2, none⟩ = some (.slice At ot0.length ct))
              (repeat' (first | exact HSX.out | exact HS4.out | exact HS5.out | exact HS6.out | refine S8.drew ?_))
              (first
                | (go_at_call 56; refine (Try.behind _ Bm B' _ _ ⟨lc, ln, lf⟩ HLB.out ⟨os0, oc0, ot0⟩ ⟨by have := HOB.out.c0; omega, by have := HOB.out.c1; omega⟩ HOB.out.tl (OWX.out.gr (by repeat (first | exact Gr.refl _ | refine Gr.alloc ?_ _ | refine Gr.trans ?_ (by assumption) | refine Gr.drew ?_ | refine Gr.drewN ?_ _ | refine Gr.grow ?_ _ | refine Gr.setCell ?_ (by (try simp); (try omega)) _))) (OTX.out.gr (by repeat (first | exact Gr.refl _ | refine Gr.alloc ?_ _ | refine Gr.trans ?_ (by assumption) | refine Gr.drew ?_ | refine Gr.drewN ?_ _ | refine Gr.grow ?_ _ | refine Gr.setCell ?_ (by (try simp); (try omega)) _)))).mono ?_; rintro e w4 ⟨v4, rfl, ⟨s4, rfl, ho4⟩, hb4⟩; obtain ⟨A4, c4, rfl⟩ := ho4.form; have hB4 : Below X.heap.size X w4 := Below.trans (Gr.below (show Gr X _ from (by repeat (first | exact Gr.refl _ | refine Gr.alloc ?_ _ | refine Gr.trans ?_ (by assumption) | refine Gr.drew ?_ | refine Gr.drewN ?_ _ | refine Gr.grow ?_ _ | refine Gr.setCell ?_ (by (try simp); (try omega)) _)))) (hb4.mono (by simp)); have HS4 := Lib.hid (HSX.out.kp (below_kp hB4)); have hlk2 := Try.lookE (HOX.out.kept (below_grown hB4 none) (by simp)) HKE.out HV12.out.1 HV12.out.2.1; have hlk3 := Try.lookE ((HOX.out.kept (below_grown hB4 none) (by simp)).kept ((Gr.drew (Gr.refl w4)).grownBy none) (by simp)) HKE.out HV12.out.1 HV12.out.2.1; have HB4 := Lib.hid hB4; have HO4 := Lib.hid ho4)
                | (go_at_call 59; go_loud (refine (Try.orB _ Bm _ _ (LG fits os W (dnK left os (ka, kb) i) (os0, kb)) (some (behE oc0 ot0 ⟨lc, ln, lf⟩)) (Nat.le_trans HBX.out (Nat.le_trans HB4.out.size (Gr.below (show Gr w4 _ from (by repeat (first | exact Gr.refl _ | refine Gr.alloc ?_ _ | refine Gr.trans ?_ (by assumption) | refine Gr.drew ?_ | refine Gr.drewN ?_ _ | refine Gr.grow ?_ _ | refine Gr.setCell ?_ (by (try simp); (try omega)) _)))).size)) (HV12.out.2.2.kp ((below_kp HB4.out).trans (Gr.kp (by repeat (first | exact Gr.refl _ | refine Gr.alloc ?_ _ | refine Gr.trans ?_ (by assumption) | refine Gr.drew ?_ | refine Gr.drewN ?_ _ | refine Gr.grow ?_ _ | refine Gr.setCell ?_ (by (try simp); (try omega)) _))))) (LeV.kp (o := some (behE oc0 ot0 ⟨lc, ln, lf⟩)) ⟨_, rfl, HO4.out.mono (Nat.le_trans HBX.out (by simp))⟩ (Gr.kp (show Gr w4 _ from (by repeat (first | exact Gr.refl _ | refine Gr.alloc ?_ _ | refine Gr.trans ?_ (by assumption) | refine Gr.drew ?_ | refine Gr.drewN ?_ _ | refine Gr.grow ?_ _ | refine Gr.setCell ?_ (by (try simp); (try omega)) _))))) (fun x hx => HB.out.1 _ _ _ hx) (fun x hx => by cases hx; exact HB.out.2.2 _ _ _ HTL.out HMEM.out)).mono ?_); rintro e w5 ⟨v5, rfl, hle5, hb5⟩; obtain ⟨c5, n5, A5, m5, k5, rfl⟩ := hle5.form; have hB5 : Below w4.heap.size w4 w5 := Below.trans (Gr.below (show Gr w4 _ from (by repeat (first | exact Gr.refl _ | refine Gr.alloc ?_ _ | refine Gr.trans ?_ (by assumption) | refine Gr.drew ?_ | refine Gr.drewN ?_ _ | refine Gr.grow ?_ _ | refine Gr.setCell ?_ (by (try simp); (try omega)) _)))) (hb5.mono (by simp)); have HS5 := Lib.hid (HS4.out.kp (below_kp hB5)); obtain ⟨d5, hd5⟩ := hle5.elem (H := Unit); have HD5 := Lib.hid hd5; obtain ⟨w6, hrun6, ho6, ht6⟩ := World.ownsMap.store ((HOX.out.kept (below_grown HB4.out none) (by simp)).kept (below_grown hB5 none) (by simp)) Try.eLaw Try.underlying70 (by unfold maxLen; omega) (show keyOf Try.prog 73 (.agg #[.int .i64 os0, .int .i64 kb]) = some (kle (os0, kb)) from Try.keyOfE (os0, kb) (inK_wf HKE.out)) hd5; have HS6 := Lib.hid (HS5.out.kp (turned_kp ht6)); have HB5 := Lib.hid hB5; have HL5 := Lib.hid hle5))
            all_goals
              obtain ⟨l', hl'⟩ : ∃ l', orL (LG fits os W (dnK left os (ka, kb) i) (os0, kb)) (some (behE oc0 ot0 ⟨lc, ln, lf⟩)) = some l' := by
                cases LG fits os W (dnK left os (ka, kb) i) (os0, kb) <;> exact ⟨_, rfl⟩
              have K56 := turned_kp ht6
              have K2X : Kp wr2 X := Gr.kp HGX.out
              have K6 : Kp wr2 w6 := K2X.trans ((below_kp HB4.out).trans ((below_kp HB5.out).trans K56))
              have hL5 := HL5.out
              rw [hl'] at hL5
              have hM2 : MapL w6 Bm (D2'.put (kle (os0, kb)) d5) (LG fits os W (dnK left os (ka, kb) (i + 1))) := by
                refine (Try.mapL_put (HI.out.m2.kp K6) HKE.out HD5.out (hL5.kp K56)).congr fun a ha => ?_
                rw [HSUC.out, HSTEP.out a]
                simp only [HTL.out, Option.map_some]
                by_cases e : a = (os0, kb)
                · rw [if_pos e, if_pos ⟨hfit, e⟩, e, hl']
                · rw [if_neg e, if_neg (fun h => e h.2)]
              have hI' : Try.LdI Bm b1 b2 r fits os W w wk w6 left (ka, kb) cnt1 D1 (D2'.put (kle (os0, kb)) d5) (i + 1) := by
                refine ⟨?_, HI.out.m1.kp K6, owns_tight ho6 (Try.mapSize hM2 ho6), hM2, HI.out.kp.trans K6, ?_⟩
                · exact (((HI.out.rg.kept (Gr.grownBy HGX.out none) (by simp) (by simp)).kept (below_grown HB4.out none) (by simp) (by simp)).kept (below_grown HB5.out none) (by simp) (by simp)).kept ht6.grown (fun e => hb12 (Option.some.inj e)) (fun e => by have := Option.some.inj e; omega)
                · have q1 := HB4.out.mono (B := X.heap.size) HBX.out
                  have q2 := HB5.out.mono (Nat.le_trans HBX.out HB4.out.size)
                  have q3 : Below Bm wr2 X := HGX.out.below.mono (by have := HI.out.bl.size; have := HRR.out; omega)
                  exact Below.grown (HI.out.bl.trans (q3.trans (q1.trans q2))) ht6.grown (Nat.le_trans HBX.out (Nat.le_trans HB4.out.size HB5.out.size)) (fun j e => by cases e; exact hB2)
              have HII := Lib.hid hI'
              clear ht6 ho6 hrun6 hI' hM2 hL5 K56 K2X K6 hl' s0 s1 s2 s3 s4 s5 s6 s7 hlk0 hlk1 hlk2 hlk3 S0
              go_wp2_with fail
              go_roundw
              case rel => exact ⟨i + 1, _, by go_num, by omega, HII.out⟩
              case measure => simp [intOf]; omega
        · obtain rfl : i = os.length := by omega
          have z1 : ¬ (os.length : Int) < (os.length : Int) := by omega
          have hkey : keyOf Try.prog 73 (.agg #[.int .i64 ka, .int .i64 kb]) = some (kle (ka, kb)) := Try.keyOfE (ka, kb) (inK_wf HKK.out)
          have hrgi := HI.out.rg
          go_wp2_with (first
            | (at_delete; refine wpList_delete_ranges _ rfl _ _ 70 73 rfl 46 Try.eLaw Try.underlying70 lElem b1 r 64 _ _ _ rfl hrgi (.agg #[.int .i64 ka, .int .i64 kb]) _ rfl hkey ?_; intro w7 cnt2 hrg2 hle2 hturn; go_frame)
            | go_in)
          rw [strike_twice] at hrg2
          have K7 := turned_kp hturn
          have HR7 := Lib.hid (show Try.LdR Bm b1 b2 r fits os W w w7 (fun z => left z && !z.sameKey (kle (ka, kb))) cnt2 (D1.del (kle (ka, kb))) D2' from by
            refine ⟨hrg2, fun z => ?_, ?_, ?_, ?_, ?_, ?_⟩
            · by_cases e : z = kle (ka, kb)
              · subst e
                rw [has_del_same, WideAt.sameKey_self (show WideAt.IsKeyLit (kle (ka, kb)) from trivial)]
                simp
              · rw [has_del_other e, HR.out.hs, sameKey_ne e]
                simp
            · refine (Try.mapL_del (HI.out.m1.kp K7) HKK.out).congr fun q hq => ?_
              rw [Try.same_kle hq HKK.out]
              by_cases e : q = (ka, kb)
              · subst e; simp
              · have e2 : (q == (ka, kb)) = false := by simpa using e
                rw [if_neg e, e2]; simp
            · exact HI.out.o2.kept hturn.grown (fun e => hb12 (Option.some.inj e).symm)
            · exact (HI.out.m2.kp K7).congr fun q hq => Try.LG_next fits os W left (ka, kb) HKK.out HW.out q
            · exact HR.out.kp.trans (HK1.out.trans ((Gr.kp HGK.out).trans (HI.out.kp.trans K7)))
            · exact Below.grown HI.out.bl hturn.grown (by have := HI.out.bl.size; have := HRR.out; omega) (fun j e => by cases e; exact hB1))
          have HLE2 := Lib.hid (show w7.rangeLeft b1 r = cnt2 ∧ cnt2 ≤ cnt1 from ⟨hrg2.left_eq, hle2⟩)
          clear hrg2 hle2 hturn hrgi K7
          go_roundw
          case rel => exact ⟨_, _, _, _, HR7.out⟩
          case measure => rw [HLE2.out.1, HMS.out]; have := HLE2.out.2; have := HLT.out; omega
end Go.Proofs
