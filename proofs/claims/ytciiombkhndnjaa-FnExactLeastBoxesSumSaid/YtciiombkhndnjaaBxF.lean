/-
  Contracts of chapter 5, the program: the best choice behind a box (impl.bestBehind).
-/
import Derived.Test.YtciiombkhndnjaaBxE
import Derived.Lib.LazyBuf
namespace Go.Proofs
open Go.RowKit
set_option linter.unusedVariables false
set_option linter.unusedSimpArgs false
/-- where the part before a box begins: behind the box lo - 1, or at the beginning -/
def FromA (a a' : Int) (lo : Nat) : Prop := (a = a' ∧ a' + 1 = (lo : Int) ∧ 0 ≤ a') ∨ (a = -120 ∧ a' = -1 ∧ lo = 0)
theorem Try.bbIn (w : World) (v : Value) (xs : List Int) (a a' : Int) (lo t : Nat) (hA : FromA a a' lo) (hp : PplRow w v xs) (hl : xs.length ≤ 60) (h1 : lo ≤ t) (h2 : t < xs.length) :
    Calls Try.prog 71 #[v, .int .i64 a, .int .i64 (t : Int)] w fun e w' => ∃ bp bf vp, e = .returned (.func (.func 86) #[] #[.pointer (some ⟨bp, 0, none⟩), .pointer (some ⟨bf, 0, none⟩)]) ∧ Gr w w' ∧ PartRow w' vp xs (lo0 a') (t - lo0 a') ∧
      w'.cell? ⟨bp, 0, none⟩ = some vp ∧ w'.cell? ⟨bf, 0, none⟩ = some (.int .i64 ((lo0 a' : Nat) : Int)) := by
  rcases hA with ⟨rfl, h3, h4⟩ | ⟨rfl, rfl, rfl⟩
  · have e : (lo0 a : Int) = a := by unfold lo0; omega
    exact Try.sumsIn w v xs a (t : Int) (lo0 a) (t - lo0 a) hp hl (by omega) (by omega) (by omega)
  · have e : lo0 (-1) = 0 := rfl
    rw [e]
    rcases Nat.eq_zero_or_pos t with q | q
    · subst q
      exact Try.sumsIn0 w v xs hp hl
    · exact Try.sumsIn w v xs (-120) (t : Int) 0 (t - 0) hp hl (by omega) (by omega) (by omega)
theorem bbPt {xs : List Int} {a a' : Int} {lo t : Nat} (hA : FromA a a' lo) (hl : xs.length ≤ 60) (h1 : lo ≤ t) (h2 : t < xs.length) : sumF (stf xs [a, (t : Int)] (lo0 a')) (t - lo0 a') = pt xs a' t := by
  rcases hA with ⟨rfl, h3, h4⟩ | ⟨rfl, rfl, rfl⟩
  · obtain ⟨j, rfl⟩ : ∃ j : Nat, a = (j : Int) := ⟨a.toNat, by omega⟩
    have e : lo0 (j : Int) = j := by unfold lo0; omega
    rw [e]
    exact part_two (by omega) h2
  · have e : lo0 (-1) = 0 := rfl
    rw [e, Nat.sub_zero]
    exact part_first h2 hl
theorem box2r {W : World} {g : Nat} {a b : Int} (ha : -200 ≤ a ∧ a ≤ 200) (hb : -200 ≤ b ∧ b ≤ 200) (h : W.cell? ⟨g, 0, none⟩ = some (.int .i64 a)) (h' : W.cell? ⟨g, 1, none⟩ = some (.int .i64 b)) : BoxRow W (.slice (some ⟨g, 0, none⟩) 2 2) [a, b] :=
  ⟨g, 2, rfl, by simp, by simp, fun j hj => (by
    have : j = 0 ∨ j = 1 := (by simp at hj; omega)
    rcases this with rfl | rfl
    · simpa [gx] using h
    · simpa [gx] using h'), fun j hj => (by
    have : j = 0 ∨ j = 1 := (by simp at hj; omega)
    rcases this with rfl | rfl
    · simpa [gx] using ha
    · simpa [gx] using hb)⟩
theorem Try.idx1B (a b : Int) (W : World) : (Instr.index 104 (.agg #[.int .i64 a, .int .i64 b]) (.int .i64 1)).run Try.prog W = .ok (.int .i64 b) W := by kernel_rfl
theorem one_k {w W : World} {a : Addr} {x : Value} (g : Gr w W) (h : w.cell? a = some x) : W.cell? a = some x := g.keep0 h
def Try.BbRel (xs : List Int) (k : Nat) (g : Nat → Int) (lo M : Nat) (w : World) (B : Nat) (i : Value) (wr : World) : Prop :=
  ∃ m : Nat, lo + m ≤ M ∧ i = .int .i64 ((lo + m : Nat) : Int) ∧ Gr (w.alloc (.cells #[.slice none 0 0, .int .i64 0] 78)) wr ∧ wr.frozen? ⟨w.heap.size + 1, 0, none⟩ = false ∧ wr.frozen? ⟨w.heap.size + 1, 1, none⟩ = false ∧
    (m = 0 → wr.cell? ⟨w.heap.size + 1, 0, none⟩ = some (.slice none 0 0) ∧ wr.cell? ⟨w.heap.size + 1, 1, none⟩ = some (.int .i64 0)) ∧
    (0 < m → ∃ gb c, wr.cell? ⟨w.heap.size + 1, 0, none⟩ = some (.slice (some ⟨gb, 0, none⟩) (k + 1) c) ∧ wr.cell? ⟨w.heap.size + 1, 1, none⟩ = some (.int .i64 (ibs g lo m).2) ∧ OwnI w B (.slice (some ⟨gb, 0, none⟩) (k + 1) c) (bxN xs k (ibs g lo m).1.toNat))
set_option maxRecDepth 100000 in
set_option maxHeartbeats 4000000 in
theorem Try.bestBehind (w : World) (B : Nat) (v v2 : Value) (xs : List Int) (k : Nat) (a a' : Int) (lo : Nat) (hg : GoodP xs) (hk : k ≤ 4) (hA : FromA a a' lo) (hlo : lo + k < xs.length) (hp : PplRow w v xs) (hc : OwnC w B v2 (xs.length - k) (bxN xs k) (rsN xs k)) :
    Calls Try.prog 72 #[v, v2, .int .i64 a] w fun e w' => ∃ u, e = .returned (.agg #[u, .int .i64 (sel xs k a').2]) ∧ Gr w w' ∧ OwnI w' B u (wayB xs k a') := by
  have mixed : Try.prog.follows .mixedOrders = true := by kernel_rfl
  have hxl := hg.1
  have hla : -120 ≤ a ∧ a ≤ 60 ∧ max (a + 1) 0 = (lo : Int) ∧ -1 ≤ a' ∧ (a' + 1).toNat = lo := by rcases hA with ⟨rfl, h3, h4⟩ | ⟨rfl, rfl, rfl⟩ <;> omega
  obtain ⟨a1, a2, a3, a4, a5⟩ := hla
  obtain ⟨ts, s1, s2, s3, s4, s5, s6, s7⟩ := sel_ok hg (k := k) (a := a') a4 hk (by omega)
  rw [a5] at s2 s6 s7
  obtain ⟨gc, cc, rfl, hrows⟩ := hc.form (by omega)
  have HROWS := Lib.hid hrows
  have HP := Lib.hid hp
  have HGD := Lib.hid hg
  have HA := Lib.hid hA
  have HS7 := Lib.hid s7
  have HEND := Lib.hid (show ibs (Gg xs k a') lo (xs.length - k - lo) = sel xs k a' from (ibs_fam _ _ _ (by omega) (fun t ht => (s7 (lo + t) (by omega) (by omega)).2)).trans s6.symm)
  have HW := Lib.hid (show wayB xs k a' = bxN xs k (sel xs k a').1.toNat from rfl)
  obtain ⟨g, c, rfl, _⟩ := hp
  generalize hM : xs.length - k = M at *
  have hMx : M ≤ xs.length := by omega
  have wa : IntKind.i64.wrap (a + 1) = a + 1 := IntWalk.i64_in _ (by omega)
  have hix := Try.idx1B
  have heqn := fun (W : World) (A : Option Addr) (l c : Nat) => Lib.run_eql_slice_nil (P := Try.prog) W 25 3 A l c 0 0 Try.underlying25
  clear hrows hg hA s1 s2 s3 s4 s5 s6 s7 hc a5
  go_enter Try.func72, Try.ntmps72
  go_wp2
  go_loopw [8] (fun i wr => Try.BbRel xs k (Gg xs k a') lo M w B i wr) (fun i _ => (M - intOf i).toNat)
  case atStart =>
    refine ⟨0, by omega, by rw [Nat.add_zero], by repeat (first | exact Gr.refl _ | refine Gr.alloc ?_ _ | refine Gr.trans ?_ (by assumption) | refine Gr.drew ?_ | refine Gr.drewN ?_ _ | refine Gr.grow ?_ _ | refine Gr.setCell ?_ (by (try simp); (try omega)) _), ?_, ?_, fun _ => ⟨?_, ?_⟩, fun q => absurd q (Nat.lt_irrefl _)⟩
    · simp [go_sem]
    · simp [go_sem]
    · simp [go_sem]
    · simp [go_sem]
  case round =>
    obtain ⟨m, hm, rfl, gr, t2, t3, h0, h1⟩ := hrel
    have grw : Gr w wr := (Gr.alloc (Gr.refl w) _).trans gr
    have HG := Lib.hid gr
    by_cases hlt : lo + m < M
    · have htx : lo + m < xs.length := by omega
      obtain ⟨uc, hu1, hu2, hu3⟩ := HROWS.out (lo + m) hlt
      obtain ⟨gb2, cb2, rfl, _, _, hu3⟩ := hu3.rowB (by rw [bxN_len]; omega)
      rw [bxN_len] at hu1 hu3
      have e1 := grw.keep2 hu1
      have e2 := grw.keep2 hu2
      have HU3 := Lib.hid hu3
      have hG := HS7.out (lo + m) (by omega) (by omega)
      have hGe : Gg xs k a' (lo + m) = pt xs a' (lo + m) + rsN xs k (lo + m) := rfl
      have HSI := Lib.hid (fun W (g' : Gr w W) => Try.bbIn W _ xs a a' lo (lo + m) HA.out (HP.out.gr g') hxl.2 (by omega) htx)
      have hpt := bbPt HA.out hxl.2 (show lo ≤ lo + m by omega) htx
      have HFN := Lib.hid (fun (W : World) (gb : Nat) (vp : Value) (bp bf : Nat) (hb0 : W.cell? ⟨gb, 0, none⟩ = some (.int .i64 a)) (hb1 : W.cell? ⟨gb, 1, none⟩ = some (.int .i64 ((lo + m : Nat) : Int))) (hp : PartRow W vp xs (lo0 a') (lo + m - lo0 a')) => Try.sumsFn W (.slice (some ⟨gb, 0, none⟩) 2 2) vp [a, ((lo + m : Nat) : Int)] xs (lo0 a') (lo + m - lo0 a') bp bf HGD.out (box2r (by omega) (by omega) hb0 hb1) hp)
      rw [hpt] at HFN
      have hS := ibs_s (Gg xs k a') lo m
      rw [hGe] at hS hG
      have HNX := Lib.hid (show ((lo + m : Nat) : Int) + 1 = ((lo + (m + 1) : Nat) : Int) by omega)
      have bp := pt_bd HGD.out (a := a') (b := lo + m) (by omega) (.inr htx)
      have br := rsN_nn HGD.out k (lo + m) htx
      generalize hPP : pt xs a' (lo + m) = pp at *
      generalize hRR : rsN xs k (lo + m) = rr at *
      generalize sumF (hdf xs (lo0 a')) (lo + m - lo0 a') = hd at *
      unfold big at br
      have wp : IntKind.i64.wrap (pp + rr) = pp + rr := IntWalk.i64_in _ (by omega)
      have x0 : (0 : Int) ≤ ((lo + m : Nat) : Int) := by omega
      have x1 : ((lo + m : Nat) : Int) < (M : Int) := by omega
      have szr : w.heap.size + 1 < wr.heap.size := by
        rcases Nat.eq_zero_or_pos m with q | q
        · exact World.block_lt_of_cell? _ _ (h0 q).1
        · obtain ⟨_, _, q1, _⟩ := h1 q; exact World.block_lt_of_cell? _ _ q1
      clear gr hu1 hu2 hu3 hpt hGe hPP hRR
      rcases Nat.eq_zero_or_pos m with hm0 | hmp
      · obtain ⟨t0, t1⟩ := h0 hm0
        rw [if_pos (.inl hm0)] at hS
        have HS := Lib.hid hS
        subst hm0
        clear h0 h1 hS
        generalize hT : lo + 0 = T at *
        go_wp2
        go_region_held3 (fun W' => W'.cell? ⟨gc, T * 2 + 1, none⟩ = some (.int .i64 rr))
          (exact one_k (w := wr) (by repeat (first | exact Gr.refl _ | refine Gr.alloc ?_ _ | refine Gr.trans ?_ (by assumption) | refine Gr.drew ?_ | refine Gr.drewN ?_ _ | refine Gr.grow ?_ _ | refine Gr.setCell ?_ (by (try simp); (try omega)) _)) e2)
          (first | (go_at_call 71; refine (HSI.out _ (Gr.trans grw (by repeat (first | exact Gr.refl _ | refine Gr.alloc ?_ _ | refine Gr.trans ?_ (by assumption) | refine Gr.drew ?_ | refine Gr.drewN ?_ _ | refine Gr.grow ?_ _ | refine Gr.setCell ?_ (by (try simp); (try omega)) _)))).mono ?_; rintro e w2 ⟨bp2, bf2, vp, rfl, g2, p2, c1, c2⟩) | (go_at_call 86; refine (HFN.out _ _ vp bp2 bf2 (by first | (simp [go_sem]; done) | exact g2.keep2 (by simp [go_sem])) (by first | (simp [go_sem]; done) | exact g2.keep2 (by simp [go_sem])) (p2.gr (by repeat (first | exact Gr.refl _ | refine Gr.alloc ?_ _ | refine Gr.trans ?_ (by assumption) | refine Gr.drew ?_ | refine Gr.drewN ?_ _ | refine Gr.grow ?_ _ | refine Gr.setCell ?_ (by (try simp); (try omega)) _))) (Gr.keep2 (w := w2) (by repeat (first | exact Gr.refl _ | refine Gr.alloc ?_ _ | refine Gr.trans ?_ (by assumption) | refine Gr.drew ?_ | refine Gr.drewN ?_ _ | refine Gr.grow ?_ _ | refine Gr.setCell ?_ (by (try simp); (try omega)) _)) c1) (Gr.keep2 (w := w2) (by repeat (first | exact Gr.refl _ | refine Gr.alloc ?_ _ | refine Gr.trans ?_ (by assumption) | refine Gr.drew ?_ | refine Gr.drewN ?_ _ | refine Gr.grow ?_ _ | refine Gr.setCell ?_ (by (try simp); (try omega)) _)) c2)).mono ?_; rintro e w3 ⟨rfl, g3⟩))
        all_goals
          have G3 := Lib.hid (show Gr wr w3 from (by repeat (first | exact Gr.refl _ | refine Gr.alloc ?_ _ | refine Gr.trans ?_ (by assumption) | refine Gr.drew ?_ | refine Gr.drewN ?_ _ | refine Gr.grow ?_ _ | refine Gr.setCell ?_ (by (try simp); (try omega)) _)))
          have k0 := G3.out.keep2 t0
          have k1 := G3.out.keep2 t1
          have k2 := ((bcell G3.out.below).2 _ _ szr).trans t2
          have k3 := ((bcell G3.out.below).2 _ _ szr).trans t3
          have k4 := G3.out.keep2 e1
          go_wp2
          go_roundw
          case rel =>
            refine ⟨0 + 1, by omega, by rw [← HNX.out], Gr.setCell (Gr.setCell (HG.out.trans G3.out) (by simp) _) (by simp) _, ?_, ?_, fun q => by omega, fun _ => ⟨gb2, cb2, ?_, ?_, ?_⟩⟩
            · simpa using k2
            · simpa using k3
            · rw [World.cell?_setCell_other _ ⟨w.heap.size + 1, 1, none⟩ ⟨w.heap.size + 1, 0, none⟩ _ (by simp)]
              exact World.cell?_setCell_same _ _ _ k0
            · rw [HS.out]
              exact World.cell?_setCell_same _ _ _ (by rw [World.cell?_setCell_other _ ⟨w.heap.size + 1, 0, none⟩ ⟨w.heap.size + 1, 1, none⟩ _ (by simp)]; exact k1)
            · rw [HS.out]
              simp only [Int.toNat_natCast]
              exact HU3.out
          case measure => simp [intOf]; omega
      · obtain ⟨gb, cb, t0, t1, t4⟩ := h1 hmp
        have hm0 : ¬ m = 0 := by omega
        obtain ⟨st, hst⟩ : ∃ st, ibs (Gg xs k a') lo m = st := ⟨_, rfl⟩
        rw [hst] at hS t1 t4
        have HT4 := Lib.hid t4
        clear h0 h1 t4
        generalize hT : lo + m = T at *
        by_cases hl : pp + rr < st.2
        · rw [if_pos (.inr hl)] at hS
          have HS := Lib.hid hS
          clear hS
          go_wp2
          go_region_held3 (fun W' => W'.cell? ⟨gc, T * 2 + 1, none⟩ = some (.int .i64 rr))
            (exact one_k (w := wr) (by repeat (first | exact Gr.refl _ | refine Gr.alloc ?_ _ | refine Gr.trans ?_ (by assumption) | refine Gr.drew ?_ | refine Gr.drewN ?_ _ | refine Gr.grow ?_ _ | refine Gr.setCell ?_ (by (try simp); (try omega)) _)) e2)
            (first | (go_at_call 71; refine (HSI.out _ (Gr.trans grw (by repeat (first | exact Gr.refl _ | refine Gr.alloc ?_ _ | refine Gr.trans ?_ (by assumption) | refine Gr.drew ?_ | refine Gr.drewN ?_ _ | refine Gr.grow ?_ _ | refine Gr.setCell ?_ (by (try simp); (try omega)) _)))).mono ?_; rintro e w2 ⟨bp2, bf2, vp, rfl, g2, p2, c1, c2⟩) | (go_at_call 86; refine (HFN.out _ _ vp bp2 bf2 (by first | (simp [go_sem]; done) | exact g2.keep2 (by simp [go_sem])) (by first | (simp [go_sem]; done) | exact g2.keep2 (by simp [go_sem])) (p2.gr (by repeat (first | exact Gr.refl _ | refine Gr.alloc ?_ _ | refine Gr.trans ?_ (by assumption) | refine Gr.drew ?_ | refine Gr.drewN ?_ _ | refine Gr.grow ?_ _ | refine Gr.setCell ?_ (by (try simp); (try omega)) _))) (Gr.keep2 (w := w2) (by repeat (first | exact Gr.refl _ | refine Gr.alloc ?_ _ | refine Gr.trans ?_ (by assumption) | refine Gr.drew ?_ | refine Gr.drewN ?_ _ | refine Gr.grow ?_ _ | refine Gr.setCell ?_ (by (try simp); (try omega)) _)) c1) (Gr.keep2 (w := w2) (by repeat (first | exact Gr.refl _ | refine Gr.alloc ?_ _ | refine Gr.trans ?_ (by assumption) | refine Gr.drew ?_ | refine Gr.drewN ?_ _ | refine Gr.grow ?_ _ | refine Gr.setCell ?_ (by (try simp); (try omega)) _)) c2)).mono ?_; rintro e w3 ⟨rfl, g3⟩))
          all_goals
            have G3 := Lib.hid (show Gr wr w3 from (by repeat (first | exact Gr.refl _ | refine Gr.alloc ?_ _ | refine Gr.trans ?_ (by assumption) | refine Gr.drew ?_ | refine Gr.drewN ?_ _ | refine Gr.grow ?_ _ | refine Gr.setCell ?_ (by (try simp); (try omega)) _)))
            have k0 := G3.out.keep2 t0
            have k1 := G3.out.keep2 t1
            have k2 := ((bcell G3.out.below).2 _ _ szr).trans t2
            have k3 := ((bcell G3.out.below).2 _ _ szr).trans t3
            have k4 := G3.out.keep2 e1
            go_wp2
            go_roundw
            case rel =>
              refine ⟨m + 1, by omega, by rw [← HNX.out], Gr.setCell (Gr.setCell (HG.out.trans G3.out) (by simp) _) (by simp) _, ?_, ?_, fun q => by omega, fun _ => ⟨gb2, cb2, ?_, ?_, ?_⟩⟩
              · simpa using k2
              · simpa using k3
              · rw [World.cell?_setCell_other _ ⟨w.heap.size + 1, 1, none⟩ ⟨w.heap.size + 1, 0, none⟩ _ (by simp)]
                exact World.cell?_setCell_same _ _ _ k0
              · rw [HS.out]
                exact World.cell?_setCell_same _ _ _ (by rw [World.cell?_setCell_other _ ⟨w.heap.size + 1, 0, none⟩ ⟨w.heap.size + 1, 1, none⟩ _ (by simp)]; exact k1)
              · rw [HS.out]
                simp only [Int.toNat_natCast]
                exact HU3.out
            case measure => simp [intOf]; omega
        · rw [if_neg (fun q => q.elim hm0 hl)] at hS
          have HS := Lib.hid hS
          clear hS
          go_wp2
          go_region_held3 (fun W' => W'.cell? ⟨gc, T * 2 + 1, none⟩ = some (.int .i64 rr))
            (exact one_k (w := wr) (by repeat (first | exact Gr.refl _ | refine Gr.alloc ?_ _ | refine Gr.trans ?_ (by assumption) | refine Gr.drew ?_ | refine Gr.drewN ?_ _ | refine Gr.grow ?_ _ | refine Gr.setCell ?_ (by (try simp); (try omega)) _)) e2)
            (first | (go_at_call 71; refine (HSI.out _ (Gr.trans grw (by repeat (first | exact Gr.refl _ | refine Gr.alloc ?_ _ | refine Gr.trans ?_ (by assumption) | refine Gr.drew ?_ | refine Gr.drewN ?_ _ | refine Gr.grow ?_ _ | refine Gr.setCell ?_ (by (try simp); (try omega)) _)))).mono ?_; rintro e w2 ⟨bp2, bf2, vp, rfl, g2, p2, c1, c2⟩) | (go_at_call 86; refine (HFN.out _ _ vp bp2 bf2 (by first | (simp [go_sem]; done) | exact g2.keep2 (by simp [go_sem])) (by first | (simp [go_sem]; done) | exact g2.keep2 (by simp [go_sem])) (p2.gr (by repeat (first | exact Gr.refl _ | refine Gr.alloc ?_ _ | refine Gr.trans ?_ (by assumption) | refine Gr.drew ?_ | refine Gr.drewN ?_ _ | refine Gr.grow ?_ _ | refine Gr.setCell ?_ (by (try simp); (try omega)) _))) (Gr.keep2 (w := w2) (by repeat (first | exact Gr.refl _ | refine Gr.alloc ?_ _ | refine Gr.trans ?_ (by assumption) | refine Gr.drew ?_ | refine Gr.drewN ?_ _ | refine Gr.grow ?_ _ | refine Gr.setCell ?_ (by (try simp); (try omega)) _)) c1) (Gr.keep2 (w := w2) (by repeat (first | exact Gr.refl _ | refine Gr.alloc ?_ _ | refine Gr.trans ?_ (by assumption) | refine Gr.drew ?_ | refine Gr.drewN ?_ _ | refine Gr.grow ?_ _ | refine Gr.setCell ?_ (by (try simp); (try omega)) _)) c2)).mono ?_; rintro e w3 ⟨rfl, g3⟩))
          all_goals
            have G3 := Lib.hid (show Gr wr w3 from (by repeat (first | exact Gr.refl _ | refine Gr.alloc ?_ _ | refine Gr.trans ?_ (by assumption) | refine Gr.drew ?_ | refine Gr.drewN ?_ _ | refine Gr.grow ?_ _ | refine Gr.setCell ?_ (by (try simp); (try omega)) _)))
            have k0 := G3.out.keep2 t0
            have k1 := G3.out.keep2 t1
            have k2 := ((bcell G3.out.below).2 _ _ szr).trans t2
            have k3 := ((bcell G3.out.below).2 _ _ szr).trans t3
            have k4 := G3.out.keep2 e1
            go_wp2
            go_roundw
            case rel => exact ⟨m + 1, by omega, by rw [← HNX.out], HG.out.trans G3.out, k2, k3, fun q => by omega, fun _ => ⟨gb, cb, k0, by rw [HS.out]; exact k1, by rw [HS.out]; exact HT4.out⟩⟩
            case measure => simp [intOf]; omega
    · obtain rfl : m = M - lo := by omega
      obtain ⟨gb, cb, t0, t1, t4⟩ := h1 (by omega)
      rw [HEND.out] at t1 t4
      have r0 : wr.cell? ⟨w.heap.size, 0, none⟩ = some (.slice none 0 0) := gr.keep2 (by simp [go_sem])
      have r1 : wr.cell? ⟨w.heap.size, 1, none⟩ = some (.int .i64 0) := gr.keep2 (by simp [go_sem])
      have r2 : wr.frozen? ⟨w.heap.size, 0, none⟩ = false := ((bcell gr.below).2 _ _ (by simp)).trans (by simp [go_sem])
      have r3 : wr.frozen? ⟨w.heap.size, 1, none⟩ = false := ((bcell gr.below).2 _ _ (by simp)).trans (by simp [go_sem])
      have HT4 := Lib.hid t4
      have GW := Lib.hid grw
      have zz : ¬ ((lo + (M - lo) : Nat) : Int) < (M : Int) := by omega
      clear gr grw h0 h1 t4
      go_wp2
      refine bodyPost_ret (v := .agg #[.slice (some ⟨gb, 0, none⟩) (k + 1) cb, .int .i64 (sel xs k a').2]) ?_ rfl ⟨_, rfl, ?_, ?_⟩
      · simp [results, Try.results72, go_sem, r0, r1, r2, r3]
      · exact Gr.setCell (Gr.setCell GW.out (by simp) _) (by simp) _
      · rw [HW.out]
        exact HT4.out.gr (Gr.setCell (Gr.setCell GW.out (by simp) _) (by simp) _)
end Go.Proofs
