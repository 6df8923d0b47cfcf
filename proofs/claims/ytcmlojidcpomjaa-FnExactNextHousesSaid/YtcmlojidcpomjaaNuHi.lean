/-
  Contracts of chapter 1: NextHouses, the program's side.
-/
import Derived.Test.YtcmlojidcpomjaaNuH
namespace Go.Proofs
open Go.RowKit
set_option linter.unusedVariables false
set_option linter.unusedSimpArgs false
theorem Try.iNumberAt_b (k p sd q : Int) (b : Bool) (h : naB k p sd q = b) (w : World) :
    Calls Try.prog 45 #[.agg #[.int .i64 k, .int .i64 p], .int .i64 sd, .int .i64 q] w fun e w' => e = .returned (.tuple #[.int .i64 (naV k p sd q), .bool b]) ∧ Gr w w' := by
  subst h
  exact Try.iNumberAt k p sd q w
theorem beL_na (k p sd q : Int) (hg : gd k p = true) (hh : hsd k sd = true) : naB k p sd q = inn q 0 (p - 1) ∧ beL k p sd q = if inn q 0 (p - 1) then [naV k p sd q] else [] := by
  have e : naB k p sd q = inn q 0 (p - 1) := by simp [naB, hg, hh]
  refine ⟨e, ?_⟩
  unfold beL naV
  rw [e]
  cases inn q 0 (p - 1) <;> simp
set_option maxRecDepth 100000 in
set_option maxHeartbeats 1600000 in
theorem Try.iNextHouses (k p n : Int) (w : World) :
    Calls Try.prog 13 #[.agg #[.int .i64 k, .int .i64 p], .int .i64 n] w (RetI w (nhL k p n) (asB k p n)) := by
  cases hg : asB k p n
  · rw [show nhL k p n = [] by simp [nhL, hg]]
    have H := Lib.hid hg
    clear hg
    go_enter Try.func13, Try.ntmps13
    go_wp2_with (go_at_call 43; refine (Try.hasHouse _ _ _ _ H.out _).mono ?_; rintro e w1 ⟨rfl, hbW⟩; have hcW := (bcell hbW.below).1; have hfW := (bcell hbW.below).2; (try have hzW : w.heap.size < w1.heap.size := by have hq := hbW.below.size; (try simp at hq); omega); (try have hyW : w.heap.size + 1 < w1.heap.size := by have hq := hbW.below.size; (try simp at hq); omega); (try have hxW : w.heap.size + 2 < w1.heap.size := by have hq := hbW.below.size; (try simp at hq); omega))
    go_ret2
    exact ⟨_, rfl, OwnI.nil _ _, Gr.below (by repeat (first | exact Gr.refl _ | refine Gr.alloc ?_ _ | refine Gr.trans ?_ (by assumption) | refine Gr.drew ?_ | refine Gr.drewN ?_ _ | refine Gr.grow ?_ _ | refine Gr.setCell ?_ (by (try simp); (try omega)) _))⟩
  · obtain ⟨hgd, h4, h5⟩ := asB_t hg
    obtain ⟨h0, h1, h2, h3⟩ := gd_t hgd
    have hs1 := sdo_bd k p n h4
    have hp1 := plo_bd k p n h2 h4 h5
    rw [show nhL k p n = nhR k p (sdo k p n) (plo k p n) by simp [nhL, hg]]
    have H := Lib.hid hg
    have HPL := Lib.hid (fun (w : World) => Try.placeOf k p n w h0 h1 h2 h3 h4 h5)
    have HHS := Lib.hid (show hsd k (sdo k p n) = true by unfold hsd; simp; unfold sdo; unfold hs at h5; omega)
    have HGD := Lib.hid hgd
    obtain ⟨n1, l1⟩ := beL_na k p (sdo k p n) (plo k p n - 1) HGD.out HHS.out
    obtain ⟨n2, l2⟩ := beL_na k p (sdo k p n) (plo k p n + 1) HGD.out HHS.out
    generalize hsd0 : sdo k p n = sd at *
    generalize hq0 : plo k p n = q at *
    clear hg hgd h4 h5 hsd0 hq0
    have HS := Lib.hid hs1
    obtain ⟨q0, q1⟩ := hp1
    clear hs1
    unfold nhR
    rw [l1, l2]
    clear l1 l2
    cases i1 : inn (q - 1) 0 (p - 1) <;> cases i2 : inn (q + 1) 0 (p - 1)
    all_goals
      rw [i1] at n1
      rw [i2] at n2
      simp only [if_true, if_false, Bool.false_eq_true, List.append_nil, List.nil_append]
      have N1 := Lib.hid n1
      have N2 := Lib.hid n2
      clear i1 i2 n1 n2
      go_enter Try.func13, Try.ntmps13
      go_wp2_with (first | (go_at_call 43; refine (Try.hasHouse _ _ _ _ H.out _).mono ?_; rintro e w1 ⟨rfl, hbW⟩; have hcW := (bcell hbW.below).1; have hfW := (bcell hbW.below).2; (try have hzW : w.heap.size < w1.heap.size := by have hq := hbW.below.size; (try simp at hq); omega); (try have hyW : w.heap.size + 1 < w1.heap.size := by have hq := hbW.below.size; (try simp at hq); omega); (try have hxW : w.heap.size + 2 < w1.heap.size := by have hq := hbW.below.size; (try simp at hq); omega)) | (go_at_call 44; refine (HPL.out _).mono ?_; rintro e w1 ⟨rfl, hbW⟩; have hcW := (bcell hbW.below).1; have hfW := (bcell hbW.below).2; (try have hzW : w.heap.size < w1.heap.size := by have hq := hbW.below.size; (try simp at hq); omega); (try have hyW : w.heap.size + 1 < w1.heap.size := by have hq := hbW.below.size; (try simp at hq); omega); (try have hxW : w.heap.size + 2 < w1.heap.size := by have hq := hbW.below.size; (try simp at hq); omega)))
      have gw : Gr w ((w1.alloc (.cells #[.int .i64 sd, .int .i64 q] 65)).alloc (.cells #[.int .i64 (q - 1), .int .i64 (q + 1)] 3)) := (by repeat (first | exact Gr.refl _ | refine Gr.alloc ?_ _ | refine Gr.trans ?_ (by assumption) | refine Gr.drew ?_ | refine Gr.drewN ?_ _ | refine Gr.grow ?_ _ | refine Gr.setCell ?_ (by (try simp); (try omega)) _))
      have c0 : ((w1.alloc (.cells #[.int .i64 sd, .int .i64 q] 65)).alloc (.cells #[.int .i64 (q - 1), .int .i64 (q + 1)] 3)).cell? ⟨w.heap.size, 0, none⟩ = some (.int .i64 k) := by go_simp
      have c1 : ((w1.alloc (.cells #[.int .i64 sd, .int .i64 q] 65)).alloc (.cells #[.int .i64 (q - 1), .int .i64 (q + 1)] 3)).cell? ⟨w.heap.size, 1, none⟩ = some (.int .i64 p) := by go_simp
      have e0 : ((w1.alloc (.cells #[.int .i64 sd, .int .i64 q] 65)).alloc (.cells #[.int .i64 (q - 1), .int .i64 (q + 1)] 3)).cell? ⟨w1.heap.size, 0, none⟩ = some (.int .i64 sd) := by go_simp
      have e1 : ((w1.alloc (.cells #[.int .i64 sd, .int .i64 q] 65)).alloc (.cells #[.int .i64 (q - 1), .int .i64 (q + 1)] 3)).cell? ⟨w1.heap.size, 1, none⟩ = some (.int .i64 q) := by go_simp
      have d0 : ((w1.alloc (.cells #[.int .i64 sd, .int .i64 q] 65)).alloc (.cells #[.int .i64 (q - 1), .int .i64 (q + 1)] 3)).cell? ⟨w1.heap.size + 1, 0, none⟩ = some (.int .i64 (q - 1)) := by go_simp
      have d1 : ((w1.alloc (.cells #[.int .i64 sd, .int .i64 q] 65)).alloc (.cells #[.int .i64 (q - 1), .int .i64 (q + 1)] 3)).cell? ⟨w1.heap.size + 1, 1, none⟩ = some (.int .i64 (q + 1)) := by go_simp
      have z2 : w1.heap.size + 1 < ((w1.alloc (.cells #[.int .i64 sd, .int .i64 q] 65)).alloc (.cells #[.int .i64 (q - 1), .int .i64 (q + 1)] 3)).heap.size := by simp
      have z1 : w1.heap.size < ((w1.alloc (.cells #[.int .i64 sd, .int .i64 q] 65)).alloc (.cells #[.int .i64 (q - 1), .int .i64 (q + 1)] 3)).heap.size := by simp; omega
      have z0 : w.heap.size < ((w1.alloc (.cells #[.int .i64 sd, .int .i64 q] 65)).alloc (.cells #[.int .i64 (q - 1), .int .i64 (q + 1)] 3)).heap.size := Nat.lt_trans hzW z1
      generalize ((w1.alloc (.cells #[.int .i64 sd, .int .i64 q] 65)).alloc (.cells #[.int .i64 (q - 1), .int .i64 (q + 1)] 3)) = W at *
      clear hcW hfW hbW
      generalize hqa : q - 1 = qa at *
      generalize hqb : q + 1 = qb at *
      have HQA := Lib.hid hqa
      have HQB := Lib.hid hqb
      clear hqa hqb
      refine wp_loop_rounds 3 ?_
      rw [rounds_succ]
      go_wp2_with (first
        | (go_at_call 45; have := ho3; refine (Try.iNumberAt_b _ _ _ _ _ (by first | exact N1.out | exact N2.out) _).mono ?_; rintro e w4 ⟨rfl, g4⟩; have b4 : Below W.heap.size W w4 := b3.trans (g4.below.mono b3.size); have f4 := (bcell b4).1)
        | (go_at_call 45; have := g2; refine (Try.iNumberAt_b _ _ _ _ _ (by first | exact N1.out | exact N2.out) _).mono ?_; rintro e w6 ⟨rfl, g6⟩; have b6 : Below W.heap.size W w6 := b2.trans (g6.below.mono b2.size); have f6 := (bcell b6).1)
        | (go_at_call 45; refine (Try.iNumberAt_b _ _ _ _ _ (by first | exact N1.out | exact N2.out) _).mono ?_; rintro e w2 ⟨rfl, g2⟩; have b2 : Below W.heap.size W w2 := g2.below; have f2 := (bcell b2).1)
        | (at_builtin; have := b6; refine wpList_appI rfl _ _ 24 rfl Try.underlying24 Try.infoI2 W.heap.size _ [] rfl (OwnI.nil _ _) ⟨w6.heap.size, 0, none⟩ 1 1 [_] rfl rfl (fun j u hu => allocI rfl j u hu) (by simp) (by simp) (by have := b6.size; simp; omega) ?_; intro v3 w3 ho3 hb3 _; have b3 := (b6.alloc b6.size _).trans hb3; have f3 := (bcell b3).1)
        | (at_builtin; have := b4; refine wpList_appI rfl _ _ 24 rfl Try.underlying24 Try.infoI2 W.heap.size _ _ rfl (OwnI.gr (ho3.gr g4) (Gr.alloc (Gr.refl _) _)) ⟨w4.heap.size, 0, none⟩ 1 1 [_] rfl rfl (fun j u hu => allocI rfl j u hu) (by simp) (by simp) (by have := b4.size; simp; omega) ?_; intro v5 w5 ho5 hb5 _; have b5 := (b4.alloc b4.size _).trans hb5; have f5 := (bcell b5).1)
        | (at_builtin; refine wpList_appI rfl _ _ 24 rfl Try.underlying24 Try.infoI2 W.heap.size _ [] rfl (OwnI.nil _ _) ⟨w2.heap.size, 0, none⟩ 1 1 [_] rfl rfl (fun j u hu => allocI rfl j u hu) (by simp) (by simp) (by have := b2.size; simp; omega) ?_; intro v3 w3 ho3 hb3 _; have b3 := (b2.alloc b2.size _).trans hb3; have f3 := (bcell b3).1))
      rw [rounds_succ]
      go_wp2_with (first
        | (go_at_call 45; have := ho3; refine (Try.iNumberAt_b _ _ _ _ _ (by first | exact N1.out | exact N2.out) _).mono ?_; rintro e w4 ⟨rfl, g4⟩; have b4 : Below W.heap.size W w4 := b3.trans (g4.below.mono b3.size); have f4 := (bcell b4).1)
        | (go_at_call 45; have := g2; refine (Try.iNumberAt_b _ _ _ _ _ (by first | exact N1.out | exact N2.out) _).mono ?_; rintro e w6 ⟨rfl, g6⟩; have b6 : Below W.heap.size W w6 := b2.trans (g6.below.mono b2.size); have f6 := (bcell b6).1)
        | (go_at_call 45; refine (Try.iNumberAt_b _ _ _ _ _ (by first | exact N1.out | exact N2.out) _).mono ?_; rintro e w2 ⟨rfl, g2⟩; have b2 : Below W.heap.size W w2 := g2.below; have f2 := (bcell b2).1)
        | (at_builtin; have := b6; refine wpList_appI rfl _ _ 24 rfl Try.underlying24 Try.infoI2 W.heap.size _ [] rfl (OwnI.nil _ _) ⟨w6.heap.size, 0, none⟩ 1 1 [_] rfl rfl (fun j u hu => allocI rfl j u hu) (by simp) (by simp) (by have := b6.size; simp; omega) ?_; intro v3 w3 ho3 hb3 _; have b3 := (b6.alloc b6.size _).trans hb3; have f3 := (bcell b3).1)
        | (at_builtin; have := b4; refine wpList_appI rfl _ _ 24 rfl Try.underlying24 Try.infoI2 W.heap.size _ _ rfl (OwnI.gr (ho3.gr g4) (Gr.alloc (Gr.refl _) _)) ⟨w4.heap.size, 0, none⟩ 1 1 [_] rfl rfl (fun j u hu => allocI rfl j u hu) (by simp) (by simp) (by have := b4.size; simp; omega) ?_; intro v5 w5 ho5 hb5 _; have b5 := (b4.alloc b4.size _).trans hb5; have f5 := (bcell b5).1)
        | (at_builtin; refine wpList_appI rfl _ _ 24 rfl Try.underlying24 Try.infoI2 W.heap.size _ [] rfl (OwnI.nil _ _) ⟨w2.heap.size, 0, none⟩ 1 1 [_] rfl rfl (fun j u hu => allocI rfl j u hu) (by simp) (by simp) (by have := b2.size; simp; omega) ?_; intro v3 w3 ho3 hb3 _; have b3 := (b2.alloc b2.size _).trans hb3; have f3 := (bcell b3).1))
      rw [rounds_succ]
      go_wp2_with (first
        | (go_at_call 46; have := b5; refine (Try.sortI _ W.heap.size _ _ b5.size (by simp) ho5).mono ?_; rintro e w7 ⟨rfl, ho7, hb7⟩; have b7 := b5.trans hb7)
        | (go_at_call 46; have := b4; refine (Try.sortI _ W.heap.size _ _ b4.size (by simp) (ho3.gr g4)).mono ?_; rintro e w7 ⟨rfl, ho7, hb7⟩; have b7 := b4.trans hb7)
        | (go_at_call 46; have := b3; refine (Try.sortI _ W.heap.size _ _ b3.size (by simp) ho3).mono ?_; rintro e w7 ⟨rfl, ho7, hb7⟩; have b7 := b3.trans hb7)
        | (go_at_call 46; have := b6; refine (Try.sortI _ W.heap.size _ [] b6.size (by simp) (OwnI.nil _ _)).mono ?_; rintro e w7 ⟨rfl, ho7, hb7⟩; have b7 := b6.trans hb7))
      go_ret2
      have hqa := HQA.out
      have hqb := HQB.out
      subst hqa hqb
      first
        | exact ⟨v5, rfl, OwnI.mono (by simpa using ho7) gw.below.size, gw.below.trans (b7.mono gw.below.size)⟩
        | exact ⟨v3, rfl, OwnI.mono (by simpa using ho7) gw.below.size, gw.below.trans (b7.mono gw.below.size)⟩
        | exact ⟨.slice none 0 0, rfl, OwnI.mono (by simpa using ho7) gw.below.size, gw.below.trans (b7.mono gw.below.size)⟩
end Go.Proofs
