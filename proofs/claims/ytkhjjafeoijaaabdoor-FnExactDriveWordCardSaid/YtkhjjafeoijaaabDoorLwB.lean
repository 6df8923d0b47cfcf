/-
  The program's walk along a word (impl.ledBy over a step of ways).
-/
import Derived.Test.YtkhjjafeoijaaabDoorLdM
import Derived.Test.YtkhjjafeoijaaabDoorLiT
namespace Go.Proofs
open Go.RowKit Av
set_option linter.unusedVariables false
set_option linter.unusedSimpArgs false
theorem cell_iterAt (w : World) (k n t : Nat) (s : ByteArray) (p : Nat) (h : n ≠ k) : (w.iterAt k s p).cell? ⟨n, t, none⟩ = w.cell? ⟨n, t, none⟩ := by
  unfold World.cell?
  simp only
  rw [Lib.iterAt_other w k n s p h]
theorem frozen_iterAt (w : World) (k n t : Nat) (s : ByteArray) (p : Nat) (h : n ≠ k) : (w.iterAt k s p).frozen? ⟨n, t, none⟩ = w.frozen? ⟨n, t, none⟩ := by
  unfold World.frozen?
  simp only
  rw [Lib.iterAt_other w k n s p h]
theorem next_at_at {P : Program} (w : World) (b : Nat) (s : ByteArray) (k : Nat) (hk : w.heap[b]? = some (.stringIter s k)) (h : k < s.size) : ∃ (r : Int) (q : Nat), (∀ ty, (Instr.next (.pointer (some ⟨b, 0, none⟩)) true ty).run P w = .ok (.tuple #[.bool true, .int .i64 k, .int .i32 r]) (w.iterAt b s q)) ∧
    ((((s[k]'h).toNat < 128 ∧ r = ((s[k]'h).toNat : Int)) ∧ q = k + 1) ∨ (128 ≤ (s[k]'h).toNat ∧ 128 ≤ r ∧ Lib.validRune r = true)) := by
  by_cases c : (s[k]'h).toNat < 128
  · exact ⟨_, k + 1, fun ty => Lib.run_next_ascii_at w b s k ty hk h c, .inl ⟨⟨c, rfl⟩, rfl⟩⟩
  · have hd := decode_high s k h (by omega)
    exact ⟨_, _, fun ty => Lib.run_next_any_at w b s k ty hk h, .inr ⟨by omega, by have := hd.1; omega, decode_val s k⟩⟩
theorem two_setA {w1 : World} {n : Nat} {x y a b : Value} (m0 : w1.cell? ⟨n, 0, none⟩ = some x) (m1 : w1.cell? ⟨n, 1, none⟩ = some y) (n0 : w1.frozen? ⟨n, 0, none⟩ = false) (n1 : w1.frozen? ⟨n, 1, none⟩ = false) (hz : n + 1 < w1.heap.size) (o : Obj) :
    let W := ((w1.setCell ⟨n, 0, none⟩ a).setCell ⟨n, 1, none⟩ b).alloc o
    (W.cell? ⟨n, 0, none⟩ = some a ∧ W.cell? ⟨n, 1, none⟩ = some b ∧ W.frozen? ⟨n, 0, none⟩ = false ∧ W.frozen? ⟨n, 1, none⟩ = false) ∧ W.heap[n + 1]? = w1.heap[n + 1]? := by
  intro W
  have d01 : (⟨n, 0, none⟩ : Addr) ≠ ⟨n, 1, none⟩ := by intro q; injection q with _ q2 _; cases q2
  have s0 : (w1.setCell ⟨n, 0, none⟩ a).cell? ⟨n, 0, none⟩ = some a := World.cell?_setCell_same _ _ _ m0
  have s1 : (w1.setCell ⟨n, 0, none⟩ a).cell? ⟨n, 1, none⟩ = some y := (World.cell?_setCell_other _ _ _ _ d01).trans m1
  have t0 : ((w1.setCell ⟨n, 0, none⟩ a).setCell ⟨n, 1, none⟩ b).cell? ⟨n, 0, none⟩ = some a := (World.cell?_setCell_other _ _ _ _ (Ne.symm d01)).trans s0
  have t1 : ((w1.setCell ⟨n, 0, none⟩ a).setCell ⟨n, 1, none⟩ b).cell? ⟨n, 1, none⟩ = some b := World.cell?_setCell_same _ _ _ s1
  have g := Gr.alloc (Gr.refl ((w1.setCell ⟨n, 0, none⟩ a).setCell ⟨n, 1, none⟩ b)) o
  have hz2 : n + 1 < ((w1.setCell ⟨n, 0, none⟩ a).setCell ⟨n, 1, none⟩ b).heap.size := by simpa using hz
  refine ⟨⟨g.keep0 t0, g.keep0 t1, ?_, ?_⟩, ?_⟩
  · rw [(bcell g.below).2 _ _ (by omega), World.frozen?_setCell, World.frozen?_setCell]; exact n0
  · rw [(bcell g.below).2 _ _ (by omega), World.frozen?_setCell, World.frozen?_setCell]; exact n1
  · rw [g.below.block (n + 1) (by omega), heap_setCell_other _ _ _ _ (by show n + 1 ≠ n; omega), heap_setCell_other _ _ _ _ (by show n + 1 ≠ n; omega)]
set_option maxHeartbeats 800000 in
theorem Tryd.cornerList (w : World) (x y : Int) :
    Calls Tryd.prog 41 #[.agg #[.int .i64 x, .int .i64 y]] w fun e w' => ∃ v, e = .returned v ∧ OwnT 48 w' w.heap.size v [x, y] ∧ Below w.heap.size w w' := by
  go_enter Tryd.func41, Tryd.ntmps41
  go_wp2
  go_ret
  refine ⟨_, rfl, ?_, Gr.below (by repeat (first | exact Gr.refl _ | refine Gr.alloc ?_ _ | refine Gr.trans ?_ (by assumption) | refine Gr.drew ?_ | refine Gr.drewN ?_ _ | refine Gr.grow ?_ _ | refine Gr.setCell ?_ (by (try simp); (try omega)) _))⟩
  refine ⟨rfl, .inr ⟨w.heap.size, 2, #[.int .i64 x, .int .i64 y], rfl, Nat.le_refl _, ?_, Nat.le_refl _, by decide, rfl, rfl⟩⟩
  exact heap_alloc_new _ _
def LwR (st : Cr → Nat → Option Cr) (ok : Cr → Prop) (s : ByteArray) (p : Cr) (w : World) (gk : Nat) (wr : World) : Prop :=
  ∃ k q, k + gk = s.size ∧ gone st s p k = some q ∧ ok q ∧ wr.heap[w.heap.size + 1]? = some (.stringIter s k) ∧
    (wr.cell? ⟨w.heap.size, 0, none⟩ = some (.int .i64 q.1) ∧ wr.cell? ⟨w.heap.size, 1, none⟩ = some (.int .i64 q.2) ∧ wr.frozen? ⟨w.heap.size, 0, none⟩ = false ∧ wr.frozen? ⟨w.heap.size, 1, none⟩ = false) ∧ Below w.heap.size w wr
set_option maxRecDepth 100000 in
set_option maxHeartbeats 1600000 in
theorem Tryd.ledByW (w : World) (s : ByteArray) (hs : s.size ≤ 1000) (recv : Value) (p : Cr) (ok : Cr → Prop) (st : Cr → Nat → Option Cr) (h0 : ok p)
    (HOK0 : ∀ q j r, ok q → j < 4 → st q j = some r → ok r)
    (HST0 : ∀ (X : World) (q : Cr) (j : Nat), ok q → j < 4 → Below w.heap.size w X → Calls Tryd.prog 28 #[recv, .agg #[.int .i64 q.1, .int .i64 q.2], .int .i32 (sgn j)] X fun e w' => (∃ a b, e = .returned (.tuple #[.agg #[.int .i64 a, .int .i64 b], .bool (st q j).isSome]) ∧ ∀ r, st q j = some r → r = (a, b)) ∧ Gr X w')
    (HNO0 : ∀ (X : World) (q : Cr) (r : Int), ok q → NoSg (⟨#[101, 110, 115, 119]⟩ : ByteArray).data.toList r → Below w.heap.size w X → Calls Tryd.prog 28 #[recv, .agg #[.int .i64 q.1, .int .i64 q.2], .int .i32 r] X fun e w' => (∃ a b, e = .returned (.tuple #[.agg #[.int .i64 a, .int .i64 b], .bool false])) ∧ Gr X w')
    (R : Option Cr) (hR : gone st s p s.size = R) :
    Calls Tryd.prog 27 #[.string s, .agg #[.int .i64 p.1, .int .i64 p.2], .func (.func 28) #[recv] #[]] w fun e w' => ∃ v, e = .returned (.tuple #[v, .bool R.isSome]) ∧ OwnT 48 w' w.heap.size v (lsO R) ∧ Below w.heap.size w w' := by
  have HOK := Lib.hid HOK0
  have HST := Lib.hid HST0
  have HNO := Lib.hid HNO0
  have HR := Lib.hid hR
  have HP := Lib.hid h0
  clear HOK0 HST0 HNO0 hR h0
  go_enter Tryd.func27, Tryd.ntmps27
  go_wp2_with fail
  go_loopg [9] s.size (fun gk _ wr => LwR st ok s p w gk wr)
  case atStart =>
    refine ⟨0, p, by omega, rfl, HP.out, ?_, ⟨by simp [go_sem, World.iter], by simp [go_sem, World.iter], by simp [go_sem, World.iter], by simp [go_sem, World.iter]⟩, Gr.below (by repeat (first | exact Gr.refl _ | refine Gr.alloc ?_ _ | refine Gr.trans ?_ (by assumption) | refine Gr.drew ?_ | refine Gr.drewN ?_ _ | refine Gr.grow ?_ _ | refine Gr.setCell ?_ (by (try simp); (try omega)) _))⟩
    have := heap_alloc_new (w.alloc (.cells #[.int .i64 p.1, .int .i64 p.2] 48)) (.stringIter s 0)
    simpa [World.iter] using this
  case round =>
    obtain ⟨k, q, hk, hgo, hok, hit, ⟨c0, c1, f0, f1⟩, hbel⟩ := hrel
    have szr := hbel.size
    have HGO := Lib.hid hgo
    have HQ := Lib.hid hok
    have HI := Lib.hid hit
    have HBL := Lib.hid hbel
    have hn1 : w.heap.size + 1 < wr.heap.size := (Array.getElem?_eq_some_iff.1 hit).1
    by_cases hlt : k < s.size
    · obtain ⟨ru, qp, hnx, hcase⟩ := next_at_at (P := Tryd.prog) wr (w.heap.size + 1) s k hit hlt
      have hb2 := Lib.below_iterAt hbel (k := w.heap.size + 1) (by omega) s qp
      have HB2 := Lib.hid hb2
      have e0 := (cell_iterAt wr (w.heap.size + 1) w.heap.size 0 s qp (by omega)).trans c0
      have e1 := (cell_iterAt wr (w.heap.size + 1) w.heap.size 1 s qp (by omega)).trans c1
      have g0 := (frozen_iterAt wr (w.heap.size + 1) w.heap.size 0 s qp (by omega)).trans f0
      have g1 := (frozen_iterAt wr (w.heap.size + 1) w.heap.size 1 s qp (by omega)).trans f1
      have si := Lib.iterAt_size wr (w.heap.size + 1) s qp
      have HIT := Lib.hid (Lib.iterAt_heap wr (w.heap.size + 1) s k qp hit)
      by_cases hsg : isSg (s[k]'hlt)
      · obtain ⟨rfl, rfl⟩ : ru = ((s[k]'hlt).toNat : Int) ∧ qp = k + 1 := by
          rcases hcase with ⟨⟨_, h2⟩, h3⟩ | ⟨h1, _⟩
          · exact ⟨h2, h3⟩
          · have := sg_lo hsg; omega
        have HS1 := HST.out (wr.iterAt (w.heap.size + 1) s (k + 1)) q (sgx (s[k]'hlt)) hok (sgx_lt _) hb2
        rw [← sgx_sgn hsg] at HS1
        have HGS := Lib.hid (gone_sg hgo hlt hsg)
        have HOJ := Lib.hid (fun r => HOK.out q (sgx (s[k]'hlt)) r hok (sgx_lt _))
        obtain ⟨o, ho⟩ : ∃ o, st q (sgx (s[k]'hlt)) = o := ⟨_, rfl⟩
        rw [ho] at HS1 HGS HOJ
        have HSS := Lib.hid HS1
        obtain ⟨q0, q1⟩ := q
        simp only at e0 e1 HSS
        generalize ((s[k]'hlt).toNat : Int) = ru at *
        generalize hX : wr.iterAt (w.heap.size + 1) s (k + 1) = X at *
        clear hgo hok hit c0 c1 f0 f1 hbel hb2 hsg hcase HS1 ho
        cases o
        · simp only [Option.isSome_none] at HSS
          have HF := Lib.hid (show R = none by rw [← HR.out]; have := gone_none HGS.out (s.size - (k + 1)); rwa [show k + 1 + (s.size - (k + 1)) = s.size by omega] at this)
          go_wp2_with (first | (go_at_call 28; refine HSS.out.mono ?_; rintro e w1 ⟨⟨a', b', rfl, hr⟩, hbW⟩; clear hr))
          go_ret2
          exact ⟨_, by rw [HF.out]; rfl, by rw [HF.out]; exact OwnT.nil2 _ _ _, HB2.out.trans ((Gr.below (by repeat (first | exact Gr.refl _ | refine Gr.alloc ?_ _ | refine Gr.trans ?_ (by assumption) | refine Gr.drew ?_ | refine Gr.drewN ?_ _ | refine Gr.grow ?_ _ | refine Gr.setCell ?_ (by (try simp); (try omega)) _))).mono HB2.out.size)⟩
        · rename_i r'
          simp only [Option.isSome_some] at HSS
          go_wp2_with (first | (go_at_call 28; refine HSS.out.mono ?_; rintro e w1 ⟨⟨a', b', rfl, hr⟩, hbW⟩; have hr' := hr _ rfl; clear hr; have m0 := hbW.keep0 e0; have m1 := hbW.keep0 e1; have hfW := (bcell hbW.below).2; have hz := hbW.below.size; have n0 := (hfW w.heap.size 0 (by omega)).trans g0; have n1 := (hfW w.heap.size 1 (by omega)).trans g1; have hzz : w.heap.size < w1.heap.size := by omega))
          obtain ⟨TS, TH⟩ := two_setA (a := .int .i64 a') (b := .int .i64 b') m0 m1 n0 n1 (by omega) (.cells #[.int .i64 a', .int .i64 b'] 48)
          have HTS := Lib.hid TS
          have HTH := Lib.hid (TH.trans ((hbW.below.block (w.heap.size + 1) (by omega)).trans HIT.out))
          have HBN := Lib.hid ((((HB2.out.trans (hbW.below.mono HB2.out.size)).setCell (p := ⟨w.heap.size, 0, none⟩) (Nat.le_refl _) (.int .i64 a')).setCell (p := ⟨w.heap.size, 1, none⟩) (Nat.le_refl _) (.int .i64 b')).alloc (by have := HB2.out.size; simp; omega) (.cells #[.int .i64 a', .int .i64 b'] 48))
          go_roundg (gk - 1)
          case rel => exact ⟨k + 1, r', by omega, HGS.out, HOJ.out r' rfl, HTH.out, by rw [hr']; exact HTS.out, HBN.out⟩
          case measure => omega
      · have HN1 := Lib.hid (HNO.out (wr.iterAt (w.heap.size + 1) s qp) q ru hok (noSg_of hsg hcase) hb2)
        have HF := Lib.hid (show R = none by rw [← HR.out]; have := gone_none (gone_no hgo hlt hsg) (s.size - (k + 1)); rwa [show k + 1 + (s.size - (k + 1)) = s.size by omega] at this)
        obtain ⟨q0, q1⟩ := q
        simp only at e0 e1 HN1
        generalize hX : wr.iterAt (w.heap.size + 1) s qp = X at *
        clear hgo hok hit c0 c1 f0 f1 hbel hb2 hsg hcase
        go_wp2_with (first | (go_at_call 28; refine HN1.out.mono ?_; rintro e w1 ⟨⟨a', b', rfl⟩, hbW⟩))
        go_ret2
        exact ⟨_, by rw [HF.out]; rfl, by rw [HF.out]; exact OwnT.nil2 _ _ _, HB2.out.trans ((Gr.below (by repeat (first | exact Gr.refl _ | refine Gr.alloc ?_ _ | refine Gr.trans ?_ (by assumption) | refine Gr.drew ?_ | refine Gr.drewN ?_ _ | refine Gr.grow ?_ _ | refine Gr.setCell ?_ (by (try simp); (try omega)) _))).mono HB2.out.size)⟩
    · obtain rfl : k = s.size := by omega
      have hne := fun ty => Lib.run_next_end_at (P := Tryd.prog) wr (w.heap.size + 1) s s.size ty hit (by omega)
      have HF := Lib.hid (show R = some q by rw [← HR.out]; exact hgo)
      have HL := Lib.hid (Tryd.cornerList wr q.1 q.2)
      obtain ⟨q0, q1⟩ := q
      simp only at c0 c1 HL
      clear hgo hok hit f0 f1 hbel
      go_wp2_with (first | (go_at_call 41; refine HL.out.mono ?_; rintro e w1 ⟨v, rfl, ov, bv⟩; have hov := ov.eta; clear ov; obtain ⟨Av, cv, rfl, ov⟩ := hov))
      go_ret2
      exact ⟨_, by rw [HF.out]; rfl, by rw [HF.out]; exact ov.mono szr, HBL.out.trans (bv.mono szr)⟩
end Go.Proofs
