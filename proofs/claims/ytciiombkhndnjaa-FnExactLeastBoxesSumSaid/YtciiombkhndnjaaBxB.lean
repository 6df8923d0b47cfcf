/-
  Contracts of chapter 5, the model: lists of lists of ints; the least sums behind each box (spec.mdRest).
-/
import Derived.Test.YtciiombkhndnjaaBxA
namespace Go.Proofs
open Go.RowKit
set_option linter.unusedVariables false
set_option linter.unusedSimpArgs false
/-- v is a row of m lists of ints, the k-th is F k, all of the call's own from block B on -/
def OwnLL (w : World) (B : Nat) (v : Value) (m : Nat) (F : Nat → List Int) : Prop :=
  ∃ vs : List Value, vs.length = m ∧ w.ownsRow B 25 1 v m vs ∧ ∀ k u, vs[k]? = some u → OwnI w B u (F k)
theorem OwnLL.nil (w : World) (B : Nat) (F : Nat → List Int) : OwnLL w B (.slice none 0 0) 0 F := ⟨[], rfl, World.ownsRow_nil w B _ 1, fun k u h => by simp at h⟩
theorem OwnLL.below {w w' : World} {B C m : Nat} {v : Value} {F : Nat → List Int} (h : OwnLL w B v m F) (hb : Below C w w') (hC : w.heap.size ≤ C) : OwnLL w' B v m F := by
  obtain ⟨vs, h1, h3, h4⟩ := h
  refine ⟨vs, h1, ⟨h3.1, ?_⟩, fun k u hk => (h4 k u hk).below hb hC⟩
  rcases h3.2 with hn | ⟨g, cap, cur, rfl, hb', hg, r⟩
  · exact .inl hn
  · exact .inr ⟨g, cap, cur, rfl, hb', by rw [hb.block g (by have := (Array.getElem?_eq_some_iff.1 hg).1; omega)]; exact hg, r⟩
theorem OwnLL.gr {w w' : World} {B m : Nat} {v : Value} {F : Nat → List Int} (h : OwnLL w B v m F) (g : Gr w w') : OwnLL w' B v m F := h.below g.below (Nat.le_refl _)
theorem OwnLL.form {w : World} {B m : Nat} {v : Value} {F : Nat → List Int} (h : OwnLL w B v m F) (hm : 0 < m) : ∃ g c, v = .slice (some ⟨g, 0, none⟩) m c ∧ ∀ k, k < m → ∃ u, w.cell? ⟨g, k, none⟩ = some u ∧ OwnI w B u (F k) := by
  obtain ⟨vs, h1, h3, h4⟩ := h
  have h30 := h3
  rcases h3.2 with ⟨_, hn⟩ | ⟨g, cap, cur, rfl, hb, hg, hc, hm', hs, ht⟩
  · omega
  · refine ⟨g, cap, rfl, fun k hk => ⟨vs[k], ?_, h4 k _ (by simp)⟩⟩
    rw [World.ownsRow.cellAt h30 k (by omega)]
    simp [show k < vs.length by omega]
theorem OwnLL.slice {w : World} {B m : Nat} {v : Value} {F : Nat → List Int} (h : OwnLL w B v m F) : ∃ A c, v = .slice A m c ∧ OwnLL w B (.slice A m c) m F := by
  have h0 := h
  obtain ⟨vs, h1, h3, h4⟩ := h
  rcases h3.2 with ⟨rfl, hn⟩ | ⟨g, cap, cur, rfl, _⟩
  · subst hn; exact ⟨none, 0, rfl, h0⟩
  · exact ⟨_, _, rfl, h0⟩
theorem rows_ne {w : World} {B B' n : Nat} {v u : Value} {xs : List Int} {cs : List Value} (h : OwnI w B u xs) (h' : w.ownsRow B' 25 1 v n cs) : u.ownBlock = none ∨ u.ownBlock ≠ v.ownBlock := by
  rcases h.2 with ⟨rfl, _⟩ | ⟨g2, cap2, cur2, rfl, _, hg2, _⟩
  · exact .inl rfl
  · refine .inr ?_
    rcases h'.2 with ⟨rfl, _⟩ | ⟨g, cap, cur, rfl, _, hg, _⟩
    · simp [Value.ownBlock]
    · intro e
      have e' : g2 = g := by simpa [Value.ownBlock] using e
      subst e'
      rw [hg] at hg2
      simp only [Option.some.injEq, Obj.cells.injEq] at hg2
      exact absurd hg2.2.1 (by decide)
theorem OwnI.rowB {w : World} {B : Nat} {v : Value} {xs : List Int} (h : OwnI w B v xs) (h0 : 0 < xs.length) : ∃ g c, v = .slice (some ⟨g, 0, none⟩) xs.length c ∧ B ≤ g ∧ g < w.heap.size ∧ OwnI w B (.slice (some ⟨g, 0, none⟩) xs.length c) xs := by
  rcases h.view with ⟨e, _⟩ | ⟨_, g, c, rfl, h1, h2, _⟩
  · rw [e] at h0; simp at h0
  · exact ⟨g, c, rfl, h1, h2, h⟩
/-- one more list is appended -/
theorem wpList_app1L {P : Program} {ops : Array Oper} {rest : List Oper} {o : Oper} {a : Act} {Q : Exit → Act → World → Prop} {W : World} (hgd : o.guard = none) (s x : Operand) (t : TypeId)
    (ho : o.op = .call { callee := .builtin .append, args := #[s, x], argTypes := #[t, t] }) (ht : P.underlying t = some (.slice 25))
    (hinfo : (P.info? 25).map (fun i => (i.zero, i.size, i.bytes)) = some (some (.slice none 0 0), 1, 24)) (B : Nat) (v : Value) (m : Nat) (F : Nat → List Int) (hs : a.eval s = v) (h : OwnLL W B v m F)
    (u : Value) (hu : OwnI W B u (F m)) (hx : a.eval x = .slice (some ⟨W.heap.size, 0, none⟩) 1 1) (hl : m ≤ 1000000) (hB : B ≤ W.heap.size)
    (k : ∀ v' w', OwnLL w' B v' (m + 1) F → Below B W w' → W.grownBy w' v.ownBlock → wpList P ops Q rest (a.put o.dst v') w') :
    wpList P ops Q (o :: rest) a (W.alloc (.cells #[u] 25)) := by
  obtain ⟨i0, hi, hz0, hz1, hz2⟩ := info_parts hinfo
  obtain ⟨vs, h1, h3, h4⟩ := h
  have hone : u.oneCell' = true := by
    rcases hu.2 with ⟨rfl, _⟩ | ⟨g, cap, cur, rfl, _⟩ <;> rfl
  refine wpList_append_own _ hgd s x t ho B 25 i0 _ 1 24 ht hi hz0 hz1 hz2 rfl (by decide) v m vs hs (World.ownsRow.alloc h3 _) ⟨W.heap.size, 0, none⟩ 1 1 [u] hx rfl
    (fun j z hz => alloc_cells (by simpa using hz)) (fun z hz => by simp at hz; subst hz; exact hone) (by unfold maxLen; omega) (by omega) (by simp; omega) fun v' w' ho' hg _ => ?_
  have g2 : W.grownBy w' v.ownBlock := by
    have g1 := World.grownBy_alloc W (.cells #[u] 25) v.ownBlock
    exact ⟨hg.os.trans g1.os, hg.tape.trans g1.tape, hg.output.trans g1.output, Nat.le_trans g1.size hg.size, fun j hj hne => (hg.block j (Nat.lt_of_lt_of_le hj g1.size) hne).trans (g1.block j hj hne)⟩
  refine k v' w' ⟨vs ++ [u], by simp [h1], ho', fun j z hz => ?_⟩ (Below.grown (Below.refl _ _) g2 hB fun j hj => (World.ownsRow.lt h3 j hj).1) g2
  rcases Nat.lt_or_ge j vs.length with c | c
  · rw [List.getElem?_append_left c] at hz
    exact (h4 j z hz).grown g2 (rows_ne (h4 j z hz) h3)
  · rw [List.getElem?_append_right c] at hz
    have ej : j = m := by
      rcases Nat.lt_or_ge (j - vs.length) 1 with q | q
      · omega
      · rw [List.getElem?_eq_none (by simp; omega)] at hz; cases hz
    subst ej
    rw [h1, Nat.sub_self] at hz
    simp only [List.getElem?_cons_zero, Option.some.injEq] at hz
    subst hz
    exact hu.grown g2 (rows_ne hu h3)
theorem Try.infoS2 : (Try.prog.info? 25).map (fun i => (i.zero, i.size, i.bytes)) = some (some (.slice none 0 0), 1, 24) := by kernel_rfl
def tblB (f : Nat → Int) (n : Nat) : List Int := (List.range n).map f
theorem tblB_succ (f : Nat → Int) (n : Nat) : tblB f (n + 1) = tblB f n ++ [f n] := by simp [tblB, List.range_succ]
theorem tblB_len (f : Nat → Int) (n : Nat) : (tblB f n).length = n := by simp [tblB]
theorem tblB_get (f : Nat → Int) (n i : Nat) (h : i < n) : (tblB f n).getD i 0 = f i := by simp [tblB, List.getD, h]
def TRelB (f : Nat → Int) (n : Nat) (B : Nat) (w : World) (s i : Value) (wr : World) : Prop := ∃ k : Nat, k ≤ n ∧ i = .int .i64 k ∧ OwnI wr B s (tblB f k) ∧ Below B w wr
/-- the rows of the model's table -/
def rowF (xs : List Int) (k : Nat) : List Int := tblB (rsN xs k) xs.length
def RsRel (xs : List Int) (many : Nat) (w : World) (B : Nat) (s i : Value) (wr : World) : Prop := ∃ k : Nat, 1 ≤ k ∧ k ≤ many ∧ i = .int .i64 k ∧ OwnLL wr B s k (rowF xs) ∧ Below B w wr
def LsRel (g : Nat → Int) (lo hi : Nat) (w : World) (s i : Value) (wr : World) : Prop := Gr w wr ∧ ∃ k : Nat, lo + k ≤ hi ∧ i = .int .i64 ((lo + k : Nat) : Int) ∧ s = .int .i64 (fmn g lo k)
set_option maxRecDepth 100000 in
set_option maxHeartbeats 4000000 in
theorem Try.mdRest (w : World) (B : Nat) (v : Value) (xs : List Int) (many : Nat) (hg : GoodP xs) (h1 : 1 ≤ many) (h5 : many ≤ 5) (h : OwnI w B v xs) :
    Calls Try.prog 68 #[v, .int .i64 (many : Int)] w fun e w' => ∃ v', e = .returned v' ∧ OwnLL w' w.heap.size v' many (rowF xs) ∧ Below w.heap.size w w' := by
  have mixed : Try.prog.follows .mixedOrders = true := by kernel_rfl
  have hxl := hg.1
  have HO0 := Lib.hid h
  have HGD := Lib.hid hg
  obtain ⟨A, c, rfl, _⟩ := h.eta
  clear h hg
  go_enter Try.func68, Try.ntmps68
  go_wp2
  go_loopw [7, 8] (fun s i wr => TRelB (rsN xs 0) xs.length w.heap.size w s i wr) (fun _ i _ => (xs.length - intOf i).toNat)
  case atStart => exact ⟨0, Nat.zero_le _, rfl, OwnI.nil2 _ _, Below.refl _ _⟩
  case round =>
    obtain ⟨k, hk, rfl, ho, hbl⟩ := hrel
    have HO := Lib.hid ho
    have HL := Lib.hid hbl
    have szr := hbl.size
    by_cases hlt : k < xs.length
    · have z0 : (0 : Int) ≤ (k : Int) := by omega
      have z1 : (k : Int) < (xs.length : Int) := by omega
      have HN := Lib.hid (tblB_succ (rsN xs 0) k)
      have HTL := Lib.hid (tblB_len (rsN xs 0) k)
      have HP := Lib.hid (Try.mdPart wr B _ xs (k : Int) xs.length HGD.out (by omega) (by omega) (Nat.le_refl _) (.inl (by omega)) (HO0.out.below hbl (Nat.le_refl _)))
      rw [show rsN xs 0 k = pt xs (k : Int) xs.length from rfl] at HN
      clear ho hbl
      generalize pt xs (k : Int) xs.length = nr at *
      go_wp2_with (first | (go_at_call 69; refine (HP.out).mono ?_; rintro e w1 ⟨rfl, hbW⟩; have hcW := (bcell hbW.below).1; have hfW := (bcell hbW.below).2; (try have hzW : w.heap.size < w1.heap.size := by have hq := hbW.below.size; (try simp at hq); omega); (try have hyW : w.heap.size + 1 < w1.heap.size := by have hq := hbW.below.size; (try simp at hq); omega); (try have hxW : w.heap.size + 2 < w1.heap.size := by have hq := hbW.below.size; (try simp at hq); omega)) | (at_builtin; refine wpList_app1I rfl _ _ 25 rfl Try.underlying25 Try.infoI2 w.heap.size _ _ rfl (HO.out.gr hbW) nr rfl (by rw [HTL.out]; omega) (by have := hbW.below.size; omega) ?_; intro v' w3 ho3 hb3 _ _))
      have hb4 := HL.out.trans (hbW.below.mono szr)
      have OW := Lib.hid ho3
      have GB := Lib.hid (hb4.trans hb3)
      clear ho3 hb3 hb4 hbW hcW hfW
      go_wp2
      go_roundw
      case rel => exact ⟨k + 1, by omega, by go_num, by rw [HN.out]; exact OW.out, GB.out⟩
      case measure => simp [intOf]; omega
    · obtain rfl : k = xs.length := by omega
      have e0 : (tblB (rsN xs 0) xs.length).length = xs.length := tblB_len _ _
      obtain ⟨A7, c7, rfl, ho⟩ := ho.eta
      rw [e0] at ho ⊢
      have HR0 := Lib.hid (show OwnI wr w.heap.size (.slice A7 xs.length c7) (rowF xs 0) from ho)
      clear ho hbl HO
      go_wp2_with (first | (at_builtin; refine wpList_app1L rfl _ _ 100 rfl Try.underlying100 Try.infoS2 w.heap.size _ 0 (rowF xs) rfl (OwnLL.nil _ _ _) _ HR0.out rfl (by omega) szr ?_; intro v0 w0 ho0 hb0 _))
      have HO := Lib.hid ho0
      have HL2 := Lib.hid (HL.out.trans hb0)
      clear ho0 hb0 HL HR0
      have SZ1 := HL2.out.size
      clear szr
      go_loopw [6, 9] (fun s i wr => RsRel xs many w w.heap.size s i wr) (fun _ i _ => (many - intOf i).toNat)
      case atStart => exact ⟨1, Nat.le_refl _, h1, rfl, HO.out, HL2.out⟩
      case round =>
        obtain ⟨kk, hk1, hkm, rfl, ho, hbl⟩ := hrel
        have HO := Lib.hid ho
        have HL := Lib.hid hbl
        have szr := hbl.size
        by_cases hltm : kk < many
        · obtain ⟨k, hkk⟩ : ∃ k, kk = k + 1 := ⟨kk - 1, by omega⟩
          obtain ⟨go, co, rfl, hrows⟩ := ho.form (by omega)
          obtain ⟨u, hu1, hu2⟩ := hrows k (by omega)
          obtain ⟨gr, cr, rfl, _, _, hu3⟩ := hu2.rowB (by rw [show rowF xs k = tblB (rsN xs k) xs.length from rfl, tblB_len]; omega)
          have HU1 := Lib.hid hu1
          have HU3 := Lib.hid (fun (j : Nat) (hj : j < xs.length) => (show _ ∧ _ from hu3.at rfl j (by rw [show rowF xs k = tblB (rsN xs k) xs.length from rfl, tblB_len]; exact hj)).1)
          have hrl : (rowF xs k).length = xs.length := tblB_len _ _
          rw [hrl] at hu1 HU1
          have HKK := Lib.hid hkk
          have y0 : (0 : Int) ≤ (k : Int) := by omega
          have y1 : (k : Int) < (kk : Int) := by omega
          have y2 : IntKind.i64.wrap ((kk : Int) - 1) = (k : Int) := by rw [show (kk : Int) - 1 = (k : Int) by omega]; exact IntWalk.i64_in _ (by omega)
          have y3 : (kk : Int) - 1 = (k : Int) := by omega
          have y4 : (kk : Int) < (many : Int) := by omega
          clear ho hbl hrows hu1 hu2 hu3 hkk hrl
          rename World => W1
          go_wp2
          go_loopw [10, 11] (fun s i wr => TRelB (rsN xs (k + 1)) xs.length W1.heap.size W1 s i wr) (fun _ i _ => (xs.length - intOf i).toNat)
          case atStart => exact ⟨0, Nat.zero_le _, rfl, OwnI.nil2 _ _, Below.refl _ _⟩
          case round =>
            obtain ⟨j, hj, rfl, ho, hbl⟩ := hrel
            have HOJ := Lib.hid ho
            have HLJ := Lib.hid hbl
            have szj := hbl.size
            by_cases hlt : j < xs.length
            · have z0 : (0 : Int) ≤ (j : Int) := by omega
              have z1 : (j : Int) < (xs.length : Int) := by omega
              have HNJ := Lib.hid (tblB_succ (rsN xs (k + 1)) j)
              have HTL := Lib.hid (tblB_len (rsN xs (k + 1)) j)
              have HR := Lib.hid (rsN_s xs k j)
              clear ho hbl
              rename World => W2
              go_wp2
              go_loopw [12, 13] (fun s i wr => LsRel (Gg xs k (j : Int)) (j + 1) xs.length W2 s i wr) (fun _ i _ => (xs.length - intOf i).toNat)
              case atStart => exact ⟨Gr.refl _, 0, by omega, by go_num, rfl⟩
              case round =>
                obtain ⟨gr4, m, hm, rfl, rfl⟩ := hrel
                have HG4 := Lib.hid gr4
                have h21 := HLJ.out.trans (gr4.below.mono szj)
                have hsz4 := h21.size
                by_cases ht : j + 1 + m < xs.length
                · have q1 := gr_all (Gr.refl _) (cell_k2 h21 HU1.out)
                  have q2 := gr_all (Gr.refl _) (cell_k2 h21 (HU3.out (j + 1 + m) ht))
                  rw [show (rowF xs k).getD (j + 1 + m) 0 = rsN xs k (j + 1 + m) from tblB_get _ _ _ ht] at q2
                  have bp := pt_bd HGD.out (a := (j : Int)) (b := j + 1 + m) (by omega) (.inl (by omega))
                  have br := rsN_nn HGD.out k (j + 1 + m) ht
                  have hN : fmn (Gg xs k (j : Int)) (j + 1) (m + 1) = min (fmn (Gg xs k (j : Int)) (j + 1) m) (pt xs (j : Int) (j + 1 + m) + rsN xs k (j + 1 + m)) := rfl
                  have HN := Lib.hid hN
                  have HPN := Lib.hid (fun W (g : Gr _ W) => Try.mdPart W B _ xs (j : Int) (j + 1 + m) HGD.out (by omega) (by omega) (by omega) (.inl (by omega)) (HO0.out.below (HL.out.trans ((h21.trans (g.below.mono hsz4)).mono szr)) (Nat.le_refl _)))
                  have HNX := Lib.hid (show ((j + 1 + m : Nat) : Int) + 1 = ((j + 1 + (m + 1) : Nat) : Int) by omega)
                  clear gr4 hN h21
                  generalize pt xs (j : Int) (j + 1 + m) = pp at *
                  generalize rsN xs k (j + 1 + m) = rr at *
                  generalize fmn (Gg xs k (j : Int)) (j + 1) m = ls at *
                  unfold big at br
                  have wp : IntKind.i64.wrap (pp + rr) = pp + rr := IntWalk.i64_in _ (by omega)
                  have HLL := Lib.hid (fun W => Try.l1LeastB ls (pp + rr) W)
                  generalize min ls (pp + rr) = mn at *
                  have x0 : (0 : Int) ≤ ((j + 1 + m : Nat) : Int) := by omega
                  have x1 : ((j + 1 + m : Nat) : Int) < (xs.length : Int) := by omega
                  generalize hT : j + 1 + m = T at *
                  go_wp2_with fail
                  (refine wp_region_quiet_grown mixed (by kernel_rfl) ?_; (repeat (first | go_big_quiet_step ((first | (go_at_call 69; exact Calls.grown_of (HPN.out _ (Gr.grow (Gr.drewN (Gr.refl _) _) _))) | (go_at_call 67; exact Calls.grown_of (same_gr (HLL.out _))))) | quiet_step ((first | (go_at_call 69; exact Calls.grown_of (HPN.out _ (Gr.grow (Gr.drewN (Gr.refl _) _) _))) | (go_at_call 67; exact Calls.grown_of (same_gr (HLL.out _))))))); refine wpQuiet_nil ?_; intro _ hw'; obtain ⟨⟨nq, osq⟩, hw''⟩ := hw'; subst hw'')
                  clear q1 q2
                  go_wp2
                  go_roundw
                  case rel => exact ⟨HG4.out.trans (by repeat (first | exact Gr.refl _ | refine Gr.alloc ?_ _ | refine Gr.trans ?_ (by assumption) | refine Gr.drew ?_ | refine Gr.drewN ?_ _ | refine Gr.grow ?_ _ | refine Gr.setCell ?_ (by (try simp); (try omega)) _)), m + 1, by omega, by rw [← HNX.out], by rw [HN.out]⟩
                  case measure => simp [intOf]; omega
                · have em : m = xs.length - (j + 1) := by omega
                  subst em
                  rw [← HR.out]
                  have zt : ¬ ((j + 1 + (xs.length - (j + 1)) : Nat) : Int) < (xs.length : Int) := by omega
                  clear gr4 h21
                  generalize rsN xs (k + 1) j = rv at *
                  go_wp2_with (first | (at_builtin; refine wpList_app1I rfl _ _ 25 rfl Try.underlying25 Try.infoI2 W1.heap.size _ _ rfl (HOJ.out.gr HG4.out) rv rfl (by rw [HTL.out]; omega) hsz4 ?_; intro v' w3 ho3 hb3 _ _))
                  have OW := Lib.hid ho3
                  have GB := Lib.hid ((HLJ.out.trans (HG4.out.below.mono szj)).trans hb3)
                  clear ho3 hb3
                  go_wp2
                  go_roundw
                  case rel => exact ⟨j + 1, by omega, by go_num, by rw [HNJ.out]; exact OW.out, GB.out⟩
                  case measure => simp [intOf]; omega
            · obtain rfl : j = xs.length := by omega
              have e0 : (tblB (rsN xs (k + 1)) xs.length).length = xs.length := tblB_len _ _
              obtain ⟨A8, c8, rfl, ho⟩ := ho.eta
              rw [e0] at ho ⊢
              have HRN := Lib.hid (show OwnI _ w.heap.size (.slice A8 xs.length c8) (rowF xs kk) from by rw [HKK.out]; exact OwnI.mono ho szr)
              have HOL := Lib.hid (HO.out.below hbl (Nat.le_refl _))
              have HLL := Lib.hid (HL.out.trans (hbl.mono szr))
              have szx := HLL.out.size
              clear ho hbl HOJ HLJ
              go_wp2_with (first | (at_builtin; refine wpList_app1L rfl _ _ 100 rfl Try.underlying100 Try.infoS2 w.heap.size _ kk (rowF xs) rfl HOL.out _ HRN.out rfl (by omega) szx ?_; intro v0 w0 ho0 hb0 _))
              have OW := Lib.hid ho0
              have GB := Lib.hid (HLL.out.trans hb0)
              clear ho0 hb0
              go_wp2
              go_roundw
              case rel => exact ⟨kk + 1, by omega, by omega, by go_num, OW.out, GB.out⟩
              case measure => simp [intOf]; omega
        · obtain rfl : kk = many := by omega
          obtain ⟨A0, c0, rfl, _⟩ := ho.slice
          clear ho hbl
          go_wp2
          go_ret
          exact ⟨_, rfl, HO.out, HL.out⟩
end Go.Proofs
