/-
  Contracts of chapter 5, the program: the best choice of so many boxes (impl.bestChoice), LeastBoxesSum, FirstBoxes.
-/
import Derived.Test.YtciiombkhndnjaaBxF
namespace Go.Proofs
open Go.RowKit
set_option linter.unusedVariables false
set_option linter.unusedSimpArgs false
set_option maxHeartbeats 800000 in
theorem Try.canHaveB (w : World) (B : Nat) (v : Value) (xs : List Int) (n : Int) (b : Bool) (hb : b = true ↔ ManyB xs n) (hl : xs.length ≤ 1048576) (h : OwnI w B v xs) :
    Calls Try.prog 70 #[v, .int .i64 n] w fun e w' => e = .returned (.bool b) ∧ Gr w w' := by
  obtain ⟨A, c, rfl, h⟩ := h.eta
  by_cases hg : GoodP xs
  · have HG := Lib.hid (Try.iArePeople w B _ xs true ⟨fun _ => hg, fun _ => rfl⟩ hl h)
    obtain ⟨m, hm⟩ : ∃ m, min 5 (xs.length : Int) = m := ⟨_, rfl⟩
    have HI := Lib.hid (show inn n 1 m = b by
      cases q : b
      · have : ¬ ManyB xs n := fun c => by have := hb.2 c; rw [q] at this; cases this
        refine inn_f ?_
        by_cases c1 : n < 1
        · exact .inl c1
        · refine .inr ?_
          rcases Int.lt_or_le m n with c2 | c2
          · exact c2
          · exact absurd ⟨hg, by omega, by omega, by omega⟩ this
      · obtain ⟨_, h1, h2, h3⟩ := hb.1 q
        exact inn_t h1 (by omega))
    clear h hb hg
    go_enter Try.func70, Try.ntmps70
    go_wp2_with (first | (go_at_call 85; refine (HG.out).mono ?_; rintro e w1 ⟨rfl, hbW⟩; have hcW := (bcell hbW.below).1; have hfW := (bcell hbW.below).2; (try have hzW : w.heap.size < w1.heap.size := by have hq := hbW.below.size; (try simp at hq); omega); (try have hyW : w.heap.size + 1 < w1.heap.size := by have hq := hbW.below.size; (try simp at hq); omega); (try have hxW : w.heap.size + 2 < w1.heap.size := by have hq := hbW.below.size; (try simp at hq); omega)) | (go_at_call 59; refine (Try.within _ _ _ _ HI.out _).mono ?_; rintro e w1 ⟨rfl, rfl⟩))
    go_ret
    exact ⟨rfl, by repeat (first | exact Gr.refl _ | refine Gr.alloc ?_ _ | refine Gr.trans ?_ (by assumption) | refine Gr.drew ?_ | refine Gr.drewN ?_ _ | refine Gr.grow ?_ _ | refine Gr.setCell ?_ (by (try simp); (try omega)) _)⟩
  · have HG := Lib.hid (Try.iArePeople w B _ xs false ⟨fun q => (by cases q), fun q => absurd q hg⟩ hl h)
    have HF := Lib.hid (not_trueB hb (fun q => hg q.1))
    clear h hb hg
    go_enter Try.func70, Try.ntmps70
    go_wp2_with (first | (go_at_call 85; refine (HG.out).mono ?_; rintro e w1 ⟨rfl, hbW⟩; have hcW := (bcell hbW.below).1; have hfW := (bcell hbW.below).2; (try have hzW : w.heap.size < w1.heap.size := by have hq := hbW.below.size; (try simp at hq); omega); (try have hyW : w.heap.size + 1 < w1.heap.size := by have hq := hbW.below.size; (try simp at hq); omega); (try have hxW : w.heap.size + 2 < w1.heap.size := by have hq := hbW.below.size; (try simp at hq); omega)))
    go_ret
    exact ⟨by rw [HF.out]; rfl, by repeat (first | exact Gr.refl _ | refine Gr.alloc ?_ _ | refine Gr.trans ?_ (by assumption) | refine Gr.drew ?_ | refine Gr.drewN ?_ _ | refine Gr.grow ?_ _ | refine Gr.setCell ?_ (by (try simp); (try omega)) _)⟩
theorem own_oneB (w : World) (n : Int) (B : Nat) (hB : B ≤ w.heap.size) : OwnI (w.alloc (.cells #[.int .i64 n] 3)) B (.slice (some ⟨w.heap.size, 0, none⟩) 1 1) [n] :=
  ⟨rfl, .inr ⟨_, _, _, rfl, hB, heap_alloc_new _ _, Nat.le_refl _, by decide, rfl, rfl⟩⟩
theorem box1B {W : World} {g : Nat} {n : Int} (h0 : -200 ≤ n) (h1 : n ≤ 200) (h : W.cell? ⟨g, 0, none⟩ = some (.int .i64 n)) : BoxRow W (.slice (some ⟨g, 0, none⟩) 1 1) [n] :=
  ⟨g, 1, rfl, by simp, by simp, fun j hj => (by obtain rfl : j = 0 := (by simp at hj; exact hj); simpa [gx] using h), fun j hj => (by obtain rfl : j = 0 := (by simp at hj; exact hj); simp [gx]; omega)⟩
theorem reads0 {w : World} {B g c : Nat} {xs : List Int} {n : Nat} (h : OwnI w B (.slice (some ⟨g, 0, none⟩) n c) xs) (hn : xs.length = n) : ∀ j u, (ics xs)[j]? = some u → w.cell? ((⟨g, 0, none⟩ : Addr).add j) = some u := fun j u hu => by
  have := h.reads hn 0 n (by omega) j u
  rw [List.drop_zero, List.take_of_length_le (by omega)] at this
  exact this hu
theorem rs_sel (xs : List Int) (k j : Nat) : rsN xs (k + 1) j = (sel xs k (j : Int)).2 := by
  rw [rsN_s, sel, fam_min, show ((j : Int) + 1).toNat = j + 1 by omega]
theorem ics_single {x : Int} {i : Nat} {u : Value} (h : (ics [x])[i]? = some u) : i = 0 ∧ u = .int .i64 x := by
  cases i with
  | zero => simp [ics] at h; exact ⟨rfl, h.symm⟩
  | succ i => simp [ics] at h
theorem two_k {w W : World} {a b : Addr} {x y : Value} (g : Gr w W) (h : w.cell? a = some x ∧ w.cell? b = some y) : W.cell? a = some x ∧ W.cell? b = some y := ⟨g.keep0 h.1, g.keep0 h.2⟩
theorem two_b {w W : World} {a b : Addr} {x y : Value} (g : Below w.heap.size w W) (h : w.cell? a = some x ∧ w.cell? b = some y) : W.cell? a = some x ∧ W.cell? b = some y :=
  ⟨(g.cell (World.block_lt_of_cell? _ _ h.1)).trans h.1, (g.cell (World.block_lt_of_cell? _ _ h.2)).trans h.2⟩
theorem wayB_len (xs : List Int) (k : Nat) (a : Int) : (wayB xs k a).length = k + 1 := bxN_len _ _ _
def C1Rel (xs : List Int) (k m B : Nat) (W : World) (s i : Value) (wr : World) : Prop := ∃ j : Nat, j ≤ m ∧ i = .int .i64 j ∧ OwnC wr B s j (bxN xs k) (rsN xs k) ∧ Below B W wr
def C2Rel (xs : List Int) (m B : Nat) (W : World) (s i : Value) (wr : World) : Prop := ∃ k : Nat, k ≤ m ∧ i = .int .i64 k ∧ OwnC wr B s (xs.length - k) (bxN xs k) (rsN xs k) ∧ Below B W wr
set_option maxRecDepth 100000 in
set_option maxHeartbeats 4000000 in
theorem Try.bestChoice (w : World) (B : Nat) (v : Value) (xs : List Int) (n : Int) (b : Bool) (hb : b = true ↔ ManyB xs n) (hl : xs.length ≤ 1048576) (h : OwnI w B v xs) :
    Calls Try.prog 51 #[v, .int .i64 n] w fun e w' => ∃ u, e = .returned (.tuple #[.agg #[u, .int .i64 (lbV xs n b)], .bool b]) ∧ OwnI w' w.heap.size u (if b then fbL xs n else []) ∧ Below w.heap.size w w' := by
  have mixed : Try.prog.follows .mixedOrders = true := by kernel_rfl
  have HM := Lib.hid (fun W (g : Gr w W) => Try.canHaveB W B v xs n b hb hl (h.gr g))
  cases q : b
  · rw [q] at HM
    have e : lbV xs n false = 0 := rfl
    rw [e]
    obtain ⟨A, c, rfl, _⟩ := h.eta
    clear h hb q e
    go_enter Try.func51, Try.ntmps51
    go_wp2_with (first | (go_at_call 70; refine (HM.out _ (Gr.alloc (Gr.refl _) _)).mono ?_; rintro e w1 ⟨rfl, hbW⟩; have r0 := (show w1.cell? ⟨w.heap.size, 0, none⟩ = some (.slice none 0 0) from hbW.keep2 (by simp [go_sem])); have r1 := (show w1.cell? ⟨w.heap.size, 1, none⟩ = some (.int .i64 0) from hbW.keep2 (by simp [go_sem])); have r2 := (show w1.frozen? ⟨w.heap.size, 0, none⟩ = false from ((bcell hbW.below).2 _ _ (by simp)).trans (by simp [go_sem])); have r3 := (show w1.frozen? ⟨w.heap.size, 1, none⟩ = false from ((bcell hbW.below).2 _ _ (by simp)).trans (by simp [go_sem]))))
    refine bodyPost_ret (v := .tuple #[.agg #[.slice none 0 0, .int .i64 0], .bool false]) ?_ rfl ⟨_, rfl, OwnI.nil2 _ _, ?_⟩
    · simp [results, Try.results51, go_sem, r0, r1, r2, r3]
    · exact Gr.below (Gr.setCell (Gr.setCell ((Gr.alloc (Gr.refl w) _).trans hbW) (by simp) _) (by simp) _)
  · rw [q] at HM
    obtain ⟨hg, n1, n5, nl⟩ := hb.1 q
    obtain ⟨m, rfl⟩ : ∃ m : Nat, n = (m : Int) := ⟨n.toNat, by omega⟩
    have hxl := hg.1
    have HGD := Lib.hid hg
    have hpp := h.ppl hxl.1
    have HP := Lib.hid hpp
    obtain ⟨A, c, rfl, _⟩ := h.eta
    have e : lbV xs (m : Int) true = (sel xs (m - 1) (-1)).2 := rfl
    have e' : fbL xs (m : Int) = wayB xs (m - 1) (-1) := rfl
    rw [if_pos rfl, e, e']
    have m0 : IntKind.i64.wrap ((m : Int) - 1) = (m : Int) - 1 := IntWalk.i64_in _ (by omega)
    have hix := Try.idx1B
    clear h hb q hg e e' hpp
    go_enter Try.func51, Try.ntmps51
    go_wp2_with (first | (go_at_call 70; refine (HM.out _ (Gr.alloc (Gr.refl _) _)).mono ?_; rintro e wA ⟨rfl, hbW⟩; have r0 := Lib.hid (show wA.cell? ⟨w.heap.size, 0, none⟩ = some (.slice none 0 0) from hbW.keep2 (by simp [go_sem])); have r1 := Lib.hid (show wA.cell? ⟨w.heap.size, 1, none⟩ = some (.int .i64 0) from hbW.keep2 (by simp [go_sem])); have r2 := Lib.hid (show wA.frozen? ⟨w.heap.size, 0, none⟩ = false from ((bcell hbW.below).2 _ _ (by simp)).trans (by simp [go_sem])); have r3 := Lib.hid (show wA.frozen? ⟨w.heap.size, 1, none⟩ = false from ((bcell hbW.below).2 _ _ (by simp)).trans (by simp [go_sem]))))
    have GW := Lib.hid ((Gr.alloc (Gr.refl w) _).trans hbW)
    have hzA : w.heap.size < wA.heap.size := by have := hbW.below.size; simp at this; omega
    clear hbW
    go_loopw [6, 19] (fun s i wr => C1Rel xs 0 xs.length wA.heap.size wA s i wr) (fun _ i _ => (xs.length - intOf i).toNat)
    case atStart => exact ⟨0, Nat.zero_le _, rfl, OwnC.nil _ _ _ _, Below.refl _ _⟩
    case round =>
      obtain ⟨j, hj, rfl, ho, hbl⟩ := hrel
      have HO := Lib.hid ho
      have HL := Lib.hid hbl
      have szr := hbl.size
      have BW := Lib.hid (GW.out.below.trans (hbl.mono GW.out.below.size))
      by_cases hlt : j < xs.length
      · have z0 : (0 : Int) ≤ (j : Int) := by omega
        have z1 : (j : Int) < (xs.length : Int) := by omega
        have HSI := Lib.hid (Try.sumsIn wr _ xs (j : Int) (xs.length : Int) j (xs.length - j) (HP.out.below BW.out) hxl.2 (by omega) (by omega) (by omega))
        have HFN := Lib.hid (fun (W : World) (gb : Nat) (vp : Value) (bp bf : Nat) (hb : W.cell? ⟨gb, 0, none⟩ = some (.int .i64 (j : Int))) (hp : PartRow W vp xs j (xs.length - j)) => Try.sumsFn W (.slice (some ⟨gb, 0, none⟩) 1 1) vp [(j : Int)] xs j (xs.length - j) bp bf HGD.out (box1B (by omega) (by omega) hb) hp)
        rw [part_last] at HFN
        have HR0 := Lib.hid (show rsN xs 0 j = pt xs (j : Int) xs.length from rfl)
        clear ho hbl
        generalize sumF (hdf xs j) (xs.length - j) = hd at *
        rw [← HR0.out] at HFN
        go_wp2_with (first | (go_at_call 71; refine HSI.out.mono ?_; rintro e w2 ⟨bp2, bf2, vp, rfl, g2, p2, c1, c2⟩) | (go_at_call 86; refine (HFN.out _ _ vp bp2 bf2 (by simp [go_sem]) (p2.gr (by repeat (first | exact Gr.refl _ | refine Gr.alloc ?_ _ | refine Gr.trans ?_ (by assumption) | refine Gr.drew ?_ | refine Gr.drewN ?_ _ | refine Gr.grow ?_ _ | refine Gr.setCell ?_ (by (try simp); (try omega)) _))) (Gr.keep2 (w := w2) (by repeat (first | exact Gr.refl _ | refine Gr.alloc ?_ _ | refine Gr.trans ?_ (by assumption) | refine Gr.drew ?_ | refine Gr.drewN ?_ _ | refine Gr.grow ?_ _ | refine Gr.setCell ?_ (by (try simp); (try omega)) _)) c1) (Gr.keep2 (w := w2) (by repeat (first | exact Gr.refl _ | refine Gr.alloc ?_ _ | refine Gr.trans ?_ (by assumption) | refine Gr.drew ?_ | refine Gr.drewN ?_ _ | refine Gr.grow ?_ _ | refine Gr.setCell ?_ (by (try simp); (try omega)) _)) c2)).mono ?_; rintro e w3 ⟨rfl, g3⟩; have G3 := Lib.hid (show Gr wr w3 from (by repeat (first | exact Gr.refl _ | refine Gr.alloc ?_ _ | refine Gr.trans ?_ (by assumption) | refine Gr.drew ?_ | refine Gr.drewN ?_ _ | refine Gr.grow ?_ _ | refine Gr.setCell ?_ (by (try simp); (try omega)) _))); have sz3 := Nat.le_trans szr G3.out.below.size) | (at_builtin; refine wpList_app1C rfl _ _ 103 rfl Try.underlying103 Try.infoCh wA.heap.size _ j (bxN xs 0) (rsN xs 0) rfl (HO.out.gr (Gr.alloc G3.out _)) _ (own_oneB w3 (j : Int) wA.heap.size sz3) (w3.heap.size + 1) (by simp) rfl (by omega) (by simp; omega) ?_; intro v' w4 ho4 hb4 _))
        have OW := Lib.hid ho4
        have GB := Lib.hid ((HL.out.trans ((Gr.alloc G3.out (.cells #[.int .i64 (j : Int)] 3)).below.mono szr)).trans hb4)
        clear ho4 hb4 g2 g3 p2 c1 c2
        go_wp2
        go_roundw
        case rel => exact ⟨j + 1, by omega, by go_num, OW.out, GB.out⟩
        case measure => simp [intOf]; omega
      · obtain rfl : j = xs.length := by omega
        have HLX := HL
        clear ho hbl HL szr
        have m1 : (m : Int) - 1 = ((m - 1 : Nat) : Int) := by omega
        obtain ⟨mm, hmm⟩ : ∃ mm, m - 1 = mm := ⟨_, rfl⟩
        have HMM := Lib.hid hmm
        rw [hmm] at m1
        have hm4 : mm ≤ 4 := by omega
        have hml : mm < xs.length := by omega
        rw [m1] at m0
        clear hmm
        rename World => W1
        go_wp2_with fail
        go_loopw [6, 41] (fun s i wr => C2Rel xs mm wA.heap.size wA s i wr) (fun _ i _ => (mm - intOf i).toNat)
        case atStart => exact ⟨0, Nat.zero_le _, rfl, HO.out, HLX.out⟩
        case round =>
          obtain ⟨k, hk, rfl, ho, hbl⟩ := hrel
          have HL := Lib.hid hbl
          have szr := hbl.size
          obtain ⟨M, hM⟩ : ∃ M, xs.length - k = M + 1 := ⟨xs.length - k - 1, by omega⟩
          have hM60 : M ≤ 59 := by omega
          rw [hM] at ho
          obtain ⟨A2, c2, rfl, ho⟩ := ho.slice
          have HO := Lib.hid ho
          have BW := Lib.hid (GW.out.below.trans (hbl.mono GW.out.below.size))
          by_cases hlt : k < mm
          · have z0 : (0 : Int) ≤ (k : Int) := by omega
            have z1 : (k : Int) < (mm : Int) := by omega
            have HBB := Lib.hid (fun (W : World) (hp : PplRow W (.slice A xs.length c) xs) (hc : OwnC W wA.heap.size (.slice A2 (M + 1) c2) (M + 1) (bxN xs k) (rsN xs k)) (j : Nat) (hj : j < M) => (by
              have q := Try.bestBehind W wA.heap.size (.slice A xs.length c) (.slice A2 (M + 1) c2) xs k (j : Int) (j : Int) (j + 1) HGD.out (by omega) (.inl ⟨rfl, by omega, by omega⟩) (by omega) hp (by rw [hM]; exact hc)
              rw [← rs_sel] at q
              exact q : Calls Try.prog 72 #[.slice A xs.length c, .slice A2 (M + 1) c2, .int .i64 (j : Int)] W fun e w' => ∃ u, e = .returned (.agg #[u, .int .i64 (rsN xs (k + 1) j)]) ∧ Gr W w' ∧ OwnI w' wA.heap.size u (wayB xs k (j : Int))))
            have HM2 := Lib.hid hM
            clear ho hbl hM
            rename World => W2
            go_wp2
            go_loopw [9, 46] (fun s i wr => C1Rel xs (k + 1) M W2.heap.size W2 s i wr) (fun _ i _ => (M - intOf i).toNat)
            case atStart => exact ⟨0, Nat.zero_le _, rfl, OwnC.nil _ _ _ _, Below.refl _ _⟩
            case round =>
              obtain ⟨j, hj, rfl, ho3, hbl3⟩ := hrel
              have HO3 := Lib.hid ho3
              have HL3 := Lib.hid hbl3
              have sz3 := hbl3.size
              by_cases hltj : j < M
              · have x0 : (0 : Int) ≤ (j : Int) := by omega
                have x1 : (j : Int) < (M : Int) := by omega
                have BW3 := Lib.hid (BW.out.trans (hbl3.mono BW.out.size))
                have HB := Lib.hid (HBB.out _ (HP.out.below BW3.out) (HO.out.below hbl3 (Nat.le_refl _)) j hltj)
                have HEQ := Lib.hid (show bxN xs (k + 1) j = [(j : Int)] ++ wayB xs k (j : Int) from rfl)
                clear ho3 hbl3
                rename World => W3
                go_wp2_with (first | (go_at_call 72; refine HB.out.mono ?_; rintro e w2 ⟨u, rfl, g2, hu⟩; obtain ⟨gb, cb, rfl, _, _, hu⟩ := hu.rowB (by rw [wayB_len]; omega); rw [wayB_len] at hu ⊢))
                have HU := Lib.hid hu
                have G2 := Lib.hid g2
                have hW2 : W2.heap.size ≤ w2.heap.size := Nat.le_trans sz3 g2.below.size
                have hA2 : wA.heap.size ≤ w2.heap.size := Nat.le_trans szr hW2
                have k0 : (w2.alloc (.cells #[.slice (some ⟨gb, 0, none⟩) (k + 1) cb, .int .i64 (rsN xs (k + 1) j)] 78)).cell? ⟨w2.heap.size, 0, none⟩ = some (.slice (some ⟨gb, 0, none⟩) (k + 1) cb) := by simp [go_sem]
                have k1 : (w2.alloc (.cells #[.slice (some ⟨gb, 0, none⟩) (k + 1) cb, .int .i64 (rsN xs (k + 1) j)] 78)).cell? ⟨w2.heap.size, 1, none⟩ = some (.int .i64 (rsN xs (k + 1) j)) := by simp [go_sem]
                have kS : (w2.alloc (.cells #[.slice (some ⟨gb, 0, none⟩) (k + 1) cb, .int .i64 (rsN xs (k + 1) j)] 78)).heap.size = w2.heap.size + 1 := by simp
                have kG : Gr w2 (w2.alloc (.cells #[.slice (some ⟨gb, 0, none⟩) (k + 1) cb, .int .i64 (rsN xs (k + 1) j)] 78)) := Gr.alloc (Gr.refl _) _
                obtain ⟨wB, hwB⟩ : ∃ wB, w2.alloc (.cells #[.slice (some ⟨gb, 0, none⟩) (k + 1) cb, .int .i64 (rsN xs (k + 1) j)] 78) = wB := ⟨_, rfl⟩
                rw [hwB] at k0 k1 kS kG ⊢
                clear hwB
                clear hu g2
                go_region_held3 (fun W' => W'.cell? ⟨w2.heap.size, 0, none⟩ = some (.slice (some ⟨gb, 0, none⟩) (k + 1) cb) ∧ W'.cell? ⟨w2.heap.size, 1, none⟩ = some (.int .i64 (rsN xs (k + 1) j)))
                  (first | exact ⟨k0, k1⟩ | assumption | exact two_k (w := wB) (Gr.drew (Gr.refl _)) ⟨k0, k1⟩ | exact two_k (w := wB) (Gr.alloc (Gr.drew (Gr.refl _)) _) ⟨k0, k1⟩ | exact two_k (w := wB) (Gr.alloc (Gr.alloc (Gr.drew (Gr.refl _)) _) _) ⟨k0, k1⟩ | exact two_k (w := wB) (Gr.drew (Gr.alloc (Gr.refl _) _)) ⟨k0, k1⟩ | exact two_k (w := wB) (Gr.drew (Gr.alloc (Gr.alloc (Gr.refl _) _) _)) ⟨k0, k1⟩ | exact two_b hB4 ⟨k0, k1⟩ | exact two_k (w := w4) (Gr.alloc (Gr.refl _) _) (two_b hB4 ⟨k0, k1⟩))
                  (first | (go_at_call 73; refine (Try.concatI _ (w2.heap.size + 2) ⟨w2.heap.size + 1, 0, none⟩ ⟨gb, 0, none⟩ 1 1 (k + 1) cb [(j : Int)] (wayB xs k (j : Int)) rfl (wayB_len _ _ _) (by omega) (by omega) (by simp [go_sem, kS]) (by simp [go_sem, kS]) (fun i u hu => by obtain ⟨rfl, rfl⟩ := ics_single hu; simp [go_sem, Addr.add, kS]) (fun i u hu => Gr.keep0 (kG.trans (show Gr wB _ from (by repeat (first | exact Gr.refl _ | refine Gr.alloc ?_ _ | refine Gr.trans ?_ (by assumption) | refine Gr.drew ?_ | refine Gr.drewN ?_ _ | refine Gr.grow ?_ _ | refine Gr.setCell ?_ (by (try simp); (try omega)) _)))) (reads0 HU.out (wayB_len _ _ _) i u hu))).mono ?_; rintro e w4 ⟨v4, rfl, ho4, hb4⟩; have hB4 : Below wB.heap.size wB w4 := Below.trans (show Gr wB _ from (by repeat (first | exact Gr.refl _ | refine Gr.alloc ?_ _ | refine Gr.trans ?_ (by assumption) | refine Gr.drew ?_ | refine Gr.drewN ?_ _ | refine Gr.grow ?_ _ | refine Gr.setCell ?_ (by (try simp); (try omega)) _))).below (hb4.mono (show Gr wB _ from (by repeat (first | exact Gr.refl _ | refine Gr.alloc ?_ _ | refine Gr.trans ?_ (by assumption) | refine Gr.drew ?_ | refine Gr.drewN ?_ _ | refine Gr.grow ?_ _ | refine Gr.setCell ?_ (by (try simp); (try omega)) _))).below.size); obtain ⟨gq, cq, rfl, _, _, ho4⟩ := ho4.rowB (by simp); rw [show ([(j : Int)] ++ wayB xs k (j : Int)).length = k + 1 + 1 by simp [wayB_len]] at ho4 ⊢; have HO4 := Lib.hid (show OwnI w4 W2.heap.size _ (bxN xs (k + 1) j) from OwnI.mono ho4 (by simp [kS]; omega)); clear ho4 hb4) | (refine step_app1C rfl _ _ 103 rfl Try.underlying103 Try.infoCh W2.heap.size _ j (bxN xs (k + 1)) (rsN xs (k + 1)) rfl ((HO3.out.gr (G2.out.trans kG)).below hB4 (Nat.le_refl _)) _ HO4.out w4.heap.size rfl rfl (by omega) (by have := hB4.size; omega) ?_; intro v5 w5 ho5 hb5 hg5; have hS5 := (show w5.cell? ⟨w2.heap.size, 0, none⟩ = some (.slice (some ⟨gb, 0, none⟩) (k + 1) cb) ∧ w5.cell? ⟨w2.heap.size, 1, none⟩ = some (.int .i64 (rsN xs (k + 1) j)) from ⟨hg5.cell (two_b hB4 ⟨k0, k1⟩).1 (fun e => by have q : w2.heap.size < W3.heap.size := HO3.out.lt _ e.symm; have := G2.out.below.size; omega), hg5.cell (two_b hB4 ⟨k0, k1⟩).2 (fun e => by have q : w2.heap.size < W3.heap.size := HO3.out.lt _ e.symm; have := G2.out.below.size; omega)⟩); clear hg5))
                have OW := Lib.hid ho5
                have GB := Lib.hid ((HL3.out.trans (((G2.out.trans kG).below.mono sz3).trans (hB4.mono (by omega)))).trans hb5)
                clear ho5 hb5
                go_wp2
                go_roundw
                case rel => exact ⟨j + 1, by omega, by go_num, OW.out, GB.out⟩
                case measure => simp [intOf]; omega
              · obtain rfl : j = M := by omega
                have HOX := Lib.hid (show OwnC _ wA.heap.size _ (xs.length - (k + 1)) (bxN xs (k + 1)) (rsN xs (k + 1)) from by rw [show xs.length - (k + 1) = j by have := HM2.out; omega]; exact OwnC.mono ho3 szr)
                have HLX := Lib.hid (HL.out.trans (hbl3.mono szr))
                clear ho3 hbl3
                go_wp2
                go_roundw
                case rel => exact ⟨k + 1, by omega, by go_num, HOX.out, HLX.out⟩
                case measure => simp [intOf]; omega
          · obtain rfl : k = mm := by omega
            have HB := Lib.hid (by
              have q := Try.bestBehind _ wA.heap.size (.slice A xs.length c) (.slice A2 (M + 1) c2) xs k (-120) (-1) 0 HGD.out (by omega) (.inr ⟨rfl, rfl, rfl⟩) (by omega) (HP.out.below BW.out) (by rw [hM]; exact ho)
              rw [← HMM.out] at q
              exact q)
            have q0 := (hbl.cell (p := ⟨w.heap.size, 0, none⟩) hzA).trans r0.out
            have q1 := (hbl.cell (p := ⟨w.heap.size, 1, none⟩) hzA).trans r1.out
            have q2 := (hbl.frozen (p := ⟨w.heap.size, 0, none⟩) hzA).trans r2.out
            have q3 := (hbl.frozen (p := ⟨w.heap.size, 1, none⟩) hzA).trans r3.out
            clear ho hbl
            go_wp2_with (first | (go_at_call 72; refine HB.out.mono ?_; rintro e w2 ⟨u, rfl, g2, hu⟩; obtain ⟨gb, cb, rfl, _, _, hu⟩ := hu.rowB (by rw [wayB_len]; omega); rw [wayB_len] at hu ⊢; have p0 := g2.keep2 q0; have p1 := g2.keep2 q1; have p2 := ((bcell g2.below).2 _ _ (World.block_lt_of_cell? _ _ q0)).trans q2; have p3 := ((bcell g2.below).2 _ _ (World.block_lt_of_cell? _ _ q0)).trans q3))
            have GB := Lib.hid (BW.out.trans (g2.below.mono BW.out.size))
            have hgA : w.heap.size < w2.heap.size := World.block_lt_of_cell? _ _ p0
            have HU := Lib.hid hu
            clear hu g2 q0 q1 q2 q3
            refine bodyPost_ret (v := .tuple #[.agg #[.slice (some ⟨gb, 0, none⟩) (m - 1 + 1) cb, .int .i64 (sel xs (m - 1) (-1)).2], .bool true]) ?_ rfl ⟨_, rfl, ?_, ?_⟩
            · simp [results, Try.results51, go_sem, p0, p1, p2, p3]
            · have hne : (Value.slice (some ⟨gb, 0, none⟩) (m - 1 + 1) cb).ownBlock = none ∨ (Value.slice (some ⟨gb, 0, none⟩) (m - 1 + 1) cb).ownBlock ≠ some w.heap.size := .inr (fun e => by
                have q := (World.ownsRow.lt HU.out gb rfl).1
                simp [Value.ownBlock] at e
                omega)
              have o1 := OwnI.grown HU.out (grownBy_set (o := 0) (u := .slice (some ⟨gb, 0, none⟩) (m - 1 + 1) cb) (World.grownBy.refl w2 (some w.heap.size))) hne
              have o2 := OwnI.grown o1 (grownBy_set (o := 1) (u := .int .i64 (sel xs (m - 1) (-1)).2) (World.grownBy.refl _ (some w.heap.size))) hne
              exact OwnI.mono o2 (Nat.le_of_lt hzA)
            · exact Below.setCell (Below.setCell GB.out (Nat.le_refl _) _) (Nat.le_refl _) _
end Go.Proofs
