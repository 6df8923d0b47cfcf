/-
  Contracts of chapter 4: the closed block that is best to open (the program).
-/
import Derived.Test.YtkgfbdbhllakoaaAvY
namespace Go.Proofs
open Go.RowKit Av Gm Go.Maps
set_option linter.unusedVariables false
set_option linter.unusedSimpArgs false
/-- so many are tried: is there one, the least distance, which -/
def bo (dk : Nat → Int) : Nat → Bool × Int × Nat
  | 0 => (false, 0, 0)
  | k + 1 => if 0 ≤ dk k ∧ ((bo dk k).1 = false ∨ dk k < (bo dk k).2.1) then (true, dk k, k) else bo dk k
def dkI (W H : Int) (ps : List Blk) (xs ys : List Int) (k : Nat) : Int := if isC W H xs && isC W H ys then cdI W H (del ps k) xs ys else -1
def boE (ps : List Blk) (s : Bool × Int × Nat) : Blk := if s.1 then ps.getD s.2.2 b0 else b0
def boB (W H : Int) (ps : List Blk) (xs ys : List Int) : Bool := okB W H ps && (bo (dkI W H ps xs ys) ps.length).1
def boK (W H : Int) (ps : List Blk) (xs ys : List Int) : Blk := if boB W H ps xs ys then ps.getD (bo (dkI W H ps xs ys) ps.length).2.2 b0 else b0
def boL (W H : Int) (ps : List Blk) (xs ys : List Int) : Int := if boB W H ps xs ys then (bo (dkI W H ps xs ys) ps.length).2.1 else 0
theorem bo_idx (dk : Nat → Int) (k : Nat) (h : (bo dk k).1 = true) : (bo dk k).2.2 < k ∧ (bo dk k).2.1 = dk (bo dk k).2.2 ∧ 0 ≤ (bo dk k).2.1 := by
  induction k with
  | zero => cases h
  | succ k ih =>
    simp only [bo] at h ⊢
    split
    · rename_i c; exact ⟨Nat.lt_succ_self _, rfl, c.1⟩
    · rename_i c
      rw [if_neg c] at h
      obtain ⟨a, b, d⟩ := ih h
      exact ⟨by omega, b, d⟩
theorem bo_zero (dk : Nat → Int) (k : Nat) (h : (bo dk k).1 = false) : bo dk k = (false, 0, 0) := by
  induction k with
  | zero => rfl
  | succ k ih =>
    simp only [bo] at h ⊢
    split
    · rename_i c; rw [if_pos c] at h; cases h
    · rename_i c; rw [if_neg c] at h; exact ih h
theorem cdB_del {W H : Int} {ps : List Blk} {xs ys : List Int} (h : okB W H ps = true) (k : Nat) : cdB W H (del ps k) xs ys = decide (0 ≤ dkI W H ps xs ys k) ∧ cdV W H (del ps k) xs ys = if 0 ≤ dkI W H ps xs ys k then dkI W H ps xs ys k else 0 := by
  have h2 : okB W H (del ps k) = true := decide_eq_true (del_ok (of_decide_eq_true h) k)
  have e : cdB W H (del ps k) xs ys = decide (0 ≤ dkI W H ps xs ys k) := by
    unfold cdB dkI
    rw [h2]
    cases isC W H xs <;> cases isC W H ys <;> simp
  refine ⟨e, ?_⟩
  unfold cdV
  rw [e]
  by_cases c : 0 ≤ dkI W H ps xs ys k
  · rw [if_pos (decide_eq_true c), if_pos c]
    unfold dkI at c ⊢
    split
    · rfl
    · rename_i q; rw [if_neg q] at c; omega
  · rw [if_neg (by simpa using c), if_neg c]
theorem dkI_hi {W H : Int} {ps : List Blk} {xs ys : List Int} (h : okB W H ps = true) (k : Nat) : dkI W H ps xs ys k ≤ 64 ∧ -1 ≤ dkI W H ps xs ys k := by
  unfold dkI
  split
  · rename_i q
    simp only [Bool.and_eq_true] at q
    obtain ⟨o1, o2, o3, o4, _⟩ := of_decide_eq_true h
    obtain ⟨p1, p2⟩ := isC_vtx q.1 ⟨o1, o2⟩ ⟨o3, o4⟩
    obtain ⟨r1, r2⟩ := isC_vtx q.2 ⟨o1, o2⟩ ⟨o3, o4⟩
    unfold cdI
    obtain ⟨Wn, rfl⟩ : ∃ Wn : Nat, W = Wn := ⟨W.toNat, by omega⟩
    obtain ⟨Hn, rfl⟩ : ∃ Hn : Nat, H = Hn := ⟨H.toNat, by omega⟩
    simp only [Int.toNat_natCast] at *
    have := dst_bd (ps := del ps k) p1 r1
    have hN : Wn * Hn ≤ 64 := Nat.mul_le_mul (show Wn ≤ 8 by omega) (show Hn ≤ 8 by omega)
    have c : ((Wn * Hn : Nat) : Int) = (Wn : Int) * Hn := by push_cast; rfl
    omega
  · omega
def Try.BoR (dk : Nat → Int) (ps : List Blk) (bk : Nat) (W1 : World) (lv fv iv : Value) (wr : World) : Prop :=
  ∃ k : Nat, iv = .int .i64 k ∧ k ≤ ps.length ∧ lv = .int .i64 (bo dk k).2.1 ∧ fv = .bool (bo dk k).1 ∧ wr.cell? ⟨bk, 0, none⟩ = some (.int .i64 (boE ps (bo dk k)).1) ∧ wr.cell? ⟨bk, 1, none⟩ = some (.int .i64 (boE ps (bo dk k)).2.1) ∧ wr.cell? ⟨bk, 2, none⟩ = some (.bool (boE ps (bo dk k)).2.2) ∧
    wr.frozen? ⟨bk, 0, none⟩ = false ∧ wr.frozen? ⟨bk, 1, none⟩ = false ∧ wr.frozen? ⟨bk, 2, none⟩ = false ∧ W1.grownBy wr (some bk)
set_option maxRecDepth 100000 in
set_option maxHeartbeats 4000000 in
theorem Try.iBestToOpen (w : World) (W H : Int) (B : Nat) (a : Value) (ps : List Blk) (Ba : Nat) (la : Value) (xs : List Int) (Bb : Nat) (lb : Value) (ys : List Int) (p1 p2 : Int) (p3 : Bool) (v : Int) (b : Bool) (hp : boK W H ps xs ys = (p1, p2, p3)) (hv : boL W H ps xs ys = v) (hb : boB W H ps xs ys = b) (hl : ps.length ≤ 1048576) (h : OwnB w B a ps) (hla : OwnI w Ba la xs) (hlb : OwnI w Bb lb ys) :
    Calls Try.prog 28 #[.agg #[.int .i64 W, .int .i64 H, a], la, lb] w fun e w' => e = .returned (.tuple #[.agg #[.int .i64 p1, .int .i64 p2, .bool p3], .int .i64 v, .bool b]) ∧ Below w.heap.size w w' := by
  have mixed : Try.prog.follows .mixedOrders = true := by kernel_rfl
  obtain ⟨A, c, rfl, h⟩ := OwnE.eta h
  obtain ⟨b1, h1⟩ : ∃ b1, okB W H ps = b1 := ⟨_, rfl⟩
  have HA := Lib.hid (fun (X : World) (g : Gr w X) => Try.iIsCity X W H B _ ps b1 h1 hl (h.gr g))
  cases b1
  · have e1 : boB W H ps xs ys = false := by unfold boB; rw [h1]; rfl
    have e2 : v = 0 := by rw [← hv]; unfold boL; rw [e1]; rfl
    have e3 : (p1, p2, p3) = b0 := by rw [← hp]; unfold boK; rw [e1]; rfl
    rw [e1] at hb
    cases e3
    subst hb e2
    clear h hla hlb h1 hv hp
    go_enter Try.func28, Try.ntmps28
    go_wp2_with (first | (go_at_call 47; refine (HA.out _ (by repeat (first | exact Gr.refl _ | refine Gr.alloc ?_ _ | refine Gr.trans ?_ (by assumption) | refine Gr.drew ?_ | refine Gr.drewN ?_ _ | refine Gr.grow ?_ _ | refine Gr.setCell ?_ (by (try simp); (try omega)) _))).mono ?_; rintro e w1 ⟨rfl, hbW⟩; have hyW : w.heap.size + 1 < w1.heap.size := (by have hq := hbW.below.size; simp at hq; omega); have q0 := hbW.keep0 (a := ⟨w.heap.size + 1, 0, none⟩) (v := .int .i64 0) (by simp [go_sem]); have q1 := hbW.keep0 (a := ⟨w.heap.size + 1, 1, none⟩) (v := .int .i64 0) (by simp [go_sem]); have q2 := hbW.keep0 (a := ⟨w.heap.size + 1, 2, none⟩) (v := .bool false) (by simp [go_sem]); have hcW := (bcell hbW.below).1; have hfW := (bcell hbW.below).2))
    refine bodyPost_ret (v := .tuple #[.agg #[.int .i64 0, .int .i64 0, .bool false], .int .i64 0, .bool false]) ?_ rfl ⟨rfl, ?_⟩
    · simp [results, Try.results28, go_sem, q0, q1, q2, hyW]
    · exact Gr.below (show Gr w _ from Gr.setCell (Gr.setCell (Gr.setCell (by repeat (first | exact Gr.refl _ | refine Gr.alloc ?_ _ | refine Gr.trans ?_ (by assumption) | refine Gr.drew ?_ | refine Gr.drewN ?_ _ | refine Gr.grow ?_ _ | refine Gr.setCell ?_ (by (try simp); (try omega)) _)) (by simp) _) (by simp) _) (by simp) _)
  · obtain ⟨o1, o2, o3, o4, o5, _, o7⟩ := of_decide_eq_true h1
    have e1 : boB W H ps xs ys = (bo (dkI W H ps xs ys) ps.length).1 := by unfold boB; rw [h1]; rfl
    have e2 : boL W H ps xs ys = (bo (dkI W H ps xs ys) ps.length).2.1 := by
      unfold boL; rw [e1]
      cases c : (bo (dkI W H ps xs ys) ps.length).1
      · rw [bo_zero _ _ c]; rfl
      · rfl
    have e3 : boK W H ps xs ys = boE ps (bo (dkI W H ps xs ys) ps.length) := by unfold boK boE; rw [e1]
    rw [e1] at hb
    rw [e2] at hv
    rw [e3] at hp
    subst hb hv
    have HOP := Lib.hid (fun (X : World) (g : Below w.heap.size w X) k hk => Try.opening X W H B _ ps k hk (by omega) (OwnE.below h g (Nat.le_refl _)))
    have HCD := Lib.hid (fun (X : World) (g : Below w.heap.size w X) B' v' k (hk : k < ps.length) (hv : OwnB X B' v' (del ps k)) => Try.iCornerDistance X W H B' v' (del ps k) Ba la xs Bb lb ys _ _ (cdB_del h1 k).2 (cdB_del h1 k).1 (by rw [del_len _ _ hk]; omega) hv (OwnI.below hla g (Nat.le_refl _)) (OwnI.below hlb g (Nat.le_refl _)))
    have HHI := Lib.hid (fun k => dkI_hi (xs := xs) (ys := ys) h1 k)
    generalize hdk : dkI W H ps xs ys = dk at *
    have HLT := Lib.hid (OwnE.lt h)
    have HV0 := Lib.hid (show ∀ k, k < ps.length → ∃ g, A = some ⟨g, 0, none⟩ ∧ g < w.heap.size ∧ w.cell? ⟨g, k * 3, none⟩ = some (.int .i64 (ps.getD k b0).1) ∧ w.cell? ⟨g, k * 3 + 1, none⟩ = some (.int .i64 (ps.getD k b0).2.1) ∧ w.cell? ⟨g, k * 3 + 2, none⟩ = some (.bool (ps.getD k b0).2.2) from fun k hk => by
      rcases OwnB.view h with ⟨hx, _⟩ | ⟨_, g, c', e, _, hg, _, _, hc, _⟩
      · rw [hx] at hk; simp at hk
      · cases e
        obtain ⟨c0, c1, c2⟩ := hc k hk
        exact ⟨g, rfl, hg, c0, c1, c2⟩)
    have HP := Lib.hid hp
    clear h hla hlb h1 hp e1 e2 e3 hdk
    go_enter Try.func28, Try.ntmps28
    go_wp2_with (first | (go_at_call 47; refine (HA.out _ (by repeat (first | exact Gr.refl _ | refine Gr.alloc ?_ _ | refine Gr.trans ?_ (by assumption) | refine Gr.drew ?_ | refine Gr.drewN ?_ _ | refine Gr.grow ?_ _ | refine Gr.setCell ?_ (by (try simp); (try omega)) _))).mono ?_; rintro e w1 ⟨rfl, hbW⟩; have hyW : w.heap.size + 1 < w1.heap.size := (by have hq := hbW.below.size; simp at hq; omega); have hzW : w.heap.size < w1.heap.size := (by omega); have hcW := (bcell hbW.below).1; have hfW := (bcell hbW.below).2))
    obtain ⟨W1, hW1⟩ : ∃ W1, w1.alloc (.cells #[.int .i64 0, .int .i64 0, .bool false] 45) = W1 := ⟨_, rfl⟩
    have gW : Gr ((w.alloc (.cells #[.int .i64 W, .int .i64 H, .slice A ps.length c] 31)).alloc (.cells #[.int .i64 0, .int .i64 0, .bool false] 45)) W1 := by rw [← hW1]; exact Gr.alloc hbW _
    have GW : Gr w W1 := by rw [← hW1]; exact by repeat (first | exact Gr.refl _ | refine Gr.alloc ?_ _ | refine Gr.trans ?_ (by assumption) | refine Gr.drew ?_ | refine Gr.drewN ?_ _ | refine Gr.grow ?_ _ | refine Gr.setCell ?_ (by (try simp); (try omega)) _)
    have k0 : W1.cell? ⟨w.heap.size, 0, none⟩ = some (.int .i64 W) := gW.keep0 (by simp [go_sem])
    have k1 : W1.cell? ⟨w.heap.size, 1, none⟩ = some (.int .i64 H) := gW.keep0 (by simp [go_sem])
    have k2 : W1.cell? ⟨w.heap.size, 2, none⟩ = some (.slice A ps.length c) := gW.keep0 (by simp [go_sem])
    have k3 : W1.cell? ⟨w.heap.size + 1, 0, none⟩ = some (.int .i64 0) := gW.keep0 (by simp [go_sem])
    have k4 : W1.cell? ⟨w.heap.size + 1, 1, none⟩ = some (.int .i64 0) := gW.keep0 (by simp [go_sem])
    have k5 : W1.cell? ⟨w.heap.size + 1, 2, none⟩ = some (.bool false) := gW.keep0 (by simp [go_sem])
    have k6 : W1.frozen? ⟨w.heap.size + 1, 0, none⟩ = false := ((bcell gW.below).2 _ _ (by simp)).trans (by simp [go_sem])
    have k7 : W1.frozen? ⟨w.heap.size + 1, 1, none⟩ = false := ((bcell gW.below).2 _ _ (by simp)).trans (by simp [go_sem])
    have k8 : W1.frozen? ⟨w.heap.size + 1, 2, none⟩ = false := ((bcell gW.below).2 _ _ (by simp)).trans (by simp [go_sem])
    have n0 : W1.cell? ⟨w1.heap.size, 0, none⟩ = some (.int .i64 0) := by rw [← hW1]; simp [go_sem]
    have n1 : W1.cell? ⟨w1.heap.size, 1, none⟩ = some (.int .i64 0) := by rw [← hW1]; simp [go_sem]
    have n2 : W1.cell? ⟨w1.heap.size, 2, none⟩ = some (.bool false) := by rw [← hW1]; simp [go_sem]
    have n3 : W1.frozen? ⟨w1.heap.size, 0, none⟩ = false ∧ W1.frozen? ⟨w1.heap.size, 1, none⟩ = false ∧ W1.frozen? ⟨w1.heap.size, 2, none⟩ = false := by rw [← hW1]; simp [go_sem]
    have szW : W1.heap.size = w1.heap.size + 1 := by rw [← hW1]; simp
    have HG := Lib.hid GW
    have HK := Lib.hid (And.intro k0 (And.intro k1 k2))
    have HK6 := Lib.hid (And.intro k3 (And.intro k4 (And.intro k5 (And.intro k6 (And.intro k7 k8)))))
    have HN := Lib.hid (And.intro n0 (And.intro n1 (And.intro n2 n3)))
    simp only [hW1]
    clear hW1 gW GW k0 k1 k2 k3 k4 k5 k6 k7 k8 n0 n1 n2 n3 hbW hcW hfW
    go_loopw [10, 11, 23] (fun lv fv iv wr => Try.BoR dk ps w1.heap.size W1 lv fv iv wr) (fun _ _ i _ => ps.length - (intOf i).toNat)
    case atStart => exact ⟨0, rfl, Nat.zero_le _, rfl, rfl, HN.out.1, HN.out.2.1, HN.out.2.2.1, HN.out.2.2.2.1, HN.out.2.2.2.2.1, HN.out.2.2.2.2.2, World.grownBy.refl W1 _⟩
    case round =>
      obtain ⟨k, rfl, hk, rfl, rfl, t0, t1, t2, t3, t4, t5, hg⟩ := hrel
      have hs := hg.size
      by_cases hlt : k < ps.length
      · obtain ⟨g, rfl, hgw, e0, e1, e2⟩ := HV0.out k hlt
        rcases hpk : ps.getD k b0 with ⟨x0, y0, u0⟩
        rw [hpk] at e0 e1 e2
        simp only at e0 e1 e2
        replace e0 := hg.cell (HG.out.keep0 e0) (by simp; omega)
        replace e1 := hg.cell (HG.out.keep0 e1) (by simp; omega)
        replace e2 := hg.cell (HG.out.keep0 e2) (by simp; omega)
        have m0 := hg.cell HK.out.1 (by simp; omega)
        have m1 := hg.cell HK.out.2.1 (by simp; omega)
        have m2 := hg.cell HK.out.2.2 (by simp; omega)
        have z0 : (0 : Int) ≤ (k : Int) := by omega
        have z1 : (k : Int) < (ps.length : Int) := by omega
        have hs1 : w.heap.size < wr.heap.size := by omega
        have HBW := Lib.hid (show Below w.heap.size w wr from Below.grown HG.out.below hg (by have := HG.out.below.size; omega) (fun j hj => by cases hj; omega))
        have HPK := Lib.hid hpk
        have HGR := Lib.hid hg
        have HT := Lib.hid (And.intro t0 (And.intro t1 (And.intro t2 (And.intro t3 (And.intro t4 t5)))))
        have HHK := Lib.hid (HHI.out k)
        have HBO := Lib.hid (show bo dk (k + 1) = if 0 ≤ dk k ∧ ((bo dk k).1 = false ∨ dk k < (bo dk k).2.1) then (true, dk k, k) else bo dk k from rfl)
        have HCK := Lib.hid (fun (X : World) g B' v' hv => HCD.out X g B' v' k hlt hv)
        have HOK := Lib.hid (fun (X : World) g => HOP.out X g k hlt)
        obtain ⟨dd, hdd⟩ : ∃ dd, dk k = dd := ⟨_, rfl⟩
        rw [hdd] at HHK HBO HCK
        obtain ⟨bf, hbf⟩ : ∃ x, (bo dk k).1 = x := ⟨_, rfl⟩
        obtain ⟨bl, hbl⟩ : ∃ x, (bo dk k).2.1 = x := ⟨_, rfl⟩
        rw [hbf, hbl] at HBO
        rw [hbf, hbl]
        have HBF := Lib.hid (And.intro hbf hbl)
        clear hg hpk t0 t1 t2 t3 t4 t5 hdd hbf hbl
        have hbk := World.block_lt_of_cell? _ _ HT.out.1
        by_cases hd0 : 0 ≤ dd
        · rw [if_pos hd0, decide_eq_true hd0] at HCK
          cases bf
          · go_wp2_with (first | (go_at_call 48; refine (HOK.out _ (HBW.out.trans ((show Gr wr (wr.alloc (.cells #[.int .i64 x0, .int .i64 y0, .bool u0] 45)) from (by repeat (first | exact Gr.refl _ | refine Gr.alloc ?_ _ | refine Gr.trans ?_ (by assumption) | refine Gr.drew ?_ | refine Gr.drewN ?_ _ | refine Gr.grow ?_ _ | refine Gr.setCell ?_ (by (try simp); (try omega)) _))).below.mono HBW.out.size))).mono ?_; rintro e w3 ⟨v3, rfl, ho3, hb3⟩; obtain ⟨A3, c3, L3, rfl, ho3⟩ := own_open ho3; have hB3 := HBW.out.trans ((show Gr wr (wr.alloc (.cells #[.int .i64 x0, .int .i64 y0, .bool u0] 45)) from (by repeat (first | exact Gr.refl _ | refine Gr.alloc ?_ _ | refine Gr.trans ?_ (by assumption) | refine Gr.drew ?_ | refine Gr.drewN ?_ _ | refine Gr.grow ?_ _ | refine Gr.setCell ?_ (by (try simp); (try omega)) _))).below.mono HBW.out.size); have hB4 := hB3.trans (hb3.mono hB3.size); have g3 := Below.trans (show Gr wr (wr.alloc (.cells #[.int .i64 x0, .int .i64 y0, .bool u0] 45)) from (by repeat (first | exact Gr.refl _ | refine Gr.alloc ?_ _ | refine Gr.trans ?_ (by assumption) | refine Gr.drew ?_ | refine Gr.drewN ?_ _ | refine Gr.grow ?_ _ | refine Gr.setCell ?_ (by (try simp); (try omega)) _))).below (hb3.mono (show Gr wr (wr.alloc (.cells #[.int .i64 x0, .int .i64 y0, .bool u0] 45)) from (by repeat (first | exact Gr.refl _ | refine Gr.alloc ?_ _ | refine Gr.trans ?_ (by assumption) | refine Gr.drew ?_ | refine Gr.drewN ?_ _ | refine Gr.grow ?_ _ | refine Gr.setCell ?_ (by (try simp); (try omega)) _))).below.size); have r0 := cell_k2 hb3 (show (wr.alloc (.cells #[.int .i64 x0, .int .i64 y0, .bool u0] 45)).cell? ⟨wr.heap.size, 0, none⟩ = some (.int .i64 x0) by simp [go_sem]); have r1 := cell_k2 hb3 (show (wr.alloc (.cells #[.int .i64 x0, .int .i64 y0, .bool u0] 45)).cell? ⟨wr.heap.size, 1, none⟩ = some (.int .i64 y0) by simp [go_sem]); have r2 := cell_k2 hb3 (show (wr.alloc (.cells #[.int .i64 x0, .int .i64 y0, .bool u0] 45)).cell? ⟨wr.heap.size, 2, none⟩ = some (.bool u0) by simp [go_sem])) | (go_at_call 14; refine (HCK.out _ hB4 _ _ ho3).mono ?_; rintro e w4 ⟨rfl, hb4⟩; have g4 := g3.trans (hb4.mono g3.size); have s0 := cell_k2 hb4 r0; have s1 := cell_k2 hb4 r1; have s2 := cell_k2 hb4 r2; have y0' := cell_k2 g4 HT.out.1; have y1' := cell_k2 g4 HT.out.2.1; have y2' := cell_k2 g4 HT.out.2.2.1; have y3' := ((bcell g4).2 _ 0 hbk).trans HT.out.2.2.2.1; have y4' := ((bcell g4).2 _ 1 hbk).trans HT.out.2.2.2.2.1; have y5' := ((bcell g4).2 _ 2 hbk).trans HT.out.2.2.2.2.2))
            go_roundw
            case rel =>
              have HB1 : bo dk (k + 1) = (true, dd, k) := by rw [HBO.out]; simp [hd0, *]
              refine ⟨k + 1, by go_num, by omega, by rw [HB1], by rw [HB1], ?_, ?_, ?_, ?_, ?_, ?_, grownBy_setCell (grownBy_setCell (grownBy_setCell (grown_below HGR.out g4 HGR.out.size)))⟩
              · rw [HB1, show boE ps (true, dd, k) = ps.getD k b0 from rfl, HPK.out]
                rw [World.cell?_setCell_other _ ⟨w1.heap.size, 2, none⟩ ⟨w1.heap.size, 0, none⟩ _ (by simp), World.cell?_setCell_other _ ⟨w1.heap.size, 1, none⟩ ⟨w1.heap.size, 0, none⟩ _ (by simp)]
                exact World.cell?_setCell_same _ _ _ y0'
              · rw [HB1, show boE ps (true, dd, k) = ps.getD k b0 from rfl, HPK.out]
                rw [World.cell?_setCell_other _ ⟨w1.heap.size, 2, none⟩ ⟨w1.heap.size, 1, none⟩ _ (by simp)]
                exact World.cell?_setCell_same _ _ _ (by rw [World.cell?_setCell_other _ ⟨w1.heap.size, 0, none⟩ ⟨w1.heap.size, 1, none⟩ _ (by simp)]; exact y1')
              · rw [HB1, show boE ps (true, dd, k) = ps.getD k b0 from rfl, HPK.out]
                exact World.cell?_setCell_same _ _ _ (by rw [World.cell?_setCell_other _ ⟨w1.heap.size, 1, none⟩ ⟨w1.heap.size, 2, none⟩ _ (by simp), World.cell?_setCell_other _ ⟨w1.heap.size, 0, none⟩ ⟨w1.heap.size, 2, none⟩ _ (by simp)]; exact y2')
              · simp [y3']
              · simp [y4']
              · simp [y5']
            case measure => simp [intOf]; omega
          · by_cases hdl : dd < bl
            · go_wp2_with (first | (go_at_call 48; refine (HOK.out _ (HBW.out.trans ((show Gr wr (wr.alloc (.cells #[.int .i64 x0, .int .i64 y0, .bool u0] 45)) from (by repeat (first | exact Gr.refl _ | refine Gr.alloc ?_ _ | refine Gr.trans ?_ (by assumption) | refine Gr.drew ?_ | refine Gr.drewN ?_ _ | refine Gr.grow ?_ _ | refine Gr.setCell ?_ (by (try simp); (try omega)) _))).below.mono HBW.out.size))).mono ?_; rintro e w3 ⟨v3, rfl, ho3, hb3⟩; obtain ⟨A3, c3, L3, rfl, ho3⟩ := own_open ho3; have hB3 := HBW.out.trans ((show Gr wr (wr.alloc (.cells #[.int .i64 x0, .int .i64 y0, .bool u0] 45)) from (by repeat (first | exact Gr.refl _ | refine Gr.alloc ?_ _ | refine Gr.trans ?_ (by assumption) | refine Gr.drew ?_ | refine Gr.drewN ?_ _ | refine Gr.grow ?_ _ | refine Gr.setCell ?_ (by (try simp); (try omega)) _))).below.mono HBW.out.size); have hB4 := hB3.trans (hb3.mono hB3.size); have g3 := Below.trans (show Gr wr (wr.alloc (.cells #[.int .i64 x0, .int .i64 y0, .bool u0] 45)) from (by repeat (first | exact Gr.refl _ | refine Gr.alloc ?_ _ | refine Gr.trans ?_ (by assumption) | refine Gr.drew ?_ | refine Gr.drewN ?_ _ | refine Gr.grow ?_ _ | refine Gr.setCell ?_ (by (try simp); (try omega)) _))).below (hb3.mono (show Gr wr (wr.alloc (.cells #[.int .i64 x0, .int .i64 y0, .bool u0] 45)) from (by repeat (first | exact Gr.refl _ | refine Gr.alloc ?_ _ | refine Gr.trans ?_ (by assumption) | refine Gr.drew ?_ | refine Gr.drewN ?_ _ | refine Gr.grow ?_ _ | refine Gr.setCell ?_ (by (try simp); (try omega)) _))).below.size); have r0 := cell_k2 hb3 (show (wr.alloc (.cells #[.int .i64 x0, .int .i64 y0, .bool u0] 45)).cell? ⟨wr.heap.size, 0, none⟩ = some (.int .i64 x0) by simp [go_sem]); have r1 := cell_k2 hb3 (show (wr.alloc (.cells #[.int .i64 x0, .int .i64 y0, .bool u0] 45)).cell? ⟨wr.heap.size, 1, none⟩ = some (.int .i64 y0) by simp [go_sem]); have r2 := cell_k2 hb3 (show (wr.alloc (.cells #[.int .i64 x0, .int .i64 y0, .bool u0] 45)).cell? ⟨wr.heap.size, 2, none⟩ = some (.bool u0) by simp [go_sem])) | (go_at_call 14; refine (HCK.out _ hB4 _ _ ho3).mono ?_; rintro e w4 ⟨rfl, hb4⟩; have g4 := g3.trans (hb4.mono g3.size); have s0 := cell_k2 hb4 r0; have s1 := cell_k2 hb4 r1; have s2 := cell_k2 hb4 r2; have y0' := cell_k2 g4 HT.out.1; have y1' := cell_k2 g4 HT.out.2.1; have y2' := cell_k2 g4 HT.out.2.2.1; have y3' := ((bcell g4).2 _ 0 hbk).trans HT.out.2.2.2.1; have y4' := ((bcell g4).2 _ 1 hbk).trans HT.out.2.2.2.2.1; have y5' := ((bcell g4).2 _ 2 hbk).trans HT.out.2.2.2.2.2))
              go_roundw
              case rel =>
                have HB1 : bo dk (k + 1) = (true, dd, k) := by rw [HBO.out]; simp [hd0, *]
                refine ⟨k + 1, by go_num, by omega, by rw [HB1], by rw [HB1], ?_, ?_, ?_, ?_, ?_, ?_, grownBy_setCell (grownBy_setCell (grownBy_setCell (grown_below HGR.out g4 HGR.out.size)))⟩
                · rw [HB1, show boE ps (true, dd, k) = ps.getD k b0 from rfl, HPK.out]
                  rw [World.cell?_setCell_other _ ⟨w1.heap.size, 2, none⟩ ⟨w1.heap.size, 0, none⟩ _ (by simp), World.cell?_setCell_other _ ⟨w1.heap.size, 1, none⟩ ⟨w1.heap.size, 0, none⟩ _ (by simp)]
                  exact World.cell?_setCell_same _ _ _ y0'
                · rw [HB1, show boE ps (true, dd, k) = ps.getD k b0 from rfl, HPK.out]
                  rw [World.cell?_setCell_other _ ⟨w1.heap.size, 2, none⟩ ⟨w1.heap.size, 1, none⟩ _ (by simp)]
                  exact World.cell?_setCell_same _ _ _ (by rw [World.cell?_setCell_other _ ⟨w1.heap.size, 0, none⟩ ⟨w1.heap.size, 1, none⟩ _ (by simp)]; exact y1')
                · rw [HB1, show boE ps (true, dd, k) = ps.getD k b0 from rfl, HPK.out]
                  exact World.cell?_setCell_same _ _ _ (by rw [World.cell?_setCell_other _ ⟨w1.heap.size, 1, none⟩ ⟨w1.heap.size, 2, none⟩ _ (by simp), World.cell?_setCell_other _ ⟨w1.heap.size, 0, none⟩ ⟨w1.heap.size, 2, none⟩ _ (by simp)]; exact y2')
                · simp [y3']
                · simp [y4']
                · simp [y5']
              case measure => simp [intOf]; omega
            · go_wp2_with (first | (go_at_call 48; refine (HOK.out _ (HBW.out.trans ((show Gr wr (wr.alloc (.cells #[.int .i64 x0, .int .i64 y0, .bool u0] 45)) from (by repeat (first | exact Gr.refl _ | refine Gr.alloc ?_ _ | refine Gr.trans ?_ (by assumption) | refine Gr.drew ?_ | refine Gr.drewN ?_ _ | refine Gr.grow ?_ _ | refine Gr.setCell ?_ (by (try simp); (try omega)) _))).below.mono HBW.out.size))).mono ?_; rintro e w3 ⟨v3, rfl, ho3, hb3⟩; obtain ⟨A3, c3, L3, rfl, ho3⟩ := own_open ho3; have hB3 := HBW.out.trans ((show Gr wr (wr.alloc (.cells #[.int .i64 x0, .int .i64 y0, .bool u0] 45)) from (by repeat (first | exact Gr.refl _ | refine Gr.alloc ?_ _ | refine Gr.trans ?_ (by assumption) | refine Gr.drew ?_ | refine Gr.drewN ?_ _ | refine Gr.grow ?_ _ | refine Gr.setCell ?_ (by (try simp); (try omega)) _))).below.mono HBW.out.size); have hB4 := hB3.trans (hb3.mono hB3.size); have g3 := Below.trans (show Gr wr (wr.alloc (.cells #[.int .i64 x0, .int .i64 y0, .bool u0] 45)) from (by repeat (first | exact Gr.refl _ | refine Gr.alloc ?_ _ | refine Gr.trans ?_ (by assumption) | refine Gr.drew ?_ | refine Gr.drewN ?_ _ | refine Gr.grow ?_ _ | refine Gr.setCell ?_ (by (try simp); (try omega)) _))).below (hb3.mono (show Gr wr (wr.alloc (.cells #[.int .i64 x0, .int .i64 y0, .bool u0] 45)) from (by repeat (first | exact Gr.refl _ | refine Gr.alloc ?_ _ | refine Gr.trans ?_ (by assumption) | refine Gr.drew ?_ | refine Gr.drewN ?_ _ | refine Gr.grow ?_ _ | refine Gr.setCell ?_ (by (try simp); (try omega)) _))).below.size); have r0 := cell_k2 hb3 (show (wr.alloc (.cells #[.int .i64 x0, .int .i64 y0, .bool u0] 45)).cell? ⟨wr.heap.size, 0, none⟩ = some (.int .i64 x0) by simp [go_sem]); have r1 := cell_k2 hb3 (show (wr.alloc (.cells #[.int .i64 x0, .int .i64 y0, .bool u0] 45)).cell? ⟨wr.heap.size, 1, none⟩ = some (.int .i64 y0) by simp [go_sem]); have r2 := cell_k2 hb3 (show (wr.alloc (.cells #[.int .i64 x0, .int .i64 y0, .bool u0] 45)).cell? ⟨wr.heap.size, 2, none⟩ = some (.bool u0) by simp [go_sem])) | (go_at_call 14; refine (HCK.out _ hB4 _ _ ho3).mono ?_; rintro e w4 ⟨rfl, hb4⟩; have g4 := g3.trans (hb4.mono g3.size); have s0 := cell_k2 hb4 r0; have s1 := cell_k2 hb4 r1; have s2 := cell_k2 hb4 r2; have y0' := cell_k2 g4 HT.out.1; have y1' := cell_k2 g4 HT.out.2.1; have y2' := cell_k2 g4 HT.out.2.2.1; have y3' := ((bcell g4).2 _ 0 hbk).trans HT.out.2.2.2.1; have y4' := ((bcell g4).2 _ 1 hbk).trans HT.out.2.2.2.2.1; have y5' := ((bcell g4).2 _ 2 hbk).trans HT.out.2.2.2.2.2))
              go_roundw
              case rel =>
                have HB1 : bo dk (k + 1) = bo dk k := by rw [HBO.out, if_neg (by rintro ⟨z1, z | z⟩ <;> first | omega | (cases z; done))]
                exact ⟨k + 1, by go_num, by omega, by rw [HB1, HBF.out.2], by rw [HB1, HBF.out.1], by rw [HB1]; exact y0', by rw [HB1]; exact y1', by rw [HB1]; exact y2', y3', y4', y5', grown_below HGR.out g4 HGR.out.size⟩
              case measure => simp [intOf]; omega
        · rw [if_neg hd0, decide_eq_false hd0] at HCK
          cases bf
          · go_wp2_with (first | (go_at_call 48; refine (HOK.out _ (HBW.out.trans ((show Gr wr (wr.alloc (.cells #[.int .i64 x0, .int .i64 y0, .bool u0] 45)) from (by repeat (first | exact Gr.refl _ | refine Gr.alloc ?_ _ | refine Gr.trans ?_ (by assumption) | refine Gr.drew ?_ | refine Gr.drewN ?_ _ | refine Gr.grow ?_ _ | refine Gr.setCell ?_ (by (try simp); (try omega)) _))).below.mono HBW.out.size))).mono ?_; rintro e w3 ⟨v3, rfl, ho3, hb3⟩; obtain ⟨A3, c3, L3, rfl, ho3⟩ := own_open ho3; have hB3 := HBW.out.trans ((show Gr wr (wr.alloc (.cells #[.int .i64 x0, .int .i64 y0, .bool u0] 45)) from (by repeat (first | exact Gr.refl _ | refine Gr.alloc ?_ _ | refine Gr.trans ?_ (by assumption) | refine Gr.drew ?_ | refine Gr.drewN ?_ _ | refine Gr.grow ?_ _ | refine Gr.setCell ?_ (by (try simp); (try omega)) _))).below.mono HBW.out.size); have hB4 := hB3.trans (hb3.mono hB3.size); have g3 := Below.trans (show Gr wr (wr.alloc (.cells #[.int .i64 x0, .int .i64 y0, .bool u0] 45)) from (by repeat (first | exact Gr.refl _ | refine Gr.alloc ?_ _ | refine Gr.trans ?_ (by assumption) | refine Gr.drew ?_ | refine Gr.drewN ?_ _ | refine Gr.grow ?_ _ | refine Gr.setCell ?_ (by (try simp); (try omega)) _))).below (hb3.mono (show Gr wr (wr.alloc (.cells #[.int .i64 x0, .int .i64 y0, .bool u0] 45)) from (by repeat (first | exact Gr.refl _ | refine Gr.alloc ?_ _ | refine Gr.trans ?_ (by assumption) | refine Gr.drew ?_ | refine Gr.drewN ?_ _ | refine Gr.grow ?_ _ | refine Gr.setCell ?_ (by (try simp); (try omega)) _))).below.size); have r0 := cell_k2 hb3 (show (wr.alloc (.cells #[.int .i64 x0, .int .i64 y0, .bool u0] 45)).cell? ⟨wr.heap.size, 0, none⟩ = some (.int .i64 x0) by simp [go_sem]); have r1 := cell_k2 hb3 (show (wr.alloc (.cells #[.int .i64 x0, .int .i64 y0, .bool u0] 45)).cell? ⟨wr.heap.size, 1, none⟩ = some (.int .i64 y0) by simp [go_sem]); have r2 := cell_k2 hb3 (show (wr.alloc (.cells #[.int .i64 x0, .int .i64 y0, .bool u0] 45)).cell? ⟨wr.heap.size, 2, none⟩ = some (.bool u0) by simp [go_sem])) | (go_at_call 14; refine (HCK.out _ hB4 _ _ ho3).mono ?_; rintro e w4 ⟨rfl, hb4⟩; have g4 := g3.trans (hb4.mono g3.size); have s0 := cell_k2 hb4 r0; have s1 := cell_k2 hb4 r1; have s2 := cell_k2 hb4 r2; have y0' := cell_k2 g4 HT.out.1; have y1' := cell_k2 g4 HT.out.2.1; have y2' := cell_k2 g4 HT.out.2.2.1; have y3' := ((bcell g4).2 _ 0 hbk).trans HT.out.2.2.2.1; have y4' := ((bcell g4).2 _ 1 hbk).trans HT.out.2.2.2.2.1; have y5' := ((bcell g4).2 _ 2 hbk).trans HT.out.2.2.2.2.2))
            go_roundw
            case rel =>
              have HB1 : bo dk (k + 1) = bo dk k := by rw [HBO.out, if_neg (by rintro ⟨z1, z | z⟩ <;> first | omega | (cases z; done))]
              exact ⟨k + 1, by go_num, by omega, by rw [HB1, HBF.out.2], by rw [HB1, HBF.out.1], by rw [HB1]; exact y0', by rw [HB1]; exact y1', by rw [HB1]; exact y2', y3', y4', y5', grown_below HGR.out g4 HGR.out.size⟩
            case measure => simp [intOf]; omega
          · go_wp2_with (first | (go_at_call 48; refine (HOK.out _ (HBW.out.trans ((show Gr wr (wr.alloc (.cells #[.int .i64 x0, .int .i64 y0, .bool u0] 45)) from (by repeat (first | exact Gr.refl _ | refine Gr.alloc ?_ _ | refine Gr.trans ?_ (by assumption) | refine Gr.drew ?_ | refine Gr.drewN ?_ _ | refine Gr.grow ?_ _ | refine Gr.setCell ?_ (by (try simp); (try omega)) _))).below.mono HBW.out.size))).mono ?_; rintro e w3 ⟨v3, rfl, ho3, hb3⟩; obtain ⟨A3, c3, L3, rfl, ho3⟩ := own_open ho3; have hB3 := HBW.out.trans ((show Gr wr (wr.alloc (.cells #[.int .i64 x0, .int .i64 y0, .bool u0] 45)) from (by repeat (first | exact Gr.refl _ | refine Gr.alloc ?_ _ | refine Gr.trans ?_ (by assumption) | refine Gr.drew ?_ | refine Gr.drewN ?_ _ | refine Gr.grow ?_ _ | refine Gr.setCell ?_ (by (try simp); (try omega)) _))).below.mono HBW.out.size); have hB4 := hB3.trans (hb3.mono hB3.size); have g3 := Below.trans (show Gr wr (wr.alloc (.cells #[.int .i64 x0, .int .i64 y0, .bool u0] 45)) from (by repeat (first | exact Gr.refl _ | refine Gr.alloc ?_ _ | refine Gr.trans ?_ (by assumption) | refine Gr.drew ?_ | refine Gr.drewN ?_ _ | refine Gr.grow ?_ _ | refine Gr.setCell ?_ (by (try simp); (try omega)) _))).below (hb3.mono (show Gr wr (wr.alloc (.cells #[.int .i64 x0, .int .i64 y0, .bool u0] 45)) from (by repeat (first | exact Gr.refl _ | refine Gr.alloc ?_ _ | refine Gr.trans ?_ (by assumption) | refine Gr.drew ?_ | refine Gr.drewN ?_ _ | refine Gr.grow ?_ _ | refine Gr.setCell ?_ (by (try simp); (try omega)) _))).below.size); have r0 := cell_k2 hb3 (show (wr.alloc (.cells #[.int .i64 x0, .int .i64 y0, .bool u0] 45)).cell? ⟨wr.heap.size, 0, none⟩ = some (.int .i64 x0) by simp [go_sem]); have r1 := cell_k2 hb3 (show (wr.alloc (.cells #[.int .i64 x0, .int .i64 y0, .bool u0] 45)).cell? ⟨wr.heap.size, 1, none⟩ = some (.int .i64 y0) by simp [go_sem]); have r2 := cell_k2 hb3 (show (wr.alloc (.cells #[.int .i64 x0, .int .i64 y0, .bool u0] 45)).cell? ⟨wr.heap.size, 2, none⟩ = some (.bool u0) by simp [go_sem])) | (go_at_call 14; refine (HCK.out _ hB4 _ _ ho3).mono ?_; rintro e w4 ⟨rfl, hb4⟩; have g4 := g3.trans (hb4.mono g3.size); have s0 := cell_k2 hb4 r0; have s1 := cell_k2 hb4 r1; have s2 := cell_k2 hb4 r2; have y0' := cell_k2 g4 HT.out.1; have y1' := cell_k2 g4 HT.out.2.1; have y2' := cell_k2 g4 HT.out.2.2.1; have y3' := ((bcell g4).2 _ 0 hbk).trans HT.out.2.2.2.1; have y4' := ((bcell g4).2 _ 1 hbk).trans HT.out.2.2.2.2.1; have y5' := ((bcell g4).2 _ 2 hbk).trans HT.out.2.2.2.2.2))
            go_roundw
            case rel =>
              have HB1 : bo dk (k + 1) = bo dk k := by rw [HBO.out, if_neg (by rintro ⟨z1, z | z⟩ <;> first | omega | (cases z; done))]
              exact ⟨k + 1, by go_num, by omega, by rw [HB1, HBF.out.2], by rw [HB1, HBF.out.1], by rw [HB1]; exact y0', by rw [HB1]; exact y1', by rw [HB1]; exact y2', y3', y4', y5', grown_below HGR.out g4 HGR.out.size⟩
            case measure => simp [intOf]; omega
      · obtain rfl : k = ps.length := by omega
        rw [HP.out] at t0 t1 t2
        simp only at t0 t1 t2
        have hs1 : w.heap.size + 1 < wr.heap.size := by omega
        have r0 := hg.cell HK6.out.1 (by simp; omega)
        have r1 := hg.cell HK6.out.2.1 (by simp; omega)
        have r2 := hg.cell HK6.out.2.2.1 (by simp; omega)
        have f0 := (World.frozen?_of_block (a := ⟨w.heap.size + 1, 0, none⟩) (hg.block (w.heap.size + 1) (by omega) (by simp; omega))).trans HK6.out.2.2.2.1
        have f1 := (World.frozen?_of_block (a := ⟨w.heap.size + 1, 1, none⟩) (hg.block (w.heap.size + 1) (by omega) (by simp; omega))).trans HK6.out.2.2.2.2.1
        have f2 := (World.frozen?_of_block (a := ⟨w.heap.size + 1, 2, none⟩) (hg.block (w.heap.size + 1) (by omega) (by simp; omega))).trans HK6.out.2.2.2.2.2
        have g0 := World.cell?_setCell_same _ _ (.int .i64 p1) r0
        have g0' : ((wr.setCell ⟨w.heap.size + 1, 0, none⟩ (.int .i64 p1)).setCell ⟨w.heap.size + 1, 1, none⟩ (.int .i64 p2)).cell? ⟨w.heap.size + 1, 0, none⟩ = some (.int .i64 p1) := by
          rw [World.cell?_setCell_other _ ⟨w.heap.size + 1, 1, none⟩ ⟨w.heap.size + 1, 0, none⟩ _ (by simp)]; exact g0
        have g1' : ((wr.setCell ⟨w.heap.size + 1, 0, none⟩ (.int .i64 p1)).setCell ⟨w.heap.size + 1, 1, none⟩ (.int .i64 p2)).cell? ⟨w.heap.size + 1, 1, none⟩ = some (.int .i64 p2) := World.cell?_setCell_same _ _ (.int .i64 p2) (by
          rw [World.cell?_setCell_other _ ⟨w.heap.size + 1, 0, none⟩ ⟨w.heap.size + 1, 1, none⟩ _ (by simp)]; exact r1)
        have g2' : ((wr.setCell ⟨w.heap.size + 1, 0, none⟩ (.int .i64 p1)).setCell ⟨w.heap.size + 1, 1, none⟩ (.int .i64 p2)).cell? ⟨w.heap.size + 1, 2, none⟩ = some (.bool false) := by
          rw [World.cell?_setCell_other _ ⟨w.heap.size + 1, 1, none⟩ ⟨w.heap.size + 1, 2, none⟩ _ (by simp), World.cell?_setCell_other _ ⟨w.heap.size + 1, 0, none⟩ ⟨w.heap.size + 1, 2, none⟩ _ (by simp)]; exact r2
        have h0 : (((wr.setCell ⟨w.heap.size + 1, 0, none⟩ (.int .i64 p1)).setCell ⟨w.heap.size + 1, 1, none⟩ (.int .i64 p2)).setCell ⟨w.heap.size + 1, 2, none⟩ (.bool p3)).cell? ⟨w.heap.size + 1, 0, none⟩ = some (.int .i64 p1) := by
          rw [World.cell?_setCell_other _ ⟨w.heap.size + 1, 2, none⟩ ⟨w.heap.size + 1, 0, none⟩ _ (by simp)]; exact g0'
        have h1 : (((wr.setCell ⟨w.heap.size + 1, 0, none⟩ (.int .i64 p1)).setCell ⟨w.heap.size + 1, 1, none⟩ (.int .i64 p2)).setCell ⟨w.heap.size + 1, 2, none⟩ (.bool p3)).cell? ⟨w.heap.size + 1, 1, none⟩ = some (.int .i64 p2) := by
          rw [World.cell?_setCell_other _ ⟨w.heap.size + 1, 2, none⟩ ⟨w.heap.size + 1, 1, none⟩ _ (by simp)]; exact g1'
        have h2 := World.cell?_setCell_same _ _ (.bool p3) g2'
        have HBB := Lib.hid (show Below w.heap.size w wr from Below.grown HG.out.below hg (by have := HG.out.below.size; omega) (fun j hj => by cases hj; omega))
        clear g0 g0' g1' g2' hg t3 t4 t5
        go_wp2
        refine bodyPost_ret (v := .tuple #[.agg #[.int .i64 p1, .int .i64 p2, .bool p3], .int .i64 (bo dk ps.length).2.1, .bool (bo dk ps.length).1]) ?_ rfl ⟨rfl, ?_⟩
        · simp [results, Try.results28, go_sem, h0, h1, h2]
        · exact Below.setCell (Below.setCell (Below.setCell HBB.out (by simp) _) (by simp) _) (by simp) _
end Go.Proofs
