/-
  Chapter 4: the farthest corner, plain; the model (spec.avFarthest, FarthestCorner).
-/
import Derived.Test.YtkhjjafeoijaaaaAvO
import Derived.Test.YtkhjjafeoijaaaaLiT
namespace Go.Proofs
open Go.RowKit Av Gm Go.Maps
set_option linter.unusedVariables false
set_option linter.unusedSimpArgs false
/-- the first one of the farthest of the first k, and how far it is -/
def bsF (fr : List Int) : Nat → Nat × Int
  | 0 => (0, -1)
  | k + 1 => if (bsF fr k).2 < fr.getD k 0 then (k, fr.getD k 0) else bsF fr k
theorem bsF_lt (fr : List Int) (k : Nat) (h : 0 < k) : (bsF fr k).1 < k := by
  induction k with
  | zero => omega
  | succ k ih =>
    unfold bsF
    split
    · show k < k + 1; omega
    · rcases Nat.eq_zero_or_pos k with e | e
      · subst e; show 0 < 1; omega
      · have := ih e; omega
theorem bsF_ge (fr : List Int) (k : Nat) : -1 ≤ (bsF fr k).2 := by
  induction k with
  | zero => exact Int.le_refl _
  | succ k ih => unfold bsF; split <;> (try simp only) <;> omega
theorem OwnI.cellsN {w : World} {B N : Nat} {v : Value} {fr : List Int} (ho : OwnI w B v fr) (hl : fr.length = N) (h0 : 0 < N) : ∃ g c, v = .slice (some ⟨g, 0, none⟩) N c ∧ ∀ k, k < N → w.cell? ⟨g, k, none⟩ = some (.int .i64 (fr.getD k 0)) := by
  rcases ho.view with ⟨hx, _⟩ | ⟨_, g, c, rfl, _, _, _, hc, _⟩
  · rw [hx] at hl; simp at hl; omega
  · exact ⟨g, c, by rw [hl], fun k hk => hc k (by omega)⟩
def fcB (W H : Int) (ps : List Blk) (xs : List Int) : Bool := okB W H ps && isC W H xs
def fcR (W H : Int) (ps : List Blk) (xs : List Int) : Nat × Int := bsF (fin (nbC W.toNat H.toNat ps) (W.toNat * H.toNat) (vtx H xs)).far (W.toNat * H.toNat)
/-- the corner that is told, and how far it is -/
def fcL (W H : Int) (ps : List Blk) (xs : List Int) : List Int := if fcB W H ps xs = true then [(crn H.toNat (fcR W H ps xs).1).1, (crn H.toNat (fcR W H ps xs).1).2] else []
def fcD (W H : Int) (ps : List Blk) (xs : List Int) : Int := if fcB W H ps xs = true then (fcR W H ps xs).2 else 0
set_option maxRecDepth 100000 in
set_option maxHeartbeats 1600000 in
theorem Try.avFarthest (w : World) (Wn Hn : Nat) (B : Nat) (a : Value) (ps : List Blk) (s0 : Nat) (Bl : Nat) (la : Value) (hW : 1 ≤ Wn ∧ Wn ≤ 8) (hH : 1 ≤ Hn ∧ Hn ≤ 8) (hs : s0 < Wn * Hn) (hl : ps.length ≤ 1048576) (h : OwnB w B a ps) (hla : OwnI w Bl la [(crn Hn s0).1, (crn Hn s0).2])
    (R : Nat × Int) (hR : bsF (fin (nbC Wn Hn ps) (Wn * Hn) s0).far (Wn * Hn) = R) :
    Calls Try.prog 62 #[.agg #[.int .i64 Wn, .int .i64 Hn, a], la] w fun e w' => e = .returned (.tuple #[.int .i64 (R.1 : Nat), .int .i64 R.2]) ∧ Below w.heap.size w w' := by
  obtain ⟨A, c, rfl, h⟩ := OwnE.eta h
  have HF := Lib.hid (fun (X : World) (g : Below w.heap.size w X) => Try.avFar X Wn Hn B _ ps s0 Bl la hW hH hs hl (OwnE.below h g (Nat.le_refl _)) (OwnI.below hla g (Nat.le_refl _)))
  have hfl := (fin_bf (@nb_valid Wn Hn ps) hs).inv.fl
  have hpos : 0 < Wn * Hn := by omega
  have hN : Wn * Hn ≤ 64 := Nat.mul_le_mul hW.2 hH.2
  have HR := Lib.hid hR
  generalize (fin (nbC Wn Hn ps) (Wn * Hn) s0).far = fr at *
  generalize Wn * Hn = N at *
  obtain ⟨A2, c2, rfl, _⟩ := hla.eta
  clear h hla hs hR
  have HV := Lib.hid (fun (w3 : World) (B3 : Nat) (v : Value) (ho : OwnI w3 B3 v fr) => OwnI.cellsN ho hfl hpos)
  go_enter Try.func62, Try.ntmps62
  go_wp2_with (first | (go_at_call 90; refine (HF.out _ (Gr.below (show Gr w _ from (by repeat (first | exact Gr.refl _ | refine Gr.alloc ?_ _ | refine Gr.trans ?_ (by assumption) | refine Gr.drew ?_ | refine Gr.drewN ?_ _ | refine Gr.grow ?_ _ | refine Gr.setCell ?_ (by (try simp); (try omega)) _))))).mono ?_; rintro e w3 ⟨v3, rfl, hown3, hb3⟩; obtain ⟨g3, c3, rfl, hr3⟩ := HV.out _ _ _ hown3))
  have HB3 := Lib.hid (Below.trans (show Below w.heap.size w _ from Gr.below (by repeat (first | exact Gr.refl _ | refine Gr.alloc ?_ _ | refine Gr.trans ?_ (by assumption) | refine Gr.drew ?_ | refine Gr.drewN ?_ _ | refine Gr.grow ?_ _ | refine Gr.setCell ?_ (by (try simp); (try omega)) _))) (hb3.mono (show Gr w _ from (by repeat (first | exact Gr.refl _ | refine Gr.alloc ?_ _ | refine Gr.trans ?_ (by assumption) | refine Gr.drew ?_ | refine Gr.drewN ?_ _ | refine Gr.grow ?_ _ | refine Gr.setCell ?_ (by (try simp); (try omega)) _))).below.size))
  have HR3 := Lib.hid hr3
  clear hr3 hown3 hb3
  rename World => wo
  go_loopw [6, 7, 14] (fun bv mv iv wr => wr = wo ∧ ∃ k : Nat, iv = .int .i64 k ∧ k ≤ N ∧ bv = .int .i64 ((bsF fr k).1 : Nat) ∧ mv = .int .i64 (bsF fr k).2) (fun _ _ i _ => N - (intOf i).toNat)
  case atStart => exact ⟨rfl, 0, rfl, Nat.zero_le _, rfl, rfl⟩
  case round =>
    obtain ⟨rfl, k, rfl, hk, rfl, rfl⟩ := hrel
    by_cases hlt : k < N
    · have e1 := HR3.out k hlt
      have z0 : (0 : Int) ≤ (k : Int) := by omega
      have z1 : (k : Int) < (N : Int) := by omega
      have hst : bsF fr (k + 1) = if (bsF fr k).2 < fr.getD k 0 then (k, fr.getD k 0) else bsF fr k := rfl
      generalize bsF fr k = p at *
      generalize fr.getD k 0 = d at *
      obtain ⟨p1, p2⟩ := p
      simp only at hst ⊢
      by_cases hd : p2 < d
      · rw [if_pos hd] at hst
        have HS := Lib.hid hst
        clear hst
        go_wp2
        go_roundw
        case rel => exact ⟨trivial, k + 1, by go_num, by omega, by rw [HS.out], by rw [HS.out]⟩
        case measure => simp [intOf]; omega
      · rw [if_neg hd] at hst
        have HS := Lib.hid hst
        clear hst
        go_wp2
        go_roundw
        case rel => exact ⟨trivial, k + 1, by go_num, by omega, by rw [HS.out], by rw [HS.out]⟩
        case measure => simp [intOf]; omega
    · obtain rfl : k = N := by omega
      have HX := Lib.hid (show (bsF fr k).1 = R.1 ∧ (bsF fr k).2 = R.2 by rw [HR.out]; exact ⟨rfl, rfl⟩)
      generalize (bsF fr k).1 = p1 at *
      generalize (bsF fr k).2 = p2 at *
      go_wp2
      go_ret2
      exact ⟨by rw [← HX.out.1, ← HX.out.2]; rfl, HB3.out⟩
end Go.Proofs
