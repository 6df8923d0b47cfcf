/-
  Contracts of chapter 5, the program: sums in a part of the street, sums of all; people that are good, a house of people.
-/
import Derived.Test.YtkhjjafeoijaaaaMdD
import Derived.Test.YtkhjjafeoijaaaaInn
namespace Go.Proofs
open Go.RowKit
set_option linter.unusedVariables false
set_option linter.unusedSimpArgs false
/-- people that can be read -/
def PplRow (w : World) (v : Value) (xs : List Int) : Prop := ∃ g c, v = .slice (some ⟨g, 0, none⟩) xs.length c ∧ 0 < xs.length ∧ xs.length ≤ c ∧ c ≤ maxLen ∧ ∀ j, j < xs.length → w.cell? ⟨g, j, none⟩ = some (.int .i64 (gx xs j))
theorem PplRow.gr {w w' : World} {v : Value} {xs : List Int} (h : PplRow w v xs) (g : Gr w w') : PplRow w' v xs := by
  obtain ⟨a, c, e, h0, h1, h2, h3⟩ := h
  exact ⟨a, c, e, h0, h1, h2, fun j hj => g.keep2 (h3 j hj)⟩
theorem PplRow.below {w w' : World} {v : Value} {xs : List Int} (h : PplRow w v xs) (g : Below w.heap.size w w') : PplRow w' v xs := by
  obtain ⟨a, c, e, h0, h1, h2, h3⟩ := h
  exact ⟨a, c, e, h0, h1, h2, fun j hj => (g.cell (World.block_lt_of_cell? _ _ (h3 j hj))).trans (h3 j hj)⟩
theorem OwnI.ppl {w : World} {B : Nat} {v : Value} {xs : List Int} (h : OwnI w B v xs) (h0 : 0 < xs.length) : PplRow w v xs := by
  have h' := h
  rcases h.2 with ⟨_, hn⟩ | ⟨g, cap, cur, rfl, hb, hg, hc, hm, hs, ht⟩
  · omega
  · rcases h'.view with ⟨q, _⟩ | ⟨_, g2, c2, q, _, _, _, hcell, _⟩
    · rw [q] at h0; simp at h0
    · simp only [Value.slice.injEq, Option.some.injEq, Addr.mk.injEq] at q
      obtain ⟨⟨q1, _⟩, _, q2⟩ := q
      subst q1
      exact ⟨_, _, rfl, h0, hc, hm, hcell⟩
set_option maxHeartbeats 800000 in
theorem Try.sumsIn (w : World) (v : Value) (xs : List Int) (a b : Int) (fo n : Nat) (hp : PplRow w v xs) (hl : xs.length ≤ 60) (h1 : max a 0 = (fo : Int)) (h2 : min b (xs.length : Int) = ((fo + n : Nat) : Int)) (h3 : 0 < n) :
    Calls Try.prog 73 #[v, .int .i64 a, .int .i64 b] w fun e w' => ∃ bp bf vp, e = .returned (.func (.func 96) #[] #[.pointer (some ⟨bp, 0, none⟩), .pointer (some ⟨bf, 0, none⟩)]) ∧ Gr w w' ∧ PartRow w' vp xs fo n ∧
      w'.cell? ⟨bp, 0, none⟩ = some vp ∧ w'.cell? ⟨bf, 0, none⟩ = some (.int .i64 (fo : Int)) := by
  obtain ⟨g, c, rfl, hpos, hc1, hc2, hc⟩ := hp
  have HC := Lib.hid hc
  have f0 : (0 : Int) ≤ (fo : Int) := by omega
  have f1 : (fo : Int) < ((fo + n : Nat) : Int) := by omega
  have f2 : ((fo + n : Nat) : Int) ≤ (xs.length : Int) := by omega
  have hto : ((fo + n : Nat) : Int).toNat - ((fo : Nat) : Int).toNat = n := by omega
  have hfo : ((fo : Nat) : Int).toNat = fo := by omega
  obtain ⟨to, hto'⟩ : ∃ t : Int, ((fo + n : Nat) : Int) = t := ⟨_, rfl⟩
  obtain ⟨fi, hfi⟩ : ∃ t : Int, (fo : Int) = t := ⟨_, rfl⟩
  have hn : fo + n ≤ xs.length := by omega
  rw [hto'] at h2 f1 f2 hto
  rw [hfi] at h1 f0 f1 hto hfo ⊢
  clear hc hto' hfi
  have hmf : ∀ (fn : Fn) (first cap : Array Value) (w : World), (Instr.makeFunc fn first cap).run Try.prog w = .ok (.func fn first cap) w := fun _ _ _ _ => rfl
  go_enter Try.func73, Try.ntmps73
  go_wp2
  go_ret
  refine ⟨w.heap.size + 1, w.heap.size, .slice (some ⟨g, fo, none⟩) n n, rfl, by repeat (first | exact Gr.refl _ | refine Gr.alloc ?_ _ | refine Gr.trans ?_ (by assumption) | refine Gr.drew ?_ | refine Gr.drewN ?_ _ | refine Gr.grow ?_ _ | refine Gr.setCell ?_ (by (try simp); (try omega)) _), ⟨g, n, rfl, hn, fun j hj => ?_⟩, ?_, ?_⟩
  · exact Gr.keep2 (by repeat (first | exact Gr.refl _ | refine Gr.alloc ?_ _ | refine Gr.trans ?_ (by assumption) | refine Gr.drew ?_ | refine Gr.drewN ?_ _ | refine Gr.grow ?_ _ | refine Gr.setCell ?_ (by (try simp); (try omega)) _)) (HC.out (fo + j) (by omega))
  · rw [show to.toNat - fo = n by omega]; simp [go_sem]
  · simp [go_sem]
def bwf (xs bs : List Int) (i : Nat) : Int := gx xs i * avv ((i : Int) - near bs (i : Int))
def boxSum (xs bs : List Int) : Int := sumF (bwf xs bs) xs.length
def heads (xs : List Int) : Int := sumF (gx xs) xs.length
theorem hdf_zero (xs : List Int) (n : Nat) : sumF (hdf xs 0) n = sumF (gx xs) n := sumF_ext fun i _ => by simp [hdf]
theorem stf_zero (xs bs : List Int) (n : Nat) : sumF (stf xs bs 0) n = sumF (bwf xs bs) n := sumF_ext fun i _ => by simp [stf, bwf]
set_option maxHeartbeats 800000 in
theorem Try.sumsOfAll (w : World) (v vb : Value) (xs bs : List Int) (hg : GoodP xs) (hp : PplRow w v xs) (hr : BoxRow w vb bs) :
    Calls Try.prog 38 #[v, vb] w fun e w' => e = .returned (.agg #[.int .i64 (heads xs), .int .i64 (boxSum xs bs)]) ∧ Gr w w' := by
  have HP := Lib.hid hp
  have HR := Lib.hid hr
  have HG := Lib.hid hg
  have hxl := hg.1.2
  have HS := Lib.hid (fun W (g : Gr w W) => Try.sumsIn W v xs 0 (xs.length : Int) 0 xs.length (hp.gr g) hg.1.2 (by simp) (by simp) hg.1.1)
  obtain ⟨g, c, rfl, h0, h1, h2, _⟩ := hp
  obtain ⟨gb, cb, rfl, _⟩ := hr
  have E1 := Lib.hid (show sumF (hdf xs 0) xs.length = heads xs from hdf_zero xs _)
  have E2 := Lib.hid (show sumF (stf xs bs 0) xs.length = boxSum xs bs from stf_zero xs bs _)
  generalize heads xs = r1 at *
  generalize boxSum xs bs = r2 at *
  clear hg
  go_enter Try.func38, Try.ntmps38
  go_wp2_with (first | (go_at_call 73; refine (HS.out _ (by repeat (first | exact Gr.refl _ | refine Gr.alloc ?_ _ | refine Gr.trans ?_ (by assumption) | refine Gr.drew ?_ | refine Gr.drewN ?_ _ | refine Gr.grow ?_ _ | refine Gr.setCell ?_ (by (try simp); (try omega)) _))).mono ?_; rintro e w1 ⟨bp, bf, vp, rfl, g1, p1, c1, c2⟩; have gw : Gr w w1 := (Gr.alloc (Gr.refl _) _).trans g1; have HF := Lib.hid (Try.sumsFn w1 _ vp bs xs 0 xs.length bp bf HG.out (HR.out.gr gw) p1 c1 c2); rw [E1.out, E2.out] at HF; have GG := Lib.hid g1; clear p1 c1 c2 gw) | (go_at_call 96; refine HF.out.mono ?_; rintro e w2 ⟨rfl, g2⟩; (have r0 : w2.cell? ⟨w.heap.size, 0, none⟩ = some (.int .i64 0) := (GG.out.trans g2).keep2 (by simp [go_sem])); (have r1' : w2.cell? ⟨w.heap.size, 1, none⟩ = some (.int .i64 0) := (GG.out.trans g2).keep2 (by simp [go_sem])); (have r2' : w2.frozen? ⟨w.heap.size, 0, none⟩ = false := ((bcell (GG.out.trans g2).below).2 _ _ (by simp)).trans (by simp [go_sem])); (have r3 : w2.frozen? ⟨w.heap.size, 1, none⟩ = false := ((bcell (GG.out.trans g2).below).2 _ _ (by simp)).trans (by simp [go_sem]))))
  have gw : Gr w w2 := ((Gr.alloc (Gr.refl _) _).trans GG.out).trans g2
  have GW := Lib.hid gw
  clear gw g1 g2 GG
  refine bodyPost_ret (v := .agg #[.int .i64 r1, .int .i64 r2]) ?_ rfl ⟨rfl, ?_⟩
  · simp [results, Try.results38, go_sem, r0, r1', r2', r3]
  · exact Gr.setCell (Gr.setCell GW.out (by simp) _) (by simp) _
end Go.Proofs
