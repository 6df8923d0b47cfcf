/-
  Contracts of chapter 5: the least longest walk with so many boxes (both sides); sort.Search.
-/
import Derived.Test.YtkiblppanlbpaaaMdR
namespace Go.Proofs
open Go.RowKit
set_option linter.unusedVariables false
set_option linter.unusedSimpArgs false
def BRelM (n l : Int) (w : World) (a b : Value) (wr : World) : Prop := Gr w wr ∧ ∃ lo hi : Int, 0 ≤ lo ∧ lo ≤ l ∧ l ≤ hi ∧ hi ≤ n ∧ a = .int .i64 lo ∧ b = .int .i64 hi
set_option maxHeartbeats 1000000 in
/-- sort.Search with a closure that says 'l ≤ i' at i: l. -/
theorem Try.searchM (g : Nat) (cb : Array Value) (n l : Int) (w : World) (n1 : n ≤ 1000000000) (l0 : 0 ≤ l) (ln : l ≤ n)
    (eg : ∀ args w, (callFunc g args).run Try.prog w = .ok (.enter g args) w)
    (hf : ∀ (W : World) (i : Int), Gr w W → 0 ≤ i → i < n → Calls Try.prog g (#[.int .i64 i] ++ cb) W fun e w' => e = .returned (.bool (decide (l ≤ i))) ∧ Gr W w') :
    Calls Try.prog 61 #[.int .i64 n, .func (.func g) #[] cb] w fun e w' => e = .returned (.int .i64 l) ∧ Gr w w' := by
  have HF := Lib.hid hf
  clear hf
  go_enter Try.func61, Try.ntmps61
  go_wp2
  go_loopw [5, 6] (fun a b wr => BRelM n l w a b wr) (fun a b _ => (intOf b - intOf a).toNat)
  case atStart => exact ⟨Gr.refl _, 0, n, by omega, l0, ln, by omega, rfl, rfl⟩
  case round =>
    obtain ⟨gr, lo, hi, a1, a2, a3, a4, rfl, rfl⟩ := hrel
    by_cases hlt : lo < hi
    · have hc := HF.out wr ((lo + hi) / 2) gr (by omega) (by omega)
      by_cases hl : l ≤ (lo + hi) / 2
      · rw [decide_eq_true hl] at hc
        have HC := Lib.hid hc
        clear hc
        go_wp2_with (go_at_fn g; refine HC.out.mono ?_; rintro e w2 ⟨rfl, g2⟩)
        go_roundw
        case rel => exact ⟨gr.trans g2, lo, (lo + hi) / 2, by omega, by omega, by omega, by omega, rfl, rfl⟩
        case measure => simp [intOf]; omega
      · rw [decide_eq_false hl] at hc
        have HC := Lib.hid hc
        clear hc
        go_wp2_with (go_at_fn g; refine HC.out.mono ?_; rintro e w2 ⟨rfl, g2⟩)
        go_roundw
        case rel => exact ⟨gr.trans g2, (lo + hi) / 2 + 1, hi, by omega, by omega, by omega, by omega, rfl, rfl⟩
        case measure => simp [intOf]; omega
    · obtain rfl : lo = l := by omega
      go_wp2
      go_ret
      exact ⟨rfl, gr⟩
def LeastF (xs : List Int) (n : Int) (L : Nat) : Prop := L ≤ 30 ∧ ndI xs (L : Int) ≤ n ∧ ∀ i : Nat, i < L → n < ndI xs (i : Int)
theorem leastF_ex {xs : List Int} {n : Int} (h : ManyP xs n) : ∃ L, LeastF xs n L := by
  have h30 : ndI xs ((30 : Nat) : Int) ≤ n := by have := ndI_one xs h.1.1.2; have := h.2.1; have e : ((30 : Nat) : Int) = 30 := rfl; rw [e]; omega
  have key : ∀ m : Nat, m ≤ 30 → (∃ L, LeastF xs n L) ∨ ∀ i : Nat, i < m → n < ndI xs (i : Int) := by
    intro m
    induction m with
    | zero => intro _; right; intro i hi; omega
    | succ m ih =>
      intro hm
      rcases ih (by omega) with q | q
      · exact .inl q
      · by_cases c : ndI xs (m : Int) ≤ n
        · exact .inl ⟨m, by omega, c, q⟩
        · right
          intro i hi
          rcases Nat.lt_or_eq_of_le (Nat.le_of_lt_succ hi) with d | d
          · exact q i d
          · subst d; omega
  rcases key 30 (Nat.le_refl _) with q | q
  · exact q
  · exact ⟨30, Nat.le_refl _, h30, q⟩
theorem LeastF.iff {xs : List Int} {n : Int} {L : Nat} (h : LeastF xs n L) (i : Nat) : ndI xs (i : Int) ≤ n ↔ L ≤ i := by
  constructor
  · intro c
    rcases Nat.lt_or_ge i L with d | d
    · have := h.2.2 i d; omega
    · exact d
  · intro c
    have := ndI_mono xs (L : Int) (i : Int) (by omega) (by omega)
    have := h.2.1
    omega
set_option maxHeartbeats 1600000 in
theorem Try.sFarthestBoxes (w : World) (B : Nat) (v : Value) (xs : List Int) (n : Int) (b : Bool) (L : Nat) (hb : b = true ↔ ManyP xs n) (hL : b = true → LeastF xs n L) (hl : xs.length ≤ 1048576) (h : OwnI w B v xs) :
    Calls Try.prog 35 #[v, .int .i64 n] w fun e w' => e = .returned (.tuple #[.int .i64 (if b then (L : Int) else 0), .bool b]) ∧ Gr w w' := by
  have HO := Lib.hid h
  have HM := Lib.hid (Try.mdMany w B v xs n b hb hl h)
  obtain ⟨A, c, rfl, _⟩ := h.eta
  cases q : b
  · rw [q] at HM
    clear h hb q
    go_enter Try.func35, Try.ntmps35
    go_wp2_with (first | (go_at_call 69; refine (HM.out).mono ?_; rintro e w1 ⟨rfl, hbW⟩; have hcW := (bcell hbW.below).1; have hfW := (bcell hbW.below).2; (try have hzW : w.heap.size < w1.heap.size := by have hq := hbW.below.size; (try simp at hq); omega); (try have hyW : w.heap.size + 1 < w1.heap.size := by have hq := hbW.below.size; (try simp at hq); omega); (try have hxW : w.heap.size + 2 < w1.heap.size := by have hq := hbW.below.size; (try simp at hq); omega)))
    go_ret2
    exact ⟨rfl, by repeat (first | exact Gr.refl _ | refine Gr.alloc ?_ _ | refine Gr.trans ?_ (by assumption) | refine Gr.drew ?_ | refine Gr.drewN ?_ _ | refine Gr.grow ?_ _ | refine Gr.setCell ?_ (by (try simp); (try omega)) _)⟩
  · rw [q] at HM
    have hP := hb.1 q
    have hLF := hL q
    have hxl := hP.1.1.2
    have hL30 := hLF.1
    have HLF := Lib.hid hLF
    rw [if_pos rfl]
    clear h hb q hP hL hLF
    go_enter Try.func35, Try.ntmps35
    go_wp2_with (first | (go_at_call 69; refine (HM.out).mono ?_; rintro e w1 ⟨rfl, hbW⟩; have hcW := (bcell hbW.below).1; have hfW := (bcell hbW.below).2; (try have hzW : w.heap.size < w1.heap.size := by have hq := hbW.below.size; (try simp at hq); omega); (try have hyW : w.heap.size + 1 < w1.heap.size := by have hq := hbW.below.size; (try simp at hq); omega); (try have hxW : w.heap.size + 2 < w1.heap.size := by have hq := hbW.below.size; (try simp at hq); omega)))
    have GW := Lib.hid (show Gr w w1 from (by repeat (first | exact Gr.refl _ | refine Gr.alloc ?_ _ | refine Gr.trans ?_ (by assumption) | refine Gr.drew ?_ | refine Gr.drewN ?_ _ | refine Gr.grow ?_ _ | refine Gr.setCell ?_ (by (try simp); (try omega)) _)))
    clear hbW hcW hfW
    go_loopw [6] (fun i wr => Gr w wr ∧ ∃ k : Nat, k ≤ L ∧ i = .int .i64 (k : Int)) (fun i _ => (L - intOf i).toNat)
    case atStart => exact ⟨GW.out, 0, Nat.zero_le _, rfl⟩
    case round =>
      obtain ⟨gr, k, hk, rfl⟩ := hrel
      have HG := Lib.hid gr
      have HN := Lib.hid (Try.mdNeed wr B _ xs (k : Int) hxl (by omega) (by omega) (HO.out.gr gr))
      have hi := HLF.out.iff k
      clear gr
      generalize ndI xs (k : Int) = R at *
      by_cases hR : R ≤ n
      · obtain rfl : k = L := by have := hi.1 hR; omega
        have hR' : ¬ n < R := by omega
        clear hi
        go_wp2_with (first | (go_at_call 70; refine (HN.out).mono ?_; rintro e w1 ⟨rfl, hbW⟩; have hcW := (bcell hbW.below).1; have hfW := (bcell hbW.below).2; (try have hzW : w.heap.size < w1.heap.size := by have hq := hbW.below.size; (try simp at hq); omega); (try have hyW : w.heap.size + 1 < w1.heap.size := by have hq := hbW.below.size; (try simp at hq); omega); (try have hxW : w.heap.size + 2 < w1.heap.size := by have hq := hbW.below.size; (try simp at hq); omega)))
        go_ret2
        exact ⟨rfl, HG.out.trans hbW⟩
      · have hlt : k < L := by
          rcases Nat.lt_or_ge k L with d | d
          · exact d
          · exact absurd (hi.2 d) hR
        have hR' : n < R := by omega
        clear hi
        go_wp2_with (first | (go_at_call 70; refine (HN.out).mono ?_; rintro e w1 ⟨rfl, hbW⟩; have hcW := (bcell hbW.below).1; have hfW := (bcell hbW.below).2; (try have hzW : w.heap.size < w1.heap.size := by have hq := hbW.below.size; (try simp at hq); omega); (try have hyW : w.heap.size + 1 < w1.heap.size := by have hq := hbW.below.size; (try simp at hq); omega); (try have hxW : w.heap.size + 2 < w1.heap.size := by have hq := hbW.below.size; (try simp at hq); omega)))
        go_roundw
        case rel => exact ⟨HG.out.trans hbW, k + 1, by omega, by go_num⟩
        case measure => simp [intOf]; omega
set_option maxHeartbeats 800000 in
theorem Try.farCl (w : World) (v : Value) (xs : List Int) (n : Int) (L i : Nat) (bp bn : Nat) (hL : LeastF xs n L) (hi : i ≤ 60) (hl : xs.length ≤ 60) (hp : PplRow w v xs) (h1 : w.cell? ⟨bp, 0, none⟩ = some v) (h2 : w.cell? ⟨bn, 0, none⟩ = some (.int .i64 n)) :
    Calls Try.prog 72 (#[.int .i64 (i : Int)] ++ #[.pointer (some ⟨bp, 0, none⟩), .pointer (some ⟨bn, 0, none⟩)]) w fun e w' => e = .returned (.bool (decide (L ≤ i))) ∧ Gr w w' := by
  have mixed : Try.prog.follows .mixedOrders = true := by kernel_rfl
  have key : decide (L ≤ i) = decide (ndI xs (i : Int) ≤ n) := decide_eq_decide.2 (hL.iff i).symm
  rw [key]
  have HN := Lib.hid (fun W (g : Gr w W) => Try.boxesWithin W v xs i hl hi (hp.gr g))
  obtain ⟨g, c, rfl, _⟩ := hp
  have q1 := gr_all (Gr.refl w) h1
  have q2 := gr_all (Gr.refl w) h2
  generalize ndI xs (i : Int) = R at *
  clear h1 h2 key hL
  go_enter Try.func72, Try.ntmps72
  go_wp2
  (refine wp_region_quiet_grown mixed (by kernel_rfl) ?_; (repeat (first | go_big_quiet_step ((first | (go_at_call 73; exact Calls.grown_of (HN.out _ (Gr.grow (Gr.drewN (Gr.refl _) _) _))))) | quiet_step ((first | (go_at_call 73; exact Calls.grown_of (HN.out _ (Gr.grow (Gr.drewN (Gr.refl _) _) _))))))); refine wpQuiet_nil ?_; intro _ hw'; obtain ⟨⟨nq, osq⟩, hw''⟩ := hw'; subst hw'')
  go_wp2
  go_ret
  exact ⟨rfl, by repeat (first | exact Gr.refl _ | refine Gr.alloc ?_ _ | refine Gr.trans ?_ (by assumption) | refine Gr.drew ?_ | refine Gr.drewN ?_ _ | refine Gr.grow ?_ _ | refine Gr.setCell ?_ (by (try simp); (try omega)) _)⟩
set_option maxHeartbeats 1600000 in
theorem Try.iFarthestBoxes (w : World) (B : Nat) (v : Value) (xs : List Int) (n : Int) (b : Bool) (L : Nat) (hb : b = true ↔ ManyP xs n) (hL : b = true → LeastF xs n L) (hl : xs.length ≤ 1048576) (h : OwnI w B v xs) :
    Calls Try.prog 36 #[v, .int .i64 n] w fun e w' => e = .returned (.tuple #[.int .i64 (if b then (L : Int) else 0), .bool b]) ∧ Gr w w' := by
  have HM := Lib.hid (fun W (g : Gr w W) => Try.canHave W B v xs n b hb hl (h.gr g))
  have HO := Lib.hid h
  cases q : b
  · rw [q] at HM
    obtain ⟨A, c, rfl, _⟩ := h.eta
    clear h hb q
    go_enter Try.func36, Try.ntmps36
    go_wp2_with (first | (go_at_call 71; refine (HM.out _ (Gr.alloc (Gr.alloc (Gr.refl _) _) _)).mono ?_; rintro e w1 ⟨rfl, hbW⟩; have hcW := (bcell hbW.below).1; have hfW := (bcell hbW.below).2; (try have hzW : w.heap.size < w1.heap.size := by have hq := hbW.below.size; (try simp at hq); omega); (try have hyW : w.heap.size + 1 < w1.heap.size := by have hq := hbW.below.size; (try simp at hq); omega); (try have hxW : w.heap.size + 2 < w1.heap.size := by have hq := hbW.below.size; (try simp at hq); omega)))
    go_ret2
    exact ⟨rfl, by repeat (first | exact Gr.refl _ | refine Gr.alloc ?_ _ | refine Gr.trans ?_ (by assumption) | refine Gr.drew ?_ | refine Gr.drewN ?_ _ | refine Gr.grow ?_ _ | refine Gr.setCell ?_ (by (try simp); (try omega)) _)⟩
  · rw [q] at HM
    have hP := hb.1 q
    have hLF := hL q
    have hL30 := hLF.1
    have hpp := h.ppl hP.1.1.1
    have hxl := hP.1.1.2
    obtain ⟨W0, hW0⟩ : ∃ W0, W0 = (w.alloc (.cells #[v] 22)).alloc (.cells #[.int .i64 n] 3) := ⟨_, rfl⟩
    have g0 : Gr w W0 := by rw [hW0]; exact Gr.alloc (Gr.alloc (Gr.refl _) _) _
    have ca : W0.cell? ⟨w.heap.size, 0, none⟩ = some v := by rw [hW0]; simp [go_sem]
    have cb : W0.cell? ⟨w.heap.size + 1, 0, none⟩ = some (.int .i64 n) := by rw [hW0]; simp [go_sem]
    have eg : ∀ args w, (callFunc 72 args).run Try.prog w = .ok (.enter 72 args) w := enters_of Try.func72 (by kernel_rfl) rfl
    have HS := Lib.hid (fun (W : World) (g : Gr W0 W) => Try.searchM 72 #[.pointer (some ⟨w.heap.size, 0, none⟩), .pointer (some ⟨w.heap.size + 1, 0, none⟩)] 60 (L : Int) W (by omega) (by omega) (by omega) eg (fun W' i g' i0 i1 => by
      obtain ⟨k, rfl⟩ : ∃ k : Nat, i = (k : Int) := ⟨i.toNat, by omega⟩
      have gg := g.trans g'
      have hc := Try.farCl W' v xs n L k w.heap.size (w.heap.size + 1) hLF (by omega) hxl (hpp.gr (g0.trans gg)) (gg.keep2 ca) (gg.keep2 cb)
      rw [show decide ((L : Int) ≤ (k : Int)) = decide (L ≤ k) from decide_eq_decide.2 (by omega)]
      exact hc))
    rw [hW0] at HS
    obtain ⟨A, c, rfl, _⟩ := h.eta
    have hmf : ∀ (fn : Fn) (first cap : Array Value) (w : World), (Instr.makeFunc fn first cap).run Try.prog w = .ok (.func fn first cap) w := fun _ _ _ _ => rfl
    rw [if_pos rfl]
    clear h hb q hP hL hLF hpp ca cb eg g0 hW0
    go_enter Try.func36, Try.ntmps36
    go_wp2_with (first | (go_at_call 71; refine (HM.out _ (Gr.alloc (Gr.alloc (Gr.refl _) _) _)).mono ?_; rintro e w1 ⟨rfl, hbW⟩; have hcW := (bcell hbW.below).1; have hfW := (bcell hbW.below).2; (try have hzW : w.heap.size < w1.heap.size := by have hq := hbW.below.size; (try simp at hq); omega); (try have hyW : w.heap.size + 1 < w1.heap.size := by have hq := hbW.below.size; (try simp at hq); omega); (try have hxW : w.heap.size + 2 < w1.heap.size := by have hq := hbW.below.size; (try simp at hq); omega)) | (go_at_call 61; refine (HS.out _ hbW).mono ?_; rintro e w2 ⟨rfl, g2⟩))
    go_ret2
    exact ⟨rfl, by repeat (first | exact Gr.refl _ | refine Gr.alloc ?_ _ | refine Gr.trans ?_ (by assumption) | refine Gr.drew ?_ | refine Gr.drewN ?_ _ | refine Gr.grow ?_ _ | refine Gr.setCell ?_ (by (try simp); (try omega)) _)⟩
end Go.Proofs
