/-
  Chapter 7: the row that lamps light, both sides (LitBy).
-/
import Derived.Test.YtaimpeajeppaiaaDoorRwD
import Derived.Test.YtaimpeajeppaiaaDoorHsA
import Derived.Test.YtaimpeajeppaiaaDoorRwN
namespace Go.Proofs
open Go.RowKit Go.Shelf
set_option linter.unusedVariables false
set_option linter.unusedSimpArgs false
theorem sz_one (c : UInt8) : (⟨#[c]⟩ : ByteArray).size = 1 := rfl
theorem not_trueM {b : Bool} {p : Prop} (hb : b = true ↔ p) (h : ¬ p) : b = false := by
  cases q : b
  · rfl
  · exact absurd (hb.1 q) h
theorem OwnI.any {w : World} {B n c : Nat} {A : Option Addr} {xs : List Int} (h : OwnI w B (.slice A n c) xs) : xs = [] ∨ ∃ g, A = some ⟨g, 0, none⟩ ∧ ∀ j, j < xs.length → w.cell? ⟨g, j, none⟩ = some (.int .i64 (xs.getD j 0)) := by
  rcases h.view with ⟨e, _⟩ | ⟨_, g, c', e, _, _, _, hc, _⟩
  · exact .inl e
  · simp only [Value.slice.injEq] at e
    exact .inr ⟨g, e.1, hc⟩
/-- a house is lit by one of the first m lamps -/
noncomputable def lit1 (ts : List Int) (n : Nat) (ring : Bool) (h i : Nat) : Bool := decide (ts.getD i 0 = (h : Int)) || neiB n (ts.getD i 0) h ring
noncomputable def litK (ts : List Int) (n : Nat) (ring : Bool) (h : Nat) : Nat → Bool | 0 => false | m + 1 => litK ts n ring h m || lit1 ts n ring h m
noncomputable def litB (ts : List Int) (n : Nat) (ring : Bool) (h : Nat) : Bool := litK ts n ring h ts.length
theorem litK_true {ts : List Int} {n : Nat} {ring : Bool} {h : Nat} : ∀ {m k : Nat}, k < m → lit1 ts n ring h k = true → litK ts n ring h m = true
  | 0, k, hk, _ => by omega
  | m + 1, k, hk, e => by
    rw [litK]
    rcases Nat.lt_or_eq_of_le (Nat.le_of_lt_succ hk) with c | c
    · rw [litK_true c e]; rfl
    · subst c; rw [e, Bool.or_true]
def sgB (b : Bool) : UInt8 := if b = true then 35 else 46
noncomputable def litL (ts : List Int) (n : Nat) (ring : Bool) (k : Nat) : ByteArray := ⟨((List.range k).map fun h => sgB (litB ts n ring h)).toArray⟩
theorem litL_snoc (ts : List Int) (n : Nat) (ring : Bool) (k : Nat) : litL ts n ring (k + 1) = litL ts n ring k ++ ⟨#[sgB (litB ts n ring k)]⟩ := by
  unfold litL
  rw [List.range_succ]
  apply ByteArray.ext
  simp
theorem litL_size (ts : List Int) (n : Nat) (ring : Bool) (k : Nat) : (litL ts n ring k).size = k := by unfold litL; simp [ByteArray.size]
def LtR (w : World) (i : Value) (wr : World) (P : Nat → Prop) (n : Nat) : Prop := Gr w wr ∧ ∃ k : Nat, k ≤ n ∧ i = .int .i64 k ∧ P k
set_option maxRecDepth 100000 in
set_option maxHeartbeats 1600000 in
theorem Tryd.rwLit (w : World) (B : Nat) (v : Value) (ts : List Int) (n h : Nat) (ring : Bool) (hn : n ≤ 20) (hh : h < n) (hr : RisI ts 0 ((n : Int) - 1)) (hl : ts.length ≤ 1048576) (g : OwnI w B v ts) :
    Calls Tryd.prog 32 #[.int .i64 (n : Int), .int .i64 (h : Int), v, .bool ring] w fun e w' => e = .returned (.bool (litB ts n ring h)) ∧ Gr w w' := by
  obtain ⟨A, c, rfl, g⟩ := g.eta
  have HC := Lib.hid g.any
  have HR := Lib.hid hr
  obtain ⟨L, hL⟩ : ∃ L, litB ts n ring h = L := ⟨_, rfl⟩
  rw [hL]
  have HL := Lib.hid hL
  clear g hr hL
  go_enter Tryd.func32, Tryd.ntmps32
  go_wp2
  go_loopw [13] (fun i wr => LtR w i wr (fun k => litK ts n ring h k = false) ts.length) (fun i _ => (ts.length - intOf i).toNat)
  case atStart => exact ⟨Gr.refl _, 0, Nat.zero_le _, rfl, rfl⟩
  case round =>
    obtain ⟨gr, k, hk, rfl, hall⟩ := hrel
    have HG := Lib.hid gr
    by_cases hlt : k < ts.length
    · rcases HC.out with q | ⟨gb, rfl, hc⟩
      · rw [q] at hlt; simp at hlt
      have e1 := gr.keep2 (hc k hlt)
      have bk := (HR.out k hlt).1
      have hst : litK ts n ring h (k + 1) = (litK ts n ring h k || lit1 ts n ring h k) := rfl
      rw [hall, Bool.false_or] at hst
      have ht := fun e => @litK_true ts n ring h ts.length k hlt e
      unfold lit1 at hst ht
      have z0 : (0 : Int) ≤ (k : Int) := by omega
      have z1 : (k : Int) < (ts.length : Int) := by omega
      obtain ⟨y, hy⟩ : ∃ y, ts.getD k 0 = y := ⟨_, rfl⟩
      rw [hy] at e1 bk hst ht
      obtain ⟨r, hr⟩ : ∃ r, neiB (n : Int) y h ring = r := ⟨_, rfl⟩
      have HN := Lib.hid (fun W => Tryd.rwNext (n : Int) y h ring W (by omega) (by omega) (by omega) r hr)
      rw [hr] at hst ht
      have HT := Lib.hid ht
      have HS := Lib.hid hst
      clear gr hall hc hy hr ht hst
      by_cases hq : y = (h : Int)
      · have d : ((y : Int) == (h : Int)) = true := beq_iff_eq.2 hq
        have HF := Lib.hid (show L = true by rw [← HL.out]; exact HT.out (by rw [decide_eq_true hq]; rfl))
        clear hq
        go_wp2_with (first | (go_at_call 44; refine (HN.out _).mono ?_; rintro e w1 ⟨rfl, rfl⟩))
        go_ret
        exact ⟨by rw [HF.out]; rfl, HG.out.trans (by repeat (first | exact Gr.refl _ | refine Gr.alloc ?_ _ | refine Gr.trans ?_ (by assumption) | refine Gr.drew ?_ | refine Gr.drewN ?_ _ | refine Gr.grow ?_ _ | refine Gr.setCell ?_ (by (try simp); (try omega)) _))⟩
      · have d : ((y : Int) == (h : Int)) = false := beq_eq_false_iff_ne.2 hq
        cases r
        · have HX := Lib.hid (show litK ts n ring h (k + 1) = false by rw [HS.out, decide_eq_false hq]; rfl)
          clear hq
          go_wp2_with (first | (go_at_call 44; refine (HN.out _).mono ?_; rintro e w1 ⟨rfl, rfl⟩))
          go_roundw
          case rel => exact ⟨HG.out.trans (by repeat (first | exact Gr.refl _ | refine Gr.alloc ?_ _ | refine Gr.trans ?_ (by assumption) | refine Gr.drew ?_ | refine Gr.drewN ?_ _ | refine Gr.grow ?_ _ | refine Gr.setCell ?_ (by (try simp); (try omega)) _)), k + 1, by omega, by go_num, HX.out⟩
          case measure => simp [intOf]; omega
        · have HF := Lib.hid (show L = true by rw [← HL.out]; exact HT.out (by rw [Bool.or_true]))
          clear hq
          go_wp2_with (first | (go_at_call 44; refine (HN.out _).mono ?_; rintro e w1 ⟨rfl, rfl⟩))
          go_ret
          exact ⟨by rw [HF.out]; rfl, HG.out.trans (by repeat (first | exact Gr.refl _ | refine Gr.alloc ?_ _ | refine Gr.trans ?_ (by assumption) | refine Gr.drew ?_ | refine Gr.drewN ?_ _ | refine Gr.grow ?_ _ | refine Gr.setCell ?_ (by (try simp); (try omega)) _))⟩
    · obtain rfl : k = ts.length := by omega
      have HF := Lib.hid (show L = false by rw [← HL.out]; exact hall)
      clear gr hall
      go_wp2
      go_ret
      exact ⟨by rw [HF.out]; rfl, HG.out⟩
noncomputable def litV (s : ByteArray) (ts : List Int) (ring b : Bool) : ByteArray := if b = true then litL ts s.size ring s.size else ⟨#[]⟩
set_option maxRecDepth 100000 in
set_option maxHeartbeats 1600000 in
theorem Tryd.sLitBy (w : World) (B : Nat) (s : ByteArray) (v : Value) (ts : List Int) (ring : Bool) (hs : s.size ≤ maxLen) (r1 r2 : Bool) (h1 : okR s = r1) (h2 : r2 = true ↔ RisI ts 0 ((s.size : Int) - 1)) (r : ByteArray) (hr : litV s ts ring (r1 && r2) = r) (hl2 : ts.length ≤ 1048576) (g2 : OwnI w B v ts) :
    Calls Tryd.prog 19 #[.string s, v, .bool ring] w fun e w' => e = .returned (.tuple #[.string r, .bool (r1 && r2)]) ∧ Gr w w' := by
  have HG := Lib.hid (fun W => Tryd.rwRow W s hs _ h1)
  have HO := Lib.hid g2
  have HR := Lib.hid hr
  have HH := Lib.hid (fun w1 (g : Gr w w1) => Tryd.l1Rising w1 B _ ts 0 ((s.size : Int) - 1) r2 h2 hl2 (g2.gr g))
  obtain ⟨A, c, rfl, _⟩ := g2.eta
  have H2 := Lib.hid h2
  cases r1
  · clear h1 h2 hs hr g2
    go_enter Tryd.func19, Tryd.ntmps19
    go_wp2_with (first | (go_at_call 28; refine (HG.out _).mono ?_; rintro e w1 ⟨rfl, rfl⟩))
    go_ret2
    exact ⟨by rw [← HR.out]; rfl, by repeat (first | exact Gr.refl _ | refine Gr.alloc ?_ _ | refine Gr.trans ?_ (by assumption) | refine Gr.drew ?_ | refine Gr.drewN ?_ _ | refine Gr.grow ?_ _ | refine Gr.setCell ?_ (by (try simp); (try omega)) _)⟩
  · have hlen := okR_len h1
    have wn : IntKind.i64.wrap ((s.size : Int) - 1) = (s.size : Int) - 1 := IntWalk.i64_in _ (by omega)
    cases r2
    · clear h1 h2 hs hr g2
      go_enter Tryd.func19, Tryd.ntmps19
      go_wp2_with (first | (go_at_call 28; refine (HG.out _).mono ?_; rintro e w1 ⟨rfl, rfl⟩) | (go_at_call 31; refine (HH.out _ (by first | exact Gr.refl _ | assumption)).mono ?_; rintro e w1 ⟨rfl, hbW⟩; have hcW := (bcell hbW.below).1; have hfW := (bcell hbW.below).2; (try have hzW : w.heap.size < w1.heap.size := by have hq := hbW.below.size; (try simp at hq); omega); (try have hyW : w.heap.size + 1 < w1.heap.size := by have hq := hbW.below.size; (try simp at hq); omega); (try have hxW : w.heap.size + 2 < w1.heap.size := by have hq := hbW.below.size; (try simp at hq); omega)))
      go_ret2
      exact ⟨by rw [← HR.out]; rfl, by repeat (first | exact Gr.refl _ | refine Gr.alloc ?_ _ | refine Gr.trans ?_ (by assumption) | refine Gr.drew ?_ | refine Gr.drewN ?_ _ | refine Gr.grow ?_ _ | refine Gr.setCell ?_ (by (try simp); (try omega)) _)⟩
    · have HRS := Lib.hid (h2.1 rfl)
      clear h1 h2 hs hr g2
      rw [Bool.true_and]
      go_enter Tryd.func19, Tryd.ntmps19
      go_wp2_with (first | (go_at_call 28; refine (HG.out _).mono ?_; rintro e w1 ⟨rfl, rfl⟩) | (go_at_call 31; refine (HH.out _ (by first | exact Gr.refl _ | assumption)).mono ?_; rintro e w1 ⟨rfl, hbW⟩; have hcW := (bcell hbW.below).1; have hfW := (bcell hbW.below).2; (try have hzW : w.heap.size < w1.heap.size := by have hq := hbW.below.size; (try simp at hq); omega); (try have hyW : w.heap.size + 1 < w1.heap.size := by have hq := hbW.below.size; (try simp at hq); omega); (try have hxW : w.heap.size + 2 < w1.heap.size := by have hq := hbW.below.size; (try simp at hq); omega)))
      have HB1 := Lib.hid hbW
      clear hbW hcW hfW
      go_loopw [8, 9] (fun o i wr => ∃ k : Nat, k ≤ s.size ∧ i = .int .i64 k ∧ o = .string (litL ts s.size ring k) ∧ Gr w wr) (fun _ i _ => (s.size - intOf i).toNat)
      case atStart => exact ⟨0, Nat.zero_le _, rfl, by unfold litL; rfl, HB1.out⟩
      case round =>
        obtain ⟨k, hk, rfl, rfl, gr⟩ := hrel
        have HGR := Lib.hid gr
        by_cases hlt : k < s.size
        · have z0 : (0 : Int) ≤ (k : Int) := by omega
          have z1 : (k : Int) < (s.size : Int) := by omega
          have HLT := Lib.hid (Tryd.rwLit wr B _ ts s.size k ring hlen.2 hlt HRS.out hl2 (HO.out.gr gr))
          have HSN := Lib.hid (litL_snoc ts s.size ring k)
          have hz := litL_size ts s.size ring k
          obtain ⟨S, hS⟩ : ∃ S, litL ts s.size ring k = S := ⟨_, rfl⟩
          rw [hS] at hz HSN ⊢
          have ha1 := fun W => run_string_add (P := Tryd.prog) (w := W) S ⟨#[35]⟩ (by omega) (by rw [sz_one]; decide)
          have ha2 := fun W => run_string_add (P := Tryd.prog) (w := W) S ⟨#[46]⟩ (by omega) (by rw [sz_one]; decide)
          clear gr hz hS
          generalize litB ts s.size ring k = L at *
          cases L
          · go_wp2_with (first | (go_at_call 32; refine (HLT.out).mono ?_; rintro e w1 ⟨rfl, hbW⟩; have hcW := (bcell hbW.below).1; have hfW := (bcell hbW.below).2; (try have hzW : w.heap.size < w1.heap.size := by have hq := hbW.below.size; (try simp at hq); omega); (try have hyW : w.heap.size + 1 < w1.heap.size := by have hq := hbW.below.size; (try simp at hq); omega); (try have hxW : w.heap.size + 2 < w1.heap.size := by have hq := hbW.below.size; (try simp at hq); omega)))
            go_roundw
            case rel => exact ⟨k + 1, by omega, by go_num, by rw [HSN.out]; rfl, HGR.out.trans (by repeat (first | exact Gr.refl _ | refine Gr.alloc ?_ _ | refine Gr.trans ?_ (by assumption) | refine Gr.drew ?_ | refine Gr.drewN ?_ _ | refine Gr.grow ?_ _ | refine Gr.setCell ?_ (by (try simp); (try omega)) _))⟩
            case measure => simp [intOf]; omega
          · go_wp2_with (first | (go_at_call 32; refine (HLT.out).mono ?_; rintro e w1 ⟨rfl, hbW⟩; have hcW := (bcell hbW.below).1; have hfW := (bcell hbW.below).2; (try have hzW : w.heap.size < w1.heap.size := by have hq := hbW.below.size; (try simp at hq); omega); (try have hyW : w.heap.size + 1 < w1.heap.size := by have hq := hbW.below.size; (try simp at hq); omega); (try have hxW : w.heap.size + 2 < w1.heap.size := by have hq := hbW.below.size; (try simp at hq); omega)))
            go_roundw
            case rel => exact ⟨k + 1, by omega, by go_num, by rw [HSN.out]; rfl, HGR.out.trans (by repeat (first | exact Gr.refl _ | refine Gr.alloc ?_ _ | refine Gr.trans ?_ (by assumption) | refine Gr.drew ?_ | refine Gr.drewN ?_ _ | refine Gr.grow ?_ _ | refine Gr.setCell ?_ (by (try simp); (try omega)) _))⟩
            case measure => simp [intOf]; omega
        · obtain rfl : k = s.size := by omega
          have HF := Lib.hid (show litL ts s.size ring s.size = r from HR.out)
          clear gr
          go_wp2
          go_ret2
          exact ⟨by rw [← HF.out]; rfl, HGR.out⟩
theorem sgT (b : Bool) : Value.string ⟨#[sgB b]⟩ = if b = true then Value.string ⟨#[35]⟩ else Value.string ⟨#[46]⟩ := by cases b <;> rfl
set_option maxRecDepth 100000 in
set_option maxHeartbeats 1600000 in
theorem Tryd.iLitBy (w : World) (B : Nat) (s : ByteArray) (v : Value) (ts : List Int) (ring : Bool) (hs : s.size ≤ maxLen) (r1 r2 : Bool) (h1 : okR s = r1) (h2 : r2 = true ↔ RisI ts 0 ((s.size : Int) - 1)) (r : ByteArray) (hr : litV s ts ring (r1 && r2) = r) (hl2 : ts.length ≤ 1048576) (g2 : OwnI w B v ts) :
    Calls Tryd.prog 21 #[.string s, v, .bool ring] w fun e w' => e = .returned (.tuple #[.string r, .bool (r1 && r2)]) ∧ Gr w w' := by
  have HG := Lib.hid (fun W => Tryd.iIsLitRow W s hs _ h1)
  have HR := Lib.hid hr
  obtain ⟨A, c, rfl, g2⟩ := g2.eta
  have HC := Lib.hid g2.any
  cases r1
  · clear h1 h2 hs hr g2
    go_enter Tryd.func21, Tryd.ntmps21
    go_wp2_with (first | (go_at_call 27; refine (HG.out _).mono ?_; rintro e w1 ⟨rfl, hbW⟩; have hcW := (bcell hbW.below).1; have hfW := (bcell hbW.below).2; (try have hzW : w.heap.size < w1.heap.size := by have hq := hbW.below.size; (try simp at hq); omega); (try have hyW : w.heap.size + 1 < w1.heap.size := by have hq := hbW.below.size; (try simp at hq); omega); (try have hxW : w.heap.size + 2 < w1.heap.size := by have hq := hbW.below.size; (try simp at hq); omega)))
    go_ret2
    exact ⟨by rw [← HR.out]; rfl, by repeat (first | exact Gr.refl _ | refine Gr.alloc ?_ _ | refine Gr.trans ?_ (by assumption) | refine Gr.drew ?_ | refine Gr.drewN ?_ _ | refine Gr.grow ?_ _ | refine Gr.setCell ?_ (by (try simp); (try omega)) _)⟩
  · have hlen := okR_len h1
    have HH := Lib.hid (fun w1 (g : Gr w w1) => Tryd.areHousesOf w1 B _ ts (s.size : Int) r2 h2 (by omega) (by omega) hl2 (g2.gr g))
    cases r2
    · clear h1 h2 hs hr g2
      go_enter Tryd.func21, Tryd.ntmps21
      go_wp2_with (first | (go_at_call 27; refine (HG.out _).mono ?_; rintro e w1 ⟨rfl, hbW⟩; have hcW := (bcell hbW.below).1; have hfW := (bcell hbW.below).2; (try have hzW : w.heap.size < w1.heap.size := by have hq := hbW.below.size; (try simp at hq); omega); (try have hyW : w.heap.size + 1 < w1.heap.size := by have hq := hbW.below.size; (try simp at hq); omega); (try have hxW : w.heap.size + 2 < w1.heap.size := by have hq := hbW.below.size; (try simp at hq); omega)) | (go_at_call 33; refine (HH.out _ (by assumption)).mono ?_; rintro e w2 ⟨rfl, hbX⟩))
      go_ret2
      exact ⟨by rw [← HR.out]; rfl, by repeat (first | exact Gr.refl _ | refine Gr.alloc ?_ _ | refine Gr.trans ?_ (by assumption) | refine Gr.drew ?_ | refine Gr.drewN ?_ _ | refine Gr.grow ?_ _ | refine Gr.setCell ?_ (by (try simp); (try omega)) _)⟩
    · have HRS := Lib.hid (h2.1 rfl)
      clear h1 h2 hs hr g2
      rw [Bool.true_and]
      go_enter Tryd.func21, Tryd.ntmps21
      go_wp2_with (first | (go_at_call 27; refine (HG.out _).mono ?_; rintro e w1 ⟨rfl, hbW⟩; have hcW := (bcell hbW.below).1; have hfW := (bcell hbW.below).2; (try have hzW : w.heap.size < w1.heap.size := by have hq := hbW.below.size; (try simp at hq); omega); (try have hyW : w.heap.size + 1 < w1.heap.size := by have hq := hbW.below.size; (try simp at hq); omega); (try have hxW : w.heap.size + 2 < w1.heap.size := by have hq := hbW.below.size; (try simp at hq); omega)) | (go_at_call 33; refine (HH.out _ (by assumption)).mono ?_; rintro e w2 ⟨rfl, hbX⟩))
      have HB1 := Lib.hid (hbW.trans hbX)
      clear hbW hcW hfW hbX
      go_loopw [8, 25] (fun o i wr => ∃ k : Nat, k ≤ s.size ∧ i = .int .i64 k ∧ o = .string (litL ts s.size ring k) ∧ Gr w wr) (fun _ i _ => (s.size - intOf i).toNat)
      case atStart => exact ⟨0, Nat.zero_le _, rfl, by unfold litL; rfl, HB1.out⟩
      case round =>
        obtain ⟨k, hk, rfl, rfl, gr⟩ := hrel
        have HGR := Lib.hid gr
        by_cases hlt : k < s.size
        · have z0 : (0 : Int) ≤ (k : Int) := by omega
          have z1 : (k : Int) < (s.size : Int) := by omega
          have HSN := Lib.hid (litL_snoc ts s.size ring k)
          have hz := litL_size ts s.size ring k
          obtain ⟨S, hS⟩ : ∃ S, litL ts s.size ring k = S := ⟨_, rfl⟩
          rw [hS] at hz HSN ⊢
          clear gr hS
          rename World => W1
          go_wp2
          go_loopw [10, 30] (fun sv i wr => ∃ m : Nat, m ≤ ts.length ∧ i = .int .i64 m ∧ sv = .string ⟨#[sgB (litK ts s.size ring k m)]⟩ ∧ Gr W1 wr) (fun _ i _ => (ts.length - intOf i).toNat)
          case atStart => exact ⟨0, Nat.zero_le _, rfl, rfl, Gr.refl _⟩
          case round =>
            obtain ⟨m, hm, rfl, rfl, gr⟩ := hrel
            have HG2 := Lib.hid gr
            by_cases hmk : m < ts.length
            · rcases HC.out with q | ⟨gb, rfl, hc⟩
              · rw [q] at hmk; simp at hmk
              have e2 := (HGR.out.trans gr).keep2 (hc m hmk)
              have bm := (HRS.out m hmk).1
              have y0 : (0 : Int) ≤ (m : Int) := by omega
              have y1 : (m : Int) < (ts.length : Int) := by omega
              have hst : litK ts s.size ring k (m + 1) = (litK ts s.size ring k m || lit1 ts s.size ring k m) := rfl
              unfold lit1 at hst
              obtain ⟨y, hy⟩ : ∃ y, ts.getD m 0 = y := ⟨_, rfl⟩
              rw [hy] at e2 bm hst
              obtain ⟨r, hr⟩ : ∃ r, neiB (s.size : Int) y k ring = r := ⟨_, rfl⟩
              have HN := Lib.hid (fun W => Tryd.areNeighbours (s.size : Int) y k ring W (by omega) (by omega) (by omega) r hr)
              rw [hr] at hst
              have HS := Lib.hid hst
              clear gr hc hy hr hst
              generalize litK ts s.size ring k m = L at *
              by_cases hq : y = (k : Int)
              · have d : ((y : Int) == (k : Int)) = true := beq_iff_eq.2 hq
                have HX := Lib.hid (show litK ts s.size ring k (m + 1) = true by rw [HS.out, decide_eq_true hq, Bool.true_or, Bool.or_true])
                clear hq
                go_wp2_with (first | (go_at_call 34; refine (HN.out _).mono ?_; rintro e w1 ⟨rfl, rfl⟩))
                go_roundw
                case rel => exact ⟨m + 1, by omega, by go_num, by rw [HX.out]; rfl, HG2.out.trans (by repeat (first | exact Gr.refl _ | refine Gr.alloc ?_ _ | refine Gr.trans ?_ (by assumption) | refine Gr.drew ?_ | refine Gr.drewN ?_ _ | refine Gr.grow ?_ _ | refine Gr.setCell ?_ (by (try simp); (try omega)) _))⟩
                case measure => simp [intOf]; omega
              · have d : ((y : Int) == (k : Int)) = false := beq_eq_false_iff_ne.2 hq
                cases r
                · have HX := Lib.hid (show litK ts s.size ring k (m + 1) = L by rw [HS.out, decide_eq_false hq, Bool.or_false, Bool.or_false])
                  clear hq
                  go_wp2_with (first | (go_at_call 34; refine (HN.out _).mono ?_; rintro e w1 ⟨rfl, rfl⟩))
                  go_roundw
                  case rel => exact ⟨m + 1, by omega, by go_num, by rw [HX.out], HG2.out.trans (by repeat (first | exact Gr.refl _ | refine Gr.alloc ?_ _ | refine Gr.trans ?_ (by assumption) | refine Gr.drew ?_ | refine Gr.drewN ?_ _ | refine Gr.grow ?_ _ | refine Gr.setCell ?_ (by (try simp); (try omega)) _))⟩
                  case measure => simp [intOf]; omega
                · have HX := Lib.hid (show litK ts s.size ring k (m + 1) = true by rw [HS.out, Bool.or_true, Bool.or_true])
                  clear hq
                  go_wp2_with (first | (go_at_call 34; refine (HN.out _).mono ?_; rintro e w1 ⟨rfl, rfl⟩))
                  go_roundw
                  case rel => exact ⟨m + 1, by omega, by go_num, by rw [HX.out]; rfl, HG2.out.trans (by repeat (first | exact Gr.refl _ | refine Gr.alloc ?_ _ | refine Gr.trans ?_ (by assumption) | refine Gr.drew ?_ | refine Gr.drewN ?_ _ | refine Gr.grow ?_ _ | refine Gr.setCell ?_ (by (try simp); (try omega)) _))⟩
                  case measure => simp [intOf]; omega
            · obtain rfl : m = ts.length := by omega
              have ha1 := fun W => run_string_add (P := Tryd.prog) (w := W) S ⟨#[sgB (litK ts s.size ring k ts.length)]⟩ (by omega) (by rw [sz_one]; decide)
              have HX := Lib.hid (show litL ts s.size ring (k + 1) = S ++ ⟨#[sgB (litK ts s.size ring k ts.length)]⟩ from HSN.out)
              clear gr HSN
              generalize sgB (litK ts s.size ring k ts.length) = L at *
              go_wp2
              go_roundw
              case rel => exact ⟨k + 1, by omega, by go_num, by rw [HX.out], HGR.out.trans (HG2.out.trans (by repeat (first | exact Gr.refl _ | refine Gr.alloc ?_ _ | refine Gr.trans ?_ (by assumption) | refine Gr.drew ?_ | refine Gr.drewN ?_ _ | refine Gr.grow ?_ _ | refine Gr.setCell ?_ (by (try simp); (try omega)) _)))⟩
              case measure => simp [intOf]; omega
        · obtain rfl : k = s.size := by omega
          have HF := Lib.hid (show litL ts s.size ring s.size = r from HR.out)
          clear gr
          go_wp2
          go_ret2
          exact ⟨by rw [← HF.out]; rfl, HGR.out⟩
end Go.Proofs
