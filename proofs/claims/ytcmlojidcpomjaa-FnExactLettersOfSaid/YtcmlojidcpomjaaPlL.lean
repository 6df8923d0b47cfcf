/-
  Contracts of chapter 2: the letters of all plates with a number, both sides.
-/
import Derived.Test.YtcmlojidcpomjaaPlMp
import Derived.Laws.RangeString
namespace Go.Proofs
open Go.RowKit Pl Go.Maps
set_option linter.unusedVariables false
set_option linter.unusedSimpArgs false
theorem sorted_ext : ∀ (a b : List Nat), a.Pairwise (· < ·) → b.Pairwise (· < ·) → (∀ x, x ∈ a ↔ x ∈ b) → a = b
  | [], [], _, _, _ => rfl
  | [], y :: b, _, _, h => by have := (h y).2 (by simp); simp at this
  | x :: a, [], _, _, h => by have := (h x).1 (by simp); simp at this
  | x :: a, y :: b, ha, hb, h => by
    obtain ⟨ha1, ha2⟩ := List.pairwise_cons.1 ha
    obtain ⟨hb1, hb2⟩ := List.pairwise_cons.1 hb
    have e : x = y := by
      have p := (h x).1 (by simp)
      have q := (h y).2 (by simp)
      rcases List.mem_cons.1 p with p | p
      · exact p
      · rcases List.mem_cons.1 q with q | q
        · exact q.symm
        · have := hb1 x p; have := ha1 y q; omega
    subst e
    rw [sorted_ext a b ha2 hb2 (fun z => by
      constructor
      · intro hz
        have := ha1 z hz
        rcases List.mem_cons.1 ((h z).1 (List.mem_cons_of_mem _ hz)) with p | p
        · omega
        · exact p
      · intro hz
        have := hb1 z hz
        rcases List.mem_cons.1 ((h z).2 (List.mem_cons_of_mem _ hz)) with p | p
        · omega
        · exact p)]
/-- the letters of the first k with the number -/
def lsS (ps : List Pi2) (n : Int) (k : Nat) : List Nat := ((ps.take k).filter fun p => decide (p.1 = n)).map fun p => p.2.toNat
/-- those of the first m letters that are there -/
def lsI (ps : List Pi2) (n : Int) (m : Nat) : List Nat := (List.range m).filter fun (l : Nat) => decide ((n, (l : Int)) ∈ ps)
def lcb (m : Nat) : UInt8 := if m = 0 then 45 else UInt8.ofNat (96 + m)
def lbs (l : List Nat) : ByteArray := ⟨(l.map lcb).toArray⟩
theorem lbs_snoc (l : List Nat) (m : Nat) : lbs (l ++ [m]) = lbs l ++ ⟨#[lcb m]⟩ := by
  apply ByteArray.ext
  simp [lbs]
theorem lbs_size (l : List Nat) : (lbs l).size = l.length := by simp [lbs, ByteArray.size]
theorem ls_eq {ps : List Pi2} (h : Ok ps) (n : Int) : lsS ps n ps.length = lsI ps n 27 := by
  apply sorted_ext
  · unfold lsS
    rw [List.take_length, List.pairwise_map]
    have hu := h.2.2.2
    have hf : (ps.filter fun p => decide (p.1 = n)).Pairwise fun p q => rk p < rk q := hu.sublist List.filter_sublist
    refine List.Pairwise.imp_of_mem ?_ hf
    intro a b ha hb hlt
    obtain ⟨ha1, ha2⟩ := List.mem_filter.1 ha
    obtain ⟨hb1, hb2⟩ := List.mem_filter.1 hb
    have pa := h.2.2.1 a ha1
    have pb := h.2.2.1 b hb1
    have ea : a.1 = n := of_decide_eq_true ha2
    have eb : b.1 = n := of_decide_eq_true hb2
    unfold IsP at pa pb
    unfold rk at hlt
    omega
  · exact List.Pairwise.filter _ List.pairwise_lt_range
  · intro x
    unfold lsS lsI
    rw [List.take_length]
    simp only [List.mem_map, List.mem_filter, List.mem_range, decide_eq_true_eq]
    constructor
    · rintro ⟨p, ⟨hp, e⟩, rfl⟩
      have pp := h.2.2.1 p hp
      unfold IsP at pp
      refine ⟨by omega, ?_⟩
      have : ((n, ((p.2.toNat : Nat) : Int)) : Pi2) = p := Prod.ext e.symm (by simp; omega)
      rw [this]; exact hp
    · rintro ⟨hx, hm⟩
      exact ⟨_, ⟨hm, rfl⟩, by simp⟩
def ltB (ps : List Pi2) (n : Int) : Bool := okB ps && inn n 1 9999
def ltV (ps : List Pi2) (n : Int) : ByteArray := if ltB ps n then lbs (lsI ps n 27) else ⟨#[]⟩
def abcL : ByteArray := ⟨#[97, 98, 99, 100, 101, 102, 103, 104, 105, 106, 107, 108, 109, 110, 111, 112, 113, 114, 115, 116, 117, 118, 119, 120, 121, 122]⟩
theorem abcL_cut : ∀ m : Fin 27, 0 < m.val → abcL.extract (m.val - 1) m.val = ⟨#[lcb m.val]⟩ := by decide
set_option maxHeartbeats 400000 in
theorem Try.isLetterD (m : Nat) (h1 : m ≤ 26) (w : World) :
    Calls Try.prog 68 #[.int .i64 m, .string ⟨#[45]⟩] w fun e w' => e = .returned (.string ⟨#[lcb m]⟩) ∧ w = w' := by
  rcases Nat.eq_zero_or_pos m with rfl | hm
  · go_enter Try.func68, Try.ntmps68
    go_wp2
    go_ret
    exact ⟨rfl, rfl⟩
  · have HC := Lib.hid (abcL_cut ⟨m, by omega⟩ hm)
    have hz : ((m : Int) == 0) = false := by simp; omega
    have z1 : (1 : Int) ≤ (m : Int) := by omega
    go_enter Try.func68, Try.ntmps68
    go_wp2
    go_ret
    refine ⟨?_, rfl⟩
    show Ending.returned (.string (abcL.extract (m - 1) m)) = _
    rw [HC.out]
def LtRel (ps : List Pi2) (n : Int) (W : World) (t i : Value) (wr : World) : Prop := Gr W wr ∧ ∃ k : Nat, k ≤ ps.length ∧ i = .int .i64 k ∧ t = .string (lbs (lsS ps n k))
set_option maxRecDepth 100000 in
set_option maxHeartbeats 1600000 in
theorem Try.sLettersOf (w : World) (B : Nat) (v : Value) (ps : List Pi2) (n : Int) (hl : ps.length ≤ 1048576) (h : OwnP 44 w B v ps) :
    Calls Try.prog 34 #[v, .int .i64 n] w fun e w' => e = .returned (.tuple #[.string (ltV ps n), .bool (ltB ps n)]) ∧ Below w.heap.size w w' := by
  cases hg : okB ps
  · have hB : ltB ps n = false := by simp [ltB, hg]
    have HA := Lib.hid (fun (W : World) (k : Gr w W) => Try.isGood W B v ps false (okB_i ps _ hg) hl (h.gr k))
    rw [show ltV ps n = ⟨#[]⟩ by simp [ltV, hB], hB]
    obtain ⟨A, c, rfl, h⟩ := h.eta
    clear h hg hB
    go_enter Try.func34, Try.ntmps34
    go_wp2_with (first | (go_at_call 54; refine (HA.out _ (by repeat (first | exact Gr.refl _ | refine Gr.alloc ?_ _ | refine Gr.trans ?_ (by assumption) | refine Gr.drew ?_ | refine Gr.drewN ?_ _ | refine Gr.grow ?_ _ | refine Gr.setCell ?_ (by (try simp); (try omega)) _))).mono ?_; rintro e w1 ⟨rfl, hbW⟩; have hcW := (bcell hbW.below).1; have hfW := (bcell hbW.below).2; (try have hzW : w.heap.size < w1.heap.size := by have hq := hbW.below.size; (try simp at hq); omega); (try have hyW : w.heap.size + 1 < w1.heap.size := by have hq := hbW.below.size; (try simp at hq); omega); (try have hxW : w.heap.size + 2 < w1.heap.size := by have hq := hbW.below.size; (try simp at hq); omega)))
    go_ret2
    exact ⟨rfl, Gr.below (by repeat (first | exact Gr.refl _ | refine Gr.alloc ?_ _ | refine Gr.trans ?_ (by assumption) | refine Gr.drew ?_ | refine Gr.drewN ?_ _ | refine Gr.grow ?_ _ | refine Gr.setCell ?_ (by (try simp); (try omega)) _))⟩
  · have HA := Lib.hid (fun (W : World) (k : Gr w W) => Try.isGood W B v ps true (okB_i ps _ hg) hl (h.gr k))
    cases hi : inn n 1 9999
    · have hB : ltB ps n = false := by simp [ltB, hi]
      have HI := Lib.hid hi
      rw [show ltV ps n = ⟨#[]⟩ by simp [ltV, hB], hB]
      obtain ⟨A, c, rfl, h⟩ := h.eta
      clear h hg hB hi
      go_enter Try.func34, Try.ntmps34
      go_wp2_with (first | (go_at_call 54; refine (HA.out _ (by repeat (first | exact Gr.refl _ | refine Gr.alloc ?_ _ | refine Gr.trans ?_ (by assumption) | refine Gr.drew ?_ | refine Gr.drewN ?_ _ | refine Gr.grow ?_ _ | refine Gr.setCell ?_ (by (try simp); (try omega)) _))).mono ?_; rintro e w1 ⟨rfl, hbW⟩; have hcW := (bcell hbW.below).1; have hfW := (bcell hbW.below).2; (try have hzW : w.heap.size < w1.heap.size := by have hq := hbW.below.size; (try simp at hq); omega); (try have hyW : w.heap.size + 1 < w1.heap.size := by have hq := hbW.below.size; (try simp at hq); omega); (try have hxW : w.heap.size + 2 < w1.heap.size := by have hq := hbW.below.size; (try simp at hq); omega)) | (go_at_call 40; refine (Try.l1In _ _ _ _ HI.out _).mono ?_; rintro e w1 ⟨rfl, rfl⟩))
      go_ret2
      exact ⟨rfl, Gr.below (by repeat (first | exact Gr.refl _ | refine Gr.alloc ?_ _ | refine Gr.trans ?_ (by assumption) | refine Gr.drew ?_ | refine Gr.drewN ?_ _ | refine Gr.grow ?_ _ | refine Gr.setCell ?_ (by (try simp); (try omega)) _))⟩
    · have hB : ltB ps n = true := by simp [ltB, hi, hg]
      have HI := Lib.hid hi
      have hok := (okB_iff ps).1 hg
      rw [show ltV ps n = lbs (lsS ps n ps.length) by rw [ls_eq hok]; simp [ltV, hB], hB]
      have h60 := hok.2.1
      have HOK := Lib.hid hok
      rcases h.view with ⟨hz, _⟩ | ⟨_, g, c, rfl, _, g2, _, _, hc, _⟩
      · have := hok.1; subst hz; simp at this
      have HC := Lib.hid hc
      clear h hg hB hi hc hok
      go_enter Try.func34, Try.ntmps34
      go_wp2_with (first | (go_at_call 54; refine (HA.out _ (by repeat (first | exact Gr.refl _ | refine Gr.alloc ?_ _ | refine Gr.trans ?_ (by assumption) | refine Gr.drew ?_ | refine Gr.drewN ?_ _ | refine Gr.grow ?_ _ | refine Gr.setCell ?_ (by (try simp); (try omega)) _))).mono ?_; rintro e w1 ⟨rfl, hbW⟩; have hcW := (bcell hbW.below).1; have hfW := (bcell hbW.below).2; (try have hzW : w.heap.size < w1.heap.size := by have hq := hbW.below.size; (try simp at hq); omega); (try have hyW : w.heap.size + 1 < w1.heap.size := by have hq := hbW.below.size; (try simp at hq); omega); (try have hxW : w.heap.size + 2 < w1.heap.size := by have hq := hbW.below.size; (try simp at hq); omega)) | (go_at_call 40; refine (Try.l1In _ _ _ _ HI.out _).mono ?_; rintro e w1 ⟨rfl, rfl⟩))
      have HBW := Lib.hid hbW
      clear hcW hfW hbW
      go_loopw [6, 8, 19] (fun t _ i wr => LtRel ps n w t i wr) (fun _ _ i _ => (ps.length - intOf i).toNat)
      case atStart => exact ⟨HBW.out, 0, Nat.zero_le _, rfl, rfl⟩
      case round =>
        obtain ⟨gr, k, hk, rfl, rfl⟩ := hrel
        by_cases hlt : k < ps.length
        · rcases hq : ps.getD k (0, 0) with ⟨q0, q1⟩
          have e0 := gr.keep0 (HC.out k hlt).1
          have e1 := gr.keep0 (HC.out k hlt).2
          rw [hq] at e0 e1
          simp only at e0 e1
          have hip := at_isP HOK.out.2.2.1 hlt hq
          have z0 : (0 : Int) ≤ (k : Int) := by omega
          have z1 : (k : Int) < (ps.length : Int) := by omega
          obtain ⟨m, rfl⟩ : ∃ m : Nat, q1 = (m : Int) := ⟨q1.toNat, by unfold IsP at hip; omega⟩
          have hm : m ≤ 26 := by unfold IsP at hip; omega
          have hsz : (lbs (lsS ps n k)).size ≤ 60 := by
            rw [lbs_size]
            have : (lsS ps n k).length ≤ (ps.take k).length := by unfold lsS; rw [List.length_map]; exact List.length_filter_le _ _
            simp at this; omega
          have HS1 := Lib.hid (show q0 = n → lbs (lsS ps n (k + 1)) = lbs (lsS ps n k) ++ ⟨#[lcb m]⟩ from fun e => by
            rw [← lbs_snoc]
            unfold lsS
            rw [List.take_succ_eq_append_getElem hlt, ← getD_eq _ _ hlt, hq]
            simp [e])
          have HS2 := Lib.hid (show ¬ q0 = n → lbs (lsS ps n (k + 1)) = lbs (lsS ps n k) from fun e => by
            unfold lsS
            rw [List.take_succ_eq_append_getElem hlt, ← getD_eq _ _ hlt, hq]
            simp [e])
          have GR := Lib.hid gr
          clear gr hq hip
          generalize lbs (lsS ps n k) = S at *
          have hz : ∀ c : UInt8, (⟨#[c]⟩ : ByteArray).size = 1 := fun _ => rfl
          have hadd := fun c W => run_string_add (P := Try.prog) (w := W) S ⟨#[c]⟩ (by omega) (by rw [hz]; decide)
          clear hz
          by_cases he : q0 = n
          · have d1 : ((q0 : Int) == n) = true := by simp [he]
            have HE := Lib.hid (HS1.out he)
            clear he HS1 HS2
            go_wp2_with (first | (go_at_call 68; refine (Try.isLetterD m hm _).mono ?_; rintro e w5 ⟨rfl, rfl⟩))
            go_roundw
            case rel => exact ⟨GR.out.trans (by repeat (first | exact Gr.refl _ | refine Gr.alloc ?_ _ | refine Gr.trans ?_ (by assumption) | refine Gr.drew ?_ | refine Gr.drewN ?_ _ | refine Gr.grow ?_ _ | refine Gr.setCell ?_ (by (try simp); (try omega)) _)), k + 1, by omega, by go_num, by rw [HE.out]⟩
            case measure => simp [intOf]; omega
          · have d1 : ((q0 : Int) == n) = false := by simp [he]
            have HE := Lib.hid (HS2.out he)
            clear he HS1 HS2
            go_wp2
            go_roundw
            case rel => exact ⟨GR.out.trans (by repeat (first | exact Gr.refl _ | refine Gr.alloc ?_ _ | refine Gr.trans ?_ (by assumption) | refine Gr.drew ?_ | refine Gr.drewN ?_ _ | refine Gr.grow ?_ _ | refine Gr.setCell ?_ (by (try simp); (try omega)) _)), k + 1, by omega, by go_num, by rw [HE.out]⟩
            case measure => simp [intOf]; omega
        · obtain rfl : k = ps.length := by omega
          have GR := Lib.hid gr
          clear gr
          go_wp2
          go_ret2
          exact ⟨rfl, GR.out.below⟩
def sgnL : ByteArray := ⟨#[45, 97, 98, 99, 100, 101, 102, 103, 104, 105, 106, 107, 108, 109, 110, 111, 112, 113, 114, 115, 116, 117, 118, 119, 120, 121, 122]⟩
theorem sgnL_at : ∀ m : Fin 27, sgnL[m.val]'m.isLt = lcb m.val := by decide
theorem sgnL_lt : ∀ m : Fin 27, (sgnL[m.val]'m.isLt).toNat < 128 := by decide
def itPos (b : Nat) (w : World) : Nat := match w.heap[b]? with | some (.stringIter _ p) => p | _ => 0
theorem itPos_iter (w : World) (s : ByteArray) (p : Nat) : itPos w.heap.size (w.iter s p) = p := by unfold itPos; rw [World.iter_heap]
theorem enc_lcb : ∀ m : Fin 27, Utf8.encode ((lcb m.val).toNat : Int) = ⟨#[lcb m.val]⟩ := by decide
def LiRel (ps : List Pi2) (n : Int) (w4 : World) (t : Value) (wr : World) : Prop := ∃ m : Nat, m ≤ 27 ∧ wr = w4.iter sgnL m ∧ t = .string (lbs (lsI ps n m))
set_option maxRecDepth 100000 in
set_option maxHeartbeats 3200000 in
theorem Try.iLettersOf (w : World) (B : Nat) (v : Value) (ps : List Pi2) (n : Int) (hl : ps.length ≤ 1048576) (h : OwnP 44 w B v ps) :
    Calls Try.prog 35 #[v, .int .i64 n] w fun e w' => e = .returned (.tuple #[.string (ltV ps n), .bool (ltB ps n)]) ∧ Below w.heap.size w w' := by
  have mixed : Try.prog.follows .mixedOrders = true := by kernel_rfl
  cases hg : okB ps
  · have hB : ltB ps n = false := by simp [ltB, hg]
    have HA := Lib.hid (fun (W : World) (k : Gr w W) => Try.iArePlates W B v ps false (okB_i ps _ hg) hl (h.gr k))
    rw [show ltV ps n = ⟨#[]⟩ by simp [ltV, hB], hB]
    obtain ⟨A, c, rfl, h⟩ := h.eta
    clear h hg hB
    go_enter Try.func35, Try.ntmps35
    go_wp2_with (first | (go_at_call 57; refine (HA.out _ (by repeat (first | exact Gr.refl _ | refine Gr.alloc ?_ _ | refine Gr.trans ?_ (by assumption) | refine Gr.drew ?_ | refine Gr.drewN ?_ _ | refine Gr.grow ?_ _ | refine Gr.setCell ?_ (by (try simp); (try omega)) _))).mono ?_; rintro e w1 ⟨rfl, hbW⟩; have hcW := (bcell hbW.below).1; have hfW := (bcell hbW.below).2; (try have hzW : w.heap.size < w1.heap.size := by have hq := hbW.below.size; (try simp at hq); omega); (try have hyW : w.heap.size + 1 < w1.heap.size := by have hq := hbW.below.size; (try simp at hq); omega); (try have hxW : w.heap.size + 2 < w1.heap.size := by have hq := hbW.below.size; (try simp at hq); omega)))
    go_ret2
    exact ⟨rfl, Gr.below (by repeat (first | exact Gr.refl _ | refine Gr.alloc ?_ _ | refine Gr.trans ?_ (by assumption) | refine Gr.drew ?_ | refine Gr.drewN ?_ _ | refine Gr.grow ?_ _ | refine Gr.setCell ?_ (by (try simp); (try omega)) _))⟩
  · have HA := Lib.hid (fun (W : World) (k : Gr w W) => Try.iArePlates W B v ps true (okB_i ps _ hg) hl (h.gr k))
    cases hi : inn n 1 9999
    · have hB : ltB ps n = false := by simp [ltB, hi]
      have HI := Lib.hid hi
      rw [show ltV ps n = ⟨#[]⟩ by simp [ltV, hB], hB]
      obtain ⟨A, c, rfl, h⟩ := h.eta
      clear h hg hB hi
      go_enter Try.func35, Try.ntmps35
      go_wp2_with (first | (go_at_call 57; refine (HA.out _ (by repeat (first | exact Gr.refl _ | refine Gr.alloc ?_ _ | refine Gr.trans ?_ (by assumption) | refine Gr.drew ?_ | refine Gr.drewN ?_ _ | refine Gr.grow ?_ _ | refine Gr.setCell ?_ (by (try simp); (try omega)) _))).mono ?_; rintro e w1 ⟨rfl, hbW⟩; have hcW := (bcell hbW.below).1; have hfW := (bcell hbW.below).2; (try have hzW : w.heap.size < w1.heap.size := by have hq := hbW.below.size; (try simp at hq); omega); (try have hyW : w.heap.size + 1 < w1.heap.size := by have hq := hbW.below.size; (try simp at hq); omega); (try have hxW : w.heap.size + 2 < w1.heap.size := by have hq := hbW.below.size; (try simp at hq); omega)) | (go_at_call 69; refine (Try.within _ _ _ _ HI.out _).mono ?_; rintro e w1 ⟨rfl, rfl⟩))
      go_ret2
      exact ⟨rfl, Gr.below (by repeat (first | exact Gr.refl _ | refine Gr.alloc ?_ _ | refine Gr.trans ?_ (by assumption) | refine Gr.drew ?_ | refine Gr.drewN ?_ _ | refine Gr.grow ?_ _ | refine Gr.setCell ?_ (by (try simp); (try omega)) _))⟩
    · have hB : ltB ps n = true := by simp [ltB, hi, hg]
      have HI := Lib.hid hi
      have hok := (okB_iff ps).1 hg
      rw [show ltV ps n = lbs (lsI ps n 27) by simp [ltV, hB], hB]
      have HOK := Lib.hid hok
      have HX := Lib.hid (fun (W : World) (g : Gr w W) => Try.indicesOfPlates W B v ps hok (h.gr g))
      have hnb := inn_e hi
      obtain ⟨A, c, rfl, h⟩ := h.eta
      clear h hg hB hi hok
      go_enter Try.func35, Try.ntmps35
      go_wp2_with (first | (go_at_call 57; refine (HA.out _ (by repeat (first | exact Gr.refl _ | refine Gr.alloc ?_ _ | refine Gr.trans ?_ (by assumption) | refine Gr.drew ?_ | refine Gr.drewN ?_ _ | refine Gr.grow ?_ _ | refine Gr.setCell ?_ (by (try simp); (try omega)) _))).mono ?_; rintro e w1 ⟨rfl, hbW⟩; have hcW := (bcell hbW.below).1; have hfW := (bcell hbW.below).2; (try have hzW : w.heap.size < w1.heap.size := by have hq := hbW.below.size; (try simp at hq); omega); (try have hyW : w.heap.size + 1 < w1.heap.size := by have hq := hbW.below.size; (try simp at hq); omega); (try have hxW : w.heap.size + 2 < w1.heap.size := by have hq := hbW.below.size; (try simp at hq); omega)) | (go_at_call 69; refine (Try.within _ _ _ _ HI.out _).mono ?_; rintro e w1 ⟨rfl, rfl⟩) | (go_at_call 59; refine (HX.out _ (by repeat (first | exact Gr.refl _ | refine Gr.alloc ?_ _ | refine Gr.trans ?_ (by assumption) | refine Gr.drew ?_ | refine Gr.drewN ?_ _ | refine Gr.grow ?_ _ | refine Gr.setCell ?_ (by (try simp); (try omega)) _))).mono ?_; rintro e w4 ⟨b4, rfl, hown4, hb4⟩))
      have hbw : Below w.heap.size w w4 := Below.trans (Gr.below (by repeat (first | exact Gr.refl _ | refine Gr.alloc ?_ _ | refine Gr.trans ?_ (by assumption) | refine Gr.drew ?_ | refine Gr.drewN ?_ _ | refine Gr.grow ?_ _ | refine Gr.setCell ?_ (by (try simp); (try omega)) _))) (hb4.mono (Gr.below (by repeat (first | exact Gr.refl _ | refine Gr.alloc ?_ _ | refine Gr.trans ?_ (by assumption) | refine Gr.drew ?_ | refine Gr.drewN ?_ _ | refine Gr.grow ?_ _ | refine Gr.setCell ?_ (by (try simp); (try omega)) _))).size)
      have HBW := Lib.hid hbw
      have HM := Lib.hid hown4
      clear hbw hb4 hown4 hbW hcW hfW
      go_loopw [7, 8, 9, 10, 11] (fun t _ _ _ _ wr => LiRel ps n w4 t wr) (fun _ _ _ _ _ wr => 27 - itPos w4.heap.size wr)
      case atStart => exact ⟨0, by omega, rfl, rfl⟩
      case round =>
        obtain ⟨m, hm, rfl, rfl⟩ := hrel
        by_cases hlt : m < 27
        · have hnx : ∀ ty, (Instr.next (.pointer (some ⟨w4.heap.size, 0, none⟩)) true ty).run Try.prog (w4.iter sgnL m) = .ok (.tuple #[.bool true, .int .i64 m, .int .i32 (lcb m).toNat]) (w4.iter sgnL (m + 1)) := fun ty => by
            have := run_next_ascii (P := Try.prog) w4 sgnL m ty hlt (sgnL_lt ⟨m, hlt⟩)
            rw [this]
            rw [← sgnL_at ⟨m, hlt⟩]
          have hip : IsP (n, (m : Int)) := ⟨hnb.1, hnb.2, by simp, by simp; omega⟩
          obtain ⟨c6, hc6, hr6⟩ := lookup_all Try.kLaw Try.underlying75 Try.underlying3 Try.zeroInt HM.out (Try.keyOfP (n, (m : Int)) (wfP_of hip))
          have hq6 := hr6 (w4.iter sgnL (m + 1)) (Gr.alloc (Gr.refl _) _)
          unfold keyV at hq6
          have HH := Lib.hid (Try.idx_has HOK.out hip)
          generalize Maps.has (idxD ps ps.length) (klp (n, (m : Int))) = hb at *
          obtain ⟨ch, hch⟩ : ∃ ch, lcb m = ch := ⟨_, rfl⟩
          rw [hch] at hnx
          have henc : Utf8.encode ((lcb m).toNat : Int) = ⟨#[lcb m]⟩ := enc_lcb ⟨m, hlt⟩
          rw [hch] at henc
          have HCH := Lib.hid hch
          clear hch hr6 hc6 hip
          have hsz : (lbs (lsI ps n m)).size ≤ 27 := by
            rw [lbs_size]
            have : (lsI ps n m).length ≤ (List.range m).length := List.length_filter_le _ _
            simp at this; omega
          have HN := Lib.hid (show lbs (lsI ps n (m + 1)) = if Has ps (n, (m : Int)) then lbs (lsI ps n m) ++ ⟨#[lcb m]⟩ else lbs (lsI ps n m) by
            have hiff : Has ps (n, (m : Int)) ↔ (n, (m : Int)) ∈ ps := ⟨has_mem, mem_has HOK.out.2.2.2 HOK.out.2.2.1⟩
            unfold lsI
            rw [List.range_succ, List.filter_append]
            by_cases q : (n, (m : Int)) ∈ ps
            · rw [if_pos (hiff.2 q), ← lbs_snoc]; simp [q]
            · rw [if_neg (fun z => q (hiff.1 z))]; simp [q])
          generalize lbs (lsI ps n m) = S at *
          have hz : (⟨#[ch]⟩ : ByteArray).size = 1 := rfl
          have hadd := fun W => run_string_add (P := Try.prog) (w := W) S ⟨#[ch]⟩ (by omega) (by rw [hz]; decide)
          have hgr := Lib.hid (itPos_iter w4 sgnL)
          have HSG := Lib.hid (show LiRel ps n w4 (.string (lbs (lsI ps n (m + 1)))) (w4.iter sgnL (m + 1)) from ⟨m + 1, by omega, rfl, rfl⟩)
          clear hsz hz
          have hms := Lib.hid (show 27 - itPos w4.heap.size (w4.iter sgnL (m + 1)) < 27 - itPos w4.heap.size (w4.iter sgnL m) by rw [itPos_iter, itPos_iter]; omega)
          generalize sgnL = SG at *
          cases hb
          · have HE := Lib.hid (show lbs (lsI ps n (m + 1)) = S by
              have e := HH.out
              rw [HN.out, if_neg (of_decide_eq_false e.symm)])
            go_wp2
            exact ⟨by rw [← HE.out]; exact HSG.out, hms.out⟩
          · have HE := Lib.hid (show lbs (lsI ps n (m + 1)) = S ++ ⟨#[ch]⟩ by
              have e := HH.out
              rw [HN.out, if_pos (of_decide_eq_true e.symm), HCH.out])
            go_wp2
            exact ⟨by rw [← HE.out]; exact HSG.out, hms.out⟩
        · obtain rfl : m = 27 := by omega
          have hne := fun ty => run_next_end (P := Try.prog) w4 sgnL 27 ty (by decide)
          have hbe := Lib.hid (HBW.out.trans ((Gr.alloc (Gr.refl w4) (.stringIter sgnL 27)).below.mono HBW.out.size))
          have hbe2 := Lib.hid (show Below w.heap.size w (w4.iter sgnL 27) from hbe.out)
          clear hbe
          generalize hS : lbs (lsI ps n 27) = S
          have HS := Lib.hid hS
          clear hS
          generalize sgnL = SG at *
          go_wp2
          go_ret2
          exact ⟨by rw [HS.out]; rfl, hbe2.out⟩
end Go.Proofs
