/-
  Contracts of chapter 5: people told from the last house on (both sides).
-/
import Derived.Test.YtkiblppanlbpaaaMdN
import Derived.Sort.OwnSortedInts
namespace Go.Proofs
open Go.RowKit Go.Sort
set_option linter.unusedVariables false
set_option linter.unusedSimpArgs false
def mirL (xs : List Int) : List Int := tbl (fun j => gx xs (xs.length - 1 - j)) xs.length
theorem mirL_rev (xs : List Int) : xs.reverse = mirL xs := by
  refine List.ext_getElem (by simp [mirL, tbl]) fun i h1 h2 => ?_
  have h1' : i < xs.length := by simpa using h1
  have h3 : xs.length - 1 - i < xs.length := by omega
  simp [mirL, tbl, gx, List.getD, h3]
theorem Try.cloneI (w : World) (B : Nat) (v : Value) (xs : List Int) (h0 : 0 < xs.length) (hl : xs.length ≤ 1048576) (h : OwnI w B v xs) :
    Calls Try.prog 78 #[v] w fun e w' => ∃ v', e = .returned v' ∧ OwnI w' w.heap.size v' xs ∧ Below w.heap.size w w' := by
  rcases h.view with ⟨rfl, _⟩ | ⟨_, g, c, rfl, _, _, _, hc, _⟩
  · simp at h0
  · refine (Try.slices_Clone_int g 0 xs.length c xs w (Nat.le_refl _) (by omega) (fun j hj => by rw [Nat.zero_add]; exact hc j hj)).mono ?_
    rintro e w' ⟨v', rfl, ho, _, hb⟩
    refine ⟨v', rfl, ?_, hb⟩
    rw [List.take_length] at ho
    exact ho
theorem Try.reverseI (w : World) (B : Nat) (v : Value) (xs : List Int) (h0 : 0 < xs.length) (hB : B ≤ w.heap.size) (hl : xs.length ≤ 1048576) (h : OwnI w B v xs) :
    Calls Try.prog 79 #[v] w fun e w' => e = .returned (.tuple #[]) ∧ OwnI w' B v xs.reverse ∧ Below B w w' := by
  rcases h.2 with ⟨rfl, hn⟩ | ⟨g, cap, cur, rfl, gB, hg, hcl, hcm, hsz, htk⟩
  · omega
  · have hgl : g < w.heap.size := (Array.getElem?_eq_some_iff.1 hg).1
    refine (Try.slices_Reverse_int g 0 cap xs w (holds_of_blockI hg (by simpa using htk)) (by omega)).mono ?_
    rintro e w' ⟨rfl, n, rfl⟩
    have hge : putRow (Value.int .i64) (Sort.ahead w n) g 0 xs.reverse.toArray = grow (putRow (Value.int .i64) (Sort.ahead w n) g 0 xs.reverse.toArray) #[] := by rw [grow_empty]
    rw [hge]
    refine ⟨rfl, ?_, ?_⟩
    · have := ownsRow_sortedI (w := w) (n := n) (os := #[]) (ts := xs.reverse) (List.length_reverse) gB hg hcl hcm hsz
      unfold OwnI
      rw [List.length_reverse]
      exact this
    · refine Below.grown (Below.refl _ _) (grownBy_sortedI _) hB ?_
      intro j hj
      simp [Value.ownBlock] at hj
      omega
set_option maxHeartbeats 800000 in
theorem Try.iMirrorPeople (w : World) (B : Nat) (v : Value) (xs : List Int) (b : Bool) (hb : b = true ↔ GoodP xs) (hl : xs.length ≤ 1048576) (h : OwnI w B v xs) :
    Calls Try.prog 48 #[v] w (RetL w (if b then mirL xs else []) b) := by
  have HH := Lib.hid (Try.iArePeople w B v xs b hb hl h)
  have HO := Lib.hid h
  obtain ⟨A, c, rfl, _⟩ := h.eta
  cases q : b
  · rw [q] at HH
    clear h hb q
    go_enter Try.func48, Try.ntmps48
    go_wp2_with (first | (go_at_call 19; refine (HH.out).mono ?_; rintro e w1 ⟨rfl, hbW⟩; have hcW := (bcell hbW.below).1; have hfW := (bcell hbW.below).2; (try have hzW : w.heap.size < w1.heap.size := by have hq := hbW.below.size; (try simp at hq); omega); (try have hyW : w.heap.size + 1 < w1.heap.size := by have hq := hbW.below.size; (try simp at hq); omega); (try have hxW : w.heap.size + 2 < w1.heap.size := by have hq := hbW.below.size; (try simp at hq); omega)))
    go_ret2
    exact ⟨_, rfl, OwnI.nil2 _ _, Gr.below (by repeat (first | exact Gr.refl _ | refine Gr.alloc ?_ _ | refine Gr.trans ?_ (by assumption) | refine Gr.drew ?_ | refine Gr.drewN ?_ _ | refine Gr.grow ?_ _ | refine Gr.setCell ?_ (by (try simp); (try omega)) _))⟩
  · rw [q] at HH
    have hg := hb.1 q
    have h1 := hg.1
    have HC := Lib.hid (fun w1 (g : Gr w w1) => Try.cloneI w1 B _ xs h1.1 hl (HO.out.gr g))
    have HR := Lib.hid (fun w2 B2 v2 (h0 : B2 ≤ w2.heap.size) (h2 : OwnI w2 B2 v2 xs) => Try.reverseI w2 B2 v2 xs h1.1 h0 hl h2)
    rw [mirL_rev] at HR
    rw [if_pos rfl]
    generalize mirL xs = R at *
    clear h hb q hg
    go_enter Try.func48, Try.ntmps48
    go_wp2_with (first | (go_at_call 19; refine (HH.out).mono ?_; rintro e w1 ⟨rfl, hbW⟩; have hcW := (bcell hbW.below).1; have hfW := (bcell hbW.below).2; (try have hzW : w.heap.size < w1.heap.size := by have hq := hbW.below.size; (try simp at hq); omega); (try have hyW : w.heap.size + 1 < w1.heap.size := by have hq := hbW.below.size; (try simp at hq); omega); (try have hxW : w.heap.size + 2 < w1.heap.size := by have hq := hbW.below.size; (try simp at hq); omega)) | (go_at_call 78; refine (HC.out _ (by assumption)).mono ?_; rintro e w2 ⟨v2, rfl, ho2, hb2⟩) | (go_at_call 79; refine (HR.out _ _ _ hb2.size ho2).mono ?_; rintro e w3 ⟨rfl, ho3, hb3⟩))
    go_ret2
    have s1 := hbW.below.size
    exact ⟨_, rfl, ho3.mono s1, hbW.below.trans ((hb2.trans hb3).mono s1)⟩
set_option maxRecDepth 100000 in
set_option maxHeartbeats 1600000 in
theorem Try.sMirrorPeople (w : World) (B : Nat) (v : Value) (xs : List Int) (b : Bool) (hb : b = true ↔ GoodP xs) (hl : xs.length ≤ 1048576) (h : OwnI w B v xs) :
    Calls Try.prog 47 #[v] w (RetL w (if b then mirL xs else []) b) := by
  have HH := Lib.hid (Try.mdGood w B v xs b hb hl h)
  cases q : b
  · rw [q] at HH
    obtain ⟨A, c, rfl, _⟩ := h.eta
    clear h hb q
    go_enter Try.func47, Try.ntmps47
    go_wp2_with (first | (go_at_call 49; refine (HH.out).mono ?_; rintro e w1 ⟨rfl, hbW⟩; have hcW := (bcell hbW.below).1; have hfW := (bcell hbW.below).2; (try have hzW : w.heap.size < w1.heap.size := by have hq := hbW.below.size; (try simp at hq); omega); (try have hyW : w.heap.size + 1 < w1.heap.size := by have hq := hbW.below.size; (try simp at hq); omega); (try have hxW : w.heap.size + 2 < w1.heap.size := by have hq := hbW.below.size; (try simp at hq); omega)))
    go_ret2
    exact ⟨_, rfl, OwnI.nil2 _ _, Gr.below (by repeat (first | exact Gr.refl _ | refine Gr.alloc ?_ _ | refine Gr.trans ?_ (by assumption) | refine Gr.drew ?_ | refine Gr.drewN ?_ _ | refine Gr.grow ?_ _ | refine Gr.setCell ?_ (by (try simp); (try omega)) _))⟩
  · rw [q] at HH
    have hg := hb.1 q
    have hxl := hg.1
    rcases h.view with ⟨rfl, _⟩ | ⟨hpos, g, c, rfl, _, _, _, hc, _⟩
    · simp at hxl
    · have HC := Lib.hid hc
      rw [if_pos rfl]
      obtain ⟨R, hR⟩ : ∃ R, mirL xs = R := ⟨_, rfl⟩
      have HE := Lib.hid (show tbl (fun j => gx xs (xs.length - 1 - j)) xs.length = R from hR)
      rw [hR]
      clear h hb q hg hR hc
      go_enter Try.func47, Try.ntmps47
      go_wp2_with (first | (go_at_call 49; refine (HH.out).mono ?_; rintro e w1 ⟨rfl, hbW⟩; have hcW := (bcell hbW.below).1; have hfW := (bcell hbW.below).2; (try have hzW : w.heap.size < w1.heap.size := by have hq := hbW.below.size; (try simp at hq); omega); (try have hyW : w.heap.size + 1 < w1.heap.size := by have hq := hbW.below.size; (try simp at hq); omega); (try have hxW : w.heap.size + 2 < w1.heap.size := by have hq := hbW.below.size; (try simp at hq); omega)))
      have GW := Lib.hid (show Gr w w1 from (by repeat (first | exact Gr.refl _ | refine Gr.alloc ?_ _ | refine Gr.trans ?_ (by assumption) | refine Gr.drew ?_ | refine Gr.drewN ?_ _ | refine Gr.grow ?_ _ | refine Gr.setCell ?_ (by (try simp); (try omega)) _)))
      clear hcW hfW hbW
      go_loopw [4, 5] (fun s i wr => ∃ k : Nat, k ≤ xs.length ∧ i = .int .i64 ((xs.length : Int) - 1 - k) ∧ OwnI wr w.heap.size s (tbl (fun j => gx xs (xs.length - 1 - j)) k) ∧ Below w.heap.size w wr) (fun _ i _ => (intOf i + 1).toNat)
      case atStart => exact ⟨0, Nat.zero_le _, by go_num, OwnI.nil2 _ _, GW.out.below⟩
      case round =>
        obtain ⟨k, hk, rfl, ho, hbl⟩ := hrel
        have HO := Lib.hid ho
        have HL := Lib.hid hbl
        have szr := hbl.size
        by_cases hlt : k < xs.length
        · obtain ⟨m, hm⟩ : ∃ m : Nat, (xs.length : Int) - 1 - k = (m : Int) := ⟨xs.length - 1 - k, by omega⟩
          have hm' : xs.length - 1 - k = m := by omega
          have e1 := cell_k2 hbl (HC.out m (by omega))
          have z0 : (0 : Int) ≤ (m : Int) := by omega
          have z1 : (m : Int) < (xs.length : Int) := by omega
          have HN := Lib.hid (tbl_succ (fun j => gx xs (xs.length - 1 - j)) k)
          have HTL := Lib.hid (tbl_len (fun j => gx xs (xs.length - 1 - j)) k)
          rw [show xs.getD m 0 = gx xs (xs.length - 1 - k) by rw [hm']; rfl] at e1
          clear ho hbl
          rw [hm]
          generalize gx xs (xs.length - 1 - k) = y at *
          go_wp2_with (first | (at_builtin; refine wpList_app1I rfl _ _ 22 rfl Try.underlying22 Try.infoI2 w.heap.size _ _ rfl HO.out y rfl (by rw [HTL.out]; omega) szr ?_; intro v' w3 ho3 hb3 _ _))
          have OW := Lib.hid ho3
          have GB := Lib.hid (HL.out.trans hb3)
          clear ho3 hb3
          go_wp2
          go_roundw
          case rel => exact ⟨k + 1, by omega, by first | rfl | (simp; done) | (simp; omega) | (congr 1; omega), by rw [HN.out]; exact OW.out, GB.out⟩
          case measure => simp [intOf]; try omega
        · obtain rfl : k = xs.length := by omega
          rw [HE.out] at HO
          clear ho hbl
          have em : (xs.length : Int) - 1 - (xs.length : Int) = -1 := by omega
          rw [em]
          go_wp2
          go_ret2
          exact ⟨_, rfl, HO.out, HL.out⟩
end Go.Proofs
