/-
  Chapter 8: numbers told anew: spec.NamedPlan, impl.NamedPlan.
-/
import Derived.Test.YtjocipddffillaaBgD
import Derived.Test.YtjocipddffillaaInn
import Derived.Lib.Slices
namespace Go.Proofs
open Go.RowKit Bg
set_option linter.unusedVariables false
set_option linter.unusedSimpArgs false
theorem first_of {xs : List Int} {x : Int} (h : x ∈ xs) : ∃ k, k < xs.length ∧ xs.getD k 0 = x ∧ ∀ j, j < k → xs.getD j 0 ≠ x := by
  induction xs with
  | nil => simp at h
  | cons y ys ih =>
    by_cases c : y = x
    · exact ⟨0, by simp, by simpa using c, fun j hj => absurd hj (Nat.not_lt_zero _)⟩
    · obtain ⟨k, hk, e, hj⟩ := ih (by rcases List.mem_cons.1 h with q | q; exact absurd q.symm c; exact q)
      refine ⟨k + 1, by simpa using hk, by simpa using e, fun j hj' => ?_⟩
      cases j with
      | zero => simpa using c
      | succ j => simpa using hj j (by omega)
theorem OwnI.capD {w : World} {B n c : Nat} {A : Option Addr} {xs : List Int} (h : OwnI w B (.slice A n c) xs) : n ≤ c := by
  rcases h.2 with ⟨e, hn⟩ | ⟨g, cap, cur, e, hb, hg, hc, _⟩
  · cases e; omega
  · cases e; omega
theorem Try.hasI (w : World) (B : Nat) (v : Value) (xs : List Int) (x : Int) (hl : xs.length ≤ 1000000) (h : OwnI w B v xs) (b : Bool) (hb : b = true ↔ x ∈ xs) :
    Calls Try.prog 83 #[v, .int .i64 x] w fun e w' => e = .returned (.bool b) ∧ w = w' := by
  rcases h.view with ⟨rfl, A, c, rfl⟩ | ⟨_, g, c, rfl, _, _, _, hc, _⟩
  · have : b = false := by
      cases q : b
      · rfl
      · have := hb.1 q; simp at this
    subst this
    exact (Try.slices_Contains_int_empty A c x w).mono fun _ _ ⟨he, hw⟩ => ⟨he, hw.symm⟩
  · refine (Try.slices_Contains_int g 0 xs.length c xs x w (Nat.le_refl _) (by omega) (fun j hj => by rw [Nat.zero_add]; exact hc j hj)).mono fun e w' ⟨he, hw⟩ => ⟨?_, hw.symm⟩
    rw [he, List.take_length]
    congr 1
    congr 1
    rw [Bool.eq_iff_iff, hb]
    simp
theorem Try.idxI (w : World) (B : Nat) (v : Value) (xs : List Int) (x : Int) (hl : xs.length ≤ 1000000) (h : OwnI w B v xs) (k : Nat) (hx : x ∈ xs) (hk : xs.idxOf x = k) :
    Calls Try.prog 84 #[v, .int .i64 x] w fun e w' => e = .returned (.int .i64 k) ∧ w = w' := by
  rcases h.view with ⟨rfl, A, c, rfl⟩ | ⟨_, g, c, rfl, _, _, _, hc, _⟩
  · simp at hx
  · refine (Try.slices_Index_int g 0 xs.length c xs x w (Nat.le_refl _) (by omega) (fun j hj => by rw [Nat.zero_add]; exact hc j hj)).mono fun e w' ⟨he, hw⟩ => ⟨?_, hw.symm⟩
    obtain ⟨m, hm, e1, e2⟩ := first_of hx
    have := idx_of (Nat.le_of_lt hm) e2 (.inr e1)
    rw [he, Lib.idxOf_hit xs xs.length m x hm (Nat.le_refl _) e1 e2, ← hk, this]
set_option maxHeartbeats 800000 in
theorem Try.sNamedPlan (w : World) (B : Nat) (v : Value) (pl : List Int) (b : Bool) (hb : b = inn (pl.length : Int) 1 8) (h : OwnI w B v pl) :
    Calls Try.prog 48 #[v] w (RetI w (if b then named pl else []) b) := by
  cases q : b
  · rw [q] at hb
    have H1 := Lib.hid hb.symm
    obtain ⟨A, c, rfl, _⟩ := h.eta
    clear h hb q
    go_enter Try.func48, Try.ntmps48
    go_wp2_with (first | (go_at_call 81; refine (Try.l1In _ _ _ _ H1.out _).mono ?_; rintro e w1 ⟨rfl, rfl⟩))
    go_ret2
    exact ⟨_, rfl, OwnI.nil2 _ _, Gr.below (by repeat (first | exact Gr.refl _ | refine Gr.alloc ?_ _ | refine Gr.trans ?_ (by assumption) | refine Gr.drew ?_ | refine Gr.drewN ?_ _ | refine Gr.grow ?_ _ | refine Gr.setCell ?_ (by (try simp); (try omega)) _))⟩
  · rw [q] at hb
    have hlen := inn_e hb.symm
    have H1 := Lib.hid hb.symm
    have HS := Lib.hid (Try.bgNamed w B v pl (by omega) h)
    rw [if_pos rfl]
    obtain ⟨A, c, rfl, _⟩ := h.eta
    generalize named pl = R at *
    clear h hb q
    go_enter Try.func48, Try.ntmps48
    go_wp2_with (first | (go_at_call 81; refine (Try.l1In _ _ _ _ H1.out _).mono ?_; rintro e w1 ⟨rfl, rfl⟩) | (go_at_call 82; refine HS.out.mono ?_; rintro e w1 ⟨v1, rfl, ho1, hb1⟩))
    go_ret2
    exact ⟨_, rfl, ho1, hb1⟩
set_option maxRecDepth 100000 in
set_option maxHeartbeats 1600000 in
theorem Try.iNamedPlan (w : World) (B : Nat) (v : Value) (pl : List Int) (b : Bool) (hb : b = inn (pl.length : Int) 1 8) (h : OwnI w B v pl) :
    Calls Try.prog 49 #[v] w (RetI w (if b then named pl else []) b) := by
  cases q : b
  · rw [q] at hb
    have H1 := Lib.hid hb.symm
    obtain ⟨A, c, rfl, _⟩ := h.eta
    clear h hb q
    go_enter Try.func49, Try.ntmps49
    go_wp2_with (first | (go_at_call 52; refine (Try.within _ _ _ _ H1.out _).mono ?_; rintro e w1 ⟨rfl, rfl⟩))
    go_ret2
    exact ⟨_, rfl, OwnI.nil2 _ _, Gr.below (by repeat (first | exact Gr.refl _ | refine Gr.alloc ?_ _ | refine Gr.trans ?_ (by assumption) | refine Gr.drew ?_ | refine Gr.drewN ?_ _ | refine Gr.grow ?_ _ | refine Gr.setCell ?_ (by (try simp); (try omega)) _))⟩
  · rw [q] at hb
    have hlen := inn_e hb.symm
    have H1 := Lib.hid hb.symm
    obtain ⟨A, c, rfl, h⟩ := h.eta
    obtain ⟨g, rfl⟩ := h.addr (by omega)
    have HO := Lib.hid h
    rw [if_pos rfl]
    clear h hb q
    go_enter Try.func49, Try.ntmps49
    go_wp2_with (first | (go_at_call 52; refine (Try.within _ _ _ _ H1.out _).mono ?_; rintro e w1 ⟨rfl, rfl⟩))
    go_loopw [4, 5, 7, 14] (fun s3 s4 _ i wr => NmRel pl w s3 s4 i wr) (fun _ _ _ i _ => (pl.length - intOf i).toNat)
    case atStart => exact ⟨0, Nat.zero_le _, rfl, OwnI.nil2 _ _, OwnI.nil2 _ _, .inl rfl, Below.refl _ _⟩
    case round =>
      obtain ⟨k, hk, rfl, o3, o4, ne, hb'⟩ := hrel
      by_cases hlt : k < pl.length
      · have e0 := cell_k2 hb' (HO.out.at rfl k hlt).1
        obtain ⟨A3, c3, rfl, o3⟩ := o3.eta
        obtain ⟨A4, c4, rfl, o4⟩ := o4.eta
        have hnl := nm_len pl k
        have hnl2 := nm_len pl (k + 1)
        have hnx : nmN pl (k + 1) = if pl.getD k 0 ∈ nmN pl k then nmN pl k else nmN pl k ++ [pl.getD k 0] := rfl
        have hnid := nm_succ_get pl k
        have hts := tb_succ (fun j => (nid pl j : Int)) k
        have htl := tb_len (fun j => (nid pl j : Int)) k
        have hin : pl.getD k 0 ∈ nmN pl (k + 1) := by rw [hnx]; split <;> simp_all
        have z0 : (0 : Int) ≤ (k : Int) := by omega
        have z1 : (k : Int) < (pl.length : Int) := by omega
        have HX := Lib.hid hnx
        have HID := Lib.hid hnid
        have HTS := Lib.hid hts
        have HTL := Lib.hid htl
        have HIN := Lib.hid hin
        have HN := Lib.hid ne
        have HB := Lib.hid hb'
        generalize tb (fun j => (nid pl j : Int)) k = tk at *
        generalize pl.getD k 0 = x at *
        generalize hgN : nmN pl (k + 1) = nm' at *
        have HGN := Lib.hid hgN
        clear hgN
        generalize nmN pl k = nm at *
        generalize nid pl k = d at *
        have O3 := Lib.hid o3
        have O4 := Lib.hid o4
        clear hnx hnid hts htl o3 o4 ne hb' hin
        by_cases hm : x ∈ nm
        · have hX := HX.out
          rw [if_pos hm] at hX
          subst hX
          have HH := Lib.hid (Try.hasI wr w.heap.size _ nm' x (by omega) O3.out true (by simpa using hm))
          have HI := Lib.hid (Try.idxI wr w.heap.size _ nm' x (by omega) O3.out d hm HID.out)
          clear hm
          go_wp2_with (first | (go_at_call 83; refine HH.out.mono ?_; rintro e w1 ⟨rfl, rfl⟩) | (go_at_call 84; refine HI.out.mono ?_; rintro e w1 ⟨rfl, rfl⟩) | (at_builtin; refine wpList_app1J rfl _ _ 29 rfl Try.underlying29 Try.infoI2 w.heap.size _ _ rfl O4.out (d : Int) rfl (by rw [HTL.out]; omega) (by have := HB.out.size; omega) ?_; intro v' w3 ho3 hb3 hg3 hs3 hat3))
          go_roundw
          case rel => exact ⟨k + 1, by omega, by go_num, by rw [HGN.out]; exact O3.out.grown hg3 HN.out, by rw [HTS.out]; exact ho3, (HN.out.sym.app O3.out hat3).sym, HB.out.trans hb3⟩
          case measure => simp [intOf]; omega
        · have hX := HX.out
          rw [if_neg hm] at hX
          have HX2 := Lib.hid hX
          have HH := Lib.hid (Try.hasI wr w.heap.size _ nm x (by omega) O3.out false (by simpa using hm))
          have HI := Lib.hid (fun W v (o : OwnI W w.heap.size v nm') => Try.idxI W w.heap.size v nm' x (by omega) o d HIN.out HID.out)
          clear hm hX
          go_wp2_with (first | (go_at_call 83; refine HH.out.mono ?_; rintro e w1 ⟨rfl, rfl⟩) | (go_at_call 84; refine (HI.out _ _ O5.out).mono ?_; rintro e w1 ⟨rfl, rfl⟩) | (at_builtin; refine wpList_app1J rfl _ _ 29 rfl Try.underlying29 Try.infoI2 w.heap.size _ _ rfl O3.out x rfl (by omega) (by have := HB.out.size; omega) ?_; intro v3' w2 ho2 hb2 hg2 hs2 hat2; have O4b := Lib.hid (O4.out.grown hg2 HN.out.sym); have HNb := Lib.hid (HN.out.app O4.out hat2); rw [← HX2.out] at ho2; have O5 := Lib.hid ho2) | (at_builtin; refine wpList_app1J rfl _ _ 29 rfl Try.underlying29 Try.infoI2 w.heap.size _ _ rfl O4b.out (d : Int) rfl (by rw [HTL.out]; omega) (by have := HB.out.size; omega) ?_; intro v' w3 ho3 hb3 hg3 hs3 hat3))
          go_roundw
          case rel => exact ⟨k + 1, by omega, by go_num, by rw [HGN.out]; exact O5.out.grown hg3 HNb.out, by rw [HTS.out]; exact ho3, (HNb.out.sym.app O5.out hat3).sym, (HB.out.trans hb2).trans hb3⟩
          case measure => simp [intOf]; omega
      · obtain rfl : k = pl.length := by omega
        have O4 := Lib.hid o4
        have HB := Lib.hid hb'
        clear o3 o4 ne hb'
        go_wp2
        go_ret2
        exact ⟨_, rfl, O4.out, HB.out⟩
end Go.Proofs
