/-
  Contracts of chapter 1: ParseStreet, as the model has it.
-/
import Derived.Test.YtopmclaphcnmbaaDoorNuXz
import Derived.Test.YtopmclaphcnmbaaDoorRead
import Derived.LoopTactic
import Derived.Lib.IndexBytes
namespace Go.Proofs
open Go.RowKit
set_option linter.unusedVariables false
set_option linter.unusedSimpArgs false
def psI (c : UInt8) : Int := if c.toNat = 114 then 0 else if c.toNat = 111 then 1 else if c.toNat = 117 then 2 else -1
def psB (l : List UInt8) : Bool := decide (2 ≤ l.length ∧ l.length ≤ 5) && gd (psI (l.headD 0)) (Rd.rd (l.drop 1))
def psK (l : List UInt8) : Int := if psB l then psI (l.headD 0) else 0
def psP (l : List UInt8) : Int := if psB l then Rd.rd (l.drop 1) else 0
theorem head_is (t : ByteArray) (h : 0 < t.size) : t.data.toList.headD 0 = t[0] := by
  rw [List.headD_eq_head?_getD, List.head?_eq_getElem?]
  simp [h]
  rfl
/-- the kind behind k rounds of the model's loop -/
def kk (c : UInt8) (k : Nat) : Int := if k = 0 then -1 else if k = 1 then (if c.toNat = 114 then 0 else -1) else if k = 2 then (if c.toNat = 111 then 1 else if c.toNat = 114 then 0 else -1) else psI c
def KRel (w : World) (c : UInt8) (n : Int) (s : Value) (wr : World) : Prop := ∃ k : Nat, k ≤ 3 ∧ s = .int .i64 k ∧ Gr w wr ∧ w.heap.size + 1 < wr.heap.size ∧
  wr.cell? ⟨w.heap.size + 1, 0, none⟩ = some (.int .i64 (kk c k)) ∧ wr.cell? ⟨w.heap.size + 1, 1, none⟩ = some (.int .i64 n) ∧ wr.frozen? ⟨w.heap.size + 1, 0, none⟩ = false ∧ wr.frozen? ⟨w.heap.size + 1, 1, none⟩ = false ∧
  wr.cell? ⟨w.heap.size, 0, none⟩ = some (.int .i64 0) ∧ wr.cell? ⟨w.heap.size, 1, none⟩ = some (.int .i64 0) ∧ wr.frozen? ⟨w.heap.size, 0, none⟩ = false ∧ wr.frozen? ⟨w.heap.size, 1, none⟩ = false
set_option maxHeartbeats 1000000 in
theorem Tryd.nuParse (t : ByteArray) (w : World) (hs : t.size ≤ maxLen) :
    Calls Tryd.prog 20 #[.string t] w fun e w' => e = .returned (.tuple #[.agg #[.int .i64 (psK t.data.toList), .int .i64 (psP t.data.toList)], .bool (psB t.data.toList)]) ∧ Gr w w' := by
  have hlen : t.data.toList.length = t.size := by simp
  cases hin : innR t.size 2 5
  · have e : psB t.data.toList = false := by
      unfold psB
      rw [hlen]
      have := of_decide_eq_false (p := 2 ≤ (t.size : Int) ∧ (t.size : Int) ≤ 5) hin
      rw [show decide (2 ≤ t.size ∧ t.size ≤ 5) = false from decide_eq_false (by omega)]
      rfl
    rw [show psK t.data.toList = 0 by simp [psK, e], show psP t.data.toList = 0 by simp [psP, e], e]
    have H := Lib.hid hin
    unfold maxLen at hs
    clear hin e hlen
    go_enter Tryd.func20, Tryd.ntmps20
    go_wp2_with (first | (go_at_call 34; refine (Tryd.l1InR _ _ _ _ H.out _).mono ?_; rintro e w1 ⟨rfl, rfl⟩))
    exact bodyPost_ret (v := .tuple #[.agg #[.int .i64 0, .int .i64 0], .bool false]) (by simp [results, Tryd.results20, go_sem]) rfl ⟨rfl, by repeat (first | exact Gr.refl _ | refine Gr.alloc ?_ _ | refine Gr.trans ?_ (by assumption) | refine Gr.drew ?_ | refine Gr.drewN ?_ _ | refine Gr.grow ?_ _ | refine Gr.setCell ?_ (by (try simp); (try omega)) _)⟩
  · have hr := of_decide_eq_true (p := 2 ≤ (t.size : Int) ∧ (t.size : Int) ≤ 5) hin
    have h0 : 0 < t.size := by omega
    have hh := head_is t h0
    have hx : (t.extract 1 t.size).data.toList = t.data.toList.drop 1 := by
      exact Lib.extract_to_end t 1
    have hR := fun (w : World) => Tryd.l1Read (t.extract 1 t.size) w (by unfold maxLen; simp; omega)
    rw [hx] at hR
    have hB : psB t.data.toList = gd (psI t[0]) (Rd.rd (t.data.toList.drop 1)) := by
      unfold psB
      rw [hlen, hh, show decide (2 ≤ t.size ∧ t.size ≤ 5) = true from decide_eq_true (by omega)]
      simp
    have hK : psK t.data.toList = if gd (psI t[0]) (Rd.rd (t.data.toList.drop 1)) then psI t[0] else 0 := by unfold psK; rw [hB, hh]
    have hP : psP t.data.toList = if gd (psI t[0]) (Rd.rd (t.data.toList.drop 1)) then Rd.rd (t.data.toList.drop 1) else 0 := by unfold psP; rw [hB]
    rw [hB, hK, hP]
    generalize Rd.rd (t.data.toList.drop 1) = n at *
    cases hg : gd (psI t[0]) n
    · simp only [Bool.false_eq_true, if_false]
      have H := Lib.hid hin
      have G := Lib.hid hg
      have HR := Lib.hid hR
      have hz0 : (1 : Int) ≤ (t.size : Int) := by omega
      unfold maxLen at hs
      clear hin hlen hh hx hR hB hK hP hg
      go_enter Tryd.func20, Tryd.ntmps20
      go_wp2_with (first | (go_at_call 34; refine (Tryd.l1InR _ _ _ _ H.out _).mono ?_; rintro e w1 ⟨rfl, rfl⟩) | (go_at_call 21; refine (HR.out _).mono ?_; rintro e w1 ⟨rfl, rfl⟩))
      have gw : Gr w ((w.alloc (.cells #[.int .i64 0, .int .i64 0] 23)).alloc (.cells #[.int .i64 (-1), .int .i64 n] 23)) := (by repeat (first | exact Gr.refl _ | refine Gr.alloc ?_ _ | refine Gr.trans ?_ (by assumption) | refine Gr.drew ?_ | refine Gr.drewN ?_ _ | refine Gr.grow ?_ _ | refine Gr.setCell ?_ (by (try simp); (try omega)) _))
      generalize hc : t[0] = c at *
      have HCE := Lib.hid hc
      have hi0 : ∀ W, (Instr.index 9 (.string ⟨#[114, 111, 117]⟩) (.int .i64 0)).run Tryd.prog W = .ok (.int .u8 114) W := fun _ => by kernel_rfl
      have hi1 : ∀ W, (Instr.index 9 (.string ⟨#[114, 111, 117]⟩) (.int .i64 1)).run Tryd.prog W = .ok (.int .u8 111) W := fun _ => by kernel_rfl
      have hi2 : ∀ W, (Instr.index 9 (.string ⟨#[114, 111, 117]⟩) (.int .i64 2)).run Tryd.prog W = .ok (.int .u8 117) W := fun _ => by kernel_rfl
      clear hc
      go_loopw [5] (fun s wr => KRel w c n s wr) (fun s _ => (3 - intOf s).toNat)
      case atStart => exact ⟨0, by omega, rfl, gw, by simp, by simp [go_sem, kk], by simp [go_sem], by simp [go_sem], by simp [go_sem], by simp [go_sem], by simp [go_sem], by simp [go_sem], by simp [go_sem]⟩
      case round =>
        obtain ⟨k, hk, rfl, gr, sz, k0, k1, f0, f1, r0, r1, q0, q1⟩ := hrel
        clear gw
        have z0 : (0 : Int) < (t.size : Int) := by omega
        rcases (show k = 0 ∨ k = 1 ∨ k = 2 ∨ k = 3 by omega) with rfl | rfl | rfl | rfl
        · by_cases hcc : c.toNat = 114
          · have tb : ((t[0].toNat : Int) == 114) = true := by rw [HCE.out]; simp [hcc]
            have HK := Lib.hid (show kk c (0 + 1) = 0 by simp [kk, psI, hcc])
            clear hcc
            go_wp2
            go_quiet (fail)
            go_wp2
            go_roundw
            case rel =>
              refine ⟨0 + 1, by omega, rfl, ?_, ?_, ?_, ?_, ?_, ?_, ?_, ?_, ?_, ?_⟩
              · exact Gr.setCell (Gr.drewN gr _) (by simp) _
              · simpa using sz
              · rw [HK.out]; go_simp
              all_goals go_simp
            case measure => simp [intOf]
          · have tb : ((t[0].toNat : Int) == 114) = false := by rw [HCE.out]; simp; omega
            have HK := Lib.hid (show kk c (0 + 1) = kk c 0 by simp [kk, psI, hcc]; try omega)
            clear hcc
            go_wp2
            go_quiet (fail)
            go_wp2
            go_roundw
            case rel => exact ⟨0 + 1, by omega, rfl, Gr.drewN gr _, sz, by rw [HK.out]; exact k0, k1, f0, f1, r0, r1, q0, q1⟩
            case measure => simp [intOf]
        · by_cases hcc : c.toNat = 111
          · have tb : ((t[0].toNat : Int) == 111) = true := by rw [HCE.out]; simp [hcc]
            have HK := Lib.hid (show kk c (1 + 1) = 1 by simp [kk, psI, hcc])
            clear hcc
            go_wp2
            go_quiet (fail)
            go_wp2
            go_roundw
            case rel =>
              refine ⟨1 + 1, by omega, rfl, ?_, ?_, ?_, ?_, ?_, ?_, ?_, ?_, ?_, ?_⟩
              · exact Gr.setCell (Gr.drewN gr _) (by simp) _
              · simpa using sz
              · rw [HK.out]; go_simp
              all_goals go_simp
            case measure => simp [intOf]
          · have tb : ((t[0].toNat : Int) == 111) = false := by rw [HCE.out]; simp; omega
            have HK := Lib.hid (show kk c (1 + 1) = kk c 1 by simp [kk, psI, hcc]; try omega)
            clear hcc
            go_wp2
            go_quiet (fail)
            go_wp2
            go_roundw
            case rel => exact ⟨1 + 1, by omega, rfl, Gr.drewN gr _, sz, by rw [HK.out]; exact k0, k1, f0, f1, r0, r1, q0, q1⟩
            case measure => simp [intOf]
        · by_cases hcc : c.toNat = 117
          · have tb : ((t[0].toNat : Int) == 117) = true := by rw [HCE.out]; simp [hcc]
            have HK := Lib.hid (show kk c (2 + 1) = 2 by simp [kk, psI, hcc])
            clear hcc
            go_wp2
            go_quiet (fail)
            go_wp2
            go_roundw
            case rel =>
              refine ⟨2 + 1, by omega, rfl, ?_, ?_, ?_, ?_, ?_, ?_, ?_, ?_, ?_, ?_⟩
              · exact Gr.setCell (Gr.drewN gr _) (by simp) _
              · simpa using sz
              · rw [HK.out]; go_simp
              all_goals go_simp
            case measure => simp [intOf]
          · have tb : ((t[0].toNat : Int) == 117) = false := by rw [HCE.out]; simp; omega
            have HK := Lib.hid (show kk c (2 + 1) = kk c 2 by simp [kk, psI, hcc]; try omega)
            clear hcc
            go_wp2
            go_quiet (fail)
            go_wp2
            go_roundw
            case rel => exact ⟨2 + 1, by omega, rfl, Gr.drewN gr _, sz, by rw [HK.out]; exact k0, k1, f0, f1, r0, r1, q0, q1⟩
            case measure => simp [intOf]
        · have ek : kk c 3 = psI c := rfl
          have G2 := Lib.hid (show gd (psI c) n = false from G.out)
          rw [ek] at k0
          have sz2 : w.heap.size < wr.heap.size := by omega
          clear ek
          go_wp2_with (first | (go_at_call 35; refine (Tryd.nuGood _ _ _ G2.out _).mono ?_; rintro e w1 ⟨rfl, hbW⟩; have hcW := (bcell hbW.below).1; have hfW := (bcell hbW.below).2; (try have hzW : w.heap.size < w1.heap.size := by have hq := hbW.below.size; (try simp at hq); omega); (try have hyW : w.heap.size + 1 < w1.heap.size := by have hq := hbW.below.size; (try simp at hq); omega); (try have hxW : w.heap.size + 2 < w1.heap.size := by have hq := hbW.below.size; (try simp at hq); omega)))
          refine bodyPost_ret (v := .tuple #[.agg #[.int .i64 0, .int .i64 0], .bool false]) ?_ rfl ⟨rfl, ?_⟩
          · simp [results, Tryd.results20, go_sem, hcW, hfW, hyW, hzW, r0, r1, sz, sz2]
          · exact Gr.setCell (Gr.setCell (gr.trans hbW) (by simp) _) (by simp) _
    · simp only [if_true]
      have H := Lib.hid hin
      have G := Lib.hid hg
      have HR := Lib.hid hR
      have hz0 : (1 : Int) ≤ (t.size : Int) := by omega
      unfold maxLen at hs
      clear hin hlen hh hx hR hB hK hP hg
      go_enter Tryd.func20, Tryd.ntmps20
      go_wp2_with (first | (go_at_call 34; refine (Tryd.l1InR _ _ _ _ H.out _).mono ?_; rintro e w1 ⟨rfl, rfl⟩) | (go_at_call 21; refine (HR.out _).mono ?_; rintro e w1 ⟨rfl, rfl⟩))
      have gw : Gr w ((w.alloc (.cells #[.int .i64 0, .int .i64 0] 23)).alloc (.cells #[.int .i64 (-1), .int .i64 n] 23)) := (by repeat (first | exact Gr.refl _ | refine Gr.alloc ?_ _ | refine Gr.trans ?_ (by assumption) | refine Gr.drew ?_ | refine Gr.drewN ?_ _ | refine Gr.grow ?_ _ | refine Gr.setCell ?_ (by (try simp); (try omega)) _))
      generalize hc : t[0] = c at *
      have HCE := Lib.hid hc
      have hi0 : ∀ W, (Instr.index 9 (.string ⟨#[114, 111, 117]⟩) (.int .i64 0)).run Tryd.prog W = .ok (.int .u8 114) W := fun _ => by kernel_rfl
      have hi1 : ∀ W, (Instr.index 9 (.string ⟨#[114, 111, 117]⟩) (.int .i64 1)).run Tryd.prog W = .ok (.int .u8 111) W := fun _ => by kernel_rfl
      have hi2 : ∀ W, (Instr.index 9 (.string ⟨#[114, 111, 117]⟩) (.int .i64 2)).run Tryd.prog W = .ok (.int .u8 117) W := fun _ => by kernel_rfl
      clear hc
      go_loopw [5] (fun s wr => KRel w c n s wr) (fun s _ => (3 - intOf s).toNat)
      case atStart => exact ⟨0, by omega, rfl, gw, by simp, by simp [go_sem, kk], by simp [go_sem], by simp [go_sem], by simp [go_sem], by simp [go_sem], by simp [go_sem], by simp [go_sem], by simp [go_sem]⟩
      case round =>
        obtain ⟨k, hk, rfl, gr, sz, k0, k1, f0, f1, r0, r1, q0, q1⟩ := hrel
        clear gw
        have z0 : (0 : Int) < (t.size : Int) := by omega
        rcases (show k = 0 ∨ k = 1 ∨ k = 2 ∨ k = 3 by omega) with rfl | rfl | rfl | rfl
        · by_cases hcc : c.toNat = 114
          · have tb : ((t[0].toNat : Int) == 114) = true := by rw [HCE.out]; simp [hcc]
            have HK := Lib.hid (show kk c (0 + 1) = 0 by simp [kk, psI, hcc])
            clear hcc
            go_wp2
            go_quiet (fail)
            go_wp2
            go_roundw
            case rel =>
              refine ⟨0 + 1, by omega, rfl, ?_, ?_, ?_, ?_, ?_, ?_, ?_, ?_, ?_, ?_⟩
              · exact Gr.setCell (Gr.drewN gr _) (by simp) _
              · simpa using sz
              · rw [HK.out]; go_simp
              all_goals go_simp
            case measure => simp [intOf]
          · have tb : ((t[0].toNat : Int) == 114) = false := by rw [HCE.out]; simp; omega
            have HK := Lib.hid (show kk c (0 + 1) = kk c 0 by simp [kk, psI, hcc]; try omega)
            clear hcc
            go_wp2
            go_quiet (fail)
            go_wp2
            go_roundw
            case rel => exact ⟨0 + 1, by omega, rfl, Gr.drewN gr _, sz, by rw [HK.out]; exact k0, k1, f0, f1, r0, r1, q0, q1⟩
            case measure => simp [intOf]
        · by_cases hcc : c.toNat = 111
          · have tb : ((t[0].toNat : Int) == 111) = true := by rw [HCE.out]; simp [hcc]
            have HK := Lib.hid (show kk c (1 + 1) = 1 by simp [kk, psI, hcc])
            clear hcc
            go_wp2
            go_quiet (fail)
            go_wp2
            go_roundw
            case rel =>
              refine ⟨1 + 1, by omega, rfl, ?_, ?_, ?_, ?_, ?_, ?_, ?_, ?_, ?_, ?_⟩
              · exact Gr.setCell (Gr.drewN gr _) (by simp) _
              · simpa using sz
              · rw [HK.out]; go_simp
              all_goals go_simp
            case measure => simp [intOf]
          · have tb : ((t[0].toNat : Int) == 111) = false := by rw [HCE.out]; simp; omega
            have HK := Lib.hid (show kk c (1 + 1) = kk c 1 by simp [kk, psI, hcc]; try omega)
            clear hcc
            go_wp2
            go_quiet (fail)
            go_wp2
            go_roundw
            case rel => exact ⟨1 + 1, by omega, rfl, Gr.drewN gr _, sz, by rw [HK.out]; exact k0, k1, f0, f1, r0, r1, q0, q1⟩
            case measure => simp [intOf]
        · by_cases hcc : c.toNat = 117
          · have tb : ((t[0].toNat : Int) == 117) = true := by rw [HCE.out]; simp [hcc]
            have HK := Lib.hid (show kk c (2 + 1) = 2 by simp [kk, psI, hcc])
            clear hcc
            go_wp2
            go_quiet (fail)
            go_wp2
            go_roundw
            case rel =>
              refine ⟨2 + 1, by omega, rfl, ?_, ?_, ?_, ?_, ?_, ?_, ?_, ?_, ?_, ?_⟩
              · exact Gr.setCell (Gr.drewN gr _) (by simp) _
              · simpa using sz
              · rw [HK.out]; go_simp
              all_goals go_simp
            case measure => simp [intOf]
          · have tb : ((t[0].toNat : Int) == 117) = false := by rw [HCE.out]; simp; omega
            have HK := Lib.hid (show kk c (2 + 1) = kk c 2 by simp [kk, psI, hcc]; try omega)
            clear hcc
            go_wp2
            go_quiet (fail)
            go_wp2
            go_roundw
            case rel => exact ⟨2 + 1, by omega, rfl, Gr.drewN gr _, sz, by rw [HK.out]; exact k0, k1, f0, f1, r0, r1, q0, q1⟩
            case measure => simp [intOf]
        · have ek : kk c 3 = psI c := rfl
          have G2 := Lib.hid (show gd (psI c) n = true from G.out)
          rw [ek] at k0
          have sz2 : w.heap.size < wr.heap.size := by omega
          clear ek
          go_wp2_with (first | (go_at_call 35; refine (Tryd.nuGood _ _ _ G2.out _).mono ?_; rintro e w1 ⟨rfl, hbW⟩; have hcW := (bcell hbW.below).1; have hfW := (bcell hbW.below).2; (try have hzW : w.heap.size < w1.heap.size := by have hq := hbW.below.size; (try simp at hq); omega); (try have hyW : w.heap.size + 1 < w1.heap.size := by have hq := hbW.below.size; (try simp at hq); omega); (try have hxW : w.heap.size + 2 < w1.heap.size := by have hq := hbW.below.size; (try simp at hq); omega)))
          have ee : psI t[0] = psI c := by rw [HCE.out]
          refine bodyPost_ret (v := .tuple #[.agg #[.int .i64 (psI c), .int .i64 n], .bool true]) ?_ rfl ⟨by first | rfl | rw [ee], ?_⟩
          · simp [results, Tryd.results20, go_sem, hcW, hfW, hyW, hzW, r0, r1, sz, sz2]
          · exact Gr.setCell (Gr.setCell (gr.trans hbW) (by simp) _) (by simp) _
end Go.Proofs
