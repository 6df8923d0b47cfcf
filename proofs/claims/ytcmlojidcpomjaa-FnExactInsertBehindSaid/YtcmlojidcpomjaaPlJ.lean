/-
  Contracts of chapter 2: two lists of plates in one, one plate put in, the next of one put in; both sides.
-/
import Derived.Test.YtcmlojidcpomjaaPlJm
import Derived.Test.YtcmlojidcpomjaaPlIns
namespace Go.Proofs
open Go.RowKit Pl
set_option linter.unusedVariables false
set_option linter.unusedSimpArgs false
def JRel (ps qs : List Pi2) (W : World) (B : Nat) (out i : Value) (wr : World) : Prop := Below W.heap.size W wr ∧ ∃ k : Nat, k ≤ qs.length ∧ i = .int .i64 k ∧ OwnP 44 wr B out (joinTo ps qs k) ∧ JnOk ps qs k
set_option maxRecDepth 100000 in
set_option maxHeartbeats 3200000 in
theorem Try.sJoinPlates (w : World) (B : Nat) (v : Value) (ps : List Pi2) (C : Nat) (u : Value) (qs : List Pi2) (hl : ps.length ≤ 1048576) (hl2 : qs.length ≤ 1048576) (h : OwnP 44 w B v ps) (g : OwnP 44 w C u qs) :
    Calls Try.prog 36 #[v, u] w fun e w' => ∃ v', e = .returned (.tuple #[v', .bool (jnB ps qs)]) ∧ OwnP 44 w' w.heap.size v' (jnV ps qs) ∧ Below w.heap.size w w' := by
  cases hp : okB ps
  · have hB : jnB ps qs = false := by simp [jnB, hp]
    have HA := Lib.hid (fun (W : World) (k : Gr w W) => Try.isGood W B v ps false (okB_i ps _ hp) hl (h.gr k))
    rw [jn_no hB, hB]
    obtain ⟨A, c, rfl, h⟩ := h.eta
    clear h g hp hB
    go_enter Try.func36, Try.ntmps36
    go_wp2_with (first | (go_at_call 54; refine (HA.out _ (by repeat (first | exact Gr.refl _ | refine Gr.alloc ?_ _ | refine Gr.trans ?_ (by assumption) | refine Gr.drew ?_ | refine Gr.drewN ?_ _ | refine Gr.grow ?_ _ | refine Gr.setCell ?_ (by (try simp); (try omega)) _))).mono ?_; rintro e w1 ⟨rfl, hbW⟩; have hcW := (bcell hbW.below).1; have hfW := (bcell hbW.below).2; (try have hzW : w.heap.size < w1.heap.size := by have hq := hbW.below.size; (try simp at hq); omega); (try have hyW : w.heap.size + 1 < w1.heap.size := by have hq := hbW.below.size; (try simp at hq); omega); (try have hxW : w.heap.size + 2 < w1.heap.size := by have hq := hbW.below.size; (try simp at hq); omega)))
    go_ret2
    exact ⟨_, rfl, OwnP.nil _ _ _, Gr.below (by repeat (first | exact Gr.refl _ | refine Gr.alloc ?_ _ | refine Gr.trans ?_ (by assumption) | refine Gr.drew ?_ | refine Gr.drewN ?_ _ | refine Gr.grow ?_ _ | refine Gr.setCell ?_ (by (try simp); (try omega)) _))⟩
  · cases hq : okB qs
    · have hB : jnB ps qs = false := by simp [jnB, hq]
      have HA := Lib.hid (fun (W : World) (k : Gr w W) => Try.isGood W B v ps true (okB_i ps _ hp) hl (h.gr k))
      have HB := Lib.hid (fun (W : World) (k : Gr w W) => Try.isGood W C u qs false (okB_i qs _ hq) hl2 (g.gr k))
      rw [jn_no hB, hB]
      obtain ⟨A, c, rfl, h⟩ := h.eta
      obtain ⟨A2, c2, rfl, g⟩ := g.eta
      clear h g hp hB hq
      go_enter Try.func36, Try.ntmps36
      go_wp2_with (first | (go_at_call_of 54 (Value.slice A ps.length c); refine (HA.out _ (by repeat (first | exact Gr.refl _ | refine Gr.alloc ?_ _ | refine Gr.trans ?_ (by assumption) | refine Gr.drew ?_ | refine Gr.drewN ?_ _ | refine Gr.grow ?_ _ | refine Gr.setCell ?_ (by (try simp); (try omega)) _))).mono ?_; rintro e w1 ⟨rfl, hbW⟩; have hcW := (bcell hbW.below).1; have hfW := (bcell hbW.below).2; (try have hzW : w.heap.size < w1.heap.size := by have hq := hbW.below.size; (try simp at hq); omega); (try have hyW : w.heap.size + 1 < w1.heap.size := by have hq := hbW.below.size; (try simp at hq); omega); (try have hxW : w.heap.size + 2 < w1.heap.size := by have hq := hbW.below.size; (try simp at hq); omega)) | (go_at_call_of 54 (Value.slice A2 qs.length c2); refine (HB.out _ (by repeat (first | exact Gr.refl _ | refine Gr.alloc ?_ _ | refine Gr.trans ?_ (by assumption) | refine Gr.drew ?_ | refine Gr.drewN ?_ _ | refine Gr.grow ?_ _ | refine Gr.setCell ?_ (by (try simp); (try omega)) _))).mono ?_; rintro e w1 ⟨rfl, hbW⟩; have hcW := (bcell hbW.below).1; have hfW := (bcell hbW.below).2; (try have hzW : w.heap.size < w1.heap.size := by have hq := hbW.below.size; (try simp at hq); omega); (try have hyW : w.heap.size + 1 < w1.heap.size := by have hq := hbW.below.size; (try simp at hq); omega); (try have hxW : w.heap.size + 2 < w1.heap.size := by have hq := hbW.below.size; (try simp at hq); omega)))
      all_goals
        go_ret2
        exact ⟨_, rfl, OwnP.nil _ _ _, Gr.below (by repeat (first | exact Gr.refl _ | refine Gr.alloc ?_ _ | refine Gr.trans ?_ (by assumption) | refine Gr.drew ?_ | refine Gr.drewN ?_ _ | refine Gr.grow ?_ _ | refine Gr.setCell ?_ (by (try simp); (try omega)) _))⟩
    · have hok := (okB_iff ps).1 hp
      have hok2 := (okB_iff qs).1 hq
      have h1 := hok.1; have h2 := hok.2.1; have h3 := hok2.1; have h4 := hok2.2.1
      have HA := Lib.hid (fun (W : World) (k : Gr w W) => Try.isGood W B v ps true (okB_i ps _ hp) hl (h.gr k))
      have HB := Lib.hid (fun (W : World) (k : Gr w W) => Try.isGood W C u qs true (okB_i qs _ hq) hl2 (g.gr k))
      have HK := Lib.hid hok
      have HK2 := Lib.hid hok2
      rcases h.view with ⟨hz, _⟩ | ⟨_, g1, c1, rfl, _, g1b, _, _, _, _⟩
      · subst hz; simp at h1
      rcases g.view with ⟨hz, _⟩ | ⟨_, g2, c2, rfl, _, g2b, _, _, hc2, _⟩
      · subst hz; simp at h3
      have HR := Lib.hid (fun (W : World) (k : Gr w W) => (show ∀ j u, (pcs ps)[j]? = some u → W.cell? ((⟨g1, 0, none⟩ : Addr).add j) = some u by have := (h.gr k).reads rfl 0 ps.length (by omega); simpa using this))
      have HC := Lib.hid hc2
      clear h g hp hq hok hok2 hc2
      go_enter Try.func36, Try.ntmps36
      go_wp2_with (first | (go_at_call_of 54 (Value.slice (some ⟨g1, 0, none⟩) ps.length c1); refine (HA.out _ (by repeat (first | exact Gr.refl _ | refine Gr.alloc ?_ _ | refine Gr.trans ?_ (by assumption) | refine Gr.drew ?_ | refine Gr.drewN ?_ _ | refine Gr.grow ?_ _ | refine Gr.setCell ?_ (by (try simp); (try omega)) _))).mono ?_; rintro e w1 ⟨rfl, hbW⟩; have hcW := (bcell hbW.below).1; have hfW := (bcell hbW.below).2; (try have hzW : w.heap.size < w1.heap.size := by have hq := hbW.below.size; (try simp at hq); omega); (try have hyW : w.heap.size + 1 < w1.heap.size := by have hq := hbW.below.size; (try simp at hq); omega); (try have hxW : w.heap.size + 2 < w1.heap.size := by have hq := hbW.below.size; (try simp at hq); omega)) | (go_at_call_of 54 (Value.slice (some ⟨g2, 0, none⟩) qs.length c2); refine (HB.out _ (by repeat (first | exact Gr.refl _ | refine Gr.alloc ?_ _ | refine Gr.trans ?_ (by assumption) | refine Gr.drew ?_ | refine Gr.drewN ?_ _ | refine Gr.grow ?_ _ | refine Gr.setCell ?_ (by (try simp); (try omega)) _))).mono ?_; rintro e w1 ⟨rfl, hbW⟩; have hcW := (bcell hbW.below).1; have hfW := (bcell hbW.below).2; (try have hzW : w.heap.size < w1.heap.size := by have hq := hbW.below.size; (try simp at hq); omega); (try have hyW : w.heap.size + 1 < w1.heap.size := by have hq := hbW.below.size; (try simp at hq); omega); (try have hxW : w.heap.size + 2 < w1.heap.size := by have hq := hbW.below.size; (try simp at hq); omega)) | (at_builtin; refine wpList_appP rfl _ _ 42 rfl 44 Try.underlying42 Try.infoP w.heap.size _ [] rfl (own_empty (heap_new' rfl) (Gr.below (by repeat (first | exact Gr.refl _ | refine Gr.alloc ?_ _ | refine Gr.trans ?_ (by assumption) | refine Gr.drew ?_ | refine Gr.drewN ?_ _ | refine Gr.grow ?_ _ | refine Gr.setCell ?_ (by (try simp); (try omega)) _))).size) ⟨g1, 0, none⟩ ps.length c1 ps rfl rfl (fun j u hu => HR.out _ (by repeat (first | exact Gr.refl _ | refine Gr.alloc ?_ _ | refine Gr.trans ?_ (by assumption) | refine Gr.drew ?_ | refine Gr.drewN ?_ _ | refine Gr.grow ?_ _ | refine Gr.setCell ?_ (by (try simp); (try omega)) _)) j u hu) (by simp) (by omega) (Gr.below (by repeat (first | exact Gr.refl _ | refine Gr.alloc ?_ _ | refine Gr.trans ?_ (by assumption) | refine Gr.drew ?_ | refine Gr.drewN ?_ _ | refine Gr.grow ?_ _ | refine Gr.setCell ?_ (by (try simp); (try omega)) _))).size ?_; intro v3 w3 ho3 hb3 _))
      have HB3 := Lib.hid (Below.trans (Gr.below (by repeat (first | exact Gr.refl _ | refine Gr.alloc ?_ _ | refine Gr.trans ?_ (by assumption) | refine Gr.drew ?_ | refine Gr.drewN ?_ _ | refine Gr.grow ?_ _ | refine Gr.setCell ?_ (by (try simp); (try omega)) _))) (hb3.mono (Nat.le_refl _)) : Below w.heap.size w w3)
      have HO3 := Lib.hid ho3
      clear hb3 ho3 hcW hfW hbW
      clear hcW hfW hbW
      go_loopw [6, 8, 9, 10, 24] (fun out _ _ _ i wr => JRel ps qs w w.heap.size out i wr) (fun _ _ _ _ i _ => (qs.length - intOf i).toNat)
      case atStart => exact ⟨HB3.out, 0, Nat.zero_le _, rfl, by rw [joinTo_zero]; simpa using HO3.out, by rw [joinTo_zero]; exact HK.out.2.2.2, by omega⟩
      case round =>
        obtain ⟨hbl, k, hk, rfl, ho, hj⟩ := hrel
        by_cases hlt : k < qs.length
        · rcases hq : qs.getD k (0, 0) with ⟨q0, q1⟩
          have hqp : isP q0 q1 = true := decide_eq_true (at_isP HK2.out.2.2.1 hlt hq)
          have e0 := cell_k2 hbl (HC.out k hlt).1
          have e1 := cell_k2 hbl (HC.out k hlt).2
          rw [hq] at e0 e1
          simp only at e0 e1
          have z0 : (0 : Int) ≤ (k : Int) := by omega
          have z1 : (k : Int) < (qs.length : Int) := by omega
          have hlen := joinTo_len ps qs k (by omega)
          have HI := Lib.hid (fun (W : World) (c : Gr wr W) => Try.isAdd W w.heap.size _ (joinTo ps qs k) q0 q1 (joinTo_isp HK.out.2.2.1 HK2.out.2.2.1 k) hqp (by omega) (by omega) (ho.gr c))
          have HQ := Lib.hid hq
          have HBL := Lib.hid hbl
          have HJ := Lib.hid hj
          have hsz := hbl.size
          obtain ⟨A6, c6, rfl, _⟩ := ho.eta
          clear hq hbl hj ho hqp hlen
          have HST := Lib.hid (fun hb => HJ.out.step hlt HK.out.2.2.1 HK2.out.2.2.1 hb)
          have HBD := Lib.hid (fun hb => JnOk.bad (ps := ps) hlt hb)
          rw [HQ.out] at HST HBD
          clear HJ
          generalize joinTo ps qs k = js at *
          cases hia : iaB js (q0, q1)
          · have HB12 := Lib.hid (HBD.out hia)
            rw [hia] at HI
            clear hia
            go_wp2_with (first | (go_at_call 65; refine (HI.out _ (Gr.alloc (Gr.refl _) _)).mono ?_; rintro e w4 ⟨v4, rfl, ho4, hb4⟩))
            go_ret2
            rw [HB12.out.1, HB12.out.2]
            exact ⟨_, rfl, OwnP.nil _ _ _, HBL.out.trans (((Below.refl _ wr).alloc (by omega) _).trans (hb4.mono (by simp; omega)))⟩
          · have HS := Lib.hid (HST.out hia)
            rw [hia] at HI
            clear hia
            go_wp2_with (first | (go_at_call 65; refine (HI.out _ (Gr.alloc (Gr.refl _) _)).mono ?_; rintro e w4 ⟨v4, rfl, ho4, hb4⟩))
            go_roundw
            case rel => exact ⟨HBL.out.trans (((Below.refl _ wr).alloc (by omega) _).trans (hb4.mono (by simp; omega))), k + 1, by omega, by go_num, by rw [← HS.out.2]; exact OwnP.mono ho4 (by simp; omega), HS.out.1⟩
            case measure => simp [intOf]; omega
        · obtain rfl : k = qs.length := by omega
          have HB12 := Lib.hid (hj.all HK.out HK2.out)
          have HO := Lib.hid ho
          have HBL := Lib.hid hbl
          obtain ⟨A6, c6, rfl, _⟩ := ho.eta
          clear hj ho hbl
          go_wp2
          go_ret2
          rw [HB12.out.1, HB12.out.2]
          exact ⟨_, rfl, HO.out, HBL.out⟩
def JRelI (ps qs : List Pi2) (W : World) (B : Nat) (out i : Value) (wr : World) : Prop := Below W.heap.size W wr ∧ ∃ k : Nat, k ≤ qs.length ∧ i = .int .i64 k ∧ OwnP 44 wr B out (joinTo ps qs k)
set_option maxRecDepth 100000 in
set_option maxHeartbeats 3200000 in
theorem Try.iJoinPlates (w : World) (B : Nat) (v : Value) (ps : List Pi2) (C : Nat) (u : Value) (qs : List Pi2) (hl : ps.length ≤ 1048576) (hl2 : qs.length ≤ 1048576) (h : OwnP 44 w B v ps) (g : OwnP 44 w C u qs) :
    Calls Try.prog 37 #[v, u] w fun e w' => ∃ v', e = .returned (.tuple #[v', .bool (jnB ps qs)]) ∧ OwnP 44 w' w.heap.size v' (jnV ps qs) ∧ Below w.heap.size w w' := by
  cases hp : okB ps
  · have hB : jnB ps qs = false := by simp [jnB, hp]
    have HA := Lib.hid (fun (W : World) (k : Gr w W) => Try.iArePlates W B v ps false (okB_i ps _ hp) hl (h.gr k))
    rw [jn_no hB, hB]
    obtain ⟨A, c, rfl, h⟩ := h.eta
    clear h g hp hB
    go_enter Try.func37, Try.ntmps37
    go_wp2_with (first | (go_at_call 57; refine (HA.out _ (by repeat (first | exact Gr.refl _ | refine Gr.alloc ?_ _ | refine Gr.trans ?_ (by assumption) | refine Gr.drew ?_ | refine Gr.drewN ?_ _ | refine Gr.grow ?_ _ | refine Gr.setCell ?_ (by (try simp); (try omega)) _))).mono ?_; rintro e w1 ⟨rfl, hbW⟩; have hcW := (bcell hbW.below).1; have hfW := (bcell hbW.below).2; (try have hzW : w.heap.size < w1.heap.size := by have hq := hbW.below.size; (try simp at hq); omega); (try have hyW : w.heap.size + 1 < w1.heap.size := by have hq := hbW.below.size; (try simp at hq); omega); (try have hxW : w.heap.size + 2 < w1.heap.size := by have hq := hbW.below.size; (try simp at hq); omega)))
    go_ret2
    exact ⟨_, rfl, OwnP.nil _ _ _, Gr.below (by repeat (first | exact Gr.refl _ | refine Gr.alloc ?_ _ | refine Gr.trans ?_ (by assumption) | refine Gr.drew ?_ | refine Gr.drewN ?_ _ | refine Gr.grow ?_ _ | refine Gr.setCell ?_ (by (try simp); (try omega)) _))⟩
  · cases hq : okB qs
    · have hB : jnB ps qs = false := by simp [jnB, hq]
      have HA := Lib.hid (fun (W : World) (k : Gr w W) => Try.iArePlates W B v ps true (okB_i ps _ hp) hl (h.gr k))
      have HB := Lib.hid (fun (W : World) (k : Gr w W) => Try.iArePlates W C u qs false (okB_i qs _ hq) hl2 (g.gr k))
      rw [jn_no hB, hB]
      obtain ⟨A, c, rfl, h⟩ := h.eta
      obtain ⟨A2, c2, rfl, g⟩ := g.eta
      clear h g hp hB hq
      go_enter Try.func37, Try.ntmps37
      go_wp2_with (first | (go_at_call_of 57 (Value.slice A ps.length c); refine (HA.out _ (by repeat (first | exact Gr.refl _ | refine Gr.alloc ?_ _ | refine Gr.trans ?_ (by assumption) | refine Gr.drew ?_ | refine Gr.drewN ?_ _ | refine Gr.grow ?_ _ | refine Gr.setCell ?_ (by (try simp); (try omega)) _))).mono ?_; rintro e w1 ⟨rfl, hbW⟩; have hcW := (bcell hbW.below).1; have hfW := (bcell hbW.below).2; (try have hzW : w.heap.size < w1.heap.size := by have hq := hbW.below.size; (try simp at hq); omega); (try have hyW : w.heap.size + 1 < w1.heap.size := by have hq := hbW.below.size; (try simp at hq); omega); (try have hxW : w.heap.size + 2 < w1.heap.size := by have hq := hbW.below.size; (try simp at hq); omega)) | (go_at_call_of 57 (Value.slice A2 qs.length c2); refine (HB.out _ (by repeat (first | exact Gr.refl _ | refine Gr.alloc ?_ _ | refine Gr.trans ?_ (by assumption) | refine Gr.drew ?_ | refine Gr.drewN ?_ _ | refine Gr.grow ?_ _ | refine Gr.setCell ?_ (by (try simp); (try omega)) _))).mono ?_; rintro e w1 ⟨rfl, hbW⟩; have hcW := (bcell hbW.below).1; have hfW := (bcell hbW.below).2; (try have hzW : w.heap.size < w1.heap.size := by have hq := hbW.below.size; (try simp at hq); omega); (try have hyW : w.heap.size + 1 < w1.heap.size := by have hq := hbW.below.size; (try simp at hq); omega); (try have hxW : w.heap.size + 2 < w1.heap.size := by have hq := hbW.below.size; (try simp at hq); omega)))
      all_goals
        go_ret2
        exact ⟨_, rfl, OwnP.nil _ _ _, Gr.below (by repeat (first | exact Gr.refl _ | refine Gr.alloc ?_ _ | refine Gr.trans ?_ (by assumption) | refine Gr.drew ?_ | refine Gr.drewN ?_ _ | refine Gr.grow ?_ _ | refine Gr.setCell ?_ (by (try simp); (try omega)) _))⟩
    · have hok := (okB_iff ps).1 hp
      have hok2 := (okB_iff qs).1 hq
      have h1 := hok.1; have h2 := hok.2.1; have h3 := hok2.1; have h4 := hok2.2.1
      have HA := Lib.hid (fun (W : World) (k : Gr w W) => Try.iArePlates W B v ps true (okB_i ps _ hp) hl (h.gr k))
      have HB := Lib.hid (fun (W : World) (k : Gr w W) => Try.iArePlates W C u qs true (okB_i qs _ hq) hl2 (g.gr k))
      have HK := Lib.hid hok
      have HK2 := Lib.hid hok2
      rcases h.view with ⟨hz, _⟩ | ⟨_, g1, c1, rfl, _, g1b, _, _, _, _⟩
      · subst hz; simp at h1
      rcases g.view with ⟨hz, _⟩ | ⟨_, g2, c2, rfl, _, g2b, _, _, hc2, _⟩
      · subst hz; simp at h3
      have HR := Lib.hid (fun (W : World) (k : Gr w W) => (show ∀ j u, (pcs ps)[j]? = some u → W.cell? ((⟨g1, 0, none⟩ : Addr).add j) = some u by have := (h.gr k).reads rfl 0 ps.length (by omega); simpa using this))
      have HC := Lib.hid hc2
      clear h g hp hq hok hok2 hc2
      go_enter Try.func37, Try.ntmps37
      go_wp2_with (first | (go_at_call_of 57 (Value.slice (some ⟨g1, 0, none⟩) ps.length c1); refine (HA.out _ (by repeat (first | exact Gr.refl _ | refine Gr.alloc ?_ _ | refine Gr.trans ?_ (by assumption) | refine Gr.drew ?_ | refine Gr.drewN ?_ _ | refine Gr.grow ?_ _ | refine Gr.setCell ?_ (by (try simp); (try omega)) _))).mono ?_; rintro e w1 ⟨rfl, hbW⟩; have hcW := (bcell hbW.below).1; have hfW := (bcell hbW.below).2; (try have hzW : w.heap.size < w1.heap.size := by have hq := hbW.below.size; (try simp at hq); omega); (try have hyW : w.heap.size + 1 < w1.heap.size := by have hq := hbW.below.size; (try simp at hq); omega); (try have hxW : w.heap.size + 2 < w1.heap.size := by have hq := hbW.below.size; (try simp at hq); omega)) | (go_at_call_of 57 (Value.slice (some ⟨g2, 0, none⟩) qs.length c2); refine (HB.out _ (by repeat (first | exact Gr.refl _ | refine Gr.alloc ?_ _ | refine Gr.trans ?_ (by assumption) | refine Gr.drew ?_ | refine Gr.drewN ?_ _ | refine Gr.grow ?_ _ | refine Gr.setCell ?_ (by (try simp); (try omega)) _))).mono ?_; rintro e w1 ⟨rfl, hbW⟩; have hcW := (bcell hbW.below).1; have hfW := (bcell hbW.below).2; (try have hzW : w.heap.size < w1.heap.size := by have hq := hbW.below.size; (try simp at hq); omega); (try have hyW : w.heap.size + 1 < w1.heap.size := by have hq := hbW.below.size; (try simp at hq); omega); (try have hxW : w.heap.size + 2 < w1.heap.size := by have hq := hbW.below.size; (try simp at hq); omega)) | (go_at_call 70; refine (Try.cloneP _ ⟨g1, 0, none⟩ ps.length c1 ps rfl (by omega) (fun j u hu => HR.out _ (by repeat (first | exact Gr.refl _ | refine Gr.alloc ?_ _ | refine Gr.trans ?_ (by assumption) | refine Gr.drew ?_ | refine Gr.drewN ?_ _ | refine Gr.grow ?_ _ | refine Gr.setCell ?_ (by (try simp); (try omega)) _)) j u hu)).mono ?_; rintro e w3 ⟨v3, rfl, ho3, hb3⟩))
      have HB3 := Lib.hid (Below.trans (Gr.below (by repeat (first | exact Gr.refl _ | refine Gr.alloc ?_ _ | refine Gr.trans ?_ (by assumption) | refine Gr.drew ?_ | refine Gr.drewN ?_ _ | refine Gr.grow ?_ _ | refine Gr.setCell ?_ (by (try simp); (try omega)) _))) (hb3.mono (Gr.below (by repeat (first | exact Gr.refl _ | refine Gr.alloc ?_ _ | refine Gr.trans ?_ (by assumption) | refine Gr.drew ?_ | refine Gr.drewN ?_ _ | refine Gr.grow ?_ _ | refine Gr.setCell ?_ (by (try simp); (try omega)) _))).size) : Below w.heap.size w w3)
      have HO3 := Lib.hid (OwnP.mono ho3 (Gr.below (by repeat (first | exact Gr.refl _ | refine Gr.alloc ?_ _ | refine Gr.trans ?_ (by assumption) | refine Gr.drew ?_ | refine Gr.drewN ?_ _ | refine Gr.grow ?_ _ | refine Gr.setCell ?_ (by (try simp); (try omega)) _))).size : OwnP 44 w3 w.heap.size v3 ps)
      clear hb3 ho3 hcW hfW hbW
      clear hcW hfW hbW
      go_loopw [6, 8, 21] (fun out _ i wr => JRelI ps qs w w.heap.size out i wr) (fun _ _ i _ => (qs.length - intOf i).toNat)
      case atStart => exact ⟨HB3.out, 0, Nat.zero_le _, rfl, by rw [joinTo_zero]; exact HO3.out⟩
      case round =>
        obtain ⟨hbl, k, hk, rfl, ho⟩ := hrel
        obtain ⟨A6, c6, rfl, ho⟩ := ho.eta
        by_cases hlt : k < qs.length
        · rcases hq : qs.getD k (0, 0) with ⟨q0, q1⟩
          have hqp : isP q0 q1 = true := decide_eq_true (at_isP HK2.out.2.2.1 hlt hq)
          have e0 := cell_k2 hbl (HC.out k hlt).1
          have e1 := cell_k2 hbl (HC.out k hlt).2
          rw [hq] at e0 e1
          simp only at e0 e1
          have z0 : (0 : Int) ≤ (k : Int) := by omega
          have z1 : (k : Int) < (qs.length : Int) := by omega
          have hlen := joinTo_len ps qs k (by omega)
          have HX := Lib.hid (fun (W : World) (c : Gr wr W) => Try.indexForPlate W w.heap.size _ (joinTo ps qs k) q0 q1 (joinTo_isp HK.out.2.2.1 HK2.out.2.2.1 k) hqp (by omega) (by omega) (ho.gr c))
          have HN := Lib.hid (fun (W : World) (c : Gr wr W) (b : Nat) (hb : wr.heap.size ≤ b) (hbk : W.heap[b]? = some (.cells #[.int .i64 q0, .int .i64 q1] 44 (0, 0))) =>
            Try.insertP W w.heap.size (plc (joinTo ps qs k) (q0, q1)) (.slice A6 (joinTo ps qs k).length c6) (joinTo ps qs k) q0 q1 b (Nat.le_trans hbl.size c.below.size) (plc_le _ _) (by omega) (by omega) (fun e => by have := (World.ownsRow.lt ho b e).2; omega) (ho.gr c) hbk)
          have HQ := Lib.hid hq
          have HBL := Lib.hid hbl
          have HO := Lib.hid ho
          have hov : ∀ g, (Value.slice A6 (joinTo ps qs k).length c6).ownBlock = some g → g < wr.heap.size := fun g hg => (World.ownsRow.lt ho g hg).2
          have HOV := Lib.hid hov
          have hsz := hbl.size
          have HSC := Lib.hid (joinTo_succ ps qs k hlt)
          rw [HQ.out] at HSC
          clear hq hbl ho hqp hlen hov
          generalize joinTo ps qs k = js at *
          go_upto_region 7 with fail
          have k0 : (wr.alloc (.cells #[.int .i64 q0, .int .i64 q1] 44)).cell? ⟨wr.heap.size, 0, none⟩ = some (.int .i64 q0) := by simp [go_sem]
          have k1 : (wr.alloc (.cells #[.int .i64 q0, .int .i64 q1] 44)).cell? ⟨wr.heap.size, 1, none⟩ = some (.int .i64 q1) := by simp [go_sem]
          go_region_held3 (fun W' => W'.cell? ⟨wr.heap.size, 0, none⟩ = some (.int .i64 q0) ∧ W'.cell? ⟨wr.heap.size, 1, none⟩ = some (.int .i64 q1))
            (first | go_keep | exact ⟨k0, k1⟩ | exact two_k4 (by assumption) hx4.below | exact two_k5 (by assumption) hg6 (fun e => Nat.lt_irrefl _ (HOV.out _ e.symm)) (fun e => Nat.lt_irrefl _ (HOV.out _ e.symm)))
            ((first | (go_at_call 72; refine (HX.out _ (by repeat (first | exact Gr.refl _ | refine Gr.alloc ?_ _ | refine Gr.trans ?_ (by assumption) | refine Gr.drew ?_ | refine Gr.drewN ?_ _ | refine Gr.grow ?_ _ | refine Gr.setCell ?_ (by (try simp); (try omega)) _))).mono ?_; rintro e w4 ⟨rfl, hx4⟩; have sx4 := hx4.below.size; (try simp at sx4)) | (go_at_call 71; refine (HN.out _ (by repeat (first | exact Gr.refl _ | refine Gr.alloc ?_ _ | refine Gr.trans ?_ (by assumption) | refine Gr.drew ?_ | refine Gr.drewN ?_ _ | refine Gr.grow ?_ _ | refine Gr.setCell ?_ (by (try simp); (try omega)) _)) _ ?hb ?hbk).mono ?_; (case hb => (try simp); (try omega)); (case hbk => first | exact heap_new' (by simp) | exact (hx4.below.block _ (by simp)).trans (heap_new' (by simp)) | (refine (hx4.below.block _ ?_).trans ?_ <;> trace_state)); rintro e w6 ⟨v6, rfl, ho6, hb6, hg6⟩)))
          all_goals
            have HO6 := Lib.hid (show OwnP 44 w6 w.heap.size v6 (joinTo ps qs (k + 1)) by rw [HSC.out]; exact ho6)
            have HB6 := Lib.hid (HBL.out.trans (Below.trans (Gr.below (by repeat (first | exact Gr.refl _ | refine Gr.alloc ?_ _ | refine Gr.trans ?_ (by assumption) | refine Gr.drew ?_ | refine Gr.drewN ?_ _ | refine Gr.grow ?_ _ | refine Gr.setCell ?_ (by (try simp); (try omega)) _)) |>.mono hsz) hb6))
            clear ho6 hb6 hg6 hx4 sx4
            go_wp2
            go_roundw
            case rel => exact ⟨HB6.out, k + 1, by omega, by go_num, HO6.out⟩
            case measure => simp [intOf]; omega
        · obtain rfl : k = qs.length := by omega
          have hbO : jnB ps qs = okB (join ps qs) := by unfold jnB; rw [(okB_iff ps).2 HK.out, (okB_iff qs).2 HK2.out]; rfl
          have HBL := Lib.hid hbl
          have HO := Lib.hid ho
          have HV := Lib.hid hbO
          have HM := Lib.hid (show (joinTo ps qs qs.length).length ≤ 1048576 by rw [joinTo_len _ _ _ (Nat.le_refl _)]; omega)
          clear hbl ho hbO
          cases hj : okB (join ps qs)
          · have HAJ := Lib.hid (fun (W : World) (c : Gr wr W) => Try.iArePlates W w.heap.size _ (joinTo ps qs qs.length) false (okB_i _ _ hj) HM.out (HO.out.gr c))
            rw [hj] at HV
            have HVV := Lib.hid (jn_no HV.out)
            clear hj
            generalize joinTo ps qs qs.length = js at *
            go_wp2_with (first | (go_at_call 57; refine (HAJ.out _ (by repeat (first | exact Gr.refl _ | refine Gr.alloc ?_ _ | refine Gr.trans ?_ (by assumption) | refine Gr.drew ?_ | refine Gr.drewN ?_ _ | refine Gr.grow ?_ _ | refine Gr.setCell ?_ (by (try simp); (try omega)) _))).mono ?_; rintro e w7 ⟨rfl, g7⟩))
            go_ret2
            rw [HV.out, HVV.out]
            exact ⟨_, rfl, OwnP.nil _ _ _, HBL.out.trans (Gr.below (by repeat (first | exact Gr.refl _ | refine Gr.alloc ?_ _ | refine Gr.trans ?_ (by assumption) | refine Gr.drew ?_ | refine Gr.drewN ?_ _ | refine Gr.grow ?_ _ | refine Gr.setCell ?_ (by (try simp); (try omega)) _)) |>.mono HBL.out.size)⟩
          · have HAJ := Lib.hid (fun (W : World) (c : Gr wr W) => Try.iArePlates W w.heap.size _ (joinTo ps qs qs.length) true (okB_i _ _ hj) HM.out (HO.out.gr c))
            rw [hj] at HV
            have HVV := Lib.hid (show jnV ps qs = joinTo ps qs qs.length by unfold jnV; rw [if_pos HV.out]; rfl)
            clear hj
            generalize joinTo ps qs qs.length = js at *
            go_wp2_with (first | (go_at_call 57; refine (HAJ.out _ (by repeat (first | exact Gr.refl _ | refine Gr.alloc ?_ _ | refine Gr.trans ?_ (by assumption) | refine Gr.drew ?_ | refine Gr.drewN ?_ _ | refine Gr.grow ?_ _ | refine Gr.setCell ?_ (by (try simp); (try omega)) _))).mono ?_; rintro e w7 ⟨rfl, g7⟩))
            go_ret2
            rw [HV.out, HVV.out]
            exact ⟨_, rfl, HO.out.gr (by repeat (first | exact Gr.refl _ | refine Gr.alloc ?_ _ | refine Gr.trans ?_ (by assumption) | refine Gr.drew ?_ | refine Gr.drewN ?_ _ | refine Gr.grow ?_ _ | refine Gr.setCell ?_ (by (try simp); (try omega)) _)), HBL.out.trans (Gr.below (by repeat (first | exact Gr.refl _ | refine Gr.alloc ?_ _ | refine Gr.trans ?_ (by assumption) | refine Gr.drew ?_ | refine Gr.drewN ?_ _ | refine Gr.grow ?_ _ | refine Gr.setCell ?_ (by (try simp); (try omega)) _)) |>.mono HBL.out.size)⟩
/-! ## One plate more; the next of one -/
set_option maxRecDepth 100000 in
set_option maxHeartbeats 1600000 in
theorem Try.iAddPlate (w : World) (B : Nat) (v : Value) (ps : List Pi2) (p0 p1 : Int) (hl : ps.length ≤ 1048576) (h : OwnP 44 w B v ps) :
    Calls Try.prog 33 #[v, .agg #[.int .i64 p0, .int .i64 p1]] w fun e w' => ∃ v', e = .returned (.tuple #[v', .bool (adB ps (p0, p1))]) ∧ OwnP 44 w' w.heap.size v' (adV ps (p0, p1)) ∧ Below w.heap.size w w' := by
  have mixed : Try.prog.follows .mixedOrders = true := by kernel_rfl
  obtain ⟨j1, j2⟩ := jn_ad ps (p0, p1)
  have HJ := Lib.hid (fun (W : World) (c : Gr w W) (b : Nat) (hb : W.heap[b]? = some (.cells #[.int .i64 p0, .int .i64 p1] 44 (0, 0))) =>
    Try.iJoinPlates W B v ps 0 (.slice (some ⟨b, 0, none⟩) 1 1) [(p0, p1)] hl (by simp) (h.gr c) (show OwnP 44 W 0 (.slice (some ⟨b, 0, none⟩) 1 1) [(p0, p1)] from own_of (c := 1) (row := [.int .i64 p0, .int .i64 p1]) hb (Nat.zero_le _) rfl (Nat.le_refl _) (by decide) rfl (fun j hj => rfl)))
  rw [j1, j2] at HJ
  have HB := Lib.hid (fun (W : World) (c : Gr w W) => c.below)
  obtain ⟨A, c, rfl, _⟩ := h.eta
  clear h j1 j2
  go_enter Try.func33, Try.ntmps33
  go_wp2_with (first | (go_at_call 37; refine (HJ.out _ (by repeat (first | exact Gr.refl _ | refine Gr.alloc ?_ _ | refine Gr.trans ?_ (by assumption) | refine Gr.drew ?_ | refine Gr.drewN ?_ _ | refine Gr.grow ?_ _ | refine Gr.setCell ?_ (by (try simp); (try omega)) _)) _ (heap_new' (by simp))).mono ?_; rintro e w3 ⟨v3, rfl, ho3, hb3⟩))
  go_ret2
  exact ⟨_, rfl, OwnP.mono ho3 (by simp; omega), Below.trans (Gr.below (by repeat (first | exact Gr.refl _ | refine Gr.alloc ?_ _ | refine Gr.trans ?_ (by assumption) | refine Gr.drew ?_ | refine Gr.drewN ?_ _ | refine Gr.grow ?_ _ | refine Gr.setCell ?_ (by (try simp); (try omega)) _))) (hb3.mono (by simp; omega))⟩
set_option maxRecDepth 100000 in
set_option maxHeartbeats 1600000 in
theorem Try.sAddPlate (w : World) (B : Nat) (v : Value) (ps : List Pi2) (p0 p1 : Int) (hl : ps.length ≤ 1048576) (h : OwnP 44 w B v ps) :
    Calls Try.prog 32 #[v, .agg #[.int .i64 p0, .int .i64 p1]] w fun e w' => ∃ v', e = .returned (.tuple #[v', .bool (adB ps (p0, p1))]) ∧ OwnP 44 w' w.heap.size v' (adV ps (p0, p1)) ∧ Below w.heap.size w w' := by
  cases hg : okB ps
  · have hB : adB ps (p0, p1) = false := by simp [adB, hg]
    have HA := Lib.hid (fun (W : World) (k : Gr w W) => Try.isGood W B v ps false (okB_i ps _ hg) hl (h.gr k))
    rw [show adV ps (p0, p1) = [] by simp [adV, hB], hB]
    obtain ⟨A, c, rfl, h⟩ := h.eta
    clear h hg hB
    go_enter Try.func32, Try.ntmps32
    go_wp2_with (first | (go_at_call 54; refine (HA.out _ (by repeat (first | exact Gr.refl _ | refine Gr.alloc ?_ _ | refine Gr.trans ?_ (by assumption) | refine Gr.drew ?_ | refine Gr.drewN ?_ _ | refine Gr.grow ?_ _ | refine Gr.setCell ?_ (by (try simp); (try omega)) _))).mono ?_; rintro e w1 ⟨rfl, hbW⟩; have hcW := (bcell hbW.below).1; have hfW := (bcell hbW.below).2; (try have hzW : w.heap.size < w1.heap.size := by have hq := hbW.below.size; (try simp at hq); omega); (try have hyW : w.heap.size + 1 < w1.heap.size := by have hq := hbW.below.size; (try simp at hq); omega); (try have hxW : w.heap.size + 2 < w1.heap.size := by have hq := hbW.below.size; (try simp at hq); omega)))
    go_ret2
    exact ⟨_, rfl, OwnP.nil _ _ _, Gr.below (by repeat (first | exact Gr.refl _ | refine Gr.alloc ?_ _ | refine Gr.trans ?_ (by assumption) | refine Gr.drew ?_ | refine Gr.drewN ?_ _ | refine Gr.grow ?_ _ | refine Gr.setCell ?_ (by (try simp); (try omega)) _))⟩
  · have HA := Lib.hid (fun (W : World) (k : Gr w W) => Try.isGood W B v ps true (okB_i ps _ hg) hl (h.gr k))
    cases hp : isP p0 p1
    · have hB : adB ps (p0, p1) = false := by simp [adB, hp]
      have HP := Lib.hid hp
      rw [show adV ps (p0, p1) = [] by simp [adV, hB], hB]
      obtain ⟨A, c, rfl, h⟩ := h.eta
      clear h hg hB hp
      go_enter Try.func32, Try.ntmps32
      go_wp2_with (first | (go_at_call 54; refine (HA.out _ (by repeat (first | exact Gr.refl _ | refine Gr.alloc ?_ _ | refine Gr.trans ?_ (by assumption) | refine Gr.drew ?_ | refine Gr.drewN ?_ _ | refine Gr.grow ?_ _ | refine Gr.setCell ?_ (by (try simp); (try omega)) _))).mono ?_; rintro e w1 ⟨rfl, hbW⟩; have hcW := (bcell hbW.below).1; have hfW := (bcell hbW.below).2; (try have hzW : w.heap.size < w1.heap.size := by have hq := hbW.below.size; (try simp at hq); omega); (try have hyW : w.heap.size + 1 < w1.heap.size := by have hq := hbW.below.size; (try simp at hq); omega); (try have hxW : w.heap.size + 2 < w1.heap.size := by have hq := hbW.below.size; (try simp at hq); omega)) | (go_at_call 55; refine (Try.isPlate _ _ _ HP.out _).mono ?_; rintro e w1 ⟨rfl, hbW⟩; have hcW := (bcell hbW.below).1; have hfW := (bcell hbW.below).2; (try have hzW : w.heap.size < w1.heap.size := by have hq := hbW.below.size; (try simp at hq); omega); (try have hyW : w.heap.size + 1 < w1.heap.size := by have hq := hbW.below.size; (try simp at hq); omega); (try have hxW : w.heap.size + 2 < w1.heap.size := by have hq := hbW.below.size; (try simp at hq); omega)))
      go_ret2
      exact ⟨_, rfl, OwnP.nil _ _ _, Gr.below (by repeat (first | exact Gr.refl _ | refine Gr.alloc ?_ _ | refine Gr.trans ?_ (by assumption) | refine Gr.drew ?_ | refine Gr.drewN ?_ _ | refine Gr.grow ?_ _ | refine Gr.setCell ?_ (by (try simp); (try omega)) _))⟩
    · have HP := Lib.hid hp
      have hok := (okB_iff ps).1 hg
      obtain ⟨e1, e2⟩ := ad_ia (p := (p0, p1)) hg hp
      have HI := Lib.hid (fun (W : World) (k : Gr w W) => Try.isAdd W B v ps p0 p1 hok.2.2.1 hp hok.1 hl (h.gr k))
      rw [e1, e2]
      obtain ⟨A, c, rfl, h⟩ := h.eta
      clear h hg hp e1 e2 hok
      go_enter Try.func32, Try.ntmps32
      go_wp2_with (first | (go_at_call 54; refine (HA.out _ (by repeat (first | exact Gr.refl _ | refine Gr.alloc ?_ _ | refine Gr.trans ?_ (by assumption) | refine Gr.drew ?_ | refine Gr.drewN ?_ _ | refine Gr.grow ?_ _ | refine Gr.setCell ?_ (by (try simp); (try omega)) _))).mono ?_; rintro e w1 ⟨rfl, hbW⟩; have hcW := (bcell hbW.below).1; have hfW := (bcell hbW.below).2; (try have hzW : w.heap.size < w1.heap.size := by have hq := hbW.below.size; (try simp at hq); omega); (try have hyW : w.heap.size + 1 < w1.heap.size := by have hq := hbW.below.size; (try simp at hq); omega); (try have hxW : w.heap.size + 2 < w1.heap.size := by have hq := hbW.below.size; (try simp at hq); omega)) | (go_at_call 55; refine (Try.isPlate _ _ _ HP.out _).mono ?_; rintro e w1 ⟨rfl, hbW⟩; have hcW := (bcell hbW.below).1; have hfW := (bcell hbW.below).2; (try have hzW : w.heap.size < w1.heap.size := by have hq := hbW.below.size; (try simp at hq); omega); (try have hyW : w.heap.size + 1 < w1.heap.size := by have hq := hbW.below.size; (try simp at hq); omega); (try have hxW : w.heap.size + 2 < w1.heap.size := by have hq := hbW.below.size; (try simp at hq); omega)) | (go_at_call 65; refine (HI.out _ (by repeat (first | exact Gr.refl _ | refine Gr.alloc ?_ _ | refine Gr.trans ?_ (by assumption) | refine Gr.drew ?_ | refine Gr.drewN ?_ _ | refine Gr.grow ?_ _ | refine Gr.setCell ?_ (by (try simp); (try omega)) _))).mono ?_; rintro e w4 ⟨v4, rfl, ho4, hb4⟩))
      go_ret2
      exact ⟨_, rfl, OwnP.mono ho4 (Gr.below (by repeat (first | exact Gr.refl _ | refine Gr.alloc ?_ _ | refine Gr.trans ?_ (by assumption) | refine Gr.drew ?_ | refine Gr.drewN ?_ _ | refine Gr.grow ?_ _ | refine Gr.setCell ?_ (by (try simp); (try omega)) _))).size, Below.trans (Gr.below (by repeat (first | exact Gr.refl _ | refine Gr.alloc ?_ _ | refine Gr.trans ?_ (by assumption) | refine Gr.drew ?_ | refine Gr.drewN ?_ _ | refine Gr.grow ?_ _ | refine Gr.setCell ?_ (by (try simp); (try omega)) _))) (hb4.mono (Gr.below (by repeat (first | exact Gr.refl _ | refine Gr.alloc ?_ _ | refine Gr.trans ?_ (by assumption) | refine Gr.drew ?_ | refine Gr.drewN ?_ _ | refine Gr.grow ?_ _ | refine Gr.setCell ?_ (by (try simp); (try omega)) _))).size)⟩
set_option maxRecDepth 100000 in
set_option maxHeartbeats 1600000 in
theorem Try.iInsertBehind (w : World) (B : Nat) (v : Value) (ps : List Pi2) (k : Int) (hl : ps.length ≤ 1048576) (h : OwnP 44 w B v ps) :
    Calls Try.prog 29 #[v, .int .i64 k] w fun e w' => ∃ v', e = .returned (.tuple #[v', .bool (ibB ps k)]) ∧ OwnP 44 w' w.heap.size v' (ibV ps k) ∧ Below w.heap.size w w' := by
  cases ha : askB ps k
  · have hB : ibB ps k = false := by simp [ibB, ha]
    have HA := Lib.hid (fun (W : World) (c : Gr w W) => Try.haveIndex W B v ps k false ha hl (h.gr c))
    rw [ib_no hB, hB]
    obtain ⟨A, c, rfl, h⟩ := h.eta
    clear h ha hB
    go_enter Try.func29, Try.ntmps29
    go_wp2_with (first | (go_at_call 66; refine (HA.out _ (by repeat (first | exact Gr.refl _ | refine Gr.alloc ?_ _ | refine Gr.trans ?_ (by assumption) | refine Gr.drew ?_ | refine Gr.drewN ?_ _ | refine Gr.grow ?_ _ | refine Gr.setCell ?_ (by (try simp); (try omega)) _))).mono ?_; rintro e w1 ⟨rfl, hbW⟩; have hcW := (bcell hbW.below).1; have hfW := (bcell hbW.below).2; (try have hzW : w.heap.size < w1.heap.size := by have hq := hbW.below.size; (try simp at hq); omega); (try have hyW : w.heap.size + 1 < w1.heap.size := by have hq := hbW.below.size; (try simp at hq); omega); (try have hxW : w.heap.size + 2 < w1.heap.size := by have hq := hbW.below.size; (try simp at hq); omega)))
    go_ret2
    exact ⟨_, rfl, OwnP.nil _ _ _, Gr.below (by repeat (first | exact Gr.refl _ | refine Gr.alloc ?_ _ | refine Gr.trans ?_ (by assumption) | refine Gr.drew ?_ | refine Gr.drewN ?_ _ | refine Gr.grow ?_ _ | refine Gr.setCell ?_ (by (try simp); (try omega)) _))⟩
  · have HA := Lib.hid (fun (W : World) (c : Gr w W) => Try.haveIndex W B v ps k true ha hl (h.gr c))
    obtain ⟨e1, e2⟩ := ib_ad ha
    obtain ⟨hok, m, hkm, hm⟩ := askB_t ha
    subst hkm
    rcases hq : ps.getD m (0, 0) with ⟨q0, q1⟩
    have eP : ibP ps (m : Int) = nx q0 q1 := by unfold ibP; rw [show ((m : Int)).toNat = m by omega, hq]
    have hqp : isP q0 q1 = true := decide_eq_true (at_isP hok.2.2.1 hm hq)
    rw [e1, e2, eP]
    have hz := ps.length
    rcases h.view with ⟨hz, _⟩ | ⟨_, g, c, rfl, _, g2, _, _, hc, _⟩
    · subst hz; simp at hm
    · obtain ⟨f0, f1⟩ := hc m hm
      rw [hq] at f0 f1
      simp only at f0 f1
      have z0 : (0 : Int) ≤ (m : Int) := by omega
      have z1 : (m : Int) < (ps.length : Int) := by omega
      have hnx := Try.iNextPlate q0 q1
      have eB : nxB q0 q1 = isP (nx q0 q1).1 (nx q0 q1).2 := by simp [nxB, hqp]
      have HC := Lib.hid hc
      cases hn : isP (nx q0 q1).1 (nx q0 q1).2
      · rw [hn] at eB
        have hB : adB ps (nx q0 q1) = false := by simp [adB, hn]
        rw [show adV ps (nx q0 q1) = [] by simp [adV, hB], hB]
        rw [show nxV q0 q1 = (0, 0) by simp [nxV, eB], eB] at hnx
        have HX := Lib.hid hnx
        clear h ha e1 e2 eP hq hqp hc eB hB hn hnx hok
        go_enter Try.func29, Try.ntmps29
        go_wp2_with (first | (go_at_call 66; refine (HA.out _ (by repeat (first | exact Gr.refl _ | refine Gr.alloc ?_ _ | refine Gr.trans ?_ (by assumption) | refine Gr.drew ?_ | refine Gr.drewN ?_ _ | refine Gr.grow ?_ _ | refine Gr.setCell ?_ (by (try simp); (try omega)) _))).mono ?_; rintro e w1 ⟨rfl, hbW⟩; have hcW := (bcell hbW.below).1; have hfW := (bcell hbW.below).2; (try have hzW : w.heap.size < w1.heap.size := by have hq := hbW.below.size; (try simp at hq); omega); (try have hyW : w.heap.size + 1 < w1.heap.size := by have hq := hbW.below.size; (try simp at hq); omega); (try have hxW : w.heap.size + 2 < w1.heap.size := by have hq := hbW.below.size; (try simp at hq); omega)) | (go_at_call 67; refine (HX.out _).mono ?_; rintro e w1 ⟨rfl, hbW⟩; have hcW := (bcell hbW.below).1; have hfW := (bcell hbW.below).2; (try have hzW : w.heap.size < w1.heap.size := by have hq := hbW.below.size; (try simp at hq); omega); (try have hyW : w.heap.size + 1 < w1.heap.size := by have hq := hbW.below.size; (try simp at hq); omega); (try have hxW : w.heap.size + 2 < w1.heap.size := by have hq := hbW.below.size; (try simp at hq); omega)))
        go_ret2
        exact ⟨_, rfl, OwnP.nil _ _ _, Gr.below (by repeat (first | exact Gr.refl _ | refine Gr.alloc ?_ _ | refine Gr.trans ?_ (by assumption) | refine Gr.drew ?_ | refine Gr.drewN ?_ _ | refine Gr.grow ?_ _ | refine Gr.setCell ?_ (by (try simp); (try omega)) _))⟩
      · rw [hn] at eB
        rw [show nxV q0 q1 = nx q0 q1 by simp [nxV, eB], eB] at hnx
        rcases hv : nx q0 q1 with ⟨n0, n1⟩
        rw [hv] at hnx
        have HD := Lib.hid (fun (W : World) (k : Gr w W) => Try.iAddPlate W B _ ps n0 n1 hl (h.gr k))
        have HX := Lib.hid hnx
        clear h ha e1 e2 eP hq hqp hc eB hn hnx hok hv
        go_enter Try.func29, Try.ntmps29
        go_wp2_with (first | (go_at_call 66; refine (HA.out _ (by repeat (first | exact Gr.refl _ | refine Gr.alloc ?_ _ | refine Gr.trans ?_ (by assumption) | refine Gr.drew ?_ | refine Gr.drewN ?_ _ | refine Gr.grow ?_ _ | refine Gr.setCell ?_ (by (try simp); (try omega)) _))).mono ?_; rintro e w1 ⟨rfl, hbW⟩; have hcW := (bcell hbW.below).1; have hfW := (bcell hbW.below).2; (try have hzW : w.heap.size < w1.heap.size := by have hq := hbW.below.size; (try simp at hq); omega); (try have hyW : w.heap.size + 1 < w1.heap.size := by have hq := hbW.below.size; (try simp at hq); omega); (try have hxW : w.heap.size + 2 < w1.heap.size := by have hq := hbW.below.size; (try simp at hq); omega)) | (go_at_call 67; refine (HX.out _).mono ?_; rintro e w1 ⟨rfl, hbW⟩; have hcW := (bcell hbW.below).1; have hfW := (bcell hbW.below).2; (try have hzW : w.heap.size < w1.heap.size := by have hq := hbW.below.size; (try simp at hq); omega); (try have hyW : w.heap.size + 1 < w1.heap.size := by have hq := hbW.below.size; (try simp at hq); omega); (try have hxW : w.heap.size + 2 < w1.heap.size := by have hq := hbW.below.size; (try simp at hq); omega)) | (go_at_call 33; refine (HD.out _ (by repeat (first | exact Gr.refl _ | refine Gr.alloc ?_ _ | refine Gr.trans ?_ (by assumption) | refine Gr.drew ?_ | refine Gr.drewN ?_ _ | refine Gr.grow ?_ _ | refine Gr.setCell ?_ (by (try simp); (try omega)) _))).mono ?_; rintro e w4 ⟨v4, rfl, ho4, hb4⟩))
        go_ret2
        exact ⟨_, rfl, OwnP.mono ho4 (Gr.below (by repeat (first | exact Gr.refl _ | refine Gr.alloc ?_ _ | refine Gr.trans ?_ (by assumption) | refine Gr.drew ?_ | refine Gr.drewN ?_ _ | refine Gr.grow ?_ _ | refine Gr.setCell ?_ (by (try simp); (try omega)) _))).size, Below.trans (Gr.below (by repeat (first | exact Gr.refl _ | refine Gr.alloc ?_ _ | refine Gr.trans ?_ (by assumption) | refine Gr.drew ?_ | refine Gr.drewN ?_ _ | refine Gr.grow ?_ _ | refine Gr.setCell ?_ (by (try simp); (try omega)) _))) (hb4.mono (Gr.below (by repeat (first | exact Gr.refl _ | refine Gr.alloc ?_ _ | refine Gr.trans ?_ (by assumption) | refine Gr.drew ?_ | refine Gr.drewN ?_ _ | refine Gr.grow ?_ _ | refine Gr.setCell ?_ (by (try simp); (try omega)) _))).size)⟩
set_option maxRecDepth 100000 in
set_option maxHeartbeats 1600000 in
theorem Try.sInsertBehind (w : World) (B : Nat) (v : Value) (ps : List Pi2) (k : Int) (hl : ps.length ≤ 1048576) (h : OwnP 44 w B v ps) :
    Calls Try.prog 28 #[v, .int .i64 k] w fun e w' => ∃ v', e = .returned (.tuple #[v', .bool (ibB ps k)]) ∧ OwnP 44 w' w.heap.size v' (ibV ps k) ∧ Below w.heap.size w w' := by
  cases ha : askB ps k
  · have hB : ibB ps k = false := by simp [ibB, ha]
    have HA := Lib.hid (fun (W : World) (c : Gr w W) => Try.isAsked W B v ps k false ha hl (h.gr c))
    rw [ib_no hB, hB]
    obtain ⟨A, c, rfl, h⟩ := h.eta
    clear h ha hB
    go_enter Try.func28, Try.ntmps28
    go_wp2_with (first | (go_at_call 62; refine (HA.out _ (by repeat (first | exact Gr.refl _ | refine Gr.alloc ?_ _ | refine Gr.trans ?_ (by assumption) | refine Gr.drew ?_ | refine Gr.drewN ?_ _ | refine Gr.grow ?_ _ | refine Gr.setCell ?_ (by (try simp); (try omega)) _))).mono ?_; rintro e w1 ⟨rfl, hbW⟩; have hcW := (bcell hbW.below).1; have hfW := (bcell hbW.below).2; (try have hzW : w.heap.size < w1.heap.size := by have hq := hbW.below.size; (try simp at hq); omega); (try have hyW : w.heap.size + 1 < w1.heap.size := by have hq := hbW.below.size; (try simp at hq); omega); (try have hxW : w.heap.size + 2 < w1.heap.size := by have hq := hbW.below.size; (try simp at hq); omega)))
    go_ret2
    exact ⟨_, rfl, OwnP.nil _ _ _, Gr.below (by repeat (first | exact Gr.refl _ | refine Gr.alloc ?_ _ | refine Gr.trans ?_ (by assumption) | refine Gr.drew ?_ | refine Gr.drewN ?_ _ | refine Gr.grow ?_ _ | refine Gr.setCell ?_ (by (try simp); (try omega)) _))⟩
  · have HA := Lib.hid (fun (W : World) (c : Gr w W) => Try.isAsked W B v ps k true ha hl (h.gr c))
    obtain ⟨e1, e2⟩ := ib_ad ha
    obtain ⟨hok, m, hkm, hm⟩ := askB_t ha
    subst hkm
    rcases hq : ps.getD m (0, 0) with ⟨q0, q1⟩
    have eP : ibP ps (m : Int) = nx q0 q1 := by unfold ibP; rw [show ((m : Int)).toNat = m by omega, hq]
    have hqp : isP q0 q1 = true := decide_eq_true (at_isP hok.2.2.1 hm hq)
    obtain ⟨a1, a2, a3, a4⟩ := isP_t hqp
    have hrb := rk_bd (of_decide_eq_true (p := IsP (q0, q1)) hqp)
    rw [e1, e2, eP]
    rcases h.view with ⟨hz, _⟩ | ⟨_, g, c, rfl, _, g2, _, _, hc, _⟩
    · subst hz; simp at hm
    · obtain ⟨f0, f1⟩ := hc m hm
      rw [hq] at f0 f1
      simp only at f0 f1
      have z0 : (0 : Int) ≤ (m : Int) := by omega
      have z1 : (m : Int) < (ps.length : Int) := by omega
      have hof := Try.isOf (rk (q0, q1) + 1) (by omega) (by omega)
      rw [show iof (rk (q0, q1) + 1) = nx q0 q1 from rfl] at hof
      have HC := Lib.hid hc
      have wr : IntKind.i64.wrap (rk (q0, q1) + 1) = rk (q0, q1) + 1 := by rw [IntKind.wrap_i64]; omega
      rcases hv : nx q0 q1 with ⟨n0, n1⟩
      rw [hv] at hof
      have HX := Lib.hid hof
      have hok3 := hok.2.2.1
      have hok1 := hok.1
      cases hn : isP n0 n1
      · have hB : adB ps (n0, n1) = false := by simp [adB, hn]
        rw [show adV ps (n0, n1) = [] by simp [adV, hB], hB]
        have HP := Lib.hid hn
        clear h ha e1 e2 eP hq hqp hc hB hn hok hv hof hok3
        go_enter Try.func28, Try.ntmps28
        go_wp2_with (first | (go_at_call 62; refine (HA.out _ (by repeat (first | exact Gr.refl _ | refine Gr.alloc ?_ _ | refine Gr.trans ?_ (by assumption) | refine Gr.drew ?_ | refine Gr.drewN ?_ _ | refine Gr.grow ?_ _ | refine Gr.setCell ?_ (by (try simp); (try omega)) _))).mono ?_; rintro e w1 ⟨rfl, hbW⟩; have hcW := (bcell hbW.below).1; have hfW := (bcell hbW.below).2; (try have hzW : w.heap.size < w1.heap.size := by have hq := hbW.below.size; (try simp at hq); omega); (try have hyW : w.heap.size + 1 < w1.heap.size := by have hq := hbW.below.size; (try simp at hq); omega); (try have hxW : w.heap.size + 2 < w1.heap.size := by have hq := hbW.below.size; (try simp at hq); omega)) | (go_at_call 64; refine (Try.isRank _ _ (by omega) (by omega) (by omega) (by omega) _).mono ?_; rintro e w1 ⟨rfl, hbW⟩; have hcW := (bcell hbW.below).1; have hfW := (bcell hbW.below).2; (try have hzW : w.heap.size < w1.heap.size := by have hq := hbW.below.size; (try simp at hq); omega); (try have hyW : w.heap.size + 1 < w1.heap.size := by have hq := hbW.below.size; (try simp at hq); omega); (try have hxW : w.heap.size + 2 < w1.heap.size := by have hq := hbW.below.size; (try simp at hq); omega)) | (go_at_call 63; refine (HX.out _).mono ?_; rintro e w1 ⟨rfl, hbW⟩; have hcW := (bcell hbW.below).1; have hfW := (bcell hbW.below).2; (try have hzW : w.heap.size < w1.heap.size := by have hq := hbW.below.size; (try simp at hq); omega); (try have hyW : w.heap.size + 1 < w1.heap.size := by have hq := hbW.below.size; (try simp at hq); omega); (try have hxW : w.heap.size + 2 < w1.heap.size := by have hq := hbW.below.size; (try simp at hq); omega)) | (go_at_call 55; refine (Try.isPlate _ _ _ HP.out _).mono ?_; rintro e w1 ⟨rfl, hbW⟩; have hcW := (bcell hbW.below).1; have hfW := (bcell hbW.below).2; (try have hzW : w.heap.size < w1.heap.size := by have hq := hbW.below.size; (try simp at hq); omega); (try have hyW : w.heap.size + 1 < w1.heap.size := by have hq := hbW.below.size; (try simp at hq); omega); (try have hxW : w.heap.size + 2 < w1.heap.size := by have hq := hbW.below.size; (try simp at hq); omega)))
        go_ret2
        exact ⟨_, rfl, OwnP.nil _ _ _, Gr.below (by repeat (first | exact Gr.refl _ | refine Gr.alloc ?_ _ | refine Gr.trans ?_ (by assumption) | refine Gr.drew ?_ | refine Gr.drewN ?_ _ | refine Gr.grow ?_ _ | refine Gr.setCell ?_ (by (try simp); (try omega)) _))⟩
      · obtain ⟨d1, d2⟩ := ad_ia (p := (n0, n1)) ((okB_iff ps).2 hok) hn
        rw [d1, d2]
        have HP := Lib.hid hn
        have HI := Lib.hid (fun (W : World) (k : Gr w W) => Try.isAdd W B _ ps n0 n1 hok3 hn hok1 hl (h.gr k))
        clear h ha e1 e2 eP hq hqp hc hn hok hv hof hok3 d1 d2
        go_enter Try.func28, Try.ntmps28
        go_wp2_with (first | (go_at_call 62; refine (HA.out _ (by repeat (first | exact Gr.refl _ | refine Gr.alloc ?_ _ | refine Gr.trans ?_ (by assumption) | refine Gr.drew ?_ | refine Gr.drewN ?_ _ | refine Gr.grow ?_ _ | refine Gr.setCell ?_ (by (try simp); (try omega)) _))).mono ?_; rintro e w1 ⟨rfl, hbW⟩; have hcW := (bcell hbW.below).1; have hfW := (bcell hbW.below).2; (try have hzW : w.heap.size < w1.heap.size := by have hq := hbW.below.size; (try simp at hq); omega); (try have hyW : w.heap.size + 1 < w1.heap.size := by have hq := hbW.below.size; (try simp at hq); omega); (try have hxW : w.heap.size + 2 < w1.heap.size := by have hq := hbW.below.size; (try simp at hq); omega)) | (go_at_call 64; refine (Try.isRank _ _ (by omega) (by omega) (by omega) (by omega) _).mono ?_; rintro e w1 ⟨rfl, hbW⟩; have hcW := (bcell hbW.below).1; have hfW := (bcell hbW.below).2; (try have hzW : w.heap.size < w1.heap.size := by have hq := hbW.below.size; (try simp at hq); omega); (try have hyW : w.heap.size + 1 < w1.heap.size := by have hq := hbW.below.size; (try simp at hq); omega); (try have hxW : w.heap.size + 2 < w1.heap.size := by have hq := hbW.below.size; (try simp at hq); omega)) | (go_at_call 63; refine (HX.out _).mono ?_; rintro e w1 ⟨rfl, hbW⟩; have hcW := (bcell hbW.below).1; have hfW := (bcell hbW.below).2; (try have hzW : w.heap.size < w1.heap.size := by have hq := hbW.below.size; (try simp at hq); omega); (try have hyW : w.heap.size + 1 < w1.heap.size := by have hq := hbW.below.size; (try simp at hq); omega); (try have hxW : w.heap.size + 2 < w1.heap.size := by have hq := hbW.below.size; (try simp at hq); omega)) | (go_at_call 55; refine (Try.isPlate _ _ _ HP.out _).mono ?_; rintro e w1 ⟨rfl, hbW⟩; have hcW := (bcell hbW.below).1; have hfW := (bcell hbW.below).2; (try have hzW : w.heap.size < w1.heap.size := by have hq := hbW.below.size; (try simp at hq); omega); (try have hyW : w.heap.size + 1 < w1.heap.size := by have hq := hbW.below.size; (try simp at hq); omega); (try have hxW : w.heap.size + 2 < w1.heap.size := by have hq := hbW.below.size; (try simp at hq); omega)) | (go_at_call 65; refine (HI.out _ (by repeat (first | exact Gr.refl _ | refine Gr.alloc ?_ _ | refine Gr.trans ?_ (by assumption) | refine Gr.drew ?_ | refine Gr.drewN ?_ _ | refine Gr.grow ?_ _ | refine Gr.setCell ?_ (by (try simp); (try omega)) _))).mono ?_; rintro e w4 ⟨v4, rfl, ho4, hb4⟩))
        go_ret2
        exact ⟨_, rfl, OwnP.mono ho4 (Gr.below (by repeat (first | exact Gr.refl _ | refine Gr.alloc ?_ _ | refine Gr.trans ?_ (by assumption) | refine Gr.drew ?_ | refine Gr.drewN ?_ _ | refine Gr.grow ?_ _ | refine Gr.setCell ?_ (by (try simp); (try omega)) _))).size, Below.trans (Gr.below (by repeat (first | exact Gr.refl _ | refine Gr.alloc ?_ _ | refine Gr.trans ?_ (by assumption) | refine Gr.drew ?_ | refine Gr.drewN ?_ _ | refine Gr.grow ?_ _ | refine Gr.setCell ?_ (by (try simp); (try omega)) _))) (hb4.mono (Gr.below (by repeat (first | exact Gr.refl _ | refine Gr.alloc ?_ _ | refine Gr.trans ?_ (by assumption) | refine Gr.drew ?_ | refine Gr.drewN ?_ _ | refine Gr.grow ?_ _ | refine Gr.setCell ?_ (by (try simp); (try omega)) _))).size)⟩
end Go.Proofs
