/-
  Contracts of chapter 2: the plate of a text (the model's).
-/
import Derived.Test.YtcmlojidcpomjaaDoorPlX
import Derived.Test.YtcmlojidcpomjaaDoorRead
import Derived.Test.YtcmlojidcpomjaaDoorQTail
import Derived.Deep.RegionHeld3
import Derived.Deep.DeepCutAuto
namespace Pl
/-- the letter that a byte stands for, or 0 -/
def lt (c : UInt8) : Int := if 97 ≤ c.toNat ∧ c.toNat ≤ 122 then (c.toNat : Int) - 96 else 0
def lastB (l : List UInt8) : UInt8 := l.getLastD 0
def bodyB (l : List UInt8) : List UInt8 := if lt (lastB l) = 0 then l else l.dropLast
def ppN (l : List UInt8) : Int := Rd.rd (bodyB l)
def ppL (l : List UInt8) : Int := lt (lastB l)
theorem lt_bd (c : UInt8) : 0 ≤ lt c ∧ lt c ≤ 26 := by unfold lt; split <;> omega
end Pl
namespace Go.Proofs
open Go.RowKit Pl
set_option linter.unusedVariables false
set_option linter.unusedSimpArgs false
def ppB (l : List UInt8) : Bool := decide (1 ≤ l.length ∧ l.length ≤ 5) && isP (ppN l) (ppL l)
def ppV (l : List UInt8) : Int × Int := if ppB l then (ppN l, ppL l) else (0, 0)
theorem ltr_lt {c : UInt8} (h : lt c ≠ 0) : ltr (lt c) = ⟨#[c]⟩ := by
  unfold ltr
  rw [if_neg h]
  have q : 97 ≤ c.toNat ∧ c.toNat ≤ 122 := Classical.byContradiction fun q => h (by unfold lt; rw [if_neg q])
  have e : UInt8.ofNat (96 + (lt c).toNat) = c := by
    unfold lt
    rw [if_pos q]
    apply UInt8.toNat_inj.1
    rw [show (96 + ((c.toNat : Int) - 96).toNat) = c.toNat by omega]
    simp
  rw [e]
/-- a text with a plate is the plate's text -/
theorem pp_text {l : List UInt8} {n : Int} (h0 : 1 ≤ l.length) (hb : bodyB l = Lib.decDigits n.toNat) : (⟨(Lib.decDigits n.toNat).toArray⟩ : ByteArray) ++ ltr (ppL l) = ⟨l.toArray⟩ := by
  rw [← hb]
  unfold ppL bodyB
  by_cases e : lt (lastB l) = 0
  · rw [if_pos e, e]
    unfold ltr
    rw [if_pos rfl]
    apply ByteArray.ext
    simp
  · rw [if_neg e, ltr_lt e]
    apply ByteArray.ext
    have hne : l ≠ [] := by intro q; subst q; simp at h0
    have hl : l.dropLast ++ [lastB l] = l := by
      unfold lastB
      rw [List.getLastD_eq_getLast?, List.getLast?_eq_some_getLast hne]
      exact List.dropLast_concat_getLast hne
    conv => rhs; rw [← hl]
    simp
theorem pp_is {l : List UInt8} (h0 : 1 ≤ l.length) (h : isP (ppN l) (ppL l) = true) : bodyB l = Lib.decDigits (ppN l).toNat ∧ (⟨(Lib.decDigits (ppN l).toNat).toArray⟩ : ByteArray) ++ ltr (ppL l) = ⟨l.toArray⟩ := by
  obtain ⟨a, b, c, d⟩ := isP_t h
  have e := (Rd.rd_is (bodyB l) (ppN l) rfl (by omega)).1
  exact ⟨e, pp_text h0 e⟩
theorem last_is (t : ByteArray) (h : 0 < t.size) : lastB t.data.toList = t[t.size - 1] := by
  unfold lastB
  have hl : t.data.toList.length = t.size := by simp
  rw [List.getLastD_eq_getLast?, List.getLast?_eq_getElem?, hl]
  rw [List.getElem?_eq_getElem (by rw [hl]; omega)]
  rfl
theorem body_cut (t : ByteArray) (h : 0 < t.size) (e : lt (lastB t.data.toList) ≠ 0) : (t.extract 0 (t.size - 1)).data.toList = bodyB t.data.toList := by
  rw [Lib.extract_data]
  unfold bodyB
  rw [if_neg e]
  have hl : t.data.toList.length = t.size := by simp
  rw [List.dropLast_eq_take, hl]
  simp
theorem mk_data (t : ByteArray) : (⟨t.data.toList.toArray⟩ : ByteArray) = t := by simp
theorem bx2 (w : World) (c d : Value) (t : TypeId) : (∀ n os, (Go.Sort.grow (((w.alloc (.cells #[.int .i64 0, .int .i64 0] t)).alloc (.cells #[c, d] t)).drewN n) os).cell? ⟨w.heap.size + 1, 0, none⟩ = some c) ∧ (∀ n os, (Go.Sort.grow (((w.alloc (.cells #[.int .i64 0, .int .i64 0] t)).alloc (.cells #[c, d] t)).drewN n) os).cell? ⟨w.heap.size + 1, 1, none⟩ = some d) := by
  have h := box2 (w.alloc (.cells #[.int .i64 0, .int .i64 0] t)) c d t
  rw [show (w.alloc (.cells #[.int .i64 0, .int .i64 0] t)).heap.size = w.heap.size + 1 by simp] at h
  exact h
theorem bx2f (w : World) (c d : Value) (t : TypeId) : (∀ n os, (Go.Sort.grow (((w.alloc (.cells #[.int .i64 0, .int .i64 0] t)).alloc (.cells #[c, d] t)).drewN n) os).cell? ⟨w.heap.size, 0, none⟩ = some (.int .i64 0))
    ∧ (∀ n os, (Go.Sort.grow (((w.alloc (.cells #[.int .i64 0, .int .i64 0] t)).alloc (.cells #[c, d] t)).drewN n) os).cell? ⟨w.heap.size, 1, none⟩ = some (.int .i64 0))
    ∧ (∀ n os, (Go.Sort.grow (((w.alloc (.cells #[.int .i64 0, .int .i64 0] t)).alloc (.cells #[c, d] t)).drewN n) os).frozen? ⟨w.heap.size, 0, none⟩ = false)
    ∧ (∀ n os, (Go.Sort.grow (((w.alloc (.cells #[.int .i64 0, .int .i64 0] t)).alloc (.cells #[c, d] t)).drewN n) os).frozen? ⟨w.heap.size, 1, none⟩ = false)
    ∧ (∀ n os, w.heap.size < (Go.Sort.grow (((w.alloc (.cells #[.int .i64 0, .int .i64 0] t)).alloc (.cells #[c, d] t)).drewN n) os).heap.size) := by
  have g : Gr (w.alloc (.cells #[.int .i64 0, .int .i64 0] t)) ((w.alloc (.cells #[.int .i64 0, .int .i64 0] t)).alloc (.cells #[c, d] t)) := Gr.alloc (Gr.refl _) _
  have hz : w.heap.size < (w.alloc (.cells #[.int .i64 0, .int .i64 0] t)).heap.size := by simp
  exact ⟨gr_all g (by simp [go_sem]), gr_all g (by simp [go_sem]), gr_all_f g hz (by simp [go_sem]), gr_all_f g hz (by simp [go_sem]), fun n os => Nat.lt_of_lt_of_le hz (Gr.grow (Gr.drewN g n) os).below.size⟩
set_option maxRecDepth 100000 in
set_option maxHeartbeats 1600000 in
theorem Tryd.isParse (t : ByteArray) (w : World) (hs : t.size ≤ maxLen) :
    Calls Tryd.prog 10 #[.string t] w fun e w' => ∃ x y : Int, e = .returned (.tuple #[.agg #[.int .i64 x, .int .i64 y], .bool (ppB t.data.toList)]) ∧ (ppB t.data.toList = true → x = ppN t.data.toList ∧ y = ppL t.data.toList) ∧ Gr w w' := by
  have mixed : Tryd.prog.follows .mixedOrders = true := by kernel_rfl
  have hlen : t.data.toList.length = t.size := by simp
  by_cases hin : 1 ≤ t.size ∧ t.size ≤ 5
  · obtain ⟨a1, a2⟩ := hin
    have h0 : 0 < t.size := by omega
    have hB : ppB t.data.toList = isP (ppN t.data.toList) (ppL t.data.toList) := by unfold ppB; rw [decide_eq_true (by omega)]; rfl
    have HI := Lib.hid (show inn (t.size : Int) 1 5 = true from inn_t (by omega) (by omega))
    have hc := last_is t h0
    have hrd := fun (u : ByteArray) (h : u.size ≤ maxLen) (w : World) => Tryd.l1Read u w h
    have HB := Lib.hid hB
    have b0 : (0 : Int) ≤ (t[t.size - 1].toNat : Int) := by omega
    have b1 : (t[t.size - 1].toNat : Int) ≤ 255 := by have := t[t.size - 1].toNat_lt; omega
    have wi : (t.size : Int) - 1 = ((t.size - 1 : Nat) : Int) := by omega
    have zi : ((t.size - 1 : Nat) : Int) < (t.size : Int) := by omega
    have hT := pp_is (l := t.data.toList) (by omega)
    rw [mk_data] at hT
    have HT := Lib.hid (fun h => (hT h).2)
    clear hT
    by_cases e : lt (lastB t.data.toList) = 0
    · have HR := Lib.hid (fun w => hrd t hs w)
      have ex : Rd.rd t.data.toList = ppN t.data.toList := by unfold ppN bodyB; rw [if_pos e]
      have ey : ppL t.data.toList = 0 := e
      rw [hc] at e
      have hn : ¬ (97 ≤ t[t.size - 1].toNat ∧ t[t.size - 1].toNat ≤ 122) := by
        intro q; unfold lt at e; rw [if_pos q] at e; omega
      have HN := Lib.hid (show inn ((t[t.size - 1].toNat : Int) - 97 + 1) 1 26 = false from inn_f (by omega))
      rw [ex] at HR
      rw [ey] at HB HT
      rw [ey]
      generalize ppN t.data.toList = x at *
      generalize ppB t.data.toList = b at *
      clear hrd e hn hc hB ex ey
      obtain ⟨b2, b3⟩ := bx2 w (.int .i64 x) (.int .i64 0) 31
      obtain ⟨b0', b1', f0', f1', z0'⟩ := bx2f w (.int .i64 x) (.int .i64 0) 31
      cases b
      · have HF := Lib.hid HB.out.symm
        go_enter Tryd.func10, Tryd.ntmps10
        go_wp2_with (first | (go_at_call_of 16 (Value.int .i64 (t.size : Int)); refine (Tryd.l1In _ _ _ _ HI.out _).mono ?_; rintro e w1 ⟨rfl, rfl⟩) | (go_at_call 16; refine (Tryd.l1In _ _ _ _ HN.out _).mono ?_; rintro e w1 ⟨rfl, rfl⟩) | (go_at_call 17; refine (HR.out _).mono ?_; rintro e w1 ⟨rfl, rfl⟩))
        refine wp_region_any (by kernel_rfl) ?_
        try (change wpAny _ _ _ _ _ _ _ (World.drew _))
        refine wpAny_ready (rs := [0, 1]) (by kernel_rfl) (by simp) (AllReady.cons rfl (fun K hK => ?_) (AllReady.cons rfl (fun K hK => ?_) AllReady.nil))
        · go_simp
          refine hK _ _ ?_; clear hK K
          refine wpAny_ready (rs := [1]) (by kernel_rfl) (by simp) (AllReady.cons rfl (fun K hK => ?_) AllReady.nil)
          go_simp
          refine hK _ _ ?_; clear hK K
          refine wpAny_ready (rs := [2]) (by kernel_rfl) (by simp) (AllReady.cons rfl (fun K hK => ?_) AllReady.nil)
          go_simp
          go_at_call 18
          refine (Tryd.isPlate _ _ _ HF.out _).mono ?_
          rintro e w1 ⟨rfl, g1⟩
          have q1 := g1.below.size
          simp at q1
          have hc1 := (bcell g1.below).1
          have hf1 := (bcell g1.below).2
          have za1 : w.heap.size < w1.heap.size := by omega
          have zb1 : w.heap.size + 1 < w1.heap.size := by omega
          have k0 : w1.cell? ⟨w.heap.size, 0, none⟩ = some (.int .i64 0) := (hc1 _ _ (by (try simp); omega)).trans (by simp [go_sem])
          have k1 : w1.cell? ⟨w.heap.size, 1, none⟩ = some (.int .i64 0) := (hc1 _ _ (by (try simp); omega)).trans (by simp [go_sem])
          go_simp
          refine hK _ _ ?_; clear hK K
          refine wpAny_take (i := 3) (v := ?_) rfl (by kernel_rfl) (by kernel_rfl) (by kernel_rfl) (fun _ _ _ h => h) (Or.inl ⟨by rfl, by intro w; go_simp; (try with_reducible rfl)⟩) ?_
          refine wpAny_take (i := 4) (v := undef) rfl (by kernel_rfl) (by kernel_rfl) (by kernel_rfl) (fun _ _ _ h => h) (Or.inr ⟨by rfl, rfl⟩) ?_
          refine wpAny_take (i := 5) (v := undef) rfl (by kernel_rfl) (by kernel_rfl) (by kernel_rfl) (fun _ _ _ h => h) (Or.inr ⟨by rfl, rfl⟩) ?_
          refine wpAny_take (i := 6) (v := undef) rfl (by kernel_rfl) (by kernel_rfl) (by kernel_rfl) (fun _ _ _ h => h) (Or.inr ⟨by rfl, rfl⟩) ?_
          refine wpAny_take (i := 7) (v := undef) rfl (by kernel_rfl) (by kernel_rfl) (by kernel_rfl) (fun _ _ _ h => h) (Or.inr ⟨by rfl, rfl⟩) ?_
          refine wpAny_take (i := 8) (v := ?_) rfl (by kernel_rfl) (by kernel_rfl) (by kernel_rfl) (fun _ _ _ h => h) (Or.inl ⟨by rfl, by intro w; go_simp; (try with_reducible rfl)⟩) ?_
          refine wpAny_ready (rs := [9]) (by kernel_rfl) (by simp) (AllReady.cons rfl (fun K hK => ?_) AllReady.nil)
          go_simp
          refine hK _ _ ?_; clear hK K
          refine wpAny_ready (rs := [10]) (by kernel_rfl) (by simp) (AllReady.cons rfl (fun K hK => ?_) AllReady.nil)
          go_simp
          refine hK _ _ ?_; clear hK K
          refine wpAny_done (by kernel_rfl) ?_ _
          go_wp2
          refine bodyPost_ret (v := .tuple #[.agg #[.int .i64 x, .int .i64 0], .bool false]) ?_ rfl ⟨x, 0, rfl, (fun h => by cases h), ?_⟩
          · simp [results, Tryd.results10, go_sem, k0, k1, za1]
          · exact (by repeat (first | exact Gr.refl _ | refine Gr.alloc ?_ _ | refine Gr.trans ?_ (by assumption) | refine Gr.drew ?_ | refine Gr.drewN ?_ _ | refine Gr.grow ?_ _ | refine Gr.setCell ?_ (by (try simp); (try omega)) _))
        · go_simp
          refine hK _ _ ?_; clear hK K
          refine wpAny_ready (rs := [0, 2]) (by kernel_rfl) (by simp) (AllReady.cons rfl (fun K hK => ?_) (AllReady.cons rfl (fun K hK => ?_) AllReady.nil))
          · go_simp
            refine hK _ _ ?_; clear hK K
            refine wpAny_ready (rs := [2]) (by kernel_rfl) (by simp) (AllReady.cons rfl (fun K hK => ?_) AllReady.nil)
            go_simp
            go_at_call 18
            refine (Tryd.isPlate _ _ _ HF.out _).mono ?_
            rintro e w1 ⟨rfl, g1⟩
            have q1 := g1.below.size
            simp at q1
            have hc1 := (bcell g1.below).1
            have hf1 := (bcell g1.below).2
            have za1 : w.heap.size < w1.heap.size := by omega
            have zb1 : w.heap.size + 1 < w1.heap.size := by omega
            have k0 : w1.cell? ⟨w.heap.size, 0, none⟩ = some (.int .i64 0) := (hc1 _ _ (by (try simp); omega)).trans (by simp [go_sem])
            have k1 : w1.cell? ⟨w.heap.size, 1, none⟩ = some (.int .i64 0) := (hc1 _ _ (by (try simp); omega)).trans (by simp [go_sem])
            go_simp
            refine hK _ _ ?_; clear hK K
            refine wpAny_take (i := 3) (v := ?_) rfl (by kernel_rfl) (by kernel_rfl) (by kernel_rfl) (fun _ _ _ h => h) (Or.inl ⟨by rfl, by intro w; go_simp; (try with_reducible rfl)⟩) ?_
            refine wpAny_take (i := 4) (v := undef) rfl (by kernel_rfl) (by kernel_rfl) (by kernel_rfl) (fun _ _ _ h => h) (Or.inr ⟨by rfl, rfl⟩) ?_
            refine wpAny_take (i := 5) (v := undef) rfl (by kernel_rfl) (by kernel_rfl) (by kernel_rfl) (fun _ _ _ h => h) (Or.inr ⟨by rfl, rfl⟩) ?_
            refine wpAny_take (i := 6) (v := undef) rfl (by kernel_rfl) (by kernel_rfl) (by kernel_rfl) (fun _ _ _ h => h) (Or.inr ⟨by rfl, rfl⟩) ?_
            refine wpAny_take (i := 7) (v := undef) rfl (by kernel_rfl) (by kernel_rfl) (by kernel_rfl) (fun _ _ _ h => h) (Or.inr ⟨by rfl, rfl⟩) ?_
            refine wpAny_take (i := 8) (v := ?_) rfl (by kernel_rfl) (by kernel_rfl) (by kernel_rfl) (fun _ _ _ h => h) (Or.inl ⟨by rfl, by intro w; go_simp; (try with_reducible rfl)⟩) ?_
            refine wpAny_ready (rs := [9]) (by kernel_rfl) (by simp) (AllReady.cons rfl (fun K hK => ?_) AllReady.nil)
            go_simp
            refine hK _ _ ?_; clear hK K
            refine wpAny_ready (rs := [10]) (by kernel_rfl) (by simp) (AllReady.cons rfl (fun K hK => ?_) AllReady.nil)
            go_simp
            refine hK _ _ ?_; clear hK K
            refine wpAny_done (by kernel_rfl) ?_ _
            go_wp2
            refine bodyPost_ret (v := .tuple #[.agg #[.int .i64 x, .int .i64 0], .bool false]) ?_ rfl ⟨x, 0, rfl, (fun h => by cases h), ?_⟩
            · simp [results, Tryd.results10, go_sem, k0, k1, za1]
            · exact (by repeat (first | exact Gr.refl _ | refine Gr.alloc ?_ _ | refine Gr.trans ?_ (by assumption) | refine Gr.drew ?_ | refine Gr.drewN ?_ _ | refine Gr.grow ?_ _ | refine Gr.setCell ?_ (by (try simp); (try omega)) _))
          · go_simp
            go_at_call 18
            refine (Tryd.isPlate _ _ _ HF.out _).mono ?_
            rintro e w1 ⟨rfl, g1⟩
            have q1 := g1.below.size
            simp at q1
            have hc1 := (bcell g1.below).1
            have hf1 := (bcell g1.below).2
            have za1 : w.heap.size < w1.heap.size := by omega
            have zb1 : w.heap.size + 1 < w1.heap.size := by omega
            have k0 : w1.cell? ⟨w.heap.size, 0, none⟩ = some (.int .i64 0) := (hc1 _ _ (by (try simp); omega)).trans (by simp [go_sem])
            have k1 : w1.cell? ⟨w.heap.size, 1, none⟩ = some (.int .i64 0) := (hc1 _ _ (by (try simp); omega)).trans (by simp [go_sem])
            go_simp
            refine hK _ _ ?_; clear hK K
            refine wpAny_take (i := 3) (v := ?_) rfl (by kernel_rfl) (by kernel_rfl) (by kernel_rfl) (fun _ _ _ h => h) (Or.inl ⟨by rfl, by intro w; go_simp; (try with_reducible rfl)⟩) ?_
            refine wpAny_take (i := 4) (v := undef) rfl (by kernel_rfl) (by kernel_rfl) (by kernel_rfl) (fun _ _ _ h => h) (Or.inr ⟨by rfl, rfl⟩) ?_
            refine wpAny_take (i := 5) (v := undef) rfl (by kernel_rfl) (by kernel_rfl) (by kernel_rfl) (fun _ _ _ h => h) (Or.inr ⟨by rfl, rfl⟩) ?_
            refine wpAny_take (i := 6) (v := undef) rfl (by kernel_rfl) (by kernel_rfl) (by kernel_rfl) (fun _ _ _ h => h) (Or.inr ⟨by rfl, rfl⟩) ?_
            refine wpAny_take (i := 7) (v := undef) rfl (by kernel_rfl) (by kernel_rfl) (by kernel_rfl) (fun _ _ _ h => h) (Or.inr ⟨by rfl, rfl⟩) ?_
            refine wpAny_take (i := 8) (v := ?_) rfl (by kernel_rfl) (by kernel_rfl) (by kernel_rfl) (fun _ _ _ h => h) (Or.inl ⟨by rfl, by intro w; go_simp; (try with_reducible rfl)⟩) ?_
            refine wpAny_ready (rs := [0]) (by kernel_rfl) (by simp) (AllReady.cons rfl (fun K hK => ?_) AllReady.nil)
            go_simp
            refine hK _ _ ?_; clear hK K
            refine wpAny_ready (rs := [9]) (by kernel_rfl) (by simp) (AllReady.cons rfl (fun K hK => ?_) AllReady.nil)
            go_simp
            refine hK _ _ ?_; clear hK K
            refine wpAny_ready (rs := [10]) (by kernel_rfl) (by simp) (AllReady.cons rfl (fun K hK => ?_) AllReady.nil)
            go_simp
            refine hK _ _ ?_; clear hK K
            refine wpAny_done (by kernel_rfl) ?_ _
            go_wp2
            refine bodyPost_ret (v := .tuple #[.agg #[.int .i64 x, .int .i64 0], .bool false]) ?_ rfl ⟨x, 0, rfl, (fun h => by cases h), ?_⟩
            · simp [results, Tryd.results10, go_sem, k0, k1, za1]
            · exact (by repeat (first | exact Gr.refl _ | refine Gr.alloc ?_ _ | refine Gr.trans ?_ (by assumption) | refine Gr.drew ?_ | refine Gr.drewN ?_ _ | refine Gr.grow ?_ _ | refine Gr.setCell ?_ (by (try simp); (try omega)) _))
      · have HF := Lib.hid HB.out.symm
        have HE := Lib.hid (HT.out HF.out)
        go_enter Tryd.func10, Tryd.ntmps10
        go_wp2_with (first | (go_at_call_of 16 (Value.int .i64 (t.size : Int)); refine (Tryd.l1In _ _ _ _ HI.out _).mono ?_; rintro e w1 ⟨rfl, rfl⟩) | (go_at_call 16; refine (Tryd.l1In _ _ _ _ HN.out _).mono ?_; rintro e w1 ⟨rfl, rfl⟩) | (go_at_call 17; refine (HR.out _).mono ?_; rintro e w1 ⟨rfl, rfl⟩))
        go_region_held3 (fun W' => W'.cell? ⟨w.heap.size + 1, 0, none⟩ = some (.int .i64 x) ∧ W'.cell? ⟨w.heap.size + 1, 1, none⟩ = some (.int .i64 0))
          (simp [go_sem, *])
          ((first | (go_at_call 18; refine (Tryd.isPlate _ _ _ HF.out _).mono ?_; rintro e w1 ⟨rfl, g1⟩; have hc1 := (bcell g1.below).1; have hf1 := (bcell g1.below).2; have q1 := g1.below.size; (try simp at q1); have za1 : w.heap.size < w1.heap.size := (by omega); have zb1 : w.heap.size + 1 < w1.heap.size := (by omega)) | (go_at_call 19; refine (HE.out ▸ Tryd.isText _ _ HF.out _).mono ?_; rintro e w2 ⟨rfl, g2⟩; have hc2 := (bcell g2.below).1; have hf2 := (bcell g2.below).2; have q2 := g2.below.size; (try simp at q2); have za2 : w.heap.size < w2.heap.size := (by omega); have zb2 : w.heap.size + 1 < w2.heap.size := (by omega))))
        have k0 : w1.cell? ⟨w.heap.size, 0, none⟩ = some (.int .i64 0) := (hc1 _ _ (by (try simp); omega)).trans (by simp [go_sem])
        have k1 : w1.cell? ⟨w.heap.size, 1, none⟩ = some (.int .i64 0) := (hc1 _ _ (by (try simp); omega)).trans (by simp [go_sem])
        have m0 := (hc2 _ 0 za1).trans k0
        have m1 := (hc2 _ 1 za1).trans k1
        go_wp2
        refine bodyPost_ret (v := .tuple #[.agg #[.int .i64 x, .int .i64 0], .bool true]) ?_ rfl ⟨x, 0, rfl, fun h => ⟨rfl, rfl⟩, ?_⟩
        · simp [results, Tryd.results10, go_sem, m0, m1, za2]
        · exact (by repeat (first | exact Gr.refl _ | refine Gr.alloc ?_ _ | refine Gr.trans ?_ (by assumption) | refine Gr.drew ?_ | refine Gr.drewN ?_ _ | refine Gr.grow ?_ _ | refine Gr.setCell ?_ (by (try simp); (try omega)) _))
    · have HR0 := Lib.hid (fun w => hrd t hs w)
      have HR1 := Lib.hid (fun w => hrd (t.extract 0 (t.size - 1)) (by rw [ByteArray.size_extract]; omega) w)
      have eb : Rd.rd (t.extract 0 (t.size - 1)).data.toList = ppN t.data.toList := by rw [body_cut t h0 e]; rfl
      have ey0 : ppL t.data.toList = lt (lastB t.data.toList) := rfl
      rw [hc] at e ey0
      have hn : 97 ≤ t[t.size - 1].toNat ∧ t[t.size - 1].toNat ≤ 122 := by
        refine Classical.byContradiction fun q => e (by unfold lt; rw [if_neg q])
      have ey : ppL t.data.toList = ((t[t.size - 1].toNat : Int) - 97 + 1) := by rw [ey0]; unfold lt; rw [if_pos hn]; omega
      have HN := Lib.hid (show inn ((t[t.size - 1].toNat : Int) - 97 + 1) 1 26 = true from inn_t (by omega) (by omega))
      rw [eb] at HR1
      rw [ey] at HB HT
      rw [ey]
      generalize Rd.rd t.data.toList = r0 at *
      generalize ppN t.data.toList = x at *
      generalize ppB t.data.toList = b at *
      clear hrd e hn hc hB eb ey ey0
      obtain ⟨b2, b3⟩ := bx2 w (.int .i64 x) (.int .i64 ((t[t.size - 1].toNat : Int) - 97 + 1)) 31
      obtain ⟨b0', b1', f0', f1', z0'⟩ := bx2f w (.int .i64 x) (.int .i64 ((t[t.size - 1].toNat : Int) - 97 + 1)) 31
      cases b
      · have HF := Lib.hid HB.out.symm
        go_enter Tryd.func10, Tryd.ntmps10
        go_wp2_with (first | (go_at_call_of 16 (Value.int .i64 (t.size : Int)); refine (Tryd.l1In _ _ _ _ HI.out _).mono ?_; rintro e w1 ⟨rfl, rfl⟩) | (go_at_call 16; refine (Tryd.l1In _ _ _ _ HN.out _).mono ?_; rintro e w1 ⟨rfl, rfl⟩) | (go_at_call_of 17 (Value.string t); refine (HR0.out _).mono ?_; rintro e w1 ⟨rfl, rfl⟩) | (go_at_call 17; refine (HR1.out _).mono ?_; rintro e w1 ⟨rfl, rfl⟩))
        refine wp_region_any (by kernel_rfl) ?_
        try (change wpAny _ _ _ _ _ _ _ (World.drew _))
        refine wpAny_ready (rs := [0, 1]) (by kernel_rfl) (by simp) (AllReady.cons rfl (fun K hK => ?_) (AllReady.cons rfl (fun K hK => ?_) AllReady.nil))
        · go_simp
          refine hK _ _ ?_; clear hK K
          refine wpAny_ready (rs := [1]) (by kernel_rfl) (by simp) (AllReady.cons rfl (fun K hK => ?_) AllReady.nil)
          go_simp
          refine hK _ _ ?_; clear hK K
          refine wpAny_ready (rs := [2]) (by kernel_rfl) (by simp) (AllReady.cons rfl (fun K hK => ?_) AllReady.nil)
          go_simp
          go_at_call 18
          refine (Tryd.isPlate _ _ _ HF.out _).mono ?_
          rintro e w1 ⟨rfl, g1⟩
          have q1 := g1.below.size
          simp at q1
          have hc1 := (bcell g1.below).1
          have hf1 := (bcell g1.below).2
          have za1 : w.heap.size < w1.heap.size := by omega
          have zb1 : w.heap.size + 1 < w1.heap.size := by omega
          have k0 : w1.cell? ⟨w.heap.size, 0, none⟩ = some (.int .i64 0) := (hc1 _ _ (by (try simp); omega)).trans (by simp [go_sem])
          have k1 : w1.cell? ⟨w.heap.size, 1, none⟩ = some (.int .i64 0) := (hc1 _ _ (by (try simp); omega)).trans (by simp [go_sem])
          go_simp
          refine hK _ _ ?_; clear hK K
          refine wpAny_take (i := 3) (v := ?_) rfl (by kernel_rfl) (by kernel_rfl) (by kernel_rfl) (fun _ _ _ h => h) (Or.inl ⟨by rfl, by intro w; go_simp; (try with_reducible rfl)⟩) ?_
          refine wpAny_take (i := 4) (v := undef) rfl (by kernel_rfl) (by kernel_rfl) (by kernel_rfl) (fun _ _ _ h => h) (Or.inr ⟨by rfl, rfl⟩) ?_
          refine wpAny_take (i := 5) (v := undef) rfl (by kernel_rfl) (by kernel_rfl) (by kernel_rfl) (fun _ _ _ h => h) (Or.inr ⟨by rfl, rfl⟩) ?_
          refine wpAny_take (i := 6) (v := undef) rfl (by kernel_rfl) (by kernel_rfl) (by kernel_rfl) (fun _ _ _ h => h) (Or.inr ⟨by rfl, rfl⟩) ?_
          refine wpAny_take (i := 7) (v := undef) rfl (by kernel_rfl) (by kernel_rfl) (by kernel_rfl) (fun _ _ _ h => h) (Or.inr ⟨by rfl, rfl⟩) ?_
          refine wpAny_take (i := 8) (v := ?_) rfl (by kernel_rfl) (by kernel_rfl) (by kernel_rfl) (fun _ _ _ h => h) (Or.inl ⟨by rfl, by intro w; go_simp; (try with_reducible rfl)⟩) ?_
          refine wpAny_ready (rs := [9]) (by kernel_rfl) (by simp) (AllReady.cons rfl (fun K hK => ?_) AllReady.nil)
          go_simp
          refine hK _ _ ?_; clear hK K
          refine wpAny_ready (rs := [10]) (by kernel_rfl) (by simp) (AllReady.cons rfl (fun K hK => ?_) AllReady.nil)
          go_simp
          refine hK _ _ ?_; clear hK K
          refine wpAny_done (by kernel_rfl) ?_ _
          go_wp2
          refine bodyPost_ret (v := .tuple #[.agg #[.int .i64 x, .int .i64 ((t[t.size - 1].toNat : Int) - 97 + 1)], .bool false]) ?_ rfl ⟨x, ((t[t.size - 1].toNat : Int) - 97 + 1), rfl, (fun h => by cases h), ?_⟩
          · simp [results, Tryd.results10, go_sem, k0, k1, za1]
          · exact (by repeat (first | exact Gr.refl _ | refine Gr.alloc ?_ _ | refine Gr.trans ?_ (by assumption) | refine Gr.drew ?_ | refine Gr.drewN ?_ _ | refine Gr.grow ?_ _ | refine Gr.setCell ?_ (by (try simp); (try omega)) _))
        · go_simp
          refine hK _ _ ?_; clear hK K
          refine wpAny_ready (rs := [0, 2]) (by kernel_rfl) (by simp) (AllReady.cons rfl (fun K hK => ?_) (AllReady.cons rfl (fun K hK => ?_) AllReady.nil))
          · go_simp
            refine hK _ _ ?_; clear hK K
            refine wpAny_ready (rs := [2]) (by kernel_rfl) (by simp) (AllReady.cons rfl (fun K hK => ?_) AllReady.nil)
            go_simp
            go_at_call 18
            refine (Tryd.isPlate _ _ _ HF.out _).mono ?_
            rintro e w1 ⟨rfl, g1⟩
            have q1 := g1.below.size
            simp at q1
            have hc1 := (bcell g1.below).1
            have hf1 := (bcell g1.below).2
            have za1 : w.heap.size < w1.heap.size := by omega
            have zb1 : w.heap.size + 1 < w1.heap.size := by omega
            have k0 : w1.cell? ⟨w.heap.size, 0, none⟩ = some (.int .i64 0) := (hc1 _ _ (by (try simp); omega)).trans (by simp [go_sem])
            have k1 : w1.cell? ⟨w.heap.size, 1, none⟩ = some (.int .i64 0) := (hc1 _ _ (by (try simp); omega)).trans (by simp [go_sem])
            go_simp
            refine hK _ _ ?_; clear hK K
            refine wpAny_take (i := 3) (v := ?_) rfl (by kernel_rfl) (by kernel_rfl) (by kernel_rfl) (fun _ _ _ h => h) (Or.inl ⟨by rfl, by intro w; go_simp; (try with_reducible rfl)⟩) ?_
            refine wpAny_take (i := 4) (v := undef) rfl (by kernel_rfl) (by kernel_rfl) (by kernel_rfl) (fun _ _ _ h => h) (Or.inr ⟨by rfl, rfl⟩) ?_
            refine wpAny_take (i := 5) (v := undef) rfl (by kernel_rfl) (by kernel_rfl) (by kernel_rfl) (fun _ _ _ h => h) (Or.inr ⟨by rfl, rfl⟩) ?_
            refine wpAny_take (i := 6) (v := undef) rfl (by kernel_rfl) (by kernel_rfl) (by kernel_rfl) (fun _ _ _ h => h) (Or.inr ⟨by rfl, rfl⟩) ?_
            refine wpAny_take (i := 7) (v := undef) rfl (by kernel_rfl) (by kernel_rfl) (by kernel_rfl) (fun _ _ _ h => h) (Or.inr ⟨by rfl, rfl⟩) ?_
            refine wpAny_take (i := 8) (v := ?_) rfl (by kernel_rfl) (by kernel_rfl) (by kernel_rfl) (fun _ _ _ h => h) (Or.inl ⟨by rfl, by intro w; go_simp; (try with_reducible rfl)⟩) ?_
            refine wpAny_ready (rs := [9]) (by kernel_rfl) (by simp) (AllReady.cons rfl (fun K hK => ?_) AllReady.nil)
            go_simp
            refine hK _ _ ?_; clear hK K
            refine wpAny_ready (rs := [10]) (by kernel_rfl) (by simp) (AllReady.cons rfl (fun K hK => ?_) AllReady.nil)
            go_simp
            refine hK _ _ ?_; clear hK K
            refine wpAny_done (by kernel_rfl) ?_ _
            go_wp2
            refine bodyPost_ret (v := .tuple #[.agg #[.int .i64 x, .int .i64 ((t[t.size - 1].toNat : Int) - 97 + 1)], .bool false]) ?_ rfl ⟨x, ((t[t.size - 1].toNat : Int) - 97 + 1), rfl, (fun h => by cases h), ?_⟩
            · simp [results, Tryd.results10, go_sem, k0, k1, za1]
            · exact (by repeat (first | exact Gr.refl _ | refine Gr.alloc ?_ _ | refine Gr.trans ?_ (by assumption) | refine Gr.drew ?_ | refine Gr.drewN ?_ _ | refine Gr.grow ?_ _ | refine Gr.setCell ?_ (by (try simp); (try omega)) _))
          · go_simp
            go_at_call 18
            refine (Tryd.isPlate _ _ _ HF.out _).mono ?_
            rintro e w1 ⟨rfl, g1⟩
            have q1 := g1.below.size
            simp at q1
            have hc1 := (bcell g1.below).1
            have hf1 := (bcell g1.below).2
            have za1 : w.heap.size < w1.heap.size := by omega
            have zb1 : w.heap.size + 1 < w1.heap.size := by omega
            have k0 : w1.cell? ⟨w.heap.size, 0, none⟩ = some (.int .i64 0) := (hc1 _ _ (by (try simp); omega)).trans (by simp [go_sem])
            have k1 : w1.cell? ⟨w.heap.size, 1, none⟩ = some (.int .i64 0) := (hc1 _ _ (by (try simp); omega)).trans (by simp [go_sem])
            go_simp
            refine hK _ _ ?_; clear hK K
            refine wpAny_take (i := 3) (v := ?_) rfl (by kernel_rfl) (by kernel_rfl) (by kernel_rfl) (fun _ _ _ h => h) (Or.inl ⟨by rfl, by intro w; go_simp; (try with_reducible rfl)⟩) ?_
            refine wpAny_take (i := 4) (v := undef) rfl (by kernel_rfl) (by kernel_rfl) (by kernel_rfl) (fun _ _ _ h => h) (Or.inr ⟨by rfl, rfl⟩) ?_
            refine wpAny_take (i := 5) (v := undef) rfl (by kernel_rfl) (by kernel_rfl) (by kernel_rfl) (fun _ _ _ h => h) (Or.inr ⟨by rfl, rfl⟩) ?_
            refine wpAny_take (i := 6) (v := undef) rfl (by kernel_rfl) (by kernel_rfl) (by kernel_rfl) (fun _ _ _ h => h) (Or.inr ⟨by rfl, rfl⟩) ?_
            refine wpAny_take (i := 7) (v := undef) rfl (by kernel_rfl) (by kernel_rfl) (by kernel_rfl) (fun _ _ _ h => h) (Or.inr ⟨by rfl, rfl⟩) ?_
            refine wpAny_take (i := 8) (v := ?_) rfl (by kernel_rfl) (by kernel_rfl) (by kernel_rfl) (fun _ _ _ h => h) (Or.inl ⟨by rfl, by intro w; go_simp; (try with_reducible rfl)⟩) ?_
            refine wpAny_ready (rs := [0]) (by kernel_rfl) (by simp) (AllReady.cons rfl (fun K hK => ?_) AllReady.nil)
            go_simp
            refine hK _ _ ?_; clear hK K
            refine wpAny_ready (rs := [9]) (by kernel_rfl) (by simp) (AllReady.cons rfl (fun K hK => ?_) AllReady.nil)
            go_simp
            refine hK _ _ ?_; clear hK K
            refine wpAny_ready (rs := [10]) (by kernel_rfl) (by simp) (AllReady.cons rfl (fun K hK => ?_) AllReady.nil)
            go_simp
            refine hK _ _ ?_; clear hK K
            refine wpAny_done (by kernel_rfl) ?_ _
            go_wp2
            refine bodyPost_ret (v := .tuple #[.agg #[.int .i64 x, .int .i64 ((t[t.size - 1].toNat : Int) - 97 + 1)], .bool false]) ?_ rfl ⟨x, ((t[t.size - 1].toNat : Int) - 97 + 1), rfl, (fun h => by cases h), ?_⟩
            · simp [results, Tryd.results10, go_sem, k0, k1, za1]
            · exact (by repeat (first | exact Gr.refl _ | refine Gr.alloc ?_ _ | refine Gr.trans ?_ (by assumption) | refine Gr.drew ?_ | refine Gr.drewN ?_ _ | refine Gr.grow ?_ _ | refine Gr.setCell ?_ (by (try simp); (try omega)) _))
      · have HF := Lib.hid HB.out.symm
        have HE := Lib.hid (HT.out HF.out)
        go_enter Tryd.func10, Tryd.ntmps10
        go_wp2_with (first | (go_at_call_of 16 (Value.int .i64 (t.size : Int)); refine (Tryd.l1In _ _ _ _ HI.out _).mono ?_; rintro e w1 ⟨rfl, rfl⟩) | (go_at_call 16; refine (Tryd.l1In _ _ _ _ HN.out _).mono ?_; rintro e w1 ⟨rfl, rfl⟩) | (go_at_call_of 17 (Value.string t); refine (HR0.out _).mono ?_; rintro e w1 ⟨rfl, rfl⟩) | (go_at_call 17; refine (HR1.out _).mono ?_; rintro e w1 ⟨rfl, rfl⟩))
        go_region_held3 (fun W' => W'.cell? ⟨w.heap.size + 1, 0, none⟩ = some (.int .i64 x) ∧ W'.cell? ⟨w.heap.size + 1, 1, none⟩ = some (.int .i64 ((t[t.size - 1].toNat : Int) - 97 + 1)))
          (simp [go_sem, *])
          ((first | (go_at_call 18; refine (Tryd.isPlate _ _ _ HF.out _).mono ?_; rintro e w1 ⟨rfl, g1⟩; have hc1 := (bcell g1.below).1; have hf1 := (bcell g1.below).2; have q1 := g1.below.size; (try simp at q1); have za1 : w.heap.size < w1.heap.size := (by omega); have zb1 : w.heap.size + 1 < w1.heap.size := (by omega)) | (go_at_call 19; refine (HE.out ▸ Tryd.isText _ _ HF.out _).mono ?_; rintro e w2 ⟨rfl, g2⟩; have hc2 := (bcell g2.below).1; have hf2 := (bcell g2.below).2; have q2 := g2.below.size; (try simp at q2); have za2 : w.heap.size < w2.heap.size := (by omega); have zb2 : w.heap.size + 1 < w2.heap.size := (by omega))))
        have k0 : w1.cell? ⟨w.heap.size, 0, none⟩ = some (.int .i64 0) := (hc1 _ _ (by (try simp); omega)).trans (by simp [go_sem])
        have k1 : w1.cell? ⟨w.heap.size, 1, none⟩ = some (.int .i64 0) := (hc1 _ _ (by (try simp); omega)).trans (by simp [go_sem])
        have m0 := (hc2 _ 0 za1).trans k0
        have m1 := (hc2 _ 1 za1).trans k1
        go_wp2
        refine bodyPost_ret (v := .tuple #[.agg #[.int .i64 x, .int .i64 ((t[t.size - 1].toNat : Int) - 97 + 1)], .bool true]) ?_ rfl ⟨x, ((t[t.size - 1].toNat : Int) - 97 + 1), rfl, fun h => ⟨rfl, rfl⟩, ?_⟩
        · simp [results, Tryd.results10, go_sem, m0, m1, za2]
        · exact (by repeat (first | exact Gr.refl _ | refine Gr.alloc ?_ _ | refine Gr.trans ?_ (by assumption) | refine Gr.drew ?_ | refine Gr.drewN ?_ _ | refine Gr.grow ?_ _ | refine Gr.setCell ?_ (by (try simp); (try omega)) _))
  · have hB : ppB t.data.toList = false := by unfold ppB; rw [decide_eq_false (by omega)]; rfl
    have HI := Lib.hid (show inn (t.size : Int) 1 5 = false from inn_f (by omega))
    rw [hB]
    clear hB hlen hin
    go_enter Tryd.func10, Tryd.ntmps10
    go_wp2_with (first | (go_at_call 16; refine (Tryd.l1In _ _ _ _ HI.out _).mono ?_; rintro e w1 ⟨rfl, rfl⟩))
    refine bodyPost_ret (v := .tuple #[.agg #[.int .i64 0, .int .i64 0], .bool false]) ?_ rfl ⟨0, 0, rfl, (fun h => by cases h), ?_⟩
    · simp [results, Tryd.results10, go_sem]
    · exact (by repeat (first | exact Gr.refl _ | refine Gr.alloc ?_ _ | refine Gr.trans ?_ (by assumption) | refine Gr.drew ?_ | refine Gr.drewN ?_ _ | refine Gr.grow ?_ _ | refine Gr.setCell ?_ (by (try simp); (try omega)) _))
--TAIL
end Go.Proofs
