/-
  Chapter 9: the houses that fit all clues, the model (spec.pzAll).
-/
import Derived.Test.YtbnabjnpdkmbhaaPzH
namespace Go.Proofs
open Go.RowKit
set_option linter.unusedVariables false
set_option linter.unusedSimpArgs false
def fitN (k p : Int) (cs : List Clu) (n : Int) (q : Nat) : Bool := (cs.take q).all (fun c => pfit k p c n)
theorem fitN_zero (k p : Int) (cs : List Clu) (n : Int) : fitN k p cs n 0 = true := by simp [fitN]
theorem fitN_succ (k p : Int) (cs : List Clu) (n : Int) (q : Nat) (h : q < cs.length) : fitN k p cs n (q + 1) = (fitN k p cs n q && pfit k p (cs.getD q cl0) n) := by
  unfold fitN
  rw [List.take_add_one, List.all_append]
  simp [List.getD, List.getElem?_eq_getElem h]
theorem fitN_all (k p : Int) (cs : List Clu) (n : Int) : fitN k p cs n cs.length = pfits k p cs n := by simp [fitN, pfits]
def MRelZ (k p : Int) (cs : List Clu) (w W0 : World) (s5 s6 : Value) (wr : World) : Prop := ∃ m : Nat, m ≤ (hs k p).toNat ∧ s6 = .int .i64 ((m : Int) + 1) ∧ OwnI wr (w.heap.size + 1) s5 (pallT k p cs m) ∧ Below (w.heap.size + 1) W0 wr
def FRelZ (k p : Int) (cs : List Clu) (n : Int) (W : World) (s7 s18 : Value) (wr : World) : Prop := ∃ q : Nat, q ≤ cs.length ∧ s18 = .int .i64 q ∧ s7 = .bool (fitN k p cs n q) ∧ Gr W wr
set_option maxRecDepth 100000 in
set_option maxHeartbeats 1600000 in
theorem Try.pzAll (w : World) (k p : Int) (v : Value) (cs : List Clu) (hg : pst k p = true) (ha : cs.all cok = true) (h : CluRow w v cs) :
    Calls Try.prog 71 #[.agg #[.int .i64 k, .int .i64 p], v] w fun e w' => ∃ v', e = .returned v' ∧ OwnI w' w.heap.size v' (pall k p cs) ∧ Below w.heap.size w w' := by
  obtain ⟨h0, h1, h2, h3⟩ := pst_t hg
  have hH : 1 ≤ hs k p ∧ hs k p ≤ 40 := by unfold hs; omega
  have HO := Lib.hid (fun (w : World) => Try.nuHouses k p w h0 h1 h2 (by omega))
  have hFit : ∀ (W : World) (x y z n : Int), 1 ≤ n → n ≤ hs k p → (x, y, z) ∈ cs → Calls Try.prog 68 #[.agg #[.int .i64 k, .int .i64 p], .agg #[.int .i64 x, .int .i64 y, .int .i64 z], .int .i64 n] W fun e w' => e = .returned (.bool (pfit k p (x, y, z) n)) ∧ Gr W w' := fun W x y z n a b hm => Try.pzFits k p x y z n W h0 h1 h2 (by omega) a b (cok_KindOk (List.all_eq_true.1 ha _ hm))
  have HFit := Lib.hid hFit
  have HRow := Lib.hid h
  obtain ⟨A, c, rfl, hlc, hcm, _⟩ := h
  unfold maxLen at hcm
  have GW0 := Lib.hid (show Gr w (w.alloc (.cells #[.int .i64 k, .int .i64 p] 27)) from by repeat (first | exact Gr.refl _ | refine Gr.alloc ?_ _ | refine Gr.trans ?_ (by assumption) | refine Gr.drew ?_ | refine Gr.drewN ?_ _ | refine Gr.grow ?_ _ | refine Gr.setCell ?_ (by (try simp); (try omega)) _))
  have C0 := Lib.hid (show (w.alloc (.cells #[.int .i64 k, .int .i64 p] 27)).cell? ⟨w.heap.size, 0, none⟩ = some (.int .i64 k) by simp [go_sem])
  have C1 := Lib.hid (show (w.alloc (.cells #[.int .i64 k, .int .i64 p] 27)).cell? ⟨w.heap.size, 1, none⟩ = some (.int .i64 p) by simp [go_sem])
  have ES := Lib.hid (fun m => pallT_succ k p cs m)
  have EL := Lib.hid (fun m => pallT_len k p cs m)
  have hE : pall k p cs = pallT k p cs (hs k p).toNat := rfl
  rw [hE]
  have hsz : (w.alloc (.cells #[.int .i64 k, .int .i64 p] 27)).heap.size = w.heap.size + 1 := by simp
  obtain ⟨H, hHe⟩ : ∃ H : Nat, hs k p = H := ⟨(hs k p).toNat, by omega⟩
  rw [hHe] at HO
  clear hE hFit ha hg
  go_enter Try.func71, Try.ntmps71
  go_wp2
  generalize hW0 : w.alloc (.cells #[.int .i64 k, .int .i64 p] 27) = W0 at *
  go_loopw [5, 6] (fun s5 s6 wr => MRelZ k p cs w W0 s5 s6 wr) (fun _ s6 _ => (H + 1 - intOf s6).toNat)
  case atStart => exact ⟨0, Nat.zero_le _, rfl, OwnI.nil2 _ _, by rw [← hsz]; exact Below.refl _ _⟩
  case round =>
    obtain ⟨m, hm, rfl, ho, hbl⟩ := hrel
    obtain ⟨A5, c5, rfl, ho⟩ := OwnI.eta ho
    have c0 : wr.cell? ⟨w.heap.size, 0, none⟩ = some (.int .i64 k) := (hbl.cell (by show w.heap.size < _; omega)).trans C0.out
    have c1 : wr.cell? ⟨w.heap.size, 1, none⟩ = some (.int .i64 p) := (hbl.cell (by show w.heap.size < _; omega)).trans C1.out
    have hmH : m ≤ H := by omega
    have szr := hbl.size
    have hws : w.heap.size < wr.heap.size := by omega
    have hrow : CluRow wr (.slice A cs.length c) cs := HRow.out.below (GW0.out.below.trans (hbl.mono (Nat.le_succ _)))
    have HROW := Lib.hid hrow
    have HOW := Lib.hid ho
    have HBL := Lib.hid hbl
    have CC := Lib.hid (And.intro c0 c1)
    clear ho hbl hrow
    by_cases hmm : m < H
    · have z1 : (m : Int) + 1 ≤ (H : Int) := by omega
      have HSU := Lib.hid (ES.out m)
      have hl5 := EL.out m
      go_wp2_with (first | (go_at_call 94; refine (HO.out _).mono ?_; rintro e w1 ⟨rfl, hbW⟩; have hcW := (bcell hbW.below).1; have hfW := (bcell hbW.below).2; (try have hzW : w.heap.size < w1.heap.size := by have hq := hbW.below.size; (try simp at hq); omega); (try have hyW : w.heap.size + 1 < w1.heap.size := by have hq := hbW.below.size; (try simp at hq); omega); (try have hxW : w.heap.size + 2 < w1.heap.size := by have hq := hbW.below.size; (try simp at hq); omega)))
      have GW1 := Lib.hid hbW
      have d0 := hbW.keep0 c0
      have d1 := hbW.keep0 c1
      have CD := Lib.hid (And.intro d0 d1)
      clear c0 c1 d0 d1 hbW hcW hfW
      rename World => X
      go_loopw [7, 18] (fun s7 s18 wx => FRelZ k p cs ((m : Int) + 1) X s7 s18 wx) (fun _ s18 _ => (cs.length - intOf s18).toNat)
      case atStart => exact ⟨0, Nat.zero_le _, rfl, by rw [fitN_zero], Gr.refl _⟩
      case round =>
        obtain ⟨q, hq, rfl, rfl, gx⟩ := hrel
        by_cases hlt : q < cs.length
        · rcases HROW.out with ⟨A', c', e1, _, _, hcl⟩
          simp only [Value.slice.injEq] at e1
          obtain ⟨rfl, _, rfl⟩ := e1
          rcases hcl with e | ⟨g, o, rfl, hc⟩
          · rw [e] at hlt; simp at hlt
          obtain ⟨c0, c1, c2⟩ := hc q hlt
          have gg := GW1.out.trans gx
          have e0 := gg.keep0 c0
          have e1 := gg.keep0 c1
          have e2 := gg.keep0 c2
          have t0 := gx.keep0 CD.out.1
          have t1 := gx.keep0 CD.out.2
          have z0 : (0 : Int) ≤ (q : Int) := by omega
          have z2 : (q : Int) < (cs.length : Int) := by omega
          have hmem : cs.getD q cl0 ∈ cs := by simp [List.getD, hlt]
          have hfs := fitN_succ k p cs ((m : Int) + 1) q hlt
          have tb := World.block_lt_of_cell? _ _ t0
          rcases hy : cs.getD q cl0 with ⟨x, y, z⟩
          rw [hy] at e0 e1 e2 hmem hfs
          simp only at e0 e1 e2
          have FT := Lib.hid (fun (W : World) => HFit.out W x y z ((m : Int) + 1) (by omega) (by omega) hmem)
          have FS := Lib.hid hfs
          have GX := Lib.hid gx
          clear hy hc c0 c1 c2 hfs hmem gx gg
          cases hb : fitN k p cs ((m : Int) + 1) q
          · rw [hb] at FS
            clear hb
            go_wp2
            go_roundw
            case rel => exact ⟨q + 1, by omega, by go_num, by rw [FS.out]; rfl, GX.out.trans (by repeat (first | exact Gr.refl _ | refine Gr.alloc ?_ _ | refine Gr.trans ?_ (by assumption) | refine Gr.drew ?_ | refine Gr.drewN ?_ _ | refine Gr.grow ?_ _ | refine Gr.setCell ?_ (by (try simp); (try omega)) _))⟩
            case measure => simp [intOf]; omega
          · rw [hb, Bool.true_and] at FS
            clear hb
            go_wp2_with (first | (go_at_call 68; refine (FT.out _).mono ?_; rintro e w1 ⟨rfl, hbW⟩; have hcW := (bcell hbW.below).1; have hfW := (bcell hbW.below).2; (try have hzW : w.heap.size < w1.heap.size := by have hq := hbW.below.size; (try simp at hq); omega); (try have hyW : w.heap.size + 1 < w1.heap.size := by have hq := hbW.below.size; (try simp at hq); omega); (try have hxW : w.heap.size + 2 < w1.heap.size := by have hq := hbW.below.size; (try simp at hq); omega)))
            go_roundw
            case rel => exact ⟨q + 1, by omega, by go_num, by rw [FS.out], GX.out.trans (by repeat (first | exact Gr.refl _ | refine Gr.alloc ?_ _ | refine Gr.trans ?_ (by assumption) | refine Gr.drew ?_ | refine Gr.drewN ?_ _ | refine Gr.grow ?_ _ | refine Gr.setCell ?_ (by (try simp); (try omega)) _))⟩
            case measure => simp [intOf]; omega
        · obtain rfl : q = cs.length := by omega
          rw [fitN_all]
          have GX := Lib.hid gx
          clear gx
          cases hf : pfits k p cs ((m : Int) + 1)
          · rw [hf, if_neg (by simp)] at HSU
            clear hf
            go_wp2
            have gg := GW1.out.trans GX.out
            refine ⟨⟨m + 1, by omega, by go_num, by rw [HSU.out]; exact HOW.out.gr gg, HBL.out.trans (gg.below.mono (by have := HBL.out.size; omega))⟩, ?_⟩
            simp [intOf]; omega
          · rw [hf, if_pos rfl] at HSU
            clear hf
            have GG := Lib.hid (GW1.out.trans GX.out)
            have szg := GG.out.below.size
            go_wp2_with (at_builtin; refine wpList_app1I rfl _ _ 46 rfl Try.underlying46 Try.infoI2 (w.heap.size + 1) _ _ rfl (HOW.out.gr GG.out) ((m : Int) + 1) rfl (by omega) (by omega) ?_; intro v' w3 ho3 hb3 hg3 hs3; have HO3 := Lib.hid ho3; have HB3 := Lib.hid hb3; clear ho3 hb3 hg3)
            refine ⟨⟨m + 1, by omega, by go_num, by rw [HSU.out]; exact HO3.out, (HBL.out.trans (GG.out.below.mono (by have := HBL.out.size; omega))).trans HB3.out⟩, ?_⟩
            simp [intOf]; omega
    · obtain rfl : m = H := by omega
      have z1 : ¬ (m : Int) + 1 ≤ (m : Int) := by omega
      have hee : (hs k p).toNat = m := by omega
      have HEE := Lib.hid hee
      clear hee
      go_wp2_with (first | (go_at_call 94; refine (HO.out _).mono ?_; rintro e w1 ⟨rfl, hbW⟩; have hcW := (bcell hbW.below).1; have hfW := (bcell hbW.below).2; (try have hzW : w.heap.size < w1.heap.size := by have hq := hbW.below.size; (try simp at hq); omega); (try have hyW : w.heap.size + 1 < w1.heap.size := by have hq := hbW.below.size; (try simp at hq); omega); (try have hxW : w.heap.size + 2 < w1.heap.size := by have hq := hbW.below.size; (try simp at hq); omega)))
      go_ret
      exact ⟨_, rfl, by rw [HEE.out]; exact (HOW.out.gr hbW).mono (by omega), GW0.out.below.trans ((HBL.out.trans (hbW.below.mono (by have := HBL.out.size; omega))).mono (Nat.le_succ _))⟩
end Go.Proofs
