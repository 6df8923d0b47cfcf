/-
  Contracts of chapter 5: the text of people (the model's).
-/
import Derived.Test.YtciiombkhndnjaaDoorMdB
import Derived.Test.YtciiombkhndnjaaDoorDec
import Derived.Test.YtciiombkhndnjaaDoorRd
import Derived.Lib.Join
namespace Go.Proofs
open Go.RowKit
set_option linter.unusedVariables false
set_option linter.unusedSimpArgs false
/-- a number's text -/
def itx (n : Int) : ByteArray := ⟨(Lib.decDigits n.toNat).toArray⟩
/-- the texts of numbers, joined -/
def jti (xs : List Int) : List UInt8 := Lib.join (xs.map fun n => (itx n).data.toList) [45]
theorem jti_nil : jti [] = [] := rfl
theorem jti_one (n : Int) : jti [n] = (itx n).data.toList := by simp [jti, Lib.join_one]
theorem jti_snoc (xs : List Int) (n : Int) (h : 0 < xs.length) : jti (xs ++ [n]) = jti xs ++ 45 :: (itx n).data.toList := by
  cases xs with
  | nil => simp at h
  | cons q r =>
    unfold jti
    simp only [List.cons_append, List.map_cons, List.map_append, List.map_nil]
    rw [Lib.join_cons, Lib.join_cons]
    simp [Lib.joinTail]
theorem itx_le {n : Int} (h0 : 0 ≤ n) (h1 : n ≤ 1000) : (itx n).data.toList.length ≤ 4 := by
  unfold itx
  show (Lib.decDigits n.toNat).toArray.toList.length ≤ 4
  rw [List.toList_toArray, Rd.dec_length]
  rcases (show n < 10 ∨ (10 ≤ n ∧ n < 100) ∨ (100 ≤ n ∧ n < 1000) ∨ (1000 ≤ n ∧ n < 10000) by omega) with c | c | c | c
  · rw [Lib.nDigits_small (by omega)]; omega
  · rw [Lib.nDigits_unique 1 n.toNat (by simp; omega) (by simp; omega)]; omega
  · rw [Lib.nDigits_unique 2 n.toNat (by simp; omega) (by simp; omega)]; omega
  · rw [Lib.nDigits_unique 3 n.toNat (by simp; omega) (by simp; omega)]; omega
theorem take_gx {xs : List Int} {k : Nat} (hk : k < xs.length) : xs.take (k + 1) = xs.take k ++ [gx xs k] := by
  rw [List.take_succ_eq_append_getElem hk]
  simp [gx, List.getD, hk]
theorem jti_step {xs : List Int} {k : Nat} (hk : k < xs.length) :
    (k = 0 → (⟨(jti (xs.take (k + 1))).toArray⟩ : ByteArray) = itx (gx xs k)) ∧
    (0 < k → (⟨(jti (xs.take (k + 1))).toArray⟩ : ByteArray) = ⟨(jti (xs.take k)).toArray⟩ ++ ⟨#[45]⟩ ++ itx (gx xs k)) := by
  rw [take_gx hk]
  constructor
  · rintro rfl
    rw [List.take_zero, List.nil_append, jti_one]
  · intro h0
    rw [jti_snoc _ _ (by simp; omega)]
    apply ByteArray.ext
    simp
theorem jti_len {xs : List Int} {k : Nat} (hi : ∀ j, j < xs.length → 0 ≤ gx xs j ∧ gx xs j ≤ 1000) (hk : k < xs.length) (h : (jti (xs.take k)).length ≤ 5 * k) : (jti (xs.take (k + 1))).length ≤ 5 * (k + 1) := by
  have h5 := itx_le (hi k hk).1 (hi k hk).2
  rw [take_gx hk]
  rcases Nat.eq_zero_or_pos k with rfl | h0
  · rw [List.take_zero, List.nil_append, jti_one]; omega
  · rw [jti_snoc _ _ (by simp; omega)]
    simp only [List.length_append, List.length_cons]
    omega
theorem jti_bd {xs : List Int} (hi : ∀ j, j < xs.length → 0 ≤ gx xs j ∧ gx xs j ≤ 1000) : ∀ k, k ≤ xs.length → (jti (xs.take k)).length ≤ 5 * k := by
  intro k
  induction k with
  | zero => intro _; simp [jti_nil]
  | succ k ih => intro h; exact jti_len hi (by omega) (ih (by omega))
theorem nil_addI (T : ByteArray) : (⟨#[]⟩ : ByteArray) ++ T = T := by apply ByteArray.ext; simp
/-- what is there behind k rounds -/
def JRelI (xs : List Int) (w : World) (s i : Value) (wr : World) : Prop := ∃ k : Nat, k ≤ xs.length ∧ i = .int .i64 k ∧ s = .string ⟨(jti (xs.take k)).toArray⟩ ∧ Gr w wr
set_option maxRecDepth 100000 in
set_option maxHeartbeats 800000 in
theorem Tryd.mdText (w : World) (B : Nat) (v : Value) (xs : List Int) (hg : GoodP xs) (h : OwnI w B v xs) :
    Calls Tryd.prog 14 #[v] w fun e w' => e = .returned (.string ⟨(jti xs).toArray⟩) ∧ Gr w w' := by
  have h60 := hg.1
  rcases h.view with ⟨hz, _⟩ | ⟨hpos, g, c, rfl, _, g2, _, hc, _⟩
  · subst hz; simp at h60
  · have HC := Lib.hid hc
    have HGD := Lib.hid hg
    clear h hc hg
    go_enter Tryd.func14, Tryd.ntmps14
    go_wp2
    go_loopw [3, 8] (fun s i wr => JRelI xs w s i wr) (fun _ i _ => (xs.length - intOf i).toNat)
    case atStart => exact ⟨0, Nat.zero_le _, rfl, rfl, Gr.refl _⟩
    case round =>
      obtain ⟨k, hk, rfl, rfl, gr⟩ := hrel
      by_cases hlt : k < xs.length
      · have bd := HGD.out.bd k
        have e0 := gr.keep2 (HC.out k hlt)
        rw [show xs.getD k 0 = gx xs k from rfl] at e0
        have z0 : (0 : Int) ≤ (k : Int) := by omega
        have z1 : (k : Int) < (xs.length : Int) := by omega
        obtain ⟨s0, s1⟩ := jti_step hlt
        have hT : (itx (gx xs k)).size ≤ 4 := by
          have := itx_le bd.1 bd.2
          rw [Array.length_toList] at this
          exact this
        have hS : (⟨(jti (xs.take k)).toArray⟩ : ByteArray).size ≤ 300 := by
          have : (⟨(jti (xs.take k)).toArray⟩ : ByteArray).size = (jti (xs.take k)).length := by simp [ByteArray.size]
          have := jti_bd (fun j _ => HGD.out.bd j) k hk
          omega
        have GR := Lib.hid gr
        have HT := Lib.hid (fun (W : World) => Tryd.l1Num (gx xs k) bd.1 (by omega) W)
        rw [show (⟨(Lib.decDigits (gx xs k).toNat).toArray⟩ : ByteArray) = itx (gx xs k) from rfl] at HT
        rcases Nat.eq_zero_or_pos k with hk0 | hk0
        · have HE := Lib.hid (s0 hk0)
          have hS0 : (⟨(jti (xs.take k)).toArray⟩ : ByteArray) = ⟨#[]⟩ := by rw [hk0]; rfl
          rw [hS0]
          subst hk0
          generalize itx (gx xs 0) = T at *
          have hadd := fun W => run_string_add (P := Tryd.prog) (w := W) ⟨#[]⟩ T (by decide) (by omega)
          clear s0 s1 gr hS hS0
          go_wp2_with (first | (go_at_call 24; refine (HT.out _).mono ?_; rintro e w1 ⟨rfl, hbW⟩; have hcW := (bcell hbW.below).1; have hfW := (bcell hbW.below).2; (try have hzW : w.heap.size < w1.heap.size := by have hq := hbW.below.size; (try simp at hq); omega); (try have hyW : w.heap.size + 1 < w1.heap.size := by have hq := hbW.below.size; (try simp at hq); omega); (try have hxW : w.heap.size + 2 < w1.heap.size := by have hq := hbW.below.size; (try simp at hq); omega)))
          go_roundw
          case rel => exact ⟨1, by omega, by go_num, by rw [HE.out, nil_addI], by repeat (first | exact Gr.refl _ | refine Gr.alloc ?_ _ | refine Gr.trans ?_ (by assumption) | refine Gr.drew ?_ | refine Gr.drewN ?_ _ | refine Gr.grow ?_ _ | refine Gr.setCell ?_ (by (try simp); (try omega)) _)⟩
          case measure => simp [intOf]; omega
        · have HE := Lib.hid (s1 hk0)
          generalize (⟨(jti (xs.take k)).toArray⟩ : ByteArray) = S at *
          generalize itx (gx xs k) = T at *
          have hadd := fun W => run_string_add (P := Tryd.prog) (w := W) S ⟨#[45]⟩ (by omega) (by decide)
          have hadd2 := fun W => run_string_add (P := Tryd.prog) (w := W) (S ++ ⟨#[45]⟩) T (by rw [ByteArray.size_append]; have : (⟨#[45]⟩ : ByteArray).size = 1 := rfl; omega) (by omega)
          have zk : (0 : Int) < (k : Int) := by omega
          have dk : decide (0 < k) = true := by simpa using hk0
          clear s0 s1 gr hS
          go_wp2_with (first | (go_at_call 24; refine (HT.out _).mono ?_; rintro e w1 ⟨rfl, hbW⟩; have hcW := (bcell hbW.below).1; have hfW := (bcell hbW.below).2; (try have hzW : w.heap.size < w1.heap.size := by have hq := hbW.below.size; (try simp at hq); omega); (try have hyW : w.heap.size + 1 < w1.heap.size := by have hq := hbW.below.size; (try simp at hq); omega); (try have hxW : w.heap.size + 2 < w1.heap.size := by have hq := hbW.below.size; (try simp at hq); omega)))
          go_roundw
          case rel => exact ⟨k + 1, by omega, by go_num, by rw [HE.out], by repeat (first | exact Gr.refl _ | refine Gr.alloc ?_ _ | refine Gr.trans ?_ (by assumption) | refine Gr.drew ?_ | refine Gr.drewN ?_ _ | refine Gr.grow ?_ _ | refine Gr.setCell ?_ (by (try simp); (try omega)) _)⟩
          case measure => simp [intOf]; omega
      · obtain rfl : k = xs.length := by omega
        rw [List.take_length]
        go_wp2
        go_ret
        exact ⟨rfl, gr⟩
def ptV5 (xs : List Int) (b : Bool) : ByteArray := if b then ⟨(jti xs).toArray⟩ else ⟨#[]⟩
set_option maxHeartbeats 800000 in
theorem Tryd.sPeopleText (w : World) (B : Nat) (v : Value) (xs : List Int) (b : Bool) (hb : b = true ↔ GoodP xs) (hl : xs.length ≤ 1048576) (h : OwnI w B v xs) :
    Calls Tryd.prog 5 #[v] w fun e w' => e = .returned (.tuple #[.string (ptV5 xs b), .bool b]) ∧ Gr w w' := by
  have HH := Lib.hid (Tryd.mdGood w B v xs b hb hl h)
  have HO := Lib.hid h
  obtain ⟨A, c, rfl, _⟩ := h.eta
  cases q : b
  · rw [q] at HH
    have e : ptV5 xs false = ⟨#[]⟩ := rfl
    rw [e]
    clear h hb q e
    go_enter Tryd.func5, Tryd.ntmps5
    go_wp2_with (first | (go_at_call 13; refine (HH.out).mono ?_; rintro e w1 ⟨rfl, hbW⟩; have hcW := (bcell hbW.below).1; have hfW := (bcell hbW.below).2; (try have hzW : w.heap.size < w1.heap.size := by have hq := hbW.below.size; (try simp at hq); omega); (try have hyW : w.heap.size + 1 < w1.heap.size := by have hq := hbW.below.size; (try simp at hq); omega); (try have hxW : w.heap.size + 2 < w1.heap.size := by have hq := hbW.below.size; (try simp at hq); omega)))
    go_ret2
    exact ⟨rfl, by repeat (first | exact Gr.refl _ | refine Gr.alloc ?_ _ | refine Gr.trans ?_ (by assumption) | refine Gr.drew ?_ | refine Gr.drewN ?_ _ | refine Gr.grow ?_ _ | refine Gr.setCell ?_ (by (try simp); (try omega)) _)⟩
  · rw [q] at HH
    have hg := hb.1 q
    have HT := Lib.hid (fun w1 (g : Gr w w1) => Tryd.mdText w1 B _ xs hg (HO.out.gr g))
    have e : ptV5 xs true = ⟨(jti xs).toArray⟩ := rfl
    rw [e]
    generalize (⟨(jti xs).toArray⟩ : ByteArray) = R at *
    clear h hb q hg e
    go_enter Tryd.func5, Tryd.ntmps5
    go_wp2_with (first | (go_at_call 13; refine (HH.out).mono ?_; rintro e w1 ⟨rfl, hbW⟩; have hcW := (bcell hbW.below).1; have hfW := (bcell hbW.below).2; (try have hzW : w.heap.size < w1.heap.size := by have hq := hbW.below.size; (try simp at hq); omega); (try have hyW : w.heap.size + 1 < w1.heap.size := by have hq := hbW.below.size; (try simp at hq); omega); (try have hxW : w.heap.size + 2 < w1.heap.size := by have hq := hbW.below.size; (try simp at hq); omega)) | (go_at_call 14; refine (HT.out _ (by assumption)).mono ?_; rintro e w1 ⟨rfl, hbW⟩; have hcW := (bcell hbW.below).1; have hfW := (bcell hbW.below).2; (try have hzW : w.heap.size < w1.heap.size := by have hq := hbW.below.size; (try simp at hq); omega); (try have hyW : w.heap.size + 1 < w1.heap.size := by have hq := hbW.below.size; (try simp at hq); omega); (try have hxW : w.heap.size + 2 < w1.heap.size := by have hq := hbW.below.size; (try simp at hq); omega)))
    go_ret2
    exact ⟨rfl, by repeat (first | exact Gr.refl _ | refine Gr.alloc ?_ _ | refine Gr.trans ?_ (by assumption) | refine Gr.drew ?_ | refine Gr.drewN ?_ _ | refine Gr.grow ?_ _ | refine Gr.setCell ?_ (by (try simp); (try omega)) _)⟩
end Go.Proofs
