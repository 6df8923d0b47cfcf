/-
  Contracts of chapter 2: the texts of plates, with commas between them (the model's).
-/
import Derived.Test.YtbnkhmemicmadabDoorPlX
import Derived.Test.YtbnkhmemicmadabDoorPlK
import Derived.Test.YtbnkhmemicmadabDoorRd
import Derived.Lib.Join
namespace Go.Proofs
open Go.RowKit Pl
set_option linter.unusedVariables false
set_option linter.unusedSimpArgs false
/-- a plate's text -/
def ptx (p : Pi2) : ByteArray := ⟨(Lib.decDigits p.1.toNat).toArray⟩ ++ ltr p.2
/-- the texts of plates, joined -/
def jt (ps : List Pi2) : List UInt8 := Lib.join (ps.map fun p => (ptx p).data.toList) [44]
theorem jt_nil : jt [] = [] := rfl
theorem jt_one (p : Pi2) : jt [p] = (ptx p).data.toList := by simp [jt, Lib.join_one]
theorem jt_snoc (ps : List Pi2) (p : Pi2) (h : 0 < ps.length) : jt (ps ++ [p]) = jt ps ++ 44 :: (ptx p).data.toList := by
  cases ps with
  | nil => simp at h
  | cons q r =>
    unfold jt
    simp only [List.cons_append, List.map_cons, List.map_append, List.map_nil]
    rw [Lib.join_cons, Lib.join_cons]
    simp [Lib.joinTail]
theorem ptx_le {p : Pi2} (h : IsP p) : (ptx p).data.toList.length ≤ 5 := by
  obtain ⟨n1, n2, _, _⟩ := isP_t (n := p.1) (l := p.2) (decide_eq_true h)
  unfold ptx
  have h4 : (Lib.decDigits p.1.toNat).length ≤ 4 := by
    rw [Rd.dec_length]
    rcases (show p.1 < 10 ∨ (10 ≤ p.1 ∧ p.1 < 100) ∨ (100 ≤ p.1 ∧ p.1 < 1000) ∨ (1000 ≤ p.1 ∧ p.1 < 10000) by omega) with c | c | c | c
    · rw [Lib.nDigits_small (by omega)]; omega
    · rw [Lib.nDigits_unique 1 p.1.toNat (by simp; omega) (by simp; omega)]; omega
    · rw [Lib.nDigits_unique 2 p.1.toNat (by simp; omega) (by simp; omega)]; omega
    · rw [Lib.nDigits_unique 3 p.1.toNat (by simp; omega) (by simp; omega)]; omega
  have h1 : (ltr p.2).data.toList.length ≤ 1 := by unfold ltr; split <;> simp
  simp only [ByteArray.data_append, Array.toList_append, List.length_append, List.size_toArray, Array.length_toList] at *
  omega
theorem jt_step {ps : List Pi2} {k : Nat} (hk : k < ps.length) {x l : Int} (hx : ps.getD k (0, 0) = (x, l)) :
    (k = 0 → (⟨(jt (ps.take (k + 1))).toArray⟩ : ByteArray) = ⟨(Lib.decDigits x.toNat).toArray⟩ ++ ltr l) ∧
    (0 < k → (⟨(jt (ps.take (k + 1))).toArray⟩ : ByteArray) = ⟨(jt (ps.take k)).toArray⟩ ++ ⟨#[44]⟩ ++ (⟨(Lib.decDigits x.toNat).toArray⟩ ++ ltr l)) := by
  have ht : ps.take (k + 1) = ps.take k ++ [(x, l)] := by
    rw [List.take_succ_eq_append_getElem hk, ← getD_eq _ _ hk, hx]
  rw [ht]
  constructor
  · rintro rfl
    rw [List.take_zero, List.nil_append, jt_one]
    apply ByteArray.ext
    simp [ptx]
  · intro h0
    rw [jt_snoc _ _ (by simp; omega)]
    apply ByteArray.ext
    simp [ptx]
theorem jt_len {ps : List Pi2} {k : Nat} (hi : ∀ q ∈ ps, IsP q) (hk : k < ps.length) (h : (jt (ps.take k)).length ≤ 6 * k) : (jt (ps.take (k + 1))).length ≤ 6 * (k + 1) := by
  have ht : ps.take (k + 1) = ps.take k ++ [ps[k]] := List.take_succ_eq_append_getElem hk
  have h5 := ptx_le (hi _ (List.getElem_mem hk))
  rw [ht]
  rcases Nat.eq_zero_or_pos k with rfl | h0
  · rw [List.take_zero, List.nil_append, jt_one]; omega
  · rw [jt_snoc _ _ (by simp; omega)]
    simp only [List.length_append, List.length_cons]
    omega
theorem nil_add (T : ByteArray) : (⟨#[]⟩ : ByteArray) ++ T = T := by apply ByteArray.ext; simp
/-- what is there behind k rounds -/
def JRel (ps : List Pi2) (w : World) (s i : Value) (wr : World) : Prop := ∃ k : Nat, k ≤ ps.length ∧ i = .int .i64 k ∧ s = .string ⟨(jt (ps.take k)).toArray⟩ ∧ (jt (ps.take k)).length ≤ 6 * k ∧ Gr w wr
set_option maxRecDepth 100000 in
set_option maxHeartbeats 800000 in
theorem Tryd.isTexts (w : World) (B : Nat) (v : Value) (ps : List Pi2) (hok : Ok ps) (h : OwnP 26 w B v ps) :
    Calls Tryd.prog 25 #[v] w fun e w' => e = .returned (.string ⟨(jt ps).toArray⟩) ∧ Gr w w' := by
  have mixed : Tryd.prog.follows .mixedOrders = true := by kernel_rfl
  have h60 := hok.2.1
  rcases h.view with ⟨hz, _⟩ | ⟨hpos, g, c, rfl, _, g2, _, _, hc, _⟩
  · subst hz; have := hok.1; simp at this
  · have HC := Lib.hid hc
    have HOK := Lib.hid hok
    clear h hc hok
    go_enter Tryd.func25, Tryd.ntmps25
    go_wp2
    go_loopw [3, 8] (fun s i wr => JRel ps w s i wr) (fun _ i _ => (ps.length - intOf i).toNat)
    case atStart => exact ⟨0, Nat.zero_le _, rfl, rfl, by simp [jt_nil], Gr.refl _⟩
    case round =>
      obtain ⟨k, hk, rfl, rfl, hlen, gr⟩ := hrel
      by_cases hlt : k < ps.length
      · obtain ⟨x, l, hx⟩ : ∃ x l, ps.getD k (0, 0) = (x, l) := ⟨_, _, rfl⟩
        have hip : IsP (x, l) := by rw [← hx, getD_eq _ _ hlt]; exact HOK.out.2.2.1 _ (List.getElem_mem hlt)
        have HP := Lib.hid (show isP x l = true from decide_eq_true hip)
        have e0 := gr.keep0 (HC.out k hlt).1
        have e1 := gr.keep0 (HC.out k hlt).2
        rw [hx] at e0 e1
        simp only at e0 e1
        have z0 : (0 : Int) ≤ (k : Int) := by omega
        have z1 : (k : Int) < (ps.length : Int) := by omega
        have HN := Lib.hid (jt_len HOK.out.2.2.1 hlt hlen)
        obtain ⟨s0, s1⟩ := jt_step hlt hx
        have hT : (⟨(Lib.decDigits x.toNat).toArray⟩ ++ ltr l : ByteArray).size ≤ 5 := by
          have := ptx_le hip
          rw [Array.length_toList] at this
          exact this
        have hS : (⟨(jt (ps.take k)).toArray⟩ : ByteArray).size ≤ 360 := by
          have : (⟨(jt (ps.take k)).toArray⟩ : ByteArray).size = (jt (ps.take k)).length := by simp [ByteArray.size]
          omega
        have HX := Lib.hid hx
        have GR := Lib.hid gr
        have HT := Lib.hid (fun (W : World) => Tryd.isText x l HP.out W)
        rcases Nat.eq_zero_or_pos k with hk0 | hk0
        · have HE := Lib.hid (s0 hk0)
          have hS0 : (⟨(jt (ps.take k)).toArray⟩ : ByteArray) = ⟨#[]⟩ := by rw [hk0]; rfl
          rw [hS0]
          subst hk0
          generalize (⟨(Lib.decDigits x.toNat).toArray⟩ ++ ltr l : ByteArray) = T at *
          have hadd := fun W => run_string_add (P := Tryd.prog) (w := W) ⟨#[]⟩ T (by decide) (by omega)
          clear s0 s1 hx gr hS hS0 hlen hip
          go_wp2_with (first | (go_at_call 18; refine (HT.out _).mono ?_; rintro e w1 ⟨rfl, hbW⟩; have hcW := (bcell hbW.below).1; have hfW := (bcell hbW.below).2; (try have hzW : w.heap.size < w1.heap.size := by have hq := hbW.below.size; (try simp at hq); omega); (try have hyW : w.heap.size + 1 < w1.heap.size := by have hq := hbW.below.size; (try simp at hq); omega); (try have hxW : w.heap.size + 2 < w1.heap.size := by have hq := hbW.below.size; (try simp at hq); omega)))
          go_roundw
          case rel => exact ⟨1, by omega, by go_num, by rw [HE.out, nil_add], HN.out, by repeat (first | exact Gr.refl _ | refine Gr.alloc ?_ _ | refine Gr.trans ?_ (by assumption) | refine Gr.drew ?_ | refine Gr.drewN ?_ _ | refine Gr.grow ?_ _ | refine Gr.setCell ?_ (by (try simp); (try omega)) _)⟩
          case measure => simp [intOf]; omega
        · have HE := Lib.hid (s1 hk0)
          generalize (⟨(jt (ps.take k)).toArray⟩ : ByteArray) = S at *
          generalize (⟨(Lib.decDigits x.toNat).toArray⟩ ++ ltr l : ByteArray) = T at *
          have hadd := fun W => run_string_add (P := Tryd.prog) (w := W) S ⟨#[44]⟩ (by omega) (by decide)
          have hadd2 := fun W => run_string_add (P := Tryd.prog) (w := W) (S ++ ⟨#[44]⟩) T (by rw [ByteArray.size_append]; have : (⟨#[44]⟩ : ByteArray).size = 1 := rfl; omega) (by omega)
          have zk : (0 : Int) < (k : Int) := by omega
          have dk : decide (0 < k) = true := by simpa using hk0
          clear s0 s1 hx gr hS hlen hip
          go_wp2_with (first | (go_at_call 18; refine (HT.out _).mono ?_; rintro e w1 ⟨rfl, hbW⟩; have hcW := (bcell hbW.below).1; have hfW := (bcell hbW.below).2; (try have hzW : w.heap.size < w1.heap.size := by have hq := hbW.below.size; (try simp at hq); omega); (try have hyW : w.heap.size + 1 < w1.heap.size := by have hq := hbW.below.size; (try simp at hq); omega); (try have hxW : w.heap.size + 2 < w1.heap.size := by have hq := hbW.below.size; (try simp at hq); omega)))
          go_roundw
          case rel => exact ⟨k + 1, by omega, by go_num, by rw [HE.out], HN.out, by repeat (first | exact Gr.refl _ | refine Gr.alloc ?_ _ | refine Gr.trans ?_ (by assumption) | refine Gr.drew ?_ | refine Gr.drewN ?_ _ | refine Gr.grow ?_ _ | refine Gr.setCell ?_ (by (try simp); (try omega)) _)⟩
          case measure => simp [intOf]; omega
      · obtain rfl : k = ps.length := by omega
        rw [List.take_length]
        clear hlen
        go_wp2
        go_ret
        exact ⟨rfl, gr⟩
end Go.Proofs
