/-
  Chapter 4: the way back, both sides (BackWay).
-/
import Derived.Test.YtkhjjafeoijaaabOwD
import Derived.Test.YtkhjjafeoijaaabRuA
namespace Go.Proofs
open Go.RowKit
set_option linter.unusedVariables false
set_option linter.unusedSimpArgs false
def SgP (s : ByteArray) : Prop := ∀ i, ∀ h : i < s.size, isSg (s[i]'h)
def bkT (s : ByteArray) : ByteArray := flL s.data.toList.reverse
def bkV (s : ByteArray) (b : Bool) : ByteArray := if b = true then bkT s else ⟨#[]⟩
theorem sz_one (c : UInt8) : (⟨#[c]⟩ : ByteArray).size = 1 := rfl
theorem not_trueU {b : Bool} {p : Prop} (hb : b = true ↔ p) (h : ¬ p) : b = false := by
  cases q : b
  · rfl
  · exact absurd (hb.1 q) h
theorem flL_cons (c : UInt8) (l : List UInt8) : flL (c :: l) = ⟨#[fl c]⟩ ++ flL l := by
  unfold flL
  apply ByteArray.ext
  simp
theorem flL_take (s : ByteArray) (k : Nat) (h : k < s.size) : flL (s.data.toList.take (k + 1)).reverse = ⟨#[fl (s[k]'h)]⟩ ++ flL (s.data.toList.take k).reverse := by
  rw [take_snocW s k h, List.reverse_append, List.reverse_cons, List.reverse_nil, List.nil_append, List.singleton_append, flL_cons]
theorem flL_drop (s : ByteArray) (k : Nat) (h : k < s.size) : flL (s.data.toList.drop k).reverse = flL (s.data.toList.drop (k + 1)).reverse ++ ⟨#[fl (s[k]'h)]⟩ := by
  have hk : k < s.data.toList.length := by simpa using h
  rw [List.drop_eq_getElem_cons hk, List.reverse_cons, flL_snoc]
  rfl
theorem sg_not {c : UInt8} (h : ¬ isSg c) : c ∉ (⟨#[101, 110, 115, 119]⟩ : ByteArray).data.toList := by
  intro m
  simp only [List.mem_cons, List.not_mem_nil, or_false] at m
  unfold isSg at h
  rcases m with e | e | e | e <;> simp [e] at h
theorem sg_lo {c : UInt8} (h : isSg c) : c.toNat < 128 := by rcases h with e | e | e | e <;> rw [e] <;> decide
theorem noSg_of {c : UInt8} {r : Int} (h : ¬ isSg c) {q k : Nat} (hr : (((c.toNat < 128 ∧ r = (c.toNat : Int)) ∧ q = k + 1) ∨ (128 ≤ c.toNat ∧ 128 ≤ r ∧ Lib.validRune r = true))) : NoSg (⟨#[101, 110, 115, 119]⟩ : ByteArray).data.toList r := by
  rcases hr with ⟨⟨h1, h2⟩, _⟩ | ⟨_, h1, h2⟩
  · exact .inl ⟨c, h2, h1, sg_not h⟩
  · exact .inr ⟨h1, h2⟩
set_option maxHeartbeats 1600000 in
theorem Try.backSign_no (w : World) (r : Int) (h : NoSg (⟨#[101, 110, 115, 119]⟩ : ByteArray).data.toList r) :
    Calls Try.prog 33 #[.int .i32 r] w fun e w' => e = .returned (.tuple #[.string ⟨#[]⟩, .bool false]) ∧ Gr w w' := by
  have HX := Lib.hid (fun (W : World) => Try.idxRune_no ⟨#[101, 110, 115, 119]⟩ (by
    intro i hi
    have hi4 : i < 4 := hi
    rcases (show i = 0 ∨ i = 1 ∨ i = 2 ∨ i = 3 by omega) with e | e | e | e <;> subst e
    · show (101 : UInt8).toNat < 128; decide
    · show (110 : UInt8).toNat < 128; decide
    · show (115 : UInt8).toNat < 128; decide
    · show (119 : UInt8).toNat < 128; decide) (by decide) r h W)
  clear h
  go_enter Try.func33, Try.ntmps33
  go_wp2_with (first | (go_at_call 22; refine (HX.out _).mono ?_; rintro e w1 ⟨rfl, hbW⟩))
  go_ret2
  exact ⟨rfl, by repeat (first | exact Gr.refl _ | refine Gr.alloc ?_ _ | refine Gr.trans ?_ (by assumption) | refine Gr.drew ?_ | refine Gr.drewN ?_ _ | refine Gr.grow ?_ _ | refine Gr.setCell ?_ (by (try simp); (try omega)) _)⟩
set_option maxRecDepth 100000 in
set_option maxHeartbeats 1600000 in
theorem Try.iBackWay (w : World) (s : ByteArray) (hs : s.size ≤ maxLen) (b : Bool) (hb : b = true ↔ (s.size ≤ 200 ∧ SgP s)) (r : ByteArray) (hr : bkV s b = r) :
    Calls Try.prog 19 #[.string s] w fun e w' => e = .returned (.tuple #[.string r, .bool b]) ∧ Gr w w' := by
  unfold maxLen at hs
  have HB := Lib.hid hb
  have HR := Lib.hid hr
  by_cases hl : s.size ≤ 200
  · clear hb hr
    go_enter Try.func19, Try.ntmps19
    go_wp2_with fail
    go_loopg [4] s.size (fun gk v wr => ∃ k, k + gk = s.size ∧ v = .string (flL (s.data.toList.take k).reverse) ∧ wr = w.iter s k ∧ ∀ i, ∀ h : i < s.size, i < k → isSg (s[i]'h))
    case atStart => exact ⟨0, by omega, by simp [flL], rfl, fun i _ h => by omega⟩
    case round =>
      obtain ⟨k, hk, rfl, rfl, hall⟩ := hrel
      have HA := Lib.hid hall
      by_cases hlt : k < s.size
      · by_cases hsg : isSg (s[k]'hlt)
        · have h128 := sg_lo hsg
          have hnx := fun ty => run_next_ascii (P := Try.prog) w s k ty hlt h128
          have HBS := Lib.hid (fun (W : World) => Try.backSign W s[k] _ rfl hsg)
          have HS := Lib.hid (flL_take s k hlt)
          have HN := Lib.hid (show ∀ i, ∀ h : i < s.size, i < k + 1 → isSg (s[i]'h) from fun i h hi => by
            by_cases e : i = k
            · subst e; exact hsg
            · exact HA.out i h (by omega))
          have hz : (flL (s.data.toList.take k).reverse).size ≤ 200 := by rw [flL_size, List.length_reverse, List.length_take]; omega
          have hz1 : (⟨#[fl s[k]]⟩ : ByteArray).size = 1 := rfl
          have hadd := fun W => run_string_add (P := Try.prog) (w := W) ⟨#[fl s[k]]⟩ (flL (s.data.toList.take k).reverse) (by rw [hz1]; decide) (by omega)
          generalize flL (s.data.toList.take k).reverse = S at *
          generalize s[k] = ch at *
          clear hsg h128 hz hz1 hall
          go_wp2_with (first | (go_at_call 33; refine (HBS.out _).mono ?_; rintro e w1 ⟨rfl, rfl⟩))
          go_roundg (gk - 1)
          case rel => exact ⟨k + 1, by omega, by rw [HS.out], rfl, HN.out⟩
          case measure => omega
        · obtain ⟨ru, q, hnx, hcase⟩ := next_at (P := Try.prog) w s k hlt
          have HBS := Lib.hid (fun (W : World) => Try.backSign_no W ru (noSg_of hsg hcase))
          have HF := Lib.hid (show b = false from not_trueU HB.out (fun c => hsg (c.2 k hlt)))
          clear hsg hcase hall
          generalize flL (s.data.toList.take k).reverse = S at *
          go_wp2_with (first | (go_at_call 33; refine (HBS.out _).mono ?_; rintro e w1 ⟨rfl, hbW⟩))
          go_ret2
          exact ⟨by rw [← HR.out, HF.out]; rfl, Gr.trans (Gr.alloc (Gr.refl _) _) hbW⟩
      · obtain rfl : k = s.size := by omega
        have hne := fun ty => run_next_end (P := Try.prog) w s s.size ty (by omega)
        have HF := Lib.hid (show b = true from HB.out.2 ⟨hl, fun i h => HA.out i h h⟩)
        have HT := Lib.hid (show flL (s.data.toList.take s.size).reverse = r by rw [← HR.out, HF.out, take_allW]; rfl)
        clear hk hall
        go_wp2
        go_ret2
        exact ⟨by (try rw [HT.out]); (try rw [HF.out]); rfl, Gr.alloc (Gr.refl _) _⟩
  · have HF := Lib.hid (show b = false from not_trueU HB.out (fun c => hl c.1))
    clear hb hr
    go_enter Try.func19, Try.ntmps19
    go_wp2
    go_ret2
    exact ⟨by rw [← HR.out, HF.out]; rfl, by repeat (first | exact Gr.refl _ | refine Gr.alloc ?_ _ | refine Gr.trans ?_ (by assumption) | refine Gr.drew ?_ | refine Gr.drewN ?_ _ | refine Gr.grow ?_ _ | refine Gr.setCell ?_ (by (try simp); (try omega)) _)⟩
set_option maxRecDepth 100000 in
set_option maxHeartbeats 1600000 in
theorem Try.sBackWay (w : World) (s : ByteArray) (hs : s.size ≤ maxLen) (b : Bool) (hb : b = true ↔ (s.size ≤ 200 ∧ SgP s)) (r : ByteArray) (hr : bkV s b = r) :
    Calls Try.prog 18 #[.string s] w fun e w' => e = .returned (.tuple #[.string r, .bool b]) ∧ Gr w w' := by
  unfold maxLen at hs
  have HB := Lib.hid hb
  have HR := Lib.hid hr
  by_cases hl : s.size ≤ 200
  · have wn : IntKind.i64.wrap ((s.size : Int) - 1) = (s.size : Int) - 1 := IntWalk.i64_in _ (by omega)
    clear hb hr
    go_enter Try.func18, Try.ntmps18
    go_wp2_with fail
    go_loopw [4, 5] (fun o i wr => ∃ k : Nat, k ≤ s.size ∧ i = .int .i64 ((k : Int) - 1) ∧ o = .string (flL (s.data.toList.drop k).reverse) ∧ wr = w ∧ ∀ i, ∀ h : i < s.size, k ≤ i → isSg (s[i]'h)) (fun _ i _ => (intOf i + 1).toNat)
    case atStart => exact ⟨s.size, Nat.le_refl _, rfl, by rw [List.drop_eq_nil_of_le (by simp)]; rfl, rfl, fun i h hi => by omega⟩
    case round =>
      obtain ⟨kk, hk, rfl, rfl, rfl, hall⟩ := hrel
      have HA := Lib.hid hall
      rcases Nat.eq_zero_or_pos kk with h0 | hpos
      · subst h0
        have HF := Lib.hid (show b = true from HB.out.2 ⟨hl, fun i h => HA.out i h (Nat.zero_le _)⟩)
        have HT := Lib.hid (show flL (s.data.toList.drop 0).reverse = r by rw [← HR.out, HF.out]; rfl)
        clear hall
        generalize flL (s.data.toList.drop 0).reverse = S at *
        go_wp2
        go_ret2
        exact ⟨by (try rw [HT.out]); (try rw [HF.out]); rfl, Gr.refl _⟩
      · obtain ⟨k, rfl⟩ : ∃ k, kk = k + 1 := ⟨kk - 1, by omega⟩
        have hlt : k < s.size := by omega
        have ek : (((k + 1 : Nat) : Int) - 1) = (k : Int) := by omega
        rw [ek]
        have z0 : (0 : Int) ≤ (k : Int) := by omega
        have z1 : (k : Int) < (s.size : Int) := by omega
        have HD := Lib.hid (flL_drop s k hlt)
        have hz : (flL (s.data.toList.drop (k + 1)).reverse).size ≤ 200 := by rw [flL_size, List.length_reverse, List.length_drop]; simp; omega
        have e1 : (((s[k]).toNat : Int) == 101) = decide (s[k] = 101) := u8_eq s[k] 101
        have e2 : (((s[k]).toNat : Int) == 119) = decide (s[k] = 119) := u8_eq s[k] 119
        have e3 : (((s[k]).toNat : Int) == 110) = decide (s[k] = 110) := u8_eq s[k] 110
        have e4 : (((s[k]).toNat : Int) == 115) = decide (s[k] = 115) := u8_eq s[k] 115
        by_cases hsg : isSg (s[k]'hlt)
        · have HN := Lib.hid (show ∀ i, ∀ h : i < s.size, k ≤ i → isSg (s[i]'h) from fun i h hi => by
            by_cases e : i = k
            · subst e; exact hsg
            · exact HA.out i h (by omega))
          generalize flL (s.data.toList.drop (k + 1)).reverse = S at *
          have ha1 := fun c : UInt8 => fun W => run_string_add (P := Try.prog) (w := W) S ⟨#[c]⟩ (by omega) (by rw [sz_one]; decide)
          clear hall hz
          clear e1 e2 e3 e4
          rcases hsg with h | h | h | h
          · have HH := Lib.hid h
            have d1 : (((s[k]).toNat : Int) == 101) = true := by rw [h]; rfl
            clear h
            go_wp2
            go_roundw
            case rel => exact ⟨k, by omega, by go_num, by rw [HD.out, HH.out]; rfl, trivial, HN.out⟩
            case measure => simp [intOf] <;> omega
          · have HH := Lib.hid h
            have d1 : (((s[k]).toNat : Int) == 101) = false := by rw [h]; rfl
            have d2 : (((s[k]).toNat : Int) == 119) = true := by rw [h]; rfl
            clear h
            go_wp2
            go_roundw
            case rel => exact ⟨k, by omega, by go_num, by rw [HD.out, HH.out]; rfl, trivial, HN.out⟩
            case measure => simp [intOf] <;> omega
          · have HH := Lib.hid h
            have d1 : (((s[k]).toNat : Int) == 101) = false := by rw [h]; rfl
            have d2 : (((s[k]).toNat : Int) == 119) = false := by rw [h]; rfl
            have d3 : (((s[k]).toNat : Int) == 110) = true := by rw [h]; rfl
            clear h
            go_wp2
            go_roundw
            case rel => exact ⟨k, by omega, by go_num, by rw [HD.out, HH.out]; rfl, trivial, HN.out⟩
            case measure => simp [intOf] <;> omega
          · have HH := Lib.hid h
            have d1 : (((s[k]).toNat : Int) == 101) = false := by rw [h]; rfl
            have d2 : (((s[k]).toNat : Int) == 119) = false := by rw [h]; rfl
            have d3 : (((s[k]).toNat : Int) == 110) = false := by rw [h]; rfl
            have d4 : (((s[k]).toNat : Int) == 115) = true := by rw [h]; rfl
            clear h
            go_wp2
            go_roundw
            case rel => exact ⟨k, by omega, by go_num, by rw [HD.out, HH.out]; rfl, trivial, HN.out⟩
            case measure => simp [intOf] <;> omega
        · have HF := Lib.hid (show b = false from not_trueU HB.out (fun c => hsg (c.2 k hlt)))
          have n1 : ¬ s[k] = 101 := fun e => hsg (.inl e)
          have n2 : ¬ s[k] = 119 := fun e => hsg (.inr (.inl e))
          have n3 : ¬ s[k] = 110 := fun e => hsg (.inr (.inr (.inl e)))
          have n4 : ¬ s[k] = 115 := fun e => hsg (.inr (.inr (.inr e)))
          rw [decide_eq_false n1] at e1
          rw [decide_eq_false n2] at e2
          rw [decide_eq_false n3] at e3
          rw [decide_eq_false n4] at e4
          clear hall hz hsg n1 n2 n3 n4
          generalize flL (s.data.toList.drop (k + 1)).reverse = S at *
          go_wp2
          go_ret2
          exact ⟨by rw [← HR.out, HF.out]; rfl, Gr.refl _⟩
  · have HF := Lib.hid (show b = false from not_trueU HB.out (fun c => hl c.1))
    clear hb hr
    go_enter Try.func18, Try.ntmps18
    go_wp2
    go_ret2
    exact ⟨by rw [← HR.out, HF.out]; rfl, by repeat (first | exact Gr.refl _ | refine Gr.alloc ?_ _ | refine Gr.trans ?_ (by assumption) | refine Gr.drew ?_ | refine Gr.drewN ?_ _ | refine Gr.grow ?_ _ | refine Gr.setCell ?_ (by (try simp); (try omega)) _)⟩
end Go.Proofs
