/-
  Contracts of chapter 2: the text of a plate.
-/
import Derived.Test.YtcmlojidcpomjaaDoorPlA
import Derived.Test.YtcmlojidcpomjaaDoorDec
import Derived.Test.YtcmlojidcpomjaaDoorShelf
import Derived.WalkSmall
namespace Go.Proofs
open Go.RowKit Pl
set_option linter.unusedVariables false
set_option linter.unusedSimpArgs false
def abc : ByteArray := ⟨#[97, 98, 99, 100, 101, 102, 103, 104, 105, 106, 107, 108, 109, 110, 111, 112, 113, 114, 115, 116, 117, 118, 119, 120, 121, 122]⟩
def sgn : ByteArray := ⟨#[45, 97, 98, 99, 100, 101, 102, 103, 104, 105, 106, 107, 108, 109, 110, 111, 112, 113, 114, 115, 116, 117, 118, 119, 120, 121, 122]⟩
/-- the letter of a plate, as a text -/
def ltr (l : Int) : ByteArray := if l = 0 then ⟨#[]⟩ else ⟨#[UInt8.ofNat (96 + l.toNat)]⟩
theorem ltr_size (l : Int) : ((ltr l).size : Int) ≤ 8388608 := by unfold ltr; split <;> (simp [ByteArray.size])
theorem abc_cut (l : Nat) (h : 1 ≤ l) (h2 : l ≤ 26) : abc.extract (l - 1) l = ltr l := by
  have key : ∀ j : Fin 27, 1 ≤ j.val → abc.extract (j.val - 1) j.val = ltr (j.val : Int) := by decide +kernel
  exact key ⟨l, by omega⟩ h
theorem sgn_cut (l : Nat) (h : 1 ≤ l) (h2 : l ≤ 26) : sgn.extract l (l + 1) = ltr l := by
  have key : ∀ j : Fin 27, 1 ≤ j.val → sgn.extract j.val (j.val + 1) = ltr (j.val : Int) := by decide +kernel
  exact key ⟨l, by omega⟩ h
def ptV (n l : Int) : ByteArray := if isP n l then ⟨(Lib.decDigits n.toNat).toArray⟩ ++ ltr l else ⟨#[]⟩
set_option maxHeartbeats 400000 in
theorem Tryd.isLetterE (l : Int) (h0 : 0 ≤ l) (h1 : l ≤ 26) (w : World) :
    Calls Tryd.prog 29 #[.int .i64 l, .string ⟨#[]⟩] w fun e w' => e = .returned (.string (ltr l)) ∧ w = w' := by
  obtain ⟨m, rfl⟩ : ∃ m : Nat, l = m := ⟨l.toNat, by omega⟩
  rcases Nat.eq_zero_or_pos m with rfl | hm
  · go_enter Tryd.func29, Tryd.ntmps29
    go_wp2
    go_ret
    exact ⟨rfl, rfl⟩
  · have hc := abc_cut m hm (by omega)
    have HC := Lib.hid hc
    have hz : ((m : Int) == 0) = false := by simp; omega
    have z1 : (1 : Int) ≤ (m : Int) := by omega
    clear hc
    go_enter Tryd.func29, Tryd.ntmps29
    go_wp2
    go_ret
    refine ⟨?_, rfl⟩
    show Ending.returned (.string (abc.extract (m - 1) m)) = _
    rw [HC.out]
theorem Tryd.gPow : Tryd.prog.globalNamed "internal/strconv.uint64pow10" = some 5 := by kernel_rfl
def Tab (w : World) : Prop := Lib.TabIs Tryd.prog w "internal/strconv.uint64pow10" .u64 Lib.pow10Tab
theorem Tab.gr {w w' : World} (h : Tab w) (g : Gr w w') : Tab w' := by
  have hc := Lib.TabIs.cell h Tryd.gPow 0 (by decide)
  exact var?_below g.below Tryd.gPow (World.block_lt_of_cell? _ _ hc) h
theorem Tryd.itoa (p : Int) (h2 : 1 ≤ p) (h3 : p ≤ 100000) (w : World) (ht : Tab w) :
    Calls Tryd.prog 36 #[.int .i64 p] w fun e w' => e = .returned (.string ⟨(Lib.decDigits p.toNat).toArray⟩) ∧ Gr w w' := by
  have h := Tryd.strconv_Itoa p (by omega) (by omega) w ht
  rw [show Lib.itoa p = Lib.decDigits p.toNat by unfold Lib.itoa; rw [if_neg (by omega)]] at h
  exact h
set_option maxHeartbeats 400000 in
theorem Tryd.isText (n l : Int) (h : isP n l = true) (w : World) :
    Calls Tryd.prog 19 #[.agg #[.int .i64 n, .int .i64 l]] w fun e w' => e = .returned (.string (⟨(Lib.decDigits n.toNat).toArray⟩ ++ ltr l)) ∧ Gr w w' := by
  have mixed : Tryd.prog.follows .mixedOrders = true := by kernel_rfl
  obtain ⟨a1, a2, a3, a4⟩ := isP_t h
  have hadd := fun W => run_string_add (P := Tryd.prog) (w := W) ⟨(Lib.decDigits n.toNat).toArray⟩ (ltr l) (dec_size _ (by omega)) (ltr_size l)
  obtain ⟨b0, b1⟩ := box2 w (.int .i64 n) (.int .i64 l) 31
  clear h
  go_enter Tryd.func19, Tryd.ntmps19
  go_wp2_with fail
  (refine wp_region_quiet_grown mixed (by kernel_rfl) ?_; (repeat (first | go_big_quiet_step ((first | (go_at_call 28; exact Calls.grown_of (Tryd.l1Num _ (by omega) (by omega) _)) | (go_at_call 29; exact Calls.grown_of (same_gr (Tryd.isLetterE _ a3 a4 _))))) | quiet_step ((first | (go_at_call 28; exact Calls.grown_of (Tryd.l1Num _ (by omega) (by omega) _)) | (go_at_call 29; exact Calls.grown_of (same_gr (Tryd.isLetterE _ a3 a4 _))))))); refine wpQuiet_nil ?_; intro _ hw'; obtain ⟨⟨nq, osq⟩, hw''⟩ := hw'; subst hw'')
  go_wp2
  go_ret
  exact ⟨rfl, by repeat (first | exact Gr.refl _ | refine Gr.alloc ?_ _ | refine Gr.trans ?_ (by assumption) | refine Gr.drew ?_ | refine Gr.drewN ?_ _ | refine Gr.grow ?_ _ | refine Gr.setCell ?_ (by (try simp); (try omega)) _)⟩
set_option maxHeartbeats 800000 in
theorem Tryd.iPlateText (n l : Int) (w : World) (ht : Tab w) :
    Calls Tryd.prog 24 #[.agg #[.int .i64 n, .int .i64 l]] w fun e w' => e = .returned (.tuple #[.string (ptV n l), .bool (isP n l)]) ∧ Gr w w' := by
  cases hg : isP n l
  · rw [show ptV n l = ⟨#[]⟩ by simp [ptV, hg]]
    have H := Lib.hid hg
    clear hg
    go_enter Tryd.func24, Tryd.ntmps24
    go_wp2_with (first | (go_at_call 26; refine (Tryd.iIsPlate _ _ _ H.out _).mono ?_; rintro e w1 ⟨rfl, hbW⟩; have hcW := (bcell hbW.below).1; have hfW := (bcell hbW.below).2; (try have hzW : w.heap.size < w1.heap.size := by have hq := hbW.below.size; (try simp at hq); omega); (try have hyW : w.heap.size + 1 < w1.heap.size := by have hq := hbW.below.size; (try simp at hq); omega); (try have hxW : w.heap.size + 2 < w1.heap.size := by have hq := hbW.below.size; (try simp at hq); omega)))
    go_ret2
    exact ⟨rfl, by repeat (first | exact Gr.refl _ | refine Gr.alloc ?_ _ | refine Gr.trans ?_ (by assumption) | refine Gr.drew ?_ | refine Gr.drewN ?_ _ | refine Gr.grow ?_ _ | refine Gr.setCell ?_ (by (try simp); (try omega)) _)⟩
  · rw [show ptV n l = ⟨(Lib.decDigits n.toNat).toArray⟩ ++ ltr l by simp [ptV, hg]]
    have H := Lib.hid hg
    obtain ⟨a1, a2, a3, a4⟩ := isP_t hg
    have HT := Lib.hid ht
    clear hg ht
    obtain ⟨m, rfl⟩ : ∃ m : Nat, l = m := ⟨l.toNat, by omega⟩
    rcases Nat.eq_zero_or_pos m with rfl | hm
    · rw [show (⟨(Lib.decDigits n.toNat).toArray⟩ : ByteArray) ++ ltr ((0 : Nat) : Int) = ⟨(Lib.decDigits n.toNat).toArray⟩ by rw [show ltr ((0 : Nat) : Int) = ⟨#[]⟩ from rfl]; apply ByteArray.ext; simp]
      go_enter Tryd.func24, Tryd.ntmps24
      go_wp2_with (first | (go_at_call 26; refine (Tryd.iIsPlate _ _ _ H.out _).mono ?_; rintro e w1 ⟨rfl, hbW⟩; have hcW := (bcell hbW.below).1; have hfW := (bcell hbW.below).2; (try have hzW : w.heap.size < w1.heap.size := by have hq := hbW.below.size; (try simp at hq); omega); (try have hyW : w.heap.size + 1 < w1.heap.size := by have hq := hbW.below.size; (try simp at hq); omega); (try have hxW : w.heap.size + 2 < w1.heap.size := by have hq := hbW.below.size; (try simp at hq); omega)))
      refine (Tryd.itoa _ a1 (by omega) _ (HT.out.gr (by repeat (first | exact Gr.refl _ | refine Gr.alloc ?_ _ | refine Gr.trans ?_ (by assumption) | refine Gr.drew ?_ | refine Gr.drewN ?_ _ | refine Gr.grow ?_ _ | refine Gr.setCell ?_ (by (try simp); (try omega)) _)))).mono ?_
      rintro e w2 ⟨rfl, g2⟩
      have c2 := (bcell g2.below).1
      have z2 : w.heap.size < w2.heap.size := Nat.lt_of_lt_of_le hzW g2.below.size
      go_wp2
      go_ret2
      exact ⟨rfl, by repeat (first | exact Gr.refl _ | refine Gr.alloc ?_ _ | refine Gr.trans ?_ (by assumption) | refine Gr.drew ?_ | refine Gr.drewN ?_ _ | refine Gr.grow ?_ _ | refine Gr.setCell ?_ (by (try simp); (try omega)) _)⟩
    · have hc := sgn_cut m hm (by omega)
      have HC := Lib.hid hc
      have hadd := fun W => run_string_add (P := Tryd.prog) (w := W) ⟨(Lib.decDigits n.toNat).toArray⟩ (sgn.extract m (m + 1)) (dec_size _ (by omega)) (by rw [hc]; exact ltr_size m)
      unfold sgn at hadd
      have z1 : (0 : Int) < (m : Int) := by omega
      clear hc
      go_enter Tryd.func24, Tryd.ntmps24
      go_wp2_with (first | (go_at_call 26; refine (Tryd.iIsPlate _ _ _ H.out _).mono ?_; rintro e w1 ⟨rfl, hbW⟩; have hcW := (bcell hbW.below).1; have hfW := (bcell hbW.below).2; (try have hzW : w.heap.size < w1.heap.size := by have hq := hbW.below.size; (try simp at hq); omega); (try have hyW : w.heap.size + 1 < w1.heap.size := by have hq := hbW.below.size; (try simp at hq); omega); (try have hxW : w.heap.size + 2 < w1.heap.size := by have hq := hbW.below.size; (try simp at hq); omega)))
      refine (Tryd.itoa _ a1 (by omega) _ (HT.out.gr (by repeat (first | exact Gr.refl _ | refine Gr.alloc ?_ _ | refine Gr.trans ?_ (by assumption) | refine Gr.drew ?_ | refine Gr.drewN ?_ _ | refine Gr.grow ?_ _ | refine Gr.setCell ?_ (by (try simp); (try omega)) _)))).mono ?_
      rintro e w2 ⟨rfl, g2⟩
      have c2 := (bcell g2.below).1
      have z2 : w.heap.size < w2.heap.size := Nat.lt_of_lt_of_le hzW g2.below.size
      go_wp2
      go_ret2
      refine ⟨?_, by repeat (first | exact Gr.refl _ | refine Gr.alloc ?_ _ | refine Gr.trans ?_ (by assumption) | refine Gr.drew ?_ | refine Gr.drewN ?_ _ | refine Gr.grow ?_ _ | refine Gr.setCell ?_ (by (try simp); (try omega)) _)⟩
      show Ending.returned (.tuple #[.string (⟨(Lib.decDigits n.toNat).toArray⟩ ++ sgn.extract m (m + 1)), .bool true]) = _
      rw [HC.out]
end Go.Proofs
