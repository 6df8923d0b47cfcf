/-
  Contracts of chapter 2: ParsePlates (the model's).
-/
import Derived.Test.YtcmlojidcpomjaaDoorPlSpl
import Derived.Test.YtcmlojidcpomjaaDoorPlY
import Derived.Test.YtcmlojidcpomjaaDoorPlK
import Derived.Test.YtcmlojidcpomjaaDoorArgsP
namespace Go.Proofs
open Go.RowKit Pl
set_option linter.unusedVariables false
set_option linter.unusedSimpArgs false
def psf (p : ByteArray) : Pi2 := (ppN p.data.toList, ppL p.data.toList)
def psA (xs : List ByteArray) : Bool := xs.all fun p => ppB p.data.toList
def psB (t : ByteArray) : Bool := decide (t.size ≤ 360) && (psA (spl t) && okB ((spl t).map psf))
def psV (t : ByteArray) : List Pi2 := if psB t then (spl t).map psf else []
theorem spl_pos (t : ByteArray) : 0 < (spl t).length := by
  unfold spl
  cases t.size with
  | zero => simp [Lib.splitB]
  | succ k => unfold Lib.splitB; split <;> simp
theorem spl_size (t : ByteArray) (ht : t.size ≤ maxLen) : ∀ x, x ∈ spl t → x.size ≤ maxLen := by
  unfold spl
  have key : ∀ (k : Nat) (s : ByteArray), s.size ≤ maxLen → ∀ x, x ∈ Lib.splitB cm 0 k s → x.size ≤ maxLen := by
    intro k
    induction k with
    | zero => intro s hs x hx; simp [Lib.splitB] at hx; subst hx; exact hs
    | succ k ih =>
      intro s hs x hx
      unfold Lib.splitB at hx
      split at hx
      · simp at hx; subst hx; exact hs
      · rcases List.mem_cons.1 hx with rfl | hx
        · rw [ByteArray.size_extract]; omega
        · exact ih _ (by rw [ByteArray.size_extract]; omega) x hx
  exact key _ _ ht
theorem spl_len (t : ByteArray) : (spl t).length ≤ t.size + 1 := Lib.splitB_length_le _ _ _ _
theorem spl_sum (t : ByteArray) : ((spl t).map fun p => p.size + 1).sum = t.size + 1 := by
  unfold spl
  have key : ∀ (k : Nat) (s : ByteArray), ((Lib.splitB cm 0 k s).map fun p => p.size + 1).sum = s.size + 1 := by
    intro k
    induction k with
    | zero => intro s; simp [Lib.splitB]
    | succ k ih =>
      intro s
      rcases Lib.indexB_cases s cm with h | ⟨i, h, hi⟩
      · rw [Lib.splitB_miss _ _ _ _ h]; simp
      · rw [Lib.splitB_hit _ _ _ _ i h, List.map_cons, List.sum_cons, ih]
        have : cm.size = 1 := rfl
        simp only [ByteArray.size_extract]
        omega
  exact key _ _
theorem sum_le (xs : List ByteArray) (h : psA xs = true) : (xs.map fun p => p.size + 1).sum ≤ 6 * xs.length := by
  induction xs with
  | nil => simp
  | cons x r ih =>
    simp only [psA, List.all_cons, Bool.and_eq_true] at h
    have h5 : x.size ≤ 5 := by
      have := h.1
      simp only [ppB, Bool.and_eq_true, decide_eq_true_eq] at this
      have e : x.data.toList.length = x.size := by simp
      omega
    have := ih h.2
    simp only [List.map_cons, List.sum_cons, List.length_cons]
    omega
/-- the length need not be asked -/
theorem psB_eq (t : ByteArray) : psB t = (psA (spl t) && okB ((spl t).map psf)) := by
  unfold psB
  cases h : psA (spl t) && okB ((spl t).map psf)
  · simp
  · rw [Bool.and_eq_true] at h
    have h60 := ((okB_iff _).1 h.2).2.1
    rw [List.length_map] at h60
    have h1 := spl_sum t
    have h2 := sum_le _ h.1
    simp; omega
def PsRel (xs : List ByteArray) (w : World) (o i : Value) (wr : World) : Prop := ∃ k : Nat, k ≤ xs.length ∧ i = .int .i64 k ∧ OwnP 31 wr w.heap.size o ((xs.take k).map psf) ∧ Below w.heap.size w wr ∧ ∀ j, j < k → ∀ x, xs[j]? = some x → ppB x.data.toList = true
/-- a call that hands back a list of plates and a bool -/
def RetP (w : World) (ps : List Pi2) (b : Bool) (e : Ending) (w' : World) : Prop := ∃ v, e = .returned (.tuple #[v, .bool b]) ∧ OwnP 31 w' w.heap.size v ps ∧ Below w.heap.size w w'
set_option maxRecDepth 100000 in
set_option maxHeartbeats 1600000 in
theorem Tryd.sParsePlates (t : ByteArray) (w : World) (ht : t.size ≤ 1048576) :
    Calls Tryd.prog 4 #[.string t] w (RetP w (psV t) (psB t)) := by
  by_cases hs : t.size ≤ 360
  · have HSP := Lib.hid (Tryd.l1Split t w (by omega))
    have hpos := spl_pos t
    have hlen := spl_len t
    have hsz : ∀ x, x ∈ spl t → x.size ≤ maxLen := spl_size t (by unfold maxLen; omega)
    have hV := Lib.hid (show psB t = (psA (spl t) && okB ((spl t).map psf)) by simp [psB, hs])
    have hW := Lib.hid (show psB t = true → psV t = (spl t).map psf from fun h => by simp [psV, h])
    have hW0 := Lib.hid (show psB t = false → psV t = [] from fun h => by simp [psV, h])
    generalize psV t = rv at *
    generalize psB t = rb at *
    generalize spl t = xs at *
    have d0 : decide (360 < (t.size : Int)) = false := by simp; omega
    have d0' : (t.size : Int) ≤ 360 := by omega
    have d0'' : ¬ (360 : Int) < (t.size : Int) := by omega
    go_enter Tryd.func4, Tryd.ntmps4
    go_wp2_with (first | (go_at_call 9; refine HSP.out.mono ?_; rintro e W ⟨v, rfl, ho, hb⟩; obtain ⟨g, c, rfl, hg, hc, hcell⟩ := ho.view hpos; have HC := Lib.hid hcell; have HBW := Lib.hid hb; clear ho hb hcell HSP))
    have HLX := Lib.hid (show xs.length ≤ 361 by omega)
    have HSZ := Lib.hid hsz
    have zx : (xs.length : Int) ≤ (c : Int) := by omega
    have HX := Lib.hid hc
    clear hsz hlen hpos d0 d0' d0''
    go_loopw [4, 15] (fun o i wr => PsRel xs W o i wr) (fun _ i _ => (xs.length - intOf i).toNat)
    case atStart => exact ⟨0, Nat.zero_le _, rfl, OwnP.nil _ _ _, Below.refl _ _, fun j hj => absurd hj (Nat.not_lt_zero _)⟩
    case round =>
      obtain ⟨k, hk, rfl, ho, hb, hall⟩ := hrel
      have z0 : (0 : Int) ≤ (k : Int) := by omega
      have HO := Lib.hid ho
      have HB := Lib.hid hb
      have HA := Lib.hid hall
      have sz := hb.size
      clear ho hall
      by_cases hlt : k < xs.length
      · obtain ⟨x, hx⟩ : ∃ x, xs[k]? = some x := ⟨xs[k], by simp [hlt]⟩
        have e0 := ((bcell hb).1 g (0 + k) hg).trans (HC.out k x hx)
        have HLT := Lib.hid hlt
        have hmx := HSZ.out x (List.mem_of_getElem? hx)
        have HIP := Lib.hid (fun (w : World) => Tryd.isParse x w hmx)
        have z1 : (k : Int) < (xs.length : Int) := by omega
        have z2 : (k : Int) < (c : Int) := by omega
        have z3 : (xs.length : Int) ≤ 361 := by have := HLX.out; omega
        rw [Nat.zero_add] at e0
        cases hp : ppB x.data.toList
        · have hrb : rb = false := by
            rw [hV.out]
            have : psA xs = false := by
              rw [psA, List.all_eq_false]
              exact ⟨x, List.mem_of_getElem? hx, by simp [hp]⟩
            rw [this]; rfl
          have hrv := hW0.out hrb
          subst hrb hrv
          clear hb
          go_wp2_with (first | (go_at_call 10; refine (HIP.out _).mono ?_; rintro e w1 ⟨x1, y1, rfl, hxy, hbW⟩; have hcW := (bcell hbW.below).1; have hfW := (bcell hbW.below).2))
          go_ret2
          have gf : Gr wr (w1.alloc (.cells #[.int .i64 x1, .int .i64 y1] 31)) := (by repeat (first | exact Gr.refl _ | refine Gr.alloc ?_ _ | refine Gr.trans ?_ (by assumption) | refine Gr.drew ?_ | refine Gr.drewN ?_ _ | refine Gr.grow ?_ _ | refine Gr.setCell ?_ (by (try simp); (try omega)) _))
          exact ⟨_, rfl, OwnP.nil _ _ _, HBW.out.trans ((HB.out.trans (gf.below.mono HB.out.size)).mono HBW.out.size)⟩
        · have hN := Lib.hid (show (xs.take (k + 1)).map psf = (xs.take k).map psf ++ [(ppN x.data.toList, ppL x.data.toList)] by
            rw [List.take_add_one, hx]; simp [psf])
          have hLN := Lib.hid (show ((xs.take k).map psf).length ≤ 1000000000 by have := HLX.out; simp; omega)
          have hALL := Lib.hid (show ∀ j, j < k + 1 → ∀ y, xs[j]? = some y → ppB y.data.toList = true from fun j hj y hy => by
            rcases (show j < k ∨ j = k by omega) with q | q
            · exact HA.out j q y hy
            · rw [q, hx] at hy; cases hy; exact hp)
          clear hb
          go_wp2_with (first | (go_at_call 10; refine (HIP.out _).mono ?_; rintro e w1 ⟨x1, y1, rfl, hxy, hbW⟩; obtain ⟨rfl, rfl⟩ := hxy hp; have hcW := (bcell hbW.below).1; have hfW := (bcell hbW.below).2; have zw := Nat.le_trans sz hbW.below.size) | (at_builtin; refine wpList_app1 rfl _ _ 22 rfl 31 Tryd.underlying22 Tryd.infoP W.heap.size _ _ rfl ((HO.out.gr hbW).gr (Gr.alloc (Gr.refl _) _)) (ppN x.data.toList) (ppL x.data.toList) (by show Value.slice (some ⟨w1.heap.size + 1, 0, none⟩) 1 1 = _; simp) hLN.out (by simp; omega) ?_; intro v' w3 ho3 hb3 _ _))
          go_roundw
          case rel =>
            have gf : Gr wr (w1.alloc (.cells #[.int .i64 (ppN x.data.toList), .int .i64 (ppL x.data.toList)] 31)) := (by repeat (first | exact Gr.refl _ | refine Gr.alloc ?_ _ | refine Gr.trans ?_ (by assumption) | refine Gr.drew ?_ | refine Gr.drewN ?_ _ | refine Gr.grow ?_ _ | refine Gr.setCell ?_ (by (try simp); (try omega)) _))
            have hl361 := HLX.out
            have hl0 := HLT.out
            exact ⟨k + 1, HLT.out, by go_num, by rw [hN.out]; exact ho3, (HB.out.trans (gf.below.mono HB.out.size)).trans hb3, hALL.out⟩
          case measure => have := HLT.out; have := HLX.out; simp [intOf]; omega
      · obtain rfl : k = xs.length := by omega
        have hps : psA xs = true := by
          rw [psA, List.all_eq_true]
          intro x hx
          obtain ⟨j, hj, rfl⟩ := List.getElem_of_mem hx
          exact HA.out j hj _ (by simp [hj])
        have hrb : rb = okB (xs.map psf) := by rw [hV.out, hps]; rfl
        have HL := Lib.hid (show (xs.map psf).length ≤ 1048576 by have := HLX.out; simp; omega)
        have ho := HO.out
        rw [List.take_length] at ho
        obtain ⟨A, c', rfl, ho⟩ := ho.eta
        have HO2 := Lib.hid ho
        have HK := Lib.hid hrb.symm
        clear ho hb hps hrb HO
        have hW := hW.out
        generalize xs.map psf = ps at *
        have HW := Lib.hid hW
        clear hW
        clear HA HSZ HC
        cases rb
        · have hrv := hW0.out rfl
          subst hrv
          go_wp2_with (first | (go_at_call 11; refine (Tryd.isGood _ W.heap.size _ _ _ (okB_i _ _ HK.out) HL.out HO2.out).mono ?_; rintro e w1 ⟨rfl, hbW⟩; have hcW := (bcell hbW.below).1; have hfW := (bcell hbW.below).2; (try have hzW : w.heap.size < w1.heap.size := by have hq := hbW.below.size; (try simp at hq); omega); (try have hyW : w.heap.size + 1 < w1.heap.size := by have hq := hbW.below.size; (try simp at hq); omega); (try have hxW : w.heap.size + 2 < w1.heap.size := by have hq := hbW.below.size; (try simp at hq); omega)))
          go_ret2
          have gf : Gr wr w1 := (by repeat (first | exact Gr.refl _ | refine Gr.alloc ?_ _ | refine Gr.trans ?_ (by assumption) | refine Gr.drew ?_ | refine Gr.drewN ?_ _ | refine Gr.grow ?_ _ | refine Gr.setCell ?_ (by (try simp); (try omega)) _))
          exact ⟨_, rfl, OwnP.nil _ _ _, HBW.out.trans ((HB.out.trans (gf.below.mono HB.out.size)).mono HBW.out.size)⟩
        · have hrv := HW.out rfl
          subst hrv
          go_wp2_with (first | (go_at_call 11; refine (Tryd.isGood _ W.heap.size _ _ _ (okB_i _ _ HK.out) HL.out HO2.out).mono ?_; rintro e w1 ⟨rfl, hbW⟩; have hcW := (bcell hbW.below).1; have hfW := (bcell hbW.below).2; (try have hzW : w.heap.size < w1.heap.size := by have hq := hbW.below.size; (try simp at hq); omega); (try have hyW : w.heap.size + 1 < w1.heap.size := by have hq := hbW.below.size; (try simp at hq); omega); (try have hxW : w.heap.size + 2 < w1.heap.size := by have hq := hbW.below.size; (try simp at hq); omega)))
          go_ret2
          have gf : Gr wr w1 := (by repeat (first | exact Gr.refl _ | refine Gr.alloc ?_ _ | refine Gr.trans ?_ (by assumption) | refine Gr.drew ?_ | refine Gr.drewN ?_ _ | refine Gr.grow ?_ _ | refine Gr.setCell ?_ (by (try simp); (try omega)) _))
          exact ⟨_, rfl, OwnP.mono (HO2.out.gr gf) HBW.out.size, HBW.out.trans ((HB.out.trans (gf.below.mono HB.out.size)).mono HBW.out.size)⟩
  · have e : psB t = false := by simp [psB, hs]
    rw [show psV t = [] by simp [psV, e], e]
    have d1 : decide (360 < t.size) = true := by simp; omega
    go_enter Tryd.func4, Tryd.ntmps4
    go_wp2
    go_ret2
    exact ⟨_, rfl, OwnP.nil _ _ _, Below.refl _ _⟩
end Go.Proofs
