/-
  Contracts of chapter 2: numbers between those of plates that no plate has.
-/
import Derived.Test.YtbnkhmemicmadabPlK
import Derived.Test.YtbnkhmemicmadabInts2
namespace Go.Proofs
open Go.RowKit Pl
set_option linter.unusedVariables false
set_option linter.unusedSimpArgs false
def rng (a b : Int) : List Int := (List.range (b - a).toNat).map fun (j : Nat) => a + j
theorem rng_nil (a b : Int) (h : b ≤ a) : rng a b = [] := by unfold rng; rw [show (b - a).toNat = 0 by omega]; rfl
theorem rng_succ (a b : Int) (h : a ≤ b) : rng a (b + 1) = rng a b ++ [b] := by
  unfold rng
  rw [show (b + 1 - a).toNat = (b - a).toNat + 1 by omega, List.range_succ, List.map_append]
  simp; omega
theorem rng_len (a b : Int) : (rng a b).length = (b - a).toNat := by simp [rng]
/-- the first number that is asked for behind the first k plates -/
def gst (ps : List Pi2) (k : Nat) : Int := if k = 0 then (ps.getD 0 (0, 0)).1 else (ps.getD (k - 1) (0, 0)).1 + 1
def gp (ps : List Pi2) : Nat → List Int
  | 0 => []
  | k + 1 => gp ps k ++ rng (gst ps k) (ps.getD k (0, 0)).1
theorem gst_bd {ps : List Pi2} (h : Ok ps) (k : Nat) (hk : k ≤ ps.length) (hpos : 0 < ps.length) : 1 ≤ gst ps k ∧ gst ps k ≤ 10000 := by
  unfold gst
  have a := fun j hj => h.2.2.1 _ (List.getElem_mem (l := ps) (n := j) hj)
  split
  · have := a 0 hpos; rw [getD_eq _ _ hpos]; unfold IsP at this; omega
  · have := a (k - 1) (by omega); rw [getD_eq _ _ (by omega)]; unfold IsP at this; omega
theorem num_bd {ps : List Pi2} (h : Ok ps) (k : Nat) (hk : k < ps.length) : 1 ≤ (ps.getD k (0, 0)).1 ∧ (ps.getD k (0, 0)).1 ≤ 9999 := by
  have := h.2.2.1 _ (List.getElem_mem hk)
  rw [getD_eq _ _ hk]; unfold IsP at this; omega
theorem gp_len {ps : List Pi2} (h : Ok ps) (k : Nat) (hk : k ≤ ps.length) : (gp ps k).length ≤ 10000 * k := by
  induction k with
  | zero => simp [gp]
  | succ k ih =>
    have := ih (by omega)
    have a := gst_bd h k (by omega) (by omega)
    have b := num_bd h k (by omega)
    simp only [gp, List.length_append, rng_len]
    omega
def gpV (ps : List Pi2) : List Int := if okB ps then gp ps ps.length else []
theorem gpV_len (ps : List Pi2) : (gpV ps).length ≤ 1000000 := by
  unfold gpV
  split
  · rename_i h
    have h' := (okB_iff ps).1 h
    have := gp_len h' ps.length (Nat.le_refl _)
    have := h'.2.1
    omega
  · simp
def ORelV (ps : List Pi2) (w : World) (s i : Value) (wr : World) : Prop := ∃ k : Nat, 1 ≤ k ∧ k ≤ ps.length ∧ i = .int .i64 k ∧ OwnI wr w.heap.size s (gp ps k) ∧ Below w.heap.size w wr
def NRelV (ps : List Pi2) (k : Nat) (w : World) (s n : Value) (wr : World) : Prop := ∃ m : Int, gst ps k ≤ m ∧ (m ≤ (ps.getD k (0, 0)).1 ∨ m = gst ps k) ∧ n = .int .i64 m ∧ OwnI wr w.heap.size s (gp ps k ++ rng (gst ps k) m) ∧ Below w.heap.size w wr
theorem gp_done (ps : List Pi2) (k : Nat) (m : Int) (h1 : gst ps k ≤ m) (h2 : m ≤ (ps.getD k (0, 0)).1 ∨ m = gst ps k) (h3 : ¬ m < (ps.getD k (0, 0)).1) : gp ps k ++ rng (gst ps k) m = gp ps (k + 1) := by
  simp only [gp]
  rcases h2 with q | q
  · rw [show m = (ps.getD k (0, 0)).1 by omega]
  · subst q
    rw [rng_nil _ _ (Int.le_refl _), rng_nil _ _ (by omega)]
set_option maxRecDepth 100000 in
set_option maxHeartbeats 1600000 in
theorem Try.sGapsOfPlates (w : World) (B : Nat) (v : Value) (ps : List Pi2) (hl : ps.length ≤ 1048576) (h : OwnP 34 w B v ps) :
    Calls Try.prog 24 #[v] w fun e w' => ∃ v, e = .returned (.tuple #[v, .bool (okB ps)]) ∧ OwnI w' w.heap.size v (gpV ps) ∧ Below w.heap.size w w' := by
  cases hg : okB ps
  · have HA := Lib.hid (Try.isGood w B v ps false (okB_i ps _ hg) hl h)
    rw [show gpV ps = [] by simp [gpV, hg]]
    obtain ⟨A, c, rfl, h⟩ := h.eta
    clear h hg
    go_enter Try.func24, Try.ntmps24
    go_wp2_with (go_at_call 42; refine (HA.out).mono ?_; rintro e w1 ⟨rfl, hbW⟩; have hcW := (bcell hbW.below).1; have hfW := (bcell hbW.below).2; (try have hzW : w.heap.size < w1.heap.size := by have hq := hbW.below.size; (try simp at hq); omega); (try have hyW : w.heap.size + 1 < w1.heap.size := by have hq := hbW.below.size; (try simp at hq); omega); (try have hxW : w.heap.size + 2 < w1.heap.size := by have hq := hbW.below.size; (try simp at hq); omega))
    go_ret2
    exact ⟨_, rfl, OwnI.nil2 _ _, Gr.below (by repeat (first | exact Gr.refl _ | refine Gr.alloc ?_ _ | refine Gr.trans ?_ (by assumption) | refine Gr.drew ?_ | refine Gr.drewN ?_ _ | refine Gr.grow ?_ _ | refine Gr.setCell ?_ (by (try simp); (try omega)) _))⟩
  · have HA := Lib.hid (Try.isGood w B v ps true (okB_i ps _ hg) hl h)
    have hok := (okB_iff ps).1 hg
    have HOK := Lib.hid hok
    have h60 := hok.2.1
    rw [show gpV ps = gp ps ps.length by simp [gpV, hg]]
    rcases h.view with ⟨hz, _⟩ | ⟨hpos, g, c, rfl, _, g2, _, _, hc, _⟩
    · subst hz; have := hok.1; simp at this
    · have HC := Lib.hid hc
      clear h hc hg hok
      go_enter Try.func24, Try.ntmps24
      go_wp2_with (go_at_call 42; refine (HA.out).mono ?_; rintro e w1 ⟨rfl, hbW⟩; have hcW := (bcell hbW.below).1; have hfW := (bcell hbW.below).2; (try have hzW : w.heap.size < w1.heap.size := by have hq := hbW.below.size; (try simp at hq); omega); (try have hyW : w.heap.size + 1 < w1.heap.size := by have hq := hbW.below.size; (try simp at hq); omega); (try have hxW : w.heap.size + 2 < w1.heap.size := by have hq := hbW.below.size; (try simp at hq); omega))
      have HBW := Lib.hid hbW
      clear hcW hfW hbW
      go_loopw [4, 5, 6] (fun s i _ wr => ORelV ps w s i wr) (fun _ i _ _ => (ps.length - intOf i).toNat)
      case atStart => exact ⟨1, by omega, by omega, rfl, by rw [show gp ps 1 = [] by simp [gp, gst, rng_nil]]; exact OwnI.nil2 _ _, Gr.below HBW.out⟩
      case round =>
        obtain ⟨k, hk1, hk, rfl, ho, hb⟩ := hrel
        by_cases hlt : k < ps.length
        · obtain ⟨m, hm⟩ : ∃ m, k = m + 1 := ⟨k - 1, by omega⟩
          have hml : m < ps.length := by omega
          have e0 := cell_k2 hb (HC.out m hml).1
          have ek := cell_k2 hb (HC.out k hlt).1
          obtain ⟨n1, n2⟩ := num_bd HOK.out m hml
          obtain ⟨n3, n4⟩ := num_bd HOK.out k hlt
          have es : gst ps k = (ps.getD m (0, 0)).1 + 1 := by unfold gst; rw [if_neg (by omega), hm]; rfl
          have wi : (k : Int) - 1 = (m : Int) := by omega
          have z0 : (0 : Int) ≤ (k : Int) := by omega
          have z1 : (k : Int) < (ps.length : Int) := by omega
          have z2 : (0 : Int) ≤ (m : Int) := by omega
          have z3 : (m : Int) < (ps.length : Int) := by omega
          have HM := Lib.hid hm
          have HO := Lib.hid ho
          have HB := Lib.hid hb
          have sz := hb.size
          have HL := Lib.hid (gp_len HOK.out k hk)
          obtain ⟨x, hx⟩ : ∃ x, (ps.getD m (0, 0)).1 = x := ⟨_, rfl⟩
          obtain ⟨y, hy⟩ : ∃ y, (ps.getD k (0, 0)).1 = y := ⟨_, rfl⟩
          rw [hx] at e0 n1 n2 es
          rw [hy] at ek n3 n4
          have HX := Lib.hid hx
          have HY := Lib.hid hy
          have ES := Lib.hid es
          clear hm es ho hb hx hy
          go_wp2
          go_loopw [4, 6] (fun s n wr => NRelV ps k w s n wr) (fun _ n _ => (y - intOf n).toNat)
          case atStart => exact ⟨x + 1, by rw [ES.out]; exact Int.le_refl _, .inr ES.out.symm, by go_num, by rw [ES.out, rng_nil _ _ (Int.le_refl _), List.append_nil]; exact HO.out, HB.out⟩
          case round =>
            obtain ⟨n, h1, h2, rfl, ho, hb⟩ := hrel
            have ek := cell_k2 hb (HC.out k hlt).1
            rw [HY.out] at ek
            have h1' : x + 1 ≤ n := by rw [ES.out] at h1; exact h1
            have h2' : n ≤ 10000 := by rcases h2 with q | q; (rw [HY.out] at q; omega); (rw [ES.out] at q; omega)
            have HH1 := Lib.hid h1
            have HH2 := Lib.hid h2
            have sz := hb.size
            have HO := Lib.hid ho
            have HB := Lib.hid hb
            clear h1 h2 ho hb
            by_cases hny : n < y
            · have HL2 := Lib.hid (show (gp ps k ++ rng (gst ps k) n).length ≤ 1000000000 by
                have := HL.out
                rw [List.length_append, rng_len, ES.out]; omega)
              go_wp2_with (at_builtin; refine wpList_app1I rfl _ _ 39 rfl Try.underlying39 Try.infoI2 w.heap.size _ _ rfl HO.out n rfl HL2.out sz ?_; intro v' w3 ho3 hb3 _ _)
              have OW := Lib.hid ho3
              have GB := Lib.hid (HB.out.trans hb3)
              clear ho3 hb3
              go_wp2
              go_roundw
              case rel => exact ⟨n + 1, by have := HH1.out; omega, .inl (by rw [HY.out]; omega), by go_num, by rw [rng_succ _ _ HH1.out, ← List.append_assoc]; exact OW.out, GB.out⟩
              case measure => simp [intOf]; omega
            · have HD := Lib.hid (gp_done ps k n HH1.out HH2.out (by rw [HY.out]; exact hny))
              go_wp2
              go_roundw
              case rel => exact ⟨k + 1, by omega, by omega, by go_num, by rw [← HD.out]; exact HO.out, HB.out⟩
              case measure => simp [intOf]; omega
        · obtain rfl : k = ps.length := by omega
          have HO := Lib.hid ho
          have HB := Lib.hid hb
          clear ho hb
          go_wp2
          go_ret2
          exact ⟨_, rfl, HO.out, HB.out⟩
theorem own_ne_box {w : World} {B b : Nat} {v : Value} {xs : List Int} {cs : Array Value} {T : TypeId} {fr : Nat × Nat} (h : OwnI w B v xs) (hb : w.heap[b]? = some (.cells cs T fr)) (ht : T ≠ 3) : some b ≠ v.ownBlock := by
  rcases h.2 with ⟨rfl, _⟩ | ⟨g, cap, cur, rfl, _, hg, _⟩
  · simp [Value.ownBlock]
  · intro e
    have e' : b = g := by simpa [Value.ownBlock] using e
    subst e'
    rw [hb] at hg
    simp only [Option.some.injEq, Obj.cells.injEq] at hg
    exact ht hg.2.1
theorem box_cell {w : World} {b : Nat} {x y : Value} {T : TypeId} (h : w.heap[b]? = some (.cells #[x, y] T (0, 0))) : w.cell? ⟨b, 0, none⟩ = some x ∧ w.cell? ⟨b, 1, none⟩ = some y :=
  ⟨by rw [cell_of_row w b 0 _ T (0, 0) h]; rfl, by rw [cell_of_row w b 1 _ T (0, 0) h]; rfl⟩
def ORelW (ps : List Pi2) (w : World) (s x i : Value) (wr : World) : Prop := ∃ k : Nat, k ≤ ps.length ∧ i = .int .i64 k ∧ x = .int .i64 (gst ps k) ∧ OwnI wr w.heap.size s (gp ps k) ∧ Below w.heap.size w wr
def NRelW (T : TypeId) (b : Nat) (y l : Int) (ps : List Pi2) (k : Nat) (w : World) (s n : Value) (wr : World) : Prop :=
  ∃ m : Int, gst ps k ≤ m ∧ (m ≤ (ps.getD k (0, 0)).1 ∨ m = gst ps k) ∧ n = .int .i64 m ∧ OwnI wr w.heap.size s (gp ps k ++ rng (gst ps k) m) ∧ Below w.heap.size w wr ∧ wr.heap[b]? = some (.cells #[.int .i64 y, .int .i64 l] T (0, 0))
set_option maxRecDepth 100000 in
set_option maxHeartbeats 1600000 in
theorem Try.iGapsOfPlates (w : World) (B : Nat) (v : Value) (ps : List Pi2) (hl : ps.length ≤ 1048576) (h : OwnP 34 w B v ps) :
    Calls Try.prog 25 #[v] w fun e w' => ∃ v, e = .returned (.tuple #[v, .bool (okB ps)]) ∧ OwnI w' w.heap.size v (gpV ps) ∧ Below w.heap.size w w' := by
  cases hg : okB ps
  · have HA := Lib.hid (Try.iArePlates w B v ps false (okB_i ps _ hg) hl h)
    rw [show gpV ps = [] by simp [gpV, hg]]
    obtain ⟨A, c, rfl, h⟩ := h.eta
    clear h hg
    go_enter Try.func25, Try.ntmps25
    go_wp2_with (go_at_call 46; refine (HA.out).mono ?_; rintro e w1 ⟨rfl, hbW⟩; have hcW := (bcell hbW.below).1; have hfW := (bcell hbW.below).2; (try have hzW : w.heap.size < w1.heap.size := by have hq := hbW.below.size; (try simp at hq); omega); (try have hyW : w.heap.size + 1 < w1.heap.size := by have hq := hbW.below.size; (try simp at hq); omega); (try have hxW : w.heap.size + 2 < w1.heap.size := by have hq := hbW.below.size; (try simp at hq); omega))
    go_ret2
    exact ⟨_, rfl, OwnI.nil2 _ _, Gr.below (by repeat (first | exact Gr.refl _ | refine Gr.alloc ?_ _ | refine Gr.trans ?_ (by assumption) | refine Gr.drew ?_ | refine Gr.drewN ?_ _ | refine Gr.grow ?_ _ | refine Gr.setCell ?_ (by (try simp); (try omega)) _))⟩
  · have HA := Lib.hid (Try.iArePlates w B v ps true (okB_i ps _ hg) hl h)
    have hok := (okB_iff ps).1 hg
    have HOK := Lib.hid hok
    have h60 := hok.2.1
    rw [show gpV ps = gp ps ps.length by simp [gpV, hg]]
    rcases h.view with ⟨hz, _⟩ | ⟨hpos, g, c, rfl, _, g2, _, _, hc, _⟩
    · subst hz; have := hok.1; simp at this
    · have HC := Lib.hid hc
      obtain ⟨f, hf⟩ : ∃ f, (ps.getD 0 (0, 0)).1 = f := ⟨_, rfl⟩
      have e0 := (hc 0 hpos).1
      rw [hf] at e0
      simp only [Nat.zero_mul] at e0
      have HF := Lib.hid hf
      have zp : (0 : Int) < (ps.length : Int) := by omega
      clear h hc hg hok hf
      go_enter Try.func25, Try.ntmps25
      go_wp2_with (go_at_call 46; refine (HA.out).mono ?_; rintro e w1 ⟨rfl, hbW⟩; have hcW := (bcell hbW.below).1; have hfW := (bcell hbW.below).2; (try have hzW : w.heap.size < w1.heap.size := by have hq := hbW.below.size; (try simp at hq); omega); (try have hyW : w.heap.size + 1 < w1.heap.size := by have hq := hbW.below.size; (try simp at hq); omega); (try have hxW : w.heap.size + 2 < w1.heap.size := by have hq := hbW.below.size; (try simp at hq); omega))
      have HBW := Lib.hid hbW
      clear hcW hfW hbW e0
      go_loopw [4, 5, 7, 17] (fun s x _ i wr => ORelW ps w s x i wr) (fun _ _ _ i _ => (ps.length - intOf i).toNat)
      case atStart => exact ⟨0, by omega, rfl, by rw [show gst ps 0 = f by rw [← HF.out]; simp [gst]], by rw [show gp ps 0 = [] from rfl]; exact OwnI.nil2 _ _, Gr.below HBW.out⟩
      case round =>
        obtain ⟨k, hk, rfl, rfl, ho, hb⟩ := hrel
        by_cases hlt : k < ps.length
        · have ek := cell_k2 hb (HC.out k hlt).1
          have el := cell_k2 hb (HC.out k hlt).2
          obtain ⟨n3, n4⟩ := num_bd HOK.out k hlt
          obtain ⟨g1, g2'⟩ := gst_bd HOK.out k hk hpos
          have z0 : (0 : Int) ≤ (k : Int) := by omega
          have z1 : (k : Int) < (ps.length : Int) := by omega
          have sz := hb.size
          have HL := Lib.hid (gp_len HOK.out k hk)
          obtain ⟨x, hx⟩ : ∃ x, gst ps k = x := ⟨_, rfl⟩
          obtain ⟨y, hy⟩ : ∃ y, (ps.getD k (0, 0)).1 = y := ⟨_, rfl⟩
          obtain ⟨l, hll⟩ : ∃ l, (ps.getD k (0, 0)).2 = l := ⟨_, rfl⟩
          rw [hx] at g1 g2'
          rw [hy] at ek n3 n4
          rw [hll] at el
          have HX := Lib.hid hx
          have HY := Lib.hid hy
          have HS := Lib.hid (show gst ps (k + 1) = y + 1 by rw [← hy]; simp [gst])
          have HO := Lib.hid ho
          have HB := Lib.hid hb
          have hsize : wr.heap.size < (wr.alloc (.cells #[.int .i64 y, .int .i64 l] 34)).heap.size := by simp
          have HN := Lib.hid (heap_alloc_new wr (.cells #[.int .i64 y, .int .i64 l] 34))
          have HGR := Lib.hid (Gr.alloc (Gr.refl wr) (.cells #[.int .i64 y, .int .i64 l] 34))
          rw [hx]
          clear ho hb hx hy hll
          obtain ⟨bk, hbk⟩ : ∃ bk, wr.heap.size = bk := ⟨_, rfl⟩
          have HBK := Lib.hid hbk
          clear hbk
          go_wp2
          go_loopw [4, 5] (fun s n w2 => NRelW 34 wr.heap.size y l ps k w s n w2) (fun _ n _ => (y - intOf n).toNat)
          case atStart => exact ⟨x, by rw [HX.out]; exact Int.le_refl _, .inr HX.out.symm, rfl, by rw [HX.out, rng_nil _ _ (Int.le_refl _), List.append_nil]; exact HO.out.gr HGR.out, HB.out.trans (HGR.out.below.mono HB.out.size), HN.out⟩
          case round =>
            obtain ⟨n, h1, h2, rfl, ho, hb, hbox⟩ := hrel
            obtain ⟨eb0, eb1⟩ := box_cell hbox
            have h1' : x ≤ n := by rw [HX.out] at h1; exact h1
            have h2' : n ≤ 10000 := by rcases h2 with q | q; (rw [HY.out] at q; omega); (rw [HX.out] at q; omega)
            have hne := own_ne_box ho hbox (by decide)
            have blt := (Array.getElem?_eq_some_iff.1 hbox).1
            have HH1 := Lib.hid h1
            have HH2 := Lib.hid h2
            have HNE := Lib.hid hne
            have HBOX := Lib.hid hbox
            have BLT := Lib.hid blt
            have sz := hb.size
            have HO := Lib.hid ho
            have HB := Lib.hid hb
            clear h1 h2 ho hb hbox hne blt
            by_cases hny : n < y
            · have HL2 := Lib.hid (show (gp ps k ++ rng (gst ps k) n).length ≤ 1000000000 by
                have := HL.out
                rw [List.length_append, rng_len, HX.out]; omega)
              go_wp2_with (at_builtin; refine wpList_app1I rfl _ _ 39 rfl Try.underlying39 Try.infoI2 w.heap.size _ _ rfl HO.out n rfl HL2.out sz ?_; intro v' w3 ho3 hb3 hg3 _)
              have OW := Lib.hid ho3
              have GB := Lib.hid (HB.out.trans hb3)
              have BX := Lib.hid ((hg3.block _ BLT.out HNE.out).trans HBOX.out)
              clear ho3 hb3 hg3
              go_wp2
              go_roundw
              case rel => exact ⟨n + 1, by have := HH1.out; omega, .inl (by rw [HY.out]; omega), by go_num, by rw [rng_succ _ _ HH1.out, ← List.append_assoc]; exact OW.out, GB.out, BX.out⟩
              case measure => simp [intOf]; omega
            · have HD := Lib.hid (gp_done ps k n HH1.out HH2.out (by rw [HY.out]; exact hny))
              go_wp2
              go_roundw
              case rel => exact ⟨k + 1, by omega, by go_num, by rw [HS.out], by rw [← HD.out]; exact HO.out, HB.out⟩
              case measure => simp [intOf]; omega
        · obtain rfl : k = ps.length := by omega
          have HO := Lib.hid ho
          have HB := Lib.hid hb
          clear ho hb
          go_wp2
          go_ret2
          exact ⟨_, rfl, HO.out, HB.out⟩
end Go.Proofs
