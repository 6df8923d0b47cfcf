/-
  Contracts of chapter 2: a plate is put in (the model's).
-/
import Derived.Test.YtcmlojidcpomjaaPlP
import Derived.Deep.DeepCutAuto
import Derived.Deep.AppendLies
namespace Go.Proofs
open Go.RowKit Pl
set_option linter.unusedVariables false
set_option linter.unusedSimpArgs false
def iaB (ps : List Pi2) (p : Pi2) : Bool := decide (¬ (Has ps p ∨ 60 ≤ ps.length))
def iaV (ps : List Pi2) (p : Pi2) : List Pi2 := if iaB ps p then ins ps p else []
theorem two_keep {w1 w2 : World} {b B : Nat} {x y : Value} (h : w1.cell? ⟨b, 0, none⟩ = some x ∧ w1.cell? ⟨b, 1, none⟩ = some y) (g : Below B w1 w2) (hb : b < B) : w2.cell? ⟨b, 0, none⟩ = some x ∧ w2.cell? ⟨b, 1, none⟩ = some y :=
  ⟨(g.cell (p := ⟨b, 0, none⟩) hb).trans h.1, (g.cell (p := ⟨b, 1, none⟩) hb).trans h.2⟩
set_option maxRecDepth 100000 in
set_option maxHeartbeats 3200000 in
theorem Try.isAdd (w : World) (B : Nat) (v : Value) (ps : List Pi2) (p0 p1 : Int) (hi : ∀ q ∈ ps, IsP q) (hp : isP p0 p1 = true) (hpos : 0 < ps.length) (hl : ps.length ≤ 1048576) (h : OwnP 44 w B v ps) :
    Calls Try.prog 65 #[v, .agg #[.int .i64 p0, .int .i64 p1]] w fun e w' => ∃ v', e = .returned (.tuple #[v', .bool (iaB ps (p0, p1))]) ∧ OwnP 44 w' w.heap.size v' (iaV ps (p0, p1)) ∧ Below w.heap.size w w' := by
  have mixed : Try.prog.follows .mixedOrders = true := by kernel_rfl
  have hpl := fun (W : World) (g : Gr w W) => Try.isPlace W B v ps p0 p1 hi hp hl (h.gr g)
  have hn := plc_le ps (p0, p1)
  cases hb : iaB ps (p0, p1)
  · rw [show iaV ps (p0, p1) = [] by simp [iaV, hb]]
    unfold iaB at hb
    by_cases hh : Has ps (p0, p1)
    · rw [decide_eq_true hh] at hpl
      have HP := Lib.hid hpl
      generalize plc ps (p0, p1) = k at *
      obtain ⟨A, c, rfl, h⟩ := h.eta
      clear h hpl hb hh
      go_enter Try.func65, Try.ntmps65
      go_wp2_with (go_at_call 56; refine (HP.out _ (Gr.alloc (Gr.refl _) _)).mono ?_; rintro e w1 ⟨rfl, hbW⟩; have hcW := (bcell hbW.below).1; have hfW := (bcell hbW.below).2; (try have hzW : w.heap.size < w1.heap.size := by have hq := hbW.below.size; (try simp at hq); omega); (try have hyW : w.heap.size + 1 < w1.heap.size := by have hq := hbW.below.size; (try simp at hq); omega); (try have hxW : w.heap.size + 2 < w1.heap.size := by have hq := hbW.below.size; (try simp at hq); omega))
      go_ret2
      exact ⟨_, rfl, OwnP.nil _ _ _, Gr.below (by repeat (first | exact Gr.refl _ | refine Gr.alloc ?_ _ | refine Gr.trans ?_ (by assumption) | refine Gr.drew ?_ | refine Gr.drewN ?_ _ | refine Gr.grow ?_ _ | refine Gr.setCell ?_ (by (try simp); (try omega)) _))⟩
    · rw [decide_eq_false hh] at hpl
      have h60 : 60 ≤ ps.length := by
        have := of_decide_eq_false hb
        exact Classical.byContradiction fun q => this (fun r => r.elim hh q)
      have HP := Lib.hid hpl
      generalize plc ps (p0, p1) = k at *
      obtain ⟨A, c, rfl, h⟩ := h.eta
      have z : (60 : Int) ≤ (ps.length : Int) := by omega
      clear h hpl hb hh h60
      go_enter Try.func65, Try.ntmps65
      go_wp2_with (go_at_call 56; refine (HP.out _ (Gr.alloc (Gr.refl _) _)).mono ?_; rintro e w1 ⟨rfl, hbW⟩; have hcW := (bcell hbW.below).1; have hfW := (bcell hbW.below).2; (try have hzW : w.heap.size < w1.heap.size := by have hq := hbW.below.size; (try simp at hq); omega); (try have hyW : w.heap.size + 1 < w1.heap.size := by have hq := hbW.below.size; (try simp at hq); omega); (try have hxW : w.heap.size + 2 < w1.heap.size := by have hq := hbW.below.size; (try simp at hq); omega))
      go_ret2
      exact ⟨_, rfl, OwnP.nil _ _ _, Gr.below (by repeat (first | exact Gr.refl _ | refine Gr.alloc ?_ _ | refine Gr.trans ?_ (by assumption) | refine Gr.drew ?_ | refine Gr.drewN ?_ _ | refine Gr.grow ?_ _ | refine Gr.setCell ?_ (by (try simp); (try omega)) _))⟩
  · rw [show iaV ps (p0, p1) = ps.take (plc ps (p0, p1)) ++ [(p0, p1)] ++ ps.drop (plc ps (p0, p1)) by simp [iaV, hb, ins]]
    have hbb := of_decide_eq_true hb
    have hh : ¬ Has ps (p0, p1) := fun q => hbb (.inl q)
    have h60 : ps.length < 60 := Nat.lt_of_not_le fun q => hbb (.inr q)
    rw [decide_eq_false hh] at hpl
    have HP := Lib.hid hpl
    generalize plc ps (p0, p1) = k at *
    have z : (ps.length : Int) < 60 := by omega
    have z0 : (0 : Int) ≤ (k : Int) := by omega
    have z1 : (k : Int) ≤ (ps.length : Int) := by omega
    rcases h.2 with ⟨rfl, hz⟩ | ⟨g, cap, cur, rfl, _, hg, hcap, hmax, _, _⟩
    · omega
    · have z2 : (ps.length : Int) ≤ (cap : Int) := by omega
      have z3 : (k : Int) ≤ (cap : Int) := by omega
      have HO := Lib.hid h
      have HG := Lib.hid hg
      have HM := Lib.hid hmax
      clear h hpl hb hh h60 hbb hg
      go_enter Try.func65, Try.ntmps65
      go_upto_region 4 with (go_at_call 56; refine (HP.out _ (Gr.alloc (Gr.refl _) _)).mono ?_; rintro e w1 ⟨rfl, hbW⟩; have hcW := (bcell hbW.below).1; have hfW := (bcell hbW.below).2; (try have hzW : w.heap.size < w1.heap.size := by have hq := hbW.below.size; (try simp at hq); omega); (try have hyW : w.heap.size + 1 < w1.heap.size := by have hq := hbW.below.size; (try simp at hq); omega); (try have hxW : w.heap.size + 2 < w1.heap.size := by have hq := hbW.below.size; (try simp at hq); omega))
      have W0 : w.heap.size < w1.heap.size := hzW
      have s0 : w1.cell? ⟨w.heap.size, 0, none⟩ = some (.int .i64 p0) ∧ w1.cell? ⟨w.heap.size, 1, none⟩ = some (.int .i64 p1) := by
        obtain ⟨q0, q1⟩ := boxG (w := w) (W := w1) (a := .int .i64 p0) (b := .int .i64 p1) (t := 44) hbW
        have e : Go.Sort.grow (w1.drewN 0) #[] = w1 := by rw [Go.Sort.grow_empty]; rfl
        have r0 := q0 0 #[]; have r1 := q1 0 #[]
        rw [e] at r0 r1
        exact ⟨r0, r1⟩
      have HO1 := Lib.hid ((HO.out.gr (Gr.alloc (Gr.refl _) _)).gr hbW)
      have hg1 : g < w1.heap.size := by
        have := (World.ownsRow.lt HO1.out g rfl).2
        exact this
      have HR := Lib.hid (show ∀ j u, (pcs (ps.take k))[j]? = some u → w1.cell? ((⟨g, 0, none⟩ : Addr).add j) = some u by have := HO1.out.reads rfl 0 k (by omega); simpa using this)
      have HBW := Lib.hid hbW
      clear hcW hfW hbW
      go_cut [8] (fun s8 wx => OwnP 44 wx w1.heap.size s8 (ps.take k ++ [(p0, p1)]) ∧ Below w1.heap.size w1 wx)
      case first =>
        go_region_held3 (fun W' => W'.cell? ⟨w.heap.size, 0, none⟩ = some (.int .i64 p0) ∧ W'.cell? ⟨w.heap.size, 1, none⟩ = some (.int .i64 p1))
          (first | go_keep | exact two_keep (by assumption) hb4 W0 | exact two_keep (by assumption) hb3 W0)
          ((first | (refine step_appP rfl (.tmp 21) (.tmp 24) 42 rfl 44 Try.underlying42 Try.infoP w1.heap.size (.slice (some ⟨w1.heap.size, 0, none⟩) 0 0) [] rfl (own_empty (by first | exact heap_new' (by simp) | exact (Below.heap_alloc _ _ _ (by simp)).trans (heap_new' (by simp))) (by omega)) _ _ _ (ps.take k) rfl (by simp; omega) (fun j u hu => Gr.keep0 (w := w1) (by repeat (first | exact Gr.refl _ | refine Gr.alloc ?_ _ | refine Gr.trans ?_ (by assumption) | refine Gr.drew ?_ | refine Gr.drewN ?_ _ | refine Gr.grow ?_ _ | refine Gr.setCell ?_ (by (try simp); (try omega)) _)) (HR.out j u hu)) (by simp) (by (try simp); (try omega)) (by (try simp); (try omega)) ?_; intro v3 w3 ho3 hb3 hg3) | (refine step_appP rfl (.tmp 21) (.tmp 24) 42 rfl 44 Try.underlying42 Try.infoP w1.heap.size (.slice (some ⟨w1.heap.size + 1, 0, none⟩) 0 0) [] rfl (own_empty (by first | exact heap_new' (by simp) | exact (Below.heap_alloc _ _ _ (by simp)).trans (heap_new' (by simp))) (by omega)) _ _ _ (ps.take k) rfl (by simp; omega) (fun j u hu => Gr.keep0 (w := w1) (by repeat (first | exact Gr.refl _ | refine Gr.alloc ?_ _ | refine Gr.trans ?_ (by assumption) | refine Gr.drew ?_ | refine Gr.drewN ?_ _ | refine Gr.grow ?_ _ | refine Gr.setCell ?_ (by (try simp); (try omega)) _)) (HR.out j u hu)) (by simp) (by (try simp); (try omega)) (by (try simp); (try omega)) ?_; intro v3 w3 ho3 hb3 hg3) | (refine step_appP rfl (.tmp 25) (.tmp 27) 42 rfl 44 Try.underlying42 Try.infoP w1.heap.size _ _ rfl (by first | exact ho3 | exact OwnP.gr ho3 (Gr.alloc (Gr.refl _) _)) _ _ _ [(p0, p1)] rfl rfl (fun j u hu => by first | exact alloc_cells' (by simp) hu | exact hg3.cell (alloc_cells' (by simp) hu) (by simp [Value.ownBlock, Addr.add_lit]) | exact hg3.cell ((Gr.alloc (Gr.refl _) _).keep0 (alloc_cells' (by simp) hu)) (by simp [Value.ownBlock, Addr.add_lit])) (by (try simp); (try omega)) (by simp) (by have q := hb3.size; (try simp at q); (try simp); omega) ?_; intro v4 w4 ho4 hb4 hg4)))
        all_goals
          go_wp2_with fail
          go_meet
          refine ⟨by simpa using ho4, ?_⟩
          have q3 := hb3.size
          (try simp at q3)
          (repeat (first | exact Below.refl _ _ | refine Below.trans ?_ hb4 | refine Below.trans ?_ hb3 | refine Below.alloc ?_ (by (try simp); (try omega)) _ | refine Below.drew ?_))
      case rest =>
        obtain ⟨hov, hbx⟩ := hcut
        have HOV := Lib.hid hov
        have HBX := Lib.hid hbx
        have HOC := Lib.hid (HO1.out.below hbx (Nat.le_refl _))
        have s3 := hbx.size
        clear hov hbx
        by_cases hkc : cap = k
        · have hd : ps.drop k = [] := List.drop_eq_nil_of_le (by omega)
          have HR2 := Lib.hid (show ∀ j u, (pcs (ps.drop k))[j]? = some u → wc.cell? ((⟨g, 0, none⟩ : Addr).add j) = some u by rw [hd]; intro j u hu; simp [pcs] at hu)
          clear hd
          go_wp2_with (at_builtin; refine wpList_appP rfl (.tmp 29) (.tmp 32) 42 rfl 44 Try.underlying42 Try.infoP w1.heap.size _ _ rfl HOV.out _ _ _ (ps.drop k) rfl (by simp; try omega) HR2.out (by simp; omega) (by simp; omega) s3 ?_; intro v5 w5 ho5 hb5 _)
          go_ret2
          exact ⟨_, rfl, OwnP.mono ho5 (Nat.le_of_lt W0), ((Gr.below (Gr.trans (Gr.alloc (Gr.refl _) _) HBW.out)).trans (HBX.out.mono (Nat.le_of_lt W0))).trans (hb5.mono (Nat.le_of_lt W0))⟩
        · have HR2 := Lib.hid (show ∀ j u, (pcs (ps.drop k))[j]? = some u → wc.cell? ((⟨g, k * 2, none⟩ : Addr).add j) = some u by
            have := HOC.out.reads rfl k (ps.length - k) (by omega)
            rwa [List.take_of_length_le (by simp)] at this)
          go_wp2_with (at_builtin; refine wpList_appP rfl (.tmp 29) (.tmp 32) 42 rfl 44 Try.underlying42 Try.infoP w1.heap.size _ _ rfl HOV.out _ _ _ (ps.drop k) rfl (by simp; try omega) HR2.out (by simp; omega) (by simp; omega) s3 ?_; intro v5 w5 ho5 hb5 _)
          go_ret2
          exact ⟨_, rfl, OwnP.mono ho5 (Nat.le_of_lt W0), ((Gr.below (Gr.trans (Gr.alloc (Gr.refl _) _) HBW.out)).trans (HBX.out.mono (Nat.le_of_lt W0))).trans (hb5.mono (Nat.le_of_lt W0))⟩
end Go.Proofs
