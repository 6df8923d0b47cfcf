/-
  Chapter 9: the houses that fit all clues, the program (impl.leftBy).
-/
import Derived.Test.YtbnabjnpdkmbhaaPzG
namespace Go.Proofs
open Go.RowKit
set_option linter.unusedVariables false
set_option linter.unusedSimpArgs false
def ptrI (v : Value) (w : World) : Int := match v with
  | .pointer (some a) => (match w.cell? a with | some x => intOf x | none => 0)
  | _ => 0
theorem CluRow.below {w w' : World} {v : Value} {cs : List Clu} (h : CluRow w v cs) (g : Below w.heap.size w w') : CluRow w' v cs := by
  obtain ⟨A, c, e, h0, h1, h2⟩ := h
  refine ⟨A, c, e, h0, h1, h2.imp id ?_⟩
  rintro ⟨b, o, e2, h3⟩
  exact ⟨b, o, e2, fun j hj => ⟨cell_k2 g (h3 j hj).1, cell_k2 g (h3 j hj).2.1, cell_k2 g (h3 j hj).2.2⟩⟩
theorem cell_gbZ {w w' : World} {row : Option Nat} (d : w.grownBy w' row) {b o : Nat} {v : Value} (h : w.cell? ⟨b, o, none⟩ = some v) (hne : some b ≠ row) : w'.cell? ⟨b, o, none⟩ = some v := by
  have hb := World.block_lt_of_cell? _ _ h
  have e := d.block b hb hne
  unfold World.cell? at *
  simp only at *
  rw [e]; exact h
theorem any_not (f : Clu → Bool) (cs : List Clu) : cs.any (fun c => !(f c)) = !(cs.all f) := by
  induction cs with
  | nil => rfl
  | cons c cs ih => simp [ih]
def LRelZ (k p : Int) (cs : List Clu) (w W0 : World) (s5 s6 : Value) (wr : World) : Prop := ∃ (m b : Nat), m ≤ (hs k p).toNat ∧ s6 = .pointer (some ⟨b, 0, none⟩) ∧ OwnI wr (w.heap.size + 1) s5 (pallT k p cs m) ∧
  (∀ g, s5.ownBlock = some g → g < b) ∧ wr.cell? ⟨b, 0, none⟩ = some (.int .i64 ((m : Int) + 1)) ∧ wr.frozen? ⟨b, 0, none⟩ = false ∧ w.heap.size + 1 ≤ b ∧ Below (w.heap.size + 1) W0 wr
set_option maxRecDepth 100000 in
set_option maxHeartbeats 1600000 in
theorem Try.leftBy (w : World) (k p : Int) (v : Value) (cs : List Clu) (hg : pst k p = true) (ha : cs.all cok = true) (h : CluRow w v cs) :
    Calls Try.prog 72 #[.agg #[.int .i64 k, .int .i64 p], v] w fun e w' => ∃ v', e = .returned v' ∧ OwnI w' w.heap.size v' (pall k p cs) ∧ Below w.heap.size w w' := by
  obtain ⟨h0, h1, h2, h3⟩ := pst_t hg
  have mixed : Try.prog.follows .mixedOrders = true := by kernel_rfl
  have hmf : ∀ (fn : Fn) (first cap : Array Value) (w : World), (Instr.makeFunc fn first cap).run Try.prog w = .ok (.func fn first cap) w := fun _ _ _ _ => rfl
  have hH : 1 ≤ hs k p ∧ hs k p ≤ 40 := by unfold hs; omega
  have HO := Lib.hid (fun (w : World) => Try.houses k p w h0 h1 h2 (by omega))
  have H1 := Lib.hid (fun (W : World) (x y z n : Int) (q b : Nat) a1 a2 a3 a4 a5 a6 => Try.leftBy1 k p x y z n q b W h0 h1 h2 (by omega) a1 a2 a3 a4 a5 a6)
  have HRow := Lib.hid h
  have hAll : ∀ x y z, (x, y, z) ∈ cs → cok (x, y, z) = true := fun x y z hm => List.all_eq_true.1 ha _ hm
  have HAll := Lib.hid hAll
  obtain ⟨A, c, rfl, hlc, hcm, _⟩ := h
  have eg : ∀ args w, (callFunc 97 args).run Try.prog w = .ok (.enter 97 args) w := enters_of Try.func97 (by kernel_rfl) rfl
  have EG := Lib.hid eg
  have GW0 := Lib.hid (show Gr w (w.alloc (.cells #[.int .i64 k, .int .i64 p] 27)) from by repeat (first | exact Gr.refl _ | refine Gr.alloc ?_ _ | refine Gr.trans ?_ (by assumption) | refine Gr.drew ?_ | refine Gr.drewN ?_ _ | refine Gr.grow ?_ _ | refine Gr.setCell ?_ (by (try simp); (try omega)) _))
  have C0 := Lib.hid (show (w.alloc (.cells #[.int .i64 k, .int .i64 p] 27)).cell? ⟨w.heap.size, 0, none⟩ = some (.int .i64 k) by simp [go_sem])
  have C1 := Lib.hid (show (w.alloc (.cells #[.int .i64 k, .int .i64 p] 27)).cell? ⟨w.heap.size, 1, none⟩ = some (.int .i64 p) by simp [go_sem])
  have ES := Lib.hid (fun m => pallT_succ k p cs m)
  have EL := Lib.hid (fun m => pallT_len k p cs m)
  have hE : pall k p cs = pallT k p cs (hs k p).toNat := rfl
  rw [hE]
  have hsz : (w.alloc (.cells #[.int .i64 k, .int .i64 p] 27)).heap.size = w.heap.size + 1 := by simp
  obtain ⟨H, hHe⟩ : ∃ H : Nat, hs k p = H := ⟨(hs k p).toNat, by omega⟩
  rw [hHe] at HO
  clear hE hAll ha hg eg hcm
  go_enter Try.func72, Try.ntmps72
  go_wp2
  generalize hW0 : w.alloc (.cells #[.int .i64 k, .int .i64 p] 27) = W0 at *
  go_loopw [5, 6] (fun s5 s6 wr => LRelZ k p cs w W0 s5 s6 wr) (fun _ s6 wr => (H + 1 - ptrI s6 wr).toNat)
  case atStart =>
    refine ⟨0, w.heap.size + 1, Nat.zero_le _, by rw [← hsz], OwnI.nil2 _ _, fun g hg => by simp [Value.ownBlock] at hg, ?_, ?_, Nat.le_refl _, ?_⟩
    · rw [← hsz]; simp [go_sem]
    · rw [← hsz]; simp [go_sem]
    · rw [← hsz]; exact (Gr.alloc (Gr.refl W0) _).below
  case round =>
    obtain ⟨m, b, hm, rfl, ho, hlt, hc, hz, hb, hbl⟩ := hrel
    obtain ⟨A5, c5, rfl, ho⟩ := OwnI.eta ho
    have c0 : wr.cell? ⟨w.heap.size, 0, none⟩ = some (.int .i64 k) := (hbl.cell (by show w.heap.size < _; omega)).trans C0.out
    have c1 : wr.cell? ⟨w.heap.size, 1, none⟩ = some (.int .i64 p) := (hbl.cell (by show w.heap.size < _; omega)).trans C1.out
    have bs : b < wr.heap.size := World.block_lt_of_cell? _ _ hc
    have f0 := gr_all (Gr.refl wr) c0
    have f1 := gr_all (Gr.refl wr) c1
    have f2 := gr_all (Gr.refl wr) hc
    have hmH : m ≤ H := by omega
    have szr := hbl.size
    have hws : w.heap.size + 1 ≤ wr.heap.size := by omega
    have hrow : CluRow wr (.slice A cs.length c) cs := HRow.out.below (GW0.out.below.trans (hbl.mono (Nat.le_succ _)))
    have HS := Lib.hid (fun (W : World) (g : Gr wr W) (h4 : 1 ≤ (m : Int) + 1) (h5 : (m : Int) + 1 ≤ hs k p) => Try.hasFnC 97 #[.pointer (some ⟨w.heap.size, 0, none⟩), .pointer (some ⟨b, 0, none⟩)] cs (fun cl => !(pfit k p cl ((m : Int) + 1))) (!(pfits k p cs ((m : Int) + 1))) (any_not _ _) W (.slice A cs.length c) (hrow.gr g) EG.out
      (fun W' x y z g' hm' => H1.out W' x y z ((m : Int) + 1) w.heap.size b h4 h5 (HAll.out x y z hm') ((g.trans g').keep0 c0) ((g.trans g').keep0 c1) ((g.trans g').keep0 hc)))
    have HOW := Lib.hid ho
    have HLT := Lib.hid hlt
    have HC := Lib.hid hc
    have HBL := Lib.hid hbl
    clear ho hlt hbl hrow c0 c1
    by_cases hmm : m < H
    · have z1 : (m : Int) + 1 ≤ (H : Int) := by omega
      have HS2 := Lib.hid (fun (W : World) (g : Gr wr W) => HS.out W g (by omega) (by omega))
      have HSU := Lib.hid (ES.out m)
      clear HS
      cases hf : pfits k p cs ((m : Int) + 1)
      · rw [hf] at HS2 HSU
        rw [if_neg (by simp)] at HSU
        clear hf
        go_wp2
        (refine wp_region_quiet_grown mixed (by kernel_rfl) ?_; (repeat (first | go_big_quiet_step ((first | (go_at_call 96; exact Calls.grown_of (HO.out _)))) | quiet_step ((first | (go_at_call 96; exact Calls.grown_of (HO.out _)))))); refine wpQuiet_nil ?_; intro _ hw'; obtain ⟨⟨nq, osq⟩, hw''⟩ := hw'; subst hw'')
        go_wp2_with (first | (go_at_call 98; refine (HS2.out _ (by repeat (first | exact Gr.refl _ | refine Gr.alloc ?_ _ | refine Gr.trans ?_ (by assumption) | refine Gr.drew ?_ | refine Gr.drewN ?_ _ | refine Gr.grow ?_ _ | refine Gr.setCell ?_ (by (try simp); (try omega)) _))).mono ?_; rintro e w2 ⟨rfl, g2⟩; have g3 : Gr wr w2 := (by repeat (first | exact Gr.refl _ | refine Gr.alloc ?_ _ | refine Gr.trans ?_ (by assumption) | refine Gr.drew ?_ | refine Gr.drewN ?_ _ | refine Gr.grow ?_ _ | refine Gr.setCell ?_ (by (try simp); (try omega)) _)); have e2 := g3.keep0 HC.out; have GW := Lib.hid g3; clear g2 g3))
        have szg := GW.out.below.size
        refine ⟨⟨m + 1, w2.heap.size, by omega, rfl, ?_, ?_, ?_, ?_, by omega, ?_⟩, ?_⟩
        · rw [HSU.out]; exact (HOW.out.gr GW.out).gr (Gr.alloc (Gr.refl _) _)
        · exact fun g hg => Nat.lt_of_lt_of_le (World.ownsRow.lt HOW.out g hg).2 szg
        · simp [go_sem]
        · simp [go_sem]
        · exact HBL.out.trans ((GW.out.trans (Gr.alloc (Gr.refl _) _)).below.mono (by have := HBL.out.size; omega))
        · simp [ptrI, HC.out, go_sem, intOf]; omega
      · rw [hf] at HS2 HSU
        rw [if_pos rfl] at HSU
        have hl5 := EL.out m
        clear hf
        go_wp2
        (refine wp_region_quiet_grown mixed (by kernel_rfl) ?_; (repeat (first | go_big_quiet_step ((first | (go_at_call 96; exact Calls.grown_of (HO.out _)))) | quiet_step ((first | (go_at_call 96; exact Calls.grown_of (HO.out _)))))); refine wpQuiet_nil ?_; intro _ hw'; obtain ⟨⟨nq, osq⟩, hw''⟩ := hw'; subst hw'')
        go_wp2_with (first | (go_at_call 98; refine (HS2.out _ (by repeat (first | exact Gr.refl _ | refine Gr.alloc ?_ _ | refine Gr.trans ?_ (by assumption) | refine Gr.drew ?_ | refine Gr.drewN ?_ _ | refine Gr.grow ?_ _ | refine Gr.setCell ?_ (by (try simp); (try omega)) _))).mono ?_; rintro e w2 ⟨rfl, g2⟩; have g3 : Gr wr w2 := (by repeat (first | exact Gr.refl _ | refine Gr.alloc ?_ _ | refine Gr.trans ?_ (by assumption) | refine Gr.drew ?_ | refine Gr.drewN ?_ _ | refine Gr.grow ?_ _ | refine Gr.setCell ?_ (by (try simp); (try omega)) _)); have e2 := g3.keep0 HC.out; have GW := Lib.hid g3; clear g2 g3) | (at_builtin; refine wpList_app1I rfl _ _ 46 rfl Try.underlying46 Try.infoI2 (w.heap.size + 1) _ _ rfl (HOW.out.gr GW.out) ((m : Int) + 1) rfl (by omega) (by have := GW.out.below.size; omega) ?_; intro v' w3 ho3 hb3 hg3 hs3; have e3 := cell_gbZ hg3 e2 (fun e => by have := HLT.out _ e.symm; omega); have HO3 := Lib.hid ho3; have HB3 := Lib.hid hb3; clear ho3 hb3 hg3))
        have szg := GW.out.below.size
        have szb := HB3.out.size
        refine ⟨⟨m + 1, w3.heap.size, by omega, rfl, ?_, ?_, ?_, ?_, by omega, ?_⟩, ?_⟩
        · rw [HSU.out]; exact HO3.out.gr (Gr.alloc (Gr.refl _) _)
        · exact fun g hg => (World.ownsRow.lt HO3.out g hg).2
        · simp [go_sem]
        · simp [go_sem]
        · exact ((HBL.out.trans (GW.out.below.mono (by have := HBL.out.size; omega))).trans HB3.out).trans ((Gr.alloc (Gr.refl _) _).below.mono (by omega))
        · simp [ptrI, HC.out, go_sem, intOf]; omega
    · obtain rfl : m = H := by omega
      have z1 : ¬ (m : Int) + 1 ≤ (m : Int) := by omega
      have hee : (hs k p).toNat = m := by omega
      have HEE := Lib.hid hee
      clear HS hee
      go_wp2
      (refine wp_region_quiet_grown mixed (by kernel_rfl) ?_; (repeat (first | go_big_quiet_step ((first | (go_at_call 96; exact Calls.grown_of (HO.out _)))) | quiet_step ((first | (go_at_call 96; exact Calls.grown_of (HO.out _)))))); refine wpQuiet_nil ?_; intro _ hw'; obtain ⟨⟨nq, osq⟩, hw''⟩ := hw'; subst hw'')
      go_wp2
      go_ret
      have GQ : Gr wr (Go.Sort.grow (wr.drewN nq) osq) := (by repeat (first | exact Gr.refl _ | refine Gr.alloc ?_ _ | refine Gr.trans ?_ (by assumption) | refine Gr.drew ?_ | refine Gr.drewN ?_ _ | refine Gr.grow ?_ _ | refine Gr.setCell ?_ (by (try simp); (try omega)) _))
      exact ⟨_, rfl, by rw [HEE.out]; exact (HOW.out.gr GQ).mono (by omega), GW0.out.below.trans ((HBL.out.trans (GQ.below.mono (by have := HBL.out.size; omega))).mono (Nat.le_succ _))⟩
end Go.Proofs
