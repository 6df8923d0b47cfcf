/-
  Chapter 8, the model: copies of lists, empty ones too (spec.l1Own); the order of parcels (spec.bgOrder).
-/
import Derived.Test.YtjocipddffillaaBgO
import Derived.Test.YtjocipddffillaaBgJ
import Derived.Lib.AppendZeros
import Derived.Deep.Upon
namespace Go.Proofs
open Go.RowKit Bg
set_option linter.unusedVariables false
set_option linter.unusedSimpArgs false
theorem run_app0 {P : Program} (w : World) (t ty e : TypeId) (i : TypeInfo) (ht : P.underlying t = some (.slice e)) (hi : P.info? e = some i) (A A' : Option Addr) (n c c' : Nat) (hn : n ≤ c) :
    (Builtin.append_ #[t, t] ty #[.slice A n c, .slice A' 0 c']).run P w = .ok (.slice A n c) w := by
  refine Go.run_append_nothing w t t ty e i ht hi A n c hn _ ?_
  cases A' with
  | none => exact Go.Src.ofNil w ht c'
  | some a => exact Go.Src.ofSlice w ht a 0 c' [] (by simp) (fun j u hu => by simp at hu) (fun u hu => by simp at hu)
/-- a row of ints that is read: nothing, or cells that lie somewhere -/
def RdI (w : World) (A : Option Addr) (m : Nat) (qs : List Int) : Prop := qs.length = m ∧ (m = 0 ∨ ∃ ad, A = some ad ∧ ∀ j u, (ics qs)[j]? = some u → w.cell? (ad.add j) = some u)
set_option maxHeartbeats 800000 in
theorem Try.l1OwnR (w : World) (A : Option Addr) (m c : Nat) (qs : List Int) (hl : qs.length ≤ 1000000) (h : RdI w A m qs) :
    Calls Try.prog 96 #[.slice A m c] w fun e w' => ∃ v, e = .returned v ∧ OwnI w' w.heap.size v qs ∧ Below w.heap.size w w' := by
  obtain ⟨i0, hi, hz0, hz1, hz2⟩ := info_parts Try.infoI2
  have HII := Lib.hid hi
  obtain ⟨hm, h⟩ := h
  have hown : OwnI (w.alloc (.cells #[] 3)) w.heap.size (.slice (some ⟨w.heap.size, 0, none⟩) 0 0) [] := own_emptyI (heap_alloc_new w _) (Nat.le_refl _)
  have HO := Lib.hid hown
  rcases h with rfl | ⟨ad, rfl, hq⟩
  · obtain rfl : qs = [] := List.length_eq_zero_iff.1 hm
    clear hown hi
    go_enter Try.func96, Try.ntmps96
    go_wp2_with (at_builtin; refine Lib.wpList_append_run _ rfl _ _ 29 29 rfl (.slice (some ⟨w.heap.size, 0, none⟩) 0 0) (.slice A 0 c) rfl rfl _ _ (run_app0 _ _ _ 3 i0 Try.underlying29 HII.out _ _ _ _ _ (Nat.le_refl _)) ?_)
    go_ret
    exact ⟨_, rfl, HO.out, Gr.below (by repeat (first | exact Gr.refl _ | refine Gr.alloc ?_ _ | refine Gr.trans ?_ (by assumption) | refine Gr.drew ?_ | refine Gr.drewN ?_ _ | refine Gr.grow ?_ _ | refine Gr.setCell ?_ (by (try simp); (try omega)) _))⟩
  · have HQ := Lib.hid (fun j u hu => Gr.keep0 (Gr.alloc (Gr.refl w) (.cells #[] 3)) (hq j u hu))
    subst hm
    clear hown hi hq
    go_enter Try.func96, Try.ntmps96
    go_wp2_with (at_builtin; refine wpList_appI rfl _ _ 29 rfl Try.underlying29 Try.infoI2 w.heap.size _ _ rfl HO.out ad _ _ qs rfl rfl HQ.out (by simp) (by omega) (by simp) ?_; intro v3 w3 ho3 hb3 _)
    go_ret
    exact ⟨_, rfl, by simpa using ho3, (Gr.below (Gr.alloc (Gr.refl w) _)).trans hb3⟩
theorem OwnI.capBB {w : World} {B n c : Nat} {A : Option Addr} {xs : List Int} (h : OwnI w B (.slice A n c) xs) : n ≤ c := by
  rcases h.2 with ⟨e, hn⟩ | ⟨g, cap, cur, e, hb, hg, hc, _⟩
  · cases e; omega
  · cases e; omega
def OrRel (h : Nat → Int) (far : Bool) (n : Nat) (w : World) (s i : Value) (wr : World) : Prop := ∃ k : Nat, k ≤ n ∧ i = .int .i64 k ∧ OwnI wr w.heap.size s (ordN h far k) ∧ Below w.heap.size w wr ∧ (k = 0 → s = .slice none 0 0)
def OsRel (h : Nat → Int) (far : Bool) (xs : List Int) (i P : Nat) (x : Int) (W : World) (s : Value) (wr : World) : Prop := Gr W wr ∧ wr.cell? ⟨W.heap.size, 0, none⟩ = some (.int .i64 x) ∧ ∃ k : Nat, k ≤ xs.length ∧ s = .int .i64 k ∧ (if far = true then posD h xs i k else k) = P
theorem OwnI.rdTake {w : World} {B n c : Nat} {A : Option Addr} {xs : List Int} (h : OwnI w B (.slice A n c) xs) (hn : xs.length = n) (k : Nat) (hk : k ≤ n) : RdI w A k (xs.take k) := by
  refine ⟨by simp; omega, ?_⟩
  rcases Nat.eq_zero_or_pos k with q | q
  · exact .inl q
  · obtain ⟨g, rfl⟩ := h.addr (by omega)
    exact .inr ⟨_, rfl, by have := h.reads hn 0 k (by omega); simpa using this⟩
theorem OwnI.rdDrop {w : World} {B g n c : Nat} {xs : List Int} (h : OwnI w B (.slice (some ⟨g, 0, none⟩) n c) xs) (hn : xs.length = n) (k : Nat) (hk : k ≤ n) : ∀ j u, (ics (xs.drop k))[j]? = some u → w.cell? ((⟨g, k, none⟩ : Addr).add j) = some u := by
  have := h.reads hn k (n - k) (by omega)
  rwa [List.take_of_length_le (by simp; omega)] at this
set_option maxRecDepth 100000 in
set_option maxHeartbeats 3200000 in
theorem Try.bgOrder (w : World) (B : Nat) (v : Value) (ps : List Pi2) (far : Bool) (hg : GoodB ps) (h : OwnP 55 w B v ps) :
    Calls Try.prog 69 #[v, .bool far] w fun e w' => ∃ u, e = .returned u ∧ OwnI w' w.heap.size u (ordN (houF ps) far ps.length) ∧ Below w.heap.size w w' := by
  have hl8 := hg.1
  obtain ⟨i0, hi, hz0, hz1, hz2⟩ := info_parts Try.infoI2
  have HII := Lib.hid hi
  rcases h.view with ⟨rfl, _⟩ | ⟨hpos, g, c, rfl, _, _, _, _, hc, _⟩
  · simp at hl8
  have HC := Lib.hid hc
  clear h hc hi
  go_enter Try.func69, Try.ntmps69
  go_wp2
  go_loopw [5, 6, 7, 8, 9, 12] (fun s _ _ _ _ i wr => OrRel (houF ps) far ps.length w s i wr) (fun _ _ _ _ _ i _ => (ps.length - intOf i).toNat)
  case atStart => exact ⟨0, Nat.zero_le _, rfl, OwnI.nil2 _ _, Below.refl _ _, fun _ => rfl⟩
  case round =>
    obtain ⟨i, hk, rfl, o5, hb', hs0⟩ := hrel
    by_cases hlt : i < ps.length
    · have e0 := cell_k2 hb' (HC.out i hlt).1
      have e1 := cell_k2 hb' (HC.out i hlt).2
      have hol := ord_len (houF ps) far i
      have hoa := ord_at (houF ps) far i
      have hnx : ordN (houF ps) far (i + 1) = insAt (ordN (houF ps) far i) (posN (houF ps) far (ordN (houF ps) far i) i) i := rfl
      have hple := posN_le (houF ps) far (ordN (houF ps) far i) i
      have hpn : (if far = true then posD (houF ps) (ordN (houF ps) far i) i (ordN (houF ps) far i).length else (ordN (houF ps) far i).length) = posN (houF ps) far (ordN (houF ps) far i) i := rfl
      have hval : houF ps i = (ps.getD i (0, 0)).1 := rfl
      have z0 : (0 : Int) ≤ (i : Int) := by omega
      have z1 : (i : Int) < (ps.length : Int) := by omega
      have HVAL := Lib.hid hval
      have HPN := Lib.hid hpn
      have HNX := Lib.hid hnx
      have HOA := Lib.hid hoa
      have HBR := Lib.hid hb'
      have O5 := Lib.hid o5
      clear hval hpn hnx hoa hb' o5
      generalize hgx : ordN (houF ps) far (i + 1) = xs' at *
      have HGX := Lib.hid hgx
      clear hgx
      generalize ordN (houF ps) far i = xs at *
      generalize posN (houF ps) far xs i = P at *
      generalize (ps.getD i (0, 0)).1 = x at *
      generalize (ps.getD i (0, 0)).2 = x2 at *
      obtain ⟨A5, c5, rfl, o5⟩ := O5.out.eta
      rw [hol] at o5 ⊢
      have HPN2 := HPN.out
      rw [hol] at HPN2 hple
      have hcap := o5.capBB
      rename World => X
      rcases Nat.eq_zero_or_pos i with hi0 | hipos
      · subst hi0
        obtain ⟨rfl, rfl⟩ : A5 = none ∧ c5 = 0 := by have := hs0 rfl; simp only [Value.slice.injEq] at this; exact ⟨this.1, this.2.2⟩
        obtain rfl : P = 0 := by omega
        obtain rfl : xs = [] := List.length_eq_zero_iff.1 hol
        have e0' : X.cell? ⟨g, 0, none⟩ = some (.int .i64 x) := by simpa using e0
        have e1' : X.cell? ⟨g, 1, none⟩ = some (.int .i64 x2) := by simpa using e1
        have HL2 := Lib.hid (show (([] : List Int) ++ [(0 : Int)]).length = 1 by rfl)
        have HOWN := Lib.hid (fun W (gg : Gr X W) => Try.l1OwnR W none 0 0 [] (by simp) ⟨rfl, .inl rfl⟩)
        have zp' : (0 : Int) < (ps.length : Int) := by omega
        clear o5 O5 e0 e1 hol hcap hs0
        go_wp2
        go_loopw [8] (fun s wr' => OsRel (houF ps) far [] 0 0 x X s wr') (fun s _ => (intOf s).toNat)
        case atStart => exact ⟨by repeat (first | exact Gr.refl _ | refine Gr.alloc ?_ _ | refine Gr.trans ?_ (by assumption) | refine Gr.drew ?_ | refine Gr.drewN ?_ _ | refine Gr.grow ?_ _ | refine Gr.setCell ?_ (by (try simp); (try omega)) _), by simp [go_sem], 0, Nat.le_refl _, rfl, HPN2⟩
        case round =>
          obtain ⟨gr, hx, k, hk2, rfl, hpd⟩ := hrel
          have HGR := Lib.hid gr
          obtain rfl : k = 0 := by simpa using hk2
          clear gr hpd HPN2
          cases far
          all_goals
            go_wp2
            go_quiet (fail)
            have gz : Gr X (wr.drewN nq) := HGR.out.trans (by repeat (first | exact Gr.refl _ | refine Gr.alloc ?_ _ | refine Gr.trans ?_ (by assumption) | refine Gr.drew ?_ | refine Gr.drewN ?_ _ | refine Gr.grow ?_ _ | refine Gr.setCell ?_ (by (try simp); (try omega)) _))
            go_wp2_with (first | (go_at_call 96; refine (HOWN.out _ gz).mono ?_; rintro e w1 ⟨v1, rfl, ho1, hb1⟩; have O1 := Lib.hid ho1) | (at_builtin; refine wpList_app1J rfl _ _ 29 rfl Try.underlying29 Try.infoI2 _ _ _ rfl O1.out (0) rfl (by simp <;> omega) hb1.size ?_; intro v2 w2 ho2 hb2 hg2 hs2 hat2; obtain ⟨A2, c2, rfl, ho2⟩ := ho2.eta; rw [HL2.out] at ho2; obtain ⟨g2, rfl⟩ := ho2.addr (by simp); have hc2 := ho2.capBB; have O2 := Lib.hid ho2) | (at_builtin; refine Lib.wpList_append_run _ rfl _ _ 29 29 rfl (.slice (some ⟨g2, 0, none⟩) _ c2) (.slice _ 0 _) rfl (by first | rfl | (simp; done)) _ _ (run_app0 _ _ _ 3 i0 Try.underlying29 HII.out _ _ _ _ _ hc2) ?_))
            have hsz : w.heap.size ≤ (wr.drewN nq).heap.size := Nat.le_trans HBR.out.size gz.below.size
            go_roundw
            case rel => exact ⟨0 + 1, by omega, by go_num, by rw [HGX.out, HNX.out]; unfold insAt; simpa using O2.out.mono hsz, (HBR.out.trans (gz.below.mono HBR.out.size)).trans ((hb1.trans hb2).mono hsz), fun q => by omega⟩
            case measure => simp [intOf] <;> omega
      · obtain ⟨g5, rfl⟩ := o5.addr (by omega)
        have O6 := Lib.hid o5
        clear o5 O5
        go_wp2
        go_loopw [8] (fun s wr' => OsRel (houF ps) far xs i P x X s wr') (fun s _ => (intOf s).toNat)
        case atStart => exact ⟨by repeat (first | exact Gr.refl _ | refine Gr.alloc ?_ _ | refine Gr.trans ?_ (by assumption) | refine Gr.drew ?_ | refine Gr.drewN ?_ _ | refine Gr.grow ?_ _ | refine Gr.setCell ?_ (by (try simp); (try omega)) _), by simp [go_sem], i, by omega, by first | rfl | go_num, HPN2⟩
        case round =>
          obtain ⟨gr, hx, k, hk2, rfl, hpd⟩ := hrel
          have HGR := Lib.hid gr
          have HOL := Lib.hid hol
          have HOWN := Lib.hid (fun W (gg : Gr X W) => Try.l1OwnR W (some ⟨g5, 0, none⟩) P c5 (xs.take P) (by simp; omega) ((O6.out.gr gg).rdTake HOL.out P (by omega)))
          have HL2 := Lib.hid (show (xs.take P ++ [(i : Int)]).length = P + 1 by rw [List.length_append, List.length_take, HOL.out]; simp; omega)
          have zP0 : (0 : Int) ≤ (P : Int) := by omega
          have zP1 : (P : Int) ≤ (c5 : Int) := by omega
          have zP2 : (P : Int) ≤ (i : Int) := by omega
          cases far
          · obtain rfl : k = P := by simpa using hpd
            obtain rfl : i = k := by simpa using HPN2
            clear hpd HPN2 gr hol
            by_cases hcc : c5 = i
            · subst hcc
              go_wp2
              go_quiet (fail)
              have gz : Gr X (wr.drewN nq) := HGR.out.trans (by repeat (first | exact Gr.refl _ | refine Gr.alloc ?_ _ | refine Gr.trans ?_ (by assumption) | refine Gr.drew ?_ | refine Gr.drewN ?_ _ | refine Gr.grow ?_ _ | refine Gr.setCell ?_ (by (try simp); (try omega)) _))
              go_wp2_with (first | (go_at_call 96; refine (HOWN.out _ gz).mono ?_; rintro e w1 ⟨v1, rfl, ho1, hb1⟩; have O1 := Lib.hid ho1) | (at_builtin; refine wpList_app1J rfl _ _ 29 rfl Try.underlying29 Try.infoI2 _ _ _ rfl O1.out ((c5 : Int)) rfl (by simp <;> omega) hb1.size ?_; intro v2 w2 ho2 hb2 hg2 hs2 hat2; obtain ⟨A2, c2, rfl, ho2⟩ := ho2.eta; rw [HL2.out] at ho2; obtain ⟨g2, rfl⟩ := ho2.addr (by simp); have hc2 := ho2.capBB; have O2 := Lib.hid ho2) | (at_builtin; refine Lib.wpList_append_run _ rfl _ _ 29 29 rfl (.slice (some ⟨g2, 0, none⟩) _ c2) (.slice _ 0 _) rfl (by first | rfl | (simp; done)) _ _ (run_app0 _ _ _ 3 i0 Try.underlying29 HII.out _ _ _ _ _ hc2) ?_))
              have hsz : w.heap.size ≤ (wr.drewN nq).heap.size := Nat.le_trans HBR.out.size gz.below.size
              go_roundw
              case rel => exact ⟨c5 + 1, by omega, by go_num, by rw [HGX.out, HNX.out]; unfold insAt; rw [List.drop_eq_nil_of_le (by rw [HOL.out]; omega), List.append_nil]; exact O2.out.mono hsz, (HBR.out.trans (gz.below.mono HBR.out.size)).trans ((hb1.trans hb2).mono hsz), fun q => by omega⟩
              case measure => simp [intOf] <;> omega
            · skip
              go_wp2
              go_quiet (fail)
              have gz : Gr X (wr.drewN nq) := HGR.out.trans (by repeat (first | exact Gr.refl _ | refine Gr.alloc ?_ _ | refine Gr.trans ?_ (by assumption) | refine Gr.drew ?_ | refine Gr.drewN ?_ _ | refine Gr.grow ?_ _ | refine Gr.setCell ?_ (by (try simp); (try omega)) _))
              go_wp2_with (first | (go_at_call 96; refine (HOWN.out _ gz).mono ?_; rintro e w1 ⟨v1, rfl, ho1, hb1⟩; have O1 := Lib.hid ho1) | (at_builtin; refine wpList_app1J rfl _ _ 29 rfl Try.underlying29 Try.infoI2 _ _ _ rfl O1.out ((i : Int)) rfl (by simp <;> omega) hb1.size ?_; intro v2 w2 ho2 hb2 hg2 hs2 hat2; obtain ⟨A2, c2, rfl, ho2⟩ := ho2.eta; rw [HL2.out] at ho2; obtain ⟨g2, rfl⟩ := ho2.addr (by simp); have hc2 := ho2.capBB; have O2 := Lib.hid ho2) | (at_builtin; refine Lib.wpList_append_run _ rfl _ _ 29 29 rfl (.slice (some ⟨g2, 0, none⟩) _ c2) (.slice _ 0 _) rfl (by first | rfl | (simp; done)) _ _ (run_app0 _ _ _ 3 i0 Try.underlying29 HII.out _ _ _ _ _ hc2) ?_))
              have hsz : w.heap.size ≤ (wr.drewN nq).heap.size := Nat.le_trans HBR.out.size gz.below.size
              go_roundw
              case rel => exact ⟨i + 1, by omega, by go_num, by rw [HGX.out, HNX.out]; unfold insAt; rw [List.drop_eq_nil_of_le (by rw [HOL.out]; omega), List.append_nil]; exact O2.out.mono hsz, (HBR.out.trans (gz.below.mono HBR.out.size)).trans ((hb1.trans hb2).mono hsz), fun q => by omega⟩
              case measure => simp [intOf] <;> omega
          · rw [if_pos rfl] at hpd HPN2
            rcases Nat.eq_zero_or_pos k with hk0 | hkp
            · subst hk0
              obtain rfl : 0 = P := hpd
              clear HPN2 gr hol
              go_wp2
              go_quiet (fail)
              have gz : Gr X (wr.drewN nq) := HGR.out.trans (by repeat (first | exact Gr.refl _ | refine Gr.alloc ?_ _ | refine Gr.trans ?_ (by assumption) | refine Gr.drew ?_ | refine Gr.drewN ?_ _ | refine Gr.grow ?_ _ | refine Gr.setCell ?_ (by (try simp); (try omega)) _))
              go_wp2_with (first | (go_at_call 96; refine (HOWN.out _ gz).mono ?_; rintro e w1 ⟨v1, rfl, ho1, hb1⟩; have O1 := Lib.hid ho1) | (at_builtin; refine wpList_app1J rfl _ _ 29 rfl Try.underlying29 Try.infoI2 _ _ _ rfl O1.out ((i : Int)) rfl (by simp <;> omega) hb1.size ?_; intro v2 w2 ho2 hb2 hg2 hs2 hat2; obtain ⟨A2, c2, rfl, ho2⟩ := ho2.eta; rw [HL2.out] at ho2; obtain ⟨g2, rfl⟩ := ho2.addr (by simp); have hc2 := ho2.capBB; have O2 := Lib.hid ho2) | (at_builtin; refine wpList_appI rfl _ _ 29 rfl Try.underlying29 Try.infoI2 _ _ _ rfl O2.out ⟨g5, 0, none⟩ _ _ (xs.drop 0) rfl (by rw [List.length_drop, HOL.out] <;> rfl) (((O6.out.gr gz).below hb1 (Nat.le_refl _)).under hb2 (fun b hb => Nat.lt_of_lt_of_le ((O6.out.gr gz).lt b hb) (Nat.le_refl _)) |>.rdDrop HOL.out 0 (by omega)) (by rw [HL2.out]; omega) (by rw [List.length_drop, HOL.out]; omega) (Nat.le_trans hb1.size hb2.size) ?_; intro v3 w3 ho3 hb3 _))
              have hsz : w.heap.size ≤ (wr.drewN nq).heap.size := Nat.le_trans HBR.out.size gz.below.size
              go_roundw
              case rel => exact ⟨i + 1, by omega, by go_num, by rw [HGX.out, HNX.out]; unfold insAt; exact ho3.mono hsz, (HBR.out.trans (gz.below.mono HBR.out.size)).trans (((hb1.trans hb2).trans hb3).mono hsz), fun q => by omega⟩
              case measure => simp [intOf] <;> omega
            · obtain ⟨m, hm⟩ : ∃ m, k = m + 1 := ⟨k - 1, by omega⟩
              obtain ⟨q, hq⟩ : ∃ q : Nat, xs.getD m 0 = (q : Int) := ⟨(xs.getD m 0).toNat, by have := HOA.out m (by omega); omega⟩
              have hqi : q < i := by have := (HOA.out m (by omega)).2; rw [hq] at this; omega
              have eo := ((O6.out.gr gr).at hol m (by omega)).1
              rw [hq] at eo
              have eh := gr.keep0 (cell_k2 HBR.out (HC.out q (by omega)).1)
              have hqv : houF ps q = (ps.getD q (0, 0)).1 := rfl
              have y0 : (0 : Int) ≤ (q : Int) := by omega
              have y1 : (q : Int) < (ps.length : Int) := by omega
              have y2 : (m : Int) < (i : Int) := by omega
              have y3 : (0 : Int) ≤ (m : Int) := by omega
              have wm : IntKind.i64.wrap ((k : Int) - 1) = (m : Int) := by rw [show (k : Int) - 1 = (m : Int) by omega]; exact IntWalk.i64_in _ (by omega)
              have zk : (0 : Int) < (k : Int) := by omega
              have hpd2 : (if houF ps q < houF ps i then posD (houF ps) xs i m else k) = P := by have := hpd; rw [hm] at this; simp only [posD] at this; rw [hq, Int.toNat_natCast, ← hm] at this; exact this
              rw [hqv, HVAL.out] at hpd2
              generalize (ps.getD q (0, 0)).1 = y at *
              by_cases hyx : y < x
              · rw [if_pos hyx] at hpd2
                have HPD := Lib.hid hpd2
                clear hpd hpd2 HPN2 gr hol
                go_wp2
                go_quiet (fail)
                have gz : Gr X (wr.drewN nq) := HGR.out.trans (by repeat (first | exact Gr.refl _ | refine Gr.alloc ?_ _ | refine Gr.trans ?_ (by assumption) | refine Gr.drew ?_ | refine Gr.drewN ?_ _ | refine Gr.grow ?_ _ | refine Gr.setCell ?_ (by (try simp); (try omega)) _))
                have hxz := Gr.keep0 (Gr.drewN (Gr.refl wr) nq) hx
                go_wp2
                go_roundw
                case rel => exact ⟨gz, hxz, m, by omega, by go_num, HPD.out⟩
                case measure => simp [intOf] <;> omega
              · rw [if_neg hyx] at hpd2
                obtain rfl : k = P := hpd2
                by_cases hci : k = i
                · subst hci
                  clear hpd HPN2 gr hol hm
                  by_cases hcc : c5 = k
                  · subst hcc
                    go_wp2
                    go_quiet (fail)
                    have gz : Gr X (wr.drewN nq) := HGR.out.trans (by repeat (first | exact Gr.refl _ | refine Gr.alloc ?_ _ | refine Gr.trans ?_ (by assumption) | refine Gr.drew ?_ | refine Gr.drewN ?_ _ | refine Gr.grow ?_ _ | refine Gr.setCell ?_ (by (try simp); (try omega)) _))
                    go_wp2_with (first | (go_at_call 96; refine (HOWN.out _ gz).mono ?_; rintro e w1 ⟨v1, rfl, ho1, hb1⟩; have O1 := Lib.hid ho1) | (at_builtin; refine wpList_app1J rfl _ _ 29 rfl Try.underlying29 Try.infoI2 _ _ _ rfl O1.out ((c5 : Int)) rfl (by simp <;> omega) hb1.size ?_; intro v2 w2 ho2 hb2 hg2 hs2 hat2; obtain ⟨A2, c2, rfl, ho2⟩ := ho2.eta; rw [HL2.out] at ho2; obtain ⟨g2, rfl⟩ := ho2.addr (by simp); have hc2 := ho2.capBB; have O2 := Lib.hid ho2) | (at_builtin; refine Lib.wpList_append_run _ rfl _ _ 29 29 rfl (.slice (some ⟨g2, 0, none⟩) _ c2) (.slice _ 0 _) rfl (by first | rfl | (simp; done)) _ _ (run_app0 _ _ _ 3 i0 Try.underlying29 HII.out _ _ _ _ _ hc2) ?_))
                    have hsz : w.heap.size ≤ (wr.drewN nq).heap.size := Nat.le_trans HBR.out.size gz.below.size
                    go_roundw
                    case rel => exact ⟨c5 + 1, by omega, by go_num, by rw [HGX.out, HNX.out]; unfold insAt; rw [List.drop_eq_nil_of_le (by rw [HOL.out]; omega), List.append_nil]; exact O2.out.mono hsz, (HBR.out.trans (gz.below.mono HBR.out.size)).trans ((hb1.trans hb2).mono hsz), fun q => by omega⟩
                    case measure => simp [intOf] <;> omega
                  · skip
                    go_wp2
                    go_quiet (fail)
                    have gz : Gr X (wr.drewN nq) := HGR.out.trans (by repeat (first | exact Gr.refl _ | refine Gr.alloc ?_ _ | refine Gr.trans ?_ (by assumption) | refine Gr.drew ?_ | refine Gr.drewN ?_ _ | refine Gr.grow ?_ _ | refine Gr.setCell ?_ (by (try simp); (try omega)) _))
                    go_wp2_with (first | (go_at_call 96; refine (HOWN.out _ gz).mono ?_; rintro e w1 ⟨v1, rfl, ho1, hb1⟩; have O1 := Lib.hid ho1) | (at_builtin; refine wpList_app1J rfl _ _ 29 rfl Try.underlying29 Try.infoI2 _ _ _ rfl O1.out ((k : Int)) rfl (by simp <;> omega) hb1.size ?_; intro v2 w2 ho2 hb2 hg2 hs2 hat2; obtain ⟨A2, c2, rfl, ho2⟩ := ho2.eta; rw [HL2.out] at ho2; obtain ⟨g2, rfl⟩ := ho2.addr (by simp); have hc2 := ho2.capBB; have O2 := Lib.hid ho2) | (at_builtin; refine Lib.wpList_append_run _ rfl _ _ 29 29 rfl (.slice (some ⟨g2, 0, none⟩) _ c2) (.slice _ 0 _) rfl (by first | rfl | (simp; done)) _ _ (run_app0 _ _ _ 3 i0 Try.underlying29 HII.out _ _ _ _ _ hc2) ?_))
                    have hsz : w.heap.size ≤ (wr.drewN nq).heap.size := Nat.le_trans HBR.out.size gz.below.size
                    go_roundw
                    case rel => exact ⟨k + 1, by omega, by go_num, by rw [HGX.out, HNX.out]; unfold insAt; rw [List.drop_eq_nil_of_le (by rw [HOL.out]; omega), List.append_nil]; exact O2.out.mono hsz, (HBR.out.trans (gz.below.mono HBR.out.size)).trans ((hb1.trans hb2).mono hsz), fun q => by omega⟩
                    case measure => simp [intOf] <;> omega
                · clear hpd HPN2 gr hol hm
                  have hcc : ¬ c5 = k := by omega
                  go_wp2
                  go_quiet (fail)
                  have gz : Gr X (wr.drewN nq) := HGR.out.trans (by repeat (first | exact Gr.refl _ | refine Gr.alloc ?_ _ | refine Gr.trans ?_ (by assumption) | refine Gr.drew ?_ | refine Gr.drewN ?_ _ | refine Gr.grow ?_ _ | refine Gr.setCell ?_ (by (try simp); (try omega)) _))
                  go_wp2_with (first | (go_at_call 96; refine (HOWN.out _ gz).mono ?_; rintro e w1 ⟨v1, rfl, ho1, hb1⟩; have O1 := Lib.hid ho1) | (at_builtin; refine wpList_app1J rfl _ _ 29 rfl Try.underlying29 Try.infoI2 _ _ _ rfl O1.out ((i : Int)) rfl (by simp <;> omega) hb1.size ?_; intro v2 w2 ho2 hb2 hg2 hs2 hat2; obtain ⟨A2, c2, rfl, ho2⟩ := ho2.eta; rw [HL2.out] at ho2; obtain ⟨g2, rfl⟩ := ho2.addr (by simp); have hc2 := ho2.capBB; have O2 := Lib.hid ho2) | (at_builtin; refine wpList_appI rfl _ _ 29 rfl Try.underlying29 Try.infoI2 _ _ _ rfl O2.out ⟨g5, k, none⟩ _ _ (xs.drop k) rfl (by rw [List.length_drop, HOL.out] <;> rfl) (((O6.out.gr gz).below hb1 (Nat.le_refl _)).under hb2 (fun b hb => Nat.lt_of_lt_of_le ((O6.out.gr gz).lt b hb) (Nat.le_refl _)) |>.rdDrop HOL.out k (by omega)) (by rw [HL2.out]; omega) (by rw [List.length_drop, HOL.out]; omega) (Nat.le_trans hb1.size hb2.size) ?_; intro v3 w3 ho3 hb3 _))
                  have hsz : w.heap.size ≤ (wr.drewN nq).heap.size := Nat.le_trans HBR.out.size gz.below.size
                  go_roundw
                  case rel => exact ⟨i + 1, by omega, by go_num, by rw [HGX.out, HNX.out]; unfold insAt; exact ho3.mono hsz, (HBR.out.trans (gz.below.mono HBR.out.size)).trans (((hb1.trans hb2).trans hb3).mono hsz), fun q => by omega⟩
                  case measure => simp [intOf] <;> omega
    · obtain rfl : i = ps.length := by omega
      have O5 := Lib.hid o5
      have HB := Lib.hid hb'
      clear o5 hb' hs0
      go_wp2
      go_ret
      exact ⟨_, rfl, O5.out, HB.out⟩
end Go.Proofs
