/-
  Chapter 8: letters, both sides (spec.bgPost, bgLetters, LettersTrips, LettersLength; impl.LettersTrips, LettersLength).
-/
import Derived.Test.YtjocipddffillaaBgJ
import Derived.Test.YtjocipddffillaaBgD
namespace Go.Proofs
open Go.RowKit Bg
set_option linter.unusedVariables false
set_option linter.unusedSimpArgs false
def PostB (xs : List Int) (bag : Int) : Prop := UpP xs 100 1000 ∧ (1 ≤ bag ∧ bag ≤ 10000)
theorem post_cases {xs : List Int} {bag : Int} {b : Bool} (hb : b = true ↔ PostB xs bag) : ∃ u : Bool, (u = true ↔ UpP xs 100 1000) ∧ b = (u && inn bag 1 10000) := by
  obtain ⟨u, hu⟩ := exbG (UpP xs 100 1000)
  refine ⟨u, hu, ?_⟩
  rw [Bool.eq_iff_iff, hb, Bool.and_eq_true, hu]
  unfold PostB inn
  simp
theorem up_cases {xs : List Int} {u : Bool} (hu : u = true ↔ UpP xs 100 1000) : (inn (xs.length : Int) 1 100 = false ∧ u = false) ∨ (inn (xs.length : Int) 1 100 = true ∧ (u = true ↔ AllIn xs 0 1000)) := by
  cases h : inn (xs.length : Int) 1 100
  · exact .inl ⟨rfl, not_trueG hu (fun q => by have := q.1; have := of_decide_eq_false h; omega)⟩
  · have := inn_e h
    exact .inr ⟨rfl, ⟨fun q => (hu.1 q).2, fun q => hu.2 ⟨by omega, q⟩⟩⟩
set_option maxHeartbeats 800000 in
theorem Try.bgPost (w : World) (B : Nat) (v : Value) (xs : List Int) (bag : Int) (b : Bool) (hb : b = true ↔ PostB xs bag) (hl : xs.length ≤ 1048576) (h : OwnI w B v xs) :
    Calls Try.prog 78 #[v, .int .i64 bag] w fun e w' => e = .returned (.bool b) ∧ Gr w w' := by
  obtain ⟨u, hu, rfl⟩ := post_cases hb
  rcases up_cases hu with ⟨h1, rfl⟩ | ⟨h1, h2⟩
  · obtain ⟨A, c, rfl⟩ := h.sl
    have H1 := Lib.hid h1
    clear h hb h1 hu
    go_enter Try.func78, Try.ntmps78
    go_wp2_with (first | (go_at_call_of 81 (Value.int .i64 (xs.length : Int)); refine (Try.l1In _ _ _ _ H1.out _).mono ?_; rintro e w1 ⟨rfl, rfl⟩))
    go_ret
    exact ⟨rfl, by repeat (first | exact Gr.refl _ | refine Gr.alloc ?_ _ | refine Gr.trans ?_ (by assumption) | refine Gr.drew ?_ | refine Gr.drewN ?_ _ | refine Gr.grow ?_ _ | refine Gr.setCell ?_ (by (try simp); (try omega)) _)⟩
  · have HL := Lib.hid (Try.l1All w B v xs 0 1000 u h2 hl h)
    obtain ⟨A, c, rfl⟩ := h.sl
    have H1 := Lib.hid h1
    have hg : ∀ n, xs.length = n → inn (n : Int) 1 100 = true := fun n e => by rw [← e]; exact h1
    clear h hb h1 hu h2
    cases u
    · go_enter Try.func78, Try.ntmps78
      go_wp2_with (first | (go_at_call_of 81 (Value.int .i64 (xs.length : Int)); refine (Try.l1In _ _ _ _ H1.out _).mono ?_; rintro e w1 ⟨rfl, rfl⟩) | (go_at_call 87; refine (HL.out).mono ?_; rintro e w1 ⟨rfl, hbW⟩; have hcW := (bcell hbW.below).1; have hfW := (bcell hbW.below).2; (try have hzW : w.heap.size < w1.heap.size := by have hq := hbW.below.size; (try simp at hq); omega); (try have hyW : w.heap.size + 1 < w1.heap.size := by have hq := hbW.below.size; (try simp at hq); omega); (try have hxW : w.heap.size + 2 < w1.heap.size := by have hq := hbW.below.size; (try simp at hq); omega)))
      go_ret
      exact ⟨rfl, by repeat (first | exact Gr.refl _ | refine Gr.alloc ?_ _ | refine Gr.trans ?_ (by assumption) | refine Gr.drew ?_ | refine Gr.drewN ?_ _ | refine Gr.grow ?_ _ | refine Gr.setCell ?_ (by (try simp); (try omega)) _)⟩
    · rw [Bool.true_and]
      go_enter Try.func78, Try.ntmps78
      go_wp2_with (first | (go_at_call_of 81 (Value.int .i64 (xs.length : Int)); refine (Try.l1In _ _ _ _ H1.out _).mono ?_; rintro e w1 ⟨rfl, rfl⟩) | (go_at_call 87; refine (HL.out).mono ?_; rintro e w1 ⟨rfl, hbW⟩; have hcW := (bcell hbW.below).1; have hfW := (bcell hbW.below).2; (try have hzW : w.heap.size < w1.heap.size := by have hq := hbW.below.size; (try simp at hq); omega); (try have hyW : w.heap.size + 1 < w1.heap.size := by have hq := hbW.below.size; (try simp at hq); omega); (try have hxW : w.heap.size + 2 < w1.heap.size := by have hq := hbW.below.size; (try simp at hq); omega)) | (go_at_call_of 81 (Value.int .i64 bag); refine (Try.l1In _ _ _ _ rfl _).mono ?_; rintro e w1 ⟨rfl, rfl⟩))
      go_ret
      exact ⟨rfl, by repeat (first | exact Gr.refl _ | refine Gr.alloc ?_ _ | refine Gr.trans ?_ (by assumption) | refine Gr.drew ?_ | refine Gr.drewN ?_ _ | refine Gr.grow ?_ _ | refine Gr.setCell ?_ (by (try simp); (try omega)) _)⟩
def LtRel (xs : List Int) (bag : Int) (w : World) (s r i : Value) (wr : World) : Prop := ∃ k : Nat, k ≤ xs.length ∧ i = .int .i64 ((xs.length : Int) - 1 - k) ∧ r = .int .i64 (ltS xs bag k).2 ∧ OwnI wr w.heap.size s (ltS xs bag k).1 ∧ Below w.heap.size w wr
def LuRel (bag house : Int) (L : Int) (G : List Int × Int) (w : World) (s r n : Value) (wr : World) : Prop := ∃ (f : Nat) (o : List Int) (y z : Int), ltR bag house f (o, z - y) = G ∧ -(f : Int) ≤ z - y ∧ (0 ≤ y ∧ y ≤ 1000) ∧ (0 ≤ z ∧ z ≤ bag) ∧ ((o.length : Int) ≤ L) ∧ (z - y < 0 → (o.length : Int) - (z - y) ≤ L) ∧ r = .int .i64 z ∧ n = .int .i64 y ∧ OwnI wr w.heap.size s o ∧ Below w.heap.size w wr
set_option maxRecDepth 100000 in
set_option maxHeartbeats 1600000 in
theorem Try.bgLetters (w : World) (B : Nat) (v : Value) (xs : List Int) (bag : Int) (hp : PostB xs bag) (h : OwnI w B v xs) :
    Calls Try.prog 79 #[v, .int .i64 bag] w fun e w' => ∃ u, e = .returned u ∧ OwnI w' w.heap.size u (ltS xs bag xs.length).1 ∧ Below w.heap.size w w' := by
  obtain ⟨⟨hn, hall⟩, hbag⟩ := hp
  have hx : ∀ j, j < xs.length → 0 ≤ xs.getD j 0 ∧ xs.getD j 0 ≤ 1000 := fun j hj => inn_e (hall j hj)
  obtain ⟨A, c, rfl, h⟩ := h.eta
  obtain ⟨g, rfl⟩ := h.addr (by omega)
  have HO := Lib.hid h
  have HX := Lib.hid hx
  have HP := Lib.hid (fun k hk => ltS_prop xs bag hbag.1 hx k hk)
  have wn : IntKind.i64.wrap ((xs.length : Int) - 1) = (xs.length : Int) - 1 := IntWalk.i64_in _ (by omega)
  clear h hall hx
  go_enter Try.func79, Try.ntmps79
  go_wp2
  go_loopw [5, 6, 7, 8] (fun s r i _ wr => LtRel xs bag w s r i wr) (fun _ _ i _ _ => (intOf i + 1).toNat)
  case atStart => exact ⟨0, Nat.zero_le _, by simp, rfl, OwnI.nil2 _ _, Below.refl _ _⟩
  case round =>
    obtain ⟨k, hk, rfl, rfl, o5, hb'⟩ := hrel
    by_cases hlt : k < xs.length
    · obtain ⟨m, hm⟩ : ∃ m : Nat, m = xs.length - (k + 1) := ⟨_, rfl⟩
      have em : (xs.length : Int) - 1 - (k : Int) = (m : Int) := by omega
      rw [em]
      have hml : m < xs.length := by omega
      have e1 := cell_k2 hb' (HO.out.at rfl m hml).1
      obtain ⟨p1, p2, p3, p4⟩ := HP.out k hk
      have hy := HX.out m hml
      have hs : ltS xs bag (k + 1) = ltR bag ((xs.length - k : Nat) : Int) 1001 ((ltS xs bag k).1, (ltS xs bag k).2 - xs.getD (xs.length - (k + 1)) 0) := rfl
      rw [← hm, show ((xs.length - k : Nat) : Int) = (m : Int) + 1 by omega] at hs
      have HS := Lib.hid hs
      have HB := Lib.hid hb'
      have O5 := Lib.hid o5
      have hkm : m + k + 1 = xs.length := by omega
      clear hs hb' o5 p4 em
      generalize (ltS xs bag k).1 = o at *
      generalize (ltS xs bag k).2 = z at *
      generalize xs.getD m 0 = y at *
      obtain ⟨G, hG⟩ : ∃ G, ltR bag ((m : Int) + 1) 1001 (o, z - y) = G := ⟨_, rfl⟩
      rw [hG] at HS
      have HGG := Lib.hid hG
      have z0 : (0 : Int) ≤ (m : Int) := by omega
      have z1 : (m : Int) < (xs.length : Int) := by omega
      have wm : IntKind.i64.wrap ((m : Int) + 1) = (m : Int) + 1 := IntWalk.i64_in _ (by omega)
      have wm1 : IntKind.i64.wrap ((m : Int) - 1) = (m : Int) - 1 := IntWalk.i64_in _ (by omega)
      clear hG hm
      rename World => X
      go_wp2
      go_loopw [5, 6, 8] (fun s r n wr' => LuRel bag ((m : Int) + 1) (1000 * ((k : Int) + 1)) G w s r n wr') (fun _ r n _ => (intOf n - intOf r).toNat)
      case atStart => exact ⟨1001, o, y, z, HGG.out, by omega, hy, ⟨p1, p2⟩, by omega, fun _ => by omega, rfl, rfl, O5.out, HB.out⟩
      case round =>
        obtain ⟨f, o', y', z', hr, hf, hyy, hzz, hol, hol2, rfl, rfl, o6, hb6⟩ := hrel
        by_cases hc : z' < y'
        · obtain ⟨f', rfl⟩ : ∃ f', f = f' + 1 := ⟨f - 1, by omega⟩
          rw [ltR_step _ _ _ _ _ (by omega)] at hr
          have hol3 := hol2 (by omega)
          have HR := Lib.hid hr
          have O6 := Lib.hid o6
          have HB6 := Lib.hid hb6
          have wy : IntKind.i64.wrap (y' - z') = y' - z' := IntWalk.i64_in _ (by omega)
          clear hr o6 hb6 hol2
          go_wp2_with (first | (at_builtin; refine wpList_app1I rfl _ _ 29 rfl Try.underlying29 Try.infoI2 w.heap.size _ _ rfl O6.out ((m : Int) + 1) rfl (by omega) (by have := HB6.out.size; omega) ?_; intro v' w3 ho3 hb3 _ _))
          go_roundw
          case rel => exact ⟨f', o' ++ [(m : Int) + 1], y' - z', bag, by rw [show bag - (y' - z') = z' - y' + bag by omega]; exact HR.out, by omega, by omega, by omega, by simp; omega, fun _ => by simp; omega, rfl, rfl, ho3, HB6.out.trans hb3⟩
          case measure => simp [intOf]; omega
        · rw [ltR_done _ _ _ _ _ (by omega)] at hr
          have HR := Lib.hid hr
          have O6 := Lib.hid o6
          have HB6 := Lib.hid hb6
          have wy : IntKind.i64.wrap (z' - y') = z' - y' := IntWalk.i64_in _ (by omega)
          clear hr o6 hb6 hol2
          go_wp2
          go_roundw
          case rel => exact ⟨k + 1, by omega, by rw [show (xs.length : Int) - 1 - ((k + 1 : Nat) : Int) = (m : Int) - 1 by omega], by rw [HS.out, ← HR.out], by rw [HS.out, ← HR.out]; exact O6.out, HB6.out⟩
          case measure => simp [intOf] <;> omega
    · obtain rfl : k = xs.length := by omega
      have O5 := Lib.hid o5
      have HB := Lib.hid hb'
      have hneg : ¬ (0 : Int) ≤ (xs.length : Int) - 1 - (xs.length : Int) := by omega
      clear o5 hb'
      go_wp2
      go_ret
      exact ⟨_, rfl, O5.out, HB.out⟩
theorem ltS_len {xs : List Int} {bag : Int} (hp : PostB xs bag) : ((ltS xs bag xs.length).1.length : Int) ≤ 100000 ∧ ∀ k, k < (ltS xs bag xs.length).1.length → 0 ≤ (ltS xs bag xs.length).1.getD k 0 ∧ (ltS xs bag xs.length).1.getD k 0 ≤ 100 := by
  obtain ⟨_, _, c, d⟩ := ltS_prop xs bag hp.2.1 (fun j hj => inn_e (hp.1.2 j hj)) xs.length (Nat.le_refl _)
  have := hp.1.1
  refine ⟨by omega, fun k hk => ?_⟩
  have e := d ((ltS xs bag xs.length).1.getD k 0) (by rw [List.getD, List.getElem?_eq_getElem hk]; exact List.getElem_mem hk)
  omega
set_option maxHeartbeats 800000 in
theorem Try.sLettersTrips (w : World) (B : Nat) (v : Value) (xs : List Int) (bag : Int) (b : Bool) (hb : b = true ↔ PostB xs bag) (hl : xs.length ≤ 1048576) (h : OwnI w B v xs) :
    Calls Try.prog 46 #[v, .int .i64 bag] w (RetI w (if b then (ltS xs bag xs.length).1 else []) b) := by
  have HB := Lib.hid (Try.bgPost w B v xs bag b hb hl h)
  cases b
  · obtain ⟨A, c, rfl⟩ := h.sl
    clear h hb
    go_enter Try.func46, Try.ntmps46
    go_wp2_with (first | (go_at_call 78; refine HB.out.mono ?_; rintro e w1 ⟨rfl, g1⟩))
    go_ret2
    exact ⟨_, rfl, OwnI.nil2 _ _, g1.below⟩
  · have HS := Lib.hid (fun W (g : Gr w W) => Try.bgLetters W B v xs bag (hb.1 rfl) (h.gr g))
    rw [if_pos rfl]
    generalize (ltS xs bag xs.length).1 = R at *
    obtain ⟨A, c, rfl⟩ := h.sl
    clear h hb
    go_enter Try.func46, Try.ntmps46
    go_wp2_with (first | (go_at_call 78; refine HB.out.mono ?_; rintro e w1 ⟨rfl, g1⟩) | (go_at_call 79; refine (HS.out _ g1).mono ?_; rintro e w2 ⟨v2, rfl, o2, b2⟩))
    go_ret2
    exact ⟨_, rfl, o2.mono g1.below.size, g1.below.trans (b2.mono g1.below.size)⟩
set_option maxRecDepth 100000 in
set_option maxHeartbeats 800000 in
theorem Try.sLettersLength (w : World) (B : Nat) (v : Value) (xs : List Int) (bag : Int) (b : Bool) (hb : b = true ↔ PostB xs bag) (hl : xs.length ≤ 1048576) (h : OwnI w B v xs) :
    Calls Try.prog 44 #[v, .int .i64 bag] w fun e w' => e = .returned (.tuple #[.int .i64 (lenS (if b then (ltS xs bag xs.length).1 else [])), .bool b]) ∧ Below w.heap.size w w' := by
  have HB := Lib.hid (Try.bgPost w B v xs bag b hb hl h)
  cases b
  · obtain ⟨A, c, rfl⟩ := h.sl
    clear h hb
    go_enter Try.func44, Try.ntmps44
    go_wp2_with (first | (go_at_call 78; refine HB.out.mono ?_; rintro e w1 ⟨rfl, g1⟩))
    go_ret2
    exact ⟨rfl, g1.below⟩
  · have HS := Lib.hid (fun W (g : Gr w W) => Try.bgLetters W B v xs bag (hb.1 rfl) (h.gr g))
    obtain ⟨hT, hin⟩ := ltS_len (hb.1 rfl)
    rw [if_pos rfl]
    unfold lenS
    generalize (ltS xs bag xs.length).1 = T at *
    obtain ⟨A, c, rfl⟩ := h.sl
    have HIN := Lib.hid hin
    clear h hb hin
    go_enter Try.func44, Try.ntmps44
    go_wp2_with (first | (go_at_call 78; refine HB.out.mono ?_; rintro e w1 ⟨rfl, g1⟩) | (go_at_call 79; refine (HS.out _ g1).mono ?_; rintro e w2 ⟨v2, rfl, o2, b2⟩; obtain ⟨A1, c1, rfl, o2⟩ := o2.eta))
    have HO := Lib.hid o2
    have HBB := Lib.hid (g1.below.trans (b2.mono g1.below.size))
    clear o2 b2 g1
    go_loopw [6, 8, 17] (fun s _ i wr => SmfRel (fun k => 2 * T.getD k 0) T.length w2 s i wr) (fun _ _ i _ => (T.length - intOf i).toNat)
    case atStart => exact ⟨Gr.refl _, 0, Nat.zero_le _, rfl, rfl⟩
    case round =>
      obtain ⟨gr, k, hk, rfl, rfl⟩ := hrel
      by_cases hlt : k < T.length
      · obtain ⟨gb, rfl⟩ := HO.out.addr (by omega)
        have e1 := gr.keep2 (HO.out.at rfl k hlt).1
        have z0 : (0 : Int) ≤ (k : Int) := by omega
        have z1 : (k : Int) < (T.length : Int) := by omega
        have b1 := smF_in (F := fun k => 2 * T.getD k 0) (M := 200) (n := T.length) (fun j hj => by have := HIN.out j hj; (try simp only); omega) k hk
        have b2 := HIN.out k hlt
        have hs : smF (fun k => 2 * T.getD k 0) (k + 1) = smF (fun k => 2 * T.getD k 0) k + 2 * T.getD k 0 := rfl
        have HS := Lib.hid hs
        have GR := Lib.hid gr
        clear hs gr
        generalize smF (fun k => 2 * T.getD k 0) k = s at *
        generalize T.getD k 0 = x at *
        have wx : IntKind.i64.wrap (2 * x) = 2 * x := IntWalk.i64_in _ (by omega)
        have ws : IntKind.i64.wrap (s + 2 * x) = s + 2 * x := IntWalk.i64_in _ (by omega)
        go_wp2
        go_roundw
        case rel => exact ⟨GR.out, k + 1, by omega, by go_num, by rw [HS.out]⟩
        case measure => simp [intOf]; omega
      · obtain rfl : k = T.length := by omega
        have GR := Lib.hid gr
        clear gr
        go_wp2
        go_ret2
        exact ⟨rfl, HBB.out.trans (GR.out.below.mono HBB.out.size)⟩
def LvRel (xs : List Int) (bag : Int) (w : World) (s r i : Value) (wr : World) : Prop := ∃ k : Nat, k ≤ xs.length ∧ i = .int .i64 ((xs.length : Int) - k) ∧ r = .int .i64 (ltS xs bag k).2 ∧ OwnI wr w.heap.size s (ltS xs bag k).1 ∧ Below w.heap.size w wr
def LwRel (bag house : Int) (L : Int) (G : List Int × Int) (w : World) (s r : Value) (wr : World) : Prop := ∃ (f : Nat) (o : List Int) (z : Int), ltR bag house f (o, z) = G ∧ -(f : Int) ≤ z ∧ (-1000 ≤ z ∧ z ≤ bag) ∧ ((o.length : Int) ≤ L) ∧ (z < 0 → (o.length : Int) - z ≤ L) ∧ r = .int .i64 z ∧ OwnI wr w.heap.size s o ∧ Below w.heap.size w wr
set_option maxRecDepth 100000 in
set_option maxHeartbeats 1600000 in
theorem Try.iLettersTrips (w : World) (B : Nat) (v : Value) (xs : List Int) (bag : Int) (b : Bool) (hb : b = true ↔ PostB xs bag) (hl : xs.length ≤ 1048576) (h : OwnI w B v xs) :
    Calls Try.prog 47 #[v, .int .i64 bag] w (RetI w (if b then (ltS xs bag xs.length).1 else []) b) := by
  obtain ⟨u, hu, hbu⟩ := post_cases hb
  have HU := Lib.hid (Try.areUpTo w B v xs 100 1000 u hu hl h)
  cases hbv : b
  · rw [hbv] at hbu
    obtain ⟨A, c, rfl⟩ := h.sl
    clear h hb hbv
    cases u
    · clear hbu hu
      go_enter Try.func47, Try.ntmps47
      go_wp2_with (first | (go_at_call 80; refine (HU.out).mono ?_; rintro e w1 ⟨rfl, hbW⟩; have hcW := (bcell hbW.below).1; have hfW := (bcell hbW.below).2; (try have hzW : w.heap.size < w1.heap.size := by have hq := hbW.below.size; (try simp at hq); omega); (try have hyW : w.heap.size + 1 < w1.heap.size := by have hq := hbW.below.size; (try simp at hq); omega); (try have hxW : w.heap.size + 2 < w1.heap.size := by have hq := hbW.below.size; (try simp at hq); omega)))
      go_ret2
      exact ⟨_, rfl, OwnI.nil2 _ _, Gr.below (by repeat (first | exact Gr.refl _ | refine Gr.alloc ?_ _ | refine Gr.trans ?_ (by assumption) | refine Gr.drew ?_ | refine Gr.drewN ?_ _ | refine Gr.grow ?_ _ | refine Gr.setCell ?_ (by (try simp); (try omega)) _))⟩
    · have HI := Lib.hid (show inn bag 1 10000 = false by simpa using hbu.symm)
      clear hbu hu
      go_enter Try.func47, Try.ntmps47
      go_wp2_with (first | (go_at_call 80; refine (HU.out).mono ?_; rintro e w1 ⟨rfl, hbW⟩; have hcW := (bcell hbW.below).1; have hfW := (bcell hbW.below).2; (try have hzW : w.heap.size < w1.heap.size := by have hq := hbW.below.size; (try simp at hq); omega); (try have hyW : w.heap.size + 1 < w1.heap.size := by have hq := hbW.below.size; (try simp at hq); omega); (try have hxW : w.heap.size + 2 < w1.heap.size := by have hq := hbW.below.size; (try simp at hq); omega)) | (go_at_call 52; refine (Try.within _ _ _ _ HI.out _).mono ?_; rintro e w1 ⟨rfl, rfl⟩))
      go_ret2
      exact ⟨_, rfl, OwnI.nil2 _ _, Gr.below (by repeat (first | exact Gr.refl _ | refine Gr.alloc ?_ _ | refine Gr.trans ?_ (by assumption) | refine Gr.drew ?_ | refine Gr.drewN ?_ _ | refine Gr.grow ?_ _ | refine Gr.setCell ?_ (by (try simp); (try omega)) _))⟩
  · rw [hbv] at hbu
    have hbu2 := hbu.symm
    rw [Bool.and_eq_true] at hbu2
    obtain ⟨rfl, hi⟩ := hbu2
    have HI := Lib.hid hi
    obtain ⟨⟨hn, hall⟩, hbag⟩ := hb.1 hbv
    have hx : ∀ j, j < xs.length → 0 ≤ xs.getD j 0 ∧ xs.getD j 0 ≤ 1000 := fun j hj => inn_e (hall j hj)
    obtain ⟨A, c, rfl, h⟩ := h.eta
    obtain ⟨g, rfl⟩ := h.addr (by omega)
    have HO := Lib.hid h
    have HX := Lib.hid hx
    have HP := Lib.hid (fun k hk => ltS_prop xs bag hbag.1 hx k hk)
    rw [if_pos rfl]
    clear h hall hx hb hbv hbu hi hu
    go_enter Try.func47, Try.ntmps47
    go_wp2_with (first | (go_at_call 80; refine HU.out.mono ?_; rintro e w1 ⟨rfl, g1⟩) | (go_at_call 52; refine (Try.within _ _ _ _ HI.out _).mono ?_; rintro e w1 ⟨rfl, rfl⟩))
    go_loopw [6, 7, 8] (fun s r i wr => LvRel xs bag w s r i wr) (fun _ _ i _ => (intOf i).toNat)
    case atStart => exact ⟨0, Nat.zero_le _, by simp, rfl, OwnI.nil2 _ _, g1.below⟩
    case round =>
      obtain ⟨k, hk, rfl, rfl, o5, hb'⟩ := hrel
      by_cases hlt : k < xs.length
      · obtain ⟨m, hm⟩ : ∃ m : Nat, m = xs.length - (k + 1) := ⟨_, rfl⟩
        have em : (xs.length : Int) - (k : Int) = (m : Int) + 1 := by omega
        rw [em]
        have hml : m < xs.length := by omega
        have e1 := cell_k2 hb' (HO.out.at rfl m hml).1
        obtain ⟨p1, p2, p3, p4⟩ := HP.out k hk
        have hy := HX.out m hml
        have hs : ltS xs bag (k + 1) = ltR bag ((xs.length - k : Nat) : Int) 1001 ((ltS xs bag k).1, (ltS xs bag k).2 - xs.getD (xs.length - (k + 1)) 0) := rfl
        rw [← hm, show ((xs.length - k : Nat) : Int) = (m : Int) + 1 by omega] at hs
        have HS := Lib.hid hs
        have HB := Lib.hid hb'
        have O5 := Lib.hid o5
        have hkm : m + k + 1 = xs.length := by omega
        clear hs hb' o5 p4 em
        generalize (ltS xs bag k).1 = o at *
        generalize (ltS xs bag k).2 = z at *
        generalize xs.getD m 0 = y at *
        obtain ⟨G, hG⟩ : ∃ G, ltR bag ((m : Int) + 1) 1001 (o, z - y) = G := ⟨_, rfl⟩
        rw [hG] at HS
        have HGG := Lib.hid hG
        have z0 : (0 : Int) ≤ (m : Int) := by omega
        have z1 : (m : Int) < (xs.length : Int) := by omega
        have wm1 : IntKind.i64.wrap ((m : Int) + 1 - 1) = (m : Int) := by rw [Int.add_sub_cancel]; exact IntWalk.i64_in _ (by omega)
        have zp : (0 : Int) < (m : Int) + 1 := by omega
        have wzy : IntKind.i64.wrap (z - y) = z - y := IntWalk.i64_in _ (by omega)
        clear hG hm
        rename World => X
        go_wp2
        go_loopw [6, 7] (fun s r wr' => LwRel bag ((m : Int) + 1) (1000 * ((k : Int) + 1)) G w s r wr') (fun _ r _ => (- intOf r).toNat)
        case atStart => exact ⟨1001, o, z - y, HGG.out, by omega, by omega, by omega, fun _ => by omega, rfl, O5.out, HB.out⟩
        case round =>
          obtain ⟨f, o', z', hr, hf, hzz, hol, hol2, rfl, o6, hb6⟩ := hrel
          by_cases hc : z' < 0
          · obtain ⟨f', rfl⟩ : ∃ f', f = f' + 1 := ⟨f - 1, by omega⟩
            rw [ltR_step _ _ _ _ _ hc] at hr
            have hol3 := hol2 hc
            have HR := Lib.hid hr
            have O6 := Lib.hid o6
            have HB6 := Lib.hid hb6
            have wy : IntKind.i64.wrap (z' + bag) = z' + bag := IntWalk.i64_in _ (by omega)
            clear hr o6 hb6 hol2
            go_wp2_with (first | (at_builtin; refine wpList_app1I rfl _ _ 29 rfl Try.underlying29 Try.infoI2 w.heap.size _ _ rfl O6.out ((m : Int) + 1) rfl (by omega) (by have := HB6.out.size; omega) ?_; intro v' w3 ho3 hb3 _ _))
            go_roundw
            case rel => exact ⟨f', o' ++ [(m : Int) + 1], z' + bag, HR.out, by omega, by omega, by simp; omega, fun _ => by simp; omega, rfl, ho3, HB6.out.trans hb3⟩
            case measure => simp [intOf]; omega
          · rw [ltR_done _ _ _ _ _ (by omega)] at hr
            have HR := Lib.hid hr
            have O6 := Lib.hid o6
            have HB6 := Lib.hid hb6
            clear hr o6 hb6 hol2
            go_wp2
            go_roundw
            case rel => exact ⟨k + 1, by omega, by rw [show (xs.length : Int) - ((k + 1 : Nat) : Int) = (m : Int) by omega], by rw [HS.out, ← HR.out], by rw [HS.out, ← HR.out]; exact O6.out, HB6.out⟩
            case measure => simp [intOf] <;> omega
      · obtain rfl : k = xs.length := by omega
        have O5 := Lib.hid o5
        have HB := Lib.hid hb'
        have hneg : ¬ (0 : Int) < (xs.length : Int) - (xs.length : Int) := by omega
        clear o5 hb'
        go_wp2
        go_ret2
        exact ⟨_, rfl, O5.out, HB.out⟩
set_option maxHeartbeats 800000 in
theorem Try.iLettersLength (w : World) (B : Nat) (v : Value) (xs : List Int) (bag : Int) (b : Bool) (hb : b = true ↔ PostB xs bag) (hl : xs.length ≤ 1048576) (h : OwnI w B v xs) :
    Calls Try.prog 45 #[v, .int .i64 bag] w fun e w' => e = .returned (.tuple #[.int .i64 (lenS (if b then (ltS xs bag xs.length).1 else [])), .bool b]) ∧ Below w.heap.size w w' := by
  have HB := Lib.hid (Try.iLettersTrips w B v xs bag b hb hl h)
  have hT : (if b then (ltS xs bag xs.length).1 else []).length ≤ 1000000 ∧ ∀ k, k < (if b then (ltS xs bag xs.length).1 else []).length → 0 ≤ (if b then (ltS xs bag xs.length).1 else []).getD k 0 ∧ (if b then (ltS xs bag xs.length).1 else []).getD k 0 ≤ 1000 := by
    cases b
    · exact ⟨by simp, fun k hk => by simp at hk⟩
    · obtain ⟨hT, hin⟩ := ltS_len (hb.1 rfl)
      rw [if_pos rfl]
      exact ⟨by omega, fun k hk => by have := hin k hk; omega⟩
  generalize (if b then (ltS xs bag xs.length).1 else []) = T at *
  have HL := Lib.hid (fun W C u (o : OwnI W C u T) => Try.lengthOf T W C u o hT.1 hT.2)
  generalize lenS T = r at *
  obtain ⟨A, c, rfl⟩ := h.sl
  clear h hb hT
  go_enter Try.func45, Try.ntmps45
  go_wp2_with (first | (go_at_call 47; refine HB.out.mono ?_; rintro e w1 ⟨v1, rfl, o1, b1⟩; have O1 := Lib.hid o1) | (go_at_call 64; refine (HL.out _ _ _ O1.out).mono ?_; rintro e w2 ⟨rfl, g2⟩))
  go_ret2
  exact ⟨rfl, b1.trans (g2.below.mono b1.size)⟩
end Go.Proofs
