/-
  Contracts of chapter 1: ranges with a sum, streets with balanced houses.
-/
import Derived.Test.YtbnkhmemicmadaaNuS0
import Derived.Test.YtbnkhmemicmadaaRgMath
import Derived.Test.YtbnkhmemicmadaaRows2
namespace Nu
def rgOne (s m : Int) : List (Int × Int) := if 0 < ov s m ∧ ov s m % m = 0 then [(ov s m / m, ov s m / m + m - 1)] else []
def rgs (s : Int) : Nat → List (Int × Int)
  | 0 => []
  | k + 1 => rgs s k ++ rgOne s (s - k)
theorem rgOne_mem {s m : Int} (hm : 1 ≤ m) (p : Int × Int) : p ∈ rgOne s m ↔ Rg s p ∧ p.2 - p.1 + 1 = m := by
  rw [rg_many hm p]
  unfold rgOne
  split
  · rename_i h
    simp [h.1, h.2]
  · rename_i h
    simp only [List.not_mem_nil, false_iff]
    exact fun q => h ⟨q.1, q.2.1⟩
theorem rgs_mem {s : Int} (k : Nat) (hk : (k : Int) ≤ s) (p : Int × Int) : p ∈ rgs s k ↔ Rg s p ∧ s - k < p.2 - p.1 + 1 := by
  induction k with
  | zero =>
    simp only [rgs, List.not_mem_nil, false_iff]
    rintro ⟨a, b⟩
    have := rg_le a
    have := a.1
    omega
  | succ k ih =>
    simp only [rgs, List.mem_append]
    rw [ih (by omega), rgOne_mem (by omega)]
    constructor
    · rintro (⟨a, b⟩ | ⟨a, b⟩)
      · exact ⟨a, by omega⟩
      · exact ⟨a, by omega⟩
    · rintro ⟨a, b⟩
      by_cases e : s - (k : Int) < p.2 - p.1 + 1
      · exact .inl ⟨a, e⟩
      · exact .inr ⟨a, by omega⟩
theorem rgs_sorted {s : Int} (k : Nat) (hk : (k : Int) ≤ s) : (rgs s k).Pairwise fun p q => p.1 < q.1 := by
  induction k with
  | zero => simp [rgs]
  | succ k ih =>
    simp only [rgs]
    rw [List.pairwise_append]
    refine ⟨ih (by omega), by unfold rgOne; split <;> simp, fun p hp q hq => ?_⟩
    have a := (rgs_mem k (by omega) p).1 hp
    have b := (rgOne_mem (by omega) q).1 hq
    exact rg_order a.1 b.1 (by omega)
theorem rgs_len (s : Int) (k : Nat) : (rgs s k).length ≤ k := by
  induction k with
  | zero => simp [rgs]
  | succ k ih => simp only [rgs, List.length_append]; unfold rgOne; split <;> simp <;> omega
def rgL (s : Int) : List (Int × Int) := rgs s s.toNat
theorem rgL_is {s : Int} (hs : 1 ≤ s) {xs : List (Int × Int)} (h1 : xs.Pairwise fun p q => p.1 < q.1) (h2 : ∀ p, p ∈ xs ↔ Rg s p ∧ p.1 < s + 1) : xs = rgL s := by
  refine sorted_same h1 (rgs_sorted _ (by omega)) fun p => ?_
  rw [h2 p]
  unfold rgL
  rw [rgs_mem _ (by omega)]
  refine and_congr_right fun a => ?_
  have := rg_le a
  obtain ⟨b, c, _⟩ := a
  omega
end Nu
namespace Go.Proofs
open Go.RowKit Nu
set_option linter.unusedVariables false
set_option linter.unusedSimpArgs false
def rgB (s : Int) : Bool := inn s 1 100000
def rgV (s : Int) : List Pi2 := if rgB s then rgL s else []
theorem rgV_len (s : Int) : (rgV s).length ≤ 100000 := by
  unfold rgV
  split
  · rename_i h
    have := inn_e h
    have := rgs_len s s.toNat
    unfold rgL; omega
  · simp
theorem mm_bd {m : Int} (h : 1 ≤ m) (g : m ≤ 100000) : 0 ≤ m * (m - 1) ∧ m * (m - 1) ≤ 10000000000 := by
  have a : 0 ≤ m * (m - 1) := Int.mul_nonneg (by omega) (by omega)
  have b : m * (m - 1) ≤ 100000 * 100000 := Int.mul_le_mul g (by omega) (by omega) (by omega)
  omega
def SRelR (s : Int) (w : World) (o n : Value) (wr : World) : Prop := ∃ k : Nat, (k : Int) ≤ s ∧ n = .int .i64 (s - k) ∧ OwnR wr w.heap.size o (rgs s k) ∧ Below w.heap.size w wr
set_option maxRecDepth 100000 in
set_option maxHeartbeats 1600000 in
theorem Try.sRanges (s : Int) (w : World) :
    Calls Try.prog 29 #[.int .i64 s] w fun e w' => ∃ v, e = .returned (.tuple #[v, .bool (rgB s)]) ∧ OwnR w' w.heap.size v (rgV s) ∧ Below w.heap.size w w' := by
  cases hs : rgB s
  · rw [show rgV s = [] by simp [rgV, hs]]
    have H := Lib.hid (show inn s 1 100000 = false from hs)
    clear hs
    go_enter Try.func29, Try.ntmps29
    go_wp2_with (first | (go_at_call 56; refine (Try.l1In _ _ _ _ H.out _).mono ?_; rintro e w1 ⟨rfl, rfl⟩))
    go_ret2
    exact ⟨_, rfl, OwnR.nil _ _, Below.refl _ _⟩
  · obtain ⟨s1, s2⟩ := inn_e hs
    rw [show rgV s = rgs s s.toNat by simp [rgV, hs, rgL]]
    have H := Lib.hid (show inn s 1 100000 = true from hs)
    clear hs
    go_enter Try.func29, Try.ntmps29
    go_wp2_with (first | (go_at_call 56; refine (Try.l1In _ _ _ _ H.out _).mono ?_; rintro e w1 ⟨rfl, rfl⟩))
    go_loopw [4, 5, 6] (fun o n _ wr => SRelR s w o n wr) (fun _ n _ _ => (intOf n).toNat)
    case atStart => exact ⟨0, by omega, by go_num, OwnR.nil _ _, Below.refl _ _⟩
    case round =>
      obtain ⟨k, hk, rfl, ho, hb⟩ := hrel
      have HO := Lib.hid ho
      have HB := Lib.hid hb
      have HL := Lib.hid (Nat.le_trans (rgs_len s k) (show k ≤ 100000000 by omega))
      have sz := hb.size
      clear ho hb
      by_cases hlt : (k : Int) < s
      · obtain ⟨m, hm⟩ : ∃ m, s - (k : Int) = m := ⟨_, rfl⟩
        have m1 : 1 ≤ m := by omega
        have m2 : m ≤ 100000 := by omega
        obtain ⟨q1, q2⟩ := mm_bd m1 m2
        have eo : ov s m = s - m * (m - 1) / 2 := rfl
        have EM := Lib.hid hm
        have ES := Lib.hid (show rgs s (k + 1) = rgs s k ++ rgOne s m by rw [← hm]; rfl)
        rw [hm]
        obtain ⟨o, ho⟩ : ∃ o, s - m * (m - 1) / 2 = o := ⟨_, rfl⟩
        rw [ho] at eo
        have o1 : o ≤ 100000 := by omega
        have o2 : -5000000000 ≤ o := by omega
        have d1 : 0 < o → 0 ≤ o / m ∧ o / m ≤ 100000 := fun h => ⟨Int.ediv_nonneg (by omega) (by omega), Int.le_trans (Int.ediv_le_self _ (by omega)) o1⟩
        clear hm
        by_cases hp : 0 < o
        · obtain ⟨d2, d3⟩ := d1 hp
          by_cases hd : o % m = 0
          · have EQ := Lib.hid (show rgOne s m = [(o / m, o / m + m - 1)] by unfold rgOne; rw [eo, if_pos ⟨hp, hd⟩])
            have hz : (o % m == 0) = true := by simp [hd]
            have HOO := Lib.hid ho
            clear eo d1 hd
            have t1 : o.tdiv m = o / m := Int.tdiv_eq_ediv_of_nonneg (by omega)
            have t2 : IntKind.i64.wrap (o / m) = o / m := IntWalk.i64_in _ (by omega)
            have t3 : IntKind.i64.wrap (o / m + m) = o / m + m := IntWalk.i64_in _ (by omega)
            have t4 : IntKind.i64.wrap (o / m + m - 1) = o / m + m - 1 := IntWalk.i64_in _ (by omega)
            have hm0 : (m == 0) = false := by simp; omega
            have hm1 : ¬ m = 0 := by omega
            go_wp2
            go_region_held3 (fun _ => True) (trivial) ((refine step_app1Rd rfl _ _ 36 rfl Try.underlying36 Try.infoS w.heap.size _ _ rfl HO.out (o / m) (o / m + m - 1) rfl HL.out sz ?_; intro v3 w3 ho3 hb3))
            have OW := Lib.hid ho3
            have GB := Lib.hid (HB.out.trans hb3)
            clear ho3 hb3
            go_wp2
            go_roundw
            case rel => exact ⟨k + 1, by omega, by (congr 1; have := EM.out; omega), by rw [ES.out, EQ.out]; exact OW.out, GB.out⟩
            case measure => simp [intOf]; omega
          · have EQ := Lib.hid (show rgOne s m = [] by unfold rgOne; rw [eo, if_neg (fun q => hd q.2)])
            have hz : (o % m == 0) = false := by simp; exact hd
            have HOO := Lib.hid ho
            have hm1 : ¬ m = 0 := by omega
            clear eo d1 hd
            go_wp2
            go_roundw
            case rel => exact ⟨k + 1, by omega, by (congr 1; have := EM.out; omega), by rw [ES.out, EQ.out, List.append_nil]; exact HO.out, HB.out⟩
            case measure => simp [intOf]; omega
        · have EQ := Lib.hid (show rgOne s m = [] by unfold rgOne; rw [eo, if_neg (fun q => hp q.1)])
          have HOO := Lib.hid ho
          clear eo d1
          go_wp2
          go_roundw
          case rel => exact ⟨k + 1, by omega, by (congr 1; have := EM.out; omega), by rw [ES.out, EQ.out, List.append_nil]; exact HO.out, HB.out⟩
          case measure => simp [intOf]; omega
      · have hk2 : (k : Int) = s := by omega
        have HT := Lib.hid (show s.toNat = k by omega)
        have hz : s - (k : Int) = 0 := by omega
        rw [hz]
        clear hk2 hz
        go_wp2
        go_ret2
        exact ⟨_, rfl, by rw [HT.out]; exact HO.out, HB.out⟩
def IRelR (s : Int) (w : World) (o l f : Value) (wr : World) : Prop :=
  ∃ (j : Nat) (x : Int) (xs : List Pi2), (j : Int) ≤ s ∧ f = .int .i64 ((j : Int) + 1) ∧ l = .int .i64 x ∧ 0 ≤ x ∧ x ≤ s ∧ (x = 0 ∨ su (x - 1) - su (j : Int) < s) ∧ xs.length ≤ j ∧ (xs.Pairwise fun p q => p.1 < q.1) ∧ (∀ p, p ∈ xs ↔ Rg s p ∧ p.1 < (j : Int) + 1) ∧
    OwnR wr w.heap.size o xs ∧ Below w.heap.size w wr
def JRelR (s : Int) (j : Nat) (l : Value) : Prop := ∃ x : Int, l = .int .i64 x ∧ 0 ≤ x ∧ x ≤ s ∧ (x = 0 ∨ su (x - 1) - su (j : Int) < s)
theorem rg_snoc {s : Int} {j : Nat} {x : Int} {xs : List Pi2} (hs : 1 ≤ s) (h1 : xs.Pairwise fun p q => p.1 < q.1) (h2 : ∀ p, p ∈ xs ↔ Rg s p ∧ p.1 < (j : Int) + 1) (hx : 0 ≤ x) (hb : x = 0 ∨ su (x - 1) - su (j : Int) < s) (ha : s ≤ su x - su (j : Int)) :
    (su x - su (j : Int) = s → ((xs ++ [((j : Int) + 1, x)]).Pairwise fun p q => p.1 < q.1) ∧ ∀ p, p ∈ xs ++ [((j : Int) + 1, x)] ↔ Rg s p ∧ p.1 < ((j + 1 : Nat) : Int) + 1) ∧
    (¬ su x - su (j : Int) = s → ∀ p, p ∈ xs ↔ Rg s p ∧ p.1 < ((j + 1 : Nat) : Int) + 1) := by
  have key := fun q => rg_at (s := s) (f := (j : Int) + 1) (l := x) hs (by omega) hx (by rw [show (j : Int) + 1 - 1 = (j : Int) by omega]; exact hb) (by rw [show (j : Int) + 1 - 1 = (j : Int) by omega]; exact ha) q
  rw [show (j : Int) + 1 - 1 = (j : Int) by omega] at key
  constructor
  · intro e
    refine ⟨?_, fun p => ?_⟩
    · rw [List.pairwise_append]
      refine ⟨h1, by simp, fun p hp q hq => ?_⟩
      have := (h2 p).1 hp
      simp at hq; subst hq; exact this.2
    · rw [List.mem_append, h2 p]
      constructor
      · rintro (⟨a, b⟩ | b)
        · exact ⟨a, by push_cast; omega⟩
        · simp at b; subst b
          exact ⟨(key x).2 ⟨rfl, e⟩, by push_cast; omega⟩
      · rintro ⟨a, b⟩
        by_cases c : p.1 < (j : Int) + 1
        · exact .inl ⟨a, c⟩
        · refine .inr ?_
          have hf : p.1 = (j : Int) + 1 := by push_cast at b; omega
          obtain ⟨f, q⟩ := p
          simp only at hf; subst hf
          rw [((key q).1 a).1]; simp
  · intro e p
    rw [h2 p]
    refine and_congr_right fun a => ⟨fun b => by push_cast; omega, fun b => ?_⟩
    by_cases c : p.1 < (j : Int) + 1
    · exact c
    · have hf : p.1 = (j : Int) + 1 := by push_cast at b; omega
      obtain ⟨f, q⟩ := p
      simp only at hf; subst hf
      exact absurd ((key q).1 a).2 e
theorem su_next {s : Int} {j : Nat} {x : Int} (hb : x = 0 ∨ su (x - 1) - su (j : Int) < s) : x = 0 ∨ su (x - 1) - su ((j + 1 : Nat) : Int) < s := by
  rcases hb with h | h
  · exact .inl h
  · have := su_mono j ((j + 1 : Nat) : Int) (by omega) (by push_cast; omega)
    exact .inr (by omega)
set_option maxRecDepth 100000 in
set_option maxHeartbeats 1600000 in
theorem Try.iRanges (s : Int) (w : World) :
    Calls Try.prog 30 #[.int .i64 s] w fun e w' => ∃ v, e = .returned (.tuple #[v, .bool (rgB s)]) ∧ OwnR w' w.heap.size v (rgV s) ∧ Below w.heap.size w w' := by
  cases hs : rgB s
  · rw [show rgV s = [] by simp [rgV, hs]]
    have H := Lib.hid (show inn s 1 100000 = false from hs)
    clear hs
    go_enter Try.func30, Try.ntmps30
    go_wp2_with (first | (go_at_call 74; refine (Try.within _ _ _ _ H.out _).mono ?_; rintro e w1 ⟨rfl, rfl⟩))
    go_ret2
    exact ⟨_, rfl, OwnR.nil _ _, Below.refl _ _⟩
  · obtain ⟨s1, s2⟩ := inn_e hs
    rw [show rgV s = rgL s by simp [rgV, hs]]
    have H := Lib.hid (show inn s 1 100000 = true from hs)
    clear hs
    go_enter Try.func30, Try.ntmps30
    go_wp2_with (first | (go_at_call 74; refine (Try.within _ _ _ _ H.out _).mono ?_; rintro e w1 ⟨rfl, rfl⟩))
    go_loopw [4, 5, 6] (fun o l f wr => IRelR s w o l f wr) (fun _ _ f _ => (s + 1 - intOf f).toNat)
    case atStart => exact ⟨0, 0, [], by omega, rfl, rfl, by omega, by omega, .inl rfl, by simp, by simp, fun p => by simp only [List.not_mem_nil, false_iff]; rintro ⟨a, b⟩; have := a.1; simp at b; omega, OwnR.nil _ _, Below.refl _ _⟩
    case round =>
      obtain ⟨j, x, xs, hj, rfl, rfl, x0, x1, hx, hl, hp, hm, ho, hb⟩ := hrel
      have HO := Lib.hid ho
      have HB := Lib.hid hb
      have HP := Lib.hid hp
      have HM := Lib.hid hm
      have HX := Lib.hid hx
      have sz := hb.size
      clear ho hb hp hm hx
      by_cases hlt : (j : Int) < s
      · obtain ⟨j1, j2⟩ := su_bd (j : Int) (by omega) (by omega)
        have ej : (j : Int) + 1 - 1 = (j : Int) := by omega
        have hend := rg_end (s := s) (f := (j : Int) + 1) (by omega) (by omega)
        rw [ej] at hend
        have HEND := Lib.hid hend
        clear hend
        obtain ⟨sj, hsj⟩ : ∃ y, su (j : Int) = y := ⟨_, rfl⟩
        have HSJ := Lib.hid hsj
        rw [hsj] at j1 j2
        clear hsj
        have d12 : decide ((j : Int) + 1 ≤ s) = true := by simp; omega
        go_wp2
        go_loop [5] (fun l => JRelR s j l) (fun l => (s - intOf l).toNat)
        case atStart => exact ⟨x, rfl, x0, x1, HX.out⟩
        case round =>
          obtain ⟨y, rfl, y0, y1, hy⟩ := hrel
          obtain ⟨t1, t2⟩ := su_bd y y0 (by omega)
          have HY := Lib.hid hy
          clear hy
          obtain ⟨sy, hsy⟩ : ∃ z, su y = z := ⟨_, rfl⟩
          have HSY := Lib.hid hsy
          rw [hsy] at t1 t2
          clear hsy
          by_cases hc : sy - sj < s
          · have hys : y < s := by
              rcases Int.lt_or_le y s with q | q
              · exact q
              · have e : y = s := by omega
                have := HEND.out
                rw [← e, HSY.out, HSJ.out] at this
                omega
            have HN := Lib.hid (show y + 1 = 0 ∨ su (y + 1 - 1) - su (j : Int) < s from .inr (by rw [show y + 1 - 1 = y by omega, HSY.out, HSJ.out]; exact hc))
            go_wp2_with (first | (go_at_call_of 75 (Value.int .i64 y); refine (Try.sumUpTo _ (by omega) (by omega) _).mono ?_; rintro e w1 ⟨rfl, rfl⟩; rw [HSY.out]) | (go_at_call_of 75 (Value.int .i64 (j : Int)); refine (Try.sumUpTo _ (by omega) (by omega) _).mono ?_; rintro e w1 ⟨rfl, rfl⟩; rw [HSJ.out]))
            go_round
            case rel => exact ⟨y + 1, rfl, by omega, by omega, HN.out⟩
            case measure => simp [intOf]; omega
          · have hge : s ≤ su y - su (j : Int) := by rw [HSY.out, HSJ.out]; omega
            obtain ⟨r1, r2⟩ := rg_snoc s1 HP.out HM.out y0 HY.out hge
            rw [HSY.out, HSJ.out] at r1 r2
            have HR1 := Lib.hid r1
            have HR2 := Lib.hid r2
            have HXN := Lib.hid (su_next HY.out)
            clear r1 r2 hge
            by_cases he : sy - sj = s
            · obtain ⟨p1, p2⟩ := HR1.out he
              have P1 := Lib.hid p1
              have P2 := Lib.hid p2
              have hq : (sy - sj == s) = true := by simp [he]
              have HE := Lib.hid he
              clear p1 p2 he
              go_wp2_with (first | (go_at_call_of 75 (Value.int .i64 y); refine (Try.sumUpTo _ (by omega) (by omega) _).mono ?_; rintro e w1 ⟨rfl, rfl⟩; rw [HSY.out]) | (go_at_call_of 75 (Value.int .i64 (j : Int)); refine (Try.sumUpTo _ (by omega) (by omega) _).mono ?_; rintro e w1 ⟨rfl, rfl⟩; rw [HSJ.out]) | (at_builtin; refine wpList_app1R rfl _ _ 36 rfl Try.underlying36 Try.infoS w.heap.size _ _ rfl HO.out ((j : Int) + 1) y rfl (by omega) sz ?_; intro v3 w3 ho3 hb3))
              have OW := Lib.hid ho3
              have GB := Lib.hid (HB.out.trans hb3)
              clear ho3 hb3
              go_wp2
              go_roundw
              case rel => exact ⟨j + 1, y, xs ++ [((j : Int) + 1, y)], by omega, by (congr 1), rfl, y0, y1, HXN.out, by simp; omega, P1.out, P2.out, OW.out, GB.out⟩
              case measure => simp [intOf]; omega
            · have P2 := Lib.hid (HR2.out he)
              have hq : (sy - sj == s) = false := by simp; exact he
              go_wp2_with (first | (go_at_call_of 75 (Value.int .i64 y); refine (Try.sumUpTo _ (by omega) (by omega) _).mono ?_; rintro e w1 ⟨rfl, rfl⟩; rw [HSY.out]) | (go_at_call_of 75 (Value.int .i64 (j : Int)); refine (Try.sumUpTo _ (by omega) (by omega) _).mono ?_; rintro e w1 ⟨rfl, rfl⟩; rw [HSJ.out]))
              go_roundw
              case rel => exact ⟨j + 1, y, xs, by omega, by (congr 1), rfl, y0, y1, HXN.out, by omega, HP.out, P2.out, HO.out, HB.out⟩
              case measure => simp [intOf]; omega
      · have hjs : (j : Int) = s := by omega
        have HL := Lib.hid (rgL_is s1 HP.out (fun p => by rw [HM.out p, hjs]))
        go_wp2
        go_ret2
        exact ⟨_, rfl, by rw [← HL.out]; exact HO.out, HB.out⟩
/-- for each number of houses up to k for which there is one: this number and the house -/
def bls (h : Nat → Int) : Nat → List Pi2
  | 0 => []
  | k + 1 => bls h k ++ (if h (k + 1) * h (k + 1) = su ((k + 1 : Nat) : Int) then [(((k + 1 : Nat) : Int), h (k + 1))] else [])
theorem bls_len (h : Nat → Int) (k : Nat) : (bls h k).length ≤ k := by
  induction k with
  | zero => simp [bls]
  | succ k ih => simp only [bls, List.length_append]; split <;> simp <;> omega
def blB (m : Int) : Bool := inn m 1 1000000
def blW (h : Nat → Int) (m : Int) : List Pi2 := if blB m then bls h m.toNat else []
theorem blW_len (h : Nat → Int) (m : Int) : (blW h m).length ≤ 1000000 := by
  unfold blW
  split
  · rename_i q
    have := inn_e q
    have := bls_len h m.toNat
    omega
  · simp
def Houses (h : Nat → Int) : Prop := ∀ n : Nat, 1 ≤ n → Up (su n) (h n)
theorem houses_ex : ∃ h, Houses h := by
  have key : ∀ n : Nat, ∃ x, 1 ≤ n → Up (su n) x := fun n => by
    by_cases q : 1 ≤ n
    · obtain ⟨x, hx⟩ := up_su n (by omega)
      exact ⟨x, fun _ => hx⟩
    · exact ⟨0, fun r => absurd r q⟩
  exact ⟨fun n => Classical.choose (key n), fun n hn => Classical.choose_spec (key n) hn⟩
def BRelS (h : Nat → Int) (m : Int) (w : World) (o n : Value) (wr : World) : Prop := ∃ k : Nat, (k : Int) ≤ m ∧ n = .int .i64 ((k : Int) + 1) ∧ OwnR wr w.heap.size o (bls h k) ∧ Below w.heap.size w wr
def BRelI (h : Nat → Int) (m : Int) (w : World) (o c n : Value) (wr : World) : Prop := ∃ (k : Nat) (x : Int), (k : Int) ≤ m ∧ n = .int .i64 ((k : Int) + 1) ∧ c = .int .i64 x ∧ 1 ≤ x ∧ ((k : Int) < m → x ≤ h (k + 1)) ∧ OwnR wr w.heap.size o (bls h k) ∧ Below w.heap.size w wr
set_option maxRecDepth 100000 in
set_option maxHeartbeats 1600000 in
theorem Try.sBalanced (h : Nat → Int) (hh : Houses h) (m : Int) (w : World) :
    Calls Try.prog 24 #[.int .i64 m] w fun e w' => ∃ v, e = .returned (.tuple #[v, .bool (blB m)]) ∧ OwnR w' w.heap.size v (blW h m) ∧ Below w.heap.size w w' := by
  cases hs : blB m
  · rw [show blW h m = [] by simp [blW, hs]]
    have H := Lib.hid (show inn m 1 1000000 = false from hs)
    clear hs
    go_enter Try.func24, Try.ntmps24
    go_wp2_with (first | (go_at_call 69; refine (Try.nuMost _ _ H.out _).mono ?_; rintro e w1 ⟨rfl, rfl⟩))
    go_ret2
    exact ⟨_, rfl, OwnR.nil _ _, Below.refl _ _⟩
  · obtain ⟨s1, s2⟩ := inn_e hs
    rw [show blW h m = bls h m.toNat by simp [blW, hs]]
    have H := Lib.hid (show inn m 1 1000000 = true from hs)
    have HH := Lib.hid hh
    clear hs hh
    go_enter Try.func24, Try.ntmps24
    go_wp2_with (first | (go_at_call 69; refine (Try.nuMost _ _ H.out _).mono ?_; rintro e w1 ⟨rfl, rfl⟩))
    go_loopw [4, 5, 6, 7] (fun o n _ _ wr => BRelS h m w o n wr) (fun _ n _ _ _ => (m + 1 - intOf n).toNat)
    case atStart => exact ⟨0, by omega, rfl, OwnR.nil _ _, Below.refl _ _⟩
    case round =>
      obtain ⟨k, hk, rfl, ho, hb⟩ := hrel
      have HO := Lib.hid ho
      have HB := Lib.hid hb
      have HL := Lib.hid (Nat.le_trans (bls_len h k) (show k ≤ 100000000 by omega))
      have sz := hb.size
      clear ho hb
      by_cases hlt : (k : Int) < m
      · have hu := HH.out (k + 1) (by omega)
        have e1 : (k : Int) + 1 = ((k + 1 : Nat) : Int) := by omega
        have HN := Lib.hid (fun w => Try.nuBalanced ((k + 1 : Nat) : Int) (h (k + 1)) (by omega) (by omega) hu w)
        rw [← e1] at HN
        by_cases hq : h (k + 1) * h (k + 1) = su ((k : Int) + 1)
        · have EQ := Lib.hid (show bls h (k + 1) = bls h k ++ [((k : Int) + 1, h (k + 1))] by simp only [bls]; rw [if_pos (by rw [← e1]; exact hq), ← e1])
          rw [decide_eq_true hq] at HN
          generalize h (k + 1) = x at *
          clear hu hq e1
          go_wp2_with (first | (go_at_call 70; refine (HN.out _).mono ?_; rintro e w1 ⟨rfl, rfl⟩) | (at_builtin; refine wpList_app1R rfl _ _ 36 rfl Try.underlying36 Try.infoS w.heap.size _ _ rfl HO.out ((k : Int) + 1) x rfl HL.out sz ?_; intro v3 w3 ho3 hb3))
          have OW := Lib.hid ho3
          have GB := Lib.hid (HB.out.trans hb3)
          clear ho3 hb3
          go_wp2
          go_roundw
          case rel => exact ⟨k + 1, by omega, by (congr 1), by rw [EQ.out]; exact OW.out, GB.out⟩
          case measure => simp [intOf]; omega
        · have EQ := Lib.hid (show bls h (k + 1) = bls h k by simp only [bls]; rw [if_neg (by rw [← e1]; exact hq), List.append_nil])
          rw [decide_eq_false hq] at HN
          generalize h (k + 1) = x at *
          clear hu hq e1
          go_wp2_with (first | (go_at_call 70; refine (HN.out _).mono ?_; rintro e w1 ⟨rfl, rfl⟩))
          go_roundw
          case rel => exact ⟨k + 1, by omega, by (congr 1), by rw [EQ.out]; exact HO.out, HB.out⟩
          case measure => simp [intOf]; omega
      · have HT := Lib.hid (show m.toNat = k by omega)
        go_wp2
        go_ret2
        exact ⟨_, rfl, by rw [HT.out]; exact HO.out, HB.out⟩
set_option maxRecDepth 100000 in
set_option maxHeartbeats 1600000 in
theorem Try.iBalanced (h : Nat → Int) (hh : Houses h) (m : Int) (w : World) :
    Calls Try.prog 25 #[.int .i64 m] w fun e w' => ∃ v, e = .returned (.tuple #[v, .bool (blB m)]) ∧ OwnR w' w.heap.size v (blW h m) ∧ Below w.heap.size w w' := by
  cases hs : blB m
  · rw [show blW h m = [] by simp [blW, hs]]
    have H := Lib.hid (show inn m 1 1000000 = false from hs)
    clear hs
    go_enter Try.func25, Try.ntmps25
    go_wp2_with (first | (go_at_call 71; refine (Try.isMost _ _ H.out _).mono ?_; rintro e w1 ⟨rfl, rfl⟩))
    go_ret2
    exact ⟨_, rfl, OwnR.nil _ _, Below.refl _ _⟩
  · obtain ⟨s1, s2⟩ := inn_e hs
    rw [show blW h m = bls h m.toNat by simp [blW, hs]]
    have H := Lib.hid (show inn m 1 1000000 = true from hs)
    have HH := Lib.hid hh
    have h1 := (hh 1 (by omega)).1
    clear hs hh
    go_enter Try.func25, Try.ntmps25
    go_wp2_with (first | (go_at_call 71; refine (Try.isMost _ _ H.out _).mono ?_; rintro e w1 ⟨rfl, rfl⟩))
    go_loopw [4, 5, 6] (fun o c n wr => BRelI h m w o c n wr) (fun _ _ n _ => (m + 1 - intOf n).toNat)
    case atStart => exact ⟨0, 1, by omega, rfl, rfl, by omega, fun _ => h1, OwnR.nil _ _, Below.refl _ _⟩
    case round =>
      obtain ⟨k, c, hk, rfl, rfl, c1, c2, ho, hb⟩ := hrel
      have HO := Lib.hid ho
      have HB := Lib.hid hb
      have HL := Lib.hid (Nat.le_trans (bls_len h k) (show k ≤ 100000000 by omega))
      have sz := hb.size
      clear ho hb
      by_cases hlt : (k : Int) < m
      · have hu := HH.out (k + 1) (by omega)
        have e1 : (k : Int) + 1 = ((k + 1 : Nat) : Int) := by omega
        have c3 := c2 hlt
        have hle := up_le _ _ (by omega) hu
        have HNX := Lib.hid (show ((k + 1 : Nat) : Int) < m → h (k + 1) ≤ h (k + 1 + 1) from fun q => up_next _ _ _ (by omega) hu (by have := HH.out (k + 1 + 1) (by omega); push_cast at this ⊢; exact this))
        have hx1 := hu.1
        have HM := Lib.hid (fun w => Try.middleHouse c ((k + 1 : Nat) : Int) (h (k + 1)) hu c1 c3 hle (by omega) (by omega) w)
        have HLN := Lib.hid (fun w => Try.lean (h (k + 1)) ((k + 1 : Nat) : Int) hx1 (by omega) (by omega) (by omega) w)
        rw [← e1] at HM HLN
        by_cases hq : h (k + 1) * h (k + 1) = su ((k : Int) + 1)
        · have EQ := Lib.hid (show bls h (k + 1) = bls h k ++ [((k : Int) + 1, h (k + 1))] by simp only [bls]; rw [if_pos (by rw [← e1]; exact hq), ← e1])
          rw [show h (k + 1) * h (k + 1) - su ((k : Int) + 1) = 0 by omega] at HLN
          generalize h (k + 1) = x at *
          clear hu hq e1 c2 c3 hle
          go_wp2_with (first | (go_at_call 72; refine (HM.out _).mono ?_; rintro e w1 ⟨rfl, rfl⟩) | (go_at_call 73; refine (HLN.out _).mono ?_; rintro e w1 ⟨rfl, rfl⟩) | (at_builtin; refine wpList_app1R rfl _ _ 36 rfl Try.underlying36 Try.infoS w.heap.size _ _ rfl HO.out ((k : Int) + 1) x rfl HL.out sz ?_; intro v3 w3 ho3 hb3))
          have OW := Lib.hid ho3
          have GB := Lib.hid (HB.out.trans hb3)
          clear ho3 hb3
          go_wp2
          go_roundw
          case rel => exact ⟨k + 1, x, by omega, by (congr 1), rfl, hx1, HNX.out, by rw [EQ.out]; exact OW.out, GB.out⟩
          case measure => simp [intOf]; omega
        · have EQ := Lib.hid (show bls h (k + 1) = bls h k by simp only [bls]; rw [if_neg (by rw [← e1]; exact hq), List.append_nil])
          have hz : (h (k + 1) * h (k + 1) - su ((k : Int) + 1) == 0) = false := by simp; omega
          obtain ⟨d, hd⟩ : ∃ d, h (k + 1) * h (k + 1) - su ((k : Int) + 1) = d := ⟨_, rfl⟩
          rw [hd] at HLN hz
          generalize h (k + 1) = x at *
          clear hu hq e1 c2 c3 hle hd
          go_wp2_with (first | (go_at_call 72; refine (HM.out _).mono ?_; rintro e w1 ⟨rfl, rfl⟩) | (go_at_call 73; refine (HLN.out _).mono ?_; rintro e w1 ⟨rfl, rfl⟩))
          go_roundw
          case rel => exact ⟨k + 1, x, by omega, by (congr 1), rfl, hx1, HNX.out, by rw [EQ.out]; exact HO.out, HB.out⟩
          case measure => simp [intOf]; omega
      · have HT := Lib.hid (show m.toNat = k by omega)
        go_wp2
        go_ret2
        exact ⟨_, rfl, by rw [HT.out]; exact HO.out, HB.out⟩
end Go.Proofs
