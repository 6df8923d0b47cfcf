/-
  Chapter 7: what leadOn has done, told by the keys that are still to come; a store into a map as an operation of a drawn region.
-/
import Derived.Test.YtjhpebihflcanaaRsD
namespace Go.Proofs
open Go.RowKit Go.Maps Rl
set_option linter.unusedVariables false
set_option linter.unusedSimpArgs false
/-! ### how many keys -/
def allK : List Lit := (List.range 8).flatMap fun a => (List.range 8).map fun b => kle ((a : Nat), (b : Nat))
theorem mem_allK {k : Int × Int} (h : inK k) : kle k ∈ allK := by
  obtain ⟨⟨a0, a1⟩, b0, b1⟩ := h
  unfold allK
  rw [List.mem_flatMap]
  refine ⟨k.1.toNat, List.mem_range.2 (by omega), List.mem_map.2 ⟨k.2.toNat, List.mem_range.2 (by omega), ?_⟩⟩
  rw [Int.toNat_of_nonneg a0, Int.toNat_of_nonneg b0]
theorem nodup_len {α : Type} [BEq α] [LawfulBEq α] : ∀ (l s : List α), l.Pairwise (fun a b => a ≠ b) → (∀ x ∈ l, x ∈ s) → l.length ≤ s.length
  | [], s, _, _ => Nat.zero_le _
  | a :: l, s, hp, hs => by
    obtain ⟨h1, h2⟩ := List.pairwise_cons.1 hp
    have ha := hs a List.mem_cons_self
    have ih := nodup_len l (s.erase a) h2 (fun x hx => (List.mem_erase_of_ne (fun e => h1 x hx e.symm)).2 (hs x (List.mem_cons_of_mem _ hx)))
    rw [List.length_erase_of_mem ha] at ih
    have : 0 < s.length := List.length_pos_of_mem ha
    simp only [List.length_cons]
    omega
theorem Try.mapSize {w w' : World} {B b n : Nat} {D : DataW Unit} {τ : Int × Int → Option Le} (h : MapL w B D τ) (hown : w'.ownsMap Try.prog 73 lElem b n D) : Maps.size D ≤ 64 := by
  obtain ⟨es, rfl, hp, hkl⟩ := hown.entries Try.eLaw
  rw [size_eq]
  have hk : ∀ p ∈ es, p.1 ∈ allK := fun p hp' => by
    have hh : Maps.has (.map es) p.1 = true := by
      rw [has_eq, List.any_eq_true]
      exact ⟨p, hp', WideAt.sameKey_self (hkl p hp')⟩
    obtain ⟨k, hk, e⟩ := h.only p.1 hh
    rw [e]; exact mem_allK hk
  letI : DecidableEq Lit := Classical.typeDecidableEq Lit
  have hl := nodup_len (es.map Prod.fst) allK (by rw [List.pairwise_map]; exact hp) (fun x hx => by
    obtain ⟨p, hp', rfl⟩ := List.mem_map.1 hx
    exact hk p hp')
  rw [List.length_map] at hl
  have : allK.length = 64 := by simp [allK]; rfl
  omega
theorem owns_tight {H : Type} {w : World} {P : Program} {k : TypeId} {R : Value → Option (DataW H × List MemPlace)} {b n m : Nat} {D : DataW H} (h : w.ownsMap P k R b n D) (hm : Maps.size D ≤ m) : w.ownsMap P k R b m D := by
  obtain ⟨es, clock, hb, F, hs, rfl⟩ := h
  refine ⟨es, clock, hb, F, ?_, rfl⟩
  have e1 : Maps.size (DataW.map ((es.toList.map (Go.WideElems.rg P k R)).foldr DataW.insert [])) = es.size := by simp [Maps.size, length_sorted]
  omega
/-! ### a store, in a drawn region -/
theorem step_mapUpd {H : Type} {P : Program} {w : World} {ops : Array Oper} {o : Oper} {a : Act} {Q : Exit → Act → World → Prop} {K' : Act → World → Prop} {E : Prop}
    (hg : o.guard = none) (m x v : Operand) (t : TypeId) (hop : o.op = Op.mapUpdate t m x v)
    (k e : TypeId) (K : Keyed P k) (ht : P.underlying t = some (.map k e)) (R : Value → Option (DataW H × List MemPlace)) (b n : Nat) (D : DataW H)
    (hm : a.eval m = .map (some b)) (hown : w.ownsMap P k R b n D) (hn : n < maxLen) (key val : Value) (kl : Lit) (hx : a.eval x = key) (hv : a.eval v = val) (hkey : keyOf P k key = some kl)
    (d : DataW H) (ps : List MemPlace) (hval : R val = some (d, ps))
    (hK : ∀ w', w'.ownsMap P k R b (n + 1) (D.put kl d) → w.mapTurned w' b → K' (a.put o.dst undef) w') :
    if Region.wanted o (yielded ops a.tmps) = true then Oper.wp P o a w K' Q else E := by
  rw [if_pos (show Region.wanted o (yielded ops a.tmps) = true by simp [Region.wanted, hg])]
  obtain ⟨w', hrun, r1, r2⟩ := hown.store K ht hn hkey hval
  unfold Oper.wp
  simp [execOp, hop, hm, hx, hv, hrun, Result.andThen]
  exact hK w' r1 r2
/-! ### a look-up -/
theorem zd_elem : lElem (H := Unit) (.agg #[.int .i64 0, .int .i64 0, .slice none 0 0]) = some (.agg [.lit (.int .i64 0), .lit (.int .i64 0), .agg []], []) := rfl
theorem Try.zeroLe (W : World) : (zeroValue 46).run Try.prog W = .ok (.agg #[.int .i64 0, .int .i64 0, .slice none 0 0]) W := Try.zeroValue46 W
theorem MapL.look {w : World} {B : Nat} {D : DataW Unit} {τ : Int × Int → Option Le} (h : MapL w B D τ) {k : Int × Int} (hk : inK k) :
    ∃ v d, lElem v = some (d, []) ∧ D.atKey (kle k) (.agg [.lit (.int .i64 0), .lit (.int .i64 0), .agg []]) = d ∧ LeV w B v (τ k) := by
  cases e : τ k with
  | none =>
    refine ⟨_, _, zd_elem, ?_, rfl⟩
    have := h.has k hk
    rw [e] at this
    exact atKey_of_not_has this _
  | some l =>
    obtain ⟨v, d, a, b, c⟩ := h.val k l hk e
    exact ⟨v, d, a, b _, c⟩
theorem Try.lookE {Y : World} {b n : Nat} {D : DataW Unit} (ho : Y.ownsMap Try.prog 73 lElem b n D) {x y : Int} (hk : inK (x, y)) {v : Value} {d : DataW Unit} (hv : lElem v = some (d, [])) (hat : D.atKey (kle (x, y)) (.agg [.lit (.int .i64 0), .lit (.int .i64 0), .agg []]) = d) :
    (Instr.lookup 70 (.map (some b)) (.agg #[.int .i64 x, .int .i64 y]) false).run Try.prog Y = .ok v Y := by
  obtain ⟨v', ps, hrun, hv'⟩ := ho.lookup Try.eLaw Try.underlying70 (Try.zeroLe Y) zd_elem (Try.keyOfE (x, y) (inK_wf hk))
  rw [hat] at hv'
  rw [lElem_inj hv hv']
  exact hrun
/-! ### what is done -/
theorem LG_congr (fits : Int → Int → Bool) (os : List Rl.Op) (W : List Wy) (D D' : Int → Int × Int → Bool) (a : Int × Int) (h : ∀ o ∈ os, ∀ x ∈ W, D o.st (x.f, x.l) = D' o.st (x.f, x.l)) : LG fits os W D a = LG fits os W D' a := by
  unfold LG
  congr 1
  refine List.map_congr_left fun o ho => agg_congr _ fun x hx => ?_
  rw [h o ho x hx]
/-- what is done ahead of the i-th option of the key k -/
def dnK (left : Lit → Bool) (os : List Rl.Op) (k : Int × Int) (i : Nat) (s : Int) (q : Int × Int) : Bool := !left (kle q) || ((os.take i).any (fun o => s == o.st) && q == k)
theorem dnK_succ (left : Lit → Bool) (os : List Rl.Op) (k : Int × Int) (i : Nat) (hi : i < os.length) : dnK left os k (i + 1) = fun s q => dnK left os k i s q || (s == os[i].st && q == k) := by
  funext s q
  unfold dnK
  rw [List.take_succ_eq_append_getElem hi, List.any_append]
  simp only [List.any_cons, List.any_nil, Bool.or_false, Bool.or_assoc]
  congr 1
  cases (List.take i os).any (fun o => s == o.st) <;> cases (s == os[i].st) <;> cases (q == k) <;> rfl
theorem dnK_no (left : Lit → Bool) (os : List Rl.Op) (k : Int × Int) (i : Nat) (hi : i < os.length) (hd : Dif os) (hl : left (kle k) = true) : dnK left os k i os[i].st k = false := by
  unfold dnK
  rw [hl]
  simp only [Bool.not_true, Bool.false_or, Bool.and_eq_false_imp]
  intro h
  rw [List.any_eq_true] at h
  obtain ⟨o, ho, e⟩ := h
  rw [List.mem_take_iff_getElem] at ho
  obtain ⟨j, hj, rfl⟩ := ho
  exfalso
  have := List.pairwise_iff_getElem.1 hd j i (by omega) hi (by omega)
  exact this (by have := eq_of_beq e; exact this.symm)
theorem Try.same_kle {q k : Int × Int} (hq : inK q) (hk : inK k) : (kle q).sameKey (kle k) = (q == k) := by
  by_cases e : q = k
  · subst e; rw [WideAt.sameKey_self (show WideAt.IsKeyLit (kle q) from trivial)]; simp
  · rw [sameKey_ne (fun h => e (Try.kleInj hq hk h))]; symm; simpa using e
theorem Try.LG_next (fits : Int → Int → Bool) (os : List Rl.Op) (W : List Wy) (left : Lit → Bool) (k : Int × Int) (hk : inK k) (hw : ∀ x ∈ W, inS x.f ∧ inS x.l) (a : Int × Int) :
    LG fits os W (dnK left os k os.length) a = LG fits os W (fun _ q => !(left (kle q) && !(kle q).sameKey (kle k))) a := by
  refine LG_congr _ _ _ _ _ _ fun o ho x hx => ?_
  unfold dnK
  rw [Try.same_kle (q := (x.f, x.l)) (hw x hx) hk, List.take_of_length_le (Nat.le_refl _)]
  have : os.any (fun b => o.st == b.st) = true := List.any_eq_true.2 ⟨o, ho, by simp⟩
  rw [this]
  cases left (kle (x.f, x.l)) <;> cases ((x.f, x.l) == k) <;> rfl
end Go.Proofs
