/-
  Plain words of chapter 2: two lists of plates in one, one plate put in, the next of one put in.
-/
import Derived.Test.YtcmlojidcpomjaaPlN
import Derived.Test.YtcmlojidcpomjaaPlK
import Derived.Test.YtcmlojidcpomjaaPlD
namespace Go.Proofs
open Go.RowKit Pl
set_option linter.unusedVariables false
set_option linter.unusedSimpArgs false
def jnB (ps qs : List Pi2) : Bool := okB ps && okB qs && okB (join ps qs)
def jnV (ps qs : List Pi2) : List Pi2 := if jnB ps qs then join ps qs else []
theorem join_len (ps qs : List Pi2) : (join ps qs).length = ps.length + qs.length := joinTo_len ps qs qs.length (Nat.le_refl _)
theorem jn_len (ps qs : List Pi2) : (jnV ps qs).length ≤ ps.length + qs.length := by
  unfold jnV
  split
  · rw [join_len]; omega
  · simp
theorem joinTo_isp {ps qs : List Pi2} (hp : ∀ q ∈ ps, IsP q) (hq : ∀ q ∈ qs, IsP q) (k : Nat) : ∀ q ∈ joinTo ps qs k, IsP q := by
  intro q h
  rcases List.mem_append.1 ((joinTo_perm ps qs k).mem_iff.1 h) with e | e
  · exact hp q e
  · exact hq q (List.mem_of_mem_take e)
/-- the first k are put in, each was not there -/
def JnOk (ps qs : List Pi2) (k : Nat) : Prop := Up (joinTo ps qs k) ∧ ps.length + k ≤ 60
theorem JnOk.step {ps qs : List Pi2} {k : Nat} (h : JnOk ps qs k) (hk : k < qs.length) (hp : ∀ q ∈ ps, IsP q) (hq : ∀ q ∈ qs, IsP q) (hb : iaB (joinTo ps qs k) (qs.getD k (0, 0)) = true) : JnOk ps qs (k + 1) ∧ iaV (joinTo ps qs k) (qs.getD k (0, 0)) = joinTo ps qs (k + 1) := by
  have hn := of_decide_eq_true hb
  have hl := joinTo_len ps qs k (by omega)
  refine ⟨⟨(join_step hk hq (joinTo_isp hp hq k) h.1 (fun q => hn (.inl q))).2, ?_⟩, ?_⟩
  · have : ¬ 60 ≤ (joinTo ps qs k).length := fun q => hn (.inr q)
    omega
  · rw [joinTo_succ ps qs k hk]
    unfold iaV
    rw [if_pos hb]
theorem JnOk.all {ps qs : List Pi2} (h : JnOk ps qs qs.length) (hp : Ok ps) (hq : Ok qs) : jnB ps qs = true ∧ jnV ps qs = joinTo ps qs qs.length := by
  have hk : Ok (join ps qs) := ⟨by rw [join_len]; have := hp.1; omega, by rw [join_len]; exact h.2, joinTo_isp hp.2.2.1 hq.2.2.1 _, h.1⟩
  have hb : jnB ps qs = true := by unfold jnB; rw [(okB_iff ps).2 hp, (okB_iff qs).2 hq, (okB_iff _).2 hk]; rfl
  exact ⟨hb, by simp [jnV, hb, join]⟩
theorem JnOk.bad {ps qs : List Pi2} {k : Nat} (hk : k < qs.length) (hb : iaB (joinTo ps qs k) (qs.getD k (0, 0)) = false) : jnB ps qs = false ∧ jnV ps qs = [] := by
  have hn : Has (joinTo ps qs k) (qs.getD k (0, 0)) ∨ 60 ≤ (joinTo ps qs k).length := Classical.byContradiction (of_decide_eq_false hb)
  have hx : okB (join ps qs) = false := by
    cases q : okB (join ps qs)
    · rfl
    · exact absurd ((okB_iff _).1 q) (join_bad ps qs k hk hn)
  have hb : jnB ps qs = false := by unfold jnB; rw [hx]; simp
  exact ⟨hb, by simp [jnV, hb]⟩
theorem jn_no {ps qs : List Pi2} (h : jnB ps qs = false) : jnV ps qs = [] := by simp [jnV, h]
/-- one plate more -/
def adB (ps : List Pi2) (p : Pi2) : Bool := okB ps && isP p.1 p.2 && iaB ps p
def adV (ps : List Pi2) (p : Pi2) : List Pi2 := if adB ps p then ins ps p else []
theorem ad_len (ps : List Pi2) (p : Pi2) : (adV ps p).length ≤ ps.length + 1 := by
  unfold adV
  split
  · rw [ins_len]; omega
  · simp
theorem ok_one (p : Pi2) : okB [p] = isP p.1 p.2 := by
  unfold okB isP
  rw [decide_eq_decide]
  constructor
  · intro h; exact h.2.2.1 p (by simp)
  · intro h; exact ⟨by simp, by simp, fun q hq => by simp at hq; rw [hq]; exact h, by simp [Up]⟩
theorem jn_ad (ps : List Pi2) (p : Pi2) : jnB ps [p] = adB ps p ∧ jnV ps [p] = adV ps p := by
  have e : jnB ps [p] = adB ps p := by
    unfold jnB adB
    rw [ok_one, join_one]
    cases h1 : okB ps
    · simp
    · cases h2 : isP p.1 p.2
      · simp
      · have hp : IsP p := of_decide_eq_true h2
        have := ins_ok ((okB_iff ps).1 h1) hp
        simp only [Bool.and_self, Bool.true_and]
        unfold okB iaB
        rw [decide_eq_decide]; exact this
  exact ⟨e, by unfold jnV adV; rw [e, join_one]⟩
theorem ad_ia {ps : List Pi2} {p : Pi2} (h1 : okB ps = true) (h2 : isP p.1 p.2 = true) : adB ps p = iaB ps p ∧ adV ps p = iaV ps p := by
  have e : adB ps p = iaB ps p := by simp [adB, h1, h2]
  exact ⟨e, by unfold adV iaV; rw [e]⟩
/-- the next of one of them put in -/
def ibP (ps : List Pi2) (k : Int) : Pi2 := nx (ps.getD k.toNat (0, 0)).1 (ps.getD k.toNat (0, 0)).2
def ibB (ps : List Pi2) (k : Int) : Bool := askB ps k && adB ps (ibP ps k)
def ibV (ps : List Pi2) (k : Int) : List Pi2 := if ibB ps k then ins ps (ibP ps k) else []
theorem ib_len (ps : List Pi2) (k : Int) : (ibV ps k).length ≤ ps.length + 1 := by
  unfold ibV
  split
  · rw [ins_len]; omega
  · simp
theorem ib_ad {ps : List Pi2} {k : Int} (h : askB ps k = true) : ibB ps k = adB ps (ibP ps k) ∧ ibV ps k = adV ps (ibP ps k) := by
  have e : ibB ps k = adB ps (ibP ps k) := by simp [ibB, h]
  exact ⟨e, by unfold ibV adV; rw [e]⟩
theorem ib_no {ps : List Pi2} {k : Int} (h : ibB ps k = false) : ibV ps k = [] := by simp [ibV, h]
end Go.Proofs
