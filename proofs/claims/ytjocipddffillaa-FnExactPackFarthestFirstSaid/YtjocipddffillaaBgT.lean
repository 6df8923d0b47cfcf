/-
  Chapter 8, the model: spec.PackInOrder, PackFarthestFirst.
-/
import Derived.Test.YtjocipddffillaaBgR
namespace Go.Proofs
open Go.RowKit Bg
set_option linter.unusedVariables false
set_option linter.unusedSimpArgs false
/-- the plan with the farthest houses first, before it is told anew -/
def farPlan (ps : List Pi2) (bag : Int) : List Int := plnN (ordF ps (ordN (houF ps) true ps.length)) bag (ordN (houF ps) true ps.length) ps.length ps.length
theorem ordF_in {ps : List Pi2} {bag : Int} (h : AskB ps bag) (ord : List Int) (j : Nat) : 0 ≤ ordF ps ord j ∧ ordF ps ord j ≤ bag := ask_wei h _
set_option maxHeartbeats 800000 in
theorem Try.packed_ (far : Bool) (w : World) (B : Nat) (v : Value) (ps : List Pi2) (bag : Int) (hask : AskB ps bag) (h : OwnP 55 w B v ps) (b' : Nat) (v' : Value) (h' : OwnI w b' v' (ordN (houF ps) far ps.length)) :
    Calls Try.prog 68 #[v, .int .i64 bag, v'] w fun e w' => ∃ u, e = .returned u ∧ OwnI w' w.heap.size u (if far = true then named (farPlan ps bag) else packed (weiF ps) bag ps.length) ∧ Below w.heap.size w w' := by
  cases far
  · have := Try.bgPack w B b' v v' ps bag (ordN (houF ps) false ps.length) ps.length (weiF ps) hask rfl (ord_len _ _ _) (fun k hk => ord_at _ _ _ _ hk) (fun k hk => by rw [ord_near, tb_get _ _ _ hk, Int.toNat_natCast]) (ask_wei hask) h h'
    rw [ord_near, pln_packed, packed_named] at this
    exact this
  · exact Try.bgPack w B b' v v' ps bag (ordN (houF ps) true ps.length) ps.length (ordF ps (ordN (houF ps) true ps.length)) hask rfl (ord_len _ _ _) (fun k hk => ord_at _ _ _ _ hk) (fun k hk => rfl) (ordF_in hask _) h h'
set_option maxHeartbeats 800000 in
theorem Try.sPackInOrder (w : World) (B : Nat) (v : Value) (ps : List Pi2) (bag : Int) (b : Bool) (hb : b = true ↔ AskB ps bag) (hl : ps.length ≤ 1048576) (h : OwnP 55 w B v ps) :
    Calls Try.prog 38 #[v, .int .i64 bag] w (RetI w (if b then packed (weiF ps) bag ps.length else []) b) := by
  have HA := Lib.hid (Try.bgAsked w B v ps bag b hb hl h)
  cases b
  · obtain ⟨A, c, rfl⟩ := h.sl
    clear h hb
    go_enter Try.func38, Try.ntmps38
    go_wp2_with (first | (go_at_call 56; refine HA.out.mono ?_; rintro e w1 ⟨rfl, g1⟩))
    go_ret2
    exact ⟨_, rfl, OwnI.nil2 _ _, g1.below⟩
  · have hask := hb.1 rfl
    have HO := Lib.hid (fun W (g : Gr w W) => Try.bgOrder W B v ps false hask.1 (h.below g.below (Nat.le_refl _)))
    have HP := Lib.hid (fun W C u (bl : Below w.heap.size w W) (o : OwnI W C u (ordN (houF ps) false ps.length)) => Try.packed_ false W B v ps bag hask (h.below bl (Nat.le_refl _)) C u o)
    simp only [Bool.false_eq_true, if_false, if_true] at HP
    rw [if_pos rfl]
    generalize packed (weiF ps) bag ps.length = R at *
    generalize ordN (houF ps) false ps.length = ord at *
    obtain ⟨A, c, rfl⟩ := h.sl
    clear h hb hask
    go_enter Try.func38, Try.ntmps38
    go_wp2_with (first | (go_at_call 56; refine HA.out.mono ?_; rintro e w1 ⟨rfl, g1⟩) | (go_at_call 69; refine (HO.out _ g1).mono ?_; rintro e w2 ⟨v2, rfl, o2, b2⟩; have bb := g1.below.trans (b2.mono g1.below.size)) | (go_at_call 68; refine (HP.out _ _ _ bb o2).mono ?_; rintro e w3 ⟨v3, rfl, o3, b3⟩))
    go_ret2
    exact ⟨_, rfl, o3.mono bb.size, bb.trans (b3.mono bb.size)⟩
set_option maxHeartbeats 800000 in
theorem Try.sPackFarthestFirst (w : World) (B : Nat) (v : Value) (ps : List Pi2) (bag : Int) (b : Bool) (hb : b = true ↔ AskB ps bag) (hl : ps.length ≤ 1048576) (h : OwnP 55 w B v ps) :
    Calls Try.prog 40 #[v, .int .i64 bag] w (RetI w (if b then named (farPlan ps bag) else []) b) := by
  have HA := Lib.hid (Try.bgAsked w B v ps bag b hb hl h)
  cases b
  · obtain ⟨A, c, rfl⟩ := h.sl
    clear h hb
    go_enter Try.func40, Try.ntmps40
    go_wp2_with (first | (go_at_call 56; refine HA.out.mono ?_; rintro e w1 ⟨rfl, g1⟩))
    go_ret2
    exact ⟨_, rfl, OwnI.nil2 _ _, g1.below⟩
  · have hask := hb.1 rfl
    have HO := Lib.hid (fun W (g : Gr w W) => Try.bgOrder W B v ps true hask.1 (h.below g.below (Nat.le_refl _)))
    have HP := Lib.hid (fun W C u (bl : Below w.heap.size w W) (o : OwnI W C u (ordN (houF ps) true ps.length)) => Try.packed_ true W B v ps bag hask (h.below bl (Nat.le_refl _)) C u o)
    simp only [Bool.false_eq_true, if_false, if_true] at HP
    rw [if_pos rfl]
    generalize named (farPlan ps bag) = R at *
    generalize ordN (houF ps) true ps.length = ord at *
    obtain ⟨A, c, rfl⟩ := h.sl
    clear h hb hask
    go_enter Try.func40, Try.ntmps40
    go_wp2_with (first | (go_at_call 56; refine HA.out.mono ?_; rintro e w1 ⟨rfl, g1⟩) | (go_at_call 69; refine (HO.out _ g1).mono ?_; rintro e w2 ⟨v2, rfl, o2, b2⟩; have bb := g1.below.trans (b2.mono g1.below.size)) | (go_at_call 68; refine (HP.out _ _ _ bb o2).mono ?_; rintro e w3 ⟨v3, rfl, o3, b3⟩))
    go_ret2
    exact ⟨_, rfl, o3.mono bb.size, bb.trans (b3.mono bb.size)⟩
end Go.Proofs
