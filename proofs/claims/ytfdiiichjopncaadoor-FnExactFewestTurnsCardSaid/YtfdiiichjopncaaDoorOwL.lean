/-
  Chapter 6: where one drives without a turn (the program).
-/
import Derived.Test.YtfdiiichjopncaaDoorOwJ
import Derived.Test.YtfdiiichjopncaaDoorOwK
import Derived.Test.YtfdiiichjopncaaDoorRbA
import Derived.Deep.LoopGhost
import Derived.ScopeJumps
import Derived.WalkMore
namespace Go.Proofs
open Go.RowKit Av Gm Go.Maps
set_option linter.unusedVariables false
set_option linter.unusedSimpArgs false
/-- the index of a sign -/
def sgi (c : UInt8) : Nat := if c = 101 then 0 else if c = 110 then 1 else if c = 115 then 2 else 3
theorem sgi_lt (c : UInt8) : sgi c < 4 := by unfold sgi; split <;> (try split) <;> (try split) <;> decide
theorem sgi_sgn {c : UInt8} (h : isSg c) : ((c.toNat : Nat) : Int) = sgn (sgi c) := by rcases h with rfl | rfl | rfl | rfl <;> decide
/-- along a direction, over up to so many blocks -/
def ray (s a : ByteArray) (j : Nat) : Nat → Nat → List Nat
  | 0, _ => []
  | b + 1, u => match nbW s a u j with
    | none => []
    | some m => m :: ray s a j b m
theorem ray_len (s a : ByteArray) (j b u : Nat) : (ray s a j b u).length ≤ b := by
  induction b generalizing u with
  | zero => simp [ray]
  | succ b ih =>
    simp only [ray]
    split
    · simp
    · simp only [List.length_cons]; have := ih (by assumption); omega
def lsW (s a : ByteArray) (b u : Nat) : List Nat := ray s a (sgi (gb s (u % s.size))) b u ++ ray s a (sgi (gb a (u / s.size))) b u
def preW (s a : ByteArray) (b u i : Nat) : List Nat := if i = 0 then [] else if i = 1 then ray s a (sgi (gb s (u % s.size))) b u else lsW s a b u
def dirW (s a : ByteArray) (u i : Nat) : Nat := if i = 0 then sgi (gb s (u % s.size)) else sgi (gb a (u / s.size))
theorem ray_stop {s a : ByteArray} {j b n : Nat} (h : nbW s a n j = none) : ray s a j b n = [] := by cases b <;> simp [ray, h]
theorem preW_succ (s a : ByteArray) (b u i : Nat) (hi : i < 2) : preW s a b u (i + 1) = preW s a b u i ++ ray s a (dirW s a u i) b u := by
  have : i = 0 ∨ i = 1 := by omega
  rcases this with rfl | rfl
  · simp [preW, dirW]
  · simp [preW, dirW, lsW]
theorem preW_len (s a : ByteArray) (b u i : Nat) : (preW s a b u i).length ≤ 2 * b := by
  unfold preW lsW
  have h1 := ray_len s a (sgi (gb s (u % s.size))) b u
  have h2 := ray_len s a (sgi (gb a (u / s.size))) b u
  split
  · simp
  · split
    · omega
    · rw [List.length_append]; omega
theorem idx_lt2 {Wn Hn n : Nat} (hn : n < Wn * Hn) : n / Hn < Wn ∧ n % Hn < Hn := by
  have ho := on_idx hn
  unfold onC at ho
  simp only at ho
  omega
/-- a row of two or more lies in no block of two cells, and in none of another kind -/
theorem row_ne {w : World} {B bk : Nat} {v : Value} {ys : List Nat} {H : Nat} {c : Array Value} {fz : Nat × Nat} (h : OwnE 47 2 (ccs H) w B v ys) (h2 : 2 ≤ ys.length) (hb : w.heap[bk]? = some (.cells c 47 fz)) (hc : c.size = 2) : v.ownBlock ≠ some bk := by
  intro e
  rcases h.2 with ⟨rfl, _⟩ | ⟨g, cap, cur, rfl, _, hg, hc1, hm, hs, ht⟩
  · cases e
  · simp only [Value.ownBlock, Option.some.injEq] at e
    subst e
    rw [hb] at hg
    simp only [Option.some.injEq, Obj.cells.injEq] at hg
    have : cur.size = 2 := by rw [← hg.1]; exact hc
    omega
theorem row_neI {w : World} {B it : Nat} {v : Value} {ys : List Nat} {H : Nat} {t : ByteArray} {p : Nat} (h : OwnE 47 2 (ccs H) w B v ys) (hb : w.heap[it]? = some (.stringIter t p)) : v.ownBlock ≠ some it := by
  intro e
  rcases h.2 with ⟨rfl, _⟩ | ⟨g, cap, cur, rfl, _, hg, _⟩
  · cases e
  · simp only [Value.ownBlock, Option.some.injEq] at e
    subst e
    rw [hb] at hg
    cases hg
theorem iter_grown {w : World} {k : Nat} {s : ByteArray} {p : Nat} : w.grownBy (w.iterAt k s p) (some k) :=
  ⟨rfl, rfl, rfl, by rw [Go.Lib.iterAt_size]; exact Nat.le_refl _, fun j _ hj => Go.Lib.iterAt_other w k j s p (fun e => hj (by rw [e]))⟩
theorem iwV_t {s a : ByteArray} {x y j : Nat} (h : drv s a x y j = true) : iwV s a x y j = .tuple #[.agg #[.int .i64 ((x : Int) + dx j), .int .i64 ((y : Int) + dy j)], .bool true] := by unfold iwV; rw [h, if_pos rfl]
theorem iwV_f {s a : ByteArray} {x y j : Nat} (h : drv s a x y j = false) : iwV s a x y j = .tuple #[.agg #[.int .i64 0, .int .i64 0], .bool false] := by unfold iwV; rw [h]; rfl
/-- what holds at the label -/
structure Tryd.AtL (s a : ByteArray) (j : Nat) (ys : List Nat) (it : Nat) (sg : ByteArray) (i : Nat) (B : Nat) (W0 : World) (b' n : Nat) (xs : List Nat) (v : Value) (bk : Nat) (X : World) : Prop where
  b8 : b' ≤ 8
  nN : n < a.size * s.size
  eq : xs ++ ray s a j b' n = ys
  own : OwnE 47 2 (ccs s.size) X B v xs
  nil : xs = [] → v = .slice none 0 0
  blk : X.heap[bk]? = some (.cells #[.int .i64 (crn s.size n).1, .int .i64 (crn s.size n).2] 47 (0, 0))
  ne : v.ownBlock ≠ some bk
  bB : B ≤ bk
  bel : Below W0.heap.size W0 X
  itr : X.heap[it]? = some (.stringIter sg i)
theorem frz_row {w : World} {k o : Nat} {c : Array Value} {t : TypeId} (h : w.heap[k]? = some (.cells c t (0, 0))) : w.frozen? ⟨k, o, none⟩ = false := by
  have := World.frozen?_of_block (w := w) (w' := w) (a := ⟨k, o, none⟩) rfl
  unfold World.frozen?
  simp [h]
/-- both cells of a block are stored -/
theorem set_blk {w : World} {k : Nat} {x y u v : Value} {t : TypeId} (h : w.heap[k]? = some (.cells #[x, y] t (0, 0))) : ((w.setCell ⟨k, 0, none⟩ u).setCell ⟨k, 1, none⟩ v).heap[k]? = some (.cells #[u, v] t (0, 0)) := by
  unfold World.setCell
  simp [Array.getElem?_modify, h]
set_option maxRecDepth 100000 in
set_option maxHeartbeats 8000000 in
theorem Tryd.straightOn (w : World) (s a : ByteArray) (h1 : okT 101 119 s = true) (h2 : okT 110 115 a = true) (u b : Nat) (hu : u < a.size * s.size) (hb : b ≤ 8) :
    Calls Tryd.prog 27 #[.agg #[.string s, .string a], .agg #[.int .i64 (crn s.size u).1, .int .i64 (crn s.size u).2], .int .i64 (b : Nat)] w fun e w' => ∃ v, e = .returned v ∧ OwnE 47 2 (ccs s.size) w' w.heap.size v (lsW s a b u) ∧ Below w.heap.size w w' := by
  have mixed : Tryd.prog.follows .mixedOrders = true := by kernel_rfl
  have hul := idx_lt2 hu
  have HS := Lib.hid (fun (W : World) => Tryd.signsAt W s a (okT_len h1).2 (okT_len h2).2 (u / s.size) (u % s.size) hul.1 hul.2)
  change Hid (∀ W : World, Calls Tryd.prog 31 #[.agg #[.string s, .string a], .agg #[.int .i64 (crn s.size u).1, .int .i64 (crn s.size u).2]] W fun e w' => _ ∧ Gr W w') at HS
  have L1 := Lib.hid (okT_len h1)
  have L2 := Lib.hid (okT_len h2)
  have S1 : isSg (gb s (u % s.size)) := by rw [← gb_eq s _ hul.2]; exact okT_sg h1 sgE sgW _ hul.2
  have S2 : isSg (gb a (u / s.size)) := by rw [← gb_eq a _ hul.1]; exact okT_sg h2 sgN sgS _ hul.1
  have SS := Lib.hid (And.intro S1 S2)
  have PS := Lib.hid (preW_succ s a b u)
  have PL := Lib.hid (preW_len s a b u)
  have PE := Lib.hid (show preW s a b u 2 = lsW s a b u from rfl)
  have PZ := Lib.hid (show preW s a b u 0 = [] from rfl)
  have HU := Lib.hid hu
  have D0 := Lib.hid (show dirW s a u 0 = sgi (gb s (u % s.size)) from rfl)
  have D1 := Lib.hid (show dirW s a u 1 = sgi (gb a (u / s.size)) from rfl)
  obtain ⟨W0, hW0⟩ : ∃ W0, (w.alloc (.cells #[.string s, .string a] 28)).alloc (.cells #[.int .i64 (crn s.size u).1, .int .i64 (crn s.size u).2] 47) = W0 := ⟨_, rfl⟩
  have GW : Gr w W0 := by subst hW0; exact by repeat (first | exact Gr.refl _ | refine Gr.alloc ?_ _ | refine Gr.trans ?_ (by assumption) | refine Gr.drew ?_ | refine Gr.drewN ?_ _ | refine Gr.grow ?_ _ | refine Gr.setCell ?_ (by (try simp); (try omega)) _)
  have k0 : W0.cell? ⟨w.heap.size, 0, none⟩ = some (.string s) := by subst hW0; simp [go_sem]
  have k1 : W0.cell? ⟨w.heap.size, 1, none⟩ = some (.string a) := by subst hW0; simp [go_sem]
  have k2 : W0.cell? ⟨w.heap.size + 1, 0, none⟩ = some (.int .i64 (crn s.size u).1) := by subst hW0; simp [go_sem]
  have k3 : W0.cell? ⟨w.heap.size + 1, 1, none⟩ = some (.int .i64 (crn s.size u).2) := by subst hW0; simp [go_sem]
  have HG := Lib.hid GW
  have HK := Lib.hid (And.intro k0 k1)
  have HK2 := Lib.hid (And.intro k2 k3)
  clear GW S1 S2 hul hu h1 h2
  generalize hp : gb s (u % s.size) = p at *
  generalize hq : gb a (u / s.size) = q at *
  go_enter Tryd.func27, Tryd.ntmps27
  go_wp2_with (first | (go_at_call 31; refine (HS.out _).mono ?_; rintro e wA ⟨rfl, gA⟩))
  have GI : Gr wA (wA.iter ⟨#[p, q]⟩ 0) := Gr.alloc (Gr.refl _) _
  have ITB := Lib.hid (show W0.heap.size ≤ wA.heap.size from gA.below.size)
  have HIT := Lib.hid (World.iter_heap wA ⟨#[p, q]⟩ 0)
  have GAI := Lib.hid (gA.trans GI)
  obtain ⟨it, hit⟩ : ∃ it, wA.heap.size = it := ⟨_, rfl⟩
  obtain ⟨wI, hwI⟩ : ∃ wI, wA.iter ⟨#[p, q]⟩ 0 = wI := ⟨_, rfl⟩
  have hsI : wI.heap.size = it + 1 := by rw [← hwI, ← hit]; simp [World.iter]
  have SZI := Lib.hid hsI
  simp only [hit, hwI] at *
  clear gA GI k0 k1 k2 k3 hsI hit hwI
  go_loopg [7] 2 (fun gk v wr => ∃ i, i + gk = 2 ∧ OwnE 47 2 (ccs s.size) wr (it + 1) v (preW s a b u i) ∧ (preW s a b u i = [] → v = .slice none 0 0) ∧ Below W0.heap.size W0 wr ∧ wr.heap[it]? = some (.stringIter ⟨#[p, q]⟩ i))
  case atStart => exact ⟨0, rfl, by rw [PZ.out]; exact OwnE.nil _ _ _ _ _, fun _ => rfl, GAI.out.below, HIT.out⟩
  case round =>
    obtain ⟨i, hig, ho, hnil, hb0, hitr⟩ := hrel
    have hsz := (Array.getElem?_eq_some_iff.1 hitr).1
    by_cases hi : i < 2
    · obtain ⟨j, hjd⟩ : ∃ j, dirW s a u i = j := ⟨_, rfl⟩
      have hj4 : j < 4 := by
        have : i = 0 ∨ i = 1 := by omega
        rcases this with rfl | rfl
        · rw [← hjd, D0.out]; exact sgi_lt _
        · rw [← hjd, D1.out]; exact sgi_lt _
      have hnx : ∀ ty, (Instr.next (.pointer (some ⟨it, 0, none⟩)) true ty).run Tryd.prog wr = .ok (.tuple #[.bool true, .int .i64 i, .int .i32 (sgn j)]) (wr.iterAt it ⟨#[p, q]⟩ (i + 1)) := fun ty => by
        have hc : isSg ((⟨#[p, q]⟩ : ByteArray)[i]'hi) := by
          have : i = 0 ∨ i = 1 := by omega
          rcases this with rfl | rfl
          · exact SS.out.1
          · exact SS.out.2
        have h128 : ((⟨#[p, q]⟩ : ByteArray)[i]'hi).toNat < 128 := by rcases hc with e | e | e | e <;> rw [e] <;> decide
        have := Go.Lib.run_next_ascii_at (P := Tryd.prog) wr it ⟨#[p, q]⟩ i ty hitr hi h128
        rw [this, sgi_sgn hc, ← hjd]
        have : i = 0 ∨ i = 1 := by omega
        rcases this with rfl | rfl
        · rw [D0.out]; rfl
        · rw [D1.out]; rfl
      obtain ⟨ys, hys⟩ : ∃ ys, preW s a b u (i + 1) = ys := ⟨_, rfl⟩
      have YL := Lib.hid (show ys.length ≤ 16 by rw [← hys]; have := PL.out (i + 1); omega)
      have HPS := Lib.hid (show preW s a b u i ++ ray s a j b u = ys by rw [← hys, PS.out i hi, hjd])
      obtain ⟨X, hwi⟩ : ∃ wi, wr.iterAt it ⟨#[p, q]⟩ (i + 1) = wi := ⟨_, rfl⟩
      have hitw : X.heap[it]? = some (.stringIter ⟨#[p, q]⟩ (i + 1)) := by rw [← hwi]; exact Go.Lib.iterAt_heap wr _ _ i (i + 1) hitr
      have hgi : wr.grownBy X (some it) := by rw [← hwi]; exact iter_grown
      have hbi : Below W0.heap.size W0 X := by rw [← hwi]; exact Go.Lib.below_iterAt hb0 ITB.out _ _
      rw [hwi] at hnx
      have hoi := ho.grown hgi (.inr (row_neI ho hitr))
      have c0 := cell_k2 hbi HK.out.1
      have c1 := cell_k2 hbi HK.out.2
      have c2 := cell_k2 hbi HK2.out.1
      have c3 := cell_k2 hbi HK2.out.2
      have hszX : it < X.heap.size := (Array.getElem?_eq_some_iff.1 hitw).1
      have HNIL := Lib.hid hnil
      have HX := Lib.hid (And.intro hitw hbi)
      have HO := Lib.hid hoi
      have HYS := Lib.hid hys
      clear ho hnil hb0 hitr hgi hbi hoi hwi hitw hys hjd hsz
      generalize preW s a b u i = xs0 at *
      go_wp2_with fail
      refine wp_scope_jumps 0 (fun a' X => ∃ (b' n : Nat) (xs : List Nat) (v : Value) (bk : Nat) (u12 u13 u18 u19 u20 u21 u22 u23 u24 u25 u26 u27 u28 u29 u30 u31 u32 u33 u34 u35 u36 u37 u38 u39 u40 u41 : Value), a' = { tmps := #[.agg #[.string s, .string a], .agg #[.int .i64 (crn s.size u).1, .int .i64 (crn s.size u).2], .int .i64 (b : Nat), .pointer (some ⟨w.heap.size, 0, none⟩), .pointer (some ⟨w.heap.size + 1, 0, none⟩), undef, .slice none 0 0, v, undef, .int .i32 (sgn j), .pointer (some ⟨bk, 0, none⟩), .int .i64 (b' : Nat), u12, u13, .agg #[.string s, .string a], .agg #[.int .i64 (crn s.size u).1, .int .i64 (crn s.size u).2], .string ⟨#[p, q]⟩, .pointer (some ⟨it, 0, none⟩), u18, u19, u20, u21, u22, u23, u24, u25, u26, u27, u28, u29, u30, u31, u32, u33, u34, u35, u36, u37, u38, u39, u40, u41, undef], defers := [] } ∧ Tryd.AtL s a j ys it ⟨#[p, q]⟩ (i + 1) (it + 1) W0 b' n xs v bk X) (fun a' _ => (intOf (a'.tmps.getD 11 undef)).toNat) rfl ?_ ?_
      · go_wp2_with fail
        go_step3
        obtain ⟨XA, hXA⟩ : ∃ XA, X.alloc (.cells #[.int .i64 (crn s.size u).1, .int .i64 (crn s.size u).2] 47) = XA := ⟨_, rfl⟩
        have gXA : Gr X XA := by rw [← hXA]; exact Gr.alloc (Gr.refl _) _
        have HA := Lib.hid (show Tryd.AtL s a j ys it ⟨#[p, q]⟩ (i + 1) (it + 1) W0 b u xs0 u7 X.heap.size XA from
          ⟨hb, HU.out, HPS.out, HO.out.gr gXA, HNIL.out, by rw [← hXA]; exact heap_alloc_new X _, fun e => by have := (World.ownsRow.lt HO.out _ e).2; omega, by omega, HX.out.2.trans (gXA.below.mono HX.out.2.size), by rw [gXA.below.block it hszX]; exact HX.out.1⟩)
        simp only [hXA]
        clear hXA gXA c0 c1 c2 c3 hnx
        have c0 := cell_k2 HA.out.bel HK.out.1
        have c1 := cell_k2 HA.out.bel HK.out.2
        have d0 : XA.cell? ⟨X.heap.size, 0, none⟩ = some (.int .i64 (crn s.size u).1) := by rw [cell_of_row XA (X.heap.size) 0 _ _ _ HA.out.blk]; rfl
        have d1 : XA.cell? ⟨X.heap.size, 1, none⟩ = some (.int .i64 (crn s.size u).2) := by rw [cell_of_row XA (X.heap.size) 1 _ _ _ HA.out.blk]; rfl
        have hnl := idx_lt2 HA.out.nN
        have HST := Lib.hid (fun (Y : World) => Tryd.iwStep Y s a L1.out L2.out (u / s.size) (u % s.size) hnl.1 hnl.2 j hj4)
        have hbk : X.heap.size < XA.heap.size := (Array.getElem?_eq_some_iff.1 HA.out.blk).1
        have zb8 : ((b : Nat) : Int) ≤ 8 := by have := HA.out.b8; omega
        have zb7 : (0 : Int) ≤ ((b : Nat) : Int) := by omega
        cases hst : drv s a (u / s.size) (u % s.size) j
        · rw [iwV_f hst] at HST
          change Hid (∀ Y : World, Calls Tryd.prog 32 #[.agg #[.string s, .string a], .agg #[.int .i64 (crn s.size u).1, .int .i64 (crn s.size u).2], .int .i32 (sgn j)] Y fun e w' => e = .returned (.tuple #[.agg #[.int .i64 0, .int .i64 0], .bool false]) ∧ Gr Y w') at HST
          have HEQ := Lib.hid (show xs0 = ys by have := HA.out.eq; rw [ray_stop (nbW_none hst)] at this; simpa using this)
          clear hst hnl
          go_wp2_with (first | (go_at_call 32; refine (HST.out _).mono ?_; rintro e w3 ⟨rfl, g3⟩))
          have gE := Gr.alloc g3 (.cells #[.int .i64 0, .int .i64 0] 47)
          have HA2 := Lib.hid (And.intro HA.out gE)
          simp only [Exit.jump]
          go_wp2_with fail
          go_roundg (gk - 1)
          case rel =>
            exact ⟨i + 1, by omega, by rw [HYS.out, ← HEQ.out]; exact HA2.out.1.own.gr HA2.out.2, fun e => HA2.out.1.nil (by rw [HYS.out, ← HEQ.out] at e; exact e), HA2.out.1.bel.trans (HA2.out.2.below.mono HA2.out.1.bel.size), by rw [HA2.out.2.below.block it (Array.getElem?_eq_some_iff.1 HA2.out.1.itr).1]; exact HA2.out.1.itr⟩
          case measure => omega
        · obtain ⟨m, hnb, hmN, hmx, hmy, _⟩ := nbW_some hj4 HA.out.nN hst
          rw [iwV_t hst, ← hmx, ← hmy] at HST
          change Hid (∀ Y : World, Calls Tryd.prog 32 #[.agg #[.string s, .string a], .agg #[.int .i64 (crn s.size u).1, .int .i64 (crn s.size u).2], .int .i32 (sgn j)] Y fun e w' => e = .returned (.tuple #[.agg #[.int .i64 (crn s.size m).1, .int .i64 (crn s.size m).2], .bool true]) ∧ Gr Y w') at HST
          have HNB := Lib.hid hnb
          have HMN := Lib.hid hmN
          clear hst hnl hmx hmy hnb
          by_cases hbz : b = 0
          · have HEQ := Lib.hid (show xs0 = ys by have := HA.out.eq; rw [hbz] at this; simpa [ray] using this)
            have zbn : ¬ (0 : Int) < ((b : Nat) : Int) := by omega
            have zbd : decide ((0 : Int) < ((b : Nat) : Int)) = false := by simpa using zbn
            have zbd2 : decide (0 < b) = false := by simpa using hbz
            have HBZ := Lib.hid hbz
            clear hbz zbn
            go_wp2_with (first | (go_at_call 32; refine (HST.out _).mono ?_; rintro e w3 ⟨rfl, g3⟩))
            have gE := Gr.alloc g3 (.cells #[.int .i64 (crn s.size m).1, .int .i64 (crn s.size m).2] 47)
            have HA2 := Lib.hid (And.intro HA.out gE)
            simp only [Exit.jump]
            go_wp2_with fail
            go_roundg (gk - 1)
            case rel =>
              exact ⟨i + 1, by omega, by rw [HYS.out, ← HEQ.out]; exact HA2.out.1.own.gr HA2.out.2, fun e => HA2.out.1.nil (by rw [HYS.out, ← HEQ.out] at e; exact e), HA2.out.1.bel.trans (HA2.out.2.below.mono HA2.out.1.bel.size), by rw [HA2.out.2.below.block it (Array.getElem?_eq_some_iff.1 HA2.out.1.itr).1]; exact HA2.out.1.itr⟩
            case measure => omega
          · obtain ⟨b2, hb2⟩ : ∃ k, b = k + 1 := ⟨b - 1, by omega⟩
            have HEQ := Lib.hid (show (xs0 ++ [m]) ++ ray s a j b2 m = ys by have := HA.out.eq; rw [hb2] at this; simp only [ray, HNB.out] at this; simpa using this)
            have zb : (0 : Int) < ((b : Nat) : Int) := by omega
            have zbd : decide ((0 : Int) < ((b : Nat) : Int)) = true := by simpa using zb
            have zbd2 : decide (0 < b) = true := by simp; omega
            have zbd3 : 0 < b := by omega
            have e0 : ((b : Nat) : Int) - 1 = (b2 : Int) := by omega
            have hb28 : b2 ≤ 8 := by omega
            obtain ⟨Bx, hBx, hBo, hBn⟩ : ∃ Bx, it + 1 ≤ Bx ∧ OwnE 47 2 (ccs s.size) (XA) Bx (u7) (xs0) ∧ (xs0 = [] → Bx = XA.heap.size) ∧ Bx ≤ XA.heap.size := by
              by_cases hx : xs0 = []
              · refine ⟨XA.heap.size, ?_, ?_, fun _ => rfl, Nat.le_refl _⟩
                · have := HA.out.bB; omega
                · rw [hx, HA.out.nil hx]; exact OwnE.nil _ _ _ _ _
              · exact ⟨it + 1, Nat.le_refl _, HA.out.own, fun e => absurd e hx, by have := HA.out.bB; omega⟩
            obtain ⟨hBn, hBs⟩ := hBn
            have HBO := Lib.hid hBo
            have HBN := Lib.hid hBn
            have hxl : (xs0).length ≤ 16 := by have := congrArg List.length HA.out.eq; rw [List.length_append] at this; have := YL.out; omega
            clear hBo hBn hb2 hbz
            go_wp2_with (first | (go_at_call 32; refine (HST.out _).mono ?_; rintro e w3 ⟨rfl, g3⟩; have hs3 := g3.below.size) | (at_builtin; refine wpList_appE (ccs_len s.size) (ccs_one s.size) rfl _ _ 61 rfl 47 Tryd.underlying61 Tryd.infoC rfl (by decide) (by decide) Bx _ _ rfl (HBO.out.gr (Gr.alloc (Gr.alloc g3 _) _)) _ 1 1 [m] rfl rfl (fun j u hu => alloc_cells' (by simp) (by simpa [ecs, ccs] using hu)) (by (try simp) <;> omega) (by simp) (by (try simp) <;> omega) ?_))
            intro v3 w5 ho5 hb5 hg5 _
            have gE : Gr XA ((w3.alloc (.cells #[.int .i64 (crn s.size m).1, .int .i64 (crn s.size m).2] 47)).alloc (.cells #[.int .i64 (crn s.size m).1, .int .i64 (crn s.size m).2] 47)) := Gr.alloc (Gr.alloc g3 _) _
            have hvlt : ∀ g, Value.ownBlock (u7) = some g → g < XA.heap.size := fun g hg => (World.ownsRow.lt HA.out.own g hg).2
            have hblk5 : w5.heap[X.heap.size]? = some (.cells #[.int .i64 (crn s.size u).1, .int .i64 (crn s.size u).2] 47 (0, 0)) := by
              rw [hg5.block (X.heap.size) (Nat.lt_of_lt_of_le hbk gE.below.size) (fun e => HA.out.ne e.symm), gE.below.block (X.heap.size) hbk]; exact HA.out.blk
            have hitr5 : w5.heap[it]? = some (.stringIter ⟨#[p, q]⟩ (i + 1)) := by
              have hl := (Array.getElem?_eq_some_iff.1 HA.out.itr).1
              rw [hg5.block it (Nat.lt_of_lt_of_le hl gE.below.size) (fun e => row_neI HA.out.own HA.out.itr e.symm), gE.below.block it hl]; exact HA.out.itr
            have hnew : w5.cell? ⟨w3.heap.size, 0, none⟩ = some (.int .i64 (crn s.size m).1) ∧ w5.cell? ⟨w3.heap.size, 1, none⟩ = some (.int .i64 (crn s.size m).2) := by
              have hq : ∀ o x, ((w3.alloc (.cells #[.int .i64 (crn s.size m).1, .int .i64 (crn s.size m).2] 47)).alloc (.cells #[.int .i64 (crn s.size m).1, .int .i64 (crn s.size m).2] 47)).cell? ⟨w3.heap.size, o, none⟩ = some x → w5.cell? ⟨w3.heap.size, o, none⟩ = some x := fun o x hx => hg5.cell hx (fun e => by have := hvlt _ e.symm; simp at this; omega)
              exact ⟨hq 0 _ (by simp [go_sem]), hq 1 _ (by simp [go_sem])⟩
            have hne5 : v3.ownBlock ≠ some (X.heap.size) := by
              by_cases hx : xs0 = []
              · intro e; have := (World.ownsRow.lt ho5 _ e).1; have := HBN.out hx; omega
              · refine row_ne ho5 ?_ hblk5 rfl
                rw [List.length_append]
                have := List.length_pos_iff.2 hx
                simp; omega
            have x0 : w5.cell? ⟨X.heap.size, 0, none⟩ = some (.int .i64 (crn s.size u).1) := by rw [cell_of_row w5 (X.heap.size) 0 _ _ _ hblk5]; rfl
            have x1 : w5.cell? ⟨X.heap.size, 1, none⟩ = some (.int .i64 (crn s.size u).2) := by rw [cell_of_row w5 (X.heap.size) 1 _ _ _ hblk5]; rfl
            have y0 : w5.frozen? ⟨X.heap.size, 0, none⟩ = false := frz_row hblk5
            have y1 : w5.frozen? ⟨X.heap.size, 1, none⟩ = false := frz_row hblk5
            obtain ⟨n0, n1⟩ := hnew
            have HB5 := Lib.hid (show Below W0.heap.size W0 w5 from HA.out.bel.trans ((gE.below.mono HA.out.bel.size).trans (hb5.mono (Nat.le_trans (Nat.le_succ_of_le ITB.out) hBx))))
            have HO5 := Lib.hid (ho5.mono hBx)
            have HX5 := Lib.hid (And.intro hblk5 (And.intro hitr5 hne5))
            clear ho5 hb5 hg5 gE hblk5 hitr5 hne5 hvlt c0 c1 d0 d1
            go_wp2_with fail
            go_step3
            refine ⟨rfl, b2, m, xs0 ++ [m], v3, X.heap.size, _, _, _, _, _, _, _, _, _, _, _, _, _, _, _, _, _, _, _, _, _, _, _, _, _, _, rfl, ?_⟩
            refine ⟨by omega, HMN.out, HEQ.out, ?_, fun e => by simp at e, set_blk HX5.out.1, HX5.out.2.2, HA.out.bB, Below.setCell (Below.setCell HB5.out (p := ⟨X.heap.size, 0, none⟩) (by have := HA.out.bB; have := ITB.out; simp; omega) _) (p := ⟨X.heap.size, 1, none⟩) (by have := HA.out.bB; have := ITB.out; simp; omega) _, ?_⟩
            · exact HO5.out.grown (grownBy_setCell (grownBy_setCell (World.grownBy.refl _ _))) (.inr HX5.out.2.2)
            · have := HA.out.bB
              rw [heap_setCell_other _ _ _ _ (by simp; omega), heap_setCell_other _ _ _ _ (by simp; omega)]; exact HX5.out.2.1
      · rintro a' X ⟨b', n, xs, v, bk, u12, u13, u18, u19, u20, u21, u22, u23, u24, u25, u26, u27, u28, u29, u30, u31, u32, u33, u34, u35, u36, u37, u38, u39, u40, u41, rfl, hA⟩
        have HA := Lib.hid hA
        clear hA c0 c1 c2 c3 hnx
        have c0 := cell_k2 HA.out.bel HK.out.1
        have c1 := cell_k2 HA.out.bel HK.out.2
        have d0 : X.cell? ⟨bk, 0, none⟩ = some (.int .i64 (crn s.size n).1) := by rw [cell_of_row X (bk) 0 _ _ _ HA.out.blk]; rfl
        have d1 : X.cell? ⟨bk, 1, none⟩ = some (.int .i64 (crn s.size n).2) := by rw [cell_of_row X (bk) 1 _ _ _ HA.out.blk]; rfl
        have hnl := idx_lt2 HA.out.nN
        have HST := Lib.hid (fun (Y : World) => Tryd.iwStep Y s a L1.out L2.out (n / s.size) (n % s.size) hnl.1 hnl.2 j hj4)
        have hbk : bk < X.heap.size := (Array.getElem?_eq_some_iff.1 HA.out.blk).1
        have zb8 : ((b' : Nat) : Int) ≤ 8 := by have := HA.out.b8; omega
        have zb7 : (0 : Int) ≤ ((b' : Nat) : Int) := by omega
        cases hst : drv s a (n / s.size) (n % s.size) j
        · rw [iwV_f hst] at HST
          change Hid (∀ Y : World, Calls Tryd.prog 32 #[.agg #[.string s, .string a], .agg #[.int .i64 (crn s.size n).1, .int .i64 (crn s.size n).2], .int .i32 (sgn j)] Y fun e w' => e = .returned (.tuple #[.agg #[.int .i64 0, .int .i64 0], .bool false]) ∧ Gr Y w') at HST
          have HEQ := Lib.hid (show xs = ys by have := HA.out.eq; rw [ray_stop (nbW_none hst)] at this; simpa using this)
          clear hst hnl
          go_wp2_with (first | (go_at_call 32; refine (HST.out _).mono ?_; rintro e w3 ⟨rfl, g3⟩))
          have gE := Gr.alloc g3 (.cells #[.int .i64 0, .int .i64 0] 47)
          have HA2 := Lib.hid (And.intro HA.out gE)
          simp only [Exit.jump]
          go_wp2_with fail
          go_roundg (gk - 1)
          case rel =>
            exact ⟨i + 1, by omega, by rw [HYS.out, ← HEQ.out]; exact HA2.out.1.own.gr HA2.out.2, fun e => HA2.out.1.nil (by rw [HYS.out, ← HEQ.out] at e; exact e), HA2.out.1.bel.trans (HA2.out.2.below.mono HA2.out.1.bel.size), by rw [HA2.out.2.below.block it (Array.getElem?_eq_some_iff.1 HA2.out.1.itr).1]; exact HA2.out.1.itr⟩
          case measure => omega
        · obtain ⟨m, hnb, hmN, hmx, hmy, _⟩ := nbW_some hj4 HA.out.nN hst
          rw [iwV_t hst, ← hmx, ← hmy] at HST
          change Hid (∀ Y : World, Calls Tryd.prog 32 #[.agg #[.string s, .string a], .agg #[.int .i64 (crn s.size n).1, .int .i64 (crn s.size n).2], .int .i32 (sgn j)] Y fun e w' => e = .returned (.tuple #[.agg #[.int .i64 (crn s.size m).1, .int .i64 (crn s.size m).2], .bool true]) ∧ Gr Y w') at HST
          have HNB := Lib.hid hnb
          have HMN := Lib.hid hmN
          clear hst hnl hmx hmy hnb
          by_cases hbz : b' = 0
          · have HEQ := Lib.hid (show xs = ys by have := HA.out.eq; rw [hbz] at this; simpa [ray] using this)
            have zbn : ¬ (0 : Int) < ((b' : Nat) : Int) := by omega
            have zbd : decide ((0 : Int) < ((b' : Nat) : Int)) = false := by simpa using zbn
            have zbd2 : decide (0 < b') = false := by simpa using hbz
            have HBZ := Lib.hid hbz
            clear hbz zbn
            go_wp2_with (first | (go_at_call 32; refine (HST.out _).mono ?_; rintro e w3 ⟨rfl, g3⟩))
            have gE := Gr.alloc g3 (.cells #[.int .i64 (crn s.size m).1, .int .i64 (crn s.size m).2] 47)
            have HA2 := Lib.hid (And.intro HA.out gE)
            simp only [Exit.jump]
            go_wp2_with fail
            go_roundg (gk - 1)
            case rel =>
              exact ⟨i + 1, by omega, by rw [HYS.out, ← HEQ.out]; exact HA2.out.1.own.gr HA2.out.2, fun e => HA2.out.1.nil (by rw [HYS.out, ← HEQ.out] at e; exact e), HA2.out.1.bel.trans (HA2.out.2.below.mono HA2.out.1.bel.size), by rw [HA2.out.2.below.block it (Array.getElem?_eq_some_iff.1 HA2.out.1.itr).1]; exact HA2.out.1.itr⟩
            case measure => omega
          · obtain ⟨b2, hb2⟩ : ∃ k, b' = k + 1 := ⟨b' - 1, by omega⟩
            have HEQ := Lib.hid (show (xs ++ [m]) ++ ray s a j b2 m = ys by have := HA.out.eq; rw [hb2] at this; simp only [ray, HNB.out] at this; simpa using this)
            have zb : (0 : Int) < ((b' : Nat) : Int) := by omega
            have zbd : decide ((0 : Int) < ((b' : Nat) : Int)) = true := by simpa using zb
            have zbd2 : decide (0 < b') = true := by simp; omega
            have zbd3 : 0 < b' := by omega
            have e0 : ((b' : Nat) : Int) - 1 = (b2 : Int) := by omega
            have hb28 : b2 ≤ 8 := by omega
            obtain ⟨Bx, hBx, hBo, hBn⟩ : ∃ Bx, it + 1 ≤ Bx ∧ OwnE 47 2 (ccs s.size) (X) Bx (v) (xs) ∧ (xs = [] → Bx = X.heap.size) ∧ Bx ≤ X.heap.size := by
              by_cases hx : xs = []
              · refine ⟨X.heap.size, ?_, ?_, fun _ => rfl, Nat.le_refl _⟩
                · have := HA.out.bB; omega
                · rw [hx, HA.out.nil hx]; exact OwnE.nil _ _ _ _ _
              · exact ⟨it + 1, Nat.le_refl _, HA.out.own, fun e => absurd e hx, by have := HA.out.bB; omega⟩
            obtain ⟨hBn, hBs⟩ := hBn
            have HBO := Lib.hid hBo
            have HBN := Lib.hid hBn
            have hxl : (xs).length ≤ 16 := by have := congrArg List.length HA.out.eq; rw [List.length_append] at this; have := YL.out; omega
            clear hBo hBn hb2 hbz
            go_wp2_with (first | (go_at_call 32; refine (HST.out _).mono ?_; rintro e w3 ⟨rfl, g3⟩; have hs3 := g3.below.size) | (at_builtin; refine wpList_appE (ccs_len s.size) (ccs_one s.size) rfl _ _ 61 rfl 47 Tryd.underlying61 Tryd.infoC rfl (by decide) (by decide) Bx _ _ rfl (HBO.out.gr (Gr.alloc (Gr.alloc g3 _) _)) _ 1 1 [m] rfl rfl (fun j u hu => alloc_cells' (by simp) (by simpa [ecs, ccs] using hu)) (by (try simp) <;> omega) (by simp) (by (try simp) <;> omega) ?_))
            intro v3 w5 ho5 hb5 hg5 _
            have gE : Gr X ((w3.alloc (.cells #[.int .i64 (crn s.size m).1, .int .i64 (crn s.size m).2] 47)).alloc (.cells #[.int .i64 (crn s.size m).1, .int .i64 (crn s.size m).2] 47)) := Gr.alloc (Gr.alloc g3 _) _
            have hvlt : ∀ g, Value.ownBlock (v) = some g → g < X.heap.size := fun g hg => (World.ownsRow.lt HA.out.own g hg).2
            have hblk5 : w5.heap[bk]? = some (.cells #[.int .i64 (crn s.size n).1, .int .i64 (crn s.size n).2] 47 (0, 0)) := by
              rw [hg5.block (bk) (Nat.lt_of_lt_of_le hbk gE.below.size) (fun e => HA.out.ne e.symm), gE.below.block (bk) hbk]; exact HA.out.blk
            have hitr5 : w5.heap[it]? = some (.stringIter ⟨#[p, q]⟩ (i + 1)) := by
              have hl := (Array.getElem?_eq_some_iff.1 HA.out.itr).1
              rw [hg5.block it (Nat.lt_of_lt_of_le hl gE.below.size) (fun e => row_neI HA.out.own HA.out.itr e.symm), gE.below.block it hl]; exact HA.out.itr
            have hnew : w5.cell? ⟨w3.heap.size, 0, none⟩ = some (.int .i64 (crn s.size m).1) ∧ w5.cell? ⟨w3.heap.size, 1, none⟩ = some (.int .i64 (crn s.size m).2) := by
              have hq : ∀ o x, ((w3.alloc (.cells #[.int .i64 (crn s.size m).1, .int .i64 (crn s.size m).2] 47)).alloc (.cells #[.int .i64 (crn s.size m).1, .int .i64 (crn s.size m).2] 47)).cell? ⟨w3.heap.size, o, none⟩ = some x → w5.cell? ⟨w3.heap.size, o, none⟩ = some x := fun o x hx => hg5.cell hx (fun e => by have := hvlt _ e.symm; simp at this; omega)
              exact ⟨hq 0 _ (by simp [go_sem]), hq 1 _ (by simp [go_sem])⟩
            have hne5 : v3.ownBlock ≠ some (bk) := by
              by_cases hx : xs = []
              · intro e; have := (World.ownsRow.lt ho5 _ e).1; have := HBN.out hx; omega
              · refine row_ne ho5 ?_ hblk5 rfl
                rw [List.length_append]
                have := List.length_pos_iff.2 hx
                simp; omega
            have x0 : w5.cell? ⟨bk, 0, none⟩ = some (.int .i64 (crn s.size n).1) := by rw [cell_of_row w5 (bk) 0 _ _ _ hblk5]; rfl
            have x1 : w5.cell? ⟨bk, 1, none⟩ = some (.int .i64 (crn s.size n).2) := by rw [cell_of_row w5 (bk) 1 _ _ _ hblk5]; rfl
            have y0 : w5.frozen? ⟨bk, 0, none⟩ = false := frz_row hblk5
            have y1 : w5.frozen? ⟨bk, 1, none⟩ = false := frz_row hblk5
            obtain ⟨n0, n1⟩ := hnew
            have HB5 := Lib.hid (show Below W0.heap.size W0 w5 from HA.out.bel.trans ((gE.below.mono HA.out.bel.size).trans (hb5.mono (Nat.le_trans (Nat.le_succ_of_le ITB.out) hBx))))
            have HO5 := Lib.hid (ho5.mono hBx)
            have HX5 := Lib.hid (And.intro hblk5 (And.intro hitr5 hne5))
            clear ho5 hb5 hg5 gE hblk5 hitr5 hne5 hvlt c0 c1 d0 d1
            go_wp2_with fail
            go_step3
            refine ⟨rfl, ⟨b2, m, xs ++ [m], v3, bk, _, _, _, _, _, _, _, _, _, _, _, _, _, _, _, _, _, _, _, _, _, _, _, _, _, _, rfl, ?_⟩, ?_⟩
            · refine ⟨by omega, HMN.out, HEQ.out, ?_, fun e => by simp at e, set_blk HX5.out.1, HX5.out.2.2, HA.out.bB, Below.setCell (Below.setCell HB5.out (p := ⟨bk, 0, none⟩) (by have := HA.out.bB; have := ITB.out; simp; omega) _) (p := ⟨bk, 1, none⟩) (by have := HA.out.bB; have := ITB.out; simp; omega) _, ?_⟩
              · exact HO5.out.grown (grownBy_setCell (grownBy_setCell (World.grownBy.refl _ _))) (.inr HX5.out.2.2)
              · have := HA.out.bB
                rw [heap_setCell_other _ _ _ _ (by simp; omega), heap_setCell_other _ _ _ _ (by simp; omega)]; exact HX5.out.2.1
            · simp [intOf] <;> omega
    · obtain rfl : i = 2 := by omega
      have hne := fun ty => Go.Lib.run_next_end_at (P := Tryd.prog) wr it ⟨#[p, q]⟩ 2 ty hitr (show ¬ 2 < (2 : Nat) by decide)
      have HO := Lib.hid (show OwnE 47 2 (ccs s.size) wr (it + 1) u7 (lsW s a b u) by rw [← PE.out]; exact ho)
      have HB := Lib.hid hb0
      have HGG := Lib.hid (And.intro HG.out ITB.out)
      clear ho hb0 hitr hnil hsz
      go_wp2
      go_ret
      exact ⟨_, rfl, HO.out.mono (by have := HGG.out.1.below.size; have := HGG.out.2; omega), Below.trans HGG.out.1.below (HB.out.mono HGG.out.1.below.size)⟩
end Go.Proofs
