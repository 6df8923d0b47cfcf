/-
  Chapter 7: the loots, told by a recursion (the model).
-/
import Derived.Test.YtjhpebihflcanaaRsL
import Derived.Test.YtjhpebihflcanaaRlT
import Derived.Test.YtjhpebihflcanaaRlA
import Derived.Test.YtjhpebihflcanaaRwN
namespace Go.Proofs
open Go.RowKit Go.Maps Rl
set_option linter.unusedVariables false
set_option linter.unusedSimpArgs false
theorem neiL {n : Nat} {ring : Bool} : NeiL n (rgB (n : Int) ring) (fun a b => neiB (n : Int) a b ring) := by
  intro a b h0 h1 h2
  show neiB (n : Int) a b ring = true ↔ _
  rw [neiB_eq]
  simp only [Bool.or_eq_true, Bool.and_eq_true, decide_eq_true_eq]
  have : avR (a - b) = b - a := by unfold avR; split <;> omega
  rw [this]
  constructor
  · rintro (h | ⟨h, h'⟩)
    · exact .inl (by omega)
    · exact .inr ⟨h, by omega, by omega⟩
  · rintro (h | ⟨h, h', h''⟩)
    · exact .inl (by omega)
    · exact .inr ⟨h, by omega⟩
theorem OwnZ.kp {w w' : World} {B : Nat} {v : Value} {zss : List (List Int)} (h : OwnZ w B v zss) (k : Kp w w') : OwnZ w' B v zss := by
  obtain ⟨vs, h1, h3, h4⟩ := h
  refine ⟨vs, h1, ⟨h3.1, ?_⟩, fun i u hi => k.own (h4 i u hi)⟩
  rcases h3.2 with hn | ⟨g, cap, cur, rfl, hb', hg, r⟩
  · exact .inl hn
  · exact .inr ⟨g, cap, cur, rfl, hb', k.blk _ _ _ _ hg, r⟩
theorem OwnZ.mono {w : World} {B C : Nat} {v : Value} {zss : List (List Int)} (h : OwnZ w B v zss) (hC : C ≤ B) : OwnZ w C v zss := by
  obtain ⟨vs, h1, h3, h4⟩ := h
  refine ⟨vs, h1, ⟨h3.1, ?_⟩, fun i u hi => (h4 i u hi).mono hC⟩
  rcases h3.2 with hn | ⟨g, cap, cur, rfl, hb', r⟩
  · exact .inl hn
  · exact .inr ⟨g, cap, cur, rfl, by omega, r⟩
theorem OwnZ.form {w : World} {B : Nat} {v : Value} {zss : List (List Int)} (h : OwnZ w B v zss) : ∃ A c, v = .slice A zss.length c := by
  obtain ⟨A, c, e, _⟩ := OwnLL.slice h
  exact ⟨A, c, e⟩
/-- one list alone, in a row that is just made -/
theorem OwnZ.one {w : World} {B b : Nat} {u : Value} {xs : List Int} (h : w.heap[b]? = some (Obj.cells #[u] 29 (0, 0))) (hB : B ≤ b) (hu : OwnI w B u xs) : OwnZ w B (.slice (some ⟨b, 0, none⟩) 1 1) [xs] :=
  ⟨[u], rfl, ⟨rfl, .inr ⟨b, 1, _, rfl, hB, h, Nat.le_refl _, by decide, rfl, rfl⟩⟩, fun k v hk => by
    have : k = 0 := by have := (List.getElem?_eq_some_iff.1 hk).1; simp at this; omega
    subst this
    simp at hk; subst hk
    exact hu⟩
/-- lists are appended to lists -/
theorem wpList_appZ {P : Program} {ops : Array Oper} {rest : List Oper} {o : Oper} {a : Act} {Q : Exit → Act → World → Prop} {W : World} (hgd : o.guard = none) (s x : Operand) (t : TypeId)
    (ho : o.op = .call { callee := .builtin .append, args := #[s, x], argTypes := #[t, t] }) (ht : P.underlying t = some (.slice 29))
    (hinfo : (P.info? 29).map (fun i => (i.zero, i.size, i.bytes)) = some (some (.slice none 0 0), 1, 24)) (B : Nat) (v : Value) (zss : List (List Int)) (hs : a.eval s = v) (h : OwnZ W B v zss)
    (C : Nat) (u : Value) (yss : List (List Int)) (hx : a.eval x = u) (hu : OwnZ W C u yss) (h0 : 0 < yss.length) (hC : B ≤ C) (hl : zss.length ≤ 1000000000) (hl2 : yss.length ≤ 1000000000) (hB : B ≤ W.heap.size)
    (k : ∀ v' w', OwnZ w' B v' (zss ++ yss) → Below B W w' → wpList P ops Q rest (a.put o.dst v') w') :
    wpList P ops Q (o :: rest) a W := by
  obtain ⟨i0, hi, hz0, hz1, hz2⟩ := info_parts hinfo
  obtain ⟨vs, h1, h3, h4⟩ := h
  obtain ⟨us, e1, e3, e4⟩ := hu
  rcases e3.2 with ⟨_, hn⟩ | ⟨g, cap, cur, rfl, hbg, hg, hc, hm, hsz, hh⟩
  · omega
  refine wpList_append_own _ hgd s x t ho B 29 i0 _ 1 24 ht hi hz0 hz1 hz2 rfl (by decide) v zss.length vs hs h3 ⟨g, 0, none⟩ yss.length cap us hx (by omega)
    (fun j z hz => ?_) (fun z hz => ?_) (by unfold maxLen; omega) (by omega) hB fun v' w' ho' hg' _ => ?_
  · have hj : j < us.length := (List.getElem?_eq_some_iff.1 hz).1
    rw [show (⟨g, 0, none⟩ : Addr).add j = ⟨g, j, none⟩ by cases j <;> simp [Addr.add], World.ownsRow.cellAt e3 j (by omega)]
    exact hz
  · obtain ⟨j, hj, rfl⟩ := List.mem_iff_getElem.1 hz
    rcases (e4 j us[j] (List.getElem?_eq_getElem hj)).2 with ⟨hq, _⟩ | ⟨g', _, _, hq, _⟩ <;> rw [hq] <;> rfl
  · have keep : ∀ (D : Nat) (q : Value) (xs : List Int), OwnI W D q xs → OwnI w' D q xs := fun D q xs hq => hq.grown hg' (rows_ne hq h3)
    refine k v' w' ⟨vs ++ us, by rw [List.length_append, List.length_append, h1, e1], by rw [List.length_append]; exact ho', fun j z hz => ?_⟩ (Below.grown (Below.refl _ _) hg' hB fun j hj => (World.ownsRow.lt h3 j hj).1)
    rcases Nat.lt_or_ge j vs.length with c | c
    · rw [List.getElem?_append_left c] at hz
      have := keep _ _ _ (h4 j z hz)
      have er : rowOf (zss ++ yss) j = rowOf zss j := by simp [rowOf, List.getD, List.getElem?_append_left (show j < zss.length by omega)]
      rw [er]; exact this
    · rw [List.getElem?_append_right c] at hz
      have := keep _ _ _ (e4 _ z hz)
      have er : rowOf (zss ++ yss) j = rowOf yss (j - vs.length) := by simp [rowOf, List.getD, List.getElem?_append_right (show zss.length ≤ j by omega), h1]
      rw [er]; exact this.mono hC
set_option maxHeartbeats 800000 in
/-- a list of one's own, whichever -/
theorem Try.l1OwnA (w : World) (B : Nat) (v : Value) (xs : List Int) (hl : xs.length ≤ 1000000) (h : OwnI w B v xs) :
    Calls Try.prog 53 #[v] w fun e w' => ∃ v', e = .returned v' ∧ OwnI w' w.heap.size v' xs ∧ Below w.heap.size w w' := by
  have H := Lib.hid h
  have HL := Lib.hid hl
  obtain ⟨A, c, rfl⟩ := h.form
  clear h
  go_enter Try.func53, Try.ntmps53
  go_wp2_with (at_builtin; go_loud (refine wpList_appO rfl _ _ 29 rfl Try.underlying29 Try.infoI2 w.heap.size _ [] rfl (own_emptyI (heap_new' rfl) (Nat.le_refl _)) B _ xs rfl (H.out.gr (by repeat (first | exact Gr.refl _ | refine Gr.alloc ?_ _ | refine Gr.trans ?_ (by assumption) | refine Gr.drew ?_ | refine Gr.drewN ?_ _ | refine Gr.grow ?_ _ | refine Gr.setCell ?_ (by (try simp); (try omega)) _))) (by simp) (by have := HL.out; omega) (by simp) ?_); intro v2 w2 ho2 hb2)
  go_ret
  exact ⟨_, rfl, by simpa using ho2, (Gr.below (show Gr w _ from Gr.alloc (Gr.refl _) _)).trans (hb2.mono (Nat.le_refl _))⟩
set_option maxRecDepth 100000 in
set_option maxHeartbeats 8000000 in
theorem Try.rwLoots (n : Nat) (hn : n ≤ 20) (ring : Bool) : ∀ (m : Nat) (bg : List Int) (w : World) (B : Nat) (v : Value), m ≤ n → bg.length + m ≤ n → (∀ b ∈ bg, 0 ≤ b ∧ b < (n : Int)) → ((bg = [] ∧ m = n) ∨ (bg ≠ [] ∧ bg.getLast? = some ((n : Int) - m - 1))) → OwnI w B v bg →
    Calls Try.prog 44 #[.int .i64 n, v, .bool ring] w fun e w' => ∃ u, e = .returned u ∧ OwnZ w' w.heap.size u (bg :: ltR n (fun a b => neiB (n : Int) a b ring) m bg) ∧ Below w.heap.size w w' := by
  have mixed : Try.prog.follows .mixedOrders = true := by kernel_rfl
  intro m
  induction m using Nat.strongRecOn with
  | _ m ih =>
  intro bg w B v hm hlen hb hlast h
  have HIH := Lib.hid ih
  have HV := Lib.hid h
  have HBD := Lib.hid hb
  obtain ⟨A, c, rfl⟩ := h.form
  have HOWN := Lib.hid (fun (X : World) (q : OwnI X B (.slice A bg.length c) bg) => Try.l1OwnA X B _ bg (by omega) q)
  have HMN := Lib.hid (And.intro hm hlen)
  have zn : (n : Int) ≤ 20 := by omega
  have zl : (bg.length : Int) ≤ 20 := by omega
  clear ih h hb
  rcases hlast with ⟨hnil, hmn⟩ | ⟨hne, hlast⟩
  · have hl0 : (bg.length : Int) = 0 := by rw [hnil]; rfl
    have hl0' : ¬ (0 : Int) < (bg.length : Int) := by omega
    have hl1 : ¬ 0 < bg.length := by omega
    have HNIL := Lib.hid hnil
    have HFROM := Lib.hid (show (0 : Int) = (n : Int) - m by omega)
    clear hnil hl0 hmn
    go_enter Try.func44, Try.ntmps44
    go_wp2_with (go_at_call 53; refine (HOWN.out _ HV.out).mono ?_; rintro e w1 ⟨v1, rfl, ho1, hb1⟩; obtain ⟨A1, c1, rfl⟩ := ho1.form)
    have HSTART := Lib.hid (show OwnZ (w1.alloc (.cells #[.slice A1 bg.length c1] 29)) w.heap.size (.slice (some ⟨w1.heap.size, 0, none⟩) 1 1) [bg] from OwnZ.one (heap_alloc_new w1 _) hb1.size (ho1.mono (Nat.le_refl _) |>.gr (Gr.alloc (Gr.refl _) _)))
    have HB1 := Lib.hid (show Below w.heap.size w (w1.alloc (.cells #[.slice A1 bg.length c1] 29)) from hb1.alloc hb1.size _)
    clear ho1 hb1
    go_loopw [7, 10] (fun ov iv wr => ∃ (j : Nat) (P : List (List Int)), iv = .int .i64 ((n : Int) - j) ∧ j ≤ m ∧ OwnZ wr w.heap.size ov P ∧ P ++ ltR n (fun a b => neiB (n : Int) a b ring) j bg = bg :: ltR n (fun a b => neiB (n : Int) a b ring) m bg ∧ Below w.heap.size w wr) (fun _ i _ => ((n : Int) - intOf i).toNat)
    case atStart => exact ⟨m, [bg], by rw [← HFROM.out], Nat.le_refl _, HSTART.out, rfl, HB1.out⟩
    case round =>
      obtain ⟨j, P, rfl, hj, hP, hPe, hbl⟩ := hrel
      have HP := Lib.hid hP
      have HPE := Lib.hid hPe
      have HBL := Lib.hid hbl
      obtain ⟨Ap, cp, rfl⟩ := hP.form
      clear hP hPe hbl
      rcases Nat.eq_zero_or_pos j with hj0 | hj0
      · subst hj0
        have z9 : ¬ ((n : Int) - ((0 : Nat) : Int) < (n : Int)) := by omega
        have z8 : (n : Int) - ((0 : Nat) : Int) = (n : Int) := by omega
        go_wp2
        go_ret
        exact ⟨_, rfl, by have := HPE.out; simp only [ltR, List.append_nil] at this; rw [← this]; exact HP.out, HBL.out⟩
      · obtain ⟨r, rfl⟩ : ∃ r, j = r + 1 := ⟨j - 1, by omega⟩
        obtain ⟨i, hi⟩ : ∃ i : Int, (n : Int) - ((r + 1 : Nat) : Int) = i := ⟨_, rfl⟩
        have hi0 : 0 ≤ i := by rw [← hi]; have := HMN.out.1; push_cast; omega
        have hi1 : i < (n : Int) := by rw [← hi]; push_cast; omega
        have HI := Lib.hid hi
        have HJ := Lib.hid hj
        simp only [hi]
        clear hi hj hj0
        have HVR := Lib.hid (OwnI.below HV.out HBL.out (Nat.le_refl _))
        obtain ⟨L, hL⟩ : ∃ L, bg.length = L := ⟨_, rfl⟩
        have HLL := Lib.hid hL
        simp only [hL] at HVR HOWN zl ⊢
        clear hL
        go_wp2_with fail
        rename World => wo
        go_loopw [11, 35] (fun fv tv wi => ∃ t : Nat, tv = .int .i64 t ∧ t ≤ L ∧ fv = .bool (frB (fun a b => neiB (n : Int) a b ring) (bg.take t) i) ∧ wi = wo) (fun _ t _ => L - (intOf t).toNat)
        case atStart => exact ⟨0, rfl, Nat.zero_le _, rfl, by trivial⟩
        case round =>
          obtain ⟨t, rfl, ht, rfl, rfl⟩ := hrel
          by_cases htl : t < L
          · obtain ⟨g0, rfl⟩ := OwnI.addr HVR.out (by have := HLL.out; omega)
            have c0 := (HVR.out.at HLL.out t htl).1
            have htb : t < bg.length := by have := HLL.out; omega
            have hgd : bg.getD t 0 = bg[t] := by simp [List.getD, htb]
            have hbd := HBD.out bg[t] (by simp)
            rw [← hgd] at hbd
            have HFR := Lib.hid (show frB (fun a b => neiB (n : Int) a b ring) (bg.take (t + 1)) i = (frB (fun a b => neiB (n : Int) a b ring) (bg.take t) i && !neiB (n : Int) (bg.getD t 0) i ring) by
              unfold frB
              rw [List.take_succ_eq_append_getElem htb, hgd, List.all_append]
              simp only [List.all_cons, List.all_nil, Bool.and_true])
            generalize bg.getD t 0 = b at *
            generalize hfr : frB (fun a b => neiB (n : Int) a b ring) (bg.take t) i = f at *
            have HNX := Lib.hid (fun (X : World) => Try.rwNext (n : Int) b i ring X (by omega) (by omega) (by omega) _ rfl)
            generalize neiB (n : Int) b i ring = q at *
            have z0 : (0 : Int) ≤ (t : Int) := by omega
            have z1 : (t : Int) < (L : Int) := by omega
            clear hgd hbd hfr
            cases f
            · go_wp2_with fail
              go_roundw
              case rel => exact ⟨t + 1, by go_num, by omega, by rw [HFR.out]; rfl, by trivial⟩
              case measure => simp [intOf]; omega
            · go_wp2_with (go_at_call 54; refine (HNX.out _).mono ?_; rintro e w9 ⟨rfl, rfl⟩)
              go_roundw
              case rel => exact ⟨t + 1, by go_num, by omega, by rw [HFR.out]; cases q <;> rfl, by trivial⟩
              case measure => simp [intOf]; omega
          · obtain rfl : t = L := by omega
            have z1 : ¬ (t : Int) < (t : Int) := by omega
            rw [List.take_of_length_le (by have := HLL.out; omega)]
            have HDEF := Lib.hid (show ltR n (fun a b => neiB (n : Int) a b ring) (r + 1) bg = (if frB (fun a b => neiB (n : Int) a b ring) bg i = true then (bg ++ [i]) :: ltR n (fun a b => neiB (n : Int) a b ring) r (bg ++ [i]) else []) ++ ltR n (fun a b => neiB (n : Int) a b ring) r bg by rw [← HI.out]; rfl)
            cases hfr : frB (fun a b => neiB (n : Int) a b ring) bg i
            · go_wp2_with fail
              go_roundw
              case rel => exact ⟨r, P, by have := HI.out; go_num, by have := HJ.out; omega, HP.out, by rw [← HPE.out, HDEF.out, hfr]; simp, HBL.out⟩
              case measure => have := HI.out; simp [intOf]; omega
            · have HREC := Lib.hid (fun (X : World) (C : Nat) (u : Value) (hu : OwnI X C u (bg ++ [i])) => HIH.out r (by have := HJ.out; omega) (bg ++ [i]) X C u (by have := HJ.out; have := HMN.out.1; omega) (by have := HMN.out.2; have := HJ.out; simp; omega) (fun b hb => by
                rcases List.mem_append.1 hb with hb | hb
                · exact HBD.out b hb
                · simp only [List.mem_singleton] at hb; subst hb; exact ⟨hi0, hi1⟩) (.inr ⟨by simp, by simp; have := HI.out; push_cast at this; omega⟩) hu)
              have HPL := Lib.hid (show P.length ≤ 1000000000 ∧ ((bg ++ [i]) :: ltR n (fun a b => neiB (n : Int) a b ring) r (bg ++ [i])).length ≤ 1000000000 by
                have e := congrArg List.length HPE.out
                have l1 := ltR_len (n := n) (nei := fun a b => neiB (n : Int) a b ring) m bg
                have l2 := ltR_len (n := n) (nei := fun a b => neiB (n : Int) a b ring) r (bg ++ [i])
                have p1 : 2 ^ m ≤ 2 ^ 20 := Nat.pow_le_pow_right (by decide) (by have := HMN.out.1; omega)
                have p2 : 2 ^ r ≤ 2 ^ 20 := Nat.pow_le_pow_right (by decide) (by have := HJ.out; have := HMN.out.1; omega)
                have p3 : (2 : Nat) ^ 20 = 1048576 := by decide
                simp only [List.length_append, List.length_cons] at e ⊢
                omega)
              go_wp2_with (first
                | (go_at_call 53; refine (HOWN.out _ HVR.out).mono ?_; rintro e w2 ⟨v2, rfl, ho2, hb2⟩; have HO2 := Lib.hid ho2; have HB2 := Lib.hid hb2)
                | (go_at_call 44; refine (HREC.out _ _ _ ho3).mono ?_; rintro e w4 ⟨v4, rfl, ho4, hb4⟩; have HO4 := Lib.hid ho4; have B34 := HB2.out.trans (((Gr.alloc (Gr.refl w2) _).below.mono HB2.out.size).trans HB3.out); have B4 := B34.trans (hb4.mono B34.size); have HB34 := Lib.hid B34; have HB4 := Lib.hid B4; clear B34 B4)
                | (at_builtin; refine wpList_appI rfl _ _ 29 rfl Try.underlying29 Try.infoI2 _ _ bg rfl (HO2.out.gr (Gr.alloc (Gr.refl _) _)) ⟨w2.heap.size, 0, none⟩ 1 1 [i] rfl rfl (fun j u hu => allocI rfl j u hu) (by have := HLL.out; omega) (by simp) (by have := HB2.out.size; simp; omega) ?_; intro v3 w3 ho3 hb3 _; have HB3 := Lib.hid hb3)
                | (at_builtin; go_loud (refine wpList_appZ rfl _ _ 22 rfl Try.underlying22 Try.infoS2 w.heap.size _ P rfl (OwnZ.kp HP.out (below_kp HB4.out)) w3.heap.size _ _ rfl HO4.out (by simp) (Nat.le_trans HBL.out.size HB34.out.size) HPL.out.1 HPL.out.2 (Nat.le_trans HBL.out.size HB4.out.size) ?_); intro v5 w5 ho5 hb5))
              have HO5 := Lib.hid ho5
              have HB5 := Lib.hid (HBL.out.trans ((HB4.out.mono HBL.out.size).trans hb5))
              clear ho5 hb5 ho3 hb3 ho2 hb2 ho4 hb4
              go_roundw
              case rel => exact ⟨r, _, by have := HI.out; go_num, by have := HJ.out; omega, HO5.out, by rw [← HPE.out, HDEF.out, hfr]; simp, HB5.out⟩
              case measure => have := HI.out; simp [intOf]; omega
  · obtain ⟨k, hk⟩ : ∃ k, bg.length = k + 1 := ⟨bg.length - 1, by have := List.length_pos_iff.2 hne; omega⟩
    obtain ⟨g0, rfl⟩ := OwnI.addr HV.out (by omega)
    have hlt : k < bg.length := by omega
    have hgd : bg.getD k 0 = (n : Int) - m - 1 := by
      rw [List.getLast?_eq_getElem?] at hlast
      rw [show bg.length - 1 = k by omega, List.getElem?_eq_getElem hlt] at hlast
      simp only [List.getD, List.getElem?_eq_getElem hlt, Option.getD_some]
      exact Option.some.inj hlast
    have e1 : (bg.length : Int) - 1 = (k : Int) := by omega
    have zk0 : (0 : Int) ≤ (k : Int) := by omega
    have zk1 : (k : Int) < (bg.length : Int) := by omega
    have hl0 : (0 : Int) < (bg.length : Int) := by omega
    have hl1 : 0 < bg.length := by omega
    have zm0 : (0 : Int) ≤ (n : Int) - m - 1 := by omega
    have HK := Lib.hid (And.intro hk hgd)
    clear hk hgd hne hlast
    go_enter Try.func44, Try.ntmps44
    go_wp2_with (go_at_call 53; refine (HOWN.out _ HV.out).mono ?_; rintro e w1 ⟨v1, rfl, ho1, hb1⟩; obtain ⟨A1, c1, rfl⟩ := ho1.form; have ck : (w1.alloc (.cells #[.slice A1 bg.length c1] 29)).cell? ⟨g0, k, none⟩ = some (.int .i64 ((n : Int) - m - 1)) := (by rw [← HK.out.2]; exact (((HV.out.below hb1 (Nat.le_refl _)).gr (Gr.alloc (Gr.refl _) _)).at rfl k hlt).1))
    clear ck
    have HSTART := Lib.hid (show OwnZ (w1.alloc (.cells #[.slice A1 bg.length c1] 29)) w.heap.size (.slice (some ⟨w1.heap.size, 0, none⟩) 1 1) [bg] from OwnZ.one (heap_alloc_new w1 _) hb1.size (ho1.mono (Nat.le_refl _) |>.gr (Gr.alloc (Gr.refl _) _)))
    have HB1 := Lib.hid (show Below w.heap.size w (w1.alloc (.cells #[.slice A1 bg.length c1] 29)) from hb1.alloc hb1.size _)
    clear ho1 hb1
    go_loopw [7, 10] (fun ov iv wr => ∃ (j : Nat) (P : List (List Int)), iv = .int .i64 ((n : Int) - j) ∧ j ≤ m ∧ OwnZ wr w.heap.size ov P ∧ P ++ ltR n (fun a b => neiB (n : Int) a b ring) j bg = bg :: ltR n (fun a b => neiB (n : Int) a b ring) m bg ∧ Below w.heap.size w wr) (fun _ i _ => ((n : Int) - intOf i).toNat)
    case atStart => exact ⟨m, [bg], by go_num, Nat.le_refl _, HSTART.out, rfl, HB1.out⟩
    case round =>
      obtain ⟨j, P, rfl, hj, hP, hPe, hbl⟩ := hrel
      have HP := Lib.hid hP
      have HPE := Lib.hid hPe
      have HBL := Lib.hid hbl
      obtain ⟨Ap, cp, rfl⟩ := hP.form
      clear hP hPe hbl
      rcases Nat.eq_zero_or_pos j with hj0 | hj0
      · subst hj0
        have z9 : ¬ ((n : Int) - ((0 : Nat) : Int) < (n : Int)) := by omega
        have z8 : (n : Int) - ((0 : Nat) : Int) = (n : Int) := by omega
        go_wp2
        go_ret
        exact ⟨_, rfl, by have := HPE.out; simp only [ltR, List.append_nil] at this; rw [← this]; exact HP.out, HBL.out⟩
      · obtain ⟨r, rfl⟩ : ∃ r, j = r + 1 := ⟨j - 1, by omega⟩
        obtain ⟨i, hi⟩ : ∃ i : Int, (n : Int) - ((r + 1 : Nat) : Int) = i := ⟨_, rfl⟩
        have hi0 : 0 ≤ i := by rw [← hi]; have := HMN.out.1; push_cast; omega
        have hi1 : i < (n : Int) := by rw [← hi]; push_cast; omega
        have HI := Lib.hid hi
        have HJ := Lib.hid hj
        simp only [hi]
        clear hi hj hj0
        have HVR := Lib.hid (OwnI.below HV.out HBL.out (Nat.le_refl _))
        obtain ⟨L, hL⟩ : ∃ L, bg.length = L := ⟨_, rfl⟩
        have HLL := Lib.hid hL
        simp only [hL] at HVR HOWN zl ⊢
        clear hL
        go_wp2_with fail
        rename World => wo
        go_loopw [11, 35] (fun fv tv wi => ∃ t : Nat, tv = .int .i64 t ∧ t ≤ L ∧ fv = .bool (frB (fun a b => neiB (n : Int) a b ring) (bg.take t) i) ∧ wi = wo) (fun _ t _ => L - (intOf t).toNat)
        case atStart => exact ⟨0, rfl, Nat.zero_le _, rfl, by trivial⟩
        case round =>
          obtain ⟨t, rfl, ht, rfl, rfl⟩ := hrel
          by_cases htl : t < L
          · have c0 := (HVR.out.at HLL.out t htl).1
            have htb : t < bg.length := by have := HLL.out; omega
            have hgd : bg.getD t 0 = bg[t] := by simp [List.getD, htb]
            have hbd := HBD.out bg[t] (by simp)
            rw [← hgd] at hbd
            have HFR := Lib.hid (show frB (fun a b => neiB (n : Int) a b ring) (bg.take (t + 1)) i = (frB (fun a b => neiB (n : Int) a b ring) (bg.take t) i && !neiB (n : Int) (bg.getD t 0) i ring) by
              unfold frB
              rw [List.take_succ_eq_append_getElem htb, hgd, List.all_append]
              simp only [List.all_cons, List.all_nil, Bool.and_true])
            generalize bg.getD t 0 = b at *
            generalize hfr : frB (fun a b => neiB (n : Int) a b ring) (bg.take t) i = f at *
            have HNX := Lib.hid (fun (X : World) => Try.rwNext (n : Int) b i ring X (by omega) (by omega) (by omega) _ rfl)
            generalize neiB (n : Int) b i ring = q at *
            have z0 : (0 : Int) ≤ (t : Int) := by omega
            have z1 : (t : Int) < (L : Int) := by omega
            clear hgd hbd hfr
            cases f
            · go_wp2_with fail
              go_roundw
              case rel => exact ⟨t + 1, by go_num, by omega, by rw [HFR.out]; rfl, by trivial⟩
              case measure => simp [intOf]; omega
            · go_wp2_with (go_at_call 54; refine (HNX.out _).mono ?_; rintro e w9 ⟨rfl, rfl⟩)
              go_roundw
              case rel => exact ⟨t + 1, by go_num, by omega, by rw [HFR.out]; cases q <;> rfl, by trivial⟩
              case measure => simp [intOf]; omega
          · obtain rfl : t = L := by omega
            have z1 : ¬ (t : Int) < (t : Int) := by omega
            rw [List.take_of_length_le (by have := HLL.out; omega)]
            have HDEF := Lib.hid (show ltR n (fun a b => neiB (n : Int) a b ring) (r + 1) bg = (if frB (fun a b => neiB (n : Int) a b ring) bg i = true then (bg ++ [i]) :: ltR n (fun a b => neiB (n : Int) a b ring) r (bg ++ [i]) else []) ++ ltR n (fun a b => neiB (n : Int) a b ring) r bg by rw [← HI.out]; rfl)
            cases hfr : frB (fun a b => neiB (n : Int) a b ring) bg i
            · go_wp2_with fail
              go_roundw
              case rel => exact ⟨r, P, by have := HI.out; go_num, by have := HJ.out; omega, HP.out, by rw [← HPE.out, HDEF.out, hfr]; simp, HBL.out⟩
              case measure => have := HI.out; simp [intOf]; omega
            · have HREC := Lib.hid (fun (X : World) (C : Nat) (u : Value) (hu : OwnI X C u (bg ++ [i])) => HIH.out r (by have := HJ.out; omega) (bg ++ [i]) X C u (by have := HJ.out; have := HMN.out.1; omega) (by have := HMN.out.2; have := HJ.out; simp; omega) (fun b hb => by
                rcases List.mem_append.1 hb with hb | hb
                · exact HBD.out b hb
                · simp only [List.mem_singleton] at hb; subst hb; exact ⟨hi0, hi1⟩) (.inr ⟨by simp, by simp; have := HI.out; push_cast at this; omega⟩) hu)
              have HPL := Lib.hid (show P.length ≤ 1000000000 ∧ ((bg ++ [i]) :: ltR n (fun a b => neiB (n : Int) a b ring) r (bg ++ [i])).length ≤ 1000000000 by
                have e := congrArg List.length HPE.out
                have l1 := ltR_len (n := n) (nei := fun a b => neiB (n : Int) a b ring) m bg
                have l2 := ltR_len (n := n) (nei := fun a b => neiB (n : Int) a b ring) r (bg ++ [i])
                have p1 : 2 ^ m ≤ 2 ^ 20 := Nat.pow_le_pow_right (by decide) (by have := HMN.out.1; omega)
                have p2 : 2 ^ r ≤ 2 ^ 20 := Nat.pow_le_pow_right (by decide) (by have := HJ.out; have := HMN.out.1; omega)
                have p3 : (2 : Nat) ^ 20 = 1048576 := by decide
                simp only [List.length_append, List.length_cons] at e ⊢
                omega)
              go_wp2_with (first
                | (go_at_call 53; refine (HOWN.out _ HVR.out).mono ?_; rintro e w2 ⟨v2, rfl, ho2, hb2⟩; have HO2 := Lib.hid ho2; have HB2 := Lib.hid hb2)
                | (go_at_call 44; refine (HREC.out _ _ _ ho3).mono ?_; rintro e w4 ⟨v4, rfl, ho4, hb4⟩; have HO4 := Lib.hid ho4; have B34 := HB2.out.trans (((Gr.alloc (Gr.refl w2) _).below.mono HB2.out.size).trans HB3.out); have B4 := B34.trans (hb4.mono B34.size); have HB34 := Lib.hid B34; have HB4 := Lib.hid B4; clear B34 B4)
                | (at_builtin; refine wpList_appI rfl _ _ 29 rfl Try.underlying29 Try.infoI2 _ _ bg rfl (HO2.out.gr (Gr.alloc (Gr.refl _) _)) ⟨w2.heap.size, 0, none⟩ 1 1 [i] rfl rfl (fun j u hu => allocI rfl j u hu) (by have := HLL.out; omega) (by simp) (by have := HB2.out.size; simp; omega) ?_; intro v3 w3 ho3 hb3 _; have HB3 := Lib.hid hb3)
                | (at_builtin; go_loud (refine wpList_appZ rfl _ _ 22 rfl Try.underlying22 Try.infoS2 w.heap.size _ P rfl (OwnZ.kp HP.out (below_kp HB4.out)) w3.heap.size _ _ rfl HO4.out (by simp) (Nat.le_trans HBL.out.size HB34.out.size) HPL.out.1 HPL.out.2 (Nat.le_trans HBL.out.size HB4.out.size) ?_); intro v5 w5 ho5 hb5))
              have HO5 := Lib.hid ho5
              have HB5 := Lib.hid (HBL.out.trans ((HB4.out.mono HBL.out.size).trans hb5))
              clear ho5 hb5 ho3 hb3 ho2 hb2 ho4 hb4
              go_roundw
              case rel => exact ⟨r, _, by have := HI.out; go_num, by have := HJ.out; omega, HO5.out, by rw [← HPE.out, HDEF.out, hfr]; simp, HB5.out⟩
              case measure => have := HI.out; simp [intOf]; omega
end Go.Proofs
