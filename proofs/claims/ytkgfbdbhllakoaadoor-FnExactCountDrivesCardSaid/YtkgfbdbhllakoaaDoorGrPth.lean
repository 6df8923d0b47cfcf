/-
  Plain mathematics of a search: how many ways of so many steps there are; the search counts the shortest ones. No program here.
-/
import Derived.Test.YtkgfbdbhllakoaaDoorGrSym
namespace Go.Proofs.Gm
open Go
set_option linter.unusedVariables false
set_option linter.unusedSimpArgs false
/-- four things added -/
def s4 (F : Nat → Nat) : Nat := F 0 + F 1 + F 2 + F 3
/-- N things added -/
def sm (F : Nat → Nat) : Nat → Nat
  | 0 => 0
  | k + 1 => sm F k + F k
theorem sm_congr {F G : Nat → Nat} {N : Nat} (h : ∀ w, w < N → F w = G w) : sm F N = sm G N := by
  induction N with
  | zero => rfl
  | succ N ih => simp only [sm]; rw [ih (fun w hw => h w (by omega)), h N (by omega)]
theorem sm_zero {F : Nat → Nat} {N : Nat} (h : ∀ w, w < N → F w = 0) : sm F N = 0 := by
  induction N with
  | zero => rfl
  | succ N ih => simp only [sm]; rw [ih (fun w hw => h w (by omega)), h N (by omega)]
theorem sm_add (F G : Nat → Nat) (N : Nat) : sm (fun w => F w + G w) N = sm F N + sm G N := by
  induction N with
  | zero => rfl
  | succ N ih => simp only [sm]; rw [ih]; omega
theorem sm_one {F : Nat → Nat} {N u : Nat} (hu : u < N) (h : ∀ w, w < N → w ≠ u → F w = 0) : sm F N = F u := by
  induction N with
  | zero => omega
  | succ N ih =>
    simp only [sm]
    by_cases e : u = N
    · subst e
      rw [sm_zero (fun w hw => h w (by omega) (by omega))]
      omega
    · rw [ih (by omega) (fun w hw hne => h w (by omega) hne), h N (by omega) (Ne.symm e)]
      omega
theorem s4_sm (G : Nat → Nat → Nat) (N : Nat) : s4 (fun i => sm (G i) N) = sm (fun w => s4 (fun i => G i w)) N := by
  unfold s4
  rw [sm_add, sm_add, sm_add]
/-- one may add by a list without repetition, where all others are 0 -/
theorem sm_list {F : Nat → Nat} {N : Nat} (q : List Nat) (hd : q.Nodup) (hq : ∀ u ∈ q, u < N) (h : ∀ w, w < N → w ∉ q → F w = 0) : sm F N = (q.map F).sum := by
  induction q generalizing F with
  | nil => exact sm_zero (fun w hw => h w hw (by simp))
  | cons u q ih =>
    obtain ⟨hu, hd'⟩ := List.nodup_cons.1 hd
    have e : sm F N = sm (fun w => if w = u then 0 else F w) N + sm (fun w => if w = u then F w else 0) N := by
      rw [← sm_add]
      refine sm_congr fun w _ => ?_
      by_cases c : w = u <;> simp [c]
    rw [e, ih hd' (fun w hw => hq w (by simp [hw])) (fun w hw hn => by
      by_cases c : w = u
      · simp [c]
      · rw [if_neg c]; exact h w hw (by simp [c, hn])), sm_one (u := u) (hq u (by simp)) (fun w _ hne => by simp [hne])]
    simp only [if_pos rfl, List.map_cons, List.sum_cons]
    have : q.map (fun w => if w = u then 0 else F w) = q.map F := List.map_congr_left fun w hw => by
      have c : w ≠ u := fun c => hu (by rw [← c]; exact hw)
      rw [if_neg c]
    rw [this]
    simp only [if_true]
    omega
section
variable {nb : Nat → Nat → Option Nat} {N s0 : Nat}
def ht (o : Option Nat) (v : Nat) : Nat := if o = some v then 1 else 0
/-- how many directions lead from one to another one -/
def ed (nb : Nat → Nat → Option Nat) (w v : Nat) : Nat := s4 (fun i => ht (nb w i) v)
/-- how many ways of n steps there are -/
def pth (nb : Nat → Nat → Option Nat) : Nat → Nat → Nat → Nat
  | 0, u, v => if u = v then 1 else 0
  | n + 1, u, v => s4 (fun i => match nb u i with | some w => pth nb n w v | none => 0)
theorem pth_succ (hv : ∀ n i v, n < N → nb n i = some v → v < N) : ∀ (n u v : Nat), u < N → pth nb (n + 1) u v = sm (fun w => pth nb n u w * ed nb w v) N := by
  intro n
  induction n with
  | zero =>
    intro u v hu
    rw [sm_one hu (fun w _ hne => by simp [pth, Ne.symm hne])]
    simp only [pth, ed, if_true, Nat.one_mul]
    unfold s4 ht
    have k : ∀ i, (match nb u i with | some w => if w = v then 1 else 0 | none => 0) = if nb u i = some v then 1 else 0 := fun i => by
      cases h : nb u i with
      | none => simp
      | some w => simp
    show (match nb u 0 with | some w => if w = v then 1 else 0 | none => 0) + (match nb u 1 with | some w => if w = v then 1 else 0 | none => 0) + (match nb u 2 with | some w => if w = v then 1 else 0 | none => 0) + (match nb u 3 with | some w => if w = v then 1 else 0 | none => 0) = _
    rw [k, k, k, k]
  | succ n ih =>
    intro u v hu
    have e : pth nb (n + 1 + 1) u v = s4 (fun i => sm (fun w => (match nb u i with | some x => pth nb n x w | none => 0) * ed nb w v) N) := by
      show s4 (fun i => match nb u i with | some w => pth nb (n + 1) w v | none => 0) = _
      congr 1
      funext i
      cases h : nb u i with
      | none => simp only []; rw [sm_zero (fun w _ => by simp)]
      | some x => exact ih x v (hv u i x hu h)
    rw [e, s4_sm]
    refine sm_congr fun w _ => ?_
    show _ = s4 (fun i => match nb u i with | some x => pth nb n x w | none => 0) * ed nb w v
    unfold s4
    rw [Nat.add_mul, Nat.add_mul, Nat.add_mul]
/-- what can be gone is found, no farther -/
theorem pth_pos (hv : ∀ n i v, n < N → nb n i = some v → v < N) {F : Nat → Int} (hF : Dist nb N s0 F) (hs : s0 < N) : ∀ (n v : Nat), v < N → pth nb n s0 v ≠ 0 → 0 ≤ F v ∧ F v ≤ n := by
  intro n
  induction n with
  | zero =>
    intro v hvN h
    simp only [pth] at h
    have : s0 = v := Decidable.byContradiction fun c => h (by rw [if_neg c])
    rw [← this, hF.f0]
    omega
  | succ n ih =>
    intro v hvN h
    rw [pth_succ hv n s0 v hs] at h
    have : ∃ w, w < N ∧ pth nb n s0 w * ed nb w v ≠ 0 := Decidable.byContradiction fun c => h (sm_zero fun w hw => Decidable.byContradiction fun d => c ⟨w, hw, d⟩)
    obtain ⟨w, hw, hp⟩ := this
    obtain ⟨a, b⟩ := ih w hw (fun e => hp (by rw [e, Nat.zero_mul]))
    have he : ed nb w v ≠ 0 := fun e => hp (by rw [e, Nat.mul_zero])
    have : ∃ i, i < 4 ∧ nb w i = some v := by
      refine Decidable.byContradiction fun c => he ?_
      have z : ∀ i, i < 4 → ht (nb w i) v = 0 := fun i hi => by unfold ht; rw [if_neg (fun q => c ⟨i, hi, q⟩)]
      show ht (nb w 0) v + ht (nb w 1) v + ht (nb w 2) v + ht (nb w 3) v = 0
      rw [z 0 (by omega), z 1 (by omega), z 2 (by omega), z 3 (by omega)]
    obtain ⟨i, hi, e⟩ := this
    have := hF.re w i v hw hi a e
    omega
/-- what is found stays found -/
structure Ext (s t : St) : Prop where
  f : ∀ x, 0 ≤ f s x → f t x = f s x
  q : ∀ a, a < s.q.length → t.q.getD a 0 = s.q.getD a 0
  l : s.q.length ≤ t.q.length
theorem Ext.refl (s : St) : Ext s s := ⟨fun _ _ => rfl, fun _ _ => rfl, Nat.le_refl _⟩
theorem Ext.trans {s t r : St} (h : Ext s t) (k : Ext t r) : Ext s r :=
  ⟨fun x hx => by rw [k.f x (by rw [h.f x hx]; exact hx), h.f x hx], fun a ha => by rw [k.q a (Nat.lt_of_lt_of_le ha h.l), h.q a ha], Nat.le_trans h.l k.l⟩
theorem ext_visit {s : St} {u : Nat} {o : Option Nat} (h : Inv N s) (ho : ∀ m, o = some m → m < N) : Ext s (visit u s o) := by
  cases o with
  | none => exact Ext.refl s
  | some m =>
    have hm := ho m rfl
    refine ⟨fun x hx => f_keep h hm x hx, fun a ha => ?_, ?_⟩
    · rw [q_visit]; split
      · exact app_lo _ _ _ ha
      · rfl
    · rw [q_visit]; split
      · simp
      · exact Nat.le_refl _
variable {s : St} {u k : Nat}
theorem ext_scan (hv : ∀ n i v, n < N → nb n i = some v → v < N) (h : Bf nb N s0 s k 0) (hk : k < s.q.length) (hu : s.q.getD k 0 = u) (j : Nat) : ∀ i, j + i ≤ 4 → Ext (scan nb u s j) (scan nb u s (j + i)) := by
  intro i
  induction i with
  | zero => intro _; exact Ext.refl _
  | succ i ih =>
    intro hi
    refine (ih (by omega)).trans ?_
    obtain ⟨b, _, _, _⟩ := h.scan hv hk hu (j + i) (by omega)
    have huN : u < N := by rw [← hu]; exact h.inv.qn _ (getD_mem _ _ hk)
    exact ext_visit b.inv (fun m e => hv u (j + i) m huN e)
theorem run_bf' (hv : ∀ n i v, n < N → nb n i = some v → v < N) (hs : s0 < N) (hk : k < (run nb N s0 k).q.length) : Bf nb N s0 (run nb N s0 k) k 0 := by
  rcases run_bf hv hs k with ⟨_, b⟩ | ⟨a, _⟩
  · exact b
  · omega
theorem run_next (hk : k < (run nb N s0 k).q.length) : run nb N s0 (k + 1) = scan nb ((run nb N s0 k).q.getD k 0) (run nb N s0 k) 4 := by
  simp only [run]; rw [if_pos hk]
theorem ext_run (hv : ∀ n i v, n < N → nb n i = some v → v < N) (hs : s0 < N) (k : Nat) : ∀ i, Ext (run nb N s0 k) (run nb N s0 (k + i)) := by
  intro i
  induction i with
  | zero => exact Ext.refl _
  | succ i ih =>
    refine ih.trans ?_
    by_cases hk : k + i < (run nb N s0 (k + i)).q.length
    · rw [show k + (i + 1) = k + i + 1 from rfl, run_next hk]
      exact ext_scan hv (run_bf' hv hs hk) hk rfl 0 4 (by omega)
    · rw [show run nb N s0 (k + (i + 1)) = run nb N s0 (k + i) from by show run nb N s0 (k + i + 1) = _; simp only [run]; rw [if_neg hk]]
      exact Ext.refl _
theorem ext_fin (hv : ∀ n i v, n < N → nb n i = some v → v < N) (hs : s0 < N) (hk : k ≤ N) : Ext (run nb N s0 k) (fin nb N s0) := by
  have := ext_run (nb := nb) hv hs k (N - k)
  rwa [show k + (N - k) = N by omega] at this
/-- some directions -/
def edp (nb : Nat → Nat → Option Nat) (w v : Nat) : Nat → Nat
  | 0 => 0
  | j + 1 => edp nb w v j + ht (nb w j) v
theorem edp_all (w v : Nat) : edp nb w v 4 = ed nb w v := by simp [edp, ed, s4]
theorem edp_zero {w v j : Nat} (h : ∀ i, i < j → nb w i ≠ some v) : edp nb w v j = 0 := by
  induction j with
  | zero => rfl
  | succ j ih => simp only [edp]; rw [ih (fun i hi => h i (by omega))]; unfold ht; rw [if_neg (h j (by omega))]
/-- what is added up so far, told by what is found at last -/
def trm (nb : Nat → Nat → Option Nat) (F : Nat → Int) (s0 v w : Nat) : Nat := if F w + 1 = F v then pth nb (F w).toNat s0 w * ed nb w v else 0
def tt (nb : Nat → Nat → Option Nat) (F : Nat → Int) (Q : List Nat) (s0 k j v : Nat) : Nat :=
  (if v = s0 then 1 else 0) + ((Q.take k).map (trm nb F s0 v)).sum + (if F (Q.getD k 0) + 1 = F v then pth nb (F (Q.getD k 0)).toNat s0 (Q.getD k 0) * edp nb (Q.getD k 0) v j else 0)
theorem tt_next {F : Nat → Int} {Q : List Nat} {v : Nat} (hk : k < Q.length) : tt nb F Q s0 k 4 v = tt nb F Q s0 (k + 1) 0 v := by
  unfold tt
  rw [edp_all, ← List.take_append_getElem hk, List.map_append, List.sum_append]
  have e : Q.getD k 0 = Q[k] := by simp [List.getD, hk]
  rw [e]
  simp only [edp, Nat.mul_zero, ite_self, List.map_cons, List.map_nil, List.sum_cons, List.sum_nil]
  show _ + (if F Q[k] + 1 = F v then pth nb (F Q[k]).toNat s0 Q[k] * ed nb Q[k] v else 0) = _ + (_ + (trm nb F s0 v Q[k] + 0)) + 0
  unfold trm
  omega
theorem sum_zero {l : List Nat} {G : Nat → Nat} (h : ∀ w ∈ l, G w = 0) : (l.map G).sum = 0 := by
  induction l with
  | nil => rfl
  | cons x l ih => simp only [List.map_cons, List.sum_cons]; rw [h x (by simp), ih (fun w hw => h w (by simp [hw]))]
/-- the counts, so far -/
def Wv (nb : Nat → Nat → Option Nat) (N s0 : Nat) (s : St) (k j : Nat) : Prop :=
  ∀ v, v < N → 0 ≤ f s v → g s v = IntKind.i64.wrap (tt nb (f (fin nb N s0)) (fin nb N s0).q s0 k j v : Nat)
theorem mem_take {Q : List Nat} {w : Nat} (h : w ∈ Q.take k) : ∃ a, a < k ∧ a < Q.length ∧ Q.getD a 0 = w := by
  obtain ⟨a, ha, e⟩ := List.mem_iff_getElem.1 h
  rw [List.length_take] at ha
  refine ⟨a, by omega, by omega, ?_⟩
  rw [List.getElem_take] at e
  simp only [List.getD, List.getElem?_eq_getElem (show a < Q.length by omega), Option.getD_some, e]
theorem wrap_wrap_add (a b : Nat) : IntKind.i64.wrap (IntKind.i64.wrap (a : Int) + IntKind.i64.wrap (b : Int)) = IntKind.i64.wrap ((a + b : Nat) : Int) := by
  simp only [IntKind.wrap_i64]; (try unfold wrap64); push_cast; omega
theorem Wv.visit {j : Nat} (hv : ∀ n i v, n < N → nb n i = some v → v < N) (h : Bf nb N s0 s k j) (hk : k < s.q.length) (hj : j < 4) (hu : s.q.getD k 0 = u)
    (hE : Ext (Gm.visit u s (nb u j)) (fin nb N s0)) (hg : g s u = IntKind.i64.wrap (pth nb (f s u).toNat s0 u : Nat)) (hW : Wv nb N s0 s k j) :
    Wv nb N s0 (Gm.visit u s (nb u j)) k (j + 1) ∧ g (Gm.visit u s (nb u j)) u = g s u := by
  have hum : u ∈ s.q := hu ▸ getD_mem _ _ hk
  have huN := h.inv.qn u hum
  have hu0 := (h.inv.fq u huN).2 hum
  have hE0 : Ext s (fin nb N s0) := (ext_visit h.inv (fun m e => hv u j m huN e)).trans hE
  have hQk : (fin nb N s0).q.getD k 0 = u := by rw [hE0.q k hk, hu]
  have hFu : f (fin nb N s0) u = f s u := hE0.f u hu0
  cases hnb : nb u j with
  | none =>
    refine ⟨fun v hvN hv0 => ?_, rfl⟩
    have := hW v hvN hv0
    unfold tt at this ⊢
    simp only [edp]
    rw [hQk] at this ⊢
    rw [hnb]
    show g s v = _
    simpa [ht] using this
  | some m =>
    have hm : m < N := hv u j m huN hnb
    rw [hnb] at hE
    have hfv := f_visit (u := u) h.inv hm
    have hgv := g_visit (u := u) h.inv hm
    have hmF := hE.f m
    refine ⟨fun v hvN hv0 => ?_, ?_⟩
    · unfold tt
      simp only [edp]
      rw [hQk, hnb, hFu]
      by_cases e : m = v
      · subst e
        by_cases hn : f s m < 0
        · have f1 : f (Gm.visit u s (some m)) m = f s u + 1 := by rw [hfv, if_pos ⟨rfl, hn⟩]
          have f2 : f (fin nb N s0) m = f s u + 1 := by rw [hmF (by rw [f1]; omega), f1]
          have m0 : m ≠ s0 := fun e => by rw [e, h.f0] at hn; omega
          have z1 : edp nb u m j = 0 := edp_zero fun i hi e => by
            have := (h.re k i m hk (by omega) (.inr ⟨rfl, hi⟩) (by rw [hu]; exact e)).1
            omega
          have z2 : (((fin nb N s0).q.take k).map (trm nb (f (fin nb N s0)) s0 m)).sum = 0 := sum_zero fun w hw => by
            obtain ⟨a, ha, _, e⟩ := mem_take hw
            rw [hE0.q a (by omega)] at e
            unfold trm
            have : ed nb w m = 0 := by
              rw [← edp_all]
              refine edp_zero fun i hi e2 => ?_
              have := (h.re a i m (by omega) hi (.inl ha) (by rw [e]; exact e2)).1
              omega
            rw [this, Nat.mul_zero]; simp
          rw [f2, z1, z2, if_neg m0, if_pos rfl]
          rw [hgv, if_pos ⟨rfl, .inl hn⟩, h.inv.w0 m hm hn, hg]
          simp only [ht, if_true, Nat.zero_add, Nat.mul_one]
          have := wrap_wrap_add 0 (pth nb (f s u).toNat s0 u)
          rw [show IntKind.i64.wrap ((0 : Nat) : Int) = 0 from by decide, Nat.zero_add] at this
          exact this
        · have f2 : f (fin nb N s0) m = f s m := hE0.f m (by omega)
          have hw := hW m hm (by omega)
          unfold tt at hw
          rw [hQk, hFu, f2] at hw
          rw [f2]
          by_cases hc : f s m = f s u + 1
          · rw [hgv, if_pos ⟨rfl, .inr hc⟩, hw, hg, if_pos hc.symm, if_pos hc.symm, wrap_wrap_add]
            simp only [ht, if_true, Nat.mul_add, Nat.mul_one, Nat.add_assoc]
          · rw [hgv, if_neg (fun x => x.2.elim hn hc), hw, if_neg (Ne.symm hc), if_neg (Ne.symm hc)]
      · have f1 : f (Gm.visit u s (some m)) v = f s v := by rw [hfv, if_neg (fun x => e x.1)]
        rw [f1] at hv0
        have hw := hW v hvN hv0
        unfold tt at hw
        rw [hQk, hFu] at hw
        rw [hgv, if_neg (fun x => e x.1), hw]
        have : ht (some m) v = 0 := by unfold ht; rw [if_neg (fun x => e (Option.some.inj x))]
        rw [this, Nat.add_zero]
    · rw [hgv, if_neg]
      rintro ⟨rfl, x | x⟩
      · omega
      · omega
theorem ed_pos {w v : Nat} (h : ed nb w v ≠ 0) : ∃ i, i < 4 ∧ nb w i = some v := by
  refine Decidable.byContradiction fun c => h ?_
  have z : ∀ i, i < 4 → ht (nb w i) v = 0 := fun i hi => by unfold ht; rw [if_neg (fun q => c ⟨i, hi, q⟩)]
  show ht (nb w 0) v + ht (nb w 1) v + ht (nb w 2) v + ht (nb w 3) v = 0
  rw [z 0 (by omega), z 1 (by omega), z 2 (by omega), z 3 (by omega)]
/-- where all that lead there are looked at, all ways are counted -/
theorem tt_fin (hv : ∀ n i v, n < N → nb n i = some v → v < N) (hs : s0 < N) {v : Nat} (hvN : v < N) (h0 : 0 ≤ f (fin nb N s0) v)
    (hp : ∀ w, w < N → 0 ≤ f (fin nb N s0) w → f (fin nb N s0) w + 1 = f (fin nb N s0) v → w ∈ (fin nb N s0).q.take k) :
    tt nb (f (fin nb N s0)) (fin nb N s0).q s0 k 0 v = pth nb (f (fin nb N s0) v).toNat s0 v := by
  have hD := fin_dist hv hs
  have hI := (fin_bf hv hs).inv
  have hin : ∀ w ∈ (fin nb N s0).q.take k, w < N ∧ 0 ≤ f (fin nb N s0) w := fun w hw => by
    have hq := List.mem_of_mem_take hw
    exact ⟨hI.qn w hq, (hI.fq w (hI.qn w hq)).2 hq⟩
  unfold tt
  simp only [edp, Nat.mul_zero, ite_self, Nat.add_zero]
  generalize hF : f (fin nb N s0) = F at *
  rcases Int.lt_or_le 0 (F v) with c | c
  · obtain ⟨n, hn⟩ : ∃ n : Nat, F v = n + 1 := ⟨(F v - 1).toNat, by omega⟩
    have hne : v ≠ s0 := fun e => by rw [e, hD.f0] at hn; omega
    have key : ∀ w, w < N → pth nb n s0 w * ed nb w v ≠ 0 → 0 ≤ F w ∧ F w = n := fun w hw hz => by
      obtain ⟨a, b⟩ := pth_pos hv hD hs n w hw (fun e => hz (by rw [e, Nat.zero_mul]))
      obtain ⟨i, hi, e⟩ := ed_pos (fun e => hz (by rw [e, Nat.mul_zero]))
      have := hD.re w i v hw hi a e
      omega
    rw [if_neg hne, show (F v).toNat = n + 1 by omega, pth_succ hv n s0 v hs, Nat.zero_add]
    rw [sm_list ((fin nb N s0).q.take k) (hI.nd.sublist (List.take_sublist _ _)) (fun w hw => (hin w hw).1) (fun w hw hnot => Decidable.byContradiction fun hz => by
      obtain ⟨a, b⟩ := key w hw hz
      exact hnot (hp w hw a (by omega)))]
    congr 1
    refine List.map_congr_left fun w hw => ?_
    obtain ⟨a, b⟩ := hin w hw
    unfold trm
    by_cases e : F w + 1 = F v
    · rw [if_pos e, show (F w).toNat = n by omega]
    · rw [if_neg e]
      exact (Decidable.byContradiction fun hz => by
        have := (key w a (Ne.symm hz)).2
        omega)
  · have e0 : F v = 0 := by omega
    have e1 : v = s0 := hD.z v hvN e0
    rw [if_pos e1, e0, sum_zero fun w hw => by
      obtain ⟨a, b⟩ := hin w hw
      unfold trm
      rw [if_neg (by omega)]]
    simp [pth, e1]
theorem Wv.scan (hv : ∀ n i v, n < N → nb n i = some v → v < N) (hs : s0 < N) (hkN : k < N) (h : Bf nb N s0 s k 0) (hk : k < s.q.length) (hu : s.q.getD k 0 = u) (hE : Ext (scan nb u s 4) (fin nb N s0))
    (hg : g s u = IntKind.i64.wrap (pth nb (f s u).toNat s0 u : Nat)) (hW : Wv nb N s0 s k 0) : ∀ j, j ≤ 4 → Wv nb N s0 (scan nb u s j) k j ∧ g (scan nb u s j) u = g s u := by
  intro j
  induction j with
  | zero => intro _; exact ⟨hW, rfl⟩
  | succ j ih =>
    intro hj
    obtain ⟨w1, w2⟩ := ih (by omega)
    obtain ⟨b1, b2, b3, b4⟩ := h.scan hv hk hu j (by omega)
    have hum : u ∈ s.q := hu ▸ getD_mem _ _ hk
    have hu0 := (h.inv.fq u (h.inv.qn u hum)).2 hum
    have e : Ext (Gm.scan nb u s (j + 1)) (fin nb N s0) := by
      have := ext_scan hv h hk hu (j + 1) (3 - j) (by omega)
      rw [show j + 1 + (3 - j) = 4 by omega] at this
      exact this.trans hE
    obtain ⟨z1, z2⟩ := Wv.visit hv b1 b3 (by omega) b2 e (by rw [w2, b4 u hu0]; exact hg) w1
    exact ⟨z1, by show g (Gm.visit u (Gm.scan nb u s j) (nb u j)) u = _; rw [z2, w2]⟩
theorem wv_run (hv : ∀ n i v, n < N → nb n i = some v → v < N) (hs : s0 < N) : ∀ k, k ≤ N → k ≤ (run nb N s0 k).q.length → Wv nb N s0 (run nb N s0 k) k 0 := by
  intro k
  induction k with
  | zero =>
    intro _ _ v hvN hv0
    obtain ⟨hI, hf, hg⟩ := start_inv hs
    have hE : Ext (start N s0) (fin nb N s0) := ext_fin (k := 0) hv hs (Nat.zero_le _)
    have : v = s0 := by
      have := (hI.fq v hvN).1 hv0
      simpa [start] using this
    subst this
    show g (start N v) v = _
    rw [hg]
    simp only [tt, edp, List.take_zero, List.map_nil, List.sum_nil, if_true, Nat.mul_zero, ite_self]
    decide
  | succ k ih =>
    intro hkN hk
    by_cases hlt : k < (run nb N s0 k).q.length
    · have hW := ih (by omega) (by omega)
      have hb := run_bf' hv hs hlt
      have hE := ext_fin (nb := nb) (k := k + 1) hv hs hkN
      have hE0 := ext_fin (nb := nb) (k := k) hv hs (by omega)
      rw [run_next hlt] at hE ⊢
      have hum := getD_mem _ _ hlt
      generalize hu : (run nb N s0 k).q.getD k 0 = u at *
      have huN := hb.inv.qn u hum
      have hu0 := (hb.inv.fq u huN).2 hum
      have hFu := hE0.f u hu0
      have hQk : (fin nb N s0).q.getD k 0 = u := by rw [hE0.q k hlt, hu]
      have hfin := fin_bf hv hs
      have hpre := tt_fin (k := k) hv hs huN (by rw [hFu]; exact hu0) (fun w hw hw0 e => by
        obtain ⟨a, ha, ea⟩ := mem_getD _ _ ((hfin.inv.fq w hw).1 hw0)
        have hkQ : k < (fin nb N s0).q.length := Nat.lt_of_lt_of_le hlt hE0.l
        have hak : a < k := Nat.lt_of_not_le fun c => by
          have := hfin.so k a c ha
          rw [hQk, ea] at this
          omega
        refine List.mem_iff_getElem.2 ⟨a, by rw [List.length_take]; omega, ?_⟩
        rw [List.getElem_take]
        simpa [List.getD, ha] using ea)
      have hg := hW u huN hu0
      rw [hpre, hFu] at hg
      obtain ⟨z1, _⟩ := Wv.scan hv hs (by omega) hb hlt hu hE hg hW 4 (Nat.le_refl _)
      intro v hvN hv0
      rw [← tt_next (Nat.lt_of_lt_of_le hlt hE0.l)]
      exact z1 v hvN hv0
    · have : run nb N s0 (k + 1) = run nb N s0 k := by simp only [run]; rw [if_neg hlt]
      rw [this] at hk
      omega
/-- the search counts the shortest ways -/
theorem fin_ways (hv : ∀ n i v, n < N → nb n i = some v → v < N) (hs : s0 < N) {v : Nat} (hvN : v < N) (h0 : 0 ≤ f (fin nb N s0) v) :
    g (fin nb N s0) v = IntKind.i64.wrap (pth nb (f (fin nb N s0) v).toNat s0 v : Nat) := by
  have hlen := (fin_bf hv hs).inv.len
  have he : run nb N s0 (fin nb N s0).q.length = fin nb N s0 := by
    rcases run_bf hv hs N with ⟨a, b⟩ | ⟨a, i, hi, e1, e2, e3⟩
    · have e : (fin nb N s0).q.length = N := by unfold fin; unfold fin at hlen; omega
      rw [e]; rfl
    · have e : fin nb N s0 = run nb N s0 i := e1
      rw [e, ← e2]
  have hW := wv_run hv hs (fin nb N s0).q.length hlen (by rw [he]; exact Nat.le_refl _)
  rw [he] at hW
  rw [hW v hvN h0, tt_fin hv hs hvN h0 (fun w hw hw0 _ => by
    rw [List.take_length]
    exact ((fin_bf hv hs).inv.fq w hw).1 hw0)]
end
end Go.Proofs.Gm
