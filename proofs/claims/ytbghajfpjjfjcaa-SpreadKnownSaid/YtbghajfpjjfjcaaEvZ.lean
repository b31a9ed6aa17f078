/- An evaluator of closed Go code, part 24: a function's body in pieces, each evaluated by itself. -/
import Derived.Test.YtbghajfpjjfjcaaEvY
set_option linter.unusedSimpArgs false
set_option linter.unusedVariables false
namespace Go.Ev
open Go Go.RowKit
variable [Rho]

theorem Step.restrict {lo hi : Nat} {γ γ' : Gam} {h h' h'' : Hp} {w w' : World} (st : Step lo hi γ h w γ' h' w') (hs : ∀ id, h'' id = h' id ∨ h'' id = .dead) : Step lo hi γ h w γ' h'' w' := by
  refine ⟨st.le, st.dom, st.size, st.frame, fun B ⟨id, O, C, h1, h2⟩ => st.own B ⟨id, O, C, ?_, h2⟩, st.sat.sub hs, st.os, st.tape, st.output, fun id a1 a2 => ?_⟩
  · rcases hs id with e | e
    · rw [← e]; exact h1
    · rw [e] at h1; cases h1
  · rcases hs id with e | e
    · rw [e] at a1 a2 ⊢; exact st.ro id a1 a2
    · rw [e] at a1; cases a1

/-- Only some blocks are kept. -/
def keepB (s : St) : List Nat → PT AB → PT AB
  | [], acc => acc
  | id :: ids, acc => keepB s ids (cond (Nat.blt id hmax) (PT.set hdep acc id (s.raw id)) acc)
omit [Rho] in
theorem keepB_ok (s : St) : ∀ (ids : List Nat) (acc : PT AB), (∀ id, id < hmax → (PT.get hdep acc id).getD .dead = s.raw id ∨ (PT.get hdep acc id).getD .dead = .dead) →
    ∀ id, id < hmax → (PT.get hdep (keepB s ids acc) id).getD .dead = s.raw id ∨ (PT.get hdep (keepB s ids acc) id).getD .dead = .dead
  | [], acc, h => h
  | x :: ids, acc, h => keepB_ok s ids _ (fun id hid => by
      cases hx : Nat.blt x hmax with
      | false => exact h id hid
      | true =>
        rw [cond_true, PT.get_set hdep acc x id _ (Nat.le_of_ble_eq_true hx) hid]
        by_cases he : id = x
        · subst he; rw [if_pos rfl]; exact .inl rfl
        · rw [if_neg he]; exact h id hid)
def St.keep (s : St) (ids : List Nat) : St := ⟨keepB s ids .nil, s.next, [], s.thr, s.allow⟩
omit [Rho] in
theorem St.keep_raw (s : St) (ids : List Nat) (id : Nat) : (s.keep ids).raw id = s.raw id ∨ (s.keep ids).raw id = .dead := by
  obtain ⟨h, n, wr, thr, allow⟩ := s
  simp only [St.keep, St.raw]
  cases hb : Nat.blt id hmax with
  | false => exact .inr rfl
  | true =>
    have := keepB_ok ⟨h, n, wr, thr, allow⟩ ids .nil (fun id _ => by rw [PT.get_nil]; exact .inr rfl) id (Nat.le_of_ble_eq_true hb)
    simpa [St.raw, hb] using this
omit [Rho] in
theorem St.keep_at (s : St) (ids : List Nat) (id : Nat) : (s.keep ids).at id = s.at id ∨ (s.keep ids).at id = .dead := by
  have hse : (s.keep ids).sees id = s.sees id := by obtain ⟨h, n, wr, thr, allow⟩ := s; rfl
  unfold St.at
  rw [hse]
  cases s.sees id with
  | false => exact .inl rfl
  | true => exact St.keep_raw s ids id
omit [Rho] in
theorem St.keep_wf {s : St} (h : s.Wf) (ids : List Nat) : (s.keep ids).Wf := ⟨h.thr, fun id hid => by
  rcases St.keep_raw s ids id with e | e
  · rw [e]; exact h.fresh id hid
  · exact e⟩

/-- Only some temporaries are kept. -/
def keepT (T : Tm) : List Nat → PT Value → PT Value
  | [], acc => acc
  | t :: ts, acc => keepT T ts (match tget T t with
    | some v => PT.set T.d acc t v
    | none => acc)
omit [Rho] in
theorem keepT_ok {T : Tm} (hd : T.n ≤ 2 ^ T.d) : ∀ (ts : List Nat) (acc : PT Value), (∀ t v, tget ⟨acc, T.n, T.d⟩ t = some v → tget T t = some v) → ∀ t v, tget ⟨keepT T ts acc, T.n, T.d⟩ t = some v → tget T t = some v
  | [], acc, h => h
  | x :: ts, acc, h => keepT_ok hd ts _ (fun t v hv => by
      cases hx : tget T x with
      | none => rw [hx] at hv; exact h t v hv
      | some u =>
        rw [hx] at hv
        have ht := tget_lt hv
        have ht' : t < T.n := ht
        have hx' := tget_lt hx
        simp only [tget, show Nat.blt t T.n = true from Nat.ble_eq_true_of_le ht', cond_true] at hv
        rw [PT.get_set T.d acc x t u (Nat.lt_of_lt_of_le hx' hd) (Nat.lt_of_lt_of_le ht' hd)] at hv
        by_cases he : t = x
        · subst he; rw [if_pos rfl] at hv; injection hv with hv; subst hv; exact hx
        · rw [if_neg he] at hv
          exact h t v (by simp only [tget, show Nat.blt t T.n = true from Nat.ble_eq_true_of_le ht', cond_true]; exact hv))
def Fr.keep (fr : Fr) (ts : List Nat) : Fr := ⟨⟨keepT fr.T ts .nil, fr.T.n, fr.T.d⟩, fr.D⟩
theorem Fr.keep_rel {γ : Gam} {fr : Fr} {a : Act} (h : FrRel γ fr a) (ts : List Nat) : FrRel γ (fr.keep ts) a :=
  ⟨⟨h.1.1, rfl, h.1.2.2.1, fun t v hv => h.1.2.2.2 t v (keepT_ok h.1.2.2.1 ts .nil (fun t v hv => by
    simp only [tget, PT.get_nil] at hv
    cases hb : Nat.blt t fr.T.n with
    | true => rw [hb] at hv; cases hv
    | false => rw [hb] at hv; cases hv) t v hv)⟩, h.2⟩

/-- Behind a piece: what is kept: some temporaries, and what can be reached from them. -/
def keepS (ts : List Nat) (fr : Fr) (s : St) : Fr × St := (fr.keep ts, s.keep (reachN s 100000 (fr.D ++ namesL (PT.vals fr.T.d (keepT fr.T ts .nil) []) []) []))

/-- A body's rest ends as the function does, with a value. -/
def Ends (P : Program) (e : Env) (fn : Func) (c : Code) (fr : Fr) (s : St) (v : Value) : Prop :=
  ∃ ex fr2 s2, retK e fn (fun v _ => some v) ex fr2 s2 = some v ∧ s2.Wf ∧ s.next ≤ s2.next ∧ CodeOk P c none fr s ex fr2 s2

theorem Ends.last {P : Program} {e : Env} (he : Env.Ok P e) {fn : Func} {c : Code} {fr : Fr} {s : St} {v : Value} {n : Nat} (hw : s.Wf) (h : ev P e n (.code c none fr s (retK e fn fun v _ => some v)) = some v) : Ends P e fn c fr s v := by
  obtain ⟨ex, fr2, s2, hk, hraw, hok⟩ := ev_ok he n _ _ h hw
  exact ⟨ex, fr2, s2, hk, hraw.wf, hraw.next, hok⟩

theorem Ends.keep {P : Program} {e : Env} {fn : Func} {b : Code} {fr : Fr} {s : St} {v : Value} {ids ts : List Nat} (hb : Ends P e fn b (fr.keep ts) (s.keep ids) v) : Ends P e fn b fr s v := by
  obtain ⟨ex2, fr2, s2, hr, hw2, hn, hok2⟩ := hb
  have hn' : s.next ≤ s2.next := hn
  refine ⟨ex2, fr2, s2, hr, hw2, hn', fun γ act w roC hro hfr hS hfresh Q hQ => ?_⟩
  have st1 : Step s.next (s.keep ids).next γ s.at w γ (s.keep ids).at w := (Step.refl hS).restrict (St.keep_at s ids)
  exact hok2 γ act w roC hro (Fr.keep_rel hfr ts) st1.sat (fun id a b => hfresh id a b) Q (fun γ2 a2 w2 st2 hf2 => hQ γ2 a2 w2 (st1.trans (Nat.le_refl _) hn' st2) hf2)

theorem Ends.step {P : Program} {e : Env} {fn : Func} {a b : Code} {fr fr' : Fr} {s s' : St} {v : Value} (hraw : Raw s s') (hok : CodeOk P a none fr s .normal fr' s') (hb : Ends P e fn b fr' s' v) : Ends P e fn (.seq a b) fr s v := by
  obtain ⟨ex2, fr2, s2, hr, hw2, hn, hok2⟩ := hb
  refine ⟨ex2, fr2, s2, hr, hw2, Nat.le_trans hraw.next hn, fun γ act w roC hro hfr hS hfresh Q hQ => wpIn_seq (hok γ act w roC hro hfr hS (hfresh.left hn) _ (fun γ1 a1 w1 st1 hf1 => ?_))⟩
  exact hok2 γ1 a1 w1 roC (hro.mono st1.le) hf1 st1.sat (Fresh.right (s1 := s') hfresh hraw.next st1) Q (fun γ2 a2 w2 st2 hf2 => hQ γ2 a2 w2 (st1.trans hraw.next hn st2) hf2)

/-! ### a code's first statements, and its rest -/
def takeC : Nat → Code → List Code
  | 0, _ => []
  | m + 1, .seq a b => a :: takeC m b
  | _ + 1, _ => []
def dropC : Nat → Code → Code
  | 0, c => c
  | m + 1, .seq _ b => dropC m b
  | _ + 1, c => c
def seqs : List Code → Code → Code
  | [], b => b
  | a :: as, b => .seq a (seqs as b)
omit [Rho] in
theorem seqs_take : ∀ (m : Nat) (c : Code), seqs (takeC m c) (dropC m c) = c
  | 0, c => by cases c <;> rfl
  | m + 1, .seq a b => by simp only [takeC, dropC, seqs, seqs_take m b]
  | m + 1, .skip => rfl
  | m + 1, .region .. => rfl
  | m + 1, .cond .. => rfl
  | m + 1, .block .. => rfl
  | m + 1, .loop .. => rfl
  | m + 1, .rangeFunc .. => rfl
  | m + 1, .exit .. => rfl
  | m + 1, .scope .. => rfl
  | m + 1, .label .. => rfl
  | m + 1, .goto .. => rfl
  | m + 1, .ret => rfl
  | m + 1, .refuse .. => rfl

def segT (P : Program) (e : Env) (n : Nat) (ts : List Nat) : List Code → Fr → St → Option (Fr × St)
  | [], fr, s => some (keepS ts fr s)
  | a :: as, fr, s => ev P e n (.code a none fr s fun ex fr' s' => match ex with
    | .normal => segT P e n ts as fr' s'
    | _ => none)

theorem Ends.segs {P : Program} {e : Env} (he : Env.Ok P e) {fn : Func} {b : Code} {v : Value} {n : Nat} {ts : List Nat} {p : Fr × St} (hb : p.2.Wf → Ends P e fn b p.1 p.2 v) :
    ∀ (as : List Code) (fr : Fr) (s : St), segT P e n ts as fr s = some p → s.Wf → Ends P e fn (seqs as b) fr s v
  | [], fr, s, h, hw => by
    simp only [segT] at h
    injection h with h
    subst h
    exact Ends.keep (hb (St.keep_wf hw _))
  | a :: as, fr, s, h, hw => by
    simp only [segT] at h
    obtain ⟨ex, fr', s', hk, hraw, hok⟩ := ev_ok he n _ _ h hw
    cases ex with
    | normal => exact Ends.step hraw hok (Ends.segs he hb as fr' s' hk hraw.wf)
    | exit id => cases hk
    | ret => cases hk

/-- The next statements of a body, as they were evaluated. -/
theorem Ends.cut {P : Program} {e : Env} (he : Env.Ok P e) {fn : Func} {c : Code} {v : Value} {n m : Nat} {ts : List Nat} {p q : Fr × St} (h : segT P e n ts (takeC m c) p.1 p.2 = some q)
    (hb : q.2.Wf → Ends P e fn (dropC m c) q.1 q.2 v) (hw : p.2.Wf) : Ends P e fn c p.1 p.2 v := by
  have := Ends.segs he hb (takeC m c) p.1 p.2 h hw
  rwa [seqs_take] at this

theorem Ends.callsM {P : Program} {e : Env} (he : Env.Ok P e) {f : FuncId} {fn : Func} {c : Code} {v : Value} (hv : ∀ γ v', VRel γ v v' → v' = v) (hf : e.fnOf f = some fn) (hc : fn.body = some c) (hn : fn.ntmps ≤ 1024)
    (h : Ends P e fn c ⟨⟨.nil, fn.ntmps, depthOf fn.ntmps⟩, []⟩ start v) (w : World) (hm : MemOk w) : Calls P f #[] w (fun en w' => en = .returned v ∧ Below w.heap.size w w') := by
  obtain ⟨ex, fr1, s1, hk, hw1, hnx, hcode⟩ := h
  have hat : start.at = fun _ => .dead := funext start_at
  have hno : ∀ B, ¬ Own (fun _ => none) start.at B := fun B ⟨id, O, C, h1, h2⟩ => by cases h2
  have hS : Sat (fun _ => none) start.at w := ⟨fun id => by rw [hat]; trivial, fun B o e => ⟨hm B o e, hno B⟩, fun i j B O C O' C' ai => by rw [hat] at ai; cases ai⟩
  have main : ∀ (hex : ex = .normal ∨ ex = .ret), (dropMarks fr1.D s1 fun s2 => match resAs e fr1.T s2 fn.results.toList with | some vs => (fun v _ => some v) (resV vs) s2 | none => none) = some v →
      CallsIn Fence.wide 0 P f #[] w (fun en w' => en = .returned v ∧ Below w.heap.size w w') := by
    intro hex hdm
    obtain ⟨s2, hk2, hraw2, hn2, hmarks⟩ := dropMarks_ok (P := P) (fn := fn) fr1.D s1 _ v hdm hw1
    split at hk2
    case h_2 => cases hk2
    rename_i vs hvs
    injection hk2 with hk2
    refine callsIn_of_wp_marks (he.fn f fn hf).1 hc trivial ?_
    have hTr : TRel (fun _ => none) ⟨.nil, fn.ntmps, depthOf fn.ntmps⟩ fn.ntmps (#[] ++ Array.replicate (fn.ntmps - (#[] : Array Value).size) undef) :=
      args_rel (vs := []) (depthOf_le hn) (Nat.zero_le _) (LRel.nil _) (fun j _ => by rw [if_neg (by simp)])
    rw [show Fence.wide = FF none from rfl]
    refine hcode (fun _ => none) { tmps := #[] ++ Array.replicate (fn.ntmps - (#[] : Array Value).size) undef, defers := [] } w none trivial ⟨hTr, trivial⟩ hS (fun _ _ _ => rfl) _ (fun γ1 a1 w1 st1 hf1 => ?_)
    have hl : LeavesInM Fence.wide 0 P fn a1.tmps (fun en w' => en = .returned v ∧ Below w.heap.size w w') a1.defers .returning w1 := by
      refine hmarks γ1 w1 a1.defers a1.tmps _ hf1.2 st1.sat (fun w2 st2 => ?_)
      obtain ⟨v', hr, hvr⟩ := results_ok he hvs hf1.1 st2.sat
      rw [hk2] at hvr
      have stt := st1.trans hnx hraw2.next st2
      exact ⟨v', hr, by rw [hv _ _ hvr], stt.os, stt.tape, stt.output, stt.size, fun k hk => stt.frame k hk (hno k)⟩
    rcases hex with rfl | rfl <;> exact hl
  refine (callsIn_wide (n := 0)).1 ?_
  unfold retK at hk
  cases ex with
  | exit id => cases hk
  | normal => exact main (.inl rfl) hk
  | ret => exact main (.inr rfl) hk
omit [Rho] in
theorem Ends.calls {P : Program} {e : Env} (he : @Env.Ok Rho.nothing P e) {f : FuncId} {fn : Func} {c : Code} {v : Value} (hv : ∀ γ v', @VRel Rho.nothing γ v v' → v' = v) (hf : e.fnOf f = some fn) (hc : fn.body = some c) (hn : fn.ntmps ≤ 1024)
    (h : @Ends Rho.nothing P e fn c ⟨⟨.nil, fn.ntmps, depthOf fn.ntmps⟩, []⟩ start v) (w : World) : Calls P f #[] w (fun en w' => en = .returned v ∧ Below w.heap.size w w') :=
  @Ends.callsM Rho.nothing P e he f fn c v hv hf hc hn h w (memOk_nothing w)
end Go.Ev
