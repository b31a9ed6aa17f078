/- An evaluator of closed Go code, part 22: code; the whole. -/
import Derived.Test.YtbghajfpjjfjcaaEvW
import Derived.RangeFuncNested
set_option linter.unusedSimpArgs false
set_option linter.unusedVariables false
namespace Go.Ev
open Go Go.RowKit
variable [Rho]

theorem CodeOk.then {P : Program} {x y : Code} {ro : Option Nat} {fr fr1 fr2 : Fr} {s s1 s2 : St} {ex : Ex} (h1 : CodeOk P x ro fr s .normal fr1 s1) (h2 : CodeOk P y ro fr1 s1 ex fr2 s2) (r1 : Raw s s1) (r2 : Raw s1 s2)
    {γ : Gam} {a : Act} {w : World} {roC : Option Nat} (hro : RoRel γ ro roC) (hfr : FrRel γ fr a) (hS : Sat γ s.at w) (hf : Fresh γ s s2) (Q Q' : Exit → Act → World → Prop)
    (hQ : ∀ γ' a' w', Step s.next s2.next γ s.at w γ' s2.at w' → FrRel γ' fr2 a' → Q (exC ex) a' w') : x.wpIn (FF roC) 0 P (Exit.then (y.wpIn (FF roC) 0 P Q) Q') a w :=
  h1 γ a w roC hro hfr hS (hf.left r2.next) _ (fun γ1 a1 w1 st1 hf1 =>
    h2 γ1 a1 w1 roC (hro.mono st1.le) hf1 st1.sat (hf.right r1.next st1) Q (fun γ2 a2 w2 st2 hf2 => hQ γ2 a2 w2 (st1.trans r1.next r2.next st2) hf2))

section
variable {F : Fence} {n : Nat} {P : Program} {Q : Exit → Act → World → Prop} {a : Act} {w : World}
omit [Rho]
theorem stepR_scope {c : Code} {b : Frame} {k : List Item} {cs : List Frame} : step P (lone (b.atR a (.code (.scope c) :: k)) cs w) = .next (lone (b.atR a (.code c :: .inScope c :: k)) cs w) :=
  step_lone_go (by simp [stepG, stepG.exec, Frame.atR])
theorem stepR_inScope {c : Code} {b : Frame} {k : List Item} {cs : List Frame} : step P (lone (b.atR a (.inScope c :: k)) cs w) = .next (lone (b.atR a k) cs w) :=
  step_lone_go (by simp [stepG, stepG.exec, Frame.atR])
/-- A scope that no jump to a label leaves its way in. -/
theorem wpIn_scope {c : Code} (h : c.wpIn F n P (fun ex a w => (∃ x : Ex, exC x = ex) ∧ Q ex a w) a w) : (Code.scope c).wpIn F n P Q a w := by
  intro b k cs hro hb hr
  have h0 : (lone (b.atR a (.code (.scope c) :: k)) cs w).fenced P F := fenced_calm hb hr rfl
  obtain ⟨e, a₁, w₁, ⟨⟨x, hx⟩, hq⟩, harr⟩ := h b (.inScope c :: k) cs hro hb hr
  cases e with
  | normal => exact ⟨.normal, a₁, w₁, hq, .head h0 stepR_scope (StepsIn.trans harr (.one (fenced_calm hb hr rfl) stepR_inScope))⟩
  | exit id' =>
    have hx : exitTo id' (.inScope c :: k) = exitTo id' k := by simp [exitTo]
    exact ⟨.exit id', a₁, w₁, hq, fun k' hk => .head h0 stepR_scope (harr.1 k' (by rw [hx]; exact hk)),
      fun hr' hk => let ⟨k₁, h1, h2⟩ := harr.2 hr' (by rw [hx]; exact hk); ⟨k₁, h1, .head h0 stepR_scope h2⟩⟩
  | goto l => cases x <;> cases hx
  | ret => exact ⟨_, a₁, w₁, hq, .of_steps (.one h0 stepR_scope) harr⟩
  | panic ch => cases x <;> cases hx
  | outgrown => cases x <;> cases hx
end

/-- A loop's record is laid. -/
theorem Step.loopNew {γ : Gam} {h : Hp} {w : World} {id mk D O C : Nat} {fn : FuncId} {T : Tm} {ps : Array Tmp} {as bd : Code} {tmps : Array Value} (hs : Sat γ h w) (hg : γ id = none) (hm : γ mk = some (D, O, C)) (hT : TRel γ T T.n tmps) :
    Step id (id + 1) γ h w (γ.add id (w.heap.size, 0, 0)) (fun j => if j = id then .loop .ready none T ps as bd mk else h j)
      (w.alloc (.loop { state := .ready, pending := none, fn := fn, tmps := tmps, params := ps, assign := as, body := bd, defers := D })) :=
  Step.ofNew (C := 0) hs hg (by simp) (fun B hB => Below.heap_alloc w _ B hB) rfl rfl rfl
    ⟨w.heap.size, 0, 0, fn, tmps, D, O, C, Gam.add_same _ _ _, Gam.le_add hg _ _ _ hm, World.alloc_heap_new w _, hT.mono (Gam.le_add hg _)⟩

section
variable {β : Type} {P : Program} {e : Env} (he : Env.Ok P e) {ih : Task β → Option β} (hih : ∀ t r, ih t = some r → TOk P t r)
  (hcall : ∀ f args s k r, ih (.call f args s k) = some r → ∃ fn c, e.fnOf f = some fn ∧ fn.body = some c)
include he hih

theorem regionT_ok {ro : Option Nat} {fr : Fr} {s : St} {k : Ex → Fr → St → Option β} {r : β} {id : Nat} {ops : Array Oper} {draw : Bool} (h : regionT ih ops draw ro fr s k = some r) (hw : s.Wf) :
    ∃ ex fr' s', k ex fr' s' = some r ∧ Raw s s' ∧ CodeOk P (.region id ops draw) ro fr s ex fr' s' := by
  unfold regionT at h
  cases draw with
  | false =>
    rw [cond_false] at h
    obtain ⟨fr', s', hk, hraw, hok⟩ := hih _ _ h hw
    refine ⟨.normal, fr', s', hk, hraw, fun γ a w roC hro hfr hS hfresh Q hQ => wpIn_region ?_⟩
    have := hok 0 (by simp) γ a w roC hro hfr hS hfresh Q (fun γ' a' w' st hf => hQ γ' a' w' st hf)
    simpa using this
  | true =>
    rw [cond_true] at h
    cases hst : staticOk ops with
    | false => rw [hst] at h; cases h
    | true =>
    rw [hst, cond_true] at h
    obtain ⟨tr, t1, t2, t3, t4, _, t6⟩ := hih _ _ h hw (by simp) (Nat.zero_le _)
    subst t1 t2
    have hrows : ∀ m, m < ops.size → RowOk P ops (tr m) (tr (m + 1)) m := fun m hm => t4 m (Nat.zero_le _) hm
    exact ⟨.normal, _, _, t3, row_raw hrows hw ops.size (Nat.le_refl _), region_draw_ok hrows hw he.mixed hst (fun a b hab hb ra rb => t6 a b (Nat.zero_le _) hab hb ra rb) id ro⟩

include hcall in
theorem rangeT_ok {ro : Option Nat} {fr : Fr} {s : St} {k : Ex → Fr → St → Option β} {r : β} {g : Operand} {ps : Array Tmp} {assign body : Code} (h : rangeT ih ps assign body ro fr s k (aev fr.T g) = some r) (hw : s.Wf) :
    ∃ ex fr' s', k ex fr' s' = some r ∧ Raw s s' ∧ CodeOk P (.rangeFunc g ps assign body) ro fr s ex fr' s' := by
  unfold rangeT at h
  split at h
  case h_2 => cases h
  rename_i f first captured hg
  -- what comes behind the loop's record
  have main : ∀ (l mk : Nat) (s2 : St) (fr' : Fr), s2.Wf → l < s2.next → Raw s s2 →
      ih (.call f (first.toList ++ (.func (.yield l) #[] #[] :: captured.toList)) s2 (endLoopK l fr' k)) = some r →
      ∃ ex s', k ex fr' s' = some r ∧ Raw s2 s' ∧ ∀ (γ : Gam) (a : Act) (w2 : World) (L O C : Nat) (a' : Act) (roC : Option Nat) (fn : FuncId), TRel γ fr.T fr.T.n a.tmps → γ l = some (L, O, C) → Sat γ s2.at w2 → Fresh γ s2 s' →
        ∀ (Q : Exit → Act → World → Prop), (∀ γ' w', Step s2.next s'.next γ s2.at w2 γ' s'.at w' → Q (exC ex) a' w') →
        ∃ (d : Deferred) (w₁' : World) (f : FuncId) (args : Array Value) (w₂ : World), (resolve a.eval (rangeCall g L) 0).run P w2 = .ok d w₁' ∧
          (invoke d.target d.args).run P w₁' = .ok (.enter f args) w₂ ∧ CallsIn (FF roC) 0 P f args w₂ (rangePost (FF roC) 0 P L Q a') := by
    intro l mk s2 fr' hw2 hl hraw02 hk
    obtain ⟨v, s3, hk3, hraw3, hok⟩ := hih _ _ hk hw2
    obtain ⟨fd, c, hfd, hbody⟩ := hcall _ _ _ _ _ hk
    unfold endLoopK at hk3
    split at hk3
    · cases hk3
    · rename_i st pend T3 ps3 as3 bd3 mk3 hnb hl3
      cases h4 : Nat.blt l s3.next with
      | false => rw [h4] at hk3; cases hk3
      | true =>
      rw [h4, cond_true] at hk3
      have h4' : l < s3.next := Nat.le_of_ble_eq_true h4
      obtain ⟨s4, hk4, hraw4, hn4, hat4⟩ := St.putK_inv hk3 hraw3.wf (St.sees_of_at hl3 (by simp)) h4'
      split at hk4
      case h_2 => cases hk4
      rename_i ex hex
      refine ⟨ex, s4, hk4, hraw3.trans hraw4, fun γ a w2 L O C a' roC fn hT hγ hS hfresh Q hQ => ?_⟩
      obtain ⟨fi', ca', hf', r1, r2⟩ := func_inv (aev_rel hT hg)
      refine ⟨{ target := .fn (.func f) ca', args := fi' ++ #[.func (.yield L) #[] #[]] }, w2, f, (fi' ++ #[.func (.yield L) #[] #[]]) ++ ca', w2, ?_, ?_, ?_⟩
      · have : a.eval (.const (.func (.yield L) #[] #[])) = .func (.yield L) #[] #[] := rfl
        simp [resolve, hf', Deferred.ofValue, this]
      · simp [invoke, callFunc_ok he hfd hbody]
      · refine callsIn_FF (hok γ _ w2 ?_ hS (hfresh.left hraw4.next) _ (fun γ3 w3 v3 st3 _ => ?_)) roC
        · refine LRel.toA (r1.append (LRel.cons (.yield hγ) r2)) ?_
          simp
        · have hsb := st3.sat.blk l
          rw [hl3] at hsb
          obtain ⟨B3, P3, Q3, fn3, tmps3, D3, P4, Q4, hg3, hmk3, hB3, hTT3⟩ := hsb.loop_inv
          have g3 : γ3 l = some (L, O, C) := st3.le _ _ hγ
          rw [g3] at hg3; cases hg3
          have st4 : Step s3.next s4.next γ3 s3.at w3 γ3 s4.at { w3 with heap := w3.heap.setIfInBounds L (.loop { state := .exhausted, pending := pend, fn := fn3, tmps := tmps3, params := ps3, assign := as3, body := bd3, defers := D3 }) } := by
            rw [hn4, hat4]
            exact Step.loopPut st3.sat hl3 g3 hmk3 hTT3 hB3
          have stt := st3.trans hraw3.next hraw4.next st4
          have hend : (Instr.endLoop L).run P w3 = .ok pend { w3 with heap := w3.heap.setIfInBounds L (.loop { state := .exhausted, pending := pend, fn := fn3, tmps := tmps3, params := ps3, assign := as3, body := bd3, defers := D3 }) } :=
            run_endLoop hB3 (fun hb => hnb hb)
          refine ⟨pend, _, hend, ?_⟩
          have hq := hQ γ3 _ stt
          unfold exOf at hex
          split at hex
          · injection hex with hex; subst hex; exact hq
          · injection hex with hex; subst hex; exact wpIn_exit hq
          · injection hex with hex; subst hex; exact wpIn_ret hq
          · cases hex
    · cases hk3
  split at h
  · -- an outermost loop
    obtain ⟨s1, hk1, hraw1, hn1, hd1, hat1⟩ := St.newK_inv h hw
    obtain ⟨s2, hk2, hraw2, hn2, hd2, hat2⟩ := St.newK_inv hk1 hraw1.wf
    obtain ⟨ex, s', hk, hraw, hmain⟩ := main s1.next s.next s2 _ hraw2.wf (by omega) (hraw1.trans hraw2) hk2
    refine ⟨ex, _, s', hk, (hraw1.trans hraw2).trans hraw, fun γ a w roC hro hfr hS hfresh Q hQ => ?_⟩
    cases roC with
    | some L => exact hro.elim
    | none =>
    refine wpIn_rangeFunc (fun fn _ => ?_)
    have hge := hraw.next
    have g1 : γ s.next = none := hfresh s.next (Nat.le_refl _) (by omega)
    have st1 : Step s.next s1.next γ s.at w (γ.add s.next (w.heap.size, 0, 0)) s1.at (w.alloc (.deferred (some []))) := by
      rw [hn1, hat1]
      exact Step.ofNew (C := 0) hS g1 (by simp) (fun B hB => Below.heap_alloc w _ B hB) rfl rfl rfl ⟨w.heap.size, 0, 0, Gam.add_same _ _ _, World.alloc_heap_new w _⟩
    have hf1 := hfr.mono st1.le
    have g2 : (γ.add s.next (w.heap.size, 0, 0)) s1.next = none := by
      rw [Gam.add_other γ (by omega)]
      exact hfresh s1.next (by omega) (by omega)
    have st2 := Step.loopNew (fn := fn) (ps := ps) (as := assign) (bd := body) st1.sat g2 (Gam.add_same _ _ _) hf1.1
    rw [← hn2, ← hat2] at st2
    have st12 := st1.trans (by omega) (by omega) st2
    obtain ⟨d, w₁', f', args', w₂, q1, q2, q3⟩ := hmain _ a _ _ 0 0 { a with defers := { target := .collected w.heap.size, args := #[] } :: a.defers } none fn (hfr.1.mono st12.le) (Gam.add_same _ _ _) st2.sat
      (fun id i1 i2 => Fresh.right (s1 := s2) hfresh (by omega) st12 id i1 i2) Q (fun γ' w' st => hQ γ' _ w' (st12.trans (by omega) hge st) ⟨(hfr.1.mono st12.le).mono st.le, ⟨_, 0, 0, st.le _ _ (Gam.le_add g2 _ _ _ (Gam.add_same _ _ _)), rfl⟩, (hfr.2.mono st12.le).mono st.le⟩)
    have e1 : (w.alloc (.deferred (some []))).heap.size = w.heap.size + 1 := by simp
    rw [e1] at q1 q3
    exact ⟨_, _, _, d, w₁', f', args', w₂, run_enterLoop_outer _ _ _ _ _, q1, fun f _ => FF_fn none f, q2, fun h => FF_depth h, q3⟩
  · -- a loop within a round
    rename_i l0
    split at h
    case h_2 => cases h
    rename_i st0 pend0 T0 ps0 as0 bd0 mk hl0
    obtain ⟨s2, hk2, hraw2, hn2, hd2, hat2⟩ := St.newK_inv h hw
    obtain ⟨ex, s', hk, hraw, hmain⟩ := main s.next mk s2 _ hraw2.wf (by omega) hraw2 hk2
    refine ⟨ex, _, s', hk, hraw2.trans hraw, fun γ a w roC hro hfr hS hfresh Q hQ => ?_⟩
    cases roC with
    | none => exact hro.elim
    | some L0 =>
    obtain ⟨O0, C0, hγ0⟩ := hro
    have hsb := hS.blk l0
    rw [hl0] at hsb
    obtain ⟨B0, P0, Q0, fn0, tmps0, D0, P1, Q1, hg0, hmk0, hB0, hTT0⟩ := hsb.loop_inv
    rw [hγ0] at hg0; cases hg0
    refine wpIn_rangeFunc (fun fn _ => ?_)
    have hge := hraw.next
    have g2 : γ s.next = none := hfresh s.next (Nat.le_refl _) (by omega)
    have st2 := Step.loopNew (fn := fn) (ps := ps) (as := assign) (bd := body) hS g2 hmk0 hfr.1
    rw [← hn2, ← hat2] at st2
    obtain ⟨d, w₁', f', args', w₂, q1, q2, q3⟩ := hmain _ a _ _ 0 0 a (some L0) fn (hfr.1.mono st2.le) (Gam.add_same _ _ _) st2.sat
      (fun id i1 i2 => Fresh.right (s1 := s2) hfresh (by omega) st2 id i1 i2) Q (fun γ' w' st => hQ γ' _ w' (st2.trans (by omega) hge st) ((hfr.mono st2.le).mono st.le))
    exact ⟨_, [], _, d, w₁', f', args', w₂, run_enterLoop_inner hB0 _ _ _ _ _, q1, fun f _ => FF_fn (some L0) f, q2, fun h => FF_depth h, q3⟩

include hcall in
theorem codeT_ok {c : Code} {ro : Option Nat} {fr : Fr} {s : St} {k : Ex → Fr → St → Option β} {r : β} (h : codeT ih ro fr s k c = some r) (hw : s.Wf) :
    ∃ ex fr' s', k ex fr' s' = some r ∧ Raw s s' ∧ CodeOk P c ro fr s ex fr' s' := by
  unfold codeT at h
  split at h
  · exact ⟨.normal, fr, s, h, Raw.refl hw, fun γ a w roC hro hfr hS hfresh Q hQ => wpIn_skip (hQ γ a w (Step.refl hS) hfr)⟩
  · exact ⟨.normal, fr, s, h, Raw.refl hw, fun γ a w roC hro hfr hS hfresh Q hQ => wpIn_label (hQ γ a w (Step.refl hS) hfr)⟩
  · -- scope
    obtain ⟨ex1, fr1, s1, hk1, hraw1, c1⟩ := hih _ _ h hw
    exact ⟨ex1, fr1, s1, hk1, hraw1, fun γ a w roC hro hfr hS hfresh Q hQ => wpIn_scope (c1 γ a w roC hro hfr hS hfresh _ (fun γ' a' w' st hf => ⟨⟨ex1, rfl⟩, hQ γ' a' w' st hf⟩))⟩
  · exact regionT_ok he hih h hw
  · -- seq
    rename_i x y
    obtain ⟨ex1, fr1, s1, hk1, hraw1, c1⟩ := hih _ _ h hw
    cases ex1 with
    | normal =>
      obtain ⟨ex2, fr2, s2, hk2, hraw2, c2⟩ := hih _ _ hk1 hraw1.wf
      exact ⟨ex2, fr2, s2, hk2, hraw1.trans hraw2, fun γ a w roC hro hfr hS hfresh Q hQ => wpIn_seq (c1.then c2 hraw1 hraw2 hro hfr hS hfresh Q Q hQ)⟩
    | exit id => exact ⟨_, fr1, s1, hk1, hraw1, fun γ a w roC hro hfr hS hfresh Q hQ => wpIn_seq (c1 γ a w roC hro hfr hS hfresh _ hQ)⟩
    | ret => exact ⟨_, fr1, s1, hk1, hraw1, fun γ a w roC hro hfr hS hfresh Q hQ => wpIn_seq (c1 γ a w roC hro hfr hS hfresh _ hQ)⟩
  · -- cond
    rename_i c x y
    unfold condT at h
    split at h
    · rename_i hc
      obtain ⟨ex1, fr1, s1, hk1, hraw1, c1⟩ := hih _ _ h hw
      exact ⟨ex1, fr1, s1, hk1, hraw1, fun γ a w roC hro hfr hS hfresh Q hQ => wpIn_cond_true (aev_rel hfr.1 hc).bool_inv (c1 γ a w roC hro hfr hS hfresh _ hQ)⟩
    · rename_i hc
      obtain ⟨ex1, fr1, s1, hk1, hraw1, c1⟩ := hih _ _ h hw
      exact ⟨ex1, fr1, s1, hk1, hraw1, fun γ a w roC hro hfr hS hfresh Q hQ => wpIn_cond_false (aev_rel hfr.1 hc).bool_inv (c1 γ a w roC hro hfr hS hfresh _ hQ)⟩
    · cases h
  · -- block
    rename_i id c
    obtain ⟨ex1, fr1, s1, hk1, hraw1, c1⟩ := hih _ _ h hw
    unfold blockK at hk1
    cases ex1 with
    | normal => exact ⟨_, fr1, s1, hk1, hraw1, fun γ a w roC hro hfr hS hfresh Q hQ => wpIn_block (c1 γ a w roC hro hfr hS hfresh _ hQ)⟩
    | ret => exact ⟨_, fr1, s1, hk1, hraw1, fun γ a w roC hro hfr hS hfresh Q hQ => wpIn_block (c1 γ a w roC hro hfr hS hfresh _ hQ)⟩
    | exit id' =>
      simp only at hk1
      cases hid : Nat.beq id' id with
      | true =>
        rw [hid, cond_true] at hk1
        have := Nat.eq_of_beq_eq_true hid
        subst this
        refine ⟨.normal, fr1, s1, hk1, hraw1, fun γ a w roC hro hfr hS hfresh Q hQ => wpIn_block (c1 γ a w roC hro hfr hS hfresh _ (fun γ' a' w' st hf => ?_))⟩
        simp only [exC, Exit.inBlock, if_true]
        exact hQ γ' a' w' st hf
      | false =>
        rw [hid, cond_false] at hk1
        have := Nat.ne_of_beq_eq_false hid
        refine ⟨.exit id', fr1, s1, hk1, hraw1, fun γ a w roC hro hfr hS hfresh Q hQ => wpIn_block (c1 γ a w roC hro hfr hS hfresh _ (fun γ' a' w' st hf => ?_))⟩
        simp only [exC, Exit.inBlock, this, if_false]
        exact hQ γ' a' w' st hf
  · -- loop
    rename_i c
    have again : ∀ {a : Act} {w : World} {roC : Option Nat} {Q : Exit → Act → World → Prop},
        c.wpIn (FF roC) 0 P (Exit.then ((Code.loop c).wpIn (FF roC) 0 P (fun ex a w => (∃ x : Ex, exC x = ex) ∧ Q ex a w)) (fun ex a w => (∃ x : Ex, exC x = ex) ∧ Q ex a w)) a w → (Code.loop c).wpIn (FF roC) 0 P Q a w := fun h =>
      wpIn_mono (wpIn_loop_again h (fun l a w ⟨⟨x, hx⟩, _⟩ => by cases x <;> cases hx) (fun a w ⟨⟨x, hx⟩, _⟩ => by cases x <;> cases hx)) (fun _ _ _ h => h.2)
    obtain ⟨ex1, fr1, s1, hk1, hraw1, c1⟩ := hih _ _ h hw
    cases ex1 with
    | normal =>
      obtain ⟨ex2, fr2, s2, hk2, hraw2, c2⟩ := hih _ _ hk1 hraw1.wf
      exact ⟨ex2, fr2, s2, hk2, hraw1.trans hraw2, fun γ a w roC hro hfr hS hfresh Q hQ => again (c1.then c2 hraw1 hraw2 hro hfr hS hfresh _ _ (fun γ' a' w' st hf => ⟨⟨ex2, rfl⟩, hQ γ' a' w' st hf⟩))⟩
    | exit id => exact ⟨_, fr1, s1, hk1, hraw1, fun γ a w roC hro hfr hS hfresh Q hQ => again (c1 γ a w roC hro hfr hS hfresh _ (fun γ' a' w' st hf => ⟨⟨.exit id, rfl⟩, hQ γ' a' w' st hf⟩))⟩
    | ret => exact ⟨_, fr1, s1, hk1, hraw1, fun γ a w roC hro hfr hS hfresh Q hQ => again (c1 γ a w roC hro hfr hS hfresh _ (fun γ' a' w' st hf => ⟨⟨.ret, rfl⟩, hQ γ' a' w' st hf⟩))⟩
  · exact ⟨.exit _, fr, s, h, Raw.refl hw, fun γ a w roC hro hfr hS hfresh Q hQ => wpIn_exit (hQ γ a w (Step.refl hS) hfr)⟩
  · exact ⟨.ret, fr, s, h, Raw.refl hw, fun γ a w roC hro hfr hS hfresh Q hQ => wpIn_ret (hQ γ a w (Step.refl hS) hfr)⟩
  · exact rangeT_ok he hih hcall h hw
  · cases h
end

/-- Nothing of what lay is changed. -/
theorem Step.ofBelow {lo : Nat} {γ : Gam} {h : Hp} {w w' : World} (hs : Sat γ h w) (hb : Below w.heap.size w w') : Step lo lo γ h w γ h w' := by
  have old : ∀ id B O C, (h id).alive = true → γ id = some (B, O, C) → B < w.heap.size := fun id B O C ha e => by
    exact (hs.blk id).at ha _ _ _ e
  exact Step0.up hs.frz ⟨Gam.le_refl _, fun id a b => absurd a b, hb.size, fun B hB _ => hb.block B hB, fun B ho => .inl ho,
    ⟨fun id => (hs.blk id).keep (Gam.le_refl _) (fun q => q) (fun B O C ha e => hb.block B (old id B O C ha e)), hs.inj⟩, hb.os, hb.tape, hb.output, fun _ _ _ => rfl⟩

/-- A new list that a call made gets a name. -/
theorem Step.ofNewList {γ : Gam} {h : Hp} {w w' : World} {id k t sz sy n C : Nat} {a : Option Addr} (hs : Sat γ h w) (hb : Below w.heap.size w w') (hg : γ id = none) (hl : NewList w w' t sz (Rho.lst k) a n C) (hv : Rho.val sy = .int .i64 (n : Nat)) :
    ∃ γ', Step id (id + 1) γ h w γ' (fun j => if j = id then .lst k t sz else h j) w' ∧ VRel γ' (.pointer (some ⟨id, sy, some 2⟩)) (.slice a n C) := by
  have old : ∀ id B O C, (h id).alive = true → γ id = some (B, O, C) → B < w.heap.size := fun id B O C ha e => (hs.blk id).at ha _ _ _ e
  obtain ⟨hlen, ⟨rfl, rfl, rfl⟩ | ⟨B, O, arr, rfl, hB, hha, hroom, hnC, hc⟩⟩ := hl
  · refine ⟨γ, Step0.up hs.frz ⟨Gam.le_refl _, fun id a b => absurd a b, hb.size, fun B hB _ => hb.block B hB, fun B ho => ?_, ⟨fun j => ?_, fun i j B O C O' C' ai aj ei ej => ?_⟩, hb.os, hb.tape, hb.output, fun j a1 a2 => ?_⟩, .lsn id sy hv⟩
    · obtain ⟨j, O, C, ho, e⟩ := ho
      by_cases hj : j = id
      · subst hj; rw [hg] at e; cases e
      · simp only [if_neg hj] at ho; exact .inl ⟨j, O, C, ho, e⟩
    · by_cases hj : j = id
      · subst hj; simp only [if_true]; exact .inl ⟨List.length_eq_zero_iff.1 (by rw [hlen]; simp), hg⟩
      · simp only [if_neg hj]; exact (hs.blk j).keep (Gam.le_refl _) (fun q => q) (fun B O C ha e => hb.block B (old j B O C ha e))
    · have n1 : i ≠ id := fun q => by subst q; rw [hg] at ei; cases ei
      have n2 : j ≠ id := fun q => by subst q; rw [hg] at ej; cases ej
      simp only [if_neg n1] at ai
      simp only [if_neg n2] at aj
      exact hs.inj i j B O C O' C' ai aj ei ej
    · by_cases hj : j = id
      · subst hj; simp only [if_true] at a2; cases a2
      · simp only [if_neg hj]
  · refine ⟨γ.add id (B, O, C), Step0.up hs.frz ⟨Gam.le_add hg _, fun j e1 e2 => ?_, hb.size, fun B hB _ => hb.block B hB, fun B' ho => ?_, ⟨fun j => ?_, fun i j B1 O1 C1 O' C' ai aj ei ej => ?_⟩, hb.os, hb.tape, hb.output, fun j a1 a2 => ?_⟩, .lsl sy n (Gam.add_same γ id _) hv hnC⟩
    · by_cases hj : j = id
      · omega
      · rw [Gam.add_other γ hj] at e2; exact absurd e1 e2
    · obtain ⟨j, O1, C1, ho, e⟩ := ho
      by_cases hj : j = id
      · subst hj; rw [Gam.add_same] at e; cases e; exact .inr hB
      · simp only [if_neg hj] at ho; rw [Gam.add_other γ hj] at e; exact .inl ⟨j, O1, C1, ho, e⟩
    · by_cases hj : j = id
      · subst hj; simp only [if_true]; exact .inr ⟨B, O, C, arr, Gam.add_same γ j _, hha, hroom, by rw [hlen]; exact Nat.mul_le_mul_right _ hnC, hc⟩
      · simp only [if_neg hj]
        exact (hs.blk j).keep (Gam.le_add hg _) (fun q => by rw [Gam.add_other γ hj]; exact q) (fun B1 O1 C1 ha e => hb.block B1 (old j B1 O1 C1 ha e))
    · by_cases hi : i = id <;> by_cases hj : j = id
      · omega
      · subst hi
        simp only [if_neg hj] at aj
        rw [Gam.add_same] at ei
        rw [Gam.add_other γ hj] at ej
        cases ei
        have := old j _ _ _ aj ej
        omega
      · subst hj
        simp only [if_neg hi] at ai
        rw [Gam.add_same] at ej
        rw [Gam.add_other γ hi] at ei
        cases ej
        have := old i _ _ _ ai ei
        omega
      · simp only [if_neg hi] at ai
        simp only [if_neg hj] at aj
        rw [Gam.add_other γ hi] at ei
        rw [Gam.add_other γ hj] at ej
        exact hs.inj i j B1 O1 C1 O' C' ai aj ei ej
    · by_cases hj : j = id
      · subst hj; simp only [if_true] at a2; cases a2
      · simp only [if_neg hj]

omit [Rho] in
theorem putsK_inv {β : Type} : ∀ (l : List (Nat × AB)) (s : St) (k : St → Option β) (r : β), putsK l s k = some r → s.Wf → ∃ s', k s' = some r ∧ Raw s s' ∧ s'.next = s.next ∧ s'.at = updH s.at l
  | [], s, k, r, h, hw => ⟨s, h, Raw.refl hw, rfl, rfl⟩
  | p :: l, s, k, r, h, hw => by
    simp only [putsK] at h
    split at h
    · cases h
    · rename_i hd
      cases h1 : Nat.blt p.1 s.next with
      | false => rw [h1] at h; cases h
      | true =>
        rw [h1, cond_true] at h
        obtain ⟨s1, hk, hraw, hn, hat⟩ := St.putK_inv h hw (St.sees_of_at rfl (fun q => hd q)) (Nat.le_of_ble_eq_true h1)
        obtain ⟨s2, q1, q2, q3, q4⟩ := putsK_inv l s1 k r hk hraw.wf
        exact ⟨s2, q1, hraw.trans q2, q3.trans hn, by rw [q4, hat]; rfl⟩
omit [Rho] in
theorem newsK_inv {β : Type} : ∀ (l : List AB) (s : St) (k : St → Option β) (r : β), newsK l s k = some r → s.Wf → ∃ s', k s' = some r ∧ Raw s s' ∧ s'.next = s.next + l.length ∧ s'.at = newH s.at s.next l
  | [], s, k, r, h, hw => ⟨s, h, Raw.refl hw, rfl, rfl⟩
  | b :: l, s, k, r, h, hw => by
    simp only [newsK] at h
    obtain ⟨s1, hk, hraw, hn, _, hat⟩ := St.newK_inv h hw
    obtain ⟨s2, q1, q2, q3, q4⟩ := newsK_inv l s1 k r hk hraw.wf
    exact ⟨s2, q1, hraw.trans q2, by rw [q3, hn]; simp; omega, by rw [q4, hat, hn]; rfl⟩

theorem callK_ok {β : Type} {P : Program} {e : Env} (he : Env.Ok P e) {ih : Task β → Option β} (hih : ∀ t r, ih t = some r → TOk P t r) {f : FuncId} {args : List Value} {s : St} {k : Value → St → Option β} {r : β}
    (h : callK e ih f s k args = some r) (hw : s.Wf) : ∃ v s', k v s' = some r ∧ Raw s s' ∧ CallOk P f args s v s' := by
  unfold callK at h
  split at h
  · split at h
    · rename_i v hv
      obtain ⟨hp, _, hc⟩ := he.known f v hv
      refine ⟨v, s, h, Raw.refl hw, fun γ args' w hargs hS _ R hR => ?_⟩
      have ha : args' = #[] := by
        have h0 : args'.size = 0 := by have := hargs.1; simp at this; first | exact this.symm | exact this | (rw [this]; rfl)
        exact Array.eq_empty_of_size_eq_zero h0
      subst ha
      refine (callsIn_wide.2 (hc w)).mono (fun en w' ⟨h1, h2⟩ => ?_)
      subst h1
      exact hR γ w' v (Step.ofBelow hS h2) (plain_rel γ 3 v hp)
    · exact callT_ok he hih h hw
  · split at h
    · rename_i v vs _ u hu
      have hu' : e.calls f (v :: vs) s.at = some u := by
        cases hon : e.on with
        | true => rw [hon] at hu; exact hu
        | false => rw [hon] at hu; cases hu
      obtain ⟨h2, _, hc⟩ := he.calls f _ u _ hu'
      refine ⟨u, s, h, Raw.refl hw, fun γ args' w hargs hS _ R hR => ?_⟩
      have hsz : args'.size = (v :: vs).length := by have := hargs.1; simp only [Array.length_toList] at this; exact this.symm
      refine (callsIn_wide.2 (hc γ args' w hsz (fun i q1 q2 => ?_) hS)).mono (fun en w' ⟨q1, q2⟩ => ?_)
      · have := hargs.2 i q1 (by simpa using q2)
        simp only [Array.getElem_toList] at this
        exact this
      subst q1
      exact hR γ w' _ (Step.ofBelow hS q2) (closed_rel γ 3 u h2)
    · rename_i v vs _ _
      split at h
      · rename_i kk t sz sy u hu
        have hu' : e.callsL f (v :: vs) s.at s.next = some (kk, t, sz, sy, u) := by
          cases hon : e.on with
          | true => rw [hon] at hu; exact hu
          | false => rw [hon] at hu; cases hu
        obtain ⟨_, hc⟩ := he.callsL f _ _ _ _ _ _ _ _ hu'
        obtain ⟨s', hk, hraw, hn, hd, hat⟩ := St.newK_inv h hw
        refine ⟨u, s', hk, hraw, fun γ args' w hargs hS hfr R hR => ?_⟩
        have hsz : args'.size = (v :: vs).length := by have := hargs.1; simp only [Array.length_toList] at this; exact this.symm
        refine (callsIn_wide.2 (hc γ args' w hsz (fun i q1 q2 => ?_) hS)).mono (fun en w' ⟨q1, v', a, n, C, q2, q3, q4, q5⟩ => ?_)
        · have := hargs.2 i q1 (by simpa using q2)
          simp only [Array.getElem_toList] at this
          exact this
        subst q2
        obtain ⟨γ', st, hv⟩ := Step.ofNewList (id := s.next) hS q1 (hfr s.next (Nat.le_refl _) (by omega)) q3 q4
        rw [← hn, ← hat] at st
        exact hR γ' w' _ st (q5 γ' hv)
      · split at h
        · rename_i upd new u hu
          have hu' : e.callsG f (v :: vs) s.at s.next = some (upd, new, u) := by
            cases hon : e.on with
            | true => rw [hon] at hu; exact hu
            | false => rw [hon] at hu; cases hu
          obtain ⟨_, hc⟩ := he.callsG f _ _ _ _ _ _ hu'
          obtain ⟨s1, hk1, hraw1, hn1, hat1⟩ := putsK_inv upd s _ r h hw
          obtain ⟨s2, hk2, hraw2, hn2, hat2⟩ := newsK_inv new s1 _ r hk1 hraw1.wf
          refine ⟨u, s2, hk2, hraw1.trans hraw2, fun γ args' w hargs hS hfr R hR => ?_⟩
          have hsz : args'.size = (v :: vs).length := by have := hargs.1; simp only [Array.length_toList] at this; exact this.symm
          refine (callsIn_wide.2 (hc γ args' w hsz (fun i q1 q2 => ?_) hS (fun id i1 i2 => hfr id i1 (by omega)))).mono (fun en w' ⟨γ', v', q1, q2, q3⟩ => ?_)
          · have := hargs.2 i q1 (by simpa using q2)
            simp only [Array.getElem_toList] at this
            exact this
          subst q1
          have e1 : s2.next = s.next + new.length := by omega
          have e2 : s2.at = newH (updH s.at upd) s.next new := by rw [hat2, hat1, hn1]
          rw [← e1, ← e2] at q3
          exact hR γ' w' _ q3 q2
        · exact callT_ok he hih h hw

theorem ev_ok {β : Type} {P : Program} {e : Env} (he : Env.Ok P e) : ∀ (n : Nat) (t : Task β) (r : β), ev P e n t = some r → TOk P t r
  | 0, t, r, h => by cases h
  | n + 1, t, r, h => by
    have hih := ev_ok (β := β) he n
    have hc : ∀ f args s k r, ev (β := β) P e n (.call f args s k) = some r → ∃ fn c, e.fnOf f = some fn ∧ fn.body = some c := by
      intro f args s k r h
      cases n with
      | zero => cases h
      | succ n =>
        have gen : ∀ args, callT e (ev P e n) args s k (e.fnOf f) = some r → ∃ fn c, e.fnOf f = some fn ∧ fn.body = some c := fun args h' => by
          unfold callT at h'
          split at h'
          · rename_i fn hfn
            split at h'
            · rename_i c hc
              exact ⟨fn, c, hfn, hc⟩
            · cases h'
          · cases h'
        have h' : callK e (ev P e n) f s k args = some r := h
        unfold callK at h'
        split at h'
        · split at h'
          · rename_i v hv
            exact (he.known f v hv).2.1
          · exact gen _ h'
        · split at h'
          · rename_i v vs _ u hu
            have hu' : e.calls f (v :: vs) s.at = some u := by
              cases hon : e.on with
              | true => rw [hon] at hu; exact hu
              | false => rw [hon] at hu; cases hu
            exact (he.calls f _ u _ hu').2.1
          · rename_i v vs _ _
            split at h'
            · rename_i kk t sz sy u hu
              have hu' : e.callsL f (v :: vs) s.at s.next = some (kk, t, sz, sy, u) := by
                cases hon : e.on with
                | true => rw [hon] at hu; exact hu
                | false => rw [hon] at hu; cases hu
              exact (he.callsL f _ _ _ _ _ _ _ _ hu').1
            · split at h'
              · rename_i upd new u hu
                have hu' : e.callsG f (v :: vs) s.at s.next = some (upd, new, u) := by
                  cases hon : e.on with
                  | true => rw [hon] at hu; exact hu
                  | false => rw [hon] at hu; cases hu
                exact (he.callsG f _ _ _ _ _ _ hu').1
              · exact gen _ h'
    have h' : evT P e (ev P e n) t = some r := h
    cases t with
    | code c ro fr s k => exact fun hw => codeT_ok he hih hc h' hw
    | ops all rest ro fr s k => exact fun hw => opsT_ok hih h' hw
    | draw all ms i rest ro acc fr s k => exact fun hw => drawT_ok hih h' hw hw
    | op o ro fr s k => exact fun hw => opT_ok he hih hc h' hw
    | call f args s k => exact fun hw => callK_ok he hih h' hw
    | yield l args s k => exact fun hw => yieldT_ok hih h' hw
end Go.Ev
