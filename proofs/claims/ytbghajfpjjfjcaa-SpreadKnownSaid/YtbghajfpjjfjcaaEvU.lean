/- An evaluator of closed Go code, part 19: calls, rounds, ranges over functions, code. -/
import Derived.Test.YtbghajfpjjfjcaaEvS
set_option linter.unusedSimpArgs false
set_option linter.unusedVariables false
namespace Go.Ev
open Go Go.RowKit
variable [Rho]

section
variable {β : Type} {P : Program} {e : Env} (he : Env.Ok P e) {ih : Task β → Option β} (hih : ∀ t r, ih t = some r → TOk P t r)
include he hih

theorem callT_ok {f : FuncId} {args : List Value} {s : St} {k : Value → St → Option β} {r : β} (h : callT e ih args s k (e.fnOf f) = some r) (hw : s.Wf) :
    ∃ v s', k v s' = some r ∧ Raw s s' ∧ CallOk P f args s v s' := by
  unfold callT at h
  split at h
  case h_2 => cases h
  rename_i fn hfn
  split at h
  case h_2 => cases h
  rename_i c hc
  cases h1 : Nat.ble args.length fn.ntmps with
  | false => rw [h1] at h; cases h
  | true =>
  cases h2 : Nat.ble fn.ntmps 1024 with
  | false => rw [h1, h2] at h; cases h
  | true =>
    rw [h1, h2, cond_true, cond_true, forceNat_eq, forceNat_eq] at h
    have h1' := Nat.le_of_ble_eq_true h1
    have hd := depthOf_le (Nat.le_of_ble_eq_true h2)
    obtain ⟨T, hk, hT⟩ := setArgs_ok (depthOf fn.ntmps) args .nil 0 _ r h (by omega)
    obtain ⟨ex, fr1, s1, hk1, hraw1, hcode⟩ := hih _ _ hk hw
    have main : ∀ (hex : ex = .normal ∨ ex = .ret), (dropMarks fr1.D s1 fun s2 => match resAs e fr1.T s2 fn.results.toList with | some vs => k (resV vs) s2 | none => none) = some r →
        ∃ v s', k v s' = some r ∧ Raw s s' ∧ CallOk P f args s v s' := by
      intro hex hdm
      obtain ⟨s2, hk2, hraw2, hn2, hmarks⟩ := dropMarks_ok (P := P) (fn := fn) fr1.D s1 _ r hdm hraw1.wf
      split at hk2
      case h_2 => cases hk2
      rename_i vs hvs
      refine ⟨_, s2, hk2, hraw1.trans hraw2, fun γ args' w hargs hS hfresh R hR => ?_⟩
      refine callsIn_of_wp_marks (he.fn f fn hfn).1 hc trivial ?_
      have hTr := args_rel hd h1' hargs hT
      have hF : Fence.wide = FF none := rfl
      rw [hF]
      refine hcode γ { tmps := args' ++ Array.replicate (fn.ntmps - args'.size) undef, defers := [] } w none trivial ⟨hTr, trivial⟩ hS (hfresh.left hraw2.next) _ (fun γ1 a1 w1 st1 hf1 => ?_)
      have hl : LeavesInM Fence.wide 0 P fn a1.tmps R a1.defers .returning w1 := by
        refine hmarks γ1 w1 a1.defers a1.tmps R hf1.2 st1.sat (fun w2 st2 => ?_)
        obtain ⟨v', hr, hv⟩ := results_ok he hvs hf1.1 st2.sat
        exact ⟨v', hr, hR γ1 w2 v' (st1.trans hraw1.next hraw2.next st2) hv⟩
      rcases hex with rfl | rfl <;> exact hl
    unfold retK at hk1
    cases ex with
    | exit id => cases hk1
    | normal => exact main (.inl rfl) hk1
    | ret => exact main (.inr rfl) hk1

omit he in
theorem yieldT_ok {l : Nat} {args : List Value} {s : St} {k : Value → St → Option β} {r : β} (h : yieldT ih l args s k (s.at l) = some r) (hw : s.Wf) :
    ∃ v s', k v s' = some r ∧ Raw s s' ∧ YieldOk P l args s v s' := by
  unfold yieldT at h
  split at h
  case h_2 => cases h
  rename_i st0 pend0 t n d ps assign body mk hl
  cases h1 : Nat.beq args.length ps.size with
  | false => rw [h1] at h; cases h
  | true =>
  cases h2 : allLt n ps.toList with
  | false => rw [h1, h2] at h; cases h
  | true =>
    rw [h1, h2, cond_true, cond_true] at h
    have h1' := Nat.eq_of_beq_eq_true h1
    obtain ⟨T1, hk, hT1⟩ := setParams_ok d n ps.toList args t _ r h (by simpa using h1'.symm) h2
    obtain ⟨ex1, fr1, s1, hk1, hraw1, hassign⟩ := hih _ _ hk hw
    unfold beginK at hk1
    cases ex1 with
    | exit id => cases hk1
    | ret => cases hk1
    | normal =>
    simp only at hk1
    split at hk1
    case h_2 => cases hk1
    rename_i pend1 T2 ps1 as1 bd1 mk1 hl1
    cases h3 : Nat.blt l s1.next with
    | false => rw [h3] at hk1; cases hk1
    | true =>
    rw [h3, cond_true] at hk1
    have h3' : l < s1.next := Nat.le_of_ble_eq_true h3
    obtain ⟨s2, hk2, hraw2, hn2, hat2⟩ := St.putK_inv hk1 hraw1.wf (St.sees_of_at hl1 (by simp)) h3'
    obtain ⟨ex2, fr2, s3, hk3, hraw3, hbody⟩ := hih _ _ hk2 hraw2.wf
    unfold roundK at hk3
    split at hk3
    case h_2 => cases hk3
    rename_i st3 pend3 T3 ps3 as3 bd3 mk3 hl3
    cases h4 : Nat.blt l s3.next with
    | false => rw [h4] at hk3; cases hk3
    | true =>
    rw [h4, cond_true] at hk3
    have h4' : l < s3.next := Nat.le_of_ble_eq_true h4
    -- the end of the round
    have fin : ∃ v s', k v s' = some r ∧ Raw s3 s' ∧ s'.next = s3.next ∧ v = .bool (jumpOf ex2).isNone ∧ s'.at = fun j => if j = l then .loop (if (jumpOf ex2).isNone then .ready else .done) (jumpOf ex2) T3 ps3 as3 bd3 mk3 else s3.at j := by
      cases ex2 with
      | normal =>
        obtain ⟨s', a1, a2, a3, a4⟩ := St.putK_inv hk3 hraw3.wf (St.sees_of_at hl3 (by simp)) h4'
        exact ⟨_, s', a1, a2, a3, rfl, a4⟩
      | exit id =>
        obtain ⟨s', a1, a2, a3, a4⟩ := St.putK_inv hk3 hraw3.wf (St.sees_of_at hl3 (by simp)) h4'
        exact ⟨_, s', a1, a2, a3, rfl, a4⟩
      | ret =>
        obtain ⟨s', a1, a2, a3, a4⟩ := St.putK_inv hk3 hraw3.wf (St.sees_of_at hl3 (by simp)) h4'
        exact ⟨_, s', a1, a2, a3, rfl, a4⟩
    obtain ⟨v, s', hk4, hraw4, hn4, hv, hat4⟩ := fin
    refine ⟨v, s', hk4, ((hraw1.trans hraw2).trans hraw3).trans hraw4, fun γ args' w L O C hγ hargs hS hfresh R hR roC => ?_⟩
    have hsb := hS.blk l
    rw [hl] at hsb
    obtain ⟨B, O1, C1, fn, tmps, D, O2, C2, hg, hmk, hB, hT⟩ := hsb.loop_inv
    rw [hγ] at hg; cases hg
    have hargsz : args'.size = ps.size := by have := hargs.1; simp at this; omega
    have e2 : s2.next = s1.next := hn2
    have e4 : s'.next = s3.next := hn4
    have n1 := hraw1.next
    have n3 := hraw3.next
    refine ⟨fn, (ps.zip args').foldl (fun tmps (t, a) => tmps.setIfInBounds t a) tmps, assign, body, ?_, ?_⟩
    · simp [Instr.yield, run_getLoop hB, hargsz]
    · refine roundIn_of_wpIn (FF_fn roC fn) ?_
      show assign.wpIn (FF (some L)) 0 P _ _ w
      have hTr : TRel γ ⟨T1, n, d⟩ n ((ps.zip args').foldl (fun tmps (t, a) => tmps.setIfInBounds t a) tmps) := by
        have := hT1 γ args'.toList tmps hT.2.2.1 hargs hT
        rw [← Array.foldl_toList, Array.toList_zip]
        exact this
      refine hassign γ { tmps := (ps.zip args').foldl (fun tmps (t, a) => tmps.setIfInBounds t a) tmps, defers := [] } w (some L) ⟨O, C, hγ⟩ ⟨hTr, trivial⟩ hS (hfresh.left (by omega)) _ (fun γ1 a1 w1 st1 hf1 => ?_)
      have hsb1 := st1.sat.blk l
      rw [hl1] at hsb1
      obtain ⟨B1, P1, Q1, fn1, tmps1, D1, P2, Q2, hg1, hmk1, hB1, hTT1⟩ := hsb1.loop_inv
      have : γ1 l = some (L, O, C) := st1.le _ _ hγ
      rw [this] at hg1; cases hg1
      refine ⟨{ w1 with heap := w1.heap.setIfInBounds L (.loop { state := .busy, pending := pend1, fn := fn1, tmps := tmps1, params := ps1, assign := as1, body := bd1, defers := D1 }) }, ?_, ?_⟩
      · simp [Instr.beginRound, run_getLoop hB1, run_setObj hB1 (by simp)]
      · have st2 : Step s1.next s1.next γ1 s1.at w1 γ1 s2.at { w1 with heap := w1.heap.setIfInBounds L (.loop { state := .busy, pending := pend1, fn := fn1, tmps := tmps1, params := ps1, assign := as1, body := bd1, defers := D1 }) } := by
          rw [hat2]
          exact Step.loopPut st1.sat hl1 this hmk1 hTT1 hB1
        have st12 := st1.trans n1 (Nat.le_refl _) st2
        show body.wpIn (FF (some L)) 0 P _ a1 _
        refine hbody γ1 a1 _ (some L) ⟨O, C, this⟩ hf1 st2.sat ?_ _ (fun γ3 a3 w3 st3 hf3 => ?_)
        · intro id q1 q2
          have := Fresh.right (s1 := s1) hfresh n1 st1 id (by omega) (by omega)
          exact this
        · have hsb3 := st3.sat.blk l
          rw [hl3] at hsb3
          obtain ⟨B3, P3, Q3, fn3, tmps3, D3, P4, Q4, hg3, hmk3, hB3, hTT3⟩ := hsb3.loop_inv
          have g3 : γ3 l = some (L, O, C) := st3.le _ _ this
          rw [g3] at hg3; cases hg3
          rw [e2] at st3 n3
          have st13 : Step s.next s3.next γ s.at w γ3 s3.at w3 := st12.trans n1 n3 st3
          have st4 : Step s3.next s3.next γ3 s3.at w3 γ3 s'.at { w3 with heap := w3.heap.setIfInBounds L (.loop { state := if (jumpOf ex2).isNone then .ready else .done, pending := jumpOf ex2, fn := fn3, tmps := tmps3, params := ps3, assign := as3, body := bd3, defers := D3 }) } := by
            rw [hat4]
            exact Step.loopPut st3.sat hl3 g3 hmk3 hTT3 hB3
          have hend : (Instr.endRound L (jumpOf ex2)).run P w3 = .ok (.bool (jumpOf ex2).isNone) { w3 with heap := w3.heap.setIfInBounds L (.loop { state := if (jumpOf ex2).isNone then .ready else .done, pending := jumpOf ex2, fn := fn3, tmps := tmps3, params := ps3, assign := as3, body := bd3, defers := D3 }) } := by
            simp [Instr.endRound, run_getLoop hB3, run_setObj hB3 (by simp)]
          have hfinal := hR γ3 _ (.bool (jumpOf ex2).isNone) (by rw [e4]; exact st13.trans (by omega) (Nat.le_refl _) st4) (by rw [hv]; exact .bool _)
          cases ex2 with
          | normal => exact ⟨_, _, hend, hfinal⟩
          | exit id => exact ⟨_, _, hend, hfinal⟩
          | ret => exact ⟨_, _, hend, hfinal⟩
end
end Go.Ev
