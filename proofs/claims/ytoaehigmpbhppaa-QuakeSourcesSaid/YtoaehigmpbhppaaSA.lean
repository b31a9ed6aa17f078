/-
  Two slices of the same list are equal.
-/
import Derived.Test.YtoaehigmpbhppaaS0
import Derived.Laws.StructEq
namespace Go.Proofs.Ytoaehigmpbhppaa.En
open Go Go.Ev Go.Proofs Go.RowKit
set_option linter.unusedSimpArgs false
set_option linter.unusedVariables false
theorem span_st : Try.prog.underlying 23 = some (.struct (Try.prog.fieldsOf 23)) := by kernel_rfl
theorem span_held : Try.prog.stoodInHeld 23 = false := by kernel_rfl
theorem span_struct : ∃ f g : Field, Try.prog.underlying 23 = some (.struct #[f, g]) ∧ f.name ≠ "_" ∧ g.name ≠ "_" ∧ f.type = 3 ∧ g.type = 3 ∧ f.offset = 0 ∧ g.offset = 1 := by
  have h := Try.underlying23
  exact ⟨_, _, h, by decide, by decide, rfl, rfl, rfl, rfl⟩
theorem span_fields : ∃ f g : Field, (Try.prog.fieldsOf 23).toList = [f, g] ∧ f.name ≠ "_" ∧ g.name ≠ "_" ∧ f.type = 3 ∧ g.type = 3 ∧ f.offset = 0 ∧ g.offset = 1 := by
  obtain ⟨f, g, h, k⟩ := span_struct
  exact ⟨f, g, by rw [Program.fieldsOf, h], k⟩
theorem int_und : Try.prog.underlying 3 = some (.int .i64) := by kernel_rfl
theorem span_guard : Try.prog.eqGuardType Try.prog.depth 23 = false := by kernel_rfl
theorem eq_span (d : Nat) (W : World) (a b c e : Int) : (Op.equalIn (d + 2) 23 (.agg #[.int .i64 a, .int .i64 b]) (.agg #[.int .i64 c, .int .i64 e])).run Try.prog W = .ok (a == c && b == e) W := by
  obtain ⟨f, g, h1, h2, h3, h4, h5, h6, h7⟩ := span_fields
  rw [run_equalIn_agg _ (d + 1) _ _ _ span_st span_held, h1]
  simp only [Op.eqFields, h2, h3, h4, h5, h6, h7, ne_eq, not_false_eq_true, if_true]
  have i0 := int_und
  by_cases h : a = c
  · simp [go_sem, i0, h]
    by_cases k : b = e
    · simp [k]
    · simp [k]
  · simp [go_sem, i0, h]
theorem src_st : Try.prog.underlying 54 = some (.struct (Try.prog.fieldsOf 54)) := by kernel_rfl
theorem src_held : Try.prog.stoodInHeld 54 = false := by kernel_rfl
theorem src_guard : Try.prog.eqGuardType Try.prog.depth 54 = false := by kernel_rfl
theorem src_struct : ∃ f0 f1 f2 f3 : Field, Try.prog.underlying 54 = some (.struct #[f0, f1, f2, f3]) ∧ f0.name ≠ "_" ∧ f1.name ≠ "_" ∧ f2.name ≠ "_" ∧ f3.name ≠ "_" ∧ f0.type = 3 ∧ f1.type = 3 ∧ f2.type = 3 ∧ f3.type = 23 ∧ f0.offset = 0 ∧ f1.offset = 1 ∧ f2.offset = 2 ∧ f3.offset = 3 := by
  have h := Try.underlying54
  exact ⟨_, _, _, _, h, by decide, by decide, by decide, by decide, rfl, rfl, rfl, rfl, rfl, rfl, rfl, rfl⟩
theorem src_fields : ∃ f0 f1 f2 f3 : Field, (Try.prog.fieldsOf 54).toList = [f0, f1, f2, f3] ∧ f0.name ≠ "_" ∧ f1.name ≠ "_" ∧ f2.name ≠ "_" ∧ f3.name ≠ "_" ∧ f0.type = 3 ∧ f1.type = 3 ∧ f2.type = 3 ∧ f3.type = 23 ∧ f0.offset = 0 ∧ f1.offset = 1 ∧ f2.offset = 2 ∧ f3.offset = 3 := by
  obtain ⟨f0, f1, f2, f3, h, k⟩ := src_struct
  exact ⟨f0, f1, f2, f3, by rw [Program.fieldsOf, h], k⟩
theorem eq_src (d : Nat) (W : World) (a0 a1 a2 a3 a4 b0 b1 b2 b3 b4 : Int) : (Op.equalIn (d + 3) 54 (.agg #[.int .i64 a0, .int .i64 a1, .int .i64 a2, .int .i64 a3, .int .i64 a4]) (.agg #[.int .i64 b0, .int .i64 b1, .int .i64 b2, .int .i64 b3, .int .i64 b4])).run Try.prog W
    = .ok (a0 == b0 && (a1 == b1 && (a2 == b2 && (a3 == b3 && a4 == b4)))) W := by
  obtain ⟨f0, f1, f2, f3, h1, n0, n1, n2, n3, t0, t1, t2, t3, o0, o1, o2, o3⟩ := src_fields
  rw [run_equalIn_agg _ (d + 2) _ _ _ src_st src_held, h1]
  simp only [Op.eqFields, n0, n1, n2, n3, t0, t1, t2, t3, o0, o1, o2, o3, ne_eq, not_false_eq_true, if_true]
  have i0 := int_und
  by_cases q0 : a0 = b0
  · by_cases q1 : a1 = b1
    · by_cases q2 : a2 = b2
      · by_cases q3 : a3 = b3
        · by_cases q4 : a4 = b4
          · simp [go_sem, i0, q0, q1, q2, q3, q4]
          · simp [go_sem, i0, q0, q1, q2, q3, q4]
        · simp [go_sem, i0, q0, q1, q2, q3]
      · simp [go_sem, i0, q0, q1, q2]
    · simp [go_sem, i0, q0, q1]
  · simp [go_sem, i0, q0]
theorem k_src {w : World} {a0 a1 a2 a3 a4 b0 b1 b2 b3 b4 : Int} {r : Bool} (h : r = !(a0 == b0 && (a1 == b1 && (a2 == b2 && (a3 == b3 && a4 == b4))))) :
    KeyOk Try.prog w (.bin .neq 54) [.agg #[.int .i64 a0, .int .i64 a1, .int .i64 a2, .int .i64 a3, .int .i64 a4], .agg #[.int .i64 b0, .int .i64 b1, .int .i64 b2, .int .i64 b3, .int .i64 b4]] (.bool r) := fun x y => ⟨run_eqGuard_agg w .neq 54 x y _ _ src_guard, by
  rw [run_neq_struct, show (10000 : Nat) = 9997 + 3 from rfl, eq_src 9997 w, h]
  rfl⟩

theorem k_src_t {w : World} {a0 a1 a2 a3 a4 b0 b1 b2 b3 b4 : Int} (h : ¬ (a0 = b0 ∧ a1 = b1 ∧ a2 = b2 ∧ a3 = b3 ∧ a4 = b4)) :
    KeyOk Try.prog w (.bin .neq 54) [.agg #[.int .i64 a0, .int .i64 a1, .int .i64 a2, .int .i64 a3, .int .i64 a4], .agg #[.int .i64 b0, .int .i64 b1, .int .i64 b2, .int .i64 b3, .int .i64 b4]] (.bool true) :=
  k_src (by
    cases hq : (a0 == b0 && (a1 == b1 && (a2 == b2 && (a3 == b3 && a4 == b4)))) with
    | false => rfl
    | true =>
      simp only [Bool.and_eq_true, beq_iff_eq] at hq
      exact absurd ⟨hq.1, hq.2.1, hq.2.2.1, hq.2.2.2.1, hq.2.2.2.2⟩ h)
theorem k_src_f {w : World} {a0 a1 a2 a3 a4 b0 b1 b2 b3 b4 : Int} (h : ¬ ¬ (a0 = b0 ∧ a1 = b1 ∧ a2 = b2 ∧ a3 = b3 ∧ a4 = b4)) :
    KeyOk Try.prog w (.bin .neq 54) [.agg #[.int .i64 a0, .int .i64 a1, .int .i64 a2, .int .i64 a3, .int .i64 a4], .agg #[.int .i64 b0, .int .i64 b1, .int .i64 b2, .int .i64 b3, .int .i64 b4]] (.bool false) :=
  k_src (by
    obtain ⟨h0, h1, h2, h3, h4⟩ := Classical.not_not.1 h
    simp [h0, h1, h2, h3, h4])
noncomputable def sameEq_b0 : Code := (Try.f23.body).getD .skip

noncomputable def sameEq_fr0 : Fr := mkFr Try.f23 [(0, (.chan (.some 0))), (1, (.chan (.some 1)))] []
noncomputable def sameEq_st0 : St := mkSt 0 []
theorem sameEq_wf0 : sameEq_st0.Wf := mkSt_wf rfl
set_option maxRecDepth 1000000 in
theorem sameEq_id0 : agreeL [sy 0, sy 1] [] [] sameEq_fr0 sameEq_st0 sameEq_fr0 sameEq_st0 = true := by kernel_rfl

set_option maxRecDepth 1000000 in
theorem sameEq_a0 : agreeL [sy 0, sy 1] [] [] sameEq_fr0 sameEq_st0 (frameOf Try.f23 [(.chan (.some 0)), (.chan (.some 1))]) Ev.start = true := by kernel_rfl

noncomputable def sameEq_b1 : Code := headC sameEq_b0

noncomputable def sameEq_b2 : Code := tailC sameEq_b0

set_option maxRecDepth 1000000 in
theorem sameEq_q0 : sameEq_b0 = .seq sameEq_b1 sameEq_b2 := by kernel_rfl

noncomputable def sameEq_fr1 : Fr := mkFr Try.f23 [(0, (.chan (.some 0))), (1, (.chan (.some 1))), (4, (.bool .false))] []
noncomputable def sameEq_st1 : St := mkSt 0 []
theorem sameEq_wf1 : sameEq_st1.Wf := mkSt_wf rfl
set_option maxRecDepth 1000000 in
theorem sameEq_id1 : agreeL [sy 0, sy 1] [] [] sameEq_fr1 sameEq_st1 sameEq_fr1 sameEq_st1 = true := by kernel_rfl

set_option maxRecDepth 1000000 in
theorem sameEq_r0 : ev Try.prog (env.symL [] [] [] []) 3000 (.code sameEq_b1 none sameEq_fr0 sameEq_st0 (stopL .normal [sy 0, sy 1] [] [] sameEq_fr1 sameEq_st1)) = some () := by kernel_rfl

noncomputable def sameEq_b3 : Code := headC sameEq_b2

noncomputable def sameEq_b4 : Code := tailC sameEq_b2

set_option maxRecDepth 1000000 in
theorem sameEq_q1 : sameEq_b2 = .seq sameEq_b3 sameEq_b4 := by kernel_rfl

noncomputable def sameEq_e1 : List Ent := [⟨(.bi 0 [38]), [(sy 0)], (sy 2)⟩, ⟨(.bi 0 [38]), [(sy 1)], (sy 3)⟩, ⟨(.bin .neq 3), [(sy 2), (sy 3)], (.bool true)⟩]
noncomputable def sameEq_c1 : List CEnt := []
noncomputable def sameEq_l1 : List LEnt := []
noncomputable def sameEq_cl1 : List CLEnt := []

set_option maxRecDepth 1000000 in
theorem sameEq_r1 : ev Try.prog (env.symL sameEq_e1 sameEq_c1 sameEq_l1 sameEq_cl1) 3000 (.code sameEq_b3 none sameEq_fr1 sameEq_st1 (stopRK (env.symL sameEq_e1 sameEq_c1 sameEq_l1 sameEq_cl1) Try.f23 (endV (.bool false)))) = some () := by kernel_rfl

noncomputable def sameEq_e2 : List Ent := [⟨(.bi 0 [38]), [(sy 0)], (sy 2)⟩, ⟨(.bi 0 [38]), [(sy 1)], (sy 3)⟩, ⟨(.bin .neq 3), [(sy 2), (sy 3)], (.bool false)⟩]
noncomputable def sameEq_c2 : List CEnt := []
noncomputable def sameEq_l2 : List LEnt := []
noncomputable def sameEq_cl2 : List CLEnt := []

noncomputable def sameEq_fr2 : Fr := mkFr Try.f23 [(0, (.chan (.some 0))), (1, (.chan (.some 1))), (4, (.bool .false))] []
noncomputable def sameEq_st2 : St := mkSt 0 []
theorem sameEq_wf2 : sameEq_st2.Wf := mkSt_wf rfl
set_option maxRecDepth 1000000 in
theorem sameEq_id2 : agreeL [sy 0, sy 1] [] [] sameEq_fr2 sameEq_st2 sameEq_fr2 sameEq_st2 = true := by kernel_rfl

set_option maxRecDepth 1000000 in
theorem sameEq_r2 : ev Try.prog (env.symL sameEq_e2 sameEq_c2 sameEq_l2 sameEq_cl2) 3000 (.code sameEq_b3 none sameEq_fr1 sameEq_st1 (stopL .normal [sy 0, sy 1] [] [] sameEq_fr2 sameEq_st2)) = some () := by kernel_rfl

noncomputable def sameEq_b5 : Code := headC sameEq_b4

noncomputable def sameEq_b6 : Code := tailC sameEq_b4

set_option maxRecDepth 1000000 in
theorem sameEq_q2 : sameEq_b4 = .seq sameEq_b5 sameEq_b6 := by kernel_rfl

noncomputable def sameEq_b7 : Code := headC sameEq_b5

noncomputable def sameEq_b8 : Code := tailC sameEq_b5

set_option maxRecDepth 1000000 in
theorem sameEq_q3 : sameEq_b5 = .seq sameEq_b7 sameEq_b8 := by kernel_rfl

noncomputable def sameEq_fr3 : Fr := mkFr Try.f23 [(0, (.chan (.some 0))), (1, (.chan (.some 1))), (4, (.bool .false)), (5, (.int .i64 (.ofNat 0)))] []
noncomputable def sameEq_st3 : St := mkSt 0 []
theorem sameEq_wf3 : sameEq_st3.Wf := mkSt_wf rfl
set_option maxRecDepth 1000000 in
theorem sameEq_id3 : agreeL [sy 0, sy 1] [] [] sameEq_fr3 sameEq_st3 sameEq_fr3 sameEq_st3 = true := by kernel_rfl

set_option maxRecDepth 1000000 in
theorem sameEq_r3 : ev Try.prog (env.symL [] [] [] []) 3000 (.code sameEq_b7 none sameEq_fr2 sameEq_st2 (stopL .normal [sy 0, sy 1] [] [] sameEq_fr3 sameEq_st3)) = some () := by kernel_rfl

noncomputable def sameEq_b9 : Code := inBlockC sameEq_b8

set_option maxRecDepth 1000000 in
theorem sameEq_q4 : sameEq_b8 = .block 0 sameEq_b9 := by kernel_rfl

noncomputable def sameEq_b10 : Code := inLoopC sameEq_b9

set_option maxRecDepth 1000000 in
theorem sameEq_q5 : sameEq_b9 = .loop sameEq_b10 := by kernel_rfl

noncomputable def sameEq_fr4 : Fr := mkFr Try.f23 [(0, (.chan (.some 0))), (1, (.chan (.some 1))), (4, (.bool .false)), (5, (.chan (.some 2)))] []
noncomputable def sameEq_st4 : St := mkSt 0 []
theorem sameEq_wf4 : sameEq_st4.Wf := mkSt_wf rfl
set_option maxRecDepth 1000000 in
theorem sameEq_id4 : agreeL [sy 0, sy 1, sy 2] [] [] sameEq_fr4 sameEq_st4 sameEq_fr4 sameEq_st4 = true := by kernel_rfl

set_option maxRecDepth 1000000 in
theorem sameEq_h6 : agreeL [(sy 0), (sy 1), (.int .i64 0)] [] [] sameEq_fr4 sameEq_st4 sameEq_fr3 sameEq_st3 = true := by kernel_rfl

noncomputable def sameEq_e4 : List Ent := [⟨(.bi 0 [38]), [(sy 0)], (sy 3)⟩, ⟨(.bin .lss 3), [(sy 2), (sy 3)], (.bool true)⟩, ⟨(.indexAddr 38), [(sy 0), (sy 2)], (sy 4)⟩, ⟨(.load 54), [(sy 4)], (.agg #[(sy 5), (sy 6), (sy 7), (sy 8), (sy 9)])⟩, ⟨(.indexAddr 38), [(sy 1), (sy 2)], (sy 10)⟩, ⟨(.load 54), [(sy 10)], (.agg #[(sy 11), (sy 12), (sy 13), (sy 14), (sy 15)])⟩, ⟨(.bin .neq 54), [(.agg #[(sy 5), (sy 6), (sy 7), (sy 8), (sy 9)]), (.agg #[(sy 11), (sy 12), (sy 13), (sy 14), (sy 15)])], (.bool true)⟩]
noncomputable def sameEq_c4 : List CEnt := []
noncomputable def sameEq_l4 : List LEnt := []
noncomputable def sameEq_cl4 : List CLEnt := []

set_option maxRecDepth 1000000 in
theorem sameEq_r4 : ev Try.prog (env.symL sameEq_e4 sameEq_c4 sameEq_l4 sameEq_cl4) 3000 (.code sameEq_b10 none sameEq_fr4 sameEq_st4 (stopRK (env.symL sameEq_e4 sameEq_c4 sameEq_l4 sameEq_cl4) Try.f23 (endV (.bool false)))) = some () := by kernel_rfl

noncomputable def sameEq_e5 : List Ent := [⟨(.bi 0 [38]), [(sy 0)], (sy 3)⟩, ⟨(.bin .lss 3), [(sy 2), (sy 3)], (.bool true)⟩, ⟨(.indexAddr 38), [(sy 0), (sy 2)], (sy 4)⟩, ⟨(.load 54), [(sy 4)], (.agg #[(sy 5), (sy 6), (sy 7), (sy 8), (sy 9)])⟩, ⟨(.indexAddr 38), [(sy 1), (sy 2)], (sy 10)⟩, ⟨(.load 54), [(sy 10)], (.agg #[(sy 11), (sy 12), (sy 13), (sy 14), (sy 15)])⟩, ⟨(.bin .neq 54), [(.agg #[(sy 5), (sy 6), (sy 7), (sy 8), (sy 9)]), (.agg #[(sy 11), (sy 12), (sy 13), (sy 14), (sy 15)])], (.bool false)⟩, ⟨(.bin .add 3), [(sy 2), (.int .i64 1)], (sy 16)⟩]
noncomputable def sameEq_c5 : List CEnt := []
noncomputable def sameEq_l5 : List LEnt := []
noncomputable def sameEq_cl5 : List CLEnt := []

set_option maxRecDepth 1000000 in
theorem sameEq_r5 : ev Try.prog (env.symL sameEq_e5 sameEq_c5 sameEq_l5 sameEq_cl5) 3000 (.code sameEq_b10 none sameEq_fr4 sameEq_st4 (stopL .normal [(sy 0), (sy 1), (sy 16)] [] [] sameEq_fr4 sameEq_st4)) = some () := by kernel_rfl

noncomputable def sameEq_e6 : List Ent := [⟨(.bi 0 [38]), [(sy 0)], (sy 3)⟩, ⟨(.bin .lss 3), [(sy 2), (sy 3)], (.bool false)⟩]
noncomputable def sameEq_c6 : List CEnt := []
noncomputable def sameEq_l6 : List LEnt := []
noncomputable def sameEq_cl6 : List CLEnt := []

noncomputable def sameEq_fr5 : Fr := mkFr Try.f23 [(4, (.bool .false))] []
noncomputable def sameEq_st5 : St := mkSt 0 []
theorem sameEq_wf5 : sameEq_st5.Wf := mkSt_wf rfl
set_option maxRecDepth 1000000 in
theorem sameEq_id5 : agreeL [sy 0, sy 1] [] [] sameEq_fr5 sameEq_st5 sameEq_fr5 sameEq_st5 = true := by kernel_rfl

set_option maxRecDepth 1000000 in
theorem sameEq_r6 : ev Try.prog (env.symL sameEq_e6 sameEq_c6 sameEq_l6 sameEq_cl6) 3000 (.code sameEq_b10 none sameEq_fr4 sameEq_st4 (stopL (.exit 0) [sy 0, sy 1] [] [] sameEq_fr5 sameEq_st5)) = some () := by kernel_rfl

set_option maxRecDepth 1000000 in
theorem sameEq_r7 : ev Try.prog (env.symL [] [] [] []) 3000 (.code sameEq_b6 none sameEq_fr5 sameEq_st5 (retK (env.symL [] [] [] []) Try.f23 (endV (.bool true)))) = some () := by kernel_rfl

set_option maxHeartbeats 8000000 in
set_option maxRecDepth 100000 in
theorem sameEq_any (al : Option Addr) (l : List Src) (ql : Nat) (am : Option Addr) (qm : Nat) (w0 : World) {tl tm : TypeId} (Hl : Lies w0 tl (flat srcC l) al l.length) (Hm : Lies w0 tm (flat srcC l) am l.length) (hn : l.length < 1000000) : Calls Try.prog 23 #[(.slice al l.length ql), (.slice am l.length qm)] w0 (fun en w' => en = .returned (.bool true) ∧ Below w0.heap.size w0 w') := by
  refine @calls_of_body (Rho.of [(.slice al l.length ql), (.slice am l.length qm)] (fun b => w0.heap[b]?) []) Try.prog env (@env_ok (Rho.of [(.slice al l.length ql), (.slice am l.length qm)] (fun b => w0.heap[b]?) [])) 23 Try.f23 sameEq_b0 [(.chan (.some 0)), (.chan (.some 1))] w0 _ (by kernel_rfl) (by kernel_rfl) (of_decide_eq_true (by kernel_rfl)) (of_decide_eq_true (by kernel_rfl)) rfl (fun _ _ h => h) (fun a hat0 => ?_)
  have hat : @At (Rho.of [(.slice al l.length ql), (.slice am l.length qm)] (fun b => w0.heap[b]?) []) w0 sameEq_fr0 sameEq_st0 a w0 := At.shiftL (σ := [sy 0, sy 1]) (π := []) (τ := []) ⟨rfl, rfl, rfl, rfl, trivial⟩ trivial (fun _ _ h => h) sameEq_wf0 sameEq_a0 hat0
  clear hat0
  suffices key : ∀ w, @At (Rho.of [(.slice al l.length ql), (.slice am l.length qm)] (fun b => w0.heap[b]?) []) w0 sameEq_fr0 sameEq_st0 a w → sameEq_b0.wpIn (FF none) 0 Try.prog (bodyPostM Fence.wide 0 Try.prog Try.f23 (fun en w' => en = .returned (.bool true) ∧ Below w0.heap.size w0 w')) a w from key w0 hat
  clear hat
  intro w hat
  let p0 : Rho := (Rho.of [(.slice al l.length ql), (.slice am l.length qm)] (fun b => w0.heap[b]?) [])
  change @At p0 w0 sameEq_fr0 sameEq_st0 a w at hat
  refine g_seq sameEq_q0 ?_
  let r0 : Rho := (Rho.of [(.slice al l.length ql), (.slice am l.length qm)] (fun b => w0.heap[b]?) [])
  have hat1 : @At r0 w0 sameEq_fr0 sameEq_st0 a w := At.shiftL (ρ1 := p0) (ρ2 := r0) (σ := [sy 0, sy 1]) (π := []) (τ := []) ⟨rfl, rfl, rfl, rfl, trivial⟩ trivial (fun _ _ h => h) sameEq_wf0 sameEq_id0 hat
  let p1 : Rho := (Rho.of [(.slice al l.length ql), (.slice am l.length qm)] (fun b => w0.heap[b]?) [])
  refine At.pieceL (ρ1 := r0) (ρ2 := p1) (@Env.Ok.symL r0 _ _ (@env_ok r0) [] [] [] [] trivial trivial trivial trivial) sameEq_r0 ⟨rfl, rfl, rfl, rfl, trivial⟩ trivial (fun _ _ h => h) sameEq_wf0 sameEq_wf1 hat1 (fun a w hat => .inl ⟨rfl, ?_⟩)
  refine g_seq sameEq_q1 ?_
  by_cases c0 : ((l.length : Nat) : Int) ≠ ((l.length : Nat) : Int)
  · let r1 : Rho := (Rho.of [(.slice al l.length ql), (.slice am l.length qm), (.int .i64 (((l.length : Nat) : Int))), (.int .i64 (((l.length : Nat) : Int)))] (fun b => w0.heap[b]?) [])
    have hat1 : @At r1 w0 sameEq_fr1 sameEq_st1 a w := At.shiftL (ρ1 := p1) (ρ2 := r1) (σ := [sy 0, sy 1]) (π := []) (τ := []) ⟨rfl, rfl, rfl, rfl, trivial⟩ trivial (fun _ _ h => h) sameEq_wf1 sameEq_id1 hat
    refine @At.retGK r1 Try.prog (env.symL sameEq_e1 sameEq_c1 sameEq_l1 sameEq_cl1) (@Env.Ok.symL r1 _ _ (@env_ok r1) sameEq_e1 sameEq_c1 sameEq_l1 sameEq_cl1 ⟨⟨rfl, rfl, fun w hm => (show KeyOk Try.prog w (.bi 0 [38]) [(.slice al l.length ql)] (.int .i64 (((l.length : Nat) : Int))) from k_len Try.underlying38)⟩, ⟨rfl, rfl, fun w hm => (show KeyOk Try.prog w (.bi 0 [38]) [(.slice am l.length qm)] (.int .i64 (((l.length : Nat) : Int))) from k_len Try.underlying38)⟩, ⟨rfl, rfl, fun w hm => (show KeyOk Try.prog w (.bin .neq 3) [(.int .i64 (((l.length : Nat) : Int))), (.int .i64 (((l.length : Nat) : Int)))] (.bool true) from k_neq_t c0)⟩, trivial⟩ trivial trivial trivial) w0 3000 sameEq_b3 Try.f23 sameEq_fr1 sameEq_st1 _ _ sameEq_r1 sameEq_wf1 a w hat1 (@endV_ok r1 w0 (.bool false) (fun en w' => en = .returned (.bool true) ∧ Below w0.heap.size w0 w') rfl (fun w2 hb => ?_)) _ (fun a w h => .inr ⟨(fun q => nomatch q), h⟩)
    have v0 : (false : Bool) = true := by
      first | rfl | (exfalso; first | omega | (simp_all; done))
    have hv := congrArg (fun (y0 : Bool) => ((.bool y0) : Value)) v0
    exact ⟨congrArg Ending.returned hv, hb⟩
  · let r2 : Rho := (Rho.of [(.slice al l.length ql), (.slice am l.length qm), (.int .i64 (((l.length : Nat) : Int))), (.int .i64 (((l.length : Nat) : Int)))] (fun b => w0.heap[b]?) [])
    have hat1 : @At r2 w0 sameEq_fr1 sameEq_st1 a w := At.shiftL (ρ1 := p1) (ρ2 := r2) (σ := [sy 0, sy 1]) (π := []) (τ := []) ⟨rfl, rfl, rfl, rfl, trivial⟩ trivial (fun _ _ h => h) sameEq_wf1 sameEq_id1 hat
    let p2 : Rho := (Rho.of [(.slice al l.length ql), (.slice am l.length qm)] (fun b => w0.heap[b]?) [])
    refine At.pieceL (ρ1 := r2) (ρ2 := p2) (@Env.Ok.symL r2 _ _ (@env_ok r2) sameEq_e2 sameEq_c2 sameEq_l2 sameEq_cl2 ⟨⟨rfl, rfl, fun w hm => (show KeyOk Try.prog w (.bi 0 [38]) [(.slice al l.length ql)] (.int .i64 (((l.length : Nat) : Int))) from k_len Try.underlying38)⟩, ⟨rfl, rfl, fun w hm => (show KeyOk Try.prog w (.bi 0 [38]) [(.slice am l.length qm)] (.int .i64 (((l.length : Nat) : Int))) from k_len Try.underlying38)⟩, ⟨rfl, rfl, fun w hm => (show KeyOk Try.prog w (.bin .neq 3) [(.int .i64 (((l.length : Nat) : Int))), (.int .i64 (((l.length : Nat) : Int)))] (.bool false) from k_neq_f c0)⟩, trivial⟩ trivial trivial trivial) sameEq_r2 ⟨rfl, rfl, rfl, rfl, trivial⟩ trivial (fun _ _ h => h) sameEq_wf1 sameEq_wf2 hat1 (fun a w hat => .inl ⟨rfl, ?_⟩)
    refine g_seq sameEq_q2 ?_
    refine g_seq sameEq_q3 ?_
    let r3 : Rho := (Rho.of [(.slice al l.length ql), (.slice am l.length qm)] (fun b => w0.heap[b]?) [])
    have hat1 : @At r3 w0 sameEq_fr2 sameEq_st2 a w := At.shiftL (ρ1 := p2) (ρ2 := r3) (σ := [sy 0, sy 1]) (π := []) (τ := []) ⟨rfl, rfl, rfl, rfl, trivial⟩ trivial (fun _ _ h => h) sameEq_wf2 sameEq_id2 hat
    let p3 : Rho := (Rho.of [(.slice al l.length ql), (.slice am l.length qm)] (fun b => w0.heap[b]?) [])
    refine At.pieceL (ρ1 := r3) (ρ2 := p3) (@Env.Ok.symL r3 _ _ (@env_ok r3) [] [] [] [] trivial trivial trivial trivial) sameEq_r3 ⟨rfl, rfl, rfl, rfl, trivial⟩ trivial (fun _ _ h => h) sameEq_wf2 sameEq_wf3 hat1 (fun a w hat => .inl ⟨rfl, ?_⟩)
    refine g_block sameEq_q4 ?_
    have hat0 := At.shiftL (ρ1 := p3) (ρ2 := (Rho.of [(.slice al l.length ql), (.slice am l.length qm), (.int .i64 ((0 : Int)))] (fun b => w0.heap[b]?) [])) (σ := [(sy 0), (sy 1), (.int .i64 0)]) (π := []) (τ := []) ⟨rfl, rfl, rfl, rfl, rfl, rfl, trivial⟩ trivial (fun _ _ h => h) sameEq_wf4 sameEq_h6 hat
    clear hat
    refine g_loop (fun (x : Int) a w => (0 ≤ (x : Int) ∧ (x : Int) ≤ l.length) ∧ @At (Rho.of [(.slice al l.length ql), (.slice am l.length qm), (.int .i64 ((x : Int)))] (fun b => w0.heap[b]?) []) w0 sameEq_fr4 sameEq_st4 a w) (fun x => (l.length - (x : Int)).toNat) sameEq_q5 ?_ (0) ⟨?_, hat0⟩
    · clear hat0
      rintro i a w ⟨hinv, hat⟩
      change 0 ≤ i ∧ i ≤ l.length at hinv
      let p4 : Rho := (Rho.of [(.slice al l.length ql), (.slice am l.length qm), (.int .i64 (i))] (fun b => w0.heap[b]?) [])
      change @At p4 w0 sameEq_fr4 sameEq_st4 a w at hat
      obtain ⟨i0, i1⟩ := hinv
      by_cases c1 : i < ((l.length : Nat) : Int)
      · obtain ⟨z2, hz2⟩ : ∃ z : Src, z = l.getD (i).toNat srcD := ⟨_, rfl⟩
        by_cases c3 : ¬ (z2.kind = z2.kind ∧ z2.cell = z2.cell ∧ z2.cls = z2.cls ∧ z2.lo = z2.lo ∧ z2.hi = z2.hi)
        · let r4 : Rho := (Rho.of [(.slice al l.length ql), (.slice am l.length qm), (.int .i64 (i)), (.int .i64 (((l.length : Nat) : Int))), (.pointer (ptrO al ((i).toNat * 5))), (.int .i64 (z2.kind)), (.int .i64 (z2.cell)), (.int .i64 (z2.cls)), (.int .i64 (z2.lo)), (.int .i64 (z2.hi)), (.pointer (ptrO am ((i).toNat * 5))), (.int .i64 (z2.kind)), (.int .i64 (z2.cell)), (.int .i64 (z2.cls)), (.int .i64 (z2.lo)), (.int .i64 (z2.hi))] (fun b => w0.heap[b]?) [])
          have hat1 : @At r4 w0 sameEq_fr4 sameEq_st4 a w := At.shiftL (ρ1 := p4) (ρ2 := r4) (σ := [sy 0, sy 1, sy 2]) (π := []) (τ := []) ⟨rfl, rfl, rfl, rfl, rfl, rfl, trivial⟩ trivial (fun _ _ h => h) sameEq_wf4 sameEq_id4 hat
          refine @At.retGK r4 Try.prog (env.symL sameEq_e4 sameEq_c4 sameEq_l4 sameEq_cl4) (@Env.Ok.symL r4 _ _ (@env_ok r4) sameEq_e4 sameEq_c4 sameEq_l4 sameEq_cl4 ⟨⟨rfl, rfl, fun w hm => (show KeyOk Try.prog w (.bi 0 [38]) [(.slice al l.length ql)] (.int .i64 (((l.length : Nat) : Int))) from k_len Try.underlying38)⟩, ⟨rfl, rfl, fun w hm => (show KeyOk Try.prog w (.bin .lss 3) [(.int .i64 (i)), (.int .i64 (((l.length : Nat) : Int)))] (.bool true) from k_lss_t c1)⟩, ⟨rfl, rfl, fun w hm => (show KeyOk Try.prog w (.indexAddr 38) [(.slice al l.length ql), (.int .i64 (i))] (.pointer (ptrO al ((i).toNat * 5))) from l_index (Hl.keep hm) Try.underlying38 (by kernel_rfl) (by omega) (by omega))⟩, ⟨rfl, rfl, fun w hm => (show KeyOk Try.prog w (.load 54) [(.pointer (ptrO al ((i).toNat * 5)))] (.agg #[(.int .i64 (z2.kind)), (.int .i64 (z2.cell)), (.int .i64 (z2.cls)), (.int .i64 (z2.lo)), (.int .i64 (z2.hi))]) from l_loadS (Hl.keep hm) (by omega) Try.underlying54 rfl (l := [(.int .i64 (z2.kind)), (.int .i64 (z2.cell)), (.int .i64 (z2.cls)), (.int .i64 (z2.lo)), (.int .i64 (z2.hi))]) (by kernel_rfl) (flat_getz (c := srcC) (sz := 5) (fun _ => rfl) hz2 (by omega)))⟩, ⟨rfl, rfl, fun w hm => (show KeyOk Try.prog w (.indexAddr 38) [(.slice am l.length qm), (.int .i64 (i))] (.pointer (ptrO am ((i).toNat * 5))) from l_index (Hm.keep hm) Try.underlying38 (by kernel_rfl) (by omega) (by omega))⟩, ⟨rfl, rfl, fun w hm => (show KeyOk Try.prog w (.load 54) [(.pointer (ptrO am ((i).toNat * 5)))] (.agg #[(.int .i64 (z2.kind)), (.int .i64 (z2.cell)), (.int .i64 (z2.cls)), (.int .i64 (z2.lo)), (.int .i64 (z2.hi))]) from l_loadS (Hm.keep hm) (by omega) Try.underlying54 rfl (l := [(.int .i64 (z2.kind)), (.int .i64 (z2.cell)), (.int .i64 (z2.cls)), (.int .i64 (z2.lo)), (.int .i64 (z2.hi))]) (by kernel_rfl) (flat_getz (c := srcC) (sz := 5) (fun _ => rfl) hz2 (by omega)))⟩, ⟨rfl, rfl, fun w hm => (show KeyOk Try.prog w (.bin .neq 54) [(.agg #[(.int .i64 (z2.kind)), (.int .i64 (z2.cell)), (.int .i64 (z2.cls)), (.int .i64 (z2.lo)), (.int .i64 (z2.hi))]), (.agg #[(.int .i64 (z2.kind)), (.int .i64 (z2.cell)), (.int .i64 (z2.cls)), (.int .i64 (z2.lo)), (.int .i64 (z2.hi))])] (.bool true) from k_src_t c3)⟩, trivial⟩ trivial trivial trivial) w0 3000 sameEq_b10 Try.f23 sameEq_fr4 sameEq_st4 _ _ sameEq_r4 sameEq_wf4 a w hat1 (@endV_ok r4 w0 (.bool false) (fun en w' => en = .returned (.bool true) ∧ Below w0.heap.size w0 w') rfl (fun w2 hb => ?_)) _ (fun a w h => .inr ⟨.inr rfl, .inr ⟨(fun q => nomatch q), .inr ⟨(fun q => nomatch q), h⟩⟩⟩)
          have v0 : (false : Bool) = true := by
            first | rfl | (exfalso; first | omega | (simp_all; done))
          have hv := congrArg (fun (y0 : Bool) => ((.bool y0) : Value)) v0
          exact ⟨congrArg Ending.returned hv, hb⟩
        · let r5 : Rho := (Rho.of [(.slice al l.length ql), (.slice am l.length qm), (.int .i64 (i)), (.int .i64 (((l.length : Nat) : Int))), (.pointer (ptrO al ((i).toNat * 5))), (.int .i64 (z2.kind)), (.int .i64 (z2.cell)), (.int .i64 (z2.cls)), (.int .i64 (z2.lo)), (.int .i64 (z2.hi)), (.pointer (ptrO am ((i).toNat * 5))), (.int .i64 (z2.kind)), (.int .i64 (z2.cell)), (.int .i64 (z2.cls)), (.int .i64 (z2.lo)), (.int .i64 (z2.hi)), (.int .i64 ((i + 1)))] (fun b => w0.heap[b]?) [])
          have hat1 : @At r5 w0 sameEq_fr4 sameEq_st4 a w := At.shiftL (ρ1 := p4) (ρ2 := r5) (σ := [sy 0, sy 1, sy 2]) (π := []) (τ := []) ⟨rfl, rfl, rfl, rfl, rfl, rfl, trivial⟩ trivial (fun _ _ h => h) sameEq_wf4 sameEq_id4 hat
          refine At.pieceL (ρ1 := r5) (ρ2 := (Rho.of [(.slice al l.length ql), (.slice am l.length qm), (.int .i64 (((i + 1) : Int)))] (fun b => w0.heap[b]?) [])) (@Env.Ok.symL r5 _ _ (@env_ok r5) sameEq_e5 sameEq_c5 sameEq_l5 sameEq_cl5 ⟨⟨rfl, rfl, fun w hm => (show KeyOk Try.prog w (.bi 0 [38]) [(.slice al l.length ql)] (.int .i64 (((l.length : Nat) : Int))) from k_len Try.underlying38)⟩, ⟨rfl, rfl, fun w hm => (show KeyOk Try.prog w (.bin .lss 3) [(.int .i64 (i)), (.int .i64 (((l.length : Nat) : Int)))] (.bool true) from k_lss_t c1)⟩, ⟨rfl, rfl, fun w hm => (show KeyOk Try.prog w (.indexAddr 38) [(.slice al l.length ql), (.int .i64 (i))] (.pointer (ptrO al ((i).toNat * 5))) from l_index (Hl.keep hm) Try.underlying38 (by kernel_rfl) (by omega) (by omega))⟩, ⟨rfl, rfl, fun w hm => (show KeyOk Try.prog w (.load 54) [(.pointer (ptrO al ((i).toNat * 5)))] (.agg #[(.int .i64 (z2.kind)), (.int .i64 (z2.cell)), (.int .i64 (z2.cls)), (.int .i64 (z2.lo)), (.int .i64 (z2.hi))]) from l_loadS (Hl.keep hm) (by omega) Try.underlying54 rfl (l := [(.int .i64 (z2.kind)), (.int .i64 (z2.cell)), (.int .i64 (z2.cls)), (.int .i64 (z2.lo)), (.int .i64 (z2.hi))]) (by kernel_rfl) (flat_getz (c := srcC) (sz := 5) (fun _ => rfl) hz2 (by omega)))⟩, ⟨rfl, rfl, fun w hm => (show KeyOk Try.prog w (.indexAddr 38) [(.slice am l.length qm), (.int .i64 (i))] (.pointer (ptrO am ((i).toNat * 5))) from l_index (Hm.keep hm) Try.underlying38 (by kernel_rfl) (by omega) (by omega))⟩, ⟨rfl, rfl, fun w hm => (show KeyOk Try.prog w (.load 54) [(.pointer (ptrO am ((i).toNat * 5)))] (.agg #[(.int .i64 (z2.kind)), (.int .i64 (z2.cell)), (.int .i64 (z2.cls)), (.int .i64 (z2.lo)), (.int .i64 (z2.hi))]) from l_loadS (Hm.keep hm) (by omega) Try.underlying54 rfl (l := [(.int .i64 (z2.kind)), (.int .i64 (z2.cell)), (.int .i64 (z2.cls)), (.int .i64 (z2.lo)), (.int .i64 (z2.hi))]) (by kernel_rfl) (flat_getz (c := srcC) (sz := 5) (fun _ => rfl) hz2 (by omega)))⟩, ⟨rfl, rfl, fun w hm => (show KeyOk Try.prog w (.bin .neq 54) [(.agg #[(.int .i64 (z2.kind)), (.int .i64 (z2.cell)), (.int .i64 (z2.cls)), (.int .i64 (z2.lo)), (.int .i64 (z2.hi))]), (.agg #[(.int .i64 (z2.kind)), (.int .i64 (z2.cell)), (.int .i64 (z2.cls)), (.int .i64 (z2.lo)), (.int .i64 (z2.hi))])] (.bool false) from k_src_f c3)⟩, ⟨rfl, rfl, fun w hm => (show KeyOk Try.prog w (.bin .add 3) [(.int .i64 (i)), (.int .i64 1)] (.int .i64 ((i + 1))) from k_add (wrap64 (by omega)))⟩, trivial⟩ trivial trivial trivial) sameEq_r5 ⟨rfl, rfl, rfl, rfl, rfl, rfl, trivial⟩ trivial (fun _ _ h => h) sameEq_wf4 sameEq_wf4 hat1 (fun a w hat => .inl ⟨rfl, ⟨((i + 1)), ?_, ?_, hat⟩⟩)
          · show (l.length - ((i + 1) : Int)).toNat < (l.length - i).toNat
            omega
          · show 0 ≤ ((i + 1) : Int) ∧ ((i + 1) : Int) ≤ l.length
            omega
      · let r6 : Rho := (Rho.of [(.slice al l.length ql), (.slice am l.length qm), (.int .i64 (i)), (.int .i64 (((l.length : Nat) : Int)))] (fun b => w0.heap[b]?) [])
        have hat1 : @At r6 w0 sameEq_fr4 sameEq_st4 a w := At.shiftL (ρ1 := p4) (ρ2 := r6) (σ := [sy 0, sy 1, sy 2]) (π := []) (τ := []) ⟨rfl, rfl, rfl, rfl, rfl, rfl, trivial⟩ trivial (fun _ _ h => h) sameEq_wf4 sameEq_id4 hat
        let p5 : Rho := (Rho.of [(.slice al l.length ql), (.slice am l.length qm)] (fun b => w0.heap[b]?) [])
        refine At.pieceL (ρ1 := r6) (ρ2 := p5) (@Env.Ok.symL r6 _ _ (@env_ok r6) sameEq_e6 sameEq_c6 sameEq_l6 sameEq_cl6 ⟨⟨rfl, rfl, fun w hm => (show KeyOk Try.prog w (.bi 0 [38]) [(.slice al l.length ql)] (.int .i64 (((l.length : Nat) : Int))) from k_len Try.underlying38)⟩, ⟨rfl, rfl, fun w hm => (show KeyOk Try.prog w (.bin .lss 3) [(.int .i64 (i)), (.int .i64 (((l.length : Nat) : Int)))] (.bool false) from k_lss_f c1)⟩, trivial⟩ trivial trivial trivial) sameEq_r6 ⟨rfl, rfl, rfl, rfl, trivial⟩ trivial (fun _ _ h => h) sameEq_wf4 sameEq_wf5 hat1 (fun a w hat => .inr ⟨.inl ⟨0, rfl⟩, .inl ⟨rfl, .inl ⟨rfl, ?_⟩⟩⟩)
        let r7 : Rho := (Rho.of [(.slice al l.length ql), (.slice am l.length qm)] (fun b => w0.heap[b]?) [])
        have hat1 : @At r7 w0 sameEq_fr5 sameEq_st5 a w := At.shiftL (ρ1 := p5) (ρ2 := r7) (σ := [sy 0, sy 1]) (π := []) (τ := []) ⟨rfl, rfl, rfl, rfl, trivial⟩ trivial (fun _ _ h => h) sameEq_wf5 sameEq_id5 hat
        refine @At.lastK r7 Try.prog (env.symL [] [] [] []) (@Env.Ok.symL r7 _ _ (@env_ok r7) [] [] [] [] trivial trivial trivial trivial) w0 3000 sameEq_b6 Try.f23 sameEq_fr5 sameEq_st5 _ _ sameEq_r7 sameEq_wf5 a w hat1 (@endV_ok r7 w0 (.bool true) (fun en w' => en = .returned (.bool true) ∧ Below w0.heap.size w0 w') rfl (fun w2 hb => ?_))
        have v0 : (true : Bool) = true := by
          first | rfl | (exfalso; first | omega | (simp_all; done))
        have hv := congrArg (fun (y0 : Bool) => ((.bool y0) : Value)) v0
        exact ⟨congrArg Ending.returned hv, hb⟩
    · show 0 ≤ (0 : Int) ∧ (0 : Int) ≤ l.length
      omega

theorem sameEq2_any (al : Option Addr) (l : List Src) (ql : Nat) (am : Option Addr) (m : List Src) (qm : Nat) (w0 : World) {tl tm : TypeId} (Hl : Lies w0 tl (flat srcC l) al l.length) (Hm : Lies w0 tm (flat srcC m) am m.length) (h : m = l) (hn : l.length < 1000000) :
    Calls Try.prog 23 #[(.slice al l.length ql), (.slice am m.length qm)] w0 (fun en w' => en = .returned (.bool true) ∧ Below w0.heap.size w0 w') := by
  subst h
  exact sameEq_any al m ql am qm w0 Hl Hm hn
end Go.Proofs.Ytoaehigmpbhppaa.En
