/-
  CheckSources returns what the chapter says, whatever the list.
-/
import Derived.Test.YtoaehigmpbhppaaS1
namespace Go.Proofs.Ytoaehigmpbhppaa.En
open Go Go.Ev Go.Proofs Go.RowKit
set_option linter.unusedSimpArgs false
set_option linter.unusedVariables false
noncomputable def checkSources_b0 : Code := (Try.f24.body).getD .skip

noncomputable def checkSources_fr0 : Fr := mkFr Try.f24 [(0, (.agg #[(.chan (.some 0)), (.chan (.some 1)), (.chan (.some 2)), (.chan (.some 3)), (.chan (.some 4)), (.chan (.some 5)), (.chan (.some 6)), (.chan (.some 7))])), (1, (.chan (.some 8)))] []
noncomputable def checkSources_st0 : St := mkSt 0 []
theorem checkSources_wf0 : checkSources_st0.Wf := mkSt_wf rfl
set_option maxRecDepth 1000000 in
theorem checkSources_id0 : agreeL [sy 0, sy 1, sy 2, sy 3, sy 4, sy 5, sy 6, sy 7, sy 8] [] [] checkSources_fr0 checkSources_st0 checkSources_fr0 checkSources_st0 = true := by kernel_rfl

set_option maxRecDepth 1000000 in
theorem checkSources_a0 : agreeL [sy 0, sy 1, sy 2, sy 3, sy 4, sy 5, sy 6, sy 7, sy 8] [] [] checkSources_fr0 checkSources_st0 (frameOf Try.f24 [(.agg #[(.chan (.some 0)), (.chan (.some 1)), (.chan (.some 2)), (.chan (.some 3)), (.chan (.some 4)), (.chan (.some 5)), (.chan (.some 6)), (.chan (.some 7))]), (.chan (.some 8))]) Ev.start = true := by kernel_rfl

noncomputable def checkSources_b1 : Code := headC checkSources_b0

noncomputable def checkSources_b2 : Code := tailC checkSources_b0

set_option maxRecDepth 1000000 in
theorem checkSources_q0 : checkSources_b0 = .seq checkSources_b1 checkSources_b2 := by kernel_rfl

noncomputable def checkSources_fr1 : Fr := mkFr Try.f24 [(1, (.chan (.some 8))), (2, (.pointer (.some (.mk 0 0 .none)))), (4, (iV (.ofNat 0)))] []
noncomputable def checkSources_st1 : St := mkSt 1 [(0, (.cells [(.chan (.some 0)), (.chan (.some 1)), (.chan (.some 2)), (.chan (.some 3)), (.chan (.some 4)), (.chan (.some 5)), (.chan (.some 6)), (.chan (.some 7))] 25 .none .false))]
theorem checkSources_wf1 : checkSources_st1.Wf := mkSt_wf rfl
set_option maxRecDepth 1000000 in
theorem checkSources_id1 : agreeL [sy 0, sy 1, sy 2, sy 3, sy 4, sy 5, sy 6, sy 7, sy 8] [0] [] checkSources_fr1 checkSources_st1 checkSources_fr1 checkSources_st1 = true := by kernel_rfl

set_option maxRecDepth 1000000 in
theorem checkSources_r0 : ev Try.prog (env.symL [] [] [] []) 3000 (.code checkSources_b1 none checkSources_fr0 checkSources_st0 (stopL .normal [sy 0, sy 1, sy 2, sy 3, sy 4, sy 5, sy 6, sy 7, sy 8] [0] [] checkSources_fr1 checkSources_st1)) = some () := by kernel_rfl

noncomputable def checkSources_b3 : Code := headC checkSources_b2

noncomputable def checkSources_b4 : Code := tailC checkSources_b2

set_option maxRecDepth 1000000 in
theorem checkSources_q1 : checkSources_b2 = .seq checkSources_b3 checkSources_b4 := by kernel_rfl

noncomputable def checkSources_e1 : List Ent := [⟨(.bin .neq 27), [(sy 9), (iV 0)], (.bool true)⟩]
noncomputable def checkSources_c1 : List CEnt := [⟨18, [(.agg #[(sy 0), (sy 1), (sy 2), (sy 3), (sy 4), (sy 5), (sy 6), (sy 7)])], [], (sy 9)⟩]
noncomputable def checkSources_l1 : List LEnt := []
noncomputable def checkSources_cl1 : List CLEnt := []

set_option maxRecDepth 1000000 in
theorem checkSources_r1 : ev Try.prog (env.symL checkSources_e1 checkSources_c1 checkSources_l1 checkSources_cl1) 3000 (.code checkSources_b3 none checkSources_fr1 checkSources_st1 (stopRK (env.symL checkSources_e1 checkSources_c1 checkSources_l1 checkSources_cl1) Try.f24 (endV (sy 9)))) = some () := by kernel_rfl

noncomputable def checkSources_e2 : List Ent := [⟨(.bin .neq 27), [(sy 9), (iV 0)], (.bool false)⟩]
noncomputable def checkSources_c2 : List CEnt := [⟨18, [(.agg #[(sy 0), (sy 1), (sy 2), (sy 3), (sy 4), (sy 5), (sy 6), (sy 7)])], [], (sy 9)⟩]
noncomputable def checkSources_l2 : List LEnt := []
noncomputable def checkSources_cl2 : List CLEnt := []

noncomputable def checkSources_fr2 : Fr := mkFr Try.f24 [(1, (.chan (.some 8))), (2, (.pointer (.some (.mk 0 0 .none)))), (4, (iV (.ofNat 0)))] []
noncomputable def checkSources_st2 : St := mkSt 1 [(0, (.cells [(.chan (.some 0)), (.chan (.some 1)), (.chan (.some 2)), (.chan (.some 3)), (.chan (.some 4)), (.chan (.some 5)), (.chan (.some 6)), (.chan (.some 7))] 25 .none .false))]
theorem checkSources_wf2 : checkSources_st2.Wf := mkSt_wf rfl
set_option maxRecDepth 1000000 in
theorem checkSources_id2 : agreeL [sy 0, sy 1, sy 2, sy 3, sy 4, sy 5, sy 6, sy 7, sy 8] [0] [] checkSources_fr2 checkSources_st2 checkSources_fr2 checkSources_st2 = true := by kernel_rfl

set_option maxRecDepth 1000000 in
theorem checkSources_r2 : ev Try.prog (env.symL checkSources_e2 checkSources_c2 checkSources_l2 checkSources_cl2) 3000 (.code checkSources_b3 none checkSources_fr1 checkSources_st1 (stopL .normal [sy 0, sy 1, sy 2, sy 3, sy 4, sy 5, sy 6, sy 7, sy 8] [0] [] checkSources_fr2 checkSources_st2)) = some () := by kernel_rfl

noncomputable def checkSources_b5 : Code := headC checkSources_b4

noncomputable def checkSources_b6 : Code := tailC checkSources_b4

set_option maxRecDepth 1000000 in
theorem checkSources_q2 : checkSources_b4 = .seq checkSources_b5 checkSources_b6 := by kernel_rfl

noncomputable def checkSources_e3 : List Ent := [⟨(.bi 0 [38]), [(sy 8)], (sy 9)⟩, ⟨(.bin .gtr 3), [(sy 9), (iV 256)], (.bool true)⟩]
noncomputable def checkSources_c3 : List CEnt := []
noncomputable def checkSources_l3 : List LEnt := []
noncomputable def checkSources_cl3 : List CLEnt := []

set_option maxRecDepth 1000000 in
theorem checkSources_r3 : ev Try.prog (env.symL checkSources_e3 checkSources_c3 checkSources_l3 checkSources_cl3) 3000 (.code checkSources_b5 none checkSources_fr2 checkSources_st2 (stopRK (env.symL checkSources_e3 checkSources_c3 checkSources_l3 checkSources_cl3) Try.f24 (endV (iV 9)))) = some () := by kernel_rfl

noncomputable def checkSources_e4 : List Ent := [⟨(.bi 0 [38]), [(sy 8)], (sy 9)⟩, ⟨(.bin .gtr 3), [(sy 9), (iV 256)], (.bool false)⟩]
noncomputable def checkSources_c4 : List CEnt := []
noncomputable def checkSources_l4 : List LEnt := []
noncomputable def checkSources_cl4 : List CLEnt := []

noncomputable def checkSources_fr3 : Fr := mkFr Try.f24 [(1, (.chan (.some 8))), (2, (.pointer (.some (.mk 0 0 .none)))), (4, (iV (.ofNat 0)))] []
noncomputable def checkSources_st3 : St := mkSt 1 [(0, (.cells [(.chan (.some 0)), (.chan (.some 1)), (.chan (.some 2)), (.chan (.some 3)), (.chan (.some 4)), (.chan (.some 5)), (.chan (.some 6)), (.chan (.some 7))] 25 .none .false))]
theorem checkSources_wf3 : checkSources_st3.Wf := mkSt_wf rfl
set_option maxRecDepth 1000000 in
theorem checkSources_id3 : agreeL [sy 0, sy 1, sy 2, sy 3, sy 4, sy 5, sy 6, sy 7, sy 8] [0] [] checkSources_fr3 checkSources_st3 checkSources_fr3 checkSources_st3 = true := by kernel_rfl

set_option maxRecDepth 1000000 in
theorem checkSources_r4 : ev Try.prog (env.symL checkSources_e4 checkSources_c4 checkSources_l4 checkSources_cl4) 3000 (.code checkSources_b5 none checkSources_fr2 checkSources_st2 (stopL .normal [sy 0, sy 1, sy 2, sy 3, sy 4, sy 5, sy 6, sy 7, sy 8] [0] [] checkSources_fr3 checkSources_st3)) = some () := by kernel_rfl

noncomputable def checkSources_b7 : Code := headC checkSources_b6

noncomputable def checkSources_b8 : Code := tailC checkSources_b6

set_option maxRecDepth 1000000 in
theorem checkSources_q3 : checkSources_b6 = .seq checkSources_b7 checkSources_b8 := by kernel_rfl

noncomputable def checkSources_b9 : Code := headC checkSources_b7

noncomputable def checkSources_b10 : Code := tailC checkSources_b7

set_option maxRecDepth 1000000 in
theorem checkSources_q4 : checkSources_b7 = .seq checkSources_b9 checkSources_b10 := by kernel_rfl

noncomputable def checkSources_e5 : List Ent := [⟨(.bi 0 [38]), [(sy 8)], (sy 9)⟩]
noncomputable def checkSources_c5 : List CEnt := []
noncomputable def checkSources_l5 : List LEnt := []
noncomputable def checkSources_cl5 : List CLEnt := []

noncomputable def checkSources_fr4 : Fr := mkFr Try.f24 [(2, (.pointer (.some (.mk 0 0 .none)))), (4, (iV (.ofNat 0))), (17, (.chan (.some 8))), (18, (.chan (.some 9))), (19, (iV (.ofNat 0)))] []
noncomputable def checkSources_st4 : St := mkSt 1 [(0, (.cells [(.chan (.some 0)), (.chan (.some 1)), (.chan (.some 2)), (.chan (.some 3)), (.chan (.some 4)), (.chan (.some 5)), (.chan (.some 6)), (.chan (.some 7))] 25 .none .false))]
theorem checkSources_wf4 : checkSources_st4.Wf := mkSt_wf rfl
set_option maxRecDepth 1000000 in
theorem checkSources_id4 : agreeL [sy 0, sy 1, sy 2, sy 3, sy 4, sy 5, sy 6, sy 7, sy 8, sy 9] [0] [] checkSources_fr4 checkSources_st4 checkSources_fr4 checkSources_st4 = true := by kernel_rfl

set_option maxRecDepth 1000000 in
theorem checkSources_r5 : ev Try.prog (env.symL checkSources_e5 checkSources_c5 checkSources_l5 checkSources_cl5) 3000 (.code checkSources_b9 none checkSources_fr3 checkSources_st3 (stopL .normal [sy 0, sy 1, sy 2, sy 3, sy 4, sy 5, sy 6, sy 7, sy 8, sy 9] [0] [] checkSources_fr4 checkSources_st4)) = some () := by kernel_rfl

noncomputable def checkSources_b11 : Code := inBlockC checkSources_b10

set_option maxRecDepth 1000000 in
theorem checkSources_q5 : checkSources_b10 = .block 0 checkSources_b11 := by kernel_rfl

noncomputable def checkSources_b12 : Code := inLoopC checkSources_b11

set_option maxRecDepth 1000000 in
theorem checkSources_q6 : checkSources_b11 = .loop checkSources_b12 := by kernel_rfl

noncomputable def checkSources_fr5 : Fr := mkFr Try.f24 [(2, (.pointer (.some (.mk 0 0 .none)))), (4, (iV (.ofNat 0))), (17, (.chan (.some 8))), (18, (.chan (.some 9))), (19, (.chan (.some 10)))] []
noncomputable def checkSources_st5 : St := mkSt 1 [(0, (.cells [(.chan (.some 0)), (.chan (.some 1)), (.chan (.some 2)), (.chan (.some 3)), (.chan (.some 4)), (.chan (.some 5)), (.chan (.some 6)), (.chan (.some 7))] 25 .none .false))]
theorem checkSources_wf5 : checkSources_st5.Wf := mkSt_wf rfl
set_option maxRecDepth 1000000 in
theorem checkSources_id5 : agreeL [sy 0, sy 1, sy 2, sy 3, sy 4, sy 5, sy 6, sy 7, sy 8, sy 9, sy 10] [0] [] checkSources_fr5 checkSources_st5 checkSources_fr5 checkSources_st5 = true := by kernel_rfl

set_option maxRecDepth 1000000 in
theorem checkSources_h7 : agreeL [(sy 0), (sy 1), (sy 2), (sy 3), (sy 4), (sy 5), (sy 6), (sy 7), (sy 8), (sy 9), (iV 0)] [0] [] checkSources_fr5 checkSources_st5 checkSources_fr4 checkSources_st4 = true := by kernel_rfl

noncomputable def checkSources_e6 : List Ent := [⟨(.bin .lss 3), [(sy 10), (sy 9)], (.bool true)⟩, ⟨(.indexAddr 38), [(sy 8), (sy 10)], (sy 11)⟩, ⟨(.load 54), [(sy 11)], (.agg #[(sy 12), (sy 13), (sy 14), (sy 15), (sy 16)])⟩, ⟨(.bin .neq 27), [(sy 17), (iV 0)], (.bool true)⟩]
noncomputable def checkSources_c6 : List CEnt := [⟨62, [(.agg #[(sy 0), (sy 1), (sy 2), (sy 3), (sy 4), (sy 5), (sy 6), (sy 7)]), (.agg #[(sy 12), (sy 13), (sy 14), (sy 15), (sy 16)])], [], (sy 17)⟩]
noncomputable def checkSources_l6 : List LEnt := []
noncomputable def checkSources_cl6 : List CLEnt := []

set_option maxRecDepth 1000000 in
theorem checkSources_r6 : ev Try.prog (env.symL checkSources_e6 checkSources_c6 checkSources_l6 checkSources_cl6) 3000 (.code checkSources_b12 none checkSources_fr5 checkSources_st5 (stopRK (env.symL checkSources_e6 checkSources_c6 checkSources_l6 checkSources_cl6) Try.f24 (endV (sy 17)))) = some () := by kernel_rfl

noncomputable def checkSources_e7 : List Ent := [⟨(.bin .lss 3), [(sy 10), (sy 9)], (.bool true)⟩, ⟨(.indexAddr 38), [(sy 8), (sy 10)], (sy 11)⟩, ⟨(.load 54), [(sy 11)], (.agg #[(sy 12), (sy 13), (sy 14), (sy 15), (sy 16)])⟩, ⟨(.bin .neq 27), [(sy 17), (iV 0)], (.bool false)⟩, ⟨(.bin .add 3), [(sy 10), (iV 1)], (sy 18)⟩]
noncomputable def checkSources_c7 : List CEnt := [⟨62, [(.agg #[(sy 0), (sy 1), (sy 2), (sy 3), (sy 4), (sy 5), (sy 6), (sy 7)]), (.agg #[(sy 12), (sy 13), (sy 14), (sy 15), (sy 16)])], [], (sy 17)⟩]
noncomputable def checkSources_l7 : List LEnt := []
noncomputable def checkSources_cl7 : List CLEnt := []

set_option maxRecDepth 1000000 in
theorem checkSources_r7 : ev Try.prog (env.symL checkSources_e7 checkSources_c7 checkSources_l7 checkSources_cl7) 3000 (.code checkSources_b12 none checkSources_fr5 checkSources_st5 (stopL .normal [(sy 0), (sy 1), (sy 2), (sy 3), (sy 4), (sy 5), (sy 6), (sy 7), (sy 8), (sy 9), (sy 18)] [0] [] checkSources_fr5 checkSources_st5)) = some () := by kernel_rfl

noncomputable def checkSources_e8 : List Ent := [⟨(.bin .lss 3), [(sy 10), (sy 9)], (.bool false)⟩]
noncomputable def checkSources_c8 : List CEnt := []
noncomputable def checkSources_l8 : List LEnt := []
noncomputable def checkSources_cl8 : List CLEnt := []

noncomputable def checkSources_fr6 : Fr := mkFr Try.f24 [(4, (iV (.ofNat 0)))] []
noncomputable def checkSources_st6 : St := mkSt 0 []
theorem checkSources_wf6 : checkSources_st6.Wf := mkSt_wf rfl
set_option maxRecDepth 1000000 in
theorem checkSources_id6 : agreeL [sy 0, sy 1, sy 2, sy 3, sy 4, sy 5, sy 6, sy 7, sy 8] [] [] checkSources_fr6 checkSources_st6 checkSources_fr6 checkSources_st6 = true := by kernel_rfl

set_option maxRecDepth 1000000 in
theorem checkSources_r8 : ev Try.prog (env.symL checkSources_e8 checkSources_c8 checkSources_l8 checkSources_cl8) 3000 (.code checkSources_b12 none checkSources_fr5 checkSources_st5 (stopL (.exit 0) [sy 0, sy 1, sy 2, sy 3, sy 4, sy 5, sy 6, sy 7, sy 8] [] [] checkSources_fr6 checkSources_st6)) = some () := by kernel_rfl

set_option maxRecDepth 1000000 in
theorem checkSources_r9 : ev Try.prog (env.symL [] [] [] []) 3000 (.code checkSources_b8 none checkSources_fr6 checkSources_st6 (retK (env.symL [] [] [] []) Try.f24 (endV (iV 0)))) = some () := by kernel_rfl

set_option maxHeartbeats 8000000 in
set_option maxRecDepth 100000 in
theorem checkSources_any (x0 : Int) (x1 : Int) (x2 : Int) (x3 : Int) (x4 : Int) (x5 : Int) (x6 : Int) (x7 : Int) (al : Option Addr) (l : List Src) (ql : Nat) (w0 : World) {tl : TypeId} (Hl : Lies w0 tl (flat srcC l) al l.length) (hn : l.length < 1000000) : Calls Try.prog 24 #[(.agg #[(iV x0), (iV x1), (iV x2), (iV x3), (iV x4), (iV x5), (iV x6), (iV x7)]), (.slice al l.length ql)] w0 (fun en w' => en = .returned (iV (if ¬ qcheck0 x0 x1 x2 x3 x4 x5 x6 x7 = 0 then qcheck0 x0 x1 x2 x3 x4 x5 x6 x7 else srcsErr x0 x1 l)) ∧ Below w0.heap.size w0 w') := by
  refine @calls_of_body (Rho.of [(iV x0), (iV x1), (iV x2), (iV x3), (iV x4), (iV x5), (iV x6), (iV x7), (.slice al l.length ql)] (fun b => w0.heap[b]?) []) Try.prog env (@env_ok (Rho.of [(iV x0), (iV x1), (iV x2), (iV x3), (iV x4), (iV x5), (iV x6), (iV x7), (.slice al l.length ql)] (fun b => w0.heap[b]?) [])) 24 Try.f24 checkSources_b0 [(.agg #[(.chan (.some 0)), (.chan (.some 1)), (.chan (.some 2)), (.chan (.some 3)), (.chan (.some 4)), (.chan (.some 5)), (.chan (.some 6)), (.chan (.some 7))]), (.chan (.some 8))] w0 _ (by kernel_rfl) (by kernel_rfl) (of_decide_eq_true (by kernel_rfl)) (of_decide_eq_true (by kernel_rfl)) rfl (fun _ _ h => h) (fun a hat0 => ?_)
  have hat : @At (Rho.of [(iV x0), (iV x1), (iV x2), (iV x3), (iV x4), (iV x5), (iV x6), (iV x7), (.slice al l.length ql)] (fun b => w0.heap[b]?) []) w0 checkSources_fr0 checkSources_st0 a w0 := At.shiftL (σ := [sy 0, sy 1, sy 2, sy 3, sy 4, sy 5, sy 6, sy 7, sy 8]) (π := []) (τ := []) ⟨rfl, rfl, rfl, rfl, rfl, rfl, rfl, rfl, rfl, rfl, rfl, rfl, rfl, rfl, rfl, rfl, rfl, rfl, trivial⟩ trivial (fun _ _ h => h) checkSources_wf0 checkSources_a0 hat0
  clear hat0
  suffices key : ∀ w, @At (Rho.of [(iV x0), (iV x1), (iV x2), (iV x3), (iV x4), (iV x5), (iV x6), (iV x7), (.slice al l.length ql)] (fun b => w0.heap[b]?) []) w0 checkSources_fr0 checkSources_st0 a w → checkSources_b0.wpIn (FF none) 0 Try.prog (bodyPostM Fence.wide 0 Try.prog Try.f24 (fun en w' => en = .returned (iV (if ¬ qcheck0 x0 x1 x2 x3 x4 x5 x6 x7 = 0 then qcheck0 x0 x1 x2 x3 x4 x5 x6 x7 else srcsErr x0 x1 l)) ∧ Below w0.heap.size w0 w')) a w from key w0 hat
  clear hat
  intro w hat
  let p0 : Rho := (Rho.of [(iV x0), (iV x1), (iV x2), (iV x3), (iV x4), (iV x5), (iV x6), (iV x7), (.slice al l.length ql)] (fun b => w0.heap[b]?) [])
  change @At p0 w0 checkSources_fr0 checkSources_st0 a w at hat
  refine g_seq checkSources_q0 ?_
  let r0 : Rho := (Rho.of [(iV x0), (iV x1), (iV x2), (iV x3), (iV x4), (iV x5), (iV x6), (iV x7), (.slice al l.length ql)] (fun b => w0.heap[b]?) [])
  have hat1 : @At r0 w0 checkSources_fr0 checkSources_st0 a w := At.shiftL (ρ1 := p0) (ρ2 := r0) (σ := [sy 0, sy 1, sy 2, sy 3, sy 4, sy 5, sy 6, sy 7, sy 8]) (π := []) (τ := []) ⟨rfl, rfl, rfl, rfl, rfl, rfl, rfl, rfl, rfl, rfl, rfl, rfl, rfl, rfl, rfl, rfl, rfl, rfl, trivial⟩ trivial (fun _ _ h => h) checkSources_wf0 checkSources_id0 hat
  let p1 : Rho := (Rho.of [(iV x0), (iV x1), (iV x2), (iV x3), (iV x4), (iV x5), (iV x6), (iV x7), (.slice al l.length ql)] (fun b => w0.heap[b]?) [])
  refine At.pieceL (ρ1 := r0) (ρ2 := p1) (@Env.Ok.symL r0 _ _ (@env_ok r0) [] [] [] [] trivial trivial trivial trivial) checkSources_r0 ⟨rfl, rfl, rfl, rfl, rfl, rfl, rfl, rfl, rfl, rfl, rfl, rfl, rfl, rfl, rfl, rfl, rfl, rfl, trivial⟩ trivial (fun _ _ h => h) checkSources_wf0 checkSources_wf1 hat1 (fun a w hat => .inl ⟨rfl, ?_⟩)
  refine g_seq checkSources_q1 ?_
  by_cases c0 : (qcheck0 (x0) (x1) (x2) (x3) (x4) (x5) (x6) (x7)) ≠ 0
  · let r1 : Rho := (Rho.of [(iV x0), (iV x1), (iV x2), (iV x3), (iV x4), (iV x5), (iV x6), (iV x7), (.slice al l.length ql), (iV ((qcheck0 (x0) (x1) (x2) (x3) (x4) (x5) (x6) (x7))))] (fun b => w0.heap[b]?) [])
    have hat1 : @At r1 w0 checkSources_fr1 checkSources_st1 a w := At.shiftL (ρ1 := p1) (ρ2 := r1) (σ := [sy 0, sy 1, sy 2, sy 3, sy 4, sy 5, sy 6, sy 7, sy 8]) (π := [0]) (τ := []) ⟨rfl, rfl, rfl, rfl, rfl, rfl, rfl, rfl, rfl, rfl, rfl, rfl, rfl, rfl, rfl, rfl, rfl, rfl, trivial⟩ trivial (fun _ _ h => h) checkSources_wf1 checkSources_id1 hat
    refine @At.retGK r1 Try.prog (env.symL checkSources_e1 checkSources_c1 checkSources_l1 checkSources_cl1) (@Env.Ok.symL r1 _ _ (@env_ok r1) checkSources_e1 checkSources_c1 checkSources_l1 checkSources_cl1 ⟨⟨rfl, rfl, fun w hm => (show KO w (.bin .neq 27) [(iV ((qcheck0 (x0) (x1) (x2) (x3) (x4) (x5) (x6) (x7)))), (iV 0)] (.bool true) from k_neq_t c0)⟩, trivial⟩ ⟨(@CEntOk.of r1 Try.prog _ 18 [(.agg #[(sy 0), (sy 1), (sy 2), (sy 3), (sy 4), (sy 5), (sy 6), (sy 7)])] (sy 9) #[(.agg #[(iV x0), (iV x1), (iV x2), (iV x3), (iV x4), (iV x5), (iV x6), (iV x7)])] (iV ((qcheck0 (x0) (x1) (x2) (x3) (x4) (x5) (x6) (x7)))) rfl ⟨Try.f18, (Try.f18.body).getD .skip, by kernel_rfl, by kernel_rfl⟩ rfl rfl rfl (fun w hm => qcheck_any (x0) (x1) (x2) (x3) (x4) (x5) (x6) (x7) w  )), trivial⟩ trivial trivial) w0 3000 checkSources_b3 Try.f24 checkSources_fr1 checkSources_st1 _ _ checkSources_r1 checkSources_wf1 a w hat1 (@endV_ok r1 w0 (sy 9) (fun en w' => en = .returned (iV (if ¬ qcheck0 x0 x1 x2 x3 x4 x5 x6 x7 = 0 then qcheck0 x0 x1 x2 x3 x4 x5 x6 x7 else srcsErr x0 x1 l)) ∧ Below w0.heap.size w0 w') rfl (fun w2 hb => ?_)) _ (fun a w h => .inr ⟨(fun q => nomatch q), h⟩)
    have v0 : ((qcheck0 (x0) (x1) (x2) (x3) (x4) (x5) (x6) (x7)) : Int) = (if ¬ qcheck0 x0 x1 x2 x3 x4 x5 x6 x7 = 0 then qcheck0 x0 x1 x2 x3 x4 x5 x6 x7 else srcsErr x0 x1 l) := by
      first | (rw [if_pos (by omega)]; done) | (rw [if_neg (by omega)]; unfold srcsErr; rw [if_pos (by omega)]; done) | (rw [if_neg (by omega)]; unfold srcsErr; rw [if_neg (by omega)]; first | (rw [firstErr_at (srcErr x0 x1) srcD l i.toNat (by omega) (fun k hk => i2 k (by omega)) (by simp_all)]; simp_all; done) | (rw [firstErr_all (srcErr x0 x1) srcD l (fun k hk => i2 k (by omega))]))
    have hv := congrArg (fun (y0 : Int) => ((iV y0) : Value)) v0
    exact ⟨congrArg Ending.returned hv, hb⟩
  · have hv := qcheck_ok (x0 := x0) (x1 := x1) (x2 := x2) (x3 := x3) (x4 := x4) (x5 := x5) (x6 := x6) (x7 := x7) (by omega)
    let r2 : Rho := (Rho.of [(iV x0), (iV x1), (iV x2), (iV x3), (iV x4), (iV x5), (iV x6), (iV x7), (.slice al l.length ql), (iV ((qcheck0 (x0) (x1) (x2) (x3) (x4) (x5) (x6) (x7))))] (fun b => w0.heap[b]?) [])
    have hat1 : @At r2 w0 checkSources_fr1 checkSources_st1 a w := At.shiftL (ρ1 := p1) (ρ2 := r2) (σ := [sy 0, sy 1, sy 2, sy 3, sy 4, sy 5, sy 6, sy 7, sy 8]) (π := [0]) (τ := []) ⟨rfl, rfl, rfl, rfl, rfl, rfl, rfl, rfl, rfl, rfl, rfl, rfl, rfl, rfl, rfl, rfl, rfl, rfl, trivial⟩ trivial (fun _ _ h => h) checkSources_wf1 checkSources_id1 hat
    let p2 : Rho := (Rho.of [(iV x0), (iV x1), (iV x2), (iV x3), (iV x4), (iV x5), (iV x6), (iV x7), (.slice al l.length ql)] (fun b => w0.heap[b]?) [])
    refine At.pieceL (ρ1 := r2) (ρ2 := p2) (@Env.Ok.symL r2 _ _ (@env_ok r2) checkSources_e2 checkSources_c2 checkSources_l2 checkSources_cl2 ⟨⟨rfl, rfl, fun w hm => (show KO w (.bin .neq 27) [(iV ((qcheck0 (x0) (x1) (x2) (x3) (x4) (x5) (x6) (x7)))), (iV 0)] (.bool false) from k_neq_f c0)⟩, trivial⟩ ⟨(@CEntOk.of r2 Try.prog _ 18 [(.agg #[(sy 0), (sy 1), (sy 2), (sy 3), (sy 4), (sy 5), (sy 6), (sy 7)])] (sy 9) #[(.agg #[(iV x0), (iV x1), (iV x2), (iV x3), (iV x4), (iV x5), (iV x6), (iV x7)])] (iV ((qcheck0 (x0) (x1) (x2) (x3) (x4) (x5) (x6) (x7)))) rfl ⟨Try.f18, (Try.f18.body).getD .skip, by kernel_rfl, by kernel_rfl⟩ rfl rfl rfl (fun w hm => qcheck_any (x0) (x1) (x2) (x3) (x4) (x5) (x6) (x7) w  )), trivial⟩ trivial trivial) checkSources_r2 ⟨rfl, rfl, rfl, rfl, rfl, rfl, rfl, rfl, rfl, rfl, rfl, rfl, rfl, rfl, rfl, rfl, rfl, rfl, trivial⟩ trivial (fun _ _ h => h) checkSources_wf1 checkSources_wf2 hat1 (fun a w hat => .inl ⟨rfl, ?_⟩)
    refine g_seq checkSources_q2 ?_
    by_cases c1 : ((l.length : Nat) : Int) > 256
    · let r3 : Rho := (Rho.of [(iV x0), (iV x1), (iV x2), (iV x3), (iV x4), (iV x5), (iV x6), (iV x7), (.slice al l.length ql), (iV (((l.length : Nat) : Int)))] (fun b => w0.heap[b]?) [])
      have hat1 : @At r3 w0 checkSources_fr2 checkSources_st2 a w := At.shiftL (ρ1 := p2) (ρ2 := r3) (σ := [sy 0, sy 1, sy 2, sy 3, sy 4, sy 5, sy 6, sy 7, sy 8]) (π := [0]) (τ := []) ⟨rfl, rfl, rfl, rfl, rfl, rfl, rfl, rfl, rfl, rfl, rfl, rfl, rfl, rfl, rfl, rfl, rfl, rfl, trivial⟩ trivial (fun _ _ h => h) checkSources_wf2 checkSources_id2 hat
      refine @At.retGK r3 Try.prog (env.symL checkSources_e3 checkSources_c3 checkSources_l3 checkSources_cl3) (@Env.Ok.symL r3 _ _ (@env_ok r3) checkSources_e3 checkSources_c3 checkSources_l3 checkSources_cl3 ⟨⟨rfl, rfl, fun w hm => (show KO w (.bi 0 [38]) [(.slice al l.length ql)] (iV (((l.length : Nat) : Int))) from k_len Try.underlying38)⟩, ⟨rfl, rfl, fun w hm => (show KO w (.bin .gtr 3) [(iV (((l.length : Nat) : Int))), (iV 256)] (.bool true) from k_gtr_t c1)⟩, trivial⟩ trivial trivial trivial) w0 3000 checkSources_b5 Try.f24 checkSources_fr2 checkSources_st2 _ _ checkSources_r3 checkSources_wf2 a w hat1 (@endV_ok r3 w0 (iV 9) (fun en w' => en = .returned (iV (if ¬ qcheck0 x0 x1 x2 x3 x4 x5 x6 x7 = 0 then qcheck0 x0 x1 x2 x3 x4 x5 x6 x7 else srcsErr x0 x1 l)) ∧ Below w0.heap.size w0 w') rfl (fun w2 hb => ?_)) _ (fun a w h => .inr ⟨(fun q => nomatch q), h⟩)
      have v0 : (9 : Int) = (if ¬ qcheck0 x0 x1 x2 x3 x4 x5 x6 x7 = 0 then qcheck0 x0 x1 x2 x3 x4 x5 x6 x7 else srcsErr x0 x1 l) := by
        first | (rw [if_pos (by omega)]; done) | (rw [if_neg (by omega)]; unfold srcsErr; rw [if_pos (by omega)]; done) | (rw [if_neg (by omega)]; unfold srcsErr; rw [if_neg (by omega)]; first | (rw [firstErr_at (srcErr x0 x1) srcD l i.toNat (by omega) (fun k hk => i2 k (by omega)) (by simp_all)]; simp_all; done) | (rw [firstErr_all (srcErr x0 x1) srcD l (fun k hk => i2 k (by omega))]))
      have hv := congrArg (fun (y0 : Int) => ((iV y0) : Value)) v0
      exact ⟨congrArg Ending.returned hv, hb⟩
    · let r4 : Rho := (Rho.of [(iV x0), (iV x1), (iV x2), (iV x3), (iV x4), (iV x5), (iV x6), (iV x7), (.slice al l.length ql), (iV (((l.length : Nat) : Int)))] (fun b => w0.heap[b]?) [])
      have hat1 : @At r4 w0 checkSources_fr2 checkSources_st2 a w := At.shiftL (ρ1 := p2) (ρ2 := r4) (σ := [sy 0, sy 1, sy 2, sy 3, sy 4, sy 5, sy 6, sy 7, sy 8]) (π := [0]) (τ := []) ⟨rfl, rfl, rfl, rfl, rfl, rfl, rfl, rfl, rfl, rfl, rfl, rfl, rfl, rfl, rfl, rfl, rfl, rfl, trivial⟩ trivial (fun _ _ h => h) checkSources_wf2 checkSources_id2 hat
      let p3 : Rho := (Rho.of [(iV x0), (iV x1), (iV x2), (iV x3), (iV x4), (iV x5), (iV x6), (iV x7), (.slice al l.length ql)] (fun b => w0.heap[b]?) [])
      refine At.pieceL (ρ1 := r4) (ρ2 := p3) (@Env.Ok.symL r4 _ _ (@env_ok r4) checkSources_e4 checkSources_c4 checkSources_l4 checkSources_cl4 ⟨⟨rfl, rfl, fun w hm => (show KO w (.bi 0 [38]) [(.slice al l.length ql)] (iV (((l.length : Nat) : Int))) from k_len Try.underlying38)⟩, ⟨rfl, rfl, fun w hm => (show KO w (.bin .gtr 3) [(iV (((l.length : Nat) : Int))), (iV 256)] (.bool false) from k_gtr_f c1)⟩, trivial⟩ trivial trivial trivial) checkSources_r4 ⟨rfl, rfl, rfl, rfl, rfl, rfl, rfl, rfl, rfl, rfl, rfl, rfl, rfl, rfl, rfl, rfl, rfl, rfl, trivial⟩ trivial (fun _ _ h => h) checkSources_wf2 checkSources_wf3 hat1 (fun a w hat => .inl ⟨rfl, ?_⟩)
      refine g_seq checkSources_q3 ?_
      refine g_seq checkSources_q4 ?_
      let r5 : Rho := (Rho.of [(iV x0), (iV x1), (iV x2), (iV x3), (iV x4), (iV x5), (iV x6), (iV x7), (.slice al l.length ql), (iV (((l.length : Nat) : Int)))] (fun b => w0.heap[b]?) [])
      have hat1 : @At r5 w0 checkSources_fr3 checkSources_st3 a w := At.shiftL (ρ1 := p3) (ρ2 := r5) (σ := [sy 0, sy 1, sy 2, sy 3, sy 4, sy 5, sy 6, sy 7, sy 8]) (π := [0]) (τ := []) ⟨rfl, rfl, rfl, rfl, rfl, rfl, rfl, rfl, rfl, rfl, rfl, rfl, rfl, rfl, rfl, rfl, rfl, rfl, trivial⟩ trivial (fun _ _ h => h) checkSources_wf3 checkSources_id3 hat
      let p4 : Rho := (Rho.of [(iV x0), (iV x1), (iV x2), (iV x3), (iV x4), (iV x5), (iV x6), (iV x7), (.slice al l.length ql), (iV (((l.length : Nat) : Int)))] (fun b => w0.heap[b]?) [])
      refine At.pieceL (ρ1 := r5) (ρ2 := p4) (@Env.Ok.symL r5 _ _ (@env_ok r5) checkSources_e5 checkSources_c5 checkSources_l5 checkSources_cl5 ⟨⟨rfl, rfl, fun w hm => (show KO w (.bi 0 [38]) [(.slice al l.length ql)] (iV (((l.length : Nat) : Int))) from k_len Try.underlying38)⟩, trivial⟩ trivial trivial trivial) checkSources_r5 ⟨rfl, rfl, rfl, rfl, rfl, rfl, rfl, rfl, rfl, rfl, rfl, rfl, rfl, rfl, rfl, rfl, rfl, rfl, rfl, rfl, trivial⟩ trivial (fun _ _ h => h) checkSources_wf3 checkSources_wf4 hat1 (fun a w hat => .inl ⟨rfl, ?_⟩)
      refine g_block checkSources_q5 ?_
      have hat0 := At.shiftL (ρ1 := p4) (ρ2 := (Rho.of [(iV x0), (iV x1), (iV x2), (iV x3), (iV x4), (iV x5), (iV x6), (iV x7), (.slice al l.length ql), (iV (((l.length : Nat) : Int))), (iV ((0 : Int)))] (fun b => w0.heap[b]?) [])) (σ := [(sy 0), (sy 1), (sy 2), (sy 3), (sy 4), (sy 5), (sy 6), (sy 7), (sy 8), (sy 9), (iV 0)]) (π := [0]) (τ := []) ⟨rfl, rfl, rfl, rfl, rfl, rfl, rfl, rfl, rfl, rfl, rfl, rfl, rfl, rfl, rfl, rfl, rfl, rfl, rfl, rfl, rfl, rfl, trivial⟩ trivial (fun _ _ h => h) checkSources_wf5 checkSources_h7 hat
      clear hat
      refine g_loop (fun (x : Int) a w => (0 ≤ (x : Int) ∧ (x : Int) ≤ l.length ∧ (∀ k : Nat, (k : Int) < (x : Int) → srcErr x0 x1 (l.getD k srcD) = 0)) ∧ @At (Rho.of [(iV x0), (iV x1), (iV x2), (iV x3), (iV x4), (iV x5), (iV x6), (iV x7), (.slice al l.length ql), (iV (((l.length : Nat) : Int))), (iV ((x : Int)))] (fun b => w0.heap[b]?) []) w0 checkSources_fr5 checkSources_st5 a w) (fun x => (l.length - (x : Int)).toNat) checkSources_q6 ?_ (0) ⟨?_, hat0⟩
      · clear hat0
        rintro i a w ⟨hinv, hat⟩
        change 0 ≤ i ∧ i ≤ l.length ∧ (∀ k : Nat, (k : Int) < i → srcErr x0 x1 (l.getD k srcD) = 0) at hinv
        let p5 : Rho := (Rho.of [(iV x0), (iV x1), (iV x2), (iV x3), (iV x4), (iV x5), (iV x6), (iV x7), (.slice al l.length ql), (iV (((l.length : Nat) : Int))), (iV i)] (fun b => w0.heap[b]?) [])
        change @At p5 w0 checkSources_fr5 checkSources_st5 a w at hat
        obtain ⟨i0, i1, i2⟩ := hinv
        by_cases c2 : i < ((l.length : Nat) : Int)
        · obtain ⟨z3, hz3⟩ : ∃ z : Src, z = l.getD (i).toNat srcD := ⟨_, rfl⟩
          by_cases c4 : (srcErr x0 x1 z3) ≠ 0
          · let r6 : Rho := (Rho.of [(iV x0), (iV x1), (iV x2), (iV x3), (iV x4), (iV x5), (iV x6), (iV x7), (.slice al l.length ql), (iV (((l.length : Nat) : Int))), (iV i), (.pointer (ptrO al ((i).toNat * 5))), (iV z3.kind), (iV z3.cell), (iV z3.cls), (iV z3.lo), (iV z3.hi), (iV ((srcErr x0 x1 z3)))] (fun b => w0.heap[b]?) [])
            have hat1 : @At r6 w0 checkSources_fr5 checkSources_st5 a w := At.shiftL (ρ1 := p5) (ρ2 := r6) (σ := [sy 0, sy 1, sy 2, sy 3, sy 4, sy 5, sy 6, sy 7, sy 8, sy 9, sy 10]) (π := [0]) (τ := []) ⟨rfl, rfl, rfl, rfl, rfl, rfl, rfl, rfl, rfl, rfl, rfl, rfl, rfl, rfl, rfl, rfl, rfl, rfl, rfl, rfl, rfl, rfl, trivial⟩ trivial (fun _ _ h => h) checkSources_wf5 checkSources_id5 hat
            refine @At.retGK r6 Try.prog (env.symL checkSources_e6 checkSources_c6 checkSources_l6 checkSources_cl6) (@Env.Ok.symL r6 _ _ (@env_ok r6) checkSources_e6 checkSources_c6 checkSources_l6 checkSources_cl6 ⟨⟨rfl, rfl, fun w hm => (show KO w (.bin .lss 3) [(iV i), (iV (((l.length : Nat) : Int)))] (.bool true) from k_lss_t c2)⟩, ⟨rfl, rfl, fun w hm => (show KO w (.indexAddr 38) [(.slice al l.length ql), (iV i)] (.pointer (ptrO al ((i).toNat * 5))) from l_index (Hl.keep hm) Try.underlying38 (by kernel_rfl) (by omega) (by omega))⟩, ⟨rfl, rfl, fun w hm => (show KO w (.load 54) [(.pointer (ptrO al ((i).toNat * 5)))] (.agg #[(iV z3.kind), (iV z3.cell), (iV z3.cls), (iV z3.lo), (iV z3.hi)]) from l_loadS (Hl.keep hm) (by omega) Try.underlying54 rfl (l := [(iV z3.kind), (iV z3.cell), (iV z3.cls), (iV z3.lo), (iV z3.hi)]) (by kernel_rfl) (flat_getz (c := srcC) (sz := 5) (fun _ => rfl) hz3 (by omega)))⟩, ⟨rfl, rfl, fun w hm => (show KO w (.bin .neq 27) [(iV ((srcErr x0 x1 z3))), (iV 0)] (.bool true) from k_neq_t c4)⟩, trivial⟩ ⟨(@CEntOk.of r6 Try.prog _ 62 [(.agg #[(sy 0), (sy 1), (sy 2), (sy 3), (sy 4), (sy 5), (sy 6), (sy 7)]), (.agg #[(sy 12), (sy 13), (sy 14), (sy 15), (sy 16)])] (sy 17) #[(.agg #[(iV x0), (iV x1), (iV x2), (iV x3), (iV x4), (iV x5), (iV x6), (iV x7)]), (.agg #[(iV z3.kind), (iV z3.cell), (iV z3.cls), (iV z3.lo), (iV z3.hi)])] (iV ((srcErr x0 x1 z3))) rfl ⟨Try.f62, (Try.f62.body).getD .skip, by kernel_rfl, by kernel_rfl⟩ rfl rfl rfl (fun w hm => checkSource_any (x0) (x1) (x2) (x3) (x4) (x5) (x6) (x7) z3 w  (by omega) (by omega))), trivial⟩ trivial trivial) w0 3000 checkSources_b12 Try.f24 checkSources_fr5 checkSources_st5 _ _ checkSources_r6 checkSources_wf5 a w hat1 (@endV_ok r6 w0 (sy 17) (fun en w' => en = .returned (iV (if ¬ qcheck0 x0 x1 x2 x3 x4 x5 x6 x7 = 0 then qcheck0 x0 x1 x2 x3 x4 x5 x6 x7 else srcsErr x0 x1 l)) ∧ Below w0.heap.size w0 w') rfl (fun w2 hb => ?_)) _ (fun a w h => .inr ⟨.inr rfl, .inr ⟨(fun q => nomatch q), .inr ⟨(fun q => nomatch q), h⟩⟩⟩)
            have v0 : ((srcErr x0 x1 z3) : Int) = (if ¬ qcheck0 x0 x1 x2 x3 x4 x5 x6 x7 = 0 then qcheck0 x0 x1 x2 x3 x4 x5 x6 x7 else srcsErr x0 x1 l) := by
              first | (rw [if_pos (by omega)]; done) | (rw [if_neg (by omega)]; unfold srcsErr; rw [if_pos (by omega)]; done) | (rw [if_neg (by omega)]; unfold srcsErr; rw [if_neg (by omega)]; first | (rw [firstErr_at (srcErr x0 x1) srcD l i.toNat (by omega) (fun k hk => i2 k (by omega)) (by simp_all)]; simp_all; done) | (rw [firstErr_all (srcErr x0 x1) srcD l (fun k hk => i2 k (by omega))]))
            have hv := congrArg (fun (y0 : Int) => ((iV y0) : Value)) v0
            exact ⟨congrArg Ending.returned hv, hb⟩
          · let r7 : Rho := (Rho.of [(iV x0), (iV x1), (iV x2), (iV x3), (iV x4), (iV x5), (iV x6), (iV x7), (.slice al l.length ql), (iV (((l.length : Nat) : Int))), (iV i), (.pointer (ptrO al ((i).toNat * 5))), (iV z3.kind), (iV z3.cell), (iV z3.cls), (iV z3.lo), (iV z3.hi), (iV ((srcErr x0 x1 z3))), (iV ((i + 1)))] (fun b => w0.heap[b]?) [])
            have hat1 : @At r7 w0 checkSources_fr5 checkSources_st5 a w := At.shiftL (ρ1 := p5) (ρ2 := r7) (σ := [sy 0, sy 1, sy 2, sy 3, sy 4, sy 5, sy 6, sy 7, sy 8, sy 9, sy 10]) (π := [0]) (τ := []) ⟨rfl, rfl, rfl, rfl, rfl, rfl, rfl, rfl, rfl, rfl, rfl, rfl, rfl, rfl, rfl, rfl, rfl, rfl, rfl, rfl, rfl, rfl, trivial⟩ trivial (fun _ _ h => h) checkSources_wf5 checkSources_id5 hat
            refine At.pieceL (ρ1 := r7) (ρ2 := (Rho.of [(iV x0), (iV x1), (iV x2), (iV x3), (iV x4), (iV x5), (iV x6), (iV x7), (.slice al l.length ql), (iV (((l.length : Nat) : Int))), (iV (((i + 1) : Int)))] (fun b => w0.heap[b]?) [])) (@Env.Ok.symL r7 _ _ (@env_ok r7) checkSources_e7 checkSources_c7 checkSources_l7 checkSources_cl7 ⟨⟨rfl, rfl, fun w hm => (show KO w (.bin .lss 3) [(iV i), (iV (((l.length : Nat) : Int)))] (.bool true) from k_lss_t c2)⟩, ⟨rfl, rfl, fun w hm => (show KO w (.indexAddr 38) [(.slice al l.length ql), (iV i)] (.pointer (ptrO al ((i).toNat * 5))) from l_index (Hl.keep hm) Try.underlying38 (by kernel_rfl) (by omega) (by omega))⟩, ⟨rfl, rfl, fun w hm => (show KO w (.load 54) [(.pointer (ptrO al ((i).toNat * 5)))] (.agg #[(iV z3.kind), (iV z3.cell), (iV z3.cls), (iV z3.lo), (iV z3.hi)]) from l_loadS (Hl.keep hm) (by omega) Try.underlying54 rfl (l := [(iV z3.kind), (iV z3.cell), (iV z3.cls), (iV z3.lo), (iV z3.hi)]) (by kernel_rfl) (flat_getz (c := srcC) (sz := 5) (fun _ => rfl) hz3 (by omega)))⟩, ⟨rfl, rfl, fun w hm => (show KO w (.bin .neq 27) [(iV ((srcErr x0 x1 z3))), (iV 0)] (.bool false) from k_neq_f c4)⟩, ⟨rfl, rfl, fun w hm => (show KO w (.bin .add 3) [(iV i), (iV 1)] (iV ((i + 1))) from k_add (wrap64 (by omega)))⟩, trivial⟩ ⟨(@CEntOk.of r7 Try.prog _ 62 [(.agg #[(sy 0), (sy 1), (sy 2), (sy 3), (sy 4), (sy 5), (sy 6), (sy 7)]), (.agg #[(sy 12), (sy 13), (sy 14), (sy 15), (sy 16)])] (sy 17) #[(.agg #[(iV x0), (iV x1), (iV x2), (iV x3), (iV x4), (iV x5), (iV x6), (iV x7)]), (.agg #[(iV z3.kind), (iV z3.cell), (iV z3.cls), (iV z3.lo), (iV z3.hi)])] (iV ((srcErr x0 x1 z3))) rfl ⟨Try.f62, (Try.f62.body).getD .skip, by kernel_rfl, by kernel_rfl⟩ rfl rfl rfl (fun w hm => checkSource_any (x0) (x1) (x2) (x3) (x4) (x5) (x6) (x7) z3 w  (by omega) (by omega))), trivial⟩ trivial trivial) checkSources_r7 ⟨rfl, rfl, rfl, rfl, rfl, rfl, rfl, rfl, rfl, rfl, rfl, rfl, rfl, rfl, rfl, rfl, rfl, rfl, rfl, rfl, rfl, rfl, trivial⟩ trivial (fun _ _ h => h) checkSources_wf5 checkSources_wf5 hat1 (fun a w hat => .inl ⟨rfl, ⟨((i + 1)), ?_, ?_, hat⟩⟩)
            · show (l.length - ((i + 1) : Int)).toNat < (l.length - i).toNat
              omega
            · show 0 ≤ ((i + 1) : Int) ∧ ((i + 1) : Int) ≤ l.length ∧ (∀ k : Nat, (k : Int) < ((i + 1) : Int) → srcErr x0 x1 (l.getD k srcD) = 0)
              refine ⟨by omega, by omega, fun k hk => ?_⟩
              rcases Int.lt_or_le (k : Int) i with q | q
              · exact i2 k q
              · have e : k = i.toNat := (by omega)
                subst e; simp_all
        · let r8 : Rho := (Rho.of [(iV x0), (iV x1), (iV x2), (iV x3), (iV x4), (iV x5), (iV x6), (iV x7), (.slice al l.length ql), (iV (((l.length : Nat) : Int))), (iV i)] (fun b => w0.heap[b]?) [])
          have hat1 : @At r8 w0 checkSources_fr5 checkSources_st5 a w := At.shiftL (ρ1 := p5) (ρ2 := r8) (σ := [sy 0, sy 1, sy 2, sy 3, sy 4, sy 5, sy 6, sy 7, sy 8, sy 9, sy 10]) (π := [0]) (τ := []) ⟨rfl, rfl, rfl, rfl, rfl, rfl, rfl, rfl, rfl, rfl, rfl, rfl, rfl, rfl, rfl, rfl, rfl, rfl, rfl, rfl, rfl, rfl, trivial⟩ trivial (fun _ _ h => h) checkSources_wf5 checkSources_id5 hat
          let p6 : Rho := (Rho.of [(iV x0), (iV x1), (iV x2), (iV x3), (iV x4), (iV x5), (iV x6), (iV x7), (.slice al l.length ql)] (fun b => w0.heap[b]?) [])
          refine At.pieceL (ρ1 := r8) (ρ2 := p6) (@Env.Ok.symL r8 _ _ (@env_ok r8) checkSources_e8 checkSources_c8 checkSources_l8 checkSources_cl8 ⟨⟨rfl, rfl, fun w hm => (show KO w (.bin .lss 3) [(iV i), (iV (((l.length : Nat) : Int)))] (.bool false) from k_lss_f c2)⟩, trivial⟩ trivial trivial trivial) checkSources_r8 ⟨rfl, rfl, rfl, rfl, rfl, rfl, rfl, rfl, rfl, rfl, rfl, rfl, rfl, rfl, rfl, rfl, rfl, rfl, trivial⟩ trivial (fun _ _ h => h) checkSources_wf5 checkSources_wf6 hat1 (fun a w hat => .inr ⟨.inl ⟨0, rfl⟩, .inl ⟨rfl, .inl ⟨rfl, ?_⟩⟩⟩)
          let r9 : Rho := (Rho.of [(iV x0), (iV x1), (iV x2), (iV x3), (iV x4), (iV x5), (iV x6), (iV x7), (.slice al l.length ql)] (fun b => w0.heap[b]?) [])
          have hat1 : @At r9 w0 checkSources_fr6 checkSources_st6 a w := At.shiftL (ρ1 := p6) (ρ2 := r9) (σ := [sy 0, sy 1, sy 2, sy 3, sy 4, sy 5, sy 6, sy 7, sy 8]) (π := []) (τ := []) ⟨rfl, rfl, rfl, rfl, rfl, rfl, rfl, rfl, rfl, rfl, rfl, rfl, rfl, rfl, rfl, rfl, rfl, rfl, trivial⟩ trivial (fun _ _ h => h) checkSources_wf6 checkSources_id6 hat
          refine @At.lastK r9 Try.prog (env.symL [] [] [] []) (@Env.Ok.symL r9 _ _ (@env_ok r9) [] [] [] [] trivial trivial trivial trivial) w0 3000 checkSources_b8 Try.f24 checkSources_fr6 checkSources_st6 _ _ checkSources_r9 checkSources_wf6 a w hat1 (@endV_ok r9 w0 (iV 0) (fun en w' => en = .returned (iV (if ¬ qcheck0 x0 x1 x2 x3 x4 x5 x6 x7 = 0 then qcheck0 x0 x1 x2 x3 x4 x5 x6 x7 else srcsErr x0 x1 l)) ∧ Below w0.heap.size w0 w') rfl (fun w2 hb => ?_))
          have v0 : (0 : Int) = (if ¬ qcheck0 x0 x1 x2 x3 x4 x5 x6 x7 = 0 then qcheck0 x0 x1 x2 x3 x4 x5 x6 x7 else srcsErr x0 x1 l) := by
            first | (rw [if_pos (by omega)]; done) | (rw [if_neg (by omega)]; unfold srcsErr; rw [if_pos (by omega)]; done) | (rw [if_neg (by omega)]; unfold srcsErr; rw [if_neg (by omega)]; first | (rw [firstErr_at (srcErr x0 x1) srcD l i.toNat (by omega) (fun k hk => i2 k (by omega)) (by simp_all)]; simp_all; done) | (rw [firstErr_all (srcErr x0 x1) srcD l (fun k hk => i2 k (by omega))]))
          have hv := congrArg (fun (y0 : Int) => ((iV y0) : Value)) v0
          exact ⟨congrArg Ending.returned hv, hb⟩
      · show 0 ≤ (0 : Int) ∧ (0 : Int) ≤ l.length ∧ (∀ k : Nat, (k : Int) < (0 : Int) → srcErr x0 x1 (l.getD k srcD) = 0)
        exact ⟨by omega, by omega, fun k hk => by omega⟩
end Go.Proofs.Ytoaehigmpbhppaa.En
