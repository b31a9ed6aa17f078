/-
  The specification: the error of sources.
-/
import Derived.Test.YtoaehigmpbhppaaS2
namespace Go.Proofs.Ytoaehigmpbhppaa.En
open Go Go.Ev Go.Proofs Go.RowKit
set_option linter.unusedSimpArgs false
set_option linter.unusedVariables false
noncomputable def rsources_b0 : Code := (Try.f63.body).getD .skip

noncomputable def rsources_fr0 : Fr := mkFr Try.f63 [(0, (.agg #[(.chan (.some 0)), (.chan (.some 1)), (.chan (.some 2)), (.chan (.some 3)), (.chan (.some 4)), (.chan (.some 5)), (.chan (.some 6)), (.chan (.some 7))])), (1, (.chan (.some 8)))] []
noncomputable def rsources_st0 : St := mkSt 0 []
theorem rsources_wf0 : rsources_st0.Wf := mkSt_wf rfl
set_option maxRecDepth 1000000 in
theorem rsources_id0 : agreeL [sy 0, sy 1, sy 2, sy 3, sy 4, sy 5, sy 6, sy 7, sy 8] [] [] rsources_fr0 rsources_st0 rsources_fr0 rsources_st0 = true := by kernel_rfl

set_option maxRecDepth 1000000 in
theorem rsources_a0 : agreeL [sy 0, sy 1, sy 2, sy 3, sy 4, sy 5, sy 6, sy 7, sy 8] [] [] rsources_fr0 rsources_st0 (frameOf Try.f63 [(.agg #[(.chan (.some 0)), (.chan (.some 1)), (.chan (.some 2)), (.chan (.some 3)), (.chan (.some 4)), (.chan (.some 5)), (.chan (.some 6)), (.chan (.some 7))]), (.chan (.some 8))]) Ev.start = true := by kernel_rfl

noncomputable def rsources_b1 : Code := headC rsources_b0

noncomputable def rsources_b2 : Code := tailC rsources_b0

set_option maxRecDepth 1000000 in
theorem rsources_q0 : rsources_b0 = .seq rsources_b1 rsources_b2 := by kernel_rfl

noncomputable def rsources_fr1 : Fr := mkFr Try.f63 [(1, (.chan (.some 8))), (2, (.pointer (.some (.mk 0 0 .none)))), (4, (iV (.ofNat 0)))] []
noncomputable def rsources_st1 : St := mkSt 1 [(0, (.cells [(.chan (.some 0)), (.chan (.some 1)), (.chan (.some 2)), (.chan (.some 3)), (.chan (.some 4)), (.chan (.some 5)), (.chan (.some 6)), (.chan (.some 7))] 26 .none .false))]
theorem rsources_wf1 : rsources_st1.Wf := mkSt_wf rfl
set_option maxRecDepth 1000000 in
theorem rsources_id1 : agreeL [sy 0, sy 1, sy 2, sy 3, sy 4, sy 5, sy 6, sy 7, sy 8] [0] [] rsources_fr1 rsources_st1 rsources_fr1 rsources_st1 = true := by kernel_rfl

set_option maxRecDepth 1000000 in
theorem rsources_r0 : ev Try.prog (env.symL [] [] [] []) 3000 (.code rsources_b1 none rsources_fr0 rsources_st0 (stopL .normal [sy 0, sy 1, sy 2, sy 3, sy 4, sy 5, sy 6, sy 7, sy 8] [0] [] rsources_fr1 rsources_st1)) = some () := by kernel_rfl

noncomputable def rsources_b3 : Code := headC rsources_b2

noncomputable def rsources_b4 : Code := tailC rsources_b2

set_option maxRecDepth 1000000 in
theorem rsources_q1 : rsources_b2 = .seq rsources_b3 rsources_b4 := by kernel_rfl

noncomputable def rsources_e1 : List Ent := [⟨(.bi 0 [38]), [(sy 8)], (sy 9)⟩, ⟨(.bin .gtr 3), [(sy 9), (iV 256)], (.bool true)⟩]
noncomputable def rsources_c1 : List CEnt := []
noncomputable def rsources_l1 : List LEnt := []
noncomputable def rsources_cl1 : List CLEnt := []

set_option maxRecDepth 1000000 in
theorem rsources_r1 : ev Try.prog (env.symL rsources_e1 rsources_c1 rsources_l1 rsources_cl1) 3000 (.code rsources_b3 none rsources_fr1 rsources_st1 (stopRK (env.symL rsources_e1 rsources_c1 rsources_l1 rsources_cl1) Try.f63 (endV (iV 9)))) = some () := by kernel_rfl

noncomputable def rsources_e2 : List Ent := [⟨(.bi 0 [38]), [(sy 8)], (sy 9)⟩, ⟨(.bin .gtr 3), [(sy 9), (iV 256)], (.bool false)⟩]
noncomputable def rsources_c2 : List CEnt := []
noncomputable def rsources_l2 : List LEnt := []
noncomputable def rsources_cl2 : List CLEnt := []

noncomputable def rsources_fr2 : Fr := mkFr Try.f63 [(1, (.chan (.some 8))), (2, (.pointer (.some (.mk 0 0 .none)))), (4, (iV (.ofNat 0)))] []
noncomputable def rsources_st2 : St := mkSt 1 [(0, (.cells [(.chan (.some 0)), (.chan (.some 1)), (.chan (.some 2)), (.chan (.some 3)), (.chan (.some 4)), (.chan (.some 5)), (.chan (.some 6)), (.chan (.some 7))] 26 .none .false))]
theorem rsources_wf2 : rsources_st2.Wf := mkSt_wf rfl
set_option maxRecDepth 1000000 in
theorem rsources_id2 : agreeL [sy 0, sy 1, sy 2, sy 3, sy 4, sy 5, sy 6, sy 7, sy 8] [0] [] rsources_fr2 rsources_st2 rsources_fr2 rsources_st2 = true := by kernel_rfl

set_option maxRecDepth 1000000 in
theorem rsources_r2 : ev Try.prog (env.symL rsources_e2 rsources_c2 rsources_l2 rsources_cl2) 3000 (.code rsources_b3 none rsources_fr1 rsources_st1 (stopL .normal [sy 0, sy 1, sy 2, sy 3, sy 4, sy 5, sy 6, sy 7, sy 8] [0] [] rsources_fr2 rsources_st2)) = some () := by kernel_rfl

noncomputable def rsources_b5 : Code := headC rsources_b4

noncomputable def rsources_b6 : Code := tailC rsources_b4

set_option maxRecDepth 1000000 in
theorem rsources_q2 : rsources_b4 = .seq rsources_b5 rsources_b6 := by kernel_rfl

noncomputable def rsources_b7 : Code := headC rsources_b5

noncomputable def rsources_b8 : Code := tailC rsources_b5

set_option maxRecDepth 1000000 in
theorem rsources_q3 : rsources_b5 = .seq rsources_b7 rsources_b8 := by kernel_rfl

noncomputable def rsources_fr3 : Fr := mkFr Try.f63 [(1, (.chan (.some 8))), (2, (.pointer (.some (.mk 0 0 .none)))), (4, (iV (.ofNat 0))), (5, (iV (.ofNat 0)))] []
noncomputable def rsources_st3 : St := mkSt 1 [(0, (.cells [(.chan (.some 0)), (.chan (.some 1)), (.chan (.some 2)), (.chan (.some 3)), (.chan (.some 4)), (.chan (.some 5)), (.chan (.some 6)), (.chan (.some 7))] 26 .none .false))]
theorem rsources_wf3 : rsources_st3.Wf := mkSt_wf rfl
set_option maxRecDepth 1000000 in
theorem rsources_id3 : agreeL [sy 0, sy 1, sy 2, sy 3, sy 4, sy 5, sy 6, sy 7, sy 8] [0] [] rsources_fr3 rsources_st3 rsources_fr3 rsources_st3 = true := by kernel_rfl

set_option maxRecDepth 1000000 in
theorem rsources_r3 : ev Try.prog (env.symL [] [] [] []) 3000 (.code rsources_b7 none rsources_fr2 rsources_st2 (stopL .normal [sy 0, sy 1, sy 2, sy 3, sy 4, sy 5, sy 6, sy 7, sy 8] [0] [] rsources_fr3 rsources_st3)) = some () := by kernel_rfl

noncomputable def rsources_b9 : Code := inBlockC rsources_b8

set_option maxRecDepth 1000000 in
theorem rsources_q4 : rsources_b8 = .block 0 rsources_b9 := by kernel_rfl

noncomputable def rsources_b10 : Code := inLoopC rsources_b9

set_option maxRecDepth 1000000 in
theorem rsources_q5 : rsources_b9 = .loop rsources_b10 := by kernel_rfl

noncomputable def rsources_fr4 : Fr := mkFr Try.f63 [(1, (.chan (.some 8))), (2, (.pointer (.some (.mk 0 0 .none)))), (4, (iV (.ofNat 0))), (5, (.chan (.some 9)))] []
noncomputable def rsources_st4 : St := mkSt 1 [(0, (.cells [(.chan (.some 0)), (.chan (.some 1)), (.chan (.some 2)), (.chan (.some 3)), (.chan (.some 4)), (.chan (.some 5)), (.chan (.some 6)), (.chan (.some 7))] 26 .none .false))]
theorem rsources_wf4 : rsources_st4.Wf := mkSt_wf rfl
set_option maxRecDepth 1000000 in
theorem rsources_id4 : agreeL [sy 0, sy 1, sy 2, sy 3, sy 4, sy 5, sy 6, sy 7, sy 8, sy 9] [0] [] rsources_fr4 rsources_st4 rsources_fr4 rsources_st4 = true := by kernel_rfl

set_option maxRecDepth 1000000 in
theorem rsources_h6 : agreeL [(sy 0), (sy 1), (sy 2), (sy 3), (sy 4), (sy 5), (sy 6), (sy 7), (sy 8), (iV 0)] [0] [] rsources_fr4 rsources_st4 rsources_fr3 rsources_st3 = true := by kernel_rfl

noncomputable def rsources_e4 : List Ent := [⟨(.bi 0 [38]), [(sy 8)], (sy 10)⟩, ⟨(.bin .lss 3), [(sy 9), (sy 10)], (.bool true)⟩, ⟨(.indexAddr 38), [(sy 8), (sy 9)], (sy 11)⟩, ⟨(.fieldAddr 54 0), [(sy 11)], (sy 12)⟩, ⟨(.load 3), [(sy 12)], (sy 13)⟩, ⟨(.bin .geq 3), [(sy 13), (iV 1)], (.bool true)⟩, ⟨(.bin .leq 3), [(sy 13), (iV 3)], (.bool true)⟩, ⟨(.fieldAddr 54 1), [(sy 11)], (sy 14)⟩, ⟨(.load 3), [(sy 14)], (sy 15)⟩, ⟨(.bin .mul 3), [(sy 0), (sy 1)], (sy 16)⟩, ⟨(.bin .sub 3), [(sy 16), (iV 1)], (sy 17)⟩, ⟨(.bin .geq 3), [(sy 15), (iV 0)], (.bool true)⟩, ⟨(.bin .leq 3), [(sy 15), (sy 17)], (.bool true)⟩, ⟨(.fieldAddr 54 2), [(sy 11)], (sy 18)⟩, ⟨(.load 3), [(sy 18)], (sy 19)⟩, ⟨(.bin .geq 3), [(sy 19), (iV 1)], (.bool true)⟩, ⟨(.bin .leq 3), [(sy 19), (iV 10)], (.bool true)⟩, ⟨(.fieldAddr 54 3), [(sy 11)], (sy 20)⟩, ⟨(.load 23), [(sy 20)], (.agg #[(sy 21), (sy 22)])⟩, ⟨(.bin .leq 3), [(sy 21), (sy 22)], (.bool true)⟩, ⟨(.bin .geq 3), [(sy 21), (iV 0)], (.bool true)⟩, ⟨(.bin .leq 3), [(sy 22), (iV 1000000000)], (.bool true)⟩, ⟨(.bin .add 3), [(sy 9), (iV 1)], (sy 23)⟩]
noncomputable def rsources_c4 : List CEnt := []
noncomputable def rsources_l4 : List LEnt := []
noncomputable def rsources_cl4 : List CLEnt := []

set_option maxRecDepth 1000000 in
theorem rsources_r4 : ev Try.prog (env.symL rsources_e4 rsources_c4 rsources_l4 rsources_cl4) 3000 (.code rsources_b10 none rsources_fr4 rsources_st4 (stopL .normal [(sy 0), (sy 1), (sy 2), (sy 3), (sy 4), (sy 5), (sy 6), (sy 7), (sy 8), (sy 23)] [0] [] rsources_fr4 rsources_st4)) = some () := by kernel_rfl

noncomputable def rsources_e5 : List Ent := [⟨(.bi 0 [38]), [(sy 8)], (sy 10)⟩, ⟨(.bin .lss 3), [(sy 9), (sy 10)], (.bool true)⟩, ⟨(.indexAddr 38), [(sy 8), (sy 9)], (sy 11)⟩, ⟨(.fieldAddr 54 0), [(sy 11)], (sy 12)⟩, ⟨(.load 3), [(sy 12)], (sy 13)⟩, ⟨(.bin .geq 3), [(sy 13), (iV 1)], (.bool true)⟩, ⟨(.bin .leq 3), [(sy 13), (iV 3)], (.bool true)⟩, ⟨(.fieldAddr 54 1), [(sy 11)], (sy 14)⟩, ⟨(.load 3), [(sy 14)], (sy 15)⟩, ⟨(.bin .mul 3), [(sy 0), (sy 1)], (sy 16)⟩, ⟨(.bin .sub 3), [(sy 16), (iV 1)], (sy 17)⟩, ⟨(.bin .geq 3), [(sy 15), (iV 0)], (.bool true)⟩, ⟨(.bin .leq 3), [(sy 15), (sy 17)], (.bool true)⟩, ⟨(.fieldAddr 54 2), [(sy 11)], (sy 18)⟩, ⟨(.load 3), [(sy 18)], (sy 19)⟩, ⟨(.bin .geq 3), [(sy 19), (iV 1)], (.bool true)⟩, ⟨(.bin .leq 3), [(sy 19), (iV 10)], (.bool true)⟩, ⟨(.fieldAddr 54 3), [(sy 11)], (sy 20)⟩, ⟨(.load 23), [(sy 20)], (.agg #[(sy 21), (sy 22)])⟩, ⟨(.bin .leq 3), [(sy 21), (sy 22)], (.bool true)⟩, ⟨(.bin .geq 3), [(sy 21), (iV 0)], (.bool true)⟩, ⟨(.bin .leq 3), [(sy 22), (iV 1000000000)], (.bool false)⟩]
noncomputable def rsources_c5 : List CEnt := []
noncomputable def rsources_l5 : List LEnt := []
noncomputable def rsources_cl5 : List CLEnt := []

set_option maxRecDepth 1000000 in
theorem rsources_r5 : ev Try.prog (env.symL rsources_e5 rsources_c5 rsources_l5 rsources_cl5) 3000 (.code rsources_b10 none rsources_fr4 rsources_st4 (stopRK (env.symL rsources_e5 rsources_c5 rsources_l5 rsources_cl5) Try.f63 (endV (iV 3)))) = some () := by kernel_rfl

noncomputable def rsources_e6 : List Ent := [⟨(.bi 0 [38]), [(sy 8)], (sy 10)⟩, ⟨(.bin .lss 3), [(sy 9), (sy 10)], (.bool true)⟩, ⟨(.indexAddr 38), [(sy 8), (sy 9)], (sy 11)⟩, ⟨(.fieldAddr 54 0), [(sy 11)], (sy 12)⟩, ⟨(.load 3), [(sy 12)], (sy 13)⟩, ⟨(.bin .geq 3), [(sy 13), (iV 1)], (.bool true)⟩, ⟨(.bin .leq 3), [(sy 13), (iV 3)], (.bool true)⟩, ⟨(.fieldAddr 54 1), [(sy 11)], (sy 14)⟩, ⟨(.load 3), [(sy 14)], (sy 15)⟩, ⟨(.bin .mul 3), [(sy 0), (sy 1)], (sy 16)⟩, ⟨(.bin .sub 3), [(sy 16), (iV 1)], (sy 17)⟩, ⟨(.bin .geq 3), [(sy 15), (iV 0)], (.bool true)⟩, ⟨(.bin .leq 3), [(sy 15), (sy 17)], (.bool true)⟩, ⟨(.fieldAddr 54 2), [(sy 11)], (sy 18)⟩, ⟨(.load 3), [(sy 18)], (sy 19)⟩, ⟨(.bin .geq 3), [(sy 19), (iV 1)], (.bool true)⟩, ⟨(.bin .leq 3), [(sy 19), (iV 10)], (.bool true)⟩, ⟨(.fieldAddr 54 3), [(sy 11)], (sy 20)⟩, ⟨(.load 23), [(sy 20)], (.agg #[(sy 21), (sy 22)])⟩, ⟨(.bin .leq 3), [(sy 21), (sy 22)], (.bool true)⟩, ⟨(.bin .geq 3), [(sy 21), (iV 0)], (.bool false)⟩]
noncomputable def rsources_c6 : List CEnt := []
noncomputable def rsources_l6 : List LEnt := []
noncomputable def rsources_cl6 : List CLEnt := []

set_option maxRecDepth 1000000 in
theorem rsources_r6 : ev Try.prog (env.symL rsources_e6 rsources_c6 rsources_l6 rsources_cl6) 3000 (.code rsources_b10 none rsources_fr4 rsources_st4 (stopRK (env.symL rsources_e6 rsources_c6 rsources_l6 rsources_cl6) Try.f63 (endV (iV 3)))) = some () := by kernel_rfl

noncomputable def rsources_e7 : List Ent := [⟨(.bi 0 [38]), [(sy 8)], (sy 10)⟩, ⟨(.bin .lss 3), [(sy 9), (sy 10)], (.bool true)⟩, ⟨(.indexAddr 38), [(sy 8), (sy 9)], (sy 11)⟩, ⟨(.fieldAddr 54 0), [(sy 11)], (sy 12)⟩, ⟨(.load 3), [(sy 12)], (sy 13)⟩, ⟨(.bin .geq 3), [(sy 13), (iV 1)], (.bool true)⟩, ⟨(.bin .leq 3), [(sy 13), (iV 3)], (.bool true)⟩, ⟨(.fieldAddr 54 1), [(sy 11)], (sy 14)⟩, ⟨(.load 3), [(sy 14)], (sy 15)⟩, ⟨(.bin .mul 3), [(sy 0), (sy 1)], (sy 16)⟩, ⟨(.bin .sub 3), [(sy 16), (iV 1)], (sy 17)⟩, ⟨(.bin .geq 3), [(sy 15), (iV 0)], (.bool true)⟩, ⟨(.bin .leq 3), [(sy 15), (sy 17)], (.bool true)⟩, ⟨(.fieldAddr 54 2), [(sy 11)], (sy 18)⟩, ⟨(.load 3), [(sy 18)], (sy 19)⟩, ⟨(.bin .geq 3), [(sy 19), (iV 1)], (.bool true)⟩, ⟨(.bin .leq 3), [(sy 19), (iV 10)], (.bool true)⟩, ⟨(.fieldAddr 54 3), [(sy 11)], (sy 20)⟩, ⟨(.load 23), [(sy 20)], (.agg #[(sy 21), (sy 22)])⟩, ⟨(.bin .leq 3), [(sy 21), (sy 22)], (.bool false)⟩]
noncomputable def rsources_c7 : List CEnt := []
noncomputable def rsources_l7 : List LEnt := []
noncomputable def rsources_cl7 : List CLEnt := []

set_option maxRecDepth 1000000 in
theorem rsources_r7 : ev Try.prog (env.symL rsources_e7 rsources_c7 rsources_l7 rsources_cl7) 3000 (.code rsources_b10 none rsources_fr4 rsources_st4 (stopRK (env.symL rsources_e7 rsources_c7 rsources_l7 rsources_cl7) Try.f63 (endV (iV 3)))) = some () := by kernel_rfl

noncomputable def rsources_e8 : List Ent := [⟨(.bi 0 [38]), [(sy 8)], (sy 10)⟩, ⟨(.bin .lss 3), [(sy 9), (sy 10)], (.bool true)⟩, ⟨(.indexAddr 38), [(sy 8), (sy 9)], (sy 11)⟩, ⟨(.fieldAddr 54 0), [(sy 11)], (sy 12)⟩, ⟨(.load 3), [(sy 12)], (sy 13)⟩, ⟨(.bin .geq 3), [(sy 13), (iV 1)], (.bool true)⟩, ⟨(.bin .leq 3), [(sy 13), (iV 3)], (.bool true)⟩, ⟨(.fieldAddr 54 1), [(sy 11)], (sy 14)⟩, ⟨(.load 3), [(sy 14)], (sy 15)⟩, ⟨(.bin .mul 3), [(sy 0), (sy 1)], (sy 16)⟩, ⟨(.bin .sub 3), [(sy 16), (iV 1)], (sy 17)⟩, ⟨(.bin .geq 3), [(sy 15), (iV 0)], (.bool true)⟩, ⟨(.bin .leq 3), [(sy 15), (sy 17)], (.bool true)⟩, ⟨(.fieldAddr 54 2), [(sy 11)], (sy 18)⟩, ⟨(.load 3), [(sy 18)], (sy 19)⟩, ⟨(.bin .geq 3), [(sy 19), (iV 1)], (.bool true)⟩, ⟨(.bin .leq 3), [(sy 19), (iV 10)], (.bool false)⟩]
noncomputable def rsources_c8 : List CEnt := []
noncomputable def rsources_l8 : List LEnt := []
noncomputable def rsources_cl8 : List CLEnt := []

set_option maxRecDepth 1000000 in
theorem rsources_r8 : ev Try.prog (env.symL rsources_e8 rsources_c8 rsources_l8 rsources_cl8) 3000 (.code rsources_b10 none rsources_fr4 rsources_st4 (stopRK (env.symL rsources_e8 rsources_c8 rsources_l8 rsources_cl8) Try.f63 (endV (iV 3)))) = some () := by kernel_rfl

noncomputable def rsources_e9 : List Ent := [⟨(.bi 0 [38]), [(sy 8)], (sy 10)⟩, ⟨(.bin .lss 3), [(sy 9), (sy 10)], (.bool true)⟩, ⟨(.indexAddr 38), [(sy 8), (sy 9)], (sy 11)⟩, ⟨(.fieldAddr 54 0), [(sy 11)], (sy 12)⟩, ⟨(.load 3), [(sy 12)], (sy 13)⟩, ⟨(.bin .geq 3), [(sy 13), (iV 1)], (.bool true)⟩, ⟨(.bin .leq 3), [(sy 13), (iV 3)], (.bool true)⟩, ⟨(.fieldAddr 54 1), [(sy 11)], (sy 14)⟩, ⟨(.load 3), [(sy 14)], (sy 15)⟩, ⟨(.bin .mul 3), [(sy 0), (sy 1)], (sy 16)⟩, ⟨(.bin .sub 3), [(sy 16), (iV 1)], (sy 17)⟩, ⟨(.bin .geq 3), [(sy 15), (iV 0)], (.bool true)⟩, ⟨(.bin .leq 3), [(sy 15), (sy 17)], (.bool true)⟩, ⟨(.fieldAddr 54 2), [(sy 11)], (sy 18)⟩, ⟨(.load 3), [(sy 18)], (sy 19)⟩, ⟨(.bin .geq 3), [(sy 19), (iV 1)], (.bool false)⟩]
noncomputable def rsources_c9 : List CEnt := []
noncomputable def rsources_l9 : List LEnt := []
noncomputable def rsources_cl9 : List CLEnt := []

set_option maxRecDepth 1000000 in
theorem rsources_r9 : ev Try.prog (env.symL rsources_e9 rsources_c9 rsources_l9 rsources_cl9) 3000 (.code rsources_b10 none rsources_fr4 rsources_st4 (stopRK (env.symL rsources_e9 rsources_c9 rsources_l9 rsources_cl9) Try.f63 (endV (iV 3)))) = some () := by kernel_rfl

noncomputable def rsources_e10 : List Ent := [⟨(.bi 0 [38]), [(sy 8)], (sy 10)⟩, ⟨(.bin .lss 3), [(sy 9), (sy 10)], (.bool true)⟩, ⟨(.indexAddr 38), [(sy 8), (sy 9)], (sy 11)⟩, ⟨(.fieldAddr 54 0), [(sy 11)], (sy 12)⟩, ⟨(.load 3), [(sy 12)], (sy 13)⟩, ⟨(.bin .geq 3), [(sy 13), (iV 1)], (.bool true)⟩, ⟨(.bin .leq 3), [(sy 13), (iV 3)], (.bool true)⟩, ⟨(.fieldAddr 54 1), [(sy 11)], (sy 14)⟩, ⟨(.load 3), [(sy 14)], (sy 15)⟩, ⟨(.bin .mul 3), [(sy 0), (sy 1)], (sy 16)⟩, ⟨(.bin .sub 3), [(sy 16), (iV 1)], (sy 17)⟩, ⟨(.bin .geq 3), [(sy 15), (iV 0)], (.bool true)⟩, ⟨(.bin .leq 3), [(sy 15), (sy 17)], (.bool false)⟩]
noncomputable def rsources_c10 : List CEnt := []
noncomputable def rsources_l10 : List LEnt := []
noncomputable def rsources_cl10 : List CLEnt := []

set_option maxRecDepth 1000000 in
theorem rsources_r10 : ev Try.prog (env.symL rsources_e10 rsources_c10 rsources_l10 rsources_cl10) 3000 (.code rsources_b10 none rsources_fr4 rsources_st4 (stopRK (env.symL rsources_e10 rsources_c10 rsources_l10 rsources_cl10) Try.f63 (endV (iV 4)))) = some () := by kernel_rfl

noncomputable def rsources_e11 : List Ent := [⟨(.bi 0 [38]), [(sy 8)], (sy 10)⟩, ⟨(.bin .lss 3), [(sy 9), (sy 10)], (.bool true)⟩, ⟨(.indexAddr 38), [(sy 8), (sy 9)], (sy 11)⟩, ⟨(.fieldAddr 54 0), [(sy 11)], (sy 12)⟩, ⟨(.load 3), [(sy 12)], (sy 13)⟩, ⟨(.bin .geq 3), [(sy 13), (iV 1)], (.bool true)⟩, ⟨(.bin .leq 3), [(sy 13), (iV 3)], (.bool true)⟩, ⟨(.fieldAddr 54 1), [(sy 11)], (sy 14)⟩, ⟨(.load 3), [(sy 14)], (sy 15)⟩, ⟨(.bin .mul 3), [(sy 0), (sy 1)], (sy 16)⟩, ⟨(.bin .sub 3), [(sy 16), (iV 1)], (sy 17)⟩, ⟨(.bin .geq 3), [(sy 15), (iV 0)], (.bool false)⟩]
noncomputable def rsources_c11 : List CEnt := []
noncomputable def rsources_l11 : List LEnt := []
noncomputable def rsources_cl11 : List CLEnt := []

set_option maxRecDepth 1000000 in
theorem rsources_r11 : ev Try.prog (env.symL rsources_e11 rsources_c11 rsources_l11 rsources_cl11) 3000 (.code rsources_b10 none rsources_fr4 rsources_st4 (stopRK (env.symL rsources_e11 rsources_c11 rsources_l11 rsources_cl11) Try.f63 (endV (iV 4)))) = some () := by kernel_rfl

noncomputable def rsources_e12 : List Ent := [⟨(.bi 0 [38]), [(sy 8)], (sy 10)⟩, ⟨(.bin .lss 3), [(sy 9), (sy 10)], (.bool true)⟩, ⟨(.indexAddr 38), [(sy 8), (sy 9)], (sy 11)⟩, ⟨(.fieldAddr 54 0), [(sy 11)], (sy 12)⟩, ⟨(.load 3), [(sy 12)], (sy 13)⟩, ⟨(.bin .geq 3), [(sy 13), (iV 1)], (.bool true)⟩, ⟨(.bin .leq 3), [(sy 13), (iV 3)], (.bool false)⟩]
noncomputable def rsources_c12 : List CEnt := []
noncomputable def rsources_l12 : List LEnt := []
noncomputable def rsources_cl12 : List CLEnt := []

set_option maxRecDepth 1000000 in
theorem rsources_r12 : ev Try.prog (env.symL rsources_e12 rsources_c12 rsources_l12 rsources_cl12) 3000 (.code rsources_b10 none rsources_fr4 rsources_st4 (stopRK (env.symL rsources_e12 rsources_c12 rsources_l12 rsources_cl12) Try.f63 (endV (iV 2)))) = some () := by kernel_rfl

noncomputable def rsources_e13 : List Ent := [⟨(.bi 0 [38]), [(sy 8)], (sy 10)⟩, ⟨(.bin .lss 3), [(sy 9), (sy 10)], (.bool true)⟩, ⟨(.indexAddr 38), [(sy 8), (sy 9)], (sy 11)⟩, ⟨(.fieldAddr 54 0), [(sy 11)], (sy 12)⟩, ⟨(.load 3), [(sy 12)], (sy 13)⟩, ⟨(.bin .geq 3), [(sy 13), (iV 1)], (.bool false)⟩]
noncomputable def rsources_c13 : List CEnt := []
noncomputable def rsources_l13 : List LEnt := []
noncomputable def rsources_cl13 : List CLEnt := []

set_option maxRecDepth 1000000 in
theorem rsources_r13 : ev Try.prog (env.symL rsources_e13 rsources_c13 rsources_l13 rsources_cl13) 3000 (.code rsources_b10 none rsources_fr4 rsources_st4 (stopRK (env.symL rsources_e13 rsources_c13 rsources_l13 rsources_cl13) Try.f63 (endV (iV 2)))) = some () := by kernel_rfl

noncomputable def rsources_e14 : List Ent := [⟨(.bi 0 [38]), [(sy 8)], (sy 10)⟩, ⟨(.bin .lss 3), [(sy 9), (sy 10)], (.bool false)⟩]
noncomputable def rsources_c14 : List CEnt := []
noncomputable def rsources_l14 : List LEnt := []
noncomputable def rsources_cl14 : List CLEnt := []

noncomputable def rsources_fr5 : Fr := mkFr Try.f63 [(4, (iV (.ofNat 0)))] []
noncomputable def rsources_st5 : St := mkSt 0 []
theorem rsources_wf5 : rsources_st5.Wf := mkSt_wf rfl
set_option maxRecDepth 1000000 in
theorem rsources_id5 : agreeL [sy 0, sy 1, sy 2, sy 3, sy 4, sy 5, sy 6, sy 7, sy 8] [] [] rsources_fr5 rsources_st5 rsources_fr5 rsources_st5 = true := by kernel_rfl

set_option maxRecDepth 1000000 in
theorem rsources_r14 : ev Try.prog (env.symL rsources_e14 rsources_c14 rsources_l14 rsources_cl14) 3000 (.code rsources_b10 none rsources_fr4 rsources_st4 (stopL (.exit 0) [sy 0, sy 1, sy 2, sy 3, sy 4, sy 5, sy 6, sy 7, sy 8] [] [] rsources_fr5 rsources_st5)) = some () := by kernel_rfl

set_option maxRecDepth 1000000 in
theorem rsources_r15 : ev Try.prog (env.symL [] [] [] []) 3000 (.code rsources_b6 none rsources_fr5 rsources_st5 (retK (env.symL [] [] [] []) Try.f63 (endV (iV 0)))) = some () := by kernel_rfl

set_option maxHeartbeats 8000000 in
set_option maxRecDepth 100000 in
theorem rsources_any (x0 : Int) (x1 : Int) (x2 : Int) (x3 : Int) (x4 : Int) (x5 : Int) (x6 : Int) (x7 : Int) (al : Option Addr) (l : List Src) (ql : Nat) (w0 : World) {tl : TypeId} (Hl : Lies w0 tl (flat srcC l) al l.length) (hn : l.length < 1000000) (v0 : 1 ≤ x0 ∧ x0 ≤ 24) (v1 : 1 ≤ x1 ∧ x1 ≤ 24) : Calls Try.prog 63 #[(.agg #[(iV x0), (iV x1), (iV x2), (iV x3), (iV x4), (iV x5), (iV x6), (iV x7)]), (.slice al l.length ql)] w0 (fun en w' => en = .returned (iV (srcsErr x0 x1 l)) ∧ Below w0.heap.size w0 w') := by
  have hx := mul_bd (a := x0) (b := x1) (A := 24) (B := 24) (C := 576) (by omega) (by omega) (by omega) (by omega)
  refine @calls_of_body (Rho.of [(iV x0), (iV x1), (iV x2), (iV x3), (iV x4), (iV x5), (iV x6), (iV x7), (.slice al l.length ql)] (fun b => w0.heap[b]?) []) Try.prog env (@env_ok (Rho.of [(iV x0), (iV x1), (iV x2), (iV x3), (iV x4), (iV x5), (iV x6), (iV x7), (.slice al l.length ql)] (fun b => w0.heap[b]?) [])) 63 Try.f63 rsources_b0 [(.agg #[(.chan (.some 0)), (.chan (.some 1)), (.chan (.some 2)), (.chan (.some 3)), (.chan (.some 4)), (.chan (.some 5)), (.chan (.some 6)), (.chan (.some 7))]), (.chan (.some 8))] w0 _ (by kernel_rfl) (by kernel_rfl) (of_decide_eq_true (by kernel_rfl)) (of_decide_eq_true (by kernel_rfl)) rfl (fun _ _ h => h) (fun a hat0 => ?_)
  have hat : @At (Rho.of [(iV x0), (iV x1), (iV x2), (iV x3), (iV x4), (iV x5), (iV x6), (iV x7), (.slice al l.length ql)] (fun b => w0.heap[b]?) []) w0 rsources_fr0 rsources_st0 a w0 := At.shiftL (σ := [sy 0, sy 1, sy 2, sy 3, sy 4, sy 5, sy 6, sy 7, sy 8]) (π := []) (τ := []) ⟨rfl, rfl, rfl, rfl, rfl, rfl, rfl, rfl, rfl, rfl, rfl, rfl, rfl, rfl, rfl, rfl, rfl, rfl, trivial⟩ trivial (fun _ _ h => h) rsources_wf0 rsources_a0 hat0
  clear hat0
  suffices key : ∀ w, @At (Rho.of [(iV x0), (iV x1), (iV x2), (iV x3), (iV x4), (iV x5), (iV x6), (iV x7), (.slice al l.length ql)] (fun b => w0.heap[b]?) []) w0 rsources_fr0 rsources_st0 a w → rsources_b0.wpIn (FF none) 0 Try.prog (bodyPostM Fence.wide 0 Try.prog Try.f63 (fun en w' => en = .returned (iV (srcsErr x0 x1 l)) ∧ Below w0.heap.size w0 w')) a w from key w0 hat
  clear hat
  intro w hat
  let p0 : Rho := (Rho.of [(iV x0), (iV x1), (iV x2), (iV x3), (iV x4), (iV x5), (iV x6), (iV x7), (.slice al l.length ql)] (fun b => w0.heap[b]?) [])
  change @At p0 w0 rsources_fr0 rsources_st0 a w at hat
  refine g_seq rsources_q0 ?_
  let r0 : Rho := (Rho.of [(iV x0), (iV x1), (iV x2), (iV x3), (iV x4), (iV x5), (iV x6), (iV x7), (.slice al l.length ql)] (fun b => w0.heap[b]?) [])
  have hat1 : @At r0 w0 rsources_fr0 rsources_st0 a w := At.shiftL (ρ1 := p0) (ρ2 := r0) (σ := [sy 0, sy 1, sy 2, sy 3, sy 4, sy 5, sy 6, sy 7, sy 8]) (π := []) (τ := []) ⟨rfl, rfl, rfl, rfl, rfl, rfl, rfl, rfl, rfl, rfl, rfl, rfl, rfl, rfl, rfl, rfl, rfl, rfl, trivial⟩ trivial (fun _ _ h => h) rsources_wf0 rsources_id0 hat
  let p1 : Rho := (Rho.of [(iV x0), (iV x1), (iV x2), (iV x3), (iV x4), (iV x5), (iV x6), (iV x7), (.slice al l.length ql)] (fun b => w0.heap[b]?) [])
  refine At.pieceL (ρ1 := r0) (ρ2 := p1) (@Env.Ok.symL r0 _ _ (@env_ok r0) [] [] [] [] trivial trivial trivial trivial) rsources_r0 ⟨rfl, rfl, rfl, rfl, rfl, rfl, rfl, rfl, rfl, rfl, rfl, rfl, rfl, rfl, rfl, rfl, rfl, rfl, trivial⟩ trivial (fun _ _ h => h) rsources_wf0 rsources_wf1 hat1 (fun a w hat => .inl ⟨rfl, ?_⟩)
  refine g_seq rsources_q1 ?_
  by_cases c0 : ((l.length : Nat) : Int) > 256
  · let r1 : Rho := (Rho.of [(iV x0), (iV x1), (iV x2), (iV x3), (iV x4), (iV x5), (iV x6), (iV x7), (.slice al l.length ql), (iV (((l.length : Nat) : Int)))] (fun b => w0.heap[b]?) [])
    have hat1 : @At r1 w0 rsources_fr1 rsources_st1 a w := At.shiftL (ρ1 := p1) (ρ2 := r1) (σ := [sy 0, sy 1, sy 2, sy 3, sy 4, sy 5, sy 6, sy 7, sy 8]) (π := [0]) (τ := []) ⟨rfl, rfl, rfl, rfl, rfl, rfl, rfl, rfl, rfl, rfl, rfl, rfl, rfl, rfl, rfl, rfl, rfl, rfl, trivial⟩ trivial (fun _ _ h => h) rsources_wf1 rsources_id1 hat
    refine @At.retGK r1 Try.prog (env.symL rsources_e1 rsources_c1 rsources_l1 rsources_cl1) (@Env.Ok.symL r1 _ _ (@env_ok r1) rsources_e1 rsources_c1 rsources_l1 rsources_cl1 ⟨⟨rfl, rfl, fun w hm => (show KO w (.bi 0 [38]) [(.slice al l.length ql)] (iV (((l.length : Nat) : Int))) from k_len Try.underlying38)⟩, ⟨rfl, rfl, fun w hm => (show KO w (.bin .gtr 3) [(iV (((l.length : Nat) : Int))), (iV 256)] (.bool true) from k_gtr_t c0)⟩, trivial⟩ trivial trivial trivial) w0 3000 rsources_b3 Try.f63 rsources_fr1 rsources_st1 _ _ rsources_r1 rsources_wf1 a w hat1 (@endV_ok r1 w0 (iV 9) (fun en w' => en = .returned (iV (srcsErr x0 x1 l)) ∧ Below w0.heap.size w0 w') rfl (fun w2 hb => ?_)) _ (fun a w h => .inr ⟨(fun q => nomatch q), h⟩)
    have v0 : (9 : Int) = srcsErr x0 x1 l := by
      unfold srcsErr; rw [if_pos (by omega)]
    have hv := congrArg (fun (y0 : Int) => ((iV y0) : Value)) v0
    exact ⟨congrArg Ending.returned hv, hb⟩
  · let r2 : Rho := (Rho.of [(iV x0), (iV x1), (iV x2), (iV x3), (iV x4), (iV x5), (iV x6), (iV x7), (.slice al l.length ql), (iV (((l.length : Nat) : Int)))] (fun b => w0.heap[b]?) [])
    have hat1 : @At r2 w0 rsources_fr1 rsources_st1 a w := At.shiftL (ρ1 := p1) (ρ2 := r2) (σ := [sy 0, sy 1, sy 2, sy 3, sy 4, sy 5, sy 6, sy 7, sy 8]) (π := [0]) (τ := []) ⟨rfl, rfl, rfl, rfl, rfl, rfl, rfl, rfl, rfl, rfl, rfl, rfl, rfl, rfl, rfl, rfl, rfl, rfl, trivial⟩ trivial (fun _ _ h => h) rsources_wf1 rsources_id1 hat
    let p2 : Rho := (Rho.of [(iV x0), (iV x1), (iV x2), (iV x3), (iV x4), (iV x5), (iV x6), (iV x7), (.slice al l.length ql)] (fun b => w0.heap[b]?) [])
    refine At.pieceL (ρ1 := r2) (ρ2 := p2) (@Env.Ok.symL r2 _ _ (@env_ok r2) rsources_e2 rsources_c2 rsources_l2 rsources_cl2 ⟨⟨rfl, rfl, fun w hm => (show KO w (.bi 0 [38]) [(.slice al l.length ql)] (iV (((l.length : Nat) : Int))) from k_len Try.underlying38)⟩, ⟨rfl, rfl, fun w hm => (show KO w (.bin .gtr 3) [(iV (((l.length : Nat) : Int))), (iV 256)] (.bool false) from k_gtr_f c0)⟩, trivial⟩ trivial trivial trivial) rsources_r2 ⟨rfl, rfl, rfl, rfl, rfl, rfl, rfl, rfl, rfl, rfl, rfl, rfl, rfl, rfl, rfl, rfl, rfl, rfl, trivial⟩ trivial (fun _ _ h => h) rsources_wf1 rsources_wf2 hat1 (fun a w hat => .inl ⟨rfl, ?_⟩)
    refine g_seq rsources_q2 ?_
    refine g_seq rsources_q3 ?_
    let r3 : Rho := (Rho.of [(iV x0), (iV x1), (iV x2), (iV x3), (iV x4), (iV x5), (iV x6), (iV x7), (.slice al l.length ql)] (fun b => w0.heap[b]?) [])
    have hat1 : @At r3 w0 rsources_fr2 rsources_st2 a w := At.shiftL (ρ1 := p2) (ρ2 := r3) (σ := [sy 0, sy 1, sy 2, sy 3, sy 4, sy 5, sy 6, sy 7, sy 8]) (π := [0]) (τ := []) ⟨rfl, rfl, rfl, rfl, rfl, rfl, rfl, rfl, rfl, rfl, rfl, rfl, rfl, rfl, rfl, rfl, rfl, rfl, trivial⟩ trivial (fun _ _ h => h) rsources_wf2 rsources_id2 hat
    let p3 : Rho := (Rho.of [(iV x0), (iV x1), (iV x2), (iV x3), (iV x4), (iV x5), (iV x6), (iV x7), (.slice al l.length ql)] (fun b => w0.heap[b]?) [])
    refine At.pieceL (ρ1 := r3) (ρ2 := p3) (@Env.Ok.symL r3 _ _ (@env_ok r3) [] [] [] [] trivial trivial trivial trivial) rsources_r3 ⟨rfl, rfl, rfl, rfl, rfl, rfl, rfl, rfl, rfl, rfl, rfl, rfl, rfl, rfl, rfl, rfl, rfl, rfl, trivial⟩ trivial (fun _ _ h => h) rsources_wf2 rsources_wf3 hat1 (fun a w hat => .inl ⟨rfl, ?_⟩)
    refine g_block rsources_q4 ?_
    have hat0 := At.shiftL (ρ1 := p3) (ρ2 := (Rho.of [(iV x0), (iV x1), (iV x2), (iV x3), (iV x4), (iV x5), (iV x6), (iV x7), (.slice al l.length ql), (iV ((0 : Int)))] (fun b => w0.heap[b]?) [])) (σ := [(sy 0), (sy 1), (sy 2), (sy 3), (sy 4), (sy 5), (sy 6), (sy 7), (sy 8), (iV 0)]) (π := [0]) (τ := []) ⟨rfl, rfl, rfl, rfl, rfl, rfl, rfl, rfl, rfl, rfl, rfl, rfl, rfl, rfl, rfl, rfl, rfl, rfl, rfl, rfl, trivial⟩ trivial (fun _ _ h => h) rsources_wf4 rsources_h6 hat
    clear hat
    refine g_loop (fun (x : Int) a w => (0 ≤ (x : Int) ∧ (x : Int) ≤ l.length ∧ (∀ k : Nat, (k : Int) < (x : Int) → srcErr x0 x1 (l.getD k srcD) = 0)) ∧ @At (Rho.of [(iV x0), (iV x1), (iV x2), (iV x3), (iV x4), (iV x5), (iV x6), (iV x7), (.slice al l.length ql), (iV ((x : Int)))] (fun b => w0.heap[b]?) []) w0 rsources_fr4 rsources_st4 a w) (fun x => (l.length - (x : Int)).toNat) rsources_q5 ?_ (0) ⟨?_, hat0⟩
    · clear hat0
      rintro i a w ⟨hinv, hat⟩
      change 0 ≤ i ∧ i ≤ l.length ∧ (∀ k : Nat, (k : Int) < i → srcErr x0 x1 (l.getD k srcD) = 0) at hinv
      let p4 : Rho := (Rho.of [(iV x0), (iV x1), (iV x2), (iV x3), (iV x4), (iV x5), (iV x6), (iV x7), (.slice al l.length ql), (iV i)] (fun b => w0.heap[b]?) [])
      change @At p4 w0 rsources_fr4 rsources_st4 a w at hat
      obtain ⟨i0, i1, i2⟩ := hinv
      by_cases c1 : i < ((l.length : Nat) : Int)
      · obtain ⟨z2, hz2⟩ : ∃ z : Src, z = l.getD (i).toNat srcD := ⟨_, rfl⟩
        by_cases c3 : z2.kind ≥ 1
        · by_cases c4 : z2.kind ≤ 3
          · by_cases c5 : z2.cell ≥ 0
            · by_cases c6 : z2.cell ≤ ((x0 * x1) - 1)
              · by_cases c7 : z2.cls ≥ 1
                · by_cases c8 : z2.cls ≤ 10
                  · by_cases c9 : z2.lo ≤ z2.hi
                    · by_cases c10 : z2.lo ≥ 0
                      · by_cases c11 : z2.hi ≤ 1000000000
                        · let r4 : Rho := (Rho.of [(iV x0), (iV x1), (iV x2), (iV x3), (iV x4), (iV x5), (iV x6), (iV x7), (.slice al l.length ql), (iV i), (iV (((l.length : Nat) : Int))), (.pointer (ptrO al ((i).toNat * 5))), (.pointer (ptrO al ((i).toNat * 5 + 0))), (iV z2.kind), (.pointer (ptrO al ((i).toNat * 5 + 1))), (iV z2.cell), (iV ((x0 * x1))), (iV (((x0 * x1) - 1))), (.pointer (ptrO al ((i).toNat * 5 + 2))), (iV z2.cls), (.pointer (ptrO al ((i).toNat * 5 + 3))), (iV z2.lo), (iV z2.hi), (iV ((i + 1)))] (fun b => w0.heap[b]?) [])
                          have hat1 : @At r4 w0 rsources_fr4 rsources_st4 a w := At.shiftL (ρ1 := p4) (ρ2 := r4) (σ := [sy 0, sy 1, sy 2, sy 3, sy 4, sy 5, sy 6, sy 7, sy 8, sy 9]) (π := [0]) (τ := []) ⟨rfl, rfl, rfl, rfl, rfl, rfl, rfl, rfl, rfl, rfl, rfl, rfl, rfl, rfl, rfl, rfl, rfl, rfl, rfl, rfl, trivial⟩ trivial (fun _ _ h => h) rsources_wf4 rsources_id4 hat
                          refine At.pieceL (ρ1 := r4) (ρ2 := (Rho.of [(iV x0), (iV x1), (iV x2), (iV x3), (iV x4), (iV x5), (iV x6), (iV x7), (.slice al l.length ql), (iV (((i + 1) : Int)))] (fun b => w0.heap[b]?) [])) (@Env.Ok.symL r4 _ _ (@env_ok r4) rsources_e4 rsources_c4 rsources_l4 rsources_cl4 ⟨⟨rfl, rfl, fun w hm => (show KO w (.bi 0 [38]) [(.slice al l.length ql)] (iV (((l.length : Nat) : Int))) from k_len Try.underlying38)⟩, ⟨rfl, rfl, fun w hm => (show KO w (.bin .lss 3) [(iV i), (iV (((l.length : Nat) : Int)))] (.bool true) from k_lss_t c1)⟩, ⟨rfl, rfl, fun w hm => (show KO w (.indexAddr 38) [(.slice al l.length ql), (iV i)] (.pointer (ptrO al ((i).toNat * 5))) from l_index (Hl.keep hm) Try.underlying38 (by kernel_rfl) (by omega) (by omega))⟩, ⟨rfl, rfl, fun w hm => (show KO w (.fieldAddr 54 0) [(.pointer (ptrO al ((i).toNat * 5)))] (.pointer (ptrO al ((i).toNat * 5 + 0))) from l_fieldo (sz := 1) 0 0 (Hl.keep hm) (by omega) Try.underlying54 rfl rfl (by kernel_rfl) (by decide))⟩, ⟨rfl, rfl, fun w hm => (show KO w (.load 3) [(.pointer (ptrO al ((i).toNat * 5 + 0)))] (iV z2.kind) from l_load (Hl.keep hm) (by omega) Try.underlying3 rfl (flat_getz (c := srcC) (sz := 5) (fun _ => rfl) hz2 (by omega) 0 _ rfl))⟩, ⟨rfl, rfl, fun w hm => (show KO w (.bin .geq 3) [(iV z2.kind), (iV 1)] (.bool true) from k_geq_t c3)⟩, ⟨rfl, rfl, fun w hm => (show KO w (.bin .leq 3) [(iV z2.kind), (iV 3)] (.bool true) from k_leq_t c4)⟩, ⟨rfl, rfl, fun w hm => (show KO w (.fieldAddr 54 1) [(.pointer (ptrO al ((i).toNat * 5)))] (.pointer (ptrO al ((i).toNat * 5 + 1))) from l_fieldo (sz := 1) 1 1 (Hl.keep hm) (by omega) Try.underlying54 rfl rfl (by kernel_rfl) (by decide))⟩, ⟨rfl, rfl, fun w hm => (show KO w (.load 3) [(.pointer (ptrO al ((i).toNat * 5 + 1)))] (iV z2.cell) from l_load (Hl.keep hm) (by omega) Try.underlying3 rfl (flat_getz (c := srcC) (sz := 5) (fun _ => rfl) hz2 (by omega) 1 _ rfl))⟩, ⟨rfl, rfl, fun w hm => (show KO w (.bin .mul 3) [(iV x0), (iV x1)] (iV ((x0 * x1))) from k_mul (wrap64 (by omega)))⟩, ⟨rfl, rfl, fun w hm => (show KO w (.bin .sub 3) [(iV ((x0 * x1))), (iV 1)] (iV (((x0 * x1) - 1))) from k_sub (wrap64 (by omega)))⟩, ⟨rfl, rfl, fun w hm => (show KO w (.bin .geq 3) [(iV z2.cell), (iV 0)] (.bool true) from k_geq_t c5)⟩, ⟨rfl, rfl, fun w hm => (show KO w (.bin .leq 3) [(iV z2.cell), (iV (((x0 * x1) - 1)))] (.bool true) from k_leq_t c6)⟩, ⟨rfl, rfl, fun w hm => (show KO w (.fieldAddr 54 2) [(.pointer (ptrO al ((i).toNat * 5)))] (.pointer (ptrO al ((i).toNat * 5 + 2))) from l_fieldo (sz := 1) 2 2 (Hl.keep hm) (by omega) Try.underlying54 rfl rfl (by kernel_rfl) (by decide))⟩, ⟨rfl, rfl, fun w hm => (show KO w (.load 3) [(.pointer (ptrO al ((i).toNat * 5 + 2)))] (iV z2.cls) from l_load (Hl.keep hm) (by omega) Try.underlying3 rfl (flat_getz (c := srcC) (sz := 5) (fun _ => rfl) hz2 (by omega) 2 _ rfl))⟩, ⟨rfl, rfl, fun w hm => (show KO w (.bin .geq 3) [(iV z2.cls), (iV 1)] (.bool true) from k_geq_t c7)⟩, ⟨rfl, rfl, fun w hm => (show KO w (.bin .leq 3) [(iV z2.cls), (iV 10)] (.bool true) from k_leq_t c8)⟩, ⟨rfl, rfl, fun w hm => (show KO w (.fieldAddr 54 3) [(.pointer (ptrO al ((i).toNat * 5)))] (.pointer (ptrO al ((i).toNat * 5 + 3))) from l_fieldo (sz := 2) 3 3 (Hl.keep hm) (by omega) Try.underlying54 rfl rfl (by kernel_rfl) (by decide))⟩, ⟨rfl, rfl, fun w hm => (show KO w (.load 23) [(.pointer (ptrO al ((i).toNat * 5 + 3)))] (.agg #[(iV z2.lo), (iV z2.hi)]) from l_loadS (Hl.keep hm) (by omega) Try.underlying23 rfl (l := [(iV z2.lo), (iV z2.hi)]) (by kernel_rfl) (fun j v hj => by have := flat_getz (c := srcC) (sz := 5) (fun _ => rfl) hz2 (by omega) (3 + j) v (by revert hj; match j with | 0 => exact fun h => h | 1 => exact fun h => h | _ + 2 => exact fun h => nomatch h); rw [Nat.add_assoc]; exact this))⟩, ⟨rfl, rfl, fun w hm => (show KO w (.bin .leq 3) [(iV z2.lo), (iV z2.hi)] (.bool true) from k_leq_t c9)⟩, ⟨rfl, rfl, fun w hm => (show KO w (.bin .geq 3) [(iV z2.lo), (iV 0)] (.bool true) from k_geq_t c10)⟩, ⟨rfl, rfl, fun w hm => (show KO w (.bin .leq 3) [(iV z2.hi), (iV 1000000000)] (.bool true) from k_leq_t c11)⟩, ⟨rfl, rfl, fun w hm => (show KO w (.bin .add 3) [(iV i), (iV 1)] (iV ((i + 1))) from k_add (wrap64 (by omega)))⟩, trivial⟩ trivial trivial trivial) rsources_r4 ⟨rfl, rfl, rfl, rfl, rfl, rfl, rfl, rfl, rfl, rfl, rfl, rfl, rfl, rfl, rfl, rfl, rfl, rfl, rfl, rfl, trivial⟩ trivial (fun _ _ h => h) rsources_wf4 rsources_wf4 hat1 (fun a w hat => .inl ⟨rfl, ⟨((i + 1)), ?_, ?_, hat⟩⟩)
                          · show (l.length - ((i + 1) : Int)).toNat < (l.length - i).toNat
                            omega
                          · show 0 ≤ ((i + 1) : Int) ∧ ((i + 1) : Int) ≤ l.length ∧ (∀ k : Nat, (k : Int) < ((i + 1) : Int) → srcErr x0 x1 (l.getD k srcD) = 0)
                            have hs : srcErr x0 x1 (l.getD i.toNat srcD) = 0 := by
                              unfold srcErr
                              repeat' split
                              all_goals simp_all
                              all_goals omega
                            refine ⟨by omega, by omega, fun k hk => ?_⟩
                            rcases Int.lt_or_le (k : Int) i with q | q
                            · exact i2 k q
                            · have e : k = i.toNat := (by omega)
                              subst e; exact hs
                        · let r5 : Rho := (Rho.of [(iV x0), (iV x1), (iV x2), (iV x3), (iV x4), (iV x5), (iV x6), (iV x7), (.slice al l.length ql), (iV i), (iV (((l.length : Nat) : Int))), (.pointer (ptrO al ((i).toNat * 5))), (.pointer (ptrO al ((i).toNat * 5 + 0))), (iV z2.kind), (.pointer (ptrO al ((i).toNat * 5 + 1))), (iV z2.cell), (iV ((x0 * x1))), (iV (((x0 * x1) - 1))), (.pointer (ptrO al ((i).toNat * 5 + 2))), (iV z2.cls), (.pointer (ptrO al ((i).toNat * 5 + 3))), (iV z2.lo), (iV z2.hi)] (fun b => w0.heap[b]?) [])
                          have hat1 : @At r5 w0 rsources_fr4 rsources_st4 a w := At.shiftL (ρ1 := p4) (ρ2 := r5) (σ := [sy 0, sy 1, sy 2, sy 3, sy 4, sy 5, sy 6, sy 7, sy 8, sy 9]) (π := [0]) (τ := []) ⟨rfl, rfl, rfl, rfl, rfl, rfl, rfl, rfl, rfl, rfl, rfl, rfl, rfl, rfl, rfl, rfl, rfl, rfl, rfl, rfl, trivial⟩ trivial (fun _ _ h => h) rsources_wf4 rsources_id4 hat
                          refine @At.retGK r5 Try.prog (env.symL rsources_e5 rsources_c5 rsources_l5 rsources_cl5) (@Env.Ok.symL r5 _ _ (@env_ok r5) rsources_e5 rsources_c5 rsources_l5 rsources_cl5 ⟨⟨rfl, rfl, fun w hm => (show KO w (.bi 0 [38]) [(.slice al l.length ql)] (iV (((l.length : Nat) : Int))) from k_len Try.underlying38)⟩, ⟨rfl, rfl, fun w hm => (show KO w (.bin .lss 3) [(iV i), (iV (((l.length : Nat) : Int)))] (.bool true) from k_lss_t c1)⟩, ⟨rfl, rfl, fun w hm => (show KO w (.indexAddr 38) [(.slice al l.length ql), (iV i)] (.pointer (ptrO al ((i).toNat * 5))) from l_index (Hl.keep hm) Try.underlying38 (by kernel_rfl) (by omega) (by omega))⟩, ⟨rfl, rfl, fun w hm => (show KO w (.fieldAddr 54 0) [(.pointer (ptrO al ((i).toNat * 5)))] (.pointer (ptrO al ((i).toNat * 5 + 0))) from l_fieldo (sz := 1) 0 0 (Hl.keep hm) (by omega) Try.underlying54 rfl rfl (by kernel_rfl) (by decide))⟩, ⟨rfl, rfl, fun w hm => (show KO w (.load 3) [(.pointer (ptrO al ((i).toNat * 5 + 0)))] (iV z2.kind) from l_load (Hl.keep hm) (by omega) Try.underlying3 rfl (flat_getz (c := srcC) (sz := 5) (fun _ => rfl) hz2 (by omega) 0 _ rfl))⟩, ⟨rfl, rfl, fun w hm => (show KO w (.bin .geq 3) [(iV z2.kind), (iV 1)] (.bool true) from k_geq_t c3)⟩, ⟨rfl, rfl, fun w hm => (show KO w (.bin .leq 3) [(iV z2.kind), (iV 3)] (.bool true) from k_leq_t c4)⟩, ⟨rfl, rfl, fun w hm => (show KO w (.fieldAddr 54 1) [(.pointer (ptrO al ((i).toNat * 5)))] (.pointer (ptrO al ((i).toNat * 5 + 1))) from l_fieldo (sz := 1) 1 1 (Hl.keep hm) (by omega) Try.underlying54 rfl rfl (by kernel_rfl) (by decide))⟩, ⟨rfl, rfl, fun w hm => (show KO w (.load 3) [(.pointer (ptrO al ((i).toNat * 5 + 1)))] (iV z2.cell) from l_load (Hl.keep hm) (by omega) Try.underlying3 rfl (flat_getz (c := srcC) (sz := 5) (fun _ => rfl) hz2 (by omega) 1 _ rfl))⟩, ⟨rfl, rfl, fun w hm => (show KO w (.bin .mul 3) [(iV x0), (iV x1)] (iV ((x0 * x1))) from k_mul (wrap64 (by omega)))⟩, ⟨rfl, rfl, fun w hm => (show KO w (.bin .sub 3) [(iV ((x0 * x1))), (iV 1)] (iV (((x0 * x1) - 1))) from k_sub (wrap64 (by omega)))⟩, ⟨rfl, rfl, fun w hm => (show KO w (.bin .geq 3) [(iV z2.cell), (iV 0)] (.bool true) from k_geq_t c5)⟩, ⟨rfl, rfl, fun w hm => (show KO w (.bin .leq 3) [(iV z2.cell), (iV (((x0 * x1) - 1)))] (.bool true) from k_leq_t c6)⟩, ⟨rfl, rfl, fun w hm => (show KO w (.fieldAddr 54 2) [(.pointer (ptrO al ((i).toNat * 5)))] (.pointer (ptrO al ((i).toNat * 5 + 2))) from l_fieldo (sz := 1) 2 2 (Hl.keep hm) (by omega) Try.underlying54 rfl rfl (by kernel_rfl) (by decide))⟩, ⟨rfl, rfl, fun w hm => (show KO w (.load 3) [(.pointer (ptrO al ((i).toNat * 5 + 2)))] (iV z2.cls) from l_load (Hl.keep hm) (by omega) Try.underlying3 rfl (flat_getz (c := srcC) (sz := 5) (fun _ => rfl) hz2 (by omega) 2 _ rfl))⟩, ⟨rfl, rfl, fun w hm => (show KO w (.bin .geq 3) [(iV z2.cls), (iV 1)] (.bool true) from k_geq_t c7)⟩, ⟨rfl, rfl, fun w hm => (show KO w (.bin .leq 3) [(iV z2.cls), (iV 10)] (.bool true) from k_leq_t c8)⟩, ⟨rfl, rfl, fun w hm => (show KO w (.fieldAddr 54 3) [(.pointer (ptrO al ((i).toNat * 5)))] (.pointer (ptrO al ((i).toNat * 5 + 3))) from l_fieldo (sz := 2) 3 3 (Hl.keep hm) (by omega) Try.underlying54 rfl rfl (by kernel_rfl) (by decide))⟩, ⟨rfl, rfl, fun w hm => (show KO w (.load 23) [(.pointer (ptrO al ((i).toNat * 5 + 3)))] (.agg #[(iV z2.lo), (iV z2.hi)]) from l_loadS (Hl.keep hm) (by omega) Try.underlying23 rfl (l := [(iV z2.lo), (iV z2.hi)]) (by kernel_rfl) (fun j v hj => by have := flat_getz (c := srcC) (sz := 5) (fun _ => rfl) hz2 (by omega) (3 + j) v (by revert hj; match j with | 0 => exact fun h => h | 1 => exact fun h => h | _ + 2 => exact fun h => nomatch h); rw [Nat.add_assoc]; exact this))⟩, ⟨rfl, rfl, fun w hm => (show KO w (.bin .leq 3) [(iV z2.lo), (iV z2.hi)] (.bool true) from k_leq_t c9)⟩, ⟨rfl, rfl, fun w hm => (show KO w (.bin .geq 3) [(iV z2.lo), (iV 0)] (.bool true) from k_geq_t c10)⟩, ⟨rfl, rfl, fun w hm => (show KO w (.bin .leq 3) [(iV z2.hi), (iV 1000000000)] (.bool false) from k_leq_f c11)⟩, trivial⟩ trivial trivial trivial) w0 3000 rsources_b10 Try.f63 rsources_fr4 rsources_st4 _ _ rsources_r5 rsources_wf4 a w hat1 (@endV_ok r5 w0 (iV 3) (fun en w' => en = .returned (iV (srcsErr x0 x1 l)) ∧ Below w0.heap.size w0 w') rfl (fun w2 hb => ?_)) _ (fun a w h => .inr ⟨.inr rfl, .inr ⟨(fun q => nomatch q), .inr ⟨(fun q => nomatch q), h⟩⟩⟩)
                          have v0 : (3 : Int) = srcsErr x0 x1 l := by
                            have hs : srcErr x0 x1 (l.getD i.toNat srcD) = 3 := by
                              unfold srcErr
                              repeat' split
                              all_goals simp_all
                              all_goals omega
                            unfold srcsErr
                            rw [if_neg (by omega), firstErr_at (srcErr x0 x1) srcD l i.toNat (by omega) (fun k hk => i2 k (by omega)) (by omega)]
                            omega
                          have hv := congrArg (fun (y0 : Int) => ((iV y0) : Value)) v0
                          exact ⟨congrArg Ending.returned hv, hb⟩
                      · let r6 : Rho := (Rho.of [(iV x0), (iV x1), (iV x2), (iV x3), (iV x4), (iV x5), (iV x6), (iV x7), (.slice al l.length ql), (iV i), (iV (((l.length : Nat) : Int))), (.pointer (ptrO al ((i).toNat * 5))), (.pointer (ptrO al ((i).toNat * 5 + 0))), (iV z2.kind), (.pointer (ptrO al ((i).toNat * 5 + 1))), (iV z2.cell), (iV ((x0 * x1))), (iV (((x0 * x1) - 1))), (.pointer (ptrO al ((i).toNat * 5 + 2))), (iV z2.cls), (.pointer (ptrO al ((i).toNat * 5 + 3))), (iV z2.lo), (iV z2.hi)] (fun b => w0.heap[b]?) [])
                        have hat1 : @At r6 w0 rsources_fr4 rsources_st4 a w := At.shiftL (ρ1 := p4) (ρ2 := r6) (σ := [sy 0, sy 1, sy 2, sy 3, sy 4, sy 5, sy 6, sy 7, sy 8, sy 9]) (π := [0]) (τ := []) ⟨rfl, rfl, rfl, rfl, rfl, rfl, rfl, rfl, rfl, rfl, rfl, rfl, rfl, rfl, rfl, rfl, rfl, rfl, rfl, rfl, trivial⟩ trivial (fun _ _ h => h) rsources_wf4 rsources_id4 hat
                        refine @At.retGK r6 Try.prog (env.symL rsources_e6 rsources_c6 rsources_l6 rsources_cl6) (@Env.Ok.symL r6 _ _ (@env_ok r6) rsources_e6 rsources_c6 rsources_l6 rsources_cl6 ⟨⟨rfl, rfl, fun w hm => (show KO w (.bi 0 [38]) [(.slice al l.length ql)] (iV (((l.length : Nat) : Int))) from k_len Try.underlying38)⟩, ⟨rfl, rfl, fun w hm => (show KO w (.bin .lss 3) [(iV i), (iV (((l.length : Nat) : Int)))] (.bool true) from k_lss_t c1)⟩, ⟨rfl, rfl, fun w hm => (show KO w (.indexAddr 38) [(.slice al l.length ql), (iV i)] (.pointer (ptrO al ((i).toNat * 5))) from l_index (Hl.keep hm) Try.underlying38 (by kernel_rfl) (by omega) (by omega))⟩, ⟨rfl, rfl, fun w hm => (show KO w (.fieldAddr 54 0) [(.pointer (ptrO al ((i).toNat * 5)))] (.pointer (ptrO al ((i).toNat * 5 + 0))) from l_fieldo (sz := 1) 0 0 (Hl.keep hm) (by omega) Try.underlying54 rfl rfl (by kernel_rfl) (by decide))⟩, ⟨rfl, rfl, fun w hm => (show KO w (.load 3) [(.pointer (ptrO al ((i).toNat * 5 + 0)))] (iV z2.kind) from l_load (Hl.keep hm) (by omega) Try.underlying3 rfl (flat_getz (c := srcC) (sz := 5) (fun _ => rfl) hz2 (by omega) 0 _ rfl))⟩, ⟨rfl, rfl, fun w hm => (show KO w (.bin .geq 3) [(iV z2.kind), (iV 1)] (.bool true) from k_geq_t c3)⟩, ⟨rfl, rfl, fun w hm => (show KO w (.bin .leq 3) [(iV z2.kind), (iV 3)] (.bool true) from k_leq_t c4)⟩, ⟨rfl, rfl, fun w hm => (show KO w (.fieldAddr 54 1) [(.pointer (ptrO al ((i).toNat * 5)))] (.pointer (ptrO al ((i).toNat * 5 + 1))) from l_fieldo (sz := 1) 1 1 (Hl.keep hm) (by omega) Try.underlying54 rfl rfl (by kernel_rfl) (by decide))⟩, ⟨rfl, rfl, fun w hm => (show KO w (.load 3) [(.pointer (ptrO al ((i).toNat * 5 + 1)))] (iV z2.cell) from l_load (Hl.keep hm) (by omega) Try.underlying3 rfl (flat_getz (c := srcC) (sz := 5) (fun _ => rfl) hz2 (by omega) 1 _ rfl))⟩, ⟨rfl, rfl, fun w hm => (show KO w (.bin .mul 3) [(iV x0), (iV x1)] (iV ((x0 * x1))) from k_mul (wrap64 (by omega)))⟩, ⟨rfl, rfl, fun w hm => (show KO w (.bin .sub 3) [(iV ((x0 * x1))), (iV 1)] (iV (((x0 * x1) - 1))) from k_sub (wrap64 (by omega)))⟩, ⟨rfl, rfl, fun w hm => (show KO w (.bin .geq 3) [(iV z2.cell), (iV 0)] (.bool true) from k_geq_t c5)⟩, ⟨rfl, rfl, fun w hm => (show KO w (.bin .leq 3) [(iV z2.cell), (iV (((x0 * x1) - 1)))] (.bool true) from k_leq_t c6)⟩, ⟨rfl, rfl, fun w hm => (show KO w (.fieldAddr 54 2) [(.pointer (ptrO al ((i).toNat * 5)))] (.pointer (ptrO al ((i).toNat * 5 + 2))) from l_fieldo (sz := 1) 2 2 (Hl.keep hm) (by omega) Try.underlying54 rfl rfl (by kernel_rfl) (by decide))⟩, ⟨rfl, rfl, fun w hm => (show KO w (.load 3) [(.pointer (ptrO al ((i).toNat * 5 + 2)))] (iV z2.cls) from l_load (Hl.keep hm) (by omega) Try.underlying3 rfl (flat_getz (c := srcC) (sz := 5) (fun _ => rfl) hz2 (by omega) 2 _ rfl))⟩, ⟨rfl, rfl, fun w hm => (show KO w (.bin .geq 3) [(iV z2.cls), (iV 1)] (.bool true) from k_geq_t c7)⟩, ⟨rfl, rfl, fun w hm => (show KO w (.bin .leq 3) [(iV z2.cls), (iV 10)] (.bool true) from k_leq_t c8)⟩, ⟨rfl, rfl, fun w hm => (show KO w (.fieldAddr 54 3) [(.pointer (ptrO al ((i).toNat * 5)))] (.pointer (ptrO al ((i).toNat * 5 + 3))) from l_fieldo (sz := 2) 3 3 (Hl.keep hm) (by omega) Try.underlying54 rfl rfl (by kernel_rfl) (by decide))⟩, ⟨rfl, rfl, fun w hm => (show KO w (.load 23) [(.pointer (ptrO al ((i).toNat * 5 + 3)))] (.agg #[(iV z2.lo), (iV z2.hi)]) from l_loadS (Hl.keep hm) (by omega) Try.underlying23 rfl (l := [(iV z2.lo), (iV z2.hi)]) (by kernel_rfl) (fun j v hj => by have := flat_getz (c := srcC) (sz := 5) (fun _ => rfl) hz2 (by omega) (3 + j) v (by revert hj; match j with | 0 => exact fun h => h | 1 => exact fun h => h | _ + 2 => exact fun h => nomatch h); rw [Nat.add_assoc]; exact this))⟩, ⟨rfl, rfl, fun w hm => (show KO w (.bin .leq 3) [(iV z2.lo), (iV z2.hi)] (.bool true) from k_leq_t c9)⟩, ⟨rfl, rfl, fun w hm => (show KO w (.bin .geq 3) [(iV z2.lo), (iV 0)] (.bool false) from k_geq_f c10)⟩, trivial⟩ trivial trivial trivial) w0 3000 rsources_b10 Try.f63 rsources_fr4 rsources_st4 _ _ rsources_r6 rsources_wf4 a w hat1 (@endV_ok r6 w0 (iV 3) (fun en w' => en = .returned (iV (srcsErr x0 x1 l)) ∧ Below w0.heap.size w0 w') rfl (fun w2 hb => ?_)) _ (fun a w h => .inr ⟨.inr rfl, .inr ⟨(fun q => nomatch q), .inr ⟨(fun q => nomatch q), h⟩⟩⟩)
                        have v0 : (3 : Int) = srcsErr x0 x1 l := by
                          have hs : srcErr x0 x1 (l.getD i.toNat srcD) = 3 := by
                            unfold srcErr
                            repeat' split
                            all_goals simp_all
                            all_goals omega
                          unfold srcsErr
                          rw [if_neg (by omega), firstErr_at (srcErr x0 x1) srcD l i.toNat (by omega) (fun k hk => i2 k (by omega)) (by omega)]
                          omega
                        have hv := congrArg (fun (y0 : Int) => ((iV y0) : Value)) v0
                        exact ⟨congrArg Ending.returned hv, hb⟩
                    · let r7 : Rho := (Rho.of [(iV x0), (iV x1), (iV x2), (iV x3), (iV x4), (iV x5), (iV x6), (iV x7), (.slice al l.length ql), (iV i), (iV (((l.length : Nat) : Int))), (.pointer (ptrO al ((i).toNat * 5))), (.pointer (ptrO al ((i).toNat * 5 + 0))), (iV z2.kind), (.pointer (ptrO al ((i).toNat * 5 + 1))), (iV z2.cell), (iV ((x0 * x1))), (iV (((x0 * x1) - 1))), (.pointer (ptrO al ((i).toNat * 5 + 2))), (iV z2.cls), (.pointer (ptrO al ((i).toNat * 5 + 3))), (iV z2.lo), (iV z2.hi)] (fun b => w0.heap[b]?) [])
                      have hat1 : @At r7 w0 rsources_fr4 rsources_st4 a w := At.shiftL (ρ1 := p4) (ρ2 := r7) (σ := [sy 0, sy 1, sy 2, sy 3, sy 4, sy 5, sy 6, sy 7, sy 8, sy 9]) (π := [0]) (τ := []) ⟨rfl, rfl, rfl, rfl, rfl, rfl, rfl, rfl, rfl, rfl, rfl, rfl, rfl, rfl, rfl, rfl, rfl, rfl, rfl, rfl, trivial⟩ trivial (fun _ _ h => h) rsources_wf4 rsources_id4 hat
                      refine @At.retGK r7 Try.prog (env.symL rsources_e7 rsources_c7 rsources_l7 rsources_cl7) (@Env.Ok.symL r7 _ _ (@env_ok r7) rsources_e7 rsources_c7 rsources_l7 rsources_cl7 ⟨⟨rfl, rfl, fun w hm => (show KO w (.bi 0 [38]) [(.slice al l.length ql)] (iV (((l.length : Nat) : Int))) from k_len Try.underlying38)⟩, ⟨rfl, rfl, fun w hm => (show KO w (.bin .lss 3) [(iV i), (iV (((l.length : Nat) : Int)))] (.bool true) from k_lss_t c1)⟩, ⟨rfl, rfl, fun w hm => (show KO w (.indexAddr 38) [(.slice al l.length ql), (iV i)] (.pointer (ptrO al ((i).toNat * 5))) from l_index (Hl.keep hm) Try.underlying38 (by kernel_rfl) (by omega) (by omega))⟩, ⟨rfl, rfl, fun w hm => (show KO w (.fieldAddr 54 0) [(.pointer (ptrO al ((i).toNat * 5)))] (.pointer (ptrO al ((i).toNat * 5 + 0))) from l_fieldo (sz := 1) 0 0 (Hl.keep hm) (by omega) Try.underlying54 rfl rfl (by kernel_rfl) (by decide))⟩, ⟨rfl, rfl, fun w hm => (show KO w (.load 3) [(.pointer (ptrO al ((i).toNat * 5 + 0)))] (iV z2.kind) from l_load (Hl.keep hm) (by omega) Try.underlying3 rfl (flat_getz (c := srcC) (sz := 5) (fun _ => rfl) hz2 (by omega) 0 _ rfl))⟩, ⟨rfl, rfl, fun w hm => (show KO w (.bin .geq 3) [(iV z2.kind), (iV 1)] (.bool true) from k_geq_t c3)⟩, ⟨rfl, rfl, fun w hm => (show KO w (.bin .leq 3) [(iV z2.kind), (iV 3)] (.bool true) from k_leq_t c4)⟩, ⟨rfl, rfl, fun w hm => (show KO w (.fieldAddr 54 1) [(.pointer (ptrO al ((i).toNat * 5)))] (.pointer (ptrO al ((i).toNat * 5 + 1))) from l_fieldo (sz := 1) 1 1 (Hl.keep hm) (by omega) Try.underlying54 rfl rfl (by kernel_rfl) (by decide))⟩, ⟨rfl, rfl, fun w hm => (show KO w (.load 3) [(.pointer (ptrO al ((i).toNat * 5 + 1)))] (iV z2.cell) from l_load (Hl.keep hm) (by omega) Try.underlying3 rfl (flat_getz (c := srcC) (sz := 5) (fun _ => rfl) hz2 (by omega) 1 _ rfl))⟩, ⟨rfl, rfl, fun w hm => (show KO w (.bin .mul 3) [(iV x0), (iV x1)] (iV ((x0 * x1))) from k_mul (wrap64 (by omega)))⟩, ⟨rfl, rfl, fun w hm => (show KO w (.bin .sub 3) [(iV ((x0 * x1))), (iV 1)] (iV (((x0 * x1) - 1))) from k_sub (wrap64 (by omega)))⟩, ⟨rfl, rfl, fun w hm => (show KO w (.bin .geq 3) [(iV z2.cell), (iV 0)] (.bool true) from k_geq_t c5)⟩, ⟨rfl, rfl, fun w hm => (show KO w (.bin .leq 3) [(iV z2.cell), (iV (((x0 * x1) - 1)))] (.bool true) from k_leq_t c6)⟩, ⟨rfl, rfl, fun w hm => (show KO w (.fieldAddr 54 2) [(.pointer (ptrO al ((i).toNat * 5)))] (.pointer (ptrO al ((i).toNat * 5 + 2))) from l_fieldo (sz := 1) 2 2 (Hl.keep hm) (by omega) Try.underlying54 rfl rfl (by kernel_rfl) (by decide))⟩, ⟨rfl, rfl, fun w hm => (show KO w (.load 3) [(.pointer (ptrO al ((i).toNat * 5 + 2)))] (iV z2.cls) from l_load (Hl.keep hm) (by omega) Try.underlying3 rfl (flat_getz (c := srcC) (sz := 5) (fun _ => rfl) hz2 (by omega) 2 _ rfl))⟩, ⟨rfl, rfl, fun w hm => (show KO w (.bin .geq 3) [(iV z2.cls), (iV 1)] (.bool true) from k_geq_t c7)⟩, ⟨rfl, rfl, fun w hm => (show KO w (.bin .leq 3) [(iV z2.cls), (iV 10)] (.bool true) from k_leq_t c8)⟩, ⟨rfl, rfl, fun w hm => (show KO w (.fieldAddr 54 3) [(.pointer (ptrO al ((i).toNat * 5)))] (.pointer (ptrO al ((i).toNat * 5 + 3))) from l_fieldo (sz := 2) 3 3 (Hl.keep hm) (by omega) Try.underlying54 rfl rfl (by kernel_rfl) (by decide))⟩, ⟨rfl, rfl, fun w hm => (show KO w (.load 23) [(.pointer (ptrO al ((i).toNat * 5 + 3)))] (.agg #[(iV z2.lo), (iV z2.hi)]) from l_loadS (Hl.keep hm) (by omega) Try.underlying23 rfl (l := [(iV z2.lo), (iV z2.hi)]) (by kernel_rfl) (fun j v hj => by have := flat_getz (c := srcC) (sz := 5) (fun _ => rfl) hz2 (by omega) (3 + j) v (by revert hj; match j with | 0 => exact fun h => h | 1 => exact fun h => h | _ + 2 => exact fun h => nomatch h); rw [Nat.add_assoc]; exact this))⟩, ⟨rfl, rfl, fun w hm => (show KO w (.bin .leq 3) [(iV z2.lo), (iV z2.hi)] (.bool false) from k_leq_f c9)⟩, trivial⟩ trivial trivial trivial) w0 3000 rsources_b10 Try.f63 rsources_fr4 rsources_st4 _ _ rsources_r7 rsources_wf4 a w hat1 (@endV_ok r7 w0 (iV 3) (fun en w' => en = .returned (iV (srcsErr x0 x1 l)) ∧ Below w0.heap.size w0 w') rfl (fun w2 hb => ?_)) _ (fun a w h => .inr ⟨.inr rfl, .inr ⟨(fun q => nomatch q), .inr ⟨(fun q => nomatch q), h⟩⟩⟩)
                      have v0 : (3 : Int) = srcsErr x0 x1 l := by
                        have hs : srcErr x0 x1 (l.getD i.toNat srcD) = 3 := by
                          unfold srcErr
                          repeat' split
                          all_goals simp_all
                          all_goals omega
                        unfold srcsErr
                        rw [if_neg (by omega), firstErr_at (srcErr x0 x1) srcD l i.toNat (by omega) (fun k hk => i2 k (by omega)) (by omega)]
                        omega
                      have hv := congrArg (fun (y0 : Int) => ((iV y0) : Value)) v0
                      exact ⟨congrArg Ending.returned hv, hb⟩
                  · let r8 : Rho := (Rho.of [(iV x0), (iV x1), (iV x2), (iV x3), (iV x4), (iV x5), (iV x6), (iV x7), (.slice al l.length ql), (iV i), (iV (((l.length : Nat) : Int))), (.pointer (ptrO al ((i).toNat * 5))), (.pointer (ptrO al ((i).toNat * 5 + 0))), (iV z2.kind), (.pointer (ptrO al ((i).toNat * 5 + 1))), (iV z2.cell), (iV ((x0 * x1))), (iV (((x0 * x1) - 1))), (.pointer (ptrO al ((i).toNat * 5 + 2))), (iV z2.cls)] (fun b => w0.heap[b]?) [])
                    have hat1 : @At r8 w0 rsources_fr4 rsources_st4 a w := At.shiftL (ρ1 := p4) (ρ2 := r8) (σ := [sy 0, sy 1, sy 2, sy 3, sy 4, sy 5, sy 6, sy 7, sy 8, sy 9]) (π := [0]) (τ := []) ⟨rfl, rfl, rfl, rfl, rfl, rfl, rfl, rfl, rfl, rfl, rfl, rfl, rfl, rfl, rfl, rfl, rfl, rfl, rfl, rfl, trivial⟩ trivial (fun _ _ h => h) rsources_wf4 rsources_id4 hat
                    refine @At.retGK r8 Try.prog (env.symL rsources_e8 rsources_c8 rsources_l8 rsources_cl8) (@Env.Ok.symL r8 _ _ (@env_ok r8) rsources_e8 rsources_c8 rsources_l8 rsources_cl8 ⟨⟨rfl, rfl, fun w hm => (show KO w (.bi 0 [38]) [(.slice al l.length ql)] (iV (((l.length : Nat) : Int))) from k_len Try.underlying38)⟩, ⟨rfl, rfl, fun w hm => (show KO w (.bin .lss 3) [(iV i), (iV (((l.length : Nat) : Int)))] (.bool true) from k_lss_t c1)⟩, ⟨rfl, rfl, fun w hm => (show KO w (.indexAddr 38) [(.slice al l.length ql), (iV i)] (.pointer (ptrO al ((i).toNat * 5))) from l_index (Hl.keep hm) Try.underlying38 (by kernel_rfl) (by omega) (by omega))⟩, ⟨rfl, rfl, fun w hm => (show KO w (.fieldAddr 54 0) [(.pointer (ptrO al ((i).toNat * 5)))] (.pointer (ptrO al ((i).toNat * 5 + 0))) from l_fieldo (sz := 1) 0 0 (Hl.keep hm) (by omega) Try.underlying54 rfl rfl (by kernel_rfl) (by decide))⟩, ⟨rfl, rfl, fun w hm => (show KO w (.load 3) [(.pointer (ptrO al ((i).toNat * 5 + 0)))] (iV z2.kind) from l_load (Hl.keep hm) (by omega) Try.underlying3 rfl (flat_getz (c := srcC) (sz := 5) (fun _ => rfl) hz2 (by omega) 0 _ rfl))⟩, ⟨rfl, rfl, fun w hm => (show KO w (.bin .geq 3) [(iV z2.kind), (iV 1)] (.bool true) from k_geq_t c3)⟩, ⟨rfl, rfl, fun w hm => (show KO w (.bin .leq 3) [(iV z2.kind), (iV 3)] (.bool true) from k_leq_t c4)⟩, ⟨rfl, rfl, fun w hm => (show KO w (.fieldAddr 54 1) [(.pointer (ptrO al ((i).toNat * 5)))] (.pointer (ptrO al ((i).toNat * 5 + 1))) from l_fieldo (sz := 1) 1 1 (Hl.keep hm) (by omega) Try.underlying54 rfl rfl (by kernel_rfl) (by decide))⟩, ⟨rfl, rfl, fun w hm => (show KO w (.load 3) [(.pointer (ptrO al ((i).toNat * 5 + 1)))] (iV z2.cell) from l_load (Hl.keep hm) (by omega) Try.underlying3 rfl (flat_getz (c := srcC) (sz := 5) (fun _ => rfl) hz2 (by omega) 1 _ rfl))⟩, ⟨rfl, rfl, fun w hm => (show KO w (.bin .mul 3) [(iV x0), (iV x1)] (iV ((x0 * x1))) from k_mul (wrap64 (by omega)))⟩, ⟨rfl, rfl, fun w hm => (show KO w (.bin .sub 3) [(iV ((x0 * x1))), (iV 1)] (iV (((x0 * x1) - 1))) from k_sub (wrap64 (by omega)))⟩, ⟨rfl, rfl, fun w hm => (show KO w (.bin .geq 3) [(iV z2.cell), (iV 0)] (.bool true) from k_geq_t c5)⟩, ⟨rfl, rfl, fun w hm => (show KO w (.bin .leq 3) [(iV z2.cell), (iV (((x0 * x1) - 1)))] (.bool true) from k_leq_t c6)⟩, ⟨rfl, rfl, fun w hm => (show KO w (.fieldAddr 54 2) [(.pointer (ptrO al ((i).toNat * 5)))] (.pointer (ptrO al ((i).toNat * 5 + 2))) from l_fieldo (sz := 1) 2 2 (Hl.keep hm) (by omega) Try.underlying54 rfl rfl (by kernel_rfl) (by decide))⟩, ⟨rfl, rfl, fun w hm => (show KO w (.load 3) [(.pointer (ptrO al ((i).toNat * 5 + 2)))] (iV z2.cls) from l_load (Hl.keep hm) (by omega) Try.underlying3 rfl (flat_getz (c := srcC) (sz := 5) (fun _ => rfl) hz2 (by omega) 2 _ rfl))⟩, ⟨rfl, rfl, fun w hm => (show KO w (.bin .geq 3) [(iV z2.cls), (iV 1)] (.bool true) from k_geq_t c7)⟩, ⟨rfl, rfl, fun w hm => (show KO w (.bin .leq 3) [(iV z2.cls), (iV 10)] (.bool false) from k_leq_f c8)⟩, trivial⟩ trivial trivial trivial) w0 3000 rsources_b10 Try.f63 rsources_fr4 rsources_st4 _ _ rsources_r8 rsources_wf4 a w hat1 (@endV_ok r8 w0 (iV 3) (fun en w' => en = .returned (iV (srcsErr x0 x1 l)) ∧ Below w0.heap.size w0 w') rfl (fun w2 hb => ?_)) _ (fun a w h => .inr ⟨.inr rfl, .inr ⟨(fun q => nomatch q), .inr ⟨(fun q => nomatch q), h⟩⟩⟩)
                    have v0 : (3 : Int) = srcsErr x0 x1 l := by
                      have hs : srcErr x0 x1 (l.getD i.toNat srcD) = 3 := by
                        unfold srcErr
                        repeat' split
                        all_goals simp_all
                        all_goals omega
                      unfold srcsErr
                      rw [if_neg (by omega), firstErr_at (srcErr x0 x1) srcD l i.toNat (by omega) (fun k hk => i2 k (by omega)) (by omega)]
                      omega
                    have hv := congrArg (fun (y0 : Int) => ((iV y0) : Value)) v0
                    exact ⟨congrArg Ending.returned hv, hb⟩
                · let r9 : Rho := (Rho.of [(iV x0), (iV x1), (iV x2), (iV x3), (iV x4), (iV x5), (iV x6), (iV x7), (.slice al l.length ql), (iV i), (iV (((l.length : Nat) : Int))), (.pointer (ptrO al ((i).toNat * 5))), (.pointer (ptrO al ((i).toNat * 5 + 0))), (iV z2.kind), (.pointer (ptrO al ((i).toNat * 5 + 1))), (iV z2.cell), (iV ((x0 * x1))), (iV (((x0 * x1) - 1))), (.pointer (ptrO al ((i).toNat * 5 + 2))), (iV z2.cls)] (fun b => w0.heap[b]?) [])
                  have hat1 : @At r9 w0 rsources_fr4 rsources_st4 a w := At.shiftL (ρ1 := p4) (ρ2 := r9) (σ := [sy 0, sy 1, sy 2, sy 3, sy 4, sy 5, sy 6, sy 7, sy 8, sy 9]) (π := [0]) (τ := []) ⟨rfl, rfl, rfl, rfl, rfl, rfl, rfl, rfl, rfl, rfl, rfl, rfl, rfl, rfl, rfl, rfl, rfl, rfl, rfl, rfl, trivial⟩ trivial (fun _ _ h => h) rsources_wf4 rsources_id4 hat
                  refine @At.retGK r9 Try.prog (env.symL rsources_e9 rsources_c9 rsources_l9 rsources_cl9) (@Env.Ok.symL r9 _ _ (@env_ok r9) rsources_e9 rsources_c9 rsources_l9 rsources_cl9 ⟨⟨rfl, rfl, fun w hm => (show KO w (.bi 0 [38]) [(.slice al l.length ql)] (iV (((l.length : Nat) : Int))) from k_len Try.underlying38)⟩, ⟨rfl, rfl, fun w hm => (show KO w (.bin .lss 3) [(iV i), (iV (((l.length : Nat) : Int)))] (.bool true) from k_lss_t c1)⟩, ⟨rfl, rfl, fun w hm => (show KO w (.indexAddr 38) [(.slice al l.length ql), (iV i)] (.pointer (ptrO al ((i).toNat * 5))) from l_index (Hl.keep hm) Try.underlying38 (by kernel_rfl) (by omega) (by omega))⟩, ⟨rfl, rfl, fun w hm => (show KO w (.fieldAddr 54 0) [(.pointer (ptrO al ((i).toNat * 5)))] (.pointer (ptrO al ((i).toNat * 5 + 0))) from l_fieldo (sz := 1) 0 0 (Hl.keep hm) (by omega) Try.underlying54 rfl rfl (by kernel_rfl) (by decide))⟩, ⟨rfl, rfl, fun w hm => (show KO w (.load 3) [(.pointer (ptrO al ((i).toNat * 5 + 0)))] (iV z2.kind) from l_load (Hl.keep hm) (by omega) Try.underlying3 rfl (flat_getz (c := srcC) (sz := 5) (fun _ => rfl) hz2 (by omega) 0 _ rfl))⟩, ⟨rfl, rfl, fun w hm => (show KO w (.bin .geq 3) [(iV z2.kind), (iV 1)] (.bool true) from k_geq_t c3)⟩, ⟨rfl, rfl, fun w hm => (show KO w (.bin .leq 3) [(iV z2.kind), (iV 3)] (.bool true) from k_leq_t c4)⟩, ⟨rfl, rfl, fun w hm => (show KO w (.fieldAddr 54 1) [(.pointer (ptrO al ((i).toNat * 5)))] (.pointer (ptrO al ((i).toNat * 5 + 1))) from l_fieldo (sz := 1) 1 1 (Hl.keep hm) (by omega) Try.underlying54 rfl rfl (by kernel_rfl) (by decide))⟩, ⟨rfl, rfl, fun w hm => (show KO w (.load 3) [(.pointer (ptrO al ((i).toNat * 5 + 1)))] (iV z2.cell) from l_load (Hl.keep hm) (by omega) Try.underlying3 rfl (flat_getz (c := srcC) (sz := 5) (fun _ => rfl) hz2 (by omega) 1 _ rfl))⟩, ⟨rfl, rfl, fun w hm => (show KO w (.bin .mul 3) [(iV x0), (iV x1)] (iV ((x0 * x1))) from k_mul (wrap64 (by omega)))⟩, ⟨rfl, rfl, fun w hm => (show KO w (.bin .sub 3) [(iV ((x0 * x1))), (iV 1)] (iV (((x0 * x1) - 1))) from k_sub (wrap64 (by omega)))⟩, ⟨rfl, rfl, fun w hm => (show KO w (.bin .geq 3) [(iV z2.cell), (iV 0)] (.bool true) from k_geq_t c5)⟩, ⟨rfl, rfl, fun w hm => (show KO w (.bin .leq 3) [(iV z2.cell), (iV (((x0 * x1) - 1)))] (.bool true) from k_leq_t c6)⟩, ⟨rfl, rfl, fun w hm => (show KO w (.fieldAddr 54 2) [(.pointer (ptrO al ((i).toNat * 5)))] (.pointer (ptrO al ((i).toNat * 5 + 2))) from l_fieldo (sz := 1) 2 2 (Hl.keep hm) (by omega) Try.underlying54 rfl rfl (by kernel_rfl) (by decide))⟩, ⟨rfl, rfl, fun w hm => (show KO w (.load 3) [(.pointer (ptrO al ((i).toNat * 5 + 2)))] (iV z2.cls) from l_load (Hl.keep hm) (by omega) Try.underlying3 rfl (flat_getz (c := srcC) (sz := 5) (fun _ => rfl) hz2 (by omega) 2 _ rfl))⟩, ⟨rfl, rfl, fun w hm => (show KO w (.bin .geq 3) [(iV z2.cls), (iV 1)] (.bool false) from k_geq_f c7)⟩, trivial⟩ trivial trivial trivial) w0 3000 rsources_b10 Try.f63 rsources_fr4 rsources_st4 _ _ rsources_r9 rsources_wf4 a w hat1 (@endV_ok r9 w0 (iV 3) (fun en w' => en = .returned (iV (srcsErr x0 x1 l)) ∧ Below w0.heap.size w0 w') rfl (fun w2 hb => ?_)) _ (fun a w h => .inr ⟨.inr rfl, .inr ⟨(fun q => nomatch q), .inr ⟨(fun q => nomatch q), h⟩⟩⟩)
                  have v0 : (3 : Int) = srcsErr x0 x1 l := by
                    have hs : srcErr x0 x1 (l.getD i.toNat srcD) = 3 := by
                      unfold srcErr
                      repeat' split
                      all_goals simp_all
                      all_goals omega
                    unfold srcsErr
                    rw [if_neg (by omega), firstErr_at (srcErr x0 x1) srcD l i.toNat (by omega) (fun k hk => i2 k (by omega)) (by omega)]
                    omega
                  have hv := congrArg (fun (y0 : Int) => ((iV y0) : Value)) v0
                  exact ⟨congrArg Ending.returned hv, hb⟩
              · let r10 : Rho := (Rho.of [(iV x0), (iV x1), (iV x2), (iV x3), (iV x4), (iV x5), (iV x6), (iV x7), (.slice al l.length ql), (iV i), (iV (((l.length : Nat) : Int))), (.pointer (ptrO al ((i).toNat * 5))), (.pointer (ptrO al ((i).toNat * 5 + 0))), (iV z2.kind), (.pointer (ptrO al ((i).toNat * 5 + 1))), (iV z2.cell), (iV ((x0 * x1))), (iV (((x0 * x1) - 1)))] (fun b => w0.heap[b]?) [])
                have hat1 : @At r10 w0 rsources_fr4 rsources_st4 a w := At.shiftL (ρ1 := p4) (ρ2 := r10) (σ := [sy 0, sy 1, sy 2, sy 3, sy 4, sy 5, sy 6, sy 7, sy 8, sy 9]) (π := [0]) (τ := []) ⟨rfl, rfl, rfl, rfl, rfl, rfl, rfl, rfl, rfl, rfl, rfl, rfl, rfl, rfl, rfl, rfl, rfl, rfl, rfl, rfl, trivial⟩ trivial (fun _ _ h => h) rsources_wf4 rsources_id4 hat
                refine @At.retGK r10 Try.prog (env.symL rsources_e10 rsources_c10 rsources_l10 rsources_cl10) (@Env.Ok.symL r10 _ _ (@env_ok r10) rsources_e10 rsources_c10 rsources_l10 rsources_cl10 ⟨⟨rfl, rfl, fun w hm => (show KO w (.bi 0 [38]) [(.slice al l.length ql)] (iV (((l.length : Nat) : Int))) from k_len Try.underlying38)⟩, ⟨rfl, rfl, fun w hm => (show KO w (.bin .lss 3) [(iV i), (iV (((l.length : Nat) : Int)))] (.bool true) from k_lss_t c1)⟩, ⟨rfl, rfl, fun w hm => (show KO w (.indexAddr 38) [(.slice al l.length ql), (iV i)] (.pointer (ptrO al ((i).toNat * 5))) from l_index (Hl.keep hm) Try.underlying38 (by kernel_rfl) (by omega) (by omega))⟩, ⟨rfl, rfl, fun w hm => (show KO w (.fieldAddr 54 0) [(.pointer (ptrO al ((i).toNat * 5)))] (.pointer (ptrO al ((i).toNat * 5 + 0))) from l_fieldo (sz := 1) 0 0 (Hl.keep hm) (by omega) Try.underlying54 rfl rfl (by kernel_rfl) (by decide))⟩, ⟨rfl, rfl, fun w hm => (show KO w (.load 3) [(.pointer (ptrO al ((i).toNat * 5 + 0)))] (iV z2.kind) from l_load (Hl.keep hm) (by omega) Try.underlying3 rfl (flat_getz (c := srcC) (sz := 5) (fun _ => rfl) hz2 (by omega) 0 _ rfl))⟩, ⟨rfl, rfl, fun w hm => (show KO w (.bin .geq 3) [(iV z2.kind), (iV 1)] (.bool true) from k_geq_t c3)⟩, ⟨rfl, rfl, fun w hm => (show KO w (.bin .leq 3) [(iV z2.kind), (iV 3)] (.bool true) from k_leq_t c4)⟩, ⟨rfl, rfl, fun w hm => (show KO w (.fieldAddr 54 1) [(.pointer (ptrO al ((i).toNat * 5)))] (.pointer (ptrO al ((i).toNat * 5 + 1))) from l_fieldo (sz := 1) 1 1 (Hl.keep hm) (by omega) Try.underlying54 rfl rfl (by kernel_rfl) (by decide))⟩, ⟨rfl, rfl, fun w hm => (show KO w (.load 3) [(.pointer (ptrO al ((i).toNat * 5 + 1)))] (iV z2.cell) from l_load (Hl.keep hm) (by omega) Try.underlying3 rfl (flat_getz (c := srcC) (sz := 5) (fun _ => rfl) hz2 (by omega) 1 _ rfl))⟩, ⟨rfl, rfl, fun w hm => (show KO w (.bin .mul 3) [(iV x0), (iV x1)] (iV ((x0 * x1))) from k_mul (wrap64 (by omega)))⟩, ⟨rfl, rfl, fun w hm => (show KO w (.bin .sub 3) [(iV ((x0 * x1))), (iV 1)] (iV (((x0 * x1) - 1))) from k_sub (wrap64 (by omega)))⟩, ⟨rfl, rfl, fun w hm => (show KO w (.bin .geq 3) [(iV z2.cell), (iV 0)] (.bool true) from k_geq_t c5)⟩, ⟨rfl, rfl, fun w hm => (show KO w (.bin .leq 3) [(iV z2.cell), (iV (((x0 * x1) - 1)))] (.bool false) from k_leq_f c6)⟩, trivial⟩ trivial trivial trivial) w0 3000 rsources_b10 Try.f63 rsources_fr4 rsources_st4 _ _ rsources_r10 rsources_wf4 a w hat1 (@endV_ok r10 w0 (iV 4) (fun en w' => en = .returned (iV (srcsErr x0 x1 l)) ∧ Below w0.heap.size w0 w') rfl (fun w2 hb => ?_)) _ (fun a w h => .inr ⟨.inr rfl, .inr ⟨(fun q => nomatch q), .inr ⟨(fun q => nomatch q), h⟩⟩⟩)
                have v0 : (4 : Int) = srcsErr x0 x1 l := by
                  have hs : srcErr x0 x1 (l.getD i.toNat srcD) = 4 := by
                    unfold srcErr
                    repeat' split
                    all_goals simp_all
                    all_goals omega
                  unfold srcsErr
                  rw [if_neg (by omega), firstErr_at (srcErr x0 x1) srcD l i.toNat (by omega) (fun k hk => i2 k (by omega)) (by omega)]
                  omega
                have hv := congrArg (fun (y0 : Int) => ((iV y0) : Value)) v0
                exact ⟨congrArg Ending.returned hv, hb⟩
            · let r11 : Rho := (Rho.of [(iV x0), (iV x1), (iV x2), (iV x3), (iV x4), (iV x5), (iV x6), (iV x7), (.slice al l.length ql), (iV i), (iV (((l.length : Nat) : Int))), (.pointer (ptrO al ((i).toNat * 5))), (.pointer (ptrO al ((i).toNat * 5 + 0))), (iV z2.kind), (.pointer (ptrO al ((i).toNat * 5 + 1))), (iV z2.cell), (iV ((x0 * x1))), (iV (((x0 * x1) - 1)))] (fun b => w0.heap[b]?) [])
              have hat1 : @At r11 w0 rsources_fr4 rsources_st4 a w := At.shiftL (ρ1 := p4) (ρ2 := r11) (σ := [sy 0, sy 1, sy 2, sy 3, sy 4, sy 5, sy 6, sy 7, sy 8, sy 9]) (π := [0]) (τ := []) ⟨rfl, rfl, rfl, rfl, rfl, rfl, rfl, rfl, rfl, rfl, rfl, rfl, rfl, rfl, rfl, rfl, rfl, rfl, rfl, rfl, trivial⟩ trivial (fun _ _ h => h) rsources_wf4 rsources_id4 hat
              refine @At.retGK r11 Try.prog (env.symL rsources_e11 rsources_c11 rsources_l11 rsources_cl11) (@Env.Ok.symL r11 _ _ (@env_ok r11) rsources_e11 rsources_c11 rsources_l11 rsources_cl11 ⟨⟨rfl, rfl, fun w hm => (show KO w (.bi 0 [38]) [(.slice al l.length ql)] (iV (((l.length : Nat) : Int))) from k_len Try.underlying38)⟩, ⟨rfl, rfl, fun w hm => (show KO w (.bin .lss 3) [(iV i), (iV (((l.length : Nat) : Int)))] (.bool true) from k_lss_t c1)⟩, ⟨rfl, rfl, fun w hm => (show KO w (.indexAddr 38) [(.slice al l.length ql), (iV i)] (.pointer (ptrO al ((i).toNat * 5))) from l_index (Hl.keep hm) Try.underlying38 (by kernel_rfl) (by omega) (by omega))⟩, ⟨rfl, rfl, fun w hm => (show KO w (.fieldAddr 54 0) [(.pointer (ptrO al ((i).toNat * 5)))] (.pointer (ptrO al ((i).toNat * 5 + 0))) from l_fieldo (sz := 1) 0 0 (Hl.keep hm) (by omega) Try.underlying54 rfl rfl (by kernel_rfl) (by decide))⟩, ⟨rfl, rfl, fun w hm => (show KO w (.load 3) [(.pointer (ptrO al ((i).toNat * 5 + 0)))] (iV z2.kind) from l_load (Hl.keep hm) (by omega) Try.underlying3 rfl (flat_getz (c := srcC) (sz := 5) (fun _ => rfl) hz2 (by omega) 0 _ rfl))⟩, ⟨rfl, rfl, fun w hm => (show KO w (.bin .geq 3) [(iV z2.kind), (iV 1)] (.bool true) from k_geq_t c3)⟩, ⟨rfl, rfl, fun w hm => (show KO w (.bin .leq 3) [(iV z2.kind), (iV 3)] (.bool true) from k_leq_t c4)⟩, ⟨rfl, rfl, fun w hm => (show KO w (.fieldAddr 54 1) [(.pointer (ptrO al ((i).toNat * 5)))] (.pointer (ptrO al ((i).toNat * 5 + 1))) from l_fieldo (sz := 1) 1 1 (Hl.keep hm) (by omega) Try.underlying54 rfl rfl (by kernel_rfl) (by decide))⟩, ⟨rfl, rfl, fun w hm => (show KO w (.load 3) [(.pointer (ptrO al ((i).toNat * 5 + 1)))] (iV z2.cell) from l_load (Hl.keep hm) (by omega) Try.underlying3 rfl (flat_getz (c := srcC) (sz := 5) (fun _ => rfl) hz2 (by omega) 1 _ rfl))⟩, ⟨rfl, rfl, fun w hm => (show KO w (.bin .mul 3) [(iV x0), (iV x1)] (iV ((x0 * x1))) from k_mul (wrap64 (by omega)))⟩, ⟨rfl, rfl, fun w hm => (show KO w (.bin .sub 3) [(iV ((x0 * x1))), (iV 1)] (iV (((x0 * x1) - 1))) from k_sub (wrap64 (by omega)))⟩, ⟨rfl, rfl, fun w hm => (show KO w (.bin .geq 3) [(iV z2.cell), (iV 0)] (.bool false) from k_geq_f c5)⟩, trivial⟩ trivial trivial trivial) w0 3000 rsources_b10 Try.f63 rsources_fr4 rsources_st4 _ _ rsources_r11 rsources_wf4 a w hat1 (@endV_ok r11 w0 (iV 4) (fun en w' => en = .returned (iV (srcsErr x0 x1 l)) ∧ Below w0.heap.size w0 w') rfl (fun w2 hb => ?_)) _ (fun a w h => .inr ⟨.inr rfl, .inr ⟨(fun q => nomatch q), .inr ⟨(fun q => nomatch q), h⟩⟩⟩)
              have v0 : (4 : Int) = srcsErr x0 x1 l := by
                have hs : srcErr x0 x1 (l.getD i.toNat srcD) = 4 := by
                  unfold srcErr
                  repeat' split
                  all_goals simp_all
                  all_goals omega
                unfold srcsErr
                rw [if_neg (by omega), firstErr_at (srcErr x0 x1) srcD l i.toNat (by omega) (fun k hk => i2 k (by omega)) (by omega)]
                omega
              have hv := congrArg (fun (y0 : Int) => ((iV y0) : Value)) v0
              exact ⟨congrArg Ending.returned hv, hb⟩
          · let r12 : Rho := (Rho.of [(iV x0), (iV x1), (iV x2), (iV x3), (iV x4), (iV x5), (iV x6), (iV x7), (.slice al l.length ql), (iV i), (iV (((l.length : Nat) : Int))), (.pointer (ptrO al ((i).toNat * 5))), (.pointer (ptrO al ((i).toNat * 5 + 0))), (iV z2.kind)] (fun b => w0.heap[b]?) [])
            have hat1 : @At r12 w0 rsources_fr4 rsources_st4 a w := At.shiftL (ρ1 := p4) (ρ2 := r12) (σ := [sy 0, sy 1, sy 2, sy 3, sy 4, sy 5, sy 6, sy 7, sy 8, sy 9]) (π := [0]) (τ := []) ⟨rfl, rfl, rfl, rfl, rfl, rfl, rfl, rfl, rfl, rfl, rfl, rfl, rfl, rfl, rfl, rfl, rfl, rfl, rfl, rfl, trivial⟩ trivial (fun _ _ h => h) rsources_wf4 rsources_id4 hat
            refine @At.retGK r12 Try.prog (env.symL rsources_e12 rsources_c12 rsources_l12 rsources_cl12) (@Env.Ok.symL r12 _ _ (@env_ok r12) rsources_e12 rsources_c12 rsources_l12 rsources_cl12 ⟨⟨rfl, rfl, fun w hm => (show KO w (.bi 0 [38]) [(.slice al l.length ql)] (iV (((l.length : Nat) : Int))) from k_len Try.underlying38)⟩, ⟨rfl, rfl, fun w hm => (show KO w (.bin .lss 3) [(iV i), (iV (((l.length : Nat) : Int)))] (.bool true) from k_lss_t c1)⟩, ⟨rfl, rfl, fun w hm => (show KO w (.indexAddr 38) [(.slice al l.length ql), (iV i)] (.pointer (ptrO al ((i).toNat * 5))) from l_index (Hl.keep hm) Try.underlying38 (by kernel_rfl) (by omega) (by omega))⟩, ⟨rfl, rfl, fun w hm => (show KO w (.fieldAddr 54 0) [(.pointer (ptrO al ((i).toNat * 5)))] (.pointer (ptrO al ((i).toNat * 5 + 0))) from l_fieldo (sz := 1) 0 0 (Hl.keep hm) (by omega) Try.underlying54 rfl rfl (by kernel_rfl) (by decide))⟩, ⟨rfl, rfl, fun w hm => (show KO w (.load 3) [(.pointer (ptrO al ((i).toNat * 5 + 0)))] (iV z2.kind) from l_load (Hl.keep hm) (by omega) Try.underlying3 rfl (flat_getz (c := srcC) (sz := 5) (fun _ => rfl) hz2 (by omega) 0 _ rfl))⟩, ⟨rfl, rfl, fun w hm => (show KO w (.bin .geq 3) [(iV z2.kind), (iV 1)] (.bool true) from k_geq_t c3)⟩, ⟨rfl, rfl, fun w hm => (show KO w (.bin .leq 3) [(iV z2.kind), (iV 3)] (.bool false) from k_leq_f c4)⟩, trivial⟩ trivial trivial trivial) w0 3000 rsources_b10 Try.f63 rsources_fr4 rsources_st4 _ _ rsources_r12 rsources_wf4 a w hat1 (@endV_ok r12 w0 (iV 2) (fun en w' => en = .returned (iV (srcsErr x0 x1 l)) ∧ Below w0.heap.size w0 w') rfl (fun w2 hb => ?_)) _ (fun a w h => .inr ⟨.inr rfl, .inr ⟨(fun q => nomatch q), .inr ⟨(fun q => nomatch q), h⟩⟩⟩)
            have v0 : (2 : Int) = srcsErr x0 x1 l := by
              have hs : srcErr x0 x1 (l.getD i.toNat srcD) = 2 := by
                unfold srcErr
                repeat' split
                all_goals simp_all
                all_goals omega
              unfold srcsErr
              rw [if_neg (by omega), firstErr_at (srcErr x0 x1) srcD l i.toNat (by omega) (fun k hk => i2 k (by omega)) (by omega)]
              omega
            have hv := congrArg (fun (y0 : Int) => ((iV y0) : Value)) v0
            exact ⟨congrArg Ending.returned hv, hb⟩
        · let r13 : Rho := (Rho.of [(iV x0), (iV x1), (iV x2), (iV x3), (iV x4), (iV x5), (iV x6), (iV x7), (.slice al l.length ql), (iV i), (iV (((l.length : Nat) : Int))), (.pointer (ptrO al ((i).toNat * 5))), (.pointer (ptrO al ((i).toNat * 5 + 0))), (iV z2.kind)] (fun b => w0.heap[b]?) [])
          have hat1 : @At r13 w0 rsources_fr4 rsources_st4 a w := At.shiftL (ρ1 := p4) (ρ2 := r13) (σ := [sy 0, sy 1, sy 2, sy 3, sy 4, sy 5, sy 6, sy 7, sy 8, sy 9]) (π := [0]) (τ := []) ⟨rfl, rfl, rfl, rfl, rfl, rfl, rfl, rfl, rfl, rfl, rfl, rfl, rfl, rfl, rfl, rfl, rfl, rfl, rfl, rfl, trivial⟩ trivial (fun _ _ h => h) rsources_wf4 rsources_id4 hat
          refine @At.retGK r13 Try.prog (env.symL rsources_e13 rsources_c13 rsources_l13 rsources_cl13) (@Env.Ok.symL r13 _ _ (@env_ok r13) rsources_e13 rsources_c13 rsources_l13 rsources_cl13 ⟨⟨rfl, rfl, fun w hm => (show KO w (.bi 0 [38]) [(.slice al l.length ql)] (iV (((l.length : Nat) : Int))) from k_len Try.underlying38)⟩, ⟨rfl, rfl, fun w hm => (show KO w (.bin .lss 3) [(iV i), (iV (((l.length : Nat) : Int)))] (.bool true) from k_lss_t c1)⟩, ⟨rfl, rfl, fun w hm => (show KO w (.indexAddr 38) [(.slice al l.length ql), (iV i)] (.pointer (ptrO al ((i).toNat * 5))) from l_index (Hl.keep hm) Try.underlying38 (by kernel_rfl) (by omega) (by omega))⟩, ⟨rfl, rfl, fun w hm => (show KO w (.fieldAddr 54 0) [(.pointer (ptrO al ((i).toNat * 5)))] (.pointer (ptrO al ((i).toNat * 5 + 0))) from l_fieldo (sz := 1) 0 0 (Hl.keep hm) (by omega) Try.underlying54 rfl rfl (by kernel_rfl) (by decide))⟩, ⟨rfl, rfl, fun w hm => (show KO w (.load 3) [(.pointer (ptrO al ((i).toNat * 5 + 0)))] (iV z2.kind) from l_load (Hl.keep hm) (by omega) Try.underlying3 rfl (flat_getz (c := srcC) (sz := 5) (fun _ => rfl) hz2 (by omega) 0 _ rfl))⟩, ⟨rfl, rfl, fun w hm => (show KO w (.bin .geq 3) [(iV z2.kind), (iV 1)] (.bool false) from k_geq_f c3)⟩, trivial⟩ trivial trivial trivial) w0 3000 rsources_b10 Try.f63 rsources_fr4 rsources_st4 _ _ rsources_r13 rsources_wf4 a w hat1 (@endV_ok r13 w0 (iV 2) (fun en w' => en = .returned (iV (srcsErr x0 x1 l)) ∧ Below w0.heap.size w0 w') rfl (fun w2 hb => ?_)) _ (fun a w h => .inr ⟨.inr rfl, .inr ⟨(fun q => nomatch q), .inr ⟨(fun q => nomatch q), h⟩⟩⟩)
          have v0 : (2 : Int) = srcsErr x0 x1 l := by
            have hs : srcErr x0 x1 (l.getD i.toNat srcD) = 2 := by
              unfold srcErr
              repeat' split
              all_goals simp_all
              all_goals omega
            unfold srcsErr
            rw [if_neg (by omega), firstErr_at (srcErr x0 x1) srcD l i.toNat (by omega) (fun k hk => i2 k (by omega)) (by omega)]
            omega
          have hv := congrArg (fun (y0 : Int) => ((iV y0) : Value)) v0
          exact ⟨congrArg Ending.returned hv, hb⟩
      · let r14 : Rho := (Rho.of [(iV x0), (iV x1), (iV x2), (iV x3), (iV x4), (iV x5), (iV x6), (iV x7), (.slice al l.length ql), (iV i), (iV (((l.length : Nat) : Int)))] (fun b => w0.heap[b]?) [])
        have hat1 : @At r14 w0 rsources_fr4 rsources_st4 a w := At.shiftL (ρ1 := p4) (ρ2 := r14) (σ := [sy 0, sy 1, sy 2, sy 3, sy 4, sy 5, sy 6, sy 7, sy 8, sy 9]) (π := [0]) (τ := []) ⟨rfl, rfl, rfl, rfl, rfl, rfl, rfl, rfl, rfl, rfl, rfl, rfl, rfl, rfl, rfl, rfl, rfl, rfl, rfl, rfl, trivial⟩ trivial (fun _ _ h => h) rsources_wf4 rsources_id4 hat
        let p5 : Rho := (Rho.of [(iV x0), (iV x1), (iV x2), (iV x3), (iV x4), (iV x5), (iV x6), (iV x7), (.slice al l.length ql)] (fun b => w0.heap[b]?) [])
        refine At.pieceL (ρ1 := r14) (ρ2 := p5) (@Env.Ok.symL r14 _ _ (@env_ok r14) rsources_e14 rsources_c14 rsources_l14 rsources_cl14 ⟨⟨rfl, rfl, fun w hm => (show KO w (.bi 0 [38]) [(.slice al l.length ql)] (iV (((l.length : Nat) : Int))) from k_len Try.underlying38)⟩, ⟨rfl, rfl, fun w hm => (show KO w (.bin .lss 3) [(iV i), (iV (((l.length : Nat) : Int)))] (.bool false) from k_lss_f c1)⟩, trivial⟩ trivial trivial trivial) rsources_r14 ⟨rfl, rfl, rfl, rfl, rfl, rfl, rfl, rfl, rfl, rfl, rfl, rfl, rfl, rfl, rfl, rfl, rfl, rfl, trivial⟩ trivial (fun _ _ h => h) rsources_wf4 rsources_wf5 hat1 (fun a w hat => .inr ⟨.inl ⟨0, rfl⟩, .inl ⟨rfl, .inl ⟨rfl, ?_⟩⟩⟩)
        let r15 : Rho := (Rho.of [(iV x0), (iV x1), (iV x2), (iV x3), (iV x4), (iV x5), (iV x6), (iV x7), (.slice al l.length ql)] (fun b => w0.heap[b]?) [])
        have hat1 : @At r15 w0 rsources_fr5 rsources_st5 a w := At.shiftL (ρ1 := p5) (ρ2 := r15) (σ := [sy 0, sy 1, sy 2, sy 3, sy 4, sy 5, sy 6, sy 7, sy 8]) (π := []) (τ := []) ⟨rfl, rfl, rfl, rfl, rfl, rfl, rfl, rfl, rfl, rfl, rfl, rfl, rfl, rfl, rfl, rfl, rfl, rfl, trivial⟩ trivial (fun _ _ h => h) rsources_wf5 rsources_id5 hat
        refine @At.lastK r15 Try.prog (env.symL [] [] [] []) (@Env.Ok.symL r15 _ _ (@env_ok r15) [] [] [] [] trivial trivial trivial trivial) w0 3000 rsources_b6 Try.f63 rsources_fr5 rsources_st5 _ _ rsources_r15 rsources_wf5 a w hat1 (@endV_ok r15 w0 (iV 0) (fun en w' => en = .returned (iV (srcsErr x0 x1 l)) ∧ Below w0.heap.size w0 w') rfl (fun w2 hb => ?_))
        have v0 : (0 : Int) = srcsErr x0 x1 l := by
          unfold srcsErr; rw [if_neg (by omega), firstErr_all (srcErr x0 x1) srcD l (fun k hk => i2 k (by omega))]
        have hv := congrArg (fun (y0 : Int) => ((iV y0) : Value)) v0
        exact ⟨congrArg Ending.returned hv, hb⟩
    · show 0 ≤ (0 : Int) ∧ (0 : Int) ≤ l.length ∧ (∀ k : Nat, (k : Int) < (0 : Int) → srcErr x0 x1 (l.getD k srcD) = 0)
      exact ⟨by omega, by omega, fun k hk => by omega⟩
end Go.Proofs.Ytoaehigmpbhppaa.En
