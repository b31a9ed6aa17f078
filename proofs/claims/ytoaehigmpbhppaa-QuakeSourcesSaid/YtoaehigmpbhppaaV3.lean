/-
  The specification: Sources.
-/
import Derived.Test.YtoaehigmpbhppaaV2
namespace Go.Proofs.Ytoaehigmpbhppaa.En
open Go Go.Ev Go.Proofs Go.RowKit
set_option linter.unusedSimpArgs false
set_option linter.unusedVariables false
noncomputable def rsources2_b0 : Code := (Try.f22.body).getD .skip

noncomputable def rsources2_fr0 : Fr := mkFr Try.f22 [(0, (.agg #[(.chan (.some 0)), (.chan (.some 1)), (.chan (.some 2)), (.chan (.some 3)), (.chan (.some 4)), (.chan (.some 5)), (.chan (.some 6)), (.chan (.some 7))])), (1, (.chan (.some 8))), (2, (.agg #[(.chan (.some 9)), (.chan (.some 10))])), (3, (.agg #[(.chan (.some 11)), (.chan (.some 12))]))] []
noncomputable def rsources2_st0 : St := mkSt 0 []
theorem rsources2_wf0 : rsources2_st0.Wf := mkSt_wf rfl
set_option maxRecDepth 1000000 in
theorem rsources2_id0 : agreeL [sy 0, sy 1, sy 2, sy 3, sy 4, sy 5, sy 6, sy 7, sy 8, sy 9, sy 10, sy 11, sy 12] [] [] rsources2_fr0 rsources2_st0 rsources2_fr0 rsources2_st0 = true := by kernel_rfl

set_option maxRecDepth 1000000 in
theorem rsources2_a0 : agreeL [sy 0, sy 1, sy 2, sy 3, sy 4, sy 5, sy 6, sy 7, sy 8, sy 9, sy 10, sy 11, sy 12] [] [] rsources2_fr0 rsources2_st0 (frameOf Try.f22 [(.agg #[(.chan (.some 0)), (.chan (.some 1)), (.chan (.some 2)), (.chan (.some 3)), (.chan (.some 4)), (.chan (.some 5)), (.chan (.some 6)), (.chan (.some 7))]), (.chan (.some 8)), (.agg #[(.chan (.some 9)), (.chan (.some 10))]), (.agg #[(.chan (.some 11)), (.chan (.some 12))])]) Ev.start = true := by kernel_rfl

noncomputable def rsources2_b1 : Code := headC rsources2_b0

noncomputable def rsources2_b2 : Code := tailC rsources2_b0

set_option maxRecDepth 1000000 in
theorem rsources2_q0 : rsources2_b0 = .seq rsources2_b1 rsources2_b2 := by kernel_rfl

noncomputable def rsources2_fr1 : Fr := mkFr Try.f22 [(1, (.chan (.some 8))), (4, (.pointer (.some (.mk 0 0 .none)))), (6, (.pointer (.some (.mk 1 0 .none)))), (7, (.pointer (.some (.mk 2 0 .none)))), (8, (.slice .none 0 0)), (9, (iV (.ofNat 0)))] []
noncomputable def rsources2_st1 : St := mkSt 3 [(0, (.cells [(.chan (.some 0)), (.chan (.some 1)), (.chan (.some 2)), (.chan (.some 3)), (.chan (.some 4)), (.chan (.some 5)), (.chan (.some 6)), (.chan (.some 7))] 26 .none .false)), (1, (.cells [(.chan (.some 9)), (.chan (.some 10))] 23 .none .false)), (2, (.cells [(.chan (.some 11)), (.chan (.some 12))] 23 .none .false))]
theorem rsources2_wf1 : rsources2_st1.Wf := mkSt_wf rfl
set_option maxRecDepth 1000000 in
theorem rsources2_id1 : agreeL [sy 0, sy 1, sy 2, sy 3, sy 4, sy 5, sy 6, sy 7, sy 8, sy 9, sy 10, sy 11, sy 12] [0, 1, 2] [] rsources2_fr1 rsources2_st1 rsources2_fr1 rsources2_st1 = true := by kernel_rfl

set_option maxRecDepth 1000000 in
theorem rsources2_r0 : ev Try.prog (env.symL [] [] [] []) 3000 (.code rsources2_b1 none rsources2_fr0 rsources2_st0 (stopL .normal [sy 0, sy 1, sy 2, sy 3, sy 4, sy 5, sy 6, sy 7, sy 8, sy 9, sy 10, sy 11, sy 12] [0, 1, 2] [] rsources2_fr1 rsources2_st1)) = some () := by kernel_rfl

noncomputable def rsources2_b3 : Code := headC rsources2_b2

noncomputable def rsources2_b4 : Code := tailC rsources2_b2

set_option maxRecDepth 1000000 in
theorem rsources2_q1 : rsources2_b2 = .seq rsources2_b3 rsources2_b4 := by kernel_rfl

noncomputable def rsources2_e1 : List Ent := []
noncomputable def rsources2_c1 : List CEnt := [⟨19, [(.agg #[(sy 0), (sy 1), (sy 2), (sy 3), (sy 4), (sy 5), (sy 6), (sy 7)])], [], (sy 13)⟩]
noncomputable def rsources2_l1 : List LEnt := []
noncomputable def rsources2_cl1 : List CLEnt := []

noncomputable def rsources2_fr2 : Fr := mkFr Try.f22 [(1, (.chan (.some 8))), (4, (.pointer (.some (.mk 0 0 .none)))), (6, (.pointer (.some (.mk 1 0 .none)))), (7, (.pointer (.some (.mk 2 0 .none)))), (8, (.slice .none 0 0)), (9, (iV (.ofNat 0))), (10, (.chan (.some 13)))] []
noncomputable def rsources2_st2 : St := mkSt 3 [(0, (.cells [(.chan (.some 0)), (.chan (.some 1)), (.chan (.some 2)), (.chan (.some 3)), (.chan (.some 4)), (.chan (.some 5)), (.chan (.some 6)), (.chan (.some 7))] 26 .none .false)), (1, (.cells [(.chan (.some 9)), (.chan (.some 10))] 23 .none .false)), (2, (.cells [(.chan (.some 11)), (.chan (.some 12))] 23 .none .false))]
theorem rsources2_wf2 : rsources2_st2.Wf := mkSt_wf rfl
set_option maxRecDepth 1000000 in
theorem rsources2_id2 : agreeL [sy 0, sy 1, sy 2, sy 3, sy 4, sy 5, sy 6, sy 7, sy 8, sy 9, sy 10, sy 11, sy 12, sy 13] [0, 1, 2] [] rsources2_fr2 rsources2_st2 rsources2_fr2 rsources2_st2 = true := by kernel_rfl

set_option maxRecDepth 1000000 in
theorem rsources2_r1 : ev Try.prog (env.symL rsources2_e1 rsources2_c1 rsources2_l1 rsources2_cl1) 3000 (.code rsources2_b3 none rsources2_fr1 rsources2_st1 (stopL .normal [sy 0, sy 1, sy 2, sy 3, sy 4, sy 5, sy 6, sy 7, sy 8, sy 9, sy 10, sy 11, sy 12, sy 13] [0, 1, 2] [] rsources2_fr2 rsources2_st2)) = some () := by kernel_rfl

noncomputable def rsources2_b5 : Code := headC rsources2_b4

noncomputable def rsources2_b6 : Code := tailC rsources2_b4

set_option maxRecDepth 1000000 in
theorem rsources2_q2 : rsources2_b4 = .seq rsources2_b5 rsources2_b6 := by kernel_rfl

noncomputable def rsources2_e2 : List Ent := [⟨(.bin .neq 27), [(sy 13), (iV 0)], (.bool true)⟩]
noncomputable def rsources2_c2 : List CEnt := []
noncomputable def rsources2_l2 : List LEnt := []
noncomputable def rsources2_cl2 : List CLEnt := []

set_option maxRecDepth 1000000 in
theorem rsources2_r2 : ev Try.prog (env.symL rsources2_e2 rsources2_c2 rsources2_l2 rsources2_cl2) 3000 (.code rsources2_b5 none rsources2_fr2 rsources2_st2 (stopRK (env.symL rsources2_e2 rsources2_c2 rsources2_l2 rsources2_cl2) Try.f22 (endV (.tuple #[(.slice .none 0 0), (sy 13)])))) = some () := by kernel_rfl

noncomputable def rsources2_e3 : List Ent := [⟨(.bin .neq 27), [(sy 13), (iV 0)], (.bool false)⟩]
noncomputable def rsources2_c3 : List CEnt := []
noncomputable def rsources2_l3 : List LEnt := []
noncomputable def rsources2_cl3 : List CLEnt := []

noncomputable def rsources2_fr3 : Fr := mkFr Try.f22 [(1, (.chan (.some 8))), (4, (.pointer (.some (.mk 0 0 .none)))), (6, (.pointer (.some (.mk 1 0 .none)))), (7, (.pointer (.some (.mk 2 0 .none)))), (8, (.slice .none 0 0)), (9, (iV (.ofNat 0)))] []
noncomputable def rsources2_st3 : St := mkSt 3 [(0, (.cells [(.chan (.some 0)), (.chan (.some 1)), (.chan (.some 2)), (.chan (.some 3)), (.chan (.some 4)), (.chan (.some 5)), (.chan (.some 6)), (.chan (.some 7))] 26 .none .false)), (1, (.cells [(.chan (.some 9)), (.chan (.some 10))] 23 .none .false)), (2, (.cells [(.chan (.some 11)), (.chan (.some 12))] 23 .none .false))]
theorem rsources2_wf3 : rsources2_st3.Wf := mkSt_wf rfl
set_option maxRecDepth 1000000 in
theorem rsources2_id3 : agreeL [sy 0, sy 1, sy 2, sy 3, sy 4, sy 5, sy 6, sy 7, sy 8, sy 9, sy 10, sy 11, sy 12] [0, 1, 2] [] rsources2_fr3 rsources2_st3 rsources2_fr3 rsources2_st3 = true := by kernel_rfl

set_option maxRecDepth 1000000 in
theorem rsources2_r3 : ev Try.prog (env.symL rsources2_e3 rsources2_c3 rsources2_l3 rsources2_cl3) 3000 (.code rsources2_b5 none rsources2_fr2 rsources2_st2 (stopL .normal [sy 0, sy 1, sy 2, sy 3, sy 4, sy 5, sy 6, sy 7, sy 8, sy 9, sy 10, sy 11, sy 12] [0, 1, 2] [] rsources2_fr3 rsources2_st3)) = some () := by kernel_rfl

noncomputable def rsources2_b7 : Code := headC rsources2_b6

noncomputable def rsources2_b8 : Code := tailC rsources2_b6

set_option maxRecDepth 1000000 in
theorem rsources2_q3 : rsources2_b6 = .seq rsources2_b7 rsources2_b8 := by kernel_rfl

noncomputable def rsources2_b9 : Code := headC rsources2_b7

noncomputable def rsources2_b10 : Code := tailC rsources2_b7

set_option maxRecDepth 1000000 in
theorem rsources2_q4 : rsources2_b7 = .seq rsources2_b9 rsources2_b10 := by kernel_rfl

noncomputable def rsources2_fr4 : Fr := mkFr Try.f22 [(1, (.chan (.some 8))), (4, (.pointer (.some (.mk 0 0 .none)))), (6, (.pointer (.some (.mk 1 0 .none)))), (7, (.pointer (.some (.mk 2 0 .none)))), (8, (.slice .none 0 0)), (9, (iV (.ofNat 0))), (11, (iV (.ofNat 0)))] []
noncomputable def rsources2_st4 : St := mkSt 3 [(0, (.cells [(.chan (.some 0)), (.chan (.some 1)), (.chan (.some 2)), (.chan (.some 3)), (.chan (.some 4)), (.chan (.some 5)), (.chan (.some 6)), (.chan (.some 7))] 26 .none .false)), (1, (.cells [(.chan (.some 9)), (.chan (.some 10))] 23 .none .false)), (2, (.cells [(.chan (.some 11)), (.chan (.some 12))] 23 .none .false))]
theorem rsources2_wf4 : rsources2_st4.Wf := mkSt_wf rfl
set_option maxRecDepth 1000000 in
theorem rsources2_id4 : agreeL [sy 0, sy 1, sy 2, sy 3, sy 4, sy 5, sy 6, sy 7, sy 8, sy 9, sy 10, sy 11, sy 12] [0, 1, 2] [] rsources2_fr4 rsources2_st4 rsources2_fr4 rsources2_st4 = true := by kernel_rfl

set_option maxRecDepth 1000000 in
theorem rsources2_r4 : ev Try.prog (env.symL [] [] [] []) 3000 (.code rsources2_b9 none rsources2_fr3 rsources2_st3 (stopL .normal [sy 0, sy 1, sy 2, sy 3, sy 4, sy 5, sy 6, sy 7, sy 8, sy 9, sy 10, sy 11, sy 12] [0, 1, 2] [] rsources2_fr4 rsources2_st4)) = some () := by kernel_rfl

noncomputable def rsources2_b11 : Code := inBlockC rsources2_b10

set_option maxRecDepth 1000000 in
theorem rsources2_q5 : rsources2_b10 = .block 0 rsources2_b11 := by kernel_rfl

noncomputable def rsources2_b12 : Code := inLoopC rsources2_b11

set_option maxRecDepth 1000000 in
theorem rsources2_q6 : rsources2_b11 = .loop rsources2_b12 := by kernel_rfl

noncomputable def rsources2_fr5 : Fr := mkFr Try.f22 [(1, (.chan (.some 8))), (4, (.pointer (.some (.mk 0 0 .none)))), (6, (.pointer (.some (.mk 1 0 .none)))), (7, (.pointer (.some (.mk 2 0 .none)))), (8, (.slice .none 0 0)), (9, (iV (.ofNat 0))), (11, (.chan (.some 13)))] []
noncomputable def rsources2_st5 : St := mkSt 3 [(0, (.cells [(.chan (.some 0)), (.chan (.some 1)), (.chan (.some 2)), (.chan (.some 3)), (.chan (.some 4)), (.chan (.some 5)), (.chan (.some 6)), (.chan (.some 7))] 26 .none .false)), (1, (.cells [(.chan (.some 9)), (.chan (.some 10))] 23 .none .false)), (2, (.cells [(.chan (.some 11)), (.chan (.some 12))] 23 .none .false))]
theorem rsources2_wf5 : rsources2_st5.Wf := mkSt_wf rfl
set_option maxRecDepth 1000000 in
theorem rsources2_id5 : agreeL [sy 0, sy 1, sy 2, sy 3, sy 4, sy 5, sy 6, sy 7, sy 8, sy 9, sy 10, sy 11, sy 12, sy 13] [0, 1, 2] [] rsources2_fr5 rsources2_st5 rsources2_fr5 rsources2_st5 = true := by kernel_rfl

set_option maxRecDepth 1000000 in
theorem rsources2_h7 : agreeL [(sy 0), (sy 1), (sy 2), (sy 3), (sy 4), (sy 5), (sy 6), (sy 7), (sy 8), (sy 9), (sy 10), (sy 11), (sy 12), (iV 0)] [0, 1, 2] [] rsources2_fr5 rsources2_st5 rsources2_fr4 rsources2_st4 = true := by kernel_rfl

noncomputable def rsources2_e5 : List Ent := [⟨(.bi 0 [37]), [(sy 8)], (sy 14)⟩, ⟨(.bin .lss 3), [(sy 13), (sy 14)], (.bool true)⟩, ⟨(.indexAddr 37), [(sy 8), (sy 13)], (sy 15)⟩, ⟨(.load 3), [(sy 15)], (sy 16)⟩, ⟨(.bin .mul 3), [(sy 0), (sy 1)], (sy 17)⟩, ⟨(.bin .sub 3), [(sy 17), (iV 1)], (sy 18)⟩, ⟨(.bin .geq 3), [(sy 16), (iV 0)], (.bool true)⟩, ⟨(.bin .leq 3), [(sy 16), (sy 18)], (.bool true)⟩, ⟨(.bin .gtr 3), [(sy 13), (iV 0)], (.bool true)⟩, ⟨(.bin .sub 3), [(sy 13), (iV 1)], (sy 19)⟩, ⟨(.indexAddr 37), [(sy 8), (sy 19)], (sy 20)⟩, ⟨(.load 3), [(sy 20)], (sy 21)⟩, ⟨(.bin .leq 3), [(sy 16), (sy 21)], (.bool true)⟩]
noncomputable def rsources2_c5 : List CEnt := []
noncomputable def rsources2_l5 : List LEnt := []
noncomputable def rsources2_cl5 : List CLEnt := []

set_option maxRecDepth 1000000 in
theorem rsources2_r5 : ev Try.prog (env.symL rsources2_e5 rsources2_c5 rsources2_l5 rsources2_cl5) 3000 (.code rsources2_b12 none rsources2_fr5 rsources2_st5 (stopRK (env.symL rsources2_e5 rsources2_c5 rsources2_l5 rsources2_cl5) Try.f22 (endV (.tuple #[(.slice .none 0 0), (iV 2)])))) = some () := by kernel_rfl

noncomputable def rsources2_e6 : List Ent := [⟨(.bi 0 [37]), [(sy 8)], (sy 14)⟩, ⟨(.bin .lss 3), [(sy 13), (sy 14)], (.bool true)⟩, ⟨(.indexAddr 37), [(sy 8), (sy 13)], (sy 15)⟩, ⟨(.load 3), [(sy 15)], (sy 16)⟩, ⟨(.bin .mul 3), [(sy 0), (sy 1)], (sy 17)⟩, ⟨(.bin .sub 3), [(sy 17), (iV 1)], (sy 18)⟩, ⟨(.bin .geq 3), [(sy 16), (iV 0)], (.bool true)⟩, ⟨(.bin .leq 3), [(sy 16), (sy 18)], (.bool true)⟩, ⟨(.bin .gtr 3), [(sy 13), (iV 0)], (.bool true)⟩, ⟨(.bin .sub 3), [(sy 13), (iV 1)], (sy 19)⟩, ⟨(.indexAddr 37), [(sy 8), (sy 19)], (sy 20)⟩, ⟨(.load 3), [(sy 20)], (sy 21)⟩, ⟨(.bin .leq 3), [(sy 16), (sy 21)], (.bool false)⟩, ⟨(.bin .add 3), [(sy 13), (iV 1)], (sy 22)⟩]
noncomputable def rsources2_c6 : List CEnt := []
noncomputable def rsources2_l6 : List LEnt := []
noncomputable def rsources2_cl6 : List CLEnt := []

set_option maxRecDepth 1000000 in
theorem rsources2_r6 : ev Try.prog (env.symL rsources2_e6 rsources2_c6 rsources2_l6 rsources2_cl6) 3000 (.code rsources2_b12 none rsources2_fr5 rsources2_st5 (stopL .normal [(sy 0), (sy 1), (sy 2), (sy 3), (sy 4), (sy 5), (sy 6), (sy 7), (sy 8), (sy 9), (sy 10), (sy 11), (sy 12), (sy 22)] [0, 1, 2] [] rsources2_fr5 rsources2_st5)) = some () := by kernel_rfl

noncomputable def rsources2_e7 : List Ent := [⟨(.bi 0 [37]), [(sy 8)], (sy 14)⟩, ⟨(.bin .lss 3), [(sy 13), (sy 14)], (.bool true)⟩, ⟨(.indexAddr 37), [(sy 8), (sy 13)], (sy 15)⟩, ⟨(.load 3), [(sy 15)], (sy 16)⟩, ⟨(.bin .mul 3), [(sy 0), (sy 1)], (sy 17)⟩, ⟨(.bin .sub 3), [(sy 17), (iV 1)], (sy 18)⟩, ⟨(.bin .geq 3), [(sy 16), (iV 0)], (.bool true)⟩, ⟨(.bin .leq 3), [(sy 16), (sy 18)], (.bool true)⟩, ⟨(.bin .gtr 3), [(sy 13), (iV 0)], (.bool false)⟩, ⟨(.bin .add 3), [(sy 13), (iV 1)], (sy 19)⟩]
noncomputable def rsources2_c7 : List CEnt := []
noncomputable def rsources2_l7 : List LEnt := []
noncomputable def rsources2_cl7 : List CLEnt := []

set_option maxRecDepth 1000000 in
theorem rsources2_r7 : ev Try.prog (env.symL rsources2_e7 rsources2_c7 rsources2_l7 rsources2_cl7) 3000 (.code rsources2_b12 none rsources2_fr5 rsources2_st5 (stopL .normal [(sy 0), (sy 1), (sy 2), (sy 3), (sy 4), (sy 5), (sy 6), (sy 7), (sy 8), (sy 9), (sy 10), (sy 11), (sy 12), (sy 19)] [0, 1, 2] [] rsources2_fr5 rsources2_st5)) = some () := by kernel_rfl

noncomputable def rsources2_e8 : List Ent := [⟨(.bi 0 [37]), [(sy 8)], (sy 14)⟩, ⟨(.bin .lss 3), [(sy 13), (sy 14)], (.bool true)⟩, ⟨(.indexAddr 37), [(sy 8), (sy 13)], (sy 15)⟩, ⟨(.load 3), [(sy 15)], (sy 16)⟩, ⟨(.bin .mul 3), [(sy 0), (sy 1)], (sy 17)⟩, ⟨(.bin .sub 3), [(sy 17), (iV 1)], (sy 18)⟩, ⟨(.bin .geq 3), [(sy 16), (iV 0)], (.bool true)⟩, ⟨(.bin .leq 3), [(sy 16), (sy 18)], (.bool false)⟩]
noncomputable def rsources2_c8 : List CEnt := []
noncomputable def rsources2_l8 : List LEnt := []
noncomputable def rsources2_cl8 : List CLEnt := []

set_option maxRecDepth 1000000 in
theorem rsources2_r8 : ev Try.prog (env.symL rsources2_e8 rsources2_c8 rsources2_l8 rsources2_cl8) 3000 (.code rsources2_b12 none rsources2_fr5 rsources2_st5 (stopRK (env.symL rsources2_e8 rsources2_c8 rsources2_l8 rsources2_cl8) Try.f22 (endV (.tuple #[(.slice .none 0 0), (iV 4)])))) = some () := by kernel_rfl

noncomputable def rsources2_e9 : List Ent := [⟨(.bi 0 [37]), [(sy 8)], (sy 14)⟩, ⟨(.bin .lss 3), [(sy 13), (sy 14)], (.bool true)⟩, ⟨(.indexAddr 37), [(sy 8), (sy 13)], (sy 15)⟩, ⟨(.load 3), [(sy 15)], (sy 16)⟩, ⟨(.bin .mul 3), [(sy 0), (sy 1)], (sy 17)⟩, ⟨(.bin .sub 3), [(sy 17), (iV 1)], (sy 18)⟩, ⟨(.bin .geq 3), [(sy 16), (iV 0)], (.bool false)⟩]
noncomputable def rsources2_c9 : List CEnt := []
noncomputable def rsources2_l9 : List LEnt := []
noncomputable def rsources2_cl9 : List CLEnt := []

set_option maxRecDepth 1000000 in
theorem rsources2_r9 : ev Try.prog (env.symL rsources2_e9 rsources2_c9 rsources2_l9 rsources2_cl9) 3000 (.code rsources2_b12 none rsources2_fr5 rsources2_st5 (stopRK (env.symL rsources2_e9 rsources2_c9 rsources2_l9 rsources2_cl9) Try.f22 (endV (.tuple #[(.slice .none 0 0), (iV 4)])))) = some () := by kernel_rfl

noncomputable def rsources2_e10 : List Ent := [⟨(.bi 0 [37]), [(sy 8)], (sy 14)⟩, ⟨(.bin .lss 3), [(sy 13), (sy 14)], (.bool false)⟩]
noncomputable def rsources2_c10 : List CEnt := []
noncomputable def rsources2_l10 : List LEnt := []
noncomputable def rsources2_cl10 : List CLEnt := []

noncomputable def rsources2_fr6 : Fr := mkFr Try.f22 [(1, (.chan (.some 8))), (6, (.pointer (.some (.mk 0 0 .none)))), (7, (.pointer (.some (.mk 1 0 .none)))), (8, (.slice .none 0 0)), (9, (iV (.ofNat 0)))] []
noncomputable def rsources2_st6 : St := mkSt 2 [(0, (.cells [(.chan (.some 9)), (.chan (.some 10))] 23 .none .false)), (1, (.cells [(.chan (.some 11)), (.chan (.some 12))] 23 .none .false))]
theorem rsources2_wf6 : rsources2_st6.Wf := mkSt_wf rfl
set_option maxRecDepth 1000000 in
theorem rsources2_id6 : agreeL [sy 0, sy 1, sy 2, sy 3, sy 4, sy 5, sy 6, sy 7, sy 8, sy 9, sy 10, sy 11, sy 12] [0, 1] [] rsources2_fr6 rsources2_st6 rsources2_fr6 rsources2_st6 = true := by kernel_rfl

set_option maxRecDepth 1000000 in
theorem rsources2_r10 : ev Try.prog (env.symL rsources2_e10 rsources2_c10 rsources2_l10 rsources2_cl10) 3000 (.code rsources2_b12 none rsources2_fr5 rsources2_st5 (stopL (.exit 0) [sy 0, sy 1, sy 2, sy 3, sy 4, sy 5, sy 6, sy 7, sy 8, sy 9, sy 10, sy 11, sy 12] [1, 2] [] rsources2_fr6 rsources2_st6)) = some () := by kernel_rfl

noncomputable def rsources2_b13 : Code := headC rsources2_b8

noncomputable def rsources2_b14 : Code := tailC rsources2_b8

set_option maxRecDepth 1000000 in
theorem rsources2_q8 : rsources2_b8 = .seq rsources2_b13 rsources2_b14 := by kernel_rfl

noncomputable def rsources2_e11 : List Ent := [⟨(.bin .leq 3), [(sy 9), (sy 10)], (.bool true)⟩, ⟨(.bin .geq 3), [(sy 9), (iV 1)], (.bool true)⟩, ⟨(.bin .leq 3), [(sy 10), (iV 10)], (.bool true)⟩, ⟨(.bin .leq 3), [(sy 11), (sy 12)], (.bool true)⟩, ⟨(.bin .geq 3), [(sy 11), (iV 0)], (.bool true)⟩, ⟨(.bin .leq 3), [(sy 12), (iV 1000000000)], (.bool true)⟩]
noncomputable def rsources2_c11 : List CEnt := []
noncomputable def rsources2_l11 : List LEnt := []
noncomputable def rsources2_cl11 : List CLEnt := []

noncomputable def rsources2_fr7 : Fr := mkFr Try.f22 [(1, (.chan (.some 8))), (6, (.pointer (.some (.mk 0 0 .none)))), (7, (.pointer (.some (.mk 1 0 .none)))), (8, (.slice .none 0 0)), (9, (iV (.ofNat 0)))] []
noncomputable def rsources2_st7 : St := mkSt 2 [(0, (.cells [(.chan (.some 9)), (.chan (.some 10))] 23 .none .false)), (1, (.cells [(.chan (.some 11)), (.chan (.some 12))] 23 .none .false))]
theorem rsources2_wf7 : rsources2_st7.Wf := mkSt_wf rfl
set_option maxRecDepth 1000000 in
theorem rsources2_id7 : agreeL [sy 0, sy 1, sy 2, sy 3, sy 4, sy 5, sy 6, sy 7, sy 8, sy 9, sy 10, sy 11, sy 12] [0, 1] [] rsources2_fr7 rsources2_st7 rsources2_fr7 rsources2_st7 = true := by kernel_rfl

set_option maxRecDepth 1000000 in
theorem rsources2_r11 : ev Try.prog (env.symL rsources2_e11 rsources2_c11 rsources2_l11 rsources2_cl11) 3000 (.code rsources2_b13 none rsources2_fr6 rsources2_st6 (stopL .normal [sy 0, sy 1, sy 2, sy 3, sy 4, sy 5, sy 6, sy 7, sy 8, sy 9, sy 10, sy 11, sy 12] [0, 1] [] rsources2_fr7 rsources2_st7)) = some () := by kernel_rfl

noncomputable def rsources2_b15 : Code := headC rsources2_b14

noncomputable def rsources2_b16 : Code := tailC rsources2_b14

set_option maxRecDepth 1000000 in
theorem rsources2_q9 : rsources2_b14 = .seq rsources2_b15 rsources2_b16 := by kernel_rfl

noncomputable def rsources2_e12 : List Ent := [⟨(.bi 0 [37]), [(sy 8)], (sy 13)⟩, ⟨(.bin .sub 3), [(sy 10), (sy 9)], (sy 14)⟩, ⟨(.bin .add 3), [(sy 14), (iV 1)], (sy 15)⟩, ⟨(.bin .mul 3), [(sy 13), (sy 15)], (sy 16)⟩, ⟨(.bin .gtr 3), [(sy 16), (iV 256)], (.bool true)⟩]
noncomputable def rsources2_c12 : List CEnt := []
noncomputable def rsources2_l12 : List LEnt := []
noncomputable def rsources2_cl12 : List CLEnt := []

set_option maxRecDepth 1000000 in
theorem rsources2_r12 : ev Try.prog (env.symL rsources2_e12 rsources2_c12 rsources2_l12 rsources2_cl12) 3000 (.code rsources2_b15 none rsources2_fr7 rsources2_st7 (stopRK (env.symL rsources2_e12 rsources2_c12 rsources2_l12 rsources2_cl12) Try.f22 (endV (.tuple #[(.slice .none 0 0), (iV 9)])))) = some () := by kernel_rfl

noncomputable def rsources2_e13 : List Ent := [⟨(.bi 0 [37]), [(sy 8)], (sy 13)⟩, ⟨(.bin .sub 3), [(sy 10), (sy 9)], (sy 14)⟩, ⟨(.bin .add 3), [(sy 14), (iV 1)], (sy 15)⟩, ⟨(.bin .mul 3), [(sy 13), (sy 15)], (sy 16)⟩, ⟨(.bin .gtr 3), [(sy 16), (iV 256)], (.bool false)⟩]
noncomputable def rsources2_c13 : List CEnt := []
noncomputable def rsources2_l13 : List LEnt := []
noncomputable def rsources2_cl13 : List CLEnt := []

noncomputable def rsources2_fr8 : Fr := mkFr Try.f22 [(1, (.chan (.some 8))), (6, (.pointer (.some (.mk 0 0 .none)))), (7, (.pointer (.some (.mk 1 0 .none)))), (8, (.slice .none 0 0)), (9, (iV (.ofNat 0)))] []
noncomputable def rsources2_st8 : St := mkSt 2 [(0, (.cells [(.chan (.some 9)), (.chan (.some 10))] 23 .none .false)), (1, (.cells [(.chan (.some 11)), (.chan (.some 12))] 23 .none .false))]
theorem rsources2_wf8 : rsources2_st8.Wf := mkSt_wf rfl
set_option maxRecDepth 1000000 in
theorem rsources2_id8 : agreeL [sy 0, sy 1, sy 2, sy 3, sy 4, sy 5, sy 6, sy 7, sy 8, sy 9, sy 10, sy 11, sy 12] [0, 1] [] rsources2_fr8 rsources2_st8 rsources2_fr8 rsources2_st8 = true := by kernel_rfl

set_option maxRecDepth 1000000 in
theorem rsources2_r13 : ev Try.prog (env.symL rsources2_e13 rsources2_c13 rsources2_l13 rsources2_cl13) 3000 (.code rsources2_b15 none rsources2_fr7 rsources2_st7 (stopL .normal [sy 0, sy 1, sy 2, sy 3, sy 4, sy 5, sy 6, sy 7, sy 8, sy 9, sy 10, sy 11, sy 12] [0, 1] [] rsources2_fr8 rsources2_st8)) = some () := by kernel_rfl

noncomputable def rsources2_b17 : Code := headC rsources2_b16

noncomputable def rsources2_b18 : Code := tailC rsources2_b16

set_option maxRecDepth 1000000 in
theorem rsources2_q10 : rsources2_b16 = .seq rsources2_b17 rsources2_b18 := by kernel_rfl

noncomputable def rsources2_fr9 : Fr := mkFr Try.f22 [(1, (.chan (.some 8))), (6, (.pointer (.some (.mk 0 0 .none)))), (7, (.pointer (.some (.mk 1 0 .none)))), (8, (.slice .none 0 0)), (9, (iV (.ofNat 0))), (12, (.slice .none 0 0))] []
noncomputable def rsources2_st9 : St := mkSt 2 [(0, (.cells [(.chan (.some 9)), (.chan (.some 10))] 23 .none .false)), (1, (.cells [(.chan (.some 11)), (.chan (.some 12))] 23 .none .false))]
theorem rsources2_wf9 : rsources2_st9.Wf := mkSt_wf rfl
set_option maxRecDepth 1000000 in
theorem rsources2_id9 : agreeL [sy 0, sy 1, sy 2, sy 3, sy 4, sy 5, sy 6, sy 7, sy 8, sy 9, sy 10, sy 11, sy 12] [0, 1] [] rsources2_fr9 rsources2_st9 rsources2_fr9 rsources2_st9 = true := by kernel_rfl

set_option maxRecDepth 1000000 in
theorem rsources2_r14 : ev Try.prog (env.symL [] [] [] []) 3000 (.code rsources2_b17 none rsources2_fr8 rsources2_st8 (stopL .normal [sy 0, sy 1, sy 2, sy 3, sy 4, sy 5, sy 6, sy 7, sy 8, sy 9, sy 10, sy 11, sy 12] [0, 1] [] rsources2_fr9 rsources2_st9)) = some () := by kernel_rfl

noncomputable def rsources2_b19 : Code := headC rsources2_b18

noncomputable def rsources2_b20 : Code := tailC rsources2_b18

set_option maxRecDepth 1000000 in
theorem rsources2_q11 : rsources2_b18 = .seq rsources2_b19 rsources2_b20 := by kernel_rfl

noncomputable def rsources2_b21 : Code := headC rsources2_b19

noncomputable def rsources2_b22 : Code := tailC rsources2_b19

set_option maxRecDepth 1000000 in
theorem rsources2_q12 : rsources2_b19 = .seq rsources2_b21 rsources2_b22 := by kernel_rfl

noncomputable def rsources2_fr10 : Fr := mkFr Try.f22 [(1, (.chan (.some 8))), (6, (.pointer (.some (.mk 0 0 .none)))), (7, (.pointer (.some (.mk 1 0 .none)))), (8, (.slice .none 0 0)), (9, (iV (.ofNat 0))), (12, (.slice .none 0 0)), (13, (iV (.ofNat 0)))] []
noncomputable def rsources2_st10 : St := mkSt 2 [(0, (.cells [(.chan (.some 9)), (.chan (.some 10))] 23 .none .false)), (1, (.cells [(.chan (.some 11)), (.chan (.some 12))] 23 .none .false))]
theorem rsources2_wf10 : rsources2_st10.Wf := mkSt_wf rfl
set_option maxRecDepth 1000000 in
theorem rsources2_id10 : agreeL [sy 0, sy 1, sy 2, sy 3, sy 4, sy 5, sy 6, sy 7, sy 8, sy 9, sy 10, sy 11, sy 12] [0, 1] [] rsources2_fr10 rsources2_st10 rsources2_fr10 rsources2_st10 = true := by kernel_rfl

set_option maxRecDepth 1000000 in
theorem rsources2_r15 : ev Try.prog (env.symL [] [] [] []) 3000 (.code rsources2_b21 none rsources2_fr9 rsources2_st9 (stopL .normal [sy 0, sy 1, sy 2, sy 3, sy 4, sy 5, sy 6, sy 7, sy 8, sy 9, sy 10, sy 11, sy 12] [0, 1] [] rsources2_fr10 rsources2_st10)) = some () := by kernel_rfl

noncomputable def rsources2_b23 : Code := inBlockC rsources2_b22

set_option maxRecDepth 1000000 in
theorem rsources2_q13 : rsources2_b22 = .block 2 rsources2_b23 := by kernel_rfl

noncomputable def rsources2_b24 : Code := inLoopC rsources2_b23

set_option maxRecDepth 1000000 in
theorem rsources2_q14 : rsources2_b23 = .loop rsources2_b24 := by kernel_rfl

noncomputable def rsources2_fr11 : Fr := mkFr Try.f22 [(1, (.chan (.some 8))), (6, (.pointer (.some (.mk 0 0 .none)))), (7, (.pointer (.some (.mk 1 0 .none)))), (8, (.slice .none 0 0)), (9, (iV (.ofNat 0))), (12, (.pointer (.some (.mk 2 13 (.some 2))))), (13, (.chan (.some 14)))] []
noncomputable def rsources2_st11 : St := mkSt 3 [(0, (.cells [(.chan (.some 9)), (.chan (.some 10))] 23 .none .false)), (1, (.cells [(.chan (.some 11)), (.chan (.some 12))] 23 .none .false)), (2, (.lst 0 54 5))]
theorem rsources2_wf11 : rsources2_st11.Wf := mkSt_wf rfl
set_option maxRecDepth 1000000 in
theorem rsources2_id11 : agreeL [sy 0, sy 1, sy 2, sy 3, sy 4, sy 5, sy 6, sy 7, sy 8, sy 9, sy 10, sy 11, sy 12, sy 13, sy 14] [0, 1, 2] [some 0] rsources2_fr11 rsources2_st11 rsources2_fr11 rsources2_st11 = true := by kernel_rfl

set_option maxRecDepth 1000000 in
theorem rsources2_h15 : agreeL [(sy 0), (sy 1), (sy 2), (sy 3), (sy 4), (sy 5), (sy 6), (sy 7), (sy 8), (sy 9), (sy 10), (sy 11), (sy 12), (iV 0), (iV 0)] [0, 1, 2] [none] rsources2_fr11 rsources2_st11 rsources2_fr10 rsources2_st10 = true := by kernel_rfl

noncomputable def rsources2_b25 : Code := headC rsources2_b24

noncomputable def rsources2_b26 : Code := tailC rsources2_b24

set_option maxRecDepth 1000000 in
theorem rsources2_q16 : rsources2_b24 = .seq rsources2_b25 rsources2_b26 := by kernel_rfl

noncomputable def rsources2_e16 : List Ent := [⟨(.bi 0 [37]), [(sy 8)], (sy 15)⟩, ⟨(.bin .lss 3), [(sy 14), (sy 15)], (.bool true)⟩]
noncomputable def rsources2_c16 : List CEnt := []
noncomputable def rsources2_l16 : List LEnt := []
noncomputable def rsources2_cl16 : List CLEnt := []

noncomputable def rsources2_fr12 : Fr := mkFr Try.f22 [(1, (.chan (.some 8))), (6, (.pointer (.some (.mk 0 0 .none)))), (7, (.pointer (.some (.mk 1 0 .none)))), (8, (.slice .none 0 0)), (9, (iV (.ofNat 0))), (12, (.pointer (.some (.mk 2 13 (.some 2))))), (13, (.chan (.some 14))), (65, (.chan (.some 14))), (66, (.chan (.some 8))), (67, (.chan (.some 15))), (68, (.bool .true))] []
noncomputable def rsources2_st12 : St := mkSt 3 [(0, (.cells [(.chan (.some 9)), (.chan (.some 10))] 23 .none .false)), (1, (.cells [(.chan (.some 11)), (.chan (.some 12))] 23 .none .false)), (2, (.lst 0 54 5))]
theorem rsources2_wf12 : rsources2_st12.Wf := mkSt_wf rfl
set_option maxRecDepth 1000000 in
theorem rsources2_id12 : agreeL [sy 0, sy 1, sy 2, sy 3, sy 4, sy 5, sy 6, sy 7, sy 8, sy 9, sy 10, sy 11, sy 12, sy 13, sy 14, sy 15] [0, 1, 2] [some 0] rsources2_fr12 rsources2_st12 rsources2_fr12 rsources2_st12 = true := by kernel_rfl

set_option maxRecDepth 1000000 in
theorem rsources2_r16 : ev Try.prog (env.symL rsources2_e16 rsources2_c16 rsources2_l16 rsources2_cl16) 3000 (.code rsources2_b25 none rsources2_fr11 rsources2_st11 (stopL .normal [sy 0, sy 1, sy 2, sy 3, sy 4, sy 5, sy 6, sy 7, sy 8, sy 9, sy 10, sy 11, sy 12, sy 13, sy 14, sy 15] [0, 1, 2] [some 0] rsources2_fr12 rsources2_st12)) = some () := by kernel_rfl

noncomputable def rsources2_b27 : Code := headC rsources2_b26

noncomputable def rsources2_b28 : Code := tailC rsources2_b26

set_option maxRecDepth 1000000 in
theorem rsources2_q17 : rsources2_b26 = .seq rsources2_b27 rsources2_b28 := by kernel_rfl

noncomputable def rsources2_b29 : Code := inBlockC rsources2_b27

set_option maxRecDepth 1000000 in
theorem rsources2_q18 : rsources2_b27 = .block 3 rsources2_b29 := by kernel_rfl

noncomputable def rsources2_b30 : Code := headC rsources2_b29

noncomputable def rsources2_b31 : Code := tailC rsources2_b29

set_option maxRecDepth 1000000 in
theorem rsources2_q19 : rsources2_b29 = .seq rsources2_b30 rsources2_b31 := by kernel_rfl

noncomputable def rsources2_fr13 : Fr := mkFr Try.f22 [(1, (.chan (.some 8))), (6, (.pointer (.some (.mk 0 0 .none)))), (7, (.pointer (.some (.mk 1 0 .none)))), (8, (.slice .none 0 0)), (9, (iV (.ofNat 0))), (12, (.pointer (.some (.mk 2 13 (.some 2))))), (13, (.chan (.some 14))), (14, (.chan (.some 9))), (65, (.chan (.some 14))), (66, (.chan (.some 8))), (67, (.chan (.some 15))), (68, (.bool .true)), (71, (.pointer (.some (.mk 0 0 .none)))), (72, (.chan (.some 9)))] []
noncomputable def rsources2_st13 : St := mkSt 3 [(0, (.cells [(.chan (.some 9)), (.chan (.some 10))] 23 .none .false)), (1, (.cells [(.chan (.some 11)), (.chan (.some 12))] 23 .none .false)), (2, (.lst 0 54 5))]
theorem rsources2_wf13 : rsources2_st13.Wf := mkSt_wf rfl
set_option maxRecDepth 1000000 in
theorem rsources2_id13 : agreeL [sy 0, sy 1, sy 2, sy 3, sy 4, sy 5, sy 6, sy 7, sy 8, sy 9, sy 10, sy 11, sy 12, sy 13, sy 14, sy 15] [0, 1, 2] [some 0] rsources2_fr13 rsources2_st13 rsources2_fr13 rsources2_st13 = true := by kernel_rfl

set_option maxRecDepth 1000000 in
theorem rsources2_r17 : ev Try.prog (env.symL [] [] [] []) 3000 (.code rsources2_b30 none rsources2_fr12 rsources2_st12 (stopL .normal [sy 0, sy 1, sy 2, sy 3, sy 4, sy 5, sy 6, sy 7, sy 8, sy 9, sy 10, sy 11, sy 12, sy 13, sy 14, sy 15] [0, 1, 2] [some 0] rsources2_fr13 rsources2_st13)) = some () := by kernel_rfl

noncomputable def rsources2_b32 : Code := inBlockC rsources2_b31

set_option maxRecDepth 1000000 in
theorem rsources2_q20 : rsources2_b31 = .block 4 rsources2_b32 := by kernel_rfl

noncomputable def rsources2_b33 : Code := inLoopC rsources2_b32

set_option maxRecDepth 1000000 in
theorem rsources2_q21 : rsources2_b32 = .loop rsources2_b33 := by kernel_rfl

noncomputable def rsources2_fr14 : Fr := mkFr Try.f22 [(1, (.chan (.some 8))), (6, (.pointer (.some (.mk 0 0 .none)))), (7, (.pointer (.some (.mk 1 0 .none)))), (8, (.slice .none 0 0)), (9, (iV (.ofNat 0))), (12, (.pointer (.some (.mk 2 16 (.some 2))))), (13, (.chan (.some 14))), (14, (.chan (.some 17))), (65, (.chan (.some 14))), (66, (.chan (.some 8))), (67, (.chan (.some 15))), (68, (.bool .true)), (71, (.pointer (.some (.mk 0 0 .none)))), (72, (.chan (.some 9)))] []
noncomputable def rsources2_st14 : St := mkSt 3 [(0, (.cells [(.chan (.some 9)), (.chan (.some 10))] 23 .none .false)), (1, (.cells [(.chan (.some 11)), (.chan (.some 12))] 23 .none .false)), (2, (.lst 1 54 5))]
theorem rsources2_wf14 : rsources2_st14.Wf := mkSt_wf rfl
set_option maxRecDepth 1000000 in
theorem rsources2_id14 : agreeL [sy 0, sy 1, sy 2, sy 3, sy 4, sy 5, sy 6, sy 7, sy 8, sy 9, sy 10, sy 11, sy 12, sy 13, sy 14, sy 15, sy 16, sy 17] [0, 1, 2] [some 0, some 1] rsources2_fr14 rsources2_st14 rsources2_fr14 rsources2_st14 = true := by kernel_rfl

set_option maxRecDepth 1000000 in
theorem rsources2_h22 : agreeL [(sy 0), (sy 1), (sy 2), (sy 3), (sy 4), (sy 5), (sy 6), (sy 7), (sy 8), (sy 9), (sy 10), (sy 11), (sy 12), (sy 13), (sy 14), (sy 15), (sy 13), (sy 9)] [0, 1, 2] [some 0, some 0] rsources2_fr14 rsources2_st14 rsources2_fr13 rsources2_st13 = true := by kernel_rfl

noncomputable def rsources2_e18 : List Ent := [⟨(.bin .leq 3), [(sy 17), (sy 10)], (.bool true)⟩, ⟨(.indexAddr 37), [(sy 8), (sy 14)], (sy 18)⟩, ⟨(.load 3), [(sy 18)], (sy 19)⟩, ⟨(.bin .add 3), [(sy 17), (iV 1)], (sy 21)⟩]
noncomputable def rsources2_c18 : List CEnt := []
noncomputable def rsources2_l18 : List LEnt := [(.grow 1 16 1 5 [(iV 1), (sy 19), (sy 17), (sy 11), (sy 12)] 2 20)]
noncomputable def rsources2_cl18 : List CLEnt := []

set_option maxRecDepth 1000000 in
theorem rsources2_r18 : ev Try.prog (env.symL rsources2_e18 rsources2_c18 rsources2_l18 rsources2_cl18) 3000 (.code rsources2_b33 none rsources2_fr14 rsources2_st14 (stopL .normal [(sy 0), (sy 1), (sy 2), (sy 3), (sy 4), (sy 5), (sy 6), (sy 7), (sy 8), (sy 9), (sy 10), (sy 11), (sy 12), (sy 13), (sy 14), (sy 15), (sy 20), (sy 21)] [0, 1, 4] [some 0, some 2] rsources2_fr14 rsources2_st14)) = some () := by kernel_rfl

noncomputable def rsources2_e19 : List Ent := [⟨(.bin .leq 3), [(sy 17), (sy 10)], (.bool false)⟩]
noncomputable def rsources2_c19 : List CEnt := []
noncomputable def rsources2_l19 : List LEnt := []
noncomputable def rsources2_cl19 : List CLEnt := []

noncomputable def rsources2_fr15 : Fr := mkFr Try.f22 [(1, (.chan (.some 8))), (6, (.pointer (.some (.mk 0 0 .none)))), (7, (.pointer (.some (.mk 1 0 .none)))), (8, (.slice .none 0 0)), (9, (iV (.ofNat 0))), (12, (.pointer (.some (.mk 2 16 (.some 2))))), (13, (.chan (.some 14))), (14, (.chan (.some 17))), (65, (.chan (.some 14))), (66, (.chan (.some 8))), (67, (.chan (.some 15))), (68, (.bool .true)), (71, (.pointer (.some (.mk 0 0 .none)))), (72, (.chan (.some 9))), (73, (.chan (.some 17))), (74, (.pointer (.some (.mk 0 1 .none)))), (75, (.chan (.some 10))), (76, (.bool .false))] []
noncomputable def rsources2_st15 : St := mkSt 3 [(0, (.cells [(.chan (.some 9)), (.chan (.some 10))] 23 .none .false)), (1, (.cells [(.chan (.some 11)), (.chan (.some 12))] 23 .none .false)), (2, (.lst 1 54 5))]
theorem rsources2_wf15 : rsources2_st15.Wf := mkSt_wf rfl
set_option maxRecDepth 1000000 in
theorem rsources2_id15 : agreeL [sy 0, sy 1, sy 2, sy 3, sy 4, sy 5, sy 6, sy 7, sy 8, sy 9, sy 10, sy 11, sy 12, sy 13, sy 14, sy 15, sy 16, sy 17] [0, 1, 2] [some 0, some 1] rsources2_fr15 rsources2_st15 rsources2_fr15 rsources2_st15 = true := by kernel_rfl

set_option maxRecDepth 1000000 in
theorem rsources2_r19 : ev Try.prog (env.symL rsources2_e19 rsources2_c19 rsources2_l19 rsources2_cl19) 3000 (.code rsources2_b33 none rsources2_fr14 rsources2_st14 (stopL (.exit 4) [sy 0, sy 1, sy 2, sy 3, sy 4, sy 5, sy 6, sy 7, sy 8, sy 9, sy 10, sy 11, sy 12, sy 13, sy 14, sy 15, sy 16, sy 17] [0, 1, 2] [some 0, some 1] rsources2_fr15 rsources2_st15)) = some () := by kernel_rfl

noncomputable def rsources2_e20 : List Ent := [⟨(.bin .add 3), [(sy 14), (iV 1)], (sy 18)⟩]
noncomputable def rsources2_c20 : List CEnt := []
noncomputable def rsources2_l20 : List LEnt := []
noncomputable def rsources2_cl20 : List CLEnt := []

set_option maxRecDepth 1000000 in
theorem rsources2_r20 : ev Try.prog (env.symL rsources2_e20 rsources2_c20 rsources2_l20 rsources2_cl20) 3000 (.code rsources2_b28 none rsources2_fr15 rsources2_st15 (stopL .normal [(sy 0), (sy 1), (sy 2), (sy 3), (sy 4), (sy 5), (sy 6), (sy 7), (sy 8), (sy 9), (sy 10), (sy 11), (sy 12), (sy 16), (sy 18)] [0, 1, 2] [some 1] rsources2_fr11 rsources2_st11)) = some () := by kernel_rfl

noncomputable def rsources2_e21 : List Ent := [⟨(.bi 0 [37]), [(sy 8)], (sy 15)⟩, ⟨(.bin .lss 3), [(sy 14), (sy 15)], (.bool false)⟩]
noncomputable def rsources2_c21 : List CEnt := []
noncomputable def rsources2_l21 : List LEnt := []
noncomputable def rsources2_cl21 : List CLEnt := []

noncomputable def rsources2_fr16 : Fr := mkFr Try.f22 [(8, (.slice .none 0 0)), (9, (iV (.ofNat 0))), (12, (.pointer (.some (.mk 0 13 (.some 2)))))] []
noncomputable def rsources2_st16 : St := mkSt 1 [(0, (.lst 0 54 5))]
theorem rsources2_wf16 : rsources2_st16.Wf := mkSt_wf rfl
set_option maxRecDepth 1000000 in
theorem rsources2_id16 : agreeL [sy 0, sy 1, sy 2, sy 3, sy 4, sy 5, sy 6, sy 7, sy 8, sy 9, sy 10, sy 11, sy 12, sy 13] [0] [some 0] rsources2_fr16 rsources2_st16 rsources2_fr16 rsources2_st16 = true := by kernel_rfl

set_option maxRecDepth 1000000 in
theorem rsources2_r21 : ev Try.prog (env.symL rsources2_e21 rsources2_c21 rsources2_l21 rsources2_cl21) 3000 (.code rsources2_b25 none rsources2_fr11 rsources2_st11 (stopL (.exit 2) [sy 0, sy 1, sy 2, sy 3, sy 4, sy 5, sy 6, sy 7, sy 8, sy 9, sy 10, sy 11, sy 12, sy 13] [2] [some 0] rsources2_fr16 rsources2_st16)) = some () := by kernel_rfl

set_option maxRecDepth 1000000 in
theorem rsources2_r22 : ev Try.prog (env.symL [] [] [] []) 3000 (.code rsources2_b20 none rsources2_fr16 rsources2_st16 (retK (env.symL [] [] [] []) Try.f22 (endL (.tuple #[(.pointer (some ⟨0, 13, some 2⟩)), (iV 0)]) 0 0 54 5))) = some () := by kernel_rfl

noncomputable def rsources2_e23 : List Ent := [⟨(.bin .leq 3), [(sy 9), (sy 10)], (.bool true)⟩, ⟨(.bin .geq 3), [(sy 9), (iV 1)], (.bool true)⟩, ⟨(.bin .leq 3), [(sy 10), (iV 10)], (.bool true)⟩, ⟨(.bin .leq 3), [(sy 11), (sy 12)], (.bool true)⟩, ⟨(.bin .geq 3), [(sy 11), (iV 0)], (.bool true)⟩, ⟨(.bin .leq 3), [(sy 12), (iV 1000000000)], (.bool false)⟩]
noncomputable def rsources2_c23 : List CEnt := []
noncomputable def rsources2_l23 : List LEnt := []
noncomputable def rsources2_cl23 : List CLEnt := []

set_option maxRecDepth 1000000 in
theorem rsources2_r23 : ev Try.prog (env.symL rsources2_e23 rsources2_c23 rsources2_l23 rsources2_cl23) 3000 (.code rsources2_b13 none rsources2_fr6 rsources2_st6 (stopRK (env.symL rsources2_e23 rsources2_c23 rsources2_l23 rsources2_cl23) Try.f22 (endV (.tuple #[(.slice .none 0 0), (iV 3)])))) = some () := by kernel_rfl

noncomputable def rsources2_e24 : List Ent := [⟨(.bin .leq 3), [(sy 9), (sy 10)], (.bool true)⟩, ⟨(.bin .geq 3), [(sy 9), (iV 1)], (.bool true)⟩, ⟨(.bin .leq 3), [(sy 10), (iV 10)], (.bool true)⟩, ⟨(.bin .leq 3), [(sy 11), (sy 12)], (.bool true)⟩, ⟨(.bin .geq 3), [(sy 11), (iV 0)], (.bool false)⟩]
noncomputable def rsources2_c24 : List CEnt := []
noncomputable def rsources2_l24 : List LEnt := []
noncomputable def rsources2_cl24 : List CLEnt := []

set_option maxRecDepth 1000000 in
theorem rsources2_r24 : ev Try.prog (env.symL rsources2_e24 rsources2_c24 rsources2_l24 rsources2_cl24) 3000 (.code rsources2_b13 none rsources2_fr6 rsources2_st6 (stopRK (env.symL rsources2_e24 rsources2_c24 rsources2_l24 rsources2_cl24) Try.f22 (endV (.tuple #[(.slice .none 0 0), (iV 3)])))) = some () := by kernel_rfl

noncomputable def rsources2_e25 : List Ent := [⟨(.bin .leq 3), [(sy 9), (sy 10)], (.bool true)⟩, ⟨(.bin .geq 3), [(sy 9), (iV 1)], (.bool true)⟩, ⟨(.bin .leq 3), [(sy 10), (iV 10)], (.bool true)⟩, ⟨(.bin .leq 3), [(sy 11), (sy 12)], (.bool false)⟩]
noncomputable def rsources2_c25 : List CEnt := []
noncomputable def rsources2_l25 : List LEnt := []
noncomputable def rsources2_cl25 : List CLEnt := []

set_option maxRecDepth 1000000 in
theorem rsources2_r25 : ev Try.prog (env.symL rsources2_e25 rsources2_c25 rsources2_l25 rsources2_cl25) 3000 (.code rsources2_b13 none rsources2_fr6 rsources2_st6 (stopRK (env.symL rsources2_e25 rsources2_c25 rsources2_l25 rsources2_cl25) Try.f22 (endV (.tuple #[(.slice .none 0 0), (iV 3)])))) = some () := by kernel_rfl

noncomputable def rsources2_e26 : List Ent := [⟨(.bin .leq 3), [(sy 9), (sy 10)], (.bool true)⟩, ⟨(.bin .geq 3), [(sy 9), (iV 1)], (.bool true)⟩, ⟨(.bin .leq 3), [(sy 10), (iV 10)], (.bool false)⟩]
noncomputable def rsources2_c26 : List CEnt := []
noncomputable def rsources2_l26 : List LEnt := []
noncomputable def rsources2_cl26 : List CLEnt := []

set_option maxRecDepth 1000000 in
theorem rsources2_r26 : ev Try.prog (env.symL rsources2_e26 rsources2_c26 rsources2_l26 rsources2_cl26) 3000 (.code rsources2_b13 none rsources2_fr6 rsources2_st6 (stopRK (env.symL rsources2_e26 rsources2_c26 rsources2_l26 rsources2_cl26) Try.f22 (endV (.tuple #[(.slice .none 0 0), (iV 3)])))) = some () := by kernel_rfl

noncomputable def rsources2_e27 : List Ent := [⟨(.bin .leq 3), [(sy 9), (sy 10)], (.bool true)⟩, ⟨(.bin .geq 3), [(sy 9), (iV 1)], (.bool false)⟩]
noncomputable def rsources2_c27 : List CEnt := []
noncomputable def rsources2_l27 : List LEnt := []
noncomputable def rsources2_cl27 : List CLEnt := []

set_option maxRecDepth 1000000 in
theorem rsources2_r27 : ev Try.prog (env.symL rsources2_e27 rsources2_c27 rsources2_l27 rsources2_cl27) 3000 (.code rsources2_b13 none rsources2_fr6 rsources2_st6 (stopRK (env.symL rsources2_e27 rsources2_c27 rsources2_l27 rsources2_cl27) Try.f22 (endV (.tuple #[(.slice .none 0 0), (iV 3)])))) = some () := by kernel_rfl

noncomputable def rsources2_e28 : List Ent := [⟨(.bin .leq 3), [(sy 9), (sy 10)], (.bool false)⟩]
noncomputable def rsources2_c28 : List CEnt := []
noncomputable def rsources2_l28 : List LEnt := []
noncomputable def rsources2_cl28 : List CLEnt := []

set_option maxRecDepth 1000000 in
theorem rsources2_r28 : ev Try.prog (env.symL rsources2_e28 rsources2_c28 rsources2_l28 rsources2_cl28) 3000 (.code rsources2_b13 none rsources2_fr6 rsources2_st6 (stopRK (env.symL rsources2_e28 rsources2_c28 rsources2_l28 rsources2_cl28) Try.f22 (endV (.tuple #[(.slice .none 0 0), (iV 3)])))) = some () := by kernel_rfl

set_option maxHeartbeats 8000000 in
set_option maxRecDepth 100000 in
theorem rsources2_any (x0 : Int) (x1 : Int) (x2 : Int) (x3 : Int) (x4 : Int) (x5 : Int) (x6 : Int) (x7 : Int) (al : Option Addr) (l : List Int) (ql : Nat) (k0 k1 t0 t1 : Int) (w0 : World) {tl : TypeId} (Hl : Lies w0 tl (flat intC l) al l.length) (hn : l.length < 100000) : Calls Try.prog 22 #[(.agg #[(iV x0), (iV x1), (iV x2), (iV x3), (iV x4), (iV x5), (iV x6), (iV x7)]), (.slice al l.length ql), (.agg #[(iV k0), (iV k1)]), (.agg #[(iV t0), (iV t1)])] w0 (fun en w' => ∃ a C, en = .returned (.tuple #[.slice a (sourcesL x0 x1 x2 x3 x4 x5 x6 x7 l k0 k1 t0 t1).length C, iV (sourcesE x0 x1 x2 x3 x4 x5 x6 x7 l k0 k1 t0 t1)]) ∧ NewList w0 w' 54 5 (flat srcC (sourcesL x0 x1 x2 x3 x4 x5 x6 x7 l k0 k1 t0 t1)) a (sourcesL x0 x1 x2 x3 x4 x5 x6 x7 l k0 k1 t0 t1).length C ∧ Below w0.heap.size w0 w') := by
  refine @calls_of_body (Rho.of [(iV x0), (iV x1), (iV x2), (iV x3), (iV x4), (iV x5), (iV x6), (iV x7), (.slice al l.length ql), (iV k0), (iV k1), (iV t0), (iV t1)] (fun b => w0.heap[b]?) []) Try.prog env (@env_ok (Rho.of [(iV x0), (iV x1), (iV x2), (iV x3), (iV x4), (iV x5), (iV x6), (iV x7), (.slice al l.length ql), (iV k0), (iV k1), (iV t0), (iV t1)] (fun b => w0.heap[b]?) [])) 22 Try.f22 rsources2_b0 [(.agg #[(.chan (.some 0)), (.chan (.some 1)), (.chan (.some 2)), (.chan (.some 3)), (.chan (.some 4)), (.chan (.some 5)), (.chan (.some 6)), (.chan (.some 7))]), (.chan (.some 8)), (.agg #[(.chan (.some 9)), (.chan (.some 10))]), (.agg #[(.chan (.some 11)), (.chan (.some 12))])] w0 _ (by kernel_rfl) (by kernel_rfl) (of_decide_eq_true (by kernel_rfl)) (of_decide_eq_true (by kernel_rfl)) rfl (fun _ _ h => h) (fun a hat0 => ?_)
  have hat : @At (Rho.of [(iV x0), (iV x1), (iV x2), (iV x3), (iV x4), (iV x5), (iV x6), (iV x7), (.slice al l.length ql), (iV k0), (iV k1), (iV t0), (iV t1)] (fun b => w0.heap[b]?) []) w0 rsources2_fr0 rsources2_st0 a w0 := At.shiftL (σ := [sy 0, sy 1, sy 2, sy 3, sy 4, sy 5, sy 6, sy 7, sy 8, sy 9, sy 10, sy 11, sy 12]) (π := []) (τ := []) ⟨rfl, rfl, rfl, rfl, rfl, rfl, rfl, rfl, rfl, rfl, rfl, rfl, rfl, rfl, rfl, rfl, rfl, rfl, rfl, rfl, rfl, rfl, rfl, rfl, rfl, rfl, trivial⟩ trivial (fun _ _ h => h) rsources2_wf0 rsources2_a0 hat0
  clear hat0
  suffices key : ∀ w, @At (Rho.of [(iV x0), (iV x1), (iV x2), (iV x3), (iV x4), (iV x5), (iV x6), (iV x7), (.slice al l.length ql), (iV k0), (iV k1), (iV t0), (iV t1)] (fun b => w0.heap[b]?) []) w0 rsources2_fr0 rsources2_st0 a w → rsources2_b0.wpIn (FF none) 0 Try.prog (bodyPostM Fence.wide 0 Try.prog Try.f22 (fun en w' => ∃ a C, en = .returned (.tuple #[.slice a (sourcesL x0 x1 x2 x3 x4 x5 x6 x7 l k0 k1 t0 t1).length C, iV (sourcesE x0 x1 x2 x3 x4 x5 x6 x7 l k0 k1 t0 t1)]) ∧ NewList w0 w' 54 5 (flat srcC (sourcesL x0 x1 x2 x3 x4 x5 x6 x7 l k0 k1 t0 t1)) a (sourcesL x0 x1 x2 x3 x4 x5 x6 x7 l k0 k1 t0 t1).length C ∧ Below w0.heap.size w0 w')) a w from key w0 hat
  clear hat
  intro w hat
  let p0 : Rho := (Rho.of [(iV x0), (iV x1), (iV x2), (iV x3), (iV x4), (iV x5), (iV x6), (iV x7), (.slice al l.length ql), (iV k0), (iV k1), (iV t0), (iV t1)] (fun b => w0.heap[b]?) [])
  change @At p0 w0 rsources2_fr0 rsources2_st0 a w at hat
  refine g_seq rsources2_q0 ?_
  let r0 : Rho := (Rho.of [(iV x0), (iV x1), (iV x2), (iV x3), (iV x4), (iV x5), (iV x6), (iV x7), (.slice al l.length ql), (iV k0), (iV k1), (iV t0), (iV t1)] (fun b => w0.heap[b]?) [])
  have hat1 : @At r0 w0 rsources2_fr0 rsources2_st0 a w := At.shiftL (ρ1 := p0) (ρ2 := r0) (σ := [sy 0, sy 1, sy 2, sy 3, sy 4, sy 5, sy 6, sy 7, sy 8, sy 9, sy 10, sy 11, sy 12]) (π := []) (τ := []) ⟨rfl, rfl, rfl, rfl, rfl, rfl, rfl, rfl, rfl, rfl, rfl, rfl, rfl, rfl, rfl, rfl, rfl, rfl, rfl, rfl, rfl, rfl, rfl, rfl, rfl, rfl, trivial⟩ trivial (fun _ _ h => h) rsources2_wf0 rsources2_id0 hat
  let p1 : Rho := (Rho.of [(iV x0), (iV x1), (iV x2), (iV x3), (iV x4), (iV x5), (iV x6), (iV x7), (.slice al l.length ql), (iV k0), (iV k1), (iV t0), (iV t1)] (fun b => w0.heap[b]?) [])
  refine At.pieceL (ρ1 := r0) (ρ2 := p1) (@Env.Ok.symL r0 _ _ (@env_ok r0) [] [] [] [] trivial trivial trivial trivial) rsources2_r0 ⟨rfl, rfl, rfl, rfl, rfl, rfl, rfl, rfl, rfl, rfl, rfl, rfl, rfl, rfl, rfl, rfl, rfl, rfl, rfl, rfl, rfl, rfl, rfl, rfl, rfl, rfl, trivial⟩ trivial (fun _ _ h => h) rsources2_wf0 rsources2_wf1 hat1 (fun a w hat => .inl ⟨rfl, ?_⟩)
  refine g_seq rsources2_q1 ?_
  let r1 : Rho := (Rho.of [(iV x0), (iV x1), (iV x2), (iV x3), (iV x4), (iV x5), (iV x6), (iV x7), (.slice al l.length ql), (iV k0), (iV k1), (iV t0), (iV t1), (iV ((qcheck0 (x0) (x1) (x2) (x3) (x4) (x5) (x6) (x7))))] (fun b => w0.heap[b]?) [])
  have hat1 : @At r1 w0 rsources2_fr1 rsources2_st1 a w := At.shiftL (ρ1 := p1) (ρ2 := r1) (σ := [sy 0, sy 1, sy 2, sy 3, sy 4, sy 5, sy 6, sy 7, sy 8, sy 9, sy 10, sy 11, sy 12]) (π := [0, 1, 2]) (τ := []) ⟨rfl, rfl, rfl, rfl, rfl, rfl, rfl, rfl, rfl, rfl, rfl, rfl, rfl, rfl, rfl, rfl, rfl, rfl, rfl, rfl, rfl, rfl, rfl, rfl, rfl, rfl, trivial⟩ trivial (fun _ _ h => h) rsources2_wf1 rsources2_id1 hat
  let p2 : Rho := (Rho.of [(iV x0), (iV x1), (iV x2), (iV x3), (iV x4), (iV x5), (iV x6), (iV x7), (.slice al l.length ql), (iV k0), (iV k1), (iV t0), (iV t1), (iV ((qcheck0 (x0) (x1) (x2) (x3) (x4) (x5) (x6) (x7))))] (fun b => w0.heap[b]?) [])
  refine At.pieceL (ρ1 := r1) (ρ2 := p2) (@Env.Ok.symL r1 _ _ (@env_ok r1) rsources2_e1 rsources2_c1 rsources2_l1 rsources2_cl1 trivial ⟨(@CEntOk.of r1 Try.prog _ 19 [(.agg #[(sy 0), (sy 1), (sy 2), (sy 3), (sy 4), (sy 5), (sy 6), (sy 7)])] (sy 13) #[(.agg #[(iV x0), (iV x1), (iV x2), (iV x3), (iV x4), (iV x5), (iV x6), (iV x7)])] (iV ((qcheck0 (x0) (x1) (x2) (x3) (x4) (x5) (x6) (x7)))) rfl ⟨Try.f19, (Try.f19.body).getD .skip, by kernel_rfl, by kernel_rfl⟩ rfl rfl rfl (fun w hm => rcheckq_any (x0) (x1) (x2) (x3) (x4) (x5) (x6) (x7) w  )), trivial⟩ trivial trivial) rsources2_r1 ⟨rfl, rfl, rfl, rfl, rfl, rfl, rfl, rfl, rfl, rfl, rfl, rfl, rfl, rfl, rfl, rfl, rfl, rfl, rfl, rfl, rfl, rfl, rfl, rfl, rfl, rfl, rfl, rfl, trivial⟩ trivial (fun _ _ h => h) rsources2_wf1 rsources2_wf2 hat1 (fun a w hat => .inl ⟨rfl, ?_⟩)
  refine g_seq rsources2_q2 ?_
  by_cases c0 : (qcheck0 (x0) (x1) (x2) (x3) (x4) (x5) (x6) (x7)) ≠ 0
  · let r2 : Rho := (Rho.of [(iV x0), (iV x1), (iV x2), (iV x3), (iV x4), (iV x5), (iV x6), (iV x7), (.slice al l.length ql), (iV k0), (iV k1), (iV t0), (iV t1), (iV ((qcheck0 (x0) (x1) (x2) (x3) (x4) (x5) (x6) (x7))))] (fun b => w0.heap[b]?) [])
    have hat1 : @At r2 w0 rsources2_fr2 rsources2_st2 a w := At.shiftL (ρ1 := p2) (ρ2 := r2) (σ := [sy 0, sy 1, sy 2, sy 3, sy 4, sy 5, sy 6, sy 7, sy 8, sy 9, sy 10, sy 11, sy 12, sy 13]) (π := [0, 1, 2]) (τ := []) ⟨rfl, rfl, rfl, rfl, rfl, rfl, rfl, rfl, rfl, rfl, rfl, rfl, rfl, rfl, rfl, rfl, rfl, rfl, rfl, rfl, rfl, rfl, rfl, rfl, rfl, rfl, rfl, rfl, trivial⟩ trivial (fun _ _ h => h) rsources2_wf2 rsources2_id2 hat
    refine @At.retGK r2 Try.prog (env.symL rsources2_e2 rsources2_c2 rsources2_l2 rsources2_cl2) (@Env.Ok.symL r2 _ _ (@env_ok r2) rsources2_e2 rsources2_c2 rsources2_l2 rsources2_cl2 ⟨⟨rfl, rfl, fun w hm => (show KO w (.bin .neq 27) [(iV ((qcheck0 (x0) (x1) (x2) (x3) (x4) (x5) (x6) (x7)))), (iV 0)] (.bool true) from k_neq_t c0)⟩, trivial⟩ trivial trivial trivial) w0 3000 rsources2_b5 Try.f22 rsources2_fr2 rsources2_st2 _ _ rsources2_r2 rsources2_wf2 a w hat1 (@endV_ok r2 w0 (.tuple #[(.slice .none 0 0), (sy 13)]) (fun en w' => ∃ a C, en = .returned (.tuple #[.slice a (sourcesL x0 x1 x2 x3 x4 x5 x6 x7 l k0 k1 t0 t1).length C, iV (sourcesE x0 x1 x2 x3 x4 x5 x6 x7 l k0 k1 t0 t1)]) ∧ NewList w0 w' 54 5 (flat srcC (sourcesL x0 x1 x2 x3 x4 x5 x6 x7 l k0 k1 t0 t1)) a (sourcesL x0 x1 x2 x3 x4 x5 x6 x7 l k0 k1 t0 t1).length C ∧ Below w0.heap.size w0 w') rfl (fun w2 hb => ?_)) _ (fun a w h => .inr ⟨(fun q => nomatch q), h⟩)
    have v0 : ((qcheck0 (x0) (x1) (x2) (x3) (x4) (x5) (x6) (x7)) : Int) = sourcesE x0 x1 x2 x3 x4 x5 x6 x7 l k0 k1 t0 t1 := by
      unfold sourcesE
      first
        | (rw [if_pos (by omega)] <;> omega)
        | (rw [if_neg (by omega), if_pos (by omega)] <;> omega)
        | (rw [if_neg (by omega), if_neg (by omega), if_pos (by omega)])
        | (rw [if_neg (by omega), if_neg (by omega), if_neg (by omega), if_pos (by omega)])
        | (rw [if_neg (by omega), if_neg (by omega), if_neg (by omega), if_neg (by omega)])
    have hL : [] = sourcesL x0 x1 x2 x3 x4 x5 x6 x7 l k0 k1 t0 t1 := by
      unfold sourcesL
      first
        | (have hE : ¬ sourcesE x0 x1 x2 x3 x4 x5 x6 x7 l k0 k1 t0 t1 = 0 := by omega
           rw [if_neg hE])
        | (have hE : sourcesE x0 x1 x2 x3 x4 x5 x6 x7 l k0 k1 t0 t1 = 0 := by omega
           rw [if_pos hE, i3, show i.toNat = l.length by omega, List.take_length])
    have hN : (sourcesL x0 x1 x2 x3 x4 x5 x6 x7 l k0 k1 t0 t1).length = 0 := by rw [← hL]; rfl
    refine ⟨none, 0, ?_, ⟨?_, .inl ⟨rfl, hN, rfl⟩⟩, hb⟩
    · rw [hN]; exact congrArg Ending.returned (congrArg (fun (y0 : Int) => (.tuple #[.slice none 0 0, iV y0] : Value)) v0)
    · rw [← hL]; rfl
  · have hv := qcheck_ok (x0 := x0) (x1 := x1) (x2 := x2) (x3 := x3) (x4 := x4) (x5 := x5) (x6 := x6) (x7 := x7) (by omega)
    obtain ⟨v0, v1, v2, v3, v5, v7⟩ := hv
    have hx := mul_bd (a := x0) (b := x1) (A := 24) (B := 24) (C := 576) (by omega) (by omega) (by omega) (by omega)
    let r3 : Rho := (Rho.of [(iV x0), (iV x1), (iV x2), (iV x3), (iV x4), (iV x5), (iV x6), (iV x7), (.slice al l.length ql), (iV k0), (iV k1), (iV t0), (iV t1), (iV ((qcheck0 (x0) (x1) (x2) (x3) (x4) (x5) (x6) (x7))))] (fun b => w0.heap[b]?) [])
    have hat1 : @At r3 w0 rsources2_fr2 rsources2_st2 a w := At.shiftL (ρ1 := p2) (ρ2 := r3) (σ := [sy 0, sy 1, sy 2, sy 3, sy 4, sy 5, sy 6, sy 7, sy 8, sy 9, sy 10, sy 11, sy 12, sy 13]) (π := [0, 1, 2]) (τ := []) ⟨rfl, rfl, rfl, rfl, rfl, rfl, rfl, rfl, rfl, rfl, rfl, rfl, rfl, rfl, rfl, rfl, rfl, rfl, rfl, rfl, rfl, rfl, rfl, rfl, rfl, rfl, rfl, rfl, trivial⟩ trivial (fun _ _ h => h) rsources2_wf2 rsources2_id2 hat
    let p3 : Rho := (Rho.of [(iV x0), (iV x1), (iV x2), (iV x3), (iV x4), (iV x5), (iV x6), (iV x7), (.slice al l.length ql), (iV k0), (iV k1), (iV t0), (iV t1)] (fun b => w0.heap[b]?) [])
    refine At.pieceL (ρ1 := r3) (ρ2 := p3) (@Env.Ok.symL r3 _ _ (@env_ok r3) rsources2_e3 rsources2_c3 rsources2_l3 rsources2_cl3 ⟨⟨rfl, rfl, fun w hm => (show KO w (.bin .neq 27) [(iV ((qcheck0 (x0) (x1) (x2) (x3) (x4) (x5) (x6) (x7)))), (iV 0)] (.bool false) from k_neq_f c0)⟩, trivial⟩ trivial trivial trivial) rsources2_r3 ⟨rfl, rfl, rfl, rfl, rfl, rfl, rfl, rfl, rfl, rfl, rfl, rfl, rfl, rfl, rfl, rfl, rfl, rfl, rfl, rfl, rfl, rfl, rfl, rfl, rfl, rfl, trivial⟩ trivial (fun _ _ h => h) rsources2_wf2 rsources2_wf3 hat1 (fun a w hat => .inl ⟨rfl, ?_⟩)
    refine g_seq rsources2_q3 ?_
    refine g_seq rsources2_q4 ?_
    let r4 : Rho := (Rho.of [(iV x0), (iV x1), (iV x2), (iV x3), (iV x4), (iV x5), (iV x6), (iV x7), (.slice al l.length ql), (iV k0), (iV k1), (iV t0), (iV t1)] (fun b => w0.heap[b]?) [])
    have hat1 : @At r4 w0 rsources2_fr3 rsources2_st3 a w := At.shiftL (ρ1 := p3) (ρ2 := r4) (σ := [sy 0, sy 1, sy 2, sy 3, sy 4, sy 5, sy 6, sy 7, sy 8, sy 9, sy 10, sy 11, sy 12]) (π := [0, 1, 2]) (τ := []) ⟨rfl, rfl, rfl, rfl, rfl, rfl, rfl, rfl, rfl, rfl, rfl, rfl, rfl, rfl, rfl, rfl, rfl, rfl, rfl, rfl, rfl, rfl, rfl, rfl, rfl, rfl, trivial⟩ trivial (fun _ _ h => h) rsources2_wf3 rsources2_id3 hat
    let p4 : Rho := (Rho.of [(iV x0), (iV x1), (iV x2), (iV x3), (iV x4), (iV x5), (iV x6), (iV x7), (.slice al l.length ql), (iV k0), (iV k1), (iV t0), (iV t1)] (fun b => w0.heap[b]?) [])
    refine At.pieceL (ρ1 := r4) (ρ2 := p4) (@Env.Ok.symL r4 _ _ (@env_ok r4) [] [] [] [] trivial trivial trivial trivial) rsources2_r4 ⟨rfl, rfl, rfl, rfl, rfl, rfl, rfl, rfl, rfl, rfl, rfl, rfl, rfl, rfl, rfl, rfl, rfl, rfl, rfl, rfl, rfl, rfl, rfl, rfl, rfl, rfl, trivial⟩ trivial (fun _ _ h => h) rsources2_wf3 rsources2_wf4 hat1 (fun a w hat => .inl ⟨rfl, ?_⟩)
    refine g_block rsources2_q5 ?_
    have hat0 := At.shiftL (ρ1 := p4) (ρ2 := (Rho.of [(iV x0), (iV x1), (iV x2), (iV x3), (iV x4), (iV x5), (iV x6), (iV x7), (.slice al l.length ql), (iV k0), (iV k1), (iV t0), (iV t1), (iV ((0 : Int)))] (fun b => w0.heap[b]?) [])) (σ := [(sy 0), (sy 1), (sy 2), (sy 3), (sy 4), (sy 5), (sy 6), (sy 7), (sy 8), (sy 9), (sy 10), (sy 11), (sy 12), (iV 0)]) (π := [0, 1, 2]) (τ := []) ⟨rfl, rfl, rfl, rfl, rfl, rfl, rfl, rfl, rfl, rfl, rfl, rfl, rfl, rfl, rfl, rfl, rfl, rfl, rfl, rfl, rfl, rfl, rfl, rfl, rfl, rfl, rfl, rfl, trivial⟩ trivial (fun _ _ h => h) rsources2_wf5 rsources2_h7 hat
    clear hat
    refine g_loop (fun (x : Int) a w => (0 ≤ (x : Int) ∧ (x : Int) ≤ l.length ∧ (∀ k : Nat, (k : Int) < (x : Int) → ascAt (x0 * x1) l k = 0)) ∧ @At (Rho.of [(iV x0), (iV x1), (iV x2), (iV x3), (iV x4), (iV x5), (iV x6), (iV x7), (.slice al l.length ql), (iV k0), (iV k1), (iV t0), (iV t1), (iV ((x : Int)))] (fun b => w0.heap[b]?) []) w0 rsources2_fr5 rsources2_st5 a w) (fun x => (l.length - (x : Int)).toNat) rsources2_q6 ?_ (0) ⟨?_, hat0⟩
    · clear hat0
      rintro i a w ⟨hinv, hat⟩
      change 0 ≤ i ∧ i ≤ l.length ∧ (∀ k : Nat, (k : Int) < i → ascAt (x0 * x1) l k = 0) at hinv
      let p5 : Rho := (Rho.of [(iV x0), (iV x1), (iV x2), (iV x3), (iV x4), (iV x5), (iV x6), (iV x7), (.slice al l.length ql), (iV k0), (iV k1), (iV t0), (iV t1), (iV i)] (fun b => w0.heap[b]?) [])
      change @At p5 w0 rsources2_fr5 rsources2_st5 a w at hat
      obtain ⟨i0, i1, i2⟩ := hinv
      by_cases c1 : i < ((l.length : Nat) : Int)
      · obtain ⟨z2, hz2⟩ : ∃ z : Int, z = l.getD (i).toNat 0 := ⟨_, rfl⟩
        by_cases c3 : z2 ≥ 0
        · by_cases c4 : z2 ≤ ((x0 * x1) - 1)
          · by_cases c5 : i > 0
            · obtain ⟨z6, hz6⟩ : ∃ z : Int, z = l.getD ((i - 1)).toNat 0 := ⟨_, rfl⟩
              by_cases c7 : z2 ≤ z6
              · let r5 : Rho := (Rho.of [(iV x0), (iV x1), (iV x2), (iV x3), (iV x4), (iV x5), (iV x6), (iV x7), (.slice al l.length ql), (iV k0), (iV k1), (iV t0), (iV t1), (iV i), (iV (((l.length : Nat) : Int))), (.pointer (ptrO al ((i).toNat * 1))), (iV z2), (iV ((x0 * x1))), (iV (((x0 * x1) - 1))), (iV ((i - 1))), (.pointer (ptrO al (((i - 1)).toNat * 1))), (iV z6)] (fun b => w0.heap[b]?) [])
                have hat1 : @At r5 w0 rsources2_fr5 rsources2_st5 a w := At.shiftL (ρ1 := p5) (ρ2 := r5) (σ := [sy 0, sy 1, sy 2, sy 3, sy 4, sy 5, sy 6, sy 7, sy 8, sy 9, sy 10, sy 11, sy 12, sy 13]) (π := [0, 1, 2]) (τ := []) ⟨rfl, rfl, rfl, rfl, rfl, rfl, rfl, rfl, rfl, rfl, rfl, rfl, rfl, rfl, rfl, rfl, rfl, rfl, rfl, rfl, rfl, rfl, rfl, rfl, rfl, rfl, rfl, rfl, trivial⟩ trivial (fun _ _ h => h) rsources2_wf5 rsources2_id5 hat
                refine @At.retGK r5 Try.prog (env.symL rsources2_e5 rsources2_c5 rsources2_l5 rsources2_cl5) (@Env.Ok.symL r5 _ _ (@env_ok r5) rsources2_e5 rsources2_c5 rsources2_l5 rsources2_cl5 ⟨⟨rfl, rfl, fun w hm => (show KO w (.bi 0 [37]) [(.slice al l.length ql)] (iV (((l.length : Nat) : Int))) from k_len Try.underlying37)⟩, ⟨rfl, rfl, fun w hm => (show KO w (.bin .lss 3) [(iV i), (iV (((l.length : Nat) : Int)))] (.bool true) from k_lss_t c1)⟩, ⟨rfl, rfl, fun w hm => (show KO w (.indexAddr 37) [(.slice al l.length ql), (iV i)] (.pointer (ptrO al ((i).toNat * 1))) from l_index (Hl.keep hm) Try.underlying37 (by kernel_rfl) (by omega) (by omega))⟩, ⟨rfl, rfl, fun w hm => (show KO w (.load 3) [(.pointer (ptrO al ((i).toNat * 1)))] (iV z2) from l_load (Hl.keep hm) (by omega) Try.underlying3 rfl (flat_getz (c := intC) (sz := 1) (fun _ => rfl) hz2 (by omega) 0 _ rfl))⟩, ⟨rfl, rfl, fun w hm => (show KO w (.bin .mul 3) [(iV x0), (iV x1)] (iV ((x0 * x1))) from k_mul (wrap64 (by have := mul_bd (a := x0) (b := x1) (A := 100000) (B := 576) (by omega) (by omega) (by omega) (by omega); omega)))⟩, ⟨rfl, rfl, fun w hm => (show KO w (.bin .sub 3) [(iV ((x0 * x1))), (iV 1)] (iV (((x0 * x1) - 1))) from k_sub (wrap64 (by omega)))⟩, ⟨rfl, rfl, fun w hm => (show KO w (.bin .geq 3) [(iV z2), (iV 0)] (.bool true) from k_geq_t c3)⟩, ⟨rfl, rfl, fun w hm => (show KO w (.bin .leq 3) [(iV z2), (iV (((x0 * x1) - 1)))] (.bool true) from k_leq_t c4)⟩, ⟨rfl, rfl, fun w hm => (show KO w (.bin .gtr 3) [(iV i), (iV 0)] (.bool true) from k_gtr_t c5)⟩, ⟨rfl, rfl, fun w hm => (show KO w (.bin .sub 3) [(iV i), (iV 1)] (iV ((i - 1))) from k_sub (wrap64 (by omega)))⟩, ⟨rfl, rfl, fun w hm => (show KO w (.indexAddr 37) [(.slice al l.length ql), (iV ((i - 1)))] (.pointer (ptrO al (((i - 1)).toNat * 1))) from l_index (Hl.keep hm) Try.underlying37 (by kernel_rfl) (by omega) (by omega))⟩, ⟨rfl, rfl, fun w hm => (show KO w (.load 3) [(.pointer (ptrO al (((i - 1)).toNat * 1)))] (iV z6) from l_load (Hl.keep hm) (by omega) Try.underlying3 rfl (flat_getz (c := intC) (sz := 1) (fun _ => rfl) hz6 (by omega) 0 _ rfl))⟩, ⟨rfl, rfl, fun w hm => (show KO w (.bin .leq 3) [(iV z2), (iV z6)] (.bool true) from k_leq_t c7)⟩, trivial⟩ trivial trivial trivial) w0 3000 rsources2_b12 Try.f22 rsources2_fr5 rsources2_st5 _ _ rsources2_r5 rsources2_wf5 a w hat1 (@endV_ok r5 w0 (.tuple #[(.slice .none 0 0), (iV 2)]) (fun en w' => ∃ a C, en = .returned (.tuple #[.slice a (sourcesL x0 x1 x2 x3 x4 x5 x6 x7 l k0 k1 t0 t1).length C, iV (sourcesE x0 x1 x2 x3 x4 x5 x6 x7 l k0 k1 t0 t1)]) ∧ NewList w0 w' 54 5 (flat srcC (sourcesL x0 x1 x2 x3 x4 x5 x6 x7 l k0 k1 t0 t1)) a (sourcesL x0 x1 x2 x3 x4 x5 x6 x7 l k0 k1 t0 t1).length C ∧ Below w0.heap.size w0 w') rfl (fun w2 hb => ?_)) _ (fun a w h => .inr ⟨.inr rfl, .inr ⟨(fun q => nomatch q), .inr ⟨(fun q => nomatch q), h⟩⟩⟩)
                have v0 : (2 : Int) = sourcesE x0 x1 x2 x3 x4 x5 x6 x7 l k0 k1 t0 t1 := by
                  have hs : ascAt (x0 * x1) l i.toNat = 2 := by
                    unfold ascAt
                    repeat' split
                    all_goals simp_all
                    all_goals omega
                  have ha : ascErr (x0 * x1) l = 2 := by rw [asc_at (i := i.toNat) (by omega) (fun k hk => i2 k (by omega)) (by omega)]; exact hs
                  unfold sourcesE
                  rw [if_neg (by omega), if_pos (by omega)] <;> omega
                have hL : [] = sourcesL x0 x1 x2 x3 x4 x5 x6 x7 l k0 k1 t0 t1 := by
                  unfold sourcesL
                  first
                    | (have hE : ¬ sourcesE x0 x1 x2 x3 x4 x5 x6 x7 l k0 k1 t0 t1 = 0 := by omega
                       rw [if_neg hE])
                    | (have hE : sourcesE x0 x1 x2 x3 x4 x5 x6 x7 l k0 k1 t0 t1 = 0 := by omega
                       rw [if_pos hE, i3, show i.toNat = l.length by omega, List.take_length])
                have hN : (sourcesL x0 x1 x2 x3 x4 x5 x6 x7 l k0 k1 t0 t1).length = 0 := by rw [← hL]; rfl
                refine ⟨none, 0, ?_, ⟨?_, .inl ⟨rfl, hN, rfl⟩⟩, hb⟩
                · rw [hN]; exact congrArg Ending.returned (congrArg (fun (y0 : Int) => (.tuple #[.slice none 0 0, iV y0] : Value)) v0)
                · rw [← hL]; rfl
              · let r6 : Rho := (Rho.of [(iV x0), (iV x1), (iV x2), (iV x3), (iV x4), (iV x5), (iV x6), (iV x7), (.slice al l.length ql), (iV k0), (iV k1), (iV t0), (iV t1), (iV i), (iV (((l.length : Nat) : Int))), (.pointer (ptrO al ((i).toNat * 1))), (iV z2), (iV ((x0 * x1))), (iV (((x0 * x1) - 1))), (iV ((i - 1))), (.pointer (ptrO al (((i - 1)).toNat * 1))), (iV z6), (iV ((i + 1)))] (fun b => w0.heap[b]?) [])
                have hat1 : @At r6 w0 rsources2_fr5 rsources2_st5 a w := At.shiftL (ρ1 := p5) (ρ2 := r6) (σ := [sy 0, sy 1, sy 2, sy 3, sy 4, sy 5, sy 6, sy 7, sy 8, sy 9, sy 10, sy 11, sy 12, sy 13]) (π := [0, 1, 2]) (τ := []) ⟨rfl, rfl, rfl, rfl, rfl, rfl, rfl, rfl, rfl, rfl, rfl, rfl, rfl, rfl, rfl, rfl, rfl, rfl, rfl, rfl, rfl, rfl, rfl, rfl, rfl, rfl, rfl, rfl, trivial⟩ trivial (fun _ _ h => h) rsources2_wf5 rsources2_id5 hat
                refine At.pieceL (ρ1 := r6) (ρ2 := (Rho.of [(iV x0), (iV x1), (iV x2), (iV x3), (iV x4), (iV x5), (iV x6), (iV x7), (.slice al l.length ql), (iV k0), (iV k1), (iV t0), (iV t1), (iV (((i + 1) : Int)))] (fun b => w0.heap[b]?) [])) (@Env.Ok.symL r6 _ _ (@env_ok r6) rsources2_e6 rsources2_c6 rsources2_l6 rsources2_cl6 ⟨⟨rfl, rfl, fun w hm => (show KO w (.bi 0 [37]) [(.slice al l.length ql)] (iV (((l.length : Nat) : Int))) from k_len Try.underlying37)⟩, ⟨rfl, rfl, fun w hm => (show KO w (.bin .lss 3) [(iV i), (iV (((l.length : Nat) : Int)))] (.bool true) from k_lss_t c1)⟩, ⟨rfl, rfl, fun w hm => (show KO w (.indexAddr 37) [(.slice al l.length ql), (iV i)] (.pointer (ptrO al ((i).toNat * 1))) from l_index (Hl.keep hm) Try.underlying37 (by kernel_rfl) (by omega) (by omega))⟩, ⟨rfl, rfl, fun w hm => (show KO w (.load 3) [(.pointer (ptrO al ((i).toNat * 1)))] (iV z2) from l_load (Hl.keep hm) (by omega) Try.underlying3 rfl (flat_getz (c := intC) (sz := 1) (fun _ => rfl) hz2 (by omega) 0 _ rfl))⟩, ⟨rfl, rfl, fun w hm => (show KO w (.bin .mul 3) [(iV x0), (iV x1)] (iV ((x0 * x1))) from k_mul (wrap64 (by have := mul_bd (a := x0) (b := x1) (A := 100000) (B := 576) (by omega) (by omega) (by omega) (by omega); omega)))⟩, ⟨rfl, rfl, fun w hm => (show KO w (.bin .sub 3) [(iV ((x0 * x1))), (iV 1)] (iV (((x0 * x1) - 1))) from k_sub (wrap64 (by omega)))⟩, ⟨rfl, rfl, fun w hm => (show KO w (.bin .geq 3) [(iV z2), (iV 0)] (.bool true) from k_geq_t c3)⟩, ⟨rfl, rfl, fun w hm => (show KO w (.bin .leq 3) [(iV z2), (iV (((x0 * x1) - 1)))] (.bool true) from k_leq_t c4)⟩, ⟨rfl, rfl, fun w hm => (show KO w (.bin .gtr 3) [(iV i), (iV 0)] (.bool true) from k_gtr_t c5)⟩, ⟨rfl, rfl, fun w hm => (show KO w (.bin .sub 3) [(iV i), (iV 1)] (iV ((i - 1))) from k_sub (wrap64 (by omega)))⟩, ⟨rfl, rfl, fun w hm => (show KO w (.indexAddr 37) [(.slice al l.length ql), (iV ((i - 1)))] (.pointer (ptrO al (((i - 1)).toNat * 1))) from l_index (Hl.keep hm) Try.underlying37 (by kernel_rfl) (by omega) (by omega))⟩, ⟨rfl, rfl, fun w hm => (show KO w (.load 3) [(.pointer (ptrO al (((i - 1)).toNat * 1)))] (iV z6) from l_load (Hl.keep hm) (by omega) Try.underlying3 rfl (flat_getz (c := intC) (sz := 1) (fun _ => rfl) hz6 (by omega) 0 _ rfl))⟩, ⟨rfl, rfl, fun w hm => (show KO w (.bin .leq 3) [(iV z2), (iV z6)] (.bool false) from k_leq_f c7)⟩, ⟨rfl, rfl, fun w hm => (show KO w (.bin .add 3) [(iV i), (iV 1)] (iV ((i + 1))) from k_add (wrap64 (by omega)))⟩, trivial⟩ trivial trivial trivial) rsources2_r6 ⟨rfl, rfl, rfl, rfl, rfl, rfl, rfl, rfl, rfl, rfl, rfl, rfl, rfl, rfl, rfl, rfl, rfl, rfl, rfl, rfl, rfl, rfl, rfl, rfl, rfl, rfl, rfl, rfl, trivial⟩ trivial (fun _ _ h => h) rsources2_wf5 rsources2_wf5 hat1 (fun a w hat => .inl ⟨rfl, ⟨((i + 1)), ?_, ?_, hat⟩⟩)
                · show (l.length - ((i + 1) : Int)).toNat < (l.length - i).toNat
                  omega
                · show 0 ≤ ((i + 1) : Int) ∧ ((i + 1) : Int) ≤ l.length ∧ (∀ k : Nat, (k : Int) < ((i + 1) : Int) → ascAt (x0 * x1) l k = 0)
                  have hs : ascAt (x0 * x1) l i.toNat = 0 := by
                    unfold ascAt
                    repeat' split
                    all_goals simp_all
                    all_goals omega
                  refine ⟨by omega, by omega, fun k hk => ?_⟩
                  rcases Int.lt_or_le (k : Int) i with q | q
                  · exact i2 k q
                  · have e : k = i.toNat := (by omega)
                    subst e; exact hs
            · let r7 : Rho := (Rho.of [(iV x0), (iV x1), (iV x2), (iV x3), (iV x4), (iV x5), (iV x6), (iV x7), (.slice al l.length ql), (iV k0), (iV k1), (iV t0), (iV t1), (iV i), (iV (((l.length : Nat) : Int))), (.pointer (ptrO al ((i).toNat * 1))), (iV z2), (iV ((x0 * x1))), (iV (((x0 * x1) - 1))), (iV ((i + 1)))] (fun b => w0.heap[b]?) [])
              have hat1 : @At r7 w0 rsources2_fr5 rsources2_st5 a w := At.shiftL (ρ1 := p5) (ρ2 := r7) (σ := [sy 0, sy 1, sy 2, sy 3, sy 4, sy 5, sy 6, sy 7, sy 8, sy 9, sy 10, sy 11, sy 12, sy 13]) (π := [0, 1, 2]) (τ := []) ⟨rfl, rfl, rfl, rfl, rfl, rfl, rfl, rfl, rfl, rfl, rfl, rfl, rfl, rfl, rfl, rfl, rfl, rfl, rfl, rfl, rfl, rfl, rfl, rfl, rfl, rfl, rfl, rfl, trivial⟩ trivial (fun _ _ h => h) rsources2_wf5 rsources2_id5 hat
              refine At.pieceL (ρ1 := r7) (ρ2 := (Rho.of [(iV x0), (iV x1), (iV x2), (iV x3), (iV x4), (iV x5), (iV x6), (iV x7), (.slice al l.length ql), (iV k0), (iV k1), (iV t0), (iV t1), (iV (((i + 1) : Int)))] (fun b => w0.heap[b]?) [])) (@Env.Ok.symL r7 _ _ (@env_ok r7) rsources2_e7 rsources2_c7 rsources2_l7 rsources2_cl7 ⟨⟨rfl, rfl, fun w hm => (show KO w (.bi 0 [37]) [(.slice al l.length ql)] (iV (((l.length : Nat) : Int))) from k_len Try.underlying37)⟩, ⟨rfl, rfl, fun w hm => (show KO w (.bin .lss 3) [(iV i), (iV (((l.length : Nat) : Int)))] (.bool true) from k_lss_t c1)⟩, ⟨rfl, rfl, fun w hm => (show KO w (.indexAddr 37) [(.slice al l.length ql), (iV i)] (.pointer (ptrO al ((i).toNat * 1))) from l_index (Hl.keep hm) Try.underlying37 (by kernel_rfl) (by omega) (by omega))⟩, ⟨rfl, rfl, fun w hm => (show KO w (.load 3) [(.pointer (ptrO al ((i).toNat * 1)))] (iV z2) from l_load (Hl.keep hm) (by omega) Try.underlying3 rfl (flat_getz (c := intC) (sz := 1) (fun _ => rfl) hz2 (by omega) 0 _ rfl))⟩, ⟨rfl, rfl, fun w hm => (show KO w (.bin .mul 3) [(iV x0), (iV x1)] (iV ((x0 * x1))) from k_mul (wrap64 (by have := mul_bd (a := x0) (b := x1) (A := 100000) (B := 576) (by omega) (by omega) (by omega) (by omega); omega)))⟩, ⟨rfl, rfl, fun w hm => (show KO w (.bin .sub 3) [(iV ((x0 * x1))), (iV 1)] (iV (((x0 * x1) - 1))) from k_sub (wrap64 (by omega)))⟩, ⟨rfl, rfl, fun w hm => (show KO w (.bin .geq 3) [(iV z2), (iV 0)] (.bool true) from k_geq_t c3)⟩, ⟨rfl, rfl, fun w hm => (show KO w (.bin .leq 3) [(iV z2), (iV (((x0 * x1) - 1)))] (.bool true) from k_leq_t c4)⟩, ⟨rfl, rfl, fun w hm => (show KO w (.bin .gtr 3) [(iV i), (iV 0)] (.bool false) from k_gtr_f c5)⟩, ⟨rfl, rfl, fun w hm => (show KO w (.bin .add 3) [(iV i), (iV 1)] (iV ((i + 1))) from k_add (wrap64 (by omega)))⟩, trivial⟩ trivial trivial trivial) rsources2_r7 ⟨rfl, rfl, rfl, rfl, rfl, rfl, rfl, rfl, rfl, rfl, rfl, rfl, rfl, rfl, rfl, rfl, rfl, rfl, rfl, rfl, rfl, rfl, rfl, rfl, rfl, rfl, rfl, rfl, trivial⟩ trivial (fun _ _ h => h) rsources2_wf5 rsources2_wf5 hat1 (fun a w hat => .inl ⟨rfl, ⟨((i + 1)), ?_, ?_, hat⟩⟩)
              · show (l.length - ((i + 1) : Int)).toNat < (l.length - i).toNat
                omega
              · show 0 ≤ ((i + 1) : Int) ∧ ((i + 1) : Int) ≤ l.length ∧ (∀ k : Nat, (k : Int) < ((i + 1) : Int) → ascAt (x0 * x1) l k = 0)
                have hs : ascAt (x0 * x1) l i.toNat = 0 := by
                  unfold ascAt
                  repeat' split
                  all_goals simp_all
                  all_goals omega
                refine ⟨by omega, by omega, fun k hk => ?_⟩
                rcases Int.lt_or_le (k : Int) i with q | q
                · exact i2 k q
                · have e : k = i.toNat := (by omega)
                  subst e; exact hs
          · let r8 : Rho := (Rho.of [(iV x0), (iV x1), (iV x2), (iV x3), (iV x4), (iV x5), (iV x6), (iV x7), (.slice al l.length ql), (iV k0), (iV k1), (iV t0), (iV t1), (iV i), (iV (((l.length : Nat) : Int))), (.pointer (ptrO al ((i).toNat * 1))), (iV z2), (iV ((x0 * x1))), (iV (((x0 * x1) - 1)))] (fun b => w0.heap[b]?) [])
            have hat1 : @At r8 w0 rsources2_fr5 rsources2_st5 a w := At.shiftL (ρ1 := p5) (ρ2 := r8) (σ := [sy 0, sy 1, sy 2, sy 3, sy 4, sy 5, sy 6, sy 7, sy 8, sy 9, sy 10, sy 11, sy 12, sy 13]) (π := [0, 1, 2]) (τ := []) ⟨rfl, rfl, rfl, rfl, rfl, rfl, rfl, rfl, rfl, rfl, rfl, rfl, rfl, rfl, rfl, rfl, rfl, rfl, rfl, rfl, rfl, rfl, rfl, rfl, rfl, rfl, rfl, rfl, trivial⟩ trivial (fun _ _ h => h) rsources2_wf5 rsources2_id5 hat
            refine @At.retGK r8 Try.prog (env.symL rsources2_e8 rsources2_c8 rsources2_l8 rsources2_cl8) (@Env.Ok.symL r8 _ _ (@env_ok r8) rsources2_e8 rsources2_c8 rsources2_l8 rsources2_cl8 ⟨⟨rfl, rfl, fun w hm => (show KO w (.bi 0 [37]) [(.slice al l.length ql)] (iV (((l.length : Nat) : Int))) from k_len Try.underlying37)⟩, ⟨rfl, rfl, fun w hm => (show KO w (.bin .lss 3) [(iV i), (iV (((l.length : Nat) : Int)))] (.bool true) from k_lss_t c1)⟩, ⟨rfl, rfl, fun w hm => (show KO w (.indexAddr 37) [(.slice al l.length ql), (iV i)] (.pointer (ptrO al ((i).toNat * 1))) from l_index (Hl.keep hm) Try.underlying37 (by kernel_rfl) (by omega) (by omega))⟩, ⟨rfl, rfl, fun w hm => (show KO w (.load 3) [(.pointer (ptrO al ((i).toNat * 1)))] (iV z2) from l_load (Hl.keep hm) (by omega) Try.underlying3 rfl (flat_getz (c := intC) (sz := 1) (fun _ => rfl) hz2 (by omega) 0 _ rfl))⟩, ⟨rfl, rfl, fun w hm => (show KO w (.bin .mul 3) [(iV x0), (iV x1)] (iV ((x0 * x1))) from k_mul (wrap64 (by have := mul_bd (a := x0) (b := x1) (A := 100000) (B := 576) (by omega) (by omega) (by omega) (by omega); omega)))⟩, ⟨rfl, rfl, fun w hm => (show KO w (.bin .sub 3) [(iV ((x0 * x1))), (iV 1)] (iV (((x0 * x1) - 1))) from k_sub (wrap64 (by omega)))⟩, ⟨rfl, rfl, fun w hm => (show KO w (.bin .geq 3) [(iV z2), (iV 0)] (.bool true) from k_geq_t c3)⟩, ⟨rfl, rfl, fun w hm => (show KO w (.bin .leq 3) [(iV z2), (iV (((x0 * x1) - 1)))] (.bool false) from k_leq_f c4)⟩, trivial⟩ trivial trivial trivial) w0 3000 rsources2_b12 Try.f22 rsources2_fr5 rsources2_st5 _ _ rsources2_r8 rsources2_wf5 a w hat1 (@endV_ok r8 w0 (.tuple #[(.slice .none 0 0), (iV 4)]) (fun en w' => ∃ a C, en = .returned (.tuple #[.slice a (sourcesL x0 x1 x2 x3 x4 x5 x6 x7 l k0 k1 t0 t1).length C, iV (sourcesE x0 x1 x2 x3 x4 x5 x6 x7 l k0 k1 t0 t1)]) ∧ NewList w0 w' 54 5 (flat srcC (sourcesL x0 x1 x2 x3 x4 x5 x6 x7 l k0 k1 t0 t1)) a (sourcesL x0 x1 x2 x3 x4 x5 x6 x7 l k0 k1 t0 t1).length C ∧ Below w0.heap.size w0 w') rfl (fun w2 hb => ?_)) _ (fun a w h => .inr ⟨.inr rfl, .inr ⟨(fun q => nomatch q), .inr ⟨(fun q => nomatch q), h⟩⟩⟩)
            have v0 : (4 : Int) = sourcesE x0 x1 x2 x3 x4 x5 x6 x7 l k0 k1 t0 t1 := by
              have hs : ascAt (x0 * x1) l i.toNat = 4 := by
                unfold ascAt
                repeat' split
                all_goals simp_all
                all_goals omega
              have ha : ascErr (x0 * x1) l = 4 := by rw [asc_at (i := i.toNat) (by omega) (fun k hk => i2 k (by omega)) (by omega)]; exact hs
              unfold sourcesE
              rw [if_neg (by omega), if_pos (by omega)] <;> omega
            have hL : [] = sourcesL x0 x1 x2 x3 x4 x5 x6 x7 l k0 k1 t0 t1 := by
              unfold sourcesL
              first
                | (have hE : ¬ sourcesE x0 x1 x2 x3 x4 x5 x6 x7 l k0 k1 t0 t1 = 0 := by omega
                   rw [if_neg hE])
                | (have hE : sourcesE x0 x1 x2 x3 x4 x5 x6 x7 l k0 k1 t0 t1 = 0 := by omega
                   rw [if_pos hE, i3, show i.toNat = l.length by omega, List.take_length])
            have hN : (sourcesL x0 x1 x2 x3 x4 x5 x6 x7 l k0 k1 t0 t1).length = 0 := by rw [← hL]; rfl
            refine ⟨none, 0, ?_, ⟨?_, .inl ⟨rfl, hN, rfl⟩⟩, hb⟩
            · rw [hN]; exact congrArg Ending.returned (congrArg (fun (y0 : Int) => (.tuple #[.slice none 0 0, iV y0] : Value)) v0)
            · rw [← hL]; rfl
        · let r9 : Rho := (Rho.of [(iV x0), (iV x1), (iV x2), (iV x3), (iV x4), (iV x5), (iV x6), (iV x7), (.slice al l.length ql), (iV k0), (iV k1), (iV t0), (iV t1), (iV i), (iV (((l.length : Nat) : Int))), (.pointer (ptrO al ((i).toNat * 1))), (iV z2), (iV ((x0 * x1))), (iV (((x0 * x1) - 1)))] (fun b => w0.heap[b]?) [])
          have hat1 : @At r9 w0 rsources2_fr5 rsources2_st5 a w := At.shiftL (ρ1 := p5) (ρ2 := r9) (σ := [sy 0, sy 1, sy 2, sy 3, sy 4, sy 5, sy 6, sy 7, sy 8, sy 9, sy 10, sy 11, sy 12, sy 13]) (π := [0, 1, 2]) (τ := []) ⟨rfl, rfl, rfl, rfl, rfl, rfl, rfl, rfl, rfl, rfl, rfl, rfl, rfl, rfl, rfl, rfl, rfl, rfl, rfl, rfl, rfl, rfl, rfl, rfl, rfl, rfl, rfl, rfl, trivial⟩ trivial (fun _ _ h => h) rsources2_wf5 rsources2_id5 hat
          refine @At.retGK r9 Try.prog (env.symL rsources2_e9 rsources2_c9 rsources2_l9 rsources2_cl9) (@Env.Ok.symL r9 _ _ (@env_ok r9) rsources2_e9 rsources2_c9 rsources2_l9 rsources2_cl9 ⟨⟨rfl, rfl, fun w hm => (show KO w (.bi 0 [37]) [(.slice al l.length ql)] (iV (((l.length : Nat) : Int))) from k_len Try.underlying37)⟩, ⟨rfl, rfl, fun w hm => (show KO w (.bin .lss 3) [(iV i), (iV (((l.length : Nat) : Int)))] (.bool true) from k_lss_t c1)⟩, ⟨rfl, rfl, fun w hm => (show KO w (.indexAddr 37) [(.slice al l.length ql), (iV i)] (.pointer (ptrO al ((i).toNat * 1))) from l_index (Hl.keep hm) Try.underlying37 (by kernel_rfl) (by omega) (by omega))⟩, ⟨rfl, rfl, fun w hm => (show KO w (.load 3) [(.pointer (ptrO al ((i).toNat * 1)))] (iV z2) from l_load (Hl.keep hm) (by omega) Try.underlying3 rfl (flat_getz (c := intC) (sz := 1) (fun _ => rfl) hz2 (by omega) 0 _ rfl))⟩, ⟨rfl, rfl, fun w hm => (show KO w (.bin .mul 3) [(iV x0), (iV x1)] (iV ((x0 * x1))) from k_mul (wrap64 (by have := mul_bd (a := x0) (b := x1) (A := 100000) (B := 576) (by omega) (by omega) (by omega) (by omega); omega)))⟩, ⟨rfl, rfl, fun w hm => (show KO w (.bin .sub 3) [(iV ((x0 * x1))), (iV 1)] (iV (((x0 * x1) - 1))) from k_sub (wrap64 (by omega)))⟩, ⟨rfl, rfl, fun w hm => (show KO w (.bin .geq 3) [(iV z2), (iV 0)] (.bool false) from k_geq_f c3)⟩, trivial⟩ trivial trivial trivial) w0 3000 rsources2_b12 Try.f22 rsources2_fr5 rsources2_st5 _ _ rsources2_r9 rsources2_wf5 a w hat1 (@endV_ok r9 w0 (.tuple #[(.slice .none 0 0), (iV 4)]) (fun en w' => ∃ a C, en = .returned (.tuple #[.slice a (sourcesL x0 x1 x2 x3 x4 x5 x6 x7 l k0 k1 t0 t1).length C, iV (sourcesE x0 x1 x2 x3 x4 x5 x6 x7 l k0 k1 t0 t1)]) ∧ NewList w0 w' 54 5 (flat srcC (sourcesL x0 x1 x2 x3 x4 x5 x6 x7 l k0 k1 t0 t1)) a (sourcesL x0 x1 x2 x3 x4 x5 x6 x7 l k0 k1 t0 t1).length C ∧ Below w0.heap.size w0 w') rfl (fun w2 hb => ?_)) _ (fun a w h => .inr ⟨.inr rfl, .inr ⟨(fun q => nomatch q), .inr ⟨(fun q => nomatch q), h⟩⟩⟩)
          have v0 : (4 : Int) = sourcesE x0 x1 x2 x3 x4 x5 x6 x7 l k0 k1 t0 t1 := by
            have hs : ascAt (x0 * x1) l i.toNat = 4 := by
              unfold ascAt
              repeat' split
              all_goals simp_all
              all_goals omega
            have ha : ascErr (x0 * x1) l = 4 := by rw [asc_at (i := i.toNat) (by omega) (fun k hk => i2 k (by omega)) (by omega)]; exact hs
            unfold sourcesE
            rw [if_neg (by omega), if_pos (by omega)] <;> omega
          have hL : [] = sourcesL x0 x1 x2 x3 x4 x5 x6 x7 l k0 k1 t0 t1 := by
            unfold sourcesL
            first
              | (have hE : ¬ sourcesE x0 x1 x2 x3 x4 x5 x6 x7 l k0 k1 t0 t1 = 0 := by omega
                 rw [if_neg hE])
              | (have hE : sourcesE x0 x1 x2 x3 x4 x5 x6 x7 l k0 k1 t0 t1 = 0 := by omega
                 rw [if_pos hE, i3, show i.toNat = l.length by omega, List.take_length])
          have hN : (sourcesL x0 x1 x2 x3 x4 x5 x6 x7 l k0 k1 t0 t1).length = 0 := by rw [← hL]; rfl
          refine ⟨none, 0, ?_, ⟨?_, .inl ⟨rfl, hN, rfl⟩⟩, hb⟩
          · rw [hN]; exact congrArg Ending.returned (congrArg (fun (y0 : Int) => (.tuple #[.slice none 0 0, iV y0] : Value)) v0)
          · rw [← hL]; rfl
      · let r10 : Rho := (Rho.of [(iV x0), (iV x1), (iV x2), (iV x3), (iV x4), (iV x5), (iV x6), (iV x7), (.slice al l.length ql), (iV k0), (iV k1), (iV t0), (iV t1), (iV i), (iV (((l.length : Nat) : Int)))] (fun b => w0.heap[b]?) [])
        have hat1 : @At r10 w0 rsources2_fr5 rsources2_st5 a w := At.shiftL (ρ1 := p5) (ρ2 := r10) (σ := [sy 0, sy 1, sy 2, sy 3, sy 4, sy 5, sy 6, sy 7, sy 8, sy 9, sy 10, sy 11, sy 12, sy 13]) (π := [0, 1, 2]) (τ := []) ⟨rfl, rfl, rfl, rfl, rfl, rfl, rfl, rfl, rfl, rfl, rfl, rfl, rfl, rfl, rfl, rfl, rfl, rfl, rfl, rfl, rfl, rfl, rfl, rfl, rfl, rfl, rfl, rfl, trivial⟩ trivial (fun _ _ h => h) rsources2_wf5 rsources2_id5 hat
        let p6 : Rho := (Rho.of [(iV x0), (iV x1), (iV x2), (iV x3), (iV x4), (iV x5), (iV x6), (iV x7), (.slice al l.length ql), (iV k0), (iV k1), (iV t0), (iV t1)] (fun b => w0.heap[b]?) [])
        refine At.pieceL (ρ1 := r10) (ρ2 := p6) (@Env.Ok.symL r10 _ _ (@env_ok r10) rsources2_e10 rsources2_c10 rsources2_l10 rsources2_cl10 ⟨⟨rfl, rfl, fun w hm => (show KO w (.bi 0 [37]) [(.slice al l.length ql)] (iV (((l.length : Nat) : Int))) from k_len Try.underlying37)⟩, ⟨rfl, rfl, fun w hm => (show KO w (.bin .lss 3) [(iV i), (iV (((l.length : Nat) : Int)))] (.bool false) from k_lss_f c1)⟩, trivial⟩ trivial trivial trivial) rsources2_r10 ⟨rfl, rfl, rfl, rfl, rfl, rfl, rfl, rfl, rfl, rfl, rfl, rfl, rfl, rfl, rfl, rfl, rfl, rfl, rfl, rfl, rfl, rfl, rfl, rfl, rfl, rfl, trivial⟩ trivial (fun _ _ h => h) rsources2_wf5 rsources2_wf6 hat1 (fun a w hat => .inr ⟨.inl ⟨0, rfl⟩, .inl ⟨rfl, .inl ⟨rfl, ?_⟩⟩⟩)
        refine g_seq rsources2_q8 ?_
        by_cases c8 : k0 ≤ k1
        · by_cases c9 : k0 ≥ 1
          · by_cases c10 : k1 ≤ 10
            · by_cases c11 : t0 ≤ t1
              · by_cases c12 : t0 ≥ 0
                · by_cases c13 : t1 ≤ 1000000000
                  · let r11 : Rho := (Rho.of [(iV x0), (iV x1), (iV x2), (iV x3), (iV x4), (iV x5), (iV x6), (iV x7), (.slice al l.length ql), (iV k0), (iV k1), (iV t0), (iV t1)] (fun b => w0.heap[b]?) [])
                    have hat1 : @At r11 w0 rsources2_fr6 rsources2_st6 a w := At.shiftL (ρ1 := p6) (ρ2 := r11) (σ := [sy 0, sy 1, sy 2, sy 3, sy 4, sy 5, sy 6, sy 7, sy 8, sy 9, sy 10, sy 11, sy 12]) (π := [0, 1]) (τ := []) ⟨rfl, rfl, rfl, rfl, rfl, rfl, rfl, rfl, rfl, rfl, rfl, rfl, rfl, rfl, rfl, rfl, rfl, rfl, rfl, rfl, rfl, rfl, rfl, rfl, rfl, rfl, trivial⟩ trivial (fun _ _ h => h) rsources2_wf6 rsources2_id6 hat
                    let p7 : Rho := (Rho.of [(iV x0), (iV x1), (iV x2), (iV x3), (iV x4), (iV x5), (iV x6), (iV x7), (.slice al l.length ql), (iV k0), (iV k1), (iV t0), (iV t1)] (fun b => w0.heap[b]?) [])
                    refine At.pieceL (ρ1 := r11) (ρ2 := p7) (@Env.Ok.symL r11 _ _ (@env_ok r11) rsources2_e11 rsources2_c11 rsources2_l11 rsources2_cl11 ⟨⟨rfl, rfl, fun w hm => (show KO w (.bin .leq 3) [(iV k0), (iV k1)] (.bool true) from k_leq_t c8)⟩, ⟨rfl, rfl, fun w hm => (show KO w (.bin .geq 3) [(iV k0), (iV 1)] (.bool true) from k_geq_t c9)⟩, ⟨rfl, rfl, fun w hm => (show KO w (.bin .leq 3) [(iV k1), (iV 10)] (.bool true) from k_leq_t c10)⟩, ⟨rfl, rfl, fun w hm => (show KO w (.bin .leq 3) [(iV t0), (iV t1)] (.bool true) from k_leq_t c11)⟩, ⟨rfl, rfl, fun w hm => (show KO w (.bin .geq 3) [(iV t0), (iV 0)] (.bool true) from k_geq_t c12)⟩, ⟨rfl, rfl, fun w hm => (show KO w (.bin .leq 3) [(iV t1), (iV 1000000000)] (.bool true) from k_leq_t c13)⟩, trivial⟩ trivial trivial trivial) rsources2_r11 ⟨rfl, rfl, rfl, rfl, rfl, rfl, rfl, rfl, rfl, rfl, rfl, rfl, rfl, rfl, rfl, rfl, rfl, rfl, rfl, rfl, rfl, rfl, rfl, rfl, rfl, rfl, trivial⟩ trivial (fun _ _ h => h) rsources2_wf6 rsources2_wf7 hat1 (fun a w hat => .inl ⟨rfl, ?_⟩)
                    refine g_seq rsources2_q9 ?_
                    by_cases c14 : (((l.length : Nat) : Int) * ((k1 - k0) + 1)) > 256
                    · let r12 : Rho := (Rho.of [(iV x0), (iV x1), (iV x2), (iV x3), (iV x4), (iV x5), (iV x6), (iV x7), (.slice al l.length ql), (iV k0), (iV k1), (iV t0), (iV t1), (iV (((l.length : Nat) : Int))), (iV ((k1 - k0))), (iV (((k1 - k0) + 1))), (iV ((((l.length : Nat) : Int) * ((k1 - k0) + 1))))] (fun b => w0.heap[b]?) [])
                      have hat1 : @At r12 w0 rsources2_fr7 rsources2_st7 a w := At.shiftL (ρ1 := p7) (ρ2 := r12) (σ := [sy 0, sy 1, sy 2, sy 3, sy 4, sy 5, sy 6, sy 7, sy 8, sy 9, sy 10, sy 11, sy 12]) (π := [0, 1]) (τ := []) ⟨rfl, rfl, rfl, rfl, rfl, rfl, rfl, rfl, rfl, rfl, rfl, rfl, rfl, rfl, rfl, rfl, rfl, rfl, rfl, rfl, rfl, rfl, rfl, rfl, rfl, rfl, trivial⟩ trivial (fun _ _ h => h) rsources2_wf7 rsources2_id7 hat
                      refine @At.retGK r12 Try.prog (env.symL rsources2_e12 rsources2_c12 rsources2_l12 rsources2_cl12) (@Env.Ok.symL r12 _ _ (@env_ok r12) rsources2_e12 rsources2_c12 rsources2_l12 rsources2_cl12 ⟨⟨rfl, rfl, fun w hm => (show KO w (.bi 0 [37]) [(.slice al l.length ql)] (iV (((l.length : Nat) : Int))) from k_len Try.underlying37)⟩, ⟨rfl, rfl, fun w hm => (show KO w (.bin .sub 3) [(iV k1), (iV k0)] (iV ((k1 - k0))) from k_sub (wrap64 (by omega)))⟩, ⟨rfl, rfl, fun w hm => (show KO w (.bin .add 3) [(iV ((k1 - k0))), (iV 1)] (iV (((k1 - k0) + 1))) from k_add (wrap64 (by omega)))⟩, ⟨rfl, rfl, fun w hm => (show KO w (.bin .mul 3) [(iV (((l.length : Nat) : Int))), (iV (((k1 - k0) + 1)))] (iV ((((l.length : Nat) : Int) * ((k1 - k0) + 1)))) from k_mul (wrap64 (by have := mul_bd (a := ((l.length : Nat) : Int)) (b := ((k1 - k0) + 1)) (A := 100000) (B := 576) (by omega) (by omega) (by omega) (by omega); omega)))⟩, ⟨rfl, rfl, fun w hm => (show KO w (.bin .gtr 3) [(iV ((((l.length : Nat) : Int) * ((k1 - k0) + 1)))), (iV 256)] (.bool true) from k_gtr_t c14)⟩, trivial⟩ trivial trivial trivial) w0 3000 rsources2_b15 Try.f22 rsources2_fr7 rsources2_st7 _ _ rsources2_r12 rsources2_wf7 a w hat1 (@endV_ok r12 w0 (.tuple #[(.slice .none 0 0), (iV 9)]) (fun en w' => ∃ a C, en = .returned (.tuple #[.slice a (sourcesL x0 x1 x2 x3 x4 x5 x6 x7 l k0 k1 t0 t1).length C, iV (sourcesE x0 x1 x2 x3 x4 x5 x6 x7 l k0 k1 t0 t1)]) ∧ NewList w0 w' 54 5 (flat srcC (sourcesL x0 x1 x2 x3 x4 x5 x6 x7 l k0 k1 t0 t1)) a (sourcesL x0 x1 x2 x3 x4 x5 x6 x7 l k0 k1 t0 t1).length C ∧ Below w0.heap.size w0 w') rfl (fun w2 hb => ?_)) _ (fun a w h => .inr ⟨(fun q => nomatch q), h⟩)
                      have v0 : (9 : Int) = sourcesE x0 x1 x2 x3 x4 x5 x6 x7 l k0 k1 t0 t1 := by
                        have ha : ascErr (x0 * x1) l = 0 := asc_all (fun k hk => i2 k (by omega))
                        unfold sourcesE
                        first
                          | (rw [if_pos (by omega)] <;> omega)
                          | (rw [if_neg (by omega), if_pos (by omega)] <;> omega)
                          | (rw [if_neg (by omega), if_neg (by omega), if_pos (by omega)])
                          | (rw [if_neg (by omega), if_neg (by omega), if_neg (by omega), if_pos (by omega)])
                          | (rw [if_neg (by omega), if_neg (by omega), if_neg (by omega), if_neg (by omega)])
                      have hL : [] = sourcesL x0 x1 x2 x3 x4 x5 x6 x7 l k0 k1 t0 t1 := by
                        unfold sourcesL
                        first
                          | (have hE : ¬ sourcesE x0 x1 x2 x3 x4 x5 x6 x7 l k0 k1 t0 t1 = 0 := by omega
                             rw [if_neg hE])
                          | (have hE : sourcesE x0 x1 x2 x3 x4 x5 x6 x7 l k0 k1 t0 t1 = 0 := by omega
                             rw [if_pos hE, n3, show n.toNat = l.length by omega, List.take_length])
                      have hN : (sourcesL x0 x1 x2 x3 x4 x5 x6 x7 l k0 k1 t0 t1).length = 0 := by rw [← hL]; rfl
                      refine ⟨none, 0, ?_, ⟨?_, .inl ⟨rfl, hN, rfl⟩⟩, hb⟩
                      · rw [hN]; exact congrArg Ending.returned (congrArg (fun (y0 : Int) => (.tuple #[.slice none 0 0, iV y0] : Value)) v0)
                      · rw [← hL]; rfl
                    · let r13 : Rho := (Rho.of [(iV x0), (iV x1), (iV x2), (iV x3), (iV x4), (iV x5), (iV x6), (iV x7), (.slice al l.length ql), (iV k0), (iV k1), (iV t0), (iV t1), (iV (((l.length : Nat) : Int))), (iV ((k1 - k0))), (iV (((k1 - k0) + 1))), (iV ((((l.length : Nat) : Int) * ((k1 - k0) + 1))))] (fun b => w0.heap[b]?) [])
                      have hat1 : @At r13 w0 rsources2_fr7 rsources2_st7 a w := At.shiftL (ρ1 := p7) (ρ2 := r13) (σ := [sy 0, sy 1, sy 2, sy 3, sy 4, sy 5, sy 6, sy 7, sy 8, sy 9, sy 10, sy 11, sy 12]) (π := [0, 1]) (τ := []) ⟨rfl, rfl, rfl, rfl, rfl, rfl, rfl, rfl, rfl, rfl, rfl, rfl, rfl, rfl, rfl, rfl, rfl, rfl, rfl, rfl, rfl, rfl, rfl, rfl, rfl, rfl, trivial⟩ trivial (fun _ _ h => h) rsources2_wf7 rsources2_id7 hat
                      let p8 : Rho := (Rho.of [(iV x0), (iV x1), (iV x2), (iV x3), (iV x4), (iV x5), (iV x6), (iV x7), (.slice al l.length ql), (iV k0), (iV k1), (iV t0), (iV t1)] (fun b => w0.heap[b]?) [])
                      refine At.pieceL (ρ1 := r13) (ρ2 := p8) (@Env.Ok.symL r13 _ _ (@env_ok r13) rsources2_e13 rsources2_c13 rsources2_l13 rsources2_cl13 ⟨⟨rfl, rfl, fun w hm => (show KO w (.bi 0 [37]) [(.slice al l.length ql)] (iV (((l.length : Nat) : Int))) from k_len Try.underlying37)⟩, ⟨rfl, rfl, fun w hm => (show KO w (.bin .sub 3) [(iV k1), (iV k0)] (iV ((k1 - k0))) from k_sub (wrap64 (by omega)))⟩, ⟨rfl, rfl, fun w hm => (show KO w (.bin .add 3) [(iV ((k1 - k0))), (iV 1)] (iV (((k1 - k0) + 1))) from k_add (wrap64 (by omega)))⟩, ⟨rfl, rfl, fun w hm => (show KO w (.bin .mul 3) [(iV (((l.length : Nat) : Int))), (iV (((k1 - k0) + 1)))] (iV ((((l.length : Nat) : Int) * ((k1 - k0) + 1)))) from k_mul (wrap64 (by have := mul_bd (a := ((l.length : Nat) : Int)) (b := ((k1 - k0) + 1)) (A := 100000) (B := 576) (by omega) (by omega) (by omega) (by omega); omega)))⟩, ⟨rfl, rfl, fun w hm => (show KO w (.bin .gtr 3) [(iV ((((l.length : Nat) : Int) * ((k1 - k0) + 1)))), (iV 256)] (.bool false) from k_gtr_f c14)⟩, trivial⟩ trivial trivial trivial) rsources2_r13 ⟨rfl, rfl, rfl, rfl, rfl, rfl, rfl, rfl, rfl, rfl, rfl, rfl, rfl, rfl, rfl, rfl, rfl, rfl, rfl, rfl, rfl, rfl, rfl, rfl, rfl, rfl, trivial⟩ trivial (fun _ _ h => h) rsources2_wf7 rsources2_wf8 hat1 (fun a w hat => .inl ⟨rfl, ?_⟩)
                      refine g_seq rsources2_q10 ?_
                      let r14 : Rho := (Rho.of [(iV x0), (iV x1), (iV x2), (iV x3), (iV x4), (iV x5), (iV x6), (iV x7), (.slice al l.length ql), (iV k0), (iV k1), (iV t0), (iV t1)] (fun b => w0.heap[b]?) [])
                      have hat1 : @At r14 w0 rsources2_fr8 rsources2_st8 a w := At.shiftL (ρ1 := p8) (ρ2 := r14) (σ := [sy 0, sy 1, sy 2, sy 3, sy 4, sy 5, sy 6, sy 7, sy 8, sy 9, sy 10, sy 11, sy 12]) (π := [0, 1]) (τ := []) ⟨rfl, rfl, rfl, rfl, rfl, rfl, rfl, rfl, rfl, rfl, rfl, rfl, rfl, rfl, rfl, rfl, rfl, rfl, rfl, rfl, rfl, rfl, rfl, rfl, rfl, rfl, trivial⟩ trivial (fun _ _ h => h) rsources2_wf8 rsources2_id8 hat
                      let p9 : Rho := (Rho.of [(iV x0), (iV x1), (iV x2), (iV x3), (iV x4), (iV x5), (iV x6), (iV x7), (.slice al l.length ql), (iV k0), (iV k1), (iV t0), (iV t1)] (fun b => w0.heap[b]?) [])
                      refine At.pieceL (ρ1 := r14) (ρ2 := p9) (@Env.Ok.symL r14 _ _ (@env_ok r14) [] [] [] [] trivial trivial trivial trivial) rsources2_r14 ⟨rfl, rfl, rfl, rfl, rfl, rfl, rfl, rfl, rfl, rfl, rfl, rfl, rfl, rfl, rfl, rfl, rfl, rfl, rfl, rfl, rfl, rfl, rfl, rfl, rfl, rfl, trivial⟩ trivial (fun _ _ h => h) rsources2_wf8 rsources2_wf9 hat1 (fun a w hat => .inl ⟨rfl, ?_⟩)
                      refine g_seq rsources2_q11 ?_
                      refine g_seq rsources2_q12 ?_
                      let r15 : Rho := (Rho.of [(iV x0), (iV x1), (iV x2), (iV x3), (iV x4), (iV x5), (iV x6), (iV x7), (.slice al l.length ql), (iV k0), (iV k1), (iV t0), (iV t1)] (fun b => w0.heap[b]?) [])
                      have hat1 : @At r15 w0 rsources2_fr9 rsources2_st9 a w := At.shiftL (ρ1 := p9) (ρ2 := r15) (σ := [sy 0, sy 1, sy 2, sy 3, sy 4, sy 5, sy 6, sy 7, sy 8, sy 9, sy 10, sy 11, sy 12]) (π := [0, 1]) (τ := []) ⟨rfl, rfl, rfl, rfl, rfl, rfl, rfl, rfl, rfl, rfl, rfl, rfl, rfl, rfl, rfl, rfl, rfl, rfl, rfl, rfl, rfl, rfl, rfl, rfl, rfl, rfl, trivial⟩ trivial (fun _ _ h => h) rsources2_wf9 rsources2_id9 hat
                      let p10 : Rho := (Rho.of [(iV x0), (iV x1), (iV x2), (iV x3), (iV x4), (iV x5), (iV x6), (iV x7), (.slice al l.length ql), (iV k0), (iV k1), (iV t0), (iV t1)] (fun b => w0.heap[b]?) [])
                      refine At.pieceL (ρ1 := r15) (ρ2 := p10) (@Env.Ok.symL r15 _ _ (@env_ok r15) [] [] [] [] trivial trivial trivial trivial) rsources2_r15 ⟨rfl, rfl, rfl, rfl, rfl, rfl, rfl, rfl, rfl, rfl, rfl, rfl, rfl, rfl, rfl, rfl, rfl, rfl, rfl, rfl, rfl, rfl, rfl, rfl, rfl, rfl, trivial⟩ trivial (fun _ _ h => h) rsources2_wf9 rsources2_wf10 hat1 (fun a w hat => .inl ⟨rfl, ?_⟩)
                      refine g_block rsources2_q13 ?_
                      have hat0 := At.shiftL (ρ1 := p10) (ρ2 := (Rho.of [(iV x0), (iV x1), (iV x2), (iV x3), (iV x4), (iV x5), (iV x6), (iV x7), (.slice al l.length ql), (iV k0), (iV k1), (iV t0), (iV t1), (iV (((([] : List Src).length : Nat) : Int))), (iV ((0 : Int)))] (fun b => w0.heap[b]?) [(flat srcC ([] : List Src))])) (σ := [(sy 0), (sy 1), (sy 2), (sy 3), (sy 4), (sy 5), (sy 6), (sy 7), (sy 8), (sy 9), (sy 10), (sy 11), (sy 12), (iV 0), (iV 0)]) (π := [0, 1, 2]) (τ := [none]) ⟨rfl, rfl, rfl, rfl, rfl, rfl, rfl, rfl, rfl, rfl, rfl, rfl, rfl, rfl, rfl, rfl, rfl, rfl, rfl, rfl, rfl, rfl, rfl, rfl, rfl, rfl, rfl, rfl, rfl, rfl, trivial⟩ ⟨rfl, trivial⟩ (fun _ _ h => h) rsources2_wf11 rsources2_h15 hat
                      clear hat
                      refine g_loop (fun (x : List Src × Int) a w => (0 ≤ (x.2 : Int) ∧ (x.2 : Int) ≤ l.length ∧ ((x.1 : List Src).length : Int) ≤ 10 * (x.2 : Int) ∧ (x.1 : List Src) = allL k0 k1 t0 t1 (l.take (x.2 : Int).toNat)) ∧ @At (Rho.of [(iV x0), (iV x1), (iV x2), (iV x3), (iV x4), (iV x5), (iV x6), (iV x7), (.slice al l.length ql), (iV k0), (iV k1), (iV t0), (iV t1), (iV ((((x.1 : List Src).length : Nat) : Int))), (iV ((x.2 : Int)))] (fun b => w0.heap[b]?) [(flat srcC (x.1 : List Src))]) w0 rsources2_fr11 rsources2_st11 a w) (fun x => (l.length - (x.2 : Int)).toNat) rsources2_q14 ?_ ([], 0) ⟨?_, hat0⟩
                      · clear hat0
                        rintro ⟨out, n⟩ a w ⟨hinv, hat⟩
                        change 0 ≤ n ∧ n ≤ l.length ∧ (out.length : Int) ≤ 10 * n ∧ out = allL k0 k1 t0 t1 (l.take n.toNat) at hinv
                        let p11 : Rho := (Rho.of [(iV x0), (iV x1), (iV x2), (iV x3), (iV x4), (iV x5), (iV x6), (iV x7), (.slice al l.length ql), (iV k0), (iV k1), (iV t0), (iV t1), (iV (((out.length : Nat) : Int))), (iV n)] (fun b => w0.heap[b]?) [(flat srcC out)])
                        change @At p11 w0 rsources2_fr11 rsources2_st11 a w at hat
                        obtain ⟨n0, n1, n2, n3⟩ := hinv
                        refine g_seq rsources2_q16 ?_
                        by_cases c15 : n < ((l.length : Nat) : Int)
                        · let r16 : Rho := (Rho.of [(iV x0), (iV x1), (iV x2), (iV x3), (iV x4), (iV x5), (iV x6), (iV x7), (.slice al l.length ql), (iV k0), (iV k1), (iV t0), (iV t1), (iV (((out.length : Nat) : Int))), (iV n), (iV (((l.length : Nat) : Int)))] (fun b => w0.heap[b]?) [(flat srcC out)])
                          have hat1 : @At r16 w0 rsources2_fr11 rsources2_st11 a w := At.shiftL (ρ1 := p11) (ρ2 := r16) (σ := [sy 0, sy 1, sy 2, sy 3, sy 4, sy 5, sy 6, sy 7, sy 8, sy 9, sy 10, sy 11, sy 12, sy 13, sy 14]) (π := [0, 1, 2]) (τ := [some 0]) ⟨rfl, rfl, rfl, rfl, rfl, rfl, rfl, rfl, rfl, rfl, rfl, rfl, rfl, rfl, rfl, rfl, rfl, rfl, rfl, rfl, rfl, rfl, rfl, rfl, rfl, rfl, rfl, rfl, rfl, rfl, trivial⟩ ⟨rfl, trivial⟩ (fun _ _ h => h) rsources2_wf11 rsources2_id11 hat
                          let p12 : Rho := (Rho.of [(iV x0), (iV x1), (iV x2), (iV x3), (iV x4), (iV x5), (iV x6), (iV x7), (.slice al l.length ql), (iV k0), (iV k1), (iV t0), (iV t1), (iV (((out.length : Nat) : Int))), (iV n), (iV (((l.length : Nat) : Int)))] (fun b => w0.heap[b]?) [(flat srcC out)])
                          refine At.pieceL (ρ1 := r16) (ρ2 := p12) (@Env.Ok.symL r16 _ _ (@env_ok r16) rsources2_e16 rsources2_c16 rsources2_l16 rsources2_cl16 ⟨⟨rfl, rfl, fun w hm => (show KO w (.bi 0 [37]) [(.slice al l.length ql)] (iV (((l.length : Nat) : Int))) from k_len Try.underlying37)⟩, ⟨rfl, rfl, fun w hm => (show KO w (.bin .lss 3) [(iV n), (iV (((l.length : Nat) : Int)))] (.bool true) from k_lss_t c15)⟩, trivial⟩ trivial trivial trivial) rsources2_r16 ⟨rfl, rfl, rfl, rfl, rfl, rfl, rfl, rfl, rfl, rfl, rfl, rfl, rfl, rfl, rfl, rfl, rfl, rfl, rfl, rfl, rfl, rfl, rfl, rfl, rfl, rfl, rfl, rfl, rfl, rfl, rfl, rfl, trivial⟩ ⟨rfl, trivial⟩ (fun _ _ h => h) rsources2_wf11 rsources2_wf12 hat1 (fun a w hat => .inl ⟨rfl, ?_⟩)
                          refine g_seq rsources2_q17 ?_
                          refine g_block rsources2_q18 ?_
                          refine g_seq rsources2_q19 ?_
                          let r17 : Rho := (Rho.of [(iV x0), (iV x1), (iV x2), (iV x3), (iV x4), (iV x5), (iV x6), (iV x7), (.slice al l.length ql), (iV k0), (iV k1), (iV t0), (iV t1), (iV (((out.length : Nat) : Int))), (iV n), (iV (((l.length : Nat) : Int)))] (fun b => w0.heap[b]?) [(flat srcC out)])
                          have hat1 : @At r17 w0 rsources2_fr12 rsources2_st12 a w := At.shiftL (ρ1 := p12) (ρ2 := r17) (σ := [sy 0, sy 1, sy 2, sy 3, sy 4, sy 5, sy 6, sy 7, sy 8, sy 9, sy 10, sy 11, sy 12, sy 13, sy 14, sy 15]) (π := [0, 1, 2]) (τ := [some 0]) ⟨rfl, rfl, rfl, rfl, rfl, rfl, rfl, rfl, rfl, rfl, rfl, rfl, rfl, rfl, rfl, rfl, rfl, rfl, rfl, rfl, rfl, rfl, rfl, rfl, rfl, rfl, rfl, rfl, rfl, rfl, rfl, rfl, trivial⟩ ⟨rfl, trivial⟩ (fun _ _ h => h) rsources2_wf12 rsources2_id12 hat
                          let p13 : Rho := (Rho.of [(iV x0), (iV x1), (iV x2), (iV x3), (iV x4), (iV x5), (iV x6), (iV x7), (.slice al l.length ql), (iV k0), (iV k1), (iV t0), (iV t1), (iV (((out.length : Nat) : Int))), (iV n), (iV (((l.length : Nat) : Int)))] (fun b => w0.heap[b]?) [(flat srcC out)])
                          refine At.pieceL (ρ1 := r17) (ρ2 := p13) (@Env.Ok.symL r17 _ _ (@env_ok r17) [] [] [] [] trivial trivial trivial trivial) rsources2_r17 ⟨rfl, rfl, rfl, rfl, rfl, rfl, rfl, rfl, rfl, rfl, rfl, rfl, rfl, rfl, rfl, rfl, rfl, rfl, rfl, rfl, rfl, rfl, rfl, rfl, rfl, rfl, rfl, rfl, rfl, rfl, rfl, rfl, trivial⟩ ⟨rfl, trivial⟩ (fun _ _ h => h) rsources2_wf12 rsources2_wf13 hat1 (fun a w hat => .inl ⟨rfl, ?_⟩)
                          refine g_block rsources2_q20 ?_
                          have hat0 := At.shiftL (ρ1 := p13) (ρ2 := (Rho.of [(iV x0), (iV x1), (iV x2), (iV x3), (iV x4), (iV x5), (iV x6), (iV x7), (.slice al l.length ql), (iV k0), (iV k1), (iV t0), (iV t1), (iV (((out.length : Nat) : Int))), (iV n), (iV (((l.length : Nat) : Int))), (iV ((((out : List Src).length : Nat) : Int))), (iV ((k0 : Int)))] (fun b => w0.heap[b]?) [(flat srcC out), (flat srcC (out : List Src))])) (σ := [(sy 0), (sy 1), (sy 2), (sy 3), (sy 4), (sy 5), (sy 6), (sy 7), (sy 8), (sy 9), (sy 10), (sy 11), (sy 12), (sy 13), (sy 14), (sy 15), (sy 13), (sy 9)]) (π := [0, 1, 2]) (τ := [some 0, some 0]) ⟨rfl, rfl, rfl, rfl, rfl, rfl, rfl, rfl, rfl, rfl, rfl, rfl, rfl, rfl, rfl, rfl, rfl, rfl, rfl, rfl, rfl, rfl, rfl, rfl, rfl, rfl, rfl, rfl, rfl, rfl, rfl, rfl, rfl, (by show (Value.int .i64 _) = Value.int .i64 _; simp), rfl, rfl, trivial⟩ ⟨rfl, (by show (flat srcC out : List Value) = (flat srcC out); simp [flat_snoc, srcC]), trivial⟩ (fun _ _ h => h) rsources2_wf14 rsources2_h22 hat
                          clear hat
                          refine g_loop (fun (x : List Src × Int) a w => (k0 ≤ (x.2 : Int) ∧ (x.2 : Int) ≤ k1 + 1 ∧ ((x.1 : List Src).length : Int) ≤ 10 * n + ((x.2 : Int) - k0) ∧ (x.1 : List Src) = out ++ classL (l.getD n.toNat 0) k0 t0 t1 ((x.2 : Int) - k0).toNat) ∧ @At (Rho.of [(iV x0), (iV x1), (iV x2), (iV x3), (iV x4), (iV x5), (iV x6), (iV x7), (.slice al l.length ql), (iV k0), (iV k1), (iV t0), (iV t1), (iV (((out.length : Nat) : Int))), (iV n), (iV (((l.length : Nat) : Int))), (iV ((((x.1 : List Src).length : Nat) : Int))), (iV ((x.2 : Int)))] (fun b => w0.heap[b]?) [(flat srcC out), (flat srcC (x.1 : List Src))]) w0 rsources2_fr14 rsources2_st14 a w) (fun x => (k1 + 1 - (x.2 : Int)).toNat) rsources2_q21 ?_ (out, k0) ⟨?_, hat0⟩
                          · clear hat0
                            rintro ⟨out2, c⟩ a w ⟨hinv, hat⟩
                            change k0 ≤ c ∧ c ≤ k1 + 1 ∧ (out2.length : Int) ≤ 10 * n + (c - k0) ∧ out2 = out ++ classL (l.getD n.toNat 0) k0 t0 t1 (c - k0).toNat at hinv
                            let p14 : Rho := (Rho.of [(iV x0), (iV x1), (iV x2), (iV x3), (iV x4), (iV x5), (iV x6), (iV x7), (.slice al l.length ql), (iV k0), (iV k1), (iV t0), (iV t1), (iV (((out.length : Nat) : Int))), (iV n), (iV (((l.length : Nat) : Int))), (iV (((out2.length : Nat) : Int))), (iV c)] (fun b => w0.heap[b]?) [(flat srcC out), (flat srcC out2)])
                            change @At p14 w0 rsources2_fr14 rsources2_st14 a w at hat
                            obtain ⟨j0, j1, j2, j3⟩ := hinv
                            by_cases c16 : c ≤ k1
                            · obtain ⟨z17, hz17⟩ : ∃ z : Int, z = l.getD (n).toNat 0 := ⟨_, rfl⟩
                              let r18 : Rho := (Rho.of [(iV x0), (iV x1), (iV x2), (iV x3), (iV x4), (iV x5), (iV x6), (iV x7), (.slice al l.length ql), (iV k0), (iV k1), (iV t0), (iV t1), (iV (((out.length : Nat) : Int))), (iV n), (iV (((l.length : Nat) : Int))), (iV (((out2.length : Nat) : Int))), (iV c), (.pointer (ptrO al ((n).toNat * 1))), (iV z17), (iV (((out2.length + 1 : Nat) : Int))), (iV ((c + 1)))] (fun b => w0.heap[b]?) [(flat srcC out), (flat srcC out2), ((flat srcC out2) ++ [(iV 1), (iV z17), (iV c), (iV t0), (iV t1)])])
                              have hat1 : @At r18 w0 rsources2_fr14 rsources2_st14 a w := At.shiftL (ρ1 := p14) (ρ2 := r18) (σ := [sy 0, sy 1, sy 2, sy 3, sy 4, sy 5, sy 6, sy 7, sy 8, sy 9, sy 10, sy 11, sy 12, sy 13, sy 14, sy 15, sy 16, sy 17]) (π := [0, 1, 2]) (τ := [some 0, some 1]) ⟨rfl, rfl, rfl, rfl, rfl, rfl, rfl, rfl, rfl, rfl, rfl, rfl, rfl, rfl, rfl, rfl, rfl, rfl, rfl, rfl, rfl, rfl, rfl, rfl, rfl, rfl, rfl, rfl, rfl, rfl, rfl, rfl, rfl, rfl, rfl, rfl, trivial⟩ ⟨rfl, rfl, trivial⟩ (fun _ _ h => h) rsources2_wf14 rsources2_id14 hat
                              refine At.pieceL (ρ1 := r18) (ρ2 := (Rho.of [(iV x0), (iV x1), (iV x2), (iV x3), (iV x4), (iV x5), (iV x6), (iV x7), (.slice al l.length ql), (iV k0), (iV k1), (iV t0), (iV t1), (iV (((out.length : Nat) : Int))), (iV n), (iV (((l.length : Nat) : Int))), (iV (((((out2 ++ [(⟨1, z17, c, t0, t1⟩ : Src)]) : List Src).length : Nat) : Int))), (iV (((c + 1) : Int)))] (fun b => w0.heap[b]?) [(flat srcC out), (flat srcC ((out2 ++ [(⟨1, z17, c, t0, t1⟩ : Src)]) : List Src))])) (@Env.Ok.symL r18 _ _ (@env_ok r18) rsources2_e18 rsources2_c18 rsources2_l18 rsources2_cl18 ⟨⟨rfl, rfl, fun w hm => (show KO w (.bin .leq 3) [(iV c), (iV k1)] (.bool true) from k_leq_t c16)⟩, ⟨rfl, rfl, fun w hm => (show KO w (.indexAddr 37) [(.slice al l.length ql), (iV n)] (.pointer (ptrO al ((n).toNat * 1))) from l_index (Hl.keep hm) Try.underlying37 (by kernel_rfl) (by omega) (by omega))⟩, ⟨rfl, rfl, fun w hm => (show KO w (.load 3) [(.pointer (ptrO al ((n).toNat * 1)))] (iV z17) from l_load (Hl.keep hm) (by omega) Try.underlying3 rfl (flat_getz (c := intC) (sz := 1) (fun _ => rfl) hz17 (by omega) 0 _ rfl))⟩, ⟨rfl, rfl, fun w hm => (show KO w (.bin .add 3) [(iV c), (iV 1)] (iV ((c + 1))) from k_add (wrap64 (by omega)))⟩, trivial⟩ trivial ⟨⟨rfl, rfl, out2.length, rfl, rfl, (by show ((flat srcC out2) : List Value).length = (out2.length) * 5; first | exact flat_len (fun _ => rfl) _ | simp [flat_len (c := srcC) (sz := 5) (fun _ => rfl), srcC] <;> omega), rfl, (by omega)⟩, trivial⟩ trivial) rsources2_r18 ⟨rfl, rfl, rfl, rfl, rfl, rfl, rfl, rfl, rfl, rfl, rfl, rfl, rfl, rfl, rfl, rfl, rfl, rfl, rfl, rfl, rfl, rfl, rfl, rfl, rfl, rfl, rfl, rfl, rfl, rfl, rfl, rfl, rfl, (by show (Value.int .i64 _) = Value.int .i64 _; simp), rfl, rfl, trivial⟩ ⟨rfl, (by show (flat srcC (out2 ++ [(⟨1, z17, c, t0, t1⟩ : Src)]) : List Value) = ((flat srcC out2) ++ [(iV 1), (iV z17), (iV c), (iV t0), (iV t1)]); simp [flat_snoc, srcC]), trivial⟩ (fun _ _ h => h) rsources2_wf14 rsources2_wf14 hat1 (fun a w hat => .inl ⟨rfl, ⟨((out2 ++ [(⟨1, z17, c, t0, t1⟩ : Src)]), (c + 1)), ?_, ?_, hat⟩⟩)
                              · show (k1 + 1 - ((c + 1) : Int)).toNat < (k1 + 1 - c).toNat
                                omega
                              · show k0 ≤ ((c + 1) : Int) ∧ ((c + 1) : Int) ≤ k1 + 1 ∧ (((out2 ++ [(⟨1, z17, c, t0, t1⟩ : Src)]) : List Src).length : Int) ≤ 10 * n + (((c + 1) : Int) - k0) ∧ ((out2 ++ [(⟨1, z17, c, t0, t1⟩ : Src)]) : List Src) = out ++ classL (l.getD n.toNat 0) k0 t0 t1 (((c + 1) : Int) - k0).toNat
                                have e1 : (c + 1 - k0).toNat = (c - k0).toNat + 1 := by omega
                                refine ⟨by omega, by omega, by first | (simp; omega) | omega, ?_⟩
                                rw [e1, classL_succ, ← hz17, ← List.append_assoc]
                                have e2 : k0 + ((c - k0).toNat : Int) = c := by omega
                                rw [e2]
                                have h := j3
                                rw [← hz17] at h
                                rw [← h]
                            · let r19 : Rho := (Rho.of [(iV x0), (iV x1), (iV x2), (iV x3), (iV x4), (iV x5), (iV x6), (iV x7), (.slice al l.length ql), (iV k0), (iV k1), (iV t0), (iV t1), (iV (((out.length : Nat) : Int))), (iV n), (iV (((l.length : Nat) : Int))), (iV (((out2.length : Nat) : Int))), (iV c)] (fun b => w0.heap[b]?) [(flat srcC out), (flat srcC out2)])
                              have hat1 : @At r19 w0 rsources2_fr14 rsources2_st14 a w := At.shiftL (ρ1 := p14) (ρ2 := r19) (σ := [sy 0, sy 1, sy 2, sy 3, sy 4, sy 5, sy 6, sy 7, sy 8, sy 9, sy 10, sy 11, sy 12, sy 13, sy 14, sy 15, sy 16, sy 17]) (π := [0, 1, 2]) (τ := [some 0, some 1]) ⟨rfl, rfl, rfl, rfl, rfl, rfl, rfl, rfl, rfl, rfl, rfl, rfl, rfl, rfl, rfl, rfl, rfl, rfl, rfl, rfl, rfl, rfl, rfl, rfl, rfl, rfl, rfl, rfl, rfl, rfl, rfl, rfl, rfl, rfl, rfl, rfl, trivial⟩ ⟨rfl, rfl, trivial⟩ (fun _ _ h => h) rsources2_wf14 rsources2_id14 hat
                              let p15 : Rho := (Rho.of [(iV x0), (iV x1), (iV x2), (iV x3), (iV x4), (iV x5), (iV x6), (iV x7), (.slice al l.length ql), (iV k0), (iV k1), (iV t0), (iV t1), (iV (((out.length : Nat) : Int))), (iV n), (iV (((l.length : Nat) : Int))), (iV (((out2.length : Nat) : Int))), (iV c)] (fun b => w0.heap[b]?) [(flat srcC out), (flat srcC out2)])
                              refine At.pieceL (ρ1 := r19) (ρ2 := p15) (@Env.Ok.symL r19 _ _ (@env_ok r19) rsources2_e19 rsources2_c19 rsources2_l19 rsources2_cl19 ⟨⟨rfl, rfl, fun w hm => (show KO w (.bin .leq 3) [(iV c), (iV k1)] (.bool false) from k_leq_f c16)⟩, trivial⟩ trivial trivial trivial) rsources2_r19 ⟨rfl, rfl, rfl, rfl, rfl, rfl, rfl, rfl, rfl, rfl, rfl, rfl, rfl, rfl, rfl, rfl, rfl, rfl, rfl, rfl, rfl, rfl, rfl, rfl, rfl, rfl, rfl, rfl, rfl, rfl, rfl, rfl, rfl, rfl, rfl, rfl, trivial⟩ ⟨rfl, rfl, trivial⟩ (fun _ _ h => h) rsources2_wf14 rsources2_wf15 hat1 (fun a w hat => .inr ⟨.inl ⟨4, rfl⟩, .inl ⟨rfl, .inr ⟨(fun q => nomatch q), .inl ⟨rfl, ?_⟩⟩⟩⟩)
                              let r20 : Rho := (Rho.of [(iV x0), (iV x1), (iV x2), (iV x3), (iV x4), (iV x5), (iV x6), (iV x7), (.slice al l.length ql), (iV k0), (iV k1), (iV t0), (iV t1), (iV (((out.length : Nat) : Int))), (iV n), (iV (((l.length : Nat) : Int))), (iV (((out2.length : Nat) : Int))), (iV c), (iV ((n + 1)))] (fun b => w0.heap[b]?) [(flat srcC out), (flat srcC out2)])
                              have hat1 : @At r20 w0 rsources2_fr15 rsources2_st15 a w := At.shiftL (ρ1 := p15) (ρ2 := r20) (σ := [sy 0, sy 1, sy 2, sy 3, sy 4, sy 5, sy 6, sy 7, sy 8, sy 9, sy 10, sy 11, sy 12, sy 13, sy 14, sy 15, sy 16, sy 17]) (π := [0, 1, 2]) (τ := [some 0, some 1]) ⟨rfl, rfl, rfl, rfl, rfl, rfl, rfl, rfl, rfl, rfl, rfl, rfl, rfl, rfl, rfl, rfl, rfl, rfl, rfl, rfl, rfl, rfl, rfl, rfl, rfl, rfl, rfl, rfl, rfl, rfl, rfl, rfl, rfl, rfl, rfl, rfl, trivial⟩ ⟨rfl, rfl, trivial⟩ (fun _ _ h => h) rsources2_wf15 rsources2_id15 hat
                              refine At.pieceL (ρ1 := r20) (ρ2 := (Rho.of [(iV x0), (iV x1), (iV x2), (iV x3), (iV x4), (iV x5), (iV x6), (iV x7), (.slice al l.length ql), (iV k0), (iV k1), (iV t0), (iV t1), (iV ((((out2 : List Src).length : Nat) : Int))), (iV (((n + 1) : Int)))] (fun b => w0.heap[b]?) [(flat srcC (out2 : List Src))])) (@Env.Ok.symL r20 _ _ (@env_ok r20) rsources2_e20 rsources2_c20 rsources2_l20 rsources2_cl20 ⟨⟨rfl, rfl, fun w hm => (show KO w (.bin .add 3) [(iV n), (iV 1)] (iV ((n + 1))) from k_add (wrap64 (by omega)))⟩, trivial⟩ trivial trivial trivial) rsources2_r20 ⟨rfl, rfl, rfl, rfl, rfl, rfl, rfl, rfl, rfl, rfl, rfl, rfl, rfl, rfl, rfl, rfl, rfl, rfl, rfl, rfl, rfl, rfl, rfl, rfl, rfl, rfl, rfl, (by show (Value.int .i64 _) = Value.int .i64 _; simp), rfl, rfl, trivial⟩ ⟨(by show (flat srcC out2 : List Value) = (flat srcC out2); simp [flat_snoc, srcC]), trivial⟩ (fun _ _ h => h) rsources2_wf15 rsources2_wf11 hat1 (fun a w hat => .inl ⟨rfl, ⟨(out2, (n + 1)), ?_, ?_, hat⟩⟩)
                              · show (l.length - ((n + 1) : Int)).toNat < (l.length - n).toNat
                                omega
                              · show 0 ≤ ((n + 1) : Int) ∧ ((n + 1) : Int) ≤ l.length ∧ ((out2 : List Src).length : Int) ≤ 10 * ((n + 1) : Int) ∧ (out2 : List Src) = allL k0 k1 t0 t1 (l.take ((n + 1) : Int).toNat)
                                have e1 : (n + 1).toNat = n.toNat + 1 := by omega
                                refine ⟨by omega, by omega, by omega, ?_⟩
                                rw [e1, allL_succ (by omega), ← n3, show (k1 - k0 + 1).toNat = (c - k0).toNat by omega]
                                exact j3
                          · show k0 ≤ (k0 : Int) ∧ (k0 : Int) ≤ k1 + 1 ∧ ((out : List Src).length : Int) ≤ 10 * n + ((k0 : Int) - k0) ∧ (out : List Src) = out ++ classL (l.getD n.toNat 0) k0 t0 t1 ((k0 : Int) - k0).toNat
                            exact ⟨by omega, by omega, by omega, by simp [classL]⟩
                        · let r21 : Rho := (Rho.of [(iV x0), (iV x1), (iV x2), (iV x3), (iV x4), (iV x5), (iV x6), (iV x7), (.slice al l.length ql), (iV k0), (iV k1), (iV t0), (iV t1), (iV (((out.length : Nat) : Int))), (iV n), (iV (((l.length : Nat) : Int)))] (fun b => w0.heap[b]?) [(flat srcC out)])
                          have hat1 : @At r21 w0 rsources2_fr11 rsources2_st11 a w := At.shiftL (ρ1 := p11) (ρ2 := r21) (σ := [sy 0, sy 1, sy 2, sy 3, sy 4, sy 5, sy 6, sy 7, sy 8, sy 9, sy 10, sy 11, sy 12, sy 13, sy 14]) (π := [0, 1, 2]) (τ := [some 0]) ⟨rfl, rfl, rfl, rfl, rfl, rfl, rfl, rfl, rfl, rfl, rfl, rfl, rfl, rfl, rfl, rfl, rfl, rfl, rfl, rfl, rfl, rfl, rfl, rfl, rfl, rfl, rfl, rfl, rfl, rfl, trivial⟩ ⟨rfl, trivial⟩ (fun _ _ h => h) rsources2_wf11 rsources2_id11 hat
                          let p16 : Rho := (Rho.of [(iV x0), (iV x1), (iV x2), (iV x3), (iV x4), (iV x5), (iV x6), (iV x7), (.slice al l.length ql), (iV k0), (iV k1), (iV t0), (iV t1), (iV (((out.length : Nat) : Int)))] (fun b => w0.heap[b]?) [(flat srcC out)])
                          refine At.pieceL (ρ1 := r21) (ρ2 := p16) (@Env.Ok.symL r21 _ _ (@env_ok r21) rsources2_e21 rsources2_c21 rsources2_l21 rsources2_cl21 ⟨⟨rfl, rfl, fun w hm => (show KO w (.bi 0 [37]) [(.slice al l.length ql)] (iV (((l.length : Nat) : Int))) from k_len Try.underlying37)⟩, ⟨rfl, rfl, fun w hm => (show KO w (.bin .lss 3) [(iV n), (iV (((l.length : Nat) : Int)))] (.bool false) from k_lss_f c15)⟩, trivial⟩ trivial trivial trivial) rsources2_r21 ⟨rfl, rfl, rfl, rfl, rfl, rfl, rfl, rfl, rfl, rfl, rfl, rfl, rfl, rfl, rfl, rfl, rfl, rfl, rfl, rfl, rfl, rfl, rfl, rfl, rfl, rfl, rfl, rfl, trivial⟩ ⟨rfl, trivial⟩ (fun _ _ h => h) rsources2_wf11 rsources2_wf16 hat1 (fun a w hat => .inr ⟨(fun q => nomatch q), .inr ⟨.inl ⟨2, rfl⟩, .inl ⟨rfl, .inl ⟨rfl, ?_⟩⟩⟩⟩)
                          let r22 : Rho := (Rho.of [(iV x0), (iV x1), (iV x2), (iV x3), (iV x4), (iV x5), (iV x6), (iV x7), (.slice al l.length ql), (iV k0), (iV k1), (iV t0), (iV t1), (iV (((out.length : Nat) : Int)))] (fun b => w0.heap[b]?) [(flat srcC out)])
                          have hat1 : @At r22 w0 rsources2_fr16 rsources2_st16 a w := At.shiftL (ρ1 := p16) (ρ2 := r22) (σ := [sy 0, sy 1, sy 2, sy 3, sy 4, sy 5, sy 6, sy 7, sy 8, sy 9, sy 10, sy 11, sy 12, sy 13]) (π := [0]) (τ := [some 0]) ⟨rfl, rfl, rfl, rfl, rfl, rfl, rfl, rfl, rfl, rfl, rfl, rfl, rfl, rfl, rfl, rfl, rfl, rfl, rfl, rfl, rfl, rfl, rfl, rfl, rfl, rfl, rfl, rfl, trivial⟩ ⟨rfl, trivial⟩ (fun _ _ h => h) rsources2_wf16 rsources2_id16 hat
                          refine @At.lastK r22 Try.prog (env.symL [] [] [] []) (@Env.Ok.symL r22 _ _ (@env_ok r22) [] [] [] [] trivial trivial trivial trivial) w0 3000 rsources2_b20 Try.f22 rsources2_fr16 rsources2_st16 _ _ rsources2_r22 rsources2_wf16 a w hat1 (@endL_ok r22 Try.prog w0 (.tuple #[(.pointer (some ⟨0, 13, some 2⟩)), (iV 0)]) 0 13 0 54 5 (out.length) (some [(iV 0)]) (fun en w' => ∃ a C, en = .returned (.tuple #[.slice a (sourcesL x0 x1 x2 x3 x4 x5 x6 x7 l k0 k1 t0 t1).length C, iV (sourcesE x0 x1 x2 x3 x4 x5 x6 x7 l k0 k1 t0 t1)]) ∧ NewList w0 w' 54 5 (flat srcC (sourcesL x0 x1 x2 x3 x4 x5 x6 x7 l k0 k1 t0 t1)) a (sourcesL x0 x1 x2 x3 x4 x5 x6 x7 l k0 k1 t0 t1).length C ∧ Below w0.heap.size w0 w') rfl rfl (by show ((flat srcC out) : List Value).length = (out.length) * 5; first | exact flat_len (fun _ => rfl) _ | simp [flat_len (c := srcC) (sz := 5) (fun _ => rfl), srcC] <;> omega) (fun w2 a2 C2 hb hn => ?_))
                          have v0 : (0 : Int) = sourcesE x0 x1 x2 x3 x4 x5 x6 x7 l k0 k1 t0 t1 := by
                            have ha : ascErr (x0 * x1) l = 0 := asc_all (fun k hk => i2 k (by omega))
                            unfold sourcesE
                            first
                              | (rw [if_pos (by omega)] <;> omega)
                              | (rw [if_neg (by omega), if_pos (by omega)] <;> omega)
                              | (rw [if_neg (by omega), if_neg (by omega), if_pos (by omega)])
                              | (rw [if_neg (by omega), if_neg (by omega), if_neg (by omega), if_pos (by omega)])
                              | (rw [if_neg (by omega), if_neg (by omega), if_neg (by omega), if_neg (by omega)])
                          have hL : out = sourcesL x0 x1 x2 x3 x4 x5 x6 x7 l k0 k1 t0 t1 := by
                            unfold sourcesL
                            first
                              | (have hE : ¬ sourcesE x0 x1 x2 x3 x4 x5 x6 x7 l k0 k1 t0 t1 = 0 := by omega
                                 rw [if_neg hE])
                              | (have hE : sourcesE x0 x1 x2 x3 x4 x5 x6 x7 l k0 k1 t0 t1 = 0 := by omega
                                 rw [if_pos hE, n3, show n.toNat = l.length by omega, List.take_length])
                          have e1 : out.length = (sourcesL x0 x1 x2 x3 x4 x5 x6 x7 l k0 k1 t0 t1).length := by rw [← hL]; try first | rfl | simp
                          have e2 : ((flat srcC out) : List Value) = flat srcC (sourcesL x0 x1 x2 x3 x4 x5 x6 x7 l k0 k1 t0 t1) := by rw [← hL]; try first | rfl | simp [flat_snoc, srcC]
                          have hn2 : NewList w0 w2 54 5 (flat srcC (sourcesL x0 x1 x2 x3 x4 x5 x6 x7 l k0 k1 t0 t1)) a2 (sourcesL x0 x1 x2 x3 x4 x5 x6 x7 l k0 k1 t0 t1).length C2 := by rw [← e1, ← e2]; exact hn
                          have hv := congr (congrArg (fun (n2 : Nat) (y0 : Int) => (.tuple #[.slice a2 n2 C2, iV y0] : Value)) e1) v0
                          exact ⟨a2, C2, congrArg Ending.returned hv, hn2, hb⟩
                      · show 0 ≤ (0 : Int) ∧ (0 : Int) ≤ l.length ∧ (([] : List Src).length : Int) ≤ 10 * (0 : Int) ∧ ([] : List Src) = allL k0 k1 t0 t1 (l.take (0 : Int).toNat)
                        exact ⟨by omega, by omega, by simp, rfl⟩
                  · let r23 : Rho := (Rho.of [(iV x0), (iV x1), (iV x2), (iV x3), (iV x4), (iV x5), (iV x6), (iV x7), (.slice al l.length ql), (iV k0), (iV k1), (iV t0), (iV t1)] (fun b => w0.heap[b]?) [])
                    have hat1 : @At r23 w0 rsources2_fr6 rsources2_st6 a w := At.shiftL (ρ1 := p6) (ρ2 := r23) (σ := [sy 0, sy 1, sy 2, sy 3, sy 4, sy 5, sy 6, sy 7, sy 8, sy 9, sy 10, sy 11, sy 12]) (π := [0, 1]) (τ := []) ⟨rfl, rfl, rfl, rfl, rfl, rfl, rfl, rfl, rfl, rfl, rfl, rfl, rfl, rfl, rfl, rfl, rfl, rfl, rfl, rfl, rfl, rfl, rfl, rfl, rfl, rfl, trivial⟩ trivial (fun _ _ h => h) rsources2_wf6 rsources2_id6 hat
                    refine @At.retGK r23 Try.prog (env.symL rsources2_e23 rsources2_c23 rsources2_l23 rsources2_cl23) (@Env.Ok.symL r23 _ _ (@env_ok r23) rsources2_e23 rsources2_c23 rsources2_l23 rsources2_cl23 ⟨⟨rfl, rfl, fun w hm => (show KO w (.bin .leq 3) [(iV k0), (iV k1)] (.bool true) from k_leq_t c8)⟩, ⟨rfl, rfl, fun w hm => (show KO w (.bin .geq 3) [(iV k0), (iV 1)] (.bool true) from k_geq_t c9)⟩, ⟨rfl, rfl, fun w hm => (show KO w (.bin .leq 3) [(iV k1), (iV 10)] (.bool true) from k_leq_t c10)⟩, ⟨rfl, rfl, fun w hm => (show KO w (.bin .leq 3) [(iV t0), (iV t1)] (.bool true) from k_leq_t c11)⟩, ⟨rfl, rfl, fun w hm => (show KO w (.bin .geq 3) [(iV t0), (iV 0)] (.bool true) from k_geq_t c12)⟩, ⟨rfl, rfl, fun w hm => (show KO w (.bin .leq 3) [(iV t1), (iV 1000000000)] (.bool false) from k_leq_f c13)⟩, trivial⟩ trivial trivial trivial) w0 3000 rsources2_b13 Try.f22 rsources2_fr6 rsources2_st6 _ _ rsources2_r23 rsources2_wf6 a w hat1 (@endV_ok r23 w0 (.tuple #[(.slice .none 0 0), (iV 3)]) (fun en w' => ∃ a C, en = .returned (.tuple #[.slice a (sourcesL x0 x1 x2 x3 x4 x5 x6 x7 l k0 k1 t0 t1).length C, iV (sourcesE x0 x1 x2 x3 x4 x5 x6 x7 l k0 k1 t0 t1)]) ∧ NewList w0 w' 54 5 (flat srcC (sourcesL x0 x1 x2 x3 x4 x5 x6 x7 l k0 k1 t0 t1)) a (sourcesL x0 x1 x2 x3 x4 x5 x6 x7 l k0 k1 t0 t1).length C ∧ Below w0.heap.size w0 w') rfl (fun w2 hb => ?_)) _ (fun a w h => .inr ⟨(fun q => nomatch q), h⟩)
                    have v0 : (3 : Int) = sourcesE x0 x1 x2 x3 x4 x5 x6 x7 l k0 k1 t0 t1 := by
                      have ha : ascErr (x0 * x1) l = 0 := asc_all (fun k hk => i2 k (by omega))
                      unfold sourcesE
                      first
                        | (rw [if_pos (by omega)] <;> omega)
                        | (rw [if_neg (by omega), if_pos (by omega)] <;> omega)
                        | (rw [if_neg (by omega), if_neg (by omega), if_pos (by omega)])
                        | (rw [if_neg (by omega), if_neg (by omega), if_neg (by omega), if_pos (by omega)])
                        | (rw [if_neg (by omega), if_neg (by omega), if_neg (by omega), if_neg (by omega)])
                    have hL : [] = sourcesL x0 x1 x2 x3 x4 x5 x6 x7 l k0 k1 t0 t1 := by
                      unfold sourcesL
                      first
                        | (have hE : ¬ sourcesE x0 x1 x2 x3 x4 x5 x6 x7 l k0 k1 t0 t1 = 0 := by omega
                           rw [if_neg hE])
                        | (have hE : sourcesE x0 x1 x2 x3 x4 x5 x6 x7 l k0 k1 t0 t1 = 0 := by omega
                           rw [if_pos hE, n3, show n.toNat = l.length by omega, List.take_length])
                    have hN : (sourcesL x0 x1 x2 x3 x4 x5 x6 x7 l k0 k1 t0 t1).length = 0 := by rw [← hL]; rfl
                    refine ⟨none, 0, ?_, ⟨?_, .inl ⟨rfl, hN, rfl⟩⟩, hb⟩
                    · rw [hN]; exact congrArg Ending.returned (congrArg (fun (y0 : Int) => (.tuple #[.slice none 0 0, iV y0] : Value)) v0)
                    · rw [← hL]; rfl
                · let r24 : Rho := (Rho.of [(iV x0), (iV x1), (iV x2), (iV x3), (iV x4), (iV x5), (iV x6), (iV x7), (.slice al l.length ql), (iV k0), (iV k1), (iV t0), (iV t1)] (fun b => w0.heap[b]?) [])
                  have hat1 : @At r24 w0 rsources2_fr6 rsources2_st6 a w := At.shiftL (ρ1 := p6) (ρ2 := r24) (σ := [sy 0, sy 1, sy 2, sy 3, sy 4, sy 5, sy 6, sy 7, sy 8, sy 9, sy 10, sy 11, sy 12]) (π := [0, 1]) (τ := []) ⟨rfl, rfl, rfl, rfl, rfl, rfl, rfl, rfl, rfl, rfl, rfl, rfl, rfl, rfl, rfl, rfl, rfl, rfl, rfl, rfl, rfl, rfl, rfl, rfl, rfl, rfl, trivial⟩ trivial (fun _ _ h => h) rsources2_wf6 rsources2_id6 hat
                  refine @At.retGK r24 Try.prog (env.symL rsources2_e24 rsources2_c24 rsources2_l24 rsources2_cl24) (@Env.Ok.symL r24 _ _ (@env_ok r24) rsources2_e24 rsources2_c24 rsources2_l24 rsources2_cl24 ⟨⟨rfl, rfl, fun w hm => (show KO w (.bin .leq 3) [(iV k0), (iV k1)] (.bool true) from k_leq_t c8)⟩, ⟨rfl, rfl, fun w hm => (show KO w (.bin .geq 3) [(iV k0), (iV 1)] (.bool true) from k_geq_t c9)⟩, ⟨rfl, rfl, fun w hm => (show KO w (.bin .leq 3) [(iV k1), (iV 10)] (.bool true) from k_leq_t c10)⟩, ⟨rfl, rfl, fun w hm => (show KO w (.bin .leq 3) [(iV t0), (iV t1)] (.bool true) from k_leq_t c11)⟩, ⟨rfl, rfl, fun w hm => (show KO w (.bin .geq 3) [(iV t0), (iV 0)] (.bool false) from k_geq_f c12)⟩, trivial⟩ trivial trivial trivial) w0 3000 rsources2_b13 Try.f22 rsources2_fr6 rsources2_st6 _ _ rsources2_r24 rsources2_wf6 a w hat1 (@endV_ok r24 w0 (.tuple #[(.slice .none 0 0), (iV 3)]) (fun en w' => ∃ a C, en = .returned (.tuple #[.slice a (sourcesL x0 x1 x2 x3 x4 x5 x6 x7 l k0 k1 t0 t1).length C, iV (sourcesE x0 x1 x2 x3 x4 x5 x6 x7 l k0 k1 t0 t1)]) ∧ NewList w0 w' 54 5 (flat srcC (sourcesL x0 x1 x2 x3 x4 x5 x6 x7 l k0 k1 t0 t1)) a (sourcesL x0 x1 x2 x3 x4 x5 x6 x7 l k0 k1 t0 t1).length C ∧ Below w0.heap.size w0 w') rfl (fun w2 hb => ?_)) _ (fun a w h => .inr ⟨(fun q => nomatch q), h⟩)
                  have v0 : (3 : Int) = sourcesE x0 x1 x2 x3 x4 x5 x6 x7 l k0 k1 t0 t1 := by
                    have ha : ascErr (x0 * x1) l = 0 := asc_all (fun k hk => i2 k (by omega))
                    unfold sourcesE
                    first
                      | (rw [if_pos (by omega)] <;> omega)
                      | (rw [if_neg (by omega), if_pos (by omega)] <;> omega)
                      | (rw [if_neg (by omega), if_neg (by omega), if_pos (by omega)])
                      | (rw [if_neg (by omega), if_neg (by omega), if_neg (by omega), if_pos (by omega)])
                      | (rw [if_neg (by omega), if_neg (by omega), if_neg (by omega), if_neg (by omega)])
                  have hL : [] = sourcesL x0 x1 x2 x3 x4 x5 x6 x7 l k0 k1 t0 t1 := by
                    unfold sourcesL
                    first
                      | (have hE : ¬ sourcesE x0 x1 x2 x3 x4 x5 x6 x7 l k0 k1 t0 t1 = 0 := by omega
                         rw [if_neg hE])
                      | (have hE : sourcesE x0 x1 x2 x3 x4 x5 x6 x7 l k0 k1 t0 t1 = 0 := by omega
                         rw [if_pos hE, n3, show n.toNat = l.length by omega, List.take_length])
                  have hN : (sourcesL x0 x1 x2 x3 x4 x5 x6 x7 l k0 k1 t0 t1).length = 0 := by rw [← hL]; rfl
                  refine ⟨none, 0, ?_, ⟨?_, .inl ⟨rfl, hN, rfl⟩⟩, hb⟩
                  · rw [hN]; exact congrArg Ending.returned (congrArg (fun (y0 : Int) => (.tuple #[.slice none 0 0, iV y0] : Value)) v0)
                  · rw [← hL]; rfl
              · let r25 : Rho := (Rho.of [(iV x0), (iV x1), (iV x2), (iV x3), (iV x4), (iV x5), (iV x6), (iV x7), (.slice al l.length ql), (iV k0), (iV k1), (iV t0), (iV t1)] (fun b => w0.heap[b]?) [])
                have hat1 : @At r25 w0 rsources2_fr6 rsources2_st6 a w := At.shiftL (ρ1 := p6) (ρ2 := r25) (σ := [sy 0, sy 1, sy 2, sy 3, sy 4, sy 5, sy 6, sy 7, sy 8, sy 9, sy 10, sy 11, sy 12]) (π := [0, 1]) (τ := []) ⟨rfl, rfl, rfl, rfl, rfl, rfl, rfl, rfl, rfl, rfl, rfl, rfl, rfl, rfl, rfl, rfl, rfl, rfl, rfl, rfl, rfl, rfl, rfl, rfl, rfl, rfl, trivial⟩ trivial (fun _ _ h => h) rsources2_wf6 rsources2_id6 hat
                refine @At.retGK r25 Try.prog (env.symL rsources2_e25 rsources2_c25 rsources2_l25 rsources2_cl25) (@Env.Ok.symL r25 _ _ (@env_ok r25) rsources2_e25 rsources2_c25 rsources2_l25 rsources2_cl25 ⟨⟨rfl, rfl, fun w hm => (show KO w (.bin .leq 3) [(iV k0), (iV k1)] (.bool true) from k_leq_t c8)⟩, ⟨rfl, rfl, fun w hm => (show KO w (.bin .geq 3) [(iV k0), (iV 1)] (.bool true) from k_geq_t c9)⟩, ⟨rfl, rfl, fun w hm => (show KO w (.bin .leq 3) [(iV k1), (iV 10)] (.bool true) from k_leq_t c10)⟩, ⟨rfl, rfl, fun w hm => (show KO w (.bin .leq 3) [(iV t0), (iV t1)] (.bool false) from k_leq_f c11)⟩, trivial⟩ trivial trivial trivial) w0 3000 rsources2_b13 Try.f22 rsources2_fr6 rsources2_st6 _ _ rsources2_r25 rsources2_wf6 a w hat1 (@endV_ok r25 w0 (.tuple #[(.slice .none 0 0), (iV 3)]) (fun en w' => ∃ a C, en = .returned (.tuple #[.slice a (sourcesL x0 x1 x2 x3 x4 x5 x6 x7 l k0 k1 t0 t1).length C, iV (sourcesE x0 x1 x2 x3 x4 x5 x6 x7 l k0 k1 t0 t1)]) ∧ NewList w0 w' 54 5 (flat srcC (sourcesL x0 x1 x2 x3 x4 x5 x6 x7 l k0 k1 t0 t1)) a (sourcesL x0 x1 x2 x3 x4 x5 x6 x7 l k0 k1 t0 t1).length C ∧ Below w0.heap.size w0 w') rfl (fun w2 hb => ?_)) _ (fun a w h => .inr ⟨(fun q => nomatch q), h⟩)
                have v0 : (3 : Int) = sourcesE x0 x1 x2 x3 x4 x5 x6 x7 l k0 k1 t0 t1 := by
                  have ha : ascErr (x0 * x1) l = 0 := asc_all (fun k hk => i2 k (by omega))
                  unfold sourcesE
                  first
                    | (rw [if_pos (by omega)] <;> omega)
                    | (rw [if_neg (by omega), if_pos (by omega)] <;> omega)
                    | (rw [if_neg (by omega), if_neg (by omega), if_pos (by omega)])
                    | (rw [if_neg (by omega), if_neg (by omega), if_neg (by omega), if_pos (by omega)])
                    | (rw [if_neg (by omega), if_neg (by omega), if_neg (by omega), if_neg (by omega)])
                have hL : [] = sourcesL x0 x1 x2 x3 x4 x5 x6 x7 l k0 k1 t0 t1 := by
                  unfold sourcesL
                  first
                    | (have hE : ¬ sourcesE x0 x1 x2 x3 x4 x5 x6 x7 l k0 k1 t0 t1 = 0 := by omega
                       rw [if_neg hE])
                    | (have hE : sourcesE x0 x1 x2 x3 x4 x5 x6 x7 l k0 k1 t0 t1 = 0 := by omega
                       rw [if_pos hE, n3, show n.toNat = l.length by omega, List.take_length])
                have hN : (sourcesL x0 x1 x2 x3 x4 x5 x6 x7 l k0 k1 t0 t1).length = 0 := by rw [← hL]; rfl
                refine ⟨none, 0, ?_, ⟨?_, .inl ⟨rfl, hN, rfl⟩⟩, hb⟩
                · rw [hN]; exact congrArg Ending.returned (congrArg (fun (y0 : Int) => (.tuple #[.slice none 0 0, iV y0] : Value)) v0)
                · rw [← hL]; rfl
            · let r26 : Rho := (Rho.of [(iV x0), (iV x1), (iV x2), (iV x3), (iV x4), (iV x5), (iV x6), (iV x7), (.slice al l.length ql), (iV k0), (iV k1), (iV t0), (iV t1)] (fun b => w0.heap[b]?) [])
              have hat1 : @At r26 w0 rsources2_fr6 rsources2_st6 a w := At.shiftL (ρ1 := p6) (ρ2 := r26) (σ := [sy 0, sy 1, sy 2, sy 3, sy 4, sy 5, sy 6, sy 7, sy 8, sy 9, sy 10, sy 11, sy 12]) (π := [0, 1]) (τ := []) ⟨rfl, rfl, rfl, rfl, rfl, rfl, rfl, rfl, rfl, rfl, rfl, rfl, rfl, rfl, rfl, rfl, rfl, rfl, rfl, rfl, rfl, rfl, rfl, rfl, rfl, rfl, trivial⟩ trivial (fun _ _ h => h) rsources2_wf6 rsources2_id6 hat
              refine @At.retGK r26 Try.prog (env.symL rsources2_e26 rsources2_c26 rsources2_l26 rsources2_cl26) (@Env.Ok.symL r26 _ _ (@env_ok r26) rsources2_e26 rsources2_c26 rsources2_l26 rsources2_cl26 ⟨⟨rfl, rfl, fun w hm => (show KO w (.bin .leq 3) [(iV k0), (iV k1)] (.bool true) from k_leq_t c8)⟩, ⟨rfl, rfl, fun w hm => (show KO w (.bin .geq 3) [(iV k0), (iV 1)] (.bool true) from k_geq_t c9)⟩, ⟨rfl, rfl, fun w hm => (show KO w (.bin .leq 3) [(iV k1), (iV 10)] (.bool false) from k_leq_f c10)⟩, trivial⟩ trivial trivial trivial) w0 3000 rsources2_b13 Try.f22 rsources2_fr6 rsources2_st6 _ _ rsources2_r26 rsources2_wf6 a w hat1 (@endV_ok r26 w0 (.tuple #[(.slice .none 0 0), (iV 3)]) (fun en w' => ∃ a C, en = .returned (.tuple #[.slice a (sourcesL x0 x1 x2 x3 x4 x5 x6 x7 l k0 k1 t0 t1).length C, iV (sourcesE x0 x1 x2 x3 x4 x5 x6 x7 l k0 k1 t0 t1)]) ∧ NewList w0 w' 54 5 (flat srcC (sourcesL x0 x1 x2 x3 x4 x5 x6 x7 l k0 k1 t0 t1)) a (sourcesL x0 x1 x2 x3 x4 x5 x6 x7 l k0 k1 t0 t1).length C ∧ Below w0.heap.size w0 w') rfl (fun w2 hb => ?_)) _ (fun a w h => .inr ⟨(fun q => nomatch q), h⟩)
              have v0 : (3 : Int) = sourcesE x0 x1 x2 x3 x4 x5 x6 x7 l k0 k1 t0 t1 := by
                have ha : ascErr (x0 * x1) l = 0 := asc_all (fun k hk => i2 k (by omega))
                unfold sourcesE
                first
                  | (rw [if_pos (by omega)] <;> omega)
                  | (rw [if_neg (by omega), if_pos (by omega)] <;> omega)
                  | (rw [if_neg (by omega), if_neg (by omega), if_pos (by omega)])
                  | (rw [if_neg (by omega), if_neg (by omega), if_neg (by omega), if_pos (by omega)])
                  | (rw [if_neg (by omega), if_neg (by omega), if_neg (by omega), if_neg (by omega)])
              have hL : [] = sourcesL x0 x1 x2 x3 x4 x5 x6 x7 l k0 k1 t0 t1 := by
                unfold sourcesL
                first
                  | (have hE : ¬ sourcesE x0 x1 x2 x3 x4 x5 x6 x7 l k0 k1 t0 t1 = 0 := by omega
                     rw [if_neg hE])
                  | (have hE : sourcesE x0 x1 x2 x3 x4 x5 x6 x7 l k0 k1 t0 t1 = 0 := by omega
                     rw [if_pos hE, n3, show n.toNat = l.length by omega, List.take_length])
              have hN : (sourcesL x0 x1 x2 x3 x4 x5 x6 x7 l k0 k1 t0 t1).length = 0 := by rw [← hL]; rfl
              refine ⟨none, 0, ?_, ⟨?_, .inl ⟨rfl, hN, rfl⟩⟩, hb⟩
              · rw [hN]; exact congrArg Ending.returned (congrArg (fun (y0 : Int) => (.tuple #[.slice none 0 0, iV y0] : Value)) v0)
              · rw [← hL]; rfl
          · let r27 : Rho := (Rho.of [(iV x0), (iV x1), (iV x2), (iV x3), (iV x4), (iV x5), (iV x6), (iV x7), (.slice al l.length ql), (iV k0), (iV k1), (iV t0), (iV t1)] (fun b => w0.heap[b]?) [])
            have hat1 : @At r27 w0 rsources2_fr6 rsources2_st6 a w := At.shiftL (ρ1 := p6) (ρ2 := r27) (σ := [sy 0, sy 1, sy 2, sy 3, sy 4, sy 5, sy 6, sy 7, sy 8, sy 9, sy 10, sy 11, sy 12]) (π := [0, 1]) (τ := []) ⟨rfl, rfl, rfl, rfl, rfl, rfl, rfl, rfl, rfl, rfl, rfl, rfl, rfl, rfl, rfl, rfl, rfl, rfl, rfl, rfl, rfl, rfl, rfl, rfl, rfl, rfl, trivial⟩ trivial (fun _ _ h => h) rsources2_wf6 rsources2_id6 hat
            refine @At.retGK r27 Try.prog (env.symL rsources2_e27 rsources2_c27 rsources2_l27 rsources2_cl27) (@Env.Ok.symL r27 _ _ (@env_ok r27) rsources2_e27 rsources2_c27 rsources2_l27 rsources2_cl27 ⟨⟨rfl, rfl, fun w hm => (show KO w (.bin .leq 3) [(iV k0), (iV k1)] (.bool true) from k_leq_t c8)⟩, ⟨rfl, rfl, fun w hm => (show KO w (.bin .geq 3) [(iV k0), (iV 1)] (.bool false) from k_geq_f c9)⟩, trivial⟩ trivial trivial trivial) w0 3000 rsources2_b13 Try.f22 rsources2_fr6 rsources2_st6 _ _ rsources2_r27 rsources2_wf6 a w hat1 (@endV_ok r27 w0 (.tuple #[(.slice .none 0 0), (iV 3)]) (fun en w' => ∃ a C, en = .returned (.tuple #[.slice a (sourcesL x0 x1 x2 x3 x4 x5 x6 x7 l k0 k1 t0 t1).length C, iV (sourcesE x0 x1 x2 x3 x4 x5 x6 x7 l k0 k1 t0 t1)]) ∧ NewList w0 w' 54 5 (flat srcC (sourcesL x0 x1 x2 x3 x4 x5 x6 x7 l k0 k1 t0 t1)) a (sourcesL x0 x1 x2 x3 x4 x5 x6 x7 l k0 k1 t0 t1).length C ∧ Below w0.heap.size w0 w') rfl (fun w2 hb => ?_)) _ (fun a w h => .inr ⟨(fun q => nomatch q), h⟩)
            have v0 : (3 : Int) = sourcesE x0 x1 x2 x3 x4 x5 x6 x7 l k0 k1 t0 t1 := by
              have ha : ascErr (x0 * x1) l = 0 := asc_all (fun k hk => i2 k (by omega))
              unfold sourcesE
              first
                | (rw [if_pos (by omega)] <;> omega)
                | (rw [if_neg (by omega), if_pos (by omega)] <;> omega)
                | (rw [if_neg (by omega), if_neg (by omega), if_pos (by omega)])
                | (rw [if_neg (by omega), if_neg (by omega), if_neg (by omega), if_pos (by omega)])
                | (rw [if_neg (by omega), if_neg (by omega), if_neg (by omega), if_neg (by omega)])
            have hL : [] = sourcesL x0 x1 x2 x3 x4 x5 x6 x7 l k0 k1 t0 t1 := by
              unfold sourcesL
              first
                | (have hE : ¬ sourcesE x0 x1 x2 x3 x4 x5 x6 x7 l k0 k1 t0 t1 = 0 := by omega
                   rw [if_neg hE])
                | (have hE : sourcesE x0 x1 x2 x3 x4 x5 x6 x7 l k0 k1 t0 t1 = 0 := by omega
                   rw [if_pos hE, n3, show n.toNat = l.length by omega, List.take_length])
            have hN : (sourcesL x0 x1 x2 x3 x4 x5 x6 x7 l k0 k1 t0 t1).length = 0 := by rw [← hL]; rfl
            refine ⟨none, 0, ?_, ⟨?_, .inl ⟨rfl, hN, rfl⟩⟩, hb⟩
            · rw [hN]; exact congrArg Ending.returned (congrArg (fun (y0 : Int) => (.tuple #[.slice none 0 0, iV y0] : Value)) v0)
            · rw [← hL]; rfl
        · let r28 : Rho := (Rho.of [(iV x0), (iV x1), (iV x2), (iV x3), (iV x4), (iV x5), (iV x6), (iV x7), (.slice al l.length ql), (iV k0), (iV k1), (iV t0), (iV t1)] (fun b => w0.heap[b]?) [])
          have hat1 : @At r28 w0 rsources2_fr6 rsources2_st6 a w := At.shiftL (ρ1 := p6) (ρ2 := r28) (σ := [sy 0, sy 1, sy 2, sy 3, sy 4, sy 5, sy 6, sy 7, sy 8, sy 9, sy 10, sy 11, sy 12]) (π := [0, 1]) (τ := []) ⟨rfl, rfl, rfl, rfl, rfl, rfl, rfl, rfl, rfl, rfl, rfl, rfl, rfl, rfl, rfl, rfl, rfl, rfl, rfl, rfl, rfl, rfl, rfl, rfl, rfl, rfl, trivial⟩ trivial (fun _ _ h => h) rsources2_wf6 rsources2_id6 hat
          refine @At.retGK r28 Try.prog (env.symL rsources2_e28 rsources2_c28 rsources2_l28 rsources2_cl28) (@Env.Ok.symL r28 _ _ (@env_ok r28) rsources2_e28 rsources2_c28 rsources2_l28 rsources2_cl28 ⟨⟨rfl, rfl, fun w hm => (show KO w (.bin .leq 3) [(iV k0), (iV k1)] (.bool false) from k_leq_f c8)⟩, trivial⟩ trivial trivial trivial) w0 3000 rsources2_b13 Try.f22 rsources2_fr6 rsources2_st6 _ _ rsources2_r28 rsources2_wf6 a w hat1 (@endV_ok r28 w0 (.tuple #[(.slice .none 0 0), (iV 3)]) (fun en w' => ∃ a C, en = .returned (.tuple #[.slice a (sourcesL x0 x1 x2 x3 x4 x5 x6 x7 l k0 k1 t0 t1).length C, iV (sourcesE x0 x1 x2 x3 x4 x5 x6 x7 l k0 k1 t0 t1)]) ∧ NewList w0 w' 54 5 (flat srcC (sourcesL x0 x1 x2 x3 x4 x5 x6 x7 l k0 k1 t0 t1)) a (sourcesL x0 x1 x2 x3 x4 x5 x6 x7 l k0 k1 t0 t1).length C ∧ Below w0.heap.size w0 w') rfl (fun w2 hb => ?_)) _ (fun a w h => .inr ⟨(fun q => nomatch q), h⟩)
          have v0 : (3 : Int) = sourcesE x0 x1 x2 x3 x4 x5 x6 x7 l k0 k1 t0 t1 := by
            have ha : ascErr (x0 * x1) l = 0 := asc_all (fun k hk => i2 k (by omega))
            unfold sourcesE
            first
              | (rw [if_pos (by omega)] <;> omega)
              | (rw [if_neg (by omega), if_pos (by omega)] <;> omega)
              | (rw [if_neg (by omega), if_neg (by omega), if_pos (by omega)])
              | (rw [if_neg (by omega), if_neg (by omega), if_neg (by omega), if_pos (by omega)])
              | (rw [if_neg (by omega), if_neg (by omega), if_neg (by omega), if_neg (by omega)])
          have hL : [] = sourcesL x0 x1 x2 x3 x4 x5 x6 x7 l k0 k1 t0 t1 := by
            unfold sourcesL
            first
              | (have hE : ¬ sourcesE x0 x1 x2 x3 x4 x5 x6 x7 l k0 k1 t0 t1 = 0 := by omega
                 rw [if_neg hE])
              | (have hE : sourcesE x0 x1 x2 x3 x4 x5 x6 x7 l k0 k1 t0 t1 = 0 := by omega
                 rw [if_pos hE, n3, show n.toNat = l.length by omega, List.take_length])
          have hN : (sourcesL x0 x1 x2 x3 x4 x5 x6 x7 l k0 k1 t0 t1).length = 0 := by rw [← hL]; rfl
          refine ⟨none, 0, ?_, ⟨?_, .inl ⟨rfl, hN, rfl⟩⟩, hb⟩
          · rw [hN]; exact congrArg Ending.returned (congrArg (fun (y0 : Int) => (.tuple #[.slice none 0 0, iV y0] : Value)) v0)
          · rw [← hL]; rfl
    · show 0 ≤ (0 : Int) ∧ (0 : Int) ≤ l.length ∧ (∀ k : Nat, (k : Int) < (0 : Int) → ascAt (x0 * x1) l k = 0)
      exact ⟨by omega, by omega, fun k hk => by omega⟩
end Go.Proofs.Ytoaehigmpbhppaa.En
