/-
  Sources returns the list that the chapter asks for.
-/
import Derived.Test.YtoaehigmpbhppaaV1
namespace Go.Proofs.Ytoaehigmpbhppaa.En
open Go Go.Ev Go.Proofs Go.RowKit
set_option linter.unusedSimpArgs false
set_option linter.unusedVariables false
noncomputable def sources_b0 : Code := (Try.f21.body).getD .skip

noncomputable def sources_fr0 : Fr := mkFr Try.f21 [(0, (.agg #[(.chan (.some 0)), (.chan (.some 1)), (.chan (.some 2)), (.chan (.some 3)), (.chan (.some 4)), (.chan (.some 5)), (.chan (.some 6)), (.chan (.some 7))])), (1, (.chan (.some 8))), (2, (.agg #[(.chan (.some 9)), (.chan (.some 10))])), (3, (.agg #[(.chan (.some 11)), (.chan (.some 12))]))] []
noncomputable def sources_st0 : St := mkSt 0 []
theorem sources_wf0 : sources_st0.Wf := mkSt_wf rfl
set_option maxRecDepth 1000000 in
theorem sources_id0 : agreeL [sy 0, sy 1, sy 2, sy 3, sy 4, sy 5, sy 6, sy 7, sy 8, sy 9, sy 10, sy 11, sy 12] [] [] sources_fr0 sources_st0 sources_fr0 sources_st0 = true := by kernel_rfl

set_option maxRecDepth 1000000 in
theorem sources_a0 : agreeL [sy 0, sy 1, sy 2, sy 3, sy 4, sy 5, sy 6, sy 7, sy 8, sy 9, sy 10, sy 11, sy 12] [] [] sources_fr0 sources_st0 (frameOf Try.f21 [(.agg #[(.chan (.some 0)), (.chan (.some 1)), (.chan (.some 2)), (.chan (.some 3)), (.chan (.some 4)), (.chan (.some 5)), (.chan (.some 6)), (.chan (.some 7))]), (.chan (.some 8)), (.agg #[(.chan (.some 9)), (.chan (.some 10))]), (.agg #[(.chan (.some 11)), (.chan (.some 12))])]) Ev.start = true := by kernel_rfl

noncomputable def sources_b1 : Code := headC sources_b0

noncomputable def sources_b2 : Code := tailC sources_b0

set_option maxRecDepth 1000000 in
theorem sources_q0 : sources_b0 = .seq sources_b1 sources_b2 := by kernel_rfl

noncomputable def sources_fr1 : Fr := mkFr Try.f21 [(1, (.chan (.some 8))), (4, (.pointer (.some (.mk 0 0 .none)))), (6, (.pointer (.some (.mk 1 0 .none)))), (7, (.pointer (.some (.mk 2 0 .none)))), (8, (.slice .none 0 0)), (9, (iV (.ofNat 0)))] []
noncomputable def sources_st1 : St := mkSt 3 [(0, (.cells [(.chan (.some 0)), (.chan (.some 1)), (.chan (.some 2)), (.chan (.some 3)), (.chan (.some 4)), (.chan (.some 5)), (.chan (.some 6)), (.chan (.some 7))] 25 .none .false)), (1, (.cells [(.chan (.some 9)), (.chan (.some 10))] 23 .none .false)), (2, (.cells [(.chan (.some 11)), (.chan (.some 12))] 23 .none .false))]
theorem sources_wf1 : sources_st1.Wf := mkSt_wf rfl
set_option maxRecDepth 1000000 in
theorem sources_id1 : agreeL [sy 0, sy 1, sy 2, sy 3, sy 4, sy 5, sy 6, sy 7, sy 8, sy 9, sy 10, sy 11, sy 12] [0, 1, 2] [] sources_fr1 sources_st1 sources_fr1 sources_st1 = true := by kernel_rfl

set_option maxRecDepth 1000000 in
theorem sources_r0 : ev Try.prog (env.symL [] [] [] []) 3000 (.code sources_b1 none sources_fr0 sources_st0 (stopL .normal [sy 0, sy 1, sy 2, sy 3, sy 4, sy 5, sy 6, sy 7, sy 8, sy 9, sy 10, sy 11, sy 12] [0, 1, 2] [] sources_fr1 sources_st1)) = some () := by kernel_rfl

noncomputable def sources_b3 : Code := headC sources_b2

noncomputable def sources_b4 : Code := tailC sources_b2

set_option maxRecDepth 1000000 in
theorem sources_q1 : sources_b2 = .seq sources_b3 sources_b4 := by kernel_rfl

noncomputable def sources_e1 : List Ent := [⟨(.bin .neq 27), [(sy 13), (iV 0)], (.bool true)⟩]
noncomputable def sources_c1 : List CEnt := [⟨18, [(.agg #[(sy 0), (sy 1), (sy 2), (sy 3), (sy 4), (sy 5), (sy 6), (sy 7)])], [], (sy 13)⟩]
noncomputable def sources_l1 : List LEnt := []
noncomputable def sources_cl1 : List CLEnt := []

set_option maxRecDepth 1000000 in
theorem sources_r1 : ev Try.prog (env.symL sources_e1 sources_c1 sources_l1 sources_cl1) 3000 (.code sources_b3 none sources_fr1 sources_st1 (stopRK (env.symL sources_e1 sources_c1 sources_l1 sources_cl1) Try.f21 (endV (.tuple #[(.slice .none 0 0), (sy 13)])))) = some () := by kernel_rfl

noncomputable def sources_e2 : List Ent := [⟨(.bin .neq 27), [(sy 13), (iV 0)], (.bool false)⟩]
noncomputable def sources_c2 : List CEnt := [⟨18, [(.agg #[(sy 0), (sy 1), (sy 2), (sy 3), (sy 4), (sy 5), (sy 6), (sy 7)])], [], (sy 13)⟩]
noncomputable def sources_l2 : List LEnt := []
noncomputable def sources_cl2 : List CLEnt := []

noncomputable def sources_fr2 : Fr := mkFr Try.f21 [(1, (.chan (.some 8))), (4, (.pointer (.some (.mk 0 0 .none)))), (6, (.pointer (.some (.mk 1 0 .none)))), (7, (.pointer (.some (.mk 2 0 .none)))), (8, (.slice .none 0 0)), (9, (iV (.ofNat 0)))] []
noncomputable def sources_st2 : St := mkSt 3 [(0, (.cells [(.chan (.some 0)), (.chan (.some 1)), (.chan (.some 2)), (.chan (.some 3)), (.chan (.some 4)), (.chan (.some 5)), (.chan (.some 6)), (.chan (.some 7))] 25 .none .false)), (1, (.cells [(.chan (.some 9)), (.chan (.some 10))] 23 .none .false)), (2, (.cells [(.chan (.some 11)), (.chan (.some 12))] 23 .none .false))]
theorem sources_wf2 : sources_st2.Wf := mkSt_wf rfl
set_option maxRecDepth 1000000 in
theorem sources_id2 : agreeL [sy 0, sy 1, sy 2, sy 3, sy 4, sy 5, sy 6, sy 7, sy 8, sy 9, sy 10, sy 11, sy 12] [0, 1, 2] [] sources_fr2 sources_st2 sources_fr2 sources_st2 = true := by kernel_rfl

set_option maxRecDepth 1000000 in
theorem sources_r2 : ev Try.prog (env.symL sources_e2 sources_c2 sources_l2 sources_cl2) 3000 (.code sources_b3 none sources_fr1 sources_st1 (stopL .normal [sy 0, sy 1, sy 2, sy 3, sy 4, sy 5, sy 6, sy 7, sy 8, sy 9, sy 10, sy 11, sy 12] [0, 1, 2] [] sources_fr2 sources_st2)) = some () := by kernel_rfl

noncomputable def sources_b5 : Code := headC sources_b4

noncomputable def sources_b6 : Code := tailC sources_b4

set_option maxRecDepth 1000000 in
theorem sources_q2 : sources_b4 = .seq sources_b5 sources_b6 := by kernel_rfl

noncomputable def sources_e3 : List Ent := [⟨(.bin .mul 3), [(sy 0), (sy 1)], (sy 13)⟩, ⟨(.bin .neq 27), [(sy 14), (iV 0)], (.bool true)⟩]
noncomputable def sources_c3 : List CEnt := [⟨60, [(sy 8), (sy 13)], [], (sy 14)⟩]
noncomputable def sources_l3 : List LEnt := []
noncomputable def sources_cl3 : List CLEnt := []

set_option maxRecDepth 1000000 in
theorem sources_r3 : ev Try.prog (env.symL sources_e3 sources_c3 sources_l3 sources_cl3) 3000 (.code sources_b5 none sources_fr2 sources_st2 (stopRK (env.symL sources_e3 sources_c3 sources_l3 sources_cl3) Try.f21 (endV (.tuple #[(.slice .none 0 0), (sy 14)])))) = some () := by kernel_rfl

noncomputable def sources_e4 : List Ent := [⟨(.bin .mul 3), [(sy 0), (sy 1)], (sy 13)⟩, ⟨(.bin .neq 27), [(sy 14), (iV 0)], (.bool false)⟩]
noncomputable def sources_c4 : List CEnt := [⟨60, [(sy 8), (sy 13)], [], (sy 14)⟩]
noncomputable def sources_l4 : List LEnt := []
noncomputable def sources_cl4 : List CLEnt := []

noncomputable def sources_fr3 : Fr := mkFr Try.f21 [(1, (.chan (.some 8))), (6, (.pointer (.some (.mk 0 0 .none)))), (7, (.pointer (.some (.mk 1 0 .none)))), (8, (.slice .none 0 0)), (9, (iV (.ofNat 0)))] []
noncomputable def sources_st3 : St := mkSt 2 [(0, (.cells [(.chan (.some 9)), (.chan (.some 10))] 23 .none .false)), (1, (.cells [(.chan (.some 11)), (.chan (.some 12))] 23 .none .false))]
theorem sources_wf3 : sources_st3.Wf := mkSt_wf rfl
set_option maxRecDepth 1000000 in
theorem sources_id3 : agreeL [sy 0, sy 1, sy 2, sy 3, sy 4, sy 5, sy 6, sy 7, sy 8, sy 9, sy 10, sy 11, sy 12] [0, 1] [] sources_fr3 sources_st3 sources_fr3 sources_st3 = true := by kernel_rfl

set_option maxRecDepth 1000000 in
theorem sources_r4 : ev Try.prog (env.symL sources_e4 sources_c4 sources_l4 sources_cl4) 3000 (.code sources_b5 none sources_fr2 sources_st2 (stopL .normal [sy 0, sy 1, sy 2, sy 3, sy 4, sy 5, sy 6, sy 7, sy 8, sy 9, sy 10, sy 11, sy 12] [1, 2] [] sources_fr3 sources_st3)) = some () := by kernel_rfl

noncomputable def sources_b7 : Code := headC sources_b6

noncomputable def sources_b8 : Code := tailC sources_b6

set_option maxRecDepth 1000000 in
theorem sources_q3 : sources_b6 = .seq sources_b7 sources_b8 := by kernel_rfl

noncomputable def sources_e5 : List Ent := [⟨(.bin .leq 3), [(sy 9), (sy 10)], (.bool true)⟩, ⟨(.bin .geq 3), [(sy 9), (iV 1)], (.bool true)⟩, ⟨(.bin .leq 3), [(sy 10), (iV 10)], (.bool true)⟩, ⟨(.bin .leq 3), [(sy 11), (sy 12)], (.bool true)⟩, ⟨(.bin .geq 3), [(sy 11), (iV 0)], (.bool true)⟩, ⟨(.bin .leq 3), [(sy 12), (iV 1000000000)], (.bool true)⟩]
noncomputable def sources_c5 : List CEnt := []
noncomputable def sources_l5 : List LEnt := []
noncomputable def sources_cl5 : List CLEnt := []

noncomputable def sources_fr4 : Fr := mkFr Try.f21 [(1, (.chan (.some 8))), (6, (.pointer (.some (.mk 0 0 .none)))), (7, (.pointer (.some (.mk 1 0 .none)))), (8, (.slice .none 0 0)), (9, (iV (.ofNat 0)))] []
noncomputable def sources_st4 : St := mkSt 2 [(0, (.cells [(.chan (.some 9)), (.chan (.some 10))] 23 .none .false)), (1, (.cells [(.chan (.some 11)), (.chan (.some 12))] 23 .none .false))]
theorem sources_wf4 : sources_st4.Wf := mkSt_wf rfl
set_option maxRecDepth 1000000 in
theorem sources_id4 : agreeL [sy 0, sy 1, sy 2, sy 3, sy 4, sy 5, sy 6, sy 7, sy 8, sy 9, sy 10, sy 11, sy 12] [0, 1] [] sources_fr4 sources_st4 sources_fr4 sources_st4 = true := by kernel_rfl

set_option maxRecDepth 1000000 in
theorem sources_r5 : ev Try.prog (env.symL sources_e5 sources_c5 sources_l5 sources_cl5) 3000 (.code sources_b7 none sources_fr3 sources_st3 (stopL .normal [sy 0, sy 1, sy 2, sy 3, sy 4, sy 5, sy 6, sy 7, sy 8, sy 9, sy 10, sy 11, sy 12] [0, 1] [] sources_fr4 sources_st4)) = some () := by kernel_rfl

noncomputable def sources_b9 : Code := headC sources_b8

noncomputable def sources_b10 : Code := tailC sources_b8

set_option maxRecDepth 1000000 in
theorem sources_q4 : sources_b8 = .seq sources_b9 sources_b10 := by kernel_rfl

noncomputable def sources_e6 : List Ent := [⟨(.bi 0 [37]), [(sy 8)], (sy 13)⟩, ⟨(.bin .sub 3), [(sy 10), (sy 9)], (sy 14)⟩, ⟨(.bin .add 3), [(sy 14), (iV 1)], (sy 15)⟩, ⟨(.bin .mul 3), [(sy 13), (sy 15)], (sy 16)⟩, ⟨(.bin .gtr 3), [(sy 16), (iV 256)], (.bool true)⟩]
noncomputable def sources_c6 : List CEnt := []
noncomputable def sources_l6 : List LEnt := []
noncomputable def sources_cl6 : List CLEnt := []

set_option maxRecDepth 1000000 in
theorem sources_r6 : ev Try.prog (env.symL sources_e6 sources_c6 sources_l6 sources_cl6) 3000 (.code sources_b9 none sources_fr4 sources_st4 (stopRK (env.symL sources_e6 sources_c6 sources_l6 sources_cl6) Try.f21 (endV (.tuple #[(.slice .none 0 0), (iV 9)])))) = some () := by kernel_rfl

noncomputable def sources_e7 : List Ent := [⟨(.bi 0 [37]), [(sy 8)], (sy 13)⟩, ⟨(.bin .sub 3), [(sy 10), (sy 9)], (sy 14)⟩, ⟨(.bin .add 3), [(sy 14), (iV 1)], (sy 15)⟩, ⟨(.bin .mul 3), [(sy 13), (sy 15)], (sy 16)⟩, ⟨(.bin .gtr 3), [(sy 16), (iV 256)], (.bool false)⟩]
noncomputable def sources_c7 : List CEnt := []
noncomputable def sources_l7 : List LEnt := []
noncomputable def sources_cl7 : List CLEnt := []

noncomputable def sources_fr5 : Fr := mkFr Try.f21 [(1, (.chan (.some 8))), (6, (.pointer (.some (.mk 0 0 .none)))), (7, (.pointer (.some (.mk 1 0 .none)))), (8, (.slice .none 0 0)), (9, (iV (.ofNat 0)))] []
noncomputable def sources_st5 : St := mkSt 2 [(0, (.cells [(.chan (.some 9)), (.chan (.some 10))] 23 .none .false)), (1, (.cells [(.chan (.some 11)), (.chan (.some 12))] 23 .none .false))]
theorem sources_wf5 : sources_st5.Wf := mkSt_wf rfl
set_option maxRecDepth 1000000 in
theorem sources_id5 : agreeL [sy 0, sy 1, sy 2, sy 3, sy 4, sy 5, sy 6, sy 7, sy 8, sy 9, sy 10, sy 11, sy 12] [0, 1] [] sources_fr5 sources_st5 sources_fr5 sources_st5 = true := by kernel_rfl

set_option maxRecDepth 1000000 in
theorem sources_r7 : ev Try.prog (env.symL sources_e7 sources_c7 sources_l7 sources_cl7) 3000 (.code sources_b9 none sources_fr4 sources_st4 (stopL .normal [sy 0, sy 1, sy 2, sy 3, sy 4, sy 5, sy 6, sy 7, sy 8, sy 9, sy 10, sy 11, sy 12] [0, 1] [] sources_fr5 sources_st5)) = some () := by kernel_rfl

noncomputable def sources_b11 : Code := headC sources_b10

noncomputable def sources_b12 : Code := tailC sources_b10

set_option maxRecDepth 1000000 in
theorem sources_q5 : sources_b10 = .seq sources_b11 sources_b12 := by kernel_rfl

noncomputable def sources_fr6 : Fr := mkFr Try.f21 [(1, (.chan (.some 8))), (6, (.pointer (.some (.mk 0 0 .none)))), (7, (.pointer (.some (.mk 1 0 .none)))), (8, (.slice .none 0 0)), (9, (iV (.ofNat 0))), (12, (.slice .none 0 0))] []
noncomputable def sources_st6 : St := mkSt 2 [(0, (.cells [(.chan (.some 9)), (.chan (.some 10))] 23 .none .false)), (1, (.cells [(.chan (.some 11)), (.chan (.some 12))] 23 .none .false))]
theorem sources_wf6 : sources_st6.Wf := mkSt_wf rfl
set_option maxRecDepth 1000000 in
theorem sources_id6 : agreeL [sy 0, sy 1, sy 2, sy 3, sy 4, sy 5, sy 6, sy 7, sy 8, sy 9, sy 10, sy 11, sy 12] [0, 1] [] sources_fr6 sources_st6 sources_fr6 sources_st6 = true := by kernel_rfl

set_option maxRecDepth 1000000 in
theorem sources_r8 : ev Try.prog (env.symL [] [] [] []) 3000 (.code sources_b11 none sources_fr5 sources_st5 (stopL .normal [sy 0, sy 1, sy 2, sy 3, sy 4, sy 5, sy 6, sy 7, sy 8, sy 9, sy 10, sy 11, sy 12] [0, 1] [] sources_fr6 sources_st6)) = some () := by kernel_rfl

noncomputable def sources_b13 : Code := headC sources_b12

noncomputable def sources_b14 : Code := tailC sources_b12

set_option maxRecDepth 1000000 in
theorem sources_q6 : sources_b12 = .seq sources_b13 sources_b14 := by kernel_rfl

noncomputable def sources_b15 : Code := headC sources_b13

noncomputable def sources_b16 : Code := tailC sources_b13

set_option maxRecDepth 1000000 in
theorem sources_q7 : sources_b13 = .seq sources_b15 sources_b16 := by kernel_rfl

noncomputable def sources_e9 : List Ent := [⟨(.bi 0 [37]), [(sy 8)], (sy 13)⟩]
noncomputable def sources_c9 : List CEnt := []
noncomputable def sources_l9 : List LEnt := []
noncomputable def sources_cl9 : List CLEnt := []

noncomputable def sources_fr7 : Fr := mkFr Try.f21 [(6, (.pointer (.some (.mk 0 0 .none)))), (7, (.pointer (.some (.mk 1 0 .none)))), (8, (.slice .none 0 0)), (9, (iV (.ofNat 0))), (12, (.slice .none 0 0)), (49, (.chan (.some 8))), (50, (.chan (.some 13))), (51, (iV (.ofNat 0)))] []
noncomputable def sources_st7 : St := mkSt 2 [(0, (.cells [(.chan (.some 9)), (.chan (.some 10))] 23 .none .false)), (1, (.cells [(.chan (.some 11)), (.chan (.some 12))] 23 .none .false))]
theorem sources_wf7 : sources_st7.Wf := mkSt_wf rfl
set_option maxRecDepth 1000000 in
theorem sources_id7 : agreeL [sy 0, sy 1, sy 2, sy 3, sy 4, sy 5, sy 6, sy 7, sy 8, sy 9, sy 10, sy 11, sy 12, sy 13] [0, 1] [] sources_fr7 sources_st7 sources_fr7 sources_st7 = true := by kernel_rfl

set_option maxRecDepth 1000000 in
theorem sources_r9 : ev Try.prog (env.symL sources_e9 sources_c9 sources_l9 sources_cl9) 3000 (.code sources_b15 none sources_fr6 sources_st6 (stopL .normal [sy 0, sy 1, sy 2, sy 3, sy 4, sy 5, sy 6, sy 7, sy 8, sy 9, sy 10, sy 11, sy 12, sy 13] [0, 1] [] sources_fr7 sources_st7)) = some () := by kernel_rfl

noncomputable def sources_b17 : Code := inBlockC sources_b16

set_option maxRecDepth 1000000 in
theorem sources_q8 : sources_b16 = .block 0 sources_b17 := by kernel_rfl

noncomputable def sources_b18 : Code := inLoopC sources_b17

set_option maxRecDepth 1000000 in
theorem sources_q9 : sources_b17 = .loop sources_b18 := by kernel_rfl

noncomputable def sources_fr8 : Fr := mkFr Try.f21 [(6, (.pointer (.some (.mk 0 0 .none)))), (7, (.pointer (.some (.mk 1 0 .none)))), (8, (.slice .none 0 0)), (9, (iV (.ofNat 0))), (12, (.pointer (.some (.mk 2 14 (.some 2))))), (49, (.chan (.some 8))), (50, (.chan (.some 13))), (51, (.chan (.some 15)))] []
noncomputable def sources_st8 : St := mkSt 3 [(0, (.cells [(.chan (.some 9)), (.chan (.some 10))] 23 .none .false)), (1, (.cells [(.chan (.some 11)), (.chan (.some 12))] 23 .none .false)), (2, (.lst 0 54 5))]
theorem sources_wf8 : sources_st8.Wf := mkSt_wf rfl
set_option maxRecDepth 1000000 in
theorem sources_id8 : agreeL [sy 0, sy 1, sy 2, sy 3, sy 4, sy 5, sy 6, sy 7, sy 8, sy 9, sy 10, sy 11, sy 12, sy 13, sy 14, sy 15] [0, 1, 2] [some 0] sources_fr8 sources_st8 sources_fr8 sources_st8 = true := by kernel_rfl

set_option maxRecDepth 1000000 in
theorem sources_h10 : agreeL [(sy 0), (sy 1), (sy 2), (sy 3), (sy 4), (sy 5), (sy 6), (sy 7), (sy 8), (sy 9), (sy 10), (sy 11), (sy 12), (sy 13), (iV 0), (iV 0)] [0, 1, 2] [none] sources_fr8 sources_st8 sources_fr7 sources_st7 = true := by kernel_rfl

noncomputable def sources_b19 : Code := headC sources_b18

noncomputable def sources_b20 : Code := tailC sources_b18

set_option maxRecDepth 1000000 in
theorem sources_q11 : sources_b18 = .seq sources_b19 sources_b20 := by kernel_rfl

noncomputable def sources_e10 : List Ent := [⟨(.bin .lss 3), [(sy 15), (sy 13)], (.bool true)⟩]
noncomputable def sources_c10 : List CEnt := []
noncomputable def sources_l10 : List LEnt := []
noncomputable def sources_cl10 : List CLEnt := []

noncomputable def sources_fr9 : Fr := mkFr Try.f21 [(6, (.pointer (.some (.mk 0 0 .none)))), (7, (.pointer (.some (.mk 1 0 .none)))), (8, (.slice .none 0 0)), (9, (iV (.ofNat 0))), (12, (.pointer (.some (.mk 2 14 (.some 2))))), (49, (.chan (.some 8))), (50, (.chan (.some 13))), (51, (.chan (.some 15))), (52, (.bool .true))] []
noncomputable def sources_st9 : St := mkSt 3 [(0, (.cells [(.chan (.some 9)), (.chan (.some 10))] 23 .none .false)), (1, (.cells [(.chan (.some 11)), (.chan (.some 12))] 23 .none .false)), (2, (.lst 0 54 5))]
theorem sources_wf9 : sources_st9.Wf := mkSt_wf rfl
set_option maxRecDepth 1000000 in
theorem sources_id9 : agreeL [sy 0, sy 1, sy 2, sy 3, sy 4, sy 5, sy 6, sy 7, sy 8, sy 9, sy 10, sy 11, sy 12, sy 13, sy 14, sy 15] [0, 1, 2] [some 0] sources_fr9 sources_st9 sources_fr9 sources_st9 = true := by kernel_rfl

set_option maxRecDepth 1000000 in
theorem sources_r10 : ev Try.prog (env.symL sources_e10 sources_c10 sources_l10 sources_cl10) 3000 (.code sources_b19 none sources_fr8 sources_st8 (stopL .normal [sy 0, sy 1, sy 2, sy 3, sy 4, sy 5, sy 6, sy 7, sy 8, sy 9, sy 10, sy 11, sy 12, sy 13, sy 14, sy 15] [0, 1, 2] [some 0] sources_fr9 sources_st9)) = some () := by kernel_rfl

noncomputable def sources_b21 : Code := headC sources_b20

noncomputable def sources_b22 : Code := tailC sources_b20

set_option maxRecDepth 1000000 in
theorem sources_q12 : sources_b20 = .seq sources_b21 sources_b22 := by kernel_rfl

noncomputable def sources_fr10 : Fr := mkFr Try.f21 [(6, (.pointer (.some (.mk 0 0 .none)))), (7, (.pointer (.some (.mk 1 0 .none)))), (8, (.slice .none 0 0)), (9, (iV (.ofNat 0))), (12, (.pointer (.some (.mk 2 14 (.some 2))))), (49, (.chan (.some 8))), (50, (.chan (.some 13))), (51, (.chan (.some 15))), (52, (.bool .true))] []
noncomputable def sources_st10 : St := mkSt 3 [(0, (.cells [(.chan (.some 9)), (.chan (.some 10))] 23 .none .false)), (1, (.cells [(.chan (.some 11)), (.chan (.some 12))] 23 .none .false)), (2, (.lst 0 54 5))]
theorem sources_wf10 : sources_st10.Wf := mkSt_wf rfl
set_option maxRecDepth 1000000 in
theorem sources_id10 : agreeL [sy 0, sy 1, sy 2, sy 3, sy 4, sy 5, sy 6, sy 7, sy 8, sy 9, sy 10, sy 11, sy 12, sy 13, sy 14, sy 15] [0, 1, 2] [some 0] sources_fr10 sources_st10 sources_fr10 sources_st10 = true := by kernel_rfl

set_option maxRecDepth 1000000 in
theorem sources_r11 : ev Try.prog (env.symL [] [] [] []) 3000 (.code sources_b21 none sources_fr9 sources_st9 (stopL .normal [sy 0, sy 1, sy 2, sy 3, sy 4, sy 5, sy 6, sy 7, sy 8, sy 9, sy 10, sy 11, sy 12, sy 13, sy 14, sy 15] [0, 1, 2] [some 0] sources_fr10 sources_st10)) = some () := by kernel_rfl

noncomputable def sources_b23 : Code := headC sources_b22

noncomputable def sources_b24 : Code := tailC sources_b22

set_option maxRecDepth 1000000 in
theorem sources_q13 : sources_b22 = .seq sources_b23 sources_b24 := by kernel_rfl

noncomputable def sources_b25 : Code := inBlockC sources_b23

set_option maxRecDepth 1000000 in
theorem sources_q14 : sources_b23 = .block 1 sources_b25 := by kernel_rfl

noncomputable def sources_b26 : Code := headC sources_b25

noncomputable def sources_b27 : Code := tailC sources_b25

set_option maxRecDepth 1000000 in
theorem sources_q15 : sources_b25 = .seq sources_b26 sources_b27 := by kernel_rfl

noncomputable def sources_e12 : List Ent := [⟨(.indexAddr 37), [(sy 8), (sy 15)], (sy 16)⟩, ⟨(.load 3), [(sy 16)], (sy 17)⟩]
noncomputable def sources_c12 : List CEnt := []
noncomputable def sources_l12 : List LEnt := []
noncomputable def sources_cl12 : List CLEnt := []

noncomputable def sources_fr11 : Fr := mkFr Try.f21 [(6, (.pointer (.some (.mk 0 0 .none)))), (7, (.pointer (.some (.mk 1 0 .none)))), (8, (.slice .none 0 0)), (9, (iV (.ofNat 0))), (12, (.pointer (.some (.mk 2 14 (.some 2))))), (14, (.chan (.some 17))), (49, (.chan (.some 8))), (50, (.chan (.some 13))), (51, (.chan (.some 15))), (52, (.bool .true)), (53, (.chan (.some 16))), (54, (.chan (.some 17)))] []
noncomputable def sources_st11 : St := mkSt 3 [(0, (.cells [(.chan (.some 9)), (.chan (.some 10))] 23 .none .false)), (1, (.cells [(.chan (.some 11)), (.chan (.some 12))] 23 .none .false)), (2, (.lst 0 54 5))]
theorem sources_wf11 : sources_st11.Wf := mkSt_wf rfl
set_option maxRecDepth 1000000 in
theorem sources_id11 : agreeL [sy 0, sy 1, sy 2, sy 3, sy 4, sy 5, sy 6, sy 7, sy 8, sy 9, sy 10, sy 11, sy 12, sy 13, sy 14, sy 15, sy 16, sy 17] [0, 1, 2] [some 0] sources_fr11 sources_st11 sources_fr11 sources_st11 = true := by kernel_rfl

set_option maxRecDepth 1000000 in
theorem sources_r12 : ev Try.prog (env.symL sources_e12 sources_c12 sources_l12 sources_cl12) 3000 (.code sources_b26 none sources_fr10 sources_st10 (stopL .normal [sy 0, sy 1, sy 2, sy 3, sy 4, sy 5, sy 6, sy 7, sy 8, sy 9, sy 10, sy 11, sy 12, sy 13, sy 14, sy 15, sy 16, sy 17] [0, 1, 2] [some 0] sources_fr11 sources_st11)) = some () := by kernel_rfl

noncomputable def sources_b28 : Code := headC sources_b27

noncomputable def sources_b29 : Code := tailC sources_b27

set_option maxRecDepth 1000000 in
theorem sources_q16 : sources_b27 = .seq sources_b28 sources_b29 := by kernel_rfl

noncomputable def sources_fr12 : Fr := mkFr Try.f21 [(6, (.pointer (.some (.mk 0 0 .none)))), (7, (.pointer (.some (.mk 1 0 .none)))), (8, (.slice .none 0 0)), (9, (iV (.ofNat 0))), (12, (.pointer (.some (.mk 2 14 (.some 2))))), (14, (.chan (.some 17))), (15, (.chan (.some 9))), (49, (.chan (.some 8))), (50, (.chan (.some 13))), (51, (.chan (.some 15))), (52, (.bool .true)), (53, (.chan (.some 16))), (54, (.chan (.some 17))), (55, (.pointer (.some (.mk 0 0 .none)))), (56, (.chan (.some 9)))] []
noncomputable def sources_st12 : St := mkSt 3 [(0, (.cells [(.chan (.some 9)), (.chan (.some 10))] 23 .none .false)), (1, (.cells [(.chan (.some 11)), (.chan (.some 12))] 23 .none .false)), (2, (.lst 0 54 5))]
theorem sources_wf12 : sources_st12.Wf := mkSt_wf rfl
set_option maxRecDepth 1000000 in
theorem sources_id12 : agreeL [sy 0, sy 1, sy 2, sy 3, sy 4, sy 5, sy 6, sy 7, sy 8, sy 9, sy 10, sy 11, sy 12, sy 13, sy 14, sy 15, sy 16, sy 17] [0, 1, 2] [some 0] sources_fr12 sources_st12 sources_fr12 sources_st12 = true := by kernel_rfl

set_option maxRecDepth 1000000 in
theorem sources_r13 : ev Try.prog (env.symL [] [] [] []) 3000 (.code sources_b28 none sources_fr11 sources_st11 (stopL .normal [sy 0, sy 1, sy 2, sy 3, sy 4, sy 5, sy 6, sy 7, sy 8, sy 9, sy 10, sy 11, sy 12, sy 13, sy 14, sy 15, sy 16, sy 17] [0, 1, 2] [some 0] sources_fr12 sources_st12)) = some () := by kernel_rfl

noncomputable def sources_b30 : Code := inBlockC sources_b29

set_option maxRecDepth 1000000 in
theorem sources_q17 : sources_b29 = .block 2 sources_b30 := by kernel_rfl

noncomputable def sources_b31 : Code := inLoopC sources_b30

set_option maxRecDepth 1000000 in
theorem sources_q18 : sources_b30 = .loop sources_b31 := by kernel_rfl

noncomputable def sources_fr13 : Fr := mkFr Try.f21 [(6, (.pointer (.some (.mk 0 0 .none)))), (7, (.pointer (.some (.mk 1 0 .none)))), (8, (.slice .none 0 0)), (9, (iV (.ofNat 0))), (12, (.pointer (.some (.mk 2 18 (.some 2))))), (14, (.chan (.some 17))), (15, (.chan (.some 19))), (49, (.chan (.some 8))), (50, (.chan (.some 13))), (51, (.chan (.some 15))), (52, (.bool .true)), (53, (.chan (.some 16))), (54, (.chan (.some 17))), (55, (.pointer (.some (.mk 0 0 .none)))), (56, (.chan (.some 9)))] []
noncomputable def sources_st13 : St := mkSt 3 [(0, (.cells [(.chan (.some 9)), (.chan (.some 10))] 23 .none .false)), (1, (.cells [(.chan (.some 11)), (.chan (.some 12))] 23 .none .false)), (2, (.lst 1 54 5))]
theorem sources_wf13 : sources_st13.Wf := mkSt_wf rfl
set_option maxRecDepth 1000000 in
theorem sources_id13 : agreeL [sy 0, sy 1, sy 2, sy 3, sy 4, sy 5, sy 6, sy 7, sy 8, sy 9, sy 10, sy 11, sy 12, sy 13, sy 14, sy 15, sy 16, sy 17, sy 18, sy 19] [0, 1, 2] [some 0, some 1] sources_fr13 sources_st13 sources_fr13 sources_st13 = true := by kernel_rfl

set_option maxRecDepth 1000000 in
theorem sources_h19 : agreeL [(sy 0), (sy 1), (sy 2), (sy 3), (sy 4), (sy 5), (sy 6), (sy 7), (sy 8), (sy 9), (sy 10), (sy 11), (sy 12), (sy 13), (sy 14), (sy 15), (sy 16), (sy 17), (sy 14), (sy 9)] [0, 1, 2] [some 0, some 0] sources_fr13 sources_st13 sources_fr12 sources_st12 = true := by kernel_rfl

noncomputable def sources_e14 : List Ent := [⟨(.bin .leq 3), [(sy 19), (sy 10)], (.bool true)⟩, ⟨(.bin .add 3), [(sy 19), (iV 1)], (sy 21)⟩]
noncomputable def sources_c14 : List CEnt := []
noncomputable def sources_l14 : List LEnt := [(.grow 1 18 1 5 [(iV 1), (sy 17), (sy 19), (sy 11), (sy 12)] 2 20)]
noncomputable def sources_cl14 : List CLEnt := []

set_option maxRecDepth 1000000 in
theorem sources_r14 : ev Try.prog (env.symL sources_e14 sources_c14 sources_l14 sources_cl14) 3000 (.code sources_b31 none sources_fr13 sources_st13 (stopL .normal [(sy 0), (sy 1), (sy 2), (sy 3), (sy 4), (sy 5), (sy 6), (sy 7), (sy 8), (sy 9), (sy 10), (sy 11), (sy 12), (sy 13), (sy 14), (sy 15), (sy 16), (sy 17), (sy 20), (sy 21)] [0, 1, 4] [some 0, some 2] sources_fr13 sources_st13)) = some () := by kernel_rfl

noncomputable def sources_e15 : List Ent := [⟨(.bin .leq 3), [(sy 19), (sy 10)], (.bool false)⟩]
noncomputable def sources_c15 : List CEnt := []
noncomputable def sources_l15 : List LEnt := []
noncomputable def sources_cl15 : List CLEnt := []

noncomputable def sources_fr14 : Fr := mkFr Try.f21 [(6, (.pointer (.some (.mk 0 0 .none)))), (7, (.pointer (.some (.mk 1 0 .none)))), (8, (.slice .none 0 0)), (9, (iV (.ofNat 0))), (12, (.pointer (.some (.mk 2 18 (.some 2))))), (14, (.chan (.some 17))), (15, (.chan (.some 19))), (49, (.chan (.some 8))), (50, (.chan (.some 13))), (51, (.chan (.some 15))), (52, (.bool .true)), (53, (.chan (.some 16))), (54, (.chan (.some 17))), (55, (.pointer (.some (.mk 0 0 .none)))), (56, (.chan (.some 9))), (57, (.chan (.some 19))), (58, (.pointer (.some (.mk 0 1 .none)))), (59, (.chan (.some 10))), (60, (.bool .false))] []
noncomputable def sources_st14 : St := mkSt 3 [(0, (.cells [(.chan (.some 9)), (.chan (.some 10))] 23 .none .false)), (1, (.cells [(.chan (.some 11)), (.chan (.some 12))] 23 .none .false)), (2, (.lst 1 54 5))]
theorem sources_wf14 : sources_st14.Wf := mkSt_wf rfl
set_option maxRecDepth 1000000 in
theorem sources_id14 : agreeL [sy 0, sy 1, sy 2, sy 3, sy 4, sy 5, sy 6, sy 7, sy 8, sy 9, sy 10, sy 11, sy 12, sy 13, sy 14, sy 15, sy 16, sy 17, sy 18, sy 19] [0, 1, 2] [some 0, some 1] sources_fr14 sources_st14 sources_fr14 sources_st14 = true := by kernel_rfl

set_option maxRecDepth 1000000 in
theorem sources_r15 : ev Try.prog (env.symL sources_e15 sources_c15 sources_l15 sources_cl15) 3000 (.code sources_b31 none sources_fr13 sources_st13 (stopL (.exit 2) [sy 0, sy 1, sy 2, sy 3, sy 4, sy 5, sy 6, sy 7, sy 8, sy 9, sy 10, sy 11, sy 12, sy 13, sy 14, sy 15, sy 16, sy 17, sy 18, sy 19] [0, 1, 2] [some 0, some 1] sources_fr14 sources_st14)) = some () := by kernel_rfl

noncomputable def sources_e16 : List Ent := [⟨(.bin .add 3), [(sy 15), (iV 1)], (sy 20)⟩]
noncomputable def sources_c16 : List CEnt := []
noncomputable def sources_l16 : List LEnt := []
noncomputable def sources_cl16 : List CLEnt := []

set_option maxRecDepth 1000000 in
theorem sources_r16 : ev Try.prog (env.symL sources_e16 sources_c16 sources_l16 sources_cl16) 3000 (.code sources_b24 none sources_fr14 sources_st14 (stopL .normal [(sy 0), (sy 1), (sy 2), (sy 3), (sy 4), (sy 5), (sy 6), (sy 7), (sy 8), (sy 9), (sy 10), (sy 11), (sy 12), (sy 13), (sy 18), (sy 20)] [0, 1, 2] [some 1] sources_fr8 sources_st8)) = some () := by kernel_rfl

noncomputable def sources_e17 : List Ent := [⟨(.bin .lss 3), [(sy 15), (sy 13)], (.bool false)⟩]
noncomputable def sources_c17 : List CEnt := []
noncomputable def sources_l17 : List LEnt := []
noncomputable def sources_cl17 : List CLEnt := []

noncomputable def sources_fr15 : Fr := mkFr Try.f21 [(6, (.pointer (.some (.mk 0 0 .none)))), (7, (.pointer (.some (.mk 1 0 .none)))), (8, (.slice .none 0 0)), (9, (iV (.ofNat 0))), (12, (.pointer (.some (.mk 2 14 (.some 2))))), (49, (.chan (.some 8))), (50, (.chan (.some 13))), (51, (.chan (.some 15))), (52, (.bool .false))] []
noncomputable def sources_st15 : St := mkSt 3 [(0, (.cells [(.chan (.some 9)), (.chan (.some 10))] 23 .none .false)), (1, (.cells [(.chan (.some 11)), (.chan (.some 12))] 23 .none .false)), (2, (.lst 0 54 5))]
theorem sources_wf15 : sources_st15.Wf := mkSt_wf rfl
set_option maxRecDepth 1000000 in
theorem sources_id15 : agreeL [sy 0, sy 1, sy 2, sy 3, sy 4, sy 5, sy 6, sy 7, sy 8, sy 9, sy 10, sy 11, sy 12, sy 13, sy 14, sy 15] [0, 1, 2] [some 0] sources_fr15 sources_st15 sources_fr15 sources_st15 = true := by kernel_rfl

set_option maxRecDepth 1000000 in
theorem sources_r17 : ev Try.prog (env.symL sources_e17 sources_c17 sources_l17 sources_cl17) 3000 (.code sources_b19 none sources_fr8 sources_st8 (stopL .normal [sy 0, sy 1, sy 2, sy 3, sy 4, sy 5, sy 6, sy 7, sy 8, sy 9, sy 10, sy 11, sy 12, sy 13, sy 14, sy 15] [0, 1, 2] [some 0] sources_fr15 sources_st15)) = some () := by kernel_rfl

set_option maxRecDepth 1000000 in
theorem sources_q20 : sources_b20 = .seq sources_b21 sources_b22 := by kernel_rfl

noncomputable def sources_fr16 : Fr := mkFr Try.f21 [(8, (.slice .none 0 0)), (9, (iV (.ofNat 0))), (12, (.pointer (.some (.mk 0 13 (.some 2)))))] []
noncomputable def sources_st16 : St := mkSt 1 [(0, (.lst 0 54 5))]
theorem sources_wf16 : sources_st16.Wf := mkSt_wf rfl
set_option maxRecDepth 1000000 in
theorem sources_id16 : agreeL [sy 0, sy 1, sy 2, sy 3, sy 4, sy 5, sy 6, sy 7, sy 8, sy 9, sy 10, sy 11, sy 12, sy 13] [0] [some 0] sources_fr16 sources_st16 sources_fr16 sources_st16 = true := by kernel_rfl

set_option maxRecDepth 1000000 in
theorem sources_r18 : ev Try.prog (env.symL [] [] [] []) 3000 (.code sources_b21 none sources_fr15 sources_st15 (stopL (.exit 0) [sy 0, sy 1, sy 2, sy 3, sy 4, sy 5, sy 6, sy 7, sy 8, sy 9, sy 10, sy 11, sy 12, sy 14] [2] [some 0] sources_fr16 sources_st16)) = some () := by kernel_rfl

set_option maxRecDepth 1000000 in
theorem sources_r19 : ev Try.prog (env.symL [] [] [] []) 3000 (.code sources_b14 none sources_fr16 sources_st16 (retK (env.symL [] [] [] []) Try.f21 (endL (.tuple #[(.pointer (some ⟨0, 13, some 2⟩)), (iV 0)]) 0 0 54 5))) = some () := by kernel_rfl

noncomputable def sources_e20 : List Ent := [⟨(.bin .leq 3), [(sy 9), (sy 10)], (.bool true)⟩, ⟨(.bin .geq 3), [(sy 9), (iV 1)], (.bool true)⟩, ⟨(.bin .leq 3), [(sy 10), (iV 10)], (.bool true)⟩, ⟨(.bin .leq 3), [(sy 11), (sy 12)], (.bool true)⟩, ⟨(.bin .geq 3), [(sy 11), (iV 0)], (.bool true)⟩, ⟨(.bin .leq 3), [(sy 12), (iV 1000000000)], (.bool false)⟩]
noncomputable def sources_c20 : List CEnt := []
noncomputable def sources_l20 : List LEnt := []
noncomputable def sources_cl20 : List CLEnt := []

set_option maxRecDepth 1000000 in
theorem sources_r20 : ev Try.prog (env.symL sources_e20 sources_c20 sources_l20 sources_cl20) 3000 (.code sources_b7 none sources_fr3 sources_st3 (stopRK (env.symL sources_e20 sources_c20 sources_l20 sources_cl20) Try.f21 (endV (.tuple #[(.slice .none 0 0), (iV 3)])))) = some () := by kernel_rfl

noncomputable def sources_e21 : List Ent := [⟨(.bin .leq 3), [(sy 9), (sy 10)], (.bool true)⟩, ⟨(.bin .geq 3), [(sy 9), (iV 1)], (.bool true)⟩, ⟨(.bin .leq 3), [(sy 10), (iV 10)], (.bool true)⟩, ⟨(.bin .leq 3), [(sy 11), (sy 12)], (.bool true)⟩, ⟨(.bin .geq 3), [(sy 11), (iV 0)], (.bool false)⟩]
noncomputable def sources_c21 : List CEnt := []
noncomputable def sources_l21 : List LEnt := []
noncomputable def sources_cl21 : List CLEnt := []

set_option maxRecDepth 1000000 in
theorem sources_r21 : ev Try.prog (env.symL sources_e21 sources_c21 sources_l21 sources_cl21) 3000 (.code sources_b7 none sources_fr3 sources_st3 (stopRK (env.symL sources_e21 sources_c21 sources_l21 sources_cl21) Try.f21 (endV (.tuple #[(.slice .none 0 0), (iV 3)])))) = some () := by kernel_rfl

noncomputable def sources_e22 : List Ent := [⟨(.bin .leq 3), [(sy 9), (sy 10)], (.bool true)⟩, ⟨(.bin .geq 3), [(sy 9), (iV 1)], (.bool true)⟩, ⟨(.bin .leq 3), [(sy 10), (iV 10)], (.bool true)⟩, ⟨(.bin .leq 3), [(sy 11), (sy 12)], (.bool false)⟩]
noncomputable def sources_c22 : List CEnt := []
noncomputable def sources_l22 : List LEnt := []
noncomputable def sources_cl22 : List CLEnt := []

set_option maxRecDepth 1000000 in
theorem sources_r22 : ev Try.prog (env.symL sources_e22 sources_c22 sources_l22 sources_cl22) 3000 (.code sources_b7 none sources_fr3 sources_st3 (stopRK (env.symL sources_e22 sources_c22 sources_l22 sources_cl22) Try.f21 (endV (.tuple #[(.slice .none 0 0), (iV 3)])))) = some () := by kernel_rfl

noncomputable def sources_e23 : List Ent := [⟨(.bin .leq 3), [(sy 9), (sy 10)], (.bool true)⟩, ⟨(.bin .geq 3), [(sy 9), (iV 1)], (.bool true)⟩, ⟨(.bin .leq 3), [(sy 10), (iV 10)], (.bool false)⟩]
noncomputable def sources_c23 : List CEnt := []
noncomputable def sources_l23 : List LEnt := []
noncomputable def sources_cl23 : List CLEnt := []

set_option maxRecDepth 1000000 in
theorem sources_r23 : ev Try.prog (env.symL sources_e23 sources_c23 sources_l23 sources_cl23) 3000 (.code sources_b7 none sources_fr3 sources_st3 (stopRK (env.symL sources_e23 sources_c23 sources_l23 sources_cl23) Try.f21 (endV (.tuple #[(.slice .none 0 0), (iV 3)])))) = some () := by kernel_rfl

noncomputable def sources_e24 : List Ent := [⟨(.bin .leq 3), [(sy 9), (sy 10)], (.bool true)⟩, ⟨(.bin .geq 3), [(sy 9), (iV 1)], (.bool false)⟩]
noncomputable def sources_c24 : List CEnt := []
noncomputable def sources_l24 : List LEnt := []
noncomputable def sources_cl24 : List CLEnt := []

set_option maxRecDepth 1000000 in
theorem sources_r24 : ev Try.prog (env.symL sources_e24 sources_c24 sources_l24 sources_cl24) 3000 (.code sources_b7 none sources_fr3 sources_st3 (stopRK (env.symL sources_e24 sources_c24 sources_l24 sources_cl24) Try.f21 (endV (.tuple #[(.slice .none 0 0), (iV 3)])))) = some () := by kernel_rfl

noncomputable def sources_e25 : List Ent := [⟨(.bin .leq 3), [(sy 9), (sy 10)], (.bool false)⟩]
noncomputable def sources_c25 : List CEnt := []
noncomputable def sources_l25 : List LEnt := []
noncomputable def sources_cl25 : List CLEnt := []

set_option maxRecDepth 1000000 in
theorem sources_r25 : ev Try.prog (env.symL sources_e25 sources_c25 sources_l25 sources_cl25) 3000 (.code sources_b7 none sources_fr3 sources_st3 (stopRK (env.symL sources_e25 sources_c25 sources_l25 sources_cl25) Try.f21 (endV (.tuple #[(.slice .none 0 0), (iV 3)])))) = some () := by kernel_rfl

set_option maxHeartbeats 8000000 in
set_option maxRecDepth 100000 in
theorem sources_any (x0 : Int) (x1 : Int) (x2 : Int) (x3 : Int) (x4 : Int) (x5 : Int) (x6 : Int) (x7 : Int) (al : Option Addr) (l : List Int) (ql : Nat) (k0 k1 t0 t1 : Int) (w0 : World) {tl : TypeId} (Hl : Lies w0 tl (flat intC l) al l.length) (hn : l.length < 100000) : Calls Try.prog 21 #[(.agg #[(iV x0), (iV x1), (iV x2), (iV x3), (iV x4), (iV x5), (iV x6), (iV x7)]), (.slice al l.length ql), (.agg #[(iV k0), (iV k1)]), (.agg #[(iV t0), (iV t1)])] w0 (fun en w' => ∃ a C, en = .returned (.tuple #[.slice a (sourcesL x0 x1 x2 x3 x4 x5 x6 x7 l k0 k1 t0 t1).length C, iV (sourcesE x0 x1 x2 x3 x4 x5 x6 x7 l k0 k1 t0 t1)]) ∧ NewList w0 w' 54 5 (flat srcC (sourcesL x0 x1 x2 x3 x4 x5 x6 x7 l k0 k1 t0 t1)) a (sourcesL x0 x1 x2 x3 x4 x5 x6 x7 l k0 k1 t0 t1).length C ∧ Below w0.heap.size w0 w') := by
  refine @calls_of_body (Rho.of [(iV x0), (iV x1), (iV x2), (iV x3), (iV x4), (iV x5), (iV x6), (iV x7), (.slice al l.length ql), (iV k0), (iV k1), (iV t0), (iV t1)] (fun b => w0.heap[b]?) []) Try.prog env (@env_ok (Rho.of [(iV x0), (iV x1), (iV x2), (iV x3), (iV x4), (iV x5), (iV x6), (iV x7), (.slice al l.length ql), (iV k0), (iV k1), (iV t0), (iV t1)] (fun b => w0.heap[b]?) [])) 21 Try.f21 sources_b0 [(.agg #[(.chan (.some 0)), (.chan (.some 1)), (.chan (.some 2)), (.chan (.some 3)), (.chan (.some 4)), (.chan (.some 5)), (.chan (.some 6)), (.chan (.some 7))]), (.chan (.some 8)), (.agg #[(.chan (.some 9)), (.chan (.some 10))]), (.agg #[(.chan (.some 11)), (.chan (.some 12))])] w0 _ (by kernel_rfl) (by kernel_rfl) (of_decide_eq_true (by kernel_rfl)) (of_decide_eq_true (by kernel_rfl)) rfl (fun _ _ h => h) (fun a hat0 => ?_)
  have hat : @At (Rho.of [(iV x0), (iV x1), (iV x2), (iV x3), (iV x4), (iV x5), (iV x6), (iV x7), (.slice al l.length ql), (iV k0), (iV k1), (iV t0), (iV t1)] (fun b => w0.heap[b]?) []) w0 sources_fr0 sources_st0 a w0 := At.shiftL (σ := [sy 0, sy 1, sy 2, sy 3, sy 4, sy 5, sy 6, sy 7, sy 8, sy 9, sy 10, sy 11, sy 12]) (π := []) (τ := []) ⟨rfl, rfl, rfl, rfl, rfl, rfl, rfl, rfl, rfl, rfl, rfl, rfl, rfl, rfl, rfl, rfl, rfl, rfl, rfl, rfl, rfl, rfl, rfl, rfl, rfl, rfl, trivial⟩ trivial (fun _ _ h => h) sources_wf0 sources_a0 hat0
  clear hat0
  suffices key : ∀ w, @At (Rho.of [(iV x0), (iV x1), (iV x2), (iV x3), (iV x4), (iV x5), (iV x6), (iV x7), (.slice al l.length ql), (iV k0), (iV k1), (iV t0), (iV t1)] (fun b => w0.heap[b]?) []) w0 sources_fr0 sources_st0 a w → sources_b0.wpIn (FF none) 0 Try.prog (bodyPostM Fence.wide 0 Try.prog Try.f21 (fun en w' => ∃ a C, en = .returned (.tuple #[.slice a (sourcesL x0 x1 x2 x3 x4 x5 x6 x7 l k0 k1 t0 t1).length C, iV (sourcesE x0 x1 x2 x3 x4 x5 x6 x7 l k0 k1 t0 t1)]) ∧ NewList w0 w' 54 5 (flat srcC (sourcesL x0 x1 x2 x3 x4 x5 x6 x7 l k0 k1 t0 t1)) a (sourcesL x0 x1 x2 x3 x4 x5 x6 x7 l k0 k1 t0 t1).length C ∧ Below w0.heap.size w0 w')) a w from key w0 hat
  clear hat
  intro w hat
  let p0 : Rho := (Rho.of [(iV x0), (iV x1), (iV x2), (iV x3), (iV x4), (iV x5), (iV x6), (iV x7), (.slice al l.length ql), (iV k0), (iV k1), (iV t0), (iV t1)] (fun b => w0.heap[b]?) [])
  change @At p0 w0 sources_fr0 sources_st0 a w at hat
  refine g_seq sources_q0 ?_
  let r0 : Rho := (Rho.of [(iV x0), (iV x1), (iV x2), (iV x3), (iV x4), (iV x5), (iV x6), (iV x7), (.slice al l.length ql), (iV k0), (iV k1), (iV t0), (iV t1)] (fun b => w0.heap[b]?) [])
  have hat1 : @At r0 w0 sources_fr0 sources_st0 a w := At.shiftL (ρ1 := p0) (ρ2 := r0) (σ := [sy 0, sy 1, sy 2, sy 3, sy 4, sy 5, sy 6, sy 7, sy 8, sy 9, sy 10, sy 11, sy 12]) (π := []) (τ := []) ⟨rfl, rfl, rfl, rfl, rfl, rfl, rfl, rfl, rfl, rfl, rfl, rfl, rfl, rfl, rfl, rfl, rfl, rfl, rfl, rfl, rfl, rfl, rfl, rfl, rfl, rfl, trivial⟩ trivial (fun _ _ h => h) sources_wf0 sources_id0 hat
  let p1 : Rho := (Rho.of [(iV x0), (iV x1), (iV x2), (iV x3), (iV x4), (iV x5), (iV x6), (iV x7), (.slice al l.length ql), (iV k0), (iV k1), (iV t0), (iV t1)] (fun b => w0.heap[b]?) [])
  refine At.pieceL (ρ1 := r0) (ρ2 := p1) (@Env.Ok.symL r0 _ _ (@env_ok r0) [] [] [] [] trivial trivial trivial trivial) sources_r0 ⟨rfl, rfl, rfl, rfl, rfl, rfl, rfl, rfl, rfl, rfl, rfl, rfl, rfl, rfl, rfl, rfl, rfl, rfl, rfl, rfl, rfl, rfl, rfl, rfl, rfl, rfl, trivial⟩ trivial (fun _ _ h => h) sources_wf0 sources_wf1 hat1 (fun a w hat => .inl ⟨rfl, ?_⟩)
  refine g_seq sources_q1 ?_
  by_cases c0 : (qcheck0 (x0) (x1) (x2) (x3) (x4) (x5) (x6) (x7)) ≠ 0
  · let r1 : Rho := (Rho.of [(iV x0), (iV x1), (iV x2), (iV x3), (iV x4), (iV x5), (iV x6), (iV x7), (.slice al l.length ql), (iV k0), (iV k1), (iV t0), (iV t1), (iV ((qcheck0 (x0) (x1) (x2) (x3) (x4) (x5) (x6) (x7))))] (fun b => w0.heap[b]?) [])
    have hat1 : @At r1 w0 sources_fr1 sources_st1 a w := At.shiftL (ρ1 := p1) (ρ2 := r1) (σ := [sy 0, sy 1, sy 2, sy 3, sy 4, sy 5, sy 6, sy 7, sy 8, sy 9, sy 10, sy 11, sy 12]) (π := [0, 1, 2]) (τ := []) ⟨rfl, rfl, rfl, rfl, rfl, rfl, rfl, rfl, rfl, rfl, rfl, rfl, rfl, rfl, rfl, rfl, rfl, rfl, rfl, rfl, rfl, rfl, rfl, rfl, rfl, rfl, trivial⟩ trivial (fun _ _ h => h) sources_wf1 sources_id1 hat
    refine @At.retGK r1 Try.prog (env.symL sources_e1 sources_c1 sources_l1 sources_cl1) (@Env.Ok.symL r1 _ _ (@env_ok r1) sources_e1 sources_c1 sources_l1 sources_cl1 ⟨⟨rfl, rfl, fun w hm => (show KO w (.bin .neq 27) [(iV ((qcheck0 (x0) (x1) (x2) (x3) (x4) (x5) (x6) (x7)))), (iV 0)] (.bool true) from k_neq_t c0)⟩, trivial⟩ ⟨(@CEntOk.of r1 Try.prog _ 18 [(.agg #[(sy 0), (sy 1), (sy 2), (sy 3), (sy 4), (sy 5), (sy 6), (sy 7)])] (sy 13) #[(.agg #[(iV x0), (iV x1), (iV x2), (iV x3), (iV x4), (iV x5), (iV x6), (iV x7)])] (iV ((qcheck0 (x0) (x1) (x2) (x3) (x4) (x5) (x6) (x7)))) rfl ⟨Try.f18, (Try.f18.body).getD .skip, by kernel_rfl, by kernel_rfl⟩ rfl rfl rfl (fun w hm => qcheck_any (x0) (x1) (x2) (x3) (x4) (x5) (x6) (x7) w  )), trivial⟩ trivial trivial) w0 3000 sources_b3 Try.f21 sources_fr1 sources_st1 _ _ sources_r1 sources_wf1 a w hat1 (@endV_ok r1 w0 (.tuple #[(.slice .none 0 0), (sy 13)]) (fun en w' => ∃ a C, en = .returned (.tuple #[.slice a (sourcesL x0 x1 x2 x3 x4 x5 x6 x7 l k0 k1 t0 t1).length C, iV (sourcesE x0 x1 x2 x3 x4 x5 x6 x7 l k0 k1 t0 t1)]) ∧ NewList w0 w' 54 5 (flat srcC (sourcesL x0 x1 x2 x3 x4 x5 x6 x7 l k0 k1 t0 t1)) a (sourcesL x0 x1 x2 x3 x4 x5 x6 x7 l k0 k1 t0 t1).length C ∧ Below w0.heap.size w0 w') rfl (fun w2 hb => ?_)) _ (fun a w h => .inr ⟨(fun q => nomatch q), h⟩)
    have v0 : ((qcheck0 (x0) (x1) (x2) (x3) (x4) (x5) (x6) (x7)) : Int) = sourcesE x0 x1 x2 x3 x4 x5 x6 x7 l k0 k1 t0 t1 := by
      unfold sourcesE
      first
        | (rw [if_pos (by omega)] <;> omega)
        | (rw [if_neg (by omega), if_pos (by omega)] <;> omega)
        | (rw [if_neg (by omega), if_neg (by omega), if_pos (by omega)])
        | (rw [if_neg (by omega), if_neg (by omega), if_neg (by omega), if_pos (by omega)])
        | (rw [if_neg (by omega), if_neg (by omega), if_neg (by omega), if_neg (by omega)])
    have hL : [] = sourcesL x0 x1 x2 x3 x4 x5 x6 x7 l k0 k1 t0 t1 := by
      unfold sourcesL
      first
        | (have hE : ¬ sourcesE x0 x1 x2 x3 x4 x5 x6 x7 l k0 k1 t0 t1 = 0 := by omega
           rw [if_neg hE])
        | (have hE : sourcesE x0 x1 x2 x3 x4 x5 x6 x7 l k0 k1 t0 t1 = 0 := by omega
           rw [if_pos hE, i3, show i.toNat = l.length by omega, List.take_length])
    have hN : (sourcesL x0 x1 x2 x3 x4 x5 x6 x7 l k0 k1 t0 t1).length = 0 := by rw [← hL]; rfl
    refine ⟨none, 0, ?_, ⟨?_, .inl ⟨rfl, hN, rfl⟩⟩, hb⟩
    · rw [hN]; exact congrArg Ending.returned (congrArg (fun (y0 : Int) => (.tuple #[.slice none 0 0, iV y0] : Value)) v0)
    · rw [← hL]; rfl
  · have hv := qcheck_ok (x0 := x0) (x1 := x1) (x2 := x2) (x3 := x3) (x4 := x4) (x5 := x5) (x6 := x6) (x7 := x7) (by omega)
    obtain ⟨v0, v1, v2, v3, v5, v7⟩ := hv
    have hx := mul_bd (a := x0) (b := x1) (A := 24) (B := 24) (C := 576) (by omega) (by omega) (by omega) (by omega)
    let r2 : Rho := (Rho.of [(iV x0), (iV x1), (iV x2), (iV x3), (iV x4), (iV x5), (iV x6), (iV x7), (.slice al l.length ql), (iV k0), (iV k1), (iV t0), (iV t1), (iV ((qcheck0 (x0) (x1) (x2) (x3) (x4) (x5) (x6) (x7))))] (fun b => w0.heap[b]?) [])
    have hat1 : @At r2 w0 sources_fr1 sources_st1 a w := At.shiftL (ρ1 := p1) (ρ2 := r2) (σ := [sy 0, sy 1, sy 2, sy 3, sy 4, sy 5, sy 6, sy 7, sy 8, sy 9, sy 10, sy 11, sy 12]) (π := [0, 1, 2]) (τ := []) ⟨rfl, rfl, rfl, rfl, rfl, rfl, rfl, rfl, rfl, rfl, rfl, rfl, rfl, rfl, rfl, rfl, rfl, rfl, rfl, rfl, rfl, rfl, rfl, rfl, rfl, rfl, trivial⟩ trivial (fun _ _ h => h) sources_wf1 sources_id1 hat
    let p2 : Rho := (Rho.of [(iV x0), (iV x1), (iV x2), (iV x3), (iV x4), (iV x5), (iV x6), (iV x7), (.slice al l.length ql), (iV k0), (iV k1), (iV t0), (iV t1)] (fun b => w0.heap[b]?) [])
    refine At.pieceL (ρ1 := r2) (ρ2 := p2) (@Env.Ok.symL r2 _ _ (@env_ok r2) sources_e2 sources_c2 sources_l2 sources_cl2 ⟨⟨rfl, rfl, fun w hm => (show KO w (.bin .neq 27) [(iV ((qcheck0 (x0) (x1) (x2) (x3) (x4) (x5) (x6) (x7)))), (iV 0)] (.bool false) from k_neq_f c0)⟩, trivial⟩ ⟨(@CEntOk.of r2 Try.prog _ 18 [(.agg #[(sy 0), (sy 1), (sy 2), (sy 3), (sy 4), (sy 5), (sy 6), (sy 7)])] (sy 13) #[(.agg #[(iV x0), (iV x1), (iV x2), (iV x3), (iV x4), (iV x5), (iV x6), (iV x7)])] (iV ((qcheck0 (x0) (x1) (x2) (x3) (x4) (x5) (x6) (x7)))) rfl ⟨Try.f18, (Try.f18.body).getD .skip, by kernel_rfl, by kernel_rfl⟩ rfl rfl rfl (fun w hm => qcheck_any (x0) (x1) (x2) (x3) (x4) (x5) (x6) (x7) w  )), trivial⟩ trivial trivial) sources_r2 ⟨rfl, rfl, rfl, rfl, rfl, rfl, rfl, rfl, rfl, rfl, rfl, rfl, rfl, rfl, rfl, rfl, rfl, rfl, rfl, rfl, rfl, rfl, rfl, rfl, rfl, rfl, trivial⟩ trivial (fun _ _ h => h) sources_wf1 sources_wf2 hat1 (fun a w hat => .inl ⟨rfl, ?_⟩)
    refine g_seq sources_q2 ?_
    obtain ⟨y1, hy1⟩ : ∃ y : Int, y = (ascErr ((x0 * x1)) l) := ⟨_, rfl⟩
    by_cases c2 : y1 ≠ 0
    · let r3 : Rho := (Rho.of [(iV x0), (iV x1), (iV x2), (iV x3), (iV x4), (iV x5), (iV x6), (iV x7), (.slice al l.length ql), (iV k0), (iV k1), (iV t0), (iV t1), (iV ((x0 * x1))), (iV y1)] (fun b => w0.heap[b]?) [])
      have hat1 : @At r3 w0 sources_fr2 sources_st2 a w := At.shiftL (ρ1 := p2) (ρ2 := r3) (σ := [sy 0, sy 1, sy 2, sy 3, sy 4, sy 5, sy 6, sy 7, sy 8, sy 9, sy 10, sy 11, sy 12]) (π := [0, 1, 2]) (τ := []) ⟨rfl, rfl, rfl, rfl, rfl, rfl, rfl, rfl, rfl, rfl, rfl, rfl, rfl, rfl, rfl, rfl, rfl, rfl, rfl, rfl, rfl, rfl, rfl, rfl, rfl, rfl, trivial⟩ trivial (fun _ _ h => h) sources_wf2 sources_id2 hat
      refine @At.retGK r3 Try.prog (env.symL sources_e3 sources_c3 sources_l3 sources_cl3) (@Env.Ok.symL r3 _ _ (@env_ok r3) sources_e3 sources_c3 sources_l3 sources_cl3 ⟨⟨rfl, rfl, fun w hm => (show KO w (.bin .mul 3) [(iV x0), (iV x1)] (iV ((x0 * x1))) from k_mul (wrap64 (by have := mul_bd (a := x0) (b := x1) (A := 100000) (B := 576) (by omega) (by omega) (by omega) (by omega); omega)))⟩, ⟨rfl, rfl, fun w hm => (show KO w (.bin .neq 27) [(iV y1), (iV 0)] (.bool true) from k_neq_t c2)⟩, trivial⟩ ⟨(@CEntOk.of r3 Try.prog _ 60 [(sy 8), (sy 13)] (sy 14) #[(.slice al l.length ql), (iV ((x0 * x1)))] (iV y1) rfl ⟨Try.f60, (Try.f60.body).getD .skip, by kernel_rfl, by kernel_rfl⟩ rfl rfl rfl (fun w hm => (by rw [hy1]; exact asc_any al l ql ((x0 * x1)) w (Hl.keep hm) (by omega) (by omega)))), trivial⟩ trivial trivial) w0 3000 sources_b5 Try.f21 sources_fr2 sources_st2 _ _ sources_r3 sources_wf2 a w hat1 (@endV_ok r3 w0 (.tuple #[(.slice .none 0 0), (sy 14)]) (fun en w' => ∃ a C, en = .returned (.tuple #[.slice a (sourcesL x0 x1 x2 x3 x4 x5 x6 x7 l k0 k1 t0 t1).length C, iV (sourcesE x0 x1 x2 x3 x4 x5 x6 x7 l k0 k1 t0 t1)]) ∧ NewList w0 w' 54 5 (flat srcC (sourcesL x0 x1 x2 x3 x4 x5 x6 x7 l k0 k1 t0 t1)) a (sourcesL x0 x1 x2 x3 x4 x5 x6 x7 l k0 k1 t0 t1).length C ∧ Below w0.heap.size w0 w') rfl (fun w2 hb => ?_)) _ (fun a w h => .inr ⟨(fun q => nomatch q), h⟩)
      have v0 : (y1 : Int) = sourcesE x0 x1 x2 x3 x4 x5 x6 x7 l k0 k1 t0 t1 := by
        unfold sourcesE
        first
          | (rw [if_pos (by omega)] <;> omega)
          | (rw [if_neg (by omega), if_pos (by omega)] <;> omega)
          | (rw [if_neg (by omega), if_neg (by omega), if_pos (by omega)])
          | (rw [if_neg (by omega), if_neg (by omega), if_neg (by omega), if_pos (by omega)])
          | (rw [if_neg (by omega), if_neg (by omega), if_neg (by omega), if_neg (by omega)])
      have hL : [] = sourcesL x0 x1 x2 x3 x4 x5 x6 x7 l k0 k1 t0 t1 := by
        unfold sourcesL
        first
          | (have hE : ¬ sourcesE x0 x1 x2 x3 x4 x5 x6 x7 l k0 k1 t0 t1 = 0 := by omega
             rw [if_neg hE])
          | (have hE : sourcesE x0 x1 x2 x3 x4 x5 x6 x7 l k0 k1 t0 t1 = 0 := by omega
             rw [if_pos hE, i3, show i.toNat = l.length by omega, List.take_length])
      have hN : (sourcesL x0 x1 x2 x3 x4 x5 x6 x7 l k0 k1 t0 t1).length = 0 := by rw [← hL]; rfl
      refine ⟨none, 0, ?_, ⟨?_, .inl ⟨rfl, hN, rfl⟩⟩, hb⟩
      · rw [hN]; exact congrArg Ending.returned (congrArg (fun (y0 : Int) => (.tuple #[.slice none 0 0, iV y0] : Value)) v0)
      · rw [← hL]; rfl
    · let r4 : Rho := (Rho.of [(iV x0), (iV x1), (iV x2), (iV x3), (iV x4), (iV x5), (iV x6), (iV x7), (.slice al l.length ql), (iV k0), (iV k1), (iV t0), (iV t1), (iV ((x0 * x1))), (iV y1)] (fun b => w0.heap[b]?) [])
      have hat1 : @At r4 w0 sources_fr2 sources_st2 a w := At.shiftL (ρ1 := p2) (ρ2 := r4) (σ := [sy 0, sy 1, sy 2, sy 3, sy 4, sy 5, sy 6, sy 7, sy 8, sy 9, sy 10, sy 11, sy 12]) (π := [0, 1, 2]) (τ := []) ⟨rfl, rfl, rfl, rfl, rfl, rfl, rfl, rfl, rfl, rfl, rfl, rfl, rfl, rfl, rfl, rfl, rfl, rfl, rfl, rfl, rfl, rfl, rfl, rfl, rfl, rfl, trivial⟩ trivial (fun _ _ h => h) sources_wf2 sources_id2 hat
      let p3 : Rho := (Rho.of [(iV x0), (iV x1), (iV x2), (iV x3), (iV x4), (iV x5), (iV x6), (iV x7), (.slice al l.length ql), (iV k0), (iV k1), (iV t0), (iV t1)] (fun b => w0.heap[b]?) [])
      refine At.pieceL (ρ1 := r4) (ρ2 := p3) (@Env.Ok.symL r4 _ _ (@env_ok r4) sources_e4 sources_c4 sources_l4 sources_cl4 ⟨⟨rfl, rfl, fun w hm => (show KO w (.bin .mul 3) [(iV x0), (iV x1)] (iV ((x0 * x1))) from k_mul (wrap64 (by have := mul_bd (a := x0) (b := x1) (A := 100000) (B := 576) (by omega) (by omega) (by omega) (by omega); omega)))⟩, ⟨rfl, rfl, fun w hm => (show KO w (.bin .neq 27) [(iV y1), (iV 0)] (.bool false) from k_neq_f c2)⟩, trivial⟩ ⟨(@CEntOk.of r4 Try.prog _ 60 [(sy 8), (sy 13)] (sy 14) #[(.slice al l.length ql), (iV ((x0 * x1)))] (iV y1) rfl ⟨Try.f60, (Try.f60.body).getD .skip, by kernel_rfl, by kernel_rfl⟩ rfl rfl rfl (fun w hm => (by rw [hy1]; exact asc_any al l ql ((x0 * x1)) w (Hl.keep hm) (by omega) (by omega)))), trivial⟩ trivial trivial) sources_r4 ⟨rfl, rfl, rfl, rfl, rfl, rfl, rfl, rfl, rfl, rfl, rfl, rfl, rfl, rfl, rfl, rfl, rfl, rfl, rfl, rfl, rfl, rfl, rfl, rfl, rfl, rfl, trivial⟩ trivial (fun _ _ h => h) sources_wf2 sources_wf3 hat1 (fun a w hat => .inl ⟨rfl, ?_⟩)
      refine g_seq sources_q3 ?_
      by_cases c3 : k0 ≤ k1
      · by_cases c4 : k0 ≥ 1
        · by_cases c5 : k1 ≤ 10
          · by_cases c6 : t0 ≤ t1
            · by_cases c7 : t0 ≥ 0
              · by_cases c8 : t1 ≤ 1000000000
                · let r5 : Rho := (Rho.of [(iV x0), (iV x1), (iV x2), (iV x3), (iV x4), (iV x5), (iV x6), (iV x7), (.slice al l.length ql), (iV k0), (iV k1), (iV t0), (iV t1)] (fun b => w0.heap[b]?) [])
                  have hat1 : @At r5 w0 sources_fr3 sources_st3 a w := At.shiftL (ρ1 := p3) (ρ2 := r5) (σ := [sy 0, sy 1, sy 2, sy 3, sy 4, sy 5, sy 6, sy 7, sy 8, sy 9, sy 10, sy 11, sy 12]) (π := [0, 1]) (τ := []) ⟨rfl, rfl, rfl, rfl, rfl, rfl, rfl, rfl, rfl, rfl, rfl, rfl, rfl, rfl, rfl, rfl, rfl, rfl, rfl, rfl, rfl, rfl, rfl, rfl, rfl, rfl, trivial⟩ trivial (fun _ _ h => h) sources_wf3 sources_id3 hat
                  let p4 : Rho := (Rho.of [(iV x0), (iV x1), (iV x2), (iV x3), (iV x4), (iV x5), (iV x6), (iV x7), (.slice al l.length ql), (iV k0), (iV k1), (iV t0), (iV t1)] (fun b => w0.heap[b]?) [])
                  refine At.pieceL (ρ1 := r5) (ρ2 := p4) (@Env.Ok.symL r5 _ _ (@env_ok r5) sources_e5 sources_c5 sources_l5 sources_cl5 ⟨⟨rfl, rfl, fun w hm => (show KO w (.bin .leq 3) [(iV k0), (iV k1)] (.bool true) from k_leq_t c3)⟩, ⟨rfl, rfl, fun w hm => (show KO w (.bin .geq 3) [(iV k0), (iV 1)] (.bool true) from k_geq_t c4)⟩, ⟨rfl, rfl, fun w hm => (show KO w (.bin .leq 3) [(iV k1), (iV 10)] (.bool true) from k_leq_t c5)⟩, ⟨rfl, rfl, fun w hm => (show KO w (.bin .leq 3) [(iV t0), (iV t1)] (.bool true) from k_leq_t c6)⟩, ⟨rfl, rfl, fun w hm => (show KO w (.bin .geq 3) [(iV t0), (iV 0)] (.bool true) from k_geq_t c7)⟩, ⟨rfl, rfl, fun w hm => (show KO w (.bin .leq 3) [(iV t1), (iV 1000000000)] (.bool true) from k_leq_t c8)⟩, trivial⟩ trivial trivial trivial) sources_r5 ⟨rfl, rfl, rfl, rfl, rfl, rfl, rfl, rfl, rfl, rfl, rfl, rfl, rfl, rfl, rfl, rfl, rfl, rfl, rfl, rfl, rfl, rfl, rfl, rfl, rfl, rfl, trivial⟩ trivial (fun _ _ h => h) sources_wf3 sources_wf4 hat1 (fun a w hat => .inl ⟨rfl, ?_⟩)
                  refine g_seq sources_q4 ?_
                  by_cases c9 : (((l.length : Nat) : Int) * ((k1 - k0) + 1)) > 256
                  · let r6 : Rho := (Rho.of [(iV x0), (iV x1), (iV x2), (iV x3), (iV x4), (iV x5), (iV x6), (iV x7), (.slice al l.length ql), (iV k0), (iV k1), (iV t0), (iV t1), (iV (((l.length : Nat) : Int))), (iV ((k1 - k0))), (iV (((k1 - k0) + 1))), (iV ((((l.length : Nat) : Int) * ((k1 - k0) + 1))))] (fun b => w0.heap[b]?) [])
                    have hat1 : @At r6 w0 sources_fr4 sources_st4 a w := At.shiftL (ρ1 := p4) (ρ2 := r6) (σ := [sy 0, sy 1, sy 2, sy 3, sy 4, sy 5, sy 6, sy 7, sy 8, sy 9, sy 10, sy 11, sy 12]) (π := [0, 1]) (τ := []) ⟨rfl, rfl, rfl, rfl, rfl, rfl, rfl, rfl, rfl, rfl, rfl, rfl, rfl, rfl, rfl, rfl, rfl, rfl, rfl, rfl, rfl, rfl, rfl, rfl, rfl, rfl, trivial⟩ trivial (fun _ _ h => h) sources_wf4 sources_id4 hat
                    refine @At.retGK r6 Try.prog (env.symL sources_e6 sources_c6 sources_l6 sources_cl6) (@Env.Ok.symL r6 _ _ (@env_ok r6) sources_e6 sources_c6 sources_l6 sources_cl6 ⟨⟨rfl, rfl, fun w hm => (show KO w (.bi 0 [37]) [(.slice al l.length ql)] (iV (((l.length : Nat) : Int))) from k_len Try.underlying37)⟩, ⟨rfl, rfl, fun w hm => (show KO w (.bin .sub 3) [(iV k1), (iV k0)] (iV ((k1 - k0))) from k_sub (wrap64 (by omega)))⟩, ⟨rfl, rfl, fun w hm => (show KO w (.bin .add 3) [(iV ((k1 - k0))), (iV 1)] (iV (((k1 - k0) + 1))) from k_add (wrap64 (by omega)))⟩, ⟨rfl, rfl, fun w hm => (show KO w (.bin .mul 3) [(iV (((l.length : Nat) : Int))), (iV (((k1 - k0) + 1)))] (iV ((((l.length : Nat) : Int) * ((k1 - k0) + 1)))) from k_mul (wrap64 (by have := mul_bd (a := ((l.length : Nat) : Int)) (b := ((k1 - k0) + 1)) (A := 100000) (B := 576) (by omega) (by omega) (by omega) (by omega); omega)))⟩, ⟨rfl, rfl, fun w hm => (show KO w (.bin .gtr 3) [(iV ((((l.length : Nat) : Int) * ((k1 - k0) + 1)))), (iV 256)] (.bool true) from k_gtr_t c9)⟩, trivial⟩ trivial trivial trivial) w0 3000 sources_b9 Try.f21 sources_fr4 sources_st4 _ _ sources_r6 sources_wf4 a w hat1 (@endV_ok r6 w0 (.tuple #[(.slice .none 0 0), (iV 9)]) (fun en w' => ∃ a C, en = .returned (.tuple #[.slice a (sourcesL x0 x1 x2 x3 x4 x5 x6 x7 l k0 k1 t0 t1).length C, iV (sourcesE x0 x1 x2 x3 x4 x5 x6 x7 l k0 k1 t0 t1)]) ∧ NewList w0 w' 54 5 (flat srcC (sourcesL x0 x1 x2 x3 x4 x5 x6 x7 l k0 k1 t0 t1)) a (sourcesL x0 x1 x2 x3 x4 x5 x6 x7 l k0 k1 t0 t1).length C ∧ Below w0.heap.size w0 w') rfl (fun w2 hb => ?_)) _ (fun a w h => .inr ⟨(fun q => nomatch q), h⟩)
                    have v0 : (9 : Int) = sourcesE x0 x1 x2 x3 x4 x5 x6 x7 l k0 k1 t0 t1 := by
                      unfold sourcesE
                      first
                        | (rw [if_pos (by omega)] <;> omega)
                        | (rw [if_neg (by omega), if_pos (by omega)] <;> omega)
                        | (rw [if_neg (by omega), if_neg (by omega), if_pos (by omega)])
                        | (rw [if_neg (by omega), if_neg (by omega), if_neg (by omega), if_pos (by omega)])
                        | (rw [if_neg (by omega), if_neg (by omega), if_neg (by omega), if_neg (by omega)])
                    have hL : [] = sourcesL x0 x1 x2 x3 x4 x5 x6 x7 l k0 k1 t0 t1 := by
                      unfold sourcesL
                      first
                        | (have hE : ¬ sourcesE x0 x1 x2 x3 x4 x5 x6 x7 l k0 k1 t0 t1 = 0 := by omega
                           rw [if_neg hE])
                        | (have hE : sourcesE x0 x1 x2 x3 x4 x5 x6 x7 l k0 k1 t0 t1 = 0 := by omega
                           rw [if_pos hE, i3, show i.toNat = l.length by omega, List.take_length])
                    have hN : (sourcesL x0 x1 x2 x3 x4 x5 x6 x7 l k0 k1 t0 t1).length = 0 := by rw [← hL]; rfl
                    refine ⟨none, 0, ?_, ⟨?_, .inl ⟨rfl, hN, rfl⟩⟩, hb⟩
                    · rw [hN]; exact congrArg Ending.returned (congrArg (fun (y0 : Int) => (.tuple #[.slice none 0 0, iV y0] : Value)) v0)
                    · rw [← hL]; rfl
                  · let r7 : Rho := (Rho.of [(iV x0), (iV x1), (iV x2), (iV x3), (iV x4), (iV x5), (iV x6), (iV x7), (.slice al l.length ql), (iV k0), (iV k1), (iV t0), (iV t1), (iV (((l.length : Nat) : Int))), (iV ((k1 - k0))), (iV (((k1 - k0) + 1))), (iV ((((l.length : Nat) : Int) * ((k1 - k0) + 1))))] (fun b => w0.heap[b]?) [])
                    have hat1 : @At r7 w0 sources_fr4 sources_st4 a w := At.shiftL (ρ1 := p4) (ρ2 := r7) (σ := [sy 0, sy 1, sy 2, sy 3, sy 4, sy 5, sy 6, sy 7, sy 8, sy 9, sy 10, sy 11, sy 12]) (π := [0, 1]) (τ := []) ⟨rfl, rfl, rfl, rfl, rfl, rfl, rfl, rfl, rfl, rfl, rfl, rfl, rfl, rfl, rfl, rfl, rfl, rfl, rfl, rfl, rfl, rfl, rfl, rfl, rfl, rfl, trivial⟩ trivial (fun _ _ h => h) sources_wf4 sources_id4 hat
                    let p5 : Rho := (Rho.of [(iV x0), (iV x1), (iV x2), (iV x3), (iV x4), (iV x5), (iV x6), (iV x7), (.slice al l.length ql), (iV k0), (iV k1), (iV t0), (iV t1)] (fun b => w0.heap[b]?) [])
                    refine At.pieceL (ρ1 := r7) (ρ2 := p5) (@Env.Ok.symL r7 _ _ (@env_ok r7) sources_e7 sources_c7 sources_l7 sources_cl7 ⟨⟨rfl, rfl, fun w hm => (show KO w (.bi 0 [37]) [(.slice al l.length ql)] (iV (((l.length : Nat) : Int))) from k_len Try.underlying37)⟩, ⟨rfl, rfl, fun w hm => (show KO w (.bin .sub 3) [(iV k1), (iV k0)] (iV ((k1 - k0))) from k_sub (wrap64 (by omega)))⟩, ⟨rfl, rfl, fun w hm => (show KO w (.bin .add 3) [(iV ((k1 - k0))), (iV 1)] (iV (((k1 - k0) + 1))) from k_add (wrap64 (by omega)))⟩, ⟨rfl, rfl, fun w hm => (show KO w (.bin .mul 3) [(iV (((l.length : Nat) : Int))), (iV (((k1 - k0) + 1)))] (iV ((((l.length : Nat) : Int) * ((k1 - k0) + 1)))) from k_mul (wrap64 (by have := mul_bd (a := ((l.length : Nat) : Int)) (b := ((k1 - k0) + 1)) (A := 100000) (B := 576) (by omega) (by omega) (by omega) (by omega); omega)))⟩, ⟨rfl, rfl, fun w hm => (show KO w (.bin .gtr 3) [(iV ((((l.length : Nat) : Int) * ((k1 - k0) + 1)))), (iV 256)] (.bool false) from k_gtr_f c9)⟩, trivial⟩ trivial trivial trivial) sources_r7 ⟨rfl, rfl, rfl, rfl, rfl, rfl, rfl, rfl, rfl, rfl, rfl, rfl, rfl, rfl, rfl, rfl, rfl, rfl, rfl, rfl, rfl, rfl, rfl, rfl, rfl, rfl, trivial⟩ trivial (fun _ _ h => h) sources_wf4 sources_wf5 hat1 (fun a w hat => .inl ⟨rfl, ?_⟩)
                    refine g_seq sources_q5 ?_
                    let r8 : Rho := (Rho.of [(iV x0), (iV x1), (iV x2), (iV x3), (iV x4), (iV x5), (iV x6), (iV x7), (.slice al l.length ql), (iV k0), (iV k1), (iV t0), (iV t1)] (fun b => w0.heap[b]?) [])
                    have hat1 : @At r8 w0 sources_fr5 sources_st5 a w := At.shiftL (ρ1 := p5) (ρ2 := r8) (σ := [sy 0, sy 1, sy 2, sy 3, sy 4, sy 5, sy 6, sy 7, sy 8, sy 9, sy 10, sy 11, sy 12]) (π := [0, 1]) (τ := []) ⟨rfl, rfl, rfl, rfl, rfl, rfl, rfl, rfl, rfl, rfl, rfl, rfl, rfl, rfl, rfl, rfl, rfl, rfl, rfl, rfl, rfl, rfl, rfl, rfl, rfl, rfl, trivial⟩ trivial (fun _ _ h => h) sources_wf5 sources_id5 hat
                    let p6 : Rho := (Rho.of [(iV x0), (iV x1), (iV x2), (iV x3), (iV x4), (iV x5), (iV x6), (iV x7), (.slice al l.length ql), (iV k0), (iV k1), (iV t0), (iV t1)] (fun b => w0.heap[b]?) [])
                    refine At.pieceL (ρ1 := r8) (ρ2 := p6) (@Env.Ok.symL r8 _ _ (@env_ok r8) [] [] [] [] trivial trivial trivial trivial) sources_r8 ⟨rfl, rfl, rfl, rfl, rfl, rfl, rfl, rfl, rfl, rfl, rfl, rfl, rfl, rfl, rfl, rfl, rfl, rfl, rfl, rfl, rfl, rfl, rfl, rfl, rfl, rfl, trivial⟩ trivial (fun _ _ h => h) sources_wf5 sources_wf6 hat1 (fun a w hat => .inl ⟨rfl, ?_⟩)
                    refine g_seq sources_q6 ?_
                    refine g_seq sources_q7 ?_
                    let r9 : Rho := (Rho.of [(iV x0), (iV x1), (iV x2), (iV x3), (iV x4), (iV x5), (iV x6), (iV x7), (.slice al l.length ql), (iV k0), (iV k1), (iV t0), (iV t1), (iV (((l.length : Nat) : Int)))] (fun b => w0.heap[b]?) [])
                    have hat1 : @At r9 w0 sources_fr6 sources_st6 a w := At.shiftL (ρ1 := p6) (ρ2 := r9) (σ := [sy 0, sy 1, sy 2, sy 3, sy 4, sy 5, sy 6, sy 7, sy 8, sy 9, sy 10, sy 11, sy 12]) (π := [0, 1]) (τ := []) ⟨rfl, rfl, rfl, rfl, rfl, rfl, rfl, rfl, rfl, rfl, rfl, rfl, rfl, rfl, rfl, rfl, rfl, rfl, rfl, rfl, rfl, rfl, rfl, rfl, rfl, rfl, trivial⟩ trivial (fun _ _ h => h) sources_wf6 sources_id6 hat
                    let p7 : Rho := (Rho.of [(iV x0), (iV x1), (iV x2), (iV x3), (iV x4), (iV x5), (iV x6), (iV x7), (.slice al l.length ql), (iV k0), (iV k1), (iV t0), (iV t1), (iV (((l.length : Nat) : Int)))] (fun b => w0.heap[b]?) [])
                    refine At.pieceL (ρ1 := r9) (ρ2 := p7) (@Env.Ok.symL r9 _ _ (@env_ok r9) sources_e9 sources_c9 sources_l9 sources_cl9 ⟨⟨rfl, rfl, fun w hm => (show KO w (.bi 0 [37]) [(.slice al l.length ql)] (iV (((l.length : Nat) : Int))) from k_len Try.underlying37)⟩, trivial⟩ trivial trivial trivial) sources_r9 ⟨rfl, rfl, rfl, rfl, rfl, rfl, rfl, rfl, rfl, rfl, rfl, rfl, rfl, rfl, rfl, rfl, rfl, rfl, rfl, rfl, rfl, rfl, rfl, rfl, rfl, rfl, rfl, rfl, trivial⟩ trivial (fun _ _ h => h) sources_wf6 sources_wf7 hat1 (fun a w hat => .inl ⟨rfl, ?_⟩)
                    refine g_block sources_q8 ?_
                    have hat0 := At.shiftL (ρ1 := p7) (ρ2 := (Rho.of [(iV x0), (iV x1), (iV x2), (iV x3), (iV x4), (iV x5), (iV x6), (iV x7), (.slice al l.length ql), (iV k0), (iV k1), (iV t0), (iV t1), (iV (((l.length : Nat) : Int))), (iV (((([] : List Src).length : Nat) : Int))), (iV ((0 : Int)))] (fun b => w0.heap[b]?) [(flat srcC ([] : List Src))])) (σ := [(sy 0), (sy 1), (sy 2), (sy 3), (sy 4), (sy 5), (sy 6), (sy 7), (sy 8), (sy 9), (sy 10), (sy 11), (sy 12), (sy 13), (iV 0), (iV 0)]) (π := [0, 1, 2]) (τ := [none]) ⟨rfl, rfl, rfl, rfl, rfl, rfl, rfl, rfl, rfl, rfl, rfl, rfl, rfl, rfl, rfl, rfl, rfl, rfl, rfl, rfl, rfl, rfl, rfl, rfl, rfl, rfl, rfl, rfl, rfl, rfl, rfl, rfl, trivial⟩ ⟨rfl, trivial⟩ (fun _ _ h => h) sources_wf8 sources_h10 hat
                    clear hat
                    refine g_loop (fun (x : List Src × Int) a w => (0 ≤ (x.2 : Int) ∧ (x.2 : Int) ≤ l.length ∧ ((x.1 : List Src).length : Int) ≤ 10 * (x.2 : Int) ∧ (x.1 : List Src) = allL k0 k1 t0 t1 (l.take (x.2 : Int).toNat)) ∧ @At (Rho.of [(iV x0), (iV x1), (iV x2), (iV x3), (iV x4), (iV x5), (iV x6), (iV x7), (.slice al l.length ql), (iV k0), (iV k1), (iV t0), (iV t1), (iV (((l.length : Nat) : Int))), (iV ((((x.1 : List Src).length : Nat) : Int))), (iV ((x.2 : Int)))] (fun b => w0.heap[b]?) [(flat srcC (x.1 : List Src))]) w0 sources_fr8 sources_st8 a w) (fun x => (l.length - (x.2 : Int)).toNat) sources_q9 ?_ ([], 0) ⟨?_, hat0⟩
                    · clear hat0
                      rintro ⟨out, i⟩ a w ⟨hinv, hat⟩
                      change 0 ≤ i ∧ i ≤ l.length ∧ (out.length : Int) ≤ 10 * i ∧ out = allL k0 k1 t0 t1 (l.take i.toNat) at hinv
                      let p8 : Rho := (Rho.of [(iV x0), (iV x1), (iV x2), (iV x3), (iV x4), (iV x5), (iV x6), (iV x7), (.slice al l.length ql), (iV k0), (iV k1), (iV t0), (iV t1), (iV (((l.length : Nat) : Int))), (iV (((out.length : Nat) : Int))), (iV i)] (fun b => w0.heap[b]?) [(flat srcC out)])
                      change @At p8 w0 sources_fr8 sources_st8 a w at hat
                      obtain ⟨i0, i1, i2, i3⟩ := hinv
                      refine g_seq sources_q11 ?_
                      by_cases c10 : i < ((l.length : Nat) : Int)
                      · let r10 : Rho := (Rho.of [(iV x0), (iV x1), (iV x2), (iV x3), (iV x4), (iV x5), (iV x6), (iV x7), (.slice al l.length ql), (iV k0), (iV k1), (iV t0), (iV t1), (iV (((l.length : Nat) : Int))), (iV (((out.length : Nat) : Int))), (iV i)] (fun b => w0.heap[b]?) [(flat srcC out)])
                        have hat1 : @At r10 w0 sources_fr8 sources_st8 a w := At.shiftL (ρ1 := p8) (ρ2 := r10) (σ := [sy 0, sy 1, sy 2, sy 3, sy 4, sy 5, sy 6, sy 7, sy 8, sy 9, sy 10, sy 11, sy 12, sy 13, sy 14, sy 15]) (π := [0, 1, 2]) (τ := [some 0]) ⟨rfl, rfl, rfl, rfl, rfl, rfl, rfl, rfl, rfl, rfl, rfl, rfl, rfl, rfl, rfl, rfl, rfl, rfl, rfl, rfl, rfl, rfl, rfl, rfl, rfl, rfl, rfl, rfl, rfl, rfl, rfl, rfl, trivial⟩ ⟨rfl, trivial⟩ (fun _ _ h => h) sources_wf8 sources_id8 hat
                        let p9 : Rho := (Rho.of [(iV x0), (iV x1), (iV x2), (iV x3), (iV x4), (iV x5), (iV x6), (iV x7), (.slice al l.length ql), (iV k0), (iV k1), (iV t0), (iV t1), (iV (((l.length : Nat) : Int))), (iV (((out.length : Nat) : Int))), (iV i)] (fun b => w0.heap[b]?) [(flat srcC out)])
                        refine At.pieceL (ρ1 := r10) (ρ2 := p9) (@Env.Ok.symL r10 _ _ (@env_ok r10) sources_e10 sources_c10 sources_l10 sources_cl10 ⟨⟨rfl, rfl, fun w hm => (show KO w (.bin .lss 3) [(iV i), (iV (((l.length : Nat) : Int)))] (.bool true) from k_lss_t c10)⟩, trivial⟩ trivial trivial trivial) sources_r10 ⟨rfl, rfl, rfl, rfl, rfl, rfl, rfl, rfl, rfl, rfl, rfl, rfl, rfl, rfl, rfl, rfl, rfl, rfl, rfl, rfl, rfl, rfl, rfl, rfl, rfl, rfl, rfl, rfl, rfl, rfl, rfl, rfl, trivial⟩ ⟨rfl, trivial⟩ (fun _ _ h => h) sources_wf8 sources_wf9 hat1 (fun a w hat => .inl ⟨rfl, ?_⟩)
                        refine g_seq sources_q12 ?_
                        let r11 : Rho := (Rho.of [(iV x0), (iV x1), (iV x2), (iV x3), (iV x4), (iV x5), (iV x6), (iV x7), (.slice al l.length ql), (iV k0), (iV k1), (iV t0), (iV t1), (iV (((l.length : Nat) : Int))), (iV (((out.length : Nat) : Int))), (iV i)] (fun b => w0.heap[b]?) [(flat srcC out)])
                        have hat1 : @At r11 w0 sources_fr9 sources_st9 a w := At.shiftL (ρ1 := p9) (ρ2 := r11) (σ := [sy 0, sy 1, sy 2, sy 3, sy 4, sy 5, sy 6, sy 7, sy 8, sy 9, sy 10, sy 11, sy 12, sy 13, sy 14, sy 15]) (π := [0, 1, 2]) (τ := [some 0]) ⟨rfl, rfl, rfl, rfl, rfl, rfl, rfl, rfl, rfl, rfl, rfl, rfl, rfl, rfl, rfl, rfl, rfl, rfl, rfl, rfl, rfl, rfl, rfl, rfl, rfl, rfl, rfl, rfl, rfl, rfl, rfl, rfl, trivial⟩ ⟨rfl, trivial⟩ (fun _ _ h => h) sources_wf9 sources_id9 hat
                        let p10 : Rho := (Rho.of [(iV x0), (iV x1), (iV x2), (iV x3), (iV x4), (iV x5), (iV x6), (iV x7), (.slice al l.length ql), (iV k0), (iV k1), (iV t0), (iV t1), (iV (((l.length : Nat) : Int))), (iV (((out.length : Nat) : Int))), (iV i)] (fun b => w0.heap[b]?) [(flat srcC out)])
                        refine At.pieceL (ρ1 := r11) (ρ2 := p10) (@Env.Ok.symL r11 _ _ (@env_ok r11) [] [] [] [] trivial trivial trivial trivial) sources_r11 ⟨rfl, rfl, rfl, rfl, rfl, rfl, rfl, rfl, rfl, rfl, rfl, rfl, rfl, rfl, rfl, rfl, rfl, rfl, rfl, rfl, rfl, rfl, rfl, rfl, rfl, rfl, rfl, rfl, rfl, rfl, rfl, rfl, trivial⟩ ⟨rfl, trivial⟩ (fun _ _ h => h) sources_wf9 sources_wf10 hat1 (fun a w hat => .inl ⟨rfl, ?_⟩)
                        refine g_seq sources_q13 ?_
                        refine g_block sources_q14 ?_
                        refine g_seq sources_q15 ?_
                        obtain ⟨z11, hz11⟩ : ∃ z : Int, z = l.getD (i).toNat 0 := ⟨_, rfl⟩
                        let r12 : Rho := (Rho.of [(iV x0), (iV x1), (iV x2), (iV x3), (iV x4), (iV x5), (iV x6), (iV x7), (.slice al l.length ql), (iV k0), (iV k1), (iV t0), (iV t1), (iV (((l.length : Nat) : Int))), (iV (((out.length : Nat) : Int))), (iV i), (.pointer (ptrO al ((i).toNat * 1))), (iV z11)] (fun b => w0.heap[b]?) [(flat srcC out)])
                        have hat1 : @At r12 w0 sources_fr10 sources_st10 a w := At.shiftL (ρ1 := p10) (ρ2 := r12) (σ := [sy 0, sy 1, sy 2, sy 3, sy 4, sy 5, sy 6, sy 7, sy 8, sy 9, sy 10, sy 11, sy 12, sy 13, sy 14, sy 15]) (π := [0, 1, 2]) (τ := [some 0]) ⟨rfl, rfl, rfl, rfl, rfl, rfl, rfl, rfl, rfl, rfl, rfl, rfl, rfl, rfl, rfl, rfl, rfl, rfl, rfl, rfl, rfl, rfl, rfl, rfl, rfl, rfl, rfl, rfl, rfl, rfl, rfl, rfl, trivial⟩ ⟨rfl, trivial⟩ (fun _ _ h => h) sources_wf10 sources_id10 hat
                        let p11 : Rho := (Rho.of [(iV x0), (iV x1), (iV x2), (iV x3), (iV x4), (iV x5), (iV x6), (iV x7), (.slice al l.length ql), (iV k0), (iV k1), (iV t0), (iV t1), (iV (((l.length : Nat) : Int))), (iV (((out.length : Nat) : Int))), (iV i), (.pointer (ptrO al ((i).toNat * 1))), (iV z11)] (fun b => w0.heap[b]?) [(flat srcC out)])
                        refine At.pieceL (ρ1 := r12) (ρ2 := p11) (@Env.Ok.symL r12 _ _ (@env_ok r12) sources_e12 sources_c12 sources_l12 sources_cl12 ⟨⟨rfl, rfl, fun w hm => (show KO w (.indexAddr 37) [(.slice al l.length ql), (iV i)] (.pointer (ptrO al ((i).toNat * 1))) from l_index (Hl.keep hm) Try.underlying37 (by kernel_rfl) (by omega) (by omega))⟩, ⟨rfl, rfl, fun w hm => (show KO w (.load 3) [(.pointer (ptrO al ((i).toNat * 1)))] (iV z11) from l_load (Hl.keep hm) (by omega) Try.underlying3 rfl (flat_getz (c := intC) (sz := 1) (fun _ => rfl) hz11 (by omega) 0 _ rfl))⟩, trivial⟩ trivial trivial trivial) sources_r12 ⟨rfl, rfl, rfl, rfl, rfl, rfl, rfl, rfl, rfl, rfl, rfl, rfl, rfl, rfl, rfl, rfl, rfl, rfl, rfl, rfl, rfl, rfl, rfl, rfl, rfl, rfl, rfl, rfl, rfl, rfl, rfl, rfl, rfl, rfl, rfl, rfl, trivial⟩ ⟨rfl, trivial⟩ (fun _ _ h => h) sources_wf10 sources_wf11 hat1 (fun a w hat => .inl ⟨rfl, ?_⟩)
                        refine g_seq sources_q16 ?_
                        let r13 : Rho := (Rho.of [(iV x0), (iV x1), (iV x2), (iV x3), (iV x4), (iV x5), (iV x6), (iV x7), (.slice al l.length ql), (iV k0), (iV k1), (iV t0), (iV t1), (iV (((l.length : Nat) : Int))), (iV (((out.length : Nat) : Int))), (iV i), (.pointer (ptrO al ((i).toNat * 1))), (iV z11)] (fun b => w0.heap[b]?) [(flat srcC out)])
                        have hat1 : @At r13 w0 sources_fr11 sources_st11 a w := At.shiftL (ρ1 := p11) (ρ2 := r13) (σ := [sy 0, sy 1, sy 2, sy 3, sy 4, sy 5, sy 6, sy 7, sy 8, sy 9, sy 10, sy 11, sy 12, sy 13, sy 14, sy 15, sy 16, sy 17]) (π := [0, 1, 2]) (τ := [some 0]) ⟨rfl, rfl, rfl, rfl, rfl, rfl, rfl, rfl, rfl, rfl, rfl, rfl, rfl, rfl, rfl, rfl, rfl, rfl, rfl, rfl, rfl, rfl, rfl, rfl, rfl, rfl, rfl, rfl, rfl, rfl, rfl, rfl, rfl, rfl, rfl, rfl, trivial⟩ ⟨rfl, trivial⟩ (fun _ _ h => h) sources_wf11 sources_id11 hat
                        let p12 : Rho := (Rho.of [(iV x0), (iV x1), (iV x2), (iV x3), (iV x4), (iV x5), (iV x6), (iV x7), (.slice al l.length ql), (iV k0), (iV k1), (iV t0), (iV t1), (iV (((l.length : Nat) : Int))), (iV (((out.length : Nat) : Int))), (iV i), (.pointer (ptrO al ((i).toNat * 1))), (iV z11)] (fun b => w0.heap[b]?) [(flat srcC out)])
                        refine At.pieceL (ρ1 := r13) (ρ2 := p12) (@Env.Ok.symL r13 _ _ (@env_ok r13) [] [] [] [] trivial trivial trivial trivial) sources_r13 ⟨rfl, rfl, rfl, rfl, rfl, rfl, rfl, rfl, rfl, rfl, rfl, rfl, rfl, rfl, rfl, rfl, rfl, rfl, rfl, rfl, rfl, rfl, rfl, rfl, rfl, rfl, rfl, rfl, rfl, rfl, rfl, rfl, rfl, rfl, rfl, rfl, trivial⟩ ⟨rfl, trivial⟩ (fun _ _ h => h) sources_wf11 sources_wf12 hat1 (fun a w hat => .inl ⟨rfl, ?_⟩)
                        refine g_block sources_q17 ?_
                        have hat0 := At.shiftL (ρ1 := p12) (ρ2 := (Rho.of [(iV x0), (iV x1), (iV x2), (iV x3), (iV x4), (iV x5), (iV x6), (iV x7), (.slice al l.length ql), (iV k0), (iV k1), (iV t0), (iV t1), (iV (((l.length : Nat) : Int))), (iV (((out.length : Nat) : Int))), (iV i), (.pointer (ptrO al ((i).toNat * 1))), (iV z11), (iV ((((out : List Src).length : Nat) : Int))), (iV ((k0 : Int)))] (fun b => w0.heap[b]?) [(flat srcC out), (flat srcC (out : List Src))])) (σ := [(sy 0), (sy 1), (sy 2), (sy 3), (sy 4), (sy 5), (sy 6), (sy 7), (sy 8), (sy 9), (sy 10), (sy 11), (sy 12), (sy 13), (sy 14), (sy 15), (sy 16), (sy 17), (sy 14), (sy 9)]) (π := [0, 1, 2]) (τ := [some 0, some 0]) ⟨rfl, rfl, rfl, rfl, rfl, rfl, rfl, rfl, rfl, rfl, rfl, rfl, rfl, rfl, rfl, rfl, rfl, rfl, rfl, rfl, rfl, rfl, rfl, rfl, rfl, rfl, rfl, rfl, rfl, rfl, rfl, rfl, rfl, rfl, rfl, rfl, rfl, (by show (Value.int .i64 _) = Value.int .i64 _; simp), rfl, rfl, trivial⟩ ⟨rfl, (by show (flat srcC out : List Value) = (flat srcC out); simp [flat_snoc, srcC]), trivial⟩ (fun _ _ h => h) sources_wf13 sources_h19 hat
                        clear hat
                        refine g_loop (fun (x : List Src × Int) a w => (k0 ≤ (x.2 : Int) ∧ (x.2 : Int) ≤ k1 + 1 ∧ ((x.1 : List Src).length : Int) ≤ 10 * i + ((x.2 : Int) - k0) ∧ (x.1 : List Src) = out ++ classL (l.getD i.toNat 0) k0 t0 t1 ((x.2 : Int) - k0).toNat) ∧ @At (Rho.of [(iV x0), (iV x1), (iV x2), (iV x3), (iV x4), (iV x5), (iV x6), (iV x7), (.slice al l.length ql), (iV k0), (iV k1), (iV t0), (iV t1), (iV (((l.length : Nat) : Int))), (iV (((out.length : Nat) : Int))), (iV i), (.pointer (ptrO al ((i).toNat * 1))), (iV z11), (iV ((((x.1 : List Src).length : Nat) : Int))), (iV ((x.2 : Int)))] (fun b => w0.heap[b]?) [(flat srcC out), (flat srcC (x.1 : List Src))]) w0 sources_fr13 sources_st13 a w) (fun x => (k1 + 1 - (x.2 : Int)).toNat) sources_q18 ?_ (out, k0) ⟨?_, hat0⟩
                        · clear hat0
                          rintro ⟨out2, c⟩ a w ⟨hinv, hat⟩
                          change k0 ≤ c ∧ c ≤ k1 + 1 ∧ (out2.length : Int) ≤ 10 * i + (c - k0) ∧ out2 = out ++ classL (l.getD i.toNat 0) k0 t0 t1 (c - k0).toNat at hinv
                          let p13 : Rho := (Rho.of [(iV x0), (iV x1), (iV x2), (iV x3), (iV x4), (iV x5), (iV x6), (iV x7), (.slice al l.length ql), (iV k0), (iV k1), (iV t0), (iV t1), (iV (((l.length : Nat) : Int))), (iV (((out.length : Nat) : Int))), (iV i), (.pointer (ptrO al ((i).toNat * 1))), (iV z11), (iV (((out2.length : Nat) : Int))), (iV c)] (fun b => w0.heap[b]?) [(flat srcC out), (flat srcC out2)])
                          change @At p13 w0 sources_fr13 sources_st13 a w at hat
                          obtain ⟨j0, j1, j2, j3⟩ := hinv
                          by_cases c12 : c ≤ k1
                          · let r14 : Rho := (Rho.of [(iV x0), (iV x1), (iV x2), (iV x3), (iV x4), (iV x5), (iV x6), (iV x7), (.slice al l.length ql), (iV k0), (iV k1), (iV t0), (iV t1), (iV (((l.length : Nat) : Int))), (iV (((out.length : Nat) : Int))), (iV i), (.pointer (ptrO al ((i).toNat * 1))), (iV z11), (iV (((out2.length : Nat) : Int))), (iV c), (iV (((out2.length + 1 : Nat) : Int))), (iV ((c + 1)))] (fun b => w0.heap[b]?) [(flat srcC out), (flat srcC out2), ((flat srcC out2) ++ [(iV 1), (iV z11), (iV c), (iV t0), (iV t1)])])
                            have hat1 : @At r14 w0 sources_fr13 sources_st13 a w := At.shiftL (ρ1 := p13) (ρ2 := r14) (σ := [sy 0, sy 1, sy 2, sy 3, sy 4, sy 5, sy 6, sy 7, sy 8, sy 9, sy 10, sy 11, sy 12, sy 13, sy 14, sy 15, sy 16, sy 17, sy 18, sy 19]) (π := [0, 1, 2]) (τ := [some 0, some 1]) ⟨rfl, rfl, rfl, rfl, rfl, rfl, rfl, rfl, rfl, rfl, rfl, rfl, rfl, rfl, rfl, rfl, rfl, rfl, rfl, rfl, rfl, rfl, rfl, rfl, rfl, rfl, rfl, rfl, rfl, rfl, rfl, rfl, rfl, rfl, rfl, rfl, rfl, rfl, rfl, rfl, trivial⟩ ⟨rfl, rfl, trivial⟩ (fun _ _ h => h) sources_wf13 sources_id13 hat
                            refine At.pieceL (ρ1 := r14) (ρ2 := (Rho.of [(iV x0), (iV x1), (iV x2), (iV x3), (iV x4), (iV x5), (iV x6), (iV x7), (.slice al l.length ql), (iV k0), (iV k1), (iV t0), (iV t1), (iV (((l.length : Nat) : Int))), (iV (((out.length : Nat) : Int))), (iV i), (.pointer (ptrO al ((i).toNat * 1))), (iV z11), (iV (((((out2 ++ [(⟨1, z11, c, t0, t1⟩ : Src)]) : List Src).length : Nat) : Int))), (iV (((c + 1) : Int)))] (fun b => w0.heap[b]?) [(flat srcC out), (flat srcC ((out2 ++ [(⟨1, z11, c, t0, t1⟩ : Src)]) : List Src))])) (@Env.Ok.symL r14 _ _ (@env_ok r14) sources_e14 sources_c14 sources_l14 sources_cl14 ⟨⟨rfl, rfl, fun w hm => (show KO w (.bin .leq 3) [(iV c), (iV k1)] (.bool true) from k_leq_t c12)⟩, ⟨rfl, rfl, fun w hm => (show KO w (.bin .add 3) [(iV c), (iV 1)] (iV ((c + 1))) from k_add (wrap64 (by omega)))⟩, trivial⟩ trivial ⟨⟨rfl, rfl, out2.length, rfl, rfl, (by show ((flat srcC out2) : List Value).length = (out2.length) * 5; first | exact flat_len (fun _ => rfl) _ | simp [flat_len (c := srcC) (sz := 5) (fun _ => rfl), srcC] <;> omega), rfl, (by omega)⟩, trivial⟩ trivial) sources_r14 ⟨rfl, rfl, rfl, rfl, rfl, rfl, rfl, rfl, rfl, rfl, rfl, rfl, rfl, rfl, rfl, rfl, rfl, rfl, rfl, rfl, rfl, rfl, rfl, rfl, rfl, rfl, rfl, rfl, rfl, rfl, rfl, rfl, rfl, rfl, rfl, rfl, rfl, (by show (Value.int .i64 _) = Value.int .i64 _; simp), rfl, rfl, trivial⟩ ⟨rfl, (by show (flat srcC (out2 ++ [(⟨1, z11, c, t0, t1⟩ : Src)]) : List Value) = ((flat srcC out2) ++ [(iV 1), (iV z11), (iV c), (iV t0), (iV t1)]); simp [flat_snoc, srcC]), trivial⟩ (fun _ _ h => h) sources_wf13 sources_wf13 hat1 (fun a w hat => .inl ⟨rfl, ⟨((out2 ++ [(⟨1, z11, c, t0, t1⟩ : Src)]), (c + 1)), ?_, ?_, hat⟩⟩)
                            · show (k1 + 1 - ((c + 1) : Int)).toNat < (k1 + 1 - c).toNat
                              omega
                            · show k0 ≤ ((c + 1) : Int) ∧ ((c + 1) : Int) ≤ k1 + 1 ∧ (((out2 ++ [(⟨1, z11, c, t0, t1⟩ : Src)]) : List Src).length : Int) ≤ 10 * i + (((c + 1) : Int) - k0) ∧ ((out2 ++ [(⟨1, z11, c, t0, t1⟩ : Src)]) : List Src) = out ++ classL (l.getD i.toNat 0) k0 t0 t1 (((c + 1) : Int) - k0).toNat
                              have e1 : (c + 1 - k0).toNat = (c - k0).toNat + 1 := by omega
                              refine ⟨by omega, by omega, by first | (simp; omega) | omega, ?_⟩
                              rw [e1, classL_succ, ← hz11, ← List.append_assoc]
                              have e2 : k0 + ((c - k0).toNat : Int) = c := by omega
                              rw [e2]
                              have h := j3
                              rw [← hz11] at h
                              rw [← h]
                          · let r15 : Rho := (Rho.of [(iV x0), (iV x1), (iV x2), (iV x3), (iV x4), (iV x5), (iV x6), (iV x7), (.slice al l.length ql), (iV k0), (iV k1), (iV t0), (iV t1), (iV (((l.length : Nat) : Int))), (iV (((out.length : Nat) : Int))), (iV i), (.pointer (ptrO al ((i).toNat * 1))), (iV z11), (iV (((out2.length : Nat) : Int))), (iV c)] (fun b => w0.heap[b]?) [(flat srcC out), (flat srcC out2)])
                            have hat1 : @At r15 w0 sources_fr13 sources_st13 a w := At.shiftL (ρ1 := p13) (ρ2 := r15) (σ := [sy 0, sy 1, sy 2, sy 3, sy 4, sy 5, sy 6, sy 7, sy 8, sy 9, sy 10, sy 11, sy 12, sy 13, sy 14, sy 15, sy 16, sy 17, sy 18, sy 19]) (π := [0, 1, 2]) (τ := [some 0, some 1]) ⟨rfl, rfl, rfl, rfl, rfl, rfl, rfl, rfl, rfl, rfl, rfl, rfl, rfl, rfl, rfl, rfl, rfl, rfl, rfl, rfl, rfl, rfl, rfl, rfl, rfl, rfl, rfl, rfl, rfl, rfl, rfl, rfl, rfl, rfl, rfl, rfl, rfl, rfl, rfl, rfl, trivial⟩ ⟨rfl, rfl, trivial⟩ (fun _ _ h => h) sources_wf13 sources_id13 hat
                            let p14 : Rho := (Rho.of [(iV x0), (iV x1), (iV x2), (iV x3), (iV x4), (iV x5), (iV x6), (iV x7), (.slice al l.length ql), (iV k0), (iV k1), (iV t0), (iV t1), (iV (((l.length : Nat) : Int))), (iV (((out.length : Nat) : Int))), (iV i), (.pointer (ptrO al ((i).toNat * 1))), (iV z11), (iV (((out2.length : Nat) : Int))), (iV c)] (fun b => w0.heap[b]?) [(flat srcC out), (flat srcC out2)])
                            refine At.pieceL (ρ1 := r15) (ρ2 := p14) (@Env.Ok.symL r15 _ _ (@env_ok r15) sources_e15 sources_c15 sources_l15 sources_cl15 ⟨⟨rfl, rfl, fun w hm => (show KO w (.bin .leq 3) [(iV c), (iV k1)] (.bool false) from k_leq_f c12)⟩, trivial⟩ trivial trivial trivial) sources_r15 ⟨rfl, rfl, rfl, rfl, rfl, rfl, rfl, rfl, rfl, rfl, rfl, rfl, rfl, rfl, rfl, rfl, rfl, rfl, rfl, rfl, rfl, rfl, rfl, rfl, rfl, rfl, rfl, rfl, rfl, rfl, rfl, rfl, rfl, rfl, rfl, rfl, rfl, rfl, rfl, rfl, trivial⟩ ⟨rfl, rfl, trivial⟩ (fun _ _ h => h) sources_wf13 sources_wf14 hat1 (fun a w hat => .inr ⟨.inl ⟨2, rfl⟩, .inl ⟨rfl, .inr ⟨(fun q => nomatch q), .inl ⟨rfl, ?_⟩⟩⟩⟩)
                            let r16 : Rho := (Rho.of [(iV x0), (iV x1), (iV x2), (iV x3), (iV x4), (iV x5), (iV x6), (iV x7), (.slice al l.length ql), (iV k0), (iV k1), (iV t0), (iV t1), (iV (((l.length : Nat) : Int))), (iV (((out.length : Nat) : Int))), (iV i), (.pointer (ptrO al ((i).toNat * 1))), (iV z11), (iV (((out2.length : Nat) : Int))), (iV c), (iV ((i + 1)))] (fun b => w0.heap[b]?) [(flat srcC out), (flat srcC out2)])
                            have hat1 : @At r16 w0 sources_fr14 sources_st14 a w := At.shiftL (ρ1 := p14) (ρ2 := r16) (σ := [sy 0, sy 1, sy 2, sy 3, sy 4, sy 5, sy 6, sy 7, sy 8, sy 9, sy 10, sy 11, sy 12, sy 13, sy 14, sy 15, sy 16, sy 17, sy 18, sy 19]) (π := [0, 1, 2]) (τ := [some 0, some 1]) ⟨rfl, rfl, rfl, rfl, rfl, rfl, rfl, rfl, rfl, rfl, rfl, rfl, rfl, rfl, rfl, rfl, rfl, rfl, rfl, rfl, rfl, rfl, rfl, rfl, rfl, rfl, rfl, rfl, rfl, rfl, rfl, rfl, rfl, rfl, rfl, rfl, rfl, rfl, rfl, rfl, trivial⟩ ⟨rfl, rfl, trivial⟩ (fun _ _ h => h) sources_wf14 sources_id14 hat
                            refine At.pieceL (ρ1 := r16) (ρ2 := (Rho.of [(iV x0), (iV x1), (iV x2), (iV x3), (iV x4), (iV x5), (iV x6), (iV x7), (.slice al l.length ql), (iV k0), (iV k1), (iV t0), (iV t1), (iV (((l.length : Nat) : Int))), (iV ((((out2 : List Src).length : Nat) : Int))), (iV (((i + 1) : Int)))] (fun b => w0.heap[b]?) [(flat srcC (out2 : List Src))])) (@Env.Ok.symL r16 _ _ (@env_ok r16) sources_e16 sources_c16 sources_l16 sources_cl16 ⟨⟨rfl, rfl, fun w hm => (show KO w (.bin .add 3) [(iV i), (iV 1)] (iV ((i + 1))) from k_add (wrap64 (by omega)))⟩, trivial⟩ trivial trivial trivial) sources_r16 ⟨rfl, rfl, rfl, rfl, rfl, rfl, rfl, rfl, rfl, rfl, rfl, rfl, rfl, rfl, rfl, rfl, rfl, rfl, rfl, rfl, rfl, rfl, rfl, rfl, rfl, rfl, rfl, rfl, rfl, (by show (Value.int .i64 _) = Value.int .i64 _; simp), rfl, rfl, trivial⟩ ⟨(by show (flat srcC out2 : List Value) = (flat srcC out2); simp [flat_snoc, srcC]), trivial⟩ (fun _ _ h => h) sources_wf14 sources_wf8 hat1 (fun a w hat => .inl ⟨rfl, ⟨(out2, (i + 1)), ?_, ?_, hat⟩⟩)
                            · show (l.length - ((i + 1) : Int)).toNat < (l.length - i).toNat
                              omega
                            · show 0 ≤ ((i + 1) : Int) ∧ ((i + 1) : Int) ≤ l.length ∧ ((out2 : List Src).length : Int) ≤ 10 * ((i + 1) : Int) ∧ (out2 : List Src) = allL k0 k1 t0 t1 (l.take ((i + 1) : Int).toNat)
                              have e1 : (i + 1).toNat = i.toNat + 1 := by omega
                              refine ⟨by omega, by omega, by omega, ?_⟩
                              rw [e1, allL_succ (by omega), ← i3, show (k1 - k0 + 1).toNat = (c - k0).toNat by omega]
                              exact j3
                        · show k0 ≤ (k0 : Int) ∧ (k0 : Int) ≤ k1 + 1 ∧ ((out : List Src).length : Int) ≤ 10 * i + ((k0 : Int) - k0) ∧ (out : List Src) = out ++ classL (l.getD i.toNat 0) k0 t0 t1 ((k0 : Int) - k0).toNat
                          exact ⟨by omega, by omega, by omega, by simp [classL]⟩
                      · let r17 : Rho := (Rho.of [(iV x0), (iV x1), (iV x2), (iV x3), (iV x4), (iV x5), (iV x6), (iV x7), (.slice al l.length ql), (iV k0), (iV k1), (iV t0), (iV t1), (iV (((l.length : Nat) : Int))), (iV (((out.length : Nat) : Int))), (iV i)] (fun b => w0.heap[b]?) [(flat srcC out)])
                        have hat1 : @At r17 w0 sources_fr8 sources_st8 a w := At.shiftL (ρ1 := p8) (ρ2 := r17) (σ := [sy 0, sy 1, sy 2, sy 3, sy 4, sy 5, sy 6, sy 7, sy 8, sy 9, sy 10, sy 11, sy 12, sy 13, sy 14, sy 15]) (π := [0, 1, 2]) (τ := [some 0]) ⟨rfl, rfl, rfl, rfl, rfl, rfl, rfl, rfl, rfl, rfl, rfl, rfl, rfl, rfl, rfl, rfl, rfl, rfl, rfl, rfl, rfl, rfl, rfl, rfl, rfl, rfl, rfl, rfl, rfl, rfl, rfl, rfl, trivial⟩ ⟨rfl, trivial⟩ (fun _ _ h => h) sources_wf8 sources_id8 hat
                        let p15 : Rho := (Rho.of [(iV x0), (iV x1), (iV x2), (iV x3), (iV x4), (iV x5), (iV x6), (iV x7), (.slice al l.length ql), (iV k0), (iV k1), (iV t0), (iV t1), (iV (((l.length : Nat) : Int))), (iV (((out.length : Nat) : Int))), (iV i)] (fun b => w0.heap[b]?) [(flat srcC out)])
                        refine At.pieceL (ρ1 := r17) (ρ2 := p15) (@Env.Ok.symL r17 _ _ (@env_ok r17) sources_e17 sources_c17 sources_l17 sources_cl17 ⟨⟨rfl, rfl, fun w hm => (show KO w (.bin .lss 3) [(iV i), (iV (((l.length : Nat) : Int)))] (.bool false) from k_lss_f c10)⟩, trivial⟩ trivial trivial trivial) sources_r17 ⟨rfl, rfl, rfl, rfl, rfl, rfl, rfl, rfl, rfl, rfl, rfl, rfl, rfl, rfl, rfl, rfl, rfl, rfl, rfl, rfl, rfl, rfl, rfl, rfl, rfl, rfl, rfl, rfl, rfl, rfl, rfl, rfl, trivial⟩ ⟨rfl, trivial⟩ (fun _ _ h => h) sources_wf8 sources_wf15 hat1 (fun a w hat => .inl ⟨rfl, ?_⟩)
                        refine g_seq sources_q20 ?_
                        let r18 : Rho := (Rho.of [(iV x0), (iV x1), (iV x2), (iV x3), (iV x4), (iV x5), (iV x6), (iV x7), (.slice al l.length ql), (iV k0), (iV k1), (iV t0), (iV t1), (iV (((l.length : Nat) : Int))), (iV (((out.length : Nat) : Int))), (iV i)] (fun b => w0.heap[b]?) [(flat srcC out)])
                        have hat1 : @At r18 w0 sources_fr15 sources_st15 a w := At.shiftL (ρ1 := p15) (ρ2 := r18) (σ := [sy 0, sy 1, sy 2, sy 3, sy 4, sy 5, sy 6, sy 7, sy 8, sy 9, sy 10, sy 11, sy 12, sy 13, sy 14, sy 15]) (π := [0, 1, 2]) (τ := [some 0]) ⟨rfl, rfl, rfl, rfl, rfl, rfl, rfl, rfl, rfl, rfl, rfl, rfl, rfl, rfl, rfl, rfl, rfl, rfl, rfl, rfl, rfl, rfl, rfl, rfl, rfl, rfl, rfl, rfl, rfl, rfl, rfl, rfl, trivial⟩ ⟨rfl, trivial⟩ (fun _ _ h => h) sources_wf15 sources_id15 hat
                        let p16 : Rho := (Rho.of [(iV x0), (iV x1), (iV x2), (iV x3), (iV x4), (iV x5), (iV x6), (iV x7), (.slice al l.length ql), (iV k0), (iV k1), (iV t0), (iV t1), (iV (((out.length : Nat) : Int)))] (fun b => w0.heap[b]?) [(flat srcC out)])
                        refine At.pieceL (ρ1 := r18) (ρ2 := p16) (@Env.Ok.symL r18 _ _ (@env_ok r18) [] [] [] [] trivial trivial trivial trivial) sources_r18 ⟨rfl, rfl, rfl, rfl, rfl, rfl, rfl, rfl, rfl, rfl, rfl, rfl, rfl, rfl, rfl, rfl, rfl, rfl, rfl, rfl, rfl, rfl, rfl, rfl, rfl, rfl, rfl, rfl, trivial⟩ ⟨rfl, trivial⟩ (fun _ _ h => h) sources_wf15 sources_wf16 hat1 (fun a w hat => .inr ⟨(fun q => nomatch q), .inr ⟨.inl ⟨0, rfl⟩, .inl ⟨rfl, .inl ⟨rfl, ?_⟩⟩⟩⟩)
                        let r19 : Rho := (Rho.of [(iV x0), (iV x1), (iV x2), (iV x3), (iV x4), (iV x5), (iV x6), (iV x7), (.slice al l.length ql), (iV k0), (iV k1), (iV t0), (iV t1), (iV (((out.length : Nat) : Int)))] (fun b => w0.heap[b]?) [(flat srcC out)])
                        have hat1 : @At r19 w0 sources_fr16 sources_st16 a w := At.shiftL (ρ1 := p16) (ρ2 := r19) (σ := [sy 0, sy 1, sy 2, sy 3, sy 4, sy 5, sy 6, sy 7, sy 8, sy 9, sy 10, sy 11, sy 12, sy 13]) (π := [0]) (τ := [some 0]) ⟨rfl, rfl, rfl, rfl, rfl, rfl, rfl, rfl, rfl, rfl, rfl, rfl, rfl, rfl, rfl, rfl, rfl, rfl, rfl, rfl, rfl, rfl, rfl, rfl, rfl, rfl, rfl, rfl, trivial⟩ ⟨rfl, trivial⟩ (fun _ _ h => h) sources_wf16 sources_id16 hat
                        refine @At.lastK r19 Try.prog (env.symL [] [] [] []) (@Env.Ok.symL r19 _ _ (@env_ok r19) [] [] [] [] trivial trivial trivial trivial) w0 3000 sources_b14 Try.f21 sources_fr16 sources_st16 _ _ sources_r19 sources_wf16 a w hat1 (@endL_ok r19 Try.prog w0 (.tuple #[(.pointer (some ⟨0, 13, some 2⟩)), (iV 0)]) 0 13 0 54 5 (out.length) (some [(iV 0)]) (fun en w' => ∃ a C, en = .returned (.tuple #[.slice a (sourcesL x0 x1 x2 x3 x4 x5 x6 x7 l k0 k1 t0 t1).length C, iV (sourcesE x0 x1 x2 x3 x4 x5 x6 x7 l k0 k1 t0 t1)]) ∧ NewList w0 w' 54 5 (flat srcC (sourcesL x0 x1 x2 x3 x4 x5 x6 x7 l k0 k1 t0 t1)) a (sourcesL x0 x1 x2 x3 x4 x5 x6 x7 l k0 k1 t0 t1).length C ∧ Below w0.heap.size w0 w') rfl rfl (by show ((flat srcC out) : List Value).length = (out.length) * 5; first | exact flat_len (fun _ => rfl) _ | simp [flat_len (c := srcC) (sz := 5) (fun _ => rfl), srcC] <;> omega) (fun w2 a2 C2 hb hn => ?_))
                        have v0 : (0 : Int) = sourcesE x0 x1 x2 x3 x4 x5 x6 x7 l k0 k1 t0 t1 := by
                          unfold sourcesE
                          first
                            | (rw [if_pos (by omega)] <;> omega)
                            | (rw [if_neg (by omega), if_pos (by omega)] <;> omega)
                            | (rw [if_neg (by omega), if_neg (by omega), if_pos (by omega)])
                            | (rw [if_neg (by omega), if_neg (by omega), if_neg (by omega), if_pos (by omega)])
                            | (rw [if_neg (by omega), if_neg (by omega), if_neg (by omega), if_neg (by omega)])
                        have hL : out = sourcesL x0 x1 x2 x3 x4 x5 x6 x7 l k0 k1 t0 t1 := by
                          unfold sourcesL
                          first
                            | (have hE : ¬ sourcesE x0 x1 x2 x3 x4 x5 x6 x7 l k0 k1 t0 t1 = 0 := by omega
                               rw [if_neg hE])
                            | (have hE : sourcesE x0 x1 x2 x3 x4 x5 x6 x7 l k0 k1 t0 t1 = 0 := by omega
                               rw [if_pos hE, i3, show i.toNat = l.length by omega, List.take_length])
                        have e1 : out.length = (sourcesL x0 x1 x2 x3 x4 x5 x6 x7 l k0 k1 t0 t1).length := by rw [← hL]; try first | rfl | simp
                        have e2 : ((flat srcC out) : List Value) = flat srcC (sourcesL x0 x1 x2 x3 x4 x5 x6 x7 l k0 k1 t0 t1) := by rw [← hL]; try first | rfl | simp [flat_snoc, srcC]
                        have hn2 : NewList w0 w2 54 5 (flat srcC (sourcesL x0 x1 x2 x3 x4 x5 x6 x7 l k0 k1 t0 t1)) a2 (sourcesL x0 x1 x2 x3 x4 x5 x6 x7 l k0 k1 t0 t1).length C2 := by rw [← e1, ← e2]; exact hn
                        have hv := congr (congrArg (fun (n2 : Nat) (y0 : Int) => (.tuple #[.slice a2 n2 C2, iV y0] : Value)) e1) v0
                        exact ⟨a2, C2, congrArg Ending.returned hv, hn2, hb⟩
                    · show 0 ≤ (0 : Int) ∧ (0 : Int) ≤ l.length ∧ (([] : List Src).length : Int) ≤ 10 * (0 : Int) ∧ ([] : List Src) = allL k0 k1 t0 t1 (l.take (0 : Int).toNat)
                      exact ⟨by omega, by omega, by simp, rfl⟩
                · let r20 : Rho := (Rho.of [(iV x0), (iV x1), (iV x2), (iV x3), (iV x4), (iV x5), (iV x6), (iV x7), (.slice al l.length ql), (iV k0), (iV k1), (iV t0), (iV t1)] (fun b => w0.heap[b]?) [])
                  have hat1 : @At r20 w0 sources_fr3 sources_st3 a w := At.shiftL (ρ1 := p3) (ρ2 := r20) (σ := [sy 0, sy 1, sy 2, sy 3, sy 4, sy 5, sy 6, sy 7, sy 8, sy 9, sy 10, sy 11, sy 12]) (π := [0, 1]) (τ := []) ⟨rfl, rfl, rfl, rfl, rfl, rfl, rfl, rfl, rfl, rfl, rfl, rfl, rfl, rfl, rfl, rfl, rfl, rfl, rfl, rfl, rfl, rfl, rfl, rfl, rfl, rfl, trivial⟩ trivial (fun _ _ h => h) sources_wf3 sources_id3 hat
                  refine @At.retGK r20 Try.prog (env.symL sources_e20 sources_c20 sources_l20 sources_cl20) (@Env.Ok.symL r20 _ _ (@env_ok r20) sources_e20 sources_c20 sources_l20 sources_cl20 ⟨⟨rfl, rfl, fun w hm => (show KO w (.bin .leq 3) [(iV k0), (iV k1)] (.bool true) from k_leq_t c3)⟩, ⟨rfl, rfl, fun w hm => (show KO w (.bin .geq 3) [(iV k0), (iV 1)] (.bool true) from k_geq_t c4)⟩, ⟨rfl, rfl, fun w hm => (show KO w (.bin .leq 3) [(iV k1), (iV 10)] (.bool true) from k_leq_t c5)⟩, ⟨rfl, rfl, fun w hm => (show KO w (.bin .leq 3) [(iV t0), (iV t1)] (.bool true) from k_leq_t c6)⟩, ⟨rfl, rfl, fun w hm => (show KO w (.bin .geq 3) [(iV t0), (iV 0)] (.bool true) from k_geq_t c7)⟩, ⟨rfl, rfl, fun w hm => (show KO w (.bin .leq 3) [(iV t1), (iV 1000000000)] (.bool false) from k_leq_f c8)⟩, trivial⟩ trivial trivial trivial) w0 3000 sources_b7 Try.f21 sources_fr3 sources_st3 _ _ sources_r20 sources_wf3 a w hat1 (@endV_ok r20 w0 (.tuple #[(.slice .none 0 0), (iV 3)]) (fun en w' => ∃ a C, en = .returned (.tuple #[.slice a (sourcesL x0 x1 x2 x3 x4 x5 x6 x7 l k0 k1 t0 t1).length C, iV (sourcesE x0 x1 x2 x3 x4 x5 x6 x7 l k0 k1 t0 t1)]) ∧ NewList w0 w' 54 5 (flat srcC (sourcesL x0 x1 x2 x3 x4 x5 x6 x7 l k0 k1 t0 t1)) a (sourcesL x0 x1 x2 x3 x4 x5 x6 x7 l k0 k1 t0 t1).length C ∧ Below w0.heap.size w0 w') rfl (fun w2 hb => ?_)) _ (fun a w h => .inr ⟨(fun q => nomatch q), h⟩)
                  have v0 : (3 : Int) = sourcesE x0 x1 x2 x3 x4 x5 x6 x7 l k0 k1 t0 t1 := by
                    unfold sourcesE
                    first
                      | (rw [if_pos (by omega)] <;> omega)
                      | (rw [if_neg (by omega), if_pos (by omega)] <;> omega)
                      | (rw [if_neg (by omega), if_neg (by omega), if_pos (by omega)])
                      | (rw [if_neg (by omega), if_neg (by omega), if_neg (by omega), if_pos (by omega)])
                      | (rw [if_neg (by omega), if_neg (by omega), if_neg (by omega), if_neg (by omega)])
                  have hL : [] = sourcesL x0 x1 x2 x3 x4 x5 x6 x7 l k0 k1 t0 t1 := by
                    unfold sourcesL
                    first
                      | (have hE : ¬ sourcesE x0 x1 x2 x3 x4 x5 x6 x7 l k0 k1 t0 t1 = 0 := by omega
                         rw [if_neg hE])
                      | (have hE : sourcesE x0 x1 x2 x3 x4 x5 x6 x7 l k0 k1 t0 t1 = 0 := by omega
                         rw [if_pos hE, i3, show i.toNat = l.length by omega, List.take_length])
                  have hN : (sourcesL x0 x1 x2 x3 x4 x5 x6 x7 l k0 k1 t0 t1).length = 0 := by rw [← hL]; rfl
                  refine ⟨none, 0, ?_, ⟨?_, .inl ⟨rfl, hN, rfl⟩⟩, hb⟩
                  · rw [hN]; exact congrArg Ending.returned (congrArg (fun (y0 : Int) => (.tuple #[.slice none 0 0, iV y0] : Value)) v0)
                  · rw [← hL]; rfl
              · let r21 : Rho := (Rho.of [(iV x0), (iV x1), (iV x2), (iV x3), (iV x4), (iV x5), (iV x6), (iV x7), (.slice al l.length ql), (iV k0), (iV k1), (iV t0), (iV t1)] (fun b => w0.heap[b]?) [])
                have hat1 : @At r21 w0 sources_fr3 sources_st3 a w := At.shiftL (ρ1 := p3) (ρ2 := r21) (σ := [sy 0, sy 1, sy 2, sy 3, sy 4, sy 5, sy 6, sy 7, sy 8, sy 9, sy 10, sy 11, sy 12]) (π := [0, 1]) (τ := []) ⟨rfl, rfl, rfl, rfl, rfl, rfl, rfl, rfl, rfl, rfl, rfl, rfl, rfl, rfl, rfl, rfl, rfl, rfl, rfl, rfl, rfl, rfl, rfl, rfl, rfl, rfl, trivial⟩ trivial (fun _ _ h => h) sources_wf3 sources_id3 hat
                refine @At.retGK r21 Try.prog (env.symL sources_e21 sources_c21 sources_l21 sources_cl21) (@Env.Ok.symL r21 _ _ (@env_ok r21) sources_e21 sources_c21 sources_l21 sources_cl21 ⟨⟨rfl, rfl, fun w hm => (show KO w (.bin .leq 3) [(iV k0), (iV k1)] (.bool true) from k_leq_t c3)⟩, ⟨rfl, rfl, fun w hm => (show KO w (.bin .geq 3) [(iV k0), (iV 1)] (.bool true) from k_geq_t c4)⟩, ⟨rfl, rfl, fun w hm => (show KO w (.bin .leq 3) [(iV k1), (iV 10)] (.bool true) from k_leq_t c5)⟩, ⟨rfl, rfl, fun w hm => (show KO w (.bin .leq 3) [(iV t0), (iV t1)] (.bool true) from k_leq_t c6)⟩, ⟨rfl, rfl, fun w hm => (show KO w (.bin .geq 3) [(iV t0), (iV 0)] (.bool false) from k_geq_f c7)⟩, trivial⟩ trivial trivial trivial) w0 3000 sources_b7 Try.f21 sources_fr3 sources_st3 _ _ sources_r21 sources_wf3 a w hat1 (@endV_ok r21 w0 (.tuple #[(.slice .none 0 0), (iV 3)]) (fun en w' => ∃ a C, en = .returned (.tuple #[.slice a (sourcesL x0 x1 x2 x3 x4 x5 x6 x7 l k0 k1 t0 t1).length C, iV (sourcesE x0 x1 x2 x3 x4 x5 x6 x7 l k0 k1 t0 t1)]) ∧ NewList w0 w' 54 5 (flat srcC (sourcesL x0 x1 x2 x3 x4 x5 x6 x7 l k0 k1 t0 t1)) a (sourcesL x0 x1 x2 x3 x4 x5 x6 x7 l k0 k1 t0 t1).length C ∧ Below w0.heap.size w0 w') rfl (fun w2 hb => ?_)) _ (fun a w h => .inr ⟨(fun q => nomatch q), h⟩)
                have v0 : (3 : Int) = sourcesE x0 x1 x2 x3 x4 x5 x6 x7 l k0 k1 t0 t1 := by
                  unfold sourcesE
                  first
                    | (rw [if_pos (by omega)] <;> omega)
                    | (rw [if_neg (by omega), if_pos (by omega)] <;> omega)
                    | (rw [if_neg (by omega), if_neg (by omega), if_pos (by omega)])
                    | (rw [if_neg (by omega), if_neg (by omega), if_neg (by omega), if_pos (by omega)])
                    | (rw [if_neg (by omega), if_neg (by omega), if_neg (by omega), if_neg (by omega)])
                have hL : [] = sourcesL x0 x1 x2 x3 x4 x5 x6 x7 l k0 k1 t0 t1 := by
                  unfold sourcesL
                  first
                    | (have hE : ¬ sourcesE x0 x1 x2 x3 x4 x5 x6 x7 l k0 k1 t0 t1 = 0 := by omega
                       rw [if_neg hE])
                    | (have hE : sourcesE x0 x1 x2 x3 x4 x5 x6 x7 l k0 k1 t0 t1 = 0 := by omega
                       rw [if_pos hE, i3, show i.toNat = l.length by omega, List.take_length])
                have hN : (sourcesL x0 x1 x2 x3 x4 x5 x6 x7 l k0 k1 t0 t1).length = 0 := by rw [← hL]; rfl
                refine ⟨none, 0, ?_, ⟨?_, .inl ⟨rfl, hN, rfl⟩⟩, hb⟩
                · rw [hN]; exact congrArg Ending.returned (congrArg (fun (y0 : Int) => (.tuple #[.slice none 0 0, iV y0] : Value)) v0)
                · rw [← hL]; rfl
            · let r22 : Rho := (Rho.of [(iV x0), (iV x1), (iV x2), (iV x3), (iV x4), (iV x5), (iV x6), (iV x7), (.slice al l.length ql), (iV k0), (iV k1), (iV t0), (iV t1)] (fun b => w0.heap[b]?) [])
              have hat1 : @At r22 w0 sources_fr3 sources_st3 a w := At.shiftL (ρ1 := p3) (ρ2 := r22) (σ := [sy 0, sy 1, sy 2, sy 3, sy 4, sy 5, sy 6, sy 7, sy 8, sy 9, sy 10, sy 11, sy 12]) (π := [0, 1]) (τ := []) ⟨rfl, rfl, rfl, rfl, rfl, rfl, rfl, rfl, rfl, rfl, rfl, rfl, rfl, rfl, rfl, rfl, rfl, rfl, rfl, rfl, rfl, rfl, rfl, rfl, rfl, rfl, trivial⟩ trivial (fun _ _ h => h) sources_wf3 sources_id3 hat
              refine @At.retGK r22 Try.prog (env.symL sources_e22 sources_c22 sources_l22 sources_cl22) (@Env.Ok.symL r22 _ _ (@env_ok r22) sources_e22 sources_c22 sources_l22 sources_cl22 ⟨⟨rfl, rfl, fun w hm => (show KO w (.bin .leq 3) [(iV k0), (iV k1)] (.bool true) from k_leq_t c3)⟩, ⟨rfl, rfl, fun w hm => (show KO w (.bin .geq 3) [(iV k0), (iV 1)] (.bool true) from k_geq_t c4)⟩, ⟨rfl, rfl, fun w hm => (show KO w (.bin .leq 3) [(iV k1), (iV 10)] (.bool true) from k_leq_t c5)⟩, ⟨rfl, rfl, fun w hm => (show KO w (.bin .leq 3) [(iV t0), (iV t1)] (.bool false) from k_leq_f c6)⟩, trivial⟩ trivial trivial trivial) w0 3000 sources_b7 Try.f21 sources_fr3 sources_st3 _ _ sources_r22 sources_wf3 a w hat1 (@endV_ok r22 w0 (.tuple #[(.slice .none 0 0), (iV 3)]) (fun en w' => ∃ a C, en = .returned (.tuple #[.slice a (sourcesL x0 x1 x2 x3 x4 x5 x6 x7 l k0 k1 t0 t1).length C, iV (sourcesE x0 x1 x2 x3 x4 x5 x6 x7 l k0 k1 t0 t1)]) ∧ NewList w0 w' 54 5 (flat srcC (sourcesL x0 x1 x2 x3 x4 x5 x6 x7 l k0 k1 t0 t1)) a (sourcesL x0 x1 x2 x3 x4 x5 x6 x7 l k0 k1 t0 t1).length C ∧ Below w0.heap.size w0 w') rfl (fun w2 hb => ?_)) _ (fun a w h => .inr ⟨(fun q => nomatch q), h⟩)
              have v0 : (3 : Int) = sourcesE x0 x1 x2 x3 x4 x5 x6 x7 l k0 k1 t0 t1 := by
                unfold sourcesE
                first
                  | (rw [if_pos (by omega)] <;> omega)
                  | (rw [if_neg (by omega), if_pos (by omega)] <;> omega)
                  | (rw [if_neg (by omega), if_neg (by omega), if_pos (by omega)])
                  | (rw [if_neg (by omega), if_neg (by omega), if_neg (by omega), if_pos (by omega)])
                  | (rw [if_neg (by omega), if_neg (by omega), if_neg (by omega), if_neg (by omega)])
              have hL : [] = sourcesL x0 x1 x2 x3 x4 x5 x6 x7 l k0 k1 t0 t1 := by
                unfold sourcesL
                first
                  | (have hE : ¬ sourcesE x0 x1 x2 x3 x4 x5 x6 x7 l k0 k1 t0 t1 = 0 := by omega
                     rw [if_neg hE])
                  | (have hE : sourcesE x0 x1 x2 x3 x4 x5 x6 x7 l k0 k1 t0 t1 = 0 := by omega
                     rw [if_pos hE, i3, show i.toNat = l.length by omega, List.take_length])
              have hN : (sourcesL x0 x1 x2 x3 x4 x5 x6 x7 l k0 k1 t0 t1).length = 0 := by rw [← hL]; rfl
              refine ⟨none, 0, ?_, ⟨?_, .inl ⟨rfl, hN, rfl⟩⟩, hb⟩
              · rw [hN]; exact congrArg Ending.returned (congrArg (fun (y0 : Int) => (.tuple #[.slice none 0 0, iV y0] : Value)) v0)
              · rw [← hL]; rfl
          · let r23 : Rho := (Rho.of [(iV x0), (iV x1), (iV x2), (iV x3), (iV x4), (iV x5), (iV x6), (iV x7), (.slice al l.length ql), (iV k0), (iV k1), (iV t0), (iV t1)] (fun b => w0.heap[b]?) [])
            have hat1 : @At r23 w0 sources_fr3 sources_st3 a w := At.shiftL (ρ1 := p3) (ρ2 := r23) (σ := [sy 0, sy 1, sy 2, sy 3, sy 4, sy 5, sy 6, sy 7, sy 8, sy 9, sy 10, sy 11, sy 12]) (π := [0, 1]) (τ := []) ⟨rfl, rfl, rfl, rfl, rfl, rfl, rfl, rfl, rfl, rfl, rfl, rfl, rfl, rfl, rfl, rfl, rfl, rfl, rfl, rfl, rfl, rfl, rfl, rfl, rfl, rfl, trivial⟩ trivial (fun _ _ h => h) sources_wf3 sources_id3 hat
            refine @At.retGK r23 Try.prog (env.symL sources_e23 sources_c23 sources_l23 sources_cl23) (@Env.Ok.symL r23 _ _ (@env_ok r23) sources_e23 sources_c23 sources_l23 sources_cl23 ⟨⟨rfl, rfl, fun w hm => (show KO w (.bin .leq 3) [(iV k0), (iV k1)] (.bool true) from k_leq_t c3)⟩, ⟨rfl, rfl, fun w hm => (show KO w (.bin .geq 3) [(iV k0), (iV 1)] (.bool true) from k_geq_t c4)⟩, ⟨rfl, rfl, fun w hm => (show KO w (.bin .leq 3) [(iV k1), (iV 10)] (.bool false) from k_leq_f c5)⟩, trivial⟩ trivial trivial trivial) w0 3000 sources_b7 Try.f21 sources_fr3 sources_st3 _ _ sources_r23 sources_wf3 a w hat1 (@endV_ok r23 w0 (.tuple #[(.slice .none 0 0), (iV 3)]) (fun en w' => ∃ a C, en = .returned (.tuple #[.slice a (sourcesL x0 x1 x2 x3 x4 x5 x6 x7 l k0 k1 t0 t1).length C, iV (sourcesE x0 x1 x2 x3 x4 x5 x6 x7 l k0 k1 t0 t1)]) ∧ NewList w0 w' 54 5 (flat srcC (sourcesL x0 x1 x2 x3 x4 x5 x6 x7 l k0 k1 t0 t1)) a (sourcesL x0 x1 x2 x3 x4 x5 x6 x7 l k0 k1 t0 t1).length C ∧ Below w0.heap.size w0 w') rfl (fun w2 hb => ?_)) _ (fun a w h => .inr ⟨(fun q => nomatch q), h⟩)
            have v0 : (3 : Int) = sourcesE x0 x1 x2 x3 x4 x5 x6 x7 l k0 k1 t0 t1 := by
              unfold sourcesE
              first
                | (rw [if_pos (by omega)] <;> omega)
                | (rw [if_neg (by omega), if_pos (by omega)] <;> omega)
                | (rw [if_neg (by omega), if_neg (by omega), if_pos (by omega)])
                | (rw [if_neg (by omega), if_neg (by omega), if_neg (by omega), if_pos (by omega)])
                | (rw [if_neg (by omega), if_neg (by omega), if_neg (by omega), if_neg (by omega)])
            have hL : [] = sourcesL x0 x1 x2 x3 x4 x5 x6 x7 l k0 k1 t0 t1 := by
              unfold sourcesL
              first
                | (have hE : ¬ sourcesE x0 x1 x2 x3 x4 x5 x6 x7 l k0 k1 t0 t1 = 0 := by omega
                   rw [if_neg hE])
                | (have hE : sourcesE x0 x1 x2 x3 x4 x5 x6 x7 l k0 k1 t0 t1 = 0 := by omega
                   rw [if_pos hE, i3, show i.toNat = l.length by omega, List.take_length])
            have hN : (sourcesL x0 x1 x2 x3 x4 x5 x6 x7 l k0 k1 t0 t1).length = 0 := by rw [← hL]; rfl
            refine ⟨none, 0, ?_, ⟨?_, .inl ⟨rfl, hN, rfl⟩⟩, hb⟩
            · rw [hN]; exact congrArg Ending.returned (congrArg (fun (y0 : Int) => (.tuple #[.slice none 0 0, iV y0] : Value)) v0)
            · rw [← hL]; rfl
        · let r24 : Rho := (Rho.of [(iV x0), (iV x1), (iV x2), (iV x3), (iV x4), (iV x5), (iV x6), (iV x7), (.slice al l.length ql), (iV k0), (iV k1), (iV t0), (iV t1)] (fun b => w0.heap[b]?) [])
          have hat1 : @At r24 w0 sources_fr3 sources_st3 a w := At.shiftL (ρ1 := p3) (ρ2 := r24) (σ := [sy 0, sy 1, sy 2, sy 3, sy 4, sy 5, sy 6, sy 7, sy 8, sy 9, sy 10, sy 11, sy 12]) (π := [0, 1]) (τ := []) ⟨rfl, rfl, rfl, rfl, rfl, rfl, rfl, rfl, rfl, rfl, rfl, rfl, rfl, rfl, rfl, rfl, rfl, rfl, rfl, rfl, rfl, rfl, rfl, rfl, rfl, rfl, trivial⟩ trivial (fun _ _ h => h) sources_wf3 sources_id3 hat
          refine @At.retGK r24 Try.prog (env.symL sources_e24 sources_c24 sources_l24 sources_cl24) (@Env.Ok.symL r24 _ _ (@env_ok r24) sources_e24 sources_c24 sources_l24 sources_cl24 ⟨⟨rfl, rfl, fun w hm => (show KO w (.bin .leq 3) [(iV k0), (iV k1)] (.bool true) from k_leq_t c3)⟩, ⟨rfl, rfl, fun w hm => (show KO w (.bin .geq 3) [(iV k0), (iV 1)] (.bool false) from k_geq_f c4)⟩, trivial⟩ trivial trivial trivial) w0 3000 sources_b7 Try.f21 sources_fr3 sources_st3 _ _ sources_r24 sources_wf3 a w hat1 (@endV_ok r24 w0 (.tuple #[(.slice .none 0 0), (iV 3)]) (fun en w' => ∃ a C, en = .returned (.tuple #[.slice a (sourcesL x0 x1 x2 x3 x4 x5 x6 x7 l k0 k1 t0 t1).length C, iV (sourcesE x0 x1 x2 x3 x4 x5 x6 x7 l k0 k1 t0 t1)]) ∧ NewList w0 w' 54 5 (flat srcC (sourcesL x0 x1 x2 x3 x4 x5 x6 x7 l k0 k1 t0 t1)) a (sourcesL x0 x1 x2 x3 x4 x5 x6 x7 l k0 k1 t0 t1).length C ∧ Below w0.heap.size w0 w') rfl (fun w2 hb => ?_)) _ (fun a w h => .inr ⟨(fun q => nomatch q), h⟩)
          have v0 : (3 : Int) = sourcesE x0 x1 x2 x3 x4 x5 x6 x7 l k0 k1 t0 t1 := by
            unfold sourcesE
            first
              | (rw [if_pos (by omega)] <;> omega)
              | (rw [if_neg (by omega), if_pos (by omega)] <;> omega)
              | (rw [if_neg (by omega), if_neg (by omega), if_pos (by omega)])
              | (rw [if_neg (by omega), if_neg (by omega), if_neg (by omega), if_pos (by omega)])
              | (rw [if_neg (by omega), if_neg (by omega), if_neg (by omega), if_neg (by omega)])
          have hL : [] = sourcesL x0 x1 x2 x3 x4 x5 x6 x7 l k0 k1 t0 t1 := by
            unfold sourcesL
            first
              | (have hE : ¬ sourcesE x0 x1 x2 x3 x4 x5 x6 x7 l k0 k1 t0 t1 = 0 := by omega
                 rw [if_neg hE])
              | (have hE : sourcesE x0 x1 x2 x3 x4 x5 x6 x7 l k0 k1 t0 t1 = 0 := by omega
                 rw [if_pos hE, i3, show i.toNat = l.length by omega, List.take_length])
          have hN : (sourcesL x0 x1 x2 x3 x4 x5 x6 x7 l k0 k1 t0 t1).length = 0 := by rw [← hL]; rfl
          refine ⟨none, 0, ?_, ⟨?_, .inl ⟨rfl, hN, rfl⟩⟩, hb⟩
          · rw [hN]; exact congrArg Ending.returned (congrArg (fun (y0 : Int) => (.tuple #[.slice none 0 0, iV y0] : Value)) v0)
          · rw [← hL]; rfl
      · let r25 : Rho := (Rho.of [(iV x0), (iV x1), (iV x2), (iV x3), (iV x4), (iV x5), (iV x6), (iV x7), (.slice al l.length ql), (iV k0), (iV k1), (iV t0), (iV t1)] (fun b => w0.heap[b]?) [])
        have hat1 : @At r25 w0 sources_fr3 sources_st3 a w := At.shiftL (ρ1 := p3) (ρ2 := r25) (σ := [sy 0, sy 1, sy 2, sy 3, sy 4, sy 5, sy 6, sy 7, sy 8, sy 9, sy 10, sy 11, sy 12]) (π := [0, 1]) (τ := []) ⟨rfl, rfl, rfl, rfl, rfl, rfl, rfl, rfl, rfl, rfl, rfl, rfl, rfl, rfl, rfl, rfl, rfl, rfl, rfl, rfl, rfl, rfl, rfl, rfl, rfl, rfl, trivial⟩ trivial (fun _ _ h => h) sources_wf3 sources_id3 hat
        refine @At.retGK r25 Try.prog (env.symL sources_e25 sources_c25 sources_l25 sources_cl25) (@Env.Ok.symL r25 _ _ (@env_ok r25) sources_e25 sources_c25 sources_l25 sources_cl25 ⟨⟨rfl, rfl, fun w hm => (show KO w (.bin .leq 3) [(iV k0), (iV k1)] (.bool false) from k_leq_f c3)⟩, trivial⟩ trivial trivial trivial) w0 3000 sources_b7 Try.f21 sources_fr3 sources_st3 _ _ sources_r25 sources_wf3 a w hat1 (@endV_ok r25 w0 (.tuple #[(.slice .none 0 0), (iV 3)]) (fun en w' => ∃ a C, en = .returned (.tuple #[.slice a (sourcesL x0 x1 x2 x3 x4 x5 x6 x7 l k0 k1 t0 t1).length C, iV (sourcesE x0 x1 x2 x3 x4 x5 x6 x7 l k0 k1 t0 t1)]) ∧ NewList w0 w' 54 5 (flat srcC (sourcesL x0 x1 x2 x3 x4 x5 x6 x7 l k0 k1 t0 t1)) a (sourcesL x0 x1 x2 x3 x4 x5 x6 x7 l k0 k1 t0 t1).length C ∧ Below w0.heap.size w0 w') rfl (fun w2 hb => ?_)) _ (fun a w h => .inr ⟨(fun q => nomatch q), h⟩)
        have v0 : (3 : Int) = sourcesE x0 x1 x2 x3 x4 x5 x6 x7 l k0 k1 t0 t1 := by
          unfold sourcesE
          first
            | (rw [if_pos (by omega)] <;> omega)
            | (rw [if_neg (by omega), if_pos (by omega)] <;> omega)
            | (rw [if_neg (by omega), if_neg (by omega), if_pos (by omega)])
            | (rw [if_neg (by omega), if_neg (by omega), if_neg (by omega), if_pos (by omega)])
            | (rw [if_neg (by omega), if_neg (by omega), if_neg (by omega), if_neg (by omega)])
        have hL : [] = sourcesL x0 x1 x2 x3 x4 x5 x6 x7 l k0 k1 t0 t1 := by
          unfold sourcesL
          first
            | (have hE : ¬ sourcesE x0 x1 x2 x3 x4 x5 x6 x7 l k0 k1 t0 t1 = 0 := by omega
               rw [if_neg hE])
            | (have hE : sourcesE x0 x1 x2 x3 x4 x5 x6 x7 l k0 k1 t0 t1 = 0 := by omega
               rw [if_pos hE, i3, show i.toNat = l.length by omega, List.take_length])
        have hN : (sourcesL x0 x1 x2 x3 x4 x5 x6 x7 l k0 k1 t0 t1).length = 0 := by rw [← hL]; rfl
        refine ⟨none, 0, ?_, ⟨?_, .inl ⟨rfl, hN, rfl⟩⟩, hb⟩
        · rw [hN]; exact congrArg Ending.returned (congrArg (fun (y0 : Int) => (.tuple #[.slice none 0 0, iV y0] : Value)) v0)
        · rw [← hL]; rfl
end Go.Proofs.Ytoaehigmpbhppaa.En
