/-
  The specification: Slides.
-/
import Derived.Test.YtoaehigmpbhppaaU8
namespace Go.Proofs.Ytoaehigmpbhppaa.En
open Go Go.Ev Go.Proofs Go.RowKit
set_option linter.unusedSimpArgs false
set_option linter.unusedVariables false
noncomputable def rslides_b0 : Code := (Try.f36.body).getD .skip

noncomputable def rslides_fr0 : Fr := mkFr Try.f36 [(0, (.agg #[(.chan (.some 0)), (.chan (.some 1)), (.chan (.some 2)), (.chan (.some 3)), (.chan (.some 4)), (.chan (.some 5)), (.chan (.some 6)), (.chan (.some 7))])), (1, (.chan (.some 8))), (2, (.chan (.some 9)))] []
noncomputable def rslides_st0 : St := mkSt 0 []
theorem rslides_wf0 : rslides_st0.Wf := mkSt_wf rfl
set_option maxRecDepth 1000000 in
theorem rslides_id0 : agreeL [sy 0, sy 1, sy 2, sy 3, sy 4, sy 5, sy 6, sy 7, sy 8, sy 9] [] [] rslides_fr0 rslides_st0 rslides_fr0 rslides_st0 = true := by kernel_rfl

set_option maxRecDepth 1000000 in
theorem rslides_a0 : agreeL [sy 0, sy 1, sy 2, sy 3, sy 4, sy 5, sy 6, sy 7, sy 8, sy 9] [] [] rslides_fr0 rslides_st0 (frameOf Try.f36 [(.agg #[(.chan (.some 0)), (.chan (.some 1)), (.chan (.some 2)), (.chan (.some 3)), (.chan (.some 4)), (.chan (.some 5)), (.chan (.some 6)), (.chan (.some 7))]), (.chan (.some 8)), (.chan (.some 9))]) Ev.start = true := by kernel_rfl

noncomputable def rslides_b1 : Code := headC rslides_b0

noncomputable def rslides_b2 : Code := tailC rslides_b0

set_option maxRecDepth 1000000 in
theorem rslides_q0 : rslides_b0 = .seq rslides_b1 rslides_b2 := by kernel_rfl

noncomputable def rslides_fr1 : Fr := mkFr Try.f36 [(1, (.chan (.some 8))), (2, (.chan (.some 9))), (3, (.pointer (.some (.mk 0 0 .none)))), (6, (.slice .none 0 0)), (7, (iV (.ofNat 0)))] []
noncomputable def rslides_st1 : St := mkSt 1 [(0, (.cells [(.chan (.some 0)), (.chan (.some 1)), (.chan (.some 2)), (.chan (.some 3)), (.chan (.some 4)), (.chan (.some 5)), (.chan (.some 6)), (.chan (.some 7))] 26 .none .false))]
theorem rslides_wf1 : rslides_st1.Wf := mkSt_wf rfl
set_option maxRecDepth 1000000 in
theorem rslides_id1 : agreeL [sy 0, sy 1, sy 2, sy 3, sy 4, sy 5, sy 6, sy 7, sy 8, sy 9] [0] [] rslides_fr1 rslides_st1 rslides_fr1 rslides_st1 = true := by kernel_rfl

set_option maxRecDepth 1000000 in
theorem rslides_r0 : ev Try.prog (env.symL [] [] [] []) 3000 (.code rslides_b1 none rslides_fr0 rslides_st0 (stopL .normal [sy 0, sy 1, sy 2, sy 3, sy 4, sy 5, sy 6, sy 7, sy 8, sy 9] [0] [] rslides_fr1 rslides_st1)) = some () := by kernel_rfl

noncomputable def rslides_b3 : Code := headC rslides_b2

noncomputable def rslides_b4 : Code := tailC rslides_b2

set_option maxRecDepth 1000000 in
theorem rslides_q1 : rslides_b2 = .seq rslides_b3 rslides_b4 := by kernel_rfl

noncomputable def rslides_e1 : List Ent := []
noncomputable def rslides_c1 : List CEnt := [⟨25, [(.agg #[(sy 0), (sy 1), (sy 2), (sy 3), (sy 4), (sy 5), (sy 6), (sy 7)]), (sy 8)], [], (sy 10)⟩]
noncomputable def rslides_l1 : List LEnt := []
noncomputable def rslides_cl1 : List CLEnt := []

noncomputable def rslides_fr2 : Fr := mkFr Try.f36 [(1, (.chan (.some 8))), (2, (.chan (.some 9))), (3, (.pointer (.some (.mk 0 0 .none)))), (6, (.slice .none 0 0)), (7, (iV (.ofNat 0))), (8, (.chan (.some 10)))] []
noncomputable def rslides_st2 : St := mkSt 1 [(0, (.cells [(.chan (.some 0)), (.chan (.some 1)), (.chan (.some 2)), (.chan (.some 3)), (.chan (.some 4)), (.chan (.some 5)), (.chan (.some 6)), (.chan (.some 7))] 26 .none .false))]
theorem rslides_wf2 : rslides_st2.Wf := mkSt_wf rfl
set_option maxRecDepth 1000000 in
theorem rslides_id2 : agreeL [sy 0, sy 1, sy 2, sy 3, sy 4, sy 5, sy 6, sy 7, sy 8, sy 9, sy 10] [0] [] rslides_fr2 rslides_st2 rslides_fr2 rslides_st2 = true := by kernel_rfl

set_option maxRecDepth 1000000 in
theorem rslides_r1 : ev Try.prog (env.symL rslides_e1 rslides_c1 rslides_l1 rslides_cl1) 3000 (.code rslides_b3 none rslides_fr1 rslides_st1 (stopL .normal [sy 0, sy 1, sy 2, sy 3, sy 4, sy 5, sy 6, sy 7, sy 8, sy 9, sy 10] [0] [] rslides_fr2 rslides_st2)) = some () := by kernel_rfl

noncomputable def rslides_b5 : Code := headC rslides_b4

noncomputable def rslides_b6 : Code := tailC rslides_b4

set_option maxRecDepth 1000000 in
theorem rslides_q2 : rslides_b4 = .seq rslides_b5 rslides_b6 := by kernel_rfl

noncomputable def rslides_e2 : List Ent := [⟨(.bin .neq 27), [(sy 10), (iV 0)], (.bool true)⟩]
noncomputable def rslides_c2 : List CEnt := []
noncomputable def rslides_l2 : List LEnt := []
noncomputable def rslides_cl2 : List CLEnt := []

set_option maxRecDepth 1000000 in
theorem rslides_r2 : ev Try.prog (env.symL rslides_e2 rslides_c2 rslides_l2 rslides_cl2) 3000 (.code rslides_b5 none rslides_fr2 rslides_st2 (stopRK (env.symL rslides_e2 rslides_c2 rslides_l2 rslides_cl2) Try.f36 (endV (.tuple #[(.slice .none 0 0), (sy 10)])))) = some () := by kernel_rfl

noncomputable def rslides_e3 : List Ent := [⟨(.bin .neq 27), [(sy 10), (iV 0)], (.bool false)⟩]
noncomputable def rslides_c3 : List CEnt := []
noncomputable def rslides_l3 : List LEnt := []
noncomputable def rslides_cl3 : List CLEnt := []

noncomputable def rslides_fr3 : Fr := mkFr Try.f36 [(1, (.chan (.some 8))), (2, (.chan (.some 9))), (3, (.pointer (.some (.mk 0 0 .none)))), (6, (.slice .none 0 0)), (7, (iV (.ofNat 0)))] []
noncomputable def rslides_st3 : St := mkSt 1 [(0, (.cells [(.chan (.some 0)), (.chan (.some 1)), (.chan (.some 2)), (.chan (.some 3)), (.chan (.some 4)), (.chan (.some 5)), (.chan (.some 6)), (.chan (.some 7))] 26 .none .false))]
theorem rslides_wf3 : rslides_st3.Wf := mkSt_wf rfl
set_option maxRecDepth 1000000 in
theorem rslides_id3 : agreeL [sy 0, sy 1, sy 2, sy 3, sy 4, sy 5, sy 6, sy 7, sy 8, sy 9] [0] [] rslides_fr3 rslides_st3 rslides_fr3 rslides_st3 = true := by kernel_rfl

set_option maxRecDepth 1000000 in
theorem rslides_r3 : ev Try.prog (env.symL rslides_e3 rslides_c3 rslides_l3 rslides_cl3) 3000 (.code rslides_b5 none rslides_fr2 rslides_st2 (stopL .normal [sy 0, sy 1, sy 2, sy 3, sy 4, sy 5, sy 6, sy 7, sy 8, sy 9] [0] [] rslides_fr3 rslides_st3)) = some () := by kernel_rfl

noncomputable def rslides_b7 : Code := headC rslides_b6

noncomputable def rslides_b8 : Code := tailC rslides_b6

set_option maxRecDepth 1000000 in
theorem rslides_q3 : rslides_b6 = .seq rslides_b7 rslides_b8 := by kernel_rfl

noncomputable def rslides_e4 : List Ent := [⟨(.bin .geq 3), [(sy 9), (iV 0)], (.bool true)⟩, ⟨(.bin .leq 3), [(sy 9), (iV 100000000)], (.bool true)⟩]
noncomputable def rslides_c4 : List CEnt := []
noncomputable def rslides_l4 : List LEnt := []
noncomputable def rslides_cl4 : List CLEnt := []

noncomputable def rslides_fr4 : Fr := mkFr Try.f36 [(1, (.chan (.some 8))), (2, (.chan (.some 9))), (3, (.pointer (.some (.mk 0 0 .none)))), (6, (.slice .none 0 0)), (7, (iV (.ofNat 0)))] []
noncomputable def rslides_st4 : St := mkSt 1 [(0, (.cells [(.chan (.some 0)), (.chan (.some 1)), (.chan (.some 2)), (.chan (.some 3)), (.chan (.some 4)), (.chan (.some 5)), (.chan (.some 6)), (.chan (.some 7))] 26 .none .false))]
theorem rslides_wf4 : rslides_st4.Wf := mkSt_wf rfl
set_option maxRecDepth 1000000 in
theorem rslides_id4 : agreeL [sy 0, sy 1, sy 2, sy 3, sy 4, sy 5, sy 6, sy 7, sy 8, sy 9] [0] [] rslides_fr4 rslides_st4 rslides_fr4 rslides_st4 = true := by kernel_rfl

set_option maxRecDepth 1000000 in
theorem rslides_r4 : ev Try.prog (env.symL rslides_e4 rslides_c4 rslides_l4 rslides_cl4) 3000 (.code rslides_b7 none rslides_fr3 rslides_st3 (stopL .normal [sy 0, sy 1, sy 2, sy 3, sy 4, sy 5, sy 6, sy 7, sy 8, sy 9] [0] [] rslides_fr4 rslides_st4)) = some () := by kernel_rfl

noncomputable def rslides_b9 : Code := headC rslides_b8

noncomputable def rslides_b10 : Code := tailC rslides_b8

set_option maxRecDepth 1000000 in
theorem rslides_q4 : rslides_b8 = .seq rslides_b9 rslides_b10 := by kernel_rfl

noncomputable def rslides_fr5 : Fr := mkFr Try.f36 [(1, (.chan (.some 8))), (2, (.chan (.some 9))), (3, (.pointer (.some (.mk 0 0 .none)))), (6, (.slice .none 0 0)), (7, (iV (.ofNat 0))), (9, (.slice .none 0 0))] []
noncomputable def rslides_st5 : St := mkSt 1 [(0, (.cells [(.chan (.some 0)), (.chan (.some 1)), (.chan (.some 2)), (.chan (.some 3)), (.chan (.some 4)), (.chan (.some 5)), (.chan (.some 6)), (.chan (.some 7))] 26 .none .false))]
theorem rslides_wf5 : rslides_st5.Wf := mkSt_wf rfl
set_option maxRecDepth 1000000 in
theorem rslides_id5 : agreeL [sy 0, sy 1, sy 2, sy 3, sy 4, sy 5, sy 6, sy 7, sy 8, sy 9] [0] [] rslides_fr5 rslides_st5 rslides_fr5 rslides_st5 = true := by kernel_rfl

set_option maxRecDepth 1000000 in
theorem rslides_r5 : ev Try.prog (env.symL [] [] [] []) 3000 (.code rslides_b9 none rslides_fr4 rslides_st4 (stopL .normal [sy 0, sy 1, sy 2, sy 3, sy 4, sy 5, sy 6, sy 7, sy 8, sy 9] [0] [] rslides_fr5 rslides_st5)) = some () := by kernel_rfl

noncomputable def rslides_b11 : Code := headC rslides_b10

noncomputable def rslides_b12 : Code := tailC rslides_b10

set_option maxRecDepth 1000000 in
theorem rslides_q5 : rslides_b10 = .seq rslides_b11 rslides_b12 := by kernel_rfl

noncomputable def rslides_b13 : Code := headC rslides_b11

noncomputable def rslides_b14 : Code := tailC rslides_b11

set_option maxRecDepth 1000000 in
theorem rslides_q6 : rslides_b11 = .seq rslides_b13 rslides_b14 := by kernel_rfl

noncomputable def rslides_fr6 : Fr := mkFr Try.f36 [(1, (.chan (.some 8))), (2, (.chan (.some 9))), (3, (.pointer (.some (.mk 0 0 .none)))), (6, (.slice .none 0 0)), (7, (iV (.ofNat 0))), (9, (.slice .none 0 0)), (10, (iV (.ofNat 0)))] []
noncomputable def rslides_st6 : St := mkSt 1 [(0, (.cells [(.chan (.some 0)), (.chan (.some 1)), (.chan (.some 2)), (.chan (.some 3)), (.chan (.some 4)), (.chan (.some 5)), (.chan (.some 6)), (.chan (.some 7))] 26 .none .false))]
theorem rslides_wf6 : rslides_st6.Wf := mkSt_wf rfl
set_option maxRecDepth 1000000 in
theorem rslides_id6 : agreeL [sy 0, sy 1, sy 2, sy 3, sy 4, sy 5, sy 6, sy 7, sy 8, sy 9] [0] [] rslides_fr6 rslides_st6 rslides_fr6 rslides_st6 = true := by kernel_rfl

set_option maxRecDepth 1000000 in
theorem rslides_r6 : ev Try.prog (env.symL [] [] [] []) 3000 (.code rslides_b13 none rslides_fr5 rslides_st5 (stopL .normal [sy 0, sy 1, sy 2, sy 3, sy 4, sy 5, sy 6, sy 7, sy 8, sy 9] [0] [] rslides_fr6 rslides_st6)) = some () := by kernel_rfl

noncomputable def rslides_b15 : Code := inBlockC rslides_b14

set_option maxRecDepth 1000000 in
theorem rslides_q7 : rslides_b14 = .block 0 rslides_b15 := by kernel_rfl

noncomputable def rslides_b16 : Code := inLoopC rslides_b15

set_option maxRecDepth 1000000 in
theorem rslides_q8 : rslides_b15 = .loop rslides_b16 := by kernel_rfl

noncomputable def rslides_fr7 : Fr := mkFr Try.f36 [(1, (.chan (.some 8))), (2, (.chan (.some 9))), (3, (.pointer (.some (.mk 0 0 .none)))), (6, (.slice .none 0 0)), (7, (iV (.ofNat 0))), (9, (.pointer (.some (.mk 1 10 (.some 2))))), (10, (.chan (.some 11)))] []
noncomputable def rslides_st7 : St := mkSt 2 [(0, (.cells [(.chan (.some 0)), (.chan (.some 1)), (.chan (.some 2)), (.chan (.some 3)), (.chan (.some 4)), (.chan (.some 5)), (.chan (.some 6)), (.chan (.some 7))] 26 .none .false)), (1, (.lst 0 54 5))]
theorem rslides_wf7 : rslides_st7.Wf := mkSt_wf rfl
set_option maxRecDepth 1000000 in
theorem rslides_id7 : agreeL [sy 0, sy 1, sy 2, sy 3, sy 4, sy 5, sy 6, sy 7, sy 8, sy 9, sy 10, sy 11] [0, 1] [some 0] rslides_fr7 rslides_st7 rslides_fr7 rslides_st7 = true := by kernel_rfl

set_option maxRecDepth 1000000 in
theorem rslides_h9 : agreeL [(sy 0), (sy 1), (sy 2), (sy 3), (sy 4), (sy 5), (sy 6), (sy 7), (sy 8), (sy 9), (iV 0), (iV 0)] [0, 1] [none] rslides_fr7 rslides_st7 rslides_fr6 rslides_st6 = true := by kernel_rfl

noncomputable def rslides_b17 : Code := headC rslides_b16

noncomputable def rslides_b18 : Code := tailC rslides_b16

set_option maxRecDepth 1000000 in
theorem rslides_q10 : rslides_b16 = .seq rslides_b17 rslides_b18 := by kernel_rfl

noncomputable def rslides_e7 : List Ent := [⟨(.bi 0 [38]), [(sy 8)], (sy 12)⟩, ⟨(.bin .lss 3), [(sy 11), (sy 12)], (.bool true)⟩]
noncomputable def rslides_c7 : List CEnt := []
noncomputable def rslides_l7 : List LEnt := []
noncomputable def rslides_cl7 : List CLEnt := []

noncomputable def rslides_fr8 : Fr := mkFr Try.f36 [(1, (.chan (.some 8))), (2, (.chan (.some 9))), (3, (.pointer (.some (.mk 0 0 .none)))), (6, (.slice .none 0 0)), (7, (iV (.ofNat 0))), (9, (.pointer (.some (.mk 1 10 (.some 2))))), (10, (.chan (.some 11))), (28, (.chan (.some 11))), (29, (.chan (.some 8))), (30, (.chan (.some 12))), (31, (.bool .true))] []
noncomputable def rslides_st8 : St := mkSt 2 [(0, (.cells [(.chan (.some 0)), (.chan (.some 1)), (.chan (.some 2)), (.chan (.some 3)), (.chan (.some 4)), (.chan (.some 5)), (.chan (.some 6)), (.chan (.some 7))] 26 .none .false)), (1, (.lst 0 54 5))]
theorem rslides_wf8 : rslides_st8.Wf := mkSt_wf rfl
set_option maxRecDepth 1000000 in
theorem rslides_id8 : agreeL [sy 0, sy 1, sy 2, sy 3, sy 4, sy 5, sy 6, sy 7, sy 8, sy 9, sy 10, sy 11, sy 12] [0, 1] [some 0] rslides_fr8 rslides_st8 rslides_fr8 rslides_st8 = true := by kernel_rfl

set_option maxRecDepth 1000000 in
theorem rslides_r7 : ev Try.prog (env.symL rslides_e7 rslides_c7 rslides_l7 rslides_cl7) 3000 (.code rslides_b17 none rslides_fr7 rslides_st7 (stopL .normal [sy 0, sy 1, sy 2, sy 3, sy 4, sy 5, sy 6, sy 7, sy 8, sy 9, sy 10, sy 11, sy 12] [0, 1] [some 0] rslides_fr8 rslides_st8)) = some () := by kernel_rfl

noncomputable def rslides_b19 : Code := headC rslides_b18

noncomputable def rslides_b20 : Code := tailC rslides_b18

set_option maxRecDepth 1000000 in
theorem rslides_q11 : rslides_b18 = .seq rslides_b19 rslides_b20 := by kernel_rfl

noncomputable def rslides_b21 : Code := inBlockC rslides_b19

set_option maxRecDepth 1000000 in
theorem rslides_q12 : rslides_b19 = .block 1 rslides_b21 := by kernel_rfl

noncomputable def rslides_b22 : Code := headC rslides_b21

noncomputable def rslides_b23 : Code := tailC rslides_b21

set_option maxRecDepth 1000000 in
theorem rslides_q13 : rslides_b21 = .seq rslides_b22 rslides_b23 := by kernel_rfl

noncomputable def rslides_e8 : List Ent := [⟨(.indexAddr 38), [(sy 8), (sy 11)], (sy 13)⟩, ⟨(.load 54), [(sy 13)], (.agg #[(sy 14), (sy 15), (sy 16), (sy 17), (sy 18)])⟩]
noncomputable def rslides_c8 : List CEnt := []
noncomputable def rslides_l8 : List LEnt := []
noncomputable def rslides_cl8 : List CLEnt := []

noncomputable def rslides_fr9 : Fr := mkFr Try.f36 [(1, (.chan (.some 8))), (2, (.chan (.some 9))), (3, (.pointer (.some (.mk 0 0 .none)))), (6, (.slice .none 0 0)), (7, (iV (.ofNat 0))), (9, (.pointer (.some (.mk 1 10 (.some 2))))), (10, (.chan (.some 11))), (11, (.pointer (.some (.mk 2 0 .none)))), (28, (.chan (.some 11))), (29, (.chan (.some 8))), (30, (.chan (.some 12))), (31, (.bool .true)), (34, (.chan (.some 8))), (35, (.chan (.some 11))), (36, (.chan (.some 13))), (37, (.agg #[(.chan (.some 14)), (.chan (.some 15)), (.chan (.some 16)), (.chan (.some 17)), (.chan (.some 18))]))] []
noncomputable def rslides_st9 : St := mkSt 3 [(0, (.cells [(.chan (.some 0)), (.chan (.some 1)), (.chan (.some 2)), (.chan (.some 3)), (.chan (.some 4)), (.chan (.some 5)), (.chan (.some 6)), (.chan (.some 7))] 26 .none .false)), (1, (.lst 0 54 5)), (2, (.cells [(.chan (.some 14)), (.chan (.some 15)), (.chan (.some 16)), (.chan (.some 17)), (.chan (.some 18))] 54 .none .false))]
theorem rslides_wf9 : rslides_st9.Wf := mkSt_wf rfl
set_option maxRecDepth 1000000 in
theorem rslides_id9 : agreeL [sy 0, sy 1, sy 2, sy 3, sy 4, sy 5, sy 6, sy 7, sy 8, sy 9, sy 10, sy 11, sy 12, sy 13, sy 14, sy 15, sy 16, sy 17, sy 18] [0, 1, 2] [some 0] rslides_fr9 rslides_st9 rslides_fr9 rslides_st9 = true := by kernel_rfl

set_option maxRecDepth 1000000 in
theorem rslides_r8 : ev Try.prog (env.symL rslides_e8 rslides_c8 rslides_l8 rslides_cl8) 3000 (.code rslides_b22 none rslides_fr8 rslides_st8 (stopL .normal [sy 0, sy 1, sy 2, sy 3, sy 4, sy 5, sy 6, sy 7, sy 8, sy 9, sy 10, sy 11, sy 12, sy 13, sy 14, sy 15, sy 16, sy 17, sy 18] [0, 1, 2] [some 0] rslides_fr9 rslides_st9)) = some () := by kernel_rfl

noncomputable def rslides_b24 : Code := headC rslides_b23

noncomputable def rslides_b25 : Code := tailC rslides_b23

set_option maxRecDepth 1000000 in
theorem rslides_q14 : rslides_b23 = .seq rslides_b24 rslides_b25 := by kernel_rfl

noncomputable def rslides_e9 : List Ent := [⟨(.bin .neq 3), [(sy 14), (iV 2)], (.bool true)⟩]
noncomputable def rslides_c9 : List CEnt := []
noncomputable def rslides_l9 : List LEnt := [(.grow 0 10 1 5 [(sy 14), (sy 15), (sy 16), (sy 17), (sy 18)] 1 19)]
noncomputable def rslides_cl9 : List CLEnt := []

noncomputable def rslides_fr10 : Fr := mkFr Try.f36 [(1, (.chan (.some 8))), (2, (.chan (.some 9))), (3, (.pointer (.some (.mk 0 0 .none)))), (6, (.slice .none 0 0)), (7, (iV (.ofNat 0))), (9, (.pointer (.some (.mk 3 19 (.some 2))))), (10, (.chan (.some 11))), (11, (.pointer (.some (.mk 1 0 .none)))), (28, (.chan (.some 11))), (29, (.chan (.some 8))), (30, (.chan (.some 12))), (31, (.bool .true)), (34, (.chan (.some 8))), (35, (.chan (.some 11))), (36, (.chan (.some 13))), (37, (.agg #[(.chan (.some 14)), (.chan (.some 15)), (.chan (.some 16)), (.chan (.some 17)), (.chan (.some 18))])), (38, (.pointer (.some (.mk 1 0 .none)))), (39, (.chan (.some 14))), (40, (.bool .true)), (42, (.agg #[(.chan (.some 14)), (.chan (.some 15)), (.chan (.some 16)), (.chan (.some 17)), (.chan (.some 18))])), (43, (.slice (.some (.mk 2 0 .none)) 1 1)), (44, (.pointer (.some (.mk 3 19 (.some 2)))))] []
noncomputable def rslides_st10 : St := mkSt 4 [(0, (.cells [(.chan (.some 0)), (.chan (.some 1)), (.chan (.some 2)), (.chan (.some 3)), (.chan (.some 4)), (.chan (.some 5)), (.chan (.some 6)), (.chan (.some 7))] 26 .none .false)), (1, (.cells [(.chan (.some 14)), (.chan (.some 15)), (.chan (.some 16)), (.chan (.some 17)), (.chan (.some 18))] 54 .none .false)), (2, (.cells [(.chan (.some 14)), (.chan (.some 15)), (.chan (.some 16)), (.chan (.some 17)), (.chan (.some 18))] 54 .none .false)), (3, (.lst 1 54 5))]
theorem rslides_wf10 : rslides_st10.Wf := mkSt_wf rfl
set_option maxRecDepth 1000000 in
theorem rslides_id10 : agreeL [sy 0, sy 1, sy 2, sy 3, sy 4, sy 5, sy 6, sy 7, sy 8, sy 9, sy 10, sy 11, sy 12, sy 13, sy 14, sy 15, sy 16, sy 17, sy 18, sy 19] [0, 1, 2, 3] [some 0, some 1] rslides_fr10 rslides_st10 rslides_fr10 rslides_st10 = true := by kernel_rfl

set_option maxRecDepth 1000000 in
theorem rslides_r9 : ev Try.prog (env.symL rslides_e9 rslides_c9 rslides_l9 rslides_cl9) 3000 (.code rslides_b24 none rslides_fr9 rslides_st9 (stopL (.exit 1) [sy 0, sy 1, sy 2, sy 3, sy 4, sy 5, sy 6, sy 7, sy 8, sy 9, sy 10, sy 11, sy 12, sy 13, sy 14, sy 15, sy 16, sy 17, sy 18, sy 19] [0, 2, 3, 4] [some 0, some 1] rslides_fr10 rslides_st10)) = some () := by kernel_rfl

noncomputable def rslides_e10 : List Ent := [⟨(.bin .add 3), [(sy 11), (iV 1)], (sy 20)⟩]
noncomputable def rslides_c10 : List CEnt := []
noncomputable def rslides_l10 : List LEnt := []
noncomputable def rslides_cl10 : List CLEnt := []

set_option maxRecDepth 1000000 in
theorem rslides_r10 : ev Try.prog (env.symL rslides_e10 rslides_c10 rslides_l10 rslides_cl10) 3000 (.code rslides_b20 none rslides_fr10 rslides_st10 (stopL .normal [(sy 0), (sy 1), (sy 2), (sy 3), (sy 4), (sy 5), (sy 6), (sy 7), (sy 8), (sy 9), (sy 19), (sy 20)] [0, 3] [some 1] rslides_fr7 rslides_st7)) = some () := by kernel_rfl

noncomputable def rslides_e11 : List Ent := [⟨(.bin .neq 3), [(sy 14), (iV 2)], (.bool false)⟩]
noncomputable def rslides_c11 : List CEnt := []
noncomputable def rslides_l11 : List LEnt := []
noncomputable def rslides_cl11 : List CLEnt := []

noncomputable def rslides_fr11 : Fr := mkFr Try.f36 [(1, (.chan (.some 8))), (2, (.chan (.some 9))), (3, (.pointer (.some (.mk 0 0 .none)))), (6, (.slice .none 0 0)), (7, (iV (.ofNat 0))), (9, (.pointer (.some (.mk 1 10 (.some 2))))), (10, (.chan (.some 11))), (11, (.pointer (.some (.mk 2 0 .none)))), (28, (.chan (.some 11))), (29, (.chan (.some 8))), (30, (.chan (.some 12))), (31, (.bool .true)), (34, (.chan (.some 8))), (35, (.chan (.some 11))), (36, (.chan (.some 13))), (37, (.agg #[(.chan (.some 14)), (.chan (.some 15)), (.chan (.some 16)), (.chan (.some 17)), (.chan (.some 18))])), (38, (.pointer (.some (.mk 2 0 .none)))), (39, (.chan (.some 14))), (40, (.bool .false))] []
noncomputable def rslides_st11 : St := mkSt 3 [(0, (.cells [(.chan (.some 0)), (.chan (.some 1)), (.chan (.some 2)), (.chan (.some 3)), (.chan (.some 4)), (.chan (.some 5)), (.chan (.some 6)), (.chan (.some 7))] 26 .none .false)), (1, (.lst 0 54 5)), (2, (.cells [(.chan (.some 14)), (.chan (.some 15)), (.chan (.some 16)), (.chan (.some 17)), (.chan (.some 18))] 54 .none .false))]
theorem rslides_wf11 : rslides_st11.Wf := mkSt_wf rfl
set_option maxRecDepth 1000000 in
theorem rslides_id11 : agreeL [sy 0, sy 1, sy 2, sy 3, sy 4, sy 5, sy 6, sy 7, sy 8, sy 9, sy 10, sy 11, sy 12, sy 13, sy 14, sy 15, sy 16, sy 17, sy 18] [0, 1, 2] [some 0] rslides_fr11 rslides_st11 rslides_fr11 rslides_st11 = true := by kernel_rfl

set_option maxRecDepth 1000000 in
theorem rslides_r11 : ev Try.prog (env.symL rslides_e11 rslides_c11 rslides_l11 rslides_cl11) 3000 (.code rslides_b24 none rslides_fr9 rslides_st9 (stopL .normal [sy 0, sy 1, sy 2, sy 3, sy 4, sy 5, sy 6, sy 7, sy 8, sy 9, sy 10, sy 11, sy 12, sy 13, sy 14, sy 15, sy 16, sy 17, sy 18] [0, 1, 2] [some 0] rslides_fr11 rslides_st11)) = some () := by kernel_rfl

noncomputable def rslides_b26 : Code := headC rslides_b25

noncomputable def rslides_b27 : Code := tailC rslides_b25

set_option maxRecDepth 1000000 in
theorem rslides_q15 : rslides_b25 = .seq rslides_b26 rslides_b27 := by kernel_rfl

noncomputable def rslides_fr12 : Fr := mkFr Try.f36 [(1, (.chan (.some 8))), (2, (.chan (.some 9))), (3, (.pointer (.some (.mk 0 0 .none)))), (6, (.slice .none 0 0)), (7, (iV (.ofNat 0))), (9, (.pointer (.some (.mk 1 10 (.some 2))))), (10, (.chan (.some 11))), (11, (.pointer (.some (.mk 2 0 .none)))), (12, (iV (.ofNat 0))), (13, (iV (.ofNat 0))), (14, (.bool .false)), (28, (.chan (.some 11))), (29, (.chan (.some 8))), (30, (.chan (.some 12))), (31, (.bool .true)), (34, (.chan (.some 8))), (35, (.chan (.some 11))), (36, (.chan (.some 13))), (37, (.agg #[(.chan (.some 14)), (.chan (.some 15)), (.chan (.some 16)), (.chan (.some 17)), (.chan (.some 18))])), (38, (.pointer (.some (.mk 2 0 .none)))), (39, (.chan (.some 14))), (40, (.bool .false))] []
noncomputable def rslides_st12 : St := mkSt 3 [(0, (.cells [(.chan (.some 0)), (.chan (.some 1)), (.chan (.some 2)), (.chan (.some 3)), (.chan (.some 4)), (.chan (.some 5)), (.chan (.some 6)), (.chan (.some 7))] 26 .none .false)), (1, (.lst 0 54 5)), (2, (.cells [(.chan (.some 14)), (.chan (.some 15)), (.chan (.some 16)), (.chan (.some 17)), (.chan (.some 18))] 54 .none .false))]
theorem rslides_wf12 : rslides_st12.Wf := mkSt_wf rfl
set_option maxRecDepth 1000000 in
theorem rslides_id12 : agreeL [sy 0, sy 1, sy 2, sy 3, sy 4, sy 5, sy 6, sy 7, sy 8, sy 9, sy 10, sy 11, sy 12, sy 13, sy 14, sy 15, sy 16, sy 17, sy 18] [0, 1, 2] [some 0] rslides_fr12 rslides_st12 rslides_fr12 rslides_st12 = true := by kernel_rfl

set_option maxRecDepth 1000000 in
theorem rslides_r12 : ev Try.prog (env.symL [] [] [] []) 3000 (.code rslides_b26 none rslides_fr11 rslides_st11 (stopL .normal [sy 0, sy 1, sy 2, sy 3, sy 4, sy 5, sy 6, sy 7, sy 8, sy 9, sy 10, sy 11, sy 12, sy 13, sy 14, sy 15, sy 16, sy 17, sy 18] [0, 1, 2] [some 0] rslides_fr12 rslides_st12)) = some () := by kernel_rfl

noncomputable def rslides_b28 : Code := headC rslides_b27

noncomputable def rslides_b29 : Code := tailC rslides_b27

set_option maxRecDepth 1000000 in
theorem rslides_q16 : rslides_b27 = .seq rslides_b28 rslides_b29 := by kernel_rfl

noncomputable def rslides_b30 : Code := headC rslides_b28

noncomputable def rslides_b31 : Code := tailC rslides_b28

set_option maxRecDepth 1000000 in
theorem rslides_q17 : rslides_b28 = .seq rslides_b30 rslides_b31 := by kernel_rfl

noncomputable def rslides_fr13 : Fr := mkFr Try.f36 [(1, (.chan (.some 8))), (2, (.chan (.some 9))), (3, (.pointer (.some (.mk 0 0 .none)))), (6, (.slice .none 0 0)), (7, (iV (.ofNat 0))), (9, (.pointer (.some (.mk 1 10 (.some 2))))), (10, (.chan (.some 11))), (11, (.pointer (.some (.mk 2 0 .none)))), (12, (iV (.ofNat 0))), (13, (iV (.ofNat 0))), (14, (.bool .false)), (15, (iV (.ofNat 0))), (28, (.chan (.some 11))), (29, (.chan (.some 8))), (30, (.chan (.some 12))), (31, (.bool .true)), (34, (.chan (.some 8))), (35, (.chan (.some 11))), (36, (.chan (.some 13))), (37, (.agg #[(.chan (.some 14)), (.chan (.some 15)), (.chan (.some 16)), (.chan (.some 17)), (.chan (.some 18))])), (38, (.pointer (.some (.mk 2 0 .none)))), (39, (.chan (.some 14))), (40, (.bool .false))] []
noncomputable def rslides_st13 : St := mkSt 3 [(0, (.cells [(.chan (.some 0)), (.chan (.some 1)), (.chan (.some 2)), (.chan (.some 3)), (.chan (.some 4)), (.chan (.some 5)), (.chan (.some 6)), (.chan (.some 7))] 26 .none .false)), (1, (.lst 0 54 5)), (2, (.cells [(.chan (.some 14)), (.chan (.some 15)), (.chan (.some 16)), (.chan (.some 17)), (.chan (.some 18))] 54 .none .false))]
theorem rslides_wf13 : rslides_st13.Wf := mkSt_wf rfl
set_option maxRecDepth 1000000 in
theorem rslides_id13 : agreeL [sy 0, sy 1, sy 2, sy 3, sy 4, sy 5, sy 6, sy 7, sy 8, sy 9, sy 10, sy 11, sy 12, sy 13, sy 14, sy 15, sy 16, sy 17, sy 18] [0, 1, 2] [some 0] rslides_fr13 rslides_st13 rslides_fr13 rslides_st13 = true := by kernel_rfl

set_option maxRecDepth 1000000 in
theorem rslides_r13 : ev Try.prog (env.symL [] [] [] []) 3000 (.code rslides_b30 none rslides_fr12 rslides_st12 (stopL .normal [sy 0, sy 1, sy 2, sy 3, sy 4, sy 5, sy 6, sy 7, sy 8, sy 9, sy 10, sy 11, sy 12, sy 13, sy 14, sy 15, sy 16, sy 17, sy 18] [0, 1, 2] [some 0] rslides_fr13 rslides_st13)) = some () := by kernel_rfl

noncomputable def rslides_b32 : Code := inBlockC rslides_b31

set_option maxRecDepth 1000000 in
theorem rslides_q18 : rslides_b31 = .block 2 rslides_b32 := by kernel_rfl

noncomputable def rslides_b33 : Code := inLoopC rslides_b32

set_option maxRecDepth 1000000 in
theorem rslides_q19 : rslides_b32 = .loop rslides_b33 := by kernel_rfl

noncomputable def rslides_fr14 : Fr := mkFr Try.f36 [(1, (.chan (.some 8))), (2, (.chan (.some 9))), (3, (.pointer (.some (.mk 0 0 .none)))), (6, (.slice .none 0 0)), (7, (iV (.ofNat 0))), (9, (.pointer (.some (.mk 1 10 (.some 2))))), (10, (.chan (.some 11))), (11, (.pointer (.some (.mk 2 0 .none)))), (12, (.chan (.some 20))), (13, (.chan (.some 21))), (14, (.bool .false)), (15, (.chan (.some 19))), (28, (.chan (.some 11))), (29, (.chan (.some 8))), (30, (.chan (.some 12))), (31, (.bool .true)), (34, (.chan (.some 8))), (35, (.chan (.some 11))), (36, (.chan (.some 13))), (37, (.agg #[(.chan (.some 14)), (.chan (.some 15)), (.chan (.some 16)), (.chan (.some 17)), (.chan (.some 18))])), (38, (.pointer (.some (.mk 2 0 .none)))), (39, (.chan (.some 14))), (40, (.bool .false))] []
noncomputable def rslides_st14 : St := mkSt 3 [(0, (.cells [(.chan (.some 0)), (.chan (.some 1)), (.chan (.some 2)), (.chan (.some 3)), (.chan (.some 4)), (.chan (.some 5)), (.chan (.some 6)), (.chan (.some 7))] 26 .none .false)), (1, (.lst 0 54 5)), (2, (.cells [(.chan (.some 14)), (.chan (.some 15)), (.chan (.some 16)), (.chan (.some 17)), (.chan (.some 18))] 54 .none .false))]
theorem rslides_wf14 : rslides_st14.Wf := mkSt_wf rfl
set_option maxRecDepth 1000000 in
theorem rslides_id14 : agreeL [sy 0, sy 1, sy 2, sy 3, sy 4, sy 5, sy 6, sy 7, sy 8, sy 9, sy 10, sy 11, sy 12, sy 13, sy 14, sy 15, sy 16, sy 17, sy 18, sy 19, sy 20, sy 21] [0, 1, 2] [some 0] rslides_fr14 rslides_st14 rslides_fr14 rslides_st14 = true := by kernel_rfl

noncomputable def rslides_fr15 : Fr := mkFr Try.f36 [(1, (.chan (.some 8))), (2, (.chan (.some 9))), (3, (.pointer (.some (.mk 0 0 .none)))), (6, (.slice .none 0 0)), (7, (iV (.ofNat 0))), (9, (.pointer (.some (.mk 1 10 (.some 2))))), (10, (.chan (.some 11))), (11, (.pointer (.some (.mk 2 0 .none)))), (12, (.chan (.some 20))), (13, (.chan (.some 21))), (14, (.bool .true)), (15, (.chan (.some 19))), (28, (.chan (.some 11))), (29, (.chan (.some 8))), (30, (.chan (.some 12))), (31, (.bool .true)), (34, (.chan (.some 8))), (35, (.chan (.some 11))), (36, (.chan (.some 13))), (37, (.agg #[(.chan (.some 14)), (.chan (.some 15)), (.chan (.some 16)), (.chan (.some 17)), (.chan (.some 18))])), (38, (.pointer (.some (.mk 2 0 .none)))), (39, (.chan (.some 14))), (40, (.bool .false))] []
noncomputable def rslides_st15 : St := mkSt 3 [(0, (.cells [(.chan (.some 0)), (.chan (.some 1)), (.chan (.some 2)), (.chan (.some 3)), (.chan (.some 4)), (.chan (.some 5)), (.chan (.some 6)), (.chan (.some 7))] 26 .none .false)), (1, (.lst 0 54 5)), (2, (.cells [(.chan (.some 14)), (.chan (.some 15)), (.chan (.some 16)), (.chan (.some 17)), (.chan (.some 18))] 54 .none .false))]
theorem rslides_wf15 : rslides_st15.Wf := mkSt_wf rfl
set_option maxRecDepth 1000000 in
theorem rslides_id15 : agreeL [sy 0, sy 1, sy 2, sy 3, sy 4, sy 5, sy 6, sy 7, sy 8, sy 9, sy 10, sy 11, sy 12, sy 13, sy 14, sy 15, sy 16, sy 17, sy 18, sy 19, sy 20, sy 21] [0, 1, 2] [some 0] rslides_fr15 rslides_st15 rslides_fr15 rslides_st15 = true := by kernel_rfl

set_option maxRecDepth 1000000 in
theorem rslides_h20 : agreeL [(sy 0), (sy 1), (sy 2), (sy 3), (sy 4), (sy 5), (sy 6), (sy 7), (sy 8), (sy 9), (sy 10), (sy 11), (sy 12), (sy 13), (sy 14), (sy 15), (sy 16), (sy 17), (sy 18), (iV 0), (iV 0), (iV 0)] [0, 1, 2] [some 0] rslides_fr14 rslides_st14 rslides_fr13 rslides_st13 = true := by kernel_rfl

noncomputable def rslides_e14 : List Ent := [⟨(.bi 0 [38]), [(sy 8)], (sy 22)⟩, ⟨(.bin .lss 3), [(sy 19), (sy 22)], (.bool true)⟩, ⟨(.indexAddr 38), [(sy 8), (sy 19)], (sy 23)⟩, ⟨(.fieldAddr 54 0), [(sy 23)], (sy 24)⟩, ⟨(.load 3), [(sy 24)], (sy 25)⟩, ⟨(.bin .neq 3), [(sy 25), (iV 1)], (.bool true)⟩, ⟨(.bin .add 3), [(sy 19), (iV 1)], (sy 26)⟩]
noncomputable def rslides_c14 : List CEnt := []
noncomputable def rslides_l14 : List LEnt := []
noncomputable def rslides_cl14 : List CLEnt := []

set_option maxRecDepth 1000000 in
theorem rslides_r14 : ev Try.prog (env.symL rslides_e14 rslides_c14 rslides_l14 rslides_cl14) 3000 (.code rslides_b33 none rslides_fr14 rslides_st14 (stopL .normal [(sy 0), (sy 1), (sy 2), (sy 3), (sy 4), (sy 5), (sy 6), (sy 7), (sy 8), (sy 9), (sy 10), (sy 11), (sy 12), (sy 13), (sy 14), (sy 15), (sy 16), (sy 17), (sy 18), (sy 26), (sy 20), (sy 21)] [0, 1, 2] [some 0] rslides_fr14 rslides_st14)) = some () := by kernel_rfl

noncomputable def rslides_e15 : List Ent := [⟨(.bi 0 [38]), [(sy 8)], (sy 22)⟩, ⟨(.bin .lss 3), [(sy 19), (sy 22)], (.bool true)⟩, ⟨(.indexAddr 38), [(sy 8), (sy 19)], (sy 23)⟩, ⟨(.fieldAddr 54 0), [(sy 23)], (sy 24)⟩, ⟨(.load 3), [(sy 24)], (sy 25)⟩, ⟨(.bin .neq 3), [(sy 25), (iV 1)], (.bool false)⟩, ⟨(.fieldAddr 54 1), [(sy 23)], (sy 26)⟩, ⟨(.load 3), [(sy 26)], (sy 27)⟩, ⟨(.fieldAddr 54 3), [(sy 23)], (sy 30)⟩, ⟨(.fieldAddr 23 0), [(sy 30)], (sy 31)⟩, ⟨(.load 3), [(sy 31)], (sy 32)⟩, ⟨(.bin .add 3), [(sy 32), (sy 28)], (sy 33)⟩, ⟨(.fieldAddr 23 1), [(sy 30)], (sy 34)⟩, ⟨(.load 3), [(sy 34)], (sy 35)⟩, ⟨(.bin .add 3), [(sy 35), (sy 29)], (sy 36)⟩, ⟨(.bin .add 3), [(sy 36), (sy 9)], (sy 37)⟩, ⟨(.bi 3 [3, 3]), [(sy 33), (sy 33)], (sy 38)⟩, ⟨(.bi 2 [3, 3]), [(sy 37), (sy 37)], (sy 39)⟩, ⟨(.bin .add 3), [(sy 19), (iV 1)], (sy 40)⟩]
noncomputable def rslides_c15 : List CEnt := [⟨47, [(.agg #[(sy 0), (sy 1), (sy 2), (sy 3), (sy 4), (sy 5), (sy 6), (sy 7)]), (sy 27), (sy 15)], [], (.agg #[(sy 28), (sy 29)])⟩]
noncomputable def rslides_l15 : List LEnt := []
noncomputable def rslides_cl15 : List CLEnt := []

set_option maxRecDepth 1000000 in
theorem rslides_r15 : ev Try.prog (env.symL rslides_e15 rslides_c15 rslides_l15 rslides_cl15) 3000 (.code rslides_b33 none rslides_fr14 rslides_st14 (stopL .normal [(sy 0), (sy 1), (sy 2), (sy 3), (sy 4), (sy 5), (sy 6), (sy 7), (sy 8), (sy 9), (sy 10), (sy 11), (sy 12), (sy 13), (sy 14), (sy 15), (sy 16), (sy 17), (sy 18), (sy 40), (sy 38), (sy 39)] [0, 1, 2] [some 0] rslides_fr15 rslides_st15)) = some () := by kernel_rfl

noncomputable def rslides_e16 : List Ent := [⟨(.bi 0 [38]), [(sy 8)], (sy 22)⟩, ⟨(.bin .lss 3), [(sy 19), (sy 22)], (.bool false)⟩]
noncomputable def rslides_c16 : List CEnt := []
noncomputable def rslides_l16 : List LEnt := []
noncomputable def rslides_cl16 : List CLEnt := []

noncomputable def rslides_fr16 : Fr := mkFr Try.f36 [(1, (.chan (.some 8))), (2, (.chan (.some 9))), (3, (.pointer (.some (.mk 0 0 .none)))), (6, (.slice .none 0 0)), (7, (iV (.ofNat 0))), (9, (.pointer (.some (.mk 1 10 (.some 2))))), (10, (.chan (.some 11))), (11, (.pointer (.some (.mk 2 0 .none)))), (12, (.chan (.some 20))), (13, (.chan (.some 21))), (14, (.bool .false)), (15, (.chan (.some 19))), (28, (.chan (.some 11))), (29, (.chan (.some 8))), (30, (.chan (.some 12))), (31, (.bool .true)), (34, (.chan (.some 8))), (35, (.chan (.some 11))), (36, (.chan (.some 13))), (37, (.agg #[(.chan (.some 14)), (.chan (.some 15)), (.chan (.some 16)), (.chan (.some 17)), (.chan (.some 18))])), (38, (.pointer (.some (.mk 2 0 .none)))), (39, (.chan (.some 14))), (40, (.bool .false)), (45, (.chan (.some 19))), (46, (.chan (.some 8))), (47, (.chan (.some 22))), (48, (.bool .false))] []
noncomputable def rslides_st16 : St := mkSt 3 [(0, (.cells [(.chan (.some 0)), (.chan (.some 1)), (.chan (.some 2)), (.chan (.some 3)), (.chan (.some 4)), (.chan (.some 5)), (.chan (.some 6)), (.chan (.some 7))] 26 .none .false)), (1, (.lst 0 54 5)), (2, (.cells [(.chan (.some 14)), (.chan (.some 15)), (.chan (.some 16)), (.chan (.some 17)), (.chan (.some 18))] 54 .none .false))]
theorem rslides_wf16 : rslides_st16.Wf := mkSt_wf rfl
set_option maxRecDepth 1000000 in
theorem rslides_id16 : agreeL [sy 0, sy 1, sy 2, sy 3, sy 4, sy 5, sy 6, sy 7, sy 8, sy 9, sy 10, sy 11, sy 12, sy 13, sy 14, sy 15, sy 16, sy 17, sy 18, sy 19, sy 20, sy 21, sy 22] [0, 1, 2] [some 0] rslides_fr16 rslides_st16 rslides_fr16 rslides_st16 = true := by kernel_rfl

set_option maxRecDepth 1000000 in
theorem rslides_r16 : ev Try.prog (env.symL rslides_e16 rslides_c16 rslides_l16 rslides_cl16) 3000 (.code rslides_b33 none rslides_fr14 rslides_st14 (stopL (.exit 2) [sy 0, sy 1, sy 2, sy 3, sy 4, sy 5, sy 6, sy 7, sy 8, sy 9, sy 10, sy 11, sy 12, sy 13, sy 14, sy 15, sy 16, sy 17, sy 18, sy 19, sy 20, sy 21, sy 22] [0, 1, 2] [some 0] rslides_fr16 rslides_st16)) = some () := by kernel_rfl

noncomputable def rslides_e17 : List Ent := [⟨(.bi 2 [3, 3]), [(sy 17), (sy 20)], (sy 23)⟩, ⟨(.bi 3 [3, 3]), [(sy 18), (sy 21)], (sy 24)⟩]
noncomputable def rslides_c17 : List CEnt := []
noncomputable def rslides_l17 : List LEnt := []
noncomputable def rslides_cl17 : List CLEnt := []

noncomputable def rslides_fr17 : Fr := mkFr Try.f36 [(1, (.chan (.some 8))), (2, (.chan (.some 9))), (3, (.pointer (.some (.mk 0 0 .none)))), (6, (.slice .none 0 0)), (7, (iV (.ofNat 0))), (9, (.pointer (.some (.mk 1 10 (.some 2))))), (10, (.chan (.some 11))), (11, (.pointer (.some (.mk 2 0 .none)))), (12, (.chan (.some 20))), (13, (.chan (.some 21))), (14, (.bool .false)), (15, (.chan (.some 19))), (28, (.chan (.some 11))), (29, (.chan (.some 8))), (30, (.chan (.some 12))), (31, (.bool .true)), (34, (.chan (.some 8))), (35, (.chan (.some 11))), (36, (.chan (.some 13))), (37, (.agg #[(.chan (.some 14)), (.chan (.some 15)), (.chan (.some 16)), (.chan (.some 17)), (.chan (.some 18))])), (38, (.pointer (.some (.mk 2 0 .none)))), (39, (.chan (.some 14))), (40, (.bool .false)), (45, (.chan (.some 19))), (46, (.chan (.some 8))), (47, (.chan (.some 22))), (48, (.bool .false)), (96, (.pointer (.some (.mk 2 3 .none)))), (97, (.pointer (.some (.mk 2 3 .none)))), (98, (.chan (.some 17))), (99, (.chan (.some 20))), (100, (.chan (.some 23))), (101, (.pointer (.some (.mk 2 3 .none)))), (102, (.pointer (.some (.mk 2 4 .none)))), (103, (.chan (.some 18))), (104, (.chan (.some 21))), (105, (.chan (.some 24))), (106, (.agg #[(.chan (.some 23)), (.chan (.some 24))])), (107, (.pointer (.some (.mk 2 3 .none)))), (108, (.bool .false)), (109, (.bool .false)), (110, (.tuple #[])), (111, (.tuple #[])), (112, (.tuple #[])), (113, (.tuple #[])), (114, (.tuple #[])), (115, (.tuple #[])), (116, (.tuple #[])), (117, (.bool .false))] []
noncomputable def rslides_st17 : St := mkSt 3 [(0, (.cells [(.chan (.some 0)), (.chan (.some 1)), (.chan (.some 2)), (.chan (.some 3)), (.chan (.some 4)), (.chan (.some 5)), (.chan (.some 6)), (.chan (.some 7))] 26 .none .false)), (1, (.lst 0 54 5)), (2, (.cells [(.chan (.some 14)), (.chan (.some 15)), (.chan (.some 16)), (.chan (.some 23)), (.chan (.some 24))] 54 .none .false))]
theorem rslides_wf17 : rslides_st17.Wf := mkSt_wf rfl
set_option maxRecDepth 1000000 in
theorem rslides_id17 : agreeL [sy 0, sy 1, sy 2, sy 3, sy 4, sy 5, sy 6, sy 7, sy 8, sy 9, sy 10, sy 11, sy 12, sy 13, sy 14, sy 15, sy 16, sy 17, sy 18, sy 19, sy 20, sy 21, sy 22, sy 23, sy 24] [0, 1, 2] [some 0] rslides_fr17 rslides_st17 rslides_fr17 rslides_st17 = true := by kernel_rfl

set_option maxRecDepth 1000000 in
theorem rslides_r17 : ev Try.prog (env.symL rslides_e17 rslides_c17 rslides_l17 rslides_cl17) 3000 (.code rslides_b29 none rslides_fr16 rslides_st16 (stopL .normal [sy 0, sy 1, sy 2, sy 3, sy 4, sy 5, sy 6, sy 7, sy 8, sy 9, sy 10, sy 11, sy 12, sy 13, sy 14, sy 15, sy 16, sy 17, sy 18, sy 19, sy 20, sy 21, sy 22, sy 23, sy 24] [0, 1, 2] [some 0] rslides_fr17 rslides_st17)) = some () := by kernel_rfl

noncomputable def rslides_e18 : List Ent := [⟨(.bin .add 3), [(sy 11), (iV 1)], (sy 25)⟩]
noncomputable def rslides_c18 : List CEnt := []
noncomputable def rslides_l18 : List LEnt := []
noncomputable def rslides_cl18 : List CLEnt := []

set_option maxRecDepth 1000000 in
theorem rslides_r18 : ev Try.prog (env.symL rslides_e18 rslides_c18 rslides_l18 rslides_cl18) 3000 (.code rslides_b20 none rslides_fr17 rslides_st17 (stopL .normal [(sy 0), (sy 1), (sy 2), (sy 3), (sy 4), (sy 5), (sy 6), (sy 7), (sy 8), (sy 9), (sy 10), (sy 25)] [0, 1] [some 0] rslides_fr7 rslides_st7)) = some () := by kernel_rfl

noncomputable def rslides_e19 : List Ent := [⟨(.bi 0 [38]), [(sy 8)], (sy 22)⟩, ⟨(.bin .lss 3), [(sy 19), (sy 22)], (.bool true)⟩, ⟨(.indexAddr 38), [(sy 8), (sy 19)], (sy 23)⟩, ⟨(.fieldAddr 54 0), [(sy 23)], (sy 24)⟩, ⟨(.load 3), [(sy 24)], (sy 25)⟩, ⟨(.bin .neq 3), [(sy 25), (iV 1)], (.bool true)⟩, ⟨(.bin .add 3), [(sy 19), (iV 1)], (sy 26)⟩]
noncomputable def rslides_c19 : List CEnt := []
noncomputable def rslides_l19 : List LEnt := []
noncomputable def rslides_cl19 : List CLEnt := []

set_option maxRecDepth 1000000 in
theorem rslides_r19 : ev Try.prog (env.symL rslides_e19 rslides_c19 rslides_l19 rslides_cl19) 3000 (.code rslides_b33 none rslides_fr15 rslides_st15 (stopL .normal [(sy 0), (sy 1), (sy 2), (sy 3), (sy 4), (sy 5), (sy 6), (sy 7), (sy 8), (sy 9), (sy 10), (sy 11), (sy 12), (sy 13), (sy 14), (sy 15), (sy 16), (sy 17), (sy 18), (sy 26), (sy 20), (sy 21)] [0, 1, 2] [some 0] rslides_fr15 rslides_st15)) = some () := by kernel_rfl

noncomputable def rslides_e20 : List Ent := [⟨(.bi 0 [38]), [(sy 8)], (sy 22)⟩, ⟨(.bin .lss 3), [(sy 19), (sy 22)], (.bool true)⟩, ⟨(.indexAddr 38), [(sy 8), (sy 19)], (sy 23)⟩, ⟨(.fieldAddr 54 0), [(sy 23)], (sy 24)⟩, ⟨(.load 3), [(sy 24)], (sy 25)⟩, ⟨(.bin .neq 3), [(sy 25), (iV 1)], (.bool false)⟩, ⟨(.fieldAddr 54 1), [(sy 23)], (sy 26)⟩, ⟨(.load 3), [(sy 26)], (sy 27)⟩, ⟨(.fieldAddr 54 3), [(sy 23)], (sy 30)⟩, ⟨(.fieldAddr 23 0), [(sy 30)], (sy 31)⟩, ⟨(.load 3), [(sy 31)], (sy 32)⟩, ⟨(.bin .add 3), [(sy 32), (sy 28)], (sy 33)⟩, ⟨(.fieldAddr 23 1), [(sy 30)], (sy 34)⟩, ⟨(.load 3), [(sy 34)], (sy 35)⟩, ⟨(.bin .add 3), [(sy 35), (sy 29)], (sy 36)⟩, ⟨(.bin .add 3), [(sy 36), (sy 9)], (sy 37)⟩, ⟨(.bi 3 [3, 3]), [(sy 20), (sy 33)], (sy 38)⟩, ⟨(.bi 2 [3, 3]), [(sy 21), (sy 37)], (sy 39)⟩, ⟨(.bin .add 3), [(sy 19), (iV 1)], (sy 40)⟩]
noncomputable def rslides_c20 : List CEnt := [⟨47, [(.agg #[(sy 0), (sy 1), (sy 2), (sy 3), (sy 4), (sy 5), (sy 6), (sy 7)]), (sy 27), (sy 15)], [], (.agg #[(sy 28), (sy 29)])⟩]
noncomputable def rslides_l20 : List LEnt := []
noncomputable def rslides_cl20 : List CLEnt := []

set_option maxRecDepth 1000000 in
theorem rslides_r20 : ev Try.prog (env.symL rslides_e20 rslides_c20 rslides_l20 rslides_cl20) 3000 (.code rslides_b33 none rslides_fr15 rslides_st15 (stopL .normal [(sy 0), (sy 1), (sy 2), (sy 3), (sy 4), (sy 5), (sy 6), (sy 7), (sy 8), (sy 9), (sy 10), (sy 11), (sy 12), (sy 13), (sy 14), (sy 15), (sy 16), (sy 17), (sy 18), (sy 40), (sy 38), (sy 39)] [0, 1, 2] [some 0] rslides_fr15 rslides_st15)) = some () := by kernel_rfl

noncomputable def rslides_e21 : List Ent := [⟨(.bi 0 [38]), [(sy 8)], (sy 22)⟩, ⟨(.bin .lss 3), [(sy 19), (sy 22)], (.bool false)⟩]
noncomputable def rslides_c21 : List CEnt := []
noncomputable def rslides_l21 : List LEnt := []
noncomputable def rslides_cl21 : List CLEnt := []

noncomputable def rslides_fr18 : Fr := mkFr Try.f36 [(1, (.chan (.some 8))), (2, (.chan (.some 9))), (3, (.pointer (.some (.mk 0 0 .none)))), (6, (.slice .none 0 0)), (7, (iV (.ofNat 0))), (9, (.pointer (.some (.mk 1 10 (.some 2))))), (10, (.chan (.some 11))), (11, (.pointer (.some (.mk 2 0 .none)))), (12, (.chan (.some 20))), (13, (.chan (.some 21))), (14, (.bool .true)), (15, (.chan (.some 19))), (28, (.chan (.some 11))), (29, (.chan (.some 8))), (30, (.chan (.some 12))), (31, (.bool .true)), (34, (.chan (.some 8))), (35, (.chan (.some 11))), (36, (.chan (.some 13))), (37, (.agg #[(.chan (.some 14)), (.chan (.some 15)), (.chan (.some 16)), (.chan (.some 17)), (.chan (.some 18))])), (38, (.pointer (.some (.mk 2 0 .none)))), (39, (.chan (.some 14))), (40, (.bool .false)), (45, (.chan (.some 19))), (46, (.chan (.some 8))), (47, (.chan (.some 22))), (48, (.bool .false))] []
noncomputable def rslides_st18 : St := mkSt 3 [(0, (.cells [(.chan (.some 0)), (.chan (.some 1)), (.chan (.some 2)), (.chan (.some 3)), (.chan (.some 4)), (.chan (.some 5)), (.chan (.some 6)), (.chan (.some 7))] 26 .none .false)), (1, (.lst 0 54 5)), (2, (.cells [(.chan (.some 14)), (.chan (.some 15)), (.chan (.some 16)), (.chan (.some 17)), (.chan (.some 18))] 54 .none .false))]
theorem rslides_wf18 : rslides_st18.Wf := mkSt_wf rfl
set_option maxRecDepth 1000000 in
theorem rslides_id18 : agreeL [sy 0, sy 1, sy 2, sy 3, sy 4, sy 5, sy 6, sy 7, sy 8, sy 9, sy 10, sy 11, sy 12, sy 13, sy 14, sy 15, sy 16, sy 17, sy 18, sy 19, sy 20, sy 21, sy 22] [0, 1, 2] [some 0] rslides_fr18 rslides_st18 rslides_fr18 rslides_st18 = true := by kernel_rfl

set_option maxRecDepth 1000000 in
theorem rslides_r21 : ev Try.prog (env.symL rslides_e21 rslides_c21 rslides_l21 rslides_cl21) 3000 (.code rslides_b33 none rslides_fr15 rslides_st15 (stopL (.exit 2) [sy 0, sy 1, sy 2, sy 3, sy 4, sy 5, sy 6, sy 7, sy 8, sy 9, sy 10, sy 11, sy 12, sy 13, sy 14, sy 15, sy 16, sy 17, sy 18, sy 19, sy 20, sy 21, sy 22] [0, 1, 2] [some 0] rslides_fr18 rslides_st18)) = some () := by kernel_rfl

noncomputable def rslides_e22 : List Ent := [⟨(.bi 2 [3, 3]), [(sy 17), (sy 20)], (sy 23)⟩, ⟨(.bi 3 [3, 3]), [(sy 18), (sy 21)], (sy 24)⟩, ⟨(.bin .leq 3), [(sy 23), (sy 24)], (.bool true)⟩]
noncomputable def rslides_c22 : List CEnt := []
noncomputable def rslides_l22 : List LEnt := [(.grow 0 10 1 5 [(sy 14), (sy 15), (sy 16), (sy 23), (sy 24)] 1 25)]
noncomputable def rslides_cl22 : List CLEnt := []

noncomputable def rslides_fr19 : Fr := mkFr Try.f36 [(1, (.chan (.some 8))), (2, (.chan (.some 9))), (3, (.pointer (.some (.mk 0 0 .none)))), (6, (.slice .none 0 0)), (7, (iV (.ofNat 0))), (9, (.pointer (.some (.mk 3 25 (.some 2))))), (10, (.chan (.some 11))), (11, (.pointer (.some (.mk 1 0 .none)))), (12, (.chan (.some 20))), (13, (.chan (.some 21))), (14, (.bool .true)), (15, (.chan (.some 19))), (28, (.chan (.some 11))), (29, (.chan (.some 8))), (30, (.chan (.some 12))), (31, (.bool .true)), (34, (.chan (.some 8))), (35, (.chan (.some 11))), (36, (.chan (.some 13))), (37, (.agg #[(.chan (.some 14)), (.chan (.some 15)), (.chan (.some 16)), (.chan (.some 17)), (.chan (.some 18))])), (38, (.pointer (.some (.mk 1 0 .none)))), (39, (.chan (.some 14))), (40, (.bool .false)), (45, (.chan (.some 19))), (46, (.chan (.some 8))), (47, (.chan (.some 22))), (48, (.bool .false)), (96, (.pointer (.some (.mk 1 3 .none)))), (97, (.pointer (.some (.mk 1 3 .none)))), (98, (.chan (.some 17))), (99, (.chan (.some 20))), (100, (.chan (.some 23))), (101, (.pointer (.some (.mk 1 3 .none)))), (102, (.pointer (.some (.mk 1 4 .none)))), (103, (.chan (.some 18))), (104, (.chan (.some 21))), (105, (.chan (.some 24))), (106, (.agg #[(.chan (.some 23)), (.chan (.some 24))])), (107, (.pointer (.some (.mk 1 3 .none)))), (108, (.bool .true)), (109, (.bool .true)), (110, (.pointer (.some (.mk 1 3 .none)))), (111, (.pointer (.some (.mk 1 3 .none)))), (112, (.chan (.some 23))), (113, (.pointer (.some (.mk 1 3 .none)))), (114, (.pointer (.some (.mk 1 4 .none)))), (115, (.chan (.some 24))), (116, (.bool .true)), (117, (.bool .true)), (119, (.agg #[(.chan (.some 14)), (.chan (.some 15)), (.chan (.some 16)), (.chan (.some 23)), (.chan (.some 24))])), (120, (.slice (.some (.mk 2 0 .none)) 1 1)), (121, (.pointer (.some (.mk 3 25 (.some 2)))))] []
noncomputable def rslides_st19 : St := mkSt 4 [(0, (.cells [(.chan (.some 0)), (.chan (.some 1)), (.chan (.some 2)), (.chan (.some 3)), (.chan (.some 4)), (.chan (.some 5)), (.chan (.some 6)), (.chan (.some 7))] 26 .none .false)), (1, (.cells [(.chan (.some 14)), (.chan (.some 15)), (.chan (.some 16)), (.chan (.some 23)), (.chan (.some 24))] 54 .none .false)), (2, (.cells [(.chan (.some 14)), (.chan (.some 15)), (.chan (.some 16)), (.chan (.some 23)), (.chan (.some 24))] 54 .none .false)), (3, (.lst 1 54 5))]
theorem rslides_wf19 : rslides_st19.Wf := mkSt_wf rfl
set_option maxRecDepth 1000000 in
theorem rslides_id19 : agreeL [sy 0, sy 1, sy 2, sy 3, sy 4, sy 5, sy 6, sy 7, sy 8, sy 9, sy 10, sy 11, sy 12, sy 13, sy 14, sy 15, sy 16, sy 17, sy 18, sy 19, sy 20, sy 21, sy 22, sy 23, sy 24, sy 25] [0, 1, 2, 3] [some 0, some 1] rslides_fr19 rslides_st19 rslides_fr19 rslides_st19 = true := by kernel_rfl

set_option maxRecDepth 1000000 in
theorem rslides_r22 : ev Try.prog (env.symL rslides_e22 rslides_c22 rslides_l22 rslides_cl22) 3000 (.code rslides_b29 none rslides_fr18 rslides_st18 (stopL .normal [sy 0, sy 1, sy 2, sy 3, sy 4, sy 5, sy 6, sy 7, sy 8, sy 9, sy 10, sy 11, sy 12, sy 13, sy 14, sy 15, sy 16, sy 17, sy 18, sy 19, sy 20, sy 21, sy 22, sy 23, sy 24, sy 25] [0, 2, 3, 4] [some 0, some 1] rslides_fr19 rslides_st19)) = some () := by kernel_rfl

noncomputable def rslides_e23 : List Ent := [⟨(.bin .add 3), [(sy 11), (iV 1)], (sy 26)⟩]
noncomputable def rslides_c23 : List CEnt := []
noncomputable def rslides_l23 : List LEnt := []
noncomputable def rslides_cl23 : List CLEnt := []

set_option maxRecDepth 1000000 in
theorem rslides_r23 : ev Try.prog (env.symL rslides_e23 rslides_c23 rslides_l23 rslides_cl23) 3000 (.code rslides_b20 none rslides_fr19 rslides_st19 (stopL .normal [(sy 0), (sy 1), (sy 2), (sy 3), (sy 4), (sy 5), (sy 6), (sy 7), (sy 8), (sy 9), (sy 25), (sy 26)] [0, 3] [some 1] rslides_fr7 rslides_st7)) = some () := by kernel_rfl

noncomputable def rslides_e24 : List Ent := [⟨(.bi 2 [3, 3]), [(sy 17), (sy 20)], (sy 23)⟩, ⟨(.bi 3 [3, 3]), [(sy 18), (sy 21)], (sy 24)⟩, ⟨(.bin .leq 3), [(sy 23), (sy 24)], (.bool false)⟩]
noncomputable def rslides_c24 : List CEnt := []
noncomputable def rslides_l24 : List LEnt := []
noncomputable def rslides_cl24 : List CLEnt := []

noncomputable def rslides_fr20 : Fr := mkFr Try.f36 [(1, (.chan (.some 8))), (2, (.chan (.some 9))), (3, (.pointer (.some (.mk 0 0 .none)))), (6, (.slice .none 0 0)), (7, (iV (.ofNat 0))), (9, (.pointer (.some (.mk 1 10 (.some 2))))), (10, (.chan (.some 11))), (11, (.pointer (.some (.mk 2 0 .none)))), (12, (.chan (.some 20))), (13, (.chan (.some 21))), (14, (.bool .true)), (15, (.chan (.some 19))), (28, (.chan (.some 11))), (29, (.chan (.some 8))), (30, (.chan (.some 12))), (31, (.bool .true)), (34, (.chan (.some 8))), (35, (.chan (.some 11))), (36, (.chan (.some 13))), (37, (.agg #[(.chan (.some 14)), (.chan (.some 15)), (.chan (.some 16)), (.chan (.some 17)), (.chan (.some 18))])), (38, (.pointer (.some (.mk 2 0 .none)))), (39, (.chan (.some 14))), (40, (.bool .false)), (45, (.chan (.some 19))), (46, (.chan (.some 8))), (47, (.chan (.some 22))), (48, (.bool .false)), (96, (.pointer (.some (.mk 2 3 .none)))), (97, (.pointer (.some (.mk 2 3 .none)))), (98, (.chan (.some 17))), (99, (.chan (.some 20))), (100, (.chan (.some 23))), (101, (.pointer (.some (.mk 2 3 .none)))), (102, (.pointer (.some (.mk 2 4 .none)))), (103, (.chan (.some 18))), (104, (.chan (.some 21))), (105, (.chan (.some 24))), (106, (.agg #[(.chan (.some 23)), (.chan (.some 24))])), (107, (.pointer (.some (.mk 2 3 .none)))), (108, (.bool .true)), (109, (.bool .true)), (110, (.pointer (.some (.mk 2 3 .none)))), (111, (.pointer (.some (.mk 2 3 .none)))), (112, (.chan (.some 23))), (113, (.pointer (.some (.mk 2 3 .none)))), (114, (.pointer (.some (.mk 2 4 .none)))), (115, (.chan (.some 24))), (116, (.bool .false)), (117, (.bool .false))] []
noncomputable def rslides_st20 : St := mkSt 3 [(0, (.cells [(.chan (.some 0)), (.chan (.some 1)), (.chan (.some 2)), (.chan (.some 3)), (.chan (.some 4)), (.chan (.some 5)), (.chan (.some 6)), (.chan (.some 7))] 26 .none .false)), (1, (.lst 0 54 5)), (2, (.cells [(.chan (.some 14)), (.chan (.some 15)), (.chan (.some 16)), (.chan (.some 23)), (.chan (.some 24))] 54 .none .false))]
theorem rslides_wf20 : rslides_st20.Wf := mkSt_wf rfl
set_option maxRecDepth 1000000 in
theorem rslides_id20 : agreeL [sy 0, sy 1, sy 2, sy 3, sy 4, sy 5, sy 6, sy 7, sy 8, sy 9, sy 10, sy 11, sy 12, sy 13, sy 14, sy 15, sy 16, sy 17, sy 18, sy 19, sy 20, sy 21, sy 22, sy 23, sy 24] [0, 1, 2] [some 0] rslides_fr20 rslides_st20 rslides_fr20 rslides_st20 = true := by kernel_rfl

set_option maxRecDepth 1000000 in
theorem rslides_r24 : ev Try.prog (env.symL rslides_e24 rslides_c24 rslides_l24 rslides_cl24) 3000 (.code rslides_b29 none rslides_fr18 rslides_st18 (stopL .normal [sy 0, sy 1, sy 2, sy 3, sy 4, sy 5, sy 6, sy 7, sy 8, sy 9, sy 10, sy 11, sy 12, sy 13, sy 14, sy 15, sy 16, sy 17, sy 18, sy 19, sy 20, sy 21, sy 22, sy 23, sy 24] [0, 1, 2] [some 0] rslides_fr20 rslides_st20)) = some () := by kernel_rfl

noncomputable def rslides_e25 : List Ent := [⟨(.bin .add 3), [(sy 11), (iV 1)], (sy 25)⟩]
noncomputable def rslides_c25 : List CEnt := []
noncomputable def rslides_l25 : List LEnt := []
noncomputable def rslides_cl25 : List CLEnt := []

set_option maxRecDepth 1000000 in
theorem rslides_r25 : ev Try.prog (env.symL rslides_e25 rslides_c25 rslides_l25 rslides_cl25) 3000 (.code rslides_b20 none rslides_fr20 rslides_st20 (stopL .normal [(sy 0), (sy 1), (sy 2), (sy 3), (sy 4), (sy 5), (sy 6), (sy 7), (sy 8), (sy 9), (sy 10), (sy 25)] [0, 1] [some 0] rslides_fr7 rslides_st7)) = some () := by kernel_rfl

noncomputable def rslides_e26 : List Ent := [⟨(.bi 0 [38]), [(sy 8)], (sy 12)⟩, ⟨(.bin .lss 3), [(sy 11), (sy 12)], (.bool false)⟩]
noncomputable def rslides_c26 : List CEnt := []
noncomputable def rslides_l26 : List LEnt := []
noncomputable def rslides_cl26 : List CLEnt := []

noncomputable def rslides_fr21 : Fr := mkFr Try.f36 [(6, (.slice .none 0 0)), (7, (iV (.ofNat 0))), (9, (.pointer (.some (.mk 0 10 (.some 2)))))] []
noncomputable def rslides_st21 : St := mkSt 1 [(0, (.lst 0 54 5))]
theorem rslides_wf21 : rslides_st21.Wf := mkSt_wf rfl
set_option maxRecDepth 1000000 in
theorem rslides_id21 : agreeL [sy 0, sy 1, sy 2, sy 3, sy 4, sy 5, sy 6, sy 7, sy 8, sy 9, sy 10] [0] [some 0] rslides_fr21 rslides_st21 rslides_fr21 rslides_st21 = true := by kernel_rfl

set_option maxRecDepth 1000000 in
theorem rslides_r26 : ev Try.prog (env.symL rslides_e26 rslides_c26 rslides_l26 rslides_cl26) 3000 (.code rslides_b17 none rslides_fr7 rslides_st7 (stopL (.exit 0) [sy 0, sy 1, sy 2, sy 3, sy 4, sy 5, sy 6, sy 7, sy 8, sy 9, sy 10] [1] [some 0] rslides_fr21 rslides_st21)) = some () := by kernel_rfl

set_option maxRecDepth 1000000 in
theorem rslides_r27 : ev Try.prog (env.symL [] [] [] []) 3000 (.code rslides_b12 none rslides_fr21 rslides_st21 (retK (env.symL [] [] [] []) Try.f36 (endL (.tuple #[(.pointer (some ⟨0, 10, some 2⟩)), (iV 0)]) 0 0 54 5))) = some () := by kernel_rfl

noncomputable def rslides_e28 : List Ent := [⟨(.bin .geq 3), [(sy 9), (iV 0)], (.bool true)⟩, ⟨(.bin .leq 3), [(sy 9), (iV 100000000)], (.bool false)⟩]
noncomputable def rslides_c28 : List CEnt := []
noncomputable def rslides_l28 : List LEnt := []
noncomputable def rslides_cl28 : List CLEnt := []

set_option maxRecDepth 1000000 in
theorem rslides_r28 : ev Try.prog (env.symL rslides_e28 rslides_c28 rslides_l28 rslides_cl28) 3000 (.code rslides_b7 none rslides_fr3 rslides_st3 (stopRK (env.symL rslides_e28 rslides_c28 rslides_l28 rslides_cl28) Try.f36 (endV (.tuple #[(.slice .none 0 0), (iV 3)])))) = some () := by kernel_rfl

noncomputable def rslides_e29 : List Ent := [⟨(.bin .geq 3), [(sy 9), (iV 0)], (.bool false)⟩]
noncomputable def rslides_c29 : List CEnt := []
noncomputable def rslides_l29 : List LEnt := []
noncomputable def rslides_cl29 : List CLEnt := []

set_option maxRecDepth 1000000 in
theorem rslides_r29 : ev Try.prog (env.symL rslides_e29 rslides_c29 rslides_l29 rslides_cl29) 3000 (.code rslides_b7 none rslides_fr3 rslides_st3 (stopRK (env.symL rslides_e29 rslides_c29 rslides_l29 rslides_cl29) Try.f36 (endV (.tuple #[(.slice .none 0 0), (iV 3)])))) = some () := by kernel_rfl

set_option maxHeartbeats 8000000 in
set_option maxRecDepth 100000 in
theorem rslides_any (x0 : Int) (x1 : Int) (x2 : Int) (x3 : Int) (x4 : Int) (x5 : Int) (x6 : Int) (x7 : Int) (al : Option Addr) (l : List Src) (ql : Nat) (lag : Int) (w0 : World) {tl : TypeId} (Hl : Lies w0 tl (flat srcC l) al l.length) (hn : l.length < 1000000) : Calls Try.prog 36 #[(.agg #[(iV x0), (iV x1), (iV x2), (iV x3), (iV x4), (iV x5), (iV x6), (iV x7)]), (.slice al l.length ql), (iV lag)] w0 (fun en w' => ∃ a C, en = .returned (.tuple #[.slice a (slidesL x0 x1 x2 x3 x4 x5 x6 x7 l lag).length C, iV (slErr x0 x1 x2 x3 x4 x5 x6 x7 l lag)]) ∧ NewList w0 w' 54 5 (flat srcC (slidesL x0 x1 x2 x3 x4 x5 x6 x7 l lag)) a (slidesL x0 x1 x2 x3 x4 x5 x6 x7 l lag).length C ∧ Below w0.heap.size w0 w') := by
  refine @calls_of_body (Rho.of [(iV x0), (iV x1), (iV x2), (iV x3), (iV x4), (iV x5), (iV x6), (iV x7), (.slice al l.length ql), (iV lag)] (fun b => w0.heap[b]?) []) Try.prog env (@env_ok (Rho.of [(iV x0), (iV x1), (iV x2), (iV x3), (iV x4), (iV x5), (iV x6), (iV x7), (.slice al l.length ql), (iV lag)] (fun b => w0.heap[b]?) [])) 36 Try.f36 rslides_b0 [(.agg #[(.chan (.some 0)), (.chan (.some 1)), (.chan (.some 2)), (.chan (.some 3)), (.chan (.some 4)), (.chan (.some 5)), (.chan (.some 6)), (.chan (.some 7))]), (.chan (.some 8)), (.chan (.some 9))] w0 _ (by kernel_rfl) (by kernel_rfl) (of_decide_eq_true (by kernel_rfl)) (of_decide_eq_true (by kernel_rfl)) rfl (fun _ _ h => h) (fun a hat0 => ?_)
  have hat : @At (Rho.of [(iV x0), (iV x1), (iV x2), (iV x3), (iV x4), (iV x5), (iV x6), (iV x7), (.slice al l.length ql), (iV lag)] (fun b => w0.heap[b]?) []) w0 rslides_fr0 rslides_st0 a w0 := At.shiftL (σ := [sy 0, sy 1, sy 2, sy 3, sy 4, sy 5, sy 6, sy 7, sy 8, sy 9]) (π := []) (τ := []) ⟨rfl, rfl, rfl, rfl, rfl, rfl, rfl, rfl, rfl, rfl, rfl, rfl, rfl, rfl, rfl, rfl, rfl, rfl, rfl, rfl, trivial⟩ trivial (fun _ _ h => h) rslides_wf0 rslides_a0 hat0
  clear hat0
  suffices key : ∀ w, @At (Rho.of [(iV x0), (iV x1), (iV x2), (iV x3), (iV x4), (iV x5), (iV x6), (iV x7), (.slice al l.length ql), (iV lag)] (fun b => w0.heap[b]?) []) w0 rslides_fr0 rslides_st0 a w → rslides_b0.wpIn (FF none) 0 Try.prog (bodyPostM Fence.wide 0 Try.prog Try.f36 (fun en w' => ∃ a C, en = .returned (.tuple #[.slice a (slidesL x0 x1 x2 x3 x4 x5 x6 x7 l lag).length C, iV (slErr x0 x1 x2 x3 x4 x5 x6 x7 l lag)]) ∧ NewList w0 w' 54 5 (flat srcC (slidesL x0 x1 x2 x3 x4 x5 x6 x7 l lag)) a (slidesL x0 x1 x2 x3 x4 x5 x6 x7 l lag).length C ∧ Below w0.heap.size w0 w')) a w from key w0 hat
  clear hat
  intro w hat
  let p0 : Rho := (Rho.of [(iV x0), (iV x1), (iV x2), (iV x3), (iV x4), (iV x5), (iV x6), (iV x7), (.slice al l.length ql), (iV lag)] (fun b => w0.heap[b]?) [])
  change @At p0 w0 rslides_fr0 rslides_st0 a w at hat
  refine g_seq rslides_q0 ?_
  let r0 : Rho := (Rho.of [(iV x0), (iV x1), (iV x2), (iV x3), (iV x4), (iV x5), (iV x6), (iV x7), (.slice al l.length ql), (iV lag)] (fun b => w0.heap[b]?) [])
  have hat1 : @At r0 w0 rslides_fr0 rslides_st0 a w := At.shiftL (ρ1 := p0) (ρ2 := r0) (σ := [sy 0, sy 1, sy 2, sy 3, sy 4, sy 5, sy 6, sy 7, sy 8, sy 9]) (π := []) (τ := []) ⟨rfl, rfl, rfl, rfl, rfl, rfl, rfl, rfl, rfl, rfl, rfl, rfl, rfl, rfl, rfl, rfl, rfl, rfl, rfl, rfl, trivial⟩ trivial (fun _ _ h => h) rslides_wf0 rslides_id0 hat
  let p1 : Rho := (Rho.of [(iV x0), (iV x1), (iV x2), (iV x3), (iV x4), (iV x5), (iV x6), (iV x7), (.slice al l.length ql), (iV lag)] (fun b => w0.heap[b]?) [])
  refine At.pieceL (ρ1 := r0) (ρ2 := p1) (@Env.Ok.symL r0 _ _ (@env_ok r0) [] [] [] [] trivial trivial trivial trivial) rslides_r0 ⟨rfl, rfl, rfl, rfl, rfl, rfl, rfl, rfl, rfl, rfl, rfl, rfl, rfl, rfl, rfl, rfl, rfl, rfl, rfl, rfl, trivial⟩ trivial (fun _ _ h => h) rslides_wf0 rslides_wf1 hat1 (fun a w hat => .inl ⟨rfl, ?_⟩)
  refine g_seq rslides_q1 ?_
  obtain ⟨y0, hy0⟩ : ∃ y : Int, y = (csErr (x0) (x1) (x2) (x3) (x4) (x5) (x6) (x7) l) := ⟨_, rfl⟩
  let r1 : Rho := (Rho.of [(iV x0), (iV x1), (iV x2), (iV x3), (iV x4), (iV x5), (iV x6), (iV x7), (.slice al l.length ql), (iV lag), (iV y0)] (fun b => w0.heap[b]?) [])
  have hat1 : @At r1 w0 rslides_fr1 rslides_st1 a w := At.shiftL (ρ1 := p1) (ρ2 := r1) (σ := [sy 0, sy 1, sy 2, sy 3, sy 4, sy 5, sy 6, sy 7, sy 8, sy 9]) (π := [0]) (τ := []) ⟨rfl, rfl, rfl, rfl, rfl, rfl, rfl, rfl, rfl, rfl, rfl, rfl, rfl, rfl, rfl, rfl, rfl, rfl, rfl, rfl, trivial⟩ trivial (fun _ _ h => h) rslides_wf1 rslides_id1 hat
  let p2 : Rho := (Rho.of [(iV x0), (iV x1), (iV x2), (iV x3), (iV x4), (iV x5), (iV x6), (iV x7), (.slice al l.length ql), (iV lag), (iV y0)] (fun b => w0.heap[b]?) [])
  refine At.pieceL (ρ1 := r1) (ρ2 := p2) (@Env.Ok.symL r1 _ _ (@env_ok r1) rslides_e1 rslides_c1 rslides_l1 rslides_cl1 trivial ⟨(@CEntOk.of r1 Try.prog _ 25 [(.agg #[(sy 0), (sy 1), (sy 2), (sy 3), (sy 4), (sy 5), (sy 6), (sy 7)]), (sy 8)] (sy 10) #[(.agg #[(iV x0), (iV x1), (iV x2), (iV x3), (iV x4), (iV x5), (iV x6), (iV x7)]), (.slice al l.length ql)] (iV y0) rfl ⟨Try.f25, (Try.f25.body).getD .skip, by kernel_rfl, by kernel_rfl⟩ rfl rfl rfl (fun w hm => (by rw [hy0]; exact rcheckSources_any (x0) (x1) (x2) (x3) (x4) (x5) (x6) (x7) al l ql w (Hl.keep hm) (by omega)))), trivial⟩ trivial trivial) rslides_r1 ⟨rfl, rfl, rfl, rfl, rfl, rfl, rfl, rfl, rfl, rfl, rfl, rfl, rfl, rfl, rfl, rfl, rfl, rfl, rfl, rfl, rfl, rfl, trivial⟩ trivial (fun _ _ h => h) rslides_wf1 rslides_wf2 hat1 (fun a w hat => .inl ⟨rfl, ?_⟩)
  refine g_seq rslides_q2 ?_
  by_cases c1 : y0 ≠ 0
  · let r2 : Rho := (Rho.of [(iV x0), (iV x1), (iV x2), (iV x3), (iV x4), (iV x5), (iV x6), (iV x7), (.slice al l.length ql), (iV lag), (iV y0)] (fun b => w0.heap[b]?) [])
    have hat1 : @At r2 w0 rslides_fr2 rslides_st2 a w := At.shiftL (ρ1 := p2) (ρ2 := r2) (σ := [sy 0, sy 1, sy 2, sy 3, sy 4, sy 5, sy 6, sy 7, sy 8, sy 9, sy 10]) (π := [0]) (τ := []) ⟨rfl, rfl, rfl, rfl, rfl, rfl, rfl, rfl, rfl, rfl, rfl, rfl, rfl, rfl, rfl, rfl, rfl, rfl, rfl, rfl, rfl, rfl, trivial⟩ trivial (fun _ _ h => h) rslides_wf2 rslides_id2 hat
    refine @At.retGK r2 Try.prog (env.symL rslides_e2 rslides_c2 rslides_l2 rslides_cl2) (@Env.Ok.symL r2 _ _ (@env_ok r2) rslides_e2 rslides_c2 rslides_l2 rslides_cl2 ⟨⟨rfl, rfl, fun w hm => (show KO w (.bin .neq 27) [(iV y0), (iV 0)] (.bool true) from k_neq_t c1)⟩, trivial⟩ trivial trivial trivial) w0 3000 rslides_b5 Try.f36 rslides_fr2 rslides_st2 _ _ rslides_r2 rslides_wf2 a w hat1 (@endV_ok r2 w0 (.tuple #[(.slice .none 0 0), (sy 10)]) (fun en w' => ∃ a C, en = .returned (.tuple #[.slice a (slidesL x0 x1 x2 x3 x4 x5 x6 x7 l lag).length C, iV (slErr x0 x1 x2 x3 x4 x5 x6 x7 l lag)]) ∧ NewList w0 w' 54 5 (flat srcC (slidesL x0 x1 x2 x3 x4 x5 x6 x7 l lag)) a (slidesL x0 x1 x2 x3 x4 x5 x6 x7 l lag).length C ∧ Below w0.heap.size w0 w') rfl (fun w2 hb => ?_)) _ (fun a w h => .inr ⟨(fun q => nomatch q), h⟩)
    have v0 : (y0 : Int) = slErr x0 x1 x2 x3 x4 x5 x6 x7 l lag := by
      unfold slErr
      first | (rw [if_pos (by omega)]; omega) | (rw [if_neg (by omega), if_pos (by omega)]) | (rw [if_neg (by omega), if_neg (by omega)])
    have hL : [] = slidesL x0 x1 x2 x3 x4 x5 x6 x7 l lag := by
      unfold slidesL
      first
        | (have hE : ¬ slErr x0 x1 x2 x3 x4 x5 x6 x7 l lag = 0 := by omega
           rw [if_neg hE])
        | (have hE : slErr x0 x1 x2 x3 x4 x5 x6 x7 l lag = 0 := by omega
           rw [if_pos hE, i3, show i.toNat = l.length by omega, List.take_length])
    have hN : (slidesL x0 x1 x2 x3 x4 x5 x6 x7 l lag).length = 0 := by rw [← hL]; rfl
    refine ⟨none, 0, ?_, ⟨?_, .inl ⟨rfl, hN, rfl⟩⟩, hb⟩
    · rw [hN]; exact congrArg Ending.returned (congrArg (fun (y0 : Int) => (.tuple #[.slice none 0 0, iV y0] : Value)) v0)
    · rw [← hL]; rfl
  · obtain ⟨v0m, hn3, hs⟩ := csErr_ok (x0 := x0) (x1 := x1) (x2 := x2) (x3 := x3) (x4 := x4) (x5 := x5) (x6 := x6) (x7 := x7) (l := l) (by omega)
    have v0c := v0m
    obtain ⟨v0, v1, v2, v3, v5, v7⟩ := v0c
    have hx := mul_bd (a := x0) (b := x1) (A := 24) (B := 24) (C := 576) (by omega) (by omega) (by omega) (by omega)
    let r3 : Rho := (Rho.of [(iV x0), (iV x1), (iV x2), (iV x3), (iV x4), (iV x5), (iV x6), (iV x7), (.slice al l.length ql), (iV lag), (iV y0)] (fun b => w0.heap[b]?) [])
    have hat1 : @At r3 w0 rslides_fr2 rslides_st2 a w := At.shiftL (ρ1 := p2) (ρ2 := r3) (σ := [sy 0, sy 1, sy 2, sy 3, sy 4, sy 5, sy 6, sy 7, sy 8, sy 9, sy 10]) (π := [0]) (τ := []) ⟨rfl, rfl, rfl, rfl, rfl, rfl, rfl, rfl, rfl, rfl, rfl, rfl, rfl, rfl, rfl, rfl, rfl, rfl, rfl, rfl, rfl, rfl, trivial⟩ trivial (fun _ _ h => h) rslides_wf2 rslides_id2 hat
    let p3 : Rho := (Rho.of [(iV x0), (iV x1), (iV x2), (iV x3), (iV x4), (iV x5), (iV x6), (iV x7), (.slice al l.length ql), (iV lag)] (fun b => w0.heap[b]?) [])
    refine At.pieceL (ρ1 := r3) (ρ2 := p3) (@Env.Ok.symL r3 _ _ (@env_ok r3) rslides_e3 rslides_c3 rslides_l3 rslides_cl3 ⟨⟨rfl, rfl, fun w hm => (show KO w (.bin .neq 27) [(iV y0), (iV 0)] (.bool false) from k_neq_f c1)⟩, trivial⟩ trivial trivial trivial) rslides_r3 ⟨rfl, rfl, rfl, rfl, rfl, rfl, rfl, rfl, rfl, rfl, rfl, rfl, rfl, rfl, rfl, rfl, rfl, rfl, rfl, rfl, trivial⟩ trivial (fun _ _ h => h) rslides_wf2 rslides_wf3 hat1 (fun a w hat => .inl ⟨rfl, ?_⟩)
    refine g_seq rslides_q3 ?_
    by_cases c2 : lag ≥ 0
    · by_cases c3 : lag ≤ 100000000
      · let r4 : Rho := (Rho.of [(iV x0), (iV x1), (iV x2), (iV x3), (iV x4), (iV x5), (iV x6), (iV x7), (.slice al l.length ql), (iV lag)] (fun b => w0.heap[b]?) [])
        have hat1 : @At r4 w0 rslides_fr3 rslides_st3 a w := At.shiftL (ρ1 := p3) (ρ2 := r4) (σ := [sy 0, sy 1, sy 2, sy 3, sy 4, sy 5, sy 6, sy 7, sy 8, sy 9]) (π := [0]) (τ := []) ⟨rfl, rfl, rfl, rfl, rfl, rfl, rfl, rfl, rfl, rfl, rfl, rfl, rfl, rfl, rfl, rfl, rfl, rfl, rfl, rfl, trivial⟩ trivial (fun _ _ h => h) rslides_wf3 rslides_id3 hat
        let p4 : Rho := (Rho.of [(iV x0), (iV x1), (iV x2), (iV x3), (iV x4), (iV x5), (iV x6), (iV x7), (.slice al l.length ql), (iV lag)] (fun b => w0.heap[b]?) [])
        refine At.pieceL (ρ1 := r4) (ρ2 := p4) (@Env.Ok.symL r4 _ _ (@env_ok r4) rslides_e4 rslides_c4 rslides_l4 rslides_cl4 ⟨⟨rfl, rfl, fun w hm => (show KO w (.bin .geq 3) [(iV lag), (iV 0)] (.bool true) from k_geq_t c2)⟩, ⟨rfl, rfl, fun w hm => (show KO w (.bin .leq 3) [(iV lag), (iV 100000000)] (.bool true) from k_leq_t c3)⟩, trivial⟩ trivial trivial trivial) rslides_r4 ⟨rfl, rfl, rfl, rfl, rfl, rfl, rfl, rfl, rfl, rfl, rfl, rfl, rfl, rfl, rfl, rfl, rfl, rfl, rfl, rfl, trivial⟩ trivial (fun _ _ h => h) rslides_wf3 rslides_wf4 hat1 (fun a w hat => .inl ⟨rfl, ?_⟩)
        refine g_seq rslides_q4 ?_
        let r5 : Rho := (Rho.of [(iV x0), (iV x1), (iV x2), (iV x3), (iV x4), (iV x5), (iV x6), (iV x7), (.slice al l.length ql), (iV lag)] (fun b => w0.heap[b]?) [])
        have hat1 : @At r5 w0 rslides_fr4 rslides_st4 a w := At.shiftL (ρ1 := p4) (ρ2 := r5) (σ := [sy 0, sy 1, sy 2, sy 3, sy 4, sy 5, sy 6, sy 7, sy 8, sy 9]) (π := [0]) (τ := []) ⟨rfl, rfl, rfl, rfl, rfl, rfl, rfl, rfl, rfl, rfl, rfl, rfl, rfl, rfl, rfl, rfl, rfl, rfl, rfl, rfl, trivial⟩ trivial (fun _ _ h => h) rslides_wf4 rslides_id4 hat
        let p5 : Rho := (Rho.of [(iV x0), (iV x1), (iV x2), (iV x3), (iV x4), (iV x5), (iV x6), (iV x7), (.slice al l.length ql), (iV lag)] (fun b => w0.heap[b]?) [])
        refine At.pieceL (ρ1 := r5) (ρ2 := p5) (@Env.Ok.symL r5 _ _ (@env_ok r5) [] [] [] [] trivial trivial trivial trivial) rslides_r5 ⟨rfl, rfl, rfl, rfl, rfl, rfl, rfl, rfl, rfl, rfl, rfl, rfl, rfl, rfl, rfl, rfl, rfl, rfl, rfl, rfl, trivial⟩ trivial (fun _ _ h => h) rslides_wf4 rslides_wf5 hat1 (fun a w hat => .inl ⟨rfl, ?_⟩)
        refine g_seq rslides_q5 ?_
        refine g_seq rslides_q6 ?_
        let r6 : Rho := (Rho.of [(iV x0), (iV x1), (iV x2), (iV x3), (iV x4), (iV x5), (iV x6), (iV x7), (.slice al l.length ql), (iV lag)] (fun b => w0.heap[b]?) [])
        have hat1 : @At r6 w0 rslides_fr5 rslides_st5 a w := At.shiftL (ρ1 := p5) (ρ2 := r6) (σ := [sy 0, sy 1, sy 2, sy 3, sy 4, sy 5, sy 6, sy 7, sy 8, sy 9]) (π := [0]) (τ := []) ⟨rfl, rfl, rfl, rfl, rfl, rfl, rfl, rfl, rfl, rfl, rfl, rfl, rfl, rfl, rfl, rfl, rfl, rfl, rfl, rfl, trivial⟩ trivial (fun _ _ h => h) rslides_wf5 rslides_id5 hat
        let p6 : Rho := (Rho.of [(iV x0), (iV x1), (iV x2), (iV x3), (iV x4), (iV x5), (iV x6), (iV x7), (.slice al l.length ql), (iV lag)] (fun b => w0.heap[b]?) [])
        refine At.pieceL (ρ1 := r6) (ρ2 := p6) (@Env.Ok.symL r6 _ _ (@env_ok r6) [] [] [] [] trivial trivial trivial trivial) rslides_r6 ⟨rfl, rfl, rfl, rfl, rfl, rfl, rfl, rfl, rfl, rfl, rfl, rfl, rfl, rfl, rfl, rfl, rfl, rfl, rfl, rfl, trivial⟩ trivial (fun _ _ h => h) rslides_wf5 rslides_wf6 hat1 (fun a w hat => .inl ⟨rfl, ?_⟩)
        refine g_block rslides_q7 ?_
        have hat0 := At.shiftL (ρ1 := p6) (ρ2 := (Rho.of [(iV x0), (iV x1), (iV x2), (iV x3), (iV x4), (iV x5), (iV x6), (iV x7), (.slice al l.length ql), (iV lag), (iV (((([] : List Src).length : Nat) : Int))), (iV ((0 : Int)))] (fun b => w0.heap[b]?) [(flat srcC ([] : List Src))])) (σ := [(sy 0), (sy 1), (sy 2), (sy 3), (sy 4), (sy 5), (sy 6), (sy 7), (sy 8), (sy 9), (iV 0), (iV 0)]) (π := [0, 1]) (τ := [none]) ⟨rfl, rfl, rfl, rfl, rfl, rfl, rfl, rfl, rfl, rfl, rfl, rfl, rfl, rfl, rfl, rfl, rfl, rfl, rfl, rfl, rfl, rfl, rfl, rfl, trivial⟩ ⟨rfl, trivial⟩ (fun _ _ h => h) rslides_wf7 rslides_h9 hat
        clear hat
        refine g_loop (fun (x : List Src × Int) a w => (0 ≤ (x.2 : Int) ∧ (x.2 : Int) ≤ l.length ∧ ((x.1 : List Src).length : Int) ≤ (x.2 : Int) ∧ (x.1 : List Src) = (l.take (x.2 : Int).toNat).filterMap (slideF x0 x1 x2 x3 x4 x5 x6 x7 l lag)) ∧ @At (Rho.of [(iV x0), (iV x1), (iV x2), (iV x3), (iV x4), (iV x5), (iV x6), (iV x7), (.slice al l.length ql), (iV lag), (iV ((((x.1 : List Src).length : Nat) : Int))), (iV ((x.2 : Int)))] (fun b => w0.heap[b]?) [(flat srcC (x.1 : List Src))]) w0 rslides_fr7 rslides_st7 a w) (fun x => (l.length - (x.2 : Int)).toNat) rslides_q8 ?_ ([], 0) ⟨?_, hat0⟩
        · clear hat0
          rintro ⟨out, i⟩ a w ⟨hinv, hat⟩
          change 0 ≤ i ∧ i ≤ l.length ∧ (out.length : Int) ≤ i ∧ out = (l.take i.toNat).filterMap (slideF x0 x1 x2 x3 x4 x5 x6 x7 l lag) at hinv
          let p7 : Rho := (Rho.of [(iV x0), (iV x1), (iV x2), (iV x3), (iV x4), (iV x5), (iV x6), (iV x7), (.slice al l.length ql), (iV lag), (iV (((out.length : Nat) : Int))), (iV i)] (fun b => w0.heap[b]?) [(flat srcC out)])
          change @At p7 w0 rslides_fr7 rslides_st7 a w at hat
          obtain ⟨i0, i1, i2, i3⟩ := hinv
          refine g_seq rslides_q10 ?_
          by_cases c4 : i < ((l.length : Nat) : Int)
          · let r7 : Rho := (Rho.of [(iV x0), (iV x1), (iV x2), (iV x3), (iV x4), (iV x5), (iV x6), (iV x7), (.slice al l.length ql), (iV lag), (iV (((out.length : Nat) : Int))), (iV i), (iV (((l.length : Nat) : Int)))] (fun b => w0.heap[b]?) [(flat srcC out)])
            have hat1 : @At r7 w0 rslides_fr7 rslides_st7 a w := At.shiftL (ρ1 := p7) (ρ2 := r7) (σ := [sy 0, sy 1, sy 2, sy 3, sy 4, sy 5, sy 6, sy 7, sy 8, sy 9, sy 10, sy 11]) (π := [0, 1]) (τ := [some 0]) ⟨rfl, rfl, rfl, rfl, rfl, rfl, rfl, rfl, rfl, rfl, rfl, rfl, rfl, rfl, rfl, rfl, rfl, rfl, rfl, rfl, rfl, rfl, rfl, rfl, trivial⟩ ⟨rfl, trivial⟩ (fun _ _ h => h) rslides_wf7 rslides_id7 hat
            let p8 : Rho := (Rho.of [(iV x0), (iV x1), (iV x2), (iV x3), (iV x4), (iV x5), (iV x6), (iV x7), (.slice al l.length ql), (iV lag), (iV (((out.length : Nat) : Int))), (iV i), (iV (((l.length : Nat) : Int)))] (fun b => w0.heap[b]?) [(flat srcC out)])
            refine At.pieceL (ρ1 := r7) (ρ2 := p8) (@Env.Ok.symL r7 _ _ (@env_ok r7) rslides_e7 rslides_c7 rslides_l7 rslides_cl7 ⟨⟨rfl, rfl, fun w hm => (show KO w (.bi 0 [38]) [(.slice al l.length ql)] (iV (((l.length : Nat) : Int))) from k_len Try.underlying38)⟩, ⟨rfl, rfl, fun w hm => (show KO w (.bin .lss 3) [(iV i), (iV (((l.length : Nat) : Int)))] (.bool true) from k_lss_t c4)⟩, trivial⟩ trivial trivial trivial) rslides_r7 ⟨rfl, rfl, rfl, rfl, rfl, rfl, rfl, rfl, rfl, rfl, rfl, rfl, rfl, rfl, rfl, rfl, rfl, rfl, rfl, rfl, rfl, rfl, rfl, rfl, rfl, rfl, trivial⟩ ⟨rfl, trivial⟩ (fun _ _ h => h) rslides_wf7 rslides_wf8 hat1 (fun a w hat => .inl ⟨rfl, ?_⟩)
            refine g_seq rslides_q11 ?_
            refine g_block rslides_q12 ?_
            refine g_seq rslides_q13 ?_
            obtain ⟨z5, hz5⟩ : ∃ z : Src, z = l.getD (i).toNat srcD := ⟨_, rfl⟩
            have ez5 := srcErr_ok (hs (i).toNat (by omega))
            rw [← hz5] at ez5
            let r8 : Rho := (Rho.of [(iV x0), (iV x1), (iV x2), (iV x3), (iV x4), (iV x5), (iV x6), (iV x7), (.slice al l.length ql), (iV lag), (iV (((out.length : Nat) : Int))), (iV i), (iV (((l.length : Nat) : Int))), (.pointer (ptrO al ((i).toNat * 5))), (iV z5.kind), (iV z5.cell), (iV z5.cls), (iV z5.lo), (iV z5.hi)] (fun b => w0.heap[b]?) [(flat srcC out)])
            have hat1 : @At r8 w0 rslides_fr8 rslides_st8 a w := At.shiftL (ρ1 := p8) (ρ2 := r8) (σ := [sy 0, sy 1, sy 2, sy 3, sy 4, sy 5, sy 6, sy 7, sy 8, sy 9, sy 10, sy 11, sy 12]) (π := [0, 1]) (τ := [some 0]) ⟨rfl, rfl, rfl, rfl, rfl, rfl, rfl, rfl, rfl, rfl, rfl, rfl, rfl, rfl, rfl, rfl, rfl, rfl, rfl, rfl, rfl, rfl, rfl, rfl, rfl, rfl, trivial⟩ ⟨rfl, trivial⟩ (fun _ _ h => h) rslides_wf8 rslides_id8 hat
            let p9 : Rho := (Rho.of [(iV x0), (iV x1), (iV x2), (iV x3), (iV x4), (iV x5), (iV x6), (iV x7), (.slice al l.length ql), (iV lag), (iV (((out.length : Nat) : Int))), (iV i), (iV (((l.length : Nat) : Int))), (.pointer (ptrO al ((i).toNat * 5))), (iV z5.kind), (iV z5.cell), (iV z5.cls), (iV z5.lo), (iV z5.hi)] (fun b => w0.heap[b]?) [(flat srcC out)])
            refine At.pieceL (ρ1 := r8) (ρ2 := p9) (@Env.Ok.symL r8 _ _ (@env_ok r8) rslides_e8 rslides_c8 rslides_l8 rslides_cl8 ⟨⟨rfl, rfl, fun w hm => (show KO w (.indexAddr 38) [(.slice al l.length ql), (iV i)] (.pointer (ptrO al ((i).toNat * 5))) from l_index (Hl.keep hm) Try.underlying38 (by kernel_rfl) (by omega) (by omega))⟩, ⟨rfl, rfl, fun w hm => (show KO w (.load 54) [(.pointer (ptrO al ((i).toNat * 5)))] (.agg #[(iV z5.kind), (iV z5.cell), (iV z5.cls), (iV z5.lo), (iV z5.hi)]) from l_loadS (Hl.keep hm) (by omega) Try.underlying54 rfl (l := [(iV z5.kind), (iV z5.cell), (iV z5.cls), (iV z5.lo), (iV z5.hi)]) (by kernel_rfl) (flat_getz (c := srcC) (sz := 5) (fun _ => rfl) hz5 (by omega)))⟩, trivial⟩ trivial trivial trivial) rslides_r8 ⟨rfl, rfl, rfl, rfl, rfl, rfl, rfl, rfl, rfl, rfl, rfl, rfl, rfl, rfl, rfl, rfl, rfl, rfl, rfl, rfl, rfl, rfl, rfl, rfl, rfl, rfl, rfl, rfl, rfl, rfl, rfl, rfl, rfl, rfl, rfl, rfl, rfl, rfl, trivial⟩ ⟨rfl, trivial⟩ (fun _ _ h => h) rslides_wf8 rslides_wf9 hat1 (fun a w hat => .inl ⟨rfl, ?_⟩)
            refine g_seq rslides_q14 ?_
            by_cases c6 : z5.kind ≠ 2
            · let r9 : Rho := (Rho.of [(iV x0), (iV x1), (iV x2), (iV x3), (iV x4), (iV x5), (iV x6), (iV x7), (.slice al l.length ql), (iV lag), (iV (((out.length : Nat) : Int))), (iV i), (iV (((l.length : Nat) : Int))), (.pointer (ptrO al ((i).toNat * 5))), (iV z5.kind), (iV z5.cell), (iV z5.cls), (iV z5.lo), (iV z5.hi), (iV (((out.length + 1 : Nat) : Int)))] (fun b => w0.heap[b]?) [(flat srcC out), ((flat srcC out) ++ [(iV z5.kind), (iV z5.cell), (iV z5.cls), (iV z5.lo), (iV z5.hi)])])
              have hat1 : @At r9 w0 rslides_fr9 rslides_st9 a w := At.shiftL (ρ1 := p9) (ρ2 := r9) (σ := [sy 0, sy 1, sy 2, sy 3, sy 4, sy 5, sy 6, sy 7, sy 8, sy 9, sy 10, sy 11, sy 12, sy 13, sy 14, sy 15, sy 16, sy 17, sy 18]) (π := [0, 1, 2]) (τ := [some 0]) ⟨rfl, rfl, rfl, rfl, rfl, rfl, rfl, rfl, rfl, rfl, rfl, rfl, rfl, rfl, rfl, rfl, rfl, rfl, rfl, rfl, rfl, rfl, rfl, rfl, rfl, rfl, rfl, rfl, rfl, rfl, rfl, rfl, rfl, rfl, rfl, rfl, rfl, rfl, trivial⟩ ⟨rfl, trivial⟩ (fun _ _ h => h) rslides_wf9 rslides_id9 hat
              let p10 : Rho := (Rho.of [(iV x0), (iV x1), (iV x2), (iV x3), (iV x4), (iV x5), (iV x6), (iV x7), (.slice al l.length ql), (iV lag), (iV (((out.length : Nat) : Int))), (iV i), (iV (((l.length : Nat) : Int))), (.pointer (ptrO al ((i).toNat * 5))), (iV z5.kind), (iV z5.cell), (iV z5.cls), (iV z5.lo), (iV z5.hi), (iV (((out.length + 1 : Nat) : Int)))] (fun b => w0.heap[b]?) [(flat srcC out), ((flat srcC out) ++ [(iV z5.kind), (iV z5.cell), (iV z5.cls), (iV z5.lo), (iV z5.hi)])])
              refine At.pieceL (ρ1 := r9) (ρ2 := p10) (@Env.Ok.symL r9 _ _ (@env_ok r9) rslides_e9 rslides_c9 rslides_l9 rslides_cl9 ⟨⟨rfl, rfl, fun w hm => (show KO w (.bin .neq 3) [(iV z5.kind), (iV 2)] (.bool true) from k_neq_t c6)⟩, trivial⟩ trivial ⟨⟨rfl, rfl, out.length, rfl, rfl, (by show ((flat srcC out) : List Value).length = (out.length) * 5; first | exact flat_len (fun _ => rfl) _ | simp [flat_len (c := srcC) (sz := 5) (fun _ => rfl), srcC] <;> omega), rfl, (by omega)⟩, trivial⟩ trivial) rslides_r9 ⟨rfl, rfl, rfl, rfl, rfl, rfl, rfl, rfl, rfl, rfl, rfl, rfl, rfl, rfl, rfl, rfl, rfl, rfl, rfl, rfl, rfl, rfl, rfl, rfl, rfl, rfl, rfl, rfl, rfl, rfl, rfl, rfl, rfl, rfl, rfl, rfl, rfl, rfl, rfl, rfl, trivial⟩ ⟨rfl, rfl, trivial⟩ (fun _ _ h => h) rslides_wf9 rslides_wf10 hat1 (fun a w hat => .inr ⟨(fun q => nomatch q), .inl ⟨rfl, .inl ⟨rfl, ?_⟩⟩⟩)
              let r10 : Rho := (Rho.of [(iV x0), (iV x1), (iV x2), (iV x3), (iV x4), (iV x5), (iV x6), (iV x7), (.slice al l.length ql), (iV lag), (iV (((out.length : Nat) : Int))), (iV i), (iV (((l.length : Nat) : Int))), (.pointer (ptrO al ((i).toNat * 5))), (iV z5.kind), (iV z5.cell), (iV z5.cls), (iV z5.lo), (iV z5.hi), (iV (((out.length + 1 : Nat) : Int))), (iV ((i + 1)))] (fun b => w0.heap[b]?) [(flat srcC out), ((flat srcC out) ++ [(iV z5.kind), (iV z5.cell), (iV z5.cls), (iV z5.lo), (iV z5.hi)])])
              have hat1 : @At r10 w0 rslides_fr10 rslides_st10 a w := At.shiftL (ρ1 := p10) (ρ2 := r10) (σ := [sy 0, sy 1, sy 2, sy 3, sy 4, sy 5, sy 6, sy 7, sy 8, sy 9, sy 10, sy 11, sy 12, sy 13, sy 14, sy 15, sy 16, sy 17, sy 18, sy 19]) (π := [0, 1, 2, 3]) (τ := [some 0, some 1]) ⟨rfl, rfl, rfl, rfl, rfl, rfl, rfl, rfl, rfl, rfl, rfl, rfl, rfl, rfl, rfl, rfl, rfl, rfl, rfl, rfl, rfl, rfl, rfl, rfl, rfl, rfl, rfl, rfl, rfl, rfl, rfl, rfl, rfl, rfl, rfl, rfl, rfl, rfl, rfl, rfl, trivial⟩ ⟨rfl, rfl, trivial⟩ (fun _ _ h => h) rslides_wf10 rslides_id10 hat
              refine At.pieceL (ρ1 := r10) (ρ2 := (Rho.of [(iV x0), (iV x1), (iV x2), (iV x3), (iV x4), (iV x5), (iV x6), (iV x7), (.slice al l.length ql), (iV lag), (iV (((((out ++ [(⟨z5.kind, z5.cell, z5.cls, z5.lo, z5.hi⟩ : Src)]) : List Src).length : Nat) : Int))), (iV (((i + 1) : Int)))] (fun b => w0.heap[b]?) [(flat srcC ((out ++ [(⟨z5.kind, z5.cell, z5.cls, z5.lo, z5.hi⟩ : Src)]) : List Src))])) (@Env.Ok.symL r10 _ _ (@env_ok r10) rslides_e10 rslides_c10 rslides_l10 rslides_cl10 ⟨⟨rfl, rfl, fun w hm => (show KO w (.bin .add 3) [(iV i), (iV 1)] (iV ((i + 1))) from k_add (wrap64 (by omega)))⟩, trivial⟩ trivial trivial trivial) rslides_r10 ⟨rfl, rfl, rfl, rfl, rfl, rfl, rfl, rfl, rfl, rfl, rfl, rfl, rfl, rfl, rfl, rfl, rfl, rfl, rfl, rfl, rfl, (by show (Value.int .i64 _) = Value.int .i64 _; simp), rfl, rfl, trivial⟩ ⟨(by show (flat srcC (out ++ [(⟨z5.kind, z5.cell, z5.cls, z5.lo, z5.hi⟩ : Src)]) : List Value) = ((flat srcC out) ++ [(iV z5.kind), (iV z5.cell), (iV z5.cls), (iV z5.lo), (iV z5.hi)]); simp [flat_snoc, srcC]), trivial⟩ (fun _ _ h => h) rslides_wf10 rslides_wf7 hat1 (fun a w hat => .inl ⟨rfl, ⟨((out ++ [(⟨z5.kind, z5.cell, z5.cls, z5.lo, z5.hi⟩ : Src)]), (i + 1)), ?_, ?_, hat⟩⟩)
              · show (l.length - ((i + 1) : Int)).toNat < (l.length - i).toNat
                omega
              · show 0 ≤ ((i + 1) : Int) ∧ ((i + 1) : Int) ≤ l.length ∧ (((out ++ [(⟨z5.kind, z5.cell, z5.cls, z5.lo, z5.hi⟩ : Src)]) : List Src).length : Int) ≤ ((i + 1) : Int) ∧ ((out ++ [(⟨z5.kind, z5.cell, z5.cls, z5.lo, z5.hi⟩ : Src)]) : List Src) = (l.take ((i + 1) : Int).toNat).filterMap (slideF x0 x1 x2 x3 x4 x5 x6 x7 l lag)
                have e1 : (i + 1).toNat = i.toNat + 1 := by omega
                refine ⟨by omega, by omega, by first | (simp; omega) | omega, ?_⟩
                rw [e1]
                have hF : slideF x0 x1 x2 x3 x4 x5 x6 x7 l lag z5 = some (⟨z5.kind, z5.cell, z5.cls, z5.lo, z5.hi⟩ : Src) := by
                  first
                  | (have hk : ¬ z5.kind = 2 := by omega
                     unfold slideF slideOne
                     simp only [if_neg hk]
                     rw [if_pos (by omega)])
                  | (have hO : offZ x0 x1 x2 x3 x4 x5 x6 x7 z5.cell lag l = (lo, hi) := (by have h := j4 rfl; rw [show k.toNat = l.length by omega, List.take_length] at h; rw [hz5]; exact h)
                     have hk : z5.kind = 2 := by omega
                     unfold slideF slideOne
                     simp only [if_pos hk, hO]
                     rw [if_pos (by omega)])
                  | (have hO : offZ x0 x1 x2 x3 x4 x5 x6 x7 z5.cell lag l = (1099511627776, 0) := (by have h := j5 rfl; rw [show k.toNat = l.length by omega, List.take_length] at h; rw [hz5]; exact h)
                     have hk : z5.kind = 2 := by omega
                     unfold slideF slideOne
                     simp only [if_pos hk, hO]
                     rw [if_pos (by omega)])
                rw [filterMap_some (slideF x0 x1 x2 x3 x4 x5 x6 x7 l lag) srcD (i := i.toNat) (y := (⟨z5.kind, z5.cell, z5.cls, z5.lo, z5.hi⟩ : Src)) (by omega) (by rw [← hz5]; exact hF), ← i3]
            · let r11 : Rho := (Rho.of [(iV x0), (iV x1), (iV x2), (iV x3), (iV x4), (iV x5), (iV x6), (iV x7), (.slice al l.length ql), (iV lag), (iV (((out.length : Nat) : Int))), (iV i), (iV (((l.length : Nat) : Int))), (.pointer (ptrO al ((i).toNat * 5))), (iV z5.kind), (iV z5.cell), (iV z5.cls), (iV z5.lo), (iV z5.hi)] (fun b => w0.heap[b]?) [(flat srcC out)])
              have hat1 : @At r11 w0 rslides_fr9 rslides_st9 a w := At.shiftL (ρ1 := p9) (ρ2 := r11) (σ := [sy 0, sy 1, sy 2, sy 3, sy 4, sy 5, sy 6, sy 7, sy 8, sy 9, sy 10, sy 11, sy 12, sy 13, sy 14, sy 15, sy 16, sy 17, sy 18]) (π := [0, 1, 2]) (τ := [some 0]) ⟨rfl, rfl, rfl, rfl, rfl, rfl, rfl, rfl, rfl, rfl, rfl, rfl, rfl, rfl, rfl, rfl, rfl, rfl, rfl, rfl, rfl, rfl, rfl, rfl, rfl, rfl, rfl, rfl, rfl, rfl, rfl, rfl, rfl, rfl, rfl, rfl, rfl, rfl, trivial⟩ ⟨rfl, trivial⟩ (fun _ _ h => h) rslides_wf9 rslides_id9 hat
              let p11 : Rho := (Rho.of [(iV x0), (iV x1), (iV x2), (iV x3), (iV x4), (iV x5), (iV x6), (iV x7), (.slice al l.length ql), (iV lag), (iV (((out.length : Nat) : Int))), (iV i), (iV (((l.length : Nat) : Int))), (.pointer (ptrO al ((i).toNat * 5))), (iV z5.kind), (iV z5.cell), (iV z5.cls), (iV z5.lo), (iV z5.hi)] (fun b => w0.heap[b]?) [(flat srcC out)])
              refine At.pieceL (ρ1 := r11) (ρ2 := p11) (@Env.Ok.symL r11 _ _ (@env_ok r11) rslides_e11 rslides_c11 rslides_l11 rslides_cl11 ⟨⟨rfl, rfl, fun w hm => (show KO w (.bin .neq 3) [(iV z5.kind), (iV 2)] (.bool false) from k_neq_f c6)⟩, trivial⟩ trivial trivial trivial) rslides_r11 ⟨rfl, rfl, rfl, rfl, rfl, rfl, rfl, rfl, rfl, rfl, rfl, rfl, rfl, rfl, rfl, rfl, rfl, rfl, rfl, rfl, rfl, rfl, rfl, rfl, rfl, rfl, rfl, rfl, rfl, rfl, rfl, rfl, rfl, rfl, rfl, rfl, rfl, rfl, trivial⟩ ⟨rfl, trivial⟩ (fun _ _ h => h) rslides_wf9 rslides_wf11 hat1 (fun a w hat => .inl ⟨rfl, ?_⟩)
              refine g_seq rslides_q15 ?_
              let r12 : Rho := (Rho.of [(iV x0), (iV x1), (iV x2), (iV x3), (iV x4), (iV x5), (iV x6), (iV x7), (.slice al l.length ql), (iV lag), (iV (((out.length : Nat) : Int))), (iV i), (iV (((l.length : Nat) : Int))), (.pointer (ptrO al ((i).toNat * 5))), (iV z5.kind), (iV z5.cell), (iV z5.cls), (iV z5.lo), (iV z5.hi)] (fun b => w0.heap[b]?) [(flat srcC out)])
              have hat1 : @At r12 w0 rslides_fr11 rslides_st11 a w := At.shiftL (ρ1 := p11) (ρ2 := r12) (σ := [sy 0, sy 1, sy 2, sy 3, sy 4, sy 5, sy 6, sy 7, sy 8, sy 9, sy 10, sy 11, sy 12, sy 13, sy 14, sy 15, sy 16, sy 17, sy 18]) (π := [0, 1, 2]) (τ := [some 0]) ⟨rfl, rfl, rfl, rfl, rfl, rfl, rfl, rfl, rfl, rfl, rfl, rfl, rfl, rfl, rfl, rfl, rfl, rfl, rfl, rfl, rfl, rfl, rfl, rfl, rfl, rfl, rfl, rfl, rfl, rfl, rfl, rfl, rfl, rfl, rfl, rfl, rfl, rfl, trivial⟩ ⟨rfl, trivial⟩ (fun _ _ h => h) rslides_wf11 rslides_id11 hat
              let p12 : Rho := (Rho.of [(iV x0), (iV x1), (iV x2), (iV x3), (iV x4), (iV x5), (iV x6), (iV x7), (.slice al l.length ql), (iV lag), (iV (((out.length : Nat) : Int))), (iV i), (iV (((l.length : Nat) : Int))), (.pointer (ptrO al ((i).toNat * 5))), (iV z5.kind), (iV z5.cell), (iV z5.cls), (iV z5.lo), (iV z5.hi)] (fun b => w0.heap[b]?) [(flat srcC out)])
              refine At.pieceL (ρ1 := r12) (ρ2 := p12) (@Env.Ok.symL r12 _ _ (@env_ok r12) [] [] [] [] trivial trivial trivial trivial) rslides_r12 ⟨rfl, rfl, rfl, rfl, rfl, rfl, rfl, rfl, rfl, rfl, rfl, rfl, rfl, rfl, rfl, rfl, rfl, rfl, rfl, rfl, rfl, rfl, rfl, rfl, rfl, rfl, rfl, rfl, rfl, rfl, rfl, rfl, rfl, rfl, rfl, rfl, rfl, rfl, trivial⟩ ⟨rfl, trivial⟩ (fun _ _ h => h) rslides_wf11 rslides_wf12 hat1 (fun a w hat => .inl ⟨rfl, ?_⟩)
              refine g_seq rslides_q16 ?_
              refine g_seq rslides_q17 ?_
              let r13 : Rho := (Rho.of [(iV x0), (iV x1), (iV x2), (iV x3), (iV x4), (iV x5), (iV x6), (iV x7), (.slice al l.length ql), (iV lag), (iV (((out.length : Nat) : Int))), (iV i), (iV (((l.length : Nat) : Int))), (.pointer (ptrO al ((i).toNat * 5))), (iV z5.kind), (iV z5.cell), (iV z5.cls), (iV z5.lo), (iV z5.hi)] (fun b => w0.heap[b]?) [(flat srcC out)])
              have hat1 : @At r13 w0 rslides_fr12 rslides_st12 a w := At.shiftL (ρ1 := p12) (ρ2 := r13) (σ := [sy 0, sy 1, sy 2, sy 3, sy 4, sy 5, sy 6, sy 7, sy 8, sy 9, sy 10, sy 11, sy 12, sy 13, sy 14, sy 15, sy 16, sy 17, sy 18]) (π := [0, 1, 2]) (τ := [some 0]) ⟨rfl, rfl, rfl, rfl, rfl, rfl, rfl, rfl, rfl, rfl, rfl, rfl, rfl, rfl, rfl, rfl, rfl, rfl, rfl, rfl, rfl, rfl, rfl, rfl, rfl, rfl, rfl, rfl, rfl, rfl, rfl, rfl, rfl, rfl, rfl, rfl, rfl, rfl, trivial⟩ ⟨rfl, trivial⟩ (fun _ _ h => h) rslides_wf12 rslides_id12 hat
              let p13 : Rho := (Rho.of [(iV x0), (iV x1), (iV x2), (iV x3), (iV x4), (iV x5), (iV x6), (iV x7), (.slice al l.length ql), (iV lag), (iV (((out.length : Nat) : Int))), (iV i), (iV (((l.length : Nat) : Int))), (.pointer (ptrO al ((i).toNat * 5))), (iV z5.kind), (iV z5.cell), (iV z5.cls), (iV z5.lo), (iV z5.hi)] (fun b => w0.heap[b]?) [(flat srcC out)])
              refine At.pieceL (ρ1 := r13) (ρ2 := p13) (@Env.Ok.symL r13 _ _ (@env_ok r13) [] [] [] [] trivial trivial trivial trivial) rslides_r13 ⟨rfl, rfl, rfl, rfl, rfl, rfl, rfl, rfl, rfl, rfl, rfl, rfl, rfl, rfl, rfl, rfl, rfl, rfl, rfl, rfl, rfl, rfl, rfl, rfl, rfl, rfl, rfl, rfl, rfl, rfl, rfl, rfl, rfl, rfl, rfl, rfl, rfl, rfl, trivial⟩ ⟨rfl, trivial⟩ (fun _ _ h => h) rslides_wf12 rslides_wf13 hat1 (fun a w hat => .inl ⟨rfl, ?_⟩)
              refine g_block rslides_q18 ?_
              have hat0 := At.shiftL (ρ1 := p13) (ρ2 := (Rho.of [(iV x0), (iV x1), (iV x2), (iV x3), (iV x4), (iV x5), (iV x6), (iV x7), (.slice al l.length ql), (iV lag), (iV (((out.length : Nat) : Int))), (iV i), (iV (((l.length : Nat) : Int))), (.pointer (ptrO al ((i).toNat * 5))), (iV z5.kind), (iV z5.cell), (iV z5.cls), (iV z5.lo), (iV z5.hi), (iV ((0 : Int))), (iV ((0 : Int))), (iV ((0 : Int)))] (fun b => w0.heap[b]?) [(flat srcC out)])) (σ := [(sy 0), (sy 1), (sy 2), (sy 3), (sy 4), (sy 5), (sy 6), (sy 7), (sy 8), (sy 9), (sy 10), (sy 11), (sy 12), (sy 13), (sy 14), (sy 15), (sy 16), (sy 17), (sy 18), (iV 0), (iV 0), (iV 0)]) (π := [0, 1, 2]) (τ := [some 0]) ⟨rfl, rfl, rfl, rfl, rfl, rfl, rfl, rfl, rfl, rfl, rfl, rfl, rfl, rfl, rfl, rfl, rfl, rfl, rfl, rfl, rfl, rfl, rfl, rfl, rfl, rfl, rfl, rfl, rfl, rfl, rfl, rfl, rfl, rfl, rfl, rfl, rfl, rfl, rfl, rfl, rfl, rfl, rfl, rfl, trivial⟩ ⟨rfl, trivial⟩ (fun _ _ h => h) rslides_wf14 rslides_h20 hat
              clear hat
              refine g_loop (fun (x : Int × Int × Int × Bool) a w => (0 ≤ (x.1 : Int) ∧ (x.1 : Int) ≤ l.length ∧ (0 ≤ (x.2.1 : Int) ∧ (x.2.1 : Int) ≤ 4000000000) ∧ (0 ≤ (x.2.2.1 : Int) ∧ (x.2.2.1 : Int) ≤ 4000000000) ∧ ((x.2.2.2 : Bool) = true → offZ x0 x1 x2 x3 x4 x5 x6 x7 (l.getD i.toNat srcD).cell lag (l.take (x.1 : Int).toNat) = ((x.2.1 : Int), (x.2.2.1 : Int))) ∧ ((x.2.2.2 : Bool) = false → offZ x0 x1 x2 x3 x4 x5 x6 x7 (l.getD i.toNat srcD).cell lag (l.take (x.1 : Int).toNat) = (1099511627776, 0))) ∧ @At (Rho.of [(iV x0), (iV x1), (iV x2), (iV x3), (iV x4), (iV x5), (iV x6), (iV x7), (.slice al l.length ql), (iV lag), (iV (((out.length : Nat) : Int))), (iV i), (iV (((l.length : Nat) : Int))), (.pointer (ptrO al ((i).toNat * 5))), (iV z5.kind), (iV z5.cell), (iV z5.cls), (iV z5.lo), (iV z5.hi), (iV ((x.1 : Int))), (iV ((x.2.1 : Int))), (iV ((x.2.2.1 : Int)))] (fun b => w0.heap[b]?) [(flat srcC out)]) w0 (cond (x.2.2.2) rslides_fr15 rslides_fr14) rslides_st14 a w) (fun x => (l.length - (x.1 : Int)).toNat) rslides_q19 ?_ (0, 0, 0, false) ⟨?_, hat0⟩
              · clear hat0
                rintro ⟨k, lo, hi, is⟩ a w ⟨hinv, hat⟩
                cases is
                · change 0 ≤ (k : Int) ∧ (k : Int) ≤ l.length ∧ (0 ≤ (lo : Int) ∧ (lo : Int) ≤ 4000000000) ∧ (0 ≤ (hi : Int) ∧ (hi : Int) ≤ 4000000000) ∧ ((false : Bool) = true → offZ x0 x1 x2 x3 x4 x5 x6 x7 (l.getD i.toNat srcD).cell lag (l.take (k : Int).toNat) = ((lo : Int), (hi : Int))) ∧ ((false : Bool) = false → offZ x0 x1 x2 x3 x4 x5 x6 x7 (l.getD i.toNat srcD).cell lag (l.take (k : Int).toNat) = (1099511627776, 0)) at hinv
                  let p14 : Rho := (Rho.of [(iV x0), (iV x1), (iV x2), (iV x3), (iV x4), (iV x5), (iV x6), (iV x7), (.slice al l.length ql), (iV lag), (iV (((out.length : Nat) : Int))), (iV i), (iV (((l.length : Nat) : Int))), (.pointer (ptrO al ((i).toNat * 5))), (iV z5.kind), (iV z5.cell), (iV z5.cls), (iV z5.lo), (iV z5.hi), (iV k), (iV lo), (iV hi)] (fun b => w0.heap[b]?) [(flat srcC out)])
                  change @At p14 w0 rslides_fr14 rslides_st14 a w at hat
                  obtain ⟨j0, j1, j2, j3, j4, j5⟩ := hinv
                  by_cases c7 : k < ((l.length : Nat) : Int)
                  · obtain ⟨z8, hz8⟩ : ∃ z : Src, z = l.getD (k).toNat srcD := ⟨_, rfl⟩
                    have ez8 := srcErr_ok (hs (k).toNat (by omega))
                    rw [← hz8] at ez8
                    by_cases c9 : z8.kind ≠ 1
                    · let r14 : Rho := (Rho.of [(iV x0), (iV x1), (iV x2), (iV x3), (iV x4), (iV x5), (iV x6), (iV x7), (.slice al l.length ql), (iV lag), (iV (((out.length : Nat) : Int))), (iV i), (iV (((l.length : Nat) : Int))), (.pointer (ptrO al ((i).toNat * 5))), (iV z5.kind), (iV z5.cell), (iV z5.cls), (iV z5.lo), (iV z5.hi), (iV k), (iV lo), (iV hi), (iV (((l.length : Nat) : Int))), (.pointer (ptrO al ((k).toNat * 5))), (.pointer (ptrO al ((k).toNat * 5 + 0))), (iV z8.kind), (iV ((k + 1)))] (fun b => w0.heap[b]?) [(flat srcC out)])
                      have hat1 : @At r14 w0 rslides_fr14 rslides_st14 a w := At.shiftL (ρ1 := p14) (ρ2 := r14) (σ := [sy 0, sy 1, sy 2, sy 3, sy 4, sy 5, sy 6, sy 7, sy 8, sy 9, sy 10, sy 11, sy 12, sy 13, sy 14, sy 15, sy 16, sy 17, sy 18, sy 19, sy 20, sy 21]) (π := [0, 1, 2]) (τ := [some 0]) ⟨rfl, rfl, rfl, rfl, rfl, rfl, rfl, rfl, rfl, rfl, rfl, rfl, rfl, rfl, rfl, rfl, rfl, rfl, rfl, rfl, rfl, rfl, rfl, rfl, rfl, rfl, rfl, rfl, rfl, rfl, rfl, rfl, rfl, rfl, rfl, rfl, rfl, rfl, rfl, rfl, rfl, rfl, rfl, rfl, trivial⟩ ⟨rfl, trivial⟩ (fun _ _ h => h) rslides_wf14 rslides_id14 hat
                      refine At.pieceL (ρ1 := r14) (ρ2 := (Rho.of [(iV x0), (iV x1), (iV x2), (iV x3), (iV x4), (iV x5), (iV x6), (iV x7), (.slice al l.length ql), (iV lag), (iV (((out.length : Nat) : Int))), (iV i), (iV (((l.length : Nat) : Int))), (.pointer (ptrO al ((i).toNat * 5))), (iV z5.kind), (iV z5.cell), (iV z5.cls), (iV z5.lo), (iV z5.hi), (iV (((k + 1) : Int))), (iV ((lo : Int))), (iV ((hi : Int)))] (fun b => w0.heap[b]?) [(flat srcC out)])) (@Env.Ok.symL r14 _ _ (@env_ok r14) rslides_e14 rslides_c14 rslides_l14 rslides_cl14 ⟨⟨rfl, rfl, fun w hm => (show KO w (.bi 0 [38]) [(.slice al l.length ql)] (iV (((l.length : Nat) : Int))) from k_len Try.underlying38)⟩, ⟨rfl, rfl, fun w hm => (show KO w (.bin .lss 3) [(iV k), (iV (((l.length : Nat) : Int)))] (.bool true) from k_lss_t c7)⟩, ⟨rfl, rfl, fun w hm => (show KO w (.indexAddr 38) [(.slice al l.length ql), (iV k)] (.pointer (ptrO al ((k).toNat * 5))) from l_index (Hl.keep hm) Try.underlying38 (by kernel_rfl) (by omega) (by omega))⟩, ⟨rfl, rfl, fun w hm => (show KO w (.fieldAddr 54 0) [(.pointer (ptrO al ((k).toNat * 5)))] (.pointer (ptrO al ((k).toNat * 5 + 0))) from l_fieldo (sz := 1) 0 0 (Hl.keep hm) (by omega) Try.underlying54 rfl rfl (by kernel_rfl) (by decide))⟩, ⟨rfl, rfl, fun w hm => (show KO w (.load 3) [(.pointer (ptrO al ((k).toNat * 5 + 0)))] (iV z8.kind) from l_load (Hl.keep hm) (by omega) Try.underlying3 rfl (flat_getz (c := srcC) (sz := 5) (fun _ => rfl) hz8 (by omega) 0 _ rfl))⟩, ⟨rfl, rfl, fun w hm => (show KO w (.bin .neq 3) [(iV z8.kind), (iV 1)] (.bool true) from k_neq_t c9)⟩, ⟨rfl, rfl, fun w hm => (show KO w (.bin .add 3) [(iV k), (iV 1)] (iV ((k + 1))) from k_add (wrap64 (by omega)))⟩, trivial⟩ trivial trivial trivial) rslides_r14 ⟨rfl, rfl, rfl, rfl, rfl, rfl, rfl, rfl, rfl, rfl, rfl, rfl, rfl, rfl, rfl, rfl, rfl, rfl, rfl, rfl, rfl, rfl, rfl, rfl, rfl, rfl, rfl, rfl, rfl, rfl, rfl, rfl, rfl, rfl, rfl, rfl, rfl, rfl, rfl, rfl, rfl, rfl, rfl, rfl, trivial⟩ ⟨rfl, trivial⟩ (fun _ _ h => h) rslides_wf14 rslides_wf14 hat1 (fun a w hat => .inl ⟨rfl, ⟨((k + 1), lo, hi, false), ?_, ?_, hat⟩⟩)
                      · show (l.length - ((k + 1) : Int)).toNat < (l.length - k).toNat
                        omega
                      · show 0 ≤ ((k + 1) : Int) ∧ ((k + 1) : Int) ≤ l.length ∧ (0 ≤ (lo : Int) ∧ (lo : Int) ≤ 4000000000) ∧ (0 ≤ (hi : Int) ∧ (hi : Int) ≤ 4000000000) ∧ ((false : Bool) = true → offZ x0 x1 x2 x3 x4 x5 x6 x7 (l.getD i.toNat srcD).cell lag (l.take ((k + 1) : Int).toNat) = ((lo : Int), (hi : Int))) ∧ ((false : Bool) = false → offZ x0 x1 x2 x3 x4 x5 x6 x7 (l.getD i.toNat srcD).cell lag (l.take ((k + 1) : Int).toNat) = (1099511627776, 0))
                        have e1 : (k + 1).toNat = k.toNat + 1 := by omega
                        have st := offZ_snoc (x0 := x0) (x1 := x1) (x2 := x2) (x3 := x3) (x4 := x4) (x5 := x5) (x6 := x6) (x7 := x7) (cell := (l.getD i.toNat srcD).cell) (lag := lag) (l := l) (i := k.toNat) (by omega)
                        rw [← hz8] at st
                        refine ⟨by omega, by omega, by omega, by omega, ?_, ?_⟩
                        · first
                            | (intro h; exact absurd h (by decide))
                            | (intro _
                               rw [e1, st]
                               first | rw [j4 rfl] | rw [j5 rfl]
                               unfold offStep
                               first
                                 | (have hk : ¬ z8.kind = 1 := by omega
                                    rw [if_neg hk])
                                 | (have hk : z8.kind = 1 := by omega
                                    rw [if_pos hk, ← hz5] <;> exact Prod.ext (by dsimp only; omega) (by dsimp only; omega)))
                        · first
                            | (intro h; exact absurd h (by decide))
                            | (intro _
                               rw [e1, st]
                               first | rw [j4 rfl] | rw [j5 rfl]
                               unfold offStep
                               first
                                 | (have hk : ¬ z8.kind = 1 := by omega
                                    rw [if_neg hk])
                                 | (have hk : z8.kind = 1 := by omega
                                    rw [if_pos hk, ← hz5] <;> exact Prod.ext (by dsimp only; omega) (by dsimp only; omega)))
                    · obtain ⟨y10, hy10⟩ : ∃ y : Int, y = (trLo (x0) (x1) (x2) (x3) (x4) (x5) (x6) (x7) (z8.cell) (z5.cell)) := ⟨_, rfl⟩
                      obtain ⟨y11, hy11⟩ : ∃ y : Int, y = (trHi (x0) (x1) (x2) (x3) (x4) (x5) (x6) (x7) (z8.cell) (z5.cell)) := ⟨_, rfl⟩
                      have hqy10 := tr_bd v0m (x8 := (z8.cell)) (x9 := (z5.cell)) (by omega) (by omega)
                      rw [← hy10, ← hy11] at hqy10
                      let r15 : Rho := (Rho.of [(iV x0), (iV x1), (iV x2), (iV x3), (iV x4), (iV x5), (iV x6), (iV x7), (.slice al l.length ql), (iV lag), (iV (((out.length : Nat) : Int))), (iV i), (iV (((l.length : Nat) : Int))), (.pointer (ptrO al ((i).toNat * 5))), (iV z5.kind), (iV z5.cell), (iV z5.cls), (iV z5.lo), (iV z5.hi), (iV k), (iV lo), (iV hi), (iV (((l.length : Nat) : Int))), (.pointer (ptrO al ((k).toNat * 5))), (.pointer (ptrO al ((k).toNat * 5 + 0))), (iV z8.kind), (.pointer (ptrO al ((k).toNat * 5 + 1))), (iV z8.cell), (iV y10), (iV y11), (.pointer (ptrO al ((k).toNat * 5 + 3))), (.pointer (ptrO al ((k).toNat * 5 + 3 + 0))), (iV z8.lo), (iV ((z8.lo + y10))), (.pointer (ptrO al ((k).toNat * 5 + 3 + 1))), (iV z8.hi), (iV ((z8.hi + y11))), (iV (((z8.hi + y11) + lag))), (iV ((min (z8.lo + y10) (z8.lo + y10)))), (iV ((max ((z8.hi + y11) + lag) ((z8.hi + y11) + lag)))), (iV ((k + 1)))] (fun b => w0.heap[b]?) [(flat srcC out)])
                      have hat1 : @At r15 w0 rslides_fr14 rslides_st14 a w := At.shiftL (ρ1 := p14) (ρ2 := r15) (σ := [sy 0, sy 1, sy 2, sy 3, sy 4, sy 5, sy 6, sy 7, sy 8, sy 9, sy 10, sy 11, sy 12, sy 13, sy 14, sy 15, sy 16, sy 17, sy 18, sy 19, sy 20, sy 21]) (π := [0, 1, 2]) (τ := [some 0]) ⟨rfl, rfl, rfl, rfl, rfl, rfl, rfl, rfl, rfl, rfl, rfl, rfl, rfl, rfl, rfl, rfl, rfl, rfl, rfl, rfl, rfl, rfl, rfl, rfl, rfl, rfl, rfl, rfl, rfl, rfl, rfl, rfl, rfl, rfl, rfl, rfl, rfl, rfl, rfl, rfl, rfl, rfl, rfl, rfl, trivial⟩ ⟨rfl, trivial⟩ (fun _ _ h => h) rslides_wf14 rslides_id14 hat
                      refine At.pieceL (ρ1 := r15) (ρ2 := (Rho.of [(iV x0), (iV x1), (iV x2), (iV x3), (iV x4), (iV x5), (iV x6), (iV x7), (.slice al l.length ql), (iV lag), (iV (((out.length : Nat) : Int))), (iV i), (iV (((l.length : Nat) : Int))), (.pointer (ptrO al ((i).toNat * 5))), (iV z5.kind), (iV z5.cell), (iV z5.cls), (iV z5.lo), (iV z5.hi), (iV (((k + 1) : Int))), (iV (((min (z8.lo + y10) (z8.lo + y10)) : Int))), (iV (((max ((z8.hi + y11) + lag) ((z8.hi + y11) + lag)) : Int)))] (fun b => w0.heap[b]?) [(flat srcC out)])) (@Env.Ok.symL r15 _ _ (@env_ok r15) rslides_e15 rslides_c15 rslides_l15 rslides_cl15 ⟨⟨rfl, rfl, fun w hm => (show KO w (.bi 0 [38]) [(.slice al l.length ql)] (iV (((l.length : Nat) : Int))) from k_len Try.underlying38)⟩, ⟨rfl, rfl, fun w hm => (show KO w (.bin .lss 3) [(iV k), (iV (((l.length : Nat) : Int)))] (.bool true) from k_lss_t c7)⟩, ⟨rfl, rfl, fun w hm => (show KO w (.indexAddr 38) [(.slice al l.length ql), (iV k)] (.pointer (ptrO al ((k).toNat * 5))) from l_index (Hl.keep hm) Try.underlying38 (by kernel_rfl) (by omega) (by omega))⟩, ⟨rfl, rfl, fun w hm => (show KO w (.fieldAddr 54 0) [(.pointer (ptrO al ((k).toNat * 5)))] (.pointer (ptrO al ((k).toNat * 5 + 0))) from l_fieldo (sz := 1) 0 0 (Hl.keep hm) (by omega) Try.underlying54 rfl rfl (by kernel_rfl) (by decide))⟩, ⟨rfl, rfl, fun w hm => (show KO w (.load 3) [(.pointer (ptrO al ((k).toNat * 5 + 0)))] (iV z8.kind) from l_load (Hl.keep hm) (by omega) Try.underlying3 rfl (flat_getz (c := srcC) (sz := 5) (fun _ => rfl) hz8 (by omega) 0 _ rfl))⟩, ⟨rfl, rfl, fun w hm => (show KO w (.bin .neq 3) [(iV z8.kind), (iV 1)] (.bool false) from k_neq_f c9)⟩, ⟨rfl, rfl, fun w hm => (show KO w (.fieldAddr 54 1) [(.pointer (ptrO al ((k).toNat * 5)))] (.pointer (ptrO al ((k).toNat * 5 + 1))) from l_fieldo (sz := 1) 1 1 (Hl.keep hm) (by omega) Try.underlying54 rfl rfl (by kernel_rfl) (by decide))⟩, ⟨rfl, rfl, fun w hm => (show KO w (.load 3) [(.pointer (ptrO al ((k).toNat * 5 + 1)))] (iV z8.cell) from l_load (Hl.keep hm) (by omega) Try.underlying3 rfl (flat_getz (c := srcC) (sz := 5) (fun _ => rfl) hz8 (by omega) 1 _ rfl))⟩, ⟨rfl, rfl, fun w hm => (show KO w (.fieldAddr 54 3) [(.pointer (ptrO al ((k).toNat * 5)))] (.pointer (ptrO al ((k).toNat * 5 + 3))) from l_fieldo (sz := 2) 3 3 (Hl.keep hm) (by omega) Try.underlying54 rfl rfl (by kernel_rfl) (by decide))⟩, ⟨rfl, rfl, fun w hm => (show KO w (.fieldAddr 23 0) [(.pointer (ptrO al ((k).toNat * 5 + 3)))] (.pointer (ptrO al ((k).toNat * 5 + 3 + 0))) from l_fieldo (sz := 1) 0 0 (Hl.keep hm) (by omega) Try.underlying23 rfl rfl (by kernel_rfl) (by decide))⟩, ⟨rfl, rfl, fun w hm => (show KO w (.load 3) [(.pointer (ptrO al ((k).toNat * 5 + 3 + 0)))] (iV z8.lo) from l_load (Hl.keep hm) (by omega) Try.underlying3 rfl (flat_getz (c := srcC) (sz := 5) (fun _ => rfl) hz8 (by omega) 3 _ rfl))⟩, ⟨rfl, rfl, fun w hm => (show KO w (.bin .add 3) [(iV z8.lo), (iV y10)] (iV ((z8.lo + y10))) from k_add (wrap64 (by omega)))⟩, ⟨rfl, rfl, fun w hm => (show KO w (.fieldAddr 23 1) [(.pointer (ptrO al ((k).toNat * 5 + 3)))] (.pointer (ptrO al ((k).toNat * 5 + 3 + 1))) from l_fieldo (sz := 1) 1 1 (Hl.keep hm) (by omega) Try.underlying23 rfl rfl (by kernel_rfl) (by decide))⟩, ⟨rfl, rfl, fun w hm => (show KO w (.load 3) [(.pointer (ptrO al ((k).toNat * 5 + 3 + 1)))] (iV z8.hi) from l_load (Hl.keep hm) (by omega) Try.underlying3 rfl (flat_getz (c := srcC) (sz := 5) (fun _ => rfl) hz8 (by omega) 4 _ rfl))⟩, ⟨rfl, rfl, fun w hm => (show KO w (.bin .add 3) [(iV z8.hi), (iV y11)] (iV ((z8.hi + y11))) from k_add (wrap64 (by omega)))⟩, ⟨rfl, rfl, fun w hm => (show KO w (.bin .add 3) [(iV ((z8.hi + y11))), (iV lag)] (iV (((z8.hi + y11) + lag))) from k_add (wrap64 (by omega)))⟩, ⟨rfl, rfl, fun w hm => (show KO w (.bi 3 [3, 3]) [(iV ((z8.lo + y10))), (iV ((z8.lo + y10)))] (iV ((min (z8.lo + y10) (z8.lo + y10)))) from k_min)⟩, ⟨rfl, rfl, fun w hm => (show KO w (.bi 2 [3, 3]) [(iV (((z8.hi + y11) + lag))), (iV (((z8.hi + y11) + lag)))] (iV ((max ((z8.hi + y11) + lag) ((z8.hi + y11) + lag)))) from k_max)⟩, ⟨rfl, rfl, fun w hm => (show KO w (.bin .add 3) [(iV k), (iV 1)] (iV ((k + 1))) from k_add (wrap64 (by omega)))⟩, trivial⟩ ⟨(@CEntOk.of r15 Try.prog _ 47 [(.agg #[(sy 0), (sy 1), (sy 2), (sy 3), (sy 4), (sy 5), (sy 6), (sy 7)]), (sy 27), (sy 15)] (.agg #[(sy 28), (sy 29)]) #[(.agg #[(iV x0), (iV x1), (iV x2), (iV x3), (iV x4), (iV x5), (iV x6), (iV x7)]), (iV z8.cell), (iV z5.cell)] (.agg #[(iV y10), (iV y11)]) rfl ⟨Try.f47, (Try.f47.body).getD .skip, by kernel_rfl, by kernel_rfl⟩ rfl rfl rfl (fun w hm => (by rw [hy10, hy11]; exact rtr_any (x0) (x1) (x2) (x3) (x4) (x5) (x6) (x7) (z8.cell) (z5.cell) w  v0m (by omega) (by omega)))), trivial⟩ trivial trivial) rslides_r15 ⟨rfl, rfl, rfl, rfl, rfl, rfl, rfl, rfl, rfl, rfl, rfl, rfl, rfl, rfl, rfl, rfl, rfl, rfl, rfl, rfl, rfl, rfl, rfl, rfl, rfl, rfl, rfl, rfl, rfl, rfl, rfl, rfl, rfl, rfl, rfl, rfl, rfl, rfl, rfl, rfl, rfl, rfl, rfl, rfl, trivial⟩ ⟨rfl, trivial⟩ (fun _ _ h => h) rslides_wf14 rslides_wf15 hat1 (fun a w hat => .inl ⟨rfl, ⟨((k + 1), (min (z8.lo + y10) (z8.lo + y10)), (max ((z8.hi + y11) + lag) ((z8.hi + y11) + lag)), true), ?_, ?_, hat⟩⟩)
                      · show (l.length - ((k + 1) : Int)).toNat < (l.length - k).toNat
                        omega
                      · show 0 ≤ ((k + 1) : Int) ∧ ((k + 1) : Int) ≤ l.length ∧ (0 ≤ ((min (z8.lo + y10) (z8.lo + y10)) : Int) ∧ ((min (z8.lo + y10) (z8.lo + y10)) : Int) ≤ 4000000000) ∧ (0 ≤ ((max ((z8.hi + y11) + lag) ((z8.hi + y11) + lag)) : Int) ∧ ((max ((z8.hi + y11) + lag) ((z8.hi + y11) + lag)) : Int) ≤ 4000000000) ∧ ((true : Bool) = true → offZ x0 x1 x2 x3 x4 x5 x6 x7 (l.getD i.toNat srcD).cell lag (l.take ((k + 1) : Int).toNat) = (((min (z8.lo + y10) (z8.lo + y10)) : Int), ((max ((z8.hi + y11) + lag) ((z8.hi + y11) + lag)) : Int))) ∧ ((true : Bool) = false → offZ x0 x1 x2 x3 x4 x5 x6 x7 (l.getD i.toNat srcD).cell lag (l.take ((k + 1) : Int).toNat) = (1099511627776, 0))
                        have e1 : (k + 1).toNat = k.toNat + 1 := by omega
                        have st := offZ_snoc (x0 := x0) (x1 := x1) (x2 := x2) (x3 := x3) (x4 := x4) (x5 := x5) (x6 := x6) (x7 := x7) (cell := (l.getD i.toNat srcD).cell) (lag := lag) (l := l) (i := k.toNat) (by omega)
                        rw [← hz8] at st
                        refine ⟨by omega, by omega, by omega, by omega, ?_, ?_⟩
                        · first
                            | (intro h; exact absurd h (by decide))
                            | (intro _
                               rw [e1, st]
                               first | rw [j4 rfl] | rw [j5 rfl]
                               unfold offStep
                               first
                                 | (have hk : ¬ z8.kind = 1 := by omega
                                    rw [if_neg hk])
                                 | (have hk : z8.kind = 1 := by omega
                                    rw [if_pos hk, ← hz5, ← hy10, ← hy11] <;> exact Prod.ext (by dsimp only; omega) (by dsimp only; omega)))
                        · first
                            | (intro h; exact absurd h (by decide))
                            | (intro _
                               rw [e1, st]
                               first | rw [j4 rfl] | rw [j5 rfl]
                               unfold offStep
                               first
                                 | (have hk : ¬ z8.kind = 1 := by omega
                                    rw [if_neg hk])
                                 | (have hk : z8.kind = 1 := by omega
                                    rw [if_pos hk, ← hz5, ← hy10, ← hy11] <;> exact Prod.ext (by dsimp only; omega) (by dsimp only; omega)))
                  · let r16 : Rho := (Rho.of [(iV x0), (iV x1), (iV x2), (iV x3), (iV x4), (iV x5), (iV x6), (iV x7), (.slice al l.length ql), (iV lag), (iV (((out.length : Nat) : Int))), (iV i), (iV (((l.length : Nat) : Int))), (.pointer (ptrO al ((i).toNat * 5))), (iV z5.kind), (iV z5.cell), (iV z5.cls), (iV z5.lo), (iV z5.hi), (iV k), (iV lo), (iV hi), (iV (((l.length : Nat) : Int)))] (fun b => w0.heap[b]?) [(flat srcC out)])
                    have hat1 : @At r16 w0 rslides_fr14 rslides_st14 a w := At.shiftL (ρ1 := p14) (ρ2 := r16) (σ := [sy 0, sy 1, sy 2, sy 3, sy 4, sy 5, sy 6, sy 7, sy 8, sy 9, sy 10, sy 11, sy 12, sy 13, sy 14, sy 15, sy 16, sy 17, sy 18, sy 19, sy 20, sy 21]) (π := [0, 1, 2]) (τ := [some 0]) ⟨rfl, rfl, rfl, rfl, rfl, rfl, rfl, rfl, rfl, rfl, rfl, rfl, rfl, rfl, rfl, rfl, rfl, rfl, rfl, rfl, rfl, rfl, rfl, rfl, rfl, rfl, rfl, rfl, rfl, rfl, rfl, rfl, rfl, rfl, rfl, rfl, rfl, rfl, rfl, rfl, rfl, rfl, rfl, rfl, trivial⟩ ⟨rfl, trivial⟩ (fun _ _ h => h) rslides_wf14 rslides_id14 hat
                    let p16 : Rho := (Rho.of [(iV x0), (iV x1), (iV x2), (iV x3), (iV x4), (iV x5), (iV x6), (iV x7), (.slice al l.length ql), (iV lag), (iV (((out.length : Nat) : Int))), (iV i), (iV (((l.length : Nat) : Int))), (.pointer (ptrO al ((i).toNat * 5))), (iV z5.kind), (iV z5.cell), (iV z5.cls), (iV z5.lo), (iV z5.hi), (iV k), (iV lo), (iV hi), (iV (((l.length : Nat) : Int)))] (fun b => w0.heap[b]?) [(flat srcC out)])
                    refine At.pieceL (ρ1 := r16) (ρ2 := p16) (@Env.Ok.symL r16 _ _ (@env_ok r16) rslides_e16 rslides_c16 rslides_l16 rslides_cl16 ⟨⟨rfl, rfl, fun w hm => (show KO w (.bi 0 [38]) [(.slice al l.length ql)] (iV (((l.length : Nat) : Int))) from k_len Try.underlying38)⟩, ⟨rfl, rfl, fun w hm => (show KO w (.bin .lss 3) [(iV k), (iV (((l.length : Nat) : Int)))] (.bool false) from k_lss_f c7)⟩, trivial⟩ trivial trivial trivial) rslides_r16 ⟨rfl, rfl, rfl, rfl, rfl, rfl, rfl, rfl, rfl, rfl, rfl, rfl, rfl, rfl, rfl, rfl, rfl, rfl, rfl, rfl, rfl, rfl, rfl, rfl, rfl, rfl, rfl, rfl, rfl, rfl, rfl, rfl, rfl, rfl, rfl, rfl, rfl, rfl, rfl, rfl, rfl, rfl, rfl, rfl, rfl, rfl, trivial⟩ ⟨rfl, trivial⟩ (fun _ _ h => h) rslides_wf14 rslides_wf16 hat1 (fun a w hat => .inr ⟨.inl ⟨2, rfl⟩, .inl ⟨rfl, .inl ⟨rfl, ?_⟩⟩⟩)
                    let r17 : Rho := (Rho.of [(iV x0), (iV x1), (iV x2), (iV x3), (iV x4), (iV x5), (iV x6), (iV x7), (.slice al l.length ql), (iV lag), (iV (((out.length : Nat) : Int))), (iV i), (iV (((l.length : Nat) : Int))), (.pointer (ptrO al ((i).toNat * 5))), (iV z5.kind), (iV z5.cell), (iV z5.cls), (iV z5.lo), (iV z5.hi), (iV k), (iV lo), (iV hi), (iV (((l.length : Nat) : Int))), (iV ((max z5.lo lo))), (iV ((min z5.hi hi)))] (fun b => w0.heap[b]?) [(flat srcC out)])
                    have hat1 : @At r17 w0 rslides_fr16 rslides_st16 a w := At.shiftL (ρ1 := p16) (ρ2 := r17) (σ := [sy 0, sy 1, sy 2, sy 3, sy 4, sy 5, sy 6, sy 7, sy 8, sy 9, sy 10, sy 11, sy 12, sy 13, sy 14, sy 15, sy 16, sy 17, sy 18, sy 19, sy 20, sy 21, sy 22]) (π := [0, 1, 2]) (τ := [some 0]) ⟨rfl, rfl, rfl, rfl, rfl, rfl, rfl, rfl, rfl, rfl, rfl, rfl, rfl, rfl, rfl, rfl, rfl, rfl, rfl, rfl, rfl, rfl, rfl, rfl, rfl, rfl, rfl, rfl, rfl, rfl, rfl, rfl, rfl, rfl, rfl, rfl, rfl, rfl, rfl, rfl, rfl, rfl, rfl, rfl, rfl, rfl, trivial⟩ ⟨rfl, trivial⟩ (fun _ _ h => h) rslides_wf16 rslides_id16 hat
                    let p17 : Rho := (Rho.of [(iV x0), (iV x1), (iV x2), (iV x3), (iV x4), (iV x5), (iV x6), (iV x7), (.slice al l.length ql), (iV lag), (iV (((out.length : Nat) : Int))), (iV i), (iV (((l.length : Nat) : Int))), (.pointer (ptrO al ((i).toNat * 5))), (iV z5.kind), (iV z5.cell), (iV z5.cls), (iV z5.lo), (iV z5.hi), (iV k), (iV lo), (iV hi), (iV (((l.length : Nat) : Int))), (iV ((max z5.lo lo))), (iV ((min z5.hi hi)))] (fun b => w0.heap[b]?) [(flat srcC out)])
                    refine At.pieceL (ρ1 := r17) (ρ2 := p17) (@Env.Ok.symL r17 _ _ (@env_ok r17) rslides_e17 rslides_c17 rslides_l17 rslides_cl17 ⟨⟨rfl, rfl, fun w hm => (show KO w (.bi 2 [3, 3]) [(iV z5.lo), (iV lo)] (iV ((max z5.lo lo))) from k_max)⟩, ⟨rfl, rfl, fun w hm => (show KO w (.bi 3 [3, 3]) [(iV z5.hi), (iV hi)] (iV ((min z5.hi hi))) from k_min)⟩, trivial⟩ trivial trivial trivial) rslides_r17 ⟨rfl, rfl, rfl, rfl, rfl, rfl, rfl, rfl, rfl, rfl, rfl, rfl, rfl, rfl, rfl, rfl, rfl, rfl, rfl, rfl, rfl, rfl, rfl, rfl, rfl, rfl, rfl, rfl, rfl, rfl, rfl, rfl, rfl, rfl, rfl, rfl, rfl, rfl, rfl, rfl, rfl, rfl, rfl, rfl, rfl, rfl, rfl, rfl, rfl, rfl, trivial⟩ ⟨rfl, trivial⟩ (fun _ _ h => h) rslides_wf16 rslides_wf17 hat1 (fun a w hat => .inr ⟨(fun q => nomatch q), .inl ⟨rfl, ?_⟩⟩)
                    let r18 : Rho := (Rho.of [(iV x0), (iV x1), (iV x2), (iV x3), (iV x4), (iV x5), (iV x6), (iV x7), (.slice al l.length ql), (iV lag), (iV (((out.length : Nat) : Int))), (iV i), (iV (((l.length : Nat) : Int))), (.pointer (ptrO al ((i).toNat * 5))), (iV z5.kind), (iV z5.cell), (iV z5.cls), (iV z5.lo), (iV z5.hi), (iV k), (iV lo), (iV hi), (iV (((l.length : Nat) : Int))), (iV ((max z5.lo lo))), (iV ((min z5.hi hi))), (iV ((i + 1)))] (fun b => w0.heap[b]?) [(flat srcC out)])
                    have hat1 : @At r18 w0 rslides_fr17 rslides_st17 a w := At.shiftL (ρ1 := p17) (ρ2 := r18) (σ := [sy 0, sy 1, sy 2, sy 3, sy 4, sy 5, sy 6, sy 7, sy 8, sy 9, sy 10, sy 11, sy 12, sy 13, sy 14, sy 15, sy 16, sy 17, sy 18, sy 19, sy 20, sy 21, sy 22, sy 23, sy 24]) (π := [0, 1, 2]) (τ := [some 0]) ⟨rfl, rfl, rfl, rfl, rfl, rfl, rfl, rfl, rfl, rfl, rfl, rfl, rfl, rfl, rfl, rfl, rfl, rfl, rfl, rfl, rfl, rfl, rfl, rfl, rfl, rfl, rfl, rfl, rfl, rfl, rfl, rfl, rfl, rfl, rfl, rfl, rfl, rfl, rfl, rfl, rfl, rfl, rfl, rfl, rfl, rfl, rfl, rfl, rfl, rfl, trivial⟩ ⟨rfl, trivial⟩ (fun _ _ h => h) rslides_wf17 rslides_id17 hat
                    refine At.pieceL (ρ1 := r18) (ρ2 := (Rho.of [(iV x0), (iV x1), (iV x2), (iV x3), (iV x4), (iV x5), (iV x6), (iV x7), (.slice al l.length ql), (iV lag), (iV ((((out : List Src).length : Nat) : Int))), (iV (((i + 1) : Int)))] (fun b => w0.heap[b]?) [(flat srcC (out : List Src))])) (@Env.Ok.symL r18 _ _ (@env_ok r18) rslides_e18 rslides_c18 rslides_l18 rslides_cl18 ⟨⟨rfl, rfl, fun w hm => (show KO w (.bin .add 3) [(iV i), (iV 1)] (iV ((i + 1))) from k_add (wrap64 (by omega)))⟩, trivial⟩ trivial trivial trivial) rslides_r18 ⟨rfl, rfl, rfl, rfl, rfl, rfl, rfl, rfl, rfl, rfl, rfl, rfl, rfl, rfl, rfl, rfl, rfl, rfl, rfl, rfl, rfl, rfl, rfl, rfl, trivial⟩ ⟨rfl, trivial⟩ (fun _ _ h => h) rslides_wf17 rslides_wf7 hat1 (fun a w hat => .inl ⟨rfl, ⟨(out, (i + 1)), ?_, ?_, hat⟩⟩)
                    · show (l.length - ((i + 1) : Int)).toNat < (l.length - i).toNat
                      omega
                    · show 0 ≤ ((i + 1) : Int) ∧ ((i + 1) : Int) ≤ l.length ∧ ((out : List Src).length : Int) ≤ ((i + 1) : Int) ∧ (out : List Src) = (l.take ((i + 1) : Int).toNat).filterMap (slideF x0 x1 x2 x3 x4 x5 x6 x7 l lag)
                      have e1 : (i + 1).toNat = i.toNat + 1 := by omega
                      refine ⟨by omega, by omega, by first | (simp; omega) | omega, ?_⟩
                      rw [e1]
                      have hF : slideF x0 x1 x2 x3 x4 x5 x6 x7 l lag z5 = none := by
                        first
                        | (have hk : ¬ z5.kind = 2 := by omega
                           unfold slideF slideOne
                           simp only [if_neg hk]
                           rw [if_pos (by omega)])
                        | (have hO : offZ x0 x1 x2 x3 x4 x5 x6 x7 z5.cell lag l = (lo, hi) := (by have h := j4 rfl; rw [show k.toNat = l.length by omega, List.take_length] at h; rw [hz5]; exact h)
                           have hk : z5.kind = 2 := by omega
                           unfold slideF slideOne
                           simp only [if_pos hk, hO]
                           rw [if_neg (by omega)])
                        | (have hO : offZ x0 x1 x2 x3 x4 x5 x6 x7 z5.cell lag l = (1099511627776, 0) := (by have h := j5 rfl; rw [show k.toNat = l.length by omega, List.take_length] at h; rw [hz5]; exact h)
                           have hk : z5.kind = 2 := by omega
                           unfold slideF slideOne
                           simp only [if_pos hk, hO]
                           rw [if_neg (by omega)])
                      rw [filterMap_none (slideF x0 x1 x2 x3 x4 x5 x6 x7 l lag) srcD (i := i.toNat) (by omega) (by rw [← hz5]; exact hF), ← i3]
                · change 0 ≤ (k : Int) ∧ (k : Int) ≤ l.length ∧ (0 ≤ (lo : Int) ∧ (lo : Int) ≤ 4000000000) ∧ (0 ≤ (hi : Int) ∧ (hi : Int) ≤ 4000000000) ∧ ((true : Bool) = true → offZ x0 x1 x2 x3 x4 x5 x6 x7 (l.getD i.toNat srcD).cell lag (l.take (k : Int).toNat) = ((lo : Int), (hi : Int))) ∧ ((true : Bool) = false → offZ x0 x1 x2 x3 x4 x5 x6 x7 (l.getD i.toNat srcD).cell lag (l.take (k : Int).toNat) = (1099511627776, 0)) at hinv
                  let p15 : Rho := (Rho.of [(iV x0), (iV x1), (iV x2), (iV x3), (iV x4), (iV x5), (iV x6), (iV x7), (.slice al l.length ql), (iV lag), (iV (((out.length : Nat) : Int))), (iV i), (iV (((l.length : Nat) : Int))), (.pointer (ptrO al ((i).toNat * 5))), (iV z5.kind), (iV z5.cell), (iV z5.cls), (iV z5.lo), (iV z5.hi), (iV k), (iV lo), (iV hi)] (fun b => w0.heap[b]?) [(flat srcC out)])
                  change @At p15 w0 rslides_fr15 rslides_st15 a w at hat
                  obtain ⟨j0, j1, j2, j3, j4, j5⟩ := hinv
                  by_cases c12 : k < ((l.length : Nat) : Int)
                  · obtain ⟨z13, hz13⟩ : ∃ z : Src, z = l.getD (k).toNat srcD := ⟨_, rfl⟩
                    have ez13 := srcErr_ok (hs (k).toNat (by omega))
                    rw [← hz13] at ez13
                    by_cases c14 : z13.kind ≠ 1
                    · let r19 : Rho := (Rho.of [(iV x0), (iV x1), (iV x2), (iV x3), (iV x4), (iV x5), (iV x6), (iV x7), (.slice al l.length ql), (iV lag), (iV (((out.length : Nat) : Int))), (iV i), (iV (((l.length : Nat) : Int))), (.pointer (ptrO al ((i).toNat * 5))), (iV z5.kind), (iV z5.cell), (iV z5.cls), (iV z5.lo), (iV z5.hi), (iV k), (iV lo), (iV hi), (iV (((l.length : Nat) : Int))), (.pointer (ptrO al ((k).toNat * 5))), (.pointer (ptrO al ((k).toNat * 5 + 0))), (iV z13.kind), (iV ((k + 1)))] (fun b => w0.heap[b]?) [(flat srcC out)])
                      have hat1 : @At r19 w0 rslides_fr15 rslides_st15 a w := At.shiftL (ρ1 := p15) (ρ2 := r19) (σ := [sy 0, sy 1, sy 2, sy 3, sy 4, sy 5, sy 6, sy 7, sy 8, sy 9, sy 10, sy 11, sy 12, sy 13, sy 14, sy 15, sy 16, sy 17, sy 18, sy 19, sy 20, sy 21]) (π := [0, 1, 2]) (τ := [some 0]) ⟨rfl, rfl, rfl, rfl, rfl, rfl, rfl, rfl, rfl, rfl, rfl, rfl, rfl, rfl, rfl, rfl, rfl, rfl, rfl, rfl, rfl, rfl, rfl, rfl, rfl, rfl, rfl, rfl, rfl, rfl, rfl, rfl, rfl, rfl, rfl, rfl, rfl, rfl, rfl, rfl, rfl, rfl, rfl, rfl, trivial⟩ ⟨rfl, trivial⟩ (fun _ _ h => h) rslides_wf15 rslides_id15 hat
                      refine At.pieceL (ρ1 := r19) (ρ2 := (Rho.of [(iV x0), (iV x1), (iV x2), (iV x3), (iV x4), (iV x5), (iV x6), (iV x7), (.slice al l.length ql), (iV lag), (iV (((out.length : Nat) : Int))), (iV i), (iV (((l.length : Nat) : Int))), (.pointer (ptrO al ((i).toNat * 5))), (iV z5.kind), (iV z5.cell), (iV z5.cls), (iV z5.lo), (iV z5.hi), (iV (((k + 1) : Int))), (iV ((lo : Int))), (iV ((hi : Int)))] (fun b => w0.heap[b]?) [(flat srcC out)])) (@Env.Ok.symL r19 _ _ (@env_ok r19) rslides_e19 rslides_c19 rslides_l19 rslides_cl19 ⟨⟨rfl, rfl, fun w hm => (show KO w (.bi 0 [38]) [(.slice al l.length ql)] (iV (((l.length : Nat) : Int))) from k_len Try.underlying38)⟩, ⟨rfl, rfl, fun w hm => (show KO w (.bin .lss 3) [(iV k), (iV (((l.length : Nat) : Int)))] (.bool true) from k_lss_t c12)⟩, ⟨rfl, rfl, fun w hm => (show KO w (.indexAddr 38) [(.slice al l.length ql), (iV k)] (.pointer (ptrO al ((k).toNat * 5))) from l_index (Hl.keep hm) Try.underlying38 (by kernel_rfl) (by omega) (by omega))⟩, ⟨rfl, rfl, fun w hm => (show KO w (.fieldAddr 54 0) [(.pointer (ptrO al ((k).toNat * 5)))] (.pointer (ptrO al ((k).toNat * 5 + 0))) from l_fieldo (sz := 1) 0 0 (Hl.keep hm) (by omega) Try.underlying54 rfl rfl (by kernel_rfl) (by decide))⟩, ⟨rfl, rfl, fun w hm => (show KO w (.load 3) [(.pointer (ptrO al ((k).toNat * 5 + 0)))] (iV z13.kind) from l_load (Hl.keep hm) (by omega) Try.underlying3 rfl (flat_getz (c := srcC) (sz := 5) (fun _ => rfl) hz13 (by omega) 0 _ rfl))⟩, ⟨rfl, rfl, fun w hm => (show KO w (.bin .neq 3) [(iV z13.kind), (iV 1)] (.bool true) from k_neq_t c14)⟩, ⟨rfl, rfl, fun w hm => (show KO w (.bin .add 3) [(iV k), (iV 1)] (iV ((k + 1))) from k_add (wrap64 (by omega)))⟩, trivial⟩ trivial trivial trivial) rslides_r19 ⟨rfl, rfl, rfl, rfl, rfl, rfl, rfl, rfl, rfl, rfl, rfl, rfl, rfl, rfl, rfl, rfl, rfl, rfl, rfl, rfl, rfl, rfl, rfl, rfl, rfl, rfl, rfl, rfl, rfl, rfl, rfl, rfl, rfl, rfl, rfl, rfl, rfl, rfl, rfl, rfl, rfl, rfl, rfl, rfl, trivial⟩ ⟨rfl, trivial⟩ (fun _ _ h => h) rslides_wf15 rslides_wf15 hat1 (fun a w hat => .inl ⟨rfl, ⟨((k + 1), lo, hi, true), ?_, ?_, hat⟩⟩)
                      · show (l.length - ((k + 1) : Int)).toNat < (l.length - k).toNat
                        omega
                      · show 0 ≤ ((k + 1) : Int) ∧ ((k + 1) : Int) ≤ l.length ∧ (0 ≤ (lo : Int) ∧ (lo : Int) ≤ 4000000000) ∧ (0 ≤ (hi : Int) ∧ (hi : Int) ≤ 4000000000) ∧ ((true : Bool) = true → offZ x0 x1 x2 x3 x4 x5 x6 x7 (l.getD i.toNat srcD).cell lag (l.take ((k + 1) : Int).toNat) = ((lo : Int), (hi : Int))) ∧ ((true : Bool) = false → offZ x0 x1 x2 x3 x4 x5 x6 x7 (l.getD i.toNat srcD).cell lag (l.take ((k + 1) : Int).toNat) = (1099511627776, 0))
                        have e1 : (k + 1).toNat = k.toNat + 1 := by omega
                        have st := offZ_snoc (x0 := x0) (x1 := x1) (x2 := x2) (x3 := x3) (x4 := x4) (x5 := x5) (x6 := x6) (x7 := x7) (cell := (l.getD i.toNat srcD).cell) (lag := lag) (l := l) (i := k.toNat) (by omega)
                        rw [← hz13] at st
                        refine ⟨by omega, by omega, by omega, by omega, ?_, ?_⟩
                        · first
                            | (intro h; exact absurd h (by decide))
                            | (intro _
                               rw [e1, st]
                               first | rw [j4 rfl] | rw [j5 rfl]
                               unfold offStep
                               first
                                 | (have hk : ¬ z13.kind = 1 := by omega
                                    rw [if_neg hk])
                                 | (have hk : z13.kind = 1 := by omega
                                    rw [if_pos hk, ← hz5] <;> exact Prod.ext (by dsimp only; omega) (by dsimp only; omega)))
                        · first
                            | (intro h; exact absurd h (by decide))
                            | (intro _
                               rw [e1, st]
                               first | rw [j4 rfl] | rw [j5 rfl]
                               unfold offStep
                               first
                                 | (have hk : ¬ z13.kind = 1 := by omega
                                    rw [if_neg hk])
                                 | (have hk : z13.kind = 1 := by omega
                                    rw [if_pos hk, ← hz5] <;> exact Prod.ext (by dsimp only; omega) (by dsimp only; omega)))
                    · obtain ⟨y15, hy15⟩ : ∃ y : Int, y = (trLo (x0) (x1) (x2) (x3) (x4) (x5) (x6) (x7) (z13.cell) (z5.cell)) := ⟨_, rfl⟩
                      obtain ⟨y16, hy16⟩ : ∃ y : Int, y = (trHi (x0) (x1) (x2) (x3) (x4) (x5) (x6) (x7) (z13.cell) (z5.cell)) := ⟨_, rfl⟩
                      have hqy15 := tr_bd v0m (x8 := (z13.cell)) (x9 := (z5.cell)) (by omega) (by omega)
                      rw [← hy15, ← hy16] at hqy15
                      let r20 : Rho := (Rho.of [(iV x0), (iV x1), (iV x2), (iV x3), (iV x4), (iV x5), (iV x6), (iV x7), (.slice al l.length ql), (iV lag), (iV (((out.length : Nat) : Int))), (iV i), (iV (((l.length : Nat) : Int))), (.pointer (ptrO al ((i).toNat * 5))), (iV z5.kind), (iV z5.cell), (iV z5.cls), (iV z5.lo), (iV z5.hi), (iV k), (iV lo), (iV hi), (iV (((l.length : Nat) : Int))), (.pointer (ptrO al ((k).toNat * 5))), (.pointer (ptrO al ((k).toNat * 5 + 0))), (iV z13.kind), (.pointer (ptrO al ((k).toNat * 5 + 1))), (iV z13.cell), (iV y15), (iV y16), (.pointer (ptrO al ((k).toNat * 5 + 3))), (.pointer (ptrO al ((k).toNat * 5 + 3 + 0))), (iV z13.lo), (iV ((z13.lo + y15))), (.pointer (ptrO al ((k).toNat * 5 + 3 + 1))), (iV z13.hi), (iV ((z13.hi + y16))), (iV (((z13.hi + y16) + lag))), (iV ((min lo (z13.lo + y15)))), (iV ((max hi ((z13.hi + y16) + lag)))), (iV ((k + 1)))] (fun b => w0.heap[b]?) [(flat srcC out)])
                      have hat1 : @At r20 w0 rslides_fr15 rslides_st15 a w := At.shiftL (ρ1 := p15) (ρ2 := r20) (σ := [sy 0, sy 1, sy 2, sy 3, sy 4, sy 5, sy 6, sy 7, sy 8, sy 9, sy 10, sy 11, sy 12, sy 13, sy 14, sy 15, sy 16, sy 17, sy 18, sy 19, sy 20, sy 21]) (π := [0, 1, 2]) (τ := [some 0]) ⟨rfl, rfl, rfl, rfl, rfl, rfl, rfl, rfl, rfl, rfl, rfl, rfl, rfl, rfl, rfl, rfl, rfl, rfl, rfl, rfl, rfl, rfl, rfl, rfl, rfl, rfl, rfl, rfl, rfl, rfl, rfl, rfl, rfl, rfl, rfl, rfl, rfl, rfl, rfl, rfl, rfl, rfl, rfl, rfl, trivial⟩ ⟨rfl, trivial⟩ (fun _ _ h => h) rslides_wf15 rslides_id15 hat
                      refine At.pieceL (ρ1 := r20) (ρ2 := (Rho.of [(iV x0), (iV x1), (iV x2), (iV x3), (iV x4), (iV x5), (iV x6), (iV x7), (.slice al l.length ql), (iV lag), (iV (((out.length : Nat) : Int))), (iV i), (iV (((l.length : Nat) : Int))), (.pointer (ptrO al ((i).toNat * 5))), (iV z5.kind), (iV z5.cell), (iV z5.cls), (iV z5.lo), (iV z5.hi), (iV (((k + 1) : Int))), (iV (((min lo (z13.lo + y15)) : Int))), (iV (((max hi ((z13.hi + y16) + lag)) : Int)))] (fun b => w0.heap[b]?) [(flat srcC out)])) (@Env.Ok.symL r20 _ _ (@env_ok r20) rslides_e20 rslides_c20 rslides_l20 rslides_cl20 ⟨⟨rfl, rfl, fun w hm => (show KO w (.bi 0 [38]) [(.slice al l.length ql)] (iV (((l.length : Nat) : Int))) from k_len Try.underlying38)⟩, ⟨rfl, rfl, fun w hm => (show KO w (.bin .lss 3) [(iV k), (iV (((l.length : Nat) : Int)))] (.bool true) from k_lss_t c12)⟩, ⟨rfl, rfl, fun w hm => (show KO w (.indexAddr 38) [(.slice al l.length ql), (iV k)] (.pointer (ptrO al ((k).toNat * 5))) from l_index (Hl.keep hm) Try.underlying38 (by kernel_rfl) (by omega) (by omega))⟩, ⟨rfl, rfl, fun w hm => (show KO w (.fieldAddr 54 0) [(.pointer (ptrO al ((k).toNat * 5)))] (.pointer (ptrO al ((k).toNat * 5 + 0))) from l_fieldo (sz := 1) 0 0 (Hl.keep hm) (by omega) Try.underlying54 rfl rfl (by kernel_rfl) (by decide))⟩, ⟨rfl, rfl, fun w hm => (show KO w (.load 3) [(.pointer (ptrO al ((k).toNat * 5 + 0)))] (iV z13.kind) from l_load (Hl.keep hm) (by omega) Try.underlying3 rfl (flat_getz (c := srcC) (sz := 5) (fun _ => rfl) hz13 (by omega) 0 _ rfl))⟩, ⟨rfl, rfl, fun w hm => (show KO w (.bin .neq 3) [(iV z13.kind), (iV 1)] (.bool false) from k_neq_f c14)⟩, ⟨rfl, rfl, fun w hm => (show KO w (.fieldAddr 54 1) [(.pointer (ptrO al ((k).toNat * 5)))] (.pointer (ptrO al ((k).toNat * 5 + 1))) from l_fieldo (sz := 1) 1 1 (Hl.keep hm) (by omega) Try.underlying54 rfl rfl (by kernel_rfl) (by decide))⟩, ⟨rfl, rfl, fun w hm => (show KO w (.load 3) [(.pointer (ptrO al ((k).toNat * 5 + 1)))] (iV z13.cell) from l_load (Hl.keep hm) (by omega) Try.underlying3 rfl (flat_getz (c := srcC) (sz := 5) (fun _ => rfl) hz13 (by omega) 1 _ rfl))⟩, ⟨rfl, rfl, fun w hm => (show KO w (.fieldAddr 54 3) [(.pointer (ptrO al ((k).toNat * 5)))] (.pointer (ptrO al ((k).toNat * 5 + 3))) from l_fieldo (sz := 2) 3 3 (Hl.keep hm) (by omega) Try.underlying54 rfl rfl (by kernel_rfl) (by decide))⟩, ⟨rfl, rfl, fun w hm => (show KO w (.fieldAddr 23 0) [(.pointer (ptrO al ((k).toNat * 5 + 3)))] (.pointer (ptrO al ((k).toNat * 5 + 3 + 0))) from l_fieldo (sz := 1) 0 0 (Hl.keep hm) (by omega) Try.underlying23 rfl rfl (by kernel_rfl) (by decide))⟩, ⟨rfl, rfl, fun w hm => (show KO w (.load 3) [(.pointer (ptrO al ((k).toNat * 5 + 3 + 0)))] (iV z13.lo) from l_load (Hl.keep hm) (by omega) Try.underlying3 rfl (flat_getz (c := srcC) (sz := 5) (fun _ => rfl) hz13 (by omega) 3 _ rfl))⟩, ⟨rfl, rfl, fun w hm => (show KO w (.bin .add 3) [(iV z13.lo), (iV y15)] (iV ((z13.lo + y15))) from k_add (wrap64 (by omega)))⟩, ⟨rfl, rfl, fun w hm => (show KO w (.fieldAddr 23 1) [(.pointer (ptrO al ((k).toNat * 5 + 3)))] (.pointer (ptrO al ((k).toNat * 5 + 3 + 1))) from l_fieldo (sz := 1) 1 1 (Hl.keep hm) (by omega) Try.underlying23 rfl rfl (by kernel_rfl) (by decide))⟩, ⟨rfl, rfl, fun w hm => (show KO w (.load 3) [(.pointer (ptrO al ((k).toNat * 5 + 3 + 1)))] (iV z13.hi) from l_load (Hl.keep hm) (by omega) Try.underlying3 rfl (flat_getz (c := srcC) (sz := 5) (fun _ => rfl) hz13 (by omega) 4 _ rfl))⟩, ⟨rfl, rfl, fun w hm => (show KO w (.bin .add 3) [(iV z13.hi), (iV y16)] (iV ((z13.hi + y16))) from k_add (wrap64 (by omega)))⟩, ⟨rfl, rfl, fun w hm => (show KO w (.bin .add 3) [(iV ((z13.hi + y16))), (iV lag)] (iV (((z13.hi + y16) + lag))) from k_add (wrap64 (by omega)))⟩, ⟨rfl, rfl, fun w hm => (show KO w (.bi 3 [3, 3]) [(iV lo), (iV ((z13.lo + y15)))] (iV ((min lo (z13.lo + y15)))) from k_min)⟩, ⟨rfl, rfl, fun w hm => (show KO w (.bi 2 [3, 3]) [(iV hi), (iV (((z13.hi + y16) + lag)))] (iV ((max hi ((z13.hi + y16) + lag)))) from k_max)⟩, ⟨rfl, rfl, fun w hm => (show KO w (.bin .add 3) [(iV k), (iV 1)] (iV ((k + 1))) from k_add (wrap64 (by omega)))⟩, trivial⟩ ⟨(@CEntOk.of r20 Try.prog _ 47 [(.agg #[(sy 0), (sy 1), (sy 2), (sy 3), (sy 4), (sy 5), (sy 6), (sy 7)]), (sy 27), (sy 15)] (.agg #[(sy 28), (sy 29)]) #[(.agg #[(iV x0), (iV x1), (iV x2), (iV x3), (iV x4), (iV x5), (iV x6), (iV x7)]), (iV z13.cell), (iV z5.cell)] (.agg #[(iV y15), (iV y16)]) rfl ⟨Try.f47, (Try.f47.body).getD .skip, by kernel_rfl, by kernel_rfl⟩ rfl rfl rfl (fun w hm => (by rw [hy15, hy16]; exact rtr_any (x0) (x1) (x2) (x3) (x4) (x5) (x6) (x7) (z13.cell) (z5.cell) w  v0m (by omega) (by omega)))), trivial⟩ trivial trivial) rslides_r20 ⟨rfl, rfl, rfl, rfl, rfl, rfl, rfl, rfl, rfl, rfl, rfl, rfl, rfl, rfl, rfl, rfl, rfl, rfl, rfl, rfl, rfl, rfl, rfl, rfl, rfl, rfl, rfl, rfl, rfl, rfl, rfl, rfl, rfl, rfl, rfl, rfl, rfl, rfl, rfl, rfl, rfl, rfl, rfl, rfl, trivial⟩ ⟨rfl, trivial⟩ (fun _ _ h => h) rslides_wf15 rslides_wf15 hat1 (fun a w hat => .inl ⟨rfl, ⟨((k + 1), (min lo (z13.lo + y15)), (max hi ((z13.hi + y16) + lag)), true), ?_, ?_, hat⟩⟩)
                      · show (l.length - ((k + 1) : Int)).toNat < (l.length - k).toNat
                        omega
                      · show 0 ≤ ((k + 1) : Int) ∧ ((k + 1) : Int) ≤ l.length ∧ (0 ≤ ((min lo (z13.lo + y15)) : Int) ∧ ((min lo (z13.lo + y15)) : Int) ≤ 4000000000) ∧ (0 ≤ ((max hi ((z13.hi + y16) + lag)) : Int) ∧ ((max hi ((z13.hi + y16) + lag)) : Int) ≤ 4000000000) ∧ ((true : Bool) = true → offZ x0 x1 x2 x3 x4 x5 x6 x7 (l.getD i.toNat srcD).cell lag (l.take ((k + 1) : Int).toNat) = (((min lo (z13.lo + y15)) : Int), ((max hi ((z13.hi + y16) + lag)) : Int))) ∧ ((true : Bool) = false → offZ x0 x1 x2 x3 x4 x5 x6 x7 (l.getD i.toNat srcD).cell lag (l.take ((k + 1) : Int).toNat) = (1099511627776, 0))
                        have e1 : (k + 1).toNat = k.toNat + 1 := by omega
                        have st := offZ_snoc (x0 := x0) (x1 := x1) (x2 := x2) (x3 := x3) (x4 := x4) (x5 := x5) (x6 := x6) (x7 := x7) (cell := (l.getD i.toNat srcD).cell) (lag := lag) (l := l) (i := k.toNat) (by omega)
                        rw [← hz13] at st
                        refine ⟨by omega, by omega, by omega, by omega, ?_, ?_⟩
                        · first
                            | (intro h; exact absurd h (by decide))
                            | (intro _
                               rw [e1, st]
                               first | rw [j4 rfl] | rw [j5 rfl]
                               unfold offStep
                               first
                                 | (have hk : ¬ z13.kind = 1 := by omega
                                    rw [if_neg hk])
                                 | (have hk : z13.kind = 1 := by omega
                                    rw [if_pos hk, ← hz5, ← hy15, ← hy16] <;> exact Prod.ext (by dsimp only; omega) (by dsimp only; omega)))
                        · first
                            | (intro h; exact absurd h (by decide))
                            | (intro _
                               rw [e1, st]
                               first | rw [j4 rfl] | rw [j5 rfl]
                               unfold offStep
                               first
                                 | (have hk : ¬ z13.kind = 1 := by omega
                                    rw [if_neg hk])
                                 | (have hk : z13.kind = 1 := by omega
                                    rw [if_pos hk, ← hz5, ← hy15, ← hy16] <;> exact Prod.ext (by dsimp only; omega) (by dsimp only; omega)))
                  · let r21 : Rho := (Rho.of [(iV x0), (iV x1), (iV x2), (iV x3), (iV x4), (iV x5), (iV x6), (iV x7), (.slice al l.length ql), (iV lag), (iV (((out.length : Nat) : Int))), (iV i), (iV (((l.length : Nat) : Int))), (.pointer (ptrO al ((i).toNat * 5))), (iV z5.kind), (iV z5.cell), (iV z5.cls), (iV z5.lo), (iV z5.hi), (iV k), (iV lo), (iV hi), (iV (((l.length : Nat) : Int)))] (fun b => w0.heap[b]?) [(flat srcC out)])
                    have hat1 : @At r21 w0 rslides_fr15 rslides_st15 a w := At.shiftL (ρ1 := p15) (ρ2 := r21) (σ := [sy 0, sy 1, sy 2, sy 3, sy 4, sy 5, sy 6, sy 7, sy 8, sy 9, sy 10, sy 11, sy 12, sy 13, sy 14, sy 15, sy 16, sy 17, sy 18, sy 19, sy 20, sy 21]) (π := [0, 1, 2]) (τ := [some 0]) ⟨rfl, rfl, rfl, rfl, rfl, rfl, rfl, rfl, rfl, rfl, rfl, rfl, rfl, rfl, rfl, rfl, rfl, rfl, rfl, rfl, rfl, rfl, rfl, rfl, rfl, rfl, rfl, rfl, rfl, rfl, rfl, rfl, rfl, rfl, rfl, rfl, rfl, rfl, rfl, rfl, rfl, rfl, rfl, rfl, trivial⟩ ⟨rfl, trivial⟩ (fun _ _ h => h) rslides_wf15 rslides_id15 hat
                    let p18 : Rho := (Rho.of [(iV x0), (iV x1), (iV x2), (iV x3), (iV x4), (iV x5), (iV x6), (iV x7), (.slice al l.length ql), (iV lag), (iV (((out.length : Nat) : Int))), (iV i), (iV (((l.length : Nat) : Int))), (.pointer (ptrO al ((i).toNat * 5))), (iV z5.kind), (iV z5.cell), (iV z5.cls), (iV z5.lo), (iV z5.hi), (iV k), (iV lo), (iV hi), (iV (((l.length : Nat) : Int)))] (fun b => w0.heap[b]?) [(flat srcC out)])
                    refine At.pieceL (ρ1 := r21) (ρ2 := p18) (@Env.Ok.symL r21 _ _ (@env_ok r21) rslides_e21 rslides_c21 rslides_l21 rslides_cl21 ⟨⟨rfl, rfl, fun w hm => (show KO w (.bi 0 [38]) [(.slice al l.length ql)] (iV (((l.length : Nat) : Int))) from k_len Try.underlying38)⟩, ⟨rfl, rfl, fun w hm => (show KO w (.bin .lss 3) [(iV k), (iV (((l.length : Nat) : Int)))] (.bool false) from k_lss_f c12)⟩, trivial⟩ trivial trivial trivial) rslides_r21 ⟨rfl, rfl, rfl, rfl, rfl, rfl, rfl, rfl, rfl, rfl, rfl, rfl, rfl, rfl, rfl, rfl, rfl, rfl, rfl, rfl, rfl, rfl, rfl, rfl, rfl, rfl, rfl, rfl, rfl, rfl, rfl, rfl, rfl, rfl, rfl, rfl, rfl, rfl, rfl, rfl, rfl, rfl, rfl, rfl, rfl, rfl, trivial⟩ ⟨rfl, trivial⟩ (fun _ _ h => h) rslides_wf15 rslides_wf18 hat1 (fun a w hat => .inr ⟨.inl ⟨2, rfl⟩, .inl ⟨rfl, .inl ⟨rfl, ?_⟩⟩⟩)
                    by_cases c17 : (max z5.lo lo) ≤ (min z5.hi hi)
                    · let r22 : Rho := (Rho.of [(iV x0), (iV x1), (iV x2), (iV x3), (iV x4), (iV x5), (iV x6), (iV x7), (.slice al l.length ql), (iV lag), (iV (((out.length : Nat) : Int))), (iV i), (iV (((l.length : Nat) : Int))), (.pointer (ptrO al ((i).toNat * 5))), (iV z5.kind), (iV z5.cell), (iV z5.cls), (iV z5.lo), (iV z5.hi), (iV k), (iV lo), (iV hi), (iV (((l.length : Nat) : Int))), (iV ((max z5.lo lo))), (iV ((min z5.hi hi))), (iV (((out.length + 1 : Nat) : Int)))] (fun b => w0.heap[b]?) [(flat srcC out), ((flat srcC out) ++ [(iV z5.kind), (iV z5.cell), (iV z5.cls), (iV ((max z5.lo lo))), (iV ((min z5.hi hi)))])])
                      have hat1 : @At r22 w0 rslides_fr18 rslides_st18 a w := At.shiftL (ρ1 := p18) (ρ2 := r22) (σ := [sy 0, sy 1, sy 2, sy 3, sy 4, sy 5, sy 6, sy 7, sy 8, sy 9, sy 10, sy 11, sy 12, sy 13, sy 14, sy 15, sy 16, sy 17, sy 18, sy 19, sy 20, sy 21, sy 22]) (π := [0, 1, 2]) (τ := [some 0]) ⟨rfl, rfl, rfl, rfl, rfl, rfl, rfl, rfl, rfl, rfl, rfl, rfl, rfl, rfl, rfl, rfl, rfl, rfl, rfl, rfl, rfl, rfl, rfl, rfl, rfl, rfl, rfl, rfl, rfl, rfl, rfl, rfl, rfl, rfl, rfl, rfl, rfl, rfl, rfl, rfl, rfl, rfl, rfl, rfl, rfl, rfl, trivial⟩ ⟨rfl, trivial⟩ (fun _ _ h => h) rslides_wf18 rslides_id18 hat
                      let p19 : Rho := (Rho.of [(iV x0), (iV x1), (iV x2), (iV x3), (iV x4), (iV x5), (iV x6), (iV x7), (.slice al l.length ql), (iV lag), (iV (((out.length : Nat) : Int))), (iV i), (iV (((l.length : Nat) : Int))), (.pointer (ptrO al ((i).toNat * 5))), (iV z5.kind), (iV z5.cell), (iV z5.cls), (iV z5.lo), (iV z5.hi), (iV k), (iV lo), (iV hi), (iV (((l.length : Nat) : Int))), (iV ((max z5.lo lo))), (iV ((min z5.hi hi))), (iV (((out.length + 1 : Nat) : Int)))] (fun b => w0.heap[b]?) [(flat srcC out), ((flat srcC out) ++ [(iV z5.kind), (iV z5.cell), (iV z5.cls), (iV ((max z5.lo lo))), (iV ((min z5.hi hi)))])])
                      refine At.pieceL (ρ1 := r22) (ρ2 := p19) (@Env.Ok.symL r22 _ _ (@env_ok r22) rslides_e22 rslides_c22 rslides_l22 rslides_cl22 ⟨⟨rfl, rfl, fun w hm => (show KO w (.bi 2 [3, 3]) [(iV z5.lo), (iV lo)] (iV ((max z5.lo lo))) from k_max)⟩, ⟨rfl, rfl, fun w hm => (show KO w (.bi 3 [3, 3]) [(iV z5.hi), (iV hi)] (iV ((min z5.hi hi))) from k_min)⟩, ⟨rfl, rfl, fun w hm => (show KO w (.bin .leq 3) [(iV ((max z5.lo lo))), (iV ((min z5.hi hi)))] (.bool true) from k_leq_t c17)⟩, trivial⟩ trivial ⟨⟨rfl, rfl, out.length, rfl, rfl, (by show ((flat srcC out) : List Value).length = (out.length) * 5; first | exact flat_len (fun _ => rfl) _ | simp [flat_len (c := srcC) (sz := 5) (fun _ => rfl), srcC] <;> omega), rfl, (by omega)⟩, trivial⟩ trivial) rslides_r22 ⟨rfl, rfl, rfl, rfl, rfl, rfl, rfl, rfl, rfl, rfl, rfl, rfl, rfl, rfl, rfl, rfl, rfl, rfl, rfl, rfl, rfl, rfl, rfl, rfl, rfl, rfl, rfl, rfl, rfl, rfl, rfl, rfl, rfl, rfl, rfl, rfl, rfl, rfl, rfl, rfl, rfl, rfl, rfl, rfl, rfl, rfl, rfl, rfl, rfl, rfl, rfl, rfl, trivial⟩ ⟨rfl, rfl, trivial⟩ (fun _ _ h => h) rslides_wf18 rslides_wf19 hat1 (fun a w hat => .inr ⟨(fun q => nomatch q), .inl ⟨rfl, ?_⟩⟩)
                      let r23 : Rho := (Rho.of [(iV x0), (iV x1), (iV x2), (iV x3), (iV x4), (iV x5), (iV x6), (iV x7), (.slice al l.length ql), (iV lag), (iV (((out.length : Nat) : Int))), (iV i), (iV (((l.length : Nat) : Int))), (.pointer (ptrO al ((i).toNat * 5))), (iV z5.kind), (iV z5.cell), (iV z5.cls), (iV z5.lo), (iV z5.hi), (iV k), (iV lo), (iV hi), (iV (((l.length : Nat) : Int))), (iV ((max z5.lo lo))), (iV ((min z5.hi hi))), (iV (((out.length + 1 : Nat) : Int))), (iV ((i + 1)))] (fun b => w0.heap[b]?) [(flat srcC out), ((flat srcC out) ++ [(iV z5.kind), (iV z5.cell), (iV z5.cls), (iV ((max z5.lo lo))), (iV ((min z5.hi hi)))])])
                      have hat1 : @At r23 w0 rslides_fr19 rslides_st19 a w := At.shiftL (ρ1 := p19) (ρ2 := r23) (σ := [sy 0, sy 1, sy 2, sy 3, sy 4, sy 5, sy 6, sy 7, sy 8, sy 9, sy 10, sy 11, sy 12, sy 13, sy 14, sy 15, sy 16, sy 17, sy 18, sy 19, sy 20, sy 21, sy 22, sy 23, sy 24, sy 25]) (π := [0, 1, 2, 3]) (τ := [some 0, some 1]) ⟨rfl, rfl, rfl, rfl, rfl, rfl, rfl, rfl, rfl, rfl, rfl, rfl, rfl, rfl, rfl, rfl, rfl, rfl, rfl, rfl, rfl, rfl, rfl, rfl, rfl, rfl, rfl, rfl, rfl, rfl, rfl, rfl, rfl, rfl, rfl, rfl, rfl, rfl, rfl, rfl, rfl, rfl, rfl, rfl, rfl, rfl, rfl, rfl, rfl, rfl, rfl, rfl, trivial⟩ ⟨rfl, rfl, trivial⟩ (fun _ _ h => h) rslides_wf19 rslides_id19 hat
                      refine At.pieceL (ρ1 := r23) (ρ2 := (Rho.of [(iV x0), (iV x1), (iV x2), (iV x3), (iV x4), (iV x5), (iV x6), (iV x7), (.slice al l.length ql), (iV lag), (iV (((((out ++ [(⟨z5.kind, z5.cell, z5.cls, (max z5.lo lo), (min z5.hi hi)⟩ : Src)]) : List Src).length : Nat) : Int))), (iV (((i + 1) : Int)))] (fun b => w0.heap[b]?) [(flat srcC ((out ++ [(⟨z5.kind, z5.cell, z5.cls, (max z5.lo lo), (min z5.hi hi)⟩ : Src)]) : List Src))])) (@Env.Ok.symL r23 _ _ (@env_ok r23) rslides_e23 rslides_c23 rslides_l23 rslides_cl23 ⟨⟨rfl, rfl, fun w hm => (show KO w (.bin .add 3) [(iV i), (iV 1)] (iV ((i + 1))) from k_add (wrap64 (by omega)))⟩, trivial⟩ trivial trivial trivial) rslides_r23 ⟨rfl, rfl, rfl, rfl, rfl, rfl, rfl, rfl, rfl, rfl, rfl, rfl, rfl, rfl, rfl, rfl, rfl, rfl, rfl, rfl, rfl, (by show (Value.int .i64 _) = Value.int .i64 _; simp), rfl, rfl, trivial⟩ ⟨(by show (flat srcC (out ++ [(⟨z5.kind, z5.cell, z5.cls, (max z5.lo lo), (min z5.hi hi)⟩ : Src)]) : List Value) = ((flat srcC out) ++ [(iV z5.kind), (iV z5.cell), (iV z5.cls), (iV ((max z5.lo lo))), (iV ((min z5.hi hi)))]); simp [flat_snoc, srcC]), trivial⟩ (fun _ _ h => h) rslides_wf19 rslides_wf7 hat1 (fun a w hat => .inl ⟨rfl, ⟨((out ++ [(⟨z5.kind, z5.cell, z5.cls, (max z5.lo lo), (min z5.hi hi)⟩ : Src)]), (i + 1)), ?_, ?_, hat⟩⟩)
                      · show (l.length - ((i + 1) : Int)).toNat < (l.length - i).toNat
                        omega
                      · show 0 ≤ ((i + 1) : Int) ∧ ((i + 1) : Int) ≤ l.length ∧ (((out ++ [(⟨z5.kind, z5.cell, z5.cls, (max z5.lo lo), (min z5.hi hi)⟩ : Src)]) : List Src).length : Int) ≤ ((i + 1) : Int) ∧ ((out ++ [(⟨z5.kind, z5.cell, z5.cls, (max z5.lo lo), (min z5.hi hi)⟩ : Src)]) : List Src) = (l.take ((i + 1) : Int).toNat).filterMap (slideF x0 x1 x2 x3 x4 x5 x6 x7 l lag)
                        have e1 : (i + 1).toNat = i.toNat + 1 := by omega
                        refine ⟨by omega, by omega, by first | (simp; omega) | omega, ?_⟩
                        rw [e1]
                        have hF : slideF x0 x1 x2 x3 x4 x5 x6 x7 l lag z5 = some (⟨z5.kind, z5.cell, z5.cls, (max z5.lo lo), (min z5.hi hi)⟩ : Src) := by
                          first
                          | (have hk : ¬ z5.kind = 2 := by omega
                             unfold slideF slideOne
                             simp only [if_neg hk]
                             rw [if_pos (by omega)])
                          | (have hO : offZ x0 x1 x2 x3 x4 x5 x6 x7 z5.cell lag l = (lo, hi) := (by have h := j4 rfl; rw [show k.toNat = l.length by omega, List.take_length] at h; rw [hz5]; exact h)
                             have hk : z5.kind = 2 := by omega
                             unfold slideF slideOne
                             simp only [if_pos hk, hO]
                             rw [if_pos (by omega)])
                          | (have hO : offZ x0 x1 x2 x3 x4 x5 x6 x7 z5.cell lag l = (1099511627776, 0) := (by have h := j5 rfl; rw [show k.toNat = l.length by omega, List.take_length] at h; rw [hz5]; exact h)
                             have hk : z5.kind = 2 := by omega
                             unfold slideF slideOne
                             simp only [if_pos hk, hO]
                             rw [if_pos (by omega)])
                        rw [filterMap_some (slideF x0 x1 x2 x3 x4 x5 x6 x7 l lag) srcD (i := i.toNat) (y := (⟨z5.kind, z5.cell, z5.cls, (max z5.lo lo), (min z5.hi hi)⟩ : Src)) (by omega) (by rw [← hz5]; exact hF), ← i3]
                    · let r24 : Rho := (Rho.of [(iV x0), (iV x1), (iV x2), (iV x3), (iV x4), (iV x5), (iV x6), (iV x7), (.slice al l.length ql), (iV lag), (iV (((out.length : Nat) : Int))), (iV i), (iV (((l.length : Nat) : Int))), (.pointer (ptrO al ((i).toNat * 5))), (iV z5.kind), (iV z5.cell), (iV z5.cls), (iV z5.lo), (iV z5.hi), (iV k), (iV lo), (iV hi), (iV (((l.length : Nat) : Int))), (iV ((max z5.lo lo))), (iV ((min z5.hi hi)))] (fun b => w0.heap[b]?) [(flat srcC out)])
                      have hat1 : @At r24 w0 rslides_fr18 rslides_st18 a w := At.shiftL (ρ1 := p18) (ρ2 := r24) (σ := [sy 0, sy 1, sy 2, sy 3, sy 4, sy 5, sy 6, sy 7, sy 8, sy 9, sy 10, sy 11, sy 12, sy 13, sy 14, sy 15, sy 16, sy 17, sy 18, sy 19, sy 20, sy 21, sy 22]) (π := [0, 1, 2]) (τ := [some 0]) ⟨rfl, rfl, rfl, rfl, rfl, rfl, rfl, rfl, rfl, rfl, rfl, rfl, rfl, rfl, rfl, rfl, rfl, rfl, rfl, rfl, rfl, rfl, rfl, rfl, rfl, rfl, rfl, rfl, rfl, rfl, rfl, rfl, rfl, rfl, rfl, rfl, rfl, rfl, rfl, rfl, rfl, rfl, rfl, rfl, rfl, rfl, trivial⟩ ⟨rfl, trivial⟩ (fun _ _ h => h) rslides_wf18 rslides_id18 hat
                      let p20 : Rho := (Rho.of [(iV x0), (iV x1), (iV x2), (iV x3), (iV x4), (iV x5), (iV x6), (iV x7), (.slice al l.length ql), (iV lag), (iV (((out.length : Nat) : Int))), (iV i), (iV (((l.length : Nat) : Int))), (.pointer (ptrO al ((i).toNat * 5))), (iV z5.kind), (iV z5.cell), (iV z5.cls), (iV z5.lo), (iV z5.hi), (iV k), (iV lo), (iV hi), (iV (((l.length : Nat) : Int))), (iV ((max z5.lo lo))), (iV ((min z5.hi hi)))] (fun b => w0.heap[b]?) [(flat srcC out)])
                      refine At.pieceL (ρ1 := r24) (ρ2 := p20) (@Env.Ok.symL r24 _ _ (@env_ok r24) rslides_e24 rslides_c24 rslides_l24 rslides_cl24 ⟨⟨rfl, rfl, fun w hm => (show KO w (.bi 2 [3, 3]) [(iV z5.lo), (iV lo)] (iV ((max z5.lo lo))) from k_max)⟩, ⟨rfl, rfl, fun w hm => (show KO w (.bi 3 [3, 3]) [(iV z5.hi), (iV hi)] (iV ((min z5.hi hi))) from k_min)⟩, ⟨rfl, rfl, fun w hm => (show KO w (.bin .leq 3) [(iV ((max z5.lo lo))), (iV ((min z5.hi hi)))] (.bool false) from k_leq_f c17)⟩, trivial⟩ trivial trivial trivial) rslides_r24 ⟨rfl, rfl, rfl, rfl, rfl, rfl, rfl, rfl, rfl, rfl, rfl, rfl, rfl, rfl, rfl, rfl, rfl, rfl, rfl, rfl, rfl, rfl, rfl, rfl, rfl, rfl, rfl, rfl, rfl, rfl, rfl, rfl, rfl, rfl, rfl, rfl, rfl, rfl, rfl, rfl, rfl, rfl, rfl, rfl, rfl, rfl, rfl, rfl, rfl, rfl, trivial⟩ ⟨rfl, trivial⟩ (fun _ _ h => h) rslides_wf18 rslides_wf20 hat1 (fun a w hat => .inr ⟨(fun q => nomatch q), .inl ⟨rfl, ?_⟩⟩)
                      let r25 : Rho := (Rho.of [(iV x0), (iV x1), (iV x2), (iV x3), (iV x4), (iV x5), (iV x6), (iV x7), (.slice al l.length ql), (iV lag), (iV (((out.length : Nat) : Int))), (iV i), (iV (((l.length : Nat) : Int))), (.pointer (ptrO al ((i).toNat * 5))), (iV z5.kind), (iV z5.cell), (iV z5.cls), (iV z5.lo), (iV z5.hi), (iV k), (iV lo), (iV hi), (iV (((l.length : Nat) : Int))), (iV ((max z5.lo lo))), (iV ((min z5.hi hi))), (iV ((i + 1)))] (fun b => w0.heap[b]?) [(flat srcC out)])
                      have hat1 : @At r25 w0 rslides_fr20 rslides_st20 a w := At.shiftL (ρ1 := p20) (ρ2 := r25) (σ := [sy 0, sy 1, sy 2, sy 3, sy 4, sy 5, sy 6, sy 7, sy 8, sy 9, sy 10, sy 11, sy 12, sy 13, sy 14, sy 15, sy 16, sy 17, sy 18, sy 19, sy 20, sy 21, sy 22, sy 23, sy 24]) (π := [0, 1, 2]) (τ := [some 0]) ⟨rfl, rfl, rfl, rfl, rfl, rfl, rfl, rfl, rfl, rfl, rfl, rfl, rfl, rfl, rfl, rfl, rfl, rfl, rfl, rfl, rfl, rfl, rfl, rfl, rfl, rfl, rfl, rfl, rfl, rfl, rfl, rfl, rfl, rfl, rfl, rfl, rfl, rfl, rfl, rfl, rfl, rfl, rfl, rfl, rfl, rfl, rfl, rfl, rfl, rfl, trivial⟩ ⟨rfl, trivial⟩ (fun _ _ h => h) rslides_wf20 rslides_id20 hat
                      refine At.pieceL (ρ1 := r25) (ρ2 := (Rho.of [(iV x0), (iV x1), (iV x2), (iV x3), (iV x4), (iV x5), (iV x6), (iV x7), (.slice al l.length ql), (iV lag), (iV ((((out : List Src).length : Nat) : Int))), (iV (((i + 1) : Int)))] (fun b => w0.heap[b]?) [(flat srcC (out : List Src))])) (@Env.Ok.symL r25 _ _ (@env_ok r25) rslides_e25 rslides_c25 rslides_l25 rslides_cl25 ⟨⟨rfl, rfl, fun w hm => (show KO w (.bin .add 3) [(iV i), (iV 1)] (iV ((i + 1))) from k_add (wrap64 (by omega)))⟩, trivial⟩ trivial trivial trivial) rslides_r25 ⟨rfl, rfl, rfl, rfl, rfl, rfl, rfl, rfl, rfl, rfl, rfl, rfl, rfl, rfl, rfl, rfl, rfl, rfl, rfl, rfl, rfl, rfl, rfl, rfl, trivial⟩ ⟨rfl, trivial⟩ (fun _ _ h => h) rslides_wf20 rslides_wf7 hat1 (fun a w hat => .inl ⟨rfl, ⟨(out, (i + 1)), ?_, ?_, hat⟩⟩)
                      · show (l.length - ((i + 1) : Int)).toNat < (l.length - i).toNat
                        omega
                      · show 0 ≤ ((i + 1) : Int) ∧ ((i + 1) : Int) ≤ l.length ∧ ((out : List Src).length : Int) ≤ ((i + 1) : Int) ∧ (out : List Src) = (l.take ((i + 1) : Int).toNat).filterMap (slideF x0 x1 x2 x3 x4 x5 x6 x7 l lag)
                        have e1 : (i + 1).toNat = i.toNat + 1 := by omega
                        refine ⟨by omega, by omega, by first | (simp; omega) | omega, ?_⟩
                        rw [e1]
                        have hF : slideF x0 x1 x2 x3 x4 x5 x6 x7 l lag z5 = none := by
                          first
                          | (have hk : ¬ z5.kind = 2 := by omega
                             unfold slideF slideOne
                             simp only [if_neg hk]
                             rw [if_pos (by omega)])
                          | (have hO : offZ x0 x1 x2 x3 x4 x5 x6 x7 z5.cell lag l = (lo, hi) := (by have h := j4 rfl; rw [show k.toNat = l.length by omega, List.take_length] at h; rw [hz5]; exact h)
                             have hk : z5.kind = 2 := by omega
                             unfold slideF slideOne
                             simp only [if_pos hk, hO]
                             rw [if_neg (by omega)])
                          | (have hO : offZ x0 x1 x2 x3 x4 x5 x6 x7 z5.cell lag l = (1099511627776, 0) := (by have h := j5 rfl; rw [show k.toNat = l.length by omega, List.take_length] at h; rw [hz5]; exact h)
                             have hk : z5.kind = 2 := by omega
                             unfold slideF slideOne
                             simp only [if_pos hk, hO]
                             rw [if_neg (by omega)])
                        rw [filterMap_none (slideF x0 x1 x2 x3 x4 x5 x6 x7 l lag) srcD (i := i.toNat) (by omega) (by rw [← hz5]; exact hF), ← i3]
              · show 0 ≤ (0 : Int) ∧ (0 : Int) ≤ l.length ∧ (0 ≤ (0 : Int) ∧ (0 : Int) ≤ 4000000000) ∧ (0 ≤ (0 : Int) ∧ (0 : Int) ≤ 4000000000) ∧ ((false : Bool) = true → offZ x0 x1 x2 x3 x4 x5 x6 x7 (l.getD i.toNat srcD).cell lag (l.take (0 : Int).toNat) = ((0 : Int), (0 : Int))) ∧ ((false : Bool) = false → offZ x0 x1 x2 x3 x4 x5 x6 x7 (l.getD i.toNat srcD).cell lag (l.take (0 : Int).toNat) = (1099511627776, 0))
                exact ⟨by omega, by omega, by omega, by omega, (fun h => nomatch h), (fun _ => rfl)⟩
          · let r26 : Rho := (Rho.of [(iV x0), (iV x1), (iV x2), (iV x3), (iV x4), (iV x5), (iV x6), (iV x7), (.slice al l.length ql), (iV lag), (iV (((out.length : Nat) : Int))), (iV i), (iV (((l.length : Nat) : Int)))] (fun b => w0.heap[b]?) [(flat srcC out)])
            have hat1 : @At r26 w0 rslides_fr7 rslides_st7 a w := At.shiftL (ρ1 := p7) (ρ2 := r26) (σ := [sy 0, sy 1, sy 2, sy 3, sy 4, sy 5, sy 6, sy 7, sy 8, sy 9, sy 10, sy 11]) (π := [0, 1]) (τ := [some 0]) ⟨rfl, rfl, rfl, rfl, rfl, rfl, rfl, rfl, rfl, rfl, rfl, rfl, rfl, rfl, rfl, rfl, rfl, rfl, rfl, rfl, rfl, rfl, rfl, rfl, trivial⟩ ⟨rfl, trivial⟩ (fun _ _ h => h) rslides_wf7 rslides_id7 hat
            let p21 : Rho := (Rho.of [(iV x0), (iV x1), (iV x2), (iV x3), (iV x4), (iV x5), (iV x6), (iV x7), (.slice al l.length ql), (iV lag), (iV (((out.length : Nat) : Int)))] (fun b => w0.heap[b]?) [(flat srcC out)])
            refine At.pieceL (ρ1 := r26) (ρ2 := p21) (@Env.Ok.symL r26 _ _ (@env_ok r26) rslides_e26 rslides_c26 rslides_l26 rslides_cl26 ⟨⟨rfl, rfl, fun w hm => (show KO w (.bi 0 [38]) [(.slice al l.length ql)] (iV (((l.length : Nat) : Int))) from k_len Try.underlying38)⟩, ⟨rfl, rfl, fun w hm => (show KO w (.bin .lss 3) [(iV i), (iV (((l.length : Nat) : Int)))] (.bool false) from k_lss_f c4)⟩, trivial⟩ trivial trivial trivial) rslides_r26 ⟨rfl, rfl, rfl, rfl, rfl, rfl, rfl, rfl, rfl, rfl, rfl, rfl, rfl, rfl, rfl, rfl, rfl, rfl, rfl, rfl, rfl, rfl, trivial⟩ ⟨rfl, trivial⟩ (fun _ _ h => h) rslides_wf7 rslides_wf21 hat1 (fun a w hat => .inr ⟨(fun q => nomatch q), .inr ⟨.inl ⟨0, rfl⟩, .inl ⟨rfl, .inl ⟨rfl, ?_⟩⟩⟩⟩)
            let r27 : Rho := (Rho.of [(iV x0), (iV x1), (iV x2), (iV x3), (iV x4), (iV x5), (iV x6), (iV x7), (.slice al l.length ql), (iV lag), (iV (((out.length : Nat) : Int)))] (fun b => w0.heap[b]?) [(flat srcC out)])
            have hat1 : @At r27 w0 rslides_fr21 rslides_st21 a w := At.shiftL (ρ1 := p21) (ρ2 := r27) (σ := [sy 0, sy 1, sy 2, sy 3, sy 4, sy 5, sy 6, sy 7, sy 8, sy 9, sy 10]) (π := [0]) (τ := [some 0]) ⟨rfl, rfl, rfl, rfl, rfl, rfl, rfl, rfl, rfl, rfl, rfl, rfl, rfl, rfl, rfl, rfl, rfl, rfl, rfl, rfl, rfl, rfl, trivial⟩ ⟨rfl, trivial⟩ (fun _ _ h => h) rslides_wf21 rslides_id21 hat
            refine @At.lastK r27 Try.prog (env.symL [] [] [] []) (@Env.Ok.symL r27 _ _ (@env_ok r27) [] [] [] [] trivial trivial trivial trivial) w0 3000 rslides_b12 Try.f36 rslides_fr21 rslides_st21 _ _ rslides_r27 rslides_wf21 a w hat1 (@endL_ok r27 Try.prog w0 (.tuple #[(.pointer (some ⟨0, 10, some 2⟩)), (iV 0)]) 0 10 0 54 5 (out.length) (some [(iV 0)]) (fun en w' => ∃ a C, en = .returned (.tuple #[.slice a (slidesL x0 x1 x2 x3 x4 x5 x6 x7 l lag).length C, iV (slErr x0 x1 x2 x3 x4 x5 x6 x7 l lag)]) ∧ NewList w0 w' 54 5 (flat srcC (slidesL x0 x1 x2 x3 x4 x5 x6 x7 l lag)) a (slidesL x0 x1 x2 x3 x4 x5 x6 x7 l lag).length C ∧ Below w0.heap.size w0 w') rfl rfl (by show ((flat srcC out) : List Value).length = (out.length) * 5; first | exact flat_len (fun _ => rfl) _ | simp [flat_len (c := srcC) (sz := 5) (fun _ => rfl), srcC] <;> omega) (fun w2 a2 C2 hb hn => ?_))
            have v0 : (0 : Int) = slErr x0 x1 x2 x3 x4 x5 x6 x7 l lag := by
              unfold slErr
              first | (rw [if_pos (by omega)]; omega) | (rw [if_neg (by omega), if_pos (by omega)]) | (rw [if_neg (by omega), if_neg (by omega)])
            have hL : out = slidesL x0 x1 x2 x3 x4 x5 x6 x7 l lag := by
              unfold slidesL
              first
                | (have hE : ¬ slErr x0 x1 x2 x3 x4 x5 x6 x7 l lag = 0 := by omega
                   rw [if_neg hE])
                | (have hE : slErr x0 x1 x2 x3 x4 x5 x6 x7 l lag = 0 := by omega
                   rw [if_pos hE, i3, show i.toNat = l.length by omega, List.take_length])
            have e1 : out.length = (slidesL x0 x1 x2 x3 x4 x5 x6 x7 l lag).length := by rw [← hL]; try first | rfl | simp
            have e2 : ((flat srcC out) : List Value) = flat srcC (slidesL x0 x1 x2 x3 x4 x5 x6 x7 l lag) := by rw [← hL]; try first | rfl | simp [flat_snoc, srcC]
            have hn2 : NewList w0 w2 54 5 (flat srcC (slidesL x0 x1 x2 x3 x4 x5 x6 x7 l lag)) a2 (slidesL x0 x1 x2 x3 x4 x5 x6 x7 l lag).length C2 := by rw [← e1, ← e2]; exact hn
            have hv := congr (congrArg (fun (n2 : Nat) (y0 : Int) => (.tuple #[.slice a2 n2 C2, iV y0] : Value)) e1) v0
            exact ⟨a2, C2, congrArg Ending.returned hv, hn2, hb⟩
        · show 0 ≤ (0 : Int) ∧ (0 : Int) ≤ l.length ∧ (([] : List Src).length : Int) ≤ (0 : Int) ∧ ([] : List Src) = (l.take (0 : Int).toNat).filterMap (slideF x0 x1 x2 x3 x4 x5 x6 x7 l lag)
          exact ⟨by omega, by omega, by simp, rfl⟩
      · let r28 : Rho := (Rho.of [(iV x0), (iV x1), (iV x2), (iV x3), (iV x4), (iV x5), (iV x6), (iV x7), (.slice al l.length ql), (iV lag)] (fun b => w0.heap[b]?) [])
        have hat1 : @At r28 w0 rslides_fr3 rslides_st3 a w := At.shiftL (ρ1 := p3) (ρ2 := r28) (σ := [sy 0, sy 1, sy 2, sy 3, sy 4, sy 5, sy 6, sy 7, sy 8, sy 9]) (π := [0]) (τ := []) ⟨rfl, rfl, rfl, rfl, rfl, rfl, rfl, rfl, rfl, rfl, rfl, rfl, rfl, rfl, rfl, rfl, rfl, rfl, rfl, rfl, trivial⟩ trivial (fun _ _ h => h) rslides_wf3 rslides_id3 hat
        refine @At.retGK r28 Try.prog (env.symL rslides_e28 rslides_c28 rslides_l28 rslides_cl28) (@Env.Ok.symL r28 _ _ (@env_ok r28) rslides_e28 rslides_c28 rslides_l28 rslides_cl28 ⟨⟨rfl, rfl, fun w hm => (show KO w (.bin .geq 3) [(iV lag), (iV 0)] (.bool true) from k_geq_t c2)⟩, ⟨rfl, rfl, fun w hm => (show KO w (.bin .leq 3) [(iV lag), (iV 100000000)] (.bool false) from k_leq_f c3)⟩, trivial⟩ trivial trivial trivial) w0 3000 rslides_b7 Try.f36 rslides_fr3 rslides_st3 _ _ rslides_r28 rslides_wf3 a w hat1 (@endV_ok r28 w0 (.tuple #[(.slice .none 0 0), (iV 3)]) (fun en w' => ∃ a C, en = .returned (.tuple #[.slice a (slidesL x0 x1 x2 x3 x4 x5 x6 x7 l lag).length C, iV (slErr x0 x1 x2 x3 x4 x5 x6 x7 l lag)]) ∧ NewList w0 w' 54 5 (flat srcC (slidesL x0 x1 x2 x3 x4 x5 x6 x7 l lag)) a (slidesL x0 x1 x2 x3 x4 x5 x6 x7 l lag).length C ∧ Below w0.heap.size w0 w') rfl (fun w2 hb => ?_)) _ (fun a w h => .inr ⟨(fun q => nomatch q), h⟩)
        have v0 : (3 : Int) = slErr x0 x1 x2 x3 x4 x5 x6 x7 l lag := by
          unfold slErr
          first | (rw [if_pos (by omega)]; omega) | (rw [if_neg (by omega), if_pos (by omega)]) | (rw [if_neg (by omega), if_neg (by omega)])
        have hL : [] = slidesL x0 x1 x2 x3 x4 x5 x6 x7 l lag := by
          unfold slidesL
          first
            | (have hE : ¬ slErr x0 x1 x2 x3 x4 x5 x6 x7 l lag = 0 := by omega
               rw [if_neg hE])
            | (have hE : slErr x0 x1 x2 x3 x4 x5 x6 x7 l lag = 0 := by omega
               rw [if_pos hE, i3, show i.toNat = l.length by omega, List.take_length])
        have hN : (slidesL x0 x1 x2 x3 x4 x5 x6 x7 l lag).length = 0 := by rw [← hL]; rfl
        refine ⟨none, 0, ?_, ⟨?_, .inl ⟨rfl, hN, rfl⟩⟩, hb⟩
        · rw [hN]; exact congrArg Ending.returned (congrArg (fun (y0 : Int) => (.tuple #[.slice none 0 0, iV y0] : Value)) v0)
        · rw [← hL]; rfl
    · let r29 : Rho := (Rho.of [(iV x0), (iV x1), (iV x2), (iV x3), (iV x4), (iV x5), (iV x6), (iV x7), (.slice al l.length ql), (iV lag)] (fun b => w0.heap[b]?) [])
      have hat1 : @At r29 w0 rslides_fr3 rslides_st3 a w := At.shiftL (ρ1 := p3) (ρ2 := r29) (σ := [sy 0, sy 1, sy 2, sy 3, sy 4, sy 5, sy 6, sy 7, sy 8, sy 9]) (π := [0]) (τ := []) ⟨rfl, rfl, rfl, rfl, rfl, rfl, rfl, rfl, rfl, rfl, rfl, rfl, rfl, rfl, rfl, rfl, rfl, rfl, rfl, rfl, trivial⟩ trivial (fun _ _ h => h) rslides_wf3 rslides_id3 hat
      refine @At.retGK r29 Try.prog (env.symL rslides_e29 rslides_c29 rslides_l29 rslides_cl29) (@Env.Ok.symL r29 _ _ (@env_ok r29) rslides_e29 rslides_c29 rslides_l29 rslides_cl29 ⟨⟨rfl, rfl, fun w hm => (show KO w (.bin .geq 3) [(iV lag), (iV 0)] (.bool false) from k_geq_f c2)⟩, trivial⟩ trivial trivial trivial) w0 3000 rslides_b7 Try.f36 rslides_fr3 rslides_st3 _ _ rslides_r29 rslides_wf3 a w hat1 (@endV_ok r29 w0 (.tuple #[(.slice .none 0 0), (iV 3)]) (fun en w' => ∃ a C, en = .returned (.tuple #[.slice a (slidesL x0 x1 x2 x3 x4 x5 x6 x7 l lag).length C, iV (slErr x0 x1 x2 x3 x4 x5 x6 x7 l lag)]) ∧ NewList w0 w' 54 5 (flat srcC (slidesL x0 x1 x2 x3 x4 x5 x6 x7 l lag)) a (slidesL x0 x1 x2 x3 x4 x5 x6 x7 l lag).length C ∧ Below w0.heap.size w0 w') rfl (fun w2 hb => ?_)) _ (fun a w h => .inr ⟨(fun q => nomatch q), h⟩)
      have v0 : (3 : Int) = slErr x0 x1 x2 x3 x4 x5 x6 x7 l lag := by
        unfold slErr
        first | (rw [if_pos (by omega)]; omega) | (rw [if_neg (by omega), if_pos (by omega)]) | (rw [if_neg (by omega), if_neg (by omega)])
      have hL : [] = slidesL x0 x1 x2 x3 x4 x5 x6 x7 l lag := by
        unfold slidesL
        first
          | (have hE : ¬ slErr x0 x1 x2 x3 x4 x5 x6 x7 l lag = 0 := by omega
             rw [if_neg hE])
          | (have hE : slErr x0 x1 x2 x3 x4 x5 x6 x7 l lag = 0 := by omega
             rw [if_pos hE, i3, show i.toNat = l.length by omega, List.take_length])
      have hN : (slidesL x0 x1 x2 x3 x4 x5 x6 x7 l lag).length = 0 := by rw [← hL]; rfl
      refine ⟨none, 0, ?_, ⟨?_, .inl ⟨rfl, hN, rfl⟩⟩, hb⟩
      · rw [hN]; exact congrArg Ending.returned (congrArg (fun (y0 : Int) => (.tuple #[.slice none 0 0, iV y0] : Value)) v0)
      · rw [← hL]; rfl
end Go.Proofs.Ytoaehigmpbhppaa.En
