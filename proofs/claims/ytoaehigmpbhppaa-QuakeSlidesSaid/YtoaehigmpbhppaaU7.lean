/-
  Slides returns the list that the chapter asks for.
-/
import Derived.Test.YtoaehigmpbhppaaU6
namespace Go.Proofs.Ytoaehigmpbhppaa.En
open Go Go.Ev Go.Proofs Go.RowKit
set_option linter.unusedSimpArgs false
set_option linter.unusedVariables false
noncomputable def slides_b0 : Code := (Try.f35.body).getD .skip

noncomputable def slides_fr0 : Fr := mkFr Try.f35 [(0, (.agg #[(.chan (.some 0)), (.chan (.some 1)), (.chan (.some 2)), (.chan (.some 3)), (.chan (.some 4)), (.chan (.some 5)), (.chan (.some 6)), (.chan (.some 7))])), (1, (.chan (.some 8))), (2, (.chan (.some 9)))] []
noncomputable def slides_st0 : St := mkSt 0 []
theorem slides_wf0 : slides_st0.Wf := mkSt_wf rfl
set_option maxRecDepth 1000000 in
theorem slides_id0 : agreeL [sy 0, sy 1, sy 2, sy 3, sy 4, sy 5, sy 6, sy 7, sy 8, sy 9] [] [] slides_fr0 slides_st0 slides_fr0 slides_st0 = true := by kernel_rfl

set_option maxRecDepth 1000000 in
theorem slides_a0 : agreeL [sy 0, sy 1, sy 2, sy 3, sy 4, sy 5, sy 6, sy 7, sy 8, sy 9] [] [] slides_fr0 slides_st0 (frameOf Try.f35 [(.agg #[(.chan (.some 0)), (.chan (.some 1)), (.chan (.some 2)), (.chan (.some 3)), (.chan (.some 4)), (.chan (.some 5)), (.chan (.some 6)), (.chan (.some 7))]), (.chan (.some 8)), (.chan (.some 9))]) Ev.start = true := by kernel_rfl

noncomputable def slides_b1 : Code := headC slides_b0

noncomputable def slides_b2 : Code := tailC slides_b0

set_option maxRecDepth 1000000 in
theorem slides_q0 : slides_b0 = .seq slides_b1 slides_b2 := by kernel_rfl

noncomputable def slides_fr1 : Fr := mkFr Try.f35 [(1, (.chan (.some 8))), (2, (.chan (.some 9))), (3, (.pointer (.some (.mk 0 0 .none)))), (6, (.slice .none 0 0)), (7, (iV (.ofNat 0)))] []
noncomputable def slides_st1 : St := mkSt 1 [(0, (.cells [(.chan (.some 0)), (.chan (.some 1)), (.chan (.some 2)), (.chan (.some 3)), (.chan (.some 4)), (.chan (.some 5)), (.chan (.some 6)), (.chan (.some 7))] 25 .none .false))]
theorem slides_wf1 : slides_st1.Wf := mkSt_wf rfl
set_option maxRecDepth 1000000 in
theorem slides_id1 : agreeL [sy 0, sy 1, sy 2, sy 3, sy 4, sy 5, sy 6, sy 7, sy 8, sy 9] [0] [] slides_fr1 slides_st1 slides_fr1 slides_st1 = true := by kernel_rfl

set_option maxRecDepth 1000000 in
theorem slides_r0 : ev Try.prog (env.symL [] [] [] []) 3000 (.code slides_b1 none slides_fr0 slides_st0 (stopL .normal [sy 0, sy 1, sy 2, sy 3, sy 4, sy 5, sy 6, sy 7, sy 8, sy 9] [0] [] slides_fr1 slides_st1)) = some () := by kernel_rfl

noncomputable def slides_b3 : Code := headC slides_b2

noncomputable def slides_b4 : Code := tailC slides_b2

set_option maxRecDepth 1000000 in
theorem slides_q1 : slides_b2 = .seq slides_b3 slides_b4 := by kernel_rfl

noncomputable def slides_e1 : List Ent := [⟨(.bin .neq 27), [(sy 10), (iV 0)], (.bool true)⟩]
noncomputable def slides_c1 : List CEnt := [⟨24, [(.agg #[(sy 0), (sy 1), (sy 2), (sy 3), (sy 4), (sy 5), (sy 6), (sy 7)]), (sy 8)], [], (sy 10)⟩]
noncomputable def slides_l1 : List LEnt := []
noncomputable def slides_cl1 : List CLEnt := []

set_option maxRecDepth 1000000 in
theorem slides_r1 : ev Try.prog (env.symL slides_e1 slides_c1 slides_l1 slides_cl1) 3000 (.code slides_b3 none slides_fr1 slides_st1 (stopRK (env.symL slides_e1 slides_c1 slides_l1 slides_cl1) Try.f35 (endV (.tuple #[(.slice .none 0 0), (sy 10)])))) = some () := by kernel_rfl

noncomputable def slides_e2 : List Ent := [⟨(.bin .neq 27), [(sy 10), (iV 0)], (.bool false)⟩]
noncomputable def slides_c2 : List CEnt := [⟨24, [(.agg #[(sy 0), (sy 1), (sy 2), (sy 3), (sy 4), (sy 5), (sy 6), (sy 7)]), (sy 8)], [], (sy 10)⟩]
noncomputable def slides_l2 : List LEnt := []
noncomputable def slides_cl2 : List CLEnt := []

noncomputable def slides_fr2 : Fr := mkFr Try.f35 [(1, (.chan (.some 8))), (2, (.chan (.some 9))), (3, (.pointer (.some (.mk 0 0 .none)))), (6, (.slice .none 0 0)), (7, (iV (.ofNat 0)))] []
noncomputable def slides_st2 : St := mkSt 1 [(0, (.cells [(.chan (.some 0)), (.chan (.some 1)), (.chan (.some 2)), (.chan (.some 3)), (.chan (.some 4)), (.chan (.some 5)), (.chan (.some 6)), (.chan (.some 7))] 25 .none .false))]
theorem slides_wf2 : slides_st2.Wf := mkSt_wf rfl
set_option maxRecDepth 1000000 in
theorem slides_id2 : agreeL [sy 0, sy 1, sy 2, sy 3, sy 4, sy 5, sy 6, sy 7, sy 8, sy 9] [0] [] slides_fr2 slides_st2 slides_fr2 slides_st2 = true := by kernel_rfl

set_option maxRecDepth 1000000 in
theorem slides_r2 : ev Try.prog (env.symL slides_e2 slides_c2 slides_l2 slides_cl2) 3000 (.code slides_b3 none slides_fr1 slides_st1 (stopL .normal [sy 0, sy 1, sy 2, sy 3, sy 4, sy 5, sy 6, sy 7, sy 8, sy 9] [0] [] slides_fr2 slides_st2)) = some () := by kernel_rfl

noncomputable def slides_b5 : Code := headC slides_b4

noncomputable def slides_b6 : Code := tailC slides_b4

set_option maxRecDepth 1000000 in
theorem slides_q2 : slides_b4 = .seq slides_b5 slides_b6 := by kernel_rfl

noncomputable def slides_e3 : List Ent := [⟨(.bin .geq 3), [(sy 9), (iV 0)], (.bool true)⟩, ⟨(.bin .leq 3), [(sy 9), (iV 100000000)], (.bool true)⟩]
noncomputable def slides_c3 : List CEnt := []
noncomputable def slides_l3 : List LEnt := []
noncomputable def slides_cl3 : List CLEnt := []

noncomputable def slides_fr3 : Fr := mkFr Try.f35 [(1, (.chan (.some 8))), (2, (.chan (.some 9))), (3, (.pointer (.some (.mk 0 0 .none)))), (6, (.slice .none 0 0)), (7, (iV (.ofNat 0)))] []
noncomputable def slides_st3 : St := mkSt 1 [(0, (.cells [(.chan (.some 0)), (.chan (.some 1)), (.chan (.some 2)), (.chan (.some 3)), (.chan (.some 4)), (.chan (.some 5)), (.chan (.some 6)), (.chan (.some 7))] 25 .none .false))]
theorem slides_wf3 : slides_st3.Wf := mkSt_wf rfl
set_option maxRecDepth 1000000 in
theorem slides_id3 : agreeL [sy 0, sy 1, sy 2, sy 3, sy 4, sy 5, sy 6, sy 7, sy 8, sy 9] [0] [] slides_fr3 slides_st3 slides_fr3 slides_st3 = true := by kernel_rfl

set_option maxRecDepth 1000000 in
theorem slides_r3 : ev Try.prog (env.symL slides_e3 slides_c3 slides_l3 slides_cl3) 3000 (.code slides_b5 none slides_fr2 slides_st2 (stopL .normal [sy 0, sy 1, sy 2, sy 3, sy 4, sy 5, sy 6, sy 7, sy 8, sy 9] [0] [] slides_fr3 slides_st3)) = some () := by kernel_rfl

noncomputable def slides_b7 : Code := headC slides_b6

noncomputable def slides_b8 : Code := tailC slides_b6

set_option maxRecDepth 1000000 in
theorem slides_q3 : slides_b6 = .seq slides_b7 slides_b8 := by kernel_rfl

noncomputable def slides_fr4 : Fr := mkFr Try.f35 [(1, (.chan (.some 8))), (2, (.chan (.some 9))), (3, (.pointer (.some (.mk 0 0 .none)))), (6, (.slice .none 0 0)), (7, (iV (.ofNat 0))), (9, (.slice .none 0 0))] []
noncomputable def slides_st4 : St := mkSt 1 [(0, (.cells [(.chan (.some 0)), (.chan (.some 1)), (.chan (.some 2)), (.chan (.some 3)), (.chan (.some 4)), (.chan (.some 5)), (.chan (.some 6)), (.chan (.some 7))] 25 .none .false))]
theorem slides_wf4 : slides_st4.Wf := mkSt_wf rfl
set_option maxRecDepth 1000000 in
theorem slides_id4 : agreeL [sy 0, sy 1, sy 2, sy 3, sy 4, sy 5, sy 6, sy 7, sy 8, sy 9] [0] [] slides_fr4 slides_st4 slides_fr4 slides_st4 = true := by kernel_rfl

set_option maxRecDepth 1000000 in
theorem slides_r4 : ev Try.prog (env.symL [] [] [] []) 3000 (.code slides_b7 none slides_fr3 slides_st3 (stopL .normal [sy 0, sy 1, sy 2, sy 3, sy 4, sy 5, sy 6, sy 7, sy 8, sy 9] [0] [] slides_fr4 slides_st4)) = some () := by kernel_rfl

noncomputable def slides_b9 : Code := headC slides_b8

noncomputable def slides_b10 : Code := tailC slides_b8

set_option maxRecDepth 1000000 in
theorem slides_q4 : slides_b8 = .seq slides_b9 slides_b10 := by kernel_rfl

noncomputable def slides_b11 : Code := headC slides_b9

noncomputable def slides_b12 : Code := tailC slides_b9

set_option maxRecDepth 1000000 in
theorem slides_q5 : slides_b9 = .seq slides_b11 slides_b12 := by kernel_rfl

noncomputable def slides_e5 : List Ent := [⟨(.bi 0 [38]), [(sy 8)], (sy 10)⟩]
noncomputable def slides_c5 : List CEnt := []
noncomputable def slides_l5 : List LEnt := []
noncomputable def slides_cl5 : List CLEnt := []

noncomputable def slides_fr5 : Fr := mkFr Try.f35 [(1, (.chan (.some 8))), (2, (.chan (.some 9))), (3, (.pointer (.some (.mk 0 0 .none)))), (6, (.slice .none 0 0)), (7, (iV (.ofNat 0))), (9, (.slice .none 0 0)), (21, (.chan (.some 8))), (22, (.chan (.some 10))), (23, (iV (.ofNat 0)))] []
noncomputable def slides_st5 : St := mkSt 1 [(0, (.cells [(.chan (.some 0)), (.chan (.some 1)), (.chan (.some 2)), (.chan (.some 3)), (.chan (.some 4)), (.chan (.some 5)), (.chan (.some 6)), (.chan (.some 7))] 25 .none .false))]
theorem slides_wf5 : slides_st5.Wf := mkSt_wf rfl
set_option maxRecDepth 1000000 in
theorem slides_id5 : agreeL [sy 0, sy 1, sy 2, sy 3, sy 4, sy 5, sy 6, sy 7, sy 8, sy 9, sy 10] [0] [] slides_fr5 slides_st5 slides_fr5 slides_st5 = true := by kernel_rfl

set_option maxRecDepth 1000000 in
theorem slides_r5 : ev Try.prog (env.symL slides_e5 slides_c5 slides_l5 slides_cl5) 3000 (.code slides_b11 none slides_fr4 slides_st4 (stopL .normal [sy 0, sy 1, sy 2, sy 3, sy 4, sy 5, sy 6, sy 7, sy 8, sy 9, sy 10] [0] [] slides_fr5 slides_st5)) = some () := by kernel_rfl

noncomputable def slides_b13 : Code := inBlockC slides_b12

set_option maxRecDepth 1000000 in
theorem slides_q6 : slides_b12 = .block 0 slides_b13 := by kernel_rfl

noncomputable def slides_b14 : Code := inLoopC slides_b13

set_option maxRecDepth 1000000 in
theorem slides_q7 : slides_b13 = .loop slides_b14 := by kernel_rfl

noncomputable def slides_fr6 : Fr := mkFr Try.f35 [(1, (.chan (.some 8))), (2, (.chan (.some 9))), (3, (.pointer (.some (.mk 0 0 .none)))), (6, (.slice .none 0 0)), (7, (iV (.ofNat 0))), (9, (.pointer (.some (.mk 1 11 (.some 2))))), (21, (.chan (.some 8))), (22, (.chan (.some 10))), (23, (.chan (.some 12)))] []
noncomputable def slides_st6 : St := mkSt 2 [(0, (.cells [(.chan (.some 0)), (.chan (.some 1)), (.chan (.some 2)), (.chan (.some 3)), (.chan (.some 4)), (.chan (.some 5)), (.chan (.some 6)), (.chan (.some 7))] 25 .none .false)), (1, (.lst 0 54 5))]
theorem slides_wf6 : slides_st6.Wf := mkSt_wf rfl
set_option maxRecDepth 1000000 in
theorem slides_id6 : agreeL [sy 0, sy 1, sy 2, sy 3, sy 4, sy 5, sy 6, sy 7, sy 8, sy 9, sy 10, sy 11, sy 12] [0, 1] [some 0] slides_fr6 slides_st6 slides_fr6 slides_st6 = true := by kernel_rfl

set_option maxRecDepth 1000000 in
theorem slides_h8 : agreeL [(sy 0), (sy 1), (sy 2), (sy 3), (sy 4), (sy 5), (sy 6), (sy 7), (sy 8), (sy 9), (sy 10), (iV 0), (iV 0)] [0, 1] [none] slides_fr6 slides_st6 slides_fr5 slides_st5 = true := by kernel_rfl

noncomputable def slides_e6 : List Ent := [⟨(.bin .lss 3), [(sy 12), (sy 10)], (.bool true)⟩, ⟨(.indexAddr 38), [(sy 8), (sy 12)], (sy 13)⟩, ⟨(.load 54), [(sy 13)], (.agg #[(sy 14), (sy 15), (sy 16), (sy 17), (sy 18)])⟩, ⟨(.bin .eql 3), [(sy 14), (iV 2)], (.bool true)⟩, ⟨(.bi 2 [3, 3]), [(sy 17), (sy 19)], (sy 21)⟩, ⟨(.bi 3 [3, 3]), [(sy 18), (sy 20)], (sy 22)⟩, ⟨(.bin .leq 3), [(sy 21), (sy 22)], (.bool true)⟩, ⟨(.bin .add 3), [(sy 12), (iV 1)], (sy 24)⟩]
noncomputable def slides_c6 : List CEnt := [⟨74, [(.agg #[(sy 0), (sy 1), (sy 2), (sy 3), (sy 4), (sy 5), (sy 6), (sy 7)]), (sy 8), (sy 15), (sy 9)], [], (.agg #[(sy 19), (sy 20)])⟩]
noncomputable def slides_l6 : List LEnt := [(.grow 0 11 1 5 [(sy 14), (sy 15), (sy 16), (sy 21), (sy 22)] 1 23)]
noncomputable def slides_cl6 : List CLEnt := []

set_option maxRecDepth 1000000 in
theorem slides_r6 : ev Try.prog (env.symL slides_e6 slides_c6 slides_l6 slides_cl6) 3000 (.code slides_b14 none slides_fr6 slides_st6 (stopL .normal [(sy 0), (sy 1), (sy 2), (sy 3), (sy 4), (sy 5), (sy 6), (sy 7), (sy 8), (sy 9), (sy 10), (sy 23), (sy 24)] [0, 7] [some 1] slides_fr6 slides_st6)) = some () := by kernel_rfl

noncomputable def slides_e7 : List Ent := [⟨(.bin .lss 3), [(sy 12), (sy 10)], (.bool true)⟩, ⟨(.indexAddr 38), [(sy 8), (sy 12)], (sy 13)⟩, ⟨(.load 54), [(sy 13)], (.agg #[(sy 14), (sy 15), (sy 16), (sy 17), (sy 18)])⟩, ⟨(.bin .eql 3), [(sy 14), (iV 2)], (.bool true)⟩, ⟨(.bi 2 [3, 3]), [(sy 17), (sy 19)], (sy 21)⟩, ⟨(.bi 3 [3, 3]), [(sy 18), (sy 20)], (sy 22)⟩, ⟨(.bin .leq 3), [(sy 21), (sy 22)], (.bool false)⟩, ⟨(.bin .add 3), [(sy 12), (iV 1)], (sy 23)⟩]
noncomputable def slides_c7 : List CEnt := [⟨74, [(.agg #[(sy 0), (sy 1), (sy 2), (sy 3), (sy 4), (sy 5), (sy 6), (sy 7)]), (sy 8), (sy 15), (sy 9)], [], (.agg #[(sy 19), (sy 20)])⟩]
noncomputable def slides_l7 : List LEnt := []
noncomputable def slides_cl7 : List CLEnt := []

set_option maxRecDepth 1000000 in
theorem slides_r7 : ev Try.prog (env.symL slides_e7 slides_c7 slides_l7 slides_cl7) 3000 (.code slides_b14 none slides_fr6 slides_st6 (stopL .normal [(sy 0), (sy 1), (sy 2), (sy 3), (sy 4), (sy 5), (sy 6), (sy 7), (sy 8), (sy 9), (sy 10), (sy 11), (sy 23)] [0, 1] [some 0] slides_fr6 slides_st6)) = some () := by kernel_rfl

noncomputable def slides_e8 : List Ent := [⟨(.bin .lss 3), [(sy 12), (sy 10)], (.bool true)⟩, ⟨(.indexAddr 38), [(sy 8), (sy 12)], (sy 13)⟩, ⟨(.load 54), [(sy 13)], (.agg #[(sy 14), (sy 15), (sy 16), (sy 17), (sy 18)])⟩, ⟨(.bin .eql 3), [(sy 14), (iV 2)], (.bool false)⟩, ⟨(.bin .leq 3), [(sy 17), (sy 18)], (.bool true)⟩, ⟨(.bin .add 3), [(sy 12), (iV 1)], (sy 20)⟩]
noncomputable def slides_c8 : List CEnt := []
noncomputable def slides_l8 : List LEnt := [(.grow 0 11 1 5 [(sy 14), (sy 15), (sy 16), (sy 17), (sy 18)] 1 19)]
noncomputable def slides_cl8 : List CLEnt := []

set_option maxRecDepth 1000000 in
theorem slides_r8 : ev Try.prog (env.symL slides_e8 slides_c8 slides_l8 slides_cl8) 3000 (.code slides_b14 none slides_fr6 slides_st6 (stopL .normal [(sy 0), (sy 1), (sy 2), (sy 3), (sy 4), (sy 5), (sy 6), (sy 7), (sy 8), (sy 9), (sy 10), (sy 19), (sy 20)] [0, 4] [some 1] slides_fr6 slides_st6)) = some () := by kernel_rfl

noncomputable def slides_e9 : List Ent := [⟨(.bin .lss 3), [(sy 12), (sy 10)], (.bool true)⟩, ⟨(.indexAddr 38), [(sy 8), (sy 12)], (sy 13)⟩, ⟨(.load 54), [(sy 13)], (.agg #[(sy 14), (sy 15), (sy 16), (sy 17), (sy 18)])⟩, ⟨(.bin .eql 3), [(sy 14), (iV 2)], (.bool false)⟩, ⟨(.bin .leq 3), [(sy 17), (sy 18)], (.bool false)⟩, ⟨(.bin .add 3), [(sy 12), (iV 1)], (sy 19)⟩]
noncomputable def slides_c9 : List CEnt := []
noncomputable def slides_l9 : List LEnt := []
noncomputable def slides_cl9 : List CLEnt := []

set_option maxRecDepth 1000000 in
theorem slides_r9 : ev Try.prog (env.symL slides_e9 slides_c9 slides_l9 slides_cl9) 3000 (.code slides_b14 none slides_fr6 slides_st6 (stopL .normal [(sy 0), (sy 1), (sy 2), (sy 3), (sy 4), (sy 5), (sy 6), (sy 7), (sy 8), (sy 9), (sy 10), (sy 11), (sy 19)] [0, 1] [some 0] slides_fr6 slides_st6)) = some () := by kernel_rfl

noncomputable def slides_e10 : List Ent := [⟨(.bin .lss 3), [(sy 12), (sy 10)], (.bool false)⟩]
noncomputable def slides_c10 : List CEnt := []
noncomputable def slides_l10 : List LEnt := []
noncomputable def slides_cl10 : List CLEnt := []

noncomputable def slides_fr7 : Fr := mkFr Try.f35 [(6, (.slice .none 0 0)), (7, (iV (.ofNat 0))), (9, (.pointer (.some (.mk 0 10 (.some 2)))))] []
noncomputable def slides_st7 : St := mkSt 1 [(0, (.lst 0 54 5))]
theorem slides_wf7 : slides_st7.Wf := mkSt_wf rfl
set_option maxRecDepth 1000000 in
theorem slides_id7 : agreeL [sy 0, sy 1, sy 2, sy 3, sy 4, sy 5, sy 6, sy 7, sy 8, sy 9, sy 10] [0] [some 0] slides_fr7 slides_st7 slides_fr7 slides_st7 = true := by kernel_rfl

set_option maxRecDepth 1000000 in
theorem slides_r10 : ev Try.prog (env.symL slides_e10 slides_c10 slides_l10 slides_cl10) 3000 (.code slides_b14 none slides_fr6 slides_st6 (stopL (.exit 0) [sy 0, sy 1, sy 2, sy 3, sy 4, sy 5, sy 6, sy 7, sy 8, sy 9, sy 11] [1] [some 0] slides_fr7 slides_st7)) = some () := by kernel_rfl

set_option maxRecDepth 1000000 in
theorem slides_r11 : ev Try.prog (env.symL [] [] [] []) 3000 (.code slides_b10 none slides_fr7 slides_st7 (retK (env.symL [] [] [] []) Try.f35 (endL (.tuple #[(.pointer (some ⟨0, 10, some 2⟩)), (iV 0)]) 0 0 54 5))) = some () := by kernel_rfl

noncomputable def slides_e12 : List Ent := [⟨(.bin .geq 3), [(sy 9), (iV 0)], (.bool true)⟩, ⟨(.bin .leq 3), [(sy 9), (iV 100000000)], (.bool false)⟩]
noncomputable def slides_c12 : List CEnt := []
noncomputable def slides_l12 : List LEnt := []
noncomputable def slides_cl12 : List CLEnt := []

set_option maxRecDepth 1000000 in
theorem slides_r12 : ev Try.prog (env.symL slides_e12 slides_c12 slides_l12 slides_cl12) 3000 (.code slides_b5 none slides_fr2 slides_st2 (stopRK (env.symL slides_e12 slides_c12 slides_l12 slides_cl12) Try.f35 (endV (.tuple #[(.slice .none 0 0), (iV 3)])))) = some () := by kernel_rfl

noncomputable def slides_e13 : List Ent := [⟨(.bin .geq 3), [(sy 9), (iV 0)], (.bool false)⟩]
noncomputable def slides_c13 : List CEnt := []
noncomputable def slides_l13 : List LEnt := []
noncomputable def slides_cl13 : List CLEnt := []

set_option maxRecDepth 1000000 in
theorem slides_r13 : ev Try.prog (env.symL slides_e13 slides_c13 slides_l13 slides_cl13) 3000 (.code slides_b5 none slides_fr2 slides_st2 (stopRK (env.symL slides_e13 slides_c13 slides_l13 slides_cl13) Try.f35 (endV (.tuple #[(.slice .none 0 0), (iV 3)])))) = some () := by kernel_rfl

set_option maxHeartbeats 8000000 in
set_option maxRecDepth 100000 in
theorem slides_any (x0 : Int) (x1 : Int) (x2 : Int) (x3 : Int) (x4 : Int) (x5 : Int) (x6 : Int) (x7 : Int) (al : Option Addr) (l : List Src) (ql : Nat) (lag : Int) (w0 : World) {tl : TypeId} (Hl : Lies w0 tl (flat srcC l) al l.length) (hn : l.length < 1000000) : Calls Try.prog 35 #[(.agg #[(iV x0), (iV x1), (iV x2), (iV x3), (iV x4), (iV x5), (iV x6), (iV x7)]), (.slice al l.length ql), (iV lag)] w0 (fun en w' => ∃ a C, en = .returned (.tuple #[.slice a (slidesL x0 x1 x2 x3 x4 x5 x6 x7 l lag).length C, iV (slErr x0 x1 x2 x3 x4 x5 x6 x7 l lag)]) ∧ NewList w0 w' 54 5 (flat srcC (slidesL x0 x1 x2 x3 x4 x5 x6 x7 l lag)) a (slidesL x0 x1 x2 x3 x4 x5 x6 x7 l lag).length C ∧ Below w0.heap.size w0 w') := by
  refine @calls_of_body (Rho.of [(iV x0), (iV x1), (iV x2), (iV x3), (iV x4), (iV x5), (iV x6), (iV x7), (.slice al l.length ql), (iV lag)] (fun b => w0.heap[b]?) []) Try.prog env (@env_ok (Rho.of [(iV x0), (iV x1), (iV x2), (iV x3), (iV x4), (iV x5), (iV x6), (iV x7), (.slice al l.length ql), (iV lag)] (fun b => w0.heap[b]?) [])) 35 Try.f35 slides_b0 [(.agg #[(.chan (.some 0)), (.chan (.some 1)), (.chan (.some 2)), (.chan (.some 3)), (.chan (.some 4)), (.chan (.some 5)), (.chan (.some 6)), (.chan (.some 7))]), (.chan (.some 8)), (.chan (.some 9))] w0 _ (by kernel_rfl) (by kernel_rfl) (of_decide_eq_true (by kernel_rfl)) (of_decide_eq_true (by kernel_rfl)) rfl (fun _ _ h => h) (fun a hat0 => ?_)
  have hat : @At (Rho.of [(iV x0), (iV x1), (iV x2), (iV x3), (iV x4), (iV x5), (iV x6), (iV x7), (.slice al l.length ql), (iV lag)] (fun b => w0.heap[b]?) []) w0 slides_fr0 slides_st0 a w0 := At.shiftL (σ := [sy 0, sy 1, sy 2, sy 3, sy 4, sy 5, sy 6, sy 7, sy 8, sy 9]) (π := []) (τ := []) ⟨rfl, rfl, rfl, rfl, rfl, rfl, rfl, rfl, rfl, rfl, rfl, rfl, rfl, rfl, rfl, rfl, rfl, rfl, rfl, rfl, trivial⟩ trivial (fun _ _ h => h) slides_wf0 slides_a0 hat0
  clear hat0
  suffices key : ∀ w, @At (Rho.of [(iV x0), (iV x1), (iV x2), (iV x3), (iV x4), (iV x5), (iV x6), (iV x7), (.slice al l.length ql), (iV lag)] (fun b => w0.heap[b]?) []) w0 slides_fr0 slides_st0 a w → slides_b0.wpIn (FF none) 0 Try.prog (bodyPostM Fence.wide 0 Try.prog Try.f35 (fun en w' => ∃ a C, en = .returned (.tuple #[.slice a (slidesL x0 x1 x2 x3 x4 x5 x6 x7 l lag).length C, iV (slErr x0 x1 x2 x3 x4 x5 x6 x7 l lag)]) ∧ NewList w0 w' 54 5 (flat srcC (slidesL x0 x1 x2 x3 x4 x5 x6 x7 l lag)) a (slidesL x0 x1 x2 x3 x4 x5 x6 x7 l lag).length C ∧ Below w0.heap.size w0 w')) a w from key w0 hat
  clear hat
  intro w hat
  let p0 : Rho := (Rho.of [(iV x0), (iV x1), (iV x2), (iV x3), (iV x4), (iV x5), (iV x6), (iV x7), (.slice al l.length ql), (iV lag)] (fun b => w0.heap[b]?) [])
  change @At p0 w0 slides_fr0 slides_st0 a w at hat
  refine g_seq slides_q0 ?_
  let r0 : Rho := (Rho.of [(iV x0), (iV x1), (iV x2), (iV x3), (iV x4), (iV x5), (iV x6), (iV x7), (.slice al l.length ql), (iV lag)] (fun b => w0.heap[b]?) [])
  have hat1 : @At r0 w0 slides_fr0 slides_st0 a w := At.shiftL (ρ1 := p0) (ρ2 := r0) (σ := [sy 0, sy 1, sy 2, sy 3, sy 4, sy 5, sy 6, sy 7, sy 8, sy 9]) (π := []) (τ := []) ⟨rfl, rfl, rfl, rfl, rfl, rfl, rfl, rfl, rfl, rfl, rfl, rfl, rfl, rfl, rfl, rfl, rfl, rfl, rfl, rfl, trivial⟩ trivial (fun _ _ h => h) slides_wf0 slides_id0 hat
  let p1 : Rho := (Rho.of [(iV x0), (iV x1), (iV x2), (iV x3), (iV x4), (iV x5), (iV x6), (iV x7), (.slice al l.length ql), (iV lag)] (fun b => w0.heap[b]?) [])
  refine At.pieceL (ρ1 := r0) (ρ2 := p1) (@Env.Ok.symL r0 _ _ (@env_ok r0) [] [] [] [] trivial trivial trivial trivial) slides_r0 ⟨rfl, rfl, rfl, rfl, rfl, rfl, rfl, rfl, rfl, rfl, rfl, rfl, rfl, rfl, rfl, rfl, rfl, rfl, rfl, rfl, trivial⟩ trivial (fun _ _ h => h) slides_wf0 slides_wf1 hat1 (fun a w hat => .inl ⟨rfl, ?_⟩)
  refine g_seq slides_q1 ?_
  obtain ⟨y0, hy0⟩ : ∃ y : Int, y = (csErr (x0) (x1) (x2) (x3) (x4) (x5) (x6) (x7) l) := ⟨_, rfl⟩
  by_cases c1 : y0 ≠ 0
  · let r1 : Rho := (Rho.of [(iV x0), (iV x1), (iV x2), (iV x3), (iV x4), (iV x5), (iV x6), (iV x7), (.slice al l.length ql), (iV lag), (iV y0)] (fun b => w0.heap[b]?) [])
    have hat1 : @At r1 w0 slides_fr1 slides_st1 a w := At.shiftL (ρ1 := p1) (ρ2 := r1) (σ := [sy 0, sy 1, sy 2, sy 3, sy 4, sy 5, sy 6, sy 7, sy 8, sy 9]) (π := [0]) (τ := []) ⟨rfl, rfl, rfl, rfl, rfl, rfl, rfl, rfl, rfl, rfl, rfl, rfl, rfl, rfl, rfl, rfl, rfl, rfl, rfl, rfl, trivial⟩ trivial (fun _ _ h => h) slides_wf1 slides_id1 hat
    refine @At.retGK r1 Try.prog (env.symL slides_e1 slides_c1 slides_l1 slides_cl1) (@Env.Ok.symL r1 _ _ (@env_ok r1) slides_e1 slides_c1 slides_l1 slides_cl1 ⟨⟨rfl, rfl, fun w hm => (show KO w (.bin .neq 27) [(iV y0), (iV 0)] (.bool true) from k_neq_t c1)⟩, trivial⟩ ⟨(@CEntOk.of r1 Try.prog _ 24 [(.agg #[(sy 0), (sy 1), (sy 2), (sy 3), (sy 4), (sy 5), (sy 6), (sy 7)]), (sy 8)] (sy 10) #[(.agg #[(iV x0), (iV x1), (iV x2), (iV x3), (iV x4), (iV x5), (iV x6), (iV x7)]), (.slice al l.length ql)] (iV y0) rfl ⟨Try.f24, (Try.f24.body).getD .skip, by kernel_rfl, by kernel_rfl⟩ rfl rfl rfl (fun w hm => (by rw [hy0]; exact checkSources_any (x0) (x1) (x2) (x3) (x4) (x5) (x6) (x7) al l ql w (Hl.keep hm) (by omega)))), trivial⟩ trivial trivial) w0 3000 slides_b3 Try.f35 slides_fr1 slides_st1 _ _ slides_r1 slides_wf1 a w hat1 (@endV_ok r1 w0 (.tuple #[(.slice .none 0 0), (sy 10)]) (fun en w' => ∃ a C, en = .returned (.tuple #[.slice a (slidesL x0 x1 x2 x3 x4 x5 x6 x7 l lag).length C, iV (slErr x0 x1 x2 x3 x4 x5 x6 x7 l lag)]) ∧ NewList w0 w' 54 5 (flat srcC (slidesL x0 x1 x2 x3 x4 x5 x6 x7 l lag)) a (slidesL x0 x1 x2 x3 x4 x5 x6 x7 l lag).length C ∧ Below w0.heap.size w0 w') rfl (fun w2 hb => ?_)) _ (fun a w h => .inr ⟨(fun q => nomatch q), h⟩)
    have v0 : (y0 : Int) = slErr x0 x1 x2 x3 x4 x5 x6 x7 l lag := by
      unfold slErr
      first | (rw [if_pos (by omega)]; omega) | (rw [if_neg (by omega), if_pos (by omega)]) | (rw [if_neg (by omega), if_neg (by omega)])
    have hL : [] = slidesL x0 x1 x2 x3 x4 x5 x6 x7 l lag := by
      unfold slidesL
      first
        | (have hE : ¬ slErr x0 x1 x2 x3 x4 x5 x6 x7 l lag = 0 := by omega
           rw [if_neg hE])
        | (have hE : slErr x0 x1 x2 x3 x4 x5 x6 x7 l lag = 0 := by omega
           rw [if_pos hE, i3, show i.toNat = l.length by omega, List.take_length])
    have hN : (slidesL x0 x1 x2 x3 x4 x5 x6 x7 l lag).length = 0 := by rw [← hL]; rfl
    refine ⟨none, 0, ?_, ⟨?_, .inl ⟨rfl, hN, rfl⟩⟩, hb⟩
    · rw [hN]; exact congrArg Ending.returned (congrArg (fun (y0 : Int) => (.tuple #[.slice none 0 0, iV y0] : Value)) v0)
    · rw [← hL]; rfl
  · obtain ⟨v0m, hn3, hs⟩ := csErr_ok (x0 := x0) (x1 := x1) (x2 := x2) (x3 := x3) (x4 := x4) (x5 := x5) (x6 := x6) (x7 := x7) (l := l) (by omega)
    have v0c := v0m
    obtain ⟨v0, v1, v2, v3, v5, v7⟩ := v0c
    have hx := mul_bd (a := x0) (b := x1) (A := 24) (B := 24) (C := 576) (by omega) (by omega) (by omega) (by omega)
    let r2 : Rho := (Rho.of [(iV x0), (iV x1), (iV x2), (iV x3), (iV x4), (iV x5), (iV x6), (iV x7), (.slice al l.length ql), (iV lag), (iV y0)] (fun b => w0.heap[b]?) [])
    have hat1 : @At r2 w0 slides_fr1 slides_st1 a w := At.shiftL (ρ1 := p1) (ρ2 := r2) (σ := [sy 0, sy 1, sy 2, sy 3, sy 4, sy 5, sy 6, sy 7, sy 8, sy 9]) (π := [0]) (τ := []) ⟨rfl, rfl, rfl, rfl, rfl, rfl, rfl, rfl, rfl, rfl, rfl, rfl, rfl, rfl, rfl, rfl, rfl, rfl, rfl, rfl, trivial⟩ trivial (fun _ _ h => h) slides_wf1 slides_id1 hat
    let p2 : Rho := (Rho.of [(iV x0), (iV x1), (iV x2), (iV x3), (iV x4), (iV x5), (iV x6), (iV x7), (.slice al l.length ql), (iV lag)] (fun b => w0.heap[b]?) [])
    refine At.pieceL (ρ1 := r2) (ρ2 := p2) (@Env.Ok.symL r2 _ _ (@env_ok r2) slides_e2 slides_c2 slides_l2 slides_cl2 ⟨⟨rfl, rfl, fun w hm => (show KO w (.bin .neq 27) [(iV y0), (iV 0)] (.bool false) from k_neq_f c1)⟩, trivial⟩ ⟨(@CEntOk.of r2 Try.prog _ 24 [(.agg #[(sy 0), (sy 1), (sy 2), (sy 3), (sy 4), (sy 5), (sy 6), (sy 7)]), (sy 8)] (sy 10) #[(.agg #[(iV x0), (iV x1), (iV x2), (iV x3), (iV x4), (iV x5), (iV x6), (iV x7)]), (.slice al l.length ql)] (iV y0) rfl ⟨Try.f24, (Try.f24.body).getD .skip, by kernel_rfl, by kernel_rfl⟩ rfl rfl rfl (fun w hm => (by rw [hy0]; exact checkSources_any (x0) (x1) (x2) (x3) (x4) (x5) (x6) (x7) al l ql w (Hl.keep hm) (by omega)))), trivial⟩ trivial trivial) slides_r2 ⟨rfl, rfl, rfl, rfl, rfl, rfl, rfl, rfl, rfl, rfl, rfl, rfl, rfl, rfl, rfl, rfl, rfl, rfl, rfl, rfl, trivial⟩ trivial (fun _ _ h => h) slides_wf1 slides_wf2 hat1 (fun a w hat => .inl ⟨rfl, ?_⟩)
    refine g_seq slides_q2 ?_
    by_cases c2 : lag ≥ 0
    · by_cases c3 : lag ≤ 100000000
      · let r3 : Rho := (Rho.of [(iV x0), (iV x1), (iV x2), (iV x3), (iV x4), (iV x5), (iV x6), (iV x7), (.slice al l.length ql), (iV lag)] (fun b => w0.heap[b]?) [])
        have hat1 : @At r3 w0 slides_fr2 slides_st2 a w := At.shiftL (ρ1 := p2) (ρ2 := r3) (σ := [sy 0, sy 1, sy 2, sy 3, sy 4, sy 5, sy 6, sy 7, sy 8, sy 9]) (π := [0]) (τ := []) ⟨rfl, rfl, rfl, rfl, rfl, rfl, rfl, rfl, rfl, rfl, rfl, rfl, rfl, rfl, rfl, rfl, rfl, rfl, rfl, rfl, trivial⟩ trivial (fun _ _ h => h) slides_wf2 slides_id2 hat
        let p3 : Rho := (Rho.of [(iV x0), (iV x1), (iV x2), (iV x3), (iV x4), (iV x5), (iV x6), (iV x7), (.slice al l.length ql), (iV lag)] (fun b => w0.heap[b]?) [])
        refine At.pieceL (ρ1 := r3) (ρ2 := p3) (@Env.Ok.symL r3 _ _ (@env_ok r3) slides_e3 slides_c3 slides_l3 slides_cl3 ⟨⟨rfl, rfl, fun w hm => (show KO w (.bin .geq 3) [(iV lag), (iV 0)] (.bool true) from k_geq_t c2)⟩, ⟨rfl, rfl, fun w hm => (show KO w (.bin .leq 3) [(iV lag), (iV 100000000)] (.bool true) from k_leq_t c3)⟩, trivial⟩ trivial trivial trivial) slides_r3 ⟨rfl, rfl, rfl, rfl, rfl, rfl, rfl, rfl, rfl, rfl, rfl, rfl, rfl, rfl, rfl, rfl, rfl, rfl, rfl, rfl, trivial⟩ trivial (fun _ _ h => h) slides_wf2 slides_wf3 hat1 (fun a w hat => .inl ⟨rfl, ?_⟩)
        refine g_seq slides_q3 ?_
        let r4 : Rho := (Rho.of [(iV x0), (iV x1), (iV x2), (iV x3), (iV x4), (iV x5), (iV x6), (iV x7), (.slice al l.length ql), (iV lag)] (fun b => w0.heap[b]?) [])
        have hat1 : @At r4 w0 slides_fr3 slides_st3 a w := At.shiftL (ρ1 := p3) (ρ2 := r4) (σ := [sy 0, sy 1, sy 2, sy 3, sy 4, sy 5, sy 6, sy 7, sy 8, sy 9]) (π := [0]) (τ := []) ⟨rfl, rfl, rfl, rfl, rfl, rfl, rfl, rfl, rfl, rfl, rfl, rfl, rfl, rfl, rfl, rfl, rfl, rfl, rfl, rfl, trivial⟩ trivial (fun _ _ h => h) slides_wf3 slides_id3 hat
        let p4 : Rho := (Rho.of [(iV x0), (iV x1), (iV x2), (iV x3), (iV x4), (iV x5), (iV x6), (iV x7), (.slice al l.length ql), (iV lag)] (fun b => w0.heap[b]?) [])
        refine At.pieceL (ρ1 := r4) (ρ2 := p4) (@Env.Ok.symL r4 _ _ (@env_ok r4) [] [] [] [] trivial trivial trivial trivial) slides_r4 ⟨rfl, rfl, rfl, rfl, rfl, rfl, rfl, rfl, rfl, rfl, rfl, rfl, rfl, rfl, rfl, rfl, rfl, rfl, rfl, rfl, trivial⟩ trivial (fun _ _ h => h) slides_wf3 slides_wf4 hat1 (fun a w hat => .inl ⟨rfl, ?_⟩)
        refine g_seq slides_q4 ?_
        refine g_seq slides_q5 ?_
        let r5 : Rho := (Rho.of [(iV x0), (iV x1), (iV x2), (iV x3), (iV x4), (iV x5), (iV x6), (iV x7), (.slice al l.length ql), (iV lag), (iV (((l.length : Nat) : Int)))] (fun b => w0.heap[b]?) [])
        have hat1 : @At r5 w0 slides_fr4 slides_st4 a w := At.shiftL (ρ1 := p4) (ρ2 := r5) (σ := [sy 0, sy 1, sy 2, sy 3, sy 4, sy 5, sy 6, sy 7, sy 8, sy 9]) (π := [0]) (τ := []) ⟨rfl, rfl, rfl, rfl, rfl, rfl, rfl, rfl, rfl, rfl, rfl, rfl, rfl, rfl, rfl, rfl, rfl, rfl, rfl, rfl, trivial⟩ trivial (fun _ _ h => h) slides_wf4 slides_id4 hat
        let p5 : Rho := (Rho.of [(iV x0), (iV x1), (iV x2), (iV x3), (iV x4), (iV x5), (iV x6), (iV x7), (.slice al l.length ql), (iV lag), (iV (((l.length : Nat) : Int)))] (fun b => w0.heap[b]?) [])
        refine At.pieceL (ρ1 := r5) (ρ2 := p5) (@Env.Ok.symL r5 _ _ (@env_ok r5) slides_e5 slides_c5 slides_l5 slides_cl5 ⟨⟨rfl, rfl, fun w hm => (show KO w (.bi 0 [38]) [(.slice al l.length ql)] (iV (((l.length : Nat) : Int))) from k_len Try.underlying38)⟩, trivial⟩ trivial trivial trivial) slides_r5 ⟨rfl, rfl, rfl, rfl, rfl, rfl, rfl, rfl, rfl, rfl, rfl, rfl, rfl, rfl, rfl, rfl, rfl, rfl, rfl, rfl, rfl, rfl, trivial⟩ trivial (fun _ _ h => h) slides_wf4 slides_wf5 hat1 (fun a w hat => .inl ⟨rfl, ?_⟩)
        refine g_block slides_q6 ?_
        have hat0 := At.shiftL (ρ1 := p5) (ρ2 := (Rho.of [(iV x0), (iV x1), (iV x2), (iV x3), (iV x4), (iV x5), (iV x6), (iV x7), (.slice al l.length ql), (iV lag), (iV (((l.length : Nat) : Int))), (iV (((([] : List Src).length : Nat) : Int))), (iV ((0 : Int)))] (fun b => w0.heap[b]?) [(flat srcC ([] : List Src))])) (σ := [(sy 0), (sy 1), (sy 2), (sy 3), (sy 4), (sy 5), (sy 6), (sy 7), (sy 8), (sy 9), (sy 10), (iV 0), (iV 0)]) (π := [0, 1]) (τ := [none]) ⟨rfl, rfl, rfl, rfl, rfl, rfl, rfl, rfl, rfl, rfl, rfl, rfl, rfl, rfl, rfl, rfl, rfl, rfl, rfl, rfl, rfl, rfl, rfl, rfl, rfl, rfl, trivial⟩ ⟨rfl, trivial⟩ (fun _ _ h => h) slides_wf6 slides_h8 hat
        clear hat
        refine g_loop (fun (x : List Src × Int) a w => (0 ≤ (x.2 : Int) ∧ (x.2 : Int) ≤ l.length ∧ ((x.1 : List Src).length : Int) ≤ (x.2 : Int) ∧ (x.1 : List Src) = (l.take (x.2 : Int).toNat).filterMap (slideF x0 x1 x2 x3 x4 x5 x6 x7 l lag)) ∧ @At (Rho.of [(iV x0), (iV x1), (iV x2), (iV x3), (iV x4), (iV x5), (iV x6), (iV x7), (.slice al l.length ql), (iV lag), (iV (((l.length : Nat) : Int))), (iV ((((x.1 : List Src).length : Nat) : Int))), (iV ((x.2 : Int)))] (fun b => w0.heap[b]?) [(flat srcC (x.1 : List Src))]) w0 slides_fr6 slides_st6 a w) (fun x => (l.length - (x.2 : Int)).toNat) slides_q7 ?_ ([], 0) ⟨?_, hat0⟩
        · clear hat0
          rintro ⟨out, i⟩ a w ⟨hinv, hat⟩
          change 0 ≤ i ∧ i ≤ l.length ∧ (out.length : Int) ≤ i ∧ out = (l.take i.toNat).filterMap (slideF x0 x1 x2 x3 x4 x5 x6 x7 l lag) at hinv
          let p6 : Rho := (Rho.of [(iV x0), (iV x1), (iV x2), (iV x3), (iV x4), (iV x5), (iV x6), (iV x7), (.slice al l.length ql), (iV lag), (iV (((l.length : Nat) : Int))), (iV (((out.length : Nat) : Int))), (iV i)] (fun b => w0.heap[b]?) [(flat srcC out)])
          change @At p6 w0 slides_fr6 slides_st6 a w at hat
          obtain ⟨i0, i1, i2, i3⟩ := hinv
          by_cases c4 : i < ((l.length : Nat) : Int)
          · obtain ⟨z5, hz5⟩ : ∃ z : Src, z = l.getD (i).toNat srcD := ⟨_, rfl⟩
            have ez5 := srcErr_ok (hs (i).toNat (by omega))
            rw [← hz5] at ez5
            by_cases c6 : z5.kind = 2
            · obtain ⟨y7, hy7⟩ : ∃ y : Int, y = (offZ (x0) (x1) (x2) (x3) (x4) (x5) (x6) (x7) (z5.cell) (lag) l).1 := ⟨_, rfl⟩
              obtain ⟨y8, hy8⟩ : ∃ y : Int, y = (offZ (x0) (x1) (x2) (x3) (x4) (x5) (x6) (x7) (z5.cell) (lag) l).2 := ⟨_, rfl⟩
              by_cases c9 : (max z5.lo y7) ≤ (min z5.hi y8)
              · let r6 : Rho := (Rho.of [(iV x0), (iV x1), (iV x2), (iV x3), (iV x4), (iV x5), (iV x6), (iV x7), (.slice al l.length ql), (iV lag), (iV (((l.length : Nat) : Int))), (iV (((out.length : Nat) : Int))), (iV i), (.pointer (ptrO al ((i).toNat * 5))), (iV z5.kind), (iV z5.cell), (iV z5.cls), (iV z5.lo), (iV z5.hi), (iV y7), (iV y8), (iV ((max z5.lo y7))), (iV ((min z5.hi y8))), (iV (((out.length + 1 : Nat) : Int))), (iV ((i + 1)))] (fun b => w0.heap[b]?) [(flat srcC out), ((flat srcC out) ++ [(iV z5.kind), (iV z5.cell), (iV z5.cls), (iV ((max z5.lo y7))), (iV ((min z5.hi y8)))])])
                have hat1 : @At r6 w0 slides_fr6 slides_st6 a w := At.shiftL (ρ1 := p6) (ρ2 := r6) (σ := [sy 0, sy 1, sy 2, sy 3, sy 4, sy 5, sy 6, sy 7, sy 8, sy 9, sy 10, sy 11, sy 12]) (π := [0, 1]) (τ := [some 0]) ⟨rfl, rfl, rfl, rfl, rfl, rfl, rfl, rfl, rfl, rfl, rfl, rfl, rfl, rfl, rfl, rfl, rfl, rfl, rfl, rfl, rfl, rfl, rfl, rfl, rfl, rfl, trivial⟩ ⟨rfl, trivial⟩ (fun _ _ h => h) slides_wf6 slides_id6 hat
                refine At.pieceL (ρ1 := r6) (ρ2 := (Rho.of [(iV x0), (iV x1), (iV x2), (iV x3), (iV x4), (iV x5), (iV x6), (iV x7), (.slice al l.length ql), (iV lag), (iV (((l.length : Nat) : Int))), (iV (((((out ++ [(⟨z5.kind, z5.cell, z5.cls, (max z5.lo y7), (min z5.hi y8)⟩ : Src)]) : List Src).length : Nat) : Int))), (iV (((i + 1) : Int)))] (fun b => w0.heap[b]?) [(flat srcC ((out ++ [(⟨z5.kind, z5.cell, z5.cls, (max z5.lo y7), (min z5.hi y8)⟩ : Src)]) : List Src))])) (@Env.Ok.symL r6 _ _ (@env_ok r6) slides_e6 slides_c6 slides_l6 slides_cl6 ⟨⟨rfl, rfl, fun w hm => (show KO w (.bin .lss 3) [(iV i), (iV (((l.length : Nat) : Int)))] (.bool true) from k_lss_t c4)⟩, ⟨rfl, rfl, fun w hm => (show KO w (.indexAddr 38) [(.slice al l.length ql), (iV i)] (.pointer (ptrO al ((i).toNat * 5))) from l_index (Hl.keep hm) Try.underlying38 (by kernel_rfl) (by omega) (by omega))⟩, ⟨rfl, rfl, fun w hm => (show KO w (.load 54) [(.pointer (ptrO al ((i).toNat * 5)))] (.agg #[(iV z5.kind), (iV z5.cell), (iV z5.cls), (iV z5.lo), (iV z5.hi)]) from l_loadS (Hl.keep hm) (by omega) Try.underlying54 rfl (l := [(iV z5.kind), (iV z5.cell), (iV z5.cls), (iV z5.lo), (iV z5.hi)]) (by kernel_rfl) (flat_getz (c := srcC) (sz := 5) (fun _ => rfl) hz5 (by omega)))⟩, ⟨rfl, rfl, fun w hm => (show KO w (.bin .eql 3) [(iV z5.kind), (iV 2)] (.bool true) from k_eql_t c6)⟩, ⟨rfl, rfl, fun w hm => (show KO w (.bi 2 [3, 3]) [(iV z5.lo), (iV y7)] (iV ((max z5.lo y7))) from k_max)⟩, ⟨rfl, rfl, fun w hm => (show KO w (.bi 3 [3, 3]) [(iV z5.hi), (iV y8)] (iV ((min z5.hi y8))) from k_min)⟩, ⟨rfl, rfl, fun w hm => (show KO w (.bin .leq 3) [(iV ((max z5.lo y7))), (iV ((min z5.hi y8)))] (.bool true) from k_leq_t c9)⟩, ⟨rfl, rfl, fun w hm => (show KO w (.bin .add 3) [(iV i), (iV 1)] (iV ((i + 1))) from k_add (wrap64 (by omega)))⟩, trivial⟩ ⟨(@CEntOk.of r6 Try.prog _ 74 [(.agg #[(sy 0), (sy 1), (sy 2), (sy 3), (sy 4), (sy 5), (sy 6), (sy 7)]), (sy 8), (sy 15), (sy 9)] (.agg #[(sy 19), (sy 20)]) #[(.agg #[(iV x0), (iV x1), (iV x2), (iV x3), (iV x4), (iV x5), (iV x6), (iV x7)]), (.slice al l.length ql), (iV z5.cell), (iV lag)] (.agg #[(iV y7), (iV y8)]) rfl ⟨Try.f74, (Try.f74.body).getD .skip, by kernel_rfl, by kernel_rfl⟩ rfl rfl rfl (fun w hm => (by rw [hy7, hy8]; exact setOff_any (x0) (x1) (x2) (x3) (x4) (x5) (x6) (x7) al l ql (z5.cell) (lag) w (Hl.keep hm) (by omega) v0m (by omega) (by omega) hs))), trivial⟩ ⟨⟨rfl, rfl, out.length, rfl, rfl, (by show ((flat srcC out) : List Value).length = (out.length) * 5; first | exact flat_len (fun _ => rfl) _ | simp [flat_len (c := srcC) (sz := 5) (fun _ => rfl), srcC] <;> omega), rfl, (by omega)⟩, trivial⟩ trivial) slides_r6 ⟨rfl, rfl, rfl, rfl, rfl, rfl, rfl, rfl, rfl, rfl, rfl, rfl, rfl, rfl, rfl, rfl, rfl, rfl, rfl, rfl, rfl, rfl, rfl, (by show (Value.int .i64 _) = Value.int .i64 _; simp), rfl, rfl, trivial⟩ ⟨(by show (flat srcC (out ++ [(⟨z5.kind, z5.cell, z5.cls, (max z5.lo y7), (min z5.hi y8)⟩ : Src)]) : List Value) = ((flat srcC out) ++ [(iV z5.kind), (iV z5.cell), (iV z5.cls), (iV ((max z5.lo y7))), (iV ((min z5.hi y8)))]); simp [flat_snoc, srcC]), trivial⟩ (fun _ _ h => h) slides_wf6 slides_wf6 hat1 (fun a w hat => .inl ⟨rfl, ⟨((out ++ [(⟨z5.kind, z5.cell, z5.cls, (max z5.lo y7), (min z5.hi y8)⟩ : Src)]), (i + 1)), ?_, ?_, hat⟩⟩)
                · show (l.length - ((i + 1) : Int)).toNat < (l.length - i).toNat
                  omega
                · show 0 ≤ ((i + 1) : Int) ∧ ((i + 1) : Int) ≤ l.length ∧ (((out ++ [(⟨z5.kind, z5.cell, z5.cls, (max z5.lo y7), (min z5.hi y8)⟩ : Src)]) : List Src).length : Int) ≤ ((i + 1) : Int) ∧ ((out ++ [(⟨z5.kind, z5.cell, z5.cls, (max z5.lo y7), (min z5.hi y8)⟩ : Src)]) : List Src) = (l.take ((i + 1) : Int).toNat).filterMap (slideF x0 x1 x2 x3 x4 x5 x6 x7 l lag)
                  have e1 : (i + 1).toNat = i.toNat + 1 := by omega
                  refine ⟨by omega, by omega, by first | (simp; omega) | omega, ?_⟩
                  rw [e1]
                  have hF : slideF x0 x1 x2 x3 x4 x5 x6 x7 l lag z5 = some (⟨z5.kind, z5.cell, z5.cls, (max z5.lo y7), (min z5.hi y8)⟩ : Src) := by
                    unfold slideF slideOne
                    first
                      | (have hk : z5.kind = 2 := by omega
                         simp only [if_pos hk]
                         rw [← hy7, ← hy8, if_pos (by omega)])
                      | (have hk : ¬ z5.kind = 2 := by omega
                         simp only [if_neg hk]
                         rw [if_pos (by omega)])
                  rw [filterMap_some (slideF x0 x1 x2 x3 x4 x5 x6 x7 l lag) srcD (i := i.toNat) (y := (⟨z5.kind, z5.cell, z5.cls, (max z5.lo y7), (min z5.hi y8)⟩ : Src)) (by omega) (by rw [← hz5]; exact hF), ← i3]
              · let r7 : Rho := (Rho.of [(iV x0), (iV x1), (iV x2), (iV x3), (iV x4), (iV x5), (iV x6), (iV x7), (.slice al l.length ql), (iV lag), (iV (((l.length : Nat) : Int))), (iV (((out.length : Nat) : Int))), (iV i), (.pointer (ptrO al ((i).toNat * 5))), (iV z5.kind), (iV z5.cell), (iV z5.cls), (iV z5.lo), (iV z5.hi), (iV y7), (iV y8), (iV ((max z5.lo y7))), (iV ((min z5.hi y8))), (iV ((i + 1)))] (fun b => w0.heap[b]?) [(flat srcC out)])
                have hat1 : @At r7 w0 slides_fr6 slides_st6 a w := At.shiftL (ρ1 := p6) (ρ2 := r7) (σ := [sy 0, sy 1, sy 2, sy 3, sy 4, sy 5, sy 6, sy 7, sy 8, sy 9, sy 10, sy 11, sy 12]) (π := [0, 1]) (τ := [some 0]) ⟨rfl, rfl, rfl, rfl, rfl, rfl, rfl, rfl, rfl, rfl, rfl, rfl, rfl, rfl, rfl, rfl, rfl, rfl, rfl, rfl, rfl, rfl, rfl, rfl, rfl, rfl, trivial⟩ ⟨rfl, trivial⟩ (fun _ _ h => h) slides_wf6 slides_id6 hat
                refine At.pieceL (ρ1 := r7) (ρ2 := (Rho.of [(iV x0), (iV x1), (iV x2), (iV x3), (iV x4), (iV x5), (iV x6), (iV x7), (.slice al l.length ql), (iV lag), (iV (((l.length : Nat) : Int))), (iV ((((out : List Src).length : Nat) : Int))), (iV (((i + 1) : Int)))] (fun b => w0.heap[b]?) [(flat srcC (out : List Src))])) (@Env.Ok.symL r7 _ _ (@env_ok r7) slides_e7 slides_c7 slides_l7 slides_cl7 ⟨⟨rfl, rfl, fun w hm => (show KO w (.bin .lss 3) [(iV i), (iV (((l.length : Nat) : Int)))] (.bool true) from k_lss_t c4)⟩, ⟨rfl, rfl, fun w hm => (show KO w (.indexAddr 38) [(.slice al l.length ql), (iV i)] (.pointer (ptrO al ((i).toNat * 5))) from l_index (Hl.keep hm) Try.underlying38 (by kernel_rfl) (by omega) (by omega))⟩, ⟨rfl, rfl, fun w hm => (show KO w (.load 54) [(.pointer (ptrO al ((i).toNat * 5)))] (.agg #[(iV z5.kind), (iV z5.cell), (iV z5.cls), (iV z5.lo), (iV z5.hi)]) from l_loadS (Hl.keep hm) (by omega) Try.underlying54 rfl (l := [(iV z5.kind), (iV z5.cell), (iV z5.cls), (iV z5.lo), (iV z5.hi)]) (by kernel_rfl) (flat_getz (c := srcC) (sz := 5) (fun _ => rfl) hz5 (by omega)))⟩, ⟨rfl, rfl, fun w hm => (show KO w (.bin .eql 3) [(iV z5.kind), (iV 2)] (.bool true) from k_eql_t c6)⟩, ⟨rfl, rfl, fun w hm => (show KO w (.bi 2 [3, 3]) [(iV z5.lo), (iV y7)] (iV ((max z5.lo y7))) from k_max)⟩, ⟨rfl, rfl, fun w hm => (show KO w (.bi 3 [3, 3]) [(iV z5.hi), (iV y8)] (iV ((min z5.hi y8))) from k_min)⟩, ⟨rfl, rfl, fun w hm => (show KO w (.bin .leq 3) [(iV ((max z5.lo y7))), (iV ((min z5.hi y8)))] (.bool false) from k_leq_f c9)⟩, ⟨rfl, rfl, fun w hm => (show KO w (.bin .add 3) [(iV i), (iV 1)] (iV ((i + 1))) from k_add (wrap64 (by omega)))⟩, trivial⟩ ⟨(@CEntOk.of r7 Try.prog _ 74 [(.agg #[(sy 0), (sy 1), (sy 2), (sy 3), (sy 4), (sy 5), (sy 6), (sy 7)]), (sy 8), (sy 15), (sy 9)] (.agg #[(sy 19), (sy 20)]) #[(.agg #[(iV x0), (iV x1), (iV x2), (iV x3), (iV x4), (iV x5), (iV x6), (iV x7)]), (.slice al l.length ql), (iV z5.cell), (iV lag)] (.agg #[(iV y7), (iV y8)]) rfl ⟨Try.f74, (Try.f74.body).getD .skip, by kernel_rfl, by kernel_rfl⟩ rfl rfl rfl (fun w hm => (by rw [hy7, hy8]; exact setOff_any (x0) (x1) (x2) (x3) (x4) (x5) (x6) (x7) al l ql (z5.cell) (lag) w (Hl.keep hm) (by omega) v0m (by omega) (by omega) hs))), trivial⟩ trivial trivial) slides_r7 ⟨rfl, rfl, rfl, rfl, rfl, rfl, rfl, rfl, rfl, rfl, rfl, rfl, rfl, rfl, rfl, rfl, rfl, rfl, rfl, rfl, rfl, rfl, rfl, rfl, rfl, rfl, trivial⟩ ⟨rfl, trivial⟩ (fun _ _ h => h) slides_wf6 slides_wf6 hat1 (fun a w hat => .inl ⟨rfl, ⟨(out, (i + 1)), ?_, ?_, hat⟩⟩)
                · show (l.length - ((i + 1) : Int)).toNat < (l.length - i).toNat
                  omega
                · show 0 ≤ ((i + 1) : Int) ∧ ((i + 1) : Int) ≤ l.length ∧ ((out : List Src).length : Int) ≤ ((i + 1) : Int) ∧ (out : List Src) = (l.take ((i + 1) : Int).toNat).filterMap (slideF x0 x1 x2 x3 x4 x5 x6 x7 l lag)
                  have e1 : (i + 1).toNat = i.toNat + 1 := by omega
                  refine ⟨by omega, by omega, by first | (simp; omega) | omega, ?_⟩
                  rw [e1]
                  have hF : slideF x0 x1 x2 x3 x4 x5 x6 x7 l lag z5 = none := by
                    unfold slideF slideOne
                    first
                      | (exfalso; omega)
                      | (have hk : z5.kind = 2 := by omega
                         simp only [if_pos hk]
                         rw [← hy7, ← hy8, if_neg (by omega)])
                  rw [filterMap_none (slideF x0 x1 x2 x3 x4 x5 x6 x7 l lag) srcD (i := i.toNat) (by omega) (by rw [← hz5]; exact hF), ← i3]
            · by_cases c10 : z5.lo ≤ z5.hi
              · let r8 : Rho := (Rho.of [(iV x0), (iV x1), (iV x2), (iV x3), (iV x4), (iV x5), (iV x6), (iV x7), (.slice al l.length ql), (iV lag), (iV (((l.length : Nat) : Int))), (iV (((out.length : Nat) : Int))), (iV i), (.pointer (ptrO al ((i).toNat * 5))), (iV z5.kind), (iV z5.cell), (iV z5.cls), (iV z5.lo), (iV z5.hi), (iV (((out.length + 1 : Nat) : Int))), (iV ((i + 1)))] (fun b => w0.heap[b]?) [(flat srcC out), ((flat srcC out) ++ [(iV z5.kind), (iV z5.cell), (iV z5.cls), (iV z5.lo), (iV z5.hi)])])
                have hat1 : @At r8 w0 slides_fr6 slides_st6 a w := At.shiftL (ρ1 := p6) (ρ2 := r8) (σ := [sy 0, sy 1, sy 2, sy 3, sy 4, sy 5, sy 6, sy 7, sy 8, sy 9, sy 10, sy 11, sy 12]) (π := [0, 1]) (τ := [some 0]) ⟨rfl, rfl, rfl, rfl, rfl, rfl, rfl, rfl, rfl, rfl, rfl, rfl, rfl, rfl, rfl, rfl, rfl, rfl, rfl, rfl, rfl, rfl, rfl, rfl, rfl, rfl, trivial⟩ ⟨rfl, trivial⟩ (fun _ _ h => h) slides_wf6 slides_id6 hat
                refine At.pieceL (ρ1 := r8) (ρ2 := (Rho.of [(iV x0), (iV x1), (iV x2), (iV x3), (iV x4), (iV x5), (iV x6), (iV x7), (.slice al l.length ql), (iV lag), (iV (((l.length : Nat) : Int))), (iV (((((out ++ [(⟨z5.kind, z5.cell, z5.cls, z5.lo, z5.hi⟩ : Src)]) : List Src).length : Nat) : Int))), (iV (((i + 1) : Int)))] (fun b => w0.heap[b]?) [(flat srcC ((out ++ [(⟨z5.kind, z5.cell, z5.cls, z5.lo, z5.hi⟩ : Src)]) : List Src))])) (@Env.Ok.symL r8 _ _ (@env_ok r8) slides_e8 slides_c8 slides_l8 slides_cl8 ⟨⟨rfl, rfl, fun w hm => (show KO w (.bin .lss 3) [(iV i), (iV (((l.length : Nat) : Int)))] (.bool true) from k_lss_t c4)⟩, ⟨rfl, rfl, fun w hm => (show KO w (.indexAddr 38) [(.slice al l.length ql), (iV i)] (.pointer (ptrO al ((i).toNat * 5))) from l_index (Hl.keep hm) Try.underlying38 (by kernel_rfl) (by omega) (by omega))⟩, ⟨rfl, rfl, fun w hm => (show KO w (.load 54) [(.pointer (ptrO al ((i).toNat * 5)))] (.agg #[(iV z5.kind), (iV z5.cell), (iV z5.cls), (iV z5.lo), (iV z5.hi)]) from l_loadS (Hl.keep hm) (by omega) Try.underlying54 rfl (l := [(iV z5.kind), (iV z5.cell), (iV z5.cls), (iV z5.lo), (iV z5.hi)]) (by kernel_rfl) (flat_getz (c := srcC) (sz := 5) (fun _ => rfl) hz5 (by omega)))⟩, ⟨rfl, rfl, fun w hm => (show KO w (.bin .eql 3) [(iV z5.kind), (iV 2)] (.bool false) from k_eql_f c6)⟩, ⟨rfl, rfl, fun w hm => (show KO w (.bin .leq 3) [(iV z5.lo), (iV z5.hi)] (.bool true) from k_leq_t c10)⟩, ⟨rfl, rfl, fun w hm => (show KO w (.bin .add 3) [(iV i), (iV 1)] (iV ((i + 1))) from k_add (wrap64 (by omega)))⟩, trivial⟩ trivial ⟨⟨rfl, rfl, out.length, rfl, rfl, (by show ((flat srcC out) : List Value).length = (out.length) * 5; first | exact flat_len (fun _ => rfl) _ | simp [flat_len (c := srcC) (sz := 5) (fun _ => rfl), srcC] <;> omega), rfl, (by omega)⟩, trivial⟩ trivial) slides_r8 ⟨rfl, rfl, rfl, rfl, rfl, rfl, rfl, rfl, rfl, rfl, rfl, rfl, rfl, rfl, rfl, rfl, rfl, rfl, rfl, rfl, rfl, rfl, rfl, (by show (Value.int .i64 _) = Value.int .i64 _; simp), rfl, rfl, trivial⟩ ⟨(by show (flat srcC (out ++ [(⟨z5.kind, z5.cell, z5.cls, z5.lo, z5.hi⟩ : Src)]) : List Value) = ((flat srcC out) ++ [(iV z5.kind), (iV z5.cell), (iV z5.cls), (iV z5.lo), (iV z5.hi)]); simp [flat_snoc, srcC]), trivial⟩ (fun _ _ h => h) slides_wf6 slides_wf6 hat1 (fun a w hat => .inl ⟨rfl, ⟨((out ++ [(⟨z5.kind, z5.cell, z5.cls, z5.lo, z5.hi⟩ : Src)]), (i + 1)), ?_, ?_, hat⟩⟩)
                · show (l.length - ((i + 1) : Int)).toNat < (l.length - i).toNat
                  omega
                · show 0 ≤ ((i + 1) : Int) ∧ ((i + 1) : Int) ≤ l.length ∧ (((out ++ [(⟨z5.kind, z5.cell, z5.cls, z5.lo, z5.hi⟩ : Src)]) : List Src).length : Int) ≤ ((i + 1) : Int) ∧ ((out ++ [(⟨z5.kind, z5.cell, z5.cls, z5.lo, z5.hi⟩ : Src)]) : List Src) = (l.take ((i + 1) : Int).toNat).filterMap (slideF x0 x1 x2 x3 x4 x5 x6 x7 l lag)
                  have e1 : (i + 1).toNat = i.toNat + 1 := by omega
                  refine ⟨by omega, by omega, by first | (simp; omega) | omega, ?_⟩
                  rw [e1]
                  have hF : slideF x0 x1 x2 x3 x4 x5 x6 x7 l lag z5 = some (⟨z5.kind, z5.cell, z5.cls, z5.lo, z5.hi⟩ : Src) := by
                    unfold slideF slideOne
                    have hk : ¬ z5.kind = 2 := by omega
                    simp only [if_neg hk]
                    rw [if_pos (by omega)]
                  rw [filterMap_some (slideF x0 x1 x2 x3 x4 x5 x6 x7 l lag) srcD (i := i.toNat) (y := (⟨z5.kind, z5.cell, z5.cls, z5.lo, z5.hi⟩ : Src)) (by omega) (by rw [← hz5]; exact hF), ← i3]
              · let r9 : Rho := (Rho.of [(iV x0), (iV x1), (iV x2), (iV x3), (iV x4), (iV x5), (iV x6), (iV x7), (.slice al l.length ql), (iV lag), (iV (((l.length : Nat) : Int))), (iV (((out.length : Nat) : Int))), (iV i), (.pointer (ptrO al ((i).toNat * 5))), (iV z5.kind), (iV z5.cell), (iV z5.cls), (iV z5.lo), (iV z5.hi), (iV ((i + 1)))] (fun b => w0.heap[b]?) [(flat srcC out)])
                have hat1 : @At r9 w0 slides_fr6 slides_st6 a w := At.shiftL (ρ1 := p6) (ρ2 := r9) (σ := [sy 0, sy 1, sy 2, sy 3, sy 4, sy 5, sy 6, sy 7, sy 8, sy 9, sy 10, sy 11, sy 12]) (π := [0, 1]) (τ := [some 0]) ⟨rfl, rfl, rfl, rfl, rfl, rfl, rfl, rfl, rfl, rfl, rfl, rfl, rfl, rfl, rfl, rfl, rfl, rfl, rfl, rfl, rfl, rfl, rfl, rfl, rfl, rfl, trivial⟩ ⟨rfl, trivial⟩ (fun _ _ h => h) slides_wf6 slides_id6 hat
                refine At.pieceL (ρ1 := r9) (ρ2 := (Rho.of [(iV x0), (iV x1), (iV x2), (iV x3), (iV x4), (iV x5), (iV x6), (iV x7), (.slice al l.length ql), (iV lag), (iV (((l.length : Nat) : Int))), (iV ((((out : List Src).length : Nat) : Int))), (iV (((i + 1) : Int)))] (fun b => w0.heap[b]?) [(flat srcC (out : List Src))])) (@Env.Ok.symL r9 _ _ (@env_ok r9) slides_e9 slides_c9 slides_l9 slides_cl9 ⟨⟨rfl, rfl, fun w hm => (show KO w (.bin .lss 3) [(iV i), (iV (((l.length : Nat) : Int)))] (.bool true) from k_lss_t c4)⟩, ⟨rfl, rfl, fun w hm => (show KO w (.indexAddr 38) [(.slice al l.length ql), (iV i)] (.pointer (ptrO al ((i).toNat * 5))) from l_index (Hl.keep hm) Try.underlying38 (by kernel_rfl) (by omega) (by omega))⟩, ⟨rfl, rfl, fun w hm => (show KO w (.load 54) [(.pointer (ptrO al ((i).toNat * 5)))] (.agg #[(iV z5.kind), (iV z5.cell), (iV z5.cls), (iV z5.lo), (iV z5.hi)]) from l_loadS (Hl.keep hm) (by omega) Try.underlying54 rfl (l := [(iV z5.kind), (iV z5.cell), (iV z5.cls), (iV z5.lo), (iV z5.hi)]) (by kernel_rfl) (flat_getz (c := srcC) (sz := 5) (fun _ => rfl) hz5 (by omega)))⟩, ⟨rfl, rfl, fun w hm => (show KO w (.bin .eql 3) [(iV z5.kind), (iV 2)] (.bool false) from k_eql_f c6)⟩, ⟨rfl, rfl, fun w hm => (show KO w (.bin .leq 3) [(iV z5.lo), (iV z5.hi)] (.bool false) from k_leq_f c10)⟩, ⟨rfl, rfl, fun w hm => (show KO w (.bin .add 3) [(iV i), (iV 1)] (iV ((i + 1))) from k_add (wrap64 (by omega)))⟩, trivial⟩ trivial trivial trivial) slides_r9 ⟨rfl, rfl, rfl, rfl, rfl, rfl, rfl, rfl, rfl, rfl, rfl, rfl, rfl, rfl, rfl, rfl, rfl, rfl, rfl, rfl, rfl, rfl, rfl, rfl, rfl, rfl, trivial⟩ ⟨rfl, trivial⟩ (fun _ _ h => h) slides_wf6 slides_wf6 hat1 (fun a w hat => .inl ⟨rfl, ⟨(out, (i + 1)), ?_, ?_, hat⟩⟩)
                · show (l.length - ((i + 1) : Int)).toNat < (l.length - i).toNat
                  omega
                · show 0 ≤ ((i + 1) : Int) ∧ ((i + 1) : Int) ≤ l.length ∧ ((out : List Src).length : Int) ≤ ((i + 1) : Int) ∧ (out : List Src) = (l.take ((i + 1) : Int).toNat).filterMap (slideF x0 x1 x2 x3 x4 x5 x6 x7 l lag)
                  have e1 : (i + 1).toNat = i.toNat + 1 := by omega
                  refine ⟨by omega, by omega, by first | (simp; omega) | omega, ?_⟩
                  rw [e1]
                  have hF : slideF x0 x1 x2 x3 x4 x5 x6 x7 l lag z5 = none := by
                    unfold slideF slideOne
                    first
                      | (exfalso; omega)
                      | (have hk : z5.kind = 2 := by omega
                         simp only [if_pos hk]
                         rw [if_neg (by omega)])
                  rw [filterMap_none (slideF x0 x1 x2 x3 x4 x5 x6 x7 l lag) srcD (i := i.toNat) (by omega) (by rw [← hz5]; exact hF), ← i3]
          · let r10 : Rho := (Rho.of [(iV x0), (iV x1), (iV x2), (iV x3), (iV x4), (iV x5), (iV x6), (iV x7), (.slice al l.length ql), (iV lag), (iV (((l.length : Nat) : Int))), (iV (((out.length : Nat) : Int))), (iV i)] (fun b => w0.heap[b]?) [(flat srcC out)])
            have hat1 : @At r10 w0 slides_fr6 slides_st6 a w := At.shiftL (ρ1 := p6) (ρ2 := r10) (σ := [sy 0, sy 1, sy 2, sy 3, sy 4, sy 5, sy 6, sy 7, sy 8, sy 9, sy 10, sy 11, sy 12]) (π := [0, 1]) (τ := [some 0]) ⟨rfl, rfl, rfl, rfl, rfl, rfl, rfl, rfl, rfl, rfl, rfl, rfl, rfl, rfl, rfl, rfl, rfl, rfl, rfl, rfl, rfl, rfl, rfl, rfl, rfl, rfl, trivial⟩ ⟨rfl, trivial⟩ (fun _ _ h => h) slides_wf6 slides_id6 hat
            let p7 : Rho := (Rho.of [(iV x0), (iV x1), (iV x2), (iV x3), (iV x4), (iV x5), (iV x6), (iV x7), (.slice al l.length ql), (iV lag), (iV (((out.length : Nat) : Int)))] (fun b => w0.heap[b]?) [(flat srcC out)])
            refine At.pieceL (ρ1 := r10) (ρ2 := p7) (@Env.Ok.symL r10 _ _ (@env_ok r10) slides_e10 slides_c10 slides_l10 slides_cl10 ⟨⟨rfl, rfl, fun w hm => (show KO w (.bin .lss 3) [(iV i), (iV (((l.length : Nat) : Int)))] (.bool false) from k_lss_f c4)⟩, trivial⟩ trivial trivial trivial) slides_r10 ⟨rfl, rfl, rfl, rfl, rfl, rfl, rfl, rfl, rfl, rfl, rfl, rfl, rfl, rfl, rfl, rfl, rfl, rfl, rfl, rfl, rfl, rfl, trivial⟩ ⟨rfl, trivial⟩ (fun _ _ h => h) slides_wf6 slides_wf7 hat1 (fun a w hat => .inr ⟨.inl ⟨0, rfl⟩, .inl ⟨rfl, .inl ⟨rfl, ?_⟩⟩⟩)
            let r11 : Rho := (Rho.of [(iV x0), (iV x1), (iV x2), (iV x3), (iV x4), (iV x5), (iV x6), (iV x7), (.slice al l.length ql), (iV lag), (iV (((out.length : Nat) : Int)))] (fun b => w0.heap[b]?) [(flat srcC out)])
            have hat1 : @At r11 w0 slides_fr7 slides_st7 a w := At.shiftL (ρ1 := p7) (ρ2 := r11) (σ := [sy 0, sy 1, sy 2, sy 3, sy 4, sy 5, sy 6, sy 7, sy 8, sy 9, sy 10]) (π := [0]) (τ := [some 0]) ⟨rfl, rfl, rfl, rfl, rfl, rfl, rfl, rfl, rfl, rfl, rfl, rfl, rfl, rfl, rfl, rfl, rfl, rfl, rfl, rfl, rfl, rfl, trivial⟩ ⟨rfl, trivial⟩ (fun _ _ h => h) slides_wf7 slides_id7 hat
            refine @At.lastK r11 Try.prog (env.symL [] [] [] []) (@Env.Ok.symL r11 _ _ (@env_ok r11) [] [] [] [] trivial trivial trivial trivial) w0 3000 slides_b10 Try.f35 slides_fr7 slides_st7 _ _ slides_r11 slides_wf7 a w hat1 (@endL_ok r11 Try.prog w0 (.tuple #[(.pointer (some ⟨0, 10, some 2⟩)), (iV 0)]) 0 10 0 54 5 (out.length) (some [(iV 0)]) (fun en w' => ∃ a C, en = .returned (.tuple #[.slice a (slidesL x0 x1 x2 x3 x4 x5 x6 x7 l lag).length C, iV (slErr x0 x1 x2 x3 x4 x5 x6 x7 l lag)]) ∧ NewList w0 w' 54 5 (flat srcC (slidesL x0 x1 x2 x3 x4 x5 x6 x7 l lag)) a (slidesL x0 x1 x2 x3 x4 x5 x6 x7 l lag).length C ∧ Below w0.heap.size w0 w') rfl rfl (by show ((flat srcC out) : List Value).length = (out.length) * 5; first | exact flat_len (fun _ => rfl) _ | simp [flat_len (c := srcC) (sz := 5) (fun _ => rfl), srcC] <;> omega) (fun w2 a2 C2 hb hn => ?_))
            have v0 : (0 : Int) = slErr x0 x1 x2 x3 x4 x5 x6 x7 l lag := by
              unfold slErr
              first | (rw [if_pos (by omega)]; omega) | (rw [if_neg (by omega), if_pos (by omega)]) | (rw [if_neg (by omega), if_neg (by omega)])
            have hL : out = slidesL x0 x1 x2 x3 x4 x5 x6 x7 l lag := by
              unfold slidesL
              first
                | (have hE : ¬ slErr x0 x1 x2 x3 x4 x5 x6 x7 l lag = 0 := by omega
                   rw [if_neg hE])
                | (have hE : slErr x0 x1 x2 x3 x4 x5 x6 x7 l lag = 0 := by omega
                   rw [if_pos hE, i3, show i.toNat = l.length by omega, List.take_length])
            have e1 : out.length = (slidesL x0 x1 x2 x3 x4 x5 x6 x7 l lag).length := by rw [← hL]; try first | rfl | simp
            have e2 : ((flat srcC out) : List Value) = flat srcC (slidesL x0 x1 x2 x3 x4 x5 x6 x7 l lag) := by rw [← hL]; try first | rfl | simp [flat_snoc, srcC]
            have hn2 : NewList w0 w2 54 5 (flat srcC (slidesL x0 x1 x2 x3 x4 x5 x6 x7 l lag)) a2 (slidesL x0 x1 x2 x3 x4 x5 x6 x7 l lag).length C2 := by rw [← e1, ← e2]; exact hn
            have hv := congr (congrArg (fun (n2 : Nat) (y0 : Int) => (.tuple #[.slice a2 n2 C2, iV y0] : Value)) e1) v0
            exact ⟨a2, C2, congrArg Ending.returned hv, hn2, hb⟩
        · show 0 ≤ (0 : Int) ∧ (0 : Int) ≤ l.length ∧ (([] : List Src).length : Int) ≤ (0 : Int) ∧ ([] : List Src) = (l.take (0 : Int).toNat).filterMap (slideF x0 x1 x2 x3 x4 x5 x6 x7 l lag)
          exact ⟨by omega, by omega, by simp, rfl⟩
      · let r12 : Rho := (Rho.of [(iV x0), (iV x1), (iV x2), (iV x3), (iV x4), (iV x5), (iV x6), (iV x7), (.slice al l.length ql), (iV lag)] (fun b => w0.heap[b]?) [])
        have hat1 : @At r12 w0 slides_fr2 slides_st2 a w := At.shiftL (ρ1 := p2) (ρ2 := r12) (σ := [sy 0, sy 1, sy 2, sy 3, sy 4, sy 5, sy 6, sy 7, sy 8, sy 9]) (π := [0]) (τ := []) ⟨rfl, rfl, rfl, rfl, rfl, rfl, rfl, rfl, rfl, rfl, rfl, rfl, rfl, rfl, rfl, rfl, rfl, rfl, rfl, rfl, trivial⟩ trivial (fun _ _ h => h) slides_wf2 slides_id2 hat
        refine @At.retGK r12 Try.prog (env.symL slides_e12 slides_c12 slides_l12 slides_cl12) (@Env.Ok.symL r12 _ _ (@env_ok r12) slides_e12 slides_c12 slides_l12 slides_cl12 ⟨⟨rfl, rfl, fun w hm => (show KO w (.bin .geq 3) [(iV lag), (iV 0)] (.bool true) from k_geq_t c2)⟩, ⟨rfl, rfl, fun w hm => (show KO w (.bin .leq 3) [(iV lag), (iV 100000000)] (.bool false) from k_leq_f c3)⟩, trivial⟩ trivial trivial trivial) w0 3000 slides_b5 Try.f35 slides_fr2 slides_st2 _ _ slides_r12 slides_wf2 a w hat1 (@endV_ok r12 w0 (.tuple #[(.slice .none 0 0), (iV 3)]) (fun en w' => ∃ a C, en = .returned (.tuple #[.slice a (slidesL x0 x1 x2 x3 x4 x5 x6 x7 l lag).length C, iV (slErr x0 x1 x2 x3 x4 x5 x6 x7 l lag)]) ∧ NewList w0 w' 54 5 (flat srcC (slidesL x0 x1 x2 x3 x4 x5 x6 x7 l lag)) a (slidesL x0 x1 x2 x3 x4 x5 x6 x7 l lag).length C ∧ Below w0.heap.size w0 w') rfl (fun w2 hb => ?_)) _ (fun a w h => .inr ⟨(fun q => nomatch q), h⟩)
        have v0 : (3 : Int) = slErr x0 x1 x2 x3 x4 x5 x6 x7 l lag := by
          unfold slErr
          first | (rw [if_pos (by omega)]; omega) | (rw [if_neg (by omega), if_pos (by omega)]) | (rw [if_neg (by omega), if_neg (by omega)])
        have hL : [] = slidesL x0 x1 x2 x3 x4 x5 x6 x7 l lag := by
          unfold slidesL
          first
            | (have hE : ¬ slErr x0 x1 x2 x3 x4 x5 x6 x7 l lag = 0 := by omega
               rw [if_neg hE])
            | (have hE : slErr x0 x1 x2 x3 x4 x5 x6 x7 l lag = 0 := by omega
               rw [if_pos hE, i3, show i.toNat = l.length by omega, List.take_length])
        have hN : (slidesL x0 x1 x2 x3 x4 x5 x6 x7 l lag).length = 0 := by rw [← hL]; rfl
        refine ⟨none, 0, ?_, ⟨?_, .inl ⟨rfl, hN, rfl⟩⟩, hb⟩
        · rw [hN]; exact congrArg Ending.returned (congrArg (fun (y0 : Int) => (.tuple #[.slice none 0 0, iV y0] : Value)) v0)
        · rw [← hL]; rfl
    · let r13 : Rho := (Rho.of [(iV x0), (iV x1), (iV x2), (iV x3), (iV x4), (iV x5), (iV x6), (iV x7), (.slice al l.length ql), (iV lag)] (fun b => w0.heap[b]?) [])
      have hat1 : @At r13 w0 slides_fr2 slides_st2 a w := At.shiftL (ρ1 := p2) (ρ2 := r13) (σ := [sy 0, sy 1, sy 2, sy 3, sy 4, sy 5, sy 6, sy 7, sy 8, sy 9]) (π := [0]) (τ := []) ⟨rfl, rfl, rfl, rfl, rfl, rfl, rfl, rfl, rfl, rfl, rfl, rfl, rfl, rfl, rfl, rfl, rfl, rfl, rfl, rfl, trivial⟩ trivial (fun _ _ h => h) slides_wf2 slides_id2 hat
      refine @At.retGK r13 Try.prog (env.symL slides_e13 slides_c13 slides_l13 slides_cl13) (@Env.Ok.symL r13 _ _ (@env_ok r13) slides_e13 slides_c13 slides_l13 slides_cl13 ⟨⟨rfl, rfl, fun w hm => (show KO w (.bin .geq 3) [(iV lag), (iV 0)] (.bool false) from k_geq_f c2)⟩, trivial⟩ trivial trivial trivial) w0 3000 slides_b5 Try.f35 slides_fr2 slides_st2 _ _ slides_r13 slides_wf2 a w hat1 (@endV_ok r13 w0 (.tuple #[(.slice .none 0 0), (iV 3)]) (fun en w' => ∃ a C, en = .returned (.tuple #[.slice a (slidesL x0 x1 x2 x3 x4 x5 x6 x7 l lag).length C, iV (slErr x0 x1 x2 x3 x4 x5 x6 x7 l lag)]) ∧ NewList w0 w' 54 5 (flat srcC (slidesL x0 x1 x2 x3 x4 x5 x6 x7 l lag)) a (slidesL x0 x1 x2 x3 x4 x5 x6 x7 l lag).length C ∧ Below w0.heap.size w0 w') rfl (fun w2 hb => ?_)) _ (fun a w h => .inr ⟨(fun q => nomatch q), h⟩)
      have v0 : (3 : Int) = slErr x0 x1 x2 x3 x4 x5 x6 x7 l lag := by
        unfold slErr
        first | (rw [if_pos (by omega)]; omega) | (rw [if_neg (by omega), if_pos (by omega)]) | (rw [if_neg (by omega), if_neg (by omega)])
      have hL : [] = slidesL x0 x1 x2 x3 x4 x5 x6 x7 l lag := by
        unfold slidesL
        first
          | (have hE : ¬ slErr x0 x1 x2 x3 x4 x5 x6 x7 l lag = 0 := by omega
             rw [if_neg hE])
          | (have hE : slErr x0 x1 x2 x3 x4 x5 x6 x7 l lag = 0 := by omega
             rw [if_pos hE, i3, show i.toNat = l.length by omega, List.take_length])
      have hN : (slidesL x0 x1 x2 x3 x4 x5 x6 x7 l lag).length = 0 := by rw [← hL]; rfl
      refine ⟨none, 0, ?_, ⟨?_, .inl ⟨rfl, hN, rfl⟩⟩, hb⟩
      · rw [hN]; exact congrArg Ending.returned (congrArg (fun (y0 : Int) => (.tuple #[.slice none 0 0, iV y0] : Value)) v0)
      · rw [← hL]; rfl
end Go.Proofs.Ytoaehigmpbhppaa.En
