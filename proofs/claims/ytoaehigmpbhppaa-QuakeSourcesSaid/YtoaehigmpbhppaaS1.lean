/-
  A source is checked as the chapter says.
-/
import Derived.Test.YtoaehigmpbhppaaS0
namespace Go.Proofs.Ytoaehigmpbhppaa.En
open Go Go.Ev Go.Proofs Go.RowKit
set_option linter.unusedSimpArgs false
set_option linter.unusedVariables false
noncomputable def checkSource_b0 : Code := (Try.f62.body).getD .skip

noncomputable def checkSource_fr0 : Fr := mkFr Try.f62 [(0, (.agg #[(.chan (.some 0)), (.chan (.some 1)), (.chan (.some 2)), (.chan (.some 3)), (.chan (.some 4)), (.chan (.some 5)), (.chan (.some 6)), (.chan (.some 7))])), (1, (.agg #[(.chan (.some 8)), (.chan (.some 9)), (.chan (.some 10)), (.chan (.some 11)), (.chan (.some 12))]))] []
noncomputable def checkSource_st0 : St := mkSt 0 []
theorem checkSource_wf0 : checkSource_st0.Wf := mkSt_wf rfl
set_option maxRecDepth 1000000 in
theorem checkSource_id0 : agreeL [sy 0, sy 1, sy 2, sy 3, sy 4, sy 5, sy 6, sy 7, sy 8, sy 9, sy 10, sy 11, sy 12] [] [] checkSource_fr0 checkSource_st0 checkSource_fr0 checkSource_st0 = true := by kernel_rfl

set_option maxRecDepth 1000000 in
theorem checkSource_a0 : agreeL [sy 0, sy 1, sy 2, sy 3, sy 4, sy 5, sy 6, sy 7, sy 8, sy 9, sy 10, sy 11, sy 12] [] [] checkSource_fr0 checkSource_st0 (frameOf Try.f62 [(.agg #[(.chan (.some 0)), (.chan (.some 1)), (.chan (.some 2)), (.chan (.some 3)), (.chan (.some 4)), (.chan (.some 5)), (.chan (.some 6)), (.chan (.some 7))]), (.agg #[(.chan (.some 8)), (.chan (.some 9)), (.chan (.some 10)), (.chan (.some 11)), (.chan (.some 12))])]) Ev.start = true := by kernel_rfl

noncomputable def checkSource_e0 : List Ent := [⟨(.bin .neq 3), [(sy 8), (iV 1)], (.bool true)⟩, ⟨(.bin .neq 3), [(sy 8), (iV 2)], (.bool true)⟩, ⟨(.bin .neq 3), [(sy 8), (iV 3)], (.bool true)⟩]
noncomputable def checkSource_c0 : List CEnt := []
noncomputable def checkSource_l0 : List LEnt := []
noncomputable def checkSource_cl0 : List CLEnt := []

set_option maxRecDepth 1000000 in
theorem checkSource_r0 : ev Try.prog (env.symL checkSource_e0 checkSource_c0 checkSource_l0 checkSource_cl0) 3000 (.code checkSource_b0 none checkSource_fr0 checkSource_st0 (retK (env.symL checkSource_e0 checkSource_c0 checkSource_l0 checkSource_cl0) Try.f62 (endV (iV 2)))) = some () := by kernel_rfl

noncomputable def checkSource_e1 : List Ent := [⟨(.bin .neq 3), [(sy 8), (iV 1)], (.bool true)⟩, ⟨(.bin .neq 3), [(sy 8), (iV 2)], (.bool true)⟩, ⟨(.bin .neq 3), [(sy 8), (iV 3)], (.bool false)⟩, ⟨(.bin .mul 3), [(sy 0), (sy 1)], (sy 13)⟩, ⟨(.bin .sub 3), [(sy 13), (iV 1)], (sy 14)⟩, ⟨(.bin .geq 3), [(sy 9), (iV 0)], (.bool true)⟩, ⟨(.bin .leq 3), [(sy 9), (sy 14)], (.bool true)⟩, ⟨(.bin .geq 3), [(sy 10), (iV 1)], (.bool true)⟩, ⟨(.bin .leq 3), [(sy 10), (iV 10)], (.bool true)⟩, ⟨(.bin .leq 3), [(sy 11), (sy 12)], (.bool true)⟩, ⟨(.bin .geq 3), [(sy 11), (iV 0)], (.bool true)⟩, ⟨(.bin .leq 3), [(sy 12), (iV 1000000000)], (.bool true)⟩]
noncomputable def checkSource_c1 : List CEnt := []
noncomputable def checkSource_l1 : List LEnt := []
noncomputable def checkSource_cl1 : List CLEnt := []

set_option maxRecDepth 1000000 in
theorem checkSource_r1 : ev Try.prog (env.symL checkSource_e1 checkSource_c1 checkSource_l1 checkSource_cl1) 3000 (.code checkSource_b0 none checkSource_fr0 checkSource_st0 (retK (env.symL checkSource_e1 checkSource_c1 checkSource_l1 checkSource_cl1) Try.f62 (endV (iV 0)))) = some () := by kernel_rfl

noncomputable def checkSource_e2 : List Ent := [⟨(.bin .neq 3), [(sy 8), (iV 1)], (.bool true)⟩, ⟨(.bin .neq 3), [(sy 8), (iV 2)], (.bool true)⟩, ⟨(.bin .neq 3), [(sy 8), (iV 3)], (.bool false)⟩, ⟨(.bin .mul 3), [(sy 0), (sy 1)], (sy 13)⟩, ⟨(.bin .sub 3), [(sy 13), (iV 1)], (sy 14)⟩, ⟨(.bin .geq 3), [(sy 9), (iV 0)], (.bool true)⟩, ⟨(.bin .leq 3), [(sy 9), (sy 14)], (.bool true)⟩, ⟨(.bin .geq 3), [(sy 10), (iV 1)], (.bool true)⟩, ⟨(.bin .leq 3), [(sy 10), (iV 10)], (.bool true)⟩, ⟨(.bin .leq 3), [(sy 11), (sy 12)], (.bool true)⟩, ⟨(.bin .geq 3), [(sy 11), (iV 0)], (.bool true)⟩, ⟨(.bin .leq 3), [(sy 12), (iV 1000000000)], (.bool false)⟩]
noncomputable def checkSource_c2 : List CEnt := []
noncomputable def checkSource_l2 : List LEnt := []
noncomputable def checkSource_cl2 : List CLEnt := []

set_option maxRecDepth 1000000 in
theorem checkSource_r2 : ev Try.prog (env.symL checkSource_e2 checkSource_c2 checkSource_l2 checkSource_cl2) 3000 (.code checkSource_b0 none checkSource_fr0 checkSource_st0 (retK (env.symL checkSource_e2 checkSource_c2 checkSource_l2 checkSource_cl2) Try.f62 (endV (iV 3)))) = some () := by kernel_rfl

noncomputable def checkSource_e3 : List Ent := [⟨(.bin .neq 3), [(sy 8), (iV 1)], (.bool true)⟩, ⟨(.bin .neq 3), [(sy 8), (iV 2)], (.bool true)⟩, ⟨(.bin .neq 3), [(sy 8), (iV 3)], (.bool false)⟩, ⟨(.bin .mul 3), [(sy 0), (sy 1)], (sy 13)⟩, ⟨(.bin .sub 3), [(sy 13), (iV 1)], (sy 14)⟩, ⟨(.bin .geq 3), [(sy 9), (iV 0)], (.bool true)⟩, ⟨(.bin .leq 3), [(sy 9), (sy 14)], (.bool true)⟩, ⟨(.bin .geq 3), [(sy 10), (iV 1)], (.bool true)⟩, ⟨(.bin .leq 3), [(sy 10), (iV 10)], (.bool true)⟩, ⟨(.bin .leq 3), [(sy 11), (sy 12)], (.bool true)⟩, ⟨(.bin .geq 3), [(sy 11), (iV 0)], (.bool false)⟩]
noncomputable def checkSource_c3 : List CEnt := []
noncomputable def checkSource_l3 : List LEnt := []
noncomputable def checkSource_cl3 : List CLEnt := []

set_option maxRecDepth 1000000 in
theorem checkSource_r3 : ev Try.prog (env.symL checkSource_e3 checkSource_c3 checkSource_l3 checkSource_cl3) 3000 (.code checkSource_b0 none checkSource_fr0 checkSource_st0 (retK (env.symL checkSource_e3 checkSource_c3 checkSource_l3 checkSource_cl3) Try.f62 (endV (iV 3)))) = some () := by kernel_rfl

noncomputable def checkSource_e4 : List Ent := [⟨(.bin .neq 3), [(sy 8), (iV 1)], (.bool true)⟩, ⟨(.bin .neq 3), [(sy 8), (iV 2)], (.bool true)⟩, ⟨(.bin .neq 3), [(sy 8), (iV 3)], (.bool false)⟩, ⟨(.bin .mul 3), [(sy 0), (sy 1)], (sy 13)⟩, ⟨(.bin .sub 3), [(sy 13), (iV 1)], (sy 14)⟩, ⟨(.bin .geq 3), [(sy 9), (iV 0)], (.bool true)⟩, ⟨(.bin .leq 3), [(sy 9), (sy 14)], (.bool true)⟩, ⟨(.bin .geq 3), [(sy 10), (iV 1)], (.bool true)⟩, ⟨(.bin .leq 3), [(sy 10), (iV 10)], (.bool true)⟩, ⟨(.bin .leq 3), [(sy 11), (sy 12)], (.bool false)⟩]
noncomputable def checkSource_c4 : List CEnt := []
noncomputable def checkSource_l4 : List LEnt := []
noncomputable def checkSource_cl4 : List CLEnt := []

set_option maxRecDepth 1000000 in
theorem checkSource_r4 : ev Try.prog (env.symL checkSource_e4 checkSource_c4 checkSource_l4 checkSource_cl4) 3000 (.code checkSource_b0 none checkSource_fr0 checkSource_st0 (retK (env.symL checkSource_e4 checkSource_c4 checkSource_l4 checkSource_cl4) Try.f62 (endV (iV 3)))) = some () := by kernel_rfl

noncomputable def checkSource_e5 : List Ent := [⟨(.bin .neq 3), [(sy 8), (iV 1)], (.bool true)⟩, ⟨(.bin .neq 3), [(sy 8), (iV 2)], (.bool true)⟩, ⟨(.bin .neq 3), [(sy 8), (iV 3)], (.bool false)⟩, ⟨(.bin .mul 3), [(sy 0), (sy 1)], (sy 13)⟩, ⟨(.bin .sub 3), [(sy 13), (iV 1)], (sy 14)⟩, ⟨(.bin .geq 3), [(sy 9), (iV 0)], (.bool true)⟩, ⟨(.bin .leq 3), [(sy 9), (sy 14)], (.bool true)⟩, ⟨(.bin .geq 3), [(sy 10), (iV 1)], (.bool true)⟩, ⟨(.bin .leq 3), [(sy 10), (iV 10)], (.bool false)⟩]
noncomputable def checkSource_c5 : List CEnt := []
noncomputable def checkSource_l5 : List LEnt := []
noncomputable def checkSource_cl5 : List CLEnt := []

set_option maxRecDepth 1000000 in
theorem checkSource_r5 : ev Try.prog (env.symL checkSource_e5 checkSource_c5 checkSource_l5 checkSource_cl5) 3000 (.code checkSource_b0 none checkSource_fr0 checkSource_st0 (retK (env.symL checkSource_e5 checkSource_c5 checkSource_l5 checkSource_cl5) Try.f62 (endV (iV 3)))) = some () := by kernel_rfl

noncomputable def checkSource_e6 : List Ent := [⟨(.bin .neq 3), [(sy 8), (iV 1)], (.bool true)⟩, ⟨(.bin .neq 3), [(sy 8), (iV 2)], (.bool true)⟩, ⟨(.bin .neq 3), [(sy 8), (iV 3)], (.bool false)⟩, ⟨(.bin .mul 3), [(sy 0), (sy 1)], (sy 13)⟩, ⟨(.bin .sub 3), [(sy 13), (iV 1)], (sy 14)⟩, ⟨(.bin .geq 3), [(sy 9), (iV 0)], (.bool true)⟩, ⟨(.bin .leq 3), [(sy 9), (sy 14)], (.bool true)⟩, ⟨(.bin .geq 3), [(sy 10), (iV 1)], (.bool false)⟩]
noncomputable def checkSource_c6 : List CEnt := []
noncomputable def checkSource_l6 : List LEnt := []
noncomputable def checkSource_cl6 : List CLEnt := []

set_option maxRecDepth 1000000 in
theorem checkSource_r6 : ev Try.prog (env.symL checkSource_e6 checkSource_c6 checkSource_l6 checkSource_cl6) 3000 (.code checkSource_b0 none checkSource_fr0 checkSource_st0 (retK (env.symL checkSource_e6 checkSource_c6 checkSource_l6 checkSource_cl6) Try.f62 (endV (iV 3)))) = some () := by kernel_rfl

noncomputable def checkSource_e7 : List Ent := [⟨(.bin .neq 3), [(sy 8), (iV 1)], (.bool true)⟩, ⟨(.bin .neq 3), [(sy 8), (iV 2)], (.bool true)⟩, ⟨(.bin .neq 3), [(sy 8), (iV 3)], (.bool false)⟩, ⟨(.bin .mul 3), [(sy 0), (sy 1)], (sy 13)⟩, ⟨(.bin .sub 3), [(sy 13), (iV 1)], (sy 14)⟩, ⟨(.bin .geq 3), [(sy 9), (iV 0)], (.bool true)⟩, ⟨(.bin .leq 3), [(sy 9), (sy 14)], (.bool false)⟩]
noncomputable def checkSource_c7 : List CEnt := []
noncomputable def checkSource_l7 : List LEnt := []
noncomputable def checkSource_cl7 : List CLEnt := []

set_option maxRecDepth 1000000 in
theorem checkSource_r7 : ev Try.prog (env.symL checkSource_e7 checkSource_c7 checkSource_l7 checkSource_cl7) 3000 (.code checkSource_b0 none checkSource_fr0 checkSource_st0 (retK (env.symL checkSource_e7 checkSource_c7 checkSource_l7 checkSource_cl7) Try.f62 (endV (iV 4)))) = some () := by kernel_rfl

noncomputable def checkSource_e8 : List Ent := [⟨(.bin .neq 3), [(sy 8), (iV 1)], (.bool true)⟩, ⟨(.bin .neq 3), [(sy 8), (iV 2)], (.bool true)⟩, ⟨(.bin .neq 3), [(sy 8), (iV 3)], (.bool false)⟩, ⟨(.bin .mul 3), [(sy 0), (sy 1)], (sy 13)⟩, ⟨(.bin .sub 3), [(sy 13), (iV 1)], (sy 14)⟩, ⟨(.bin .geq 3), [(sy 9), (iV 0)], (.bool false)⟩]
noncomputable def checkSource_c8 : List CEnt := []
noncomputable def checkSource_l8 : List LEnt := []
noncomputable def checkSource_cl8 : List CLEnt := []

set_option maxRecDepth 1000000 in
theorem checkSource_r8 : ev Try.prog (env.symL checkSource_e8 checkSource_c8 checkSource_l8 checkSource_cl8) 3000 (.code checkSource_b0 none checkSource_fr0 checkSource_st0 (retK (env.symL checkSource_e8 checkSource_c8 checkSource_l8 checkSource_cl8) Try.f62 (endV (iV 4)))) = some () := by kernel_rfl

noncomputable def checkSource_e9 : List Ent := [⟨(.bin .neq 3), [(sy 8), (iV 1)], (.bool true)⟩, ⟨(.bin .neq 3), [(sy 8), (iV 2)], (.bool false)⟩, ⟨(.bin .mul 3), [(sy 0), (sy 1)], (sy 13)⟩, ⟨(.bin .sub 3), [(sy 13), (iV 1)], (sy 14)⟩, ⟨(.bin .geq 3), [(sy 9), (iV 0)], (.bool true)⟩, ⟨(.bin .leq 3), [(sy 9), (sy 14)], (.bool true)⟩, ⟨(.bin .geq 3), [(sy 10), (iV 1)], (.bool true)⟩, ⟨(.bin .leq 3), [(sy 10), (iV 10)], (.bool true)⟩, ⟨(.bin .leq 3), [(sy 11), (sy 12)], (.bool true)⟩, ⟨(.bin .geq 3), [(sy 11), (iV 0)], (.bool true)⟩, ⟨(.bin .leq 3), [(sy 12), (iV 1000000000)], (.bool true)⟩]
noncomputable def checkSource_c9 : List CEnt := []
noncomputable def checkSource_l9 : List LEnt := []
noncomputable def checkSource_cl9 : List CLEnt := []

set_option maxRecDepth 1000000 in
theorem checkSource_r9 : ev Try.prog (env.symL checkSource_e9 checkSource_c9 checkSource_l9 checkSource_cl9) 3000 (.code checkSource_b0 none checkSource_fr0 checkSource_st0 (retK (env.symL checkSource_e9 checkSource_c9 checkSource_l9 checkSource_cl9) Try.f62 (endV (iV 0)))) = some () := by kernel_rfl

noncomputable def checkSource_e10 : List Ent := [⟨(.bin .neq 3), [(sy 8), (iV 1)], (.bool true)⟩, ⟨(.bin .neq 3), [(sy 8), (iV 2)], (.bool false)⟩, ⟨(.bin .mul 3), [(sy 0), (sy 1)], (sy 13)⟩, ⟨(.bin .sub 3), [(sy 13), (iV 1)], (sy 14)⟩, ⟨(.bin .geq 3), [(sy 9), (iV 0)], (.bool true)⟩, ⟨(.bin .leq 3), [(sy 9), (sy 14)], (.bool true)⟩, ⟨(.bin .geq 3), [(sy 10), (iV 1)], (.bool true)⟩, ⟨(.bin .leq 3), [(sy 10), (iV 10)], (.bool true)⟩, ⟨(.bin .leq 3), [(sy 11), (sy 12)], (.bool true)⟩, ⟨(.bin .geq 3), [(sy 11), (iV 0)], (.bool true)⟩, ⟨(.bin .leq 3), [(sy 12), (iV 1000000000)], (.bool false)⟩]
noncomputable def checkSource_c10 : List CEnt := []
noncomputable def checkSource_l10 : List LEnt := []
noncomputable def checkSource_cl10 : List CLEnt := []

set_option maxRecDepth 1000000 in
theorem checkSource_r10 : ev Try.prog (env.symL checkSource_e10 checkSource_c10 checkSource_l10 checkSource_cl10) 3000 (.code checkSource_b0 none checkSource_fr0 checkSource_st0 (retK (env.symL checkSource_e10 checkSource_c10 checkSource_l10 checkSource_cl10) Try.f62 (endV (iV 3)))) = some () := by kernel_rfl

noncomputable def checkSource_e11 : List Ent := [⟨(.bin .neq 3), [(sy 8), (iV 1)], (.bool true)⟩, ⟨(.bin .neq 3), [(sy 8), (iV 2)], (.bool false)⟩, ⟨(.bin .mul 3), [(sy 0), (sy 1)], (sy 13)⟩, ⟨(.bin .sub 3), [(sy 13), (iV 1)], (sy 14)⟩, ⟨(.bin .geq 3), [(sy 9), (iV 0)], (.bool true)⟩, ⟨(.bin .leq 3), [(sy 9), (sy 14)], (.bool true)⟩, ⟨(.bin .geq 3), [(sy 10), (iV 1)], (.bool true)⟩, ⟨(.bin .leq 3), [(sy 10), (iV 10)], (.bool true)⟩, ⟨(.bin .leq 3), [(sy 11), (sy 12)], (.bool true)⟩, ⟨(.bin .geq 3), [(sy 11), (iV 0)], (.bool false)⟩]
noncomputable def checkSource_c11 : List CEnt := []
noncomputable def checkSource_l11 : List LEnt := []
noncomputable def checkSource_cl11 : List CLEnt := []

set_option maxRecDepth 1000000 in
theorem checkSource_r11 : ev Try.prog (env.symL checkSource_e11 checkSource_c11 checkSource_l11 checkSource_cl11) 3000 (.code checkSource_b0 none checkSource_fr0 checkSource_st0 (retK (env.symL checkSource_e11 checkSource_c11 checkSource_l11 checkSource_cl11) Try.f62 (endV (iV 3)))) = some () := by kernel_rfl

noncomputable def checkSource_e12 : List Ent := [⟨(.bin .neq 3), [(sy 8), (iV 1)], (.bool true)⟩, ⟨(.bin .neq 3), [(sy 8), (iV 2)], (.bool false)⟩, ⟨(.bin .mul 3), [(sy 0), (sy 1)], (sy 13)⟩, ⟨(.bin .sub 3), [(sy 13), (iV 1)], (sy 14)⟩, ⟨(.bin .geq 3), [(sy 9), (iV 0)], (.bool true)⟩, ⟨(.bin .leq 3), [(sy 9), (sy 14)], (.bool true)⟩, ⟨(.bin .geq 3), [(sy 10), (iV 1)], (.bool true)⟩, ⟨(.bin .leq 3), [(sy 10), (iV 10)], (.bool true)⟩, ⟨(.bin .leq 3), [(sy 11), (sy 12)], (.bool false)⟩]
noncomputable def checkSource_c12 : List CEnt := []
noncomputable def checkSource_l12 : List LEnt := []
noncomputable def checkSource_cl12 : List CLEnt := []

set_option maxRecDepth 1000000 in
theorem checkSource_r12 : ev Try.prog (env.symL checkSource_e12 checkSource_c12 checkSource_l12 checkSource_cl12) 3000 (.code checkSource_b0 none checkSource_fr0 checkSource_st0 (retK (env.symL checkSource_e12 checkSource_c12 checkSource_l12 checkSource_cl12) Try.f62 (endV (iV 3)))) = some () := by kernel_rfl

noncomputable def checkSource_e13 : List Ent := [⟨(.bin .neq 3), [(sy 8), (iV 1)], (.bool true)⟩, ⟨(.bin .neq 3), [(sy 8), (iV 2)], (.bool false)⟩, ⟨(.bin .mul 3), [(sy 0), (sy 1)], (sy 13)⟩, ⟨(.bin .sub 3), [(sy 13), (iV 1)], (sy 14)⟩, ⟨(.bin .geq 3), [(sy 9), (iV 0)], (.bool true)⟩, ⟨(.bin .leq 3), [(sy 9), (sy 14)], (.bool true)⟩, ⟨(.bin .geq 3), [(sy 10), (iV 1)], (.bool true)⟩, ⟨(.bin .leq 3), [(sy 10), (iV 10)], (.bool false)⟩]
noncomputable def checkSource_c13 : List CEnt := []
noncomputable def checkSource_l13 : List LEnt := []
noncomputable def checkSource_cl13 : List CLEnt := []

set_option maxRecDepth 1000000 in
theorem checkSource_r13 : ev Try.prog (env.symL checkSource_e13 checkSource_c13 checkSource_l13 checkSource_cl13) 3000 (.code checkSource_b0 none checkSource_fr0 checkSource_st0 (retK (env.symL checkSource_e13 checkSource_c13 checkSource_l13 checkSource_cl13) Try.f62 (endV (iV 3)))) = some () := by kernel_rfl

noncomputable def checkSource_e14 : List Ent := [⟨(.bin .neq 3), [(sy 8), (iV 1)], (.bool true)⟩, ⟨(.bin .neq 3), [(sy 8), (iV 2)], (.bool false)⟩, ⟨(.bin .mul 3), [(sy 0), (sy 1)], (sy 13)⟩, ⟨(.bin .sub 3), [(sy 13), (iV 1)], (sy 14)⟩, ⟨(.bin .geq 3), [(sy 9), (iV 0)], (.bool true)⟩, ⟨(.bin .leq 3), [(sy 9), (sy 14)], (.bool true)⟩, ⟨(.bin .geq 3), [(sy 10), (iV 1)], (.bool false)⟩]
noncomputable def checkSource_c14 : List CEnt := []
noncomputable def checkSource_l14 : List LEnt := []
noncomputable def checkSource_cl14 : List CLEnt := []

set_option maxRecDepth 1000000 in
theorem checkSource_r14 : ev Try.prog (env.symL checkSource_e14 checkSource_c14 checkSource_l14 checkSource_cl14) 3000 (.code checkSource_b0 none checkSource_fr0 checkSource_st0 (retK (env.symL checkSource_e14 checkSource_c14 checkSource_l14 checkSource_cl14) Try.f62 (endV (iV 3)))) = some () := by kernel_rfl

noncomputable def checkSource_e15 : List Ent := [⟨(.bin .neq 3), [(sy 8), (iV 1)], (.bool true)⟩, ⟨(.bin .neq 3), [(sy 8), (iV 2)], (.bool false)⟩, ⟨(.bin .mul 3), [(sy 0), (sy 1)], (sy 13)⟩, ⟨(.bin .sub 3), [(sy 13), (iV 1)], (sy 14)⟩, ⟨(.bin .geq 3), [(sy 9), (iV 0)], (.bool true)⟩, ⟨(.bin .leq 3), [(sy 9), (sy 14)], (.bool false)⟩]
noncomputable def checkSource_c15 : List CEnt := []
noncomputable def checkSource_l15 : List LEnt := []
noncomputable def checkSource_cl15 : List CLEnt := []

set_option maxRecDepth 1000000 in
theorem checkSource_r15 : ev Try.prog (env.symL checkSource_e15 checkSource_c15 checkSource_l15 checkSource_cl15) 3000 (.code checkSource_b0 none checkSource_fr0 checkSource_st0 (retK (env.symL checkSource_e15 checkSource_c15 checkSource_l15 checkSource_cl15) Try.f62 (endV (iV 4)))) = some () := by kernel_rfl

noncomputable def checkSource_e16 : List Ent := [⟨(.bin .neq 3), [(sy 8), (iV 1)], (.bool true)⟩, ⟨(.bin .neq 3), [(sy 8), (iV 2)], (.bool false)⟩, ⟨(.bin .mul 3), [(sy 0), (sy 1)], (sy 13)⟩, ⟨(.bin .sub 3), [(sy 13), (iV 1)], (sy 14)⟩, ⟨(.bin .geq 3), [(sy 9), (iV 0)], (.bool false)⟩]
noncomputable def checkSource_c16 : List CEnt := []
noncomputable def checkSource_l16 : List LEnt := []
noncomputable def checkSource_cl16 : List CLEnt := []

set_option maxRecDepth 1000000 in
theorem checkSource_r16 : ev Try.prog (env.symL checkSource_e16 checkSource_c16 checkSource_l16 checkSource_cl16) 3000 (.code checkSource_b0 none checkSource_fr0 checkSource_st0 (retK (env.symL checkSource_e16 checkSource_c16 checkSource_l16 checkSource_cl16) Try.f62 (endV (iV 4)))) = some () := by kernel_rfl

noncomputable def checkSource_e17 : List Ent := [⟨(.bin .neq 3), [(sy 8), (iV 1)], (.bool false)⟩, ⟨(.bin .mul 3), [(sy 0), (sy 1)], (sy 13)⟩, ⟨(.bin .sub 3), [(sy 13), (iV 1)], (sy 14)⟩, ⟨(.bin .geq 3), [(sy 9), (iV 0)], (.bool true)⟩, ⟨(.bin .leq 3), [(sy 9), (sy 14)], (.bool true)⟩, ⟨(.bin .geq 3), [(sy 10), (iV 1)], (.bool true)⟩, ⟨(.bin .leq 3), [(sy 10), (iV 10)], (.bool true)⟩, ⟨(.bin .leq 3), [(sy 11), (sy 12)], (.bool true)⟩, ⟨(.bin .geq 3), [(sy 11), (iV 0)], (.bool true)⟩, ⟨(.bin .leq 3), [(sy 12), (iV 1000000000)], (.bool true)⟩]
noncomputable def checkSource_c17 : List CEnt := []
noncomputable def checkSource_l17 : List LEnt := []
noncomputable def checkSource_cl17 : List CLEnt := []

set_option maxRecDepth 1000000 in
theorem checkSource_r17 : ev Try.prog (env.symL checkSource_e17 checkSource_c17 checkSource_l17 checkSource_cl17) 3000 (.code checkSource_b0 none checkSource_fr0 checkSource_st0 (retK (env.symL checkSource_e17 checkSource_c17 checkSource_l17 checkSource_cl17) Try.f62 (endV (iV 0)))) = some () := by kernel_rfl

noncomputable def checkSource_e18 : List Ent := [⟨(.bin .neq 3), [(sy 8), (iV 1)], (.bool false)⟩, ⟨(.bin .mul 3), [(sy 0), (sy 1)], (sy 13)⟩, ⟨(.bin .sub 3), [(sy 13), (iV 1)], (sy 14)⟩, ⟨(.bin .geq 3), [(sy 9), (iV 0)], (.bool true)⟩, ⟨(.bin .leq 3), [(sy 9), (sy 14)], (.bool true)⟩, ⟨(.bin .geq 3), [(sy 10), (iV 1)], (.bool true)⟩, ⟨(.bin .leq 3), [(sy 10), (iV 10)], (.bool true)⟩, ⟨(.bin .leq 3), [(sy 11), (sy 12)], (.bool true)⟩, ⟨(.bin .geq 3), [(sy 11), (iV 0)], (.bool true)⟩, ⟨(.bin .leq 3), [(sy 12), (iV 1000000000)], (.bool false)⟩]
noncomputable def checkSource_c18 : List CEnt := []
noncomputable def checkSource_l18 : List LEnt := []
noncomputable def checkSource_cl18 : List CLEnt := []

set_option maxRecDepth 1000000 in
theorem checkSource_r18 : ev Try.prog (env.symL checkSource_e18 checkSource_c18 checkSource_l18 checkSource_cl18) 3000 (.code checkSource_b0 none checkSource_fr0 checkSource_st0 (retK (env.symL checkSource_e18 checkSource_c18 checkSource_l18 checkSource_cl18) Try.f62 (endV (iV 3)))) = some () := by kernel_rfl

noncomputable def checkSource_e19 : List Ent := [⟨(.bin .neq 3), [(sy 8), (iV 1)], (.bool false)⟩, ⟨(.bin .mul 3), [(sy 0), (sy 1)], (sy 13)⟩, ⟨(.bin .sub 3), [(sy 13), (iV 1)], (sy 14)⟩, ⟨(.bin .geq 3), [(sy 9), (iV 0)], (.bool true)⟩, ⟨(.bin .leq 3), [(sy 9), (sy 14)], (.bool true)⟩, ⟨(.bin .geq 3), [(sy 10), (iV 1)], (.bool true)⟩, ⟨(.bin .leq 3), [(sy 10), (iV 10)], (.bool true)⟩, ⟨(.bin .leq 3), [(sy 11), (sy 12)], (.bool true)⟩, ⟨(.bin .geq 3), [(sy 11), (iV 0)], (.bool false)⟩]
noncomputable def checkSource_c19 : List CEnt := []
noncomputable def checkSource_l19 : List LEnt := []
noncomputable def checkSource_cl19 : List CLEnt := []

set_option maxRecDepth 1000000 in
theorem checkSource_r19 : ev Try.prog (env.symL checkSource_e19 checkSource_c19 checkSource_l19 checkSource_cl19) 3000 (.code checkSource_b0 none checkSource_fr0 checkSource_st0 (retK (env.symL checkSource_e19 checkSource_c19 checkSource_l19 checkSource_cl19) Try.f62 (endV (iV 3)))) = some () := by kernel_rfl

noncomputable def checkSource_e20 : List Ent := [⟨(.bin .neq 3), [(sy 8), (iV 1)], (.bool false)⟩, ⟨(.bin .mul 3), [(sy 0), (sy 1)], (sy 13)⟩, ⟨(.bin .sub 3), [(sy 13), (iV 1)], (sy 14)⟩, ⟨(.bin .geq 3), [(sy 9), (iV 0)], (.bool true)⟩, ⟨(.bin .leq 3), [(sy 9), (sy 14)], (.bool true)⟩, ⟨(.bin .geq 3), [(sy 10), (iV 1)], (.bool true)⟩, ⟨(.bin .leq 3), [(sy 10), (iV 10)], (.bool true)⟩, ⟨(.bin .leq 3), [(sy 11), (sy 12)], (.bool false)⟩]
noncomputable def checkSource_c20 : List CEnt := []
noncomputable def checkSource_l20 : List LEnt := []
noncomputable def checkSource_cl20 : List CLEnt := []

set_option maxRecDepth 1000000 in
theorem checkSource_r20 : ev Try.prog (env.symL checkSource_e20 checkSource_c20 checkSource_l20 checkSource_cl20) 3000 (.code checkSource_b0 none checkSource_fr0 checkSource_st0 (retK (env.symL checkSource_e20 checkSource_c20 checkSource_l20 checkSource_cl20) Try.f62 (endV (iV 3)))) = some () := by kernel_rfl

noncomputable def checkSource_e21 : List Ent := [⟨(.bin .neq 3), [(sy 8), (iV 1)], (.bool false)⟩, ⟨(.bin .mul 3), [(sy 0), (sy 1)], (sy 13)⟩, ⟨(.bin .sub 3), [(sy 13), (iV 1)], (sy 14)⟩, ⟨(.bin .geq 3), [(sy 9), (iV 0)], (.bool true)⟩, ⟨(.bin .leq 3), [(sy 9), (sy 14)], (.bool true)⟩, ⟨(.bin .geq 3), [(sy 10), (iV 1)], (.bool true)⟩, ⟨(.bin .leq 3), [(sy 10), (iV 10)], (.bool false)⟩]
noncomputable def checkSource_c21 : List CEnt := []
noncomputable def checkSource_l21 : List LEnt := []
noncomputable def checkSource_cl21 : List CLEnt := []

set_option maxRecDepth 1000000 in
theorem checkSource_r21 : ev Try.prog (env.symL checkSource_e21 checkSource_c21 checkSource_l21 checkSource_cl21) 3000 (.code checkSource_b0 none checkSource_fr0 checkSource_st0 (retK (env.symL checkSource_e21 checkSource_c21 checkSource_l21 checkSource_cl21) Try.f62 (endV (iV 3)))) = some () := by kernel_rfl

noncomputable def checkSource_e22 : List Ent := [⟨(.bin .neq 3), [(sy 8), (iV 1)], (.bool false)⟩, ⟨(.bin .mul 3), [(sy 0), (sy 1)], (sy 13)⟩, ⟨(.bin .sub 3), [(sy 13), (iV 1)], (sy 14)⟩, ⟨(.bin .geq 3), [(sy 9), (iV 0)], (.bool true)⟩, ⟨(.bin .leq 3), [(sy 9), (sy 14)], (.bool true)⟩, ⟨(.bin .geq 3), [(sy 10), (iV 1)], (.bool false)⟩]
noncomputable def checkSource_c22 : List CEnt := []
noncomputable def checkSource_l22 : List LEnt := []
noncomputable def checkSource_cl22 : List CLEnt := []

set_option maxRecDepth 1000000 in
theorem checkSource_r22 : ev Try.prog (env.symL checkSource_e22 checkSource_c22 checkSource_l22 checkSource_cl22) 3000 (.code checkSource_b0 none checkSource_fr0 checkSource_st0 (retK (env.symL checkSource_e22 checkSource_c22 checkSource_l22 checkSource_cl22) Try.f62 (endV (iV 3)))) = some () := by kernel_rfl

noncomputable def checkSource_e23 : List Ent := [⟨(.bin .neq 3), [(sy 8), (iV 1)], (.bool false)⟩, ⟨(.bin .mul 3), [(sy 0), (sy 1)], (sy 13)⟩, ⟨(.bin .sub 3), [(sy 13), (iV 1)], (sy 14)⟩, ⟨(.bin .geq 3), [(sy 9), (iV 0)], (.bool true)⟩, ⟨(.bin .leq 3), [(sy 9), (sy 14)], (.bool false)⟩]
noncomputable def checkSource_c23 : List CEnt := []
noncomputable def checkSource_l23 : List LEnt := []
noncomputable def checkSource_cl23 : List CLEnt := []

set_option maxRecDepth 1000000 in
theorem checkSource_r23 : ev Try.prog (env.symL checkSource_e23 checkSource_c23 checkSource_l23 checkSource_cl23) 3000 (.code checkSource_b0 none checkSource_fr0 checkSource_st0 (retK (env.symL checkSource_e23 checkSource_c23 checkSource_l23 checkSource_cl23) Try.f62 (endV (iV 4)))) = some () := by kernel_rfl

noncomputable def checkSource_e24 : List Ent := [⟨(.bin .neq 3), [(sy 8), (iV 1)], (.bool false)⟩, ⟨(.bin .mul 3), [(sy 0), (sy 1)], (sy 13)⟩, ⟨(.bin .sub 3), [(sy 13), (iV 1)], (sy 14)⟩, ⟨(.bin .geq 3), [(sy 9), (iV 0)], (.bool false)⟩]
noncomputable def checkSource_c24 : List CEnt := []
noncomputable def checkSource_l24 : List LEnt := []
noncomputable def checkSource_cl24 : List CLEnt := []

set_option maxRecDepth 1000000 in
theorem checkSource_r24 : ev Try.prog (env.symL checkSource_e24 checkSource_c24 checkSource_l24 checkSource_cl24) 3000 (.code checkSource_b0 none checkSource_fr0 checkSource_st0 (retK (env.symL checkSource_e24 checkSource_c24 checkSource_l24 checkSource_cl24) Try.f62 (endV (iV 4)))) = some () := by kernel_rfl

set_option maxHeartbeats 8000000 in
set_option maxRecDepth 100000 in
theorem checkSource_any (x0 : Int) (x1 : Int) (x2 : Int) (x3 : Int) (x4 : Int) (x5 : Int) (x6 : Int) (x7 : Int) (s : Src) (w0 : World) (v0 : 1 ≤ x0 ∧ x0 ≤ 24) (v1 : 1 ≤ x1 ∧ x1 ≤ 24) : Calls Try.prog 62 #[(.agg #[(iV x0), (iV x1), (iV x2), (iV x3), (iV x4), (iV x5), (iV x6), (iV x7)]), (.agg #[(iV s.kind), (iV s.cell), (iV s.cls), (iV s.lo), (iV s.hi)])] w0 (fun en w' => en = .returned (iV (srcErr x0 x1 s)) ∧ Below w0.heap.size w0 w') := by
  have hx := mul_bd (a := x0) (b := x1) (A := 24) (B := 24) (C := 576) (by omega) (by omega) (by omega) (by omega)
  refine @calls_of_body (Rho.of [(iV x0), (iV x1), (iV x2), (iV x3), (iV x4), (iV x5), (iV x6), (iV x7), (iV s.kind), (iV s.cell), (iV s.cls), (iV s.lo), (iV s.hi)] (fun b => w0.heap[b]?) []) Try.prog env (@env_ok (Rho.of [(iV x0), (iV x1), (iV x2), (iV x3), (iV x4), (iV x5), (iV x6), (iV x7), (iV s.kind), (iV s.cell), (iV s.cls), (iV s.lo), (iV s.hi)] (fun b => w0.heap[b]?) [])) 62 Try.f62 checkSource_b0 [(.agg #[(.chan (.some 0)), (.chan (.some 1)), (.chan (.some 2)), (.chan (.some 3)), (.chan (.some 4)), (.chan (.some 5)), (.chan (.some 6)), (.chan (.some 7))]), (.agg #[(.chan (.some 8)), (.chan (.some 9)), (.chan (.some 10)), (.chan (.some 11)), (.chan (.some 12))])] w0 _ (by kernel_rfl) (by kernel_rfl) (of_decide_eq_true (by kernel_rfl)) (of_decide_eq_true (by kernel_rfl)) rfl (fun _ _ h => h) (fun a hat0 => ?_)
  have hat : @At (Rho.of [(iV x0), (iV x1), (iV x2), (iV x3), (iV x4), (iV x5), (iV x6), (iV x7), (iV s.kind), (iV s.cell), (iV s.cls), (iV s.lo), (iV s.hi)] (fun b => w0.heap[b]?) []) w0 checkSource_fr0 checkSource_st0 a w0 := At.shiftL (σ := [sy 0, sy 1, sy 2, sy 3, sy 4, sy 5, sy 6, sy 7, sy 8, sy 9, sy 10, sy 11, sy 12]) (π := []) (τ := []) ⟨rfl, rfl, rfl, rfl, rfl, rfl, rfl, rfl, rfl, rfl, rfl, rfl, rfl, rfl, rfl, rfl, rfl, rfl, rfl, rfl, rfl, rfl, rfl, rfl, rfl, rfl, trivial⟩ trivial (fun _ _ h => h) checkSource_wf0 checkSource_a0 hat0
  clear hat0
  suffices key : ∀ w, @At (Rho.of [(iV x0), (iV x1), (iV x2), (iV x3), (iV x4), (iV x5), (iV x6), (iV x7), (iV s.kind), (iV s.cell), (iV s.cls), (iV s.lo), (iV s.hi)] (fun b => w0.heap[b]?) []) w0 checkSource_fr0 checkSource_st0 a w → checkSource_b0.wpIn (FF none) 0 Try.prog (bodyPostM Fence.wide 0 Try.prog Try.f62 (fun en w' => en = .returned (iV (srcErr x0 x1 s)) ∧ Below w0.heap.size w0 w')) a w from key w0 hat
  clear hat
  intro w hat
  let p0 : Rho := (Rho.of [(iV x0), (iV x1), (iV x2), (iV x3), (iV x4), (iV x5), (iV x6), (iV x7), (iV s.kind), (iV s.cell), (iV s.cls), (iV s.lo), (iV s.hi)] (fun b => w0.heap[b]?) [])
  change @At p0 w0 checkSource_fr0 checkSource_st0 a w at hat
  by_cases c0 : s.kind ≠ 1
  · by_cases c1 : s.kind ≠ 2
    · by_cases c2 : s.kind ≠ 3
      · let r0 : Rho := (Rho.of [(iV x0), (iV x1), (iV x2), (iV x3), (iV x4), (iV x5), (iV x6), (iV x7), (iV s.kind), (iV s.cell), (iV s.cls), (iV s.lo), (iV s.hi)] (fun b => w0.heap[b]?) [])
        have hat1 : @At r0 w0 checkSource_fr0 checkSource_st0 a w := At.shiftL (ρ1 := p0) (ρ2 := r0) (σ := [sy 0, sy 1, sy 2, sy 3, sy 4, sy 5, sy 6, sy 7, sy 8, sy 9, sy 10, sy 11, sy 12]) (π := []) (τ := []) ⟨rfl, rfl, rfl, rfl, rfl, rfl, rfl, rfl, rfl, rfl, rfl, rfl, rfl, rfl, rfl, rfl, rfl, rfl, rfl, rfl, rfl, rfl, rfl, rfl, rfl, rfl, trivial⟩ trivial (fun _ _ h => h) checkSource_wf0 checkSource_id0 hat
        refine @At.lastK r0 Try.prog (env.symL checkSource_e0 checkSource_c0 checkSource_l0 checkSource_cl0) (@Env.Ok.symL r0 _ _ (@env_ok r0) checkSource_e0 checkSource_c0 checkSource_l0 checkSource_cl0 ⟨⟨rfl, rfl, fun w hm => (show KO w (.bin .neq 3) [(iV s.kind), (iV 1)] (.bool true) from k_neq_t c0)⟩, ⟨rfl, rfl, fun w hm => (show KO w (.bin .neq 3) [(iV s.kind), (iV 2)] (.bool true) from k_neq_t c1)⟩, ⟨rfl, rfl, fun w hm => (show KO w (.bin .neq 3) [(iV s.kind), (iV 3)] (.bool true) from k_neq_t c2)⟩, trivial⟩ trivial trivial trivial) w0 3000 checkSource_b0 Try.f62 checkSource_fr0 checkSource_st0 _ _ checkSource_r0 checkSource_wf0 a w hat1 (@endV_ok r0 w0 (iV 2) (fun en w' => en = .returned (iV (srcErr x0 x1 s)) ∧ Below w0.heap.size w0 w') rfl (fun w2 hb => ?_))
        have v0 : (2 : Int) = srcErr x0 x1 s := by
          unfold srcErr; repeat' split
          all_goals omega
        have hv := congrArg (fun (y0 : Int) => ((iV y0) : Value)) v0
        exact ⟨congrArg Ending.returned hv, hb⟩
      · by_cases c3 : s.cell ≥ 0
        · by_cases c4 : s.cell ≤ ((x0 * x1) - 1)
          · by_cases c5 : s.cls ≥ 1
            · by_cases c6 : s.cls ≤ 10
              · by_cases c7 : s.lo ≤ s.hi
                · by_cases c8 : s.lo ≥ 0
                  · by_cases c9 : s.hi ≤ 1000000000
                    · let r1 : Rho := (Rho.of [(iV x0), (iV x1), (iV x2), (iV x3), (iV x4), (iV x5), (iV x6), (iV x7), (iV s.kind), (iV s.cell), (iV s.cls), (iV s.lo), (iV s.hi), (iV ((x0 * x1))), (iV (((x0 * x1) - 1)))] (fun b => w0.heap[b]?) [])
                      have hat1 : @At r1 w0 checkSource_fr0 checkSource_st0 a w := At.shiftL (ρ1 := p0) (ρ2 := r1) (σ := [sy 0, sy 1, sy 2, sy 3, sy 4, sy 5, sy 6, sy 7, sy 8, sy 9, sy 10, sy 11, sy 12]) (π := []) (τ := []) ⟨rfl, rfl, rfl, rfl, rfl, rfl, rfl, rfl, rfl, rfl, rfl, rfl, rfl, rfl, rfl, rfl, rfl, rfl, rfl, rfl, rfl, rfl, rfl, rfl, rfl, rfl, trivial⟩ trivial (fun _ _ h => h) checkSource_wf0 checkSource_id0 hat
                      refine @At.lastK r1 Try.prog (env.symL checkSource_e1 checkSource_c1 checkSource_l1 checkSource_cl1) (@Env.Ok.symL r1 _ _ (@env_ok r1) checkSource_e1 checkSource_c1 checkSource_l1 checkSource_cl1 ⟨⟨rfl, rfl, fun w hm => (show KO w (.bin .neq 3) [(iV s.kind), (iV 1)] (.bool true) from k_neq_t c0)⟩, ⟨rfl, rfl, fun w hm => (show KO w (.bin .neq 3) [(iV s.kind), (iV 2)] (.bool true) from k_neq_t c1)⟩, ⟨rfl, rfl, fun w hm => (show KO w (.bin .neq 3) [(iV s.kind), (iV 3)] (.bool false) from k_neq_f c2)⟩, ⟨rfl, rfl, fun w hm => (show KO w (.bin .mul 3) [(iV x0), (iV x1)] (iV ((x0 * x1))) from k_mul (wrap64 (by omega)))⟩, ⟨rfl, rfl, fun w hm => (show KO w (.bin .sub 3) [(iV ((x0 * x1))), (iV 1)] (iV (((x0 * x1) - 1))) from k_sub (wrap64 (by omega)))⟩, ⟨rfl, rfl, fun w hm => (show KO w (.bin .geq 3) [(iV s.cell), (iV 0)] (.bool true) from k_geq_t c3)⟩, ⟨rfl, rfl, fun w hm => (show KO w (.bin .leq 3) [(iV s.cell), (iV (((x0 * x1) - 1)))] (.bool true) from k_leq_t c4)⟩, ⟨rfl, rfl, fun w hm => (show KO w (.bin .geq 3) [(iV s.cls), (iV 1)] (.bool true) from k_geq_t c5)⟩, ⟨rfl, rfl, fun w hm => (show KO w (.bin .leq 3) [(iV s.cls), (iV 10)] (.bool true) from k_leq_t c6)⟩, ⟨rfl, rfl, fun w hm => (show KO w (.bin .leq 3) [(iV s.lo), (iV s.hi)] (.bool true) from k_leq_t c7)⟩, ⟨rfl, rfl, fun w hm => (show KO w (.bin .geq 3) [(iV s.lo), (iV 0)] (.bool true) from k_geq_t c8)⟩, ⟨rfl, rfl, fun w hm => (show KO w (.bin .leq 3) [(iV s.hi), (iV 1000000000)] (.bool true) from k_leq_t c9)⟩, trivial⟩ trivial trivial trivial) w0 3000 checkSource_b0 Try.f62 checkSource_fr0 checkSource_st0 _ _ checkSource_r1 checkSource_wf0 a w hat1 (@endV_ok r1 w0 (iV 0) (fun en w' => en = .returned (iV (srcErr x0 x1 s)) ∧ Below w0.heap.size w0 w') rfl (fun w2 hb => ?_))
                      have v0 : (0 : Int) = srcErr x0 x1 s := by
                        unfold srcErr; repeat' split
                        all_goals omega
                      have hv := congrArg (fun (y0 : Int) => ((iV y0) : Value)) v0
                      exact ⟨congrArg Ending.returned hv, hb⟩
                    · let r2 : Rho := (Rho.of [(iV x0), (iV x1), (iV x2), (iV x3), (iV x4), (iV x5), (iV x6), (iV x7), (iV s.kind), (iV s.cell), (iV s.cls), (iV s.lo), (iV s.hi), (iV ((x0 * x1))), (iV (((x0 * x1) - 1)))] (fun b => w0.heap[b]?) [])
                      have hat1 : @At r2 w0 checkSource_fr0 checkSource_st0 a w := At.shiftL (ρ1 := p0) (ρ2 := r2) (σ := [sy 0, sy 1, sy 2, sy 3, sy 4, sy 5, sy 6, sy 7, sy 8, sy 9, sy 10, sy 11, sy 12]) (π := []) (τ := []) ⟨rfl, rfl, rfl, rfl, rfl, rfl, rfl, rfl, rfl, rfl, rfl, rfl, rfl, rfl, rfl, rfl, rfl, rfl, rfl, rfl, rfl, rfl, rfl, rfl, rfl, rfl, trivial⟩ trivial (fun _ _ h => h) checkSource_wf0 checkSource_id0 hat
                      refine @At.lastK r2 Try.prog (env.symL checkSource_e2 checkSource_c2 checkSource_l2 checkSource_cl2) (@Env.Ok.symL r2 _ _ (@env_ok r2) checkSource_e2 checkSource_c2 checkSource_l2 checkSource_cl2 ⟨⟨rfl, rfl, fun w hm => (show KO w (.bin .neq 3) [(iV s.kind), (iV 1)] (.bool true) from k_neq_t c0)⟩, ⟨rfl, rfl, fun w hm => (show KO w (.bin .neq 3) [(iV s.kind), (iV 2)] (.bool true) from k_neq_t c1)⟩, ⟨rfl, rfl, fun w hm => (show KO w (.bin .neq 3) [(iV s.kind), (iV 3)] (.bool false) from k_neq_f c2)⟩, ⟨rfl, rfl, fun w hm => (show KO w (.bin .mul 3) [(iV x0), (iV x1)] (iV ((x0 * x1))) from k_mul (wrap64 (by omega)))⟩, ⟨rfl, rfl, fun w hm => (show KO w (.bin .sub 3) [(iV ((x0 * x1))), (iV 1)] (iV (((x0 * x1) - 1))) from k_sub (wrap64 (by omega)))⟩, ⟨rfl, rfl, fun w hm => (show KO w (.bin .geq 3) [(iV s.cell), (iV 0)] (.bool true) from k_geq_t c3)⟩, ⟨rfl, rfl, fun w hm => (show KO w (.bin .leq 3) [(iV s.cell), (iV (((x0 * x1) - 1)))] (.bool true) from k_leq_t c4)⟩, ⟨rfl, rfl, fun w hm => (show KO w (.bin .geq 3) [(iV s.cls), (iV 1)] (.bool true) from k_geq_t c5)⟩, ⟨rfl, rfl, fun w hm => (show KO w (.bin .leq 3) [(iV s.cls), (iV 10)] (.bool true) from k_leq_t c6)⟩, ⟨rfl, rfl, fun w hm => (show KO w (.bin .leq 3) [(iV s.lo), (iV s.hi)] (.bool true) from k_leq_t c7)⟩, ⟨rfl, rfl, fun w hm => (show KO w (.bin .geq 3) [(iV s.lo), (iV 0)] (.bool true) from k_geq_t c8)⟩, ⟨rfl, rfl, fun w hm => (show KO w (.bin .leq 3) [(iV s.hi), (iV 1000000000)] (.bool false) from k_leq_f c9)⟩, trivial⟩ trivial trivial trivial) w0 3000 checkSource_b0 Try.f62 checkSource_fr0 checkSource_st0 _ _ checkSource_r2 checkSource_wf0 a w hat1 (@endV_ok r2 w0 (iV 3) (fun en w' => en = .returned (iV (srcErr x0 x1 s)) ∧ Below w0.heap.size w0 w') rfl (fun w2 hb => ?_))
                      have v0 : (3 : Int) = srcErr x0 x1 s := by
                        unfold srcErr; repeat' split
                        all_goals omega
                      have hv := congrArg (fun (y0 : Int) => ((iV y0) : Value)) v0
                      exact ⟨congrArg Ending.returned hv, hb⟩
                  · let r3 : Rho := (Rho.of [(iV x0), (iV x1), (iV x2), (iV x3), (iV x4), (iV x5), (iV x6), (iV x7), (iV s.kind), (iV s.cell), (iV s.cls), (iV s.lo), (iV s.hi), (iV ((x0 * x1))), (iV (((x0 * x1) - 1)))] (fun b => w0.heap[b]?) [])
                    have hat1 : @At r3 w0 checkSource_fr0 checkSource_st0 a w := At.shiftL (ρ1 := p0) (ρ2 := r3) (σ := [sy 0, sy 1, sy 2, sy 3, sy 4, sy 5, sy 6, sy 7, sy 8, sy 9, sy 10, sy 11, sy 12]) (π := []) (τ := []) ⟨rfl, rfl, rfl, rfl, rfl, rfl, rfl, rfl, rfl, rfl, rfl, rfl, rfl, rfl, rfl, rfl, rfl, rfl, rfl, rfl, rfl, rfl, rfl, rfl, rfl, rfl, trivial⟩ trivial (fun _ _ h => h) checkSource_wf0 checkSource_id0 hat
                    refine @At.lastK r3 Try.prog (env.symL checkSource_e3 checkSource_c3 checkSource_l3 checkSource_cl3) (@Env.Ok.symL r3 _ _ (@env_ok r3) checkSource_e3 checkSource_c3 checkSource_l3 checkSource_cl3 ⟨⟨rfl, rfl, fun w hm => (show KO w (.bin .neq 3) [(iV s.kind), (iV 1)] (.bool true) from k_neq_t c0)⟩, ⟨rfl, rfl, fun w hm => (show KO w (.bin .neq 3) [(iV s.kind), (iV 2)] (.bool true) from k_neq_t c1)⟩, ⟨rfl, rfl, fun w hm => (show KO w (.bin .neq 3) [(iV s.kind), (iV 3)] (.bool false) from k_neq_f c2)⟩, ⟨rfl, rfl, fun w hm => (show KO w (.bin .mul 3) [(iV x0), (iV x1)] (iV ((x0 * x1))) from k_mul (wrap64 (by omega)))⟩, ⟨rfl, rfl, fun w hm => (show KO w (.bin .sub 3) [(iV ((x0 * x1))), (iV 1)] (iV (((x0 * x1) - 1))) from k_sub (wrap64 (by omega)))⟩, ⟨rfl, rfl, fun w hm => (show KO w (.bin .geq 3) [(iV s.cell), (iV 0)] (.bool true) from k_geq_t c3)⟩, ⟨rfl, rfl, fun w hm => (show KO w (.bin .leq 3) [(iV s.cell), (iV (((x0 * x1) - 1)))] (.bool true) from k_leq_t c4)⟩, ⟨rfl, rfl, fun w hm => (show KO w (.bin .geq 3) [(iV s.cls), (iV 1)] (.bool true) from k_geq_t c5)⟩, ⟨rfl, rfl, fun w hm => (show KO w (.bin .leq 3) [(iV s.cls), (iV 10)] (.bool true) from k_leq_t c6)⟩, ⟨rfl, rfl, fun w hm => (show KO w (.bin .leq 3) [(iV s.lo), (iV s.hi)] (.bool true) from k_leq_t c7)⟩, ⟨rfl, rfl, fun w hm => (show KO w (.bin .geq 3) [(iV s.lo), (iV 0)] (.bool false) from k_geq_f c8)⟩, trivial⟩ trivial trivial trivial) w0 3000 checkSource_b0 Try.f62 checkSource_fr0 checkSource_st0 _ _ checkSource_r3 checkSource_wf0 a w hat1 (@endV_ok r3 w0 (iV 3) (fun en w' => en = .returned (iV (srcErr x0 x1 s)) ∧ Below w0.heap.size w0 w') rfl (fun w2 hb => ?_))
                    have v0 : (3 : Int) = srcErr x0 x1 s := by
                      unfold srcErr; repeat' split
                      all_goals omega
                    have hv := congrArg (fun (y0 : Int) => ((iV y0) : Value)) v0
                    exact ⟨congrArg Ending.returned hv, hb⟩
                · let r4 : Rho := (Rho.of [(iV x0), (iV x1), (iV x2), (iV x3), (iV x4), (iV x5), (iV x6), (iV x7), (iV s.kind), (iV s.cell), (iV s.cls), (iV s.lo), (iV s.hi), (iV ((x0 * x1))), (iV (((x0 * x1) - 1)))] (fun b => w0.heap[b]?) [])
                  have hat1 : @At r4 w0 checkSource_fr0 checkSource_st0 a w := At.shiftL (ρ1 := p0) (ρ2 := r4) (σ := [sy 0, sy 1, sy 2, sy 3, sy 4, sy 5, sy 6, sy 7, sy 8, sy 9, sy 10, sy 11, sy 12]) (π := []) (τ := []) ⟨rfl, rfl, rfl, rfl, rfl, rfl, rfl, rfl, rfl, rfl, rfl, rfl, rfl, rfl, rfl, rfl, rfl, rfl, rfl, rfl, rfl, rfl, rfl, rfl, rfl, rfl, trivial⟩ trivial (fun _ _ h => h) checkSource_wf0 checkSource_id0 hat
                  refine @At.lastK r4 Try.prog (env.symL checkSource_e4 checkSource_c4 checkSource_l4 checkSource_cl4) (@Env.Ok.symL r4 _ _ (@env_ok r4) checkSource_e4 checkSource_c4 checkSource_l4 checkSource_cl4 ⟨⟨rfl, rfl, fun w hm => (show KO w (.bin .neq 3) [(iV s.kind), (iV 1)] (.bool true) from k_neq_t c0)⟩, ⟨rfl, rfl, fun w hm => (show KO w (.bin .neq 3) [(iV s.kind), (iV 2)] (.bool true) from k_neq_t c1)⟩, ⟨rfl, rfl, fun w hm => (show KO w (.bin .neq 3) [(iV s.kind), (iV 3)] (.bool false) from k_neq_f c2)⟩, ⟨rfl, rfl, fun w hm => (show KO w (.bin .mul 3) [(iV x0), (iV x1)] (iV ((x0 * x1))) from k_mul (wrap64 (by omega)))⟩, ⟨rfl, rfl, fun w hm => (show KO w (.bin .sub 3) [(iV ((x0 * x1))), (iV 1)] (iV (((x0 * x1) - 1))) from k_sub (wrap64 (by omega)))⟩, ⟨rfl, rfl, fun w hm => (show KO w (.bin .geq 3) [(iV s.cell), (iV 0)] (.bool true) from k_geq_t c3)⟩, ⟨rfl, rfl, fun w hm => (show KO w (.bin .leq 3) [(iV s.cell), (iV (((x0 * x1) - 1)))] (.bool true) from k_leq_t c4)⟩, ⟨rfl, rfl, fun w hm => (show KO w (.bin .geq 3) [(iV s.cls), (iV 1)] (.bool true) from k_geq_t c5)⟩, ⟨rfl, rfl, fun w hm => (show KO w (.bin .leq 3) [(iV s.cls), (iV 10)] (.bool true) from k_leq_t c6)⟩, ⟨rfl, rfl, fun w hm => (show KO w (.bin .leq 3) [(iV s.lo), (iV s.hi)] (.bool false) from k_leq_f c7)⟩, trivial⟩ trivial trivial trivial) w0 3000 checkSource_b0 Try.f62 checkSource_fr0 checkSource_st0 _ _ checkSource_r4 checkSource_wf0 a w hat1 (@endV_ok r4 w0 (iV 3) (fun en w' => en = .returned (iV (srcErr x0 x1 s)) ∧ Below w0.heap.size w0 w') rfl (fun w2 hb => ?_))
                  have v0 : (3 : Int) = srcErr x0 x1 s := by
                    unfold srcErr; repeat' split
                    all_goals omega
                  have hv := congrArg (fun (y0 : Int) => ((iV y0) : Value)) v0
                  exact ⟨congrArg Ending.returned hv, hb⟩
              · let r5 : Rho := (Rho.of [(iV x0), (iV x1), (iV x2), (iV x3), (iV x4), (iV x5), (iV x6), (iV x7), (iV s.kind), (iV s.cell), (iV s.cls), (iV s.lo), (iV s.hi), (iV ((x0 * x1))), (iV (((x0 * x1) - 1)))] (fun b => w0.heap[b]?) [])
                have hat1 : @At r5 w0 checkSource_fr0 checkSource_st0 a w := At.shiftL (ρ1 := p0) (ρ2 := r5) (σ := [sy 0, sy 1, sy 2, sy 3, sy 4, sy 5, sy 6, sy 7, sy 8, sy 9, sy 10, sy 11, sy 12]) (π := []) (τ := []) ⟨rfl, rfl, rfl, rfl, rfl, rfl, rfl, rfl, rfl, rfl, rfl, rfl, rfl, rfl, rfl, rfl, rfl, rfl, rfl, rfl, rfl, rfl, rfl, rfl, rfl, rfl, trivial⟩ trivial (fun _ _ h => h) checkSource_wf0 checkSource_id0 hat
                refine @At.lastK r5 Try.prog (env.symL checkSource_e5 checkSource_c5 checkSource_l5 checkSource_cl5) (@Env.Ok.symL r5 _ _ (@env_ok r5) checkSource_e5 checkSource_c5 checkSource_l5 checkSource_cl5 ⟨⟨rfl, rfl, fun w hm => (show KO w (.bin .neq 3) [(iV s.kind), (iV 1)] (.bool true) from k_neq_t c0)⟩, ⟨rfl, rfl, fun w hm => (show KO w (.bin .neq 3) [(iV s.kind), (iV 2)] (.bool true) from k_neq_t c1)⟩, ⟨rfl, rfl, fun w hm => (show KO w (.bin .neq 3) [(iV s.kind), (iV 3)] (.bool false) from k_neq_f c2)⟩, ⟨rfl, rfl, fun w hm => (show KO w (.bin .mul 3) [(iV x0), (iV x1)] (iV ((x0 * x1))) from k_mul (wrap64 (by omega)))⟩, ⟨rfl, rfl, fun w hm => (show KO w (.bin .sub 3) [(iV ((x0 * x1))), (iV 1)] (iV (((x0 * x1) - 1))) from k_sub (wrap64 (by omega)))⟩, ⟨rfl, rfl, fun w hm => (show KO w (.bin .geq 3) [(iV s.cell), (iV 0)] (.bool true) from k_geq_t c3)⟩, ⟨rfl, rfl, fun w hm => (show KO w (.bin .leq 3) [(iV s.cell), (iV (((x0 * x1) - 1)))] (.bool true) from k_leq_t c4)⟩, ⟨rfl, rfl, fun w hm => (show KO w (.bin .geq 3) [(iV s.cls), (iV 1)] (.bool true) from k_geq_t c5)⟩, ⟨rfl, rfl, fun w hm => (show KO w (.bin .leq 3) [(iV s.cls), (iV 10)] (.bool false) from k_leq_f c6)⟩, trivial⟩ trivial trivial trivial) w0 3000 checkSource_b0 Try.f62 checkSource_fr0 checkSource_st0 _ _ checkSource_r5 checkSource_wf0 a w hat1 (@endV_ok r5 w0 (iV 3) (fun en w' => en = .returned (iV (srcErr x0 x1 s)) ∧ Below w0.heap.size w0 w') rfl (fun w2 hb => ?_))
                have v0 : (3 : Int) = srcErr x0 x1 s := by
                  unfold srcErr; repeat' split
                  all_goals omega
                have hv := congrArg (fun (y0 : Int) => ((iV y0) : Value)) v0
                exact ⟨congrArg Ending.returned hv, hb⟩
            · let r6 : Rho := (Rho.of [(iV x0), (iV x1), (iV x2), (iV x3), (iV x4), (iV x5), (iV x6), (iV x7), (iV s.kind), (iV s.cell), (iV s.cls), (iV s.lo), (iV s.hi), (iV ((x0 * x1))), (iV (((x0 * x1) - 1)))] (fun b => w0.heap[b]?) [])
              have hat1 : @At r6 w0 checkSource_fr0 checkSource_st0 a w := At.shiftL (ρ1 := p0) (ρ2 := r6) (σ := [sy 0, sy 1, sy 2, sy 3, sy 4, sy 5, sy 6, sy 7, sy 8, sy 9, sy 10, sy 11, sy 12]) (π := []) (τ := []) ⟨rfl, rfl, rfl, rfl, rfl, rfl, rfl, rfl, rfl, rfl, rfl, rfl, rfl, rfl, rfl, rfl, rfl, rfl, rfl, rfl, rfl, rfl, rfl, rfl, rfl, rfl, trivial⟩ trivial (fun _ _ h => h) checkSource_wf0 checkSource_id0 hat
              refine @At.lastK r6 Try.prog (env.symL checkSource_e6 checkSource_c6 checkSource_l6 checkSource_cl6) (@Env.Ok.symL r6 _ _ (@env_ok r6) checkSource_e6 checkSource_c6 checkSource_l6 checkSource_cl6 ⟨⟨rfl, rfl, fun w hm => (show KO w (.bin .neq 3) [(iV s.kind), (iV 1)] (.bool true) from k_neq_t c0)⟩, ⟨rfl, rfl, fun w hm => (show KO w (.bin .neq 3) [(iV s.kind), (iV 2)] (.bool true) from k_neq_t c1)⟩, ⟨rfl, rfl, fun w hm => (show KO w (.bin .neq 3) [(iV s.kind), (iV 3)] (.bool false) from k_neq_f c2)⟩, ⟨rfl, rfl, fun w hm => (show KO w (.bin .mul 3) [(iV x0), (iV x1)] (iV ((x0 * x1))) from k_mul (wrap64 (by omega)))⟩, ⟨rfl, rfl, fun w hm => (show KO w (.bin .sub 3) [(iV ((x0 * x1))), (iV 1)] (iV (((x0 * x1) - 1))) from k_sub (wrap64 (by omega)))⟩, ⟨rfl, rfl, fun w hm => (show KO w (.bin .geq 3) [(iV s.cell), (iV 0)] (.bool true) from k_geq_t c3)⟩, ⟨rfl, rfl, fun w hm => (show KO w (.bin .leq 3) [(iV s.cell), (iV (((x0 * x1) - 1)))] (.bool true) from k_leq_t c4)⟩, ⟨rfl, rfl, fun w hm => (show KO w (.bin .geq 3) [(iV s.cls), (iV 1)] (.bool false) from k_geq_f c5)⟩, trivial⟩ trivial trivial trivial) w0 3000 checkSource_b0 Try.f62 checkSource_fr0 checkSource_st0 _ _ checkSource_r6 checkSource_wf0 a w hat1 (@endV_ok r6 w0 (iV 3) (fun en w' => en = .returned (iV (srcErr x0 x1 s)) ∧ Below w0.heap.size w0 w') rfl (fun w2 hb => ?_))
              have v0 : (3 : Int) = srcErr x0 x1 s := by
                unfold srcErr; repeat' split
                all_goals omega
              have hv := congrArg (fun (y0 : Int) => ((iV y0) : Value)) v0
              exact ⟨congrArg Ending.returned hv, hb⟩
          · let r7 : Rho := (Rho.of [(iV x0), (iV x1), (iV x2), (iV x3), (iV x4), (iV x5), (iV x6), (iV x7), (iV s.kind), (iV s.cell), (iV s.cls), (iV s.lo), (iV s.hi), (iV ((x0 * x1))), (iV (((x0 * x1) - 1)))] (fun b => w0.heap[b]?) [])
            have hat1 : @At r7 w0 checkSource_fr0 checkSource_st0 a w := At.shiftL (ρ1 := p0) (ρ2 := r7) (σ := [sy 0, sy 1, sy 2, sy 3, sy 4, sy 5, sy 6, sy 7, sy 8, sy 9, sy 10, sy 11, sy 12]) (π := []) (τ := []) ⟨rfl, rfl, rfl, rfl, rfl, rfl, rfl, rfl, rfl, rfl, rfl, rfl, rfl, rfl, rfl, rfl, rfl, rfl, rfl, rfl, rfl, rfl, rfl, rfl, rfl, rfl, trivial⟩ trivial (fun _ _ h => h) checkSource_wf0 checkSource_id0 hat
            refine @At.lastK r7 Try.prog (env.symL checkSource_e7 checkSource_c7 checkSource_l7 checkSource_cl7) (@Env.Ok.symL r7 _ _ (@env_ok r7) checkSource_e7 checkSource_c7 checkSource_l7 checkSource_cl7 ⟨⟨rfl, rfl, fun w hm => (show KO w (.bin .neq 3) [(iV s.kind), (iV 1)] (.bool true) from k_neq_t c0)⟩, ⟨rfl, rfl, fun w hm => (show KO w (.bin .neq 3) [(iV s.kind), (iV 2)] (.bool true) from k_neq_t c1)⟩, ⟨rfl, rfl, fun w hm => (show KO w (.bin .neq 3) [(iV s.kind), (iV 3)] (.bool false) from k_neq_f c2)⟩, ⟨rfl, rfl, fun w hm => (show KO w (.bin .mul 3) [(iV x0), (iV x1)] (iV ((x0 * x1))) from k_mul (wrap64 (by omega)))⟩, ⟨rfl, rfl, fun w hm => (show KO w (.bin .sub 3) [(iV ((x0 * x1))), (iV 1)] (iV (((x0 * x1) - 1))) from k_sub (wrap64 (by omega)))⟩, ⟨rfl, rfl, fun w hm => (show KO w (.bin .geq 3) [(iV s.cell), (iV 0)] (.bool true) from k_geq_t c3)⟩, ⟨rfl, rfl, fun w hm => (show KO w (.bin .leq 3) [(iV s.cell), (iV (((x0 * x1) - 1)))] (.bool false) from k_leq_f c4)⟩, trivial⟩ trivial trivial trivial) w0 3000 checkSource_b0 Try.f62 checkSource_fr0 checkSource_st0 _ _ checkSource_r7 checkSource_wf0 a w hat1 (@endV_ok r7 w0 (iV 4) (fun en w' => en = .returned (iV (srcErr x0 x1 s)) ∧ Below w0.heap.size w0 w') rfl (fun w2 hb => ?_))
            have v0 : (4 : Int) = srcErr x0 x1 s := by
              unfold srcErr; repeat' split
              all_goals omega
            have hv := congrArg (fun (y0 : Int) => ((iV y0) : Value)) v0
            exact ⟨congrArg Ending.returned hv, hb⟩
        · let r8 : Rho := (Rho.of [(iV x0), (iV x1), (iV x2), (iV x3), (iV x4), (iV x5), (iV x6), (iV x7), (iV s.kind), (iV s.cell), (iV s.cls), (iV s.lo), (iV s.hi), (iV ((x0 * x1))), (iV (((x0 * x1) - 1)))] (fun b => w0.heap[b]?) [])
          have hat1 : @At r8 w0 checkSource_fr0 checkSource_st0 a w := At.shiftL (ρ1 := p0) (ρ2 := r8) (σ := [sy 0, sy 1, sy 2, sy 3, sy 4, sy 5, sy 6, sy 7, sy 8, sy 9, sy 10, sy 11, sy 12]) (π := []) (τ := []) ⟨rfl, rfl, rfl, rfl, rfl, rfl, rfl, rfl, rfl, rfl, rfl, rfl, rfl, rfl, rfl, rfl, rfl, rfl, rfl, rfl, rfl, rfl, rfl, rfl, rfl, rfl, trivial⟩ trivial (fun _ _ h => h) checkSource_wf0 checkSource_id0 hat
          refine @At.lastK r8 Try.prog (env.symL checkSource_e8 checkSource_c8 checkSource_l8 checkSource_cl8) (@Env.Ok.symL r8 _ _ (@env_ok r8) checkSource_e8 checkSource_c8 checkSource_l8 checkSource_cl8 ⟨⟨rfl, rfl, fun w hm => (show KO w (.bin .neq 3) [(iV s.kind), (iV 1)] (.bool true) from k_neq_t c0)⟩, ⟨rfl, rfl, fun w hm => (show KO w (.bin .neq 3) [(iV s.kind), (iV 2)] (.bool true) from k_neq_t c1)⟩, ⟨rfl, rfl, fun w hm => (show KO w (.bin .neq 3) [(iV s.kind), (iV 3)] (.bool false) from k_neq_f c2)⟩, ⟨rfl, rfl, fun w hm => (show KO w (.bin .mul 3) [(iV x0), (iV x1)] (iV ((x0 * x1))) from k_mul (wrap64 (by omega)))⟩, ⟨rfl, rfl, fun w hm => (show KO w (.bin .sub 3) [(iV ((x0 * x1))), (iV 1)] (iV (((x0 * x1) - 1))) from k_sub (wrap64 (by omega)))⟩, ⟨rfl, rfl, fun w hm => (show KO w (.bin .geq 3) [(iV s.cell), (iV 0)] (.bool false) from k_geq_f c3)⟩, trivial⟩ trivial trivial trivial) w0 3000 checkSource_b0 Try.f62 checkSource_fr0 checkSource_st0 _ _ checkSource_r8 checkSource_wf0 a w hat1 (@endV_ok r8 w0 (iV 4) (fun en w' => en = .returned (iV (srcErr x0 x1 s)) ∧ Below w0.heap.size w0 w') rfl (fun w2 hb => ?_))
          have v0 : (4 : Int) = srcErr x0 x1 s := by
            unfold srcErr; repeat' split
            all_goals omega
          have hv := congrArg (fun (y0 : Int) => ((iV y0) : Value)) v0
          exact ⟨congrArg Ending.returned hv, hb⟩
    · by_cases c10 : s.cell ≥ 0
      · by_cases c11 : s.cell ≤ ((x0 * x1) - 1)
        · by_cases c12 : s.cls ≥ 1
          · by_cases c13 : s.cls ≤ 10
            · by_cases c14 : s.lo ≤ s.hi
              · by_cases c15 : s.lo ≥ 0
                · by_cases c16 : s.hi ≤ 1000000000
                  · let r9 : Rho := (Rho.of [(iV x0), (iV x1), (iV x2), (iV x3), (iV x4), (iV x5), (iV x6), (iV x7), (iV s.kind), (iV s.cell), (iV s.cls), (iV s.lo), (iV s.hi), (iV ((x0 * x1))), (iV (((x0 * x1) - 1)))] (fun b => w0.heap[b]?) [])
                    have hat1 : @At r9 w0 checkSource_fr0 checkSource_st0 a w := At.shiftL (ρ1 := p0) (ρ2 := r9) (σ := [sy 0, sy 1, sy 2, sy 3, sy 4, sy 5, sy 6, sy 7, sy 8, sy 9, sy 10, sy 11, sy 12]) (π := []) (τ := []) ⟨rfl, rfl, rfl, rfl, rfl, rfl, rfl, rfl, rfl, rfl, rfl, rfl, rfl, rfl, rfl, rfl, rfl, rfl, rfl, rfl, rfl, rfl, rfl, rfl, rfl, rfl, trivial⟩ trivial (fun _ _ h => h) checkSource_wf0 checkSource_id0 hat
                    refine @At.lastK r9 Try.prog (env.symL checkSource_e9 checkSource_c9 checkSource_l9 checkSource_cl9) (@Env.Ok.symL r9 _ _ (@env_ok r9) checkSource_e9 checkSource_c9 checkSource_l9 checkSource_cl9 ⟨⟨rfl, rfl, fun w hm => (show KO w (.bin .neq 3) [(iV s.kind), (iV 1)] (.bool true) from k_neq_t c0)⟩, ⟨rfl, rfl, fun w hm => (show KO w (.bin .neq 3) [(iV s.kind), (iV 2)] (.bool false) from k_neq_f c1)⟩, ⟨rfl, rfl, fun w hm => (show KO w (.bin .mul 3) [(iV x0), (iV x1)] (iV ((x0 * x1))) from k_mul (wrap64 (by omega)))⟩, ⟨rfl, rfl, fun w hm => (show KO w (.bin .sub 3) [(iV ((x0 * x1))), (iV 1)] (iV (((x0 * x1) - 1))) from k_sub (wrap64 (by omega)))⟩, ⟨rfl, rfl, fun w hm => (show KO w (.bin .geq 3) [(iV s.cell), (iV 0)] (.bool true) from k_geq_t c10)⟩, ⟨rfl, rfl, fun w hm => (show KO w (.bin .leq 3) [(iV s.cell), (iV (((x0 * x1) - 1)))] (.bool true) from k_leq_t c11)⟩, ⟨rfl, rfl, fun w hm => (show KO w (.bin .geq 3) [(iV s.cls), (iV 1)] (.bool true) from k_geq_t c12)⟩, ⟨rfl, rfl, fun w hm => (show KO w (.bin .leq 3) [(iV s.cls), (iV 10)] (.bool true) from k_leq_t c13)⟩, ⟨rfl, rfl, fun w hm => (show KO w (.bin .leq 3) [(iV s.lo), (iV s.hi)] (.bool true) from k_leq_t c14)⟩, ⟨rfl, rfl, fun w hm => (show KO w (.bin .geq 3) [(iV s.lo), (iV 0)] (.bool true) from k_geq_t c15)⟩, ⟨rfl, rfl, fun w hm => (show KO w (.bin .leq 3) [(iV s.hi), (iV 1000000000)] (.bool true) from k_leq_t c16)⟩, trivial⟩ trivial trivial trivial) w0 3000 checkSource_b0 Try.f62 checkSource_fr0 checkSource_st0 _ _ checkSource_r9 checkSource_wf0 a w hat1 (@endV_ok r9 w0 (iV 0) (fun en w' => en = .returned (iV (srcErr x0 x1 s)) ∧ Below w0.heap.size w0 w') rfl (fun w2 hb => ?_))
                    have v0 : (0 : Int) = srcErr x0 x1 s := by
                      unfold srcErr; repeat' split
                      all_goals omega
                    have hv := congrArg (fun (y0 : Int) => ((iV y0) : Value)) v0
                    exact ⟨congrArg Ending.returned hv, hb⟩
                  · let r10 : Rho := (Rho.of [(iV x0), (iV x1), (iV x2), (iV x3), (iV x4), (iV x5), (iV x6), (iV x7), (iV s.kind), (iV s.cell), (iV s.cls), (iV s.lo), (iV s.hi), (iV ((x0 * x1))), (iV (((x0 * x1) - 1)))] (fun b => w0.heap[b]?) [])
                    have hat1 : @At r10 w0 checkSource_fr0 checkSource_st0 a w := At.shiftL (ρ1 := p0) (ρ2 := r10) (σ := [sy 0, sy 1, sy 2, sy 3, sy 4, sy 5, sy 6, sy 7, sy 8, sy 9, sy 10, sy 11, sy 12]) (π := []) (τ := []) ⟨rfl, rfl, rfl, rfl, rfl, rfl, rfl, rfl, rfl, rfl, rfl, rfl, rfl, rfl, rfl, rfl, rfl, rfl, rfl, rfl, rfl, rfl, rfl, rfl, rfl, rfl, trivial⟩ trivial (fun _ _ h => h) checkSource_wf0 checkSource_id0 hat
                    refine @At.lastK r10 Try.prog (env.symL checkSource_e10 checkSource_c10 checkSource_l10 checkSource_cl10) (@Env.Ok.symL r10 _ _ (@env_ok r10) checkSource_e10 checkSource_c10 checkSource_l10 checkSource_cl10 ⟨⟨rfl, rfl, fun w hm => (show KO w (.bin .neq 3) [(iV s.kind), (iV 1)] (.bool true) from k_neq_t c0)⟩, ⟨rfl, rfl, fun w hm => (show KO w (.bin .neq 3) [(iV s.kind), (iV 2)] (.bool false) from k_neq_f c1)⟩, ⟨rfl, rfl, fun w hm => (show KO w (.bin .mul 3) [(iV x0), (iV x1)] (iV ((x0 * x1))) from k_mul (wrap64 (by omega)))⟩, ⟨rfl, rfl, fun w hm => (show KO w (.bin .sub 3) [(iV ((x0 * x1))), (iV 1)] (iV (((x0 * x1) - 1))) from k_sub (wrap64 (by omega)))⟩, ⟨rfl, rfl, fun w hm => (show KO w (.bin .geq 3) [(iV s.cell), (iV 0)] (.bool true) from k_geq_t c10)⟩, ⟨rfl, rfl, fun w hm => (show KO w (.bin .leq 3) [(iV s.cell), (iV (((x0 * x1) - 1)))] (.bool true) from k_leq_t c11)⟩, ⟨rfl, rfl, fun w hm => (show KO w (.bin .geq 3) [(iV s.cls), (iV 1)] (.bool true) from k_geq_t c12)⟩, ⟨rfl, rfl, fun w hm => (show KO w (.bin .leq 3) [(iV s.cls), (iV 10)] (.bool true) from k_leq_t c13)⟩, ⟨rfl, rfl, fun w hm => (show KO w (.bin .leq 3) [(iV s.lo), (iV s.hi)] (.bool true) from k_leq_t c14)⟩, ⟨rfl, rfl, fun w hm => (show KO w (.bin .geq 3) [(iV s.lo), (iV 0)] (.bool true) from k_geq_t c15)⟩, ⟨rfl, rfl, fun w hm => (show KO w (.bin .leq 3) [(iV s.hi), (iV 1000000000)] (.bool false) from k_leq_f c16)⟩, trivial⟩ trivial trivial trivial) w0 3000 checkSource_b0 Try.f62 checkSource_fr0 checkSource_st0 _ _ checkSource_r10 checkSource_wf0 a w hat1 (@endV_ok r10 w0 (iV 3) (fun en w' => en = .returned (iV (srcErr x0 x1 s)) ∧ Below w0.heap.size w0 w') rfl (fun w2 hb => ?_))
                    have v0 : (3 : Int) = srcErr x0 x1 s := by
                      unfold srcErr; repeat' split
                      all_goals omega
                    have hv := congrArg (fun (y0 : Int) => ((iV y0) : Value)) v0
                    exact ⟨congrArg Ending.returned hv, hb⟩
                · let r11 : Rho := (Rho.of [(iV x0), (iV x1), (iV x2), (iV x3), (iV x4), (iV x5), (iV x6), (iV x7), (iV s.kind), (iV s.cell), (iV s.cls), (iV s.lo), (iV s.hi), (iV ((x0 * x1))), (iV (((x0 * x1) - 1)))] (fun b => w0.heap[b]?) [])
                  have hat1 : @At r11 w0 checkSource_fr0 checkSource_st0 a w := At.shiftL (ρ1 := p0) (ρ2 := r11) (σ := [sy 0, sy 1, sy 2, sy 3, sy 4, sy 5, sy 6, sy 7, sy 8, sy 9, sy 10, sy 11, sy 12]) (π := []) (τ := []) ⟨rfl, rfl, rfl, rfl, rfl, rfl, rfl, rfl, rfl, rfl, rfl, rfl, rfl, rfl, rfl, rfl, rfl, rfl, rfl, rfl, rfl, rfl, rfl, rfl, rfl, rfl, trivial⟩ trivial (fun _ _ h => h) checkSource_wf0 checkSource_id0 hat
                  refine @At.lastK r11 Try.prog (env.symL checkSource_e11 checkSource_c11 checkSource_l11 checkSource_cl11) (@Env.Ok.symL r11 _ _ (@env_ok r11) checkSource_e11 checkSource_c11 checkSource_l11 checkSource_cl11 ⟨⟨rfl, rfl, fun w hm => (show KO w (.bin .neq 3) [(iV s.kind), (iV 1)] (.bool true) from k_neq_t c0)⟩, ⟨rfl, rfl, fun w hm => (show KO w (.bin .neq 3) [(iV s.kind), (iV 2)] (.bool false) from k_neq_f c1)⟩, ⟨rfl, rfl, fun w hm => (show KO w (.bin .mul 3) [(iV x0), (iV x1)] (iV ((x0 * x1))) from k_mul (wrap64 (by omega)))⟩, ⟨rfl, rfl, fun w hm => (show KO w (.bin .sub 3) [(iV ((x0 * x1))), (iV 1)] (iV (((x0 * x1) - 1))) from k_sub (wrap64 (by omega)))⟩, ⟨rfl, rfl, fun w hm => (show KO w (.bin .geq 3) [(iV s.cell), (iV 0)] (.bool true) from k_geq_t c10)⟩, ⟨rfl, rfl, fun w hm => (show KO w (.bin .leq 3) [(iV s.cell), (iV (((x0 * x1) - 1)))] (.bool true) from k_leq_t c11)⟩, ⟨rfl, rfl, fun w hm => (show KO w (.bin .geq 3) [(iV s.cls), (iV 1)] (.bool true) from k_geq_t c12)⟩, ⟨rfl, rfl, fun w hm => (show KO w (.bin .leq 3) [(iV s.cls), (iV 10)] (.bool true) from k_leq_t c13)⟩, ⟨rfl, rfl, fun w hm => (show KO w (.bin .leq 3) [(iV s.lo), (iV s.hi)] (.bool true) from k_leq_t c14)⟩, ⟨rfl, rfl, fun w hm => (show KO w (.bin .geq 3) [(iV s.lo), (iV 0)] (.bool false) from k_geq_f c15)⟩, trivial⟩ trivial trivial trivial) w0 3000 checkSource_b0 Try.f62 checkSource_fr0 checkSource_st0 _ _ checkSource_r11 checkSource_wf0 a w hat1 (@endV_ok r11 w0 (iV 3) (fun en w' => en = .returned (iV (srcErr x0 x1 s)) ∧ Below w0.heap.size w0 w') rfl (fun w2 hb => ?_))
                  have v0 : (3 : Int) = srcErr x0 x1 s := by
                    unfold srcErr; repeat' split
                    all_goals omega
                  have hv := congrArg (fun (y0 : Int) => ((iV y0) : Value)) v0
                  exact ⟨congrArg Ending.returned hv, hb⟩
              · let r12 : Rho := (Rho.of [(iV x0), (iV x1), (iV x2), (iV x3), (iV x4), (iV x5), (iV x6), (iV x7), (iV s.kind), (iV s.cell), (iV s.cls), (iV s.lo), (iV s.hi), (iV ((x0 * x1))), (iV (((x0 * x1) - 1)))] (fun b => w0.heap[b]?) [])
                have hat1 : @At r12 w0 checkSource_fr0 checkSource_st0 a w := At.shiftL (ρ1 := p0) (ρ2 := r12) (σ := [sy 0, sy 1, sy 2, sy 3, sy 4, sy 5, sy 6, sy 7, sy 8, sy 9, sy 10, sy 11, sy 12]) (π := []) (τ := []) ⟨rfl, rfl, rfl, rfl, rfl, rfl, rfl, rfl, rfl, rfl, rfl, rfl, rfl, rfl, rfl, rfl, rfl, rfl, rfl, rfl, rfl, rfl, rfl, rfl, rfl, rfl, trivial⟩ trivial (fun _ _ h => h) checkSource_wf0 checkSource_id0 hat
                refine @At.lastK r12 Try.prog (env.symL checkSource_e12 checkSource_c12 checkSource_l12 checkSource_cl12) (@Env.Ok.symL r12 _ _ (@env_ok r12) checkSource_e12 checkSource_c12 checkSource_l12 checkSource_cl12 ⟨⟨rfl, rfl, fun w hm => (show KO w (.bin .neq 3) [(iV s.kind), (iV 1)] (.bool true) from k_neq_t c0)⟩, ⟨rfl, rfl, fun w hm => (show KO w (.bin .neq 3) [(iV s.kind), (iV 2)] (.bool false) from k_neq_f c1)⟩, ⟨rfl, rfl, fun w hm => (show KO w (.bin .mul 3) [(iV x0), (iV x1)] (iV ((x0 * x1))) from k_mul (wrap64 (by omega)))⟩, ⟨rfl, rfl, fun w hm => (show KO w (.bin .sub 3) [(iV ((x0 * x1))), (iV 1)] (iV (((x0 * x1) - 1))) from k_sub (wrap64 (by omega)))⟩, ⟨rfl, rfl, fun w hm => (show KO w (.bin .geq 3) [(iV s.cell), (iV 0)] (.bool true) from k_geq_t c10)⟩, ⟨rfl, rfl, fun w hm => (show KO w (.bin .leq 3) [(iV s.cell), (iV (((x0 * x1) - 1)))] (.bool true) from k_leq_t c11)⟩, ⟨rfl, rfl, fun w hm => (show KO w (.bin .geq 3) [(iV s.cls), (iV 1)] (.bool true) from k_geq_t c12)⟩, ⟨rfl, rfl, fun w hm => (show KO w (.bin .leq 3) [(iV s.cls), (iV 10)] (.bool true) from k_leq_t c13)⟩, ⟨rfl, rfl, fun w hm => (show KO w (.bin .leq 3) [(iV s.lo), (iV s.hi)] (.bool false) from k_leq_f c14)⟩, trivial⟩ trivial trivial trivial) w0 3000 checkSource_b0 Try.f62 checkSource_fr0 checkSource_st0 _ _ checkSource_r12 checkSource_wf0 a w hat1 (@endV_ok r12 w0 (iV 3) (fun en w' => en = .returned (iV (srcErr x0 x1 s)) ∧ Below w0.heap.size w0 w') rfl (fun w2 hb => ?_))
                have v0 : (3 : Int) = srcErr x0 x1 s := by
                  unfold srcErr; repeat' split
                  all_goals omega
                have hv := congrArg (fun (y0 : Int) => ((iV y0) : Value)) v0
                exact ⟨congrArg Ending.returned hv, hb⟩
            · let r13 : Rho := (Rho.of [(iV x0), (iV x1), (iV x2), (iV x3), (iV x4), (iV x5), (iV x6), (iV x7), (iV s.kind), (iV s.cell), (iV s.cls), (iV s.lo), (iV s.hi), (iV ((x0 * x1))), (iV (((x0 * x1) - 1)))] (fun b => w0.heap[b]?) [])
              have hat1 : @At r13 w0 checkSource_fr0 checkSource_st0 a w := At.shiftL (ρ1 := p0) (ρ2 := r13) (σ := [sy 0, sy 1, sy 2, sy 3, sy 4, sy 5, sy 6, sy 7, sy 8, sy 9, sy 10, sy 11, sy 12]) (π := []) (τ := []) ⟨rfl, rfl, rfl, rfl, rfl, rfl, rfl, rfl, rfl, rfl, rfl, rfl, rfl, rfl, rfl, rfl, rfl, rfl, rfl, rfl, rfl, rfl, rfl, rfl, rfl, rfl, trivial⟩ trivial (fun _ _ h => h) checkSource_wf0 checkSource_id0 hat
              refine @At.lastK r13 Try.prog (env.symL checkSource_e13 checkSource_c13 checkSource_l13 checkSource_cl13) (@Env.Ok.symL r13 _ _ (@env_ok r13) checkSource_e13 checkSource_c13 checkSource_l13 checkSource_cl13 ⟨⟨rfl, rfl, fun w hm => (show KO w (.bin .neq 3) [(iV s.kind), (iV 1)] (.bool true) from k_neq_t c0)⟩, ⟨rfl, rfl, fun w hm => (show KO w (.bin .neq 3) [(iV s.kind), (iV 2)] (.bool false) from k_neq_f c1)⟩, ⟨rfl, rfl, fun w hm => (show KO w (.bin .mul 3) [(iV x0), (iV x1)] (iV ((x0 * x1))) from k_mul (wrap64 (by omega)))⟩, ⟨rfl, rfl, fun w hm => (show KO w (.bin .sub 3) [(iV ((x0 * x1))), (iV 1)] (iV (((x0 * x1) - 1))) from k_sub (wrap64 (by omega)))⟩, ⟨rfl, rfl, fun w hm => (show KO w (.bin .geq 3) [(iV s.cell), (iV 0)] (.bool true) from k_geq_t c10)⟩, ⟨rfl, rfl, fun w hm => (show KO w (.bin .leq 3) [(iV s.cell), (iV (((x0 * x1) - 1)))] (.bool true) from k_leq_t c11)⟩, ⟨rfl, rfl, fun w hm => (show KO w (.bin .geq 3) [(iV s.cls), (iV 1)] (.bool true) from k_geq_t c12)⟩, ⟨rfl, rfl, fun w hm => (show KO w (.bin .leq 3) [(iV s.cls), (iV 10)] (.bool false) from k_leq_f c13)⟩, trivial⟩ trivial trivial trivial) w0 3000 checkSource_b0 Try.f62 checkSource_fr0 checkSource_st0 _ _ checkSource_r13 checkSource_wf0 a w hat1 (@endV_ok r13 w0 (iV 3) (fun en w' => en = .returned (iV (srcErr x0 x1 s)) ∧ Below w0.heap.size w0 w') rfl (fun w2 hb => ?_))
              have v0 : (3 : Int) = srcErr x0 x1 s := by
                unfold srcErr; repeat' split
                all_goals omega
              have hv := congrArg (fun (y0 : Int) => ((iV y0) : Value)) v0
              exact ⟨congrArg Ending.returned hv, hb⟩
          · let r14 : Rho := (Rho.of [(iV x0), (iV x1), (iV x2), (iV x3), (iV x4), (iV x5), (iV x6), (iV x7), (iV s.kind), (iV s.cell), (iV s.cls), (iV s.lo), (iV s.hi), (iV ((x0 * x1))), (iV (((x0 * x1) - 1)))] (fun b => w0.heap[b]?) [])
            have hat1 : @At r14 w0 checkSource_fr0 checkSource_st0 a w := At.shiftL (ρ1 := p0) (ρ2 := r14) (σ := [sy 0, sy 1, sy 2, sy 3, sy 4, sy 5, sy 6, sy 7, sy 8, sy 9, sy 10, sy 11, sy 12]) (π := []) (τ := []) ⟨rfl, rfl, rfl, rfl, rfl, rfl, rfl, rfl, rfl, rfl, rfl, rfl, rfl, rfl, rfl, rfl, rfl, rfl, rfl, rfl, rfl, rfl, rfl, rfl, rfl, rfl, trivial⟩ trivial (fun _ _ h => h) checkSource_wf0 checkSource_id0 hat
            refine @At.lastK r14 Try.prog (env.symL checkSource_e14 checkSource_c14 checkSource_l14 checkSource_cl14) (@Env.Ok.symL r14 _ _ (@env_ok r14) checkSource_e14 checkSource_c14 checkSource_l14 checkSource_cl14 ⟨⟨rfl, rfl, fun w hm => (show KO w (.bin .neq 3) [(iV s.kind), (iV 1)] (.bool true) from k_neq_t c0)⟩, ⟨rfl, rfl, fun w hm => (show KO w (.bin .neq 3) [(iV s.kind), (iV 2)] (.bool false) from k_neq_f c1)⟩, ⟨rfl, rfl, fun w hm => (show KO w (.bin .mul 3) [(iV x0), (iV x1)] (iV ((x0 * x1))) from k_mul (wrap64 (by omega)))⟩, ⟨rfl, rfl, fun w hm => (show KO w (.bin .sub 3) [(iV ((x0 * x1))), (iV 1)] (iV (((x0 * x1) - 1))) from k_sub (wrap64 (by omega)))⟩, ⟨rfl, rfl, fun w hm => (show KO w (.bin .geq 3) [(iV s.cell), (iV 0)] (.bool true) from k_geq_t c10)⟩, ⟨rfl, rfl, fun w hm => (show KO w (.bin .leq 3) [(iV s.cell), (iV (((x0 * x1) - 1)))] (.bool true) from k_leq_t c11)⟩, ⟨rfl, rfl, fun w hm => (show KO w (.bin .geq 3) [(iV s.cls), (iV 1)] (.bool false) from k_geq_f c12)⟩, trivial⟩ trivial trivial trivial) w0 3000 checkSource_b0 Try.f62 checkSource_fr0 checkSource_st0 _ _ checkSource_r14 checkSource_wf0 a w hat1 (@endV_ok r14 w0 (iV 3) (fun en w' => en = .returned (iV (srcErr x0 x1 s)) ∧ Below w0.heap.size w0 w') rfl (fun w2 hb => ?_))
            have v0 : (3 : Int) = srcErr x0 x1 s := by
              unfold srcErr; repeat' split
              all_goals omega
            have hv := congrArg (fun (y0 : Int) => ((iV y0) : Value)) v0
            exact ⟨congrArg Ending.returned hv, hb⟩
        · let r15 : Rho := (Rho.of [(iV x0), (iV x1), (iV x2), (iV x3), (iV x4), (iV x5), (iV x6), (iV x7), (iV s.kind), (iV s.cell), (iV s.cls), (iV s.lo), (iV s.hi), (iV ((x0 * x1))), (iV (((x0 * x1) - 1)))] (fun b => w0.heap[b]?) [])
          have hat1 : @At r15 w0 checkSource_fr0 checkSource_st0 a w := At.shiftL (ρ1 := p0) (ρ2 := r15) (σ := [sy 0, sy 1, sy 2, sy 3, sy 4, sy 5, sy 6, sy 7, sy 8, sy 9, sy 10, sy 11, sy 12]) (π := []) (τ := []) ⟨rfl, rfl, rfl, rfl, rfl, rfl, rfl, rfl, rfl, rfl, rfl, rfl, rfl, rfl, rfl, rfl, rfl, rfl, rfl, rfl, rfl, rfl, rfl, rfl, rfl, rfl, trivial⟩ trivial (fun _ _ h => h) checkSource_wf0 checkSource_id0 hat
          refine @At.lastK r15 Try.prog (env.symL checkSource_e15 checkSource_c15 checkSource_l15 checkSource_cl15) (@Env.Ok.symL r15 _ _ (@env_ok r15) checkSource_e15 checkSource_c15 checkSource_l15 checkSource_cl15 ⟨⟨rfl, rfl, fun w hm => (show KO w (.bin .neq 3) [(iV s.kind), (iV 1)] (.bool true) from k_neq_t c0)⟩, ⟨rfl, rfl, fun w hm => (show KO w (.bin .neq 3) [(iV s.kind), (iV 2)] (.bool false) from k_neq_f c1)⟩, ⟨rfl, rfl, fun w hm => (show KO w (.bin .mul 3) [(iV x0), (iV x1)] (iV ((x0 * x1))) from k_mul (wrap64 (by omega)))⟩, ⟨rfl, rfl, fun w hm => (show KO w (.bin .sub 3) [(iV ((x0 * x1))), (iV 1)] (iV (((x0 * x1) - 1))) from k_sub (wrap64 (by omega)))⟩, ⟨rfl, rfl, fun w hm => (show KO w (.bin .geq 3) [(iV s.cell), (iV 0)] (.bool true) from k_geq_t c10)⟩, ⟨rfl, rfl, fun w hm => (show KO w (.bin .leq 3) [(iV s.cell), (iV (((x0 * x1) - 1)))] (.bool false) from k_leq_f c11)⟩, trivial⟩ trivial trivial trivial) w0 3000 checkSource_b0 Try.f62 checkSource_fr0 checkSource_st0 _ _ checkSource_r15 checkSource_wf0 a w hat1 (@endV_ok r15 w0 (iV 4) (fun en w' => en = .returned (iV (srcErr x0 x1 s)) ∧ Below w0.heap.size w0 w') rfl (fun w2 hb => ?_))
          have v0 : (4 : Int) = srcErr x0 x1 s := by
            unfold srcErr; repeat' split
            all_goals omega
          have hv := congrArg (fun (y0 : Int) => ((iV y0) : Value)) v0
          exact ⟨congrArg Ending.returned hv, hb⟩
      · let r16 : Rho := (Rho.of [(iV x0), (iV x1), (iV x2), (iV x3), (iV x4), (iV x5), (iV x6), (iV x7), (iV s.kind), (iV s.cell), (iV s.cls), (iV s.lo), (iV s.hi), (iV ((x0 * x1))), (iV (((x0 * x1) - 1)))] (fun b => w0.heap[b]?) [])
        have hat1 : @At r16 w0 checkSource_fr0 checkSource_st0 a w := At.shiftL (ρ1 := p0) (ρ2 := r16) (σ := [sy 0, sy 1, sy 2, sy 3, sy 4, sy 5, sy 6, sy 7, sy 8, sy 9, sy 10, sy 11, sy 12]) (π := []) (τ := []) ⟨rfl, rfl, rfl, rfl, rfl, rfl, rfl, rfl, rfl, rfl, rfl, rfl, rfl, rfl, rfl, rfl, rfl, rfl, rfl, rfl, rfl, rfl, rfl, rfl, rfl, rfl, trivial⟩ trivial (fun _ _ h => h) checkSource_wf0 checkSource_id0 hat
        refine @At.lastK r16 Try.prog (env.symL checkSource_e16 checkSource_c16 checkSource_l16 checkSource_cl16) (@Env.Ok.symL r16 _ _ (@env_ok r16) checkSource_e16 checkSource_c16 checkSource_l16 checkSource_cl16 ⟨⟨rfl, rfl, fun w hm => (show KO w (.bin .neq 3) [(iV s.kind), (iV 1)] (.bool true) from k_neq_t c0)⟩, ⟨rfl, rfl, fun w hm => (show KO w (.bin .neq 3) [(iV s.kind), (iV 2)] (.bool false) from k_neq_f c1)⟩, ⟨rfl, rfl, fun w hm => (show KO w (.bin .mul 3) [(iV x0), (iV x1)] (iV ((x0 * x1))) from k_mul (wrap64 (by omega)))⟩, ⟨rfl, rfl, fun w hm => (show KO w (.bin .sub 3) [(iV ((x0 * x1))), (iV 1)] (iV (((x0 * x1) - 1))) from k_sub (wrap64 (by omega)))⟩, ⟨rfl, rfl, fun w hm => (show KO w (.bin .geq 3) [(iV s.cell), (iV 0)] (.bool false) from k_geq_f c10)⟩, trivial⟩ trivial trivial trivial) w0 3000 checkSource_b0 Try.f62 checkSource_fr0 checkSource_st0 _ _ checkSource_r16 checkSource_wf0 a w hat1 (@endV_ok r16 w0 (iV 4) (fun en w' => en = .returned (iV (srcErr x0 x1 s)) ∧ Below w0.heap.size w0 w') rfl (fun w2 hb => ?_))
        have v0 : (4 : Int) = srcErr x0 x1 s := by
          unfold srcErr; repeat' split
          all_goals omega
        have hv := congrArg (fun (y0 : Int) => ((iV y0) : Value)) v0
        exact ⟨congrArg Ending.returned hv, hb⟩
  · by_cases c17 : s.cell ≥ 0
    · by_cases c18 : s.cell ≤ ((x0 * x1) - 1)
      · by_cases c19 : s.cls ≥ 1
        · by_cases c20 : s.cls ≤ 10
          · by_cases c21 : s.lo ≤ s.hi
            · by_cases c22 : s.lo ≥ 0
              · by_cases c23 : s.hi ≤ 1000000000
                · let r17 : Rho := (Rho.of [(iV x0), (iV x1), (iV x2), (iV x3), (iV x4), (iV x5), (iV x6), (iV x7), (iV s.kind), (iV s.cell), (iV s.cls), (iV s.lo), (iV s.hi), (iV ((x0 * x1))), (iV (((x0 * x1) - 1)))] (fun b => w0.heap[b]?) [])
                  have hat1 : @At r17 w0 checkSource_fr0 checkSource_st0 a w := At.shiftL (ρ1 := p0) (ρ2 := r17) (σ := [sy 0, sy 1, sy 2, sy 3, sy 4, sy 5, sy 6, sy 7, sy 8, sy 9, sy 10, sy 11, sy 12]) (π := []) (τ := []) ⟨rfl, rfl, rfl, rfl, rfl, rfl, rfl, rfl, rfl, rfl, rfl, rfl, rfl, rfl, rfl, rfl, rfl, rfl, rfl, rfl, rfl, rfl, rfl, rfl, rfl, rfl, trivial⟩ trivial (fun _ _ h => h) checkSource_wf0 checkSource_id0 hat
                  refine @At.lastK r17 Try.prog (env.symL checkSource_e17 checkSource_c17 checkSource_l17 checkSource_cl17) (@Env.Ok.symL r17 _ _ (@env_ok r17) checkSource_e17 checkSource_c17 checkSource_l17 checkSource_cl17 ⟨⟨rfl, rfl, fun w hm => (show KO w (.bin .neq 3) [(iV s.kind), (iV 1)] (.bool false) from k_neq_f c0)⟩, ⟨rfl, rfl, fun w hm => (show KO w (.bin .mul 3) [(iV x0), (iV x1)] (iV ((x0 * x1))) from k_mul (wrap64 (by omega)))⟩, ⟨rfl, rfl, fun w hm => (show KO w (.bin .sub 3) [(iV ((x0 * x1))), (iV 1)] (iV (((x0 * x1) - 1))) from k_sub (wrap64 (by omega)))⟩, ⟨rfl, rfl, fun w hm => (show KO w (.bin .geq 3) [(iV s.cell), (iV 0)] (.bool true) from k_geq_t c17)⟩, ⟨rfl, rfl, fun w hm => (show KO w (.bin .leq 3) [(iV s.cell), (iV (((x0 * x1) - 1)))] (.bool true) from k_leq_t c18)⟩, ⟨rfl, rfl, fun w hm => (show KO w (.bin .geq 3) [(iV s.cls), (iV 1)] (.bool true) from k_geq_t c19)⟩, ⟨rfl, rfl, fun w hm => (show KO w (.bin .leq 3) [(iV s.cls), (iV 10)] (.bool true) from k_leq_t c20)⟩, ⟨rfl, rfl, fun w hm => (show KO w (.bin .leq 3) [(iV s.lo), (iV s.hi)] (.bool true) from k_leq_t c21)⟩, ⟨rfl, rfl, fun w hm => (show KO w (.bin .geq 3) [(iV s.lo), (iV 0)] (.bool true) from k_geq_t c22)⟩, ⟨rfl, rfl, fun w hm => (show KO w (.bin .leq 3) [(iV s.hi), (iV 1000000000)] (.bool true) from k_leq_t c23)⟩, trivial⟩ trivial trivial trivial) w0 3000 checkSource_b0 Try.f62 checkSource_fr0 checkSource_st0 _ _ checkSource_r17 checkSource_wf0 a w hat1 (@endV_ok r17 w0 (iV 0) (fun en w' => en = .returned (iV (srcErr x0 x1 s)) ∧ Below w0.heap.size w0 w') rfl (fun w2 hb => ?_))
                  have v0 : (0 : Int) = srcErr x0 x1 s := by
                    unfold srcErr; repeat' split
                    all_goals omega
                  have hv := congrArg (fun (y0 : Int) => ((iV y0) : Value)) v0
                  exact ⟨congrArg Ending.returned hv, hb⟩
                · let r18 : Rho := (Rho.of [(iV x0), (iV x1), (iV x2), (iV x3), (iV x4), (iV x5), (iV x6), (iV x7), (iV s.kind), (iV s.cell), (iV s.cls), (iV s.lo), (iV s.hi), (iV ((x0 * x1))), (iV (((x0 * x1) - 1)))] (fun b => w0.heap[b]?) [])
                  have hat1 : @At r18 w0 checkSource_fr0 checkSource_st0 a w := At.shiftL (ρ1 := p0) (ρ2 := r18) (σ := [sy 0, sy 1, sy 2, sy 3, sy 4, sy 5, sy 6, sy 7, sy 8, sy 9, sy 10, sy 11, sy 12]) (π := []) (τ := []) ⟨rfl, rfl, rfl, rfl, rfl, rfl, rfl, rfl, rfl, rfl, rfl, rfl, rfl, rfl, rfl, rfl, rfl, rfl, rfl, rfl, rfl, rfl, rfl, rfl, rfl, rfl, trivial⟩ trivial (fun _ _ h => h) checkSource_wf0 checkSource_id0 hat
                  refine @At.lastK r18 Try.prog (env.symL checkSource_e18 checkSource_c18 checkSource_l18 checkSource_cl18) (@Env.Ok.symL r18 _ _ (@env_ok r18) checkSource_e18 checkSource_c18 checkSource_l18 checkSource_cl18 ⟨⟨rfl, rfl, fun w hm => (show KO w (.bin .neq 3) [(iV s.kind), (iV 1)] (.bool false) from k_neq_f c0)⟩, ⟨rfl, rfl, fun w hm => (show KO w (.bin .mul 3) [(iV x0), (iV x1)] (iV ((x0 * x1))) from k_mul (wrap64 (by omega)))⟩, ⟨rfl, rfl, fun w hm => (show KO w (.bin .sub 3) [(iV ((x0 * x1))), (iV 1)] (iV (((x0 * x1) - 1))) from k_sub (wrap64 (by omega)))⟩, ⟨rfl, rfl, fun w hm => (show KO w (.bin .geq 3) [(iV s.cell), (iV 0)] (.bool true) from k_geq_t c17)⟩, ⟨rfl, rfl, fun w hm => (show KO w (.bin .leq 3) [(iV s.cell), (iV (((x0 * x1) - 1)))] (.bool true) from k_leq_t c18)⟩, ⟨rfl, rfl, fun w hm => (show KO w (.bin .geq 3) [(iV s.cls), (iV 1)] (.bool true) from k_geq_t c19)⟩, ⟨rfl, rfl, fun w hm => (show KO w (.bin .leq 3) [(iV s.cls), (iV 10)] (.bool true) from k_leq_t c20)⟩, ⟨rfl, rfl, fun w hm => (show KO w (.bin .leq 3) [(iV s.lo), (iV s.hi)] (.bool true) from k_leq_t c21)⟩, ⟨rfl, rfl, fun w hm => (show KO w (.bin .geq 3) [(iV s.lo), (iV 0)] (.bool true) from k_geq_t c22)⟩, ⟨rfl, rfl, fun w hm => (show KO w (.bin .leq 3) [(iV s.hi), (iV 1000000000)] (.bool false) from k_leq_f c23)⟩, trivial⟩ trivial trivial trivial) w0 3000 checkSource_b0 Try.f62 checkSource_fr0 checkSource_st0 _ _ checkSource_r18 checkSource_wf0 a w hat1 (@endV_ok r18 w0 (iV 3) (fun en w' => en = .returned (iV (srcErr x0 x1 s)) ∧ Below w0.heap.size w0 w') rfl (fun w2 hb => ?_))
                  have v0 : (3 : Int) = srcErr x0 x1 s := by
                    unfold srcErr; repeat' split
                    all_goals omega
                  have hv := congrArg (fun (y0 : Int) => ((iV y0) : Value)) v0
                  exact ⟨congrArg Ending.returned hv, hb⟩
              · let r19 : Rho := (Rho.of [(iV x0), (iV x1), (iV x2), (iV x3), (iV x4), (iV x5), (iV x6), (iV x7), (iV s.kind), (iV s.cell), (iV s.cls), (iV s.lo), (iV s.hi), (iV ((x0 * x1))), (iV (((x0 * x1) - 1)))] (fun b => w0.heap[b]?) [])
                have hat1 : @At r19 w0 checkSource_fr0 checkSource_st0 a w := At.shiftL (ρ1 := p0) (ρ2 := r19) (σ := [sy 0, sy 1, sy 2, sy 3, sy 4, sy 5, sy 6, sy 7, sy 8, sy 9, sy 10, sy 11, sy 12]) (π := []) (τ := []) ⟨rfl, rfl, rfl, rfl, rfl, rfl, rfl, rfl, rfl, rfl, rfl, rfl, rfl, rfl, rfl, rfl, rfl, rfl, rfl, rfl, rfl, rfl, rfl, rfl, rfl, rfl, trivial⟩ trivial (fun _ _ h => h) checkSource_wf0 checkSource_id0 hat
                refine @At.lastK r19 Try.prog (env.symL checkSource_e19 checkSource_c19 checkSource_l19 checkSource_cl19) (@Env.Ok.symL r19 _ _ (@env_ok r19) checkSource_e19 checkSource_c19 checkSource_l19 checkSource_cl19 ⟨⟨rfl, rfl, fun w hm => (show KO w (.bin .neq 3) [(iV s.kind), (iV 1)] (.bool false) from k_neq_f c0)⟩, ⟨rfl, rfl, fun w hm => (show KO w (.bin .mul 3) [(iV x0), (iV x1)] (iV ((x0 * x1))) from k_mul (wrap64 (by omega)))⟩, ⟨rfl, rfl, fun w hm => (show KO w (.bin .sub 3) [(iV ((x0 * x1))), (iV 1)] (iV (((x0 * x1) - 1))) from k_sub (wrap64 (by omega)))⟩, ⟨rfl, rfl, fun w hm => (show KO w (.bin .geq 3) [(iV s.cell), (iV 0)] (.bool true) from k_geq_t c17)⟩, ⟨rfl, rfl, fun w hm => (show KO w (.bin .leq 3) [(iV s.cell), (iV (((x0 * x1) - 1)))] (.bool true) from k_leq_t c18)⟩, ⟨rfl, rfl, fun w hm => (show KO w (.bin .geq 3) [(iV s.cls), (iV 1)] (.bool true) from k_geq_t c19)⟩, ⟨rfl, rfl, fun w hm => (show KO w (.bin .leq 3) [(iV s.cls), (iV 10)] (.bool true) from k_leq_t c20)⟩, ⟨rfl, rfl, fun w hm => (show KO w (.bin .leq 3) [(iV s.lo), (iV s.hi)] (.bool true) from k_leq_t c21)⟩, ⟨rfl, rfl, fun w hm => (show KO w (.bin .geq 3) [(iV s.lo), (iV 0)] (.bool false) from k_geq_f c22)⟩, trivial⟩ trivial trivial trivial) w0 3000 checkSource_b0 Try.f62 checkSource_fr0 checkSource_st0 _ _ checkSource_r19 checkSource_wf0 a w hat1 (@endV_ok r19 w0 (iV 3) (fun en w' => en = .returned (iV (srcErr x0 x1 s)) ∧ Below w0.heap.size w0 w') rfl (fun w2 hb => ?_))
                have v0 : (3 : Int) = srcErr x0 x1 s := by
                  unfold srcErr; repeat' split
                  all_goals omega
                have hv := congrArg (fun (y0 : Int) => ((iV y0) : Value)) v0
                exact ⟨congrArg Ending.returned hv, hb⟩
            · let r20 : Rho := (Rho.of [(iV x0), (iV x1), (iV x2), (iV x3), (iV x4), (iV x5), (iV x6), (iV x7), (iV s.kind), (iV s.cell), (iV s.cls), (iV s.lo), (iV s.hi), (iV ((x0 * x1))), (iV (((x0 * x1) - 1)))] (fun b => w0.heap[b]?) [])
              have hat1 : @At r20 w0 checkSource_fr0 checkSource_st0 a w := At.shiftL (ρ1 := p0) (ρ2 := r20) (σ := [sy 0, sy 1, sy 2, sy 3, sy 4, sy 5, sy 6, sy 7, sy 8, sy 9, sy 10, sy 11, sy 12]) (π := []) (τ := []) ⟨rfl, rfl, rfl, rfl, rfl, rfl, rfl, rfl, rfl, rfl, rfl, rfl, rfl, rfl, rfl, rfl, rfl, rfl, rfl, rfl, rfl, rfl, rfl, rfl, rfl, rfl, trivial⟩ trivial (fun _ _ h => h) checkSource_wf0 checkSource_id0 hat
              refine @At.lastK r20 Try.prog (env.symL checkSource_e20 checkSource_c20 checkSource_l20 checkSource_cl20) (@Env.Ok.symL r20 _ _ (@env_ok r20) checkSource_e20 checkSource_c20 checkSource_l20 checkSource_cl20 ⟨⟨rfl, rfl, fun w hm => (show KO w (.bin .neq 3) [(iV s.kind), (iV 1)] (.bool false) from k_neq_f c0)⟩, ⟨rfl, rfl, fun w hm => (show KO w (.bin .mul 3) [(iV x0), (iV x1)] (iV ((x0 * x1))) from k_mul (wrap64 (by omega)))⟩, ⟨rfl, rfl, fun w hm => (show KO w (.bin .sub 3) [(iV ((x0 * x1))), (iV 1)] (iV (((x0 * x1) - 1))) from k_sub (wrap64 (by omega)))⟩, ⟨rfl, rfl, fun w hm => (show KO w (.bin .geq 3) [(iV s.cell), (iV 0)] (.bool true) from k_geq_t c17)⟩, ⟨rfl, rfl, fun w hm => (show KO w (.bin .leq 3) [(iV s.cell), (iV (((x0 * x1) - 1)))] (.bool true) from k_leq_t c18)⟩, ⟨rfl, rfl, fun w hm => (show KO w (.bin .geq 3) [(iV s.cls), (iV 1)] (.bool true) from k_geq_t c19)⟩, ⟨rfl, rfl, fun w hm => (show KO w (.bin .leq 3) [(iV s.cls), (iV 10)] (.bool true) from k_leq_t c20)⟩, ⟨rfl, rfl, fun w hm => (show KO w (.bin .leq 3) [(iV s.lo), (iV s.hi)] (.bool false) from k_leq_f c21)⟩, trivial⟩ trivial trivial trivial) w0 3000 checkSource_b0 Try.f62 checkSource_fr0 checkSource_st0 _ _ checkSource_r20 checkSource_wf0 a w hat1 (@endV_ok r20 w0 (iV 3) (fun en w' => en = .returned (iV (srcErr x0 x1 s)) ∧ Below w0.heap.size w0 w') rfl (fun w2 hb => ?_))
              have v0 : (3 : Int) = srcErr x0 x1 s := by
                unfold srcErr; repeat' split
                all_goals omega
              have hv := congrArg (fun (y0 : Int) => ((iV y0) : Value)) v0
              exact ⟨congrArg Ending.returned hv, hb⟩
          · let r21 : Rho := (Rho.of [(iV x0), (iV x1), (iV x2), (iV x3), (iV x4), (iV x5), (iV x6), (iV x7), (iV s.kind), (iV s.cell), (iV s.cls), (iV s.lo), (iV s.hi), (iV ((x0 * x1))), (iV (((x0 * x1) - 1)))] (fun b => w0.heap[b]?) [])
            have hat1 : @At r21 w0 checkSource_fr0 checkSource_st0 a w := At.shiftL (ρ1 := p0) (ρ2 := r21) (σ := [sy 0, sy 1, sy 2, sy 3, sy 4, sy 5, sy 6, sy 7, sy 8, sy 9, sy 10, sy 11, sy 12]) (π := []) (τ := []) ⟨rfl, rfl, rfl, rfl, rfl, rfl, rfl, rfl, rfl, rfl, rfl, rfl, rfl, rfl, rfl, rfl, rfl, rfl, rfl, rfl, rfl, rfl, rfl, rfl, rfl, rfl, trivial⟩ trivial (fun _ _ h => h) checkSource_wf0 checkSource_id0 hat
            refine @At.lastK r21 Try.prog (env.symL checkSource_e21 checkSource_c21 checkSource_l21 checkSource_cl21) (@Env.Ok.symL r21 _ _ (@env_ok r21) checkSource_e21 checkSource_c21 checkSource_l21 checkSource_cl21 ⟨⟨rfl, rfl, fun w hm => (show KO w (.bin .neq 3) [(iV s.kind), (iV 1)] (.bool false) from k_neq_f c0)⟩, ⟨rfl, rfl, fun w hm => (show KO w (.bin .mul 3) [(iV x0), (iV x1)] (iV ((x0 * x1))) from k_mul (wrap64 (by omega)))⟩, ⟨rfl, rfl, fun w hm => (show KO w (.bin .sub 3) [(iV ((x0 * x1))), (iV 1)] (iV (((x0 * x1) - 1))) from k_sub (wrap64 (by omega)))⟩, ⟨rfl, rfl, fun w hm => (show KO w (.bin .geq 3) [(iV s.cell), (iV 0)] (.bool true) from k_geq_t c17)⟩, ⟨rfl, rfl, fun w hm => (show KO w (.bin .leq 3) [(iV s.cell), (iV (((x0 * x1) - 1)))] (.bool true) from k_leq_t c18)⟩, ⟨rfl, rfl, fun w hm => (show KO w (.bin .geq 3) [(iV s.cls), (iV 1)] (.bool true) from k_geq_t c19)⟩, ⟨rfl, rfl, fun w hm => (show KO w (.bin .leq 3) [(iV s.cls), (iV 10)] (.bool false) from k_leq_f c20)⟩, trivial⟩ trivial trivial trivial) w0 3000 checkSource_b0 Try.f62 checkSource_fr0 checkSource_st0 _ _ checkSource_r21 checkSource_wf0 a w hat1 (@endV_ok r21 w0 (iV 3) (fun en w' => en = .returned (iV (srcErr x0 x1 s)) ∧ Below w0.heap.size w0 w') rfl (fun w2 hb => ?_))
            have v0 : (3 : Int) = srcErr x0 x1 s := by
              unfold srcErr; repeat' split
              all_goals omega
            have hv := congrArg (fun (y0 : Int) => ((iV y0) : Value)) v0
            exact ⟨congrArg Ending.returned hv, hb⟩
        · let r22 : Rho := (Rho.of [(iV x0), (iV x1), (iV x2), (iV x3), (iV x4), (iV x5), (iV x6), (iV x7), (iV s.kind), (iV s.cell), (iV s.cls), (iV s.lo), (iV s.hi), (iV ((x0 * x1))), (iV (((x0 * x1) - 1)))] (fun b => w0.heap[b]?) [])
          have hat1 : @At r22 w0 checkSource_fr0 checkSource_st0 a w := At.shiftL (ρ1 := p0) (ρ2 := r22) (σ := [sy 0, sy 1, sy 2, sy 3, sy 4, sy 5, sy 6, sy 7, sy 8, sy 9, sy 10, sy 11, sy 12]) (π := []) (τ := []) ⟨rfl, rfl, rfl, rfl, rfl, rfl, rfl, rfl, rfl, rfl, rfl, rfl, rfl, rfl, rfl, rfl, rfl, rfl, rfl, rfl, rfl, rfl, rfl, rfl, rfl, rfl, trivial⟩ trivial (fun _ _ h => h) checkSource_wf0 checkSource_id0 hat
          refine @At.lastK r22 Try.prog (env.symL checkSource_e22 checkSource_c22 checkSource_l22 checkSource_cl22) (@Env.Ok.symL r22 _ _ (@env_ok r22) checkSource_e22 checkSource_c22 checkSource_l22 checkSource_cl22 ⟨⟨rfl, rfl, fun w hm => (show KO w (.bin .neq 3) [(iV s.kind), (iV 1)] (.bool false) from k_neq_f c0)⟩, ⟨rfl, rfl, fun w hm => (show KO w (.bin .mul 3) [(iV x0), (iV x1)] (iV ((x0 * x1))) from k_mul (wrap64 (by omega)))⟩, ⟨rfl, rfl, fun w hm => (show KO w (.bin .sub 3) [(iV ((x0 * x1))), (iV 1)] (iV (((x0 * x1) - 1))) from k_sub (wrap64 (by omega)))⟩, ⟨rfl, rfl, fun w hm => (show KO w (.bin .geq 3) [(iV s.cell), (iV 0)] (.bool true) from k_geq_t c17)⟩, ⟨rfl, rfl, fun w hm => (show KO w (.bin .leq 3) [(iV s.cell), (iV (((x0 * x1) - 1)))] (.bool true) from k_leq_t c18)⟩, ⟨rfl, rfl, fun w hm => (show KO w (.bin .geq 3) [(iV s.cls), (iV 1)] (.bool false) from k_geq_f c19)⟩, trivial⟩ trivial trivial trivial) w0 3000 checkSource_b0 Try.f62 checkSource_fr0 checkSource_st0 _ _ checkSource_r22 checkSource_wf0 a w hat1 (@endV_ok r22 w0 (iV 3) (fun en w' => en = .returned (iV (srcErr x0 x1 s)) ∧ Below w0.heap.size w0 w') rfl (fun w2 hb => ?_))
          have v0 : (3 : Int) = srcErr x0 x1 s := by
            unfold srcErr; repeat' split
            all_goals omega
          have hv := congrArg (fun (y0 : Int) => ((iV y0) : Value)) v0
          exact ⟨congrArg Ending.returned hv, hb⟩
      · let r23 : Rho := (Rho.of [(iV x0), (iV x1), (iV x2), (iV x3), (iV x4), (iV x5), (iV x6), (iV x7), (iV s.kind), (iV s.cell), (iV s.cls), (iV s.lo), (iV s.hi), (iV ((x0 * x1))), (iV (((x0 * x1) - 1)))] (fun b => w0.heap[b]?) [])
        have hat1 : @At r23 w0 checkSource_fr0 checkSource_st0 a w := At.shiftL (ρ1 := p0) (ρ2 := r23) (σ := [sy 0, sy 1, sy 2, sy 3, sy 4, sy 5, sy 6, sy 7, sy 8, sy 9, sy 10, sy 11, sy 12]) (π := []) (τ := []) ⟨rfl, rfl, rfl, rfl, rfl, rfl, rfl, rfl, rfl, rfl, rfl, rfl, rfl, rfl, rfl, rfl, rfl, rfl, rfl, rfl, rfl, rfl, rfl, rfl, rfl, rfl, trivial⟩ trivial (fun _ _ h => h) checkSource_wf0 checkSource_id0 hat
        refine @At.lastK r23 Try.prog (env.symL checkSource_e23 checkSource_c23 checkSource_l23 checkSource_cl23) (@Env.Ok.symL r23 _ _ (@env_ok r23) checkSource_e23 checkSource_c23 checkSource_l23 checkSource_cl23 ⟨⟨rfl, rfl, fun w hm => (show KO w (.bin .neq 3) [(iV s.kind), (iV 1)] (.bool false) from k_neq_f c0)⟩, ⟨rfl, rfl, fun w hm => (show KO w (.bin .mul 3) [(iV x0), (iV x1)] (iV ((x0 * x1))) from k_mul (wrap64 (by omega)))⟩, ⟨rfl, rfl, fun w hm => (show KO w (.bin .sub 3) [(iV ((x0 * x1))), (iV 1)] (iV (((x0 * x1) - 1))) from k_sub (wrap64 (by omega)))⟩, ⟨rfl, rfl, fun w hm => (show KO w (.bin .geq 3) [(iV s.cell), (iV 0)] (.bool true) from k_geq_t c17)⟩, ⟨rfl, rfl, fun w hm => (show KO w (.bin .leq 3) [(iV s.cell), (iV (((x0 * x1) - 1)))] (.bool false) from k_leq_f c18)⟩, trivial⟩ trivial trivial trivial) w0 3000 checkSource_b0 Try.f62 checkSource_fr0 checkSource_st0 _ _ checkSource_r23 checkSource_wf0 a w hat1 (@endV_ok r23 w0 (iV 4) (fun en w' => en = .returned (iV (srcErr x0 x1 s)) ∧ Below w0.heap.size w0 w') rfl (fun w2 hb => ?_))
        have v0 : (4 : Int) = srcErr x0 x1 s := by
          unfold srcErr; repeat' split
          all_goals omega
        have hv := congrArg (fun (y0 : Int) => ((iV y0) : Value)) v0
        exact ⟨congrArg Ending.returned hv, hb⟩
    · let r24 : Rho := (Rho.of [(iV x0), (iV x1), (iV x2), (iV x3), (iV x4), (iV x5), (iV x6), (iV x7), (iV s.kind), (iV s.cell), (iV s.cls), (iV s.lo), (iV s.hi), (iV ((x0 * x1))), (iV (((x0 * x1) - 1)))] (fun b => w0.heap[b]?) [])
      have hat1 : @At r24 w0 checkSource_fr0 checkSource_st0 a w := At.shiftL (ρ1 := p0) (ρ2 := r24) (σ := [sy 0, sy 1, sy 2, sy 3, sy 4, sy 5, sy 6, sy 7, sy 8, sy 9, sy 10, sy 11, sy 12]) (π := []) (τ := []) ⟨rfl, rfl, rfl, rfl, rfl, rfl, rfl, rfl, rfl, rfl, rfl, rfl, rfl, rfl, rfl, rfl, rfl, rfl, rfl, rfl, rfl, rfl, rfl, rfl, rfl, rfl, trivial⟩ trivial (fun _ _ h => h) checkSource_wf0 checkSource_id0 hat
      refine @At.lastK r24 Try.prog (env.symL checkSource_e24 checkSource_c24 checkSource_l24 checkSource_cl24) (@Env.Ok.symL r24 _ _ (@env_ok r24) checkSource_e24 checkSource_c24 checkSource_l24 checkSource_cl24 ⟨⟨rfl, rfl, fun w hm => (show KO w (.bin .neq 3) [(iV s.kind), (iV 1)] (.bool false) from k_neq_f c0)⟩, ⟨rfl, rfl, fun w hm => (show KO w (.bin .mul 3) [(iV x0), (iV x1)] (iV ((x0 * x1))) from k_mul (wrap64 (by omega)))⟩, ⟨rfl, rfl, fun w hm => (show KO w (.bin .sub 3) [(iV ((x0 * x1))), (iV 1)] (iV (((x0 * x1) - 1))) from k_sub (wrap64 (by omega)))⟩, ⟨rfl, rfl, fun w hm => (show KO w (.bin .geq 3) [(iV s.cell), (iV 0)] (.bool false) from k_geq_f c17)⟩, trivial⟩ trivial trivial trivial) w0 3000 checkSource_b0 Try.f62 checkSource_fr0 checkSource_st0 _ _ checkSource_r24 checkSource_wf0 a w hat1 (@endV_ok r24 w0 (iV 4) (fun en w' => en = .returned (iV (srcErr x0 x1 s)) ∧ Below w0.heap.size w0 w') rfl (fun w2 hb => ?_))
      have v0 : (4 : Int) = srcErr x0 x1 s := by
        unfold srcErr; repeat' split
        all_goals omega
      have hv := congrArg (fun (y0 : Int) => ((iV y0) : Value)) v0
      exact ⟨congrArg Ending.returned hv, hb⟩
end Go.Proofs.Ytoaehigmpbhppaa.En
