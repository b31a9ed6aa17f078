import Derived.Test.YtoaehigmpbhppaaLAI
import Derived.Test.YtoaehigmpbhppaaLAI
import Derived.Test.YtoaehigmpbhppaaLAE
/-
  Texts of the bench, merged.
-/
set_option linter.unusedSimpArgs false
set_option linter.unusedVariables false
namespace Go.Proofs.Ytoaehigmpbhppaa.En
open Go Go.Ev Go.Proofs Go.RowKit
set_option maxRecDepth 1000000
noncomputable section
def f88b0 : Code := (Try.f88.body).getD .skip
def f88n0 : List CLEnt := ⟨76, [(ag 0 11), (ag 11 5), (sy 16)], [], 4, 0, 23, 2, 17, (ls 4 17)⟩ :: []
def f88n1 : List CLEnt := ⟨102, [(ag 14 2), (ls 3 17)], [(3, .lst 0 23 2)], 8, 1, 158, 2, 18, (ls 8 18)⟩ :: []
def f88n8 : List LEnt := (.get 0 24 [(sy 25), (sy 26)]) :: (.idx 18 (sy 21) 2 24) :: []
def f88n9 : List Ent := aB .sub (sy 25) (iV 1) (sy 27) :: cB .gtr (sy 25) (sy 19) true :: cB .lss (sy 21) (sy 18) true :: []
def f88n10 : List Ent := aB .add (sy 21) (iV 1) (sy 30) :: aB .add (sy 20) (sy 26) (sy 29) :: ⟨(.bi 3 [3, 3]), [(sy 22), (sy 19)], (sy 28)⟩ :: cB .leq (sy 20) (sy 10) true :: f88n9
def f88n11 : List Ent := aB .add (sy 21) (iV 1) (sy 29) :: aB .add (sy 20) (sy 26) (sy 28) :: cB .leq (sy 20) (sy 10) false :: f88n9
def f88n12 : List Ent := aB .add (sy 21) (iV 1) (sy 28) :: aB .add (sy 20) (sy 26) (sy 27) :: cB .gtr (sy 25) (sy 19) false :: cB .lss (sy 21) (sy 18) true :: []
def f88n13 : List Ent := cB .lss (sy 21) (sy 18) false :: []
def f88n14 : List Ent := ⟨(.bi 3 [3, 3]), [(sy 19), (sy 17)], (sy 21)⟩ :: cB .leq (sy 18) (sy 10) true :: cB .leq (sy 17) (sy 15) true :: []
def f88n15 : List Ent := cB .leq (sy 18) (sy 10) false :: cB .leq (sy 17) (sy 15) true :: []
def f88n16 : List Ent := cB .leq (sy 17) (sy 15) false :: []
def f88fr0 : Fr := mkFr Try.f88 [(0, (ag 0 11)), (1, (ag 11 5)), (2, (sy 16))] []
def f88st0 : St := mkSt 0 []
theorem f88wf0 : f88st0.Wf := mkSt_wf rfl
def f88os0 : List Out := []
theorem f88id0 : agreeO (ids 17) (rng 0) (old 0) f88os0 f88fr0 f88st0 f88os0 f88fr0 f88st0 = true := by kernel_rfl
theorem f88cd0 : codes2 f88st0 f88st0.next = codes1 [] f88st0 f88st0 f88st0.next := by kernel_rfl
theorem f88a0 : agreeO (ids 17) [] [] f88os0 f88fr0 f88st0 [] (frameOf Try.f88 [(ag 0 11), (ag 11 5), (sy 16)]) Ev.start = true := by kernel_rfl
def f88b1 : Code := headC f88b0
def f88b2 : Code := tailC f88b0
theorem f88q0 : f88b0 = .seq f88b1 f88b2 := by kernel_rfl
def f88fr1 : Fr := mkFr Try.f88 [(2, (sy 16)), (3, (pt 0 0)), (4, (pt 1 0)), (6, (pt 2 0))] []
def f88st1 : St := mkSt 3 [(0, (.cells (ids 11) 111 .none .false)), (1, (.cells [(sy 11), (sy 12), (sy 13), (sy 14), (sy 15)] 54 .none .false)), (2, (.cells [(iV 0), (iV 0)] 23 .none .false))]
theorem f88wf1 : f88st1.Wf := mkSt_wf rfl
def f88os1 : List Out := []
theorem f88id1 : agreeO (ids 17) (rng 3) (old 0) f88os1 f88fr1 f88st1 f88os1 f88fr1 f88st1 = true := by kernel_rfl
theorem f88cd1 : codes2 f88st1 f88st1.next = codes1 [0, 1, 2] f88st1 f88st1 f88st1.next := by kernel_rfl
theorem f88r0 : ev Try.prog (env.symL [] [] [] []) 3000 (.code f88b1 none f88fr0 f88st0 (stopO .normal [sy 0, sy 1, sy 2, sy 3, sy 4, sy 5, sy 6, sy 7, sy 8, sy 9, sy 10, sy 11, sy 12, sy 13, sy 14, sy 15, sy 16] [0, 1, 2] [] f88os1 f88fr1 f88st1 f88os0)) = some (codes2 f88st1 f88st1.next) := by kernel_rfl
def f88b3 : Code := headC f88b2
def f88b4 : Code := tailC f88b2
theorem f88q1 : f88b2 = .seq f88b3 f88b4 := by kernel_rfl
def f88fr2 : Fr := mkFr Try.f88 [(2, (sy 16)), (3, (pt 0 0)), (4, (pt 1 0)), (6, (pt 2 0)), (7, (pt 3 0))] []
def f88st2 : St := mkSt 4 [(0, (.cells (ids 11) 111 .none .false)), (1, (.cells [(sy 11), (sy 12), (sy 13), (sy 14), (sy 15)] 54 .none .false)), (2, (.cells [(iV 0), (iV 0)] 23 .none .false)), (3, (.cells [(iV 1099511627776), (iV 0)] 23 .none .false))]
theorem f88wf2 : f88st2.Wf := mkSt_wf rfl
def f88os2 : List Out := []
theorem f88id2 : agreeO (ids 17) (rng 4) (old 0) f88os2 f88fr2 f88st2 f88os2 f88fr2 f88st2 = true := by kernel_rfl
theorem f88cd2 : codes2 f88st2 f88st2.next = codes1 [0, 1, 2, 3] f88st2 f88st2 f88st2.next := by kernel_rfl
theorem f88r1 : ev Try.prog (env.symL [] [] [] []) 3000 (.code f88b3 none f88fr1 f88st1 (stopO .normal [sy 0, sy 1, sy 2, sy 3, sy 4, sy 5, sy 6, sy 7, sy 8, sy 9, sy 10, sy 11, sy 12, sy 13, sy 14, sy 15, sy 16] [0, 1, 2, 3] [] f88os2 f88fr2 f88st2 f88os1)) = some (codes2 f88st2 f88st2.next) := by kernel_rfl
def f88b5 : Code := headC f88b4
def f88b6 : Code := tailC f88b4
theorem f88q2 : f88b4 = .seq f88b5 f88b6 := by kernel_rfl
def f88b7 : Code := headC f88b5
def f88b8 : Code := tailC f88b5
theorem f88q3 : f88b5 = .seq f88b7 f88b8 := by kernel_rfl
def f88fr3 : Fr := mkFr Try.f88 [(3, (pt 0 0)), (6, (pt 1 0)), (7, (pt 2 0)), (17, (.func (.func 101) #[] #[(pt 4 0), (pt 5 0)]))] []
def f88st3 : St := mkSt 6 [(0, (.cells (ids 11) 111 .none .false)), (1, (.cells [(iV 0), (iV 0)] 23 .none .false)), (2, (.cells [(iV 1099511627776), (iV 0)] 23 .none .false)), (3, (.lst 0 23 2)), (4, (.cells [(sy 14), (sy 15)] 23 .none .false)), (5, (.cells [(ls 3 17)] 127 .none .false))]
theorem f88wf3 : f88st3.Wf := mkSt_wf rfl
def f88os3 : List Out := []
theorem f88r2 : ev Try.prog (env.symL [] [] [] f88n0) 3000 (.code f88b7 none f88fr2 f88st2 (stopO .normal [sy 0, sy 1, sy 2, sy 3, sy 4, sy 5, sy 6, sy 7, sy 8, sy 9, sy 10, sy 11, sy 12, sy 13, sy 14, sy 15, sy 16, sy 17] [0, 2, 3, 4, 5, 6] [some 0] f88os3 f88fr3 f88st3 f88os2)) = some (codes2 f88st3 f88st3.next) := by kernel_rfl
def f88b9 : Code := inBlockC f88b8
theorem f88q4 : f88b8 = .block 0 f88b9 := by kernel_rfl
def f88b10 : Code := rangeA f88b9
def f88b11 : Code := rangeB f88b9
def f88b12 : Code := (Try.f101.body).getD .skip
def f88fr4 : Fr := mkFr Try.f101 [(0, (.func (.yield 7) #[] #[])), (1, (pt 4 0)), (2, (pt 5 0))] []
def f88st4 : St := mkSt 8 [(0, (.cells (ids 11) 111 .none .false)), (1, (.cells [(iV 0), (iV 0)] 23 .none .false)), (2, (.cells [(iV 1099511627776), (iV 0)] 23 .none .false)), (3, (.lst 0 23 2)), (4, (.cells [(sy 14), (sy 15)] 23 .none .false)), (5, (.cells [(ls 3 17)] 127 .none .false)), (6, .mark), (7, (.loop .ready none (mkTm 34 6 [(3, (pt 0 0)), (7, (pt 2 0))])  #[18, 19] f88b10 f88b11 6))]
theorem f88wf4 : f88st4.Wf := mkSt_wf rfl
def f88os4 : List Out := [⟨(mkFr Try.f88 [(6, (pt 1 0)), (7, (pt 2 0))] [6]), 7⟩]
theorem f88id4 : agreeO (ids 18) (rng 8) (old 1) f88os4 f88fr4 f88st4 f88os4 f88fr4 f88st4 = true := by kernel_rfl
theorem f88cd4 : codes2 f88st4 f88st4.next = codes1 [0, 1, 2, 3, 4, 5, 6, 7] f88st4 f88st4 f88st4.next := by kernel_rfl
theorem f88q5 : f88b9 = .rangeFunc (rangeG f88b9) (rangeP f88b9) f88b10 f88b11 := by kernel_rfl
theorem f88g5 : aev f88fr3.T (rangeG f88b9) = some (.func (.func 101) #[] #[(pt 4 0), (pt 5 0)]) := by kernel_rfl
theorem f88r5x : rangeS f88fr3 f88st3 (rangeP f88b9) f88b10 f88b11 Try.f101 #[] #[(pt 4 0), (pt 5 0)] (fun o frC s1 => stopO .normal (ids 18) [0, 1, 2, 3, 4, 5, 6, 7] (old 1) f88os4 f88fr4 f88st4 (o :: f88os3) .normal frC s1) = some (codes2 f88st4 f88st4.next) := by kernel_rfl
def f88b13 : Code := headC f88b12
def f88b14 : Code := tailC f88b12
theorem f88q6 : f88b12 = .seq f88b13 f88b14 := by kernel_rfl
def f88fr5 : Fr := mkFr Try.f101 [(0, (.func (.yield 7) #[] #[])), (1, (pt 4 0)), (2, (pt 5 0)), (4, (sy 14)), (5, (sy 17))] []
def f88st5 : St := mkSt 8 [(0, (.cells (ids 11) 111 .none .false)), (1, (.cells [(iV 0), (iV 0)] 23 .none .false)), (2, (.cells [(iV 1099511627776), (iV 0)] 23 .none .false)), (3, (.lst 0 23 2)), (4, (.cells [(sy 14), (sy 15)] 23 .none .false)), (5, (.cells [(ls 3 17)] 127 .none .false)), (6, .mark), (7, (.loop .ready none (mkTm 34 6 [(3, (pt 0 0)), (7, (pt 2 0))])  #[18, 19] f88b10 f88b11 6))]
theorem f88wf5 : f88st5.Wf := mkSt_wf rfl
def f88os5 : List Out := [⟨(mkFr Try.f88 [(6, (pt 1 0)), (7, (pt 2 0))] [6]), 7⟩]
theorem f88id5 : agreeO (ids 18) (rng 8) (old 1) f88os5 f88fr5 f88st5 f88os5 f88fr5 f88st5 = true := by kernel_rfl
theorem f88cd5 : codes2 f88st5 f88st5.next = codes1 [0, 1, 2, 3, 4, 5, 6, 7] f88st5 f88st5 f88st5.next := by kernel_rfl
theorem f88r3 : ev Try.prog (env.symL [] [] [] []) 3000 (.code f88b13 none f88fr4 f88st4 (stopO .normal [sy 0, sy 1, sy 2, sy 3, sy 4, sy 5, sy 6, sy 7, sy 8, sy 9, sy 10, sy 11, sy 12, sy 13, sy 14, sy 15, sy 16, sy 17] [0, 1, 2, 3, 4, 5, 6, 7] [some 0] f88os5 f88fr5 f88st5 f88os4)) = some (codes2 f88st5 f88st5.next) := by kernel_rfl
def f88b15 : Code := headC f88b14
def f88b16 : Code := tailC f88b14
theorem f88q7 : f88b14 = .seq f88b15 f88b16 := by kernel_rfl
def f88b17 : Code := headC f88b15
def f88b18 : Code := tailC f88b15
theorem f88q8 : f88b15 = .seq f88b17 f88b18 := by kernel_rfl
def f88fr6 : Fr := mkFr Try.f101 [(0, (.func (.yield 5) #[] #[])), (1, (pt 3 0)), (4, (sy 14)), (5, (sy 17)), (14, (ls 6 18)), (15, (sy 18)), (16, (iV 0))] []
def f88st6 : St := mkSt 7 [(0, (.cells (ids 11) 111 .none .false)), (1, (.cells [(iV 0), (iV 0)] 23 .none .false)), (2, (.cells [(iV 1099511627776), (iV 0)] 23 .none .false)), (3, (.cells [(sy 14), (sy 15)] 23 .none .false)), (4, .mark), (5, (.loop .ready none (mkTm 34 6 [(3, (pt 0 0)), (7, (pt 2 0))])  #[18, 19] f88b10 f88b11 4)), (6, (.lst 0 158 2))]
theorem f88wf6 : f88st6.Wf := mkSt_wf rfl
def f88os6 : List Out := [⟨(mkFr Try.f88 [(6, (pt 1 0)), (7, (pt 2 0))] [4]), 5⟩]
theorem f88r4 : ev Try.prog (env.symL [] [] [] f88n1) 3000 (.code f88b17 none f88fr5 f88st5 (stopO .normal [sy 0, sy 1, sy 2, sy 3, sy 4, sy 5, sy 6, sy 7, sy 8, sy 9, sy 10, sy 11, sy 12, sy 13, sy 14, sy 15, sy 16, sy 17, sy 18] [0, 1, 2, 4, 6, 7, 8] [some 1] f88os6 f88fr6 f88st6 f88os5)) = some (codes2 f88st6 f88st6.next) := by kernel_rfl
def f88b19 : Code := inBlockC f88b18
theorem f88q9 : f88b18 = .block 0 f88b19 := by kernel_rfl
def f88b20 : Code := inLoopC f88b19
theorem f88q10 : f88b19 = .loop f88b20 := by kernel_rfl
def f88fr7 : Fr := mkFr Try.f101 [(0, (.func (.yield 5) #[] #[])), (1, (pt 3 0)), (4, (sy 19)), (5, (sy 20)), (14, (ls 6 18)), (15, (sy 18)), (16, (sy 21))] []
def f88st7 : St := mkSt 7 [(0, (.cells (ids 11) 111 .none .false)), (1, (.cells [(iV 0), (iV 0)] 23 .none .false)), (2, (.cells [(sy 22), (sy 23)] 23 .none .false)), (3, (.cells [(sy 14), (sy 15)] 23 .none .false)), (4, .mark), (5, (.loop .ready none (mkTm 34 6 [(3, (pt 0 0)), (7, (pt 2 0))])  #[18, 19] f88b10 f88b11 4)), (6, (.lst 0 158 2))]
theorem f88wf7 : f88st7.Wf := mkSt_wf rfl
def f88os7 : List Out := [⟨(mkFr Try.f88 [(6, (pt 1 0)), (7, (pt 2 0))] [4]), 5⟩]
theorem f88id7 : agreeO (ids 24) (rng 7) (old 1) f88os7 f88fr7 f88st7 f88os7 f88fr7 f88st7 = true := by kernel_rfl
theorem f88cd7 : codes2 f88st7 f88st7.next = codes1 [0, 1, 2, 3, 4, 5, 6] f88st7 f88st7 f88st7.next := by kernel_rfl
theorem f88h11 : agreeO (ids 19 ++ [(sy 14), (sy 17), (iV 0), (iV 1099511627776), (iV 0)]) [0, 1, 2, 3, 4, 5, 6] [some 0] f88os7 f88fr7 f88st7 f88os6 f88fr6 f88st6 = true := by kernel_rfl
theorem f88hc11 : codes2 f88st7 f88st7.next = codes1 [0, 1, 2, 3, 4, 5, 6] f88st6 f88st7 f88st7.next := by kernel_rfl
theorem f88r5 : ev Try.prog (env.symL f88n10 [] f88n8 []) 3000 (.code f88b20 none f88fr7 f88st7 (stopO .normal (pk 19 [25, 29, 30, 28, 27]) [0, 1, 2, 3, 4, 5, 6] [some 0] f88os7 f88fr7 f88st7 f88os7)) = some (codes2 f88st7 f88st7.next) := by kernel_rfl
theorem f88r6 : ev Try.prog (env.symL f88n11 [] f88n8 []) 3000 (.code f88b20 none f88fr7 f88st7 (stopO .normal (pk 19 [25, 28, 29, 22, 23]) [0, 1, 2, 3, 4, 5, 6] [some 0] f88os7 f88fr7 f88st7 f88os7)) = some (codes2 f88st7 f88st7.next) := by kernel_rfl
theorem f88r7 : ev Try.prog (env.symL f88n12 [] f88n8 []) 3000 (.code f88b20 none f88fr7 f88st7 (stopO .normal (pk 19 [25, 27, 28, 22, 23]) [0, 1, 2, 3, 4, 5, 6] [some 0] f88os7 f88fr7 f88st7 f88os7)) = some (codes2 f88st7 f88st7.next) := by kernel_rfl
def f88fr8 : Fr := mkFr Try.f101 [(0, (.func (.yield 5) #[] #[])), (1, (pt 3 0)), (4, (sy 17)), (5, (sy 18))] []
def f88st8 : St := mkSt 6 [(0, (.cells (ids 11) 111 .none .false)), (1, (.cells [(iV 0), (iV 0)] 23 .none .false)), (2, (.cells [(sy 19), (sy 20)] 23 .none .false)), (3, (.cells [(sy 14), (sy 15)] 23 .none .false)), (4, .mark), (5, (.loop .ready none (mkTm 34 6 [(3, (pt 0 0)), (7, (pt 2 0))])  #[18, 19] f88b10 f88b11 4))]
theorem f88wf8 : f88st8.Wf := mkSt_wf rfl
def f88os8 : List Out := [⟨(mkFr Try.f88 [(6, (pt 1 0)), (7, (pt 2 0))] [4]), 5⟩]
theorem f88id8 : agreeO (ids 21) (rng 6) (old 0) f88os8 f88fr8 f88st8 f88os8 f88fr8 f88st8 = true := by kernel_rfl
theorem f88cd8 : codes2 f88st8 f88st8.next = codes1 [0, 1, 2, 3, 4, 5] f88st8 f88st8 f88st8.next := by kernel_rfl
theorem f88r8 : ev Try.prog (env.symL f88n13 [] [] []) 3000 (.code f88b20 none f88fr7 f88st7 (stopO (.exit 0) [sy 0, sy 1, sy 2, sy 3, sy 4, sy 5, sy 6, sy 7, sy 8, sy 9, sy 10, sy 11, sy 12, sy 13, sy 14, sy 15, sy 16, sy 19, sy 20, sy 22, sy 23] [0, 1, 2, 3, 4, 5] [] f88os8 f88fr8 f88st8 f88os7)) = some (codes2 f88st8 f88st8.next) := by kernel_rfl
def f88fr9 : Fr := mkFr Try.f88 [(6, (pt 0 0)), (7, (pt 1 0))] [2]
def f88st9 : St := mkSt 3 [(0, (.cells [(iV 0), (iV 0)] 23 .none .false)), (1, (.cells [(sy 17), (sy 15)] 23 .none .false)), (2, .mark)]
theorem f88wf9 : f88st9.Wf := mkSt_wf rfl
def f88os9 : List Out := []
theorem f88id9 : agreeO (ids 18) (rng 3) (old 0) f88os9 f88fr9 f88st9 f88os9 f88fr9 f88st9 = true := by kernel_rfl
theorem f88cd9 : codes2 f88st9 f88st9.next = codes1 [0, 1, 2] f88st9 f88st9 f88st9.next := by kernel_rfl
theorem f88r9 : ev Try.prog (env.symL f88n14 [] [] []) 3000 (.code f88b16 none f88fr8 f88st8 (retK (env.symL f88n14 [] [] []) Try.f101 (endLoopK 5 (mkFr Try.f88 [(6, (pt 1 0)), (7, (pt 2 0))] [4]) (stopO .normal [sy 0, sy 1, sy 2, sy 3, sy 4, sy 5, sy 6, sy 7, sy 8, sy 9, sy 10, sy 11, sy 12, sy 13, sy 14, sy 15, sy 16, sy 21] [1, 2, 4] [] f88os9 f88fr9 f88st9 [])))) = some (codes2 f88st9 f88st9.next) := by kernel_rfl
theorem f88r10 : ev Try.prog (env.symL [] [] [] []) 3000 (.code f88b6 none f88fr9 f88st9 (retK (env.symL [] [] [] []) Try.f88 (endV (.agg #[(sy 17), (sy 15)])))) = some () := by kernel_rfl
def f88fr10 : Fr := mkFr Try.f88 [(6, (pt 0 0)), (7, (pt 1 0))] [2]
def f88st10 : St := mkSt 3 [(0, (.cells [(iV 0), (iV 0)] 23 .none .false)), (1, (.cells [(sy 17), (sy 18)] 23 .none .false)), (2, .mark)]
theorem f88wf10 : f88st10.Wf := mkSt_wf rfl
def f88os10 : List Out := []
theorem f88id10 : agreeO (ids 19) (rng 3) (old 0) f88os10 f88fr10 f88st10 f88os10 f88fr10 f88st10 = true := by kernel_rfl
theorem f88cd10 : codes2 f88st10 f88st10.next = codes1 [0, 1, 2] f88st10 f88st10 f88st10.next := by kernel_rfl
theorem f88r11 : ev Try.prog (env.symL f88n15 [] [] []) 3000 (.code f88b16 none f88fr8 f88st8 (retK (env.symL f88n15 [] [] []) Try.f101 (endLoopK 5 (mkFr Try.f88 [(6, (pt 1 0)), (7, (pt 2 0))] [4]) (stopO .normal [sy 0, sy 1, sy 2, sy 3, sy 4, sy 5, sy 6, sy 7, sy 8, sy 9, sy 10, sy 11, sy 12, sy 13, sy 14, sy 15, sy 16, sy 19, sy 20] [1, 2, 4] [] f88os10 f88fr10 f88st10 [])))) = some (codes2 f88st10 f88st10.next) := by kernel_rfl
theorem f88r12 : ev Try.prog (env.symL [] [] [] []) 3000 (.code f88b6 none f88fr10 f88st10 (retK (env.symL [] [] [] []) Try.f88 (endV (ag 17 2)))) = some () := by kernel_rfl
def f88fr11 : Fr := mkFr Try.f88 [(6, (pt 0 0)), (7, (pt 1 0))] [2]
def f88st11 : St := mkSt 3 [(0, (.cells [(iV 0), (iV 0)] 23 .none .false)), (1, (.cells [(sy 17), (sy 18)] 23 .none .false)), (2, .mark)]
theorem f88wf11 : f88st11.Wf := mkSt_wf rfl
def f88os11 : List Out := []
theorem f88id11 : agreeO (ids 19) (rng 3) (old 0) f88os11 f88fr11 f88st11 f88os11 f88fr11 f88st11 = true := by kernel_rfl
theorem f88cd11 : codes2 f88st11 f88st11.next = codes1 [0, 1, 2] f88st11 f88st11 f88st11.next := by kernel_rfl
theorem f88r13 : ev Try.prog (env.symL f88n16 [] [] []) 3000 (.code f88b16 none f88fr8 f88st8 (retK (env.symL f88n16 [] [] []) Try.f101 (endLoopK 5 (mkFr Try.f88 [(6, (pt 1 0)), (7, (pt 2 0))] [4]) (stopO .normal [sy 0, sy 1, sy 2, sy 3, sy 4, sy 5, sy 6, sy 7, sy 8, sy 9, sy 10, sy 11, sy 12, sy 13, sy 14, sy 15, sy 16, sy 19, sy 20] [1, 2, 4] [] f88os11 f88fr11 f88st11 [])))) = some (codes2 f88st11 f88st11.next) := by kernel_rfl
theorem f88r14 : ev Try.prog (env.symL [] [] [] []) 3000 (.code f88b6 none f88fr11 f88st11 (retK (env.symL [] [] [] []) Try.f88 (endV (ag 17 2)))) = some () := by kernel_rfl
set_option maxHeartbeats 8000000 in
set_option maxRecDepth 100000 in
theorem possible_any (x0 : Int) (x1 : Int) (x2 : Int) (x3 : Int) (x4 : Int) (x5 : Int) (x6 : Int) (x7 : Int) (ast : Option Addr) (st : List Int) (qst : Nat) (aso : Option Addr) (so : List Src) (qso : Nat) (most : Int) (s : Src) (ap : Option Addr) (p : List Pk) (qp : Nat) (w0 : World) {tst : TypeId} (Hst : Lies w0 tst (flat intC st) ast st.length) {tso : TypeId} (Hso : Lies w0 tso (flat srcC so) aso so.length) {tp : TypeId} (Hp : Lies w0 tp (flat pkC p) ap p.length) (v : ModOk x0 x1 x2 x3 x4 x5 x6 x7) (hcell : 0 ≤ s.cell ∧ s.cell < x0 * x1) (hcls : 1 ≤ s.cls ∧ s.cls ≤ 10) (hs : StOk x0 x1 st) (hpk : PksOk st.length p) (hst : st.length < 1000000) (hpn : p.length ≤ 64) (hts : 0 ≤ s.lo ∧ s.lo ≤ s.hi ∧ s.hi ≤ 1000000000) : Calls Try.prog 88 #[(.agg #[(iV x0), (iV x1), (iV x2), (iV x3), (iV x4), (iV x5), (iV x6), (iV x7), (.slice ast st.length qst), (.slice aso so.length qso), (iV most)]), (.agg #[(iV s.kind), (iV s.cell), (iV s.cls), (iV s.lo), (iV s.hi)]), (.slice ap p.length qp)] w0 (fun en w' => en = .returned (.agg #[iV (posZ s.lo s.hi most (allowL x0 x1 x2 x3 x4 x5 x6 x7 s.cell s.cls st p)).1, iV (posZ s.lo s.hi most (allowL x0 x1 x2 x3 x4 x5 x6 x7 s.cell s.cls st p)).2]) ∧ Below w0.heap.size w0 w') := by
  have v0m := v
  obtain ⟨v0, v1, v2, v3, v5, v7⟩ := v
  have hx := mul_bd (a := x0) (b := x1) (A := 24) (B := 24) (C := 576) (by omega) (by omega) (by omega) (by omega)
  have hAl := allowL_ok (cls := s.cls) v0m hcell hs hpk
  have hAn : (allowL x0 x1 x2 x3 x4 x5 x6 x7 s.cell s.cls st p).length = p.length := by simp [allowL]
  have hT := turnsL_ok (t0 := s.lo) (t1 := s.hi) (l := allowL x0 x1 x2 x3 x4 x5 x6 x7 s.cell s.cls st p) hts
  have hTl := turnsL_len s.lo s.hi (allowL x0 x1 x2 x3 x4 x5 x6 x7 s.cell s.cls st p)
  let vb : List Value := [(iV x0), (iV x1), (iV x2), (iV x3), (iV x4), (iV x5), (iV x6), (iV x7), (.slice ast st.length qst), (.slice aso so.length qso), (iV most), (iV s.kind), (iV s.cell), (iV s.cls), (iV s.lo), (iV s.hi), (.slice ap p.length qp)]
  refine @calls_of_body (RO w0 vb []) Try.prog env (@env_ok (RO w0 vb [])) 88 Try.f88 f88b0 [(ag 0 11), (ag 11 5), (sy 16)] w0 _ (by kernel_rfl) (by kernel_rfl) (of_decide_eq_true (by kernel_rfl)) (of_decide_eq_true (by kernel_rfl)) rfl (fun _ _ h => h) (fun a hat0 => ?_)
  have hat : @AtO (RO w0 vb []) w0 f88os0 [] f88fr0 f88st0 a w0 := AtO.shift (σ := (ids 17)) (π := []) (τ := []) (SubOk.om rfl rfl) trivial (fun _ _ h => h) f88wf0 f88a0 rfl (@At.toO (RO w0 vb []) _ _ _ _ _ hat0)
  clear hat0
  suffices key : ∀ w, @AtO (RO w0 vb []) w0 f88os0 [] f88fr0 f88st0 a w → f88b0.wpIn (FF none) 0 Try.prog (bodyPostM Fence.wide 0 Try.prog Try.f88 (fun en w' => en = .returned (.agg #[iV (posZ s.lo s.hi most (allowL x0 x1 x2 x3 x4 x5 x6 x7 s.cell s.cls st p)).1, iV (posZ s.lo s.hi most (allowL x0 x1 x2 x3 x4 x5 x6 x7 s.cell s.cls st p)).2]) ∧ Below w0.heap.size w0 w')) a w from key w0 hat
  clear hat
  intro w hat
  let p0 : Rho := (RO w0 vb [])
  change @AtO p0 w0 f88os0 [] f88fr0 f88st0 a w at hat
  refine g_seq f88q0 ?_
  let r0 : Rho := (RO w0 vb [])
  have hat1 : @AtO r0 w0 f88os0 [] f88fr0 f88st0 a w := AtO.shift (ρ1 := p0) (ρ2 := r0) (σ := (ids 17)) (π := (rng 0)) (τ := (old 0)) (SubOk.om rfl rfl) trivial (fun _ _ h => h) f88wf0 f88id0 f88cd0 hat
  let p1 : Rho := (RO w0 vb [])
  refine AtO.piece (ρ1 := r0) (ρ2 := p1) (@Env.Ok.symL r0 _ _ (@env_ok r0) [] [] [] [] trivial trivial trivial trivial) f88r0 (SubOk.om rfl rfl) trivial (fun _ _ h => h) f88wf0 f88wf1 hat1 (fun a w hat => .inl ⟨rfl, ?_⟩)
  refine g_seq f88q1 ?_
  let r1 : Rho := (RO w0 vb [])
  have hat1 : @AtO r1 w0 f88os1 [] f88fr1 f88st1 a w := AtO.shift (ρ1 := p1) (ρ2 := r1) (σ := (ids 17)) (π := (rng 3)) (τ := (old 0)) (SubOk.om rfl rfl) trivial (fun _ _ h => h) f88wf1 f88id1 f88cd1 hat
  let p2 : Rho := (RO w0 vb [])
  refine AtO.piece (ρ1 := r1) (ρ2 := p2) (@Env.Ok.symL r1 _ _ (@env_ok r1) [] [] [] [] trivial trivial trivial trivial) f88r1 (SubOk.om rfl rfl) trivial (fun _ _ h => h) f88wf1 f88wf2 hat1 (fun a w hat => .inl ⟨rfl, ?_⟩)
  refine g_seq f88q2 ?_
  refine g_seq f88q3 ?_
  let r2 : Rho := (RO w0 (vb ++ [(iV ((((allowL x0 x1 x2 x3 x4 x5 x6 x7 s.cell s.cls st p).length : Nat) : Int)))]) [(flat spC (allowL x0 x1 x2 x3 x4 x5 x6 x7 s.cell s.cls st p))])
  have hat1 : @AtO r2 w0 f88os2 [] f88fr2 f88st2 a w := AtO.shift (ρ1 := p2) (ρ2 := r2) (σ := (ids 17)) (π := (rng 4)) (τ := (old 0)) (SubOk.om rfl rfl) trivial (fun _ _ h => h) f88wf2 f88id2 f88cd2 hat
  let p3 : Rho := (RO w0 (vb ++ [(iV ((((allowL x0 x1 x2 x3 x4 x5 x6 x7 s.cell s.cls st p).length : Nat) : Int)))]) [(flat spC (allowL x0 x1 x2 x3 x4 x5 x6 x7 s.cell s.cls st p))])
  refine AtO.piece (ρ1 := r2) (ρ2 := p3) (@Env.Ok.symL r2 _ _ (@env_ok r2) [] [] [] f88n0 trivial trivial trivial ⟨(@CLEntOk.lists r2 Try.prog _ 76 [(ag 0 11), (ag 11 5), (sy 16)] [] 4 0 23 2 17 (allowL x0 x1 x2 x3 x4 x5 x6 x7 s.cell s.cls st p).length (ls 4 17) none rfl ⟨Try.f76, (Try.f76.body).getD .skip, by kernel_rfl, by kernel_rfl⟩ rfl rfl (fun w asg hm hl => allowed_any x0 x1 x2 x3 x4 x5 x6 x7 ast st qst aso so qso most s ap p qp w (Hst.keep hm) (Hso.keep hm) (Hp.keep hm) v0m hcell hcls hs hpk (by omega) (by omega))), trivial⟩) f88r2 (SubOk.om rfl rfl) (LsubOk.om rfl) (fun _ _ h => h) f88wf2 f88wf3 hat1 (fun a w hat => .inl ⟨rfl, ?_⟩)
  refine g_block f88q4 ?_
  let p4 : Rho := (RO w0 (vb ++ [(iV ((((allowL x0 x1 x2 x3 x4 x5 x6 x7 s.cell s.cls st p).length : Nat) : Int)))]) [(flat spC (allowL x0 x1 x2 x3 x4 x5 x6 x7 s.cell s.cls st p))])
  refine AtO.rangeL (ρ1 := p3) (ρ2 := p4) (c' := f88b12) (@env_ok p3) f88q5 f88g5 (by kernel_rfl) (by kernel_rfl) (of_decide_eq_true (by kernel_rfl)) (of_decide_eq_true (by kernel_rfl)) f88r5x (SubOk.om rfl rfl) (LsubOk.om rfl) (fun _ _ h => h) f88wf3 f88wf4 hat (fun aO1 L1 a w hat => ?_)
  refine g_seq f88q6 ?_
  let r3 : Rho := (RO w0 (vb ++ [(iV ((((allowL x0 x1 x2 x3 x4 x5 x6 x7 s.cell s.cls st p).length : Nat) : Int)))]) [(flat spC (allowL x0 x1 x2 x3 x4 x5 x6 x7 s.cell s.cls st p))])
  have hat1 : @AtO r3 w0 f88os4 [(aO1, L1)] f88fr4 f88st4 a w := AtO.shift (ρ1 := p4) (ρ2 := r3) (σ := (ids 18)) (π := (rng 8)) (τ := (old 1)) (SubOk.om rfl rfl) (LsubOk.om rfl) (fun _ _ h => h) f88wf4 f88id4 f88cd4 hat
  let p5 : Rho := (RO w0 (vb ++ [(iV ((((allowL x0 x1 x2 x3 x4 x5 x6 x7 s.cell s.cls st p).length : Nat) : Int)))]) [(flat spC (allowL x0 x1 x2 x3 x4 x5 x6 x7 s.cell s.cls st p))])
  refine AtO.piece (ρ1 := r3) (ρ2 := p5) (@Env.Ok.symL r3 _ _ (@env_ok r3) [] [] [] [] trivial trivial trivial trivial) f88r3 (SubOk.om rfl rfl) (LsubOk.om rfl) (fun _ _ h => h) f88wf4 f88wf5 hat1 (fun a w hat => .inl ⟨rfl, ?_⟩)
  refine g_seq f88q7 ?_
  refine g_seq f88q8 ?_
  let r4 : Rho := (RO w0 (vb ++ [(iV ((((allowL x0 x1 x2 x3 x4 x5 x6 x7 s.cell s.cls st p).length : Nat) : Int))), (iV ((((turnsL s.lo s.hi (allowL x0 x1 x2 x3 x4 x5 x6 x7 s.cell s.cls st p)).length : Nat) : Int)))]) [(flat spC (allowL x0 x1 x2 x3 x4 x5 x6 x7 s.cell s.cls st p)), (flat tnC (turnsL s.lo s.hi (allowL x0 x1 x2 x3 x4 x5 x6 x7 s.cell s.cls st p)))])
  have hat1 : @AtO r4 w0 f88os5 [(aO1, L1)] f88fr5 f88st5 a w := AtO.shift (ρ1 := p5) (ρ2 := r4) (σ := (ids 18)) (π := (rng 8)) (τ := (old 1)) (SubOk.om rfl rfl) (LsubOk.om rfl) (fun _ _ h => h) f88wf5 f88id5 f88cd5 hat
  let p6 : Rho := (RO w0 (vb ++ [(iV ((((allowL x0 x1 x2 x3 x4 x5 x6 x7 s.cell s.cls st p).length : Nat) : Int))), (iV ((((turnsL s.lo s.hi (allowL x0 x1 x2 x3 x4 x5 x6 x7 s.cell s.cls st p)).length : Nat) : Int)))]) [(flat tnC (turnsL s.lo s.hi (allowL x0 x1 x2 x3 x4 x5 x6 x7 s.cell s.cls st p)))])
  refine AtO.piece (ρ1 := r4) (ρ2 := p6) (@Env.Ok.symL r4 _ _ (@env_ok r4) [] [] [] f88n1 trivial trivial trivial ⟨(@CLEntOk.lists r4 Try.prog _ 102 [(ag 14 2), (ls 3 17)] [(3, .lst 0 23 2)] 8 1 158 2 18 (turnsL s.lo s.hi (allowL x0 x1 x2 x3 x4 x5 x6 x7 s.cell s.cls st p)).length (ls 8 18) none rfl ⟨Try.f102, (Try.f102.body).getD .skip, by kernel_rfl, by kernel_rfl⟩ rfl rfl (fun w asg hm hl => turns_any s.lo s.hi (asg 1).1 (allowL x0 x1 x2 x3 x4 x5 x6 x7 s.cell s.cls st p) (asg 1).2 w (hl.2.1) (by omega) (by omega) hAl)), trivial⟩) f88r4 (SubOk.om rfl rfl) (LsubOk.om rfl) (fun _ _ h => h) f88wf5 f88wf6 hat1 (fun a w hat => .inl ⟨rfl, ?_⟩)
  refine g_block f88q9 ?_
  have hat0 := AtO.shift (ρ1 := p6) (ρ2 := (RO w0 (vb ++ [(iV ((((allowL x0 x1 x2 x3 x4 x5 x6 x7 s.cell s.cls st p).length : Nat) : Int))), (iV ((((turnsL s.lo s.hi (allowL x0 x1 x2 x3 x4 x5 x6 x7 s.cell s.cls st p)).length : Nat) : Int))), (iV ((s.lo : Int))), (iV (((((allowL x0 x1 x2 x3 x4 x5 x6 x7 s.cell s.cls st p).length : Nat) : Int) : Int))), (iV ((0 : Int))), (iV ((1099511627776 : Int))), (iV ((0 : Int)))]) [(flat tnC (turnsL s.lo s.hi (allowL x0 x1 x2 x3 x4 x5 x6 x7 s.cell s.cls st p)))])) (σ := (ids 19 ++ [(sy 14), (sy 17), (iV 0), (iV 1099511627776), (iV 0)])) (π := [0, 1, 2, 3, 4, 5, 6]) (τ := [some 0]) ⟨rfl, rfl, rfl, rfl, rfl, rfl, rfl, rfl, rfl, rfl, rfl, rfl, rfl, rfl, rfl, rfl, rfl, rfl, rfl, rfl, rfl, rfl, rfl, rfl, rfl, rfl, rfl, rfl, rfl, rfl, rfl, rfl, rfl, rfl, rfl, rfl, rfl, rfl, rfl, rfl, rfl, rfl, rfl, rfl, rfl, rfl, rfl, rfl, trivial⟩ ⟨rfl, trivial⟩ (fun _ _ h => h) f88wf7 f88h11 f88hc11 hat
  clear hat
  refine g_loop (fun (x : Int × Int × Int × Int × Int) a w => (0 ≤ (x.2.2.1 : Int) ∧ (x.2.2.1 : Int) ≤ (turnsL s.lo s.hi (allowL x0 x1 x2 x3 x4 x5 x6 x7 s.cell s.cls st p)).length ∧ (-4000000000000 ≤ (x.1 : Int) ∧ (x.1 : Int) ≤ 4000000000000) ∧ (-(x.2.2.1 : Int) ≤ (x.2.1 : Int) ∧ (x.2.1 : Int) ≤ p.length + (x.2.2.1 : Int)) ∧ (-4000000000000 ≤ (x.2.2.2.1 : Int) ∧ (x.2.2.2.1 : Int) ≤ 4000000000000) ∧ posF s.hi most (x.1 : Int) (x.2.1 : Int) ((x.2.2.2.1 : Int), (x.2.2.2.2 : Int)) ((turnsL s.lo s.hi (allowL x0 x1 x2 x3 x4 x5 x6 x7 s.cell s.cls st p)).drop (x.2.2.1 : Int).toNat) = posZ s.lo s.hi most (allowL x0 x1 x2 x3 x4 x5 x6 x7 s.cell s.cls st p)) ∧ @AtO (RO w0 (vb ++ [(iV ((((allowL x0 x1 x2 x3 x4 x5 x6 x7 s.cell s.cls st p).length : Nat) : Int))), (iV ((((turnsL s.lo s.hi (allowL x0 x1 x2 x3 x4 x5 x6 x7 s.cell s.cls st p)).length : Nat) : Int))), (iV ((x.1 : Int))), (iV ((x.2.1 : Int))), (iV ((x.2.2.1 : Int))), (iV ((x.2.2.2.1 : Int))), (iV ((x.2.2.2.2 : Int)))]) [(flat tnC (turnsL s.lo s.hi (allowL x0 x1 x2 x3 x4 x5 x6 x7 s.cell s.cls st p)))]) w0 f88os7 [(aO1, L1)] f88fr7 f88st7 a w) (fun x => ((turnsL s.lo s.hi (allowL x0 x1 x2 x3 x4 x5 x6 x7 s.cell s.cls st p)).length - (x.2.2.1 : Int)).toNat) f88q10 ?_ (s.lo, (((allowL x0 x1 x2 x3 x4 x5 x6 x7 s.cell s.cls st p).length : Nat) : Int), 0, 1099511627776, 0) ⟨?_, hat0⟩
  · clear hat0
    rintro ⟨start, wrong, i, plo, phi⟩ a w ⟨hinv, hat⟩
    change 0 ≤ i ∧ i ≤ (turnsL s.lo s.hi (allowL x0 x1 x2 x3 x4 x5 x6 x7 s.cell s.cls st p)).length ∧ (-4000000000000 ≤ start ∧ start ≤ 4000000000000) ∧ (-i ≤ wrong ∧ wrong ≤ p.length + i) ∧ (-4000000000000 ≤ plo ∧ plo ≤ 4000000000000) ∧ posF s.hi most start wrong (plo, phi) ((turnsL s.lo s.hi (allowL x0 x1 x2 x3 x4 x5 x6 x7 s.cell s.cls st p)).drop i.toNat) = posZ s.lo s.hi most (allowL x0 x1 x2 x3 x4 x5 x6 x7 s.cell s.cls st p) at hinv
    let p7 : Rho := (RO w0 (vb ++ [(iV ((((allowL x0 x1 x2 x3 x4 x5 x6 x7 s.cell s.cls st p).length : Nat) : Int))), (iV ((((turnsL s.lo s.hi (allowL x0 x1 x2 x3 x4 x5 x6 x7 s.cell s.cls st p)).length : Nat) : Int))), (iV start), (iV wrong), (iV i), (iV plo), (iV phi)]) [(flat tnC (turnsL s.lo s.hi (allowL x0 x1 x2 x3 x4 x5 x6 x7 s.cell s.cls st p)))])
    change @AtO p7 w0 f88os7 [(aO1, L1)] f88fr7 f88st7 a w at hat
    obtain ⟨i0, i1, i2, i3, i4, i5⟩ := hinv
    by_cases c0 : i < (((turnsL s.lo s.hi (allowL x0 x1 x2 x3 x4 x5 x6 x7 s.cell s.cls st p)).length : Nat) : Int)
    · obtain ⟨z1, hz1⟩ : ∃ z : Tn, z = (turnsL s.lo s.hi (allowL x0 x1 x2 x3 x4 x5 x6 x7 s.cell s.cls st p)).getD (i).toNat tnD := ⟨_, rfl⟩
      have ez1 := hT (i).toNat (by omega)
      rw [← hz1] at ez1
      by_cases c2 : z1.time > start
      · have K13 := kSub w0 (z1.time) (1) (by omega)
        by_cases c3 : wrong ≤ most
        · have K14 : KA w0 (.bi 3 [3, 3]) [(iV plo), (iV start)] (iV ((min plo start))) := fun w hm => k_min
          have K15 := kAdd w0 (wrong) (z1.more) (by omega)
          have K16 := kAdd w0 (i) (1) (by omega)
          let r5 : Rho := (RO w0 (vb ++ [(iV ((((allowL x0 x1 x2 x3 x4 x5 x6 x7 s.cell s.cls st p).length : Nat) : Int))), (iV ((((turnsL s.lo s.hi (allowL x0 x1 x2 x3 x4 x5 x6 x7 s.cell s.cls st p)).length : Nat) : Int))), (iV start), (iV wrong), (iV i), (iV plo), (iV phi), (iV ((((i).toNat * 2 : Nat) : Int))), (iV z1.time), (iV z1.more), (iV ((z1.time - 1))), (iV ((min plo start))), (iV ((wrong + z1.more))), (iV ((i + 1)))]) [(flat tnC (turnsL s.lo s.hi (allowL x0 x1 x2 x3 x4 x5 x6 x7 s.cell s.cls st p)))])
          have hat1 : @AtO r5 w0 f88os7 [(aO1, L1)] f88fr7 f88st7 a w := AtO.shift (ρ1 := p7) (ρ2 := r5) (σ := (ids 24)) (π := (rng 7)) (τ := (old 1)) (SubOk.om rfl rfl) (LsubOk.om rfl) (fun _ _ h => h) f88wf7 f88id7 f88cd7 hat
          refine AtO.piece (ρ1 := r5) (ρ2 := (RO w0 (vb ++ [(iV ((((allowL x0 x1 x2 x3 x4 x5 x6 x7 s.cell s.cls st p).length : Nat) : Int))), (iV ((((turnsL s.lo s.hi (allowL x0 x1 x2 x3 x4 x5 x6 x7 s.cell s.cls st p)).length : Nat) : Int))), (iV ((z1.time : Int))), (iV (((wrong + z1.more) : Int))), (iV (((i + 1) : Int))), (iV (((min plo start) : Int))), (iV (((z1.time - 1) : Int)))]) [(flat tnC (turnsL s.lo s.hi (allowL x0 x1 x2 x3 x4 x5 x6 x7 s.cell s.cls st p)))])) (@Env.Ok.symL r5 _ _ (@env_ok r5) f88n10 [] f88n8 [] ⟨enk K16, enk K15, enk K14, enk (kleqt c3), enk K13, enk (kgtrt c2), enk (klsst c0), trivial⟩ trivial ⟨⟨rfl, (i).toNat * 2, rfl, fun j hj => by have hj2 : j < 2 := hj; show (flat _ _)[_ + j]? = _; match j, hj2 with | 0, _ => exact flat_getz (c := tnC) (sz := 2) (fun _ => rfl) hz1 (by omega) 0 _ rfl | 1, _ => exact flat_getz (c := tnC) (sz := 2) (fun _ => rfl) hz1 (by omega) 1 _ rfl⟩, ⟨rfl, (turnsL s.lo s.hi (allowL x0 x1 x2 x3 x4 x5 x6 x7 s.cell s.cls st p)).length, (i).toNat, .i64, rfl, (by show (Value.int .i64 _) = Value.int .i64 _; congr 1; omega), (by omega), rfl⟩, trivial⟩ trivial) f88r5 ⟨rfl, rfl, rfl, rfl, rfl, rfl, rfl, rfl, rfl, rfl, rfl, rfl, rfl, rfl, rfl, rfl, rfl, rfl, rfl, rfl, rfl, rfl, rfl, rfl, rfl, rfl, rfl, rfl, rfl, rfl, rfl, rfl, rfl, rfl, rfl, rfl, rfl, rfl, rfl, rfl, rfl, rfl, rfl, rfl, rfl, rfl, rfl, rfl, trivial⟩ ⟨rfl, trivial⟩ (fun _ _ h => h) f88wf7 f88wf7 hat1 (fun a w hat => .inl ⟨rfl, ⟨(z1.time, (wrong + z1.more), (i + 1), (min plo start), (z1.time - 1)), ?_, ?_, hat⟩⟩)
          · show ((turnsL s.lo s.hi (allowL x0 x1 x2 x3 x4 x5 x6 x7 s.cell s.cls st p)).length - ((i + 1) : Int)).toNat < ((turnsL s.lo s.hi (allowL x0 x1 x2 x3 x4 x5 x6 x7 s.cell s.cls st p)).length - i).toNat
            omega
          · show 0 ≤ ((i + 1) : Int) ∧ ((i + 1) : Int) ≤ (turnsL s.lo s.hi (allowL x0 x1 x2 x3 x4 x5 x6 x7 s.cell s.cls st p)).length ∧ (-4000000000000 ≤ (z1.time : Int) ∧ (z1.time : Int) ≤ 4000000000000) ∧ (-((i + 1) : Int) ≤ ((wrong + z1.more) : Int) ∧ ((wrong + z1.more) : Int) ≤ p.length + ((i + 1) : Int)) ∧ (-4000000000000 ≤ ((min plo start) : Int) ∧ ((min plo start) : Int) ≤ 4000000000000) ∧ posF s.hi most (z1.time : Int) ((wrong + z1.more) : Int) (((min plo start) : Int), ((z1.time - 1) : Int)) ((turnsL s.lo s.hi (allowL x0 x1 x2 x3 x4 x5 x6 x7 s.cell s.cls st p)).drop ((i + 1) : Int).toNat) = posZ s.lo s.hi most (allowL x0 x1 x2 x3 x4 x5 x6 x7 s.cell s.cls st p)
            have e1 : (i + 1).toNat = i.toNat + 1 := by omega
            have st := posF_at (t1 := s.hi) (f := most) (start := start) (wrong := wrong) (p := (plo, phi)) (L := turnsL s.lo s.hi (allowL x0 x1 x2 x3 x4 x5 x6 x7 s.cell s.cls st p)) (i := i.toNat) (by omega)
            rw [← hz1] at st
            refine ⟨by omega, by omega, by omega, by omega, by omega, ?_⟩
            rw [e1, ← i5, st]
            first
              | (rw [if_pos (by omega)]; done)
              | (rw [if_neg (by omega)]; done)
        have K17 := kAdd w0 (wrong) (z1.more) (by omega)
        have K18 := kAdd w0 (i) (1) (by omega)
        let r6 : Rho := (RO w0 (vb ++ [(iV ((((allowL x0 x1 x2 x3 x4 x5 x6 x7 s.cell s.cls st p).length : Nat) : Int))), (iV ((((turnsL s.lo s.hi (allowL x0 x1 x2 x3 x4 x5 x6 x7 s.cell s.cls st p)).length : Nat) : Int))), (iV start), (iV wrong), (iV i), (iV plo), (iV phi), (iV ((((i).toNat * 2 : Nat) : Int))), (iV z1.time), (iV z1.more), (iV ((z1.time - 1))), (iV ((wrong + z1.more))), (iV ((i + 1)))]) [(flat tnC (turnsL s.lo s.hi (allowL x0 x1 x2 x3 x4 x5 x6 x7 s.cell s.cls st p)))])
        have hat1 : @AtO r6 w0 f88os7 [(aO1, L1)] f88fr7 f88st7 a w := AtO.shift (ρ1 := p7) (ρ2 := r6) (σ := (ids 24)) (π := (rng 7)) (τ := (old 1)) (SubOk.om rfl rfl) (LsubOk.om rfl) (fun _ _ h => h) f88wf7 f88id7 f88cd7 hat
        refine AtO.piece (ρ1 := r6) (ρ2 := (RO w0 (vb ++ [(iV ((((allowL x0 x1 x2 x3 x4 x5 x6 x7 s.cell s.cls st p).length : Nat) : Int))), (iV ((((turnsL s.lo s.hi (allowL x0 x1 x2 x3 x4 x5 x6 x7 s.cell s.cls st p)).length : Nat) : Int))), (iV ((z1.time : Int))), (iV (((wrong + z1.more) : Int))), (iV (((i + 1) : Int))), (iV ((plo : Int))), (iV ((phi : Int)))]) [(flat tnC (turnsL s.lo s.hi (allowL x0 x1 x2 x3 x4 x5 x6 x7 s.cell s.cls st p)))])) (@Env.Ok.symL r6 _ _ (@env_ok r6) f88n11 [] f88n8 [] ⟨enk K18, enk K17, enk (kleqf c3), enk K13, enk (kgtrt c2), enk (klsst c0), trivial⟩ trivial ⟨⟨rfl, (i).toNat * 2, rfl, fun j hj => by have hj2 : j < 2 := hj; show (flat _ _)[_ + j]? = _; match j, hj2 with | 0, _ => exact flat_getz (c := tnC) (sz := 2) (fun _ => rfl) hz1 (by omega) 0 _ rfl | 1, _ => exact flat_getz (c := tnC) (sz := 2) (fun _ => rfl) hz1 (by omega) 1 _ rfl⟩, ⟨rfl, (turnsL s.lo s.hi (allowL x0 x1 x2 x3 x4 x5 x6 x7 s.cell s.cls st p)).length, (i).toNat, .i64, rfl, (by show (Value.int .i64 _) = Value.int .i64 _; congr 1; omega), (by omega), rfl⟩, trivial⟩ trivial) f88r6 ⟨rfl, rfl, rfl, rfl, rfl, rfl, rfl, rfl, rfl, rfl, rfl, rfl, rfl, rfl, rfl, rfl, rfl, rfl, rfl, rfl, rfl, rfl, rfl, rfl, rfl, rfl, rfl, rfl, rfl, rfl, rfl, rfl, rfl, rfl, rfl, rfl, rfl, rfl, rfl, rfl, rfl, rfl, rfl, rfl, rfl, rfl, rfl, rfl, trivial⟩ ⟨rfl, trivial⟩ (fun _ _ h => h) f88wf7 f88wf7 hat1 (fun a w hat => .inl ⟨rfl, ⟨(z1.time, (wrong + z1.more), (i + 1), plo, phi), ?_, ?_, hat⟩⟩)
        · show ((turnsL s.lo s.hi (allowL x0 x1 x2 x3 x4 x5 x6 x7 s.cell s.cls st p)).length - ((i + 1) : Int)).toNat < ((turnsL s.lo s.hi (allowL x0 x1 x2 x3 x4 x5 x6 x7 s.cell s.cls st p)).length - i).toNat
          omega
        · show 0 ≤ ((i + 1) : Int) ∧ ((i + 1) : Int) ≤ (turnsL s.lo s.hi (allowL x0 x1 x2 x3 x4 x5 x6 x7 s.cell s.cls st p)).length ∧ (-4000000000000 ≤ (z1.time : Int) ∧ (z1.time : Int) ≤ 4000000000000) ∧ (-((i + 1) : Int) ≤ ((wrong + z1.more) : Int) ∧ ((wrong + z1.more) : Int) ≤ p.length + ((i + 1) : Int)) ∧ (-4000000000000 ≤ (plo : Int) ∧ (plo : Int) ≤ 4000000000000) ∧ posF s.hi most (z1.time : Int) ((wrong + z1.more) : Int) ((plo : Int), (phi : Int)) ((turnsL s.lo s.hi (allowL x0 x1 x2 x3 x4 x5 x6 x7 s.cell s.cls st p)).drop ((i + 1) : Int).toNat) = posZ s.lo s.hi most (allowL x0 x1 x2 x3 x4 x5 x6 x7 s.cell s.cls st p)
          have e1 : (i + 1).toNat = i.toNat + 1 := by omega
          have st := posF_at (t1 := s.hi) (f := most) (start := start) (wrong := wrong) (p := (plo, phi)) (L := turnsL s.lo s.hi (allowL x0 x1 x2 x3 x4 x5 x6 x7 s.cell s.cls st p)) (i := i.toNat) (by omega)
          rw [← hz1] at st
          refine ⟨by omega, by omega, by omega, by omega, by omega, ?_⟩
          rw [e1, ← i5, st]
          first
            | (rw [if_pos (by omega)]; done)
            | (rw [if_neg (by omega)]; done)
      have K19 := kAdd w0 (wrong) (z1.more) (by omega)
      have K20 := kAdd w0 (i) (1) (by omega)
      let r7 : Rho := (RO w0 (vb ++ [(iV ((((allowL x0 x1 x2 x3 x4 x5 x6 x7 s.cell s.cls st p).length : Nat) : Int))), (iV ((((turnsL s.lo s.hi (allowL x0 x1 x2 x3 x4 x5 x6 x7 s.cell s.cls st p)).length : Nat) : Int))), (iV start), (iV wrong), (iV i), (iV plo), (iV phi), (iV ((((i).toNat * 2 : Nat) : Int))), (iV z1.time), (iV z1.more), (iV ((wrong + z1.more))), (iV ((i + 1)))]) [(flat tnC (turnsL s.lo s.hi (allowL x0 x1 x2 x3 x4 x5 x6 x7 s.cell s.cls st p)))])
      have hat1 : @AtO r7 w0 f88os7 [(aO1, L1)] f88fr7 f88st7 a w := AtO.shift (ρ1 := p7) (ρ2 := r7) (σ := (ids 24)) (π := (rng 7)) (τ := (old 1)) (SubOk.om rfl rfl) (LsubOk.om rfl) (fun _ _ h => h) f88wf7 f88id7 f88cd7 hat
      refine AtO.piece (ρ1 := r7) (ρ2 := (RO w0 (vb ++ [(iV ((((allowL x0 x1 x2 x3 x4 x5 x6 x7 s.cell s.cls st p).length : Nat) : Int))), (iV ((((turnsL s.lo s.hi (allowL x0 x1 x2 x3 x4 x5 x6 x7 s.cell s.cls st p)).length : Nat) : Int))), (iV ((z1.time : Int))), (iV (((wrong + z1.more) : Int))), (iV (((i + 1) : Int))), (iV ((plo : Int))), (iV ((phi : Int)))]) [(flat tnC (turnsL s.lo s.hi (allowL x0 x1 x2 x3 x4 x5 x6 x7 s.cell s.cls st p)))])) (@Env.Ok.symL r7 _ _ (@env_ok r7) f88n12 [] f88n8 [] ⟨enk K20, enk K19, enk (kgtrf c2), enk (klsst c0), trivial⟩ trivial ⟨⟨rfl, (i).toNat * 2, rfl, fun j hj => by have hj2 : j < 2 := hj; show (flat _ _)[_ + j]? = _; match j, hj2 with | 0, _ => exact flat_getz (c := tnC) (sz := 2) (fun _ => rfl) hz1 (by omega) 0 _ rfl | 1, _ => exact flat_getz (c := tnC) (sz := 2) (fun _ => rfl) hz1 (by omega) 1 _ rfl⟩, ⟨rfl, (turnsL s.lo s.hi (allowL x0 x1 x2 x3 x4 x5 x6 x7 s.cell s.cls st p)).length, (i).toNat, .i64, rfl, (by show (Value.int .i64 _) = Value.int .i64 _; congr 1; omega), (by omega), rfl⟩, trivial⟩ trivial) f88r7 ⟨rfl, rfl, rfl, rfl, rfl, rfl, rfl, rfl, rfl, rfl, rfl, rfl, rfl, rfl, rfl, rfl, rfl, rfl, rfl, rfl, rfl, rfl, rfl, rfl, rfl, rfl, rfl, rfl, rfl, rfl, rfl, rfl, rfl, rfl, rfl, rfl, rfl, rfl, rfl, rfl, rfl, rfl, rfl, rfl, rfl, rfl, rfl, rfl, trivial⟩ ⟨rfl, trivial⟩ (fun _ _ h => h) f88wf7 f88wf7 hat1 (fun a w hat => .inl ⟨rfl, ⟨(z1.time, (wrong + z1.more), (i + 1), plo, phi), ?_, ?_, hat⟩⟩)
      · show ((turnsL s.lo s.hi (allowL x0 x1 x2 x3 x4 x5 x6 x7 s.cell s.cls st p)).length - ((i + 1) : Int)).toNat < ((turnsL s.lo s.hi (allowL x0 x1 x2 x3 x4 x5 x6 x7 s.cell s.cls st p)).length - i).toNat
        omega
      · show 0 ≤ ((i + 1) : Int) ∧ ((i + 1) : Int) ≤ (turnsL s.lo s.hi (allowL x0 x1 x2 x3 x4 x5 x6 x7 s.cell s.cls st p)).length ∧ (-4000000000000 ≤ (z1.time : Int) ∧ (z1.time : Int) ≤ 4000000000000) ∧ (-((i + 1) : Int) ≤ ((wrong + z1.more) : Int) ∧ ((wrong + z1.more) : Int) ≤ p.length + ((i + 1) : Int)) ∧ (-4000000000000 ≤ (plo : Int) ∧ (plo : Int) ≤ 4000000000000) ∧ posF s.hi most (z1.time : Int) ((wrong + z1.more) : Int) ((plo : Int), (phi : Int)) ((turnsL s.lo s.hi (allowL x0 x1 x2 x3 x4 x5 x6 x7 s.cell s.cls st p)).drop ((i + 1) : Int).toNat) = posZ s.lo s.hi most (allowL x0 x1 x2 x3 x4 x5 x6 x7 s.cell s.cls st p)
        have e1 : (i + 1).toNat = i.toNat + 1 := by omega
        have st := posF_at (t1 := s.hi) (f := most) (start := start) (wrong := wrong) (p := (plo, phi)) (L := turnsL s.lo s.hi (allowL x0 x1 x2 x3 x4 x5 x6 x7 s.cell s.cls st p)) (i := i.toNat) (by omega)
        rw [← hz1] at st
        refine ⟨by omega, by omega, by omega, by omega, by omega, ?_⟩
        rw [e1, ← i5, st]
        first
          | (rw [if_pos (by omega)]; done)
          | (rw [if_neg (by omega)]; done)
    let r8 : Rho := (RO w0 (vb ++ [(iV ((((allowL x0 x1 x2 x3 x4 x5 x6 x7 s.cell s.cls st p).length : Nat) : Int))), (iV ((((turnsL s.lo s.hi (allowL x0 x1 x2 x3 x4 x5 x6 x7 s.cell s.cls st p)).length : Nat) : Int))), (iV start), (iV wrong), (iV i), (iV plo), (iV phi)]) [(flat tnC (turnsL s.lo s.hi (allowL x0 x1 x2 x3 x4 x5 x6 x7 s.cell s.cls st p)))])
    have hat1 : @AtO r8 w0 f88os7 [(aO1, L1)] f88fr7 f88st7 a w := AtO.shift (ρ1 := p7) (ρ2 := r8) (σ := (ids 24)) (π := (rng 7)) (τ := (old 1)) (SubOk.om rfl rfl) (LsubOk.om rfl) (fun _ _ h => h) f88wf7 f88id7 f88cd7 hat
    let p8 : Rho := (RO w0 (vb ++ [(iV start), (iV wrong), (iV plo), (iV phi)]) [])
    refine AtO.piece (ρ1 := r8) (ρ2 := p8) (@Env.Ok.symL r8 _ _ (@env_ok r8) f88n13 [] [] [] ⟨enk (klssf c0), trivial⟩ trivial trivial trivial) f88r8 (SubOk.om rfl rfl) trivial (fun _ _ h => h) f88wf7 f88wf8 hat1 (fun a w hat => .inr ⟨.inl ⟨0, rfl⟩, .inl ⟨rfl, .inl ⟨rfl, ?_⟩⟩⟩)
    by_cases c4 : start ≤ s.hi
    · by_cases c5 : wrong ≤ most
      · have K21 : KA w0 (.bi 3 [3, 3]) [(iV plo), (iV start)] (iV ((min plo start))) := fun w hm => k_min
        let r9 : Rho := (RO w0 (vb ++ [(iV start), (iV wrong), (iV plo), (iV phi), (iV ((min plo start)))]) [])
        have hat1 : @AtO r9 w0 f88os8 [(aO1, L1)] f88fr8 f88st8 a w := AtO.shift (ρ1 := p8) (ρ2 := r9) (σ := (ids 21)) (π := (rng 6)) (τ := (old 0)) (SubOk.om rfl rfl) trivial (fun _ _ h => h) f88wf8 f88id8 f88cd8 hat
        let p9 : Rho := (RO w0 (vb ++ [(iV ((min plo start)))]) [])
        refine AtO.leaveL (o := ⟨(mkFr Try.f88 [(6, (pt 1 0)), (7, (pt 2 0))] [4]), 5⟩) (os := []) (ρ1 := r9) (ρ2 := p9) (@Env.Ok.symL r9 _ _ (@env_ok r9) f88n14 [] [] [] ⟨enk K21, enk (kleqt c5), enk (kleqt c4), trivial⟩ trivial trivial trivial) f88r9 (SubOk.om rfl rfl) trivial (fun _ _ h => h) f88wf8 f88wf9 hat1 (fun w hat => .inr ⟨(fun q => nomatch q), .inl ⟨rfl, ?_⟩⟩)
        generalize aO1 = a at hat ⊢
        let r10 : Rho := (RO w0 (vb ++ [(iV ((min plo start)))]) [])
        have hat1 : @AtO r10 w0 f88os9 [] f88fr9 f88st9 a w := AtO.shift (ρ1 := p9) (ρ2 := r10) (σ := (ids 18)) (π := (rng 3)) (τ := (old 0)) (SubOk.om rfl rfl) trivial (fun _ _ h => h) f88wf9 f88id9 f88cd9 hat
        refine @At.lastK r10 Try.prog (env.symL [] [] [] []) (@Env.Ok.symL r10 _ _ (@env_ok r10) [] [] [] [] trivial trivial trivial trivial) w0 3000 f88b6 Try.f88 f88fr9 f88st9 _ _ f88r10 f88wf9 a w (@AtO.at r10 _ _ _ _ _ _ _ hat1) (@endV_ok r10 w0 (.agg #[(sy 17), (sy 15)]) (fun en w' => en = .returned (.agg #[iV (posZ s.lo s.hi most (allowL x0 x1 x2 x3 x4 x5 x6 x7 s.cell s.cls st p)).1, iV (posZ s.lo s.hi most (allowL x0 x1 x2 x3 x4 x5 x6 x7 s.cell s.cls st p)).2]) ∧ Below w0.heap.size w0 w') rfl (fun w2 hb => ?_))
        have v0 : ((min plo start) : Int) = (posZ s.lo s.hi most (allowL x0 x1 x2 x3 x4 x5 x6 x7 s.cell s.cls st p)).1 := by
          have e1 : i.toNat = (turnsL s.lo s.hi (allowL x0 x1 x2 x3 x4 x5 x6 x7 s.cell s.cls st p)).length := by omega
          rw [← i5, e1, List.drop_length]
          unfold posF
          first
            | (rw [if_pos (by omega)]; done)
            | (rw [if_neg (by omega)]; done)
        have v1 : (s.hi : Int) = (posZ s.lo s.hi most (allowL x0 x1 x2 x3 x4 x5 x6 x7 s.cell s.cls st p)).2 := by
          have e1 : i.toNat = (turnsL s.lo s.hi (allowL x0 x1 x2 x3 x4 x5 x6 x7 s.cell s.cls st p)).length := by omega
          rw [← i5, e1, List.drop_length]
          unfold posF
          first
            | (rw [if_pos (by omega)]; done)
            | (rw [if_neg (by omega)]; done)
        have hv := congr (congrArg (fun (y0 : Int) (y1 : Int) => ((.agg #[(iV y0), (iV y1)]) : Value)) v0) v1
        exact ⟨congrArg Ending.returned hv, hb⟩
      let r11 : Rho := (RO w0 (vb ++ [(iV start), (iV wrong), (iV plo), (iV phi)]) [])
      have hat1 : @AtO r11 w0 f88os8 [(aO1, L1)] f88fr8 f88st8 a w := AtO.shift (ρ1 := p8) (ρ2 := r11) (σ := (ids 21)) (π := (rng 6)) (τ := (old 0)) (SubOk.om rfl rfl) trivial (fun _ _ h => h) f88wf8 f88id8 f88cd8 hat
      let p10 : Rho := (RO w0 (vb ++ [(iV plo), (iV phi)]) [])
      refine AtO.leaveL (o := ⟨(mkFr Try.f88 [(6, (pt 1 0)), (7, (pt 2 0))] [4]), 5⟩) (os := []) (ρ1 := r11) (ρ2 := p10) (@Env.Ok.symL r11 _ _ (@env_ok r11) f88n15 [] [] [] ⟨enk (kleqf c5), enk (kleqt c4), trivial⟩ trivial trivial trivial) f88r11 (SubOk.om rfl rfl) trivial (fun _ _ h => h) f88wf8 f88wf10 hat1 (fun w hat => .inr ⟨(fun q => nomatch q), .inl ⟨rfl, ?_⟩⟩)
      generalize aO1 = a at hat ⊢
      let r12 : Rho := (RO w0 (vb ++ [(iV plo), (iV phi)]) [])
      have hat1 : @AtO r12 w0 f88os10 [] f88fr10 f88st10 a w := AtO.shift (ρ1 := p10) (ρ2 := r12) (σ := (ids 19)) (π := (rng 3)) (τ := (old 0)) (SubOk.om rfl rfl) trivial (fun _ _ h => h) f88wf10 f88id10 f88cd10 hat
      refine @At.lastK r12 Try.prog (env.symL [] [] [] []) (@Env.Ok.symL r12 _ _ (@env_ok r12) [] [] [] [] trivial trivial trivial trivial) w0 3000 f88b6 Try.f88 f88fr10 f88st10 _ _ f88r12 f88wf10 a w (@AtO.at r12 _ _ _ _ _ _ _ hat1) (@endV_ok r12 w0 (ag 17 2) (fun en w' => en = .returned (.agg #[iV (posZ s.lo s.hi most (allowL x0 x1 x2 x3 x4 x5 x6 x7 s.cell s.cls st p)).1, iV (posZ s.lo s.hi most (allowL x0 x1 x2 x3 x4 x5 x6 x7 s.cell s.cls st p)).2]) ∧ Below w0.heap.size w0 w') rfl (fun w2 hb => ?_))
      have v0 : (plo : Int) = (posZ s.lo s.hi most (allowL x0 x1 x2 x3 x4 x5 x6 x7 s.cell s.cls st p)).1 := by
        have e1 : i.toNat = (turnsL s.lo s.hi (allowL x0 x1 x2 x3 x4 x5 x6 x7 s.cell s.cls st p)).length := by omega
        rw [← i5, e1, List.drop_length]
        unfold posF
        first
          | (rw [if_pos (by omega)]; done)
          | (rw [if_neg (by omega)]; done)
      have v1 : (phi : Int) = (posZ s.lo s.hi most (allowL x0 x1 x2 x3 x4 x5 x6 x7 s.cell s.cls st p)).2 := by
        have e1 : i.toNat = (turnsL s.lo s.hi (allowL x0 x1 x2 x3 x4 x5 x6 x7 s.cell s.cls st p)).length := by omega
        rw [← i5, e1, List.drop_length]
        unfold posF
        first
          | (rw [if_pos (by omega)]; done)
          | (rw [if_neg (by omega)]; done)
      have hv := congr (congrArg (fun (y0 : Int) (y1 : Int) => ((.agg #[(iV y0), (iV y1)]) : Value)) v0) v1
      exact ⟨congrArg Ending.returned hv, hb⟩
    let r13 : Rho := (RO w0 (vb ++ [(iV start), (iV wrong), (iV plo), (iV phi)]) [])
    have hat1 : @AtO r13 w0 f88os8 [(aO1, L1)] f88fr8 f88st8 a w := AtO.shift (ρ1 := p8) (ρ2 := r13) (σ := (ids 21)) (π := (rng 6)) (τ := (old 0)) (SubOk.om rfl rfl) trivial (fun _ _ h => h) f88wf8 f88id8 f88cd8 hat
    let p11 : Rho := (RO w0 (vb ++ [(iV plo), (iV phi)]) [])
    refine AtO.leaveL (o := ⟨(mkFr Try.f88 [(6, (pt 1 0)), (7, (pt 2 0))] [4]), 5⟩) (os := []) (ρ1 := r13) (ρ2 := p11) (@Env.Ok.symL r13 _ _ (@env_ok r13) f88n16 [] [] [] ⟨enk (kleqf c4), trivial⟩ trivial trivial trivial) f88r13 (SubOk.om rfl rfl) trivial (fun _ _ h => h) f88wf8 f88wf11 hat1 (fun w hat => .inr ⟨(fun q => nomatch q), .inl ⟨rfl, ?_⟩⟩)
    generalize aO1 = a at hat ⊢
    let r14 : Rho := (RO w0 (vb ++ [(iV plo), (iV phi)]) [])
    have hat1 : @AtO r14 w0 f88os11 [] f88fr11 f88st11 a w := AtO.shift (ρ1 := p11) (ρ2 := r14) (σ := (ids 19)) (π := (rng 3)) (τ := (old 0)) (SubOk.om rfl rfl) trivial (fun _ _ h => h) f88wf11 f88id11 f88cd11 hat
    refine @At.lastK r14 Try.prog (env.symL [] [] [] []) (@Env.Ok.symL r14 _ _ (@env_ok r14) [] [] [] [] trivial trivial trivial trivial) w0 3000 f88b6 Try.f88 f88fr11 f88st11 _ _ f88r14 f88wf11 a w (@AtO.at r14 _ _ _ _ _ _ _ hat1) (@endV_ok r14 w0 (ag 17 2) (fun en w' => en = .returned (.agg #[iV (posZ s.lo s.hi most (allowL x0 x1 x2 x3 x4 x5 x6 x7 s.cell s.cls st p)).1, iV (posZ s.lo s.hi most (allowL x0 x1 x2 x3 x4 x5 x6 x7 s.cell s.cls st p)).2]) ∧ Below w0.heap.size w0 w') rfl (fun w2 hb => ?_))
    have v0 : (plo : Int) = (posZ s.lo s.hi most (allowL x0 x1 x2 x3 x4 x5 x6 x7 s.cell s.cls st p)).1 := by
      have e1 : i.toNat = (turnsL s.lo s.hi (allowL x0 x1 x2 x3 x4 x5 x6 x7 s.cell s.cls st p)).length := by omega
      rw [← i5, e1, List.drop_length]
      unfold posF
      first
        | (rw [if_pos (by omega)]; done)
        | (rw [if_neg (by omega)]; done)
    have v1 : (phi : Int) = (posZ s.lo s.hi most (allowL x0 x1 x2 x3 x4 x5 x6 x7 s.cell s.cls st p)).2 := by
      have e1 : i.toNat = (turnsL s.lo s.hi (allowL x0 x1 x2 x3 x4 x5 x6 x7 s.cell s.cls st p)).length := by omega
      rw [← i5, e1, List.drop_length]
      unfold posF
      first
        | (rw [if_pos (by omega)]; done)
        | (rw [if_neg (by omega)]; done)
    have hv := congr (congrArg (fun (y0 : Int) (y1 : Int) => ((.agg #[(iV y0), (iV y1)]) : Value)) v0) v1
    exact ⟨congrArg Ending.returned hv, hb⟩
  · show 0 ≤ (0 : Int) ∧ (0 : Int) ≤ (turnsL s.lo s.hi (allowL x0 x1 x2 x3 x4 x5 x6 x7 s.cell s.cls st p)).length ∧ (-4000000000000 ≤ (s.lo : Int) ∧ (s.lo : Int) ≤ 4000000000000) ∧ (-(0 : Int) ≤ ((((allowL x0 x1 x2 x3 x4 x5 x6 x7 s.cell s.cls st p).length : Nat) : Int) : Int) ∧ ((((allowL x0 x1 x2 x3 x4 x5 x6 x7 s.cell s.cls st p).length : Nat) : Int) : Int) ≤ p.length + (0 : Int)) ∧ (-4000000000000 ≤ (1099511627776 : Int) ∧ (1099511627776 : Int) ≤ 4000000000000) ∧ posF s.hi most (s.lo : Int) ((((allowL x0 x1 x2 x3 x4 x5 x6 x7 s.cell s.cls st p).length : Nat) : Int) : Int) ((1099511627776 : Int), (0 : Int)) ((turnsL s.lo s.hi (allowL x0 x1 x2 x3 x4 x5 x6 x7 s.cell s.cls st p)).drop (0 : Int).toNat) = posZ s.lo s.hi most (allowL x0 x1 x2 x3 x4 x5 x6 x7 s.cell s.cls st p)
    exact ⟨by omega, by omega, by omega, by omega, by omega, by unfold posZ; rfl⟩
end
end Go.Proofs.Ytoaehigmpbhppaa.En
namespace Go.Proofs.Ytoaehigmpbhppaa.En
open Go Go.Ev Go.Proofs Go.RowKit
set_option maxRecDepth 1000000
noncomputable section
def f87b0 : Code := (Try.f87.body).getD .skip
def f87F0 : Fr := mkFr Try.f87 [(0, (ag 0 6)), (1, (sy 6))] []
def f87S1 : St := mkSt 0 []
theorem f87I2 : IdOk 7 0 0 f87F0 f87S1 := ⟨mkSt_wf rfl, by kernel_rfl⟩
def f87n3 : List LEnt := (.keq 0 1 true) :: []
def f87n4 : List Ent := cB .geq (sy 1) (iV 0) true :: aB .sub (sy 6) (iV 1) (sy 7) :: []
def f87n5 : List Ent := cB .leq (sy 1) (sy 7) true :: f87n4
def f87n6 : List Ent := cB .leq (sy 2) (sy 3) true :: f87n5
def f87n7 : List Ent := cB .geq (sy 2) (iV 0) true :: f87n6
def f87n8 : List Ent := cB .leq (sy 3) (iV 1000000000) true :: f87n7
def f87n9 : List Ent := cB .leq (sy 3) (iV 1000000000) false :: f87n7
def f87n10 : List Ent := cB .geq (sy 2) (iV 0) false :: f87n6
def f87n11 : List Ent := cB .leq (sy 2) (sy 3) false :: f87n5
def f87n12 : List Ent := cB .leq (sy 1) (sy 7) false :: f87n4
def f87n13 : List Ent := cB .geq (sy 1) (iV 0) false :: aB .sub (sy 6) (iV 1) (sy 7) :: []
def f87n14 : List LEnt := (.keq 0 2 true) :: (.keq 0 1 false) :: []
def f87n15 : List Ent := cB .leq (sy 4) (sy 5) true :: f87n5
def f87n16 : List Ent := ⟨(.bin .geq 3), [(sy 4), (iV (-10000))], (.bool true)⟩ :: f87n15
def f87n17 : List Ent := cB .leq (sy 5) (iV 10000) true :: f87n16
def f87n18 : List Ent := cB .leq (sy 5) (iV 10000) false :: f87n16
def f87n19 : List Ent := ⟨(.bin .geq 3), [(sy 4), (iV (-10000))], (.bool false)⟩ :: f87n15
def f87n20 : List Ent := cB .leq (sy 4) (sy 5) false :: f87n5
def f87n21 : List LEnt := (.keq 0 3 true) :: (.keq 0 2 false) :: (.keq 0 1 false) :: []
def f87n22 : List LEnt := (.keq 0 3 false) :: (.keq 0 2 false) :: (.keq 0 1 false) :: []
theorem f87a0 : agreeL (ids 7) [] [] f87F0 f87S1 (frameOf Try.f87 [(ag 0 6), (sy 6)]) Ev.start = true := by kernel_rfl
theorem f87r0 : lE f87n8 [] f87n3 [] f87b0 f87F0 f87S1 Try.f87 (endV (iV 0)) = some () := by kernel_rfl
theorem f87r1 : lE f87n9 [] f87n3 [] f87b0 f87F0 f87S1 Try.f87 (endV (iV 3)) = some () := by kernel_rfl
theorem f87r2 : lE f87n10 [] f87n3 [] f87b0 f87F0 f87S1 Try.f87 (endV (iV 3)) = some () := by kernel_rfl
theorem f87r3 : lE f87n11 [] f87n3 [] f87b0 f87F0 f87S1 Try.f87 (endV (iV 3)) = some () := by kernel_rfl
theorem f87r4 : lE f87n12 [] f87n3 [] f87b0 f87F0 f87S1 Try.f87 (endV (iV 4)) = some () := by kernel_rfl
theorem f87r5 : lE f87n13 [] f87n3 [] f87b0 f87F0 f87S1 Try.f87 (endV (iV 4)) = some () := by kernel_rfl
theorem f87r6 : lE f87n17 [] f87n14 [] f87b0 f87F0 f87S1 Try.f87 (endV (iV 0)) = some () := by kernel_rfl
theorem f87r7 : lE f87n18 [] f87n14 [] f87b0 f87F0 f87S1 Try.f87 (endV (iV 3)) = some () := by kernel_rfl
theorem f87r8 : lE f87n19 [] f87n14 [] f87b0 f87F0 f87S1 Try.f87 (endV (iV 3)) = some () := by kernel_rfl
theorem f87r9 : lE f87n20 [] f87n14 [] f87b0 f87F0 f87S1 Try.f87 (endV (iV 3)) = some () := by kernel_rfl
theorem f87r10 : lE f87n12 [] f87n14 [] f87b0 f87F0 f87S1 Try.f87 (endV (iV 4)) = some () := by kernel_rfl
theorem f87r11 : lE f87n13 [] f87n14 [] f87b0 f87F0 f87S1 Try.f87 (endV (iV 4)) = some () := by kernel_rfl
theorem f87r12 : lE f87n8 [] f87n21 [] f87b0 f87F0 f87S1 Try.f87 (endV (iV 0)) = some () := by kernel_rfl
theorem f87r13 : lE f87n9 [] f87n21 [] f87b0 f87F0 f87S1 Try.f87 (endV (iV 3)) = some () := by kernel_rfl
theorem f87r14 : lE f87n10 [] f87n21 [] f87b0 f87F0 f87S1 Try.f87 (endV (iV 3)) = some () := by kernel_rfl
theorem f87r15 : lE f87n11 [] f87n21 [] f87b0 f87F0 f87S1 Try.f87 (endV (iV 3)) = some () := by kernel_rfl
theorem f87r16 : lE f87n12 [] f87n21 [] f87b0 f87F0 f87S1 Try.f87 (endV (iV 4)) = some () := by kernel_rfl
theorem f87r17 : lE f87n13 [] f87n21 [] f87b0 f87F0 f87S1 Try.f87 (endV (iV 4)) = some () := by kernel_rfl
theorem f87r18 : lE [] [] f87n22 [] f87b0 f87F0 f87S1 Try.f87 (endV (iV 2)) = some () := by kernel_rfl
set_option maxHeartbeats 8000000 in
theorem checkPick_any (p : Pk) (n : Int) (w0 : World) (hn : 0 ≤ n ∧ n ≤ 1000000) : Calls Try.prog 87 #[(.agg #[(iV p.kind), (iV p.station), (iV p.t0), (iV p.t1), (iV p.l0), (iV p.l1)]), (iV n)] w0 (fun en w' => en = .returned (iV (pkErr n p)) ∧ Below w0.heap.size w0 w') := by
  let vb : List Value := [(iV p.kind), (iV p.station), (iV p.t0), (iV p.t1), (iV p.l0), (iV p.l1), (iV n)]
  let p0 : Rho := (RO w0 vb [])
  refine At.begin (ρ := p0) (c := f87b0) (@env_ok p0) f87I2 f87a0 (fun a w hat => ?_)
  by_cases c0 : p.kind = 1
  · have K0 := kSub w0 (n) (1) (by omega)
    by_cases c1 : p.station ≥ 0
    · by_cases c2 : p.station ≤ (n - 1)
      · by_cases c3 : p.t0 ≤ p.t1
        · by_cases c4 : p.t0 ≥ 0
          · by_cases c5 : p.t1 ≤ 1000000000
            · let r0 : Rho := (RO w0 (vb ++ [(iV ((n - 1)))]) [])
              refine At.lastsV (ρ1 := r0) f87r0 (@env_ok r0) ⟨enk (kleqt c5), enk (kgeqt c4), enk (kleqt c3), enk (kleqt c2), enk (kgeqt c1), enk K0, trivial⟩ trivial ⟨⟨_, rfl, beq_iff_eq.2 c0⟩, trivial⟩ trivial f87I2 hat (fun w2 hb => ?_)
              have v0 : (0 : Int) = pkErr n p := by
                unfold pkErr; repeat' split
                all_goals first | rfl | omega
              exact ret1 v0 hb
            let r1 : Rho := (RO w0 (vb ++ [(iV ((n - 1)))]) [])
            refine At.lastsV (ρ1 := r1) f87r1 (@env_ok r1) ⟨enk (kleqf c5), enk (kgeqt c4), enk (kleqt c3), enk (kleqt c2), enk (kgeqt c1), enk K0, trivial⟩ trivial ⟨⟨_, rfl, beq_iff_eq.2 c0⟩, trivial⟩ trivial f87I2 hat (fun w2 hb => ?_)
            have v0 : (3 : Int) = pkErr n p := by
              unfold pkErr; repeat' split
              all_goals first | rfl | omega
            exact ret1 v0 hb
          let r2 : Rho := (RO w0 (vb ++ [(iV ((n - 1)))]) [])
          refine At.lastsV (ρ1 := r2) f87r2 (@env_ok r2) ⟨enk (kgeqf c4), enk (kleqt c3), enk (kleqt c2), enk (kgeqt c1), enk K0, trivial⟩ trivial ⟨⟨_, rfl, beq_iff_eq.2 c0⟩, trivial⟩ trivial f87I2 hat (fun w2 hb => ?_)
          have v0 : (3 : Int) = pkErr n p := by
            unfold pkErr; repeat' split
            all_goals first | rfl | omega
          exact ret1 v0 hb
        let r3 : Rho := (RO w0 (vb ++ [(iV ((n - 1)))]) [])
        refine At.lastsV (ρ1 := r3) f87r3 (@env_ok r3) ⟨enk (kleqf c3), enk (kleqt c2), enk (kgeqt c1), enk K0, trivial⟩ trivial ⟨⟨_, rfl, beq_iff_eq.2 c0⟩, trivial⟩ trivial f87I2 hat (fun w2 hb => ?_)
        have v0 : (3 : Int) = pkErr n p := by
          unfold pkErr; repeat' split
          all_goals first | rfl | omega
        exact ret1 v0 hb
      let r4 : Rho := (RO w0 (vb ++ [(iV ((n - 1)))]) [])
      refine At.lastsV (ρ1 := r4) f87r4 (@env_ok r4) ⟨enk (kleqf c2), enk (kgeqt c1), enk K0, trivial⟩ trivial ⟨⟨_, rfl, beq_iff_eq.2 c0⟩, trivial⟩ trivial f87I2 hat (fun w2 hb => ?_)
      have v0 : (4 : Int) = pkErr n p := by
        unfold pkErr; repeat' split
        all_goals first | rfl | omega
      exact ret1 v0 hb
    let r5 : Rho := (RO w0 (vb ++ [(iV ((n - 1)))]) [])
    refine At.lastsV (ρ1 := r5) f87r5 (@env_ok r5) ⟨enk (kgeqf c1), enk K0, trivial⟩ trivial ⟨⟨_, rfl, beq_iff_eq.2 c0⟩, trivial⟩ trivial f87I2 hat (fun w2 hb => ?_)
    have v0 : (4 : Int) = pkErr n p := by
      unfold pkErr; repeat' split
      all_goals first | rfl | omega
    exact ret1 v0 hb
  · by_cases c6 : p.kind = 2
    · have K1 := kSub w0 (n) (1) (by omega)
      by_cases c7 : p.station ≥ 0
      · by_cases c8 : p.station ≤ (n - 1)
        · by_cases c9 : p.l0 ≤ p.l1
          · by_cases c10 : p.l0 ≥ (-10000)
            · by_cases c11 : p.l1 ≤ 10000
              · let r6 : Rho := (RO w0 (vb ++ [(iV ((n - 1)))]) [])
                refine At.lastsV (ρ1 := r6) f87r6 (@env_ok r6) ⟨enk (kleqt c11), enk (kgeqt c10), enk (kleqt c9), enk (kleqt c8), enk (kgeqt c7), enk K1, trivial⟩ trivial ⟨⟨_, rfl, beq_iff_eq.2 c6⟩, ⟨_, rfl, beq_eq_false_iff_ne.2 c0⟩, trivial⟩ trivial f87I2 hat (fun w2 hb => ?_)
                have v0 : (0 : Int) = pkErr n p := by
                  unfold pkErr; repeat' split
                  all_goals first | rfl | omega
                exact ret1 v0 hb
              let r7 : Rho := (RO w0 (vb ++ [(iV ((n - 1)))]) [])
              refine At.lastsV (ρ1 := r7) f87r7 (@env_ok r7) ⟨enk (kleqf c11), enk (kgeqt c10), enk (kleqt c9), enk (kleqt c8), enk (kgeqt c7), enk K1, trivial⟩ trivial ⟨⟨_, rfl, beq_iff_eq.2 c6⟩, ⟨_, rfl, beq_eq_false_iff_ne.2 c0⟩, trivial⟩ trivial f87I2 hat (fun w2 hb => ?_)
              have v0 : (3 : Int) = pkErr n p := by
                unfold pkErr; repeat' split
                all_goals first | rfl | omega
              exact ret1 v0 hb
            let r8 : Rho := (RO w0 (vb ++ [(iV ((n - 1)))]) [])
            refine At.lastsV (ρ1 := r8) f87r8 (@env_ok r8) ⟨enk (kgeqf c10), enk (kleqt c9), enk (kleqt c8), enk (kgeqt c7), enk K1, trivial⟩ trivial ⟨⟨_, rfl, beq_iff_eq.2 c6⟩, ⟨_, rfl, beq_eq_false_iff_ne.2 c0⟩, trivial⟩ trivial f87I2 hat (fun w2 hb => ?_)
            have v0 : (3 : Int) = pkErr n p := by
              unfold pkErr; repeat' split
              all_goals first | rfl | omega
            exact ret1 v0 hb
          let r9 : Rho := (RO w0 (vb ++ [(iV ((n - 1)))]) [])
          refine At.lastsV (ρ1 := r9) f87r9 (@env_ok r9) ⟨enk (kleqf c9), enk (kleqt c8), enk (kgeqt c7), enk K1, trivial⟩ trivial ⟨⟨_, rfl, beq_iff_eq.2 c6⟩, ⟨_, rfl, beq_eq_false_iff_ne.2 c0⟩, trivial⟩ trivial f87I2 hat (fun w2 hb => ?_)
          have v0 : (3 : Int) = pkErr n p := by
            unfold pkErr; repeat' split
            all_goals first | rfl | omega
          exact ret1 v0 hb
        let r10 : Rho := (RO w0 (vb ++ [(iV ((n - 1)))]) [])
        refine At.lastsV (ρ1 := r10) f87r10 (@env_ok r10) ⟨enk (kleqf c8), enk (kgeqt c7), enk K1, trivial⟩ trivial ⟨⟨_, rfl, beq_iff_eq.2 c6⟩, ⟨_, rfl, beq_eq_false_iff_ne.2 c0⟩, trivial⟩ trivial f87I2 hat (fun w2 hb => ?_)
        have v0 : (4 : Int) = pkErr n p := by
          unfold pkErr; repeat' split
          all_goals first | rfl | omega
        exact ret1 v0 hb
      let r11 : Rho := (RO w0 (vb ++ [(iV ((n - 1)))]) [])
      refine At.lastsV (ρ1 := r11) f87r11 (@env_ok r11) ⟨enk (kgeqf c7), enk K1, trivial⟩ trivial ⟨⟨_, rfl, beq_iff_eq.2 c6⟩, ⟨_, rfl, beq_eq_false_iff_ne.2 c0⟩, trivial⟩ trivial f87I2 hat (fun w2 hb => ?_)
      have v0 : (4 : Int) = pkErr n p := by
        unfold pkErr; repeat' split
        all_goals first | rfl | omega
      exact ret1 v0 hb
    · by_cases c12 : p.kind = 3
      · have K2 := kSub w0 (n) (1) (by omega)
        by_cases c13 : p.station ≥ 0
        · by_cases c14 : p.station ≤ (n - 1)
          · by_cases c15 : p.t0 ≤ p.t1
            · by_cases c16 : p.t0 ≥ 0
              · by_cases c17 : p.t1 ≤ 1000000000
                · let r12 : Rho := (RO w0 (vb ++ [(iV ((n - 1)))]) [])
                  refine At.lastsV (ρ1 := r12) f87r12 (@env_ok r12) ⟨enk (kleqt c17), enk (kgeqt c16), enk (kleqt c15), enk (kleqt c14), enk (kgeqt c13), enk K2, trivial⟩ trivial ⟨⟨_, rfl, beq_iff_eq.2 c12⟩, ⟨_, rfl, beq_eq_false_iff_ne.2 c6⟩, ⟨_, rfl, beq_eq_false_iff_ne.2 c0⟩, trivial⟩ trivial f87I2 hat (fun w2 hb => ?_)
                  have v0 : (0 : Int) = pkErr n p := by
                    unfold pkErr; repeat' split
                    all_goals first | rfl | omega
                  exact ret1 v0 hb
                let r13 : Rho := (RO w0 (vb ++ [(iV ((n - 1)))]) [])
                refine At.lastsV (ρ1 := r13) f87r13 (@env_ok r13) ⟨enk (kleqf c17), enk (kgeqt c16), enk (kleqt c15), enk (kleqt c14), enk (kgeqt c13), enk K2, trivial⟩ trivial ⟨⟨_, rfl, beq_iff_eq.2 c12⟩, ⟨_, rfl, beq_eq_false_iff_ne.2 c6⟩, ⟨_, rfl, beq_eq_false_iff_ne.2 c0⟩, trivial⟩ trivial f87I2 hat (fun w2 hb => ?_)
                have v0 : (3 : Int) = pkErr n p := by
                  unfold pkErr; repeat' split
                  all_goals first | rfl | omega
                exact ret1 v0 hb
              let r14 : Rho := (RO w0 (vb ++ [(iV ((n - 1)))]) [])
              refine At.lastsV (ρ1 := r14) f87r14 (@env_ok r14) ⟨enk (kgeqf c16), enk (kleqt c15), enk (kleqt c14), enk (kgeqt c13), enk K2, trivial⟩ trivial ⟨⟨_, rfl, beq_iff_eq.2 c12⟩, ⟨_, rfl, beq_eq_false_iff_ne.2 c6⟩, ⟨_, rfl, beq_eq_false_iff_ne.2 c0⟩, trivial⟩ trivial f87I2 hat (fun w2 hb => ?_)
              have v0 : (3 : Int) = pkErr n p := by
                unfold pkErr; repeat' split
                all_goals first | rfl | omega
              exact ret1 v0 hb
            let r15 : Rho := (RO w0 (vb ++ [(iV ((n - 1)))]) [])
            refine At.lastsV (ρ1 := r15) f87r15 (@env_ok r15) ⟨enk (kleqf c15), enk (kleqt c14), enk (kgeqt c13), enk K2, trivial⟩ trivial ⟨⟨_, rfl, beq_iff_eq.2 c12⟩, ⟨_, rfl, beq_eq_false_iff_ne.2 c6⟩, ⟨_, rfl, beq_eq_false_iff_ne.2 c0⟩, trivial⟩ trivial f87I2 hat (fun w2 hb => ?_)
            have v0 : (3 : Int) = pkErr n p := by
              unfold pkErr; repeat' split
              all_goals first | rfl | omega
            exact ret1 v0 hb
          let r16 : Rho := (RO w0 (vb ++ [(iV ((n - 1)))]) [])
          refine At.lastsV (ρ1 := r16) f87r16 (@env_ok r16) ⟨enk (kleqf c14), enk (kgeqt c13), enk K2, trivial⟩ trivial ⟨⟨_, rfl, beq_iff_eq.2 c12⟩, ⟨_, rfl, beq_eq_false_iff_ne.2 c6⟩, ⟨_, rfl, beq_eq_false_iff_ne.2 c0⟩, trivial⟩ trivial f87I2 hat (fun w2 hb => ?_)
          have v0 : (4 : Int) = pkErr n p := by
            unfold pkErr; repeat' split
            all_goals first | rfl | omega
          exact ret1 v0 hb
        let r17 : Rho := (RO w0 (vb ++ [(iV ((n - 1)))]) [])
        refine At.lastsV (ρ1 := r17) f87r17 (@env_ok r17) ⟨enk (kgeqf c13), enk K2, trivial⟩ trivial ⟨⟨_, rfl, beq_iff_eq.2 c12⟩, ⟨_, rfl, beq_eq_false_iff_ne.2 c6⟩, ⟨_, rfl, beq_eq_false_iff_ne.2 c0⟩, trivial⟩ trivial f87I2 hat (fun w2 hb => ?_)
        have v0 : (4 : Int) = pkErr n p := by
          unfold pkErr; repeat' split
          all_goals first | rfl | omega
        exact ret1 v0 hb
      · refine At.lastsV (ρ1 := p0) f87r18 (@env_ok p0) trivial trivial ⟨⟨_, rfl, beq_eq_false_iff_ne.2 c12⟩, ⟨_, rfl, beq_eq_false_iff_ne.2 c6⟩, ⟨_, rfl, beq_eq_false_iff_ne.2 c0⟩, trivial⟩ trivial f87I2 hat (fun w2 hb => ?_)
        have v0 : (2 : Int) = pkErr n p := by
          unfold pkErr; repeat' split
          all_goals first | rfl | omega
        exact ret1 v0 hb
def f64b0 : Code := (Try.f64.body).getD .skip
def f64F0 : Fr := mkFr Try.f64 [(0, (ag 0 11)), (1, (sy 11))] []
def f64S1 : St := mkSt 0 []
theorem f64I2 : IdOk 12 0 0 f64F0 f64S1 := ⟨mkSt_wf rfl, by kernel_rfl⟩
def f64F3 : Fr := mkFr Try.f64 [(1, (sy 11)), (2, (pt 0 0)), (4, (iV 0))] []
def f64S4 : St := mkSt 1 [(0, (.cells (ids 11) 111 .none .false))]
theorem f64I5 : IdOk 12 1 0 f64F3 f64S4 := ⟨mkSt_wf rfl, by kernel_rfl⟩
theorem f64f18 : FnIn env 18 := ⟨Try.f18, (Try.f18.body).getD .skip, by kernel_rfl, by kernel_rfl⟩
def f64n6 : List CEnt := ⟨18, [(ag 0 8)], [], (sy 12)⟩ :: []
def f64n7 : List Ent := ⟨(.bin .neq 27), [(sy 12), (iV 0)], (.bool true)⟩ :: []
def f64n8 : List Ent := ⟨(.bin .neq 27), [(sy 12), (iV 0)], (.bool false)⟩ :: []
def f64n9 : List Ent := cB .gtr (sy 12) (iV 64) true :: ⟨(.bi 0 [37]), [(sy 8)], (sy 12)⟩ :: []
def f64n10 : List Ent := cB .gtr (sy 12) (iV 64) false :: ⟨(.bi 0 [37]), [(sy 8)], (sy 12)⟩ :: []
def f64n11 : List Ent := ⟨(.bi 0 [37]), [(sy 8)], (sy 12)⟩ :: []
def f64F12 : Fr := mkFr Try.f64 [(1, (sy 11)), (2, (pt 0 0)), (4, (iV 0)), (23, (sy 8)), (24, (sy 12)), (25, (iV 0))] []
theorem f64I13 : IdOk 13 1 0 f64F12 f64S4 := ⟨mkSt_wf rfl, by kernel_rfl⟩
def f64n20 : List Ent := aB .sub (sy 16) (iV 1) (sy 17) :: aB .mul (sy 0) (sy 1) (sy 16) :: ⟨(.load 3), [(sy 14)], (sy 15)⟩ :: ⟨(.indexAddr 37), [(sy 8), (sy 13)], (sy 14)⟩ :: cB .lss (sy 13) (sy 12) true :: []
def f64n21 : List Ent := cB .geq (sy 15) (iV 0) true :: f64n20
def f64n22 : List Ent := aB .add (sy 13) (iV 1) (sy 18) :: cB .leq (sy 15) (sy 17) true :: f64n21
def f64n23 : List Ent := cB .leq (sy 15) (sy 17) false :: f64n21
def f64n24 : List Ent := cB .geq (sy 15) (iV 0) false :: f64n20
def f64n25 : List Ent := cB .lss (sy 13) (sy 12) false :: []
def f64F26 : Fr := mkFr Try.f64 [(1, (sy 11)), (2, (pt 0 0)), (4, (iV 0)), (23, (sy 8)), (24, (sy 12)), (25, (sy 13))] []
theorem f64I27 : IdOk 14 1 0 f64F26 f64S4 := ⟨mkSt_wf rfl, by kernel_rfl⟩
theorem f64f24 : FnIn env 24 := ⟨Try.f24, (Try.f24.body).getD .skip, by kernel_rfl, by kernel_rfl⟩
def f64n28 : List CEnt := ⟨24, [(ag 0 8), (sy 9)], [], (sy 12)⟩ :: []
def f64n29 : List Ent := cB .gtr (sy 12) (iV 64) true :: ⟨(.bi 0 [46]), [(sy 11)], (sy 12)⟩ :: []
def f64n30 : List Ent := cB .gtr (sy 12) (iV 64) false :: ⟨(.bi 0 [46]), [(sy 11)], (sy 12)⟩ :: []
def f64n31 : List Ent := ⟨(.bi 0 [46]), [(sy 11)], (sy 12)⟩ :: []
def f64F32 : Fr := mkFr Try.f64 [(2, (pt 0 0)), (4, (iV 0)), (46, (sy 11)), (47, (sy 12)), (48, (iV 0))] []
theorem f64I33 : IdOk 13 1 0 f64F32 f64S4 := ⟨mkSt_wf rfl, by kernel_rfl⟩
theorem f64f87 : FnIn env 87 := ⟨Try.f87, (Try.f87.body).getD .skip, by kernel_rfl, by kernel_rfl⟩
def f64n38 : List Ent := ⟨(.bi 0 [37]), [(sy 8)], (sy 21)⟩ :: ⟨(.load 84), [(sy 14)], (ag 15 6)⟩ :: ⟨(.indexAddr 46), [(sy 11), (sy 13)], (sy 14)⟩ :: cB .lss (sy 13) (sy 12) true :: []
def f64n39 : List CEnt := ⟨87, [(ag 15 6), (sy 21)], [], (sy 22)⟩ :: []
def f64n40 : List Ent := ⟨(.bin .neq 27), [(sy 22), (iV 0)], (.bool true)⟩ :: f64n38
def f64n41 : List Ent := aB .add (sy 13) (iV 1) (sy 23) :: ⟨(.bin .neq 27), [(sy 22), (iV 0)], (.bool false)⟩ :: f64n38
def f64F42 : Fr := mkFr Try.f64 [(2, (pt 0 0)), (4, (iV 0)), (46, (sy 11)), (47, (sy 12)), (48, (sy 13))] []
theorem f64I43 : IdOk 14 1 0 f64F42 f64S4 := ⟨mkSt_wf rfl, by kernel_rfl⟩
def f64F44 : Fr := mkFr Try.f64 [(2, (pt 0 0)), (4, (iV 0))] []
theorem f64I45 : IdOk 12 1 0 f64F44 f64S4 := ⟨mkSt_wf rfl, by kernel_rfl⟩
def f64n46 : List Ent := cB .leq (sy 10) (iV 8) true :: cB .geq (sy 10) (iV 0) true :: []
def f64n47 : List Ent := cB .leq (sy 10) (iV 8) false :: cB .geq (sy 10) (iV 0) true :: []
def f64n48 : List Ent := cB .geq (sy 10) (iV 0) false :: []
theorem f64a0 : agreeL (ids 12) [] [] f64F0 f64S1 (frameOf Try.f64 [(ag 0 11), (sy 11)]) Ev.start = true := by kernel_rfl
def f64b1 : Code := headC f64b0
def f64b2 : Code := tailC f64b0
theorem f64q0 : f64b0 = .seq f64b1 f64b2 := by kernel_rfl
theorem f64r0 : gE [] [] [] [] f64b1 f64F0 f64S1 .normal (ids 12) [0] [] f64F3 f64S4 = some () := by kernel_rfl
def f64b3 : Code := headC f64b2
def f64b4 : Code := tailC f64b2
theorem f64q1 : f64b2 = .seq f64b3 f64b4 := by kernel_rfl
theorem f64r1 : rE f64n7 f64n6 [] [] f64b3 f64F3 f64S4 Try.f64 (endV (sy 12)) = some () := by kernel_rfl
theorem f64r2 : gE f64n8 f64n6 [] [] f64b3 f64F3 f64S4 .normal (ids 12) [0] [] f64F3 f64S4 = some () := by kernel_rfl
def f64b5 : Code := headC f64b4
def f64b6 : Code := tailC f64b4
theorem f64q2 : f64b4 = .seq f64b5 f64b6 := by kernel_rfl
theorem f64r3 : rE f64n9 [] [] [] f64b5 f64F3 f64S4 Try.f64 (endV (iV 9)) = some () := by kernel_rfl
theorem f64r4 : gE f64n10 [] [] [] f64b5 f64F3 f64S4 .normal (ids 12) [0] [] f64F3 f64S4 = some () := by kernel_rfl
def f64b7 : Code := headC f64b6
def f64b8 : Code := tailC f64b6
theorem f64q3 : f64b6 = .seq f64b7 f64b8 := by kernel_rfl
def f64b9 : Code := headC f64b7
def f64b10 : Code := tailC f64b7
theorem f64q4 : f64b7 = .seq f64b9 f64b10 := by kernel_rfl
theorem f64r5 : gE f64n11 [] [] [] f64b9 f64F3 f64S4 .normal (ids 13) [0] [] f64F12 f64S4 = some () := by kernel_rfl
def f64b11 : Code := inBlockC f64b10
theorem f64q5 : f64b10 = .block 0 f64b11 := by kernel_rfl
def f64b12 : Code := inLoopC f64b11
theorem f64q6 : f64b11 = .loop f64b12 := by kernel_rfl
theorem f64h7 : agreeL (ids 13 ++ [(iV 0)]) [0] [] f64F26 f64S4 f64F12 f64S4 = true := by kernel_rfl
theorem f64r6 : gE f64n22 [] [] [] f64b12 f64F26 f64S4 .normal (pk 13 [18]) [0] [] f64F26 f64S4 = some () := by kernel_rfl
theorem f64r7 : rE f64n23 [] [] [] f64b12 f64F26 f64S4 Try.f64 (endV (iV 4)) = some () := by kernel_rfl
theorem f64r8 : rE f64n24 [] [] [] f64b12 f64F26 f64S4 Try.f64 (endV (iV 4)) = some () := by kernel_rfl
theorem f64r9 : gE f64n25 [] [] [] f64b12 f64F26 f64S4 (.exit 0) (ids 12) [0] [] f64F3 f64S4 = some () := by kernel_rfl
def f64b13 : Code := headC f64b8
def f64b14 : Code := tailC f64b8
theorem f64q8 : f64b8 = .seq f64b13 f64b14 := by kernel_rfl
theorem f64r10 : rE f64n7 f64n28 [] [] f64b13 f64F3 f64S4 Try.f64 (endV (sy 12)) = some () := by kernel_rfl
theorem f64r11 : gE f64n8 f64n28 [] [] f64b13 f64F3 f64S4 .normal (ids 12) [0] [] f64F3 f64S4 = some () := by kernel_rfl
def f64b15 : Code := headC f64b14
def f64b16 : Code := tailC f64b14
theorem f64q9 : f64b14 = .seq f64b15 f64b16 := by kernel_rfl
theorem f64r12 : rE f64n29 [] [] [] f64b15 f64F3 f64S4 Try.f64 (endV (iV 9)) = some () := by kernel_rfl
theorem f64r13 : gE f64n30 [] [] [] f64b15 f64F3 f64S4 .normal (ids 12) [0] [] f64F3 f64S4 = some () := by kernel_rfl
def f64b17 : Code := headC f64b16
def f64b18 : Code := tailC f64b16
theorem f64q10 : f64b16 = .seq f64b17 f64b18 := by kernel_rfl
def f64b19 : Code := headC f64b17
def f64b20 : Code := tailC f64b17
theorem f64q11 : f64b17 = .seq f64b19 f64b20 := by kernel_rfl
theorem f64r14 : gE f64n31 [] [] [] f64b19 f64F3 f64S4 .normal (ids 13) [0] [] f64F32 f64S4 = some () := by kernel_rfl
def f64b21 : Code := inBlockC f64b20
theorem f64q12 : f64b20 = .block 2 f64b21 := by kernel_rfl
def f64b22 : Code := inLoopC f64b21
theorem f64q13 : f64b21 = .loop f64b22 := by kernel_rfl
theorem f64h14 : agreeL (ids 13 ++ [(iV 0)]) [0] [] f64F42 f64S4 f64F32 f64S4 = true := by kernel_rfl
theorem f64r15 : rE f64n40 f64n39 [] [] f64b22 f64F42 f64S4 Try.f64 (endV (sy 22)) = some () := by kernel_rfl
theorem f64r16 : gE f64n41 f64n39 [] [] f64b22 f64F42 f64S4 .normal (pk 13 [23]) [0] [] f64F42 f64S4 = some () := by kernel_rfl
theorem f64r17 : gE f64n25 [] [] [] f64b22 f64F42 f64S4 (.exit 2) (ids 12) [0] [] f64F44 f64S4 = some () := by kernel_rfl
theorem f64r18 : lE f64n46 [] [] [] f64b18 f64F44 f64S4 Try.f64 (endV (iV 0)) = some () := by kernel_rfl
theorem f64r19 : lE f64n47 [] [] [] f64b18 f64F44 f64S4 Try.f64 (endV (iV 3)) = some () := by kernel_rfl
theorem f64r20 : lE f64n48 [] [] [] f64b18 f64F44 f64S4 Try.f64 (endV (iV 3)) = some () := by kernel_rfl
set_option maxHeartbeats 8000000 in
theorem check_any (x0 : Int) (x1 : Int) (x2 : Int) (x3 : Int) (x4 : Int) (x5 : Int) (x6 : Int) (x7 : Int) (ast : Option Addr) (st : List Int) (qst : Nat) (aso : Option Addr) (so : List Src) (qso : Nat) (most : Int) (ap : Option Addr) (p : List Pk) (qp : Nat) (w0 : World) {tst : TypeId} (Hst : Lies w0 tst (flat intC st) ast st.length) {tso : TypeId} (Hso : Lies w0 tso (flat srcC so) aso so.length) {tp : TypeId} (Hp : Lies w0 tp (flat pkC p) ap p.length) (hn1 : st.length < 1000000) (hn2 : so.length < 1000000) (hn3 : p.length < 1000000) : Calls Try.prog 64 #[(.agg #[(iV x0), (iV x1), (iV x2), (iV x3), (iV x4), (iV x5), (iV x6), (iV x7), (.slice ast st.length qst), (.slice aso so.length qso), (iV most)]), (.slice ap p.length qp)] w0 (fun en w' => en = .returned (iV (leftErr x0 x1 x2 x3 x4 x5 x6 x7 st so p most)) ∧ Below w0.heap.size w0 w') := by
  let vb : List Value := [(iV x0), (iV x1), (iV x2), (iV x3), (iV x4), (iV x5), (iV x6), (iV x7), (.slice ast st.length qst), (.slice aso so.length qso), (iV most), (.slice ap p.length qp)]
  let p0 : Rho := (RO w0 vb [])
  refine At.begin (ρ := p0) (c := f64b0) (@env_ok p0) f64I2 f64a0 (fun a w hat => ?_)
  refine g_seq f64q0 ?_
  let p1 : Rho := (RO w0 vb [])
  refine At.go (ρ1 := p0) (ρ2 := p1) f64r0 (@env_ok p0) trivial trivial trivial trivial f64I2 f64I5 hat (fun a w hat => .inl ⟨rfl, ?_⟩)
  refine g_seq f64q1 ?_
  have K0 : CA w0 18 #[(mV x0 x1 x2 x3 x4 x5 x6 x7)] (iV ((qcheck0 x0 x1 x2 x3 x4 x5 x6 x7))) := fun w hm => qcheck_any x0 x1 x2 x3 x4 x5 x6 x7 w  
  by_cases c0 : (qcheck0 x0 x1 x2 x3 x4 x5 x6 x7) ≠ 0
  · have K1 : KA w0 (.bin .neq 27) [(iV ((qcheck0 x0 x1 x2 x3 x4 x5 x6 x7))), (iV 0)] (.bool true) := fun w hm => k_neq_t c0
    let r1 : Rho := (RO w0 (vb ++ [(iV ((qcheck0 x0 x1 x2 x3 x4 x5 x6 x7)))]) [])
    refine At.retsV (ρ1 := r1) f64r1 (@env_ok r1) ⟨enk K1, trivial⟩ ⟨cok K0 f64f18, trivial⟩ trivial trivial f64I5 hat (fun a w h => .inr ⟨(fun q => nomatch q), h⟩) (fun w2 hb => ?_)
    have v0 : ((qcheck0 x0 x1 x2 x3 x4 x5 x6 x7) : Int) = leftErr x0 x1 x2 x3 x4 x5 x6 x7 st so p most := by
      unfold leftErr
      rw [if_pos (by omega)]
    exact ret1 v0 hb
  have K2 : KA w0 (.bin .neq 27) [(iV ((qcheck0 x0 x1 x2 x3 x4 x5 x6 x7))), (iV 0)] (.bool false) := fun w hm => k_neq_f c0
  have hv := qcheck_ok (x0 := x0) (x1 := x1) (x2 := x2) (x3 := x3) (x4 := x4) (x5 := x5) (x6 := x6) (x7 := x7) (by omega)
  have hx := mul_bd (a := x0) (b := x1) (A := 24) (B := 24) (C := 576) (by omega) (by omega) (by omega) (by omega)
  let r2 : Rho := (RO w0 (vb ++ [(iV ((qcheck0 x0 x1 x2 x3 x4 x5 x6 x7)))]) [])
  let p2 : Rho := (RO w0 vb [])
  refine At.go (ρ1 := r2) (ρ2 := p2) f64r2 (@env_ok r2) ⟨enk K2, trivial⟩ ⟨cok K0 f64f18, trivial⟩ trivial trivial f64I5 f64I5 hat (fun a w hat => .inl ⟨rfl, ?_⟩)
  refine g_seq f64q2 ?_
  have K3 : KA w0 (.bi 0 [37]) [(.slice ast st.length qst)] (iV (((st.length : Nat) : Int))) := fun w hm => k_len Try.underlying37
  by_cases c1 : ((st.length : Nat) : Int) > 64
  · let r3 : Rho := (RO w0 (vb ++ [(iV (((st.length : Nat) : Int)))]) [])
    refine At.retsV (ρ1 := r3) f64r3 (@env_ok r3) ⟨enk (kgtrt c1), enk K3, trivial⟩ trivial trivial trivial f64I5 hat (fun a w h => .inr ⟨(fun q => nomatch q), h⟩) (fun w2 hb => ?_)
    have v0 : (9 : Int) = leftErr x0 x1 x2 x3 x4 x5 x6 x7 st so p most := by
      unfold leftErr
      first
        | (rw [if_neg (by omega), if_pos (by omega)]; done)
        | (have hf1 : firstErr (cellErr x0 x1) st = 0 := firstErr_all (cellErr x0 x1) 0 st (fun k hk => i2 k (by omega))
           have hcs : csErr x0 x1 x2 x3 x4 x5 x6 x7 so = srcsErr x0 x1 so := by unfold csErr; rw [if_neg (by omega)]
           rw [if_neg (by omega), if_neg (by omega), if_neg (by omega), if_neg (by omega), if_pos (by omega)])
    exact ret1 v0 hb
  let r4 : Rho := (RO w0 (vb ++ [(iV (((st.length : Nat) : Int)))]) [])
  let p3 : Rho := (RO w0 vb [])
  refine At.go (ρ1 := r4) (ρ2 := p3) f64r4 (@env_ok r4) ⟨enk (kgtrf c1), enk K3, trivial⟩ trivial trivial trivial f64I5 f64I5 hat (fun a w hat => .inl ⟨rfl, ?_⟩)
  refine g_seq f64q3 ?_
  refine g_seq f64q4 ?_
  have K4 : KA w0 (.bi 0 [37]) [(.slice ast st.length qst)] (iV (((st.length : Nat) : Int))) := fun w hm => k_len Try.underlying37
  let r5 : Rho := (RO w0 (vb ++ [(iV (((st.length : Nat) : Int)))]) [])
  let d4 : List Value := (vb ++ [(iV (((st.length : Nat) : Int)))])
  let p4 : Rho := RO w0 d4 []
  refine At.go (ρ1 := r5) (ρ2 := p4) f64r5 (@env_ok r5) ⟨enk K4, trivial⟩ trivial trivial trivial f64I5 f64I13 hat (fun a w hat => .inl ⟨rfl, ?_⟩)
  refine g_block f64q5 ?_
  have hat0 := At.shiftL (ρ1 := p4) (ρ2 := (RO w0 (vb ++ [(iV (((st.length : Nat) : Int))), (iV ((0 : Int)))]) [])) (σ := (ids 13 ++ [(iV 0)])) (π := [0]) (τ := []) ⟨rfl, rfl, rfl, rfl, rfl, rfl, rfl, rfl, rfl, rfl, rfl, rfl, rfl, rfl, rfl, rfl, rfl, rfl, rfl, rfl, rfl, rfl, rfl, rfl, rfl, rfl, rfl, rfl, trivial⟩ trivial (fun _ _ h => h) f64I27.1 f64h7 hat
  clear hat
  refine g_loop (fun (x : Int) a w => (0 ≤ (x : Int) ∧ (x : Int) ≤ st.length ∧ (∀ k : Nat, (k : Int) < (x : Int) → cellErr x0 x1 (st.getD k 0) = 0)) ∧ @At (RO w0 (vb ++ [(iV (((st.length : Nat) : Int))), (iV ((x : Int)))]) []) w0 f64F26 f64S4 a w) (fun x => (st.length - (x : Int)).toNat) f64q6 ?_ (0) ⟨?_, hat0⟩
  · clear hat0
    rintro i a w ⟨hinv, hat⟩
    change 0 ≤ i ∧ i ≤ st.length ∧ (∀ k : Nat, (k : Int) < i → cellErr x0 x1 (st.getD k 0) = 0) at hinv
    let d5 : List Value := (vb ++ [(iV (((st.length : Nat) : Int))), (iV i)])
    let p5 : Rho := RO w0 d5 []
    change @At p5 w0 f64F26 f64S4 a w at hat
    obtain ⟨i0, i1, i2⟩ := hinv
    by_cases c2 : i < ((st.length : Nat) : Int)
    · have K14 : KA w0 (.indexAddr 37) [(.slice ast st.length qst), (iV i)] (.pointer (ptrO ast ((i).toNat * 1))) := fun w hm => l_index (Hst.keep hm) Try.underlying37 (by kernel_rfl) (by omega) (by omega)
      obtain ⟨z3, hz3⟩ : ∃ z : Int, z = st.getD (i).toNat 0 := ⟨_, rfl⟩
      have K15 : KA w0 (.load 3) [(.pointer (ptrO ast ((i).toNat * 1)))] (iV z3) := fun w hm => l_load (Hst.keep hm) (by omega) Try.underlying3 rfl (flat_getz (c := intC) (sz := 1) (fun _ => rfl) hz3 (by omega) 0 _ rfl)
      have K16 : KA w0 (.bin .mul 3) [(iV x0), (iV x1)] (iV ((x0 * x1))) := fun w hm => k_mul (wrap64 (by omega))
      have K17 := kSub w0 ((x0 * x1)) (1) (by omega)
      by_cases c4 : z3 ≥ 0
      · by_cases c5 : z3 ≤ ((x0 * x1) - 1)
        · have K18 := kAdd w0 (i) (1) (by omega)
          let r6 : Rho := (RO w0 (d5 ++ [(.pointer (ptrO ast ((i).toNat * 1))), (iV z3), (iV ((x0 * x1))), (iV (((x0 * x1) - 1))), (iV ((i + 1)))]) [])
          refine At.goS (ρ1 := r6) (ρ2 := (RO w0 (vb ++ [(iV (((st.length : Nat) : Int))), (iV (((i + 1) : Int)))]) [])) f64r6 (@env_ok r6) ⟨enk K18, enk (kleqt c5), enk (kgeqt c4), enk K17, enk K16, enk K15, enk K14, enk (klsst c2), trivial⟩ trivial trivial trivial f64I27 f64I27 hat (SubOk.om rfl rfl) (LsubOk.om rfl) (fun a w hat => .inl ⟨rfl, ⟨((i + 1)), ?_, ?_, hat⟩⟩)
          · show (st.length - ((i + 1) : Int)).toNat < (st.length - i).toNat
            omega
          show 0 ≤ ((i + 1) : Int) ∧ ((i + 1) : Int) ≤ st.length ∧ (∀ k : Nat, (k : Int) < ((i + 1) : Int) → cellErr x0 x1 (st.getD k 0) = 0)
          have hs : cellErr x0 x1 z3 = 0 := by unfold cellErr; rw [if_pos (by omega)]
          refine ⟨by omega, by omega, fun k hk => ?_⟩
          rcases Int.lt_or_le (k : Int) i with q | q
          · exact i2 k q
          · have e : k = i.toNat := (by omega)
            subst e; rw [← hz3]; exact hs
        let r7 : Rho := (RO w0 (d5 ++ [(.pointer (ptrO ast ((i).toNat * 1))), (iV z3), (iV ((x0 * x1))), (iV (((x0 * x1) - 1)))]) [])
        refine At.retsV (ρ1 := r7) f64r7 (@env_ok r7) ⟨enk (kleqf c5), enk (kgeqt c4), enk K17, enk K16, enk K15, enk K14, enk (klsst c2), trivial⟩ trivial trivial trivial f64I27 hat (fun a w h => .inr ⟨.inr rfl, .inr ⟨(fun q => nomatch q), .inr ⟨(fun q => nomatch q), h⟩⟩⟩) (fun w2 hb => ?_)
        have v0 : (4 : Int) = leftErr x0 x1 x2 x3 x4 x5 x6 x7 st so p most := by
          have hs : cellErr x0 x1 z3 = 4 := by unfold cellErr; rw [if_neg (by omega)]
          have hf := firstErr_at (cellErr x0 x1) 0 st (i).toNat (by omega) (fun k hk => i2 k (by omega)) (by rw [← hz3, hs]; decide)
          rw [← hz3, hs] at hf
          unfold leftErr
          rw [if_neg (by omega), if_neg (by omega), if_pos (by omega), hf]
        exact ret1 v0 hb
      let r8 : Rho := (RO w0 (d5 ++ [(.pointer (ptrO ast ((i).toNat * 1))), (iV z3), (iV ((x0 * x1))), (iV (((x0 * x1) - 1)))]) [])
      refine At.retsV (ρ1 := r8) f64r8 (@env_ok r8) ⟨enk (kgeqf c4), enk K17, enk K16, enk K15, enk K14, enk (klsst c2), trivial⟩ trivial trivial trivial f64I27 hat (fun a w h => .inr ⟨.inr rfl, .inr ⟨(fun q => nomatch q), .inr ⟨(fun q => nomatch q), h⟩⟩⟩) (fun w2 hb => ?_)
      have v0 : (4 : Int) = leftErr x0 x1 x2 x3 x4 x5 x6 x7 st so p most := by
        have hs : cellErr x0 x1 z3 = 4 := by unfold cellErr; rw [if_neg (by omega)]
        have hf := firstErr_at (cellErr x0 x1) 0 st (i).toNat (by omega) (fun k hk => i2 k (by omega)) (by rw [← hz3, hs]; decide)
        rw [← hz3, hs] at hf
        unfold leftErr
        rw [if_neg (by omega), if_neg (by omega), if_pos (by omega), hf]
      exact ret1 v0 hb
    let p6 : Rho := (RO w0 vb [])
    refine At.go (ρ1 := p5) (ρ2 := p6) f64r9 (@env_ok p5) ⟨enk (klssf c2), trivial⟩ trivial trivial trivial f64I27 f64I5 hat (fun a w hat => .inr ⟨.inl ⟨0, rfl⟩, .inl ⟨rfl, .inl ⟨rfl, ?_⟩⟩⟩)
    refine g_seq f64q8 ?_
    obtain ⟨y6, hy6⟩ : ∃ y : Int, y = (csErr x0 x1 x2 x3 x4 x5 x6 x7 so) := ⟨_, rfl⟩
    have K19 : CA w0 24 #[(mV x0 x1 x2 x3 x4 x5 x6 x7), (.slice aso so.length qso)] (iV y6) := fun w hm => (by rw [hy6]; exact checkSources_any x0 x1 x2 x3 x4 x5 x6 x7 aso so qso w (Hso.keep hm) (by omega))
    by_cases c7 : y6 ≠ 0
    · have K20 : KA w0 (.bin .neq 27) [(iV y6), (iV 0)] (.bool true) := fun w hm => k_neq_t c7
      let r10 : Rho := (RO w0 (vb ++ [(iV y6)]) [])
      refine At.retsV (ρ1 := r10) f64r10 (@env_ok r10) ⟨enk K20, trivial⟩ ⟨cok K19 f64f24, trivial⟩ trivial trivial f64I5 hat (fun a w h => .inr ⟨(fun q => nomatch q), h⟩) (fun w2 hb => ?_)
      have v0 : (y6 : Int) = leftErr x0 x1 x2 x3 x4 x5 x6 x7 st so p most := by
        have hf1 : firstErr (cellErr x0 x1) st = 0 := firstErr_all (cellErr x0 x1) 0 st (fun k hk => i2 k (by omega))
        have hcs : csErr x0 x1 x2 x3 x4 x5 x6 x7 so = srcsErr x0 x1 so := by unfold csErr; rw [if_neg (by omega)]
        unfold leftErr
        rw [if_neg (by omega), if_neg (by omega), if_neg (by omega), if_pos (by omega)]
        omega
      exact ret1 v0 hb
    have K21 : KA w0 (.bin .neq 27) [(iV y6), (iV 0)] (.bool false) := fun w hm => k_neq_f c7
    let r11 : Rho := (RO w0 (vb ++ [(iV y6)]) [])
    let p7 : Rho := (RO w0 vb [])
    refine At.go (ρ1 := r11) (ρ2 := p7) f64r11 (@env_ok r11) ⟨enk K21, trivial⟩ ⟨cok K19 f64f24, trivial⟩ trivial trivial f64I5 f64I5 hat (fun a w hat => .inl ⟨rfl, ?_⟩)
    refine g_seq f64q9 ?_
    have K22 : KA w0 (.bi 0 [46]) [(.slice ap p.length qp)] (iV (((p.length : Nat) : Int))) := fun w hm => k_len Try.underlying46
    by_cases c8 : ((p.length : Nat) : Int) > 64
    · let r12 : Rho := (RO w0 (vb ++ [(iV (((p.length : Nat) : Int)))]) [])
      refine At.retsV (ρ1 := r12) f64r12 (@env_ok r12) ⟨enk (kgtrt c8), enk K22, trivial⟩ trivial trivial trivial f64I5 hat (fun a w h => .inr ⟨(fun q => nomatch q), h⟩) (fun w2 hb => ?_)
      have v0 : (9 : Int) = leftErr x0 x1 x2 x3 x4 x5 x6 x7 st so p most := by
        unfold leftErr
        first
          | (rw [if_neg (by omega), if_pos (by omega)]; done)
          | (have hf1 : firstErr (cellErr x0 x1) st = 0 := firstErr_all (cellErr x0 x1) 0 st (fun k hk => i2 k (by omega))
             have hcs : csErr x0 x1 x2 x3 x4 x5 x6 x7 so = srcsErr x0 x1 so := by unfold csErr; rw [if_neg (by omega)]
             rw [if_neg (by omega), if_neg (by omega), if_neg (by omega), if_neg (by omega), if_pos (by omega)])
      exact ret1 v0 hb
    let r13 : Rho := (RO w0 (vb ++ [(iV (((p.length : Nat) : Int)))]) [])
    let p8 : Rho := (RO w0 vb [])
    refine At.go (ρ1 := r13) (ρ2 := p8) f64r13 (@env_ok r13) ⟨enk (kgtrf c8), enk K22, trivial⟩ trivial trivial trivial f64I5 f64I5 hat (fun a w hat => .inl ⟨rfl, ?_⟩)
    refine g_seq f64q10 ?_
    refine g_seq f64q11 ?_
    have K23 : KA w0 (.bi 0 [46]) [(.slice ap p.length qp)] (iV (((p.length : Nat) : Int))) := fun w hm => k_len Try.underlying46
    let r14 : Rho := (RO w0 (vb ++ [(iV (((p.length : Nat) : Int)))]) [])
    let d9 : List Value := (vb ++ [(iV (((p.length : Nat) : Int)))])
    let p9 : Rho := RO w0 d9 []
    refine At.go (ρ1 := r14) (ρ2 := p9) f64r14 (@env_ok r14) ⟨enk K23, trivial⟩ trivial trivial trivial f64I5 f64I33 hat (fun a w hat => .inl ⟨rfl, ?_⟩)
    refine g_block f64q12 ?_
    have hat0 := At.shiftL (ρ1 := p9) (ρ2 := (RO w0 (vb ++ [(iV (((p.length : Nat) : Int))), (iV ((0 : Int)))]) [])) (σ := (ids 13 ++ [(iV 0)])) (π := [0]) (τ := []) ⟨rfl, rfl, rfl, rfl, rfl, rfl, rfl, rfl, rfl, rfl, rfl, rfl, rfl, rfl, rfl, rfl, rfl, rfl, rfl, rfl, rfl, rfl, rfl, rfl, rfl, rfl, rfl, rfl, trivial⟩ trivial (fun _ _ h => h) f64I43.1 f64h14 hat
    clear hat
    refine g_loop (fun (x : Int) a w => (0 ≤ (x : Int) ∧ (x : Int) ≤ p.length ∧ (∀ k : Nat, (k : Int) < (x : Int) → pkErr st.length (p.getD k pkD) = 0)) ∧ @At (RO w0 (vb ++ [(iV (((p.length : Nat) : Int))), (iV ((x : Int)))]) []) w0 f64F42 f64S4 a w) (fun x => (p.length - (x : Int)).toNat) f64q13 ?_ (0) ⟨?_, hat0⟩
    · clear hat0
      rintro j a w ⟨hinv, hat⟩
      change 0 ≤ j ∧ j ≤ p.length ∧ (∀ k : Nat, (k : Int) < j → pkErr st.length (p.getD k pkD) = 0) at hinv
      let d10 : List Value := (vb ++ [(iV (((p.length : Nat) : Int))), (iV j)])
      let p10 : Rho := RO w0 d10 []
      change @At p10 w0 f64F42 f64S4 a w at hat
      obtain ⟨j0, j1, j2⟩ := hinv
      by_cases c9 : j < ((p.length : Nat) : Int)
      · have K37 : KA w0 (.indexAddr 46) [(.slice ap p.length qp), (iV j)] (.pointer (ptrO ap ((j).toNat * 6))) := fun w hm => l_index (Hp.keep hm) Try.underlying46 (by kernel_rfl) (by omega) (by omega)
        obtain ⟨z10, hz10⟩ : ∃ z : Pk, z = p.getD (j).toNat pkD := ⟨_, rfl⟩
        have K38 : KA w0 (.load 84) [(.pointer (ptrO ap ((j).toNat * 6)))] (.agg #[(iV z10.kind), (iV z10.station), (iV z10.t0), (iV z10.t1), (iV z10.l0), (iV z10.l1)]) := fun w hm => l_loadS (Hp.keep hm) (by omega) Try.underlying84 rfl (l := [(iV z10.kind), (iV z10.station), (iV z10.t0), (iV z10.t1), (iV z10.l0), (iV z10.l1)]) (by kernel_rfl) (flat_getz (c := pkC) (sz := 6) (fun _ => rfl) hz10 (by omega))
        have K39 : KA w0 (.bi 0 [37]) [(.slice ast st.length qst)] (iV (((st.length : Nat) : Int))) := fun w hm => k_len Try.underlying37
        obtain ⟨y11, hy11⟩ : ∃ y : Int, y = (pkErr (((st.length : Nat) : Int)) z10) := ⟨_, rfl⟩
        have K40 : CA w0 87 #[(.agg #[(iV z10.kind), (iV z10.station), (iV z10.t0), (iV z10.t1), (iV z10.l0), (iV z10.l1)]), (iV (((st.length : Nat) : Int)))] (iV y11) := fun w hm => (by rw [hy11]; exact checkPick_any z10 (((st.length : Nat) : Int)) w  (by omega))
        by_cases c12 : y11 ≠ 0
        · have K41 : KA w0 (.bin .neq 27) [(iV y11), (iV 0)] (.bool true) := fun w hm => k_neq_t c12
          let r15 : Rho := (RO w0 (d10 ++ [(.pointer (ptrO ap ((j).toNat * 6))), (iV z10.kind), (iV z10.station), (iV z10.t0), (iV z10.t1), (iV z10.l0), (iV z10.l1), (iV (((st.length : Nat) : Int))), (iV y11)]) [])
          refine At.retsV (ρ1 := r15) f64r15 (@env_ok r15) ⟨enk K41, enk K39, enk K38, enk K37, enk (klsst c9), trivial⟩ ⟨cok K40 f64f87, trivial⟩ trivial trivial f64I43 hat (fun a w h => .inr ⟨.inr rfl, .inr ⟨(fun q => nomatch q), .inr ⟨(fun q => nomatch q), h⟩⟩⟩) (fun w2 hb => ?_)
          have v0 : (y11 : Int) = leftErr x0 x1 x2 x3 x4 x5 x6 x7 st so p most := by
            have hf1 : firstErr (cellErr x0 x1) st = 0 := firstErr_all (cellErr x0 x1) 0 st (fun k hk => i2 k (by omega))
            have hcs : csErr x0 x1 x2 x3 x4 x5 x6 x7 so = srcsErr x0 x1 so := by unfold csErr; rw [if_neg (by omega)]
            have hs : pkErr st.length z10 = y11 := by omega
            have hf := firstErr_at (pkErr st.length) pkD p (j).toNat (by omega) (fun k hk => j2 k (by omega)) (by rw [← hz10, hs]; omega)
            rw [← hz10, hs] at hf
            unfold leftErr
            rw [if_neg (by omega), if_neg (by omega), if_neg (by omega), if_neg (by omega), if_neg (by omega), if_pos (by omega), hf]
          exact ret1 v0 hb
        have K42 : KA w0 (.bin .neq 27) [(iV y11), (iV 0)] (.bool false) := fun w hm => k_neq_f c12
        have K43 := kAdd w0 (j) (1) (by omega)
        let r16 : Rho := (RO w0 (d10 ++ [(.pointer (ptrO ap ((j).toNat * 6))), (iV z10.kind), (iV z10.station), (iV z10.t0), (iV z10.t1), (iV z10.l0), (iV z10.l1), (iV (((st.length : Nat) : Int))), (iV y11), (iV ((j + 1)))]) [])
        refine At.goS (ρ1 := r16) (ρ2 := (RO w0 (vb ++ [(iV (((p.length : Nat) : Int))), (iV (((j + 1) : Int)))]) [])) f64r16 (@env_ok r16) ⟨enk K43, enk K42, enk K39, enk K38, enk K37, enk (klsst c9), trivial⟩ ⟨cok K40 f64f87, trivial⟩ trivial trivial f64I43 f64I43 hat (SubOk.om rfl rfl) (LsubOk.om rfl) (fun a w hat => .inl ⟨rfl, ⟨((j + 1)), ?_, ?_, hat⟩⟩)
        · show (p.length - ((j + 1) : Int)).toNat < (p.length - j).toNat
          omega
        show 0 ≤ ((j + 1) : Int) ∧ ((j + 1) : Int) ≤ p.length ∧ (∀ k : Nat, (k : Int) < ((j + 1) : Int) → pkErr st.length (p.getD k pkD) = 0)
        refine ⟨by omega, by omega, fun k hk => ?_⟩
        rcases Int.lt_or_le (k : Int) j with q | q
        · exact j2 k q
        · have e : k = j.toNat := (by omega)
          subst e; rw [← hz10]; omega
      let p11 : Rho := (RO w0 vb [])
      refine At.go (ρ1 := p10) (ρ2 := p11) f64r17 (@env_ok p10) ⟨enk (klssf c9), trivial⟩ trivial trivial trivial f64I43 f64I45 hat (fun a w hat => .inr ⟨.inl ⟨2, rfl⟩, .inl ⟨rfl, .inl ⟨rfl, ?_⟩⟩⟩)
      by_cases c13 : most ≥ 0
      · by_cases c14 : most ≤ 8
        · refine At.lastsV (ρ1 := p11) f64r18 (@env_ok p11) ⟨enk (kleqt c14), enk (kgeqt c13), trivial⟩ trivial trivial trivial f64I45 hat (fun w2 hb => ?_)
          have v0 : (0 : Int) = leftErr x0 x1 x2 x3 x4 x5 x6 x7 st so p most := by
            have hf1 : firstErr (cellErr x0 x1) st = 0 := firstErr_all (cellErr x0 x1) 0 st (fun k hk => i2 k (by omega))
            have hf2 : firstErr (pkErr st.length) p = 0 := firstErr_all (pkErr st.length) pkD p (fun k hk => j2 k (by omega))
            have hcs : csErr x0 x1 x2 x3 x4 x5 x6 x7 so = srcsErr x0 x1 so := by unfold csErr; rw [if_neg (by omega)]
            unfold leftErr
            rw [if_neg (by omega), if_neg (by omega), if_neg (by omega), if_neg (by omega), if_neg (by omega), if_neg (by omega)]
            first | rw [if_pos (by omega)] | rw [if_neg (by omega)]
          exact ret1 v0 hb
        refine At.lastsV (ρ1 := p11) f64r19 (@env_ok p11) ⟨enk (kleqf c14), enk (kgeqt c13), trivial⟩ trivial trivial trivial f64I45 hat (fun w2 hb => ?_)
        have v0 : (3 : Int) = leftErr x0 x1 x2 x3 x4 x5 x6 x7 st so p most := by
          have hf1 : firstErr (cellErr x0 x1) st = 0 := firstErr_all (cellErr x0 x1) 0 st (fun k hk => i2 k (by omega))
          have hf2 : firstErr (pkErr st.length) p = 0 := firstErr_all (pkErr st.length) pkD p (fun k hk => j2 k (by omega))
          have hcs : csErr x0 x1 x2 x3 x4 x5 x6 x7 so = srcsErr x0 x1 so := by unfold csErr; rw [if_neg (by omega)]
          unfold leftErr
          rw [if_neg (by omega), if_neg (by omega), if_neg (by omega), if_neg (by omega), if_neg (by omega), if_neg (by omega)]
          first | rw [if_pos (by omega)] | rw [if_neg (by omega)]
        exact ret1 v0 hb
      refine At.lastsV (ρ1 := p11) f64r20 (@env_ok p11) ⟨enk (kgeqf c13), trivial⟩ trivial trivial trivial f64I45 hat (fun w2 hb => ?_)
      have v0 : (3 : Int) = leftErr x0 x1 x2 x3 x4 x5 x6 x7 st so p most := by
        have hf1 : firstErr (cellErr x0 x1) st = 0 := firstErr_all (cellErr x0 x1) 0 st (fun k hk => i2 k (by omega))
        have hf2 : firstErr (pkErr st.length) p = 0 := firstErr_all (pkErr st.length) pkD p (fun k hk => j2 k (by omega))
        have hcs : csErr x0 x1 x2 x3 x4 x5 x6 x7 so = srcsErr x0 x1 so := by unfold csErr; rw [if_neg (by omega)]
        unfold leftErr
        rw [if_neg (by omega), if_neg (by omega), if_neg (by omega), if_neg (by omega), if_neg (by omega), if_neg (by omega)]
        first | rw [if_pos (by omega)] | rw [if_neg (by omega)]
      exact ret1 v0 hb
    · show 0 ≤ (0 : Int) ∧ (0 : Int) ≤ p.length ∧ (∀ k : Nat, (k : Int) < (0 : Int) → pkErr st.length (p.getD k pkD) = 0)
      exact ⟨by omega, by omega, fun k hk => by omega⟩
  · show 0 ≤ (0 : Int) ∧ (0 : Int) ≤ st.length ∧ (∀ k : Nat, (k : Int) < (0 : Int) → cellErr x0 x1 (st.getD k 0) = 0)
    exact ⟨by omega, by omega, fun k hk => by omega⟩
end
end Go.Proofs.Ytoaehigmpbhppaa.En
namespace Go.Proofs.Ytoaehigmpbhppaa.En
open Go Go.Ev Go.Proofs Go.RowKit
set_option maxRecDepth 1000000
noncomputable section
def f65b0 : Code := (Try.f65.body).getD .skip
def f65F0 : Fr := mkFr Try.f65 [(0, (ag 0 11)), (1, (sy 11))] []
def f65S1 : St := mkSt 0 []
theorem f65I2 : IdOk 12 0 0 f65F0 f65S1 := ⟨mkSt_wf rfl, by kernel_rfl⟩
def f65F3 : Fr := mkFr Try.f65 [(1, (sy 11)), (2, (pt 0 0)), (4, (.slice .none 0 0))] []
def f65S4 : St := mkSt 1 [(0, (.cells (ids 11) 111 .none .false))]
theorem f65I5 : IdOk 12 1 0 f65F3 f65S4 := ⟨mkSt_wf rfl, by kernel_rfl⟩
def f65F6 : Fr := mkFr Try.f65 [(1, (sy 11)), (2, (pt 0 0)), (4, (.slice .none 0 0)), (5, (.slice .none 0 0))] []
theorem f65I7 : IdOk 12 1 0 f65F6 f65S4 := ⟨mkSt_wf rfl, by kernel_rfl⟩
def f65n8 : List Ent := ⟨(.bi 0 [38]), [(sy 9)], (sy 12)⟩ :: []
def f65F9 : Fr := mkFr Try.f65 [(1, (sy 11)), (2, (pt 0 0)), (4, (.slice .none 0 0)), (5, (.slice .none 0 0)), (9, (sy 9)), (10, (sy 12)), (11, (iV 0))] []
theorem f65I10 : IdOk 13 1 0 f65F9 f65S4 := ⟨mkSt_wf rfl, by kernel_rfl⟩
theorem f65f88 : FnIn env 88 := ⟨Try.f88, (Try.f88.body).getD .skip, by kernel_rfl, by kernel_rfl⟩
def f65n20 : List Ent := ⟨(.load 54), [(sy 15)], (ag 16 5)⟩ :: ⟨(.indexAddr 38), [(sy 9), (sy 14)], (sy 15)⟩ :: cB .lss (sy 14) (sy 12) true :: []
def f65n21 : List Ent := cB .eql (sy 16) (iV 1) true :: f65n20
def f65n22 : List CEnt := ⟨88, [(ag 0 11), (ag 16 5), (sy 11)], [], (ag 21 2)⟩ :: []
def f65n23 : List Ent := aB .add (sy 14) (iV 1) (sy 24) :: cB .leq (sy 21) (sy 22) true :: f65n21
def f65n24 : List LEnt := (.grow 0 13 1 5 [(sy 16), (sy 17), (sy 18), (sy 21), (sy 22)] 1 23) :: []
def f65n25 : List Ent := aB .add (sy 14) (iV 1) (sy 23) :: cB .leq (sy 21) (sy 22) false :: f65n21
def f65n26 : List Ent := cB .eql (sy 16) (iV 1) false :: f65n20
def f65n27 : List Ent := aB .add (sy 14) (iV 1) (sy 22) :: cB .leq (sy 19) (sy 20) true :: f65n26
def f65n28 : List LEnt := (.grow 0 13 1 5 [(sy 16), (sy 17), (sy 18), (sy 19), (sy 20)] 1 21) :: []
def f65n29 : List Ent := aB .add (sy 14) (iV 1) (sy 21) :: cB .leq (sy 19) (sy 20) false :: f65n26
def f65n30 : List Ent := cB .lss (sy 14) (sy 12) false :: []
def f65F31 : Fr := mkFr Try.f65 [(1, (sy 11)), (2, (pt 0 0)), (4, (.slice .none 0 0)), (5, (ls 1 13)), (9, (sy 9)), (10, (sy 12)), (11, (sy 14))] []
def f65S32 : St := mkSt 2 [(0, (.cells (ids 11) 111 .none .false)), (1, (.lst 0 54 5))]
theorem f65I33 : IdOk 15 2 1 f65F31 f65S32 := ⟨mkSt_wf rfl, by kernel_rfl⟩
def f65F34 : Fr := mkFr Try.f65 [(4, (.slice .none 0 0)), (5, (ls 0 12))] []
def f65S35 : St := mkSt 1 [(0, (.lst 0 54 5))]
theorem f65I36 : IdOk 13 1 1 f65F34 f65S35 := ⟨mkSt_wf rfl, by kernel_rfl⟩
theorem f65a0 : agreeL (ids 12) [] [] f65F0 f65S1 (frameOf Try.f65 [(ag 0 11), (sy 11)]) Ev.start = true := by kernel_rfl
def f65b1 : Code := headC f65b0
def f65b2 : Code := tailC f65b0
theorem f65q0 : f65b0 = .seq f65b1 f65b2 := by kernel_rfl
theorem f65r0 : gE [] [] [] [] f65b1 f65F0 f65S1 .normal (ids 12) [0] [] f65F3 f65S4 = some () := by kernel_rfl
def f65b3 : Code := headC f65b2
def f65b4 : Code := tailC f65b2
theorem f65q1 : f65b2 = .seq f65b3 f65b4 := by kernel_rfl
theorem f65r1 : gE [] [] [] [] f65b3 f65F3 f65S4 .normal (ids 12) [0] [] f65F6 f65S4 = some () := by kernel_rfl
def f65b5 : Code := headC f65b4
def f65b6 : Code := tailC f65b4
theorem f65q2 : f65b4 = .seq f65b5 f65b6 := by kernel_rfl
def f65b7 : Code := headC f65b5
def f65b8 : Code := tailC f65b5
theorem f65q3 : f65b5 = .seq f65b7 f65b8 := by kernel_rfl
theorem f65r2 : gE f65n8 [] [] [] f65b7 f65F6 f65S4 .normal (ids 13) [0] [] f65F9 f65S4 = some () := by kernel_rfl
def f65b9 : Code := inBlockC f65b8
theorem f65q4 : f65b8 = .block 0 f65b9 := by kernel_rfl
def f65b10 : Code := inLoopC f65b9
theorem f65q5 : f65b9 = .loop f65b10 := by kernel_rfl
theorem f65h6 : agreeL (ids 13 ++ [(iV 0), (iV 0)]) [0, 1] [none] f65F31 f65S32 f65F9 f65S4 = true := by kernel_rfl
theorem f65r3 : gE f65n23 f65n22 f65n24 [] f65b10 f65F31 f65S32 .normal (pk 13 [23, 24]) [0, 4] [some 1] f65F31 f65S32 = some () := by kernel_rfl
theorem f65r4 : gE f65n25 f65n22 [] [] f65b10 f65F31 f65S32 .normal (pk 14 [23]) [0, 1] [some 0] f65F31 f65S32 = some () := by kernel_rfl
theorem f65r5 : gE f65n27 [] f65n28 [] f65b10 f65F31 f65S32 .normal (pk 13 [21, 22]) [0, 4] [some 1] f65F31 f65S32 = some () := by kernel_rfl
theorem f65r6 : gE f65n29 [] [] [] f65b10 f65F31 f65S32 .normal (pk 14 [21]) [0, 1] [some 0] f65F31 f65S32 = some () := by kernel_rfl
theorem f65r7 : gE f65n30 [] [] [] f65b10 f65F31 f65S32 (.exit 0) (pk 12 [13]) [1] [some 0] f65F34 f65S35 = some () := by kernel_rfl
theorem f65r8 : lE [] [] [] [] f65b6 f65F34 f65S35 Try.f65 (endL (ls 0 12) 0 0 54 5) = some () := by kernel_rfl
set_option maxHeartbeats 8000000 in
theorem left_any (x0 : Int) (x1 : Int) (x2 : Int) (x3 : Int) (x4 : Int) (x5 : Int) (x6 : Int) (x7 : Int) (ast : Option Addr) (st : List Int) (qst : Nat) (aso : Option Addr) (so : List Src) (qso : Nat) (most : Int) (ap : Option Addr) (p : List Pk) (qp : Nat) (w0 : World) {tst : TypeId} (Hst : Lies w0 tst (flat intC st) ast st.length) {tso : TypeId} (Hso : Lies w0 tso (flat srcC so) aso so.length) {tp : TypeId} (Hp : Lies w0 tp (flat pkC p) ap p.length) (v : ModOk x0 x1 x2 x3 x4 x5 x6 x7) (hst : StOk x0 x1 st) (hpk : PksOk st.length p) (hn1 : st.length < 1000000) (hn2 : so.length < 1000000) (hn3 : p.length ≤ 64) (hso : ∀ k, k < so.length → srcErr x0 x1 (so.getD k srcD) = 0) (hmost : 0 ≤ most ∧ most ≤ 8) : Calls Try.prog 65 #[(.agg #[(iV x0), (iV x1), (iV x2), (iV x3), (iV x4), (iV x5), (iV x6), (iV x7), (.slice ast st.length qst), (.slice aso so.length qso), (iV most)]), (.slice ap p.length qp)] w0 (fun en w' => ∃ a C, en = .returned (.slice a (so.filterMap (leftOne x0 x1 x2 x3 x4 x5 x6 x7 st most p)).length C) ∧ NewList w0 w' 54 5 (flat srcC (so.filterMap (leftOne x0 x1 x2 x3 x4 x5 x6 x7 st most p))) a (so.filterMap (leftOne x0 x1 x2 x3 x4 x5 x6 x7 st most p)).length C ∧ Below w0.heap.size w0 w') := by
  have v0m := v
  obtain ⟨v0, v1, v2, v3, v5, v7⟩ := v
  have hx := mul_bd (a := x0) (b := x1) (A := 24) (B := 24) (C := 576) (by omega) (by omega) (by omega) (by omega)
  let vb : List Value := [(iV x0), (iV x1), (iV x2), (iV x3), (iV x4), (iV x5), (iV x6), (iV x7), (.slice ast st.length qst), (.slice aso so.length qso), (iV most), (.slice ap p.length qp)]
  let p0 : Rho := (RO w0 vb [])
  refine At.begin (ρ := p0) (c := f65b0) (@env_ok p0) f65I2 f65a0 (fun a w hat => ?_)
  refine g_seq f65q0 ?_
  let p1 : Rho := (RO w0 vb [])
  refine At.go (ρ1 := p0) (ρ2 := p1) f65r0 (@env_ok p0) trivial trivial trivial trivial f65I2 f65I5 hat (fun a w hat => .inl ⟨rfl, ?_⟩)
  refine g_seq f65q1 ?_
  let p2 : Rho := (RO w0 vb [])
  refine At.go (ρ1 := p1) (ρ2 := p2) f65r1 (@env_ok p1) trivial trivial trivial trivial f65I5 f65I7 hat (fun a w hat => .inl ⟨rfl, ?_⟩)
  refine g_seq f65q2 ?_
  refine g_seq f65q3 ?_
  have K0 : KA w0 (.bi 0 [38]) [(.slice aso so.length qso)] (iV (((so.length : Nat) : Int))) := fun w hm => k_len Try.underlying38
  let r2 : Rho := (RO w0 (vb ++ [(iV (((so.length : Nat) : Int)))]) [])
  let d3 : List Value := (vb ++ [(iV (((so.length : Nat) : Int)))])
  let p3 : Rho := RO w0 d3 []
  refine At.go (ρ1 := r2) (ρ2 := p3) f65r2 (@env_ok r2) ⟨enk K0, trivial⟩ trivial trivial trivial f65I7 f65I10 hat (fun a w hat => .inl ⟨rfl, ?_⟩)
  refine g_block f65q4 ?_
  have hat0 := At.shiftL (ρ1 := p3) (ρ2 := (RO w0 (vb ++ [(iV (((so.length : Nat) : Int))), (iV (((([] : List Src).length : Nat) : Int))), (iV ((0 : Int)))]) [(flat srcC ([] : List Src))])) (σ := (ids 13 ++ [(iV 0), (iV 0)])) (π := [0, 1]) (τ := [none]) ⟨rfl, rfl, rfl, rfl, rfl, rfl, rfl, rfl, rfl, rfl, rfl, rfl, rfl, rfl, rfl, rfl, rfl, rfl, rfl, rfl, rfl, rfl, rfl, rfl, rfl, rfl, rfl, rfl, rfl, rfl, trivial⟩ ⟨rfl, trivial⟩ (fun _ _ h => h) f65I33.1 f65h6 hat
  clear hat
  refine g_loop (fun (x : List Src × Int) a w => (0 ≤ (x.2 : Int) ∧ (x.2 : Int) ≤ so.length ∧ ((x.1 : List Src).length : Int) ≤ (x.2 : Int) ∧ (x.1 : List Src) = (so.take (x.2 : Int).toNat).filterMap (leftOne x0 x1 x2 x3 x4 x5 x6 x7 st most p)) ∧ @At (RO w0 (vb ++ [(iV (((so.length : Nat) : Int))), (iV ((((x.1 : List Src).length : Nat) : Int))), (iV ((x.2 : Int)))]) [(flat srcC (x.1 : List Src))]) w0 f65F31 f65S32 a w) (fun x => (so.length - (x.2 : Int)).toNat) f65q5 ?_ ([], 0) ⟨?_, hat0⟩
  · clear hat0
    rintro ⟨L, i⟩ a w ⟨hinv, hat⟩
    change 0 ≤ i ∧ i ≤ so.length ∧ (L.length : Int) ≤ i ∧ L = (so.take i.toNat).filterMap (leftOne x0 x1 x2 x3 x4 x5 x6 x7 st most p) at hinv
    let d4 : List Value := (vb ++ [(iV (((so.length : Nat) : Int))), (iV (((L.length : Nat) : Int))), (iV i)])
    let p4 : Rho := RO w0 d4 [(flat srcC L)]
    change @At p4 w0 f65F31 f65S32 a w at hat
    obtain ⟨i0, i1, i2, i3⟩ := hinv
    by_cases c0 : i < ((so.length : Nat) : Int)
    · have K11 : KA w0 (.indexAddr 38) [(.slice aso so.length qso), (iV i)] (.pointer (ptrO aso ((i).toNat * 5))) := fun w hm => l_index (Hso.keep hm) Try.underlying38 (by kernel_rfl) (by omega) (by omega)
      obtain ⟨z1, hz1⟩ : ∃ z : Src, z = so.getD (i).toNat srcD := ⟨_, rfl⟩
      have ez1 := srcErr_ok (hso (i).toNat (by omega))
      rw [← hz1] at ez1
      have K12 : KA w0 (.load 54) [(.pointer (ptrO aso ((i).toNat * 5)))] (.agg #[(iV z1.kind), (iV z1.cell), (iV z1.cls), (iV z1.lo), (iV z1.hi)]) := fun w hm => l_loadS (Hso.keep hm) (by omega) Try.underlying54 rfl (l := [(iV z1.kind), (iV z1.cell), (iV z1.cls), (iV z1.lo), (iV z1.hi)]) (by kernel_rfl) (flat_getz (c := srcC) (sz := 5) (fun _ => rfl) hz1 (by omega))
      by_cases c2 : z1.kind = 1
      · obtain ⟨y3, hy3⟩ : ∃ y : Int, y = (posZ z1.lo z1.hi most (allowL x0 x1 x2 x3 x4 x5 x6 x7 z1.cell z1.cls st p)).1 := ⟨_, rfl⟩
        obtain ⟨y4, hy4⟩ : ∃ y : Int, y = (posZ z1.lo z1.hi most (allowL x0 x1 x2 x3 x4 x5 x6 x7 z1.cell z1.cls st p)).2 := ⟨_, rfl⟩
        have K13 : CA w0 88 #[(.agg #[(iV x0), (iV x1), (iV x2), (iV x3), (iV x4), (iV x5), (iV x6), (iV x7), (.slice ast st.length qst), (.slice aso so.length qso), (iV most)]), (.agg #[(iV z1.kind), (iV z1.cell), (iV z1.cls), (iV z1.lo), (iV z1.hi)]), (.slice ap p.length qp)] (.agg #[(iV y3), (iV y4)]) := fun w hm => (by rw [hy3, hy4]; exact possible_any x0 x1 x2 x3 x4 x5 x6 x7 ast st qst aso so qso most z1 ap p qp w (Hst.keep hm) (Hso.keep hm) (Hp.keep hm) v0m (by omega) (by omega) hst hpk (by omega) (by omega) (by omega))
        by_cases c5 : y3 ≤ y4
        · have K14 := kAdd w0 (i) (1) (by omega)
          let r3 : Rho := (RO w0 (d4 ++ [(.pointer (ptrO aso ((i).toNat * 5))), (iV z1.kind), (iV z1.cell), (iV z1.cls), (iV z1.lo), (iV z1.hi), (iV y3), (iV y4), (iV (((L.length + 1 : Nat) : Int))), (iV ((i + 1)))]) [(flat srcC L), ((flat srcC L) ++ [(iV z1.kind), (iV z1.cell), (iV z1.cls), (iV y3), (iV y4)])])
          refine At.goS (ρ1 := r3) (ρ2 := (RO w0 (vb ++ [(iV (((so.length : Nat) : Int))), (iV (((((L ++ [(⟨z1.kind, z1.cell, z1.cls, y3, y4⟩ : Src)]) : List Src).length : Nat) : Int))), (iV (((i + 1) : Int)))]) [(flat srcC ((L ++ [(⟨z1.kind, z1.cell, z1.cls, y3, y4⟩ : Src)]) : List Src))])) f65r3 (@env_ok r3) ⟨enk K14, enk (kleqt c5), enk (keqlt c2), enk K12, enk K11, enk (klsst c0), trivial⟩ ⟨cok K13 f65f88, trivial⟩ ⟨⟨rfl, rfl, L.length, rfl, rfl, (by show ((flat srcC L) : List Value).length = (L.length) * 5; first | exact flat_len (fun _ => rfl) _ | simp [flat_len (c := srcC) (sz := 5) (fun _ => rfl), srcC] <;> omega), rfl, (by omega)⟩, trivial⟩ trivial f65I33 f65I33 hat ⟨rfl, rfl, rfl, rfl, rfl, rfl, rfl, rfl, rfl, rfl, rfl, rfl, rfl, rfl, rfl, rfl, rfl, rfl, rfl, rfl, rfl, rfl, rfl, rfl, rfl, rfl, rfl, vl, rfl, rfl, trivial⟩ ⟨(by show (flat srcC (L ++ [(⟨z1.kind, z1.cell, z1.cls, y3, y4⟩ : Src)]) : List Value) = ((flat srcC L) ++ [(iV z1.kind), (iV z1.cell), (iV z1.cls), (iV y3), (iV y4)]); first | (simp [flat_snoc, srcC]; done) | (simp [flat, srcC]; done)), trivial⟩ (fun a w hat => .inl ⟨rfl, ⟨((L ++ [(⟨z1.kind, z1.cell, z1.cls, y3, y4⟩ : Src)]), (i + 1)), ?_, ?_, hat⟩⟩)
          · show (so.length - ((i + 1) : Int)).toNat < (so.length - i).toNat
            omega
          show 0 ≤ ((i + 1) : Int) ∧ ((i + 1) : Int) ≤ so.length ∧ (((L ++ [(⟨z1.kind, z1.cell, z1.cls, y3, y4⟩ : Src)]) : List Src).length : Int) ≤ ((i + 1) : Int) ∧ ((L ++ [(⟨z1.kind, z1.cell, z1.cls, y3, y4⟩ : Src)]) : List Src) = (so.take ((i + 1) : Int).toNat).filterMap (leftOne x0 x1 x2 x3 x4 x5 x6 x7 st most p)
          have e1 : (i + 1).toNat = i.toNat + 1 := by omega
          refine ⟨by omega, by omega, by simp; omega, ?_⟩
          rw [e1]
          have hF : leftOne x0 x1 x2 x3 x4 x5 x6 x7 st most p z1 = some (⟨z1.kind, z1.cell, z1.cls, y3, y4⟩ : Src) := by
            unfold leftOne
            first
              | (rw [if_pos (by omega), ← hy3, ← hy4, if_pos (by omega)]; done)
              | (rw [if_neg (by omega), if_pos (by omega)]; done)
          rw [filterMap_some (leftOne x0 x1 x2 x3 x4 x5 x6 x7 st most p) srcD (i := i.toNat) (y := (⟨z1.kind, z1.cell, z1.cls, y3, y4⟩ : Src)) (by omega) (by rw [← hz1]; exact hF), ← i3]
        have K15 := kAdd w0 (i) (1) (by omega)
        let r4 : Rho := (RO w0 (d4 ++ [(.pointer (ptrO aso ((i).toNat * 5))), (iV z1.kind), (iV z1.cell), (iV z1.cls), (iV z1.lo), (iV z1.hi), (iV y3), (iV y4), (iV ((i + 1)))]) [(flat srcC L)])
        refine At.goS (ρ1 := r4) (ρ2 := (RO w0 (vb ++ [(iV (((so.length : Nat) : Int))), (iV ((((L : List Src).length : Nat) : Int))), (iV (((i + 1) : Int)))]) [(flat srcC (L : List Src))])) f65r4 (@env_ok r4) ⟨enk K15, enk (kleqf c5), enk (keqlt c2), enk K12, enk K11, enk (klsst c0), trivial⟩ ⟨cok K13 f65f88, trivial⟩ trivial trivial f65I33 f65I33 hat (SubOk.om rfl rfl) (LsubOk.om rfl) (fun a w hat => .inl ⟨rfl, ⟨(L, (i + 1)), ?_, ?_, hat⟩⟩)
        · show (so.length - ((i + 1) : Int)).toNat < (so.length - i).toNat
          omega
        show 0 ≤ ((i + 1) : Int) ∧ ((i + 1) : Int) ≤ so.length ∧ ((L : List Src).length : Int) ≤ ((i + 1) : Int) ∧ (L : List Src) = (so.take ((i + 1) : Int).toNat).filterMap (leftOne x0 x1 x2 x3 x4 x5 x6 x7 st most p)
        have e1 : (i + 1).toNat = i.toNat + 1 := by omega
        refine ⟨by omega, by omega, by omega, ?_⟩
        rw [e1]
        have hF : leftOne x0 x1 x2 x3 x4 x5 x6 x7 st most p z1 = none := by
          unfold leftOne
          first
            | (rw [if_pos (by omega), ← hy3, ← hy4, if_neg (by omega)]; done)
            | (rw [if_neg (by omega), if_neg (by omega)]; done)
        rw [filterMap_none (leftOne x0 x1 x2 x3 x4 x5 x6 x7 st most p) srcD (i := i.toNat) (by omega) (by rw [← hz1]; exact hF), ← i3]
      by_cases c6 : z1.lo ≤ z1.hi
      · have K16 := kAdd w0 (i) (1) (by omega)
        let r5 : Rho := (RO w0 (d4 ++ [(.pointer (ptrO aso ((i).toNat * 5))), (iV z1.kind), (iV z1.cell), (iV z1.cls), (iV z1.lo), (iV z1.hi), (iV (((L.length + 1 : Nat) : Int))), (iV ((i + 1)))]) [(flat srcC L), ((flat srcC L) ++ [(iV z1.kind), (iV z1.cell), (iV z1.cls), (iV z1.lo), (iV z1.hi)])])
        refine At.goS (ρ1 := r5) (ρ2 := (RO w0 (vb ++ [(iV (((so.length : Nat) : Int))), (iV (((((L ++ [(⟨z1.kind, z1.cell, z1.cls, z1.lo, z1.hi⟩ : Src)]) : List Src).length : Nat) : Int))), (iV (((i + 1) : Int)))]) [(flat srcC ((L ++ [(⟨z1.kind, z1.cell, z1.cls, z1.lo, z1.hi⟩ : Src)]) : List Src))])) f65r5 (@env_ok r5) ⟨enk K16, enk (kleqt c6), enk (keqlf c2), enk K12, enk K11, enk (klsst c0), trivial⟩ trivial ⟨⟨rfl, rfl, L.length, rfl, rfl, (by show ((flat srcC L) : List Value).length = (L.length) * 5; first | exact flat_len (fun _ => rfl) _ | simp [flat_len (c := srcC) (sz := 5) (fun _ => rfl), srcC] <;> omega), rfl, (by omega)⟩, trivial⟩ trivial f65I33 f65I33 hat ⟨rfl, rfl, rfl, rfl, rfl, rfl, rfl, rfl, rfl, rfl, rfl, rfl, rfl, rfl, rfl, rfl, rfl, rfl, rfl, rfl, rfl, rfl, rfl, rfl, rfl, rfl, rfl, vl, rfl, rfl, trivial⟩ ⟨(by show (flat srcC (L ++ [(⟨z1.kind, z1.cell, z1.cls, z1.lo, z1.hi⟩ : Src)]) : List Value) = ((flat srcC L) ++ [(iV z1.kind), (iV z1.cell), (iV z1.cls), (iV z1.lo), (iV z1.hi)]); first | (simp [flat_snoc, srcC]; done) | (simp [flat, srcC]; done)), trivial⟩ (fun a w hat => .inl ⟨rfl, ⟨((L ++ [(⟨z1.kind, z1.cell, z1.cls, z1.lo, z1.hi⟩ : Src)]), (i + 1)), ?_, ?_, hat⟩⟩)
        · show (so.length - ((i + 1) : Int)).toNat < (so.length - i).toNat
          omega
        show 0 ≤ ((i + 1) : Int) ∧ ((i + 1) : Int) ≤ so.length ∧ (((L ++ [(⟨z1.kind, z1.cell, z1.cls, z1.lo, z1.hi⟩ : Src)]) : List Src).length : Int) ≤ ((i + 1) : Int) ∧ ((L ++ [(⟨z1.kind, z1.cell, z1.cls, z1.lo, z1.hi⟩ : Src)]) : List Src) = (so.take ((i + 1) : Int).toNat).filterMap (leftOne x0 x1 x2 x3 x4 x5 x6 x7 st most p)
        have e1 : (i + 1).toNat = i.toNat + 1 := by omega
        refine ⟨by omega, by omega, by simp; omega, ?_⟩
        rw [e1]
        have hF : leftOne x0 x1 x2 x3 x4 x5 x6 x7 st most p z1 = some (⟨z1.kind, z1.cell, z1.cls, z1.lo, z1.hi⟩ : Src) := by
          unfold leftOne
          first
            | (rw [if_pos (by omega), if_pos (by omega)]; done)
            | (rw [if_neg (by omega), if_pos (by omega)]; done)
        rw [filterMap_some (leftOne x0 x1 x2 x3 x4 x5 x6 x7 st most p) srcD (i := i.toNat) (y := (⟨z1.kind, z1.cell, z1.cls, z1.lo, z1.hi⟩ : Src)) (by omega) (by rw [← hz1]; exact hF), ← i3]
      have K17 := kAdd w0 (i) (1) (by omega)
      let r6 : Rho := (RO w0 (d4 ++ [(.pointer (ptrO aso ((i).toNat * 5))), (iV z1.kind), (iV z1.cell), (iV z1.cls), (iV z1.lo), (iV z1.hi), (iV ((i + 1)))]) [(flat srcC L)])
      refine At.goS (ρ1 := r6) (ρ2 := (RO w0 (vb ++ [(iV (((so.length : Nat) : Int))), (iV ((((L : List Src).length : Nat) : Int))), (iV (((i + 1) : Int)))]) [(flat srcC (L : List Src))])) f65r6 (@env_ok r6) ⟨enk K17, enk (kleqf c6), enk (keqlf c2), enk K12, enk K11, enk (klsst c0), trivial⟩ trivial trivial trivial f65I33 f65I33 hat (SubOk.om rfl rfl) (LsubOk.om rfl) (fun a w hat => .inl ⟨rfl, ⟨(L, (i + 1)), ?_, ?_, hat⟩⟩)
      · show (so.length - ((i + 1) : Int)).toNat < (so.length - i).toNat
        omega
      show 0 ≤ ((i + 1) : Int) ∧ ((i + 1) : Int) ≤ so.length ∧ ((L : List Src).length : Int) ≤ ((i + 1) : Int) ∧ (L : List Src) = (so.take ((i + 1) : Int).toNat).filterMap (leftOne x0 x1 x2 x3 x4 x5 x6 x7 st most p)
      have e1 : (i + 1).toNat = i.toNat + 1 := by omega
      refine ⟨by omega, by omega, by omega, ?_⟩
      rw [e1]
      have hF : leftOne x0 x1 x2 x3 x4 x5 x6 x7 st most p z1 = none := by
        unfold leftOne
        first
          | (rw [if_pos (by omega), if_neg (by omega)]; done)
          | (rw [if_neg (by omega), if_neg (by omega)]; done)
      rw [filterMap_none (leftOne x0 x1 x2 x3 x4 x5 x6 x7 st most p) srcD (i := i.toNat) (by omega) (by rw [← hz1]; exact hF), ← i3]
    let d5 : List Value := (vb ++ [(iV (((L.length : Nat) : Int)))])
    let p5 : Rho := RO w0 d5 [(flat srcC L)]
    refine At.go (ρ1 := p4) (ρ2 := p5) f65r7 (@env_ok p4) ⟨enk (klssf c0), trivial⟩ trivial trivial trivial f65I33 f65I36 hat (fun a w hat => .inr ⟨.inl ⟨0, rfl⟩, .inl ⟨rfl, .inl ⟨rfl, ?_⟩⟩⟩)
    refine At.lastsL (ρ1 := p5) (n := L.length) none f65r8 (@env_ok p5) trivial trivial trivial trivial f65I36 hat rfl (by show ((flat srcC L) : List Value).length = (L.length) * 5; first | exact flat_len (fun _ => rfl) _ | simp [flat_len (c := srcC) (sz := 5) (fun _ => rfl), srcC] <;> omega) (fun w2 a2 C2 hb hn => ?_)
    have hL : L = so.filterMap (leftOne x0 x1 x2 x3 x4 x5 x6 x7 st most p) := by
      rw [i3, show i.toNat = so.length by omega, List.take_length]
    have e1 : L.length = (so.filterMap (leftOne x0 x1 x2 x3 x4 x5 x6 x7 st most p)).length := by rw [← hL]; try first | rfl | simp | simp [srcC]
    have e2 : ((flat srcC L) : List Value) = flat srcC (so.filterMap (leftOne x0 x1 x2 x3 x4 x5 x6 x7 st most p)) := by rw [← hL]; try first | rfl | (simp [flat_snoc, srcC]; done) | (simp [flat, srcC]; done)
    have hn2 : NewList w0 w2 54 5 (flat srcC (so.filterMap (leftOne x0 x1 x2 x3 x4 x5 x6 x7 st most p))) a2 (so.filterMap (leftOne x0 x1 x2 x3 x4 x5 x6 x7 st most p)).length C2 := by rw [← e1, ← e2]; exact hn
    have hv := congrArg (fun (n2 : Nat)  => (.slice a2 n2 C2 : Value)) e1
    exact ⟨a2, C2, congrArg Ending.returned hv, hn2, hb⟩
  · show 0 ≤ (0 : Int) ∧ (0 : Int) ≤ so.length ∧ (([] : List Src).length : Int) ≤ (0 : Int) ∧ ([] : List Src) = (so.take (0 : Int).toNat).filterMap (leftOne x0 x1 x2 x3 x4 x5 x6 x7 st most p)
    exact ⟨by omega, by omega, by simp, rfl⟩
def f27b0 : Code := (Try.f27.body).getD .skip
def f27F0 : Fr := mkFr Try.f27 [(0, (ag 0 8)), (1, (sy 8)), (2, (sy 9)), (3, (sy 10)), (4, (sy 11))] []
def f27S1 : St := mkSt 0 []
theorem f27I2 : IdOk 12 0 0 f27F0 f27S1 := ⟨mkSt_wf rfl, by kernel_rfl⟩
theorem f27f64 : FnIn env 64 := ⟨Try.f64, (Try.f64.body).getD .skip, by kernel_rfl, by kernel_rfl⟩
def f27n3 : List CEnt := ⟨64, [(.agg #[(sy 0), (sy 1), (sy 2), (sy 3), (sy 4), (sy 5), (sy 6), (sy 7), (sy 8), (sy 9), (sy 11)]), (sy 10)], [], (sy 12)⟩ :: []
def f27n4 : List Ent := ⟨(.bin .neq 27), [(sy 12), (iV 0)], (.bool true)⟩ :: []
def f27n5 : List Ent := ⟨(.bin .neq 27), [(sy 12), (iV 0)], (.bool false)⟩ :: []
def f27n6 : List CLEnt := ⟨65, [(.agg #[(sy 0), (sy 1), (sy 2), (sy 3), (sy 4), (sy 5), (sy 6), (sy 7), (sy 8), (sy 9), (sy 11)]), (sy 10)], [], 2, 0, 54, 5, 13, (ls 2 13)⟩ :: []
theorem f27a0 : agreeL (ids 12) [] [] f27F0 f27S1 (frameOf Try.f27 [(ag 0 8), (sy 8), (sy 9), (sy 10), (sy 11)]) Ev.start = true := by kernel_rfl
theorem f27r0 : lE f27n4 f27n3 [] [] f27b0 f27F0 f27S1 Try.f27 (endV (.tuple #[(.slice .none 0 0), (sy 12)])) = some () := by kernel_rfl
theorem f27r1 : lE f27n5 f27n3 [] f27n6 f27b0 f27F0 f27S1 Try.f27 (endL (.tuple #[(ls 2 13), (iV 0)]) 2 0 54 5) = some () := by kernel_rfl
set_option maxHeartbeats 8000000 in
theorem Left_any (x0 : Int) (x1 : Int) (x2 : Int) (x3 : Int) (x4 : Int) (x5 : Int) (x6 : Int) (x7 : Int) (ast : Option Addr) (st : List Int) (qst : Nat) (aso : Option Addr) (so : List Src) (qso : Nat) (ap : Option Addr) (p : List Pk) (qp : Nat) (most : Int) (w0 : World) {tst : TypeId} (Hst : Lies w0 tst (flat intC st) ast st.length) {tso : TypeId} (Hso : Lies w0 tso (flat srcC so) aso so.length) {tp : TypeId} (Hp : Lies w0 tp (flat pkC p) ap p.length) (hn1 : st.length < 1000000) (hn2 : so.length < 1000000) (hn3 : p.length < 1000000) : Calls Try.prog 27 #[(mV x0 x1 x2 x3 x4 x5 x6 x7), (.slice ast st.length qst), (.slice aso so.length qso), (.slice ap p.length qp), (iV most)] w0 (fun en w' => ∃ a C, en = .returned (.tuple #[.slice a (leftL x0 x1 x2 x3 x4 x5 x6 x7 st so p most).length C, iV (leftErr x0 x1 x2 x3 x4 x5 x6 x7 st so p most)]) ∧ NewList w0 w' 54 5 (flat srcC (leftL x0 x1 x2 x3 x4 x5 x6 x7 st so p most)) a (leftL x0 x1 x2 x3 x4 x5 x6 x7 st so p most).length C ∧ Below w0.heap.size w0 w') := by
  let vb : List Value := [(iV x0), (iV x1), (iV x2), (iV x3), (iV x4), (iV x5), (iV x6), (iV x7), (.slice ast st.length qst), (.slice aso so.length qso), (.slice ap p.length qp), (iV most)]
  let p0 : Rho := (RO w0 vb [])
  refine At.begin (ρ := p0) (c := f27b0) (@env_ok p0) f27I2 f27a0 (fun a w hat => ?_)
  obtain ⟨y0, hy0⟩ : ∃ y : Int, y = (leftErr x0 x1 x2 x3 x4 x5 x6 x7 st so p most) := ⟨_, rfl⟩
  have K0 : CA w0 64 #[(.agg #[(iV x0), (iV x1), (iV x2), (iV x3), (iV x4), (iV x5), (iV x6), (iV x7), (.slice ast st.length qst), (.slice aso so.length qso), (iV most)]), (.slice ap p.length qp)] (iV y0) := fun w hm => (by rw [hy0]; exact check_any x0 x1 x2 x3 x4 x5 x6 x7 ast st qst aso so qso most ap p qp w (Hst.keep hm) (Hso.keep hm) (Hp.keep hm) (by omega) (by omega) (by omega))
  by_cases c1 : y0 ≠ 0
  · have K1 : KA w0 (.bin .neq 27) [(iV y0), (iV 0)] (.bool true) := fun w hm => k_neq_t c1
    let r0 : Rho := (RO w0 (vb ++ [(iV y0)]) [])
    refine At.lastsV (ρ1 := r0) f27r0 (@env_ok r0) ⟨enk K1, trivial⟩ ⟨cok K0 f27f64, trivial⟩ trivial trivial f27I2 hat (fun w2 hb => ?_)
    have v0 : (y0 : Int) = leftErr x0 x1 x2 x3 x4 x5 x6 x7 st so p most := by
      omega
    have hL : [] = leftL x0 x1 x2 x3 x4 x5 x6 x7 st so p most := by
      unfold leftL
      first | (rw [if_neg (by omega)]; done) | (rw [if_pos (by omega)]; done)
    have hN : (leftL x0 x1 x2 x3 x4 x5 x6 x7 st so p most).length = 0 := by rw [← hL]; rfl
    refine ⟨none, 0, ?_, ⟨?_, .inl ⟨rfl, hN, rfl⟩⟩, hb⟩
    · rw [hN]; exact congrArg Ending.returned (congrArg (fun (y0 : Int) => (.tuple #[.slice none 0 0, iV y0] : Value)) v0)
    · rw [← hL]; rfl
  have K2 : KA w0 (.bin .neq 27) [(iV y0), (iV 0)] (.bool false) := fun w hm => k_neq_f c1
  obtain ⟨v0m, hs2, hst2, hn4, hso2, hp2, hpk2, hm2⟩ := leftErr_ok (x0 := x0) (x1 := x1) (x2 := x2) (x3 := x3) (x4 := x4) (x5 := x5) (x6 := x6) (x7 := x7) (st := st) (so := so) (p := p) (f := most) (by omega)
  let r1 : Rho := (RO w0 (vb ++ [(iV y0), (iV ((((so.filterMap (leftOne x0 x1 x2 x3 x4 x5 x6 x7 st most p)).length : Nat) : Int)))]) [(flat srcC (so.filterMap (leftOne x0 x1 x2 x3 x4 x5 x6 x7 st most p)))])
  refine At.lastsL (ρ1 := r1) (n := (so.filterMap (leftOne x0 x1 x2 x3 x4 x5 x6 x7 st most p)).length) (some [(iV 0)]) f27r1 (@env_ok r1) ⟨enk K2, trivial⟩ ⟨cok K0 f27f64, trivial⟩ trivial ⟨(@CLEntOk.lists r1 Try.prog _ 65 [(.agg #[(sy 0), (sy 1), (sy 2), (sy 3), (sy 4), (sy 5), (sy 6), (sy 7), (sy 8), (sy 9), (sy 11)]), (sy 10)] [] 2 0 54 5 13 (so.filterMap (leftOne x0 x1 x2 x3 x4 x5 x6 x7 st most p)).length (ls 2 13) none rfl ⟨Try.f65, (Try.f65.body).getD .skip, by kernel_rfl, by kernel_rfl⟩ rfl rfl (fun w asg hm hl => left_any x0 x1 x2 x3 x4 x5 x6 x7 ast st qst aso so qso most ap p qp w (Hst.keep hm) (Hso.keep hm) (Hp.keep hm) v0m hst2 hpk2 (by omega) (by omega) (by omega) hso2 hm2)), trivial⟩ f27I2 hat rfl (by show ((flat srcC (so.filterMap (leftOne x0 x1 x2 x3 x4 x5 x6 x7 st most p))) : List Value).length = ((so.filterMap (leftOne x0 x1 x2 x3 x4 x5 x6 x7 st most p)).length) * 5; first | exact flat_len (fun _ => rfl) _ | simp [flat_len (c := srcC) (sz := 5) (fun _ => rfl), srcC] <;> omega) (fun w2 a2 C2 hb hn => ?_)
  have v0 : (0 : Int) = leftErr x0 x1 x2 x3 x4 x5 x6 x7 st so p most := by
    omega
  have hL : (so.filterMap (leftOne x0 x1 x2 x3 x4 x5 x6 x7 st most p)) = leftL x0 x1 x2 x3 x4 x5 x6 x7 st so p most := by
    unfold leftL
    first | (rw [if_neg (by omega)]; done) | (rw [if_pos (by omega)]; done)
  have e1 : (so.filterMap (leftOne x0 x1 x2 x3 x4 x5 x6 x7 st most p)).length = (leftL x0 x1 x2 x3 x4 x5 x6 x7 st so p most).length := by rw [← hL]; try first | rfl | simp | simp [srcC]
  have e2 : ((flat srcC (so.filterMap (leftOne x0 x1 x2 x3 x4 x5 x6 x7 st most p))) : List Value) = flat srcC (leftL x0 x1 x2 x3 x4 x5 x6 x7 st so p most) := by rw [← hL]; try first | rfl | (simp [flat_snoc, srcC]; done) | (simp [flat, srcC]; done)
  have hn2 : NewList w0 w2 54 5 (flat srcC (leftL x0 x1 x2 x3 x4 x5 x6 x7 st so p most)) a2 (leftL x0 x1 x2 x3 x4 x5 x6 x7 st so p most).length C2 := by rw [← e1, ← e2]; exact hn
  have hv := congr (congrArg (fun (n2 : Nat) (y0 : Int) => (.tuple #[.slice a2 n2 C2, iV y0] : Value)) e1) v0
  exact ⟨a2, C2, congrArg Ending.returned hv, hn2, hb⟩
end
end Go.Proofs.Ytoaehigmpbhppaa.En
namespace Go.Proofs.Ytoaehigmpbhppaa.En
open Go Go.Ev Go.Proofs Go.RowKit
noncomputable def alwB (x0 x1 x2 x3 x4 x5 x6 x7 : Int) (st : List Int) (s : Src) (p : Pk) (t : Int) : Bool :=
  if p.kind = 1 then decide (t + trLo x0 x1 x2 x3 x4 x5 x6 x7 s.cell (st.getD p.station.toNat 0) ≤ p.t1 ∧ p.t0 ≤ t + trHi x0 x1 x2 x3 x4 x5 x6 x7 s.cell (st.getD p.station.toNat 0))
  else if p.kind = 2 then decide (stLo x0 x1 x2 x3 x4 x5 x6 x7 s.cls s.cell (st.getD p.station.toNat 0) ≤ p.l1 ∧ p.l0 ≤ stHi x0 x1 x2 x3 x4 x5 x6 x7 s.cls s.cell (st.getD p.station.toNat 0))
  else decide (p.t0 < t + trHi x0 x1 x2 x3 x4 x5 x6 x7 s.cell (st.getD p.station.toNat 0))
noncomputable def agZ (x0 x1 x2 x3 x4 x5 x6 x7 : Int) (st : List Int) (s : Src) (p : List Pk) (t : Int) : Int := ((p.filter (fun q => !alwB x0 x1 x2 x3 x4 x5 x6 x7 st s q t)).length : Nat)
theorem filter_snoc {α : Type} (f : α → Bool) {d : α} {l : List α} {i : Nat} (h : i < l.length) : (l.take (i + 1)).filter f = (l.take i).filter f ++ (if f (l.getD i d) = true then [l.getD i d] else []) := by
  have e : l.getD i d = l[i] := by simp [List.getD, List.getElem?_eq_getElem h]
  rw [e, List.take_succ_eq_append_getElem h, List.filter_append]
  cases hf : f l[i] <;> simp [List.filter_cons, hf]
noncomputable def momOne (x0 x1 x2 x3 x4 x5 x6 x7 : Int) (st : List Int) (s : Src) (p : Pk) : List Int :=
  [wr (p.t0 - trHi x0 x1 x2 x3 x4 x5 x6 x7 s.cell (st.getD p.station.toNat 0)), wr (p.t1 - trLo x0 x1 x2 x3 x4 x5 x6 x7 s.cell (st.getD p.station.toNat 0)), wr (wr (p.t0 - trHi x0 x1 x2 x3 x4 x5 x6 x7 s.cell (st.getD p.station.toNat 0)) + 1)].filter (fun t => decide (s.lo ≤ t ∧ t ≤ s.hi))
noncomputable def momL (x0 x1 x2 x3 x4 x5 x6 x7 : Int) (st : List Int) (s : Src) (p : List Pk) : List Int := [s.lo, s.hi] ++ p.flatMap (momOne x0 x1 x2 x3 x4 x5 x6 x7 st s)
theorem momL_snoc {x0 x1 x2 x3 x4 x5 x6 x7 : Int} {st : List Int} {s : Src} {p : List Pk} {i : Nat} (h : i < p.length) : momL x0 x1 x2 x3 x4 x5 x6 x7 st s (p.take (i + 1)) = momL x0 x1 x2 x3 x4 x5 x6 x7 st s (p.take i) ++ momOne x0 x1 x2 x3 x4 x5 x6 x7 st s (p.getD i pkD) := by
  have e : p.getD i pkD = p[i] := by simp [List.getD, List.getElem?_eq_getElem h]
  rw [e, List.take_succ_eq_append_getElem h]
  simp only [momL, List.flatMap_append, List.flatMap_cons, List.flatMap_nil, List.append_nil, List.append_assoc]
theorem momOne_len {x0 x1 x2 x3 x4 x5 x6 x7 : Int} {st : List Int} {s : Src} {p : Pk} : (momOne x0 x1 x2 x3 x4 x5 x6 x7 st s p).length ≤ 3 := Nat.le_trans (List.length_filter_le _ _) (by simp)
theorem momL_len {x0 x1 x2 x3 x4 x5 x6 x7 : Int} {st : List Int} {s : Src} : ∀ {p : List Pk}, (momL x0 x1 x2 x3 x4 x5 x6 x7 st s p).length ≤ 2 + 3 * p.length
  | [] => by simp [momL]
  | q :: p => by
    have := momL_len (x0 := x0) (x1 := x1) (x2 := x2) (x3 := x3) (x4 := x4) (x5 := x5) (x6 := x6) (x7 := x7) (st := st) (s := s) (p := p)
    have h := momOne_len (x0 := x0) (x1 := x1) (x2 := x2) (x3 := x3) (x4 := x4) (x5 := x5) (x6 := x6) (x7 := x7) (st := st) (s := s) (p := q)
    simp only [momL, List.flatMap_cons, List.length_append, List.length_cons, List.length_nil] at this ⊢
    omega
theorem momL_in {x0 x1 x2 x3 x4 x5 x6 x7 : Int} {st : List Int} {s : Src} {p : List Pk} (h : s.lo ≤ s.hi) : ∀ t ∈ momL x0 x1 x2 x3 x4 x5 x6 x7 st s p, s.lo ≤ t ∧ t ≤ s.hi := by
  intro t ht
  simp only [momL, List.mem_append, List.mem_cons, List.not_mem_nil, or_false, List.mem_flatMap] at ht
  rcases ht with (rfl | rfl) | ⟨q, _, hq⟩
  · omega
  · omega
  · unfold momOne at hq
    simp only [List.mem_filter, decide_eq_true_eq] at hq
    exact hq.2
/-- The span of those moments against which at most f picks stand. -/
def rlStep (ag : Int → Int) (f : Int) (a : Int × Int × Bool) (t : Int) : Int × Int × Bool :=
  if f < ag t then a else if a.2.2 = true then (min a.1 t, max a.2.1 t, true) else (t, t, true)
def rlZ (ag : Int → Int) (f : Int) (l : List Int) : Int × Int × Bool := l.foldl (rlStep ag f) (0, 0, false)
theorem rlZ_snoc {ag : Int → Int} {f : Int} {l : List Int} {i : Nat} (h : i < l.length) : rlZ ag f (l.take (i + 1)) = rlStep ag f (rlZ ag f (l.take i)) (l.getD i 0) := by
  have e : l.getD i 0 = l[i] := by simp [List.getD, List.getElem?_eq_getElem h]
  rw [e, List.take_succ_eq_append_getElem h]
  simp only [rlZ, List.foldl_append, List.foldl_cons, List.foldl_nil]
end Go.Proofs.Ytoaehigmpbhppaa.En
namespace Go.Proofs.Ytoaehigmpbhppaa.En
open Go Go.Ev Go.Proofs Go.RowKit
set_option maxRecDepth 1000000
noncomputable section
def f51b0 : Code := (Try.f51.body).getD .skip
def f51F0 : Fr := mkFr Try.f51 [(0, (ag 0 8)), (1, (sy 8)), (2, (sy 9)), (3, (sy 10))] []
def f51S1 : St := mkSt 0 []
theorem f51I2 : IdOk 11 0 0 f51F0 f51S1 := ⟨mkSt_wf rfl, by kernel_rfl⟩
theorem f51f83 : FnIn env 83 := ⟨Try.f83, (Try.f83.body).getD .skip, by kernel_rfl, by kernel_rfl⟩
theorem f51f85 : FnIn env 85 := ⟨Try.f85, (Try.f85.body).getD .skip, by kernel_rfl, by kernel_rfl⟩
def f51n3 : List Ent := aB .add (sy 18) (sy 7) (sy 19) :: aB .sub (sy 13) (sy 17) (sy 18) :: aB .sub (sy 15) (sy 7) (sy 16) :: aB .sub (sy 13) (sy 14) (sy 15) :: aB .mul (iV 100) (sy 8) (sy 13) :: []
def f51n4 : List CEnt := ⟨85, [(sy 11)], [], (sy 17)⟩ :: ⟨85, [(sy 12)], [], (sy 14)⟩ :: ⟨83, [(ag 0 8), (sy 9), (sy 10)], [], (ag 11 2)⟩ :: []
theorem f51a0 : agreeL (ids 11) [] [] f51F0 f51S1 (frameOf Try.f51 [(ag 0 8), (sy 8), (sy 9), (sy 10)]) Ev.start = true := by kernel_rfl
theorem f51r0 : lE f51n3 f51n4 [] [] f51b0 f51F0 f51S1 Try.f51 (endV (.agg #[(sy 16), (sy 19)])) = some () := by kernel_rfl
set_option maxHeartbeats 8000000 in
theorem rstr_any (x0 : Int) (x1 : Int) (x2 : Int) (x3 : Int) (x4 : Int) (x5 : Int) (x6 : Int) (x7 : Int) (cls ca cb : Int) (w0 : World) (v : ModOk x0 x1 x2 x3 x4 x5 x6 x7) (hc : 1 ≤ cls ∧ cls ≤ 10) (h8 : 0 ≤ ca ∧ ca < x0 * x1) (h9 : 0 ≤ cb ∧ cb < x0 * x1) : Calls Try.prog 51 #[(mV x0 x1 x2 x3 x4 x5 x6 x7), (iV cls), (iV ca), (iV cb)] w0 (fun en w' => en = .returned (.agg #[iV (stLo x0 x1 x2 x3 x4 x5 x6 x7 cls ca cb), iV (stHi x0 x1 x2 x3 x4 x5 x6 x7 cls ca cb)]) ∧ Below w0.heap.size w0 w') := by
  have v0m := v
  obtain ⟨v0, v1, v2, v3, v5, v7⟩ := v
  have hx := mul_bd (a := x0) (b := x1) (A := 24) (B := 24) (C := 576) (by omega) (by omega) (by omega) (by omega)
  let vb : List Value := [(iV x0), (iV x1), (iV x2), (iV x3), (iV x4), (iV x5), (iV x6), (iV x7), (iV cls), (iV ca), (iV cb)]
  let p0 : Rho := (RO w0 vb [])
  refine At.begin (ρ := p0) (c := f51b0) (@env_ok p0) f51I2 f51a0 (fun a w hat => ?_)
  obtain ⟨y0, hy0⟩ : ∃ y : Int, y = (dist0 x0 x1 x2 x3 x4 x5 x6 x7 (ca) (cb)) := ⟨_, rfl⟩
  obtain ⟨y1, hy1⟩ : ∃ y : Int, y = (dist1 x0 x1 x2 x3 x4 x5 x6 x7 (ca) (cb)) := ⟨_, rfl⟩
  have hdy0 := dist_bd v0 v1 v2 v3 v5 v7 (x8 := (ca)) (x9 := (cb)) (by omega) (by omega)
  rw [← hy0, ← hy1] at hdy0
  have K0 : CA w0 83 #[(mV x0 x1 x2 x3 x4 x5 x6 x7), (iV ca), (iV cb)] (.agg #[(iV y0), (iV y1)]) := fun w hm => (by rw [hy0, hy1]; exact rdist_any x0 x1 x2 x3 x4 x5 x6 x7 (ca) (cb)  (by omega) (by omega) (by omega) (by omega) (by omega) (by omega) (by omega) (by omega) w)
  have K1 : KA w0 (.bin .mul 3) [(iV 100), (iV cls)] (iV ((100 * cls))) := fun w hm => k_mul (wrap64 (by omega))
  have hfy1 := fall_bd (d := y1) (by omega) (by omega)
  have K2 : CA w0 85 #[(iV y1)] (iV ((fallZ y1))) := fun w hm => rfall_any y1  (by omega) (by omega) w
  have K3 := kSub w0 ((100 * cls)) ((fallZ y1)) (by omega)
  have K4 := kSub w0 (((100 * cls) - (fallZ y1))) x7 (by omega)
  have hfy0 := fall_bd (d := y0) (by omega) (by omega)
  have K5 : CA w0 85 #[(iV y0)] (iV ((fallZ y0))) := fun w hm => rfall_any y0  (by omega) (by omega) w
  have K6 := kSub w0 ((100 * cls)) ((fallZ y0)) (by omega)
  have K7 := kAdd w0 (((100 * cls) - (fallZ y0))) x7 (by omega)
  let r0 : Rho := (RO w0 (vb ++ [(iV y0), (iV y1), (iV ((100 * cls))), (iV ((fallZ y1))), (iV (((100 * cls) - (fallZ y1)))), (iV ((((100 * cls) - (fallZ y1)) - x7))), (iV ((fallZ y0))), (iV (((100 * cls) - (fallZ y0)))), (iV ((((100 * cls) - (fallZ y0)) + x7)))]) [])
  refine At.lastsV (ρ1 := r0) f51r0 (@env_ok r0) ⟨enk K7, enk K6, enk K4, enk K3, enk K1, trivial⟩ ⟨cok K5 f51f85, cok K2 f51f85, cok K0 f51f83, trivial⟩ trivial trivial f51I2 hat (fun w2 hb => ?_)
  have v0 : ((((100 * cls) - (fallZ y1)) - x7) : Int) = stLo x0 x1 x2 x3 x4 x5 x6 x7 cls ca cb := by
    unfold stLo
    rw [← hy1]
  have v1 : ((((100 * cls) - (fallZ y0)) + x7) : Int) = stHi x0 x1 x2 x3 x4 x5 x6 x7 cls ca cb := by
    unfold stHi
    rw [← hy0]
  have hv := congr (congrArg (fun (y0 : Int) (y1 : Int) => ((.agg #[(iV y0), (iV y1)]) : Value)) v0) v1
  exact ⟨congrArg Ending.returned hv, hb⟩
def f100b0 : Code := (Try.f100.body).getD .skip
def f100F0 : Fr := mkFr Try.f100 [(0, (ag 0 8)), (1, (sy 8)), (2, (ag 9 5)), (3, (ag 14 6)), (4, (sy 20))] []
def f100S1 : St := mkSt 0 []
theorem f100I2 : IdOk 21 0 0 f100F0 f100S1 := ⟨mkSt_wf rfl, by kernel_rfl⟩
theorem f100f47 : FnIn env 47 := ⟨Try.f47, (Try.f47.body).getD .skip, by kernel_rfl, by kernel_rfl⟩
theorem f100f51 : FnIn env 51 := ⟨Try.f51, (Try.f51.body).getD .skip, by kernel_rfl, by kernel_rfl⟩
def f100n3 : List Ent := ⟨(.load 3), [(sy 21)], (sy 22)⟩ :: ⟨(.indexAddr 37), [(sy 8), (sy 15)], (sy 21)⟩ :: []
def f100n4 : List CEnt := ⟨51, [(ag 0 8), (sy 11), (sy 10), (sy 22)], [], (ag 25 2)⟩ :: ⟨47, [(ag 0 8), (sy 10), (sy 22)], [], (ag 23 2)⟩ :: []
def f100n5 : List Ent := aB .add (sy 20) (sy 23) (sy 27) :: cB .eql (sy 14) (iV 1) true :: f100n3
def f100n6 : List Ent := aB .add (sy 20) (sy 24) (sy 28) :: cB .leq (sy 27) (sy 17) true :: f100n5
def f100n7 : List Ent := cB .geq (sy 28) (sy 16) true :: f100n6
def f100n8 : List Ent := cB .geq (sy 28) (sy 16) false :: f100n6
def f100n9 : List Ent := cB .leq (sy 27) (sy 17) false :: f100n5
def f100n10 : List Ent := cB .eql (sy 14) (iV 1) false :: f100n3
def f100n11 : List Ent := cB .eql (sy 14) (iV 2) true :: f100n10
def f100n12 : List Ent := cB .leq (sy 25) (sy 19) true :: f100n11
def f100n13 : List Ent := cB .geq (sy 26) (sy 18) true :: f100n12
def f100n14 : List Ent := cB .geq (sy 26) (sy 18) false :: f100n12
def f100n15 : List Ent := cB .leq (sy 25) (sy 19) false :: f100n11
def f100n16 : List Ent := aB .add (sy 20) (sy 24) (sy 27) :: cB .eql (sy 14) (iV 2) false :: f100n10
def f100n17 : List Ent := cB .gtr (sy 27) (sy 16) true :: f100n16
def f100n18 : List Ent := cB .gtr (sy 27) (sy 16) false :: f100n16
theorem f100a0 : agreeL (ids 21) [] [] f100F0 f100S1 (frameOf Try.f100 [(ag 0 8), (sy 8), (ag 9 5), (ag 14 6), (sy 20)]) Ev.start = true := by kernel_rfl
theorem f100r0 : lE f100n7 f100n4 [] [] f100b0 f100F0 f100S1 Try.f100 (endV (.bool true)) = some () := by kernel_rfl
theorem f100r1 : lE f100n8 f100n4 [] [] f100b0 f100F0 f100S1 Try.f100 (endV (.bool false)) = some () := by kernel_rfl
theorem f100r2 : lE f100n9 f100n4 [] [] f100b0 f100F0 f100S1 Try.f100 (endV (.bool false)) = some () := by kernel_rfl
theorem f100r3 : lE f100n13 f100n4 [] [] f100b0 f100F0 f100S1 Try.f100 (endV (.bool true)) = some () := by kernel_rfl
theorem f100r4 : lE f100n14 f100n4 [] [] f100b0 f100F0 f100S1 Try.f100 (endV (.bool false)) = some () := by kernel_rfl
theorem f100r5 : lE f100n15 f100n4 [] [] f100b0 f100F0 f100S1 Try.f100 (endV (.bool false)) = some () := by kernel_rfl
theorem f100r6 : lE f100n17 f100n4 [] [] f100b0 f100F0 f100S1 Try.f100 (endV (.bool true)) = some () := by kernel_rfl
theorem f100r7 : lE f100n18 f100n4 [] [] f100b0 f100F0 f100S1 Try.f100 (endV (.bool false)) = some () := by kernel_rfl
set_option maxHeartbeats 8000000 in
theorem allows_any (x0 : Int) (x1 : Int) (x2 : Int) (x3 : Int) (x4 : Int) (x5 : Int) (x6 : Int) (x7 : Int) (ast : Option Addr) (st : List Int) (qst : Nat) (s : Src) (p : Pk) (t : Int) (w0 : World) {tst : TypeId} (Hst : Lies w0 tst (flat intC st) ast st.length) (v : ModOk x0 x1 x2 x3 x4 x5 x6 x7) (hcell : 0 ≤ s.cell ∧ s.cell < x0 * x1) (hcls : 1 ≤ s.cls ∧ s.cls ≤ 10) (hst : StOk x0 x1 st) (hn1 : st.length < 1000000) (hp : pkErr st.length p = 0) (ht : 0 ≤ t ∧ t ≤ 1000000000) : Calls Try.prog 100 #[(mV x0 x1 x2 x3 x4 x5 x6 x7), (.slice ast st.length qst), (.agg #[(iV s.kind), (iV s.cell), (iV s.cls), (iV s.lo), (iV s.hi)]), (.agg #[(iV p.kind), (iV p.station), (iV p.t0), (iV p.t1), (iV p.l0), (iV p.l1)]), (iV t)] w0 (fun en w' => en = .returned (.bool (decide (alwB x0 x1 x2 x3 x4 x5 x6 x7 st s p t = true))) ∧ Below w0.heap.size w0 w') := by
  have v0m := v
  obtain ⟨v0, v1, v2, v3, v5, v7⟩ := v
  have hx := mul_bd (a := x0) (b := x1) (A := 24) (B := 24) (C := 576) (by omega) (by omega) (by omega) (by omega)
  obtain ⟨ek, es, el, et⟩ := pkErr_ok hp
  let vb : List Value := [(iV x0), (iV x1), (iV x2), (iV x3), (iV x4), (iV x5), (iV x6), (iV x7), (.slice ast st.length qst), (iV s.kind), (iV s.cell), (iV s.cls), (iV s.lo), (iV s.hi), (iV p.kind), (iV p.station), (iV p.t0), (iV p.t1), (iV p.l0), (iV p.l1), (iV t)]
  let p0 : Rho := (RO w0 vb [])
  refine At.begin (ρ := p0) (c := f100b0) (@env_ok p0) f100I2 f100a0 (fun a w hat => ?_)
  have K0 : KA w0 (.indexAddr 37) [(.slice ast st.length qst), (iV p.station)] (.pointer (ptrO ast ((p.station).toNat * 1))) := fun w hm => l_index (Hst.keep hm) Try.underlying37 (by kernel_rfl) (by omega) (by omega)
  obtain ⟨z0, hz0⟩ : ∃ z : Int, z = st.getD (p.station).toNat 0 := ⟨_, rfl⟩
  have ez0 := hst (p.station).toNat (by omega)
  rw [← hz0] at ez0
  have K1 : KA w0 (.load 3) [(.pointer (ptrO ast ((p.station).toNat * 1)))] (iV z0) := fun w hm => l_load (Hst.keep hm) (by omega) Try.underlying3 rfl (flat_getz (c := intC) (sz := 1) (fun _ => rfl) hz0 (by omega) 0 _ rfl)
  obtain ⟨y1, hy1⟩ : ∃ y : Int, y = (trLo x0 x1 x2 x3 x4 x5 x6 x7 s.cell z0) := ⟨_, rfl⟩
  obtain ⟨y2, hy2⟩ : ∃ y : Int, y = (trHi x0 x1 x2 x3 x4 x5 x6 x7 s.cell z0) := ⟨_, rfl⟩
  have hqy1 := tr_bd v0m (x8 := s.cell) (x9 := z0) (by omega) (by omega)
  rw [← hy1, ← hy2] at hqy1
  have K2 : CA w0 47 #[(mV x0 x1 x2 x3 x4 x5 x6 x7), (iV s.cell), (iV z0)] (.agg #[(iV y1), (iV y2)]) := fun w hm => (by rw [hy1, hy2]; exact rtr_any x0 x1 x2 x3 x4 x5 x6 x7 s.cell z0 w  v0m (by omega) (by omega))
  obtain ⟨y3, hy3⟩ : ∃ y : Int, y = (stLo x0 x1 x2 x3 x4 x5 x6 x7 s.cls s.cell z0) := ⟨_, rfl⟩
  obtain ⟨y4, hy4⟩ : ∃ y : Int, y = (stHi x0 x1 x2 x3 x4 x5 x6 x7 s.cls s.cell z0) := ⟨_, rfl⟩
  have hqy3 := st_bd v0m (cls := s.cls) (a := s.cell) (b := z0) (by omega) (by omega) (by omega)
  rw [← hy3, ← hy4] at hqy3
  have K3 : CA w0 51 #[(mV x0 x1 x2 x3 x4 x5 x6 x7), (iV s.cls), (iV s.cell), (iV z0)] (.agg #[(iV y3), (iV y4)]) := fun w hm => (by rw [hy3, hy4]; exact rstr_any x0 x1 x2 x3 x4 x5 x6 x7 s.cls s.cell z0 w  v0m (by omega) (by omega) (by omega))
  by_cases c5 : p.kind = 1
  · have K4 := kAdd w0 t y1 (by omega)
    by_cases c6 : (t + y1) ≤ p.t1
    · have K5 := kAdd w0 t y2 (by omega)
      by_cases c7 : (t + y2) ≥ p.t0
      · let r0 : Rho := (RO w0 (vb ++ [(.pointer (ptrO ast ((p.station).toNat * 1))), (iV z0), (iV y1), (iV y2), (iV y3), (iV y4), (iV ((t + y1))), (iV ((t + y2)))]) [])
        refine At.lastsV (ρ1 := r0) f100r0 (@env_ok r0) ⟨enk (kgeqt c7), enk K5, enk (kleqt c6), enk K4, enk (keqlt c5), enk K1, enk K0, trivial⟩ ⟨cok K3 f100f51, cok K2 f100f47, trivial⟩ trivial trivial f100I2 hat (fun w2 hb => ?_)
        have v0 : (true : Bool) = decide (alwB x0 x1 x2 x3 x4 x5 x6 x7 st s p t = true) := by
          have hA : alwB x0 x1 x2 x3 x4 x5 x6 x7 st s p t = true := by
            unfold alwB
            rw [← hz0]
            rw [← hy1, ← hy2, ← hy3, ← hy4]
            first
              | (rw [if_pos (by omega)]; first | exact decide_eq_true (by omega) | exact decide_eq_false (by omega))
              | (rw [if_neg (by omega), if_pos (by omega)]; first | exact decide_eq_true (by omega) | exact decide_eq_false (by omega))
              | (rw [if_neg (by omega), if_neg (by omega)]; first | exact decide_eq_true (by omega) | exact decide_eq_false (by omega))
          rw [hA]
          rfl
        have hv := congrArg (fun (y0 : Bool) => ((.bool y0) : Value)) v0
        exact ⟨congrArg Ending.returned hv, hb⟩
      let r1 : Rho := (RO w0 (vb ++ [(.pointer (ptrO ast ((p.station).toNat * 1))), (iV z0), (iV y1), (iV y2), (iV y3), (iV y4), (iV ((t + y1))), (iV ((t + y2)))]) [])
      refine At.lastsV (ρ1 := r1) f100r1 (@env_ok r1) ⟨enk (kgeqf c7), enk K5, enk (kleqt c6), enk K4, enk (keqlt c5), enk K1, enk K0, trivial⟩ ⟨cok K3 f100f51, cok K2 f100f47, trivial⟩ trivial trivial f100I2 hat (fun w2 hb => ?_)
      have v0 : (false : Bool) = decide (alwB x0 x1 x2 x3 x4 x5 x6 x7 st s p t = true) := by
        have hA : alwB x0 x1 x2 x3 x4 x5 x6 x7 st s p t = false := by
          unfold alwB
          rw [← hz0]
          rw [← hy1, ← hy2, ← hy3, ← hy4]
          first
            | (rw [if_pos (by omega)]; first | exact decide_eq_true (by omega) | exact decide_eq_false (by omega))
            | (rw [if_neg (by omega), if_pos (by omega)]; first | exact decide_eq_true (by omega) | exact decide_eq_false (by omega))
            | (rw [if_neg (by omega), if_neg (by omega)]; first | exact decide_eq_true (by omega) | exact decide_eq_false (by omega))
        rw [hA]
        rfl
      have hv := congrArg (fun (y0 : Bool) => ((.bool y0) : Value)) v0
      exact ⟨congrArg Ending.returned hv, hb⟩
    let r2 : Rho := (RO w0 (vb ++ [(.pointer (ptrO ast ((p.station).toNat * 1))), (iV z0), (iV y1), (iV y2), (iV y3), (iV y4), (iV ((t + y1)))]) [])
    refine At.lastsV (ρ1 := r2) f100r2 (@env_ok r2) ⟨enk (kleqf c6), enk K4, enk (keqlt c5), enk K1, enk K0, trivial⟩ ⟨cok K3 f100f51, cok K2 f100f47, trivial⟩ trivial trivial f100I2 hat (fun w2 hb => ?_)
    have v0 : (false : Bool) = decide (alwB x0 x1 x2 x3 x4 x5 x6 x7 st s p t = true) := by
      have hA : alwB x0 x1 x2 x3 x4 x5 x6 x7 st s p t = false := by
        unfold alwB
        rw [← hz0]
        rw [← hy1, ← hy2, ← hy3, ← hy4]
        first
          | (rw [if_pos (by omega)]; first | exact decide_eq_true (by omega) | exact decide_eq_false (by omega))
          | (rw [if_neg (by omega), if_pos (by omega)]; first | exact decide_eq_true (by omega) | exact decide_eq_false (by omega))
          | (rw [if_neg (by omega), if_neg (by omega)]; first | exact decide_eq_true (by omega) | exact decide_eq_false (by omega))
      rw [hA]
      rfl
    have hv := congrArg (fun (y0 : Bool) => ((.bool y0) : Value)) v0
    exact ⟨congrArg Ending.returned hv, hb⟩
  by_cases c8 : p.kind = 2
  · by_cases c9 : y3 ≤ p.l1
    · by_cases c10 : y4 ≥ p.l0
      · let r3 : Rho := (RO w0 (vb ++ [(.pointer (ptrO ast ((p.station).toNat * 1))), (iV z0), (iV y1), (iV y2), (iV y3), (iV y4)]) [])
        refine At.lastsV (ρ1 := r3) f100r3 (@env_ok r3) ⟨enk (kgeqt c10), enk (kleqt c9), enk (keqlt c8), enk (keqlf c5), enk K1, enk K0, trivial⟩ ⟨cok K3 f100f51, cok K2 f100f47, trivial⟩ trivial trivial f100I2 hat (fun w2 hb => ?_)
        have v0 : (true : Bool) = decide (alwB x0 x1 x2 x3 x4 x5 x6 x7 st s p t = true) := by
          have hA : alwB x0 x1 x2 x3 x4 x5 x6 x7 st s p t = true := by
            unfold alwB
            rw [← hz0]
            rw [← hy1, ← hy2, ← hy3, ← hy4]
            first
              | (rw [if_pos (by omega)]; first | exact decide_eq_true (by omega) | exact decide_eq_false (by omega))
              | (rw [if_neg (by omega), if_pos (by omega)]; first | exact decide_eq_true (by omega) | exact decide_eq_false (by omega))
              | (rw [if_neg (by omega), if_neg (by omega)]; first | exact decide_eq_true (by omega) | exact decide_eq_false (by omega))
          rw [hA]
          rfl
        have hv := congrArg (fun (y0 : Bool) => ((.bool y0) : Value)) v0
        exact ⟨congrArg Ending.returned hv, hb⟩
      let r4 : Rho := (RO w0 (vb ++ [(.pointer (ptrO ast ((p.station).toNat * 1))), (iV z0), (iV y1), (iV y2), (iV y3), (iV y4)]) [])
      refine At.lastsV (ρ1 := r4) f100r4 (@env_ok r4) ⟨enk (kgeqf c10), enk (kleqt c9), enk (keqlt c8), enk (keqlf c5), enk K1, enk K0, trivial⟩ ⟨cok K3 f100f51, cok K2 f100f47, trivial⟩ trivial trivial f100I2 hat (fun w2 hb => ?_)
      have v0 : (false : Bool) = decide (alwB x0 x1 x2 x3 x4 x5 x6 x7 st s p t = true) := by
        have hA : alwB x0 x1 x2 x3 x4 x5 x6 x7 st s p t = false := by
          unfold alwB
          rw [← hz0]
          rw [← hy1, ← hy2, ← hy3, ← hy4]
          first
            | (rw [if_pos (by omega)]; first | exact decide_eq_true (by omega) | exact decide_eq_false (by omega))
            | (rw [if_neg (by omega), if_pos (by omega)]; first | exact decide_eq_true (by omega) | exact decide_eq_false (by omega))
            | (rw [if_neg (by omega), if_neg (by omega)]; first | exact decide_eq_true (by omega) | exact decide_eq_false (by omega))
        rw [hA]
        rfl
      have hv := congrArg (fun (y0 : Bool) => ((.bool y0) : Value)) v0
      exact ⟨congrArg Ending.returned hv, hb⟩
    let r5 : Rho := (RO w0 (vb ++ [(.pointer (ptrO ast ((p.station).toNat * 1))), (iV z0), (iV y1), (iV y2), (iV y3), (iV y4)]) [])
    refine At.lastsV (ρ1 := r5) f100r5 (@env_ok r5) ⟨enk (kleqf c9), enk (keqlt c8), enk (keqlf c5), enk K1, enk K0, trivial⟩ ⟨cok K3 f100f51, cok K2 f100f47, trivial⟩ trivial trivial f100I2 hat (fun w2 hb => ?_)
    have v0 : (false : Bool) = decide (alwB x0 x1 x2 x3 x4 x5 x6 x7 st s p t = true) := by
      have hA : alwB x0 x1 x2 x3 x4 x5 x6 x7 st s p t = false := by
        unfold alwB
        rw [← hz0]
        rw [← hy1, ← hy2, ← hy3, ← hy4]
        first
          | (rw [if_pos (by omega)]; first | exact decide_eq_true (by omega) | exact decide_eq_false (by omega))
          | (rw [if_neg (by omega), if_pos (by omega)]; first | exact decide_eq_true (by omega) | exact decide_eq_false (by omega))
          | (rw [if_neg (by omega), if_neg (by omega)]; first | exact decide_eq_true (by omega) | exact decide_eq_false (by omega))
      rw [hA]
      rfl
    have hv := congrArg (fun (y0 : Bool) => ((.bool y0) : Value)) v0
    exact ⟨congrArg Ending.returned hv, hb⟩
  have K6 := kAdd w0 t y2 (by omega)
  by_cases c11 : (t + y2) > p.t0
  · let r6 : Rho := (RO w0 (vb ++ [(.pointer (ptrO ast ((p.station).toNat * 1))), (iV z0), (iV y1), (iV y2), (iV y3), (iV y4), (iV ((t + y2)))]) [])
    refine At.lastsV (ρ1 := r6) f100r6 (@env_ok r6) ⟨enk (kgtrt c11), enk K6, enk (keqlf c8), enk (keqlf c5), enk K1, enk K0, trivial⟩ ⟨cok K3 f100f51, cok K2 f100f47, trivial⟩ trivial trivial f100I2 hat (fun w2 hb => ?_)
    have v0 : (true : Bool) = decide (alwB x0 x1 x2 x3 x4 x5 x6 x7 st s p t = true) := by
      have hA : alwB x0 x1 x2 x3 x4 x5 x6 x7 st s p t = true := by
        unfold alwB
        rw [← hz0]
        rw [← hy1, ← hy2, ← hy3, ← hy4]
        first
          | (rw [if_pos (by omega)]; first | exact decide_eq_true (by omega) | exact decide_eq_false (by omega))
          | (rw [if_neg (by omega), if_pos (by omega)]; first | exact decide_eq_true (by omega) | exact decide_eq_false (by omega))
          | (rw [if_neg (by omega), if_neg (by omega)]; first | exact decide_eq_true (by omega) | exact decide_eq_false (by omega))
      rw [hA]
      rfl
    have hv := congrArg (fun (y0 : Bool) => ((.bool y0) : Value)) v0
    exact ⟨congrArg Ending.returned hv, hb⟩
  let r7 : Rho := (RO w0 (vb ++ [(.pointer (ptrO ast ((p.station).toNat * 1))), (iV z0), (iV y1), (iV y2), (iV y3), (iV y4), (iV ((t + y2)))]) [])
  refine At.lastsV (ρ1 := r7) f100r7 (@env_ok r7) ⟨enk (kgtrf c11), enk K6, enk (keqlf c8), enk (keqlf c5), enk K1, enk K0, trivial⟩ ⟨cok K3 f100f51, cok K2 f100f47, trivial⟩ trivial trivial f100I2 hat (fun w2 hb => ?_)
  have v0 : (false : Bool) = decide (alwB x0 x1 x2 x3 x4 x5 x6 x7 st s p t = true) := by
    have hA : alwB x0 x1 x2 x3 x4 x5 x6 x7 st s p t = false := by
      unfold alwB
      rw [← hz0]
      rw [← hy1, ← hy2, ← hy3, ← hy4]
      first
        | (rw [if_pos (by omega)]; first | exact decide_eq_true (by omega) | exact decide_eq_false (by omega))
        | (rw [if_neg (by omega), if_pos (by omega)]; first | exact decide_eq_true (by omega) | exact decide_eq_false (by omega))
        | (rw [if_neg (by omega), if_neg (by omega)]; first | exact decide_eq_true (by omega) | exact decide_eq_false (by omega))
    rw [hA]
    rfl
  have hv := congrArg (fun (y0 : Bool) => ((.bool y0) : Value)) v0
  exact ⟨congrArg Ending.returned hv, hb⟩
end
end Go.Proofs.Ytoaehigmpbhppaa.En
