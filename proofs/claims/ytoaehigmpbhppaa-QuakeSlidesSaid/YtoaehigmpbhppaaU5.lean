/-
  Travel times; when the quakes of some sources can set off a slide.
-/
import Derived.Test.YtoaehigmpbhppaaU4
namespace Go.Proofs.Ytoaehigmpbhppaa.En
open Go Go.Ev Go.Proofs Go.RowKit
set_option linter.unusedSimpArgs false
set_option linter.unusedVariables false
noncomputable def trq_b0 : Code := (Try.f44.body).getD .skip

noncomputable def trq_fr0 : Fr := mkFr Try.f44 [(0, (.agg #[(.chan (.some 0)), (.chan (.some 1)), (.chan (.some 2)), (.chan (.some 3)), (.chan (.some 4)), (.chan (.some 5)), (.chan (.some 6)), (.chan (.some 7))])), (1, (.agg #[(.chan (.some 8)), (.chan (.some 9))]))] []
noncomputable def trq_st0 : St := mkSt 0 []
theorem trq_wf0 : trq_st0.Wf := mkSt_wf rfl
set_option maxRecDepth 1000000 in
theorem trq_id0 : agreeL [sy 0, sy 1, sy 2, sy 3, sy 4, sy 5, sy 6, sy 7, sy 8, sy 9] [] [] trq_fr0 trq_st0 trq_fr0 trq_st0 = true := by kernel_rfl

set_option maxRecDepth 1000000 in
theorem trq_a0 : agreeL [sy 0, sy 1, sy 2, sy 3, sy 4, sy 5, sy 6, sy 7, sy 8, sy 9] [] [] trq_fr0 trq_st0 (frameOf Try.f44 [(.agg #[(.chan (.some 0)), (.chan (.some 1)), (.chan (.some 2)), (.chan (.some 3)), (.chan (.some 4)), (.chan (.some 5)), (.chan (.some 6)), (.chan (.some 7))]), (.agg #[(.chan (.some 8)), (.chan (.some 9))])]) Ev.start = true := by kernel_rfl

noncomputable def trq_e0 : List Ent := [⟨(.bin .mul 3), [(iV 1000), (sy 8)], (sy 10)⟩, ⟨(.bin .quo 3), [(sy 10), (sy 4)], (sy 11)⟩, ⟨(.bin .mul 3), [(iV 1000), (sy 9)], (sy 12)⟩, ⟨(.bin .add 3), [(sy 12), (sy 3)], (sy 13)⟩, ⟨(.bin .sub 3), [(sy 13), (iV 1)], (sy 14)⟩, ⟨(.bin .quo 3), [(sy 14), (sy 3)], (sy 15)⟩]
noncomputable def trq_c0 : List CEnt := []
noncomputable def trq_l0 : List LEnt := []
noncomputable def trq_cl0 : List CLEnt := []

set_option maxRecDepth 1000000 in
theorem trq_r0 : ev Try.prog (env.symL trq_e0 trq_c0 trq_l0 trq_cl0) 3000 (.code trq_b0 none trq_fr0 trq_st0 (retK (env.symL trq_e0 trq_c0 trq_l0 trq_cl0) Try.f44 (endV (.agg #[(sy 11), (sy 15)])))) = some () := by kernel_rfl

set_option maxHeartbeats 8000000 in
set_option maxRecDepth 100000 in
theorem trq_any (x0 : Int) (x1 : Int) (x2 : Int) (x3 : Int) (x4 : Int) (x5 : Int) (x6 : Int) (x7 : Int) (x8 : Int) (x9 : Int) (w0 : World) (v : ModOk x0 x1 x2 x3 x4 x5 x6 x7) (h8 : 0 ≤ x8 ∧ x8 ≤ 1048576) (h9 : 0 ≤ x9 ∧ x9 ≤ 1048576) : Calls Try.prog 44 #[(.agg #[(iV x0), (iV x1), (iV x2), (iV x3), (iV x4), (iV x5), (iV x6), (iV x7)]), (.agg #[(iV x8), (iV x9)])] w0 (fun en w' => en = .returned (.agg #[iV (1000 * x8 / x4), iV ((1000 * x9 + x3 - 1) / x3)]) ∧ Below w0.heap.size w0 w') := by
  have v0m := v
  obtain ⟨v0, v1, v2, v3, v5, v7⟩ := v
  have hx := mul_bd (a := x0) (b := x1) (A := 24) (B := 24) (C := 576) (by omega) (by omega) (by omega) (by omega)
  have d1 := div_bd (a := 1000 * x8) (b := x4) (A := 1048576000) (by omega) (by omega) (by omega) (by omega)
  have d2 := div_bd (a := 1000 * x9 + x3 - 1) (b := x3) (A := 1048620000) (by omega) (by omega) (by omega) (by omega)
  refine @calls_of_body (Rho.of [(iV x0), (iV x1), (iV x2), (iV x3), (iV x4), (iV x5), (iV x6), (iV x7), (iV x8), (iV x9)] (fun b => w0.heap[b]?) []) Try.prog env (@env_ok (Rho.of [(iV x0), (iV x1), (iV x2), (iV x3), (iV x4), (iV x5), (iV x6), (iV x7), (iV x8), (iV x9)] (fun b => w0.heap[b]?) [])) 44 Try.f44 trq_b0 [(.agg #[(.chan (.some 0)), (.chan (.some 1)), (.chan (.some 2)), (.chan (.some 3)), (.chan (.some 4)), (.chan (.some 5)), (.chan (.some 6)), (.chan (.some 7))]), (.agg #[(.chan (.some 8)), (.chan (.some 9))])] w0 _ (by kernel_rfl) (by kernel_rfl) (of_decide_eq_true (by kernel_rfl)) (of_decide_eq_true (by kernel_rfl)) rfl (fun _ _ h => h) (fun a hat0 => ?_)
  have hat : @At (Rho.of [(iV x0), (iV x1), (iV x2), (iV x3), (iV x4), (iV x5), (iV x6), (iV x7), (iV x8), (iV x9)] (fun b => w0.heap[b]?) []) w0 trq_fr0 trq_st0 a w0 := At.shiftL (σ := [sy 0, sy 1, sy 2, sy 3, sy 4, sy 5, sy 6, sy 7, sy 8, sy 9]) (π := []) (τ := []) ⟨rfl, rfl, rfl, rfl, rfl, rfl, rfl, rfl, rfl, rfl, rfl, rfl, rfl, rfl, rfl, rfl, rfl, rfl, rfl, rfl, trivial⟩ trivial (fun _ _ h => h) trq_wf0 trq_a0 hat0
  clear hat0
  suffices key : ∀ w, @At (Rho.of [(iV x0), (iV x1), (iV x2), (iV x3), (iV x4), (iV x5), (iV x6), (iV x7), (iV x8), (iV x9)] (fun b => w0.heap[b]?) []) w0 trq_fr0 trq_st0 a w → trq_b0.wpIn (FF none) 0 Try.prog (bodyPostM Fence.wide 0 Try.prog Try.f44 (fun en w' => en = .returned (.agg #[iV (1000 * x8 / x4), iV ((1000 * x9 + x3 - 1) / x3)]) ∧ Below w0.heap.size w0 w')) a w from key w0 hat
  clear hat
  intro w hat
  let p0 : Rho := (Rho.of [(iV x0), (iV x1), (iV x2), (iV x3), (iV x4), (iV x5), (iV x6), (iV x7), (iV x8), (iV x9)] (fun b => w0.heap[b]?) [])
  change @At p0 w0 trq_fr0 trq_st0 a w at hat
  let r0 : Rho := (Rho.of [(iV x0), (iV x1), (iV x2), (iV x3), (iV x4), (iV x5), (iV x6), (iV x7), (iV x8), (iV x9), (iV ((1000 * x8))), (iV (((1000 * x8) / x4))), (iV ((1000 * x9))), (iV (((1000 * x9) + x3))), (iV ((((1000 * x9) + x3) - 1))), (iV (((((1000 * x9) + x3) - 1) / x3)))] (fun b => w0.heap[b]?) [])
  have hat1 : @At r0 w0 trq_fr0 trq_st0 a w := At.shiftL (ρ1 := p0) (ρ2 := r0) (σ := [sy 0, sy 1, sy 2, sy 3, sy 4, sy 5, sy 6, sy 7, sy 8, sy 9]) (π := []) (τ := []) ⟨rfl, rfl, rfl, rfl, rfl, rfl, rfl, rfl, rfl, rfl, rfl, rfl, rfl, rfl, rfl, rfl, rfl, rfl, rfl, rfl, trivial⟩ trivial (fun _ _ h => h) trq_wf0 trq_id0 hat
  refine @At.lastK r0 Try.prog (env.symL trq_e0 trq_c0 trq_l0 trq_cl0) (@Env.Ok.symL r0 _ _ (@env_ok r0) trq_e0 trq_c0 trq_l0 trq_cl0 ⟨⟨rfl, rfl, fun w hm => (show KO w (.bin .mul 3) [(iV 1000), (iV x8)] (iV ((1000 * x8))) from k_mul (wrap64 (by omega)))⟩, ⟨rfl, rfl, fun w hm => (show KO w (.bin .quo 3) [(iV ((1000 * x8))), (iV x4)] (iV (((1000 * x8) / x4))) from k_quo_nn (by omega) (by omega) (wrap64 (by omega)))⟩, ⟨rfl, rfl, fun w hm => (show KO w (.bin .mul 3) [(iV 1000), (iV x9)] (iV ((1000 * x9))) from k_mul (wrap64 (by omega)))⟩, ⟨rfl, rfl, fun w hm => (show KO w (.bin .add 3) [(iV ((1000 * x9))), (iV x3)] (iV (((1000 * x9) + x3))) from k_add (wrap64 (by omega)))⟩, ⟨rfl, rfl, fun w hm => (show KO w (.bin .sub 3) [(iV (((1000 * x9) + x3))), (iV 1)] (iV ((((1000 * x9) + x3) - 1))) from k_sub (wrap64 (by omega)))⟩, ⟨rfl, rfl, fun w hm => (show KO w (.bin .quo 3) [(iV ((((1000 * x9) + x3) - 1))), (iV x3)] (iV (((((1000 * x9) + x3) - 1) / x3))) from k_quo_nn (by omega) (by omega) (wrap64 (by omega)))⟩, trivial⟩ trivial trivial trivial) w0 3000 trq_b0 Try.f44 trq_fr0 trq_st0 _ _ trq_r0 trq_wf0 a w hat1 (@endV_ok r0 w0 (.agg #[(sy 11), (sy 15)]) (fun en w' => en = .returned (.agg #[iV (1000 * x8 / x4), iV ((1000 * x9 + x3 - 1) / x3)]) ∧ Below w0.heap.size w0 w') rfl (fun w2 hb => ?_))
  have v0 : (((1000 * x8) / x4) : Int) = 1000 * x8 / x4 := by
    rfl
  have v1 : (((((1000 * x9) + x3) - 1) / x3) : Int) = (1000 * x9 + x3 - 1) / x3 := by
    rfl
  have hv := congr (congrArg (fun (y0 : Int) (y1 : Int) => ((.agg #[(iV y0), (iV y1)]) : Value)) v0) v1
  exact ⟨congrArg Ending.returned hv, hb⟩
noncomputable def setOff_b0 : Code := (Try.f74.body).getD .skip

noncomputable def setOff_fr0 : Fr := mkFr Try.f74 [(0, (.agg #[(.chan (.some 0)), (.chan (.some 1)), (.chan (.some 2)), (.chan (.some 3)), (.chan (.some 4)), (.chan (.some 5)), (.chan (.some 6)), (.chan (.some 7))])), (1, (.chan (.some 8))), (2, (.chan (.some 9))), (3, (.chan (.some 10)))] []
noncomputable def setOff_st0 : St := mkSt 0 []
theorem setOff_wf0 : setOff_st0.Wf := mkSt_wf rfl
set_option maxRecDepth 1000000 in
theorem setOff_id0 : agreeL [sy 0, sy 1, sy 2, sy 3, sy 4, sy 5, sy 6, sy 7, sy 8, sy 9, sy 10] [] [] setOff_fr0 setOff_st0 setOff_fr0 setOff_st0 = true := by kernel_rfl

set_option maxRecDepth 1000000 in
theorem setOff_a0 : agreeL [sy 0, sy 1, sy 2, sy 3, sy 4, sy 5, sy 6, sy 7, sy 8, sy 9, sy 10] [] [] setOff_fr0 setOff_st0 (frameOf Try.f74 [(.agg #[(.chan (.some 0)), (.chan (.some 1)), (.chan (.some 2)), (.chan (.some 3)), (.chan (.some 4)), (.chan (.some 5)), (.chan (.some 6)), (.chan (.some 7))]), (.chan (.some 8)), (.chan (.some 9)), (.chan (.some 10))]) Ev.start = true := by kernel_rfl

noncomputable def setOff_b1 : Code := headC setOff_b0

noncomputable def setOff_b2 : Code := tailC setOff_b0

set_option maxRecDepth 1000000 in
theorem setOff_q0 : setOff_b0 = .seq setOff_b1 setOff_b2 := by kernel_rfl

noncomputable def setOff_fr1 : Fr := mkFr Try.f74 [(1, (.chan (.some 8))), (2, (.chan (.some 9))), (3, (.chan (.some 10))), (4, (.pointer (.some (.mk 0 0 .none)))), (8, (.pointer (.some (.mk 1 0 .none))))] []
noncomputable def setOff_st1 : St := mkSt 2 [(0, (.cells [(.chan (.some 0)), (.chan (.some 1)), (.chan (.some 2)), (.chan (.some 3)), (.chan (.some 4)), (.chan (.some 5)), (.chan (.some 6)), (.chan (.some 7))] 25 .none .false)), (1, (.cells [(iV (.ofNat 0)), (iV (.ofNat 0))] 23 .none .false))]
theorem setOff_wf1 : setOff_st1.Wf := mkSt_wf rfl
set_option maxRecDepth 1000000 in
theorem setOff_id1 : agreeL [sy 0, sy 1, sy 2, sy 3, sy 4, sy 5, sy 6, sy 7, sy 8, sy 9, sy 10] [0, 1] [] setOff_fr1 setOff_st1 setOff_fr1 setOff_st1 = true := by kernel_rfl

set_option maxRecDepth 1000000 in
theorem setOff_r0 : ev Try.prog (env.symL [] [] [] []) 3000 (.code setOff_b1 none setOff_fr0 setOff_st0 (stopL .normal [sy 0, sy 1, sy 2, sy 3, sy 4, sy 5, sy 6, sy 7, sy 8, sy 9, sy 10] [0, 1] [] setOff_fr1 setOff_st1)) = some () := by kernel_rfl

noncomputable def setOff_b3 : Code := headC setOff_b2

noncomputable def setOff_b4 : Code := tailC setOff_b2

set_option maxRecDepth 1000000 in
theorem setOff_q1 : setOff_b2 = .seq setOff_b3 setOff_b4 := by kernel_rfl

noncomputable def setOff_fr2 : Fr := mkFr Try.f74 [(1, (.chan (.some 8))), (2, (.chan (.some 9))), (3, (.chan (.some 10))), (4, (.pointer (.some (.mk 0 0 .none)))), (8, (.pointer (.some (.mk 1 0 .none)))), (9, (.pointer (.some (.mk 2 0 .none))))] []
noncomputable def setOff_st2 : St := mkSt 3 [(0, (.cells [(.chan (.some 0)), (.chan (.some 1)), (.chan (.some 2)), (.chan (.some 3)), (.chan (.some 4)), (.chan (.some 5)), (.chan (.some 6)), (.chan (.some 7))] 25 .none .false)), (1, (.cells [(iV (.ofNat 0)), (iV (.ofNat 0))] 23 .none .false)), (2, (.cells [(iV (.ofNat 1099511627776)), (iV (.ofNat 0))] 23 .none .false))]
theorem setOff_wf2 : setOff_st2.Wf := mkSt_wf rfl
set_option maxRecDepth 1000000 in
theorem setOff_id2 : agreeL [sy 0, sy 1, sy 2, sy 3, sy 4, sy 5, sy 6, sy 7, sy 8, sy 9, sy 10] [0, 1, 2] [] setOff_fr2 setOff_st2 setOff_fr2 setOff_st2 = true := by kernel_rfl

set_option maxRecDepth 1000000 in
theorem setOff_r1 : ev Try.prog (env.symL [] [] [] []) 3000 (.code setOff_b3 none setOff_fr1 setOff_st1 (stopL .normal [sy 0, sy 1, sy 2, sy 3, sy 4, sy 5, sy 6, sy 7, sy 8, sy 9, sy 10] [0, 1, 2] [] setOff_fr2 setOff_st2)) = some () := by kernel_rfl

noncomputable def setOff_b5 : Code := headC setOff_b4

noncomputable def setOff_b6 : Code := tailC setOff_b4

set_option maxRecDepth 1000000 in
theorem setOff_q2 : setOff_b4 = .seq setOff_b5 setOff_b6 := by kernel_rfl

noncomputable def setOff_b7 : Code := headC setOff_b5

noncomputable def setOff_b8 : Code := tailC setOff_b5

set_option maxRecDepth 1000000 in
theorem setOff_q3 : setOff_b5 = .seq setOff_b7 setOff_b8 := by kernel_rfl

noncomputable def setOff_e2 : List Ent := [⟨(.bi 0 [38]), [(sy 8)], (sy 11)⟩]
noncomputable def setOff_c2 : List CEnt := []
noncomputable def setOff_l2 : List LEnt := []
noncomputable def setOff_cl2 : List CLEnt := []

noncomputable def setOff_fr3 : Fr := mkFr Try.f74 [(2, (.chan (.some 9))), (3, (.chan (.some 10))), (4, (.pointer (.some (.mk 0 0 .none)))), (8, (.pointer (.some (.mk 1 0 .none)))), (9, (.pointer (.some (.mk 2 0 .none)))), (14, (.chan (.some 8))), (15, (.chan (.some 11))), (16, (iV (.ofNat 0)))] []
noncomputable def setOff_st3 : St := mkSt 3 [(0, (.cells [(.chan (.some 0)), (.chan (.some 1)), (.chan (.some 2)), (.chan (.some 3)), (.chan (.some 4)), (.chan (.some 5)), (.chan (.some 6)), (.chan (.some 7))] 25 .none .false)), (1, (.cells [(iV (.ofNat 0)), (iV (.ofNat 0))] 23 .none .false)), (2, (.cells [(iV (.ofNat 1099511627776)), (iV (.ofNat 0))] 23 .none .false))]
theorem setOff_wf3 : setOff_st3.Wf := mkSt_wf rfl
set_option maxRecDepth 1000000 in
theorem setOff_id3 : agreeL [sy 0, sy 1, sy 2, sy 3, sy 4, sy 5, sy 6, sy 7, sy 8, sy 9, sy 10, sy 11] [0, 1, 2] [] setOff_fr3 setOff_st3 setOff_fr3 setOff_st3 = true := by kernel_rfl

set_option maxRecDepth 1000000 in
theorem setOff_r2 : ev Try.prog (env.symL setOff_e2 setOff_c2 setOff_l2 setOff_cl2) 3000 (.code setOff_b7 none setOff_fr2 setOff_st2 (stopL .normal [sy 0, sy 1, sy 2, sy 3, sy 4, sy 5, sy 6, sy 7, sy 8, sy 9, sy 10, sy 11] [0, 1, 2] [] setOff_fr3 setOff_st3)) = some () := by kernel_rfl

noncomputable def setOff_b9 : Code := inBlockC setOff_b8

set_option maxRecDepth 1000000 in
theorem setOff_q4 : setOff_b8 = .block 0 setOff_b9 := by kernel_rfl

noncomputable def setOff_b10 : Code := inLoopC setOff_b9

set_option maxRecDepth 1000000 in
theorem setOff_q5 : setOff_b9 = .loop setOff_b10 := by kernel_rfl

noncomputable def setOff_fr4 : Fr := mkFr Try.f74 [(2, (.chan (.some 9))), (3, (.chan (.some 10))), (4, (.pointer (.some (.mk 0 0 .none)))), (8, (.pointer (.some (.mk 1 0 .none)))), (9, (.pointer (.some (.mk 2 0 .none)))), (14, (.chan (.some 8))), (15, (.chan (.some 11))), (16, (.chan (.some 12)))] []
noncomputable def setOff_st4 : St := mkSt 3 [(0, (.cells [(.chan (.some 0)), (.chan (.some 1)), (.chan (.some 2)), (.chan (.some 3)), (.chan (.some 4)), (.chan (.some 5)), (.chan (.some 6)), (.chan (.some 7))] 25 .none .false)), (1, (.cells [(iV (.ofNat 0)), (iV (.ofNat 0))] 23 .none .false)), (2, (.cells [(.chan (.some 13)), (.chan (.some 14))] 23 .none .false))]
theorem setOff_wf4 : setOff_st4.Wf := mkSt_wf rfl
set_option maxRecDepth 1000000 in
theorem setOff_id4 : agreeL [sy 0, sy 1, sy 2, sy 3, sy 4, sy 5, sy 6, sy 7, sy 8, sy 9, sy 10, sy 11, sy 12, sy 13, sy 14] [0, 1, 2] [] setOff_fr4 setOff_st4 setOff_fr4 setOff_st4 = true := by kernel_rfl

set_option maxRecDepth 1000000 in
theorem setOff_h6 : agreeL [(sy 0), (sy 1), (sy 2), (sy 3), (sy 4), (sy 5), (sy 6), (sy 7), (sy 8), (sy 9), (sy 10), (sy 11), (iV 0), (iV 1099511627776), (iV 0)] [0, 1, 2] [] setOff_fr4 setOff_st4 setOff_fr3 setOff_st3 = true := by kernel_rfl

noncomputable def setOff_e3 : List Ent := [⟨(.bin .lss 3), [(sy 12), (sy 11)], (.bool true)⟩, ⟨(.indexAddr 38), [(sy 8), (sy 12)], (sy 15)⟩, ⟨(.load 54), [(sy 15)], (.agg #[(sy 16), (sy 17), (sy 18), (sy 19), (sy 20)])⟩, ⟨(.bin .eql 3), [(sy 16), (iV 1)], (.bool true)⟩, ⟨(.bin .add 3), [(sy 19), (sy 23)], (sy 25)⟩, ⟨(.bi 3 [3, 3]), [(sy 13), (sy 25)], (sy 26)⟩, ⟨(.bin .add 3), [(sy 20), (sy 24)], (sy 27)⟩, ⟨(.bin .add 3), [(sy 27), (sy 10)], (sy 28)⟩, ⟨(.bi 2 [3, 3]), [(sy 14), (sy 28)], (sy 29)⟩, ⟨(.bin .add 3), [(sy 12), (iV 1)], (sy 30)⟩]
noncomputable def setOff_c3 : List CEnt := [⟨45, [(.agg #[(sy 0), (sy 1), (sy 2), (sy 3), (sy 4), (sy 5), (sy 6), (sy 7)]), (sy 17), (sy 9)], [], (.agg #[(sy 21), (sy 22)])⟩, ⟨44, [(.agg #[(sy 0), (sy 1), (sy 2), (sy 3), (sy 4), (sy 5), (sy 6), (sy 7)]), (.agg #[(sy 21), (sy 22)])], [], (.agg #[(sy 23), (sy 24)])⟩]
noncomputable def setOff_l3 : List LEnt := []
noncomputable def setOff_cl3 : List CLEnt := []

set_option maxRecDepth 1000000 in
theorem setOff_r3 : ev Try.prog (env.symL setOff_e3 setOff_c3 setOff_l3 setOff_cl3) 3000 (.code setOff_b10 none setOff_fr4 setOff_st4 (stopL .normal [(sy 0), (sy 1), (sy 2), (sy 3), (sy 4), (sy 5), (sy 6), (sy 7), (sy 8), (sy 9), (sy 10), (sy 11), (sy 30), (sy 26), (sy 29)] [0, 1, 2] [] setOff_fr4 setOff_st4)) = some () := by kernel_rfl

noncomputable def setOff_e4 : List Ent := [⟨(.bin .lss 3), [(sy 12), (sy 11)], (.bool true)⟩, ⟨(.indexAddr 38), [(sy 8), (sy 12)], (sy 15)⟩, ⟨(.load 54), [(sy 15)], (.agg #[(sy 16), (sy 17), (sy 18), (sy 19), (sy 20)])⟩, ⟨(.bin .eql 3), [(sy 16), (iV 1)], (.bool false)⟩, ⟨(.bin .add 3), [(sy 12), (iV 1)], (sy 21)⟩]
noncomputable def setOff_c4 : List CEnt := []
noncomputable def setOff_l4 : List LEnt := []
noncomputable def setOff_cl4 : List CLEnt := []

set_option maxRecDepth 1000000 in
theorem setOff_r4 : ev Try.prog (env.symL setOff_e4 setOff_c4 setOff_l4 setOff_cl4) 3000 (.code setOff_b10 none setOff_fr4 setOff_st4 (stopL .normal [(sy 0), (sy 1), (sy 2), (sy 3), (sy 4), (sy 5), (sy 6), (sy 7), (sy 8), (sy 9), (sy 10), (sy 11), (sy 21), (sy 13), (sy 14)] [0, 1, 2] [] setOff_fr4 setOff_st4)) = some () := by kernel_rfl

noncomputable def setOff_e5 : List Ent := [⟨(.bin .lss 3), [(sy 12), (sy 11)], (.bool false)⟩]
noncomputable def setOff_c5 : List CEnt := []
noncomputable def setOff_l5 : List LEnt := []
noncomputable def setOff_cl5 : List CLEnt := []

noncomputable def setOff_fr5 : Fr := mkFr Try.f74 [(8, (.pointer (.some (.mk 0 0 .none)))), (9, (.pointer (.some (.mk 1 0 .none))))] []
noncomputable def setOff_st5 : St := mkSt 2 [(0, (.cells [(iV (.ofNat 0)), (iV (.ofNat 0))] 23 .none .false)), (1, (.cells [(.chan (.some 11)), (.chan (.some 12))] 23 .none .false))]
theorem setOff_wf5 : setOff_st5.Wf := mkSt_wf rfl
set_option maxRecDepth 1000000 in
theorem setOff_id5 : agreeL [sy 0, sy 1, sy 2, sy 3, sy 4, sy 5, sy 6, sy 7, sy 8, sy 9, sy 10, sy 11, sy 12] [0, 1] [] setOff_fr5 setOff_st5 setOff_fr5 setOff_st5 = true := by kernel_rfl

set_option maxRecDepth 1000000 in
theorem setOff_r5 : ev Try.prog (env.symL setOff_e5 setOff_c5 setOff_l5 setOff_cl5) 3000 (.code setOff_b10 none setOff_fr4 setOff_st4 (stopL (.exit 0) [sy 0, sy 1, sy 2, sy 3, sy 4, sy 5, sy 6, sy 7, sy 8, sy 9, sy 10, sy 13, sy 14] [1, 2] [] setOff_fr5 setOff_st5)) = some () := by kernel_rfl

set_option maxRecDepth 1000000 in
theorem setOff_r6 : ev Try.prog (env.symL [] [] [] []) 3000 (.code setOff_b6 none setOff_fr5 setOff_st5 (retK (env.symL [] [] [] []) Try.f74 (endV (.agg #[(sy 11), (sy 12)])))) = some () := by kernel_rfl

set_option maxHeartbeats 8000000 in
set_option maxRecDepth 100000 in
theorem setOff_any (x0 : Int) (x1 : Int) (x2 : Int) (x3 : Int) (x4 : Int) (x5 : Int) (x6 : Int) (x7 : Int) (al : Option Addr) (l : List Src) (ql : Nat) (cell lag : Int) (w0 : World) {tl : TypeId} (Hl : Lies w0 tl (flat srcC l) al l.length) (hn : l.length < 1000000) (v : ModOk x0 x1 x2 x3 x4 x5 x6 x7) (hc : 0 ≤ cell ∧ cell ≤ x0 * x1 - 1) (hlag : 0 ≤ lag ∧ lag ≤ 100000000) (hs : ∀ k, k < l.length → srcErr x0 x1 (l.getD k srcD) = 0) : Calls Try.prog 74 #[(.agg #[(iV x0), (iV x1), (iV x2), (iV x3), (iV x4), (iV x5), (iV x6), (iV x7)]), (.slice al l.length ql), (iV cell), (iV lag)] w0 (fun en w' => en = .returned (.agg #[iV (offZ x0 x1 x2 x3 x4 x5 x6 x7 cell lag l).1, iV (offZ x0 x1 x2 x3 x4 x5 x6 x7 cell lag l).2]) ∧ Below w0.heap.size w0 w') := by
  have v0m := v
  obtain ⟨v0, v1, v2, v3, v5, v7⟩ := v
  have hx := mul_bd (a := x0) (b := x1) (A := 24) (B := 24) (C := 576) (by omega) (by omega) (by omega) (by omega)
  refine @calls_of_body (Rho.of [(iV x0), (iV x1), (iV x2), (iV x3), (iV x4), (iV x5), (iV x6), (iV x7), (.slice al l.length ql), (iV cell), (iV lag)] (fun b => w0.heap[b]?) []) Try.prog env (@env_ok (Rho.of [(iV x0), (iV x1), (iV x2), (iV x3), (iV x4), (iV x5), (iV x6), (iV x7), (.slice al l.length ql), (iV cell), (iV lag)] (fun b => w0.heap[b]?) [])) 74 Try.f74 setOff_b0 [(.agg #[(.chan (.some 0)), (.chan (.some 1)), (.chan (.some 2)), (.chan (.some 3)), (.chan (.some 4)), (.chan (.some 5)), (.chan (.some 6)), (.chan (.some 7))]), (.chan (.some 8)), (.chan (.some 9)), (.chan (.some 10))] w0 _ (by kernel_rfl) (by kernel_rfl) (of_decide_eq_true (by kernel_rfl)) (of_decide_eq_true (by kernel_rfl)) rfl (fun _ _ h => h) (fun a hat0 => ?_)
  have hat : @At (Rho.of [(iV x0), (iV x1), (iV x2), (iV x3), (iV x4), (iV x5), (iV x6), (iV x7), (.slice al l.length ql), (iV cell), (iV lag)] (fun b => w0.heap[b]?) []) w0 setOff_fr0 setOff_st0 a w0 := At.shiftL (σ := [sy 0, sy 1, sy 2, sy 3, sy 4, sy 5, sy 6, sy 7, sy 8, sy 9, sy 10]) (π := []) (τ := []) ⟨rfl, rfl, rfl, rfl, rfl, rfl, rfl, rfl, rfl, rfl, rfl, rfl, rfl, rfl, rfl, rfl, rfl, rfl, rfl, rfl, rfl, rfl, trivial⟩ trivial (fun _ _ h => h) setOff_wf0 setOff_a0 hat0
  clear hat0
  suffices key : ∀ w, @At (Rho.of [(iV x0), (iV x1), (iV x2), (iV x3), (iV x4), (iV x5), (iV x6), (iV x7), (.slice al l.length ql), (iV cell), (iV lag)] (fun b => w0.heap[b]?) []) w0 setOff_fr0 setOff_st0 a w → setOff_b0.wpIn (FF none) 0 Try.prog (bodyPostM Fence.wide 0 Try.prog Try.f74 (fun en w' => en = .returned (.agg #[iV (offZ x0 x1 x2 x3 x4 x5 x6 x7 cell lag l).1, iV (offZ x0 x1 x2 x3 x4 x5 x6 x7 cell lag l).2]) ∧ Below w0.heap.size w0 w')) a w from key w0 hat
  clear hat
  intro w hat
  let p0 : Rho := (Rho.of [(iV x0), (iV x1), (iV x2), (iV x3), (iV x4), (iV x5), (iV x6), (iV x7), (.slice al l.length ql), (iV cell), (iV lag)] (fun b => w0.heap[b]?) [])
  change @At p0 w0 setOff_fr0 setOff_st0 a w at hat
  refine g_seq setOff_q0 ?_
  let r0 : Rho := (Rho.of [(iV x0), (iV x1), (iV x2), (iV x3), (iV x4), (iV x5), (iV x6), (iV x7), (.slice al l.length ql), (iV cell), (iV lag)] (fun b => w0.heap[b]?) [])
  have hat1 : @At r0 w0 setOff_fr0 setOff_st0 a w := At.shiftL (ρ1 := p0) (ρ2 := r0) (σ := [sy 0, sy 1, sy 2, sy 3, sy 4, sy 5, sy 6, sy 7, sy 8, sy 9, sy 10]) (π := []) (τ := []) ⟨rfl, rfl, rfl, rfl, rfl, rfl, rfl, rfl, rfl, rfl, rfl, rfl, rfl, rfl, rfl, rfl, rfl, rfl, rfl, rfl, rfl, rfl, trivial⟩ trivial (fun _ _ h => h) setOff_wf0 setOff_id0 hat
  let p1 : Rho := (Rho.of [(iV x0), (iV x1), (iV x2), (iV x3), (iV x4), (iV x5), (iV x6), (iV x7), (.slice al l.length ql), (iV cell), (iV lag)] (fun b => w0.heap[b]?) [])
  refine At.pieceL (ρ1 := r0) (ρ2 := p1) (@Env.Ok.symL r0 _ _ (@env_ok r0) [] [] [] [] trivial trivial trivial trivial) setOff_r0 ⟨rfl, rfl, rfl, rfl, rfl, rfl, rfl, rfl, rfl, rfl, rfl, rfl, rfl, rfl, rfl, rfl, rfl, rfl, rfl, rfl, rfl, rfl, trivial⟩ trivial (fun _ _ h => h) setOff_wf0 setOff_wf1 hat1 (fun a w hat => .inl ⟨rfl, ?_⟩)
  refine g_seq setOff_q1 ?_
  let r1 : Rho := (Rho.of [(iV x0), (iV x1), (iV x2), (iV x3), (iV x4), (iV x5), (iV x6), (iV x7), (.slice al l.length ql), (iV cell), (iV lag)] (fun b => w0.heap[b]?) [])
  have hat1 : @At r1 w0 setOff_fr1 setOff_st1 a w := At.shiftL (ρ1 := p1) (ρ2 := r1) (σ := [sy 0, sy 1, sy 2, sy 3, sy 4, sy 5, sy 6, sy 7, sy 8, sy 9, sy 10]) (π := [0, 1]) (τ := []) ⟨rfl, rfl, rfl, rfl, rfl, rfl, rfl, rfl, rfl, rfl, rfl, rfl, rfl, rfl, rfl, rfl, rfl, rfl, rfl, rfl, rfl, rfl, trivial⟩ trivial (fun _ _ h => h) setOff_wf1 setOff_id1 hat
  let p2 : Rho := (Rho.of [(iV x0), (iV x1), (iV x2), (iV x3), (iV x4), (iV x5), (iV x6), (iV x7), (.slice al l.length ql), (iV cell), (iV lag)] (fun b => w0.heap[b]?) [])
  refine At.pieceL (ρ1 := r1) (ρ2 := p2) (@Env.Ok.symL r1 _ _ (@env_ok r1) [] [] [] [] trivial trivial trivial trivial) setOff_r1 ⟨rfl, rfl, rfl, rfl, rfl, rfl, rfl, rfl, rfl, rfl, rfl, rfl, rfl, rfl, rfl, rfl, rfl, rfl, rfl, rfl, rfl, rfl, trivial⟩ trivial (fun _ _ h => h) setOff_wf1 setOff_wf2 hat1 (fun a w hat => .inl ⟨rfl, ?_⟩)
  refine g_seq setOff_q2 ?_
  refine g_seq setOff_q3 ?_
  let r2 : Rho := (Rho.of [(iV x0), (iV x1), (iV x2), (iV x3), (iV x4), (iV x5), (iV x6), (iV x7), (.slice al l.length ql), (iV cell), (iV lag), (iV (((l.length : Nat) : Int)))] (fun b => w0.heap[b]?) [])
  have hat1 : @At r2 w0 setOff_fr2 setOff_st2 a w := At.shiftL (ρ1 := p2) (ρ2 := r2) (σ := [sy 0, sy 1, sy 2, sy 3, sy 4, sy 5, sy 6, sy 7, sy 8, sy 9, sy 10]) (π := [0, 1, 2]) (τ := []) ⟨rfl, rfl, rfl, rfl, rfl, rfl, rfl, rfl, rfl, rfl, rfl, rfl, rfl, rfl, rfl, rfl, rfl, rfl, rfl, rfl, rfl, rfl, trivial⟩ trivial (fun _ _ h => h) setOff_wf2 setOff_id2 hat
  let p3 : Rho := (Rho.of [(iV x0), (iV x1), (iV x2), (iV x3), (iV x4), (iV x5), (iV x6), (iV x7), (.slice al l.length ql), (iV cell), (iV lag), (iV (((l.length : Nat) : Int)))] (fun b => w0.heap[b]?) [])
  refine At.pieceL (ρ1 := r2) (ρ2 := p3) (@Env.Ok.symL r2 _ _ (@env_ok r2) setOff_e2 setOff_c2 setOff_l2 setOff_cl2 ⟨⟨rfl, rfl, fun w hm => (show KO w (.bi 0 [38]) [(.slice al l.length ql)] (iV (((l.length : Nat) : Int))) from k_len Try.underlying38)⟩, trivial⟩ trivial trivial trivial) setOff_r2 ⟨rfl, rfl, rfl, rfl, rfl, rfl, rfl, rfl, rfl, rfl, rfl, rfl, rfl, rfl, rfl, rfl, rfl, rfl, rfl, rfl, rfl, rfl, rfl, rfl, trivial⟩ trivial (fun _ _ h => h) setOff_wf2 setOff_wf3 hat1 (fun a w hat => .inl ⟨rfl, ?_⟩)
  refine g_block setOff_q4 ?_
  have hat0 := At.shiftL (ρ1 := p3) (ρ2 := (Rho.of [(iV x0), (iV x1), (iV x2), (iV x3), (iV x4), (iV x5), (iV x6), (iV x7), (.slice al l.length ql), (iV cell), (iV lag), (iV (((l.length : Nat) : Int))), (iV ((0 : Int))), (iV ((1099511627776 : Int))), (iV ((0 : Int)))] (fun b => w0.heap[b]?) [])) (σ := [(sy 0), (sy 1), (sy 2), (sy 3), (sy 4), (sy 5), (sy 6), (sy 7), (sy 8), (sy 9), (sy 10), (sy 11), (iV 0), (iV 1099511627776), (iV 0)]) (π := [0, 1, 2]) (τ := []) ⟨rfl, rfl, rfl, rfl, rfl, rfl, rfl, rfl, rfl, rfl, rfl, rfl, rfl, rfl, rfl, rfl, rfl, rfl, rfl, rfl, rfl, rfl, rfl, rfl, rfl, rfl, rfl, rfl, rfl, rfl, trivial⟩ trivial (fun _ _ h => h) setOff_wf4 setOff_h6 hat
  clear hat
  refine g_loop (fun (x : Int × Int × Int) a w => (0 ≤ (x.1 : Int) ∧ (x.1 : Int) ≤ l.length ∧ (0 ≤ (x.2.1 : Int) ∧ (x.2.1 : Int) ≤ 1099511627776) ∧ (0 ≤ (x.2.2 : Int) ∧ (x.2.2 : Int) ≤ 1099511627776) ∧ offZ x0 x1 x2 x3 x4 x5 x6 x7 cell lag (l.take (x.1 : Int).toNat) = ((x.2.1 : Int), (x.2.2 : Int))) ∧ @At (Rho.of [(iV x0), (iV x1), (iV x2), (iV x3), (iV x4), (iV x5), (iV x6), (iV x7), (.slice al l.length ql), (iV cell), (iV lag), (iV (((l.length : Nat) : Int))), (iV ((x.1 : Int))), (iV ((x.2.1 : Int))), (iV ((x.2.2 : Int)))] (fun b => w0.heap[b]?) []) w0 setOff_fr4 setOff_st4 a w) (fun x => (l.length - (x.1 : Int)).toNat) setOff_q5 ?_ (0, 1099511627776, 0) ⟨?_, hat0⟩
  · clear hat0
    rintro ⟨i, lo, hi⟩ a w ⟨hinv, hat⟩
    change 0 ≤ i ∧ i ≤ l.length ∧ (0 ≤ lo ∧ lo ≤ 1099511627776) ∧ (0 ≤ hi ∧ hi ≤ 1099511627776) ∧ offZ x0 x1 x2 x3 x4 x5 x6 x7 cell lag (l.take i.toNat) = (lo, hi) at hinv
    let p4 : Rho := (Rho.of [(iV x0), (iV x1), (iV x2), (iV x3), (iV x4), (iV x5), (iV x6), (iV x7), (.slice al l.length ql), (iV cell), (iV lag), (iV (((l.length : Nat) : Int))), (iV i), (iV lo), (iV hi)] (fun b => w0.heap[b]?) [])
    change @At p4 w0 setOff_fr4 setOff_st4 a w at hat
    obtain ⟨i0, i1, i2, i3, i4⟩ := hinv
    by_cases c0 : i < ((l.length : Nat) : Int)
    · obtain ⟨z1, hz1⟩ : ∃ z : Src, z = l.getD (i).toNat srcD := ⟨_, rfl⟩
      have ez1 := srcErr_ok (hs (i).toNat (by omega))
      rw [← hz1] at ez1
      by_cases c2 : z1.kind = 1
      · obtain ⟨y3, hy3⟩ : ∃ y : Int, y = (dist0 (x0) (x1) (x2) (x3) (x4) (x5) (x6) (x7) (z1.cell) (cell)) := ⟨_, rfl⟩
        obtain ⟨y4, hy4⟩ : ∃ y : Int, y = (dist1 (x0) (x1) (x2) (x3) (x4) (x5) (x6) (x7) (z1.cell) (cell)) := ⟨_, rfl⟩
        have hdy3 := dist_bd v0 v1 v2 v3 v5 v7 (x8 := (z1.cell)) (x9 := (cell)) (by omega) (by omega)
        rw [← hy3, ← hy4] at hdy3
        obtain ⟨y5, hy5⟩ : ∃ y : Int, y = (1000 * (y3) / (x4)) := ⟨_, rfl⟩
        obtain ⟨y6, hy6⟩ : ∃ y : Int, y = ((1000 * (y4) + (x3) - 1) / (x3)) := ⟨_, rfl⟩
        have hqy5 : 0 ≤ y5 ∧ y5 ≤ 1048575000 := by rw [hy5]; exact div_bd (by omega) (by omega) (by omega) (by omega)
        have hqy6 : 0 ≤ y6 ∧ y6 ≤ 1048620000 := by rw [hy6]; exact div_bd (by omega) (by omega) (by omega) (by omega)
        let r3 : Rho := (Rho.of [(iV x0), (iV x1), (iV x2), (iV x3), (iV x4), (iV x5), (iV x6), (iV x7), (.slice al l.length ql), (iV cell), (iV lag), (iV (((l.length : Nat) : Int))), (iV i), (iV lo), (iV hi), (.pointer (ptrO al ((i).toNat * 5))), (iV z1.kind), (iV z1.cell), (iV z1.cls), (iV z1.lo), (iV z1.hi), (iV y3), (iV y4), (iV y5), (iV y6), (iV ((z1.lo + y5))), (iV ((min lo (z1.lo + y5)))), (iV ((z1.hi + y6))), (iV (((z1.hi + y6) + lag))), (iV ((max hi ((z1.hi + y6) + lag)))), (iV ((i + 1)))] (fun b => w0.heap[b]?) [])
        have hat1 : @At r3 w0 setOff_fr4 setOff_st4 a w := At.shiftL (ρ1 := p4) (ρ2 := r3) (σ := [sy 0, sy 1, sy 2, sy 3, sy 4, sy 5, sy 6, sy 7, sy 8, sy 9, sy 10, sy 11, sy 12, sy 13, sy 14]) (π := [0, 1, 2]) (τ := []) ⟨rfl, rfl, rfl, rfl, rfl, rfl, rfl, rfl, rfl, rfl, rfl, rfl, rfl, rfl, rfl, rfl, rfl, rfl, rfl, rfl, rfl, rfl, rfl, rfl, rfl, rfl, rfl, rfl, rfl, rfl, trivial⟩ trivial (fun _ _ h => h) setOff_wf4 setOff_id4 hat
        refine At.pieceL (ρ1 := r3) (ρ2 := (Rho.of [(iV x0), (iV x1), (iV x2), (iV x3), (iV x4), (iV x5), (iV x6), (iV x7), (.slice al l.length ql), (iV cell), (iV lag), (iV (((l.length : Nat) : Int))), (iV (((i + 1) : Int))), (iV (((min lo (z1.lo + y5)) : Int))), (iV (((max hi ((z1.hi + y6) + lag)) : Int)))] (fun b => w0.heap[b]?) [])) (@Env.Ok.symL r3 _ _ (@env_ok r3) setOff_e3 setOff_c3 setOff_l3 setOff_cl3 ⟨⟨rfl, rfl, fun w hm => (show KO w (.bin .lss 3) [(iV i), (iV (((l.length : Nat) : Int)))] (.bool true) from k_lss_t c0)⟩, ⟨rfl, rfl, fun w hm => (show KO w (.indexAddr 38) [(.slice al l.length ql), (iV i)] (.pointer (ptrO al ((i).toNat * 5))) from l_index (Hl.keep hm) Try.underlying38 (by kernel_rfl) (by omega) (by omega))⟩, ⟨rfl, rfl, fun w hm => (show KO w (.load 54) [(.pointer (ptrO al ((i).toNat * 5)))] (.agg #[(iV z1.kind), (iV z1.cell), (iV z1.cls), (iV z1.lo), (iV z1.hi)]) from l_loadS (Hl.keep hm) (by omega) Try.underlying54 rfl (l := [(iV z1.kind), (iV z1.cell), (iV z1.cls), (iV z1.lo), (iV z1.hi)]) (by kernel_rfl) (flat_getz (c := srcC) (sz := 5) (fun _ => rfl) hz1 (by omega)))⟩, ⟨rfl, rfl, fun w hm => (show KO w (.bin .eql 3) [(iV z1.kind), (iV 1)] (.bool true) from k_eql_t c2)⟩, ⟨rfl, rfl, fun w hm => (show KO w (.bin .add 3) [(iV z1.lo), (iV y5)] (iV ((z1.lo + y5))) from k_add (wrap64 (by omega)))⟩, ⟨rfl, rfl, fun w hm => (show KO w (.bi 3 [3, 3]) [(iV lo), (iV ((z1.lo + y5)))] (iV ((min lo (z1.lo + y5)))) from k_min)⟩, ⟨rfl, rfl, fun w hm => (show KO w (.bin .add 3) [(iV z1.hi), (iV y6)] (iV ((z1.hi + y6))) from k_add (wrap64 (by omega)))⟩, ⟨rfl, rfl, fun w hm => (show KO w (.bin .add 3) [(iV ((z1.hi + y6))), (iV lag)] (iV (((z1.hi + y6) + lag))) from k_add (wrap64 (by omega)))⟩, ⟨rfl, rfl, fun w hm => (show KO w (.bi 2 [3, 3]) [(iV hi), (iV (((z1.hi + y6) + lag)))] (iV ((max hi ((z1.hi + y6) + lag)))) from k_max)⟩, ⟨rfl, rfl, fun w hm => (show KO w (.bin .add 3) [(iV i), (iV 1)] (iV ((i + 1))) from k_add (wrap64 (by omega)))⟩, trivial⟩ ⟨(@CEntOk.of r3 Try.prog _ 45 [(.agg #[(sy 0), (sy 1), (sy 2), (sy 3), (sy 4), (sy 5), (sy 6), (sy 7)]), (sy 17), (sy 9)] (.agg #[(sy 21), (sy 22)]) #[(.agg #[(iV x0), (iV x1), (iV x2), (iV x3), (iV x4), (iV x5), (iV x6), (iV x7)]), (iV z1.cell), (iV cell)] (.agg #[(iV y3), (iV y4)]) rfl ⟨Try.f45, (Try.f45.body).getD .skip, by kernel_rfl, by kernel_rfl⟩ rfl rfl rfl (fun w hm => (by rw [hy3, hy4]; exact dist_any (x0) (x1) (x2) (x3) (x4) (x5) (x6) (x7) (z1.cell) (cell)  (by omega) (by omega) (by omega) (by omega) (by omega) (by omega) (by omega) (by omega) w))), (@CEntOk.of r3 Try.prog _ 44 [(.agg #[(sy 0), (sy 1), (sy 2), (sy 3), (sy 4), (sy 5), (sy 6), (sy 7)]), (.agg #[(sy 21), (sy 22)])] (.agg #[(sy 23), (sy 24)]) #[(.agg #[(iV x0), (iV x1), (iV x2), (iV x3), (iV x4), (iV x5), (iV x6), (iV x7)]), (.agg #[(iV y3), (iV y4)])] (.agg #[(iV y5), (iV y6)]) rfl ⟨Try.f44, (Try.f44.body).getD .skip, by kernel_rfl, by kernel_rfl⟩ rfl rfl rfl (fun w hm => (by rw [hy5, hy6]; exact trq_any (x0) (x1) (x2) (x3) (x4) (x5) (x6) (x7) (y3) (y4) w  v0m (by omega) (by omega)))), trivial⟩ trivial trivial) setOff_r3 ⟨rfl, rfl, rfl, rfl, rfl, rfl, rfl, rfl, rfl, rfl, rfl, rfl, rfl, rfl, rfl, rfl, rfl, rfl, rfl, rfl, rfl, rfl, rfl, rfl, rfl, rfl, rfl, rfl, rfl, rfl, trivial⟩ trivial (fun _ _ h => h) setOff_wf4 setOff_wf4 hat1 (fun a w hat => .inl ⟨rfl, ⟨((i + 1), (min lo (z1.lo + y5)), (max hi ((z1.hi + y6) + lag))), ?_, ?_, hat⟩⟩)
        · show (l.length - ((i + 1) : Int)).toNat < (l.length - i).toNat
          omega
        · show 0 ≤ ((i + 1) : Int) ∧ ((i + 1) : Int) ≤ l.length ∧ (0 ≤ ((min lo (z1.lo + y5)) : Int) ∧ ((min lo (z1.lo + y5)) : Int) ≤ 1099511627776) ∧ (0 ≤ ((max hi ((z1.hi + y6) + lag)) : Int) ∧ ((max hi ((z1.hi + y6) + lag)) : Int) ≤ 1099511627776) ∧ offZ x0 x1 x2 x3 x4 x5 x6 x7 cell lag (l.take ((i + 1) : Int).toNat) = (((min lo (z1.lo + y5)) : Int), ((max hi ((z1.hi + y6) + lag)) : Int))
          have st := offZ_snoc (x0 := x0) (x1 := x1) (x2 := x2) (x3 := x3) (x4 := x4) (x5 := x5) (x6 := x6) (x7 := x7) (cell := cell) (lag := lag) (l := l) (i := i.toNat) (by omega)
          have e1 : (i + 1).toNat = i.toNat + 1 := by omega
          refine ⟨by omega, by omega, by omega, by omega, ?_⟩
          rw [e1, st, i4]
          unfold offStep
          first
            | (rw [if_pos (by simp_all)]; simp_all [trLo, trHi]; done)
            | (rw [if_neg (by simp_all)])
      · let r4 : Rho := (Rho.of [(iV x0), (iV x1), (iV x2), (iV x3), (iV x4), (iV x5), (iV x6), (iV x7), (.slice al l.length ql), (iV cell), (iV lag), (iV (((l.length : Nat) : Int))), (iV i), (iV lo), (iV hi), (.pointer (ptrO al ((i).toNat * 5))), (iV z1.kind), (iV z1.cell), (iV z1.cls), (iV z1.lo), (iV z1.hi), (iV ((i + 1)))] (fun b => w0.heap[b]?) [])
        have hat1 : @At r4 w0 setOff_fr4 setOff_st4 a w := At.shiftL (ρ1 := p4) (ρ2 := r4) (σ := [sy 0, sy 1, sy 2, sy 3, sy 4, sy 5, sy 6, sy 7, sy 8, sy 9, sy 10, sy 11, sy 12, sy 13, sy 14]) (π := [0, 1, 2]) (τ := []) ⟨rfl, rfl, rfl, rfl, rfl, rfl, rfl, rfl, rfl, rfl, rfl, rfl, rfl, rfl, rfl, rfl, rfl, rfl, rfl, rfl, rfl, rfl, rfl, rfl, rfl, rfl, rfl, rfl, rfl, rfl, trivial⟩ trivial (fun _ _ h => h) setOff_wf4 setOff_id4 hat
        refine At.pieceL (ρ1 := r4) (ρ2 := (Rho.of [(iV x0), (iV x1), (iV x2), (iV x3), (iV x4), (iV x5), (iV x6), (iV x7), (.slice al l.length ql), (iV cell), (iV lag), (iV (((l.length : Nat) : Int))), (iV (((i + 1) : Int))), (iV ((lo : Int))), (iV ((hi : Int)))] (fun b => w0.heap[b]?) [])) (@Env.Ok.symL r4 _ _ (@env_ok r4) setOff_e4 setOff_c4 setOff_l4 setOff_cl4 ⟨⟨rfl, rfl, fun w hm => (show KO w (.bin .lss 3) [(iV i), (iV (((l.length : Nat) : Int)))] (.bool true) from k_lss_t c0)⟩, ⟨rfl, rfl, fun w hm => (show KO w (.indexAddr 38) [(.slice al l.length ql), (iV i)] (.pointer (ptrO al ((i).toNat * 5))) from l_index (Hl.keep hm) Try.underlying38 (by kernel_rfl) (by omega) (by omega))⟩, ⟨rfl, rfl, fun w hm => (show KO w (.load 54) [(.pointer (ptrO al ((i).toNat * 5)))] (.agg #[(iV z1.kind), (iV z1.cell), (iV z1.cls), (iV z1.lo), (iV z1.hi)]) from l_loadS (Hl.keep hm) (by omega) Try.underlying54 rfl (l := [(iV z1.kind), (iV z1.cell), (iV z1.cls), (iV z1.lo), (iV z1.hi)]) (by kernel_rfl) (flat_getz (c := srcC) (sz := 5) (fun _ => rfl) hz1 (by omega)))⟩, ⟨rfl, rfl, fun w hm => (show KO w (.bin .eql 3) [(iV z1.kind), (iV 1)] (.bool false) from k_eql_f c2)⟩, ⟨rfl, rfl, fun w hm => (show KO w (.bin .add 3) [(iV i), (iV 1)] (iV ((i + 1))) from k_add (wrap64 (by omega)))⟩, trivial⟩ trivial trivial trivial) setOff_r4 ⟨rfl, rfl, rfl, rfl, rfl, rfl, rfl, rfl, rfl, rfl, rfl, rfl, rfl, rfl, rfl, rfl, rfl, rfl, rfl, rfl, rfl, rfl, rfl, rfl, rfl, rfl, rfl, rfl, rfl, rfl, trivial⟩ trivial (fun _ _ h => h) setOff_wf4 setOff_wf4 hat1 (fun a w hat => .inl ⟨rfl, ⟨((i + 1), lo, hi), ?_, ?_, hat⟩⟩)
        · show (l.length - ((i + 1) : Int)).toNat < (l.length - i).toNat
          omega
        · show 0 ≤ ((i + 1) : Int) ∧ ((i + 1) : Int) ≤ l.length ∧ (0 ≤ (lo : Int) ∧ (lo : Int) ≤ 1099511627776) ∧ (0 ≤ (hi : Int) ∧ (hi : Int) ≤ 1099511627776) ∧ offZ x0 x1 x2 x3 x4 x5 x6 x7 cell lag (l.take ((i + 1) : Int).toNat) = ((lo : Int), (hi : Int))
          have st := offZ_snoc (x0 := x0) (x1 := x1) (x2 := x2) (x3 := x3) (x4 := x4) (x5 := x5) (x6 := x6) (x7 := x7) (cell := cell) (lag := lag) (l := l) (i := i.toNat) (by omega)
          have e1 : (i + 1).toNat = i.toNat + 1 := by omega
          refine ⟨by omega, by omega, by omega, by omega, ?_⟩
          rw [e1, st, i4]
          unfold offStep
          first
            | (rw [if_pos (by simp_all)]; simp_all [trLo, trHi]; done)
            | (rw [if_neg (by simp_all)])
    · let r5 : Rho := (Rho.of [(iV x0), (iV x1), (iV x2), (iV x3), (iV x4), (iV x5), (iV x6), (iV x7), (.slice al l.length ql), (iV cell), (iV lag), (iV (((l.length : Nat) : Int))), (iV i), (iV lo), (iV hi)] (fun b => w0.heap[b]?) [])
      have hat1 : @At r5 w0 setOff_fr4 setOff_st4 a w := At.shiftL (ρ1 := p4) (ρ2 := r5) (σ := [sy 0, sy 1, sy 2, sy 3, sy 4, sy 5, sy 6, sy 7, sy 8, sy 9, sy 10, sy 11, sy 12, sy 13, sy 14]) (π := [0, 1, 2]) (τ := []) ⟨rfl, rfl, rfl, rfl, rfl, rfl, rfl, rfl, rfl, rfl, rfl, rfl, rfl, rfl, rfl, rfl, rfl, rfl, rfl, rfl, rfl, rfl, rfl, rfl, rfl, rfl, rfl, rfl, rfl, rfl, trivial⟩ trivial (fun _ _ h => h) setOff_wf4 setOff_id4 hat
      let p5 : Rho := (Rho.of [(iV x0), (iV x1), (iV x2), (iV x3), (iV x4), (iV x5), (iV x6), (iV x7), (.slice al l.length ql), (iV cell), (iV lag), (iV lo), (iV hi)] (fun b => w0.heap[b]?) [])
      refine At.pieceL (ρ1 := r5) (ρ2 := p5) (@Env.Ok.symL r5 _ _ (@env_ok r5) setOff_e5 setOff_c5 setOff_l5 setOff_cl5 ⟨⟨rfl, rfl, fun w hm => (show KO w (.bin .lss 3) [(iV i), (iV (((l.length : Nat) : Int)))] (.bool false) from k_lss_f c0)⟩, trivial⟩ trivial trivial trivial) setOff_r5 ⟨rfl, rfl, rfl, rfl, rfl, rfl, rfl, rfl, rfl, rfl, rfl, rfl, rfl, rfl, rfl, rfl, rfl, rfl, rfl, rfl, rfl, rfl, rfl, rfl, rfl, rfl, trivial⟩ trivial (fun _ _ h => h) setOff_wf4 setOff_wf5 hat1 (fun a w hat => .inr ⟨.inl ⟨0, rfl⟩, .inl ⟨rfl, .inl ⟨rfl, ?_⟩⟩⟩)
      let r6 : Rho := (Rho.of [(iV x0), (iV x1), (iV x2), (iV x3), (iV x4), (iV x5), (iV x6), (iV x7), (.slice al l.length ql), (iV cell), (iV lag), (iV lo), (iV hi)] (fun b => w0.heap[b]?) [])
      have hat1 : @At r6 w0 setOff_fr5 setOff_st5 a w := At.shiftL (ρ1 := p5) (ρ2 := r6) (σ := [sy 0, sy 1, sy 2, sy 3, sy 4, sy 5, sy 6, sy 7, sy 8, sy 9, sy 10, sy 11, sy 12]) (π := [0, 1]) (τ := []) ⟨rfl, rfl, rfl, rfl, rfl, rfl, rfl, rfl, rfl, rfl, rfl, rfl, rfl, rfl, rfl, rfl, rfl, rfl, rfl, rfl, rfl, rfl, rfl, rfl, rfl, rfl, trivial⟩ trivial (fun _ _ h => h) setOff_wf5 setOff_id5 hat
      refine @At.lastK r6 Try.prog (env.symL [] [] [] []) (@Env.Ok.symL r6 _ _ (@env_ok r6) [] [] [] [] trivial trivial trivial trivial) w0 3000 setOff_b6 Try.f74 setOff_fr5 setOff_st5 _ _ setOff_r6 setOff_wf5 a w hat1 (@endV_ok r6 w0 (.agg #[(sy 11), (sy 12)]) (fun en w' => en = .returned (.agg #[iV (offZ x0 x1 x2 x3 x4 x5 x6 x7 cell lag l).1, iV (offZ x0 x1 x2 x3 x4 x5 x6 x7 cell lag l).2]) ∧ Below w0.heap.size w0 w') rfl (fun w2 hb => ?_))
      have v0 : (lo : Int) = (offZ x0 x1 x2 x3 x4 x5 x6 x7 cell lag l).1 := by
        have e1 : i.toNat = l.length := by omega
        have e2 := i4
        rw [e1, List.take_length] at e2
        rw [e2]
      have v1 : (hi : Int) = (offZ x0 x1 x2 x3 x4 x5 x6 x7 cell lag l).2 := by
        have e1 : i.toNat = l.length := by omega
        have e2 := i4
        rw [e1, List.take_length] at e2
        rw [e2]
      have hv := congr (congrArg (fun (y0 : Int) (y1 : Int) => ((.agg #[(iV y0), (iV y1)]) : Value)) v0) v1
      exact ⟨congrArg Ending.returned hv, hb⟩
  · show 0 ≤ (0 : Int) ∧ (0 : Int) ≤ l.length ∧ (0 ≤ (1099511627776 : Int) ∧ (1099511627776 : Int) ≤ 1099511627776) ∧ (0 ≤ (0 : Int) ∧ (0 : Int) ≤ 1099511627776) ∧ offZ x0 x1 x2 x3 x4 x5 x6 x7 cell lag (l.take (0 : Int).toNat) = ((1099511627776 : Int), (0 : Int))
    exact ⟨by omega, by omega, by omega, by omega, rfl⟩
end Go.Proofs.Ytoaehigmpbhppaa.En
