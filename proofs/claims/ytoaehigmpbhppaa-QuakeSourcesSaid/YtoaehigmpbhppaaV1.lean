/-
  Numbers are checked to ascend.
-/
import Derived.Test.YtoaehigmpbhppaaV0
namespace Go.Proofs.Ytoaehigmpbhppaa.En
open Go Go.Ev Go.Proofs Go.RowKit
set_option linter.unusedSimpArgs false
set_option linter.unusedVariables false
noncomputable def asc_b0 : Code := (Try.f60.body).getD .skip

noncomputable def asc_fr0 : Fr := mkFr Try.f60 [(0, (.chan (.some 0))), (1, (.chan (.some 1)))] []
noncomputable def asc_st0 : St := mkSt 0 []
theorem asc_wf0 : asc_st0.Wf := mkSt_wf rfl
set_option maxRecDepth 1000000 in
theorem asc_id0 : agreeL [sy 0, sy 1] [] [] asc_fr0 asc_st0 asc_fr0 asc_st0 = true := by kernel_rfl

set_option maxRecDepth 1000000 in
theorem asc_a0 : agreeL [sy 0, sy 1] [] [] asc_fr0 asc_st0 (frameOf Try.f60 [(.chan (.some 0)), (.chan (.some 1))]) Ev.start = true := by kernel_rfl

noncomputable def asc_b1 : Code := headC asc_b0

noncomputable def asc_b2 : Code := tailC asc_b0

set_option maxRecDepth 1000000 in
theorem asc_q0 : asc_b0 = .seq asc_b1 asc_b2 := by kernel_rfl

noncomputable def asc_fr1 : Fr := mkFr Try.f60 [(0, (.chan (.some 0))), (1, (.chan (.some 1))), (4, (iV (.ofNat 0)))] []
noncomputable def asc_st1 : St := mkSt 0 []
theorem asc_wf1 : asc_st1.Wf := mkSt_wf rfl
set_option maxRecDepth 1000000 in
theorem asc_id1 : agreeL [sy 0, sy 1] [] [] asc_fr1 asc_st1 asc_fr1 asc_st1 = true := by kernel_rfl

set_option maxRecDepth 1000000 in
theorem asc_r0 : ev Try.prog (env.symL [] [] [] []) 3000 (.code asc_b1 none asc_fr0 asc_st0 (stopL .normal [sy 0, sy 1] [] [] asc_fr1 asc_st1)) = some () := by kernel_rfl

noncomputable def asc_b3 : Code := headC asc_b2

noncomputable def asc_b4 : Code := tailC asc_b2

set_option maxRecDepth 1000000 in
theorem asc_q1 : asc_b2 = .seq asc_b3 asc_b4 := by kernel_rfl

noncomputable def asc_b5 : Code := headC asc_b3

noncomputable def asc_b6 : Code := tailC asc_b3

set_option maxRecDepth 1000000 in
theorem asc_q2 : asc_b3 = .seq asc_b5 asc_b6 := by kernel_rfl

noncomputable def asc_e1 : List Ent := [⟨(.bi 0 [37]), [(sy 0)], (sy 2)⟩]
noncomputable def asc_c1 : List CEnt := []
noncomputable def asc_l1 : List LEnt := []
noncomputable def asc_cl1 : List CLEnt := []

noncomputable def asc_fr2 : Fr := mkFr Try.f60 [(0, (.chan (.some 0))), (1, (.chan (.some 1))), (4, (iV (.ofNat 0))), (7, (.chan (.some 0))), (8, (.chan (.some 2))), (9, (iV (.ofNat 0)))] []
noncomputable def asc_st2 : St := mkSt 0 []
theorem asc_wf2 : asc_st2.Wf := mkSt_wf rfl
set_option maxRecDepth 1000000 in
theorem asc_id2 : agreeL [sy 0, sy 1, sy 2] [] [] asc_fr2 asc_st2 asc_fr2 asc_st2 = true := by kernel_rfl

set_option maxRecDepth 1000000 in
theorem asc_r1 : ev Try.prog (env.symL asc_e1 asc_c1 asc_l1 asc_cl1) 3000 (.code asc_b5 none asc_fr1 asc_st1 (stopL .normal [sy 0, sy 1, sy 2] [] [] asc_fr2 asc_st2)) = some () := by kernel_rfl

noncomputable def asc_b7 : Code := inBlockC asc_b6

set_option maxRecDepth 1000000 in
theorem asc_q3 : asc_b6 = .block 0 asc_b7 := by kernel_rfl

noncomputable def asc_b8 : Code := inLoopC asc_b7

set_option maxRecDepth 1000000 in
theorem asc_q4 : asc_b7 = .loop asc_b8 := by kernel_rfl

noncomputable def asc_fr3 : Fr := mkFr Try.f60 [(0, (.chan (.some 0))), (1, (.chan (.some 1))), (4, (iV (.ofNat 0))), (7, (.chan (.some 0))), (8, (.chan (.some 2))), (9, (.chan (.some 3)))] []
noncomputable def asc_st3 : St := mkSt 0 []
theorem asc_wf3 : asc_st3.Wf := mkSt_wf rfl
set_option maxRecDepth 1000000 in
theorem asc_id3 : agreeL [sy 0, sy 1, sy 2, sy 3] [] [] asc_fr3 asc_st3 asc_fr3 asc_st3 = true := by kernel_rfl

set_option maxRecDepth 1000000 in
theorem asc_h5 : agreeL [(sy 0), (sy 1), (sy 2), (iV 0)] [] [] asc_fr3 asc_st3 asc_fr2 asc_st2 = true := by kernel_rfl

noncomputable def asc_e2 : List Ent := [⟨(.bin .lss 3), [(sy 3), (sy 2)], (.bool true)⟩, ⟨(.indexAddr 37), [(sy 0), (sy 3)], (sy 4)⟩, ⟨(.load 3), [(sy 4)], (sy 5)⟩, ⟨(.bin .sub 3), [(sy 1), (iV 1)], (sy 6)⟩, ⟨(.bin .geq 3), [(sy 5), (iV 0)], (.bool true)⟩, ⟨(.bin .leq 3), [(sy 5), (sy 6)], (.bool true)⟩, ⟨(.bin .gtr 3), [(sy 3), (iV 0)], (.bool true)⟩, ⟨(.bin .sub 3), [(sy 3), (iV 1)], (sy 7)⟩, ⟨(.indexAddr 37), [(sy 0), (sy 7)], (sy 8)⟩, ⟨(.load 3), [(sy 8)], (sy 9)⟩, ⟨(.bin .leq 3), [(sy 5), (sy 9)], (.bool true)⟩]
noncomputable def asc_c2 : List CEnt := []
noncomputable def asc_l2 : List LEnt := []
noncomputable def asc_cl2 : List CLEnt := []

set_option maxRecDepth 1000000 in
theorem asc_r2 : ev Try.prog (env.symL asc_e2 asc_c2 asc_l2 asc_cl2) 3000 (.code asc_b8 none asc_fr3 asc_st3 (stopRK (env.symL asc_e2 asc_c2 asc_l2 asc_cl2) Try.f60 (endV (iV 2)))) = some () := by kernel_rfl

noncomputable def asc_e3 : List Ent := [⟨(.bin .lss 3), [(sy 3), (sy 2)], (.bool true)⟩, ⟨(.indexAddr 37), [(sy 0), (sy 3)], (sy 4)⟩, ⟨(.load 3), [(sy 4)], (sy 5)⟩, ⟨(.bin .sub 3), [(sy 1), (iV 1)], (sy 6)⟩, ⟨(.bin .geq 3), [(sy 5), (iV 0)], (.bool true)⟩, ⟨(.bin .leq 3), [(sy 5), (sy 6)], (.bool true)⟩, ⟨(.bin .gtr 3), [(sy 3), (iV 0)], (.bool true)⟩, ⟨(.bin .sub 3), [(sy 3), (iV 1)], (sy 7)⟩, ⟨(.indexAddr 37), [(sy 0), (sy 7)], (sy 8)⟩, ⟨(.load 3), [(sy 8)], (sy 9)⟩, ⟨(.bin .leq 3), [(sy 5), (sy 9)], (.bool false)⟩, ⟨(.bin .add 3), [(sy 3), (iV 1)], (sy 10)⟩]
noncomputable def asc_c3 : List CEnt := []
noncomputable def asc_l3 : List LEnt := []
noncomputable def asc_cl3 : List CLEnt := []

set_option maxRecDepth 1000000 in
theorem asc_r3 : ev Try.prog (env.symL asc_e3 asc_c3 asc_l3 asc_cl3) 3000 (.code asc_b8 none asc_fr3 asc_st3 (stopL .normal [(sy 0), (sy 1), (sy 2), (sy 10)] [] [] asc_fr3 asc_st3)) = some () := by kernel_rfl

noncomputable def asc_e4 : List Ent := [⟨(.bin .lss 3), [(sy 3), (sy 2)], (.bool true)⟩, ⟨(.indexAddr 37), [(sy 0), (sy 3)], (sy 4)⟩, ⟨(.load 3), [(sy 4)], (sy 5)⟩, ⟨(.bin .sub 3), [(sy 1), (iV 1)], (sy 6)⟩, ⟨(.bin .geq 3), [(sy 5), (iV 0)], (.bool true)⟩, ⟨(.bin .leq 3), [(sy 5), (sy 6)], (.bool true)⟩, ⟨(.bin .gtr 3), [(sy 3), (iV 0)], (.bool false)⟩, ⟨(.bin .add 3), [(sy 3), (iV 1)], (sy 7)⟩]
noncomputable def asc_c4 : List CEnt := []
noncomputable def asc_l4 : List LEnt := []
noncomputable def asc_cl4 : List CLEnt := []

set_option maxRecDepth 1000000 in
theorem asc_r4 : ev Try.prog (env.symL asc_e4 asc_c4 asc_l4 asc_cl4) 3000 (.code asc_b8 none asc_fr3 asc_st3 (stopL .normal [(sy 0), (sy 1), (sy 2), (sy 7)] [] [] asc_fr3 asc_st3)) = some () := by kernel_rfl

noncomputable def asc_e5 : List Ent := [⟨(.bin .lss 3), [(sy 3), (sy 2)], (.bool true)⟩, ⟨(.indexAddr 37), [(sy 0), (sy 3)], (sy 4)⟩, ⟨(.load 3), [(sy 4)], (sy 5)⟩, ⟨(.bin .sub 3), [(sy 1), (iV 1)], (sy 6)⟩, ⟨(.bin .geq 3), [(sy 5), (iV 0)], (.bool true)⟩, ⟨(.bin .leq 3), [(sy 5), (sy 6)], (.bool false)⟩]
noncomputable def asc_c5 : List CEnt := []
noncomputable def asc_l5 : List LEnt := []
noncomputable def asc_cl5 : List CLEnt := []

set_option maxRecDepth 1000000 in
theorem asc_r5 : ev Try.prog (env.symL asc_e5 asc_c5 asc_l5 asc_cl5) 3000 (.code asc_b8 none asc_fr3 asc_st3 (stopRK (env.symL asc_e5 asc_c5 asc_l5 asc_cl5) Try.f60 (endV (iV 4)))) = some () := by kernel_rfl

noncomputable def asc_e6 : List Ent := [⟨(.bin .lss 3), [(sy 3), (sy 2)], (.bool true)⟩, ⟨(.indexAddr 37), [(sy 0), (sy 3)], (sy 4)⟩, ⟨(.load 3), [(sy 4)], (sy 5)⟩, ⟨(.bin .sub 3), [(sy 1), (iV 1)], (sy 6)⟩, ⟨(.bin .geq 3), [(sy 5), (iV 0)], (.bool false)⟩]
noncomputable def asc_c6 : List CEnt := []
noncomputable def asc_l6 : List LEnt := []
noncomputable def asc_cl6 : List CLEnt := []

set_option maxRecDepth 1000000 in
theorem asc_r6 : ev Try.prog (env.symL asc_e6 asc_c6 asc_l6 asc_cl6) 3000 (.code asc_b8 none asc_fr3 asc_st3 (stopRK (env.symL asc_e6 asc_c6 asc_l6 asc_cl6) Try.f60 (endV (iV 4)))) = some () := by kernel_rfl

noncomputable def asc_e7 : List Ent := [⟨(.bin .lss 3), [(sy 3), (sy 2)], (.bool false)⟩]
noncomputable def asc_c7 : List CEnt := []
noncomputable def asc_l7 : List LEnt := []
noncomputable def asc_cl7 : List CLEnt := []

noncomputable def asc_fr4 : Fr := mkFr Try.f60 [(4, (iV (.ofNat 0)))] []
noncomputable def asc_st4 : St := mkSt 0 []
theorem asc_wf4 : asc_st4.Wf := mkSt_wf rfl
set_option maxRecDepth 1000000 in
theorem asc_id4 : agreeL [sy 0, sy 1] [] [] asc_fr4 asc_st4 asc_fr4 asc_st4 = true := by kernel_rfl

set_option maxRecDepth 1000000 in
theorem asc_r7 : ev Try.prog (env.symL asc_e7 asc_c7 asc_l7 asc_cl7) 3000 (.code asc_b8 none asc_fr3 asc_st3 (stopL (.exit 0) [sy 0, sy 1] [] [] asc_fr4 asc_st4)) = some () := by kernel_rfl

set_option maxRecDepth 1000000 in
theorem asc_r8 : ev Try.prog (env.symL [] [] [] []) 3000 (.code asc_b4 none asc_fr4 asc_st4 (retK (env.symL [] [] [] []) Try.f60 (endV (iV 0)))) = some () := by kernel_rfl

set_option maxHeartbeats 8000000 in
set_option maxRecDepth 100000 in
theorem asc_any (al : Option Addr) (l : List Int) (ql : Nat) (m : Int) (w0 : World) {tl : TypeId} (Hl : Lies w0 tl (flat intC l) al l.length) (hn : l.length < 1000000) (hm : 0 ≤ m ∧ m ≤ 1000000) : Calls Try.prog 60 #[(.slice al l.length ql), (iV m)] w0 (fun en w' => en = .returned (iV (ascErr m l)) ∧ Below w0.heap.size w0 w') := by
  refine @calls_of_body (Rho.of [(.slice al l.length ql), (iV m)] (fun b => w0.heap[b]?) []) Try.prog env (@env_ok (Rho.of [(.slice al l.length ql), (iV m)] (fun b => w0.heap[b]?) [])) 60 Try.f60 asc_b0 [(.chan (.some 0)), (.chan (.some 1))] w0 _ (by kernel_rfl) (by kernel_rfl) (of_decide_eq_true (by kernel_rfl)) (of_decide_eq_true (by kernel_rfl)) rfl (fun _ _ h => h) (fun a hat0 => ?_)
  have hat : @At (Rho.of [(.slice al l.length ql), (iV m)] (fun b => w0.heap[b]?) []) w0 asc_fr0 asc_st0 a w0 := At.shiftL (σ := [sy 0, sy 1]) (π := []) (τ := []) ⟨rfl, rfl, rfl, rfl, trivial⟩ trivial (fun _ _ h => h) asc_wf0 asc_a0 hat0
  clear hat0
  suffices key : ∀ w, @At (Rho.of [(.slice al l.length ql), (iV m)] (fun b => w0.heap[b]?) []) w0 asc_fr0 asc_st0 a w → asc_b0.wpIn (FF none) 0 Try.prog (bodyPostM Fence.wide 0 Try.prog Try.f60 (fun en w' => en = .returned (iV (ascErr m l)) ∧ Below w0.heap.size w0 w')) a w from key w0 hat
  clear hat
  intro w hat
  let p0 : Rho := (Rho.of [(.slice al l.length ql), (iV m)] (fun b => w0.heap[b]?) [])
  change @At p0 w0 asc_fr0 asc_st0 a w at hat
  refine g_seq asc_q0 ?_
  let r0 : Rho := (Rho.of [(.slice al l.length ql), (iV m)] (fun b => w0.heap[b]?) [])
  have hat1 : @At r0 w0 asc_fr0 asc_st0 a w := At.shiftL (ρ1 := p0) (ρ2 := r0) (σ := [sy 0, sy 1]) (π := []) (τ := []) ⟨rfl, rfl, rfl, rfl, trivial⟩ trivial (fun _ _ h => h) asc_wf0 asc_id0 hat
  let p1 : Rho := (Rho.of [(.slice al l.length ql), (iV m)] (fun b => w0.heap[b]?) [])
  refine At.pieceL (ρ1 := r0) (ρ2 := p1) (@Env.Ok.symL r0 _ _ (@env_ok r0) [] [] [] [] trivial trivial trivial trivial) asc_r0 ⟨rfl, rfl, rfl, rfl, trivial⟩ trivial (fun _ _ h => h) asc_wf0 asc_wf1 hat1 (fun a w hat => .inl ⟨rfl, ?_⟩)
  refine g_seq asc_q1 ?_
  refine g_seq asc_q2 ?_
  let r1 : Rho := (Rho.of [(.slice al l.length ql), (iV m), (iV (((l.length : Nat) : Int)))] (fun b => w0.heap[b]?) [])
  have hat1 : @At r1 w0 asc_fr1 asc_st1 a w := At.shiftL (ρ1 := p1) (ρ2 := r1) (σ := [sy 0, sy 1]) (π := []) (τ := []) ⟨rfl, rfl, rfl, rfl, trivial⟩ trivial (fun _ _ h => h) asc_wf1 asc_id1 hat
  let p2 : Rho := (Rho.of [(.slice al l.length ql), (iV m), (iV (((l.length : Nat) : Int)))] (fun b => w0.heap[b]?) [])
  refine At.pieceL (ρ1 := r1) (ρ2 := p2) (@Env.Ok.symL r1 _ _ (@env_ok r1) asc_e1 asc_c1 asc_l1 asc_cl1 ⟨⟨rfl, rfl, fun w hm => (show KO w (.bi 0 [37]) [(.slice al l.length ql)] (iV (((l.length : Nat) : Int))) from k_len Try.underlying37)⟩, trivial⟩ trivial trivial trivial) asc_r1 ⟨rfl, rfl, rfl, rfl, rfl, rfl, trivial⟩ trivial (fun _ _ h => h) asc_wf1 asc_wf2 hat1 (fun a w hat => .inl ⟨rfl, ?_⟩)
  refine g_block asc_q3 ?_
  have hat0 := At.shiftL (ρ1 := p2) (ρ2 := (Rho.of [(.slice al l.length ql), (iV m), (iV (((l.length : Nat) : Int))), (iV ((0 : Int)))] (fun b => w0.heap[b]?) [])) (σ := [(sy 0), (sy 1), (sy 2), (iV 0)]) (π := []) (τ := []) ⟨rfl, rfl, rfl, rfl, rfl, rfl, rfl, rfl, trivial⟩ trivial (fun _ _ h => h) asc_wf3 asc_h5 hat
  clear hat
  refine g_loop (fun (x : Int) a w => (0 ≤ (x : Int) ∧ (x : Int) ≤ l.length ∧ (∀ k : Nat, (k : Int) < (x : Int) → ascAt m l k = 0)) ∧ @At (Rho.of [(.slice al l.length ql), (iV m), (iV (((l.length : Nat) : Int))), (iV ((x : Int)))] (fun b => w0.heap[b]?) []) w0 asc_fr3 asc_st3 a w) (fun x => (l.length - (x : Int)).toNat) asc_q4 ?_ (0) ⟨?_, hat0⟩
  · clear hat0
    rintro i a w ⟨hinv, hat⟩
    change 0 ≤ i ∧ i ≤ l.length ∧ (∀ k : Nat, (k : Int) < i → ascAt m l k = 0) at hinv
    let p3 : Rho := (Rho.of [(.slice al l.length ql), (iV m), (iV (((l.length : Nat) : Int))), (iV i)] (fun b => w0.heap[b]?) [])
    change @At p3 w0 asc_fr3 asc_st3 a w at hat
    obtain ⟨i0, i1, i2⟩ := hinv
    by_cases c0 : i < ((l.length : Nat) : Int)
    · obtain ⟨z1, hz1⟩ : ∃ z : Int, z = l.getD (i).toNat 0 := ⟨_, rfl⟩
      by_cases c2 : z1 ≥ 0
      · by_cases c3 : z1 ≤ (m - 1)
        · by_cases c4 : i > 0
          · obtain ⟨z5, hz5⟩ : ∃ z : Int, z = l.getD ((i - 1)).toNat 0 := ⟨_, rfl⟩
            by_cases c6 : z1 ≤ z5
            · let r2 : Rho := (Rho.of [(.slice al l.length ql), (iV m), (iV (((l.length : Nat) : Int))), (iV i), (.pointer (ptrO al ((i).toNat * 1))), (iV z1), (iV ((m - 1))), (iV ((i - 1))), (.pointer (ptrO al (((i - 1)).toNat * 1))), (iV z5)] (fun b => w0.heap[b]?) [])
              have hat1 : @At r2 w0 asc_fr3 asc_st3 a w := At.shiftL (ρ1 := p3) (ρ2 := r2) (σ := [sy 0, sy 1, sy 2, sy 3]) (π := []) (τ := []) ⟨rfl, rfl, rfl, rfl, rfl, rfl, rfl, rfl, trivial⟩ trivial (fun _ _ h => h) asc_wf3 asc_id3 hat
              refine @At.retGK r2 Try.prog (env.symL asc_e2 asc_c2 asc_l2 asc_cl2) (@Env.Ok.symL r2 _ _ (@env_ok r2) asc_e2 asc_c2 asc_l2 asc_cl2 ⟨⟨rfl, rfl, fun w hm => (show KO w (.bin .lss 3) [(iV i), (iV (((l.length : Nat) : Int)))] (.bool true) from k_lss_t c0)⟩, ⟨rfl, rfl, fun w hm => (show KO w (.indexAddr 37) [(.slice al l.length ql), (iV i)] (.pointer (ptrO al ((i).toNat * 1))) from l_index (Hl.keep hm) Try.underlying37 (by kernel_rfl) (by omega) (by omega))⟩, ⟨rfl, rfl, fun w hm => (show KO w (.load 3) [(.pointer (ptrO al ((i).toNat * 1)))] (iV z1) from l_load (Hl.keep hm) (by omega) Try.underlying3 rfl (flat_getz (c := intC) (sz := 1) (fun _ => rfl) hz1 (by omega) 0 _ rfl))⟩, ⟨rfl, rfl, fun w hm => (show KO w (.bin .sub 3) [(iV m), (iV 1)] (iV ((m - 1))) from k_sub (wrap64 (by omega)))⟩, ⟨rfl, rfl, fun w hm => (show KO w (.bin .geq 3) [(iV z1), (iV 0)] (.bool true) from k_geq_t c2)⟩, ⟨rfl, rfl, fun w hm => (show KO w (.bin .leq 3) [(iV z1), (iV ((m - 1)))] (.bool true) from k_leq_t c3)⟩, ⟨rfl, rfl, fun w hm => (show KO w (.bin .gtr 3) [(iV i), (iV 0)] (.bool true) from k_gtr_t c4)⟩, ⟨rfl, rfl, fun w hm => (show KO w (.bin .sub 3) [(iV i), (iV 1)] (iV ((i - 1))) from k_sub (wrap64 (by omega)))⟩, ⟨rfl, rfl, fun w hm => (show KO w (.indexAddr 37) [(.slice al l.length ql), (iV ((i - 1)))] (.pointer (ptrO al (((i - 1)).toNat * 1))) from l_index (Hl.keep hm) Try.underlying37 (by kernel_rfl) (by omega) (by omega))⟩, ⟨rfl, rfl, fun w hm => (show KO w (.load 3) [(.pointer (ptrO al (((i - 1)).toNat * 1)))] (iV z5) from l_load (Hl.keep hm) (by omega) Try.underlying3 rfl (flat_getz (c := intC) (sz := 1) (fun _ => rfl) hz5 (by omega) 0 _ rfl))⟩, ⟨rfl, rfl, fun w hm => (show KO w (.bin .leq 3) [(iV z1), (iV z5)] (.bool true) from k_leq_t c6)⟩, trivial⟩ trivial trivial trivial) w0 3000 asc_b8 Try.f60 asc_fr3 asc_st3 _ _ asc_r2 asc_wf3 a w hat1 (@endV_ok r2 w0 (iV 2) (fun en w' => en = .returned (iV (ascErr m l)) ∧ Below w0.heap.size w0 w') rfl (fun w2 hb => ?_)) _ (fun a w h => .inr ⟨.inr rfl, .inr ⟨(fun q => nomatch q), .inr ⟨(fun q => nomatch q), h⟩⟩⟩)
              have v0 : (2 : Int) = ascErr m l := by
                have hs : ascAt m l i.toNat = 2 := by
                  unfold ascAt
                  repeat' split
                  all_goals simp_all
                  all_goals omega
                rw [asc_at (i := i.toNat) (by omega) (fun k hk => i2 k (by omega)) (by omega)]
                omega
              have hv := congrArg (fun (y0 : Int) => ((iV y0) : Value)) v0
              exact ⟨congrArg Ending.returned hv, hb⟩
            · let r3 : Rho := (Rho.of [(.slice al l.length ql), (iV m), (iV (((l.length : Nat) : Int))), (iV i), (.pointer (ptrO al ((i).toNat * 1))), (iV z1), (iV ((m - 1))), (iV ((i - 1))), (.pointer (ptrO al (((i - 1)).toNat * 1))), (iV z5), (iV ((i + 1)))] (fun b => w0.heap[b]?) [])
              have hat1 : @At r3 w0 asc_fr3 asc_st3 a w := At.shiftL (ρ1 := p3) (ρ2 := r3) (σ := [sy 0, sy 1, sy 2, sy 3]) (π := []) (τ := []) ⟨rfl, rfl, rfl, rfl, rfl, rfl, rfl, rfl, trivial⟩ trivial (fun _ _ h => h) asc_wf3 asc_id3 hat
              refine At.pieceL (ρ1 := r3) (ρ2 := (Rho.of [(.slice al l.length ql), (iV m), (iV (((l.length : Nat) : Int))), (iV (((i + 1) : Int)))] (fun b => w0.heap[b]?) [])) (@Env.Ok.symL r3 _ _ (@env_ok r3) asc_e3 asc_c3 asc_l3 asc_cl3 ⟨⟨rfl, rfl, fun w hm => (show KO w (.bin .lss 3) [(iV i), (iV (((l.length : Nat) : Int)))] (.bool true) from k_lss_t c0)⟩, ⟨rfl, rfl, fun w hm => (show KO w (.indexAddr 37) [(.slice al l.length ql), (iV i)] (.pointer (ptrO al ((i).toNat * 1))) from l_index (Hl.keep hm) Try.underlying37 (by kernel_rfl) (by omega) (by omega))⟩, ⟨rfl, rfl, fun w hm => (show KO w (.load 3) [(.pointer (ptrO al ((i).toNat * 1)))] (iV z1) from l_load (Hl.keep hm) (by omega) Try.underlying3 rfl (flat_getz (c := intC) (sz := 1) (fun _ => rfl) hz1 (by omega) 0 _ rfl))⟩, ⟨rfl, rfl, fun w hm => (show KO w (.bin .sub 3) [(iV m), (iV 1)] (iV ((m - 1))) from k_sub (wrap64 (by omega)))⟩, ⟨rfl, rfl, fun w hm => (show KO w (.bin .geq 3) [(iV z1), (iV 0)] (.bool true) from k_geq_t c2)⟩, ⟨rfl, rfl, fun w hm => (show KO w (.bin .leq 3) [(iV z1), (iV ((m - 1)))] (.bool true) from k_leq_t c3)⟩, ⟨rfl, rfl, fun w hm => (show KO w (.bin .gtr 3) [(iV i), (iV 0)] (.bool true) from k_gtr_t c4)⟩, ⟨rfl, rfl, fun w hm => (show KO w (.bin .sub 3) [(iV i), (iV 1)] (iV ((i - 1))) from k_sub (wrap64 (by omega)))⟩, ⟨rfl, rfl, fun w hm => (show KO w (.indexAddr 37) [(.slice al l.length ql), (iV ((i - 1)))] (.pointer (ptrO al (((i - 1)).toNat * 1))) from l_index (Hl.keep hm) Try.underlying37 (by kernel_rfl) (by omega) (by omega))⟩, ⟨rfl, rfl, fun w hm => (show KO w (.load 3) [(.pointer (ptrO al (((i - 1)).toNat * 1)))] (iV z5) from l_load (Hl.keep hm) (by omega) Try.underlying3 rfl (flat_getz (c := intC) (sz := 1) (fun _ => rfl) hz5 (by omega) 0 _ rfl))⟩, ⟨rfl, rfl, fun w hm => (show KO w (.bin .leq 3) [(iV z1), (iV z5)] (.bool false) from k_leq_f c6)⟩, ⟨rfl, rfl, fun w hm => (show KO w (.bin .add 3) [(iV i), (iV 1)] (iV ((i + 1))) from k_add (wrap64 (by omega)))⟩, trivial⟩ trivial trivial trivial) asc_r3 ⟨rfl, rfl, rfl, rfl, rfl, rfl, rfl, rfl, trivial⟩ trivial (fun _ _ h => h) asc_wf3 asc_wf3 hat1 (fun a w hat => .inl ⟨rfl, ⟨((i + 1)), ?_, ?_, hat⟩⟩)
              · show (l.length - ((i + 1) : Int)).toNat < (l.length - i).toNat
                omega
              · show 0 ≤ ((i + 1) : Int) ∧ ((i + 1) : Int) ≤ l.length ∧ (∀ k : Nat, (k : Int) < ((i + 1) : Int) → ascAt m l k = 0)
                have hs : ascAt m l i.toNat = 0 := by
                  unfold ascAt
                  repeat' split
                  all_goals simp_all
                  all_goals omega
                refine ⟨by omega, by omega, fun k hk => ?_⟩
                rcases Int.lt_or_le (k : Int) i with q | q
                · exact i2 k q
                · have e : k = i.toNat := (by omega)
                  subst e; exact hs
          · let r4 : Rho := (Rho.of [(.slice al l.length ql), (iV m), (iV (((l.length : Nat) : Int))), (iV i), (.pointer (ptrO al ((i).toNat * 1))), (iV z1), (iV ((m - 1))), (iV ((i + 1)))] (fun b => w0.heap[b]?) [])
            have hat1 : @At r4 w0 asc_fr3 asc_st3 a w := At.shiftL (ρ1 := p3) (ρ2 := r4) (σ := [sy 0, sy 1, sy 2, sy 3]) (π := []) (τ := []) ⟨rfl, rfl, rfl, rfl, rfl, rfl, rfl, rfl, trivial⟩ trivial (fun _ _ h => h) asc_wf3 asc_id3 hat
            refine At.pieceL (ρ1 := r4) (ρ2 := (Rho.of [(.slice al l.length ql), (iV m), (iV (((l.length : Nat) : Int))), (iV (((i + 1) : Int)))] (fun b => w0.heap[b]?) [])) (@Env.Ok.symL r4 _ _ (@env_ok r4) asc_e4 asc_c4 asc_l4 asc_cl4 ⟨⟨rfl, rfl, fun w hm => (show KO w (.bin .lss 3) [(iV i), (iV (((l.length : Nat) : Int)))] (.bool true) from k_lss_t c0)⟩, ⟨rfl, rfl, fun w hm => (show KO w (.indexAddr 37) [(.slice al l.length ql), (iV i)] (.pointer (ptrO al ((i).toNat * 1))) from l_index (Hl.keep hm) Try.underlying37 (by kernel_rfl) (by omega) (by omega))⟩, ⟨rfl, rfl, fun w hm => (show KO w (.load 3) [(.pointer (ptrO al ((i).toNat * 1)))] (iV z1) from l_load (Hl.keep hm) (by omega) Try.underlying3 rfl (flat_getz (c := intC) (sz := 1) (fun _ => rfl) hz1 (by omega) 0 _ rfl))⟩, ⟨rfl, rfl, fun w hm => (show KO w (.bin .sub 3) [(iV m), (iV 1)] (iV ((m - 1))) from k_sub (wrap64 (by omega)))⟩, ⟨rfl, rfl, fun w hm => (show KO w (.bin .geq 3) [(iV z1), (iV 0)] (.bool true) from k_geq_t c2)⟩, ⟨rfl, rfl, fun w hm => (show KO w (.bin .leq 3) [(iV z1), (iV ((m - 1)))] (.bool true) from k_leq_t c3)⟩, ⟨rfl, rfl, fun w hm => (show KO w (.bin .gtr 3) [(iV i), (iV 0)] (.bool false) from k_gtr_f c4)⟩, ⟨rfl, rfl, fun w hm => (show KO w (.bin .add 3) [(iV i), (iV 1)] (iV ((i + 1))) from k_add (wrap64 (by omega)))⟩, trivial⟩ trivial trivial trivial) asc_r4 ⟨rfl, rfl, rfl, rfl, rfl, rfl, rfl, rfl, trivial⟩ trivial (fun _ _ h => h) asc_wf3 asc_wf3 hat1 (fun a w hat => .inl ⟨rfl, ⟨((i + 1)), ?_, ?_, hat⟩⟩)
            · show (l.length - ((i + 1) : Int)).toNat < (l.length - i).toNat
              omega
            · show 0 ≤ ((i + 1) : Int) ∧ ((i + 1) : Int) ≤ l.length ∧ (∀ k : Nat, (k : Int) < ((i + 1) : Int) → ascAt m l k = 0)
              have hs : ascAt m l i.toNat = 0 := by
                unfold ascAt
                repeat' split
                all_goals simp_all
                all_goals omega
              refine ⟨by omega, by omega, fun k hk => ?_⟩
              rcases Int.lt_or_le (k : Int) i with q | q
              · exact i2 k q
              · have e : k = i.toNat := (by omega)
                subst e; exact hs
        · let r5 : Rho := (Rho.of [(.slice al l.length ql), (iV m), (iV (((l.length : Nat) : Int))), (iV i), (.pointer (ptrO al ((i).toNat * 1))), (iV z1), (iV ((m - 1)))] (fun b => w0.heap[b]?) [])
          have hat1 : @At r5 w0 asc_fr3 asc_st3 a w := At.shiftL (ρ1 := p3) (ρ2 := r5) (σ := [sy 0, sy 1, sy 2, sy 3]) (π := []) (τ := []) ⟨rfl, rfl, rfl, rfl, rfl, rfl, rfl, rfl, trivial⟩ trivial (fun _ _ h => h) asc_wf3 asc_id3 hat
          refine @At.retGK r5 Try.prog (env.symL asc_e5 asc_c5 asc_l5 asc_cl5) (@Env.Ok.symL r5 _ _ (@env_ok r5) asc_e5 asc_c5 asc_l5 asc_cl5 ⟨⟨rfl, rfl, fun w hm => (show KO w (.bin .lss 3) [(iV i), (iV (((l.length : Nat) : Int)))] (.bool true) from k_lss_t c0)⟩, ⟨rfl, rfl, fun w hm => (show KO w (.indexAddr 37) [(.slice al l.length ql), (iV i)] (.pointer (ptrO al ((i).toNat * 1))) from l_index (Hl.keep hm) Try.underlying37 (by kernel_rfl) (by omega) (by omega))⟩, ⟨rfl, rfl, fun w hm => (show KO w (.load 3) [(.pointer (ptrO al ((i).toNat * 1)))] (iV z1) from l_load (Hl.keep hm) (by omega) Try.underlying3 rfl (flat_getz (c := intC) (sz := 1) (fun _ => rfl) hz1 (by omega) 0 _ rfl))⟩, ⟨rfl, rfl, fun w hm => (show KO w (.bin .sub 3) [(iV m), (iV 1)] (iV ((m - 1))) from k_sub (wrap64 (by omega)))⟩, ⟨rfl, rfl, fun w hm => (show KO w (.bin .geq 3) [(iV z1), (iV 0)] (.bool true) from k_geq_t c2)⟩, ⟨rfl, rfl, fun w hm => (show KO w (.bin .leq 3) [(iV z1), (iV ((m - 1)))] (.bool false) from k_leq_f c3)⟩, trivial⟩ trivial trivial trivial) w0 3000 asc_b8 Try.f60 asc_fr3 asc_st3 _ _ asc_r5 asc_wf3 a w hat1 (@endV_ok r5 w0 (iV 4) (fun en w' => en = .returned (iV (ascErr m l)) ∧ Below w0.heap.size w0 w') rfl (fun w2 hb => ?_)) _ (fun a w h => .inr ⟨.inr rfl, .inr ⟨(fun q => nomatch q), .inr ⟨(fun q => nomatch q), h⟩⟩⟩)
          have v0 : (4 : Int) = ascErr m l := by
            have hs : ascAt m l i.toNat = 4 := by
              unfold ascAt
              repeat' split
              all_goals simp_all
              all_goals omega
            rw [asc_at (i := i.toNat) (by omega) (fun k hk => i2 k (by omega)) (by omega)]
            omega
          have hv := congrArg (fun (y0 : Int) => ((iV y0) : Value)) v0
          exact ⟨congrArg Ending.returned hv, hb⟩
      · let r6 : Rho := (Rho.of [(.slice al l.length ql), (iV m), (iV (((l.length : Nat) : Int))), (iV i), (.pointer (ptrO al ((i).toNat * 1))), (iV z1), (iV ((m - 1)))] (fun b => w0.heap[b]?) [])
        have hat1 : @At r6 w0 asc_fr3 asc_st3 a w := At.shiftL (ρ1 := p3) (ρ2 := r6) (σ := [sy 0, sy 1, sy 2, sy 3]) (π := []) (τ := []) ⟨rfl, rfl, rfl, rfl, rfl, rfl, rfl, rfl, trivial⟩ trivial (fun _ _ h => h) asc_wf3 asc_id3 hat
        refine @At.retGK r6 Try.prog (env.symL asc_e6 asc_c6 asc_l6 asc_cl6) (@Env.Ok.symL r6 _ _ (@env_ok r6) asc_e6 asc_c6 asc_l6 asc_cl6 ⟨⟨rfl, rfl, fun w hm => (show KO w (.bin .lss 3) [(iV i), (iV (((l.length : Nat) : Int)))] (.bool true) from k_lss_t c0)⟩, ⟨rfl, rfl, fun w hm => (show KO w (.indexAddr 37) [(.slice al l.length ql), (iV i)] (.pointer (ptrO al ((i).toNat * 1))) from l_index (Hl.keep hm) Try.underlying37 (by kernel_rfl) (by omega) (by omega))⟩, ⟨rfl, rfl, fun w hm => (show KO w (.load 3) [(.pointer (ptrO al ((i).toNat * 1)))] (iV z1) from l_load (Hl.keep hm) (by omega) Try.underlying3 rfl (flat_getz (c := intC) (sz := 1) (fun _ => rfl) hz1 (by omega) 0 _ rfl))⟩, ⟨rfl, rfl, fun w hm => (show KO w (.bin .sub 3) [(iV m), (iV 1)] (iV ((m - 1))) from k_sub (wrap64 (by omega)))⟩, ⟨rfl, rfl, fun w hm => (show KO w (.bin .geq 3) [(iV z1), (iV 0)] (.bool false) from k_geq_f c2)⟩, trivial⟩ trivial trivial trivial) w0 3000 asc_b8 Try.f60 asc_fr3 asc_st3 _ _ asc_r6 asc_wf3 a w hat1 (@endV_ok r6 w0 (iV 4) (fun en w' => en = .returned (iV (ascErr m l)) ∧ Below w0.heap.size w0 w') rfl (fun w2 hb => ?_)) _ (fun a w h => .inr ⟨.inr rfl, .inr ⟨(fun q => nomatch q), .inr ⟨(fun q => nomatch q), h⟩⟩⟩)
        have v0 : (4 : Int) = ascErr m l := by
          have hs : ascAt m l i.toNat = 4 := by
            unfold ascAt
            repeat' split
            all_goals simp_all
            all_goals omega
          rw [asc_at (i := i.toNat) (by omega) (fun k hk => i2 k (by omega)) (by omega)]
          omega
        have hv := congrArg (fun (y0 : Int) => ((iV y0) : Value)) v0
        exact ⟨congrArg Ending.returned hv, hb⟩
    · let r7 : Rho := (Rho.of [(.slice al l.length ql), (iV m), (iV (((l.length : Nat) : Int))), (iV i)] (fun b => w0.heap[b]?) [])
      have hat1 : @At r7 w0 asc_fr3 asc_st3 a w := At.shiftL (ρ1 := p3) (ρ2 := r7) (σ := [sy 0, sy 1, sy 2, sy 3]) (π := []) (τ := []) ⟨rfl, rfl, rfl, rfl, rfl, rfl, rfl, rfl, trivial⟩ trivial (fun _ _ h => h) asc_wf3 asc_id3 hat
      let p4 : Rho := (Rho.of [(.slice al l.length ql), (iV m)] (fun b => w0.heap[b]?) [])
      refine At.pieceL (ρ1 := r7) (ρ2 := p4) (@Env.Ok.symL r7 _ _ (@env_ok r7) asc_e7 asc_c7 asc_l7 asc_cl7 ⟨⟨rfl, rfl, fun w hm => (show KO w (.bin .lss 3) [(iV i), (iV (((l.length : Nat) : Int)))] (.bool false) from k_lss_f c0)⟩, trivial⟩ trivial trivial trivial) asc_r7 ⟨rfl, rfl, rfl, rfl, trivial⟩ trivial (fun _ _ h => h) asc_wf3 asc_wf4 hat1 (fun a w hat => .inr ⟨.inl ⟨0, rfl⟩, .inl ⟨rfl, .inl ⟨rfl, ?_⟩⟩⟩)
      let r8 : Rho := (Rho.of [(.slice al l.length ql), (iV m)] (fun b => w0.heap[b]?) [])
      have hat1 : @At r8 w0 asc_fr4 asc_st4 a w := At.shiftL (ρ1 := p4) (ρ2 := r8) (σ := [sy 0, sy 1]) (π := []) (τ := []) ⟨rfl, rfl, rfl, rfl, trivial⟩ trivial (fun _ _ h => h) asc_wf4 asc_id4 hat
      refine @At.lastK r8 Try.prog (env.symL [] [] [] []) (@Env.Ok.symL r8 _ _ (@env_ok r8) [] [] [] [] trivial trivial trivial trivial) w0 3000 asc_b4 Try.f60 asc_fr4 asc_st4 _ _ asc_r8 asc_wf4 a w hat1 (@endV_ok r8 w0 (iV 0) (fun en w' => en = .returned (iV (ascErr m l)) ∧ Below w0.heap.size w0 w') rfl (fun w2 hb => ?_))
      have v0 : (0 : Int) = ascErr m l := by
        rw [asc_all (fun k hk => i2 k (by omega))]
      have hv := congrArg (fun (y0 : Int) => ((iV y0) : Value)) v0
      exact ⟨congrArg Ending.returned hv, hb⟩
  · show 0 ≤ (0 : Int) ∧ (0 : Int) ≤ l.length ∧ (∀ k : Nat, (k : Int) < (0 : Int) → ascAt m l k = 0)
    exact ⟨by omega, by omega, fun k hk => by omega⟩
end Go.Proofs.Ytoaehigmpbhppaa.En
