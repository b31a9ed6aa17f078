import Derived.Test.YtoaehigmpbhppaaLAJ
import Derived.Test.YtoaehigmpbhppaaLAJ
import Derived.Test.YtoaehigmpbhppaaLAE
import Derived.Test.YtoaehigmpbhppaaLAH
import Derived.Test.YtoaehigmpbhppaaLAI
import Derived.Test.YtoaehigmpbhppaaLAI
/-
  Texts of the bench, merged.
-/
set_option linter.unusedSimpArgs false
set_option linter.unusedVariables false
namespace Go.Proofs.Ytoaehigmpbhppaa.En
open Go Go.Ev Go.Proofs Go.RowKit
set_option maxRecDepth 1000000
noncomputable section
def f89b0 : Code := (Try.f89.body).getD .skip
def f89F0 : Fr := mkFr Try.f89 [(0, (sy 0)), (1, (ag 1 6))] []
def f89S1 : St := mkSt 0 []
theorem f89I2 : IdOk 7 0 0 f89F0 f89S1 := ⟨mkSt_wf rfl, by kernel_rfl⟩
def f89n3 : List Ent := aB .sub (sy 7) (iV 1) (sy 8) :: ⟨(.bi 0 [37]), [(sy 0)], (sy 7)⟩ :: cB .leq (sy 1) (iV 3) true :: cB .geq (sy 1) (iV 1) true :: []
def f89n4 : List Ent := cB .geq (sy 2) (iV 0) true :: f89n3
def f89n5 : List Ent := cB .leq (sy 2) (sy 8) true :: f89n4
def f89n6 : List Ent := cB .eql (sy 1) (iV 2) true :: f89n5
def f89n7 : List Ent := cB .leq (sy 5) (sy 6) true :: f89n6
def f89n8 : List Ent := ⟨(.bin .geq 3), [(sy 5), (iV (-10000))], (.bool true)⟩ :: f89n7
def f89n9 : List Ent := cB .leq (sy 6) (iV 10000) true :: f89n8
def f89n10 : List Ent := cB .neq (sy 1) (iV 2) true :: f89n9
def f89n11 : List Ent := cB .leq (sy 3) (sy 4) true :: f89n10
def f89n12 : List Ent := cB .geq (sy 3) (iV 0) true :: f89n11
def f89n13 : List Ent := cB .leq (sy 4) (iV 1000000000) true :: f89n12
def f89n14 : List Ent := cB .leq (sy 4) (iV 1000000000) false :: f89n12
def f89n15 : List Ent := cB .geq (sy 3) (iV 0) false :: f89n11
def f89n16 : List Ent := cB .leq (sy 3) (sy 4) false :: f89n10
def f89n17 : List Ent := cB .neq (sy 1) (iV 2) false :: f89n9
def f89n18 : List Ent := cB .leq (sy 6) (iV 10000) false :: f89n8
def f89n19 : List Ent := ⟨(.bin .geq 3), [(sy 5), (iV (-10000))], (.bool false)⟩ :: f89n7
def f89n20 : List Ent := cB .leq (sy 5) (sy 6) false :: f89n6
def f89n21 : List Ent := cB .eql (sy 1) (iV 2) false :: f89n5
def f89n22 : List Ent := cB .neq (sy 1) (iV 2) true :: f89n21
def f89n23 : List Ent := cB .leq (sy 3) (sy 4) true :: f89n22
def f89n24 : List Ent := cB .geq (sy 3) (iV 0) true :: f89n23
def f89n25 : List Ent := cB .leq (sy 4) (iV 1000000000) true :: f89n24
def f89n26 : List Ent := cB .leq (sy 4) (iV 1000000000) false :: f89n24
def f89n27 : List Ent := cB .geq (sy 3) (iV 0) false :: f89n23
def f89n28 : List Ent := cB .leq (sy 3) (sy 4) false :: f89n22
def f89n29 : List Ent := cB .neq (sy 1) (iV 2) false :: f89n21
def f89n30 : List Ent := cB .leq (sy 2) (sy 8) false :: f89n4
def f89n31 : List Ent := cB .geq (sy 2) (iV 0) false :: f89n3
def f89n32 : List Ent := cB .leq (sy 1) (iV 3) false :: cB .geq (sy 1) (iV 1) true :: []
def f89n33 : List Ent := cB .geq (sy 1) (iV 1) false :: []
theorem f89a0 : agreeL (ids 7) [] [] f89F0 f89S1 (frameOf Try.f89 [(sy 0), (ag 1 6)]) Ev.start = true := by kernel_rfl
theorem f89r0 : lE f89n13 [] [] [] f89b0 f89F0 f89S1 Try.f89 (endV (iV 0)) = some () := by kernel_rfl
theorem f89r1 : lE f89n14 [] [] [] f89b0 f89F0 f89S1 Try.f89 (endV (iV 3)) = some () := by kernel_rfl
theorem f89r2 : lE f89n15 [] [] [] f89b0 f89F0 f89S1 Try.f89 (endV (iV 3)) = some () := by kernel_rfl
theorem f89r3 : lE f89n16 [] [] [] f89b0 f89F0 f89S1 Try.f89 (endV (iV 3)) = some () := by kernel_rfl
theorem f89r4 : lE f89n17 [] [] [] f89b0 f89F0 f89S1 Try.f89 (endV (iV 0)) = some () := by kernel_rfl
theorem f89r5 : lE f89n18 [] [] [] f89b0 f89F0 f89S1 Try.f89 (endV (iV 3)) = some () := by kernel_rfl
theorem f89r6 : lE f89n19 [] [] [] f89b0 f89F0 f89S1 Try.f89 (endV (iV 3)) = some () := by kernel_rfl
theorem f89r7 : lE f89n20 [] [] [] f89b0 f89F0 f89S1 Try.f89 (endV (iV 3)) = some () := by kernel_rfl
theorem f89r8 : lE f89n25 [] [] [] f89b0 f89F0 f89S1 Try.f89 (endV (iV 0)) = some () := by kernel_rfl
theorem f89r9 : lE f89n26 [] [] [] f89b0 f89F0 f89S1 Try.f89 (endV (iV 3)) = some () := by kernel_rfl
theorem f89r10 : lE f89n27 [] [] [] f89b0 f89F0 f89S1 Try.f89 (endV (iV 3)) = some () := by kernel_rfl
theorem f89r11 : lE f89n28 [] [] [] f89b0 f89F0 f89S1 Try.f89 (endV (iV 3)) = some () := by kernel_rfl
theorem f89r12 : lE f89n29 [] [] [] f89b0 f89F0 f89S1 Try.f89 (endV (iV 0)) = some () := by kernel_rfl
theorem f89r13 : lE f89n30 [] [] [] f89b0 f89F0 f89S1 Try.f89 (endV (iV 4)) = some () := by kernel_rfl
theorem f89r14 : lE f89n31 [] [] [] f89b0 f89F0 f89S1 Try.f89 (endV (iV 4)) = some () := by kernel_rfl
theorem f89r15 : lE f89n32 [] [] [] f89b0 f89F0 f89S1 Try.f89 (endV (iV 2)) = some () := by kernel_rfl
theorem f89r16 : lE f89n33 [] [] [] f89b0 f89F0 f89S1 Try.f89 (endV (iV 2)) = some () := by kernel_rfl
set_option maxHeartbeats 8000000 in
theorem rpick_any (ast : Option Addr) (st : List Int) (qst : Nat) (p : Pk) (w0 : World) {tst : TypeId} (Hst : Lies w0 tst (flat intC st) ast st.length) (hn : st.length < 1000000) : Calls Try.prog 89 #[(.slice ast st.length qst), (.agg #[(iV p.kind), (iV p.station), (iV p.t0), (iV p.t1), (iV p.l0), (iV p.l1)])] w0 (fun en w' => en = .returned (iV (pkErr st.length p)) ∧ Below w0.heap.size w0 w') := by
  let vb : List Value := [(.slice ast st.length qst), (iV p.kind), (iV p.station), (iV p.t0), (iV p.t1), (iV p.l0), (iV p.l1)]
  let p0 : Rho := (RO w0 vb [])
  refine At.begin (ρ := p0) (c := f89b0) (@env_ok p0) f89I2 f89a0 (fun a w hat => ?_)
  by_cases c0 : p.kind ≥ 1
  · by_cases c1 : p.kind ≤ 3
    · have K0 : KA w0 (.bi 0 [37]) [(.slice ast st.length qst)] (iV (((st.length : Nat) : Int))) := fun w hm => k_len Try.underlying37
      have K1 := kSub w0 (((st.length : Nat) : Int)) (1) (by omega)
      by_cases c2 : p.station ≥ 0
      · by_cases c3 : p.station ≤ (((st.length : Nat) : Int) - 1)
        · by_cases c4 : p.kind = 2
          · by_cases c5 : p.l0 ≤ p.l1
            · by_cases c6 : p.l0 ≥ (-10000)
              · by_cases c7 : p.l1 ≤ 10000
                · by_cases c8 : p.kind ≠ 2
                  · by_cases c9 : p.t0 ≤ p.t1
                    · by_cases c10 : p.t0 ≥ 0
                      · by_cases c11 : p.t1 ≤ 1000000000
                        · let r0 : Rho := (RO w0 (vb ++ [(iV (((st.length : Nat) : Int))), (iV ((((st.length : Nat) : Int) - 1)))]) [])
                          refine At.lastsV (ρ1 := r0) f89r0 (@env_ok r0) ⟨enk (kleqt c11), enk (kgeqt c10), enk (kleqt c9), enk (kneqt c8), enk (kleqt c7), enk (kgeqt c6), enk (kleqt c5), enk (keqlt c4), enk (kleqt c3), enk (kgeqt c2), enk K1, enk K0, enk (kleqt c1), enk (kgeqt c0), trivial⟩ trivial trivial trivial f89I2 hat (fun w2 hb => ?_)
                          have v0 : (0 : Int) = pkErr st.length p := by
                            unfold pkErr; repeat' split
                            all_goals first | rfl | omega
                          exact ret1 v0 hb
                        let r1 : Rho := (RO w0 (vb ++ [(iV (((st.length : Nat) : Int))), (iV ((((st.length : Nat) : Int) - 1)))]) [])
                        refine At.lastsV (ρ1 := r1) f89r1 (@env_ok r1) ⟨enk (kleqf c11), enk (kgeqt c10), enk (kleqt c9), enk (kneqt c8), enk (kleqt c7), enk (kgeqt c6), enk (kleqt c5), enk (keqlt c4), enk (kleqt c3), enk (kgeqt c2), enk K1, enk K0, enk (kleqt c1), enk (kgeqt c0), trivial⟩ trivial trivial trivial f89I2 hat (fun w2 hb => ?_)
                        have v0 : (3 : Int) = pkErr st.length p := by
                          unfold pkErr; repeat' split
                          all_goals first | rfl | omega
                        exact ret1 v0 hb
                      let r2 : Rho := (RO w0 (vb ++ [(iV (((st.length : Nat) : Int))), (iV ((((st.length : Nat) : Int) - 1)))]) [])
                      refine At.lastsV (ρ1 := r2) f89r2 (@env_ok r2) ⟨enk (kgeqf c10), enk (kleqt c9), enk (kneqt c8), enk (kleqt c7), enk (kgeqt c6), enk (kleqt c5), enk (keqlt c4), enk (kleqt c3), enk (kgeqt c2), enk K1, enk K0, enk (kleqt c1), enk (kgeqt c0), trivial⟩ trivial trivial trivial f89I2 hat (fun w2 hb => ?_)
                      have v0 : (3 : Int) = pkErr st.length p := by
                        unfold pkErr; repeat' split
                        all_goals first | rfl | omega
                      exact ret1 v0 hb
                    let r3 : Rho := (RO w0 (vb ++ [(iV (((st.length : Nat) : Int))), (iV ((((st.length : Nat) : Int) - 1)))]) [])
                    refine At.lastsV (ρ1 := r3) f89r3 (@env_ok r3) ⟨enk (kleqf c9), enk (kneqt c8), enk (kleqt c7), enk (kgeqt c6), enk (kleqt c5), enk (keqlt c4), enk (kleqt c3), enk (kgeqt c2), enk K1, enk K0, enk (kleqt c1), enk (kgeqt c0), trivial⟩ trivial trivial trivial f89I2 hat (fun w2 hb => ?_)
                    have v0 : (3 : Int) = pkErr st.length p := by
                      unfold pkErr; repeat' split
                      all_goals first | rfl | omega
                    exact ret1 v0 hb
                  let r4 : Rho := (RO w0 (vb ++ [(iV (((st.length : Nat) : Int))), (iV ((((st.length : Nat) : Int) - 1)))]) [])
                  refine At.lastsV (ρ1 := r4) f89r4 (@env_ok r4) ⟨enk (kneqf c8), enk (kleqt c7), enk (kgeqt c6), enk (kleqt c5), enk (keqlt c4), enk (kleqt c3), enk (kgeqt c2), enk K1, enk K0, enk (kleqt c1), enk (kgeqt c0), trivial⟩ trivial trivial trivial f89I2 hat (fun w2 hb => ?_)
                  have v0 : (0 : Int) = pkErr st.length p := by
                    unfold pkErr; repeat' split
                    all_goals first | rfl | omega
                  exact ret1 v0 hb
                let r5 : Rho := (RO w0 (vb ++ [(iV (((st.length : Nat) : Int))), (iV ((((st.length : Nat) : Int) - 1)))]) [])
                refine At.lastsV (ρ1 := r5) f89r5 (@env_ok r5) ⟨enk (kleqf c7), enk (kgeqt c6), enk (kleqt c5), enk (keqlt c4), enk (kleqt c3), enk (kgeqt c2), enk K1, enk K0, enk (kleqt c1), enk (kgeqt c0), trivial⟩ trivial trivial trivial f89I2 hat (fun w2 hb => ?_)
                have v0 : (3 : Int) = pkErr st.length p := by
                  unfold pkErr; repeat' split
                  all_goals first | rfl | omega
                exact ret1 v0 hb
              let r6 : Rho := (RO w0 (vb ++ [(iV (((st.length : Nat) : Int))), (iV ((((st.length : Nat) : Int) - 1)))]) [])
              refine At.lastsV (ρ1 := r6) f89r6 (@env_ok r6) ⟨enk (kgeqf c6), enk (kleqt c5), enk (keqlt c4), enk (kleqt c3), enk (kgeqt c2), enk K1, enk K0, enk (kleqt c1), enk (kgeqt c0), trivial⟩ trivial trivial trivial f89I2 hat (fun w2 hb => ?_)
              have v0 : (3 : Int) = pkErr st.length p := by
                unfold pkErr; repeat' split
                all_goals first | rfl | omega
              exact ret1 v0 hb
            let r7 : Rho := (RO w0 (vb ++ [(iV (((st.length : Nat) : Int))), (iV ((((st.length : Nat) : Int) - 1)))]) [])
            refine At.lastsV (ρ1 := r7) f89r7 (@env_ok r7) ⟨enk (kleqf c5), enk (keqlt c4), enk (kleqt c3), enk (kgeqt c2), enk K1, enk K0, enk (kleqt c1), enk (kgeqt c0), trivial⟩ trivial trivial trivial f89I2 hat (fun w2 hb => ?_)
            have v0 : (3 : Int) = pkErr st.length p := by
              unfold pkErr; repeat' split
              all_goals first | rfl | omega
            exact ret1 v0 hb
          by_cases c12 : p.kind ≠ 2
          · by_cases c13 : p.t0 ≤ p.t1
            · by_cases c14 : p.t0 ≥ 0
              · by_cases c15 : p.t1 ≤ 1000000000
                · let r8 : Rho := (RO w0 (vb ++ [(iV (((st.length : Nat) : Int))), (iV ((((st.length : Nat) : Int) - 1)))]) [])
                  refine At.lastsV (ρ1 := r8) f89r8 (@env_ok r8) ⟨enk (kleqt c15), enk (kgeqt c14), enk (kleqt c13), enk (kneqt c12), enk (keqlf c4), enk (kleqt c3), enk (kgeqt c2), enk K1, enk K0, enk (kleqt c1), enk (kgeqt c0), trivial⟩ trivial trivial trivial f89I2 hat (fun w2 hb => ?_)
                  have v0 : (0 : Int) = pkErr st.length p := by
                    unfold pkErr; repeat' split
                    all_goals first | rfl | omega
                  exact ret1 v0 hb
                let r9 : Rho := (RO w0 (vb ++ [(iV (((st.length : Nat) : Int))), (iV ((((st.length : Nat) : Int) - 1)))]) [])
                refine At.lastsV (ρ1 := r9) f89r9 (@env_ok r9) ⟨enk (kleqf c15), enk (kgeqt c14), enk (kleqt c13), enk (kneqt c12), enk (keqlf c4), enk (kleqt c3), enk (kgeqt c2), enk K1, enk K0, enk (kleqt c1), enk (kgeqt c0), trivial⟩ trivial trivial trivial f89I2 hat (fun w2 hb => ?_)
                have v0 : (3 : Int) = pkErr st.length p := by
                  unfold pkErr; repeat' split
                  all_goals first | rfl | omega
                exact ret1 v0 hb
              let r10 : Rho := (RO w0 (vb ++ [(iV (((st.length : Nat) : Int))), (iV ((((st.length : Nat) : Int) - 1)))]) [])
              refine At.lastsV (ρ1 := r10) f89r10 (@env_ok r10) ⟨enk (kgeqf c14), enk (kleqt c13), enk (kneqt c12), enk (keqlf c4), enk (kleqt c3), enk (kgeqt c2), enk K1, enk K0, enk (kleqt c1), enk (kgeqt c0), trivial⟩ trivial trivial trivial f89I2 hat (fun w2 hb => ?_)
              have v0 : (3 : Int) = pkErr st.length p := by
                unfold pkErr; repeat' split
                all_goals first | rfl | omega
              exact ret1 v0 hb
            let r11 : Rho := (RO w0 (vb ++ [(iV (((st.length : Nat) : Int))), (iV ((((st.length : Nat) : Int) - 1)))]) [])
            refine At.lastsV (ρ1 := r11) f89r11 (@env_ok r11) ⟨enk (kleqf c13), enk (kneqt c12), enk (keqlf c4), enk (kleqt c3), enk (kgeqt c2), enk K1, enk K0, enk (kleqt c1), enk (kgeqt c0), trivial⟩ trivial trivial trivial f89I2 hat (fun w2 hb => ?_)
            have v0 : (3 : Int) = pkErr st.length p := by
              unfold pkErr; repeat' split
              all_goals first | rfl | omega
            exact ret1 v0 hb
          let r12 : Rho := (RO w0 (vb ++ [(iV (((st.length : Nat) : Int))), (iV ((((st.length : Nat) : Int) - 1)))]) [])
          refine At.lastsV (ρ1 := r12) f89r12 (@env_ok r12) ⟨enk (kneqf c12), enk (keqlf c4), enk (kleqt c3), enk (kgeqt c2), enk K1, enk K0, enk (kleqt c1), enk (kgeqt c0), trivial⟩ trivial trivial trivial f89I2 hat (fun w2 hb => ?_)
          have v0 : (0 : Int) = pkErr st.length p := by
            unfold pkErr; repeat' split
            all_goals first | rfl | omega
          exact ret1 v0 hb
        let r13 : Rho := (RO w0 (vb ++ [(iV (((st.length : Nat) : Int))), (iV ((((st.length : Nat) : Int) - 1)))]) [])
        refine At.lastsV (ρ1 := r13) f89r13 (@env_ok r13) ⟨enk (kleqf c3), enk (kgeqt c2), enk K1, enk K0, enk (kleqt c1), enk (kgeqt c0), trivial⟩ trivial trivial trivial f89I2 hat (fun w2 hb => ?_)
        have v0 : (4 : Int) = pkErr st.length p := by
          unfold pkErr; repeat' split
          all_goals first | rfl | omega
        exact ret1 v0 hb
      let r14 : Rho := (RO w0 (vb ++ [(iV (((st.length : Nat) : Int))), (iV ((((st.length : Nat) : Int) - 1)))]) [])
      refine At.lastsV (ρ1 := r14) f89r14 (@env_ok r14) ⟨enk (kgeqf c2), enk K1, enk K0, enk (kleqt c1), enk (kgeqt c0), trivial⟩ trivial trivial trivial f89I2 hat (fun w2 hb => ?_)
      have v0 : (4 : Int) = pkErr st.length p := by
        unfold pkErr; repeat' split
        all_goals first | rfl | omega
      exact ret1 v0 hb
    refine At.lastsV (ρ1 := p0) f89r15 (@env_ok p0) ⟨enk (kleqf c1), enk (kgeqt c0), trivial⟩ trivial trivial trivial f89I2 hat (fun w2 hb => ?_)
    have v0 : (2 : Int) = pkErr st.length p := by
      unfold pkErr; repeat' split
      all_goals first | rfl | omega
    exact ret1 v0 hb
  refine At.lastsV (ρ1 := p0) f89r16 (@env_ok p0) ⟨enk (kgeqf c0), trivial⟩ trivial trivial trivial f89I2 hat (fun w2 hb => ?_)
  have v0 : (2 : Int) = pkErr st.length p := by
    unfold pkErr; repeat' split
    all_goals first | rfl | omega
  exact ret1 v0 hb
def f92b0 : Code := (Try.f92.body).getD .skip
def f92F0 : Fr := mkFr Try.f92 [(0, (ag 0 8)), (1, (sy 8)), (2, (ag 9 5)), (3, (sy 14)), (4, (sy 15))] []
def f92S1 : St := mkSt 0 []
theorem f92I2 : IdOk 16 0 0 f92F0 f92S1 := ⟨mkSt_wf rfl, by kernel_rfl⟩
def f92F3 : Fr := mkFr Try.f92 [(1, (sy 8)), (3, (sy 14)), (4, (sy 15)), (5, (pt 0 0)), (7, (pt 1 0)), (10, (iV 0))] []
def f92S4 : St := mkSt 2 [(0, (.cells (ids 8) 26 .none .false)), (1, (.cells [(sy 9), (sy 10), (sy 11), (sy 12), (sy 13)] 54 .none .false))]
theorem f92I5 : IdOk 16 2 0 f92F3 f92S4 := ⟨mkSt_wf rfl, by kernel_rfl⟩
def f92F6 : Fr := mkFr Try.f92 [(1, (sy 8)), (3, (sy 14)), (4, (sy 15)), (5, (pt 0 0)), (7, (pt 1 0)), (10, (iV 0)), (11, (iV 0))] []
theorem f92I7 : IdOk 16 2 0 f92F6 f92S4 := ⟨mkSt_wf rfl, by kernel_rfl⟩
def f92F8 : Fr := mkFr Try.f92 [(1, (sy 8)), (3, (sy 14)), (4, (sy 15)), (5, (pt 0 0)), (7, (pt 1 0)), (10, (iV 0)), (11, (iV 0)), (12, (iV 0))] []
theorem f92I9 : IdOk 16 2 0 f92F8 f92S4 := ⟨mkSt_wf rfl, by kernel_rfl⟩
theorem f92f100 : FnIn env 100 := ⟨Try.f100, (Try.f100.body).getD .skip, by kernel_rfl, by kernel_rfl⟩
def f92n14 : List Ent := ⟨(.load 116), [(sy 19)], (ag 20 6)⟩ :: ⟨(.indexAddr 50), [(sy 14), (sy 16)], (sy 19)⟩ :: cB .lss (sy 16) (sy 18) true :: ⟨(.bi 0 [50]), [(sy 14)], (sy 18)⟩ :: []
def f92n15 : List Ent := aB .add (sy 16) (iV 1) (sy 26) :: f92n14
def f92n16 : List CEnt := ⟨100, [(ag 0 8), (sy 8), (ag 9 5), (ag 20 6), (sy 15)], [], (.bool true)⟩ :: []
def f92n17 : List Ent := aB .add (sy 16) (iV 1) (sy 27) :: aB .add (sy 17) (iV 1) (sy 26) :: f92n14
def f92n18 : List CEnt := ⟨100, [(ag 0 8), (sy 8), (ag 9 5), (ag 20 6), (sy 15)], [], (.bool false)⟩ :: []
def f92n19 : List Ent := cB .lss (sy 16) (sy 18) false :: ⟨(.bi 0 [50]), [(sy 14)], (sy 18)⟩ :: []
def f92F20 : Fr := mkFr Try.f92 [(1, (sy 8)), (3, (sy 14)), (4, (sy 15)), (5, (pt 0 0)), (7, (pt 1 0)), (10, (iV 0)), (11, (sy 17)), (12, (sy 16))] []
theorem f92I21 : IdOk 18 2 0 f92F20 f92S4 := ⟨mkSt_wf rfl, by kernel_rfl⟩
def f92F22 : Fr := mkFr Try.f92 [(10, (iV 0)), (11, (sy 16))] []
theorem f92I23 : IdOk 17 0 0 f92F22 f92S1 := ⟨mkSt_wf rfl, by kernel_rfl⟩
theorem f92a0 : agreeL (ids 16) [] [] f92F0 f92S1 (frameOf Try.f92 [(ag 0 8), (sy 8), (ag 9 5), (sy 14), (sy 15)]) Ev.start = true := by kernel_rfl
def f92b1 : Code := headC f92b0
def f92b2 : Code := tailC f92b0
theorem f92q0 : f92b0 = .seq f92b1 f92b2 := by kernel_rfl
theorem f92r0 : gE [] [] [] [] f92b1 f92F0 f92S1 .normal (ids 16) [0, 1] [] f92F3 f92S4 = some () := by kernel_rfl
def f92b3 : Code := headC f92b2
def f92b4 : Code := tailC f92b2
theorem f92q1 : f92b2 = .seq f92b3 f92b4 := by kernel_rfl
theorem f92r1 : gE [] [] [] [] f92b3 f92F3 f92S4 .normal (ids 16) [0, 1] [] f92F6 f92S4 = some () := by kernel_rfl
def f92b5 : Code := headC f92b4
def f92b6 : Code := tailC f92b4
theorem f92q2 : f92b4 = .seq f92b5 f92b6 := by kernel_rfl
def f92b7 : Code := headC f92b5
def f92b8 : Code := tailC f92b5
theorem f92q3 : f92b5 = .seq f92b7 f92b8 := by kernel_rfl
theorem f92r2 : gE [] [] [] [] f92b7 f92F6 f92S4 .normal (ids 16) [0, 1] [] f92F8 f92S4 = some () := by kernel_rfl
def f92b9 : Code := inBlockC f92b8
theorem f92q4 : f92b8 = .block 0 f92b9 := by kernel_rfl
def f92b10 : Code := inLoopC f92b9
theorem f92q5 : f92b9 = .loop f92b10 := by kernel_rfl
theorem f92h6 : agreeL (ids 16 ++ [(iV 0), (iV 0)]) [0, 1] [] f92F20 f92S4 f92F8 f92S4 = true := by kernel_rfl
theorem f92r3 : gE f92n15 f92n16 [] [] f92b10 f92F20 f92S4 .normal (pk 16 [26, 17]) [0, 1] [] f92F20 f92S4 = some () := by kernel_rfl
theorem f92r4 : gE f92n17 f92n18 [] [] f92b10 f92F20 f92S4 .normal (pk 16 [27, 26]) [0, 1] [] f92F20 f92S4 = some () := by kernel_rfl
theorem f92r5 : gE f92n19 [] [] [] f92b10 f92F20 f92S4 (.exit 0) (pk 16 [17]) [] [] f92F22 f92S1 = some () := by kernel_rfl
theorem f92r6 : lE [] [] [] [] f92b6 f92F22 f92S1 Try.f92 (endV (sy 16)) = some () := by kernel_rfl
set_option maxHeartbeats 8000000 in
theorem against_any (x0 : Int) (x1 : Int) (x2 : Int) (x3 : Int) (x4 : Int) (x5 : Int) (x6 : Int) (x7 : Int) (ast : Option Addr) (st : List Int) (qst : Nat) (s : Src) (ap : Option Addr) (p : List Pk) (qp : Nat) (t : Int) (w0 : World) {tst : TypeId} (Hst : Lies w0 tst (flat intC st) ast st.length) (v : ModOk x0 x1 x2 x3 x4 x5 x6 x7) (hcell : 0 ≤ s.cell ∧ s.cell < x0 * x1) (hcls : 1 ≤ s.cls ∧ s.cls ≤ 10) (hst : StOk x0 x1 st) (hn1 : st.length < 1000000) {tp : TypeId} (Hp : Lies w0 tp (flat pkC p) ap p.length) (hpk : PksOk st.length p) (hpn : p.length ≤ 64) (ht : 0 ≤ t ∧ t ≤ 1000000000) : Calls Try.prog 92 #[(mV x0 x1 x2 x3 x4 x5 x6 x7), (.slice ast st.length qst), (.agg #[(iV s.kind), (iV s.cell), (iV s.cls), (iV s.lo), (iV s.hi)]), (.slice ap p.length qp), (iV t)] w0 (fun en w' => en = .returned (iV (agZ x0 x1 x2 x3 x4 x5 x6 x7 st s p t)) ∧ Below w0.heap.size w0 w') := by
  have v0m := v
  let vb : List Value := [(iV x0), (iV x1), (iV x2), (iV x3), (iV x4), (iV x5), (iV x6), (iV x7), (.slice ast st.length qst), (iV s.kind), (iV s.cell), (iV s.cls), (iV s.lo), (iV s.hi), (.slice ap p.length qp), (iV t)]
  let p0 : Rho := (RO w0 vb [])
  refine At.begin (ρ := p0) (c := f92b0) (@env_ok p0) f92I2 f92a0 (fun a w hat => ?_)
  refine g_seq f92q0 ?_
  let p1 : Rho := (RO w0 vb [])
  refine At.go (ρ1 := p0) (ρ2 := p1) f92r0 (@env_ok p0) trivial trivial trivial trivial f92I2 f92I5 hat (fun a w hat => .inl ⟨rfl, ?_⟩)
  refine g_seq f92q1 ?_
  let p2 : Rho := (RO w0 vb [])
  refine At.go (ρ1 := p1) (ρ2 := p2) f92r1 (@env_ok p1) trivial trivial trivial trivial f92I5 f92I7 hat (fun a w hat => .inl ⟨rfl, ?_⟩)
  refine g_seq f92q2 ?_
  refine g_seq f92q3 ?_
  let p3 : Rho := (RO w0 vb [])
  refine At.go (ρ1 := p2) (ρ2 := p3) f92r2 (@env_ok p2) trivial trivial trivial trivial f92I7 f92I9 hat (fun a w hat => .inl ⟨rfl, ?_⟩)
  refine g_block f92q4 ?_
  have hat0 := At.shiftL (ρ1 := p3) (ρ2 := (RO w0 (vb ++ [(iV ((0 : Int))), (iV ((0 : Int)))]) [])) (σ := (ids 16 ++ [(iV 0), (iV 0)])) (π := [0, 1]) (τ := []) ⟨rfl, rfl, rfl, rfl, rfl, rfl, rfl, rfl, rfl, rfl, rfl, rfl, rfl, rfl, rfl, rfl, rfl, rfl, rfl, rfl, rfl, rfl, rfl, rfl, rfl, rfl, rfl, rfl, rfl, rfl, rfl, rfl, rfl, rfl, rfl, rfl, trivial⟩ trivial (fun _ _ h => h) f92I21.1 f92h6 hat
  clear hat
  refine g_loop (fun (x : Int × Int) a w => (0 ≤ (x.1 : Int) ∧ (x.1 : Int) ≤ p.length ∧ (0 ≤ (x.2 : Int) ∧ (x.2 : Int) ≤ (x.1 : Int)) ∧ (x.2 : Int) = (((p.take (x.1 : Int).toNat).filter (fun q => !alwB x0 x1 x2 x3 x4 x5 x6 x7 st s q t)).length : Nat)) ∧ @At (RO w0 (vb ++ [(iV ((x.1 : Int))), (iV ((x.2 : Int)))]) []) w0 f92F20 f92S4 a w) (fun x => (p.length - (x.1 : Int)).toNat) f92q5 ?_ (0, 0) ⟨?_, hat0⟩
  · clear hat0
    rintro ⟨i, n⟩ a w ⟨hinv, hat⟩
    change 0 ≤ i ∧ i ≤ p.length ∧ (0 ≤ n ∧ n ≤ i) ∧ n = (((p.take i.toNat).filter (fun q => !alwB x0 x1 x2 x3 x4 x5 x6 x7 st s q t)).length : Nat) at hinv
    let d4 : List Value := (vb ++ [(iV i), (iV n)])
    let p4 : Rho := RO w0 d4 []
    change @At p4 w0 f92F20 f92S4 a w at hat
    obtain ⟨i0, i1, i2, i3⟩ := hinv
    have K13 : KA w0 (.bi 0 [50]) [(.slice ap p.length qp)] (iV (((p.length : Nat) : Int))) := fun w hm => k_len Try.underlying50
    by_cases c0 : i < ((p.length : Nat) : Int)
    · have K14 : KA w0 (.indexAddr 50) [(.slice ap p.length qp), (iV i)] (.pointer (ptrO ap ((i).toNat * 6))) := fun w hm => l_index (Hp.keep hm) Try.underlying50 (by kernel_rfl) (by omega) (by omega)
      obtain ⟨z1, hz1⟩ : ∃ z : Pk, z = p.getD (i).toNat pkD := ⟨_, rfl⟩
      have ez1 := hpk (i).toNat (by omega)
      rw [← hz1] at ez1
      obtain ⟨ekz1, esz1, elz1, etz1⟩ := pkErr_ok ez1
      have K15 : KA w0 (.load 116) [(.pointer (ptrO ap ((i).toNat * 6)))] (.agg #[(iV z1.kind), (iV z1.station), (iV z1.t0), (iV z1.t1), (iV z1.l0), (iV z1.l1)]) := fun w hm => l_loadS (Hp.keep hm) (by omega) Try.underlying116 rfl (l := [(iV z1.kind), (iV z1.station), (iV z1.t0), (iV z1.t1), (iV z1.l0), (iV z1.l1)]) (by kernel_rfl) (flat_getz (c := pkC) (sz := 6) (fun _ => rfl) hz1 (by omega))
      by_cases c2 : alwB x0 x1 x2 x3 x4 x5 x6 x7 st s z1 t = true
      · have K16 : CA w0 100 #[(mV x0 x1 x2 x3 x4 x5 x6 x7), (.slice ast st.length qst), (.agg #[(iV s.kind), (iV s.cell), (iV s.cls), (iV s.lo), (iV s.hi)]), (.agg #[(iV z1.kind), (iV z1.station), (iV z1.t0), (iV z1.t1), (iV z1.l0), (iV z1.l1)]), (iV t)] (.bool true) := fun w hm => by have h := allows_any x0 x1 x2 x3 x4 x5 x6 x7 ast st qst s z1 t w (Hst.keep hm) v0m hcell hcls hst (by omega) (by omega) ht; rw [decide_eq_true c2] at h; exact h
        have K17 := kAdd w0 (i) (1) (by omega)
        let r3 : Rho := (RO w0 (d4 ++ [(iV (((p.length : Nat) : Int))), (.pointer (ptrO ap ((i).toNat * 6))), (iV z1.kind), (iV z1.station), (iV z1.t0), (iV z1.t1), (iV z1.l0), (iV z1.l1), (iV ((i + 1)))]) [])
        refine At.goS (ρ1 := r3) (ρ2 := (RO w0 (vb ++ [(iV (((i + 1) : Int))), (iV ((n : Int)))]) [])) f92r3 (@env_ok r3) ⟨enk K17, enk K15, enk K14, enk (klsst c0), enk K13, trivial⟩ ⟨cok K16 f92f100, trivial⟩ trivial trivial f92I21 f92I21 hat (SubOk.om rfl rfl) (LsubOk.om rfl) (fun a w hat => .inl ⟨rfl, ⟨((i + 1), n), ?_, ?_, hat⟩⟩)
        · show (p.length - ((i + 1) : Int)).toNat < (p.length - i).toNat
          omega
        show 0 ≤ ((i + 1) : Int) ∧ ((i + 1) : Int) ≤ p.length ∧ (0 ≤ (n : Int) ∧ (n : Int) ≤ ((i + 1) : Int)) ∧ (n : Int) = (((p.take ((i + 1) : Int).toNat).filter (fun q => !alwB x0 x1 x2 x3 x4 x5 x6 x7 st s q t)).length : Nat)
        have e1 : (i + 1).toNat = i.toNat + 1 := by omega
        refine ⟨by omega, by omega, by omega, ?_⟩
        rw [e1, filter_snoc _ (d := pkD) (by omega), ← hz1]
        have hb : alwB x0 x1 x2 x3 x4 x5 x6 x7 st s z1 t = true := by assumption
        simp only [hb, List.length_append]
        simp; omega
      have K18 : CA w0 100 #[(mV x0 x1 x2 x3 x4 x5 x6 x7), (.slice ast st.length qst), (.agg #[(iV s.kind), (iV s.cell), (iV s.cls), (iV s.lo), (iV s.hi)]), (.agg #[(iV z1.kind), (iV z1.station), (iV z1.t0), (iV z1.t1), (iV z1.l0), (iV z1.l1)]), (iV t)] (.bool false) := fun w hm => by have h := allows_any x0 x1 x2 x3 x4 x5 x6 x7 ast st qst s z1 t w (Hst.keep hm) v0m hcell hcls hst (by omega) (by omega) ht; rw [decide_eq_false c2] at h; exact h
      have K19 := kAdd w0 (n) (1) (by omega)
      have K20 := kAdd w0 (i) (1) (by omega)
      let r4 : Rho := (RO w0 (d4 ++ [(iV (((p.length : Nat) : Int))), (.pointer (ptrO ap ((i).toNat * 6))), (iV z1.kind), (iV z1.station), (iV z1.t0), (iV z1.t1), (iV z1.l0), (iV z1.l1), (iV ((n + 1))), (iV ((i + 1)))]) [])
      refine At.goS (ρ1 := r4) (ρ2 := (RO w0 (vb ++ [(iV (((i + 1) : Int))), (iV (((n + 1) : Int)))]) [])) f92r4 (@env_ok r4) ⟨enk K20, enk K19, enk K15, enk K14, enk (klsst c0), enk K13, trivial⟩ ⟨cok K18 f92f100, trivial⟩ trivial trivial f92I21 f92I21 hat (SubOk.om rfl rfl) (LsubOk.om rfl) (fun a w hat => .inl ⟨rfl, ⟨((i + 1), (n + 1)), ?_, ?_, hat⟩⟩)
      · show (p.length - ((i + 1) : Int)).toNat < (p.length - i).toNat
        omega
      show 0 ≤ ((i + 1) : Int) ∧ ((i + 1) : Int) ≤ p.length ∧ (0 ≤ ((n + 1) : Int) ∧ ((n + 1) : Int) ≤ ((i + 1) : Int)) ∧ ((n + 1) : Int) = (((p.take ((i + 1) : Int).toNat).filter (fun q => !alwB x0 x1 x2 x3 x4 x5 x6 x7 st s q t)).length : Nat)
      have e1 : (i + 1).toNat = i.toNat + 1 := by omega
      refine ⟨by omega, by omega, by omega, ?_⟩
      rw [e1, filter_snoc _ (d := pkD) (by omega), ← hz1]
      have hb : alwB x0 x1 x2 x3 x4 x5 x6 x7 st s z1 t = false := by simpa using ‹¬ (alwB _ _ _ _ _ _ _ _ _ _ _ _ = true)›
      simp only [hb, List.length_append]
      simp; omega
    let r5 : Rho := (RO w0 (d4 ++ [(iV (((p.length : Nat) : Int)))]) [])
    let d5 : List Value := (vb ++ [(iV n)])
    let p5 : Rho := RO w0 d5 []
    refine At.go (ρ1 := r5) (ρ2 := p5) f92r5 (@env_ok r5) ⟨enk (klssf c0), enk K13, trivial⟩ trivial trivial trivial f92I21 f92I23 hat (fun a w hat => .inr ⟨.inl ⟨0, rfl⟩, .inl ⟨rfl, .inl ⟨rfl, ?_⟩⟩⟩)
    refine At.lastsV (ρ1 := p5) f92r6 (@env_ok p5) trivial trivial trivial trivial f92I23 hat (fun w2 hb => ?_)
    have v0 : (n : Int) = agZ x0 x1 x2 x3 x4 x5 x6 x7 st s p t := by
      unfold agZ
      rw [i3, show i.toNat = p.length by omega, List.take_length]
    exact ret1 v0 hb
  · show 0 ≤ (0 : Int) ∧ (0 : Int) ≤ p.length ∧ (0 ≤ (0 : Int) ∧ (0 : Int) ≤ (0 : Int)) ∧ (0 : Int) = (((p.take (0 : Int).toNat).filter (fun q => !alwB x0 x1 x2 x3 x4 x5 x6 x7 st s q t)).length : Nat)
    exact ⟨by omega, by omega, by omega, by simp⟩
end
end Go.Proofs.Ytoaehigmpbhppaa.En
namespace Go.Proofs.Ytoaehigmpbhppaa.En
open Go Go.Ev Go.Proofs Go.RowKit
set_option maxRecDepth 1000000
noncomputable section
def f91b0 : Code := (Try.f91.body).getD .skip
def f91F0 : Fr := mkFr Try.f91 [(0, (ag 0 8)), (1, (sy 8)), (2, (ag 9 5)), (3, (sy 14))] []
def f91S1 : St := mkSt 0 []
theorem f91I2 : IdOk 15 0 0 f91F0 f91S1 := ⟨mkSt_wf rfl, by kernel_rfl⟩
def f91F3 : Fr := mkFr Try.f91 [(1, (sy 8)), (3, (sy 14)), (4, (pt 0 0)), (6, (pt 1 0)), (8, (.slice .none 0 0))] []
def f91S4 : St := mkSt 2 [(0, (.cells (ids 8) 26 .none .false)), (1, (.cells [(sy 9), (sy 10), (sy 11), (sy 12), (sy 13)] 54 .none .false))]
theorem f91I5 : IdOk 15 2 0 f91F3 f91S4 := ⟨mkSt_wf rfl, by kernel_rfl⟩
def f91F6 : Fr := mkFr Try.f91 [(1, (sy 8)), (3, (sy 14)), (4, (pt 0 0)), (6, (pt 1 0)), (8, (.slice .none 0 0)), (9, (.slice (.some (.mk 2 0 .none)) 2 2))] []
def f91S7 : St := mkSt 3 [(0, (.cells (ids 8) 26 .none .false)), (1, (.cells [(sy 9), (sy 10), (sy 11), (sy 12), (sy 13)] 54 .none .false)), (2, (.cells [(sy 12), (sy 13)] 3 .none .false))]
theorem f91I8 : IdOk 15 3 0 f91F6 f91S7 := ⟨mkSt_wf rfl, by kernel_rfl⟩
def f91F9 : Fr := mkFr Try.f91 [(1, (sy 8)), (3, (sy 14)), (4, (pt 0 0)), (6, (pt 1 0)), (8, (.slice .none 0 0)), (9, (.slice (.some (.mk 2 0 .none)) 2 2)), (10, (iV 0))] []
theorem f91I10 : IdOk 15 3 0 f91F9 f91S7 := ⟨mkSt_wf rfl, by kernel_rfl⟩
def f91F11 : Fr := mkFr Try.f91 [(1, (sy 8)), (3, (sy 14)), (4, (pt 0 0)), (6, (pt 1 0)), (8, (.slice .none 0 0)), (9, (ls 3 15)), (10, (iV 0))] []
def f91S12 : St := mkSt 4 [(0, (.cells (ids 8) 26 .none .false)), (1, (.cells [(sy 9), (sy 10), (sy 11), (sy 12), (sy 13)] 54 .none .false)), (3, (.lst 0 3 1))]
theorem f91I13 : IdOk 16 4 1 f91F11 f91S12 := ⟨mkSt_wf rfl, by kernel_rfl⟩
theorem f91f47 : FnIn env 47 := ⟨Try.f47, (Try.f47.body).getD .skip, by kernel_rfl, by kernel_rfl⟩
def f91n52 : List Ent := cB .lss (sy 17) (sy 18) true :: ⟨(.bi 0 [50]), [(sy 14)], (sy 18)⟩ :: []
def f91F53 : Fr := mkFr Try.f91 [(1, (sy 8)), (3, (sy 14)), (4, (pt 0 0)), (6, (pt 1 0)), (8, (.slice .none 0 0)), (9, (ls 2 16)), (10, (sy 17)), (21, (sy 17)), (22, (sy 14)), (23, (sy 18)), (24, (.bool .true))] []
def f91S54 : St := mkSt 3 [(0, (.cells (ids 8) 26 .none .false)), (1, (.cells [(sy 9), (sy 10), (sy 11), (sy 12), (sy 13)] 54 .none .false)), (2, (.lst 1 3 1))]
theorem f91I55 : IdOk 19 3 2 f91F53 f91S54 := ⟨mkSt_wf rfl, by kernel_rfl⟩
def f91n56 : List Ent := ⟨(.load 3), [(sy 22)], (sy 23)⟩ :: ⟨(.indexAddr 37), [(sy 8), (sy 21)], (sy 22)⟩ :: ⟨(.load 3), [(sy 20)], (sy 21)⟩ :: ⟨(.fieldAddr 116 1), [(sy 19)], (sy 20)⟩ :: ⟨(.indexAddr 50), [(sy 14), (sy 17)], (sy 19)⟩ :: []
def f91n57 : List CEnt := ⟨47, [(ag 0 8), (sy 10), (sy 23)], [], (ag 24 2)⟩ :: []
def f91F58 : Fr := mkFr Try.f91 [(1, (sy 8)), (3, (sy 14)), (4, (pt 0 0)), (6, (pt 1 0)), (8, (.slice .none 0 0)), (9, (ls 2 16)), (10, (sy 17)), (11, (pt 3 0)), (21, (sy 17)), (22, (sy 14)), (23, (sy 18)), (24, (.bool .true)), (27, (ag 0 8)), (28, (pt 1 1)), (29, (sy 10)), (30, (sy 8)), (31, (sy 14)), (32, (sy 17)), (33, (sy 19)), (34, (sy 20)), (35, (sy 21)), (36, (sy 22)), (37, (sy 23)), (38, (ag 24 2))] []
def f91S59 : St := mkSt 4 [(0, (.cells (ids 8) 26 .none .false)), (1, (.cells [(sy 9), (sy 10), (sy 11), (sy 12), (sy 13)] 54 .none .false)), (2, (.lst 1 3 1)), (3, (.cells [(sy 24), (sy 25)] 23 .none .false))]
theorem f91I60 : IdOk 26 4 2 f91F58 f91S59 := ⟨mkSt_wf rfl, by kernel_rfl⟩
def f91n61 : List Ent := aB .add (sy 30) (iV 1) (sy 34) :: aB .sub (sy 32) (sy 24) (sy 33) :: ⟨(.load 3), [(sy 31)], (sy 32)⟩ :: ⟨(.fieldAddr 23 1), [(sy 27)], (sy 31)⟩ :: aB .sub (sy 29) (sy 25) (sy 30) :: ⟨(.load 3), [(sy 28)], (sy 29)⟩ :: ⟨(.fieldAddr 23 0), [(sy 27)], (sy 28)⟩ :: ⟨(.fieldAddr 116 2), [(sy 26)], (sy 27)⟩ :: ⟨(.indexAddr 50), [(sy 14), (sy 17)], (sy 26)⟩ :: []
def f91F62 : Fr := mkFr Try.f91 [(1, (sy 8)), (3, (sy 14)), (4, (pt 0 0)), (6, (pt 1 0)), (8, (.slice .none 0 0)), (9, (ls 2 16)), (10, (sy 17)), (11, (pt 3 0)), (12, (.slice (.some (.mk 4 0 .none)) 3 3)), (21, (sy 17)), (22, (sy 14)), (23, (sy 18)), (24, (.bool .true)), (27, (ag 0 8)), (28, (pt 1 1)), (29, (sy 10)), (30, (sy 8)), (31, (sy 14)), (32, (sy 17)), (33, (sy 19)), (34, (sy 20)), (35, (sy 21)), (36, (sy 22)), (37, (sy 23)), (38, (ag 24 2)), (39, (sy 14)), (40, (sy 17)), (41, (sy 26)), (42, (sy 27)), (43, (sy 28)), (44, (sy 29)), (45, (pt 3 1)), (46, (sy 25)), (47, (sy 30)), (48, (sy 14)), (49, (sy 17)), (50, (sy 26)), (51, (sy 27)), (52, (sy 31)), (53, (sy 32)), (54, (pt 3 0)), (55, (sy 24)), (56, (sy 33)), (57, (sy 14)), (58, (sy 17)), (59, (sy 26)), (60, (sy 27)), (61, (sy 28)), (62, (sy 29)), (63, (pt 3 1)), (64, (sy 25)), (65, (sy 30)), (66, (sy 34)), (67, (.slice (.some (.mk 4 0 .none)) 3 3))] []
def f91S63 : St := mkSt 5 [(0, (.cells (ids 8) 26 .none .false)), (1, (.cells [(sy 9), (sy 10), (sy 11), (sy 12), (sy 13)] 54 .none .false)), (2, (.lst 1 3 1)), (3, (.cells [(sy 24), (sy 25)] 23 .none .false)), (4, (.cells [(sy 30), (sy 33), (sy 34)] 3 .none .false))]
theorem f91I64 : IdOk 35 5 2 f91F62 f91S63 := ⟨mkSt_wf rfl, by kernel_rfl⟩
def f91F65 : Fr := mkFr Try.f91 [(1, (sy 8)), (3, (sy 14)), (4, (pt 0 0)), (6, (pt 1 0)), (8, (.slice .none 0 0)), (9, (ls 2 16)), (10, (sy 17)), (11, (pt 3 0)), (12, (.slice (.some (.mk 4 0 .none)) 3 3)), (13, (iV 0)), (21, (sy 17)), (22, (sy 14)), (23, (sy 18)), (24, (.bool .true)), (27, (ag 0 8)), (28, (pt 1 1)), (29, (sy 10)), (30, (sy 8)), (31, (sy 14)), (32, (sy 17)), (33, (sy 19)), (34, (sy 20)), (35, (sy 21)), (36, (sy 22)), (37, (sy 23)), (38, (ag 24 2)), (39, (sy 14)), (40, (sy 17)), (41, (sy 26)), (42, (sy 27)), (43, (sy 28)), (44, (sy 29)), (45, (pt 3 1)), (46, (sy 25)), (47, (sy 30)), (48, (sy 14)), (49, (sy 17)), (50, (sy 26)), (51, (sy 27)), (52, (sy 31)), (53, (sy 32)), (54, (pt 3 0)), (55, (sy 24)), (56, (sy 33)), (57, (sy 14)), (58, (sy 17)), (59, (sy 26)), (60, (sy 27)), (61, (sy 28)), (62, (sy 29)), (63, (pt 3 1)), (64, (sy 25)), (65, (sy 30)), (66, (sy 34)), (67, (.slice (.some (.mk 4 0 .none)) 3 3))] []
theorem f91I66 : IdOk 35 5 2 f91F65 f91S63 := ⟨mkSt_wf rfl, by kernel_rfl⟩
def f91F67 : Fr := mkFr Try.f91 [(1, (sy 8)), (3, (sy 14)), (4, (pt 0 0)), (6, (pt 1 0)), (8, (.slice .none 0 0)), (9, (ls 2 16)), (10, (sy 17)), (11, (pt 3 0)), (12, (ls 5 35)), (13, (iV 0)), (21, (sy 17)), (22, (sy 14)), (23, (sy 18)), (24, (.bool .true)), (27, (ag 0 8)), (28, (pt 1 1)), (29, (sy 10)), (30, (sy 8)), (31, (sy 14)), (32, (sy 17)), (33, (sy 19)), (34, (sy 20)), (35, (sy 21)), (36, (sy 22)), (37, (sy 23)), (38, (ag 24 2)), (39, (sy 14)), (40, (sy 17)), (41, (sy 26)), (42, (sy 27)), (43, (sy 28)), (44, (sy 29)), (45, (pt 3 1)), (46, (sy 25)), (47, (sy 30)), (48, (sy 14)), (49, (sy 17)), (50, (sy 26)), (51, (sy 27)), (52, (sy 31)), (53, (sy 32)), (54, (pt 3 0)), (55, (sy 24)), (56, (sy 33)), (57, (sy 14)), (58, (sy 17)), (59, (sy 26)), (60, (sy 27)), (61, (sy 28)), (62, (sy 29)), (63, (pt 3 1)), (64, (sy 25)), (65, (sy 30)), (66, (sy 34)), (67, (ls 5 35))] []
def f91S68 : St := mkSt 6 [(0, (.cells (ids 8) 26 .none .false)), (1, (.cells [(sy 9), (sy 10), (sy 11), (sy 12), (sy 13)] 54 .none .false)), (2, (.lst 1 3 1)), (3, (.cells [(sy 24), (sy 25)] 23 .none .false)), (5, (.lst 2 3 1))]
theorem f91I69 : IdOk 36 6 3 f91F67 f91S68 := ⟨mkSt_wf rfl, by kernel_rfl⟩
def f91n77 : List LEnt := (.get 2 38 [(sy 39)]) :: (.idx 35 (sy 37) 1 38) :: []
def f91n78 : List Ent := cB .geq (sy 39) (sy 12) true :: cB .lss (sy 37) (sy 35) true :: []
def f91n79 : List Ent := aB .add (sy 37) (iV 1) (sy 41) :: cB .leq (sy 39) (sy 13) true :: f91n78
def f91n80 : List LEnt := (.grow 3 36 1 1 [(sy 39)] 4 40) :: f91n77
def f91n81 : List Ent := aB .add (sy 37) (iV 1) (sy 40) :: cB .leq (sy 39) (sy 13) false :: f91n78
def f91n82 : List Ent := aB .add (sy 37) (iV 1) (sy 40) :: cB .geq (sy 39) (sy 12) false :: cB .lss (sy 37) (sy 35) true :: []
def f91n83 : List Ent := cB .lss (sy 37) (sy 35) false :: []
def f91F84 : Fr := mkFr Try.f91 [(1, (sy 8)), (3, (sy 14)), (4, (pt 0 0)), (6, (pt 1 0)), (8, (.slice .none 0 0)), (9, (ls 4 36)), (10, (sy 17)), (11, (pt 2 0)), (12, (ls 3 35)), (13, (sy 37)), (21, (sy 17)), (22, (sy 14)), (23, (sy 18)), (24, (.bool .true)), (27, (ag 0 8)), (28, (pt 1 1)), (29, (sy 10)), (30, (sy 8)), (31, (sy 14)), (32, (sy 17)), (33, (sy 19)), (34, (sy 20)), (35, (sy 21)), (36, (sy 22)), (37, (sy 23)), (38, (ag 24 2)), (39, (sy 14)), (40, (sy 17)), (41, (sy 26)), (42, (sy 27)), (43, (sy 28)), (44, (sy 29)), (45, (pt 2 1)), (46, (sy 25)), (47, (sy 30)), (48, (sy 14)), (49, (sy 17)), (50, (sy 26)), (51, (sy 27)), (52, (sy 31)), (53, (sy 32)), (54, (pt 2 0)), (55, (sy 24)), (56, (sy 33)), (57, (sy 14)), (58, (sy 17)), (59, (sy 26)), (60, (sy 27)), (61, (sy 28)), (62, (sy 29)), (63, (pt 2 1)), (64, (sy 25)), (65, (sy 30)), (66, (sy 34)), (67, (ls 3 35))] []
def f91S85 : St := mkSt 5 [(0, (.cells (ids 8) 26 .none .false)), (1, (.cells [(sy 9), (sy 10), (sy 11), (sy 12), (sy 13)] 54 .none .false)), (2, (.cells [(sy 24), (sy 25)] 23 .none .false)), (3, (.lst 2 3 1)), (4, (.lst 3 3 1))]
theorem f91I86 : IdOk 38 5 4 f91F84 f91S85 := ⟨mkSt_wf rfl, by kernel_rfl⟩
def f91F87 : Fr := mkFr Try.f91 [(1, (sy 8)), (3, (sy 14)), (4, (pt 0 0)), (6, (pt 1 0)), (8, (.slice .none 0 0)), (9, (ls 4 36)), (10, (sy 17)), (11, (pt 2 0)), (12, (ls 3 35)), (13, (sy 37)), (21, (sy 17)), (22, (sy 14)), (23, (sy 18)), (24, (.bool .true)), (27, (ag 0 8)), (28, (pt 1 1)), (29, (sy 10)), (30, (sy 8)), (31, (sy 14)), (32, (sy 17)), (33, (sy 19)), (34, (sy 20)), (35, (sy 21)), (36, (sy 22)), (37, (sy 23)), (38, (ag 24 2)), (39, (sy 14)), (40, (sy 17)), (41, (sy 26)), (42, (sy 27)), (43, (sy 28)), (44, (sy 29)), (45, (pt 2 1)), (46, (sy 25)), (47, (sy 30)), (48, (sy 14)), (49, (sy 17)), (50, (sy 26)), (51, (sy 27)), (52, (sy 31)), (53, (sy 32)), (54, (pt 2 0)), (55, (sy 24)), (56, (sy 33)), (57, (sy 14)), (58, (sy 17)), (59, (sy 26)), (60, (sy 27)), (61, (sy 28)), (62, (sy 29)), (63, (pt 2 1)), (64, (sy 25)), (65, (sy 30)), (66, (sy 34)), (67, (ls 3 35)), (68, (sy 37)), (69, (ls 3 35)), (70, (sy 35)), (71, (.bool .false))] []
theorem f91I88 : IdOk 38 5 4 f91F87 f91S85 := ⟨mkSt_wf rfl, by kernel_rfl⟩
def f91n89 : List Ent := aB .add (sy 17) (iV 1) (sy 38) :: []
def f91n90 : List Ent := cB .lss (sy 17) (sy 18) false :: ⟨(.bi 0 [50]), [(sy 14)], (sy 18)⟩ :: []
def f91F91 : Fr := mkFr Try.f91 [(1, (sy 8)), (3, (sy 14)), (4, (pt 0 0)), (6, (pt 1 0)), (8, (.slice .none 0 0)), (9, (ls 2 16)), (10, (sy 17))] []
theorem f91I92 : IdOk 18 3 2 f91F91 f91S54 := ⟨mkSt_wf rfl, by kernel_rfl⟩
def f91F93 : Fr := mkFr Try.f91 [(8, (.slice .none 0 0)), (9, (ls 0 15))] []
def f91S94 : St := mkSt 1 [(0, (.lst 0 3 1))]
theorem f91I95 : IdOk 16 1 1 f91F93 f91S94 := ⟨mkSt_wf rfl, by kernel_rfl⟩
theorem f91a0 : agreeL (ids 15) [] [] f91F0 f91S1 (frameOf Try.f91 [(ag 0 8), (sy 8), (ag 9 5), (sy 14)]) Ev.start = true := by kernel_rfl
def f91b1 : Code := headC f91b0
def f91b2 : Code := tailC f91b0
theorem f91q0 : f91b0 = .seq f91b1 f91b2 := by kernel_rfl
theorem f91r0 : gE [] [] [] [] f91b1 f91F0 f91S1 .normal (ids 15) [0, 1] [] f91F3 f91S4 = some () := by kernel_rfl
def f91b3 : Code := headC f91b2
def f91b4 : Code := tailC f91b2
theorem f91q1 : f91b2 = .seq f91b3 f91b4 := by kernel_rfl
theorem f91r1 : gE [] [] [] [] f91b3 f91F3 f91S4 .normal (ids 15) (rng 3) [] f91F6 f91S7 = some () := by kernel_rfl
def f91b5 : Code := headC f91b4
def f91b6 : Code := tailC f91b4
theorem f91q2 : f91b4 = .seq f91b5 f91b6 := by kernel_rfl
def f91b7 : Code := headC f91b5
def f91b8 : Code := tailC f91b5
theorem f91q3 : f91b5 = .seq f91b7 f91b8 := by kernel_rfl
theorem f91r2 : gE [] [] [] [] f91b7 f91F6 f91S7 .normal (ids 15) (rng 3) [] f91F9 f91S7 = some () := by kernel_rfl
def f91b9 : Code := inBlockC f91b8
theorem f91q4 : f91b8 = .block 0 f91b9 := by kernel_rfl
def f91b10 : Code := inLoopC f91b9
theorem f91q5 : f91b9 = .loop f91b10 := by kernel_rfl
def f91lay6 : St := (layS f91S7 2 0 3 1).getD f91S7
theorem f91lay6_h : layS f91S7 2 0 3 1 = some f91lay6 := by kernel_rfl
theorem f91lay6_b : f91S7.at 2 = (.cells [(sy 12), (sy 13)] 3 .none .false) := by kernel_rfl
theorem f91lay6_f : layFr f91S7.next 15 2 2 f91F11 f91F9 = true := by kernel_rfl
theorem f91lay6_s : agreeL (ids 16) (rng 4) (old 1) f91F11 f91S12 f91F11 f91lay6 = true := by kernel_rfl
theorem f91h7 : agreeL (ids 16 ++ [(sy 15), (iV 0)]) [0, 1, 3] [some 0, some 0] f91F91 f91S54 f91F11 f91S12 = true := by kernel_rfl
def f91b11 : Code := headC f91b10
def f91b12 : Code := tailC f91b10
theorem f91q8 : f91b10 = .seq f91b11 f91b12 := by kernel_rfl
theorem f91r3 : gE f91n52 [] [] [] f91b11 f91F91 f91S54 .normal (ids 19) (rng 3) [some 0, some 1] f91F53 f91S54 = some () := by kernel_rfl
def f91b13 : Code := headC f91b12
def f91b14 : Code := tailC f91b12
theorem f91q9 : f91b12 = .seq f91b13 f91b14 := by kernel_rfl
def f91b15 : Code := inBlockC f91b13
theorem f91q10 : f91b13 = .block 1 f91b15 := by kernel_rfl
def f91b16 : Code := headC f91b15
def f91b17 : Code := tailC f91b15
theorem f91q11 : f91b15 = .seq f91b16 f91b17 := by kernel_rfl
theorem f91r4 : gE f91n56 f91n57 [] [] f91b16 f91F53 f91S54 .normal (ids 26) (rng 4) [some 0, some 1] f91F58 f91S59 = some () := by kernel_rfl
def f91b18 : Code := headC f91b17
def f91b19 : Code := tailC f91b17
theorem f91q12 : f91b17 = .seq f91b18 f91b19 := by kernel_rfl
theorem f91r5 : gE f91n61 [] [] [] f91b18 f91F58 f91S59 .normal (ids 35) (rng 5) [some 0, some 1] f91F62 f91S63 = some () := by kernel_rfl
def f91b20 : Code := headC f91b19
def f91b21 : Code := tailC f91b19
theorem f91q13 : f91b19 = .seq f91b20 f91b21 := by kernel_rfl
theorem f91r6 : gE [] [] [] [] f91b20 f91F62 f91S63 .normal (ids 35) (rng 5) [some 0, some 1] f91F65 f91S63 = some () := by kernel_rfl
def f91b22 : Code := inBlockC f91b21
theorem f91q14 : f91b21 = .block 2 f91b22 := by kernel_rfl
def f91b23 : Code := inLoopC f91b22
theorem f91q15 : f91b22 = .loop f91b23 := by kernel_rfl
def f91lay16 : St := (layS f91S63 4 2 3 1).getD f91S63
theorem f91lay16_h : layS f91S63 4 2 3 1 = some f91lay16 := by kernel_rfl
theorem f91lay16_b : f91S63.at 4 = (.cells [(sy 30), (sy 33), (sy 34)] 3 .none .false) := by kernel_rfl
theorem f91lay16_f : layFr f91S63.next 35 4 3 f91F67 f91F65 = true := by kernel_rfl
theorem f91lay16_s : agreeL (ids 36) (rng 6) (old 3) f91F67 f91S68 f91F67 f91lay16 = true := by kernel_rfl
theorem f91h17 : agreeL (ids 36 ++ [(sy 16), (iV 0)]) [0, 1, 3, 5, 2] [some 0, some 1, some 2, some 1] f91F84 f91S85 f91F67 f91S68 = true := by kernel_rfl
theorem f91r7 : gE f91n79 [] f91n80 [] f91b23 f91F84 f91S85 .normal (pk 36 [40, 41]) [0, 1, 2, 3, 6] [some 0, some 1, some 2, some 4] f91F84 f91S85 = some () := by kernel_rfl
theorem f91r8 : gE f91n81 [] f91n77 [] f91b23 f91F84 f91S85 .normal (pk 37 [40]) [0, 1, 2, 3, 4] [some 0, some 1, some 2, some 3] f91F84 f91S85 = some () := by kernel_rfl
theorem f91r9 : gE f91n82 [] f91n77 [] f91b23 f91F84 f91S85 .normal (pk 37 [40]) [0, 1, 2, 3, 4] [some 0, some 1, some 2, some 3] f91F84 f91S85 = some () := by kernel_rfl
theorem f91r10 : gE f91n83 [] [] [] f91b23 f91F84 f91S85 (.exit 2) (ids 38) (rng 5) [some 0, some 1, some 2, some 3] f91F87 f91S85 = some () := by kernel_rfl
theorem f91r11 : gE f91n89 [] [] [] f91b14 f91F87 f91S85 .normal (pk 16 [36, 38]) [0, 1, 4] [some 0, some 3] f91F91 f91S54 = some () := by kernel_rfl
theorem f91r12 : gE f91n90 [] [] [] f91b11 f91F91 f91S54 (.exit 0) (pk 15 [16]) [2] [some 1] f91F93 f91S94 = some () := by kernel_rfl
theorem f91r13 : lE [] [] [] [] f91b6 f91F93 f91S94 Try.f91 (endL (ls 0 15) 0 0 3 1) = some () := by kernel_rfl
set_option maxHeartbeats 8000000 in
theorem moments_any (x0 : Int) (x1 : Int) (x2 : Int) (x3 : Int) (x4 : Int) (x5 : Int) (x6 : Int) (x7 : Int) (ast : Option Addr) (st : List Int) (qst : Nat) (s : Src) (ap : Option Addr) (p : List Pk) (qp : Nat) (w0 : World) {tst : TypeId} (Hst : Lies w0 tst (flat intC st) ast st.length) (v : ModOk x0 x1 x2 x3 x4 x5 x6 x7) (hcell : 0 ≤ s.cell ∧ s.cell < x0 * x1) (hcls : 1 ≤ s.cls ∧ s.cls ≤ 10) (hst : StOk x0 x1 st) (hn1 : st.length < 1000000) {tp : TypeId} (Hp : Lies w0 tp (flat pkC p) ap p.length) (hpk : PksOk st.length p) (hpn : p.length ≤ 64) (hts : 0 ≤ s.lo ∧ s.lo ≤ s.hi ∧ s.hi ≤ 1000000000) : Calls Try.prog 91 #[(mV x0 x1 x2 x3 x4 x5 x6 x7), (.slice ast st.length qst), (.agg #[(iV s.kind), (iV s.cell), (iV s.cls), (iV s.lo), (iV s.hi)]), (.slice ap p.length qp)] w0 (fun en w' => ∃ a C, en = .returned (.slice a (momL x0 x1 x2 x3 x4 x5 x6 x7 st s p).length C) ∧ NewList w0 w' 3 1 (flat intC (momL x0 x1 x2 x3 x4 x5 x6 x7 st s p)) a (momL x0 x1 x2 x3 x4 x5 x6 x7 st s p).length C ∧ Below w0.heap.size w0 w') := by
  have v0m := v
  obtain ⟨v0, v1, v2, v3, v5, v7⟩ := v
  have hx := mul_bd (a := x0) (b := x1) (A := 24) (B := 24) (C := 576) (by omega) (by omega) (by omega) (by omega)
  let vb : List Value := [(iV x0), (iV x1), (iV x2), (iV x3), (iV x4), (iV x5), (iV x6), (iV x7), (.slice ast st.length qst), (iV s.kind), (iV s.cell), (iV s.cls), (iV s.lo), (iV s.hi), (.slice ap p.length qp)]
  let p0 : Rho := (RO w0 vb [])
  refine At.begin (ρ := p0) (c := f91b0) (@env_ok p0) f91I2 f91a0 (fun a w hat => ?_)
  refine g_seq f91q0 ?_
  let p1 : Rho := (RO w0 vb [])
  refine At.go (ρ1 := p0) (ρ2 := p1) f91r0 (@env_ok p0) trivial trivial trivial trivial f91I2 f91I5 hat (fun a w hat => .inl ⟨rfl, ?_⟩)
  refine g_seq f91q1 ?_
  let p2 : Rho := (RO w0 vb [])
  refine At.go (ρ1 := p1) (ρ2 := p2) f91r1 (@env_ok p1) trivial trivial trivial trivial f91I5 f91I8 hat (fun a w hat => .inl ⟨rfl, ?_⟩)
  refine g_seq f91q2 ?_
  refine g_seq f91q3 ?_
  let p3 : Rho := (RO w0 vb [])
  refine At.go (ρ1 := p2) (ρ2 := p3) f91r2 (@env_ok p2) trivial trivial trivial trivial f91I8 f91I10 hat (fun a w hat => .inl ⟨rfl, ?_⟩)
  refine g_block f91q4 ?_
  let p4 : Rho := (RO w0 (vb ++ [(iV ((([s.lo, s.hi].length : Nat) : Int)))]) [(flat intC [s.lo, s.hi])])
  have hatx : @At p4 w0 f91F9 f91S7 a w := At.shiftL (ρ1 := p3) (ρ2 := p4) (σ := (ids 15)) (π := (rng 3)) (τ := (old 0)) (SubOk.om rfl rfl) trivial (fun _ _ h => h) f91I10.1 f91I10.2 hat
  obtain ⟨hlw, haty⟩ := @At.lay p4 w0 f91F9 f91F11 f91S7 f91lay6 a w 2 0 3 1 15 2 _ _ f91I10.1 f91lay6_h f91lay6_b (by decide) f91lay6_f rfl rfl (by decide) rfl rfl hatx
  clear hatx hat
  have hat : @At p4 w0 f91F11 f91S12 a w := At.shiftL (ρ1 := p4) (ρ2 := p4) (σ := (ids 16)) (π := (rng 4)) (τ := (old 1)) (SubOk.om rfl rfl) ⟨rfl, trivial⟩ (fun _ _ h => h) f91I13.1 f91lay6_s haty
  clear haty hlw
  have hat0 := At.shiftL (ρ1 := p4) (ρ2 := (RO w0 (vb ++ [(iV ((([s.lo, s.hi].length : Nat) : Int))), (iV (((([s.lo, s.hi] : List Int).length : Nat) : Int))), (iV ((0 : Int)))]) [(flat intC [s.lo, s.hi]), (flat intC ([s.lo, s.hi] : List Int))])) (σ := (ids 16 ++ [(sy 15), (iV 0)])) (π := [0, 1, 3]) (τ := [some 0, some 0]) ⟨rfl, rfl, rfl, rfl, rfl, rfl, rfl, rfl, rfl, rfl, rfl, rfl, rfl, rfl, rfl, rfl, rfl, rfl, rfl, rfl, rfl, rfl, rfl, rfl, rfl, rfl, rfl, rfl, rfl, rfl, rfl, rfl, rfl, vl, rfl, rfl, trivial⟩ ⟨rfl, (by show (flat intC [s.lo, s.hi] : List Value) = (flat intC [s.lo, s.hi]); first | (simp [flat_snoc, intC]; done) | (simp [flat, intC]; done)), trivial⟩ (fun _ _ h => h) f91I92.1 f91h7 hat
  clear hat
  refine g_loop (fun (x : List Int × Int) a w => (0 ≤ (x.2 : Int) ∧ (x.2 : Int) ≤ p.length ∧ ((x.1 : List Int).length : Int) ≤ 2 + 3 * (x.2 : Int) ∧ (x.1 : List Int) = momL x0 x1 x2 x3 x4 x5 x6 x7 st s (p.take (x.2 : Int).toNat)) ∧ @At (RO w0 (vb ++ [(iV ((([s.lo, s.hi].length : Nat) : Int))), (iV ((((x.1 : List Int).length : Nat) : Int))), (iV ((x.2 : Int)))]) [(flat intC [s.lo, s.hi]), (flat intC (x.1 : List Int))]) w0 f91F91 f91S54 a w) (fun x => (p.length - (x.2 : Int)).toNat) f91q5 ?_ ([s.lo, s.hi], 0) ⟨?_, hat0⟩
  · clear hat0
    rintro ⟨L, i⟩ a w ⟨hinv, hat⟩
    change 0 ≤ i ∧ i ≤ p.length ∧ (L.length : Int) ≤ 2 + 3 * i ∧ L = momL x0 x1 x2 x3 x4 x5 x6 x7 st s (p.take i.toNat) at hinv
    let d5 : List Value := (vb ++ [(iV ((([s.lo, s.hi].length : Nat) : Int))), (iV (((L.length : Nat) : Int))), (iV i)])
    let p5 : Rho := RO w0 d5 [(flat intC [s.lo, s.hi]), (flat intC L)]
    change @At p5 w0 f91F91 f91S54 a w at hat
    obtain ⟨i0, i1, i2, i3⟩ := hinv
    refine g_seq f91q8 ?_
    have K45 : KA w0 (.bi 0 [50]) [(.slice ap p.length qp)] (iV (((p.length : Nat) : Int))) := fun w hm => k_len Try.underlying50
    by_cases c0 : i < ((p.length : Nat) : Int)
    · let r3 : Rho := (RO w0 (d5 ++ [(iV (((p.length : Nat) : Int)))]) [(flat intC [s.lo, s.hi]), (flat intC L)])
      let d6 : List Value := (vb ++ [(iV ((([s.lo, s.hi].length : Nat) : Int))), (iV (((L.length : Nat) : Int))), (iV i), (iV (((p.length : Nat) : Int)))])
      let p6 : Rho := RO w0 d6 [(flat intC [s.lo, s.hi]), (flat intC L)]
      refine At.go (ρ1 := r3) (ρ2 := p6) f91r3 (@env_ok r3) ⟨enk (klsst c0), enk K45, trivial⟩ trivial trivial trivial f91I92 f91I55 hat (fun a w hat => .inl ⟨rfl, ?_⟩)
      refine g_seq f91q9 ?_
      refine g_block f91q10 ?_
      refine g_seq f91q11 ?_
      have K46 : KA w0 (.indexAddr 50) [(.slice ap p.length qp), (iV i)] (.pointer (ptrO ap ((i).toNat * 6))) := fun w hm => l_index (Hp.keep hm) Try.underlying50 (by kernel_rfl) (by omega) (by omega)
      have K47 : KA w0 (.fieldAddr 116 1) [(.pointer (ptrO ap ((i).toNat * 6)))] (.pointer (ptrO ap ((i).toNat * 6 + 1))) := fun w hm => l_fieldo (sz := 1) 1 1 (Hp.keep hm) (by omega) Try.underlying116 rfl rfl (by kernel_rfl) (by decide)
      obtain ⟨z1, hz1⟩ : ∃ z : Pk, z = p.getD (i).toNat pkD := ⟨_, rfl⟩
      have ez1 := hpk (i).toNat (by omega)
      rw [← hz1] at ez1
      obtain ⟨ekz1, esz1, elz1, etz1⟩ := pkErr_ok ez1
      have K48 : KA w0 (.load 3) [(.pointer (ptrO ap ((i).toNat * 6 + 1)))] (iV z1.station) := fun w hm => l_load (Hp.keep hm) (by omega) Try.underlying3 rfl (flat_getz (c := pkC) (sz := 6) (fun _ => rfl) hz1 (by omega) 1 _ rfl)
      have K49 : KA w0 (.indexAddr 37) [(.slice ast st.length qst), (iV z1.station)] (.pointer (ptrO ast ((z1.station).toNat * 1))) := fun w hm => l_index (Hst.keep hm) Try.underlying37 (by kernel_rfl) (by omega) (by omega)
      obtain ⟨z2, hz2⟩ : ∃ z : Int, z = st.getD (z1.station).toNat 0 := ⟨_, rfl⟩
      have ez2 := hst (z1.station).toNat (by omega)
      rw [← hz2] at ez2
      have K50 : KA w0 (.load 3) [(.pointer (ptrO ast ((z1.station).toNat * 1)))] (iV z2) := fun w hm => l_load (Hst.keep hm) (by omega) Try.underlying3 rfl (flat_getz (c := intC) (sz := 1) (fun _ => rfl) hz2 (by omega) 0 _ rfl)
      obtain ⟨y3, hy3⟩ : ∃ y : Int, y = (trLo x0 x1 x2 x3 x4 x5 x6 x7 s.cell z2) := ⟨_, rfl⟩
      obtain ⟨y4, hy4⟩ : ∃ y : Int, y = (trHi x0 x1 x2 x3 x4 x5 x6 x7 s.cell z2) := ⟨_, rfl⟩
      have hqy3 := tr_bd v0m (x8 := s.cell) (x9 := z2) (by omega) (by omega)
      rw [← hy3, ← hy4] at hqy3
      have K51 : CA w0 47 #[(mV x0 x1 x2 x3 x4 x5 x6 x7), (iV s.cell), (iV z2)] (.agg #[(iV y3), (iV y4)]) := fun w hm => (by rw [hy3, hy4]; exact rtr_any x0 x1 x2 x3 x4 x5 x6 x7 s.cell z2 w  v0m (by omega) (by omega))
      let r4 : Rho := (RO w0 (d6 ++ [(.pointer (ptrO ap ((i).toNat * 6))), (.pointer (ptrO ap ((i).toNat * 6 + 1))), (iV z1.station), (.pointer (ptrO ast ((z1.station).toNat * 1))), (iV z2), (iV y3), (iV y4)]) [(flat intC [s.lo, s.hi]), (flat intC L)])
      let d7 : List Value := (vb ++ [(iV ((([s.lo, s.hi].length : Nat) : Int))), (iV (((L.length : Nat) : Int))), (iV i), (iV (((p.length : Nat) : Int))), (.pointer (ptrO ap ((i).toNat * 6))), (.pointer (ptrO ap ((i).toNat * 6 + 1))), (iV z1.station), (.pointer (ptrO ast ((z1.station).toNat * 1))), (iV z2), (iV y3), (iV y4)])
      let p7 : Rho := RO w0 d7 [(flat intC [s.lo, s.hi]), (flat intC L)]
      refine At.go (ρ1 := r4) (ρ2 := p7) f91r4 (@env_ok r4) ⟨enk K50, enk K49, enk K48, enk K47, enk K46, trivial⟩ ⟨cok K51 f91f47, trivial⟩ trivial trivial f91I55 f91I60 hat (fun a w hat => .inl ⟨rfl, ?_⟩)
      refine g_seq f91q12 ?_
      have K52 : KA w0 (.indexAddr 50) [(.slice ap p.length qp), (iV i)] (.pointer (ptrO ap ((i).toNat * 6))) := fun w hm => l_index (Hp.keep hm) Try.underlying50 (by kernel_rfl) (by omega) (by omega)
      have K53 : KA w0 (.fieldAddr 116 2) [(.pointer (ptrO ap ((i).toNat * 6)))] (.pointer (ptrO ap ((i).toNat * 6 + 2))) := fun w hm => l_fieldo (sz := 2) 2 2 (Hp.keep hm) (by omega) Try.underlying116 rfl rfl (by kernel_rfl) (by decide)
      have K54 : KA w0 (.fieldAddr 23 0) [(.pointer (ptrO ap ((i).toNat * 6 + 2)))] (.pointer (ptrO ap ((i).toNat * 6 + 2 + 0))) := fun w hm => l_fieldo (sz := 1) 0 0 (Hp.keep hm) (by omega) Try.underlying23 rfl rfl (by kernel_rfl) (by decide)
      obtain ⟨z5, hz5⟩ : ∃ z : Pk, z = p.getD (i).toNat pkD := ⟨_, rfl⟩
      have ez5 := hpk (i).toNat (by omega)
      rw [← hz5] at ez5
      obtain ⟨ekz5, esz5, elz5, etz5⟩ := pkErr_ok ez5
      have K55 : KA w0 (.load 3) [(.pointer (ptrO ap ((i).toNat * 6 + 2 + 0)))] (iV z5.t0) := fun w hm => l_load (Hp.keep hm) (by omega) Try.underlying3 rfl (flat_getz (c := pkC) (sz := 6) (fun _ => rfl) hz5 (by omega) 2 _ rfl)
      have K56 : KA w0 (.bin .sub 3) [(iV z5.t0), (iV y4)] (iV ((wr (z5.t0 - y4)))) := fun w hm => k_subw
      have K57 : KA w0 (.fieldAddr 23 1) [(.pointer (ptrO ap ((i).toNat * 6 + 2)))] (.pointer (ptrO ap ((i).toNat * 6 + 2 + 1))) := fun w hm => l_fieldo (sz := 1) 1 1 (Hp.keep hm) (by omega) Try.underlying23 rfl rfl (by kernel_rfl) (by decide)
      have K58 : KA w0 (.load 3) [(.pointer (ptrO ap ((i).toNat * 6 + 2 + 1)))] (iV z5.t1) := fun w hm => l_load (Hp.keep hm) (by omega) Try.underlying3 rfl (flat_getz (c := pkC) (sz := 6) (fun _ => rfl) hz5 (by omega) 3 _ rfl)
      have K59 : KA w0 (.bin .sub 3) [(iV z5.t1), (iV y3)] (iV ((wr (z5.t1 - y3)))) := fun w hm => k_subw
      have K60 : KA w0 (.bin .add 3) [(iV ((wr (z5.t0 - y4)))), (iV 1)] (iV ((wr ((wr (z5.t0 - y4)) + 1)))) := fun w hm => k_addw
      let r5 : Rho := (RO w0 (d7 ++ [(.pointer (ptrO ap ((i).toNat * 6))), (.pointer (ptrO ap ((i).toNat * 6 + 2))), (.pointer (ptrO ap ((i).toNat * 6 + 2 + 0))), (iV z5.t0), (iV ((wr (z5.t0 - y4)))), (.pointer (ptrO ap ((i).toNat * 6 + 2 + 1))), (iV z5.t1), (iV ((wr (z5.t1 - y3)))), (iV ((wr ((wr (z5.t0 - y4)) + 1))))]) [(flat intC [s.lo, s.hi]), (flat intC L)])
      let d8 : List Value := (vb ++ [(iV ((([s.lo, s.hi].length : Nat) : Int))), (iV (((L.length : Nat) : Int))), (iV i), (iV (((p.length : Nat) : Int))), (.pointer (ptrO ap ((i).toNat * 6))), (.pointer (ptrO ap ((i).toNat * 6 + 1))), (iV z1.station), (.pointer (ptrO ast ((z1.station).toNat * 1))), (iV z2), (iV y3), (iV y4), (.pointer (ptrO ap ((i).toNat * 6))), (.pointer (ptrO ap ((i).toNat * 6 + 2))), (.pointer (ptrO ap ((i).toNat * 6 + 2 + 0))), (iV z5.t0), (iV ((wr (z5.t0 - y4)))), (.pointer (ptrO ap ((i).toNat * 6 + 2 + 1))), (iV z5.t1), (iV ((wr (z5.t1 - y3)))), (iV ((wr ((wr (z5.t0 - y4)) + 1))))])
      let p8 : Rho := RO w0 d8 [(flat intC [s.lo, s.hi]), (flat intC L)]
      refine At.go (ρ1 := r5) (ρ2 := p8) f91r5 (@env_ok r5) ⟨enk K60, enk K59, enk K58, enk K57, enk K56, enk K55, enk K54, enk K53, enk K52, trivial⟩ trivial trivial trivial f91I60 f91I64 hat (fun a w hat => .inl ⟨rfl, ?_⟩)
      refine g_seq f91q13 ?_
      let d9 : List Value := (vb ++ [(iV ((([s.lo, s.hi].length : Nat) : Int))), (iV (((L.length : Nat) : Int))), (iV i), (iV (((p.length : Nat) : Int))), (.pointer (ptrO ap ((i).toNat * 6))), (.pointer (ptrO ap ((i).toNat * 6 + 1))), (iV z1.station), (.pointer (ptrO ast ((z1.station).toNat * 1))), (iV z2), (iV y3), (iV y4), (.pointer (ptrO ap ((i).toNat * 6))), (.pointer (ptrO ap ((i).toNat * 6 + 2))), (.pointer (ptrO ap ((i).toNat * 6 + 2 + 0))), (iV z5.t0), (iV ((wr (z5.t0 - y4)))), (.pointer (ptrO ap ((i).toNat * 6 + 2 + 1))), (iV z5.t1), (iV ((wr (z5.t1 - y3)))), (iV ((wr ((wr (z5.t0 - y4)) + 1))))])
      let p9 : Rho := RO w0 d9 [(flat intC [s.lo, s.hi]), (flat intC L)]
      refine At.go (ρ1 := p8) (ρ2 := p9) f91r6 (@env_ok p8) trivial trivial trivial trivial f91I64 f91I66 hat (fun a w hat => .inl ⟨rfl, ?_⟩)
      refine g_block f91q14 ?_
      let p10 : Rho := (RO w0 (vb ++ [(iV ((([s.lo, s.hi].length : Nat) : Int))), (iV (((L.length : Nat) : Int))), (iV i), (iV (((p.length : Nat) : Int))), (.pointer (ptrO ap ((i).toNat * 6))), (.pointer (ptrO ap ((i).toNat * 6 + 1))), (iV z1.station), (.pointer (ptrO ast ((z1.station).toNat * 1))), (iV z2), (iV y3), (iV y4), (.pointer (ptrO ap ((i).toNat * 6))), (.pointer (ptrO ap ((i).toNat * 6 + 2))), (.pointer (ptrO ap ((i).toNat * 6 + 2 + 0))), (iV z5.t0), (iV ((wr (z5.t0 - y4)))), (.pointer (ptrO ap ((i).toNat * 6 + 2 + 1))), (iV z5.t1), (iV ((wr (z5.t1 - y3)))), (iV ((wr ((wr (z5.t0 - y4)) + 1)))), (iV ((([(wr (z5.t0 - y4)), (wr (z5.t1 - y3)), (wr ((wr (z5.t0 - y4)) + 1))].length : Nat) : Int)))]) [(flat intC [s.lo, s.hi]), (flat intC L), (flat intC [(wr (z5.t0 - y4)), (wr (z5.t1 - y3)), (wr ((wr (z5.t0 - y4)) + 1))])])
      have hatx : @At p10 w0 f91F65 f91S63 a w := At.shiftL (ρ1 := p9) (ρ2 := p10) (σ := (ids 35)) (π := (rng 5)) (τ := (old 2)) (SubOk.om rfl rfl) ⟨rfl, rfl, trivial⟩ (fun _ _ h => h) f91I66.1 f91I66.2 hat
      obtain ⟨hlw, haty⟩ := @At.lay p10 w0 f91F65 f91F67 f91S63 f91lay16 a w 4 2 3 1 35 3 _ _ f91I66.1 f91lay16_h f91lay16_b (by decide) f91lay16_f rfl rfl (by decide) rfl rfl hatx
      clear hatx hat
      have hat : @At p10 w0 f91F67 f91S68 a w := At.shiftL (ρ1 := p10) (ρ2 := p10) (σ := (ids 36)) (π := (rng 6)) (τ := (old 3)) (SubOk.om rfl rfl) ⟨rfl, rfl, rfl, trivial⟩ (fun _ _ h => h) f91I69.1 f91lay16_s haty
      clear haty hlw
      have hat0 := At.shiftL (ρ1 := p10) (ρ2 := (RO w0 (vb ++ [(iV ((([s.lo, s.hi].length : Nat) : Int))), (iV (((L.length : Nat) : Int))), (iV i), (iV (((p.length : Nat) : Int))), (.pointer (ptrO ap ((i).toNat * 6))), (.pointer (ptrO ap ((i).toNat * 6 + 1))), (iV z1.station), (.pointer (ptrO ast ((z1.station).toNat * 1))), (iV z2), (iV y3), (iV y4), (.pointer (ptrO ap ((i).toNat * 6))), (.pointer (ptrO ap ((i).toNat * 6 + 2))), (.pointer (ptrO ap ((i).toNat * 6 + 2 + 0))), (iV z5.t0), (iV ((wr (z5.t0 - y4)))), (.pointer (ptrO ap ((i).toNat * 6 + 2 + 1))), (iV z5.t1), (iV ((wr (z5.t1 - y3)))), (iV ((wr ((wr (z5.t0 - y4)) + 1)))), (iV ((([(wr (z5.t0 - y4)), (wr (z5.t1 - y3)), (wr ((wr (z5.t0 - y4)) + 1))].length : Nat) : Int))), (iV ((((L : List Int).length : Nat) : Int))), (iV ((0 : Int)))]) [(flat intC [s.lo, s.hi]), (flat intC L), (flat intC [(wr (z5.t0 - y4)), (wr (z5.t1 - y3)), (wr ((wr (z5.t0 - y4)) + 1))]), (flat intC (L : List Int))])) (σ := (ids 36 ++ [(sy 16), (iV 0)])) (π := [0, 1, 3, 5, 2]) (τ := [some 0, some 1, some 2, some 1]) ⟨rfl, rfl, rfl, rfl, rfl, rfl, rfl, rfl, rfl, rfl, rfl, rfl, rfl, rfl, rfl, rfl, rfl, rfl, rfl, rfl, rfl, rfl, rfl, rfl, rfl, rfl, rfl, rfl, rfl, rfl, rfl, rfl, rfl, rfl, rfl, rfl, rfl, rfl, rfl, rfl, rfl, rfl, rfl, rfl, rfl, rfl, rfl, rfl, rfl, rfl, rfl, rfl, rfl, rfl, rfl, rfl, rfl, rfl, rfl, rfl, rfl, rfl, rfl, rfl, rfl, rfl, rfl, rfl, rfl, rfl, rfl, rfl, rfl, vl, rfl, rfl, trivial⟩ ⟨rfl, rfl, rfl, (by show (flat intC L : List Value) = (flat intC L); first | (simp [flat_snoc, intC]; done) | (simp [flat, intC]; done)), trivial⟩ (fun _ _ h => h) f91I86.1 f91h17 hat
      clear hat
      refine g_loop (fun (x : List Int × Int) a w => (0 ≤ (x.2 : Int) ∧ (x.2 : Int) ≤ ([(wr (z5.t0 - y4)), (wr (z5.t1 - y3)), (wr ((wr (z5.t0 - y4)) + 1))]).length ∧ ((x.1 : List Int).length : Int) ≤ L.length + (x.2 : Int) ∧ (x.1 : List Int) = L ++ (([(wr (z5.t0 - y4)), (wr (z5.t1 - y3)), (wr ((wr (z5.t0 - y4)) + 1))]).take (x.2 : Int).toNat).filter (fun t => decide (s.lo ≤ t ∧ t ≤ s.hi))) ∧ @At (RO w0 (vb ++ [(iV ((([s.lo, s.hi].length : Nat) : Int))), (iV (((L.length : Nat) : Int))), (iV i), (iV (((p.length : Nat) : Int))), (.pointer (ptrO ap ((i).toNat * 6))), (.pointer (ptrO ap ((i).toNat * 6 + 1))), (iV z1.station), (.pointer (ptrO ast ((z1.station).toNat * 1))), (iV z2), (iV y3), (iV y4), (.pointer (ptrO ap ((i).toNat * 6))), (.pointer (ptrO ap ((i).toNat * 6 + 2))), (.pointer (ptrO ap ((i).toNat * 6 + 2 + 0))), (iV z5.t0), (iV ((wr (z5.t0 - y4)))), (.pointer (ptrO ap ((i).toNat * 6 + 2 + 1))), (iV z5.t1), (iV ((wr (z5.t1 - y3)))), (iV ((wr ((wr (z5.t0 - y4)) + 1)))), (iV ((([(wr (z5.t0 - y4)), (wr (z5.t1 - y3)), (wr ((wr (z5.t0 - y4)) + 1))].length : Nat) : Int))), (iV ((((x.1 : List Int).length : Nat) : Int))), (iV ((x.2 : Int)))]) [(flat intC [s.lo, s.hi]), (flat intC L), (flat intC [(wr (z5.t0 - y4)), (wr (z5.t1 - y3)), (wr ((wr (z5.t0 - y4)) + 1))]), (flat intC (x.1 : List Int))]) w0 f91F84 f91S85 a w) (fun x => (3 - (x.2 : Int)).toNat) f91q15 ?_ (L, 0) ⟨?_, hat0⟩
      · clear hat0
        rintro ⟨M, k⟩ a w ⟨hinv, hat⟩
        change 0 ≤ k ∧ k ≤ ([(wr (z5.t0 - y4)), (wr (z5.t1 - y3)), (wr ((wr (z5.t0 - y4)) + 1))]).length ∧ (M.length : Int) ≤ L.length + k ∧ M = L ++ (([(wr (z5.t0 - y4)), (wr (z5.t1 - y3)), (wr ((wr (z5.t0 - y4)) + 1))]).take k.toNat).filter (fun t => decide (s.lo ≤ t ∧ t ≤ s.hi)) at hinv
        let d11 : List Value := (vb ++ [(iV ((([s.lo, s.hi].length : Nat) : Int))), (iV (((L.length : Nat) : Int))), (iV i), (iV (((p.length : Nat) : Int))), (.pointer (ptrO ap ((i).toNat * 6))), (.pointer (ptrO ap ((i).toNat * 6 + 1))), (iV z1.station), (.pointer (ptrO ast ((z1.station).toNat * 1))), (iV z2), (iV y3), (iV y4), (.pointer (ptrO ap ((i).toNat * 6))), (.pointer (ptrO ap ((i).toNat * 6 + 2))), (.pointer (ptrO ap ((i).toNat * 6 + 2 + 0))), (iV z5.t0), (iV ((wr (z5.t0 - y4)))), (.pointer (ptrO ap ((i).toNat * 6 + 2 + 1))), (iV z5.t1), (iV ((wr (z5.t1 - y3)))), (iV ((wr ((wr (z5.t0 - y4)) + 1)))), (iV ((([(wr (z5.t0 - y4)), (wr (z5.t1 - y3)), (wr ((wr (z5.t0 - y4)) + 1))].length : Nat) : Int))), (iV (((M.length : Nat) : Int))), (iV k)])
        let p11 : Rho := RO w0 d11 [(flat intC [s.lo, s.hi]), (flat intC L), (flat intC [(wr (z5.t0 - y4)), (wr (z5.t1 - y3)), (wr ((wr (z5.t0 - y4)) + 1))]), (flat intC M)]
        change @At p11 w0 f91F84 f91S85 a w at hat
        obtain ⟨j0, j1, j2, j3⟩ := hinv
        have htx : ([(wr (z5.t0 - y4)), (wr (z5.t1 - y3)), (wr ((wr (z5.t0 - y4)) + 1))]).length = 3 := rfl
        by_cases c6 : k < (([(wr (z5.t0 - y4)), (wr (z5.t1 - y3)), (wr ((wr (z5.t0 - y4)) + 1))].length : Nat) : Int)
        · obtain ⟨z7, hz7⟩ : ∃ z : Int, z = [(wr (z5.t0 - y4)), (wr (z5.t1 - y3)), (wr ((wr (z5.t0 - y4)) + 1))].getD (k).toNat 0 := ⟨_, rfl⟩
          by_cases c8 : z7 ≥ s.lo
          · by_cases c9 : z7 ≤ s.hi
            · have K64 := kAdd w0 (k) (1) (by omega)
              let r7 : Rho := (RO w0 (d11 ++ [(iV ((((k).toNat * 1 : Nat) : Int))), (iV z7), (iV (((M.length + 1 : Nat) : Int))), (iV ((k + 1)))]) [(flat intC [s.lo, s.hi]), (flat intC L), (flat intC [(wr (z5.t0 - y4)), (wr (z5.t1 - y3)), (wr ((wr (z5.t0 - y4)) + 1))]), (flat intC M), ((flat intC M) ++ [(iV z7)])])
              refine At.goS (ρ1 := r7) (ρ2 := (RO w0 (vb ++ [(iV ((([s.lo, s.hi].length : Nat) : Int))), (iV (((L.length : Nat) : Int))), (iV i), (iV (((p.length : Nat) : Int))), (.pointer (ptrO ap ((i).toNat * 6))), (.pointer (ptrO ap ((i).toNat * 6 + 1))), (iV z1.station), (.pointer (ptrO ast ((z1.station).toNat * 1))), (iV z2), (iV y3), (iV y4), (.pointer (ptrO ap ((i).toNat * 6))), (.pointer (ptrO ap ((i).toNat * 6 + 2))), (.pointer (ptrO ap ((i).toNat * 6 + 2 + 0))), (iV z5.t0), (iV ((wr (z5.t0 - y4)))), (.pointer (ptrO ap ((i).toNat * 6 + 2 + 1))), (iV z5.t1), (iV ((wr (z5.t1 - y3)))), (iV ((wr ((wr (z5.t0 - y4)) + 1)))), (iV ((([(wr (z5.t0 - y4)), (wr (z5.t1 - y3)), (wr ((wr (z5.t0 - y4)) + 1))].length : Nat) : Int))), (iV (((((M ++ [z7]) : List Int).length : Nat) : Int))), (iV (((k + 1) : Int)))]) [(flat intC [s.lo, s.hi]), (flat intC L), (flat intC [(wr (z5.t0 - y4)), (wr (z5.t1 - y3)), (wr ((wr (z5.t0 - y4)) + 1))]), (flat intC ((M ++ [z7]) : List Int))])) f91r7 (@env_ok r7) ⟨enk K64, enk (kleqt c9), enk (kgeqt c8), enk (klsst c6), trivial⟩ trivial ⟨⟨rfl, rfl, M.length, rfl, rfl, (by show ((flat intC M) : List Value).length = (M.length) * 1; first | exact flat_len (fun _ => rfl) _ | simp [flat_len (c := intC) (sz := 1) (fun _ => rfl), intC] <;> omega), rfl, (by omega)⟩, ⟨rfl, (k).toNat * 1, rfl, fun j hj => by have hj2 : j < 1 := hj; show (flat _ _)[_ + j]? = _; match j, hj2 with | 0, _ => exact flat_getz (c := intC) (sz := 1) (fun _ => rfl) hz7 (by omega) 0 _ rfl⟩, ⟨rfl, [(wr (z5.t0 - y4)), (wr (z5.t1 - y3)), (wr ((wr (z5.t0 - y4)) + 1))].length, (k).toNat, .i64, rfl, (by show (Value.int .i64 _) = Value.int .i64 _; congr 1; omega), (by omega), rfl⟩, trivial⟩ trivial f91I86 f91I86 hat ⟨rfl, rfl, rfl, rfl, rfl, rfl, rfl, rfl, rfl, rfl, rfl, rfl, rfl, rfl, rfl, rfl, rfl, rfl, rfl, rfl, rfl, rfl, rfl, rfl, rfl, rfl, rfl, rfl, rfl, rfl, rfl, rfl, rfl, rfl, rfl, rfl, rfl, rfl, rfl, rfl, rfl, rfl, rfl, rfl, rfl, rfl, rfl, rfl, rfl, rfl, rfl, rfl, rfl, rfl, rfl, rfl, rfl, rfl, rfl, rfl, rfl, rfl, rfl, rfl, rfl, rfl, rfl, rfl, rfl, rfl, rfl, rfl, rfl, vl, rfl, rfl, trivial⟩ ⟨rfl, rfl, rfl, (by show (flat intC (M ++ [z7]) : List Value) = ((flat intC M) ++ [(iV z7)]); first | (simp [flat_snoc, intC]; done) | (simp [flat, intC]; done)), trivial⟩ (fun a w hat => .inl ⟨rfl, ⟨((M ++ [z7]), (k + 1)), ?_, ?_, hat⟩⟩)
              · show (3 - ((k + 1) : Int)).toNat < (3 - k).toNat
                omega
              show 0 ≤ ((k + 1) : Int) ∧ ((k + 1) : Int) ≤ ([(wr (z5.t0 - y4)), (wr (z5.t1 - y3)), (wr ((wr (z5.t0 - y4)) + 1))]).length ∧ (((M ++ [z7]) : List Int).length : Int) ≤ L.length + ((k + 1) : Int) ∧ ((M ++ [z7]) : List Int) = L ++ (([(wr (z5.t0 - y4)), (wr (z5.t1 - y3)), (wr ((wr (z5.t0 - y4)) + 1))]).take ((k + 1) : Int).toNat).filter (fun t => decide (s.lo ≤ t ∧ t ≤ s.hi))
              have e1 : (k + 1).toNat = k.toNat + 1 := by omega
              refine ⟨by omega, by omega, by first | omega | (simp only [List.length_append, List.length_cons, List.length_nil]; omega), ?_⟩
              rw [e1, filter_snoc _ (d := 0) (by omega), ← hz7, j3]
              have hb : decide (s.lo ≤ z7 ∧ z7 ≤ s.hi) = true := by simp; omega
              simp only [hb]
              simp
            have K65 := kAdd w0 (k) (1) (by omega)
            let r8 : Rho := (RO w0 (d11 ++ [(iV ((((k).toNat * 1 : Nat) : Int))), (iV z7), (iV ((k + 1)))]) [(flat intC [s.lo, s.hi]), (flat intC L), (flat intC [(wr (z5.t0 - y4)), (wr (z5.t1 - y3)), (wr ((wr (z5.t0 - y4)) + 1))]), (flat intC M)])
            refine At.goS (ρ1 := r8) (ρ2 := (RO w0 (vb ++ [(iV ((([s.lo, s.hi].length : Nat) : Int))), (iV (((L.length : Nat) : Int))), (iV i), (iV (((p.length : Nat) : Int))), (.pointer (ptrO ap ((i).toNat * 6))), (.pointer (ptrO ap ((i).toNat * 6 + 1))), (iV z1.station), (.pointer (ptrO ast ((z1.station).toNat * 1))), (iV z2), (iV y3), (iV y4), (.pointer (ptrO ap ((i).toNat * 6))), (.pointer (ptrO ap ((i).toNat * 6 + 2))), (.pointer (ptrO ap ((i).toNat * 6 + 2 + 0))), (iV z5.t0), (iV ((wr (z5.t0 - y4)))), (.pointer (ptrO ap ((i).toNat * 6 + 2 + 1))), (iV z5.t1), (iV ((wr (z5.t1 - y3)))), (iV ((wr ((wr (z5.t0 - y4)) + 1)))), (iV ((([(wr (z5.t0 - y4)), (wr (z5.t1 - y3)), (wr ((wr (z5.t0 - y4)) + 1))].length : Nat) : Int))), (iV ((((M : List Int).length : Nat) : Int))), (iV (((k + 1) : Int)))]) [(flat intC [s.lo, s.hi]), (flat intC L), (flat intC [(wr (z5.t0 - y4)), (wr (z5.t1 - y3)), (wr ((wr (z5.t0 - y4)) + 1))]), (flat intC (M : List Int))])) f91r8 (@env_ok r8) ⟨enk K65, enk (kleqf c9), enk (kgeqt c8), enk (klsst c6), trivial⟩ trivial ⟨⟨rfl, (k).toNat * 1, rfl, fun j hj => by have hj2 : j < 1 := hj; show (flat _ _)[_ + j]? = _; match j, hj2 with | 0, _ => exact flat_getz (c := intC) (sz := 1) (fun _ => rfl) hz7 (by omega) 0 _ rfl⟩, ⟨rfl, [(wr (z5.t0 - y4)), (wr (z5.t1 - y3)), (wr ((wr (z5.t0 - y4)) + 1))].length, (k).toNat, .i64, rfl, (by show (Value.int .i64 _) = Value.int .i64 _; congr 1; omega), (by omega), rfl⟩, trivial⟩ trivial f91I86 f91I86 hat (SubOk.om rfl rfl) (LsubOk.om rfl) (fun a w hat => .inl ⟨rfl, ⟨(M, (k + 1)), ?_, ?_, hat⟩⟩)
            · show (3 - ((k + 1) : Int)).toNat < (3 - k).toNat
              omega
            show 0 ≤ ((k + 1) : Int) ∧ ((k + 1) : Int) ≤ ([(wr (z5.t0 - y4)), (wr (z5.t1 - y3)), (wr ((wr (z5.t0 - y4)) + 1))]).length ∧ ((M : List Int).length : Int) ≤ L.length + ((k + 1) : Int) ∧ (M : List Int) = L ++ (([(wr (z5.t0 - y4)), (wr (z5.t1 - y3)), (wr ((wr (z5.t0 - y4)) + 1))]).take ((k + 1) : Int).toNat).filter (fun t => decide (s.lo ≤ t ∧ t ≤ s.hi))
            have e1 : (k + 1).toNat = k.toNat + 1 := by omega
            refine ⟨by omega, by omega, by first | omega | (simp only [List.length_append, List.length_cons, List.length_nil]; omega), ?_⟩
            rw [e1, filter_snoc _ (d := 0) (by omega), ← hz7, j3]
            have hb : decide (s.lo ≤ z7 ∧ z7 ≤ s.hi) = false := by simp; omega
            simp only [hb]
            simp
          have K66 := kAdd w0 (k) (1) (by omega)
          let r9 : Rho := (RO w0 (d11 ++ [(iV ((((k).toNat * 1 : Nat) : Int))), (iV z7), (iV ((k + 1)))]) [(flat intC [s.lo, s.hi]), (flat intC L), (flat intC [(wr (z5.t0 - y4)), (wr (z5.t1 - y3)), (wr ((wr (z5.t0 - y4)) + 1))]), (flat intC M)])
          refine At.goS (ρ1 := r9) (ρ2 := (RO w0 (vb ++ [(iV ((([s.lo, s.hi].length : Nat) : Int))), (iV (((L.length : Nat) : Int))), (iV i), (iV (((p.length : Nat) : Int))), (.pointer (ptrO ap ((i).toNat * 6))), (.pointer (ptrO ap ((i).toNat * 6 + 1))), (iV z1.station), (.pointer (ptrO ast ((z1.station).toNat * 1))), (iV z2), (iV y3), (iV y4), (.pointer (ptrO ap ((i).toNat * 6))), (.pointer (ptrO ap ((i).toNat * 6 + 2))), (.pointer (ptrO ap ((i).toNat * 6 + 2 + 0))), (iV z5.t0), (iV ((wr (z5.t0 - y4)))), (.pointer (ptrO ap ((i).toNat * 6 + 2 + 1))), (iV z5.t1), (iV ((wr (z5.t1 - y3)))), (iV ((wr ((wr (z5.t0 - y4)) + 1)))), (iV ((([(wr (z5.t0 - y4)), (wr (z5.t1 - y3)), (wr ((wr (z5.t0 - y4)) + 1))].length : Nat) : Int))), (iV ((((M : List Int).length : Nat) : Int))), (iV (((k + 1) : Int)))]) [(flat intC [s.lo, s.hi]), (flat intC L), (flat intC [(wr (z5.t0 - y4)), (wr (z5.t1 - y3)), (wr ((wr (z5.t0 - y4)) + 1))]), (flat intC (M : List Int))])) f91r9 (@env_ok r9) ⟨enk K66, enk (kgeqf c8), enk (klsst c6), trivial⟩ trivial ⟨⟨rfl, (k).toNat * 1, rfl, fun j hj => by have hj2 : j < 1 := hj; show (flat _ _)[_ + j]? = _; match j, hj2 with | 0, _ => exact flat_getz (c := intC) (sz := 1) (fun _ => rfl) hz7 (by omega) 0 _ rfl⟩, ⟨rfl, [(wr (z5.t0 - y4)), (wr (z5.t1 - y3)), (wr ((wr (z5.t0 - y4)) + 1))].length, (k).toNat, .i64, rfl, (by show (Value.int .i64 _) = Value.int .i64 _; congr 1; omega), (by omega), rfl⟩, trivial⟩ trivial f91I86 f91I86 hat (SubOk.om rfl rfl) (LsubOk.om rfl) (fun a w hat => .inl ⟨rfl, ⟨(M, (k + 1)), ?_, ?_, hat⟩⟩)
          · show (3 - ((k + 1) : Int)).toNat < (3 - k).toNat
            omega
          show 0 ≤ ((k + 1) : Int) ∧ ((k + 1) : Int) ≤ ([(wr (z5.t0 - y4)), (wr (z5.t1 - y3)), (wr ((wr (z5.t0 - y4)) + 1))]).length ∧ ((M : List Int).length : Int) ≤ L.length + ((k + 1) : Int) ∧ (M : List Int) = L ++ (([(wr (z5.t0 - y4)), (wr (z5.t1 - y3)), (wr ((wr (z5.t0 - y4)) + 1))]).take ((k + 1) : Int).toNat).filter (fun t => decide (s.lo ≤ t ∧ t ≤ s.hi))
          have e1 : (k + 1).toNat = k.toNat + 1 := by omega
          refine ⟨by omega, by omega, by first | omega | (simp only [List.length_append, List.length_cons, List.length_nil]; omega), ?_⟩
          rw [e1, filter_snoc _ (d := 0) (by omega), ← hz7, j3]
          have hb : decide (s.lo ≤ z7 ∧ z7 ≤ s.hi) = false := by simp; omega
          simp only [hb]
          simp
        let d12 : List Value := (vb ++ [(iV ((([s.lo, s.hi].length : Nat) : Int))), (iV (((L.length : Nat) : Int))), (iV i), (iV (((p.length : Nat) : Int))), (.pointer (ptrO ap ((i).toNat * 6))), (.pointer (ptrO ap ((i).toNat * 6 + 1))), (iV z1.station), (.pointer (ptrO ast ((z1.station).toNat * 1))), (iV z2), (iV y3), (iV y4), (.pointer (ptrO ap ((i).toNat * 6))), (.pointer (ptrO ap ((i).toNat * 6 + 2))), (.pointer (ptrO ap ((i).toNat * 6 + 2 + 0))), (iV z5.t0), (iV ((wr (z5.t0 - y4)))), (.pointer (ptrO ap ((i).toNat * 6 + 2 + 1))), (iV z5.t1), (iV ((wr (z5.t1 - y3)))), (iV ((wr ((wr (z5.t0 - y4)) + 1)))), (iV ((([(wr (z5.t0 - y4)), (wr (z5.t1 - y3)), (wr ((wr (z5.t0 - y4)) + 1))].length : Nat) : Int))), (iV (((M.length : Nat) : Int))), (iV k)])
        let p12 : Rho := RO w0 d12 [(flat intC [s.lo, s.hi]), (flat intC L), (flat intC [(wr (z5.t0 - y4)), (wr (z5.t1 - y3)), (wr ((wr (z5.t0 - y4)) + 1))]), (flat intC M)]
        refine At.go (ρ1 := p11) (ρ2 := p12) f91r10 (@env_ok p11) ⟨enk (klssf c6), trivial⟩ trivial trivial trivial f91I86 f91I88 hat (fun a w hat => .inr ⟨.inl ⟨2, rfl⟩, .inl ⟨rfl, .inr ⟨(fun q => nomatch q), .inl ⟨rfl, ?_⟩⟩⟩⟩)
        have K67 := kAdd w0 (i) (1) (by omega)
        let r11 : Rho := (RO w0 (d12 ++ [(iV ((i + 1)))]) [(flat intC [s.lo, s.hi]), (flat intC L), (flat intC [(wr (z5.t0 - y4)), (wr (z5.t1 - y3)), (wr ((wr (z5.t0 - y4)) + 1))]), (flat intC M)])
        refine At.goS (ρ1 := r11) (ρ2 := (RO w0 (vb ++ [(iV ((([s.lo, s.hi].length : Nat) : Int))), (iV ((((M : List Int).length : Nat) : Int))), (iV (((i + 1) : Int)))]) [(flat intC [s.lo, s.hi]), (flat intC (M : List Int))])) f91r11 (@env_ok r11) ⟨enk K67, trivial⟩ trivial trivial trivial f91I88 f91I92 hat ⟨rfl, rfl, rfl, rfl, rfl, rfl, rfl, rfl, rfl, rfl, rfl, rfl, rfl, rfl, rfl, rfl, rfl, rfl, rfl, rfl, rfl, rfl, rfl, rfl, rfl, rfl, rfl, rfl, rfl, rfl, rfl, rfl, rfl, vl, rfl, rfl, trivial⟩ ⟨rfl, (by show (flat intC M : List Value) = (flat intC M); first | (simp [flat_snoc, intC]; done) | (simp [flat, intC]; done)), trivial⟩ (fun a w hat => .inl ⟨rfl, ⟨(M, (i + 1)), ?_, ?_, hat⟩⟩)
        · show (p.length - ((i + 1) : Int)).toNat < (p.length - i).toNat
          omega
        show 0 ≤ ((i + 1) : Int) ∧ ((i + 1) : Int) ≤ p.length ∧ ((M : List Int).length : Int) ≤ 2 + 3 * ((i + 1) : Int) ∧ (M : List Int) = momL x0 x1 x2 x3 x4 x5 x6 x7 st s (p.take ((i + 1) : Int).toNat)
        have e1 : (i + 1).toNat = i.toNat + 1 := by omega
        refine ⟨by omega, by omega, by omega, ?_⟩
        rw [e1, momL_snoc (by omega), ← hz1, ← i3]
        unfold momOne
        rw [← hz2, ← hy3, ← hy4, show z1 = z5 from hz1.trans hz5.symm]
        rw [show k.toNat = 3 by omega] at j3
        exact j3
      · show 0 ≤ (0 : Int) ∧ (0 : Int) ≤ ([(wr (z5.t0 - y4)), (wr (z5.t1 - y3)), (wr ((wr (z5.t0 - y4)) + 1))]).length ∧ ((L : List Int).length : Int) ≤ L.length + (0 : Int) ∧ (L : List Int) = L ++ (([(wr (z5.t0 - y4)), (wr (z5.t1 - y3)), (wr ((wr (z5.t0 - y4)) + 1))]).take (0 : Int).toNat).filter (fun t => decide (s.lo ≤ t ∧ t ≤ s.hi))
        exact ⟨by omega, by simp, by simp, by simp⟩
    let r12 : Rho := (RO w0 (d5 ++ [(iV (((p.length : Nat) : Int)))]) [(flat intC [s.lo, s.hi]), (flat intC L)])
    let d13 : List Value := (vb ++ [(iV (((L.length : Nat) : Int)))])
    let p13 : Rho := RO w0 d13 [(flat intC L)]
    refine At.go (ρ1 := r12) (ρ2 := p13) f91r12 (@env_ok r12) ⟨enk (klssf c0), enk K45, trivial⟩ trivial trivial trivial f91I92 f91I95 hat (fun a w hat => .inr ⟨(fun q => nomatch q), .inr ⟨.inl ⟨0, rfl⟩, .inl ⟨rfl, .inl ⟨rfl, ?_⟩⟩⟩⟩)
    refine At.lastsL (ρ1 := p13) (n := L.length) none f91r13 (@env_ok p13) trivial trivial trivial trivial f91I95 hat rfl (by show ((flat intC L) : List Value).length = (L.length) * 1; first | exact flat_len (fun _ => rfl) _ | simp [flat_len (c := intC) (sz := 1) (fun _ => rfl), intC] <;> omega) (fun w2 a2 C2 hb hn => ?_)
    have hL : L = momL x0 x1 x2 x3 x4 x5 x6 x7 st s p := by
      rw [i3, show i.toNat = p.length by omega, List.take_length]
    have e1 : L.length = (momL x0 x1 x2 x3 x4 x5 x6 x7 st s p).length := by rw [← hL]; try first | rfl | simp | simp [intC]
    have e2 : ((flat intC L) : List Value) = flat intC (momL x0 x1 x2 x3 x4 x5 x6 x7 st s p) := by rw [← hL]; try first | rfl | (simp [flat_snoc, intC]; done) | (simp [flat, intC]; done)
    have hn2 : NewList w0 w2 3 1 (flat intC (momL x0 x1 x2 x3 x4 x5 x6 x7 st s p)) a2 (momL x0 x1 x2 x3 x4 x5 x6 x7 st s p).length C2 := by rw [← e1, ← e2]; exact hn
    have hv := congrArg (fun (n2 : Nat)  => (.slice a2 n2 C2 : Value)) e1
    exact ⟨a2, C2, congrArg Ending.returned hv, hn2, hb⟩
  · show 0 ≤ (0 : Int) ∧ (0 : Int) ≤ p.length ∧ (([s.lo, s.hi] : List Int).length : Int) ≤ 2 + 3 * (0 : Int) ∧ ([s.lo, s.hi] : List Int) = momL x0 x1 x2 x3 x4 x5 x6 x7 st s (p.take (0 : Int).toNat)
    exact ⟨by omega, by omega, by simp, rfl⟩
end
end Go.Proofs.Ytoaehigmpbhppaa.En
namespace Go.Proofs.Ytoaehigmpbhppaa.En
open Go Go.Ev Go.Proofs Go.RowKit
theorem getD_mem {α : Type} {l : List α} {d : α} {n : Nat} (h : n < l.length) : l.getD n d ∈ l := by
  have e : l.getD n d = l[n] := by simp [List.getD, List.getElem?_eq_getElem h]
  rw [e]; exact List.getElem_mem h
/-- The same, over moments. -/
noncomputable def momZ (x0 x1 x2 x3 x4 x5 x6 x7 : Int) (st : List Int) (f : Int) (p : List Pk) (s : Src) : Int × Int × Bool :=
  rlZ (agZ x0 x1 x2 x3 x4 x5 x6 x7 st s p) f (momL x0 x1 x2 x3 x4 x5 x6 x7 st s p)
noncomputable def refOne (x0 x1 x2 x3 x4 x5 x6 x7 : Int) (st : List Int) (f : Int) (p : List Pk) (s : Src) : Option Src :=
  if s.kind = 1 then (if (momZ x0 x1 x2 x3 x4 x5 x6 x7 st f p s).2.2 = true then some ⟨s.kind, s.cell, s.cls, (momZ x0 x1 x2 x3 x4 x5 x6 x7 st f p s).1, (momZ x0 x1 x2 x3 x4 x5 x6 x7 st f p s).2.1⟩ else none) else some s
noncomputable def refL (x0 x1 x2 x3 x4 x5 x6 x7 : Int) (st : List Int) (so : List Src) (p : List Pk) (f : Int) : List Src :=
  if leftErr x0 x1 x2 x3 x4 x5 x6 x7 st so p f = 0 then so.filterMap (refOne x0 x1 x2 x3 x4 x5 x6 x7 st f p) else []
end Go.Proofs.Ytoaehigmpbhppaa.En
namespace Go.Proofs.Ytoaehigmpbhppaa.En
open Go Go.Ev Go.Proofs Go.RowKit
set_option maxRecDepth 1000000
noncomputable section
theorem moments2_any (x0 : Int) (x1 : Int) (x2 : Int) (x3 : Int) (x4 : Int) (x5 : Int) (x6 : Int) (x7 : Int) (ast : Option Addr) (st : List Int) (qst : Nat) (s : Src) (ap : Option Addr) (p : List Pk) (qp : Nat) (w0 : World) {tst : TypeId} (Hst : Lies w0 tst (flat intC st) ast st.length) {tp : TypeId} (Hp : Lies w0 tp (flat pkC p) ap p.length) (v : ModOk x0 x1 x2 x3 x4 x5 x6 x7) (hcell : 0 ≤ s.cell ∧ s.cell < x0 * x1) (hcls : 1 ≤ s.cls ∧ s.cls ≤ 10) (hst : StOk x0 x1 st) (hn1 : st.length < 1000000) (hpk : PksOk st.length p) (hpn : p.length ≤ 64) (hts : 0 ≤ s.lo ∧ s.lo ≤ s.hi ∧ s.hi ≤ 1000000000) : Calls Try.prog 91 #[(.agg #[(.int .i64 (x0)), (.int .i64 (x1)), (.int .i64 (x2)), (.int .i64 (x3)), (.int .i64 (x4)), (.int .i64 (x5)), (.int .i64 (x6)), (.int .i64 (x7))]), (.slice ast st.length qst), (.agg #[(.int .i64 (s.kind)), (.int .i64 (s.cell)), (.int .i64 (s.cls)), (.int .i64 (s.lo)), (.int .i64 (s.hi))]), (.slice ap p.length qp)] w0 (fun en w' => ∃ a C, en = .returned (.slice a (momL x0 x1 x2 x3 x4 x5 x6 x7 st s p).length C) ∧ NewList w0 w' 3 1 (flat intC (momL x0 x1 x2 x3 x4 x5 x6 x7 st s p)) a (momL x0 x1 x2 x3 x4 x5 x6 x7 st s p).length C ∧ Below w0.heap.size w0 w') := moments_any x0 x1 x2 x3 x4 x5 x6 x7 ast st qst s ap p qp w0 Hst v hcell hcls hst hn1 Hp hpk hpn hts
theorem against2_any (x0 : Int) (x1 : Int) (x2 : Int) (x3 : Int) (x4 : Int) (x5 : Int) (x6 : Int) (x7 : Int) (ast : Option Addr) (st : List Int) (qst : Nat) (s : Src) (ap : Option Addr) (p : List Pk) (qp : Nat) (t : Int) (w0 : World) {tst : TypeId} (Hst : Lies w0 tst (flat intC st) ast st.length) {tp : TypeId} (Hp : Lies w0 tp (flat pkC p) ap p.length) (v : ModOk x0 x1 x2 x3 x4 x5 x6 x7) (hcell : 0 ≤ s.cell ∧ s.cell < x0 * x1) (hcls : 1 ≤ s.cls ∧ s.cls ≤ 10) (hst : StOk x0 x1 st) (hn1 : st.length < 1000000) (hpk : PksOk st.length p) (hpn : p.length ≤ 64) (ht : 0 ≤ t ∧ t ≤ 1000000000) : Calls Try.prog 92 #[(.agg #[(.int .i64 (x0)), (.int .i64 (x1)), (.int .i64 (x2)), (.int .i64 (x3)), (.int .i64 (x4)), (.int .i64 (x5)), (.int .i64 (x6)), (.int .i64 (x7))]), (.slice ast st.length qst), (.agg #[(.int .i64 (s.kind)), (.int .i64 (s.cell)), (.int .i64 (s.cls)), (.int .i64 (s.lo)), (.int .i64 (s.hi))]), (.slice ap p.length qp), (.int .i64 (t))] w0 (fun en w' => en = .returned (.int .i64 (agZ x0 x1 x2 x3 x4 x5 x6 x7 st s p t)) ∧ Below w0.heap.size w0 w') := against_any x0 x1 x2 x3 x4 x5 x6 x7 ast st qst s ap p qp t w0 Hst v hcell hcls hst hn1 Hp hpk hpn ht
def f71b0 : Code := (Try.f71.body).getD .skip
def f71F0 : Fr := mkFr Try.f71 [(0, (ag 0 8)), (1, (sy 8)), (2, (ag 9 5)), (3, (sy 14)), (4, (sy 15))] []
def f71S1 : St := mkSt 0 []
theorem f71I2 : IdOk 16 0 0 f71F0 f71S1 := ⟨mkSt_wf rfl, by kernel_rfl⟩
def f71F3 : Fr := mkFr Try.f71 [(1, (sy 8)), (3, (sy 14)), (4, (sy 15)), (5, (pt 0 0)), (7, (pt 1 0)), (10, (pt 2 0)), (11, (.bool .false))] []
def f71S4 : St := mkSt 3 [(0, (.cells (ids 8) 26 .none .false)), (1, (.cells [(sy 9), (sy 10), (sy 11), (sy 12), (sy 13)] 54 .none .false)), (2, (.cells [(iV 0), (iV 0)] 23 .none .false))]
theorem f71I5 : IdOk 16 3 0 f71F3 f71S4 := ⟨mkSt_wf rfl, by kernel_rfl⟩
def f71F6 : Fr := mkFr Try.f71 [(1, (sy 8)), (3, (sy 14)), (4, (sy 15)), (5, (pt 0 0)), (7, (pt 1 0)), (10, (pt 2 0)), (11, (.bool .false)), (12, (pt 3 0)), (13, (.bool .false))] []
def f71S7 : St := mkSt 4 [(0, (.cells (ids 8) 26 .none .false)), (1, (.cells [(sy 9), (sy 10), (sy 11), (sy 12), (sy 13)] 54 .none .false)), (2, (.cells [(iV 0), (iV 0)] 23 .none .false)), (3, (.cells [(iV 0), (iV 0)] 23 .none .false))]
theorem f71I8 : IdOk 16 4 0 f71F6 f71S7 := ⟨mkSt_wf rfl, by kernel_rfl⟩
def f71n9 : List CLEnt := ⟨91, [(ag 0 8), (sy 8), (ag 9 5), (sy 14)], [], 4, 0, 3, 1, 16, (ls 4 16)⟩ :: []
def f71F10 : Fr := mkFr Try.f71 [(1, (sy 8)), (3, (sy 14)), (4, (sy 15)), (5, (pt 0 0)), (7, (pt 1 0)), (10, (pt 2 0)), (11, (.bool .false)), (12, (pt 3 0)), (13, (.bool .false)), (14, (ls 4 16))] []
def f71S11 : St := mkSt 5 [(0, (.cells (ids 8) 26 .none .false)), (1, (.cells [(sy 9), (sy 10), (sy 11), (sy 12), (sy 13)] 54 .none .false)), (2, (.cells [(iV 0), (iV 0)] 23 .none .false)), (3, (.cells [(iV 0), (iV 0)] 23 .none .false)), (4, (.lst 0 3 1))]
theorem f71I12 : IdOk 17 5 1 f71F10 f71S11 := ⟨mkSt_wf rfl, by kernel_rfl⟩
def f71F13 : Fr := mkFr Try.f71 [(1, (sy 8)), (3, (sy 14)), (4, (sy 15)), (5, (pt 0 0)), (7, (pt 1 0)), (10, (pt 2 0)), (11, (.bool .false)), (12, (pt 3 0)), (13, (.bool .false)), (14, (ls 4 16)), (15, (iV 0))] []
theorem f71I14 : IdOk 17 5 1 f71F13 f71S11 := ⟨mkSt_wf rfl, by kernel_rfl⟩
theorem f71f92 : FnIn env 92 := ⟨Try.f92, (Try.f92.body).getD .skip, by kernel_rfl, by kernel_rfl⟩
def f71n20 : List CEnt := ⟨92, [(ag 0 8), (sy 8), (ag 9 5), (sy 14), (sy 21)], [], (sy 22)⟩ :: []
def f71n21 : List LEnt := (.get 0 20 [(sy 21)]) :: (.idx 16 (sy 17) 1 20) :: []
def f71n22 : List Ent := aB .add (sy 17) (iV 1) (sy 23) :: cB .gtr (sy 22) (sy 15) true :: cB .lss (sy 17) (sy 16) true :: []
def f71n23 : List Ent := aB .add (sy 17) (iV 1) (sy 25) :: ⟨(.bi 2 [3, 3]), [(sy 21), (sy 21)], (sy 24)⟩ :: ⟨(.bi 3 [3, 3]), [(sy 21), (sy 21)], (sy 23)⟩ :: cB .gtr (sy 22) (sy 15) false :: cB .lss (sy 17) (sy 16) true :: []
def f71n24 : List Ent := cB .lss (sy 17) (sy 16) false :: []
def f71n25 : List Ent := aB .add (sy 17) (iV 1) (sy 25) :: ⟨(.bi 2 [3, 3]), [(sy 19), (sy 21)], (sy 24)⟩ :: ⟨(.bi 3 [3, 3]), [(sy 18), (sy 21)], (sy 23)⟩ :: cB .gtr (sy 22) (sy 15) false :: cB .lss (sy 17) (sy 16) true :: []
def f71F26 : Fr := mkFr Try.f71 [(1, (sy 8)), (3, (sy 14)), (4, (sy 15)), (5, (pt 0 0)), (7, (pt 1 0)), (10, (pt 2 0)), (11, (.bool .false)), (12, (pt 3 0)), (13, (.bool .false)), (14, (ls 4 16)), (15, (sy 17))] []
def f71S27 : St := mkSt 5 [(0, (.cells (ids 8) 26 .none .false)), (1, (.cells [(sy 9), (sy 10), (sy 11), (sy 12), (sy 13)] 54 .none .false)), (2, (.cells [(iV 0), (iV 0)] 23 .none .false)), (3, (.cells [(sy 18), (sy 19)] 23 .none .false)), (4, (.lst 0 3 1))]
theorem f71I28 : IdOk 20 5 1 f71F26 f71S27 := ⟨mkSt_wf rfl, by kernel_rfl⟩
def f71F29 : Fr := mkFr Try.f71 [(1, (sy 8)), (3, (sy 14)), (4, (sy 15)), (5, (pt 0 0)), (7, (pt 1 0)), (10, (pt 2 0)), (11, (.bool .false)), (12, (pt 3 0)), (13, (.bool .true)), (14, (ls 4 16)), (15, (sy 17))] []
theorem f71I30 : IdOk 20 5 1 f71F29 f71S27 := ⟨mkSt_wf rfl, by kernel_rfl⟩
def f71F31 : Fr := mkFr Try.f71 [(10, (pt 0 0)), (11, (.bool .false)), (12, (pt 1 0)), (13, (.bool .false))] []
def f71S32 : St := mkSt 2 [(0, (.cells [(iV 0), (iV 0)] 23 .none .false)), (1, (.cells [(sy 16), (sy 17)] 23 .none .false))]
theorem f71I33 : IdOk 18 2 0 f71F31 f71S32 := ⟨mkSt_wf rfl, by kernel_rfl⟩
def f71F34 : Fr := mkFr Try.f71 [(10, (pt 0 0)), (11, (.bool .false)), (12, (pt 1 0)), (13, (.bool .true))] []
theorem f71I35 : IdOk 18 2 0 f71F34 f71S32 := ⟨mkSt_wf rfl, by kernel_rfl⟩
theorem f71a0 : agreeL (ids 16) [] [] f71F0 f71S1 (frameOf Try.f71 [(ag 0 8), (sy 8), (ag 9 5), (sy 14), (sy 15)]) Ev.start = true := by kernel_rfl
def f71b1 : Code := headC f71b0
def f71b2 : Code := tailC f71b0
theorem f71q0 : f71b0 = .seq f71b1 f71b2 := by kernel_rfl
theorem f71r0 : gE [] [] [] [] f71b1 f71F0 f71S1 .normal (ids 16) (rng 3) [] f71F3 f71S4 = some () := by kernel_rfl
def f71b3 : Code := headC f71b2
def f71b4 : Code := tailC f71b2
theorem f71q1 : f71b2 = .seq f71b3 f71b4 := by kernel_rfl
theorem f71r1 : gE [] [] [] [] f71b3 f71F3 f71S4 .normal (ids 16) (rng 4) [] f71F6 f71S7 = some () := by kernel_rfl
def f71b5 : Code := headC f71b4
def f71b6 : Code := tailC f71b4
theorem f71q2 : f71b4 = .seq f71b5 f71b6 := by kernel_rfl
theorem f71r2 : gE [] [] [] f71n9 f71b5 f71F6 f71S7 .normal (ids 17) (rng 5) [some 0] f71F10 f71S11 = some () := by kernel_rfl
def f71b7 : Code := headC f71b6
def f71b8 : Code := tailC f71b6
theorem f71q3 : f71b6 = .seq f71b7 f71b8 := by kernel_rfl
def f71b9 : Code := headC f71b7
def f71b10 : Code := tailC f71b7
theorem f71q4 : f71b7 = .seq f71b9 f71b10 := by kernel_rfl
theorem f71r3 : gE [] [] [] [] f71b9 f71F10 f71S11 .normal (ids 17) (rng 5) [some 0] f71F13 f71S11 = some () := by kernel_rfl
def f71b11 : Code := inBlockC f71b10
theorem f71q5 : f71b10 = .block 0 f71b11 := by kernel_rfl
def f71b12 : Code := inLoopC f71b11
theorem f71q6 : f71b11 = .loop f71b12 := by kernel_rfl
theorem f71h7 : agreeL (ids 17 ++ [(iV 0), (iV 0), (iV 0)]) [0, 1, 2, 3, 4] [some 0] f71F26 f71S27 f71F13 f71S11 = true := by kernel_rfl
theorem f71r4 : gE f71n22 f71n20 f71n21 [] f71b12 f71F26 f71S27 .normal (pk 17 [23, 18, 19]) [0, 1, 2, 3, 4] [some 0] f71F26 f71S27 = some () := by kernel_rfl
theorem f71r5 : gE f71n23 f71n20 f71n21 [] f71b12 f71F26 f71S27 .normal (pk 17 [25, 23, 24]) [0, 1, 2, 3, 4] [some 0] f71F29 f71S27 = some () := by kernel_rfl
theorem f71r6 : gE f71n24 [] [] [] f71b12 f71F26 f71S27 (.exit 0) (pk 16 [18, 19]) [2, 3] [] f71F31 f71S32 = some () := by kernel_rfl
theorem f71r7 : lE [] [] [] [] f71b8 f71F31 f71S32 Try.f71 (endV (.tuple #[(ag 16 2), (.bool false)])) = some () := by kernel_rfl
theorem f71r8 : gE f71n22 f71n20 f71n21 [] f71b12 f71F29 f71S27 .normal (pk 17 [23, 18, 19]) [0, 1, 2, 3, 4] [some 0] f71F29 f71S27 = some () := by kernel_rfl
theorem f71r9 : gE f71n25 f71n20 f71n21 [] f71b12 f71F29 f71S27 .normal (pk 17 [25, 23, 24]) [0, 1, 2, 3, 4] [some 0] f71F29 f71S27 = some () := by kernel_rfl
theorem f71r10 : gE f71n24 [] [] [] f71b12 f71F29 f71S27 (.exit 0) (pk 16 [18, 19]) [2, 3] [] f71F34 f71S32 = some () := by kernel_rfl
theorem f71r11 : lE [] [] [] [] f71b8 f71F34 f71S32 Try.f71 (endV (.tuple #[(ag 16 2), (.bool true)])) = some () := by kernel_rfl
set_option maxHeartbeats 8000000 in
theorem rleft_any (x0 : Int) (x1 : Int) (x2 : Int) (x3 : Int) (x4 : Int) (x5 : Int) (x6 : Int) (x7 : Int) (ast : Option Addr) (st : List Int) (qst : Nat) (s : Src) (ap : Option Addr) (p : List Pk) (qp : Nat) (f : Int) (w0 : World) {tst : TypeId} (Hst : Lies w0 tst (flat intC st) ast st.length) {tp : TypeId} (Hp : Lies w0 tp (flat pkC p) ap p.length) (v : ModOk x0 x1 x2 x3 x4 x5 x6 x7) (hcell : 0 ≤ s.cell ∧ s.cell < x0 * x1) (hcls : 1 ≤ s.cls ∧ s.cls ≤ 10) (hst : StOk x0 x1 st) (hn1 : st.length < 1000000) (hpk : PksOk st.length p) (hpn : p.length ≤ 64) (hts : 0 ≤ s.lo ∧ s.lo ≤ s.hi ∧ s.hi ≤ 1000000000) : Calls Try.prog 71 #[(mV x0 x1 x2 x3 x4 x5 x6 x7), (.slice ast st.length qst), (.agg #[(iV s.kind), (iV s.cell), (iV s.cls), (iV s.lo), (iV s.hi)]), (.slice ap p.length qp), (iV f)] w0 (fun en w' => en = .returned (.tuple #[.agg #[iV (rlZ (agZ x0 x1 x2 x3 x4 x5 x6 x7 st s p) f (momL x0 x1 x2 x3 x4 x5 x6 x7 st s p)).1, iV (rlZ (agZ x0 x1 x2 x3 x4 x5 x6 x7 st s p) f (momL x0 x1 x2 x3 x4 x5 x6 x7 st s p)).2.1], .bool (decide ((rlZ (agZ x0 x1 x2 x3 x4 x5 x6 x7 st s p) f (momL x0 x1 x2 x3 x4 x5 x6 x7 st s p)).2.2 = true))]) ∧ Below w0.heap.size w0 w') := by
  have v0m := v
  obtain ⟨v0, v1, v2, v3, v5, v7⟩ := v
  have hx := mul_bd (a := x0) (b := x1) (A := 24) (B := 24) (C := 576) (by omega) (by omega) (by omega) (by omega)
  have hml := momL_len (x0 := x0) (x1 := x1) (x2 := x2) (x3 := x3) (x4 := x4) (x5 := x5) (x6 := x6) (x7 := x7) (st := st) (s := s) (p := p)
  let vb : List Value := [(iV x0), (iV x1), (iV x2), (iV x3), (iV x4), (iV x5), (iV x6), (iV x7), (.slice ast st.length qst), (iV s.kind), (iV s.cell), (iV s.cls), (iV s.lo), (iV s.hi), (.slice ap p.length qp), (iV f)]
  let p0 : Rho := (RO w0 vb [])
  refine At.begin (ρ := p0) (c := f71b0) (@env_ok p0) f71I2 f71a0 (fun a w hat => ?_)
  refine g_seq f71q0 ?_
  let p1 : Rho := (RO w0 vb [])
  refine At.go (ρ1 := p0) (ρ2 := p1) f71r0 (@env_ok p0) trivial trivial trivial trivial f71I2 f71I5 hat (fun a w hat => .inl ⟨rfl, ?_⟩)
  refine g_seq f71q1 ?_
  let p2 : Rho := (RO w0 vb [])
  refine At.go (ρ1 := p1) (ρ2 := p2) f71r1 (@env_ok p1) trivial trivial trivial trivial f71I5 f71I8 hat (fun a w hat => .inl ⟨rfl, ?_⟩)
  refine g_seq f71q2 ?_
  let r2 : Rho := (RO w0 (vb ++ [(iV ((((momL x0 x1 x2 x3 x4 x5 x6 x7 st s p).length : Nat) : Int)))]) [(flat intC (momL x0 x1 x2 x3 x4 x5 x6 x7 st s p))])
  let d3 : List Value := (vb ++ [(iV ((((momL x0 x1 x2 x3 x4 x5 x6 x7 st s p).length : Nat) : Int)))])
  let p3 : Rho := RO w0 d3 [(flat intC (momL x0 x1 x2 x3 x4 x5 x6 x7 st s p))]
  refine At.go (ρ1 := r2) (ρ2 := p3) f71r2 (@env_ok r2) trivial trivial trivial ⟨(@CLEntOk.lists r2 Try.prog _ 91 [(ag 0 8), (sy 8), (ag 9 5), (sy 14)] [] 4 0 3 1 16 (momL x0 x1 x2 x3 x4 x5 x6 x7 st s p).length (ls 4 16) none rfl ⟨Try.f91, (Try.f91.body).getD .skip, by kernel_rfl, by kernel_rfl⟩ rfl rfl (fun w asg hm hl => moments2_any x0 x1 x2 x3 x4 x5 x6 x7 ast st qst s ap p qp w (Hst.keep hm) (Hp.keep hm) v0m hcell hcls hst (by omega) hpk (by omega) hts)), trivial⟩ f71I8 f71I12 hat (fun a w hat => .inl ⟨rfl, ?_⟩)
  refine g_seq f71q3 ?_
  refine g_seq f71q4 ?_
  let d4 : List Value := (vb ++ [(iV ((((momL x0 x1 x2 x3 x4 x5 x6 x7 st s p).length : Nat) : Int)))])
  let p4 : Rho := RO w0 d4 [(flat intC (momL x0 x1 x2 x3 x4 x5 x6 x7 st s p))]
  refine At.go (ρ1 := p3) (ρ2 := p4) f71r3 (@env_ok p3) trivial trivial trivial trivial f71I12 f71I14 hat (fun a w hat => .inl ⟨rfl, ?_⟩)
  refine g_block f71q5 ?_
  have hat0 := At.shiftL (ρ1 := p4) (ρ2 := (RO w0 (vb ++ [(iV ((((momL x0 x1 x2 x3 x4 x5 x6 x7 st s p).length : Nat) : Int))), (iV ((0 : Int))), (iV ((0 : Int))), (iV ((0 : Int)))]) [(flat intC (momL x0 x1 x2 x3 x4 x5 x6 x7 st s p))])) (σ := (ids 17 ++ [(iV 0), (iV 0), (iV 0)])) (π := [0, 1, 2, 3, 4]) (τ := [some 0]) ⟨rfl, rfl, rfl, rfl, rfl, rfl, rfl, rfl, rfl, rfl, rfl, rfl, rfl, rfl, rfl, rfl, rfl, rfl, rfl, rfl, rfl, rfl, rfl, rfl, rfl, rfl, rfl, rfl, rfl, rfl, rfl, rfl, rfl, rfl, rfl, rfl, rfl, rfl, rfl, rfl, trivial⟩ ⟨rfl, trivial⟩ (fun _ _ h => h) f71I28.1 f71h7 hat
  clear hat
  refine g_loop (fun (x : Int × Int × Int × Bool) a w => (0 ≤ (x.1 : Int) ∧ (x.1 : Int) ≤ (momL x0 x1 x2 x3 x4 x5 x6 x7 st s p).length ∧ rlZ (agZ x0 x1 x2 x3 x4 x5 x6 x7 st s p) f ((momL x0 x1 x2 x3 x4 x5 x6 x7 st s p).take (x.1 : Int).toNat) = ((x.2.1 : Int), (x.2.2.1 : Int), (x.2.2.2 : Bool))) ∧ @At (RO w0 (vb ++ [(iV ((((momL x0 x1 x2 x3 x4 x5 x6 x7 st s p).length : Nat) : Int))), (iV ((x.1 : Int))), (iV ((x.2.1 : Int))), (iV ((x.2.2.1 : Int)))]) [(flat intC (momL x0 x1 x2 x3 x4 x5 x6 x7 st s p))]) w0 (cond (x.2.2.2) f71F29 f71F26) f71S27 a w) (fun x => ((momL x0 x1 x2 x3 x4 x5 x6 x7 st s p).length - (x.1 : Int)).toNat) f71q6 ?_ (0, 0, 0, false) ⟨?_, hat0⟩
  · clear hat0
    rintro ⟨i, ulo, uhi, ok⟩ a w ⟨hinv, hat⟩
    cases ok
    · change 0 ≤ (i : Int) ∧ (i : Int) ≤ (momL x0 x1 x2 x3 x4 x5 x6 x7 st s p).length ∧ rlZ (agZ x0 x1 x2 x3 x4 x5 x6 x7 st s p) f ((momL x0 x1 x2 x3 x4 x5 x6 x7 st s p).take (i : Int).toNat) = ((ulo : Int), (uhi : Int), (false : Bool)) at hinv
      let d5 : List Value := (vb ++ [(iV ((((momL x0 x1 x2 x3 x4 x5 x6 x7 st s p).length : Nat) : Int))), (iV i), (iV ulo), (iV uhi)])
      let p5 : Rho := RO w0 d5 [(flat intC (momL x0 x1 x2 x3 x4 x5 x6 x7 st s p))]
      change @At p5 w0 f71F26 f71S27 a w at hat
      obtain ⟨i0, i1, i2⟩ := hinv
      by_cases c0 : i < (((momL x0 x1 x2 x3 x4 x5 x6 x7 st s p).length : Nat) : Int)
      · obtain ⟨z1, hz1⟩ : ∃ z : Int, z = (momL x0 x1 x2 x3 x4 x5 x6 x7 st s p).getD (i).toNat 0 := ⟨_, rfl⟩
        have ez1 : s.lo ≤ z1 ∧ z1 ≤ s.hi := by
          rw [hz1]
          exact momL_in hts.2.1 _ (getD_mem (by omega))
        obtain ⟨y2, hy2⟩ : ∃ y : Int, y = (agZ x0 x1 x2 x3 x4 x5 x6 x7 st s p z1) := ⟨_, rfl⟩
        have K13 : CA w0 92 #[(mV x0 x1 x2 x3 x4 x5 x6 x7), (.slice ast st.length qst), (.agg #[(iV s.kind), (iV s.cell), (iV s.cls), (iV s.lo), (iV s.hi)]), (.slice ap p.length qp), (iV z1)] (iV y2) := fun w hm => (by rw [hy2]; exact against2_any x0 x1 x2 x3 x4 x5 x6 x7 ast st qst s ap p qp z1 w (Hst.keep hm) (Hp.keep hm) v0m hcell hcls hst (by omega) hpk (by omega) (by omega))
        by_cases c3 : y2 > f
        · have K14 := kAdd w0 (i) (1) (by omega)
          let r4 : Rho := (RO w0 (d5 ++ [(iV ((((i).toNat * 1 : Nat) : Int))), (iV z1), (iV y2), (iV ((i + 1)))]) [(flat intC (momL x0 x1 x2 x3 x4 x5 x6 x7 st s p))])
          refine At.goS (ρ1 := r4) (ρ2 := (RO w0 (vb ++ [(iV ((((momL x0 x1 x2 x3 x4 x5 x6 x7 st s p).length : Nat) : Int))), (iV (((i + 1) : Int))), (iV ((ulo : Int))), (iV ((uhi : Int)))]) [(flat intC (momL x0 x1 x2 x3 x4 x5 x6 x7 st s p))])) f71r4 (@env_ok r4) ⟨enk K14, enk (kgtrt c3), enk (klsst c0), trivial⟩ ⟨cok K13 f71f92, trivial⟩ ⟨⟨rfl, (i).toNat * 1, rfl, fun j hj => by have hj2 : j < 1 := hj; show (flat _ _)[_ + j]? = _; match j, hj2 with | 0, _ => exact flat_getz (c := intC) (sz := 1) (fun _ => rfl) hz1 (by omega) 0 _ rfl⟩, ⟨rfl, (momL x0 x1 x2 x3 x4 x5 x6 x7 st s p).length, (i).toNat, .i64, rfl, (by show (Value.int .i64 _) = Value.int .i64 _; congr 1; omega), (by omega), rfl⟩, trivial⟩ trivial f71I28 f71I28 hat (SubOk.om rfl rfl) (LsubOk.om rfl) (fun a w hat => .inl ⟨rfl, ⟨((i + 1), ulo, uhi, false), ?_, ?_, hat⟩⟩)
          · show ((momL x0 x1 x2 x3 x4 x5 x6 x7 st s p).length - ((i + 1) : Int)).toNat < ((momL x0 x1 x2 x3 x4 x5 x6 x7 st s p).length - i).toNat
            omega
          show 0 ≤ ((i + 1) : Int) ∧ ((i + 1) : Int) ≤ (momL x0 x1 x2 x3 x4 x5 x6 x7 st s p).length ∧ rlZ (agZ x0 x1 x2 x3 x4 x5 x6 x7 st s p) f ((momL x0 x1 x2 x3 x4 x5 x6 x7 st s p).take ((i + 1) : Int).toNat) = ((ulo : Int), (uhi : Int), (false : Bool))
          have e1 : (i + 1).toNat = i.toNat + 1 := by omega
          refine ⟨by omega, by omega, ?_⟩
          rw [e1, rlZ_snoc (by omega), i2, ← hz1]
          unfold rlStep
          rw [← hy2]
          first
            | (rw [if_pos (by omega)]; done)
            | (rw [if_neg (by omega)]; simp only [if_true, if_false, reduceCtorEq, Bool.false_eq_true, Int.min_self, Int.max_self]; done)
            | (rw [if_neg (by omega)]; simp; done)
        have K15 : KA w0 (.bi 3 [3, 3]) [(iV z1), (iV z1)] (iV ((min z1 z1))) := fun w hm => k_min
        have K16 : KA w0 (.bi 2 [3, 3]) [(iV z1), (iV z1)] (iV ((max z1 z1))) := fun w hm => k_max
        have K17 := kAdd w0 (i) (1) (by omega)
        let r5 : Rho := (RO w0 (d5 ++ [(iV ((((i).toNat * 1 : Nat) : Int))), (iV z1), (iV y2), (iV ((min z1 z1))), (iV ((max z1 z1))), (iV ((i + 1)))]) [(flat intC (momL x0 x1 x2 x3 x4 x5 x6 x7 st s p))])
        refine At.goS (ρ1 := r5) (ρ2 := (RO w0 (vb ++ [(iV ((((momL x0 x1 x2 x3 x4 x5 x6 x7 st s p).length : Nat) : Int))), (iV (((i + 1) : Int))), (iV (((min z1 z1) : Int))), (iV (((max z1 z1) : Int)))]) [(flat intC (momL x0 x1 x2 x3 x4 x5 x6 x7 st s p))])) f71r5 (@env_ok r5) ⟨enk K17, enk K16, enk K15, enk (kgtrf c3), enk (klsst c0), trivial⟩ ⟨cok K13 f71f92, trivial⟩ ⟨⟨rfl, (i).toNat * 1, rfl, fun j hj => by have hj2 : j < 1 := hj; show (flat _ _)[_ + j]? = _; match j, hj2 with | 0, _ => exact flat_getz (c := intC) (sz := 1) (fun _ => rfl) hz1 (by omega) 0 _ rfl⟩, ⟨rfl, (momL x0 x1 x2 x3 x4 x5 x6 x7 st s p).length, (i).toNat, .i64, rfl, (by show (Value.int .i64 _) = Value.int .i64 _; congr 1; omega), (by omega), rfl⟩, trivial⟩ trivial f71I28 f71I30 hat (SubOk.om rfl rfl) (LsubOk.om rfl) (fun a w hat => .inl ⟨rfl, ⟨((i + 1), (min z1 z1), (max z1 z1), true), ?_, ?_, hat⟩⟩)
        · show ((momL x0 x1 x2 x3 x4 x5 x6 x7 st s p).length - ((i + 1) : Int)).toNat < ((momL x0 x1 x2 x3 x4 x5 x6 x7 st s p).length - i).toNat
          omega
        show 0 ≤ ((i + 1) : Int) ∧ ((i + 1) : Int) ≤ (momL x0 x1 x2 x3 x4 x5 x6 x7 st s p).length ∧ rlZ (agZ x0 x1 x2 x3 x4 x5 x6 x7 st s p) f ((momL x0 x1 x2 x3 x4 x5 x6 x7 st s p).take ((i + 1) : Int).toNat) = (((min z1 z1) : Int), ((max z1 z1) : Int), (true : Bool))
        have e1 : (i + 1).toNat = i.toNat + 1 := by omega
        refine ⟨by omega, by omega, ?_⟩
        rw [e1, rlZ_snoc (by omega), i2, ← hz1]
        unfold rlStep
        rw [← hy2]
        first
          | (rw [if_pos (by omega)]; done)
          | (rw [if_neg (by omega)]; simp only [if_true, if_false, reduceCtorEq, Bool.false_eq_true, Int.min_self, Int.max_self]; done)
          | (rw [if_neg (by omega)]; simp; done)
      let d7 : List Value := (vb ++ [(iV ulo), (iV uhi)])
      let p7 : Rho := RO w0 d7 []
      refine At.go (ρ1 := p5) (ρ2 := p7) f71r6 (@env_ok p5) ⟨enk (klssf c0), trivial⟩ trivial trivial trivial f71I28 f71I33 hat (fun a w hat => .inr ⟨.inl ⟨0, rfl⟩, .inl ⟨rfl, .inl ⟨rfl, ?_⟩⟩⟩)
      refine At.lastsV (ρ1 := p7) f71r7 (@env_ok p7) trivial trivial trivial trivial f71I33 hat (fun w2 hb => ?_)
      have v0 : (ulo : Int) = (rlZ (agZ x0 x1 x2 x3 x4 x5 x6 x7 st s p) f (momL x0 x1 x2 x3 x4 x5 x6 x7 st s p)).1 := by
        rw [show i.toNat = (momL x0 x1 x2 x3 x4 x5 x6 x7 st s p).length by omega, List.take_length] at i2
        rw [i2]
        try first | rfl | (simp; done)
      have v1 : (uhi : Int) = (rlZ (agZ x0 x1 x2 x3 x4 x5 x6 x7 st s p) f (momL x0 x1 x2 x3 x4 x5 x6 x7 st s p)).2.1 := by
        rw [show i.toNat = (momL x0 x1 x2 x3 x4 x5 x6 x7 st s p).length by omega, List.take_length] at i2
        rw [i2]
        try first | rfl | (simp; done)
      have v2 : (false : Bool) = decide ((rlZ (agZ x0 x1 x2 x3 x4 x5 x6 x7 st s p) f (momL x0 x1 x2 x3 x4 x5 x6 x7 st s p)).2.2 = true) := by
        rw [show i.toNat = (momL x0 x1 x2 x3 x4 x5 x6 x7 st s p).length by omega, List.take_length] at i2
        rw [i2]
        try first | rfl | (simp; done)
      have hv := congr (congr (congrArg (fun (y0 : Int) (y1 : Int) (y2 : Bool) => ((.tuple #[(.agg #[(iV y0), (iV y1)]), (.bool y2)]) : Value)) v0) v1) v2
      exact ⟨congrArg Ending.returned hv, hb⟩
    · change 0 ≤ (i : Int) ∧ (i : Int) ≤ (momL x0 x1 x2 x3 x4 x5 x6 x7 st s p).length ∧ rlZ (agZ x0 x1 x2 x3 x4 x5 x6 x7 st s p) f ((momL x0 x1 x2 x3 x4 x5 x6 x7 st s p).take (i : Int).toNat) = ((ulo : Int), (uhi : Int), (true : Bool)) at hinv
      let d6 : List Value := (vb ++ [(iV ((((momL x0 x1 x2 x3 x4 x5 x6 x7 st s p).length : Nat) : Int))), (iV i), (iV ulo), (iV uhi)])
      let p6 : Rho := RO w0 d6 [(flat intC (momL x0 x1 x2 x3 x4 x5 x6 x7 st s p))]
      change @At p6 w0 f71F29 f71S27 a w at hat
      obtain ⟨i0, i1, i2⟩ := hinv
      by_cases c4 : i < (((momL x0 x1 x2 x3 x4 x5 x6 x7 st s p).length : Nat) : Int)
      · obtain ⟨z5, hz5⟩ : ∃ z : Int, z = (momL x0 x1 x2 x3 x4 x5 x6 x7 st s p).getD (i).toNat 0 := ⟨_, rfl⟩
        have ez5 : s.lo ≤ z5 ∧ z5 ≤ s.hi := by
          rw [hz5]
          exact momL_in hts.2.1 _ (getD_mem (by omega))
        obtain ⟨y6, hy6⟩ : ∃ y : Int, y = (agZ x0 x1 x2 x3 x4 x5 x6 x7 st s p z5) := ⟨_, rfl⟩
        have K18 : CA w0 92 #[(mV x0 x1 x2 x3 x4 x5 x6 x7), (.slice ast st.length qst), (.agg #[(iV s.kind), (iV s.cell), (iV s.cls), (iV s.lo), (iV s.hi)]), (.slice ap p.length qp), (iV z5)] (iV y6) := fun w hm => (by rw [hy6]; exact against2_any x0 x1 x2 x3 x4 x5 x6 x7 ast st qst s ap p qp z5 w (Hst.keep hm) (Hp.keep hm) v0m hcell hcls hst (by omega) hpk (by omega) (by omega))
        by_cases c7 : y6 > f
        · have K19 := kAdd w0 (i) (1) (by omega)
          let r8 : Rho := (RO w0 (d6 ++ [(iV ((((i).toNat * 1 : Nat) : Int))), (iV z5), (iV y6), (iV ((i + 1)))]) [(flat intC (momL x0 x1 x2 x3 x4 x5 x6 x7 st s p))])
          refine At.goS (ρ1 := r8) (ρ2 := (RO w0 (vb ++ [(iV ((((momL x0 x1 x2 x3 x4 x5 x6 x7 st s p).length : Nat) : Int))), (iV (((i + 1) : Int))), (iV ((ulo : Int))), (iV ((uhi : Int)))]) [(flat intC (momL x0 x1 x2 x3 x4 x5 x6 x7 st s p))])) f71r8 (@env_ok r8) ⟨enk K19, enk (kgtrt c7), enk (klsst c4), trivial⟩ ⟨cok K18 f71f92, trivial⟩ ⟨⟨rfl, (i).toNat * 1, rfl, fun j hj => by have hj2 : j < 1 := hj; show (flat _ _)[_ + j]? = _; match j, hj2 with | 0, _ => exact flat_getz (c := intC) (sz := 1) (fun _ => rfl) hz5 (by omega) 0 _ rfl⟩, ⟨rfl, (momL x0 x1 x2 x3 x4 x5 x6 x7 st s p).length, (i).toNat, .i64, rfl, (by show (Value.int .i64 _) = Value.int .i64 _; congr 1; omega), (by omega), rfl⟩, trivial⟩ trivial f71I30 f71I30 hat (SubOk.om rfl rfl) (LsubOk.om rfl) (fun a w hat => .inl ⟨rfl, ⟨((i + 1), ulo, uhi, true), ?_, ?_, hat⟩⟩)
          · show ((momL x0 x1 x2 x3 x4 x5 x6 x7 st s p).length - ((i + 1) : Int)).toNat < ((momL x0 x1 x2 x3 x4 x5 x6 x7 st s p).length - i).toNat
            omega
          show 0 ≤ ((i + 1) : Int) ∧ ((i + 1) : Int) ≤ (momL x0 x1 x2 x3 x4 x5 x6 x7 st s p).length ∧ rlZ (agZ x0 x1 x2 x3 x4 x5 x6 x7 st s p) f ((momL x0 x1 x2 x3 x4 x5 x6 x7 st s p).take ((i + 1) : Int).toNat) = ((ulo : Int), (uhi : Int), (true : Bool))
          have e1 : (i + 1).toNat = i.toNat + 1 := by omega
          refine ⟨by omega, by omega, ?_⟩
          rw [e1, rlZ_snoc (by omega), i2, ← hz5]
          unfold rlStep
          rw [← hy6]
          first
            | (rw [if_pos (by omega)]; done)
            | (rw [if_neg (by omega)]; simp only [if_true, if_false, reduceCtorEq, Bool.false_eq_true, Int.min_self, Int.max_self]; done)
            | (rw [if_neg (by omega)]; simp; done)
        have K20 : KA w0 (.bi 3 [3, 3]) [(iV ulo), (iV z5)] (iV ((min ulo z5))) := fun w hm => k_min
        have K21 : KA w0 (.bi 2 [3, 3]) [(iV uhi), (iV z5)] (iV ((max uhi z5))) := fun w hm => k_max
        have K22 := kAdd w0 (i) (1) (by omega)
        let r9 : Rho := (RO w0 (d6 ++ [(iV ((((i).toNat * 1 : Nat) : Int))), (iV z5), (iV y6), (iV ((min ulo z5))), (iV ((max uhi z5))), (iV ((i + 1)))]) [(flat intC (momL x0 x1 x2 x3 x4 x5 x6 x7 st s p))])
        refine At.goS (ρ1 := r9) (ρ2 := (RO w0 (vb ++ [(iV ((((momL x0 x1 x2 x3 x4 x5 x6 x7 st s p).length : Nat) : Int))), (iV (((i + 1) : Int))), (iV (((min ulo z5) : Int))), (iV (((max uhi z5) : Int)))]) [(flat intC (momL x0 x1 x2 x3 x4 x5 x6 x7 st s p))])) f71r9 (@env_ok r9) ⟨enk K22, enk K21, enk K20, enk (kgtrf c7), enk (klsst c4), trivial⟩ ⟨cok K18 f71f92, trivial⟩ ⟨⟨rfl, (i).toNat * 1, rfl, fun j hj => by have hj2 : j < 1 := hj; show (flat _ _)[_ + j]? = _; match j, hj2 with | 0, _ => exact flat_getz (c := intC) (sz := 1) (fun _ => rfl) hz5 (by omega) 0 _ rfl⟩, ⟨rfl, (momL x0 x1 x2 x3 x4 x5 x6 x7 st s p).length, (i).toNat, .i64, rfl, (by show (Value.int .i64 _) = Value.int .i64 _; congr 1; omega), (by omega), rfl⟩, trivial⟩ trivial f71I30 f71I30 hat (SubOk.om rfl rfl) (LsubOk.om rfl) (fun a w hat => .inl ⟨rfl, ⟨((i + 1), (min ulo z5), (max uhi z5), true), ?_, ?_, hat⟩⟩)
        · show ((momL x0 x1 x2 x3 x4 x5 x6 x7 st s p).length - ((i + 1) : Int)).toNat < ((momL x0 x1 x2 x3 x4 x5 x6 x7 st s p).length - i).toNat
          omega
        show 0 ≤ ((i + 1) : Int) ∧ ((i + 1) : Int) ≤ (momL x0 x1 x2 x3 x4 x5 x6 x7 st s p).length ∧ rlZ (agZ x0 x1 x2 x3 x4 x5 x6 x7 st s p) f ((momL x0 x1 x2 x3 x4 x5 x6 x7 st s p).take ((i + 1) : Int).toNat) = (((min ulo z5) : Int), ((max uhi z5) : Int), (true : Bool))
        have e1 : (i + 1).toNat = i.toNat + 1 := by omega
        refine ⟨by omega, by omega, ?_⟩
        rw [e1, rlZ_snoc (by omega), i2, ← hz5]
        unfold rlStep
        rw [← hy6]
        first
          | (rw [if_pos (by omega)]; done)
          | (rw [if_neg (by omega)]; simp only [if_true, if_false, reduceCtorEq, Bool.false_eq_true, Int.min_self, Int.max_self]; done)
          | (rw [if_neg (by omega)]; simp; done)
      let d8 : List Value := (vb ++ [(iV ulo), (iV uhi)])
      let p8 : Rho := RO w0 d8 []
      refine At.go (ρ1 := p6) (ρ2 := p8) f71r10 (@env_ok p6) ⟨enk (klssf c4), trivial⟩ trivial trivial trivial f71I30 f71I35 hat (fun a w hat => .inr ⟨.inl ⟨0, rfl⟩, .inl ⟨rfl, .inl ⟨rfl, ?_⟩⟩⟩)
      refine At.lastsV (ρ1 := p8) f71r11 (@env_ok p8) trivial trivial trivial trivial f71I35 hat (fun w2 hb => ?_)
      have v0 : (ulo : Int) = (rlZ (agZ x0 x1 x2 x3 x4 x5 x6 x7 st s p) f (momL x0 x1 x2 x3 x4 x5 x6 x7 st s p)).1 := by
        rw [show i.toNat = (momL x0 x1 x2 x3 x4 x5 x6 x7 st s p).length by omega, List.take_length] at i2
        rw [i2]
        try first | rfl | (simp; done)
      have v1 : (uhi : Int) = (rlZ (agZ x0 x1 x2 x3 x4 x5 x6 x7 st s p) f (momL x0 x1 x2 x3 x4 x5 x6 x7 st s p)).2.1 := by
        rw [show i.toNat = (momL x0 x1 x2 x3 x4 x5 x6 x7 st s p).length by omega, List.take_length] at i2
        rw [i2]
        try first | rfl | (simp; done)
      have v2 : (true : Bool) = decide ((rlZ (agZ x0 x1 x2 x3 x4 x5 x6 x7 st s p) f (momL x0 x1 x2 x3 x4 x5 x6 x7 st s p)).2.2 = true) := by
        rw [show i.toNat = (momL x0 x1 x2 x3 x4 x5 x6 x7 st s p).length by omega, List.take_length] at i2
        rw [i2]
        try first | rfl | (simp; done)
      have hv := congr (congr (congrArg (fun (y0 : Int) (y1 : Int) (y2 : Bool) => ((.tuple #[(.agg #[(iV y0), (iV y1)]), (.bool y2)]) : Value)) v0) v1) v2
      exact ⟨congrArg Ending.returned hv, hb⟩
  · show 0 ≤ (0 : Int) ∧ (0 : Int) ≤ (momL x0 x1 x2 x3 x4 x5 x6 x7 st s p).length ∧ rlZ (agZ x0 x1 x2 x3 x4 x5 x6 x7 st s p) f ((momL x0 x1 x2 x3 x4 x5 x6 x7 st s p).take (0 : Int).toNat) = ((0 : Int), (0 : Int), (false : Bool))
    exact ⟨by omega, by omega, by simp [rlZ]⟩
theorem rleft2_any (x0 : Int) (x1 : Int) (x2 : Int) (x3 : Int) (x4 : Int) (x5 : Int) (x6 : Int) (x7 : Int) (ast : Option Addr) (st : List Int) (qst : Nat) (s : Src) (ap : Option Addr) (p : List Pk) (qp : Nat) (f : Int) (w0 : World) {tst : TypeId} (Hst : Lies w0 tst (flat intC st) ast st.length) {tp : TypeId} (Hp : Lies w0 tp (flat pkC p) ap p.length) (v : ModOk x0 x1 x2 x3 x4 x5 x6 x7) (hcell : 0 ≤ s.cell ∧ s.cell < x0 * x1) (hcls : 1 ≤ s.cls ∧ s.cls ≤ 10) (hst : StOk x0 x1 st) (hn1 : st.length < 1000000) (hpk : PksOk st.length p) (hpn : p.length ≤ 64) (hts : 0 ≤ s.lo ∧ s.lo ≤ s.hi ∧ s.hi ≤ 1000000000) : Calls Try.prog 71 #[(mV x0 x1 x2 x3 x4 x5 x6 x7), (.slice ast st.length qst), (.agg #[(iV s.kind), (iV s.cell), (iV s.cls), (iV s.lo), (iV s.hi)]), (.slice ap p.length qp), (iV f)] w0 (fun en w' => en = .returned (.tuple #[.agg #[iV (momZ x0 x1 x2 x3 x4 x5 x6 x7 st f p s).1, iV (momZ x0 x1 x2 x3 x4 x5 x6 x7 st f p s).2.1], .bool (decide ((momZ x0 x1 x2 x3 x4 x5 x6 x7 st f p s).2.2 = true))]) ∧ Below w0.heap.size w0 w') := rleft_any x0 x1 x2 x3 x4 x5 x6 x7 ast st qst s ap p qp f w0 Hst Hp v hcell hcls hst hn1 hpk hpn hts
end
end Go.Proofs.Ytoaehigmpbhppaa.En
namespace Go.Proofs.Ytoaehigmpbhppaa.En
open Go Go.Ev Go.Proofs Go.RowKit
/-! ### distances and strengths have their ends in order -/
theorem apart_ord {x0 x1 x2 x3 x4 x5 x6 x7 a b : Int} (v2 : 1 ≤ x2 ∧ x2 ≤ 10000) (h8 : 0 ≤ a ∧ a < 24) (h9 : 0 ≤ b ∧ b < 24) : apart0 x0 x1 x2 x3 x4 x5 x6 x7 a b ≤ apart1 x0 x1 x2 x3 x4 x5 x6 x7 a b := by
  unfold apart0 apart1
  exact Int.mul_le_mul_of_nonneg_right (by omega) (by omega)
theorem root_ord {n m : Int} (h0 : 0 ≤ n) (h1 : n ≤ m) (h2 : m ≤ 1000000000000) : rootD n ≤ rootU m := by
  obtain ⟨r, q1, q2, q3, q4⟩ := rootD_ex h0 (by omega)
  rw [rootD_eq q1 q2 q3]
  have hb := rootU_bd (n := m) (by omega) h2
  rcases Int.lt_or_le (rootU m) r with q | q
  · exfalso
    have hs := sq_lt hb.1 q
    have : m ≤ rootU m * rootU m := by
      by_cases h : rootD m * rootD m < m
      · obtain ⟨s, e1, e2, e3, e4⟩ := rootD_ex (n := m) (by omega) h2
        rw [root_up (by omega) h2 h, rootD_eq e1 e2 e3]
        omega
      · rw [root_same (by omega) h2 h]; omega
    omega
  · exact q
theorem dist_ord {x0 x1 x2 x3 x4 x5 x6 x7 x8 x9 : Int} (h : ModOk x0 x1 x2 x3 x4 x5 x6 x7) (h8 : 0 ≤ x8 ∧ x8 < x0 * x1) (h9 : 0 ≤ x9 ∧ x9 < x0 * x1) : dist0 x0 x1 x2 x3 x4 x5 x6 x7 x8 x9 ≤ dist1 x0 x1 x2 x3 x4 x5 x6 x7 x8 x9 := by
  obtain ⟨v0, v1, v2, v3, v5, v7⟩ := h
  have m8 := Int.emod_nonneg x8 (by omega : x0 ≠ 0)
  have m8' := Int.emod_lt_of_pos x8 (by omega : 0 < x0)
  have m9 := Int.emod_nonneg x9 (by omega : x0 ≠ 0)
  have m9' := Int.emod_lt_of_pos x9 (by omega : 0 < x0)
  have r8 := row_bd (a := x8) (x := x0) (y := x1) h8.1 h8.2 (by omega) (by omega)
  have r9 := row_bd (a := x9) (x := x0) (y := x1) h9.1 h9.2 (by omega) (by omega)
  have ac := apart_bd (x0 := x0) (x1 := x1) (x2 := x2) (x3 := x3) (x4 := x4) (x5 := x5) (x6 := x6) (x7 := x7) (x8 := x8 % x0) (x9 := x9 % x0) v2 (by omega) (by omega)
  have ar := apart_bd (x0 := x0) (x1 := x1) (x2 := x2) (x3 := x3) (x4 := x4) (x5 := x5) (x6 := x6) (x7 := x7) (x8 := x8 / x0) (x9 := x9 / x0) v2 (by omega) (by omega)
  have oc := apart_ord (x0 := x0) (x1 := x1) (x2 := x2) (x3 := x3) (x4 := x4) (x5 := x5) (x6 := x6) (x7 := x7) (a := x8 % x0) (b := x9 % x0) v2 (by omega) (by omega)
  have orr := apart_ord (x0 := x0) (x1 := x1) (x2 := x2) (x3 := x3) (x4 := x4) (x5 := x5) (x6 := x6) (x7 := x7) (a := x8 / x0) (b := x9 / x0) v2 (by omega) (by omega)
  have s5 := mul_bd (a := x5) (b := x5) (A := 700000) (B := 700000) (C := 490000000000) (by omega) (by omega) (by omega) (by omega)
  have s6 := mul_bd (a := x6) (b := x6) (A := 700000) (B := 700000) (C := 490000000000) (by omega) (by omega) (by omega) (by omega)
  have s56 := sq_le (a := x5) (b := x6) (by omega) (by omega)
  have c0 := mul_bd (A := 240000) (B := 240000) (C := 57600000000) ac.1.1 ac.1.2 ac.1.1 ac.1.2
  have c1 := mul_bd (A := 240000) (B := 240000) (C := 57600000000) ac.2.1 ac.2.2 ac.2.1 ac.2.2
  have c01 := sq_le ac.1.1 oc
  have e0 := mul_bd (A := 240000) (B := 240000) (C := 57600000000) ar.1.1 ar.1.2 ar.1.1 ar.1.2
  have e1 := mul_bd (A := 240000) (B := 240000) (C := 57600000000) ar.2.1 ar.2.2 ar.2.1 ar.2.2
  have e01 := sq_le ar.1.1 orr
  unfold dist0 dist1
  exact root_ord (by omega) (by omega) (by omega)
theorem lg_mono {a b : Int} (h0 : 0 < a) (h : a ≤ b) : lg a ≤ lg b := by
  unfold lg
  have : Nat.log2 a.toNat ≤ Nat.log2 b.toNat := by
    refine (Nat.le_log2 (by omega)).2 ?_
    have := Nat.log2_self_le (n := a.toNat) (by omega)
    omega
  omega
theorem fall_mono {a b : Int} (h0 : 0 ≤ a) (h : a ≤ b) : fallZ a ≤ fallZ b := by
  unfold fallZ
  have := lg_mono (a := a / 1000 + 1) (b := b / 1000 + 1) (by omega) (by omega)
  omega
theorem st_ord {x0 x1 x2 x3 x4 x5 x6 x7 cls a b : Int} (h : ModOk x0 x1 x2 x3 x4 x5 x6 x7) (h8 : 0 ≤ a ∧ a < x0 * x1) (h9 : 0 ≤ b ∧ b < x0 * x1) : stLo x0 x1 x2 x3 x4 x5 x6 x7 cls a b ≤ stHi x0 x1 x2 x3 x4 x5 x6 x7 cls a b := by
  have o := dist_ord h h8 h9
  obtain ⟨v0, v1, v2, v3, v5, v7⟩ := h
  have d := dist_bd v0 v1 v2 v3 v5 v7 h8 h9
  have := fall_mono d.1.1 o
  unfold stLo stHi
  omega
/-! ### spans and turns -/
def inSp (s : Sp) (t : Int) : Bool := decide (s.lo ≤ t ∧ t ≤ s.hi)
theorem alwB_in {x0 x1 x2 x3 x4 x5 x6 x7 : Int} {st : List Int} {s : Src} {p : Pk} {t : Int} (v : ModOk x0 x1 x2 x3 x4 x5 x6 x7) (hcell : 0 ≤ s.cell ∧ s.cell < x0 * x1) (hs : StOk x0 x1 st) (hp : pkErr st.length p = 0) (ht : 0 ≤ t ∧ t ≤ 1000000000) :
    alwB x0 x1 x2 x3 x4 x5 x6 x7 st s p t = inSp (allowOne x0 x1 x2 x3 x4 x5 x6 x7 s.cell s.cls st p) t := by
  obtain ⟨h1, h2, h3, h4⟩ := pkErr_ok hp
  have hb := hs p.station.toNat (by omega)
  have tb := tr_bd v hcell (x9 := st.getD p.station.toNat 0) (by omega)
  have so := st_ord (cls := s.cls) v hcell (b := st.getD p.station.toNat 0) (by omega)
  unfold alwB inSp allowOne
  dsimp only
  by_cases k1 : p.kind = 1
  · rw [if_pos k1, if_pos k1]
    exact decide_eq_decide.2 (by dsimp only; omega)
  · rw [if_neg k1, if_neg k1]
    by_cases k2 : p.kind = 2
    · rw [if_pos k2, if_pos k2]
      have := h3 k2
      split
      · exact decide_eq_decide.2 (by dsimp only; omega)
      · exact decide_eq_decide.2 (by dsimp only; omega)
    · rw [if_neg k2, if_neg k2]
      exact decide_eq_decide.2 (by dsimp only; omega)
/-- How many more there are at a time. -/
def cntT : List Tn → Int → Int
  | [], _ => 0
  | u :: L, t => (if u.time ≤ t then u.more else 0) + cntT L t
theorem cntT_app {t : Int} : ∀ {L M : List Tn}, cntT (L ++ M) t = cntT L t + cntT M t
  | [], M => by simp [cntT]
  | u :: L, M => by simp only [List.cons_append, cntT]; rw [cntT_app]; omega
theorem cntT_perm {t : Int} {L M : List Tn} (h : L.Perm M) : cntT L t = cntT M t := by
  induction h with
  | nil => rfl
  | cons x _ ih => simp only [cntT]; omega
  | swap x y l => simp only [cntT]; omega
  | trans _ _ h1 h2 => exact h1.trans h2
def outN (l : List Sp) (t : Int) : Int := ((l.filter (fun s => !inSp s t)).length : Nat)
theorem cntT_raw {t0 t1 t : Int} (ht : t0 ≤ t ∧ t ≤ t1) : ∀ l : List Sp, (l.length : Int) + cntT (rawT t0 t1 l) t = outN l t
  | [] => by simp [rawT, cntT, outN]
  | s :: l => by
    have ih := cntT_raw ht l
    have e : rawT t0 t1 (s :: l) = rawOne t0 t1 s ++ rawT t0 t1 l := by simp [rawT]
    rw [e, cntT_app]
    have h1 : (1 : Int) + cntT (rawOne t0 t1 s) t = if inSp s t = true then 0 else 1 := by
      unfold rawOne inSp
      by_cases hm : max t0 s.lo ≤ min t1 s.hi
      · rw [if_pos hm]
        simp only [cntT, decide_eq_true_eq]
        repeat' split
        all_goals omega
      · rw [if_neg hm]
        simp only [cntT, decide_eq_true_eq]
        split <;> omega
    unfold outN at ih ⊢
    rw [List.filter_cons]
    cases hi : inSp s t with
    | true => rw [hi] at h1; simp at h1 ⊢; omega
    | false => rw [hi] at h1; simp at h1 ⊢; omega
/-! ### the least and the greatest time -/
theorem posF_ok {t1 f : Int} : ∀ (L : List Tn) (start wrong : Int) (p : Int × Int), (∀ u ∈ L, start ≤ u.time ∧ u.time ≤ t1 + 1) → L.Pairwise (fun a b => a.time ≤ b.time) →
    ((∀ t, start ≤ t ∧ t ≤ t1 → f < wrong + cntT L t) ∧ posF t1 f start wrong p L = p) ∨
    ∃ g M, (start ≤ g ∧ g ≤ t1) ∧ wrong + cntT L g ≤ f ∧ (start ≤ M ∧ M ≤ t1) ∧ wrong + cntT L M ≤ f ∧ (∀ t, start ≤ t ∧ t ≤ t1 → wrong + cntT L t ≤ f → g ≤ t ∧ t ≤ M) ∧ posF t1 f start wrong p L = (min p.1 g, M)
  | [], start, wrong, p, _, _ => by
    unfold posF
    by_cases h : start ≤ t1 ∧ wrong ≤ f
    · rw [if_pos h]
      exact .inr ⟨start, t1, ⟨by omega, h.1⟩, by simp [cntT]; omega, ⟨by omega, by omega⟩, by simp [cntT]; omega, fun t ht _ => ht, rfl⟩
    · rw [if_neg h]
      exact .inl ⟨fun t ht => by simp only [cntT]; omega, rfl⟩
  | u :: L, start, wrong, p, hb, hs => by
    have hu := hb u (by simp)
    have hL : ∀ x ∈ L, u.time ≤ x.time ∧ x.time ≤ t1 + 1 := fun x hx => ⟨(List.pairwise_cons.1 hs).1 x hx, (hb x (by simp [hx])).2⟩
    have hsmall : ∀ t, t < u.time → cntT (u :: L) t = 0 := by
      intro t ht
      have key : ∀ K : List Tn, (∀ x ∈ K, t < x.time) → cntT K t = 0 := by
        intro K
        induction K with
        | nil => intro _; rfl
        | cons x K ih => intro hK; simp only [cntT]; rw [ih (fun y hy => hK y (by simp [hy])), if_neg (by have := hK x (by simp); omega)]; rfl
      exact key _ (fun x hx => by
        rcases List.mem_cons.1 hx with rfl | hx
        · exact ht
        · have := (hL x hx).1; omega)
    have hbig : ∀ t, u.time ≤ t → wrong + cntT (u :: L) t = (wrong + u.more) + cntT L t := by
      intro t ht
      simp only [cntT]; rw [if_pos ht]; omega
    unfold posF
    have IH := fun p' => posF_ok (f := f) L u.time (wrong + u.more) p' hL (List.pairwise_cons.1 hs).2
    by_cases h : start < u.time ∧ wrong ≤ f
    · rw [if_pos h]
      rcases IH (min p.1 start, u.time - 1) with ⟨h1, h2⟩ | ⟨g, M, h1, h2, h3, h4, h5, h6⟩
      · rw [h2]
        refine .inr ⟨start, u.time - 1, by omega, by rw [hsmall _ h.1]; omega, by omega, by rw [hsmall _ (by omega)]; omega, fun t ht hn => ⟨ht.1, ?_⟩, rfl⟩
        rcases Int.lt_or_le t u.time with q | q
        · omega
        · rw [hbig t q] at hn; have := h1 t ⟨q, ht.2⟩; omega
      · rw [h6]
        refine .inr ⟨start, M, by omega, by rw [hsmall _ h.1]; omega, by omega, by rw [hbig M h3.1]; exact h4, fun t ht hn => ⟨ht.1, ?_⟩, ?_⟩
        · rcases Int.lt_or_le t u.time with q | q
          · omega
          · rw [hbig t q] at hn; exact (h5 t ⟨q, ht.2⟩ hn).2
        · simp only [Prod.mk.injEq, and_true]; omega
    · rw [if_neg h]
      have hno : ∀ t, start ≤ t → t < u.time → f < wrong + cntT (u :: L) t := by
        intro t a b
        rw [hsmall t b]; omega
      rcases IH p with ⟨h1, h2⟩ | ⟨g, M, h1, h2, h3, h4, h5, h6⟩
      · refine .inl ⟨fun t ht => ?_, h2⟩
        rcases Int.lt_or_le t u.time with q | q
        · exact hno t ht.1 q
        · rw [hbig t q]; exact h1 t ⟨q, ht.2⟩
      · refine .inr ⟨g, M, by omega, by rw [hbig g h1.1]; exact h2, by omega, by rw [hbig M h3.1]; exact h4, fun t ht hn => ?_, h6⟩
        rcases Int.lt_or_le t u.time with q | q
        · have := hno t ht.1 q; omega
        · rw [hbig t q] at hn; exact h5 t ⟨q, ht.2⟩ hn
theorem sortT_pair {L : List Tn} : (sortT L).Pairwise (fun a b => a.time ≤ b.time) := by
  refine List.pairwise_iff_getElem.2 (fun i j hi hj hij => ?_)
  have := sortT_asc L hij (by rw [← sortT_len L]; exact hj)
  simpa [List.getD, List.getElem?_eq_getElem hi, List.getElem?_eq_getElem hj] using this
theorem posZ_ok {t0 t1 f : Int} {l : List Sp} (ht : 0 ≤ t0 ∧ t0 ≤ t1 ∧ t1 ≤ 1000000000) :
    ((∀ t, t0 ≤ t ∧ t ≤ t1 → f < outN l t) ∧ posZ t0 t1 f l = (1099511627776, 0)) ∨
    ∃ g M, (t0 ≤ g ∧ g ≤ t1) ∧ outN l g ≤ f ∧ (t0 ≤ M ∧ M ≤ t1) ∧ outN l M ≤ f ∧ (∀ t, t0 ≤ t ∧ t ≤ t1 → outN l t ≤ f → g ≤ t ∧ t ≤ M) ∧ posZ t0 t1 f l = (g, M) := by
  have hp := sortT_perm (L := rawT t0 t1 l) (fun t h => (rawT_in ht t h).1)
  have hc : ∀ t, t0 ≤ t ∧ t ≤ t1 → (l.length : Int) + cntT (turnsL t0 t1 l) t = outN l t := fun t h => by
    unfold turnsL; rw [cntT_perm hp]; exact cntT_raw h l
  have hbd : ∀ u ∈ turnsL t0 t1 l, t0 ≤ u.time ∧ u.time ≤ t1 + 1 := by
    intro u hu
    have hm := hp.mem_iff.1 hu
    simp only [rawT, List.mem_flatMap] at hm
    obtain ⟨s, _, hs⟩ := hm
    unfold rawOne at hs
    split at hs
    · simp only [List.mem_cons, List.not_mem_nil, or_false] at hs
      rcases hs with hs | hs <;> rw [hs] <;> dsimp only <;> omega
    · simp at hs
  rcases posF_ok (f := f) (turnsL t0 t1 l) t0 l.length (1099511627776, 0) hbd sortT_pair with ⟨h1, h2⟩ | ⟨g, M, h1, h2, h3, h4, h5, h6⟩
  · exact .inl ⟨fun t h => by rw [← hc t h]; exact h1 t h, h2⟩
  · refine .inr ⟨g, M, h1, by rw [← hc g h1]; exact h2, h3, by rw [← hc M h3]; exact h4, fun t h hn => h5 t h (by rw [hc t h]; exact hn), ?_⟩
    unfold posZ; rw [h6]
    simp only [Prod.mk.injEq, and_true]; omega
/-! ### the same over a list of times -/
theorem rlZ_ok {ag : Int → Int} {f : Int} : ∀ (l : List Int) (a : Int × Int × Bool) (pre : List Int),
    (a.2.2 = false → ∀ t ∈ pre, f < ag t) → (a.2.2 = true → (a.1 ∈ pre ∧ ag a.1 ≤ f) ∧ (a.2.1 ∈ pre ∧ ag a.2.1 ≤ f) ∧ ∀ t ∈ pre, ag t ≤ f → a.1 ≤ t ∧ t ≤ a.2.1) →
    let r := l.foldl (rlStep ag f) a
    (r.2.2 = false → ∀ t ∈ pre ++ l, f < ag t) ∧ (r.2.2 = true → (r.1 ∈ pre ++ l ∧ ag r.1 ≤ f) ∧ (r.2.1 ∈ pre ++ l ∧ ag r.2.1 ≤ f) ∧ ∀ t ∈ pre ++ l, ag t ≤ f → r.1 ≤ t ∧ t ≤ r.2.1)
  | [], a, pre, h0, h1 => by simpa using ⟨h0, h1⟩
  | x :: l, a, pre, h0, h1 => by
    have e : pre ++ x :: l = (pre ++ [x]) ++ l := by simp
    rw [e, List.foldl_cons]
    refine rlZ_ok l (rlStep ag f a x) (pre ++ [x]) (fun hf t ht => ?_) (fun hf => ?_)
    · unfold rlStep at hf
      rcases List.mem_append.1 ht with ht | ht
      · split at hf
        · exact h0 hf t ht
        · split at hf <;> cases hf
      · have ht : t = x := by simpa using ht
        subst ht
        split at hf
        · assumption
        · split at hf <;> cases hf
    · unfold rlStep at hf ⊢
      by_cases hx : f < ag x
      · rw [if_pos hx] at hf ⊢
        obtain ⟨⟨p1, p2⟩, ⟨p3, p4⟩, p5⟩ := h1 hf
        refine ⟨⟨List.mem_append_left _ p1, p2⟩, ⟨List.mem_append_left _ p3, p4⟩, fun t ht hn => ?_⟩
        rcases List.mem_append.1 ht with ht | ht
        · exact p5 t ht hn
        · have ht : t = x := by simpa using ht
          subst ht; omega
      · rw [if_neg hx] at hf ⊢
        have hxm : x ∈ pre ++ [x] := by simp
        by_cases ha : a.2.2 = true
        · rw [if_pos ha] at hf ⊢
          obtain ⟨⟨p1, p2⟩, ⟨p3, p4⟩, p5⟩ := h1 ha
          dsimp only
          refine ⟨?_, ?_, fun t ht hn => ?_⟩
          · rcases Int.le_total a.1 x with q | q
            · rw [Int.min_eq_left q]; exact ⟨List.mem_append_left _ p1, p2⟩
            · rw [Int.min_eq_right q]; exact ⟨hxm, by omega⟩
          · rcases Int.le_total a.2.1 x with q | q
            · rw [Int.max_eq_right q]; exact ⟨hxm, by omega⟩
            · rw [Int.max_eq_left q]; exact ⟨List.mem_append_left _ p3, p4⟩
          · rcases List.mem_append.1 ht with ht | ht
            · have := p5 t ht hn; omega
            · have ht : t = x := by simpa using ht
              subst ht; omega
        · rw [if_neg ha] at hf ⊢
          have ha' : a.2.2 = false := by simpa using ha
          dsimp only
          refine ⟨⟨hxm, by omega⟩, ⟨hxm, by omega⟩, fun t ht hn => ?_⟩
          rcases List.mem_append.1 ht with ht | ht
          · have := h0 ha' t ht; omega
          · have ht : t = x := by simpa using ht
            subst ht; omega
/-! ### moments are enough -/
theorem agZ_out {x0 x1 x2 x3 x4 x5 x6 x7 : Int} {st : List Int} {s : Src} {t : Int} (v : ModOk x0 x1 x2 x3 x4 x5 x6 x7) (hcell : 0 ≤ s.cell ∧ s.cell < x0 * x1) (hs : StOk x0 x1 st) (ht : 0 ≤ t ∧ t ≤ 1000000000) : ∀ {p : List Pk}, (∀ q ∈ p, pkErr st.length q = 0) →
    agZ x0 x1 x2 x3 x4 x5 x6 x7 st s p t = outN (allowL x0 x1 x2 x3 x4 x5 x6 x7 s.cell s.cls st p) t
  | [], _ => rfl
  | q :: p, hp => by
    have ih := agZ_out v hcell hs ht (p := p) (fun x hx => hp x (by simp [hx]))
    have e := alwB_in (s := s) v hcell hs (hp q (by simp)) ht
    unfold agZ outN allowL at *
    rw [List.map_cons, List.filter_cons, List.filter_cons, e]
    cases inSp (allowOne x0 x1 x2 x3 x4 x5 x6 x7 s.cell s.cls st q) t <;> simp at ih ⊢ <;> omega
/-- A pick that allows the one time and not the other. -/
theorem agZ_turn {x0 x1 x2 x3 x4 x5 x6 x7 : Int} {st : List Int} {s : Src} {t u : Int} : ∀ {p : List Pk}, agZ x0 x1 x2 x3 x4 x5 x6 x7 st s p t < agZ x0 x1 x2 x3 x4 x5 x6 x7 st s p u → ∃ q ∈ p, alwB x0 x1 x2 x3 x4 x5 x6 x7 st s q t = true ∧ alwB x0 x1 x2 x3 x4 x5 x6 x7 st s q u = false
  | [], h => by simp [agZ] at h
  | q :: p, h => by
    by_cases hq : alwB x0 x1 x2 x3 x4 x5 x6 x7 st s q t = true ∧ alwB x0 x1 x2 x3 x4 x5 x6 x7 st s q u = false
    · exact ⟨q, by simp, hq⟩
    · have ih := agZ_turn (x0 := x0) (x1 := x1) (x2 := x2) (x3 := x3) (x4 := x4) (x5 := x5) (x6 := x6) (x7 := x7) (st := st) (s := s) (t := t) (u := u) (p := p) (by
        unfold agZ at h ⊢
        rw [List.filter_cons, List.filter_cons] at h
        cases e1 : alwB x0 x1 x2 x3 x4 x5 x6 x7 st s q t <;> cases e2 : alwB x0 x1 x2 x3 x4 x5 x6 x7 st s q u <;> simp [e1, e2] at hq h ⊢ <;> omega)
      obtain ⟨r, r1, r2⟩ := ih
      exact ⟨r, by simp [r1], r2⟩
theorem mom_mem {x0 x1 x2 x3 x4 x5 x6 x7 : Int} {st : List Int} {s : Src} {p : List Pk} {q : Pk} {t : Int} (hq : q ∈ p) (h : t ∈ momOne x0 x1 x2 x3 x4 x5 x6 x7 st s q) : t ∈ momL x0 x1 x2 x3 x4 x5 x6 x7 st s p := by
  unfold momL
  exact List.mem_append_right _ (List.mem_flatMap.2 ⟨q, hq, h⟩)
theorem mom_least {x0 x1 x2 x3 x4 x5 x6 x7 : Int} {st : List Int} {s : Src} {p : List Pk} {t : Int} (v : ModOk x0 x1 x2 x3 x4 x5 x6 x7) (hcell : 0 ≤ s.cell ∧ s.cell < x0 * x1) (hs : StOk x0 x1 st) (hp : ∀ q ∈ p, pkErr st.length q = 0) (hts : 0 ≤ s.lo ∧ s.lo ≤ s.hi ∧ s.hi ≤ 1000000000)
    (ht : s.lo ≤ t ∧ t ≤ s.hi) (h : s.lo < t → agZ x0 x1 x2 x3 x4 x5 x6 x7 st s p t < agZ x0 x1 x2 x3 x4 x5 x6 x7 st s p (t - 1)) : t ∈ momL x0 x1 x2 x3 x4 x5 x6 x7 st s p := by
  rcases Int.lt_or_le s.lo t with q | q
  · obtain ⟨r, r1, r2, r3⟩ := agZ_turn (h q)
    obtain ⟨k1, k2, k3, k4⟩ := pkErr_ok (hp r r1)
    have hb := hs r.station.toNat (by omega)
    have tb := tr_bd v hcell (x9 := st.getD r.station.toNat 0) (by omega)
    refine mom_mem r1 ?_
    unfold alwB at r2 r3
    unfold momOne
    by_cases e1 : r.kind = 1
    · rw [if_pos e1] at r2 r3
      have r2 := of_decide_eq_true r2
      have r3 := of_decide_eq_false r3
      have k4 := k4 (by omega)
      have e : t = r.t0 - trHi x0 x1 x2 x3 x4 x5 x6 x7 s.cell (st.getD r.station.toNat 0) := by omega
      rw [wr_in (x := r.t0 - trHi x0 x1 x2 x3 x4 x5 x6 x7 s.cell (st.getD r.station.toNat 0)) (by omega), ← e]
      exact List.mem_filter.2 ⟨by simp, decide_eq_true ht⟩
    · rw [if_neg e1] at r2 r3
      by_cases e2 : r.kind = 2
      · rw [if_pos e2] at r2 r3
        rw [r2] at r3; cases r3
      · rw [if_neg e2] at r2 r3
        have r2 := of_decide_eq_true r2
        have r3 := of_decide_eq_false r3
        have k4 := k4 (by omega)
        have e : t = r.t0 - trHi x0 x1 x2 x3 x4 x5 x6 x7 s.cell (st.getD r.station.toNat 0) + 1 := by omega
        rw [wr_in (x := r.t0 - trHi x0 x1 x2 x3 x4 x5 x6 x7 s.cell (st.getD r.station.toNat 0)) (by omega), wr_in (x := r.t0 - trHi x0 x1 x2 x3 x4 x5 x6 x7 s.cell (st.getD r.station.toNat 0) + 1) (by omega), ← e]
        exact List.mem_filter.2 ⟨by simp, decide_eq_true ht⟩
  · unfold momL
    exact List.mem_append_left _ (by simp; omega)
theorem mom_greatest {x0 x1 x2 x3 x4 x5 x6 x7 : Int} {st : List Int} {s : Src} {p : List Pk} {t : Int} (v : ModOk x0 x1 x2 x3 x4 x5 x6 x7) (hcell : 0 ≤ s.cell ∧ s.cell < x0 * x1) (hs : StOk x0 x1 st) (hp : ∀ q ∈ p, pkErr st.length q = 0) (hts : 0 ≤ s.lo ∧ s.lo ≤ s.hi ∧ s.hi ≤ 1000000000)
    (ht : s.lo ≤ t ∧ t ≤ s.hi) (h : t < s.hi → agZ x0 x1 x2 x3 x4 x5 x6 x7 st s p t < agZ x0 x1 x2 x3 x4 x5 x6 x7 st s p (t + 1)) : t ∈ momL x0 x1 x2 x3 x4 x5 x6 x7 st s p := by
  rcases Int.lt_or_le t s.hi with q | q
  · obtain ⟨r, r1, r2, r3⟩ := agZ_turn (h q)
    obtain ⟨k1, k2, k3, k4⟩ := pkErr_ok (hp r r1)
    have hb := hs r.station.toNat (by omega)
    have tb := tr_bd v hcell (x9 := st.getD r.station.toNat 0) (by omega)
    refine mom_mem r1 ?_
    unfold alwB at r2 r3
    unfold momOne
    by_cases e1 : r.kind = 1
    · rw [if_pos e1] at r2 r3
      have r2 := of_decide_eq_true r2
      have r3 := of_decide_eq_false r3
      have k4 := k4 (by omega)
      have e : t = r.t1 - trLo x0 x1 x2 x3 x4 x5 x6 x7 s.cell (st.getD r.station.toNat 0) := by omega
      rw [wr_in (x := r.t1 - trLo x0 x1 x2 x3 x4 x5 x6 x7 s.cell (st.getD r.station.toNat 0)) (by omega), ← e]
      exact List.mem_filter.2 ⟨by simp, decide_eq_true ht⟩
    · rw [if_neg e1] at r2 r3
      by_cases e2 : r.kind = 2
      · rw [if_pos e2] at r2 r3
        rw [r2] at r3; cases r3
      · rw [if_neg e2] at r2 r3
        have r2 := of_decide_eq_true r2
        have r3 := of_decide_eq_false r3
        omega
  · unfold momL
    exact List.mem_append_left _ (by simp; omega)
theorem left_one {x0 x1 x2 x3 x4 x5 x6 x7 : Int} {st : List Int} {s : Src} {p : List Pk} {f : Int} (v : ModOk x0 x1 x2 x3 x4 x5 x6 x7) (hcell : 0 ≤ s.cell ∧ s.cell < x0 * x1) (hs : StOk x0 x1 st) (hp : ∀ q ∈ p, pkErr st.length q = 0) (hts : 0 ≤ s.lo ∧ s.lo ≤ s.hi ∧ s.hi ≤ 1000000000) :
    leftOne x0 x1 x2 x3 x4 x5 x6 x7 st f p s = refOne x0 x1 x2 x3 x4 x5 x6 x7 st f p s := by
  unfold leftOne refOne
  by_cases hk : s.kind = 1
  case neg => rw [if_neg hk, if_neg hk, if_pos hts.2.1]
  rw [if_pos hk, if_pos hk]
  have hag : ∀ t, s.lo ≤ t ∧ t ≤ s.hi → agZ x0 x1 x2 x3 x4 x5 x6 x7 st s p t = outN (allowL x0 x1 x2 x3 x4 x5 x6 x7 s.cell s.cls st p) t := fun t h => agZ_out v hcell hs (by omega) hp
  have hin := momL_in (x0 := x0) (x1 := x1) (x2 := x2) (x3 := x3) (x4 := x4) (x5 := x5) (x6 := x6) (x7 := x7) (st := st) (s := s) (p := p) hts.2.1
  have hr := rlZ_ok (ag := agZ x0 x1 x2 x3 x4 x5 x6 x7 st s p) (f := f) (momL x0 x1 x2 x3 x4 x5 x6 x7 st s p) (0, 0, false) [] (fun _ t ht => by simp at ht) (fun h => by simp at h)
  have er : (momL x0 x1 x2 x3 x4 x5 x6 x7 st s p).foldl (rlStep (agZ x0 x1 x2 x3 x4 x5 x6 x7 st s p) f) (0, 0, false) = momZ x0 x1 x2 x3 x4 x5 x6 x7 st f p s := rfl
  rw [er] at hr
  simp only [List.nil_append] at hr
  obtain ⟨r0, r1⟩ := hr
  generalize momZ x0 x1 x2 x3 x4 x5 x6 x7 st f p s = Z at r0 r1 ⊢
  rcases posZ_ok (f := f) (l := allowL x0 x1 x2 x3 x4 x5 x6 x7 s.cell s.cls st p) hts with ⟨h1, h2⟩ | ⟨g, M, h1, h2, h3, h4, h5, h6⟩
  · rw [h2]
    have hz : ¬ Z.2.2 = true := fun hz => by
      obtain ⟨⟨q1, q2⟩, _⟩ := r1 hz
      have := hin _ q1
      have := h1 _ this
      rw [hag _ (hin _ q1)] at q2
      omega
    rw [if_neg hz, if_neg (by decide)]
  · rw [h6]
    rw [← hag g h1] at h2
    rw [← hag M h3] at h4
    have hg : g ∈ momL x0 x1 x2 x3 x4 x5 x6 x7 st s p := mom_least v hcell hs hp hts h1 (fun q => by
      rcases Int.lt_or_le f (agZ x0 x1 x2 x3 x4 x5 x6 x7 st s p (g - 1)) with k | k
      · omega
      · have := h5 (g - 1) (by omega) (by rw [← hag (g - 1) (by omega)]; exact k); omega)
    have hM : M ∈ momL x0 x1 x2 x3 x4 x5 x6 x7 st s p := mom_greatest v hcell hs hp hts h3 (fun q => by
      rcases Int.lt_or_le f (agZ x0 x1 x2 x3 x4 x5 x6 x7 st s p (M + 1)) with k | k
      · omega
      · have := h5 (M + 1) (by omega) (by rw [← hag (M + 1) (by omega)]; exact k); omega)
    have hz : Z.2.2 = true := by
      cases e : Z.2.2 with
      | true => rfl
      | false => have := r0 e g hg; omega
    obtain ⟨⟨q1, q2⟩, ⟨q3, q4⟩, q5⟩ := r1 hz
    have a1 := h5 Z.1 (hin _ q1) (by rw [← hag _ (hin _ q1)]; exact q2)
    have a2 := h5 Z.2.1 (hin _ q3) (by rw [← hag _ (hin _ q3)]; exact q4)
    have a3 := q5 g hg h2
    have a4 := q5 M hM h4
    have b1 : Z.1 = g := by omega
    have b2 : Z.2.1 = M := by omega
    have hgM := (h5 g h1 (by rw [← hag g h1]; exact h2)).2
    rw [if_pos hz, b1, b2, if_pos hgM]
end Go.Proofs.Ytoaehigmpbhppaa.En
