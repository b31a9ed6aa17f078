/-
  The specification: CheckSources.
-/
import Derived.Test.YtoaehigmpbhppaaW0
namespace Go.Proofs.Ytoaehigmpbhppaa.En
open Go Go.Ev Go.Proofs Go.RowKit
set_option linter.unusedSimpArgs false
set_option linter.unusedVariables false
noncomputable def rcheckSources_b0 : Code := (Try.f25.body).getD .skip

noncomputable def rcheckSources_fr0 : Fr := mkFr Try.f25 [(0, (.agg #[(.chan (.some 0)), (.chan (.some 1)), (.chan (.some 2)), (.chan (.some 3)), (.chan (.some 4)), (.chan (.some 5)), (.chan (.some 6)), (.chan (.some 7))])), (1, (.chan (.some 8)))] []
noncomputable def rcheckSources_st0 : St := mkSt 0 []
theorem rcheckSources_wf0 : rcheckSources_st0.Wf := mkSt_wf rfl
set_option maxRecDepth 1000000 in
theorem rcheckSources_id0 : agreeL [sy 0, sy 1, sy 2, sy 3, sy 4, sy 5, sy 6, sy 7, sy 8] [] [] rcheckSources_fr0 rcheckSources_st0 rcheckSources_fr0 rcheckSources_st0 = true := by kernel_rfl

set_option maxRecDepth 1000000 in
theorem rcheckSources_a0 : agreeL [sy 0, sy 1, sy 2, sy 3, sy 4, sy 5, sy 6, sy 7, sy 8] [] [] rcheckSources_fr0 rcheckSources_st0 (frameOf Try.f25 [(.agg #[(.chan (.some 0)), (.chan (.some 1)), (.chan (.some 2)), (.chan (.some 3)), (.chan (.some 4)), (.chan (.some 5)), (.chan (.some 6)), (.chan (.some 7))]), (.chan (.some 8))]) Ev.start = true := by kernel_rfl

noncomputable def rcheckSources_e0 : List Ent := [⟨(.bin .neq 27), [(sy 9), (.int .i64 0)], (.bool true)⟩]
noncomputable def rcheckSources_c0 : List CEnt := [⟨19, [(.agg #[(sy 0), (sy 1), (sy 2), (sy 3), (sy 4), (sy 5), (sy 6), (sy 7)])], [], (sy 9)⟩]
noncomputable def rcheckSources_l0 : List LEnt := []
noncomputable def rcheckSources_cl0 : List CLEnt := []

set_option maxRecDepth 1000000 in
theorem rcheckSources_r0 : ev Try.prog (env.symL rcheckSources_e0 rcheckSources_c0 rcheckSources_l0 rcheckSources_cl0) 3000 (.code rcheckSources_b0 none rcheckSources_fr0 rcheckSources_st0 (retK (env.symL rcheckSources_e0 rcheckSources_c0 rcheckSources_l0 rcheckSources_cl0) Try.f25 (endV (sy 9)))) = some () := by kernel_rfl

noncomputable def rcheckSources_e1 : List Ent := [⟨(.bin .neq 27), [(sy 9), (.int .i64 0)], (.bool false)⟩]
noncomputable def rcheckSources_c1 : List CEnt := [⟨19, [(.agg #[(sy 0), (sy 1), (sy 2), (sy 3), (sy 4), (sy 5), (sy 6), (sy 7)])], [], (sy 9)⟩, ⟨63, [(.agg #[(sy 0), (sy 1), (sy 2), (sy 3), (sy 4), (sy 5), (sy 6), (sy 7)]), (sy 8)], [], (sy 10)⟩]
noncomputable def rcheckSources_l1 : List LEnt := []
noncomputable def rcheckSources_cl1 : List CLEnt := []

set_option maxRecDepth 1000000 in
theorem rcheckSources_r1 : ev Try.prog (env.symL rcheckSources_e1 rcheckSources_c1 rcheckSources_l1 rcheckSources_cl1) 3000 (.code rcheckSources_b0 none rcheckSources_fr0 rcheckSources_st0 (retK (env.symL rcheckSources_e1 rcheckSources_c1 rcheckSources_l1 rcheckSources_cl1) Try.f25 (endV (sy 10)))) = some () := by kernel_rfl

set_option maxHeartbeats 8000000 in
set_option maxRecDepth 100000 in
theorem rcheckSources_any (x0 : Int) (x1 : Int) (x2 : Int) (x3 : Int) (x4 : Int) (x5 : Int) (x6 : Int) (x7 : Int) (al : Option Addr) (l : List Src) (ql : Nat) (w0 : World) {tl : TypeId} (Hl : Lies w0 tl (flat srcC l) al l.length) (hn : l.length < 1000000) : Calls Try.prog 25 #[(.agg #[(.int .i64 (x0)), (.int .i64 (x1)), (.int .i64 (x2)), (.int .i64 (x3)), (.int .i64 (x4)), (.int .i64 (x5)), (.int .i64 (x6)), (.int .i64 (x7))]), (.slice al l.length ql)] w0 (fun en w' => en = .returned (.int .i64 (csErr x0 x1 x2 x3 x4 x5 x6 x7 l)) ∧ Below w0.heap.size w0 w') := by
  refine @calls_of_body (Rho.of [(.int .i64 (x0)), (.int .i64 (x1)), (.int .i64 (x2)), (.int .i64 (x3)), (.int .i64 (x4)), (.int .i64 (x5)), (.int .i64 (x6)), (.int .i64 (x7)), (.slice al l.length ql)] (fun b => w0.heap[b]?) []) Try.prog env (@env_ok (Rho.of [(.int .i64 (x0)), (.int .i64 (x1)), (.int .i64 (x2)), (.int .i64 (x3)), (.int .i64 (x4)), (.int .i64 (x5)), (.int .i64 (x6)), (.int .i64 (x7)), (.slice al l.length ql)] (fun b => w0.heap[b]?) [])) 25 Try.f25 rcheckSources_b0 [(.agg #[(.chan (.some 0)), (.chan (.some 1)), (.chan (.some 2)), (.chan (.some 3)), (.chan (.some 4)), (.chan (.some 5)), (.chan (.some 6)), (.chan (.some 7))]), (.chan (.some 8))] w0 _ (by kernel_rfl) (by kernel_rfl) (of_decide_eq_true (by kernel_rfl)) (of_decide_eq_true (by kernel_rfl)) rfl (fun _ _ h => h) (fun a hat0 => ?_)
  have hat : @At (Rho.of [(.int .i64 (x0)), (.int .i64 (x1)), (.int .i64 (x2)), (.int .i64 (x3)), (.int .i64 (x4)), (.int .i64 (x5)), (.int .i64 (x6)), (.int .i64 (x7)), (.slice al l.length ql)] (fun b => w0.heap[b]?) []) w0 rcheckSources_fr0 rcheckSources_st0 a w0 := At.shiftL (σ := [sy 0, sy 1, sy 2, sy 3, sy 4, sy 5, sy 6, sy 7, sy 8]) (π := []) (τ := []) ⟨rfl, rfl, rfl, rfl, rfl, rfl, rfl, rfl, rfl, rfl, rfl, rfl, rfl, rfl, rfl, rfl, rfl, rfl, trivial⟩ trivial (fun _ _ h => h) rcheckSources_wf0 rcheckSources_a0 hat0
  clear hat0
  suffices key : ∀ w, @At (Rho.of [(.int .i64 (x0)), (.int .i64 (x1)), (.int .i64 (x2)), (.int .i64 (x3)), (.int .i64 (x4)), (.int .i64 (x5)), (.int .i64 (x6)), (.int .i64 (x7)), (.slice al l.length ql)] (fun b => w0.heap[b]?) []) w0 rcheckSources_fr0 rcheckSources_st0 a w → rcheckSources_b0.wpIn (FF none) 0 Try.prog (bodyPostM Fence.wide 0 Try.prog Try.f25 (fun en w' => en = .returned (.int .i64 (csErr x0 x1 x2 x3 x4 x5 x6 x7 l)) ∧ Below w0.heap.size w0 w')) a w from key w0 hat
  clear hat
  intro w hat
  let p0 : Rho := (Rho.of [(.int .i64 (x0)), (.int .i64 (x1)), (.int .i64 (x2)), (.int .i64 (x3)), (.int .i64 (x4)), (.int .i64 (x5)), (.int .i64 (x6)), (.int .i64 (x7)), (.slice al l.length ql)] (fun b => w0.heap[b]?) [])
  change @At p0 w0 rcheckSources_fr0 rcheckSources_st0 a w at hat
  by_cases c0 : (qcheck0 (x0) (x1) (x2) (x3) (x4) (x5) (x6) (x7)) ≠ 0
  · let r0 : Rho := (Rho.of [(.int .i64 (x0)), (.int .i64 (x1)), (.int .i64 (x2)), (.int .i64 (x3)), (.int .i64 (x4)), (.int .i64 (x5)), (.int .i64 (x6)), (.int .i64 (x7)), (.slice al l.length ql), (.int .i64 ((qcheck0 (x0) (x1) (x2) (x3) (x4) (x5) (x6) (x7))))] (fun b => w0.heap[b]?) [])
    have hat1 : @At r0 w0 rcheckSources_fr0 rcheckSources_st0 a w := At.shiftL (ρ1 := p0) (ρ2 := r0) (σ := [sy 0, sy 1, sy 2, sy 3, sy 4, sy 5, sy 6, sy 7, sy 8]) (π := []) (τ := []) ⟨rfl, rfl, rfl, rfl, rfl, rfl, rfl, rfl, rfl, rfl, rfl, rfl, rfl, rfl, rfl, rfl, rfl, rfl, trivial⟩ trivial (fun _ _ h => h) rcheckSources_wf0 rcheckSources_id0 hat
    refine @At.lastK r0 Try.prog (env.symL rcheckSources_e0 rcheckSources_c0 rcheckSources_l0 rcheckSources_cl0) (@Env.Ok.symL r0 _ _ (@env_ok r0) rcheckSources_e0 rcheckSources_c0 rcheckSources_l0 rcheckSources_cl0 ⟨⟨rfl, rfl, fun w hm => (show KeyOk Try.prog w (.bin .neq 27) [(.int .i64 ((qcheck0 (x0) (x1) (x2) (x3) (x4) (x5) (x6) (x7)))), (.int .i64 0)] (.bool true) from k_neq_t c0)⟩, trivial⟩ ⟨(@CEntOk.of r0 Try.prog _ 19 [(.agg #[(sy 0), (sy 1), (sy 2), (sy 3), (sy 4), (sy 5), (sy 6), (sy 7)])] (sy 9) #[(.agg #[(.int .i64 (x0)), (.int .i64 (x1)), (.int .i64 (x2)), (.int .i64 (x3)), (.int .i64 (x4)), (.int .i64 (x5)), (.int .i64 (x6)), (.int .i64 (x7))])] (.int .i64 ((qcheck0 (x0) (x1) (x2) (x3) (x4) (x5) (x6) (x7)))) rfl ⟨Try.f19, (Try.f19.body).getD .skip, by kernel_rfl, by kernel_rfl⟩ rfl rfl rfl (fun w hm => rcheckq_any (x0) (x1) (x2) (x3) (x4) (x5) (x6) (x7) w  )), trivial⟩ trivial trivial) w0 3000 rcheckSources_b0 Try.f25 rcheckSources_fr0 rcheckSources_st0 _ _ rcheckSources_r0 rcheckSources_wf0 a w hat1 (@endV_ok r0 w0 (sy 9) (fun en w' => en = .returned (.int .i64 (csErr x0 x1 x2 x3 x4 x5 x6 x7 l)) ∧ Below w0.heap.size w0 w') rfl (fun w2 hb => ?_))
    have v0 : ((qcheck0 (x0) (x1) (x2) (x3) (x4) (x5) (x6) (x7)) : Int) = csErr x0 x1 x2 x3 x4 x5 x6 x7 l := by
      unfold csErr
      first | (rw [if_pos (by omega)]; done) | (rw [if_neg (by omega)]; omega)
    have hv := congrArg (fun (y0 : Int) => ((.int .i64 y0) : Value)) v0
    exact ⟨congrArg Ending.returned hv, hb⟩
  · have hv := qcheck_ok (x0 := x0) (x1 := x1) (x2 := x2) (x3 := x3) (x4 := x4) (x5 := x5) (x6 := x6) (x7 := x7) (by omega)
    obtain ⟨y1, hy1⟩ : ∃ y : Int, y = (srcsErr (x0) (x1) l) := ⟨_, rfl⟩
    let r1 : Rho := (Rho.of [(.int .i64 (x0)), (.int .i64 (x1)), (.int .i64 (x2)), (.int .i64 (x3)), (.int .i64 (x4)), (.int .i64 (x5)), (.int .i64 (x6)), (.int .i64 (x7)), (.slice al l.length ql), (.int .i64 ((qcheck0 (x0) (x1) (x2) (x3) (x4) (x5) (x6) (x7)))), (.int .i64 (y1))] (fun b => w0.heap[b]?) [])
    have hat1 : @At r1 w0 rcheckSources_fr0 rcheckSources_st0 a w := At.shiftL (ρ1 := p0) (ρ2 := r1) (σ := [sy 0, sy 1, sy 2, sy 3, sy 4, sy 5, sy 6, sy 7, sy 8]) (π := []) (τ := []) ⟨rfl, rfl, rfl, rfl, rfl, rfl, rfl, rfl, rfl, rfl, rfl, rfl, rfl, rfl, rfl, rfl, rfl, rfl, trivial⟩ trivial (fun _ _ h => h) rcheckSources_wf0 rcheckSources_id0 hat
    refine @At.lastK r1 Try.prog (env.symL rcheckSources_e1 rcheckSources_c1 rcheckSources_l1 rcheckSources_cl1) (@Env.Ok.symL r1 _ _ (@env_ok r1) rcheckSources_e1 rcheckSources_c1 rcheckSources_l1 rcheckSources_cl1 ⟨⟨rfl, rfl, fun w hm => (show KeyOk Try.prog w (.bin .neq 27) [(.int .i64 ((qcheck0 (x0) (x1) (x2) (x3) (x4) (x5) (x6) (x7)))), (.int .i64 0)] (.bool false) from k_neq_f c0)⟩, trivial⟩ ⟨(@CEntOk.of r1 Try.prog _ 19 [(.agg #[(sy 0), (sy 1), (sy 2), (sy 3), (sy 4), (sy 5), (sy 6), (sy 7)])] (sy 9) #[(.agg #[(.int .i64 (x0)), (.int .i64 (x1)), (.int .i64 (x2)), (.int .i64 (x3)), (.int .i64 (x4)), (.int .i64 (x5)), (.int .i64 (x6)), (.int .i64 (x7))])] (.int .i64 ((qcheck0 (x0) (x1) (x2) (x3) (x4) (x5) (x6) (x7)))) rfl ⟨Try.f19, (Try.f19.body).getD .skip, by kernel_rfl, by kernel_rfl⟩ rfl rfl rfl (fun w hm => rcheckq_any (x0) (x1) (x2) (x3) (x4) (x5) (x6) (x7) w  )), (@CEntOk.of r1 Try.prog _ 63 [(.agg #[(sy 0), (sy 1), (sy 2), (sy 3), (sy 4), (sy 5), (sy 6), (sy 7)]), (sy 8)] (sy 10) #[(.agg #[(.int .i64 (x0)), (.int .i64 (x1)), (.int .i64 (x2)), (.int .i64 (x3)), (.int .i64 (x4)), (.int .i64 (x5)), (.int .i64 (x6)), (.int .i64 (x7))]), (.slice al l.length ql)] (.int .i64 (y1)) rfl ⟨Try.f63, (Try.f63.body).getD .skip, by kernel_rfl, by kernel_rfl⟩ rfl rfl rfl (fun w hm => (by rw [hy1]; exact rsources_any (x0) (x1) (x2) (x3) (x4) (x5) (x6) (x7) al l ql w (Hl.keep hm) (by omega) (by omega) (by omega)))), trivial⟩ trivial trivial) w0 3000 rcheckSources_b0 Try.f25 rcheckSources_fr0 rcheckSources_st0 _ _ rcheckSources_r1 rcheckSources_wf0 a w hat1 (@endV_ok r1 w0 (sy 10) (fun en w' => en = .returned (.int .i64 (csErr x0 x1 x2 x3 x4 x5 x6 x7 l)) ∧ Below w0.heap.size w0 w') rfl (fun w2 hb => ?_))
    have v0 : (y1 : Int) = csErr x0 x1 x2 x3 x4 x5 x6 x7 l := by
      unfold csErr
      first | (rw [if_pos (by omega)]; done) | (rw [if_neg (by omega)]; omega)
    have hv := congrArg (fun (y0 : Int) => ((.int .i64 y0) : Value)) v0
    exact ⟨congrArg Ending.returned hv, hb⟩
end Go.Proofs.Ytoaehigmpbhppaa.En
