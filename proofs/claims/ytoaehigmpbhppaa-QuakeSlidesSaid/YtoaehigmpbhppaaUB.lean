/-
  QuakeSlides returns true, for whatever model, list and lag.
-/
import Derived.Test.YtoaehigmpbhppaaU9
import Derived.Test.YtoaehigmpbhppaaUA
import Derived.Test.YtoaehigmpbhppaaEb
namespace Go.Proofs.Ytoaehigmpbhppaa.En
open Go Go.Ev Go.Proofs Go.RowKit
set_option linter.unusedSimpArgs false
set_option linter.unusedVariables false
theorem slidesL_len {x0 x1 x2 x3 x4 x5 x6 x7 : Int} {l : List Src} {lag : Int} : (slidesL x0 x1 x2 x3 x4 x5 x6 x7 l lag).length ≤ l.length := by
  unfold slidesL
  split
  · exact List.length_filterMap_le _ _
  · simp
noncomputable def lawSlides_b0 : Code := (Try.f7.body).getD .skip

noncomputable def lawSlides_fr0 : Fr := mkFr Try.f7 [(0, (.agg #[(.chan (.some 0)), (.chan (.some 1)), (.chan (.some 2)), (.chan (.some 3)), (.chan (.some 4)), (.chan (.some 5)), (.chan (.some 6)), (.chan (.some 7))])), (1, (.chan (.some 8))), (2, (.chan (.some 9)))] []
noncomputable def lawSlides_st0 : St := mkSt 0 []
theorem lawSlides_wf0 : lawSlides_st0.Wf := mkSt_wf rfl
set_option maxRecDepth 1000000 in
theorem lawSlides_id0 : agreeL [sy 0, sy 1, sy 2, sy 3, sy 4, sy 5, sy 6, sy 7, sy 8, sy 9] [] [] lawSlides_fr0 lawSlides_st0 lawSlides_fr0 lawSlides_st0 = true := by kernel_rfl

set_option maxRecDepth 1000000 in
theorem lawSlides_a0 : agreeL [sy 0, sy 1, sy 2, sy 3, sy 4, sy 5, sy 6, sy 7, sy 8, sy 9] [] [] lawSlides_fr0 lawSlides_st0 (frameOf Try.f7 [(.agg #[(.chan (.some 0)), (.chan (.some 1)), (.chan (.some 2)), (.chan (.some 3)), (.chan (.some 4)), (.chan (.some 5)), (.chan (.some 6)), (.chan (.some 7))]), (.chan (.some 8)), (.chan (.some 9))]) Ev.start = true := by kernel_rfl

noncomputable def lawSlides_e0 : List Ent := [⟨(.bi 0 [38]), [(sy 8)], (sy 10)⟩, ⟨(.bin .gtr 3), [(sy 10), (iV 300)], (.bool true)⟩]
noncomputable def lawSlides_c0 : List CEnt := []
noncomputable def lawSlides_l0 : List LEnt := []
noncomputable def lawSlides_cl0 : List CLEnt := []

set_option maxRecDepth 1000000 in
theorem lawSlides_r0 : ev Try.prog (env2.symL lawSlides_e0 lawSlides_c0 lawSlides_l0 lawSlides_cl0) 3000 (.code lawSlides_b0 none lawSlides_fr0 lawSlides_st0 (retK (env2.symL lawSlides_e0 lawSlides_c0 lawSlides_l0 lawSlides_cl0) Try.f7 (endV (.bool true)))) = some () := by kernel_rfl

noncomputable def lawSlides_e1 : List Ent := [⟨(.bi 0 [38]), [(sy 8)], (sy 10)⟩, ⟨(.bin .gtr 3), [(sy 10), (iV 300)], (.bool false)⟩, ⟨(.bin .eql 27), [(sy 12), (sy 14)], (.bool true)⟩]
noncomputable def lawSlides_c1 : List CEnt := [⟨23, [(.pointer (some ⟨1, 11, some 2⟩)), (.pointer (some ⟨2, 13, some 2⟩))], [(1, .lst 0 54 5), (2, .lst 1 54 5)], (.bool true)⟩]
noncomputable def lawSlides_l1 : List LEnt := []
noncomputable def lawSlides_cl1 : List CLEnt := [⟨35, [(.agg #[(sy 0), (sy 1), (sy 2), (sy 3), (sy 4), (sy 5), (sy 6), (sy 7)]), (sy 8), (sy 9)], [], 1, 0, 54, 5, 11, (.tuple #[(.pointer (some ⟨1, 11, some 2⟩)), (sy 12)])⟩, ⟨36, [(.agg #[(sy 0), (sy 1), (sy 2), (sy 3), (sy 4), (sy 5), (sy 6), (sy 7)]), (sy 8), (sy 9)], [], 2, 1, 54, 5, 13, (.tuple #[(.pointer (some ⟨2, 13, some 2⟩)), (sy 14)])⟩]

set_option maxRecDepth 1000000 in
theorem lawSlides_r1 : ev Try.prog (env2.symL lawSlides_e1 lawSlides_c1 lawSlides_l1 lawSlides_cl1) 3000 (.code lawSlides_b0 none lawSlides_fr0 lawSlides_st0 (retK (env2.symL lawSlides_e1 lawSlides_c1 lawSlides_l1 lawSlides_cl1) Try.f7 (endV (.bool true)))) = some () := by kernel_rfl

noncomputable def lawSlides_e2 : List Ent := [⟨(.bi 0 [38]), [(sy 8)], (sy 10)⟩, ⟨(.bin .gtr 3), [(sy 10), (iV 300)], (.bool false)⟩, ⟨(.bin .eql 27), [(sy 12), (sy 14)], (.bool false)⟩]
noncomputable def lawSlides_c2 : List CEnt := [⟨23, [(.pointer (some ⟨1, 11, some 2⟩)), (.pointer (some ⟨2, 13, some 2⟩))], [(1, .lst 0 54 5), (2, .lst 1 54 5)], (.bool true)⟩]
noncomputable def lawSlides_l2 : List LEnt := []
noncomputable def lawSlides_cl2 : List CLEnt := [⟨35, [(.agg #[(sy 0), (sy 1), (sy 2), (sy 3), (sy 4), (sy 5), (sy 6), (sy 7)]), (sy 8), (sy 9)], [], 1, 0, 54, 5, 11, (.tuple #[(.pointer (some ⟨1, 11, some 2⟩)), (sy 12)])⟩, ⟨36, [(.agg #[(sy 0), (sy 1), (sy 2), (sy 3), (sy 4), (sy 5), (sy 6), (sy 7)]), (sy 8), (sy 9)], [], 2, 1, 54, 5, 13, (.tuple #[(.pointer (some ⟨2, 13, some 2⟩)), (sy 14)])⟩]

set_option maxRecDepth 1000000 in
theorem lawSlides_r2 : ev Try.prog (env2.symL lawSlides_e2 lawSlides_c2 lawSlides_l2 lawSlides_cl2) 3000 (.code lawSlides_b0 none lawSlides_fr0 lawSlides_st0 (retK (env2.symL lawSlides_e2 lawSlides_c2 lawSlides_l2 lawSlides_cl2) Try.f7 (endV (.bool false)))) = some () := by kernel_rfl

set_option maxHeartbeats 8000000 in
set_option maxRecDepth 100000 in
theorem lawSlides_any (x0 : Int) (x1 : Int) (x2 : Int) (x3 : Int) (x4 : Int) (x5 : Int) (x6 : Int) (x7 : Int) (al : Option Addr) (l : List Src) (ql : Nat) (lag : Int) (w0 : World) {tl : TypeId} (Hl : Lies w0 tl (flat srcC l) al l.length) (hn : l.length < 9223372036854775808) : Calls Try.prog 7 #[(.agg #[(iV x0), (iV x1), (iV x2), (iV x3), (iV x4), (iV x5), (iV x6), (iV x7)]), (.slice al l.length ql), (iV lag)] w0 (fun en w' => en = .returned (.bool true) ∧ Below w0.heap.size w0 w') := by
  refine @calls_of_body (Rho.of [(iV x0), (iV x1), (iV x2), (iV x3), (iV x4), (iV x5), (iV x6), (iV x7), (.slice al l.length ql), (iV lag)] (fun b => w0.heap[b]?) []) Try.prog env2 (@env2_ok (Rho.of [(iV x0), (iV x1), (iV x2), (iV x3), (iV x4), (iV x5), (iV x6), (iV x7), (.slice al l.length ql), (iV lag)] (fun b => w0.heap[b]?) [])) 7 Try.f7 lawSlides_b0 [(.agg #[(.chan (.some 0)), (.chan (.some 1)), (.chan (.some 2)), (.chan (.some 3)), (.chan (.some 4)), (.chan (.some 5)), (.chan (.some 6)), (.chan (.some 7))]), (.chan (.some 8)), (.chan (.some 9))] w0 _ (by kernel_rfl) (by kernel_rfl) (of_decide_eq_true (by kernel_rfl)) (of_decide_eq_true (by kernel_rfl)) rfl (fun _ _ h => h) (fun a hat0 => ?_)
  have hat : @At (Rho.of [(iV x0), (iV x1), (iV x2), (iV x3), (iV x4), (iV x5), (iV x6), (iV x7), (.slice al l.length ql), (iV lag)] (fun b => w0.heap[b]?) []) w0 lawSlides_fr0 lawSlides_st0 a w0 := At.shiftL (σ := [sy 0, sy 1, sy 2, sy 3, sy 4, sy 5, sy 6, sy 7, sy 8, sy 9]) (π := []) (τ := []) ⟨rfl, rfl, rfl, rfl, rfl, rfl, rfl, rfl, rfl, rfl, rfl, rfl, rfl, rfl, rfl, rfl, rfl, rfl, rfl, rfl, trivial⟩ trivial (fun _ _ h => h) lawSlides_wf0 lawSlides_a0 hat0
  clear hat0
  suffices key : ∀ w, @At (Rho.of [(iV x0), (iV x1), (iV x2), (iV x3), (iV x4), (iV x5), (iV x6), (iV x7), (.slice al l.length ql), (iV lag)] (fun b => w0.heap[b]?) []) w0 lawSlides_fr0 lawSlides_st0 a w → lawSlides_b0.wpIn (FF none) 0 Try.prog (bodyPostM Fence.wide 0 Try.prog Try.f7 (fun en w' => en = .returned (.bool true) ∧ Below w0.heap.size w0 w')) a w from key w0 hat
  clear hat
  intro w hat
  let p0 : Rho := (Rho.of [(iV x0), (iV x1), (iV x2), (iV x3), (iV x4), (iV x5), (iV x6), (iV x7), (.slice al l.length ql), (iV lag)] (fun b => w0.heap[b]?) [])
  change @At p0 w0 lawSlides_fr0 lawSlides_st0 a w at hat
  by_cases c0 : ((l.length : Nat) : Int) > 300
  · let r0 : Rho := (Rho.of [(iV x0), (iV x1), (iV x2), (iV x3), (iV x4), (iV x5), (iV x6), (iV x7), (.slice al l.length ql), (iV lag), (iV (((l.length : Nat) : Int)))] (fun b => w0.heap[b]?) [])
    have hat1 : @At r0 w0 lawSlides_fr0 lawSlides_st0 a w := At.shiftL (ρ1 := p0) (ρ2 := r0) (σ := [sy 0, sy 1, sy 2, sy 3, sy 4, sy 5, sy 6, sy 7, sy 8, sy 9]) (π := []) (τ := []) ⟨rfl, rfl, rfl, rfl, rfl, rfl, rfl, rfl, rfl, rfl, rfl, rfl, rfl, rfl, rfl, rfl, rfl, rfl, rfl, rfl, trivial⟩ trivial (fun _ _ h => h) lawSlides_wf0 lawSlides_id0 hat
    refine @At.lastK r0 Try.prog (env2.symL lawSlides_e0 lawSlides_c0 lawSlides_l0 lawSlides_cl0) (@Env.Ok.symL r0 _ _ (@env2_ok r0) lawSlides_e0 lawSlides_c0 lawSlides_l0 lawSlides_cl0 ⟨⟨rfl, rfl, fun w hm => (show KO w (.bi 0 [38]) [(.slice al l.length ql)] (iV (((l.length : Nat) : Int))) from k_len Try.underlying38)⟩, ⟨rfl, rfl, fun w hm => (show KO w (.bin .gtr 3) [(iV (((l.length : Nat) : Int))), (iV 300)] (.bool true) from k_gtr_t c0)⟩, trivial⟩ trivial trivial trivial) w0 3000 lawSlides_b0 Try.f7 lawSlides_fr0 lawSlides_st0 _ _ lawSlides_r0 lawSlides_wf0 a w hat1 (@endV_ok r0 w0 (.bool true) (fun en w' => en = .returned (.bool true) ∧ Below w0.heap.size w0 w') rfl (fun w2 hb => ?_))
    have v0 : (true : Bool) = true := by
      first | rfl | (exfalso; first | omega | (simp_all; done))
    have hv := congrArg (fun (y0 : Bool) => ((.bool y0) : Value)) v0
    exact ⟨congrArg Ending.returned hv, hb⟩
  · by_cases c1 : (slErr (x0) (x1) (x2) (x3) (x4) (x5) (x6) (x7) l (lag)) = (slErr (x0) (x1) (x2) (x3) (x4) (x5) (x6) (x7) l (lag))
    · let r1 : Rho := (Rho.of [(iV x0), (iV x1), (iV x2), (iV x3), (iV x4), (iV x5), (iV x6), (iV x7), (.slice al l.length ql), (iV lag), (iV (((l.length : Nat) : Int))), (iV ((((slidesL (x0) (x1) (x2) (x3) (x4) (x5) (x6) (x7) l (lag)).length : Nat) : Int))), (iV ((slErr (x0) (x1) (x2) (x3) (x4) (x5) (x6) (x7) l (lag)))), (iV ((((slidesL (x0) (x1) (x2) (x3) (x4) (x5) (x6) (x7) l (lag)).length : Nat) : Int))), (iV ((slErr (x0) (x1) (x2) (x3) (x4) (x5) (x6) (x7) l (lag))))] (fun b => w0.heap[b]?) [(flat srcC (slidesL (x0) (x1) (x2) (x3) (x4) (x5) (x6) (x7) l (lag))), (flat srcC (slidesL (x0) (x1) (x2) (x3) (x4) (x5) (x6) (x7) l (lag)))])
      have hat1 : @At r1 w0 lawSlides_fr0 lawSlides_st0 a w := At.shiftL (ρ1 := p0) (ρ2 := r1) (σ := [sy 0, sy 1, sy 2, sy 3, sy 4, sy 5, sy 6, sy 7, sy 8, sy 9]) (π := []) (τ := []) ⟨rfl, rfl, rfl, rfl, rfl, rfl, rfl, rfl, rfl, rfl, rfl, rfl, rfl, rfl, rfl, rfl, rfl, rfl, rfl, rfl, trivial⟩ trivial (fun _ _ h => h) lawSlides_wf0 lawSlides_id0 hat
      refine @At.lastK r1 Try.prog (env2.symL lawSlides_e1 lawSlides_c1 lawSlides_l1 lawSlides_cl1) (@Env.Ok.symL r1 _ _ (@env2_ok r1) lawSlides_e1 lawSlides_c1 lawSlides_l1 lawSlides_cl1 ⟨⟨rfl, rfl, fun w hm => (show KO w (.bi 0 [38]) [(.slice al l.length ql)] (iV (((l.length : Nat) : Int))) from k_len Try.underlying38)⟩, ⟨rfl, rfl, fun w hm => (show KO w (.bin .gtr 3) [(iV (((l.length : Nat) : Int))), (iV 300)] (.bool false) from k_gtr_f c0)⟩, ⟨rfl, rfl, fun w hm => (show KO w (.bin .eql 27) [(iV ((slErr (x0) (x1) (x2) (x3) (x4) (x5) (x6) (x7) l (lag)))), (iV ((slErr (x0) (x1) (x2) (x3) (x4) (x5) (x6) (x7) l (lag))))] (.bool true) from k_eql_t c1)⟩, trivial⟩ ⟨(@CEntOk.lists r1 Try.prog _ 23 [(.pointer (some ⟨1, 11, some 2⟩)), (.pointer (some ⟨2, 13, some 2⟩))] [(1, .lst 0 54 5), (2, .lst 1 54 5)] (.bool true) (.bool true) rfl ⟨Try.f23, (Try.f23.body).getD .skip, by kernel_rfl, by kernel_rfl⟩ rfl rfl (fun w asg hm hl => sameEq2_any (asg 0).1 (slidesL (x0) (x1) (x2) (x3) (x4) (x5) (x6) (x7) l (lag)) (asg 0).2 (asg 1).1 (slidesL (x0) (x1) (x2) (x3) (x4) (x5) (x6) (x7) l (lag)) (asg 1).2 w (hl.1) (hl.2.1) rfl (by have := slidesL_len (x0 := x0) (x1 := x1) (x2 := x2) (x3 := x3) (x4 := x4) (x5 := x5) (x6 := x6) (x7 := x7) (l := l) (lag := lag); omega))), trivial⟩ trivial ⟨(@CLEntOk.lists r1 Try.prog _ 35 [(.agg #[(sy 0), (sy 1), (sy 2), (sy 3), (sy 4), (sy 5), (sy 6), (sy 7)]), (sy 8), (sy 9)] [] 1 0 54 5 11 (slidesL (x0) (x1) (x2) (x3) (x4) (x5) (x6) (x7) l (lag)).length (.tuple #[(.pointer (some ⟨1, 11, some 2⟩)), (sy 12)]) (some [(sy 12)]) rfl ⟨Try.f35, (Try.f35.body).getD .skip, by kernel_rfl, by kernel_rfl⟩ rfl rfl (fun w asg hm hl => slides_any (x0) (x1) (x2) (x3) (x4) (x5) (x6) (x7) al l ql (lag) w (Hl.keep hm) (by omega))), (@CLEntOk.lists r1 Try.prog _ 36 [(.agg #[(sy 0), (sy 1), (sy 2), (sy 3), (sy 4), (sy 5), (sy 6), (sy 7)]), (sy 8), (sy 9)] [] 2 1 54 5 13 (slidesL (x0) (x1) (x2) (x3) (x4) (x5) (x6) (x7) l (lag)).length (.tuple #[(.pointer (some ⟨2, 13, some 2⟩)), (sy 14)]) (some [(sy 14)]) rfl ⟨Try.f36, (Try.f36.body).getD .skip, by kernel_rfl, by kernel_rfl⟩ rfl rfl (fun w asg hm hl => rslides_any (x0) (x1) (x2) (x3) (x4) (x5) (x6) (x7) al l ql (lag) w (Hl.keep hm) (by omega))), trivial⟩) w0 3000 lawSlides_b0 Try.f7 lawSlides_fr0 lawSlides_st0 _ _ lawSlides_r1 lawSlides_wf0 a w hat1 (@endV_ok r1 w0 (.bool true) (fun en w' => en = .returned (.bool true) ∧ Below w0.heap.size w0 w') rfl (fun w2 hb => ?_))
      have v0 : (true : Bool) = true := by
        first | rfl | (exfalso; first | omega | (simp_all; done))
      have hv := congrArg (fun (y0 : Bool) => ((.bool y0) : Value)) v0
      exact ⟨congrArg Ending.returned hv, hb⟩
    · let r2 : Rho := (Rho.of [(iV x0), (iV x1), (iV x2), (iV x3), (iV x4), (iV x5), (iV x6), (iV x7), (.slice al l.length ql), (iV lag), (iV (((l.length : Nat) : Int))), (iV ((((slidesL (x0) (x1) (x2) (x3) (x4) (x5) (x6) (x7) l (lag)).length : Nat) : Int))), (iV ((slErr (x0) (x1) (x2) (x3) (x4) (x5) (x6) (x7) l (lag)))), (iV ((((slidesL (x0) (x1) (x2) (x3) (x4) (x5) (x6) (x7) l (lag)).length : Nat) : Int))), (iV ((slErr (x0) (x1) (x2) (x3) (x4) (x5) (x6) (x7) l (lag))))] (fun b => w0.heap[b]?) [(flat srcC (slidesL (x0) (x1) (x2) (x3) (x4) (x5) (x6) (x7) l (lag))), (flat srcC (slidesL (x0) (x1) (x2) (x3) (x4) (x5) (x6) (x7) l (lag)))])
      have hat1 : @At r2 w0 lawSlides_fr0 lawSlides_st0 a w := At.shiftL (ρ1 := p0) (ρ2 := r2) (σ := [sy 0, sy 1, sy 2, sy 3, sy 4, sy 5, sy 6, sy 7, sy 8, sy 9]) (π := []) (τ := []) ⟨rfl, rfl, rfl, rfl, rfl, rfl, rfl, rfl, rfl, rfl, rfl, rfl, rfl, rfl, rfl, rfl, rfl, rfl, rfl, rfl, trivial⟩ trivial (fun _ _ h => h) lawSlides_wf0 lawSlides_id0 hat
      refine @At.lastK r2 Try.prog (env2.symL lawSlides_e2 lawSlides_c2 lawSlides_l2 lawSlides_cl2) (@Env.Ok.symL r2 _ _ (@env2_ok r2) lawSlides_e2 lawSlides_c2 lawSlides_l2 lawSlides_cl2 ⟨⟨rfl, rfl, fun w hm => (show KO w (.bi 0 [38]) [(.slice al l.length ql)] (iV (((l.length : Nat) : Int))) from k_len Try.underlying38)⟩, ⟨rfl, rfl, fun w hm => (show KO w (.bin .gtr 3) [(iV (((l.length : Nat) : Int))), (iV 300)] (.bool false) from k_gtr_f c0)⟩, ⟨rfl, rfl, fun w hm => (show KO w (.bin .eql 27) [(iV ((slErr (x0) (x1) (x2) (x3) (x4) (x5) (x6) (x7) l (lag)))), (iV ((slErr (x0) (x1) (x2) (x3) (x4) (x5) (x6) (x7) l (lag))))] (.bool false) from k_eql_f c1)⟩, trivial⟩ ⟨(@CEntOk.lists r2 Try.prog _ 23 [(.pointer (some ⟨1, 11, some 2⟩)), (.pointer (some ⟨2, 13, some 2⟩))] [(1, .lst 0 54 5), (2, .lst 1 54 5)] (.bool true) (.bool true) rfl ⟨Try.f23, (Try.f23.body).getD .skip, by kernel_rfl, by kernel_rfl⟩ rfl rfl (fun w asg hm hl => sameEq2_any (asg 0).1 (slidesL (x0) (x1) (x2) (x3) (x4) (x5) (x6) (x7) l (lag)) (asg 0).2 (asg 1).1 (slidesL (x0) (x1) (x2) (x3) (x4) (x5) (x6) (x7) l (lag)) (asg 1).2 w (hl.1) (hl.2.1) rfl (by have := slidesL_len (x0 := x0) (x1 := x1) (x2 := x2) (x3 := x3) (x4 := x4) (x5 := x5) (x6 := x6) (x7 := x7) (l := l) (lag := lag); omega))), trivial⟩ trivial ⟨(@CLEntOk.lists r2 Try.prog _ 35 [(.agg #[(sy 0), (sy 1), (sy 2), (sy 3), (sy 4), (sy 5), (sy 6), (sy 7)]), (sy 8), (sy 9)] [] 1 0 54 5 11 (slidesL (x0) (x1) (x2) (x3) (x4) (x5) (x6) (x7) l (lag)).length (.tuple #[(.pointer (some ⟨1, 11, some 2⟩)), (sy 12)]) (some [(sy 12)]) rfl ⟨Try.f35, (Try.f35.body).getD .skip, by kernel_rfl, by kernel_rfl⟩ rfl rfl (fun w asg hm hl => slides_any (x0) (x1) (x2) (x3) (x4) (x5) (x6) (x7) al l ql (lag) w (Hl.keep hm) (by omega))), (@CLEntOk.lists r2 Try.prog _ 36 [(.agg #[(sy 0), (sy 1), (sy 2), (sy 3), (sy 4), (sy 5), (sy 6), (sy 7)]), (sy 8), (sy 9)] [] 2 1 54 5 13 (slidesL (x0) (x1) (x2) (x3) (x4) (x5) (x6) (x7) l (lag)).length (.tuple #[(.pointer (some ⟨2, 13, some 2⟩)), (sy 14)]) (some [(sy 14)]) rfl ⟨Try.f36, (Try.f36.body).getD .skip, by kernel_rfl, by kernel_rfl⟩ rfl rfl (fun w asg hm hl => rslides_any (x0) (x1) (x2) (x3) (x4) (x5) (x6) (x7) al l ql (lag) w (Hl.keep hm) (by omega))), trivial⟩) w0 3000 lawSlides_b0 Try.f7 lawSlides_fr0 lawSlides_st0 _ _ lawSlides_r2 lawSlides_wf0 a w hat1 (@endV_ok r2 w0 (.bool false) (fun en w' => en = .returned (.bool true) ∧ Below w0.heap.size w0 w') rfl (fun w2 hb => ?_))
      have v0 : (false : Bool) = true := by
        first | rfl | (exfalso; first | omega | (simp_all; done))
      have hv := congrArg (fun (y0 : Bool) => ((.bool y0) : Value)) v0
      exact ⟨congrArg Ending.returned hv, hb⟩
end Go.Proofs.Ytoaehigmpbhppaa.En
