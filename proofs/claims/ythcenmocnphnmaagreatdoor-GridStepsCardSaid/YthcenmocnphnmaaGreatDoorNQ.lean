/-
  GridSteps returns true.
-/
import Derived.Test.YthcenmocnphnmaaGreatDoorND
import Derived.Test.YthcenmocnphnmaaGreatDoorMV
import Derived.Test.YthcenmocnphnmaaGreatDoorNG
import Derived.Test.YthcenmocnphnmaaGreatDoorTie
import Derived.Test.YthcenmocnphnmaaGreatDoorCards
set_option linter.unusedSimpArgs false
set_option linter.unusedVariables false
namespace Go.Proofs.YthcenmocnphnmaaGreatDoor
open Go.RowKit Go.Shelf

set_option maxRecDepth 100000 in
set_option maxHeartbeats 4000000 in
theorem GridSteps_any (x : Value) (g : G) (step : Int) (w : World) (hg : GridAt w w.heap.size x g) (hv : LV w) :
    Calls Tryz.prog 6 #[x, .int .i64 step] w fun e w' => e = .returned (.bool true) ∧ Below w.heap.size w w' := by
  have HG := Lib.hid hg
  obtain ⟨v, rfl, hs⟩ := hg
  obtain ⟨A, k, rfl, hk, hm⟩ := hs.open_
  have hB : Below w.heap.size w (w.alloc (.cells #[.int .i64 g.W, .int .i64 g.H, .int .i64 g.S, .slice A g.ss.length k] 24)) := (by repeat (first | exact Below.refl _ _ | assumption | refine Below.drew ?_ | refine Below.drewN' ?_ _ | (refine Below.alloc ?_ (by simp <;> omega) _) | (refine Below.setCell ?_ (by simp <;> omega) _)))
  have HB := Lib.hid hB
  have HLV := Lib.hid hv
  have b0 : Blk (w.alloc (.cells #[.int .i64 g.W, .int .i64 g.H, .int .i64 g.S, .slice A g.ss.length k] 24)) w.heap.size 24 #[.int .i64 g.W, .int .i64 g.H, .int .i64 g.S, .slice A g.ss.length k] := Blk.new' _ _ _ rfl
  have HBB := Lib.hid b0
  clear hs hB b0 hv
  obtain ⟨b, hb⟩ : ∃ b, decide (60 < g.ss.length) = b := ⟨_, rfl⟩
  have Hbb := Lib.hid hb
  clear hb
  go_enter Tryz.func6, Tryz.ntmps6
  go_wp2_with fail
  refine (large_is _ g b Hbb.out _ (HG.out.later HB.out (Nat.le_refl _))).mono ?_
  rintro e w0 ⟨rfl, hb0⟩
  have HB0 := Lib.hid (HB.out.trans (hb0.mono HB.out.size))
  have HBB0 := Lib.hid (HBB.out.below hb0 (by simp))
  clear hb0
  cases b
  case true =>
    go_wp2_with fail
    refine (works_any _ (HLV.out.below HB0.out)).mono ?_
    rintro e w1 ⟨rfl, hb1⟩
    have HB1 := Lib.hid (HB0.out.trans (hb1.mono HB0.out.size))
    clear hb1
    go_wp2
    go_ret
    exact ⟨rfl, HB1.out⟩
  obtain ⟨z0, z1, z2, z3⟩ := grid_parts HBB0.out
  go_wp2_with fail
  refine (Tighten_any _ g step _ (HG.out.later HB0.out (Nat.le_refl _))).mono ?_
  rintro e w3 ⟨x3, r, rfl, hg3, hb3, tt, htt, hr⟩
  have HB3 := Lib.hid (HB0.out.trans (hb3.mono HB0.out.size))
  have HBB3 := Lib.hid (HBB0.out.below hb3 HBB0.out.lt)
  have HG3 := Lib.hid hg3
  have HTT := Lib.hid htt
  have HR := Lib.hid hr
  have hw3 : w.heap.size < w3.heap.size := HBB3.out.lt
  clear hb3 htt hr z0 z1 z2 z3
  obtain ⟨v3, rfl, hs3⟩ := hg3
  obtain ⟨A3, k3, rfl, _, _⟩ := hs3.open_
  have hbW3 : Below w3.heap.size w3 (w3.alloc (.cells #[.int .i64 r.2.W, .int .i64 r.2.H, .int .i64 r.2.S, .slice A3 r.2.ss.length k3] 24)) := (by repeat (first | exact Below.refl _ _ | assumption | refine Below.drew ?_ | refine Below.drewN' ?_ _ | (refine Below.alloc ?_ (by simp <;> omega) _) | (refine Below.setCell ?_ (by simp <;> omega) _)))
  have HW3 := Lib.hid hbW3
  have hk3 : Blk (w3.alloc (.cells #[.int .i64 r.2.W, .int .i64 r.2.H, .int .i64 r.2.S, .slice A3 r.2.ss.length k3] 24)) w3.heap.size 24 #[.int .i64 r.2.W, .int .i64 r.2.H, .int .i64 r.2.S, .slice A3 r.2.ss.length k3] := Blk.new' _ _ _ rfl
  have HK3 := Lib.hid hk3
  clear hs3 hbW3 hk3
  obtain ⟨z0, z1, z2, z3⟩ := grid_parts (HBB3.out.alloc (.cells #[.int .i64 r.2.W, .int .i64 r.2.H, .int .i64 r.2.S, .slice A3 r.2.ss.length k3] 24))
  go_wp2_with fail
  refine (rTighten_any _ g step _ (HG.out.later (HB3.out.trans (HW3.out.mono HB3.out.size)) (Nat.le_refl _))).mono ?_
  rintro e w4 ⟨x4, r4, rfl, hg4, hb4, hall⟩
  have h44 := hall tt HTT.out
  rw [← HR.out] at h44
  subst h44
  have HB4 := Lib.hid (HB3.out.trans ((HW3.out.trans (hb4.mono (by simp))).mono HB3.out.size))
  have HG34 := Lib.hid ((HG3.out.later HW3.out (Nat.le_refl _)).later hb4 (Nat.le_refl _))
  have HK4 := Lib.hid (HK3.out.below hb4 (by simp))
  have HG4 := Lib.hid hg4
  have hw4 : w3.heap.size < w4.heap.size := HK4.out.lt
  clear hb4 hall HK3 z0 z1 z2 z3
  obtain ⟨v4, rfl, hs4⟩ := hg4
  obtain ⟨A4, k4, rfl, _, _⟩ := hs4.open_
  have hbW4 : Below w4.heap.size w4 (w4.alloc (.cells #[.int .i64 r4.2.W, .int .i64 r4.2.H, .int .i64 r4.2.S, .slice A4 r4.2.ss.length k4] 24)) := (by repeat (first | exact Below.refl _ _ | assumption | refine Below.drew ?_ | refine Below.drewN' ?_ _ | (refine Below.alloc ?_ (by simp <;> omega) _) | (refine Below.setCell ?_ (by simp <;> omega) _)))
  have HW4 := Lib.hid hbW4
  clear hs4 hbW4
  obtain ⟨y0, y1, y2, y3⟩ := grid_parts (HK4.out.alloc (.cells #[.int .i64 r4.2.W, .int .i64 r4.2.H, .int .i64 r4.2.S, .slice A4 r4.2.ss.length k4] 24))
  have hee : (r4.1 == r4.1) = true := by simp
  go_wp2_with fail
  refine (grids_yes _ _ _ _ rfl _ (HG34.out.later HW4.out (Nat.le_refl _)) (HG4.out.later HW4.out (Nat.le_refl _))).mono ?_
  rintro e w5 ⟨rfl, hb5⟩
  have HB5 := Lib.hid (HB4.out.trans ((HW4.out.trans (hb5.mono (by simp))).mono HB4.out.size))
  clear hb5 y0 y1 y2 y3
  go_wp2_with fail
  refine (works_any _ (HLV.out.below HB5.out)).mono ?_
  rintro e w6 ⟨rfl, hb6⟩
  have HB6 := Lib.hid (HB5.out.trans (hb6.mono HB5.out.size))
  clear hb6
  go_wp2
  go_ret
  exact ⟨rfl, HB6.out⟩
end Go.Proofs.YthcenmocnphnmaaGreatDoor
/-
  GridSteps: for whatever grid and step, the law returns true and its arguments read as they did (no condition).
-/
namespace Go.Proofs.YthcenmocnphnmaaGreatDoor
open Go.ChangeShapes Go.WideShapes Go.ChangeAt Go.WideMaps Go.WideElems Go.RowKit Go.Shelf

namespace GridSteps
theorem laid_out : laidOutB Tryz.prog = true := by kernel_rfl
set_option maxRecDepth 100000 in
theorem lifted (os : Os) (started : os.Started) (H : Type) (enc : TypeId × Value → H) :
    ReturnsInHanded {} Tryz.checked os 6 .any (fun w args => (Rows.gridStepsSpec.pre enc Tryz.prog Tryz.f6 [] false w args ∧ laidMetH Tryz.prog laidL w) ∧ sizedMet enc Tryz.prog Tryz.f6 (OpenSpec.ofChange Rows.gridStepsSpec) false w args)
      (Rows.gridStepsSpec.post enc Tryz.prog Tryz.f6 false true false false) := by
  refine ret_shaped (s := Rows.gridStepsSpec) (conds := []) started (by kernel_rfl) Tryz.func6 #[.agg #[.int .i64 0, .int .i64 0, .int .i64 0, .slice none 0 0], .int .i64 0] (by kernel_rfl) (by kernel_rfl) (by kernel_rfl) ?_
  intro W base args ds gs before hval0 hW hlv
  have hval : ∀ (j : Nat) t v, Tryz.f6.params[j]? = some t → args[j]? = some v → Value.okWide Tryz.prog W .any base t v := hval0
  have hW' := hW
  obtain ⟨p, q, hA0, hV, rfl, _, _⟩ := hW
  have hA : DataW.TrodAll enc Tryz.prog W 0 (fun _ => true) true Tryz.f6.params.toList args.toList ds p := hA0
  rw [Tryz.params6] at hA hval
  obtain ⟨v0, v1, d0, d1, p0, p1, rfl, rfl, rfl, h0, h1⟩ := trodAll_two hA
  obtain ⟨rfl, rfl⟩ := trodVars_none hV
  obtain ⟨g0, hg0⟩ := grid_open (hval 0 24 v0 rfl rfl) h0
  obtain ⟨c1, rfl, _, _, _⟩ := open_int Tryz.underlying3 (hval 1 3 v1 rfl rfl) h1
  clear hA0 hval0 hA
  simp only [List.append_nil] at hW'
  have hlt : ∀ x ∈ p0 ++ p1, x.block < W.heap.size := fun x hx => by simpa using hW'.lt x hx
  have k0 : ∀ x ∈ p0, x.block < W.heap.size := fun x hx => hlt x (by simp [hx])
  have k1 : ∀ x ∈ p1, x.block < W.heap.size := fun x hx => hlt x (by simp [hx])
  refine (GridSteps_any v0 g0 c1 W hg0 hlv).mono ?_
  rintro e W' ⟨rfl, bel⟩
  refine ⟨_, rfl, _, _, _, [], (p0 ++ p1), [], hW', ?_, ?_, ?_, bel.frame _, fun h => by cases h⟩
  · exact trodAll_mk1 (shut_bool Tryz.underlying4 true)
  · exact trodAll_mk2 (Below.trod laid_out (by kernel_rfl) (of_decide_eq_true (by kernel_rfl)) h0 bel k0) (Below.trod laid_out (by kernel_rfl) (of_decide_eq_true (by kernel_rfl)) h1 bel k1)
  · rfl
set_option maxRecDepth 100000 in
theorem bare : Rows.GridStepsSaid :=
  OpenClaim.holds_of_wide 6 Tryz.f6 rfl rfl rfl rfl rfl rfl rfl ⟨rfl, rfl, rfl, rfl, rfl⟩ rfl rfl rfl rfl rfl (by kernel_rfl) Tryz.func6 (by kernel_rfl)
    (of_decide_eq_true (by kernel_rfl)) (by unfold Func.isWrapper; first | (rw [if_pos (by decide +kernel)]; kernel_rfl) | (rw [if_neg (by decide +kernel)]; exact ⟨rfl, rfl⟩))
    (fun os started H enc _ => lifted os started H enc)
end GridSteps
set_option maxRecDepth 100000 in
theorem GridSteps_card : Rows.GridStepsCardSaid :=
  Claim7.holds_tied_plain_at .later [] [.data, .data, .data, .sentinel, .sentinel, .listed, .data] true _ true
    GridSteps.bare (fun _ h => by cases h) (by kernel_rfl) (fun _ h => by cases h) gridSteps_row_tie rfl ⟨rfl, rfl⟩ (by kernel_rfl) rfl
    (fun f fn hf hfn => by
      obtain rfl : f = 6 := Option.some.inj ((show Tryz.prog.funcNamed "tidewall/tidewalllaw01.GridSteps" = some 6 by kernel_rfl).symm.trans hf) |>.symm
      obtain rfl : fn = Tryz.f6 := (Option.some.inj (Tryz.func6.symm.trans hfn)).symm
      exact ⟨by kernel_rfl, fun j t ht => by
        rw [Tryz.params6] at ht
        have hm : t ∈ [24, 3] := by simpa using Array.mem_of_getElem? ht
        have hall : ([24, 3].all fun u => !Tryz.prog.wantsStandIn u) = true := by kernel_rfl
        exact (show Tryz.prog.wantsStandIn t = false by simpa using List.all_eq_true.1 hall t hm)⟩)
    (by kernel_rfl)
#print axioms GridSteps_card
end Go.Proofs.YthcenmocnphnmaaGreatDoor
