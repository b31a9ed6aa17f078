/-
  GridNears returns true.
-/
import Derived.Test.YthcenmocnphnmaaGreatDoorND
import Derived.Test.YthcenmocnphnmaaGreatDoorMP
import Derived.Test.YthcenmocnphnmaaGreatDoorNF
import Derived.Test.YthcenmocnphnmaaGreatDoorTie
import Derived.Test.YthcenmocnphnmaaGreatDoorCards
set_option linter.unusedSimpArgs false
set_option linter.unusedVariables false
namespace Go.Proofs.YthcenmocnphnmaaGreatDoor
open Go.RowKit Go.Shelf

set_option maxRecDepth 100000 in
set_option maxHeartbeats 4000000 in
theorem GridNears_any (x : Value) (g : G) (c : Int) (w : World) (hg : GridAt w w.heap.size x g) (hv : LV w) :
    Calls Tryz.prog 3 #[x, .int .i64 c] w fun e w' => e = .returned (.bool true) ∧ Below w.heap.size w w' := by
  have HG := Lib.hid hg
  obtain ⟨v, rfl, hs⟩ := hg
  obtain ⟨A, k, rfl, hk, hm⟩ := hs.open_
  have hB : Below w.heap.size w (w.alloc (.cells #[.int .i64 g.W, .int .i64 g.H, .int .i64 g.S, .slice A g.ss.length k] 24)) := (by repeat (first | exact Below.refl _ _ | assumption | refine Below.drew ?_ | refine Below.drewN' ?_ _ | (refine Below.alloc ?_ (by simp <;> omega) _) | (refine Below.setCell ?_ (by simp <;> omega) _)))
  have HB := Lib.hid hB
  have HLV := Lib.hid hv
  have b0 : Blk (w.alloc (.cells #[.int .i64 g.W, .int .i64 g.H, .int .i64 g.S, .slice A g.ss.length k] 24)) w.heap.size 24 #[.int .i64 g.W, .int .i64 g.H, .int .i64 g.S, .slice A g.ss.length k] := Blk.new' _ _ _ rfl
  have HBB := Lib.hid b0
  clear hs hB b0 hv
  go_enter Tryz.func3, Tryz.ntmps3
  by_cases hl : 600 < g.ss.length
  · have hl' : (600 : Int) < g.ss.length := by omega
    clear hl
    go_wp2_with fail
    refine (works_any _ (HLV.out.below HB.out)).mono ?_
    rintro e w1 ⟨rfl, hb1⟩
    have HB1 := Lib.hid (HB.out.trans (hb1.mono HB.out.size))
    clear hb1
    go_wp2
    go_ret
    exact ⟨rfl, HB1.out⟩
  have hl' : ¬ (600 : Int) < g.ss.length := by omega
  clear hl
  go_wp2_with fail
  refine (near_any _ g c _ (HG.out.later HB.out (Nat.le_refl _))).mono ?_
  rintro e w1 ⟨v1, rfl, hn1, hb1⟩
  have HB1 := Lib.hid (HB.out.trans (hb1.mono HB.out.size))
  have HBB1 := Lib.hid (HBB.out.below hb1 (by simp))
  have HN1 := Lib.hid hn1
  clear hb1 hn1
  obtain ⟨z0, z1, z2, z3⟩ := grid_parts HBB1.out
  go_wp2_with fail
  refine (rNear_any _ g c _ (HG.out.later HB1.out (Nat.le_refl _))).mono ?_
  rintro e w2 ⟨v2, rfl, hn2, hb2⟩
  have HB2 := Lib.hid (HB1.out.trans (hb2.mono HB1.out.size))
  have HBB2 := Lib.hid (HBB1.out.below hb2 HBB1.out.lt)
  have HN2 := Lib.hid hn2
  have HN12 := Lib.hid (HN1.out.later hb2 (Nat.le_refl _))
  clear hb2 hn2 z0 z1 z2 z3 HN1 HBB1
  have HCk : Hid (∀ W, Below w2.heap.size w2 W → Calls Tryz.prog 16 #[.agg #[.int .i64 g.W, .int .i64 g.H, .int .i64 g.S, .slice A g.ss.length k]] W fun e w' => e = .returned (.int .i64 (checkE g)) ∧ Hid (Below w2.heap.size w2 w')) := fun W hW =>
    (check_any _ g W (HG.out.later (HB2.out.trans (hW.mono HB2.out.size)) (Nat.le_refl _))).mono fun e w' h => ⟨h.1, hW.trans (h.2.mono hW.size)⟩
  have HRk : Hid (∀ W, Below w2.heap.size w2 W → Calls Tryz.prog 17 #[.agg #[.int .i64 g.W, .int .i64 g.H, .int .i64 g.S, .slice A g.ss.length k]] W fun e w' => e = .returned (.int .i64 (checkE g)) ∧ Hid (Below w2.heap.size w2 w')) := fun W hW =>
    (rCheck_any _ g W (HG.out.later (HB2.out.trans (hW.mono HB2.out.size)) (Nat.le_refl _))).mono fun e w' h => ⟨h.1, hW.trans (h.2.mono hW.size)⟩
  have HNk : Hid (∀ W, Below w2.heap.size w2 W → Calls Tryz.prog 18 #[v1, v2] W fun e w' => e = .returned (.bool true) ∧ Hid (Below w2.heap.size w2 w')) := fun W hW =>
    (numbers_yes _ _ _ _ rfl W (HN12.out.later hW (Nat.le_refl _)) (HN2.out.later hW (Nat.le_refl _))).mono fun e w' h => ⟨h.1, hW.trans (h.2.mono hW.size)⟩
  have HWk : Hid (∀ W, Below w2.heap.size w2 W → Calls Tryz.prog 13 #[] W fun e w' => e = .returned (.bool true) ∧ Hid (Below w2.heap.size w2 w')) := fun W hW =>
    (works_any W (HLV.out.below (HB2.out.trans (hW.mono HB2.out.size)))).mono fun e w' h => ⟨h.1, hW.trans (h.2.mono hW.size)⟩
  have HC := Lib.hid (Below.drew (Below.refl w2.heap.size w2))
  obtain ⟨e0, e1, e2, e3⟩ := grid_parts (HBB2.out.below HC.out HBB2.out.lt)
  go_upto_region 5 with (fail)
  go_cut [4] from 26 to 44 (fun s wx => s = .bool true ∧ Below w.heap.size w wx)
  case first =>
    go_region_held3 (fun w' => w'.cell? ⟨w.heap.size, 0, none⟩ = some (.int .i64 g.W) ∧ w'.cell? ⟨w.heap.size, 1, none⟩ = some (.int .i64 g.H) ∧ w'.cell? ⟨w.heap.size, 2, none⟩ = some (.int .i64 g.S) ∧ w'.cell? ⟨w.heap.size, 3, none⟩ = some (.slice A g.ss.length k))
      (first | assumption | (refine ⟨?_, ?_, ?_, ?_⟩ <;> assumption) | go_keep)
      (first
      | (go_at_call 16; (with_reducible refine (HCk.out _ HC.out).mono ?_); rintro e Wa ⟨rfl, hb1⟩; clear HC e0 e1 e2 e3; have HC := hb1; clear hb1; obtain ⟨e0, e1, e2, e3⟩ := grid_parts (HBB2.out.below HC.out HBB2.out.lt))
      | (go_at_call 17; (with_reducible refine (HRk.out _ HC.out).mono ?_); rintro e Wb ⟨rfl, hb1⟩; clear HC e0 e1 e2 e3; have HC := hb1; clear hb1; obtain ⟨e0, e1, e2, e3⟩ := grid_parts (HBB2.out.below HC.out HBB2.out.lt))
      | (go_at_call 18; (with_reducible refine (HNk.out _ HC.out).mono ?_); rintro e Wc ⟨rfl, hb1⟩; clear HC e0 e1 e2 e3; have HC := hb1; clear hb1; obtain ⟨e0, e1, e2, e3⟩ := grid_parts (HBB2.out.below HC.out HBB2.out.lt))
      | (go_at_call 13; (with_reducible refine (HWk.out _ HC.out).mono ?_); rintro e Wd ⟨rfl, hb1⟩; clear HC e0 e1 e2 e3; have HC := hb1; clear hb1; obtain ⟨e0, e1, e2, e3⟩ := grid_parts (HBB2.out.below HC.out HBB2.out.lt)))
    all_goals
      go_wp2_with fail
      go_meet
      exact ⟨rfl, HB2.out.trans (HC.out.mono HB2.out.size)⟩
  case rest =>
    obtain ⟨rfl, hbe⟩ := hcut
    have HBe := Lib.hid hbe
    clear hbe
    go_wp2
    go_ret
    exact ⟨rfl, HBe.out⟩
end Go.Proofs.YthcenmocnphnmaaGreatDoor
/-
  GridNears: the statement of the row and of its card: for whatever grid and whatever number of a cell, the law returns true and its arguments read as they did.
-/
namespace Go.Proofs.YthcenmocnphnmaaGreatDoor
open Go.ChangeShapes Go.WideShapes Go.ChangeAt Go.WideMaps Go.WideElems Go.RowKit Go.Shelf

theorem laid_out : laidOutB Tryz.prog = true := by kernel_rfl
set_option maxRecDepth 100000 in
theorem nears_lifted (os : Os) (started : os.Started) (H : Type) (enc : TypeId × Value → H) :
    ReturnsInHanded {} Tryz.checked os 3 .any (fun w args => (Rows.gridNearsSpec.pre enc Tryz.prog Tryz.f3 [] false w args ∧ laidMetH Tryz.prog laidL w) ∧ sizedMet enc Tryz.prog Tryz.f3 (OpenSpec.ofChange Rows.gridNearsSpec) false w args)
      (Rows.gridNearsSpec.post enc Tryz.prog Tryz.f3 false true false false) := by
  refine ret_shaped (s := Rows.gridNearsSpec) (conds := []) started (by kernel_rfl) Tryz.func3 #[.agg #[.int .i64 0, .int .i64 0, .int .i64 0, .slice none 0 0], .int .i64 0] (by kernel_rfl) (by kernel_rfl) (by kernel_rfl) ?_
  intro W base args ds gs before hval0 hW hlv
  have hval : ∀ (j : Nat) t v, Tryz.f3.params[j]? = some t → args[j]? = some v → Value.okWide Tryz.prog W .any base t v := hval0
  have hW' := hW
  obtain ⟨p, q, hA0, hV, rfl, _, _⟩ := hW
  have hA : DataW.TrodAll enc Tryz.prog W 0 (fun _ => true) true Tryz.f3.params.toList args.toList ds p := hA0
  rw [Tryz.params3] at hA hval
  obtain ⟨v0, v1, d0, d1, p0, p1, rfl, rfl, rfl, h0, h1⟩ := trodAll_two hA
  obtain ⟨rfl, rfl⟩ := trodVars_none hV
  obtain ⟨g, hg⟩ := grid_open (hval 0 24 v0 rfl rfl) h0
  obtain ⟨c, rfl, rfl, rfl, hwc⟩ := open_int Tryz.underlying3 (hval 1 3 v1 rfl rfl) h1
  clear hA0 hval0 hA
  simp only [List.append_nil] at hW'
  have hlt : ∀ x ∈ p0, x.block < W.heap.size := fun x hx => by simpa using hW'.lt x hx
  refine (GridNears_any v0 g c W hg hlv).mono ?_
  rintro e W' ⟨rfl, bel⟩
  refine ⟨_, rfl, _, _, _, [], p0 ++ [], [], hW', ?_, ?_, ?_, bel.frame _, fun h => by cases h⟩
  · exact trodAll_mk1 (shut_bool Tryz.underlying4 true)
  · exact trodAll_mk2 (Below.trod laid_out (by kernel_rfl) (of_decide_eq_true (by kernel_rfl)) h0 bel hlt) (shut_int Tryz.underlying3 hwc)
  · rfl
set_option maxRecDepth 100000 in
theorem nears_holds : Rows.GridNearsSaid :=
  OpenClaim.holds_of_wide 3 Tryz.f3 rfl rfl rfl rfl rfl rfl rfl ⟨rfl, rfl, rfl, rfl, rfl⟩ rfl rfl rfl rfl rfl (by kernel_rfl) Tryz.func3 (by kernel_rfl)
    (of_decide_eq_true (by kernel_rfl)) (by unfold Func.isWrapper; first | (rw [if_pos (by decide +kernel)]; kernel_rfl) | (rw [if_neg (by decide +kernel)]; exact ⟨rfl, rfl⟩))
    (fun os started H enc _ => nears_lifted os started H enc)
set_option maxRecDepth 100000 in
theorem GridNears_card : Rows.GridNearsCardSaid :=
  Claim7.holds_tied_plain_at .later [] [.data, .data, .data, .sentinel, .sentinel, .listed, .data] true _ true
    nears_holds (fun _ h => by cases h) (by kernel_rfl) (fun _ h => by cases h) gridNears_row_tie rfl ⟨rfl, rfl⟩ (by kernel_rfl) rfl
    (fun f fn hf hfn => by
      obtain rfl : f = 3 := Option.some.inj ((show Tryz.prog.funcNamed "tidewall/tidewalllaw01.GridNears" = some 3 by kernel_rfl).symm.trans hf) |>.symm
      obtain rfl : fn = Tryz.f3 := (Option.some.inj (Tryz.func3.symm.trans hfn)).symm
      exact ⟨by kernel_rfl, fun j t ht => by
        rw [Tryz.params3] at ht
        have hm : t ∈ [24, 3] := by simpa using Array.mem_of_getElem? ht
        have hall : ([24, 3].all fun u => !Tryz.prog.wantsStandIn u) = true := by kernel_rfl
        exact (show Tryz.prog.wantsStandIn t = false by simpa using List.all_eq_true.1 hall t hm)⟩)
    (by kernel_rfl)
#print axioms GridNears_card
end Go.Proofs.YthcenmocnphnmaaGreatDoor
