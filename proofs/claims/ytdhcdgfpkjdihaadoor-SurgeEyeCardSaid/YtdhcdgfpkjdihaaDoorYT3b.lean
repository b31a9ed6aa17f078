/-
  SurgeEye: for whatever grid, storm, cell and cuts, the law returns true and its arguments read as they did (the table of directions as it is laid).
-/
import Derived.Test.YtdhcdgfpkjdihaaDoorYL3d
import Derived.Test.YtdhcdgfpkjdihaaDoorYW3b
import Derived.Test.YtdhcdgfpkjdihaaDoorTie
import Derived.Test.YtdhcdgfpkjdihaaDoorCards
set_option linter.unusedSimpArgs false
set_option linter.unusedVariables false
namespace Go.Proofs.YtdhcdgfpkjdihaaDoor.Sg
open Go.ChangeShapes Go.WideShapes Go.ChangeAt Go.WideMaps Go.WideElems Go.RowKit Go.Shelf
namespace SurgeEye
set_option maxRecDepth 100000 in
theorem lifted (os : Os) (started : os.Started) (H : Type) (enc : TypeId × Value → H) :
 ReturnsInHanded {} Tryd.checked os 12 .any (fun w args => (Rows.surgeEyeSpec.pre enc Tryd.prog Tryd.f12 [] false w args ∧ laidMetH Tryd.prog laidL w) ∧ sizedMet enc Tryd.prog Tryd.f12 (OpenSpec.ofChange Rows.surgeEyeSpec) false w args)
  (Rows.surgeEyeSpec.post enc Tryd.prog Tryd.f12 false true false false) := by
 refine ret_shaped (s := Rows.surgeEyeSpec) (conds := []) started (by kernel_rfl) Tryd.func12 #[.agg #[.int .i64 0, .int .i64 0, .int .i64 0, .slice none 0 0], .agg #[.int .i64 0, .int .i64 0, .int .i64 0, .int .i64 0, .int .i64 0, .int .i64 0, .int .i64 0, .int .i64 0, .int .i64 0], .int .i64 0, .slice none 0 0] (by kernel_rfl) (by kernel_rfl) (by kernel_rfl) ?_
 intro W base args ds gs before hval0 hW hlv
 have hval : ∀ (j : Nat) t v, Tryd.f12.params[j]? = some t → args[j]? = some v → Value.okWide Tryd.prog W .any base t v := hval0
 have hW' := hW
 obtain ⟨p, q, hA0, hV, rfl, _, _⟩ := hW
 have hA : DataW.TrodAll enc Tryd.prog W 0 (fun _ => true) true Tryd.f12.params.toList args.toList ds p := hA0
 rw [Tryd.params12] at hA hval
 obtain ⟨v0, v1, v2, v3, d0, d1, d2, d3, p0, p1, p2, p3, rfl, rfl, rfl, h0, h1, h2, h3⟩ := trodAll_four hA
 obtain ⟨rfl, rfl⟩ := trodVars_none hV
 obtain ⟨c2, rfl, _, _, _⟩ := open_int Tryd.underlying3 (hval 2 3 v2 rfl rfl) h2
 obtain ⟨W0, H0, S0, A0, c0, ss0, rfl, hs0⟩ := grid_open (hval 0 24 v0 rfl rfl) h0
 obtain ⟨x1, x1b, y1, y1b, r1, m1, m1b, q1, q1b, rfl⟩ := storm_open (hval 1 70 v1 rfl rfl) h1
 obtain ⟨A3, c3, l3, rfl, hl3, hu3⟩ := cuts_open (hval 3 79 v3 rfl rfl) h3
 clear hA0 hval0 hA
 simp only [List.append_nil] at hW'
 have hlt : ∀ x ∈ p0 ++ p1 ++ p2 ++ p3, x.block < W.heap.size := fun x hx => by simpa using hW'.lt x hx
 have k0 : ∀ x ∈ p0, x.block < W.heap.size := fun x hx => hlt x (by simp [hx])
 have k1 : ∀ x ∈ p1, x.block < W.heap.size := fun x hx => hlt x (by simp [hx])
 have k2 : ∀ x ∈ p2, x.block < W.heap.size := fun x hx => hlt x (by simp [hx])
 have k3 : ∀ x ∈ p3, x.block < W.heap.size := fun x hx => hlt x (by simp [hx])
 refine (SurgeEye_any W0 H0 S0 ss0 A0 c0 x1 x1b y1 y1b r1 m1 m1b q1 q1b c2 A3 c3 l3 W hlv hs0 hl3 hu3).mono ?_
 rintro e W' ⟨rfl, bel⟩
 refine ⟨_, rfl, _, _, _, [], (p0 ++ (p1 ++ (p2 ++ p3))), [], hW', ?_, ?_, ?_, bel.frame _, fun h => by cases h⟩
 · exact trodAll_mk1 (shut_bool Tryd.underlying4 true)
 · exact trodAll_mk4 (Below.trod laid_out (by kernel_rfl) (of_decide_eq_true (by kernel_rfl)) h0 bel k0) (Below.trod laid_out (by kernel_rfl) (of_decide_eq_true (by kernel_rfl)) h1 bel k1) (Below.trod laid_out (by kernel_rfl) (of_decide_eq_true (by kernel_rfl)) h2 bel k2) (Below.trod laid_out (by kernel_rfl) (of_decide_eq_true (by kernel_rfl)) h3 bel k3)
 · rfl
set_option maxRecDepth 100000 in
theorem bare : Rows.SurgeEyeSaid :=
 OpenClaim.holds_of_wide 12 Tryd.f12 rfl rfl rfl rfl rfl rfl rfl ⟨rfl, rfl, rfl, rfl, rfl⟩ rfl rfl rfl rfl rfl (by kernel_rfl) Tryd.func12 (by kernel_rfl)
  (of_decide_eq_true (by kernel_rfl)) (by unfold Func.isWrapper; first | (rw [if_pos (by decide +kernel)]; kernel_rfl) | (rw [if_neg (by decide +kernel)]; exact ⟨rfl, rfl⟩))
  (fun os started H enc _ => lifted os started H enc)
end SurgeEye
set_option maxRecDepth 100000 in
theorem SurgeEye_tied : Rows.SurgeEyeCardSaid :=
 Claim7.holds_tied_plain_at .later [] [.data] true _ false
  SurgeEye.bare (fun _ h => by cases h) (by kernel_rfl) (fun _ h => by cases h) surgeEye_row_tie rfl ⟨rfl, rfl⟩ (by kernel_rfl) rfl
  (fun f fn hf hfn => by
   obtain rfl : f = 12 := Option.some.inj ((show Tryd.prog.funcNamed "tidewall/tidewalllaw03.SurgeEye" = some 12 by kernel_rfl).symm.trans hf) |>.symm
   obtain rfl : fn = Tryd.f12 := (Option.some.inj (Tryd.func12.symm.trans hfn)).symm
   exact ⟨by kernel_rfl, fun j t ht => by
    rw [Tryd.params12] at ht
    have hm : t ∈ [24, 70, 3, 79] := by simpa using Array.mem_of_getElem? ht
    have hall : ([24, 70, 3, 79].all fun u => !Tryd.prog.wantsStandIn u) = true := by kernel_rfl
    exact (show Tryd.prog.wantsStandIn t = false by simpa using List.all_eq_true.1 hall t hm)⟩)
  (by kernel_rfl)
end Go.Proofs.YtdhcdgfpkjdihaaDoor.Sg
namespace Go.Proofs.YtdhcdgfpkjdihaaDoor
theorem SurgeEye_card : Rows.SurgeEyeCardSaid := Sg.SurgeEye_tied
#print axioms SurgeEye_card
end Go.Proofs.YtdhcdgfpkjdihaaDoor
