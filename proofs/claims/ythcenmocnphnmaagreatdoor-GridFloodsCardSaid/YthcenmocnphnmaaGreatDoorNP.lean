/-
  GridFloods returns true.
-/
import Derived.Test.YthcenmocnphnmaaGreatDoorND
import Derived.Test.YthcenmocnphnmaaGreatDoorMS
import Derived.Test.YthcenmocnphnmaaGreatDoorNG
import Derived.Test.YthcenmocnphnmaaGreatDoorTie
import Derived.Test.YthcenmocnphnmaaGreatDoorCards
set_option linter.unusedSimpArgs false
set_option linter.unusedVariables false
namespace Go.Proofs.YthcenmocnphnmaaGreatDoor
open Go.RowKit Go.Shelf

theorem map_cast_inj {a b : List Nat} (h : (a.map fun (c : Nat) => (c : Int)) = b.map fun (c : Nat) => (c : Int)) : a = b := by
  have key : ∀ l : List Nat, (l.map fun (c : Nat) => (c : Int)).map Int.toNat = l := fun l => by
    rw [List.map_map]
    refine (List.map_congr_left (g := id) fun s _ => ?_).trans (List.map_id l)
    simp
  rw [← key a, h, key b]
theorem sea_zero {g : G} {sts : List Nat} (h : seaE g (sts.map fun (c : Nat) => (c : Int)) = 0) : Valid g ∧ sts ≠ [] ∧ ∀ c, c ∈ sts → c < g.ss.length := by
  unfold seaE at h
  by_cases h0 : checkE g = 0
  · rw [if_pos h0] at h
    by_cases h1 : (sts.map fun (c : Nat) => (c : Int)).length = 0
    · rw [if_pos h1] at h
      cases h
    · rw [if_neg h1] at h
      by_cases h2 : (sts.map fun (c : Nat) => (c : Int)).all (inG g) = true
      · refine ⟨valid_of h0, by rintro rfl; exact h1 rfl, fun c hc => ?_⟩
        have := List.all_eq_true.1 h2 (c : Int) (List.mem_map.2 ⟨c, hc, rfl⟩)
        unfold inG at this
        have := of_decide_eq_true this
        omega
      · rw [if_neg h2] at h
        cases h
  · rw [if_neg h0] at h
    exact absurd h h0
theorem sills_meet {g : G} {l : List Int} {ss tt : List (Int × Int)} (h : (seaE g l ≠ 0 ∧ ss = []) ∨ (seaE g l = 0 ∧ ∃ sts, l = sts.map (fun (c : Nat) => (c : Int)) ∧ Sillz g sts ss)) (k : (seaE g l ≠ 0 ∧ tt = []) ∨ (seaE g l = 0 ∧ ∃ sts, l = sts.map (fun (c : Nat) => (c : Int)) ∧ SillB g sts tt)) : ss = tt := by
  rcases h with ⟨h0, rfl⟩ | ⟨h0, sts, rfl, hz⟩
  · rcases k with ⟨_, rfl⟩ | ⟨k0, _⟩
    · rfl
    · exact absurd k0 h0
  · rcases k with ⟨k0, _⟩ | ⟨_, sts', e, hb⟩
    · exact absurd h0 k0
    · rw [← map_cast_inj e] at hb
      obtain ⟨V, hne, hst⟩ := sea_zero h0
      exact (hb.eq V hne hst hz).symm
theorem flood_meet {g : G} {l : List Int} {lo hi : Int} {b1 c1 b2 c2 : List Bool} (h : (floodE g l lo hi ≠ 0 ∧ b1 = [] ∧ c1 = []) ∨ (floodE g l lo hi = 0 ∧ ∃ sts ss, l = sts.map (fun (c : Nat) => (c : Int)) ∧ Sillz g sts ss ∧ b1 = ss.map (fun s => decide (s.2 < lo)) ∧ c1 = ss.map (fun s => decide (s.1 < hi))))
    (k : (floodE g l lo hi ≠ 0 ∧ b2 = [] ∧ c2 = []) ∨ (floodE g l lo hi = 0 ∧ ∃ sts ss, l = sts.map (fun (c : Nat) => (c : Int)) ∧ SillB g sts ss ∧ b2 = ss.map (fun s => decide (s.2 < lo)) ∧ c2 = ss.map (fun s => decide (s.1 < hi)))) : b1 = b2 ∧ c1 = c2 := by
  have hs0 : floodE g l lo hi = 0 → seaE g l = 0 := fun h => by
    unfold floodE at h
    by_cases h0 : seaE g l = 0
    · exact h0
    · rw [if_neg h0] at h
      exact absurd h h0
  rcases h with ⟨h0, rfl, rfl⟩ | ⟨h0, sts, ss, rfl, hz, rfl, rfl⟩
  · rcases k with ⟨_, rfl, rfl⟩ | ⟨k0, _⟩
    · exact ⟨rfl, rfl⟩
    · exact absurd k0 h0
  · rcases k with ⟨k0, _⟩ | ⟨_, sts', ss', e, hb, rfl, rfl⟩
    · exact absurd h0 k0
    · rw [← map_cast_inj e] at hb
      obtain ⟨V, hne, hst⟩ := sea_zero (hs0 h0)
      rw [hb.eq V hne hst hz]
      exact ⟨rfl, rfl⟩
theorem ponds_meet {g : G} {l : List Int} {p1 p2 : List (Int × Int)} (h : (seaE g l ≠ 0 ∧ p1 = []) ∨ (seaE g l = 0 ∧ ∃ sts ss, l = sts.map (fun (c : Nat) => (c : Int)) ∧ Sillz g sts ss ∧ p1 = pondL g sts ss))
    (k : (seaE g l ≠ 0 ∧ p2 = []) ∨ (seaE g l = 0 ∧ ∃ sts, l = sts.map (fun (c : Nat) => (c : Int)) ∧ p2.length = g.ss.length ∧ ∀ (c : Nat) (h : c < p2.length), PondS g sts c p2[c])) : p1 = p2 := by
  rcases h with ⟨h0, rfl⟩ | ⟨h0, sts, ss, rfl, hz, rfl⟩
  · rcases k with ⟨_, rfl⟩ | ⟨k0, _⟩
    · rfl
    · exact absurd k0 h0
  · rcases k with ⟨k0, _⟩ | ⟨_, sts', e, hl, hp⟩
    · exact absurd h0 k0
    · have e' := map_cast_inj e
      subst e'
      obtain ⟨V, hne, hst⟩ := sea_zero h0
      exact (ponds_eq V hne hst hz hl hp).symm

set_option maxRecDepth 100000 in
set_option maxHeartbeats 8000000 in
theorem GridFloods_any (x y : Value) (g : G) (l : List Int) (lo hi : Int) (w : World) (hg : GridAt w w.heap.size x g) (hy : IntsAt w w.heap.size y l) (hv : LV w) :
    Calls Tryz.prog 4 #[x, y, .agg #[.int .i64 lo, .int .i64 hi]] w fun e w' => e = .returned (.bool true) ∧ Below w.heap.size w w' := by
  have HG := Lib.hid hg
  obtain ⟨v, rfl, hs⟩ := hg
  obtain ⟨A, k, rfl, hk, hm⟩ := hs.open_
  have HY := Lib.hid hy
  obtain ⟨A', k', rfl, hk', hm'⟩ := hy.open_
  have hB : Below w.heap.size w ((w.alloc (.cells #[.int .i64 g.W, .int .i64 g.H, .int .i64 g.S, .slice A g.ss.length k] 24)).alloc (.cells #[.int .i64 lo, .int .i64 hi] 34)) := (by repeat (first | exact Below.refl _ _ | assumption | refine Below.drew ?_ | refine Below.drewN' ?_ _ | (refine Below.alloc ?_ (by simp <;> omega) _) | (refine Below.setCell ?_ (by simp <;> omega) _)))
  have HB := Lib.hid hB
  have HLV := Lib.hid hv
  have b0 : Blk ((w.alloc (.cells #[.int .i64 g.W, .int .i64 g.H, .int .i64 g.S, .slice A g.ss.length k] 24)).alloc (.cells #[.int .i64 lo, .int .i64 hi] 34)) w.heap.size 24 #[.int .i64 g.W, .int .i64 g.H, .int .i64 g.S, .slice A g.ss.length k] := Blk.alloc (Blk.new' _ _ _ rfl) _
  have b1 : Blk ((w.alloc (.cells #[.int .i64 g.W, .int .i64 g.H, .int .i64 g.S, .slice A g.ss.length k] 24)).alloc (.cells #[.int .i64 lo, .int .i64 hi] 34)) (w.heap.size + 1) 34 #[.int .i64 lo, .int .i64 hi] := Blk.new' _ _ _ (by simp)
  have HBB := Lib.hid b0
  have HSS := Lib.hid b1
  clear hs hB b0 b1 hv hy
  obtain ⟨b, hb⟩ : ∃ b, decide (60 < g.ss.length) = b := ⟨_, rfl⟩
  have Hbb := Lib.hid hb
  clear hb
  go_enter Tryz.func4, Tryz.ntmps4
  go_wp2_with fail
  refine (large_is _ g b Hbb.out _ (HG.out.later HB.out (Nat.le_refl _))).mono ?_
  rintro e w0 ⟨rfl, hb0⟩
  have HB0 := Lib.hid (HB.out.trans (hb0.mono HB.out.size))
  have HBB0 := Lib.hid (HBB.out.below hb0 (by simp <;> omega))
  have HSS0 := Lib.hid (HSS.out.below hb0 (by simp <;> omega))
  clear hb0
  have works : b = true ∨ 60 < l.length → b = true ∨ (b = false ∧ (60 : Int) < (l.length : Int)) := fun h => by cases b <;> simp at h ⊢ <;> omega
  by_cases hbig : b = true ∨ 60 < l.length
  · rcases works hbig with rfl | ⟨rfl, h60⟩
    all_goals
      clear works hbig
      go_wp2_with fail
      refine (works_any _ (HLV.out.below HB0.out)).mono ?_
      rintro e w1 ⟨rfl, hb1⟩
      have HB1 := Lib.hid (HB0.out.trans (hb1.mono HB0.out.size))
      clear hb1
      go_wp2
      go_ret
      exact ⟨rfl, HB1.out⟩
  have hbf : b = false := by cases b <;> simp at hbig ⊢
  have h60 : ¬ (60 : Int) < (l.length : Int) := by omega
  subst hbf
  clear works hbig
  obtain ⟨z0, z1, z2, z3⟩ := grid_parts HBB0.out
  go_wp2_with fail
  refine (Sills_any _ _ g l _ (HG.out.later HB0.out (Nat.le_refl _)) (HY.out.later HB0.out (Nat.le_refl _))).mono ?_
  rintro e w1 ⟨v1, ss, rfl, hs1, hb1, hc1⟩
  have HB1 := Lib.hid (HB0.out.trans (hb1.mono HB0.out.size))
  have HBB1 := Lib.hid (HBB0.out.below hb1 HBB0.out.lt)
  have HSS1 := Lib.hid (HSS0.out.below hb1 HSS0.out.lt)
  have HV1 := Lib.hid hs1
  have HC1 := Lib.hid hc1
  clear hb1 hs1 hc1 z0 z1 z2 z3 HBB0 HSS0
  obtain ⟨z0, z1, z2, z3⟩ := grid_parts HBB1.out
  go_wp2_with fail
  refine (rSills_any _ _ g l _ (HG.out.later HB1.out (Nat.le_refl _)) (HY.out.later HB1.out (Nat.le_refl _))).mono ?_
  rintro e w2 ⟨v2, tt, rfl, hs2, hb2, hc2⟩
  have hst := sills_meet HC1.out hc2
  subst hst
  have HB2 := Lib.hid (HB1.out.trans (hb2.mono HB1.out.size))
  have HBB2 := Lib.hid (HBB1.out.below hb2 HBB1.out.lt)
  have HSS2 := Lib.hid (HSS1.out.below hb2 HSS1.out.lt)
  have HV12 := Lib.hid (HV1.out.later hb2 (Nat.le_refl _))
  have HV2 := Lib.hid hs2
  have hse : (seaE g l != seaE g l) = false := by simp
  clear hb2 hs2 hc2 HC1 z0 z1 z2 z3 HBB1 HSS1 HV1
  go_wp2_with fail
  refine (spans_yes _ _ _ _ rfl _ HV12.out HV2.out).mono ?_
  rintro e w3 ⟨rfl, hb3⟩
  have HB3 := Lib.hid (HB2.out.trans (hb3.mono HB2.out.size))
  have HBB3 := Lib.hid (HBB2.out.below hb3 HBB2.out.lt)
  have HSS3 := Lib.hid (HSS2.out.below hb3 HSS2.out.lt)
  clear hb3 HBB2 HSS2 HV12 HV2
  obtain ⟨z0, z1, z2, z3⟩ := grid_parts HBB3.out
  have y0 := HSS3.out.cell 0
  have y1 := HSS3.out.cell 1
  simp only [List.getElem?_toArray, List.getElem?_cons_zero, List.getElem?_cons_succ] at y0 y1
  go_wp2_with fail
  refine (Flood_any _ _ g l lo hi _ (HG.out.later HB3.out (Nat.le_refl _)) (HY.out.later HB3.out (Nat.le_refl _))).mono ?_
  rintro e w4 ⟨v4, u4, bs4, cs4, rfl, hv4, hu4, hb4, hc4⟩
  have HB4 := Lib.hid (HB3.out.trans (hb4.mono HB3.out.size))
  have HBB4 := Lib.hid (HBB3.out.below hb4 HBB3.out.lt)
  have HSS4 := Lib.hid (HSS3.out.below hb4 HSS3.out.lt)
  have HV4 := Lib.hid hv4
  have HU4 := Lib.hid hu4
  have HC4 := Lib.hid hc4
  clear hb4 hv4 hu4 hc4 z0 z1 z2 z3 y0 y1 HBB3 HSS3
  obtain ⟨z0, z1, z2, z3⟩ := grid_parts HBB4.out
  have y0 := HSS4.out.cell 0
  have y1 := HSS4.out.cell 1
  simp only [List.getElem?_toArray, List.getElem?_cons_zero, List.getElem?_cons_succ] at y0 y1
  go_wp2_with fail
  refine (rFlood_any _ _ g l lo hi _ (HG.out.later HB4.out (Nat.le_refl _)) (HY.out.later HB4.out (Nat.le_refl _))).mono ?_
  rintro e w5 ⟨v5, u5, bs5, cs5, rfl, hv5, hu5, hb5, hc5⟩
  obtain ⟨hf1, hf2⟩ := flood_meet HC4.out hc5
  subst hf1 hf2
  have HB5 := Lib.hid (HB4.out.trans (hb5.mono HB4.out.size))
  have HBB5 := Lib.hid (HBB4.out.below hb5 HBB4.out.lt)
  have HV45 := Lib.hid (HV4.out.later hb5 (Nat.le_refl _))
  have HU45 := Lib.hid (HU4.out.later hb5 (Nat.le_refl _))
  have HV5 := Lib.hid hv5
  have HU5 := Lib.hid hu5
  have hfe : (floodE g l lo hi != floodE g l lo hi) = false := by simp
  clear hb5 hv5 hu5 hc5 HC4 z0 z1 z2 z3 y0 y1 HBB4 HSS4 HV4 HU4
  go_wp2_with fail
  refine (bools_yes _ _ _ _ rfl _ HV45.out HV5.out).mono ?_
  rintro e w6 ⟨rfl, hb6⟩
  have HB6 := Lib.hid (HB5.out.trans (hb6.mono HB5.out.size))
  have HBB6 := Lib.hid (HBB5.out.below hb6 HBB5.out.lt)
  have HU56 := Lib.hid (HU45.out.later hb6 (Nat.le_refl _))
  have HU6 := Lib.hid (HU5.out.later hb6 (Nat.le_refl _))
  clear hb6 HV45 HV5 HU45 HU5 HBB5
  go_wp2_with fail
  refine (bools_yes _ _ _ _ rfl _ HU56.out HU6.out).mono ?_
  rintro e w7 ⟨rfl, hb7⟩
  have HB7 := Lib.hid (HB6.out.trans (hb7.mono HB6.out.size))
  have HBB7 := Lib.hid (HBB6.out.below hb7 HBB6.out.lt)
  clear hb7 HU56 HU6 HBB6
  obtain ⟨z0, z1, z2, z3⟩ := grid_parts HBB7.out
  go_wp2_with fail
  refine (Ponds_any _ _ g l _ (HG.out.later HB7.out (Nat.le_refl _)) (HY.out.later HB7.out (Nat.le_refl _))).mono ?_
  rintro e w8 ⟨v8, p8, rfl, hs8, hb8, hc8⟩
  have HB8 := Lib.hid (HB7.out.trans (hb8.mono HB7.out.size))
  have HBB8 := Lib.hid (HBB7.out.below hb8 HBB7.out.lt)
  have HV8 := Lib.hid hs8
  have HC8 := Lib.hid hc8
  clear hb8 hs8 hc8 z0 z1 z2 z3 HBB7
  obtain ⟨z0, z1, z2, z3⟩ := grid_parts HBB8.out
  go_wp2_with fail
  refine (rPonds_any _ _ g l _ (HG.out.later HB8.out (Nat.le_refl _)) (HY.out.later HB8.out (Nat.le_refl _))).mono ?_
  rintro e w9 ⟨v9, p9, rfl, hs9, hb9, hc9⟩
  have hp := ponds_meet HC8.out hc9
  subst hp
  have HB9 := Lib.hid (HB8.out.trans (hb9.mono HB8.out.size))
  have HV89 := Lib.hid (HV8.out.later hb9 (Nat.le_refl _))
  have HV9 := Lib.hid hs9
  have hse' : (seaE g l == seaE g l) = true := by simp
  clear hb9 hs9 hc9 HC8 z0 z1 z2 z3 HBB8 HV8
  go_wp2_with fail
  refine (spans_yes _ _ _ _ rfl _ HV89.out HV9.out).mono ?_
  rintro e w10 ⟨rfl, hb10⟩
  have HB10 := Lib.hid (HB9.out.trans (hb10.mono HB9.out.size))
  clear hb10 HV89 HV9
  go_wp2_with fail
  refine (works_any _ (HLV.out.below HB10.out)).mono ?_
  rintro e w11 ⟨rfl, hb11⟩
  have HB11 := Lib.hid (HB10.out.trans (hb11.mono HB10.out.size))
  clear hb11
  go_wp2
  go_ret
  exact ⟨rfl, HB11.out⟩
end Go.Proofs.YthcenmocnphnmaaGreatDoor
/-
  GridFloods: for whatever grid, sea and level, the law returns true and its arguments read as they did (no condition).
-/
namespace Go.Proofs.YthcenmocnphnmaaGreatDoor
open Go.ChangeShapes Go.WideShapes Go.ChangeAt Go.WideMaps Go.WideElems Go.RowKit Go.Shelf

namespace GridFloods
theorem laid_out : laidOutB Tryz.prog = true := by kernel_rfl
set_option maxRecDepth 100000 in
theorem lifted (os : Os) (started : os.Started) (H : Type) (enc : TypeId × Value → H) :
    ReturnsInHanded {} Tryz.checked os 4 .any (fun w args => (Rows.gridFloodsSpec.pre enc Tryz.prog Tryz.f4 [] false w args ∧ laidMetH Tryz.prog laidL w) ∧ sizedMet enc Tryz.prog Tryz.f4 (OpenSpec.ofChange Rows.gridFloodsSpec) false w args)
      (Rows.gridFloodsSpec.post enc Tryz.prog Tryz.f4 false true false false) := by
  refine ret_shaped (s := Rows.gridFloodsSpec) (conds := []) started (by kernel_rfl) Tryz.func4 #[.agg #[.int .i64 0, .int .i64 0, .int .i64 0, .slice none 0 0], .slice none 0 0, .agg #[.int .i64 0, .int .i64 0]] (by kernel_rfl) (by kernel_rfl) (by kernel_rfl) ?_
  intro W base args ds gs before hval0 hW hlv
  have hval : ∀ (j : Nat) t v, Tryz.f4.params[j]? = some t → args[j]? = some v → Value.okWide Tryz.prog W .any base t v := hval0
  have hW' := hW
  obtain ⟨p, q, hA0, hV, rfl, _, _⟩ := hW
  have hA : DataW.TrodAll enc Tryz.prog W 0 (fun _ => true) true Tryz.f4.params.toList args.toList ds p := hA0
  rw [Tryz.params4] at hA hval
  obtain ⟨v0, v1, v2, d0, d1, d2, p0, p1, p2, rfl, rfl, rfl, h0, h1, h2⟩ := trodAll_three hA
  obtain ⟨rfl, rfl⟩ := trodVars_none hV
  obtain ⟨g0, hg0⟩ := grid_open (hval 0 24 v0 rfl rfl) h0
  obtain ⟨l1, hl1⟩ := ints_open (hval 1 26 v1 rfl rfl) h1
  obtain ⟨lo2, hi2, rfl⟩ := span_open (hval 2 34 v2 rfl rfl) h2
  clear hA0 hval0 hA
  simp only [List.append_nil] at hW'
  have hlt : ∀ x ∈ p0 ++ p1 ++ p2, x.block < W.heap.size := fun x hx => by simpa using hW'.lt x hx
  have k0 : ∀ x ∈ p0, x.block < W.heap.size := fun x hx => hlt x (by simp [hx])
  have k1 : ∀ x ∈ p1, x.block < W.heap.size := fun x hx => hlt x (by simp [hx])
  have k2 : ∀ x ∈ p2, x.block < W.heap.size := fun x hx => hlt x (by simp [hx])
  refine (GridFloods_any v0 v1 g0 l1 lo2 hi2 W hg0 hl1 hlv).mono ?_
  rintro e W' ⟨rfl, bel⟩
  refine ⟨_, rfl, _, _, _, [], (p0 ++ (p1 ++ p2)), [], hW', ?_, ?_, ?_, bel.frame _, fun h => by cases h⟩
  · exact trodAll_mk1 (shut_bool Tryz.underlying4 true)
  · exact trodAll_mk3 (Below.trod laid_out (by kernel_rfl) (of_decide_eq_true (by kernel_rfl)) h0 bel k0) (Below.trod laid_out (by kernel_rfl) (of_decide_eq_true (by kernel_rfl)) h1 bel k1) (Below.trod laid_out (by kernel_rfl) (of_decide_eq_true (by kernel_rfl)) h2 bel k2)
  · rfl
set_option maxRecDepth 100000 in
theorem bare : Rows.GridFloodsSaid :=
  OpenClaim.holds_of_wide 4 Tryz.f4 rfl rfl rfl rfl rfl rfl rfl ⟨rfl, rfl, rfl, rfl, rfl⟩ rfl rfl rfl rfl rfl (by kernel_rfl) Tryz.func4 (by kernel_rfl)
    (of_decide_eq_true (by kernel_rfl)) (by unfold Func.isWrapper; first | (rw [if_pos (by decide +kernel)]; kernel_rfl) | (rw [if_neg (by decide +kernel)]; exact ⟨rfl, rfl⟩))
    (fun os started H enc _ => lifted os started H enc)
end GridFloods
set_option maxRecDepth 100000 in
theorem GridFloods_card : Rows.GridFloodsCardSaid :=
  Claim7.holds_tied_plain_at .later [] [.data, .data, .data, .sentinel, .sentinel, .listed, .data] true _ true
    GridFloods.bare (fun _ h => by cases h) (by kernel_rfl) (fun _ h => by cases h) gridFloods_row_tie rfl ⟨rfl, rfl⟩ (by kernel_rfl) rfl
    (fun f fn hf hfn => by
      obtain rfl : f = 4 := Option.some.inj ((show Tryz.prog.funcNamed "tidewall/tidewalllaw01.GridFloods" = some 4 by kernel_rfl).symm.trans hf) |>.symm
      obtain rfl : fn = Tryz.f4 := (Option.some.inj (Tryz.func4.symm.trans hfn)).symm
      exact ⟨by kernel_rfl, fun j t ht => by
        rw [Tryz.params4] at ht
        have hm : t ∈ [24, 26, 34] := by simpa using Array.mem_of_getElem? ht
        have hall : ([24, 26, 34].all fun u => !Tryz.prog.wantsStandIn u) = true := by kernel_rfl
        exact (show Tryz.prog.wantsStandIn t = false by simpa using List.all_eq_true.1 hall t hm)⟩)
    (by kernel_rfl)
#print axioms GridFloods_card
end Go.Proofs.YthcenmocnphnmaaGreatDoor
