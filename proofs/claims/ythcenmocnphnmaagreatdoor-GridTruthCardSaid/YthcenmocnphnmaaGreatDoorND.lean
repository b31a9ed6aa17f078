/-
  The examples of the chapter hold: works.
-/
import Derived.Test.YthcenmocnphnmaaGreatDoorNC
import Derived.Test.YthcenmocnphnmaaGreatDoorML
set_option linter.unusedSimpArgs false
set_option linter.unusedVariables false
namespace Go.Proofs.YthcenmocnphnmaaGreatDoor
open Go.RowKit Go.Shelf

set_option maxRecDepth 100000 in
set_option maxHeartbeats 8000000 in
theorem works_any (w : World) (hv : LV w) :
    Calls Tryz.prog 13 #[] w fun e w' => e = .returned (.bool true) ∧ Below w.heap.size w w' := by
  have HLV := Lib.hid hv
  clear hv
  go_enter Tryz.func13, Tryz.ntmps13
  go_wp2_with fail
  refine (row_any _).mono ?_
  rintro e w1 ⟨v, rfl, hs1, hb1⟩
  obtain ⟨A, c, rfl, _, _⟩ := hs1.open_
  have hg1 : GridAt w1 w1.heap.size (.agg #[.int .i64 4, .int .i64 1, .int .i64 100, .slice A rowG.ss.length c]) rowG := ⟨_, rfl, hs1⟩
  have hB1 : Below w.heap.size w (w1.alloc (.cells #[.int .i64 4, .int .i64 1, .int .i64 100, .slice A rowG.ss.length c] 24)) := hb1.trans ((Below.refl _ _).alloc hb1.size _)
  have hK1 : Blk (w1.alloc (.cells #[.int .i64 4, .int .i64 1, .int .i64 100, .slice A rowG.ss.length c] 24)) w1.heap.size 24 #[.int .i64 4, .int .i64 1, .int .i64 100, .slice A rowG.ss.length c] := Blk.new' _ _ _ rfl
  have HG1 := Lib.hid (hg1.later ((Below.refl w1.heap.size w1).alloc (Nat.le_refl _) (.cells #[.int .i64 4, .int .i64 1, .int .i64 100, .slice A rowG.ss.length c] 24)) (Nat.le_refl _))
  have HB1 := Lib.hid hB1
  have HK1 := Lib.hid hK1
  have hw1 := hb1.size
  clear hs1 hb1 hg1 hB1 hK1
  have hx1 : (w1.alloc (.cells #[.int .i64 4, .int .i64 1, .int .i64 100, .slice A rowG.ss.length c] 24)).heap.size = w1.heap.size + 1 := by simp
  go_wp2_with fail
  refine (eNear _ _ HG1.out).mono ?_
  rintro e w2 ⟨v2, rfl, hn2, hb2⟩
  have hlv := HLV.out.below HB1.out
  have HLV2 := Lib.hid (hlv.below hb2)
  have HB2 := Lib.hid (HB1.out.trans (hb2.mono (by rw [hx1]; omega)))
  have HG2 := Lib.hid (HG1.out.later hb2 (Nat.le_refl _))
  have HK2 := Lib.hid (HK1.out.below hb2 (by rw [hx1]; omega))
  have HV2 := Lib.hid hn2
  have hw2 : w1.heap.size < w2.heap.size := by have := hb2.size; omega
  clear hn2 hb2 hlv HK1 HG1 HB1 HLV hx1
  obtain ⟨z0, z1, z2, z3⟩ := grid_parts HK2.out
  go_wp2_with fail
  refine (eSills _ _ _ (HG2.out.later ((Below.refl w2.heap.size w2).alloc (Nat.le_refl _) _) (Nat.le_refl _)) (ints_lit w2 #[.int .i64 0] 1 [0] rfl (by decide) rfl)).mono ?_
  rintro e w3 ⟨v3, rfl, hn3, hb3⟩
  have hc3 := ((Below.refl w2.heap.size w2).alloc (Nat.le_refl _) _).trans (hb3.mono (by simp))
  have HV3 := Lib.hid hn3
  clear hn3 hb3 z0 z1 z2 z3
  have HB3 := Lib.hid (HB2.out.trans (hc3.mono HB2.out.size))
  have HLV3 := Lib.hid (HLV2.out.below hc3)
  have HG3 := Lib.hid (HG2.out.later hc3 (Nat.le_refl _))
  have HK3 := Lib.hid (HK2.out.below hc3 HK2.out.lt)
  have hw3 : w1.heap.size < w3.heap.size := HK3.out.lt
  have HV2x3 := Lib.hid (HV2.out.later hc3 (Nat.le_refl _))
  clear HV2
  have HV2 := HV2x3
  clear HV2x3
  clear hc3 HB2 HLV2 HG2 HK2
  obtain ⟨z0, z1, z2, z3⟩ := grid_parts HK3.out
  go_wp2_with fail
  refine (eFlood _ _ _ (HG3.out.later ((Below.refl w3.heap.size w3).alloc (Nat.le_refl _) _) (Nat.le_refl _)) (ints_lit w3 #[.int .i64 0] 1 [0] rfl (by decide) rfl)).mono ?_
  rintro e w4 ⟨v4, u4, rfl, hn4, hm4, hb4⟩
  have hc4 := ((Below.refl w3.heap.size w3).alloc (Nat.le_refl _) _).trans (hb4.mono (by simp))
  have HV4 := Lib.hid hn4
  have HU4 := Lib.hid hm4
  clear hn4 hm4 hb4 z0 z1 z2 z3
  have HB4 := Lib.hid (HB3.out.trans (hc4.mono HB3.out.size))
  have HLV4 := Lib.hid (HLV3.out.below hc4)
  have HG4 := Lib.hid (HG3.out.later hc4 (Nat.le_refl _))
  have HK4 := Lib.hid (HK3.out.below hc4 HK3.out.lt)
  have hw4 : w1.heap.size < w4.heap.size := HK4.out.lt
  have HV2x4 := Lib.hid (HV2.out.later hc4 (Nat.le_refl _))
  clear HV2
  have HV2 := HV2x4
  clear HV2x4
  have HV3x4 := Lib.hid (HV3.out.later hc4 (Nat.le_refl _))
  clear HV3
  have HV3 := HV3x4
  clear HV3x4
  clear hc4 HB3 HLV3 HG3 HK3
  go_wp2_with fail
  refine (numbers_yes _ _ _ _ rfl _ (HV2.out.later ((Below.refl w4.heap.size w4).alloc (Nat.le_refl _) _) (Nat.le_refl _)) (ints_lit w4 #[.int .i64 2, .int .i64 0] 2 [2, 0] rfl (by decide) rfl)).mono ?_
  rintro e w5 ⟨rfl, hb5⟩
  have hc5 := ((Below.refl w4.heap.size w4).alloc (Nat.le_refl _) _).trans (hb5.mono (by simp))
  clear hb5 HV2
  have HB5 := Lib.hid (HB4.out.trans (hc5.mono HB4.out.size))
  have HLV5 := Lib.hid (HLV4.out.below hc5)
  have HG5 := Lib.hid (HG4.out.later hc5 (Nat.le_refl _))
  have HK5 := Lib.hid (HK4.out.below hc5 HK4.out.lt)
  have hw5 : w1.heap.size < w5.heap.size := HK5.out.lt
  have HV3x5 := Lib.hid (HV3.out.later hc5 (Nat.le_refl _))
  clear HV3
  have HV3 := HV3x5
  clear HV3x5
  have HV4x5 := Lib.hid (HV4.out.later hc5 (Nat.le_refl _))
  clear HV4
  have HV4 := HV4x5
  clear HV4x5
  have HU4x5 := Lib.hid (HU4.out.later hc5 (Nat.le_refl _))
  clear HU4
  have HU4 := HU4x5
  clear HU4x5
  clear hc5 HB4 HLV4 HG4 HK4
  go_wp2_with fail
  refine (spans_yes _ _ _ _ rfl _ (HV3.out.later ((Below.refl w5.heap.size w5).alloc (Nat.le_refl _) _) (Nat.le_refl _)) (spans_lit w5 #[.int .i64 (-500), .int .i64 (-500), .int .i64 10, .int .i64 20, .int .i64 10, .int .i64 20, .int .i64 10, .int .i64 40] 4 _ rfl (by decide) rfl)).mono ?_
  rintro e w6 ⟨rfl, hb6⟩
  have hc6 := ((Below.refl w5.heap.size w5).alloc (Nat.le_refl _) _).trans (hb6.mono (by simp))
  clear hb6 HV3
  have HB6 := Lib.hid (HB5.out.trans (hc6.mono HB5.out.size))
  have HLV6 := Lib.hid (HLV5.out.below hc6)
  have HG6 := Lib.hid (HG5.out.later hc6 (Nat.le_refl _))
  have HK6 := Lib.hid (HK5.out.below hc6 HK5.out.lt)
  have hw6 : w1.heap.size < w6.heap.size := HK6.out.lt
  have HV4x6 := Lib.hid (HV4.out.later hc6 (Nat.le_refl _))
  clear HV4
  have HV4 := HV4x6
  clear HV4x6
  have HU4x6 := Lib.hid (HU4.out.later hc6 (Nat.le_refl _))
  clear HU4
  have HU4 := HU4x6
  clear HU4x6
  clear hc6 HB5 HLV5 HG5 HK5
  go_wp2_with fail
  refine (bools_yes _ _ _ _ rfl _ (HV4.out.later ((Below.refl w6.heap.size w6).alloc (Nat.le_refl _) _) (Nat.le_refl _)) (bools_lit w6 #[.bool true, .bool false, .bool false, .bool false] 4 _ rfl (by decide) rfl)).mono ?_
  rintro e w7 ⟨rfl, hb7⟩
  have hc7 := ((Below.refl w6.heap.size w6).alloc (Nat.le_refl _) _).trans (hb7.mono (by simp))
  clear hb7 HV4
  have HB7 := Lib.hid (HB6.out.trans (hc7.mono HB6.out.size))
  have HLV7 := Lib.hid (HLV6.out.below hc7)
  have HG7 := Lib.hid (HG6.out.later hc7 (Nat.le_refl _))
  have HK7 := Lib.hid (HK6.out.below hc7 HK6.out.lt)
  have hw7 : w1.heap.size < w7.heap.size := HK7.out.lt
  have HU4x7 := Lib.hid (HU4.out.later hc7 (Nat.le_refl _))
  clear HU4
  have HU4 := HU4x7
  clear HU4x7
  clear hc7 HB6 HLV6 HG6 HK6
  go_wp2_with fail
  refine (bools_yes _ _ _ _ rfl _ (HU4.out.later ((Below.refl w7.heap.size w7).alloc (Nat.le_refl _) _) (Nat.le_refl _)) (bools_lit w7 #[.bool true, .bool true, .bool true, .bool true] 4 _ rfl (by decide) rfl)).mono ?_
  rintro e w8 ⟨rfl, hb8⟩
  have hc8 := ((Below.refl w7.heap.size w7).alloc (Nat.le_refl _) _).trans (hb8.mono (by simp))
  clear hb8 HU4
  have HB8 := Lib.hid (HB7.out.trans (hc8.mono HB7.out.size))
  have HLV8 := Lib.hid (HLV7.out.below hc8)
  have HG8 := Lib.hid (HG7.out.later hc8 (Nat.le_refl _))
  have HK8 := Lib.hid (HK7.out.below hc8 HK7.out.lt)
  have hw8 : w1.heap.size < w8.heap.size := HK8.out.lt
  clear hc8 HB7 HLV7 HG7 HK7
  obtain ⟨z0, z1, z2, z3⟩ := grid_parts HK8.out
  go_wp2_with fail
  refine (ePonds _ _ _ (HG8.out.later ((Below.refl w8.heap.size w8).alloc (Nat.le_refl _) _) (Nat.le_refl _)) (ints_lit w8 #[.int .i64 0] 1 [0] rfl (by decide) rfl)).mono ?_
  rintro e w9 ⟨v9, rfl, hn9, hb9⟩
  have hc9 := ((Below.refl w8.heap.size w8).alloc (Nat.le_refl _) _).trans (hb9.mono (by simp))
  have HV9 := Lib.hid hn9
  clear hn9 hb9 z0 z1 z2 z3
  have HB9 := Lib.hid (HB8.out.trans (hc9.mono HB8.out.size))
  have HLV9 := Lib.hid (HLV8.out.below hc9)
  have HG9 := Lib.hid (HG8.out.later hc9 (Nat.le_refl _))
  have HK9 := Lib.hid (HK8.out.below hc9 HK8.out.lt)
  have hw9 : w1.heap.size < w9.heap.size := HK9.out.lt
  clear hc9 HB8 HLV8 HG8 HK8
  obtain ⟨z0, z1, z2, z3⟩ := grid_parts HK9.out
  go_wp2_with fail
  refine (eTight _ _ HG9.out).mono ?_
  rintro e w10 ⟨v10, rfl, hn10, hb10⟩
  obtain ⟨A4, c4, rfl, _, _⟩ := hn10.open_
  have hT : GridAt w10 w10.heap.size (.agg #[.int .i64 4, .int .i64 1, .int .i64 100, .slice A4 rowT.length c4]) ⟨4, 1, 100, rowT⟩ := ⟨_, rfl, hn10⟩
  have HT := Lib.hid hT
  clear hn10 hT z0 z1 z2 z3
  have HB10 := Lib.hid (HB9.out.trans (hb10.mono HB9.out.size))
  have HLV10 := Lib.hid (HLV9.out.below hb10)
  have HG10 := Lib.hid (HG9.out.later hb10 (Nat.le_refl _))
  have HK10 := Lib.hid (HK9.out.below hb10 HK9.out.lt)
  have hw10 : w1.heap.size < w10.heap.size := HK10.out.lt
  have HV9x10 := Lib.hid (HV9.out.later hb10 (Nat.le_refl _))
  clear HV9
  have HV9 := HV9x10
  clear HV9x10
  clear hb10 HB9 HLV9 HG9 HK9
  have HKT : Hid (Blk (w10.alloc (.cells #[.int .i64 4, .int .i64 1, .int .i64 100, .slice A4 rowT.length c4] 24)) w10.heap.size 24 #[.int .i64 4, .int .i64 1, .int .i64 100, .slice A4 rowT.length c4]) := Blk.new' _ _ _ rfl
  have z0 := (HK10.out.alloc (.cells #[.int .i64 4, .int .i64 1, .int .i64 100, .slice A4 rowT.length c4] 24))
  obtain ⟨z0, z1, z2, z3⟩ := grid_parts z0
  go_wp2_with fail
  refine (eTight0 _ _ (HG10.out.later ((Below.refl w10.heap.size w10).alloc (Nat.le_refl _) _) (Nat.le_refl _))).mono ?_
  rintro e w11 ⟨y11, rfl, hb11⟩
  have hc11 := ((Below.refl w10.heap.size w10).alloc (Nat.le_refl _) _).trans (hb11.mono (by simp))
  have HKT11 := Lib.hid (HKT.out.below hb11 (by simp))
  have hw10' : w10.heap.size < w11.heap.size := HKT11.out.lt
  clear hb11 HKT z0 z1 z2 z3
  have HB11 := Lib.hid (HB10.out.trans (hc11.mono HB10.out.size))
  have HLV11 := Lib.hid (HLV10.out.below hc11)
  have HG11 := Lib.hid (HG10.out.later hc11 (Nat.le_refl _))
  have HK11 := Lib.hid (HK10.out.below hc11 HK10.out.lt)
  have hw11 : w1.heap.size < w11.heap.size := HK11.out.lt
  have HV9x11 := Lib.hid (HV9.out.later hc11 (Nat.le_refl _))
  clear HV9
  have HV9 := HV9x11
  clear HV9x11
  have HTx11 := Lib.hid (HT.out.later hc11 (Nat.le_refl _))
  clear HT
  have HT := HTx11
  clear HTx11
  clear hc11 HB10 HLV10 HG10 HK10
  go_wp2_with fail
  refine (spans_yes _ _ _ _ rfl _ (HV9.out.later ((Below.refl w11.heap.size w11).alloc (Nat.le_refl _) _) (Nat.le_refl _)) (spans_lit w11 #[.int .i64 0, .int .i64 0, .int .i64 0, .int .i64 0, .int .i64 20, .int .i64 50, .int .i64 0, .int .i64 15] 4 _ rfl (by decide) rfl)).mono ?_
  rintro e w12 ⟨rfl, hb12⟩
  have hc12 := ((Below.refl w11.heap.size w11).alloc (Nat.le_refl _) _).trans (hb12.mono (by simp))
  have HKT12 := Lib.hid (HKT11.out.below hc12 HKT11.out.lt)
  have hw12' : w10.heap.size < w12.heap.size := HKT12.out.lt
  clear hb12 HV9 HKT11
  have HB12 := Lib.hid (HB11.out.trans (hc12.mono HB11.out.size))
  have HLV12 := Lib.hid (HLV11.out.below hc12)
  have HG12 := Lib.hid (HG11.out.later hc12 (Nat.le_refl _))
  have HK12 := Lib.hid (HK11.out.below hc12 HK11.out.lt)
  have hw12 : w1.heap.size < w12.heap.size := HK12.out.lt
  have HTx12 := Lib.hid (HT.out.later hc12 (Nat.le_refl _))
  clear HT
  have HT := HTx12
  clear HTx12
  clear hc12 HB11 HLV11 HG11 HK11
  obtain ⟨bt, ot, rfl, hbt, k0, k1⟩ := (show SpansAt w12 w12.heap.size (.slice A4 rowT.length c4) rowT from by obtain ⟨v, e, hs⟩ := HT.out; injection e with e; injection e with e; injection e with _ e; injection e with _ e; injection e with _ e; injection e with e _; rw [e]; exact hs).at_ (k := 1) (by decide)
  obtain ⟨y0, y1, y2, y3⟩ := grid_parts HKT12.out
  have hl4 : (rowT.length : Int) = 4 := rfl
  have k0' : w12.cell? ⟨bt, ot + 2, none⟩ = some (.int .i64 10) := k0
  have k1' : w12.cell? ⟨bt, ot + 3, none⟩ = some (.int .i64 15) := k1
  clear k0 k1
  have hne := fun W : World => neq_span W 10 15 10 15
  obtain ⟨z0, z1, z2, z3⟩ := grid_parts HK12.out
  go_wp2_with fail
  refine (eMeas _ _ _ (HG12.out.later ((Below.refl w12.heap.size w12).alloc (Nat.le_refl _) _) (Nat.le_refl _)) (snds_lit w12 #[.int .i64 1, .int .i64 5, .int .i64 10, .int .i64 2, .int .i64 (-40), .int .i64 5] 2 [(1, 5, 10), (2, -40, 5)] rfl (by decide) rfl rfl)).mono ?_
  rintro e w13 ⟨A11, c11, rfl, hb13⟩
  have hc13 := ((Below.refl w12.heap.size w12).alloc (Nat.le_refl _) _).trans (hb13.mono (by simp))
  have HKT13 := Lib.hid (HKT12.out.below hc13 HKT12.out.lt)
  have hw13' : w10.heap.size < w13.heap.size := HKT13.out.lt
  clear hb13 HKT12 y0 y1 y2 y3 hne k0' k1' hbt hl4 z0 z1 z2 z3
  have HB13 := Lib.hid (HB12.out.trans (hc13.mono HB12.out.size))
  have HLV13 := Lib.hid (HLV12.out.below hc13)
  have HG13 := Lib.hid (HG12.out.later hc13 (Nat.le_refl _))
  have HK13 := Lib.hid (HK12.out.below hc13 HK12.out.lt)
  have hw13 : w1.heap.size < w13.heap.size := HK13.out.lt
  have HTx13 := Lib.hid (HT.out.later hc13 (Nat.le_refl _))
  clear HT
  have HT := HTx13
  clear HTx13
  clear hc13 HB12 HLV12 HG12 HK12
  obtain ⟨z0, z1, z2, z3⟩ := grid_parts (HK13.out.alloc (.cells #[.int .i64 0, .int .i64 0, .int .i64 0, .slice A11 0 c11] 24))
  obtain ⟨y0, y1, y2, y3⟩ := grid_parts (HKT13.out.alloc (.cells #[.int .i64 0, .int .i64 0, .int .i64 0, .slice A11 0 c11] 24))
  go_wp2_with fail
  refine (eNarrow _ _ _ (HG13.out.later ((Below.refl w13.heap.size w13).alloc (Nat.le_refl _) _) (Nat.le_refl _)) (HT.out.later ((Below.refl w13.heap.size w13).alloc (Nat.le_refl _) _) (Nat.le_refl _))).mono ?_
  rintro e w14 ⟨v14, rfl, hn14, hb14⟩
  obtain ⟨A14, c14, rfl, _, _⟩ := hn14.open_
  have hN : GridAt w14 w14.heap.size (.agg #[.int .i64 4, .int .i64 1, .int .i64 100, .slice A14 rowT.length c14]) ⟨4, 1, 100, rowT⟩ := ⟨_, rfl, hn14⟩
  have HN := Lib.hid hN
  have hc14 := ((Below.refl w13.heap.size w13).alloc (Nat.le_refl _) _).trans (hb14.mono (by simp))
  have HKT14 := Lib.hid (HKT13.out.below hc14 HKT13.out.lt)
  have hw14' : w10.heap.size < w14.heap.size := HKT14.out.lt
  clear hb14 hn14 hN HKT13 y0 y1 y2 y3 z0 z1 z2 z3
  have HB14 := Lib.hid (HB13.out.trans (hc14.mono HB13.out.size))
  have HLV14 := Lib.hid (HLV13.out.below hc14)
  have HG14 := Lib.hid (HG13.out.later hc14 (Nat.le_refl _))
  have HK14 := Lib.hid (HK13.out.below hc14 HK13.out.lt)
  have hw14 : w1.heap.size < w14.heap.size := HK14.out.lt
  have HTx14 := Lib.hid (HT.out.later hc14 (Nat.le_refl _))
  clear HT
  have HT := HTx14
  clear HTx14
  clear hc14 HB13 HLV13 HG13 HK13
  have HKN : Hid (Blk (w14.alloc (.cells #[.int .i64 4, .int .i64 1, .int .i64 100, .slice A14 rowT.length c14] 24)) w14.heap.size 24 #[.int .i64 4, .int .i64 1, .int .i64 100, .slice A14 rowT.length c14]) := Blk.new' _ _ _ rfl
  obtain ⟨z0, z1, z2, z3⟩ := grid_parts (HK14.out.alloc (.cells #[.int .i64 4, .int .i64 1, .int .i64 100, .slice A14 rowT.length c14] 24))
  go_wp2_with fail
  refine (eWrite _ _ (HG14.out.later ((Below.refl w14.heap.size w14).alloc (Nat.le_refl _) _) (Nat.le_refl _)) (HLV14.out.below ((Below.refl w14.heap.size w14).alloc (Nat.le_refl _) _))).mono ?_
  rintro e w15 ⟨rfl, hb15⟩
  have hc15 := ((Below.refl w14.heap.size w14).alloc (Nat.le_refl _) _).trans (hb15.mono (by simp))
  have HKT15 := Lib.hid (HKT14.out.below hc15 HKT14.out.lt)
  have HKN15 := Lib.hid (HKN.out.below hb15 (by simp))
  clear hb15 HKT14 HKN z0 z1 z2 z3
  have HB15 := Lib.hid (HB14.out.trans (hc15.mono HB14.out.size))
  have HLV15 := Lib.hid (HLV14.out.below hc15)
  have HG15 := Lib.hid (HG14.out.later hc15 (Nat.le_refl _))
  have HK15 := Lib.hid (HK14.out.below hc15 HK14.out.lt)
  have hw15 : w1.heap.size < w15.heap.size := HK15.out.lt
  have HTx15 := Lib.hid (HT.out.later hc15 (Nat.le_refl _))
  clear HT
  have HT := HTx15
  clear HTx15
  have HNx15 := Lib.hid (HN.out.later hc15 (Nat.le_refl _))
  clear HN
  have HN := HNx15
  clear HNx15
  clear hc15 HB14 HLV14 HG14 HK14
  go_wp2_with fail
  refine (eRead _ HLV15.out).mono ?_
  rintro e w16 ⟨v16, rfl, hn16, hb16⟩
  obtain ⟨A16, c16, rfl, _, _⟩ := hn16.open_
  have hR : GridAt w16 w16.heap.size (.agg #[.int .i64 4, .int .i64 1, .int .i64 100, .slice A16 rowG.ss.length c16]) rowG := ⟨_, rfl, hn16⟩
  have HR := Lib.hid hR
  have HKT16 := Lib.hid (HKT15.out.below hb16 HKT15.out.lt)
  have HKN16 := Lib.hid (HKN15.out.below hb16 HKN15.out.lt)
  have hw16' : w10.heap.size < w16.heap.size := HKT16.out.lt
  have hw16'' : w14.heap.size < w16.heap.size := HKN16.out.lt
  clear hn16 hR HKT15 HKN15
  have HB16 := Lib.hid (HB15.out.trans (hb16.mono HB15.out.size))
  have HLV16 := Lib.hid (HLV15.out.below hb16)
  have HG16 := Lib.hid (HG15.out.later hb16 (Nat.le_refl _))
  have HK16 := Lib.hid (HK15.out.below hb16 HK15.out.lt)
  have hw16 : w1.heap.size < w16.heap.size := HK16.out.lt
  have HTx16 := Lib.hid (HT.out.later hb16 (Nat.le_refl _))
  clear HT
  have HT := HTx16
  clear HTx16
  have HNx16 := Lib.hid (HN.out.later hb16 (Nat.le_refl _))
  clear HN
  have HN := HNx16
  clear HNx16
  clear hb16 HB15 HLV15 HG15 HK15
  have HKR : Hid (Blk (w16.alloc (.cells #[.int .i64 4, .int .i64 1, .int .i64 100, .slice A16 rowG.ss.length c16] 24)) w16.heap.size 24 #[.int .i64 4, .int .i64 1, .int .i64 100, .slice A16 rowG.ss.length c16]) := Blk.new' _ _ _ rfl
  obtain ⟨x0, x1, x2, x3⟩ := grid_parts (HKN16.out.alloc (.cells #[.int .i64 4, .int .i64 1, .int .i64 100, .slice A16 rowG.ss.length c16] 24))
  obtain ⟨y0, y1, y2, y3⟩ := grid_parts (HKT16.out.alloc (.cells #[.int .i64 4, .int .i64 1, .int .i64 100, .slice A16 rowG.ss.length c16] 24))
  go_wp2_with fail
  refine (grids_yes _ _ _ _ rfl _ (HN.out.later ((Below.refl w16.heap.size w16).alloc (Nat.le_refl _) _) (Nat.le_refl _)) (HT.out.later ((Below.refl w16.heap.size w16).alloc (Nat.le_refl _) _) (Nat.le_refl _))).mono ?_
  rintro e w17 ⟨rfl, hb17⟩
  have hc17 := ((Below.refl w16.heap.size w16).alloc (Nat.le_refl _) _).trans (hb17.mono (by simp))
  have HKR17 := Lib.hid (HKR.out.below hb17 (by simp))
  have hw17' : w16.heap.size < w17.heap.size := HKR17.out.lt
  clear hb17 HKR HKT16 HKN16 HN HT x0 x1 x2 x3 y0 y1 y2 y3
  have HB17 := Lib.hid (HB16.out.trans (hc17.mono HB16.out.size))
  have HLV17 := Lib.hid (HLV16.out.below hc17)
  have HG17 := Lib.hid (HG16.out.later hc17 (Nat.le_refl _))
  have HK17 := Lib.hid (HK16.out.below hc17 HK16.out.lt)
  have hw17 : w1.heap.size < w17.heap.size := HK17.out.lt
  have HRx17 := Lib.hid (HR.out.later hc17 (Nat.le_refl _))
  clear HR
  have HR := HRx17
  clear HRx17
  clear hc17 HB16 HLV16 HG16 HK16
  obtain ⟨z0, z1, z2, z3⟩ := grid_parts HK17.out
  obtain ⟨y0, y1, y2, y3⟩ := grid_parts HKR17.out
  have hS : ((bs rowS).toList == [103, 114, 105, 100, 32, 52, 32, 49, 32, 49, 48, 48, 10, 45, 53, 48, 48, 32, 49, 48, 46, 46, 50, 48, 32, 45, 51, 48, 46, 46, 45, 49, 48, 32, 53, 46, 46, 52, 48, 10]) = true := by rw [bs_toList]; rfl
  go_wp2_with fail
  refine (grids_yes _ _ _ _ rfl _ HR.out HG17.out).mono ?_
  rintro e w18 ⟨rfl, hb18⟩
  have HB18 := Lib.hid (HB17.out.trans (hb18.mono HB17.out.size))
  clear hb18
  go_wp2
  go_ret
  exact ⟨rfl, HB18.out⟩
end Go.Proofs.YthcenmocnphnmaaGreatDoor
