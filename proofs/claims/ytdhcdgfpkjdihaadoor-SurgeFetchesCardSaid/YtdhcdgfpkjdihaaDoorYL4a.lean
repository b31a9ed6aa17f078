/-
  Layer 3, the laws: SurgeFetches.
-/
import Derived.Test.YtdhcdgfpkjdihaaDoorYL3g
import Derived.Test.YtdhcdgfpkjdihaaDoorYR4c
set_option linter.unusedSimpArgs false
set_option linter.unusedVariables false
namespace Go.Proofs.YtdhcdgfpkjdihaaDoor.Sg
open Go.RowKit Go.Shelf
def op3_5_0 : Oper := ⟨some 41, .fieldAddr 30 (.tmp 2) 2, 0, "law.go:96", #[], none⟩
def op3_5_1 : Oper := ⟨some 42, .load 28 (.tmp 41), 28, "law.go:96", #[⟨0, .data⟩], none⟩
def op3_5_2 : Oper := ⟨some 43, .call { callee := Callee.value (.func 19), args := #[.tmp 42], argTypes := #[28] }, 35, "law.go:96", #[⟨1, .data⟩], none⟩
def op3_5_3 : Oper := ⟨some 44, .load 30 (.tmp 2), 30, "law.go:96", #[], none⟩
def op3_5_4 : Oper := ⟨some 45, .call { callee := Callee.value (.func 21), args := #[.tmp 44], argTypes := #[30] }, 40, "law.go:96", #[⟨3, .data⟩, ⟨2, .chain⟩], none⟩
def op3_5_5 : Oper := ⟨some 46, .call { callee := Callee.value (.func 20), args := #[.tmp 45], argTypes := #[40] }, 35, "law.go:96", #[⟨4, .data⟩, ⟨4, .chain⟩], none⟩
def op3_5_6 : Oper := ⟨some 47, .binOp BinOp.eql 35 (.tmp 43) (.tmp 46) 35, 4, "law.go:96", #[⟨2, .data⟩, ⟨5, .data⟩], none⟩
def op3_5_7 : Oper := ⟨some 48, .move (.tmp 47), 4, "law.go:96", #[⟨6, .data⟩, ⟨5, .chain⟩], none⟩
def op3_5_8 : Oper := ⟨some 49, .load 32 (.tmp 3), 32, "law.go:96", #[⟨7, .guard⟩], some (7, true)⟩
def op3_5_9 : Oper := ⟨some 50, .call { callee := Callee.value (.func 22), args := #[.tmp 49], argTypes := #[32] }, 35, "law.go:96", #[⟨8, .data⟩, ⟨7, .chain⟩, ⟨7, .guard⟩], some (7, true)⟩
def op3_5_10 : Oper := ⟨some 51, .load 32 (.tmp 3), 32, "law.go:96", #[⟨7, .guard⟩], some (7, true)⟩
def op3_5_11 : Oper := ⟨some 52, .call { callee := Callee.value (.func 23), args := #[.tmp 51], argTypes := #[44] }, 35, "law.go:96", #[⟨10, .data⟩, ⟨9, .chain⟩, ⟨7, .guard⟩], some (7, true)⟩
def op3_5_12 : Oper := ⟨some 53, .binOp BinOp.eql 35 (.tmp 50) (.tmp 52) 35, 4, "law.go:96", #[⟨9, .data⟩, ⟨11, .data⟩, ⟨7, .guard⟩], some (7, true)⟩
def op3_5_13 : Oper := ⟨some 54, .pick (.tmp 48) (.tmp 53) (.const (Value.bool false)), 4, "law.go:96", #[⟨7, .data⟩, ⟨12, .data⟩], none⟩
def op3_5_14 : Oper := ⟨some 55, .move (.tmp 54), 4, "law.go:96", #[⟨13, .data⟩, ⟨11, .chain⟩], none⟩
def op3_5_15 : Oper := ⟨some 56, .move (.tmp 5), 34, "law.go:96", #[⟨14, .guard⟩], some (14, true)⟩
def op3_5_16 : Oper := ⟨some 57, .move (.tmp 8), 34, "law.go:96", #[⟨14, .guard⟩], some (14, true)⟩
def op3_5_17 : Oper := ⟨some 58, .call { callee := Callee.value (.func 24), args := #[.tmp 56, .tmp 57], argTypes := #[34, 34] }, 4, "law.go:96", #[⟨15, .data⟩, ⟨16, .data⟩, ⟨14, .chain⟩, ⟨14, .guard⟩], some (14, true)⟩
def op3_5_18 : Oper := ⟨some 59, .pick (.tmp 55) (.tmp 58) (.const (Value.bool false)), 4, "law.go:96", #[⟨14, .data⟩, ⟨17, .data⟩], none⟩
def op3_5_19 : Oper := ⟨some 60, .move (.tmp 59), 4, "law.go:96", #[⟨18, .data⟩, ⟨17, .chain⟩], none⟩
def op3_5_20 : Oper := ⟨some 61, .move (.tmp 6), 34, "law.go:96", #[⟨19, .guard⟩], some (19, true)⟩
def op3_5_21 : Oper := ⟨some 62, .move (.tmp 9), 34, "law.go:96", #[⟨19, .guard⟩], some (19, true)⟩
def op3_5_22 : Oper := ⟨some 63, .call { callee := Callee.value (.func 24), args := #[.tmp 61, .tmp 62], argTypes := #[34, 34] }, 4, "law.go:96", #[⟨20, .data⟩, ⟨21, .data⟩, ⟨19, .chain⟩, ⟨19, .guard⟩], some (19, true)⟩
def op3_5_23 : Oper := ⟨some 64, .pick (.tmp 60) (.tmp 63) (.const (Value.bool false)), 4, "law.go:96", #[⟨19, .data⟩, ⟨22, .data⟩], none⟩
def op3_5_24 : Oper := ⟨some 65, .move (.tmp 64), 4, "law.go:96", #[⟨23, .data⟩, ⟨22, .chain⟩], none⟩
def op3_5_25 : Oper := ⟨some 66, .move (.tmp 7), 35, "law.go:96", #[⟨24, .guard⟩], some (24, true)⟩
def op3_5_26 : Oper := ⟨some 67, .move (.tmp 10), 35, "law.go:96", #[⟨24, .guard⟩], some (24, true)⟩
def op3_5_27 : Oper := ⟨some 68, .binOp BinOp.eql 35 (.tmp 66) (.tmp 67) 35, 4, "law.go:96", #[⟨25, .data⟩, ⟨26, .data⟩, ⟨24, .guard⟩], some (24, true)⟩
def op3_5_28 : Oper := ⟨some 69, .pick (.tmp 65) (.tmp 68) (.const (Value.bool false)), 4, "law.go:96", #[⟨24, .data⟩, ⟨27, .data⟩], none⟩
def op3_5_29 : Oper := ⟨some 70, .move (.tmp 69), 4, "law.go:96", #[⟨28, .data⟩, ⟨24, .chain⟩], none⟩
def op3_5_30 : Oper := ⟨some 71, .call { callee := Callee.value (.func 16), args := #[], argTypes := #[] }, 4, "law.go:96", #[⟨29, .chain⟩, ⟨29, .guard⟩], some (29, true)⟩
def op3_5_31 : Oper := ⟨some 72, .pick (.tmp 70) (.tmp 71) (.const (Value.bool false)), 4, "law.go:96", #[⟨29, .data⟩, ⟨30, .data⟩], none⟩
def op3_5_32 : Oper := ⟨some 4, .assign (.tmp 72), 4, "law.go:96", #[⟨31, .data⟩, ⟨30, .chain⟩, ⟨0, .phase⟩, ⟨1, .phase⟩, ⟨2, .phase⟩, ⟨3, .phase⟩, ⟨4, .phase⟩, ⟨5, .phase⟩, ⟨6, .phase⟩, ⟨7, .phase⟩, ⟨8, .phase⟩, ⟨9, .phase⟩, ⟨10, .phase⟩, ⟨11, .phase⟩, ⟨12, .phase⟩, ⟨13, .phase⟩, ⟨14, .phase⟩, ⟨15, .phase⟩, ⟨16, .phase⟩, ⟨17, .phase⟩, ⟨18, .phase⟩, ⟨19, .phase⟩, ⟨20, .phase⟩, ⟨21, .phase⟩, ⟨22, .phase⟩, ⟨23, .phase⟩, ⟨24, .phase⟩, ⟨25, .phase⟩, ⟨26, .phase⟩, ⟨27, .phase⟩, ⟨28, .phase⟩, ⟨29, .phase⟩, ⟨30, .phase⟩, ⟨31, .phase⟩], none⟩
set_option maxRecDepth 100000 in
set_option maxHeartbeats 4000000 in
theorem SurgeFetches_any (WW HH SS : Int) (ss : List (Int × Int)) (A : Option Addr) (c : Nat) (sa sb d1 d2 l1 l2 cell dir : Int) (s1 s2 n p1 p2 : Int) (w : World) (HD : DirsAt w) (hs : SpansAt w w.heap.size (.slice A ss.length c) ss) :
 Calls Tryd.prog 3 #[.agg #[.int .i64 (WW), .int .i64 (HH), .int .i64 (SS), .slice A ss.length c, .int .i64 (sa), .int .i64 (sb), .int .i64 (d1), .int .i64 (d2), .int .i64 (l1), .int .i64 (l2), .int .i64 (cell), .int .i64 (dir)], .agg #[.int .i64 (s1), .int .i64 (s2), .int .i64 (n), .int .i64 (p1), .int .i64 (p2)]] w fun e w' => e = .returned (.bool true) ∧ Below w.heap.size w w' := by
 by_cases hf : decide (ss.length ≤ 600) = true
 rotate_left
 ·
  have hf : decide (ss.length ≤ 600) = false := by simpa using hf
  have HF := Lib.hid hf
  clear hf
  have HDR0 := Lib.hid HD
  have HS0 := Lib.hid hs
  clear HD hs
  go_enter Tryd.func3, Tryd.ntmps3
  go_upto_region 1 with (fail)
  obtain ⟨Va1, hV⟩ : ∃ V, (w.alloc (.cells #[.int .i64 (WW), .int .i64 (HH), .int .i64 (SS), .slice A ss.length c, .int .i64 (sa), .int .i64 (sb), .int .i64 (d1), .int .i64 (d2), .int .i64 (l1), .int .i64 (l2), .int .i64 (cell), .int .i64 (dir)] 30)).alloc (.cells #[.int .i64 (s1), .int .i64 (s2), .int .i64 (n), .int .i64 (p1), .int .i64 (p2)] 32) = V := ⟨_, rfl⟩
  have Kb2 : Hid (Blk Va1 (w.heap.size) 30 #[.int .i64 (WW), .int .i64 (HH), .int .i64 (SS), .slice A ss.length c, .int .i64 (sa), .int .i64 (sb), .int .i64 (d1), .int .i64 (d2), .int .i64 (l1), .int .i64 (l2), .int .i64 (cell), .int .i64 (dir)]) := by rw [← hV]; exact (Blk.new' _ _ _ (by simp)).alloc _
  have Kb3 : Hid (Blk Va1 (w.heap.size + 1) 32 #[.int .i64 (s1), .int .i64 (s2), .int .i64 (n), .int .i64 (p1), .int .i64 (p2)]) := by rw [← hV]; exact Blk.new' _ _ _ (by simp)
  have GHB : Hid (Below w.heap.size w Va1) := by rw [← hV]; exact (by repeat (first | exact Below.refl _ _ | assumption | refine Below.drew ?_ | refine Below.drewN' ?_ _ | (refine Below.alloc ?_ (by simp <;> omega) _) | (refine Below.setCell ?_ (by simp <;> omega) _)))
  have HZ : Hid (Below w.heap.size w Va1) := GHB
  rw [hV]
  clear hV HZ
  have HB := GHB
  clear GHB
  obtain ⟨b3, hqb3⟩ : ∃ b, w.heap.size + 1 = b := ⟨_, rfl⟩
  obtain ⟨b2, hqb2⟩ : ∃ b, w.heap.size = b := ⟨_, rfl⟩
  have gb2 : w.heap.size ≤ b2 := by omega
  have gb3 : w.heap.size ≤ b3 := by omega
  have nb3b2 : ¬ b3 = b2 := by omega
  have nb2b3 : ¬ b2 = b3 := by omega
  rw [hqb3] at Kb3 ⊢
  clear hqb3
  have HN : Hid (w.heap.size = b2) := hqb2
  rw [hqb2] at Kb2 ⊢
  clear hqb2
  have Hb2 := Kb2
  clear Kb2
  have Hb3 := Kb3
  clear Kb3
  have cb20 := kcl0 Hb2
  have cb21 := kcl1 Hb2
  have cb22 := kcl2 Hb2
  have cb23 := kcl3 Hb2
  have cb24 := kcl4 Hb2
  have cb25 := kcl5 Hb2
  have cb26 := kcl6 Hb2
  have cb27 := kcl7 Hb2
  have cb28 := kcl8 Hb2
  have cb29 : Va1.cell? ⟨b2, 9, none⟩ = some (.int .i64 (l2)) := Hb2.out.cell 9
  have cb210 : Va1.cell? ⟨b2, 10, none⟩ = some (.int .i64 (cell)) := Hb2.out.cell 10
  have cb211 : Va1.cell? ⟨b2, 11, none⟩ = some (.int .i64 (dir)) := Hb2.out.cell 11
  go_wp2_with fail
  refine (few_any WW HH SS A ss.length c sa sb d1 d2 l1 l2 cell dir _).mono ?_
  rintro e Va2 ⟨rfl, hb⟩
  have HZ := Lib.hid hb
  clear hb
  rw [HF.out]
  clear cb20 cb21 cb22 cb23 cb24 cb25 cb26 cb27 cb28 cb29 cb210 cb211
  replace Hb2 := kbl Hb2 HZ
  replace Hb3 := kbl Hb3 HZ
  replace HB := ktr' HB HZ
  clear HZ
  go_wp2_with fail
  refine (works_any _ (HDR0.out.later HB.out)).mono ?_
  rintro e Va3 ⟨rfl, hb⟩
  have HBZ := Lib.hid (HB.out.trans (hb.mono HB.out.size))
  clear hb
  go_wp2
  go_ret
  exact ⟨rfl, HBZ.out⟩
 ·
  obtain ⟨E, hE⟩ : ∃ z, fetchE ⟨WW, HH, SS, ss⟩ (sa, sb) cell dir = z := ⟨_, rfl⟩
  obtain ⟨LS, hLS⟩ : ∃ z, fetchVS ⟨WW, HH, SS, ss⟩ (sa, sb) cell dir = z := ⟨_, rfl⟩
  obtain ⟨LM, hLM⟩ : ∃ z, fetchVM ⟨WW, HH, SS, ss⟩ (sa, sb) cell dir = z := ⟨_, rfl⟩
  obtain ⟨EM, hEM⟩ : ∃ z, moE ⟨(d1, d2), (l1, l2)⟩ = z := ⟨_, rfl⟩
  obtain ⟨EW, hEW⟩ : ∃ z, wiE ⟨(s1, s2), n, (p1, p2)⟩ = z := ⟨_, rfl⟩
  have HF := Lib.hid hf
  have HE := Lib.hid hE
  have HLS := Lib.hid hLS
  have HLM := Lib.hid hLM
  have HEM := Lib.hid hEM
  have HEW := Lib.hid hEW
  clear hf hE hLS hLM hEM hEW
  have HDR0 := Lib.hid HD
  have HS0 := Lib.hid hs
  clear HD hs
  go_enter Tryd.func3, Tryd.ntmps3
  go_upto_region 1 with (fail)
  obtain ⟨Va51, hV⟩ : ∃ V, (w.alloc (.cells #[.int .i64 (WW), .int .i64 (HH), .int .i64 (SS), .slice A ss.length c, .int .i64 (sa), .int .i64 (sb), .int .i64 (d1), .int .i64 (d2), .int .i64 (l1), .int .i64 (l2), .int .i64 (cell), .int .i64 (dir)] 30)).alloc (.cells #[.int .i64 (s1), .int .i64 (s2), .int .i64 (n), .int .i64 (p1), .int .i64 (p2)] 32) = V := ⟨_, rfl⟩
  have Kb2 : Hid (Blk Va51 (w.heap.size) 30 #[.int .i64 (WW), .int .i64 (HH), .int .i64 (SS), .slice A ss.length c, .int .i64 (sa), .int .i64 (sb), .int .i64 (d1), .int .i64 (d2), .int .i64 (l1), .int .i64 (l2), .int .i64 (cell), .int .i64 (dir)]) := by rw [← hV]; exact (Blk.new' _ _ _ (by simp)).alloc _
  have Kb3 : Hid (Blk Va51 (w.heap.size + 1) 32 #[.int .i64 (s1), .int .i64 (s2), .int .i64 (n), .int .i64 (p1), .int .i64 (p2)]) := by rw [← hV]; exact Blk.new' _ _ _ (by simp)
  have GHB : Hid (Below w.heap.size w Va51) := by rw [← hV]; exact (by repeat (first | exact Below.refl _ _ | assumption | refine Below.drew ?_ | refine Below.drewN' ?_ _ | (refine Below.alloc ?_ (by simp <;> omega) _) | (refine Below.setCell ?_ (by simp <;> omega) _)))
  have HZ : Hid (Below w.heap.size w Va51) := GHB
  rw [hV]
  clear hV HZ
  have HB := GHB
  clear GHB
  obtain ⟨b3, hqb3⟩ : ∃ b, w.heap.size + 1 = b := ⟨_, rfl⟩
  obtain ⟨b2, hqb2⟩ : ∃ b, w.heap.size = b := ⟨_, rfl⟩
  have gb2 : w.heap.size ≤ b2 := by omega
  have gb3 : w.heap.size ≤ b3 := by omega
  have nb3b2 : ¬ b3 = b2 := by omega
  have nb2b3 : ¬ b2 = b3 := by omega
  rw [hqb3] at Kb3 ⊢
  clear hqb3
  have HN : Hid (w.heap.size = b2) := hqb2
  rw [hqb2] at Kb2 ⊢
  clear hqb2
  have Hb2 := Kb2
  clear Kb2
  have Hb3 := Kb3
  clear Kb3
  have cb20 := kcl0 Hb2
  have cb21 := kcl1 Hb2
  have cb22 := kcl2 Hb2
  have cb23 := kcl3 Hb2
  have cb24 := kcl4 Hb2
  have cb25 := kcl5 Hb2
  have cb26 := kcl6 Hb2
  have cb27 := kcl7 Hb2
  have cb28 := kcl8 Hb2
  have cb29 : Va51.cell? ⟨b2, 9, none⟩ = some (.int .i64 (l2)) := Hb2.out.cell 9
  have cb210 : Va51.cell? ⟨b2, 10, none⟩ = some (.int .i64 (cell)) := Hb2.out.cell 10
  have cb211 : Va51.cell? ⟨b2, 11, none⟩ = some (.int .i64 (dir)) := Hb2.out.cell 11
  go_wp2_with fail
  refine (few_any WW HH SS A ss.length c sa sb d1 d2 l1 l2 cell dir _).mono ?_
  rintro e Va52 ⟨rfl, hb⟩
  have HZ := Lib.hid hb
  clear hb
  rw [HF.out]
  clear cb20 cb21 cb22 cb23 cb24 cb25 cb26 cb27 cb28 cb29 cb210 cb211
  replace Hb2 := kbl Hb2 HZ
  replace Hb3 := kbl Hb3 HZ
  replace HB := ktr' HB HZ
  clear HZ
  have cb20 := kcl0 Hb2
  have cb21 := kcl1 Hb2
  have cb22 := kcl2 Hb2
  have cb23 := kcl3 Hb2
  have cb24 := kcl4 Hb2
  have cb25 := kcl5 Hb2
  have cb26 := kcl6 Hb2
  have cb27 := kcl7 Hb2
  have cb28 := kcl8 Hb2
  have cb29 : Va52.cell? ⟨b2, 9, none⟩ = some (.int .i64 (l2)) := Hb2.out.cell 9
  have cb210 : Va52.cell? ⟨b2, 10, none⟩ = some (.int .i64 (cell)) := Hb2.out.cell 10
  have cb211 : Va52.cell? ⟨b2, 11, none⟩ = some (.int .i64 (dir)) := Hb2.out.cell 11
  go_wp2_with fail
  refine (Fetch_any WW HH SS ss A c sa sb cell dir _ (HDR0.out.later HB.out) (HS0.out.later HB.out (Nat.le_refl _))).mono ?_
  rintro e Va53 hfo
  unfold FetOut at hfo
  rw [HE.out, HLS.out, HLM.out] at hfo
  obtain ⟨u1, v1, rfl, hu1, hv1, hb⟩ := hfo
  have HZ := Lib.hid hb
  clear hb
  have HU1 := Lib.hid hu1
  have HV1 := Lib.hid hv1
  clear hu1 hv1
  clear cb20 cb21 cb22 cb23 cb24 cb25 cb26 cb27 cb28 cb29 cb210 cb211
  replace Hb2 := kbl Hb2 HZ
  replace Hb3 := kbl Hb3 HZ
  replace HB := ktr' HB HZ
  clear HZ
  have cb20 := kcl0 Hb2
  have cb21 := kcl1 Hb2
  have cb22 := kcl2 Hb2
  have cb23 := kcl3 Hb2
  have cb24 := kcl4 Hb2
  have cb25 := kcl5 Hb2
  have cb26 := kcl6 Hb2
  have cb27 := kcl7 Hb2
  have cb28 := kcl8 Hb2
  have cb29 : Va53.cell? ⟨b2, 9, none⟩ = some (.int .i64 (l2)) := Hb2.out.cell 9
  have cb210 : Va53.cell? ⟨b2, 10, none⟩ = some (.int .i64 (cell)) := Hb2.out.cell 10
  have cb211 : Va53.cell? ⟨b2, 11, none⟩ = some (.int .i64 (dir)) := Hb2.out.cell 11
  go_wp2_with fail
  refine (rFetch_any WW HH SS ss A c sa sb cell dir _ (HS0.out.later HB.out (Nat.le_refl _))).mono ?_
  rintro e Va54 hfo
  unfold FetOut at hfo
  rw [HE.out, HLS.out, HLM.out] at hfo
  obtain ⟨u2, v2, rfl, hu2, hv2, hb⟩ := hfo
  have HZ := Lib.hid hb
  clear hb
  have HU2 := Lib.hid hu2
  have HV2 := Lib.hid hv2
  clear hu2 hv2
  clear cb20 cb21 cb22 cb23 cb24 cb25 cb26 cb27 cb28 cb29 cb210 cb211
  replace Hb2 := kbl Hb2 HZ
  replace Hb3 := kbl Hb3 HZ
  replace HB := ktr' HB HZ
  replace HU1 := Lib.hid (HU1.out.later HZ.out (Nat.le_refl _))
  replace HV1 := Lib.hid (HV1.out.later HZ.out (Nat.le_refl _))
  clear HZ
  go_upto_region 5 with (fail)
  have HSV : Hid (∀ U, Below Va54.heap.size Va54 U → U.cell? ⟨b2, 0, none⟩ = some (.int .i64 (WW)) ∧ U.cell? ⟨b2, 1, none⟩ = some (.int .i64 (HH)) ∧ U.cell? ⟨b2, 2, none⟩ = some (.int .i64 (SS)) ∧ U.cell? ⟨b2, 3, none⟩ = some (.slice A ss.length c) ∧ U.cell? ⟨b2, 4, none⟩ = some (.int .i64 (sa)) ∧ U.cell? ⟨b2, 5, none⟩ = some (.int .i64 (sb)) ∧ U.cell? ⟨b2, 6, none⟩ = some (.int .i64 (d1)) ∧ U.cell? ⟨b2, 7, none⟩ = some (.int .i64 (d2)) ∧ U.cell? ⟨b2, 8, none⟩ = some (.int .i64 (l1)) ∧ U.cell? ⟨b2, 9, none⟩ = some (.int .i64 (l2)) ∧ U.cell? ⟨b2, 10, none⟩ = some (.int .i64 (cell)) ∧ U.cell? ⟨b2, 11, none⟩ = some (.int .i64 (dir)) ∧ U.cell? ⟨b3, 0, none⟩ = some (.int .i64 (s1)) ∧ U.cell? ⟨b3, 1, none⟩ = some (.int .i64 (s2)) ∧ U.cell? ⟨b3, 2, none⟩ = some (.int .i64 (n)) ∧ U.cell? ⟨b3, 3, none⟩ = some (.int .i64 (p1)) ∧ U.cell? ⟨b3, 4, none⟩ = some (.int .i64 (p2))) := fun U hU => by
   have kb2 := Hb2.out.below hU Hb2.out.lt
   have kb3 := Hb3.out.below hU Hb3.out.lt
   exact ⟨kb2.cell 0, kb2.cell 1, kb2.cell 2, kb2.cell 3, kb2.cell 4, kb2.cell 5, kb2.cell 6, kb2.cell 7, kb2.cell 8, kb2.cell 9, kb2.cell 10, kb2.cell 11, kb3.cell 0, kb3.cell 1, kb3.cell 2, kb3.cell 3, kb3.cell 4⟩
  have k0 := HSV.out _ (Below.drew (Below.refl Va54.heap.size Va54))
  refine wp_region_noPanic ?_
  refine wp_region_held_drew (S := (fun w' => w'.cell? ⟨b2, 0, none⟩ = some (.int .i64 (WW)) ∧ w'.cell? ⟨b2, 1, none⟩ = some (.int .i64 (HH)) ∧ w'.cell? ⟨b2, 2, none⟩ = some (.int .i64 (SS)) ∧ w'.cell? ⟨b2, 3, none⟩ = some (.slice A ss.length c) ∧ w'.cell? ⟨b2, 4, none⟩ = some (.int .i64 (sa)) ∧ w'.cell? ⟨b2, 5, none⟩ = some (.int .i64 (sb)) ∧ w'.cell? ⟨b2, 6, none⟩ = some (.int .i64 (d1)) ∧ w'.cell? ⟨b2, 7, none⟩ = some (.int .i64 (d2)) ∧ w'.cell? ⟨b2, 8, none⟩ = some (.int .i64 (l1)) ∧ w'.cell? ⟨b2, 9, none⟩ = some (.int .i64 (l2)) ∧ w'.cell? ⟨b2, 10, none⟩ = some (.int .i64 (cell)) ∧ w'.cell? ⟨b2, 11, none⟩ = some (.int .i64 (dir)) ∧ w'.cell? ⟨b3, 0, none⟩ = some (.int .i64 (s1)) ∧ w'.cell? ⟨b3, 1, none⟩ = some (.int .i64 (s2)) ∧ w'.cell? ⟨b3, 2, none⟩ = some (.int .i64 (n)) ∧ w'.cell? ⟨b3, 3, none⟩ = some (.int .i64 (p1)) ∧ w'.cell? ⟨b3, 4, none⟩ = some (.int .i64 (p2)))) (by kernel_rfl) ?_ (fun hHeld => ?_)
  · (try dsimp only); (exact k0)
  refine wpAnyH_take (i := 0) (oi := op3_5_0) (v := ?_) rfl (by kernel_rfl) (by kernel_rfl) (by kernel_rfl) (fun _ _ _ h => h) (Or.inl ⟨by rfl, ?_⟩) (by assumption) ?_
  rotate_left
  · ((intro w hSw; delta op3_5_0; (try dsimp only at hSw); go_simp) <;> with_reducible rfl)
  try simp only [op3_5_0, ksz]
  refine wpAnyH_take (i := 3) (oi := op3_5_3) (v := ?_) rfl (by kernel_rfl) (by kernel_rfl) (by kernel_rfl) (fun _ _ _ h => h) (Or.inl ⟨by rfl, ?_⟩) (by assumption) ?_
  rotate_left
  · ((intro w hSw; delta op3_5_3; (try dsimp only at hSw); go_simp) <;> with_reducible rfl)
  try simp only [op3_5_3, ksz]
  refine wpAnyH_take (i := 1) (oi := op3_5_1) (v := ?_) rfl (by kernel_rfl) (by kernel_rfl) (by kernel_rfl) (fun _ _ _ h => h) (Or.inl ⟨by rfl, ?_⟩) (by assumption) ?_
  rotate_left
  · ((intro w hSw; delta op3_5_1; (try dsimp only at hSw); go_simp) <;> with_reducible rfl)
  try simp only [op3_5_1, ksz]
  obtain ⟨W0, hW0⟩ : ∃ V, Va54.drew = V := ⟨_, rfl⟩; rw [hW0] at hHeld ⊢; have HB0 : Hid (Below Va54.heap.size Va54 W0) := (by rw [← hW0]; exact Below.drew (Below.refl _ _)); clear hW0
  refine wpAnyH_ready (rs := [2]) (by kernel_rfl) (by simp) ?_
  refine AllReadyH.cons (o := op3_5_2) rfl (fun K hK => ?_) AllReadyH.nil
  delta op3_5_2
  go_simp
  (refine (Check_any3 d1 d2 l1 l2 _).mono ?_; rintro e W1 ⟨rfl, hb⟩; have HB1 := Lib.hid (HB0.out.trans (hb.mono HB0.out.size)); clear hb; rw [HEM.out])
  refine hK.out _ _ ?_ (fun hHeld => ?_)
  · (try dsimp only); (exact HSV.out _ HB1.out)
  clear hK K
  try simp only [op3_5_2, ksz]
  refine wpAnyH_ready (rs := [4]) (by kernel_rfl) (by simp) ?_
  refine AllReadyH.cons (o := op3_5_4) rfl (fun K hK => ?_) AllReadyH.nil
  delta op3_5_4
  go_simp
  (refine (model_any WW HH SS A ss.length c sa sb d1 d2 l1 l2 cell dir _).mono ?_; rintro e W2 ⟨rfl, hb⟩; have HB2 := Lib.hid (HB1.out.trans (hb.mono HB1.out.size)); clear hb)
  refine hK.out _ _ ?_ (fun hHeld => ?_)
  · (try dsimp only); (exact HSV.out _ HB2.out)
  clear hK K
  try simp only [op3_5_4, ksz]
  refine wpAnyH_ready (rs := [5]) (by kernel_rfl) (by simp) ?_
  refine AllReadyH.cons (o := op3_5_5) rfl (fun K hK => ?_) AllReadyH.nil
  delta op3_5_5
  go_simp
  (refine (rCheck_any3 d1 d2 l1 l2 _).mono ?_; rintro e W3 ⟨rfl, hb⟩; have HB3 := Lib.hid (HB2.out.trans (hb.mono HB2.out.size)); clear hb; rw [HEM.out])
  refine hK.out _ _ ?_ (fun hHeld => ?_)
  · (try dsimp only); (exact HSV.out _ HB3.out)
  clear hK K
  try simp only [op3_5_5, ksz]
  refine wpAnyH_take (i := 6) (oi := op3_5_6) (v := ?_) rfl (by kernel_rfl) (by kernel_rfl) (by kernel_rfl) (fun _ _ _ h => h) (Or.inl ⟨by rfl, ?_⟩) (by assumption) ?_
  rotate_left
  · ((intro w hSw; delta op3_5_6; (try dsimp only at hSw); go_simp) <;> with_reducible rfl)
  try simp only [op3_5_6, ksz]
  refine wpAnyH_take (i := 7) (oi := op3_5_7) (v := ?_) rfl (by kernel_rfl) (by kernel_rfl) (by kernel_rfl) (fun _ _ _ h => h) (Or.inl ⟨by rfl, ?_⟩) (by assumption) ?_
  rotate_left
  · ((intro w hSw; delta op3_5_7; (try dsimp only at hSw); go_simp) <;> with_reducible rfl)
  try simp only [op3_5_7, ksz]
  refine wpAnyH_take (i := 8) (oi := op3_5_8) (v := ?_) rfl (by kernel_rfl) (by kernel_rfl) (by kernel_rfl) (fun _ _ _ h => h) (Or.inl ⟨by rfl, ?_⟩) (by assumption) ?_
  rotate_left
  · ((intro w hSw; delta op3_5_8; (try dsimp only at hSw); go_simp) <;> with_reducible rfl)
  try simp only [op3_5_8, ksz]
  refine wpAnyH_take (i := 10) (oi := op3_5_10) (v := ?_) rfl (by kernel_rfl) (by kernel_rfl) (by kernel_rfl) (fun _ _ _ h => h) (Or.inl ⟨by rfl, ?_⟩) (by assumption) ?_
  rotate_left
  · ((intro w hSw; delta op3_5_10; (try dsimp only at hSw); go_simp) <;> with_reducible rfl)
  try simp only [op3_5_10, ksz]
  refine wpAnyH_ready (rs := [9]) (by kernel_rfl) (by simp) ?_
  refine AllReadyH.cons (o := op3_5_9) rfl (fun K hK => ?_) AllReadyH.nil
  delta op3_5_9
  go_simp
  (refine (CheckWind_any s1 s2 n p1 p2 _).mono ?_; rintro e W4 ⟨rfl, hb⟩; have HB4 := Lib.hid (HB3.out.trans (hb.mono HB3.out.size)); clear hb; rw [HEW.out])
  refine hK.out _ _ ?_ (fun hHeld => ?_)
  · (try dsimp only); (exact HSV.out _ HB4.out)
  clear hK K
  try simp only [op3_5_9, ksz]
  refine wpAnyH_ready (rs := [11]) (by kernel_rfl) (by simp) ?_
  refine AllReadyH.cons (o := op3_5_11) rfl (fun K hK => ?_) AllReadyH.nil
  delta op3_5_11
  go_simp
  (refine (rCheckWind_any s1 s2 n p1 p2 _).mono ?_; rintro e W5 ⟨rfl, hb⟩; have HB5 := Lib.hid (HB4.out.trans (hb.mono HB4.out.size)); clear hb; rw [HEW.out])
  refine hK.out _ _ ?_ (fun hHeld => ?_)
  · (try dsimp only); (exact HSV.out _ HB5.out)
  clear hK K
  try simp only [op3_5_11, ksz]
  refine wpAnyH_take (i := 12) (oi := op3_5_12) (v := ?_) rfl (by kernel_rfl) (by kernel_rfl) (by kernel_rfl) (fun _ _ _ h => h) (Or.inl ⟨by rfl, ?_⟩) (by assumption) ?_
  rotate_left
  · ((intro w hSw; delta op3_5_12; (try dsimp only at hSw); go_simp) <;> with_reducible rfl)
  try simp only [op3_5_12, ksz]
  refine wpAnyH_take (i := 13) (oi := op3_5_13) (v := ?_) rfl (by kernel_rfl) (by kernel_rfl) (by kernel_rfl) (fun _ _ _ h => h) (Or.inl ⟨by rfl, ?_⟩) (by assumption) ?_
  rotate_left
  · ((intro w hSw; delta op3_5_13; (try dsimp only at hSw); go_simp) <;> with_reducible rfl)
  try simp only [op3_5_13, ksz]
  refine wpAnyH_take (i := 14) (oi := op3_5_14) (v := ?_) rfl (by kernel_rfl) (by kernel_rfl) (by kernel_rfl) (fun _ _ _ h => h) (Or.inl ⟨by rfl, ?_⟩) (by assumption) ?_
  rotate_left
  · ((intro w hSw; delta op3_5_14; (try dsimp only at hSw); go_simp) <;> with_reducible rfl)
  try simp only [op3_5_14, ksz]
  refine wpAnyH_take (i := 15) (oi := op3_5_15) (v := ?_) rfl (by kernel_rfl) (by kernel_rfl) (by kernel_rfl) (fun _ _ _ h => h) (Or.inl ⟨by rfl, ?_⟩) (by assumption) ?_
  rotate_left
  · ((intro w hSw; delta op3_5_15; (try dsimp only at hSw); go_simp) <;> with_reducible rfl)
  try simp only [op3_5_15, ksz]
  refine wpAnyH_take (i := 16) (oi := op3_5_16) (v := ?_) rfl (by kernel_rfl) (by kernel_rfl) (by kernel_rfl) (fun _ _ _ h => h) (Or.inl ⟨by rfl, ?_⟩) (by assumption) ?_
  rotate_left
  · ((intro w hSw; delta op3_5_16; (try dsimp only at hSw); go_simp) <;> with_reducible rfl)
  try simp only [op3_5_16, ksz]
  refine wpAnyH_ready (rs := [17]) (by kernel_rfl) (by simp) ?_
  refine AllReadyH.cons (o := op3_5_17) rfl (fun K hK => ?_) AllReadyH.nil
  delta op3_5_17
  go_simp
  (refine (equal_any u1 u2 LS LS _ (HU1.out.later HB5.out (Nat.le_refl _)) (HU2.out.later HB5.out (Nat.le_refl _))).mono ?_; rintro e W6 ⟨rfl, hb⟩; have HB6 := Lib.hid (HB5.out.trans (hb.mono HB5.out.size)); clear hb; rw [decide_eq_true rfl])
  refine hK.out _ _ ?_ (fun hHeld => ?_)
  · (try dsimp only); (exact HSV.out _ HB6.out)
  clear hK K
  try simp only [op3_5_17, ksz]
  refine wpAnyH_take (i := 18) (oi := op3_5_18) (v := ?_) rfl (by kernel_rfl) (by kernel_rfl) (by kernel_rfl) (fun _ _ _ h => h) (Or.inl ⟨by rfl, ?_⟩) (by assumption) ?_
  rotate_left
  · ((intro w hSw; delta op3_5_18; (try dsimp only at hSw); go_simp) <;> with_reducible rfl)
  try simp only [op3_5_18, ksz]
  refine wpAnyH_take (i := 19) (oi := op3_5_19) (v := ?_) rfl (by kernel_rfl) (by kernel_rfl) (by kernel_rfl) (fun _ _ _ h => h) (Or.inl ⟨by rfl, ?_⟩) (by assumption) ?_
  rotate_left
  · ((intro w hSw; delta op3_5_19; (try dsimp only at hSw); go_simp) <;> with_reducible rfl)
  try simp only [op3_5_19, ksz]
  refine wpAnyH_take (i := 20) (oi := op3_5_20) (v := ?_) rfl (by kernel_rfl) (by kernel_rfl) (by kernel_rfl) (fun _ _ _ h => h) (Or.inl ⟨by rfl, ?_⟩) (by assumption) ?_
  rotate_left
  · ((intro w hSw; delta op3_5_20; (try dsimp only at hSw); go_simp) <;> with_reducible rfl)
  try simp only [op3_5_20, ksz]
  refine wpAnyH_take (i := 21) (oi := op3_5_21) (v := ?_) rfl (by kernel_rfl) (by kernel_rfl) (by kernel_rfl) (fun _ _ _ h => h) (Or.inl ⟨by rfl, ?_⟩) (by assumption) ?_
  rotate_left
  · ((intro w hSw; delta op3_5_21; (try dsimp only at hSw); go_simp) <;> with_reducible rfl)
  try simp only [op3_5_21, ksz]
  refine wpAnyH_ready (rs := [22]) (by kernel_rfl) (by simp) ?_
  refine AllReadyH.cons (o := op3_5_22) rfl (fun K hK => ?_) AllReadyH.nil
  delta op3_5_22
  go_simp
  (refine (equal_any v1 v2 LM LM _ (HV1.out.later HB6.out (Nat.le_refl _)) (HV2.out.later HB6.out (Nat.le_refl _))).mono ?_; rintro e W7 ⟨rfl, hb⟩; have HB7 := Lib.hid (HB6.out.trans (hb.mono HB6.out.size)); clear hb; rw [decide_eq_true rfl])
  refine hK.out _ _ ?_ (fun hHeld => ?_)
  · (try dsimp only); (exact HSV.out _ HB7.out)
  clear hK K
  try simp only [op3_5_22, ksz]
  refine wpAnyH_take (i := 23) (oi := op3_5_23) (v := ?_) rfl (by kernel_rfl) (by kernel_rfl) (by kernel_rfl) (fun _ _ _ h => h) (Or.inl ⟨by rfl, ?_⟩) (by assumption) ?_
  rotate_left
  · ((intro w hSw; delta op3_5_23; (try dsimp only at hSw); go_simp) <;> with_reducible rfl)
  try simp only [op3_5_23, ksz]
  refine wpAnyH_take (i := 24) (oi := op3_5_24) (v := ?_) rfl (by kernel_rfl) (by kernel_rfl) (by kernel_rfl) (fun _ _ _ h => h) (Or.inl ⟨by rfl, ?_⟩) (by assumption) ?_
  rotate_left
  · ((intro w hSw; delta op3_5_24; (try dsimp only at hSw); go_simp) <;> with_reducible rfl)
  try simp only [op3_5_24, ksz]
  refine wpAnyH_take (i := 25) (oi := op3_5_25) (v := ?_) rfl (by kernel_rfl) (by kernel_rfl) (by kernel_rfl) (fun _ _ _ h => h) (Or.inl ⟨by rfl, ?_⟩) (by assumption) ?_
  rotate_left
  · ((intro w hSw; delta op3_5_25; (try dsimp only at hSw); go_simp) <;> with_reducible rfl)
  try simp only [op3_5_25, ksz]
  refine wpAnyH_take (i := 26) (oi := op3_5_26) (v := ?_) rfl (by kernel_rfl) (by kernel_rfl) (by kernel_rfl) (fun _ _ _ h => h) (Or.inl ⟨by rfl, ?_⟩) (by assumption) ?_
  rotate_left
  · ((intro w hSw; delta op3_5_26; (try dsimp only at hSw); go_simp) <;> with_reducible rfl)
  try simp only [op3_5_26, ksz]
  refine wpAnyH_take (i := 27) (oi := op3_5_27) (v := ?_) rfl (by kernel_rfl) (by kernel_rfl) (by kernel_rfl) (fun _ _ _ h => h) (Or.inl ⟨by rfl, ?_⟩) (by assumption) ?_
  rotate_left
  · ((intro w hSw; delta op3_5_27; (try dsimp only at hSw); go_simp) <;> with_reducible rfl)
  try simp only [op3_5_27, ksz]
  refine wpAnyH_take (i := 28) (oi := op3_5_28) (v := ?_) rfl (by kernel_rfl) (by kernel_rfl) (by kernel_rfl) (fun _ _ _ h => h) (Or.inl ⟨by rfl, ?_⟩) (by assumption) ?_
  rotate_left
  · ((intro w hSw; delta op3_5_28; (try dsimp only at hSw); go_simp) <;> with_reducible rfl)
  try simp only [op3_5_28, ksz]
  refine wpAnyH_take (i := 29) (oi := op3_5_29) (v := ?_) rfl (by kernel_rfl) (by kernel_rfl) (by kernel_rfl) (fun _ _ _ h => h) (Or.inl ⟨by rfl, ?_⟩) (by assumption) ?_
  rotate_left
  · ((intro w hSw; delta op3_5_29; (try dsimp only at hSw); go_simp) <;> with_reducible rfl)
  try simp only [op3_5_29, ksz]
  refine wpAnyH_ready (rs := [30]) (by kernel_rfl) (by simp) ?_
  refine AllReadyH.cons (o := op3_5_30) rfl (fun K hK => ?_) AllReadyH.nil
  delta op3_5_30
  go_simp
  (refine (works_any _ (HDR0.out.later (HB.out.trans (HB7.out.mono HB.out.size)))).mono ?_; rintro e W8 ⟨rfl, hb⟩; have HB8 := Lib.hid (HB7.out.trans (hb.mono HB7.out.size)); clear hb)
  refine hK.out _ _ ?_ (fun hHeld => ?_)
  · (try dsimp only); (exact HSV.out _ HB8.out)
  clear hK K
  try simp only [op3_5_30, ksz]
  refine wpAnyH_take (i := 31) (oi := op3_5_31) (v := ?_) rfl (by kernel_rfl) (by kernel_rfl) (by kernel_rfl) (fun _ _ _ h => h) (Or.inl ⟨by rfl, ?_⟩) (by assumption) ?_
  rotate_left
  · ((intro w hSw; delta op3_5_31; (try dsimp only at hSw); go_simp) <;> with_reducible rfl)
  try simp only [op3_5_31, ksz]
  refine wpAnyH_take (i := 32) (oi := op3_5_32) (v := ?_) rfl (by kernel_rfl) (by kernel_rfl) (by kernel_rfl) (fun _ _ _ h => h) (Or.inl ⟨by rfl, ?_⟩) (by assumption) ?_
  rotate_left
  · ((intro w hSw; delta op3_5_32; (try dsimp only at hSw); go_simp) <;> with_reducible rfl)
  try simp only [op3_5_32, ksz]
  refine wpAnyH_done (by kernel_rfl) ?_ _
  refine NoPanic.normal ?_
  clear HSV k0
  clear hHeld HB0 HB1 HB2 HB3 HB4 HB5 HB6 HB7
  obtain ⟨Va55, hVU⟩ : ∃ V, W8 = V := ⟨_, rfl⟩
  rw [hVU] at HB8 ⊢
  have HZ := HB8
  clear HB8 hVU
  replace Hb2 := kbl Hb2 HZ
  replace Hb3 := kbl Hb3 HZ
  replace HB := ktr' HB HZ
  replace HU1 := Lib.hid (HU1.out.later HZ.out (Nat.le_refl _))
  replace HV1 := Lib.hid (HV1.out.later HZ.out (Nat.le_refl _))
  replace HU2 := Lib.hid (HU2.out.later HZ.out (Nat.le_refl _))
  replace HV2 := Lib.hid (HV2.out.later HZ.out (Nat.le_refl _))
  clear HZ
  go_wp2
  go_ret
  exact ⟨rfl, HB.out⟩
end Go.Proofs.YtdhcdgfpkjdihaaDoor.Sg
