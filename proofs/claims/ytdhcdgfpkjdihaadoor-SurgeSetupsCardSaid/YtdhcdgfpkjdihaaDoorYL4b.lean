/-
  Layer 3, the laws: SurgeSetups.
-/
import Derived.Test.YtdhcdgfpkjdihaaDoorYL3g
import Derived.Test.YtdhcdgfpkjdihaaDoorYR5c
set_option linter.unusedSimpArgs false
set_option linter.unusedVariables false
namespace Go.Proofs.YtdhcdgfpkjdihaaDoor.Sg
open Go.RowKit Go.Shelf
def op4_4_0 : Oper := ⟨some 34, .fieldAddr 30 (.tmp 2) 0, 0, "law.go:105", #[], none⟩
def op4_4_1 : Oper := ⟨some 35, .load 24 (.tmp 34), 24, "law.go:105", #[⟨0, .data⟩], none⟩
def op4_4_2 : Oper := ⟨some 36, .fieldAddr 30 (.tmp 2) 1, 0, "law.go:105", #[], none⟩
def op4_4_3 : Oper := ⟨some 37, .load 26 (.tmp 36), 26, "law.go:105", #[⟨2, .data⟩], none⟩
def op4_4_4 : Oper := ⟨some 38, .load 30 (.tmp 2), 30, "law.go:105", #[], none⟩
def op4_4_5 : Oper := ⟨some 39, .call { callee := Callee.value (.func 21), args := #[.tmp 38], argTypes := #[30] }, 40, "law.go:105", #[⟨4, .data⟩], none⟩
def op4_4_6 : Oper := ⟨some 40, .fieldAddr 30 (.tmp 2) 3, 0, "law.go:105", #[], none⟩
def op4_4_7 : Oper := ⟨some 41, .load 3 (.tmp 40), 3, "law.go:105", #[⟨6, .data⟩], none⟩
def op4_4_8 : Oper := ⟨some 42, .fieldAddr 30 (.tmp 2) 4, 0, "law.go:105", #[], none⟩
def op4_4_9 : Oper := ⟨some 43, .load 3 (.tmp 42), 3, "law.go:105", #[⟨8, .data⟩], none⟩
def op4_4_10 : Oper := ⟨some 44, .fieldAddr 32 (.tmp 3) 0, 0, "law.go:105", #[], none⟩
def op4_4_11 : Oper := ⟨some 45, .load 26 (.tmp 44), 26, "law.go:105", #[⟨10, .data⟩], none⟩
def op4_4_12 : Oper := ⟨some 46, .call { callee := Callee.value (.func 26), args := #[.tmp 35, .tmp 37, .tmp 39, .tmp 41, .tmp 43, .tmp 45], argTypes := #[24, 26, 40, 3, 3, 26] }, 47, "law.go:105", #[⟨1, .data⟩, ⟨3, .data⟩, ⟨5, .data⟩, ⟨7, .data⟩, ⟨9, .data⟩, ⟨11, .data⟩, ⟨5, .chain⟩], none⟩
def op4_4_13 : Oper := ⟨some 33, .move (.tmp 46), 47, "law.go:105", #[⟨12, .data⟩], none⟩
def op4_4_14 : Oper := ⟨some 47, .extract (.tmp 33) 0, 26, "law.go:105", #[⟨13, .data⟩], none⟩
def op4_4_15 : Oper := ⟨some 48, .extract (.tmp 33) 1, 35, "law.go:105", #[⟨13, .data⟩, ⟨17, .gcOnly .lateStores⟩], none⟩
def op4_4_16 : Oper := ⟨some 7, .alloc 26, 0, "law.go:105", #[], none⟩
def op4_4_17 : Oper := ⟨none, .store 26 (.tmp 7) (.tmp 47), 0, "law.go:105", #[⟨16, .data⟩, ⟨14, .data⟩, ⟨12, .chain⟩, ⟨0, .phase⟩, ⟨1, .phase⟩, ⟨2, .phase⟩, ⟨3, .phase⟩, ⟨4, .phase⟩, ⟨5, .phase⟩, ⟨6, .phase⟩, ⟨7, .phase⟩, ⟨8, .phase⟩, ⟨9, .phase⟩, ⟨10, .phase⟩, ⟨11, .phase⟩, ⟨12, .phase⟩, ⟨13, .phase⟩, ⟨14, .phase⟩, ⟨15, .textOnly .lateStores⟩, ⟨16, .phase⟩], none⟩
def op4_4_18 : Oper := ⟨some 8, .assign (.tmp 48), 35, "law.go:105", #[⟨15, .data⟩, ⟨17, .chain⟩, ⟨0, .phase⟩, ⟨1, .phase⟩, ⟨2, .phase⟩, ⟨3, .phase⟩, ⟨4, .phase⟩, ⟨5, .phase⟩, ⟨6, .phase⟩, ⟨7, .phase⟩, ⟨8, .phase⟩, ⟨9, .phase⟩, ⟨10, .phase⟩, ⟨11, .phase⟩, ⟨12, .phase⟩, ⟨13, .phase⟩, ⟨14, .phase⟩, ⟨15, .phase⟩, ⟨16, .phase⟩, ⟨17, .phase⟩], none⟩
def op4_6_0 : Oper := ⟨some 63, .fieldAddr 30 (.tmp 2) 0, 0, "law.go:107", #[], none⟩
def op4_6_1 : Oper := ⟨some 64, .load 24 (.tmp 63), 24, "law.go:107", #[⟨0, .data⟩], none⟩
def op4_6_2 : Oper := ⟨some 65, .fieldAddr 30 (.tmp 2) 1, 0, "law.go:107", #[], none⟩
def op4_6_3 : Oper := ⟨some 66, .load 26 (.tmp 65), 26, "law.go:107", #[⟨2, .data⟩], none⟩
def op4_6_4 : Oper := ⟨some 67, .load 30 (.tmp 2), 30, "law.go:107", #[], none⟩
def op4_6_5 : Oper := ⟨some 68, .call { callee := Callee.value (.func 21), args := #[.tmp 67], argTypes := #[30] }, 40, "law.go:107", #[⟨4, .data⟩], none⟩
def op4_6_6 : Oper := ⟨some 69, .fieldAddr 30 (.tmp 2) 3, 0, "law.go:107", #[], none⟩
def op4_6_7 : Oper := ⟨some 70, .load 3 (.tmp 69), 3, "law.go:107", #[⟨6, .data⟩], none⟩
def op4_6_8 : Oper := ⟨some 71, .load 32 (.tmp 3), 32, "law.go:107", #[], none⟩
def op4_6_9 : Oper := ⟨some 72, .call { callee := Callee.value (.func 28), args := #[.tmp 64, .tmp 66, .tmp 68, .tmp 70, .tmp 71], argTypes := #[24, 26, 40, 3, 44] }, 47, "law.go:107", #[⟨1, .data⟩, ⟨3, .data⟩, ⟨5, .data⟩, ⟨7, .data⟩, ⟨8, .data⟩, ⟨5, .chain⟩], none⟩
def op4_6_10 : Oper := ⟨some 62, .move (.tmp 72), 47, "law.go:107", #[⟨9, .data⟩], none⟩
def op4_6_11 : Oper := ⟨some 73, .extract (.tmp 62) 0, 26, "law.go:107", #[⟨10, .data⟩], none⟩
def op4_6_12 : Oper := ⟨some 74, .extract (.tmp 62) 1, 35, "law.go:107", #[⟨10, .data⟩, ⟨14, .gcOnly .lateStores⟩], none⟩
def op4_6_13 : Oper := ⟨some 11, .alloc 26, 0, "law.go:107", #[], none⟩
def op4_6_14 : Oper := ⟨none, .store 26 (.tmp 11) (.tmp 73), 0, "law.go:107", #[⟨13, .data⟩, ⟨11, .data⟩, ⟨9, .chain⟩, ⟨0, .phase⟩, ⟨1, .phase⟩, ⟨2, .phase⟩, ⟨3, .phase⟩, ⟨4, .phase⟩, ⟨5, .phase⟩, ⟨6, .phase⟩, ⟨7, .phase⟩, ⟨8, .phase⟩, ⟨9, .phase⟩, ⟨10, .phase⟩, ⟨11, .phase⟩, ⟨12, .textOnly .lateStores⟩, ⟨13, .phase⟩], none⟩
def op4_6_15 : Oper := ⟨some 12, .assign (.tmp 74), 35, "law.go:107", #[⟨12, .data⟩, ⟨14, .chain⟩, ⟨0, .phase⟩, ⟨1, .phase⟩, ⟨2, .phase⟩, ⟨3, .phase⟩, ⟨4, .phase⟩, ⟨5, .phase⟩, ⟨6, .phase⟩, ⟨7, .phase⟩, ⟨8, .phase⟩, ⟨9, .phase⟩, ⟨10, .phase⟩, ⟨11, .phase⟩, ⟨12, .phase⟩, ⟨13, .phase⟩, ⟨14, .phase⟩], none⟩
set_option maxRecDepth 100000 in
set_option maxHeartbeats 4000000 in
theorem SurgeSetups_any (WW HH SS : Int) (ss : List (Int × Int)) (A : Option Addr) (c : Nat) (sa sb d1 d2 l1 l2 cell dir : Int) (s1 s2 n p1 p2 : Int) (w : World) (HD : DirsAt w) (hs : SpansAt w w.heap.size (.slice A ss.length c) ss) :
 Calls Tryd.prog 4 #[.agg #[.int .i64 (WW), .int .i64 (HH), .int .i64 (SS), .slice A ss.length c, .int .i64 (sa), .int .i64 (sb), .int .i64 (d1), .int .i64 (d2), .int .i64 (l1), .int .i64 (l2), .int .i64 (cell), .int .i64 (dir)], .agg #[.int .i64 (s1), .int .i64 (s2), .int .i64 (n), .int .i64 (p1), .int .i64 (p2)]] w fun e w' => e = .returned (.bool true) ∧ Below w.heap.size w w' := by
 by_cases hf : decide (ss.length ≤ 600) = true
 rotate_left
 ·
  have hf : decide (ss.length ≤ 600) = false := by simpa using hf
  have HF := Lib.hid hf
  clear hf
  have HDR0 := Lib.hid HD
  have HS0 := Lib.hid hs
  clear HD hs
  go_enter Tryd.func4, Tryd.ntmps4
  go_upto_region 1 with (fail)
  obtain ⟨Va1, hV⟩ : ∃ V, (w.alloc (.cells #[.int .i64 (WW), .int .i64 (HH), .int .i64 (SS), .slice A ss.length c, .int .i64 (sa), .int .i64 (sb), .int .i64 (d1), .int .i64 (d2), .int .i64 (l1), .int .i64 (l2), .int .i64 (cell), .int .i64 (dir)] 30)).alloc (.cells #[.int .i64 (s1), .int .i64 (s2), .int .i64 (n), .int .i64 (p1), .int .i64 (p2)] 32) = V := ⟨_, rfl⟩
  have Kb2 : Hid (Blk Va1 (w.heap.size) 30 #[.int .i64 (WW), .int .i64 (HH), .int .i64 (SS), .slice A ss.length c, .int .i64 (sa), .int .i64 (sb), .int .i64 (d1), .int .i64 (d2), .int .i64 (l1), .int .i64 (l2), .int .i64 (cell), .int .i64 (dir)]) := by rw [← hV]; exact (Blk.new' _ _ _ (by simp)).alloc _
  have Kb3 : Hid (Blk Va1 (w.heap.size + 1) 32 #[.int .i64 (s1), .int .i64 (s2), .int .i64 (n), .int .i64 (p1), .int .i64 (p2)]) := by rw [← hV]; exact Blk.new' _ _ _ (by simp)
  have GHB : Hid (Below w.heap.size w Va1) := by rw [← hV]; exact (by repeat (first | exact Below.refl _ _ | assumption | refine Below.drew ?_ | refine Below.drewN' ?_ _ | (refine Below.alloc ?_ (by simp <;> omega) _) | (refine Below.setCell ?_ (by simp <;> omega) _)))
  have HZ : Hid (Below w.heap.size w Va1) := GHB
  rw [hV]
  clear hV HZ
  have HB := GHB
  clear GHB
  obtain ⟨b3, hqb3⟩ : ∃ b, w.heap.size + 1 = b := ⟨_, rfl⟩
  obtain ⟨b2, hqb2⟩ : ∃ b, w.heap.size = b := ⟨_, rfl⟩
  have gb2 : w.heap.size ≤ b2 := by omega
  have gb3 : w.heap.size ≤ b3 := by omega
  have nb3b2 : ¬ b3 = b2 := by omega
  have nb2b3 : ¬ b2 = b3 := by omega
  rw [hqb3] at Kb3 ⊢
  clear hqb3
  have HN : Hid (w.heap.size = b2) := hqb2
  rw [hqb2] at Kb2 ⊢
  clear hqb2
  have Hb2 := Kb2
  clear Kb2
  have Hb3 := Kb3
  clear Kb3
  have cb20 := kcl0 Hb2
  have cb21 := kcl1 Hb2
  have cb22 := kcl2 Hb2
  have cb23 := kcl3 Hb2
  have cb24 := kcl4 Hb2
  have cb25 := kcl5 Hb2
  have cb26 := kcl6 Hb2
  have cb27 := kcl7 Hb2
  have cb28 := kcl8 Hb2
  have cb29 : Va1.cell? ⟨b2, 9, none⟩ = some (.int .i64 (l2)) := Hb2.out.cell 9
  have cb210 : Va1.cell? ⟨b2, 10, none⟩ = some (.int .i64 (cell)) := Hb2.out.cell 10
  have cb211 : Va1.cell? ⟨b2, 11, none⟩ = some (.int .i64 (dir)) := Hb2.out.cell 11
  go_wp2_with fail
  refine (few_any WW HH SS A ss.length c sa sb d1 d2 l1 l2 cell dir _).mono ?_
  rintro e Va2 ⟨rfl, hb⟩
  have HZ := Lib.hid hb
  clear hb
  rw [HF.out]
  clear cb20 cb21 cb22 cb23 cb24 cb25 cb26 cb27 cb28 cb29 cb210 cb211
  replace Hb2 := kbl Hb2 HZ
  replace Hb3 := kbl Hb3 HZ
  replace HB := ktr' HB HZ
  clear HZ
  go_wp2_with fail
  refine (works_any _ (HDR0.out.later HB.out)).mono ?_
  rintro e Va3 ⟨rfl, hb⟩
  have HBZ := Lib.hid (HB.out.trans (hb.mono HB.out.size))
  clear hb
  go_wp2
  go_ret
  exact ⟨rfl, HBZ.out⟩
 ·
  obtain ⟨E, hE⟩ : ∃ z, setupE ⟨WW, HH, SS, ss⟩ (sa, sb) ⟨(d1, d2), (l1, l2)⟩ cell dir (s1, s2) = z := ⟨_, rfl⟩
  obtain ⟨⟨a1, a2⟩, ha⟩ : ∃ z, setupV ⟨WW, HH, SS, ss⟩ (sa, sb) ⟨(d1, d2), (l1, l2)⟩ cell dir (s1, s2) = z := ⟨_, rfl⟩
  obtain ⟨F, hF⟩ : ∃ z, steadyE ⟨WW, HH, SS, ss⟩ (sa, sb) ⟨(d1, d2), (l1, l2)⟩ cell ⟨(s1, s2), n, (p1, p2)⟩ = z := ⟨_, rfl⟩
  obtain ⟨⟨c1, c2⟩, hc2⟩ : ∃ z, steadyV ⟨WW, HH, SS, ss⟩ (sa, sb) ⟨(d1, d2), (l1, l2)⟩ cell ⟨(s1, s2), n, (p1, p2)⟩ = z := ⟨_, rfl⟩
  have HF := Lib.hid hf
  have HE := Lib.hid hE
  have HA := Lib.hid ha
  have HG := Lib.hid hF
  have HC := Lib.hid hc2
  have hp1 := span_stood
  have hp2 := span_guard
  clear hf hE ha hF hc2
  have HDR0 := Lib.hid HD
  have HS0 := Lib.hid hs
  clear HD hs
  go_enter Tryd.func4, Tryd.ntmps4
  go_upto_region 1 with (fail)
  obtain ⟨Va51, hV⟩ : ∃ V, (w.alloc (.cells #[.int .i64 (WW), .int .i64 (HH), .int .i64 (SS), .slice A ss.length c, .int .i64 (sa), .int .i64 (sb), .int .i64 (d1), .int .i64 (d2), .int .i64 (l1), .int .i64 (l2), .int .i64 (cell), .int .i64 (dir)] 30)).alloc (.cells #[.int .i64 (s1), .int .i64 (s2), .int .i64 (n), .int .i64 (p1), .int .i64 (p2)] 32) = V := ⟨_, rfl⟩
  have Kb2 : Hid (Blk Va51 (w.heap.size) 30 #[.int .i64 (WW), .int .i64 (HH), .int .i64 (SS), .slice A ss.length c, .int .i64 (sa), .int .i64 (sb), .int .i64 (d1), .int .i64 (d2), .int .i64 (l1), .int .i64 (l2), .int .i64 (cell), .int .i64 (dir)]) := by rw [← hV]; exact (Blk.new' _ _ _ (by simp)).alloc _
  have Kb3 : Hid (Blk Va51 (w.heap.size + 1) 32 #[.int .i64 (s1), .int .i64 (s2), .int .i64 (n), .int .i64 (p1), .int .i64 (p2)]) := by rw [← hV]; exact Blk.new' _ _ _ (by simp)
  have GHB : Hid (Below w.heap.size w Va51) := by rw [← hV]; exact (by repeat (first | exact Below.refl _ _ | assumption | refine Below.drew ?_ | refine Below.drewN' ?_ _ | (refine Below.alloc ?_ (by simp <;> omega) _) | (refine Below.setCell ?_ (by simp <;> omega) _)))
  have HZ : Hid (Below w.heap.size w Va51) := GHB
  rw [hV]
  clear hV HZ
  have HB := GHB
  clear GHB
  obtain ⟨b3, hqb3⟩ : ∃ b, w.heap.size + 1 = b := ⟨_, rfl⟩
  obtain ⟨b2, hqb2⟩ : ∃ b, w.heap.size = b := ⟨_, rfl⟩
  have gb2 : w.heap.size ≤ b2 := by omega
  have gb3 : w.heap.size ≤ b3 := by omega
  have nb3b2 : ¬ b3 = b2 := by omega
  have nb2b3 : ¬ b2 = b3 := by omega
  rw [hqb3] at Kb3 ⊢
  clear hqb3
  have HN : Hid (w.heap.size = b2) := hqb2
  rw [hqb2] at Kb2 ⊢
  clear hqb2
  have Hb2 := Kb2
  clear Kb2
  have Hb3 := Kb3
  clear Kb3
  have cb20 := kcl0 Hb2
  have cb21 := kcl1 Hb2
  have cb22 := kcl2 Hb2
  have cb23 := kcl3 Hb2
  have cb24 := kcl4 Hb2
  have cb25 := kcl5 Hb2
  have cb26 := kcl6 Hb2
  have cb27 := kcl7 Hb2
  have cb28 := kcl8 Hb2
  have cb29 : Va51.cell? ⟨b2, 9, none⟩ = some (.int .i64 (l2)) := Hb2.out.cell 9
  have cb210 : Va51.cell? ⟨b2, 10, none⟩ = some (.int .i64 (cell)) := Hb2.out.cell 10
  have cb211 : Va51.cell? ⟨b2, 11, none⟩ = some (.int .i64 (dir)) := Hb2.out.cell 11
  go_wp2_with fail
  refine (few_any WW HH SS A ss.length c sa sb d1 d2 l1 l2 cell dir _).mono ?_
  rintro e Va52 ⟨rfl, hb⟩
  have HZ := Lib.hid hb
  clear hb
  rw [HF.out]
  clear cb20 cb21 cb22 cb23 cb24 cb25 cb26 cb27 cb28 cb29 cb210 cb211
  replace Hb2 := kbl Hb2 HZ
  replace Hb3 := kbl Hb3 HZ
  replace HB := ktr' HB HZ
  clear HZ
  have cb20 := kcl0 Hb2
  have cb21 := kcl1 Hb2
  have cb22 := kcl2 Hb2
  have cb23 := kcl3 Hb2
  have cb24 := kcl4 Hb2
  have cb25 := kcl5 Hb2
  have cb26 := kcl6 Hb2
  have cb27 := kcl7 Hb2
  have cb28 := kcl8 Hb2
  have cb29 : Va52.cell? ⟨b2, 9, none⟩ = some (.int .i64 (l2)) := Hb2.out.cell 9
  have cb210 : Va52.cell? ⟨b2, 10, none⟩ = some (.int .i64 (cell)) := Hb2.out.cell 10
  have cb211 : Va52.cell? ⟨b2, 11, none⟩ = some (.int .i64 (dir)) := Hb2.out.cell 11
  have cb30 := kcl0 Hb3
  have cb31 := kcl1 Hb3
  have cb32 := kcl2 Hb3
  have cb33 := kcl3 Hb3
  have cb34 := kcl4 Hb3
  go_wp2_with fail
  refine (Setup_any WW HH SS ss A c sa sb d1 d2 l1 l2 cell dir s1 s2 _ (HDR0.out.later HB.out) (HS0.out.later HB.out (Nat.le_refl _))).mono ?_
  rintro e Va53 ⟨rfl, hb⟩
  have HZ := Lib.hid hb
  clear hb
  rw [HE.out, HA.out]
  simp only [spV]
  clear cb20 cb21 cb22 cb23 cb24 cb25 cb26 cb27 cb28 cb29 cb210 cb211 cb30 cb31 cb32 cb33 cb34
  replace Hb2 := kbl Hb2 HZ
  replace Hb3 := kbl Hb3 HZ
  replace HB := ktr' HB HZ
  clear HZ
  go_upto_region 4 with (fail)
  obtain ⟨Va54, hV⟩ : ∃ X, Va53.alloc (.cells #[.int .i64 (a1), .int .i64 (a2)] 26) = X := ⟨_, rfl⟩
  have hnew : Blk Va54 Va53.heap.size 26 #[.int .i64 (a1), .int .i64 (a2)] := by rw [← hV]; exact (Blk.new' _ _ _ rfl)
  have hz : Below Va53.heap.size Va53 Va54 := by rw [← hV]; exact ((Below.refl _ _).alloc (Nat.le_refl _) _)
  have hgn := HB.out.size
  have lb2 := Hb2.out.lt
  have lb3 := Hb3.out.lt
  rw [hV]
  obtain ⟨b5, hbx⟩ : ∃ b, Va53.heap.size = b := ⟨_, rfl⟩
  rw [hbx] at hnew hgn lb2 lb3 ⊢
  have gb5 : w.heap.size ≤ b5 := hgn
  have HZ := Lib.hid hz
  have nb2b5 : ¬ b2 = b5 := by omega
  have nb5b2 : ¬ b5 = b2 := by omega
  have nb3b5 : ¬ b3 = b5 := by omega
  have nb5b3 : ¬ b5 = b3 := by omega
  clear hV hz hgn hbx lb2 lb3
  replace Hb2 := kbl Hb2 HZ
  replace Hb3 := kbl Hb3 HZ
  replace HB := ktr' HB HZ
  clear HZ
  have Hb5 := Lib.hid hnew
  clear hnew
  go_upto_region 4 with (fail)
  have HSV : Hid (∀ U, Below Va54.heap.size Va54 U → U.cell? ⟨b2, 0, none⟩ = some (.int .i64 (WW)) ∧ U.cell? ⟨b2, 1, none⟩ = some (.int .i64 (HH)) ∧ U.cell? ⟨b2, 2, none⟩ = some (.int .i64 (SS)) ∧ U.cell? ⟨b2, 3, none⟩ = some (.slice A ss.length c) ∧ U.cell? ⟨b2, 4, none⟩ = some (.int .i64 (sa)) ∧ U.cell? ⟨b2, 5, none⟩ = some (.int .i64 (sb)) ∧ U.cell? ⟨b2, 6, none⟩ = some (.int .i64 (d1)) ∧ U.cell? ⟨b2, 7, none⟩ = some (.int .i64 (d2)) ∧ U.cell? ⟨b2, 8, none⟩ = some (.int .i64 (l1)) ∧ U.cell? ⟨b2, 9, none⟩ = some (.int .i64 (l2)) ∧ U.cell? ⟨b2, 10, none⟩ = some (.int .i64 (cell)) ∧ U.cell? ⟨b2, 11, none⟩ = some (.int .i64 (dir)) ∧ U.cell? ⟨b3, 0, none⟩ = some (.int .i64 (s1)) ∧ U.cell? ⟨b3, 1, none⟩ = some (.int .i64 (s2)) ∧ U.cell? ⟨b3, 2, none⟩ = some (.int .i64 (n)) ∧ U.cell? ⟨b3, 3, none⟩ = some (.int .i64 (p1)) ∧ U.cell? ⟨b3, 4, none⟩ = some (.int .i64 (p2))) := fun U hU => by
   have kb2 := Hb2.out.below hU Hb2.out.lt
   have kb3 := Hb3.out.below hU Hb3.out.lt
   exact ⟨kb2.cell 0, kb2.cell 1, kb2.cell 2, kb2.cell 3, kb2.cell 4, kb2.cell 5, kb2.cell 6, kb2.cell 7, kb2.cell 8, kb2.cell 9, kb2.cell 10, kb2.cell 11, kb3.cell 0, kb3.cell 1, kb3.cell 2, kb3.cell 3, kb3.cell 4⟩
  have k0 := HSV.out _ (Below.drew (Below.refl Va54.heap.size Va54))
  go_cut [7, 8] from 33 to 49 (fun pq0 pe0 wx => pe0 = .int .i64 (E) ∧ OneBx Va54 26 #[.int .i64 (a1), .int .i64 (a2)] pq0 wx)
  case first =>
   refine wp_region_noPanic ?_
   refine wp_region_held_drew (S := (fun w' => w'.cell? ⟨b2, 0, none⟩ = some (.int .i64 (WW)) ∧ w'.cell? ⟨b2, 1, none⟩ = some (.int .i64 (HH)) ∧ w'.cell? ⟨b2, 2, none⟩ = some (.int .i64 (SS)) ∧ w'.cell? ⟨b2, 3, none⟩ = some (.slice A ss.length c) ∧ w'.cell? ⟨b2, 4, none⟩ = some (.int .i64 (sa)) ∧ w'.cell? ⟨b2, 5, none⟩ = some (.int .i64 (sb)) ∧ w'.cell? ⟨b2, 6, none⟩ = some (.int .i64 (d1)) ∧ w'.cell? ⟨b2, 7, none⟩ = some (.int .i64 (d2)) ∧ w'.cell? ⟨b2, 8, none⟩ = some (.int .i64 (l1)) ∧ w'.cell? ⟨b2, 9, none⟩ = some (.int .i64 (l2)) ∧ w'.cell? ⟨b2, 10, none⟩ = some (.int .i64 (cell)) ∧ w'.cell? ⟨b2, 11, none⟩ = some (.int .i64 (dir)) ∧ w'.cell? ⟨b3, 0, none⟩ = some (.int .i64 (s1)) ∧ w'.cell? ⟨b3, 1, none⟩ = some (.int .i64 (s2)) ∧ w'.cell? ⟨b3, 2, none⟩ = some (.int .i64 (n)) ∧ w'.cell? ⟨b3, 3, none⟩ = some (.int .i64 (p1)) ∧ w'.cell? ⟨b3, 4, none⟩ = some (.int .i64 (p2)))) (by kernel_rfl) ?_ (fun hHeld => ?_)
   · (try dsimp only); (exact k0)
   refine wpAnyH_take (i := 0) (oi := op4_4_0) (v := ?_) rfl (by kernel_rfl) (by kernel_rfl) (by kernel_rfl) (fun _ _ _ h => h) (Or.inl ⟨by rfl, ?_⟩) (by assumption) ?_
   rotate_left
   · ((intro w hSw; delta op4_4_0; (try dsimp only at hSw); go_simp) <;> with_reducible rfl)
   try simp only [op4_4_0, ksz]
   refine wpAnyH_take (i := 2) (oi := op4_4_2) (v := ?_) rfl (by kernel_rfl) (by kernel_rfl) (by kernel_rfl) (fun _ _ _ h => h) (Or.inl ⟨by rfl, ?_⟩) (by assumption) ?_
   rotate_left
   · ((intro w hSw; delta op4_4_2; (try dsimp only at hSw); go_simp) <;> with_reducible rfl)
   try simp only [op4_4_2, ksz]
   refine wpAnyH_take (i := 4) (oi := op4_4_4) (v := ?_) rfl (by kernel_rfl) (by kernel_rfl) (by kernel_rfl) (fun _ _ _ h => h) (Or.inl ⟨by rfl, ?_⟩) (by assumption) ?_
   rotate_left
   · ((intro w hSw; delta op4_4_4; (try dsimp only at hSw); go_simp) <;> with_reducible rfl)
   try simp only [op4_4_4, ksz]
   refine wpAnyH_take (i := 6) (oi := op4_4_6) (v := ?_) rfl (by kernel_rfl) (by kernel_rfl) (by kernel_rfl) (fun _ _ _ h => h) (Or.inl ⟨by rfl, ?_⟩) (by assumption) ?_
   rotate_left
   · ((intro w hSw; delta op4_4_6; (try dsimp only at hSw); go_simp) <;> with_reducible rfl)
   try simp only [op4_4_6, ksz]
   refine wpAnyH_take (i := 8) (oi := op4_4_8) (v := ?_) rfl (by kernel_rfl) (by kernel_rfl) (by kernel_rfl) (fun _ _ _ h => h) (Or.inl ⟨by rfl, ?_⟩) (by assumption) ?_
   rotate_left
   · ((intro w hSw; delta op4_4_8; (try dsimp only at hSw); go_simp) <;> with_reducible rfl)
   try simp only [op4_4_8, ksz]
   refine wpAnyH_take (i := 10) (oi := op4_4_10) (v := ?_) rfl (by kernel_rfl) (by kernel_rfl) (by kernel_rfl) (fun _ _ _ h => h) (Or.inl ⟨by rfl, ?_⟩) (by assumption) ?_
   rotate_left
   · ((intro w hSw; delta op4_4_10; (try dsimp only at hSw); go_simp) <;> with_reducible rfl)
   try simp only [op4_4_10, ksz]
   refine wpAnyH_take (i := 1) (oi := op4_4_1) (v := ?_) rfl (by kernel_rfl) (by kernel_rfl) (by kernel_rfl) (fun _ _ _ h => h) (Or.inl ⟨by rfl, ?_⟩) (by assumption) ?_
   rotate_left
   · ((intro w hSw; delta op4_4_1; (try dsimp only at hSw); go_simp) <;> with_reducible rfl)
   try simp only [op4_4_1, ksz]
   refine wpAnyH_take (i := 3) (oi := op4_4_3) (v := ?_) rfl (by kernel_rfl) (by kernel_rfl) (by kernel_rfl) (fun _ _ _ h => h) (Or.inl ⟨by rfl, ?_⟩) (by assumption) ?_
   rotate_left
   · ((intro w hSw; delta op4_4_3; (try dsimp only at hSw); go_simp) <;> with_reducible rfl)
   try simp only [op4_4_3, ksz]
   refine wpAnyH_take (i := 7) (oi := op4_4_7) (v := ?_) rfl (by kernel_rfl) (by kernel_rfl) (by kernel_rfl) (fun _ _ _ h => h) (Or.inl ⟨by rfl, ?_⟩) (by assumption) ?_
   rotate_left
   · ((intro w hSw; delta op4_4_7; (try dsimp only at hSw); go_simp) <;> with_reducible rfl)
   try simp only [op4_4_7, ksz]
   refine wpAnyH_take (i := 9) (oi := op4_4_9) (v := ?_) rfl (by kernel_rfl) (by kernel_rfl) (by kernel_rfl) (fun _ _ _ h => h) (Or.inl ⟨by rfl, ?_⟩) (by assumption) ?_
   rotate_left
   · ((intro w hSw; delta op4_4_9; (try dsimp only at hSw); go_simp) <;> with_reducible rfl)
   try simp only [op4_4_9, ksz]
   refine wpAnyH_take (i := 11) (oi := op4_4_11) (v := ?_) rfl (by kernel_rfl) (by kernel_rfl) (by kernel_rfl) (fun _ _ _ h => h) (Or.inl ⟨by rfl, ?_⟩) (by assumption) ?_
   rotate_left
   · ((intro w hSw; delta op4_4_11; (try dsimp only at hSw); go_simp) <;> with_reducible rfl)
   try simp only [op4_4_11, ksz]
   obtain ⟨W0, hW0⟩ : ∃ V, Va54.drew = V := ⟨_, rfl⟩; rw [hW0] at hHeld ⊢; have HB0 : Hid (Below Va54.heap.size Va54 W0) := (by rw [← hW0]; exact Below.drew (Below.refl _ _)); clear hW0
   refine wpAnyH_ready (rs := [5, 16]) (by kernel_rfl) (by simp) ?_
   refine AllReadyH.cons (o := op4_4_5) rfl (fun K hK => ?_) ?_
   ·
    delta op4_4_5
    go_simp
    (refine (model_any WW HH SS A ss.length c sa sb d1 d2 l1 l2 cell dir _).mono ?_; rintro e W1 ⟨rfl, hb⟩; have hbz : Below W0.heap.size W0 W1 := hb; clear hb; have HB1 := Lib.hid (HB0.out.trans (hbz.mono HB0.out.size)); clear hbz)
    refine hK.out _ _ ?_ (fun hHeld => ?_)
    · (try dsimp only); (exact HSV.out _ HB1.out)
    clear hK K
    try simp only [op4_4_5, ksz]
    refine wpAnyH_ready (rs := [12, 16]) (by kernel_rfl) (by simp) ?_
    refine AllReadyH.cons (o := op4_4_12) rfl (fun K hK => ?_) ?_
    ·
     delta op4_4_12
     go_simp
     (refine (rSetup_any WW HH SS ss A c sa sb d1 d2 l1 l2 cell dir s1 s2 _ (HS0.out.later (HB.out.trans (HB1.out.mono HB.out.size)) (Nat.le_refl _))).mono ?_; rintro e W2 ⟨rfl, hb⟩; have hbz : Below W1.heap.size W1 W2 := hb; clear hb; have HB2 := Lib.hid (HB1.out.trans (hbz.mono HB1.out.size)); clear hbz; rw [HE.out, HA.out]; simp only [spV])
     refine hK.out _ _ ?_ (fun hHeld => ?_)
     · (try dsimp only); (exact HSV.out _ HB2.out)
     clear hK K
     try simp only [op4_4_12, ksz]
     refine wpAnyH_take (i := 13) (oi := op4_4_13) (v := ?_) rfl (by kernel_rfl) (by kernel_rfl) (by kernel_rfl) (fun _ _ _ h => h) (Or.inl ⟨by rfl, ?_⟩) (by assumption) ?_
     rotate_left
     · ((intro w hSw; delta op4_4_13; (try dsimp only at hSw); go_simp) <;> with_reducible rfl)
     try simp only [op4_4_13, ksz]
     refine wpAnyH_take (i := 14) (oi := op4_4_14) (v := ?_) rfl (by kernel_rfl) (by kernel_rfl) (by kernel_rfl) (fun _ _ _ h => h) (Or.inl ⟨by rfl, ?_⟩) (by assumption) ?_
     rotate_left
     · ((intro w hSw; delta op4_4_14; (try dsimp only at hSw); go_simp) <;> with_reducible rfl)
     try simp only [op4_4_14, ksz]
     refine wpAnyH_take (i := 15) (oi := op4_4_15) (v := ?_) rfl (by kernel_rfl) (by kernel_rfl) (by kernel_rfl) (fun _ _ _ h => h) (Or.inl ⟨by rfl, ?_⟩) (by assumption) ?_
     rotate_left
     · ((intro w hSw; delta op4_4_15; (try dsimp only at hSw); go_simp) <;> with_reducible rfl)
     try simp only [op4_4_15, ksz]
     refine wpAnyH_ready (rs := [16]) (by kernel_rfl) (by simp) ?_
     refine AllReadyH.cons (o := op4_4_16) rfl (fun K hK => ?_) AllReadyH.nil
     delta op4_4_16
     go_simp
     obtain ⟨W3, hV⟩ : ∃ V, W2.alloc (.cells #[.int .i64 (0), .int .i64 (0)] 26) = V := ⟨_, rfl⟩; have hbz : Below W2.heap.size W2 W3 := (by rw [← hV]; exact (Below.refl _ _).alloc (Nat.le_refl _) _); have HB3 := Lib.hid (HB2.out.trans (hbz.mono HB2.out.size)); have Nb7' : Hid (Blk W3 W2.heap.size 26 #[.int .i64 (0), .int .i64 (0)]) := (by rw [← hV]; exact Blk.new' _ _ _ rfl); obtain ⟨b7, hz⟩ : ∃ b, W2.heap.size = b := ⟨_, rfl⟩; rw [hz] at Nb7'; have hb7 : Va54.heap.size ≤ b7 := (by rw [← hz]; exact HB2.out.size); have Nb7 := Nb7'; clear Nb7'; rw [hV, hz]; clear hV hbz hz
     refine hK.out _ _ ?_ (fun hHeld => ?_)
     · (try dsimp only); (exact HSV.out _ HB3.out)
     clear hK K
     try simp only [op4_4_16, ksz]
     have cR0 := Nb7.out.cell 0; have zR0 := Nb7.out.frozen 0; have cR1 := Nb7.out.cell 1; have zR1 := Nb7.out.frozen 1; simp only [List.getElem?_toArray, List.getElem?_cons_zero, List.getElem?_cons_succ] at cR0 cR1
     refine wpAnyH_ready (rs := [17]) (by kernel_rfl) (by simp) ?_
     refine AllReadyH.cons (o := op4_4_17) rfl (fun K hK => ?_) AllReadyH.nil
     delta op4_4_17
     go_simp
     refine hK.out _ _ ?_ (fun hHeld => ?_)
     · (try dsimp only); (exact HSV.out _ ((HB3.out.setCell (p := ⟨b7, 0, none⟩) (by exact hb7) _).setCell (p := ⟨b7, 1, none⟩) (by exact hb7) _))
     clear hK K
     try simp only [op4_4_17, ksz]
     obtain ⟨X0, hV⟩ : ∃ V, (W3.setCell ⟨b7, 0, none⟩ (.int .i64 (a1))).setCell ⟨b7, 1, none⟩ (.int .i64 (a2)) = V := ⟨_, rfl⟩; have Gb7 : Hid (Blk X0 b7 26 #[.int .i64 (a1), .int .i64 (a2)]) := (by rw [← hV]; exact ((Nb7.out.set_ 0 (.int .i64 (a1))).set_ 1 (.int .i64 (a2)))); have GHB : Hid (Below Va54.heap.size Va54 X0) := (by rw [← hV]; exact ((HB3.out.setCell (p := ⟨b7, 0, none⟩) (by exact hb7) _).setCell (p := ⟨b7, 1, none⟩) (by exact hb7) _)); rw [hV]; rw [hV] at hHeld; clear hV cR0 zR0 cR1 zR1 Nb7; have HBX := GHB; clear GHB; have Nb7 := Gb7; clear Gb7
     refine wpAnyH_take (i := 18) (oi := op4_4_18) (v := ?_) rfl (by kernel_rfl) (by kernel_rfl) (by kernel_rfl) (fun _ _ _ h => h) (Or.inl ⟨by rfl, ?_⟩) (by assumption) ?_
     rotate_left
     · ((intro w hSw; delta op4_4_18; (try dsimp only at hSw); go_simp) <;> with_reducible rfl)
     try simp only [op4_4_18, ksz]
     refine wpAnyH_done (by kernel_rfl) ?_ _
     refine NoPanic.normal ?_
     go_wp2_with fail
     go_meet
     exact ⟨rfl, b7, rfl, Nb7.out, (by exact hb7), HBX.out⟩
    refine AllReadyH.cons (o := op4_4_16) rfl (fun K hK => ?_) ?_
    ·
     delta op4_4_16
     go_simp
     obtain ⟨W2, hV⟩ : ∃ V, W1.alloc (.cells #[.int .i64 (0), .int .i64 (0)] 26) = V := ⟨_, rfl⟩; have hbz : Below W1.heap.size W1 W2 := (by rw [← hV]; exact (Below.refl _ _).alloc (Nat.le_refl _) _); have HB2 := Lib.hid (HB1.out.trans (hbz.mono HB1.out.size)); have Nb7' : Hid (Blk W2 W1.heap.size 26 #[.int .i64 (0), .int .i64 (0)]) := (by rw [← hV]; exact Blk.new' _ _ _ rfl); obtain ⟨b7, hz⟩ : ∃ b, W1.heap.size = b := ⟨_, rfl⟩; rw [hz] at Nb7'; have hb7 : Va54.heap.size ≤ b7 := (by rw [← hz]; exact HB1.out.size); have Nb7 := Nb7'; clear Nb7'; rw [hV, hz]; clear hV hbz hz
     refine hK.out _ _ ?_ (fun hHeld => ?_)
     · (try dsimp only); (exact HSV.out _ HB2.out)
     clear hK K
     try simp only [op4_4_16, ksz]
     refine wpAnyH_ready (rs := [12]) (by kernel_rfl) (by simp) ?_
     refine AllReadyH.cons (o := op4_4_12) rfl (fun K hK => ?_) AllReadyH.nil
     delta op4_4_12
     go_simp
     (refine (rSetup_any WW HH SS ss A c sa sb d1 d2 l1 l2 cell dir s1 s2 _ (HS0.out.later (HB.out.trans (HB2.out.mono HB.out.size)) (Nat.le_refl _))).mono ?_; rintro e W3 ⟨rfl, hb⟩; have hbz : Below W2.heap.size W2 W3 := hb; clear hb; have HB3 := Lib.hid (HB2.out.trans (hbz.mono HB2.out.size)); have Mb7 := Lib.hid (Nb7.out.below hbz Nb7.out.lt); clear Nb7; have Nb7 := Mb7; clear Mb7; clear hbz; rw [HE.out, HA.out]; simp only [spV])
     refine hK.out _ _ ?_ (fun hHeld => ?_)
     · (try dsimp only); (exact HSV.out _ HB3.out)
     clear hK K
     try simp only [op4_4_12, ksz]
     refine wpAnyH_take (i := 13) (oi := op4_4_13) (v := ?_) rfl (by kernel_rfl) (by kernel_rfl) (by kernel_rfl) (fun _ _ _ h => h) (Or.inl ⟨by rfl, ?_⟩) (by assumption) ?_
     rotate_left
     · ((intro w hSw; delta op4_4_13; (try dsimp only at hSw); go_simp) <;> with_reducible rfl)
     try simp only [op4_4_13, ksz]
     refine wpAnyH_take (i := 14) (oi := op4_4_14) (v := ?_) rfl (by kernel_rfl) (by kernel_rfl) (by kernel_rfl) (fun _ _ _ h => h) (Or.inl ⟨by rfl, ?_⟩) (by assumption) ?_
     rotate_left
     · ((intro w hSw; delta op4_4_14; (try dsimp only at hSw); go_simp) <;> with_reducible rfl)
     try simp only [op4_4_14, ksz]
     refine wpAnyH_take (i := 15) (oi := op4_4_15) (v := ?_) rfl (by kernel_rfl) (by kernel_rfl) (by kernel_rfl) (fun _ _ _ h => h) (Or.inl ⟨by rfl, ?_⟩) (by assumption) ?_
     rotate_left
     · ((intro w hSw; delta op4_4_15; (try dsimp only at hSw); go_simp) <;> with_reducible rfl)
     try simp only [op4_4_15, ksz]
     have cR0 := Nb7.out.cell 0; have zR0 := Nb7.out.frozen 0; have cR1 := Nb7.out.cell 1; have zR1 := Nb7.out.frozen 1; simp only [List.getElem?_toArray, List.getElem?_cons_zero, List.getElem?_cons_succ] at cR0 cR1
     refine wpAnyH_ready (rs := [17]) (by kernel_rfl) (by simp) ?_
     refine AllReadyH.cons (o := op4_4_17) rfl (fun K hK => ?_) AllReadyH.nil
     delta op4_4_17
     go_simp
     refine hK.out _ _ ?_ (fun hHeld => ?_)
     · (try dsimp only); (exact HSV.out _ ((HB3.out.setCell (p := ⟨b7, 0, none⟩) (by exact hb7) _).setCell (p := ⟨b7, 1, none⟩) (by exact hb7) _))
     clear hK K
     try simp only [op4_4_17, ksz]
     obtain ⟨X0, hV⟩ : ∃ V, (W3.setCell ⟨b7, 0, none⟩ (.int .i64 (a1))).setCell ⟨b7, 1, none⟩ (.int .i64 (a2)) = V := ⟨_, rfl⟩; have Gb7 : Hid (Blk X0 b7 26 #[.int .i64 (a1), .int .i64 (a2)]) := (by rw [← hV]; exact ((Nb7.out.set_ 0 (.int .i64 (a1))).set_ 1 (.int .i64 (a2)))); have GHB : Hid (Below Va54.heap.size Va54 X0) := (by rw [← hV]; exact ((HB3.out.setCell (p := ⟨b7, 0, none⟩) (by exact hb7) _).setCell (p := ⟨b7, 1, none⟩) (by exact hb7) _)); rw [hV]; rw [hV] at hHeld; clear hV cR0 zR0 cR1 zR1 Nb7; have HBX := GHB; clear GHB; have Nb7 := Gb7; clear Gb7
     refine wpAnyH_take (i := 18) (oi := op4_4_18) (v := ?_) rfl (by kernel_rfl) (by kernel_rfl) (by kernel_rfl) (fun _ _ _ h => h) (Or.inl ⟨by rfl, ?_⟩) (by assumption) ?_
     rotate_left
     · ((intro w hSw; delta op4_4_18; (try dsimp only at hSw); go_simp) <;> with_reducible rfl)
     try simp only [op4_4_18, ksz]
     refine wpAnyH_done (by kernel_rfl) ?_ _
     refine NoPanic.normal ?_
     go_wp2_with fail
     go_meet
     exact ⟨rfl, b7, rfl, Nb7.out, (by exact hb7), HBX.out⟩
    exact AllReadyH.nil
   refine AllReadyH.cons (o := op4_4_16) rfl (fun K hK => ?_) ?_
   ·
    delta op4_4_16
    go_simp
    obtain ⟨W1, hV⟩ : ∃ V, W0.alloc (.cells #[.int .i64 (0), .int .i64 (0)] 26) = V := ⟨_, rfl⟩; have hbz : Below W0.heap.size W0 W1 := (by rw [← hV]; exact (Below.refl _ _).alloc (Nat.le_refl _) _); have HB1 := Lib.hid (HB0.out.trans (hbz.mono HB0.out.size)); have Nb7' : Hid (Blk W1 W0.heap.size 26 #[.int .i64 (0), .int .i64 (0)]) := (by rw [← hV]; exact Blk.new' _ _ _ rfl); obtain ⟨b7, hz⟩ : ∃ b, W0.heap.size = b := ⟨_, rfl⟩; rw [hz] at Nb7'; have hb7 : Va54.heap.size ≤ b7 := (by rw [← hz]; exact HB0.out.size); have Nb7 := Nb7'; clear Nb7'; rw [hV, hz]; clear hV hbz hz
    refine hK.out _ _ ?_ (fun hHeld => ?_)
    · (try dsimp only); (exact HSV.out _ HB1.out)
    clear hK K
    try simp only [op4_4_16, ksz]
    refine wpAnyH_ready (rs := [5]) (by kernel_rfl) (by simp) ?_
    refine AllReadyH.cons (o := op4_4_5) rfl (fun K hK => ?_) AllReadyH.nil
    delta op4_4_5
    go_simp
    (refine (model_any WW HH SS A ss.length c sa sb d1 d2 l1 l2 cell dir _).mono ?_; rintro e W2 ⟨rfl, hb⟩; have hbz : Below W1.heap.size W1 W2 := hb; clear hb; have HB2 := Lib.hid (HB1.out.trans (hbz.mono HB1.out.size)); have Mb7 := Lib.hid (Nb7.out.below hbz Nb7.out.lt); clear Nb7; have Nb7 := Mb7; clear Mb7; clear hbz)
    refine hK.out _ _ ?_ (fun hHeld => ?_)
    · (try dsimp only); (exact HSV.out _ HB2.out)
    clear hK K
    try simp only [op4_4_5, ksz]
    refine wpAnyH_ready (rs := [12]) (by kernel_rfl) (by simp) ?_
    refine AllReadyH.cons (o := op4_4_12) rfl (fun K hK => ?_) AllReadyH.nil
    delta op4_4_12
    go_simp
    (refine (rSetup_any WW HH SS ss A c sa sb d1 d2 l1 l2 cell dir s1 s2 _ (HS0.out.later (HB.out.trans (HB2.out.mono HB.out.size)) (Nat.le_refl _))).mono ?_; rintro e W3 ⟨rfl, hb⟩; have hbz : Below W2.heap.size W2 W3 := hb; clear hb; have HB3 := Lib.hid (HB2.out.trans (hbz.mono HB2.out.size)); have Mb7 := Lib.hid (Nb7.out.below hbz Nb7.out.lt); clear Nb7; have Nb7 := Mb7; clear Mb7; clear hbz; rw [HE.out, HA.out]; simp only [spV])
    refine hK.out _ _ ?_ (fun hHeld => ?_)
    · (try dsimp only); (exact HSV.out _ HB3.out)
    clear hK K
    try simp only [op4_4_12, ksz]
    refine wpAnyH_take (i := 13) (oi := op4_4_13) (v := ?_) rfl (by kernel_rfl) (by kernel_rfl) (by kernel_rfl) (fun _ _ _ h => h) (Or.inl ⟨by rfl, ?_⟩) (by assumption) ?_
    rotate_left
    · ((intro w hSw; delta op4_4_13; (try dsimp only at hSw); go_simp) <;> with_reducible rfl)
    try simp only [op4_4_13, ksz]
    refine wpAnyH_take (i := 14) (oi := op4_4_14) (v := ?_) rfl (by kernel_rfl) (by kernel_rfl) (by kernel_rfl) (fun _ _ _ h => h) (Or.inl ⟨by rfl, ?_⟩) (by assumption) ?_
    rotate_left
    · ((intro w hSw; delta op4_4_14; (try dsimp only at hSw); go_simp) <;> with_reducible rfl)
    try simp only [op4_4_14, ksz]
    refine wpAnyH_take (i := 15) (oi := op4_4_15) (v := ?_) rfl (by kernel_rfl) (by kernel_rfl) (by kernel_rfl) (fun _ _ _ h => h) (Or.inl ⟨by rfl, ?_⟩) (by assumption) ?_
    rotate_left
    · ((intro w hSw; delta op4_4_15; (try dsimp only at hSw); go_simp) <;> with_reducible rfl)
    try simp only [op4_4_15, ksz]
    have cR0 := Nb7.out.cell 0; have zR0 := Nb7.out.frozen 0; have cR1 := Nb7.out.cell 1; have zR1 := Nb7.out.frozen 1; simp only [List.getElem?_toArray, List.getElem?_cons_zero, List.getElem?_cons_succ] at cR0 cR1
    refine wpAnyH_ready (rs := [17]) (by kernel_rfl) (by simp) ?_
    refine AllReadyH.cons (o := op4_4_17) rfl (fun K hK => ?_) AllReadyH.nil
    delta op4_4_17
    go_simp
    refine hK.out _ _ ?_ (fun hHeld => ?_)
    · (try dsimp only); (exact HSV.out _ ((HB3.out.setCell (p := ⟨b7, 0, none⟩) (by exact hb7) _).setCell (p := ⟨b7, 1, none⟩) (by exact hb7) _))
    clear hK K
    try simp only [op4_4_17, ksz]
    obtain ⟨X0, hV⟩ : ∃ V, (W3.setCell ⟨b7, 0, none⟩ (.int .i64 (a1))).setCell ⟨b7, 1, none⟩ (.int .i64 (a2)) = V := ⟨_, rfl⟩; have Gb7 : Hid (Blk X0 b7 26 #[.int .i64 (a1), .int .i64 (a2)]) := (by rw [← hV]; exact ((Nb7.out.set_ 0 (.int .i64 (a1))).set_ 1 (.int .i64 (a2)))); have GHB : Hid (Below Va54.heap.size Va54 X0) := (by rw [← hV]; exact ((HB3.out.setCell (p := ⟨b7, 0, none⟩) (by exact hb7) _).setCell (p := ⟨b7, 1, none⟩) (by exact hb7) _)); rw [hV]; rw [hV] at hHeld; clear hV cR0 zR0 cR1 zR1 Nb7; have HBX := GHB; clear GHB; have Nb7 := Gb7; clear Gb7
    refine wpAnyH_take (i := 18) (oi := op4_4_18) (v := ?_) rfl (by kernel_rfl) (by kernel_rfl) (by kernel_rfl) (fun _ _ _ h => h) (Or.inl ⟨by rfl, ?_⟩) (by assumption) ?_
    rotate_left
    · ((intro w hSw; delta op4_4_18; (try dsimp only at hSw); go_simp) <;> with_reducible rfl)
    try simp only [op4_4_18, ksz]
    refine wpAnyH_done (by kernel_rfl) ?_ _
    refine NoPanic.normal ?_
    go_wp2_with fail
    go_meet
    exact ⟨rfl, b7, rfl, Nb7.out, (by exact hb7), HBX.out⟩
   exact AllReadyH.nil
  case rest =>
   obtain ⟨rfl, b7, rfl, Jb7, eb7, hb⟩ := hcut
   obtain ⟨Va55, rfl⟩ : ∃ V, V = wc := ⟨_, rfl⟩
   have HZ := Lib.hid hb
   have Kb7 := Lib.hid Jb7
   clear Jb7
   have nb2b7 : ¬ b2 = b7 := by have := Hb2.out.lt; omega
   have nb7b2 : ¬ b7 = b2 := fun e => nb2b7 e.symm
   have nb3b7 : ¬ b3 = b7 := by have := Hb3.out.lt; omega
   have nb7b3 : ¬ b7 = b3 := fun e => nb3b7 e.symm
   have nb5b7 : ¬ b5 = b7 := by have := Hb5.out.lt; omega
   have nb7b5 : ¬ b7 = b5 := fun e => nb5b7 e.symm
   have gb7 : w.heap.size ≤ b7 := Nat.le_trans HB.out.size eb7
   clear eb7
   clear hb HSV k0
   replace Hb2 := kbl Hb2 HZ
   replace Hb3 := kbl Hb3 HZ
   replace Hb5 := kbl Hb5 HZ
   replace HB := ktr' HB HZ
   clear HZ
   have Hb7 := Kb7
   clear Kb7
   have cb20 := kcl0 Hb2
   have cb21 := kcl1 Hb2
   have cb22 := kcl2 Hb2
   have cb23 := kcl3 Hb2
   have cb24 := kcl4 Hb2
   have cb25 := kcl5 Hb2
   have cb26 := kcl6 Hb2
   have cb27 := kcl7 Hb2
   have cb28 := kcl8 Hb2
   have cb29 : Va55.cell? ⟨b2, 9, none⟩ = some (.int .i64 (l2)) := Hb2.out.cell 9
   have cb210 : Va55.cell? ⟨b2, 10, none⟩ = some (.int .i64 (cell)) := Hb2.out.cell 10
   have cb211 : Va55.cell? ⟨b2, 11, none⟩ = some (.int .i64 (dir)) := Hb2.out.cell 11
   have cb30 := kcl0 Hb3
   have cb31 := kcl1 Hb3
   have cb32 := kcl2 Hb3
   have cb33 := kcl3 Hb3
   have cb34 := kcl4 Hb3
   go_wp2_with fail
   refine (Steady_any WW HH SS ss A c sa sb d1 d2 l1 l2 cell s1 s2 n p1 p2 _ (HDR0.out.later HB.out) (HS0.out.later HB.out (Nat.le_refl _))).mono ?_
   rintro e Va56 ⟨rfl, hb⟩
   have HZ := Lib.hid hb
   clear hb
   rw [HG.out, HC.out]
   simp only [spV]
   clear cb20 cb21 cb22 cb23 cb24 cb25 cb26 cb27 cb28 cb29 cb210 cb211 cb30 cb31 cb32 cb33 cb34
   replace Hb2 := kbl Hb2 HZ
   replace Hb3 := kbl Hb3 HZ
   replace Hb5 := kbl Hb5 HZ
   replace Hb7 := kbl Hb7 HZ
   replace HB := ktr' HB HZ
   clear HZ
   go_upto_region 6 with (fail)
   obtain ⟨Va57, hV⟩ : ∃ X, Va56.alloc (.cells #[.int .i64 (c1), .int .i64 (c2)] 26) = X := ⟨_, rfl⟩
   have hnew : Blk Va57 Va56.heap.size 26 #[.int .i64 (c1), .int .i64 (c2)] := by rw [← hV]; exact (Blk.new' _ _ _ rfl)
   have hz : Below Va56.heap.size Va56 Va57 := by rw [← hV]; exact ((Below.refl _ _).alloc (Nat.le_refl _) _)
   have hgn := HB.out.size
   have lb2 := Hb2.out.lt
   have lb3 := Hb3.out.lt
   have lb5 := Hb5.out.lt
   have lb7 := Hb7.out.lt
   rw [hV]
   obtain ⟨b9, hbx⟩ : ∃ b, Va56.heap.size = b := ⟨_, rfl⟩
   rw [hbx] at hnew hgn lb2 lb3 lb5 lb7 ⊢
   have gb9 : w.heap.size ≤ b9 := hgn
   have HZ := Lib.hid hz
   have nb2b9 : ¬ b2 = b9 := by omega
   have nb9b2 : ¬ b9 = b2 := by omega
   have nb3b9 : ¬ b3 = b9 := by omega
   have nb9b3 : ¬ b9 = b3 := by omega
   have nb5b9 : ¬ b5 = b9 := by omega
   have nb9b5 : ¬ b9 = b5 := by omega
   have nb7b9 : ¬ b7 = b9 := by omega
   have nb9b7 : ¬ b9 = b7 := by omega
   clear hV hz hgn hbx lb2 lb3 lb5 lb7
   replace Hb2 := kbl Hb2 HZ
   replace Hb3 := kbl Hb3 HZ
   replace Hb5 := kbl Hb5 HZ
   replace Hb7 := kbl Hb7 HZ
   replace HB := ktr' HB HZ
   clear HZ
   have Hb9 := Lib.hid hnew
   clear hnew
   go_upto_region 6 with (fail)
   have HSV : Hid (∀ U, Below Va57.heap.size Va57 U → U.cell? ⟨b2, 0, none⟩ = some (.int .i64 (WW)) ∧ U.cell? ⟨b2, 1, none⟩ = some (.int .i64 (HH)) ∧ U.cell? ⟨b2, 2, none⟩ = some (.int .i64 (SS)) ∧ U.cell? ⟨b2, 3, none⟩ = some (.slice A ss.length c) ∧ U.cell? ⟨b2, 4, none⟩ = some (.int .i64 (sa)) ∧ U.cell? ⟨b2, 5, none⟩ = some (.int .i64 (sb)) ∧ U.cell? ⟨b2, 6, none⟩ = some (.int .i64 (d1)) ∧ U.cell? ⟨b2, 7, none⟩ = some (.int .i64 (d2)) ∧ U.cell? ⟨b2, 8, none⟩ = some (.int .i64 (l1)) ∧ U.cell? ⟨b2, 9, none⟩ = some (.int .i64 (l2)) ∧ U.cell? ⟨b2, 10, none⟩ = some (.int .i64 (cell)) ∧ U.cell? ⟨b2, 11, none⟩ = some (.int .i64 (dir)) ∧ U.cell? ⟨b3, 0, none⟩ = some (.int .i64 (s1)) ∧ U.cell? ⟨b3, 1, none⟩ = some (.int .i64 (s2)) ∧ U.cell? ⟨b3, 2, none⟩ = some (.int .i64 (n)) ∧ U.cell? ⟨b3, 3, none⟩ = some (.int .i64 (p1)) ∧ U.cell? ⟨b3, 4, none⟩ = some (.int .i64 (p2))) := fun U hU => by
    have kb2 := Hb2.out.below hU Hb2.out.lt
    have kb3 := Hb3.out.below hU Hb3.out.lt
    exact ⟨kb2.cell 0, kb2.cell 1, kb2.cell 2, kb2.cell 3, kb2.cell 4, kb2.cell 5, kb2.cell 6, kb2.cell 7, kb2.cell 8, kb2.cell 9, kb2.cell 10, kb2.cell 11, kb3.cell 0, kb3.cell 1, kb3.cell 2, kb3.cell 3, kb3.cell 4⟩
   have k0 := HSV.out _ (Below.drew (Below.refl Va57.heap.size Va57))
   go_cut [11, 12] from 62 to 75 (fun pq0 pe0 wx => pe0 = .int .i64 (F) ∧ OneBx Va57 26 #[.int .i64 (c1), .int .i64 (c2)] pq0 wx)
   case first =>
    refine wp_region_noPanic ?_
    refine wp_region_held_drew (S := (fun w' => w'.cell? ⟨b2, 0, none⟩ = some (.int .i64 (WW)) ∧ w'.cell? ⟨b2, 1, none⟩ = some (.int .i64 (HH)) ∧ w'.cell? ⟨b2, 2, none⟩ = some (.int .i64 (SS)) ∧ w'.cell? ⟨b2, 3, none⟩ = some (.slice A ss.length c) ∧ w'.cell? ⟨b2, 4, none⟩ = some (.int .i64 (sa)) ∧ w'.cell? ⟨b2, 5, none⟩ = some (.int .i64 (sb)) ∧ w'.cell? ⟨b2, 6, none⟩ = some (.int .i64 (d1)) ∧ w'.cell? ⟨b2, 7, none⟩ = some (.int .i64 (d2)) ∧ w'.cell? ⟨b2, 8, none⟩ = some (.int .i64 (l1)) ∧ w'.cell? ⟨b2, 9, none⟩ = some (.int .i64 (l2)) ∧ w'.cell? ⟨b2, 10, none⟩ = some (.int .i64 (cell)) ∧ w'.cell? ⟨b2, 11, none⟩ = some (.int .i64 (dir)) ∧ w'.cell? ⟨b3, 0, none⟩ = some (.int .i64 (s1)) ∧ w'.cell? ⟨b3, 1, none⟩ = some (.int .i64 (s2)) ∧ w'.cell? ⟨b3, 2, none⟩ = some (.int .i64 (n)) ∧ w'.cell? ⟨b3, 3, none⟩ = some (.int .i64 (p1)) ∧ w'.cell? ⟨b3, 4, none⟩ = some (.int .i64 (p2)))) (by kernel_rfl) ?_ (fun hHeld => ?_)
    · (try dsimp only); (exact k0)
    refine wpAnyH_take (i := 0) (oi := op4_6_0) (v := ?_) rfl (by kernel_rfl) (by kernel_rfl) (by kernel_rfl) (fun _ _ _ h => h) (Or.inl ⟨by rfl, ?_⟩) (by assumption) ?_
    rotate_left
    · ((intro w hSw; delta op4_6_0; (try dsimp only at hSw); go_simp) <;> with_reducible rfl)
    try simp only [op4_6_0, ksz]
    refine wpAnyH_take (i := 2) (oi := op4_6_2) (v := ?_) rfl (by kernel_rfl) (by kernel_rfl) (by kernel_rfl) (fun _ _ _ h => h) (Or.inl ⟨by rfl, ?_⟩) (by assumption) ?_
    rotate_left
    · ((intro w hSw; delta op4_6_2; (try dsimp only at hSw); go_simp) <;> with_reducible rfl)
    try simp only [op4_6_2, ksz]
    refine wpAnyH_take (i := 4) (oi := op4_6_4) (v := ?_) rfl (by kernel_rfl) (by kernel_rfl) (by kernel_rfl) (fun _ _ _ h => h) (Or.inl ⟨by rfl, ?_⟩) (by assumption) ?_
    rotate_left
    · ((intro w hSw; delta op4_6_4; (try dsimp only at hSw); go_simp) <;> with_reducible rfl)
    try simp only [op4_6_4, ksz]
    refine wpAnyH_take (i := 6) (oi := op4_6_6) (v := ?_) rfl (by kernel_rfl) (by kernel_rfl) (by kernel_rfl) (fun _ _ _ h => h) (Or.inl ⟨by rfl, ?_⟩) (by assumption) ?_
    rotate_left
    · ((intro w hSw; delta op4_6_6; (try dsimp only at hSw); go_simp) <;> with_reducible rfl)
    try simp only [op4_6_6, ksz]
    refine wpAnyH_take (i := 8) (oi := op4_6_8) (v := ?_) rfl (by kernel_rfl) (by kernel_rfl) (by kernel_rfl) (fun _ _ _ h => h) (Or.inl ⟨by rfl, ?_⟩) (by assumption) ?_
    rotate_left
    · ((intro w hSw; delta op4_6_8; (try dsimp only at hSw); go_simp) <;> with_reducible rfl)
    try simp only [op4_6_8, ksz]
    refine wpAnyH_take (i := 1) (oi := op4_6_1) (v := ?_) rfl (by kernel_rfl) (by kernel_rfl) (by kernel_rfl) (fun _ _ _ h => h) (Or.inl ⟨by rfl, ?_⟩) (by assumption) ?_
    rotate_left
    · ((intro w hSw; delta op4_6_1; (try dsimp only at hSw); go_simp) <;> with_reducible rfl)
    try simp only [op4_6_1, ksz]
    refine wpAnyH_take (i := 3) (oi := op4_6_3) (v := ?_) rfl (by kernel_rfl) (by kernel_rfl) (by kernel_rfl) (fun _ _ _ h => h) (Or.inl ⟨by rfl, ?_⟩) (by assumption) ?_
    rotate_left
    · ((intro w hSw; delta op4_6_3; (try dsimp only at hSw); go_simp) <;> with_reducible rfl)
    try simp only [op4_6_3, ksz]
    refine wpAnyH_take (i := 7) (oi := op4_6_7) (v := ?_) rfl (by kernel_rfl) (by kernel_rfl) (by kernel_rfl) (fun _ _ _ h => h) (Or.inl ⟨by rfl, ?_⟩) (by assumption) ?_
    rotate_left
    · ((intro w hSw; delta op4_6_7; (try dsimp only at hSw); go_simp) <;> with_reducible rfl)
    try simp only [op4_6_7, ksz]
    obtain ⟨W0, hW0⟩ : ∃ V, Va57.drew = V := ⟨_, rfl⟩; rw [hW0] at hHeld ⊢; have HB0 : Hid (Below Va57.heap.size Va57 W0) := (by rw [← hW0]; exact Below.drew (Below.refl _ _)); clear hW0
    refine wpAnyH_ready (rs := [5, 13]) (by kernel_rfl) (by simp) ?_
    refine AllReadyH.cons (o := op4_6_5) rfl (fun K hK => ?_) ?_
    ·
     delta op4_6_5
     go_simp
     (refine (model_any WW HH SS A ss.length c sa sb d1 d2 l1 l2 cell dir _).mono ?_; rintro e W1 ⟨rfl, hb⟩; have hbz : Below W0.heap.size W0 W1 := hb; clear hb; have HB1 := Lib.hid (HB0.out.trans (hbz.mono HB0.out.size)); clear hbz)
     refine hK.out _ _ ?_ (fun hHeld => ?_)
     · (try dsimp only); (exact HSV.out _ HB1.out)
     clear hK K
     try simp only [op4_6_5, ksz]
     refine wpAnyH_ready (rs := [9, 13]) (by kernel_rfl) (by simp) ?_
     refine AllReadyH.cons (o := op4_6_9) rfl (fun K hK => ?_) ?_
     ·
      delta op4_6_9
      go_simp
      (refine (rSteady_any WW HH SS ss A c sa sb d1 d2 l1 l2 cell s1 s2 n p1 p2 _ (HS0.out.later (HB.out.trans (HB1.out.mono HB.out.size)) (Nat.le_refl _))).mono ?_; rintro e W2 ⟨rfl, hb⟩; have hbz : Below W1.heap.size W1 W2 := hb; clear hb; have HB2 := Lib.hid (HB1.out.trans (hbz.mono HB1.out.size)); clear hbz; rw [HG.out, HC.out]; simp only [spV])
      refine hK.out _ _ ?_ (fun hHeld => ?_)
      · (try dsimp only); (exact HSV.out _ HB2.out)
      clear hK K
      try simp only [op4_6_9, ksz]
      refine wpAnyH_take (i := 10) (oi := op4_6_10) (v := ?_) rfl (by kernel_rfl) (by kernel_rfl) (by kernel_rfl) (fun _ _ _ h => h) (Or.inl ⟨by rfl, ?_⟩) (by assumption) ?_
      rotate_left
      · ((intro w hSw; delta op4_6_10; (try dsimp only at hSw); go_simp) <;> with_reducible rfl)
      try simp only [op4_6_10, ksz]
      refine wpAnyH_take (i := 11) (oi := op4_6_11) (v := ?_) rfl (by kernel_rfl) (by kernel_rfl) (by kernel_rfl) (fun _ _ _ h => h) (Or.inl ⟨by rfl, ?_⟩) (by assumption) ?_
      rotate_left
      · ((intro w hSw; delta op4_6_11; (try dsimp only at hSw); go_simp) <;> with_reducible rfl)
      try simp only [op4_6_11, ksz]
      refine wpAnyH_take (i := 12) (oi := op4_6_12) (v := ?_) rfl (by kernel_rfl) (by kernel_rfl) (by kernel_rfl) (fun _ _ _ h => h) (Or.inl ⟨by rfl, ?_⟩) (by assumption) ?_
      rotate_left
      · ((intro w hSw; delta op4_6_12; (try dsimp only at hSw); go_simp) <;> with_reducible rfl)
      try simp only [op4_6_12, ksz]
      refine wpAnyH_ready (rs := [13]) (by kernel_rfl) (by simp) ?_
      refine AllReadyH.cons (o := op4_6_13) rfl (fun K hK => ?_) AllReadyH.nil
      delta op4_6_13
      go_simp
      obtain ⟨W3, hV⟩ : ∃ V, W2.alloc (.cells #[.int .i64 (0), .int .i64 (0)] 26) = V := ⟨_, rfl⟩; have hbz : Below W2.heap.size W2 W3 := (by rw [← hV]; exact (Below.refl _ _).alloc (Nat.le_refl _) _); have HB3 := Lib.hid (HB2.out.trans (hbz.mono HB2.out.size)); have Nb11' : Hid (Blk W3 W2.heap.size 26 #[.int .i64 (0), .int .i64 (0)]) := (by rw [← hV]; exact Blk.new' _ _ _ rfl); obtain ⟨b11, hz⟩ : ∃ b, W2.heap.size = b := ⟨_, rfl⟩; rw [hz] at Nb11'; have hb11 : Va57.heap.size ≤ b11 := (by rw [← hz]; exact HB2.out.size); have Nb11 := Nb11'; clear Nb11'; rw [hV, hz]; clear hV hbz hz
      refine hK.out _ _ ?_ (fun hHeld => ?_)
      · (try dsimp only); (exact HSV.out _ HB3.out)
      clear hK K
      try simp only [op4_6_13, ksz]
      have cR0 := Nb11.out.cell 0; have zR0 := Nb11.out.frozen 0; have cR1 := Nb11.out.cell 1; have zR1 := Nb11.out.frozen 1; simp only [List.getElem?_toArray, List.getElem?_cons_zero, List.getElem?_cons_succ] at cR0 cR1
      refine wpAnyH_ready (rs := [14]) (by kernel_rfl) (by simp) ?_
      refine AllReadyH.cons (o := op4_6_14) rfl (fun K hK => ?_) AllReadyH.nil
      delta op4_6_14
      go_simp
      refine hK.out _ _ ?_ (fun hHeld => ?_)
      · (try dsimp only); (exact HSV.out _ ((HB3.out.setCell (p := ⟨b11, 0, none⟩) (by exact hb11) _).setCell (p := ⟨b11, 1, none⟩) (by exact hb11) _))
      clear hK K
      try simp only [op4_6_14, ksz]
      obtain ⟨X0, hV⟩ : ∃ V, (W3.setCell ⟨b11, 0, none⟩ (.int .i64 (c1))).setCell ⟨b11, 1, none⟩ (.int .i64 (c2)) = V := ⟨_, rfl⟩; have Gb11 : Hid (Blk X0 b11 26 #[.int .i64 (c1), .int .i64 (c2)]) := (by rw [← hV]; exact ((Nb11.out.set_ 0 (.int .i64 (c1))).set_ 1 (.int .i64 (c2)))); have GHB : Hid (Below Va57.heap.size Va57 X0) := (by rw [← hV]; exact ((HB3.out.setCell (p := ⟨b11, 0, none⟩) (by exact hb11) _).setCell (p := ⟨b11, 1, none⟩) (by exact hb11) _)); rw [hV]; rw [hV] at hHeld; clear hV cR0 zR0 cR1 zR1 Nb11; have HBX := GHB; clear GHB; have Nb11 := Gb11; clear Gb11
      refine wpAnyH_take (i := 15) (oi := op4_6_15) (v := ?_) rfl (by kernel_rfl) (by kernel_rfl) (by kernel_rfl) (fun _ _ _ h => h) (Or.inl ⟨by rfl, ?_⟩) (by assumption) ?_
      rotate_left
      · ((intro w hSw; delta op4_6_15; (try dsimp only at hSw); go_simp) <;> with_reducible rfl)
      try simp only [op4_6_15, ksz]
      refine wpAnyH_done (by kernel_rfl) ?_ _
      refine NoPanic.normal ?_
      go_wp2_with fail
      go_meet
      exact ⟨rfl, b11, rfl, Nb11.out, (by exact hb11), HBX.out⟩
     refine AllReadyH.cons (o := op4_6_13) rfl (fun K hK => ?_) ?_
     ·
      delta op4_6_13
      go_simp
      obtain ⟨W2, hV⟩ : ∃ V, W1.alloc (.cells #[.int .i64 (0), .int .i64 (0)] 26) = V := ⟨_, rfl⟩; have hbz : Below W1.heap.size W1 W2 := (by rw [← hV]; exact (Below.refl _ _).alloc (Nat.le_refl _) _); have HB2 := Lib.hid (HB1.out.trans (hbz.mono HB1.out.size)); have Nb11' : Hid (Blk W2 W1.heap.size 26 #[.int .i64 (0), .int .i64 (0)]) := (by rw [← hV]; exact Blk.new' _ _ _ rfl); obtain ⟨b11, hz⟩ : ∃ b, W1.heap.size = b := ⟨_, rfl⟩; rw [hz] at Nb11'; have hb11 : Va57.heap.size ≤ b11 := (by rw [← hz]; exact HB1.out.size); have Nb11 := Nb11'; clear Nb11'; rw [hV, hz]; clear hV hbz hz
      refine hK.out _ _ ?_ (fun hHeld => ?_)
      · (try dsimp only); (exact HSV.out _ HB2.out)
      clear hK K
      try simp only [op4_6_13, ksz]
      refine wpAnyH_ready (rs := [9]) (by kernel_rfl) (by simp) ?_
      refine AllReadyH.cons (o := op4_6_9) rfl (fun K hK => ?_) AllReadyH.nil
      delta op4_6_9
      go_simp
      (refine (rSteady_any WW HH SS ss A c sa sb d1 d2 l1 l2 cell s1 s2 n p1 p2 _ (HS0.out.later (HB.out.trans (HB2.out.mono HB.out.size)) (Nat.le_refl _))).mono ?_; rintro e W3 ⟨rfl, hb⟩; have hbz : Below W2.heap.size W2 W3 := hb; clear hb; have HB3 := Lib.hid (HB2.out.trans (hbz.mono HB2.out.size)); have Mb11 := Lib.hid (Nb11.out.below hbz Nb11.out.lt); clear Nb11; have Nb11 := Mb11; clear Mb11; clear hbz; rw [HG.out, HC.out]; simp only [spV])
      refine hK.out _ _ ?_ (fun hHeld => ?_)
      · (try dsimp only); (exact HSV.out _ HB3.out)
      clear hK K
      try simp only [op4_6_9, ksz]
      refine wpAnyH_take (i := 10) (oi := op4_6_10) (v := ?_) rfl (by kernel_rfl) (by kernel_rfl) (by kernel_rfl) (fun _ _ _ h => h) (Or.inl ⟨by rfl, ?_⟩) (by assumption) ?_
      rotate_left
      · ((intro w hSw; delta op4_6_10; (try dsimp only at hSw); go_simp) <;> with_reducible rfl)
      try simp only [op4_6_10, ksz]
      refine wpAnyH_take (i := 11) (oi := op4_6_11) (v := ?_) rfl (by kernel_rfl) (by kernel_rfl) (by kernel_rfl) (fun _ _ _ h => h) (Or.inl ⟨by rfl, ?_⟩) (by assumption) ?_
      rotate_left
      · ((intro w hSw; delta op4_6_11; (try dsimp only at hSw); go_simp) <;> with_reducible rfl)
      try simp only [op4_6_11, ksz]
      refine wpAnyH_take (i := 12) (oi := op4_6_12) (v := ?_) rfl (by kernel_rfl) (by kernel_rfl) (by kernel_rfl) (fun _ _ _ h => h) (Or.inl ⟨by rfl, ?_⟩) (by assumption) ?_
      rotate_left
      · ((intro w hSw; delta op4_6_12; (try dsimp only at hSw); go_simp) <;> with_reducible rfl)
      try simp only [op4_6_12, ksz]
      have cR0 := Nb11.out.cell 0; have zR0 := Nb11.out.frozen 0; have cR1 := Nb11.out.cell 1; have zR1 := Nb11.out.frozen 1; simp only [List.getElem?_toArray, List.getElem?_cons_zero, List.getElem?_cons_succ] at cR0 cR1
      refine wpAnyH_ready (rs := [14]) (by kernel_rfl) (by simp) ?_
      refine AllReadyH.cons (o := op4_6_14) rfl (fun K hK => ?_) AllReadyH.nil
      delta op4_6_14
      go_simp
      refine hK.out _ _ ?_ (fun hHeld => ?_)
      · (try dsimp only); (exact HSV.out _ ((HB3.out.setCell (p := ⟨b11, 0, none⟩) (by exact hb11) _).setCell (p := ⟨b11, 1, none⟩) (by exact hb11) _))
      clear hK K
      try simp only [op4_6_14, ksz]
      obtain ⟨X0, hV⟩ : ∃ V, (W3.setCell ⟨b11, 0, none⟩ (.int .i64 (c1))).setCell ⟨b11, 1, none⟩ (.int .i64 (c2)) = V := ⟨_, rfl⟩; have Gb11 : Hid (Blk X0 b11 26 #[.int .i64 (c1), .int .i64 (c2)]) := (by rw [← hV]; exact ((Nb11.out.set_ 0 (.int .i64 (c1))).set_ 1 (.int .i64 (c2)))); have GHB : Hid (Below Va57.heap.size Va57 X0) := (by rw [← hV]; exact ((HB3.out.setCell (p := ⟨b11, 0, none⟩) (by exact hb11) _).setCell (p := ⟨b11, 1, none⟩) (by exact hb11) _)); rw [hV]; rw [hV] at hHeld; clear hV cR0 zR0 cR1 zR1 Nb11; have HBX := GHB; clear GHB; have Nb11 := Gb11; clear Gb11
      refine wpAnyH_take (i := 15) (oi := op4_6_15) (v := ?_) rfl (by kernel_rfl) (by kernel_rfl) (by kernel_rfl) (fun _ _ _ h => h) (Or.inl ⟨by rfl, ?_⟩) (by assumption) ?_
      rotate_left
      · ((intro w hSw; delta op4_6_15; (try dsimp only at hSw); go_simp) <;> with_reducible rfl)
      try simp only [op4_6_15, ksz]
      refine wpAnyH_done (by kernel_rfl) ?_ _
      refine NoPanic.normal ?_
      go_wp2_with fail
      go_meet
      exact ⟨rfl, b11, rfl, Nb11.out, (by exact hb11), HBX.out⟩
     exact AllReadyH.nil
    refine AllReadyH.cons (o := op4_6_13) rfl (fun K hK => ?_) ?_
    ·
     delta op4_6_13
     go_simp
     obtain ⟨W1, hV⟩ : ∃ V, W0.alloc (.cells #[.int .i64 (0), .int .i64 (0)] 26) = V := ⟨_, rfl⟩; have hbz : Below W0.heap.size W0 W1 := (by rw [← hV]; exact (Below.refl _ _).alloc (Nat.le_refl _) _); have HB1 := Lib.hid (HB0.out.trans (hbz.mono HB0.out.size)); have Nb11' : Hid (Blk W1 W0.heap.size 26 #[.int .i64 (0), .int .i64 (0)]) := (by rw [← hV]; exact Blk.new' _ _ _ rfl); obtain ⟨b11, hz⟩ : ∃ b, W0.heap.size = b := ⟨_, rfl⟩; rw [hz] at Nb11'; have hb11 : Va57.heap.size ≤ b11 := (by rw [← hz]; exact HB0.out.size); have Nb11 := Nb11'; clear Nb11'; rw [hV, hz]; clear hV hbz hz
     refine hK.out _ _ ?_ (fun hHeld => ?_)
     · (try dsimp only); (exact HSV.out _ HB1.out)
     clear hK K
     try simp only [op4_6_13, ksz]
     refine wpAnyH_ready (rs := [5]) (by kernel_rfl) (by simp) ?_
     refine AllReadyH.cons (o := op4_6_5) rfl (fun K hK => ?_) AllReadyH.nil
     delta op4_6_5
     go_simp
     (refine (model_any WW HH SS A ss.length c sa sb d1 d2 l1 l2 cell dir _).mono ?_; rintro e W2 ⟨rfl, hb⟩; have hbz : Below W1.heap.size W1 W2 := hb; clear hb; have HB2 := Lib.hid (HB1.out.trans (hbz.mono HB1.out.size)); have Mb11 := Lib.hid (Nb11.out.below hbz Nb11.out.lt); clear Nb11; have Nb11 := Mb11; clear Mb11; clear hbz)
     refine hK.out _ _ ?_ (fun hHeld => ?_)
     · (try dsimp only); (exact HSV.out _ HB2.out)
     clear hK K
     try simp only [op4_6_5, ksz]
     refine wpAnyH_ready (rs := [9]) (by kernel_rfl) (by simp) ?_
     refine AllReadyH.cons (o := op4_6_9) rfl (fun K hK => ?_) AllReadyH.nil
     delta op4_6_9
     go_simp
     (refine (rSteady_any WW HH SS ss A c sa sb d1 d2 l1 l2 cell s1 s2 n p1 p2 _ (HS0.out.later (HB.out.trans (HB2.out.mono HB.out.size)) (Nat.le_refl _))).mono ?_; rintro e W3 ⟨rfl, hb⟩; have hbz : Below W2.heap.size W2 W3 := hb; clear hb; have HB3 := Lib.hid (HB2.out.trans (hbz.mono HB2.out.size)); have Mb11 := Lib.hid (Nb11.out.below hbz Nb11.out.lt); clear Nb11; have Nb11 := Mb11; clear Mb11; clear hbz; rw [HG.out, HC.out]; simp only [spV])
     refine hK.out _ _ ?_ (fun hHeld => ?_)
     · (try dsimp only); (exact HSV.out _ HB3.out)
     clear hK K
     try simp only [op4_6_9, ksz]
     refine wpAnyH_take (i := 10) (oi := op4_6_10) (v := ?_) rfl (by kernel_rfl) (by kernel_rfl) (by kernel_rfl) (fun _ _ _ h => h) (Or.inl ⟨by rfl, ?_⟩) (by assumption) ?_
     rotate_left
     · ((intro w hSw; delta op4_6_10; (try dsimp only at hSw); go_simp) <;> with_reducible rfl)
     try simp only [op4_6_10, ksz]
     refine wpAnyH_take (i := 11) (oi := op4_6_11) (v := ?_) rfl (by kernel_rfl) (by kernel_rfl) (by kernel_rfl) (fun _ _ _ h => h) (Or.inl ⟨by rfl, ?_⟩) (by assumption) ?_
     rotate_left
     · ((intro w hSw; delta op4_6_11; (try dsimp only at hSw); go_simp) <;> with_reducible rfl)
     try simp only [op4_6_11, ksz]
     refine wpAnyH_take (i := 12) (oi := op4_6_12) (v := ?_) rfl (by kernel_rfl) (by kernel_rfl) (by kernel_rfl) (fun _ _ _ h => h) (Or.inl ⟨by rfl, ?_⟩) (by assumption) ?_
     rotate_left
     · ((intro w hSw; delta op4_6_12; (try dsimp only at hSw); go_simp) <;> with_reducible rfl)
     try simp only [op4_6_12, ksz]
     have cR0 := Nb11.out.cell 0; have zR0 := Nb11.out.frozen 0; have cR1 := Nb11.out.cell 1; have zR1 := Nb11.out.frozen 1; simp only [List.getElem?_toArray, List.getElem?_cons_zero, List.getElem?_cons_succ] at cR0 cR1
     refine wpAnyH_ready (rs := [14]) (by kernel_rfl) (by simp) ?_
     refine AllReadyH.cons (o := op4_6_14) rfl (fun K hK => ?_) AllReadyH.nil
     delta op4_6_14
     go_simp
     refine hK.out _ _ ?_ (fun hHeld => ?_)
     · (try dsimp only); (exact HSV.out _ ((HB3.out.setCell (p := ⟨b11, 0, none⟩) (by exact hb11) _).setCell (p := ⟨b11, 1, none⟩) (by exact hb11) _))
     clear hK K
     try simp only [op4_6_14, ksz]
     obtain ⟨X0, hV⟩ : ∃ V, (W3.setCell ⟨b11, 0, none⟩ (.int .i64 (c1))).setCell ⟨b11, 1, none⟩ (.int .i64 (c2)) = V := ⟨_, rfl⟩; have Gb11 : Hid (Blk X0 b11 26 #[.int .i64 (c1), .int .i64 (c2)]) := (by rw [← hV]; exact ((Nb11.out.set_ 0 (.int .i64 (c1))).set_ 1 (.int .i64 (c2)))); have GHB : Hid (Below Va57.heap.size Va57 X0) := (by rw [← hV]; exact ((HB3.out.setCell (p := ⟨b11, 0, none⟩) (by exact hb11) _).setCell (p := ⟨b11, 1, none⟩) (by exact hb11) _)); rw [hV]; rw [hV] at hHeld; clear hV cR0 zR0 cR1 zR1 Nb11; have HBX := GHB; clear GHB; have Nb11 := Gb11; clear Gb11
     refine wpAnyH_take (i := 15) (oi := op4_6_15) (v := ?_) rfl (by kernel_rfl) (by kernel_rfl) (by kernel_rfl) (fun _ _ _ h => h) (Or.inl ⟨by rfl, ?_⟩) (by assumption) ?_
     rotate_left
     · ((intro w hSw; delta op4_6_15; (try dsimp only at hSw); go_simp) <;> with_reducible rfl)
     try simp only [op4_6_15, ksz]
     refine wpAnyH_done (by kernel_rfl) ?_ _
     refine NoPanic.normal ?_
     go_wp2_with fail
     go_meet
     exact ⟨rfl, b11, rfl, Nb11.out, (by exact hb11), HBX.out⟩
    exact AllReadyH.nil
   case rest =>
    obtain ⟨rfl, b11, rfl, Jb11, eb11, hb⟩ := hcut
    obtain ⟨Va58, rfl⟩ : ∃ V, V = wc := ⟨_, rfl⟩
    have HZ := Lib.hid hb
    have Kb11 := Lib.hid Jb11
    clear Jb11
    have nb2b11 : ¬ b2 = b11 := by have := Hb2.out.lt; omega
    have nb11b2 : ¬ b11 = b2 := fun e => nb2b11 e.symm
    have nb3b11 : ¬ b3 = b11 := by have := Hb3.out.lt; omega
    have nb11b3 : ¬ b11 = b3 := fun e => nb3b11 e.symm
    have nb5b11 : ¬ b5 = b11 := by have := Hb5.out.lt; omega
    have nb11b5 : ¬ b11 = b5 := fun e => nb5b11 e.symm
    have nb7b11 : ¬ b7 = b11 := by have := Hb7.out.lt; omega
    have nb11b7 : ¬ b11 = b7 := fun e => nb7b11 e.symm
    have nb9b11 : ¬ b9 = b11 := by have := Hb9.out.lt; omega
    have nb11b9 : ¬ b11 = b9 := fun e => nb9b11 e.symm
    have gb11 : w.heap.size ≤ b11 := Nat.le_trans HB.out.size eb11
    clear eb11
    clear hb HSV k0
    replace Hb2 := kbl Hb2 HZ
    replace Hb3 := kbl Hb3 HZ
    replace Hb5 := kbl Hb5 HZ
    replace Hb7 := kbl Hb7 HZ
    replace Hb9 := kbl Hb9 HZ
    replace HB := ktr' HB HZ
    clear HZ
    have Hb11 := Kb11
    clear Kb11
    have cb50 := kcl0 Hb5
    have cb51 := kcl1 Hb5
    have cb70 := kcl0 Hb7
    have cb71 := kcl1 Hb7
    have cb90 := kcl0 Hb9
    have cb91 := kcl1 Hb9
    have cb110 := kcl0 Hb11
    have cb111 := kcl1 Hb11
    go_wp2_with fail
    refine (works_any _ (HDR0.out.later HB.out)).mono ?_
    rintro e Va59 ⟨rfl, hb⟩
    have HBZ := Lib.hid (HB.out.trans (hb.mono HB.out.size))
    clear hb
    go_wp2
    go_ret
    exact ⟨rfl, HBZ.out⟩
end Go.Proofs.YtdhcdgfpkjdihaaDoor.Sg
