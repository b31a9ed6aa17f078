/-
  Layer 3, the laws: SurgeRuns.
-/
import Derived.Test.YtdhcdgfpkjdihaaDoorVL3g
import Derived.Test.YtdhcdgfpkjdihaaDoorVR6b
import Derived.Test.YtdhcdgfpkjdihaaDoorVR3e
set_option linter.unusedSimpArgs false
set_option linter.unusedVariables false
namespace Go.Proofs.YtdhcdgfpkjdihaaDoor.Sg
open Go.RowKit Go.Shelf
def Zf2 : Oper := ⟨some 49, .fieldAddr 30 (.tmp 3) 0, 0, "law.go:117", #[], none⟩
def Zf3 : Oper := ⟨some 50, .load 24 (.tmp 49), 24, "law.go:117", #[⟨0, .data⟩], none⟩
def Zf4 : Oper := ⟨some 51, .fieldAddr 30 (.tmp 3) 1, 0, "law.go:117", #[], none⟩
def Zf5 : Oper := ⟨some 52, .load 26 (.tmp 51), 26, "law.go:117", #[⟨2, .data⟩], none⟩
def Zf6 : Oper := ⟨some 53, .load 30 (.tmp 3), 30, "law.go:117", #[], none⟩
def Zf7 : Oper := ⟨some 54, .call { callee := Callee.value (.func 21), args := #[.tmp 53], argTypes := #[30] }, 40, "law.go:117", #[⟨4, .data⟩], none⟩
def Zf8 : Oper := ⟨some 55, .fieldAddr 30 (.tmp 3) 3, 0, "law.go:117", #[], none⟩
def Zf9 : Oper := ⟨some 56, .load 3 (.tmp 55), 3, "law.go:117", #[⟨6, .data⟩], none⟩
def Zfa : Oper := ⟨some 57, .load 26 (.tmp 4), 26, "law.go:117", #[], none⟩
def Zfb : Oper := ⟨some 58, .move (.tmp 2), 52, "law.go:117", #[], none⟩
def Zfc : Oper := ⟨some 59, .call { callee := Callee.value (.func 31), args := #[.tmp 58], argTypes := #[52] }, 56, "law.go:117", #[⟨9, .data⟩, ⟨5, .chain⟩], none⟩
def Zfd : Oper := ⟨some 60, .call { callee := Callee.value (.func 30), args := #[.tmp 50, .tmp 52, .tmp 54, .tmp 56, .tmp 57, .tmp 59], argTypes := #[24, 26, 40, 3, 26, 56] }, 53, "law.go:117", #[⟨1, .data⟩, ⟨3, .data⟩, ⟨5, .data⟩, ⟨7, .data⟩, ⟨8, .data⟩, ⟨10, .data⟩, ⟨10, .chain⟩], none⟩
def Zfe : Oper := ⟨some 48, .move (.tmp 60), 53, "law.go:117", #[⟨11, .data⟩], none⟩
def Zff : Oper := ⟨some 61, .extract (.tmp 48) 0, 22, "law.go:117", #[⟨12, .data⟩], none⟩
def Zfg : Oper := ⟨some 62, .extract (.tmp 48) 1, 35, "law.go:117", #[⟨12, .data⟩, ⟨15, .gcOnly .lateStores⟩], none⟩
def Zfh : Oper := ⟨some 9, .assign (.tmp 61), 22, "law.go:117", #[⟨13, .data⟩, ⟨11, .chain⟩, ⟨0, .phase⟩, ⟨1, .phase⟩, ⟨2, .phase⟩, ⟨3, .phase⟩, ⟨4, .phase⟩, ⟨5, .phase⟩, ⟨6, .phase⟩, ⟨7, .phase⟩, ⟨8, .phase⟩, ⟨9, .phase⟩, ⟨10, .phase⟩, ⟨11, .phase⟩, ⟨12, .phase⟩, ⟨13, .phase⟩, ⟨14, .textOnly .lateStores⟩], none⟩
def Zfi : Oper := ⟨some 10, .assign (.tmp 62), 35, "law.go:117", #[⟨14, .data⟩, ⟨15, .chain⟩, ⟨0, .phase⟩, ⟨1, .phase⟩, ⟨2, .phase⟩, ⟨3, .phase⟩, ⟨4, .phase⟩, ⟨5, .phase⟩, ⟨6, .phase⟩, ⟨7, .phase⟩, ⟨8, .phase⟩, ⟨9, .phase⟩, ⟨10, .phase⟩, ⟨11, .phase⟩, ⟨12, .phase⟩, ⟨13, .phase⟩, ⟨14, .phase⟩, ⟨15, .phase⟩], none⟩
set_option maxRecDepth 100000 in
set_option maxHeartbeats 4000000 in
theorem SurgeRuns_any (WW HH SS : Int) (ss : List (Int × Int)) (A : Option Addr) (c : Nat) (sa sb d1 d2 l1 l2 cell dir : Int) (z1 z2 : Int) (A2 : Option Addr) (c2 : Nat) (l : List Wi) (w : World) (HD : DirsAt w) (hs : SpansAt w w.heap.size (.slice A ss.length c) ss) (hl : WindsAt w w.heap.size (.slice A2 l.length c2) l) (hz1 : -9223372036854775808 ≤ z1 ∧ z1 ≤ 9223372036854775807) (hz2 : -9223372036854775808 ≤ z2 ∧ z2 ≤ 9223372036854775807) :
 Calls Tryd.prog 5 #[.agg #[.int .i64 (WW), .int .i64 (HH), .int .i64 (SS), .slice A ss.length c, .int .i64 (sa), .int .i64 (sb), .int .i64 (d1), .int .i64 (d2), .int .i64 (l1), .int .i64 (l2), .int .i64 (cell), .int .i64 (dir)], .agg #[.int .i64 z1, .int .i64 z2], .slice A2 l.length c2] w fun e w' => e = .returned (.bool true) ∧ Below w.heap.size w w' := by
 by_cases hf : decide (ss.length ≤ 600) = true
 rotate_left
 ·
  have hf : decide (ss.length ≤ 600) = false := by simpa using hf
  have HF := Lib.hid hf
  clear hf
  have HDR0 := Lib.hid HD
  have HS0 := Lib.hid hs
  have HL0 := Lib.hid hl
  clear HD hs hl
  go_enter Tryd.func5, Tryd.ntmps5
  go_upto_region 1 with (fail)
  obtain ⟨Va1, hV⟩ : ∃ V, (w.alloc (.cells #[.int .i64 (WW), .int .i64 (HH), .int .i64 (SS), .slice A ss.length c, .int .i64 (sa), .int .i64 (sb), .int .i64 (d1), .int .i64 (d2), .int .i64 (l1), .int .i64 (l2), .int .i64 (cell), .int .i64 (dir)] 30)).alloc (.cells #[.int .i64 (z1), .int .i64 (z2)] 26) = V := ⟨_, rfl⟩
  have Kb3 : Hid (Blk Va1 (w.heap.size) 30 #[.int .i64 (WW), .int .i64 (HH), .int .i64 (SS), .slice A ss.length c, .int .i64 (sa), .int .i64 (sb), .int .i64 (d1), .int .i64 (d2), .int .i64 (l1), .int .i64 (l2), .int .i64 (cell), .int .i64 (dir)]) := by rw [← hV]; exact (Blk.new' _ _ _ (by simp)).alloc _
  have Kb4 : Hid (Blk Va1 (w.heap.size + 1) 26 #[.int .i64 (z1), .int .i64 (z2)]) := by rw [← hV]; exact Blk.new' _ _ _ (by simp)
  have GHB : Hid (Below w.heap.size w Va1) := by rw [← hV]; exact (by repeat (first | exact Below.refl _ _ | assumption | refine Below.drew ?_ | refine Below.drewN' ?_ _ | (refine Below.alloc ?_ (by simp <;> omega) _) | (refine Below.setCell ?_ (by simp <;> omega) _)))
  have HZ : Hid (Below w.heap.size w Va1) := GHB
  rw [hV]
  clear hV HZ
  have HB := GHB
  clear GHB
  obtain ⟨b4, hqb4⟩ : ∃ b, w.heap.size + 1 = b := ⟨_, rfl⟩
  obtain ⟨b3, hqb3⟩ : ∃ b, w.heap.size = b := ⟨_, rfl⟩
  have gb3 : w.heap.size ≤ b3 := by omega
  have gb4 : w.heap.size ≤ b4 := by omega
  have nb4b3 : ¬ b4 = b3 := by omega
  have nb3b4 : ¬ b3 = b4 := by omega
  rw [hqb4] at Kb4 ⊢
  clear hqb4
  have HN : Hid (w.heap.size = b3) := hqb3
  rw [hqb3] at Kb3 ⊢
  clear hqb3
  have Hb3 := Kb3
  clear Kb3
  have Hb4 := Kb4
  clear Kb4
  have cb30 := kcl0 Hb3
  have cb31 := kcl1 Hb3
  have cb32 := kcl2 Hb3
  have cb33 := kcl3 Hb3
  have cb34 := kcl4 Hb3
  have cb35 := kcl5 Hb3
  have cb36 := kcl6 Hb3
  have cb37 := kcl7 Hb3
  have cb38 := kcl8 Hb3
  have cb39 : Va1.cell? ⟨b3, 9, none⟩ = some (.int .i64 (l2)) := Hb3.out.cell 9
  have cb310 : Va1.cell? ⟨b3, 10, none⟩ = some (.int .i64 (cell)) := Hb3.out.cell 10
  have cb311 : Va1.cell? ⟨b3, 11, none⟩ = some (.int .i64 (dir)) := Hb3.out.cell 11
  go_wp2_with fail
  refine (few_any WW HH SS A ss.length c sa sb d1 d2 l1 l2 cell dir _).mono ?_
  rintro e Va2 ⟨rfl, hb⟩
  have HZ := Lib.hid hb
  clear hb
  rw [HF.out]
  clear cb30 cb31 cb32 cb33 cb34 cb35 cb36 cb37 cb38 cb39 cb310 cb311
  replace Hb3 := kbl Hb3 HZ
  replace Hb4 := kbl Hb4 HZ
  replace HB := ktr' HB HZ
  clear HZ
  go_wp2_with fail
  refine (works_any _ (HDR0.out.later HB.out)).mono ?_
  rintro e Va3 ⟨rfl, hb⟩
  have HBZ := Lib.hid (HB.out.trans (hb.mono HB.out.size))
  clear hb
  go_wp2
  go_ret
  exact ⟨rfl, HBZ.out⟩
 have HF := Lib.hid hf
 clear hf
 by_cases hn1 : (60 : Int) < (l.length : Int) ∧ (l.length : Int) ≤ 500
 ·
  obtain ⟨hn2, hn3⟩ := hn1
  have HDR0 := Lib.hid HD
  have HS0 := Lib.hid hs
  have HL0 := Lib.hid hl
  clear HD hs hl
  go_enter Tryd.func5, Tryd.ntmps5
  go_upto_region 1 with (fail)
  obtain ⟨Va31, hV⟩ : ∃ V, (w.alloc (.cells #[.int .i64 (WW), .int .i64 (HH), .int .i64 (SS), .slice A ss.length c, .int .i64 (sa), .int .i64 (sb), .int .i64 (d1), .int .i64 (d2), .int .i64 (l1), .int .i64 (l2), .int .i64 (cell), .int .i64 (dir)] 30)).alloc (.cells #[.int .i64 (z1), .int .i64 (z2)] 26) = V := ⟨_, rfl⟩
  have Kb3 : Hid (Blk Va31 (w.heap.size) 30 #[.int .i64 (WW), .int .i64 (HH), .int .i64 (SS), .slice A ss.length c, .int .i64 (sa), .int .i64 (sb), .int .i64 (d1), .int .i64 (d2), .int .i64 (l1), .int .i64 (l2), .int .i64 (cell), .int .i64 (dir)]) := by rw [← hV]; exact (Blk.new' _ _ _ (by simp)).alloc _
  have Kb4 : Hid (Blk Va31 (w.heap.size + 1) 26 #[.int .i64 (z1), .int .i64 (z2)]) := by rw [← hV]; exact Blk.new' _ _ _ (by simp)
  have GHB : Hid (Below w.heap.size w Va31) := by rw [← hV]; exact (by repeat (first | exact Below.refl _ _ | assumption | refine Below.drew ?_ | refine Below.drewN' ?_ _ | (refine Below.alloc ?_ (by simp <;> omega) _) | (refine Below.setCell ?_ (by simp <;> omega) _)))
  have HZ : Hid (Below w.heap.size w Va31) := GHB
  rw [hV]
  clear hV HZ
  have HB := GHB
  clear GHB
  obtain ⟨b4, hqb4⟩ : ∃ b, w.heap.size + 1 = b := ⟨_, rfl⟩
  obtain ⟨b3, hqb3⟩ : ∃ b, w.heap.size = b := ⟨_, rfl⟩
  have gb3 : w.heap.size ≤ b3 := by omega
  have gb4 : w.heap.size ≤ b4 := by omega
  have nb4b3 : ¬ b4 = b3 := by omega
  have nb3b4 : ¬ b3 = b4 := by omega
  rw [hqb4] at Kb4 ⊢
  clear hqb4
  have HN : Hid (w.heap.size = b3) := hqb3
  rw [hqb3] at Kb3 ⊢
  clear hqb3
  have Hb3 := Kb3
  clear Kb3
  have Hb4 := Kb4
  clear Kb4
  have cb30 := kcl0 Hb3
  have cb31 := kcl1 Hb3
  have cb32 := kcl2 Hb3
  have cb33 := kcl3 Hb3
  have cb34 := kcl4 Hb3
  have cb35 := kcl5 Hb3
  have cb36 := kcl6 Hb3
  have cb37 := kcl7 Hb3
  have cb38 := kcl8 Hb3
  have cb39 : Va31.cell? ⟨b3, 9, none⟩ = some (.int .i64 (l2)) := Hb3.out.cell 9
  have cb310 : Va31.cell? ⟨b3, 10, none⟩ = some (.int .i64 (cell)) := Hb3.out.cell 10
  have cb311 : Va31.cell? ⟨b3, 11, none⟩ = some (.int .i64 (dir)) := Hb3.out.cell 11
  go_wp2_with fail
  refine (few_any WW HH SS A ss.length c sa sb d1 d2 l1 l2 cell dir _).mono ?_
  rintro e Va32 ⟨rfl, hb⟩
  have HZ := Lib.hid hb
  clear hb
  rw [HF.out]
  clear cb30 cb31 cb32 cb33 cb34 cb35 cb36 cb37 cb38 cb39 cb310 cb311
  replace Hb3 := kbl Hb3 HZ
  replace Hb4 := kbl Hb4 HZ
  replace HB := ktr' HB HZ
  clear HZ
  go_wp2_with fail
  refine (works_any _ (HDR0.out.later HB.out)).mono ?_
  rintro e Va33 ⟨rfl, hb⟩
  have HBZ := Lib.hid (HB.out.trans (hb.mono HB.out.size))
  clear hb
  go_wp2
  go_ret
  exact ⟨rfl, HBZ.out⟩
 by_cases hn4 : (510 : Int) < (l.length : Int)
 ·
  have hn2 : (60 : Int) < (l.length : Int) := by omega
  have hn3 : ¬ (l.length : Int) ≤ 500 := by omega
  clear hn1
  have HDR0 := Lib.hid HD
  have HS0 := Lib.hid hs
  have HL0 := Lib.hid hl
  clear HD hs hl
  go_enter Tryd.func5, Tryd.ntmps5
  go_upto_region 1 with (fail)
  obtain ⟨Va61, hV⟩ : ∃ V, (w.alloc (.cells #[.int .i64 (WW), .int .i64 (HH), .int .i64 (SS), .slice A ss.length c, .int .i64 (sa), .int .i64 (sb), .int .i64 (d1), .int .i64 (d2), .int .i64 (l1), .int .i64 (l2), .int .i64 (cell), .int .i64 (dir)] 30)).alloc (.cells #[.int .i64 (z1), .int .i64 (z2)] 26) = V := ⟨_, rfl⟩
  have Kb3 : Hid (Blk Va61 (w.heap.size) 30 #[.int .i64 (WW), .int .i64 (HH), .int .i64 (SS), .slice A ss.length c, .int .i64 (sa), .int .i64 (sb), .int .i64 (d1), .int .i64 (d2), .int .i64 (l1), .int .i64 (l2), .int .i64 (cell), .int .i64 (dir)]) := by rw [← hV]; exact (Blk.new' _ _ _ (by simp)).alloc _
  have Kb4 : Hid (Blk Va61 (w.heap.size + 1) 26 #[.int .i64 (z1), .int .i64 (z2)]) := by rw [← hV]; exact Blk.new' _ _ _ (by simp)
  have GHB : Hid (Below w.heap.size w Va61) := by rw [← hV]; exact (by repeat (first | exact Below.refl _ _ | assumption | refine Below.drew ?_ | refine Below.drewN' ?_ _ | (refine Below.alloc ?_ (by simp <;> omega) _) | (refine Below.setCell ?_ (by simp <;> omega) _)))
  have HZ : Hid (Below w.heap.size w Va61) := GHB
  rw [hV]
  clear hV HZ
  have HB := GHB
  clear GHB
  obtain ⟨b4, hqb4⟩ : ∃ b, w.heap.size + 1 = b := ⟨_, rfl⟩
  obtain ⟨b3, hqb3⟩ : ∃ b, w.heap.size = b := ⟨_, rfl⟩
  have gb3 : w.heap.size ≤ b3 := by omega
  have gb4 : w.heap.size ≤ b4 := by omega
  have nb4b3 : ¬ b4 = b3 := by omega
  have nb3b4 : ¬ b3 = b4 := by omega
  rw [hqb4] at Kb4 ⊢
  clear hqb4
  have HN : Hid (w.heap.size = b3) := hqb3
  rw [hqb3] at Kb3 ⊢
  clear hqb3
  have Hb3 := Kb3
  clear Kb3
  have Hb4 := Kb4
  clear Kb4
  have cb30 := kcl0 Hb3
  have cb31 := kcl1 Hb3
  have cb32 := kcl2 Hb3
  have cb33 := kcl3 Hb3
  have cb34 := kcl4 Hb3
  have cb35 := kcl5 Hb3
  have cb36 := kcl6 Hb3
  have cb37 := kcl7 Hb3
  have cb38 := kcl8 Hb3
  have cb39 : Va61.cell? ⟨b3, 9, none⟩ = some (.int .i64 (l2)) := Hb3.out.cell 9
  have cb310 : Va61.cell? ⟨b3, 10, none⟩ = some (.int .i64 (cell)) := Hb3.out.cell 10
  have cb311 : Va61.cell? ⟨b3, 11, none⟩ = some (.int .i64 (dir)) := Hb3.out.cell 11
  go_wp2_with fail
  refine (few_any WW HH SS A ss.length c sa sb d1 d2 l1 l2 cell dir _).mono ?_
  rintro e Va62 ⟨rfl, hb⟩
  have HZ := Lib.hid hb
  clear hb
  rw [HF.out]
  clear cb30 cb31 cb32 cb33 cb34 cb35 cb36 cb37 cb38 cb39 cb310 cb311
  replace Hb3 := kbl Hb3 HZ
  replace Hb4 := kbl Hb4 HZ
  replace HB := ktr' HB HZ
  clear HZ
  go_wp2_with fail
  refine (works_any _ (HDR0.out.later HB.out)).mono ?_
  rintro e Va63 ⟨rfl, hb⟩
  have HBZ := Lib.hid (HB.out.trans (hb.mono HB.out.size))
  clear hb
  go_wp2
  go_ret
  exact ⟨rfl, HBZ.out⟩
 obtain ⟨E, hE⟩ : ∃ z, runAE ⟨WW, HH, SS, ss⟩ (sa, sb) ⟨(d1, d2), (l1, l2)⟩ cell (z1, z2) l = z := ⟨_, rfl⟩
 obtain ⟨LV, hLV⟩ : ∃ z, runV ⟨WW, HH, SS, ss⟩ (sa, sb) ⟨(d1, d2), (l1, l2)⟩ cell (z1, z2) l = z := ⟨_, rfl⟩
 obtain ⟨F, hF⟩ : ∃ z, cmE (z1, z2) = z := ⟨_, rfl⟩
 obtain ⟨⟨m1, m2⟩, hM⟩ : ∃ z, cmV (z1, z2) = z := ⟨_, rfl⟩
 have HE := Lib.hid hE
 have HLV := Lib.hid hLV
 have HCE := Lib.hid hF
 have HCM := Lib.hid hM
 have HZ1 := Lib.hid hz1
 have HZ2 := Lib.hid hz2
 have HMX := Lib.hid (show l.length ≤ 100000 by omega)
 have hp1 := span_stood
 have hp2 := span_guard
 clear hE hLV hF hM hz1 hz2
 have HDR0 := Lib.hid HD
 have HS0 := Lib.hid hs
 have HL0 := Lib.hid hl
 clear HD hs hl
 go_enter Tryd.func5, Tryd.ntmps5
 go_upto_region 1 with (fail)
 obtain ⟨Va101, hV⟩ : ∃ V, (w.alloc (.cells #[.int .i64 (WW), .int .i64 (HH), .int .i64 (SS), .slice A ss.length c, .int .i64 (sa), .int .i64 (sb), .int .i64 (d1), .int .i64 (d2), .int .i64 (l1), .int .i64 (l2), .int .i64 (cell), .int .i64 (dir)] 30)).alloc (.cells #[.int .i64 (z1), .int .i64 (z2)] 26) = V := ⟨_, rfl⟩
 have Kb3 : Hid (Blk Va101 (w.heap.size) 30 #[.int .i64 (WW), .int .i64 (HH), .int .i64 (SS), .slice A ss.length c, .int .i64 (sa), .int .i64 (sb), .int .i64 (d1), .int .i64 (d2), .int .i64 (l1), .int .i64 (l2), .int .i64 (cell), .int .i64 (dir)]) := by rw [← hV]; exact (Blk.new' _ _ _ (by simp)).alloc _
 have Kb4 : Hid (Blk Va101 (w.heap.size + 1) 26 #[.int .i64 (z1), .int .i64 (z2)]) := by rw [← hV]; exact Blk.new' _ _ _ (by simp)
 have GHB : Hid (Below w.heap.size w Va101) := by rw [← hV]; exact (by repeat (first | exact Below.refl _ _ | assumption | refine Below.drew ?_ | refine Below.drewN' ?_ _ | (refine Below.alloc ?_ (by simp <;> omega) _) | (refine Below.setCell ?_ (by simp <;> omega) _)))
 have HZ : Hid (Below w.heap.size w Va101) := GHB
 rw [hV]
 clear hV HZ
 have HB := GHB
 clear GHB
 obtain ⟨b4, hqb4⟩ : ∃ b, w.heap.size + 1 = b := ⟨_, rfl⟩
 obtain ⟨b3, hqb3⟩ : ∃ b, w.heap.size = b := ⟨_, rfl⟩
 have gb3 : w.heap.size ≤ b3 := by omega
 have gb4 : w.heap.size ≤ b4 := by omega
 have nb4b3 : ¬ b4 = b3 := by omega
 have nb3b4 : ¬ b3 = b4 := by omega
 rw [hqb4] at Kb4 ⊢
 clear hqb4
 have HN : Hid (w.heap.size = b3) := hqb3
 rw [hqb3] at Kb3 ⊢
 clear hqb3
 have Hb3 := Kb3
 clear Kb3
 have Hb4 := Kb4
 clear Kb4
 go_cut [32] from 15 to 32 (fun p wx => p = .bool false ∧ Hid (Blk wx b3 30 #[.int .i64 (WW), .int .i64 (HH), .int .i64 (SS), .slice A ss.length c, .int .i64 (sa), .int .i64 (sb), .int .i64 (d1), .int .i64 (d2), .int .i64 (l1), .int .i64 (l2), .int .i64 (cell), .int .i64 (dir)]) ∧ Hid (Blk wx b4 26 #[.int .i64 (z1), .int .i64 (z2)]) ∧ Hid (Below w.heap.size w wx))
 case first =>
  by_cases hn2 : (60 : Int) < (l.length : Int)
  ·
   have hn3 : ¬ (l.length : Int) ≤ 500 := by omega
   clear hn1
   have cb30 := kcl0 Hb3
   have cb31 := kcl1 Hb3
   have cb32 := kcl2 Hb3
   have cb33 := kcl3 Hb3
   have cb34 := kcl4 Hb3
   have cb35 := kcl5 Hb3
   have cb36 := kcl6 Hb3
   have cb37 := kcl7 Hb3
   have cb38 := kcl8 Hb3
   have cb39 : Va101.cell? ⟨b3, 9, none⟩ = some (.int .i64 (l2)) := Hb3.out.cell 9
   have cb310 : Va101.cell? ⟨b3, 10, none⟩ = some (.int .i64 (cell)) := Hb3.out.cell 10
   have cb311 : Va101.cell? ⟨b3, 11, none⟩ = some (.int .i64 (dir)) := Hb3.out.cell 11
   go_wp2_with fail
   refine (few_any WW HH SS A ss.length c sa sb d1 d2 l1 l2 cell dir _).mono ?_
   rintro e Va131 ⟨rfl, hb⟩
   have HZ := Lib.hid hb
   clear hb
   rw [HF.out]
   clear cb30 cb31 cb32 cb33 cb34 cb35 cb36 cb37 cb38 cb39 cb310 cb311
   replace Hb3 := kbl Hb3 HZ
   replace Hb4 := kbl Hb4 HZ
   replace HB := ktr' HB HZ
   clear HZ
   go_wp2_with fail
   go_meet
   exact ⟨by first | rfl | (simp; omega), Hb3, Hb4, HB⟩
  ·
   clear hn1
   have cb30 := kcl0 Hb3
   have cb31 := kcl1 Hb3
   have cb32 := kcl2 Hb3
   have cb33 := kcl3 Hb3
   have cb34 := kcl4 Hb3
   have cb35 := kcl5 Hb3
   have cb36 := kcl6 Hb3
   have cb37 := kcl7 Hb3
   have cb38 := kcl8 Hb3
   have cb39 : Va101.cell? ⟨b3, 9, none⟩ = some (.int .i64 (l2)) := Hb3.out.cell 9
   have cb310 : Va101.cell? ⟨b3, 10, none⟩ = some (.int .i64 (cell)) := Hb3.out.cell 10
   have cb311 : Va101.cell? ⟨b3, 11, none⟩ = some (.int .i64 (dir)) := Hb3.out.cell 11
   go_wp2_with fail
   refine (few_any WW HH SS A ss.length c sa sb d1 d2 l1 l2 cell dir _).mono ?_
   rintro e Va161 ⟨rfl, hb⟩
   have HZ := Lib.hid hb
   clear hb
   rw [HF.out]
   clear cb30 cb31 cb32 cb33 cb34 cb35 cb36 cb37 cb38 cb39 cb310 cb311
   replace Hb3 := kbl Hb3 HZ
   replace Hb4 := kbl Hb4 HZ
   replace HB := ktr' HB HZ
   clear HZ
   go_wp2_with fail
   go_meet
   exact ⟨by first | rfl | (simp; omega), Hb3, Hb4, HB⟩
 case rest =>
  clear Hb3 Hb4 HB
  obtain ⟨rfl, Hb3, Hb4, HB⟩ := hcut
  obtain ⟨Vc, rfl⟩ : ∃ V, V = wc := ⟨_, rfl⟩
  clear hn1 hn4
  have cb30 := kcl0 Hb3
  have cb31 := kcl1 Hb3
  have cb32 := kcl2 Hb3
  have cb33 := kcl3 Hb3
  have cb34 := kcl4 Hb3
  have cb35 := kcl5 Hb3
  have cb36 := kcl6 Hb3
  have cb37 := kcl7 Hb3
  have cb38 := kcl8 Hb3
  have cb39 : Vc.cell? ⟨b3, 9, none⟩ = some (.int .i64 (l2)) := Hb3.out.cell 9
  have cb310 : Vc.cell? ⟨b3, 10, none⟩ = some (.int .i64 (cell)) := Hb3.out.cell 10
  have cb311 : Vc.cell? ⟨b3, 11, none⟩ = some (.int .i64 (dir)) := Hb3.out.cell 11
  have cb40 := kcl0 Hb4
  have cb41 := kcl1 Hb4
  go_upto_region 3 with (fail)
  clear cb30 cb31 cb32 cb33 cb34 cb35 cb36 cb37 cb38 cb39 cb310 cb311 cb40 cb41
  have cb30 := kcl0 Hb3
  have cb31 := kcl1 Hb3
  have cb32 := kcl2 Hb3
  have cb33 := kcl3 Hb3
  have cb34 := kcl4 Hb3
  have cb35 := kcl5 Hb3
  have cb36 := kcl6 Hb3
  have cb37 := kcl7 Hb3
  have cb38 := kcl8 Hb3
  have cb39 : Vc.cell? ⟨b3, 9, none⟩ = some (.int .i64 (l2)) := Hb3.out.cell 9
  have cb310 : Vc.cell? ⟨b3, 10, none⟩ = some (.int .i64 (cell)) := Hb3.out.cell 10
  have cb311 : Vc.cell? ⟨b3, 11, none⟩ = some (.int .i64 (dir)) := Hb3.out.cell 11
  have cb40 := kcl0 Hb4
  have cb41 := kcl1 Hb4
  go_wp2_with fail
  refine (Run_any WW HH SS ss A c sa sb d1 d2 l1 l2 cell z1 z2 _ l _ (HDR0.out.later HB.out) (HS0.out.later HB.out (Nat.le_refl _)) (HL0.out.later HB.out (Nat.le_refl _))).mono ?_
  rintro e Va102 ⟨v7, rfl, h7, hb⟩
  have HZ := Lib.hid hb
  clear hb
  rw [HE.out]
  rw [HLV.out] at h7
  have H7 := Lib.hid h7
  clear h7
  clear cb30 cb31 cb32 cb33 cb34 cb35 cb36 cb37 cb38 cb39 cb310 cb311 cb40 cb41
  replace Hb3 := kbl Hb3 HZ
  replace Hb4 := kbl Hb4 HZ
  replace HB := ktr' HB HZ
  clear HZ
  go_upto_region 4 with (fail)
  have HSV : Hid (∀ U, Below Va102.heap.size Va102 U → U.cell? ⟨b3, 0, none⟩ = some (.int .i64 (WW)) ∧ U.cell? ⟨b3, 1, none⟩ = some (.int .i64 (HH)) ∧ U.cell? ⟨b3, 2, none⟩ = some (.int .i64 (SS)) ∧ U.cell? ⟨b3, 3, none⟩ = some (.slice A ss.length c) ∧ U.cell? ⟨b3, 4, none⟩ = some (.int .i64 (sa)) ∧ U.cell? ⟨b3, 5, none⟩ = some (.int .i64 (sb)) ∧ U.cell? ⟨b3, 6, none⟩ = some (.int .i64 (d1)) ∧ U.cell? ⟨b3, 7, none⟩ = some (.int .i64 (d2)) ∧ U.cell? ⟨b3, 8, none⟩ = some (.int .i64 (l1)) ∧ U.cell? ⟨b3, 9, none⟩ = some (.int .i64 (l2)) ∧ U.cell? ⟨b3, 10, none⟩ = some (.int .i64 (cell)) ∧ U.cell? ⟨b3, 11, none⟩ = some (.int .i64 (dir)) ∧ U.cell? ⟨b4, 0, none⟩ = some (.int .i64 (z1)) ∧ U.cell? ⟨b4, 1, none⟩ = some (.int .i64 (z2))) := fun U hU => by
   have kb3 := Hb3.out.below hU Hb3.out.lt
   have kb4 := Hb4.out.below hU Hb4.out.lt
   exact ⟨kb3.cell 0, kb3.cell 1, kb3.cell 2, kb3.cell 3, kb3.cell 4, kb3.cell 5, kb3.cell 6, kb3.cell 7, kb3.cell 8, kb3.cell 9, kb3.cell 10, kb3.cell 11, kb4.cell 0, kb4.cell 1⟩
  have k0 := HSV.out _ (Below.drew (Below.refl Va102.heap.size Va102))
  refine wp_region_noPanic ?_
  refine wp_region_held_drew (S := (fun w' => w'.cell? ⟨b3, 0, none⟩ = some (.int .i64 (WW)) ∧ w'.cell? ⟨b3, 1, none⟩ = some (.int .i64 (HH)) ∧ w'.cell? ⟨b3, 2, none⟩ = some (.int .i64 (SS)) ∧ w'.cell? ⟨b3, 3, none⟩ = some (.slice A ss.length c) ∧ w'.cell? ⟨b3, 4, none⟩ = some (.int .i64 (sa)) ∧ w'.cell? ⟨b3, 5, none⟩ = some (.int .i64 (sb)) ∧ w'.cell? ⟨b3, 6, none⟩ = some (.int .i64 (d1)) ∧ w'.cell? ⟨b3, 7, none⟩ = some (.int .i64 (d2)) ∧ w'.cell? ⟨b3, 8, none⟩ = some (.int .i64 (l1)) ∧ w'.cell? ⟨b3, 9, none⟩ = some (.int .i64 (l2)) ∧ w'.cell? ⟨b3, 10, none⟩ = some (.int .i64 (cell)) ∧ w'.cell? ⟨b3, 11, none⟩ = some (.int .i64 (dir)) ∧ w'.cell? ⟨b4, 0, none⟩ = some (.int .i64 (z1)) ∧ w'.cell? ⟨b4, 1, none⟩ = some (.int .i64 (z2)))) (by kernel_rfl) ?_ (fun hHeld => ?_)
  · (try dsimp only); (exact k0)
  refine tH 0 Zf2 ?_ ?_ ?_
  rotate_left
  · ((intro w hSw; delta Zf2; (try dsimp only at hSw); go_simp) <;> with_reducible rfl)
  try simp only [Zf2, ksz]
  refine tH 2 Zf4 ?_ ?_ ?_
  rotate_left
  · ((intro w hSw; delta Zf4; (try dsimp only at hSw); go_simp) <;> with_reducible rfl)
  try simp only [Zf4, ksz]
  refine tH 4 Zf6 ?_ ?_ ?_
  rotate_left
  · ((intro w hSw; delta Zf6; (try dsimp only at hSw); go_simp) <;> with_reducible rfl)
  try simp only [Zf6, ksz]
  refine tH 6 Zf8 ?_ ?_ ?_
  rotate_left
  · ((intro w hSw; delta Zf8; (try dsimp only at hSw); go_simp) <;> with_reducible rfl)
  try simp only [Zf8, ksz]
  refine tH 8 Zfa ?_ ?_ ?_
  rotate_left
  · ((intro w hSw; delta Zfa; (try dsimp only at hSw); go_simp) <;> with_reducible rfl)
  try simp only [Zfa, ksz]
  refine tH 9 Zfb ?_ ?_ ?_
  rotate_left
  · ((intro w hSw; delta Zfb; (try dsimp only at hSw); go_simp) <;> with_reducible rfl)
  try simp only [Zfb, ksz]
  refine tH 1 Zf3 ?_ ?_ ?_
  rotate_left
  · ((intro w hSw; delta Zf3; (try dsimp only at hSw); go_simp) <;> with_reducible rfl)
  try simp only [Zf3, ksz]
  refine tH 3 Zf5 ?_ ?_ ?_
  rotate_left
  · ((intro w hSw; delta Zf5; (try dsimp only at hSw); go_simp) <;> with_reducible rfl)
  try simp only [Zf5, ksz]
  refine tH 7 Zf9 ?_ ?_ ?_
  rotate_left
  · ((intro w hSw; delta Zf9; (try dsimp only at hSw); go_simp) <;> with_reducible rfl)
  try simp only [Zf9, ksz]
  obtain ⟨W0, hW0⟩ : ∃ V, Va102.drew = V := ⟨_, rfl⟩; rw [hW0] at hHeld ⊢; have HB0 : Hid (Below Va102.heap.size Va102 W0) := (by rw [← hW0]; exact Below.drew (Below.refl _ _)); clear hW0
  refine wpAnyH_ready (rs := [5]) (by kernel_rfl) (by simp) ?_
  refine AllReadyH.cons (o := Zf7) rfl (fun K hK => ?_) AllReadyH.nil
  delta Zf7
  go_simp
  (refine (model_any WW HH SS A ss.length c sa sb d1 d2 l1 l2 cell dir _).mono ?_; rintro e W1 ⟨rfl, hb⟩; have HB1 := Lib.hid (HB0.out.trans (hb.mono HB0.out.size)); clear hb)
  refine hK.out _ _ ?_ (fun hHeld => ?_)
  · (try dsimp only); (exact HSV.out _ HB1.out)
  clear hK K
  try simp only [Zf7, ksz]
  refine wpAnyH_ready (rs := [10]) (by kernel_rfl) (by simp) ?_
  refine AllReadyH.cons (o := Zfc) rfl (fun K hK => ?_) AllReadyH.nil
  delta Zfc
  go_simp
  (refine (winds_any A2 c2 l _ (HL0.out.later (HB.out.trans (HB1.out.mono HB.out.size)) (Nat.le_refl _)) HMX.out).mono ?_; rintro e W2 ⟨vw, rfl, hw, hb⟩; obtain ⟨aw, cw, hvw, -, -⟩ := hw.open_; subst hvw; have HWD := Lib.hid hw; clear hw; have HB2 := Lib.hid (HB1.out.trans (hb.mono HB1.out.size)); clear hb)
  refine hK.out _ _ ?_ (fun hHeld => ?_)
  · (try dsimp only); (exact HSV.out _ HB2.out)
  clear hK K
  try simp only [Zfc, ksz]
  refine wpAnyH_ready (rs := [11]) (by kernel_rfl) (by simp) ?_
  refine AllReadyH.cons (o := Zfd) rfl (fun K hK => ?_) AllReadyH.nil
  delta Zfd
  go_simp
  (refine (rRun_any WW HH SS ss A c sa sb d1 d2 l1 l2 cell z1 z2 aw cw l _ (HS0.out.later (HB.out.trans (HB2.out.mono HB.out.size)) (Nat.le_refl _)) HWD.out).mono ?_; rintro e W3 ⟨v9, rfl, h9, hb⟩; rw [HLV.out] at h9; rw [HE.out]; have H9 := Lib.hid h9; clear h9 HWD; have HB3 := Lib.hid (HB2.out.trans (hb.mono HB2.out.size)); clear hb)
  refine hK.out _ _ ?_ (fun hHeld => ?_)
  · (try dsimp only); (exact HSV.out _ HB3.out)
  clear hK K
  try simp only [Zfd, ksz]
  refine tH 12 Zfe ?_ ?_ ?_
  rotate_left
  · ((intro w hSw; delta Zfe; (try dsimp only at hSw); go_simp) <;> with_reducible rfl)
  try simp only [Zfe, ksz]
  refine tH 13 Zff ?_ ?_ ?_
  rotate_left
  · ((intro w hSw; delta Zff; (try dsimp only at hSw); go_simp) <;> with_reducible rfl)
  try simp only [Zff, ksz]
  refine tH 14 Zfg ?_ ?_ ?_
  rotate_left
  · ((intro w hSw; delta Zfg; (try dsimp only at hSw); go_simp) <;> with_reducible rfl)
  try simp only [Zfg, ksz]
  refine tH 15 Zfh ?_ ?_ ?_
  rotate_left
  · ((intro w hSw; delta Zfh; (try dsimp only at hSw); go_simp) <;> with_reducible rfl)
  try simp only [Zfh, ksz]
  refine tH 16 Zfi ?_ ?_ ?_
  rotate_left
  · ((intro w hSw; delta Zfi; (try dsimp only at hSw); go_simp) <;> with_reducible rfl)
  try simp only [Zfi, ksz]
  refine wpAnyH_done (by kernel_rfl) ?_ _
  refine NoPanic.normal ?_
  clear HSV k0
  clear hHeld HB0 HB1 HB2
  obtain ⟨Va103, hVU⟩ : ∃ V, W3 = V := ⟨_, rfl⟩
  rw [hVU] at HB3 H9 ⊢
  have HZ := HB3
  clear HB3 hVU
  replace Hb3 := kbl Hb3 HZ
  replace Hb4 := kbl Hb4 HZ
  replace HB := ktr' HB HZ
  replace H7 := Lib.hid (H7.out.later HZ.out (Nat.le_refl _))
  clear HZ
  have cb40 := kcl0 Hb4
  have cb41 := kcl1 Hb4
  go_wp2_with fail
  refine (Centimetres_any z1 z2 _ HZ1.out HZ2.out).mono ?_
  rintro e Va104 ⟨rfl, hb⟩
  have HZ := Lib.hid hb
  clear hb
  rw [HCE.out, HCM.out]
  clear cb40 cb41
  replace Hb3 := kbl Hb3 HZ
  replace Hb4 := kbl Hb4 HZ
  replace HB := ktr' HB HZ
  replace H7 := Lib.hid (H7.out.later HZ.out (Nat.le_refl _))
  replace H9 := Lib.hid (H9.out.later HZ.out (Nat.le_refl _))
  clear HZ
  go_upto_region 6 with (fail)
  obtain ⟨Va105, hV⟩ : ∃ X, Va104.alloc (.cells #[.int .i64 (m1), .int .i64 (m2)] 26) = X := ⟨_, rfl⟩
  have hnew : Blk Va105 Va104.heap.size 26 #[.int .i64 (m1), .int .i64 (m2)] := by rw [← hV]; exact (Blk.new' _ _ _ rfl)
  have hz : Below Va104.heap.size Va104 Va105 := by rw [← hV]; exact ((Below.refl _ _).alloc (Nat.le_refl _) _)
  have hgn := HB.out.size
  have lb3 := Hb3.out.lt
  have lb4 := Hb4.out.lt
  rw [hV]
  obtain ⟨b11, hbx⟩ : ∃ b, Va104.heap.size = b := ⟨_, rfl⟩
  rw [hbx] at hnew hgn lb3 lb4 ⊢
  have gb11 : w.heap.size ≤ b11 := hgn
  have HZ := Lib.hid hz
  have nb3b11 : ¬ b3 = b11 := by omega
  have nb11b3 : ¬ b11 = b3 := by omega
  have nb4b11 : ¬ b4 = b11 := by omega
  have nb11b4 : ¬ b11 = b4 := by omega
  clear hV hz hgn hbx lb3 lb4
  replace Hb3 := kbl Hb3 HZ
  replace Hb4 := kbl Hb4 HZ
  replace HB := ktr' HB HZ
  replace H7 := Lib.hid (H7.out.later HZ.out (Nat.le_refl _))
  replace H9 := Lib.hid (H9.out.later HZ.out (Nat.le_refl _))
  clear HZ
  have Hb11 := Lib.hid hnew
  clear hnew
  have cb40 := kcl0 Hb4
  have cb41 := kcl1 Hb4
  go_wp2_with fail
  refine (rCentimetres_any z1 z2 _ HZ1.out HZ2.out).mono ?_
  rintro e Va106 ⟨rfl, hb⟩
  have HZ := Lib.hid hb
  clear hb
  rw [HCE.out, HCM.out]
  clear cb40 cb41
  replace Hb3 := kbl Hb3 HZ
  replace Hb4 := kbl Hb4 HZ
  replace Hb11 := kbl Hb11 HZ
  replace HB := ktr' HB HZ
  replace H7 := Lib.hid (H7.out.later HZ.out (Nat.le_refl _))
  replace H9 := Lib.hid (H9.out.later HZ.out (Nat.le_refl _))
  clear HZ
  go_upto_region 7 with (fail)
  obtain ⟨Va107, hV⟩ : ∃ X, Va106.alloc (.cells #[.int .i64 (m1), .int .i64 (m2)] 26) = X := ⟨_, rfl⟩
  have hnew : Blk Va107 Va106.heap.size 26 #[.int .i64 (m1), .int .i64 (m2)] := by rw [← hV]; exact (Blk.new' _ _ _ rfl)
  have hz : Below Va106.heap.size Va106 Va107 := by rw [← hV]; exact ((Below.refl _ _).alloc (Nat.le_refl _) _)
  have hgn := HB.out.size
  have lb3 := Hb3.out.lt
  have lb4 := Hb4.out.lt
  have lb11 := Hb11.out.lt
  rw [hV]
  obtain ⟨b13, hbx⟩ : ∃ b, Va106.heap.size = b := ⟨_, rfl⟩
  rw [hbx] at hnew hgn lb3 lb4 lb11 ⊢
  have gb13 : w.heap.size ≤ b13 := hgn
  have HZ := Lib.hid hz
  have nb3b13 : ¬ b3 = b13 := by omega
  have nb13b3 : ¬ b13 = b3 := by omega
  have nb4b13 : ¬ b4 = b13 := by omega
  have nb13b4 : ¬ b13 = b4 := by omega
  have nb11b13 : ¬ b11 = b13 := by omega
  have nb13b11 : ¬ b13 = b11 := by omega
  clear hV hz hgn hbx lb3 lb4 lb11
  replace Hb3 := kbl Hb3 HZ
  replace Hb4 := kbl Hb4 HZ
  replace Hb11 := kbl Hb11 HZ
  replace HB := ktr' HB HZ
  replace H7 := Lib.hid (H7.out.later HZ.out (Nat.le_refl _))
  replace H9 := Lib.hid (H9.out.later HZ.out (Nat.le_refl _))
  clear HZ
  have Hb13 := Lib.hid hnew
  clear hnew
  go_wp2_with fail
  refine (same_any v7 v9 LV LV _ H7.out H9.out).mono ?_
  rintro e Va108 ⟨rfl, hb⟩
  have HZ := Lib.hid hb
  clear hb
  rw [decide_eq_true rfl]
  replace Hb3 := kbl Hb3 HZ
  replace Hb4 := kbl Hb4 HZ
  replace Hb11 := kbl Hb11 HZ
  replace Hb13 := kbl Hb13 HZ
  replace HB := ktr' HB HZ
  replace H7 := Lib.hid (H7.out.later HZ.out (Nat.le_refl _))
  replace H9 := Lib.hid (H9.out.later HZ.out (Nat.le_refl _))
  clear HZ
  have cb110 := kcl0 Hb11
  have cb111 := kcl1 Hb11
  have cb130 := kcl0 Hb13
  have cb131 := kcl1 Hb13
  go_wp2_with fail
  refine (works_any _ (HDR0.out.later HB.out)).mono ?_
  rintro e Va109 ⟨rfl, hb⟩
  have HBZ := Lib.hid (HB.out.trans (hb.mono HB.out.size))
  clear hb
  go_wp2
  go_ret
  exact ⟨rfl, HBZ.out⟩
end Go.Proofs.YtdhcdgfpkjdihaaDoor.Sg
