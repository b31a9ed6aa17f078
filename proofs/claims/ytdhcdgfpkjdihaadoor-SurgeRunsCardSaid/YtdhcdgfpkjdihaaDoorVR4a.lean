/-
  Layer 3, the reference: ground, is, Depth, line.
-/
import Derived.Test.YtdhcdgfpkjdihaaDoorVR3c
import Derived.Test.YtdhcdgfpkjdihaaDoorVP3c
import Derived.Test.YtdhcdgfpkjdihaaDoorVGz
set_option linter.unusedSimpArgs false
set_option linter.unusedVariables false
namespace Go.Proofs.YtdhcdgfpkjdihaaDoor.Sg
open Go.RowKit
def Z8l : Oper := ⟨some 7, .fieldAddr 26 (.tmp 4) 0, 0, "ref.go:101", #[], none⟩
def Z8m : Oper := ⟨some 8, .load 3 (.tmp 7), 3, "ref.go:101", #[⟨0, .data⟩], none⟩
def Z8n : Oper := ⟨some 9, .fieldAddr 24 (.tmp 3) 3, 0, "ref.go:101", #[], none⟩
def Z8o : Oper := ⟨some 10, .load 22 (.tmp 9), 22, "ref.go:101", #[⟨2, .data⟩], none⟩
def Z8p : Oper := ⟨some 11, .move (.tmp 2), 3, "ref.go:101", #[], none⟩
def Z8q : Oper := ⟨some 12, .indexAddr 22 (.tmp 10) (.tmp 11), 0, "ref.go:101", #[⟨3, .data⟩, ⟨4, .data⟩], none⟩
def Z8r : Oper := ⟨some 13, .fieldAddr 26 (.tmp 12) 1, 0, "ref.go:101", #[⟨5, .data⟩], none⟩
def Z8s : Oper := ⟨some 14, .load 3 (.tmp 13), 3, "ref.go:101", #[⟨6, .data⟩], none⟩
def Z8t : Oper := ⟨some 15, .binOp BinOp.sub 3 (.tmp 8) (.tmp 14) 3, 3, "ref.go:101", #[⟨1, .data⟩, ⟨7, .data⟩], none⟩
def Z8u : Oper := ⟨some 16, .fieldAddr 26 (.tmp 4) 1, 0, "ref.go:101", #[], none⟩
def Z8v : Oper := ⟨some 17, .load 3 (.tmp 16), 3, "ref.go:101", #[⟨9, .data⟩], none⟩
def Z8w : Oper := ⟨some 18, .fieldAddr 24 (.tmp 3) 3, 0, "ref.go:101", #[], none⟩
def Z8x : Oper := ⟨some 19, .load 22 (.tmp 18), 22, "ref.go:101", #[⟨11, .data⟩], none⟩
def Z8y : Oper := ⟨some 20, .move (.tmp 2), 3, "ref.go:101", #[], none⟩
def Z8z : Oper := ⟨some 21, .indexAddr 22 (.tmp 19) (.tmp 20), 0, "ref.go:101", #[⟨12, .data⟩, ⟨13, .data⟩], none⟩
def Z90 : Oper := ⟨some 22, .fieldAddr 26 (.tmp 21) 0, 0, "ref.go:101", #[⟨14, .data⟩], none⟩
def Z91 : Oper := ⟨some 23, .load 3 (.tmp 22), 3, "ref.go:101", #[⟨15, .data⟩], none⟩
def Z92 : Oper := ⟨some 24, .binOp BinOp.sub 3 (.tmp 17) (.tmp 23) 3, 3, "ref.go:101", #[⟨10, .data⟩, ⟨16, .data⟩], none⟩
def Z93 : Oper := ⟨some 25, .build 26 #[(0, .tmp 15), (1, .tmp 24)], 26, "ref.go:101", #[⟨8, .data⟩, ⟨17, .data⟩], none⟩
def Z94 : Oper := ⟨none, .store 26 (.tmp 6) (.tmp 25), 0, "ref.go:101", #[⟨18, .data⟩, ⟨0, .phase⟩, ⟨1, .phase⟩, ⟨2, .phase⟩, ⟨3, .phase⟩, ⟨4, .phase⟩, ⟨5, .phase⟩, ⟨6, .phase⟩, ⟨7, .phase⟩, ⟨8, .phase⟩, ⟨9, .phase⟩, ⟨10, .phase⟩, ⟨11, .phase⟩, ⟨12, .phase⟩, ⟨13, .phase⟩, ⟨14, .phase⟩, ⟨15, .phase⟩, ⟨16, .phase⟩, ⟨17, .phase⟩, ⟨18, .phase⟩], none⟩
def Z95 : Oper := ⟨some 14, .move (.tmp 1), 3, "ref.go:109", #[], none⟩
def Z96 : Oper := ⟨some 15, .fieldAddr 24 (.tmp 3) 0, 0, "ref.go:109", #[], none⟩
def Z97 : Oper := ⟨some 16, .load 3 (.tmp 15), 3, "ref.go:109", #[⟨1, .data⟩], none⟩
def Z98 : Oper := ⟨some 17, .binOp BinOp.rem 3 (.tmp 14) (.tmp 16) 3, 3, "ref.go:109", #[⟨0, .data⟩, ⟨2, .data⟩], none⟩
def Z99 : Oper := ⟨some 18, .move (.tmp 7), 34, "ref.go:109", #[], none⟩
def Z9a : Oper := ⟨some 19, .move (.tmp 2), 3, "ref.go:109", #[], none⟩
def Z9b : Oper := ⟨some 20, .indexAddr 34 (.tmp 18) (.tmp 19), 0, "ref.go:109", #[⟨4, .data⟩, ⟨5, .data⟩], none⟩
def Z9c : Oper := ⟨some 21, .load 3 (.tmp 20), 3, "ref.go:109", #[⟨6, .data⟩], none⟩
def Z9d : Oper := ⟨some 22, .binOp BinOp.add 3 (.tmp 17) (.tmp 21) 3, 3, "ref.go:109", #[⟨3, .data⟩, ⟨7, .data⟩], none⟩
def Z9e : Oper := ⟨some 23, .move (.tmp 1), 3, "ref.go:109", #[⟨18, .gcOnly .lateStores⟩], none⟩
def Z9f : Oper := ⟨some 24, .fieldAddr 24 (.tmp 3) 0, 0, "ref.go:109", #[⟨18, .gcOnly .lateStores⟩], none⟩
def Z9g : Oper := ⟨some 25, .load 3 (.tmp 24), 3, "ref.go:109", #[⟨10, .data⟩, ⟨18, .gcOnly .lateStores⟩], none⟩
def Z9h : Oper := ⟨some 26, .binOp BinOp.quo 3 (.tmp 23) (.tmp 25) 3, 3, "ref.go:109", #[⟨9, .data⟩, ⟨11, .data⟩, ⟨18, .gcOnly .lateStores⟩], none⟩
def Z9i : Oper := ⟨some 27, .move (.tmp 8), 34, "ref.go:109", #[⟨18, .gcOnly .lateStores⟩], none⟩
def Z9j : Oper := ⟨some 28, .move (.tmp 2), 3, "ref.go:109", #[⟨18, .gcOnly .lateStores⟩], none⟩
def Z9k : Oper := ⟨some 29, .indexAddr 34 (.tmp 27) (.tmp 28), 0, "ref.go:109", #[⟨13, .data⟩, ⟨14, .data⟩, ⟨18, .gcOnly .lateStores⟩], none⟩
def Z9l : Oper := ⟨some 30, .load 3 (.tmp 29), 3, "ref.go:109", #[⟨15, .data⟩, ⟨18, .gcOnly .lateStores⟩], none⟩
def Z9m : Oper := ⟨some 31, .binOp BinOp.add 3 (.tmp 26) (.tmp 30) 3, 3, "ref.go:109", #[⟨12, .data⟩, ⟨16, .data⟩, ⟨18, .gcOnly .lateStores⟩], none⟩
def Z9n : Oper := ⟨some 10, .assign (.tmp 22), 3, "ref.go:109", #[⟨8, .data⟩, ⟨0, .phase⟩, ⟨1, .phase⟩, ⟨2, .phase⟩, ⟨3, .phase⟩, ⟨4, .phase⟩, ⟨5, .phase⟩, ⟨6, .phase⟩, ⟨7, .phase⟩, ⟨8, .phase⟩, ⟨9, .textOnly .lateStores⟩, ⟨10, .textOnly .lateStores⟩, ⟨11, .textOnly .lateStores⟩, ⟨12, .textOnly .lateStores⟩, ⟨13, .textOnly .lateStores⟩, ⟨14, .textOnly .lateStores⟩, ⟨15, .textOnly .lateStores⟩, ⟨16, .textOnly .lateStores⟩, ⟨17, .textOnly .lateStores⟩], none⟩
def Z9o : Oper := ⟨some 11, .assign (.tmp 31), 3, "ref.go:109", #[⟨17, .data⟩, ⟨18, .chain⟩, ⟨0, .phase⟩, ⟨1, .phase⟩, ⟨2, .phase⟩, ⟨3, .phase⟩, ⟨4, .phase⟩, ⟨5, .phase⟩, ⟨6, .phase⟩, ⟨7, .phase⟩, ⟨8, .phase⟩, ⟨9, .phase⟩, ⟨10, .phase⟩, ⟨11, .phase⟩, ⟨12, .phase⟩, ⟨13, .phase⟩, ⟨14, .phase⟩, ⟨15, .phase⟩, ⟨16, .phase⟩, ⟨17, .phase⟩, ⟨18, .phase⟩], none⟩
def Z9p : Oper := ⟨some 53, .move (.tmp 10), 3, "ref.go:112", #[], none⟩
def Z9q : Oper := ⟨some 54, .move (.tmp 7), 34, "ref.go:112", #[], none⟩
def Z9r : Oper := ⟨some 55, .move (.tmp 2), 3, "ref.go:112", #[], none⟩
def Z9s : Oper := ⟨some 56, .indexAddr 34 (.tmp 54) (.tmp 55), 0, "ref.go:112", #[⟨1, .data⟩, ⟨2, .data⟩], none⟩
def Z9t : Oper := ⟨some 57, .load 3 (.tmp 56), 3, "ref.go:112", #[⟨3, .data⟩], none⟩
def Z9u : Oper := ⟨some 58, .binOp BinOp.add 3 (.tmp 53) (.tmp 57) 3, 3, "ref.go:112", #[⟨0, .data⟩, ⟨4, .data⟩], none⟩
def Z9v : Oper := ⟨some 59, .move (.tmp 11), 3, "ref.go:112", #[⟨12, .gcOnly .lateStores⟩], none⟩
def Z9w : Oper := ⟨some 60, .move (.tmp 8), 34, "ref.go:112", #[⟨12, .gcOnly .lateStores⟩], none⟩
def Z9x : Oper := ⟨some 61, .move (.tmp 2), 3, "ref.go:112", #[⟨12, .gcOnly .lateStores⟩], none⟩
def Z9y : Oper := ⟨some 62, .indexAddr 34 (.tmp 60) (.tmp 61), 0, "ref.go:112", #[⟨7, .data⟩, ⟨8, .data⟩, ⟨12, .gcOnly .lateStores⟩], none⟩
def Z9z : Oper := ⟨some 63, .load 3 (.tmp 62), 3, "ref.go:112", #[⟨9, .data⟩, ⟨12, .gcOnly .lateStores⟩], none⟩
def Za0 : Oper := ⟨some 64, .binOp BinOp.add 3 (.tmp 59) (.tmp 63) 3, 3, "ref.go:112", #[⟨6, .data⟩, ⟨10, .data⟩, ⟨12, .gcOnly .lateStores⟩], none⟩
def Za1 : Oper := ⟨some 10, .assign (.tmp 58), 3, "ref.go:112", #[⟨5, .data⟩, ⟨0, .phase⟩, ⟨1, .phase⟩, ⟨2, .phase⟩, ⟨3, .phase⟩, ⟨4, .phase⟩, ⟨5, .phase⟩, ⟨6, .textOnly .lateStores⟩, ⟨7, .textOnly .lateStores⟩, ⟨8, .textOnly .lateStores⟩, ⟨9, .textOnly .lateStores⟩, ⟨10, .textOnly .lateStores⟩, ⟨11, .textOnly .lateStores⟩], none⟩
def Za2 : Oper := ⟨some 11, .assign (.tmp 64), 3, "ref.go:112", #[⟨11, .data⟩, ⟨12, .chain⟩, ⟨0, .phase⟩, ⟨1, .phase⟩, ⟨2, .phase⟩, ⟨3, .phase⟩, ⟨4, .phase⟩, ⟨5, .phase⟩, ⟨6, .phase⟩, ⟨7, .phase⟩, ⟨8, .phase⟩, ⟨9, .phase⟩, ⟨10, .phase⟩, ⟨11, .phase⟩, ⟨12, .phase⟩], none⟩
set_option maxRecDepth 100000 in
set_option maxHeartbeats 1000000 in
theorem rground_any (WW HH SS : Int) (ss : List (Int × Int)) (A : Option Addr) (c : Nat) (lo hi : Int) (w : World) (hs : SpansAt w w.heap.size (.slice A ss.length c) ss) :
 Calls Tryd.prog 62 #[.agg #[.int .i64 (WW), .int .i64 (HH), .int .i64 (SS), .slice A ss.length c], .agg #[.int .i64 lo, .int .i64 hi]] w fun e w' => e = .returned (.int .i64 (seaE ⟨WW, HH, SS, ss⟩ (lo, hi))) ∧ Below w.heap.size w w' := by
 by_cases h0 : checkE ⟨WW, HH, SS, ss⟩ = 0
 rotate_left
 · obtain ⟨E0, hE0⟩ : ∃ z, checkE ⟨WW, HH, SS, ss⟩ = z := ⟨_, rfl⟩
   rw [hE0] at h0
   have hb1 : (E0 == 0) = false := beq_eq_false_iff_ne.2 h0
   have EE := Lib.hid (show seaE ⟨WW, HH, SS, ss⟩ (lo, hi) = E0 by unfold seaE andE; rw [hE0, if_neg h0])
   have HE0 := Lib.hid hE0
   clear hE0 h0
   have HSS3 := Lib.hid hs
   clear hs
   go_enter Tryd.func62, Tryd.ntmps62
   go_upto_region 1 with (fail)
   obtain ⟨Va1, hV⟩ : ∃ V, (w.alloc (.cells #[.int .i64 (WW), .int .i64 (HH), .int .i64 (SS), .slice A ss.length c] 24)).alloc (.cells #[.int .i64 (lo), .int .i64 (hi)] 26) = V := ⟨_, rfl⟩
   have Kb2 : Hid (Blk Va1 (w.heap.size) 24 #[.int .i64 (WW), .int .i64 (HH), .int .i64 (SS), .slice A ss.length c]) := by rw [← hV]; exact (Blk.new' _ _ _ (by simp)).alloc _
   have Kb3 : Hid (Blk Va1 (w.heap.size + 1) 26 #[.int .i64 (lo), .int .i64 (hi)]) := by rw [← hV]; exact Blk.new' _ _ _ (by simp)
   have GHB : Hid (Below w.heap.size w Va1) := by rw [← hV]; exact (by repeat (first | exact Below.refl _ _ | assumption | refine Below.drew ?_ | refine Below.drewN' ?_ _ | (refine Below.alloc ?_ (by simp <;> omega) _) | (refine Below.setCell ?_ (by simp <;> omega) _)))
   have HZ : Hid (Below w.heap.size w Va1) := GHB
   have GHSS3 := Lib.hid (HSS3.out.later HZ.out (Nat.le_refl _))
   rw [hV]
   clear hV HZ HSS3
   have HB := GHB
   clear GHB
   have HSS3 := GHSS3
   clear GHSS3
   obtain ⟨b3, hqb3⟩ : ∃ b, w.heap.size + 1 = b := ⟨_, rfl⟩
   obtain ⟨b2, hqb2⟩ : ∃ b, w.heap.size = b := ⟨_, rfl⟩
   have gb2 : w.heap.size ≤ b2 := by omega
   have gb3 : w.heap.size ≤ b3 := by omega
   have nb3b2 : ¬ b3 = b2 := by omega
   have nb2b3 : ¬ b2 = b3 := by omega
   rw [hqb3] at Kb3 ⊢
   clear hqb3
   have HN : Hid (w.heap.size = b2) := hqb2
   rw [hqb2] at Kb2 ⊢
   clear hqb2
   have Hb2 := Kb2
   clear Kb2
   have Hb3 := Kb3
   clear Kb3
   have cb20 := kcl0 Hb2
   have cb21 := kcl1 Hb2
   have cb22 := kcl2 Hb2
   have cb23 := kcl3 Hb2
   go_wp2_with fail
   refine (rCheck_any _ ⟨WW, HH, SS, ss⟩ _ ⟨_, rfl, HSS3.out⟩).mono ?_
   rintro e Va2 ⟨rfl, hb⟩
   have HZ := Lib.hid hb
   clear hb
   rw [HE0.out]
   clear cb20 cb21 cb22 cb23
   replace Hb2 := kbl Hb2 HZ
   replace Hb3 := kbl Hb3 HZ
   replace HB := ktr' HB HZ
   replace HSS3 := Lib.hid (HSS3.out.later HZ.out (Nat.le_refl _))
   clear HZ
   go_wp2
   go_ret
   exact ⟨by rw [EE.out]; rfl, HB.out⟩
 have HE0 := Lib.hid h0
 by_cases h1 : spOk (-20000) 20000 (lo, hi) = true
 · have EE := Lib.hid (show seaE ⟨WW, HH, SS, ss⟩ (lo, hi) = 0 by unfold seaE andE; rw [h0, if_pos rfl, spE_pos h1])
   have HS1 := Lib.hid h1
   clear h1 h0
   have HSS3 := Lib.hid hs
   clear hs
   go_enter Tryd.func62, Tryd.ntmps62
   go_upto_region 1 with (fail)
   obtain ⟨Va31, hV⟩ : ∃ V, (w.alloc (.cells #[.int .i64 (WW), .int .i64 (HH), .int .i64 (SS), .slice A ss.length c] 24)).alloc (.cells #[.int .i64 (lo), .int .i64 (hi)] 26) = V := ⟨_, rfl⟩
   have Kb2 : Hid (Blk Va31 (w.heap.size) 24 #[.int .i64 (WW), .int .i64 (HH), .int .i64 (SS), .slice A ss.length c]) := by rw [← hV]; exact (Blk.new' _ _ _ (by simp)).alloc _
   have Kb3 : Hid (Blk Va31 (w.heap.size + 1) 26 #[.int .i64 (lo), .int .i64 (hi)]) := by rw [← hV]; exact Blk.new' _ _ _ (by simp)
   have GHB : Hid (Below w.heap.size w Va31) := by rw [← hV]; exact (by repeat (first | exact Below.refl _ _ | assumption | refine Below.drew ?_ | refine Below.drewN' ?_ _ | (refine Below.alloc ?_ (by simp <;> omega) _) | (refine Below.setCell ?_ (by simp <;> omega) _)))
   have HZ : Hid (Below w.heap.size w Va31) := GHB
   have GHSS3 := Lib.hid (HSS3.out.later HZ.out (Nat.le_refl _))
   rw [hV]
   clear hV HZ HSS3
   have HB := GHB
   clear GHB
   have HSS3 := GHSS3
   clear GHSS3
   obtain ⟨b3, hqb3⟩ : ∃ b, w.heap.size + 1 = b := ⟨_, rfl⟩
   obtain ⟨b2, hqb2⟩ : ∃ b, w.heap.size = b := ⟨_, rfl⟩
   have gb2 : w.heap.size ≤ b2 := by omega
   have gb3 : w.heap.size ≤ b3 := by omega
   have nb3b2 : ¬ b3 = b2 := by omega
   have nb2b3 : ¬ b2 = b3 := by omega
   rw [hqb3] at Kb3 ⊢
   clear hqb3
   have HN : Hid (w.heap.size = b2) := hqb2
   rw [hqb2] at Kb2 ⊢
   clear hqb2
   have Hb2 := Kb2
   clear Kb2
   have Hb3 := Kb3
   clear Kb3
   have cb20 := kcl0 Hb2
   have cb21 := kcl1 Hb2
   have cb22 := kcl2 Hb2
   have cb23 := kcl3 Hb2
   go_wp2_with fail
   refine (rCheck_any _ ⟨WW, HH, SS, ss⟩ _ ⟨_, rfl, HSS3.out⟩).mono ?_
   rintro e Va32 ⟨rfl, hb⟩
   have HZ := Lib.hid hb
   clear hb
   rw [HE0.out]
   clear cb20 cb21 cb22 cb23
   replace Hb2 := kbl Hb2 HZ
   replace Hb3 := kbl Hb3 HZ
   replace HB := ktr' HB HZ
   replace HSS3 := Lib.hid (HSS3.out.later HZ.out (Nat.le_refl _))
   clear HZ
   have cb30 := kcl0 Hb3
   have cb31 := kcl1 Hb3
   go_wp2_with fail
   refine (rspan_of HS1.out _).mono ?_
   rintro e Va33 ⟨rfl, hb⟩
   have HZ := Lib.hid hb
   clear hb
   clear cb30 cb31
   replace Hb2 := kbl Hb2 HZ
   replace Hb3 := kbl Hb3 HZ
   replace HB := ktr' HB HZ
   replace HSS3 := Lib.hid (HSS3.out.later HZ.out (Nat.le_refl _))
   clear HZ
   go_wp2
   go_ret
   exact ⟨by rw [EE.out]; rfl, HB.out⟩
 · have h1 : spOk (-20000) 20000 (lo, hi) = false := by simpa using h1
   have EE := Lib.hid (show seaE ⟨WW, HH, SS, ss⟩ (lo, hi) = 3 by unfold seaE andE; rw [h0, if_pos rfl, spE_neg h1])
   have HS1 := Lib.hid h1
   clear h1 h0
   have HSS3 := Lib.hid hs
   clear hs
   go_enter Tryd.func62, Tryd.ntmps62
   go_upto_region 1 with (fail)
   obtain ⟨Va61, hV⟩ : ∃ V, (w.alloc (.cells #[.int .i64 (WW), .int .i64 (HH), .int .i64 (SS), .slice A ss.length c] 24)).alloc (.cells #[.int .i64 (lo), .int .i64 (hi)] 26) = V := ⟨_, rfl⟩
   have Kb2 : Hid (Blk Va61 (w.heap.size) 24 #[.int .i64 (WW), .int .i64 (HH), .int .i64 (SS), .slice A ss.length c]) := by rw [← hV]; exact (Blk.new' _ _ _ (by simp)).alloc _
   have Kb3 : Hid (Blk Va61 (w.heap.size + 1) 26 #[.int .i64 (lo), .int .i64 (hi)]) := by rw [← hV]; exact Blk.new' _ _ _ (by simp)
   have GHB : Hid (Below w.heap.size w Va61) := by rw [← hV]; exact (by repeat (first | exact Below.refl _ _ | assumption | refine Below.drew ?_ | refine Below.drewN' ?_ _ | (refine Below.alloc ?_ (by simp <;> omega) _) | (refine Below.setCell ?_ (by simp <;> omega) _)))
   have HZ : Hid (Below w.heap.size w Va61) := GHB
   have GHSS3 := Lib.hid (HSS3.out.later HZ.out (Nat.le_refl _))
   rw [hV]
   clear hV HZ HSS3
   have HB := GHB
   clear GHB
   have HSS3 := GHSS3
   clear GHSS3
   obtain ⟨b3, hqb3⟩ : ∃ b, w.heap.size + 1 = b := ⟨_, rfl⟩
   obtain ⟨b2, hqb2⟩ : ∃ b, w.heap.size = b := ⟨_, rfl⟩
   have gb2 : w.heap.size ≤ b2 := by omega
   have gb3 : w.heap.size ≤ b3 := by omega
   have nb3b2 : ¬ b3 = b2 := by omega
   have nb2b3 : ¬ b2 = b3 := by omega
   rw [hqb3] at Kb3 ⊢
   clear hqb3
   have HN : Hid (w.heap.size = b2) := hqb2
   rw [hqb2] at Kb2 ⊢
   clear hqb2
   have Hb2 := Kb2
   clear Kb2
   have Hb3 := Kb3
   clear Kb3
   have cb20 := kcl0 Hb2
   have cb21 := kcl1 Hb2
   have cb22 := kcl2 Hb2
   have cb23 := kcl3 Hb2
   go_wp2_with fail
   refine (rCheck_any _ ⟨WW, HH, SS, ss⟩ _ ⟨_, rfl, HSS3.out⟩).mono ?_
   rintro e Va62 ⟨rfl, hb⟩
   have HZ := Lib.hid hb
   clear hb
   rw [HE0.out]
   clear cb20 cb21 cb22 cb23
   replace Hb2 := kbl Hb2 HZ
   replace Hb3 := kbl Hb3 HZ
   replace HB := ktr' HB HZ
   replace HSS3 := Lib.hid (HSS3.out.later HZ.out (Nat.le_refl _))
   clear HZ
   have cb30 := kcl0 Hb3
   have cb31 := kcl1 Hb3
   go_wp2_with fail
   refine (rspan_of HS1.out _).mono ?_
   rintro e Va63 ⟨rfl, hb⟩
   have HZ := Lib.hid hb
   clear hb
   clear cb30 cb31
   replace Hb2 := kbl Hb2 HZ
   replace Hb3 := kbl Hb3 HZ
   replace HB := ktr' HB HZ
   replace HSS3 := Lib.hid (HSS3.out.later HZ.out (Nat.le_refl _))
   clear HZ
   go_wp2
   go_ret
   exact ⟨by rw [EE.out]; rfl, HB.out⟩
set_option maxRecDepth 100000 in
set_option maxHeartbeats 1000000 in
theorem ris_any (WW HH SS : Int) (ss : List (Int × Int)) (A : Option Addr) (c : Nat) (cell : Int) (w : World) (hW : 1 ≤ WW ∧ WW ≤ 24) (hH : 1 ≤ HH ∧ HH ≤ 24) :
 Calls Tryd.prog 63 #[.agg #[.int .i64 (WW), .int .i64 (HH), .int .i64 (SS), .slice A ss.length c], .int .i64 cell] w fun e w' => e = .returned (.bool (decide (0 ≤ cell ∧ cell ≤ WW * HH - 1))) ∧ Below w.heap.size w w' := by
 have hwh : 0 ≤ WW * HH ∧ WW * HH ≤ 24 * 24 := ⟨Int.mul_nonneg (by omega) (by omega), Int.mul_le_mul hW.2 hH.2 (by omega) (by omega)⟩
 obtain ⟨q, hq⟩ : ∃ z, WW * HH = z := ⟨_, rfl⟩
 rw [hq] at hwh ⊢
 have HQ := Lib.hid hq
 have wr0 : IntKind.i64.wrap (WW * HH) = q := by rw [hq]; exact IntWalk.i64_in _ (by omega)
 have wr1 : IntKind.i64.wrap (q - 1) = q - 1 := IntWalk.i64_in _ (by omega)
 clear hq
 go_enter Tryd.func63, Tryd.ntmps63
 go_upto_region 1 with (fail)
 obtain ⟨Va1, hV⟩ : ∃ V, w.alloc (.cells #[.int .i64 (WW), .int .i64 (HH), .int .i64 (SS), .slice A ss.length c] 24) = V := ⟨_, rfl⟩
 have Kb2 : Hid (Blk Va1 (w.heap.size) 24 #[.int .i64 (WW), .int .i64 (HH), .int .i64 (SS), .slice A ss.length c]) := by rw [← hV]; exact Blk.new' _ _ _ (by simp)
 have GHB : Hid (Below w.heap.size w Va1) := by rw [← hV]; exact (by repeat (first | exact Below.refl _ _ | assumption | refine Below.drew ?_ | refine Below.drewN' ?_ _ | (refine Below.alloc ?_ (by simp <;> omega) _) | (refine Below.setCell ?_ (by simp <;> omega) _)))
 have HZ : Hid (Below w.heap.size w Va1) := GHB
 rw [hV]
 clear hV HZ
 have HB := GHB
 clear GHB
 obtain ⟨b2, hqb2⟩ : ∃ b, w.heap.size = b := ⟨_, rfl⟩
 have gb2 : w.heap.size ≤ b2 := by omega
 have HN : Hid (w.heap.size = b2) := hqb2
 rw [hqb2] at Kb2 ⊢
 clear hqb2
 have Hb2 := Kb2
 clear Kb2
 have cb20 := kcl0 Hb2
 have cb21 := kcl1 Hb2
 have cb22 := kcl2 Hb2
 have cb23 := kcl3 Hb2
 go_wp2_with fail
 refine (rwithin_any _ _ _ _).mono ?_
 rintro e Va2 ⟨rfl, hw⟩
 obtain rfl := hw
 clear cb20 cb21 cb22 cb23
 go_wp2
 go_ret
 exact ⟨by rw [Bool.decide_and]; rfl, HB.out⟩
set_option maxRecDepth 100000 in
set_option maxHeartbeats 1000000 in
theorem rDepth_any (g : G) (A : Option Addr) (c : Nat) (lo hi : Int) (k : Nat) (w : World) (hs : SpansAt w w.heap.size (.slice A g.ss.length c) g.ss) (hk : k < g.ss.length) (hc : checkE g = 0) (hse : spOk (-20000) 20000 (lo, hi) = true) :
 Calls Tryd.prog 109 #[.agg #[.int .i64 g.W, .int .i64 g.H, .int .i64 g.S, .slice A g.ss.length c], .agg #[.int .i64 lo, .int .i64 hi], .int .i64 (k : Int)] w fun e w' => e = .returned (.agg #[.int .i64 (dpZ g (lo, hi) (k : Int)).1, .int .i64 (dpZ g (lo, hi) (k : Int)).2]) ∧ Below w.heap.size w w' := by
 obtain ⟨bg, og, rfl, hbg, cg0, cg1⟩ := hs.at_ hk
 have hq := dp_ok hc hse (k : Int)
 have e1 : dpZ g (lo, hi) (k : Int) = (lo - g.ss[k].2, hi - g.ss[k].1) := by unfold dpZ; rw [gr_at hk]
 rw [e1] at hq ⊢
 obtain ⟨⟨x, y⟩, hxy⟩ : ∃ q, g.ss[k] = q := ⟨_, rfl⟩
 rw [hxy] at cg0 cg1 hq ⊢
 simp only at cg0 cg1 hq ⊢
 have hsl := spOk_iff.1 hse
 simp only at hsl
 obtain ⟨WW, HH, SS, ss⟩ := g
 simp only at hk ⊢
 clear e1 hxy hc hse hs
 have wr0 : IntKind.i64.wrap (lo - y) = lo - y := IntWalk.i64_in _ (by omega)
 have wr1 : IntKind.i64.wrap (hi - x) = hi - x := IntWalk.i64_in _ (by omega)
 go_enter Tryd.func109, Tryd.ntmps109
 go_upto_region 1 with (fail)
 obtain ⟨Va1, hV⟩ : ∃ V, ((w.alloc (.cells #[.int .i64 (WW), .int .i64 (HH), .int .i64 (SS), .slice (some ⟨bg, og, none⟩) ss.length c] 24)).alloc (.cells #[.int .i64 (lo), .int .i64 (hi)] 26)).alloc (.cells #[.int .i64 (0), .int .i64 (0)] 26) = V := ⟨_, rfl⟩
 have Kb3 : Hid (Blk Va1 (w.heap.size) 24 #[.int .i64 (WW), .int .i64 (HH), .int .i64 (SS), .slice (some ⟨bg, og, none⟩) ss.length c]) := by rw [← hV]; exact ((Blk.new' _ _ _ (by simp)).alloc _).alloc _
 have Kb4 : Hid (Blk Va1 (w.heap.size + 1) 26 #[.int .i64 (lo), .int .i64 (hi)]) := by rw [← hV]; exact (Blk.new' _ _ _ (by simp)).alloc _
 have Kb6 : Hid (Blk Va1 (w.heap.size + 1 + 1) 26 #[.int .i64 (0), .int .i64 (0)]) := by rw [← hV]; exact Blk.new' _ _ _ (by simp)
 have GHB : Hid (Below w.heap.size w Va1) := by rw [← hV]; exact (by repeat (first | exact Below.refl _ _ | assumption | refine Below.drew ?_ | refine Below.drewN' ?_ _ | (refine Below.alloc ?_ (by simp <;> omega) _) | (refine Below.setCell ?_ (by simp <;> omega) _)))
 have HZ : Hid (Below w.heap.size w Va1) := GHB
 rw [hV]
 clear hV HZ
 have HB := GHB
 clear GHB
 obtain ⟨b6, hqb6⟩ : ∃ b, w.heap.size + 1 + 1 = b := ⟨_, rfl⟩
 obtain ⟨b4, hqb4⟩ : ∃ b, w.heap.size + 1 = b := ⟨_, rfl⟩
 obtain ⟨b3, hqb3⟩ : ∃ b, w.heap.size = b := ⟨_, rfl⟩
 have gb3 : w.heap.size ≤ b3 := by omega
 have gb4 : w.heap.size ≤ b4 := by omega
 have nb4b3 : ¬ b4 = b3 := by omega
 have nb3b4 : ¬ b3 = b4 := by omega
 have gb6 : w.heap.size ≤ b6 := by omega
 have nb6b3 : ¬ b6 = b3 := by omega
 have nb3b6 : ¬ b3 = b6 := by omega
 have nb6b4 : ¬ b6 = b4 := by omega
 have nb4b6 : ¬ b4 = b6 := by omega
 rw [hqb6] at Kb6 ⊢
 clear hqb6
 rw [hqb4] at Kb4 ⊢
 clear hqb4
 have HN : Hid (w.heap.size = b3) := hqb3
 rw [hqb3] at Kb3 ⊢
 clear hqb3
 have Hb3 := Kb3
 clear Kb3
 have Hb4 := Kb4
 clear Kb4
 have Hb6 := Kb6
 clear Kb6
 have hg0 : Va1.cell? ⟨bg, og + k * 2, none⟩ = some (.int .i64 x) := (HB.out.cell (p := ⟨bg, og + k * 2, none⟩) hbg).trans cg0
 have hg1 : Va1.cell? ⟨bg, og + k * 2 + 1, none⟩ = some (.int .i64 y) := (HB.out.cell (p := ⟨bg, og + k * 2 + 1, none⟩) hbg).trans cg1
 have hbl : bg < Va1.heap.size := Nat.lt_of_lt_of_le hbg HB.out.size
 have hki : (k : Int) < (ss.length : Int) := by omega
 clear cg0 cg1
 go_upto_region 1 with (fail)
 have HSV : Hid (∀ U, Below Va1.heap.size Va1 U → U.cell? ⟨b3, 0, none⟩ = some (.int .i64 (WW)) ∧ U.cell? ⟨b3, 1, none⟩ = some (.int .i64 (HH)) ∧ U.cell? ⟨b3, 2, none⟩ = some (.int .i64 (SS)) ∧ U.cell? ⟨b3, 3, none⟩ = some (.slice (some ⟨bg, og, none⟩) ss.length c) ∧ U.cell? ⟨b4, 0, none⟩ = some (.int .i64 (lo)) ∧ U.cell? ⟨b4, 1, none⟩ = some (.int .i64 (hi)) ∧ U.cell? ⟨bg, og + k * 2, none⟩ = some (.int .i64 (x)) ∧ U.cell? ⟨bg, og + k * 2 + 1, none⟩ = some (.int .i64 (y))) := fun U hU => by
  have kb3 := Hb3.out.below hU Hb3.out.lt
  have kb4 := Hb4.out.below hU Hb4.out.lt
  exact ⟨kb3.cell 0, kb3.cell 1, kb3.cell 2, kb3.cell 3, kb4.cell 0, kb4.cell 1, (hU.cell (p := ⟨bg, og + k * 2, none⟩) hbl).trans hg0, (hU.cell (p := ⟨bg, og + k * 2 + 1, none⟩) hbl).trans hg1⟩
 have k0 := HSV.out _ (Below.drew (Below.refl Va1.heap.size Va1))
 refine wp_region_noPanic ?_
 refine wp_region_L (S := (fun w' => w'.cell? ⟨b3, 0, none⟩ = some (.int .i64 (WW)) ∧ w'.cell? ⟨b3, 1, none⟩ = some (.int .i64 (HH)) ∧ w'.cell? ⟨b3, 2, none⟩ = some (.int .i64 (SS)) ∧ w'.cell? ⟨b3, 3, none⟩ = some (.slice (some ⟨bg, og, none⟩) ss.length c) ∧ w'.cell? ⟨b4, 0, none⟩ = some (.int .i64 (lo)) ∧ w'.cell? ⟨b4, 1, none⟩ = some (.int .i64 (hi)) ∧ w'.cell? ⟨bg, og + k * 2, none⟩ = some (.int .i64 (x)) ∧ w'.cell? ⟨bg, og + k * 2 + 1, none⟩ = some (.int .i64 (y)))) (ks := [19]) (by kernel_rfl) ?_ (fun hHeld => ?_)
 · (try dsimp only); (exact k0)
 refine tL 0 Z8l ?_ ?_ ?_
 rotate_left
 · ((intro w hSw; delta Z8l; (try dsimp only at hSw); go_simp) <;> with_reducible rfl)
 try simp only [Z8l, ksz]
 refine tL 2 Z8n ?_ ?_ ?_
 rotate_left
 · ((intro w hSw; delta Z8n; (try dsimp only at hSw); go_simp) <;> with_reducible rfl)
 try simp only [Z8n, ksz]
 refine tL 4 Z8p ?_ ?_ ?_
 rotate_left
 · ((intro w hSw; delta Z8p; (try dsimp only at hSw); go_simp) <;> with_reducible rfl)
 try simp only [Z8p, ksz]
 refine tL 9 Z8u ?_ ?_ ?_
 rotate_left
 · ((intro w hSw; delta Z8u; (try dsimp only at hSw); go_simp) <;> with_reducible rfl)
 try simp only [Z8u, ksz]
 refine tL 11 Z8w ?_ ?_ ?_
 rotate_left
 · ((intro w hSw; delta Z8w; (try dsimp only at hSw); go_simp) <;> with_reducible rfl)
 try simp only [Z8w, ksz]
 refine tL 13 Z8y ?_ ?_ ?_
 rotate_left
 · ((intro w hSw; delta Z8y; (try dsimp only at hSw); go_simp) <;> with_reducible rfl)
 try simp only [Z8y, ksz]
 refine tL 1 Z8m ?_ ?_ ?_
 rotate_left
 · ((intro w hSw; delta Z8m; (try dsimp only at hSw); go_simp) <;> with_reducible rfl)
 try simp only [Z8m, ksz]
 refine tL 3 Z8o ?_ ?_ ?_
 rotate_left
 · ((intro w hSw; delta Z8o; (try dsimp only at hSw); go_simp) <;> with_reducible rfl)
 try simp only [Z8o, ksz]
 refine tL 10 Z8v ?_ ?_ ?_
 rotate_left
 · ((intro w hSw; delta Z8v; (try dsimp only at hSw); go_simp) <;> with_reducible rfl)
 try simp only [Z8v, ksz]
 refine tL 12 Z8x ?_ ?_ ?_
 rotate_left
 · ((intro w hSw; delta Z8x; (try dsimp only at hSw); go_simp) <;> with_reducible rfl)
 try simp only [Z8x, ksz]
 refine tL 5 Z8q ?_ ?_ ?_
 rotate_left
 · ((intro w hSw; delta Z8q; (try dsimp only at hSw); go_simp) <;> with_reducible rfl)
 try simp only [Z8q, ksz]
 refine tL 14 Z8z ?_ ?_ ?_
 rotate_left
 · ((intro w hSw; delta Z8z; (try dsimp only at hSw); go_simp) <;> with_reducible rfl)
 try simp only [Z8z, ksz]
 refine tL 6 Z8r ?_ ?_ ?_
 rotate_left
 · ((intro w hSw; delta Z8r; (try dsimp only at hSw); go_simp) <;> with_reducible rfl)
 try simp only [Z8r, ksz]
 refine tL 15 Z90 ?_ ?_ ?_
 rotate_left
 · ((intro w hSw; delta Z90; (try dsimp only at hSw); go_simp) <;> with_reducible rfl)
 try simp only [Z90, ksz]
 refine tL 7 Z8s ?_ ?_ ?_
 rotate_left
 · ((intro w hSw; delta Z8s; (try dsimp only at hSw); go_simp) <;> with_reducible rfl)
 try simp only [Z8s, ksz]
 refine tL 16 Z91 ?_ ?_ ?_
 rotate_left
 · ((intro w hSw; delta Z91; (try dsimp only at hSw); go_simp) <;> with_reducible rfl)
 try simp only [Z91, ksz]
 refine tL 8 Z8t ?_ ?_ ?_
 rotate_left
 · ((intro w hSw; delta Z8t; (try dsimp only at hSw); go_simp) <;> with_reducible rfl)
 try simp only [Z8t, ksz]
 refine tL 17 Z92 ?_ ?_ ?_
 rotate_left
 · ((intro w hSw; delta Z92; (try dsimp only at hSw); go_simp) <;> with_reducible rfl)
 try simp only [Z92, ksz]
 refine tL 18 Z93 ?_ ?_ ?_
 rotate_left
 · ((intro w hSw; delta Z93; (try dsimp only at hSw); go_simp) <;> with_reducible rfl)
 try simp only [Z93, ksz]
 obtain ⟨W0, hW0⟩ : ∃ V, Va1.drew = V := ⟨_, rfl⟩; rw [hW0] at hHeld ⊢; have HB0 : Hid (Below Va1.heap.size Va1 W0) := (by rw [← hW0]; exact Below.drew (Below.refl _ _)); clear hW0
 have Gb3 := Lib.hid (Hb3.out.below HB0.out Hb3.out.lt); have Gb4 := Lib.hid (Hb4.out.below HB0.out Hb4.out.lt); have Gb6 := Lib.hid (Hb6.out.below HB0.out Hb6.out.lt); have GHB := Lib.hid (HB.out.trans (HB0.out.mono HB.out.size)); clear Hb3 Hb4 Hb6 HB; have Hb3 := Gb3; clear Gb3; have Hb4 := Gb4; clear Gb4; have Hb6 := Gb6; clear Gb6; have HB := GHB; clear GHB; have cR0 := Hb6.out.cell 0; have zR0 := Hb6.out.frozen 0; have cR1 := Hb6.out.cell 1; have zR1 := Hb6.out.frozen 1; simp only [List.getElem?_toArray, List.getElem?_cons_zero, List.getElem?_cons_succ] at cR0 cR1
 refine wpAnyL_ready (rs := [19]) (by kernel_rfl) (by simp) ?_
 refine AllReadyL.gate (o := Z94) rfl (by kernel_rfl) (fun K hK => ?_) AllReadyL.nil
 delta Z94
 go_simp
 refine hK.out _ _ ?_
 clear hK K
 try simp only [Z94, ksz]
 obtain ⟨Va2, hV⟩ : ∃ V, (W0.setCell ⟨b6, 0, none⟩ (.int .i64 (lo - y))).setCell ⟨b6, 1, none⟩ (.int .i64 (hi - x)) = V := ⟨_, rfl⟩; replace Hb3 : Hid (Blk Va2 b3 24 #[.int .i64 (WW), .int .i64 (HH), .int .i64 (SS), .slice (some ⟨bg, og, none⟩) ss.length c]) := (by rw [← hV]; exact ((Hb3.out.far_ (p := ⟨b6, 0, none⟩) nb3b6 _).far_ (p := ⟨b6, 1, none⟩) nb3b6 _)); replace Hb4 : Hid (Blk Va2 b4 26 #[.int .i64 (lo), .int .i64 (hi)]) := (by rw [← hV]; exact ((Hb4.out.far_ (p := ⟨b6, 0, none⟩) nb4b6 _).far_ (p := ⟨b6, 1, none⟩) nb4b6 _)); replace Hb6 : Hid (Blk Va2 b6 26 #[.int .i64 (lo - y), .int .i64 (hi - x)]) := (by rw [← hV]; exact ((Hb6.out.set_ 0 (.int .i64 (lo - y))).set_ 1 (.int .i64 (hi - x)))); replace HB : Hid (Below w.heap.size w Va2) := (by rw [← hV]; exact ((HB.out.setCell (p := ⟨b6, 0, none⟩) gb6 _).setCell (p := ⟨b6, 1, none⟩) gb6 _)); rw [hV]; clear hV cR0 zR0 cR1 zR1
 refine wpAnyL_done (by kernel_rfl) ?_ _
 refine NoPanic.normal ?_
 clear HSV k0
 clear hHeld HB0
 have cb60 := kcl0 Hb6
 have cb61 := kcl1 Hb6
 go_wp2
 refine bodyPost_ret (v := .agg #[.int .i64 (lo - y), .int .i64 (hi - x)]) (by simp [results, Tryd.results109, go_sem, cb60, cb61]) rfl ⟨rfl, HB.out⟩
def lenOf : Value → Nat
 | .slice _ n _ => n
 | _ => 0
theorem below_grown {V W w8 : World} {n : Nat} {row : Option Nat} (h : Below n V W) (hg : W.grownBy w8 row) (hr : ∀ k, row = some k → n ≤ k) (hn : n ≤ V.heap.size) : Below n V w8 :=
 ⟨hg.os.trans h.os, hg.tape.trans h.tape, hg.output.trans h.output, Nat.le_trans h.size hg.size, fun i hi => (hg.block i (Nat.lt_of_lt_of_le (Nat.lt_of_lt_of_le hi hn) h.size) (fun e => by have := hr i e.symm; omega)).trans (h.block i hi)⟩
theorem own_len {w : World} {base e size n : Nat} {v : Value} {xs : List Value} (h : w.ownsRow base e size v n xs) : lenOf v = n := by
 rcases h.2 with ⟨rfl, h0⟩ | ⟨g, cap, cur, rfl, _⟩
 · exact h0.symm
 · rfl
theorem col_step (W c : Int) (d k : Nat) : colZ W c d (k + 1) = colZ W c d k + dxZ d := by unfold colZ; push_cast; rw [Int.mul_add, Int.mul_one]; omega
theorem row_step (W c : Int) (d k : Nat) : rowZ W c d (k + 1) = rowZ W c d k + dyZ d := by unfold rowZ; push_cast; rw [Int.mul_add, Int.mul_one]; omega
theorem dxy_rng (d : Nat) : (-1 ≤ dxZ d ∧ dxZ d ≤ 1) ∧ (-1 ≤ dyZ d ∧ dyZ d ≤ 1) := by
 unfold dxZ dyZ
 repeat' split
 all_goals omega
theorem colrow_rng {W H c : Int} {d k : Nat} (hd : d < 8) (hW : 1 ≤ W ∧ W ≤ 24) (hH : 1 ≤ H ∧ H ≤ 24) (hc : 0 ≤ c ∧ c < W * H) (hk : k ≤ lenZ W H c d) : (-1 ≤ colZ W c d k ∧ colZ W c d k ≤ 24) ∧ (-1 ≤ rowZ W c d k ∧ rowZ W c d k ≤ 24) := by
 have m1 : 0 ≤ c % W := Int.emod_nonneg _ (by omega)
 have m2 : c % W < W := Int.emod_lt_of_pos _ (by omega)
 have d1 : 0 ≤ c / W := Int.ediv_nonneg hc.1 (by omega)
 have d2 : c / W < H := Int.ediv_lt_of_lt_mul (by omega) (by rw [Int.mul_comm]; exact hc.2)
 unfold lenZ colZ rowZ at *
 generalize c % W = x at *
 generalize c / W = y at *
 rcases dir_cases hd with rfl | rfl | rfl | rfl | rfl | rfl | rfl | rfl <;> simp [dxZ, dyZ, roomZ] at hk ⊢ <;> omega
theorem line_take {W H c : Int} {d k : Nat} (hk : k < lenZ W H c d) : (lineZ W H c d).take (k + 1) = (lineZ W H c d).take k ++ [rowZ W c d k * W + colZ W c d k] := by
 have h : k < (lineZ W H c d).length := by rw [lineZ_length]; exact hk
 rw [List.take_succ_eq_append_getElem h, lineZ_get]
theorem int_info4 : (Tryd.prog.info? 3).map (fun i => (i.zero, i.size, i.bytes)) = some (some (.int .i64 0), 1, 8) := by kernel_rfl
set_option maxRecDepth 100000 in
set_option maxHeartbeats 4000000 in
theorem rline_any (WW HH SS : Int) (ss : List (Int × Int)) (A : Option Addr) (c : Nat) (cell : Int) (d : Nat) (w : World) (hd : d < 8) (hW : 1 ≤ WW ∧ WW ≤ 24) (hH : 1 ≤ HH ∧ HH ≤ 24) (hc : 0 ≤ cell ∧ cell < WW * HH) :
 Calls Tryd.prog 108 #[.agg #[.int .i64 (WW), .int .i64 (HH), .int .i64 (SS), .slice A ss.length c], .int .i64 cell, .int .i64 (d : Int)] w fun e w' => ∃ v, e = .returned v ∧ IntsAt w' w'.heap.size v (lineZ WW HH cell d) ∧ Below w.heap.size w w' := by
 have hd0 : (d : Int) < 8 := by omega
 obtain ⟨DX, hDX⟩ : ∃ z, dxZ d = z := ⟨_, rfl⟩
 obtain ⟨DY, hDY⟩ : ∃ z, dyZ d = z := ⟨_, rfl⟩
 have hxy := dxy_rng d
 rw [hDX, hDY] at hxy
 have HTX : Hid ((#[.int .i64 (1), .int .i64 (1), .int .i64 (0), .int .i64 (-1), .int .i64 (-1), .int .i64 (-1), .int .i64 (0), .int .i64 (1)] : Array Value)[d]? = some (.int .i64 DX)) := by
  show _ = _
  rw [← hDX]
  rcases dir_cases hd with rfl | rfl | rfl | rfl | rfl | rfl | rfl | rfl <;> rfl
 have HTY : Hid ((#[.int .i64 (0), .int .i64 (1), .int .i64 (1), .int .i64 (1), .int .i64 (0), .int .i64 (-1), .int .i64 (-1), .int .i64 (-1)] : Array Value)[d]? = some (.int .i64 DY)) := by
  show _ = _
  rw [← hDY]
  rcases dir_cases hd with rfl | rfl | rfl | rfl | rfl | rfl | rfl | rfl <;> rfl
 obtain ⟨X, hX⟩ : ∃ z, cell % WW = z := ⟨_, rfl⟩
 obtain ⟨Y, hY⟩ : ∃ z, cell / WW = z := ⟨_, rfl⟩
 have bX : 0 ≤ X ∧ X < 24 := by rw [← hX]; exact ⟨Int.emod_nonneg _ (by omega), by have := Int.emod_lt_of_pos cell (show 0 < WW by omega); omega⟩
 have bY : 0 ≤ Y ∧ Y < 24 := by rw [← hY]; exact ⟨Int.ediv_nonneg hc.1 (by omega), by have := Int.ediv_lt_of_lt_mul (show 0 < WW by omega) (show cell < HH * WW by rw [Int.mul_comm]; omega); omega⟩
 have tX : cell.tmod WW = X := by rw [Int.tmod_eq_emod_of_nonneg hc.1, hX]
 have tY : cell.tdiv WW = Y := by rw [Int.tdiv_eq_ediv_of_nonneg hc.1, hY]
 have hW0 : ¬ WW = 0 := by omega
 have hW1 : ¬ WW = -1 := by omega
 have wX : IntKind.i64.wrap (X + DX) = X + DX := IntWalk.i64_in _ (by omega)
 have wY : IntKind.i64.wrap (Y + DY) = Y + DY := IntWalk.i64_in _ (by omega)
 have wY0 : IntKind.i64.wrap Y = Y := IntWalk.i64_in _ (by omega)
 have HC0 : Hid (colZ WW cell d 0 = X + DX) := by show _ = _; unfold colZ; rw [hX, hDX]; simp
 have HR0 : Hid (rowZ WW cell d 0 = Y + DY) := by show _ = _; unfold rowZ; rw [hY, hDY]; simp
 have HSX : Hid (∀ k, colZ WW cell d (k + 1) = colZ WW cell d k + DX) := fun k => by rw [← hDX]; exact col_step WW cell d k
 have HSY : Hid (∀ k, rowZ WW cell d (k + 1) = rowZ WW cell d k + DY) := fun k => by rw [← hDY]; exact row_step WW cell d k
 have HLI : Hid (∀ k, k ≤ lenZ WW HH cell d → (k < lenZ WW HH cell d ↔ (0 ≤ colZ WW cell d k ∧ colZ WW cell d k ≤ WW - 1) ∧ (0 ≤ rowZ WW cell d k ∧ rowZ WW cell d k ≤ HH - 1))) := fun k hk => line_in hd hW hH hc k hk
 have HRG : Hid (∀ k, k ≤ lenZ WW HH cell d → (-1 ≤ colZ WW cell d k ∧ colZ WW cell d k ≤ 24) ∧ (-1 ≤ rowZ WW cell d k ∧ rowZ WW cell d k ≤ 24)) := fun k hk => colrow_rng hd hW hH hc hk
 have hlen := len_lt hd hW hH hc
 obtain ⟨i0, hi0, hz0, hz1, hz2⟩ := info_parts int_info4
 clear hDX hDY hX hY
 go_enter Tryd.func108, Tryd.ntmps108
 go_upto_region 4 with (fail)
 obtain ⟨Va1, hV⟩ : ∃ V, ((w.alloc (.cells #[.int .i64 (WW), .int .i64 (HH), .int .i64 (SS), .slice A ss.length c] 24)).alloc (.cells #[.int .i64 (1), .int .i64 (1), .int .i64 (0), .int .i64 (-1), .int .i64 (-1), .int .i64 (-1), .int .i64 (0), .int .i64 (1)] 3)).alloc (.cells #[.int .i64 (0), .int .i64 (1), .int .i64 (1), .int .i64 (1), .int .i64 (0), .int .i64 (-1), .int .i64 (-1), .int .i64 (-1)] 3) = V := ⟨_, rfl⟩
 have Kb3 : Hid (Blk Va1 (w.heap.size) 24 #[.int .i64 (WW), .int .i64 (HH), .int .i64 (SS), .slice A ss.length c]) := by rw [← hV]; exact ((Blk.new' _ _ _ (by simp)).alloc _).alloc _
 have Kbx : Hid (Blk Va1 (w.heap.size + 1) 3 #[.int .i64 (1), .int .i64 (1), .int .i64 (0), .int .i64 (-1), .int .i64 (-1), .int .i64 (-1), .int .i64 (0), .int .i64 (1)]) := by rw [← hV]; exact (Blk.new' _ _ _ (by simp)).alloc _
 have Kbz : Hid (Blk Va1 (w.heap.size + 1 + 1) 3 #[.int .i64 (0), .int .i64 (1), .int .i64 (1), .int .i64 (1), .int .i64 (0), .int .i64 (-1), .int .i64 (-1), .int .i64 (-1)]) := by rw [← hV]; exact Blk.new' _ _ _ (by simp)
 have GHB : Hid (Below w.heap.size w Va1) := by rw [← hV]; exact (by repeat (first | exact Below.refl _ _ | assumption | refine Below.drew ?_ | refine Below.drewN' ?_ _ | (refine Below.alloc ?_ (by simp <;> omega) _) | (refine Below.setCell ?_ (by simp <;> omega) _)))
 have HZ : Hid (Below w.heap.size w Va1) := GHB
 rw [hV]
 clear hV HZ
 have HB := GHB
 clear GHB
 obtain ⟨bz, hqbz⟩ : ∃ b, w.heap.size + 1 + 1 = b := ⟨_, rfl⟩
 obtain ⟨bx, hqbx⟩ : ∃ b, w.heap.size + 1 = b := ⟨_, rfl⟩
 obtain ⟨b3, hqb3⟩ : ∃ b, w.heap.size = b := ⟨_, rfl⟩
 have gb3 : w.heap.size ≤ b3 := by omega
 have gbx : w.heap.size ≤ bx := by omega
 have nbxb3 : ¬ bx = b3 := by omega
 have nb3bx : ¬ b3 = bx := by omega
 have gbz : w.heap.size ≤ bz := by omega
 have nbzb3 : ¬ bz = b3 := by omega
 have nb3bz : ¬ b3 = bz := by omega
 have nbzbx : ¬ bz = bx := by omega
 have nbxbz : ¬ bx = bz := by omega
 rw [hqbz] at Kbz ⊢
 clear hqbz
 rw [hqbx] at Kbx ⊢
 clear hqbx
 have HN : Hid (w.heap.size = b3) := hqb3
 rw [hqb3] at Kb3 ⊢
 clear hqb3
 have Hb3 := Kb3
 clear Kb3
 have Hbx := Kbx
 clear Kbx
 have Hbz := Kbz
 clear Kbz
 --@A
 have HSV : Hid (∀ U, Below Va1.heap.size Va1 U → U.cell? ⟨b3, 0, none⟩ = some (.int .i64 (WW)) ∧ U.cell? ⟨b3, 1, none⟩ = some (.int .i64 (HH)) ∧ U.cell? ⟨b3, 2, none⟩ = some (.int .i64 (SS)) ∧ U.cell? ⟨b3, 3, none⟩ = some (.slice A ss.length c) ∧ U.cell? ⟨bx, d, none⟩ = some (.int .i64 (DX)) ∧ U.cell? ⟨bz, d, none⟩ = some (.int .i64 (DY))) := fun U hU => by
  have kx := Hbx.out.below hU Hbx.out.lt
  have ky := Hbz.out.below hU Hbz.out.lt
  have kb3 := Hb3.out.below hU Hb3.out.lt
  exact ⟨kb3.cell 0, kb3.cell 1, kb3.cell 2, kb3.cell 3, (kx.cell d).trans HTX.out, (ky.cell d).trans HTY.out⟩
 have k0 := HSV.out _ (Below.drew (Below.refl Va1.heap.size Va1))
 refine wp_region_noPanic ?_
 refine wp_region_held_drew (S := (fun w' => w'.cell? ⟨b3, 0, none⟩ = some (.int .i64 (WW)) ∧ w'.cell? ⟨b3, 1, none⟩ = some (.int .i64 (HH)) ∧ w'.cell? ⟨b3, 2, none⟩ = some (.int .i64 (SS)) ∧ w'.cell? ⟨b3, 3, none⟩ = some (.slice A ss.length c) ∧ w'.cell? ⟨bx, d, none⟩ = some (.int .i64 (DX)) ∧ w'.cell? ⟨bz, d, none⟩ = some (.int .i64 (DY)))) (by kernel_rfl) ?_ (fun hHeld => ?_)
 · (try dsimp only); (exact k0)
 refine tH 0 Z95 ?_ ?_ ?_
 rotate_left
 · ((intro w hSw; delta Z95; (try dsimp only at hSw); go_simp) <;> with_reducible rfl)
 try simp only [Z95, ksz]
 refine tH 1 Z96 ?_ ?_ ?_
 rotate_left
 · ((intro w hSw; delta Z96; (try dsimp only at hSw); go_simp) <;> with_reducible rfl)
 try simp only [Z96, ksz]
 refine tH 4 Z99 ?_ ?_ ?_
 rotate_left
 · ((intro w hSw; delta Z99; (try dsimp only at hSw); go_simp) <;> with_reducible rfl)
 try simp only [Z99, ksz]
 refine tH 5 Z9a ?_ ?_ ?_
 rotate_left
 · ((intro w hSw; delta Z9a; (try dsimp only at hSw); go_simp) <;> with_reducible rfl)
 try simp only [Z9a, ksz]
 refine tH 9 Z9e ?_ ?_ ?_
 rotate_left
 · ((intro w hSw; delta Z9e; (try dsimp only at hSw); go_simp) <;> with_reducible rfl)
 try simp only [Z9e, ksz]
 refine tH 10 Z9f ?_ ?_ ?_
 rotate_left
 · ((intro w hSw; delta Z9f; (try dsimp only at hSw); go_simp) <;> with_reducible rfl)
 try simp only [Z9f, ksz]
 refine tH 13 Z9i ?_ ?_ ?_
 rotate_left
 · ((intro w hSw; delta Z9i; (try dsimp only at hSw); go_simp) <;> with_reducible rfl)
 try simp only [Z9i, ksz]
 refine tH 14 Z9j ?_ ?_ ?_
 rotate_left
 · ((intro w hSw; delta Z9j; (try dsimp only at hSw); go_simp) <;> with_reducible rfl)
 try simp only [Z9j, ksz]
 refine tH 2 Z97 ?_ ?_ ?_
 rotate_left
 · ((intro w hSw; delta Z97; (try dsimp only at hSw); go_simp) <;> with_reducible rfl)
 try simp only [Z97, ksz]
 refine tH 6 Z9b ?_ ?_ ?_
 rotate_left
 · ((intro w hSw; delta Z9b; (try dsimp only at hSw); go_simp) <;> with_reducible rfl)
 try simp only [Z9b, ksz]
 refine tH 11 Z9g ?_ ?_ ?_
 rotate_left
 · ((intro w hSw; delta Z9g; (try dsimp only at hSw); go_simp) <;> with_reducible rfl)
 try simp only [Z9g, ksz]
 refine tH 15 Z9k ?_ ?_ ?_
 rotate_left
 · ((intro w hSw; delta Z9k; (try dsimp only at hSw); go_simp) <;> with_reducible rfl)
 try simp only [Z9k, ksz]
 refine tH 3 Z98 ?_ ?_ ?_
 rotate_left
 · ((intro w hSw; delta Z98; (try dsimp only at hSw); go_simp) <;> with_reducible rfl)
 try simp only [Z98, ksz]
 refine tH 7 Z9c ?_ ?_ ?_
 rotate_left
 · ((intro w hSw; delta Z9c; (try dsimp only at hSw); go_simp) <;> with_reducible rfl)
 try simp only [Z9c, ksz]
 refine tH 12 Z9h ?_ ?_ ?_
 rotate_left
 · ((intro w hSw; delta Z9h; (try dsimp only at hSw); go_simp) <;> with_reducible rfl)
 try simp only [Z9h, ksz]
 refine tH 16 Z9l ?_ ?_ ?_
 rotate_left
 · ((intro w hSw; delta Z9l; (try dsimp only at hSw); go_simp) <;> with_reducible rfl)
 try simp only [Z9l, ksz]
 refine tH 8 Z9d ?_ ?_ ?_
 rotate_left
 · ((intro w hSw; delta Z9d; (try dsimp only at hSw); go_simp) <;> with_reducible rfl)
 try simp only [Z9d, ksz]
 refine tH 17 Z9m ?_ ?_ ?_
 rotate_left
 · ((intro w hSw; delta Z9m; (try dsimp only at hSw); go_simp) <;> with_reducible rfl)
 try simp only [Z9m, ksz]
 refine tH 18 Z9n ?_ ?_ ?_
 rotate_left
 · ((intro w hSw; delta Z9n; (try dsimp only at hSw); go_simp) <;> with_reducible rfl)
 try simp only [Z9n, ksz]
 refine tH 19 Z9o ?_ ?_ ?_
 rotate_left
 · ((intro w hSw; delta Z9o; (try dsimp only at hSw); go_simp) <;> with_reducible rfl)
 try simp only [Z9o, ksz]
 obtain ⟨W0, hW0⟩ : ∃ V, Va1.drew = V := ⟨_, rfl⟩; rw [hW0] at hHeld ⊢; have HB0 : Hid (Below Va1.heap.size Va1 W0) := (by rw [← hW0]; exact Below.drew (Below.refl _ _)); clear hW0
 refine wpAnyH_done (by kernel_rfl) ?_ _
 refine NoPanic.normal ?_
 clear HSV k0
 clear hHeld
 obtain ⟨Va2, hVU⟩ : ∃ V, W0 = V := ⟨_, rfl⟩
 rw [hVU] at HB0 ⊢
 have HZ := HB0
 clear HB0 hVU
 replace Hb3 := kbl Hb3 HZ
 replace Hbx := kbl Hbx HZ
 replace Hbz := kbl Hbz HZ
 replace HB := ktr' HB HZ
 clear HZ
 --@B
 have lb := HB.out.size
 have Ob3 := Hb3
 have Obx := Hbx
 have Obz := Hbz
 have OB := HB
 go_wp2_with fail
 go_loopw [9, 10, 11] (fun sv xv yv wr => ∃ (k : Nat) (va : Value), va = sv ∧ k ≤ lenZ WW HH cell d ∧ xv = .int .i64 (colZ WW cell d k) ∧ yv = .int .i64 (rowZ WW cell d k) ∧ Hid (wr.ownsRow Va2.heap.size 3 1 va k (((lineZ WW HH cell d).take k).map (Value.int .i64))) ∧ Hid (Below Va2.heap.size Va2 wr)) (fun sv _ _ _ => 100 - lenOf sv)
 case atStart => exact ⟨0, _, rfl, Nat.zero_le _, by rw [HC0.out], by rw [HR0.out], World.ownsRow_nil _ _ _ _, Below.refl _ _⟩
 case round =>
  obtain ⟨k, va, rfl, hk, rfl, rfl, HO, HBV⟩ := hrel
  have hri := HRG.out k hk
  have hli := HLI.out k hk
  have hlo := own_len HO.out
  obtain ⟨x, hx⟩ : ∃ z, colZ WW cell d k = z := ⟨_, rfl⟩
  obtain ⟨y, hy⟩ : ∃ z, rowZ WW cell d k = z := ⟨_, rfl⟩
  have sx := HSX.out k
  have sy := HSY.out k
  rw [hx, hy] at hri hli
  rw [hx] at sx ⊢
  rw [hy] at sy ⊢
  have HSX1 := Lib.hid sx
  have HSY1 := Lib.hid sy
  have HX := Lib.hid hx
  have HY := Lib.hid hy
  have HLO := Lib.hid hlo
  have Kb3 := Lib.hid (Hb3.out.below HBV.out Hb3.out.lt)
  have Kbx := Lib.hid (Hbx.out.below HBV.out Hbx.out.lt)
  have Kbz := Lib.hid (Hbz.out.below HBV.out Hbz.out.lt)
  have KB := Lib.hid (HB.out.trans (HBV.out.mono HB.out.size))
  have w1 : IntKind.i64.wrap (WW - 1) = WW - 1 := IntWalk.i64_in _ (by omega)
  have w2 : IntKind.i64.wrap (HH - 1) = HH - 1 := IntWalk.i64_in _ (by omega)
  clear sx sy hx hy hlo
  clear Hb3 Hbx Hbz HB
  have Hb3 := Kb3
  have Hbx := Kbx
  have Hbz := Kbz
  have HB := KB
  clear Kb3 Kbx Kbz KB
  by_cases hlt : k < lenZ WW HH cell d
  ·
   obtain ⟨⟨l1, l2⟩, l3, l4⟩ := hli.1 hlt
   have h1 : decide (0 ≤ x ∧ x ≤ WW - 1) = true := decide_eq_true ⟨l1, l2⟩
   have h2 : decide (0 ≤ y ∧ y ≤ HH - 1) = true := decide_eq_true ⟨l3, l4⟩
   have H1 := Lib.hid h1
   have H2 := Lib.hid h2
   have hyw : 0 ≤ y * WW ∧ y * WW ≤ 24 * 24 := ⟨Int.mul_nonneg l3 (by omega), Int.mul_le_mul (by omega) hW.2 (by omega) (by omega)⟩
   have w3 : IntKind.i64.wrap (y * WW) = y * WW := IntWalk.i64_in _ (by omega)
   have w4 : IntKind.i64.wrap (y * WW + x) = y * WW + x := IntWalk.i64_in _ (by omega)
   have w5 : IntKind.i64.wrap (x + DX) = x + DX := IntWalk.i64_in _ (by omega)
   have w6 : IntKind.i64.wrap (y + DY) = y + DY := IntWalk.i64_in _ (by omega)
   have lvv := HBV.out.size
   clear h1 h2 hli
   have cb30 := kcl0 Hb3
   have cb31 := kcl1 Hb3
   have cb32 := kcl2 Hb3
   have cb33 := kcl3 Hb3
   go_wp2_with fail
   refine (rin_of H1.out _).mono ?_
   rintro e Va61 ⟨rfl, hb⟩
   have HZ := Lib.hid hb
   clear hb
   clear cb30 cb31 cb32 cb33
   replace Hb3 := kbl Hb3 HZ
   replace Hbx := kbl Hbx HZ
   replace Hbz := kbl Hbz HZ
   replace HB := ktr' HB HZ
   replace HO := Lib.hid (own_below HO.out HZ.out (Nat.le_refl _))
   replace HBV := ktr' HBV HZ
   clear HZ
   have cb30 := kcl0 Hb3
   have cb31 := kcl1 Hb3
   have cb32 := kcl2 Hb3
   have cb33 := kcl3 Hb3
   go_wp2_with fail
   refine (rin_of H2.out _).mono ?_
   rintro e Va62 ⟨rfl, hb⟩
   have HZ := Lib.hid hb
   clear hb
   clear cb30 cb31 cb32 cb33
   replace Hb3 := kbl Hb3 HZ
   replace Hbx := kbl Hbx HZ
   replace Hbz := kbl Hbz HZ
   replace HB := ktr' HB HZ
   replace HO := Lib.hid (own_below HO.out HZ.out (Nat.le_refl _))
   replace HBV := ktr' HBV HZ
   clear HZ
   have cb30 := kcl0 Hb3
   have cb31 := kcl1 Hb3
   have cb32 := kcl2 Hb3
   have cb33 := kcl3 Hb3
   have lvw := HBV.out.size
   go_wp2_with (at_builtin; ((refine wpList_append_own_at _ rfl (.tmp 44) (.tmp 51) 34 rfl Va2.heap.size 3 i0 (.int .i64 0) 1 8 Tryd.underlying34 hi0 hz0 hz1 hz2 rfl (by decide) va k _ rfl (HO.out.alloc _) ⟨Va62.heap.size, 0, none⟩ 1 1 [.int .i64 (y * WW + x)] rfl rfl (cell_one_new _ _ _) (by simp [Value.oneCell']) (by unfold maxLen; omega) (by omega) (by simp <;> omega) ?_; intro v1 w8 hown1 hg1 _ _; have HO8 := Lib.hid hown1; have HB8 := Lib.hid (below_grown (HBV.out.alloc HBV.out.size _) hg1 (fun k e => (HO.out.lt k e).1) (Nat.le_refl _)); clear hown1 hg1)))
   --@C
   clear cb30 cb31 cb32 cb33
   have Lb3 := Lib.hid (Ob3.out.below HB8.out Ob3.out.lt)
   have Lbx := Lib.hid (Obx.out.below HB8.out Obx.out.lt)
   have Lbz := Lib.hid (Obz.out.below HB8.out Obz.out.lt)
   have LB := Lib.hid (OB.out.trans (HB8.out.mono OB.out.size))
   clear Hb3 Hbx Hbz HB HO HBV
   have Hb3 := Lb3
   have Hbx := Lbx
   have Hbz := Lbz
   have HB := LB
   clear Lb3 Lbx Lbz LB
   go_upto_region 7 with (fail)
   have HSV : Hid (∀ U, Below w8.heap.size w8 U → U.cell? ⟨b3, 0, none⟩ = some (.int .i64 (WW)) ∧ U.cell? ⟨b3, 1, none⟩ = some (.int .i64 (HH)) ∧ U.cell? ⟨b3, 2, none⟩ = some (.int .i64 (SS)) ∧ U.cell? ⟨b3, 3, none⟩ = some (.slice A ss.length c) ∧ U.cell? ⟨bx, d, none⟩ = some (.int .i64 (DX)) ∧ U.cell? ⟨bz, d, none⟩ = some (.int .i64 (DY))) := fun U hU => by
    have kx := Hbx.out.below hU Hbx.out.lt
    have ky := Hbz.out.below hU Hbz.out.lt
    have kb3 := Hb3.out.below hU Hb3.out.lt
    exact ⟨kb3.cell 0, kb3.cell 1, kb3.cell 2, kb3.cell 3, (kx.cell d).trans HTX.out, (ky.cell d).trans HTY.out⟩
   have k0 := HSV.out _ (Below.drew (Below.refl w8.heap.size w8))
   refine wp_region_noPanic ?_
   refine wp_region_held_drew (S := (fun w' => w'.cell? ⟨b3, 0, none⟩ = some (.int .i64 (WW)) ∧ w'.cell? ⟨b3, 1, none⟩ = some (.int .i64 (HH)) ∧ w'.cell? ⟨b3, 2, none⟩ = some (.int .i64 (SS)) ∧ w'.cell? ⟨b3, 3, none⟩ = some (.slice A ss.length c) ∧ w'.cell? ⟨bx, d, none⟩ = some (.int .i64 (DX)) ∧ w'.cell? ⟨bz, d, none⟩ = some (.int .i64 (DY)))) (by kernel_rfl) ?_ (fun hHeld => ?_)
   · (try dsimp only); (exact k0)
   refine tH 0 Z9p ?_ ?_ ?_
   rotate_left
   · ((intro w hSw; delta Z9p; (try dsimp only at hSw); go_simp) <;> with_reducible rfl)
   try simp only [Z9p, ksz]
   refine tH 1 Z9q ?_ ?_ ?_
   rotate_left
   · ((intro w hSw; delta Z9q; (try dsimp only at hSw); go_simp) <;> with_reducible rfl)
   try simp only [Z9q, ksz]
   refine tH 2 Z9r ?_ ?_ ?_
   rotate_left
   · ((intro w hSw; delta Z9r; (try dsimp only at hSw); go_simp) <;> with_reducible rfl)
   try simp only [Z9r, ksz]
   refine tH 6 Z9v ?_ ?_ ?_
   rotate_left
   · ((intro w hSw; delta Z9v; (try dsimp only at hSw); go_simp) <;> with_reducible rfl)
   try simp only [Z9v, ksz]
   refine tH 7 Z9w ?_ ?_ ?_
   rotate_left
   · ((intro w hSw; delta Z9w; (try dsimp only at hSw); go_simp) <;> with_reducible rfl)
   try simp only [Z9w, ksz]
   refine tH 8 Z9x ?_ ?_ ?_
   rotate_left
   · ((intro w hSw; delta Z9x; (try dsimp only at hSw); go_simp) <;> with_reducible rfl)
   try simp only [Z9x, ksz]
   refine tH 3 Z9s ?_ ?_ ?_
   rotate_left
   · ((intro w hSw; delta Z9s; (try dsimp only at hSw); go_simp) <;> with_reducible rfl)
   try simp only [Z9s, ksz]
   refine tH 9 Z9y ?_ ?_ ?_
   rotate_left
   · ((intro w hSw; delta Z9y; (try dsimp only at hSw); go_simp) <;> with_reducible rfl)
   try simp only [Z9y, ksz]
   refine tH 4 Z9t ?_ ?_ ?_
   rotate_left
   · ((intro w hSw; delta Z9t; (try dsimp only at hSw); go_simp) <;> with_reducible rfl)
   try simp only [Z9t, ksz]
   refine tH 10 Z9z ?_ ?_ ?_
   rotate_left
   · ((intro w hSw; delta Z9z; (try dsimp only at hSw); go_simp) <;> with_reducible rfl)
   try simp only [Z9z, ksz]
   refine tH 5 Z9u ?_ ?_ ?_
   rotate_left
   · ((intro w hSw; delta Z9u; (try dsimp only at hSw); go_simp) <;> with_reducible rfl)
   try simp only [Z9u, ksz]
   refine tH 11 Za0 ?_ ?_ ?_
   rotate_left
   · ((intro w hSw; delta Za0; (try dsimp only at hSw); go_simp) <;> with_reducible rfl)
   try simp only [Za0, ksz]
   refine tH 12 Za1 ?_ ?_ ?_
   rotate_left
   · ((intro w hSw; delta Za1; (try dsimp only at hSw); go_simp) <;> with_reducible rfl)
   try simp only [Za1, ksz]
   refine tH 13 Za2 ?_ ?_ ?_
   rotate_left
   · ((intro w hSw; delta Za2; (try dsimp only at hSw); go_simp) <;> with_reducible rfl)
   try simp only [Za2, ksz]
   obtain ⟨W0, hW0⟩ : ∃ V, w8.drew = V := ⟨_, rfl⟩; rw [hW0] at hHeld ⊢; have HB0 : Hid (Below w8.heap.size w8 W0) := (by rw [← hW0]; exact Below.drew (Below.refl _ _)); clear hW0
   refine wpAnyH_done (by kernel_rfl) ?_ _
   refine NoPanic.normal ?_
   clear HSV k0
   clear hHeld
   obtain ⟨Va63, hVU⟩ : ∃ V, W0 = V := ⟨_, rfl⟩
   rw [hVU] at HB0 ⊢
   have HZ := HB0
   clear HB0 hVU
   replace Hb3 := kbl Hb3 HZ
   replace Hbx := kbl Hbx HZ
   replace Hbz := kbl Hbz HZ
   replace HB := ktr' HB HZ
   replace HO8 := Lib.hid (own_below HO8.out HZ.out (Nat.le_refl _))
   replace HB8 := ktr' HB8 HZ
   clear HZ
   go_wp2
   go_roundw
   case rel => exact ⟨k + 1, _, rfl, by omega, by rw [HSX1.out], by rw [HSY1.out], by rw [line_take hlt, List.map_append, HX.out, HY.out]; exact HO8.out, HB8⟩
   case measure => rw [own_len HO8.out, HLO.out]; omega
  ·
   have hke : k = lenZ WW HH cell d := by omega
   have hno : ¬ ((0 ≤ x ∧ x ≤ WW - 1) ∧ (0 ≤ y ∧ y ≤ HH - 1)) := fun h => hlt (hli.2 h)
   have HKE := Lib.hid hke
   clear hke hli hlt
   by_cases h1 : 0 ≤ x ∧ x ≤ WW - 1
   rotate_left
   ·
    have H1 := Lib.hid (decide_eq_false h1)
    clear h1 hno
    have cb30 := kcl0 Hb3
    have cb31 := kcl1 Hb3
    have cb32 := kcl2 Hb3
    have cb33 := kcl3 Hb3
    go_wp2_with fail
    refine (rin_of H1.out _).mono ?_
    rintro e Va91 ⟨rfl, hb⟩
    have HZ := Lib.hid hb
    clear hb
    clear cb30 cb31 cb32 cb33
    replace Hb3 := kbl Hb3 HZ
    replace Hbx := kbl Hbx HZ
    replace Hbz := kbl Hbz HZ
    replace HB := ktr' HB HZ
    replace HO := Lib.hid (own_below HO.out HZ.out (Nat.le_refl _))
    clear HZ
    go_wp2
    refine bodyPost_ret (v := va) (by simp [results, Tryd.results108, go_sem]) rfl ⟨va, rfl, ?_, HB.out⟩
    have hO := Reads.of_own HO.out
    have e : ((lineZ WW HH cell d).take k) = lineZ WW HH cell d := by rw [List.take_of_length_le]; rw [lineZ_length, HKE.out]; exact Nat.le_refl _
    rw [e] at hO
    show Reads _ _ _ _ _ _
    rw [lineZ_length, ← HKE.out]
    exact hO
   have h2 : ¬ (0 ≤ y ∧ y ≤ HH - 1) := fun h => hno ⟨h1, h⟩
   have H1 := Lib.hid (decide_eq_true h1)
   have H2 := Lib.hid (decide_eq_false h2)
   clear h1 h2 hno
   have cb30 := kcl0 Hb3
   have cb31 := kcl1 Hb3
   have cb32 := kcl2 Hb3
   have cb33 := kcl3 Hb3
   go_wp2_with fail
   refine (rin_of H1.out _).mono ?_
   rintro e Va81 ⟨rfl, hb⟩
   have HZ := Lib.hid hb
   clear hb
   clear cb30 cb31 cb32 cb33
   replace Hb3 := kbl Hb3 HZ
   replace Hbx := kbl Hbx HZ
   replace Hbz := kbl Hbz HZ
   replace HB := ktr' HB HZ
   replace HO := Lib.hid (own_below HO.out HZ.out (Nat.le_refl _))
   clear HZ
   have cb30 := kcl0 Hb3
   have cb31 := kcl1 Hb3
   have cb32 := kcl2 Hb3
   have cb33 := kcl3 Hb3
   go_wp2_with fail
   refine (rin_of H2.out _).mono ?_
   rintro e Va82 ⟨rfl, hb⟩
   have HZ := Lib.hid hb
   clear hb
   clear cb30 cb31 cb32 cb33
   replace Hb3 := kbl Hb3 HZ
   replace Hbx := kbl Hbx HZ
   replace Hbz := kbl Hbz HZ
   replace HB := ktr' HB HZ
   replace HO := Lib.hid (own_below HO.out HZ.out (Nat.le_refl _))
   clear HZ
   go_wp2
   refine bodyPost_ret (v := va) (by simp [results, Tryd.results108, go_sem]) rfl ⟨va, rfl, ?_, HB.out⟩
   have hO := Reads.of_own HO.out
   have e : ((lineZ WW HH cell d).take k) = lineZ WW HH cell d := by rw [List.take_of_length_le]; rw [lineZ_length, HKE.out]; exact Nat.le_refl _
   rw [e] at hO
   show Reads _ _ _ _ _ _
   rw [lineZ_length, ← HKE.out]
   exact hO
end Go.Proofs.YtdhcdgfpkjdihaaDoor.Sg
