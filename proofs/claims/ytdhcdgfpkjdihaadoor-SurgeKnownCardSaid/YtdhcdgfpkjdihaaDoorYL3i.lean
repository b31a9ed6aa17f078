/-
  Layer 3, the laws: SurgeKnown.
-/
import Derived.Test.YtdhcdgfpkjdihaaDoorYL3h
set_option linter.unusedSimpArgs false
set_option linter.unusedVariables false
namespace Go.Proofs.YtdhcdgfpkjdihaaDoor.Sg
open Go.RowKit Go.Shelf
def op14_6_0 : Oper := ⟨some 76, .load 24 (.tmp 1), 24, "outright.go:247", #[], none⟩
def op14_6_1 : Oper := ⟨some 77, .load 26 (.tmp 3), 26, "outright.go:247", #[], none⟩
def op14_6_2 : Oper := ⟨some 78, .load 28 (.tmp 2), 28, "outright.go:247", #[], none⟩
def op14_6_3 : Oper := ⟨some 79, .call { callee := Callee.value (.func 47), args := #[.const (Value.int IntKind.i64 2000)], argTypes := #[3] }, 26, "outright.go:247", #[], none⟩
def op14_6_4 : Oper := ⟨some 80, .call { callee := Callee.value (.func 25), args := #[.tmp 76, .tmp 77, .tmp 78, .const (Value.int IntKind.i64 2), .const (Value.int IntKind.i64 0), .tmp 79], argTypes := #[24, 26, 28, 3, 3, 26] }, 47, "outright.go:247", #[⟨0, .data⟩, ⟨1, .data⟩, ⟨2, .data⟩, ⟨3, .data⟩, ⟨3, .chain⟩], none⟩
def op14_6_5 : Oper := ⟨some 75, .move (.tmp 80), 47, "outright.go:247", #[⟨4, .data⟩], none⟩
def op14_6_6 : Oper := ⟨some 81, .extract (.tmp 75) 0, 26, "outright.go:247", #[⟨5, .data⟩], none⟩
def op14_6_7 : Oper := ⟨some 82, .extract (.tmp 75) 1, 35, "outright.go:247", #[⟨5, .data⟩, ⟨9, .gcOnly .lateStores⟩], none⟩
def op14_6_8 : Oper := ⟨some 10, .alloc 26, 0, "outright.go:247", #[], none⟩
def op14_6_9 : Oper := ⟨none, .store 26 (.tmp 10) (.tmp 81), 0, "outright.go:247", #[⟨8, .data⟩, ⟨6, .data⟩, ⟨4, .chain⟩, ⟨0, .phase⟩, ⟨1, .phase⟩, ⟨2, .phase⟩, ⟨3, .phase⟩, ⟨4, .phase⟩, ⟨5, .phase⟩, ⟨6, .phase⟩, ⟨7, .textOnly .lateStores⟩, ⟨8, .phase⟩], none⟩
def op14_6_10 : Oper := ⟨some 6, .assign (.tmp 82), 35, "outright.go:247", #[⟨7, .data⟩, ⟨9, .chain⟩, ⟨0, .phase⟩, ⟨1, .phase⟩, ⟨2, .phase⟩, ⟨3, .phase⟩, ⟨4, .phase⟩, ⟨5, .phase⟩, ⟨6, .phase⟩, ⟨7, .phase⟩, ⟨8, .phase⟩, ⟨9, .phase⟩], none⟩
def op14_7_0 : Oper := ⟨some 84, .load 24 (.tmp 1), 24, "outright.go:248", #[], none⟩
def op14_7_1 : Oper := ⟨some 85, .load 26 (.tmp 3), 26, "outright.go:248", #[], none⟩
def op14_7_2 : Oper := ⟨some 86, .load 28 (.tmp 2), 28, "outright.go:248", #[], none⟩
def op14_7_3 : Oper := ⟨some 87, .call { callee := Callee.value (.func 47), args := #[.const (Value.int IntKind.i64 2000)], argTypes := #[3] }, 26, "outright.go:248", #[], none⟩
def op14_7_4 : Oper := ⟨some 88, .call { callee := Callee.value (.func 25), args := #[.tmp 84, .tmp 85, .tmp 86, .const (Value.int IntKind.i64 3), .const (Value.int IntKind.i64 0), .tmp 87], argTypes := #[24, 26, 28, 3, 3, 26] }, 47, "outright.go:248", #[⟨0, .data⟩, ⟨1, .data⟩, ⟨2, .data⟩, ⟨3, .data⟩, ⟨3, .chain⟩], none⟩
def op14_7_5 : Oper := ⟨some 83, .move (.tmp 88), 47, "outright.go:248", #[⟨4, .data⟩], none⟩
def op14_7_6 : Oper := ⟨some 89, .extract (.tmp 83) 0, 26, "outright.go:248", #[⟨5, .data⟩], none⟩
def op14_7_7 : Oper := ⟨some 90, .extract (.tmp 83) 1, 35, "outright.go:248", #[⟨5, .data⟩, ⟨9, .gcOnly .lateStores⟩], none⟩
def op14_7_8 : Oper := ⟨some 11, .alloc 26, 0, "outright.go:248", #[], none⟩
def op14_7_9 : Oper := ⟨none, .store 26 (.tmp 11) (.tmp 89), 0, "outright.go:248", #[⟨8, .data⟩, ⟨6, .data⟩, ⟨4, .chain⟩, ⟨0, .phase⟩, ⟨1, .phase⟩, ⟨2, .phase⟩, ⟨3, .phase⟩, ⟨4, .phase⟩, ⟨5, .phase⟩, ⟨6, .phase⟩, ⟨7, .textOnly .lateStores⟩, ⟨8, .phase⟩], none⟩
def op14_7_10 : Oper := ⟨some 9, .assign (.tmp 90), 35, "outright.go:248", #[⟨7, .data⟩, ⟨9, .chain⟩, ⟨0, .phase⟩, ⟨1, .phase⟩, ⟨2, .phase⟩, ⟨3, .phase⟩, ⟨4, .phase⟩, ⟨5, .phase⟩, ⟨6, .phase⟩, ⟨7, .phase⟩, ⟨8, .phase⟩, ⟨9, .phase⟩], none⟩
def op14_8_0 : Oper := ⟨some 92, .load 24 (.tmp 1), 24, "outright.go:249", #[], none⟩
def op14_8_1 : Oper := ⟨some 93, .load 26 (.tmp 3), 26, "outright.go:249", #[], none⟩
def op14_8_2 : Oper := ⟨some 94, .load 28 (.tmp 2), 28, "outright.go:249", #[], none⟩
def op14_8_3 : Oper := ⟨some 95, .call { callee := Callee.value (.func 53), args := #[.const (Value.int IntKind.i64 1), .const (Value.int IntKind.i64 1000)], argTypes := #[3, 3] }, 32, "outright.go:249", #[], none⟩
def op14_8_4 : Oper := ⟨some 96, .call { callee := Callee.value (.func 27), args := #[.tmp 92, .tmp 93, .tmp 94, .const (Value.int IntKind.i64 2), .tmp 95], argTypes := #[24, 26, 28, 3, 32] }, 47, "outright.go:249", #[⟨0, .data⟩, ⟨1, .data⟩, ⟨2, .data⟩, ⟨3, .data⟩, ⟨3, .chain⟩], none⟩
def op14_8_5 : Oper := ⟨some 91, .move (.tmp 96), 47, "outright.go:249", #[⟨4, .data⟩], none⟩
def op14_8_6 : Oper := ⟨some 97, .extract (.tmp 91) 0, 26, "outright.go:249", #[⟨5, .data⟩], none⟩
def op14_8_7 : Oper := ⟨some 98, .extract (.tmp 91) 1, 35, "outright.go:249", #[⟨5, .data⟩, ⟨9, .gcOnly .lateStores⟩], none⟩
def op14_8_8 : Oper := ⟨some 12, .alloc 26, 0, "outright.go:249", #[], none⟩
def op14_8_9 : Oper := ⟨none, .store 26 (.tmp 12) (.tmp 97), 0, "outright.go:249", #[⟨8, .data⟩, ⟨6, .data⟩, ⟨4, .chain⟩, ⟨0, .phase⟩, ⟨1, .phase⟩, ⟨2, .phase⟩, ⟨3, .phase⟩, ⟨4, .phase⟩, ⟨5, .phase⟩, ⟨6, .phase⟩, ⟨7, .textOnly .lateStores⟩, ⟨8, .phase⟩], none⟩
def op14_8_10 : Oper := ⟨some 13, .assign (.tmp 98), 35, "outright.go:249", #[⟨7, .data⟩, ⟨9, .chain⟩, ⟨0, .phase⟩, ⟨1, .phase⟩, ⟨2, .phase⟩, ⟨3, .phase⟩, ⟨4, .phase⟩, ⟨5, .phase⟩, ⟨6, .phase⟩, ⟨7, .phase⟩, ⟨8, .phase⟩, ⟨9, .phase⟩], none⟩
def op14_9_0 : Oper := ⟨some 100, .load 24 (.tmp 1), 24, "outright.go:250", #[], none⟩
def op14_9_1 : Oper := ⟨some 101, .load 26 (.tmp 3), 26, "outright.go:250", #[], none⟩
def op14_9_2 : Oper := ⟨some 102, .load 28 (.tmp 2), 28, "outright.go:250", #[], none⟩
def op14_9_3 : Oper := ⟨some 103, .call { callee := Callee.value (.func 53), args := #[.const (Value.int IntKind.i64 17), .const (Value.int IntKind.i64 0)], argTypes := #[3, 3] }, 32, "outright.go:250", #[], none⟩
def op14_9_4 : Oper := ⟨some 104, .call { callee := Callee.value (.func 27), args := #[.tmp 100, .tmp 101, .tmp 102, .const (Value.int IntKind.i64 2), .tmp 103], argTypes := #[24, 26, 28, 3, 32] }, 47, "outright.go:250", #[⟨0, .data⟩, ⟨1, .data⟩, ⟨2, .data⟩, ⟨3, .data⟩, ⟨3, .chain⟩], none⟩
def op14_9_5 : Oper := ⟨some 99, .move (.tmp 104), 47, "outright.go:250", #[⟨4, .data⟩], none⟩
def op14_9_6 : Oper := ⟨some 105, .extract (.tmp 99) 0, 26, "outright.go:250", #[⟨5, .data⟩], none⟩
def op14_9_7 : Oper := ⟨some 106, .extract (.tmp 99) 1, 35, "outright.go:250", #[⟨5, .data⟩, ⟨9, .gcOnly .lateStores⟩], none⟩
def op14_9_8 : Oper := ⟨some 14, .alloc 26, 0, "outright.go:250", #[], none⟩
def op14_9_9 : Oper := ⟨none, .store 26 (.tmp 14) (.tmp 105), 0, "outright.go:250", #[⟨8, .data⟩, ⟨6, .data⟩, ⟨4, .chain⟩, ⟨0, .phase⟩, ⟨1, .phase⟩, ⟨2, .phase⟩, ⟨3, .phase⟩, ⟨4, .phase⟩, ⟨5, .phase⟩, ⟨6, .phase⟩, ⟨7, .textOnly .lateStores⟩, ⟨8, .phase⟩], none⟩
def op14_9_10 : Oper := ⟨some 15, .assign (.tmp 106), 35, "outright.go:250", #[⟨7, .data⟩, ⟨9, .chain⟩, ⟨0, .phase⟩, ⟨1, .phase⟩, ⟨2, .phase⟩, ⟨3, .phase⟩, ⟨4, .phase⟩, ⟨5, .phase⟩, ⟨6, .phase⟩, ⟨7, .phase⟩, ⟨8, .phase⟩, ⟨9, .phase⟩], none⟩
def op14_22_0 : Oper := ⟨some 220, .load 26 (.tmp 23), 26, "outright.go:265", #[], none⟩
def op14_22_1 : Oper := ⟨some 221, .call { callee := Callee.value (.func 47), args := #[.const (Value.int IntKind.i64 2)], argTypes := #[3] }, 26, "outright.go:265", #[], none⟩
def op14_22_2 : Oper := ⟨some 222, .call { callee := Callee.value (.func 41), args := #[.tmp 220, .tmp 221], argTypes := #[26, 26] }, 76, "outright.go:265", #[⟨0, .data⟩, ⟨1, .data⟩, ⟨1, .chain⟩], none⟩
def op14_22_3 : Oper := ⟨some 219, .move (.tmp 222), 76, "outright.go:265", #[⟨2, .data⟩], none⟩
def op14_22_4 : Oper := ⟨some 223, .extract (.tmp 219) 0, 3, "outright.go:265", #[⟨3, .data⟩], none⟩
def op14_22_5 : Oper := ⟨some 224, .extract (.tmp 219) 1, 35, "outright.go:265", #[⟨3, .data⟩, ⟨6, .gcOnly .lateStores⟩], none⟩
def op14_22_6 : Oper := ⟨some 26, .assign (.tmp 223), 3, "outright.go:265", #[⟨4, .data⟩, ⟨2, .chain⟩, ⟨0, .phase⟩, ⟨1, .phase⟩, ⟨2, .phase⟩, ⟨3, .phase⟩, ⟨4, .phase⟩, ⟨5, .textOnly .lateStores⟩], none⟩
def op14_22_7 : Oper := ⟨some 13, .assign (.tmp 224), 35, "outright.go:265", #[⟨5, .data⟩, ⟨6, .chain⟩, ⟨0, .phase⟩, ⟨1, .phase⟩, ⟨2, .phase⟩, ⟨3, .phase⟩, ⟨4, .phase⟩, ⟨5, .phase⟩, ⟨6, .phase⟩], none⟩
def op14_30_0 : Oper := ⟨some 279, .move (.tmp 6), 35, "outright.go:274", #[], none⟩
def op14_30_1 : Oper := ⟨some 280, .binOp BinOp.eql 35 (.tmp 279) (.const (Value.int IntKind.i64 0)) 35, 4, "outright.go:274", #[⟨0, .data⟩], none⟩
def op14_30_2 : Oper := ⟨some 281, .move (.tmp 280), 4, "outright.go:274", #[⟨1, .data⟩], none⟩
def op14_30_3 : Oper := ⟨some 282, .move (.tmp 9), 35, "outright.go:274", #[⟨2, .guard⟩], some (2, true)⟩
def op14_30_4 : Oper := ⟨some 283, .binOp BinOp.eql 35 (.tmp 282) (.const (Value.int IntKind.i64 0)) 35, 4, "outright.go:274", #[⟨3, .data⟩, ⟨2, .guard⟩], some (2, true)⟩
def op14_30_5 : Oper := ⟨some 284, .pick (.tmp 281) (.tmp 283) (.const (Value.bool false)), 4, "outright.go:274", #[⟨2, .data⟩, ⟨4, .data⟩], none⟩
def op14_30_6 : Oper := ⟨some 285, .move (.tmp 284), 4, "outright.go:274", #[⟨5, .data⟩, ⟨2, .chain⟩], none⟩
def op14_30_7 : Oper := ⟨some 286, .load 32 (.tmp 30), 32, "outright.go:274", #[⟨6, .guard⟩], some (6, true)⟩
def op14_30_8 : Oper := ⟨some 287, .build 26 #[(0, .const (Value.int IntKind.i64 2529)), (1, .const (Value.int IntKind.i64 2667))], 26, "outright.go:274", #[⟨6, .guard⟩], some (6, true)⟩
def op14_30_9 : Oper := ⟨some 288, .build 26 #[(1, .const (Value.int IntKind.i64 5000))], 26, "outright.go:274", #[⟨6, .guard⟩], some (6, true)⟩
def op14_30_10 : Oper := ⟨some 289, .build 32 #[(0, .tmp 287), (1, .const (Value.int IntKind.i64 16)), (2, .tmp 288)], 32, "outright.go:274", #[⟨8, .data⟩, ⟨9, .data⟩, ⟨6, .guard⟩], some (6, true)⟩
def op14_30_11 : Oper := ⟨some 290, .binOp BinOp.eql 32 (.tmp 286) (.tmp 289) 32, 4, "outright.go:274", #[⟨7, .data⟩, ⟨10, .data⟩, ⟨6, .guard⟩], some (6, true)⟩
def op14_30_12 : Oper := ⟨some 291, .pick (.tmp 285) (.tmp 290) (.const (Value.bool false)), 4, "outright.go:274", #[⟨6, .data⟩, ⟨11, .data⟩], none⟩
def op14_30_13 : Oper := ⟨some 292, .move (.tmp 291), 4, "outright.go:274", #[⟨12, .data⟩, ⟨6, .chain⟩], none⟩
def op14_30_14 : Oper := ⟨some 293, .load 32 (.tmp 31), 32, "outright.go:274", #[⟨13, .guard⟩], some (13, true)⟩
def op14_30_15 : Oper := ⟨some 294, .call { callee := Callee.value (.func 47), args := #[.const (Value.int IntKind.i64 2000)], argTypes := #[3] }, 26, "outright.go:274", #[⟨13, .chain⟩, ⟨13, .guard⟩], some (13, true)⟩
def op14_30_16 : Oper := ⟨some 295, .call { callee := Callee.value (.func 47), args := #[.const (Value.int IntKind.i64 5000)], argTypes := #[3] }, 26, "outright.go:274", #[⟨15, .chain⟩, ⟨13, .guard⟩], some (13, true)⟩
def op14_30_17 : Oper := ⟨some 296, .build 32 #[(0, .tmp 294), (1, .const (Value.int IntKind.i64 16)), (2, .tmp 295)], 32, "outright.go:274", #[⟨15, .data⟩, ⟨16, .data⟩, ⟨13, .guard⟩], some (13, true)⟩
def op14_30_18 : Oper := ⟨some 297, .binOp BinOp.eql 32 (.tmp 293) (.tmp 296) 32, 4, "outright.go:274", #[⟨14, .data⟩, ⟨17, .data⟩, ⟨13, .guard⟩], some (13, true)⟩
def op14_30_19 : Oper := ⟨some 298, .pick (.tmp 292) (.tmp 297) (.const (Value.bool false)), 4, "outright.go:274", #[⟨13, .data⟩, ⟨18, .data⟩], none⟩
def op14_30_20 : Oper := ⟨some 299, .move (.tmp 298), 4, "outright.go:274", #[⟨19, .data⟩, ⟨16, .chain⟩], none⟩
def op14_30_21 : Oper := ⟨some 300, .call { callee := Callee.value (.func 16), args := #[], argTypes := #[] }, 4, "outright.go:274", #[⟨20, .chain⟩, ⟨20, .guard⟩], some (20, true)⟩
def op14_30_22 : Oper := ⟨some 301, .pick (.tmp 299) (.tmp 300) (.const (Value.bool false)), 4, "outright.go:274", #[⟨20, .data⟩, ⟨21, .data⟩], none⟩
def op14_30_23 : Oper := ⟨some 0, .assign (.tmp 301), 4, "outright.go:274", #[⟨22, .data⟩, ⟨21, .chain⟩, ⟨0, .phase⟩, ⟨1, .phase⟩, ⟨2, .phase⟩, ⟨3, .phase⟩, ⟨4, .phase⟩, ⟨5, .phase⟩, ⟨6, .phase⟩, ⟨7, .phase⟩, ⟨8, .phase⟩, ⟨9, .phase⟩, ⟨10, .phase⟩, ⟨11, .phase⟩, ⟨12, .phase⟩, ⟨13, .phase⟩, ⟨14, .phase⟩, ⟨15, .phase⟩, ⟨16, .phase⟩, ⟨17, .phase⟩, ⟨18, .phase⟩, ⟨19, .phase⟩, ⟨20, .phase⟩, ⟨21, .phase⟩, ⟨22, .phase⟩], none⟩
theorem ints_new (w : World) (l : List Int) (hl : 0 < l.length) (hm : l.length ≤ 1000000 := by simp) : IntsAt (w.alloc (.cells (l.map (Value.int .i64)).toArray 3)) (w.alloc (.cells (l.map (Value.int .i64)).toArray 3)).heap.size (.slice (some ⟨w.heap.size, 0, none⟩) l.length l.length) l :=
 ⟨by simp, by omega, _, _, rfl, Nat.le_refl _, fun _ => ⟨w.heap.size, 0, rfl, by simp, cells_new_blk w _ _ _ rfl⟩⟩
set_option maxRecDepth 100000 in
set_option maxHeartbeats 8000000 in
theorem SurgeKnown_any (w : World) (HD : DirsAt w) :
 Calls Tryd.prog 14 #[] w fun e w' => e = .returned (.bool true) ∧ Below w.heap.size w w' := by
 have HDR := Lib.hid HD
 clear HD
 have hp1 := span_stood
 have hp2 := span_guard
 have hp3 := wind_stood
 have hp4 := wind_guard
 go_enter Tryd.func14, Tryd.ntmps14
 have HB : Hid (Below w.heap.size w w) := Below.refl _ _
 go_wp2_with fail
 refine (G_any _).mono ?_
 rintro e Va1 ⟨vg1, rfl, hg1, hb⟩
 have HZ := Lib.hid hb
 clear hb
 replace HB := ktr' HB HZ
 replace HDR := Lib.hid (HDR.out.later HZ.out)
 clear HZ
 have HG1 := Lib.hid hg1
 clear hg1
 obtain ⟨ag1, cg1, hvg1, -, -⟩ := HG1.out.open_
 subst hvg1
 go_wp2_with fail
 refine (M_any _).mono ?_
 rintro e Va2 ⟨rfl, hb⟩
 have HZ := Lib.hid hb
 clear hb
 replace HB := ktr' HB HZ
 replace HDR := Lib.hid (HDR.out.later HZ.out)
 replace HG1 := Lib.hid (HG1.out.later HZ.out (Nat.le_refl _))
 clear HZ
 go_upto_region 2 with (fail)
 obtain ⟨Va3, hV⟩ : ∃ V, ((Va2.alloc (.cells #[.int .i64 (4), .int .i64 (1), .int .i64 (1000), .slice ag1 4 cg1] 24)).alloc (.cells #[.int .i64 (3000), .int .i64 (3000), .int .i64 (512), .int .i64 (512)] 28)).alloc (.cells #[.int .i64 (0), .int .i64 (0)] 26) = V := ⟨_, rfl⟩
 have Kb1 : Hid (Blk Va3 (Va2.heap.size) 24 #[.int .i64 (4), .int .i64 (1), .int .i64 (1000), .slice ag1 4 cg1]) := by rw [← hV]; exact ((Blk.new' _ _ _ (by simp)).alloc _).alloc _
 have Kb2 : Hid (Blk Va3 (Va2.heap.size + 1) 28 #[.int .i64 (3000), .int .i64 (3000), .int .i64 (512), .int .i64 (512)]) := by rw [← hV]; exact (Blk.new' _ _ _ (by simp)).alloc _
 have Kb3 : Hid (Blk Va3 (Va2.heap.size + 1 + 1) 26 #[.int .i64 (0), .int .i64 (0)]) := by rw [← hV]; exact Blk.new' _ _ _ (by simp)
 have hz : Below Va2.heap.size Va2 Va3 := by rw [← hV]; exact (by repeat (first | exact Below.refl _ _ | assumption | refine Below.drew ?_ | refine Below.drewN' ?_ _ | (refine Below.alloc ?_ (by simp <;> omega) _) | (refine Below.setCell ?_ (by simp <;> omega) _)))
 have GHB := Lib.hid (HB.out.trans (hz.mono HB.out.size))
 have lHB := HB.out.size
 have HZ := Lib.hid hz
 clear hz
 have GHDR := Lib.hid (HDR.out.later HZ.out)
 have GHG1 := Lib.hid (HG1.out.later HZ.out (Nat.le_refl _))
 rw [hV]
 clear hV HZ HB HDR HG1
 have HB := GHB
 clear GHB
 have HDR := GHDR
 clear GHDR
 have HG1 := GHG1
 clear GHG1
 obtain ⟨b3, hqb3⟩ : ∃ b, Va2.heap.size + 1 + 1 = b := ⟨_, rfl⟩
 obtain ⟨b2, hqb2⟩ : ∃ b, Va2.heap.size + 1 = b := ⟨_, rfl⟩
 obtain ⟨b1, hqb1⟩ : ∃ b, Va2.heap.size = b := ⟨_, rfl⟩
 have gb1 : w.heap.size ≤ b1 := by omega
 have gb2 : w.heap.size ≤ b2 := by omega
 have nb2b1 : ¬ b2 = b1 := by omega
 have nb1b2 : ¬ b1 = b2 := by omega
 have gb3 : w.heap.size ≤ b3 := by omega
 have nb3b1 : ¬ b3 = b1 := by omega
 have nb1b3 : ¬ b1 = b3 := by omega
 have nb3b2 : ¬ b3 = b2 := by omega
 have nb2b3 : ¬ b2 = b3 := by omega
 rw [hqb3] at Kb3 ⊢
 clear hqb3
 rw [hqb2] at Kb2 ⊢
 clear hqb2
 rw [hqb1] at Kb1 ⊢
 clear hqb1
 have Hb1 := Kb1
 clear Kb1
 have Hb2 := Kb2
 clear Kb2
 have Hb3 := Kb3
 clear Kb3
 clear lHB
 have cb10 := kcl0 Hb1
 have cb11 := kcl1 Hb1
 have cb12 := kcl2 Hb1
 have cb13 := kcl3 Hb1
 have cb30 := kcl0 Hb3
 have cb31 := kcl1 Hb3
 go_wp2_with fail
 refine (Fetch_any 4 1 1000 [(-1000, -1000), (-1000, -1000), (-500, -500), (200, 200)] ag1 cg1 0 0 2 4 _ HDR.out HG1.out).mono ?_
 rintro e Va4 hfo
 unfold FetOut at hfo
 rw [kn_fetch.1, kn_fetch.2.1, kn_fetch.2.2] at hfo
 obtain ⟨u1, v1, rfl, hu1, hv1, hb⟩ := hfo
 have HZ := Lib.hid hb
 clear hb
 have HU1 := Lib.hid hu1
 have HV1 := Lib.hid hv1
 clear hu1 hv1
 clear cb10 cb11 cb12 cb13 cb30 cb31
 replace Hb1 := kbl Hb1 HZ
 replace Hb2 := kbl Hb2 HZ
 replace Hb3 := kbl Hb3 HZ
 replace HB := ktr' HB HZ
 replace HDR := Lib.hid (HDR.out.later HZ.out)
 replace HG1 := Lib.hid (HG1.out.later HZ.out (Nat.le_refl _))
 clear HZ
 have cb10 := kcl0 Hb1
 have cb11 := kcl1 Hb1
 have cb12 := kcl2 Hb1
 have cb13 := kcl3 Hb1
 have cb30 := kcl0 Hb3
 have cb31 := kcl1 Hb3
 go_wp2_with fail
 refine (Fetch_any 4 1 1000 [(-1000, -1000), (-1000, -1000), (-500, -500), (200, 200)] ag1 cg1 0 0 2 0 _ HDR.out HG1.out).mono ?_
 rintro e Va5 hfo
 unfold FetOut at hfo
 rw [kn_none.1, kn_none.2.1, kn_none.2.2] at hfo
 obtain ⟨u2, v2, rfl, hu2, hv2, hb⟩ := hfo
 have HZ := Lib.hid hb
 clear hb
 have HU2 := Lib.hid hu2
 have HV2 := Lib.hid hv2
 clear hu2 hv2
 clear cb10 cb11 cb12 cb13 cb30 cb31
 replace Hb1 := kbl Hb1 HZ
 replace Hb2 := kbl Hb2 HZ
 replace Hb3 := kbl Hb3 HZ
 replace HB := ktr' HB HZ
 replace HDR := Lib.hid (HDR.out.later HZ.out)
 replace HG1 := Lib.hid (HG1.out.later HZ.out (Nat.le_refl _))
 replace HU1 := Lib.hid (HU1.out.later HZ.out (Nat.le_refl _))
 replace HV1 := Lib.hid (HV1.out.later HZ.out (Nat.le_refl _))
 clear HZ
 obtain ⟨au, cu, hu, -, -⟩ := HU2.out.open_
 subst hu
 obtain ⟨av, cv, hv, -, -⟩ := HV2.out.open_
 subst hv
 go_wp2_with fail
 have HZ : Hid (Below Va5.heap.size Va5 (Va5.alloc (.cells #[.int .i64 1, .int .i64 0] 3))) := (Below.refl _ _).alloc (Nat.le_refl _) _
 have HSN := Lib.hid (ints_new Va5 [1, 0] (by simp))
 refine (equal_any _ _ [1, 0] [1, 0] _ (HU1.out.later HZ.out (Nat.le_refl _)) HSN.out).mono ?_
 rintro e Va6 ⟨rfl, hb⟩
 have HY := Lib.hid (HZ.out.trans (hb.mono HZ.out.size))
 clear hb HZ HSN
 have HZ := HY
 clear HY
 replace Hb1 := kbl Hb1 HZ
 replace Hb2 := kbl Hb2 HZ
 replace Hb3 := kbl Hb3 HZ
 replace HB := ktr' HB HZ
 replace HDR := Lib.hid (HDR.out.later HZ.out)
 replace HG1 := Lib.hid (HG1.out.later HZ.out (Nat.le_refl _))
 replace HU1 := Lib.hid (HU1.out.later HZ.out (Nat.le_refl _))
 replace HV1 := Lib.hid (HV1.out.later HZ.out (Nat.le_refl _))
 replace HU2 := Lib.hid (HU2.out.later HZ.out (Nat.le_refl _))
 replace HV2 := Lib.hid (HV2.out.later HZ.out (Nat.le_refl _))
 clear HZ
 rw [decide_eq_true rfl]
 go_wp2_with fail
 have HZ : Hid (Below Va6.heap.size Va6 (Va6.alloc (.cells #[.int .i64 1, .int .i64 0] 3))) := (Below.refl _ _).alloc (Nat.le_refl _) _
 have HSN := Lib.hid (ints_new Va6 [1, 0] (by simp))
 refine (equal_any _ _ [1, 0] [1, 0] _ (HV1.out.later HZ.out (Nat.le_refl _)) HSN.out).mono ?_
 rintro e Va7 ⟨rfl, hb⟩
 have HY := Lib.hid (HZ.out.trans (hb.mono HZ.out.size))
 clear hb HZ HSN
 have HZ := HY
 clear HY
 replace Hb1 := kbl Hb1 HZ
 replace Hb2 := kbl Hb2 HZ
 replace Hb3 := kbl Hb3 HZ
 replace HB := ktr' HB HZ
 replace HDR := Lib.hid (HDR.out.later HZ.out)
 replace HG1 := Lib.hid (HG1.out.later HZ.out (Nat.le_refl _))
 replace HU1 := Lib.hid (HU1.out.later HZ.out (Nat.le_refl _))
 replace HV1 := Lib.hid (HV1.out.later HZ.out (Nat.le_refl _))
 replace HU2 := Lib.hid (HU2.out.later HZ.out (Nat.le_refl _))
 replace HV2 := Lib.hid (HV2.out.later HZ.out (Nat.le_refl _))
 clear HZ
 rw [decide_eq_true rfl]
 go_upto_region 6 with (fail)
 have HSV : Hid (∀ U, Below Va7.heap.size Va7 U → U.cell? ⟨b1, 0, none⟩ = some (.int .i64 (4)) ∧ U.cell? ⟨b1, 1, none⟩ = some (.int .i64 (1)) ∧ U.cell? ⟨b1, 2, none⟩ = some (.int .i64 (1000)) ∧ U.cell? ⟨b1, 3, none⟩ = some (.slice ag1 4 cg1) ∧ U.cell? ⟨b2, 0, none⟩ = some (.int .i64 (3000)) ∧ U.cell? ⟨b2, 1, none⟩ = some (.int .i64 (3000)) ∧ U.cell? ⟨b2, 2, none⟩ = some (.int .i64 (512)) ∧ U.cell? ⟨b2, 3, none⟩ = some (.int .i64 (512)) ∧ U.cell? ⟨b3, 0, none⟩ = some (.int .i64 (0)) ∧ U.cell? ⟨b3, 1, none⟩ = some (.int .i64 (0))) := fun U hU => by
  have kb1 := Hb1.out.below hU Hb1.out.lt
  have kb2 := Hb2.out.below hU Hb2.out.lt
  have kb3 := Hb3.out.below hU Hb3.out.lt
  exact ⟨kb1.cell 0, kb1.cell 1, kb1.cell 2, kb1.cell 3, kb2.cell 0, kb2.cell 1, kb2.cell 2, kb2.cell 3, kb3.cell 0, kb3.cell 1⟩
 have k0 := HSV.out _ (Below.drew (Below.refl Va7.heap.size Va7))
 go_cut [10, 6] from 75 to 83 (fun pq0 pe0 wx => pe0 = .int .i64 (0) ∧ OneBx Va7 26 #[.int .i64 (626), .int .i64 (628)] pq0 wx)
 case first =>
  refine wp_region_noPanic ?_
  refine wp_region_held_drew (S := (fun w' => w'.cell? ⟨b1, 0, none⟩ = some (.int .i64 (4)) ∧ w'.cell? ⟨b1, 1, none⟩ = some (.int .i64 (1)) ∧ w'.cell? ⟨b1, 2, none⟩ = some (.int .i64 (1000)) ∧ w'.cell? ⟨b1, 3, none⟩ = some (.slice ag1 4 cg1) ∧ w'.cell? ⟨b2, 0, none⟩ = some (.int .i64 (3000)) ∧ w'.cell? ⟨b2, 1, none⟩ = some (.int .i64 (3000)) ∧ w'.cell? ⟨b2, 2, none⟩ = some (.int .i64 (512)) ∧ w'.cell? ⟨b2, 3, none⟩ = some (.int .i64 (512)) ∧ w'.cell? ⟨b3, 0, none⟩ = some (.int .i64 (0)) ∧ w'.cell? ⟨b3, 1, none⟩ = some (.int .i64 (0)))) (by kernel_rfl) ?_ (fun hHeld => ?_)
  · (try dsimp only); (exact k0)
  refine wpAnyH_take (i := 0) (oi := op14_6_0) (v := ?_) rfl (by kernel_rfl) (by kernel_rfl) (by kernel_rfl) (fun _ _ _ h => h) (Or.inl ⟨by rfl, ?_⟩) (by assumption) ?_
  rotate_left
  · ((intro w hSw; delta op14_6_0; (try dsimp only at hSw); go_simp) <;> with_reducible rfl)
  try simp only [op14_6_0, ksz]
  refine wpAnyH_take (i := 1) (oi := op14_6_1) (v := ?_) rfl (by kernel_rfl) (by kernel_rfl) (by kernel_rfl) (fun _ _ _ h => h) (Or.inl ⟨by rfl, ?_⟩) (by assumption) ?_
  rotate_left
  · ((intro w hSw; delta op14_6_1; (try dsimp only at hSw); go_simp) <;> with_reducible rfl)
  try simp only [op14_6_1, ksz]
  refine wpAnyH_take (i := 2) (oi := op14_6_2) (v := ?_) rfl (by kernel_rfl) (by kernel_rfl) (by kernel_rfl) (fun _ _ _ h => h) (Or.inl ⟨by rfl, ?_⟩) (by assumption) ?_
  rotate_left
  · ((intro w hSw; delta op14_6_2; (try dsimp only at hSw); go_simp) <;> with_reducible rfl)
  try simp only [op14_6_2, ksz]
  obtain ⟨W0, hW0⟩ : ∃ V, Va7.drew = V := ⟨_, rfl⟩; rw [hW0] at hHeld ⊢; have HB0 : Hid (Below Va7.heap.size Va7 W0) := (by rw [← hW0]; exact Below.drew (Below.refl _ _)); clear hW0
  refine wpAnyH_ready (rs := [3, 8]) (by kernel_rfl) (by simp) ?_
  refine AllReadyH.cons (o := op14_6_3) rfl (fun K hK => ?_) ?_
  ·
   delta op14_6_3
   go_simp
   (refine (point_any _ _).mono ?_; rintro e W1 ⟨rfl, hb⟩; have hbz : Below W0.heap.size W0 W1 := hb; clear hb; have HB1 := Lib.hid (HB0.out.trans (hbz.mono HB0.out.size)); clear hbz)
   refine hK.out _ _ ?_ (fun hHeld => ?_)
   · (try dsimp only); (exact HSV.out _ HB1.out)
   clear hK K
   try simp only [op14_6_3, ksz]
   refine wpAnyH_ready (rs := [4, 8]) (by kernel_rfl) (by simp) ?_
   refine AllReadyH.cons (o := op14_6_4) rfl (fun K hK => ?_) ?_
   ·
    delta op14_6_4
    go_simp
    (refine (Setup_any 4 1 1000 [(-1000, -1000), (-1000, -1000), (-500, -500), (200, 200)] ag1 cg1 0 0 3000 3000 512 512 2 0 2000 2000 _ (HDR.out.later HB1.out) (HG1.out.later HB1.out (Nat.le_refl _))).mono ?_; rintro e W2 ⟨rfl, hb⟩; have hbz : Below W1.heap.size W1 W2 := hb; clear hb; have HB2 := Lib.hid (HB1.out.trans (hbz.mono HB1.out.size)); clear hbz; rw [kn_setup.1, kn_setup.2]; simp only [spV])
    refine hK.out _ _ ?_ (fun hHeld => ?_)
    · (try dsimp only); (exact HSV.out _ HB2.out)
    clear hK K
    try simp only [op14_6_4, ksz]
    refine wpAnyH_take (i := 5) (oi := op14_6_5) (v := ?_) rfl (by kernel_rfl) (by kernel_rfl) (by kernel_rfl) (fun _ _ _ h => h) (Or.inl ⟨by rfl, ?_⟩) (by assumption) ?_
    rotate_left
    · ((intro w hSw; delta op14_6_5; (try dsimp only at hSw); go_simp) <;> with_reducible rfl)
    try simp only [op14_6_5, ksz]
    refine wpAnyH_take (i := 6) (oi := op14_6_6) (v := ?_) rfl (by kernel_rfl) (by kernel_rfl) (by kernel_rfl) (fun _ _ _ h => h) (Or.inl ⟨by rfl, ?_⟩) (by assumption) ?_
    rotate_left
    · ((intro w hSw; delta op14_6_6; (try dsimp only at hSw); go_simp) <;> with_reducible rfl)
    try simp only [op14_6_6, ksz]
    refine wpAnyH_take (i := 7) (oi := op14_6_7) (v := ?_) rfl (by kernel_rfl) (by kernel_rfl) (by kernel_rfl) (fun _ _ _ h => h) (Or.inl ⟨by rfl, ?_⟩) (by assumption) ?_
    rotate_left
    · ((intro w hSw; delta op14_6_7; (try dsimp only at hSw); go_simp) <;> with_reducible rfl)
    try simp only [op14_6_7, ksz]
    refine wpAnyH_ready (rs := [8]) (by kernel_rfl) (by simp) ?_
    refine AllReadyH.cons (o := op14_6_8) rfl (fun K hK => ?_) AllReadyH.nil
    delta op14_6_8
    go_simp
    obtain ⟨W3, hV⟩ : ∃ V, W2.alloc (.cells #[.int .i64 (0), .int .i64 (0)] 26) = V := ⟨_, rfl⟩; have hbz : Below W2.heap.size W2 W3 := (by rw [← hV]; exact (Below.refl _ _).alloc (Nat.le_refl _) _); have HB3 := Lib.hid (HB2.out.trans (hbz.mono HB2.out.size)); have Nb10' : Hid (Blk W3 W2.heap.size 26 #[.int .i64 (0), .int .i64 (0)]) := (by rw [← hV]; exact Blk.new' _ _ _ rfl); obtain ⟨b10, hz⟩ : ∃ b, W2.heap.size = b := ⟨_, rfl⟩; rw [hz] at Nb10'; have hb10 : Va7.heap.size ≤ b10 := (by rw [← hz]; exact HB2.out.size); have Nb10 := Nb10'; clear Nb10'; rw [hV, hz]; clear hV hbz hz
    refine hK.out _ _ ?_ (fun hHeld => ?_)
    · (try dsimp only); (exact HSV.out _ HB3.out)
    clear hK K
    try simp only [op14_6_8, ksz]
    have cR0 := Nb10.out.cell 0; have zR0 := Nb10.out.frozen 0; have cR1 := Nb10.out.cell 1; have zR1 := Nb10.out.frozen 1; simp only [List.getElem?_toArray, List.getElem?_cons_zero, List.getElem?_cons_succ] at cR0 cR1
    refine wpAnyH_ready (rs := [9]) (by kernel_rfl) (by simp) ?_
    refine AllReadyH.cons (o := op14_6_9) rfl (fun K hK => ?_) AllReadyH.nil
    delta op14_6_9
    go_simp
    refine hK.out _ _ ?_ (fun hHeld => ?_)
    · (try dsimp only); (exact HSV.out _ ((HB3.out.setCell (p := ⟨b10, 0, none⟩) (by exact hb10) _).setCell (p := ⟨b10, 1, none⟩) (by exact hb10) _))
    clear hK K
    try simp only [op14_6_9, ksz]
    obtain ⟨X0, hV⟩ : ∃ V, (W3.setCell ⟨b10, 0, none⟩ (.int .i64 (626))).setCell ⟨b10, 1, none⟩ (.int .i64 (628)) = V := ⟨_, rfl⟩; have Gb10 : Hid (Blk X0 b10 26 #[.int .i64 (626), .int .i64 (628)]) := (by rw [← hV]; exact ((Nb10.out.set_ 0 (.int .i64 (626))).set_ 1 (.int .i64 (628)))); have GHB : Hid (Below Va7.heap.size Va7 X0) := (by rw [← hV]; exact ((HB3.out.setCell (p := ⟨b10, 0, none⟩) (by exact hb10) _).setCell (p := ⟨b10, 1, none⟩) (by exact hb10) _)); rw [hV]; rw [hV] at hHeld; clear hV cR0 zR0 cR1 zR1 Nb10; have HBX := GHB; clear GHB; have Nb10 := Gb10; clear Gb10
    refine wpAnyH_take (i := 10) (oi := op14_6_10) (v := ?_) rfl (by kernel_rfl) (by kernel_rfl) (by kernel_rfl) (fun _ _ _ h => h) (Or.inl ⟨by rfl, ?_⟩) (by assumption) ?_
    rotate_left
    · ((intro w hSw; delta op14_6_10; (try dsimp only at hSw); go_simp) <;> with_reducible rfl)
    try simp only [op14_6_10, ksz]
    refine wpAnyH_done (by kernel_rfl) ?_ _
    refine NoPanic.normal ?_
    go_wp2_with fail
    go_meet
    exact ⟨rfl, b10, rfl, Nb10.out, (by exact hb10), HBX.out⟩
   refine AllReadyH.cons (o := op14_6_8) rfl (fun K hK => ?_) ?_
   ·
    delta op14_6_8
    go_simp
    obtain ⟨W2, hV⟩ : ∃ V, W1.alloc (.cells #[.int .i64 (0), .int .i64 (0)] 26) = V := ⟨_, rfl⟩; have hbz : Below W1.heap.size W1 W2 := (by rw [← hV]; exact (Below.refl _ _).alloc (Nat.le_refl _) _); have HB2 := Lib.hid (HB1.out.trans (hbz.mono HB1.out.size)); have Nb10' : Hid (Blk W2 W1.heap.size 26 #[.int .i64 (0), .int .i64 (0)]) := (by rw [← hV]; exact Blk.new' _ _ _ rfl); obtain ⟨b10, hz⟩ : ∃ b, W1.heap.size = b := ⟨_, rfl⟩; rw [hz] at Nb10'; have hb10 : Va7.heap.size ≤ b10 := (by rw [← hz]; exact HB1.out.size); have Nb10 := Nb10'; clear Nb10'; rw [hV, hz]; clear hV hbz hz
    refine hK.out _ _ ?_ (fun hHeld => ?_)
    · (try dsimp only); (exact HSV.out _ HB2.out)
    clear hK K
    try simp only [op14_6_8, ksz]
    refine wpAnyH_ready (rs := [4]) (by kernel_rfl) (by simp) ?_
    refine AllReadyH.cons (o := op14_6_4) rfl (fun K hK => ?_) AllReadyH.nil
    delta op14_6_4
    go_simp
    (refine (Setup_any 4 1 1000 [(-1000, -1000), (-1000, -1000), (-500, -500), (200, 200)] ag1 cg1 0 0 3000 3000 512 512 2 0 2000 2000 _ (HDR.out.later HB2.out) (HG1.out.later HB2.out (Nat.le_refl _))).mono ?_; rintro e W3 ⟨rfl, hb⟩; have hbz : Below W2.heap.size W2 W3 := hb; clear hb; have HB3 := Lib.hid (HB2.out.trans (hbz.mono HB2.out.size)); have Mb10 := Lib.hid (Nb10.out.below hbz Nb10.out.lt); clear Nb10; have Nb10 := Mb10; clear Mb10; clear hbz; rw [kn_setup.1, kn_setup.2]; simp only [spV])
    refine hK.out _ _ ?_ (fun hHeld => ?_)
    · (try dsimp only); (exact HSV.out _ HB3.out)
    clear hK K
    try simp only [op14_6_4, ksz]
    refine wpAnyH_take (i := 5) (oi := op14_6_5) (v := ?_) rfl (by kernel_rfl) (by kernel_rfl) (by kernel_rfl) (fun _ _ _ h => h) (Or.inl ⟨by rfl, ?_⟩) (by assumption) ?_
    rotate_left
    · ((intro w hSw; delta op14_6_5; (try dsimp only at hSw); go_simp) <;> with_reducible rfl)
    try simp only [op14_6_5, ksz]
    refine wpAnyH_take (i := 6) (oi := op14_6_6) (v := ?_) rfl (by kernel_rfl) (by kernel_rfl) (by kernel_rfl) (fun _ _ _ h => h) (Or.inl ⟨by rfl, ?_⟩) (by assumption) ?_
    rotate_left
    · ((intro w hSw; delta op14_6_6; (try dsimp only at hSw); go_simp) <;> with_reducible rfl)
    try simp only [op14_6_6, ksz]
    refine wpAnyH_take (i := 7) (oi := op14_6_7) (v := ?_) rfl (by kernel_rfl) (by kernel_rfl) (by kernel_rfl) (fun _ _ _ h => h) (Or.inl ⟨by rfl, ?_⟩) (by assumption) ?_
    rotate_left
    · ((intro w hSw; delta op14_6_7; (try dsimp only at hSw); go_simp) <;> with_reducible rfl)
    try simp only [op14_6_7, ksz]
    have cR0 := Nb10.out.cell 0; have zR0 := Nb10.out.frozen 0; have cR1 := Nb10.out.cell 1; have zR1 := Nb10.out.frozen 1; simp only [List.getElem?_toArray, List.getElem?_cons_zero, List.getElem?_cons_succ] at cR0 cR1
    refine wpAnyH_ready (rs := [9]) (by kernel_rfl) (by simp) ?_
    refine AllReadyH.cons (o := op14_6_9) rfl (fun K hK => ?_) AllReadyH.nil
    delta op14_6_9
    go_simp
    refine hK.out _ _ ?_ (fun hHeld => ?_)
    · (try dsimp only); (exact HSV.out _ ((HB3.out.setCell (p := ⟨b10, 0, none⟩) (by exact hb10) _).setCell (p := ⟨b10, 1, none⟩) (by exact hb10) _))
    clear hK K
    try simp only [op14_6_9, ksz]
    obtain ⟨X0, hV⟩ : ∃ V, (W3.setCell ⟨b10, 0, none⟩ (.int .i64 (626))).setCell ⟨b10, 1, none⟩ (.int .i64 (628)) = V := ⟨_, rfl⟩; have Gb10 : Hid (Blk X0 b10 26 #[.int .i64 (626), .int .i64 (628)]) := (by rw [← hV]; exact ((Nb10.out.set_ 0 (.int .i64 (626))).set_ 1 (.int .i64 (628)))); have GHB : Hid (Below Va7.heap.size Va7 X0) := (by rw [← hV]; exact ((HB3.out.setCell (p := ⟨b10, 0, none⟩) (by exact hb10) _).setCell (p := ⟨b10, 1, none⟩) (by exact hb10) _)); rw [hV]; rw [hV] at hHeld; clear hV cR0 zR0 cR1 zR1 Nb10; have HBX := GHB; clear GHB; have Nb10 := Gb10; clear Gb10
    refine wpAnyH_take (i := 10) (oi := op14_6_10) (v := ?_) rfl (by kernel_rfl) (by kernel_rfl) (by kernel_rfl) (fun _ _ _ h => h) (Or.inl ⟨by rfl, ?_⟩) (by assumption) ?_
    rotate_left
    · ((intro w hSw; delta op14_6_10; (try dsimp only at hSw); go_simp) <;> with_reducible rfl)
    try simp only [op14_6_10, ksz]
    refine wpAnyH_done (by kernel_rfl) ?_ _
    refine NoPanic.normal ?_
    go_wp2_with fail
    go_meet
    exact ⟨rfl, b10, rfl, Nb10.out, (by exact hb10), HBX.out⟩
   exact AllReadyH.nil
  refine AllReadyH.cons (o := op14_6_8) rfl (fun K hK => ?_) ?_
  ·
   delta op14_6_8
   go_simp
   obtain ⟨W1, hV⟩ : ∃ V, W0.alloc (.cells #[.int .i64 (0), .int .i64 (0)] 26) = V := ⟨_, rfl⟩; have hbz : Below W0.heap.size W0 W1 := (by rw [← hV]; exact (Below.refl _ _).alloc (Nat.le_refl _) _); have HB1 := Lib.hid (HB0.out.trans (hbz.mono HB0.out.size)); have Nb10' : Hid (Blk W1 W0.heap.size 26 #[.int .i64 (0), .int .i64 (0)]) := (by rw [← hV]; exact Blk.new' _ _ _ rfl); obtain ⟨b10, hz⟩ : ∃ b, W0.heap.size = b := ⟨_, rfl⟩; rw [hz] at Nb10'; have hb10 : Va7.heap.size ≤ b10 := (by rw [← hz]; exact HB0.out.size); have Nb10 := Nb10'; clear Nb10'; rw [hV, hz]; clear hV hbz hz
   refine hK.out _ _ ?_ (fun hHeld => ?_)
   · (try dsimp only); (exact HSV.out _ HB1.out)
   clear hK K
   try simp only [op14_6_8, ksz]
   refine wpAnyH_ready (rs := [3]) (by kernel_rfl) (by simp) ?_
   refine AllReadyH.cons (o := op14_6_3) rfl (fun K hK => ?_) AllReadyH.nil
   delta op14_6_3
   go_simp
   (refine (point_any _ _).mono ?_; rintro e W2 ⟨rfl, hb⟩; have hbz : Below W1.heap.size W1 W2 := hb; clear hb; have HB2 := Lib.hid (HB1.out.trans (hbz.mono HB1.out.size)); have Mb10 := Lib.hid (Nb10.out.below hbz Nb10.out.lt); clear Nb10; have Nb10 := Mb10; clear Mb10; clear hbz)
   refine hK.out _ _ ?_ (fun hHeld => ?_)
   · (try dsimp only); (exact HSV.out _ HB2.out)
   clear hK K
   try simp only [op14_6_3, ksz]
   refine wpAnyH_ready (rs := [4]) (by kernel_rfl) (by simp) ?_
   refine AllReadyH.cons (o := op14_6_4) rfl (fun K hK => ?_) AllReadyH.nil
   delta op14_6_4
   go_simp
   (refine (Setup_any 4 1 1000 [(-1000, -1000), (-1000, -1000), (-500, -500), (200, 200)] ag1 cg1 0 0 3000 3000 512 512 2 0 2000 2000 _ (HDR.out.later HB2.out) (HG1.out.later HB2.out (Nat.le_refl _))).mono ?_; rintro e W3 ⟨rfl, hb⟩; have hbz : Below W2.heap.size W2 W3 := hb; clear hb; have HB3 := Lib.hid (HB2.out.trans (hbz.mono HB2.out.size)); have Mb10 := Lib.hid (Nb10.out.below hbz Nb10.out.lt); clear Nb10; have Nb10 := Mb10; clear Mb10; clear hbz; rw [kn_setup.1, kn_setup.2]; simp only [spV])
   refine hK.out _ _ ?_ (fun hHeld => ?_)
   · (try dsimp only); (exact HSV.out _ HB3.out)
   clear hK K
   try simp only [op14_6_4, ksz]
   refine wpAnyH_take (i := 5) (oi := op14_6_5) (v := ?_) rfl (by kernel_rfl) (by kernel_rfl) (by kernel_rfl) (fun _ _ _ h => h) (Or.inl ⟨by rfl, ?_⟩) (by assumption) ?_
   rotate_left
   · ((intro w hSw; delta op14_6_5; (try dsimp only at hSw); go_simp) <;> with_reducible rfl)
   try simp only [op14_6_5, ksz]
   refine wpAnyH_take (i := 6) (oi := op14_6_6) (v := ?_) rfl (by kernel_rfl) (by kernel_rfl) (by kernel_rfl) (fun _ _ _ h => h) (Or.inl ⟨by rfl, ?_⟩) (by assumption) ?_
   rotate_left
   · ((intro w hSw; delta op14_6_6; (try dsimp only at hSw); go_simp) <;> with_reducible rfl)
   try simp only [op14_6_6, ksz]
   refine wpAnyH_take (i := 7) (oi := op14_6_7) (v := ?_) rfl (by kernel_rfl) (by kernel_rfl) (by kernel_rfl) (fun _ _ _ h => h) (Or.inl ⟨by rfl, ?_⟩) (by assumption) ?_
   rotate_left
   · ((intro w hSw; delta op14_6_7; (try dsimp only at hSw); go_simp) <;> with_reducible rfl)
   try simp only [op14_6_7, ksz]
   have cR0 := Nb10.out.cell 0; have zR0 := Nb10.out.frozen 0; have cR1 := Nb10.out.cell 1; have zR1 := Nb10.out.frozen 1; simp only [List.getElem?_toArray, List.getElem?_cons_zero, List.getElem?_cons_succ] at cR0 cR1
   refine wpAnyH_ready (rs := [9]) (by kernel_rfl) (by simp) ?_
   refine AllReadyH.cons (o := op14_6_9) rfl (fun K hK => ?_) AllReadyH.nil
   delta op14_6_9
   go_simp
   refine hK.out _ _ ?_ (fun hHeld => ?_)
   · (try dsimp only); (exact HSV.out _ ((HB3.out.setCell (p := ⟨b10, 0, none⟩) (by exact hb10) _).setCell (p := ⟨b10, 1, none⟩) (by exact hb10) _))
   clear hK K
   try simp only [op14_6_9, ksz]
   obtain ⟨X0, hV⟩ : ∃ V, (W3.setCell ⟨b10, 0, none⟩ (.int .i64 (626))).setCell ⟨b10, 1, none⟩ (.int .i64 (628)) = V := ⟨_, rfl⟩; have Gb10 : Hid (Blk X0 b10 26 #[.int .i64 (626), .int .i64 (628)]) := (by rw [← hV]; exact ((Nb10.out.set_ 0 (.int .i64 (626))).set_ 1 (.int .i64 (628)))); have GHB : Hid (Below Va7.heap.size Va7 X0) := (by rw [← hV]; exact ((HB3.out.setCell (p := ⟨b10, 0, none⟩) (by exact hb10) _).setCell (p := ⟨b10, 1, none⟩) (by exact hb10) _)); rw [hV]; rw [hV] at hHeld; clear hV cR0 zR0 cR1 zR1 Nb10; have HBX := GHB; clear GHB; have Nb10 := Gb10; clear Gb10
   refine wpAnyH_take (i := 10) (oi := op14_6_10) (v := ?_) rfl (by kernel_rfl) (by kernel_rfl) (by kernel_rfl) (fun _ _ _ h => h) (Or.inl ⟨by rfl, ?_⟩) (by assumption) ?_
   rotate_left
   · ((intro w hSw; delta op14_6_10; (try dsimp only at hSw); go_simp) <;> with_reducible rfl)
   try simp only [op14_6_10, ksz]
   refine wpAnyH_done (by kernel_rfl) ?_ _
   refine NoPanic.normal ?_
   go_wp2_with fail
   go_meet
   exact ⟨rfl, b10, rfl, Nb10.out, (by exact hb10), HBX.out⟩
  exact AllReadyH.nil
 case rest =>
  obtain ⟨rfl, b10, rfl, Jb10, eb10, hb⟩ := hcut
  obtain ⟨Va8, rfl⟩ : ∃ V, V = wc := ⟨_, rfl⟩
  have HZ := Lib.hid hb
  have Kb10 := Lib.hid Jb10
  clear Jb10
  have nb1b10 : ¬ b1 = b10 := by have := Hb1.out.lt; omega
  have nb10b1 : ¬ b10 = b1 := fun e => nb1b10 e.symm
  have nb2b10 : ¬ b2 = b10 := by have := Hb2.out.lt; omega
  have nb10b2 : ¬ b10 = b2 := fun e => nb2b10 e.symm
  have nb3b10 : ¬ b3 = b10 := by have := Hb3.out.lt; omega
  have nb10b3 : ¬ b10 = b3 := fun e => nb3b10 e.symm
  have gb10 : w.heap.size ≤ b10 := Nat.le_trans HB.out.size eb10
  clear eb10
  clear hb HSV k0
  replace Hb1 := kbl Hb1 HZ
  replace Hb2 := kbl Hb2 HZ
  replace Hb3 := kbl Hb3 HZ
  replace HB := ktr' HB HZ
  replace HDR := Lib.hid (HDR.out.later HZ.out)
  replace HG1 := Lib.hid (HG1.out.later HZ.out (Nat.le_refl _))
  replace HU1 := Lib.hid (HU1.out.later HZ.out (Nat.le_refl _))
  replace HV1 := Lib.hid (HV1.out.later HZ.out (Nat.le_refl _))
  replace HU2 := Lib.hid (HU2.out.later HZ.out (Nat.le_refl _))
  replace HV2 := Lib.hid (HV2.out.later HZ.out (Nat.le_refl _))
  clear HZ
  have Hb10 := Kb10
  clear Kb10
  go_upto_region 7 with (fail)
  have HSV : Hid (∀ U, Below Va8.heap.size Va8 U → U.cell? ⟨b1, 0, none⟩ = some (.int .i64 (4)) ∧ U.cell? ⟨b1, 1, none⟩ = some (.int .i64 (1)) ∧ U.cell? ⟨b1, 2, none⟩ = some (.int .i64 (1000)) ∧ U.cell? ⟨b1, 3, none⟩ = some (.slice ag1 4 cg1) ∧ U.cell? ⟨b2, 0, none⟩ = some (.int .i64 (3000)) ∧ U.cell? ⟨b2, 1, none⟩ = some (.int .i64 (3000)) ∧ U.cell? ⟨b2, 2, none⟩ = some (.int .i64 (512)) ∧ U.cell? ⟨b2, 3, none⟩ = some (.int .i64 (512)) ∧ U.cell? ⟨b3, 0, none⟩ = some (.int .i64 (0)) ∧ U.cell? ⟨b3, 1, none⟩ = some (.int .i64 (0))) := fun U hU => by
   have kb1 := Hb1.out.below hU Hb1.out.lt
   have kb2 := Hb2.out.below hU Hb2.out.lt
   have kb3 := Hb3.out.below hU Hb3.out.lt
   exact ⟨kb1.cell 0, kb1.cell 1, kb1.cell 2, kb1.cell 3, kb2.cell 0, kb2.cell 1, kb2.cell 2, kb2.cell 3, kb3.cell 0, kb3.cell 1⟩
  have k0 := HSV.out _ (Below.drew (Below.refl Va8.heap.size Va8))
  go_cut [11, 9] from 83 to 91 (fun pq0 pe0 wx => pe0 = .int .i64 (0) ∧ OneBx Va8 26 #[.int .i64 (1252), .int .i64 (1255)] pq0 wx)
  case first =>
   refine wp_region_noPanic ?_
   refine wp_region_held_drew (S := (fun w' => w'.cell? ⟨b1, 0, none⟩ = some (.int .i64 (4)) ∧ w'.cell? ⟨b1, 1, none⟩ = some (.int .i64 (1)) ∧ w'.cell? ⟨b1, 2, none⟩ = some (.int .i64 (1000)) ∧ w'.cell? ⟨b1, 3, none⟩ = some (.slice ag1 4 cg1) ∧ w'.cell? ⟨b2, 0, none⟩ = some (.int .i64 (3000)) ∧ w'.cell? ⟨b2, 1, none⟩ = some (.int .i64 (3000)) ∧ w'.cell? ⟨b2, 2, none⟩ = some (.int .i64 (512)) ∧ w'.cell? ⟨b2, 3, none⟩ = some (.int .i64 (512)) ∧ w'.cell? ⟨b3, 0, none⟩ = some (.int .i64 (0)) ∧ w'.cell? ⟨b3, 1, none⟩ = some (.int .i64 (0)))) (by kernel_rfl) ?_ (fun hHeld => ?_)
   · (try dsimp only); (exact k0)
   refine wpAnyH_take (i := 0) (oi := op14_7_0) (v := ?_) rfl (by kernel_rfl) (by kernel_rfl) (by kernel_rfl) (fun _ _ _ h => h) (Or.inl ⟨by rfl, ?_⟩) (by assumption) ?_
   rotate_left
   · ((intro w hSw; delta op14_7_0; (try dsimp only at hSw); go_simp) <;> with_reducible rfl)
   try simp only [op14_7_0, ksz]
   refine wpAnyH_take (i := 1) (oi := op14_7_1) (v := ?_) rfl (by kernel_rfl) (by kernel_rfl) (by kernel_rfl) (fun _ _ _ h => h) (Or.inl ⟨by rfl, ?_⟩) (by assumption) ?_
   rotate_left
   · ((intro w hSw; delta op14_7_1; (try dsimp only at hSw); go_simp) <;> with_reducible rfl)
   try simp only [op14_7_1, ksz]
   refine wpAnyH_take (i := 2) (oi := op14_7_2) (v := ?_) rfl (by kernel_rfl) (by kernel_rfl) (by kernel_rfl) (fun _ _ _ h => h) (Or.inl ⟨by rfl, ?_⟩) (by assumption) ?_
   rotate_left
   · ((intro w hSw; delta op14_7_2; (try dsimp only at hSw); go_simp) <;> with_reducible rfl)
   try simp only [op14_7_2, ksz]
   obtain ⟨W0, hW0⟩ : ∃ V, Va8.drew = V := ⟨_, rfl⟩; rw [hW0] at hHeld ⊢; have HB0 : Hid (Below Va8.heap.size Va8 W0) := (by rw [← hW0]; exact Below.drew (Below.refl _ _)); clear hW0
   refine wpAnyH_ready (rs := [3, 8]) (by kernel_rfl) (by simp) ?_
   refine AllReadyH.cons (o := op14_7_3) rfl (fun K hK => ?_) ?_
   ·
    delta op14_7_3
    go_simp
    (refine (point_any _ _).mono ?_; rintro e W1 ⟨rfl, hb⟩; have hbz : Below W0.heap.size W0 W1 := hb; clear hb; have HB1 := Lib.hid (HB0.out.trans (hbz.mono HB0.out.size)); clear hbz)
    refine hK.out _ _ ?_ (fun hHeld => ?_)
    · (try dsimp only); (exact HSV.out _ HB1.out)
    clear hK K
    try simp only [op14_7_3, ksz]
    refine wpAnyH_ready (rs := [4, 8]) (by kernel_rfl) (by simp) ?_
    refine AllReadyH.cons (o := op14_7_4) rfl (fun K hK => ?_) ?_
    ·
     delta op14_7_4
     go_simp
     (refine (Setup_any 4 1 1000 [(-1000, -1000), (-1000, -1000), (-500, -500), (200, 200)] ag1 cg1 0 0 3000 3000 512 512 3 0 2000 2000 _ (HDR.out.later HB1.out) (HG1.out.later HB1.out (Nat.le_refl _))).mono ?_; rintro e W2 ⟨rfl, hb⟩; have hbz : Below W1.heap.size W1 W2 := hb; clear hb; have HB2 := Lib.hid (HB1.out.trans (hbz.mono HB1.out.size)); clear hbz; rw [kn_setup2.1, kn_setup2.2]; simp only [spV])
     refine hK.out _ _ ?_ (fun hHeld => ?_)
     · (try dsimp only); (exact HSV.out _ HB2.out)
     clear hK K
     try simp only [op14_7_4, ksz]
     refine wpAnyH_take (i := 5) (oi := op14_7_5) (v := ?_) rfl (by kernel_rfl) (by kernel_rfl) (by kernel_rfl) (fun _ _ _ h => h) (Or.inl ⟨by rfl, ?_⟩) (by assumption) ?_
     rotate_left
     · ((intro w hSw; delta op14_7_5; (try dsimp only at hSw); go_simp) <;> with_reducible rfl)
     try simp only [op14_7_5, ksz]
     refine wpAnyH_take (i := 6) (oi := op14_7_6) (v := ?_) rfl (by kernel_rfl) (by kernel_rfl) (by kernel_rfl) (fun _ _ _ h => h) (Or.inl ⟨by rfl, ?_⟩) (by assumption) ?_
     rotate_left
     · ((intro w hSw; delta op14_7_6; (try dsimp only at hSw); go_simp) <;> with_reducible rfl)
     try simp only [op14_7_6, ksz]
     refine wpAnyH_take (i := 7) (oi := op14_7_7) (v := ?_) rfl (by kernel_rfl) (by kernel_rfl) (by kernel_rfl) (fun _ _ _ h => h) (Or.inl ⟨by rfl, ?_⟩) (by assumption) ?_
     rotate_left
     · ((intro w hSw; delta op14_7_7; (try dsimp only at hSw); go_simp) <;> with_reducible rfl)
     try simp only [op14_7_7, ksz]
     refine wpAnyH_ready (rs := [8]) (by kernel_rfl) (by simp) ?_
     refine AllReadyH.cons (o := op14_7_8) rfl (fun K hK => ?_) AllReadyH.nil
     delta op14_7_8
     go_simp
     obtain ⟨W3, hV⟩ : ∃ V, W2.alloc (.cells #[.int .i64 (0), .int .i64 (0)] 26) = V := ⟨_, rfl⟩; have hbz : Below W2.heap.size W2 W3 := (by rw [← hV]; exact (Below.refl _ _).alloc (Nat.le_refl _) _); have HB3 := Lib.hid (HB2.out.trans (hbz.mono HB2.out.size)); have Nb11' : Hid (Blk W3 W2.heap.size 26 #[.int .i64 (0), .int .i64 (0)]) := (by rw [← hV]; exact Blk.new' _ _ _ rfl); obtain ⟨b11, hz⟩ : ∃ b, W2.heap.size = b := ⟨_, rfl⟩; rw [hz] at Nb11'; have hb11 : Va8.heap.size ≤ b11 := (by rw [← hz]; exact HB2.out.size); have Nb11 := Nb11'; clear Nb11'; rw [hV, hz]; clear hV hbz hz
     refine hK.out _ _ ?_ (fun hHeld => ?_)
     · (try dsimp only); (exact HSV.out _ HB3.out)
     clear hK K
     try simp only [op14_7_8, ksz]
     have cR0 := Nb11.out.cell 0; have zR0 := Nb11.out.frozen 0; have cR1 := Nb11.out.cell 1; have zR1 := Nb11.out.frozen 1; simp only [List.getElem?_toArray, List.getElem?_cons_zero, List.getElem?_cons_succ] at cR0 cR1
     refine wpAnyH_ready (rs := [9]) (by kernel_rfl) (by simp) ?_
     refine AllReadyH.cons (o := op14_7_9) rfl (fun K hK => ?_) AllReadyH.nil
     delta op14_7_9
     go_simp
     refine hK.out _ _ ?_ (fun hHeld => ?_)
     · (try dsimp only); (exact HSV.out _ ((HB3.out.setCell (p := ⟨b11, 0, none⟩) (by exact hb11) _).setCell (p := ⟨b11, 1, none⟩) (by exact hb11) _))
     clear hK K
     try simp only [op14_7_9, ksz]
     obtain ⟨X0, hV⟩ : ∃ V, (W3.setCell ⟨b11, 0, none⟩ (.int .i64 (1252))).setCell ⟨b11, 1, none⟩ (.int .i64 (1255)) = V := ⟨_, rfl⟩; have Gb11 : Hid (Blk X0 b11 26 #[.int .i64 (1252), .int .i64 (1255)]) := (by rw [← hV]; exact ((Nb11.out.set_ 0 (.int .i64 (1252))).set_ 1 (.int .i64 (1255)))); have GHB : Hid (Below Va8.heap.size Va8 X0) := (by rw [← hV]; exact ((HB3.out.setCell (p := ⟨b11, 0, none⟩) (by exact hb11) _).setCell (p := ⟨b11, 1, none⟩) (by exact hb11) _)); rw [hV]; rw [hV] at hHeld; clear hV cR0 zR0 cR1 zR1 Nb11; have HBX := GHB; clear GHB; have Nb11 := Gb11; clear Gb11
     refine wpAnyH_take (i := 10) (oi := op14_7_10) (v := ?_) rfl (by kernel_rfl) (by kernel_rfl) (by kernel_rfl) (fun _ _ _ h => h) (Or.inl ⟨by rfl, ?_⟩) (by assumption) ?_
     rotate_left
     · ((intro w hSw; delta op14_7_10; (try dsimp only at hSw); go_simp) <;> with_reducible rfl)
     try simp only [op14_7_10, ksz]
     refine wpAnyH_done (by kernel_rfl) ?_ _
     refine NoPanic.normal ?_
     go_wp2_with fail
     go_meet
     exact ⟨rfl, b11, rfl, Nb11.out, (by exact hb11), HBX.out⟩
    refine AllReadyH.cons (o := op14_7_8) rfl (fun K hK => ?_) ?_
    ·
     delta op14_7_8
     go_simp
     obtain ⟨W2, hV⟩ : ∃ V, W1.alloc (.cells #[.int .i64 (0), .int .i64 (0)] 26) = V := ⟨_, rfl⟩; have hbz : Below W1.heap.size W1 W2 := (by rw [← hV]; exact (Below.refl _ _).alloc (Nat.le_refl _) _); have HB2 := Lib.hid (HB1.out.trans (hbz.mono HB1.out.size)); have Nb11' : Hid (Blk W2 W1.heap.size 26 #[.int .i64 (0), .int .i64 (0)]) := (by rw [← hV]; exact Blk.new' _ _ _ rfl); obtain ⟨b11, hz⟩ : ∃ b, W1.heap.size = b := ⟨_, rfl⟩; rw [hz] at Nb11'; have hb11 : Va8.heap.size ≤ b11 := (by rw [← hz]; exact HB1.out.size); have Nb11 := Nb11'; clear Nb11'; rw [hV, hz]; clear hV hbz hz
     refine hK.out _ _ ?_ (fun hHeld => ?_)
     · (try dsimp only); (exact HSV.out _ HB2.out)
     clear hK K
     try simp only [op14_7_8, ksz]
     refine wpAnyH_ready (rs := [4]) (by kernel_rfl) (by simp) ?_
     refine AllReadyH.cons (o := op14_7_4) rfl (fun K hK => ?_) AllReadyH.nil
     delta op14_7_4
     go_simp
     (refine (Setup_any 4 1 1000 [(-1000, -1000), (-1000, -1000), (-500, -500), (200, 200)] ag1 cg1 0 0 3000 3000 512 512 3 0 2000 2000 _ (HDR.out.later HB2.out) (HG1.out.later HB2.out (Nat.le_refl _))).mono ?_; rintro e W3 ⟨rfl, hb⟩; have hbz : Below W2.heap.size W2 W3 := hb; clear hb; have HB3 := Lib.hid (HB2.out.trans (hbz.mono HB2.out.size)); have Mb11 := Lib.hid (Nb11.out.below hbz Nb11.out.lt); clear Nb11; have Nb11 := Mb11; clear Mb11; clear hbz; rw [kn_setup2.1, kn_setup2.2]; simp only [spV])
     refine hK.out _ _ ?_ (fun hHeld => ?_)
     · (try dsimp only); (exact HSV.out _ HB3.out)
     clear hK K
     try simp only [op14_7_4, ksz]
     refine wpAnyH_take (i := 5) (oi := op14_7_5) (v := ?_) rfl (by kernel_rfl) (by kernel_rfl) (by kernel_rfl) (fun _ _ _ h => h) (Or.inl ⟨by rfl, ?_⟩) (by assumption) ?_
     rotate_left
     · ((intro w hSw; delta op14_7_5; (try dsimp only at hSw); go_simp) <;> with_reducible rfl)
     try simp only [op14_7_5, ksz]
     refine wpAnyH_take (i := 6) (oi := op14_7_6) (v := ?_) rfl (by kernel_rfl) (by kernel_rfl) (by kernel_rfl) (fun _ _ _ h => h) (Or.inl ⟨by rfl, ?_⟩) (by assumption) ?_
     rotate_left
     · ((intro w hSw; delta op14_7_6; (try dsimp only at hSw); go_simp) <;> with_reducible rfl)
     try simp only [op14_7_6, ksz]
     refine wpAnyH_take (i := 7) (oi := op14_7_7) (v := ?_) rfl (by kernel_rfl) (by kernel_rfl) (by kernel_rfl) (fun _ _ _ h => h) (Or.inl ⟨by rfl, ?_⟩) (by assumption) ?_
     rotate_left
     · ((intro w hSw; delta op14_7_7; (try dsimp only at hSw); go_simp) <;> with_reducible rfl)
     try simp only [op14_7_7, ksz]
     have cR0 := Nb11.out.cell 0; have zR0 := Nb11.out.frozen 0; have cR1 := Nb11.out.cell 1; have zR1 := Nb11.out.frozen 1; simp only [List.getElem?_toArray, List.getElem?_cons_zero, List.getElem?_cons_succ] at cR0 cR1
     refine wpAnyH_ready (rs := [9]) (by kernel_rfl) (by simp) ?_
     refine AllReadyH.cons (o := op14_7_9) rfl (fun K hK => ?_) AllReadyH.nil
     delta op14_7_9
     go_simp
     refine hK.out _ _ ?_ (fun hHeld => ?_)
     · (try dsimp only); (exact HSV.out _ ((HB3.out.setCell (p := ⟨b11, 0, none⟩) (by exact hb11) _).setCell (p := ⟨b11, 1, none⟩) (by exact hb11) _))
     clear hK K
     try simp only [op14_7_9, ksz]
     obtain ⟨X0, hV⟩ : ∃ V, (W3.setCell ⟨b11, 0, none⟩ (.int .i64 (1252))).setCell ⟨b11, 1, none⟩ (.int .i64 (1255)) = V := ⟨_, rfl⟩; have Gb11 : Hid (Blk X0 b11 26 #[.int .i64 (1252), .int .i64 (1255)]) := (by rw [← hV]; exact ((Nb11.out.set_ 0 (.int .i64 (1252))).set_ 1 (.int .i64 (1255)))); have GHB : Hid (Below Va8.heap.size Va8 X0) := (by rw [← hV]; exact ((HB3.out.setCell (p := ⟨b11, 0, none⟩) (by exact hb11) _).setCell (p := ⟨b11, 1, none⟩) (by exact hb11) _)); rw [hV]; rw [hV] at hHeld; clear hV cR0 zR0 cR1 zR1 Nb11; have HBX := GHB; clear GHB; have Nb11 := Gb11; clear Gb11
     refine wpAnyH_take (i := 10) (oi := op14_7_10) (v := ?_) rfl (by kernel_rfl) (by kernel_rfl) (by kernel_rfl) (fun _ _ _ h => h) (Or.inl ⟨by rfl, ?_⟩) (by assumption) ?_
     rotate_left
     · ((intro w hSw; delta op14_7_10; (try dsimp only at hSw); go_simp) <;> with_reducible rfl)
     try simp only [op14_7_10, ksz]
     refine wpAnyH_done (by kernel_rfl) ?_ _
     refine NoPanic.normal ?_
     go_wp2_with fail
     go_meet
     exact ⟨rfl, b11, rfl, Nb11.out, (by exact hb11), HBX.out⟩
    exact AllReadyH.nil
   refine AllReadyH.cons (o := op14_7_8) rfl (fun K hK => ?_) ?_
   ·
    delta op14_7_8
    go_simp
    obtain ⟨W1, hV⟩ : ∃ V, W0.alloc (.cells #[.int .i64 (0), .int .i64 (0)] 26) = V := ⟨_, rfl⟩; have hbz : Below W0.heap.size W0 W1 := (by rw [← hV]; exact (Below.refl _ _).alloc (Nat.le_refl _) _); have HB1 := Lib.hid (HB0.out.trans (hbz.mono HB0.out.size)); have Nb11' : Hid (Blk W1 W0.heap.size 26 #[.int .i64 (0), .int .i64 (0)]) := (by rw [← hV]; exact Blk.new' _ _ _ rfl); obtain ⟨b11, hz⟩ : ∃ b, W0.heap.size = b := ⟨_, rfl⟩; rw [hz] at Nb11'; have hb11 : Va8.heap.size ≤ b11 := (by rw [← hz]; exact HB0.out.size); have Nb11 := Nb11'; clear Nb11'; rw [hV, hz]; clear hV hbz hz
    refine hK.out _ _ ?_ (fun hHeld => ?_)
    · (try dsimp only); (exact HSV.out _ HB1.out)
    clear hK K
    try simp only [op14_7_8, ksz]
    refine wpAnyH_ready (rs := [3]) (by kernel_rfl) (by simp) ?_
    refine AllReadyH.cons (o := op14_7_3) rfl (fun K hK => ?_) AllReadyH.nil
    delta op14_7_3
    go_simp
    (refine (point_any _ _).mono ?_; rintro e W2 ⟨rfl, hb⟩; have hbz : Below W1.heap.size W1 W2 := hb; clear hb; have HB2 := Lib.hid (HB1.out.trans (hbz.mono HB1.out.size)); have Mb11 := Lib.hid (Nb11.out.below hbz Nb11.out.lt); clear Nb11; have Nb11 := Mb11; clear Mb11; clear hbz)
    refine hK.out _ _ ?_ (fun hHeld => ?_)
    · (try dsimp only); (exact HSV.out _ HB2.out)
    clear hK K
    try simp only [op14_7_3, ksz]
    refine wpAnyH_ready (rs := [4]) (by kernel_rfl) (by simp) ?_
    refine AllReadyH.cons (o := op14_7_4) rfl (fun K hK => ?_) AllReadyH.nil
    delta op14_7_4
    go_simp
    (refine (Setup_any 4 1 1000 [(-1000, -1000), (-1000, -1000), (-500, -500), (200, 200)] ag1 cg1 0 0 3000 3000 512 512 3 0 2000 2000 _ (HDR.out.later HB2.out) (HG1.out.later HB2.out (Nat.le_refl _))).mono ?_; rintro e W3 ⟨rfl, hb⟩; have hbz : Below W2.heap.size W2 W3 := hb; clear hb; have HB3 := Lib.hid (HB2.out.trans (hbz.mono HB2.out.size)); have Mb11 := Lib.hid (Nb11.out.below hbz Nb11.out.lt); clear Nb11; have Nb11 := Mb11; clear Mb11; clear hbz; rw [kn_setup2.1, kn_setup2.2]; simp only [spV])
    refine hK.out _ _ ?_ (fun hHeld => ?_)
    · (try dsimp only); (exact HSV.out _ HB3.out)
    clear hK K
    try simp only [op14_7_4, ksz]
    refine wpAnyH_take (i := 5) (oi := op14_7_5) (v := ?_) rfl (by kernel_rfl) (by kernel_rfl) (by kernel_rfl) (fun _ _ _ h => h) (Or.inl ⟨by rfl, ?_⟩) (by assumption) ?_
    rotate_left
    · ((intro w hSw; delta op14_7_5; (try dsimp only at hSw); go_simp) <;> with_reducible rfl)
    try simp only [op14_7_5, ksz]
    refine wpAnyH_take (i := 6) (oi := op14_7_6) (v := ?_) rfl (by kernel_rfl) (by kernel_rfl) (by kernel_rfl) (fun _ _ _ h => h) (Or.inl ⟨by rfl, ?_⟩) (by assumption) ?_
    rotate_left
    · ((intro w hSw; delta op14_7_6; (try dsimp only at hSw); go_simp) <;> with_reducible rfl)
    try simp only [op14_7_6, ksz]
    refine wpAnyH_take (i := 7) (oi := op14_7_7) (v := ?_) rfl (by kernel_rfl) (by kernel_rfl) (by kernel_rfl) (fun _ _ _ h => h) (Or.inl ⟨by rfl, ?_⟩) (by assumption) ?_
    rotate_left
    · ((intro w hSw; delta op14_7_7; (try dsimp only at hSw); go_simp) <;> with_reducible rfl)
    try simp only [op14_7_7, ksz]
    have cR0 := Nb11.out.cell 0; have zR0 := Nb11.out.frozen 0; have cR1 := Nb11.out.cell 1; have zR1 := Nb11.out.frozen 1; simp only [List.getElem?_toArray, List.getElem?_cons_zero, List.getElem?_cons_succ] at cR0 cR1
    refine wpAnyH_ready (rs := [9]) (by kernel_rfl) (by simp) ?_
    refine AllReadyH.cons (o := op14_7_9) rfl (fun K hK => ?_) AllReadyH.nil
    delta op14_7_9
    go_simp
    refine hK.out _ _ ?_ (fun hHeld => ?_)
    · (try dsimp only); (exact HSV.out _ ((HB3.out.setCell (p := ⟨b11, 0, none⟩) (by exact hb11) _).setCell (p := ⟨b11, 1, none⟩) (by exact hb11) _))
    clear hK K
    try simp only [op14_7_9, ksz]
    obtain ⟨X0, hV⟩ : ∃ V, (W3.setCell ⟨b11, 0, none⟩ (.int .i64 (1252))).setCell ⟨b11, 1, none⟩ (.int .i64 (1255)) = V := ⟨_, rfl⟩; have Gb11 : Hid (Blk X0 b11 26 #[.int .i64 (1252), .int .i64 (1255)]) := (by rw [← hV]; exact ((Nb11.out.set_ 0 (.int .i64 (1252))).set_ 1 (.int .i64 (1255)))); have GHB : Hid (Below Va8.heap.size Va8 X0) := (by rw [← hV]; exact ((HB3.out.setCell (p := ⟨b11, 0, none⟩) (by exact hb11) _).setCell (p := ⟨b11, 1, none⟩) (by exact hb11) _)); rw [hV]; rw [hV] at hHeld; clear hV cR0 zR0 cR1 zR1 Nb11; have HBX := GHB; clear GHB; have Nb11 := Gb11; clear Gb11
    refine wpAnyH_take (i := 10) (oi := op14_7_10) (v := ?_) rfl (by kernel_rfl) (by kernel_rfl) (by kernel_rfl) (fun _ _ _ h => h) (Or.inl ⟨by rfl, ?_⟩) (by assumption) ?_
    rotate_left
    · ((intro w hSw; delta op14_7_10; (try dsimp only at hSw); go_simp) <;> with_reducible rfl)
    try simp only [op14_7_10, ksz]
    refine wpAnyH_done (by kernel_rfl) ?_ _
    refine NoPanic.normal ?_
    go_wp2_with fail
    go_meet
    exact ⟨rfl, b11, rfl, Nb11.out, (by exact hb11), HBX.out⟩
   exact AllReadyH.nil
  case rest =>
   obtain ⟨rfl, b11, rfl, Jb11, eb11, hb⟩ := hcut
   obtain ⟨Va9, rfl⟩ : ∃ V, V = wc := ⟨_, rfl⟩
   have HZ := Lib.hid hb
   have Kb11 := Lib.hid Jb11
   clear Jb11
   have nb1b11 : ¬ b1 = b11 := by have := Hb1.out.lt; omega
   have nb11b1 : ¬ b11 = b1 := fun e => nb1b11 e.symm
   have nb2b11 : ¬ b2 = b11 := by have := Hb2.out.lt; omega
   have nb11b2 : ¬ b11 = b2 := fun e => nb2b11 e.symm
   have nb3b11 : ¬ b3 = b11 := by have := Hb3.out.lt; omega
   have nb11b3 : ¬ b11 = b3 := fun e => nb3b11 e.symm
   have nb10b11 : ¬ b10 = b11 := by have := Hb10.out.lt; omega
   have nb11b10 : ¬ b11 = b10 := fun e => nb10b11 e.symm
   have gb11 : w.heap.size ≤ b11 := Nat.le_trans HB.out.size eb11
   clear eb11
   clear hb HSV k0
   replace Hb1 := kbl Hb1 HZ
   replace Hb2 := kbl Hb2 HZ
   replace Hb3 := kbl Hb3 HZ
   replace Hb10 := kbl Hb10 HZ
   replace HB := ktr' HB HZ
   replace HDR := Lib.hid (HDR.out.later HZ.out)
   replace HG1 := Lib.hid (HG1.out.later HZ.out (Nat.le_refl _))
   replace HU1 := Lib.hid (HU1.out.later HZ.out (Nat.le_refl _))
   replace HV1 := Lib.hid (HV1.out.later HZ.out (Nat.le_refl _))
   replace HU2 := Lib.hid (HU2.out.later HZ.out (Nat.le_refl _))
   replace HV2 := Lib.hid (HV2.out.later HZ.out (Nat.le_refl _))
   clear HZ
   have Hb11 := Kb11
   clear Kb11
   go_upto_region 8 with (fail)
   have HSV : Hid (∀ U, Below Va9.heap.size Va9 U → U.cell? ⟨b1, 0, none⟩ = some (.int .i64 (4)) ∧ U.cell? ⟨b1, 1, none⟩ = some (.int .i64 (1)) ∧ U.cell? ⟨b1, 2, none⟩ = some (.int .i64 (1000)) ∧ U.cell? ⟨b1, 3, none⟩ = some (.slice ag1 4 cg1) ∧ U.cell? ⟨b2, 0, none⟩ = some (.int .i64 (3000)) ∧ U.cell? ⟨b2, 1, none⟩ = some (.int .i64 (3000)) ∧ U.cell? ⟨b2, 2, none⟩ = some (.int .i64 (512)) ∧ U.cell? ⟨b2, 3, none⟩ = some (.int .i64 (512)) ∧ U.cell? ⟨b3, 0, none⟩ = some (.int .i64 (0)) ∧ U.cell? ⟨b3, 1, none⟩ = some (.int .i64 (0))) := fun U hU => by
    have kb1 := Hb1.out.below hU Hb1.out.lt
    have kb2 := Hb2.out.below hU Hb2.out.lt
    have kb3 := Hb3.out.below hU Hb3.out.lt
    exact ⟨kb1.cell 0, kb1.cell 1, kb1.cell 2, kb1.cell 3, kb2.cell 0, kb2.cell 1, kb2.cell 2, kb2.cell 3, kb3.cell 0, kb3.cell 1⟩
   have k0 := HSV.out _ (Below.drew (Below.refl Va9.heap.size Va9))
   go_cut [12, 13] from 91 to 99 (fun pq0 pe0 wx => pe0 = .int .i64 (0) ∧ OneBx Va9 26 #[.int .i64 (3235), .int .i64 (3238)] pq0 wx)
   case first =>
    refine wp_region_noPanic ?_
    refine wp_region_held_drew (S := (fun w' => w'.cell? ⟨b1, 0, none⟩ = some (.int .i64 (4)) ∧ w'.cell? ⟨b1, 1, none⟩ = some (.int .i64 (1)) ∧ w'.cell? ⟨b1, 2, none⟩ = some (.int .i64 (1000)) ∧ w'.cell? ⟨b1, 3, none⟩ = some (.slice ag1 4 cg1) ∧ w'.cell? ⟨b2, 0, none⟩ = some (.int .i64 (3000)) ∧ w'.cell? ⟨b2, 1, none⟩ = some (.int .i64 (3000)) ∧ w'.cell? ⟨b2, 2, none⟩ = some (.int .i64 (512)) ∧ w'.cell? ⟨b2, 3, none⟩ = some (.int .i64 (512)) ∧ w'.cell? ⟨b3, 0, none⟩ = some (.int .i64 (0)) ∧ w'.cell? ⟨b3, 1, none⟩ = some (.int .i64 (0)))) (by kernel_rfl) ?_ (fun hHeld => ?_)
    · (try dsimp only); (exact k0)
    refine wpAnyH_take (i := 0) (oi := op14_8_0) (v := ?_) rfl (by kernel_rfl) (by kernel_rfl) (by kernel_rfl) (fun _ _ _ h => h) (Or.inl ⟨by rfl, ?_⟩) (by assumption) ?_
    rotate_left
    · ((intro w hSw; delta op14_8_0; (try dsimp only at hSw); go_simp) <;> with_reducible rfl)
    try simp only [op14_8_0, ksz]
    refine wpAnyH_take (i := 1) (oi := op14_8_1) (v := ?_) rfl (by kernel_rfl) (by kernel_rfl) (by kernel_rfl) (fun _ _ _ h => h) (Or.inl ⟨by rfl, ?_⟩) (by assumption) ?_
    rotate_left
    · ((intro w hSw; delta op14_8_1; (try dsimp only at hSw); go_simp) <;> with_reducible rfl)
    try simp only [op14_8_1, ksz]
    refine wpAnyH_take (i := 2) (oi := op14_8_2) (v := ?_) rfl (by kernel_rfl) (by kernel_rfl) (by kernel_rfl) (fun _ _ _ h => h) (Or.inl ⟨by rfl, ?_⟩) (by assumption) ?_
    rotate_left
    · ((intro w hSw; delta op14_8_2; (try dsimp only at hSw); go_simp) <;> with_reducible rfl)
    try simp only [op14_8_2, ksz]
    obtain ⟨W0, hW0⟩ : ∃ V, Va9.drew = V := ⟨_, rfl⟩; rw [hW0] at hHeld ⊢; have HB0 : Hid (Below Va9.heap.size Va9 W0) := (by rw [← hW0]; exact Below.drew (Below.refl _ _)); clear hW0
    refine wpAnyH_ready (rs := [3, 8]) (by kernel_rfl) (by simp) ?_
    refine AllReadyH.cons (o := op14_8_3) rfl (fun K hK => ?_) ?_
    ·
     delta op14_8_3
     go_simp
     (refine (W_any _ _ _).mono ?_; rintro e W1 ⟨rfl, hb⟩; have hbz : Below W0.heap.size W0 W1 := hb; clear hb; have HB1 := Lib.hid (HB0.out.trans (hbz.mono HB0.out.size)); clear hbz)
     refine hK.out _ _ ?_ (fun hHeld => ?_)
     · (try dsimp only); (exact HSV.out _ HB1.out)
     clear hK K
     try simp only [op14_8_3, ksz]
     refine wpAnyH_ready (rs := [4, 8]) (by kernel_rfl) (by simp) ?_
     refine AllReadyH.cons (o := op14_8_4) rfl (fun K hK => ?_) ?_
     ·
      delta op14_8_4
      go_simp
      (refine (Steady_any 4 1 1000 [(-1000, -1000), (-1000, -1000), (-500, -500), (200, 200)] ag1 cg1 0 0 3000 3000 512 512 2 2000 2000 1 1000 1000 _ (HDR.out.later HB1.out) (HG1.out.later HB1.out (Nat.le_refl _))).mono ?_; rintro e W2 ⟨rfl, hb⟩; have hbz : Below W1.heap.size W1 W2 := hb; clear hb; have HB2 := Lib.hid (HB1.out.trans (hbz.mono HB1.out.size)); clear hbz; rw [kn_steady.1, kn_steady.2]; simp only [spV])
      refine hK.out _ _ ?_ (fun hHeld => ?_)
      · (try dsimp only); (exact HSV.out _ HB2.out)
      clear hK K
      try simp only [op14_8_4, ksz]
      refine wpAnyH_take (i := 5) (oi := op14_8_5) (v := ?_) rfl (by kernel_rfl) (by kernel_rfl) (by kernel_rfl) (fun _ _ _ h => h) (Or.inl ⟨by rfl, ?_⟩) (by assumption) ?_
      rotate_left
      · ((intro w hSw; delta op14_8_5; (try dsimp only at hSw); go_simp) <;> with_reducible rfl)
      try simp only [op14_8_5, ksz]
      refine wpAnyH_take (i := 6) (oi := op14_8_6) (v := ?_) rfl (by kernel_rfl) (by kernel_rfl) (by kernel_rfl) (fun _ _ _ h => h) (Or.inl ⟨by rfl, ?_⟩) (by assumption) ?_
      rotate_left
      · ((intro w hSw; delta op14_8_6; (try dsimp only at hSw); go_simp) <;> with_reducible rfl)
      try simp only [op14_8_6, ksz]
      refine wpAnyH_take (i := 7) (oi := op14_8_7) (v := ?_) rfl (by kernel_rfl) (by kernel_rfl) (by kernel_rfl) (fun _ _ _ h => h) (Or.inl ⟨by rfl, ?_⟩) (by assumption) ?_
      rotate_left
      · ((intro w hSw; delta op14_8_7; (try dsimp only at hSw); go_simp) <;> with_reducible rfl)
      try simp only [op14_8_7, ksz]
      refine wpAnyH_ready (rs := [8]) (by kernel_rfl) (by simp) ?_
      refine AllReadyH.cons (o := op14_8_8) rfl (fun K hK => ?_) AllReadyH.nil
      delta op14_8_8
      go_simp
      obtain ⟨W3, hV⟩ : ∃ V, W2.alloc (.cells #[.int .i64 (0), .int .i64 (0)] 26) = V := ⟨_, rfl⟩; have hbz : Below W2.heap.size W2 W3 := (by rw [← hV]; exact (Below.refl _ _).alloc (Nat.le_refl _) _); have HB3 := Lib.hid (HB2.out.trans (hbz.mono HB2.out.size)); have Nb12' : Hid (Blk W3 W2.heap.size 26 #[.int .i64 (0), .int .i64 (0)]) := (by rw [← hV]; exact Blk.new' _ _ _ rfl); obtain ⟨b12, hz⟩ : ∃ b, W2.heap.size = b := ⟨_, rfl⟩; rw [hz] at Nb12'; have hb12 : Va9.heap.size ≤ b12 := (by rw [← hz]; exact HB2.out.size); have Nb12 := Nb12'; clear Nb12'; rw [hV, hz]; clear hV hbz hz
      refine hK.out _ _ ?_ (fun hHeld => ?_)
      · (try dsimp only); (exact HSV.out _ HB3.out)
      clear hK K
      try simp only [op14_8_8, ksz]
      have cR0 := Nb12.out.cell 0; have zR0 := Nb12.out.frozen 0; have cR1 := Nb12.out.cell 1; have zR1 := Nb12.out.frozen 1; simp only [List.getElem?_toArray, List.getElem?_cons_zero, List.getElem?_cons_succ] at cR0 cR1
      refine wpAnyH_ready (rs := [9]) (by kernel_rfl) (by simp) ?_
      refine AllReadyH.cons (o := op14_8_9) rfl (fun K hK => ?_) AllReadyH.nil
      delta op14_8_9
      go_simp
      refine hK.out _ _ ?_ (fun hHeld => ?_)
      · (try dsimp only); (exact HSV.out _ ((HB3.out.setCell (p := ⟨b12, 0, none⟩) (by exact hb12) _).setCell (p := ⟨b12, 1, none⟩) (by exact hb12) _))
      clear hK K
      try simp only [op14_8_9, ksz]
      obtain ⟨X0, hV⟩ : ∃ V, (W3.setCell ⟨b12, 0, none⟩ (.int .i64 (3235))).setCell ⟨b12, 1, none⟩ (.int .i64 (3238)) = V := ⟨_, rfl⟩; have Gb12 : Hid (Blk X0 b12 26 #[.int .i64 (3235), .int .i64 (3238)]) := (by rw [← hV]; exact ((Nb12.out.set_ 0 (.int .i64 (3235))).set_ 1 (.int .i64 (3238)))); have GHB : Hid (Below Va9.heap.size Va9 X0) := (by rw [← hV]; exact ((HB3.out.setCell (p := ⟨b12, 0, none⟩) (by exact hb12) _).setCell (p := ⟨b12, 1, none⟩) (by exact hb12) _)); rw [hV]; rw [hV] at hHeld; clear hV cR0 zR0 cR1 zR1 Nb12; have HBX := GHB; clear GHB; have Nb12 := Gb12; clear Gb12
      refine wpAnyH_take (i := 10) (oi := op14_8_10) (v := ?_) rfl (by kernel_rfl) (by kernel_rfl) (by kernel_rfl) (fun _ _ _ h => h) (Or.inl ⟨by rfl, ?_⟩) (by assumption) ?_
      rotate_left
      · ((intro w hSw; delta op14_8_10; (try dsimp only at hSw); go_simp) <;> with_reducible rfl)
      try simp only [op14_8_10, ksz]
      refine wpAnyH_done (by kernel_rfl) ?_ _
      refine NoPanic.normal ?_
      go_wp2_with fail
      go_meet
      exact ⟨rfl, b12, rfl, Nb12.out, (by exact hb12), HBX.out⟩
     refine AllReadyH.cons (o := op14_8_8) rfl (fun K hK => ?_) ?_
     ·
      delta op14_8_8
      go_simp
      obtain ⟨W2, hV⟩ : ∃ V, W1.alloc (.cells #[.int .i64 (0), .int .i64 (0)] 26) = V := ⟨_, rfl⟩; have hbz : Below W1.heap.size W1 W2 := (by rw [← hV]; exact (Below.refl _ _).alloc (Nat.le_refl _) _); have HB2 := Lib.hid (HB1.out.trans (hbz.mono HB1.out.size)); have Nb12' : Hid (Blk W2 W1.heap.size 26 #[.int .i64 (0), .int .i64 (0)]) := (by rw [← hV]; exact Blk.new' _ _ _ rfl); obtain ⟨b12, hz⟩ : ∃ b, W1.heap.size = b := ⟨_, rfl⟩; rw [hz] at Nb12'; have hb12 : Va9.heap.size ≤ b12 := (by rw [← hz]; exact HB1.out.size); have Nb12 := Nb12'; clear Nb12'; rw [hV, hz]; clear hV hbz hz
      refine hK.out _ _ ?_ (fun hHeld => ?_)
      · (try dsimp only); (exact HSV.out _ HB2.out)
      clear hK K
      try simp only [op14_8_8, ksz]
      refine wpAnyH_ready (rs := [4]) (by kernel_rfl) (by simp) ?_
      refine AllReadyH.cons (o := op14_8_4) rfl (fun K hK => ?_) AllReadyH.nil
      delta op14_8_4
      go_simp
      (refine (Steady_any 4 1 1000 [(-1000, -1000), (-1000, -1000), (-500, -500), (200, 200)] ag1 cg1 0 0 3000 3000 512 512 2 2000 2000 1 1000 1000 _ (HDR.out.later HB2.out) (HG1.out.later HB2.out (Nat.le_refl _))).mono ?_; rintro e W3 ⟨rfl, hb⟩; have hbz : Below W2.heap.size W2 W3 := hb; clear hb; have HB3 := Lib.hid (HB2.out.trans (hbz.mono HB2.out.size)); have Mb12 := Lib.hid (Nb12.out.below hbz Nb12.out.lt); clear Nb12; have Nb12 := Mb12; clear Mb12; clear hbz; rw [kn_steady.1, kn_steady.2]; simp only [spV])
      refine hK.out _ _ ?_ (fun hHeld => ?_)
      · (try dsimp only); (exact HSV.out _ HB3.out)
      clear hK K
      try simp only [op14_8_4, ksz]
      refine wpAnyH_take (i := 5) (oi := op14_8_5) (v := ?_) rfl (by kernel_rfl) (by kernel_rfl) (by kernel_rfl) (fun _ _ _ h => h) (Or.inl ⟨by rfl, ?_⟩) (by assumption) ?_
      rotate_left
      · ((intro w hSw; delta op14_8_5; (try dsimp only at hSw); go_simp) <;> with_reducible rfl)
      try simp only [op14_8_5, ksz]
      refine wpAnyH_take (i := 6) (oi := op14_8_6) (v := ?_) rfl (by kernel_rfl) (by kernel_rfl) (by kernel_rfl) (fun _ _ _ h => h) (Or.inl ⟨by rfl, ?_⟩) (by assumption) ?_
      rotate_left
      · ((intro w hSw; delta op14_8_6; (try dsimp only at hSw); go_simp) <;> with_reducible rfl)
      try simp only [op14_8_6, ksz]
      refine wpAnyH_take (i := 7) (oi := op14_8_7) (v := ?_) rfl (by kernel_rfl) (by kernel_rfl) (by kernel_rfl) (fun _ _ _ h => h) (Or.inl ⟨by rfl, ?_⟩) (by assumption) ?_
      rotate_left
      · ((intro w hSw; delta op14_8_7; (try dsimp only at hSw); go_simp) <;> with_reducible rfl)
      try simp only [op14_8_7, ksz]
      have cR0 := Nb12.out.cell 0; have zR0 := Nb12.out.frozen 0; have cR1 := Nb12.out.cell 1; have zR1 := Nb12.out.frozen 1; simp only [List.getElem?_toArray, List.getElem?_cons_zero, List.getElem?_cons_succ] at cR0 cR1
      refine wpAnyH_ready (rs := [9]) (by kernel_rfl) (by simp) ?_
      refine AllReadyH.cons (o := op14_8_9) rfl (fun K hK => ?_) AllReadyH.nil
      delta op14_8_9
      go_simp
      refine hK.out _ _ ?_ (fun hHeld => ?_)
      · (try dsimp only); (exact HSV.out _ ((HB3.out.setCell (p := ⟨b12, 0, none⟩) (by exact hb12) _).setCell (p := ⟨b12, 1, none⟩) (by exact hb12) _))
      clear hK K
      try simp only [op14_8_9, ksz]
      obtain ⟨X0, hV⟩ : ∃ V, (W3.setCell ⟨b12, 0, none⟩ (.int .i64 (3235))).setCell ⟨b12, 1, none⟩ (.int .i64 (3238)) = V := ⟨_, rfl⟩; have Gb12 : Hid (Blk X0 b12 26 #[.int .i64 (3235), .int .i64 (3238)]) := (by rw [← hV]; exact ((Nb12.out.set_ 0 (.int .i64 (3235))).set_ 1 (.int .i64 (3238)))); have GHB : Hid (Below Va9.heap.size Va9 X0) := (by rw [← hV]; exact ((HB3.out.setCell (p := ⟨b12, 0, none⟩) (by exact hb12) _).setCell (p := ⟨b12, 1, none⟩) (by exact hb12) _)); rw [hV]; rw [hV] at hHeld; clear hV cR0 zR0 cR1 zR1 Nb12; have HBX := GHB; clear GHB; have Nb12 := Gb12; clear Gb12
      refine wpAnyH_take (i := 10) (oi := op14_8_10) (v := ?_) rfl (by kernel_rfl) (by kernel_rfl) (by kernel_rfl) (fun _ _ _ h => h) (Or.inl ⟨by rfl, ?_⟩) (by assumption) ?_
      rotate_left
      · ((intro w hSw; delta op14_8_10; (try dsimp only at hSw); go_simp) <;> with_reducible rfl)
      try simp only [op14_8_10, ksz]
      refine wpAnyH_done (by kernel_rfl) ?_ _
      refine NoPanic.normal ?_
      go_wp2_with fail
      go_meet
      exact ⟨rfl, b12, rfl, Nb12.out, (by exact hb12), HBX.out⟩
     exact AllReadyH.nil
    refine AllReadyH.cons (o := op14_8_8) rfl (fun K hK => ?_) ?_
    ·
     delta op14_8_8
     go_simp
     obtain ⟨W1, hV⟩ : ∃ V, W0.alloc (.cells #[.int .i64 (0), .int .i64 (0)] 26) = V := ⟨_, rfl⟩; have hbz : Below W0.heap.size W0 W1 := (by rw [← hV]; exact (Below.refl _ _).alloc (Nat.le_refl _) _); have HB1 := Lib.hid (HB0.out.trans (hbz.mono HB0.out.size)); have Nb12' : Hid (Blk W1 W0.heap.size 26 #[.int .i64 (0), .int .i64 (0)]) := (by rw [← hV]; exact Blk.new' _ _ _ rfl); obtain ⟨b12, hz⟩ : ∃ b, W0.heap.size = b := ⟨_, rfl⟩; rw [hz] at Nb12'; have hb12 : Va9.heap.size ≤ b12 := (by rw [← hz]; exact HB0.out.size); have Nb12 := Nb12'; clear Nb12'; rw [hV, hz]; clear hV hbz hz
     refine hK.out _ _ ?_ (fun hHeld => ?_)
     · (try dsimp only); (exact HSV.out _ HB1.out)
     clear hK K
     try simp only [op14_8_8, ksz]
     refine wpAnyH_ready (rs := [3]) (by kernel_rfl) (by simp) ?_
     refine AllReadyH.cons (o := op14_8_3) rfl (fun K hK => ?_) AllReadyH.nil
     delta op14_8_3
     go_simp
     (refine (W_any _ _ _).mono ?_; rintro e W2 ⟨rfl, hb⟩; have hbz : Below W1.heap.size W1 W2 := hb; clear hb; have HB2 := Lib.hid (HB1.out.trans (hbz.mono HB1.out.size)); have Mb12 := Lib.hid (Nb12.out.below hbz Nb12.out.lt); clear Nb12; have Nb12 := Mb12; clear Mb12; clear hbz)
     refine hK.out _ _ ?_ (fun hHeld => ?_)
     · (try dsimp only); (exact HSV.out _ HB2.out)
     clear hK K
     try simp only [op14_8_3, ksz]
     refine wpAnyH_ready (rs := [4]) (by kernel_rfl) (by simp) ?_
     refine AllReadyH.cons (o := op14_8_4) rfl (fun K hK => ?_) AllReadyH.nil
     delta op14_8_4
     go_simp
     (refine (Steady_any 4 1 1000 [(-1000, -1000), (-1000, -1000), (-500, -500), (200, 200)] ag1 cg1 0 0 3000 3000 512 512 2 2000 2000 1 1000 1000 _ (HDR.out.later HB2.out) (HG1.out.later HB2.out (Nat.le_refl _))).mono ?_; rintro e W3 ⟨rfl, hb⟩; have hbz : Below W2.heap.size W2 W3 := hb; clear hb; have HB3 := Lib.hid (HB2.out.trans (hbz.mono HB2.out.size)); have Mb12 := Lib.hid (Nb12.out.below hbz Nb12.out.lt); clear Nb12; have Nb12 := Mb12; clear Mb12; clear hbz; rw [kn_steady.1, kn_steady.2]; simp only [spV])
     refine hK.out _ _ ?_ (fun hHeld => ?_)
     · (try dsimp only); (exact HSV.out _ HB3.out)
     clear hK K
     try simp only [op14_8_4, ksz]
     refine wpAnyH_take (i := 5) (oi := op14_8_5) (v := ?_) rfl (by kernel_rfl) (by kernel_rfl) (by kernel_rfl) (fun _ _ _ h => h) (Or.inl ⟨by rfl, ?_⟩) (by assumption) ?_
     rotate_left
     · ((intro w hSw; delta op14_8_5; (try dsimp only at hSw); go_simp) <;> with_reducible rfl)
     try simp only [op14_8_5, ksz]
     refine wpAnyH_take (i := 6) (oi := op14_8_6) (v := ?_) rfl (by kernel_rfl) (by kernel_rfl) (by kernel_rfl) (fun _ _ _ h => h) (Or.inl ⟨by rfl, ?_⟩) (by assumption) ?_
     rotate_left
     · ((intro w hSw; delta op14_8_6; (try dsimp only at hSw); go_simp) <;> with_reducible rfl)
     try simp only [op14_8_6, ksz]
     refine wpAnyH_take (i := 7) (oi := op14_8_7) (v := ?_) rfl (by kernel_rfl) (by kernel_rfl) (by kernel_rfl) (fun _ _ _ h => h) (Or.inl ⟨by rfl, ?_⟩) (by assumption) ?_
     rotate_left
     · ((intro w hSw; delta op14_8_7; (try dsimp only at hSw); go_simp) <;> with_reducible rfl)
     try simp only [op14_8_7, ksz]
     have cR0 := Nb12.out.cell 0; have zR0 := Nb12.out.frozen 0; have cR1 := Nb12.out.cell 1; have zR1 := Nb12.out.frozen 1; simp only [List.getElem?_toArray, List.getElem?_cons_zero, List.getElem?_cons_succ] at cR0 cR1
     refine wpAnyH_ready (rs := [9]) (by kernel_rfl) (by simp) ?_
     refine AllReadyH.cons (o := op14_8_9) rfl (fun K hK => ?_) AllReadyH.nil
     delta op14_8_9
     go_simp
     refine hK.out _ _ ?_ (fun hHeld => ?_)
     · (try dsimp only); (exact HSV.out _ ((HB3.out.setCell (p := ⟨b12, 0, none⟩) (by exact hb12) _).setCell (p := ⟨b12, 1, none⟩) (by exact hb12) _))
     clear hK K
     try simp only [op14_8_9, ksz]
     obtain ⟨X0, hV⟩ : ∃ V, (W3.setCell ⟨b12, 0, none⟩ (.int .i64 (3235))).setCell ⟨b12, 1, none⟩ (.int .i64 (3238)) = V := ⟨_, rfl⟩; have Gb12 : Hid (Blk X0 b12 26 #[.int .i64 (3235), .int .i64 (3238)]) := (by rw [← hV]; exact ((Nb12.out.set_ 0 (.int .i64 (3235))).set_ 1 (.int .i64 (3238)))); have GHB : Hid (Below Va9.heap.size Va9 X0) := (by rw [← hV]; exact ((HB3.out.setCell (p := ⟨b12, 0, none⟩) (by exact hb12) _).setCell (p := ⟨b12, 1, none⟩) (by exact hb12) _)); rw [hV]; rw [hV] at hHeld; clear hV cR0 zR0 cR1 zR1 Nb12; have HBX := GHB; clear GHB; have Nb12 := Gb12; clear Gb12
     refine wpAnyH_take (i := 10) (oi := op14_8_10) (v := ?_) rfl (by kernel_rfl) (by kernel_rfl) (by kernel_rfl) (fun _ _ _ h => h) (Or.inl ⟨by rfl, ?_⟩) (by assumption) ?_
     rotate_left
     · ((intro w hSw; delta op14_8_10; (try dsimp only at hSw); go_simp) <;> with_reducible rfl)
     try simp only [op14_8_10, ksz]
     refine wpAnyH_done (by kernel_rfl) ?_ _
     refine NoPanic.normal ?_
     go_wp2_with fail
     go_meet
     exact ⟨rfl, b12, rfl, Nb12.out, (by exact hb12), HBX.out⟩
    exact AllReadyH.nil
   case rest =>
    obtain ⟨rfl, b12, rfl, Jb12, eb12, hb⟩ := hcut
    obtain ⟨Va10, rfl⟩ : ∃ V, V = wc := ⟨_, rfl⟩
    have HZ := Lib.hid hb
    have Kb12 := Lib.hid Jb12
    clear Jb12
    have nb1b12 : ¬ b1 = b12 := by have := Hb1.out.lt; omega
    have nb12b1 : ¬ b12 = b1 := fun e => nb1b12 e.symm
    have nb2b12 : ¬ b2 = b12 := by have := Hb2.out.lt; omega
    have nb12b2 : ¬ b12 = b2 := fun e => nb2b12 e.symm
    have nb3b12 : ¬ b3 = b12 := by have := Hb3.out.lt; omega
    have nb12b3 : ¬ b12 = b3 := fun e => nb3b12 e.symm
    have nb10b12 : ¬ b10 = b12 := by have := Hb10.out.lt; omega
    have nb12b10 : ¬ b12 = b10 := fun e => nb10b12 e.symm
    have nb11b12 : ¬ b11 = b12 := by have := Hb11.out.lt; omega
    have nb12b11 : ¬ b12 = b11 := fun e => nb11b12 e.symm
    have gb12 : w.heap.size ≤ b12 := Nat.le_trans HB.out.size eb12
    clear eb12
    clear hb HSV k0
    replace Hb1 := kbl Hb1 HZ
    replace Hb2 := kbl Hb2 HZ
    replace Hb3 := kbl Hb3 HZ
    replace Hb10 := kbl Hb10 HZ
    replace Hb11 := kbl Hb11 HZ
    replace HB := ktr' HB HZ
    replace HDR := Lib.hid (HDR.out.later HZ.out)
    replace HG1 := Lib.hid (HG1.out.later HZ.out (Nat.le_refl _))
    replace HU1 := Lib.hid (HU1.out.later HZ.out (Nat.le_refl _))
    replace HV1 := Lib.hid (HV1.out.later HZ.out (Nat.le_refl _))
    replace HU2 := Lib.hid (HU2.out.later HZ.out (Nat.le_refl _))
    replace HV2 := Lib.hid (HV2.out.later HZ.out (Nat.le_refl _))
    clear HZ
    have Hb12 := Kb12
    clear Kb12
    go_upto_region 9 with (fail)
    have HSV : Hid (∀ U, Below Va10.heap.size Va10 U → U.cell? ⟨b1, 0, none⟩ = some (.int .i64 (4)) ∧ U.cell? ⟨b1, 1, none⟩ = some (.int .i64 (1)) ∧ U.cell? ⟨b1, 2, none⟩ = some (.int .i64 (1000)) ∧ U.cell? ⟨b1, 3, none⟩ = some (.slice ag1 4 cg1) ∧ U.cell? ⟨b2, 0, none⟩ = some (.int .i64 (3000)) ∧ U.cell? ⟨b2, 1, none⟩ = some (.int .i64 (3000)) ∧ U.cell? ⟨b2, 2, none⟩ = some (.int .i64 (512)) ∧ U.cell? ⟨b2, 3, none⟩ = some (.int .i64 (512)) ∧ U.cell? ⟨b3, 0, none⟩ = some (.int .i64 (0)) ∧ U.cell? ⟨b3, 1, none⟩ = some (.int .i64 (0))) := fun U hU => by
     have kb1 := Hb1.out.below hU Hb1.out.lt
     have kb2 := Hb2.out.below hU Hb2.out.lt
     have kb3 := Hb3.out.below hU Hb3.out.lt
     exact ⟨kb1.cell 0, kb1.cell 1, kb1.cell 2, kb1.cell 3, kb2.cell 0, kb2.cell 1, kb2.cell 2, kb2.cell 3, kb3.cell 0, kb3.cell 1⟩
    have k0 := HSV.out _ (Below.drew (Below.refl Va10.heap.size Va10))
    go_cut [14, 15] from 99 to 107 (fun pq0 pe0 wx => pe0 = .int .i64 (0) ∧ OneBx Va10 26 #[.int .i64 (-628), .int .i64 (628)] pq0 wx)
    case first =>
     refine wp_region_noPanic ?_
     refine wp_region_held_drew (S := (fun w' => w'.cell? ⟨b1, 0, none⟩ = some (.int .i64 (4)) ∧ w'.cell? ⟨b1, 1, none⟩ = some (.int .i64 (1)) ∧ w'.cell? ⟨b1, 2, none⟩ = some (.int .i64 (1000)) ∧ w'.cell? ⟨b1, 3, none⟩ = some (.slice ag1 4 cg1) ∧ w'.cell? ⟨b2, 0, none⟩ = some (.int .i64 (3000)) ∧ w'.cell? ⟨b2, 1, none⟩ = some (.int .i64 (3000)) ∧ w'.cell? ⟨b2, 2, none⟩ = some (.int .i64 (512)) ∧ w'.cell? ⟨b2, 3, none⟩ = some (.int .i64 (512)) ∧ w'.cell? ⟨b3, 0, none⟩ = some (.int .i64 (0)) ∧ w'.cell? ⟨b3, 1, none⟩ = some (.int .i64 (0)))) (by kernel_rfl) ?_ (fun hHeld => ?_)
     · (try dsimp only); (exact k0)
     refine wpAnyH_take (i := 0) (oi := op14_9_0) (v := ?_) rfl (by kernel_rfl) (by kernel_rfl) (by kernel_rfl) (fun _ _ _ h => h) (Or.inl ⟨by rfl, ?_⟩) (by assumption) ?_
     rotate_left
     · ((intro w hSw; delta op14_9_0; (try dsimp only at hSw); go_simp) <;> with_reducible rfl)
     try simp only [op14_9_0, ksz]
     refine wpAnyH_take (i := 1) (oi := op14_9_1) (v := ?_) rfl (by kernel_rfl) (by kernel_rfl) (by kernel_rfl) (fun _ _ _ h => h) (Or.inl ⟨by rfl, ?_⟩) (by assumption) ?_
     rotate_left
     · ((intro w hSw; delta op14_9_1; (try dsimp only at hSw); go_simp) <;> with_reducible rfl)
     try simp only [op14_9_1, ksz]
     refine wpAnyH_take (i := 2) (oi := op14_9_2) (v := ?_) rfl (by kernel_rfl) (by kernel_rfl) (by kernel_rfl) (fun _ _ _ h => h) (Or.inl ⟨by rfl, ?_⟩) (by assumption) ?_
     rotate_left
     · ((intro w hSw; delta op14_9_2; (try dsimp only at hSw); go_simp) <;> with_reducible rfl)
     try simp only [op14_9_2, ksz]
     obtain ⟨W0, hW0⟩ : ∃ V, Va10.drew = V := ⟨_, rfl⟩; rw [hW0] at hHeld ⊢; have HB0 : Hid (Below Va10.heap.size Va10 W0) := (by rw [← hW0]; exact Below.drew (Below.refl _ _)); clear hW0
     refine wpAnyH_ready (rs := [3, 8]) (by kernel_rfl) (by simp) ?_
     refine AllReadyH.cons (o := op14_9_3) rfl (fun K hK => ?_) ?_
     ·
      delta op14_9_3
      go_simp
      (refine (W_any _ _ _).mono ?_; rintro e W1 ⟨rfl, hb⟩; have hbz : Below W0.heap.size W0 W1 := hb; clear hb; have HB1 := Lib.hid (HB0.out.trans (hbz.mono HB0.out.size)); clear hbz)
      refine hK.out _ _ ?_ (fun hHeld => ?_)
      · (try dsimp only); (exact HSV.out _ HB1.out)
      clear hK K
      try simp only [op14_9_3, ksz]
      refine wpAnyH_ready (rs := [4, 8]) (by kernel_rfl) (by simp) ?_
      refine AllReadyH.cons (o := op14_9_4) rfl (fun K hK => ?_) ?_
      ·
       delta op14_9_4
       go_simp
       (refine (Steady_any 4 1 1000 [(-1000, -1000), (-1000, -1000), (-500, -500), (200, 200)] ag1 cg1 0 0 3000 3000 512 512 2 2000 2000 17 0 0 _ (HDR.out.later HB1.out) (HG1.out.later HB1.out (Nat.le_refl _))).mono ?_; rintro e W2 ⟨rfl, hb⟩; have hbz : Below W1.heap.size W1 W2 := hb; clear hb; have HB2 := Lib.hid (HB1.out.trans (hbz.mono HB1.out.size)); clear hbz; rw [kn_steady2.1, kn_steady2.2]; simp only [spV])
       refine hK.out _ _ ?_ (fun hHeld => ?_)
       · (try dsimp only); (exact HSV.out _ HB2.out)
       clear hK K
       try simp only [op14_9_4, ksz]
       refine wpAnyH_take (i := 5) (oi := op14_9_5) (v := ?_) rfl (by kernel_rfl) (by kernel_rfl) (by kernel_rfl) (fun _ _ _ h => h) (Or.inl ⟨by rfl, ?_⟩) (by assumption) ?_
       rotate_left
       · ((intro w hSw; delta op14_9_5; (try dsimp only at hSw); go_simp) <;> with_reducible rfl)
       try simp only [op14_9_5, ksz]
       refine wpAnyH_take (i := 6) (oi := op14_9_6) (v := ?_) rfl (by kernel_rfl) (by kernel_rfl) (by kernel_rfl) (fun _ _ _ h => h) (Or.inl ⟨by rfl, ?_⟩) (by assumption) ?_
       rotate_left
       · ((intro w hSw; delta op14_9_6; (try dsimp only at hSw); go_simp) <;> with_reducible rfl)
       try simp only [op14_9_6, ksz]
       refine wpAnyH_take (i := 7) (oi := op14_9_7) (v := ?_) rfl (by kernel_rfl) (by kernel_rfl) (by kernel_rfl) (fun _ _ _ h => h) (Or.inl ⟨by rfl, ?_⟩) (by assumption) ?_
       rotate_left
       · ((intro w hSw; delta op14_9_7; (try dsimp only at hSw); go_simp) <;> with_reducible rfl)
       try simp only [op14_9_7, ksz]
       refine wpAnyH_ready (rs := [8]) (by kernel_rfl) (by simp) ?_
       refine AllReadyH.cons (o := op14_9_8) rfl (fun K hK => ?_) AllReadyH.nil
       delta op14_9_8
       go_simp
       obtain ⟨W3, hV⟩ : ∃ V, W2.alloc (.cells #[.int .i64 (0), .int .i64 (0)] 26) = V := ⟨_, rfl⟩; have hbz : Below W2.heap.size W2 W3 := (by rw [← hV]; exact (Below.refl _ _).alloc (Nat.le_refl _) _); have HB3 := Lib.hid (HB2.out.trans (hbz.mono HB2.out.size)); have Nb14' : Hid (Blk W3 W2.heap.size 26 #[.int .i64 (0), .int .i64 (0)]) := (by rw [← hV]; exact Blk.new' _ _ _ rfl); obtain ⟨b14, hz⟩ : ∃ b, W2.heap.size = b := ⟨_, rfl⟩; rw [hz] at Nb14'; have hb14 : Va10.heap.size ≤ b14 := (by rw [← hz]; exact HB2.out.size); have Nb14 := Nb14'; clear Nb14'; rw [hV, hz]; clear hV hbz hz
       refine hK.out _ _ ?_ (fun hHeld => ?_)
       · (try dsimp only); (exact HSV.out _ HB3.out)
       clear hK K
       try simp only [op14_9_8, ksz]
       have cR0 := Nb14.out.cell 0; have zR0 := Nb14.out.frozen 0; have cR1 := Nb14.out.cell 1; have zR1 := Nb14.out.frozen 1; simp only [List.getElem?_toArray, List.getElem?_cons_zero, List.getElem?_cons_succ] at cR0 cR1
       refine wpAnyH_ready (rs := [9]) (by kernel_rfl) (by simp) ?_
       refine AllReadyH.cons (o := op14_9_9) rfl (fun K hK => ?_) AllReadyH.nil
       delta op14_9_9
       go_simp
       refine hK.out _ _ ?_ (fun hHeld => ?_)
       · (try dsimp only); (exact HSV.out _ ((HB3.out.setCell (p := ⟨b14, 0, none⟩) (by exact hb14) _).setCell (p := ⟨b14, 1, none⟩) (by exact hb14) _))
       clear hK K
       try simp only [op14_9_9, ksz]
       obtain ⟨X0, hV⟩ : ∃ V, (W3.setCell ⟨b14, 0, none⟩ (.int .i64 (-628))).setCell ⟨b14, 1, none⟩ (.int .i64 (628)) = V := ⟨_, rfl⟩; have Gb14 : Hid (Blk X0 b14 26 #[.int .i64 (-628), .int .i64 (628)]) := (by rw [← hV]; exact ((Nb14.out.set_ 0 (.int .i64 (-628))).set_ 1 (.int .i64 (628)))); have GHB : Hid (Below Va10.heap.size Va10 X0) := (by rw [← hV]; exact ((HB3.out.setCell (p := ⟨b14, 0, none⟩) (by exact hb14) _).setCell (p := ⟨b14, 1, none⟩) (by exact hb14) _)); rw [hV]; rw [hV] at hHeld; clear hV cR0 zR0 cR1 zR1 Nb14; have HBX := GHB; clear GHB; have Nb14 := Gb14; clear Gb14
       refine wpAnyH_take (i := 10) (oi := op14_9_10) (v := ?_) rfl (by kernel_rfl) (by kernel_rfl) (by kernel_rfl) (fun _ _ _ h => h) (Or.inl ⟨by rfl, ?_⟩) (by assumption) ?_
       rotate_left
       · ((intro w hSw; delta op14_9_10; (try dsimp only at hSw); go_simp) <;> with_reducible rfl)
       try simp only [op14_9_10, ksz]
       refine wpAnyH_done (by kernel_rfl) ?_ _
       refine NoPanic.normal ?_
       go_wp2_with fail
       go_meet
       exact ⟨rfl, b14, rfl, Nb14.out, (by exact hb14), HBX.out⟩
      refine AllReadyH.cons (o := op14_9_8) rfl (fun K hK => ?_) ?_
      ·
       delta op14_9_8
       go_simp
       obtain ⟨W2, hV⟩ : ∃ V, W1.alloc (.cells #[.int .i64 (0), .int .i64 (0)] 26) = V := ⟨_, rfl⟩; have hbz : Below W1.heap.size W1 W2 := (by rw [← hV]; exact (Below.refl _ _).alloc (Nat.le_refl _) _); have HB2 := Lib.hid (HB1.out.trans (hbz.mono HB1.out.size)); have Nb14' : Hid (Blk W2 W1.heap.size 26 #[.int .i64 (0), .int .i64 (0)]) := (by rw [← hV]; exact Blk.new' _ _ _ rfl); obtain ⟨b14, hz⟩ : ∃ b, W1.heap.size = b := ⟨_, rfl⟩; rw [hz] at Nb14'; have hb14 : Va10.heap.size ≤ b14 := (by rw [← hz]; exact HB1.out.size); have Nb14 := Nb14'; clear Nb14'; rw [hV, hz]; clear hV hbz hz
       refine hK.out _ _ ?_ (fun hHeld => ?_)
       · (try dsimp only); (exact HSV.out _ HB2.out)
       clear hK K
       try simp only [op14_9_8, ksz]
       refine wpAnyH_ready (rs := [4]) (by kernel_rfl) (by simp) ?_
       refine AllReadyH.cons (o := op14_9_4) rfl (fun K hK => ?_) AllReadyH.nil
       delta op14_9_4
       go_simp
       (refine (Steady_any 4 1 1000 [(-1000, -1000), (-1000, -1000), (-500, -500), (200, 200)] ag1 cg1 0 0 3000 3000 512 512 2 2000 2000 17 0 0 _ (HDR.out.later HB2.out) (HG1.out.later HB2.out (Nat.le_refl _))).mono ?_; rintro e W3 ⟨rfl, hb⟩; have hbz : Below W2.heap.size W2 W3 := hb; clear hb; have HB3 := Lib.hid (HB2.out.trans (hbz.mono HB2.out.size)); have Mb14 := Lib.hid (Nb14.out.below hbz Nb14.out.lt); clear Nb14; have Nb14 := Mb14; clear Mb14; clear hbz; rw [kn_steady2.1, kn_steady2.2]; simp only [spV])
       refine hK.out _ _ ?_ (fun hHeld => ?_)
       · (try dsimp only); (exact HSV.out _ HB3.out)
       clear hK K
       try simp only [op14_9_4, ksz]
       refine wpAnyH_take (i := 5) (oi := op14_9_5) (v := ?_) rfl (by kernel_rfl) (by kernel_rfl) (by kernel_rfl) (fun _ _ _ h => h) (Or.inl ⟨by rfl, ?_⟩) (by assumption) ?_
       rotate_left
       · ((intro w hSw; delta op14_9_5; (try dsimp only at hSw); go_simp) <;> with_reducible rfl)
       try simp only [op14_9_5, ksz]
       refine wpAnyH_take (i := 6) (oi := op14_9_6) (v := ?_) rfl (by kernel_rfl) (by kernel_rfl) (by kernel_rfl) (fun _ _ _ h => h) (Or.inl ⟨by rfl, ?_⟩) (by assumption) ?_
       rotate_left
       · ((intro w hSw; delta op14_9_6; (try dsimp only at hSw); go_simp) <;> with_reducible rfl)
       try simp only [op14_9_6, ksz]
       refine wpAnyH_take (i := 7) (oi := op14_9_7) (v := ?_) rfl (by kernel_rfl) (by kernel_rfl) (by kernel_rfl) (fun _ _ _ h => h) (Or.inl ⟨by rfl, ?_⟩) (by assumption) ?_
       rotate_left
       · ((intro w hSw; delta op14_9_7; (try dsimp only at hSw); go_simp) <;> with_reducible rfl)
       try simp only [op14_9_7, ksz]
       have cR0 := Nb14.out.cell 0; have zR0 := Nb14.out.frozen 0; have cR1 := Nb14.out.cell 1; have zR1 := Nb14.out.frozen 1; simp only [List.getElem?_toArray, List.getElem?_cons_zero, List.getElem?_cons_succ] at cR0 cR1
       refine wpAnyH_ready (rs := [9]) (by kernel_rfl) (by simp) ?_
       refine AllReadyH.cons (o := op14_9_9) rfl (fun K hK => ?_) AllReadyH.nil
       delta op14_9_9
       go_simp
       refine hK.out _ _ ?_ (fun hHeld => ?_)
       · (try dsimp only); (exact HSV.out _ ((HB3.out.setCell (p := ⟨b14, 0, none⟩) (by exact hb14) _).setCell (p := ⟨b14, 1, none⟩) (by exact hb14) _))
       clear hK K
       try simp only [op14_9_9, ksz]
       obtain ⟨X0, hV⟩ : ∃ V, (W3.setCell ⟨b14, 0, none⟩ (.int .i64 (-628))).setCell ⟨b14, 1, none⟩ (.int .i64 (628)) = V := ⟨_, rfl⟩; have Gb14 : Hid (Blk X0 b14 26 #[.int .i64 (-628), .int .i64 (628)]) := (by rw [← hV]; exact ((Nb14.out.set_ 0 (.int .i64 (-628))).set_ 1 (.int .i64 (628)))); have GHB : Hid (Below Va10.heap.size Va10 X0) := (by rw [← hV]; exact ((HB3.out.setCell (p := ⟨b14, 0, none⟩) (by exact hb14) _).setCell (p := ⟨b14, 1, none⟩) (by exact hb14) _)); rw [hV]; rw [hV] at hHeld; clear hV cR0 zR0 cR1 zR1 Nb14; have HBX := GHB; clear GHB; have Nb14 := Gb14; clear Gb14
       refine wpAnyH_take (i := 10) (oi := op14_9_10) (v := ?_) rfl (by kernel_rfl) (by kernel_rfl) (by kernel_rfl) (fun _ _ _ h => h) (Or.inl ⟨by rfl, ?_⟩) (by assumption) ?_
       rotate_left
       · ((intro w hSw; delta op14_9_10; (try dsimp only at hSw); go_simp) <;> with_reducible rfl)
       try simp only [op14_9_10, ksz]
       refine wpAnyH_done (by kernel_rfl) ?_ _
       refine NoPanic.normal ?_
       go_wp2_with fail
       go_meet
       exact ⟨rfl, b14, rfl, Nb14.out, (by exact hb14), HBX.out⟩
      exact AllReadyH.nil
     refine AllReadyH.cons (o := op14_9_8) rfl (fun K hK => ?_) ?_
     ·
      delta op14_9_8
      go_simp
      obtain ⟨W1, hV⟩ : ∃ V, W0.alloc (.cells #[.int .i64 (0), .int .i64 (0)] 26) = V := ⟨_, rfl⟩; have hbz : Below W0.heap.size W0 W1 := (by rw [← hV]; exact (Below.refl _ _).alloc (Nat.le_refl _) _); have HB1 := Lib.hid (HB0.out.trans (hbz.mono HB0.out.size)); have Nb14' : Hid (Blk W1 W0.heap.size 26 #[.int .i64 (0), .int .i64 (0)]) := (by rw [← hV]; exact Blk.new' _ _ _ rfl); obtain ⟨b14, hz⟩ : ∃ b, W0.heap.size = b := ⟨_, rfl⟩; rw [hz] at Nb14'; have hb14 : Va10.heap.size ≤ b14 := (by rw [← hz]; exact HB0.out.size); have Nb14 := Nb14'; clear Nb14'; rw [hV, hz]; clear hV hbz hz
      refine hK.out _ _ ?_ (fun hHeld => ?_)
      · (try dsimp only); (exact HSV.out _ HB1.out)
      clear hK K
      try simp only [op14_9_8, ksz]
      refine wpAnyH_ready (rs := [3]) (by kernel_rfl) (by simp) ?_
      refine AllReadyH.cons (o := op14_9_3) rfl (fun K hK => ?_) AllReadyH.nil
      delta op14_9_3
      go_simp
      (refine (W_any _ _ _).mono ?_; rintro e W2 ⟨rfl, hb⟩; have hbz : Below W1.heap.size W1 W2 := hb; clear hb; have HB2 := Lib.hid (HB1.out.trans (hbz.mono HB1.out.size)); have Mb14 := Lib.hid (Nb14.out.below hbz Nb14.out.lt); clear Nb14; have Nb14 := Mb14; clear Mb14; clear hbz)
      refine hK.out _ _ ?_ (fun hHeld => ?_)
      · (try dsimp only); (exact HSV.out _ HB2.out)
      clear hK K
      try simp only [op14_9_3, ksz]
      refine wpAnyH_ready (rs := [4]) (by kernel_rfl) (by simp) ?_
      refine AllReadyH.cons (o := op14_9_4) rfl (fun K hK => ?_) AllReadyH.nil
      delta op14_9_4
      go_simp
      (refine (Steady_any 4 1 1000 [(-1000, -1000), (-1000, -1000), (-500, -500), (200, 200)] ag1 cg1 0 0 3000 3000 512 512 2 2000 2000 17 0 0 _ (HDR.out.later HB2.out) (HG1.out.later HB2.out (Nat.le_refl _))).mono ?_; rintro e W3 ⟨rfl, hb⟩; have hbz : Below W2.heap.size W2 W3 := hb; clear hb; have HB3 := Lib.hid (HB2.out.trans (hbz.mono HB2.out.size)); have Mb14 := Lib.hid (Nb14.out.below hbz Nb14.out.lt); clear Nb14; have Nb14 := Mb14; clear Mb14; clear hbz; rw [kn_steady2.1, kn_steady2.2]; simp only [spV])
      refine hK.out _ _ ?_ (fun hHeld => ?_)
      · (try dsimp only); (exact HSV.out _ HB3.out)
      clear hK K
      try simp only [op14_9_4, ksz]
      refine wpAnyH_take (i := 5) (oi := op14_9_5) (v := ?_) rfl (by kernel_rfl) (by kernel_rfl) (by kernel_rfl) (fun _ _ _ h => h) (Or.inl ⟨by rfl, ?_⟩) (by assumption) ?_
      rotate_left
      · ((intro w hSw; delta op14_9_5; (try dsimp only at hSw); go_simp) <;> with_reducible rfl)
      try simp only [op14_9_5, ksz]
      refine wpAnyH_take (i := 6) (oi := op14_9_6) (v := ?_) rfl (by kernel_rfl) (by kernel_rfl) (by kernel_rfl) (fun _ _ _ h => h) (Or.inl ⟨by rfl, ?_⟩) (by assumption) ?_
      rotate_left
      · ((intro w hSw; delta op14_9_6; (try dsimp only at hSw); go_simp) <;> with_reducible rfl)
      try simp only [op14_9_6, ksz]
      refine wpAnyH_take (i := 7) (oi := op14_9_7) (v := ?_) rfl (by kernel_rfl) (by kernel_rfl) (by kernel_rfl) (fun _ _ _ h => h) (Or.inl ⟨by rfl, ?_⟩) (by assumption) ?_
      rotate_left
      · ((intro w hSw; delta op14_9_7; (try dsimp only at hSw); go_simp) <;> with_reducible rfl)
      try simp only [op14_9_7, ksz]
      have cR0 := Nb14.out.cell 0; have zR0 := Nb14.out.frozen 0; have cR1 := Nb14.out.cell 1; have zR1 := Nb14.out.frozen 1; simp only [List.getElem?_toArray, List.getElem?_cons_zero, List.getElem?_cons_succ] at cR0 cR1
      refine wpAnyH_ready (rs := [9]) (by kernel_rfl) (by simp) ?_
      refine AllReadyH.cons (o := op14_9_9) rfl (fun K hK => ?_) AllReadyH.nil
      delta op14_9_9
      go_simp
      refine hK.out _ _ ?_ (fun hHeld => ?_)
      · (try dsimp only); (exact HSV.out _ ((HB3.out.setCell (p := ⟨b14, 0, none⟩) (by exact hb14) _).setCell (p := ⟨b14, 1, none⟩) (by exact hb14) _))
      clear hK K
      try simp only [op14_9_9, ksz]
      obtain ⟨X0, hV⟩ : ∃ V, (W3.setCell ⟨b14, 0, none⟩ (.int .i64 (-628))).setCell ⟨b14, 1, none⟩ (.int .i64 (628)) = V := ⟨_, rfl⟩; have Gb14 : Hid (Blk X0 b14 26 #[.int .i64 (-628), .int .i64 (628)]) := (by rw [← hV]; exact ((Nb14.out.set_ 0 (.int .i64 (-628))).set_ 1 (.int .i64 (628)))); have GHB : Hid (Below Va10.heap.size Va10 X0) := (by rw [← hV]; exact ((HB3.out.setCell (p := ⟨b14, 0, none⟩) (by exact hb14) _).setCell (p := ⟨b14, 1, none⟩) (by exact hb14) _)); rw [hV]; rw [hV] at hHeld; clear hV cR0 zR0 cR1 zR1 Nb14; have HBX := GHB; clear GHB; have Nb14 := Gb14; clear Gb14
      refine wpAnyH_take (i := 10) (oi := op14_9_10) (v := ?_) rfl (by kernel_rfl) (by kernel_rfl) (by kernel_rfl) (fun _ _ _ h => h) (Or.inl ⟨by rfl, ?_⟩) (by assumption) ?_
      rotate_left
      · ((intro w hSw; delta op14_9_10; (try dsimp only at hSw); go_simp) <;> with_reducible rfl)
      try simp only [op14_9_10, ksz]
      refine wpAnyH_done (by kernel_rfl) ?_ _
      refine NoPanic.normal ?_
      go_wp2_with fail
      go_meet
      exact ⟨rfl, b14, rfl, Nb14.out, (by exact hb14), HBX.out⟩
     exact AllReadyH.nil
    case rest =>
     obtain ⟨rfl, b14, rfl, Jb14, eb14, hb⟩ := hcut
     obtain ⟨Va11, rfl⟩ : ∃ V, V = wc := ⟨_, rfl⟩
     have HZ := Lib.hid hb
     have Kb14 := Lib.hid Jb14
     clear Jb14
     have nb1b14 : ¬ b1 = b14 := by have := Hb1.out.lt; omega
     have nb14b1 : ¬ b14 = b1 := fun e => nb1b14 e.symm
     have nb2b14 : ¬ b2 = b14 := by have := Hb2.out.lt; omega
     have nb14b2 : ¬ b14 = b2 := fun e => nb2b14 e.symm
     have nb3b14 : ¬ b3 = b14 := by have := Hb3.out.lt; omega
     have nb14b3 : ¬ b14 = b3 := fun e => nb3b14 e.symm
     have nb10b14 : ¬ b10 = b14 := by have := Hb10.out.lt; omega
     have nb14b10 : ¬ b14 = b10 := fun e => nb10b14 e.symm
     have nb11b14 : ¬ b11 = b14 := by have := Hb11.out.lt; omega
     have nb14b11 : ¬ b14 = b11 := fun e => nb11b14 e.symm
     have nb12b14 : ¬ b12 = b14 := by have := Hb12.out.lt; omega
     have nb14b12 : ¬ b14 = b12 := fun e => nb12b14 e.symm
     have gb14 : w.heap.size ≤ b14 := Nat.le_trans HB.out.size eb14
     clear eb14
     clear hb HSV k0
     replace Hb1 := kbl Hb1 HZ
     replace Hb2 := kbl Hb2 HZ
     replace Hb3 := kbl Hb3 HZ
     replace Hb10 := kbl Hb10 HZ
     replace Hb11 := kbl Hb11 HZ
     replace Hb12 := kbl Hb12 HZ
     replace HB := ktr' HB HZ
     replace HDR := Lib.hid (HDR.out.later HZ.out)
     replace HG1 := Lib.hid (HG1.out.later HZ.out (Nat.le_refl _))
     replace HU1 := Lib.hid (HU1.out.later HZ.out (Nat.le_refl _))
     replace HV1 := Lib.hid (HV1.out.later HZ.out (Nat.le_refl _))
     replace HU2 := Lib.hid (HU2.out.later HZ.out (Nat.le_refl _))
     replace HV2 := Lib.hid (HV2.out.later HZ.out (Nat.le_refl _))
     clear HZ
     have Hb14 := Kb14
     clear Kb14
     have cb100 := kcl0 Hb10
     have cb101 := kcl1 Hb10
     have cb110 := kcl0 Hb11
     have cb111 := kcl1 Hb11
     have cb120 := kcl0 Hb12
     have cb121 := kcl1 Hb12
     have cb140 := kcl0 Hb14
     have cb141 := kcl1 Hb14
     go_upto_region 12 with (fail)
     clear cb100 cb101 cb110 cb111 cb120 cb121 cb140 cb141
     go_wp2_with fail
     refine (Centimetres_any 469 471 _ (by decide) (by decide)).mono ?_
     rintro e Va12 ⟨rfl, hb⟩
     have HZ := Lib.hid hb
     clear hb
     rw [kn_cm.1, kn_cm.2.1]
     replace Hb1 := kbl Hb1 HZ
     replace Hb2 := kbl Hb2 HZ
     replace Hb3 := kbl Hb3 HZ
     replace Hb10 := kbl Hb10 HZ
     replace Hb11 := kbl Hb11 HZ
     replace Hb12 := kbl Hb12 HZ
     replace Hb14 := kbl Hb14 HZ
     replace HB := ktr' HB HZ
     replace HDR := Lib.hid (HDR.out.later HZ.out)
     replace HG1 := Lib.hid (HG1.out.later HZ.out (Nat.le_refl _))
     replace HU1 := Lib.hid (HU1.out.later HZ.out (Nat.le_refl _))
     replace HV1 := Lib.hid (HV1.out.later HZ.out (Nat.le_refl _))
     replace HU2 := Lib.hid (HU2.out.later HZ.out (Nat.le_refl _))
     replace HV2 := Lib.hid (HV2.out.later HZ.out (Nat.le_refl _))
     clear HZ
     go_upto_region 13 with (fail)
     obtain ⟨Va13, hV⟩ : ∃ X, Va12.alloc (.cells #[.int .i64 (1), .int .i64 (2)] 26) = X := ⟨_, rfl⟩
     have hnew : Blk Va13 Va12.heap.size 26 #[.int .i64 (1), .int .i64 (2)] := by rw [← hV]; exact (Blk.new' _ _ _ rfl)
     have hz : Below Va12.heap.size Va12 Va13 := by rw [← hV]; exact ((Below.refl _ _).alloc (Nat.le_refl _) _)
     have hgn := HB.out.size
     have lb1 := Hb1.out.lt
     have lb2 := Hb2.out.lt
     have lb3 := Hb3.out.lt
     have lb10 := Hb10.out.lt
     have lb11 := Hb11.out.lt
     have lb12 := Hb12.out.lt
     have lb14 := Hb14.out.lt
     rw [hV]
     obtain ⟨b16, hbx⟩ : ∃ b, Va12.heap.size = b := ⟨_, rfl⟩
     rw [hbx] at hnew hgn lb1 lb2 lb3 lb10 lb11 lb12 lb14 ⊢
     have gb16 : w.heap.size ≤ b16 := hgn
     have HZ := Lib.hid hz
     have nb1b16 : ¬ b1 = b16 := by omega
     have nb16b1 : ¬ b16 = b1 := by omega
     have nb2b16 : ¬ b2 = b16 := by omega
     have nb16b2 : ¬ b16 = b2 := by omega
     have nb3b16 : ¬ b3 = b16 := by omega
     have nb16b3 : ¬ b16 = b3 := by omega
     have nb10b16 : ¬ b10 = b16 := by omega
     have nb16b10 : ¬ b16 = b10 := by omega
     have nb11b16 : ¬ b11 = b16 := by omega
     have nb16b11 : ¬ b16 = b11 := by omega
     have nb12b16 : ¬ b12 = b16 := by omega
     have nb16b12 : ¬ b16 = b12 := by omega
     have nb14b16 : ¬ b14 = b16 := by omega
     have nb16b14 : ¬ b16 = b14 := by omega
     clear hV hz hgn hbx lb1 lb2 lb3 lb10 lb11 lb12 lb14
     replace Hb1 := kbl Hb1 HZ
     replace Hb2 := kbl Hb2 HZ
     replace Hb3 := kbl Hb3 HZ
     replace Hb10 := kbl Hb10 HZ
     replace Hb11 := kbl Hb11 HZ
     replace Hb12 := kbl Hb12 HZ
     replace Hb14 := kbl Hb14 HZ
     replace HB := ktr' HB HZ
     replace HDR := Lib.hid (HDR.out.later HZ.out)
     replace HG1 := Lib.hid (HG1.out.later HZ.out (Nat.le_refl _))
     replace HU1 := Lib.hid (HU1.out.later HZ.out (Nat.le_refl _))
     replace HV1 := Lib.hid (HV1.out.later HZ.out (Nat.le_refl _))
     replace HU2 := Lib.hid (HU2.out.later HZ.out (Nat.le_refl _))
     replace HV2 := Lib.hid (HV2.out.later HZ.out (Nat.le_refl _))
     clear HZ
     have Hb16 := Lib.hid hnew
     clear hnew
     go_wp2_with fail
     refine (Centimetres_any (-1) 256 _ (by decide) (by decide)).mono ?_
     rintro e Va14 ⟨rfl, hb⟩
     have HZ := Lib.hid hb
     clear hb
     rw [kn_cm.2.2.1, kn_cm.2.2.2]
     replace Hb1 := kbl Hb1 HZ
     replace Hb2 := kbl Hb2 HZ
     replace Hb3 := kbl Hb3 HZ
     replace Hb10 := kbl Hb10 HZ
     replace Hb11 := kbl Hb11 HZ
     replace Hb12 := kbl Hb12 HZ
     replace Hb14 := kbl Hb14 HZ
     replace Hb16 := kbl Hb16 HZ
     replace HB := ktr' HB HZ
     replace HDR := Lib.hid (HDR.out.later HZ.out)
     replace HG1 := Lib.hid (HG1.out.later HZ.out (Nat.le_refl _))
     replace HU1 := Lib.hid (HU1.out.later HZ.out (Nat.le_refl _))
     replace HV1 := Lib.hid (HV1.out.later HZ.out (Nat.le_refl _))
     replace HU2 := Lib.hid (HU2.out.later HZ.out (Nat.le_refl _))
     replace HV2 := Lib.hid (HV2.out.later HZ.out (Nat.le_refl _))
     clear HZ
     go_upto_region 14 with (fail)
     obtain ⟨Va15, hV⟩ : ∃ X, Va14.alloc (.cells #[.int .i64 (-1), .int .i64 (1)] 26) = X := ⟨_, rfl⟩
     have hnew : Blk Va15 Va14.heap.size 26 #[.int .i64 (-1), .int .i64 (1)] := by rw [← hV]; exact (Blk.new' _ _ _ rfl)
     have hz : Below Va14.heap.size Va14 Va15 := by rw [← hV]; exact ((Below.refl _ _).alloc (Nat.le_refl _) _)
     have hgn := HB.out.size
     have lb1 := Hb1.out.lt
     have lb2 := Hb2.out.lt
     have lb3 := Hb3.out.lt
     have lb10 := Hb10.out.lt
     have lb11 := Hb11.out.lt
     have lb12 := Hb12.out.lt
     have lb14 := Hb14.out.lt
     have lb16 := Hb16.out.lt
     rw [hV]
     obtain ⟨b17, hbx⟩ : ∃ b, Va14.heap.size = b := ⟨_, rfl⟩
     rw [hbx] at hnew hgn lb1 lb2 lb3 lb10 lb11 lb12 lb14 lb16 ⊢
     have gb17 : w.heap.size ≤ b17 := hgn
     have HZ := Lib.hid hz
     have nb1b17 : ¬ b1 = b17 := by omega
     have nb17b1 : ¬ b17 = b1 := by omega
     have nb2b17 : ¬ b2 = b17 := by omega
     have nb17b2 : ¬ b17 = b2 := by omega
     have nb3b17 : ¬ b3 = b17 := by omega
     have nb17b3 : ¬ b17 = b3 := by omega
     have nb10b17 : ¬ b10 = b17 := by omega
     have nb17b10 : ¬ b17 = b10 := by omega
     have nb11b17 : ¬ b11 = b17 := by omega
     have nb17b11 : ¬ b17 = b11 := by omega
     have nb12b17 : ¬ b12 = b17 := by omega
     have nb17b12 : ¬ b17 = b12 := by omega
     have nb14b17 : ¬ b14 = b17 := by omega
     have nb17b14 : ¬ b17 = b14 := by omega
     have nb16b17 : ¬ b16 = b17 := by omega
     have nb17b16 : ¬ b17 = b16 := by omega
     clear hV hz hgn hbx lb1 lb2 lb3 lb10 lb11 lb12 lb14 lb16
     replace Hb1 := kbl Hb1 HZ
     replace Hb2 := kbl Hb2 HZ
     replace Hb3 := kbl Hb3 HZ
     replace Hb10 := kbl Hb10 HZ
     replace Hb11 := kbl Hb11 HZ
     replace Hb12 := kbl Hb12 HZ
     replace Hb14 := kbl Hb14 HZ
     replace Hb16 := kbl Hb16 HZ
     replace HB := ktr' HB HZ
     replace HDR := Lib.hid (HDR.out.later HZ.out)
     replace HG1 := Lib.hid (HG1.out.later HZ.out (Nat.le_refl _))
     replace HU1 := Lib.hid (HU1.out.later HZ.out (Nat.le_refl _))
     replace HV1 := Lib.hid (HV1.out.later HZ.out (Nat.le_refl _))
     replace HU2 := Lib.hid (HU2.out.later HZ.out (Nat.le_refl _))
     replace HV2 := Lib.hid (HV2.out.later HZ.out (Nat.le_refl _))
     clear HZ
     have Hb17 := Lib.hid hnew
     clear hnew
     go_upto_region 15 with (fail)
     have HZ : Hid (Below Va15.heap.size Va15 (Va15.alloc (.cells #[.int .i64 313, .int .i64 314, .int .i64 469, .int .i64 471] 26))) := (Below.refl _ _).alloc (Nat.le_refl _) _
     have HSL : Hid (SpansAt (Va15.alloc (.cells #[.int .i64 313, .int .i64 314, .int .i64 469, .int .i64 471] 26)) (Va15.alloc (.cells #[.int .i64 313, .int .i64 314, .int .i64 469, .int .i64 471] 26)).heap.size (.slice (some ⟨Va15.heap.size, 0, none⟩) 2 2) [(313, 314), (469, 471)]) := spans_new Va15 [(313, 314), (469, 471)] (by simp)
     obtain ⟨Va16, hV⟩ : ∃ X, Va15.alloc (.cells #[.int .i64 313, .int .i64 314, .int .i64 469, .int .i64 471] 26) = X := ⟨_, rfl⟩
     rw [hV] at HZ HSL ⊢
     clear hV
     obtain ⟨ql, hq⟩ : ∃ q, Va15.heap.size = q := ⟨_, rfl⟩
     rw [hq] at HSL ⊢
     clear hq
     replace Hb1 := kbl Hb1 HZ
     replace Hb2 := kbl Hb2 HZ
     replace Hb3 := kbl Hb3 HZ
     replace Hb10 := kbl Hb10 HZ
     replace Hb11 := kbl Hb11 HZ
     replace Hb12 := kbl Hb12 HZ
     replace Hb14 := kbl Hb14 HZ
     replace Hb16 := kbl Hb16 HZ
     replace Hb17 := kbl Hb17 HZ
     replace HB := ktr' HB HZ
     replace HDR := Lib.hid (HDR.out.later HZ.out)
     replace HG1 := Lib.hid (HG1.out.later HZ.out (Nat.le_refl _))
     replace HU1 := Lib.hid (HU1.out.later HZ.out (Nat.le_refl _))
     replace HV1 := Lib.hid (HV1.out.later HZ.out (Nat.le_refl _))
     replace HU2 := Lib.hid (HU2.out.later HZ.out (Nat.le_refl _))
     replace HV2 := Lib.hid (HV2.out.later HZ.out (Nat.le_refl _))
     clear HZ
     go_wp2_with fail
     refine (Exceeds_any _ [(313, 314), (469, 471)] 313 _ HSL.out).mono ?_
     rintro e Va17 ⟨rfl, hb⟩
     have HZ := Lib.hid hb
     clear hb
     rw [kn_exc.1, kn_exc.2.1, kn_exc.2.2.1]
     replace Hb1 := kbl Hb1 HZ
     replace Hb2 := kbl Hb2 HZ
     replace Hb3 := kbl Hb3 HZ
     replace Hb10 := kbl Hb10 HZ
     replace Hb11 := kbl Hb11 HZ
     replace Hb12 := kbl Hb12 HZ
     replace Hb14 := kbl Hb14 HZ
     replace Hb16 := kbl Hb16 HZ
     replace Hb17 := kbl Hb17 HZ
     replace HB := ktr' HB HZ
     replace HDR := Lib.hid (HDR.out.later HZ.out)
     replace HG1 := Lib.hid (HG1.out.later HZ.out (Nat.le_refl _))
     replace HU1 := Lib.hid (HU1.out.later HZ.out (Nat.le_refl _))
     replace HV1 := Lib.hid (HV1.out.later HZ.out (Nat.le_refl _))
     replace HU2 := Lib.hid (HU2.out.later HZ.out (Nat.le_refl _))
     replace HV2 := Lib.hid (HV2.out.later HZ.out (Nat.le_refl _))
     replace HSL := Lib.hid (HSL.out.later HZ.out (Nat.le_refl _))
     clear HZ
     go_wp2_with fail
     refine (Exceeds_any _ [(313, 314), (469, 471)] 471 _ HSL.out).mono ?_
     rintro e Va18 ⟨rfl, hb⟩
     have HZ := Lib.hid hb
     clear hb
     rw [kn_exc.1, kn_exc.2.2.2.1, kn_exc.2.2.2.2]
     replace Hb1 := kbl Hb1 HZ
     replace Hb2 := kbl Hb2 HZ
     replace Hb3 := kbl Hb3 HZ
     replace Hb10 := kbl Hb10 HZ
     replace Hb11 := kbl Hb11 HZ
     replace Hb12 := kbl Hb12 HZ
     replace Hb14 := kbl Hb14 HZ
     replace Hb16 := kbl Hb16 HZ
     replace Hb17 := kbl Hb17 HZ
     replace HB := ktr' HB HZ
     replace HDR := Lib.hid (HDR.out.later HZ.out)
     replace HG1 := Lib.hid (HG1.out.later HZ.out (Nat.le_refl _))
     replace HU1 := Lib.hid (HU1.out.later HZ.out (Nat.le_refl _))
     replace HV1 := Lib.hid (HV1.out.later HZ.out (Nat.le_refl _))
     replace HU2 := Lib.hid (HU2.out.later HZ.out (Nat.le_refl _))
     replace HV2 := Lib.hid (HV2.out.later HZ.out (Nat.le_refl _))
     replace HSL := Lib.hid (HSL.out.later HZ.out (Nat.le_refl _))
     clear HZ
     clear HSL
     have cb160 := kcl0 Hb16
     have cb161 := kcl1 Hb16
     have cb170 := kcl0 Hb17
     have cb171 := kcl1 Hb17
     go_upto_region 19 with (fail)
     clear cb160 cb161 cb170 cb171
     go_upto_region 20 with (fail)
     obtain ⟨Va19, hV⟩ : ∃ X, Va18.alloc (.cells #[.int .i64 (-1), .int .i64 (1)] 26) = X := ⟨_, rfl⟩
     have hnew : Blk Va19 Va18.heap.size 26 #[.int .i64 (-1), .int .i64 (1)] := by rw [← hV]; exact (Blk.new' _ _ _ rfl)
     have hz : Below Va18.heap.size Va18 Va19 := by rw [← hV]; exact ((Below.refl _ _).alloc (Nat.le_refl _) _)
     have hgn := HB.out.size
     have lb1 := Hb1.out.lt
     have lb2 := Hb2.out.lt
     have lb3 := Hb3.out.lt
     have lb10 := Hb10.out.lt
     have lb11 := Hb11.out.lt
     have lb12 := Hb12.out.lt
     have lb14 := Hb14.out.lt
     have lb16 := Hb16.out.lt
     have lb17 := Hb17.out.lt
     rw [hV]
     obtain ⟨b23, hbx⟩ : ∃ b, Va18.heap.size = b := ⟨_, rfl⟩
     rw [hbx] at hnew hgn lb1 lb2 lb3 lb10 lb11 lb12 lb14 lb16 lb17 ⊢
     have gb23 : w.heap.size ≤ b23 := hgn
     have HZ := Lib.hid hz
     have nb1b23 : ¬ b1 = b23 := by omega
     have nb23b1 : ¬ b23 = b1 := by omega
     have nb2b23 : ¬ b2 = b23 := by omega
     have nb23b2 : ¬ b23 = b2 := by omega
     have nb3b23 : ¬ b3 = b23 := by omega
     have nb23b3 : ¬ b23 = b3 := by omega
     have nb10b23 : ¬ b10 = b23 := by omega
     have nb23b10 : ¬ b23 = b10 := by omega
     have nb11b23 : ¬ b11 = b23 := by omega
     have nb23b11 : ¬ b23 = b11 := by omega
     have nb12b23 : ¬ b12 = b23 := by omega
     have nb23b12 : ¬ b23 = b12 := by omega
     have nb14b23 : ¬ b14 = b23 := by omega
     have nb23b14 : ¬ b23 = b14 := by omega
     have nb16b23 : ¬ b16 = b23 := by omega
     have nb23b16 : ¬ b23 = b16 := by omega
     have nb17b23 : ¬ b17 = b23 := by omega
     have nb23b17 : ¬ b23 = b17 := by omega
     clear hV hz hgn hbx lb1 lb2 lb3 lb10 lb11 lb12 lb14 lb16 lb17
     replace Hb1 := kbl Hb1 HZ
     replace Hb2 := kbl Hb2 HZ
     replace Hb3 := kbl Hb3 HZ
     replace Hb10 := kbl Hb10 HZ
     replace Hb11 := kbl Hb11 HZ
     replace Hb12 := kbl Hb12 HZ
     replace Hb14 := kbl Hb14 HZ
     replace Hb16 := kbl Hb16 HZ
     replace Hb17 := kbl Hb17 HZ
     replace HB := ktr' HB HZ
     replace HDR := Lib.hid (HDR.out.later HZ.out)
     replace HG1 := Lib.hid (HG1.out.later HZ.out (Nat.le_refl _))
     replace HU1 := Lib.hid (HU1.out.later HZ.out (Nat.le_refl _))
     replace HV1 := Lib.hid (HV1.out.later HZ.out (Nat.le_refl _))
     replace HU2 := Lib.hid (HU2.out.later HZ.out (Nat.le_refl _))
     replace HV2 := Lib.hid (HV2.out.later HZ.out (Nat.le_refl _))
     clear HZ
     have Hb23 := Lib.hid hnew
     clear hnew
     go_wp2_with fail
     refine (point_any _ _).mono ?_
     rintro e Va20 ⟨rfl, hb⟩
     have HZ := Lib.hid hb
     clear hb
     replace Hb1 := kbl Hb1 HZ
     replace Hb2 := kbl Hb2 HZ
     replace Hb3 := kbl Hb3 HZ
     replace Hb10 := kbl Hb10 HZ
     replace Hb11 := kbl Hb11 HZ
     replace Hb12 := kbl Hb12 HZ
     replace Hb14 := kbl Hb14 HZ
     replace Hb16 := kbl Hb16 HZ
     replace Hb17 := kbl Hb17 HZ
     replace Hb23 := kbl Hb23 HZ
     replace HB := ktr' HB HZ
     replace HDR := Lib.hid (HDR.out.later HZ.out)
     replace HG1 := Lib.hid (HG1.out.later HZ.out (Nat.le_refl _))
     replace HU1 := Lib.hid (HU1.out.later HZ.out (Nat.le_refl _))
     replace HV1 := Lib.hid (HV1.out.later HZ.out (Nat.le_refl _))
     replace HU2 := Lib.hid (HU2.out.later HZ.out (Nat.le_refl _))
     replace HV2 := Lib.hid (HV2.out.later HZ.out (Nat.le_refl _))
     clear HZ
     go_wp2_with fail
     refine (point_any _ _).mono ?_
     rintro e Va21 ⟨rfl, hb⟩
     have HZ := Lib.hid hb
     clear hb
     replace Hb1 := kbl Hb1 HZ
     replace Hb2 := kbl Hb2 HZ
     replace Hb3 := kbl Hb3 HZ
     replace Hb10 := kbl Hb10 HZ
     replace Hb11 := kbl Hb11 HZ
     replace Hb12 := kbl Hb12 HZ
     replace Hb14 := kbl Hb14 HZ
     replace Hb16 := kbl Hb16 HZ
     replace Hb17 := kbl Hb17 HZ
     replace Hb23 := kbl Hb23 HZ
     replace HB := ktr' HB HZ
     replace HDR := Lib.hid (HDR.out.later HZ.out)
     replace HG1 := Lib.hid (HG1.out.later HZ.out (Nat.le_refl _))
     replace HU1 := Lib.hid (HU1.out.later HZ.out (Nat.le_refl _))
     replace HV1 := Lib.hid (HV1.out.later HZ.out (Nat.le_refl _))
     replace HU2 := Lib.hid (HU2.out.later HZ.out (Nat.le_refl _))
     replace HV2 := Lib.hid (HV2.out.later HZ.out (Nat.le_refl _))
     clear HZ
     go_wp2_with fail
     refine (Directions_any 5 5 2 2 _).mono ?_
     rintro e Va22 ⟨rfl, hb⟩
     have HZ := Lib.hid hb
     clear hb
     rw [kn_dirs.1, kn_dirs.2.1]
     replace Hb1 := kbl Hb1 HZ
     replace Hb2 := kbl Hb2 HZ
     replace Hb3 := kbl Hb3 HZ
     replace Hb10 := kbl Hb10 HZ
     replace Hb11 := kbl Hb11 HZ
     replace Hb12 := kbl Hb12 HZ
     replace Hb14 := kbl Hb14 HZ
     replace Hb16 := kbl Hb16 HZ
     replace Hb17 := kbl Hb17 HZ
     replace Hb23 := kbl Hb23 HZ
     replace HB := ktr' HB HZ
     replace HDR := Lib.hid (HDR.out.later HZ.out)
     replace HG1 := Lib.hid (HG1.out.later HZ.out (Nat.le_refl _))
     replace HU1 := Lib.hid (HU1.out.later HZ.out (Nat.le_refl _))
     replace HV1 := Lib.hid (HV1.out.later HZ.out (Nat.le_refl _))
     replace HU2 := Lib.hid (HU2.out.later HZ.out (Nat.le_refl _))
     replace HV2 := Lib.hid (HV2.out.later HZ.out (Nat.le_refl _))
     clear HZ
     go_wp2_with fail
     refine (point_any _ _).mono ?_
     rintro e Va23 ⟨rfl, hb⟩
     have HZ := Lib.hid hb
     clear hb
     replace Hb1 := kbl Hb1 HZ
     replace Hb2 := kbl Hb2 HZ
     replace Hb3 := kbl Hb3 HZ
     replace Hb10 := kbl Hb10 HZ
     replace Hb11 := kbl Hb11 HZ
     replace Hb12 := kbl Hb12 HZ
     replace Hb14 := kbl Hb14 HZ
     replace Hb16 := kbl Hb16 HZ
     replace Hb17 := kbl Hb17 HZ
     replace Hb23 := kbl Hb23 HZ
     replace HB := ktr' HB HZ
     replace HDR := Lib.hid (HDR.out.later HZ.out)
     replace HG1 := Lib.hid (HG1.out.later HZ.out (Nat.le_refl _))
     replace HU1 := Lib.hid (HU1.out.later HZ.out (Nat.le_refl _))
     replace HV1 := Lib.hid (HV1.out.later HZ.out (Nat.le_refl _))
     replace HU2 := Lib.hid (HU2.out.later HZ.out (Nat.le_refl _))
     replace HV2 := Lib.hid (HV2.out.later HZ.out (Nat.le_refl _))
     clear HZ
     go_wp2_with fail
     refine (point_any _ _).mono ?_
     rintro e Va24 ⟨rfl, hb⟩
     have HZ := Lib.hid hb
     clear hb
     replace Hb1 := kbl Hb1 HZ
     replace Hb2 := kbl Hb2 HZ
     replace Hb3 := kbl Hb3 HZ
     replace Hb10 := kbl Hb10 HZ
     replace Hb11 := kbl Hb11 HZ
     replace Hb12 := kbl Hb12 HZ
     replace Hb14 := kbl Hb14 HZ
     replace Hb16 := kbl Hb16 HZ
     replace Hb17 := kbl Hb17 HZ
     replace Hb23 := kbl Hb23 HZ
     replace HB := ktr' HB HZ
     replace HDR := Lib.hid (HDR.out.later HZ.out)
     replace HG1 := Lib.hid (HG1.out.later HZ.out (Nat.le_refl _))
     replace HU1 := Lib.hid (HU1.out.later HZ.out (Nat.le_refl _))
     replace HV1 := Lib.hid (HV1.out.later HZ.out (Nat.le_refl _))
     replace HU2 := Lib.hid (HU2.out.later HZ.out (Nat.le_refl _))
     replace HV2 := Lib.hid (HV2.out.later HZ.out (Nat.le_refl _))
     clear HZ
     go_wp2_with fail
     refine (Directions_any 12 12 5 5 _).mono ?_
     rintro e Va25 ⟨rfl, hb⟩
     have HZ := Lib.hid hb
     clear hb
     rw [kn_dirs.2.2.1, kn_dirs.2.2.2.1]
     replace Hb1 := kbl Hb1 HZ
     replace Hb2 := kbl Hb2 HZ
     replace Hb3 := kbl Hb3 HZ
     replace Hb10 := kbl Hb10 HZ
     replace Hb11 := kbl Hb11 HZ
     replace Hb12 := kbl Hb12 HZ
     replace Hb14 := kbl Hb14 HZ
     replace Hb16 := kbl Hb16 HZ
     replace Hb17 := kbl Hb17 HZ
     replace Hb23 := kbl Hb23 HZ
     replace HB := ktr' HB HZ
     replace HDR := Lib.hid (HDR.out.later HZ.out)
     replace HG1 := Lib.hid (HG1.out.later HZ.out (Nat.le_refl _))
     replace HU1 := Lib.hid (HU1.out.later HZ.out (Nat.le_refl _))
     replace HV1 := Lib.hid (HV1.out.later HZ.out (Nat.le_refl _))
     replace HU2 := Lib.hid (HU2.out.later HZ.out (Nat.le_refl _))
     replace HV2 := Lib.hid (HV2.out.later HZ.out (Nat.le_refl _))
     clear HZ
     go_upto_region 22 with (fail)
     have HSV : Hid (∀ U, Below Va25.heap.size Va25 U → U.cell? ⟨b23, 0, none⟩ = some (.int .i64 (-1)) ∧ U.cell? ⟨b23, 1, none⟩ = some (.int .i64 (1))) := fun U hU => by
      have kb23 := Hb23.out.below hU Hb23.out.lt
      exact ⟨kb23.cell 0, kb23.cell 1⟩
     have k0 := HSV.out _ (Below.drew (Below.refl Va25.heap.size Va25))
     refine wp_region_noPanic ?_
     refine wp_region_held_drew (S := (fun w' => w'.cell? ⟨b23, 0, none⟩ = some (.int .i64 (-1)) ∧ w'.cell? ⟨b23, 1, none⟩ = some (.int .i64 (1)))) (by kernel_rfl) ?_ (fun hHeld => ?_)
     · (try dsimp only); (exact k0)
     refine wpAnyH_take (i := 0) (oi := op14_22_0) (v := ?_) rfl (by kernel_rfl) (by kernel_rfl) (by kernel_rfl) (fun _ _ _ h => h) (Or.inl ⟨by rfl, ?_⟩) (by assumption) ?_
     rotate_left
     · ((intro w hSw; delta op14_22_0; (try dsimp only at hSw); go_simp) <;> with_reducible rfl)
     try simp only [op14_22_0, ksz]
     obtain ⟨W0, hW0⟩ : ∃ V, Va25.drew = V := ⟨_, rfl⟩; rw [hW0] at hHeld ⊢; have HB0 : Hid (Below Va25.heap.size Va25 W0) := (by rw [← hW0]; exact Below.drew (Below.refl _ _)); clear hW0
     refine wpAnyH_ready (rs := [1]) (by kernel_rfl) (by simp) ?_
     refine AllReadyH.cons (o := op14_22_1) rfl (fun K hK => ?_) AllReadyH.nil
     delta op14_22_1
     go_simp
     (refine (point_any _ _).mono ?_; rintro e W1 ⟨rfl, hb⟩; have HB1 := Lib.hid (HB0.out.trans (hb.mono HB0.out.size)); clear hb)
     refine hK.out _ _ ?_ (fun hHeld => ?_)
     · (try dsimp only); (exact HSV.out _ HB1.out)
     clear hK K
     try simp only [op14_22_1, ksz]
     refine wpAnyH_ready (rs := [2]) (by kernel_rfl) (by simp) ?_
     refine AllReadyH.cons (o := op14_22_2) rfl (fun K hK => ?_) AllReadyH.nil
     delta op14_22_2
     go_simp
     (refine (Directions_any (-1) 1 2 2 _).mono ?_; rintro e W2 ⟨rfl, hb⟩; have HB2 := Lib.hid (HB1.out.trans (hb.mono HB1.out.size)); clear hb; rw [kn_dirs.2.2.2.2.1, kn_dirs.2.2.2.2.2.1])
     refine hK.out _ _ ?_ (fun hHeld => ?_)
     · (try dsimp only); (exact HSV.out _ HB2.out)
     clear hK K
     try simp only [op14_22_2, ksz]
     refine wpAnyH_take (i := 3) (oi := op14_22_3) (v := ?_) rfl (by kernel_rfl) (by kernel_rfl) (by kernel_rfl) (fun _ _ _ h => h) (Or.inl ⟨by rfl, ?_⟩) (by assumption) ?_
     rotate_left
     · ((intro w hSw; delta op14_22_3; (try dsimp only at hSw); go_simp) <;> with_reducible rfl)
     try simp only [op14_22_3, ksz]
     refine wpAnyH_take (i := 4) (oi := op14_22_4) (v := ?_) rfl (by kernel_rfl) (by kernel_rfl) (by kernel_rfl) (fun _ _ _ h => h) (Or.inl ⟨by rfl, ?_⟩) (by assumption) ?_
     rotate_left
     · ((intro w hSw; delta op14_22_4; (try dsimp only at hSw); go_simp) <;> with_reducible rfl)
     try simp only [op14_22_4, ksz]
     refine wpAnyH_take (i := 5) (oi := op14_22_5) (v := ?_) rfl (by kernel_rfl) (by kernel_rfl) (by kernel_rfl) (fun _ _ _ h => h) (Or.inl ⟨by rfl, ?_⟩) (by assumption) ?_
     rotate_left
     · ((intro w hSw; delta op14_22_5; (try dsimp only at hSw); go_simp) <;> with_reducible rfl)
     try simp only [op14_22_5, ksz]
     refine wpAnyH_take (i := 6) (oi := op14_22_6) (v := ?_) rfl (by kernel_rfl) (by kernel_rfl) (by kernel_rfl) (fun _ _ _ h => h) (Or.inl ⟨by rfl, ?_⟩) (by assumption) ?_
     rotate_left
     · ((intro w hSw; delta op14_22_6; (try dsimp only at hSw); go_simp) <;> with_reducible rfl)
     try simp only [op14_22_6, ksz]
     refine wpAnyH_take (i := 7) (oi := op14_22_7) (v := ?_) rfl (by kernel_rfl) (by kernel_rfl) (by kernel_rfl) (fun _ _ _ h => h) (Or.inl ⟨by rfl, ?_⟩) (by assumption) ?_
     rotate_left
     · ((intro w hSw; delta op14_22_7; (try dsimp only at hSw); go_simp) <;> with_reducible rfl)
     try simp only [op14_22_7, ksz]
     refine wpAnyH_done (by kernel_rfl) ?_ _
     refine NoPanic.normal ?_
     clear HSV k0
     clear hHeld HB0 HB1
     obtain ⟨Va26, hVU⟩ : ∃ V, W2 = V := ⟨_, rfl⟩
     rw [hVU] at HB2 ⊢
     have HZ := HB2
     clear HB2 hVU
     replace Hb1 := kbl Hb1 HZ
     replace Hb2 := kbl Hb2 HZ
     replace Hb3 := kbl Hb3 HZ
     replace Hb10 := kbl Hb10 HZ
     replace Hb11 := kbl Hb11 HZ
     replace Hb12 := kbl Hb12 HZ
     replace Hb14 := kbl Hb14 HZ
     replace Hb16 := kbl Hb16 HZ
     replace Hb17 := kbl Hb17 HZ
     replace Hb23 := kbl Hb23 HZ
     replace HB := ktr' HB HZ
     replace HDR := Lib.hid (HDR.out.later HZ.out)
     replace HG1 := Lib.hid (HG1.out.later HZ.out (Nat.le_refl _))
     replace HU1 := Lib.hid (HU1.out.later HZ.out (Nat.le_refl _))
     replace HV1 := Lib.hid (HV1.out.later HZ.out (Nat.le_refl _))
     replace HU2 := Lib.hid (HU2.out.later HZ.out (Nat.le_refl _))
     replace HV2 := Lib.hid (HV2.out.later HZ.out (Nat.le_refl _))
     clear HZ
     have cb230 := kcl0 Hb23
     have cb231 := kcl1 Hb23
     go_wp2_with fail
     refine (Directions_any (-1) 1 (-1) 1 _).mono ?_
     rintro e Va27 ⟨rfl, hb⟩
     have HZ := Lib.hid hb
     clear hb
     rw [kn_dirs.2.2.2.2.2.2.1, kn_dirs.2.2.2.2.2.2.2]
     clear cb230 cb231
     replace Hb1 := kbl Hb1 HZ
     replace Hb2 := kbl Hb2 HZ
     replace Hb3 := kbl Hb3 HZ
     replace Hb10 := kbl Hb10 HZ
     replace Hb11 := kbl Hb11 HZ
     replace Hb12 := kbl Hb12 HZ
     replace Hb14 := kbl Hb14 HZ
     replace Hb16 := kbl Hb16 HZ
     replace Hb17 := kbl Hb17 HZ
     replace Hb23 := kbl Hb23 HZ
     replace HB := ktr' HB HZ
     replace HDR := Lib.hid (HDR.out.later HZ.out)
     replace HG1 := Lib.hid (HG1.out.later HZ.out (Nat.le_refl _))
     replace HU1 := Lib.hid (HU1.out.later HZ.out (Nat.le_refl _))
     replace HV1 := Lib.hid (HV1.out.later HZ.out (Nat.le_refl _))
     replace HU2 := Lib.hid (HU2.out.later HZ.out (Nat.le_refl _))
     replace HV2 := Lib.hid (HV2.out.later HZ.out (Nat.le_refl _))
     clear HZ
     go_wp2_with fail
     refine (S_any _).mono ?_
     rintro e Va28 ⟨rfl, hb⟩
     have HZ := Lib.hid hb
     clear hb
     replace Hb1 := kbl Hb1 HZ
     replace Hb2 := kbl Hb2 HZ
     replace Hb3 := kbl Hb3 HZ
     replace Hb10 := kbl Hb10 HZ
     replace Hb11 := kbl Hb11 HZ
     replace Hb12 := kbl Hb12 HZ
     replace Hb14 := kbl Hb14 HZ
     replace Hb16 := kbl Hb16 HZ
     replace Hb17 := kbl Hb17 HZ
     replace Hb23 := kbl Hb23 HZ
     replace HB := ktr' HB HZ
     replace HDR := Lib.hid (HDR.out.later HZ.out)
     replace HG1 := Lib.hid (HG1.out.later HZ.out (Nat.le_refl _))
     replace HU1 := Lib.hid (HU1.out.later HZ.out (Nat.le_refl _))
     replace HV1 := Lib.hid (HV1.out.later HZ.out (Nat.le_refl _))
     replace HU2 := Lib.hid (HU2.out.later HZ.out (Nat.le_refl _))
     replace HV2 := Lib.hid (HV2.out.later HZ.out (Nat.le_refl _))
     clear HZ
     go_wp2_with fail
     refine (S_any _).mono ?_
     rintro e Va29 ⟨rfl, hb⟩
     have HZ := Lib.hid hb
     clear hb
     replace Hb1 := kbl Hb1 HZ
     replace Hb2 := kbl Hb2 HZ
     replace Hb3 := kbl Hb3 HZ
     replace Hb10 := kbl Hb10 HZ
     replace Hb11 := kbl Hb11 HZ
     replace Hb12 := kbl Hb12 HZ
     replace Hb14 := kbl Hb14 HZ
     replace Hb16 := kbl Hb16 HZ
     replace Hb17 := kbl Hb17 HZ
     replace Hb23 := kbl Hb23 HZ
     replace HB := ktr' HB HZ
     replace HDR := Lib.hid (HDR.out.later HZ.out)
     replace HG1 := Lib.hid (HG1.out.later HZ.out (Nat.le_refl _))
     replace HU1 := Lib.hid (HU1.out.later HZ.out (Nat.le_refl _))
     replace HV1 := Lib.hid (HV1.out.later HZ.out (Nat.le_refl _))
     replace HU2 := Lib.hid (HU2.out.later HZ.out (Nat.le_refl _))
     replace HV2 := Lib.hid (HV2.out.later HZ.out (Nat.le_refl _))
     clear HZ
     have KDR := HDR
     have KG1 := HG1
     have HP := Lib.hid (Below.refl Va29.heap.size Va29)
     clear HDR HG1 HU1 HV1 HU2 HV2
     go_upto_region 27 with (fail)
     obtain ⟨Va30, hV⟩ : ∃ V, (Va29.alloc (.cells #[.int .i64 (0), .int .i64 (0), .int .i64 (-3000), .int .i64 (-3000), .int .i64 (2000), .int .i64 (4000), .int .i64 (4000), .int .i64 (5000), .int .i64 (5000)] 70)).alloc (.cells #[.int .i64 (0), .int .i64 (0), .int .i64 (-3000), .int .i64 (-3000), .int .i64 (2000), .int .i64 (4000), .int .i64 (4000), .int .i64 (5000), .int .i64 (5000)] 70) = V := ⟨_, rfl⟩
     have Gb1 := Lib.hid (Hb1.out.below (by rw [← hV]; exact (by repeat (first | exact Below.refl _ _ | assumption | refine Below.drew ?_ | refine Below.drewN' ?_ _ | (refine Below.alloc ?_ (by simp <;> omega) _) | (refine Below.setCell ?_ (by simp <;> omega) _))) : Below Va29.heap.size Va29 Va30) Hb1.out.lt)
     have lb1 := Hb1.out.lt
     have Gb2 := Lib.hid (Hb2.out.below (by rw [← hV]; exact (by repeat (first | exact Below.refl _ _ | assumption | refine Below.drew ?_ | refine Below.drewN' ?_ _ | (refine Below.alloc ?_ (by simp <;> omega) _) | (refine Below.setCell ?_ (by simp <;> omega) _))) : Below Va29.heap.size Va29 Va30) Hb2.out.lt)
     have lb2 := Hb2.out.lt
     have Gb3 := Lib.hid (Hb3.out.below (by rw [← hV]; exact (by repeat (first | exact Below.refl _ _ | assumption | refine Below.drew ?_ | refine Below.drewN' ?_ _ | (refine Below.alloc ?_ (by simp <;> omega) _) | (refine Below.setCell ?_ (by simp <;> omega) _))) : Below Va29.heap.size Va29 Va30) Hb3.out.lt)
     have lb3 := Hb3.out.lt
     have Gb10 := Lib.hid (Hb10.out.below (by rw [← hV]; exact (by repeat (first | exact Below.refl _ _ | assumption | refine Below.drew ?_ | refine Below.drewN' ?_ _ | (refine Below.alloc ?_ (by simp <;> omega) _) | (refine Below.setCell ?_ (by simp <;> omega) _))) : Below Va29.heap.size Va29 Va30) Hb10.out.lt)
     have lb10 := Hb10.out.lt
     have Gb11 := Lib.hid (Hb11.out.below (by rw [← hV]; exact (by repeat (first | exact Below.refl _ _ | assumption | refine Below.drew ?_ | refine Below.drewN' ?_ _ | (refine Below.alloc ?_ (by simp <;> omega) _) | (refine Below.setCell ?_ (by simp <;> omega) _))) : Below Va29.heap.size Va29 Va30) Hb11.out.lt)
     have lb11 := Hb11.out.lt
     have Gb12 := Lib.hid (Hb12.out.below (by rw [← hV]; exact (by repeat (first | exact Below.refl _ _ | assumption | refine Below.drew ?_ | refine Below.drewN' ?_ _ | (refine Below.alloc ?_ (by simp <;> omega) _) | (refine Below.setCell ?_ (by simp <;> omega) _))) : Below Va29.heap.size Va29 Va30) Hb12.out.lt)
     have lb12 := Hb12.out.lt
     have Gb14 := Lib.hid (Hb14.out.below (by rw [← hV]; exact (by repeat (first | exact Below.refl _ _ | assumption | refine Below.drew ?_ | refine Below.drewN' ?_ _ | (refine Below.alloc ?_ (by simp <;> omega) _) | (refine Below.setCell ?_ (by simp <;> omega) _))) : Below Va29.heap.size Va29 Va30) Hb14.out.lt)
     have lb14 := Hb14.out.lt
     have Gb16 := Lib.hid (Hb16.out.below (by rw [← hV]; exact (by repeat (first | exact Below.refl _ _ | assumption | refine Below.drew ?_ | refine Below.drewN' ?_ _ | (refine Below.alloc ?_ (by simp <;> omega) _) | (refine Below.setCell ?_ (by simp <;> omega) _))) : Below Va29.heap.size Va29 Va30) Hb16.out.lt)
     have lb16 := Hb16.out.lt
     have Gb17 := Lib.hid (Hb17.out.below (by rw [← hV]; exact (by repeat (first | exact Below.refl _ _ | assumption | refine Below.drew ?_ | refine Below.drewN' ?_ _ | (refine Below.alloc ?_ (by simp <;> omega) _) | (refine Below.setCell ?_ (by simp <;> omega) _))) : Below Va29.heap.size Va29 Va30) Hb17.out.lt)
     have lb17 := Hb17.out.lt
     have Gb23 := Lib.hid (Hb23.out.below (by rw [← hV]; exact (by repeat (first | exact Below.refl _ _ | assumption | refine Below.drew ?_ | refine Below.drewN' ?_ _ | (refine Below.alloc ?_ (by simp <;> omega) _) | (refine Below.setCell ?_ (by simp <;> omega) _))) : Below Va29.heap.size Va29 Va30) Hb23.out.lt)
     have lb23 := Hb23.out.lt
     have Kb28 : Hid (Blk Va30 (Va29.heap.size) 70 #[.int .i64 (0), .int .i64 (0), .int .i64 (-3000), .int .i64 (-3000), .int .i64 (2000), .int .i64 (4000), .int .i64 (4000), .int .i64 (5000), .int .i64 (5000)]) := by rw [← hV]; exact (Blk.new' _ _ _ (by simp)).alloc _
     have Kb29 : Hid (Blk Va30 (Va29.heap.size + 1) 70 #[.int .i64 (0), .int .i64 (0), .int .i64 (-3000), .int .i64 (-3000), .int .i64 (2000), .int .i64 (4000), .int .i64 (4000), .int .i64 (5000), .int .i64 (5000)]) := by rw [← hV]; exact Blk.new' _ _ _ (by simp)
     have hz : Below Va29.heap.size Va29 Va30 := by rw [← hV]; exact (by repeat (first | exact Below.refl _ _ | assumption | refine Below.drew ?_ | refine Below.drewN' ?_ _ | (refine Below.alloc ?_ (by simp <;> omega) _) | (refine Below.setCell ?_ (by simp <;> omega) _)))
     have GHB := Lib.hid (HB.out.trans (hz.mono HB.out.size))
     have lHB := HB.out.size
     have GHP := Lib.hid (HP.out.trans (hz.mono HP.out.size))
     have lHP := HP.out.size
     have HZ := Lib.hid hz
     clear hz
     rw [hV]
     clear hV HZ Hb1 Hb2 Hb3 Hb10 Hb11 Hb12 Hb14 Hb16 Hb17 Hb23 HB HP
     have Hb1 := Gb1
     clear Gb1
     have Hb2 := Gb2
     clear Gb2
     have Hb3 := Gb3
     clear Gb3
     have Hb10 := Gb10
     clear Gb10
     have Hb11 := Gb11
     clear Gb11
     have Hb12 := Gb12
     clear Gb12
     have Hb14 := Gb14
     clear Gb14
     have Hb16 := Gb16
     clear Gb16
     have Hb17 := Gb17
     clear Gb17
     have Hb23 := Gb23
     clear Gb23
     have HB := GHB
     clear GHB
     have HP := GHP
     clear GHP
     obtain ⟨b29, hqb29⟩ : ∃ b, Va29.heap.size + 1 = b := ⟨_, rfl⟩
     obtain ⟨b28, hqb28⟩ : ∃ b, Va29.heap.size = b := ⟨_, rfl⟩
     have gb28 : w.heap.size ≤ b28 := by omega
     have nb28b1 : ¬ b28 = b1 := by omega
     have nb1b28 : ¬ b1 = b28 := by omega
     have nb28b2 : ¬ b28 = b2 := by omega
     have nb2b28 : ¬ b2 = b28 := by omega
     have nb28b3 : ¬ b28 = b3 := by omega
     have nb3b28 : ¬ b3 = b28 := by omega
     have nb28b10 : ¬ b28 = b10 := by omega
     have nb10b28 : ¬ b10 = b28 := by omega
     have nb28b11 : ¬ b28 = b11 := by omega
     have nb11b28 : ¬ b11 = b28 := by omega
     have nb28b12 : ¬ b28 = b12 := by omega
     have nb12b28 : ¬ b12 = b28 := by omega
     have nb28b14 : ¬ b28 = b14 := by omega
     have nb14b28 : ¬ b14 = b28 := by omega
     have nb28b16 : ¬ b28 = b16 := by omega
     have nb16b28 : ¬ b16 = b28 := by omega
     have nb28b17 : ¬ b28 = b17 := by omega
     have nb17b28 : ¬ b17 = b28 := by omega
     have nb28b23 : ¬ b28 = b23 := by omega
     have nb23b28 : ¬ b23 = b28 := by omega
     have gb28_HP : Va29.heap.size ≤ b28 := by omega
     have gb29 : w.heap.size ≤ b29 := by omega
     have nb29b28 : ¬ b29 = b28 := by omega
     have nb28b29 : ¬ b28 = b29 := by omega
     have nb29b1 : ¬ b29 = b1 := by omega
     have nb1b29 : ¬ b1 = b29 := by omega
     have nb29b2 : ¬ b29 = b2 := by omega
     have nb2b29 : ¬ b2 = b29 := by omega
     have nb29b3 : ¬ b29 = b3 := by omega
     have nb3b29 : ¬ b3 = b29 := by omega
     have nb29b10 : ¬ b29 = b10 := by omega
     have nb10b29 : ¬ b10 = b29 := by omega
     have nb29b11 : ¬ b29 = b11 := by omega
     have nb11b29 : ¬ b11 = b29 := by omega
     have nb29b12 : ¬ b29 = b12 := by omega
     have nb12b29 : ¬ b12 = b29 := by omega
     have nb29b14 : ¬ b29 = b14 := by omega
     have nb14b29 : ¬ b14 = b29 := by omega
     have nb29b16 : ¬ b29 = b16 := by omega
     have nb16b29 : ¬ b16 = b29 := by omega
     have nb29b17 : ¬ b29 = b17 := by omega
     have nb17b29 : ¬ b17 = b29 := by omega
     have nb29b23 : ¬ b29 = b23 := by omega
     have nb23b29 : ¬ b23 = b29 := by omega
     have gb29_HP : Va29.heap.size ≤ b29 := by omega
     rw [hqb29] at Kb29 ⊢
     clear hqb29
     rw [hqb28] at Kb28 ⊢
     clear hqb28
     have Hb28 := Kb28
     clear Kb28
     have Hb29 := Kb29
     clear Kb29
     clear lb1 lb2 lb3 lb10 lb11 lb12 lb14 lb16 lb17 lb23
     clear lHB lHP
     go_wp2_with fail
     refine (point_any _ _).mono ?_
     rintro e Va31 ⟨rfl, hb⟩
     have HZ := Lib.hid hb
     clear hb
     replace Hb1 := kbl Hb1 HZ
     replace Hb2 := kbl Hb2 HZ
     replace Hb3 := kbl Hb3 HZ
     replace Hb10 := kbl Hb10 HZ
     replace Hb11 := kbl Hb11 HZ
     replace Hb12 := kbl Hb12 HZ
     replace Hb14 := kbl Hb14 HZ
     replace Hb16 := kbl Hb16 HZ
     replace Hb17 := kbl Hb17 HZ
     replace Hb23 := kbl Hb23 HZ
     replace Hb28 := kbl Hb28 HZ
     replace Hb29 := kbl Hb29 HZ
     replace HB := ktr' HB HZ
     replace HP := ktr' HP HZ
     clear HZ
     have cb280 := kcl0 Hb28
     have cb281 := kcl1 Hb28
     have cb282 := kcl2 Hb28
     have cb283 := kcl3 Hb28
     have cb284 := kcl4 Hb28
     have cb285 := kcl5 Hb28
     have cb286 := kcl6 Hb28
     have cb287 := kcl7 Hb28
     have cb288 := kcl8 Hb28
     have cb290 := kcl0 Hb29
     have cb291 := kcl1 Hb29
     have cb292 := kcl2 Hb29
     have cb293 := kcl3 Hb29
     have cb294 := kcl4 Hb29
     have cb295 := kcl5 Hb29
     have cb296 := kcl6 Hb29
     have cb297 := kcl7 Hb29
     have cb298 := kcl8 Hb29
     have zb280 : Va31.frozen? ⟨b28, 0, none⟩ = false := Hb28.out.frozen 0
     have zb281 : Va31.frozen? ⟨b28, 1, none⟩ = false := Hb28.out.frozen 1
     have zb282 : Va31.frozen? ⟨b28, 2, none⟩ = false := Hb28.out.frozen 2
     have zb283 : Va31.frozen? ⟨b28, 3, none⟩ = false := Hb28.out.frozen 3
     have zb284 : Va31.frozen? ⟨b28, 4, none⟩ = false := Hb28.out.frozen 4
     have zb285 : Va31.frozen? ⟨b28, 5, none⟩ = false := Hb28.out.frozen 5
     have zb286 : Va31.frozen? ⟨b28, 6, none⟩ = false := Hb28.out.frozen 6
     have zb287 : Va31.frozen? ⟨b28, 7, none⟩ = false := Hb28.out.frozen 7
     have zb288 : Va31.frozen? ⟨b28, 8, none⟩ = false := Hb28.out.frozen 8
     have zb290 : Va31.frozen? ⟨b29, 0, none⟩ = false := Hb29.out.frozen 0
     have zb291 : Va31.frozen? ⟨b29, 1, none⟩ = false := Hb29.out.frozen 1
     have zb292 : Va31.frozen? ⟨b29, 2, none⟩ = false := Hb29.out.frozen 2
     have zb293 : Va31.frozen? ⟨b29, 3, none⟩ = false := Hb29.out.frozen 3
     have zb294 : Va31.frozen? ⟨b29, 4, none⟩ = false := Hb29.out.frozen 4
     have zb295 : Va31.frozen? ⟨b29, 5, none⟩ = false := Hb29.out.frozen 5
     have zb296 : Va31.frozen? ⟨b29, 6, none⟩ = false := Hb29.out.frozen 6
     have zb297 : Va31.frozen? ⟨b29, 7, none⟩ = false := Hb29.out.frozen 7
     have zb298 : Va31.frozen? ⟨b29, 8, none⟩ = false := Hb29.out.frozen 8
     go_upto_region 28 with (fail)
     clear cb280 cb281 cb282 cb283 cb284 cb285 cb286 cb287 cb288 cb290 cb291 cb292 cb293 cb294 cb295 cb296 cb297 cb298
     clear zb280 zb281 zb282 zb283 zb284 zb285 zb286 zb287 zb288
     clear zb290 zb291 zb292 zb293 zb294 zb295 zb296 zb297 zb298
     obtain ⟨Va32, hV⟩ : ∃ X, (((Va31.setCell ⟨b28, 0, none⟩ (.int .i64 (-1000))).setCell ⟨b28, 1, none⟩ (.int .i64 (1000))).setCell ⟨b29, 2, none⟩ (.int .i64 (-1000))).setCell ⟨b29, 3, none⟩ (.int .i64 (-1000)) = X := ⟨_, rfl⟩
     replace Hb1 : Hid (Blk Va32 b1 24 #[.int .i64 (4), .int .i64 (1), .int .i64 (1000), .slice ag1 4 cg1]) := by rw [← hV]; exact ((((Hb1.out.far_ (p := ⟨b28, 0, none⟩) (by exact nb1b28) _).far_ (p := ⟨b28, 1, none⟩) (by exact nb1b28) _).far_ (p := ⟨b29, 2, none⟩) (by exact nb1b29) _).far_ (p := ⟨b29, 3, none⟩) (by exact nb1b29) _)
     replace Hb2 : Hid (Blk Va32 b2 28 #[.int .i64 (3000), .int .i64 (3000), .int .i64 (512), .int .i64 (512)]) := by rw [← hV]; exact ((((Hb2.out.far_ (p := ⟨b28, 0, none⟩) (by exact nb2b28) _).far_ (p := ⟨b28, 1, none⟩) (by exact nb2b28) _).far_ (p := ⟨b29, 2, none⟩) (by exact nb2b29) _).far_ (p := ⟨b29, 3, none⟩) (by exact nb2b29) _)
     replace Hb3 : Hid (Blk Va32 b3 26 #[.int .i64 (0), .int .i64 (0)]) := by rw [← hV]; exact ((((Hb3.out.far_ (p := ⟨b28, 0, none⟩) (by exact nb3b28) _).far_ (p := ⟨b28, 1, none⟩) (by exact nb3b28) _).far_ (p := ⟨b29, 2, none⟩) (by exact nb3b29) _).far_ (p := ⟨b29, 3, none⟩) (by exact nb3b29) _)
     replace Hb10 : Hid (Blk Va32 b10 26 #[.int .i64 (626), .int .i64 (628)]) := by rw [← hV]; exact ((((Hb10.out.far_ (p := ⟨b28, 0, none⟩) (by exact nb10b28) _).far_ (p := ⟨b28, 1, none⟩) (by exact nb10b28) _).far_ (p := ⟨b29, 2, none⟩) (by exact nb10b29) _).far_ (p := ⟨b29, 3, none⟩) (by exact nb10b29) _)
     replace Hb11 : Hid (Blk Va32 b11 26 #[.int .i64 (1252), .int .i64 (1255)]) := by rw [← hV]; exact ((((Hb11.out.far_ (p := ⟨b28, 0, none⟩) (by exact nb11b28) _).far_ (p := ⟨b28, 1, none⟩) (by exact nb11b28) _).far_ (p := ⟨b29, 2, none⟩) (by exact nb11b29) _).far_ (p := ⟨b29, 3, none⟩) (by exact nb11b29) _)
     replace Hb12 : Hid (Blk Va32 b12 26 #[.int .i64 (3235), .int .i64 (3238)]) := by rw [← hV]; exact ((((Hb12.out.far_ (p := ⟨b28, 0, none⟩) (by exact nb12b28) _).far_ (p := ⟨b28, 1, none⟩) (by exact nb12b28) _).far_ (p := ⟨b29, 2, none⟩) (by exact nb12b29) _).far_ (p := ⟨b29, 3, none⟩) (by exact nb12b29) _)
     replace Hb14 : Hid (Blk Va32 b14 26 #[.int .i64 (-628), .int .i64 (628)]) := by rw [← hV]; exact ((((Hb14.out.far_ (p := ⟨b28, 0, none⟩) (by exact nb14b28) _).far_ (p := ⟨b28, 1, none⟩) (by exact nb14b28) _).far_ (p := ⟨b29, 2, none⟩) (by exact nb14b29) _).far_ (p := ⟨b29, 3, none⟩) (by exact nb14b29) _)
     replace Hb16 : Hid (Blk Va32 b16 26 #[.int .i64 (1), .int .i64 (2)]) := by rw [← hV]; exact ((((Hb16.out.far_ (p := ⟨b28, 0, none⟩) (by exact nb16b28) _).far_ (p := ⟨b28, 1, none⟩) (by exact nb16b28) _).far_ (p := ⟨b29, 2, none⟩) (by exact nb16b29) _).far_ (p := ⟨b29, 3, none⟩) (by exact nb16b29) _)
     replace Hb17 : Hid (Blk Va32 b17 26 #[.int .i64 (-1), .int .i64 (1)]) := by rw [← hV]; exact ((((Hb17.out.far_ (p := ⟨b28, 0, none⟩) (by exact nb17b28) _).far_ (p := ⟨b28, 1, none⟩) (by exact nb17b28) _).far_ (p := ⟨b29, 2, none⟩) (by exact nb17b29) _).far_ (p := ⟨b29, 3, none⟩) (by exact nb17b29) _)
     replace Hb23 : Hid (Blk Va32 b23 26 #[.int .i64 (-1), .int .i64 (1)]) := by rw [← hV]; exact ((((Hb23.out.far_ (p := ⟨b28, 0, none⟩) (by exact nb23b28) _).far_ (p := ⟨b28, 1, none⟩) (by exact nb23b28) _).far_ (p := ⟨b29, 2, none⟩) (by exact nb23b29) _).far_ (p := ⟨b29, 3, none⟩) (by exact nb23b29) _)
     replace Hb28 : Hid (Blk Va32 b28 70 #[.int .i64 (-1000), .int .i64 (1000), .int .i64 (-3000), .int .i64 (-3000), .int .i64 (2000), .int .i64 (4000), .int .i64 (4000), .int .i64 (5000), .int .i64 (5000)]) := by rw [← hV]; exact ((((Hb28.out.set_ 0 (.int .i64 (-1000))).set_ 1 (.int .i64 (1000))).far_ (p := ⟨b29, 2, none⟩) (by exact nb28b29) _).far_ (p := ⟨b29, 3, none⟩) (by exact nb28b29) _)
     replace Hb29 : Hid (Blk Va32 b29 70 #[.int .i64 (0), .int .i64 (0), .int .i64 (-1000), .int .i64 (-1000), .int .i64 (2000), .int .i64 (4000), .int .i64 (4000), .int .i64 (5000), .int .i64 (5000)]) := by rw [← hV]; exact ((((Hb29.out.far_ (p := ⟨b28, 0, none⟩) (by exact nb29b28) _).far_ (p := ⟨b28, 1, none⟩) (by exact nb29b28) _).set_ 2 (.int .i64 (-1000))).set_ 3 (.int .i64 (-1000)))
     replace HB : Hid (Below w.heap.size w Va32) := by rw [← hV]; exact ((((HB.out.setCell (p := ⟨b28, 0, none⟩) (by exact gb28) _).setCell (p := ⟨b28, 1, none⟩) (by exact gb28) _).setCell (p := ⟨b29, 2, none⟩) (by exact gb29) _).setCell (p := ⟨b29, 3, none⟩) (by exact gb29) _)
     replace HP : Hid (Below Va29.heap.size Va29 Va32) := by rw [← hV]; exact ((((HP.out.setCell (p := ⟨b28, 0, none⟩) (by exact gb28_HP) _).setCell (p := ⟨b28, 1, none⟩) (by exact gb28_HP) _).setCell (p := ⟨b29, 2, none⟩) (by exact gb29_HP) _).setCell (p := ⟨b29, 3, none⟩) (by exact gb29_HP) _)
     rw [hV]
     clear hV
     have HDR := Lib.hid (KDR.out.later HP.out)
     have HG1 := Lib.hid (KG1.out.later HP.out (Nat.le_refl _))
     clear KDR KG1 HP
     have cb10 := kcl0 Hb1
     have cb11 := kcl1 Hb1
     have cb12 := kcl2 Hb1
     have cb13 := kcl3 Hb1
     have cb280 := kcl0 Hb28
     have cb281 := kcl1 Hb28
     have cb282 := kcl2 Hb28
     have cb283 := kcl3 Hb28
     have cb284 := kcl4 Hb28
     have cb285 := kcl5 Hb28
     have cb286 := kcl6 Hb28
     have cb287 := kcl7 Hb28
     have cb288 := kcl8 Hb28
     go_wp2_with fail
     refine (Blow_any 4 1 1000 [(-1000, -1000), (-1000, -1000), (-500, -500), (200, 200)] ag1 cg1 (-1000) 1000 (-3000) (-3000) 2000 4000 4000 5000 5000 0 _ HG1.out).mono ?_
     rintro e Va33 ⟨rfl, hb⟩
     have HZ := Lib.hid hb
     clear hb
     rw [kn_blowW.1, kn_blowW.2]
     simp only [wiV]
     clear cb10 cb11 cb12 cb13 cb280 cb281 cb282 cb283 cb284 cb285 cb286 cb287 cb288
     replace Hb1 := kbl Hb1 HZ
     replace Hb2 := kbl Hb2 HZ
     replace Hb3 := kbl Hb3 HZ
     replace Hb10 := kbl Hb10 HZ
     replace Hb11 := kbl Hb11 HZ
     replace Hb12 := kbl Hb12 HZ
     replace Hb14 := kbl Hb14 HZ
     replace Hb16 := kbl Hb16 HZ
     replace Hb17 := kbl Hb17 HZ
     replace Hb23 := kbl Hb23 HZ
     replace Hb28 := kbl Hb28 HZ
     replace Hb29 := kbl Hb29 HZ
     replace HB := ktr' HB HZ
     replace HDR := Lib.hid (HDR.out.later HZ.out)
     replace HG1 := Lib.hid (HG1.out.later HZ.out (Nat.le_refl _))
     clear HZ
     go_upto_region 29 with (fail)
     obtain ⟨Va34, hV⟩ : ∃ X, Va33.alloc (.cells #[.int .i64 (2529), .int .i64 (2667), .int .i64 (16), .int .i64 (0), .int .i64 (5000)] 32) = X := ⟨_, rfl⟩
     have hnew : Blk Va34 Va33.heap.size 32 #[.int .i64 (2529), .int .i64 (2667), .int .i64 (16), .int .i64 (0), .int .i64 (5000)] := by rw [← hV]; exact (Blk.new' _ _ _ rfl)
     have hz : Below Va33.heap.size Va33 Va34 := by rw [← hV]; exact ((Below.refl _ _).alloc (Nat.le_refl _) _)
     have hgn := HB.out.size
     have lb1 := Hb1.out.lt
     have lb2 := Hb2.out.lt
     have lb3 := Hb3.out.lt
     have lb10 := Hb10.out.lt
     have lb11 := Hb11.out.lt
     have lb12 := Hb12.out.lt
     have lb14 := Hb14.out.lt
     have lb16 := Hb16.out.lt
     have lb17 := Hb17.out.lt
     have lb23 := Hb23.out.lt
     have lb28 := Hb28.out.lt
     have lb29 := Hb29.out.lt
     rw [hV]
     obtain ⟨b30, hbx⟩ : ∃ b, Va33.heap.size = b := ⟨_, rfl⟩
     rw [hbx] at hnew hgn lb1 lb2 lb3 lb10 lb11 lb12 lb14 lb16 lb17 lb23 lb28 lb29 ⊢
     have gb30 : w.heap.size ≤ b30 := hgn
     have HZ := Lib.hid hz
     have nb1b30 : ¬ b1 = b30 := by omega
     have nb30b1 : ¬ b30 = b1 := by omega
     have nb2b30 : ¬ b2 = b30 := by omega
     have nb30b2 : ¬ b30 = b2 := by omega
     have nb3b30 : ¬ b3 = b30 := by omega
     have nb30b3 : ¬ b30 = b3 := by omega
     have nb10b30 : ¬ b10 = b30 := by omega
     have nb30b10 : ¬ b30 = b10 := by omega
     have nb11b30 : ¬ b11 = b30 := by omega
     have nb30b11 : ¬ b30 = b11 := by omega
     have nb12b30 : ¬ b12 = b30 := by omega
     have nb30b12 : ¬ b30 = b12 := by omega
     have nb14b30 : ¬ b14 = b30 := by omega
     have nb30b14 : ¬ b30 = b14 := by omega
     have nb16b30 : ¬ b16 = b30 := by omega
     have nb30b16 : ¬ b30 = b16 := by omega
     have nb17b30 : ¬ b17 = b30 := by omega
     have nb30b17 : ¬ b30 = b17 := by omega
     have nb23b30 : ¬ b23 = b30 := by omega
     have nb30b23 : ¬ b30 = b23 := by omega
     have nb28b30 : ¬ b28 = b30 := by omega
     have nb30b28 : ¬ b30 = b28 := by omega
     have nb29b30 : ¬ b29 = b30 := by omega
     have nb30b29 : ¬ b30 = b29 := by omega
     clear hV hz hgn hbx lb1 lb2 lb3 lb10 lb11 lb12 lb14 lb16 lb17 lb23 lb28 lb29
     replace Hb1 := kbl Hb1 HZ
     replace Hb2 := kbl Hb2 HZ
     replace Hb3 := kbl Hb3 HZ
     replace Hb10 := kbl Hb10 HZ
     replace Hb11 := kbl Hb11 HZ
     replace Hb12 := kbl Hb12 HZ
     replace Hb14 := kbl Hb14 HZ
     replace Hb16 := kbl Hb16 HZ
     replace Hb17 := kbl Hb17 HZ
     replace Hb23 := kbl Hb23 HZ
     replace Hb28 := kbl Hb28 HZ
     replace Hb29 := kbl Hb29 HZ
     replace HB := ktr' HB HZ
     replace HDR := Lib.hid (HDR.out.later HZ.out)
     replace HG1 := Lib.hid (HG1.out.later HZ.out (Nat.le_refl _))
     clear HZ
     have Hb30 := Lib.hid hnew
     clear hnew
     have cb10 := kcl0 Hb1
     have cb11 := kcl1 Hb1
     have cb12 := kcl2 Hb1
     have cb13 := kcl3 Hb1
     have cb290 := kcl0 Hb29
     have cb291 := kcl1 Hb29
     have cb292 := kcl2 Hb29
     have cb293 := kcl3 Hb29
     have cb294 := kcl4 Hb29
     have cb295 := kcl5 Hb29
     have cb296 := kcl6 Hb29
     have cb297 := kcl7 Hb29
     have cb298 := kcl8 Hb29
     go_wp2_with fail
     refine (Blow_any 4 1 1000 [(-1000, -1000), (-1000, -1000), (-500, -500), (200, 200)] ag1 cg1 0 0 (-1000) (-1000) 2000 4000 4000 5000 5000 0 _ HG1.out).mono ?_
     rintro e Va35 ⟨rfl, hb⟩
     have HZ := Lib.hid hb
     clear hb
     rw [kn_blowN.1, kn_blowN.2]
     simp only [wiV]
     clear cb10 cb11 cb12 cb13 cb290 cb291 cb292 cb293 cb294 cb295 cb296 cb297 cb298
     replace Hb1 := kbl Hb1 HZ
     replace Hb2 := kbl Hb2 HZ
     replace Hb3 := kbl Hb3 HZ
     replace Hb10 := kbl Hb10 HZ
     replace Hb11 := kbl Hb11 HZ
     replace Hb12 := kbl Hb12 HZ
     replace Hb14 := kbl Hb14 HZ
     replace Hb16 := kbl Hb16 HZ
     replace Hb17 := kbl Hb17 HZ
     replace Hb23 := kbl Hb23 HZ
     replace Hb28 := kbl Hb28 HZ
     replace Hb29 := kbl Hb29 HZ
     replace Hb30 := kbl Hb30 HZ
     replace HB := ktr' HB HZ
     replace HDR := Lib.hid (HDR.out.later HZ.out)
     replace HG1 := Lib.hid (HG1.out.later HZ.out (Nat.le_refl _))
     clear HZ
     go_upto_region 30 with (fail)
     obtain ⟨Va36, hV⟩ : ∃ X, Va35.alloc (.cells #[.int .i64 (2000), .int .i64 (2000), .int .i64 (16), .int .i64 (5000), .int .i64 (5000)] 32) = X := ⟨_, rfl⟩
     have hnew : Blk Va36 Va35.heap.size 32 #[.int .i64 (2000), .int .i64 (2000), .int .i64 (16), .int .i64 (5000), .int .i64 (5000)] := by rw [← hV]; exact (Blk.new' _ _ _ rfl)
     have hz : Below Va35.heap.size Va35 Va36 := by rw [← hV]; exact ((Below.refl _ _).alloc (Nat.le_refl _) _)
     have hgn := HB.out.size
     have lb1 := Hb1.out.lt
     have lb2 := Hb2.out.lt
     have lb3 := Hb3.out.lt
     have lb10 := Hb10.out.lt
     have lb11 := Hb11.out.lt
     have lb12 := Hb12.out.lt
     have lb14 := Hb14.out.lt
     have lb16 := Hb16.out.lt
     have lb17 := Hb17.out.lt
     have lb23 := Hb23.out.lt
     have lb28 := Hb28.out.lt
     have lb29 := Hb29.out.lt
     have lb30 := Hb30.out.lt
     rw [hV]
     obtain ⟨b31, hbx⟩ : ∃ b, Va35.heap.size = b := ⟨_, rfl⟩
     rw [hbx] at hnew hgn lb1 lb2 lb3 lb10 lb11 lb12 lb14 lb16 lb17 lb23 lb28 lb29 lb30 ⊢
     have gb31 : w.heap.size ≤ b31 := hgn
     have HZ := Lib.hid hz
     have nb1b31 : ¬ b1 = b31 := by omega
     have nb31b1 : ¬ b31 = b1 := by omega
     have nb2b31 : ¬ b2 = b31 := by omega
     have nb31b2 : ¬ b31 = b2 := by omega
     have nb3b31 : ¬ b3 = b31 := by omega
     have nb31b3 : ¬ b31 = b3 := by omega
     have nb10b31 : ¬ b10 = b31 := by omega
     have nb31b10 : ¬ b31 = b10 := by omega
     have nb11b31 : ¬ b11 = b31 := by omega
     have nb31b11 : ¬ b31 = b11 := by omega
     have nb12b31 : ¬ b12 = b31 := by omega
     have nb31b12 : ¬ b31 = b12 := by omega
     have nb14b31 : ¬ b14 = b31 := by omega
     have nb31b14 : ¬ b31 = b14 := by omega
     have nb16b31 : ¬ b16 = b31 := by omega
     have nb31b16 : ¬ b31 = b16 := by omega
     have nb17b31 : ¬ b17 = b31 := by omega
     have nb31b17 : ¬ b31 = b17 := by omega
     have nb23b31 : ¬ b23 = b31 := by omega
     have nb31b23 : ¬ b31 = b23 := by omega
     have nb28b31 : ¬ b28 = b31 := by omega
     have nb31b28 : ¬ b31 = b28 := by omega
     have nb29b31 : ¬ b29 = b31 := by omega
     have nb31b29 : ¬ b31 = b29 := by omega
     have nb30b31 : ¬ b30 = b31 := by omega
     have nb31b30 : ¬ b31 = b30 := by omega
     clear hV hz hgn hbx lb1 lb2 lb3 lb10 lb11 lb12 lb14 lb16 lb17 lb23 lb28 lb29 lb30
     replace Hb1 := kbl Hb1 HZ
     replace Hb2 := kbl Hb2 HZ
     replace Hb3 := kbl Hb3 HZ
     replace Hb10 := kbl Hb10 HZ
     replace Hb11 := kbl Hb11 HZ
     replace Hb12 := kbl Hb12 HZ
     replace Hb14 := kbl Hb14 HZ
     replace Hb16 := kbl Hb16 HZ
     replace Hb17 := kbl Hb17 HZ
     replace Hb23 := kbl Hb23 HZ
     replace Hb28 := kbl Hb28 HZ
     replace Hb29 := kbl Hb29 HZ
     replace Hb30 := kbl Hb30 HZ
     replace HB := ktr' HB HZ
     replace HDR := Lib.hid (HDR.out.later HZ.out)
     replace HG1 := Lib.hid (HG1.out.later HZ.out (Nat.le_refl _))
     clear HZ
     have Hb31 := Lib.hid hnew
     clear hnew
     have HSV : Hid (∀ U, Below Va36.heap.size Va36 U → U.cell? ⟨b30, 0, none⟩ = some (.int .i64 (2529)) ∧ U.cell? ⟨b30, 1, none⟩ = some (.int .i64 (2667)) ∧ U.cell? ⟨b30, 2, none⟩ = some (.int .i64 (16)) ∧ U.cell? ⟨b30, 3, none⟩ = some (.int .i64 (0)) ∧ U.cell? ⟨b30, 4, none⟩ = some (.int .i64 (5000)) ∧ U.cell? ⟨b31, 0, none⟩ = some (.int .i64 (2000)) ∧ U.cell? ⟨b31, 1, none⟩ = some (.int .i64 (2000)) ∧ U.cell? ⟨b31, 2, none⟩ = some (.int .i64 (16)) ∧ U.cell? ⟨b31, 3, none⟩ = some (.int .i64 (5000)) ∧ U.cell? ⟨b31, 4, none⟩ = some (.int .i64 (5000))) := fun U hU => by
      have kb30 := Hb30.out.below hU Hb30.out.lt
      have kb31 := Hb31.out.below hU Hb31.out.lt
      exact ⟨kb30.cell 0, kb30.cell 1, kb30.cell 2, kb30.cell 3, kb30.cell 4, kb31.cell 0, kb31.cell 1, kb31.cell 2, kb31.cell 3, kb31.cell 4⟩
     have k0 := HSV.out _ (Below.drew (Below.refl Va36.heap.size Va36))
     refine wp_region_noPanic ?_
     refine wp_region_held_drew (S := (fun w' => w'.cell? ⟨b30, 0, none⟩ = some (.int .i64 (2529)) ∧ w'.cell? ⟨b30, 1, none⟩ = some (.int .i64 (2667)) ∧ w'.cell? ⟨b30, 2, none⟩ = some (.int .i64 (16)) ∧ w'.cell? ⟨b30, 3, none⟩ = some (.int .i64 (0)) ∧ w'.cell? ⟨b30, 4, none⟩ = some (.int .i64 (5000)) ∧ w'.cell? ⟨b31, 0, none⟩ = some (.int .i64 (2000)) ∧ w'.cell? ⟨b31, 1, none⟩ = some (.int .i64 (2000)) ∧ w'.cell? ⟨b31, 2, none⟩ = some (.int .i64 (16)) ∧ w'.cell? ⟨b31, 3, none⟩ = some (.int .i64 (5000)) ∧ w'.cell? ⟨b31, 4, none⟩ = some (.int .i64 (5000)))) (by kernel_rfl) ?_ (fun hHeld => ?_)
     · (try dsimp only); (exact k0)
     refine wpAnyH_take (i := 0) (oi := op14_30_0) (v := ?_) rfl (by kernel_rfl) (by kernel_rfl) (by kernel_rfl) (fun _ _ _ h => h) (Or.inl ⟨by rfl, ?_⟩) (by assumption) ?_
     rotate_left
     · ((intro w hSw; delta op14_30_0; (try dsimp only at hSw); go_simp) <;> with_reducible rfl)
     try simp only [op14_30_0, ksz]
     refine wpAnyH_take (i := 1) (oi := op14_30_1) (v := ?_) rfl (by kernel_rfl) (by kernel_rfl) (by kernel_rfl) (fun _ _ _ h => h) (Or.inl ⟨by rfl, ?_⟩) (by assumption) ?_
     rotate_left
     · ((intro w hSw; delta op14_30_1; (try dsimp only at hSw); go_simp) <;> with_reducible rfl)
     try simp only [op14_30_1, ksz]
     refine wpAnyH_take (i := 2) (oi := op14_30_2) (v := ?_) rfl (by kernel_rfl) (by kernel_rfl) (by kernel_rfl) (fun _ _ _ h => h) (Or.inl ⟨by rfl, ?_⟩) (by assumption) ?_
     rotate_left
     · ((intro w hSw; delta op14_30_2; (try dsimp only at hSw); go_simp) <;> with_reducible rfl)
     try simp only [op14_30_2, ksz]
     refine wpAnyH_take (i := 3) (oi := op14_30_3) (v := ?_) rfl (by kernel_rfl) (by kernel_rfl) (by kernel_rfl) (fun _ _ _ h => h) (Or.inl ⟨by rfl, ?_⟩) (by assumption) ?_
     rotate_left
     · ((intro w hSw; delta op14_30_3; (try dsimp only at hSw); go_simp) <;> with_reducible rfl)
     try simp only [op14_30_3, ksz]
     refine wpAnyH_take (i := 4) (oi := op14_30_4) (v := ?_) rfl (by kernel_rfl) (by kernel_rfl) (by kernel_rfl) (fun _ _ _ h => h) (Or.inl ⟨by rfl, ?_⟩) (by assumption) ?_
     rotate_left
     · ((intro w hSw; delta op14_30_4; (try dsimp only at hSw); go_simp) <;> with_reducible rfl)
     try simp only [op14_30_4, ksz]
     refine wpAnyH_take (i := 5) (oi := op14_30_5) (v := ?_) rfl (by kernel_rfl) (by kernel_rfl) (by kernel_rfl) (fun _ _ _ h => h) (Or.inl ⟨by rfl, ?_⟩) (by assumption) ?_
     rotate_left
     · ((intro w hSw; delta op14_30_5; (try dsimp only at hSw); go_simp) <;> with_reducible rfl)
     try simp only [op14_30_5, ksz]
     refine wpAnyH_take (i := 6) (oi := op14_30_6) (v := ?_) rfl (by kernel_rfl) (by kernel_rfl) (by kernel_rfl) (fun _ _ _ h => h) (Or.inl ⟨by rfl, ?_⟩) (by assumption) ?_
     rotate_left
     · ((intro w hSw; delta op14_30_6; (try dsimp only at hSw); go_simp) <;> with_reducible rfl)
     try simp only [op14_30_6, ksz]
     refine wpAnyH_take (i := 7) (oi := op14_30_7) (v := ?_) rfl (by kernel_rfl) (by kernel_rfl) (by kernel_rfl) (fun _ _ _ h => h) (Or.inl ⟨by rfl, ?_⟩) (by assumption) ?_
     rotate_left
     · ((intro w hSw; delta op14_30_7; (try dsimp only at hSw); go_simp) <;> with_reducible rfl)
     try simp only [op14_30_7, ksz]
     refine wpAnyH_take (i := 8) (oi := op14_30_8) (v := ?_) rfl (by kernel_rfl) (by kernel_rfl) (by kernel_rfl) (fun _ _ _ h => h) (Or.inl ⟨by rfl, ?_⟩) (by assumption) ?_
     rotate_left
     · ((intro w hSw; delta op14_30_8; (try dsimp only at hSw); go_simp) <;> with_reducible rfl)
     try simp only [op14_30_8, ksz]
     refine wpAnyH_take (i := 9) (oi := op14_30_9) (v := ?_) rfl (by kernel_rfl) (by kernel_rfl) (by kernel_rfl) (fun _ _ _ h => h) (Or.inl ⟨by rfl, ?_⟩) (by assumption) ?_
     rotate_left
     · ((intro w hSw; delta op14_30_9; (try dsimp only at hSw); go_simp) <;> with_reducible rfl)
     try simp only [op14_30_9, ksz]
     refine wpAnyH_take (i := 10) (oi := op14_30_10) (v := ?_) rfl (by kernel_rfl) (by kernel_rfl) (by kernel_rfl) (fun _ _ _ h => h) (Or.inl ⟨by rfl, ?_⟩) (by assumption) ?_
     rotate_left
     · ((intro w hSw; delta op14_30_10; (try dsimp only at hSw); go_simp) <;> with_reducible rfl)
     try simp only [op14_30_10, ksz]
     refine wpAnyH_take (i := 11) (oi := op14_30_11) (v := ?_) rfl (by kernel_rfl) (by kernel_rfl) (by kernel_rfl) (fun _ _ _ h => h) (Or.inl ⟨by rfl, ?_⟩) (by assumption) ?_
     rotate_left
     · ((intro w hSw; delta op14_30_11; (try dsimp only at hSw); go_simp) <;> with_reducible rfl)
     try simp only [op14_30_11, ksz]
     refine wpAnyH_take (i := 12) (oi := op14_30_12) (v := ?_) rfl (by kernel_rfl) (by kernel_rfl) (by kernel_rfl) (fun _ _ _ h => h) (Or.inl ⟨by rfl, ?_⟩) (by assumption) ?_
     rotate_left
     · ((intro w hSw; delta op14_30_12; (try dsimp only at hSw); go_simp) <;> with_reducible rfl)
     try simp only [op14_30_12, ksz]
     refine wpAnyH_take (i := 13) (oi := op14_30_13) (v := ?_) rfl (by kernel_rfl) (by kernel_rfl) (by kernel_rfl) (fun _ _ _ h => h) (Or.inl ⟨by rfl, ?_⟩) (by assumption) ?_
     rotate_left
     · ((intro w hSw; delta op14_30_13; (try dsimp only at hSw); go_simp) <;> with_reducible rfl)
     try simp only [op14_30_13, ksz]
     refine wpAnyH_take (i := 14) (oi := op14_30_14) (v := ?_) rfl (by kernel_rfl) (by kernel_rfl) (by kernel_rfl) (fun _ _ _ h => h) (Or.inl ⟨by rfl, ?_⟩) (by assumption) ?_
     rotate_left
     · ((intro w hSw; delta op14_30_14; (try dsimp only at hSw); go_simp) <;> with_reducible rfl)
     try simp only [op14_30_14, ksz]
     obtain ⟨W0, hW0⟩ : ∃ V, Va36.drew = V := ⟨_, rfl⟩; rw [hW0] at hHeld ⊢; have HB0 : Hid (Below Va36.heap.size Va36 W0) := (by rw [← hW0]; exact Below.drew (Below.refl _ _)); clear hW0
     refine wpAnyH_ready (rs := [15]) (by kernel_rfl) (by simp) ?_
     refine AllReadyH.cons (o := op14_30_15) rfl (fun K hK => ?_) AllReadyH.nil
     delta op14_30_15
     go_simp
     (refine (point_any _ _).mono ?_; rintro e W1 ⟨rfl, hb⟩; have HB1 := Lib.hid (HB0.out.trans (hb.mono HB0.out.size)); clear hb)
     refine hK.out _ _ ?_ (fun hHeld => ?_)
     · (try dsimp only); (exact HSV.out _ HB1.out)
     clear hK K
     try simp only [op14_30_15, ksz]
     refine wpAnyH_ready (rs := [16]) (by kernel_rfl) (by simp) ?_
     refine AllReadyH.cons (o := op14_30_16) rfl (fun K hK => ?_) AllReadyH.nil
     delta op14_30_16
     go_simp
     (refine (point_any _ _).mono ?_; rintro e W2 ⟨rfl, hb⟩; have HB2 := Lib.hid (HB1.out.trans (hb.mono HB1.out.size)); clear hb)
     refine hK.out _ _ ?_ (fun hHeld => ?_)
     · (try dsimp only); (exact HSV.out _ HB2.out)
     clear hK K
     try simp only [op14_30_16, ksz]
     refine wpAnyH_take (i := 17) (oi := op14_30_17) (v := ?_) rfl (by kernel_rfl) (by kernel_rfl) (by kernel_rfl) (fun _ _ _ h => h) (Or.inl ⟨by rfl, ?_⟩) (by assumption) ?_
     rotate_left
     · ((intro w hSw; delta op14_30_17; (try dsimp only at hSw); go_simp) <;> with_reducible rfl)
     try simp only [op14_30_17, ksz]
     refine wpAnyH_take (i := 18) (oi := op14_30_18) (v := ?_) rfl (by kernel_rfl) (by kernel_rfl) (by kernel_rfl) (fun _ _ _ h => h) (Or.inl ⟨by rfl, ?_⟩) (by assumption) ?_
     rotate_left
     · ((intro w hSw; delta op14_30_18; (try dsimp only at hSw); go_simp) <;> with_reducible rfl)
     try simp only [op14_30_18, ksz]
     refine wpAnyH_take (i := 19) (oi := op14_30_19) (v := ?_) rfl (by kernel_rfl) (by kernel_rfl) (by kernel_rfl) (fun _ _ _ h => h) (Or.inl ⟨by rfl, ?_⟩) (by assumption) ?_
     rotate_left
     · ((intro w hSw; delta op14_30_19; (try dsimp only at hSw); go_simp) <;> with_reducible rfl)
     try simp only [op14_30_19, ksz]
     refine wpAnyH_take (i := 20) (oi := op14_30_20) (v := ?_) rfl (by kernel_rfl) (by kernel_rfl) (by kernel_rfl) (fun _ _ _ h => h) (Or.inl ⟨by rfl, ?_⟩) (by assumption) ?_
     rotate_left
     · ((intro w hSw; delta op14_30_20; (try dsimp only at hSw); go_simp) <;> with_reducible rfl)
     try simp only [op14_30_20, ksz]
     refine wpAnyH_ready (rs := [21]) (by kernel_rfl) (by simp) ?_
     refine AllReadyH.cons (o := op14_30_21) rfl (fun K hK => ?_) AllReadyH.nil
     delta op14_30_21
     go_simp
     (refine (works_any _ (HDR.out.later HB2.out)).mono ?_; rintro e W3 ⟨rfl, hb⟩; have HB3 := Lib.hid (HB2.out.trans (hb.mono HB2.out.size)); clear hb)
     refine hK.out _ _ ?_ (fun hHeld => ?_)
     · (try dsimp only); (exact HSV.out _ HB3.out)
     clear hK K
     try simp only [op14_30_21, ksz]
     refine wpAnyH_take (i := 22) (oi := op14_30_22) (v := ?_) rfl (by kernel_rfl) (by kernel_rfl) (by kernel_rfl) (fun _ _ _ h => h) (Or.inl ⟨by rfl, ?_⟩) (by assumption) ?_
     rotate_left
     · ((intro w hSw; delta op14_30_22; (try dsimp only at hSw); go_simp) <;> with_reducible rfl)
     try simp only [op14_30_22, ksz]
     refine wpAnyH_take (i := 23) (oi := op14_30_23) (v := ?_) rfl (by kernel_rfl) (by kernel_rfl) (by kernel_rfl) (fun _ _ _ h => h) (Or.inl ⟨by rfl, ?_⟩) (by assumption) ?_
     rotate_left
     · ((intro w hSw; delta op14_30_23; (try dsimp only at hSw); go_simp) <;> with_reducible rfl)
     try simp only [op14_30_23, ksz]
     refine wpAnyH_done (by kernel_rfl) ?_ _
     refine NoPanic.normal ?_
     clear HSV k0
     clear hHeld HB0 HB1 HB2
     obtain ⟨Va37, hVU⟩ : ∃ V, W3 = V := ⟨_, rfl⟩
     rw [hVU] at HB3 ⊢
     have HZ := HB3
     clear HB3 hVU
     replace Hb1 := kbl Hb1 HZ
     replace Hb2 := kbl Hb2 HZ
     replace Hb3 := kbl Hb3 HZ
     replace Hb10 := kbl Hb10 HZ
     replace Hb11 := kbl Hb11 HZ
     replace Hb12 := kbl Hb12 HZ
     replace Hb14 := kbl Hb14 HZ
     replace Hb16 := kbl Hb16 HZ
     replace Hb17 := kbl Hb17 HZ
     replace Hb23 := kbl Hb23 HZ
     replace Hb28 := kbl Hb28 HZ
     replace Hb29 := kbl Hb29 HZ
     replace Hb30 := kbl Hb30 HZ
     replace Hb31 := kbl Hb31 HZ
     replace HB := ktr' HB HZ
     replace HDR := Lib.hid (HDR.out.later HZ.out)
     replace HG1 := Lib.hid (HG1.out.later HZ.out (Nat.le_refl _))
     clear HZ
     go_wp2
     go_ret
     exact ⟨rfl, HB.out⟩
end Go.Proofs.YtdhcdgfpkjdihaaDoor.Sg
