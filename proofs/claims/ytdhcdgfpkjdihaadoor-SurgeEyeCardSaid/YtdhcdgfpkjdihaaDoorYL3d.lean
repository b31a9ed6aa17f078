/-
  Layer 3, the laws: SurgeEye.
-/
import Derived.Test.YtdhcdgfpkjdihaaDoorYL3c
set_option linter.unusedSimpArgs false
set_option linter.unusedVariables false
namespace Go.Proofs.YtdhcdgfpkjdihaaDoor.Sg
open Go.RowKit Go.Shelf
def op12_8_0 : Oper := ⟨some 33, .move (.tmp 11), 80, "outright.go:202", #[], none⟩
def op12_8_1 : Oper := ⟨some 34, .fieldAddr 70 (.tmp 5) 0, 0, "outright.go:202", #[], none⟩
def op12_8_2 : Oper := ⟨some 35, .load 26 (.tmp 34), 26, "outright.go:202", #[⟨1, .data⟩], none⟩
def op12_8_3 : Oper := ⟨some 36, .call { callee := Callee.value (.func 44), args := #[.tmp 33, .tmp 35], argTypes := #[80, 26] }, 26, "outright.go:202", #[⟨0, .data⟩, ⟨2, .data⟩], none⟩
def op12_8_4 : Oper := ⟨some 37, .move (.tmp 11), 80, "outright.go:202", #[], none⟩
def op12_8_5 : Oper := ⟨some 38, .fieldAddr 70 (.tmp 5) 1, 0, "outright.go:202", #[], none⟩
def op12_8_6 : Oper := ⟨some 39, .load 26 (.tmp 38), 26, "outright.go:202", #[⟨5, .data⟩], none⟩
def op12_8_7 : Oper := ⟨some 40, .call { callee := Callee.value (.func 44), args := #[.tmp 37, .tmp 39], argTypes := #[80, 26] }, 26, "outright.go:202", #[⟨4, .data⟩, ⟨6, .data⟩, ⟨3, .chain⟩], none⟩
def op12_8_8 : Oper := ⟨some 41, .move (.tmp 11), 80, "outright.go:202", #[], none⟩
def op12_8_9 : Oper := ⟨some 42, .fieldAddr 70 (.tmp 5) 3, 0, "outright.go:202", #[], none⟩
def op12_8_10 : Oper := ⟨some 43, .load 26 (.tmp 42), 26, "outright.go:202", #[⟨9, .data⟩], none⟩
def op12_8_11 : Oper := ⟨some 44, .call { callee := Callee.value (.func 44), args := #[.tmp 41, .tmp 43], argTypes := #[80, 26] }, 26, "outright.go:202", #[⟨8, .data⟩, ⟨10, .data⟩, ⟨7, .chain⟩], none⟩
def op12_8_12 : Oper := ⟨some 45, .move (.tmp 11), 80, "outright.go:202", #[], none⟩
def op12_8_13 : Oper := ⟨some 46, .fieldAddr 70 (.tmp 5) 4, 0, "outright.go:202", #[], none⟩
def op12_8_14 : Oper := ⟨some 47, .load 26 (.tmp 46), 26, "outright.go:202", #[⟨13, .data⟩], none⟩
def op12_8_15 : Oper := ⟨some 48, .call { callee := Callee.value (.func 44), args := #[.tmp 45, .tmp 47], argTypes := #[80, 26] }, 26, "outright.go:202", #[⟨12, .data⟩, ⟨14, .data⟩, ⟨11, .chain⟩], none⟩
def op12_8_16 : Oper := ⟨some 49, .fieldAddr 70 (.tmp 12) 0, 0, "outright.go:202", #[⟨0, .phase⟩, ⟨1, .phase⟩, ⟨2, .phase⟩, ⟨3, .phase⟩, ⟨4, .textOnly .lateStores⟩, ⟨5, .textOnly .lateStores⟩, ⟨6, .textOnly .lateStores⟩, ⟨7, .textOnly .lateStoresUnsure⟩, ⟨8, .textOnly .lateStores⟩, ⟨9, .textOnly .lateStores⟩, ⟨10, .textOnly .lateStores⟩, ⟨11, .textOnly .lateStoresUnsure⟩, ⟨12, .textOnly .lateStores⟩, ⟨13, .textOnly .lateStores⟩, ⟨14, .textOnly .lateStores⟩, ⟨15, .textOnly .lateStoresUnsure⟩], none⟩
def op12_8_17 : Oper := ⟨none, .store 26 (.tmp 49) (.tmp 36), 0, "outright.go:202", #[⟨16, .data⟩, ⟨3, .data⟩, ⟨15, .chain⟩, ⟨0, .phase⟩, ⟨1, .phase⟩, ⟨2, .phase⟩, ⟨3, .phase⟩, ⟨4, .textOnly .lateStores⟩, ⟨5, .textOnly .lateStores⟩, ⟨6, .textOnly .lateStores⟩, ⟨7, .textOnly .lateStoresUnsure⟩, ⟨8, .textOnly .lateStores⟩, ⟨9, .textOnly .lateStores⟩, ⟨10, .textOnly .lateStores⟩, ⟨11, .textOnly .lateStoresUnsure⟩, ⟨12, .textOnly .lateStores⟩, ⟨13, .textOnly .lateStores⟩, ⟨14, .textOnly .lateStores⟩, ⟨15, .textOnly .lateStoresUnsure⟩], none⟩
def op12_8_18 : Oper := ⟨some 50, .fieldAddr 70 (.tmp 12) 1, 0, "outright.go:202", #[⟨0, .phase⟩, ⟨1, .phase⟩, ⟨2, .phase⟩, ⟨3, .phase⟩, ⟨4, .phase⟩, ⟨5, .phase⟩, ⟨6, .phase⟩, ⟨7, .phase⟩, ⟨8, .textOnly .lateStores⟩, ⟨9, .textOnly .lateStores⟩, ⟨10, .textOnly .lateStores⟩, ⟨11, .textOnly .lateStoresUnsure⟩, ⟨12, .textOnly .lateStores⟩, ⟨13, .textOnly .lateStores⟩, ⟨14, .textOnly .lateStores⟩, ⟨15, .textOnly .lateStoresUnsure⟩, ⟨16, .phase⟩, ⟨17, .phase⟩], none⟩
def op12_8_19 : Oper := ⟨none, .store 26 (.tmp 50) (.tmp 40), 0, "outright.go:202", #[⟨18, .data⟩, ⟨7, .data⟩, ⟨17, .chain⟩, ⟨0, .phase⟩, ⟨1, .phase⟩, ⟨2, .phase⟩, ⟨3, .phase⟩, ⟨4, .phase⟩, ⟨5, .phase⟩, ⟨6, .phase⟩, ⟨7, .phase⟩, ⟨8, .textOnly .lateStores⟩, ⟨9, .textOnly .lateStores⟩, ⟨10, .textOnly .lateStores⟩, ⟨11, .textOnly .lateStoresUnsure⟩, ⟨12, .textOnly .lateStores⟩, ⟨13, .textOnly .lateStores⟩, ⟨14, .textOnly .lateStores⟩, ⟨15, .textOnly .lateStoresUnsure⟩, ⟨16, .phase⟩, ⟨17, .phase⟩], none⟩
def op12_8_20 : Oper := ⟨some 51, .fieldAddr 70 (.tmp 12) 3, 0, "outright.go:202", #[⟨0, .phase⟩, ⟨1, .phase⟩, ⟨2, .phase⟩, ⟨3, .phase⟩, ⟨4, .phase⟩, ⟨5, .phase⟩, ⟨6, .phase⟩, ⟨7, .phase⟩, ⟨8, .phase⟩, ⟨9, .phase⟩, ⟨10, .phase⟩, ⟨11, .phase⟩, ⟨12, .textOnly .lateStores⟩, ⟨13, .textOnly .lateStores⟩, ⟨14, .textOnly .lateStores⟩, ⟨15, .textOnly .lateStoresUnsure⟩, ⟨16, .phase⟩, ⟨17, .phase⟩, ⟨18, .phase⟩, ⟨19, .phase⟩], none⟩
def op12_8_21 : Oper := ⟨none, .store 26 (.tmp 51) (.tmp 44), 0, "outright.go:202", #[⟨20, .data⟩, ⟨11, .data⟩, ⟨19, .chain⟩, ⟨0, .phase⟩, ⟨1, .phase⟩, ⟨2, .phase⟩, ⟨3, .phase⟩, ⟨4, .phase⟩, ⟨5, .phase⟩, ⟨6, .phase⟩, ⟨7, .phase⟩, ⟨8, .phase⟩, ⟨9, .phase⟩, ⟨10, .phase⟩, ⟨11, .phase⟩, ⟨12, .textOnly .lateStores⟩, ⟨13, .textOnly .lateStores⟩, ⟨14, .textOnly .lateStores⟩, ⟨15, .textOnly .lateStoresUnsure⟩, ⟨16, .phase⟩, ⟨17, .phase⟩, ⟨18, .phase⟩, ⟨19, .phase⟩], none⟩
def op12_8_22 : Oper := ⟨some 52, .fieldAddr 70 (.tmp 12) 4, 0, "outright.go:202", #[⟨0, .phase⟩, ⟨1, .phase⟩, ⟨2, .phase⟩, ⟨3, .phase⟩, ⟨4, .phase⟩, ⟨5, .phase⟩, ⟨6, .phase⟩, ⟨7, .phase⟩, ⟨8, .phase⟩, ⟨9, .phase⟩, ⟨10, .phase⟩, ⟨11, .phase⟩, ⟨12, .phase⟩, ⟨13, .phase⟩, ⟨14, .phase⟩, ⟨15, .phase⟩, ⟨16, .phase⟩, ⟨17, .phase⟩, ⟨18, .phase⟩, ⟨19, .phase⟩, ⟨20, .phase⟩, ⟨21, .phase⟩], none⟩
def op12_8_23 : Oper := ⟨none, .store 26 (.tmp 52) (.tmp 48), 0, "outright.go:202", #[⟨22, .data⟩, ⟨15, .data⟩, ⟨21, .chain⟩, ⟨0, .phase⟩, ⟨1, .phase⟩, ⟨2, .phase⟩, ⟨3, .phase⟩, ⟨4, .phase⟩, ⟨5, .phase⟩, ⟨6, .phase⟩, ⟨7, .phase⟩, ⟨8, .phase⟩, ⟨9, .phase⟩, ⟨10, .phase⟩, ⟨11, .phase⟩, ⟨12, .phase⟩, ⟨13, .phase⟩, ⟨14, .phase⟩, ⟨15, .phase⟩, ⟨16, .phase⟩, ⟨17, .phase⟩, ⟨18, .phase⟩, ⟨19, .phase⟩, ⟨20, .phase⟩, ⟨21, .phase⟩], none⟩
theorem soE_in {s t : So} (hs : soE s = 0) (hr : t.r = s.r) (hx : Lie t.x s.x) (hy : Lie t.y s.y) (hm : Lie t.m s.m) (hp : Lie t.p s.p) : soE t = 0 := by
 obtain ⟨⟨h1, h2, h3, h4⟩, h5, h6⟩ := soE_zero hs
 rw [spOk_iff] at h1 h2 h5 h6
 unfold Lie at *
 unfold soE
 rw [if_pos]
 simp only [spOk_iff]
 omega
theorem blow_eye {g : G} {s t : So} {c : Int} (hB : blowE g s c = 0) (hr : t.r = s.r) (hx : Lie t.x s.x) (hy : Lie t.y s.y) (hm : Lie t.m s.m) (hp : Lie t.p s.p) :
 blowE g t c = 0 ∧ wiE (blowV g s c) = 0 ∧ wiE (blowV g t c) = 0 ∧ Lie (blowV g t c).s (blowV g s c).s ∧ Lie (blowV g t c).p (blowV g s c).p ∧ ∃ a b : Nat, a < 256 ∧ b < 256 ∧ (blowV g s c).n = (a : Int) ∧ (blowV g t c).n = (b : Int) ∧ b &&& a = b := by
 obtain ⟨hgs, hc⟩ := andE_zero.1 hB
 obtain ⟨hg, hs⟩ := andE_zero.1 hgs
 have ht := soE_in hs hr hx hy hm hp
 have hT : blowE g t c = 0 := andE_zero.2 ⟨andE_zero.2 ⟨hg, ht⟩, hc⟩
 have vs : blowV g s c = blowZ g s c := if_pos hB
 have vt : blowV g t c = blowZ g t c := if_pos hT
 obtain ⟨k1, k2, k3, k4⟩ := blow_in (g := g) (c := c) hs hr hx hy hm hp
 obtain ⟨-, -, -, k5⟩ := blow_in (g := g) (c := c) ht rfl (Lie.self hx.1) (Lie.self hy.1) (Lie.self hm.1) (Lie.self hp.1)
 rw [vs, vt]
 exact ⟨hT, k4, k5, k1, k2, _, _, dirN_lt _ _, dirN_lt _ _, rfl, rfl, k3⟩
set_option maxRecDepth 100000 in
set_option maxHeartbeats 8000000 in
theorem SurgeEye_any (WW HH SS : Int) (ss : List (Int × Int)) (A : Option Addr) (c : Nat) (x1 x2 y1 y2 r m1 m2 p1 p2 cell : Int) (CA : Option Addr) (cc : Nat) (l : List (Int × Int)) (w : World) (HD : DirsAt w) (hs : SpansAt w w.heap.size (.slice A ss.length c) ss) (hc : CutsAt w w.heap.size (.slice CA l.length cc) l) (hcu : ∀ x ∈ l, (0 ≤ x.1 ∧ x.1 < 4294967296) ∧ (0 ≤ x.2 ∧ x.2 < 4294967296)) :
 Calls Tryd.prog 12 #[.agg #[.int .i64 (WW), .int .i64 (HH), .int .i64 (SS), .slice A ss.length c], .agg #[.int .i64 (x1), .int .i64 (x2), .int .i64 (y1), .int .i64 (y2), .int .i64 (r), .int .i64 (m1), .int .i64 (m2), .int .i64 (p1), .int .i64 (p2)], .int .i64 cell, .slice CA l.length cc] w fun e w' => e = .returned (.bool true) ∧ Below w.heap.size w w' := by
 by_cases hl6 : (600 : Int) < (ss.length : Int)
 ·
  have HDR := Lib.hid HD
  have HS := Lib.hid hs
  have HC := Lib.hid hc
  have HCU := Lib.hid hcu
  clear HD hs hc hcu
  clear HC HCU
  go_enter Tryd.func12, Tryd.ntmps12
  go_upto_region 1 with (fail)
  obtain ⟨Va1, hV⟩ : ∃ V, (w.alloc (.cells #[.int .i64 (WW), .int .i64 (HH), .int .i64 (SS), .slice A ss.length c] 24)).alloc (.cells #[.int .i64 (x1), .int .i64 (x2), .int .i64 (y1), .int .i64 (y2), .int .i64 (r), .int .i64 (m1), .int .i64 (m2), .int .i64 (p1), .int .i64 (p2)] 70) = V := ⟨_, rfl⟩
  have Kb4 : Hid (Blk Va1 (w.heap.size) 24 #[.int .i64 (WW), .int .i64 (HH), .int .i64 (SS), .slice A ss.length c]) := by rw [← hV]; exact (Blk.new' _ _ _ (by simp)).alloc _
  have Kb5 : Hid (Blk Va1 (w.heap.size + 1) 70 #[.int .i64 (x1), .int .i64 (x2), .int .i64 (y1), .int .i64 (y2), .int .i64 (r), .int .i64 (m1), .int .i64 (m2), .int .i64 (p1), .int .i64 (p2)]) := by rw [← hV]; exact Blk.new' _ _ _ (by simp)
  have GHB : Hid (Below w.heap.size w Va1) := by rw [← hV]; exact (by repeat (first | exact Below.refl _ _ | assumption | refine Below.drew ?_ | refine Below.drewN' ?_ _ | (refine Below.alloc ?_ (by simp <;> omega) _) | (refine Below.setCell ?_ (by simp <;> omega) _)))
  have HZ : Hid (Below w.heap.size w Va1) := GHB
  rw [hV]
  clear hV HZ
  have HB := GHB
  clear GHB
  obtain ⟨b5, hqb5⟩ : ∃ b, w.heap.size + 1 = b := ⟨_, rfl⟩
  obtain ⟨b4, hqb4⟩ : ∃ b, w.heap.size = b := ⟨_, rfl⟩
  have gb4 : w.heap.size ≤ b4 := by omega
  have gb5 : w.heap.size ≤ b5 := by omega
  have nb5b4 : ¬ b5 = b4 := by omega
  have nb4b5 : ¬ b4 = b5 := by omega
  rw [hqb5] at Kb5 ⊢
  clear hqb5
  have HN : Hid (w.heap.size = b4) := hqb4
  rw [hqb4] at Kb4 ⊢
  clear hqb4
  have Hb4 := Kb4
  clear Kb4
  have Hb5 := Kb5
  clear Kb5
  have cb40 : Va1.cell? ⟨b4, 0, none⟩ = some (.int .i64 (WW)) := Hb4.out.cell 0
  have cb41 : Va1.cell? ⟨b4, 1, none⟩ = some (.int .i64 (HH)) := Hb4.out.cell 1
  have cb42 : Va1.cell? ⟨b4, 2, none⟩ = some (.int .i64 (SS)) := Hb4.out.cell 2
  have cb43 : Va1.cell? ⟨b4, 3, none⟩ = some (.slice A ss.length c) := Hb4.out.cell 3
  go_wp2_with fail
  refine (works_any _ (HDR.out.later HB.out)).mono ?_
  rintro e Va2 ⟨rfl, hb⟩
  have HBZ := Lib.hid (HB.out.trans (hb.mono HB.out.size))
  clear hb
  go_wp2
  go_ret
  exact ⟨rfl, HBZ.out⟩
 by_cases hE : blowE ⟨WW, HH, SS, ss⟩ ⟨(x1, x2), (y1, y2), r, (m1, m2), (p1, p2)⟩ cell = 0
 rotate_left
 ·
  have HDR := Lib.hid HD
  have HS := Lib.hid hs
  have HC := Lib.hid hc
  have HCU := Lib.hid hcu
  clear HD hs hc hcu
  clear HC HCU
  obtain ⟨E, hEE⟩ : ∃ z, blowE ⟨WW, HH, SS, ss⟩ ⟨(x1, x2), (y1, y2), r, (m1, m2), (p1, p2)⟩ cell = z := ⟨_, rfl⟩
  rw [hEE] at hE
  have HEE := Lib.hid hEE
  clear hEE
  obtain ⟨⟨⟨as1, as2⟩, an, ⟨ap1, ap2⟩⟩, ha⟩ : ∃ z : Wi, blowV ⟨WW, HH, SS, ss⟩ ⟨(x1, x2), (y1, y2), r, (m1, m2), (p1, p2)⟩ cell = z := ⟨_, rfl⟩
  have HA := Lib.hid ha
  clear ha
  go_enter Tryd.func12, Tryd.ntmps12
  go_upto_region 1 with (fail)
  obtain ⟨Va101, hV⟩ : ∃ V, (w.alloc (.cells #[.int .i64 (WW), .int .i64 (HH), .int .i64 (SS), .slice A ss.length c] 24)).alloc (.cells #[.int .i64 (x1), .int .i64 (x2), .int .i64 (y1), .int .i64 (y2), .int .i64 (r), .int .i64 (m1), .int .i64 (m2), .int .i64 (p1), .int .i64 (p2)] 70) = V := ⟨_, rfl⟩
  have Kb4 : Hid (Blk Va101 (w.heap.size) 24 #[.int .i64 (WW), .int .i64 (HH), .int .i64 (SS), .slice A ss.length c]) := by rw [← hV]; exact (Blk.new' _ _ _ (by simp)).alloc _
  have Kb5 : Hid (Blk Va101 (w.heap.size + 1) 70 #[.int .i64 (x1), .int .i64 (x2), .int .i64 (y1), .int .i64 (y2), .int .i64 (r), .int .i64 (m1), .int .i64 (m2), .int .i64 (p1), .int .i64 (p2)]) := by rw [← hV]; exact Blk.new' _ _ _ (by simp)
  have GHB : Hid (Below w.heap.size w Va101) := by rw [← hV]; exact (by repeat (first | exact Below.refl _ _ | assumption | refine Below.drew ?_ | refine Below.drewN' ?_ _ | (refine Below.alloc ?_ (by simp <;> omega) _) | (refine Below.setCell ?_ (by simp <;> omega) _)))
  have HZ : Hid (Below w.heap.size w Va101) := GHB
  rw [hV]
  clear hV HZ
  have HB := GHB
  clear GHB
  obtain ⟨b5, hqb5⟩ : ∃ b, w.heap.size + 1 = b := ⟨_, rfl⟩
  obtain ⟨b4, hqb4⟩ : ∃ b, w.heap.size = b := ⟨_, rfl⟩
  have gb4 : w.heap.size ≤ b4 := by omega
  have gb5 : w.heap.size ≤ b5 := by omega
  have nb5b4 : ¬ b5 = b4 := by omega
  have nb4b5 : ¬ b4 = b5 := by omega
  rw [hqb5] at Kb5 ⊢
  clear hqb5
  have HN : Hid (w.heap.size = b4) := hqb4
  rw [hqb4] at Kb4 ⊢
  clear hqb4
  have Hb4 := Kb4
  clear Kb4
  have Hb5 := Kb5
  clear Kb5
  have cb40 : Va101.cell? ⟨b4, 0, none⟩ = some (.int .i64 (WW)) := Hb4.out.cell 0
  have cb41 : Va101.cell? ⟨b4, 1, none⟩ = some (.int .i64 (HH)) := Hb4.out.cell 1
  have cb42 : Va101.cell? ⟨b4, 2, none⟩ = some (.int .i64 (SS)) := Hb4.out.cell 2
  have cb43 : Va101.cell? ⟨b4, 3, none⟩ = some (.slice A ss.length c) := Hb4.out.cell 3
  go_upto_region 3 with (fail)
  clear cb40 cb41 cb42 cb43
  have cb40 : Va101.cell? ⟨b4, 0, none⟩ = some (.int .i64 (WW)) := Hb4.out.cell 0
  have cb41 : Va101.cell? ⟨b4, 1, none⟩ = some (.int .i64 (HH)) := Hb4.out.cell 1
  have cb42 : Va101.cell? ⟨b4, 2, none⟩ = some (.int .i64 (SS)) := Hb4.out.cell 2
  have cb43 : Va101.cell? ⟨b4, 3, none⟩ = some (.slice A ss.length c) := Hb4.out.cell 3
  have cb50 : Va101.cell? ⟨b5, 0, none⟩ = some (.int .i64 (x1)) := Hb5.out.cell 0
  have cb51 : Va101.cell? ⟨b5, 1, none⟩ = some (.int .i64 (x2)) := Hb5.out.cell 1
  have cb52 : Va101.cell? ⟨b5, 2, none⟩ = some (.int .i64 (y1)) := Hb5.out.cell 2
  have cb53 : Va101.cell? ⟨b5, 3, none⟩ = some (.int .i64 (y2)) := Hb5.out.cell 3
  have cb54 : Va101.cell? ⟨b5, 4, none⟩ = some (.int .i64 (r)) := Hb5.out.cell 4
  have cb55 : Va101.cell? ⟨b5, 5, none⟩ = some (.int .i64 (m1)) := Hb5.out.cell 5
  have cb56 : Va101.cell? ⟨b5, 6, none⟩ = some (.int .i64 (m2)) := Hb5.out.cell 6
  have cb57 : Va101.cell? ⟨b5, 7, none⟩ = some (.int .i64 (p1)) := Hb5.out.cell 7
  have cb58 : Va101.cell? ⟨b5, 8, none⟩ = some (.int .i64 (p2)) := Hb5.out.cell 8
  go_wp2_with fail
  refine (Blow_any WW HH SS ss A c x1 x2 y1 y2 r m1 m2 p1 p2 cell _ (HS.out.later HB.out (Nat.le_refl _))).mono ?_
  rintro e Va102 ⟨rfl, hb⟩
  have HZ := Lib.hid hb
  clear hb
  rw [HA.out, HEE.out]
  simp only [wiV]
  clear cb40 cb41 cb42 cb43 cb50 cb51 cb52 cb53 cb54 cb55 cb56 cb57 cb58
  have Gb4 := Lib.hid (Hb4.out.below HZ.out Hb4.out.lt)
  have Gb5 := Lib.hid (Hb5.out.below HZ.out Hb5.out.lt)
  have GHB := Lib.hid (HB.out.trans (HZ.out.mono HB.out.size))
  clear Hb4 Hb5 HB HZ
  have Hb4 := Gb4
  have Hb5 := Gb5
  have HB := GHB
  clear Gb4 Gb5 GHB
  go_upto_region 4 with (fail)
  obtain ⟨Va103, hV⟩ : ∃ X, Va102.alloc (.cells #[.int .i64 (as1), .int .i64 (as2), .int .i64 (an), .int .i64 (ap1), .int .i64 (ap2)] 32) = X := ⟨_, rfl⟩
  have hnew : Blk Va103 Va102.heap.size 32 #[.int .i64 (as1), .int .i64 (as2), .int .i64 (an), .int .i64 (ap1), .int .i64 (ap2)] := by rw [← hV]; exact (Blk.new' _ _ _ rfl)
  have hz : Below Va102.heap.size Va102 Va103 := by rw [← hV]; exact ((Below.refl _ _).alloc (Nat.le_refl _) _)
  have hgn := HB.out.size
  have lb4 := Hb4.out.lt
  have lb5 := Hb5.out.lt
  rw [hV]
  obtain ⟨b9, hbx⟩ : ∃ b, Va102.heap.size = b := ⟨_, rfl⟩
  rw [hbx] at hnew hgn lb4 lb5 ⊢
  have gb9 : w.heap.size ≤ b9 := hgn
  have HZ := Lib.hid hz
  have nb4b9 : ¬ b4 = b9 := by omega
  have nb9b4 : ¬ b9 = b4 := by omega
  have nb5b9 : ¬ b5 = b9 := by omega
  have nb9b5 : ¬ b9 = b5 := by omega
  clear hV hz hgn hbx lb4 lb5
  have Gb4 := Lib.hid (Hb4.out.below HZ.out Hb4.out.lt)
  have Gb5 := Lib.hid (Hb5.out.below HZ.out Hb5.out.lt)
  have GHB := Lib.hid (HB.out.trans (HZ.out.mono HB.out.size))
  clear Hb4 Hb5 HB HZ
  have Hb4 := Gb4
  have Hb5 := Gb5
  have HB := GHB
  clear Gb4 Gb5 GHB
  have Hb9 := Lib.hid hnew
  clear hnew
  go_wp2_with fail
  refine (works_any _ (HDR.out.later HB.out)).mono ?_
  rintro e Va104 ⟨rfl, hb⟩
  have HBZ := Lib.hid (HB.out.trans (hb.mono HB.out.size))
  clear hb
  go_wp2
  go_ret
  exact ⟨rfl, HBZ.out⟩
 ·
  have HDR := Lib.hid HD
  have HS := Lib.hid hs
  have HC := Lib.hid hc
  have HCU := Lib.hid hcu
  clear HD hs hc hcu
  have hso := (andE_zero.1 (andE_zero.1 hE).1).2
  obtain ⟨⟨g1, g2, -, -⟩, g3, g4⟩ := soE_zero hso
  rw [spOk_iff] at g1 g2 g3 g4
  simp only at g1 g2 g3 g4
  have HE := Lib.hid hE
  clear hE hso
  have hne : ∀ q, 0 < l.length → w.heap.size ≤ q → ∀ bb off, CA = some ⟨bb, off, none⟩ → ¬ bb = q := by
   intro q hl hq bb off e1 e2
   obtain ⟨b', off', e3, h4, -⟩ := HC.out.at_ (k := 0) hl
   rw [e1] at e3
   injection e3 with e3
   injection e3 with e3
   omega
  have HNE := Lib.hid hne
  clear hne
  obtain ⟨⟨⟨as1, as2⟩, an, ⟨ap1, ap2⟩⟩, ha⟩ : ∃ z : Wi, blowV ⟨WW, HH, SS, ss⟩ ⟨(x1, x2), (y1, y2), r, (m1, m2), (p1, p2)⟩ cell = z := ⟨_, rfl⟩
  have HA := Lib.hid ha
  clear ha
  go_enter Tryd.func12, Tryd.ntmps12
  go_upto_region 1 with (fail)
  obtain ⟨Va201, hV⟩ : ∃ V, (w.alloc (.cells #[.int .i64 (WW), .int .i64 (HH), .int .i64 (SS), .slice A ss.length c] 24)).alloc (.cells #[.int .i64 (x1), .int .i64 (x2), .int .i64 (y1), .int .i64 (y2), .int .i64 (r), .int .i64 (m1), .int .i64 (m2), .int .i64 (p1), .int .i64 (p2)] 70) = V := ⟨_, rfl⟩
  have Kb4 : Hid (Blk Va201 (w.heap.size) 24 #[.int .i64 (WW), .int .i64 (HH), .int .i64 (SS), .slice A ss.length c]) := by rw [← hV]; exact (Blk.new' _ _ _ (by simp)).alloc _
  have Kb5 : Hid (Blk Va201 (w.heap.size + 1) 70 #[.int .i64 (x1), .int .i64 (x2), .int .i64 (y1), .int .i64 (y2), .int .i64 (r), .int .i64 (m1), .int .i64 (m2), .int .i64 (p1), .int .i64 (p2)]) := by rw [← hV]; exact Blk.new' _ _ _ (by simp)
  have GHB : Hid (Below w.heap.size w Va201) := by rw [← hV]; exact (by repeat (first | exact Below.refl _ _ | assumption | refine Below.drew ?_ | refine Below.drewN' ?_ _ | (refine Below.alloc ?_ (by simp <;> omega) _) | (refine Below.setCell ?_ (by simp <;> omega) _)))
  have HZ : Hid (Below w.heap.size w Va201) := GHB
  rw [hV]
  clear hV HZ
  have HB := GHB
  clear GHB
  obtain ⟨b5, hqb5⟩ : ∃ b, w.heap.size + 1 = b := ⟨_, rfl⟩
  obtain ⟨b4, hqb4⟩ : ∃ b, w.heap.size = b := ⟨_, rfl⟩
  have gb4 : w.heap.size ≤ b4 := by omega
  have gb5 : w.heap.size ≤ b5 := by omega
  have nb5b4 : ¬ b5 = b4 := by omega
  have nb4b5 : ¬ b4 = b5 := by omega
  rw [hqb5] at Kb5 ⊢
  clear hqb5
  have HN : Hid (w.heap.size = b4) := hqb4
  rw [hqb4] at Kb4 ⊢
  clear hqb4
  have Hb4 := Kb4
  clear Kb4
  have Hb5 := Kb5
  clear Kb5
  have cb40 : Va201.cell? ⟨b4, 0, none⟩ = some (.int .i64 (WW)) := Hb4.out.cell 0
  have cb41 : Va201.cell? ⟨b4, 1, none⟩ = some (.int .i64 (HH)) := Hb4.out.cell 1
  have cb42 : Va201.cell? ⟨b4, 2, none⟩ = some (.int .i64 (SS)) := Hb4.out.cell 2
  have cb43 : Va201.cell? ⟨b4, 3, none⟩ = some (.slice A ss.length c) := Hb4.out.cell 3
  go_upto_region 3 with (fail)
  clear cb40 cb41 cb42 cb43
  have cb40 : Va201.cell? ⟨b4, 0, none⟩ = some (.int .i64 (WW)) := Hb4.out.cell 0
  have cb41 : Va201.cell? ⟨b4, 1, none⟩ = some (.int .i64 (HH)) := Hb4.out.cell 1
  have cb42 : Va201.cell? ⟨b4, 2, none⟩ = some (.int .i64 (SS)) := Hb4.out.cell 2
  have cb43 : Va201.cell? ⟨b4, 3, none⟩ = some (.slice A ss.length c) := Hb4.out.cell 3
  have cb50 : Va201.cell? ⟨b5, 0, none⟩ = some (.int .i64 (x1)) := Hb5.out.cell 0
  have cb51 : Va201.cell? ⟨b5, 1, none⟩ = some (.int .i64 (x2)) := Hb5.out.cell 1
  have cb52 : Va201.cell? ⟨b5, 2, none⟩ = some (.int .i64 (y1)) := Hb5.out.cell 2
  have cb53 : Va201.cell? ⟨b5, 3, none⟩ = some (.int .i64 (y2)) := Hb5.out.cell 3
  have cb54 : Va201.cell? ⟨b5, 4, none⟩ = some (.int .i64 (r)) := Hb5.out.cell 4
  have cb55 : Va201.cell? ⟨b5, 5, none⟩ = some (.int .i64 (m1)) := Hb5.out.cell 5
  have cb56 : Va201.cell? ⟨b5, 6, none⟩ = some (.int .i64 (m2)) := Hb5.out.cell 6
  have cb57 : Va201.cell? ⟨b5, 7, none⟩ = some (.int .i64 (p1)) := Hb5.out.cell 7
  have cb58 : Va201.cell? ⟨b5, 8, none⟩ = some (.int .i64 (p2)) := Hb5.out.cell 8
  go_wp2_with fail
  refine (Blow_any WW HH SS ss A c x1 x2 y1 y2 r m1 m2 p1 p2 cell _ (HS.out.later HB.out (Nat.le_refl _))).mono ?_
  rintro e Va202 ⟨rfl, hb⟩
  have HZ := Lib.hid hb
  clear hb
  rw [HA.out, HE.out]
  simp only [wiV]
  clear cb40 cb41 cb42 cb43 cb50 cb51 cb52 cb53 cb54 cb55 cb56 cb57 cb58
  have Gb4 := Lib.hid (Hb4.out.below HZ.out Hb4.out.lt)
  have Gb5 := Lib.hid (Hb5.out.below HZ.out Hb5.out.lt)
  have GHB := Lib.hid (HB.out.trans (HZ.out.mono HB.out.size))
  clear Hb4 Hb5 HB HZ
  have Hb4 := Gb4
  have Hb5 := Gb5
  have HB := GHB
  clear Gb4 Gb5 GHB
  go_upto_region 4 with (fail)
  obtain ⟨Va203, hV⟩ : ∃ X, Va202.alloc (.cells #[.int .i64 (as1), .int .i64 (as2), .int .i64 (an), .int .i64 (ap1), .int .i64 (ap2)] 32) = X := ⟨_, rfl⟩
  have hnew : Blk Va203 Va202.heap.size 32 #[.int .i64 (as1), .int .i64 (as2), .int .i64 (an), .int .i64 (ap1), .int .i64 (ap2)] := by rw [← hV]; exact (Blk.new' _ _ _ rfl)
  have hz : Below Va202.heap.size Va202 Va203 := by rw [← hV]; exact ((Below.refl _ _).alloc (Nat.le_refl _) _)
  have hgn := HB.out.size
  have lb4 := Hb4.out.lt
  have lb5 := Hb5.out.lt
  rw [hV]
  obtain ⟨b9, hbx⟩ : ∃ b, Va202.heap.size = b := ⟨_, rfl⟩
  rw [hbx] at hnew hgn lb4 lb5 ⊢
  have gb9 : w.heap.size ≤ b9 := hgn
  have HZ := Lib.hid hz
  have nb4b9 : ¬ b4 = b9 := by omega
  have nb9b4 : ¬ b9 = b4 := by omega
  have nb5b9 : ¬ b5 = b9 := by omega
  have nb9b5 : ¬ b9 = b5 := by omega
  clear hV hz hgn hbx lb4 lb5
  have Gb4 := Lib.hid (Hb4.out.below HZ.out Hb4.out.lt)
  have Gb5 := Lib.hid (Hb5.out.below HZ.out Hb5.out.lt)
  have GHB := Lib.hid (HB.out.trans (HZ.out.mono HB.out.size))
  clear Hb4 Hb5 HB HZ
  have Hb4 := Gb4
  have Hb5 := Gb5
  have HB := GHB
  clear Gb4 Gb5 GHB
  have Hb9 := Lib.hid hnew
  clear hnew
  go_upto_region 7 with (fail)
  obtain ⟨Va204, hV⟩ : ∃ X, Va203.alloc (.cells #[.slice CA l.length cc, .int .i64 (0)] 82) = X := ⟨_, rfl⟩
  have hnew : Blk Va204 Va203.heap.size 82 #[.slice CA l.length cc, .int .i64 (0)] := by rw [← hV]; exact (Blk.new' _ _ _ rfl)
  have hz : Below Va203.heap.size Va203 Va204 := by rw [← hV]; exact ((Below.refl _ _).alloc (Nat.le_refl _) _)
  have hgn := HB.out.size
  have lb4 := Hb4.out.lt
  have lb5 := Hb5.out.lt
  have lb9 := Hb9.out.lt
  rw [hV]
  obtain ⟨b11, hbx⟩ : ∃ b, Va203.heap.size = b := ⟨_, rfl⟩
  rw [hbx] at hnew hgn lb4 lb5 lb9 ⊢
  have gb11 : w.heap.size ≤ b11 := hgn
  have HZ := Lib.hid hz
  have nb4b11 : ¬ b4 = b11 := by omega
  have nb11b4 : ¬ b11 = b4 := by omega
  have nb5b11 : ¬ b5 = b11 := by omega
  have nb11b5 : ¬ b11 = b5 := by omega
  have nb9b11 : ¬ b9 = b11 := by omega
  have nb11b9 : ¬ b11 = b9 := by omega
  clear hV hz hgn hbx lb4 lb5 lb9
  have Gb4 := Lib.hid (Hb4.out.below HZ.out Hb4.out.lt)
  have Gb5 := Lib.hid (Hb5.out.below HZ.out Hb5.out.lt)
  have Gb9 := Lib.hid (Hb9.out.below HZ.out Hb9.out.lt)
  have GHB := Lib.hid (HB.out.trans (HZ.out.mono HB.out.size))
  clear Hb4 Hb5 Hb9 HB HZ
  have Hb4 := Gb4
  have Hb5 := Gb5
  have Hb9 := Gb9
  have HB := GHB
  clear Gb4 Gb5 Gb9 GHB
  have Hb11 := Lib.hid hnew
  clear hnew
  have cb50 : Va204.cell? ⟨b5, 0, none⟩ = some (.int .i64 (x1)) := Hb5.out.cell 0
  have cb51 : Va204.cell? ⟨b5, 1, none⟩ = some (.int .i64 (x2)) := Hb5.out.cell 1
  have cb52 : Va204.cell? ⟨b5, 2, none⟩ = some (.int .i64 (y1)) := Hb5.out.cell 2
  have cb53 : Va204.cell? ⟨b5, 3, none⟩ = some (.int .i64 (y2)) := Hb5.out.cell 3
  have cb54 : Va204.cell? ⟨b5, 4, none⟩ = some (.int .i64 (r)) := Hb5.out.cell 4
  have cb55 : Va204.cell? ⟨b5, 5, none⟩ = some (.int .i64 (m1)) := Hb5.out.cell 5
  have cb56 : Va204.cell? ⟨b5, 6, none⟩ = some (.int .i64 (m2)) := Hb5.out.cell 6
  have cb57 : Va204.cell? ⟨b5, 7, none⟩ = some (.int .i64 (p1)) := Hb5.out.cell 7
  have cb58 : Va204.cell? ⟨b5, 8, none⟩ = some (.int .i64 (p2)) := Hb5.out.cell 8
  go_upto_region 8 with (fail)
  clear cb50 cb51 cb52 cb53 cb54 cb55 cb56 cb57 cb58
  obtain ⟨Va205, hV⟩ : ∃ X, Va204.alloc (.cells #[.int .i64 (x1), .int .i64 (x2), .int .i64 (y1), .int .i64 (y2), .int .i64 (r), .int .i64 (m1), .int .i64 (m2), .int .i64 (p1), .int .i64 (p2)] 70) = X := ⟨_, rfl⟩
  have hnew : Blk Va205 Va204.heap.size 70 #[.int .i64 (x1), .int .i64 (x2), .int .i64 (y1), .int .i64 (y2), .int .i64 (r), .int .i64 (m1), .int .i64 (m2), .int .i64 (p1), .int .i64 (p2)] := by rw [← hV]; exact (Blk.new' _ _ _ rfl)
  have hz : Below Va204.heap.size Va204 Va205 := by rw [← hV]; exact ((Below.refl _ _).alloc (Nat.le_refl _) _)
  have hgn := HB.out.size
  have lb4 := Hb4.out.lt
  have lb5 := Hb5.out.lt
  have lb9 := Hb9.out.lt
  have lb11 := Hb11.out.lt
  rw [hV]
  obtain ⟨b12, hbx⟩ : ∃ b, Va204.heap.size = b := ⟨_, rfl⟩
  rw [hbx] at hnew hgn lb4 lb5 lb9 lb11 ⊢
  have gb12 : w.heap.size ≤ b12 := hgn
  have HZ := Lib.hid hz
  have nb4b12 : ¬ b4 = b12 := by omega
  have nb12b4 : ¬ b12 = b4 := by omega
  have nb5b12 : ¬ b5 = b12 := by omega
  have nb12b5 : ¬ b12 = b5 := by omega
  have nb9b12 : ¬ b9 = b12 := by omega
  have nb12b9 : ¬ b12 = b9 := by omega
  have nb11b12 : ¬ b11 = b12 := by omega
  have nb12b11 : ¬ b12 = b11 := by omega
  clear hV hz hgn hbx lb4 lb5 lb9 lb11
  have Gb4 := Lib.hid (Hb4.out.below HZ.out Hb4.out.lt)
  have Gb5 := Lib.hid (Hb5.out.below HZ.out Hb5.out.lt)
  have Gb9 := Lib.hid (Hb9.out.below HZ.out Hb9.out.lt)
  have Gb11 := Lib.hid (Hb11.out.below HZ.out Hb11.out.lt)
  have GHB := Lib.hid (HB.out.trans (HZ.out.mono HB.out.size))
  clear Hb4 Hb5 Hb9 Hb11 HB HZ
  have Hb4 := Gb4
  have Hb5 := Gb5
  have Hb9 := Gb9
  have Hb11 := Gb11
  have HB := GHB
  clear Gb4 Gb5 Gb9 Gb11 GHB
  have Hb12 := Lib.hid hnew
  clear hnew
  have HSV : Hid (∀ U, Far (fun i => i = b11) Va205 U → U.cell? ⟨b5, 0, none⟩ = some (.int .i64 (x1)) ∧ U.cell? ⟨b5, 1, none⟩ = some (.int .i64 (x2)) ∧ U.cell? ⟨b5, 2, none⟩ = some (.int .i64 (y1)) ∧ U.cell? ⟨b5, 3, none⟩ = some (.int .i64 (y2)) ∧ U.cell? ⟨b5, 4, none⟩ = some (.int .i64 (r)) ∧ U.cell? ⟨b5, 5, none⟩ = some (.int .i64 (m1)) ∧ U.cell? ⟨b5, 6, none⟩ = some (.int .i64 (m2)) ∧ U.cell? ⟨b5, 7, none⟩ = some (.int .i64 (p1)) ∧ U.cell? ⟨b5, 8, none⟩ = some (.int .i64 (p2))) := fun U hU => by
   have kb5 := Hb5.out.far hU nb5b11
   exact ⟨kb5.cell 0, kb5.cell 1, kb5.cell 2, kb5.cell 3, kb5.cell 4, kb5.cell 5, kb5.cell 6, kb5.cell 7, kb5.cell 8⟩
  have k0 := HSV.out _ (Far.drew (Far.refl _ Va205))
  refine wp_region_noPanic ?_
  refine wp_region_L (S := (fun w' => w'.cell? ⟨b5, 0, none⟩ = some (.int .i64 (x1)) ∧ w'.cell? ⟨b5, 1, none⟩ = some (.int .i64 (x2)) ∧ w'.cell? ⟨b5, 2, none⟩ = some (.int .i64 (y1)) ∧ w'.cell? ⟨b5, 3, none⟩ = some (.int .i64 (y2)) ∧ w'.cell? ⟨b5, 4, none⟩ = some (.int .i64 (r)) ∧ w'.cell? ⟨b5, 5, none⟩ = some (.int .i64 (m1)) ∧ w'.cell? ⟨b5, 6, none⟩ = some (.int .i64 (m2)) ∧ w'.cell? ⟨b5, 7, none⟩ = some (.int .i64 (p1)) ∧ w'.cell? ⟨b5, 8, none⟩ = some (.int .i64 (p2)))) (ks := [17, 19, 21, 23]) (by kernel_rfl) ?_ (fun hHeld => ?_)
  · (try dsimp only); (exact k0)
  refine wpAnyL_take (i := 0) (oi := op12_8_0) (v := ?_) rfl (by kernel_rfl) (fun _ _ _ h => h) (Or.inl ⟨by rfl, ?_⟩) (by assumption) ?_
  rotate_left
  · ((intro w hSw; delta op12_8_0; (try dsimp only at hSw); go_simp) <;> with_reducible rfl)
  try simp only [op12_8_0, Act.put, List.setIfInBounds_toArray, List.set_cons_zero, List.set_cons_succ]
  refine wpAnyL_take (i := 1) (oi := op12_8_1) (v := ?_) rfl (by kernel_rfl) (fun _ _ _ h => h) (Or.inl ⟨by rfl, ?_⟩) (by assumption) ?_
  rotate_left
  · ((intro w hSw; delta op12_8_1; (try dsimp only at hSw); go_simp) <;> with_reducible rfl)
  try simp only [op12_8_1, Act.put, List.setIfInBounds_toArray, List.set_cons_zero, List.set_cons_succ]
  refine wpAnyL_take (i := 4) (oi := op12_8_4) (v := ?_) rfl (by kernel_rfl) (fun _ _ _ h => h) (Or.inl ⟨by rfl, ?_⟩) (by assumption) ?_
  rotate_left
  · ((intro w hSw; delta op12_8_4; (try dsimp only at hSw); go_simp) <;> with_reducible rfl)
  try simp only [op12_8_4, Act.put, List.setIfInBounds_toArray, List.set_cons_zero, List.set_cons_succ]
  refine wpAnyL_take (i := 5) (oi := op12_8_5) (v := ?_) rfl (by kernel_rfl) (fun _ _ _ h => h) (Or.inl ⟨by rfl, ?_⟩) (by assumption) ?_
  rotate_left
  · ((intro w hSw; delta op12_8_5; (try dsimp only at hSw); go_simp) <;> with_reducible rfl)
  try simp only [op12_8_5, Act.put, List.setIfInBounds_toArray, List.set_cons_zero, List.set_cons_succ]
  refine wpAnyL_take (i := 8) (oi := op12_8_8) (v := ?_) rfl (by kernel_rfl) (fun _ _ _ h => h) (Or.inl ⟨by rfl, ?_⟩) (by assumption) ?_
  rotate_left
  · ((intro w hSw; delta op12_8_8; (try dsimp only at hSw); go_simp) <;> with_reducible rfl)
  try simp only [op12_8_8, Act.put, List.setIfInBounds_toArray, List.set_cons_zero, List.set_cons_succ]
  refine wpAnyL_take (i := 9) (oi := op12_8_9) (v := ?_) rfl (by kernel_rfl) (fun _ _ _ h => h) (Or.inl ⟨by rfl, ?_⟩) (by assumption) ?_
  rotate_left
  · ((intro w hSw; delta op12_8_9; (try dsimp only at hSw); go_simp) <;> with_reducible rfl)
  try simp only [op12_8_9, Act.put, List.setIfInBounds_toArray, List.set_cons_zero, List.set_cons_succ]
  refine wpAnyL_take (i := 12) (oi := op12_8_12) (v := ?_) rfl (by kernel_rfl) (fun _ _ _ h => h) (Or.inl ⟨by rfl, ?_⟩) (by assumption) ?_
  rotate_left
  · ((intro w hSw; delta op12_8_12; (try dsimp only at hSw); go_simp) <;> with_reducible rfl)
  try simp only [op12_8_12, Act.put, List.setIfInBounds_toArray, List.set_cons_zero, List.set_cons_succ]
  refine wpAnyL_take (i := 13) (oi := op12_8_13) (v := ?_) rfl (by kernel_rfl) (fun _ _ _ h => h) (Or.inl ⟨by rfl, ?_⟩) (by assumption) ?_
  rotate_left
  · ((intro w hSw; delta op12_8_13; (try dsimp only at hSw); go_simp) <;> with_reducible rfl)
  try simp only [op12_8_13, Act.put, List.setIfInBounds_toArray, List.set_cons_zero, List.set_cons_succ]
  refine wpAnyL_take (i := 2) (oi := op12_8_2) (v := ?_) rfl (by kernel_rfl) (fun _ _ _ h => h) (Or.inl ⟨by rfl, ?_⟩) (by assumption) ?_
  rotate_left
  · ((intro w hSw; delta op12_8_2; (try dsimp only at hSw); go_simp) <;> with_reducible rfl)
  try simp only [op12_8_2, Act.put, List.setIfInBounds_toArray, List.set_cons_zero, List.set_cons_succ]
  refine wpAnyL_take (i := 6) (oi := op12_8_6) (v := ?_) rfl (by kernel_rfl) (fun _ _ _ h => h) (Or.inl ⟨by rfl, ?_⟩) (by assumption) ?_
  rotate_left
  · ((intro w hSw; delta op12_8_6; (try dsimp only at hSw); go_simp) <;> with_reducible rfl)
  try simp only [op12_8_6, Act.put, List.setIfInBounds_toArray, List.set_cons_zero, List.set_cons_succ]
  refine wpAnyL_take (i := 10) (oi := op12_8_10) (v := ?_) rfl (by kernel_rfl) (fun _ _ _ h => h) (Or.inl ⟨by rfl, ?_⟩) (by assumption) ?_
  rotate_left
  · ((intro w hSw; delta op12_8_10; (try dsimp only at hSw); go_simp) <;> with_reducible rfl)
  try simp only [op12_8_10, Act.put, List.setIfInBounds_toArray, List.set_cons_zero, List.set_cons_succ]
  refine wpAnyL_take (i := 14) (oi := op12_8_14) (v := ?_) rfl (by kernel_rfl) (fun _ _ _ h => h) (Or.inl ⟨by rfl, ?_⟩) (by assumption) ?_
  rotate_left
  · ((intro w hSw; delta op12_8_14; (try dsimp only at hSw); go_simp) <;> with_reducible rfl)
  try simp only [op12_8_14, Act.put, List.setIfInBounds_toArray, List.set_cons_zero, List.set_cons_succ]
  obtain ⟨W0, hW0⟩ : ∃ V, Va205.drew = V := ⟨_, rfl⟩; rw [hW0] at hHeld ⊢; have HB0 : Hid (Far (fun i => i = b11) Va205 W0) := (by rw [← hW0]; exact Far.drew (Far.refl _ _)); have HK0 : Hid (Blk W0 b11 82 #[.slice CA l.length cc, .int .i64 (0)]) := (by rw [← hW0]; exact Hb11.out); clear hW0
  refine wpAnyL_ready (rs := [3]) (by kernel_rfl) (by simp) ?_
  refine AllReadyL.cons (o := op12_8_3) rfl (fun K hK => ?_) AllReadyL.nil
  delta op12_8_3
  go_simp
  (refine (cuts_any b11 CA cc l 0 x1 x2 _ HK0 (HC.out.later (HB.out.trans (HB0.out.below HB.out.size (fun i hi e => by omega))) (Nat.le_refl _)) HCU.out (fun h => HNE.out b11 h gb11) ⟨Int.le_refl _, by omega⟩ (by omega) (by omega)).mono ?_; rintro e W1 ⟨t11, t12, n1, rfl, hl1, h1a, h1b, hbk, hb⟩; have HL1 := Lib.hid hl1; have HK1 := Lib.hid hbk; clear hl1 hbk HK0; have HB1 := Lib.hid (HB0.out.trans hb (fun _ _ h => h)); clear hb)
  refine hK.out _ _ ?_ (fun hHeld => ?_)
  · (try dsimp only); (exact HSV.out _ HB1.out)
  clear hK K
  try simp only [op12_8_3, Act.put, List.setIfInBounds_toArray, List.set_cons_zero, List.set_cons_succ]
  refine wpAnyL_take (i := 16) (oi := op12_8_16) (v := ?_) rfl (by kernel_rfl) (fun _ _ _ h => h) (Or.inl ⟨by rfl, ?_⟩) (by assumption) ?_
  rotate_left
  · ((intro w hSw; delta op12_8_16; (try dsimp only at hSw); go_simp) <;> with_reducible rfl)
  try simp only [op12_8_16, Act.put, List.setIfInBounds_toArray, List.set_cons_zero, List.set_cons_succ]
  refine wpAnyL_ready (rs := [7]) (by kernel_rfl) (by simp) ?_
  refine AllReadyL.cons (o := op12_8_7) rfl (fun K hK => ?_) AllReadyL.nil
  delta op12_8_7
  go_simp
  (refine (cuts_any b11 CA cc l n1 y1 y2 _ HK1 (HC.out.later (HB.out.trans (HB1.out.below HB.out.size (fun i hi e => by omega))) (Nat.le_refl _)) HCU.out (fun h => HNE.out b11 h gb11) ⟨h1a, by omega⟩ (by omega) (by omega)).mono ?_; rintro e W2 ⟨t21, t22, n2, rfl, hl2, h2a, h2b, hbk, hb⟩; have HL2 := Lib.hid hl2; have HK2 := Lib.hid hbk; clear hl2 hbk HK1; have HB2 := Lib.hid (HB1.out.trans hb (fun _ _ h => h)); clear hb)
  refine hK.out _ _ ?_ (fun hHeld => ?_)
  · (try dsimp only); (exact HSV.out _ HB2.out)
  clear hK K
  try simp only [op12_8_7, Act.put, List.setIfInBounds_toArray, List.set_cons_zero, List.set_cons_succ]
  refine wpAnyL_ready (rs := [11]) (by kernel_rfl) (by simp) ?_
  refine AllReadyL.cons (o := op12_8_11) rfl (fun K hK => ?_) AllReadyL.nil
  delta op12_8_11
  go_simp
  (refine (cuts_any b11 CA cc l n2 m1 m2 _ HK2 (HC.out.later (HB.out.trans (HB2.out.below HB.out.size (fun i hi e => by omega))) (Nat.le_refl _)) HCU.out (fun h => HNE.out b11 h gb11) ⟨h2a, by omega⟩ (by omega) (by omega)).mono ?_; rintro e W3 ⟨t31, t32, n3, rfl, hl3, h3a, h3b, hbk, hb⟩; have HL3 := Lib.hid hl3; have HK3 := Lib.hid hbk; clear hl3 hbk HK2; have HB3 := Lib.hid (HB2.out.trans hb (fun _ _ h => h)); clear hb)
  refine hK.out _ _ ?_ (fun hHeld => ?_)
  · (try dsimp only); (exact HSV.out _ HB3.out)
  clear hK K
  try simp only [op12_8_11, Act.put, List.setIfInBounds_toArray, List.set_cons_zero, List.set_cons_succ]
  refine wpAnyL_ready (rs := [15]) (by kernel_rfl) (by simp) ?_
  refine AllReadyL.cons (o := op12_8_15) rfl (fun K hK => ?_) AllReadyL.nil
  delta op12_8_15
  go_simp
  (refine (cuts_any b11 CA cc l n3 p1 p2 _ HK3 (HC.out.later (HB.out.trans (HB3.out.below HB.out.size (fun i hi e => by omega))) (Nat.le_refl _)) HCU.out (fun h => HNE.out b11 h gb11) ⟨h3a, by omega⟩ (by omega) (by omega)).mono ?_; rintro e W4 ⟨t41, t42, n4, rfl, hl4, h4a, h4b, hbk, hb⟩; have HL4 := Lib.hid hl4; have HK4 := Lib.hid hbk; clear hl4 hbk HK3; have HB4 := Lib.hid (HB3.out.trans hb (fun _ _ h => h)); clear hb)
  refine hK.out _ _ ?_ (fun hHeld => ?_)
  · (try dsimp only); (exact HSV.out _ HB4.out)
  clear hK K
  try simp only [op12_8_15, Act.put, List.setIfInBounds_toArray, List.set_cons_zero, List.set_cons_succ]
  have Gb4 := Lib.hid (Hb4.out.far HB4.out nb4b11); have Gb5 := Lib.hid (Hb5.out.far HB4.out nb5b11); have Gb9 := Lib.hid (Hb9.out.far HB4.out nb9b11); have Gb12 := Lib.hid (Hb12.out.far HB4.out nb12b11); have GHB := Lib.hid (HB.out.trans (HB4.out.below HB.out.size (fun i hi e => by omega))); clear Hb4 Hb5 Hb9 Hb12 HB; have Hb4 := Gb4; clear Gb4; have Hb5 := Gb5; clear Gb5; have Hb9 := Gb9; clear Gb9; have Hb12 := Gb12; clear Gb12; have HB := GHB; clear GHB; have cR0 := Hb12.out.cell 0; have zR0 := Hb12.out.frozen 0; have cR1 := Hb12.out.cell 1; have zR1 := Hb12.out.frozen 1; simp only [List.getElem?_toArray, List.getElem?_cons_zero, List.getElem?_cons_succ] at cR0 cR1
  refine wpAnyL_ready (rs := [17]) (by kernel_rfl) (by simp) ?_
  refine AllReadyL.gate (o := op12_8_17) rfl (by kernel_rfl) (fun K hK => ?_) AllReadyL.nil
  delta op12_8_17
  go_simp
  refine hK.out _ _ ?_
  clear hK K
  try simp only [op12_8_17, Act.put, List.setIfInBounds_toArray, List.set_cons_zero, List.set_cons_succ]
  obtain ⟨Va206, hV⟩ : ∃ V, (W4.setCell ⟨b12, 0, none⟩ (.int .i64 (t11))).setCell ⟨b12, 1, none⟩ (.int .i64 (t12)) = V := ⟨_, rfl⟩; have Gb4 : Hid (Blk Va206 b4 24 #[.int .i64 (WW), .int .i64 (HH), .int .i64 (SS), .slice A ss.length c]) := (by rw [← hV]; exact ((Hb4.out.far_ (p := ⟨b12, 0, none⟩) (by exact nb4b12) _).far_ (p := ⟨b12, 1, none⟩) (by exact nb4b12) _)); have Gb5 : Hid (Blk Va206 b5 70 #[.int .i64 (x1), .int .i64 (x2), .int .i64 (y1), .int .i64 (y2), .int .i64 (r), .int .i64 (m1), .int .i64 (m2), .int .i64 (p1), .int .i64 (p2)]) := (by rw [← hV]; exact ((Hb5.out.far_ (p := ⟨b12, 0, none⟩) (by exact nb5b12) _).far_ (p := ⟨b12, 1, none⟩) (by exact nb5b12) _)); have Gb9 : Hid (Blk Va206 b9 32 #[.int .i64 (as1), .int .i64 (as2), .int .i64 (an), .int .i64 (ap1), .int .i64 (ap2)]) := (by rw [← hV]; exact ((Hb9.out.far_ (p := ⟨b12, 0, none⟩) (by exact nb9b12) _).far_ (p := ⟨b12, 1, none⟩) (by exact nb9b12) _)); have Gb12 : Hid (Blk Va206 b12 70 #[.int .i64 (t11), .int .i64 (t12), .int .i64 (y1), .int .i64 (y2), .int .i64 (r), .int .i64 (m1), .int .i64 (m2), .int .i64 (p1), .int .i64 (p2)]) := (by rw [← hV]; exact ((Hb12.out.set_ 0 (.int .i64 (t11))).set_ 1 (.int .i64 (t12)))); have GHB : Hid (Below w.heap.size w Va206) := (by rw [← hV]; exact ((HB.out.setCell (p := ⟨b12, 0, none⟩) (by exact gb12) _).setCell (p := ⟨b12, 1, none⟩) (by exact gb12) _)); rw [hV]; clear hV cR0 zR0 cR1 zR1 Hb4 Hb5 Hb9 Hb12 HB; have Hb4 := Gb4; clear Gb4; have Hb5 := Gb5; clear Gb5; have Hb9 := Gb9; clear Gb9; have Hb12 := Gb12; clear Gb12; have HB := GHB; clear GHB
  refine wpAnyL_ready (rs := [18]) (by kernel_rfl) (by simp) ?_
  refine AllReadyL.gate (o := op12_8_18) rfl (by kernel_rfl) (fun K hK => ?_) AllReadyL.nil
  delta op12_8_18
  go_simp
  refine hK.out _ _ ?_
  clear hK K
  try simp only [op12_8_18, Act.put, List.setIfInBounds_toArray, List.set_cons_zero, List.set_cons_succ]
  have cR0 := Hb12.out.cell 2; have zR0 := Hb12.out.frozen 2; have cR1 := Hb12.out.cell 3; have zR1 := Hb12.out.frozen 3; simp only [List.getElem?_toArray, List.getElem?_cons_zero, List.getElem?_cons_succ] at cR0 cR1
  refine wpAnyL_ready (rs := [19]) (by kernel_rfl) (by simp) ?_
  refine AllReadyL.gate (o := op12_8_19) rfl (by kernel_rfl) (fun K hK => ?_) AllReadyL.nil
  delta op12_8_19
  go_simp
  refine hK.out _ _ ?_
  clear hK K
  try simp only [op12_8_19, Act.put, List.setIfInBounds_toArray, List.set_cons_zero, List.set_cons_succ]
  obtain ⟨Va207, hV⟩ : ∃ V, (Va206.setCell ⟨b12, 2, none⟩ (.int .i64 (t21))).setCell ⟨b12, 3, none⟩ (.int .i64 (t22)) = V := ⟨_, rfl⟩; have Gb4 : Hid (Blk Va207 b4 24 #[.int .i64 (WW), .int .i64 (HH), .int .i64 (SS), .slice A ss.length c]) := (by rw [← hV]; exact ((Hb4.out.far_ (p := ⟨b12, 2, none⟩) (by exact nb4b12) _).far_ (p := ⟨b12, 3, none⟩) (by exact nb4b12) _)); have Gb5 : Hid (Blk Va207 b5 70 #[.int .i64 (x1), .int .i64 (x2), .int .i64 (y1), .int .i64 (y2), .int .i64 (r), .int .i64 (m1), .int .i64 (m2), .int .i64 (p1), .int .i64 (p2)]) := (by rw [← hV]; exact ((Hb5.out.far_ (p := ⟨b12, 2, none⟩) (by exact nb5b12) _).far_ (p := ⟨b12, 3, none⟩) (by exact nb5b12) _)); have Gb9 : Hid (Blk Va207 b9 32 #[.int .i64 (as1), .int .i64 (as2), .int .i64 (an), .int .i64 (ap1), .int .i64 (ap2)]) := (by rw [← hV]; exact ((Hb9.out.far_ (p := ⟨b12, 2, none⟩) (by exact nb9b12) _).far_ (p := ⟨b12, 3, none⟩) (by exact nb9b12) _)); have Gb12 : Hid (Blk Va207 b12 70 #[.int .i64 (t11), .int .i64 (t12), .int .i64 (t21), .int .i64 (t22), .int .i64 (r), .int .i64 (m1), .int .i64 (m2), .int .i64 (p1), .int .i64 (p2)]) := (by rw [← hV]; exact ((Hb12.out.set_ 2 (.int .i64 (t21))).set_ 3 (.int .i64 (t22)))); have GHB : Hid (Below w.heap.size w Va207) := (by rw [← hV]; exact ((HB.out.setCell (p := ⟨b12, 2, none⟩) (by exact gb12) _).setCell (p := ⟨b12, 3, none⟩) (by exact gb12) _)); rw [hV]; clear hV cR0 zR0 cR1 zR1 Hb4 Hb5 Hb9 Hb12 HB; have Hb4 := Gb4; clear Gb4; have Hb5 := Gb5; clear Gb5; have Hb9 := Gb9; clear Gb9; have Hb12 := Gb12; clear Gb12; have HB := GHB; clear GHB
  refine wpAnyL_ready (rs := [20]) (by kernel_rfl) (by simp) ?_
  refine AllReadyL.gate (o := op12_8_20) rfl (by kernel_rfl) (fun K hK => ?_) AllReadyL.nil
  delta op12_8_20
  go_simp
  refine hK.out _ _ ?_
  clear hK K
  try simp only [op12_8_20, Act.put, List.setIfInBounds_toArray, List.set_cons_zero, List.set_cons_succ]
  have cR0 := Hb12.out.cell 5; have zR0 := Hb12.out.frozen 5; have cR1 := Hb12.out.cell 6; have zR1 := Hb12.out.frozen 6; simp only [List.getElem?_toArray, List.getElem?_cons_zero, List.getElem?_cons_succ] at cR0 cR1
  refine wpAnyL_ready (rs := [21]) (by kernel_rfl) (by simp) ?_
  refine AllReadyL.gate (o := op12_8_21) rfl (by kernel_rfl) (fun K hK => ?_) AllReadyL.nil
  delta op12_8_21
  go_simp
  refine hK.out _ _ ?_
  clear hK K
  try simp only [op12_8_21, Act.put, List.setIfInBounds_toArray, List.set_cons_zero, List.set_cons_succ]
  obtain ⟨Va208, hV⟩ : ∃ V, (Va207.setCell ⟨b12, 5, none⟩ (.int .i64 (t31))).setCell ⟨b12, 6, none⟩ (.int .i64 (t32)) = V := ⟨_, rfl⟩; have Gb4 : Hid (Blk Va208 b4 24 #[.int .i64 (WW), .int .i64 (HH), .int .i64 (SS), .slice A ss.length c]) := (by rw [← hV]; exact ((Hb4.out.far_ (p := ⟨b12, 5, none⟩) (by exact nb4b12) _).far_ (p := ⟨b12, 6, none⟩) (by exact nb4b12) _)); have Gb5 : Hid (Blk Va208 b5 70 #[.int .i64 (x1), .int .i64 (x2), .int .i64 (y1), .int .i64 (y2), .int .i64 (r), .int .i64 (m1), .int .i64 (m2), .int .i64 (p1), .int .i64 (p2)]) := (by rw [← hV]; exact ((Hb5.out.far_ (p := ⟨b12, 5, none⟩) (by exact nb5b12) _).far_ (p := ⟨b12, 6, none⟩) (by exact nb5b12) _)); have Gb9 : Hid (Blk Va208 b9 32 #[.int .i64 (as1), .int .i64 (as2), .int .i64 (an), .int .i64 (ap1), .int .i64 (ap2)]) := (by rw [← hV]; exact ((Hb9.out.far_ (p := ⟨b12, 5, none⟩) (by exact nb9b12) _).far_ (p := ⟨b12, 6, none⟩) (by exact nb9b12) _)); have Gb12 : Hid (Blk Va208 b12 70 #[.int .i64 (t11), .int .i64 (t12), .int .i64 (t21), .int .i64 (t22), .int .i64 (r), .int .i64 (t31), .int .i64 (t32), .int .i64 (p1), .int .i64 (p2)]) := (by rw [← hV]; exact ((Hb12.out.set_ 5 (.int .i64 (t31))).set_ 6 (.int .i64 (t32)))); have GHB : Hid (Below w.heap.size w Va208) := (by rw [← hV]; exact ((HB.out.setCell (p := ⟨b12, 5, none⟩) (by exact gb12) _).setCell (p := ⟨b12, 6, none⟩) (by exact gb12) _)); rw [hV]; clear hV cR0 zR0 cR1 zR1 Hb4 Hb5 Hb9 Hb12 HB; have Hb4 := Gb4; clear Gb4; have Hb5 := Gb5; clear Gb5; have Hb9 := Gb9; clear Gb9; have Hb12 := Gb12; clear Gb12; have HB := GHB; clear GHB
  refine wpAnyL_ready (rs := [22]) (by kernel_rfl) (by simp) ?_
  refine AllReadyL.gate (o := op12_8_22) rfl (by kernel_rfl) (fun K hK => ?_) AllReadyL.nil
  delta op12_8_22
  go_simp
  refine hK.out _ _ ?_
  clear hK K
  try simp only [op12_8_22, Act.put, List.setIfInBounds_toArray, List.set_cons_zero, List.set_cons_succ]
  have cR0 := Hb12.out.cell 7; have zR0 := Hb12.out.frozen 7; have cR1 := Hb12.out.cell 8; have zR1 := Hb12.out.frozen 8; simp only [List.getElem?_toArray, List.getElem?_cons_zero, List.getElem?_cons_succ] at cR0 cR1
  refine wpAnyL_ready (rs := [23]) (by kernel_rfl) (by simp) ?_
  refine AllReadyL.gate (o := op12_8_23) rfl (by kernel_rfl) (fun K hK => ?_) AllReadyL.nil
  delta op12_8_23
  go_simp
  refine hK.out _ _ ?_
  clear hK K
  try simp only [op12_8_23, Act.put, List.setIfInBounds_toArray, List.set_cons_zero, List.set_cons_succ]
  obtain ⟨Va209, hV⟩ : ∃ V, (Va208.setCell ⟨b12, 7, none⟩ (.int .i64 (t41))).setCell ⟨b12, 8, none⟩ (.int .i64 (t42)) = V := ⟨_, rfl⟩; have Gb4 : Hid (Blk Va209 b4 24 #[.int .i64 (WW), .int .i64 (HH), .int .i64 (SS), .slice A ss.length c]) := (by rw [← hV]; exact ((Hb4.out.far_ (p := ⟨b12, 7, none⟩) (by exact nb4b12) _).far_ (p := ⟨b12, 8, none⟩) (by exact nb4b12) _)); have Gb5 : Hid (Blk Va209 b5 70 #[.int .i64 (x1), .int .i64 (x2), .int .i64 (y1), .int .i64 (y2), .int .i64 (r), .int .i64 (m1), .int .i64 (m2), .int .i64 (p1), .int .i64 (p2)]) := (by rw [← hV]; exact ((Hb5.out.far_ (p := ⟨b12, 7, none⟩) (by exact nb5b12) _).far_ (p := ⟨b12, 8, none⟩) (by exact nb5b12) _)); have Gb9 : Hid (Blk Va209 b9 32 #[.int .i64 (as1), .int .i64 (as2), .int .i64 (an), .int .i64 (ap1), .int .i64 (ap2)]) := (by rw [← hV]; exact ((Hb9.out.far_ (p := ⟨b12, 7, none⟩) (by exact nb9b12) _).far_ (p := ⟨b12, 8, none⟩) (by exact nb9b12) _)); have Gb12 : Hid (Blk Va209 b12 70 #[.int .i64 (t11), .int .i64 (t12), .int .i64 (t21), .int .i64 (t22), .int .i64 (r), .int .i64 (t31), .int .i64 (t32), .int .i64 (t41), .int .i64 (t42)]) := (by rw [← hV]; exact ((Hb12.out.set_ 7 (.int .i64 (t41))).set_ 8 (.int .i64 (t42)))); have GHB : Hid (Below w.heap.size w Va209) := (by rw [← hV]; exact ((HB.out.setCell (p := ⟨b12, 7, none⟩) (by exact gb12) _).setCell (p := ⟨b12, 8, none⟩) (by exact gb12) _)); rw [hV]; clear hV cR0 zR0 cR1 zR1 Hb4 Hb5 Hb9 Hb12 HB; have Hb4 := Gb4; clear Gb4; have Hb5 := Gb5; clear Gb5; have Hb9 := Gb9; clear Gb9; have Hb12 := Gb12; clear Gb12; have HB := GHB; clear GHB
  refine wpAnyL_done (by kernel_rfl) ?_ _
  refine NoPanic.normal ?_
  clear HSV k0
  clear hHeld HB0 HB1 HB2 HB3 HB4
  obtain ⟨q1, q2, q3, q4, q5, na, nb, q6, q7, q8, q9, q10⟩ := blow_eye (g := ⟨WW, HH, SS, ss⟩) (s := ⟨(x1, x2), (y1, y2), r, (m1, m2), (p1, p2)⟩) (t := ⟨(t11, t12), (t21, t22), r, (t31, t32), (t41, t42)⟩) HE.out rfl HL1.out HL2.out HL3.out HL4.out
  clear HL1 HL2 HL3 HL4 HK4
  rw [HA.out] at q2 q4 q5 q8
  obtain ⟨⟨⟨bs1, bs2⟩, bn, ⟨bp1, bp2⟩⟩, hbv⟩ : ∃ z : Wi, blowV ⟨WW, HH, SS, ss⟩ ⟨(t11, t12), (t21, t22), r, (t31, t32), (t41, t42)⟩ cell = z := ⟨_, rfl⟩
  rw [hbv] at q3 q4 q5 q9
  simp only at q4 q5 q8 q9
  subst q8 q9
  have hand : bits .and .i64 (nb : Int) (na : Int) = (nb : Int) := by rw [bits_and_i64 _ _ (by omega) (by omega), q10]
  have Q1 := Lib.hid q1
  have Q2 := Lib.hid q2
  have Q3 := Lib.hid q3
  have Q4 := Lib.hid q4
  have Q5 := Lib.hid q5
  have HBV := Lib.hid hbv
  clear q1 q2 q3 q4 q5 q6 q7 q10 hbv
  have cb40 : Va209.cell? ⟨b4, 0, none⟩ = some (.int .i64 (WW)) := Hb4.out.cell 0
  have cb41 : Va209.cell? ⟨b4, 1, none⟩ = some (.int .i64 (HH)) := Hb4.out.cell 1
  have cb42 : Va209.cell? ⟨b4, 2, none⟩ = some (.int .i64 (SS)) := Hb4.out.cell 2
  have cb43 : Va209.cell? ⟨b4, 3, none⟩ = some (.slice A ss.length c) := Hb4.out.cell 3
  have cb120 : Va209.cell? ⟨b12, 0, none⟩ = some (.int .i64 (t11)) := Hb12.out.cell 0
  have cb121 : Va209.cell? ⟨b12, 1, none⟩ = some (.int .i64 (t12)) := Hb12.out.cell 1
  have cb122 : Va209.cell? ⟨b12, 2, none⟩ = some (.int .i64 (t21)) := Hb12.out.cell 2
  have cb123 : Va209.cell? ⟨b12, 3, none⟩ = some (.int .i64 (t22)) := Hb12.out.cell 3
  have cb124 : Va209.cell? ⟨b12, 4, none⟩ = some (.int .i64 (r)) := Hb12.out.cell 4
  have cb125 : Va209.cell? ⟨b12, 5, none⟩ = some (.int .i64 (t31)) := Hb12.out.cell 5
  have cb126 : Va209.cell? ⟨b12, 6, none⟩ = some (.int .i64 (t32)) := Hb12.out.cell 6
  have cb127 : Va209.cell? ⟨b12, 7, none⟩ = some (.int .i64 (t41)) := Hb12.out.cell 7
  have cb128 : Va209.cell? ⟨b12, 8, none⟩ = some (.int .i64 (t42)) := Hb12.out.cell 8
  go_wp2_with fail
  refine (Blow_any WW HH SS ss A c t11 t12 t21 t22 r t31 t32 t41 t42 cell _ (HS.out.later HB.out (Nat.le_refl _))).mono ?_
  rintro e Va210 ⟨rfl, hb⟩
  have HZ := Lib.hid hb
  clear hb
  rw [HBV.out, Q1.out]
  simp only [wiV]
  clear cb40 cb41 cb42 cb43 cb120 cb121 cb122 cb123 cb124 cb125 cb126 cb127 cb128
  have Gb4 := Lib.hid (Hb4.out.below HZ.out Hb4.out.lt)
  have Gb5 := Lib.hid (Hb5.out.below HZ.out Hb5.out.lt)
  have Gb9 := Lib.hid (Hb9.out.below HZ.out Hb9.out.lt)
  have Gb12 := Lib.hid (Hb12.out.below HZ.out Hb12.out.lt)
  have GHB := Lib.hid (HB.out.trans (HZ.out.mono HB.out.size))
  clear Hb4 Hb5 Hb9 Hb12 HB HZ
  have Hb4 := Gb4
  have Hb5 := Gb5
  have Hb9 := Gb9
  have Hb12 := Gb12
  have HB := GHB
  clear Gb4 Gb5 Gb9 Gb12 GHB
  go_upto_region 10 with (fail)
  obtain ⟨Va211, hV⟩ : ∃ X, Va210.alloc (.cells #[.int .i64 (bs1), .int .i64 (bs2), .int .i64 (nb), .int .i64 (bp1), .int .i64 (bp2)] 32) = X := ⟨_, rfl⟩
  have hnew : Blk Va211 Va210.heap.size 32 #[.int .i64 (bs1), .int .i64 (bs2), .int .i64 (nb), .int .i64 (bp1), .int .i64 (bp2)] := by rw [← hV]; exact (Blk.new' _ _ _ rfl)
  have hz : Below Va210.heap.size Va210 Va211 := by rw [← hV]; exact ((Below.refl _ _).alloc (Nat.le_refl _) _)
  have hgn := HB.out.size
  have lb4 := Hb4.out.lt
  have lb5 := Hb5.out.lt
  have lb9 := Hb9.out.lt
  have lb12 := Hb12.out.lt
  rw [hV]
  obtain ⟨b13, hbx⟩ : ∃ b, Va210.heap.size = b := ⟨_, rfl⟩
  rw [hbx] at hnew hgn lb4 lb5 lb9 lb12 ⊢
  have gb13 : w.heap.size ≤ b13 := hgn
  have HZ := Lib.hid hz
  have nb4b13 : ¬ b4 = b13 := by omega
  have nb13b4 : ¬ b13 = b4 := by omega
  have nb5b13 : ¬ b5 = b13 := by omega
  have nb13b5 : ¬ b13 = b5 := by omega
  have nb9b13 : ¬ b9 = b13 := by omega
  have nb13b9 : ¬ b13 = b9 := by omega
  have nb12b13 : ¬ b12 = b13 := by omega
  have nb13b12 : ¬ b13 = b12 := by omega
  clear hV hz hgn hbx lb4 lb5 lb9 lb12
  have Gb4 := Lib.hid (Hb4.out.below HZ.out Hb4.out.lt)
  have Gb5 := Lib.hid (Hb5.out.below HZ.out Hb5.out.lt)
  have Gb9 := Lib.hid (Hb9.out.below HZ.out Hb9.out.lt)
  have Gb12 := Lib.hid (Hb12.out.below HZ.out Hb12.out.lt)
  have GHB := Lib.hid (HB.out.trans (HZ.out.mono HB.out.size))
  clear Hb4 Hb5 Hb9 Hb12 HB HZ
  have Hb4 := Gb4
  have Hb5 := Gb5
  have Hb9 := Gb9
  have Hb12 := Gb12
  have HB := GHB
  clear Gb4 Gb5 Gb9 Gb12 GHB
  have Hb13 := Lib.hid hnew
  clear hnew
  have cb90 : Va211.cell? ⟨b9, 0, none⟩ = some (.int .i64 (as1)) := Hb9.out.cell 0
  have cb91 : Va211.cell? ⟨b9, 1, none⟩ = some (.int .i64 (as2)) := Hb9.out.cell 1
  have cb92 : Va211.cell? ⟨b9, 2, none⟩ = some (.int .i64 (na)) := Hb9.out.cell 2
  have cb93 : Va211.cell? ⟨b9, 3, none⟩ = some (.int .i64 (ap1)) := Hb9.out.cell 3
  have cb94 : Va211.cell? ⟨b9, 4, none⟩ = some (.int .i64 (ap2)) := Hb9.out.cell 4
  go_wp2_with fail
  refine (CheckWind_any as1 as2 na ap1 ap2 _).mono ?_
  rintro e Va212 ⟨rfl, hb⟩
  have HZ := Lib.hid hb
  clear hb
  rw [Q2.out]
  clear cb90 cb91 cb92 cb93 cb94
  have Gb4 := Lib.hid (Hb4.out.below HZ.out Hb4.out.lt)
  have Gb5 := Lib.hid (Hb5.out.below HZ.out Hb5.out.lt)
  have Gb9 := Lib.hid (Hb9.out.below HZ.out Hb9.out.lt)
  have Gb12 := Lib.hid (Hb12.out.below HZ.out Hb12.out.lt)
  have Gb13 := Lib.hid (Hb13.out.below HZ.out Hb13.out.lt)
  have GHB := Lib.hid (HB.out.trans (HZ.out.mono HB.out.size))
  clear Hb4 Hb5 Hb9 Hb12 Hb13 HB HZ
  have Hb4 := Gb4
  have Hb5 := Gb5
  have Hb9 := Gb9
  have Hb12 := Gb12
  have Hb13 := Gb13
  have HB := GHB
  clear Gb4 Gb5 Gb9 Gb12 Gb13 GHB
  have cb130 : Va212.cell? ⟨b13, 0, none⟩ = some (.int .i64 (bs1)) := Hb13.out.cell 0
  have cb131 : Va212.cell? ⟨b13, 1, none⟩ = some (.int .i64 (bs2)) := Hb13.out.cell 1
  have cb132 : Va212.cell? ⟨b13, 2, none⟩ = some (.int .i64 (nb)) := Hb13.out.cell 2
  have cb133 : Va212.cell? ⟨b13, 3, none⟩ = some (.int .i64 (bp1)) := Hb13.out.cell 3
  have cb134 : Va212.cell? ⟨b13, 4, none⟩ = some (.int .i64 (bp2)) := Hb13.out.cell 4
  go_wp2_with fail
  refine (CheckWind_any bs1 bs2 nb bp1 bp2 _).mono ?_
  rintro e Va213 ⟨rfl, hb⟩
  have HZ := Lib.hid hb
  clear hb
  rw [Q3.out]
  clear cb130 cb131 cb132 cb133 cb134
  have Gb4 := Lib.hid (Hb4.out.below HZ.out Hb4.out.lt)
  have Gb5 := Lib.hid (Hb5.out.below HZ.out Hb5.out.lt)
  have Gb9 := Lib.hid (Hb9.out.below HZ.out Hb9.out.lt)
  have Gb12 := Lib.hid (Hb12.out.below HZ.out Hb12.out.lt)
  have Gb13 := Lib.hid (Hb13.out.below HZ.out Hb13.out.lt)
  have GHB := Lib.hid (HB.out.trans (HZ.out.mono HB.out.size))
  clear Hb4 Hb5 Hb9 Hb12 Hb13 HB HZ
  have Hb4 := Gb4
  have Hb5 := Gb5
  have Hb9 := Gb9
  have Hb12 := Gb12
  have Hb13 := Gb13
  have HB := GHB
  clear Gb4 Gb5 Gb9 Gb12 Gb13 GHB
  have cb130 : Va213.cell? ⟨b13, 0, none⟩ = some (.int .i64 (bs1)) := Hb13.out.cell 0
  have cb131 : Va213.cell? ⟨b13, 1, none⟩ = some (.int .i64 (bs2)) := Hb13.out.cell 1
  have cb132 : Va213.cell? ⟨b13, 2, none⟩ = some (.int .i64 (nb)) := Hb13.out.cell 2
  have cb133 : Va213.cell? ⟨b13, 3, none⟩ = some (.int .i64 (bp1)) := Hb13.out.cell 3
  have cb134 : Va213.cell? ⟨b13, 4, none⟩ = some (.int .i64 (bp2)) := Hb13.out.cell 4
  have cb90 : Va213.cell? ⟨b9, 0, none⟩ = some (.int .i64 (as1)) := Hb9.out.cell 0
  have cb91 : Va213.cell? ⟨b9, 1, none⟩ = some (.int .i64 (as2)) := Hb9.out.cell 1
  have cb92 : Va213.cell? ⟨b9, 2, none⟩ = some (.int .i64 (na)) := Hb9.out.cell 2
  have cb93 : Va213.cell? ⟨b9, 3, none⟩ = some (.int .i64 (ap1)) := Hb9.out.cell 3
  have cb94 : Va213.cell? ⟨b9, 4, none⟩ = some (.int .i64 (ap2)) := Hb9.out.cell 4
  go_wp2_with fail
  refine (lies_any bs1 bs2 as1 as2 _).mono ?_
  rintro e Va214 ⟨rfl, hb⟩
  have HZ := Lib.hid hb
  clear hb
  rw [decide_eq_true Q4.out]
  clear cb130 cb131 cb132 cb133 cb134 cb90 cb91 cb92 cb93 cb94
  have Gb4 := Lib.hid (Hb4.out.below HZ.out Hb4.out.lt)
  have Gb5 := Lib.hid (Hb5.out.below HZ.out Hb5.out.lt)
  have Gb9 := Lib.hid (Hb9.out.below HZ.out Hb9.out.lt)
  have Gb12 := Lib.hid (Hb12.out.below HZ.out Hb12.out.lt)
  have Gb13 := Lib.hid (Hb13.out.below HZ.out Hb13.out.lt)
  have GHB := Lib.hid (HB.out.trans (HZ.out.mono HB.out.size))
  clear Hb4 Hb5 Hb9 Hb12 Hb13 HB HZ
  have Hb4 := Gb4
  have Hb5 := Gb5
  have Hb9 := Gb9
  have Hb12 := Gb12
  have Hb13 := Gb13
  have HB := GHB
  clear Gb4 Gb5 Gb9 Gb12 Gb13 GHB
  have cb130 : Va214.cell? ⟨b13, 0, none⟩ = some (.int .i64 (bs1)) := Hb13.out.cell 0
  have cb131 : Va214.cell? ⟨b13, 1, none⟩ = some (.int .i64 (bs2)) := Hb13.out.cell 1
  have cb132 : Va214.cell? ⟨b13, 2, none⟩ = some (.int .i64 (nb)) := Hb13.out.cell 2
  have cb133 : Va214.cell? ⟨b13, 3, none⟩ = some (.int .i64 (bp1)) := Hb13.out.cell 3
  have cb134 : Va214.cell? ⟨b13, 4, none⟩ = some (.int .i64 (bp2)) := Hb13.out.cell 4
  have cb90 : Va214.cell? ⟨b9, 0, none⟩ = some (.int .i64 (as1)) := Hb9.out.cell 0
  have cb91 : Va214.cell? ⟨b9, 1, none⟩ = some (.int .i64 (as2)) := Hb9.out.cell 1
  have cb92 : Va214.cell? ⟨b9, 2, none⟩ = some (.int .i64 (na)) := Hb9.out.cell 2
  have cb93 : Va214.cell? ⟨b9, 3, none⟩ = some (.int .i64 (ap1)) := Hb9.out.cell 3
  have cb94 : Va214.cell? ⟨b9, 4, none⟩ = some (.int .i64 (ap2)) := Hb9.out.cell 4
  go_wp2_with fail
  refine (lies_any bp1 bp2 ap1 ap2 _).mono ?_
  rintro e Va215 ⟨rfl, hb⟩
  have HZ := Lib.hid hb
  clear hb
  rw [decide_eq_true Q5.out]
  clear cb130 cb131 cb132 cb133 cb134 cb90 cb91 cb92 cb93 cb94
  have Gb4 := Lib.hid (Hb4.out.below HZ.out Hb4.out.lt)
  have Gb5 := Lib.hid (Hb5.out.below HZ.out Hb5.out.lt)
  have Gb9 := Lib.hid (Hb9.out.below HZ.out Hb9.out.lt)
  have Gb12 := Lib.hid (Hb12.out.below HZ.out Hb12.out.lt)
  have Gb13 := Lib.hid (Hb13.out.below HZ.out Hb13.out.lt)
  have GHB := Lib.hid (HB.out.trans (HZ.out.mono HB.out.size))
  clear Hb4 Hb5 Hb9 Hb12 Hb13 HB HZ
  have Hb4 := Gb4
  have Hb5 := Gb5
  have Hb9 := Gb9
  have Hb12 := Gb12
  have Hb13 := Gb13
  have HB := GHB
  clear Gb4 Gb5 Gb9 Gb12 Gb13 GHB
  have cb90 : Va215.cell? ⟨b9, 0, none⟩ = some (.int .i64 (as1)) := Hb9.out.cell 0
  have cb91 : Va215.cell? ⟨b9, 1, none⟩ = some (.int .i64 (as2)) := Hb9.out.cell 1
  have cb92 : Va215.cell? ⟨b9, 2, none⟩ = some (.int .i64 (na)) := Hb9.out.cell 2
  have cb93 : Va215.cell? ⟨b9, 3, none⟩ = some (.int .i64 (ap1)) := Hb9.out.cell 3
  have cb94 : Va215.cell? ⟨b9, 4, none⟩ = some (.int .i64 (ap2)) := Hb9.out.cell 4
  have cb130 : Va215.cell? ⟨b13, 0, none⟩ = some (.int .i64 (bs1)) := Hb13.out.cell 0
  have cb131 : Va215.cell? ⟨b13, 1, none⟩ = some (.int .i64 (bs2)) := Hb13.out.cell 1
  have cb132 : Va215.cell? ⟨b13, 2, none⟩ = some (.int .i64 (nb)) := Hb13.out.cell 2
  have cb133 : Va215.cell? ⟨b13, 3, none⟩ = some (.int .i64 (bp1)) := Hb13.out.cell 3
  have cb134 : Va215.cell? ⟨b13, 4, none⟩ = some (.int .i64 (bp2)) := Hb13.out.cell 4
  go_wp2_with fail
  refine (works_any _ (HDR.out.later HB.out)).mono ?_
  rintro e Va216 ⟨rfl, hb⟩
  have HBZ := Lib.hid (HB.out.trans (hb.mono HB.out.size))
  clear hb
  go_wp2
  go_ret
  exact ⟨rfl, HBZ.out⟩
end Go.Proofs.YtdhcdgfpkjdihaaDoor.Sg
