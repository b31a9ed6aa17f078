/-
  Layer 3, the program: Fetch.
-/
import Derived.Test.YtdhcdgfpkjdihaaDoorYP3q
import Derived.Test.YtdhcdgfpkjdihaaDoorYP3m
set_option linter.unusedSimpArgs false
set_option linter.unusedVariables false
namespace Go.Proofs.YtdhcdgfpkjdihaaDoor.Sg
open Go.RowKit Go.Shelf
def op17_10_0 : Oper := ⟨some 33, .load 110 (.tmp 13), 110, "fetch.go:39", #[], none⟩
def op17_10_1 : Oper := ⟨some 34, .move (.tmp 2), 3, "fetch.go:39", #[], none⟩
def op17_10_2 : Oper := ⟨some 35, .move (.tmp 3), 3, "fetch.go:39", #[], none⟩
def op17_10_3 : Oper := ⟨some 36, .call { callee := Callee.value (.func 59), args := #[.tmp 33, .tmp 34, .tmp 35, .func 60], argTypes := #[110, 3, 3, 115] }, 113, "fetch.go:39", #[⟨0, .data⟩, ⟨1, .data⟩, ⟨2, .data⟩], none⟩
def op17_10_4 : Oper := ⟨some 37, .call { callee := Callee.value (.func 58), args := #[.tmp 36], argTypes := #[113] }, 34, "fetch.go:39", #[⟨3, .data⟩, ⟨3, .chain⟩], none⟩
def op17_10_5 : Oper := ⟨some 38, .load 110 (.tmp 13), 110, "fetch.go:39", #[], none⟩
def op17_10_6 : Oper := ⟨some 39, .move (.tmp 2), 3, "fetch.go:39", #[], none⟩
def op17_10_7 : Oper := ⟨some 40, .move (.tmp 3), 3, "fetch.go:39", #[], none⟩
def op17_10_8 : Oper := ⟨some 41, .call { callee := Callee.value (.func 59), args := #[.tmp 38, .tmp 39, .tmp 40, .func 61], argTypes := #[110, 3, 3, 115] }, 113, "fetch.go:39", #[⟨5, .data⟩, ⟨6, .data⟩, ⟨7, .data⟩, ⟨4, .chain⟩], none⟩
def op17_10_9 : Oper := ⟨some 42, .call { callee := Callee.value (.func 58), args := #[.tmp 41], argTypes := #[113] }, 34, "fetch.go:39", #[⟨8, .data⟩, ⟨8, .chain⟩], none⟩
def op17_10_10 : Oper := ⟨some 8, .assign (.tmp 37), 34, "fetch.go:39", #[⟨4, .data⟩, ⟨9, .chain⟩, ⟨0, .phase⟩, ⟨1, .phase⟩, ⟨2, .phase⟩, ⟨3, .phase⟩, ⟨4, .phase⟩, ⟨5, .textOnly .lateStores⟩, ⟨6, .textOnly .lateStores⟩, ⟨7, .textOnly .lateStores⟩, ⟨8, .textOnly .lateStoresUnsure⟩, ⟨9, .textOnly .lateStoresUnsure⟩], none⟩
def op17_10_11 : Oper := ⟨some 9, .assign (.tmp 42), 34, "fetch.go:39", #[⟨9, .data⟩, ⟨10, .chain⟩, ⟨0, .phase⟩, ⟨1, .phase⟩, ⟨2, .phase⟩, ⟨3, .phase⟩, ⟨4, .phase⟩, ⟨5, .phase⟩, ⟨6, .phase⟩, ⟨7, .phase⟩, ⟨8, .phase⟩, ⟨9, .phase⟩, ⟨10, .phase⟩], none⟩
def op17_10_12 : Oper := ⟨some 10, .assign (.const (Value.int IntKind.i64 0)), 35, "fetch.go:39", #[⟨11, .chain⟩, ⟨0, .phase⟩, ⟨1, .phase⟩, ⟨2, .phase⟩, ⟨3, .phase⟩, ⟨4, .phase⟩, ⟨5, .phase⟩, ⟨6, .phase⟩, ⟨7, .phase⟩, ⟨8, .phase⟩, ⟨9, .phase⟩, ⟨10, .phase⟩, ⟨11, .phase⟩], none⟩
def fetchE (g : G) (sea : Int × Int) (cell dir : Int) : Int := andE (andE (seaE g sea) (cellE g cell)) (if 0 ≤ dir ∧ dir ≤ 7 then 0 else 3)
def fetchVS (g : G) (sea : Int × Int) (cell dir : Int) : List Int := if fetchE g sea cell dir = 0 then fetchZ (sureB g sea) g cell dir.toNat else []
def fetchVM (g : G) (sea : Int × Int) (cell dir : Int) : List Int := if fetchE g sea cell dir = 0 then fetchZ (mayB g sea) g cell dir.toNat else []
def FetOut (g : G) (sea : Int × Int) (cell dir : Int) (w : World) (e : Ending) (w' : World) : Prop := ∃ u v, e = .returned (.tuple #[u, v, .int .i64 (fetchE g sea cell dir)]) ∧ IntsAt w' w'.heap.size u (fetchVS g sea cell dir) ∧ IntsAt w' w'.heap.size v (fetchVM g sea cell dir) ∧ Below w.heap.size w w'
theorem fet_err {g : G} {sea : Int × Int} {cell dir E : Int} (h : fetchE g sea cell dir = E) (h0 : ¬ E = 0) {w w' : World} (hb : Below w.heap.size w w') : FetOut g sea cell dir w (.returned (.tuple #[.slice none 0 0, .slice none 0 0, .int .i64 E])) w' := by
 have e1 : fetchVS g sea cell dir = [] := by unfold fetchVS; rw [h]; exact if_neg h0
 have e2 : fetchVM g sea cell dir = [] := by unfold fetchVM; rw [h]; exact if_neg h0
 unfold FetOut
 rw [h, e1, e2]
 exact ⟨_, _, rfl, Reads.nil _ _ _, Reads.nil _ _ _, hb⟩
set_option maxRecDepth 100000 in
set_option maxHeartbeats 4000000 in
theorem Fetch_any (WW HH SS : Int) (ss : List (Int × Int)) (A : Option Addr) (c : Nat) (lo hi cell dir : Int) (w : World) (HD : DirsAt w) (hs : SpansAt w w.heap.size (.slice A ss.length c) ss) :
 Calls Tryd.prog 17 #[.agg #[.int .i64 (WW), .int .i64 (HH), .int .i64 (SS), .slice A ss.length c], .agg #[.int .i64 lo, .int .i64 hi], .int .i64 cell, .int .i64 dir] w (FetOut ⟨WW, HH, SS, ss⟩ (lo, hi) cell dir w) := by
 by_cases h0 : seaE ⟨WW, HH, SS, ss⟩ (lo, hi) = 0
 rotate_left
 ·
  obtain ⟨E, hE⟩ : ∃ z, seaE ⟨WW, HH, SS, ss⟩ (lo, hi) = z := ⟨_, rfl⟩
  rw [hE] at h0
  have hb1 : (E == 0) = false := beq_eq_false_iff_ne.2 h0
  have EE := Lib.hid (show fetchE ⟨WW, HH, SS, ss⟩ (lo, hi) cell dir = E by unfold fetchE andE; rw [hE]; simp [h0])
  have H0 := Lib.hid hE
  have HN0 := Lib.hid h0
  clear hE
  have HDR := Lib.hid HD
  have HSS3 := Lib.hid hs
  clear HD hs
  go_enter Tryd.func17, Tryd.ntmps17
  go_upto_region 1 with (fail)
  obtain ⟨Va1, hV⟩ : ∃ V, (w.alloc (.cells #[.int .i64 (WW), .int .i64 (HH), .int .i64 (SS), .slice A ss.length c] 24)).alloc (.cells #[.int .i64 (lo), .int .i64 (hi)] 26) = V := ⟨_, rfl⟩
  have Kb4 : Hid (Blk Va1 (w.heap.size) 24 #[.int .i64 (WW), .int .i64 (HH), .int .i64 (SS), .slice A ss.length c]) := by rw [← hV]; exact (Blk.new' _ _ _ (by simp)).alloc _
  have Kb5 : Hid (Blk Va1 (w.heap.size + 1) 26 #[.int .i64 (lo), .int .i64 (hi)]) := by rw [← hV]; exact Blk.new' _ _ _ (by simp)
  have GHB : Hid (Below w.heap.size w Va1) := by rw [← hV]; exact (by repeat (first | exact Below.refl _ _ | assumption | refine Below.drew ?_ | refine Below.drewN' ?_ _ | (refine Below.alloc ?_ (by simp <;> omega) _) | (refine Below.setCell ?_ (by simp <;> omega) _)))
  have HZ : Hid (Below w.heap.size w Va1) := GHB
  have GHDR := Lib.hid (HDR.out.later HZ.out)
  have GHSS3 := Lib.hid (HSS3.out.later HZ.out (Nat.le_refl _))
  rw [hV]
  clear hV HZ HDR HSS3
  have HB := GHB
  clear GHB
  have HDR := GHDR
  clear GHDR
  have HSS3 := GHSS3
  clear GHSS3
  obtain ⟨b5, hqb5⟩ : ∃ b, w.heap.size + 1 = b := ⟨_, rfl⟩
  obtain ⟨b4, hqb4⟩ : ∃ b, w.heap.size = b := ⟨_, rfl⟩
  have gb4 : w.heap.size ≤ b4 := by omega
  have gb5 : w.heap.size ≤ b5 := by omega
  have nb5b4 : ¬ b5 = b4 := by omega
  have nb4b5 : ¬ b4 = b5 := by omega
  rw [hqb5] at Kb5 ⊢
  clear hqb5
  have HN : Hid (w.heap.size = b4) := hqb4
  rw [hqb4] at Kb4 ⊢
  clear hqb4
  have Hb4 := Kb4
  clear Kb4
  have Hb5 := Kb5
  clear Kb5
  have cb40 := kcl0 Hb4
  have cb41 := kcl1 Hb4
  have cb42 := kcl2 Hb4
  have cb43 := kcl3 Hb4
  have cb50 := kcl0 Hb5
  have cb51 := kcl1 Hb5
  go_wp2_with fail
  refine (checkSea_any WW HH SS ss A c lo hi _ HSS3.out).mono ?_
  rintro e Va2 ⟨rfl, hb⟩
  have HZ := Lib.hid hb
  clear hb
  rw [H0.out]
  clear cb40 cb41 cb42 cb43 cb50 cb51
  replace Hb4 := kbl Hb4 HZ
  replace Hb5 := kbl Hb5 HZ
  replace HB := ktr' HB HZ
  replace HDR := Lib.hid (HDR.out.later HZ.out)
  replace HSS3 := Lib.hid (HSS3.out.later HZ.out (Nat.le_refl _))
  clear HZ
  go_wp2
  refine bodyPost_ret (v := .tuple #[.slice none 0 0, .slice none 0 0, .int .i64 E]) (by simp [results, Tryd.results17, go_sem]) rfl (fet_err EE.out HN0.out HB.out)
 by_cases h1 : cellE ⟨WW, HH, SS, ss⟩ cell = 0
 rotate_left
 ·
  obtain ⟨E, hE⟩ : ∃ z, cellE ⟨WW, HH, SS, ss⟩ cell = z := ⟨_, rfl⟩
  rw [hE] at h1
  have hb1 : (E == 0) = false := beq_eq_false_iff_ne.2 h1
  have EE := Lib.hid (show fetchE ⟨WW, HH, SS, ss⟩ (lo, hi) cell dir = E by unfold fetchE andE; rw [h0, hE]; simp [h1])
  have H0 := Lib.hid h0
  have H1 := Lib.hid hE
  have HN1 := Lib.hid h1
  clear hE h0
  have HDR := Lib.hid HD
  have HSS3 := Lib.hid hs
  clear HD hs
  go_enter Tryd.func17, Tryd.ntmps17
  go_upto_region 1 with (fail)
  obtain ⟨Va51, hV⟩ : ∃ V, (w.alloc (.cells #[.int .i64 (WW), .int .i64 (HH), .int .i64 (SS), .slice A ss.length c] 24)).alloc (.cells #[.int .i64 (lo), .int .i64 (hi)] 26) = V := ⟨_, rfl⟩
  have Kb4 : Hid (Blk Va51 (w.heap.size) 24 #[.int .i64 (WW), .int .i64 (HH), .int .i64 (SS), .slice A ss.length c]) := by rw [← hV]; exact (Blk.new' _ _ _ (by simp)).alloc _
  have Kb5 : Hid (Blk Va51 (w.heap.size + 1) 26 #[.int .i64 (lo), .int .i64 (hi)]) := by rw [← hV]; exact Blk.new' _ _ _ (by simp)
  have GHB : Hid (Below w.heap.size w Va51) := by rw [← hV]; exact (by repeat (first | exact Below.refl _ _ | assumption | refine Below.drew ?_ | refine Below.drewN' ?_ _ | (refine Below.alloc ?_ (by simp <;> omega) _) | (refine Below.setCell ?_ (by simp <;> omega) _)))
  have HZ : Hid (Below w.heap.size w Va51) := GHB
  have GHDR := Lib.hid (HDR.out.later HZ.out)
  have GHSS3 := Lib.hid (HSS3.out.later HZ.out (Nat.le_refl _))
  rw [hV]
  clear hV HZ HDR HSS3
  have HB := GHB
  clear GHB
  have HDR := GHDR
  clear GHDR
  have HSS3 := GHSS3
  clear GHSS3
  obtain ⟨b5, hqb5⟩ : ∃ b, w.heap.size + 1 = b := ⟨_, rfl⟩
  obtain ⟨b4, hqb4⟩ : ∃ b, w.heap.size = b := ⟨_, rfl⟩
  have gb4 : w.heap.size ≤ b4 := by omega
  have gb5 : w.heap.size ≤ b5 := by omega
  have nb5b4 : ¬ b5 = b4 := by omega
  have nb4b5 : ¬ b4 = b5 := by omega
  rw [hqb5] at Kb5 ⊢
  clear hqb5
  have HN : Hid (w.heap.size = b4) := hqb4
  rw [hqb4] at Kb4 ⊢
  clear hqb4
  have Hb4 := Kb4
  clear Kb4
  have Hb5 := Kb5
  clear Kb5
  have cb40 := kcl0 Hb4
  have cb41 := kcl1 Hb4
  have cb42 := kcl2 Hb4
  have cb43 := kcl3 Hb4
  have cb50 := kcl0 Hb5
  have cb51 := kcl1 Hb5
  go_wp2_with fail
  refine (checkSea_any WW HH SS ss A c lo hi _ HSS3.out).mono ?_
  rintro e Va52 ⟨rfl, hb⟩
  have HZ := Lib.hid hb
  clear hb
  rw [H0.out]
  clear cb40 cb41 cb42 cb43 cb50 cb51
  replace Hb4 := kbl Hb4 HZ
  replace Hb5 := kbl Hb5 HZ
  replace HB := ktr' HB HZ
  replace HDR := Lib.hid (HDR.out.later HZ.out)
  replace HSS3 := Lib.hid (HSS3.out.later HZ.out (Nat.le_refl _))
  clear HZ
  have cb40 := kcl0 Hb4
  have cb41 := kcl1 Hb4
  have cb42 := kcl2 Hb4
  have cb43 := kcl3 Hb4
  go_wp2_with fail
  refine (checkCell_any WW HH SS ss A c cell _ HSS3.out.2.1).mono ?_
  rintro e Va53 ⟨rfl, hb⟩
  have HZ := Lib.hid hb
  clear hb
  rw [H1.out]
  clear cb40 cb41 cb42 cb43
  replace Hb4 := kbl Hb4 HZ
  replace Hb5 := kbl Hb5 HZ
  replace HB := ktr' HB HZ
  replace HDR := Lib.hid (HDR.out.later HZ.out)
  replace HSS3 := Lib.hid (HSS3.out.later HZ.out (Nat.le_refl _))
  clear HZ
  go_wp2
  refine bodyPost_ret (v := .tuple #[.slice none 0 0, .slice none 0 0, .int .i64 E]) (by simp [results, Tryd.results17, go_sem]) rfl (fet_err EE.out HN1.out HB.out)
 by_cases h2 : decide (0 ≤ dir ∧ dir ≤ 7) = true
 rotate_left
 ·
  have h2 : decide (0 ≤ dir ∧ dir ≤ 7) = false := by simpa using h2
  have h2' : ¬ (0 ≤ dir ∧ dir ≤ 7) := of_decide_eq_false h2
  have EE := Lib.hid (show fetchE ⟨WW, HH, SS, ss⟩ (lo, hi) cell dir = 3 by unfold fetchE andE; rw [h0, h1, if_neg h2']; simp)
  have H0 := Lib.hid h0
  have H1 := Lib.hid h1
  have H2 := Lib.hid h2
  clear h0 h1 h2 h2'
  have HDR := Lib.hid HD
  have HSS3 := Lib.hid hs
  clear HD hs
  go_enter Tryd.func17, Tryd.ntmps17
  go_upto_region 1 with (fail)
  obtain ⟨Va101, hV⟩ : ∃ V, (w.alloc (.cells #[.int .i64 (WW), .int .i64 (HH), .int .i64 (SS), .slice A ss.length c] 24)).alloc (.cells #[.int .i64 (lo), .int .i64 (hi)] 26) = V := ⟨_, rfl⟩
  have Kb4 : Hid (Blk Va101 (w.heap.size) 24 #[.int .i64 (WW), .int .i64 (HH), .int .i64 (SS), .slice A ss.length c]) := by rw [← hV]; exact (Blk.new' _ _ _ (by simp)).alloc _
  have Kb5 : Hid (Blk Va101 (w.heap.size + 1) 26 #[.int .i64 (lo), .int .i64 (hi)]) := by rw [← hV]; exact Blk.new' _ _ _ (by simp)
  have GHB : Hid (Below w.heap.size w Va101) := by rw [← hV]; exact (by repeat (first | exact Below.refl _ _ | assumption | refine Below.drew ?_ | refine Below.drewN' ?_ _ | (refine Below.alloc ?_ (by simp <;> omega) _) | (refine Below.setCell ?_ (by simp <;> omega) _)))
  have HZ : Hid (Below w.heap.size w Va101) := GHB
  have GHDR := Lib.hid (HDR.out.later HZ.out)
  have GHSS3 := Lib.hid (HSS3.out.later HZ.out (Nat.le_refl _))
  rw [hV]
  clear hV HZ HDR HSS3
  have HB := GHB
  clear GHB
  have HDR := GHDR
  clear GHDR
  have HSS3 := GHSS3
  clear GHSS3
  obtain ⟨b5, hqb5⟩ : ∃ b, w.heap.size + 1 = b := ⟨_, rfl⟩
  obtain ⟨b4, hqb4⟩ : ∃ b, w.heap.size = b := ⟨_, rfl⟩
  have gb4 : w.heap.size ≤ b4 := by omega
  have gb5 : w.heap.size ≤ b5 := by omega
  have nb5b4 : ¬ b5 = b4 := by omega
  have nb4b5 : ¬ b4 = b5 := by omega
  rw [hqb5] at Kb5 ⊢
  clear hqb5
  have HN : Hid (w.heap.size = b4) := hqb4
  rw [hqb4] at Kb4 ⊢
  clear hqb4
  have Hb4 := Kb4
  clear Kb4
  have Hb5 := Kb5
  clear Kb5
  have cb40 := kcl0 Hb4
  have cb41 := kcl1 Hb4
  have cb42 := kcl2 Hb4
  have cb43 := kcl3 Hb4
  have cb50 := kcl0 Hb5
  have cb51 := kcl1 Hb5
  go_wp2_with fail
  refine (checkSea_any WW HH SS ss A c lo hi _ HSS3.out).mono ?_
  rintro e Va102 ⟨rfl, hb⟩
  have HZ := Lib.hid hb
  clear hb
  rw [H0.out]
  clear cb40 cb41 cb42 cb43 cb50 cb51
  replace Hb4 := kbl Hb4 HZ
  replace Hb5 := kbl Hb5 HZ
  replace HB := ktr' HB HZ
  replace HDR := Lib.hid (HDR.out.later HZ.out)
  replace HSS3 := Lib.hid (HSS3.out.later HZ.out (Nat.le_refl _))
  clear HZ
  have cb40 := kcl0 Hb4
  have cb41 := kcl1 Hb4
  have cb42 := kcl2 Hb4
  have cb43 := kcl3 Hb4
  go_wp2_with fail
  refine (checkCell_any WW HH SS ss A c cell _ HSS3.out.2.1).mono ?_
  rintro e Va103 ⟨rfl, hb⟩
  have HZ := Lib.hid hb
  clear hb
  rw [H1.out]
  clear cb40 cb41 cb42 cb43
  replace Hb4 := kbl Hb4 HZ
  replace Hb5 := kbl Hb5 HZ
  replace HB := ktr' HB HZ
  replace HDR := Lib.hid (HDR.out.later HZ.out)
  replace HSS3 := Lib.hid (HSS3.out.later HZ.out (Nat.le_refl _))
  clear HZ
  go_wp2_with fail
  refine (isDir_of H2.out _).mono ?_
  rintro e Va104 ⟨rfl, hb⟩
  have HZ := Lib.hid hb
  clear hb
  replace Hb4 := kbl Hb4 HZ
  replace Hb5 := kbl Hb5 HZ
  replace HB := ktr' HB HZ
  replace HDR := Lib.hid (HDR.out.later HZ.out)
  replace HSS3 := Lib.hid (HSS3.out.later HZ.out (Nat.le_refl _))
  clear HZ
  go_wp2
  refine bodyPost_ret (v := .tuple #[.slice none 0 0, .slice none 0 0, .int .i64 3]) (by simp [results, Tryd.results17, go_sem]) rfl (fet_err EE.out (by decide) HB.out)
 ·
  have h2' : 0 ≤ dir ∧ dir ≤ 7 := of_decide_eq_true h2
  have hFE : fetchE ⟨WW, HH, SS, ss⟩ (lo, hi) cell dir = 0 := by unfold fetchE andE; rw [h0, h1, if_pos h2']; rfl
  have hVS : fetchVS ⟨WW, HH, SS, ss⟩ (lo, hi) cell dir = fetchZ (sureB ⟨WW, HH, SS, ss⟩ (lo, hi)) ⟨WW, HH, SS, ss⟩ cell dir.toNat := if_pos hFE
  have hVM : fetchVM ⟨WW, HH, SS, ss⟩ (lo, hi) cell dir = fetchZ (mayB ⟨WW, HH, SS, ss⟩ (lo, hi)) ⟨WW, HH, SS, ss⟩ cell dir.toNat := if_pos hFE
  obtain ⟨hck, hsk⟩ : checkE ⟨WW, HH, SS, ss⟩ = 0 ∧ spOk (-20000) 20000 (lo, hi) = true := by
   have h := h0
   unfold seaE at h
   obtain ⟨a, b⟩ := andE_zero.1 h
   refine ⟨a, ?_⟩
   cases k : spOk (-20000) 20000 (lo, hi) with
   | true => rfl
   | false => rw [spE_neg k] at b; cases b
  have hcl : 0 ≤ cell ∧ cell < ss.length := by
   have h := h1
   unfold cellE at h
   split at h
   · assumption
   · cases h
  obtain ⟨cn, rfl⟩ : ∃ k : Nat, cell = (k : Int) := ⟨cell.toNat, by omega⟩
  obtain ⟨d, rfl⟩ : ∃ k : Nat, dir = (k : Int) := ⟨dir.toNat, by omega⟩
  rw [Int.toNat_natCast] at hVS hVM
  have hcn : cn < ss.length := by omega
  have hd8 : d < 8 := by omega
  have HFE := Lib.hid hFE
  have HVS := Lib.hid hVS
  have HVM := Lib.hid hVM
  have HCK := Lib.hid hck
  have HSK := Lib.hid hsk
  have HCN := Lib.hid hcn
  have HD8 := Lib.hid hd8
  have H0 := Lib.hid h0
  have H1 := Lib.hid h1
  have H2 := Lib.hid h2
  clear h0 h1 h2 h2' hFE hVS hVM hck hsk hcl hcn hd8
  have HDR := Lib.hid HD
  have HSS3 := Lib.hid hs
  clear HD hs
  go_enter Tryd.func17, Tryd.ntmps17
  go_upto_region 1 with (fail)
  obtain ⟨Va151, hV⟩ : ∃ V, (w.alloc (.cells #[.int .i64 (WW), .int .i64 (HH), .int .i64 (SS), .slice A ss.length c] 24)).alloc (.cells #[.int .i64 (lo), .int .i64 (hi)] 26) = V := ⟨_, rfl⟩
  have Kb4 : Hid (Blk Va151 (w.heap.size) 24 #[.int .i64 (WW), .int .i64 (HH), .int .i64 (SS), .slice A ss.length c]) := by rw [← hV]; exact (Blk.new' _ _ _ (by simp)).alloc _
  have Kb5 : Hid (Blk Va151 (w.heap.size + 1) 26 #[.int .i64 (lo), .int .i64 (hi)]) := by rw [← hV]; exact Blk.new' _ _ _ (by simp)
  have GHB : Hid (Below w.heap.size w Va151) := by rw [← hV]; exact (by repeat (first | exact Below.refl _ _ | assumption | refine Below.drew ?_ | refine Below.drewN' ?_ _ | (refine Below.alloc ?_ (by simp <;> omega) _) | (refine Below.setCell ?_ (by simp <;> omega) _)))
  have HZ : Hid (Below w.heap.size w Va151) := GHB
  have GHDR := Lib.hid (HDR.out.later HZ.out)
  have GHSS3 := Lib.hid (HSS3.out.later HZ.out (Nat.le_refl _))
  rw [hV]
  clear hV HZ HDR HSS3
  have HB := GHB
  clear GHB
  have HDR := GHDR
  clear GHDR
  have HSS3 := GHSS3
  clear GHSS3
  obtain ⟨b5, hqb5⟩ : ∃ b, w.heap.size + 1 = b := ⟨_, rfl⟩
  obtain ⟨b4, hqb4⟩ : ∃ b, w.heap.size = b := ⟨_, rfl⟩
  have gb4 : w.heap.size ≤ b4 := by omega
  have gb5 : w.heap.size ≤ b5 := by omega
  have nb5b4 : ¬ b5 = b4 := by omega
  have nb4b5 : ¬ b4 = b5 := by omega
  rw [hqb5] at Kb5 ⊢
  clear hqb5
  have HN : Hid (w.heap.size = b4) := hqb4
  rw [hqb4] at Kb4 ⊢
  clear hqb4
  have Hb4 := Kb4
  clear Kb4
  have Hb5 := Kb5
  clear Kb5
  have cb40 := kcl0 Hb4
  have cb41 := kcl1 Hb4
  have cb42 := kcl2 Hb4
  have cb43 := kcl3 Hb4
  have cb50 := kcl0 Hb5
  have cb51 := kcl1 Hb5
  go_wp2_with fail
  refine (checkSea_any WW HH SS ss A c lo hi _ HSS3.out).mono ?_
  rintro e Va152 ⟨rfl, hb⟩
  have HZ := Lib.hid hb
  clear hb
  rw [H0.out]
  clear cb40 cb41 cb42 cb43 cb50 cb51
  replace Hb4 := kbl Hb4 HZ
  replace Hb5 := kbl Hb5 HZ
  replace HB := ktr' HB HZ
  replace HDR := Lib.hid (HDR.out.later HZ.out)
  replace HSS3 := Lib.hid (HSS3.out.later HZ.out (Nat.le_refl _))
  clear HZ
  have cb40 := kcl0 Hb4
  have cb41 := kcl1 Hb4
  have cb42 := kcl2 Hb4
  have cb43 := kcl3 Hb4
  go_wp2_with fail
  refine (checkCell_any WW HH SS ss A c (cn : Int) _ HSS3.out.2.1).mono ?_
  rintro e Va153 ⟨rfl, hb⟩
  have HZ := Lib.hid hb
  clear hb
  rw [H1.out]
  clear cb40 cb41 cb42 cb43
  replace Hb4 := kbl Hb4 HZ
  replace Hb5 := kbl Hb5 HZ
  replace HB := ktr' HB HZ
  replace HDR := Lib.hid (HDR.out.later HZ.out)
  replace HSS3 := Lib.hid (HSS3.out.later HZ.out (Nat.le_refl _))
  clear HZ
  go_wp2_with fail
  refine (isDir_of H2.out _).mono ?_
  rintro e Va154 ⟨rfl, hb⟩
  have HZ := Lib.hid hb
  clear hb
  replace Hb4 := kbl Hb4 HZ
  replace Hb5 := kbl Hb5 HZ
  replace HB := ktr' HB HZ
  replace HDR := Lib.hid (HDR.out.later HZ.out)
  replace HSS3 := Lib.hid (HSS3.out.later HZ.out (Nat.le_refl _))
  clear HZ
  have cb40 := kcl0 Hb4
  have cb41 := kcl1 Hb4
  have cb42 := kcl2 Hb4
  have cb43 := kcl3 Hb4
  have cb50 := kcl0 Hb5
  have cb51 := kcl1 Hb5
  go_upto_region 10 with (fail)
  clear cb40 cb41 cb42 cb43 cb50 cb51
  obtain ⟨Va155, hV⟩ : ∃ X, Va154.alloc (.cells #[.int .i64 (WW), .int .i64 (HH), .int .i64 (SS), .slice A ss.length c, .int .i64 (lo), .int .i64 (hi)] 110) = X := ⟨_, rfl⟩
  have hnew : Blk Va155 Va154.heap.size 110 #[.int .i64 (WW), .int .i64 (HH), .int .i64 (SS), .slice A ss.length c, .int .i64 (lo), .int .i64 (hi)] := by rw [← hV]; exact (Blk.new' _ _ _ rfl)
  have hz : Below Va154.heap.size Va154 Va155 := by rw [← hV]; exact ((Below.refl _ _).alloc (Nat.le_refl _) _)
  have hgn := HB.out.size
  have lb4 := Hb4.out.lt
  have lb5 := Hb5.out.lt
  rw [hV]
  obtain ⟨b13, hbx⟩ : ∃ b, Va154.heap.size = b := ⟨_, rfl⟩
  rw [hbx] at hnew hgn lb4 lb5 ⊢
  have gb13 : w.heap.size ≤ b13 := hgn
  have HZ := Lib.hid hz
  have nb4b13 : ¬ b4 = b13 := by omega
  have nb13b4 : ¬ b13 = b4 := by omega
  have nb5b13 : ¬ b5 = b13 := by omega
  have nb13b5 : ¬ b13 = b5 := by omega
  clear hV hz hgn hbx lb4 lb5
  replace Hb4 := kbl Hb4 HZ
  replace Hb5 := kbl Hb5 HZ
  replace HB := ktr' HB HZ
  replace HDR := Lib.hid (HDR.out.later HZ.out)
  replace HSS3 := Lib.hid (HSS3.out.later HZ.out (Nat.le_refl _))
  clear HZ
  have Hb13 := Lib.hid hnew
  clear hnew
  have HSV : Hid (∀ U, Below Va155.heap.size Va155 U → U.cell? ⟨b13, 0, none⟩ = some (.int .i64 (WW)) ∧ U.cell? ⟨b13, 1, none⟩ = some (.int .i64 (HH)) ∧ U.cell? ⟨b13, 2, none⟩ = some (.int .i64 (SS)) ∧ U.cell? ⟨b13, 3, none⟩ = some (.slice A ss.length c) ∧ U.cell? ⟨b13, 4, none⟩ = some (.int .i64 (lo)) ∧ U.cell? ⟨b13, 5, none⟩ = some (.int .i64 (hi))) := fun U hU => by
   have kb13 := Hb13.out.below hU Hb13.out.lt
   exact ⟨kb13.cell 0, kb13.cell 1, kb13.cell 2, kb13.cell 3, kb13.cell 4, kb13.cell 5⟩
  have k0 := HSV.out _ (Below.drew (Below.refl Va155.heap.size Va155))
  refine wp_region_noPanic ?_
  refine wp_region_held_drew (S := (fun w' => w'.cell? ⟨b13, 0, none⟩ = some (.int .i64 (WW)) ∧ w'.cell? ⟨b13, 1, none⟩ = some (.int .i64 (HH)) ∧ w'.cell? ⟨b13, 2, none⟩ = some (.int .i64 (SS)) ∧ w'.cell? ⟨b13, 3, none⟩ = some (.slice A ss.length c) ∧ w'.cell? ⟨b13, 4, none⟩ = some (.int .i64 (lo)) ∧ w'.cell? ⟨b13, 5, none⟩ = some (.int .i64 (hi)))) (by kernel_rfl) ?_ (fun hHeld => ?_)
  · (try dsimp only); (exact k0)
  refine wpAnyH_take (i := 0) (oi := op17_10_0) (v := ?_) rfl (by kernel_rfl) (by kernel_rfl) (by kernel_rfl) (fun _ _ _ h => h) (Or.inl ⟨by rfl, ?_⟩) (by assumption) ?_
  rotate_left
  · ((intro w hSw; delta op17_10_0; (try dsimp only at hSw); go_simp) <;> with_reducible rfl)
  try simp only [op17_10_0, ksz]
  refine wpAnyH_take (i := 1) (oi := op17_10_1) (v := ?_) rfl (by kernel_rfl) (by kernel_rfl) (by kernel_rfl) (fun _ _ _ h => h) (Or.inl ⟨by rfl, ?_⟩) (by assumption) ?_
  rotate_left
  · ((intro w hSw; delta op17_10_1; (try dsimp only at hSw); go_simp) <;> with_reducible rfl)
  try simp only [op17_10_1, ksz]
  refine wpAnyH_take (i := 2) (oi := op17_10_2) (v := ?_) rfl (by kernel_rfl) (by kernel_rfl) (by kernel_rfl) (fun _ _ _ h => h) (Or.inl ⟨by rfl, ?_⟩) (by assumption) ?_
  rotate_left
  · ((intro w hSw; delta op17_10_2; (try dsimp only at hSw); go_simp) <;> with_reducible rfl)
  try simp only [op17_10_2, ksz]
  refine wpAnyH_take (i := 5) (oi := op17_10_5) (v := ?_) rfl (by kernel_rfl) (by kernel_rfl) (by kernel_rfl) (fun _ _ _ h => h) (Or.inl ⟨by rfl, ?_⟩) (by assumption) ?_
  rotate_left
  · ((intro w hSw; delta op17_10_5; (try dsimp only at hSw); go_simp) <;> with_reducible rfl)
  try simp only [op17_10_5, ksz]
  refine wpAnyH_take (i := 6) (oi := op17_10_6) (v := ?_) rfl (by kernel_rfl) (by kernel_rfl) (by kernel_rfl) (fun _ _ _ h => h) (Or.inl ⟨by rfl, ?_⟩) (by assumption) ?_
  rotate_left
  · ((intro w hSw; delta op17_10_6; (try dsimp only at hSw); go_simp) <;> with_reducible rfl)
  try simp only [op17_10_6, ksz]
  refine wpAnyH_take (i := 7) (oi := op17_10_7) (v := ?_) rfl (by kernel_rfl) (by kernel_rfl) (by kernel_rfl) (fun _ _ _ h => h) (Or.inl ⟨by rfl, ?_⟩) (by assumption) ?_
  rotate_left
  · ((intro w hSw; delta op17_10_7; (try dsimp only at hSw); go_simp) <;> with_reducible rfl)
  try simp only [op17_10_7, ksz]
  obtain ⟨W0, hW0⟩ : ∃ V, Va155.drew = V := ⟨_, rfl⟩; rw [hW0] at hHeld ⊢; have HB0 : Hid (Below Va155.heap.size Va155 W0) := (by rw [← hW0]; exact Below.drew (Below.refl _ _)); clear hW0
  refine wpAnyH_ready (rs := [3]) (by kernel_rfl) (by simp) ?_
  refine AllReadyH.cons (o := op17_10_3) rfl (fun K hK => ?_) AllReadyH.nil
  delta op17_10_3
  go_simp
  (refine (fetch_any WW HH SS lo hi _ ⟨_, _, _, rfl⟩ (cn : Int) d 60 HD8.out _ (HDR.out.later HB0.out)).mono ?_; rintro e W1 ⟨x15, x19, x111, x110, x17, x14, rfl, hfa, hb⟩; have HFA1 := Lib.hid hfa; clear hfa; have HB1 := Lib.hid (HB0.out.trans (hb.mono HB0.out.size)); clear hb)
  refine hK.out _ _ ?_ (fun hHeld => ?_)
  · (try dsimp only); (exact HSV.out _ HB1.out)
  clear hK K
  try simp only [op17_10_3, ksz]
  refine wpAnyH_ready (rs := [4]) (by kernel_rfl) (by simp) ?_
  refine AllReadyH.cons (o := op17_10_4) rfl (fun K hK => ?_) AllReadyH.nil
  delta op17_10_4
  go_simp
  (refine (collectS_any ⟨WW, HH, SS, ss⟩ A c lo hi cn d x15 x19 x111 x110 x17 x14 _ HFA1.out (HSS3.out.later HB1.out (Nat.le_refl _)) HCK.out HSK.out HD8.out HCN.out).mono ?_; rintro e W2 ⟨v1, rfl, hi, hb⟩; have HI1 := Lib.hid hi; clear hi; have HB2 := Lib.hid (HB1.out.trans (hb.mono HB1.out.size)); clear hb)
  refine hK.out _ _ ?_ (fun hHeld => ?_)
  · (try dsimp only); (exact HSV.out _ HB2.out)
  clear hK K
  try simp only [op17_10_4, ksz]
  refine wpAnyH_ready (rs := [8]) (by kernel_rfl) (by simp) ?_
  refine AllReadyH.cons (o := op17_10_8) rfl (fun K hK => ?_) AllReadyH.nil
  delta op17_10_8
  go_simp
  (refine (fetch_any WW HH SS lo hi _ ⟨_, _, _, rfl⟩ (cn : Int) d 61 HD8.out _ (HDR.out.later HB2.out)).mono ?_; rintro e W3 ⟨x25, x29, x211, x210, x27, x24, rfl, hfa, hb⟩; have HFA2 := Lib.hid hfa; clear hfa; have HI3 := Lib.hid (Reads.later HI1.out hb (Nat.le_refl _)); clear HI1; have HB3 := Lib.hid (HB2.out.trans (hb.mono HB2.out.size)); clear hb)
  refine hK.out _ _ ?_ (fun hHeld => ?_)
  · (try dsimp only); (exact HSV.out _ HB3.out)
  clear hK K
  try simp only [op17_10_8, ksz]
  refine wpAnyH_ready (rs := [9]) (by kernel_rfl) (by simp) ?_
  refine AllReadyH.cons (o := op17_10_9) rfl (fun K hK => ?_) AllReadyH.nil
  delta op17_10_9
  go_simp
  (refine (collectM_any ⟨WW, HH, SS, ss⟩ A c lo hi cn d x25 x29 x211 x210 x27 x24 _ HFA2.out (HSS3.out.later HB3.out (Nat.le_refl _)) HCK.out HSK.out HD8.out HCN.out).mono ?_; rintro e W4 ⟨v2, rfl, hi, hb⟩; have HI2 := Lib.hid hi; clear hi; have HI4 := Lib.hid (Reads.later HI3.out hb (Nat.le_refl _)); clear HI3; have HB4 := Lib.hid (HB3.out.trans (hb.mono HB3.out.size)); clear hb)
  refine hK.out _ _ ?_ (fun hHeld => ?_)
  · (try dsimp only); (exact HSV.out _ HB4.out)
  clear hK K
  try simp only [op17_10_9, ksz]
  refine wpAnyH_take (i := 10) (oi := op17_10_10) (v := ?_) rfl (by kernel_rfl) (by kernel_rfl) (by kernel_rfl) (fun _ _ _ h => h) (Or.inl ⟨by rfl, ?_⟩) (by assumption) ?_
  rotate_left
  · ((intro w hSw; delta op17_10_10; (try dsimp only at hSw); go_simp) <;> with_reducible rfl)
  try simp only [op17_10_10, ksz]
  refine wpAnyH_take (i := 11) (oi := op17_10_11) (v := ?_) rfl (by kernel_rfl) (by kernel_rfl) (by kernel_rfl) (fun _ _ _ h => h) (Or.inl ⟨by rfl, ?_⟩) (by assumption) ?_
  rotate_left
  · ((intro w hSw; delta op17_10_11; (try dsimp only at hSw); go_simp) <;> with_reducible rfl)
  try simp only [op17_10_11, ksz]
  refine wpAnyH_take (i := 12) (oi := op17_10_12) (v := ?_) rfl (by kernel_rfl) (by kernel_rfl) (by kernel_rfl) (fun _ _ _ h => h) (Or.inl ⟨by rfl, ?_⟩) (by assumption) ?_
  rotate_left
  · ((intro w hSw; delta op17_10_12; (try dsimp only at hSw); go_simp) <;> with_reducible rfl)
  try simp only [op17_10_12, ksz]
  refine wpAnyH_done (by kernel_rfl) ?_ _
  refine NoPanic.normal ?_
  clear HSV k0
  clear hHeld HB0 HB1 HB2 HB3
  obtain ⟨Va156, hVU⟩ : ∃ V, W4 = V := ⟨_, rfl⟩
  rw [hVU] at HB4 HI4 HI2 ⊢
  have HZ := HB4
  clear HB4 hVU
  replace Hb4 := kbl Hb4 HZ
  replace Hb5 := kbl Hb5 HZ
  replace Hb13 := kbl Hb13 HZ
  replace HB := ktr' HB HZ
  replace HDR := Lib.hid (HDR.out.later HZ.out)
  replace HSS3 := Lib.hid (HSS3.out.later HZ.out (Nat.le_refl _))
  clear HZ
  go_wp2
  refine bodyPost_ret (v := .tuple #[v1, v2, .int .i64 0]) (by simp [results, Tryd.results17, go_sem]) rfl ?_
  unfold FetOut
  rw [HFE.out, HVS.out, HVM.out]
  exact ⟨v1, v2, rfl, HI4.out, HI2.out, HB.out⟩
end Go.Proofs.YtdhcdgfpkjdihaaDoor.Sg
