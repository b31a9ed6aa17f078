/-
  Layer 3, the reference: Fetch.
-/
import Derived.Test.YtdhcdgfpkjdihaaDoorYR4b
import Derived.Test.YtdhcdgfpkjdihaaDoorYP3r
set_option linter.unusedSimpArgs false
set_option linter.unusedVariables false
namespace Go.Proofs.YtdhcdgfpkjdihaaDoor.Sg
open Go.RowKit Go.Shelf
set_option maxRecDepth 100000 in
set_option maxHeartbeats 4000000 in
theorem rFetch_any (WW HH SS : Int) (ss : List (Int × Int)) (A : Option Addr) (c : Nat) (lo hi cell dir : Int) (w : World) (hs : SpansAt w w.heap.size (.slice A ss.length c) ss) :
 Calls Tryd.prog 18 #[.agg #[.int .i64 (WW), .int .i64 (HH), .int .i64 (SS), .slice A ss.length c], .agg #[.int .i64 lo, .int .i64 hi], .int .i64 cell, .int .i64 dir] w (FetOut ⟨WW, HH, SS, ss⟩ (lo, hi) cell dir w) := by
 by_cases h0 : seaE ⟨WW, HH, SS, ss⟩ (lo, hi) = 0
 rotate_left
 ·
  obtain ⟨E, hE⟩ : ∃ z, seaE ⟨WW, HH, SS, ss⟩ (lo, hi) = z := ⟨_, rfl⟩
  rw [hE] at h0
  have hb1 : (E == 0) = false := beq_eq_false_iff_ne.2 h0
  have EE := Lib.hid (show fetchE ⟨WW, HH, SS, ss⟩ (lo, hi) cell dir = E by unfold fetchE andE; rw [hE]; simp [h0])
  have H0 := Lib.hid hE
  have HN0 := Lib.hid h0
  clear hE
  have HSS3 := Lib.hid hs
  clear hs
  go_enter Tryd.func18, Tryd.ntmps18
  go_upto_region 1 with (fail)
  obtain ⟨Va1, hV⟩ : ∃ V, (w.alloc (.cells #[.int .i64 (WW), .int .i64 (HH), .int .i64 (SS), .slice A ss.length c] 24)).alloc (.cells #[.int .i64 (lo), .int .i64 (hi)] 26) = V := ⟨_, rfl⟩
  have Kb4 : Hid (Blk Va1 (w.heap.size) 24 #[.int .i64 (WW), .int .i64 (HH), .int .i64 (SS), .slice A ss.length c]) := by rw [← hV]; exact (Blk.new' _ _ _ (by simp)).alloc _
  have Kb5 : Hid (Blk Va1 (w.heap.size + 1) 26 #[.int .i64 (lo), .int .i64 (hi)]) := by rw [← hV]; exact Blk.new' _ _ _ (by simp)
  have GHB : Hid (Below w.heap.size w Va1) := by rw [← hV]; exact (by repeat (first | exact Below.refl _ _ | assumption | refine Below.drew ?_ | refine Below.drewN' ?_ _ | (refine Below.alloc ?_ (by simp <;> omega) _) | (refine Below.setCell ?_ (by simp <;> omega) _)))
  have HZ : Hid (Below w.heap.size w Va1) := GHB
  have GHSS3 := Lib.hid (HSS3.out.later HZ.out (Nat.le_refl _))
  rw [hV]
  clear hV HZ HSS3
  have HB := GHB
  clear GHB
  have HSS3 := GHSS3
  clear GHSS3
  obtain ⟨b5, hqb5⟩ : ∃ b, w.heap.size + 1 = b := ⟨_, rfl⟩
  obtain ⟨b4, hqb4⟩ : ∃ b, w.heap.size = b := ⟨_, rfl⟩
  have gb4 : w.heap.size ≤ b4 := by omega
  have gb5 : w.heap.size ≤ b5 := by omega
  have nb5b4 : ¬ b5 = b4 := by omega
  have nb4b5 : ¬ b4 = b5 := by omega
  rw [hqb5] at Kb5 ⊢
  clear hqb5
  have HN : Hid (w.heap.size = b4) := hqb4
  rw [hqb4] at Kb4 ⊢
  clear hqb4
  have Hb4 := Kb4
  clear Kb4
  have Hb5 := Kb5
  clear Kb5
  have cb40 := kcl0 Hb4
  have cb41 := kcl1 Hb4
  have cb42 := kcl2 Hb4
  have cb43 := kcl3 Hb4
  have cb50 := kcl0 Hb5
  have cb51 := kcl1 Hb5
  go_wp2_with fail
  refine (rground_any WW HH SS ss A c lo hi _ HSS3.out).mono ?_
  rintro e Va2 ⟨rfl, hb⟩
  have HZ := Lib.hid hb
  clear hb
  rw [H0.out]
  clear cb40 cb41 cb42 cb43 cb50 cb51
  replace Hb4 := kbl Hb4 HZ
  replace Hb5 := kbl Hb5 HZ
  replace HB := ktr' HB HZ
  replace HSS3 := Lib.hid (HSS3.out.later HZ.out (Nat.le_refl _))
  clear HZ
  go_wp2
  refine bodyPost_ret (v := .tuple #[.slice none 0 0, .slice none 0 0, .int .i64 E]) (by simp [results, Tryd.results18, go_sem]) rfl (fet_err EE.out HN0.out HB.out)
 obtain ⟨hck, hsk⟩ := seaE_zero h0
 obtain ⟨hW, hH, hS, hL0, -⟩ := checkE_zero hck
 simp only at hW hH hS hL0
 by_cases h1 : 0 ≤ cell ∧ cell < ss.length
 rotate_left
 ·
  have EE := Lib.hid (show fetchE ⟨WW, HH, SS, ss⟩ (lo, hi) cell dir = 4 by unfold fetchE andE; rw [h0, if_pos rfl, cellE_neg h1]; rfl)
  have h1' : decide (0 ≤ cell ∧ cell ≤ WW * HH - 1) = false := decide_eq_false (fun h => h1 ⟨h.1, by omega⟩)
  have H0 := Lib.hid h0
  have H1 := Lib.hid h1'
  clear h0 h1 h1' hck hsk
  have HSS3 := Lib.hid hs
  clear hs
  go_enter Tryd.func18, Tryd.ntmps18
  go_upto_region 1 with (fail)
  obtain ⟨Va51, hV⟩ : ∃ V, (w.alloc (.cells #[.int .i64 (WW), .int .i64 (HH), .int .i64 (SS), .slice A ss.length c] 24)).alloc (.cells #[.int .i64 (lo), .int .i64 (hi)] 26) = V := ⟨_, rfl⟩
  have Kb4 : Hid (Blk Va51 (w.heap.size) 24 #[.int .i64 (WW), .int .i64 (HH), .int .i64 (SS), .slice A ss.length c]) := by rw [← hV]; exact (Blk.new' _ _ _ (by simp)).alloc _
  have Kb5 : Hid (Blk Va51 (w.heap.size + 1) 26 #[.int .i64 (lo), .int .i64 (hi)]) := by rw [← hV]; exact Blk.new' _ _ _ (by simp)
  have GHB : Hid (Below w.heap.size w Va51) := by rw [← hV]; exact (by repeat (first | exact Below.refl _ _ | assumption | refine Below.drew ?_ | refine Below.drewN' ?_ _ | (refine Below.alloc ?_ (by simp <;> omega) _) | (refine Below.setCell ?_ (by simp <;> omega) _)))
  have HZ : Hid (Below w.heap.size w Va51) := GHB
  have GHSS3 := Lib.hid (HSS3.out.later HZ.out (Nat.le_refl _))
  rw [hV]
  clear hV HZ HSS3
  have HB := GHB
  clear GHB
  have HSS3 := GHSS3
  clear GHSS3
  obtain ⟨b5, hqb5⟩ : ∃ b, w.heap.size + 1 = b := ⟨_, rfl⟩
  obtain ⟨b4, hqb4⟩ : ∃ b, w.heap.size = b := ⟨_, rfl⟩
  have gb4 : w.heap.size ≤ b4 := by omega
  have gb5 : w.heap.size ≤ b5 := by omega
  have nb5b4 : ¬ b5 = b4 := by omega
  have nb4b5 : ¬ b4 = b5 := by omega
  rw [hqb5] at Kb5 ⊢
  clear hqb5
  have HN : Hid (w.heap.size = b4) := hqb4
  rw [hqb4] at Kb4 ⊢
  clear hqb4
  have Hb4 := Kb4
  clear Kb4
  have Hb5 := Kb5
  clear Kb5
  have cb40 := kcl0 Hb4
  have cb41 := kcl1 Hb4
  have cb42 := kcl2 Hb4
  have cb43 := kcl3 Hb4
  have cb50 := kcl0 Hb5
  have cb51 := kcl1 Hb5
  go_wp2_with fail
  refine (rground_any WW HH SS ss A c lo hi _ HSS3.out).mono ?_
  rintro e Va52 ⟨rfl, hb⟩
  have HZ := Lib.hid hb
  clear hb
  rw [H0.out]
  clear cb40 cb41 cb42 cb43 cb50 cb51
  replace Hb4 := kbl Hb4 HZ
  replace Hb5 := kbl Hb5 HZ
  replace HB := ktr' HB HZ
  replace HSS3 := Lib.hid (HSS3.out.later HZ.out (Nat.le_refl _))
  clear HZ
  have cb40 := kcl0 Hb4
  have cb41 := kcl1 Hb4
  have cb42 := kcl2 Hb4
  have cb43 := kcl3 Hb4
  go_wp2_with fail
  refine (ris_any WW HH SS ss A c cell _ hW hH).mono ?_
  rintro e Va53 ⟨rfl, hb⟩
  have HZ := Lib.hid hb
  clear hb
  rw [H1.out]
  clear cb40 cb41 cb42 cb43
  replace Hb4 := kbl Hb4 HZ
  replace Hb5 := kbl Hb5 HZ
  replace HB := ktr' HB HZ
  replace HSS3 := Lib.hid (HSS3.out.later HZ.out (Nat.le_refl _))
  clear HZ
  go_wp2
  refine bodyPost_ret (v := .tuple #[.slice none 0 0, .slice none 0 0, .int .i64 4]) (by simp [results, Tryd.results18, go_sem]) rfl (fet_err EE.out (by decide) HB.out)
 by_cases h2 : decide (0 ≤ dir ∧ dir ≤ 7) = true
 rotate_left
 ·
  have h2 : decide (0 ≤ dir ∧ dir ≤ 7) = false := by simpa using h2
  have h2' : ¬ (0 ≤ dir ∧ dir ≤ 7) := of_decide_eq_false h2
  have EE := Lib.hid (show fetchE ⟨WW, HH, SS, ss⟩ (lo, hi) cell dir = 3 by unfold fetchE andE; rw [h0, if_pos rfl, cellE_pos h1, if_pos rfl, if_neg h2'])
  have h1' : decide (0 ≤ cell ∧ cell ≤ WW * HH - 1) = true := decide_eq_true ⟨h1.1, by omega⟩
  have H0 := Lib.hid h0
  have H1 := Lib.hid h1'
  have H2 := Lib.hid h2
  clear h0 h1 h1' h2 h2' hck hsk
  have HSS3 := Lib.hid hs
  clear hs
  go_enter Tryd.func18, Tryd.ntmps18
  go_upto_region 1 with (fail)
  obtain ⟨Va101, hV⟩ : ∃ V, (w.alloc (.cells #[.int .i64 (WW), .int .i64 (HH), .int .i64 (SS), .slice A ss.length c] 24)).alloc (.cells #[.int .i64 (lo), .int .i64 (hi)] 26) = V := ⟨_, rfl⟩
  have Kb4 : Hid (Blk Va101 (w.heap.size) 24 #[.int .i64 (WW), .int .i64 (HH), .int .i64 (SS), .slice A ss.length c]) := by rw [← hV]; exact (Blk.new' _ _ _ (by simp)).alloc _
  have Kb5 : Hid (Blk Va101 (w.heap.size + 1) 26 #[.int .i64 (lo), .int .i64 (hi)]) := by rw [← hV]; exact Blk.new' _ _ _ (by simp)
  have GHB : Hid (Below w.heap.size w Va101) := by rw [← hV]; exact (by repeat (first | exact Below.refl _ _ | assumption | refine Below.drew ?_ | refine Below.drewN' ?_ _ | (refine Below.alloc ?_ (by simp <;> omega) _) | (refine Below.setCell ?_ (by simp <;> omega) _)))
  have HZ : Hid (Below w.heap.size w Va101) := GHB
  have GHSS3 := Lib.hid (HSS3.out.later HZ.out (Nat.le_refl _))
  rw [hV]
  clear hV HZ HSS3
  have HB := GHB
  clear GHB
  have HSS3 := GHSS3
  clear GHSS3
  obtain ⟨b5, hqb5⟩ : ∃ b, w.heap.size + 1 = b := ⟨_, rfl⟩
  obtain ⟨b4, hqb4⟩ : ∃ b, w.heap.size = b := ⟨_, rfl⟩
  have gb4 : w.heap.size ≤ b4 := by omega
  have gb5 : w.heap.size ≤ b5 := by omega
  have nb5b4 : ¬ b5 = b4 := by omega
  have nb4b5 : ¬ b4 = b5 := by omega
  rw [hqb5] at Kb5 ⊢
  clear hqb5
  have HN : Hid (w.heap.size = b4) := hqb4
  rw [hqb4] at Kb4 ⊢
  clear hqb4
  have Hb4 := Kb4
  clear Kb4
  have Hb5 := Kb5
  clear Kb5
  have cb40 := kcl0 Hb4
  have cb41 := kcl1 Hb4
  have cb42 := kcl2 Hb4
  have cb43 := kcl3 Hb4
  have cb50 := kcl0 Hb5
  have cb51 := kcl1 Hb5
  go_wp2_with fail
  refine (rground_any WW HH SS ss A c lo hi _ HSS3.out).mono ?_
  rintro e Va102 ⟨rfl, hb⟩
  have HZ := Lib.hid hb
  clear hb
  rw [H0.out]
  clear cb40 cb41 cb42 cb43 cb50 cb51
  replace Hb4 := kbl Hb4 HZ
  replace Hb5 := kbl Hb5 HZ
  replace HB := ktr' HB HZ
  replace HSS3 := Lib.hid (HSS3.out.later HZ.out (Nat.le_refl _))
  clear HZ
  have cb40 := kcl0 Hb4
  have cb41 := kcl1 Hb4
  have cb42 := kcl2 Hb4
  have cb43 := kcl3 Hb4
  go_wp2_with fail
  refine (ris_any WW HH SS ss A c cell _ hW hH).mono ?_
  rintro e Va103 ⟨rfl, hb⟩
  have HZ := Lib.hid hb
  clear hb
  rw [H1.out]
  clear cb40 cb41 cb42 cb43
  replace Hb4 := kbl Hb4 HZ
  replace Hb5 := kbl Hb5 HZ
  replace HB := ktr' HB HZ
  replace HSS3 := Lib.hid (HSS3.out.later HZ.out (Nat.le_refl _))
  clear HZ
  go_wp2_with fail
  refine (rin_of H2.out _).mono ?_
  rintro e Va104 ⟨rfl, hb⟩
  have HZ := Lib.hid hb
  clear hb
  replace Hb4 := kbl Hb4 HZ
  replace Hb5 := kbl Hb5 HZ
  replace HB := ktr' HB HZ
  replace HSS3 := Lib.hid (HSS3.out.later HZ.out (Nat.le_refl _))
  clear HZ
  go_wp2
  refine bodyPost_ret (v := .tuple #[.slice none 0 0, .slice none 0 0, .int .i64 3]) (by simp [results, Tryd.results18, go_sem]) rfl (fet_err EE.out (by decide) HB.out)
 ·
  have h2' : 0 ≤ dir ∧ dir ≤ 7 := of_decide_eq_true h2
  have hFE : fetchE ⟨WW, HH, SS, ss⟩ (lo, hi) cell dir = 0 := by unfold fetchE andE; rw [h0, if_pos rfl, cellE_pos h1, if_pos rfl, if_pos h2']
  have hVS : fetchVS ⟨WW, HH, SS, ss⟩ (lo, hi) cell dir = sureZ ⟨WW, HH, SS, ss⟩ (lo, hi) cell dir.toNat := if_pos hFE
  have hVM : fetchVM ⟨WW, HH, SS, ss⟩ (lo, hi) cell dir = mayZ ⟨WW, HH, SS, ss⟩ (lo, hi) cell dir.toNat := if_pos hFE
  obtain ⟨d, rfl⟩ : ∃ k : Nat, dir = (k : Int) := ⟨dir.toNat, by omega⟩
  rw [Int.toNat_natCast] at hVS hVM
  have hd8 : d < 8 := by omega
  have h1' : decide (0 ≤ cell ∧ cell ≤ WW * HH - 1) = true := decide_eq_true ⟨h1.1, by omega⟩
  have HFE := Lib.hid hFE
  have HVS := Lib.hid hVS
  have HVM := Lib.hid hVM
  have HCK := Lib.hid hck
  have HSK := Lib.hid hsk
  have HC := Lib.hid h1
  have HD8 := Lib.hid hd8
  have H0 := Lib.hid h0
  have H1 := Lib.hid h1'
  have H2 := Lib.hid h2
  clear h0 h1 h1' h2 h2' hFE hVS hVM hck hsk hd8
  have HSS3 := Lib.hid hs
  clear hs
  go_enter Tryd.func18, Tryd.ntmps18
  go_upto_region 1 with (fail)
  obtain ⟨Va151, hV⟩ : ∃ V, (w.alloc (.cells #[.int .i64 (WW), .int .i64 (HH), .int .i64 (SS), .slice A ss.length c] 24)).alloc (.cells #[.int .i64 (lo), .int .i64 (hi)] 26) = V := ⟨_, rfl⟩
  have Kb4 : Hid (Blk Va151 (w.heap.size) 24 #[.int .i64 (WW), .int .i64 (HH), .int .i64 (SS), .slice A ss.length c]) := by rw [← hV]; exact (Blk.new' _ _ _ (by simp)).alloc _
  have Kb5 : Hid (Blk Va151 (w.heap.size + 1) 26 #[.int .i64 (lo), .int .i64 (hi)]) := by rw [← hV]; exact Blk.new' _ _ _ (by simp)
  have GHB : Hid (Below w.heap.size w Va151) := by rw [← hV]; exact (by repeat (first | exact Below.refl _ _ | assumption | refine Below.drew ?_ | refine Below.drewN' ?_ _ | (refine Below.alloc ?_ (by simp <;> omega) _) | (refine Below.setCell ?_ (by simp <;> omega) _)))
  have HZ : Hid (Below w.heap.size w Va151) := GHB
  have GHSS3 := Lib.hid (HSS3.out.later HZ.out (Nat.le_refl _))
  rw [hV]
  clear hV HZ HSS3
  have HB := GHB
  clear GHB
  have HSS3 := GHSS3
  clear GHSS3
  obtain ⟨b5, hqb5⟩ : ∃ b, w.heap.size + 1 = b := ⟨_, rfl⟩
  obtain ⟨b4, hqb4⟩ : ∃ b, w.heap.size = b := ⟨_, rfl⟩
  have gb4 : w.heap.size ≤ b4 := by omega
  have gb5 : w.heap.size ≤ b5 := by omega
  have nb5b4 : ¬ b5 = b4 := by omega
  have nb4b5 : ¬ b4 = b5 := by omega
  rw [hqb5] at Kb5 ⊢
  clear hqb5
  have HN : Hid (w.heap.size = b4) := hqb4
  rw [hqb4] at Kb4 ⊢
  clear hqb4
  have Hb4 := Kb4
  clear Kb4
  have Hb5 := Kb5
  clear Kb5
  have cb40 := kcl0 Hb4
  have cb41 := kcl1 Hb4
  have cb42 := kcl2 Hb4
  have cb43 := kcl3 Hb4
  have cb50 := kcl0 Hb5
  have cb51 := kcl1 Hb5
  go_wp2_with fail
  refine (rground_any WW HH SS ss A c lo hi _ HSS3.out).mono ?_
  rintro e Va152 ⟨rfl, hb⟩
  have HZ := Lib.hid hb
  clear hb
  rw [H0.out]
  clear cb40 cb41 cb42 cb43 cb50 cb51
  replace Hb4 := kbl Hb4 HZ
  replace Hb5 := kbl Hb5 HZ
  replace HB := ktr' HB HZ
  replace HSS3 := Lib.hid (HSS3.out.later HZ.out (Nat.le_refl _))
  clear HZ
  have cb40 := kcl0 Hb4
  have cb41 := kcl1 Hb4
  have cb42 := kcl2 Hb4
  have cb43 := kcl3 Hb4
  go_wp2_with fail
  refine (ris_any WW HH SS ss A c cell _ hW hH).mono ?_
  rintro e Va153 ⟨rfl, hb⟩
  have HZ := Lib.hid hb
  clear hb
  rw [H1.out]
  clear cb40 cb41 cb42 cb43
  replace Hb4 := kbl Hb4 HZ
  replace Hb5 := kbl Hb5 HZ
  replace HB := ktr' HB HZ
  replace HSS3 := Lib.hid (HSS3.out.later HZ.out (Nat.le_refl _))
  clear HZ
  go_wp2_with fail
  refine (rin_of H2.out _).mono ?_
  rintro e Va154 ⟨rfl, hb⟩
  have HZ := Lib.hid hb
  clear hb
  replace Hb4 := kbl Hb4 HZ
  replace Hb5 := kbl Hb5 HZ
  replace HB := ktr' HB HZ
  replace HSS3 := Lib.hid (HSS3.out.later HZ.out (Nat.le_refl _))
  clear HZ
  have cb40 := kcl0 Hb4
  have cb41 := kcl1 Hb4
  have cb42 := kcl2 Hb4
  have cb43 := kcl3 Hb4
  have cb50 := kcl0 Hb5
  have cb51 := kcl1 Hb5
  go_wp2_with fail
  refine (rfetch_any WW HH SS ss A c lo hi cell d _ HD8.out HCK.out HSK.out HC.out HSS3.out).mono ?_
  rintro e Va155 ⟨u, v, rfl, hu, hv, hb⟩
  have HZ := Lib.hid hb
  clear hb
  have HU := Lib.hid hu
  have HV := Lib.hid hv
  clear hu hv
  clear cb40 cb41 cb42 cb43 cb50 cb51
  replace Hb4 := kbl Hb4 HZ
  replace Hb5 := kbl Hb5 HZ
  replace HB := ktr' HB HZ
  replace HSS3 := Lib.hid (HSS3.out.later HZ.out (Nat.le_refl _))
  clear HZ
  go_wp2
  refine bodyPost_ret (v := .tuple #[u, v, .int .i64 0]) (by simp [results, Tryd.results18, go_sem]) rfl ?_
  unfold FetOut
  rw [HFE.out, HVS.out, HVM.out]
  exact ⟨u, v, rfl, HU.out, HV.out, HB.out⟩
end Go.Proofs.YtdhcdgfpkjdihaaDoor.Sg
