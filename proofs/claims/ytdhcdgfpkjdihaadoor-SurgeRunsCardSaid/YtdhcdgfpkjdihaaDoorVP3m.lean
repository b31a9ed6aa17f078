/-
  Layer 3, the program: Setup and Steady.
-/
import Derived.Test.YtdhcdgfpkjdihaaDoorVP3l
import Derived.Test.YtdhcdgfpkjdihaaDoorVP3g
set_option linter.unusedSimpArgs false
set_option linter.unusedVariables false
namespace Go.Proofs.YtdhcdgfpkjdihaaDoor.Sg
open Go.RowKit Go.Shelf
def spV (s : Int × Int) : Value := .agg #[.int .i64 s.1, .int .i64 s.2]
theorem isDir_of {d : Int} {v : Bool} (h : decide (0 ≤ d ∧ d ≤ 7) = v) (w : World) :
 Calls Tryd.prog 57 #[.int .i64 d] w fun e w' => e = .returned (.bool v) ∧ Below w.heap.size w w' := by
 subst h
 exact (isDir_any d w).mono fun e w' ⟨h1, h2⟩ => ⟨h1, by rw [← h2]; exact Below.refl _ _⟩
def setupE (g : G) (sea : Int × Int) (m : Mo) (cell dir : Int) (s : Int × Int) : Int := andE (placeE g sea m cell) (if (0 ≤ dir ∧ dir ≤ 7) ∧ spOk 0 10000 s = true then 0 else 3)
def setupV (g : G) (sea : Int × Int) (m : Mo) (cell dir : Int) (s : Int × Int) : Int × Int := if setupE g sea m cell dir s = 0 then setupZ g sea m cell dir.toNat s else (0, 0)
def steadyE (g : G) (sea : Int × Int) (m : Mo) (cell : Int) (w : Wi) : Int := andE (placeE g sea m cell) (wiE w)
def steadyV (g : G) (sea : Int × Int) (m : Mo) (cell : Int) (w : Wi) : Int × Int := if steadyE g sea m cell w = 0 then steadyZ g sea m cell w else (0, 0)
set_option maxRecDepth 100000 in
set_option maxHeartbeats 2000000 in
theorem Setup_any (WW HH SS : Int) (ss : List (Int × Int)) (A : Option Addr) (c : Nat) (lo hi d1 d2 l1 l2 cell : Int) (dir s1 s2 : Int) (w : World) (HD : DirsAt w) (hs : SpansAt w w.heap.size (.slice A ss.length c) ss) :
 Calls Tryd.prog 25 #[.agg #[.int .i64 (WW), .int .i64 (HH), .int .i64 (SS), .slice A ss.length c], .agg #[.int .i64 lo, .int .i64 hi], .agg #[.int .i64 (d1), .int .i64 (d2), .int .i64 (l1), .int .i64 (l2)], .int .i64 cell, .int .i64 dir, .agg #[.int .i64 s1, .int .i64 s2]] w fun e w' => e = .returned (.tuple #[spV (setupV ⟨WW, HH, SS, ss⟩ (lo, hi) ⟨(d1, d2), (l1, l2)⟩ cell dir (s1, s2)), .int .i64 (setupE ⟨WW, HH, SS, ss⟩ (lo, hi) ⟨(d1, d2), (l1, l2)⟩ cell dir (s1, s2))]) ∧ Below w.heap.size w w' := by
 by_cases h0 : placeE ⟨WW, HH, SS, ss⟩ (lo, hi) ⟨(d1, d2), (l1, l2)⟩ cell = 0
 ·
  by_cases h1 : decide (0 ≤ dir ∧ dir ≤ 7) = true
  ·
   by_cases h2 : spOk 0 10000 (s1, s2) = true
   ·
    have EE := Lib.hid (show setupE ⟨WW, HH, SS, ss⟩ (lo, hi) ⟨(d1, d2), (l1, l2)⟩ cell dir (s1, s2) = 0 by unfold setupE andE; (try simp only [decide_eq_true_iff, decide_eq_false_iff_not] at *); simp [*]; try omega)
    have EV := Lib.hid (show setupV ⟨WW, HH, SS, ss⟩ (lo, hi) ⟨(d1, d2), (l1, l2)⟩ cell dir (s1, s2) = setupZ ⟨WW, HH, SS, ss⟩ (lo, hi) ⟨(d1, d2), (l1, l2)⟩ cell dir.toNat (s1, s2) by unfold setupV; rw [EE.out, if_pos rfl])
    have H0 := Lib.hid h0
    clear h0
    have H1 := Lib.hid h1
    clear h1
    have H2 := Lib.hid h2
    clear h2
    have HDR := Lib.hid HD
    have HSS3 := Lib.hid hs
    clear HD hs
    obtain ⟨⟨hE, hse⟩, hm, hc0, hc1⟩ := placeE_zero H0.out
    have hdr := of_decide_eq_true H1.out
    simp only at hc1
    obtain ⟨cn, hcn0⟩ : ∃ n : Nat, cell = (n : Int) := ⟨cell.toNat, by omega⟩
    obtain ⟨dn, hdn0⟩ : ∃ n : Nat, dir = (n : Int) := ⟨dir.toNat, by omega⟩
    have HC0 := Lib.hid hcn0
    have HD0 := Lib.hid hdn0
    have hcn : cn < ss.length := by omega
    have hdn : dn < 8 := by omega
    have HEG := Lib.hid hE
    have HSE := Lib.hid hse
    have HM := Lib.hid hm
    have hdt : dir.toNat = dn := by omega
    have EV2 := EV.out
    rw [hdt, hcn0] at EV2
    obtain ⟨⟨A1, A2⟩, hA⟩ : ∃ z, setupZ ⟨WW, HH, SS, ss⟩ (lo, hi) ⟨(d1, d2), (l1, l2)⟩ ((cn : Nat) : Int) dn (s1, s2) = z := ⟨_, rfl⟩
    rw [hA] at EV2
    have HA := Lib.hid hA
    clear EV
    have EV := Lib.hid EV2
    have hfd := fieldB0
    clear EV2 hA hE hse hm hc0 hc1 hdr hdt hcn0 hdn0
    go_enter Tryd.func25, Tryd.ntmps25
    go_upto_region 1 with (fail)
    obtain ⟨Va1, hV⟩ : ∃ V, ((((w.alloc (.cells #[.int .i64 (WW), .int .i64 (HH), .int .i64 (SS), .slice A ss.length c] 24)).alloc (.cells #[.int .i64 (lo), .int .i64 (hi)] 26)).alloc (.cells #[.int .i64 (d1), .int .i64 (d2), .int .i64 (l1), .int .i64 (l2)] 28)).alloc (.cells #[.int .i64 (s1), .int .i64 (s2)] 26)).alloc (.cells #[.int .i64 (0), .int .i64 (0)] 26) = V := ⟨_, rfl⟩
    have Kb6 : Hid (Blk Va1 (w.heap.size) 24 #[.int .i64 (WW), .int .i64 (HH), .int .i64 (SS), .slice A ss.length c]) := by rw [← hV]; exact ((((Blk.new' _ _ _ (by simp)).alloc _).alloc _).alloc _).alloc _
    have Kb7 : Hid (Blk Va1 (w.heap.size + 1) 26 #[.int .i64 (lo), .int .i64 (hi)]) := by rw [← hV]; exact (((Blk.new' _ _ _ (by simp)).alloc _).alloc _).alloc _
    have Kb8 : Hid (Blk Va1 (w.heap.size + 1 + 1) 28 #[.int .i64 (d1), .int .i64 (d2), .int .i64 (l1), .int .i64 (l2)]) := by rw [← hV]; exact ((Blk.new' _ _ _ (by simp)).alloc _).alloc _
    have Kb11 : Hid (Blk Va1 (w.heap.size + 1 + 1 + 1) 26 #[.int .i64 (s1), .int .i64 (s2)]) := by rw [← hV]; exact (Blk.new' _ _ _ (by simp)).alloc _
    have Kb12 : Hid (Blk Va1 (w.heap.size + 1 + 1 + 1 + 1) 26 #[.int .i64 (0), .int .i64 (0)]) := by rw [← hV]; exact Blk.new' _ _ _ (by simp)
    have GHB : Hid (Below w.heap.size w Va1) := by rw [← hV]; exact (by repeat (first | exact Below.refl _ _ | assumption | refine Below.drew ?_ | refine Below.drewN' ?_ _ | (refine Below.alloc ?_ (by simp <;> omega) _) | (refine Below.setCell ?_ (by simp <;> omega) _)))
    have HZ : Hid (Below w.heap.size w Va1) := GHB
    have GHDR := Lib.hid (HDR.out.later HZ.out)
    have GHSS3 := Lib.hid (HSS3.out.later HZ.out (Nat.le_refl _))
    rw [hV]
    clear hV HZ HDR HSS3
    have HB := GHB
    clear GHB
    have HDR := GHDR
    clear GHDR
    have HSS3 := GHSS3
    clear GHSS3
    obtain ⟨b12, hqb12⟩ : ∃ b, w.heap.size + 1 + 1 + 1 + 1 = b := ⟨_, rfl⟩
    obtain ⟨b11, hqb11⟩ : ∃ b, w.heap.size + 1 + 1 + 1 = b := ⟨_, rfl⟩
    obtain ⟨b8, hqb8⟩ : ∃ b, w.heap.size + 1 + 1 = b := ⟨_, rfl⟩
    obtain ⟨b7, hqb7⟩ : ∃ b, w.heap.size + 1 = b := ⟨_, rfl⟩
    obtain ⟨b6, hqb6⟩ : ∃ b, w.heap.size = b := ⟨_, rfl⟩
    have gb6 : w.heap.size ≤ b6 := by omega
    have gb7 : w.heap.size ≤ b7 := by omega
    have nb7b6 : ¬ b7 = b6 := by omega
    have nb6b7 : ¬ b6 = b7 := by omega
    have gb8 : w.heap.size ≤ b8 := by omega
    have nb8b6 : ¬ b8 = b6 := by omega
    have nb6b8 : ¬ b6 = b8 := by omega
    have nb8b7 : ¬ b8 = b7 := by omega
    have nb7b8 : ¬ b7 = b8 := by omega
    have gb11 : w.heap.size ≤ b11 := by omega
    have nb11b6 : ¬ b11 = b6 := by omega
    have nb6b11 : ¬ b6 = b11 := by omega
    have nb11b7 : ¬ b11 = b7 := by omega
    have nb7b11 : ¬ b7 = b11 := by omega
    have nb11b8 : ¬ b11 = b8 := by omega
    have nb8b11 : ¬ b8 = b11 := by omega
    have gb12 : w.heap.size ≤ b12 := by omega
    have nb12b6 : ¬ b12 = b6 := by omega
    have nb6b12 : ¬ b6 = b12 := by omega
    have nb12b7 : ¬ b12 = b7 := by omega
    have nb7b12 : ¬ b7 = b12 := by omega
    have nb12b8 : ¬ b12 = b8 := by omega
    have nb8b12 : ¬ b8 = b12 := by omega
    have nb12b11 : ¬ b12 = b11 := by omega
    have nb11b12 : ¬ b11 = b12 := by omega
    rw [hqb12] at Kb12 ⊢
    clear hqb12
    rw [hqb11] at Kb11 ⊢
    clear hqb11
    rw [hqb8] at Kb8 ⊢
    clear hqb8
    rw [hqb7] at Kb7 ⊢
    clear hqb7
    have HN : Hid (w.heap.size = b6) := hqb6
    rw [hqb6] at Kb6 ⊢
    clear hqb6
    have Hb6 := Kb6
    clear Kb6
    have Hb7 := Kb7
    clear Kb7
    have Hb8 := Kb8
    clear Kb8
    have Hb11 := Kb11
    clear Kb11
    have Hb12 := Kb12
    clear Kb12
    have cb60 := kcl0 Hb6
    have cb61 := kcl1 Hb6
    have cb62 := kcl2 Hb6
    have cb63 := kcl3 Hb6
    have cb70 := kcl0 Hb7
    have cb71 := kcl1 Hb7
    have cb80 := kcl0 Hb8
    have cb81 := kcl1 Hb8
    have cb82 := kcl2 Hb8
    have cb83 := kcl3 Hb8
    go_wp2_with fail
    refine (checkPlace_any WW HH SS ss A c lo hi d1 d2 l1 l2 cell _ HSS3.out).mono ?_
    rintro e Va2 ⟨rfl, hb⟩
    have HZ := Lib.hid hb
    clear hb
    rw [H0.out]
    clear cb60 cb61 cb62 cb63 cb70 cb71 cb80 cb81 cb82 cb83
    replace Hb6 := kbl Hb6 HZ
    replace Hb7 := kbl Hb7 HZ
    replace Hb8 := kbl Hb8 HZ
    replace Hb11 := kbl Hb11 HZ
    replace Hb12 := kbl Hb12 HZ
    replace HB := ktr' HB HZ
    replace HDR := Lib.hid (HDR.out.later HZ.out)
    replace HSS3 := Lib.hid (HSS3.out.later HZ.out (Nat.le_refl _))
    clear HZ
    go_wp2_with fail
    refine (isDir_of H1.out _).mono ?_
    rintro e Va3 ⟨rfl, hb⟩
    have HZ := Lib.hid hb
    clear hb
    replace Hb6 := kbl Hb6 HZ
    replace Hb7 := kbl Hb7 HZ
    replace Hb8 := kbl Hb8 HZ
    replace Hb11 := kbl Hb11 HZ
    replace Hb12 := kbl Hb12 HZ
    replace HB := ktr' HB HZ
    replace HDR := Lib.hid (HDR.out.later HZ.out)
    replace HSS3 := Lib.hid (HSS3.out.later HZ.out (Nat.le_refl _))
    clear HZ
    have cb110 := kcl0 Hb11
    have cb111 := kcl1 Hb11
    go_wp2_with fail
    refine (isSpeed_of H2.out _).mono ?_
    rintro e Va4 ⟨rfl, hb⟩
    have HZ := Lib.hid hb
    clear hb
    clear cb110 cb111
    replace Hb6 := kbl Hb6 HZ
    replace Hb7 := kbl Hb7 HZ
    replace Hb8 := kbl Hb8 HZ
    replace Hb11 := kbl Hb11 HZ
    replace Hb12 := kbl Hb12 HZ
    replace HB := ktr' HB HZ
    replace HDR := Lib.hid (HDR.out.later HZ.out)
    replace HSS3 := Lib.hid (HSS3.out.later HZ.out (Nat.le_refl _))
    clear HZ
    have hc9 := HC0.out
    have hd9 := HD0.out
    clear HC0 HD0
    subst hc9 hd9
    have cb60 := kcl0 Hb6
    have cb61 := kcl1 Hb6
    have cb62 := kcl2 Hb6
    have cb63 := kcl3 Hb6
    have cb70 := kcl0 Hb7
    have cb71 := kcl1 Hb7
    have cb80 := kcl0 Hb8
    have cb81 := kcl1 Hb8
    have cb82 := kcl2 Hb8
    have cb83 := kcl3 Hb8
    have cb110 := kcl0 Hb11
    have cb111 := kcl1 Hb11
    go_wp2_with fail
    refine (setup_any WW HH SS ss A c lo hi d1 d2 l1 l2 cn dn s1 s2 _ HDR.out HSS3.out HEG.out HSE.out HM.out H2.out hdn hcn).mono ?_
    rintro e Va5 ⟨rfl, hb⟩
    have HZ := Lib.hid hb
    clear hb
    rw [HA.out]
    clear cb60 cb61 cb62 cb63 cb70 cb71 cb80 cb81 cb82 cb83 cb110 cb111
    replace Hb6 := kbl Hb6 HZ
    replace Hb7 := kbl Hb7 HZ
    replace Hb8 := kbl Hb8 HZ
    replace Hb11 := kbl Hb11 HZ
    replace Hb12 := kbl Hb12 HZ
    replace HB := ktr' HB HZ
    replace HDR := Lib.hid (HDR.out.later HZ.out)
    replace HSS3 := Lib.hid (HSS3.out.later HZ.out (Nat.le_refl _))
    clear HZ
    have cb120 := kcl0 Hb12
    have cb121 := kcl1 Hb12
    have zb120 : Va5.frozen? ⟨b12, 0, none⟩ = false := Hb12.out.frozen 0
    have zb121 : Va5.frozen? ⟨b12, 1, none⟩ = false := Hb12.out.frozen 1
    go_wp2
    have MZ := ((Hb12.out.set_ 0 (.int .i64 (A1))).set_ 1 (.int .i64 (A2)))
    have rz0 := MZ.cell 0
    have rz1 := MZ.cell 1
    simp only [List.setIfInBounds_toArray, List.set_cons_zero, List.set_cons_succ, List.getElem?_toArray, List.getElem?_cons_zero, List.getElem?_cons_succ] at rz0 rz1
    refine bodyPost_ret (v := .tuple #[.agg #[.int .i64 (A1), .int .i64 (A2)], .int .i64 0]) (by simp [results, Tryd.results25, go_sem, rz0, rz1]) rfl ⟨by rw [EV.out, EE.out]; rfl, ?_⟩
    exact ((HB.out.setCell (p := ⟨b12, 0, none⟩) gb12 _).setCell (p := ⟨b12, 1, none⟩) gb12 _)
   ·
    have h2 : spOk 0 10000 (s1, s2) = false := by simpa using h2
    have EE := Lib.hid (show setupE ⟨WW, HH, SS, ss⟩ (lo, hi) ⟨(d1, d2), (l1, l2)⟩ cell dir (s1, s2) = 3 by unfold setupE andE; (try simp only [decide_eq_true_iff, decide_eq_false_iff_not] at *); simp [*]; try omega)
    have EV := Lib.hid (show setupV ⟨WW, HH, SS, ss⟩ (lo, hi) ⟨(d1, d2), (l1, l2)⟩ cell dir (s1, s2) = (0, 0) by unfold setupV; rw [EE.out]; rfl)
    have H0 := Lib.hid h0
    clear h0
    have H1 := Lib.hid h1
    clear h1
    have H2 := Lib.hid h2
    clear h2
    have HDR := Lib.hid HD
    have HSS3 := Lib.hid hs
    clear HD hs
    go_enter Tryd.func25, Tryd.ntmps25
    go_upto_region 1 with (fail)
    obtain ⟨Va1, hV⟩ : ∃ V, ((((w.alloc (.cells #[.int .i64 (WW), .int .i64 (HH), .int .i64 (SS), .slice A ss.length c] 24)).alloc (.cells #[.int .i64 (lo), .int .i64 (hi)] 26)).alloc (.cells #[.int .i64 (d1), .int .i64 (d2), .int .i64 (l1), .int .i64 (l2)] 28)).alloc (.cells #[.int .i64 (s1), .int .i64 (s2)] 26)).alloc (.cells #[.int .i64 (0), .int .i64 (0)] 26) = V := ⟨_, rfl⟩
    have Kb6 : Hid (Blk Va1 (w.heap.size) 24 #[.int .i64 (WW), .int .i64 (HH), .int .i64 (SS), .slice A ss.length c]) := by rw [← hV]; exact ((((Blk.new' _ _ _ (by simp)).alloc _).alloc _).alloc _).alloc _
    have Kb7 : Hid (Blk Va1 (w.heap.size + 1) 26 #[.int .i64 (lo), .int .i64 (hi)]) := by rw [← hV]; exact (((Blk.new' _ _ _ (by simp)).alloc _).alloc _).alloc _
    have Kb8 : Hid (Blk Va1 (w.heap.size + 1 + 1) 28 #[.int .i64 (d1), .int .i64 (d2), .int .i64 (l1), .int .i64 (l2)]) := by rw [← hV]; exact ((Blk.new' _ _ _ (by simp)).alloc _).alloc _
    have Kb11 : Hid (Blk Va1 (w.heap.size + 1 + 1 + 1) 26 #[.int .i64 (s1), .int .i64 (s2)]) := by rw [← hV]; exact (Blk.new' _ _ _ (by simp)).alloc _
    have Kb12 : Hid (Blk Va1 (w.heap.size + 1 + 1 + 1 + 1) 26 #[.int .i64 (0), .int .i64 (0)]) := by rw [← hV]; exact Blk.new' _ _ _ (by simp)
    have GHB : Hid (Below w.heap.size w Va1) := by rw [← hV]; exact (by repeat (first | exact Below.refl _ _ | assumption | refine Below.drew ?_ | refine Below.drewN' ?_ _ | (refine Below.alloc ?_ (by simp <;> omega) _) | (refine Below.setCell ?_ (by simp <;> omega) _)))
    have HZ : Hid (Below w.heap.size w Va1) := GHB
    have GHDR := Lib.hid (HDR.out.later HZ.out)
    have GHSS3 := Lib.hid (HSS3.out.later HZ.out (Nat.le_refl _))
    rw [hV]
    clear hV HZ HDR HSS3
    have HB := GHB
    clear GHB
    have HDR := GHDR
    clear GHDR
    have HSS3 := GHSS3
    clear GHSS3
    obtain ⟨b12, hqb12⟩ : ∃ b, w.heap.size + 1 + 1 + 1 + 1 = b := ⟨_, rfl⟩
    obtain ⟨b11, hqb11⟩ : ∃ b, w.heap.size + 1 + 1 + 1 = b := ⟨_, rfl⟩
    obtain ⟨b8, hqb8⟩ : ∃ b, w.heap.size + 1 + 1 = b := ⟨_, rfl⟩
    obtain ⟨b7, hqb7⟩ : ∃ b, w.heap.size + 1 = b := ⟨_, rfl⟩
    obtain ⟨b6, hqb6⟩ : ∃ b, w.heap.size = b := ⟨_, rfl⟩
    have gb6 : w.heap.size ≤ b6 := by omega
    have gb7 : w.heap.size ≤ b7 := by omega
    have nb7b6 : ¬ b7 = b6 := by omega
    have nb6b7 : ¬ b6 = b7 := by omega
    have gb8 : w.heap.size ≤ b8 := by omega
    have nb8b6 : ¬ b8 = b6 := by omega
    have nb6b8 : ¬ b6 = b8 := by omega
    have nb8b7 : ¬ b8 = b7 := by omega
    have nb7b8 : ¬ b7 = b8 := by omega
    have gb11 : w.heap.size ≤ b11 := by omega
    have nb11b6 : ¬ b11 = b6 := by omega
    have nb6b11 : ¬ b6 = b11 := by omega
    have nb11b7 : ¬ b11 = b7 := by omega
    have nb7b11 : ¬ b7 = b11 := by omega
    have nb11b8 : ¬ b11 = b8 := by omega
    have nb8b11 : ¬ b8 = b11 := by omega
    have gb12 : w.heap.size ≤ b12 := by omega
    have nb12b6 : ¬ b12 = b6 := by omega
    have nb6b12 : ¬ b6 = b12 := by omega
    have nb12b7 : ¬ b12 = b7 := by omega
    have nb7b12 : ¬ b7 = b12 := by omega
    have nb12b8 : ¬ b12 = b8 := by omega
    have nb8b12 : ¬ b8 = b12 := by omega
    have nb12b11 : ¬ b12 = b11 := by omega
    have nb11b12 : ¬ b11 = b12 := by omega
    rw [hqb12] at Kb12 ⊢
    clear hqb12
    rw [hqb11] at Kb11 ⊢
    clear hqb11
    rw [hqb8] at Kb8 ⊢
    clear hqb8
    rw [hqb7] at Kb7 ⊢
    clear hqb7
    have HN : Hid (w.heap.size = b6) := hqb6
    rw [hqb6] at Kb6 ⊢
    clear hqb6
    have Hb6 := Kb6
    clear Kb6
    have Hb7 := Kb7
    clear Kb7
    have Hb8 := Kb8
    clear Kb8
    have Hb11 := Kb11
    clear Kb11
    have Hb12 := Kb12
    clear Kb12
    have cb60 := kcl0 Hb6
    have cb61 := kcl1 Hb6
    have cb62 := kcl2 Hb6
    have cb63 := kcl3 Hb6
    have cb70 := kcl0 Hb7
    have cb71 := kcl1 Hb7
    have cb80 := kcl0 Hb8
    have cb81 := kcl1 Hb8
    have cb82 := kcl2 Hb8
    have cb83 := kcl3 Hb8
    go_wp2_with fail
    refine (checkPlace_any WW HH SS ss A c lo hi d1 d2 l1 l2 cell _ HSS3.out).mono ?_
    rintro e Va2 ⟨rfl, hb⟩
    have HZ := Lib.hid hb
    clear hb
    rw [H0.out]
    clear cb60 cb61 cb62 cb63 cb70 cb71 cb80 cb81 cb82 cb83
    replace Hb6 := kbl Hb6 HZ
    replace Hb7 := kbl Hb7 HZ
    replace Hb8 := kbl Hb8 HZ
    replace Hb11 := kbl Hb11 HZ
    replace Hb12 := kbl Hb12 HZ
    replace HB := ktr' HB HZ
    replace HDR := Lib.hid (HDR.out.later HZ.out)
    replace HSS3 := Lib.hid (HSS3.out.later HZ.out (Nat.le_refl _))
    clear HZ
    go_wp2_with fail
    refine (isDir_of H1.out _).mono ?_
    rintro e Va3 ⟨rfl, hb⟩
    have HZ := Lib.hid hb
    clear hb
    replace Hb6 := kbl Hb6 HZ
    replace Hb7 := kbl Hb7 HZ
    replace Hb8 := kbl Hb8 HZ
    replace Hb11 := kbl Hb11 HZ
    replace Hb12 := kbl Hb12 HZ
    replace HB := ktr' HB HZ
    replace HDR := Lib.hid (HDR.out.later HZ.out)
    replace HSS3 := Lib.hid (HSS3.out.later HZ.out (Nat.le_refl _))
    clear HZ
    have cb110 := kcl0 Hb11
    have cb111 := kcl1 Hb11
    go_wp2_with fail
    refine (isSpeed_of H2.out _).mono ?_
    rintro e Va4 ⟨rfl, hb⟩
    have HZ := Lib.hid hb
    clear hb
    clear cb110 cb111
    replace Hb6 := kbl Hb6 HZ
    replace Hb7 := kbl Hb7 HZ
    replace Hb8 := kbl Hb8 HZ
    replace Hb11 := kbl Hb11 HZ
    replace Hb12 := kbl Hb12 HZ
    replace HB := ktr' HB HZ
    replace HDR := Lib.hid (HDR.out.later HZ.out)
    replace HSS3 := Lib.hid (HSS3.out.later HZ.out (Nat.le_refl _))
    clear HZ
    have cb120 := kcl0 Hb12
    have cb121 := kcl1 Hb12
    have zb120 : Va4.frozen? ⟨b12, 0, none⟩ = false := Hb12.out.frozen 0
    have zb121 : Va4.frozen? ⟨b12, 1, none⟩ = false := Hb12.out.frozen 1
    go_wp2
    have MZ := ((Hb12.out.set_ 0 (.int .i64 (0))).set_ 1 (.int .i64 (0)))
    have rz0 := MZ.cell 0
    have rz1 := MZ.cell 1
    simp only [List.setIfInBounds_toArray, List.set_cons_zero, List.set_cons_succ, List.getElem?_toArray, List.getElem?_cons_zero, List.getElem?_cons_succ] at rz0 rz1
    refine bodyPost_ret (v := .tuple #[.agg #[.int .i64 (0), .int .i64 (0)], .int .i64 3]) (by simp [results, Tryd.results25, go_sem, rz0, rz1]) rfl ⟨by rw [EV.out, EE.out]; rfl, ?_⟩
    exact ((HB.out.setCell (p := ⟨b12, 0, none⟩) gb12 _).setCell (p := ⟨b12, 1, none⟩) gb12 _)
  ·
   have h1 : decide (0 ≤ dir ∧ dir ≤ 7) = false := by simpa using h1
   have EE := Lib.hid (show setupE ⟨WW, HH, SS, ss⟩ (lo, hi) ⟨(d1, d2), (l1, l2)⟩ cell dir (s1, s2) = 3 by unfold setupE andE; (try simp only [decide_eq_true_iff, decide_eq_false_iff_not] at *); simp [*]; try omega)
   have EV := Lib.hid (show setupV ⟨WW, HH, SS, ss⟩ (lo, hi) ⟨(d1, d2), (l1, l2)⟩ cell dir (s1, s2) = (0, 0) by unfold setupV; rw [EE.out]; rfl)
   have H0 := Lib.hid h0
   clear h0
   have H1 := Lib.hid h1
   clear h1
   have HDR := Lib.hid HD
   have HSS3 := Lib.hid hs
   clear HD hs
   go_enter Tryd.func25, Tryd.ntmps25
   go_upto_region 1 with (fail)
   obtain ⟨Va1, hV⟩ : ∃ V, ((((w.alloc (.cells #[.int .i64 (WW), .int .i64 (HH), .int .i64 (SS), .slice A ss.length c] 24)).alloc (.cells #[.int .i64 (lo), .int .i64 (hi)] 26)).alloc (.cells #[.int .i64 (d1), .int .i64 (d2), .int .i64 (l1), .int .i64 (l2)] 28)).alloc (.cells #[.int .i64 (s1), .int .i64 (s2)] 26)).alloc (.cells #[.int .i64 (0), .int .i64 (0)] 26) = V := ⟨_, rfl⟩
   have Kb6 : Hid (Blk Va1 (w.heap.size) 24 #[.int .i64 (WW), .int .i64 (HH), .int .i64 (SS), .slice A ss.length c]) := by rw [← hV]; exact ((((Blk.new' _ _ _ (by simp)).alloc _).alloc _).alloc _).alloc _
   have Kb7 : Hid (Blk Va1 (w.heap.size + 1) 26 #[.int .i64 (lo), .int .i64 (hi)]) := by rw [← hV]; exact (((Blk.new' _ _ _ (by simp)).alloc _).alloc _).alloc _
   have Kb8 : Hid (Blk Va1 (w.heap.size + 1 + 1) 28 #[.int .i64 (d1), .int .i64 (d2), .int .i64 (l1), .int .i64 (l2)]) := by rw [← hV]; exact ((Blk.new' _ _ _ (by simp)).alloc _).alloc _
   have Kb11 : Hid (Blk Va1 (w.heap.size + 1 + 1 + 1) 26 #[.int .i64 (s1), .int .i64 (s2)]) := by rw [← hV]; exact (Blk.new' _ _ _ (by simp)).alloc _
   have Kb12 : Hid (Blk Va1 (w.heap.size + 1 + 1 + 1 + 1) 26 #[.int .i64 (0), .int .i64 (0)]) := by rw [← hV]; exact Blk.new' _ _ _ (by simp)
   have GHB : Hid (Below w.heap.size w Va1) := by rw [← hV]; exact (by repeat (first | exact Below.refl _ _ | assumption | refine Below.drew ?_ | refine Below.drewN' ?_ _ | (refine Below.alloc ?_ (by simp <;> omega) _) | (refine Below.setCell ?_ (by simp <;> omega) _)))
   have HZ : Hid (Below w.heap.size w Va1) := GHB
   have GHDR := Lib.hid (HDR.out.later HZ.out)
   have GHSS3 := Lib.hid (HSS3.out.later HZ.out (Nat.le_refl _))
   rw [hV]
   clear hV HZ HDR HSS3
   have HB := GHB
   clear GHB
   have HDR := GHDR
   clear GHDR
   have HSS3 := GHSS3
   clear GHSS3
   obtain ⟨b12, hqb12⟩ : ∃ b, w.heap.size + 1 + 1 + 1 + 1 = b := ⟨_, rfl⟩
   obtain ⟨b11, hqb11⟩ : ∃ b, w.heap.size + 1 + 1 + 1 = b := ⟨_, rfl⟩
   obtain ⟨b8, hqb8⟩ : ∃ b, w.heap.size + 1 + 1 = b := ⟨_, rfl⟩
   obtain ⟨b7, hqb7⟩ : ∃ b, w.heap.size + 1 = b := ⟨_, rfl⟩
   obtain ⟨b6, hqb6⟩ : ∃ b, w.heap.size = b := ⟨_, rfl⟩
   have gb6 : w.heap.size ≤ b6 := by omega
   have gb7 : w.heap.size ≤ b7 := by omega
   have nb7b6 : ¬ b7 = b6 := by omega
   have nb6b7 : ¬ b6 = b7 := by omega
   have gb8 : w.heap.size ≤ b8 := by omega
   have nb8b6 : ¬ b8 = b6 := by omega
   have nb6b8 : ¬ b6 = b8 := by omega
   have nb8b7 : ¬ b8 = b7 := by omega
   have nb7b8 : ¬ b7 = b8 := by omega
   have gb11 : w.heap.size ≤ b11 := by omega
   have nb11b6 : ¬ b11 = b6 := by omega
   have nb6b11 : ¬ b6 = b11 := by omega
   have nb11b7 : ¬ b11 = b7 := by omega
   have nb7b11 : ¬ b7 = b11 := by omega
   have nb11b8 : ¬ b11 = b8 := by omega
   have nb8b11 : ¬ b8 = b11 := by omega
   have gb12 : w.heap.size ≤ b12 := by omega
   have nb12b6 : ¬ b12 = b6 := by omega
   have nb6b12 : ¬ b6 = b12 := by omega
   have nb12b7 : ¬ b12 = b7 := by omega
   have nb7b12 : ¬ b7 = b12 := by omega
   have nb12b8 : ¬ b12 = b8 := by omega
   have nb8b12 : ¬ b8 = b12 := by omega
   have nb12b11 : ¬ b12 = b11 := by omega
   have nb11b12 : ¬ b11 = b12 := by omega
   rw [hqb12] at Kb12 ⊢
   clear hqb12
   rw [hqb11] at Kb11 ⊢
   clear hqb11
   rw [hqb8] at Kb8 ⊢
   clear hqb8
   rw [hqb7] at Kb7 ⊢
   clear hqb7
   have HN : Hid (w.heap.size = b6) := hqb6
   rw [hqb6] at Kb6 ⊢
   clear hqb6
   have Hb6 := Kb6
   clear Kb6
   have Hb7 := Kb7
   clear Kb7
   have Hb8 := Kb8
   clear Kb8
   have Hb11 := Kb11
   clear Kb11
   have Hb12 := Kb12
   clear Kb12
   have cb60 := kcl0 Hb6
   have cb61 := kcl1 Hb6
   have cb62 := kcl2 Hb6
   have cb63 := kcl3 Hb6
   have cb70 := kcl0 Hb7
   have cb71 := kcl1 Hb7
   have cb80 := kcl0 Hb8
   have cb81 := kcl1 Hb8
   have cb82 := kcl2 Hb8
   have cb83 := kcl3 Hb8
   go_wp2_with fail
   refine (checkPlace_any WW HH SS ss A c lo hi d1 d2 l1 l2 cell _ HSS3.out).mono ?_
   rintro e Va2 ⟨rfl, hb⟩
   have HZ := Lib.hid hb
   clear hb
   rw [H0.out]
   clear cb60 cb61 cb62 cb63 cb70 cb71 cb80 cb81 cb82 cb83
   replace Hb6 := kbl Hb6 HZ
   replace Hb7 := kbl Hb7 HZ
   replace Hb8 := kbl Hb8 HZ
   replace Hb11 := kbl Hb11 HZ
   replace Hb12 := kbl Hb12 HZ
   replace HB := ktr' HB HZ
   replace HDR := Lib.hid (HDR.out.later HZ.out)
   replace HSS3 := Lib.hid (HSS3.out.later HZ.out (Nat.le_refl _))
   clear HZ
   go_wp2_with fail
   refine (isDir_of H1.out _).mono ?_
   rintro e Va3 ⟨rfl, hb⟩
   have HZ := Lib.hid hb
   clear hb
   replace Hb6 := kbl Hb6 HZ
   replace Hb7 := kbl Hb7 HZ
   replace Hb8 := kbl Hb8 HZ
   replace Hb11 := kbl Hb11 HZ
   replace Hb12 := kbl Hb12 HZ
   replace HB := ktr' HB HZ
   replace HDR := Lib.hid (HDR.out.later HZ.out)
   replace HSS3 := Lib.hid (HSS3.out.later HZ.out (Nat.le_refl _))
   clear HZ
   have cb120 := kcl0 Hb12
   have cb121 := kcl1 Hb12
   have zb120 : Va3.frozen? ⟨b12, 0, none⟩ = false := Hb12.out.frozen 0
   have zb121 : Va3.frozen? ⟨b12, 1, none⟩ = false := Hb12.out.frozen 1
   go_wp2
   have MZ := ((Hb12.out.set_ 0 (.int .i64 (0))).set_ 1 (.int .i64 (0)))
   have rz0 := MZ.cell 0
   have rz1 := MZ.cell 1
   simp only [List.setIfInBounds_toArray, List.set_cons_zero, List.set_cons_succ, List.getElem?_toArray, List.getElem?_cons_zero, List.getElem?_cons_succ] at rz0 rz1
   refine bodyPost_ret (v := .tuple #[.agg #[.int .i64 (0), .int .i64 (0)], .int .i64 3]) (by simp [results, Tryd.results25, go_sem, rz0, rz1]) rfl ⟨by rw [EV.out, EE.out]; rfl, ?_⟩
   exact ((HB.out.setCell (p := ⟨b12, 0, none⟩) gb12 _).setCell (p := ⟨b12, 1, none⟩) gb12 _)
 ·
  obtain ⟨E0, hE0⟩ : ∃ q, placeE ⟨WW, HH, SS, ss⟩ (lo, hi) ⟨(d1, d2), (l1, l2)⟩ cell = q := ⟨_, rfl⟩
  have hb0 : ¬ E0 = 0 := by rw [← hE0]; exact h0
  have hb1 : (E0 == 0) = false := beq_eq_false_iff_ne.2 hb0
  have EE := Lib.hid (show setupE ⟨WW, HH, SS, ss⟩ (lo, hi) ⟨(d1, d2), (l1, l2)⟩ cell dir (s1, s2) = E0 by rw [← hE0]; unfold setupE andE; simp [*])
  have EV := Lib.hid (show setupV ⟨WW, HH, SS, ss⟩ (lo, hi) ⟨(d1, d2), (l1, l2)⟩ cell dir (s1, s2) = (0, 0) by unfold setupV; rw [EE.out, if_neg hb0])
  have HE0 := Lib.hid hE0
  clear hE0 hb0
  have H0 := Lib.hid h0
  clear h0
  have HDR := Lib.hid HD
  have HSS3 := Lib.hid hs
  clear HD hs
  go_enter Tryd.func25, Tryd.ntmps25
  go_upto_region 1 with (fail)
  obtain ⟨Va1, hV⟩ : ∃ V, ((((w.alloc (.cells #[.int .i64 (WW), .int .i64 (HH), .int .i64 (SS), .slice A ss.length c] 24)).alloc (.cells #[.int .i64 (lo), .int .i64 (hi)] 26)).alloc (.cells #[.int .i64 (d1), .int .i64 (d2), .int .i64 (l1), .int .i64 (l2)] 28)).alloc (.cells #[.int .i64 (s1), .int .i64 (s2)] 26)).alloc (.cells #[.int .i64 (0), .int .i64 (0)] 26) = V := ⟨_, rfl⟩
  have Kb6 : Hid (Blk Va1 (w.heap.size) 24 #[.int .i64 (WW), .int .i64 (HH), .int .i64 (SS), .slice A ss.length c]) := by rw [← hV]; exact ((((Blk.new' _ _ _ (by simp)).alloc _).alloc _).alloc _).alloc _
  have Kb7 : Hid (Blk Va1 (w.heap.size + 1) 26 #[.int .i64 (lo), .int .i64 (hi)]) := by rw [← hV]; exact (((Blk.new' _ _ _ (by simp)).alloc _).alloc _).alloc _
  have Kb8 : Hid (Blk Va1 (w.heap.size + 1 + 1) 28 #[.int .i64 (d1), .int .i64 (d2), .int .i64 (l1), .int .i64 (l2)]) := by rw [← hV]; exact ((Blk.new' _ _ _ (by simp)).alloc _).alloc _
  have Kb11 : Hid (Blk Va1 (w.heap.size + 1 + 1 + 1) 26 #[.int .i64 (s1), .int .i64 (s2)]) := by rw [← hV]; exact (Blk.new' _ _ _ (by simp)).alloc _
  have Kb12 : Hid (Blk Va1 (w.heap.size + 1 + 1 + 1 + 1) 26 #[.int .i64 (0), .int .i64 (0)]) := by rw [← hV]; exact Blk.new' _ _ _ (by simp)
  have GHB : Hid (Below w.heap.size w Va1) := by rw [← hV]; exact (by repeat (first | exact Below.refl _ _ | assumption | refine Below.drew ?_ | refine Below.drewN' ?_ _ | (refine Below.alloc ?_ (by simp <;> omega) _) | (refine Below.setCell ?_ (by simp <;> omega) _)))
  have HZ : Hid (Below w.heap.size w Va1) := GHB
  have GHDR := Lib.hid (HDR.out.later HZ.out)
  have GHSS3 := Lib.hid (HSS3.out.later HZ.out (Nat.le_refl _))
  rw [hV]
  clear hV HZ HDR HSS3
  have HB := GHB
  clear GHB
  have HDR := GHDR
  clear GHDR
  have HSS3 := GHSS3
  clear GHSS3
  obtain ⟨b12, hqb12⟩ : ∃ b, w.heap.size + 1 + 1 + 1 + 1 = b := ⟨_, rfl⟩
  obtain ⟨b11, hqb11⟩ : ∃ b, w.heap.size + 1 + 1 + 1 = b := ⟨_, rfl⟩
  obtain ⟨b8, hqb8⟩ : ∃ b, w.heap.size + 1 + 1 = b := ⟨_, rfl⟩
  obtain ⟨b7, hqb7⟩ : ∃ b, w.heap.size + 1 = b := ⟨_, rfl⟩
  obtain ⟨b6, hqb6⟩ : ∃ b, w.heap.size = b := ⟨_, rfl⟩
  have gb6 : w.heap.size ≤ b6 := by omega
  have gb7 : w.heap.size ≤ b7 := by omega
  have nb7b6 : ¬ b7 = b6 := by omega
  have nb6b7 : ¬ b6 = b7 := by omega
  have gb8 : w.heap.size ≤ b8 := by omega
  have nb8b6 : ¬ b8 = b6 := by omega
  have nb6b8 : ¬ b6 = b8 := by omega
  have nb8b7 : ¬ b8 = b7 := by omega
  have nb7b8 : ¬ b7 = b8 := by omega
  have gb11 : w.heap.size ≤ b11 := by omega
  have nb11b6 : ¬ b11 = b6 := by omega
  have nb6b11 : ¬ b6 = b11 := by omega
  have nb11b7 : ¬ b11 = b7 := by omega
  have nb7b11 : ¬ b7 = b11 := by omega
  have nb11b8 : ¬ b11 = b8 := by omega
  have nb8b11 : ¬ b8 = b11 := by omega
  have gb12 : w.heap.size ≤ b12 := by omega
  have nb12b6 : ¬ b12 = b6 := by omega
  have nb6b12 : ¬ b6 = b12 := by omega
  have nb12b7 : ¬ b12 = b7 := by omega
  have nb7b12 : ¬ b7 = b12 := by omega
  have nb12b8 : ¬ b12 = b8 := by omega
  have nb8b12 : ¬ b8 = b12 := by omega
  have nb12b11 : ¬ b12 = b11 := by omega
  have nb11b12 : ¬ b11 = b12 := by omega
  rw [hqb12] at Kb12 ⊢
  clear hqb12
  rw [hqb11] at Kb11 ⊢
  clear hqb11
  rw [hqb8] at Kb8 ⊢
  clear hqb8
  rw [hqb7] at Kb7 ⊢
  clear hqb7
  have HN : Hid (w.heap.size = b6) := hqb6
  rw [hqb6] at Kb6 ⊢
  clear hqb6
  have Hb6 := Kb6
  clear Kb6
  have Hb7 := Kb7
  clear Kb7
  have Hb8 := Kb8
  clear Kb8
  have Hb11 := Kb11
  clear Kb11
  have Hb12 := Kb12
  clear Kb12
  have cb60 := kcl0 Hb6
  have cb61 := kcl1 Hb6
  have cb62 := kcl2 Hb6
  have cb63 := kcl3 Hb6
  have cb70 := kcl0 Hb7
  have cb71 := kcl1 Hb7
  have cb80 := kcl0 Hb8
  have cb81 := kcl1 Hb8
  have cb82 := kcl2 Hb8
  have cb83 := kcl3 Hb8
  go_wp2_with fail
  refine (checkPlace_any WW HH SS ss A c lo hi d1 d2 l1 l2 cell _ HSS3.out).mono ?_
  rintro e Va2 ⟨rfl, hb⟩
  have HZ := Lib.hid hb
  clear hb
  rw [HE0.out]
  clear cb60 cb61 cb62 cb63 cb70 cb71 cb80 cb81 cb82 cb83
  replace Hb6 := kbl Hb6 HZ
  replace Hb7 := kbl Hb7 HZ
  replace Hb8 := kbl Hb8 HZ
  replace Hb11 := kbl Hb11 HZ
  replace Hb12 := kbl Hb12 HZ
  replace HB := ktr' HB HZ
  replace HDR := Lib.hid (HDR.out.later HZ.out)
  replace HSS3 := Lib.hid (HSS3.out.later HZ.out (Nat.le_refl _))
  clear HZ
  have cb120 := kcl0 Hb12
  have cb121 := kcl1 Hb12
  have zb120 : Va2.frozen? ⟨b12, 0, none⟩ = false := Hb12.out.frozen 0
  have zb121 : Va2.frozen? ⟨b12, 1, none⟩ = false := Hb12.out.frozen 1
  go_wp2
  have MZ := ((Hb12.out.set_ 0 (.int .i64 (0))).set_ 1 (.int .i64 (0)))
  have rz0 := MZ.cell 0
  have rz1 := MZ.cell 1
  simp only [List.setIfInBounds_toArray, List.set_cons_zero, List.set_cons_succ, List.getElem?_toArray, List.getElem?_cons_zero, List.getElem?_cons_succ] at rz0 rz1
  refine bodyPost_ret (v := .tuple #[.agg #[.int .i64 (0), .int .i64 (0)], .int .i64 E0]) (by simp [results, Tryd.results25, go_sem, rz0, rz1]) rfl ⟨by rw [EV.out, EE.out]; rfl, ?_⟩
  exact ((HB.out.setCell (p := ⟨b12, 0, none⟩) gb12 _).setCell (p := ⟨b12, 1, none⟩) gb12 _)
set_option maxRecDepth 100000 in
set_option maxHeartbeats 2000000 in
theorem Steady_any (WW HH SS : Int) (ss : List (Int × Int)) (A : Option Addr) (c : Nat) (lo hi d1 d2 l1 l2 cell : Int) (s1 s2 n p1 p2 : Int) (w : World) (HD : DirsAt w) (hs : SpansAt w w.heap.size (.slice A ss.length c) ss) :
 Calls Tryd.prog 27 #[.agg #[.int .i64 (WW), .int .i64 (HH), .int .i64 (SS), .slice A ss.length c], .agg #[.int .i64 lo, .int .i64 hi], .agg #[.int .i64 (d1), .int .i64 (d2), .int .i64 (l1), .int .i64 (l2)], .int .i64 cell, .agg #[.int .i64 (s1), .int .i64 (s2), .int .i64 (n), .int .i64 (p1), .int .i64 (p2)]] w fun e w' => e = .returned (.tuple #[spV (steadyV ⟨WW, HH, SS, ss⟩ (lo, hi) ⟨(d1, d2), (l1, l2)⟩ cell ⟨(s1, s2), n, (p1, p2)⟩), .int .i64 (steadyE ⟨WW, HH, SS, ss⟩ (lo, hi) ⟨(d1, d2), (l1, l2)⟩ cell ⟨(s1, s2), n, (p1, p2)⟩)]) ∧ Below w.heap.size w w' := by
 by_cases h0 : placeE ⟨WW, HH, SS, ss⟩ (lo, hi) ⟨(d1, d2), (l1, l2)⟩ cell = 0
 ·
  by_cases h1 : wiE ⟨(s1, s2), n, (p1, p2)⟩ = 0
  ·
   have EE := Lib.hid (show steadyE ⟨WW, HH, SS, ss⟩ (lo, hi) ⟨(d1, d2), (l1, l2)⟩ cell ⟨(s1, s2), n, (p1, p2)⟩ = 0 by unfold steadyE andE; (try simp only [decide_eq_true_iff, decide_eq_false_iff_not] at *); simp [*]; try omega)
   have EV := Lib.hid (show steadyV ⟨WW, HH, SS, ss⟩ (lo, hi) ⟨(d1, d2), (l1, l2)⟩ cell ⟨(s1, s2), n, (p1, p2)⟩ = steadyZ ⟨WW, HH, SS, ss⟩ (lo, hi) ⟨(d1, d2), (l1, l2)⟩ cell ⟨(s1, s2), n, (p1, p2)⟩ by unfold steadyV; rw [EE.out, if_pos rfl])
   have H0 := Lib.hid h0
   clear h0
   have H1 := Lib.hid h1
   clear h1
   have HDR := Lib.hid HD
   have HSS3 := Lib.hid hs
   clear HD hs
   obtain ⟨⟨hE, hse⟩, hm, hc0, hc1⟩ := placeE_zero H0.out
   obtain ⟨-, -, hn1, hn2⟩ := wiE_zero H1.out
   simp only at hc1 hn1 hn2
   obtain ⟨cn, hcn0⟩ : ∃ n : Nat, cell = (n : Int) := ⟨cell.toNat, by omega⟩
   obtain ⟨nn, hnn0⟩ : ∃ m : Nat, n = (m : Int) := ⟨n.toNat, by omega⟩
   have HC0 := Lib.hid hcn0
   have HN0 := Lib.hid hnn0
   have hcn : cn < ss.length := by omega
   have HEG := Lib.hid hE
   have HSE := Lib.hid hse
   have HM := Lib.hid hm
   have EV2 := EV.out
   rw [hcn0, hnn0] at EV2
   obtain ⟨⟨A1, A2⟩, hA⟩ : ∃ z, steadyZ ⟨WW, HH, SS, ss⟩ (lo, hi) ⟨(d1, d2), (l1, l2)⟩ ((cn : Nat) : Int) ⟨(s1, s2), ((nn : Nat) : Int), (p1, p2)⟩ = z := ⟨_, rfl⟩
   rw [hA] at EV2
   have HA := Lib.hid hA
   clear EV
   have EV := Lib.hid EV2
   have hfd := fieldB0
   clear EV2 hA hE hse hm hc0 hc1 hn1 hn2 hcn0 hnn0
   go_enter Tryd.func27, Tryd.ntmps27
   go_upto_region 1 with (fail)
   obtain ⟨Va1, hV⟩ : ∃ V, ((((w.alloc (.cells #[.int .i64 (WW), .int .i64 (HH), .int .i64 (SS), .slice A ss.length c] 24)).alloc (.cells #[.int .i64 (lo), .int .i64 (hi)] 26)).alloc (.cells #[.int .i64 (d1), .int .i64 (d2), .int .i64 (l1), .int .i64 (l2)] 28)).alloc (.cells #[.int .i64 (s1), .int .i64 (s2), .int .i64 (n), .int .i64 (p1), .int .i64 (p2)] 32)).alloc (.cells #[.int .i64 (0), .int .i64 (0)] 26) = V := ⟨_, rfl⟩
   have Kb5 : Hid (Blk Va1 (w.heap.size) 24 #[.int .i64 (WW), .int .i64 (HH), .int .i64 (SS), .slice A ss.length c]) := by rw [← hV]; exact ((((Blk.new' _ _ _ (by simp)).alloc _).alloc _).alloc _).alloc _
   have Kb6 : Hid (Blk Va1 (w.heap.size + 1) 26 #[.int .i64 (lo), .int .i64 (hi)]) := by rw [← hV]; exact (((Blk.new' _ _ _ (by simp)).alloc _).alloc _).alloc _
   have Kb7 : Hid (Blk Va1 (w.heap.size + 1 + 1) 28 #[.int .i64 (d1), .int .i64 (d2), .int .i64 (l1), .int .i64 (l2)]) := by rw [← hV]; exact ((Blk.new' _ _ _ (by simp)).alloc _).alloc _
   have Kb9 : Hid (Blk Va1 (w.heap.size + 1 + 1 + 1) 32 #[.int .i64 (s1), .int .i64 (s2), .int .i64 (n), .int .i64 (p1), .int .i64 (p2)]) := by rw [← hV]; exact (Blk.new' _ _ _ (by simp)).alloc _
   have Kb10 : Hid (Blk Va1 (w.heap.size + 1 + 1 + 1 + 1) 26 #[.int .i64 (0), .int .i64 (0)]) := by rw [← hV]; exact Blk.new' _ _ _ (by simp)
   have GHB : Hid (Below w.heap.size w Va1) := by rw [← hV]; exact (by repeat (first | exact Below.refl _ _ | assumption | refine Below.drew ?_ | refine Below.drewN' ?_ _ | (refine Below.alloc ?_ (by simp <;> omega) _) | (refine Below.setCell ?_ (by simp <;> omega) _)))
   have HZ : Hid (Below w.heap.size w Va1) := GHB
   have GHDR := Lib.hid (HDR.out.later HZ.out)
   have GHSS3 := Lib.hid (HSS3.out.later HZ.out (Nat.le_refl _))
   rw [hV]
   clear hV HZ HDR HSS3
   have HB := GHB
   clear GHB
   have HDR := GHDR
   clear GHDR
   have HSS3 := GHSS3
   clear GHSS3
   obtain ⟨b10, hqb10⟩ : ∃ b, w.heap.size + 1 + 1 + 1 + 1 = b := ⟨_, rfl⟩
   obtain ⟨b9, hqb9⟩ : ∃ b, w.heap.size + 1 + 1 + 1 = b := ⟨_, rfl⟩
   obtain ⟨b7, hqb7⟩ : ∃ b, w.heap.size + 1 + 1 = b := ⟨_, rfl⟩
   obtain ⟨b6, hqb6⟩ : ∃ b, w.heap.size + 1 = b := ⟨_, rfl⟩
   obtain ⟨b5, hqb5⟩ : ∃ b, w.heap.size = b := ⟨_, rfl⟩
   have gb5 : w.heap.size ≤ b5 := by omega
   have gb6 : w.heap.size ≤ b6 := by omega
   have nb6b5 : ¬ b6 = b5 := by omega
   have nb5b6 : ¬ b5 = b6 := by omega
   have gb7 : w.heap.size ≤ b7 := by omega
   have nb7b5 : ¬ b7 = b5 := by omega
   have nb5b7 : ¬ b5 = b7 := by omega
   have nb7b6 : ¬ b7 = b6 := by omega
   have nb6b7 : ¬ b6 = b7 := by omega
   have gb9 : w.heap.size ≤ b9 := by omega
   have nb9b5 : ¬ b9 = b5 := by omega
   have nb5b9 : ¬ b5 = b9 := by omega
   have nb9b6 : ¬ b9 = b6 := by omega
   have nb6b9 : ¬ b6 = b9 := by omega
   have nb9b7 : ¬ b9 = b7 := by omega
   have nb7b9 : ¬ b7 = b9 := by omega
   have gb10 : w.heap.size ≤ b10 := by omega
   have nb10b5 : ¬ b10 = b5 := by omega
   have nb5b10 : ¬ b5 = b10 := by omega
   have nb10b6 : ¬ b10 = b6 := by omega
   have nb6b10 : ¬ b6 = b10 := by omega
   have nb10b7 : ¬ b10 = b7 := by omega
   have nb7b10 : ¬ b7 = b10 := by omega
   have nb10b9 : ¬ b10 = b9 := by omega
   have nb9b10 : ¬ b9 = b10 := by omega
   rw [hqb10] at Kb10 ⊢
   clear hqb10
   rw [hqb9] at Kb9 ⊢
   clear hqb9
   rw [hqb7] at Kb7 ⊢
   clear hqb7
   rw [hqb6] at Kb6 ⊢
   clear hqb6
   have HN : Hid (w.heap.size = b5) := hqb5
   rw [hqb5] at Kb5 ⊢
   clear hqb5
   have Hb5 := Kb5
   clear Kb5
   have Hb6 := Kb6
   clear Kb6
   have Hb7 := Kb7
   clear Kb7
   have Hb9 := Kb9
   clear Kb9
   have Hb10 := Kb10
   clear Kb10
   have cb50 := kcl0 Hb5
   have cb51 := kcl1 Hb5
   have cb52 := kcl2 Hb5
   have cb53 := kcl3 Hb5
   have cb60 := kcl0 Hb6
   have cb61 := kcl1 Hb6
   have cb70 := kcl0 Hb7
   have cb71 := kcl1 Hb7
   have cb72 := kcl2 Hb7
   have cb73 := kcl3 Hb7
   go_wp2_with fail
   refine (checkPlace_any WW HH SS ss A c lo hi d1 d2 l1 l2 cell _ HSS3.out).mono ?_
   rintro e Va2 ⟨rfl, hb⟩
   have HZ := Lib.hid hb
   clear hb
   rw [H0.out]
   clear cb50 cb51 cb52 cb53 cb60 cb61 cb70 cb71 cb72 cb73
   replace Hb5 := kbl Hb5 HZ
   replace Hb6 := kbl Hb6 HZ
   replace Hb7 := kbl Hb7 HZ
   replace Hb9 := kbl Hb9 HZ
   replace Hb10 := kbl Hb10 HZ
   replace HB := ktr' HB HZ
   replace HDR := Lib.hid (HDR.out.later HZ.out)
   replace HSS3 := Lib.hid (HSS3.out.later HZ.out (Nat.le_refl _))
   clear HZ
   have cb90 := kcl0 Hb9
   have cb91 := kcl1 Hb9
   have cb92 := kcl2 Hb9
   have cb93 := kcl3 Hb9
   have cb94 := kcl4 Hb9
   go_wp2_with fail
   refine (CheckWind_any s1 s2 n p1 p2 _).mono ?_
   rintro e Va3 ⟨rfl, hb⟩
   have HZ := Lib.hid hb
   clear hb
   rw [H1.out]
   clear cb90 cb91 cb92 cb93 cb94
   replace Hb5 := kbl Hb5 HZ
   replace Hb6 := kbl Hb6 HZ
   replace Hb7 := kbl Hb7 HZ
   replace Hb9 := kbl Hb9 HZ
   replace Hb10 := kbl Hb10 HZ
   replace HB := ktr' HB HZ
   replace HDR := Lib.hid (HDR.out.later HZ.out)
   replace HSS3 := Lib.hid (HSS3.out.later HZ.out (Nat.le_refl _))
   clear HZ
   have hc9 := HC0.out
   have hn9 := HN0.out
   clear HC0 HN0
   subst hc9 hn9
   have cb50 := kcl0 Hb5
   have cb51 := kcl1 Hb5
   have cb52 := kcl2 Hb5
   have cb53 := kcl3 Hb5
   have cb60 := kcl0 Hb6
   have cb61 := kcl1 Hb6
   have cb70 := kcl0 Hb7
   have cb71 := kcl1 Hb7
   have cb72 := kcl2 Hb7
   have cb73 := kcl3 Hb7
   have cb90 := kcl0 Hb9
   have cb91 := kcl1 Hb9
   have cb92 := kcl2 Hb9
   have cb93 := kcl3 Hb9
   have cb94 := kcl4 Hb9
   go_wp2_with fail
   refine (steady_any WW HH SS ss A c lo hi d1 d2 l1 l2 cn s1 s2 nn p1 p2 _ HDR.out HSS3.out HEG.out HSE.out HM.out H1.out hcn).mono ?_
   rintro e Va4 ⟨rfl, hb⟩
   have HZ := Lib.hid hb
   clear hb
   rw [HA.out]
   clear cb50 cb51 cb52 cb53 cb60 cb61 cb70 cb71 cb72 cb73 cb90 cb91 cb92 cb93 cb94
   replace Hb5 := kbl Hb5 HZ
   replace Hb6 := kbl Hb6 HZ
   replace Hb7 := kbl Hb7 HZ
   replace Hb9 := kbl Hb9 HZ
   replace Hb10 := kbl Hb10 HZ
   replace HB := ktr' HB HZ
   replace HDR := Lib.hid (HDR.out.later HZ.out)
   replace HSS3 := Lib.hid (HSS3.out.later HZ.out (Nat.le_refl _))
   clear HZ
   have cb100 := kcl0 Hb10
   have cb101 := kcl1 Hb10
   have zb100 : Va4.frozen? ⟨b10, 0, none⟩ = false := Hb10.out.frozen 0
   have zb101 : Va4.frozen? ⟨b10, 1, none⟩ = false := Hb10.out.frozen 1
   go_wp2
   have MZ := ((Hb10.out.set_ 0 (.int .i64 (A1))).set_ 1 (.int .i64 (A2)))
   have rz0 := MZ.cell 0
   have rz1 := MZ.cell 1
   simp only [List.setIfInBounds_toArray, List.set_cons_zero, List.set_cons_succ, List.getElem?_toArray, List.getElem?_cons_zero, List.getElem?_cons_succ] at rz0 rz1
   refine bodyPost_ret (v := .tuple #[.agg #[.int .i64 (A1), .int .i64 (A2)], .int .i64 0]) (by simp [results, Tryd.results27, go_sem, rz0, rz1]) rfl ⟨by rw [EV.out, EE.out]; rfl, ?_⟩
   exact ((HB.out.setCell (p := ⟨b10, 0, none⟩) gb10 _).setCell (p := ⟨b10, 1, none⟩) gb10 _)
  ·
   obtain ⟨E0, hE0⟩ : ∃ q, wiE ⟨(s1, s2), n, (p1, p2)⟩ = q := ⟨_, rfl⟩
   have hb0 : ¬ E0 = 0 := by rw [← hE0]; exact h1
   have hb1 : (E0 == 0) = false := beq_eq_false_iff_ne.2 hb0
   have EE := Lib.hid (show steadyE ⟨WW, HH, SS, ss⟩ (lo, hi) ⟨(d1, d2), (l1, l2)⟩ cell ⟨(s1, s2), n, (p1, p2)⟩ = E0 by rw [← hE0]; unfold steadyE andE; simp [*])
   have EV := Lib.hid (show steadyV ⟨WW, HH, SS, ss⟩ (lo, hi) ⟨(d1, d2), (l1, l2)⟩ cell ⟨(s1, s2), n, (p1, p2)⟩ = (0, 0) by unfold steadyV; rw [EE.out, if_neg hb0])
   have HE0 := Lib.hid hE0
   clear hE0 hb0
   have H0 := Lib.hid h0
   clear h0
   have H1 := Lib.hid h1
   clear h1
   have HDR := Lib.hid HD
   have HSS3 := Lib.hid hs
   clear HD hs
   go_enter Tryd.func27, Tryd.ntmps27
   go_upto_region 1 with (fail)
   obtain ⟨Va1, hV⟩ : ∃ V, ((((w.alloc (.cells #[.int .i64 (WW), .int .i64 (HH), .int .i64 (SS), .slice A ss.length c] 24)).alloc (.cells #[.int .i64 (lo), .int .i64 (hi)] 26)).alloc (.cells #[.int .i64 (d1), .int .i64 (d2), .int .i64 (l1), .int .i64 (l2)] 28)).alloc (.cells #[.int .i64 (s1), .int .i64 (s2), .int .i64 (n), .int .i64 (p1), .int .i64 (p2)] 32)).alloc (.cells #[.int .i64 (0), .int .i64 (0)] 26) = V := ⟨_, rfl⟩
   have Kb5 : Hid (Blk Va1 (w.heap.size) 24 #[.int .i64 (WW), .int .i64 (HH), .int .i64 (SS), .slice A ss.length c]) := by rw [← hV]; exact ((((Blk.new' _ _ _ (by simp)).alloc _).alloc _).alloc _).alloc _
   have Kb6 : Hid (Blk Va1 (w.heap.size + 1) 26 #[.int .i64 (lo), .int .i64 (hi)]) := by rw [← hV]; exact (((Blk.new' _ _ _ (by simp)).alloc _).alloc _).alloc _
   have Kb7 : Hid (Blk Va1 (w.heap.size + 1 + 1) 28 #[.int .i64 (d1), .int .i64 (d2), .int .i64 (l1), .int .i64 (l2)]) := by rw [← hV]; exact ((Blk.new' _ _ _ (by simp)).alloc _).alloc _
   have Kb9 : Hid (Blk Va1 (w.heap.size + 1 + 1 + 1) 32 #[.int .i64 (s1), .int .i64 (s2), .int .i64 (n), .int .i64 (p1), .int .i64 (p2)]) := by rw [← hV]; exact (Blk.new' _ _ _ (by simp)).alloc _
   have Kb10 : Hid (Blk Va1 (w.heap.size + 1 + 1 + 1 + 1) 26 #[.int .i64 (0), .int .i64 (0)]) := by rw [← hV]; exact Blk.new' _ _ _ (by simp)
   have GHB : Hid (Below w.heap.size w Va1) := by rw [← hV]; exact (by repeat (first | exact Below.refl _ _ | assumption | refine Below.drew ?_ | refine Below.drewN' ?_ _ | (refine Below.alloc ?_ (by simp <;> omega) _) | (refine Below.setCell ?_ (by simp <;> omega) _)))
   have HZ : Hid (Below w.heap.size w Va1) := GHB
   have GHDR := Lib.hid (HDR.out.later HZ.out)
   have GHSS3 := Lib.hid (HSS3.out.later HZ.out (Nat.le_refl _))
   rw [hV]
   clear hV HZ HDR HSS3
   have HB := GHB
   clear GHB
   have HDR := GHDR
   clear GHDR
   have HSS3 := GHSS3
   clear GHSS3
   obtain ⟨b10, hqb10⟩ : ∃ b, w.heap.size + 1 + 1 + 1 + 1 = b := ⟨_, rfl⟩
   obtain ⟨b9, hqb9⟩ : ∃ b, w.heap.size + 1 + 1 + 1 = b := ⟨_, rfl⟩
   obtain ⟨b7, hqb7⟩ : ∃ b, w.heap.size + 1 + 1 = b := ⟨_, rfl⟩
   obtain ⟨b6, hqb6⟩ : ∃ b, w.heap.size + 1 = b := ⟨_, rfl⟩
   obtain ⟨b5, hqb5⟩ : ∃ b, w.heap.size = b := ⟨_, rfl⟩
   have gb5 : w.heap.size ≤ b5 := by omega
   have gb6 : w.heap.size ≤ b6 := by omega
   have nb6b5 : ¬ b6 = b5 := by omega
   have nb5b6 : ¬ b5 = b6 := by omega
   have gb7 : w.heap.size ≤ b7 := by omega
   have nb7b5 : ¬ b7 = b5 := by omega
   have nb5b7 : ¬ b5 = b7 := by omega
   have nb7b6 : ¬ b7 = b6 := by omega
   have nb6b7 : ¬ b6 = b7 := by omega
   have gb9 : w.heap.size ≤ b9 := by omega
   have nb9b5 : ¬ b9 = b5 := by omega
   have nb5b9 : ¬ b5 = b9 := by omega
   have nb9b6 : ¬ b9 = b6 := by omega
   have nb6b9 : ¬ b6 = b9 := by omega
   have nb9b7 : ¬ b9 = b7 := by omega
   have nb7b9 : ¬ b7 = b9 := by omega
   have gb10 : w.heap.size ≤ b10 := by omega
   have nb10b5 : ¬ b10 = b5 := by omega
   have nb5b10 : ¬ b5 = b10 := by omega
   have nb10b6 : ¬ b10 = b6 := by omega
   have nb6b10 : ¬ b6 = b10 := by omega
   have nb10b7 : ¬ b10 = b7 := by omega
   have nb7b10 : ¬ b7 = b10 := by omega
   have nb10b9 : ¬ b10 = b9 := by omega
   have nb9b10 : ¬ b9 = b10 := by omega
   rw [hqb10] at Kb10 ⊢
   clear hqb10
   rw [hqb9] at Kb9 ⊢
   clear hqb9
   rw [hqb7] at Kb7 ⊢
   clear hqb7
   rw [hqb6] at Kb6 ⊢
   clear hqb6
   have HN : Hid (w.heap.size = b5) := hqb5
   rw [hqb5] at Kb5 ⊢
   clear hqb5
   have Hb5 := Kb5
   clear Kb5
   have Hb6 := Kb6
   clear Kb6
   have Hb7 := Kb7
   clear Kb7
   have Hb9 := Kb9
   clear Kb9
   have Hb10 := Kb10
   clear Kb10
   have cb50 := kcl0 Hb5
   have cb51 := kcl1 Hb5
   have cb52 := kcl2 Hb5
   have cb53 := kcl3 Hb5
   have cb60 := kcl0 Hb6
   have cb61 := kcl1 Hb6
   have cb70 := kcl0 Hb7
   have cb71 := kcl1 Hb7
   have cb72 := kcl2 Hb7
   have cb73 := kcl3 Hb7
   go_wp2_with fail
   refine (checkPlace_any WW HH SS ss A c lo hi d1 d2 l1 l2 cell _ HSS3.out).mono ?_
   rintro e Va2 ⟨rfl, hb⟩
   have HZ := Lib.hid hb
   clear hb
   rw [H0.out]
   clear cb50 cb51 cb52 cb53 cb60 cb61 cb70 cb71 cb72 cb73
   replace Hb5 := kbl Hb5 HZ
   replace Hb6 := kbl Hb6 HZ
   replace Hb7 := kbl Hb7 HZ
   replace Hb9 := kbl Hb9 HZ
   replace Hb10 := kbl Hb10 HZ
   replace HB := ktr' HB HZ
   replace HDR := Lib.hid (HDR.out.later HZ.out)
   replace HSS3 := Lib.hid (HSS3.out.later HZ.out (Nat.le_refl _))
   clear HZ
   have cb90 := kcl0 Hb9
   have cb91 := kcl1 Hb9
   have cb92 := kcl2 Hb9
   have cb93 := kcl3 Hb9
   have cb94 := kcl4 Hb9
   go_wp2_with fail
   refine (CheckWind_any s1 s2 n p1 p2 _).mono ?_
   rintro e Va3 ⟨rfl, hb⟩
   have HZ := Lib.hid hb
   clear hb
   rw [HE0.out]
   clear cb90 cb91 cb92 cb93 cb94
   replace Hb5 := kbl Hb5 HZ
   replace Hb6 := kbl Hb6 HZ
   replace Hb7 := kbl Hb7 HZ
   replace Hb9 := kbl Hb9 HZ
   replace Hb10 := kbl Hb10 HZ
   replace HB := ktr' HB HZ
   replace HDR := Lib.hid (HDR.out.later HZ.out)
   replace HSS3 := Lib.hid (HSS3.out.later HZ.out (Nat.le_refl _))
   clear HZ
   have cb100 := kcl0 Hb10
   have cb101 := kcl1 Hb10
   have zb100 : Va3.frozen? ⟨b10, 0, none⟩ = false := Hb10.out.frozen 0
   have zb101 : Va3.frozen? ⟨b10, 1, none⟩ = false := Hb10.out.frozen 1
   go_wp2
   have MZ := ((Hb10.out.set_ 0 (.int .i64 (0))).set_ 1 (.int .i64 (0)))
   have rz0 := MZ.cell 0
   have rz1 := MZ.cell 1
   simp only [List.setIfInBounds_toArray, List.set_cons_zero, List.set_cons_succ, List.getElem?_toArray, List.getElem?_cons_zero, List.getElem?_cons_succ] at rz0 rz1
   refine bodyPost_ret (v := .tuple #[.agg #[.int .i64 (0), .int .i64 (0)], .int .i64 E0]) (by simp [results, Tryd.results27, go_sem, rz0, rz1]) rfl ⟨by rw [EV.out, EE.out]; rfl, ?_⟩
   exact ((HB.out.setCell (p := ⟨b10, 0, none⟩) gb10 _).setCell (p := ⟨b10, 1, none⟩) gb10 _)
 ·
  obtain ⟨E0, hE0⟩ : ∃ q, placeE ⟨WW, HH, SS, ss⟩ (lo, hi) ⟨(d1, d2), (l1, l2)⟩ cell = q := ⟨_, rfl⟩
  have hb0 : ¬ E0 = 0 := by rw [← hE0]; exact h0
  have hb1 : (E0 == 0) = false := beq_eq_false_iff_ne.2 hb0
  have EE := Lib.hid (show steadyE ⟨WW, HH, SS, ss⟩ (lo, hi) ⟨(d1, d2), (l1, l2)⟩ cell ⟨(s1, s2), n, (p1, p2)⟩ = E0 by rw [← hE0]; unfold steadyE andE; simp [*])
  have EV := Lib.hid (show steadyV ⟨WW, HH, SS, ss⟩ (lo, hi) ⟨(d1, d2), (l1, l2)⟩ cell ⟨(s1, s2), n, (p1, p2)⟩ = (0, 0) by unfold steadyV; rw [EE.out, if_neg hb0])
  have HE0 := Lib.hid hE0
  clear hE0 hb0
  have H0 := Lib.hid h0
  clear h0
  have HDR := Lib.hid HD
  have HSS3 := Lib.hid hs
  clear HD hs
  go_enter Tryd.func27, Tryd.ntmps27
  go_upto_region 1 with (fail)
  obtain ⟨Va1, hV⟩ : ∃ V, ((((w.alloc (.cells #[.int .i64 (WW), .int .i64 (HH), .int .i64 (SS), .slice A ss.length c] 24)).alloc (.cells #[.int .i64 (lo), .int .i64 (hi)] 26)).alloc (.cells #[.int .i64 (d1), .int .i64 (d2), .int .i64 (l1), .int .i64 (l2)] 28)).alloc (.cells #[.int .i64 (s1), .int .i64 (s2), .int .i64 (n), .int .i64 (p1), .int .i64 (p2)] 32)).alloc (.cells #[.int .i64 (0), .int .i64 (0)] 26) = V := ⟨_, rfl⟩
  have Kb5 : Hid (Blk Va1 (w.heap.size) 24 #[.int .i64 (WW), .int .i64 (HH), .int .i64 (SS), .slice A ss.length c]) := by rw [← hV]; exact ((((Blk.new' _ _ _ (by simp)).alloc _).alloc _).alloc _).alloc _
  have Kb6 : Hid (Blk Va1 (w.heap.size + 1) 26 #[.int .i64 (lo), .int .i64 (hi)]) := by rw [← hV]; exact (((Blk.new' _ _ _ (by simp)).alloc _).alloc _).alloc _
  have Kb7 : Hid (Blk Va1 (w.heap.size + 1 + 1) 28 #[.int .i64 (d1), .int .i64 (d2), .int .i64 (l1), .int .i64 (l2)]) := by rw [← hV]; exact ((Blk.new' _ _ _ (by simp)).alloc _).alloc _
  have Kb9 : Hid (Blk Va1 (w.heap.size + 1 + 1 + 1) 32 #[.int .i64 (s1), .int .i64 (s2), .int .i64 (n), .int .i64 (p1), .int .i64 (p2)]) := by rw [← hV]; exact (Blk.new' _ _ _ (by simp)).alloc _
  have Kb10 : Hid (Blk Va1 (w.heap.size + 1 + 1 + 1 + 1) 26 #[.int .i64 (0), .int .i64 (0)]) := by rw [← hV]; exact Blk.new' _ _ _ (by simp)
  have GHB : Hid (Below w.heap.size w Va1) := by rw [← hV]; exact (by repeat (first | exact Below.refl _ _ | assumption | refine Below.drew ?_ | refine Below.drewN' ?_ _ | (refine Below.alloc ?_ (by simp <;> omega) _) | (refine Below.setCell ?_ (by simp <;> omega) _)))
  have HZ : Hid (Below w.heap.size w Va1) := GHB
  have GHDR := Lib.hid (HDR.out.later HZ.out)
  have GHSS3 := Lib.hid (HSS3.out.later HZ.out (Nat.le_refl _))
  rw [hV]
  clear hV HZ HDR HSS3
  have HB := GHB
  clear GHB
  have HDR := GHDR
  clear GHDR
  have HSS3 := GHSS3
  clear GHSS3
  obtain ⟨b10, hqb10⟩ : ∃ b, w.heap.size + 1 + 1 + 1 + 1 = b := ⟨_, rfl⟩
  obtain ⟨b9, hqb9⟩ : ∃ b, w.heap.size + 1 + 1 + 1 = b := ⟨_, rfl⟩
  obtain ⟨b7, hqb7⟩ : ∃ b, w.heap.size + 1 + 1 = b := ⟨_, rfl⟩
  obtain ⟨b6, hqb6⟩ : ∃ b, w.heap.size + 1 = b := ⟨_, rfl⟩
  obtain ⟨b5, hqb5⟩ : ∃ b, w.heap.size = b := ⟨_, rfl⟩
  have gb5 : w.heap.size ≤ b5 := by omega
  have gb6 : w.heap.size ≤ b6 := by omega
  have nb6b5 : ¬ b6 = b5 := by omega
  have nb5b6 : ¬ b5 = b6 := by omega
  have gb7 : w.heap.size ≤ b7 := by omega
  have nb7b5 : ¬ b7 = b5 := by omega
  have nb5b7 : ¬ b5 = b7 := by omega
  have nb7b6 : ¬ b7 = b6 := by omega
  have nb6b7 : ¬ b6 = b7 := by omega
  have gb9 : w.heap.size ≤ b9 := by omega
  have nb9b5 : ¬ b9 = b5 := by omega
  have nb5b9 : ¬ b5 = b9 := by omega
  have nb9b6 : ¬ b9 = b6 := by omega
  have nb6b9 : ¬ b6 = b9 := by omega
  have nb9b7 : ¬ b9 = b7 := by omega
  have nb7b9 : ¬ b7 = b9 := by omega
  have gb10 : w.heap.size ≤ b10 := by omega
  have nb10b5 : ¬ b10 = b5 := by omega
  have nb5b10 : ¬ b5 = b10 := by omega
  have nb10b6 : ¬ b10 = b6 := by omega
  have nb6b10 : ¬ b6 = b10 := by omega
  have nb10b7 : ¬ b10 = b7 := by omega
  have nb7b10 : ¬ b7 = b10 := by omega
  have nb10b9 : ¬ b10 = b9 := by omega
  have nb9b10 : ¬ b9 = b10 := by omega
  rw [hqb10] at Kb10 ⊢
  clear hqb10
  rw [hqb9] at Kb9 ⊢
  clear hqb9
  rw [hqb7] at Kb7 ⊢
  clear hqb7
  rw [hqb6] at Kb6 ⊢
  clear hqb6
  have HN : Hid (w.heap.size = b5) := hqb5
  rw [hqb5] at Kb5 ⊢
  clear hqb5
  have Hb5 := Kb5
  clear Kb5
  have Hb6 := Kb6
  clear Kb6
  have Hb7 := Kb7
  clear Kb7
  have Hb9 := Kb9
  clear Kb9
  have Hb10 := Kb10
  clear Kb10
  have cb50 := kcl0 Hb5
  have cb51 := kcl1 Hb5
  have cb52 := kcl2 Hb5
  have cb53 := kcl3 Hb5
  have cb60 := kcl0 Hb6
  have cb61 := kcl1 Hb6
  have cb70 := kcl0 Hb7
  have cb71 := kcl1 Hb7
  have cb72 := kcl2 Hb7
  have cb73 := kcl3 Hb7
  go_wp2_with fail
  refine (checkPlace_any WW HH SS ss A c lo hi d1 d2 l1 l2 cell _ HSS3.out).mono ?_
  rintro e Va2 ⟨rfl, hb⟩
  have HZ := Lib.hid hb
  clear hb
  rw [HE0.out]
  clear cb50 cb51 cb52 cb53 cb60 cb61 cb70 cb71 cb72 cb73
  replace Hb5 := kbl Hb5 HZ
  replace Hb6 := kbl Hb6 HZ
  replace Hb7 := kbl Hb7 HZ
  replace Hb9 := kbl Hb9 HZ
  replace Hb10 := kbl Hb10 HZ
  replace HB := ktr' HB HZ
  replace HDR := Lib.hid (HDR.out.later HZ.out)
  replace HSS3 := Lib.hid (HSS3.out.later HZ.out (Nat.le_refl _))
  clear HZ
  have cb100 := kcl0 Hb10
  have cb101 := kcl1 Hb10
  have zb100 : Va2.frozen? ⟨b10, 0, none⟩ = false := Hb10.out.frozen 0
  have zb101 : Va2.frozen? ⟨b10, 1, none⟩ = false := Hb10.out.frozen 1
  go_wp2
  have MZ := ((Hb10.out.set_ 0 (.int .i64 (0))).set_ 1 (.int .i64 (0)))
  have rz0 := MZ.cell 0
  have rz1 := MZ.cell 1
  simp only [List.setIfInBounds_toArray, List.set_cons_zero, List.set_cons_succ, List.getElem?_toArray, List.getElem?_cons_zero, List.getElem?_cons_succ] at rz0 rz1
  refine bodyPost_ret (v := .tuple #[.agg #[.int .i64 (0), .int .i64 (0)], .int .i64 E0]) (by simp [results, Tryd.results27, go_sem, rz0, rz1]) rfl ⟨by rw [EV.out, EE.out]; rfl, ?_⟩
  exact ((HB.out.setCell (p := ⟨b10, 0, none⟩) gb10 _).setCell (p := ⟨b10, 1, none⟩) gb10 _)
end Go.Proofs.YtdhcdgfpkjdihaaDoor.Sg
