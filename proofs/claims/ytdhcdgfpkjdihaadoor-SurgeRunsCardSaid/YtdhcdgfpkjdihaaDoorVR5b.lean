/-
  Layer 3, the reference: setup, place, Setup.
-/
import Derived.Test.YtdhcdgfpkjdihaaDoorVR5a
import Derived.Test.YtdhcdgfpkjdihaaDoorVP3m
set_option linter.unusedSimpArgs false
set_option linter.unusedVariables false
namespace Go.Proofs.YtdhcdgfpkjdihaaDoor.Sg
open Go.RowKit Go.Shelf
set_option maxRecDepth 100000 in
set_option maxHeartbeats 4000000 in
theorem rsetup_any (WW HH SS : Int) (ss : List (Int × Int)) (A : Option Addr) (c : Nat) (lo hi d1 d2 l1 l2 cell : Int) (d : Nat) (s1 s2 : Int) (w : World) (hd : d < 8) (hE : checkE ⟨WW, HH, SS, ss⟩ = 0) (hse : spOk (-20000) 20000 (lo, hi) = true) (hm : moE ⟨(d1, d2), (l1, l2)⟩ = 0) (hsp : spOk 0 10000 (s1, s2) = true) (hc : 0 ≤ cell ∧ cell < ss.length) (hs : SpansAt w w.heap.size (.slice A ss.length c) ss) :
 Calls Tryd.prog 73 #[.agg #[.int .i64 (WW), .int .i64 (HH), .int .i64 (SS), .slice A ss.length c], .agg #[.int .i64 lo, .int .i64 hi], .agg #[.int .i64 (d1), .int .i64 (d2), .int .i64 (l1), .int .i64 (l2)], .int .i64 cell, .int .i64 (d : Int), .agg #[.int .i64 s1, .int .i64 s2]] w fun e w' => e = .returned (.agg #[.int .i64 (setupZ ⟨WW, HH, SS, ss⟩ (lo, hi) ⟨(d1, d2), (l1, l2)⟩ cell d (s1, s2)).1, .int .i64 (setupZ ⟨WW, HH, SS, ss⟩ (lo, hi) ⟨(d1, d2), (l1, l2)⟩ cell d (s1, s2)).2]) ∧ Below w.heap.size w w' := by
 obtain ⟨hW, hH, hS, hLen, -⟩ := checkE_zero hE
 have hg := fun c => (gr_ok hE c).1
 have hsp' := (spOk_iff.1 hse).1
 simp only at hW hH hS hLen hsp'
 have b1 := rise_bd (g := ⟨WW, HH, SS, ss⟩) (sea := (lo, hi)) (m := ⟨(d1, d2), (l1, l2)⟩) (c := cell) (d := d) (s := (s1, s2)) hd hg hsp' hm hsp hW hH hS (by simp only; omega)
 have b2 := rise_bd (g := ⟨WW, HH, SS, ss⟩) (sea := (lo, hi)) (m := ⟨(d1, d2), (l1, l2)⟩) (c := cell) (d := oppZ d) (s := (s1, s2)) (opp_lt d) hg hsp' hm hsp hW hH hS (by simp only; omega)
 have hv : setupZ ⟨WW, HH, SS, ss⟩ (lo, hi) ⟨(d1, d2), (l1, l2)⟩ cell d (s1, s2) = ((riseZ ⟨WW, HH, SS, ss⟩ (lo, hi) ⟨(d1, d2), (l1, l2)⟩ cell (oppZ d) (s1, s2)).1 - (riseZ ⟨WW, HH, SS, ss⟩ (lo, hi) ⟨(d1, d2), (l1, l2)⟩ cell d (s1, s2)).2, (riseZ ⟨WW, HH, SS, ss⟩ (lo, hi) ⟨(d1, d2), (l1, l2)⟩ cell (oppZ d) (s1, s2)).2 - (riseZ ⟨WW, HH, SS, ss⟩ (lo, hi) ⟨(d1, d2), (l1, l2)⟩ cell d (s1, s2)).1) := rfl
 rw [hv]
 clear hv
 obtain ⟨⟨A1, A2⟩, hA⟩ : ∃ z, riseZ ⟨WW, HH, SS, ss⟩ (lo, hi) ⟨(d1, d2), (l1, l2)⟩ cell (oppZ d) (s1, s2) = z := ⟨_, rfl⟩
 obtain ⟨⟨B1, B2⟩, hB⟩ : ∃ z, riseZ ⟨WW, HH, SS, ss⟩ (lo, hi) ⟨(d1, d2), (l1, l2)⟩ cell d (s1, s2) = z := ⟨_, rfl⟩
 rw [hA] at b2 ⊢
 rw [hB] at b1 ⊢
 simp only at b1 b2 ⊢
 have hopw : IntKind.i64.wrap ((d : Int) + 4) = (d : Int) + 4 := IntWalk.i64_in _ (by omega)
 have hopp : ((d : Int) + 4).tmod 8 = ((oppZ d : Nat) : Int) := by rw [Int.tmod_eq_emod_of_nonneg (by omega)]; unfold oppZ; omega
 have HA := Lib.hid hA
 have HBB := Lib.hid hB
 have HO := Lib.hid (opp_lt d)
 have HD8 := Lib.hid hd
 have HE := Lib.hid hE
 have HSE := Lib.hid hse
 have HM := Lib.hid hm
 have HSPD := Lib.hid hsp
 have HC := Lib.hid hc
 have HS0 := Lib.hid hs
 clear hA hB hE hse hs hm hsp hg hsp' hd hc hW hH hS hLen
 have wr0 : IntKind.i64.wrap (A1 - B2) = A1 - B2 := IntWalk.i64_in _ (by omega)
 have wr1 : IntKind.i64.wrap (A2 - B1) = A2 - B1 := IntWalk.i64_in _ (by omega)
 go_enter Tryd.func73, Tryd.ntmps73
 go_upto_region 1 with (fail)
 obtain ⟨Va1, hV⟩ : ∃ V, ((((w.alloc (.cells #[.int .i64 (WW), .int .i64 (HH), .int .i64 (SS), .slice A ss.length c] 24)).alloc (.cells #[.int .i64 (lo), .int .i64 (hi)] 26)).alloc (.cells #[.int .i64 (d1), .int .i64 (d2), .int .i64 (l1), .int .i64 (l2)] 40)).alloc (.cells #[.int .i64 (s1), .int .i64 (s2)] 26)).alloc (.cells #[.int .i64 (0), .int .i64 (0)] 26) = V := ⟨_, rfl⟩
 have Kb6 : Hid (Blk Va1 (w.heap.size) 24 #[.int .i64 (WW), .int .i64 (HH), .int .i64 (SS), .slice A ss.length c]) := by rw [← hV]; exact ((((Blk.new' _ _ _ (by simp)).alloc _).alloc _).alloc _).alloc _
 have Kb7 : Hid (Blk Va1 (w.heap.size + 1) 26 #[.int .i64 (lo), .int .i64 (hi)]) := by rw [← hV]; exact (((Blk.new' _ _ _ (by simp)).alloc _).alloc _).alloc _
 have Kb8 : Hid (Blk Va1 (w.heap.size + 1 + 1) 40 #[.int .i64 (d1), .int .i64 (d2), .int .i64 (l1), .int .i64 (l2)]) := by rw [← hV]; exact ((Blk.new' _ _ _ (by simp)).alloc _).alloc _
 have Kb11 : Hid (Blk Va1 (w.heap.size + 1 + 1 + 1) 26 #[.int .i64 (s1), .int .i64 (s2)]) := by rw [← hV]; exact (Blk.new' _ _ _ (by simp)).alloc _
 have Kb12 : Hid (Blk Va1 (w.heap.size + 1 + 1 + 1 + 1) 26 #[.int .i64 (0), .int .i64 (0)]) := by rw [← hV]; exact Blk.new' _ _ _ (by simp)
 have GHB : Hid (Below w.heap.size w Va1) := by rw [← hV]; exact (by repeat (first | exact Below.refl _ _ | assumption | refine Below.drew ?_ | refine Below.drewN' ?_ _ | (refine Below.alloc ?_ (by simp <;> omega) _) | (refine Below.setCell ?_ (by simp <;> omega) _)))
 have HZ : Hid (Below w.heap.size w Va1) := GHB
 rw [hV]
 clear hV HZ
 have HB := GHB
 clear GHB
 obtain ⟨b12, hqb12⟩ : ∃ b, w.heap.size + 1 + 1 + 1 + 1 = b := ⟨_, rfl⟩
 obtain ⟨b11, hqb11⟩ : ∃ b, w.heap.size + 1 + 1 + 1 = b := ⟨_, rfl⟩
 obtain ⟨b8, hqb8⟩ : ∃ b, w.heap.size + 1 + 1 = b := ⟨_, rfl⟩
 obtain ⟨b7, hqb7⟩ : ∃ b, w.heap.size + 1 = b := ⟨_, rfl⟩
 obtain ⟨b6, hqb6⟩ : ∃ b, w.heap.size = b := ⟨_, rfl⟩
 have gb6 : w.heap.size ≤ b6 := by omega
 have gb7 : w.heap.size ≤ b7 := by omega
 have nb7b6 : ¬ b7 = b6 := by omega
 have nb6b7 : ¬ b6 = b7 := by omega
 have gb8 : w.heap.size ≤ b8 := by omega
 have nb8b6 : ¬ b8 = b6 := by omega
 have nb6b8 : ¬ b6 = b8 := by omega
 have nb8b7 : ¬ b8 = b7 := by omega
 have nb7b8 : ¬ b7 = b8 := by omega
 have gb11 : w.heap.size ≤ b11 := by omega
 have nb11b6 : ¬ b11 = b6 := by omega
 have nb6b11 : ¬ b6 = b11 := by omega
 have nb11b7 : ¬ b11 = b7 := by omega
 have nb7b11 : ¬ b7 = b11 := by omega
 have nb11b8 : ¬ b11 = b8 := by omega
 have nb8b11 : ¬ b8 = b11 := by omega
 have gb12 : w.heap.size ≤ b12 := by omega
 have nb12b6 : ¬ b12 = b6 := by omega
 have nb6b12 : ¬ b6 = b12 := by omega
 have nb12b7 : ¬ b12 = b7 := by omega
 have nb7b12 : ¬ b7 = b12 := by omega
 have nb12b8 : ¬ b12 = b8 := by omega
 have nb8b12 : ¬ b8 = b12 := by omega
 have nb12b11 : ¬ b12 = b11 := by omega
 have nb11b12 : ¬ b11 = b12 := by omega
 rw [hqb12] at Kb12 ⊢
 clear hqb12
 rw [hqb11] at Kb11 ⊢
 clear hqb11
 rw [hqb8] at Kb8 ⊢
 clear hqb8
 rw [hqb7] at Kb7 ⊢
 clear hqb7
 have HN : Hid (w.heap.size = b6) := hqb6
 rw [hqb6] at Kb6 ⊢
 clear hqb6
 have Hb6 := Kb6
 clear Kb6
 have Hb7 := Kb7
 clear Kb7
 have Hb8 := Kb8
 clear Kb8
 have Hb11 := Kb11
 clear Kb11
 have Hb12 := Kb12
 clear Kb12
 have cb60 := kcl0 Hb6
 have cb61 := kcl1 Hb6
 have cb62 := kcl2 Hb6
 have cb63 := kcl3 Hb6
 have cb70 := kcl0 Hb7
 have cb71 := kcl1 Hb7
 have cb80 := kcl0 Hb8
 have cb81 := kcl1 Hb8
 have cb82 := kcl2 Hb8
 have cb83 := kcl3 Hb8
 have cb110 := kcl0 Hb11
 have cb111 := kcl1 Hb11
 go_wp2_with fail
 refine (rrise_any WW HH SS ss A c lo hi d1 d2 l1 l2 cell (oppZ d) s1 s2 _ HO.out HE.out HSE.out HM.out HSPD.out HC.out (HS0.out.later HB.out (Nat.le_refl _))).mono ?_
 rintro e Va2 ⟨rfl, hb⟩
 have HZ := Lib.hid hb
 clear hb
 rw [HA.out]
 clear cb60 cb61 cb62 cb63 cb70 cb71 cb80 cb81 cb82 cb83 cb110 cb111
 replace Hb6 := kbl Hb6 HZ
 replace Hb7 := kbl Hb7 HZ
 replace Hb8 := kbl Hb8 HZ
 replace Hb11 := kbl Hb11 HZ
 replace Hb12 := kbl Hb12 HZ
 replace HB := ktr' HB HZ
 clear HZ
 go_upto_region 2 with (fail)
 obtain ⟨Va3, hV⟩ : ∃ X, Va2.alloc (.cells #[.int .i64 (A1), .int .i64 (A2)] 26) = X := ⟨_, rfl⟩
 have hnew : Blk Va3 Va2.heap.size 26 #[.int .i64 (A1), .int .i64 (A2)] := by rw [← hV]; exact (Blk.new' _ _ _ rfl)
 have hz : Below Va2.heap.size Va2 Va3 := by rw [← hV]; exact ((Below.refl _ _).alloc (Nat.le_refl _) _)
 have hgn := HB.out.size
 have lb6 := Hb6.out.lt
 have lb7 := Hb7.out.lt
 have lb8 := Hb8.out.lt
 have lb11 := Hb11.out.lt
 have lb12 := Hb12.out.lt
 rw [hV]
 obtain ⟨b13, hbx⟩ : ∃ b, Va2.heap.size = b := ⟨_, rfl⟩
 rw [hbx] at hnew hgn lb6 lb7 lb8 lb11 lb12 ⊢
 have gb13 : w.heap.size ≤ b13 := hgn
 have HZ := Lib.hid hz
 have nb6b13 : ¬ b6 = b13 := by omega
 have nb13b6 : ¬ b13 = b6 := by omega
 have nb7b13 : ¬ b7 = b13 := by omega
 have nb13b7 : ¬ b13 = b7 := by omega
 have nb8b13 : ¬ b8 = b13 := by omega
 have nb13b8 : ¬ b13 = b8 := by omega
 have nb11b13 : ¬ b11 = b13 := by omega
 have nb13b11 : ¬ b13 = b11 := by omega
 have nb12b13 : ¬ b12 = b13 := by omega
 have nb13b12 : ¬ b13 = b12 := by omega
 clear hV hz hgn hbx lb6 lb7 lb8 lb11 lb12
 replace Hb6 := kbl Hb6 HZ
 replace Hb7 := kbl Hb7 HZ
 replace Hb8 := kbl Hb8 HZ
 replace Hb11 := kbl Hb11 HZ
 replace Hb12 := kbl Hb12 HZ
 replace HB := ktr' HB HZ
 clear HZ
 have Hb13 := Lib.hid hnew
 clear hnew
 have cb60 := kcl0 Hb6
 have cb61 := kcl1 Hb6
 have cb62 := kcl2 Hb6
 have cb63 := kcl3 Hb6
 have cb70 := kcl0 Hb7
 have cb71 := kcl1 Hb7
 have cb80 := kcl0 Hb8
 have cb81 := kcl1 Hb8
 have cb82 := kcl2 Hb8
 have cb83 := kcl3 Hb8
 have cb110 := kcl0 Hb11
 have cb111 := kcl1 Hb11
 go_wp2_with fail
 refine (rrise_any WW HH SS ss A c lo hi d1 d2 l1 l2 cell d s1 s2 _ HD8.out HE.out HSE.out HM.out HSPD.out HC.out (HS0.out.later HB.out (Nat.le_refl _))).mono ?_
 rintro e Va4 ⟨rfl, hb⟩
 have HZ := Lib.hid hb
 clear hb
 rw [HBB.out]
 clear cb60 cb61 cb62 cb63 cb70 cb71 cb80 cb81 cb82 cb83 cb110 cb111
 replace Hb6 := kbl Hb6 HZ
 replace Hb7 := kbl Hb7 HZ
 replace Hb8 := kbl Hb8 HZ
 replace Hb11 := kbl Hb11 HZ
 replace Hb12 := kbl Hb12 HZ
 replace Hb13 := kbl Hb13 HZ
 replace HB := ktr' HB HZ
 clear HZ
 go_upto_region 3 with (fail)
 obtain ⟨Va5, hV⟩ : ∃ X, Va4.alloc (.cells #[.int .i64 (B1), .int .i64 (B2)] 26) = X := ⟨_, rfl⟩
 have hnew : Blk Va5 Va4.heap.size 26 #[.int .i64 (B1), .int .i64 (B2)] := by rw [← hV]; exact (Blk.new' _ _ _ rfl)
 have hz : Below Va4.heap.size Va4 Va5 := by rw [← hV]; exact ((Below.refl _ _).alloc (Nat.le_refl _) _)
 have hgn := HB.out.size
 have lb6 := Hb6.out.lt
 have lb7 := Hb7.out.lt
 have lb8 := Hb8.out.lt
 have lb11 := Hb11.out.lt
 have lb12 := Hb12.out.lt
 have lb13 := Hb13.out.lt
 rw [hV]
 obtain ⟨b14, hbx⟩ : ∃ b, Va4.heap.size = b := ⟨_, rfl⟩
 rw [hbx] at hnew hgn lb6 lb7 lb8 lb11 lb12 lb13 ⊢
 have gb14 : w.heap.size ≤ b14 := hgn
 have HZ := Lib.hid hz
 have nb6b14 : ¬ b6 = b14 := by omega
 have nb14b6 : ¬ b14 = b6 := by omega
 have nb7b14 : ¬ b7 = b14 := by omega
 have nb14b7 : ¬ b14 = b7 := by omega
 have nb8b14 : ¬ b8 = b14 := by omega
 have nb14b8 : ¬ b14 = b8 := by omega
 have nb11b14 : ¬ b11 = b14 := by omega
 have nb14b11 : ¬ b14 = b11 := by omega
 have nb12b14 : ¬ b12 = b14 := by omega
 have nb14b12 : ¬ b14 = b12 := by omega
 have nb13b14 : ¬ b13 = b14 := by omega
 have nb14b13 : ¬ b14 = b13 := by omega
 clear hV hz hgn hbx lb6 lb7 lb8 lb11 lb12 lb13
 replace Hb6 := kbl Hb6 HZ
 replace Hb7 := kbl Hb7 HZ
 replace Hb8 := kbl Hb8 HZ
 replace Hb11 := kbl Hb11 HZ
 replace Hb12 := kbl Hb12 HZ
 replace Hb13 := kbl Hb13 HZ
 replace HB := ktr' HB HZ
 clear HZ
 have Hb14 := Lib.hid hnew
 clear hnew
 have cb120 := kcl0 Hb12
 have cb121 := kcl1 Hb12
 have cb130 := kcl0 Hb13
 have cb131 := kcl1 Hb13
 have cb140 := kcl0 Hb14
 have cb141 := kcl1 Hb14
 have zb120 : Va5.frozen? ⟨b12, 0, none⟩ = false := Hb12.out.frozen 0
 have zb121 : Va5.frozen? ⟨b12, 1, none⟩ = false := Hb12.out.frozen 1
 go_wp2
 have hR := fun x y => span_res2 Hb12.out x y
 refine bodyPost_ret (v := .agg #[.int .i64 (A1 - B2), .int .i64 (A2 - B1)]) (by simp [results, Tryd.results73, go_sem, hR]) rfl ⟨rfl, ?_⟩
 exact (HB.out.setCell (p := ⟨b12, 0, none⟩) gb12 _).setCell (p := ⟨b12, 1, none⟩) (by exact gb12) _
set_option maxRecDepth 100000 in
set_option maxHeartbeats 2000000 in
theorem rplace_any (WW HH SS : Int) (ss : List (Int × Int)) (A : Option Addr) (c : Nat) (lo hi d1 d2 l1 l2 cell : Int) (w : World) (hs : SpansAt w w.heap.size (.slice A ss.length c) ss) :
 Calls Tryd.prog 72 #[.agg #[.int .i64 (WW), .int .i64 (HH), .int .i64 (SS), .slice A ss.length c], .agg #[.int .i64 lo, .int .i64 hi], .agg #[.int .i64 (d1), .int .i64 (d2), .int .i64 (l1), .int .i64 (l2)], .int .i64 cell] w fun e w' => e = .returned (.int .i64 (placeE ⟨WW, HH, SS, ss⟩ (lo, hi) ⟨(d1, d2), (l1, l2)⟩ cell)) ∧ Below w.heap.size w w' := by
 by_cases h0 : seaE ⟨WW, HH, SS, ss⟩ (lo, hi) = 0
 rotate_left
 · obtain ⟨E0, hE0⟩ : ∃ z, seaE ⟨WW, HH, SS, ss⟩ (lo, hi) = z := ⟨_, rfl⟩
   have EE := Lib.hid (show placeE ⟨WW, HH, SS, ss⟩ (lo, hi) ⟨(d1, d2), (l1, l2)⟩ cell = E0 by unfold placeE groundE; rw [andE_left (a := seaE ⟨WW, HH, SS, ss⟩ (lo, hi)) h0, hE0, andE_left (by rw [← hE0]; exact h0)])
   rw [hE0] at h0
   have hb1 : (E0 == 0) = false := beq_eq_false_iff_ne.2 h0
   have H0 := Lib.hid hE0
   clear hE0 h0
   have HSS3 := Lib.hid hs
   clear hs
   go_enter Tryd.func72, Tryd.ntmps72
   go_upto_region 1 with (fail)
   obtain ⟨Va1, hV⟩ : ∃ V, ((w.alloc (.cells #[.int .i64 (WW), .int .i64 (HH), .int .i64 (SS), .slice A ss.length c] 24)).alloc (.cells #[.int .i64 (lo), .int .i64 (hi)] 26)).alloc (.cells #[.int .i64 (d1), .int .i64 (d2), .int .i64 (l1), .int .i64 (l2)] 40) = V := ⟨_, rfl⟩
   have Kb4 : Hid (Blk Va1 (w.heap.size) 24 #[.int .i64 (WW), .int .i64 (HH), .int .i64 (SS), .slice A ss.length c]) := by rw [← hV]; exact ((Blk.new' _ _ _ (by simp)).alloc _).alloc _
   have Kb5 : Hid (Blk Va1 (w.heap.size + 1) 26 #[.int .i64 (lo), .int .i64 (hi)]) := by rw [← hV]; exact (Blk.new' _ _ _ (by simp)).alloc _
   have Kb6 : Hid (Blk Va1 (w.heap.size + 1 + 1) 40 #[.int .i64 (d1), .int .i64 (d2), .int .i64 (l1), .int .i64 (l2)]) := by rw [← hV]; exact Blk.new' _ _ _ (by simp)
   have GHB : Hid (Below w.heap.size w Va1) := by rw [← hV]; exact (by repeat (first | exact Below.refl _ _ | assumption | refine Below.drew ?_ | refine Below.drewN' ?_ _ | (refine Below.alloc ?_ (by simp <;> omega) _) | (refine Below.setCell ?_ (by simp <;> omega) _)))
   have HZ : Hid (Below w.heap.size w Va1) := GHB
   have GHSS3 := Lib.hid (HSS3.out.later HZ.out (Nat.le_refl _))
   rw [hV]
   clear hV HZ HSS3
   have HB := GHB
   clear GHB
   have HSS3 := GHSS3
   clear GHSS3
   obtain ⟨b6, hqb6⟩ : ∃ b, w.heap.size + 1 + 1 = b := ⟨_, rfl⟩
   obtain ⟨b5, hqb5⟩ : ∃ b, w.heap.size + 1 = b := ⟨_, rfl⟩
   obtain ⟨b4, hqb4⟩ : ∃ b, w.heap.size = b := ⟨_, rfl⟩
   have gb4 : w.heap.size ≤ b4 := by omega
   have gb5 : w.heap.size ≤ b5 := by omega
   have nb5b4 : ¬ b5 = b4 := by omega
   have nb4b5 : ¬ b4 = b5 := by omega
   have gb6 : w.heap.size ≤ b6 := by omega
   have nb6b4 : ¬ b6 = b4 := by omega
   have nb4b6 : ¬ b4 = b6 := by omega
   have nb6b5 : ¬ b6 = b5 := by omega
   have nb5b6 : ¬ b5 = b6 := by omega
   rw [hqb6] at Kb6 ⊢
   clear hqb6
   rw [hqb5] at Kb5 ⊢
   clear hqb5
   have HN : Hid (w.heap.size = b4) := hqb4
   rw [hqb4] at Kb4 ⊢
   clear hqb4
   have Hb4 := Kb4
   clear Kb4
   have Hb5 := Kb5
   clear Kb5
   have Hb6 := Kb6
   clear Kb6
   have cb40 := kcl0 Hb4
   have cb41 := kcl1 Hb4
   have cb42 := kcl2 Hb4
   have cb43 := kcl3 Hb4
   have cb50 := kcl0 Hb5
   have cb51 := kcl1 Hb5
   go_wp2_with fail
   refine (rground_any WW HH SS ss A c lo hi _ HSS3.out).mono ?_
   rintro e Va2 ⟨rfl, hb⟩
   have HZ := Lib.hid hb
   clear hb
   rw [H0.out]
   clear cb40 cb41 cb42 cb43 cb50 cb51
   replace Hb4 := kbl Hb4 HZ
   replace Hb5 := kbl Hb5 HZ
   replace Hb6 := kbl Hb6 HZ
   replace HB := ktr' HB HZ
   replace HSS3 := Lib.hid (HSS3.out.later HZ.out (Nat.le_refl _))
   clear HZ
   go_wp2
   go_ret
   exact ⟨by rw [EE.out]; rfl, HB.out⟩
 obtain ⟨hck, hsk⟩ := seaE_zero h0
 obtain ⟨hW, hH, hS, hL0, -⟩ := checkE_zero hck
 simp only at hW hH hS hL0
 by_cases h1 : moE ⟨(d1, d2), (l1, l2)⟩ = 0
 rotate_left
 · obtain ⟨E0, hE0⟩ : ∃ z, moE ⟨(d1, d2), (l1, l2)⟩ = z := ⟨_, rfl⟩
   have EE := Lib.hid (show placeE ⟨WW, HH, SS, ss⟩ (lo, hi) ⟨(d1, d2), (l1, l2)⟩ cell = E0 by unfold placeE groundE; rw [andE_right h0, hE0, andE_left (by rw [← hE0]; exact h1)])
   rw [hE0] at h1
   have hb1 : (E0 == 0) = false := beq_eq_false_iff_ne.2 h1
   have H0 := Lib.hid h0
   have H1 := Lib.hid hE0
   clear hE0 h0 h1 hck hsk
   have HSS3 := Lib.hid hs
   clear hs
   go_enter Tryd.func72, Tryd.ntmps72
   go_upto_region 1 with (fail)
   obtain ⟨Va31, hV⟩ : ∃ V, ((w.alloc (.cells #[.int .i64 (WW), .int .i64 (HH), .int .i64 (SS), .slice A ss.length c] 24)).alloc (.cells #[.int .i64 (lo), .int .i64 (hi)] 26)).alloc (.cells #[.int .i64 (d1), .int .i64 (d2), .int .i64 (l1), .int .i64 (l2)] 40) = V := ⟨_, rfl⟩
   have Kb4 : Hid (Blk Va31 (w.heap.size) 24 #[.int .i64 (WW), .int .i64 (HH), .int .i64 (SS), .slice A ss.length c]) := by rw [← hV]; exact ((Blk.new' _ _ _ (by simp)).alloc _).alloc _
   have Kb5 : Hid (Blk Va31 (w.heap.size + 1) 26 #[.int .i64 (lo), .int .i64 (hi)]) := by rw [← hV]; exact (Blk.new' _ _ _ (by simp)).alloc _
   have Kb6 : Hid (Blk Va31 (w.heap.size + 1 + 1) 40 #[.int .i64 (d1), .int .i64 (d2), .int .i64 (l1), .int .i64 (l2)]) := by rw [← hV]; exact Blk.new' _ _ _ (by simp)
   have GHB : Hid (Below w.heap.size w Va31) := by rw [← hV]; exact (by repeat (first | exact Below.refl _ _ | assumption | refine Below.drew ?_ | refine Below.drewN' ?_ _ | (refine Below.alloc ?_ (by simp <;> omega) _) | (refine Below.setCell ?_ (by simp <;> omega) _)))
   have HZ : Hid (Below w.heap.size w Va31) := GHB
   have GHSS3 := Lib.hid (HSS3.out.later HZ.out (Nat.le_refl _))
   rw [hV]
   clear hV HZ HSS3
   have HB := GHB
   clear GHB
   have HSS3 := GHSS3
   clear GHSS3
   obtain ⟨b6, hqb6⟩ : ∃ b, w.heap.size + 1 + 1 = b := ⟨_, rfl⟩
   obtain ⟨b5, hqb5⟩ : ∃ b, w.heap.size + 1 = b := ⟨_, rfl⟩
   obtain ⟨b4, hqb4⟩ : ∃ b, w.heap.size = b := ⟨_, rfl⟩
   have gb4 : w.heap.size ≤ b4 := by omega
   have gb5 : w.heap.size ≤ b5 := by omega
   have nb5b4 : ¬ b5 = b4 := by omega
   have nb4b5 : ¬ b4 = b5 := by omega
   have gb6 : w.heap.size ≤ b6 := by omega
   have nb6b4 : ¬ b6 = b4 := by omega
   have nb4b6 : ¬ b4 = b6 := by omega
   have nb6b5 : ¬ b6 = b5 := by omega
   have nb5b6 : ¬ b5 = b6 := by omega
   rw [hqb6] at Kb6 ⊢
   clear hqb6
   rw [hqb5] at Kb5 ⊢
   clear hqb5
   have HN : Hid (w.heap.size = b4) := hqb4
   rw [hqb4] at Kb4 ⊢
   clear hqb4
   have Hb4 := Kb4
   clear Kb4
   have Hb5 := Kb5
   clear Kb5
   have Hb6 := Kb6
   clear Kb6
   have cb40 := kcl0 Hb4
   have cb41 := kcl1 Hb4
   have cb42 := kcl2 Hb4
   have cb43 := kcl3 Hb4
   have cb50 := kcl0 Hb5
   have cb51 := kcl1 Hb5
   go_wp2_with fail
   refine (rground_any WW HH SS ss A c lo hi _ HSS3.out).mono ?_
   rintro e Va32 ⟨rfl, hb⟩
   have HZ := Lib.hid hb
   clear hb
   rw [H0.out]
   clear cb40 cb41 cb42 cb43 cb50 cb51
   replace Hb4 := kbl Hb4 HZ
   replace Hb5 := kbl Hb5 HZ
   replace Hb6 := kbl Hb6 HZ
   replace HB := ktr' HB HZ
   replace HSS3 := Lib.hid (HSS3.out.later HZ.out (Nat.le_refl _))
   clear HZ
   have cb60 := kcl0 Hb6
   have cb61 := kcl1 Hb6
   have cb62 := kcl2 Hb6
   have cb63 := kcl3 Hb6
   go_wp2_with fail
   refine (rCheck_any3 d1 d2 l1 l2 _).mono ?_
   rintro e Va33 ⟨rfl, hb⟩
   have HZ := Lib.hid hb
   clear hb
   rw [H1.out]
   clear cb60 cb61 cb62 cb63
   replace Hb4 := kbl Hb4 HZ
   replace Hb5 := kbl Hb5 HZ
   replace Hb6 := kbl Hb6 HZ
   replace HB := ktr' HB HZ
   replace HSS3 := Lib.hid (HSS3.out.later HZ.out (Nat.le_refl _))
   clear HZ
   go_wp2
   go_ret
   exact ⟨by rw [EE.out]; rfl, HB.out⟩
 have H0 := Lib.hid h0
 have H1 := Lib.hid h1
 by_cases h2 : 0 ≤ cell ∧ cell < ss.length
 · have EE := Lib.hid (show placeE ⟨WW, HH, SS, ss⟩ (lo, hi) ⟨(d1, d2), (l1, l2)⟩ cell = 0 by unfold placeE groundE; rw [andE_right h0, andE_right h1, cellE_pos h2])
   have H2 := Lib.hid (show decide (0 ≤ cell ∧ cell ≤ WW * HH - 1) = true from decide_eq_true ⟨h2.1, by omega⟩)
   clear h0 h1 h2 hck hsk
   have HSS3 := Lib.hid hs
   clear hs
   go_enter Tryd.func72, Tryd.ntmps72
   go_upto_region 1 with (fail)
   obtain ⟨Va61, hV⟩ : ∃ V, ((w.alloc (.cells #[.int .i64 (WW), .int .i64 (HH), .int .i64 (SS), .slice A ss.length c] 24)).alloc (.cells #[.int .i64 (lo), .int .i64 (hi)] 26)).alloc (.cells #[.int .i64 (d1), .int .i64 (d2), .int .i64 (l1), .int .i64 (l2)] 40) = V := ⟨_, rfl⟩
   have Kb4 : Hid (Blk Va61 (w.heap.size) 24 #[.int .i64 (WW), .int .i64 (HH), .int .i64 (SS), .slice A ss.length c]) := by rw [← hV]; exact ((Blk.new' _ _ _ (by simp)).alloc _).alloc _
   have Kb5 : Hid (Blk Va61 (w.heap.size + 1) 26 #[.int .i64 (lo), .int .i64 (hi)]) := by rw [← hV]; exact (Blk.new' _ _ _ (by simp)).alloc _
   have Kb6 : Hid (Blk Va61 (w.heap.size + 1 + 1) 40 #[.int .i64 (d1), .int .i64 (d2), .int .i64 (l1), .int .i64 (l2)]) := by rw [← hV]; exact Blk.new' _ _ _ (by simp)
   have GHB : Hid (Below w.heap.size w Va61) := by rw [← hV]; exact (by repeat (first | exact Below.refl _ _ | assumption | refine Below.drew ?_ | refine Below.drewN' ?_ _ | (refine Below.alloc ?_ (by simp <;> omega) _) | (refine Below.setCell ?_ (by simp <;> omega) _)))
   have HZ : Hid (Below w.heap.size w Va61) := GHB
   have GHSS3 := Lib.hid (HSS3.out.later HZ.out (Nat.le_refl _))
   rw [hV]
   clear hV HZ HSS3
   have HB := GHB
   clear GHB
   have HSS3 := GHSS3
   clear GHSS3
   obtain ⟨b6, hqb6⟩ : ∃ b, w.heap.size + 1 + 1 = b := ⟨_, rfl⟩
   obtain ⟨b5, hqb5⟩ : ∃ b, w.heap.size + 1 = b := ⟨_, rfl⟩
   obtain ⟨b4, hqb4⟩ : ∃ b, w.heap.size = b := ⟨_, rfl⟩
   have gb4 : w.heap.size ≤ b4 := by omega
   have gb5 : w.heap.size ≤ b5 := by omega
   have nb5b4 : ¬ b5 = b4 := by omega
   have nb4b5 : ¬ b4 = b5 := by omega
   have gb6 : w.heap.size ≤ b6 := by omega
   have nb6b4 : ¬ b6 = b4 := by omega
   have nb4b6 : ¬ b4 = b6 := by omega
   have nb6b5 : ¬ b6 = b5 := by omega
   have nb5b6 : ¬ b5 = b6 := by omega
   rw [hqb6] at Kb6 ⊢
   clear hqb6
   rw [hqb5] at Kb5 ⊢
   clear hqb5
   have HN : Hid (w.heap.size = b4) := hqb4
   rw [hqb4] at Kb4 ⊢
   clear hqb4
   have Hb4 := Kb4
   clear Kb4
   have Hb5 := Kb5
   clear Kb5
   have Hb6 := Kb6
   clear Kb6
   have cb40 := kcl0 Hb4
   have cb41 := kcl1 Hb4
   have cb42 := kcl2 Hb4
   have cb43 := kcl3 Hb4
   have cb50 := kcl0 Hb5
   have cb51 := kcl1 Hb5
   go_wp2_with fail
   refine (rground_any WW HH SS ss A c lo hi _ HSS3.out).mono ?_
   rintro e Va62 ⟨rfl, hb⟩
   have HZ := Lib.hid hb
   clear hb
   rw [H0.out]
   clear cb40 cb41 cb42 cb43 cb50 cb51
   replace Hb4 := kbl Hb4 HZ
   replace Hb5 := kbl Hb5 HZ
   replace Hb6 := kbl Hb6 HZ
   replace HB := ktr' HB HZ
   replace HSS3 := Lib.hid (HSS3.out.later HZ.out (Nat.le_refl _))
   clear HZ
   have cb60 := kcl0 Hb6
   have cb61 := kcl1 Hb6
   have cb62 := kcl2 Hb6
   have cb63 := kcl3 Hb6
   go_wp2_with fail
   refine (rCheck_any3 d1 d2 l1 l2 _).mono ?_
   rintro e Va63 ⟨rfl, hb⟩
   have HZ := Lib.hid hb
   clear hb
   rw [H1.out]
   clear cb60 cb61 cb62 cb63
   replace Hb4 := kbl Hb4 HZ
   replace Hb5 := kbl Hb5 HZ
   replace Hb6 := kbl Hb6 HZ
   replace HB := ktr' HB HZ
   replace HSS3 := Lib.hid (HSS3.out.later HZ.out (Nat.le_refl _))
   clear HZ
   have cb40 := kcl0 Hb4
   have cb41 := kcl1 Hb4
   have cb42 := kcl2 Hb4
   have cb43 := kcl3 Hb4
   go_wp2_with fail
   refine (ris_any WW HH SS ss A c cell _ hW hH).mono ?_
   rintro e Va64 ⟨rfl, hb⟩
   have HZ := Lib.hid hb
   clear hb
   rw [H2.out]
   clear cb40 cb41 cb42 cb43
   replace Hb4 := kbl Hb4 HZ
   replace Hb5 := kbl Hb5 HZ
   replace Hb6 := kbl Hb6 HZ
   replace HB := ktr' HB HZ
   replace HSS3 := Lib.hid (HSS3.out.later HZ.out (Nat.le_refl _))
   clear HZ
   go_wp2
   go_ret
   exact ⟨by rw [EE.out]; rfl, HB.out⟩
 · have EE := Lib.hid (show placeE ⟨WW, HH, SS, ss⟩ (lo, hi) ⟨(d1, d2), (l1, l2)⟩ cell = 4 by unfold placeE groundE; rw [andE_right h0, andE_right h1, cellE_neg h2])
   have H2 := Lib.hid (show decide (0 ≤ cell ∧ cell ≤ WW * HH - 1) = false from decide_eq_false (fun h => h2 ⟨h.1, by omega⟩))
   clear h0 h1 h2 hck hsk
   have HSS3 := Lib.hid hs
   clear hs
   go_enter Tryd.func72, Tryd.ntmps72
   go_upto_region 1 with (fail)
   obtain ⟨Va91, hV⟩ : ∃ V, ((w.alloc (.cells #[.int .i64 (WW), .int .i64 (HH), .int .i64 (SS), .slice A ss.length c] 24)).alloc (.cells #[.int .i64 (lo), .int .i64 (hi)] 26)).alloc (.cells #[.int .i64 (d1), .int .i64 (d2), .int .i64 (l1), .int .i64 (l2)] 40) = V := ⟨_, rfl⟩
   have Kb4 : Hid (Blk Va91 (w.heap.size) 24 #[.int .i64 (WW), .int .i64 (HH), .int .i64 (SS), .slice A ss.length c]) := by rw [← hV]; exact ((Blk.new' _ _ _ (by simp)).alloc _).alloc _
   have Kb5 : Hid (Blk Va91 (w.heap.size + 1) 26 #[.int .i64 (lo), .int .i64 (hi)]) := by rw [← hV]; exact (Blk.new' _ _ _ (by simp)).alloc _
   have Kb6 : Hid (Blk Va91 (w.heap.size + 1 + 1) 40 #[.int .i64 (d1), .int .i64 (d2), .int .i64 (l1), .int .i64 (l2)]) := by rw [← hV]; exact Blk.new' _ _ _ (by simp)
   have GHB : Hid (Below w.heap.size w Va91) := by rw [← hV]; exact (by repeat (first | exact Below.refl _ _ | assumption | refine Below.drew ?_ | refine Below.drewN' ?_ _ | (refine Below.alloc ?_ (by simp <;> omega) _) | (refine Below.setCell ?_ (by simp <;> omega) _)))
   have HZ : Hid (Below w.heap.size w Va91) := GHB
   have GHSS3 := Lib.hid (HSS3.out.later HZ.out (Nat.le_refl _))
   rw [hV]
   clear hV HZ HSS3
   have HB := GHB
   clear GHB
   have HSS3 := GHSS3
   clear GHSS3
   obtain ⟨b6, hqb6⟩ : ∃ b, w.heap.size + 1 + 1 = b := ⟨_, rfl⟩
   obtain ⟨b5, hqb5⟩ : ∃ b, w.heap.size + 1 = b := ⟨_, rfl⟩
   obtain ⟨b4, hqb4⟩ : ∃ b, w.heap.size = b := ⟨_, rfl⟩
   have gb4 : w.heap.size ≤ b4 := by omega
   have gb5 : w.heap.size ≤ b5 := by omega
   have nb5b4 : ¬ b5 = b4 := by omega
   have nb4b5 : ¬ b4 = b5 := by omega
   have gb6 : w.heap.size ≤ b6 := by omega
   have nb6b4 : ¬ b6 = b4 := by omega
   have nb4b6 : ¬ b4 = b6 := by omega
   have nb6b5 : ¬ b6 = b5 := by omega
   have nb5b6 : ¬ b5 = b6 := by omega
   rw [hqb6] at Kb6 ⊢
   clear hqb6
   rw [hqb5] at Kb5 ⊢
   clear hqb5
   have HN : Hid (w.heap.size = b4) := hqb4
   rw [hqb4] at Kb4 ⊢
   clear hqb4
   have Hb4 := Kb4
   clear Kb4
   have Hb5 := Kb5
   clear Kb5
   have Hb6 := Kb6
   clear Kb6
   have cb40 := kcl0 Hb4
   have cb41 := kcl1 Hb4
   have cb42 := kcl2 Hb4
   have cb43 := kcl3 Hb4
   have cb50 := kcl0 Hb5
   have cb51 := kcl1 Hb5
   go_wp2_with fail
   refine (rground_any WW HH SS ss A c lo hi _ HSS3.out).mono ?_
   rintro e Va92 ⟨rfl, hb⟩
   have HZ := Lib.hid hb
   clear hb
   rw [H0.out]
   clear cb40 cb41 cb42 cb43 cb50 cb51
   replace Hb4 := kbl Hb4 HZ
   replace Hb5 := kbl Hb5 HZ
   replace Hb6 := kbl Hb6 HZ
   replace HB := ktr' HB HZ
   replace HSS3 := Lib.hid (HSS3.out.later HZ.out (Nat.le_refl _))
   clear HZ
   have cb60 := kcl0 Hb6
   have cb61 := kcl1 Hb6
   have cb62 := kcl2 Hb6
   have cb63 := kcl3 Hb6
   go_wp2_with fail
   refine (rCheck_any3 d1 d2 l1 l2 _).mono ?_
   rintro e Va93 ⟨rfl, hb⟩
   have HZ := Lib.hid hb
   clear hb
   rw [H1.out]
   clear cb60 cb61 cb62 cb63
   replace Hb4 := kbl Hb4 HZ
   replace Hb5 := kbl Hb5 HZ
   replace Hb6 := kbl Hb6 HZ
   replace HB := ktr' HB HZ
   replace HSS3 := Lib.hid (HSS3.out.later HZ.out (Nat.le_refl _))
   clear HZ
   have cb40 := kcl0 Hb4
   have cb41 := kcl1 Hb4
   have cb42 := kcl2 Hb4
   have cb43 := kcl3 Hb4
   go_wp2_with fail
   refine (ris_any WW HH SS ss A c cell _ hW hH).mono ?_
   rintro e Va94 ⟨rfl, hb⟩
   have HZ := Lib.hid hb
   clear hb
   rw [H2.out]
   clear cb40 cb41 cb42 cb43
   replace Hb4 := kbl Hb4 HZ
   replace Hb5 := kbl Hb5 HZ
   replace Hb6 := kbl Hb6 HZ
   replace HB := ktr' HB HZ
   replace HSS3 := Lib.hid (HSS3.out.later HZ.out (Nat.le_refl _))
   clear HZ
   go_wp2
   go_ret
   exact ⟨by rw [EE.out]; rfl, HB.out⟩
set_option maxRecDepth 100000 in
set_option maxHeartbeats 4000000 in
theorem rSetup_any (WW HH SS : Int) (ss : List (Int × Int)) (A : Option Addr) (c : Nat) (lo hi d1 d2 l1 l2 cell dir s1 s2 : Int) (w : World) (hs : SpansAt w w.heap.size (.slice A ss.length c) ss) :
 Calls Tryd.prog 26 #[.agg #[.int .i64 (WW), .int .i64 (HH), .int .i64 (SS), .slice A ss.length c], .agg #[.int .i64 lo, .int .i64 hi], .agg #[.int .i64 (d1), .int .i64 (d2), .int .i64 (l1), .int .i64 (l2)], .int .i64 cell, .int .i64 dir, .agg #[.int .i64 s1, .int .i64 s2]] w fun e w' => e = .returned (.tuple #[spV (setupV ⟨WW, HH, SS, ss⟩ (lo, hi) ⟨(d1, d2), (l1, l2)⟩ cell dir (s1, s2)), .int .i64 (setupE ⟨WW, HH, SS, ss⟩ (lo, hi) ⟨(d1, d2), (l1, l2)⟩ cell dir (s1, s2))]) ∧ Below w.heap.size w w' := by
 by_cases h0 : placeE ⟨WW, HH, SS, ss⟩ (lo, hi) ⟨(d1, d2), (l1, l2)⟩ cell = 0
 rotate_left
 · obtain ⟨E0, hE0⟩ : ∃ z, placeE ⟨WW, HH, SS, ss⟩ (lo, hi) ⟨(d1, d2), (l1, l2)⟩ cell = z := ⟨_, rfl⟩
   have EE := Lib.hid (show setupE ⟨WW, HH, SS, ss⟩ (lo, hi) ⟨(d1, d2), (l1, l2)⟩ cell dir (s1, s2) = E0 by unfold setupE; rw [andE_left h0, hE0])
   rw [hE0] at h0
   have EV := Lib.hid (show setupV ⟨WW, HH, SS, ss⟩ (lo, hi) ⟨(d1, d2), (l1, l2)⟩ cell dir (s1, s2) = (0, 0) from if_neg (by rw [EE.out]; exact h0))
   have hb1 : (E0 == 0) = false := beq_eq_false_iff_ne.2 h0
   have H0 := Lib.hid hE0
   clear hE0 h0
   have HSS3 := Lib.hid hs
   clear hs
   go_enter Tryd.func26, Tryd.ntmps26
   go_upto_region 1 with (fail)
   obtain ⟨Va1, hV⟩ : ∃ V, ((((w.alloc (.cells #[.int .i64 (WW), .int .i64 (HH), .int .i64 (SS), .slice A ss.length c] 24)).alloc (.cells #[.int .i64 (lo), .int .i64 (hi)] 26)).alloc (.cells #[.int .i64 (d1), .int .i64 (d2), .int .i64 (l1), .int .i64 (l2)] 40)).alloc (.cells #[.int .i64 (s1), .int .i64 (s2)] 26)).alloc (.cells #[.int .i64 (0), .int .i64 (0)] 26) = V := ⟨_, rfl⟩
   have Kb6 : Hid (Blk Va1 (w.heap.size) 24 #[.int .i64 (WW), .int .i64 (HH), .int .i64 (SS), .slice A ss.length c]) := by rw [← hV]; exact ((((Blk.new' _ _ _ (by simp)).alloc _).alloc _).alloc _).alloc _
   have Kb7 : Hid (Blk Va1 (w.heap.size + 1) 26 #[.int .i64 (lo), .int .i64 (hi)]) := by rw [← hV]; exact (((Blk.new' _ _ _ (by simp)).alloc _).alloc _).alloc _
   have Kb8 : Hid (Blk Va1 (w.heap.size + 1 + 1) 40 #[.int .i64 (d1), .int .i64 (d2), .int .i64 (l1), .int .i64 (l2)]) := by rw [← hV]; exact ((Blk.new' _ _ _ (by simp)).alloc _).alloc _
   have Kb11 : Hid (Blk Va1 (w.heap.size + 1 + 1 + 1) 26 #[.int .i64 (s1), .int .i64 (s2)]) := by rw [← hV]; exact (Blk.new' _ _ _ (by simp)).alloc _
   have Kb12 : Hid (Blk Va1 (w.heap.size + 1 + 1 + 1 + 1) 26 #[.int .i64 (0), .int .i64 (0)]) := by rw [← hV]; exact Blk.new' _ _ _ (by simp)
   have GHB : Hid (Below w.heap.size w Va1) := by rw [← hV]; exact (by repeat (first | exact Below.refl _ _ | assumption | refine Below.drew ?_ | refine Below.drewN' ?_ _ | (refine Below.alloc ?_ (by simp <;> omega) _) | (refine Below.setCell ?_ (by simp <;> omega) _)))
   have HZ : Hid (Below w.heap.size w Va1) := GHB
   have GHSS3 := Lib.hid (HSS3.out.later HZ.out (Nat.le_refl _))
   rw [hV]
   clear hV HZ HSS3
   have HB := GHB
   clear GHB
   have HSS3 := GHSS3
   clear GHSS3
   obtain ⟨b12, hqb12⟩ : ∃ b, w.heap.size + 1 + 1 + 1 + 1 = b := ⟨_, rfl⟩
   obtain ⟨b11, hqb11⟩ : ∃ b, w.heap.size + 1 + 1 + 1 = b := ⟨_, rfl⟩
   obtain ⟨b8, hqb8⟩ : ∃ b, w.heap.size + 1 + 1 = b := ⟨_, rfl⟩
   obtain ⟨b7, hqb7⟩ : ∃ b, w.heap.size + 1 = b := ⟨_, rfl⟩
   obtain ⟨b6, hqb6⟩ : ∃ b, w.heap.size = b := ⟨_, rfl⟩
   have gb6 : w.heap.size ≤ b6 := by omega
   have gb7 : w.heap.size ≤ b7 := by omega
   have nb7b6 : ¬ b7 = b6 := by omega
   have nb6b7 : ¬ b6 = b7 := by omega
   have gb8 : w.heap.size ≤ b8 := by omega
   have nb8b6 : ¬ b8 = b6 := by omega
   have nb6b8 : ¬ b6 = b8 := by omega
   have nb8b7 : ¬ b8 = b7 := by omega
   have nb7b8 : ¬ b7 = b8 := by omega
   have gb11 : w.heap.size ≤ b11 := by omega
   have nb11b6 : ¬ b11 = b6 := by omega
   have nb6b11 : ¬ b6 = b11 := by omega
   have nb11b7 : ¬ b11 = b7 := by omega
   have nb7b11 : ¬ b7 = b11 := by omega
   have nb11b8 : ¬ b11 = b8 := by omega
   have nb8b11 : ¬ b8 = b11 := by omega
   have gb12 : w.heap.size ≤ b12 := by omega
   have nb12b6 : ¬ b12 = b6 := by omega
   have nb6b12 : ¬ b6 = b12 := by omega
   have nb12b7 : ¬ b12 = b7 := by omega
   have nb7b12 : ¬ b7 = b12 := by omega
   have nb12b8 : ¬ b12 = b8 := by omega
   have nb8b12 : ¬ b8 = b12 := by omega
   have nb12b11 : ¬ b12 = b11 := by omega
   have nb11b12 : ¬ b11 = b12 := by omega
   rw [hqb12] at Kb12 ⊢
   clear hqb12
   rw [hqb11] at Kb11 ⊢
   clear hqb11
   rw [hqb8] at Kb8 ⊢
   clear hqb8
   rw [hqb7] at Kb7 ⊢
   clear hqb7
   have HN : Hid (w.heap.size = b6) := hqb6
   rw [hqb6] at Kb6 ⊢
   clear hqb6
   have Hb6 := Kb6
   clear Kb6
   have Hb7 := Kb7
   clear Kb7
   have Hb8 := Kb8
   clear Kb8
   have Hb11 := Kb11
   clear Kb11
   have Hb12 := Kb12
   clear Kb12
   have cb60 := kcl0 Hb6
   have cb61 := kcl1 Hb6
   have cb62 := kcl2 Hb6
   have cb63 := kcl3 Hb6
   have cb70 := kcl0 Hb7
   have cb71 := kcl1 Hb7
   have cb80 := kcl0 Hb8
   have cb81 := kcl1 Hb8
   have cb82 := kcl2 Hb8
   have cb83 := kcl3 Hb8
   go_wp2_with fail
   refine (rplace_any WW HH SS ss A c lo hi d1 d2 l1 l2 cell _ HSS3.out).mono ?_
   rintro e Va2 ⟨rfl, hb⟩
   have HZ := Lib.hid hb
   clear hb
   rw [H0.out]
   clear cb60 cb61 cb62 cb63 cb70 cb71 cb80 cb81 cb82 cb83
   replace Hb6 := kbl Hb6 HZ
   replace Hb7 := kbl Hb7 HZ
   replace Hb8 := kbl Hb8 HZ
   replace Hb11 := kbl Hb11 HZ
   replace Hb12 := kbl Hb12 HZ
   replace HB := ktr' HB HZ
   replace HSS3 := Lib.hid (HSS3.out.later HZ.out (Nat.le_refl _))
   clear HZ
   have cb120 := kcl0 Hb12
   have cb121 := kcl1 Hb12
   have zb120 : Va2.frozen? ⟨b12, 0, none⟩ = false := Hb12.out.frozen 0
   have zb121 : Va2.frozen? ⟨b12, 1, none⟩ = false := Hb12.out.frozen 1
   go_wp2
   have hR := fun x y => span_res2 Hb12.out x y
   refine bodyPost_ret (v := .tuple #[.agg #[.int .i64 (0), .int .i64 (0)], .int .i64 E0]) (by simp [results, Tryd.results26, go_sem, hR]) rfl ⟨by rw [EV.out, EE.out]; rfl, ?_⟩
   exact (HB.out.setCell (p := ⟨b12, 0, none⟩) gb12 _).setCell (p := ⟨b12, 1, none⟩) (by exact gb12) _
 have H0 := Lib.hid h0
 by_cases h1 : 0 ≤ dir ∧ dir ≤ 7
 rotate_left
 · have EE := Lib.hid (show setupE ⟨WW, HH, SS, ss⟩ (lo, hi) ⟨(d1, d2), (l1, l2)⟩ cell dir (s1, s2) = 3 by unfold setupE; rw [andE_right h0, if_neg (fun h => h1 h.1)])
   have EV := Lib.hid (show setupV ⟨WW, HH, SS, ss⟩ (lo, hi) ⟨(d1, d2), (l1, l2)⟩ cell dir (s1, s2) = (0, 0) from if_neg (by rw [EE.out]; decide))
   have H1 := Lib.hid (decide_eq_false h1)
   clear h0 h1
   have HSS3 := Lib.hid hs
   clear hs
   go_enter Tryd.func26, Tryd.ntmps26
   go_upto_region 1 with (fail)
   obtain ⟨Va31, hV⟩ : ∃ V, ((((w.alloc (.cells #[.int .i64 (WW), .int .i64 (HH), .int .i64 (SS), .slice A ss.length c] 24)).alloc (.cells #[.int .i64 (lo), .int .i64 (hi)] 26)).alloc (.cells #[.int .i64 (d1), .int .i64 (d2), .int .i64 (l1), .int .i64 (l2)] 40)).alloc (.cells #[.int .i64 (s1), .int .i64 (s2)] 26)).alloc (.cells #[.int .i64 (0), .int .i64 (0)] 26) = V := ⟨_, rfl⟩
   have Kb6 : Hid (Blk Va31 (w.heap.size) 24 #[.int .i64 (WW), .int .i64 (HH), .int .i64 (SS), .slice A ss.length c]) := by rw [← hV]; exact ((((Blk.new' _ _ _ (by simp)).alloc _).alloc _).alloc _).alloc _
   have Kb7 : Hid (Blk Va31 (w.heap.size + 1) 26 #[.int .i64 (lo), .int .i64 (hi)]) := by rw [← hV]; exact (((Blk.new' _ _ _ (by simp)).alloc _).alloc _).alloc _
   have Kb8 : Hid (Blk Va31 (w.heap.size + 1 + 1) 40 #[.int .i64 (d1), .int .i64 (d2), .int .i64 (l1), .int .i64 (l2)]) := by rw [← hV]; exact ((Blk.new' _ _ _ (by simp)).alloc _).alloc _
   have Kb11 : Hid (Blk Va31 (w.heap.size + 1 + 1 + 1) 26 #[.int .i64 (s1), .int .i64 (s2)]) := by rw [← hV]; exact (Blk.new' _ _ _ (by simp)).alloc _
   have Kb12 : Hid (Blk Va31 (w.heap.size + 1 + 1 + 1 + 1) 26 #[.int .i64 (0), .int .i64 (0)]) := by rw [← hV]; exact Blk.new' _ _ _ (by simp)
   have GHB : Hid (Below w.heap.size w Va31) := by rw [← hV]; exact (by repeat (first | exact Below.refl _ _ | assumption | refine Below.drew ?_ | refine Below.drewN' ?_ _ | (refine Below.alloc ?_ (by simp <;> omega) _) | (refine Below.setCell ?_ (by simp <;> omega) _)))
   have HZ : Hid (Below w.heap.size w Va31) := GHB
   have GHSS3 := Lib.hid (HSS3.out.later HZ.out (Nat.le_refl _))
   rw [hV]
   clear hV HZ HSS3
   have HB := GHB
   clear GHB
   have HSS3 := GHSS3
   clear GHSS3
   obtain ⟨b12, hqb12⟩ : ∃ b, w.heap.size + 1 + 1 + 1 + 1 = b := ⟨_, rfl⟩
   obtain ⟨b11, hqb11⟩ : ∃ b, w.heap.size + 1 + 1 + 1 = b := ⟨_, rfl⟩
   obtain ⟨b8, hqb8⟩ : ∃ b, w.heap.size + 1 + 1 = b := ⟨_, rfl⟩
   obtain ⟨b7, hqb7⟩ : ∃ b, w.heap.size + 1 = b := ⟨_, rfl⟩
   obtain ⟨b6, hqb6⟩ : ∃ b, w.heap.size = b := ⟨_, rfl⟩
   have gb6 : w.heap.size ≤ b6 := by omega
   have gb7 : w.heap.size ≤ b7 := by omega
   have nb7b6 : ¬ b7 = b6 := by omega
   have nb6b7 : ¬ b6 = b7 := by omega
   have gb8 : w.heap.size ≤ b8 := by omega
   have nb8b6 : ¬ b8 = b6 := by omega
   have nb6b8 : ¬ b6 = b8 := by omega
   have nb8b7 : ¬ b8 = b7 := by omega
   have nb7b8 : ¬ b7 = b8 := by omega
   have gb11 : w.heap.size ≤ b11 := by omega
   have nb11b6 : ¬ b11 = b6 := by omega
   have nb6b11 : ¬ b6 = b11 := by omega
   have nb11b7 : ¬ b11 = b7 := by omega
   have nb7b11 : ¬ b7 = b11 := by omega
   have nb11b8 : ¬ b11 = b8 := by omega
   have nb8b11 : ¬ b8 = b11 := by omega
   have gb12 : w.heap.size ≤ b12 := by omega
   have nb12b6 : ¬ b12 = b6 := by omega
   have nb6b12 : ¬ b6 = b12 := by omega
   have nb12b7 : ¬ b12 = b7 := by omega
   have nb7b12 : ¬ b7 = b12 := by omega
   have nb12b8 : ¬ b12 = b8 := by omega
   have nb8b12 : ¬ b8 = b12 := by omega
   have nb12b11 : ¬ b12 = b11 := by omega
   have nb11b12 : ¬ b11 = b12 := by omega
   rw [hqb12] at Kb12 ⊢
   clear hqb12
   rw [hqb11] at Kb11 ⊢
   clear hqb11
   rw [hqb8] at Kb8 ⊢
   clear hqb8
   rw [hqb7] at Kb7 ⊢
   clear hqb7
   have HN : Hid (w.heap.size = b6) := hqb6
   rw [hqb6] at Kb6 ⊢
   clear hqb6
   have Hb6 := Kb6
   clear Kb6
   have Hb7 := Kb7
   clear Kb7
   have Hb8 := Kb8
   clear Kb8
   have Hb11 := Kb11
   clear Kb11
   have Hb12 := Kb12
   clear Kb12
   have cb60 := kcl0 Hb6
   have cb61 := kcl1 Hb6
   have cb62 := kcl2 Hb6
   have cb63 := kcl3 Hb6
   have cb70 := kcl0 Hb7
   have cb71 := kcl1 Hb7
   have cb80 := kcl0 Hb8
   have cb81 := kcl1 Hb8
   have cb82 := kcl2 Hb8
   have cb83 := kcl3 Hb8
   go_wp2_with fail
   refine (rplace_any WW HH SS ss A c lo hi d1 d2 l1 l2 cell _ HSS3.out).mono ?_
   rintro e Va32 ⟨rfl, hb⟩
   have HZ := Lib.hid hb
   clear hb
   rw [H0.out]
   clear cb60 cb61 cb62 cb63 cb70 cb71 cb80 cb81 cb82 cb83
   replace Hb6 := kbl Hb6 HZ
   replace Hb7 := kbl Hb7 HZ
   replace Hb8 := kbl Hb8 HZ
   replace Hb11 := kbl Hb11 HZ
   replace Hb12 := kbl Hb12 HZ
   replace HB := ktr' HB HZ
   replace HSS3 := Lib.hid (HSS3.out.later HZ.out (Nat.le_refl _))
   clear HZ
   go_wp2_with fail
   refine (rin_of H1.out _).mono ?_
   rintro e Va33 ⟨rfl, hb⟩
   have HZ := Lib.hid hb
   clear hb
   replace Hb6 := kbl Hb6 HZ
   replace Hb7 := kbl Hb7 HZ
   replace Hb8 := kbl Hb8 HZ
   replace Hb11 := kbl Hb11 HZ
   replace Hb12 := kbl Hb12 HZ
   replace HB := ktr' HB HZ
   replace HSS3 := Lib.hid (HSS3.out.later HZ.out (Nat.le_refl _))
   clear HZ
   have cb120 := kcl0 Hb12
   have cb121 := kcl1 Hb12
   have zb120 : Va33.frozen? ⟨b12, 0, none⟩ = false := Hb12.out.frozen 0
   have zb121 : Va33.frozen? ⟨b12, 1, none⟩ = false := Hb12.out.frozen 1
   go_wp2
   have hR := fun x y => span_res2 Hb12.out x y
   refine bodyPost_ret (v := .tuple #[.agg #[.int .i64 (0), .int .i64 (0)], .int .i64 3]) (by simp [results, Tryd.results26, go_sem, hR]) rfl ⟨by rw [EV.out, EE.out]; rfl, ?_⟩
   exact (HB.out.setCell (p := ⟨b12, 0, none⟩) gb12 _).setCell (p := ⟨b12, 1, none⟩) (by exact gb12) _
 have H1 := Lib.hid (decide_eq_true h1)
 by_cases h2 : spOk 0 10000 (s1, s2) = true
 rotate_left
 · have EE := Lib.hid (show setupE ⟨WW, HH, SS, ss⟩ (lo, hi) ⟨(d1, d2), (l1, l2)⟩ cell dir (s1, s2) = 3 by unfold setupE; rw [andE_right h0, if_neg (fun h => h2 h.2)])
   have EV := Lib.hid (show setupV ⟨WW, HH, SS, ss⟩ (lo, hi) ⟨(d1, d2), (l1, l2)⟩ cell dir (s1, s2) = (0, 0) from if_neg (by rw [EE.out]; decide))
   have h2 : spOk 0 10000 (s1, s2) = false := by simpa using h2
   have H2 := Lib.hid h2
   clear h0 h1 h2
   have HSS3 := Lib.hid hs
   clear hs
   go_enter Tryd.func26, Tryd.ntmps26
   go_upto_region 1 with (fail)
   obtain ⟨Va61, hV⟩ : ∃ V, ((((w.alloc (.cells #[.int .i64 (WW), .int .i64 (HH), .int .i64 (SS), .slice A ss.length c] 24)).alloc (.cells #[.int .i64 (lo), .int .i64 (hi)] 26)).alloc (.cells #[.int .i64 (d1), .int .i64 (d2), .int .i64 (l1), .int .i64 (l2)] 40)).alloc (.cells #[.int .i64 (s1), .int .i64 (s2)] 26)).alloc (.cells #[.int .i64 (0), .int .i64 (0)] 26) = V := ⟨_, rfl⟩
   have Kb6 : Hid (Blk Va61 (w.heap.size) 24 #[.int .i64 (WW), .int .i64 (HH), .int .i64 (SS), .slice A ss.length c]) := by rw [← hV]; exact ((((Blk.new' _ _ _ (by simp)).alloc _).alloc _).alloc _).alloc _
   have Kb7 : Hid (Blk Va61 (w.heap.size + 1) 26 #[.int .i64 (lo), .int .i64 (hi)]) := by rw [← hV]; exact (((Blk.new' _ _ _ (by simp)).alloc _).alloc _).alloc _
   have Kb8 : Hid (Blk Va61 (w.heap.size + 1 + 1) 40 #[.int .i64 (d1), .int .i64 (d2), .int .i64 (l1), .int .i64 (l2)]) := by rw [← hV]; exact ((Blk.new' _ _ _ (by simp)).alloc _).alloc _
   have Kb11 : Hid (Blk Va61 (w.heap.size + 1 + 1 + 1) 26 #[.int .i64 (s1), .int .i64 (s2)]) := by rw [← hV]; exact (Blk.new' _ _ _ (by simp)).alloc _
   have Kb12 : Hid (Blk Va61 (w.heap.size + 1 + 1 + 1 + 1) 26 #[.int .i64 (0), .int .i64 (0)]) := by rw [← hV]; exact Blk.new' _ _ _ (by simp)
   have GHB : Hid (Below w.heap.size w Va61) := by rw [← hV]; exact (by repeat (first | exact Below.refl _ _ | assumption | refine Below.drew ?_ | refine Below.drewN' ?_ _ | (refine Below.alloc ?_ (by simp <;> omega) _) | (refine Below.setCell ?_ (by simp <;> omega) _)))
   have HZ : Hid (Below w.heap.size w Va61) := GHB
   have GHSS3 := Lib.hid (HSS3.out.later HZ.out (Nat.le_refl _))
   rw [hV]
   clear hV HZ HSS3
   have HB := GHB
   clear GHB
   have HSS3 := GHSS3
   clear GHSS3
   obtain ⟨b12, hqb12⟩ : ∃ b, w.heap.size + 1 + 1 + 1 + 1 = b := ⟨_, rfl⟩
   obtain ⟨b11, hqb11⟩ : ∃ b, w.heap.size + 1 + 1 + 1 = b := ⟨_, rfl⟩
   obtain ⟨b8, hqb8⟩ : ∃ b, w.heap.size + 1 + 1 = b := ⟨_, rfl⟩
   obtain ⟨b7, hqb7⟩ : ∃ b, w.heap.size + 1 = b := ⟨_, rfl⟩
   obtain ⟨b6, hqb6⟩ : ∃ b, w.heap.size = b := ⟨_, rfl⟩
   have gb6 : w.heap.size ≤ b6 := by omega
   have gb7 : w.heap.size ≤ b7 := by omega
   have nb7b6 : ¬ b7 = b6 := by omega
   have nb6b7 : ¬ b6 = b7 := by omega
   have gb8 : w.heap.size ≤ b8 := by omega
   have nb8b6 : ¬ b8 = b6 := by omega
   have nb6b8 : ¬ b6 = b8 := by omega
   have nb8b7 : ¬ b8 = b7 := by omega
   have nb7b8 : ¬ b7 = b8 := by omega
   have gb11 : w.heap.size ≤ b11 := by omega
   have nb11b6 : ¬ b11 = b6 := by omega
   have nb6b11 : ¬ b6 = b11 := by omega
   have nb11b7 : ¬ b11 = b7 := by omega
   have nb7b11 : ¬ b7 = b11 := by omega
   have nb11b8 : ¬ b11 = b8 := by omega
   have nb8b11 : ¬ b8 = b11 := by omega
   have gb12 : w.heap.size ≤ b12 := by omega
   have nb12b6 : ¬ b12 = b6 := by omega
   have nb6b12 : ¬ b6 = b12 := by omega
   have nb12b7 : ¬ b12 = b7 := by omega
   have nb7b12 : ¬ b7 = b12 := by omega
   have nb12b8 : ¬ b12 = b8 := by omega
   have nb8b12 : ¬ b8 = b12 := by omega
   have nb12b11 : ¬ b12 = b11 := by omega
   have nb11b12 : ¬ b11 = b12 := by omega
   rw [hqb12] at Kb12 ⊢
   clear hqb12
   rw [hqb11] at Kb11 ⊢
   clear hqb11
   rw [hqb8] at Kb8 ⊢
   clear hqb8
   rw [hqb7] at Kb7 ⊢
   clear hqb7
   have HN : Hid (w.heap.size = b6) := hqb6
   rw [hqb6] at Kb6 ⊢
   clear hqb6
   have Hb6 := Kb6
   clear Kb6
   have Hb7 := Kb7
   clear Kb7
   have Hb8 := Kb8
   clear Kb8
   have Hb11 := Kb11
   clear Kb11
   have Hb12 := Kb12
   clear Kb12
   have cb60 := kcl0 Hb6
   have cb61 := kcl1 Hb6
   have cb62 := kcl2 Hb6
   have cb63 := kcl3 Hb6
   have cb70 := kcl0 Hb7
   have cb71 := kcl1 Hb7
   have cb80 := kcl0 Hb8
   have cb81 := kcl1 Hb8
   have cb82 := kcl2 Hb8
   have cb83 := kcl3 Hb8
   go_wp2_with fail
   refine (rplace_any WW HH SS ss A c lo hi d1 d2 l1 l2 cell _ HSS3.out).mono ?_
   rintro e Va62 ⟨rfl, hb⟩
   have HZ := Lib.hid hb
   clear hb
   rw [H0.out]
   clear cb60 cb61 cb62 cb63 cb70 cb71 cb80 cb81 cb82 cb83
   replace Hb6 := kbl Hb6 HZ
   replace Hb7 := kbl Hb7 HZ
   replace Hb8 := kbl Hb8 HZ
   replace Hb11 := kbl Hb11 HZ
   replace Hb12 := kbl Hb12 HZ
   replace HB := ktr' HB HZ
   replace HSS3 := Lib.hid (HSS3.out.later HZ.out (Nat.le_refl _))
   clear HZ
   go_wp2_with fail
   refine (rin_of H1.out _).mono ?_
   rintro e Va63 ⟨rfl, hb⟩
   have HZ := Lib.hid hb
   clear hb
   replace Hb6 := kbl Hb6 HZ
   replace Hb7 := kbl Hb7 HZ
   replace Hb8 := kbl Hb8 HZ
   replace Hb11 := kbl Hb11 HZ
   replace Hb12 := kbl Hb12 HZ
   replace HB := ktr' HB HZ
   replace HSS3 := Lib.hid (HSS3.out.later HZ.out (Nat.le_refl _))
   clear HZ
   have cb110 := kcl0 Hb11
   have cb111 := kcl1 Hb11
   go_wp2_with fail
   refine (rspan_of H2.out _).mono ?_
   rintro e Va64 ⟨rfl, hb⟩
   have HZ := Lib.hid hb
   clear hb
   clear cb110 cb111
   replace Hb6 := kbl Hb6 HZ
   replace Hb7 := kbl Hb7 HZ
   replace Hb8 := kbl Hb8 HZ
   replace Hb11 := kbl Hb11 HZ
   replace Hb12 := kbl Hb12 HZ
   replace HB := ktr' HB HZ
   replace HSS3 := Lib.hid (HSS3.out.later HZ.out (Nat.le_refl _))
   clear HZ
   have cb120 := kcl0 Hb12
   have cb121 := kcl1 Hb12
   have zb120 : Va64.frozen? ⟨b12, 0, none⟩ = false := Hb12.out.frozen 0
   have zb121 : Va64.frozen? ⟨b12, 1, none⟩ = false := Hb12.out.frozen 1
   go_wp2
   have hR := fun x y => span_res2 Hb12.out x y
   refine bodyPost_ret (v := .tuple #[.agg #[.int .i64 (0), .int .i64 (0)], .int .i64 3]) (by simp [results, Tryd.results26, go_sem, hR]) rfl ⟨by rw [EV.out, EE.out]; rfl, ?_⟩
   exact (HB.out.setCell (p := ⟨b12, 0, none⟩) gb12 _).setCell (p := ⟨b12, 1, none⟩) (by exact gb12) _
 · have EE := Lib.hid (show setupE ⟨WW, HH, SS, ss⟩ (lo, hi) ⟨(d1, d2), (l1, l2)⟩ cell dir (s1, s2) = 0 by unfold setupE; rw [andE_right h0, if_pos ⟨h1, h2⟩])
   have H2 := Lib.hid h2
   obtain ⟨⟨hck, hsk⟩, hm, hcc⟩ := placeE_zero h0
   obtain ⟨d, rfl⟩ : ∃ k : Nat, dir = (k : Int) := ⟨dir.toNat, by omega⟩
   have hd8 : d < 8 := by omega
   obtain ⟨⟨z1, z2⟩, hz⟩ : ∃ z, setupZ ⟨WW, HH, SS, ss⟩ (lo, hi) ⟨(d1, d2), (l1, l2)⟩ cell d (s1, s2) = z := ⟨_, rfl⟩
   have EV := Lib.hid (show setupV ⟨WW, HH, SS, ss⟩ (lo, hi) ⟨(d1, d2), (l1, l2)⟩ cell (d : Int) (s1, s2) = (z1, z2) by unfold setupV; rw [if_pos EE.out, Int.toNat_natCast, hz])
   have HV := Lib.hid hz
   have HD8 := Lib.hid hd8
   have HCK := Lib.hid hck
   have HSK := Lib.hid hsk
   have HM := Lib.hid hm
   have HSPD := Lib.hid h2
   have HC := Lib.hid hcc
   clear h0 h1 h2 hck hsk hm hcc hd8 hz
   have HSS3 := Lib.hid hs
   clear hs
   go_enter Tryd.func26, Tryd.ntmps26
   go_upto_region 1 with (fail)
   obtain ⟨Va91, hV⟩ : ∃ V, ((((w.alloc (.cells #[.int .i64 (WW), .int .i64 (HH), .int .i64 (SS), .slice A ss.length c] 24)).alloc (.cells #[.int .i64 (lo), .int .i64 (hi)] 26)).alloc (.cells #[.int .i64 (d1), .int .i64 (d2), .int .i64 (l1), .int .i64 (l2)] 40)).alloc (.cells #[.int .i64 (s1), .int .i64 (s2)] 26)).alloc (.cells #[.int .i64 (0), .int .i64 (0)] 26) = V := ⟨_, rfl⟩
   have Kb6 : Hid (Blk Va91 (w.heap.size) 24 #[.int .i64 (WW), .int .i64 (HH), .int .i64 (SS), .slice A ss.length c]) := by rw [← hV]; exact ((((Blk.new' _ _ _ (by simp)).alloc _).alloc _).alloc _).alloc _
   have Kb7 : Hid (Blk Va91 (w.heap.size + 1) 26 #[.int .i64 (lo), .int .i64 (hi)]) := by rw [← hV]; exact (((Blk.new' _ _ _ (by simp)).alloc _).alloc _).alloc _
   have Kb8 : Hid (Blk Va91 (w.heap.size + 1 + 1) 40 #[.int .i64 (d1), .int .i64 (d2), .int .i64 (l1), .int .i64 (l2)]) := by rw [← hV]; exact ((Blk.new' _ _ _ (by simp)).alloc _).alloc _
   have Kb11 : Hid (Blk Va91 (w.heap.size + 1 + 1 + 1) 26 #[.int .i64 (s1), .int .i64 (s2)]) := by rw [← hV]; exact (Blk.new' _ _ _ (by simp)).alloc _
   have Kb12 : Hid (Blk Va91 (w.heap.size + 1 + 1 + 1 + 1) 26 #[.int .i64 (0), .int .i64 (0)]) := by rw [← hV]; exact Blk.new' _ _ _ (by simp)
   have GHB : Hid (Below w.heap.size w Va91) := by rw [← hV]; exact (by repeat (first | exact Below.refl _ _ | assumption | refine Below.drew ?_ | refine Below.drewN' ?_ _ | (refine Below.alloc ?_ (by simp <;> omega) _) | (refine Below.setCell ?_ (by simp <;> omega) _)))
   have HZ : Hid (Below w.heap.size w Va91) := GHB
   have GHSS3 := Lib.hid (HSS3.out.later HZ.out (Nat.le_refl _))
   rw [hV]
   clear hV HZ HSS3
   have HB := GHB
   clear GHB
   have HSS3 := GHSS3
   clear GHSS3
   obtain ⟨b12, hqb12⟩ : ∃ b, w.heap.size + 1 + 1 + 1 + 1 = b := ⟨_, rfl⟩
   obtain ⟨b11, hqb11⟩ : ∃ b, w.heap.size + 1 + 1 + 1 = b := ⟨_, rfl⟩
   obtain ⟨b8, hqb8⟩ : ∃ b, w.heap.size + 1 + 1 = b := ⟨_, rfl⟩
   obtain ⟨b7, hqb7⟩ : ∃ b, w.heap.size + 1 = b := ⟨_, rfl⟩
   obtain ⟨b6, hqb6⟩ : ∃ b, w.heap.size = b := ⟨_, rfl⟩
   have gb6 : w.heap.size ≤ b6 := by omega
   have gb7 : w.heap.size ≤ b7 := by omega
   have nb7b6 : ¬ b7 = b6 := by omega
   have nb6b7 : ¬ b6 = b7 := by omega
   have gb8 : w.heap.size ≤ b8 := by omega
   have nb8b6 : ¬ b8 = b6 := by omega
   have nb6b8 : ¬ b6 = b8 := by omega
   have nb8b7 : ¬ b8 = b7 := by omega
   have nb7b8 : ¬ b7 = b8 := by omega
   have gb11 : w.heap.size ≤ b11 := by omega
   have nb11b6 : ¬ b11 = b6 := by omega
   have nb6b11 : ¬ b6 = b11 := by omega
   have nb11b7 : ¬ b11 = b7 := by omega
   have nb7b11 : ¬ b7 = b11 := by omega
   have nb11b8 : ¬ b11 = b8 := by omega
   have nb8b11 : ¬ b8 = b11 := by omega
   have gb12 : w.heap.size ≤ b12 := by omega
   have nb12b6 : ¬ b12 = b6 := by omega
   have nb6b12 : ¬ b6 = b12 := by omega
   have nb12b7 : ¬ b12 = b7 := by omega
   have nb7b12 : ¬ b7 = b12 := by omega
   have nb12b8 : ¬ b12 = b8 := by omega
   have nb8b12 : ¬ b8 = b12 := by omega
   have nb12b11 : ¬ b12 = b11 := by omega
   have nb11b12 : ¬ b11 = b12 := by omega
   rw [hqb12] at Kb12 ⊢
   clear hqb12
   rw [hqb11] at Kb11 ⊢
   clear hqb11
   rw [hqb8] at Kb8 ⊢
   clear hqb8
   rw [hqb7] at Kb7 ⊢
   clear hqb7
   have HN : Hid (w.heap.size = b6) := hqb6
   rw [hqb6] at Kb6 ⊢
   clear hqb6
   have Hb6 := Kb6
   clear Kb6
   have Hb7 := Kb7
   clear Kb7
   have Hb8 := Kb8
   clear Kb8
   have Hb11 := Kb11
   clear Kb11
   have Hb12 := Kb12
   clear Kb12
   have cb60 := kcl0 Hb6
   have cb61 := kcl1 Hb6
   have cb62 := kcl2 Hb6
   have cb63 := kcl3 Hb6
   have cb70 := kcl0 Hb7
   have cb71 := kcl1 Hb7
   have cb80 := kcl0 Hb8
   have cb81 := kcl1 Hb8
   have cb82 := kcl2 Hb8
   have cb83 := kcl3 Hb8
   go_wp2_with fail
   refine (rplace_any WW HH SS ss A c lo hi d1 d2 l1 l2 cell _ HSS3.out).mono ?_
   rintro e Va92 ⟨rfl, hb⟩
   have HZ := Lib.hid hb
   clear hb
   rw [H0.out]
   clear cb60 cb61 cb62 cb63 cb70 cb71 cb80 cb81 cb82 cb83
   replace Hb6 := kbl Hb6 HZ
   replace Hb7 := kbl Hb7 HZ
   replace Hb8 := kbl Hb8 HZ
   replace Hb11 := kbl Hb11 HZ
   replace Hb12 := kbl Hb12 HZ
   replace HB := ktr' HB HZ
   replace HSS3 := Lib.hid (HSS3.out.later HZ.out (Nat.le_refl _))
   clear HZ
   go_wp2_with fail
   refine (rin_of H1.out _).mono ?_
   rintro e Va93 ⟨rfl, hb⟩
   have HZ := Lib.hid hb
   clear hb
   replace Hb6 := kbl Hb6 HZ
   replace Hb7 := kbl Hb7 HZ
   replace Hb8 := kbl Hb8 HZ
   replace Hb11 := kbl Hb11 HZ
   replace Hb12 := kbl Hb12 HZ
   replace HB := ktr' HB HZ
   replace HSS3 := Lib.hid (HSS3.out.later HZ.out (Nat.le_refl _))
   clear HZ
   have cb110 := kcl0 Hb11
   have cb111 := kcl1 Hb11
   go_wp2_with fail
   refine (rspan_of H2.out _).mono ?_
   rintro e Va94 ⟨rfl, hb⟩
   have HZ := Lib.hid hb
   clear hb
   clear cb110 cb111
   replace Hb6 := kbl Hb6 HZ
   replace Hb7 := kbl Hb7 HZ
   replace Hb8 := kbl Hb8 HZ
   replace Hb11 := kbl Hb11 HZ
   replace Hb12 := kbl Hb12 HZ
   replace HB := ktr' HB HZ
   replace HSS3 := Lib.hid (HSS3.out.later HZ.out (Nat.le_refl _))
   clear HZ
   have cb60 := kcl0 Hb6
   have cb61 := kcl1 Hb6
   have cb62 := kcl2 Hb6
   have cb63 := kcl3 Hb6
   have cb70 := kcl0 Hb7
   have cb71 := kcl1 Hb7
   have cb80 := kcl0 Hb8
   have cb81 := kcl1 Hb8
   have cb82 := kcl2 Hb8
   have cb83 := kcl3 Hb8
   have cb110 := kcl0 Hb11
   have cb111 := kcl1 Hb11
   go_wp2_with fail
   refine (rsetup_any WW HH SS ss A c lo hi d1 d2 l1 l2 cell d s1 s2 _ HD8.out HCK.out HSK.out HM.out HSPD.out HC.out HSS3.out).mono ?_
   rintro e Va95 ⟨rfl, hb⟩
   have HZ := Lib.hid hb
   clear hb
   rw [HV.out]
   clear cb60 cb61 cb62 cb63 cb70 cb71 cb80 cb81 cb82 cb83 cb110 cb111
   replace Hb6 := kbl Hb6 HZ
   replace Hb7 := kbl Hb7 HZ
   replace Hb8 := kbl Hb8 HZ
   replace Hb11 := kbl Hb11 HZ
   replace Hb12 := kbl Hb12 HZ
   replace HB := ktr' HB HZ
   replace HSS3 := Lib.hid (HSS3.out.later HZ.out (Nat.le_refl _))
   clear HZ
   have cb120 := kcl0 Hb12
   have cb121 := kcl1 Hb12
   have zb120 : Va95.frozen? ⟨b12, 0, none⟩ = false := Hb12.out.frozen 0
   have zb121 : Va95.frozen? ⟨b12, 1, none⟩ = false := Hb12.out.frozen 1
   go_wp2
   have hR := fun x y => span_res2 Hb12.out x y
   refine bodyPost_ret (v := .tuple #[.agg #[.int .i64 (z1), .int .i64 (z2)], .int .i64 0]) (by simp [results, Tryd.results26, go_sem, hR]) rfl ⟨by rw [EV.out, EE.out]; rfl, ?_⟩
   exact (HB.out.setCell (p := ⟨b12, 0, none⟩) gb12 _).setCell (p := ⟨b12, 1, none⟩) (by exact gb12) _
end Go.Proofs.YtdhcdgfpkjdihaaDoor.Sg
