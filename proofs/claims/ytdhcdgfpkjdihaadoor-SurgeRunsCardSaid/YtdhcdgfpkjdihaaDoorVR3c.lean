/-
  Layer 3: checks, of the reference.
-/
import Derived.Test.YtdhcdgfpkjdihaaDoorVR3a
import Derived.Test.YtdhcdgfpkjdihaaDoorVA3e
set_option linter.unusedSimpArgs false
set_option linter.unusedVariables false
namespace Go.Proofs.YtdhcdgfpkjdihaaDoor.Sg
open Go.RowKit
theorem rspan_of {a b lo hi : Int} {v : Bool} (h : spOk lo hi (a, b) = v) (w : World) :
 Calls Tryd.prog 67 #[.agg #[.int .i64 a, .int .i64 b], .int .i64 lo, .int .i64 hi] w fun e w' => e = .returned (.bool v) ∧ Below w.heap.size w w' := by
 subst h
 exact rspan_any a b lo hi w
theorem rin_of {n lo hi : Int} {v : Bool} (h : decide (lo ≤ n ∧ n ≤ hi) = v) (w : World) :
 Calls Tryd.prog 64 #[.int .i64 n, .int .i64 lo, .int .i64 hi] w fun e w' => e = .returned (.bool v) ∧ Below w.heap.size w w' := by
 subst h
 exact (rwithin_any n lo hi w).mono fun e w' ⟨h1, h2⟩ => ⟨h1, by rw [← h2]; exact Below.refl _ _⟩
set_option maxRecDepth 100000 in
set_option maxHeartbeats 2000000 in
theorem rCheck_any3 (d1 d2 l1 l2 : Int) (w : World) :
 Calls Tryd.prog 20 #[.agg #[.int .i64 (d1), .int .i64 (d2), .int .i64 (l1), .int .i64 (l2)]] w fun e w' => e = .returned (.int .i64 (moE ⟨(d1, d2), (l1, l2)⟩)) ∧ Below w.heap.size w w' := by
 by_cases h0 : spOk 1 10000 (d1, d2) = true
 ·
  by_cases h1 : spOk 1 1024 (l1, l2) = true
  ·
   have EE := Lib.hid (show moE ⟨(d1, d2), (l1, l2)⟩ = 0 by (unfold moE; simp [*]))
   have H0 := Lib.hid h0
   clear h0
   have H1 := Lib.hid h1
   clear h1
   go_enter Tryd.func20, Tryd.ntmps20
   go_upto_region 1 with (fail)
   obtain ⟨Va1, hV⟩ : ∃ V, w.alloc (.cells #[.int .i64 (d1), .int .i64 (d2), .int .i64 (l1), .int .i64 (l2)] 40) = V := ⟨_, rfl⟩
   have Kb1 : Hid (Blk Va1 (w.heap.size) 40 #[.int .i64 (d1), .int .i64 (d2), .int .i64 (l1), .int .i64 (l2)]) := by rw [← hV]; exact Blk.new' _ _ _ (by simp)
   have GHB : Hid (Below w.heap.size w Va1) := by rw [← hV]; exact (by repeat (first | exact Below.refl _ _ | assumption | refine Below.drew ?_ | refine Below.drewN' ?_ _ | (refine Below.alloc ?_ (by simp <;> omega) _) | (refine Below.setCell ?_ (by simp <;> omega) _)))
   have HZ : Hid (Below w.heap.size w Va1) := GHB
   rw [hV]
   clear hV HZ
   have HB := GHB
   clear GHB
   obtain ⟨b1, hqb1⟩ : ∃ b, w.heap.size = b := ⟨_, rfl⟩
   have gb1 : w.heap.size ≤ b1 := by omega
   have HN : Hid (w.heap.size = b1) := hqb1
   rw [hqb1] at Kb1 ⊢
   clear hqb1
   have Hb1 := Kb1
   clear Kb1
   have cb10 := kcl0 Hb1
   have cb11 := kcl1 Hb1
   have cb12 := kcl2 Hb1
   have cb13 := kcl3 Hb1
   go_wp2_with fail
   refine (rspan_of H0.out _).mono ?_
   rintro e Va2 ⟨rfl, hb⟩
   have HZ := Lib.hid hb
   clear hb
   clear cb10 cb11 cb12 cb13
   replace Hb1 := kbl Hb1 HZ
   replace HB := ktr' HB HZ
   clear HZ
   have cb10 := kcl0 Hb1
   have cb11 := kcl1 Hb1
   have cb12 := kcl2 Hb1
   have cb13 := kcl3 Hb1
   go_wp2_with fail
   refine (rspan_of H1.out _).mono ?_
   rintro e Va3 ⟨rfl, hb⟩
   have HZ := Lib.hid hb
   clear hb
   clear cb10 cb11 cb12 cb13
   replace Hb1 := kbl Hb1 HZ
   replace HB := ktr' HB HZ
   clear HZ
   go_wp2
   go_ret
   exact ⟨by rw [EE.out]; rfl, HB.out⟩
  ·
   have h1 : spOk 1 1024 (l1, l2) = false := by simpa using h1
   have EE := Lib.hid (show moE ⟨(d1, d2), (l1, l2)⟩ = 3 by (unfold moE; simp [*]))
   have H0 := Lib.hid h0
   clear h0
   have H1 := Lib.hid h1
   clear h1
   go_enter Tryd.func20, Tryd.ntmps20
   go_upto_region 1 with (fail)
   obtain ⟨Va1, hV⟩ : ∃ V, w.alloc (.cells #[.int .i64 (d1), .int .i64 (d2), .int .i64 (l1), .int .i64 (l2)] 40) = V := ⟨_, rfl⟩
   have Kb1 : Hid (Blk Va1 (w.heap.size) 40 #[.int .i64 (d1), .int .i64 (d2), .int .i64 (l1), .int .i64 (l2)]) := by rw [← hV]; exact Blk.new' _ _ _ (by simp)
   have GHB : Hid (Below w.heap.size w Va1) := by rw [← hV]; exact (by repeat (first | exact Below.refl _ _ | assumption | refine Below.drew ?_ | refine Below.drewN' ?_ _ | (refine Below.alloc ?_ (by simp <;> omega) _) | (refine Below.setCell ?_ (by simp <;> omega) _)))
   have HZ : Hid (Below w.heap.size w Va1) := GHB
   rw [hV]
   clear hV HZ
   have HB := GHB
   clear GHB
   obtain ⟨b1, hqb1⟩ : ∃ b, w.heap.size = b := ⟨_, rfl⟩
   have gb1 : w.heap.size ≤ b1 := by omega
   have HN : Hid (w.heap.size = b1) := hqb1
   rw [hqb1] at Kb1 ⊢
   clear hqb1
   have Hb1 := Kb1
   clear Kb1
   have cb10 := kcl0 Hb1
   have cb11 := kcl1 Hb1
   have cb12 := kcl2 Hb1
   have cb13 := kcl3 Hb1
   go_wp2_with fail
   refine (rspan_of H0.out _).mono ?_
   rintro e Va2 ⟨rfl, hb⟩
   have HZ := Lib.hid hb
   clear hb
   clear cb10 cb11 cb12 cb13
   replace Hb1 := kbl Hb1 HZ
   replace HB := ktr' HB HZ
   clear HZ
   have cb10 := kcl0 Hb1
   have cb11 := kcl1 Hb1
   have cb12 := kcl2 Hb1
   have cb13 := kcl3 Hb1
   go_wp2_with fail
   refine (rspan_of H1.out _).mono ?_
   rintro e Va3 ⟨rfl, hb⟩
   have HZ := Lib.hid hb
   clear hb
   clear cb10 cb11 cb12 cb13
   replace Hb1 := kbl Hb1 HZ
   replace HB := ktr' HB HZ
   clear HZ
   go_wp2
   go_ret
   exact ⟨by rw [EE.out]; rfl, HB.out⟩
 ·
  have h0 : spOk 1 10000 (d1, d2) = false := by simpa using h0
  have EE := Lib.hid (show moE ⟨(d1, d2), (l1, l2)⟩ = 3 by (unfold moE; simp [*]))
  have H0 := Lib.hid h0
  clear h0
  go_enter Tryd.func20, Tryd.ntmps20
  go_upto_region 1 with (fail)
  obtain ⟨Va1, hV⟩ : ∃ V, w.alloc (.cells #[.int .i64 (d1), .int .i64 (d2), .int .i64 (l1), .int .i64 (l2)] 40) = V := ⟨_, rfl⟩
  have Kb1 : Hid (Blk Va1 (w.heap.size) 40 #[.int .i64 (d1), .int .i64 (d2), .int .i64 (l1), .int .i64 (l2)]) := by rw [← hV]; exact Blk.new' _ _ _ (by simp)
  have GHB : Hid (Below w.heap.size w Va1) := by rw [← hV]; exact (by repeat (first | exact Below.refl _ _ | assumption | refine Below.drew ?_ | refine Below.drewN' ?_ _ | (refine Below.alloc ?_ (by simp <;> omega) _) | (refine Below.setCell ?_ (by simp <;> omega) _)))
  have HZ : Hid (Below w.heap.size w Va1) := GHB
  rw [hV]
  clear hV HZ
  have HB := GHB
  clear GHB
  obtain ⟨b1, hqb1⟩ : ∃ b, w.heap.size = b := ⟨_, rfl⟩
  have gb1 : w.heap.size ≤ b1 := by omega
  have HN : Hid (w.heap.size = b1) := hqb1
  rw [hqb1] at Kb1 ⊢
  clear hqb1
  have Hb1 := Kb1
  clear Kb1
  have cb10 := kcl0 Hb1
  have cb11 := kcl1 Hb1
  have cb12 := kcl2 Hb1
  have cb13 := kcl3 Hb1
  go_wp2_with fail
  refine (rspan_of H0.out _).mono ?_
  rintro e Va2 ⟨rfl, hb⟩
  have HZ := Lib.hid hb
  clear hb
  clear cb10 cb11 cb12 cb13
  replace Hb1 := kbl Hb1 HZ
  replace HB := ktr' HB HZ
  clear HZ
  go_wp2
  go_ret
  exact ⟨by rw [EE.out]; rfl, HB.out⟩
set_option maxRecDepth 100000 in
set_option maxHeartbeats 2000000 in
theorem rCheckWind_any (s1 s2 n p1 p2 : Int) (w : World) :
 Calls Tryd.prog 23 #[.agg #[.int .i64 (s1), .int .i64 (s2), .int .i64 (n), .int .i64 (p1), .int .i64 (p2)]] w fun e w' => e = .returned (.int .i64 (wiE ⟨(s1, s2), n, (p1, p2)⟩)) ∧ Below w.heap.size w w' := by
 by_cases h0 : spOk 0 10000 (s1, s2) = true
 ·
  by_cases h1 : decide (1 ≤ n ∧ n ≤ 255) = true
  ·
   by_cases h2 : spOk (-20000) 20000 (p1, p2) = true
   ·
    have EE := Lib.hid (show wiE ⟨(s1, s2), n, (p1, p2)⟩ = 0 by (unfold wiE; simp only [decide_eq_true_iff, decide_eq_false_iff_not] at *; simp [*]; try omega))
    have H0 := Lib.hid h0
    clear h0
    have H1 := Lib.hid h1
    clear h1
    have H2 := Lib.hid h2
    clear h2
    go_enter Tryd.func23, Tryd.ntmps23
    go_upto_region 1 with (fail)
    obtain ⟨Va1, hV⟩ : ∃ V, w.alloc (.cells #[.int .i64 (s1), .int .i64 (s2), .int .i64 (n), .int .i64 (p1), .int .i64 (p2)] 44) = V := ⟨_, rfl⟩
    have Kb1 : Hid (Blk Va1 (w.heap.size) 44 #[.int .i64 (s1), .int .i64 (s2), .int .i64 (n), .int .i64 (p1), .int .i64 (p2)]) := by rw [← hV]; exact Blk.new' _ _ _ (by simp)
    have GHB : Hid (Below w.heap.size w Va1) := by rw [← hV]; exact (by repeat (first | exact Below.refl _ _ | assumption | refine Below.drew ?_ | refine Below.drewN' ?_ _ | (refine Below.alloc ?_ (by simp <;> omega) _) | (refine Below.setCell ?_ (by simp <;> omega) _)))
    have HZ : Hid (Below w.heap.size w Va1) := GHB
    rw [hV]
    clear hV HZ
    have HB := GHB
    clear GHB
    obtain ⟨b1, hqb1⟩ : ∃ b, w.heap.size = b := ⟨_, rfl⟩
    have gb1 : w.heap.size ≤ b1 := by omega
    have HN : Hid (w.heap.size = b1) := hqb1
    rw [hqb1] at Kb1 ⊢
    clear hqb1
    have Hb1 := Kb1
    clear Kb1
    have cb10 := kcl0 Hb1
    have cb11 := kcl1 Hb1
    have cb12 := kcl2 Hb1
    have cb13 := kcl3 Hb1
    have cb14 := kcl4 Hb1
    go_wp2_with fail
    refine (rspan_of H0.out _).mono ?_
    rintro e Va2 ⟨rfl, hb⟩
    have HZ := Lib.hid hb
    clear hb
    clear cb10 cb11 cb12 cb13 cb14
    replace Hb1 := kbl Hb1 HZ
    replace HB := ktr' HB HZ
    clear HZ
    have cb10 := kcl0 Hb1
    have cb11 := kcl1 Hb1
    have cb12 := kcl2 Hb1
    have cb13 := kcl3 Hb1
    have cb14 := kcl4 Hb1
    go_wp2_with fail
    refine (rin_of H1.out _).mono ?_
    rintro e Va3 ⟨rfl, hb⟩
    have HZ := Lib.hid hb
    clear hb
    clear cb10 cb11 cb12 cb13 cb14
    replace Hb1 := kbl Hb1 HZ
    replace HB := ktr' HB HZ
    clear HZ
    have cb10 := kcl0 Hb1
    have cb11 := kcl1 Hb1
    have cb12 := kcl2 Hb1
    have cb13 := kcl3 Hb1
    have cb14 := kcl4 Hb1
    go_wp2_with fail
    refine (rspan_of H2.out _).mono ?_
    rintro e Va4 ⟨rfl, hb⟩
    have HZ := Lib.hid hb
    clear hb
    clear cb10 cb11 cb12 cb13 cb14
    replace Hb1 := kbl Hb1 HZ
    replace HB := ktr' HB HZ
    clear HZ
    go_wp2
    go_ret
    exact ⟨by rw [EE.out]; rfl, HB.out⟩
   ·
    have h2 : spOk (-20000) 20000 (p1, p2) = false := by simpa using h2
    have EE := Lib.hid (show wiE ⟨(s1, s2), n, (p1, p2)⟩ = 3 by (unfold wiE; simp only [decide_eq_true_iff, decide_eq_false_iff_not] at *; simp [*]; try omega))
    have H0 := Lib.hid h0
    clear h0
    have H1 := Lib.hid h1
    clear h1
    have H2 := Lib.hid h2
    clear h2
    go_enter Tryd.func23, Tryd.ntmps23
    go_upto_region 1 with (fail)
    obtain ⟨Va1, hV⟩ : ∃ V, w.alloc (.cells #[.int .i64 (s1), .int .i64 (s2), .int .i64 (n), .int .i64 (p1), .int .i64 (p2)] 44) = V := ⟨_, rfl⟩
    have Kb1 : Hid (Blk Va1 (w.heap.size) 44 #[.int .i64 (s1), .int .i64 (s2), .int .i64 (n), .int .i64 (p1), .int .i64 (p2)]) := by rw [← hV]; exact Blk.new' _ _ _ (by simp)
    have GHB : Hid (Below w.heap.size w Va1) := by rw [← hV]; exact (by repeat (first | exact Below.refl _ _ | assumption | refine Below.drew ?_ | refine Below.drewN' ?_ _ | (refine Below.alloc ?_ (by simp <;> omega) _) | (refine Below.setCell ?_ (by simp <;> omega) _)))
    have HZ : Hid (Below w.heap.size w Va1) := GHB
    rw [hV]
    clear hV HZ
    have HB := GHB
    clear GHB
    obtain ⟨b1, hqb1⟩ : ∃ b, w.heap.size = b := ⟨_, rfl⟩
    have gb1 : w.heap.size ≤ b1 := by omega
    have HN : Hid (w.heap.size = b1) := hqb1
    rw [hqb1] at Kb1 ⊢
    clear hqb1
    have Hb1 := Kb1
    clear Kb1
    have cb10 := kcl0 Hb1
    have cb11 := kcl1 Hb1
    have cb12 := kcl2 Hb1
    have cb13 := kcl3 Hb1
    have cb14 := kcl4 Hb1
    go_wp2_with fail
    refine (rspan_of H0.out _).mono ?_
    rintro e Va2 ⟨rfl, hb⟩
    have HZ := Lib.hid hb
    clear hb
    clear cb10 cb11 cb12 cb13 cb14
    replace Hb1 := kbl Hb1 HZ
    replace HB := ktr' HB HZ
    clear HZ
    have cb10 := kcl0 Hb1
    have cb11 := kcl1 Hb1
    have cb12 := kcl2 Hb1
    have cb13 := kcl3 Hb1
    have cb14 := kcl4 Hb1
    go_wp2_with fail
    refine (rin_of H1.out _).mono ?_
    rintro e Va3 ⟨rfl, hb⟩
    have HZ := Lib.hid hb
    clear hb
    clear cb10 cb11 cb12 cb13 cb14
    replace Hb1 := kbl Hb1 HZ
    replace HB := ktr' HB HZ
    clear HZ
    have cb10 := kcl0 Hb1
    have cb11 := kcl1 Hb1
    have cb12 := kcl2 Hb1
    have cb13 := kcl3 Hb1
    have cb14 := kcl4 Hb1
    go_wp2_with fail
    refine (rspan_of H2.out _).mono ?_
    rintro e Va4 ⟨rfl, hb⟩
    have HZ := Lib.hid hb
    clear hb
    clear cb10 cb11 cb12 cb13 cb14
    replace Hb1 := kbl Hb1 HZ
    replace HB := ktr' HB HZ
    clear HZ
    go_wp2
    go_ret
    exact ⟨by rw [EE.out]; rfl, HB.out⟩
  ·
   have h1 : decide (1 ≤ n ∧ n ≤ 255) = false := by simpa using h1
   have EE := Lib.hid (show wiE ⟨(s1, s2), n, (p1, p2)⟩ = 3 by (unfold wiE; simp only [decide_eq_true_iff, decide_eq_false_iff_not] at *; simp [*]; try omega))
   have H0 := Lib.hid h0
   clear h0
   have H1 := Lib.hid h1
   clear h1
   go_enter Tryd.func23, Tryd.ntmps23
   go_upto_region 1 with (fail)
   obtain ⟨Va1, hV⟩ : ∃ V, w.alloc (.cells #[.int .i64 (s1), .int .i64 (s2), .int .i64 (n), .int .i64 (p1), .int .i64 (p2)] 44) = V := ⟨_, rfl⟩
   have Kb1 : Hid (Blk Va1 (w.heap.size) 44 #[.int .i64 (s1), .int .i64 (s2), .int .i64 (n), .int .i64 (p1), .int .i64 (p2)]) := by rw [← hV]; exact Blk.new' _ _ _ (by simp)
   have GHB : Hid (Below w.heap.size w Va1) := by rw [← hV]; exact (by repeat (first | exact Below.refl _ _ | assumption | refine Below.drew ?_ | refine Below.drewN' ?_ _ | (refine Below.alloc ?_ (by simp <;> omega) _) | (refine Below.setCell ?_ (by simp <;> omega) _)))
   have HZ : Hid (Below w.heap.size w Va1) := GHB
   rw [hV]
   clear hV HZ
   have HB := GHB
   clear GHB
   obtain ⟨b1, hqb1⟩ : ∃ b, w.heap.size = b := ⟨_, rfl⟩
   have gb1 : w.heap.size ≤ b1 := by omega
   have HN : Hid (w.heap.size = b1) := hqb1
   rw [hqb1] at Kb1 ⊢
   clear hqb1
   have Hb1 := Kb1
   clear Kb1
   have cb10 := kcl0 Hb1
   have cb11 := kcl1 Hb1
   have cb12 := kcl2 Hb1
   have cb13 := kcl3 Hb1
   have cb14 := kcl4 Hb1
   go_wp2_with fail
   refine (rspan_of H0.out _).mono ?_
   rintro e Va2 ⟨rfl, hb⟩
   have HZ := Lib.hid hb
   clear hb
   clear cb10 cb11 cb12 cb13 cb14
   replace Hb1 := kbl Hb1 HZ
   replace HB := ktr' HB HZ
   clear HZ
   have cb10 := kcl0 Hb1
   have cb11 := kcl1 Hb1
   have cb12 := kcl2 Hb1
   have cb13 := kcl3 Hb1
   have cb14 := kcl4 Hb1
   go_wp2_with fail
   refine (rin_of H1.out _).mono ?_
   rintro e Va3 ⟨rfl, hb⟩
   have HZ := Lib.hid hb
   clear hb
   clear cb10 cb11 cb12 cb13 cb14
   replace Hb1 := kbl Hb1 HZ
   replace HB := ktr' HB HZ
   clear HZ
   go_wp2
   go_ret
   exact ⟨by rw [EE.out]; rfl, HB.out⟩
 ·
  have h0 : spOk 0 10000 (s1, s2) = false := by simpa using h0
  have EE := Lib.hid (show wiE ⟨(s1, s2), n, (p1, p2)⟩ = 3 by (unfold wiE; simp only [decide_eq_true_iff, decide_eq_false_iff_not] at *; simp [*]; try omega))
  have H0 := Lib.hid h0
  clear h0
  go_enter Tryd.func23, Tryd.ntmps23
  go_upto_region 1 with (fail)
  obtain ⟨Va1, hV⟩ : ∃ V, w.alloc (.cells #[.int .i64 (s1), .int .i64 (s2), .int .i64 (n), .int .i64 (p1), .int .i64 (p2)] 44) = V := ⟨_, rfl⟩
  have Kb1 : Hid (Blk Va1 (w.heap.size) 44 #[.int .i64 (s1), .int .i64 (s2), .int .i64 (n), .int .i64 (p1), .int .i64 (p2)]) := by rw [← hV]; exact Blk.new' _ _ _ (by simp)
  have GHB : Hid (Below w.heap.size w Va1) := by rw [← hV]; exact (by repeat (first | exact Below.refl _ _ | assumption | refine Below.drew ?_ | refine Below.drewN' ?_ _ | (refine Below.alloc ?_ (by simp <;> omega) _) | (refine Below.setCell ?_ (by simp <;> omega) _)))
  have HZ : Hid (Below w.heap.size w Va1) := GHB
  rw [hV]
  clear hV HZ
  have HB := GHB
  clear GHB
  obtain ⟨b1, hqb1⟩ : ∃ b, w.heap.size = b := ⟨_, rfl⟩
  have gb1 : w.heap.size ≤ b1 := by omega
  have HN : Hid (w.heap.size = b1) := hqb1
  rw [hqb1] at Kb1 ⊢
  clear hqb1
  have Hb1 := Kb1
  clear Kb1
  have cb10 := kcl0 Hb1
  have cb11 := kcl1 Hb1
  have cb12 := kcl2 Hb1
  have cb13 := kcl3 Hb1
  have cb14 := kcl4 Hb1
  go_wp2_with fail
  refine (rspan_of H0.out _).mono ?_
  rintro e Va2 ⟨rfl, hb⟩
  have HZ := Lib.hid hb
  clear hb
  clear cb10 cb11 cb12 cb13 cb14
  replace Hb1 := kbl Hb1 HZ
  replace HB := ktr' HB HZ
  clear HZ
  go_wp2
  go_ret
  exact ⟨by rw [EE.out]; rfl, HB.out⟩
end Go.Proofs.YtdhcdgfpkjdihaaDoor.Sg
