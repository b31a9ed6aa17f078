/-
  Layer 3: checks, of the program.
-/
import Derived.Test.YtdhcdgfpkjdihaaDoorVP3b
import Derived.Test.YtdhcdgfpkjdihaaDoorVA3e
set_option linter.unusedSimpArgs false
set_option linter.unusedVariables false
namespace Go.Proofs.YtdhcdgfpkjdihaaDoor.Sg
open Go.RowKit
theorem span_of {a b lo hi : Int} {v : Bool} (h : spOk lo hi (a, b) = v) (w : World) :
 Calls Tryd.prog 66 #[.agg #[.int .i64 a, .int .i64 b], .int .i64 lo, .int .i64 hi] w fun e w' => e = .returned (.bool v) ∧ Below w.heap.size w w' := by
 subst h
 exact isSpan_any3 a b lo hi w
theorem in_of {n lo hi : Int} {v : Bool} (h : decide (lo ≤ n ∧ n ≤ hi) = v) (w : World) :
 Calls Tryd.prog 69 #[.int .i64 n, .int .i64 lo, .int .i64 hi] w fun e w' => e = .returned (.bool v) ∧ Below w.heap.size w w' := by
 subst h
 exact (within_any n lo hi w).mono fun e w' ⟨h1, h2⟩ => ⟨h1, by rw [← h2]; exact Below.refl _ _⟩
theorem isSpeed_of {a b : Int} {v : Bool} (h : spOk 0 10000 (a, b) = v) (w : World) :
 Calls Tryd.prog 68 #[.agg #[.int .i64 a, .int .i64 b]] w fun e w' => e = .returned (.bool v) ∧ Below w.heap.size w w' := by
 subst h
 exact isSpeed_any a b w
set_option maxRecDepth 100000 in
set_option maxHeartbeats 2000000 in
theorem Check_any3 (d1 d2 l1 l2 : Int) (w : World) :
 Calls Tryd.prog 19 #[.agg #[.int .i64 (d1), .int .i64 (d2), .int .i64 (l1), .int .i64 (l2)]] w fun e w' => e = .returned (.int .i64 (moE ⟨(d1, d2), (l1, l2)⟩)) ∧ Below w.heap.size w w' := by
 by_cases h0 : spOk 1 10000 (d1, d2) = true
 ·
  by_cases h1 : spOk 1 1024 (l1, l2) = true
  ·
   have EE := Lib.hid (show moE ⟨(d1, d2), (l1, l2)⟩ = 0 by (unfold moE; simp [*]))
   have H0 := Lib.hid h0
   clear h0
   have H1 := Lib.hid h1
   clear h1
   go_enter Tryd.func19, Tryd.ntmps19
   go_upto_region 1 with (fail)
   obtain ⟨Va1, hV⟩ : ∃ V, w.alloc (.cells #[.int .i64 (d1), .int .i64 (d2), .int .i64 (l1), .int .i64 (l2)] 28) = V := ⟨_, rfl⟩
   have Kb1 : Hid (Blk Va1 (w.heap.size) 28 #[.int .i64 (d1), .int .i64 (d2), .int .i64 (l1), .int .i64 (l2)]) := by rw [← hV]; exact Blk.new' _ _ _ (by simp)
   have GHB : Hid (Below w.heap.size w Va1) := by rw [← hV]; exact (by repeat (first | exact Below.refl _ _ | assumption | refine Below.drew ?_ | refine Below.drewN' ?_ _ | (refine Below.alloc ?_ (by simp <;> omega) _) | (refine Below.setCell ?_ (by simp <;> omega) _)))
   have HZ : Hid (Below w.heap.size w Va1) := GHB
   rw [hV]
   clear hV HZ
   have HB := GHB
   clear GHB
   obtain ⟨b1, hqb1⟩ : ∃ b, w.heap.size = b := ⟨_, rfl⟩
   have gb1 : w.heap.size ≤ b1 := by omega
   have HN : Hid (w.heap.size = b1) := hqb1
   rw [hqb1] at Kb1 ⊢
   clear hqb1
   have Hb1 := Kb1
   clear Kb1
   have cb10 := kcl0 Hb1
   have cb11 := kcl1 Hb1
   have cb12 := kcl2 Hb1
   have cb13 := kcl3 Hb1
   go_wp2_with fail
   refine (span_of H0.out _).mono ?_
   rintro e Va2 ⟨rfl, hb⟩
   have HZ := Lib.hid hb
   clear hb
   clear cb10 cb11 cb12 cb13
   replace Hb1 := kbl Hb1 HZ
   replace HB := ktr' HB HZ
   clear HZ
   have cb10 := kcl0 Hb1
   have cb11 := kcl1 Hb1
   have cb12 := kcl2 Hb1
   have cb13 := kcl3 Hb1
   go_wp2_with fail
   refine (span_of H1.out _).mono ?_
   rintro e Va3 ⟨rfl, hb⟩
   have HZ := Lib.hid hb
   clear hb
   clear cb10 cb11 cb12 cb13
   replace Hb1 := kbl Hb1 HZ
   replace HB := ktr' HB HZ
   clear HZ
   go_wp2
   go_ret
   exact ⟨by rw [EE.out]; rfl, HB.out⟩
  ·
   have h1 : spOk 1 1024 (l1, l2) = false := by simpa using h1
   have EE := Lib.hid (show moE ⟨(d1, d2), (l1, l2)⟩ = 3 by (unfold moE; simp [*]))
   have H0 := Lib.hid h0
   clear h0
   have H1 := Lib.hid h1
   clear h1
   go_enter Tryd.func19, Tryd.ntmps19
   go_upto_region 1 with (fail)
   obtain ⟨Va1, hV⟩ : ∃ V, w.alloc (.cells #[.int .i64 (d1), .int .i64 (d2), .int .i64 (l1), .int .i64 (l2)] 28) = V := ⟨_, rfl⟩
   have Kb1 : Hid (Blk Va1 (w.heap.size) 28 #[.int .i64 (d1), .int .i64 (d2), .int .i64 (l1), .int .i64 (l2)]) := by rw [← hV]; exact Blk.new' _ _ _ (by simp)
   have GHB : Hid (Below w.heap.size w Va1) := by rw [← hV]; exact (by repeat (first | exact Below.refl _ _ | assumption | refine Below.drew ?_ | refine Below.drewN' ?_ _ | (refine Below.alloc ?_ (by simp <;> omega) _) | (refine Below.setCell ?_ (by simp <;> omega) _)))
   have HZ : Hid (Below w.heap.size w Va1) := GHB
   rw [hV]
   clear hV HZ
   have HB := GHB
   clear GHB
   obtain ⟨b1, hqb1⟩ : ∃ b, w.heap.size = b := ⟨_, rfl⟩
   have gb1 : w.heap.size ≤ b1 := by omega
   have HN : Hid (w.heap.size = b1) := hqb1
   rw [hqb1] at Kb1 ⊢
   clear hqb1
   have Hb1 := Kb1
   clear Kb1
   have cb10 := kcl0 Hb1
   have cb11 := kcl1 Hb1
   have cb12 := kcl2 Hb1
   have cb13 := kcl3 Hb1
   go_wp2_with fail
   refine (span_of H0.out _).mono ?_
   rintro e Va2 ⟨rfl, hb⟩
   have HZ := Lib.hid hb
   clear hb
   clear cb10 cb11 cb12 cb13
   replace Hb1 := kbl Hb1 HZ
   replace HB := ktr' HB HZ
   clear HZ
   have cb10 := kcl0 Hb1
   have cb11 := kcl1 Hb1
   have cb12 := kcl2 Hb1
   have cb13 := kcl3 Hb1
   go_wp2_with fail
   refine (span_of H1.out _).mono ?_
   rintro e Va3 ⟨rfl, hb⟩
   have HZ := Lib.hid hb
   clear hb
   clear cb10 cb11 cb12 cb13
   replace Hb1 := kbl Hb1 HZ
   replace HB := ktr' HB HZ
   clear HZ
   go_wp2
   go_ret
   exact ⟨by rw [EE.out]; rfl, HB.out⟩
 ·
  have h0 : spOk 1 10000 (d1, d2) = false := by simpa using h0
  have EE := Lib.hid (show moE ⟨(d1, d2), (l1, l2)⟩ = 3 by (unfold moE; simp [*]))
  have H0 := Lib.hid h0
  clear h0
  go_enter Tryd.func19, Tryd.ntmps19
  go_upto_region 1 with (fail)
  obtain ⟨Va1, hV⟩ : ∃ V, w.alloc (.cells #[.int .i64 (d1), .int .i64 (d2), .int .i64 (l1), .int .i64 (l2)] 28) = V := ⟨_, rfl⟩
  have Kb1 : Hid (Blk Va1 (w.heap.size) 28 #[.int .i64 (d1), .int .i64 (d2), .int .i64 (l1), .int .i64 (l2)]) := by rw [← hV]; exact Blk.new' _ _ _ (by simp)
  have GHB : Hid (Below w.heap.size w Va1) := by rw [← hV]; exact (by repeat (first | exact Below.refl _ _ | assumption | refine Below.drew ?_ | refine Below.drewN' ?_ _ | (refine Below.alloc ?_ (by simp <;> omega) _) | (refine Below.setCell ?_ (by simp <;> omega) _)))
  have HZ : Hid (Below w.heap.size w Va1) := GHB
  rw [hV]
  clear hV HZ
  have HB := GHB
  clear GHB
  obtain ⟨b1, hqb1⟩ : ∃ b, w.heap.size = b := ⟨_, rfl⟩
  have gb1 : w.heap.size ≤ b1 := by omega
  have HN : Hid (w.heap.size = b1) := hqb1
  rw [hqb1] at Kb1 ⊢
  clear hqb1
  have Hb1 := Kb1
  clear Kb1
  have cb10 := kcl0 Hb1
  have cb11 := kcl1 Hb1
  have cb12 := kcl2 Hb1
  have cb13 := kcl3 Hb1
  go_wp2_with fail
  refine (span_of H0.out _).mono ?_
  rintro e Va2 ⟨rfl, hb⟩
  have HZ := Lib.hid hb
  clear hb
  clear cb10 cb11 cb12 cb13
  replace Hb1 := kbl Hb1 HZ
  replace HB := ktr' HB HZ
  clear HZ
  go_wp2
  go_ret
  exact ⟨by rw [EE.out]; rfl, HB.out⟩
set_option maxRecDepth 100000 in
set_option maxHeartbeats 2000000 in
theorem CheckWind_any (s1 s2 n p1 p2 : Int) (w : World) :
 Calls Tryd.prog 22 #[.agg #[.int .i64 (s1), .int .i64 (s2), .int .i64 (n), .int .i64 (p1), .int .i64 (p2)]] w fun e w' => e = .returned (.int .i64 (wiE ⟨(s1, s2), n, (p1, p2)⟩)) ∧ Below w.heap.size w w' := by
 by_cases h0 : spOk 0 10000 (s1, s2) = true
 ·
  by_cases h1 : spOk (-20000) 20000 (p1, p2) = true
  ·
   by_cases h2 : decide (1 ≤ n ∧ n ≤ 255) = true
   ·
    have EE := Lib.hid (show wiE ⟨(s1, s2), n, (p1, p2)⟩ = 0 by (unfold wiE; simp only [decide_eq_true_iff, decide_eq_false_iff_not] at *; simp [*]; try omega))
    have H0 := Lib.hid h0
    clear h0
    have H1 := Lib.hid h1
    clear h1
    have H2 := Lib.hid h2
    clear h2
    go_enter Tryd.func22, Tryd.ntmps22
    go_upto_region 1 with (fail)
    obtain ⟨Va1, hV⟩ : ∃ V, w.alloc (.cells #[.int .i64 (s1), .int .i64 (s2), .int .i64 (n), .int .i64 (p1), .int .i64 (p2)] 32) = V := ⟨_, rfl⟩
    have Kb1 : Hid (Blk Va1 (w.heap.size) 32 #[.int .i64 (s1), .int .i64 (s2), .int .i64 (n), .int .i64 (p1), .int .i64 (p2)]) := by rw [← hV]; exact Blk.new' _ _ _ (by simp)
    have GHB : Hid (Below w.heap.size w Va1) := by rw [← hV]; exact (by repeat (first | exact Below.refl _ _ | assumption | refine Below.drew ?_ | refine Below.drewN' ?_ _ | (refine Below.alloc ?_ (by simp <;> omega) _) | (refine Below.setCell ?_ (by simp <;> omega) _)))
    have HZ : Hid (Below w.heap.size w Va1) := GHB
    rw [hV]
    clear hV HZ
    have HB := GHB
    clear GHB
    obtain ⟨b1, hqb1⟩ : ∃ b, w.heap.size = b := ⟨_, rfl⟩
    have gb1 : w.heap.size ≤ b1 := by omega
    have HN : Hid (w.heap.size = b1) := hqb1
    rw [hqb1] at Kb1 ⊢
    clear hqb1
    have Hb1 := Kb1
    clear Kb1
    have cb10 := kcl0 Hb1
    have cb11 := kcl1 Hb1
    have cb12 := kcl2 Hb1
    have cb13 := kcl3 Hb1
    have cb14 := kcl4 Hb1
    go_wp2_with fail
    refine (isSpeed_of H0.out _).mono ?_
    rintro e Va2 ⟨rfl, hb⟩
    have HZ := Lib.hid hb
    clear hb
    clear cb10 cb11 cb12 cb13 cb14
    replace Hb1 := kbl Hb1 HZ
    replace HB := ktr' HB HZ
    clear HZ
    have cb10 := kcl0 Hb1
    have cb11 := kcl1 Hb1
    have cb12 := kcl2 Hb1
    have cb13 := kcl3 Hb1
    have cb14 := kcl4 Hb1
    go_wp2_with fail
    refine (span_of H1.out _).mono ?_
    rintro e Va3 ⟨rfl, hb⟩
    have HZ := Lib.hid hb
    clear hb
    clear cb10 cb11 cb12 cb13 cb14
    replace Hb1 := kbl Hb1 HZ
    replace HB := ktr' HB HZ
    clear HZ
    have cb10 := kcl0 Hb1
    have cb11 := kcl1 Hb1
    have cb12 := kcl2 Hb1
    have cb13 := kcl3 Hb1
    have cb14 := kcl4 Hb1
    go_wp2_with fail
    refine (in_of H2.out _).mono ?_
    rintro e Va4 ⟨rfl, hb⟩
    have HZ := Lib.hid hb
    clear hb
    clear cb10 cb11 cb12 cb13 cb14
    replace Hb1 := kbl Hb1 HZ
    replace HB := ktr' HB HZ
    clear HZ
    go_wp2
    go_ret
    exact ⟨by rw [EE.out]; rfl, HB.out⟩
   ·
    have h2 : decide (1 ≤ n ∧ n ≤ 255) = false := by simpa using h2
    have EE := Lib.hid (show wiE ⟨(s1, s2), n, (p1, p2)⟩ = 3 by (unfold wiE; simp only [decide_eq_true_iff, decide_eq_false_iff_not] at *; simp [*]; try omega))
    have H0 := Lib.hid h0
    clear h0
    have H1 := Lib.hid h1
    clear h1
    have H2 := Lib.hid h2
    clear h2
    go_enter Tryd.func22, Tryd.ntmps22
    go_upto_region 1 with (fail)
    obtain ⟨Va1, hV⟩ : ∃ V, w.alloc (.cells #[.int .i64 (s1), .int .i64 (s2), .int .i64 (n), .int .i64 (p1), .int .i64 (p2)] 32) = V := ⟨_, rfl⟩
    have Kb1 : Hid (Blk Va1 (w.heap.size) 32 #[.int .i64 (s1), .int .i64 (s2), .int .i64 (n), .int .i64 (p1), .int .i64 (p2)]) := by rw [← hV]; exact Blk.new' _ _ _ (by simp)
    have GHB : Hid (Below w.heap.size w Va1) := by rw [← hV]; exact (by repeat (first | exact Below.refl _ _ | assumption | refine Below.drew ?_ | refine Below.drewN' ?_ _ | (refine Below.alloc ?_ (by simp <;> omega) _) | (refine Below.setCell ?_ (by simp <;> omega) _)))
    have HZ : Hid (Below w.heap.size w Va1) := GHB
    rw [hV]
    clear hV HZ
    have HB := GHB
    clear GHB
    obtain ⟨b1, hqb1⟩ : ∃ b, w.heap.size = b := ⟨_, rfl⟩
    have gb1 : w.heap.size ≤ b1 := by omega
    have HN : Hid (w.heap.size = b1) := hqb1
    rw [hqb1] at Kb1 ⊢
    clear hqb1
    have Hb1 := Kb1
    clear Kb1
    have cb10 := kcl0 Hb1
    have cb11 := kcl1 Hb1
    have cb12 := kcl2 Hb1
    have cb13 := kcl3 Hb1
    have cb14 := kcl4 Hb1
    go_wp2_with fail
    refine (isSpeed_of H0.out _).mono ?_
    rintro e Va2 ⟨rfl, hb⟩
    have HZ := Lib.hid hb
    clear hb
    clear cb10 cb11 cb12 cb13 cb14
    replace Hb1 := kbl Hb1 HZ
    replace HB := ktr' HB HZ
    clear HZ
    have cb10 := kcl0 Hb1
    have cb11 := kcl1 Hb1
    have cb12 := kcl2 Hb1
    have cb13 := kcl3 Hb1
    have cb14 := kcl4 Hb1
    go_wp2_with fail
    refine (span_of H1.out _).mono ?_
    rintro e Va3 ⟨rfl, hb⟩
    have HZ := Lib.hid hb
    clear hb
    clear cb10 cb11 cb12 cb13 cb14
    replace Hb1 := kbl Hb1 HZ
    replace HB := ktr' HB HZ
    clear HZ
    have cb10 := kcl0 Hb1
    have cb11 := kcl1 Hb1
    have cb12 := kcl2 Hb1
    have cb13 := kcl3 Hb1
    have cb14 := kcl4 Hb1
    go_wp2_with fail
    refine (in_of H2.out _).mono ?_
    rintro e Va4 ⟨rfl, hb⟩
    have HZ := Lib.hid hb
    clear hb
    clear cb10 cb11 cb12 cb13 cb14
    replace Hb1 := kbl Hb1 HZ
    replace HB := ktr' HB HZ
    clear HZ
    go_wp2
    go_ret
    exact ⟨by rw [EE.out]; rfl, HB.out⟩
  ·
   have h1 : spOk (-20000) 20000 (p1, p2) = false := by simpa using h1
   have EE := Lib.hid (show wiE ⟨(s1, s2), n, (p1, p2)⟩ = 3 by (unfold wiE; simp only [decide_eq_true_iff, decide_eq_false_iff_not] at *; simp [*]; try omega))
   have H0 := Lib.hid h0
   clear h0
   have H1 := Lib.hid h1
   clear h1
   go_enter Tryd.func22, Tryd.ntmps22
   go_upto_region 1 with (fail)
   obtain ⟨Va1, hV⟩ : ∃ V, w.alloc (.cells #[.int .i64 (s1), .int .i64 (s2), .int .i64 (n), .int .i64 (p1), .int .i64 (p2)] 32) = V := ⟨_, rfl⟩
   have Kb1 : Hid (Blk Va1 (w.heap.size) 32 #[.int .i64 (s1), .int .i64 (s2), .int .i64 (n), .int .i64 (p1), .int .i64 (p2)]) := by rw [← hV]; exact Blk.new' _ _ _ (by simp)
   have GHB : Hid (Below w.heap.size w Va1) := by rw [← hV]; exact (by repeat (first | exact Below.refl _ _ | assumption | refine Below.drew ?_ | refine Below.drewN' ?_ _ | (refine Below.alloc ?_ (by simp <;> omega) _) | (refine Below.setCell ?_ (by simp <;> omega) _)))
   have HZ : Hid (Below w.heap.size w Va1) := GHB
   rw [hV]
   clear hV HZ
   have HB := GHB
   clear GHB
   obtain ⟨b1, hqb1⟩ : ∃ b, w.heap.size = b := ⟨_, rfl⟩
   have gb1 : w.heap.size ≤ b1 := by omega
   have HN : Hid (w.heap.size = b1) := hqb1
   rw [hqb1] at Kb1 ⊢
   clear hqb1
   have Hb1 := Kb1
   clear Kb1
   have cb10 := kcl0 Hb1
   have cb11 := kcl1 Hb1
   have cb12 := kcl2 Hb1
   have cb13 := kcl3 Hb1
   have cb14 := kcl4 Hb1
   go_wp2_with fail
   refine (isSpeed_of H0.out _).mono ?_
   rintro e Va2 ⟨rfl, hb⟩
   have HZ := Lib.hid hb
   clear hb
   clear cb10 cb11 cb12 cb13 cb14
   replace Hb1 := kbl Hb1 HZ
   replace HB := ktr' HB HZ
   clear HZ
   have cb10 := kcl0 Hb1
   have cb11 := kcl1 Hb1
   have cb12 := kcl2 Hb1
   have cb13 := kcl3 Hb1
   have cb14 := kcl4 Hb1
   go_wp2_with fail
   refine (span_of H1.out _).mono ?_
   rintro e Va3 ⟨rfl, hb⟩
   have HZ := Lib.hid hb
   clear hb
   clear cb10 cb11 cb12 cb13 cb14
   replace Hb1 := kbl Hb1 HZ
   replace HB := ktr' HB HZ
   clear HZ
   go_wp2
   go_ret
   exact ⟨by rw [EE.out]; rfl, HB.out⟩
 ·
  have h0 : spOk 0 10000 (s1, s2) = false := by simpa using h0
  have EE := Lib.hid (show wiE ⟨(s1, s2), n, (p1, p2)⟩ = 3 by (unfold wiE; simp only [decide_eq_true_iff, decide_eq_false_iff_not] at *; simp [*]; try omega))
  have H0 := Lib.hid h0
  clear h0
  go_enter Tryd.func22, Tryd.ntmps22
  go_upto_region 1 with (fail)
  obtain ⟨Va1, hV⟩ : ∃ V, w.alloc (.cells #[.int .i64 (s1), .int .i64 (s2), .int .i64 (n), .int .i64 (p1), .int .i64 (p2)] 32) = V := ⟨_, rfl⟩
  have Kb1 : Hid (Blk Va1 (w.heap.size) 32 #[.int .i64 (s1), .int .i64 (s2), .int .i64 (n), .int .i64 (p1), .int .i64 (p2)]) := by rw [← hV]; exact Blk.new' _ _ _ (by simp)
  have GHB : Hid (Below w.heap.size w Va1) := by rw [← hV]; exact (by repeat (first | exact Below.refl _ _ | assumption | refine Below.drew ?_ | refine Below.drewN' ?_ _ | (refine Below.alloc ?_ (by simp <;> omega) _) | (refine Below.setCell ?_ (by simp <;> omega) _)))
  have HZ : Hid (Below w.heap.size w Va1) := GHB
  rw [hV]
  clear hV HZ
  have HB := GHB
  clear GHB
  obtain ⟨b1, hqb1⟩ : ∃ b, w.heap.size = b := ⟨_, rfl⟩
  have gb1 : w.heap.size ≤ b1 := by omega
  have HN : Hid (w.heap.size = b1) := hqb1
  rw [hqb1] at Kb1 ⊢
  clear hqb1
  have Hb1 := Kb1
  clear Kb1
  have cb10 := kcl0 Hb1
  have cb11 := kcl1 Hb1
  have cb12 := kcl2 Hb1
  have cb13 := kcl3 Hb1
  have cb14 := kcl4 Hb1
  go_wp2_with fail
  refine (isSpeed_of H0.out _).mono ?_
  rintro e Va2 ⟨rfl, hb⟩
  have HZ := Lib.hid hb
  clear hb
  clear cb10 cb11 cb12 cb13 cb14
  replace Hb1 := kbl Hb1 HZ
  replace HB := ktr' HB HZ
  clear HZ
  go_wp2
  go_ret
  exact ⟨by rw [EE.out]; rfl, HB.out⟩
set_option maxRecDepth 100000 in
set_option maxHeartbeats 2000000 in
theorem checkStorm_any (x1 x2 y1 y2 r m1 m2 p1 p2 : Int) (w : World) :
 Calls Tryd.prog 90 #[.agg #[.int .i64 (x1), .int .i64 (x2), .int .i64 (y1), .int .i64 (y2), .int .i64 (r), .int .i64 (m1), .int .i64 (m2), .int .i64 (p1), .int .i64 (p2)]] w fun e w' => e = .returned (.int .i64 (soE ⟨(x1, x2), (y1, y2), r, (m1, m2), (p1, p2)⟩)) ∧ Below w.heap.size w w' := by
 by_cases h0 : spOk (-1000000) 1000000 (x1, x2) = true
 ·
  by_cases h1 : spOk (-1000000) 1000000 (y1, y2) = true
  ·
   by_cases h2 : decide (1 ≤ r ∧ r ≤ 1000000) = true
   ·
    by_cases h3 : spOk 0 10000 (m1, m2) = true
    ·
     by_cases h4 : spOk 0 20000 (p1, p2) = true
     ·
      have EE := Lib.hid (show soE ⟨(x1, x2), (y1, y2), r, (m1, m2), (p1, p2)⟩ = 0 by (unfold soE; simp only [decide_eq_true_iff, decide_eq_false_iff_not] at *; simp [*]; try omega))
      have H0 := Lib.hid h0
      clear h0
      have H1 := Lib.hid h1
      clear h1
      have H2 := Lib.hid h2
      clear h2
      have H3 := Lib.hid h3
      clear h3
      have H4 := Lib.hid h4
      clear h4
      go_enter Tryd.func90, Tryd.ntmps90
      go_upto_region 1 with (fail)
      obtain ⟨Va1, hV⟩ : ∃ V, w.alloc (.cells #[.int .i64 (x1), .int .i64 (x2), .int .i64 (y1), .int .i64 (y2), .int .i64 (r), .int .i64 (m1), .int .i64 (m2), .int .i64 (p1), .int .i64 (p2)] 70) = V := ⟨_, rfl⟩
      have Kb1 : Hid (Blk Va1 (w.heap.size) 70 #[.int .i64 (x1), .int .i64 (x2), .int .i64 (y1), .int .i64 (y2), .int .i64 (r), .int .i64 (m1), .int .i64 (m2), .int .i64 (p1), .int .i64 (p2)]) := by rw [← hV]; exact Blk.new' _ _ _ (by simp)
      have GHB : Hid (Below w.heap.size w Va1) := by rw [← hV]; exact (by repeat (first | exact Below.refl _ _ | assumption | refine Below.drew ?_ | refine Below.drewN' ?_ _ | (refine Below.alloc ?_ (by simp <;> omega) _) | (refine Below.setCell ?_ (by simp <;> omega) _)))
      have HZ : Hid (Below w.heap.size w Va1) := GHB
      rw [hV]
      clear hV HZ
      have HB := GHB
      clear GHB
      obtain ⟨b1, hqb1⟩ : ∃ b, w.heap.size = b := ⟨_, rfl⟩
      have gb1 : w.heap.size ≤ b1 := by omega
      have HN : Hid (w.heap.size = b1) := hqb1
      rw [hqb1] at Kb1 ⊢
      clear hqb1
      have Hb1 := Kb1
      clear Kb1
      have cb10 := kcl0 Hb1
      have cb11 := kcl1 Hb1
      have cb12 := kcl2 Hb1
      have cb13 := kcl3 Hb1
      have cb14 := kcl4 Hb1
      have cb15 := kcl5 Hb1
      have cb16 := kcl6 Hb1
      have cb17 := kcl7 Hb1
      have cb18 := kcl8 Hb1
      go_wp2_with fail
      refine (span_of H0.out _).mono ?_
      rintro e Va2 ⟨rfl, hb⟩
      have HZ := Lib.hid hb
      clear hb
      clear cb10 cb11 cb12 cb13 cb14 cb15 cb16 cb17 cb18
      replace Hb1 := kbl Hb1 HZ
      replace HB := ktr' HB HZ
      clear HZ
      have cb10 := kcl0 Hb1
      have cb11 := kcl1 Hb1
      have cb12 := kcl2 Hb1
      have cb13 := kcl3 Hb1
      have cb14 := kcl4 Hb1
      have cb15 := kcl5 Hb1
      have cb16 := kcl6 Hb1
      have cb17 := kcl7 Hb1
      have cb18 := kcl8 Hb1
      go_wp2_with fail
      refine (span_of H1.out _).mono ?_
      rintro e Va3 ⟨rfl, hb⟩
      have HZ := Lib.hid hb
      clear hb
      clear cb10 cb11 cb12 cb13 cb14 cb15 cb16 cb17 cb18
      replace Hb1 := kbl Hb1 HZ
      replace HB := ktr' HB HZ
      clear HZ
      have cb10 := kcl0 Hb1
      have cb11 := kcl1 Hb1
      have cb12 := kcl2 Hb1
      have cb13 := kcl3 Hb1
      have cb14 := kcl4 Hb1
      have cb15 := kcl5 Hb1
      have cb16 := kcl6 Hb1
      have cb17 := kcl7 Hb1
      have cb18 := kcl8 Hb1
      go_wp2_with fail
      refine (in_of H2.out _).mono ?_
      rintro e Va4 ⟨rfl, hb⟩
      have HZ := Lib.hid hb
      clear hb
      clear cb10 cb11 cb12 cb13 cb14 cb15 cb16 cb17 cb18
      replace Hb1 := kbl Hb1 HZ
      replace HB := ktr' HB HZ
      clear HZ
      have cb10 := kcl0 Hb1
      have cb11 := kcl1 Hb1
      have cb12 := kcl2 Hb1
      have cb13 := kcl3 Hb1
      have cb14 := kcl4 Hb1
      have cb15 := kcl5 Hb1
      have cb16 := kcl6 Hb1
      have cb17 := kcl7 Hb1
      have cb18 := kcl8 Hb1
      go_wp2_with fail
      refine (isSpeed_of H3.out _).mono ?_
      rintro e Va5 ⟨rfl, hb⟩
      have HZ := Lib.hid hb
      clear hb
      clear cb10 cb11 cb12 cb13 cb14 cb15 cb16 cb17 cb18
      replace Hb1 := kbl Hb1 HZ
      replace HB := ktr' HB HZ
      clear HZ
      have cb10 := kcl0 Hb1
      have cb11 := kcl1 Hb1
      have cb12 := kcl2 Hb1
      have cb13 := kcl3 Hb1
      have cb14 := kcl4 Hb1
      have cb15 := kcl5 Hb1
      have cb16 := kcl6 Hb1
      have cb17 := kcl7 Hb1
      have cb18 := kcl8 Hb1
      go_wp2_with fail
      refine (span_of H4.out _).mono ?_
      rintro e Va6 ⟨rfl, hb⟩
      have HZ := Lib.hid hb
      clear hb
      clear cb10 cb11 cb12 cb13 cb14 cb15 cb16 cb17 cb18
      replace Hb1 := kbl Hb1 HZ
      replace HB := ktr' HB HZ
      clear HZ
      go_wp2
      go_ret
      exact ⟨by rw [EE.out]; rfl, HB.out⟩
     ·
      have h4 : spOk 0 20000 (p1, p2) = false := by simpa using h4
      have EE := Lib.hid (show soE ⟨(x1, x2), (y1, y2), r, (m1, m2), (p1, p2)⟩ = 3 by (unfold soE; simp only [decide_eq_true_iff, decide_eq_false_iff_not] at *; simp [*]; try omega))
      have H0 := Lib.hid h0
      clear h0
      have H1 := Lib.hid h1
      clear h1
      have H2 := Lib.hid h2
      clear h2
      have H3 := Lib.hid h3
      clear h3
      have H4 := Lib.hid h4
      clear h4
      go_enter Tryd.func90, Tryd.ntmps90
      go_upto_region 1 with (fail)
      obtain ⟨Va1, hV⟩ : ∃ V, w.alloc (.cells #[.int .i64 (x1), .int .i64 (x2), .int .i64 (y1), .int .i64 (y2), .int .i64 (r), .int .i64 (m1), .int .i64 (m2), .int .i64 (p1), .int .i64 (p2)] 70) = V := ⟨_, rfl⟩
      have Kb1 : Hid (Blk Va1 (w.heap.size) 70 #[.int .i64 (x1), .int .i64 (x2), .int .i64 (y1), .int .i64 (y2), .int .i64 (r), .int .i64 (m1), .int .i64 (m2), .int .i64 (p1), .int .i64 (p2)]) := by rw [← hV]; exact Blk.new' _ _ _ (by simp)
      have GHB : Hid (Below w.heap.size w Va1) := by rw [← hV]; exact (by repeat (first | exact Below.refl _ _ | assumption | refine Below.drew ?_ | refine Below.drewN' ?_ _ | (refine Below.alloc ?_ (by simp <;> omega) _) | (refine Below.setCell ?_ (by simp <;> omega) _)))
      have HZ : Hid (Below w.heap.size w Va1) := GHB
      rw [hV]
      clear hV HZ
      have HB := GHB
      clear GHB
      obtain ⟨b1, hqb1⟩ : ∃ b, w.heap.size = b := ⟨_, rfl⟩
      have gb1 : w.heap.size ≤ b1 := by omega
      have HN : Hid (w.heap.size = b1) := hqb1
      rw [hqb1] at Kb1 ⊢
      clear hqb1
      have Hb1 := Kb1
      clear Kb1
      have cb10 := kcl0 Hb1
      have cb11 := kcl1 Hb1
      have cb12 := kcl2 Hb1
      have cb13 := kcl3 Hb1
      have cb14 := kcl4 Hb1
      have cb15 := kcl5 Hb1
      have cb16 := kcl6 Hb1
      have cb17 := kcl7 Hb1
      have cb18 := kcl8 Hb1
      go_wp2_with fail
      refine (span_of H0.out _).mono ?_
      rintro e Va2 ⟨rfl, hb⟩
      have HZ := Lib.hid hb
      clear hb
      clear cb10 cb11 cb12 cb13 cb14 cb15 cb16 cb17 cb18
      replace Hb1 := kbl Hb1 HZ
      replace HB := ktr' HB HZ
      clear HZ
      have cb10 := kcl0 Hb1
      have cb11 := kcl1 Hb1
      have cb12 := kcl2 Hb1
      have cb13 := kcl3 Hb1
      have cb14 := kcl4 Hb1
      have cb15 := kcl5 Hb1
      have cb16 := kcl6 Hb1
      have cb17 := kcl7 Hb1
      have cb18 := kcl8 Hb1
      go_wp2_with fail
      refine (span_of H1.out _).mono ?_
      rintro e Va3 ⟨rfl, hb⟩
      have HZ := Lib.hid hb
      clear hb
      clear cb10 cb11 cb12 cb13 cb14 cb15 cb16 cb17 cb18
      replace Hb1 := kbl Hb1 HZ
      replace HB := ktr' HB HZ
      clear HZ
      have cb10 := kcl0 Hb1
      have cb11 := kcl1 Hb1
      have cb12 := kcl2 Hb1
      have cb13 := kcl3 Hb1
      have cb14 := kcl4 Hb1
      have cb15 := kcl5 Hb1
      have cb16 := kcl6 Hb1
      have cb17 := kcl7 Hb1
      have cb18 := kcl8 Hb1
      go_wp2_with fail
      refine (in_of H2.out _).mono ?_
      rintro e Va4 ⟨rfl, hb⟩
      have HZ := Lib.hid hb
      clear hb
      clear cb10 cb11 cb12 cb13 cb14 cb15 cb16 cb17 cb18
      replace Hb1 := kbl Hb1 HZ
      replace HB := ktr' HB HZ
      clear HZ
      have cb10 := kcl0 Hb1
      have cb11 := kcl1 Hb1
      have cb12 := kcl2 Hb1
      have cb13 := kcl3 Hb1
      have cb14 := kcl4 Hb1
      have cb15 := kcl5 Hb1
      have cb16 := kcl6 Hb1
      have cb17 := kcl7 Hb1
      have cb18 := kcl8 Hb1
      go_wp2_with fail
      refine (isSpeed_of H3.out _).mono ?_
      rintro e Va5 ⟨rfl, hb⟩
      have HZ := Lib.hid hb
      clear hb
      clear cb10 cb11 cb12 cb13 cb14 cb15 cb16 cb17 cb18
      replace Hb1 := kbl Hb1 HZ
      replace HB := ktr' HB HZ
      clear HZ
      have cb10 := kcl0 Hb1
      have cb11 := kcl1 Hb1
      have cb12 := kcl2 Hb1
      have cb13 := kcl3 Hb1
      have cb14 := kcl4 Hb1
      have cb15 := kcl5 Hb1
      have cb16 := kcl6 Hb1
      have cb17 := kcl7 Hb1
      have cb18 := kcl8 Hb1
      go_wp2_with fail
      refine (span_of H4.out _).mono ?_
      rintro e Va6 ⟨rfl, hb⟩
      have HZ := Lib.hid hb
      clear hb
      clear cb10 cb11 cb12 cb13 cb14 cb15 cb16 cb17 cb18
      replace Hb1 := kbl Hb1 HZ
      replace HB := ktr' HB HZ
      clear HZ
      go_wp2
      go_ret
      exact ⟨by rw [EE.out]; rfl, HB.out⟩
    ·
     have h3 : spOk 0 10000 (m1, m2) = false := by simpa using h3
     have EE := Lib.hid (show soE ⟨(x1, x2), (y1, y2), r, (m1, m2), (p1, p2)⟩ = 3 by (unfold soE; simp only [decide_eq_true_iff, decide_eq_false_iff_not] at *; simp [*]; try omega))
     have H0 := Lib.hid h0
     clear h0
     have H1 := Lib.hid h1
     clear h1
     have H2 := Lib.hid h2
     clear h2
     have H3 := Lib.hid h3
     clear h3
     go_enter Tryd.func90, Tryd.ntmps90
     go_upto_region 1 with (fail)
     obtain ⟨Va1, hV⟩ : ∃ V, w.alloc (.cells #[.int .i64 (x1), .int .i64 (x2), .int .i64 (y1), .int .i64 (y2), .int .i64 (r), .int .i64 (m1), .int .i64 (m2), .int .i64 (p1), .int .i64 (p2)] 70) = V := ⟨_, rfl⟩
     have Kb1 : Hid (Blk Va1 (w.heap.size) 70 #[.int .i64 (x1), .int .i64 (x2), .int .i64 (y1), .int .i64 (y2), .int .i64 (r), .int .i64 (m1), .int .i64 (m2), .int .i64 (p1), .int .i64 (p2)]) := by rw [← hV]; exact Blk.new' _ _ _ (by simp)
     have GHB : Hid (Below w.heap.size w Va1) := by rw [← hV]; exact (by repeat (first | exact Below.refl _ _ | assumption | refine Below.drew ?_ | refine Below.drewN' ?_ _ | (refine Below.alloc ?_ (by simp <;> omega) _) | (refine Below.setCell ?_ (by simp <;> omega) _)))
     have HZ : Hid (Below w.heap.size w Va1) := GHB
     rw [hV]
     clear hV HZ
     have HB := GHB
     clear GHB
     obtain ⟨b1, hqb1⟩ : ∃ b, w.heap.size = b := ⟨_, rfl⟩
     have gb1 : w.heap.size ≤ b1 := by omega
     have HN : Hid (w.heap.size = b1) := hqb1
     rw [hqb1] at Kb1 ⊢
     clear hqb1
     have Hb1 := Kb1
     clear Kb1
     have cb10 := kcl0 Hb1
     have cb11 := kcl1 Hb1
     have cb12 := kcl2 Hb1
     have cb13 := kcl3 Hb1
     have cb14 := kcl4 Hb1
     have cb15 := kcl5 Hb1
     have cb16 := kcl6 Hb1
     have cb17 := kcl7 Hb1
     have cb18 := kcl8 Hb1
     go_wp2_with fail
     refine (span_of H0.out _).mono ?_
     rintro e Va2 ⟨rfl, hb⟩
     have HZ := Lib.hid hb
     clear hb
     clear cb10 cb11 cb12 cb13 cb14 cb15 cb16 cb17 cb18
     replace Hb1 := kbl Hb1 HZ
     replace HB := ktr' HB HZ
     clear HZ
     have cb10 := kcl0 Hb1
     have cb11 := kcl1 Hb1
     have cb12 := kcl2 Hb1
     have cb13 := kcl3 Hb1
     have cb14 := kcl4 Hb1
     have cb15 := kcl5 Hb1
     have cb16 := kcl6 Hb1
     have cb17 := kcl7 Hb1
     have cb18 := kcl8 Hb1
     go_wp2_with fail
     refine (span_of H1.out _).mono ?_
     rintro e Va3 ⟨rfl, hb⟩
     have HZ := Lib.hid hb
     clear hb
     clear cb10 cb11 cb12 cb13 cb14 cb15 cb16 cb17 cb18
     replace Hb1 := kbl Hb1 HZ
     replace HB := ktr' HB HZ
     clear HZ
     have cb10 := kcl0 Hb1
     have cb11 := kcl1 Hb1
     have cb12 := kcl2 Hb1
     have cb13 := kcl3 Hb1
     have cb14 := kcl4 Hb1
     have cb15 := kcl5 Hb1
     have cb16 := kcl6 Hb1
     have cb17 := kcl7 Hb1
     have cb18 := kcl8 Hb1
     go_wp2_with fail
     refine (in_of H2.out _).mono ?_
     rintro e Va4 ⟨rfl, hb⟩
     have HZ := Lib.hid hb
     clear hb
     clear cb10 cb11 cb12 cb13 cb14 cb15 cb16 cb17 cb18
     replace Hb1 := kbl Hb1 HZ
     replace HB := ktr' HB HZ
     clear HZ
     have cb10 := kcl0 Hb1
     have cb11 := kcl1 Hb1
     have cb12 := kcl2 Hb1
     have cb13 := kcl3 Hb1
     have cb14 := kcl4 Hb1
     have cb15 := kcl5 Hb1
     have cb16 := kcl6 Hb1
     have cb17 := kcl7 Hb1
     have cb18 := kcl8 Hb1
     go_wp2_with fail
     refine (isSpeed_of H3.out _).mono ?_
     rintro e Va5 ⟨rfl, hb⟩
     have HZ := Lib.hid hb
     clear hb
     clear cb10 cb11 cb12 cb13 cb14 cb15 cb16 cb17 cb18
     replace Hb1 := kbl Hb1 HZ
     replace HB := ktr' HB HZ
     clear HZ
     go_wp2
     go_ret
     exact ⟨by rw [EE.out]; rfl, HB.out⟩
   ·
    have h2 : decide (1 ≤ r ∧ r ≤ 1000000) = false := by simpa using h2
    have EE := Lib.hid (show soE ⟨(x1, x2), (y1, y2), r, (m1, m2), (p1, p2)⟩ = 3 by (unfold soE; simp only [decide_eq_true_iff, decide_eq_false_iff_not] at *; simp [*]; try omega))
    have H0 := Lib.hid h0
    clear h0
    have H1 := Lib.hid h1
    clear h1
    have H2 := Lib.hid h2
    clear h2
    go_enter Tryd.func90, Tryd.ntmps90
    go_upto_region 1 with (fail)
    obtain ⟨Va1, hV⟩ : ∃ V, w.alloc (.cells #[.int .i64 (x1), .int .i64 (x2), .int .i64 (y1), .int .i64 (y2), .int .i64 (r), .int .i64 (m1), .int .i64 (m2), .int .i64 (p1), .int .i64 (p2)] 70) = V := ⟨_, rfl⟩
    have Kb1 : Hid (Blk Va1 (w.heap.size) 70 #[.int .i64 (x1), .int .i64 (x2), .int .i64 (y1), .int .i64 (y2), .int .i64 (r), .int .i64 (m1), .int .i64 (m2), .int .i64 (p1), .int .i64 (p2)]) := by rw [← hV]; exact Blk.new' _ _ _ (by simp)
    have GHB : Hid (Below w.heap.size w Va1) := by rw [← hV]; exact (by repeat (first | exact Below.refl _ _ | assumption | refine Below.drew ?_ | refine Below.drewN' ?_ _ | (refine Below.alloc ?_ (by simp <;> omega) _) | (refine Below.setCell ?_ (by simp <;> omega) _)))
    have HZ : Hid (Below w.heap.size w Va1) := GHB
    rw [hV]
    clear hV HZ
    have HB := GHB
    clear GHB
    obtain ⟨b1, hqb1⟩ : ∃ b, w.heap.size = b := ⟨_, rfl⟩
    have gb1 : w.heap.size ≤ b1 := by omega
    have HN : Hid (w.heap.size = b1) := hqb1
    rw [hqb1] at Kb1 ⊢
    clear hqb1
    have Hb1 := Kb1
    clear Kb1
    have cb10 := kcl0 Hb1
    have cb11 := kcl1 Hb1
    have cb12 := kcl2 Hb1
    have cb13 := kcl3 Hb1
    have cb14 := kcl4 Hb1
    have cb15 := kcl5 Hb1
    have cb16 := kcl6 Hb1
    have cb17 := kcl7 Hb1
    have cb18 := kcl8 Hb1
    go_wp2_with fail
    refine (span_of H0.out _).mono ?_
    rintro e Va2 ⟨rfl, hb⟩
    have HZ := Lib.hid hb
    clear hb
    clear cb10 cb11 cb12 cb13 cb14 cb15 cb16 cb17 cb18
    replace Hb1 := kbl Hb1 HZ
    replace HB := ktr' HB HZ
    clear HZ
    have cb10 := kcl0 Hb1
    have cb11 := kcl1 Hb1
    have cb12 := kcl2 Hb1
    have cb13 := kcl3 Hb1
    have cb14 := kcl4 Hb1
    have cb15 := kcl5 Hb1
    have cb16 := kcl6 Hb1
    have cb17 := kcl7 Hb1
    have cb18 := kcl8 Hb1
    go_wp2_with fail
    refine (span_of H1.out _).mono ?_
    rintro e Va3 ⟨rfl, hb⟩
    have HZ := Lib.hid hb
    clear hb
    clear cb10 cb11 cb12 cb13 cb14 cb15 cb16 cb17 cb18
    replace Hb1 := kbl Hb1 HZ
    replace HB := ktr' HB HZ
    clear HZ
    have cb10 := kcl0 Hb1
    have cb11 := kcl1 Hb1
    have cb12 := kcl2 Hb1
    have cb13 := kcl3 Hb1
    have cb14 := kcl4 Hb1
    have cb15 := kcl5 Hb1
    have cb16 := kcl6 Hb1
    have cb17 := kcl7 Hb1
    have cb18 := kcl8 Hb1
    go_wp2_with fail
    refine (in_of H2.out _).mono ?_
    rintro e Va4 ⟨rfl, hb⟩
    have HZ := Lib.hid hb
    clear hb
    clear cb10 cb11 cb12 cb13 cb14 cb15 cb16 cb17 cb18
    replace Hb1 := kbl Hb1 HZ
    replace HB := ktr' HB HZ
    clear HZ
    go_wp2
    go_ret
    exact ⟨by rw [EE.out]; rfl, HB.out⟩
  ·
   have h1 : spOk (-1000000) 1000000 (y1, y2) = false := by simpa using h1
   have EE := Lib.hid (show soE ⟨(x1, x2), (y1, y2), r, (m1, m2), (p1, p2)⟩ = 3 by (unfold soE; simp only [decide_eq_true_iff, decide_eq_false_iff_not] at *; simp [*]; try omega))
   have H0 := Lib.hid h0
   clear h0
   have H1 := Lib.hid h1
   clear h1
   go_enter Tryd.func90, Tryd.ntmps90
   go_upto_region 1 with (fail)
   obtain ⟨Va1, hV⟩ : ∃ V, w.alloc (.cells #[.int .i64 (x1), .int .i64 (x2), .int .i64 (y1), .int .i64 (y2), .int .i64 (r), .int .i64 (m1), .int .i64 (m2), .int .i64 (p1), .int .i64 (p2)] 70) = V := ⟨_, rfl⟩
   have Kb1 : Hid (Blk Va1 (w.heap.size) 70 #[.int .i64 (x1), .int .i64 (x2), .int .i64 (y1), .int .i64 (y2), .int .i64 (r), .int .i64 (m1), .int .i64 (m2), .int .i64 (p1), .int .i64 (p2)]) := by rw [← hV]; exact Blk.new' _ _ _ (by simp)
   have GHB : Hid (Below w.heap.size w Va1) := by rw [← hV]; exact (by repeat (first | exact Below.refl _ _ | assumption | refine Below.drew ?_ | refine Below.drewN' ?_ _ | (refine Below.alloc ?_ (by simp <;> omega) _) | (refine Below.setCell ?_ (by simp <;> omega) _)))
   have HZ : Hid (Below w.heap.size w Va1) := GHB
   rw [hV]
   clear hV HZ
   have HB := GHB
   clear GHB
   obtain ⟨b1, hqb1⟩ : ∃ b, w.heap.size = b := ⟨_, rfl⟩
   have gb1 : w.heap.size ≤ b1 := by omega
   have HN : Hid (w.heap.size = b1) := hqb1
   rw [hqb1] at Kb1 ⊢
   clear hqb1
   have Hb1 := Kb1
   clear Kb1
   have cb10 := kcl0 Hb1
   have cb11 := kcl1 Hb1
   have cb12 := kcl2 Hb1
   have cb13 := kcl3 Hb1
   have cb14 := kcl4 Hb1
   have cb15 := kcl5 Hb1
   have cb16 := kcl6 Hb1
   have cb17 := kcl7 Hb1
   have cb18 := kcl8 Hb1
   go_wp2_with fail
   refine (span_of H0.out _).mono ?_
   rintro e Va2 ⟨rfl, hb⟩
   have HZ := Lib.hid hb
   clear hb
   clear cb10 cb11 cb12 cb13 cb14 cb15 cb16 cb17 cb18
   replace Hb1 := kbl Hb1 HZ
   replace HB := ktr' HB HZ
   clear HZ
   have cb10 := kcl0 Hb1
   have cb11 := kcl1 Hb1
   have cb12 := kcl2 Hb1
   have cb13 := kcl3 Hb1
   have cb14 := kcl4 Hb1
   have cb15 := kcl5 Hb1
   have cb16 := kcl6 Hb1
   have cb17 := kcl7 Hb1
   have cb18 := kcl8 Hb1
   go_wp2_with fail
   refine (span_of H1.out _).mono ?_
   rintro e Va3 ⟨rfl, hb⟩
   have HZ := Lib.hid hb
   clear hb
   clear cb10 cb11 cb12 cb13 cb14 cb15 cb16 cb17 cb18
   replace Hb1 := kbl Hb1 HZ
   replace HB := ktr' HB HZ
   clear HZ
   go_wp2
   go_ret
   exact ⟨by rw [EE.out]; rfl, HB.out⟩
 ·
  have h0 : spOk (-1000000) 1000000 (x1, x2) = false := by simpa using h0
  have EE := Lib.hid (show soE ⟨(x1, x2), (y1, y2), r, (m1, m2), (p1, p2)⟩ = 3 by (unfold soE; simp only [decide_eq_true_iff, decide_eq_false_iff_not] at *; simp [*]; try omega))
  have H0 := Lib.hid h0
  clear h0
  go_enter Tryd.func90, Tryd.ntmps90
  go_upto_region 1 with (fail)
  obtain ⟨Va1, hV⟩ : ∃ V, w.alloc (.cells #[.int .i64 (x1), .int .i64 (x2), .int .i64 (y1), .int .i64 (y2), .int .i64 (r), .int .i64 (m1), .int .i64 (m2), .int .i64 (p1), .int .i64 (p2)] 70) = V := ⟨_, rfl⟩
  have Kb1 : Hid (Blk Va1 (w.heap.size) 70 #[.int .i64 (x1), .int .i64 (x2), .int .i64 (y1), .int .i64 (y2), .int .i64 (r), .int .i64 (m1), .int .i64 (m2), .int .i64 (p1), .int .i64 (p2)]) := by rw [← hV]; exact Blk.new' _ _ _ (by simp)
  have GHB : Hid (Below w.heap.size w Va1) := by rw [← hV]; exact (by repeat (first | exact Below.refl _ _ | assumption | refine Below.drew ?_ | refine Below.drewN' ?_ _ | (refine Below.alloc ?_ (by simp <;> omega) _) | (refine Below.setCell ?_ (by simp <;> omega) _)))
  have HZ : Hid (Below w.heap.size w Va1) := GHB
  rw [hV]
  clear hV HZ
  have HB := GHB
  clear GHB
  obtain ⟨b1, hqb1⟩ : ∃ b, w.heap.size = b := ⟨_, rfl⟩
  have gb1 : w.heap.size ≤ b1 := by omega
  have HN : Hid (w.heap.size = b1) := hqb1
  rw [hqb1] at Kb1 ⊢
  clear hqb1
  have Hb1 := Kb1
  clear Kb1
  have cb10 := kcl0 Hb1
  have cb11 := kcl1 Hb1
  have cb12 := kcl2 Hb1
  have cb13 := kcl3 Hb1
  have cb14 := kcl4 Hb1
  have cb15 := kcl5 Hb1
  have cb16 := kcl6 Hb1
  have cb17 := kcl7 Hb1
  have cb18 := kcl8 Hb1
  go_wp2_with fail
  refine (span_of H0.out _).mono ?_
  rintro e Va2 ⟨rfl, hb⟩
  have HZ := Lib.hid hb
  clear hb
  clear cb10 cb11 cb12 cb13 cb14 cb15 cb16 cb17 cb18
  replace Hb1 := kbl Hb1 HZ
  replace HB := ktr' HB HZ
  clear HZ
  go_wp2
  go_ret
  exact ⟨by rw [EE.out]; rfl, HB.out⟩
set_option maxRecDepth 100000 in
set_option maxHeartbeats 2000000 in
theorem checkSea_any (WW HH SS : Int) (ss : List (Int × Int)) (A : Option Addr) (c : Nat) (lo hi : Int) (w : World) (hs : SpansAt w w.heap.size (.slice A ss.length c) ss) :
 Calls Tryd.prog 55 #[.agg #[.int .i64 (WW), .int .i64 (HH), .int .i64 (SS), .slice A ss.length c], .agg #[.int .i64 lo, .int .i64 hi]] w fun e w' => e = .returned (.int .i64 (seaE ⟨WW, HH, SS, ss⟩ (lo, hi))) ∧ Below w.heap.size w w' := by
 by_cases h0 : checkE ⟨WW, HH, SS, ss⟩ = 0
 ·
  by_cases h1 : spOk (-20000) 20000 (lo, hi) = true
  ·
   have EE := Lib.hid (show seaE ⟨WW, HH, SS, ss⟩ (lo, hi) = 0 by (unfold seaE spE andE; simp [*]))
   have H0 := Lib.hid h0
   clear h0
   have H1 := Lib.hid h1
   clear h1
   have HSS3 := Lib.hid hs
   clear hs
   go_enter Tryd.func55, Tryd.ntmps55
   go_upto_region 1 with (fail)
   obtain ⟨Va1, hV⟩ : ∃ V, (w.alloc (.cells #[.int .i64 (WW), .int .i64 (HH), .int .i64 (SS), .slice A ss.length c] 24)).alloc (.cells #[.int .i64 (lo), .int .i64 (hi)] 26) = V := ⟨_, rfl⟩
   have Kb1 : Hid (Blk Va1 (w.heap.size) 24 #[.int .i64 (WW), .int .i64 (HH), .int .i64 (SS), .slice A ss.length c]) := by rw [← hV]; exact (Blk.new' _ _ _ (by simp)).alloc _
   have Kb2 : Hid (Blk Va1 (w.heap.size + 1) 26 #[.int .i64 (lo), .int .i64 (hi)]) := by rw [← hV]; exact Blk.new' _ _ _ (by simp)
   have GHB : Hid (Below w.heap.size w Va1) := by rw [← hV]; exact (by repeat (first | exact Below.refl _ _ | assumption | refine Below.drew ?_ | refine Below.drewN' ?_ _ | (refine Below.alloc ?_ (by simp <;> omega) _) | (refine Below.setCell ?_ (by simp <;> omega) _)))
   have HZ : Hid (Below w.heap.size w Va1) := GHB
   have GHSS3 := Lib.hid (HSS3.out.later HZ.out (Nat.le_refl _))
   rw [hV]
   clear hV HZ HSS3
   have HB := GHB
   clear GHB
   have HSS3 := GHSS3
   clear GHSS3
   obtain ⟨b2, hqb2⟩ : ∃ b, w.heap.size + 1 = b := ⟨_, rfl⟩
   obtain ⟨b1, hqb1⟩ : ∃ b, w.heap.size = b := ⟨_, rfl⟩
   have gb1 : w.heap.size ≤ b1 := by omega
   have gb2 : w.heap.size ≤ b2 := by omega
   have nb2b1 : ¬ b2 = b1 := by omega
   have nb1b2 : ¬ b1 = b2 := by omega
   rw [hqb2] at Kb2 ⊢
   clear hqb2
   have HN : Hid (w.heap.size = b1) := hqb1
   rw [hqb1] at Kb1 ⊢
   clear hqb1
   have Hb1 := Kb1
   clear Kb1
   have Hb2 := Kb2
   clear Kb2
   have cb10 := kcl0 Hb1
   have cb11 := kcl1 Hb1
   have cb12 := kcl2 Hb1
   have cb13 := kcl3 Hb1
   go_wp2_with fail
   refine (check_any _ ⟨WW, HH, SS, ss⟩ _ ⟨_, rfl, HSS3.out⟩).mono ?_
   rintro e Va2 ⟨rfl, hb⟩
   have HZ := Lib.hid hb
   clear hb
   rw [H0.out]
   clear cb10 cb11 cb12 cb13
   replace Hb1 := kbl Hb1 HZ
   replace Hb2 := kbl Hb2 HZ
   replace HB := ktr' HB HZ
   replace HSS3 := Lib.hid (HSS3.out.later HZ.out (Nat.le_refl _))
   clear HZ
   have cb20 := kcl0 Hb2
   have cb21 := kcl1 Hb2
   go_wp2_with fail
   refine (span_of H1.out _).mono ?_
   rintro e Va3 ⟨rfl, hb⟩
   have HZ := Lib.hid hb
   clear hb
   clear cb20 cb21
   replace Hb1 := kbl Hb1 HZ
   replace Hb2 := kbl Hb2 HZ
   replace HB := ktr' HB HZ
   replace HSS3 := Lib.hid (HSS3.out.later HZ.out (Nat.le_refl _))
   clear HZ
   go_wp2
   go_ret
   exact ⟨by rw [EE.out]; rfl, HB.out⟩
  ·
   have h1 : spOk (-20000) 20000 (lo, hi) = false := by simpa using h1
   have EE := Lib.hid (show seaE ⟨WW, HH, SS, ss⟩ (lo, hi) = 3 by (unfold seaE spE andE; simp [*]))
   have H0 := Lib.hid h0
   clear h0
   have H1 := Lib.hid h1
   clear h1
   have HSS3 := Lib.hid hs
   clear hs
   go_enter Tryd.func55, Tryd.ntmps55
   go_upto_region 1 with (fail)
   obtain ⟨Va1, hV⟩ : ∃ V, (w.alloc (.cells #[.int .i64 (WW), .int .i64 (HH), .int .i64 (SS), .slice A ss.length c] 24)).alloc (.cells #[.int .i64 (lo), .int .i64 (hi)] 26) = V := ⟨_, rfl⟩
   have Kb1 : Hid (Blk Va1 (w.heap.size) 24 #[.int .i64 (WW), .int .i64 (HH), .int .i64 (SS), .slice A ss.length c]) := by rw [← hV]; exact (Blk.new' _ _ _ (by simp)).alloc _
   have Kb2 : Hid (Blk Va1 (w.heap.size + 1) 26 #[.int .i64 (lo), .int .i64 (hi)]) := by rw [← hV]; exact Blk.new' _ _ _ (by simp)
   have GHB : Hid (Below w.heap.size w Va1) := by rw [← hV]; exact (by repeat (first | exact Below.refl _ _ | assumption | refine Below.drew ?_ | refine Below.drewN' ?_ _ | (refine Below.alloc ?_ (by simp <;> omega) _) | (refine Below.setCell ?_ (by simp <;> omega) _)))
   have HZ : Hid (Below w.heap.size w Va1) := GHB
   have GHSS3 := Lib.hid (HSS3.out.later HZ.out (Nat.le_refl _))
   rw [hV]
   clear hV HZ HSS3
   have HB := GHB
   clear GHB
   have HSS3 := GHSS3
   clear GHSS3
   obtain ⟨b2, hqb2⟩ : ∃ b, w.heap.size + 1 = b := ⟨_, rfl⟩
   obtain ⟨b1, hqb1⟩ : ∃ b, w.heap.size = b := ⟨_, rfl⟩
   have gb1 : w.heap.size ≤ b1 := by omega
   have gb2 : w.heap.size ≤ b2 := by omega
   have nb2b1 : ¬ b2 = b1 := by omega
   have nb1b2 : ¬ b1 = b2 := by omega
   rw [hqb2] at Kb2 ⊢
   clear hqb2
   have HN : Hid (w.heap.size = b1) := hqb1
   rw [hqb1] at Kb1 ⊢
   clear hqb1
   have Hb1 := Kb1
   clear Kb1
   have Hb2 := Kb2
   clear Kb2
   have cb10 := kcl0 Hb1
   have cb11 := kcl1 Hb1
   have cb12 := kcl2 Hb1
   have cb13 := kcl3 Hb1
   go_wp2_with fail
   refine (check_any _ ⟨WW, HH, SS, ss⟩ _ ⟨_, rfl, HSS3.out⟩).mono ?_
   rintro e Va2 ⟨rfl, hb⟩
   have HZ := Lib.hid hb
   clear hb
   rw [H0.out]
   clear cb10 cb11 cb12 cb13
   replace Hb1 := kbl Hb1 HZ
   replace Hb2 := kbl Hb2 HZ
   replace HB := ktr' HB HZ
   replace HSS3 := Lib.hid (HSS3.out.later HZ.out (Nat.le_refl _))
   clear HZ
   have cb20 := kcl0 Hb2
   have cb21 := kcl1 Hb2
   go_wp2_with fail
   refine (span_of H1.out _).mono ?_
   rintro e Va3 ⟨rfl, hb⟩
   have HZ := Lib.hid hb
   clear hb
   clear cb20 cb21
   replace Hb1 := kbl Hb1 HZ
   replace Hb2 := kbl Hb2 HZ
   replace HB := ktr' HB HZ
   replace HSS3 := Lib.hid (HSS3.out.later HZ.out (Nat.le_refl _))
   clear HZ
   go_wp2
   go_ret
   exact ⟨by rw [EE.out]; rfl, HB.out⟩
 ·
  obtain ⟨E0, hE0⟩ : ∃ q, checkE ⟨WW, HH, SS, ss⟩ = q := ⟨_, rfl⟩
  have hb0 : ¬ E0 = 0 := by rw [← hE0]; exact h0
  have hb1 : (E0 == 0) = false := beq_eq_false_iff_ne.2 hb0
  have EE := Lib.hid (show seaE ⟨WW, HH, SS, ss⟩ (lo, hi) = E0 by rw [← hE0]; (unfold seaE spE andE; simp [*]))
  have HE0 := Lib.hid hE0
  clear hE0 hb0
  have H0 := Lib.hid h0
  clear h0
  have HSS3 := Lib.hid hs
  clear hs
  go_enter Tryd.func55, Tryd.ntmps55
  go_upto_region 1 with (fail)
  obtain ⟨Va1, hV⟩ : ∃ V, (w.alloc (.cells #[.int .i64 (WW), .int .i64 (HH), .int .i64 (SS), .slice A ss.length c] 24)).alloc (.cells #[.int .i64 (lo), .int .i64 (hi)] 26) = V := ⟨_, rfl⟩
  have Kb1 : Hid (Blk Va1 (w.heap.size) 24 #[.int .i64 (WW), .int .i64 (HH), .int .i64 (SS), .slice A ss.length c]) := by rw [← hV]; exact (Blk.new' _ _ _ (by simp)).alloc _
  have Kb2 : Hid (Blk Va1 (w.heap.size + 1) 26 #[.int .i64 (lo), .int .i64 (hi)]) := by rw [← hV]; exact Blk.new' _ _ _ (by simp)
  have GHB : Hid (Below w.heap.size w Va1) := by rw [← hV]; exact (by repeat (first | exact Below.refl _ _ | assumption | refine Below.drew ?_ | refine Below.drewN' ?_ _ | (refine Below.alloc ?_ (by simp <;> omega) _) | (refine Below.setCell ?_ (by simp <;> omega) _)))
  have HZ : Hid (Below w.heap.size w Va1) := GHB
  have GHSS3 := Lib.hid (HSS3.out.later HZ.out (Nat.le_refl _))
  rw [hV]
  clear hV HZ HSS3
  have HB := GHB
  clear GHB
  have HSS3 := GHSS3
  clear GHSS3
  obtain ⟨b2, hqb2⟩ : ∃ b, w.heap.size + 1 = b := ⟨_, rfl⟩
  obtain ⟨b1, hqb1⟩ : ∃ b, w.heap.size = b := ⟨_, rfl⟩
  have gb1 : w.heap.size ≤ b1 := by omega
  have gb2 : w.heap.size ≤ b2 := by omega
  have nb2b1 : ¬ b2 = b1 := by omega
  have nb1b2 : ¬ b1 = b2 := by omega
  rw [hqb2] at Kb2 ⊢
  clear hqb2
  have HN : Hid (w.heap.size = b1) := hqb1
  rw [hqb1] at Kb1 ⊢
  clear hqb1
  have Hb1 := Kb1
  clear Kb1
  have Hb2 := Kb2
  clear Kb2
  have cb10 := kcl0 Hb1
  have cb11 := kcl1 Hb1
  have cb12 := kcl2 Hb1
  have cb13 := kcl3 Hb1
  go_wp2_with fail
  refine (check_any _ ⟨WW, HH, SS, ss⟩ _ ⟨_, rfl, HSS3.out⟩).mono ?_
  rintro e Va2 ⟨rfl, hb⟩
  have HZ := Lib.hid hb
  clear hb
  rw [HE0.out]
  clear cb10 cb11 cb12 cb13
  replace Hb1 := kbl Hb1 HZ
  replace Hb2 := kbl Hb2 HZ
  replace HB := ktr' HB HZ
  replace HSS3 := Lib.hid (HSS3.out.later HZ.out (Nat.le_refl _))
  clear HZ
  go_wp2
  go_ret
  exact ⟨by rw [EE.out]; rfl, HB.out⟩
set_option maxRecDepth 100000 in
set_option maxHeartbeats 2000000 in
theorem checkGround_any (WW HH SS : Int) (ss : List (Int × Int)) (A : Option Addr) (c : Nat) (lo hi d1 d2 l1 l2 : Int) (w : World) (hs : SpansAt w w.heap.size (.slice A ss.length c) ss) :
 Calls Tryd.prog 82 #[.agg #[.int .i64 (WW), .int .i64 (HH), .int .i64 (SS), .slice A ss.length c], .agg #[.int .i64 lo, .int .i64 hi], .agg #[.int .i64 d1, .int .i64 d2, .int .i64 l1, .int .i64 l2]] w fun e w' => e = .returned (.int .i64 (groundE ⟨WW, HH, SS, ss⟩ (lo, hi) ⟨(d1, d2), (l1, l2)⟩)) ∧ Below w.heap.size w w' := by
 by_cases h0 : seaE ⟨WW, HH, SS, ss⟩ (lo, hi) = 0
 ·
  by_cases h1 : moE ⟨(d1, d2), (l1, l2)⟩ = 0
  ·
   have EE := Lib.hid (show groundE ⟨WW, HH, SS, ss⟩ (lo, hi) ⟨(d1, d2), (l1, l2)⟩ = 0 by (unfold groundE andE; simp [*]))
   have H0 := Lib.hid h0
   clear h0
   have H1 := Lib.hid h1
   clear h1
   have HSS3 := Lib.hid hs
   clear hs
   go_enter Tryd.func82, Tryd.ntmps82
   go_upto_region 1 with (fail)
   obtain ⟨Va1, hV⟩ : ∃ V, ((w.alloc (.cells #[.int .i64 (WW), .int .i64 (HH), .int .i64 (SS), .slice A ss.length c] 24)).alloc (.cells #[.int .i64 (lo), .int .i64 (hi)] 26)).alloc (.cells #[.int .i64 (d1), .int .i64 (d2), .int .i64 (l1), .int .i64 (l2)] 28) = V := ⟨_, rfl⟩
   have Kb1 : Hid (Blk Va1 (w.heap.size) 24 #[.int .i64 (WW), .int .i64 (HH), .int .i64 (SS), .slice A ss.length c]) := by rw [← hV]; exact ((Blk.new' _ _ _ (by simp)).alloc _).alloc _
   have Kb2 : Hid (Blk Va1 (w.heap.size + 1) 26 #[.int .i64 (lo), .int .i64 (hi)]) := by rw [← hV]; exact (Blk.new' _ _ _ (by simp)).alloc _
   have Kb3 : Hid (Blk Va1 (w.heap.size + 1 + 1) 28 #[.int .i64 (d1), .int .i64 (d2), .int .i64 (l1), .int .i64 (l2)]) := by rw [← hV]; exact Blk.new' _ _ _ (by simp)
   have GHB : Hid (Below w.heap.size w Va1) := by rw [← hV]; exact (by repeat (first | exact Below.refl _ _ | assumption | refine Below.drew ?_ | refine Below.drewN' ?_ _ | (refine Below.alloc ?_ (by simp <;> omega) _) | (refine Below.setCell ?_ (by simp <;> omega) _)))
   have HZ : Hid (Below w.heap.size w Va1) := GHB
   have GHSS3 := Lib.hid (HSS3.out.later HZ.out (Nat.le_refl _))
   rw [hV]
   clear hV HZ HSS3
   have HB := GHB
   clear GHB
   have HSS3 := GHSS3
   clear GHSS3
   obtain ⟨b3, hqb3⟩ : ∃ b, w.heap.size + 1 + 1 = b := ⟨_, rfl⟩
   obtain ⟨b2, hqb2⟩ : ∃ b, w.heap.size + 1 = b := ⟨_, rfl⟩
   obtain ⟨b1, hqb1⟩ : ∃ b, w.heap.size = b := ⟨_, rfl⟩
   have gb1 : w.heap.size ≤ b1 := by omega
   have gb2 : w.heap.size ≤ b2 := by omega
   have nb2b1 : ¬ b2 = b1 := by omega
   have nb1b2 : ¬ b1 = b2 := by omega
   have gb3 : w.heap.size ≤ b3 := by omega
   have nb3b1 : ¬ b3 = b1 := by omega
   have nb1b3 : ¬ b1 = b3 := by omega
   have nb3b2 : ¬ b3 = b2 := by omega
   have nb2b3 : ¬ b2 = b3 := by omega
   rw [hqb3] at Kb3 ⊢
   clear hqb3
   rw [hqb2] at Kb2 ⊢
   clear hqb2
   have HN : Hid (w.heap.size = b1) := hqb1
   rw [hqb1] at Kb1 ⊢
   clear hqb1
   have Hb1 := Kb1
   clear Kb1
   have Hb2 := Kb2
   clear Kb2
   have Hb3 := Kb3
   clear Kb3
   have cb10 := kcl0 Hb1
   have cb11 := kcl1 Hb1
   have cb12 := kcl2 Hb1
   have cb13 := kcl3 Hb1
   have cb20 := kcl0 Hb2
   have cb21 := kcl1 Hb2
   go_wp2_with fail
   refine (checkSea_any WW HH SS ss A c lo hi _ HSS3.out).mono ?_
   rintro e Va2 ⟨rfl, hb⟩
   have HZ := Lib.hid hb
   clear hb
   rw [H0.out]
   clear cb10 cb11 cb12 cb13 cb20 cb21
   replace Hb1 := kbl Hb1 HZ
   replace Hb2 := kbl Hb2 HZ
   replace Hb3 := kbl Hb3 HZ
   replace HB := ktr' HB HZ
   replace HSS3 := Lib.hid (HSS3.out.later HZ.out (Nat.le_refl _))
   clear HZ
   have cb30 := kcl0 Hb3
   have cb31 := kcl1 Hb3
   have cb32 := kcl2 Hb3
   have cb33 := kcl3 Hb3
   go_wp2_with fail
   refine (Check_any3 d1 d2 l1 l2 _).mono ?_
   rintro e Va3 ⟨rfl, hb⟩
   have HZ := Lib.hid hb
   clear hb
   rw [H1.out]
   clear cb30 cb31 cb32 cb33
   replace Hb1 := kbl Hb1 HZ
   replace Hb2 := kbl Hb2 HZ
   replace Hb3 := kbl Hb3 HZ
   replace HB := ktr' HB HZ
   replace HSS3 := Lib.hid (HSS3.out.later HZ.out (Nat.le_refl _))
   clear HZ
   go_wp2
   go_ret
   exact ⟨by rw [EE.out]; rfl, HB.out⟩
  ·
   obtain ⟨E0, hE0⟩ : ∃ q, moE ⟨(d1, d2), (l1, l2)⟩ = q := ⟨_, rfl⟩
   have hb0 : ¬ E0 = 0 := by rw [← hE0]; exact h1
   have hb1 : (E0 == 0) = false := beq_eq_false_iff_ne.2 hb0
   have EE := Lib.hid (show groundE ⟨WW, HH, SS, ss⟩ (lo, hi) ⟨(d1, d2), (l1, l2)⟩ = E0 by rw [← hE0]; (unfold groundE andE; simp [*]))
   have HE0 := Lib.hid hE0
   clear hE0 hb0
   have H0 := Lib.hid h0
   clear h0
   have H1 := Lib.hid h1
   clear h1
   have HSS3 := Lib.hid hs
   clear hs
   go_enter Tryd.func82, Tryd.ntmps82
   go_upto_region 1 with (fail)
   obtain ⟨Va1, hV⟩ : ∃ V, ((w.alloc (.cells #[.int .i64 (WW), .int .i64 (HH), .int .i64 (SS), .slice A ss.length c] 24)).alloc (.cells #[.int .i64 (lo), .int .i64 (hi)] 26)).alloc (.cells #[.int .i64 (d1), .int .i64 (d2), .int .i64 (l1), .int .i64 (l2)] 28) = V := ⟨_, rfl⟩
   have Kb1 : Hid (Blk Va1 (w.heap.size) 24 #[.int .i64 (WW), .int .i64 (HH), .int .i64 (SS), .slice A ss.length c]) := by rw [← hV]; exact ((Blk.new' _ _ _ (by simp)).alloc _).alloc _
   have Kb2 : Hid (Blk Va1 (w.heap.size + 1) 26 #[.int .i64 (lo), .int .i64 (hi)]) := by rw [← hV]; exact (Blk.new' _ _ _ (by simp)).alloc _
   have Kb3 : Hid (Blk Va1 (w.heap.size + 1 + 1) 28 #[.int .i64 (d1), .int .i64 (d2), .int .i64 (l1), .int .i64 (l2)]) := by rw [← hV]; exact Blk.new' _ _ _ (by simp)
   have GHB : Hid (Below w.heap.size w Va1) := by rw [← hV]; exact (by repeat (first | exact Below.refl _ _ | assumption | refine Below.drew ?_ | refine Below.drewN' ?_ _ | (refine Below.alloc ?_ (by simp <;> omega) _) | (refine Below.setCell ?_ (by simp <;> omega) _)))
   have HZ : Hid (Below w.heap.size w Va1) := GHB
   have GHSS3 := Lib.hid (HSS3.out.later HZ.out (Nat.le_refl _))
   rw [hV]
   clear hV HZ HSS3
   have HB := GHB
   clear GHB
   have HSS3 := GHSS3
   clear GHSS3
   obtain ⟨b3, hqb3⟩ : ∃ b, w.heap.size + 1 + 1 = b := ⟨_, rfl⟩
   obtain ⟨b2, hqb2⟩ : ∃ b, w.heap.size + 1 = b := ⟨_, rfl⟩
   obtain ⟨b1, hqb1⟩ : ∃ b, w.heap.size = b := ⟨_, rfl⟩
   have gb1 : w.heap.size ≤ b1 := by omega
   have gb2 : w.heap.size ≤ b2 := by omega
   have nb2b1 : ¬ b2 = b1 := by omega
   have nb1b2 : ¬ b1 = b2 := by omega
   have gb3 : w.heap.size ≤ b3 := by omega
   have nb3b1 : ¬ b3 = b1 := by omega
   have nb1b3 : ¬ b1 = b3 := by omega
   have nb3b2 : ¬ b3 = b2 := by omega
   have nb2b3 : ¬ b2 = b3 := by omega
   rw [hqb3] at Kb3 ⊢
   clear hqb3
   rw [hqb2] at Kb2 ⊢
   clear hqb2
   have HN : Hid (w.heap.size = b1) := hqb1
   rw [hqb1] at Kb1 ⊢
   clear hqb1
   have Hb1 := Kb1
   clear Kb1
   have Hb2 := Kb2
   clear Kb2
   have Hb3 := Kb3
   clear Kb3
   have cb10 := kcl0 Hb1
   have cb11 := kcl1 Hb1
   have cb12 := kcl2 Hb1
   have cb13 := kcl3 Hb1
   have cb20 := kcl0 Hb2
   have cb21 := kcl1 Hb2
   go_wp2_with fail
   refine (checkSea_any WW HH SS ss A c lo hi _ HSS3.out).mono ?_
   rintro e Va2 ⟨rfl, hb⟩
   have HZ := Lib.hid hb
   clear hb
   rw [H0.out]
   clear cb10 cb11 cb12 cb13 cb20 cb21
   replace Hb1 := kbl Hb1 HZ
   replace Hb2 := kbl Hb2 HZ
   replace Hb3 := kbl Hb3 HZ
   replace HB := ktr' HB HZ
   replace HSS3 := Lib.hid (HSS3.out.later HZ.out (Nat.le_refl _))
   clear HZ
   have cb30 := kcl0 Hb3
   have cb31 := kcl1 Hb3
   have cb32 := kcl2 Hb3
   have cb33 := kcl3 Hb3
   go_wp2_with fail
   refine (Check_any3 d1 d2 l1 l2 _).mono ?_
   rintro e Va3 ⟨rfl, hb⟩
   have HZ := Lib.hid hb
   clear hb
   rw [HE0.out]
   clear cb30 cb31 cb32 cb33
   replace Hb1 := kbl Hb1 HZ
   replace Hb2 := kbl Hb2 HZ
   replace Hb3 := kbl Hb3 HZ
   replace HB := ktr' HB HZ
   replace HSS3 := Lib.hid (HSS3.out.later HZ.out (Nat.le_refl _))
   clear HZ
   go_wp2
   go_ret
   exact ⟨by rw [EE.out]; rfl, HB.out⟩
 ·
  obtain ⟨E0, hE0⟩ : ∃ q, seaE ⟨WW, HH, SS, ss⟩ (lo, hi) = q := ⟨_, rfl⟩
  have hb0 : ¬ E0 = 0 := by rw [← hE0]; exact h0
  have hb1 : (E0 == 0) = false := beq_eq_false_iff_ne.2 hb0
  have EE := Lib.hid (show groundE ⟨WW, HH, SS, ss⟩ (lo, hi) ⟨(d1, d2), (l1, l2)⟩ = E0 by rw [← hE0]; (unfold groundE andE; simp [*]))
  have HE0 := Lib.hid hE0
  clear hE0 hb0
  have H0 := Lib.hid h0
  clear h0
  have HSS3 := Lib.hid hs
  clear hs
  go_enter Tryd.func82, Tryd.ntmps82
  go_upto_region 1 with (fail)
  obtain ⟨Va1, hV⟩ : ∃ V, ((w.alloc (.cells #[.int .i64 (WW), .int .i64 (HH), .int .i64 (SS), .slice A ss.length c] 24)).alloc (.cells #[.int .i64 (lo), .int .i64 (hi)] 26)).alloc (.cells #[.int .i64 (d1), .int .i64 (d2), .int .i64 (l1), .int .i64 (l2)] 28) = V := ⟨_, rfl⟩
  have Kb1 : Hid (Blk Va1 (w.heap.size) 24 #[.int .i64 (WW), .int .i64 (HH), .int .i64 (SS), .slice A ss.length c]) := by rw [← hV]; exact ((Blk.new' _ _ _ (by simp)).alloc _).alloc _
  have Kb2 : Hid (Blk Va1 (w.heap.size + 1) 26 #[.int .i64 (lo), .int .i64 (hi)]) := by rw [← hV]; exact (Blk.new' _ _ _ (by simp)).alloc _
  have Kb3 : Hid (Blk Va1 (w.heap.size + 1 + 1) 28 #[.int .i64 (d1), .int .i64 (d2), .int .i64 (l1), .int .i64 (l2)]) := by rw [← hV]; exact Blk.new' _ _ _ (by simp)
  have GHB : Hid (Below w.heap.size w Va1) := by rw [← hV]; exact (by repeat (first | exact Below.refl _ _ | assumption | refine Below.drew ?_ | refine Below.drewN' ?_ _ | (refine Below.alloc ?_ (by simp <;> omega) _) | (refine Below.setCell ?_ (by simp <;> omega) _)))
  have HZ : Hid (Below w.heap.size w Va1) := GHB
  have GHSS3 := Lib.hid (HSS3.out.later HZ.out (Nat.le_refl _))
  rw [hV]
  clear hV HZ HSS3
  have HB := GHB
  clear GHB
  have HSS3 := GHSS3
  clear GHSS3
  obtain ⟨b3, hqb3⟩ : ∃ b, w.heap.size + 1 + 1 = b := ⟨_, rfl⟩
  obtain ⟨b2, hqb2⟩ : ∃ b, w.heap.size + 1 = b := ⟨_, rfl⟩
  obtain ⟨b1, hqb1⟩ : ∃ b, w.heap.size = b := ⟨_, rfl⟩
  have gb1 : w.heap.size ≤ b1 := by omega
  have gb2 : w.heap.size ≤ b2 := by omega
  have nb2b1 : ¬ b2 = b1 := by omega
  have nb1b2 : ¬ b1 = b2 := by omega
  have gb3 : w.heap.size ≤ b3 := by omega
  have nb3b1 : ¬ b3 = b1 := by omega
  have nb1b3 : ¬ b1 = b3 := by omega
  have nb3b2 : ¬ b3 = b2 := by omega
  have nb2b3 : ¬ b2 = b3 := by omega
  rw [hqb3] at Kb3 ⊢
  clear hqb3
  rw [hqb2] at Kb2 ⊢
  clear hqb2
  have HN : Hid (w.heap.size = b1) := hqb1
  rw [hqb1] at Kb1 ⊢
  clear hqb1
  have Hb1 := Kb1
  clear Kb1
  have Hb2 := Kb2
  clear Kb2
  have Hb3 := Kb3
  clear Kb3
  have cb10 := kcl0 Hb1
  have cb11 := kcl1 Hb1
  have cb12 := kcl2 Hb1
  have cb13 := kcl3 Hb1
  have cb20 := kcl0 Hb2
  have cb21 := kcl1 Hb2
  go_wp2_with fail
  refine (checkSea_any WW HH SS ss A c lo hi _ HSS3.out).mono ?_
  rintro e Va2 ⟨rfl, hb⟩
  have HZ := Lib.hid hb
  clear hb
  rw [HE0.out]
  clear cb10 cb11 cb12 cb13 cb20 cb21
  replace Hb1 := kbl Hb1 HZ
  replace Hb2 := kbl Hb2 HZ
  replace Hb3 := kbl Hb3 HZ
  replace HB := ktr' HB HZ
  replace HSS3 := Lib.hid (HSS3.out.later HZ.out (Nat.le_refl _))
  clear HZ
  go_wp2
  go_ret
  exact ⟨by rw [EE.out]; rfl, HB.out⟩
theorem checkCell_any (WW HH SS : Int) (ss : List (Int × Int)) (A : Option Addr) (c : Nat) (cell : Int) (w : World) (hlen : ss.length ≤ 9223372036854775807) :
 Calls Tryd.prog 56 #[.agg #[.int .i64 WW, .int .i64 HH, .int .i64 SS, .slice A ss.length c], .int .i64 cell] w fun e w' => e = .returned (.int .i64 (cellE ⟨WW, HH, SS, ss⟩ cell)) ∧ Below w.heap.size w w' := by
 by_cases h : 0 ≤ cell ∧ cell < ss.length
 · have EE : Hid (cellE ⟨WW, HH, SS, ss⟩ cell = 0) := cellE_pos h
   have h1 : decide (0 ≤ cell ∧ cell ≤ (ss.length : Int) - 1) = true := by rw [decide_eq_true_iff]; omega
   have H1 := Lib.hid h1
   clear h1 h
   go_enter Tryd.func56, Tryd.ntmps56
   go_wp2_with fail
   refine (in_of H1.out _).mono ?_
   rintro e V1 ⟨rfl, hb⟩
   have HB := Lib.hid (((Below.refl _ w).alloc (Nat.le_refl _) _).trans (hb.mono (by simp)))
   clear hb
   go_wp2
   go_ret
   exact ⟨by rw [EE.out]; rfl, HB.out⟩
 · have EE : Hid (cellE ⟨WW, HH, SS, ss⟩ cell = 4) := cellE_neg h
   have h1 : decide (0 ≤ cell ∧ cell ≤ (ss.length : Int) - 1) = false := by rw [decide_eq_false_iff_not]; omega
   have H1 := Lib.hid h1
   clear h1 h
   go_enter Tryd.func56, Tryd.ntmps56
   go_wp2_with fail
   refine (in_of H1.out _).mono ?_
   rintro e V1 ⟨rfl, hb⟩
   have HB := Lib.hid (((Below.refl _ w).alloc (Nat.le_refl _) _).trans (hb.mono (by simp)))
   clear hb
   go_wp2
   go_ret
   exact ⟨by rw [EE.out]; rfl, HB.out⟩
theorem checkRun_any (z1 z2 n : Int) (w : World) :
 Calls Tryd.prog 76 #[.agg #[.int .i64 z1, .int .i64 z2], .int .i64 n] w fun e w' => e = .returned (.int .i64 (runE (z1, z2) n)) ∧ Below w.heap.size w w' := by
 by_cases h : spOk (-1099511627776) 1099511627776 (z1, z2) = true
 · have EE := Lib.hid (show runE (z1, z2) n = if 500 < n then 9 else 0 by unfold runE; rw [andE_right (spE_pos h)])
   have H1 := Lib.hid h
   clear h
   by_cases hn : 500 < n
   all_goals
    go_enter Tryd.func76, Tryd.ntmps76
    go_wp2_with fail
    refine (span_of H1.out _).mono ?_
    rintro e V1 ⟨rfl, hb⟩
    have HB := Lib.hid (((Below.refl _ w).alloc (Nat.le_refl _) _).trans (hb.mono (by simp)))
    clear hb
    go_wp2
    go_ret
    exact ⟨by rw [EE.out]; simp [hn], HB.out⟩
 · have h1 : spOk (-1099511627776) 1099511627776 (z1, z2) = false := by simpa using h
   have EE : Hid (runE (z1, z2) n = 3) := by unfold runE; rw [spE_neg h1]; rfl
   have H1 := Lib.hid h1
   clear h1 h
   go_enter Tryd.func76, Tryd.ntmps76
   go_wp2_with fail
   refine (span_of H1.out _).mono ?_
   rintro e V1 ⟨rfl, hb⟩
   have HB := Lib.hid (((Below.refl _ w).alloc (Nat.le_refl _) _).trans (hb.mono (by simp)))
   clear hb
   go_wp2
   go_ret
   exact ⟨by rw [EE.out]; rfl, HB.out⟩
set_option maxRecDepth 100000 in
set_option maxHeartbeats 2000000 in
theorem checkPlace_any (WW HH SS : Int) (ss : List (Int × Int)) (A : Option Addr) (c : Nat) (lo hi d1 d2 l1 l2 cell : Int) (w : World) (hs : SpansAt w w.heap.size (.slice A ss.length c) ss) :
 Calls Tryd.prog 70 #[.agg #[.int .i64 (WW), .int .i64 (HH), .int .i64 (SS), .slice A ss.length c], .agg #[.int .i64 lo, .int .i64 hi], .agg #[.int .i64 d1, .int .i64 d2, .int .i64 l1, .int .i64 l2], .int .i64 cell] w fun e w' => e = .returned (.int .i64 (placeE ⟨WW, HH, SS, ss⟩ (lo, hi) ⟨(d1, d2), (l1, l2)⟩ cell)) ∧ Below w.heap.size w w' := by
 have hlen := hs.2.1
 by_cases h0 : groundE ⟨WW, HH, SS, ss⟩ (lo, hi) ⟨(d1, d2), (l1, l2)⟩ = 0
 ·
  by_cases h1 : cellE ⟨WW, HH, SS, ss⟩ cell = 0
  ·
   have EE := Lib.hid (show placeE ⟨WW, HH, SS, ss⟩ (lo, hi) ⟨(d1, d2), (l1, l2)⟩ cell = 0 by (unfold placeE andE; simp [*]))
   have H0 := Lib.hid h0
   clear h0
   have H1 := Lib.hid h1
   clear h1
   have HSS3 := Lib.hid hs
   clear hs
   go_enter Tryd.func70, Tryd.ntmps70
   go_upto_region 1 with (fail)
   obtain ⟨Va1, hV⟩ : ∃ V, ((w.alloc (.cells #[.int .i64 (WW), .int .i64 (HH), .int .i64 (SS), .slice A ss.length c] 24)).alloc (.cells #[.int .i64 (lo), .int .i64 (hi)] 26)).alloc (.cells #[.int .i64 (d1), .int .i64 (d2), .int .i64 (l1), .int .i64 (l2)] 28) = V := ⟨_, rfl⟩
   have Kb1 : Hid (Blk Va1 (w.heap.size) 24 #[.int .i64 (WW), .int .i64 (HH), .int .i64 (SS), .slice A ss.length c]) := by rw [← hV]; exact ((Blk.new' _ _ _ (by simp)).alloc _).alloc _
   have Kb2 : Hid (Blk Va1 (w.heap.size + 1) 26 #[.int .i64 (lo), .int .i64 (hi)]) := by rw [← hV]; exact (Blk.new' _ _ _ (by simp)).alloc _
   have Kb3 : Hid (Blk Va1 (w.heap.size + 1 + 1) 28 #[.int .i64 (d1), .int .i64 (d2), .int .i64 (l1), .int .i64 (l2)]) := by rw [← hV]; exact Blk.new' _ _ _ (by simp)
   have GHB : Hid (Below w.heap.size w Va1) := by rw [← hV]; exact (by repeat (first | exact Below.refl _ _ | assumption | refine Below.drew ?_ | refine Below.drewN' ?_ _ | (refine Below.alloc ?_ (by simp <;> omega) _) | (refine Below.setCell ?_ (by simp <;> omega) _)))
   have HZ : Hid (Below w.heap.size w Va1) := GHB
   have GHSS3 := Lib.hid (HSS3.out.later HZ.out (Nat.le_refl _))
   rw [hV]
   clear hV HZ HSS3
   have HB := GHB
   clear GHB
   have HSS3 := GHSS3
   clear GHSS3
   obtain ⟨b3, hqb3⟩ : ∃ b, w.heap.size + 1 + 1 = b := ⟨_, rfl⟩
   obtain ⟨b2, hqb2⟩ : ∃ b, w.heap.size + 1 = b := ⟨_, rfl⟩
   obtain ⟨b1, hqb1⟩ : ∃ b, w.heap.size = b := ⟨_, rfl⟩
   have gb1 : w.heap.size ≤ b1 := by omega
   have gb2 : w.heap.size ≤ b2 := by omega
   have nb2b1 : ¬ b2 = b1 := by omega
   have nb1b2 : ¬ b1 = b2 := by omega
   have gb3 : w.heap.size ≤ b3 := by omega
   have nb3b1 : ¬ b3 = b1 := by omega
   have nb1b3 : ¬ b1 = b3 := by omega
   have nb3b2 : ¬ b3 = b2 := by omega
   have nb2b3 : ¬ b2 = b3 := by omega
   rw [hqb3] at Kb3 ⊢
   clear hqb3
   rw [hqb2] at Kb2 ⊢
   clear hqb2
   have HN : Hid (w.heap.size = b1) := hqb1
   rw [hqb1] at Kb1 ⊢
   clear hqb1
   have Hb1 := Kb1
   clear Kb1
   have Hb2 := Kb2
   clear Kb2
   have Hb3 := Kb3
   clear Kb3
   have cb10 := kcl0 Hb1
   have cb11 := kcl1 Hb1
   have cb12 := kcl2 Hb1
   have cb13 := kcl3 Hb1
   have cb20 := kcl0 Hb2
   have cb21 := kcl1 Hb2
   have cb30 := kcl0 Hb3
   have cb31 := kcl1 Hb3
   have cb32 := kcl2 Hb3
   have cb33 := kcl3 Hb3
   go_wp2_with fail
   refine (checkGround_any WW HH SS ss A c lo hi d1 d2 l1 l2 _ HSS3.out).mono ?_
   rintro e Va2 ⟨rfl, hb⟩
   have HZ := Lib.hid hb
   clear hb
   rw [H0.out]
   clear cb10 cb11 cb12 cb13 cb20 cb21 cb30 cb31 cb32 cb33
   replace Hb1 := kbl Hb1 HZ
   replace Hb2 := kbl Hb2 HZ
   replace Hb3 := kbl Hb3 HZ
   replace HB := ktr' HB HZ
   replace HSS3 := Lib.hid (HSS3.out.later HZ.out (Nat.le_refl _))
   clear HZ
   have cb10 := kcl0 Hb1
   have cb11 := kcl1 Hb1
   have cb12 := kcl2 Hb1
   have cb13 := kcl3 Hb1
   go_wp2_with fail
   refine (checkCell_any WW HH SS ss A c cell _ hlen).mono ?_
   rintro e Va3 ⟨rfl, hb⟩
   have HZ := Lib.hid hb
   clear hb
   rw [H1.out]
   clear cb10 cb11 cb12 cb13
   replace Hb1 := kbl Hb1 HZ
   replace Hb2 := kbl Hb2 HZ
   replace Hb3 := kbl Hb3 HZ
   replace HB := ktr' HB HZ
   replace HSS3 := Lib.hid (HSS3.out.later HZ.out (Nat.le_refl _))
   clear HZ
   go_wp2
   go_ret
   exact ⟨by rw [EE.out]; rfl, HB.out⟩
  ·
   obtain ⟨E0, hE0⟩ : ∃ q, cellE ⟨WW, HH, SS, ss⟩ cell = q := ⟨_, rfl⟩
   have hb0 : ¬ E0 = 0 := by rw [← hE0]; exact h1
   have hb1 : (E0 == 0) = false := beq_eq_false_iff_ne.2 hb0
   have EE := Lib.hid (show placeE ⟨WW, HH, SS, ss⟩ (lo, hi) ⟨(d1, d2), (l1, l2)⟩ cell = E0 by rw [← hE0]; (unfold placeE andE; simp [*]))
   have HE0 := Lib.hid hE0
   clear hE0 hb0
   have H0 := Lib.hid h0
   clear h0
   have H1 := Lib.hid h1
   clear h1
   have HSS3 := Lib.hid hs
   clear hs
   go_enter Tryd.func70, Tryd.ntmps70
   go_upto_region 1 with (fail)
   obtain ⟨Va1, hV⟩ : ∃ V, ((w.alloc (.cells #[.int .i64 (WW), .int .i64 (HH), .int .i64 (SS), .slice A ss.length c] 24)).alloc (.cells #[.int .i64 (lo), .int .i64 (hi)] 26)).alloc (.cells #[.int .i64 (d1), .int .i64 (d2), .int .i64 (l1), .int .i64 (l2)] 28) = V := ⟨_, rfl⟩
   have Kb1 : Hid (Blk Va1 (w.heap.size) 24 #[.int .i64 (WW), .int .i64 (HH), .int .i64 (SS), .slice A ss.length c]) := by rw [← hV]; exact ((Blk.new' _ _ _ (by simp)).alloc _).alloc _
   have Kb2 : Hid (Blk Va1 (w.heap.size + 1) 26 #[.int .i64 (lo), .int .i64 (hi)]) := by rw [← hV]; exact (Blk.new' _ _ _ (by simp)).alloc _
   have Kb3 : Hid (Blk Va1 (w.heap.size + 1 + 1) 28 #[.int .i64 (d1), .int .i64 (d2), .int .i64 (l1), .int .i64 (l2)]) := by rw [← hV]; exact Blk.new' _ _ _ (by simp)
   have GHB : Hid (Below w.heap.size w Va1) := by rw [← hV]; exact (by repeat (first | exact Below.refl _ _ | assumption | refine Below.drew ?_ | refine Below.drewN' ?_ _ | (refine Below.alloc ?_ (by simp <;> omega) _) | (refine Below.setCell ?_ (by simp <;> omega) _)))
   have HZ : Hid (Below w.heap.size w Va1) := GHB
   have GHSS3 := Lib.hid (HSS3.out.later HZ.out (Nat.le_refl _))
   rw [hV]
   clear hV HZ HSS3
   have HB := GHB
   clear GHB
   have HSS3 := GHSS3
   clear GHSS3
   obtain ⟨b3, hqb3⟩ : ∃ b, w.heap.size + 1 + 1 = b := ⟨_, rfl⟩
   obtain ⟨b2, hqb2⟩ : ∃ b, w.heap.size + 1 = b := ⟨_, rfl⟩
   obtain ⟨b1, hqb1⟩ : ∃ b, w.heap.size = b := ⟨_, rfl⟩
   have gb1 : w.heap.size ≤ b1 := by omega
   have gb2 : w.heap.size ≤ b2 := by omega
   have nb2b1 : ¬ b2 = b1 := by omega
   have nb1b2 : ¬ b1 = b2 := by omega
   have gb3 : w.heap.size ≤ b3 := by omega
   have nb3b1 : ¬ b3 = b1 := by omega
   have nb1b3 : ¬ b1 = b3 := by omega
   have nb3b2 : ¬ b3 = b2 := by omega
   have nb2b3 : ¬ b2 = b3 := by omega
   rw [hqb3] at Kb3 ⊢
   clear hqb3
   rw [hqb2] at Kb2 ⊢
   clear hqb2
   have HN : Hid (w.heap.size = b1) := hqb1
   rw [hqb1] at Kb1 ⊢
   clear hqb1
   have Hb1 := Kb1
   clear Kb1
   have Hb2 := Kb2
   clear Kb2
   have Hb3 := Kb3
   clear Kb3
   have cb10 := kcl0 Hb1
   have cb11 := kcl1 Hb1
   have cb12 := kcl2 Hb1
   have cb13 := kcl3 Hb1
   have cb20 := kcl0 Hb2
   have cb21 := kcl1 Hb2
   have cb30 := kcl0 Hb3
   have cb31 := kcl1 Hb3
   have cb32 := kcl2 Hb3
   have cb33 := kcl3 Hb3
   go_wp2_with fail
   refine (checkGround_any WW HH SS ss A c lo hi d1 d2 l1 l2 _ HSS3.out).mono ?_
   rintro e Va2 ⟨rfl, hb⟩
   have HZ := Lib.hid hb
   clear hb
   rw [H0.out]
   clear cb10 cb11 cb12 cb13 cb20 cb21 cb30 cb31 cb32 cb33
   replace Hb1 := kbl Hb1 HZ
   replace Hb2 := kbl Hb2 HZ
   replace Hb3 := kbl Hb3 HZ
   replace HB := ktr' HB HZ
   replace HSS3 := Lib.hid (HSS3.out.later HZ.out (Nat.le_refl _))
   clear HZ
   have cb10 := kcl0 Hb1
   have cb11 := kcl1 Hb1
   have cb12 := kcl2 Hb1
   have cb13 := kcl3 Hb1
   go_wp2_with fail
   refine (checkCell_any WW HH SS ss A c cell _ hlen).mono ?_
   rintro e Va3 ⟨rfl, hb⟩
   have HZ := Lib.hid hb
   clear hb
   rw [HE0.out]
   clear cb10 cb11 cb12 cb13
   replace Hb1 := kbl Hb1 HZ
   replace Hb2 := kbl Hb2 HZ
   replace Hb3 := kbl Hb3 HZ
   replace HB := ktr' HB HZ
   replace HSS3 := Lib.hid (HSS3.out.later HZ.out (Nat.le_refl _))
   clear HZ
   go_wp2
   go_ret
   exact ⟨by rw [EE.out]; rfl, HB.out⟩
 ·
  obtain ⟨E0, hE0⟩ : ∃ q, groundE ⟨WW, HH, SS, ss⟩ (lo, hi) ⟨(d1, d2), (l1, l2)⟩ = q := ⟨_, rfl⟩
  have hb0 : ¬ E0 = 0 := by rw [← hE0]; exact h0
  have hb1 : (E0 == 0) = false := beq_eq_false_iff_ne.2 hb0
  have EE := Lib.hid (show placeE ⟨WW, HH, SS, ss⟩ (lo, hi) ⟨(d1, d2), (l1, l2)⟩ cell = E0 by rw [← hE0]; (unfold placeE andE; simp [*]))
  have HE0 := Lib.hid hE0
  clear hE0 hb0
  have H0 := Lib.hid h0
  clear h0
  have HSS3 := Lib.hid hs
  clear hs
  go_enter Tryd.func70, Tryd.ntmps70
  go_upto_region 1 with (fail)
  obtain ⟨Va1, hV⟩ : ∃ V, ((w.alloc (.cells #[.int .i64 (WW), .int .i64 (HH), .int .i64 (SS), .slice A ss.length c] 24)).alloc (.cells #[.int .i64 (lo), .int .i64 (hi)] 26)).alloc (.cells #[.int .i64 (d1), .int .i64 (d2), .int .i64 (l1), .int .i64 (l2)] 28) = V := ⟨_, rfl⟩
  have Kb1 : Hid (Blk Va1 (w.heap.size) 24 #[.int .i64 (WW), .int .i64 (HH), .int .i64 (SS), .slice A ss.length c]) := by rw [← hV]; exact ((Blk.new' _ _ _ (by simp)).alloc _).alloc _
  have Kb2 : Hid (Blk Va1 (w.heap.size + 1) 26 #[.int .i64 (lo), .int .i64 (hi)]) := by rw [← hV]; exact (Blk.new' _ _ _ (by simp)).alloc _
  have Kb3 : Hid (Blk Va1 (w.heap.size + 1 + 1) 28 #[.int .i64 (d1), .int .i64 (d2), .int .i64 (l1), .int .i64 (l2)]) := by rw [← hV]; exact Blk.new' _ _ _ (by simp)
  have GHB : Hid (Below w.heap.size w Va1) := by rw [← hV]; exact (by repeat (first | exact Below.refl _ _ | assumption | refine Below.drew ?_ | refine Below.drewN' ?_ _ | (refine Below.alloc ?_ (by simp <;> omega) _) | (refine Below.setCell ?_ (by simp <;> omega) _)))
  have HZ : Hid (Below w.heap.size w Va1) := GHB
  have GHSS3 := Lib.hid (HSS3.out.later HZ.out (Nat.le_refl _))
  rw [hV]
  clear hV HZ HSS3
  have HB := GHB
  clear GHB
  have HSS3 := GHSS3
  clear GHSS3
  obtain ⟨b3, hqb3⟩ : ∃ b, w.heap.size + 1 + 1 = b := ⟨_, rfl⟩
  obtain ⟨b2, hqb2⟩ : ∃ b, w.heap.size + 1 = b := ⟨_, rfl⟩
  obtain ⟨b1, hqb1⟩ : ∃ b, w.heap.size = b := ⟨_, rfl⟩
  have gb1 : w.heap.size ≤ b1 := by omega
  have gb2 : w.heap.size ≤ b2 := by omega
  have nb2b1 : ¬ b2 = b1 := by omega
  have nb1b2 : ¬ b1 = b2 := by omega
  have gb3 : w.heap.size ≤ b3 := by omega
  have nb3b1 : ¬ b3 = b1 := by omega
  have nb1b3 : ¬ b1 = b3 := by omega
  have nb3b2 : ¬ b3 = b2 := by omega
  have nb2b3 : ¬ b2 = b3 := by omega
  rw [hqb3] at Kb3 ⊢
  clear hqb3
  rw [hqb2] at Kb2 ⊢
  clear hqb2
  have HN : Hid (w.heap.size = b1) := hqb1
  rw [hqb1] at Kb1 ⊢
  clear hqb1
  have Hb1 := Kb1
  clear Kb1
  have Hb2 := Kb2
  clear Kb2
  have Hb3 := Kb3
  clear Kb3
  have cb10 := kcl0 Hb1
  have cb11 := kcl1 Hb1
  have cb12 := kcl2 Hb1
  have cb13 := kcl3 Hb1
  have cb20 := kcl0 Hb2
  have cb21 := kcl1 Hb2
  have cb30 := kcl0 Hb3
  have cb31 := kcl1 Hb3
  have cb32 := kcl2 Hb3
  have cb33 := kcl3 Hb3
  go_wp2_with fail
  refine (checkGround_any WW HH SS ss A c lo hi d1 d2 l1 l2 _ HSS3.out).mono ?_
  rintro e Va2 ⟨rfl, hb⟩
  have HZ := Lib.hid hb
  clear hb
  rw [HE0.out]
  clear cb10 cb11 cb12 cb13 cb20 cb21 cb30 cb31 cb32 cb33
  replace Hb1 := kbl Hb1 HZ
  replace Hb2 := kbl Hb2 HZ
  replace Hb3 := kbl Hb3 HZ
  replace HB := ktr' HB HZ
  replace HSS3 := Lib.hid (HSS3.out.later HZ.out (Nat.le_refl _))
  clear HZ
  go_wp2
  go_ret
  exact ⟨by rw [EE.out]; rfl, HB.out⟩
end Go.Proofs.YtdhcdgfpkjdihaaDoor.Sg
