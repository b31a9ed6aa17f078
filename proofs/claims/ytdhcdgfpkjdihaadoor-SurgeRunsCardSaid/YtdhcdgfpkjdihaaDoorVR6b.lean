/-
  Layer 3, the reference: Run.
-/
import Derived.Test.YtdhcdgfpkjdihaaDoorVR6a
set_option linter.unusedSimpArgs false
set_option linter.unusedVariables false
namespace Go.Proofs.YtdhcdgfpkjdihaaDoor.Sg
open Go.RowKit Go.Shelf
def Zeg : Oper := ⟨some 61, .load 40 (.tmp 8), 40, "ref.go:240", #[], none⟩
def Zeh : Oper := ⟨some 62, .load 26 (.tmp 10), 26, "ref.go:240", #[], none⟩
def Zei : Oper := ⟨some 63, .load 24 (.tmp 6), 24, "ref.go:240", #[], none⟩
def Zej : Oper := ⟨some 64, .load 26 (.tmp 7), 26, "ref.go:240", #[], none⟩
def Zek : Oper := ⟨some 65, .load 40 (.tmp 8), 40, "ref.go:240", #[], none⟩
def Zel : Oper := ⟨some 66, .move (.tmp 3), 3, "ref.go:240", #[], none⟩
def Zem : Oper := ⟨some 67, .move (.tmp 5), 56, "ref.go:240", #[], none⟩
def Zen : Oper := ⟨some 68, .move (.tmp 17), 3, "ref.go:240", #[], none⟩
def Zeo : Oper := ⟨some 69, .indexAddr 56 (.tmp 67) (.tmp 68), 0, "ref.go:240", #[⟨6, .data⟩, ⟨7, .data⟩], none⟩
def Zep : Oper := ⟨some 70, .load 44 (.tmp 69), 44, "ref.go:240", #[⟨8, .data⟩], none⟩
def Zeq : Oper := ⟨some 71, .call { callee := Callee.value (.func 75), args := #[.tmp 63, .tmp 64, .tmp 65, .tmp 66, .tmp 70], argTypes := #[24, 26, 40, 3, 44] }, 26, "ref.go:240", #[⟨2, .data⟩, ⟨3, .data⟩, ⟨4, .data⟩, ⟨5, .data⟩, ⟨9, .data⟩], none⟩
def Zer : Oper := ⟨some 72, .call { callee := Callee.value (.func 79), args := #[.tmp 61, .tmp 62, .tmp 71], argTypes := #[40, 26, 26] }, 26, "ref.go:240", #[⟨0, .data⟩, ⟨1, .data⟩, ⟨10, .data⟩, ⟨10, .chain⟩], none⟩
def Zes : Oper := ⟨none, .store 26 (.tmp 10) (.tmp 72), 0, "ref.go:240", #[⟨11, .data⟩, ⟨11, .chain⟩, ⟨0, .phase⟩, ⟨1, .phase⟩, ⟨2, .phase⟩, ⟨3, .phase⟩, ⟨4, .phase⟩, ⟨5, .phase⟩, ⟨6, .phase⟩, ⟨7, .phase⟩, ⟨8, .phase⟩, ⟨9, .phase⟩, ⟨10, .phase⟩, ⟨11, .phase⟩], none⟩
theorem windsE_app (a b : List Wi) : windsE (a ++ b) = andE (windsE a) (windsE b) := by
 induction a with
 | nil => rfl
 | cons x a ih =>
  show andE (wiE x) (windsE (a ++ b)) = andE (andE (wiE x) (windsE a)) (windsE b)
  rw [ih]
  unfold andE
  split <;> simp [*]
theorem windsE_pre {l : List Wi} {k : Nat} {E : Int} (h : windsE (l.take k) = E) (h0 : ¬ E = 0) : windsE l = E := by
 have e := windsE_app (l.take k) (l.drop k)
 rw [List.take_append_drop, h, andE_left h0] at e
 exact e
set_option maxRecDepth 100000 in
set_option maxHeartbeats 4000000 in
theorem rRun_any (WW HH SS : Int) (ss : List (Int × Int)) (A : Option Addr) (c : Nat) (lo hi d1 d2 l1 l2 cell z1 z2 : Int) (A' : Option Addr) (c' : Nat) (ws : List Wi) (w : World) (hs : SpansAt w w.heap.size (.slice A ss.length c) ss) (hl : WindsAt w w.heap.size (.slice A' ws.length c') ws) :
 Calls Tryd.prog 30 #[.agg #[.int .i64 (WW), .int .i64 (HH), .int .i64 (SS), .slice A ss.length c], .agg #[.int .i64 lo, .int .i64 hi], .agg #[.int .i64 (d1), .int .i64 (d2), .int .i64 (l1), .int .i64 (l2)], .int .i64 cell, .agg #[.int .i64 z1, .int .i64 z2], .slice A' ws.length c'] w fun e w' => ∃ v', e = .returned (.tuple #[v', .int .i64 (runAE ⟨WW, HH, SS, ss⟩ (lo, hi) ⟨(d1, d2), (l1, l2)⟩ cell (z1, z2) ws)]) ∧ SpansAt w' w'.heap.size v' (runV ⟨WW, HH, SS, ss⟩ (lo, hi) ⟨(d1, d2), (l1, l2)⟩ cell (z1, z2) ws) ∧ Below w.heap.size w w' := by
 by_cases h0 : placeE ⟨WW, HH, SS, ss⟩ (lo, hi) ⟨(d1, d2), (l1, l2)⟩ cell = 0
 rotate_left
 · obtain ⟨E0, hE0⟩ : ∃ z, placeE ⟨WW, HH, SS, ss⟩ (lo, hi) ⟨(d1, d2), (l1, l2)⟩ cell = z := ⟨_, rfl⟩
   have EE := Lib.hid (show runAE ⟨WW, HH, SS, ss⟩ (lo, hi) ⟨(d1, d2), (l1, l2)⟩ cell (z1, z2) ws = E0 by unfold runAE; rw [andE_left h0, hE0])
   rw [hE0] at h0
   have EV := Lib.hid (show runV ⟨WW, HH, SS, ss⟩ (lo, hi) ⟨(d1, d2), (l1, l2)⟩ cell (z1, z2) ws = [] from if_neg (by rw [EE.out]; exact h0))
   have hb1 : (E0 == 0) = false := beq_eq_false_iff_ne.2 h0
   have H0 := Lib.hid hE0
   clear hE0 h0
   have HS0 := Lib.hid hs
   have HWS := Lib.hid hl
   clear hs hl
   go_enter Tryd.func30, Tryd.ntmps30
   go_upto_region 1 with (fail)
   obtain ⟨Va1, hV⟩ : ∃ V, (((w.alloc (.cells #[.int .i64 (WW), .int .i64 (HH), .int .i64 (SS), .slice A ss.length c] 24)).alloc (.cells #[.int .i64 (lo), .int .i64 (hi)] 26)).alloc (.cells #[.int .i64 (d1), .int .i64 (d2), .int .i64 (l1), .int .i64 (l2)] 40)).alloc (.cells #[.int .i64 (z1), .int .i64 (z2)] 26) = V := ⟨_, rfl⟩
   have Kb6 : Hid (Blk Va1 (w.heap.size) 24 #[.int .i64 (WW), .int .i64 (HH), .int .i64 (SS), .slice A ss.length c]) := by rw [← hV]; exact (((Blk.new' _ _ _ (by simp)).alloc _).alloc _).alloc _
   have Kb7 : Hid (Blk Va1 (w.heap.size + 1) 26 #[.int .i64 (lo), .int .i64 (hi)]) := by rw [← hV]; exact ((Blk.new' _ _ _ (by simp)).alloc _).alloc _
   have Kb8 : Hid (Blk Va1 (w.heap.size + 1 + 1) 40 #[.int .i64 (d1), .int .i64 (d2), .int .i64 (l1), .int .i64 (l2)]) := by rw [← hV]; exact (Blk.new' _ _ _ (by simp)).alloc _
   have Kb10 : Hid (Blk Va1 (w.heap.size + 1 + 1 + 1) 26 #[.int .i64 (z1), .int .i64 (z2)]) := by rw [← hV]; exact Blk.new' _ _ _ (by simp)
   have GHB : Hid (Below w.heap.size w Va1) := by rw [← hV]; exact (by repeat (first | exact Below.refl _ _ | assumption | refine Below.drew ?_ | refine Below.drewN' ?_ _ | (refine Below.alloc ?_ (by simp <;> omega) _) | (refine Below.setCell ?_ (by simp <;> omega) _)))
   have HZ : Hid (Below w.heap.size w Va1) := GHB
   rw [hV]
   clear hV HZ
   have HB := GHB
   clear GHB
   obtain ⟨b10, hqb10⟩ : ∃ b, w.heap.size + 1 + 1 + 1 = b := ⟨_, rfl⟩
   obtain ⟨b8, hqb8⟩ : ∃ b, w.heap.size + 1 + 1 = b := ⟨_, rfl⟩
   obtain ⟨b7, hqb7⟩ : ∃ b, w.heap.size + 1 = b := ⟨_, rfl⟩
   obtain ⟨b6, hqb6⟩ : ∃ b, w.heap.size = b := ⟨_, rfl⟩
   have gb6 : w.heap.size ≤ b6 := by omega
   have gb7 : w.heap.size ≤ b7 := by omega
   have nb7b6 : ¬ b7 = b6 := by omega
   have nb6b7 : ¬ b6 = b7 := by omega
   have gb8 : w.heap.size ≤ b8 := by omega
   have nb8b6 : ¬ b8 = b6 := by omega
   have nb6b8 : ¬ b6 = b8 := by omega
   have nb8b7 : ¬ b8 = b7 := by omega
   have nb7b8 : ¬ b7 = b8 := by omega
   have gb10 : w.heap.size ≤ b10 := by omega
   have nb10b6 : ¬ b10 = b6 := by omega
   have nb6b10 : ¬ b6 = b10 := by omega
   have nb10b7 : ¬ b10 = b7 := by omega
   have nb7b10 : ¬ b7 = b10 := by omega
   have nb10b8 : ¬ b10 = b8 := by omega
   have nb8b10 : ¬ b8 = b10 := by omega
   rw [hqb10] at Kb10 ⊢
   clear hqb10
   rw [hqb8] at Kb8 ⊢
   clear hqb8
   rw [hqb7] at Kb7 ⊢
   clear hqb7
   have HN : Hid (w.heap.size = b6) := hqb6
   rw [hqb6] at Kb6 ⊢
   clear hqb6
   have Hb6 := Kb6
   clear Kb6
   have Hb7 := Kb7
   clear Kb7
   have Hb8 := Kb8
   clear Kb8
   have Hb10 := Kb10
   clear Kb10
   have cb60 := kcl0 Hb6
   have cb61 := kcl1 Hb6
   have cb62 := kcl2 Hb6
   have cb63 := kcl3 Hb6
   have cb70 := kcl0 Hb7
   have cb71 := kcl1 Hb7
   have cb80 := kcl0 Hb8
   have cb81 := kcl1 Hb8
   have cb82 := kcl2 Hb8
   have cb83 := kcl3 Hb8
   go_wp2_with fail
   refine (rplace_any WW HH SS ss A c lo hi d1 d2 l1 l2 cell _ (HS0.out.later HB.out (Nat.le_refl _))).mono ?_
   rintro e Va2 ⟨rfl, hb⟩
   have HZ := Lib.hid hb
   clear hb
   rw [H0.out]
   clear cb60 cb61 cb62 cb63 cb70 cb71 cb80 cb81 cb82 cb83
   replace Hb6 := kbl Hb6 HZ
   replace Hb7 := kbl Hb7 HZ
   replace Hb8 := kbl Hb8 HZ
   replace Hb10 := kbl Hb10 HZ
   replace HB := ktr' HB HZ
   clear HZ
   go_upto_region 7 with (fail)
   go_loopw [14, 15] (fun ev iv wr => ev = .int .i64 E0 ∧ iv = .int .i64 0 ∧ Hid (Below w.heap.size w wr)) (fun _ _ _ => 0)
   case atStart => exact ⟨rfl, rfl, HB⟩
   case round =>
    obtain ⟨rfl, rfl, HBr⟩ := hrel
    by_cases h : (0 : Int) < (ws.length : Int)
    all_goals
     go_wp2
     all_goals
      refine bodyPost_ret (v := .tuple #[.slice none 0 0, .int .i64 E0]) (by simp [results, Tryd.results30, go_sem]) rfl ⟨_, by rw [EE.out], ?_, HBr.out⟩
      rw [EV.out]
      exact Reads.nil _ _ _
 have H0 := Lib.hid h0
 by_cases h1 : spOk (-1099511627776) 1099511627776 (z1, z2) = true
 rotate_left
 · have h1 : spOk (-1099511627776) 1099511627776 (z1, z2) = false := by simpa using h1
   have EE := Lib.hid (show runAE ⟨WW, HH, SS, ss⟩ (lo, hi) ⟨(d1, d2), (l1, l2)⟩ cell (z1, z2) ws = 3 by unfold runAE runE; rw [andE_right h0, spE_neg h1]; rfl)
   have EV := Lib.hid (show runV ⟨WW, HH, SS, ss⟩ (lo, hi) ⟨(d1, d2), (l1, l2)⟩ cell (z1, z2) ws = [] from if_neg (by rw [EE.out]; decide))
   have H1 := Lib.hid h1
   clear h0 h1
   have HS0 := Lib.hid hs
   have HWS := Lib.hid hl
   clear hs hl
   go_enter Tryd.func30, Tryd.ntmps30
   go_upto_region 1 with (fail)
   obtain ⟨Va51, hV⟩ : ∃ V, (((w.alloc (.cells #[.int .i64 (WW), .int .i64 (HH), .int .i64 (SS), .slice A ss.length c] 24)).alloc (.cells #[.int .i64 (lo), .int .i64 (hi)] 26)).alloc (.cells #[.int .i64 (d1), .int .i64 (d2), .int .i64 (l1), .int .i64 (l2)] 40)).alloc (.cells #[.int .i64 (z1), .int .i64 (z2)] 26) = V := ⟨_, rfl⟩
   have Kb6 : Hid (Blk Va51 (w.heap.size) 24 #[.int .i64 (WW), .int .i64 (HH), .int .i64 (SS), .slice A ss.length c]) := by rw [← hV]; exact (((Blk.new' _ _ _ (by simp)).alloc _).alloc _).alloc _
   have Kb7 : Hid (Blk Va51 (w.heap.size + 1) 26 #[.int .i64 (lo), .int .i64 (hi)]) := by rw [← hV]; exact ((Blk.new' _ _ _ (by simp)).alloc _).alloc _
   have Kb8 : Hid (Blk Va51 (w.heap.size + 1 + 1) 40 #[.int .i64 (d1), .int .i64 (d2), .int .i64 (l1), .int .i64 (l2)]) := by rw [← hV]; exact (Blk.new' _ _ _ (by simp)).alloc _
   have Kb10 : Hid (Blk Va51 (w.heap.size + 1 + 1 + 1) 26 #[.int .i64 (z1), .int .i64 (z2)]) := by rw [← hV]; exact Blk.new' _ _ _ (by simp)
   have GHB : Hid (Below w.heap.size w Va51) := by rw [← hV]; exact (by repeat (first | exact Below.refl _ _ | assumption | refine Below.drew ?_ | refine Below.drewN' ?_ _ | (refine Below.alloc ?_ (by simp <;> omega) _) | (refine Below.setCell ?_ (by simp <;> omega) _)))
   have HZ : Hid (Below w.heap.size w Va51) := GHB
   rw [hV]
   clear hV HZ
   have HB := GHB
   clear GHB
   obtain ⟨b10, hqb10⟩ : ∃ b, w.heap.size + 1 + 1 + 1 = b := ⟨_, rfl⟩
   obtain ⟨b8, hqb8⟩ : ∃ b, w.heap.size + 1 + 1 = b := ⟨_, rfl⟩
   obtain ⟨b7, hqb7⟩ : ∃ b, w.heap.size + 1 = b := ⟨_, rfl⟩
   obtain ⟨b6, hqb6⟩ : ∃ b, w.heap.size = b := ⟨_, rfl⟩
   have gb6 : w.heap.size ≤ b6 := by omega
   have gb7 : w.heap.size ≤ b7 := by omega
   have nb7b6 : ¬ b7 = b6 := by omega
   have nb6b7 : ¬ b6 = b7 := by omega
   have gb8 : w.heap.size ≤ b8 := by omega
   have nb8b6 : ¬ b8 = b6 := by omega
   have nb6b8 : ¬ b6 = b8 := by omega
   have nb8b7 : ¬ b8 = b7 := by omega
   have nb7b8 : ¬ b7 = b8 := by omega
   have gb10 : w.heap.size ≤ b10 := by omega
   have nb10b6 : ¬ b10 = b6 := by omega
   have nb6b10 : ¬ b6 = b10 := by omega
   have nb10b7 : ¬ b10 = b7 := by omega
   have nb7b10 : ¬ b7 = b10 := by omega
   have nb10b8 : ¬ b10 = b8 := by omega
   have nb8b10 : ¬ b8 = b10 := by omega
   rw [hqb10] at Kb10 ⊢
   clear hqb10
   rw [hqb8] at Kb8 ⊢
   clear hqb8
   rw [hqb7] at Kb7 ⊢
   clear hqb7
   have HN : Hid (w.heap.size = b6) := hqb6
   rw [hqb6] at Kb6 ⊢
   clear hqb6
   have Hb6 := Kb6
   clear Kb6
   have Hb7 := Kb7
   clear Kb7
   have Hb8 := Kb8
   clear Kb8
   have Hb10 := Kb10
   clear Kb10
   have cb60 := kcl0 Hb6
   have cb61 := kcl1 Hb6
   have cb62 := kcl2 Hb6
   have cb63 := kcl3 Hb6
   have cb70 := kcl0 Hb7
   have cb71 := kcl1 Hb7
   have cb80 := kcl0 Hb8
   have cb81 := kcl1 Hb8
   have cb82 := kcl2 Hb8
   have cb83 := kcl3 Hb8
   go_wp2_with fail
   refine (rplace_any WW HH SS ss A c lo hi d1 d2 l1 l2 cell _ (HS0.out.later HB.out (Nat.le_refl _))).mono ?_
   rintro e Va52 ⟨rfl, hb⟩
   have HZ := Lib.hid hb
   clear hb
   rw [H0.out]
   clear cb60 cb61 cb62 cb63 cb70 cb71 cb80 cb81 cb82 cb83
   replace Hb6 := kbl Hb6 HZ
   replace Hb7 := kbl Hb7 HZ
   replace Hb8 := kbl Hb8 HZ
   replace Hb10 := kbl Hb10 HZ
   replace HB := ktr' HB HZ
   clear HZ
   have cb100 := kcl0 Hb10
   have cb101 := kcl1 Hb10
   go_wp2_with fail
   refine (rspan_of H1.out _).mono ?_
   rintro e Va53 ⟨rfl, hb⟩
   have HZ := Lib.hid hb
   clear hb
   clear cb100 cb101
   replace Hb6 := kbl Hb6 HZ
   replace Hb7 := kbl Hb7 HZ
   replace Hb8 := kbl Hb8 HZ
   replace Hb10 := kbl Hb10 HZ
   replace HB := ktr' HB HZ
   clear HZ
   go_upto_region 7 with (fail)
   go_loopw [14, 15] (fun ev iv wr => ev = .int .i64 3 ∧ iv = .int .i64 0 ∧ Hid (Below w.heap.size w wr)) (fun _ _ _ => 0)
   case atStart => exact ⟨rfl, rfl, HB⟩
   case round =>
    obtain ⟨rfl, rfl, HBr⟩ := hrel
    by_cases h : (0 : Int) < (ws.length : Int)
    all_goals
     go_wp2
     all_goals
      refine bodyPost_ret (v := .tuple #[.slice none 0 0, .int .i64 3]) (by simp [results, Tryd.results30, go_sem]) rfl ⟨_, by rw [EE.out], ?_, HBr.out⟩
      rw [EV.out]
      exact Reads.nil _ _ _
 by_cases h2 : (500 : Int) < (ws.length : Int)
 · have EE := Lib.hid (show runAE ⟨WW, HH, SS, ss⟩ (lo, hi) ⟨(d1, d2), (l1, l2)⟩ cell (z1, z2) ws = 9 by unfold runAE runE; rw [andE_right h0, spE_pos h1, andE_right rfl, if_pos h2]; rfl)
   have EV := Lib.hid (show runV ⟨WW, HH, SS, ss⟩ (lo, hi) ⟨(d1, d2), (l1, l2)⟩ cell (z1, z2) ws = [] from if_neg (by rw [EE.out]; decide))
   have H1 := Lib.hid h1
   clear h0 h1
   have HS0 := Lib.hid hs
   have HWS := Lib.hid hl
   clear hs hl
   go_enter Tryd.func30, Tryd.ntmps30
   go_upto_region 1 with (fail)
   obtain ⟨Va101, hV⟩ : ∃ V, (((w.alloc (.cells #[.int .i64 (WW), .int .i64 (HH), .int .i64 (SS), .slice A ss.length c] 24)).alloc (.cells #[.int .i64 (lo), .int .i64 (hi)] 26)).alloc (.cells #[.int .i64 (d1), .int .i64 (d2), .int .i64 (l1), .int .i64 (l2)] 40)).alloc (.cells #[.int .i64 (z1), .int .i64 (z2)] 26) = V := ⟨_, rfl⟩
   have Kb6 : Hid (Blk Va101 (w.heap.size) 24 #[.int .i64 (WW), .int .i64 (HH), .int .i64 (SS), .slice A ss.length c]) := by rw [← hV]; exact (((Blk.new' _ _ _ (by simp)).alloc _).alloc _).alloc _
   have Kb7 : Hid (Blk Va101 (w.heap.size + 1) 26 #[.int .i64 (lo), .int .i64 (hi)]) := by rw [← hV]; exact ((Blk.new' _ _ _ (by simp)).alloc _).alloc _
   have Kb8 : Hid (Blk Va101 (w.heap.size + 1 + 1) 40 #[.int .i64 (d1), .int .i64 (d2), .int .i64 (l1), .int .i64 (l2)]) := by rw [← hV]; exact (Blk.new' _ _ _ (by simp)).alloc _
   have Kb10 : Hid (Blk Va101 (w.heap.size + 1 + 1 + 1) 26 #[.int .i64 (z1), .int .i64 (z2)]) := by rw [← hV]; exact Blk.new' _ _ _ (by simp)
   have GHB : Hid (Below w.heap.size w Va101) := by rw [← hV]; exact (by repeat (first | exact Below.refl _ _ | assumption | refine Below.drew ?_ | refine Below.drewN' ?_ _ | (refine Below.alloc ?_ (by simp <;> omega) _) | (refine Below.setCell ?_ (by simp <;> omega) _)))
   have HZ : Hid (Below w.heap.size w Va101) := GHB
   rw [hV]
   clear hV HZ
   have HB := GHB
   clear GHB
   obtain ⟨b10, hqb10⟩ : ∃ b, w.heap.size + 1 + 1 + 1 = b := ⟨_, rfl⟩
   obtain ⟨b8, hqb8⟩ : ∃ b, w.heap.size + 1 + 1 = b := ⟨_, rfl⟩
   obtain ⟨b7, hqb7⟩ : ∃ b, w.heap.size + 1 = b := ⟨_, rfl⟩
   obtain ⟨b6, hqb6⟩ : ∃ b, w.heap.size = b := ⟨_, rfl⟩
   have gb6 : w.heap.size ≤ b6 := by omega
   have gb7 : w.heap.size ≤ b7 := by omega
   have nb7b6 : ¬ b7 = b6 := by omega
   have nb6b7 : ¬ b6 = b7 := by omega
   have gb8 : w.heap.size ≤ b8 := by omega
   have nb8b6 : ¬ b8 = b6 := by omega
   have nb6b8 : ¬ b6 = b8 := by omega
   have nb8b7 : ¬ b8 = b7 := by omega
   have nb7b8 : ¬ b7 = b8 := by omega
   have gb10 : w.heap.size ≤ b10 := by omega
   have nb10b6 : ¬ b10 = b6 := by omega
   have nb6b10 : ¬ b6 = b10 := by omega
   have nb10b7 : ¬ b10 = b7 := by omega
   have nb7b10 : ¬ b7 = b10 := by omega
   have nb10b8 : ¬ b10 = b8 := by omega
   have nb8b10 : ¬ b8 = b10 := by omega
   rw [hqb10] at Kb10 ⊢
   clear hqb10
   rw [hqb8] at Kb8 ⊢
   clear hqb8
   rw [hqb7] at Kb7 ⊢
   clear hqb7
   have HN : Hid (w.heap.size = b6) := hqb6
   rw [hqb6] at Kb6 ⊢
   clear hqb6
   have Hb6 := Kb6
   clear Kb6
   have Hb7 := Kb7
   clear Kb7
   have Hb8 := Kb8
   clear Kb8
   have Hb10 := Kb10
   clear Kb10
   have cb60 := kcl0 Hb6
   have cb61 := kcl1 Hb6
   have cb62 := kcl2 Hb6
   have cb63 := kcl3 Hb6
   have cb70 := kcl0 Hb7
   have cb71 := kcl1 Hb7
   have cb80 := kcl0 Hb8
   have cb81 := kcl1 Hb8
   have cb82 := kcl2 Hb8
   have cb83 := kcl3 Hb8
   go_wp2_with fail
   refine (rplace_any WW HH SS ss A c lo hi d1 d2 l1 l2 cell _ (HS0.out.later HB.out (Nat.le_refl _))).mono ?_
   rintro e Va102 ⟨rfl, hb⟩
   have HZ := Lib.hid hb
   clear hb
   rw [H0.out]
   clear cb60 cb61 cb62 cb63 cb70 cb71 cb80 cb81 cb82 cb83
   replace Hb6 := kbl Hb6 HZ
   replace Hb7 := kbl Hb7 HZ
   replace Hb8 := kbl Hb8 HZ
   replace Hb10 := kbl Hb10 HZ
   replace HB := ktr' HB HZ
   clear HZ
   have cb100 := kcl0 Hb10
   have cb101 := kcl1 Hb10
   go_wp2_with fail
   refine (rspan_of H1.out _).mono ?_
   rintro e Va103 ⟨rfl, hb⟩
   have HZ := Lib.hid hb
   clear hb
   clear cb100 cb101
   replace Hb6 := kbl Hb6 HZ
   replace Hb7 := kbl Hb7 HZ
   replace Hb8 := kbl Hb8 HZ
   replace Hb10 := kbl Hb10 HZ
   replace HB := ktr' HB HZ
   clear HZ
   go_upto_region 7 with (fail)
   go_loopw [14, 15] (fun ev iv wr => ev = .int .i64 9 ∧ iv = .int .i64 0 ∧ Hid (Below w.heap.size w wr)) (fun _ _ _ => 0)
   case atStart => exact ⟨rfl, rfl, HB⟩
   case round =>
    obtain ⟨rfl, rfl, HBr⟩ := hrel
    by_cases h : (0 : Int) < (ws.length : Int)
    all_goals
     go_wp2
     all_goals
      refine bodyPost_ret (v := .tuple #[.slice none 0 0, .int .i64 9]) (by simp [results, Tryd.results30, go_sem]) rfl ⟨_, by rw [EE.out], ?_, HBr.out⟩
      rw [EV.out]
      exact Reads.nil _ _ _
 · have H3 := Lib.hid (show runE (z1, z2) ws.length = 0 by unfold runE; rw [spE_pos h1, andE_right rfl, if_neg h2])
   have H1 := Lib.hid h1
   clear h0 h1
   have HS0 := Lib.hid hs
   have HWS := Lib.hid hl
   clear hs hl
   go_enter Tryd.func30, Tryd.ntmps30
   go_upto_region 1 with (fail)
   obtain ⟨Va201, hV⟩ : ∃ V, (((w.alloc (.cells #[.int .i64 (WW), .int .i64 (HH), .int .i64 (SS), .slice A ss.length c] 24)).alloc (.cells #[.int .i64 (lo), .int .i64 (hi)] 26)).alloc (.cells #[.int .i64 (d1), .int .i64 (d2), .int .i64 (l1), .int .i64 (l2)] 40)).alloc (.cells #[.int .i64 (z1), .int .i64 (z2)] 26) = V := ⟨_, rfl⟩
   have Kb6 : Hid (Blk Va201 (w.heap.size) 24 #[.int .i64 (WW), .int .i64 (HH), .int .i64 (SS), .slice A ss.length c]) := by rw [← hV]; exact (((Blk.new' _ _ _ (by simp)).alloc _).alloc _).alloc _
   have Kb7 : Hid (Blk Va201 (w.heap.size + 1) 26 #[.int .i64 (lo), .int .i64 (hi)]) := by rw [← hV]; exact ((Blk.new' _ _ _ (by simp)).alloc _).alloc _
   have Kb8 : Hid (Blk Va201 (w.heap.size + 1 + 1) 40 #[.int .i64 (d1), .int .i64 (d2), .int .i64 (l1), .int .i64 (l2)]) := by rw [← hV]; exact (Blk.new' _ _ _ (by simp)).alloc _
   have Kb10 : Hid (Blk Va201 (w.heap.size + 1 + 1 + 1) 26 #[.int .i64 (z1), .int .i64 (z2)]) := by rw [← hV]; exact Blk.new' _ _ _ (by simp)
   have GHB : Hid (Below w.heap.size w Va201) := by rw [← hV]; exact (by repeat (first | exact Below.refl _ _ | assumption | refine Below.drew ?_ | refine Below.drewN' ?_ _ | (refine Below.alloc ?_ (by simp <;> omega) _) | (refine Below.setCell ?_ (by simp <;> omega) _)))
   have HZ : Hid (Below w.heap.size w Va201) := GHB
   rw [hV]
   clear hV HZ
   have HB := GHB
   clear GHB
   obtain ⟨b10, hqb10⟩ : ∃ b, w.heap.size + 1 + 1 + 1 = b := ⟨_, rfl⟩
   obtain ⟨b8, hqb8⟩ : ∃ b, w.heap.size + 1 + 1 = b := ⟨_, rfl⟩
   obtain ⟨b7, hqb7⟩ : ∃ b, w.heap.size + 1 = b := ⟨_, rfl⟩
   obtain ⟨b6, hqb6⟩ : ∃ b, w.heap.size = b := ⟨_, rfl⟩
   have gb6 : w.heap.size ≤ b6 := by omega
   have gb7 : w.heap.size ≤ b7 := by omega
   have nb7b6 : ¬ b7 = b6 := by omega
   have nb6b7 : ¬ b6 = b7 := by omega
   have gb8 : w.heap.size ≤ b8 := by omega
   have nb8b6 : ¬ b8 = b6 := by omega
   have nb6b8 : ¬ b6 = b8 := by omega
   have nb8b7 : ¬ b8 = b7 := by omega
   have nb7b8 : ¬ b7 = b8 := by omega
   have gb10 : w.heap.size ≤ b10 := by omega
   have nb10b6 : ¬ b10 = b6 := by omega
   have nb6b10 : ¬ b6 = b10 := by omega
   have nb10b7 : ¬ b10 = b7 := by omega
   have nb7b10 : ¬ b7 = b10 := by omega
   have nb10b8 : ¬ b10 = b8 := by omega
   have nb8b10 : ¬ b8 = b10 := by omega
   rw [hqb10] at Kb10 ⊢
   clear hqb10
   rw [hqb8] at Kb8 ⊢
   clear hqb8
   rw [hqb7] at Kb7 ⊢
   clear hqb7
   have HN : Hid (w.heap.size = b6) := hqb6
   rw [hqb6] at Kb6 ⊢
   clear hqb6
   have Hb6 := Kb6
   clear Kb6
   have Hb7 := Kb7
   clear Kb7
   have Hb8 := Kb8
   clear Kb8
   have Hb10 := Kb10
   clear Kb10
   have cb60 := kcl0 Hb6
   have cb61 := kcl1 Hb6
   have cb62 := kcl2 Hb6
   have cb63 := kcl3 Hb6
   have cb70 := kcl0 Hb7
   have cb71 := kcl1 Hb7
   have cb80 := kcl0 Hb8
   have cb81 := kcl1 Hb8
   have cb82 := kcl2 Hb8
   have cb83 := kcl3 Hb8
   go_wp2_with fail
   refine (rplace_any WW HH SS ss A c lo hi d1 d2 l1 l2 cell _ (HS0.out.later HB.out (Nat.le_refl _))).mono ?_
   rintro e Va202 ⟨rfl, hb⟩
   have HZ := Lib.hid hb
   clear hb
   rw [H0.out]
   clear cb60 cb61 cb62 cb63 cb70 cb71 cb80 cb81 cb82 cb83
   replace Hb6 := kbl Hb6 HZ
   replace Hb7 := kbl Hb7 HZ
   replace Hb8 := kbl Hb8 HZ
   replace Hb10 := kbl Hb10 HZ
   replace HB := ktr' HB HZ
   clear HZ
   have cb100 := kcl0 Hb10
   have cb101 := kcl1 Hb10
   go_wp2_with fail
   refine (rspan_of H1.out _).mono ?_
   rintro e Va203 ⟨rfl, hb⟩
   have HZ := Lib.hid hb
   clear hb
   clear cb100 cb101
   replace Hb6 := kbl Hb6 HZ
   replace Hb7 := kbl Hb7 HZ
   replace Hb8 := kbl Hb8 HZ
   replace Hb10 := kbl Hb10 HZ
   replace HB := ktr' HB HZ
   clear HZ
   have hhb := HB.out.size
   go_upto_region 7 with (fail)
   go_loopw [14, 15] (fun ev iv wr => ∃ (k : Nat) (E : Int), k ≤ ws.length ∧ ev = .int .i64 E ∧ iv = .int .i64 (k : Int) ∧ Hid (windsE (ws.take k) = E) ∧ Hid (Blk wr b6 24 #[.int .i64 (WW), .int .i64 (HH), .int .i64 (SS), .slice A ss.length c]) ∧ Hid (Blk wr b7 26 #[.int .i64 (lo), .int .i64 (hi)]) ∧ Hid (Blk wr b8 40 #[.int .i64 (d1), .int .i64 (d2), .int .i64 (l1), .int .i64 (l2)]) ∧ Hid (Blk wr b10 26 #[.int .i64 (z1), .int .i64 (z2)]) ∧ Hid (Below w.heap.size w wr)) (fun _ iv _ => ws.length - (intOf iv).toNat)
   case atStart => exact ⟨0, 0, Nat.zero_le _, rfl, rfl, rfl, Hb6, Hb7, Hb8, Hb10, HB⟩
   case round =>
    clear Hb6 Hb7 Hb8 Hb10 HB
    obtain ⟨k, E, hk, rfl, rfl, HWE, Hb6, Hb7, Hb8, Hb10, HB⟩ := hrel
    obtain ⟨bq, hbq⟩ : ∃ z, decide (k < ws.length ∧ E = 0) = z := ⟨_, rfl⟩
    have HBQ := Lib.hid hbq
    clear hbq
    go_upto_region 7 with (fail)
    go_cut [44] from 37 to 44 (fun p wx => p = .bool bq ∧ wx = wr)
    case first =>
     by_cases hlt : k < ws.length
     rotate_left
     ·
      have hq : bq = false := by rw [← HBQ.out]; exact decide_eq_false (fun h => hlt h.1)
      subst hq
      have hl2 : ¬ ((k : Int) < (ws.length : Int)) := by omega
      clear hlt
      go_wp2_with fail
      go_meet
      exact ⟨rfl, rfl⟩
     have hl2 : (k : Int) < (ws.length : Int) := by omega
     by_cases hE0 : E = 0
     rotate_left
     ·
      have hq : bq = false := by rw [← HBQ.out]; exact decide_eq_false (fun h => hE0 h.2)
      subst hq
      have hb1 : (E == 0) = false := beq_eq_false_iff_ne.2 hE0
      go_wp2_with fail
      go_meet
      exact ⟨rfl, rfl⟩
     have hq : bq = true := by rw [← HBQ.out]; exact decide_eq_true ⟨hlt, hE0⟩
     subst hq hE0
     go_wp2_with fail
     go_meet
     exact ⟨rfl, rfl⟩
    case rest =>
     obtain ⟨rfl, rfl⟩ := hcut
     obtain ⟨Vw, rfl⟩ : ∃ V, V = wc := ⟨_, rfl⟩
     by_cases hq : bq = true
     ·
      subst hq
      obtain ⟨hlt, rfl⟩ := of_decide_eq_true HBQ.out
      have hl2 : (k : Int) < (ws.length : Int) := by omega
      have hwk : IntKind.i64.wrap ((k : Int) + 1) = (k : Int) + 1 := IntWalk.i64_in _ (by have := HWS.out.2.1; omega)
      obtain ⟨b, off, hA, hb, c0, c1, c2, c3, c4⟩ := (HWS.out.later HB.out (Nat.le_refl _)).at_ hlt
      subst hA
      have HSN : Hid (windsE (ws.take (k + 1)) = wiE ws[k]) := by
       show _ = _
       rw [List.take_succ_eq_append_getElem hlt, windsE_snoc, HWE.out]
       rfl
      obtain ⟨⟨⟨s1, s2⟩, n, p1, p2⟩, hx⟩ : ∃ z, ws[k] = z := ⟨_, rfl⟩
      rw [hx] at c0 c1 c2 c3 c4 HSN
      simp only at c0 c1 c2 c3 c4
      obtain ⟨E2, hE2⟩ : ∃ z, wiE ⟨(s1, s2), n, (p1, p2)⟩ = z := ⟨_, rfl⟩
      rw [hE2] at HSN
      have HE2 := Lib.hid hE2
      clear hx hE2
      go_wp2_with fail
      refine (rCheckWind_any s1 s2 n p1 p2 _).mono ?_
      rintro e V9 ⟨rfl, hb9⟩
      rw [HE2.out]
      have HZ := Lib.hid hb9
      clear hb9
      replace Hb6 := kbl Hb6 HZ
      replace Hb7 := kbl Hb7 HZ
      replace Hb8 := kbl Hb8 HZ
      replace Hb10 := kbl Hb10 HZ
      replace HB := ktr' HB HZ
      clear HZ
      go_wp2
      go_roundw
      case rel => exact ⟨k + 1, E2, by omega, rfl, by go_num, HSN, Hb6, Hb7, Hb8, Hb10, HB⟩
      case measure => simp [intOf] <;> omega
     have hq : bq = false := by simpa using hq
     subst hq
     by_cases hE0 : E = 0
     rotate_left
     ·
      have hb1 : (E == 0) = false := beq_eq_false_iff_ne.2 hE0
      have EE := Lib.hid (show runAE ⟨WW, HH, SS, ss⟩ (lo, hi) ⟨(d1, d2), (l1, l2)⟩ cell (z1, z2) ws = E by unfold runAE; rw [andE_right H0.out, andE_right H3.out, windsE_pre HWE.out hE0])
      have EV := Lib.hid (show runV ⟨WW, HH, SS, ss⟩ (lo, hi) ⟨(d1, d2), (l1, l2)⟩ cell (z1, z2) ws = [] from if_neg (by rw [EE.out]; exact hE0))
      go_wp2
      refine bodyPost_ret (v := .tuple #[.slice none 0 0, .int .i64 E]) (by simp [results, Tryd.results30, go_sem]) rfl ⟨_, by rw [EE.out], ?_, HB.out⟩
      rw [EV.out]
      exact Reads.nil _ _ _
     subst hE0
     have hke : k = ws.length := by
      have h := of_decide_eq_false HBQ.out
      simp only [and_true] at h
      omega
     have HW0 : Hid (windsE ws = 0) := by
      have h := HWE.out
      rw [hke, List.take_length] at h
      exact h
     have EE := Lib.hid (show runAE ⟨WW, HH, SS, ss⟩ (lo, hi) ⟨(d1, d2), (l1, l2)⟩ cell (z1, z2) ws = 0 by unfold runAE; rw [andE_right H0.out, andE_right H3.out, HW0.out])
     have EV := Lib.hid (show runV ⟨WW, HH, SS, ss⟩ (lo, hi) ⟨(d1, d2), (l1, l2)⟩ cell (z1, z2) ws = runZ ⟨WW, HH, SS, ss⟩ (lo, hi) ⟨(d1, d2), (l1, l2)⟩ cell (z1, z2) ws by unfold runV; rw [EE.out, if_pos rfl])
     obtain ⟨⟨hE, hse⟩, hm, hcc⟩ := placeE_zero H0.out
     obtain ⟨hfz, hn5, -⟩ := runE_zero H3.out
     have hwz := windsE_zero.1 HW0.out
     have hlg := (moE_zero hm).2
     simp only at hcc hlg
     have HFZ := Lib.hid hfz
     have HWZ := Lib.hid hwz
     have HLG := Lib.hid hlg
     have HEG := Lib.hid hE
     have HSE := Lib.hid hse
     have HM := Lib.hid hm
     have HCC := Lib.hid hcc
     obtain ⟨i0, hi0, hz0, hz1, hz2⟩ := info_parts span_info3
     clear hfz hwz hlg hE hse hm hcc hke HBQ HWE hk
     --@A
     have hl10 := Hb10.out.lt
     have lb18 := HB.out.size
     have hstl : Hid ((steadiesZ ⟨WW, HH, SS, ss⟩ (lo, hi) ⟨(d1, d2), (l1, l2)⟩ cell ws).length = ws.length) := List.length_map _
     go_upto_region 14 with (fail)
     go_loopw [16, 17] (fun sv iv wr => ∃ (k : Nat) (va : Value), va = sv ∧ k ≤ ws.length ∧ iv = .int .i64 (k : Int) ∧ Hid (wr.ownsRow Vw.heap.size 26 2 va k (spanCells (levelsZ (l1, l2) (z1, z2) ((steadiesZ ⟨WW, HH, SS, ss⟩ (lo, hi) ⟨(d1, d2), (l1, l2)⟩ cell ws).take k)))) ∧ Hid (Blk wr b10 26 #[.int .i64 (lastZ (l1, l2) (z1, z2) ((steadiesZ ⟨WW, HH, SS, ss⟩ (lo, hi) ⟨(d1, d2), (l1, l2)⟩ cell ws).take k)).1, .int .i64 (lastZ (l1, l2) (z1, z2) ((steadiesZ ⟨WW, HH, SS, ss⟩ (lo, hi) ⟨(d1, d2), (l1, l2)⟩ cell ws).take k)).2]) ∧ Hid (Far (fun i => i = b10) Vw wr)) (fun _ iv _ => ws.length - (intOf iv).toNat)
     case atStart => exact ⟨0, _, rfl, Nat.zero_le _, rfl, World.ownsRow_nil _ _ _ _, Hb10, Far.refl _ _⟩
     case round =>
      obtain ⟨k, va, rfl, hk, rfl, HO, GL, HFV⟩ := hrel
      have GBL : Hid (Below w.heap.size w wr) := HB.out.trans (HFV.out.below HB.out.size (fun i hi h => by subst h; omega))
      by_cases hlt : k < ws.length
      ·
       obtain ⟨b, off, hA, hb, c0, c1, c2, c3, c4⟩ := (HWS.out.later GBL.out (Nat.le_refl _)).at_ hlt
       subst hA
       have hlt' : (k : Int) < (ws.length : Int) := by omega
       have hks : k < (steadiesZ ⟨WW, HH, SS, ss⟩ (lo, hi) ⟨(d1, d2), (l1, l2)⟩ cell ws).length := by rw [hstl.out]; exact hlt
       obtain ⟨t1, t2⟩ := take_last (l1, l2) (z1, z2) (steadiesZ ⟨WW, HH, SS, ss⟩ (lo, hi) ⟨(d1, d2), (l1, l2)⟩ cell ws) hks
       have hwk := HWZ.out _ (List.getElem_mem hlt)
       have hst : (steadiesZ ⟨WW, HH, SS, ss⟩ (lo, hi) ⟨(d1, d2), (l1, l2)⟩ cell ws)[k] = steadyZ ⟨WW, HH, SS, ss⟩ (lo, hi) ⟨(d1, d2), (l1, l2)⟩ cell ws[k] := by simp [steadiesZ]
       rw [hst] at t2
       have hsf := steady_fin H0.out hwk
       have hlf : finB (lastZ (l1, l2) (z1, z2) ((steadiesZ ⟨WW, HH, SS, ss⟩ (lo, hi) ⟨(d1, d2), (l1, l2)⟩ cell ws).take k)) := last_fin HLG.out HFZ.out fun x hx => by
        obtain ⟨y, hy, rfl⟩ := List.mem_map.1 (List.mem_of_mem_take hx)
        exact (steady_fin H0.out (HWZ.out y hy)).1
       obtain ⟨⟨⟨s1, s2⟩, n, p1, p2⟩, hx⟩ : ∃ z, ws[k] = z := ⟨_, rfl⟩
       rw [hx] at c0 c1 c2 c3 c4 hwk hsf t2
       simp only at c0 c1 c2 c3 c4
       obtain ⟨-, -, hn1, hn2⟩ := wiE_zero hwk
       simp only at hn1 hn2
       obtain ⟨nn, rfl⟩ : ∃ m : Nat, n = (m : Int) := ⟨n.toNat, by omega⟩
       have HNN := Lib.hid (show nn < 256 by omega)
       obtain ⟨⟨y1, y2⟩, hy⟩ : ∃ z, (lastZ (l1, l2) (z1, z2) ((steadiesZ ⟨WW, HH, SS, ss⟩ (lo, hi) ⟨(d1, d2), (l1, l2)⟩ cell ws).take k)) = z := ⟨_, rfl⟩
       obtain ⟨⟨u1, u2⟩, hu⟩ : ∃ z, steadyZ ⟨WW, HH, SS, ss⟩ (lo, hi) ⟨(d1, d2), (l1, l2)⟩ cell ⟨(s1, s2), ((nn : Nat) : Int), (p1, p2)⟩ = z := ⟨_, rfl⟩
       rw [hy] at hlf t2 GL
       rw [hu] at hsf t2
       obtain ⟨⟨q1, q2⟩, hq⟩ : ∃ z, stepZ (l1, l2) (y1, y2) (u1, u2) = z := ⟨_, rfl⟩
       rw [hq] at t2
       rw [t2] at t1
       have HT1 := Lib.hid t1
       have HT2 := Lib.hid t2
       have HU := Lib.hid hu
       have HQ := Lib.hid hq
       have HWK := Lib.hid hwk
       have HYB : Hid (bigB (y1, y2)) := by show bigB _; unfold bigB finB at *; omega
       have HUB : Hid (bigB (u1, u2)) := by show bigB _; unfold bigB; simp only at hsf ⊢; omega
       have hwk2 : IntKind.i64.wrap ((k : Int) + 1) = (k : Int) + 1 := IntWalk.i64_in _ (by omega)
       clear hx hy hu hq t1 t2 hst hsf hlf hwk hks hn1 hn2
       have KB := GBL
       have Kb6 := Lib.hid (Hb6.out.far HFV.out (by exact nb6b10))
       have Kb7 := Lib.hid (Hb7.out.far HFV.out (by exact nb7b10))
       have Kb8 := Lib.hid (Hb8.out.far HFV.out (by exact nb8b10))
       clear Hb6 Hb7 Hb8 Hb10 HB
       have Hb6 := Kb6
       have Hb7 := Kb7
       have Hb8 := Kb8
       have Hb10 := GL
       have HB := KB
       have hne : va.ownBlock ≠ some b10 := fun e => by have := (HO.out.lt _ e).1; omega
       clear KB GL GBL Kb6 Kb7 Kb8
       have hbl : b < wr.heap.size := Nat.lt_of_lt_of_le hb (Nat.le_refl _)
       go_upto_region 16 with (fail)
       have HSV : Hid (∀ U, Below wr.heap.size wr U → U.cell? ⟨b6, 0, none⟩ = some (.int .i64 (WW)) ∧ U.cell? ⟨b6, 1, none⟩ = some (.int .i64 (HH)) ∧ U.cell? ⟨b6, 2, none⟩ = some (.int .i64 (SS)) ∧ U.cell? ⟨b6, 3, none⟩ = some (.slice A ss.length c) ∧ U.cell? ⟨b7, 0, none⟩ = some (.int .i64 (lo)) ∧ U.cell? ⟨b7, 1, none⟩ = some (.int .i64 (hi)) ∧ U.cell? ⟨b8, 0, none⟩ = some (.int .i64 (d1)) ∧ U.cell? ⟨b8, 1, none⟩ = some (.int .i64 (d2)) ∧ U.cell? ⟨b8, 2, none⟩ = some (.int .i64 (l1)) ∧ U.cell? ⟨b8, 3, none⟩ = some (.int .i64 (l2)) ∧ U.cell? ⟨b10, 0, none⟩ = some (.int .i64 (y1)) ∧ U.cell? ⟨b10, 1, none⟩ = some (.int .i64 (y2)) ∧ U.cell? ⟨b, off + k * 5, none⟩ = some (.int .i64 (s1)) ∧ U.cell? ⟨b, off + k * 5 + 1, none⟩ = some (.int .i64 (s2)) ∧ U.cell? ⟨b, off + k * 5 + 2, none⟩ = some (.int .i64 ((nn : Int))) ∧ U.cell? ⟨b, off + k * 5 + 3, none⟩ = some (.int .i64 (p1)) ∧ U.cell? ⟨b, off + k * 5 + 4, none⟩ = some (.int .i64 (p2))) := fun U hU => by
        have kb6 := Hb6.out.below hU Hb6.out.lt
        have kb7 := Hb7.out.below hU Hb7.out.lt
        have kb8 := Hb8.out.below hU Hb8.out.lt
        have kb10 := Hb10.out.below hU Hb10.out.lt
        exact ⟨kb6.cell 0, kb6.cell 1, kb6.cell 2, kb6.cell 3, kb7.cell 0, kb7.cell 1, kb8.cell 0, kb8.cell 1, kb8.cell 2, kb8.cell 3, kb10.cell 0, kb10.cell 1, (hU.cell (p := ⟨b, off + k * 5, none⟩) hbl).trans c0, (hU.cell (p := ⟨b, off + k * 5 + 1, none⟩) hbl).trans c1, (hU.cell (p := ⟨b, off + k * 5 + 2, none⟩) hbl).trans c2, (hU.cell (p := ⟨b, off + k * 5 + 3, none⟩) hbl).trans c3, (hU.cell (p := ⟨b, off + k * 5 + 4, none⟩) hbl).trans c4⟩
       have k0 := HSV.out _ (Below.drew (Below.refl wr.heap.size wr))
       refine wp_region_noPanic ?_
       refine wp_region_L (S := (fun w' => w'.cell? ⟨b6, 0, none⟩ = some (.int .i64 (WW)) ∧ w'.cell? ⟨b6, 1, none⟩ = some (.int .i64 (HH)) ∧ w'.cell? ⟨b6, 2, none⟩ = some (.int .i64 (SS)) ∧ w'.cell? ⟨b6, 3, none⟩ = some (.slice A ss.length c) ∧ w'.cell? ⟨b7, 0, none⟩ = some (.int .i64 (lo)) ∧ w'.cell? ⟨b7, 1, none⟩ = some (.int .i64 (hi)) ∧ w'.cell? ⟨b8, 0, none⟩ = some (.int .i64 (d1)) ∧ w'.cell? ⟨b8, 1, none⟩ = some (.int .i64 (d2)) ∧ w'.cell? ⟨b8, 2, none⟩ = some (.int .i64 (l1)) ∧ w'.cell? ⟨b8, 3, none⟩ = some (.int .i64 (l2)) ∧ w'.cell? ⟨b10, 0, none⟩ = some (.int .i64 (y1)) ∧ w'.cell? ⟨b10, 1, none⟩ = some (.int .i64 (y2)) ∧ w'.cell? ⟨b, off + k * 5, none⟩ = some (.int .i64 (s1)) ∧ w'.cell? ⟨b, off + k * 5 + 1, none⟩ = some (.int .i64 (s2)) ∧ w'.cell? ⟨b, off + k * 5 + 2, none⟩ = some (.int .i64 ((nn : Int))) ∧ w'.cell? ⟨b, off + k * 5 + 3, none⟩ = some (.int .i64 (p1)) ∧ w'.cell? ⟨b, off + k * 5 + 4, none⟩ = some (.int .i64 (p2)))) (ks := [12]) (by kernel_rfl) ?_ (fun hHeld => ?_)
       · (try dsimp only); (exact k0)
       refine tL 0 Zeg ?_ ?_ ?_
       rotate_left
       · ((intro w hSw; delta Zeg; (try dsimp only at hSw); go_simp) <;> with_reducible rfl)
       try simp only [Zeg, ksz]
       refine tL 1 Zeh ?_ ?_ ?_
       rotate_left
       · ((intro w hSw; delta Zeh; (try dsimp only at hSw); go_simp) <;> with_reducible rfl)
       try simp only [Zeh, ksz]
       refine tL 2 Zei ?_ ?_ ?_
       rotate_left
       · ((intro w hSw; delta Zei; (try dsimp only at hSw); go_simp) <;> with_reducible rfl)
       try simp only [Zei, ksz]
       refine tL 3 Zej ?_ ?_ ?_
       rotate_left
       · ((intro w hSw; delta Zej; (try dsimp only at hSw); go_simp) <;> with_reducible rfl)
       try simp only [Zej, ksz]
       refine tL 4 Zek ?_ ?_ ?_
       rotate_left
       · ((intro w hSw; delta Zek; (try dsimp only at hSw); go_simp) <;> with_reducible rfl)
       try simp only [Zek, ksz]
       refine tL 5 Zel ?_ ?_ ?_
       rotate_left
       · ((intro w hSw; delta Zel; (try dsimp only at hSw); go_simp) <;> with_reducible rfl)
       try simp only [Zel, ksz]
       refine tL 6 Zem ?_ ?_ ?_
       rotate_left
       · ((intro w hSw; delta Zem; (try dsimp only at hSw); go_simp) <;> with_reducible rfl)
       try simp only [Zem, ksz]
       refine tL 7 Zen ?_ ?_ ?_
       rotate_left
       · ((intro w hSw; delta Zen; (try dsimp only at hSw); go_simp) <;> with_reducible rfl)
       try simp only [Zen, ksz]
       refine tL 8 Zeo ?_ ?_ ?_
       rotate_left
       · ((intro w hSw; delta Zeo; (try dsimp only at hSw); go_simp) <;> with_reducible rfl)
       try simp only [Zeo, ksz]
       refine tL 9 Zep ?_ ?_ ?_
       rotate_left
       · ((intro w hSw; delta Zep; (try dsimp only at hSw); go_simp) <;> with_reducible rfl)
       try simp only [Zep, ksz]
       obtain ⟨W0, hW0⟩ : ∃ V, wr.drew = V := ⟨_, rfl⟩; rw [hW0] at hHeld ⊢; have HB0 : Hid (Below wr.heap.size wr W0) := (by rw [← hW0]; exact Below.drew (Below.refl _ _)); clear hW0
       refine wpAnyL_ready (rs := [10]) (by kernel_rfl) (by simp) ?_
       refine AllReadyL.cons (o := Zeq) rfl (fun K hK => ?_) AllReadyL.nil
       delta Zeq
       go_simp
       (refine (rsteady_any WW HH SS ss A c lo hi d1 d2 l1 l2 cell s1 s2 nn p1 p2 _ HNN.out HEG.out HSE.out HM.out HWK.out HCC.out (HS0.out.later (HB.out.trans (HB0.out.mono HB.out.size)) (Nat.le_refl _))).mono ?_; rintro e W1 ⟨rfl, hb⟩; have HB1 := Lib.hid (HB0.out.trans (hb.mono HB0.out.size)); clear hb; rw [HU.out])
       refine hK.out _ _ ?_ (fun hHeld => ?_)
       · (try dsimp only); (exact HSV.out _ HB1.out)
       clear hK K
       try simp only [Zeq, ksz]
       refine wpAnyL_ready (rs := [11]) (by kernel_rfl) (by simp) ?_
       refine AllReadyL.cons (o := Zer) rfl (fun K hK => ?_) AllReadyL.nil
       delta Zer
       go_simp
       (refine (rstep_any d1 d2 l1 l2 y1 y2 u1 u2 _ HLG.out HYB.out HUB.out).mono ?_; rintro e W2 ⟨rfl, hb⟩; have HB2 := Lib.hid (HB1.out.trans (hb.mono HB1.out.size)); clear hb; rw [HQ.out])
       refine hK.out _ _ ?_ (fun hHeld => ?_)
       · (try dsimp only); (exact HSV.out _ HB2.out)
       clear hK K
       try simp only [Zer, ksz]
       have Gb6 := Lib.hid (Hb6.out.below HB2.out Hb6.out.lt); have Gb7 := Lib.hid (Hb7.out.below HB2.out Hb7.out.lt); have Gb8 := Lib.hid (Hb8.out.below HB2.out Hb8.out.lt); have Gb10 := Lib.hid (Hb10.out.below HB2.out Hb10.out.lt); have GHB := Lib.hid (HB.out.trans (HB2.out.mono HB.out.size)); have GHO := Lib.hid (own_below HO.out HB2.out (Nat.le_refl _)); have GHFV := Lib.hid (HFV.out.trans (Far.of_below HB2.out) (fun _ _ h => h)); clear Hb6 Hb7 Hb8 Hb10 HB HO HFV; have Hb6 := Gb6; clear Gb6; have Hb7 := Gb7; clear Gb7; have Hb8 := Gb8; clear Gb8; have Hb10 := Gb10; clear Gb10; have HB := GHB; clear GHB; have HO := GHO; clear GHO; have HFV := GHFV; clear GHFV; have cR0 := Hb10.out.cell 0; have zR0 := Hb10.out.frozen 0; have cR1 := Hb10.out.cell 1; have zR1 := Hb10.out.frozen 1; simp only [List.getElem?_toArray, List.getElem?_cons_zero, List.getElem?_cons_succ] at cR0 cR1
       refine wpAnyL_ready (rs := [12]) (by kernel_rfl) (by simp) ?_
       refine AllReadyL.gate (o := Zes) rfl (by kernel_rfl) (fun K hK => ?_) AllReadyL.nil
       delta Zes
       go_simp
       refine hK.out _ _ ?_
       clear hK K
       try simp only [Zes, ksz]
       obtain ⟨Va251, hV⟩ : ∃ V, (W2.setCell ⟨b10, 0, none⟩ (.int .i64 (q1))).setCell ⟨b10, 1, none⟩ (.int .i64 (q2)) = V := ⟨_, rfl⟩; replace Hb6 : Hid (Blk Va251 b6 24 #[.int .i64 (WW), .int .i64 (HH), .int .i64 (SS), .slice A ss.length c]) := (by rw [← hV]; exact ((Hb6.out.far_ (p := ⟨b10, 0, none⟩) nb6b10 _).far_ (p := ⟨b10, 1, none⟩) nb6b10 _)); replace Hb7 : Hid (Blk Va251 b7 26 #[.int .i64 (lo), .int .i64 (hi)]) := (by rw [← hV]; exact ((Hb7.out.far_ (p := ⟨b10, 0, none⟩) nb7b10 _).far_ (p := ⟨b10, 1, none⟩) nb7b10 _)); replace Hb8 : Hid (Blk Va251 b8 40 #[.int .i64 (d1), .int .i64 (d2), .int .i64 (l1), .int .i64 (l2)]) := (by rw [← hV]; exact ((Hb8.out.far_ (p := ⟨b10, 0, none⟩) nb8b10 _).far_ (p := ⟨b10, 1, none⟩) nb8b10 _)); replace Hb10 : Hid (Blk Va251 b10 26 #[.int .i64 (q1), .int .i64 (q2)]) := (by rw [← hV]; exact ((Hb10.out.set_ 0 (.int .i64 (q1))).set_ 1 (.int .i64 (q2)))); replace HB : Hid (Below w.heap.size w Va251) := (by rw [← hV]; exact ((HB.out.setCell (p := ⟨b10, 0, none⟩) gb10 _).setCell (p := ⟨b10, 1, none⟩) gb10 _)); replace HO := Lib.hid ((show Va251.ownsRow Vw.heap.size 26 2 va k (spanCells (levelsZ (l1, l2) (z1, z2) ((steadiesZ ⟨WW, HH, SS, ss⟩ (lo, hi) ⟨(d1, d2), (l1, l2)⟩ cell ws).take k))) from by rw [← hV]; exact (own_set (own_set HO.out (p := ⟨b10, 0, none⟩) (by exact hne) (.int .i64 (q1))) (p := ⟨b10, 1, none⟩) (by exact hne) (.int .i64 (q2))))); replace HFV := Lib.hid ((show Far (fun i => i = b10) Vw Va251 from by rw [← hV]; exact ((HFV.out.setCell (p := ⟨b10, 0, none⟩) (Or.inl rfl) (.int .i64 (q1))).setCell (p := ⟨b10, 1, none⟩) (Or.inl rfl) (.int .i64 (q2))))); rw [hV]; clear hV cR0 zR0 cR1 zR1
       refine wpAnyL_done (by kernel_rfl) ?_ _
       refine NoPanic.normal ?_
       clear HSV k0
       clear hHeld HB0 HB1 HB2
       --@B
       have cb100 := kcl0 Hb10
       have cb101 := kcl1 Hb10
       have lvv := HFV.out.size
       go_wp2_with (at_builtin; ((refine wpList_append_own_at _ rfl (.tmp 73) (.tmp 75) 22 rfl Vw.heap.size 26 i0 (.agg #[.int .i64 0, .int .i64 0]) 2 16 Tryd.underlying22 hi0 hz0 hz1 hz2 rfl (by decide) va k _ rfl (HO.out.alloc _) ⟨Va251.heap.size, 0, none⟩ 1 1 [.int .i64 q1, .int .i64 q2] rfl rfl (cells_two_new _ _ _ _ (by simp)) (by simp [Value.oneCell']) (by unfold maxLen; omega) (by omega) (by simp <;> omega) ?_; intro v1 w8 hown1 hg1 _ _; have HO8 := Lib.hid hown1; have HF8 := Lib.hid ((HFV.out.alloc _).grown hg1 (fun k e => Or.inr (HO.out.lt k e).1)); have HL8 : Hid (Blk w8 b10 26 #[.int .i64 q1, .int .i64 q2]) := blk_grown (Hb10.out.alloc _) hg1 (fun e => hne e.symm); clear hown1 hg1)))
       go_roundw
       case rel => exact ⟨k + 1, _, rfl, by omega, by go_num, by rw [HT1.out, spanCells_append]; exact HO8.out, by rw [HT2.out]; exact HL8, HF8⟩
       case measure => simp [intOf] <;> omega
      ·
       have hk' : k = ws.length := by omega
       have hkl : ¬ ((k : Int) < (ws.length : Int)) := by omega
       have HFI : Hid ((levelsZ (l1, l2) (z1, z2) ((steadiesZ ⟨WW, HH, SS, ss⟩ (lo, hi) ⟨(d1, d2), (l1, l2)⟩ cell ws).take k)) = runZ ⟨WW, HH, SS, ss⟩ (lo, hi) ⟨(d1, d2), (l1, l2)⟩ cell (z1, z2) ws) := by
        show _ = _
        unfold runZ
        rw [hk', ← hstl.out, List.take_length]
       rw [HFI.out] at HO
       have HRS : Hid (SpansAt wr wr.heap.size va (runZ ⟨WW, HH, SS, ss⟩ (lo, hi) ⟨(d1, d2), (l1, l2)⟩ cell (z1, z2) ws)) := by
        have h := Reads.of_own HO.out
        show Reads _ _ _ _ _ _
        have e : (runZ ⟨WW, HH, SS, ss⟩ (lo, hi) ⟨(d1, d2), (l1, l2)⟩ cell (z1, z2) ws).length = k := by unfold runZ; rw [levelsZ_length, hstl.out, hk']
        rw [e]
        exact h
       clear HO HFI GL HFV Hb6 Hb7 Hb8 Hb10 HB hk' hlt
       go_wp2
       refine bodyPost_ret (v := .tuple #[va, .int .i64 0]) (by simp [results, Tryd.results30, go_sem]) rfl ⟨_, by rw [EE.out], ?_, GBL.out⟩
       rw [EV.out]
       exact HRS.out
end Go.Proofs.YtdhcdgfpkjdihaaDoor.Sg
