/-
  Layer 3, the program: checkWinds and Run.
-/
import Derived.Test.YtdhcdgfpkjdihaaDoorVP3m
import Derived.Test.YtdhcdgfpkjdihaaDoorVA3h
set_option linter.unusedSimpArgs false
set_option linter.unusedVariables false
namespace Go.Proofs.YtdhcdgfpkjdihaaDoor.Sg
open Go.RowKit Go.Shelf
def Z7s : Oper := ⟨some 54, .fieldAddr 28 (.tmp 8) 1, 0, "run.go:24", #[], none⟩
def Z7t : Oper := ⟨some 55, .load 26 (.tmp 54), 26, "run.go:24", #[⟨0, .data⟩], none⟩
def Z7u : Oper := ⟨some 56, .load 108 (.tmp 18), 108, "run.go:24", #[], none⟩
def Z7v : Oper := ⟨some 57, .load 110 (.tmp 17), 110, "run.go:24", #[], none⟩
def Z7w : Oper := ⟨some 58, .load 28 (.tmp 8), 28, "run.go:24", #[], none⟩
def Z7x : Oper := ⟨some 59, .move (.tmp 3), 3, "run.go:24", #[], none⟩
def Z7y : Oper := ⟨some 60, .load 32 (.tmp 21), 32, "run.go:24", #[], none⟩
def Z7z : Oper := ⟨some 61, .call { callee := Callee.value (.func 74), args := #[.tmp 57, .tmp 58, .tmp 59, .tmp 60], argTypes := #[110, 28, 3, 32] }, 108, "run.go:24", #[⟨3, .data⟩, ⟨4, .data⟩, ⟨5, .data⟩, ⟨6, .data⟩], none⟩
def Z80 : Oper := ⟨some 62, .call { callee := Callee.value (.func 78), args := #[.tmp 55, .tmp 56, .tmp 61], argTypes := #[26, 108, 108] }, 108, "run.go:24", #[⟨1, .data⟩, ⟨2, .data⟩, ⟨7, .data⟩, ⟨7, .chain⟩], none⟩
def Z81 : Oper := ⟨none, .store 108 (.tmp 18) (.tmp 62), 0, "run.go:24", #[⟨8, .data⟩, ⟨8, .chain⟩, ⟨0, .phase⟩, ⟨1, .phase⟩, ⟨2, .phase⟩, ⟨3, .phase⟩, ⟨4, .phase⟩, ⟨5, .phase⟩, ⟨6, .phase⟩, ⟨7, .phase⟩, ⟨8, .phase⟩], none⟩
set_option maxRecDepth 100000 in
set_option maxHeartbeats 2000000 in
theorem checkWinds_any (v : Value) (l : List Wi) (w : World) (hl : WindsAt w w.heap.size v l) :
 Calls Tryd.prog 77 #[v] w fun e w' => e = .returned (.int .i64 (windsE l)) ∧ Below w.heap.size w w' := by
 obtain ⟨A, c, rfl, hc, hlen⟩ := hl.open_
 have HL := Lib.hid hl
 clear hl
 go_enter Tryd.func77, Tryd.ntmps77
 go_wp2
 go_loopw [8] (fun i wr => ∃ k : Nat, k ≤ l.length ∧ i = .int .i64 (k : Int) ∧ Hid (windsE (l.take k) = 0) ∧ Hid (Below w.heap.size w wr)) (fun i _ => l.length - (intOf i).toNat)
 case atStart => exact ⟨0, Nat.zero_le _, rfl, rfl, Below.refl _ _⟩
 case round =>
  obtain ⟨k, hk, rfl, HW, HB⟩ := hrel
  by_cases hlt : k < l.length
  · obtain ⟨b, off, rfl, hb, c0, c1, c2, c3, c4⟩ := (HL.out.below HB.out).at_ hlt
    have hlt' : (k : Int) < (l.length : Int) := by omega
    have HSN : Hid (windsE (l.take (k + 1)) = wiE l[k]) := by
     rw [List.take_succ_eq_append_getElem hlt, windsE_snoc, HW.out]
     rfl
    have HFI : Hid (¬ wiE l[k] = 0 → windsE l = wiE l[k]) := fun h => windsE_first hlt HW.out h
    obtain ⟨⟨⟨s1, s2⟩, n, p1, p2⟩, hx⟩ : ∃ z, l[k] = z := ⟨_, rfl⟩
    rw [hx] at c0 c1 c2 c3 c4 HSN HFI
    simp only at c0 c1 c2 c3 c4
    have hbs := HB.out.size
    clear hx
    go_wp2_with fail
    refine (CheckWind_any s1 s2 n p1 p2 _).mono ?_
    rintro e V1 ⟨rfl, hz⟩
    have HB1 := Lib.hid ((HB.out.alloc HB.out.size _).trans (hz.mono (by simp; omega)))
    clear hz
    obtain ⟨E0, hE0⟩ : ∃ z, wiE ⟨(s1, s2), n, (p1, p2)⟩ = z := ⟨_, rfl⟩
    rw [hE0] at HSN HFI ⊢
    clear hE0
    by_cases h0 : E0 = 0
    · subst h0
      go_wp2
      go_roundw
      case rel => exact ⟨k + 1, by omega, by go_num, HSN, HB1⟩
      case measure => simp [intOf]; omega
    · have hb1 : (E0 == 0) = false := beq_eq_false_iff_ne.2 h0
      have HF := Lib.hid (HFI.out h0)
      clear h0
      go_wp2
      go_ret
      exact ⟨by rw [HF.out]; rfl, HB1.out⟩
  · have hk' : k = l.length := by omega
    have HF : Hid (windsE l = 0) := by
     have h := HW.out
     rw [hk', List.take_length] at h
     exact h
    clear hk'
    go_wp2
    go_ret
    exact ⟨by rw [HF.out]; rfl, HB.out⟩
theorem span_info3 : (Tryd.prog.info? 26).map (fun i => (i.zero, i.size, i.bytes)) = some (some (.agg #[.int .i64 0, .int .i64 0]), 2, 16) := by kernel_rfl
set_option maxRecDepth 100000 in
set_option maxHeartbeats 4000000 in
theorem Run_any (WW HH SS : Int) (ss : List (Int × Int)) (A : Option Addr) (c : Nat) (lo hi d1 d2 l1 l2 cell z1 z2 : Int) (v : Value) (ws : List Wi) (w : World) (HD : DirsAt w) (hs : SpansAt w w.heap.size (.slice A ss.length c) ss) (hl : WindsAt w w.heap.size v ws) :
 Calls Tryd.prog 29 #[.agg #[.int .i64 (WW), .int .i64 (HH), .int .i64 (SS), .slice A ss.length c], .agg #[.int .i64 lo, .int .i64 hi], .agg #[.int .i64 (d1), .int .i64 (d2), .int .i64 (l1), .int .i64 (l2)], .int .i64 cell, .agg #[.int .i64 z1, .int .i64 z2], v] w fun e w' => ∃ v', e = .returned (.tuple #[v', .int .i64 (runAE ⟨WW, HH, SS, ss⟩ (lo, hi) ⟨(d1, d2), (l1, l2)⟩ cell (z1, z2) ws)]) ∧ SpansAt w' w'.heap.size v' (runV ⟨WW, HH, SS, ss⟩ (lo, hi) ⟨(d1, d2), (l1, l2)⟩ cell (z1, z2) ws) ∧ Below w.heap.size w w' := by
 have HDW := Lib.hid HD
 have HSW := Lib.hid hs
 obtain ⟨A', c', rfl, hcw, hlw⟩ := hl.open_
 have HWW := Lib.hid hl
 by_cases h0 : placeE ⟨WW, HH, SS, ss⟩ (lo, hi) ⟨(d1, d2), (l1, l2)⟩ cell = 0
 ·
  by_cases h1 : runE (z1, z2) ws.length = 0
  ·
   by_cases h2 : windsE ws = 0
   ·
    have EE := Lib.hid (show runAE ⟨WW, HH, SS, ss⟩ (lo, hi) ⟨(d1, d2), (l1, l2)⟩ cell (z1, z2) ws = 0 by unfold runAE andE; simp [*])
    have EV := Lib.hid (show runV ⟨WW, HH, SS, ss⟩ (lo, hi) ⟨(d1, d2), (l1, l2)⟩ cell (z1, z2) ws = runZ ⟨WW, HH, SS, ss⟩ (lo, hi) ⟨(d1, d2), (l1, l2)⟩ cell (z1, z2) ws by unfold runV; rw [EE.out, if_pos rfl])
    have H0 := Lib.hid h0
    clear h0
    have H1 := Lib.hid h1
    clear h1
    have H2 := Lib.hid h2
    clear h2
    have HDR := Lib.hid HD
    have HSS3 := Lib.hid hs
    have HWS := Lib.hid hl
    clear HD hs hl
    obtain ⟨⟨hE, hse⟩, hm, hc0, hc1⟩ := placeE_zero H0.out
    obtain ⟨hfz, hn5, -⟩ := runE_zero H1.out
    have hwz := windsE_zero.1 H2.out
    have hlg := (moE_zero hm).2
    simp only at hc1 hlg
    have HFZ := Lib.hid hfz
    have HWZ := Lib.hid hwz
    have HLG := Lib.hid hlg
    have HEG := Lib.hid hE
    have HSE := Lib.hid hse
    have HM := Lib.hid hm
    obtain ⟨cn, hcn0⟩ : ∃ n : Nat, cell = (n : Int) := ⟨cell.toNat, by omega⟩
    have hcn : cn < ss.length := by omega
    have HC0 := Lib.hid hcn0
    obtain ⟨i0, hi0, hz0, hz1, hz2⟩ := info_parts span_info3
    have hfd := fieldB0
    clear hfz hwz hlg hE hse hm hc0 hc1 hcn0
    go_enter Tryd.func29, Tryd.ntmps29
    go_upto_region 1 with (fail)
    obtain ⟨Va1, hV⟩ : ∃ V, (((w.alloc (.cells #[.int .i64 (WW), .int .i64 (HH), .int .i64 (SS), .slice A ss.length c] 24)).alloc (.cells #[.int .i64 (lo), .int .i64 (hi)] 26)).alloc (.cells #[.int .i64 (d1), .int .i64 (d2), .int .i64 (l1), .int .i64 (l2)] 28)).alloc (.cells #[.int .i64 (z1), .int .i64 (z2)] 26) = V := ⟨_, rfl⟩
    have Kb6 : Hid (Blk Va1 (w.heap.size) 24 #[.int .i64 (WW), .int .i64 (HH), .int .i64 (SS), .slice A ss.length c]) := by rw [← hV]; exact (((Blk.new' _ _ _ (by simp)).alloc _).alloc _).alloc _
    have Kb7 : Hid (Blk Va1 (w.heap.size + 1) 26 #[.int .i64 (lo), .int .i64 (hi)]) := by rw [← hV]; exact ((Blk.new' _ _ _ (by simp)).alloc _).alloc _
    have Kb8 : Hid (Blk Va1 (w.heap.size + 1 + 1) 28 #[.int .i64 (d1), .int .i64 (d2), .int .i64 (l1), .int .i64 (l2)]) := by rw [← hV]; exact (Blk.new' _ _ _ (by simp)).alloc _
    have Kb10 : Hid (Blk Va1 (w.heap.size + 1 + 1 + 1) 26 #[.int .i64 (z1), .int .i64 (z2)]) := by rw [← hV]; exact Blk.new' _ _ _ (by simp)
    have GHB : Hid (Below w.heap.size w Va1) := by rw [← hV]; exact (by repeat (first | exact Below.refl _ _ | assumption | refine Below.drew ?_ | refine Below.drewN' ?_ _ | (refine Below.alloc ?_ (by simp <;> omega) _) | (refine Below.setCell ?_ (by simp <;> omega) _)))
    have HZ : Hid (Below w.heap.size w Va1) := GHB
    have GHDR := Lib.hid (HDR.out.later HZ.out)
    have GHSS3 := Lib.hid (HSS3.out.later HZ.out (Nat.le_refl _))
    have GHWS := Lib.hid (HWS.out.later HZ.out (Nat.le_refl _))
    rw [hV]
    clear hV HZ HDR HSS3 HWS
    have HB := GHB
    clear GHB
    have HDR := GHDR
    clear GHDR
    have HSS3 := GHSS3
    clear GHSS3
    have HWS := GHWS
    clear GHWS
    obtain ⟨b10, hqb10⟩ : ∃ b, w.heap.size + 1 + 1 + 1 = b := ⟨_, rfl⟩
    obtain ⟨b8, hqb8⟩ : ∃ b, w.heap.size + 1 + 1 = b := ⟨_, rfl⟩
    obtain ⟨b7, hqb7⟩ : ∃ b, w.heap.size + 1 = b := ⟨_, rfl⟩
    obtain ⟨b6, hqb6⟩ : ∃ b, w.heap.size = b := ⟨_, rfl⟩
    have gb6 : w.heap.size ≤ b6 := by omega
    have gb7 : w.heap.size ≤ b7 := by omega
    have nb7b6 : ¬ b7 = b6 := by omega
    have nb6b7 : ¬ b6 = b7 := by omega
    have gb8 : w.heap.size ≤ b8 := by omega
    have nb8b6 : ¬ b8 = b6 := by omega
    have nb6b8 : ¬ b6 = b8 := by omega
    have nb8b7 : ¬ b8 = b7 := by omega
    have nb7b8 : ¬ b7 = b8 := by omega
    have gb10 : w.heap.size ≤ b10 := by omega
    have nb10b6 : ¬ b10 = b6 := by omega
    have nb6b10 : ¬ b6 = b10 := by omega
    have nb10b7 : ¬ b10 = b7 := by omega
    have nb7b10 : ¬ b7 = b10 := by omega
    have nb10b8 : ¬ b10 = b8 := by omega
    have nb8b10 : ¬ b8 = b10 := by omega
    rw [hqb10] at Kb10 ⊢
    clear hqb10
    rw [hqb8] at Kb8 ⊢
    clear hqb8
    rw [hqb7] at Kb7 ⊢
    clear hqb7
    have HN : Hid (w.heap.size = b6) := hqb6
    rw [hqb6] at Kb6 ⊢
    clear hqb6
    have Hb6 := Kb6
    clear Kb6
    have Hb7 := Kb7
    clear Kb7
    have Hb8 := Kb8
    clear Kb8
    have Hb10 := Kb10
    clear Kb10
    have cb60 := kcl0 Hb6
    have cb61 := kcl1 Hb6
    have cb62 := kcl2 Hb6
    have cb63 := kcl3 Hb6
    have cb70 := kcl0 Hb7
    have cb71 := kcl1 Hb7
    have cb80 := kcl0 Hb8
    have cb81 := kcl1 Hb8
    have cb82 := kcl2 Hb8
    have cb83 := kcl3 Hb8
    go_wp2_with fail
    refine (checkPlace_any WW HH SS ss A c lo hi d1 d2 l1 l2 cell _ HSS3.out).mono ?_
    rintro e Va2 ⟨rfl, hb⟩
    have HZ := Lib.hid hb
    clear hb
    rw [H0.out]
    clear cb60 cb61 cb62 cb63 cb70 cb71 cb80 cb81 cb82 cb83
    replace Hb6 := kbl Hb6 HZ
    replace Hb7 := kbl Hb7 HZ
    replace Hb8 := kbl Hb8 HZ
    replace Hb10 := kbl Hb10 HZ
    replace HB := ktr' HB HZ
    replace HDR := Lib.hid (HDR.out.later HZ.out)
    replace HSS3 := Lib.hid (HSS3.out.later HZ.out (Nat.le_refl _))
    replace HWS := Lib.hid (HWS.out.later HZ.out (Nat.le_refl _))
    clear HZ
    have cb100 := kcl0 Hb10
    have cb101 := kcl1 Hb10
    go_wp2_with fail
    refine (checkRun_any z1 z2 _ _).mono ?_
    rintro e Va3 ⟨rfl, hb⟩
    have HZ := Lib.hid hb
    clear hb
    rw [H1.out]
    clear cb100 cb101
    replace Hb6 := kbl Hb6 HZ
    replace Hb7 := kbl Hb7 HZ
    replace Hb8 := kbl Hb8 HZ
    replace Hb10 := kbl Hb10 HZ
    replace HB := ktr' HB HZ
    replace HDR := Lib.hid (HDR.out.later HZ.out)
    replace HSS3 := Lib.hid (HSS3.out.later HZ.out (Nat.le_refl _))
    replace HWS := Lib.hid (HWS.out.later HZ.out (Nat.le_refl _))
    clear HZ
    go_wp2_with fail
    refine (checkWinds_any _ ws _ HWS.out).mono ?_
    rintro e Va4 ⟨rfl, hb⟩
    have HZ := Lib.hid hb
    clear hb
    rw [H2.out]
    replace Hb6 := kbl Hb6 HZ
    replace Hb7 := kbl Hb7 HZ
    replace Hb8 := kbl Hb8 HZ
    replace Hb10 := kbl Hb10 HZ
    replace HB := ktr' HB HZ
    replace HDR := Lib.hid (HDR.out.later HZ.out)
    replace HSS3 := Lib.hid (HSS3.out.later HZ.out (Nat.le_refl _))
    replace HWS := Lib.hid (HWS.out.later HZ.out (Nat.le_refl _))
    clear HZ
    have cb60 := kcl0 Hb6
    have cb61 := kcl1 Hb6
    have cb62 := kcl2 Hb6
    have cb63 := kcl3 Hb6
    have cb70 := kcl0 Hb7
    have cb71 := kcl1 Hb7
    go_upto_region 11 with (fail)
    clear cb60 cb61 cb62 cb63 cb70 cb71
    obtain ⟨Va5, hV⟩ : ∃ X, Va4.alloc (.cells #[.int .i64 (WW), .int .i64 (HH), .int .i64 (SS), .slice A ss.length c, .int .i64 (lo), .int .i64 (hi)] 110) = X := ⟨_, rfl⟩
    have hnew : Blk Va5 Va4.heap.size 110 #[.int .i64 (WW), .int .i64 (HH), .int .i64 (SS), .slice A ss.length c, .int .i64 (lo), .int .i64 (hi)] := by rw [← hV]; exact (Blk.new' _ _ _ rfl)
    have hz : Below Va4.heap.size Va4 Va5 := by rw [← hV]; exact ((Below.refl _ _).alloc (Nat.le_refl _) _)
    have hgn := HB.out.size
    have lb6 := Hb6.out.lt
    have lb7 := Hb7.out.lt
    have lb8 := Hb8.out.lt
    have lb10 := Hb10.out.lt
    rw [hV]
    obtain ⟨b17, hbx⟩ : ∃ b, Va4.heap.size = b := ⟨_, rfl⟩
    rw [hbx] at hnew hgn lb6 lb7 lb8 lb10 ⊢
    have gb17 : w.heap.size ≤ b17 := hgn
    have HZ := Lib.hid hz
    have nb6b17 : ¬ b6 = b17 := by omega
    have nb17b6 : ¬ b17 = b6 := by omega
    have nb7b17 : ¬ b7 = b17 := by omega
    have nb17b7 : ¬ b17 = b7 := by omega
    have nb8b17 : ¬ b8 = b17 := by omega
    have nb17b8 : ¬ b17 = b8 := by omega
    have nb10b17 : ¬ b10 = b17 := by omega
    have nb17b10 : ¬ b17 = b10 := by omega
    clear hV hz hgn hbx lb6 lb7 lb8 lb10
    replace Hb6 := kbl Hb6 HZ
    replace Hb7 := kbl Hb7 HZ
    replace Hb8 := kbl Hb8 HZ
    replace Hb10 := kbl Hb10 HZ
    replace HB := ktr' HB HZ
    replace HDR := Lib.hid (HDR.out.later HZ.out)
    replace HSS3 := Lib.hid (HSS3.out.later HZ.out (Nat.le_refl _))
    replace HWS := Lib.hid (HWS.out.later HZ.out (Nat.le_refl _))
    clear HZ
    have Hb17 := Lib.hid hnew
    clear hnew
    have cb100 := kcl0 Hb10
    have cb101 := kcl1 Hb10
    go_upto_region 12 with (fail)
    clear cb100 cb101
    obtain ⟨Va6, hV⟩ : ∃ X, Va5.alloc (.cells #[.int .i64 (z1), .int .i64 (z2)] 108) = X := ⟨_, rfl⟩
    have hnew : Blk Va6 Va5.heap.size 108 #[.int .i64 (z1), .int .i64 (z2)] := by rw [← hV]; exact (Blk.new' _ _ _ rfl)
    have hz : Below Va5.heap.size Va5 Va6 := by rw [← hV]; exact ((Below.refl _ _).alloc (Nat.le_refl _) _)
    have hgn := HB.out.size
    have lb6 := Hb6.out.lt
    have lb7 := Hb7.out.lt
    have lb8 := Hb8.out.lt
    have lb10 := Hb10.out.lt
    have lb17 := Hb17.out.lt
    rw [hV]
    obtain ⟨b18, hbx⟩ : ∃ b, Va5.heap.size = b := ⟨_, rfl⟩
    rw [hbx] at hnew hgn lb6 lb7 lb8 lb10 lb17 ⊢
    have gb18 : w.heap.size ≤ b18 := hgn
    have HZ := Lib.hid hz
    have nb6b18 : ¬ b6 = b18 := by omega
    have nb18b6 : ¬ b18 = b6 := by omega
    have nb7b18 : ¬ b7 = b18 := by omega
    have nb18b7 : ¬ b18 = b7 := by omega
    have nb8b18 : ¬ b8 = b18 := by omega
    have nb18b8 : ¬ b18 = b8 := by omega
    have nb10b18 : ¬ b10 = b18 := by omega
    have nb18b10 : ¬ b18 = b10 := by omega
    have nb17b18 : ¬ b17 = b18 := by omega
    have nb18b17 : ¬ b18 = b17 := by omega
    clear hV hz hgn hbx lb6 lb7 lb8 lb10 lb17
    replace Hb6 := kbl Hb6 HZ
    replace Hb7 := kbl Hb7 HZ
    replace Hb8 := kbl Hb8 HZ
    replace Hb10 := kbl Hb10 HZ
    replace Hb17 := kbl Hb17 HZ
    replace HB := ktr' HB HZ
    replace HDR := Lib.hid (HDR.out.later HZ.out)
    replace HSS3 := Lib.hid (HSS3.out.later HZ.out (Nat.le_refl _))
    replace HWS := Lib.hid (HWS.out.later HZ.out (Nat.le_refl _))
    clear HZ
    have Hb18 := Lib.hid hnew
    clear hnew
    have hc9 := HC0.out
    clear HC0
    subst hc9
    have hl18 := Hb18.out.lt
    have lb18 := HB.out.size
    have hstl : Hid ((steadiesZ ⟨WW, HH, SS, ss⟩ (lo, hi) ⟨(d1, d2), (l1, l2)⟩ ((cn : Nat) : Int) ws).length = ws.length) := List.length_map _
    go_wp2
    go_loopw [19, 50] (fun sv iv wr => ∃ (k : Nat) (va : Value), va = sv ∧ k ≤ ws.length ∧ iv = .int .i64 (k : Int) ∧ Hid (wr.ownsRow Va6.heap.size 26 2 va k (spanCells (levelsZ (l1, l2) (z1, z2) ((steadiesZ ⟨WW, HH, SS, ss⟩ (lo, hi) ⟨(d1, d2), (l1, l2)⟩ ((cn : Nat) : Int) ws).take k)))) ∧ Hid (Blk wr b18 108 #[.int .i64 (lastZ (l1, l2) (z1, z2) ((steadiesZ ⟨WW, HH, SS, ss⟩ (lo, hi) ⟨(d1, d2), (l1, l2)⟩ ((cn : Nat) : Int) ws).take k)).1, .int .i64 (lastZ (l1, l2) (z1, z2) ((steadiesZ ⟨WW, HH, SS, ss⟩ (lo, hi) ⟨(d1, d2), (l1, l2)⟩ ((cn : Nat) : Int) ws).take k)).2]) ∧ Hid (Far (fun i => i = b18) Va6 wr)) (fun _ iv _ => ws.length - (intOf iv).toNat)
    case atStart => exact ⟨0, _, rfl, Nat.zero_le _, rfl, World.ownsRow_nil _ _ _ _, Hb18, Far.refl _ _⟩
    case round =>
     obtain ⟨k, va, rfl, hk, rfl, HO, GL, HFV⟩ := hrel
     have GBL : Hid (Below w.heap.size w wr) := HB.out.trans (HFV.out.below HB.out.size (fun i hi h => by subst h; omega))
     by_cases hlt : k < ws.length
     · have GSS : Hid (DirsAt wr ∧ SpansAt wr wr.heap.size (.slice A ss.length c) ss ∧ WindsAt wr wr.heap.size (.slice A' ws.length c') ws) := by
        have hbb := HFV.out.below (B := w.heap.size) (Nat.le_trans HB.out.size (Nat.le_refl _)) (fun i hi h => by subst h; omega)
        exact ⟨HDW.out.later GBL.out, HSW.out.later GBL.out (Nat.le_refl _), HWW.out.later GBL.out (Nat.le_refl _)⟩
       obtain ⟨b, off, rfl, hb, c0, c1, c2, c3, c4⟩ := GSS.out.2.2.at_ hlt
       have hlt' : (k : Int) < (ws.length : Int) := by omega
       have hks : k < (steadiesZ ⟨WW, HH, SS, ss⟩ (lo, hi) ⟨(d1, d2), (l1, l2)⟩ ((cn : Nat) : Int) ws).length := by rw [hstl.out]; exact hlt
       obtain ⟨t1, t2⟩ := take_last (l1, l2) (z1, z2) (steadiesZ ⟨WW, HH, SS, ss⟩ (lo, hi) ⟨(d1, d2), (l1, l2)⟩ ((cn : Nat) : Int) ws) hks
       have hwk := HWZ.out _ (List.getElem_mem hlt)
       have hst : (steadiesZ ⟨WW, HH, SS, ss⟩ (lo, hi) ⟨(d1, d2), (l1, l2)⟩ ((cn : Nat) : Int) ws)[k] = steadyZ ⟨WW, HH, SS, ss⟩ (lo, hi) ⟨(d1, d2), (l1, l2)⟩ ((cn : Nat) : Int) ws[k] := by simp [steadiesZ]
       rw [hst] at t2
       have hsf := steady_fin H0.out hwk
       have hlf : finB (lastZ (l1, l2) (z1, z2) ((steadiesZ ⟨WW, HH, SS, ss⟩ (lo, hi) ⟨(d1, d2), (l1, l2)⟩ ((cn : Nat) : Int) ws).take k)) := last_fin HLG.out HFZ.out fun x hx => by
        obtain ⟨y, hy, rfl⟩ := List.mem_map.1 (List.mem_of_mem_take hx)
        exact (steady_fin H0.out (HWZ.out y hy)).1
       obtain ⟨⟨⟨s1, s2⟩, n, p1, p2⟩, hx⟩ : ∃ z, ws[k] = z := ⟨_, rfl⟩
       rw [hx] at c0 c1 c2 c3 c4 hwk hsf t2
       simp only at c0 c1 c2 c3 c4
       obtain ⟨-, -, hn1, hn2⟩ := wiE_zero hwk
       simp only at hn1 hn2
       obtain ⟨nn, rfl⟩ : ∃ m : Nat, n = (m : Int) := ⟨n.toNat, by omega⟩
       obtain ⟨⟨y1, y2⟩, hy⟩ : ∃ z, (lastZ (l1, l2) (z1, z2) ((steadiesZ ⟨WW, HH, SS, ss⟩ (lo, hi) ⟨(d1, d2), (l1, l2)⟩ ((cn : Nat) : Int) ws).take k)) = z := ⟨_, rfl⟩
       obtain ⟨⟨u1, u2⟩, hu⟩ : ∃ z, steadyZ ⟨WW, HH, SS, ss⟩ (lo, hi) ⟨(d1, d2), (l1, l2)⟩ ((cn : Nat) : Int) ⟨(s1, s2), ((nn : Nat) : Int), (p1, p2)⟩ = z := ⟨_, rfl⟩
       rw [hy] at hlf t2 GL
       rw [hu] at hsf t2
       obtain ⟨⟨q1, q2⟩, hq⟩ : ∃ z, stepZ (l1, l2) (y1, y2) (u1, u2) = z := ⟨_, rfl⟩
       rw [hq] at t2
       rw [t2] at t1
       have HT1 := Lib.hid t1
       have HT2 := Lib.hid t2
       have HU := Lib.hid hu
       have HQ := Lib.hid hq
       have HWK := Lib.hid hwk
       have HYB : Hid (bigB (y1, y2)) := by show bigB _; unfold bigB finB at *; omega
       have HUB : Hid (bigB (u1, u2)) := by show bigB _; unfold bigB; simp only at hsf ⊢; omega
       clear hx hy hu hq t1 t2 hst hsf hlf hwk hks hn1 hn2
       have KB := GBL
       have K8 := Lib.hid (Hb8.out.far HFV.out (by exact nb8b18))
       have K17 := Lib.hid (Hb17.out.far HFV.out (by exact nb17b18))
       clear Hb6 Hb7 Hb8 Hb10 Hb17 Hb18 HB
       have Hb8 := K8
       have Hb17 := K17
       have Hb18 := GL
       have HB := KB
       have hne : va.ownBlock ≠ some b18 := fun e => by have := (HO.out.lt _ e).1; omega
       clear K8 K17 GL KB GBL
       go_upto_region 16 with (fail)
       obtain ⟨Va51, hV⟩ : ∃ X, wr.alloc (.cells #[.int .i64 (s1), .int .i64 (s2), .int .i64 ((nn : Nat)), .int .i64 (p1), .int .i64 (p2)] 32) = X := ⟨_, rfl⟩
       have hnew : Blk Va51 wr.heap.size 32 #[.int .i64 (s1), .int .i64 (s2), .int .i64 ((nn : Nat)), .int .i64 (p1), .int .i64 (p2)] := by rw [← hV]; exact (Blk.new' _ _ _ rfl)
       have hz : Below wr.heap.size wr Va51 := by rw [← hV]; exact ((Below.refl _ _).alloc (Nat.le_refl _) _)
       have hgn := HB.out.size
       have lb8 := Hb8.out.lt
       have lb17 := Hb17.out.lt
       have lb18 := Hb18.out.lt
       rw [hV]
       obtain ⟨b21, hbx⟩ : ∃ b, wr.heap.size = b := ⟨_, rfl⟩
       rw [hbx] at hnew hgn lb8 lb17 lb18 ⊢
       have gb21 : w.heap.size ≤ b21 := hgn
       have HZ := Lib.hid hz
       have nb8b21 : ¬ b8 = b21 := by omega
       have nb21b8 : ¬ b21 = b8 := by omega
       have nb17b21 : ¬ b17 = b21 := by omega
       have nb21b17 : ¬ b21 = b17 := by omega
       have nb18b21 : ¬ b18 = b21 := by omega
       have nb21b18 : ¬ b21 = b18 := by omega
       clear hV hz hgn hbx lb8 lb17 lb18
       replace Hb8 := kbl Hb8 HZ
       replace Hb17 := kbl Hb17 HZ
       replace Hb18 := kbl Hb18 HZ
       replace HB := ktr' HB HZ
       replace HO := Lib.hid (own_below HO.out HZ.out (Nat.le_refl _))
       replace HFV := Lib.hid (HFV.out.trans (Far.of_below HZ.out) (fun _ _ h => h))
       replace GSS := Lib.hid (And.intro (GSS.out.1.later HZ.out) (And.intro (GSS.out.2.1.later HZ.out (Nat.le_refl _)) (GSS.out.2.2.later HZ.out (Nat.le_refl _))))
       clear HZ
       have Hb21 := Lib.hid hnew
       clear hnew
       have HPQ : Hid (∀ U, Below Va51.heap.size Va51 U → DirsAt U ∧ SpansAt U U.heap.size (.slice A ss.length c) ss) := fun U hU => ⟨GSS.out.1.later hU, GSS.out.2.1.later hU (Nat.le_refl _)⟩
       clear GSS c0 c1 c2 c3 c4
       have HSV : Hid (∀ U, Below Va51.heap.size Va51 U → U.cell? ⟨b8, 0, none⟩ = some (.int .i64 (d1)) ∧ U.cell? ⟨b8, 1, none⟩ = some (.int .i64 (d2)) ∧ U.cell? ⟨b8, 2, none⟩ = some (.int .i64 (l1)) ∧ U.cell? ⟨b8, 3, none⟩ = some (.int .i64 (l2)) ∧ U.cell? ⟨b17, 0, none⟩ = some (.int .i64 (WW)) ∧ U.cell? ⟨b17, 1, none⟩ = some (.int .i64 (HH)) ∧ U.cell? ⟨b17, 2, none⟩ = some (.int .i64 (SS)) ∧ U.cell? ⟨b17, 3, none⟩ = some (.slice A ss.length c) ∧ U.cell? ⟨b17, 4, none⟩ = some (.int .i64 (lo)) ∧ U.cell? ⟨b17, 5, none⟩ = some (.int .i64 (hi)) ∧ U.cell? ⟨b18, 0, none⟩ = some (.int .i64 (y1)) ∧ U.cell? ⟨b18, 1, none⟩ = some (.int .i64 (y2)) ∧ U.cell? ⟨b21, 0, none⟩ = some (.int .i64 (s1)) ∧ U.cell? ⟨b21, 1, none⟩ = some (.int .i64 (s2)) ∧ U.cell? ⟨b21, 2, none⟩ = some (.int .i64 ((nn : Nat))) ∧ U.cell? ⟨b21, 3, none⟩ = some (.int .i64 (p1)) ∧ U.cell? ⟨b21, 4, none⟩ = some (.int .i64 (p2))) := fun U hU => by
        have kb8 := Hb8.out.below hU Hb8.out.lt
        have kb17 := Hb17.out.below hU Hb17.out.lt
        have kb18 := Hb18.out.below hU Hb18.out.lt
        have kb21 := Hb21.out.below hU Hb21.out.lt
        exact ⟨kb8.cell 0, kb8.cell 1, kb8.cell 2, kb8.cell 3, kb17.cell 0, kb17.cell 1, kb17.cell 2, kb17.cell 3, kb17.cell 4, kb17.cell 5, kb18.cell 0, kb18.cell 1, kb21.cell 0, kb21.cell 1, kb21.cell 2, kb21.cell 3, kb21.cell 4⟩
       have k0 := HSV.out _ (Below.drew (Below.refl Va51.heap.size Va51))
       refine wp_region_noPanic ?_
       refine wp_region_L (S := (fun w' => w'.cell? ⟨b8, 0, none⟩ = some (.int .i64 (d1)) ∧ w'.cell? ⟨b8, 1, none⟩ = some (.int .i64 (d2)) ∧ w'.cell? ⟨b8, 2, none⟩ = some (.int .i64 (l1)) ∧ w'.cell? ⟨b8, 3, none⟩ = some (.int .i64 (l2)) ∧ w'.cell? ⟨b17, 0, none⟩ = some (.int .i64 (WW)) ∧ w'.cell? ⟨b17, 1, none⟩ = some (.int .i64 (HH)) ∧ w'.cell? ⟨b17, 2, none⟩ = some (.int .i64 (SS)) ∧ w'.cell? ⟨b17, 3, none⟩ = some (.slice A ss.length c) ∧ w'.cell? ⟨b17, 4, none⟩ = some (.int .i64 (lo)) ∧ w'.cell? ⟨b17, 5, none⟩ = some (.int .i64 (hi)) ∧ w'.cell? ⟨b18, 0, none⟩ = some (.int .i64 (y1)) ∧ w'.cell? ⟨b18, 1, none⟩ = some (.int .i64 (y2)) ∧ w'.cell? ⟨b21, 0, none⟩ = some (.int .i64 (s1)) ∧ w'.cell? ⟨b21, 1, none⟩ = some (.int .i64 (s2)) ∧ w'.cell? ⟨b21, 2, none⟩ = some (.int .i64 ((nn : Nat))) ∧ w'.cell? ⟨b21, 3, none⟩ = some (.int .i64 (p1)) ∧ w'.cell? ⟨b21, 4, none⟩ = some (.int .i64 (p2)))) (ks := [9]) (by kernel_rfl) ?_ (fun hHeld => ?_)
       · (try dsimp only); (exact k0)
       refine tL 0 Z7s ?_ ?_ ?_
       rotate_left
       · ((intro w hSw; delta Z7s; (try dsimp only at hSw); go_simp) <;> with_reducible rfl)
       try simp only [Z7s, ksz]
       refine tL 2 Z7u ?_ ?_ ?_
       rotate_left
       · ((intro w hSw; delta Z7u; (try dsimp only at hSw); go_simp) <;> with_reducible rfl)
       try simp only [Z7u, ksz]
       refine tL 3 Z7v ?_ ?_ ?_
       rotate_left
       · ((intro w hSw; delta Z7v; (try dsimp only at hSw); go_simp) <;> with_reducible rfl)
       try simp only [Z7v, ksz]
       refine tL 4 Z7w ?_ ?_ ?_
       rotate_left
       · ((intro w hSw; delta Z7w; (try dsimp only at hSw); go_simp) <;> with_reducible rfl)
       try simp only [Z7w, ksz]
       refine tL 5 Z7x ?_ ?_ ?_
       rotate_left
       · ((intro w hSw; delta Z7x; (try dsimp only at hSw); go_simp) <;> with_reducible rfl)
       try simp only [Z7x, ksz]
       refine tL 6 Z7y ?_ ?_ ?_
       rotate_left
       · ((intro w hSw; delta Z7y; (try dsimp only at hSw); go_simp) <;> with_reducible rfl)
       try simp only [Z7y, ksz]
       refine tL 1 Z7t ?_ ?_ ?_
       rotate_left
       · ((intro w hSw; delta Z7t; (try dsimp only at hSw); go_simp) <;> with_reducible rfl)
       try simp only [Z7t, ksz]
       obtain ⟨W0, hW0⟩ : ∃ V, Va51.drew = V := ⟨_, rfl⟩; rw [hW0] at hHeld ⊢; have HB0 : Hid (Below Va51.heap.size Va51 W0) := (by rw [← hW0]; exact Below.drew (Below.refl _ _)); clear hW0
       refine wpAnyL_ready (rs := [7]) (by kernel_rfl) (by simp) ?_
       refine AllReadyL.cons (o := Z7z) rfl (fun K hK => ?_) AllReadyL.nil
       delta Z7z
       go_simp
       (refine (steady_any WW HH SS ss A c lo hi d1 d2 l1 l2 cn s1 s2 nn p1 p2 _ (HPQ.out _ HB0.out).1 (HPQ.out _ HB0.out).2 HEG.out HSE.out HM.out HWK.out hcn).mono ?_; rintro e W1 ⟨rfl, hb⟩; have HB1 := Lib.hid (HB0.out.trans (hb.mono HB0.out.size)); clear hb; rw [HU.out])
       refine hK.out _ _ ?_ (fun hHeld => ?_)
       · (try dsimp only); (exact HSV.out _ HB1.out)
       clear hK K
       try simp only [Z7z, ksz]
       refine wpAnyL_ready (rs := [8]) (by kernel_rfl) (by simp) ?_
       refine AllReadyL.cons (o := Z80) rfl (fun K hK => ?_) AllReadyL.nil
       delta Z80
       go_simp
       (refine (next_any l1 l2 y1 y2 u1 u2 _ HLG.out HYB.out HUB.out).mono ?_; rintro e W2 ⟨rfl, hb⟩; have HB2 := Lib.hid (HB1.out.trans (hb.mono HB1.out.size)); clear hb; rw [HQ.out])
       refine hK.out _ _ ?_ (fun hHeld => ?_)
       · (try dsimp only); (exact HSV.out _ HB2.out)
       clear hK K
       try simp only [Z80, ksz]
       have Gb8 := Lib.hid (Hb8.out.below HB2.out Hb8.out.lt); have Gb17 := Lib.hid (Hb17.out.below HB2.out Hb17.out.lt); have Gb18 := Lib.hid (Hb18.out.below HB2.out Hb18.out.lt); have Gb21 := Lib.hid (Hb21.out.below HB2.out Hb21.out.lt); have GHB := Lib.hid (HB.out.trans (HB2.out.mono HB.out.size)); have GHO := Lib.hid (own_below HO.out HB2.out (Nat.le_refl _)); have GHFV := Lib.hid (HFV.out.trans (Far.of_below HB2.out) (fun _ _ h => h)); clear Hb8 Hb17 Hb18 Hb21 HB HO HFV; have Hb8 := Gb8; clear Gb8; have Hb17 := Gb17; clear Gb17; have Hb18 := Gb18; clear Gb18; have Hb21 := Gb21; clear Gb21; have HB := GHB; clear GHB; have HO := GHO; clear GHO; have HFV := GHFV; clear GHFV; have cR0 := Hb18.out.cell 0; have zR0 := Hb18.out.frozen 0; have cR1 := Hb18.out.cell 1; have zR1 := Hb18.out.frozen 1; simp only [List.getElem?_toArray, List.getElem?_cons_zero, List.getElem?_cons_succ] at cR0 cR1
       refine wpAnyL_ready (rs := [9]) (by kernel_rfl) (by simp) ?_
       refine AllReadyL.gate (o := Z81) rfl (by kernel_rfl) (fun K hK => ?_) AllReadyL.nil
       delta Z81
       go_simp
       refine hK.out _ _ ?_
       clear hK K
       try simp only [Z81, ksz]
       obtain ⟨Va52, hV⟩ : ∃ V, (W2.setCell ⟨b18, 0, none⟩ (.int .i64 (q1))).setCell ⟨b18, 1, none⟩ (.int .i64 (q2)) = V := ⟨_, rfl⟩; replace Hb8 : Hid (Blk Va52 b8 28 #[.int .i64 (d1), .int .i64 (d2), .int .i64 (l1), .int .i64 (l2)]) := (by rw [← hV]; exact ((Hb8.out.far_ (p := ⟨b18, 0, none⟩) nb8b18 _).far_ (p := ⟨b18, 1, none⟩) nb8b18 _)); replace Hb17 : Hid (Blk Va52 b17 110 #[.int .i64 (WW), .int .i64 (HH), .int .i64 (SS), .slice A ss.length c, .int .i64 (lo), .int .i64 (hi)]) := (by rw [← hV]; exact ((Hb17.out.far_ (p := ⟨b18, 0, none⟩) nb17b18 _).far_ (p := ⟨b18, 1, none⟩) nb17b18 _)); replace Hb18 : Hid (Blk Va52 b18 108 #[.int .i64 (q1), .int .i64 (q2)]) := (by rw [← hV]; exact ((Hb18.out.set_ 0 (.int .i64 (q1))).set_ 1 (.int .i64 (q2)))); replace Hb21 : Hid (Blk Va52 b21 32 #[.int .i64 (s1), .int .i64 (s2), .int .i64 ((nn : Nat)), .int .i64 (p1), .int .i64 (p2)]) := (by rw [← hV]; exact ((Hb21.out.far_ (p := ⟨b18, 0, none⟩) nb21b18 _).far_ (p := ⟨b18, 1, none⟩) nb21b18 _)); replace HB : Hid (Below w.heap.size w Va52) := (by rw [← hV]; exact ((HB.out.setCell (p := ⟨b18, 0, none⟩) gb18 _).setCell (p := ⟨b18, 1, none⟩) gb18 _)); replace HO := Lib.hid ((show Va52.ownsRow Va6.heap.size 26 2 va k (spanCells (levelsZ (l1, l2) (z1, z2) ((steadiesZ ⟨WW, HH, SS, ss⟩ (lo, hi) ⟨(d1, d2), (l1, l2)⟩ ((cn : Nat) : Int) ws).take k))) from by rw [← hV]; exact (own_set (own_set HO.out (p := ⟨b18, 0, none⟩) (by exact hne) (.int .i64 (q1))) (p := ⟨b18, 1, none⟩) (by exact hne) (.int .i64 (q2))))); replace HFV := Lib.hid ((show Far (fun i => i = b18) Va6 Va52 from by rw [← hV]; exact ((HFV.out.setCell (p := ⟨b18, 0, none⟩) (Or.inl rfl) (.int .i64 (q1))).setCell (p := ⟨b18, 1, none⟩) (Or.inl rfl) (.int .i64 (q2))))); rw [hV]; clear hV cR0 zR0 cR1 zR1
       refine wpAnyL_done (by kernel_rfl) ?_ _
       refine NoPanic.normal ?_
       clear HSV k0
       clear hHeld HB0 HB1 HB2
       have cb180 := kcl0 Hb18
       have cb181 := kcl1 Hb18
       have lvv := HFV.out.size
       go_wp2_with (at_builtin; ((refine wpList_append_own_at _ rfl (.tmp 63) (.tmp 66) 22 rfl Va6.heap.size 26 i0 (.agg #[.int .i64 0, .int .i64 0]) 2 16 Tryd.underlying22 hi0 hz0 hz1 hz2 rfl (by decide) va k _ rfl (HO.out.alloc _) ⟨Va52.heap.size, 0, none⟩ 1 1 [.int .i64 q1, .int .i64 q2] rfl rfl (cells_two_new _ _ _ _ (by simp)) (by simp [Value.oneCell']) (by unfold maxLen; omega) (by omega) (by simp <;> omega) ?_; intro v1 w8 hown1 hg1 _ _; have HO8 := Lib.hid hown1; have HF8 := Lib.hid ((HFV.out.alloc _).grown hg1 (fun k e => Or.inr (HO.out.lt k e).1)); have HL8 : Hid (Blk w8 b18 108 #[.int .i64 q1, .int .i64 q2]) := blk_grown (Hb18.out.alloc _) hg1 (fun e => hne e.symm); clear hown1 hg1)))
       go_roundw
       case rel => exact ⟨k + 1, _, rfl, by omega, by go_num, by rw [HT1.out, spanCells_append]; exact HO8.out, by rw [HT2.out]; exact HL8, HF8⟩
       case measure => simp [intOf]; omega
     · have hk' : k = ws.length := by omega
       subst hk'
       have HFI : Hid ((levelsZ (l1, l2) (z1, z2) ((steadiesZ ⟨WW, HH, SS, ss⟩ (lo, hi) ⟨(d1, d2), (l1, l2)⟩ ((cn : Nat) : Int) ws).take ws.length)) = runZ ⟨WW, HH, SS, ss⟩ (lo, hi) ⟨(d1, d2), (l1, l2)⟩ ((cn : Nat) : Int) (z1, z2) ws) := by
        show _ = _
        unfold runZ
        rw [← hstl.out, List.take_length]
       rw [HFI.out] at HO
       have HRS : Hid (SpansAt wr wr.heap.size va (runZ ⟨WW, HH, SS, ss⟩ (lo, hi) ⟨(d1, d2), (l1, l2)⟩ ((cn : Nat) : Int) (z1, z2) ws)) := by
        have h := Reads.of_own HO.out
        show Reads _ _ _ _ _ _
        have e : (runZ ⟨WW, HH, SS, ss⟩ (lo, hi) ⟨(d1, d2), (l1, l2)⟩ ((cn : Nat) : Int) (z1, z2) ws).length = ws.length := by unfold runZ; rw [levelsZ_length, hstl.out]
        rw [e]
        exact h
       clear HO HFI GL HFV Hb6 Hb7 Hb8 Hb10 Hb17 Hb18 HB
       go_wp2
       refine bodyPost_ret (v := .tuple #[va, .int .i64 0]) (by simp [results, Tryd.results29, go_sem]) rfl ⟨_, by rw [EE.out], ?_, GBL.out⟩
       rw [EV.out]
       exact HRS.out
   ·
    obtain ⟨E0, hE0⟩ : ∃ q, windsE ws = q := ⟨_, rfl⟩
    have hb0 : ¬ E0 = 0 := by rw [← hE0]; exact h2
    have hb1 : (E0 == 0) = false := beq_eq_false_iff_ne.2 hb0
    have EE := Lib.hid (show runAE ⟨WW, HH, SS, ss⟩ (lo, hi) ⟨(d1, d2), (l1, l2)⟩ cell (z1, z2) ws = E0 by rw [← hE0]; unfold runAE andE; simp [*])
    have EV := Lib.hid (show runV ⟨WW, HH, SS, ss⟩ (lo, hi) ⟨(d1, d2), (l1, l2)⟩ cell (z1, z2) ws = [] by unfold runV; rw [EE.out, if_neg hb0])
    have HE0 := Lib.hid hE0
    clear hE0 hb0
    have H0 := Lib.hid h0
    clear h0
    have H1 := Lib.hid h1
    clear h1
    have H2 := Lib.hid h2
    clear h2
    have HDR := Lib.hid HD
    have HSS3 := Lib.hid hs
    have HWS := Lib.hid hl
    clear HD hs hl
    go_enter Tryd.func29, Tryd.ntmps29
    go_upto_region 1 with (fail)
    obtain ⟨Va1, hV⟩ : ∃ V, (((w.alloc (.cells #[.int .i64 (WW), .int .i64 (HH), .int .i64 (SS), .slice A ss.length c] 24)).alloc (.cells #[.int .i64 (lo), .int .i64 (hi)] 26)).alloc (.cells #[.int .i64 (d1), .int .i64 (d2), .int .i64 (l1), .int .i64 (l2)] 28)).alloc (.cells #[.int .i64 (z1), .int .i64 (z2)] 26) = V := ⟨_, rfl⟩
    have Kb6 : Hid (Blk Va1 (w.heap.size) 24 #[.int .i64 (WW), .int .i64 (HH), .int .i64 (SS), .slice A ss.length c]) := by rw [← hV]; exact (((Blk.new' _ _ _ (by simp)).alloc _).alloc _).alloc _
    have Kb7 : Hid (Blk Va1 (w.heap.size + 1) 26 #[.int .i64 (lo), .int .i64 (hi)]) := by rw [← hV]; exact ((Blk.new' _ _ _ (by simp)).alloc _).alloc _
    have Kb8 : Hid (Blk Va1 (w.heap.size + 1 + 1) 28 #[.int .i64 (d1), .int .i64 (d2), .int .i64 (l1), .int .i64 (l2)]) := by rw [← hV]; exact (Blk.new' _ _ _ (by simp)).alloc _
    have Kb10 : Hid (Blk Va1 (w.heap.size + 1 + 1 + 1) 26 #[.int .i64 (z1), .int .i64 (z2)]) := by rw [← hV]; exact Blk.new' _ _ _ (by simp)
    have GHB : Hid (Below w.heap.size w Va1) := by rw [← hV]; exact (by repeat (first | exact Below.refl _ _ | assumption | refine Below.drew ?_ | refine Below.drewN' ?_ _ | (refine Below.alloc ?_ (by simp <;> omega) _) | (refine Below.setCell ?_ (by simp <;> omega) _)))
    have HZ : Hid (Below w.heap.size w Va1) := GHB
    have GHDR := Lib.hid (HDR.out.later HZ.out)
    have GHSS3 := Lib.hid (HSS3.out.later HZ.out (Nat.le_refl _))
    have GHWS := Lib.hid (HWS.out.later HZ.out (Nat.le_refl _))
    rw [hV]
    clear hV HZ HDR HSS3 HWS
    have HB := GHB
    clear GHB
    have HDR := GHDR
    clear GHDR
    have HSS3 := GHSS3
    clear GHSS3
    have HWS := GHWS
    clear GHWS
    obtain ⟨b10, hqb10⟩ : ∃ b, w.heap.size + 1 + 1 + 1 = b := ⟨_, rfl⟩
    obtain ⟨b8, hqb8⟩ : ∃ b, w.heap.size + 1 + 1 = b := ⟨_, rfl⟩
    obtain ⟨b7, hqb7⟩ : ∃ b, w.heap.size + 1 = b := ⟨_, rfl⟩
    obtain ⟨b6, hqb6⟩ : ∃ b, w.heap.size = b := ⟨_, rfl⟩
    have gb6 : w.heap.size ≤ b6 := by omega
    have gb7 : w.heap.size ≤ b7 := by omega
    have nb7b6 : ¬ b7 = b6 := by omega
    have nb6b7 : ¬ b6 = b7 := by omega
    have gb8 : w.heap.size ≤ b8 := by omega
    have nb8b6 : ¬ b8 = b6 := by omega
    have nb6b8 : ¬ b6 = b8 := by omega
    have nb8b7 : ¬ b8 = b7 := by omega
    have nb7b8 : ¬ b7 = b8 := by omega
    have gb10 : w.heap.size ≤ b10 := by omega
    have nb10b6 : ¬ b10 = b6 := by omega
    have nb6b10 : ¬ b6 = b10 := by omega
    have nb10b7 : ¬ b10 = b7 := by omega
    have nb7b10 : ¬ b7 = b10 := by omega
    have nb10b8 : ¬ b10 = b8 := by omega
    have nb8b10 : ¬ b8 = b10 := by omega
    rw [hqb10] at Kb10 ⊢
    clear hqb10
    rw [hqb8] at Kb8 ⊢
    clear hqb8
    rw [hqb7] at Kb7 ⊢
    clear hqb7
    have HN : Hid (w.heap.size = b6) := hqb6
    rw [hqb6] at Kb6 ⊢
    clear hqb6
    have Hb6 := Kb6
    clear Kb6
    have Hb7 := Kb7
    clear Kb7
    have Hb8 := Kb8
    clear Kb8
    have Hb10 := Kb10
    clear Kb10
    have cb60 := kcl0 Hb6
    have cb61 := kcl1 Hb6
    have cb62 := kcl2 Hb6
    have cb63 := kcl3 Hb6
    have cb70 := kcl0 Hb7
    have cb71 := kcl1 Hb7
    have cb80 := kcl0 Hb8
    have cb81 := kcl1 Hb8
    have cb82 := kcl2 Hb8
    have cb83 := kcl3 Hb8
    go_wp2_with fail
    refine (checkPlace_any WW HH SS ss A c lo hi d1 d2 l1 l2 cell _ HSS3.out).mono ?_
    rintro e Va2 ⟨rfl, hb⟩
    have HZ := Lib.hid hb
    clear hb
    rw [H0.out]
    clear cb60 cb61 cb62 cb63 cb70 cb71 cb80 cb81 cb82 cb83
    replace Hb6 := kbl Hb6 HZ
    replace Hb7 := kbl Hb7 HZ
    replace Hb8 := kbl Hb8 HZ
    replace Hb10 := kbl Hb10 HZ
    replace HB := ktr' HB HZ
    replace HDR := Lib.hid (HDR.out.later HZ.out)
    replace HSS3 := Lib.hid (HSS3.out.later HZ.out (Nat.le_refl _))
    replace HWS := Lib.hid (HWS.out.later HZ.out (Nat.le_refl _))
    clear HZ
    have cb100 := kcl0 Hb10
    have cb101 := kcl1 Hb10
    go_wp2_with fail
    refine (checkRun_any z1 z2 _ _).mono ?_
    rintro e Va3 ⟨rfl, hb⟩
    have HZ := Lib.hid hb
    clear hb
    rw [H1.out]
    clear cb100 cb101
    replace Hb6 := kbl Hb6 HZ
    replace Hb7 := kbl Hb7 HZ
    replace Hb8 := kbl Hb8 HZ
    replace Hb10 := kbl Hb10 HZ
    replace HB := ktr' HB HZ
    replace HDR := Lib.hid (HDR.out.later HZ.out)
    replace HSS3 := Lib.hid (HSS3.out.later HZ.out (Nat.le_refl _))
    replace HWS := Lib.hid (HWS.out.later HZ.out (Nat.le_refl _))
    clear HZ
    go_wp2_with fail
    refine (checkWinds_any _ ws _ HWS.out).mono ?_
    rintro e Va4 ⟨rfl, hb⟩
    have HZ := Lib.hid hb
    clear hb
    rw [HE0.out]
    replace Hb6 := kbl Hb6 HZ
    replace Hb7 := kbl Hb7 HZ
    replace Hb8 := kbl Hb8 HZ
    replace Hb10 := kbl Hb10 HZ
    replace HB := ktr' HB HZ
    replace HDR := Lib.hid (HDR.out.later HZ.out)
    replace HSS3 := Lib.hid (HSS3.out.later HZ.out (Nat.le_refl _))
    replace HWS := Lib.hid (HWS.out.later HZ.out (Nat.le_refl _))
    clear HZ
    go_wp2
    refine bodyPost_ret (v := .tuple #[.slice none 0 0, .int .i64 E0]) (by simp [results, Tryd.results29, go_sem]) rfl ⟨_, by rw [EE.out], ?_, HB.out⟩
    rw [EV.out]
    exact Reads.nil _ _ _
  ·
   obtain ⟨E0, hE0⟩ : ∃ q, runE (z1, z2) ws.length = q := ⟨_, rfl⟩
   have hb0 : ¬ E0 = 0 := by rw [← hE0]; exact h1
   have hb1 : (E0 == 0) = false := beq_eq_false_iff_ne.2 hb0
   have EE := Lib.hid (show runAE ⟨WW, HH, SS, ss⟩ (lo, hi) ⟨(d1, d2), (l1, l2)⟩ cell (z1, z2) ws = E0 by rw [← hE0]; unfold runAE andE; simp [*])
   have EV := Lib.hid (show runV ⟨WW, HH, SS, ss⟩ (lo, hi) ⟨(d1, d2), (l1, l2)⟩ cell (z1, z2) ws = [] by unfold runV; rw [EE.out, if_neg hb0])
   have HE0 := Lib.hid hE0
   clear hE0 hb0
   have H0 := Lib.hid h0
   clear h0
   have H1 := Lib.hid h1
   clear h1
   have HDR := Lib.hid HD
   have HSS3 := Lib.hid hs
   have HWS := Lib.hid hl
   clear HD hs hl
   go_enter Tryd.func29, Tryd.ntmps29
   go_upto_region 1 with (fail)
   obtain ⟨Va1, hV⟩ : ∃ V, (((w.alloc (.cells #[.int .i64 (WW), .int .i64 (HH), .int .i64 (SS), .slice A ss.length c] 24)).alloc (.cells #[.int .i64 (lo), .int .i64 (hi)] 26)).alloc (.cells #[.int .i64 (d1), .int .i64 (d2), .int .i64 (l1), .int .i64 (l2)] 28)).alloc (.cells #[.int .i64 (z1), .int .i64 (z2)] 26) = V := ⟨_, rfl⟩
   have Kb6 : Hid (Blk Va1 (w.heap.size) 24 #[.int .i64 (WW), .int .i64 (HH), .int .i64 (SS), .slice A ss.length c]) := by rw [← hV]; exact (((Blk.new' _ _ _ (by simp)).alloc _).alloc _).alloc _
   have Kb7 : Hid (Blk Va1 (w.heap.size + 1) 26 #[.int .i64 (lo), .int .i64 (hi)]) := by rw [← hV]; exact ((Blk.new' _ _ _ (by simp)).alloc _).alloc _
   have Kb8 : Hid (Blk Va1 (w.heap.size + 1 + 1) 28 #[.int .i64 (d1), .int .i64 (d2), .int .i64 (l1), .int .i64 (l2)]) := by rw [← hV]; exact (Blk.new' _ _ _ (by simp)).alloc _
   have Kb10 : Hid (Blk Va1 (w.heap.size + 1 + 1 + 1) 26 #[.int .i64 (z1), .int .i64 (z2)]) := by rw [← hV]; exact Blk.new' _ _ _ (by simp)
   have GHB : Hid (Below w.heap.size w Va1) := by rw [← hV]; exact (by repeat (first | exact Below.refl _ _ | assumption | refine Below.drew ?_ | refine Below.drewN' ?_ _ | (refine Below.alloc ?_ (by simp <;> omega) _) | (refine Below.setCell ?_ (by simp <;> omega) _)))
   have HZ : Hid (Below w.heap.size w Va1) := GHB
   have GHDR := Lib.hid (HDR.out.later HZ.out)
   have GHSS3 := Lib.hid (HSS3.out.later HZ.out (Nat.le_refl _))
   have GHWS := Lib.hid (HWS.out.later HZ.out (Nat.le_refl _))
   rw [hV]
   clear hV HZ HDR HSS3 HWS
   have HB := GHB
   clear GHB
   have HDR := GHDR
   clear GHDR
   have HSS3 := GHSS3
   clear GHSS3
   have HWS := GHWS
   clear GHWS
   obtain ⟨b10, hqb10⟩ : ∃ b, w.heap.size + 1 + 1 + 1 = b := ⟨_, rfl⟩
   obtain ⟨b8, hqb8⟩ : ∃ b, w.heap.size + 1 + 1 = b := ⟨_, rfl⟩
   obtain ⟨b7, hqb7⟩ : ∃ b, w.heap.size + 1 = b := ⟨_, rfl⟩
   obtain ⟨b6, hqb6⟩ : ∃ b, w.heap.size = b := ⟨_, rfl⟩
   have gb6 : w.heap.size ≤ b6 := by omega
   have gb7 : w.heap.size ≤ b7 := by omega
   have nb7b6 : ¬ b7 = b6 := by omega
   have nb6b7 : ¬ b6 = b7 := by omega
   have gb8 : w.heap.size ≤ b8 := by omega
   have nb8b6 : ¬ b8 = b6 := by omega
   have nb6b8 : ¬ b6 = b8 := by omega
   have nb8b7 : ¬ b8 = b7 := by omega
   have nb7b8 : ¬ b7 = b8 := by omega
   have gb10 : w.heap.size ≤ b10 := by omega
   have nb10b6 : ¬ b10 = b6 := by omega
   have nb6b10 : ¬ b6 = b10 := by omega
   have nb10b7 : ¬ b10 = b7 := by omega
   have nb7b10 : ¬ b7 = b10 := by omega
   have nb10b8 : ¬ b10 = b8 := by omega
   have nb8b10 : ¬ b8 = b10 := by omega
   rw [hqb10] at Kb10 ⊢
   clear hqb10
   rw [hqb8] at Kb8 ⊢
   clear hqb8
   rw [hqb7] at Kb7 ⊢
   clear hqb7
   have HN : Hid (w.heap.size = b6) := hqb6
   rw [hqb6] at Kb6 ⊢
   clear hqb6
   have Hb6 := Kb6
   clear Kb6
   have Hb7 := Kb7
   clear Kb7
   have Hb8 := Kb8
   clear Kb8
   have Hb10 := Kb10
   clear Kb10
   have cb60 := kcl0 Hb6
   have cb61 := kcl1 Hb6
   have cb62 := kcl2 Hb6
   have cb63 := kcl3 Hb6
   have cb70 := kcl0 Hb7
   have cb71 := kcl1 Hb7
   have cb80 := kcl0 Hb8
   have cb81 := kcl1 Hb8
   have cb82 := kcl2 Hb8
   have cb83 := kcl3 Hb8
   go_wp2_with fail
   refine (checkPlace_any WW HH SS ss A c lo hi d1 d2 l1 l2 cell _ HSS3.out).mono ?_
   rintro e Va2 ⟨rfl, hb⟩
   have HZ := Lib.hid hb
   clear hb
   rw [H0.out]
   clear cb60 cb61 cb62 cb63 cb70 cb71 cb80 cb81 cb82 cb83
   replace Hb6 := kbl Hb6 HZ
   replace Hb7 := kbl Hb7 HZ
   replace Hb8 := kbl Hb8 HZ
   replace Hb10 := kbl Hb10 HZ
   replace HB := ktr' HB HZ
   replace HDR := Lib.hid (HDR.out.later HZ.out)
   replace HSS3 := Lib.hid (HSS3.out.later HZ.out (Nat.le_refl _))
   replace HWS := Lib.hid (HWS.out.later HZ.out (Nat.le_refl _))
   clear HZ
   have cb100 := kcl0 Hb10
   have cb101 := kcl1 Hb10
   go_wp2_with fail
   refine (checkRun_any z1 z2 _ _).mono ?_
   rintro e Va3 ⟨rfl, hb⟩
   have HZ := Lib.hid hb
   clear hb
   rw [HE0.out]
   clear cb100 cb101
   replace Hb6 := kbl Hb6 HZ
   replace Hb7 := kbl Hb7 HZ
   replace Hb8 := kbl Hb8 HZ
   replace Hb10 := kbl Hb10 HZ
   replace HB := ktr' HB HZ
   replace HDR := Lib.hid (HDR.out.later HZ.out)
   replace HSS3 := Lib.hid (HSS3.out.later HZ.out (Nat.le_refl _))
   replace HWS := Lib.hid (HWS.out.later HZ.out (Nat.le_refl _))
   clear HZ
   go_wp2
   refine bodyPost_ret (v := .tuple #[.slice none 0 0, .int .i64 E0]) (by simp [results, Tryd.results29, go_sem]) rfl ⟨_, by rw [EE.out], ?_, HB.out⟩
   rw [EV.out]
   exact Reads.nil _ _ _
 ·
  obtain ⟨E0, hE0⟩ : ∃ q, placeE ⟨WW, HH, SS, ss⟩ (lo, hi) ⟨(d1, d2), (l1, l2)⟩ cell = q := ⟨_, rfl⟩
  have hb0 : ¬ E0 = 0 := by rw [← hE0]; exact h0
  have hb1 : (E0 == 0) = false := beq_eq_false_iff_ne.2 hb0
  have EE := Lib.hid (show runAE ⟨WW, HH, SS, ss⟩ (lo, hi) ⟨(d1, d2), (l1, l2)⟩ cell (z1, z2) ws = E0 by rw [← hE0]; unfold runAE andE; simp [*])
  have EV := Lib.hid (show runV ⟨WW, HH, SS, ss⟩ (lo, hi) ⟨(d1, d2), (l1, l2)⟩ cell (z1, z2) ws = [] by unfold runV; rw [EE.out, if_neg hb0])
  have HE0 := Lib.hid hE0
  clear hE0 hb0
  have H0 := Lib.hid h0
  clear h0
  have HDR := Lib.hid HD
  have HSS3 := Lib.hid hs
  have HWS := Lib.hid hl
  clear HD hs hl
  go_enter Tryd.func29, Tryd.ntmps29
  go_upto_region 1 with (fail)
  obtain ⟨Va1, hV⟩ : ∃ V, (((w.alloc (.cells #[.int .i64 (WW), .int .i64 (HH), .int .i64 (SS), .slice A ss.length c] 24)).alloc (.cells #[.int .i64 (lo), .int .i64 (hi)] 26)).alloc (.cells #[.int .i64 (d1), .int .i64 (d2), .int .i64 (l1), .int .i64 (l2)] 28)).alloc (.cells #[.int .i64 (z1), .int .i64 (z2)] 26) = V := ⟨_, rfl⟩
  have Kb6 : Hid (Blk Va1 (w.heap.size) 24 #[.int .i64 (WW), .int .i64 (HH), .int .i64 (SS), .slice A ss.length c]) := by rw [← hV]; exact (((Blk.new' _ _ _ (by simp)).alloc _).alloc _).alloc _
  have Kb7 : Hid (Blk Va1 (w.heap.size + 1) 26 #[.int .i64 (lo), .int .i64 (hi)]) := by rw [← hV]; exact ((Blk.new' _ _ _ (by simp)).alloc _).alloc _
  have Kb8 : Hid (Blk Va1 (w.heap.size + 1 + 1) 28 #[.int .i64 (d1), .int .i64 (d2), .int .i64 (l1), .int .i64 (l2)]) := by rw [← hV]; exact (Blk.new' _ _ _ (by simp)).alloc _
  have Kb10 : Hid (Blk Va1 (w.heap.size + 1 + 1 + 1) 26 #[.int .i64 (z1), .int .i64 (z2)]) := by rw [← hV]; exact Blk.new' _ _ _ (by simp)
  have GHB : Hid (Below w.heap.size w Va1) := by rw [← hV]; exact (by repeat (first | exact Below.refl _ _ | assumption | refine Below.drew ?_ | refine Below.drewN' ?_ _ | (refine Below.alloc ?_ (by simp <;> omega) _) | (refine Below.setCell ?_ (by simp <;> omega) _)))
  have HZ : Hid (Below w.heap.size w Va1) := GHB
  have GHDR := Lib.hid (HDR.out.later HZ.out)
  have GHSS3 := Lib.hid (HSS3.out.later HZ.out (Nat.le_refl _))
  have GHWS := Lib.hid (HWS.out.later HZ.out (Nat.le_refl _))
  rw [hV]
  clear hV HZ HDR HSS3 HWS
  have HB := GHB
  clear GHB
  have HDR := GHDR
  clear GHDR
  have HSS3 := GHSS3
  clear GHSS3
  have HWS := GHWS
  clear GHWS
  obtain ⟨b10, hqb10⟩ : ∃ b, w.heap.size + 1 + 1 + 1 = b := ⟨_, rfl⟩
  obtain ⟨b8, hqb8⟩ : ∃ b, w.heap.size + 1 + 1 = b := ⟨_, rfl⟩
  obtain ⟨b7, hqb7⟩ : ∃ b, w.heap.size + 1 = b := ⟨_, rfl⟩
  obtain ⟨b6, hqb6⟩ : ∃ b, w.heap.size = b := ⟨_, rfl⟩
  have gb6 : w.heap.size ≤ b6 := by omega
  have gb7 : w.heap.size ≤ b7 := by omega
  have nb7b6 : ¬ b7 = b6 := by omega
  have nb6b7 : ¬ b6 = b7 := by omega
  have gb8 : w.heap.size ≤ b8 := by omega
  have nb8b6 : ¬ b8 = b6 := by omega
  have nb6b8 : ¬ b6 = b8 := by omega
  have nb8b7 : ¬ b8 = b7 := by omega
  have nb7b8 : ¬ b7 = b8 := by omega
  have gb10 : w.heap.size ≤ b10 := by omega
  have nb10b6 : ¬ b10 = b6 := by omega
  have nb6b10 : ¬ b6 = b10 := by omega
  have nb10b7 : ¬ b10 = b7 := by omega
  have nb7b10 : ¬ b7 = b10 := by omega
  have nb10b8 : ¬ b10 = b8 := by omega
  have nb8b10 : ¬ b8 = b10 := by omega
  rw [hqb10] at Kb10 ⊢
  clear hqb10
  rw [hqb8] at Kb8 ⊢
  clear hqb8
  rw [hqb7] at Kb7 ⊢
  clear hqb7
  have HN : Hid (w.heap.size = b6) := hqb6
  rw [hqb6] at Kb6 ⊢
  clear hqb6
  have Hb6 := Kb6
  clear Kb6
  have Hb7 := Kb7
  clear Kb7
  have Hb8 := Kb8
  clear Kb8
  have Hb10 := Kb10
  clear Kb10
  have cb60 := kcl0 Hb6
  have cb61 := kcl1 Hb6
  have cb62 := kcl2 Hb6
  have cb63 := kcl3 Hb6
  have cb70 := kcl0 Hb7
  have cb71 := kcl1 Hb7
  have cb80 := kcl0 Hb8
  have cb81 := kcl1 Hb8
  have cb82 := kcl2 Hb8
  have cb83 := kcl3 Hb8
  go_wp2_with fail
  refine (checkPlace_any WW HH SS ss A c lo hi d1 d2 l1 l2 cell _ HSS3.out).mono ?_
  rintro e Va2 ⟨rfl, hb⟩
  have HZ := Lib.hid hb
  clear hb
  rw [HE0.out]
  clear cb60 cb61 cb62 cb63 cb70 cb71 cb80 cb81 cb82 cb83
  replace Hb6 := kbl Hb6 HZ
  replace Hb7 := kbl Hb7 HZ
  replace Hb8 := kbl Hb8 HZ
  replace Hb10 := kbl Hb10 HZ
  replace HB := ktr' HB HZ
  replace HDR := Lib.hid (HDR.out.later HZ.out)
  replace HSS3 := Lib.hid (HSS3.out.later HZ.out (Nat.le_refl _))
  replace HWS := Lib.hid (HWS.out.later HZ.out (Nat.le_refl _))
  clear HZ
  go_wp2
  refine bodyPost_ret (v := .tuple #[.slice none 0 0, .int .i64 E0]) (by simp [results, Tryd.results29, go_sem]) rfl ⟨_, by rw [EE.out], ?_, HB.out⟩
  rw [EV.out]
  exact Reads.nil _ _ _
end Go.Proofs.YtdhcdgfpkjdihaaDoor.Sg
