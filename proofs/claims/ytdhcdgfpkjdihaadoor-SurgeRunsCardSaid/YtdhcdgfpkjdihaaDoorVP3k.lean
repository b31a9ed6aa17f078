/-
  Layer 3, the program: rise and setup.
-/
import Derived.Test.YtdhcdgfpkjdihaaDoorVP3j
set_option linter.unusedSimpArgs false
set_option linter.unusedVariables false
namespace Go.Proofs.YtdhcdgfpkjdihaaDoor.Sg
open Go.RowKit Go.Shelf
def Z3z : Oper := ⟨some 54, .load 110 (.tmp 5), 110, "setup.go:66", #[], none⟩
def Z40 : Oper := ⟨some 55, .load 110 (.tmp 5), 110, "setup.go:66", #[], none⟩
def Z41 : Oper := ⟨some 56, .move (.tmp 2), 3, "setup.go:66", #[], none⟩
def Z42 : Oper := ⟨some 57, .move (.tmp 3), 3, "setup.go:66", #[], none⟩
def Z43 : Oper := ⟨some 58, .call { callee := Callee.value (.func 59), args := #[.tmp 55, .tmp 56, .tmp 57, .func 60], argTypes := #[110, 3, 3, 115] }, 113, "setup.go:67", #[⟨1, .data⟩, ⟨2, .data⟩, ⟨3, .data⟩], none⟩
def Z44 : Oper := ⟨some 59, .move (.tmp 14), 165, "setup.go:66", #[], none⟩
def Z45 : Oper := ⟨some 60, .call { callee := Callee.value (.func 135), args := #[.tmp 54, .tmp 58, .tmp 59], argTypes := #[110, 113, 165] }, 3, "setup.go:67", #[⟨0, .data⟩, ⟨4, .data⟩, ⟨5, .data⟩, ⟨4, .chain⟩], none⟩
def Z46 : Oper := ⟨some 61, .load 110 (.tmp 5), 110, "setup.go:66", #[], none⟩
def Z47 : Oper := ⟨some 62, .load 110 (.tmp 5), 110, "setup.go:66", #[], none⟩
def Z48 : Oper := ⟨some 63, .move (.tmp 2), 3, "setup.go:66", #[], none⟩
def Z49 : Oper := ⟨some 64, .move (.tmp 3), 3, "setup.go:66", #[], none⟩
def Z4a : Oper := ⟨some 65, .call { callee := Callee.value (.func 59), args := #[.tmp 62, .tmp 63, .tmp 64, .func 61], argTypes := #[110, 3, 3, 115] }, 113, "setup.go:68", #[⟨8, .data⟩, ⟨9, .data⟩, ⟨10, .data⟩, ⟨6, .chain⟩], none⟩
def Z4b : Oper := ⟨some 66, .move (.tmp 15), 165, "setup.go:66", #[], none⟩
def Z4c : Oper := ⟨some 67, .call { callee := Callee.value (.func 135), args := #[.tmp 61, .tmp 65, .tmp 66], argTypes := #[110, 113, 165] }, 3, "setup.go:68", #[⟨7, .data⟩, ⟨11, .data⟩, ⟨12, .data⟩, ⟨11, .chain⟩], none⟩
def Z4d : Oper := ⟨some 68, .build 26 #[(0, .tmp 60), (1, .tmp 67)], 26, "setup.go:66", #[⟨6, .data⟩, ⟨13, .data⟩], none⟩
def Z4e : Oper := ⟨some 69, .build 108 #[(0, .tmp 68)], 108, "setup.go:66", #[⟨14, .data⟩], none⟩
def Z4f : Oper := ⟨none, .store 108 (.tmp 10) (.tmp 69), 0, "setup.go:66", #[⟨15, .data⟩, ⟨13, .chain⟩, ⟨0, .phase⟩, ⟨1, .phase⟩, ⟨2, .phase⟩, ⟨3, .phase⟩, ⟨4, .phase⟩, ⟨5, .phase⟩, ⟨6, .phase⟩, ⟨7, .phase⟩, ⟨8, .phase⟩, ⟨9, .phase⟩, ⟨10, .phase⟩, ⟨11, .phase⟩, ⟨12, .phase⟩, ⟨13, .phase⟩, ⟨14, .phase⟩, ⟨15, .phase⟩], none⟩
def Z4g : Oper := ⟨some 11, .load 110 (.tmp 5), 110, "setup.go:55", #[], none⟩
def Z4h : Oper := ⟨some 12, .load 28 (.tmp 6), 28, "setup.go:55", #[], none⟩
def Z4i : Oper := ⟨some 13, .move (.tmp 2), 3, "setup.go:55", #[], none⟩
def Z4j : Oper := ⟨some 14, .move (.tmp 3), 3, "setup.go:55", #[], none⟩
def Z4k : Oper := ⟨some 15, .call { callee := Callee.value (.func 111), args := #[.tmp 14], argTypes := #[3] }, 3, "setup.go:55", #[⟨3, .data⟩], none⟩
def Z4l : Oper := ⟨some 16, .load 26 (.tmp 9), 26, "setup.go:55", #[], none⟩
def Z4m : Oper := ⟨some 17, .call { callee := Callee.value (.func 110), args := #[.tmp 11, .tmp 12, .tmp 13, .tmp 15, .tmp 16], argTypes := #[110, 28, 3, 3, 26] }, 108, "setup.go:55", #[⟨0, .data⟩, ⟨1, .data⟩, ⟨2, .data⟩, ⟨4, .data⟩, ⟨5, .data⟩, ⟨4, .chain⟩], none⟩
def Z4n : Oper := ⟨some 18, .load 110 (.tmp 5), 110, "setup.go:55", #[], none⟩
def Z4o : Oper := ⟨some 19, .load 28 (.tmp 6), 28, "setup.go:55", #[], none⟩
def Z4p : Oper := ⟨some 20, .move (.tmp 2), 3, "setup.go:55", #[], none⟩
def Z4q : Oper := ⟨some 21, .move (.tmp 3), 3, "setup.go:55", #[], none⟩
def Z4r : Oper := ⟨some 22, .load 26 (.tmp 9), 26, "setup.go:55", #[], none⟩
def Z4s : Oper := ⟨some 23, .call { callee := Callee.value (.func 110), args := #[.tmp 18, .tmp 19, .tmp 20, .tmp 21, .tmp 22], argTypes := #[110, 28, 3, 3, 26] }, 108, "setup.go:55", #[⟨7, .data⟩, ⟨8, .data⟩, ⟨9, .data⟩, ⟨10, .data⟩, ⟨11, .data⟩, ⟨6, .chain⟩], none⟩
def Z4t : Oper := ⟨some 24, .call { callee := Callee.value (.func 92), args := #[.tmp 17, .tmp 23], argTypes := #[108, 108] }, 108, "setup.go:55", #[⟨6, .data⟩, ⟨12, .data⟩, ⟨12, .chain⟩], none⟩
def Z4u : Oper := ⟨none, .store 108 (.tmp 10) (.tmp 24), 0, "setup.go:55", #[⟨13, .data⟩, ⟨13, .chain⟩, ⟨0, .phase⟩, ⟨1, .phase⟩, ⟨2, .phase⟩, ⟨3, .phase⟩, ⟨4, .phase⟩, ⟨5, .phase⟩, ⟨6, .phase⟩, ⟨7, .phase⟩, ⟨8, .phase⟩, ⟨9, .phase⟩, ⟨10, .phase⟩, ⟨11, .phase⟩, ⟨12, .phase⟩, ⟨13, .phase⟩], none⟩
set_option maxRecDepth 100000 in
set_option maxHeartbeats 8000000 in
theorem rise_any (WW HH SS : Int) (ss : List (Int × Int)) (A : Option Addr) (c : Nat) (lo hi d1 d2 l1 l2 : Int) (cell d : Nat) (s1 s2 : Int) (w : World) (HD : DirsAt w) (hs : SpansAt w w.heap.size (.slice A ss.length c) ss) (hE : checkE ⟨WW, HH, SS, ss⟩ = 0) (hse : spOk (-20000) 20000 (lo, hi) = true) (hm : moE ⟨(d1, d2), (l1, l2)⟩ = 0) (hsp : spOk 0 10000 (s1, s2) = true) (hd : d < 8) (hc : cell < ss.length) :
 Calls Tryd.prog 110 #[.agg #[.int .i64 (WW), .int .i64 (HH), .int .i64 (SS), .slice A ss.length c, .int .i64 (lo), .int .i64 (hi)], .agg #[.int .i64 (d1), .int .i64 (d2), .int .i64 (l1), .int .i64 (l2)], .int .i64 (cell : Int), .int .i64 (d : Int), .agg #[.int .i64 s1, .int .i64 s2]] w fun e w' => e = .returned (.agg #[.int .i64 (riseZ ⟨WW, HH, SS, ss⟩ (lo, hi) ⟨(d1, d2), (l1, l2)⟩ (cell : Int) d (s1, s2)).1, .int .i64 (riseZ ⟨WW, HH, SS, ss⟩ (lo, hi) ⟨(d1, d2), (l1, l2)⟩ (cell : Int) d (s1, s2)).2]) ∧ Below w.heap.size w w' := by
 obtain ⟨hW, hH, hS, hLen, -⟩ := checkE_zero hE
 have hm1 := spOk_iff.1 (moE_zero hm).1
 have hs1 := spOk_iff.1 hsp
 have hn := n_rng d
 simp only at hW hH hS hLen hm1 hs1
 have b1 := num_bd (d := d1) (s := s1) (n := nLo d) (S := SS) (by omega) (by omega) (by omega) (by omega) (by omega) (by omega) (by omega) (by omega)
 have b2 := num_bd (d := d2) (s := s2) (n := nHi d) (S := SS) (by omega) (by omega) (by omega) (by omega) (by omega) (by omega) (by omega) (by omega)
 have hv : riseZ ⟨WW, HH, SS, ss⟩ (lo, hi) ⟨(d1, d2), (l1, l2)⟩ (cell : Int) d (s1, s2) = (sumZ (fun c => d1 * s1 * s1 * nLo d * SS / (3832031250 * (dpZ ⟨WW, HH, SS, ss⟩ (lo, hi) c).2)) (fetchZ (sureB ⟨WW, HH, SS, ss⟩ (lo, hi)) ⟨WW, HH, SS, ss⟩ (cell : Int) d), sumZ (fun c => upQ (d2 * s2 * s2 * nHi d * SS) (3832031250 * max (dpZ ⟨WW, HH, SS, ss⟩ (lo, hi) c).1 1)) (fetchZ (mayB ⟨WW, HH, SS, ss⟩ (lo, hi)) ⟨WW, HH, SS, ss⟩ (cell : Int) d)) := rfl
 rw [hv]
 clear hv
 have hmf : ∀ (fn : Fn) (first cap : Array Value) (w : World), (Instr.makeFunc fn first cap).run Tryd.prog w = .ok (.func fn first cap) w := fun _ _ _ _ => rfl
 obtain ⟨n1, hn1⟩ : ∃ z, nLo d = z := ⟨_, rfl⟩
 obtain ⟨n2, hn2⟩ : ∃ z, nHi d = z := ⟨_, rfl⟩
 rw [hn1, hn2] at hn
 rw [hn1] at b1
 rw [hn2] at b2
 rw [hn1, hn2]
 have HN1 := Lib.hid hn1
 have HN2 := Lib.hid hn2
 clear hn1 hn2
 have wr0 : IntKind.i64.wrap (d1 * s1) = d1 * s1 := IntWalk.i64_in _ (by omega)
 have wr1 : IntKind.i64.wrap (d1 * s1 * s1) = d1 * s1 * s1 := IntWalk.i64_in _ (by omega)
 have wr2 : IntKind.i64.wrap (d1 * s1 * s1 * n1) = d1 * s1 * s1 * n1 := IntWalk.i64_in _ (by omega)
 have wr3 : IntKind.i64.wrap (d1 * s1 * s1 * n1 * SS) = d1 * s1 * s1 * n1 * SS := IntWalk.i64_in _ (by omega)
 have wr4 : IntKind.i64.wrap (d2 * s2) = d2 * s2 := IntWalk.i64_in _ (by omega)
 have wr5 : IntKind.i64.wrap (d2 * s2 * s2) = d2 * s2 * s2 := IntWalk.i64_in _ (by omega)
 have wr6 : IntKind.i64.wrap (d2 * s2 * s2 * n2) = d2 * s2 * s2 * n2 := IntWalk.i64_in _ (by omega)
 have wr7 : IntKind.i64.wrap (d2 * s2 * s2 * n2 * SS) = d2 * s2 * s2 * n2 * SS := IntWalk.i64_in _ (by omega)
 obtain ⟨P, hP⟩ : ∃ z, d1 * s1 * s1 * n1 * SS = z := ⟨_, rfl⟩
 obtain ⟨Q, hQ⟩ : ∃ z, d2 * s2 * s2 * n2 * SS = z := ⟨_, rfl⟩
 rw [hP] at b1 wr3
 rw [hQ] at b2 wr7
 rw [hP, hQ]
 have hPb : 0 ≤ P ∧ P ≤ 2000000000000000000 := by omega
 have hQb : 0 ≤ Q ∧ Q ≤ 2000000000000000000 := by omega
 obtain ⟨A1, hA1⟩ : ∃ z, sumZ (fun c => P / (3832031250 * (dpZ ⟨WW, HH, SS, ss⟩ (lo, hi) c).2)) (fetchZ (sureB ⟨WW, HH, SS, ss⟩ (lo, hi)) ⟨WW, HH, SS, ss⟩ (cell : Int) d) = z := ⟨_, rfl⟩
 obtain ⟨A2, hA2⟩ : ∃ z, sumZ (fun c => upQ Q (3832031250 * max (dpZ ⟨WW, HH, SS, ss⟩ (lo, hi) c).1 1)) (fetchZ (mayB ⟨WW, HH, SS, ss⟩ (lo, hi)) ⟨WW, HH, SS, ss⟩ (cell : Int) d) = z := ⟨_, rfl⟩
 rw [hA1, hA2]
 have HA1 := Lib.hid hA1
 have HA2 := Lib.hid hA2
 have HE := Lib.hid hE
 have HSE := Lib.hid hse
 have HDR := Lib.hid HD
 have HSS3 := Lib.hid hs
 clear hA1 hA2 hE hse HD hs hm hsp b1 b2
 go_enter Tryd.func110, Tryd.ntmps110
 go_upto_region 1 with (fail)
 obtain ⟨Va1, hV⟩ : ∃ V, (((w.alloc (.cells #[.int .i64 (WW), .int .i64 (HH), .int .i64 (SS), .slice A ss.length c, .int .i64 (lo), .int .i64 (hi)] 110)).alloc (.cells #[.int .i64 (d1), .int .i64 (d2), .int .i64 (l1), .int .i64 (l2)] 28)).alloc (.cells #[.int .i64 (s1), .int .i64 (s2)] 26)).alloc (.cells #[.int .i64 (0), .int .i64 (0)] 108) = V := ⟨_, rfl⟩
 have Kb5 : Hid (Blk Va1 (w.heap.size) 110 #[.int .i64 (WW), .int .i64 (HH), .int .i64 (SS), .slice A ss.length c, .int .i64 (lo), .int .i64 (hi)]) := by rw [← hV]; exact (((Blk.new' _ _ _ (by simp)).alloc _).alloc _).alloc _
 have Kb6 : Hid (Blk Va1 (w.heap.size + 1) 28 #[.int .i64 (d1), .int .i64 (d2), .int .i64 (l1), .int .i64 (l2)]) := by rw [← hV]; exact ((Blk.new' _ _ _ (by simp)).alloc _).alloc _
 have Kb9 : Hid (Blk Va1 (w.heap.size + 1 + 1) 26 #[.int .i64 (s1), .int .i64 (s2)]) := by rw [← hV]; exact (Blk.new' _ _ _ (by simp)).alloc _
 have Kb10 : Hid (Blk Va1 (w.heap.size + 1 + 1 + 1) 108 #[.int .i64 (0), .int .i64 (0)]) := by rw [← hV]; exact Blk.new' _ _ _ (by simp)
 have GHB : Hid (Below w.heap.size w Va1) := by rw [← hV]; exact (by repeat (first | exact Below.refl _ _ | assumption | refine Below.drew ?_ | refine Below.drewN' ?_ _ | (refine Below.alloc ?_ (by simp <;> omega) _) | (refine Below.setCell ?_ (by simp <;> omega) _)))
 have HZ : Hid (Below w.heap.size w Va1) := GHB
 have GHDR := Lib.hid (HDR.out.later HZ.out)
 have GHSS3 := Lib.hid (HSS3.out.later HZ.out (Nat.le_refl _))
 rw [hV]
 clear hV HZ HDR HSS3
 have HB := GHB
 clear GHB
 have HDR := GHDR
 clear GHDR
 have HSS3 := GHSS3
 clear GHSS3
 obtain ⟨b10, hqb10⟩ : ∃ b, w.heap.size + 1 + 1 + 1 = b := ⟨_, rfl⟩
 obtain ⟨b9, hqb9⟩ : ∃ b, w.heap.size + 1 + 1 = b := ⟨_, rfl⟩
 obtain ⟨b6, hqb6⟩ : ∃ b, w.heap.size + 1 = b := ⟨_, rfl⟩
 obtain ⟨b5, hqb5⟩ : ∃ b, w.heap.size = b := ⟨_, rfl⟩
 have gb5 : w.heap.size ≤ b5 := by omega
 have gb6 : w.heap.size ≤ b6 := by omega
 have nb6b5 : ¬ b6 = b5 := by omega
 have nb5b6 : ¬ b5 = b6 := by omega
 have gb9 : w.heap.size ≤ b9 := by omega
 have nb9b5 : ¬ b9 = b5 := by omega
 have nb5b9 : ¬ b5 = b9 := by omega
 have nb9b6 : ¬ b9 = b6 := by omega
 have nb6b9 : ¬ b6 = b9 := by omega
 have gb10 : w.heap.size ≤ b10 := by omega
 have nb10b5 : ¬ b10 = b5 := by omega
 have nb5b10 : ¬ b5 = b10 := by omega
 have nb10b6 : ¬ b10 = b6 := by omega
 have nb6b10 : ¬ b6 = b10 := by omega
 have nb10b9 : ¬ b10 = b9 := by omega
 have nb9b10 : ¬ b9 = b10 := by omega
 rw [hqb10] at Kb10 ⊢
 clear hqb10
 rw [hqb9] at Kb9 ⊢
 clear hqb9
 rw [hqb6] at Kb6 ⊢
 clear hqb6
 have HN : Hid (w.heap.size = b5) := hqb5
 rw [hqb5] at Kb5 ⊢
 clear hqb5
 have Hb5 := Kb5
 clear Kb5
 have Hb6 := Kb6
 clear Kb6
 have Hb9 := Kb9
 clear Kb9
 have Hb10 := Kb10
 clear Kb10
 go_wp2_with fail
 refine (across_any d hd _).mono ?_
 rintro e Va2 ⟨rfl, hb⟩
 have HZ := Lib.hid hb
 clear hb
 rw [HN1.out, HN2.out]
 replace Hb5 := kbl Hb5 HZ
 replace Hb6 := kbl Hb6 HZ
 replace Hb9 := kbl Hb9 HZ
 replace Hb10 := kbl Hb10 HZ
 replace HB := ktr' HB HZ
 replace HDR := Lib.hid (HDR.out.later HZ.out)
 replace HSS3 := Lib.hid (HSS3.out.later HZ.out (Nat.le_refl _))
 clear HZ
 go_upto_region 2 with (fail)
 obtain ⟨Va3, hV⟩ : ∃ X, Va2.alloc (.cells #[.int .i64 (n1), .int .i64 (n2)] 108) = X := ⟨_, rfl⟩
 have hnew : Blk Va3 Va2.heap.size 108 #[.int .i64 (n1), .int .i64 (n2)] := by rw [← hV]; exact (Blk.new' _ _ _ rfl)
 have hz : Below Va2.heap.size Va2 Va3 := by rw [← hV]; exact ((Below.refl _ _).alloc (Nat.le_refl _) _)
 have hgn := HB.out.size
 have lb5 := Hb5.out.lt
 have lb6 := Hb6.out.lt
 have lb9 := Hb9.out.lt
 have lb10 := Hb10.out.lt
 rw [hV]
 obtain ⟨b11, hbx⟩ : ∃ b, Va2.heap.size = b := ⟨_, rfl⟩
 rw [hbx] at hnew hgn lb5 lb6 lb9 lb10 ⊢
 have gb11 : w.heap.size ≤ b11 := hgn
 have HZ := Lib.hid hz
 have nb5b11 : ¬ b5 = b11 := by omega
 have nb11b5 : ¬ b11 = b5 := by omega
 have nb6b11 : ¬ b6 = b11 := by omega
 have nb11b6 : ¬ b11 = b6 := by omega
 have nb9b11 : ¬ b9 = b11 := by omega
 have nb11b9 : ¬ b11 = b9 := by omega
 have nb10b11 : ¬ b10 = b11 := by omega
 have nb11b10 : ¬ b11 = b10 := by omega
 clear hV hz hgn hbx lb5 lb6 lb9 lb10
 replace Hb5 := kbl Hb5 HZ
 replace Hb6 := kbl Hb6 HZ
 replace Hb9 := kbl Hb9 HZ
 replace Hb10 := kbl Hb10 HZ
 replace HB := ktr' HB HZ
 replace HDR := Lib.hid (HDR.out.later HZ.out)
 replace HSS3 := Lib.hid (HSS3.out.later HZ.out (Nat.le_refl _))
 clear HZ
 have Hb11 := Lib.hid hnew
 clear hnew
 have cb50 := kcl0 Hb5
 have cb51 := kcl1 Hb5
 have cb52 := kcl2 Hb5
 have cb53 := kcl3 Hb5
 have cb54 := kcl4 Hb5
 have cb55 := kcl5 Hb5
 have cb60 := kcl0 Hb6
 have cb61 := kcl1 Hb6
 have cb62 := kcl2 Hb6
 have cb63 := kcl3 Hb6
 have cb90 := kcl0 Hb9
 have cb91 := kcl1 Hb9
 have cb110 := kcl0 Hb11
 have cb111 := kcl1 Hb11
 go_upto_region 3 with (fail)
 clear cb50 cb51 cb52 cb53 cb54 cb55 cb60 cb61 cb62 cb63 cb90 cb91 cb110 cb111
 obtain ⟨Va4, hV⟩ : ∃ X, Va3.alloc (.cells #[.int .i64 (P)] 3) = X := ⟨_, rfl⟩
 have hnew : Blk Va4 Va3.heap.size 3 #[.int .i64 (P)] := by rw [← hV]; exact (Blk.new' _ _ _ rfl)
 have hz : Below Va3.heap.size Va3 Va4 := by rw [← hV]; exact ((Below.refl _ _).alloc (Nat.le_refl _) _)
 have hgn := HB.out.size
 have lb5 := Hb5.out.lt
 have lb6 := Hb6.out.lt
 have lb9 := Hb9.out.lt
 have lb10 := Hb10.out.lt
 have lb11 := Hb11.out.lt
 rw [hV]
 obtain ⟨b12, hbx⟩ : ∃ b, Va3.heap.size = b := ⟨_, rfl⟩
 rw [hbx] at hnew hgn lb5 lb6 lb9 lb10 lb11 ⊢
 have gb12 : w.heap.size ≤ b12 := hgn
 have HZ := Lib.hid hz
 have nb5b12 : ¬ b5 = b12 := by omega
 have nb12b5 : ¬ b12 = b5 := by omega
 have nb6b12 : ¬ b6 = b12 := by omega
 have nb12b6 : ¬ b12 = b6 := by omega
 have nb9b12 : ¬ b9 = b12 := by omega
 have nb12b9 : ¬ b12 = b9 := by omega
 have nb10b12 : ¬ b10 = b12 := by omega
 have nb12b10 : ¬ b12 = b10 := by omega
 have nb11b12 : ¬ b11 = b12 := by omega
 have nb12b11 : ¬ b12 = b11 := by omega
 clear hV hz hgn hbx lb5 lb6 lb9 lb10 lb11
 replace Hb5 := kbl Hb5 HZ
 replace Hb6 := kbl Hb6 HZ
 replace Hb9 := kbl Hb9 HZ
 replace Hb10 := kbl Hb10 HZ
 replace Hb11 := kbl Hb11 HZ
 replace HB := ktr' HB HZ
 replace HDR := Lib.hid (HDR.out.later HZ.out)
 replace HSS3 := Lib.hid (HSS3.out.later HZ.out (Nat.le_refl _))
 clear HZ
 have Hb12 := Lib.hid hnew
 clear hnew
 have cb50 := kcl0 Hb5
 have cb51 := kcl1 Hb5
 have cb52 := kcl2 Hb5
 have cb53 := kcl3 Hb5
 have cb54 := kcl4 Hb5
 have cb55 := kcl5 Hb5
 have cb60 := kcl0 Hb6
 have cb61 := kcl1 Hb6
 have cb62 := kcl2 Hb6
 have cb63 := kcl3 Hb6
 have cb90 := kcl0 Hb9
 have cb91 := kcl1 Hb9
 have cb110 := kcl0 Hb11
 have cb111 := kcl1 Hb11
 go_upto_region 6 with (fail)
 clear cb50 cb51 cb52 cb53 cb54 cb55 cb60 cb61 cb62 cb63 cb90 cb91 cb110 cb111
 obtain ⟨Va5, hV⟩ : ∃ X, Va4.alloc (.cells #[.int .i64 (Q)] 3) = X := ⟨_, rfl⟩
 have hnew : Blk Va5 Va4.heap.size 3 #[.int .i64 (Q)] := by rw [← hV]; exact (Blk.new' _ _ _ rfl)
 have hz : Below Va4.heap.size Va4 Va5 := by rw [← hV]; exact ((Below.refl _ _).alloc (Nat.le_refl _) _)
 have hgn := HB.out.size
 have lb5 := Hb5.out.lt
 have lb6 := Hb6.out.lt
 have lb9 := Hb9.out.lt
 have lb10 := Hb10.out.lt
 have lb11 := Hb11.out.lt
 have lb12 := Hb12.out.lt
 rw [hV]
 obtain ⟨b13, hbx⟩ : ∃ b, Va4.heap.size = b := ⟨_, rfl⟩
 rw [hbx] at hnew hgn lb5 lb6 lb9 lb10 lb11 lb12 ⊢
 have gb13 : w.heap.size ≤ b13 := hgn
 have HZ := Lib.hid hz
 have nb5b13 : ¬ b5 = b13 := by omega
 have nb13b5 : ¬ b13 = b5 := by omega
 have nb6b13 : ¬ b6 = b13 := by omega
 have nb13b6 : ¬ b13 = b6 := by omega
 have nb9b13 : ¬ b9 = b13 := by omega
 have nb13b9 : ¬ b13 = b9 := by omega
 have nb10b13 : ¬ b10 = b13 := by omega
 have nb13b10 : ¬ b13 = b10 := by omega
 have nb11b13 : ¬ b11 = b13 := by omega
 have nb13b11 : ¬ b13 = b11 := by omega
 have nb12b13 : ¬ b12 = b13 := by omega
 have nb13b12 : ¬ b13 = b12 := by omega
 clear hV hz hgn hbx lb5 lb6 lb9 lb10 lb11 lb12
 replace Hb5 := kbl Hb5 HZ
 replace Hb6 := kbl Hb6 HZ
 replace Hb9 := kbl Hb9 HZ
 replace Hb10 := kbl Hb10 HZ
 replace Hb11 := kbl Hb11 HZ
 replace Hb12 := kbl Hb12 HZ
 replace HB := ktr' HB HZ
 replace HDR := Lib.hid (HDR.out.later HZ.out)
 replace HSS3 := Lib.hid (HSS3.out.later HZ.out (Nat.le_refl _))
 clear HZ
 have Hb13 := Lib.hid hnew
 clear hnew
 have HDQ := HDR
 have HSQ := HSS3
 have HPQ : Hid (∀ U, Below Va5.heap.size Va5 U → (DirsAt U ∧ SpansAt U U.heap.size (.slice A ss.length c) ss) ∧ Blk U b12 3 #[.int .i64 P] ∧ Blk U b13 3 #[.int .i64 Q]) := fun U hU => ⟨⟨HDQ.out.later hU, HSQ.out.later hU (Nat.le_refl _)⟩, Hb12.out.below hU Hb12.out.lt, Hb13.out.below hU Hb13.out.lt⟩
 clear HDR HSS3 HDQ HSQ
 have HSV : Hid (∀ U, Below Va5.heap.size Va5 U → U.cell? ⟨b5, 0, none⟩ = some (.int .i64 (WW)) ∧ U.cell? ⟨b5, 1, none⟩ = some (.int .i64 (HH)) ∧ U.cell? ⟨b5, 2, none⟩ = some (.int .i64 (SS)) ∧ U.cell? ⟨b5, 3, none⟩ = some (.slice A ss.length c) ∧ U.cell? ⟨b5, 4, none⟩ = some (.int .i64 (lo)) ∧ U.cell? ⟨b5, 5, none⟩ = some (.int .i64 (hi))) := fun U hU => by
  have kb5 := Hb5.out.below hU Hb5.out.lt
  exact ⟨kb5.cell 0, kb5.cell 1, kb5.cell 2, kb5.cell 3, kb5.cell 4, kb5.cell 5⟩
 have k0 := HSV.out _ (Below.drew (Below.refl Va5.heap.size Va5))
 refine wp_region_noPanic ?_
 refine wp_region_L (S := (fun w' => w'.cell? ⟨b5, 0, none⟩ = some (.int .i64 (WW)) ∧ w'.cell? ⟨b5, 1, none⟩ = some (.int .i64 (HH)) ∧ w'.cell? ⟨b5, 2, none⟩ = some (.int .i64 (SS)) ∧ w'.cell? ⟨b5, 3, none⟩ = some (.slice A ss.length c) ∧ w'.cell? ⟨b5, 4, none⟩ = some (.int .i64 (lo)) ∧ w'.cell? ⟨b5, 5, none⟩ = some (.int .i64 (hi)))) (ks := [16]) (by kernel_rfl) ?_ (fun hHeld => ?_)
 · (try dsimp only); (exact k0)
 refine tL 0 Z3z ?_ ?_ ?_
 rotate_left
 · ((intro w hSw; delta Z3z; (try dsimp only at hSw); go_simp) <;> with_reducible rfl)
 try simp only [Z3z, ksz]
 refine tL 1 Z40 ?_ ?_ ?_
 rotate_left
 · ((intro w hSw; delta Z40; (try dsimp only at hSw); go_simp) <;> with_reducible rfl)
 try simp only [Z40, ksz]
 refine tL 2 Z41 ?_ ?_ ?_
 rotate_left
 · ((intro w hSw; delta Z41; (try dsimp only at hSw); go_simp) <;> with_reducible rfl)
 try simp only [Z41, ksz]
 refine tL 3 Z42 ?_ ?_ ?_
 rotate_left
 · ((intro w hSw; delta Z42; (try dsimp only at hSw); go_simp) <;> with_reducible rfl)
 try simp only [Z42, ksz]
 refine tL 5 Z44 ?_ ?_ ?_
 rotate_left
 · ((intro w hSw; delta Z44; (try dsimp only at hSw); go_simp) <;> with_reducible rfl)
 try simp only [Z44, ksz]
 refine tL 7 Z46 ?_ ?_ ?_
 rotate_left
 · ((intro w hSw; delta Z46; (try dsimp only at hSw); go_simp) <;> with_reducible rfl)
 try simp only [Z46, ksz]
 refine tL 8 Z47 ?_ ?_ ?_
 rotate_left
 · ((intro w hSw; delta Z47; (try dsimp only at hSw); go_simp) <;> with_reducible rfl)
 try simp only [Z47, ksz]
 refine tL 9 Z48 ?_ ?_ ?_
 rotate_left
 · ((intro w hSw; delta Z48; (try dsimp only at hSw); go_simp) <;> with_reducible rfl)
 try simp only [Z48, ksz]
 refine tL 10 Z49 ?_ ?_ ?_
 rotate_left
 · ((intro w hSw; delta Z49; (try dsimp only at hSw); go_simp) <;> with_reducible rfl)
 try simp only [Z49, ksz]
 refine tL 12 Z4b ?_ ?_ ?_
 rotate_left
 · ((intro w hSw; delta Z4b; (try dsimp only at hSw); go_simp) <;> with_reducible rfl)
 try simp only [Z4b, ksz]
 obtain ⟨W0, hW0⟩ : ∃ V, Va5.drew = V := ⟨_, rfl⟩; rw [hW0] at hHeld ⊢; have HB0 : Hid (Below Va5.heap.size Va5 W0) := (by rw [← hW0]; exact Below.drew (Below.refl _ _)); clear hW0
 refine wpAnyL_ready (rs := [4]) (by kernel_rfl) (by simp) ?_
 refine AllReadyL.cons (o := Z43) rfl (fun K hK => ?_) AllReadyL.nil
 delta Z43
 go_simp
 (refine (fetch_any WW HH SS lo hi _ ⟨_, _, _, rfl⟩ (cell : Int) d _ hd _ (HPQ.out _ HB0.out).1.1).mono ?_; rintro e W1 ⟨q5, q9, q11, q10, q7, q4, rfl, hf, hb⟩; have HFF := Lib.hid hf; clear hf; have HB1 := Lib.hid (HB0.out.trans (hb.mono HB0.out.size)); clear hb)
 refine hK.out _ _ ?_ (fun hHeld => ?_)
 · (try dsimp only); (exact HSV.out _ HB1.out)
 clear hK K
 try simp only [Z43, ksz]
 refine wpAnyL_ready (rs := [6]) (by kernel_rfl) (by simp) ?_
 refine AllReadyL.cons (o := Z45) rfl (fun K hK => ?_) AllReadyL.nil
 delta Z45
 go_simp
 (refine (sumS_any ⟨WW, HH, SS, ss⟩ A c lo hi cell d q5 q9 q11 q10 q7 q4 b12 P _ HFF.out (HPQ.out _ HB1.out).1.2 (HPQ.out _ HB1.out).2.1 hPb HE.out HSE.out hd hc).mono ?_; rintro e W2 ⟨rfl, hb⟩; have HB2 := Lib.hid (HB1.out.trans (hb.mono HB1.out.size)); clear hb; rw [HA1.out]; clear HFF)
 refine hK.out _ _ ?_ (fun hHeld => ?_)
 · (try dsimp only); (exact HSV.out _ HB2.out)
 clear hK K
 try simp only [Z45, ksz]
 refine wpAnyL_ready (rs := [11]) (by kernel_rfl) (by simp) ?_
 refine AllReadyL.cons (o := Z4a) rfl (fun K hK => ?_) AllReadyL.nil
 delta Z4a
 go_simp
 (refine (fetch_any WW HH SS lo hi _ ⟨_, _, _, rfl⟩ (cell : Int) d _ hd _ (HPQ.out _ HB2.out).1.1).mono ?_; rintro e W3 ⟨q5, q9, q11, q10, q7, q4, rfl, hf, hb⟩; have HFF := Lib.hid hf; clear hf; have HB3 := Lib.hid (HB2.out.trans (hb.mono HB2.out.size)); clear hb)
 refine hK.out _ _ ?_ (fun hHeld => ?_)
 · (try dsimp only); (exact HSV.out _ HB3.out)
 clear hK K
 try simp only [Z4a, ksz]
 refine wpAnyL_ready (rs := [13]) (by kernel_rfl) (by simp) ?_
 refine AllReadyL.cons (o := Z4c) rfl (fun K hK => ?_) AllReadyL.nil
 delta Z4c
 go_simp
 (refine (sumM_any ⟨WW, HH, SS, ss⟩ A c lo hi cell d q5 q9 q11 q10 q7 q4 b13 Q _ HFF.out (HPQ.out _ HB3.out).1.2 (HPQ.out _ HB3.out).2.2 hQb HE.out HSE.out hd hc).mono ?_; rintro e W4 ⟨rfl, hb⟩; have HB4 := Lib.hid (HB3.out.trans (hb.mono HB3.out.size)); clear hb; rw [HA2.out]; clear HFF)
 refine hK.out _ _ ?_ (fun hHeld => ?_)
 · (try dsimp only); (exact HSV.out _ HB4.out)
 clear hK K
 try simp only [Z4c, ksz]
 refine tL 14 Z4d ?_ ?_ ?_
 rotate_left
 · ((intro w hSw; delta Z4d; (try dsimp only at hSw); go_simp) <;> with_reducible rfl)
 try simp only [Z4d, ksz]
 refine tL 15 Z4e ?_ ?_ ?_
 rotate_left
 · ((intro w hSw; delta Z4e; (try dsimp only at hSw); go_simp) <;> with_reducible rfl)
 try simp only [Z4e, ksz]
 have Gb5 := Lib.hid (Hb5.out.below HB4.out Hb5.out.lt); have Gb6 := Lib.hid (Hb6.out.below HB4.out Hb6.out.lt); have Gb9 := Lib.hid (Hb9.out.below HB4.out Hb9.out.lt); have Gb10 := Lib.hid (Hb10.out.below HB4.out Hb10.out.lt); have Gb11 := Lib.hid (Hb11.out.below HB4.out Hb11.out.lt); have Gb12 := Lib.hid (Hb12.out.below HB4.out Hb12.out.lt); have Gb13 := Lib.hid (Hb13.out.below HB4.out Hb13.out.lt); have GHB := Lib.hid (HB.out.trans (HB4.out.mono HB.out.size)); clear Hb5 Hb6 Hb9 Hb10 Hb11 Hb12 Hb13 HB; have Hb5 := Gb5; clear Gb5; have Hb6 := Gb6; clear Gb6; have Hb9 := Gb9; clear Gb9; have Hb10 := Gb10; clear Gb10; have Hb11 := Gb11; clear Gb11; have Hb12 := Gb12; clear Gb12; have Hb13 := Gb13; clear Gb13; have HB := GHB; clear GHB; have cR0 := Hb10.out.cell 0; have zR0 := Hb10.out.frozen 0; have cR1 := Hb10.out.cell 1; have zR1 := Hb10.out.frozen 1; simp only [List.getElem?_toArray, List.getElem?_cons_zero, List.getElem?_cons_succ] at cR0 cR1
 refine wpAnyL_ready (rs := [16]) (by kernel_rfl) (by simp) ?_
 refine AllReadyL.gate (o := Z4f) rfl (by kernel_rfl) (fun K hK => ?_) AllReadyL.nil
 delta Z4f
 go_simp
 refine hK.out _ _ ?_
 clear hK K
 try simp only [Z4f, ksz]
 obtain ⟨Va6, hV⟩ : ∃ V, (W4.setCell ⟨b10, 0, none⟩ (.int .i64 (A1))).setCell ⟨b10, 1, none⟩ (.int .i64 (A2)) = V := ⟨_, rfl⟩; replace Hb5 : Hid (Blk Va6 b5 110 #[.int .i64 (WW), .int .i64 (HH), .int .i64 (SS), .slice A ss.length c, .int .i64 (lo), .int .i64 (hi)]) := (by rw [← hV]; exact ((Hb5.out.far_ (p := ⟨b10, 0, none⟩) nb5b10 _).far_ (p := ⟨b10, 1, none⟩) nb5b10 _)); replace Hb6 : Hid (Blk Va6 b6 28 #[.int .i64 (d1), .int .i64 (d2), .int .i64 (l1), .int .i64 (l2)]) := (by rw [← hV]; exact ((Hb6.out.far_ (p := ⟨b10, 0, none⟩) nb6b10 _).far_ (p := ⟨b10, 1, none⟩) nb6b10 _)); replace Hb9 : Hid (Blk Va6 b9 26 #[.int .i64 (s1), .int .i64 (s2)]) := (by rw [← hV]; exact ((Hb9.out.far_ (p := ⟨b10, 0, none⟩) nb9b10 _).far_ (p := ⟨b10, 1, none⟩) nb9b10 _)); replace Hb10 : Hid (Blk Va6 b10 108 #[.int .i64 (A1), .int .i64 (A2)]) := (by rw [← hV]; exact ((Hb10.out.set_ 0 (.int .i64 (A1))).set_ 1 (.int .i64 (A2)))); replace Hb11 : Hid (Blk Va6 b11 108 #[.int .i64 (n1), .int .i64 (n2)]) := (by rw [← hV]; exact ((Hb11.out.far_ (p := ⟨b10, 0, none⟩) nb11b10 _).far_ (p := ⟨b10, 1, none⟩) nb11b10 _)); replace Hb12 : Hid (Blk Va6 b12 3 #[.int .i64 (P)]) := (by rw [← hV]; exact ((Hb12.out.far_ (p := ⟨b10, 0, none⟩) nb12b10 _).far_ (p := ⟨b10, 1, none⟩) nb12b10 _)); replace Hb13 : Hid (Blk Va6 b13 3 #[.int .i64 (Q)]) := (by rw [← hV]; exact ((Hb13.out.far_ (p := ⟨b10, 0, none⟩) nb13b10 _).far_ (p := ⟨b10, 1, none⟩) nb13b10 _)); replace HB : Hid (Below w.heap.size w Va6) := (by rw [← hV]; exact ((HB.out.setCell (p := ⟨b10, 0, none⟩) gb10 _).setCell (p := ⟨b10, 1, none⟩) gb10 _)); rw [hV]; clear hV cR0 zR0 cR1 zR1
 refine wpAnyL_done (by kernel_rfl) ?_ _
 refine NoPanic.normal ?_
 clear HSV k0
 clear hHeld HB0 HB1 HB2 HB3 HB4
 have cb100 := kcl0 Hb10
 have cb101 := kcl1 Hb10
 go_wp2
 refine bodyPost_ret (v := .agg #[.int .i64 (A1), .int .i64 (A2)]) (by simp [results, Tryd.results110, go_sem, cb100, cb101]) rfl ⟨rfl, HB.out⟩
set_option maxRecDepth 100000 in
set_option maxHeartbeats 8000000 in
theorem setup_any (WW HH SS : Int) (ss : List (Int × Int)) (A : Option Addr) (c : Nat) (lo hi d1 d2 l1 l2 : Int) (cell d : Nat) (s1 s2 : Int) (w : World) (HD : DirsAt w) (hs : SpansAt w w.heap.size (.slice A ss.length c) ss) (hE : checkE ⟨WW, HH, SS, ss⟩ = 0) (hse : spOk (-20000) 20000 (lo, hi) = true) (hm : moE ⟨(d1, d2), (l1, l2)⟩ = 0) (hsp : spOk 0 10000 (s1, s2) = true) (hd : d < 8) (hc : cell < ss.length) :
 Calls Tryd.prog 71 #[.agg #[.int .i64 (WW), .int .i64 (HH), .int .i64 (SS), .slice A ss.length c, .int .i64 (lo), .int .i64 (hi)], .agg #[.int .i64 (d1), .int .i64 (d2), .int .i64 (l1), .int .i64 (l2)], .int .i64 (cell : Int), .int .i64 (d : Int), .agg #[.int .i64 s1, .int .i64 s2]] w fun e w' => e = .returned (.agg #[.int .i64 (setupZ ⟨WW, HH, SS, ss⟩ (lo, hi) ⟨(d1, d2), (l1, l2)⟩ (cell : Int) d (s1, s2)).1, .int .i64 (setupZ ⟨WW, HH, SS, ss⟩ (lo, hi) ⟨(d1, d2), (l1, l2)⟩ (cell : Int) d (s1, s2)).2]) ∧ Below w.heap.size w w' := by
 obtain ⟨hW, hH, hS, hLen, -⟩ := checkE_zero hE
 have hg := fun c => (gr_ok hE c).1
 have hsp' := (spOk_iff.1 hse).1
 simp only at hW hH hS hLen hsp'
 have b1 := rise_bd (g := ⟨WW, HH, SS, ss⟩) (sea := (lo, hi)) (m := ⟨(d1, d2), (l1, l2)⟩) (c := (cell : Int)) (d := d) (s := (s1, s2)) hd hg hsp' hm hsp hW hH hS (by simp only; omega)
 have b2 := rise_bd (g := ⟨WW, HH, SS, ss⟩) (sea := (lo, hi)) (m := ⟨(d1, d2), (l1, l2)⟩) (c := (cell : Int)) (d := oppZ d) (s := (s1, s2)) (opp_lt d) hg hsp' hm hsp hW hH hS (by simp only; omega)
 have hv : setupZ ⟨WW, HH, SS, ss⟩ (lo, hi) ⟨(d1, d2), (l1, l2)⟩ (cell : Int) d (s1, s2) = ((riseZ ⟨WW, HH, SS, ss⟩ (lo, hi) ⟨(d1, d2), (l1, l2)⟩ (cell : Int) (oppZ d) (s1, s2)).1 - (riseZ ⟨WW, HH, SS, ss⟩ (lo, hi) ⟨(d1, d2), (l1, l2)⟩ (cell : Int) d (s1, s2)).2, (riseZ ⟨WW, HH, SS, ss⟩ (lo, hi) ⟨(d1, d2), (l1, l2)⟩ (cell : Int) (oppZ d) (s1, s2)).2 - (riseZ ⟨WW, HH, SS, ss⟩ (lo, hi) ⟨(d1, d2), (l1, l2)⟩ (cell : Int) d (s1, s2)).1) := rfl
 rw [hv]
 clear hv
 obtain ⟨⟨A1, A2⟩, hA⟩ : ∃ z, riseZ ⟨WW, HH, SS, ss⟩ (lo, hi) ⟨(d1, d2), (l1, l2)⟩ (cell : Int) (oppZ d) (s1, s2) = z := ⟨_, rfl⟩
 obtain ⟨⟨B1, B2⟩, hB⟩ : ∃ z, riseZ ⟨WW, HH, SS, ss⟩ (lo, hi) ⟨(d1, d2), (l1, l2)⟩ (cell : Int) d (s1, s2) = z := ⟨_, rfl⟩
 rw [hA] at b2 ⊢
 rw [hB] at b1 ⊢
 have HA := Lib.hid hA
 have HBB := Lib.hid hB
 have HO := opp_lt d
 have HE := Lib.hid hE
 have HSE := Lib.hid hse
 have HM := Lib.hid hm
 have HSPD := Lib.hid hsp
 have HDR := Lib.hid HD
 have HSS3 := Lib.hid hs
 simp only at b1 b2 ⊢
 clear hA hB hE hse HD hs hm hsp hg hsp'
 go_enter Tryd.func71, Tryd.ntmps71
 go_upto_region 1 with (fail)
 obtain ⟨Va1, hV⟩ : ∃ V, (((w.alloc (.cells #[.int .i64 (WW), .int .i64 (HH), .int .i64 (SS), .slice A ss.length c, .int .i64 (lo), .int .i64 (hi)] 110)).alloc (.cells #[.int .i64 (d1), .int .i64 (d2), .int .i64 (l1), .int .i64 (l2)] 28)).alloc (.cells #[.int .i64 (s1), .int .i64 (s2)] 26)).alloc (.cells #[.int .i64 (0), .int .i64 (0)] 108) = V := ⟨_, rfl⟩
 have Kb5 : Hid (Blk Va1 (w.heap.size) 110 #[.int .i64 (WW), .int .i64 (HH), .int .i64 (SS), .slice A ss.length c, .int .i64 (lo), .int .i64 (hi)]) := by rw [← hV]; exact (((Blk.new' _ _ _ (by simp)).alloc _).alloc _).alloc _
 have Kb6 : Hid (Blk Va1 (w.heap.size + 1) 28 #[.int .i64 (d1), .int .i64 (d2), .int .i64 (l1), .int .i64 (l2)]) := by rw [← hV]; exact ((Blk.new' _ _ _ (by simp)).alloc _).alloc _
 have Kb9 : Hid (Blk Va1 (w.heap.size + 1 + 1) 26 #[.int .i64 (s1), .int .i64 (s2)]) := by rw [← hV]; exact (Blk.new' _ _ _ (by simp)).alloc _
 have Kb10 : Hid (Blk Va1 (w.heap.size + 1 + 1 + 1) 108 #[.int .i64 (0), .int .i64 (0)]) := by rw [← hV]; exact Blk.new' _ _ _ (by simp)
 have GHB : Hid (Below w.heap.size w Va1) := by rw [← hV]; exact (by repeat (first | exact Below.refl _ _ | assumption | refine Below.drew ?_ | refine Below.drewN' ?_ _ | (refine Below.alloc ?_ (by simp <;> omega) _) | (refine Below.setCell ?_ (by simp <;> omega) _)))
 have HZ : Hid (Below w.heap.size w Va1) := GHB
 have GHDR := Lib.hid (HDR.out.later HZ.out)
 have GHSS3 := Lib.hid (HSS3.out.later HZ.out (Nat.le_refl _))
 rw [hV]
 clear hV HZ HDR HSS3
 have HB := GHB
 clear GHB
 have HDR := GHDR
 clear GHDR
 have HSS3 := GHSS3
 clear GHSS3
 obtain ⟨b10, hqb10⟩ : ∃ b, w.heap.size + 1 + 1 + 1 = b := ⟨_, rfl⟩
 obtain ⟨b9, hqb9⟩ : ∃ b, w.heap.size + 1 + 1 = b := ⟨_, rfl⟩
 obtain ⟨b6, hqb6⟩ : ∃ b, w.heap.size + 1 = b := ⟨_, rfl⟩
 obtain ⟨b5, hqb5⟩ : ∃ b, w.heap.size = b := ⟨_, rfl⟩
 have gb5 : w.heap.size ≤ b5 := by omega
 have gb6 : w.heap.size ≤ b6 := by omega
 have nb6b5 : ¬ b6 = b5 := by omega
 have nb5b6 : ¬ b5 = b6 := by omega
 have gb9 : w.heap.size ≤ b9 := by omega
 have nb9b5 : ¬ b9 = b5 := by omega
 have nb5b9 : ¬ b5 = b9 := by omega
 have nb9b6 : ¬ b9 = b6 := by omega
 have nb6b9 : ¬ b6 = b9 := by omega
 have gb10 : w.heap.size ≤ b10 := by omega
 have nb10b5 : ¬ b10 = b5 := by omega
 have nb5b10 : ¬ b5 = b10 := by omega
 have nb10b6 : ¬ b10 = b6 := by omega
 have nb6b10 : ¬ b6 = b10 := by omega
 have nb10b9 : ¬ b10 = b9 := by omega
 have nb9b10 : ¬ b9 = b10 := by omega
 rw [hqb10] at Kb10 ⊢
 clear hqb10
 rw [hqb9] at Kb9 ⊢
 clear hqb9
 rw [hqb6] at Kb6 ⊢
 clear hqb6
 have HN : Hid (w.heap.size = b5) := hqb5
 rw [hqb5] at Kb5 ⊢
 clear hqb5
 have Hb5 := Kb5
 clear Kb5
 have Hb6 := Kb6
 clear Kb6
 have Hb9 := Kb9
 clear Kb9
 have Hb10 := Kb10
 clear Kb10
 have HDQ := HDR
 have HSQ := HSS3
 have HPQ : Hid (∀ U, Below Va1.heap.size Va1 U → DirsAt U ∧ SpansAt U U.heap.size (.slice A ss.length c) ss) := fun U hU => ⟨HDQ.out.later hU, HSQ.out.later hU (Nat.le_refl _)⟩
 clear HDR HSS3 HDQ HSQ
 have HSV : Hid (∀ U, Below Va1.heap.size Va1 U → U.cell? ⟨b5, 0, none⟩ = some (.int .i64 (WW)) ∧ U.cell? ⟨b5, 1, none⟩ = some (.int .i64 (HH)) ∧ U.cell? ⟨b5, 2, none⟩ = some (.int .i64 (SS)) ∧ U.cell? ⟨b5, 3, none⟩ = some (.slice A ss.length c) ∧ U.cell? ⟨b5, 4, none⟩ = some (.int .i64 (lo)) ∧ U.cell? ⟨b5, 5, none⟩ = some (.int .i64 (hi)) ∧ U.cell? ⟨b6, 0, none⟩ = some (.int .i64 (d1)) ∧ U.cell? ⟨b6, 1, none⟩ = some (.int .i64 (d2)) ∧ U.cell? ⟨b6, 2, none⟩ = some (.int .i64 (l1)) ∧ U.cell? ⟨b6, 3, none⟩ = some (.int .i64 (l2)) ∧ U.cell? ⟨b9, 0, none⟩ = some (.int .i64 (s1)) ∧ U.cell? ⟨b9, 1, none⟩ = some (.int .i64 (s2))) := fun U hU => by
  have kb5 := Hb5.out.below hU Hb5.out.lt
  have kb6 := Hb6.out.below hU Hb6.out.lt
  have kb9 := Hb9.out.below hU Hb9.out.lt
  exact ⟨kb5.cell 0, kb5.cell 1, kb5.cell 2, kb5.cell 3, kb5.cell 4, kb5.cell 5, kb6.cell 0, kb6.cell 1, kb6.cell 2, kb6.cell 3, kb9.cell 0, kb9.cell 1⟩
 have k0 := HSV.out _ (Below.drew (Below.refl Va1.heap.size Va1))
 refine wp_region_noPanic ?_
 refine wp_region_L (S := (fun w' => w'.cell? ⟨b5, 0, none⟩ = some (.int .i64 (WW)) ∧ w'.cell? ⟨b5, 1, none⟩ = some (.int .i64 (HH)) ∧ w'.cell? ⟨b5, 2, none⟩ = some (.int .i64 (SS)) ∧ w'.cell? ⟨b5, 3, none⟩ = some (.slice A ss.length c) ∧ w'.cell? ⟨b5, 4, none⟩ = some (.int .i64 (lo)) ∧ w'.cell? ⟨b5, 5, none⟩ = some (.int .i64 (hi)) ∧ w'.cell? ⟨b6, 0, none⟩ = some (.int .i64 (d1)) ∧ w'.cell? ⟨b6, 1, none⟩ = some (.int .i64 (d2)) ∧ w'.cell? ⟨b6, 2, none⟩ = some (.int .i64 (l1)) ∧ w'.cell? ⟨b6, 3, none⟩ = some (.int .i64 (l2)) ∧ w'.cell? ⟨b9, 0, none⟩ = some (.int .i64 (s1)) ∧ w'.cell? ⟨b9, 1, none⟩ = some (.int .i64 (s2)))) (ks := [14]) (by kernel_rfl) ?_ (fun hHeld => ?_)
 · (try dsimp only); (exact k0)
 refine tL 0 Z4g ?_ ?_ ?_
 rotate_left
 · ((intro w hSw; delta Z4g; (try dsimp only at hSw); go_simp) <;> with_reducible rfl)
 try simp only [Z4g, ksz]
 refine tL 1 Z4h ?_ ?_ ?_
 rotate_left
 · ((intro w hSw; delta Z4h; (try dsimp only at hSw); go_simp) <;> with_reducible rfl)
 try simp only [Z4h, ksz]
 refine tL 2 Z4i ?_ ?_ ?_
 rotate_left
 · ((intro w hSw; delta Z4i; (try dsimp only at hSw); go_simp) <;> with_reducible rfl)
 try simp only [Z4i, ksz]
 refine tL 3 Z4j ?_ ?_ ?_
 rotate_left
 · ((intro w hSw; delta Z4j; (try dsimp only at hSw); go_simp) <;> with_reducible rfl)
 try simp only [Z4j, ksz]
 refine tL 5 Z4l ?_ ?_ ?_
 rotate_left
 · ((intro w hSw; delta Z4l; (try dsimp only at hSw); go_simp) <;> with_reducible rfl)
 try simp only [Z4l, ksz]
 refine tL 7 Z4n ?_ ?_ ?_
 rotate_left
 · ((intro w hSw; delta Z4n; (try dsimp only at hSw); go_simp) <;> with_reducible rfl)
 try simp only [Z4n, ksz]
 refine tL 8 Z4o ?_ ?_ ?_
 rotate_left
 · ((intro w hSw; delta Z4o; (try dsimp only at hSw); go_simp) <;> with_reducible rfl)
 try simp only [Z4o, ksz]
 refine tL 9 Z4p ?_ ?_ ?_
 rotate_left
 · ((intro w hSw; delta Z4p; (try dsimp only at hSw); go_simp) <;> with_reducible rfl)
 try simp only [Z4p, ksz]
 refine tL 10 Z4q ?_ ?_ ?_
 rotate_left
 · ((intro w hSw; delta Z4q; (try dsimp only at hSw); go_simp) <;> with_reducible rfl)
 try simp only [Z4q, ksz]
 refine tL 11 Z4r ?_ ?_ ?_
 rotate_left
 · ((intro w hSw; delta Z4r; (try dsimp only at hSw); go_simp) <;> with_reducible rfl)
 try simp only [Z4r, ksz]
 obtain ⟨W0, hW0⟩ : ∃ V, Va1.drew = V := ⟨_, rfl⟩; rw [hW0] at hHeld ⊢; have HB0 : Hid (Below Va1.heap.size Va1 W0) := (by rw [← hW0]; exact Below.drew (Below.refl _ _)); clear hW0
 refine wpAnyL_ready (rs := [4]) (by kernel_rfl) (by simp) ?_
 refine AllReadyL.cons (o := Z4k) rfl (fun K hK => ?_) AllReadyL.nil
 delta Z4k
 go_simp
 (refine (opp_any d hd _).mono ?_; rintro e W1 ⟨rfl, hw⟩; have HB1 : Hid (Below Va1.heap.size Va1 W1) := (by rw [← hw]; exact HB0.out); clear hw)
 refine hK.out _ _ ?_ (fun hHeld => ?_)
 · (try dsimp only); (exact HSV.out _ HB1.out)
 clear hK K
 try simp only [Z4k, ksz]
 refine wpAnyL_ready (rs := [6]) (by kernel_rfl) (by simp) ?_
 refine AllReadyL.cons (o := Z4m) rfl (fun K hK => ?_) AllReadyL.nil
 delta Z4m
 go_simp
 (refine (rise_any WW HH SS ss A c lo hi d1 d2 l1 l2 cell (oppZ d) s1 s2 _ (HPQ.out _ HB1.out).1 (HPQ.out _ HB1.out).2 HE.out HSE.out HM.out HSPD.out HO hc).mono ?_; rintro e W2 ⟨rfl, hb⟩; have HB2 := Lib.hid (HB1.out.trans (hb.mono HB1.out.size)); clear hb; rw [HA.out])
 refine hK.out _ _ ?_ (fun hHeld => ?_)
 · (try dsimp only); (exact HSV.out _ HB2.out)
 clear hK K
 try simp only [Z4m, ksz]
 refine wpAnyL_ready (rs := [12]) (by kernel_rfl) (by simp) ?_
 refine AllReadyL.cons (o := Z4s) rfl (fun K hK => ?_) AllReadyL.nil
 delta Z4s
 go_simp
 (refine (rise_any WW HH SS ss A c lo hi d1 d2 l1 l2 cell d s1 s2 _ (HPQ.out _ HB2.out).1 (HPQ.out _ HB2.out).2 HE.out HSE.out HM.out HSPD.out hd hc).mono ?_; rintro e W3 ⟨rfl, hb⟩; have HB3 := Lib.hid (HB2.out.trans (hb.mono HB2.out.size)); clear hb; rw [HBB.out])
 refine hK.out _ _ ?_ (fun hHeld => ?_)
 · (try dsimp only); (exact HSV.out _ HB3.out)
 clear hK K
 try simp only [Z4s, ksz]
 refine wpAnyL_ready (rs := [13]) (by kernel_rfl) (by simp) ?_
 refine AllReadyL.cons (o := Z4t) rfl (fun K hK => ?_) AllReadyL.nil
 delta Z4t
 go_simp
 (refine (minus_any A1 A2 B1 B2 _ (by omega) (by omega)).mono ?_; rintro e W4 ⟨rfl, hb⟩; have HB4 := Lib.hid (HB3.out.trans (hb.mono HB3.out.size)); clear hb)
 refine hK.out _ _ ?_ (fun hHeld => ?_)
 · (try dsimp only); (exact HSV.out _ HB4.out)
 clear hK K
 try simp only [Z4t, ksz]
 have Gb5 := Lib.hid (Hb5.out.below HB4.out Hb5.out.lt); have Gb6 := Lib.hid (Hb6.out.below HB4.out Hb6.out.lt); have Gb9 := Lib.hid (Hb9.out.below HB4.out Hb9.out.lt); have Gb10 := Lib.hid (Hb10.out.below HB4.out Hb10.out.lt); have GHB := Lib.hid (HB.out.trans (HB4.out.mono HB.out.size)); clear Hb5 Hb6 Hb9 Hb10 HB; have Hb5 := Gb5; clear Gb5; have Hb6 := Gb6; clear Gb6; have Hb9 := Gb9; clear Gb9; have Hb10 := Gb10; clear Gb10; have HB := GHB; clear GHB; have cR0 := Hb10.out.cell 0; have zR0 := Hb10.out.frozen 0; have cR1 := Hb10.out.cell 1; have zR1 := Hb10.out.frozen 1; simp only [List.getElem?_toArray, List.getElem?_cons_zero, List.getElem?_cons_succ] at cR0 cR1
 refine wpAnyL_ready (rs := [14]) (by kernel_rfl) (by simp) ?_
 refine AllReadyL.gate (o := Z4u) rfl (by kernel_rfl) (fun K hK => ?_) AllReadyL.nil
 delta Z4u
 go_simp
 refine hK.out _ _ ?_
 clear hK K
 try simp only [Z4u, ksz]
 obtain ⟨Va2, hV⟩ : ∃ V, (W4.setCell ⟨b10, 0, none⟩ (.int .i64 (A1 - B2))).setCell ⟨b10, 1, none⟩ (.int .i64 (A2 - B1)) = V := ⟨_, rfl⟩; replace Hb5 : Hid (Blk Va2 b5 110 #[.int .i64 (WW), .int .i64 (HH), .int .i64 (SS), .slice A ss.length c, .int .i64 (lo), .int .i64 (hi)]) := (by rw [← hV]; exact ((Hb5.out.far_ (p := ⟨b10, 0, none⟩) nb5b10 _).far_ (p := ⟨b10, 1, none⟩) nb5b10 _)); replace Hb6 : Hid (Blk Va2 b6 28 #[.int .i64 (d1), .int .i64 (d2), .int .i64 (l1), .int .i64 (l2)]) := (by rw [← hV]; exact ((Hb6.out.far_ (p := ⟨b10, 0, none⟩) nb6b10 _).far_ (p := ⟨b10, 1, none⟩) nb6b10 _)); replace Hb9 : Hid (Blk Va2 b9 26 #[.int .i64 (s1), .int .i64 (s2)]) := (by rw [← hV]; exact ((Hb9.out.far_ (p := ⟨b10, 0, none⟩) nb9b10 _).far_ (p := ⟨b10, 1, none⟩) nb9b10 _)); replace Hb10 : Hid (Blk Va2 b10 108 #[.int .i64 (A1 - B2), .int .i64 (A2 - B1)]) := (by rw [← hV]; exact ((Hb10.out.set_ 0 (.int .i64 (A1 - B2))).set_ 1 (.int .i64 (A2 - B1)))); replace HB : Hid (Below w.heap.size w Va2) := (by rw [← hV]; exact ((HB.out.setCell (p := ⟨b10, 0, none⟩) gb10 _).setCell (p := ⟨b10, 1, none⟩) gb10 _)); rw [hV]; clear hV cR0 zR0 cR1 zR1
 refine wpAnyL_done (by kernel_rfl) ?_ _
 refine NoPanic.normal ?_
 clear HSV k0
 clear hHeld HB0 HB1 HB2 HB3 HB4
 have cb100 := kcl0 Hb10
 have cb101 := kcl1 Hb10
 go_wp2
 refine bodyPost_ret (v := .agg #[.int .i64 (A1 - B2), .int .i64 (A2 - B1)]) (by simp [results, Tryd.results71, go_sem, cb100, cb101]) rfl ⟨rfl, HB.out⟩
end Go.Proofs.YtdhcdgfpkjdihaaDoor.Sg
