/-
  Layer 3, the reference: steady, Steady.
-/
import Derived.Test.YtdhcdgfpkjdihaaDoorVR5b
set_option linter.unusedSimpArgs false
set_option linter.unusedVariables false
namespace Go.Proofs.YtdhcdgfpkjdihaaDoor.Sg
open Go.RowKit Go.Shelf
def Zd2 : Oper := ⟨some 47, .fieldAddr 26 (.tmp 11) 0, 0, "ref.go:196", #[], none⟩
def Zd3 : Oper := ⟨some 48, .load 3 (.tmp 47), 3, "ref.go:196", #[⟨0, .data⟩], none⟩
def Zd4 : Oper := ⟨some 49, .fieldAddr 44 (.tmp 9) 2, 0, "ref.go:196", #[], none⟩
def Zd5 : Oper := ⟨some 50, .fieldAddr 26 (.tmp 49) 0, 0, "ref.go:196", #[⟨2, .data⟩], none⟩
def Zd6 : Oper := ⟨some 51, .load 3 (.tmp 50), 3, "ref.go:196", #[⟨3, .data⟩], none⟩
def Zd7 : Oper := ⟨some 52, .binOp BinOp.mul 3 (.const (Value.int IntKind.i64 2560)) (.tmp 51) 3, 3, "ref.go:196", #[⟨4, .data⟩], none⟩
def Zd8 : Oper := ⟨some 53, .call { callee := Callee.value (.func 116), args := #[.tmp 52, .const (Value.int IntKind.i64 981)], argTypes := #[3, 3] }, 3, "ref.go:196", #[⟨5, .data⟩], none⟩
def Zd9 : Oper := ⟨some 54, .binOp BinOp.add 3 (.tmp 48) (.tmp 53) 3, 3, "ref.go:196", #[⟨1, .data⟩, ⟨6, .data⟩], none⟩
def Zda : Oper := ⟨some 55, .fieldAddr 26 (.tmp 11) 1, 0, "ref.go:196", #[], none⟩
def Zdb : Oper := ⟨some 56, .load 3 (.tmp 55), 3, "ref.go:196", #[⟨8, .data⟩], none⟩
def Zdc : Oper := ⟨some 57, .fieldAddr 44 (.tmp 9) 2, 0, "ref.go:196", #[], none⟩
def Zdd : Oper := ⟨some 58, .fieldAddr 26 (.tmp 57) 1, 0, "ref.go:196", #[⟨10, .data⟩], none⟩
def Zde : Oper := ⟨some 59, .load 3 (.tmp 58), 3, "ref.go:196", #[⟨11, .data⟩], none⟩
def Zdf : Oper := ⟨some 60, .binOp BinOp.mul 3 (.const (Value.int IntKind.i64 2560)) (.tmp 59) 3, 3, "ref.go:196", #[⟨12, .data⟩], none⟩
def Zdg : Oper := ⟨some 61, .call { callee := Callee.value (.func 117), args := #[.tmp 60, .const (Value.int IntKind.i64 981)], argTypes := #[3, 3] }, 3, "ref.go:196", #[⟨13, .data⟩, ⟨6, .chain⟩], none⟩
def Zdh : Oper := ⟨some 62, .binOp BinOp.add 3 (.tmp 56) (.tmp 61) 3, 3, "ref.go:196", #[⟨9, .data⟩, ⟨14, .data⟩], none⟩
def Zdi : Oper := ⟨some 63, .build 26 #[(0, .tmp 54), (1, .tmp 62)], 26, "ref.go:196", #[⟨7, .data⟩, ⟨15, .data⟩], none⟩
def Zdj : Oper := ⟨none, .store 26 (.tmp 10) (.tmp 63), 0, "ref.go:196", #[⟨16, .data⟩, ⟨14, .chain⟩, ⟨0, .phase⟩, ⟨1, .phase⟩, ⟨2, .phase⟩, ⟨3, .phase⟩, ⟨4, .phase⟩, ⟨5, .phase⟩, ⟨6, .phase⟩, ⟨7, .phase⟩, ⟨8, .phase⟩, ⟨9, .phase⟩, ⟨10, .phase⟩, ⟨11, .phase⟩, ⟨12, .phase⟩, ⟨13, .phase⟩, ⟨14, .phase⟩, ⟨15, .phase⟩, ⟨16, .phase⟩], none⟩
theorem hull_snoc {l : List (Int × Int)} (h : l ≠ []) (s : Int × Int) : hullZ (l ++ [s]) = (min (hullZ l).1 s.1, max (hullZ l).2 s.2) := by
 cases l with
 | nil => exact absurd rfl h
 | cons a l =>
  show List.foldl _ _ (l ++ [s]) = _
  rw [List.foldl_append]
  rfl
theorem rbit_no {n : Int} {k : Nat} (h : ¬ bitB n k = true) : n / 2 ^ k % 2 = 0 := by
 unfold bitB at h
 rw [decide_eq_true_iff] at h
 omega
theorem rbit_one {n : Int} {k : Nat} (h : bitB n k = true) : n / 2 ^ k % 2 = 1 := by
 unfold bitB at h
 exact of_decide_eq_true h
set_option maxRecDepth 100000 in
set_option maxHeartbeats 4000000 in
theorem rsteady_any (WW HH SS : Int) (ss : List (Int × Int)) (A : Option Addr) (c : Nat) (lo hi d1 d2 l1 l2 cell s1 s2 : Int) (n : Nat) (p1 p2 : Int) (w : World) (hn : n < 256) (hE : checkE ⟨WW, HH, SS, ss⟩ = 0) (hse : spOk (-20000) 20000 (lo, hi) = true) (hm : moE ⟨(d1, d2), (l1, l2)⟩ = 0) (hwi : wiE ⟨(s1, s2), (n : Int), (p1, p2)⟩ = 0) (hc : 0 ≤ cell ∧ cell < ss.length) (hs : SpansAt w w.heap.size (.slice A ss.length c) ss) :
 Calls Tryd.prog 75 #[.agg #[.int .i64 (WW), .int .i64 (HH), .int .i64 (SS), .slice A ss.length c], .agg #[.int .i64 lo, .int .i64 hi], .agg #[.int .i64 (d1), .int .i64 (d2), .int .i64 (l1), .int .i64 (l2)], .int .i64 cell, .agg #[.int .i64 (s1), .int .i64 (s2), .int .i64 ((n : Int)), .int .i64 (p1), .int .i64 (p2)]] w fun e w' => e = .returned (.agg #[.int .i64 (steadyZ ⟨WW, HH, SS, ss⟩ (lo, hi) ⟨(d1, d2), (l1, l2)⟩ cell ⟨(s1, s2), (n : Int), (p1, p2)⟩).1, .int .i64 (steadyZ ⟨WW, HH, SS, ss⟩ (lo, hi) ⟨(d1, d2), (l1, l2)⟩ cell ⟨(s1, s2), (n : Int), (p1, p2)⟩).2]) ∧ Below w.heap.size w w' := by
 obtain ⟨hW, hH, hS, hLen, -⟩ := checkE_zero hE
 have hg := fun c => (gr_ok hE c).1
 have hsp' := (spOk_iff.1 hse).1
 obtain ⟨hsp, hpr, hn1, hn2⟩ := wiE_zero hwi
 simp only at hW hH hS hLen hsp' hsp hpr hn1 hn2
 have hp' := spOk_iff.1 hpr
 simp only at hp'
 have hbd : ∀ d, d < 8 → (-9000000000 ≤ (setupZ ⟨WW, HH, SS, ss⟩ (lo, hi) ⟨(d1, d2), (l1, l2)⟩ cell d (s1, s2)).1 ∧ (setupZ ⟨WW, HH, SS, ss⟩ (lo, hi) ⟨(d1, d2), (l1, l2)⟩ cell d (s1, s2)).1 ≤ 9000000000) ∧ (-9000000000 ≤ (setupZ ⟨WW, HH, SS, ss⟩ (lo, hi) ⟨(d1, d2), (l1, l2)⟩ cell d (s1, s2)).2 ∧ (setupZ ⟨WW, HH, SS, ss⟩ (lo, hi) ⟨(d1, d2), (l1, l2)⟩ cell d (s1, s2)).2 ≤ 9000000000) := fun d hd => setup_bd hd hg hsp' hm hsp hW hH hS (by simp only; omega)
 have hpb := pres_bd hpr
 have hhd : (-9000000000 ≤ (hullZ (((List.range 8).filter (bitB (n : Int))).map fun d => setupZ ⟨WW, HH, SS, ss⟩ (lo, hi) ⟨(d1, d2), (l1, l2)⟩ cell d (s1, s2))).1 ∧ (hullZ (((List.range 8).filter (bitB (n : Int))).map fun d => setupZ ⟨WW, HH, SS, ss⟩ (lo, hi) ⟨(d1, d2), (l1, l2)⟩ cell d (s1, s2))).1 ≤ 9000000000) ∧ (-9000000000 ≤ (hullZ (((List.range 8).filter (bitB (n : Int))).map fun d => setupZ ⟨WW, HH, SS, ss⟩ (lo, hi) ⟨(d1, d2), (l1, l2)⟩ cell d (s1, s2))).2 ∧ (hullZ (((List.range 8).filter (bitB (n : Int))).map fun d => setupZ ⟨WW, HH, SS, ss⟩ (lo, hi) ⟨(d1, d2), (l1, l2)⟩ cell d (s1, s2))).2 ≤ 9000000000) := hull_bd (by omega) fun x hx => by
  obtain ⟨d, hd, rfl⟩ := List.mem_map.1 hx
  exact hbd d (List.mem_range.1 (List.mem_filter.1 hd).1)
 have hv : steadyZ ⟨WW, HH, SS, ss⟩ (lo, hi) ⟨(d1, d2), (l1, l2)⟩ cell ⟨(s1, s2), (n : Int), (p1, p2)⟩ = ((hullZ (((List.range 8).filter (bitB (n : Int))).map fun d => setupZ ⟨WW, HH, SS, ss⟩ (lo, hi) ⟨(d1, d2), (l1, l2)⟩ cell d (s1, s2))).1 + (presZ (p1, p2)).1, (hullZ (((List.range 8).filter (bitB (n : Int))).map fun d => setupZ ⟨WW, HH, SS, ss⟩ (lo, hi) ⟨(d1, d2), (l1, l2)⟩ cell d (s1, s2))).2 + (presZ (p1, p2)).2) := rfl
 rw [hv]
 have hpz : presZ (p1, p2) = (2560 * p1 / 981, upQ (2560 * p2) 981) := rfl
 rw [hpz] at hpb ⊢
 obtain ⟨P1, hP1⟩ : ∃ z, 2560 * p1 / 981 = z := ⟨_, rfl⟩
 obtain ⟨P2, hP2⟩ : ∃ z, upQ (2560 * p2) 981 = z := ⟨_, rfl⟩
 rw [hP1, hP2] at hpb ⊢
 simp only at hpb ⊢
 have HP1 := Lib.hid hP1
 have HP2 := Lib.hid hP2
 have HHD := Lib.hid hhd
 have HE := Lib.hid hE
 have HSE := Lib.hid hse
 have HM := Lib.hid hm
 have HSPD := Lib.hid hsp
 have HC := Lib.hid hc
 have HS0 := Lib.hid hs
 have HN := Lib.hid hn2
 clear hv hpz hP1 hP2 hhd hE hse hm hsp hc hs hg hsp' hwi hpr hbd hn1 hn2 hW hH hS hLen
 have wr0 : IntKind.i64.wrap (2560 * p1) = 2560 * p1 := IntWalk.i64_in _ (by omega)
 have wr1 : IntKind.i64.wrap (2560 * p2) = 2560 * p2 := IntWalk.i64_in _ (by omega)
 go_enter Tryd.func75, Tryd.ntmps75
 go_upto_region 1 with (fail)
 obtain ⟨Va1, hV⟩ : ∃ V, ((((w.alloc (.cells #[.int .i64 (WW), .int .i64 (HH), .int .i64 (SS), .slice A ss.length c] 24)).alloc (.cells #[.int .i64 (lo), .int .i64 (hi)] 26)).alloc (.cells #[.int .i64 (d1), .int .i64 (d2), .int .i64 (l1), .int .i64 (l2)] 40)).alloc (.cells #[.int .i64 (s1), .int .i64 (s2), .int .i64 ((n : Int)), .int .i64 (p1), .int .i64 (p2)] 44)).alloc (.cells #[.int .i64 (0), .int .i64 (0)] 26) = V := ⟨_, rfl⟩
 have Kb5 : Hid (Blk Va1 (w.heap.size) 24 #[.int .i64 (WW), .int .i64 (HH), .int .i64 (SS), .slice A ss.length c]) := by rw [← hV]; exact ((((Blk.new' _ _ _ (by simp)).alloc _).alloc _).alloc _).alloc _
 have Kb6 : Hid (Blk Va1 (w.heap.size + 1) 26 #[.int .i64 (lo), .int .i64 (hi)]) := by rw [← hV]; exact (((Blk.new' _ _ _ (by simp)).alloc _).alloc _).alloc _
 have Kb7 : Hid (Blk Va1 (w.heap.size + 1 + 1) 40 #[.int .i64 (d1), .int .i64 (d2), .int .i64 (l1), .int .i64 (l2)]) := by rw [← hV]; exact ((Blk.new' _ _ _ (by simp)).alloc _).alloc _
 have Kb9 : Hid (Blk Va1 (w.heap.size + 1 + 1 + 1) 44 #[.int .i64 (s1), .int .i64 (s2), .int .i64 ((n : Int)), .int .i64 (p1), .int .i64 (p2)]) := by rw [← hV]; exact (Blk.new' _ _ _ (by simp)).alloc _
 have Kb10 : Hid (Blk Va1 (w.heap.size + 1 + 1 + 1 + 1) 26 #[.int .i64 (0), .int .i64 (0)]) := by rw [← hV]; exact Blk.new' _ _ _ (by simp)
 have GHB : Hid (Below w.heap.size w Va1) := by rw [← hV]; exact (by repeat (first | exact Below.refl _ _ | assumption | refine Below.drew ?_ | refine Below.drewN' ?_ _ | (refine Below.alloc ?_ (by simp <;> omega) _) | (refine Below.setCell ?_ (by simp <;> omega) _)))
 have HZ : Hid (Below w.heap.size w Va1) := GHB
 rw [hV]
 clear hV HZ
 have HB := GHB
 clear GHB
 obtain ⟨b10, hqb10⟩ : ∃ b, w.heap.size + 1 + 1 + 1 + 1 = b := ⟨_, rfl⟩
 obtain ⟨b9, hqb9⟩ : ∃ b, w.heap.size + 1 + 1 + 1 = b := ⟨_, rfl⟩
 obtain ⟨b7, hqb7⟩ : ∃ b, w.heap.size + 1 + 1 = b := ⟨_, rfl⟩
 obtain ⟨b6, hqb6⟩ : ∃ b, w.heap.size + 1 = b := ⟨_, rfl⟩
 obtain ⟨b5, hqb5⟩ : ∃ b, w.heap.size = b := ⟨_, rfl⟩
 have gb5 : w.heap.size ≤ b5 := by omega
 have gb6 : w.heap.size ≤ b6 := by omega
 have nb6b5 : ¬ b6 = b5 := by omega
 have nb5b6 : ¬ b5 = b6 := by omega
 have gb7 : w.heap.size ≤ b7 := by omega
 have nb7b5 : ¬ b7 = b5 := by omega
 have nb5b7 : ¬ b5 = b7 := by omega
 have nb7b6 : ¬ b7 = b6 := by omega
 have nb6b7 : ¬ b6 = b7 := by omega
 have gb9 : w.heap.size ≤ b9 := by omega
 have nb9b5 : ¬ b9 = b5 := by omega
 have nb5b9 : ¬ b5 = b9 := by omega
 have nb9b6 : ¬ b9 = b6 := by omega
 have nb6b9 : ¬ b6 = b9 := by omega
 have nb9b7 : ¬ b9 = b7 := by omega
 have nb7b9 : ¬ b7 = b9 := by omega
 have gb10 : w.heap.size ≤ b10 := by omega
 have nb10b5 : ¬ b10 = b5 := by omega
 have nb5b10 : ¬ b5 = b10 := by omega
 have nb10b6 : ¬ b10 = b6 := by omega
 have nb6b10 : ¬ b6 = b10 := by omega
 have nb10b7 : ¬ b10 = b7 := by omega
 have nb7b10 : ¬ b7 = b10 := by omega
 have nb10b9 : ¬ b10 = b9 := by omega
 have nb9b10 : ¬ b9 = b10 := by omega
 rw [hqb10] at Kb10 ⊢
 clear hqb10
 rw [hqb9] at Kb9 ⊢
 clear hqb9
 rw [hqb7] at Kb7 ⊢
 clear hqb7
 rw [hqb6] at Kb6 ⊢
 clear hqb6
 have HN : Hid (w.heap.size = b5) := hqb5
 rw [hqb5] at Kb5 ⊢
 clear hqb5
 have Hb5 := Kb5
 clear Kb5
 have Hb6 := Kb6
 clear Kb6
 have Hb7 := Kb7
 clear Kb7
 have Hb9 := Kb9
 clear Kb9
 have Hb10 := Kb10
 clear Kb10
 have HP := Lib.hid (Below.refl Va1.heap.size Va1)
 have OHB := HB
 have Ob5 := Hb5
 have Ob6 := Hb6
 have Ob7 := Hb7
 have Ob9 := Hb9
 have Ob10 := Hb10
 go_upto_region 2 with (fail)
 obtain ⟨Va2, hV⟩ : ∃ X, Va1.alloc (.cells #[.int .i64 (0), .int .i64 (0)] 26) = X := ⟨_, rfl⟩
 have hnew : Blk Va2 Va1.heap.size 26 #[.int .i64 (0), .int .i64 (0)] := by rw [← hV]; exact (Blk.new' _ _ _ rfl)
 have hz : Below Va1.heap.size Va1 Va2 := by rw [← hV]; exact ((Below.refl _ _).alloc (Nat.le_refl _) _)
 have hgn := HB.out.size
 have lb5 := Hb5.out.lt
 have lb6 := Hb6.out.lt
 have lb7 := Hb7.out.lt
 have lb9 := Hb9.out.lt
 have lb10 := Hb10.out.lt
 have gb11_HP : Va1.heap.size ≤ Va1.heap.size := HP.out.size
 rw [hV]
 obtain ⟨b11, hbx⟩ : ∃ b, Va1.heap.size = b := ⟨_, rfl⟩
 rw [hbx] at hnew hgn lb5 lb6 lb7 lb9 lb10 ⊢
 have gb11 : w.heap.size ≤ b11 := hgn
 have HZ := Lib.hid hz
 have gb11_HP : Va1.heap.size ≤ b11 := by omega
 have nb5b11 : ¬ b5 = b11 := by omega
 have nb11b5 : ¬ b11 = b5 := by omega
 have nb6b11 : ¬ b6 = b11 := by omega
 have nb11b6 : ¬ b11 = b6 := by omega
 have nb7b11 : ¬ b7 = b11 := by omega
 have nb11b7 : ¬ b11 = b7 := by omega
 have nb9b11 : ¬ b9 = b11 := by omega
 have nb11b9 : ¬ b11 = b9 := by omega
 have nb10b11 : ¬ b10 = b11 := by omega
 have nb11b10 : ¬ b11 = b10 := by omega
 clear hV hz hgn hbx lb5 lb6 lb7 lb9 lb10
 replace Hb5 := kbl Hb5 HZ
 replace Hb6 := kbl Hb6 HZ
 replace Hb7 := kbl Hb7 HZ
 replace Hb9 := kbl Hb9 HZ
 replace Hb10 := kbl Hb10 HZ
 replace HB := ktr' HB HZ
 replace HP := ktr' HP HZ
 clear HZ
 have Hb11 := Lib.hid hnew
 clear hnew
 go_wp2_with fail
 go_loopw [12, 13] (fun fv iv wr => ∃ (k : Nat) (x y : Int) (fl : Bool), k ≤ 8 ∧ fv = .bool fl ∧ iv = .int .i64 (k : Int) ∧ Hid (hullZ (((List.range k).filter (bitB (n : Int))).map fun d => setupZ ⟨WW, HH, SS, ss⟩ (lo, hi) ⟨(d1, d2), (l1, l2)⟩ cell d (s1, s2)) = (x, y)) ∧ Hid (fl = (((List.range k).filter (bitB (n : Int))).map fun d => setupZ ⟨WW, HH, SS, ss⟩ (lo, hi) ⟨(d1, d2), (l1, l2)⟩ cell d (s1, s2)).isEmpty) ∧ Hid (Blk wr b11 26 #[.int .i64 x, .int .i64 y]) ∧ Hid (Below Va1.heap.size Va1 wr)) (fun _ iv _ => 8 - (intOf iv).toNat)
 case atStart => exact ⟨0, 0, 0, true, by omega, rfl, rfl, rfl, rfl, Hb11, HP⟩
 case round =>
  clear Hb5 Hb6 Hb7 Hb9 Hb10 Hb11 HB HP
  obtain ⟨k, x, y, fl, hk, rfl, rfl, HHU, HFL, Hb11, HP⟩ := hrel
  have HB := Lib.hid (OHB.out.trans (HP.out.mono OHB.out.size))
  have Hb5 := Lib.hid (Ob5.out.below HP.out Ob5.out.lt)
  have Hb6 := Lib.hid (Ob6.out.below HP.out Ob6.out.lt)
  have Hb7 := Lib.hid (Ob7.out.below HP.out Ob7.out.lt)
  have Hb9 := Lib.hid (Ob9.out.below HP.out Ob9.out.lt)
  have Hb10 := Lib.hid (Ob10.out.below HP.out Ob10.out.lt)
  by_cases hlt : k < 8
  ·
   have hk8 : (k : Int) < 8 := by omega
   have hk64 : min k 64 = k := by omega
   have hk63 : min k 63 = k := by omega
   obtain ⟨q, hq⟩ : ∃ z, (n : Int) / 2 ^ k = z := ⟨_, rfl⟩
   have hq0 : 0 ≤ q := by rw [← hq]; exact Int.ediv_nonneg (by omega) (Int.le_of_lt (Int.pow_pos (by omega)))
   have htm : q.tmod 2 = q % 2 := Int.tmod_eq_emod_of_nonneg hq0
   have wk : IntKind.i64.wrap ((k : Int) + 1) = (k : Int) + 1 := IntWalk.i64_in _ (by omega)
   by_cases hbit : bitB (n : Int) k = true
   rotate_left
   ·
    have hb0 := rbit_no hbit
    rw [hq] at hb0
    rw [hb0] at htm
    have HLS : Hid ((((List.range (k + 1)).filter (bitB (n : Int))).map fun d => setupZ ⟨WW, HH, SS, ss⟩ (lo, hi) ⟨(d1, d2), (l1, l2)⟩ cell d (s1, s2)) = (((List.range k).filter (bitB (n : Int))).map fun d => setupZ ⟨WW, HH, SS, ss⟩ (lo, hi) ⟨(d1, d2), (l1, l2)⟩ cell d (s1, s2))) := by show _ = _; rw [List.range_succ, List.filter_append]; simp [hbit]
    clear hbit
    have cb90 := kcl0 Hb9
    have cb91 := kcl1 Hb9
    have cb92 := kcl2 Hb9
    have cb93 := kcl3 Hb9
    have cb94 := kcl4 Hb9
    go_wp2
    clear cb90 cb91 cb92 cb93 cb94
    go_roundw
    case rel => exact ⟨k + 1, x, y, fl, by omega, rfl, by go_num, by rw [HLS.out]; exact HHU, by rw [HLS.out]; exact HFL, Hb11, HP⟩
    case measure => simp [intOf] <;> omega
   have hb1 := rbit_one hbit
   rw [hq] at hb1
   rw [hb1] at htm
   have HLS : Hid ((((List.range (k + 1)).filter (bitB (n : Int))).map fun d => setupZ ⟨WW, HH, SS, ss⟩ (lo, hi) ⟨(d1, d2), (l1, l2)⟩ cell d (s1, s2)) = (((List.range k).filter (bitB (n : Int))).map fun d => setupZ ⟨WW, HH, SS, ss⟩ (lo, hi) ⟨(d1, d2), (l1, l2)⟩ cell d (s1, s2)) ++ [setupZ ⟨WW, HH, SS, ss⟩ (lo, hi) ⟨(d1, d2), (l1, l2)⟩ cell k (s1, s2)]) := by show _ = _; rw [List.range_succ, List.filter_append, List.map_append]; simp [hbit]
   obtain ⟨⟨u1, u2⟩, hu⟩ : ∃ z, setupZ ⟨WW, HH, SS, ss⟩ (lo, hi) ⟨(d1, d2), (l1, l2)⟩ cell k (s1, s2) = z := ⟨_, rfl⟩
   rw [hu] at HLS
   have HU := Lib.hid hu
   have HK8 := Lib.hid hlt
   clear hbit hu hlt
   have cb50 := kcl0 Hb5
   have cb51 := kcl1 Hb5
   have cb52 := kcl2 Hb5
   have cb53 := kcl3 Hb5
   have cb60 := kcl0 Hb6
   have cb61 := kcl1 Hb6
   have cb70 := kcl0 Hb7
   have cb71 := kcl1 Hb7
   have cb72 := kcl2 Hb7
   have cb73 := kcl3 Hb7
   have cb90 := kcl0 Hb9
   have cb91 := kcl1 Hb9
   have cb92 := kcl2 Hb9
   have cb93 := kcl3 Hb9
   have cb94 := kcl4 Hb9
   go_wp2_with fail
   refine (rsetup_any WW HH SS ss A c lo hi d1 d2 l1 l2 cell k s1 s2 _ HK8.out HE.out HSE.out HM.out HSPD.out HC.out (HS0.out.later HB.out (Nat.le_refl _))).mono ?_
   rintro e Va51 ⟨rfl, hb⟩
   have HZ := Lib.hid hb
   clear hb
   rw [HU.out]
   clear cb50 cb51 cb52 cb53 cb60 cb61 cb70 cb71 cb72 cb73 cb90 cb91 cb92 cb93 cb94
   replace Hb5 := kbl Hb5 HZ
   replace Hb6 := kbl Hb6 HZ
   replace Hb7 := kbl Hb7 HZ
   replace Hb9 := kbl Hb9 HZ
   replace Hb10 := kbl Hb10 HZ
   replace Hb11 := kbl Hb11 HZ
   replace HB := ktr' HB HZ
   replace HP := ktr' HP HZ
   clear HZ
   go_upto_region 7 with (fail)
   obtain ⟨Va52, hV⟩ : ∃ X, Va51.alloc (.cells #[.int .i64 (u1), .int .i64 (u2)] 26) = X := ⟨_, rfl⟩
   have hnew : Blk Va52 Va51.heap.size 26 #[.int .i64 (u1), .int .i64 (u2)] := by rw [← hV]; exact (Blk.new' _ _ _ rfl)
   have hz : Below Va51.heap.size Va51 Va52 := by rw [← hV]; exact ((Below.refl _ _).alloc (Nat.le_refl _) _)
   have hgn := HB.out.size
   have lb5 := Hb5.out.lt
   have lb6 := Hb6.out.lt
   have lb7 := Hb7.out.lt
   have lb9 := Hb9.out.lt
   have lb10 := Hb10.out.lt
   have lb11 := Hb11.out.lt
   have gb14_HP : Va1.heap.size ≤ Va51.heap.size := HP.out.size
   rw [hV]
   obtain ⟨b14, hbx⟩ : ∃ b, Va51.heap.size = b := ⟨_, rfl⟩
   rw [hbx] at hnew hgn lb5 lb6 lb7 lb9 lb10 lb11 gb14_HP ⊢
   have gb14 : w.heap.size ≤ b14 := hgn
   have HZ := Lib.hid hz
   have nb5b14 : ¬ b5 = b14 := by omega
   have nb14b5 : ¬ b14 = b5 := by omega
   have nb6b14 : ¬ b6 = b14 := by omega
   have nb14b6 : ¬ b14 = b6 := by omega
   have nb7b14 : ¬ b7 = b14 := by omega
   have nb14b7 : ¬ b14 = b7 := by omega
   have nb9b14 : ¬ b9 = b14 := by omega
   have nb14b9 : ¬ b14 = b9 := by omega
   have nb10b14 : ¬ b10 = b14 := by omega
   have nb14b10 : ¬ b14 = b10 := by omega
   have nb11b14 : ¬ b11 = b14 := by omega
   have nb14b11 : ¬ b14 = b11 := by omega
   clear hV hz hgn hbx lb5 lb6 lb7 lb9 lb10 lb11
   replace Hb5 := kbl Hb5 HZ
   replace Hb6 := kbl Hb6 HZ
   replace Hb7 := kbl Hb7 HZ
   replace Hb9 := kbl Hb9 HZ
   replace Hb10 := kbl Hb10 HZ
   replace Hb11 := kbl Hb11 HZ
   replace HB := ktr' HB HZ
   replace HP := ktr' HP HZ
   clear HZ
   have Hb14 := Lib.hid hnew
   clear hnew
   cases fl with
   | true =>
    have hnil : (((List.range k).filter (bitB (n : Int))).map fun d => setupZ ⟨WW, HH, SS, ss⟩ (lo, hi) ⟨(d1, d2), (l1, l2)⟩ cell d (s1, s2)) = [] := List.isEmpty_iff.1 HFL.out.symm
    have HH2 : Hid (hullZ (((List.range (k + 1)).filter (bitB (n : Int))).map fun d => setupZ ⟨WW, HH, SS, ss⟩ (lo, hi) ⟨(d1, d2), (l1, l2)⟩ cell d (s1, s2)) = (u1, u2)) := by show _ = _; rw [HLS.out, hnil]; rfl
    have HF2 : Hid (false = (((List.range (k + 1)).filter (bitB (n : Int))).map fun d => setupZ ⟨WW, HH, SS, ss⟩ (lo, hi) ⟨(d1, d2), (l1, l2)⟩ cell d (s1, s2)).isEmpty) := by show _ = _; rw [HLS.out]; simp
    clear hnil HLS HHU HFL
    have cb140 := kcl0 Hb14
    have cb141 := kcl1 Hb14
    have cb110 := kcl0 Hb11
    have cb111 := kcl1 Hb11
    have zb110 : Va52.frozen? ⟨b11, 0, none⟩ = false := Hb11.out.frozen 0
    have zb111 : Va52.frozen? ⟨b11, 1, none⟩ = false := Hb11.out.frozen 1
    go_upto_region 9 with (fail)
    clear cb140 cb141 cb110 cb111
    clear zb110 zb111
    obtain ⟨Va91, hV⟩ : ∃ X, (Va52.setCell ⟨b11, 0, none⟩ (.int .i64 (u1))).setCell ⟨b11, 1, none⟩ (.int .i64 (u2)) = X := ⟨_, rfl⟩
    replace Hb5 : Hid (Blk Va91 b5 24 #[.int .i64 (WW), .int .i64 (HH), .int .i64 (SS), .slice A ss.length c]) := by rw [← hV]; exact ((Hb5.out.far_ (p := ⟨b11, 0, none⟩) nb5b11 _).far_ (p := ⟨b11, 1, none⟩) nb5b11 _)
    replace Hb6 : Hid (Blk Va91 b6 26 #[.int .i64 (lo), .int .i64 (hi)]) := by rw [← hV]; exact ((Hb6.out.far_ (p := ⟨b11, 0, none⟩) nb6b11 _).far_ (p := ⟨b11, 1, none⟩) nb6b11 _)
    replace Hb7 : Hid (Blk Va91 b7 40 #[.int .i64 (d1), .int .i64 (d2), .int .i64 (l1), .int .i64 (l2)]) := by rw [← hV]; exact ((Hb7.out.far_ (p := ⟨b11, 0, none⟩) nb7b11 _).far_ (p := ⟨b11, 1, none⟩) nb7b11 _)
    replace Hb9 : Hid (Blk Va91 b9 44 #[.int .i64 (s1), .int .i64 (s2), .int .i64 ((n : Int)), .int .i64 (p1), .int .i64 (p2)]) := by rw [← hV]; exact ((Hb9.out.far_ (p := ⟨b11, 0, none⟩) nb9b11 _).far_ (p := ⟨b11, 1, none⟩) nb9b11 _)
    replace Hb10 : Hid (Blk Va91 b10 26 #[.int .i64 (0), .int .i64 (0)]) := by rw [← hV]; exact ((Hb10.out.far_ (p := ⟨b11, 0, none⟩) nb10b11 _).far_ (p := ⟨b11, 1, none⟩) nb10b11 _)
    replace Hb11 : Hid (Blk Va91 b11 26 #[.int .i64 (u1), .int .i64 (u2)]) := by rw [← hV]; exact ((Hb11.out.set_ 0 (.int .i64 (u1))).set_ 1 (.int .i64 (u2)))
    replace Hb14 : Hid (Blk Va91 b14 26 #[.int .i64 (u1), .int .i64 (u2)]) := by rw [← hV]; exact ((Hb14.out.far_ (p := ⟨b11, 0, none⟩) nb14b11 _).far_ (p := ⟨b11, 1, none⟩) nb14b11 _)
    replace HB : Hid (Below w.heap.size w Va91) := by rw [← hV]; exact ((HB.out.setCell (p := ⟨b11, 0, none⟩) gb11 _).setCell (p := ⟨b11, 1, none⟩) gb11 _)
    replace HP : Hid (Below Va1.heap.size Va1 Va91) := by rw [← hV]; exact ((HP.out.setCell (p := ⟨b11, 0, none⟩) gb11_HP _).setCell (p := ⟨b11, 1, none⟩) gb11_HP _)
    rw [hV]
    clear hV
    have cb140 := kcl0 Hb14
    have cb141 := kcl1 Hb14
    have cb110 := kcl0 Hb11
    have cb111 := kcl1 Hb11
    have zb110 : Va91.frozen? ⟨b11, 0, none⟩ = false := Hb11.out.frozen 0
    have zb111 : Va91.frozen? ⟨b11, 1, none⟩ = false := Hb11.out.frozen 1
    go_upto_region 4 with (fail)
    clear cb140 cb141 cb110 cb111
    clear zb110 zb111
    obtain ⟨Va92, hV⟩ : ∃ X, (Va91.setCell ⟨b11, 0, none⟩ (.int .i64 (u1))).setCell ⟨b11, 1, none⟩ (.int .i64 (u2)) = X := ⟨_, rfl⟩
    replace Hb5 : Hid (Blk Va92 b5 24 #[.int .i64 (WW), .int .i64 (HH), .int .i64 (SS), .slice A ss.length c]) := by rw [← hV]; exact ((Hb5.out.far_ (p := ⟨b11, 0, none⟩) nb5b11 _).far_ (p := ⟨b11, 1, none⟩) nb5b11 _)
    replace Hb6 : Hid (Blk Va92 b6 26 #[.int .i64 (lo), .int .i64 (hi)]) := by rw [← hV]; exact ((Hb6.out.far_ (p := ⟨b11, 0, none⟩) nb6b11 _).far_ (p := ⟨b11, 1, none⟩) nb6b11 _)
    replace Hb7 : Hid (Blk Va92 b7 40 #[.int .i64 (d1), .int .i64 (d2), .int .i64 (l1), .int .i64 (l2)]) := by rw [← hV]; exact ((Hb7.out.far_ (p := ⟨b11, 0, none⟩) nb7b11 _).far_ (p := ⟨b11, 1, none⟩) nb7b11 _)
    replace Hb9 : Hid (Blk Va92 b9 44 #[.int .i64 (s1), .int .i64 (s2), .int .i64 ((n : Int)), .int .i64 (p1), .int .i64 (p2)]) := by rw [← hV]; exact ((Hb9.out.far_ (p := ⟨b11, 0, none⟩) nb9b11 _).far_ (p := ⟨b11, 1, none⟩) nb9b11 _)
    replace Hb10 : Hid (Blk Va92 b10 26 #[.int .i64 (0), .int .i64 (0)]) := by rw [← hV]; exact ((Hb10.out.far_ (p := ⟨b11, 0, none⟩) nb10b11 _).far_ (p := ⟨b11, 1, none⟩) nb10b11 _)
    replace Hb11 : Hid (Blk Va92 b11 26 #[.int .i64 (u1), .int .i64 (u2)]) := by rw [← hV]; exact ((Hb11.out.set_ 0 (.int .i64 (u1))).set_ 1 (.int .i64 (u2)))
    replace Hb14 : Hid (Blk Va92 b14 26 #[.int .i64 (u1), .int .i64 (u2)]) := by rw [← hV]; exact ((Hb14.out.far_ (p := ⟨b11, 0, none⟩) nb14b11 _).far_ (p := ⟨b11, 1, none⟩) nb14b11 _)
    replace HB : Hid (Below w.heap.size w Va92) := by rw [← hV]; exact ((HB.out.setCell (p := ⟨b11, 0, none⟩) gb11 _).setCell (p := ⟨b11, 1, none⟩) gb11 _)
    replace HP : Hid (Below Va1.heap.size Va1 Va92) := by rw [← hV]; exact ((HP.out.setCell (p := ⟨b11, 0, none⟩) gb11_HP _).setCell (p := ⟨b11, 1, none⟩) gb11_HP _)
    rw [hV]
    clear hV
    go_wp2
    go_roundw
    case rel => exact ⟨k + 1, u1, u2, false, by omega, rfl, by go_num, HH2, HF2, Hb11, HP⟩
    case measure => simp [intOf] <;> omega
   | false =>
    have hne : (((List.range k).filter (bitB (n : Int))).map fun d => setupZ ⟨WW, HH, SS, ss⟩ (lo, hi) ⟨(d1, d2), (l1, l2)⟩ cell d (s1, s2)) ≠ [] := fun e => by have := HFL.out; rw [e] at this; cases this
    have hs2 := hull_snoc hne (u1, u2)
    rw [HHU.out] at hs2
    have HF2 : Hid (false = (((List.range (k + 1)).filter (bitB (n : Int))).map fun d => setupZ ⟨WW, HH, SS, ss⟩ (lo, hi) ⟨(d1, d2), (l1, l2)⟩ cell d (s1, s2)).isEmpty) := by show _ = _; rw [HLS.out]; simp
    rw [← HLS.out] at hs2
    simp only at hs2
    clear hne HLS HHU HFL
    by_cases h1 : u1 < x
    all_goals by_cases h2 : y < u2
    ·
     have e1 : min x u1 = u1 := by omega
     have e2 : max y u2 = u2 := by omega
     rw [e1, e2] at hs2
     have HH2 := Lib.hid hs2
     clear e1 e2 hs2
     have cb140 := kcl0 Hb14
     have cb141 := kcl1 Hb14
     have cb110 := kcl0 Hb11
     have cb111 := kcl1 Hb11
     have zb110 : Va52.frozen? ⟨b11, 0, none⟩ = false := Hb11.out.frozen 0
     have zb111 : Va52.frozen? ⟨b11, 1, none⟩ = false := Hb11.out.frozen 1
     go_upto_region 4 with (fail)
     clear cb140 cb141 cb110 cb111
     clear zb110 zb111
     obtain ⟨Va131, hV⟩ : ∃ X, (Va52.setCell ⟨b11, 0, none⟩ (.int .i64 (u1))).setCell ⟨b11, 1, none⟩ (.int .i64 (u2)) = X := ⟨_, rfl⟩
     replace Hb5 : Hid (Blk Va131 b5 24 #[.int .i64 (WW), .int .i64 (HH), .int .i64 (SS), .slice A ss.length c]) := by rw [← hV]; exact ((Hb5.out.far_ (p := ⟨b11, 0, none⟩) nb5b11 _).far_ (p := ⟨b11, 1, none⟩) nb5b11 _)
     replace Hb6 : Hid (Blk Va131 b6 26 #[.int .i64 (lo), .int .i64 (hi)]) := by rw [← hV]; exact ((Hb6.out.far_ (p := ⟨b11, 0, none⟩) nb6b11 _).far_ (p := ⟨b11, 1, none⟩) nb6b11 _)
     replace Hb7 : Hid (Blk Va131 b7 40 #[.int .i64 (d1), .int .i64 (d2), .int .i64 (l1), .int .i64 (l2)]) := by rw [← hV]; exact ((Hb7.out.far_ (p := ⟨b11, 0, none⟩) nb7b11 _).far_ (p := ⟨b11, 1, none⟩) nb7b11 _)
     replace Hb9 : Hid (Blk Va131 b9 44 #[.int .i64 (s1), .int .i64 (s2), .int .i64 ((n : Int)), .int .i64 (p1), .int .i64 (p2)]) := by rw [← hV]; exact ((Hb9.out.far_ (p := ⟨b11, 0, none⟩) nb9b11 _).far_ (p := ⟨b11, 1, none⟩) nb9b11 _)
     replace Hb10 : Hid (Blk Va131 b10 26 #[.int .i64 (0), .int .i64 (0)]) := by rw [← hV]; exact ((Hb10.out.far_ (p := ⟨b11, 0, none⟩) nb10b11 _).far_ (p := ⟨b11, 1, none⟩) nb10b11 _)
     replace Hb11 : Hid (Blk Va131 b11 26 #[.int .i64 (u1), .int .i64 (u2)]) := by rw [← hV]; exact ((Hb11.out.set_ 0 (.int .i64 (u1))).set_ 1 (.int .i64 (u2)))
     replace Hb14 : Hid (Blk Va131 b14 26 #[.int .i64 (u1), .int .i64 (u2)]) := by rw [← hV]; exact ((Hb14.out.far_ (p := ⟨b11, 0, none⟩) nb14b11 _).far_ (p := ⟨b11, 1, none⟩) nb14b11 _)
     replace HB : Hid (Below w.heap.size w Va131) := by rw [← hV]; exact ((HB.out.setCell (p := ⟨b11, 0, none⟩) gb11 _).setCell (p := ⟨b11, 1, none⟩) gb11 _)
     replace HP : Hid (Below Va1.heap.size Va1 Va131) := by rw [← hV]; exact ((HP.out.setCell (p := ⟨b11, 0, none⟩) gb11_HP _).setCell (p := ⟨b11, 1, none⟩) gb11_HP _)
     rw [hV]
     clear hV
     go_wp2
     go_roundw
     case rel => exact ⟨k + 1, u1, u2, false, by omega, rfl, by go_num, HH2, HF2, Hb11, HP⟩
     case measure => simp [intOf] <;> omega
    ·
     have e1 : min x u1 = u1 := by omega
     have e2 : max y u2 = y := by omega
     rw [e1, e2] at hs2
     have HH2 := Lib.hid hs2
     clear e1 e2 hs2
     have cb140 := kcl0 Hb14
     have cb141 := kcl1 Hb14
     have cb110 := kcl0 Hb11
     have cb111 := kcl1 Hb11
     have zb110 : Va52.frozen? ⟨b11, 0, none⟩ = false := Hb11.out.frozen 0
     have zb111 : Va52.frozen? ⟨b11, 1, none⟩ = false := Hb11.out.frozen 1
     go_upto_region 4 with (fail)
     clear cb140 cb141 cb110 cb111
     clear zb110 zb111
     obtain ⟨Va131, hV⟩ : ∃ X, (Va52.setCell ⟨b11, 0, none⟩ (.int .i64 (u1))).setCell ⟨b11, 1, none⟩ (.int .i64 (y)) = X := ⟨_, rfl⟩
     replace Hb5 : Hid (Blk Va131 b5 24 #[.int .i64 (WW), .int .i64 (HH), .int .i64 (SS), .slice A ss.length c]) := by rw [← hV]; exact ((Hb5.out.far_ (p := ⟨b11, 0, none⟩) nb5b11 _).far_ (p := ⟨b11, 1, none⟩) nb5b11 _)
     replace Hb6 : Hid (Blk Va131 b6 26 #[.int .i64 (lo), .int .i64 (hi)]) := by rw [← hV]; exact ((Hb6.out.far_ (p := ⟨b11, 0, none⟩) nb6b11 _).far_ (p := ⟨b11, 1, none⟩) nb6b11 _)
     replace Hb7 : Hid (Blk Va131 b7 40 #[.int .i64 (d1), .int .i64 (d2), .int .i64 (l1), .int .i64 (l2)]) := by rw [← hV]; exact ((Hb7.out.far_ (p := ⟨b11, 0, none⟩) nb7b11 _).far_ (p := ⟨b11, 1, none⟩) nb7b11 _)
     replace Hb9 : Hid (Blk Va131 b9 44 #[.int .i64 (s1), .int .i64 (s2), .int .i64 ((n : Int)), .int .i64 (p1), .int .i64 (p2)]) := by rw [← hV]; exact ((Hb9.out.far_ (p := ⟨b11, 0, none⟩) nb9b11 _).far_ (p := ⟨b11, 1, none⟩) nb9b11 _)
     replace Hb10 : Hid (Blk Va131 b10 26 #[.int .i64 (0), .int .i64 (0)]) := by rw [← hV]; exact ((Hb10.out.far_ (p := ⟨b11, 0, none⟩) nb10b11 _).far_ (p := ⟨b11, 1, none⟩) nb10b11 _)
     replace Hb11 : Hid (Blk Va131 b11 26 #[.int .i64 (u1), .int .i64 (y)]) := by rw [← hV]; exact ((Hb11.out.set_ 0 (.int .i64 (u1))).set_ 1 (.int .i64 (y)))
     replace Hb14 : Hid (Blk Va131 b14 26 #[.int .i64 (u1), .int .i64 (u2)]) := by rw [← hV]; exact ((Hb14.out.far_ (p := ⟨b11, 0, none⟩) nb14b11 _).far_ (p := ⟨b11, 1, none⟩) nb14b11 _)
     replace HB : Hid (Below w.heap.size w Va131) := by rw [← hV]; exact ((HB.out.setCell (p := ⟨b11, 0, none⟩) gb11 _).setCell (p := ⟨b11, 1, none⟩) gb11 _)
     replace HP : Hid (Below Va1.heap.size Va1 Va131) := by rw [← hV]; exact ((HP.out.setCell (p := ⟨b11, 0, none⟩) gb11_HP _).setCell (p := ⟨b11, 1, none⟩) gb11_HP _)
     rw [hV]
     clear hV
     go_wp2
     go_roundw
     case rel => exact ⟨k + 1, u1, y, false, by omega, rfl, by go_num, HH2, HF2, Hb11, HP⟩
     case measure => simp [intOf] <;> omega
    ·
     have e1 : min x u1 = x := by omega
     have e2 : max y u2 = u2 := by omega
     rw [e1, e2] at hs2
     have HH2 := Lib.hid hs2
     clear e1 e2 hs2
     have cb140 := kcl0 Hb14
     have cb141 := kcl1 Hb14
     have cb110 := kcl0 Hb11
     have cb111 := kcl1 Hb11
     have zb110 : Va52.frozen? ⟨b11, 0, none⟩ = false := Hb11.out.frozen 0
     have zb111 : Va52.frozen? ⟨b11, 1, none⟩ = false := Hb11.out.frozen 1
     go_upto_region 4 with (fail)
     clear cb140 cb141 cb110 cb111
     clear zb110 zb111
     obtain ⟨Va131, hV⟩ : ∃ X, (Va52.setCell ⟨b11, 0, none⟩ (.int .i64 (x))).setCell ⟨b11, 1, none⟩ (.int .i64 (u2)) = X := ⟨_, rfl⟩
     replace Hb5 : Hid (Blk Va131 b5 24 #[.int .i64 (WW), .int .i64 (HH), .int .i64 (SS), .slice A ss.length c]) := by rw [← hV]; exact ((Hb5.out.far_ (p := ⟨b11, 0, none⟩) nb5b11 _).far_ (p := ⟨b11, 1, none⟩) nb5b11 _)
     replace Hb6 : Hid (Blk Va131 b6 26 #[.int .i64 (lo), .int .i64 (hi)]) := by rw [← hV]; exact ((Hb6.out.far_ (p := ⟨b11, 0, none⟩) nb6b11 _).far_ (p := ⟨b11, 1, none⟩) nb6b11 _)
     replace Hb7 : Hid (Blk Va131 b7 40 #[.int .i64 (d1), .int .i64 (d2), .int .i64 (l1), .int .i64 (l2)]) := by rw [← hV]; exact ((Hb7.out.far_ (p := ⟨b11, 0, none⟩) nb7b11 _).far_ (p := ⟨b11, 1, none⟩) nb7b11 _)
     replace Hb9 : Hid (Blk Va131 b9 44 #[.int .i64 (s1), .int .i64 (s2), .int .i64 ((n : Int)), .int .i64 (p1), .int .i64 (p2)]) := by rw [← hV]; exact ((Hb9.out.far_ (p := ⟨b11, 0, none⟩) nb9b11 _).far_ (p := ⟨b11, 1, none⟩) nb9b11 _)
     replace Hb10 : Hid (Blk Va131 b10 26 #[.int .i64 (0), .int .i64 (0)]) := by rw [← hV]; exact ((Hb10.out.far_ (p := ⟨b11, 0, none⟩) nb10b11 _).far_ (p := ⟨b11, 1, none⟩) nb10b11 _)
     replace Hb11 : Hid (Blk Va131 b11 26 #[.int .i64 (x), .int .i64 (u2)]) := by rw [← hV]; exact ((Hb11.out.set_ 0 (.int .i64 (x))).set_ 1 (.int .i64 (u2)))
     replace Hb14 : Hid (Blk Va131 b14 26 #[.int .i64 (u1), .int .i64 (u2)]) := by rw [← hV]; exact ((Hb14.out.far_ (p := ⟨b11, 0, none⟩) nb14b11 _).far_ (p := ⟨b11, 1, none⟩) nb14b11 _)
     replace HB : Hid (Below w.heap.size w Va131) := by rw [← hV]; exact ((HB.out.setCell (p := ⟨b11, 0, none⟩) gb11 _).setCell (p := ⟨b11, 1, none⟩) gb11 _)
     replace HP : Hid (Below Va1.heap.size Va1 Va131) := by rw [← hV]; exact ((HP.out.setCell (p := ⟨b11, 0, none⟩) gb11_HP _).setCell (p := ⟨b11, 1, none⟩) gb11_HP _)
     rw [hV]
     clear hV
     go_wp2
     go_roundw
     case rel => exact ⟨k + 1, x, u2, false, by omega, rfl, by go_num, HH2, HF2, Hb11, HP⟩
     case measure => simp [intOf] <;> omega
    ·
     have e1 : min x u1 = x := by omega
     have e2 : max y u2 = y := by omega
     rw [e1, e2] at hs2
     have HH2 := Lib.hid hs2
     clear e1 e2 hs2
     have cb140 := kcl0 Hb14
     have cb141 := kcl1 Hb14
     have cb110 := kcl0 Hb11
     have cb111 := kcl1 Hb11
     have zb110 : Va52.frozen? ⟨b11, 0, none⟩ = false := Hb11.out.frozen 0
     have zb111 : Va52.frozen? ⟨b11, 1, none⟩ = false := Hb11.out.frozen 1
     go_upto_region 4 with (fail)
     clear cb140 cb141 cb110 cb111
     clear zb110 zb111
     obtain ⟨Va131, hV⟩ : ∃ X, (Va52.setCell ⟨b11, 0, none⟩ (.int .i64 (x))).setCell ⟨b11, 1, none⟩ (.int .i64 (y)) = X := ⟨_, rfl⟩
     replace Hb5 : Hid (Blk Va131 b5 24 #[.int .i64 (WW), .int .i64 (HH), .int .i64 (SS), .slice A ss.length c]) := by rw [← hV]; exact ((Hb5.out.far_ (p := ⟨b11, 0, none⟩) nb5b11 _).far_ (p := ⟨b11, 1, none⟩) nb5b11 _)
     replace Hb6 : Hid (Blk Va131 b6 26 #[.int .i64 (lo), .int .i64 (hi)]) := by rw [← hV]; exact ((Hb6.out.far_ (p := ⟨b11, 0, none⟩) nb6b11 _).far_ (p := ⟨b11, 1, none⟩) nb6b11 _)
     replace Hb7 : Hid (Blk Va131 b7 40 #[.int .i64 (d1), .int .i64 (d2), .int .i64 (l1), .int .i64 (l2)]) := by rw [← hV]; exact ((Hb7.out.far_ (p := ⟨b11, 0, none⟩) nb7b11 _).far_ (p := ⟨b11, 1, none⟩) nb7b11 _)
     replace Hb9 : Hid (Blk Va131 b9 44 #[.int .i64 (s1), .int .i64 (s2), .int .i64 ((n : Int)), .int .i64 (p1), .int .i64 (p2)]) := by rw [← hV]; exact ((Hb9.out.far_ (p := ⟨b11, 0, none⟩) nb9b11 _).far_ (p := ⟨b11, 1, none⟩) nb9b11 _)
     replace Hb10 : Hid (Blk Va131 b10 26 #[.int .i64 (0), .int .i64 (0)]) := by rw [← hV]; exact ((Hb10.out.far_ (p := ⟨b11, 0, none⟩) nb10b11 _).far_ (p := ⟨b11, 1, none⟩) nb10b11 _)
     replace Hb11 : Hid (Blk Va131 b11 26 #[.int .i64 (x), .int .i64 (y)]) := by rw [← hV]; exact ((Hb11.out.set_ 0 (.int .i64 (x))).set_ 1 (.int .i64 (y)))
     replace Hb14 : Hid (Blk Va131 b14 26 #[.int .i64 (u1), .int .i64 (u2)]) := by rw [← hV]; exact ((Hb14.out.far_ (p := ⟨b11, 0, none⟩) nb14b11 _).far_ (p := ⟨b11, 1, none⟩) nb14b11 _)
     replace HB : Hid (Below w.heap.size w Va131) := by rw [← hV]; exact ((HB.out.setCell (p := ⟨b11, 0, none⟩) gb11 _).setCell (p := ⟨b11, 1, none⟩) gb11 _)
     replace HP : Hid (Below Va1.heap.size Va1 Va131) := by rw [← hV]; exact ((HP.out.setCell (p := ⟨b11, 0, none⟩) gb11_HP _).setCell (p := ⟨b11, 1, none⟩) gb11_HP _)
     rw [hV]
     clear hV
     go_wp2
     go_roundw
     case rel => exact ⟨k + 1, x, y, false, by omega, rfl, by go_num, HH2, HF2, Hb11, HP⟩
     case measure => simp [intOf] <;> omega
  have hke : k = 8 := by omega
  subst hke
  have hhd := HHD.out
  rw [HHU.out] at hhd
  simp only at hhd
  have w1 : IntKind.i64.wrap (x + P1) = x + P1 := IntWalk.i64_in _ (by omega)
  have w2 : IntKind.i64.wrap (y + P2) = y + P2 := IntWalk.i64_in _ (by omega)
  have HHV := HHU
  clear HHU HFL HHD hlt hk
  go_upto_region 11 with (fail)
  clear HP
  have HSV : Hid (∀ U, Below wr.heap.size wr U → U.cell? ⟨b9, 0, none⟩ = some (.int .i64 (s1)) ∧ U.cell? ⟨b9, 1, none⟩ = some (.int .i64 (s2)) ∧ U.cell? ⟨b9, 2, none⟩ = some (.int .i64 ((n : Int))) ∧ U.cell? ⟨b9, 3, none⟩ = some (.int .i64 (p1)) ∧ U.cell? ⟨b9, 4, none⟩ = some (.int .i64 (p2)) ∧ U.cell? ⟨b11, 0, none⟩ = some (.int .i64 (x)) ∧ U.cell? ⟨b11, 1, none⟩ = some (.int .i64 (y))) := fun U hU => by
   have kb9 := Hb9.out.below hU Hb9.out.lt
   have kb11 := Hb11.out.below hU Hb11.out.lt
   exact ⟨kb9.cell 0, kb9.cell 1, kb9.cell 2, kb9.cell 3, kb9.cell 4, kb11.cell 0, kb11.cell 1⟩
  have k0 := HSV.out _ (Below.drew (Below.refl wr.heap.size wr))
  refine wp_region_noPanic ?_
  refine wp_region_L (S := (fun w' => w'.cell? ⟨b9, 0, none⟩ = some (.int .i64 (s1)) ∧ w'.cell? ⟨b9, 1, none⟩ = some (.int .i64 (s2)) ∧ w'.cell? ⟨b9, 2, none⟩ = some (.int .i64 ((n : Int))) ∧ w'.cell? ⟨b9, 3, none⟩ = some (.int .i64 (p1)) ∧ w'.cell? ⟨b9, 4, none⟩ = some (.int .i64 (p2)) ∧ w'.cell? ⟨b11, 0, none⟩ = some (.int .i64 (x)) ∧ w'.cell? ⟨b11, 1, none⟩ = some (.int .i64 (y)))) (ks := [17]) (by kernel_rfl) ?_ (fun hHeld => ?_)
  · (try dsimp only); (exact k0)
  refine tL 0 Zd2 ?_ ?_ ?_
  rotate_left
  · ((intro w hSw; delta Zd2; (try dsimp only at hSw); go_simp) <;> with_reducible rfl)
  try simp only [Zd2, ksz]
  refine tL 2 Zd4 ?_ ?_ ?_
  rotate_left
  · ((intro w hSw; delta Zd4; (try dsimp only at hSw); go_simp) <;> with_reducible rfl)
  try simp only [Zd4, ksz]
  refine tL 8 Zda ?_ ?_ ?_
  rotate_left
  · ((intro w hSw; delta Zda; (try dsimp only at hSw); go_simp) <;> with_reducible rfl)
  try simp only [Zda, ksz]
  refine tL 10 Zdc ?_ ?_ ?_
  rotate_left
  · ((intro w hSw; delta Zdc; (try dsimp only at hSw); go_simp) <;> with_reducible rfl)
  try simp only [Zdc, ksz]
  refine tL 1 Zd3 ?_ ?_ ?_
  rotate_left
  · ((intro w hSw; delta Zd3; (try dsimp only at hSw); go_simp) <;> with_reducible rfl)
  try simp only [Zd3, ksz]
  refine tL 3 Zd5 ?_ ?_ ?_
  rotate_left
  · ((intro w hSw; delta Zd5; (try dsimp only at hSw); go_simp) <;> with_reducible rfl)
  try simp only [Zd5, ksz]
  refine tL 9 Zdb ?_ ?_ ?_
  rotate_left
  · ((intro w hSw; delta Zdb; (try dsimp only at hSw); go_simp) <;> with_reducible rfl)
  try simp only [Zdb, ksz]
  refine tL 11 Zdd ?_ ?_ ?_
  rotate_left
  · ((intro w hSw; delta Zdd; (try dsimp only at hSw); go_simp) <;> with_reducible rfl)
  try simp only [Zdd, ksz]
  refine tL 4 Zd6 ?_ ?_ ?_
  rotate_left
  · ((intro w hSw; delta Zd6; (try dsimp only at hSw); go_simp) <;> with_reducible rfl)
  try simp only [Zd6, ksz]
  refine tL 12 Zde ?_ ?_ ?_
  rotate_left
  · ((intro w hSw; delta Zde; (try dsimp only at hSw); go_simp) <;> with_reducible rfl)
  try simp only [Zde, ksz]
  refine tL 5 Zd7 ?_ ?_ ?_
  rotate_left
  · ((intro w hSw; delta Zd7; (try dsimp only at hSw); go_simp) <;> with_reducible rfl)
  try simp only [Zd7, ksz]
  refine tL 13 Zdf ?_ ?_ ?_
  rotate_left
  · ((intro w hSw; delta Zdf; (try dsimp only at hSw); go_simp) <;> with_reducible rfl)
  try simp only [Zdf, ksz]
  obtain ⟨W0, hW0⟩ : ∃ V, wr.drew = V := ⟨_, rfl⟩; rw [hW0] at hHeld ⊢; have HB0 : Hid (Below wr.heap.size wr W0) := (by rw [← hW0]; exact Below.drew (Below.refl _ _)); clear hW0
  refine wpAnyL_ready (rs := [6]) (by kernel_rfl) (by simp) ?_
  refine AllReadyL.cons (o := Zd8) rfl (fun K hK => ?_) AllReadyL.nil
  delta Zd8
  go_simp
  (refine (rdown_any (2560 * p1) 981 _ (by omega) (by omega) (by omega)).mono ?_; rintro e W1 ⟨rfl, hw⟩; have HB1 : Hid (Below wr.heap.size wr W1) := (by rw [← hw]; exact HB0.out); clear hw; rw [HP1.out])
  refine hK.out _ _ ?_ (fun hHeld => ?_)
  · (try dsimp only); (exact HSV.out _ HB1.out)
  clear hK K
  try simp only [Zd8, ksz]
  refine tL 7 Zd9 ?_ ?_ ?_
  rotate_left
  · ((intro w hSw; delta Zd9; (try dsimp only at hSw); go_simp) <;> with_reducible rfl)
  try simp only [Zd9, ksz]
  refine wpAnyL_ready (rs := [14]) (by kernel_rfl) (by simp) ?_
  refine AllReadyL.cons (o := Zdg) rfl (fun K hK => ?_) AllReadyL.nil
  delta Zdg
  go_simp
  (refine (rup_any (2560 * p2) 981 _ (by omega) (by omega) (by omega)).mono ?_; rintro e W2 ⟨rfl, hw⟩; have HB2 : Hid (Below wr.heap.size wr W2) := (by rw [← hw]; exact HB1.out); clear hw; rw [HP2.out])
  refine hK.out _ _ ?_ (fun hHeld => ?_)
  · (try dsimp only); (exact HSV.out _ HB2.out)
  clear hK K
  try simp only [Zdg, ksz]
  refine tL 15 Zdh ?_ ?_ ?_
  rotate_left
  · ((intro w hSw; delta Zdh; (try dsimp only at hSw); go_simp) <;> with_reducible rfl)
  try simp only [Zdh, ksz]
  refine tL 16 Zdi ?_ ?_ ?_
  rotate_left
  · ((intro w hSw; delta Zdi; (try dsimp only at hSw); go_simp) <;> with_reducible rfl)
  try simp only [Zdi, ksz]
  have Gb5 := Lib.hid (Hb5.out.below HB2.out Hb5.out.lt); have Gb6 := Lib.hid (Hb6.out.below HB2.out Hb6.out.lt); have Gb7 := Lib.hid (Hb7.out.below HB2.out Hb7.out.lt); have Gb9 := Lib.hid (Hb9.out.below HB2.out Hb9.out.lt); have Gb10 := Lib.hid (Hb10.out.below HB2.out Hb10.out.lt); have Gb11 := Lib.hid (Hb11.out.below HB2.out Hb11.out.lt); have GHB := Lib.hid (HB.out.trans (HB2.out.mono HB.out.size)); clear Hb5 Hb6 Hb7 Hb9 Hb10 Hb11 HB; have Hb5 := Gb5; clear Gb5; have Hb6 := Gb6; clear Gb6; have Hb7 := Gb7; clear Gb7; have Hb9 := Gb9; clear Gb9; have Hb10 := Gb10; clear Gb10; have Hb11 := Gb11; clear Gb11; have HB := GHB; clear GHB; have cR0 := Hb10.out.cell 0; have zR0 := Hb10.out.frozen 0; have cR1 := Hb10.out.cell 1; have zR1 := Hb10.out.frozen 1; simp only [List.getElem?_toArray, List.getElem?_cons_zero, List.getElem?_cons_succ] at cR0 cR1
  refine wpAnyL_ready (rs := [17]) (by kernel_rfl) (by simp) ?_
  refine AllReadyL.gate (o := Zdj) rfl (by kernel_rfl) (fun K hK => ?_) AllReadyL.nil
  delta Zdj
  go_simp
  refine hK.out _ _ ?_
  clear hK K
  try simp only [Zdj, ksz]
  obtain ⟨Va3, hV⟩ : ∃ V, (W2.setCell ⟨b10, 0, none⟩ (.int .i64 (x + P1))).setCell ⟨b10, 1, none⟩ (.int .i64 (y + P2)) = V := ⟨_, rfl⟩; replace Hb5 : Hid (Blk Va3 b5 24 #[.int .i64 (WW), .int .i64 (HH), .int .i64 (SS), .slice A ss.length c]) := (by rw [← hV]; exact ((Hb5.out.far_ (p := ⟨b10, 0, none⟩) nb5b10 _).far_ (p := ⟨b10, 1, none⟩) nb5b10 _)); replace Hb6 : Hid (Blk Va3 b6 26 #[.int .i64 (lo), .int .i64 (hi)]) := (by rw [← hV]; exact ((Hb6.out.far_ (p := ⟨b10, 0, none⟩) nb6b10 _).far_ (p := ⟨b10, 1, none⟩) nb6b10 _)); replace Hb7 : Hid (Blk Va3 b7 40 #[.int .i64 (d1), .int .i64 (d2), .int .i64 (l1), .int .i64 (l2)]) := (by rw [← hV]; exact ((Hb7.out.far_ (p := ⟨b10, 0, none⟩) nb7b10 _).far_ (p := ⟨b10, 1, none⟩) nb7b10 _)); replace Hb9 : Hid (Blk Va3 b9 44 #[.int .i64 (s1), .int .i64 (s2), .int .i64 ((n : Int)), .int .i64 (p1), .int .i64 (p2)]) := (by rw [← hV]; exact ((Hb9.out.far_ (p := ⟨b10, 0, none⟩) nb9b10 _).far_ (p := ⟨b10, 1, none⟩) nb9b10 _)); replace Hb10 : Hid (Blk Va3 b10 26 #[.int .i64 (x + P1), .int .i64 (y + P2)]) := (by rw [← hV]; exact ((Hb10.out.set_ 0 (.int .i64 (x + P1))).set_ 1 (.int .i64 (y + P2)))); replace Hb11 : Hid (Blk Va3 b11 26 #[.int .i64 (x), .int .i64 (y)]) := (by rw [← hV]; exact ((Hb11.out.far_ (p := ⟨b10, 0, none⟩) nb11b10 _).far_ (p := ⟨b10, 1, none⟩) nb11b10 _)); replace HB : Hid (Below w.heap.size w Va3) := (by rw [← hV]; exact ((HB.out.setCell (p := ⟨b10, 0, none⟩) gb10 _).setCell (p := ⟨b10, 1, none⟩) gb10 _)); rw [hV]; clear hV cR0 zR0 cR1 zR1
  refine wpAnyL_done (by kernel_rfl) ?_ _
  refine NoPanic.normal ?_
  clear HSV k0
  clear hHeld HB0 HB1 HB2
  have cb100 := kcl0 Hb10
  have cb101 := kcl1 Hb10
  go_wp2
  refine bodyPost_ret (v := .agg #[.int .i64 (x + P1), .int .i64 (y + P2)]) (by simp [results, Tryd.results75, go_sem, cb100, cb101]) rfl ⟨by rw [HHV.out], HB.out⟩
set_option maxRecDepth 100000 in
set_option maxHeartbeats 4000000 in
theorem rSteady_any (WW HH SS : Int) (ss : List (Int × Int)) (A : Option Addr) (c : Nat) (lo hi d1 d2 l1 l2 cell s1 s2 n p1 p2 : Int) (w : World) (hs : SpansAt w w.heap.size (.slice A ss.length c) ss) :
 Calls Tryd.prog 28 #[.agg #[.int .i64 (WW), .int .i64 (HH), .int .i64 (SS), .slice A ss.length c], .agg #[.int .i64 lo, .int .i64 hi], .agg #[.int .i64 (d1), .int .i64 (d2), .int .i64 (l1), .int .i64 (l2)], .int .i64 cell, .agg #[.int .i64 (s1), .int .i64 (s2), .int .i64 (n), .int .i64 (p1), .int .i64 (p2)]] w fun e w' => e = .returned (.tuple #[spV (steadyV ⟨WW, HH, SS, ss⟩ (lo, hi) ⟨(d1, d2), (l1, l2)⟩ cell ⟨(s1, s2), n, (p1, p2)⟩), .int .i64 (steadyE ⟨WW, HH, SS, ss⟩ (lo, hi) ⟨(d1, d2), (l1, l2)⟩ cell ⟨(s1, s2), n, (p1, p2)⟩)]) ∧ Below w.heap.size w w' := by
 by_cases h0 : placeE ⟨WW, HH, SS, ss⟩ (lo, hi) ⟨(d1, d2), (l1, l2)⟩ cell = 0
 rotate_left
 · obtain ⟨E0, hE0⟩ : ∃ z, placeE ⟨WW, HH, SS, ss⟩ (lo, hi) ⟨(d1, d2), (l1, l2)⟩ cell = z := ⟨_, rfl⟩
   have EE := Lib.hid (show steadyE ⟨WW, HH, SS, ss⟩ (lo, hi) ⟨(d1, d2), (l1, l2)⟩ cell ⟨(s1, s2), n, (p1, p2)⟩ = E0 by unfold steadyE; rw [andE_left h0, hE0])
   rw [hE0] at h0
   have EV := Lib.hid (show steadyV ⟨WW, HH, SS, ss⟩ (lo, hi) ⟨(d1, d2), (l1, l2)⟩ cell ⟨(s1, s2), n, (p1, p2)⟩ = (0, 0) from if_neg (by rw [EE.out]; exact h0))
   have hb1 : (E0 == 0) = false := beq_eq_false_iff_ne.2 h0
   have H0 := Lib.hid hE0
   clear hE0 h0
   have HSS3 := Lib.hid hs
   clear hs
   go_enter Tryd.func28, Tryd.ntmps28
   go_upto_region 1 with (fail)
   obtain ⟨Va1, hV⟩ : ∃ V, ((((w.alloc (.cells #[.int .i64 (WW), .int .i64 (HH), .int .i64 (SS), .slice A ss.length c] 24)).alloc (.cells #[.int .i64 (lo), .int .i64 (hi)] 26)).alloc (.cells #[.int .i64 (d1), .int .i64 (d2), .int .i64 (l1), .int .i64 (l2)] 40)).alloc (.cells #[.int .i64 (s1), .int .i64 (s2), .int .i64 (n), .int .i64 (p1), .int .i64 (p2)] 44)).alloc (.cells #[.int .i64 (0), .int .i64 (0)] 26) = V := ⟨_, rfl⟩
   have Kb5 : Hid (Blk Va1 (w.heap.size) 24 #[.int .i64 (WW), .int .i64 (HH), .int .i64 (SS), .slice A ss.length c]) := by rw [← hV]; exact ((((Blk.new' _ _ _ (by simp)).alloc _).alloc _).alloc _).alloc _
   have Kb6 : Hid (Blk Va1 (w.heap.size + 1) 26 #[.int .i64 (lo), .int .i64 (hi)]) := by rw [← hV]; exact (((Blk.new' _ _ _ (by simp)).alloc _).alloc _).alloc _
   have Kb7 : Hid (Blk Va1 (w.heap.size + 1 + 1) 40 #[.int .i64 (d1), .int .i64 (d2), .int .i64 (l1), .int .i64 (l2)]) := by rw [← hV]; exact ((Blk.new' _ _ _ (by simp)).alloc _).alloc _
   have Kb9 : Hid (Blk Va1 (w.heap.size + 1 + 1 + 1) 44 #[.int .i64 (s1), .int .i64 (s2), .int .i64 (n), .int .i64 (p1), .int .i64 (p2)]) := by rw [← hV]; exact (Blk.new' _ _ _ (by simp)).alloc _
   have Kb10 : Hid (Blk Va1 (w.heap.size + 1 + 1 + 1 + 1) 26 #[.int .i64 (0), .int .i64 (0)]) := by rw [← hV]; exact Blk.new' _ _ _ (by simp)
   have GHB : Hid (Below w.heap.size w Va1) := by rw [← hV]; exact (by repeat (first | exact Below.refl _ _ | assumption | refine Below.drew ?_ | refine Below.drewN' ?_ _ | (refine Below.alloc ?_ (by simp <;> omega) _) | (refine Below.setCell ?_ (by simp <;> omega) _)))
   have HZ : Hid (Below w.heap.size w Va1) := GHB
   have GHSS3 := Lib.hid (HSS3.out.later HZ.out (Nat.le_refl _))
   rw [hV]
   clear hV HZ HSS3
   have HB := GHB
   clear GHB
   have HSS3 := GHSS3
   clear GHSS3
   obtain ⟨b10, hqb10⟩ : ∃ b, w.heap.size + 1 + 1 + 1 + 1 = b := ⟨_, rfl⟩
   obtain ⟨b9, hqb9⟩ : ∃ b, w.heap.size + 1 + 1 + 1 = b := ⟨_, rfl⟩
   obtain ⟨b7, hqb7⟩ : ∃ b, w.heap.size + 1 + 1 = b := ⟨_, rfl⟩
   obtain ⟨b6, hqb6⟩ : ∃ b, w.heap.size + 1 = b := ⟨_, rfl⟩
   obtain ⟨b5, hqb5⟩ : ∃ b, w.heap.size = b := ⟨_, rfl⟩
   have gb5 : w.heap.size ≤ b5 := by omega
   have gb6 : w.heap.size ≤ b6 := by omega
   have nb6b5 : ¬ b6 = b5 := by omega
   have nb5b6 : ¬ b5 = b6 := by omega
   have gb7 : w.heap.size ≤ b7 := by omega
   have nb7b5 : ¬ b7 = b5 := by omega
   have nb5b7 : ¬ b5 = b7 := by omega
   have nb7b6 : ¬ b7 = b6 := by omega
   have nb6b7 : ¬ b6 = b7 := by omega
   have gb9 : w.heap.size ≤ b9 := by omega
   have nb9b5 : ¬ b9 = b5 := by omega
   have nb5b9 : ¬ b5 = b9 := by omega
   have nb9b6 : ¬ b9 = b6 := by omega
   have nb6b9 : ¬ b6 = b9 := by omega
   have nb9b7 : ¬ b9 = b7 := by omega
   have nb7b9 : ¬ b7 = b9 := by omega
   have gb10 : w.heap.size ≤ b10 := by omega
   have nb10b5 : ¬ b10 = b5 := by omega
   have nb5b10 : ¬ b5 = b10 := by omega
   have nb10b6 : ¬ b10 = b6 := by omega
   have nb6b10 : ¬ b6 = b10 := by omega
   have nb10b7 : ¬ b10 = b7 := by omega
   have nb7b10 : ¬ b7 = b10 := by omega
   have nb10b9 : ¬ b10 = b9 := by omega
   have nb9b10 : ¬ b9 = b10 := by omega
   rw [hqb10] at Kb10 ⊢
   clear hqb10
   rw [hqb9] at Kb9 ⊢
   clear hqb9
   rw [hqb7] at Kb7 ⊢
   clear hqb7
   rw [hqb6] at Kb6 ⊢
   clear hqb6
   have HN : Hid (w.heap.size = b5) := hqb5
   rw [hqb5] at Kb5 ⊢
   clear hqb5
   have Hb5 := Kb5
   clear Kb5
   have Hb6 := Kb6
   clear Kb6
   have Hb7 := Kb7
   clear Kb7
   have Hb9 := Kb9
   clear Kb9
   have Hb10 := Kb10
   clear Kb10
   have cb50 := kcl0 Hb5
   have cb51 := kcl1 Hb5
   have cb52 := kcl2 Hb5
   have cb53 := kcl3 Hb5
   have cb60 := kcl0 Hb6
   have cb61 := kcl1 Hb6
   have cb70 := kcl0 Hb7
   have cb71 := kcl1 Hb7
   have cb72 := kcl2 Hb7
   have cb73 := kcl3 Hb7
   go_wp2_with fail
   refine (rplace_any WW HH SS ss A c lo hi d1 d2 l1 l2 cell _ HSS3.out).mono ?_
   rintro e Va2 ⟨rfl, hb⟩
   have HZ := Lib.hid hb
   clear hb
   rw [H0.out]
   clear cb50 cb51 cb52 cb53 cb60 cb61 cb70 cb71 cb72 cb73
   replace Hb5 := kbl Hb5 HZ
   replace Hb6 := kbl Hb6 HZ
   replace Hb7 := kbl Hb7 HZ
   replace Hb9 := kbl Hb9 HZ
   replace Hb10 := kbl Hb10 HZ
   replace HB := ktr' HB HZ
   replace HSS3 := Lib.hid (HSS3.out.later HZ.out (Nat.le_refl _))
   clear HZ
   have cb100 := kcl0 Hb10
   have cb101 := kcl1 Hb10
   have zb100 : Va2.frozen? ⟨b10, 0, none⟩ = false := Hb10.out.frozen 0
   have zb101 : Va2.frozen? ⟨b10, 1, none⟩ = false := Hb10.out.frozen 1
   go_wp2
   have hR := fun x y => span_res2 Hb10.out x y
   refine bodyPost_ret (v := .tuple #[.agg #[.int .i64 (0), .int .i64 (0)], .int .i64 E0]) (by simp [results, Tryd.results28, go_sem, hR]) rfl ⟨by rw [EV.out, EE.out]; rfl, ?_⟩
   exact (HB.out.setCell (p := ⟨b10, 0, none⟩) gb10 _).setCell (p := ⟨b10, 1, none⟩) (by exact gb10) _
 have H0 := Lib.hid h0
 by_cases h1 : wiE ⟨(s1, s2), n, (p1, p2)⟩ = 0
 rotate_left
 · obtain ⟨E0, hE0⟩ : ∃ z, wiE ⟨(s1, s2), n, (p1, p2)⟩ = z := ⟨_, rfl⟩
   have EE := Lib.hid (show steadyE ⟨WW, HH, SS, ss⟩ (lo, hi) ⟨(d1, d2), (l1, l2)⟩ cell ⟨(s1, s2), n, (p1, p2)⟩ = E0 by unfold steadyE; rw [andE_right h0, hE0])
   rw [hE0] at h1
   have EV := Lib.hid (show steadyV ⟨WW, HH, SS, ss⟩ (lo, hi) ⟨(d1, d2), (l1, l2)⟩ cell ⟨(s1, s2), n, (p1, p2)⟩ = (0, 0) from if_neg (by rw [EE.out]; exact h1))
   have hb1 : (E0 == 0) = false := beq_eq_false_iff_ne.2 h1
   have H1 := Lib.hid hE0
   clear hE0 h0 h1
   have HSS3 := Lib.hid hs
   clear hs
   go_enter Tryd.func28, Tryd.ntmps28
   go_upto_region 1 with (fail)
   obtain ⟨Va31, hV⟩ : ∃ V, ((((w.alloc (.cells #[.int .i64 (WW), .int .i64 (HH), .int .i64 (SS), .slice A ss.length c] 24)).alloc (.cells #[.int .i64 (lo), .int .i64 (hi)] 26)).alloc (.cells #[.int .i64 (d1), .int .i64 (d2), .int .i64 (l1), .int .i64 (l2)] 40)).alloc (.cells #[.int .i64 (s1), .int .i64 (s2), .int .i64 (n), .int .i64 (p1), .int .i64 (p2)] 44)).alloc (.cells #[.int .i64 (0), .int .i64 (0)] 26) = V := ⟨_, rfl⟩
   have Kb5 : Hid (Blk Va31 (w.heap.size) 24 #[.int .i64 (WW), .int .i64 (HH), .int .i64 (SS), .slice A ss.length c]) := by rw [← hV]; exact ((((Blk.new' _ _ _ (by simp)).alloc _).alloc _).alloc _).alloc _
   have Kb6 : Hid (Blk Va31 (w.heap.size + 1) 26 #[.int .i64 (lo), .int .i64 (hi)]) := by rw [← hV]; exact (((Blk.new' _ _ _ (by simp)).alloc _).alloc _).alloc _
   have Kb7 : Hid (Blk Va31 (w.heap.size + 1 + 1) 40 #[.int .i64 (d1), .int .i64 (d2), .int .i64 (l1), .int .i64 (l2)]) := by rw [← hV]; exact ((Blk.new' _ _ _ (by simp)).alloc _).alloc _
   have Kb9 : Hid (Blk Va31 (w.heap.size + 1 + 1 + 1) 44 #[.int .i64 (s1), .int .i64 (s2), .int .i64 (n), .int .i64 (p1), .int .i64 (p2)]) := by rw [← hV]; exact (Blk.new' _ _ _ (by simp)).alloc _
   have Kb10 : Hid (Blk Va31 (w.heap.size + 1 + 1 + 1 + 1) 26 #[.int .i64 (0), .int .i64 (0)]) := by rw [← hV]; exact Blk.new' _ _ _ (by simp)
   have GHB : Hid (Below w.heap.size w Va31) := by rw [← hV]; exact (by repeat (first | exact Below.refl _ _ | assumption | refine Below.drew ?_ | refine Below.drewN' ?_ _ | (refine Below.alloc ?_ (by simp <;> omega) _) | (refine Below.setCell ?_ (by simp <;> omega) _)))
   have HZ : Hid (Below w.heap.size w Va31) := GHB
   have GHSS3 := Lib.hid (HSS3.out.later HZ.out (Nat.le_refl _))
   rw [hV]
   clear hV HZ HSS3
   have HB := GHB
   clear GHB
   have HSS3 := GHSS3
   clear GHSS3
   obtain ⟨b10, hqb10⟩ : ∃ b, w.heap.size + 1 + 1 + 1 + 1 = b := ⟨_, rfl⟩
   obtain ⟨b9, hqb9⟩ : ∃ b, w.heap.size + 1 + 1 + 1 = b := ⟨_, rfl⟩
   obtain ⟨b7, hqb7⟩ : ∃ b, w.heap.size + 1 + 1 = b := ⟨_, rfl⟩
   obtain ⟨b6, hqb6⟩ : ∃ b, w.heap.size + 1 = b := ⟨_, rfl⟩
   obtain ⟨b5, hqb5⟩ : ∃ b, w.heap.size = b := ⟨_, rfl⟩
   have gb5 : w.heap.size ≤ b5 := by omega
   have gb6 : w.heap.size ≤ b6 := by omega
   have nb6b5 : ¬ b6 = b5 := by omega
   have nb5b6 : ¬ b5 = b6 := by omega
   have gb7 : w.heap.size ≤ b7 := by omega
   have nb7b5 : ¬ b7 = b5 := by omega
   have nb5b7 : ¬ b5 = b7 := by omega
   have nb7b6 : ¬ b7 = b6 := by omega
   have nb6b7 : ¬ b6 = b7 := by omega
   have gb9 : w.heap.size ≤ b9 := by omega
   have nb9b5 : ¬ b9 = b5 := by omega
   have nb5b9 : ¬ b5 = b9 := by omega
   have nb9b6 : ¬ b9 = b6 := by omega
   have nb6b9 : ¬ b6 = b9 := by omega
   have nb9b7 : ¬ b9 = b7 := by omega
   have nb7b9 : ¬ b7 = b9 := by omega
   have gb10 : w.heap.size ≤ b10 := by omega
   have nb10b5 : ¬ b10 = b5 := by omega
   have nb5b10 : ¬ b5 = b10 := by omega
   have nb10b6 : ¬ b10 = b6 := by omega
   have nb6b10 : ¬ b6 = b10 := by omega
   have nb10b7 : ¬ b10 = b7 := by omega
   have nb7b10 : ¬ b7 = b10 := by omega
   have nb10b9 : ¬ b10 = b9 := by omega
   have nb9b10 : ¬ b9 = b10 := by omega
   rw [hqb10] at Kb10 ⊢
   clear hqb10
   rw [hqb9] at Kb9 ⊢
   clear hqb9
   rw [hqb7] at Kb7 ⊢
   clear hqb7
   rw [hqb6] at Kb6 ⊢
   clear hqb6
   have HN : Hid (w.heap.size = b5) := hqb5
   rw [hqb5] at Kb5 ⊢
   clear hqb5
   have Hb5 := Kb5
   clear Kb5
   have Hb6 := Kb6
   clear Kb6
   have Hb7 := Kb7
   clear Kb7
   have Hb9 := Kb9
   clear Kb9
   have Hb10 := Kb10
   clear Kb10
   have cb50 := kcl0 Hb5
   have cb51 := kcl1 Hb5
   have cb52 := kcl2 Hb5
   have cb53 := kcl3 Hb5
   have cb60 := kcl0 Hb6
   have cb61 := kcl1 Hb6
   have cb70 := kcl0 Hb7
   have cb71 := kcl1 Hb7
   have cb72 := kcl2 Hb7
   have cb73 := kcl3 Hb7
   go_wp2_with fail
   refine (rplace_any WW HH SS ss A c lo hi d1 d2 l1 l2 cell _ HSS3.out).mono ?_
   rintro e Va32 ⟨rfl, hb⟩
   have HZ := Lib.hid hb
   clear hb
   rw [H0.out]
   clear cb50 cb51 cb52 cb53 cb60 cb61 cb70 cb71 cb72 cb73
   replace Hb5 := kbl Hb5 HZ
   replace Hb6 := kbl Hb6 HZ
   replace Hb7 := kbl Hb7 HZ
   replace Hb9 := kbl Hb9 HZ
   replace Hb10 := kbl Hb10 HZ
   replace HB := ktr' HB HZ
   replace HSS3 := Lib.hid (HSS3.out.later HZ.out (Nat.le_refl _))
   clear HZ
   have cb90 := kcl0 Hb9
   have cb91 := kcl1 Hb9
   have cb92 := kcl2 Hb9
   have cb93 := kcl3 Hb9
   have cb94 := kcl4 Hb9
   go_wp2_with fail
   refine (rCheckWind_any s1 s2 n p1 p2 _).mono ?_
   rintro e Va33 ⟨rfl, hb⟩
   have HZ := Lib.hid hb
   clear hb
   rw [H1.out]
   clear cb90 cb91 cb92 cb93 cb94
   replace Hb5 := kbl Hb5 HZ
   replace Hb6 := kbl Hb6 HZ
   replace Hb7 := kbl Hb7 HZ
   replace Hb9 := kbl Hb9 HZ
   replace Hb10 := kbl Hb10 HZ
   replace HB := ktr' HB HZ
   replace HSS3 := Lib.hid (HSS3.out.later HZ.out (Nat.le_refl _))
   clear HZ
   have cb100 := kcl0 Hb10
   have cb101 := kcl1 Hb10
   have zb100 : Va33.frozen? ⟨b10, 0, none⟩ = false := Hb10.out.frozen 0
   have zb101 : Va33.frozen? ⟨b10, 1, none⟩ = false := Hb10.out.frozen 1
   go_wp2
   have hR := fun x y => span_res2 Hb10.out x y
   refine bodyPost_ret (v := .tuple #[.agg #[.int .i64 (0), .int .i64 (0)], .int .i64 E0]) (by simp [results, Tryd.results28, go_sem, hR]) rfl ⟨by rw [EV.out, EE.out]; rfl, ?_⟩
   exact (HB.out.setCell (p := ⟨b10, 0, none⟩) gb10 _).setCell (p := ⟨b10, 1, none⟩) (by exact gb10) _
 · have EE := Lib.hid (show steadyE ⟨WW, HH, SS, ss⟩ (lo, hi) ⟨(d1, d2), (l1, l2)⟩ cell ⟨(s1, s2), n, (p1, p2)⟩ = 0 by unfold steadyE; rw [andE_right h0, h1])
   obtain ⟨⟨hck, hsk⟩, hm, hcc⟩ := placeE_zero h0
   obtain ⟨-, -, hn1, hn2⟩ := wiE_zero h1
   simp only at hn1 hn2
   obtain ⟨n, rfl⟩ : ∃ k : Nat, n = (k : Int) := ⟨n.toNat, by omega⟩
   obtain ⟨⟨z1, z2⟩, hz⟩ : ∃ z, steadyZ ⟨WW, HH, SS, ss⟩ (lo, hi) ⟨(d1, d2), (l1, l2)⟩ cell ⟨(s1, s2), (n : Int), (p1, p2)⟩ = z := ⟨_, rfl⟩
   have EV := Lib.hid (show steadyV ⟨WW, HH, SS, ss⟩ (lo, hi) ⟨(d1, d2), (l1, l2)⟩ cell ⟨(s1, s2), (n : Int), (p1, p2)⟩ = (z1, z2) by unfold steadyV; rw [if_pos EE.out, hz])
   have HV := Lib.hid hz
   have HNN := Lib.hid (show n < 256 by omega)
   have H1 := Lib.hid h1
   have HCK := Lib.hid hck
   have HSK := Lib.hid hsk
   have HM := Lib.hid hm
   have HC := Lib.hid hcc
   clear h0 h1 hck hsk hm hcc hz hn1 hn2
   have HSS3 := Lib.hid hs
   clear hs
   go_enter Tryd.func28, Tryd.ntmps28
   go_upto_region 1 with (fail)
   obtain ⟨Va61, hV⟩ : ∃ V, ((((w.alloc (.cells #[.int .i64 (WW), .int .i64 (HH), .int .i64 (SS), .slice A ss.length c] 24)).alloc (.cells #[.int .i64 (lo), .int .i64 (hi)] 26)).alloc (.cells #[.int .i64 (d1), .int .i64 (d2), .int .i64 (l1), .int .i64 (l2)] 40)).alloc (.cells #[.int .i64 (s1), .int .i64 (s2), .int .i64 ((n : Int)), .int .i64 (p1), .int .i64 (p2)] 44)).alloc (.cells #[.int .i64 (0), .int .i64 (0)] 26) = V := ⟨_, rfl⟩
   have Kb5 : Hid (Blk Va61 (w.heap.size) 24 #[.int .i64 (WW), .int .i64 (HH), .int .i64 (SS), .slice A ss.length c]) := by rw [← hV]; exact ((((Blk.new' _ _ _ (by simp)).alloc _).alloc _).alloc _).alloc _
   have Kb6 : Hid (Blk Va61 (w.heap.size + 1) 26 #[.int .i64 (lo), .int .i64 (hi)]) := by rw [← hV]; exact (((Blk.new' _ _ _ (by simp)).alloc _).alloc _).alloc _
   have Kb7 : Hid (Blk Va61 (w.heap.size + 1 + 1) 40 #[.int .i64 (d1), .int .i64 (d2), .int .i64 (l1), .int .i64 (l2)]) := by rw [← hV]; exact ((Blk.new' _ _ _ (by simp)).alloc _).alloc _
   have Kb9 : Hid (Blk Va61 (w.heap.size + 1 + 1 + 1) 44 #[.int .i64 (s1), .int .i64 (s2), .int .i64 ((n : Int)), .int .i64 (p1), .int .i64 (p2)]) := by rw [← hV]; exact (Blk.new' _ _ _ (by simp)).alloc _
   have Kb10 : Hid (Blk Va61 (w.heap.size + 1 + 1 + 1 + 1) 26 #[.int .i64 (0), .int .i64 (0)]) := by rw [← hV]; exact Blk.new' _ _ _ (by simp)
   have GHB : Hid (Below w.heap.size w Va61) := by rw [← hV]; exact (by repeat (first | exact Below.refl _ _ | assumption | refine Below.drew ?_ | refine Below.drewN' ?_ _ | (refine Below.alloc ?_ (by simp <;> omega) _) | (refine Below.setCell ?_ (by simp <;> omega) _)))
   have HZ : Hid (Below w.heap.size w Va61) := GHB
   have GHSS3 := Lib.hid (HSS3.out.later HZ.out (Nat.le_refl _))
   rw [hV]
   clear hV HZ HSS3
   have HB := GHB
   clear GHB
   have HSS3 := GHSS3
   clear GHSS3
   obtain ⟨b10, hqb10⟩ : ∃ b, w.heap.size + 1 + 1 + 1 + 1 = b := ⟨_, rfl⟩
   obtain ⟨b9, hqb9⟩ : ∃ b, w.heap.size + 1 + 1 + 1 = b := ⟨_, rfl⟩
   obtain ⟨b7, hqb7⟩ : ∃ b, w.heap.size + 1 + 1 = b := ⟨_, rfl⟩
   obtain ⟨b6, hqb6⟩ : ∃ b, w.heap.size + 1 = b := ⟨_, rfl⟩
   obtain ⟨b5, hqb5⟩ : ∃ b, w.heap.size = b := ⟨_, rfl⟩
   have gb5 : w.heap.size ≤ b5 := by omega
   have gb6 : w.heap.size ≤ b6 := by omega
   have nb6b5 : ¬ b6 = b5 := by omega
   have nb5b6 : ¬ b5 = b6 := by omega
   have gb7 : w.heap.size ≤ b7 := by omega
   have nb7b5 : ¬ b7 = b5 := by omega
   have nb5b7 : ¬ b5 = b7 := by omega
   have nb7b6 : ¬ b7 = b6 := by omega
   have nb6b7 : ¬ b6 = b7 := by omega
   have gb9 : w.heap.size ≤ b9 := by omega
   have nb9b5 : ¬ b9 = b5 := by omega
   have nb5b9 : ¬ b5 = b9 := by omega
   have nb9b6 : ¬ b9 = b6 := by omega
   have nb6b9 : ¬ b6 = b9 := by omega
   have nb9b7 : ¬ b9 = b7 := by omega
   have nb7b9 : ¬ b7 = b9 := by omega
   have gb10 : w.heap.size ≤ b10 := by omega
   have nb10b5 : ¬ b10 = b5 := by omega
   have nb5b10 : ¬ b5 = b10 := by omega
   have nb10b6 : ¬ b10 = b6 := by omega
   have nb6b10 : ¬ b6 = b10 := by omega
   have nb10b7 : ¬ b10 = b7 := by omega
   have nb7b10 : ¬ b7 = b10 := by omega
   have nb10b9 : ¬ b10 = b9 := by omega
   have nb9b10 : ¬ b9 = b10 := by omega
   rw [hqb10] at Kb10 ⊢
   clear hqb10
   rw [hqb9] at Kb9 ⊢
   clear hqb9
   rw [hqb7] at Kb7 ⊢
   clear hqb7
   rw [hqb6] at Kb6 ⊢
   clear hqb6
   have HN : Hid (w.heap.size = b5) := hqb5
   rw [hqb5] at Kb5 ⊢
   clear hqb5
   have Hb5 := Kb5
   clear Kb5
   have Hb6 := Kb6
   clear Kb6
   have Hb7 := Kb7
   clear Kb7
   have Hb9 := Kb9
   clear Kb9
   have Hb10 := Kb10
   clear Kb10
   have cb50 := kcl0 Hb5
   have cb51 := kcl1 Hb5
   have cb52 := kcl2 Hb5
   have cb53 := kcl3 Hb5
   have cb60 := kcl0 Hb6
   have cb61 := kcl1 Hb6
   have cb70 := kcl0 Hb7
   have cb71 := kcl1 Hb7
   have cb72 := kcl2 Hb7
   have cb73 := kcl3 Hb7
   go_wp2_with fail
   refine (rplace_any WW HH SS ss A c lo hi d1 d2 l1 l2 cell _ HSS3.out).mono ?_
   rintro e Va62 ⟨rfl, hb⟩
   have HZ := Lib.hid hb
   clear hb
   rw [H0.out]
   clear cb50 cb51 cb52 cb53 cb60 cb61 cb70 cb71 cb72 cb73
   replace Hb5 := kbl Hb5 HZ
   replace Hb6 := kbl Hb6 HZ
   replace Hb7 := kbl Hb7 HZ
   replace Hb9 := kbl Hb9 HZ
   replace Hb10 := kbl Hb10 HZ
   replace HB := ktr' HB HZ
   replace HSS3 := Lib.hid (HSS3.out.later HZ.out (Nat.le_refl _))
   clear HZ
   have cb90 := kcl0 Hb9
   have cb91 := kcl1 Hb9
   have cb92 := kcl2 Hb9
   have cb93 := kcl3 Hb9
   have cb94 := kcl4 Hb9
   go_wp2_with fail
   refine (rCheckWind_any s1 s2 (n : Int) p1 p2 _).mono ?_
   rintro e Va63 ⟨rfl, hb⟩
   have HZ := Lib.hid hb
   clear hb
   rw [H1.out]
   clear cb90 cb91 cb92 cb93 cb94
   replace Hb5 := kbl Hb5 HZ
   replace Hb6 := kbl Hb6 HZ
   replace Hb7 := kbl Hb7 HZ
   replace Hb9 := kbl Hb9 HZ
   replace Hb10 := kbl Hb10 HZ
   replace HB := ktr' HB HZ
   replace HSS3 := Lib.hid (HSS3.out.later HZ.out (Nat.le_refl _))
   clear HZ
   have cb50 := kcl0 Hb5
   have cb51 := kcl1 Hb5
   have cb52 := kcl2 Hb5
   have cb53 := kcl3 Hb5
   have cb60 := kcl0 Hb6
   have cb61 := kcl1 Hb6
   have cb70 := kcl0 Hb7
   have cb71 := kcl1 Hb7
   have cb72 := kcl2 Hb7
   have cb73 := kcl3 Hb7
   have cb90 := kcl0 Hb9
   have cb91 := kcl1 Hb9
   have cb92 := kcl2 Hb9
   have cb93 := kcl3 Hb9
   have cb94 := kcl4 Hb9
   go_wp2_with fail
   refine (rsteady_any WW HH SS ss A c lo hi d1 d2 l1 l2 cell s1 s2 n p1 p2 _ HNN.out HCK.out HSK.out HM.out H1.out HC.out HSS3.out).mono ?_
   rintro e Va64 ⟨rfl, hb⟩
   have HZ := Lib.hid hb
   clear hb
   rw [HV.out]
   clear cb50 cb51 cb52 cb53 cb60 cb61 cb70 cb71 cb72 cb73 cb90 cb91 cb92 cb93 cb94
   replace Hb5 := kbl Hb5 HZ
   replace Hb6 := kbl Hb6 HZ
   replace Hb7 := kbl Hb7 HZ
   replace Hb9 := kbl Hb9 HZ
   replace Hb10 := kbl Hb10 HZ
   replace HB := ktr' HB HZ
   replace HSS3 := Lib.hid (HSS3.out.later HZ.out (Nat.le_refl _))
   clear HZ
   have cb100 := kcl0 Hb10
   have cb101 := kcl1 Hb10
   have zb100 : Va64.frozen? ⟨b10, 0, none⟩ = false := Hb10.out.frozen 0
   have zb101 : Va64.frozen? ⟨b10, 1, none⟩ = false := Hb10.out.frozen 1
   go_wp2
   have hR := fun x y => span_res2 Hb10.out x y
   refine bodyPost_ret (v := .tuple #[.agg #[.int .i64 (z1), .int .i64 (z2)], .int .i64 0]) (by simp [results, Tryd.results28, go_sem, hR]) rfl ⟨by rw [EV.out, EE.out]; rfl, ?_⟩
   exact (HB.out.setCell (p := ⟨b10, 0, none⟩) gb10 _).setCell (p := ⟨b10, 1, none⟩) (by exact gb10) _
end Go.Proofs.YtdhcdgfpkjdihaaDoor.Sg
