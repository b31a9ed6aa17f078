/-
  Layer 3, the program: functions that draw their order.
-/
import Derived.Test.YtdhcdgfpkjdihaaDoorVP3a
import Derived.Test.YtdhcdgfpkjdihaaDoorVA3e
import Derived.Test.YtdhcdgfpkjdihaaDoorVBb
set_option linter.unusedSimpArgs false
set_option linter.unusedVariables false
namespace Go.Proofs.YtdhcdgfpkjdihaaDoor.Sg
open Go.RowKit
def Z0 : Oper := ⟨some 3, .call { callee := Callee.value (.func 91), args := #[.const (Value.int IntKind.i64 0)], argTypes := #[3] }, 108, "bounds.go:33", #[], none⟩
def Z1 : Oper := ⟨some 4, .load 108 (.tmp 1), 108, "bounds.go:33", #[], none⟩
def Z2 : Oper := ⟨some 5, .call { callee := Callee.value (.func 92), args := #[.tmp 3, .tmp 4], argTypes := #[108, 108] }, 108, "bounds.go:33", #[⟨0, .data⟩, ⟨1, .data⟩, ⟨0, .chain⟩], none⟩
def Z3 : Oper := ⟨none, .store 108 (.tmp 2) (.tmp 5), 0, "bounds.go:33", #[⟨2, .data⟩, ⟨2, .chain⟩, ⟨0, .phase⟩, ⟨1, .phase⟩, ⟨2, .phase⟩], none⟩
def Z4 : Oper := ⟨some 5, .fieldAddr 110 (.tmp 2) 1, 0, "fetch.go:59", #[], none⟩
def Z5 : Oper := ⟨some 6, .load 108 (.tmp 5), 108, "fetch.go:59", #[⟨0, .data⟩], none⟩
def Z6 : Oper := ⟨some 7, .fieldAddr 110 (.tmp 2) 0, 0, "fetch.go:59", #[], none⟩
def Z7 : Oper := ⟨some 8, .fieldAddr 24 (.tmp 7) 3, 0, "fetch.go:59", #[⟨2, .data⟩], none⟩
def Z8 : Oper := ⟨some 9, .load 22 (.tmp 8), 22, "fetch.go:59", #[⟨3, .data⟩], none⟩
def Z9 : Oper := ⟨some 10, .move (.tmp 1), 3, "fetch.go:59", #[], none⟩
def Za : Oper := ⟨some 11, .indexAddr 22 (.tmp 9) (.tmp 10), 0, "fetch.go:59", #[⟨4, .data⟩, ⟨5, .data⟩], none⟩
def Zb : Oper := ⟨some 12, .load 26 (.tmp 11), 26, "fetch.go:59", #[⟨6, .data⟩], none⟩
def Zc : Oper := ⟨some 13, .build 108 #[(0, .tmp 12)], 108, "fetch.go:59", #[⟨7, .data⟩], none⟩
def Zd : Oper := ⟨some 14, .call { callee := Callee.value (.func 92), args := #[.tmp 6, .tmp 13], argTypes := #[108, 108] }, 108, "fetch.go:59", #[⟨1, .data⟩, ⟨8, .data⟩], none⟩
def Ze : Oper := ⟨none, .store 108 (.tmp 4) (.tmp 14), 0, "fetch.go:59", #[⟨9, .data⟩, ⟨9, .chain⟩, ⟨0, .phase⟩, ⟨1, .phase⟩, ⟨2, .phase⟩, ⟨3, .phase⟩, ⟨4, .phase⟩, ⟨5, .phase⟩, ⟨6, .phase⟩, ⟨7, .phase⟩, ⟨8, .phase⟩, ⟨9, .phase⟩], none⟩
def Zf : Oper := ⟨some 3, .fieldAddr 26 (.tmp 1) 0, 0, "setup.go:50", #[], none⟩
def Zg : Oper := ⟨some 4, .load 3 (.tmp 3), 3, "setup.go:50", #[⟨0, .data⟩], none⟩
def Zh : Oper := ⟨some 5, .binOp BinOp.mul 3 (.tmp 4) (.const (Value.int IntKind.i64 10)) 3, 3, "setup.go:50", #[⟨1, .data⟩], none⟩
def Zi : Oper := ⟨some 6, .binOp BinOp.mul 3 (.tmp 5) (.const (Value.int IntKind.i64 256)) 3, 3, "setup.go:50", #[⟨2, .data⟩], none⟩
def Zj : Oper := ⟨some 7, .call { callee := Callee.value (.func 80), args := #[.tmp 6, .const (Value.int IntKind.i64 981)], argTypes := #[3, 3] }, 3, "setup.go:50", #[⟨3, .data⟩], none⟩
def Zk : Oper := ⟨some 8, .fieldAddr 26 (.tmp 1) 1, 0, "setup.go:50", #[], none⟩
def Zl : Oper := ⟨some 9, .load 3 (.tmp 8), 3, "setup.go:50", #[⟨5, .data⟩], none⟩
def Zm : Oper := ⟨some 10, .binOp BinOp.mul 3 (.tmp 9) (.const (Value.int IntKind.i64 10)) 3, 3, "setup.go:50", #[⟨6, .data⟩], none⟩
def Zn : Oper := ⟨some 11, .binOp BinOp.mul 3 (.tmp 10) (.const (Value.int IntKind.i64 256)) 3, 3, "setup.go:50", #[⟨7, .data⟩], none⟩
def Zo : Oper := ⟨some 12, .call { callee := Callee.value (.func 81), args := #[.tmp 11, .const (Value.int IntKind.i64 981)], argTypes := #[3, 3] }, 3, "setup.go:50", #[⟨8, .data⟩, ⟨4, .chain⟩], none⟩
def Zp : Oper := ⟨some 13, .build 26 #[(0, .tmp 7), (1, .tmp 12)], 26, "setup.go:50", #[⟨4, .data⟩, ⟨9, .data⟩], none⟩
def Zq : Oper := ⟨some 14, .build 108 #[(0, .tmp 13)], 108, "setup.go:50", #[⟨10, .data⟩], none⟩
def Zr : Oper := ⟨none, .store 108 (.tmp 2) (.tmp 14), 0, "setup.go:50", #[⟨11, .data⟩, ⟨9, .chain⟩, ⟨0, .phase⟩, ⟨1, .phase⟩, ⟨2, .phase⟩, ⟨3, .phase⟩, ⟨4, .phase⟩, ⟨5, .phase⟩, ⟨6, .phase⟩, ⟨7, .phase⟩, ⟨8, .phase⟩, ⟨9, .phase⟩, ⟨10, .phase⟩, ⟨11, .phase⟩], none⟩
def Zs : Oper := ⟨some 31, .fieldAddr 108 (.tmp 4) 0, 0, "run.go:93", #[], none⟩
def Zt : Oper := ⟨some 32, .fieldAddr 26 (.tmp 31) 0, 0, "run.go:93", #[⟨0, .data⟩], none⟩
def Zu : Oper := ⟨some 33, .load 3 (.tmp 32), 3, "run.go:93", #[⟨1, .data⟩], none⟩
def Zv : Oper := ⟨some 34, .move (.tmp 7), 3, "run.go:93", #[], none⟩
def Zw : Oper := ⟨some 35, .fieldAddr 108 (.tmp 5) 0, 0, "run.go:93", #[], none⟩
def Zx : Oper := ⟨some 36, .fieldAddr 26 (.tmp 35) 0, 0, "run.go:93", #[⟨4, .data⟩], none⟩
def Zy : Oper := ⟨some 37, .load 3 (.tmp 36), 3, "run.go:93", #[⟨5, .data⟩], none⟩
def Zz : Oper := ⟨some 38, .fieldAddr 108 (.tmp 4) 0, 0, "run.go:93", #[], none⟩
def Z10 : Oper := ⟨some 39, .fieldAddr 26 (.tmp 38) 0, 0, "run.go:93", #[⟨7, .data⟩], none⟩
def Z11 : Oper := ⟨some 40, .load 3 (.tmp 39), 3, "run.go:93", #[⟨8, .data⟩], none⟩
def Z12 : Oper := ⟨some 41, .binOp BinOp.sub 3 (.tmp 37) (.tmp 40) 3, 3, "run.go:93", #[⟨6, .data⟩, ⟨9, .data⟩], none⟩
def Z13 : Oper := ⟨some 42, .binOp BinOp.mul 3 (.tmp 34) (.tmp 41) 3, 3, "run.go:93", #[⟨3, .data⟩, ⟨10, .data⟩], none⟩
def Z14 : Oper := ⟨some 43, .call { callee := Callee.value (.func 80), args := #[.tmp 42, .const (Value.int IntKind.i64 1024)], argTypes := #[3, 3] }, 3, "run.go:94", #[⟨11, .data⟩], none⟩
def Z15 : Oper := ⟨some 44, .binOp BinOp.add 3 (.tmp 33) (.tmp 43) 3, 3, "run.go:93", #[⟨2, .data⟩, ⟨12, .data⟩], none⟩
def Z16 : Oper := ⟨some 45, .fieldAddr 108 (.tmp 4) 0, 0, "run.go:93", #[], none⟩
def Z17 : Oper := ⟨some 46, .fieldAddr 26 (.tmp 45) 1, 0, "run.go:93", #[⟨14, .data⟩], none⟩
def Z18 : Oper := ⟨some 47, .load 3 (.tmp 46), 3, "run.go:93", #[⟨15, .data⟩], none⟩
def Z19 : Oper := ⟨some 48, .move (.tmp 8), 3, "run.go:93", #[], none⟩
def Z1a : Oper := ⟨some 49, .fieldAddr 108 (.tmp 5) 0, 0, "run.go:93", #[], none⟩
def Z1b : Oper := ⟨some 50, .fieldAddr 26 (.tmp 49) 1, 0, "run.go:93", #[⟨18, .data⟩], none⟩
def Z1c : Oper := ⟨some 51, .load 3 (.tmp 50), 3, "run.go:93", #[⟨19, .data⟩], none⟩
def Z1d : Oper := ⟨some 52, .fieldAddr 108 (.tmp 4) 0, 0, "run.go:93", #[], none⟩
def Z1e : Oper := ⟨some 53, .fieldAddr 26 (.tmp 52) 1, 0, "run.go:93", #[⟨21, .data⟩], none⟩
def Z1f : Oper := ⟨some 54, .load 3 (.tmp 53), 3, "run.go:93", #[⟨22, .data⟩], none⟩
def Z1g : Oper := ⟨some 55, .binOp BinOp.sub 3 (.tmp 51) (.tmp 54) 3, 3, "run.go:93", #[⟨20, .data⟩, ⟨23, .data⟩], none⟩
def Z1h : Oper := ⟨some 56, .binOp BinOp.mul 3 (.tmp 48) (.tmp 55) 3, 3, "run.go:93", #[⟨17, .data⟩, ⟨24, .data⟩], none⟩
def Z1i : Oper := ⟨some 57, .call { callee := Callee.value (.func 81), args := #[.tmp 56, .const (Value.int IntKind.i64 1024)], argTypes := #[3, 3] }, 3, "run.go:95", #[⟨25, .data⟩, ⟨12, .chain⟩], none⟩
def Z1j : Oper := ⟨some 58, .binOp BinOp.add 3 (.tmp 47) (.tmp 57) 3, 3, "run.go:93", #[⟨16, .data⟩, ⟨26, .data⟩], none⟩
def Z1k : Oper := ⟨some 59, .build 26 #[(0, .tmp 44), (1, .tmp 58)], 26, "run.go:93", #[⟨13, .data⟩, ⟨27, .data⟩], none⟩
def Z1l : Oper := ⟨some 60, .build 108 #[(0, .tmp 59)], 108, "run.go:93", #[⟨28, .data⟩], none⟩
def Z1m : Oper := ⟨none, .store 108 (.tmp 6) (.tmp 60), 0, "run.go:93", #[⟨29, .data⟩, ⟨26, .chain⟩, ⟨0, .phase⟩, ⟨1, .phase⟩, ⟨2, .phase⟩, ⟨3, .phase⟩, ⟨4, .phase⟩, ⟨5, .phase⟩, ⟨6, .phase⟩, ⟨7, .phase⟩, ⟨8, .phase⟩, ⟨9, .phase⟩, ⟨10, .phase⟩, ⟨11, .phase⟩, ⟨12, .phase⟩, ⟨13, .phase⟩, ⟨14, .phase⟩, ⟨15, .phase⟩, ⟨16, .phase⟩, ⟨17, .phase⟩, ⟨18, .phase⟩, ⟨19, .phase⟩, ⟨20, .phase⟩, ⟨21, .phase⟩, ⟨22, .phase⟩, ⟨23, .phase⟩, ⟨24, .phase⟩, ⟨25, .phase⟩, ⟨26, .phase⟩, ⟨27, .phase⟩, ⟨28, .phase⟩, ⟨29, .phase⟩], none⟩
set_option maxRecDepth 100000 in
set_option maxHeartbeats 1000000 in
theorem negative_any (a b : Int) (w : World) (h1 : -9000000000000000000 ≤ a ∧ a ≤ 9000000000000000000) (h2 : -9000000000000000000 ≤ b ∧ b ≤ 9000000000000000000) :
 Calls Tryd.prog 96 #[.agg #[.int .i64 a, .int .i64 b]] w fun e w' => e = .returned (.agg #[.int .i64 (-b), .int .i64 (-a)]) ∧ Below w.heap.size w w' := by
 go_enter Tryd.func96, Tryd.ntmps96
 go_upto_region 1 with (fail)
 obtain ⟨Va1, hV⟩ : ∃ V, (w.alloc (.cells #[.int .i64 (a), .int .i64 (b)] 108)).alloc (.cells #[.int .i64 (0), .int .i64 (0)] 108) = V := ⟨_, rfl⟩
 have Kb1 : Hid (Blk Va1 (w.heap.size) 108 #[.int .i64 (a), .int .i64 (b)]) := by rw [← hV]; exact (Blk.new' _ _ _ (by simp)).alloc _
 have Kb2 : Hid (Blk Va1 (w.heap.size + 1) 108 #[.int .i64 (0), .int .i64 (0)]) := by rw [← hV]; exact Blk.new' _ _ _ (by simp)
 have GHB : Hid (Below w.heap.size w Va1) := by rw [← hV]; exact (by repeat (first | exact Below.refl _ _ | assumption | refine Below.drew ?_ | refine Below.drewN' ?_ _ | (refine Below.alloc ?_ (by simp <;> omega) _) | (refine Below.setCell ?_ (by simp <;> omega) _)))
 have HZ : Hid (Below w.heap.size w Va1) := GHB
 rw [hV]
 clear hV HZ
 have HB := GHB
 clear GHB
 obtain ⟨b2, hqb2⟩ : ∃ b, w.heap.size + 1 = b := ⟨_, rfl⟩
 obtain ⟨b1, hqb1⟩ : ∃ b, w.heap.size = b := ⟨_, rfl⟩
 have gb1 : w.heap.size ≤ b1 := by omega
 have gb2 : w.heap.size ≤ b2 := by omega
 have nb2b1 : ¬ b2 = b1 := by omega
 have nb1b2 : ¬ b1 = b2 := by omega
 rw [hqb2] at Kb2 ⊢
 clear hqb2
 have HN : Hid (w.heap.size = b1) := hqb1
 rw [hqb1] at Kb1 ⊢
 clear hqb1
 have Hb1 := Kb1
 clear Kb1
 have Hb2 := Kb2
 clear Kb2
 go_upto_region 1 with (fail)
 have HSV : Hid (∀ U, Below Va1.heap.size Va1 U → U.cell? ⟨b1, 0, none⟩ = some (.int .i64 (a)) ∧ U.cell? ⟨b1, 1, none⟩ = some (.int .i64 (b))) := fun U hU => by
  have kb1 := Hb1.out.below hU Hb1.out.lt
  exact ⟨kb1.cell 0, kb1.cell 1⟩
 have k0 := HSV.out _ (Below.drew (Below.refl Va1.heap.size Va1))
 refine wp_region_noPanic ?_
 refine wp_region_L (S := (fun w' => w'.cell? ⟨b1, 0, none⟩ = some (.int .i64 (a)) ∧ w'.cell? ⟨b1, 1, none⟩ = some (.int .i64 (b)))) (ks := [3]) (by kernel_rfl) ?_ (fun hHeld => ?_)
 · (try dsimp only); (exact k0)
 refine tL 1 Z1 ?_ ?_ ?_
 rotate_left
 · ((intro w hSw; delta Z1; (try dsimp only at hSw); go_simp) <;> with_reducible rfl)
 try simp only [Z1, ksz]
 obtain ⟨W0, hW0⟩ : ∃ V, Va1.drew = V := ⟨_, rfl⟩; rw [hW0] at hHeld ⊢; have HB0 : Hid (Below Va1.heap.size Va1 W0) := (by rw [← hW0]; exact Below.drew (Below.refl _ _)); clear hW0
 refine wpAnyL_ready (rs := [0]) (by kernel_rfl) (by simp) ?_
 refine AllReadyL.cons (o := Z0) rfl (fun K hK => ?_) AllReadyL.nil
 delta Z0
 go_simp
 (refine (exactly_any _ _).mono ?_; rintro e W1 ⟨rfl, hb⟩; have HB1 := Lib.hid (HB0.out.trans (hb.mono HB0.out.size)); clear hb)
 refine hK.out _ _ ?_ (fun hHeld => ?_)
 · (try dsimp only); (exact HSV.out _ HB1.out)
 clear hK K
 try simp only [Z0, ksz]
 refine wpAnyL_ready (rs := [2]) (by kernel_rfl) (by simp) ?_
 refine AllReadyL.cons (o := Z2) rfl (fun K hK => ?_) AllReadyL.nil
 delta Z2
 go_simp
 (refine (minus_any _ _ _ _ _ (by omega) (by omega)).mono ?_; rintro e W2 ⟨rfl, hb⟩; have HB2 := Lib.hid (HB1.out.trans (hb.mono HB1.out.size)); clear hb)
 refine hK.out _ _ ?_ (fun hHeld => ?_)
 · (try dsimp only); (exact HSV.out _ HB2.out)
 clear hK K
 try simp only [Z2, ksz]
 have Gb1 := Lib.hid (Hb1.out.below HB2.out Hb1.out.lt); have Gb2 := Lib.hid (Hb2.out.below HB2.out Hb2.out.lt); have GHB := Lib.hid (HB.out.trans (HB2.out.mono HB.out.size)); clear Hb1 Hb2 HB; have Hb1 := Gb1; clear Gb1; have Hb2 := Gb2; clear Gb2; have HB := GHB; clear GHB; have cR0 := Hb2.out.cell 0; have zR0 := Hb2.out.frozen 0; have cR1 := Hb2.out.cell 1; have zR1 := Hb2.out.frozen 1; simp only [List.getElem?_toArray, List.getElem?_cons_zero, List.getElem?_cons_succ] at cR0 cR1
 refine wpAnyL_ready (rs := [3]) (by kernel_rfl) (by simp) ?_
 refine AllReadyL.gate (o := Z3) rfl (by kernel_rfl) (fun K hK => ?_) AllReadyL.nil
 delta Z3
 go_simp
 refine hK.out _ _ ?_
 clear hK K
 try simp only [Z3, ksz]
 obtain ⟨Va2, hV⟩ : ∃ V, (W2.setCell ⟨b2, 0, none⟩ (.int .i64 (-b))).setCell ⟨b2, 1, none⟩ (.int .i64 (-a)) = V := ⟨_, rfl⟩; replace Hb1 : Hid (Blk Va2 b1 108 #[.int .i64 (a), .int .i64 (b)]) := (by rw [← hV]; exact ((Hb1.out.far_ (p := ⟨b2, 0, none⟩) nb1b2 _).far_ (p := ⟨b2, 1, none⟩) nb1b2 _)); replace Hb2 : Hid (Blk Va2 b2 108 #[.int .i64 (-b), .int .i64 (-a)]) := (by rw [← hV]; exact ((Hb2.out.set_ 0 (.int .i64 (-b))).set_ 1 (.int .i64 (-a)))); replace HB : Hid (Below w.heap.size w Va2) := (by rw [← hV]; exact ((HB.out.setCell (p := ⟨b2, 0, none⟩) gb2 _).setCell (p := ⟨b2, 1, none⟩) gb2 _)); rw [hV]; clear hV cR0 zR0 cR1 zR1
 refine wpAnyL_done (by kernel_rfl) ?_ _
 refine NoPanic.normal ?_
 clear HSV k0
 clear hHeld HB0 HB1 HB2
 have cb20 := kcl0 Hb2
 have cb21 := kcl1 Hb2
 go_wp2
 refine bodyPost_ret (v := .agg #[.int .i64 (-b), .int .i64 (-a)]) (by simp [results, Tryd.results96, go_sem, cb20, cb21]) rfl ⟨rfl, HB.out⟩
set_option maxRecDepth 100000 in
set_option maxHeartbeats 1000000 in
theorem depth_any (g : G) (A : Option Addr) (c : Nat) (lo hi : Int) (k : Nat) (w : World) (hs : SpansAt w w.heap.size (.slice A g.ss.length c) g.ss) (hk : k < g.ss.length) (hc : checkE g = 0) (hse : spOk (-20000) 20000 (lo, hi) = true) :
 Calls Tryd.prog 107 #[.agg #[.int .i64 g.W, .int .i64 g.H, .int .i64 g.S, .slice A g.ss.length c, .int .i64 lo, .int .i64 hi], .int .i64 (k : Int)] w fun e w' => e = .returned (.agg #[.int .i64 (dpZ g (lo, hi) (k : Int)).1, .int .i64 (dpZ g (lo, hi) (k : Int)).2]) ∧ Below w.heap.size w w' := by
 obtain ⟨bg, og, rfl, hbg, cg0, cg1⟩ := hs.at_ hk
 have hq := dp_ok hc hse (k : Int)
 have e1 : dpZ g (lo, hi) (k : Int) = (lo - g.ss[k].2, hi - g.ss[k].1) := by unfold dpZ; rw [gr_at hk]
 rw [e1] at hq ⊢
 obtain ⟨⟨x, y⟩, hxy⟩ : ∃ q, g.ss[k] = q := ⟨_, rfl⟩
 rw [hxy] at cg0 cg1 hq ⊢
 simp only at cg0 cg1 hq ⊢
 obtain ⟨WW, HH, SS, ss⟩ := g
 simp only at hk ⊢
 clear e1 hxy hc hse hs
 go_enter Tryd.func107, Tryd.ntmps107
 go_upto_region 1 with (fail)
 obtain ⟨Va1, hV⟩ : ∃ V, (w.alloc (.cells #[.int .i64 (WW), .int .i64 (HH), .int .i64 (SS), .slice (some ⟨bg, og, none⟩) ss.length c, .int .i64 (lo), .int .i64 (hi)] 110)).alloc (.cells #[.int .i64 (0), .int .i64 (0)] 108) = V := ⟨_, rfl⟩
 have Kb1 : Hid (Blk Va1 (w.heap.size) 110 #[.int .i64 (WW), .int .i64 (HH), .int .i64 (SS), .slice (some ⟨bg, og, none⟩) ss.length c, .int .i64 (lo), .int .i64 (hi)]) := by rw [← hV]; exact (Blk.new' _ _ _ (by simp)).alloc _
 have Kb2 : Hid (Blk Va1 (w.heap.size + 1) 108 #[.int .i64 (0), .int .i64 (0)]) := by rw [← hV]; exact Blk.new' _ _ _ (by simp)
 have GHB : Hid (Below w.heap.size w Va1) := by rw [← hV]; exact (by repeat (first | exact Below.refl _ _ | assumption | refine Below.drew ?_ | refine Below.drewN' ?_ _ | (refine Below.alloc ?_ (by simp <;> omega) _) | (refine Below.setCell ?_ (by simp <;> omega) _)))
 have HZ : Hid (Below w.heap.size w Va1) := GHB
 rw [hV]
 clear hV HZ
 have HB := GHB
 clear GHB
 obtain ⟨b2, hqb2⟩ : ∃ b, w.heap.size + 1 = b := ⟨_, rfl⟩
 obtain ⟨b1, hqb1⟩ : ∃ b, w.heap.size = b := ⟨_, rfl⟩
 have gb1 : w.heap.size ≤ b1 := by omega
 have gb2 : w.heap.size ≤ b2 := by omega
 have nb2b1 : ¬ b2 = b1 := by omega
 have nb1b2 : ¬ b1 = b2 := by omega
 rw [hqb2] at Kb2 ⊢
 clear hqb2
 have HN : Hid (w.heap.size = b1) := hqb1
 rw [hqb1] at Kb1 ⊢
 clear hqb1
 have Hb1 := Kb1
 clear Kb1
 have Hb2 := Kb2
 clear Kb2
 have hg0 : Va1.cell? ⟨bg, og + k * 2, none⟩ = some (.int .i64 x) := (HB.out.cell (p := ⟨bg, og + k * 2, none⟩) hbg).trans cg0
 have hg1 : Va1.cell? ⟨bg, og + k * 2 + 1, none⟩ = some (.int .i64 y) := (HB.out.cell (p := ⟨bg, og + k * 2 + 1, none⟩) hbg).trans cg1
 have hbl : bg < Va1.heap.size := Nat.lt_of_lt_of_le hbg HB.out.size
 clear cg0 cg1
 go_upto_region 1 with (fail)
 have HSV : Hid (∀ U, Below Va1.heap.size Va1 U → U.cell? ⟨b1, 0, none⟩ = some (.int .i64 (WW)) ∧ U.cell? ⟨b1, 1, none⟩ = some (.int .i64 (HH)) ∧ U.cell? ⟨b1, 2, none⟩ = some (.int .i64 (SS)) ∧ U.cell? ⟨b1, 3, none⟩ = some (.slice (some ⟨bg, og, none⟩) ss.length c) ∧ U.cell? ⟨b1, 4, none⟩ = some (.int .i64 (lo)) ∧ U.cell? ⟨b1, 5, none⟩ = some (.int .i64 (hi)) ∧ U.cell? ⟨bg, og + k * 2, none⟩ = some (.int .i64 (x)) ∧ U.cell? ⟨bg, og + k * 2 + 1, none⟩ = some (.int .i64 (y))) := fun U hU => by
  have kb1 := Hb1.out.below hU Hb1.out.lt
  exact ⟨kb1.cell 0, kb1.cell 1, kb1.cell 2, kb1.cell 3, kb1.cell 4, kb1.cell 5, (hU.cell (p := ⟨bg, og + k * 2, none⟩) hbl).trans hg0, (hU.cell (p := ⟨bg, og + k * 2 + 1, none⟩) hbl).trans hg1⟩
 have k0 := HSV.out _ (Below.drew (Below.refl Va1.heap.size Va1))
 refine wp_region_noPanic ?_
 refine wp_region_L (S := (fun w' => w'.cell? ⟨b1, 0, none⟩ = some (.int .i64 (WW)) ∧ w'.cell? ⟨b1, 1, none⟩ = some (.int .i64 (HH)) ∧ w'.cell? ⟨b1, 2, none⟩ = some (.int .i64 (SS)) ∧ w'.cell? ⟨b1, 3, none⟩ = some (.slice (some ⟨bg, og, none⟩) ss.length c) ∧ w'.cell? ⟨b1, 4, none⟩ = some (.int .i64 (lo)) ∧ w'.cell? ⟨b1, 5, none⟩ = some (.int .i64 (hi)) ∧ w'.cell? ⟨bg, og + k * 2, none⟩ = some (.int .i64 (x)) ∧ w'.cell? ⟨bg, og + k * 2 + 1, none⟩ = some (.int .i64 (y)))) (ks := [10]) (by kernel_rfl) ?_ (fun hHeld => ?_)
 · (try dsimp only); (exact k0)
 refine tL 0 Z4 ?_ ?_ ?_
 rotate_left
 · ((intro w hSw; delta Z4; (try dsimp only at hSw); go_simp) <;> with_reducible rfl)
 try simp only [Z4, ksz]
 refine tL 2 Z6 ?_ ?_ ?_
 rotate_left
 · ((intro w hSw; delta Z6; (try dsimp only at hSw); go_simp) <;> with_reducible rfl)
 try simp only [Z6, ksz]
 refine tL 5 Z9 ?_ ?_ ?_
 rotate_left
 · ((intro w hSw; delta Z9; (try dsimp only at hSw); go_simp) <;> with_reducible rfl)
 try simp only [Z9, ksz]
 refine tL 1 Z5 ?_ ?_ ?_
 rotate_left
 · ((intro w hSw; delta Z5; (try dsimp only at hSw); go_simp) <;> with_reducible rfl)
 try simp only [Z5, ksz]
 refine tL 3 Z7 ?_ ?_ ?_
 rotate_left
 · ((intro w hSw; delta Z7; (try dsimp only at hSw); go_simp) <;> with_reducible rfl)
 try simp only [Z7, ksz]
 refine tL 4 Z8 ?_ ?_ ?_
 rotate_left
 · ((intro w hSw; delta Z8; (try dsimp only at hSw); go_simp) <;> with_reducible rfl)
 try simp only [Z8, ksz]
 refine tL 6 Za ?_ ?_ ?_
 rotate_left
 · ((intro w hSw; delta Za; (try dsimp only at hSw); go_simp) <;> with_reducible rfl)
 try simp only [Za, ksz]
 refine tL 7 Zb ?_ ?_ ?_
 rotate_left
 · ((intro w hSw; delta Zb; (try dsimp only at hSw); go_simp) <;> with_reducible rfl)
 try simp only [Zb, ksz]
 refine tL 8 Zc ?_ ?_ ?_
 rotate_left
 · ((intro w hSw; delta Zc; (try dsimp only at hSw); go_simp) <;> with_reducible rfl)
 try simp only [Zc, ksz]
 obtain ⟨W0, hW0⟩ : ∃ V, Va1.drew = V := ⟨_, rfl⟩; rw [hW0] at hHeld ⊢; have HB0 : Hid (Below Va1.heap.size Va1 W0) := (by rw [← hW0]; exact Below.drew (Below.refl _ _)); clear hW0
 refine wpAnyL_ready (rs := [9]) (by kernel_rfl) (by simp) ?_
 refine AllReadyL.cons (o := Zd) rfl (fun K hK => ?_) AllReadyL.nil
 delta Zd
 go_simp
 (refine (minus_any _ _ _ _ _ (by omega) (by omega)).mono ?_; rintro e W1 ⟨rfl, hb⟩; have HB1 := Lib.hid (HB0.out.trans (hb.mono HB0.out.size)); clear hb)
 refine hK.out _ _ ?_ (fun hHeld => ?_)
 · (try dsimp only); (exact HSV.out _ HB1.out)
 clear hK K
 try simp only [Zd, ksz]
 have Gb1 := Lib.hid (Hb1.out.below HB1.out Hb1.out.lt); have Gb2 := Lib.hid (Hb2.out.below HB1.out Hb2.out.lt); have GHB := Lib.hid (HB.out.trans (HB1.out.mono HB.out.size)); clear Hb1 Hb2 HB; have Hb1 := Gb1; clear Gb1; have Hb2 := Gb2; clear Gb2; have HB := GHB; clear GHB; have cR0 := Hb2.out.cell 0; have zR0 := Hb2.out.frozen 0; have cR1 := Hb2.out.cell 1; have zR1 := Hb2.out.frozen 1; simp only [List.getElem?_toArray, List.getElem?_cons_zero, List.getElem?_cons_succ] at cR0 cR1
 refine wpAnyL_ready (rs := [10]) (by kernel_rfl) (by simp) ?_
 refine AllReadyL.gate (o := Ze) rfl (by kernel_rfl) (fun K hK => ?_) AllReadyL.nil
 delta Ze
 go_simp
 refine hK.out _ _ ?_
 clear hK K
 try simp only [Ze, ksz]
 obtain ⟨Va2, hV⟩ : ∃ V, (W1.setCell ⟨b2, 0, none⟩ (.int .i64 (lo - y))).setCell ⟨b2, 1, none⟩ (.int .i64 (hi - x)) = V := ⟨_, rfl⟩; replace Hb1 : Hid (Blk Va2 b1 110 #[.int .i64 (WW), .int .i64 (HH), .int .i64 (SS), .slice (some ⟨bg, og, none⟩) ss.length c, .int .i64 (lo), .int .i64 (hi)]) := (by rw [← hV]; exact ((Hb1.out.far_ (p := ⟨b2, 0, none⟩) nb1b2 _).far_ (p := ⟨b2, 1, none⟩) nb1b2 _)); replace Hb2 : Hid (Blk Va2 b2 108 #[.int .i64 (lo - y), .int .i64 (hi - x)]) := (by rw [← hV]; exact ((Hb2.out.set_ 0 (.int .i64 (lo - y))).set_ 1 (.int .i64 (hi - x)))); replace HB : Hid (Below w.heap.size w Va2) := (by rw [← hV]; exact ((HB.out.setCell (p := ⟨b2, 0, none⟩) gb2 _).setCell (p := ⟨b2, 1, none⟩) gb2 _)); rw [hV]; clear hV cR0 zR0 cR1 zR1
 refine wpAnyL_done (by kernel_rfl) ?_ _
 refine NoPanic.normal ?_
 clear HSV k0
 clear hHeld HB0 HB1
 have cb20 := kcl0 Hb2
 have cb21 := kcl1 Hb2
 go_wp2
 refine bodyPost_ret (v := .agg #[.int .i64 (lo - y), .int .i64 (hi - x)]) (by simp [results, Tryd.results107, go_sem, cb20, cb21]) rfl ⟨rfl, HB.out⟩
set_option maxRecDepth 100000 in
set_option maxHeartbeats 1000000 in
theorem press_any (a b : Int) (w : World) (hp : spOk (-20000) 20000 (a, b) = true) :
 Calls Tryd.prog 115 #[.agg #[.int .i64 a, .int .i64 b]] w fun e w' => e = .returned (.agg #[.int .i64 (presZ (a, b)).1, .int .i64 (presZ (a, b)).2]) ∧ Below w.heap.size w w' := by
 have hr := spOk_iff.1 hp
 simp only at hr
 have e1 : IntKind.i64.wrap (a * 10 * 256) = 2560 * a := by rw [IntWalk.i64_in _ (by omega)]; omega
 have e2 : IntKind.i64.wrap (b * 10 * 256) = 2560 * b := by rw [IntWalk.i64_in _ (by omega)]; omega
 have e3 : IntKind.i64.wrap (a * 10) = a * 10 := IntWalk.i64_in _ (by omega)
 have e4 : IntKind.i64.wrap (b * 10) = b * 10 := IntWalk.i64_in _ (by omega)
 unfold presZ
 simp only
 obtain ⟨P, hP⟩ : ∃ x, 2560 * a / 981 = x := ⟨_, rfl⟩
 obtain ⟨Q, hQ⟩ : ∃ x, upQ (2560 * b) 981 = x := ⟨_, rfl⟩
 rw [hP, hQ]
 have HP := Lib.hid hP
 have HQ := Lib.hid hQ
 clear hP hQ hp
 go_enter Tryd.func115, Tryd.ntmps115
 go_upto_region 1 with (fail)
 obtain ⟨Va1, hV⟩ : ∃ V, (w.alloc (.cells #[.int .i64 (a), .int .i64 (b)] 26)).alloc (.cells #[.int .i64 (0), .int .i64 (0)] 108) = V := ⟨_, rfl⟩
 have Kb1 : Hid (Blk Va1 (w.heap.size) 26 #[.int .i64 (a), .int .i64 (b)]) := by rw [← hV]; exact (Blk.new' _ _ _ (by simp)).alloc _
 have Kb2 : Hid (Blk Va1 (w.heap.size + 1) 108 #[.int .i64 (0), .int .i64 (0)]) := by rw [← hV]; exact Blk.new' _ _ _ (by simp)
 have GHB : Hid (Below w.heap.size w Va1) := by rw [← hV]; exact (by repeat (first | exact Below.refl _ _ | assumption | refine Below.drew ?_ | refine Below.drewN' ?_ _ | (refine Below.alloc ?_ (by simp <;> omega) _) | (refine Below.setCell ?_ (by simp <;> omega) _)))
 have HZ : Hid (Below w.heap.size w Va1) := GHB
 rw [hV]
 clear hV HZ
 have HB := GHB
 clear GHB
 obtain ⟨b2, hqb2⟩ : ∃ b, w.heap.size + 1 = b := ⟨_, rfl⟩
 obtain ⟨b1, hqb1⟩ : ∃ b, w.heap.size = b := ⟨_, rfl⟩
 have gb1 : w.heap.size ≤ b1 := by omega
 have gb2 : w.heap.size ≤ b2 := by omega
 have nb2b1 : ¬ b2 = b1 := by omega
 have nb1b2 : ¬ b1 = b2 := by omega
 rw [hqb2] at Kb2 ⊢
 clear hqb2
 have HN : Hid (w.heap.size = b1) := hqb1
 rw [hqb1] at Kb1 ⊢
 clear hqb1
 have Hb1 := Kb1
 clear Kb1
 have Hb2 := Kb2
 clear Kb2
 go_upto_region 1 with (fail)
 have HSV : Hid (∀ U, Below Va1.heap.size Va1 U → U.cell? ⟨b1, 0, none⟩ = some (.int .i64 (a)) ∧ U.cell? ⟨b1, 1, none⟩ = some (.int .i64 (b))) := fun U hU => by
  have kb1 := Hb1.out.below hU Hb1.out.lt
  exact ⟨kb1.cell 0, kb1.cell 1⟩
 have k0 := HSV.out _ (Below.drew (Below.refl Va1.heap.size Va1))
 refine wp_region_noPanic ?_
 refine wp_region_L (S := (fun w' => w'.cell? ⟨b1, 0, none⟩ = some (.int .i64 (a)) ∧ w'.cell? ⟨b1, 1, none⟩ = some (.int .i64 (b)))) (ks := [12]) (by kernel_rfl) ?_ (fun hHeld => ?_)
 · (try dsimp only); (exact k0)
 refine tL 0 Zf ?_ ?_ ?_
 rotate_left
 · ((intro w hSw; delta Zf; (try dsimp only at hSw); go_simp) <;> with_reducible rfl)
 try simp only [Zf, ksz]
 refine tL 5 Zk ?_ ?_ ?_
 rotate_left
 · ((intro w hSw; delta Zk; (try dsimp only at hSw); go_simp) <;> with_reducible rfl)
 try simp only [Zk, ksz]
 refine tL 1 Zg ?_ ?_ ?_
 rotate_left
 · ((intro w hSw; delta Zg; (try dsimp only at hSw); go_simp) <;> with_reducible rfl)
 try simp only [Zg, ksz]
 refine tL 6 Zl ?_ ?_ ?_
 rotate_left
 · ((intro w hSw; delta Zl; (try dsimp only at hSw); go_simp) <;> with_reducible rfl)
 try simp only [Zl, ksz]
 refine tL 2 Zh ?_ ?_ ?_
 rotate_left
 · ((intro w hSw; delta Zh; (try dsimp only at hSw); go_simp) <;> with_reducible rfl)
 try simp only [Zh, ksz]
 refine tL 7 Zm ?_ ?_ ?_
 rotate_left
 · ((intro w hSw; delta Zm; (try dsimp only at hSw); go_simp) <;> with_reducible rfl)
 try simp only [Zm, ksz]
 refine tL 3 Zi ?_ ?_ ?_
 rotate_left
 · ((intro w hSw; delta Zi; (try dsimp only at hSw); go_simp) <;> with_reducible rfl)
 try simp only [Zi, ksz]
 refine tL 8 Zn ?_ ?_ ?_
 rotate_left
 · ((intro w hSw; delta Zn; (try dsimp only at hSw); go_simp) <;> with_reducible rfl)
 try simp only [Zn, ksz]
 obtain ⟨W0, hW0⟩ : ∃ V, Va1.drew = V := ⟨_, rfl⟩; rw [hW0] at hHeld ⊢; have HB0 : Hid (Below Va1.heap.size Va1 W0) := (by rw [← hW0]; exact Below.drew (Below.refl _ _)); clear hW0
 refine wpAnyL_ready (rs := [4]) (by kernel_rfl) (by simp) ?_
 refine AllReadyL.cons (o := Zj) rfl (fun K hK => ?_) AllReadyL.nil
 delta Zj
 go_simp
 (refine (down_any _ _ _ (by omega) (by omega) (by omega)).mono ?_; rintro e W1 ⟨rfl, hw⟩; have HB1 : Hid (Below Va1.heap.size Va1 W1) := (by rw [← hw]; exact HB0.out); clear hw; rw [HP.out])
 refine hK.out _ _ ?_ (fun hHeld => ?_)
 · (try dsimp only); (exact HSV.out _ HB1.out)
 clear hK K
 try simp only [Zj, ksz]
 refine wpAnyL_ready (rs := [9]) (by kernel_rfl) (by simp) ?_
 refine AllReadyL.cons (o := Zo) rfl (fun K hK => ?_) AllReadyL.nil
 delta Zo
 go_simp
 (refine (up_any _ _ _ (by omega) (by omega) (by omega)).mono ?_; rintro e W2 ⟨rfl, hw⟩; have HB2 : Hid (Below Va1.heap.size Va1 W2) := (by rw [← hw]; exact HB1.out); clear hw; rw [HQ.out])
 refine hK.out _ _ ?_ (fun hHeld => ?_)
 · (try dsimp only); (exact HSV.out _ HB2.out)
 clear hK K
 try simp only [Zo, ksz]
 refine tL 10 Zp ?_ ?_ ?_
 rotate_left
 · ((intro w hSw; delta Zp; (try dsimp only at hSw); go_simp) <;> with_reducible rfl)
 try simp only [Zp, ksz]
 refine tL 11 Zq ?_ ?_ ?_
 rotate_left
 · ((intro w hSw; delta Zq; (try dsimp only at hSw); go_simp) <;> with_reducible rfl)
 try simp only [Zq, ksz]
 have Gb1 := Lib.hid (Hb1.out.below HB2.out Hb1.out.lt); have Gb2 := Lib.hid (Hb2.out.below HB2.out Hb2.out.lt); have GHB := Lib.hid (HB.out.trans (HB2.out.mono HB.out.size)); clear Hb1 Hb2 HB; have Hb1 := Gb1; clear Gb1; have Hb2 := Gb2; clear Gb2; have HB := GHB; clear GHB; have cR0 := Hb2.out.cell 0; have zR0 := Hb2.out.frozen 0; have cR1 := Hb2.out.cell 1; have zR1 := Hb2.out.frozen 1; simp only [List.getElem?_toArray, List.getElem?_cons_zero, List.getElem?_cons_succ] at cR0 cR1
 refine wpAnyL_ready (rs := [12]) (by kernel_rfl) (by simp) ?_
 refine AllReadyL.gate (o := Zr) rfl (by kernel_rfl) (fun K hK => ?_) AllReadyL.nil
 delta Zr
 go_simp
 refine hK.out _ _ ?_
 clear hK K
 try simp only [Zr, ksz]
 obtain ⟨Va2, hV⟩ : ∃ V, (W2.setCell ⟨b2, 0, none⟩ (.int .i64 (P))).setCell ⟨b2, 1, none⟩ (.int .i64 (Q)) = V := ⟨_, rfl⟩; replace Hb1 : Hid (Blk Va2 b1 26 #[.int .i64 (a), .int .i64 (b)]) := (by rw [← hV]; exact ((Hb1.out.far_ (p := ⟨b2, 0, none⟩) nb1b2 _).far_ (p := ⟨b2, 1, none⟩) nb1b2 _)); replace Hb2 : Hid (Blk Va2 b2 108 #[.int .i64 (P), .int .i64 (Q)]) := (by rw [← hV]; exact ((Hb2.out.set_ 0 (.int .i64 (P))).set_ 1 (.int .i64 (Q)))); replace HB : Hid (Below w.heap.size w Va2) := (by rw [← hV]; exact ((HB.out.setCell (p := ⟨b2, 0, none⟩) gb2 _).setCell (p := ⟨b2, 1, none⟩) gb2 _)); rw [hV]; clear hV cR0 zR0 cR1 zR1
 refine wpAnyL_done (by kernel_rfl) ?_ _
 refine NoPanic.normal ?_
 clear HSV k0
 clear hHeld HB0 HB1 HB2
 have cb20 := kcl0 Hb2
 have cb21 := kcl1 Hb2
 go_wp2
 refine bodyPost_ret (v := .agg #[.int .i64 (P), .int .i64 (Q)]) (by simp [results, Tryd.results115, go_sem, cb20, cb21]) rfl ⟨rfl, HB.out⟩
theorem lag_rng {a x : Int} (h : 1 ≤ a ∧ a ≤ 1024) (hx : -4000000000000 ≤ x ∧ x ≤ 4000000000000) : -4096000000000000 ≤ a * x ∧ a * x ≤ 4096000000000000 := by
 have k : (a * x).natAbs ≤ 4096000000000000 := by
  rw [Int.natAbs_mul]
  exact Nat.mul_le_mul (show a.natAbs ≤ 1024 by omega) (show x.natAbs ≤ 4000000000000 by omega)
 omega
def bigB (z : Int × Int) : Prop := (-2000000000000 ≤ z.1 ∧ z.1 ≤ 2000000000000) ∧ (-2000000000000 ≤ z.2 ∧ z.2 ≤ 2000000000000)
set_option maxRecDepth 100000 in
set_option maxHeartbeats 4000000 in
theorem next_any (l1 l2 z1 z2 s1 s2 : Int) (w : World) (hl : spOk 1 1024 (l1, l2) = true) (hz : bigB (z1, z2)) (hs : bigB (s1, s2)) :
 Calls Tryd.prog 78 #[.agg #[.int .i64 l1, .int .i64 l2], .agg #[.int .i64 z1, .int .i64 z2], .agg #[.int .i64 s1, .int .i64 s2]] w fun e w' => e = .returned (.agg #[.int .i64 (stepZ (l1, l2) (z1, z2) (s1, s2)).1, .int .i64 (stepZ (l1, l2) (z1, z2) (s1, s2)).2]) ∧ Below w.heap.size w w' := by
 have hl' := spOk_iff.1 hl
 simp only at hl'
 obtain ⟨⟨z3, z4⟩, z5, z6⟩ := hz
 obtain ⟨⟨s3, s4⟩, s5, s6⟩ := hs
 simp only at z3 z4 z5 z6 s3 s4 s5 s6
 clear hl
 by_cases h1 : s1 < z1
 all_goals by_cases h2 : s2 < z2
 ·
  have m1 := lag_rng (a := l2) (x := s1 - z1) (by omega) (by omega)
  have m2 := lag_rng (a := l1) (x := s2 - z2) (by omega) (by omega)
  have e1 : IntKind.i64.wrap (l2 * (s1 - z1)) = l2 * (s1 - z1) := IntWalk.i64_in _ (by omega)
  have e2 : IntKind.i64.wrap (l1 * (s2 - z2)) = l1 * (s2 - z2) := IntWalk.i64_in _ (by omega)
  have hv : stepZ (l1, l2) (z1, z2) (s1, s2) = (z1 + l2 * (s1 - z1) / 1024, z2 + upQ (l1 * (s2 - z2)) 1024) := by unfold stepZ; simp only; rw [if_pos h1, if_pos h2]
  rw [hv]
  simp only
  have q1 : -4100000000000000 ≤ l2 * (s1 - z1) / 1024 ∧ l2 * (s1 - z1) / 1024 ≤ 4100000000000000 := by omega
  have q2 : -4100000000000001 ≤ upQ (l1 * (s2 - z2)) 1024 ∧ upQ (l1 * (s2 - z2)) 1024 ≤ 4100000000000001 := by unfold upQ; omega
  obtain ⟨P, hP⟩ : ∃ x, l2 * (s1 - z1) / 1024 = x := ⟨_, rfl⟩
  obtain ⟨Q, hQ⟩ : ∃ x, upQ (l1 * (s2 - z2)) 1024 = x := ⟨_, rfl⟩
  rw [hP] at q1 ⊢
  rw [hQ] at q2 ⊢
  have HP := Lib.hid hP
  have HQ := Lib.hid hQ
  clear hP hQ hv
  have wr0 : IntKind.i64.wrap (s1 - z1) = s1 - z1 := IntWalk.i64_in _ (by omega)
  have wr1 : IntKind.i64.wrap (s2 - z2) = s2 - z2 := IntWalk.i64_in _ (by omega)
  have wr2 : IntKind.i64.wrap (z1 + P) = z1 + P := IntWalk.i64_in _ (by omega)
  have wr3 : IntKind.i64.wrap (z2 + Q) = z2 + Q := IntWalk.i64_in _ (by omega)
  go_enter Tryd.func78, Tryd.ntmps78
  go_upto_region 1 with (fail)
  obtain ⟨Va1, hV⟩ : ∃ V, (((w.alloc (.cells #[.int .i64 (l1), .int .i64 (l2)] 26)).alloc (.cells #[.int .i64 (z1), .int .i64 (z2)] 108)).alloc (.cells #[.int .i64 (s1), .int .i64 (s2)] 108)).alloc (.cells #[.int .i64 (0), .int .i64 (0)] 108) = V := ⟨_, rfl⟩
  have Kb1 : Hid (Blk Va1 (w.heap.size) 26 #[.int .i64 (l1), .int .i64 (l2)]) := by rw [← hV]; exact (((Blk.new' _ _ _ (by simp)).alloc _).alloc _).alloc _
  have Kb2 : Hid (Blk Va1 (w.heap.size + 1) 108 #[.int .i64 (z1), .int .i64 (z2)]) := by rw [← hV]; exact ((Blk.new' _ _ _ (by simp)).alloc _).alloc _
  have Kb3 : Hid (Blk Va1 (w.heap.size + 1 + 1) 108 #[.int .i64 (s1), .int .i64 (s2)]) := by rw [← hV]; exact (Blk.new' _ _ _ (by simp)).alloc _
  have Kb4 : Hid (Blk Va1 (w.heap.size + 1 + 1 + 1) 108 #[.int .i64 (0), .int .i64 (0)]) := by rw [← hV]; exact Blk.new' _ _ _ (by simp)
  have GHB : Hid (Below w.heap.size w Va1) := by rw [← hV]; exact (by repeat (first | exact Below.refl _ _ | assumption | refine Below.drew ?_ | refine Below.drewN' ?_ _ | (refine Below.alloc ?_ (by simp <;> omega) _) | (refine Below.setCell ?_ (by simp <;> omega) _)))
  have HZ : Hid (Below w.heap.size w Va1) := GHB
  rw [hV]
  clear hV HZ
  have HB := GHB
  clear GHB
  obtain ⟨b4, hqb4⟩ : ∃ b, w.heap.size + 1 + 1 + 1 = b := ⟨_, rfl⟩
  obtain ⟨b3, hqb3⟩ : ∃ b, w.heap.size + 1 + 1 = b := ⟨_, rfl⟩
  obtain ⟨b2, hqb2⟩ : ∃ b, w.heap.size + 1 = b := ⟨_, rfl⟩
  obtain ⟨b1, hqb1⟩ : ∃ b, w.heap.size = b := ⟨_, rfl⟩
  have gb1 : w.heap.size ≤ b1 := by omega
  have gb2 : w.heap.size ≤ b2 := by omega
  have nb2b1 : ¬ b2 = b1 := by omega
  have nb1b2 : ¬ b1 = b2 := by omega
  have gb3 : w.heap.size ≤ b3 := by omega
  have nb3b1 : ¬ b3 = b1 := by omega
  have nb1b3 : ¬ b1 = b3 := by omega
  have nb3b2 : ¬ b3 = b2 := by omega
  have nb2b3 : ¬ b2 = b3 := by omega
  have gb4 : w.heap.size ≤ b4 := by omega
  have nb4b1 : ¬ b4 = b1 := by omega
  have nb1b4 : ¬ b1 = b4 := by omega
  have nb4b2 : ¬ b4 = b2 := by omega
  have nb2b4 : ¬ b2 = b4 := by omega
  have nb4b3 : ¬ b4 = b3 := by omega
  have nb3b4 : ¬ b3 = b4 := by omega
  rw [hqb4] at Kb4 ⊢
  clear hqb4
  rw [hqb3] at Kb3 ⊢
  clear hqb3
  rw [hqb2] at Kb2 ⊢
  clear hqb2
  have HN : Hid (w.heap.size = b1) := hqb1
  rw [hqb1] at Kb1 ⊢
  clear hqb1
  have Hb1 := Kb1
  clear Kb1
  have Hb2 := Kb2
  clear Kb2
  have Hb3 := Kb3
  clear Kb3
  have Hb4 := Kb4
  clear Kb4
  have cb10 := kcl0 Hb1
  have cb11 := kcl1 Hb1
  have cb20 := kcl0 Hb2
  have cb21 := kcl1 Hb2
  have cb30 := kcl0 Hb3
  have cb31 := kcl1 Hb3
  go_quiet (fail)
  go_upto_region 6 with (fail)
  clear cb10 cb11 cb20 cb21 cb30 cb31
  obtain ⟨Va2, hVq⟩ : ∃ V, Va1.drewN nq = V := ⟨_, rfl⟩
  have HZ : Hid (Below Va1.heap.size Va1 Va2) := by rw [← hVq]; exact Below.drewN' (Below.refl _ _) _
  rw [hVq]
  clear hVq
  replace Hb1 := kbl Hb1 HZ
  replace Hb2 := kbl Hb2 HZ
  replace Hb3 := kbl Hb3 HZ
  replace Hb4 := kbl Hb4 HZ
  replace HB := ktr' HB HZ
  clear HZ
  have HSV : Hid (∀ U, Below Va2.heap.size Va2 U → U.cell? ⟨b2, 0, none⟩ = some (.int .i64 (z1)) ∧ U.cell? ⟨b2, 1, none⟩ = some (.int .i64 (z2)) ∧ U.cell? ⟨b3, 0, none⟩ = some (.int .i64 (s1)) ∧ U.cell? ⟨b3, 1, none⟩ = some (.int .i64 (s2))) := fun U hU => by
   have kb2 := Hb2.out.below hU Hb2.out.lt
   have kb3 := Hb3.out.below hU Hb3.out.lt
   exact ⟨kb2.cell 0, kb2.cell 1, kb3.cell 0, kb3.cell 1⟩
  have k0 := HSV.out _ (Below.drew (Below.refl Va2.heap.size Va2))
  refine wp_region_noPanic ?_
  refine wp_region_L (S := (fun w' => w'.cell? ⟨b2, 0, none⟩ = some (.int .i64 (z1)) ∧ w'.cell? ⟨b2, 1, none⟩ = some (.int .i64 (z2)) ∧ w'.cell? ⟨b3, 0, none⟩ = some (.int .i64 (s1)) ∧ w'.cell? ⟨b3, 1, none⟩ = some (.int .i64 (s2)))) (ks := [30]) (by kernel_rfl) ?_ (fun hHeld => ?_)
  · (try dsimp only); (exact k0)
  refine tL 0 Zs ?_ ?_ ?_
  rotate_left
  · ((intro w hSw; delta Zs; (try dsimp only at hSw); go_simp) <;> with_reducible rfl)
  try simp only [Zs, ksz]
  refine tL 3 Zv ?_ ?_ ?_
  rotate_left
  · ((intro w hSw; delta Zv; (try dsimp only at hSw); go_simp) <;> with_reducible rfl)
  try simp only [Zv, ksz]
  refine tL 4 Zw ?_ ?_ ?_
  rotate_left
  · ((intro w hSw; delta Zw; (try dsimp only at hSw); go_simp) <;> with_reducible rfl)
  try simp only [Zw, ksz]
  refine tL 7 Zz ?_ ?_ ?_
  rotate_left
  · ((intro w hSw; delta Zz; (try dsimp only at hSw); go_simp) <;> with_reducible rfl)
  try simp only [Zz, ksz]
  refine tL 14 Z16 ?_ ?_ ?_
  rotate_left
  · ((intro w hSw; delta Z16; (try dsimp only at hSw); go_simp) <;> with_reducible rfl)
  try simp only [Z16, ksz]
  refine tL 17 Z19 ?_ ?_ ?_
  rotate_left
  · ((intro w hSw; delta Z19; (try dsimp only at hSw); go_simp) <;> with_reducible rfl)
  try simp only [Z19, ksz]
  refine tL 18 Z1a ?_ ?_ ?_
  rotate_left
  · ((intro w hSw; delta Z1a; (try dsimp only at hSw); go_simp) <;> with_reducible rfl)
  try simp only [Z1a, ksz]
  refine tL 21 Z1d ?_ ?_ ?_
  rotate_left
  · ((intro w hSw; delta Z1d; (try dsimp only at hSw); go_simp) <;> with_reducible rfl)
  try simp only [Z1d, ksz]
  refine tL 1 Zt ?_ ?_ ?_
  rotate_left
  · ((intro w hSw; delta Zt; (try dsimp only at hSw); go_simp) <;> with_reducible rfl)
  try simp only [Zt, ksz]
  refine tL 5 Zx ?_ ?_ ?_
  rotate_left
  · ((intro w hSw; delta Zx; (try dsimp only at hSw); go_simp) <;> with_reducible rfl)
  try simp only [Zx, ksz]
  refine tL 8 Z10 ?_ ?_ ?_
  rotate_left
  · ((intro w hSw; delta Z10; (try dsimp only at hSw); go_simp) <;> with_reducible rfl)
  try simp only [Z10, ksz]
  refine tL 15 Z17 ?_ ?_ ?_
  rotate_left
  · ((intro w hSw; delta Z17; (try dsimp only at hSw); go_simp) <;> with_reducible rfl)
  try simp only [Z17, ksz]
  refine tL 19 Z1b ?_ ?_ ?_
  rotate_left
  · ((intro w hSw; delta Z1b; (try dsimp only at hSw); go_simp) <;> with_reducible rfl)
  try simp only [Z1b, ksz]
  refine tL 22 Z1e ?_ ?_ ?_
  rotate_left
  · ((intro w hSw; delta Z1e; (try dsimp only at hSw); go_simp) <;> with_reducible rfl)
  try simp only [Z1e, ksz]
  refine tL 2 Zu ?_ ?_ ?_
  rotate_left
  · ((intro w hSw; delta Zu; (try dsimp only at hSw); go_simp) <;> with_reducible rfl)
  try simp only [Zu, ksz]
  refine tL 6 Zy ?_ ?_ ?_
  rotate_left
  · ((intro w hSw; delta Zy; (try dsimp only at hSw); go_simp) <;> with_reducible rfl)
  try simp only [Zy, ksz]
  refine tL 9 Z11 ?_ ?_ ?_
  rotate_left
  · ((intro w hSw; delta Z11; (try dsimp only at hSw); go_simp) <;> with_reducible rfl)
  try simp only [Z11, ksz]
  refine tL 16 Z18 ?_ ?_ ?_
  rotate_left
  · ((intro w hSw; delta Z18; (try dsimp only at hSw); go_simp) <;> with_reducible rfl)
  try simp only [Z18, ksz]
  refine tL 20 Z1c ?_ ?_ ?_
  rotate_left
  · ((intro w hSw; delta Z1c; (try dsimp only at hSw); go_simp) <;> with_reducible rfl)
  try simp only [Z1c, ksz]
  refine tL 23 Z1f ?_ ?_ ?_
  rotate_left
  · ((intro w hSw; delta Z1f; (try dsimp only at hSw); go_simp) <;> with_reducible rfl)
  try simp only [Z1f, ksz]
  refine tL 10 Z12 ?_ ?_ ?_
  rotate_left
  · ((intro w hSw; delta Z12; (try dsimp only at hSw); go_simp) <;> with_reducible rfl)
  try simp only [Z12, ksz]
  refine tL 24 Z1g ?_ ?_ ?_
  rotate_left
  · ((intro w hSw; delta Z1g; (try dsimp only at hSw); go_simp) <;> with_reducible rfl)
  try simp only [Z1g, ksz]
  refine tL 11 Z13 ?_ ?_ ?_
  rotate_left
  · ((intro w hSw; delta Z13; (try dsimp only at hSw); go_simp) <;> with_reducible rfl)
  try simp only [Z13, ksz]
  refine tL 25 Z1h ?_ ?_ ?_
  rotate_left
  · ((intro w hSw; delta Z1h; (try dsimp only at hSw); go_simp) <;> with_reducible rfl)
  try simp only [Z1h, ksz]
  obtain ⟨W0, hW0⟩ : ∃ V, Va2.drew = V := ⟨_, rfl⟩; rw [hW0] at hHeld ⊢; have HB0 : Hid (Below Va2.heap.size Va2 W0) := (by rw [← hW0]; exact Below.drew (Below.refl _ _)); clear hW0
  refine wpAnyL_ready (rs := [12]) (by kernel_rfl) (by simp) ?_
  refine AllReadyL.cons (o := Z14) rfl (fun K hK => ?_) AllReadyL.nil
  delta Z14
  go_simp
  (refine (down_any _ _ _ (by omega) (by omega) (by omega)).mono ?_; rintro e W1 ⟨rfl, hw⟩; have HB1 : Hid (Below Va2.heap.size Va2 W1) := (by rw [← hw]; exact HB0.out); clear hw; rw [HP.out])
  refine hK.out _ _ ?_ (fun hHeld => ?_)
  · (try dsimp only); (exact HSV.out _ HB1.out)
  clear hK K
  try simp only [Z14, ksz]
  refine tL 13 Z15 ?_ ?_ ?_
  rotate_left
  · ((intro w hSw; delta Z15; (try dsimp only at hSw); go_simp) <;> with_reducible rfl)
  try simp only [Z15, ksz]
  refine wpAnyL_ready (rs := [26]) (by kernel_rfl) (by simp) ?_
  refine AllReadyL.cons (o := Z1i) rfl (fun K hK => ?_) AllReadyL.nil
  delta Z1i
  go_simp
  (refine (up_any _ _ _ (by omega) (by omega) (by omega)).mono ?_; rintro e W2 ⟨rfl, hw⟩; have HB2 : Hid (Below Va2.heap.size Va2 W2) := (by rw [← hw]; exact HB1.out); clear hw; rw [HQ.out])
  refine hK.out _ _ ?_ (fun hHeld => ?_)
  · (try dsimp only); (exact HSV.out _ HB2.out)
  clear hK K
  try simp only [Z1i, ksz]
  refine tL 27 Z1j ?_ ?_ ?_
  rotate_left
  · ((intro w hSw; delta Z1j; (try dsimp only at hSw); go_simp) <;> with_reducible rfl)
  try simp only [Z1j, ksz]
  refine tL 28 Z1k ?_ ?_ ?_
  rotate_left
  · ((intro w hSw; delta Z1k; (try dsimp only at hSw); go_simp) <;> with_reducible rfl)
  try simp only [Z1k, ksz]
  refine tL 29 Z1l ?_ ?_ ?_
  rotate_left
  · ((intro w hSw; delta Z1l; (try dsimp only at hSw); go_simp) <;> with_reducible rfl)
  try simp only [Z1l, ksz]
  have Gb1 := Lib.hid (Hb1.out.below HB2.out Hb1.out.lt); have Gb2 := Lib.hid (Hb2.out.below HB2.out Hb2.out.lt); have Gb3 := Lib.hid (Hb3.out.below HB2.out Hb3.out.lt); have Gb4 := Lib.hid (Hb4.out.below HB2.out Hb4.out.lt); have GHB := Lib.hid (HB.out.trans (HB2.out.mono HB.out.size)); clear Hb1 Hb2 Hb3 Hb4 HB; have Hb1 := Gb1; clear Gb1; have Hb2 := Gb2; clear Gb2; have Hb3 := Gb3; clear Gb3; have Hb4 := Gb4; clear Gb4; have HB := GHB; clear GHB; have cR0 := Hb4.out.cell 0; have zR0 := Hb4.out.frozen 0; have cR1 := Hb4.out.cell 1; have zR1 := Hb4.out.frozen 1; simp only [List.getElem?_toArray, List.getElem?_cons_zero, List.getElem?_cons_succ] at cR0 cR1
  refine wpAnyL_ready (rs := [30]) (by kernel_rfl) (by simp) ?_
  refine AllReadyL.gate (o := Z1m) rfl (by kernel_rfl) (fun K hK => ?_) AllReadyL.nil
  delta Z1m
  go_simp
  refine hK.out _ _ ?_
  clear hK K
  try simp only [Z1m, ksz]
  obtain ⟨Va3, hV⟩ : ∃ V, (W2.setCell ⟨b4, 0, none⟩ (.int .i64 (z1 + P))).setCell ⟨b4, 1, none⟩ (.int .i64 (z2 + Q)) = V := ⟨_, rfl⟩; replace Hb1 : Hid (Blk Va3 b1 26 #[.int .i64 (l1), .int .i64 (l2)]) := (by rw [← hV]; exact ((Hb1.out.far_ (p := ⟨b4, 0, none⟩) nb1b4 _).far_ (p := ⟨b4, 1, none⟩) nb1b4 _)); replace Hb2 : Hid (Blk Va3 b2 108 #[.int .i64 (z1), .int .i64 (z2)]) := (by rw [← hV]; exact ((Hb2.out.far_ (p := ⟨b4, 0, none⟩) nb2b4 _).far_ (p := ⟨b4, 1, none⟩) nb2b4 _)); replace Hb3 : Hid (Blk Va3 b3 108 #[.int .i64 (s1), .int .i64 (s2)]) := (by rw [← hV]; exact ((Hb3.out.far_ (p := ⟨b4, 0, none⟩) nb3b4 _).far_ (p := ⟨b4, 1, none⟩) nb3b4 _)); replace Hb4 : Hid (Blk Va3 b4 108 #[.int .i64 (z1 + P), .int .i64 (z2 + Q)]) := (by rw [← hV]; exact ((Hb4.out.set_ 0 (.int .i64 (z1 + P))).set_ 1 (.int .i64 (z2 + Q)))); replace HB : Hid (Below w.heap.size w Va3) := (by rw [← hV]; exact ((HB.out.setCell (p := ⟨b4, 0, none⟩) gb4 _).setCell (p := ⟨b4, 1, none⟩) gb4 _)); rw [hV]; clear hV cR0 zR0 cR1 zR1
  refine wpAnyL_done (by kernel_rfl) ?_ _
  refine NoPanic.normal ?_
  clear HSV k0
  clear hHeld HB0 HB1 HB2
  have cb40 := kcl0 Hb4
  have cb41 := kcl1 Hb4
  go_wp2
  refine bodyPost_ret (v := .agg #[.int .i64 (z1 + P), .int .i64 (z2 + Q)]) (by simp [results, Tryd.results78, go_sem, cb40, cb41]) rfl ⟨rfl, HB.out⟩
 ·
  have m1 := lag_rng (a := l2) (x := s1 - z1) (by omega) (by omega)
  have m2 := lag_rng (a := l2) (x := s2 - z2) (by omega) (by omega)
  have e1 : IntKind.i64.wrap (l2 * (s1 - z1)) = l2 * (s1 - z1) := IntWalk.i64_in _ (by omega)
  have e2 : IntKind.i64.wrap (l2 * (s2 - z2)) = l2 * (s2 - z2) := IntWalk.i64_in _ (by omega)
  have hv : stepZ (l1, l2) (z1, z2) (s1, s2) = (z1 + l2 * (s1 - z1) / 1024, z2 + upQ (l2 * (s2 - z2)) 1024) := by unfold stepZ; simp only; rw [if_pos h1, if_neg h2]
  rw [hv]
  simp only
  have q1 : -4100000000000000 ≤ l2 * (s1 - z1) / 1024 ∧ l2 * (s1 - z1) / 1024 ≤ 4100000000000000 := by omega
  have q2 : -4100000000000001 ≤ upQ (l2 * (s2 - z2)) 1024 ∧ upQ (l2 * (s2 - z2)) 1024 ≤ 4100000000000001 := by unfold upQ; omega
  obtain ⟨P, hP⟩ : ∃ x, l2 * (s1 - z1) / 1024 = x := ⟨_, rfl⟩
  obtain ⟨Q, hQ⟩ : ∃ x, upQ (l2 * (s2 - z2)) 1024 = x := ⟨_, rfl⟩
  rw [hP] at q1 ⊢
  rw [hQ] at q2 ⊢
  have HP := Lib.hid hP
  have HQ := Lib.hid hQ
  clear hP hQ hv
  have wr0 : IntKind.i64.wrap (s1 - z1) = s1 - z1 := IntWalk.i64_in _ (by omega)
  have wr1 : IntKind.i64.wrap (s2 - z2) = s2 - z2 := IntWalk.i64_in _ (by omega)
  have wr2 : IntKind.i64.wrap (z1 + P) = z1 + P := IntWalk.i64_in _ (by omega)
  have wr3 : IntKind.i64.wrap (z2 + Q) = z2 + Q := IntWalk.i64_in _ (by omega)
  go_enter Tryd.func78, Tryd.ntmps78
  go_upto_region 1 with (fail)
  obtain ⟨Va1, hV⟩ : ∃ V, (((w.alloc (.cells #[.int .i64 (l1), .int .i64 (l2)] 26)).alloc (.cells #[.int .i64 (z1), .int .i64 (z2)] 108)).alloc (.cells #[.int .i64 (s1), .int .i64 (s2)] 108)).alloc (.cells #[.int .i64 (0), .int .i64 (0)] 108) = V := ⟨_, rfl⟩
  have Kb1 : Hid (Blk Va1 (w.heap.size) 26 #[.int .i64 (l1), .int .i64 (l2)]) := by rw [← hV]; exact (((Blk.new' _ _ _ (by simp)).alloc _).alloc _).alloc _
  have Kb2 : Hid (Blk Va1 (w.heap.size + 1) 108 #[.int .i64 (z1), .int .i64 (z2)]) := by rw [← hV]; exact ((Blk.new' _ _ _ (by simp)).alloc _).alloc _
  have Kb3 : Hid (Blk Va1 (w.heap.size + 1 + 1) 108 #[.int .i64 (s1), .int .i64 (s2)]) := by rw [← hV]; exact (Blk.new' _ _ _ (by simp)).alloc _
  have Kb4 : Hid (Blk Va1 (w.heap.size + 1 + 1 + 1) 108 #[.int .i64 (0), .int .i64 (0)]) := by rw [← hV]; exact Blk.new' _ _ _ (by simp)
  have GHB : Hid (Below w.heap.size w Va1) := by rw [← hV]; exact (by repeat (first | exact Below.refl _ _ | assumption | refine Below.drew ?_ | refine Below.drewN' ?_ _ | (refine Below.alloc ?_ (by simp <;> omega) _) | (refine Below.setCell ?_ (by simp <;> omega) _)))
  have HZ : Hid (Below w.heap.size w Va1) := GHB
  rw [hV]
  clear hV HZ
  have HB := GHB
  clear GHB
  obtain ⟨b4, hqb4⟩ : ∃ b, w.heap.size + 1 + 1 + 1 = b := ⟨_, rfl⟩
  obtain ⟨b3, hqb3⟩ : ∃ b, w.heap.size + 1 + 1 = b := ⟨_, rfl⟩
  obtain ⟨b2, hqb2⟩ : ∃ b, w.heap.size + 1 = b := ⟨_, rfl⟩
  obtain ⟨b1, hqb1⟩ : ∃ b, w.heap.size = b := ⟨_, rfl⟩
  have gb1 : w.heap.size ≤ b1 := by omega
  have gb2 : w.heap.size ≤ b2 := by omega
  have nb2b1 : ¬ b2 = b1 := by omega
  have nb1b2 : ¬ b1 = b2 := by omega
  have gb3 : w.heap.size ≤ b3 := by omega
  have nb3b1 : ¬ b3 = b1 := by omega
  have nb1b3 : ¬ b1 = b3 := by omega
  have nb3b2 : ¬ b3 = b2 := by omega
  have nb2b3 : ¬ b2 = b3 := by omega
  have gb4 : w.heap.size ≤ b4 := by omega
  have nb4b1 : ¬ b4 = b1 := by omega
  have nb1b4 : ¬ b1 = b4 := by omega
  have nb4b2 : ¬ b4 = b2 := by omega
  have nb2b4 : ¬ b2 = b4 := by omega
  have nb4b3 : ¬ b4 = b3 := by omega
  have nb3b4 : ¬ b3 = b4 := by omega
  rw [hqb4] at Kb4 ⊢
  clear hqb4
  rw [hqb3] at Kb3 ⊢
  clear hqb3
  rw [hqb2] at Kb2 ⊢
  clear hqb2
  have HN : Hid (w.heap.size = b1) := hqb1
  rw [hqb1] at Kb1 ⊢
  clear hqb1
  have Hb1 := Kb1
  clear Kb1
  have Hb2 := Kb2
  clear Kb2
  have Hb3 := Kb3
  clear Kb3
  have Hb4 := Kb4
  clear Kb4
  have cb10 := kcl0 Hb1
  have cb11 := kcl1 Hb1
  have cb20 := kcl0 Hb2
  have cb21 := kcl1 Hb2
  have cb30 := kcl0 Hb3
  have cb31 := kcl1 Hb3
  go_quiet (fail)
  go_upto_region 6 with (fail)
  clear cb10 cb11 cb20 cb21 cb30 cb31
  obtain ⟨Va2, hVq⟩ : ∃ V, Va1.drewN nq = V := ⟨_, rfl⟩
  have HZ : Hid (Below Va1.heap.size Va1 Va2) := by rw [← hVq]; exact Below.drewN' (Below.refl _ _) _
  rw [hVq]
  clear hVq
  replace Hb1 := kbl Hb1 HZ
  replace Hb2 := kbl Hb2 HZ
  replace Hb3 := kbl Hb3 HZ
  replace Hb4 := kbl Hb4 HZ
  replace HB := ktr' HB HZ
  clear HZ
  have HSV : Hid (∀ U, Below Va2.heap.size Va2 U → U.cell? ⟨b2, 0, none⟩ = some (.int .i64 (z1)) ∧ U.cell? ⟨b2, 1, none⟩ = some (.int .i64 (z2)) ∧ U.cell? ⟨b3, 0, none⟩ = some (.int .i64 (s1)) ∧ U.cell? ⟨b3, 1, none⟩ = some (.int .i64 (s2))) := fun U hU => by
   have kb2 := Hb2.out.below hU Hb2.out.lt
   have kb3 := Hb3.out.below hU Hb3.out.lt
   exact ⟨kb2.cell 0, kb2.cell 1, kb3.cell 0, kb3.cell 1⟩
  have k0 := HSV.out _ (Below.drew (Below.refl Va2.heap.size Va2))
  refine wp_region_noPanic ?_
  refine wp_region_L (S := (fun w' => w'.cell? ⟨b2, 0, none⟩ = some (.int .i64 (z1)) ∧ w'.cell? ⟨b2, 1, none⟩ = some (.int .i64 (z2)) ∧ w'.cell? ⟨b3, 0, none⟩ = some (.int .i64 (s1)) ∧ w'.cell? ⟨b3, 1, none⟩ = some (.int .i64 (s2)))) (ks := [30]) (by kernel_rfl) ?_ (fun hHeld => ?_)
  · (try dsimp only); (exact k0)
  refine tL 0 Zs ?_ ?_ ?_
  rotate_left
  · ((intro w hSw; delta Zs; (try dsimp only at hSw); go_simp) <;> with_reducible rfl)
  try simp only [Zs, ksz]
  refine tL 3 Zv ?_ ?_ ?_
  rotate_left
  · ((intro w hSw; delta Zv; (try dsimp only at hSw); go_simp) <;> with_reducible rfl)
  try simp only [Zv, ksz]
  refine tL 4 Zw ?_ ?_ ?_
  rotate_left
  · ((intro w hSw; delta Zw; (try dsimp only at hSw); go_simp) <;> with_reducible rfl)
  try simp only [Zw, ksz]
  refine tL 7 Zz ?_ ?_ ?_
  rotate_left
  · ((intro w hSw; delta Zz; (try dsimp only at hSw); go_simp) <;> with_reducible rfl)
  try simp only [Zz, ksz]
  refine tL 14 Z16 ?_ ?_ ?_
  rotate_left
  · ((intro w hSw; delta Z16; (try dsimp only at hSw); go_simp) <;> with_reducible rfl)
  try simp only [Z16, ksz]
  refine tL 17 Z19 ?_ ?_ ?_
  rotate_left
  · ((intro w hSw; delta Z19; (try dsimp only at hSw); go_simp) <;> with_reducible rfl)
  try simp only [Z19, ksz]
  refine tL 18 Z1a ?_ ?_ ?_
  rotate_left
  · ((intro w hSw; delta Z1a; (try dsimp only at hSw); go_simp) <;> with_reducible rfl)
  try simp only [Z1a, ksz]
  refine tL 21 Z1d ?_ ?_ ?_
  rotate_left
  · ((intro w hSw; delta Z1d; (try dsimp only at hSw); go_simp) <;> with_reducible rfl)
  try simp only [Z1d, ksz]
  refine tL 1 Zt ?_ ?_ ?_
  rotate_left
  · ((intro w hSw; delta Zt; (try dsimp only at hSw); go_simp) <;> with_reducible rfl)
  try simp only [Zt, ksz]
  refine tL 5 Zx ?_ ?_ ?_
  rotate_left
  · ((intro w hSw; delta Zx; (try dsimp only at hSw); go_simp) <;> with_reducible rfl)
  try simp only [Zx, ksz]
  refine tL 8 Z10 ?_ ?_ ?_
  rotate_left
  · ((intro w hSw; delta Z10; (try dsimp only at hSw); go_simp) <;> with_reducible rfl)
  try simp only [Z10, ksz]
  refine tL 15 Z17 ?_ ?_ ?_
  rotate_left
  · ((intro w hSw; delta Z17; (try dsimp only at hSw); go_simp) <;> with_reducible rfl)
  try simp only [Z17, ksz]
  refine tL 19 Z1b ?_ ?_ ?_
  rotate_left
  · ((intro w hSw; delta Z1b; (try dsimp only at hSw); go_simp) <;> with_reducible rfl)
  try simp only [Z1b, ksz]
  refine tL 22 Z1e ?_ ?_ ?_
  rotate_left
  · ((intro w hSw; delta Z1e; (try dsimp only at hSw); go_simp) <;> with_reducible rfl)
  try simp only [Z1e, ksz]
  refine tL 2 Zu ?_ ?_ ?_
  rotate_left
  · ((intro w hSw; delta Zu; (try dsimp only at hSw); go_simp) <;> with_reducible rfl)
  try simp only [Zu, ksz]
  refine tL 6 Zy ?_ ?_ ?_
  rotate_left
  · ((intro w hSw; delta Zy; (try dsimp only at hSw); go_simp) <;> with_reducible rfl)
  try simp only [Zy, ksz]
  refine tL 9 Z11 ?_ ?_ ?_
  rotate_left
  · ((intro w hSw; delta Z11; (try dsimp only at hSw); go_simp) <;> with_reducible rfl)
  try simp only [Z11, ksz]
  refine tL 16 Z18 ?_ ?_ ?_
  rotate_left
  · ((intro w hSw; delta Z18; (try dsimp only at hSw); go_simp) <;> with_reducible rfl)
  try simp only [Z18, ksz]
  refine tL 20 Z1c ?_ ?_ ?_
  rotate_left
  · ((intro w hSw; delta Z1c; (try dsimp only at hSw); go_simp) <;> with_reducible rfl)
  try simp only [Z1c, ksz]
  refine tL 23 Z1f ?_ ?_ ?_
  rotate_left
  · ((intro w hSw; delta Z1f; (try dsimp only at hSw); go_simp) <;> with_reducible rfl)
  try simp only [Z1f, ksz]
  refine tL 10 Z12 ?_ ?_ ?_
  rotate_left
  · ((intro w hSw; delta Z12; (try dsimp only at hSw); go_simp) <;> with_reducible rfl)
  try simp only [Z12, ksz]
  refine tL 24 Z1g ?_ ?_ ?_
  rotate_left
  · ((intro w hSw; delta Z1g; (try dsimp only at hSw); go_simp) <;> with_reducible rfl)
  try simp only [Z1g, ksz]
  refine tL 11 Z13 ?_ ?_ ?_
  rotate_left
  · ((intro w hSw; delta Z13; (try dsimp only at hSw); go_simp) <;> with_reducible rfl)
  try simp only [Z13, ksz]
  refine tL 25 Z1h ?_ ?_ ?_
  rotate_left
  · ((intro w hSw; delta Z1h; (try dsimp only at hSw); go_simp) <;> with_reducible rfl)
  try simp only [Z1h, ksz]
  obtain ⟨W0, hW0⟩ : ∃ V, Va2.drew = V := ⟨_, rfl⟩; rw [hW0] at hHeld ⊢; have HB0 : Hid (Below Va2.heap.size Va2 W0) := (by rw [← hW0]; exact Below.drew (Below.refl _ _)); clear hW0
  refine wpAnyL_ready (rs := [12]) (by kernel_rfl) (by simp) ?_
  refine AllReadyL.cons (o := Z14) rfl (fun K hK => ?_) AllReadyL.nil
  delta Z14
  go_simp
  (refine (down_any _ _ _ (by omega) (by omega) (by omega)).mono ?_; rintro e W1 ⟨rfl, hw⟩; have HB1 : Hid (Below Va2.heap.size Va2 W1) := (by rw [← hw]; exact HB0.out); clear hw; rw [HP.out])
  refine hK.out _ _ ?_ (fun hHeld => ?_)
  · (try dsimp only); (exact HSV.out _ HB1.out)
  clear hK K
  try simp only [Z14, ksz]
  refine tL 13 Z15 ?_ ?_ ?_
  rotate_left
  · ((intro w hSw; delta Z15; (try dsimp only at hSw); go_simp) <;> with_reducible rfl)
  try simp only [Z15, ksz]
  refine wpAnyL_ready (rs := [26]) (by kernel_rfl) (by simp) ?_
  refine AllReadyL.cons (o := Z1i) rfl (fun K hK => ?_) AllReadyL.nil
  delta Z1i
  go_simp
  (refine (up_any _ _ _ (by omega) (by omega) (by omega)).mono ?_; rintro e W2 ⟨rfl, hw⟩; have HB2 : Hid (Below Va2.heap.size Va2 W2) := (by rw [← hw]; exact HB1.out); clear hw; rw [HQ.out])
  refine hK.out _ _ ?_ (fun hHeld => ?_)
  · (try dsimp only); (exact HSV.out _ HB2.out)
  clear hK K
  try simp only [Z1i, ksz]
  refine tL 27 Z1j ?_ ?_ ?_
  rotate_left
  · ((intro w hSw; delta Z1j; (try dsimp only at hSw); go_simp) <;> with_reducible rfl)
  try simp only [Z1j, ksz]
  refine tL 28 Z1k ?_ ?_ ?_
  rotate_left
  · ((intro w hSw; delta Z1k; (try dsimp only at hSw); go_simp) <;> with_reducible rfl)
  try simp only [Z1k, ksz]
  refine tL 29 Z1l ?_ ?_ ?_
  rotate_left
  · ((intro w hSw; delta Z1l; (try dsimp only at hSw); go_simp) <;> with_reducible rfl)
  try simp only [Z1l, ksz]
  have Gb1 := Lib.hid (Hb1.out.below HB2.out Hb1.out.lt); have Gb2 := Lib.hid (Hb2.out.below HB2.out Hb2.out.lt); have Gb3 := Lib.hid (Hb3.out.below HB2.out Hb3.out.lt); have Gb4 := Lib.hid (Hb4.out.below HB2.out Hb4.out.lt); have GHB := Lib.hid (HB.out.trans (HB2.out.mono HB.out.size)); clear Hb1 Hb2 Hb3 Hb4 HB; have Hb1 := Gb1; clear Gb1; have Hb2 := Gb2; clear Gb2; have Hb3 := Gb3; clear Gb3; have Hb4 := Gb4; clear Gb4; have HB := GHB; clear GHB; have cR0 := Hb4.out.cell 0; have zR0 := Hb4.out.frozen 0; have cR1 := Hb4.out.cell 1; have zR1 := Hb4.out.frozen 1; simp only [List.getElem?_toArray, List.getElem?_cons_zero, List.getElem?_cons_succ] at cR0 cR1
  refine wpAnyL_ready (rs := [30]) (by kernel_rfl) (by simp) ?_
  refine AllReadyL.gate (o := Z1m) rfl (by kernel_rfl) (fun K hK => ?_) AllReadyL.nil
  delta Z1m
  go_simp
  refine hK.out _ _ ?_
  clear hK K
  try simp only [Z1m, ksz]
  obtain ⟨Va3, hV⟩ : ∃ V, (W2.setCell ⟨b4, 0, none⟩ (.int .i64 (z1 + P))).setCell ⟨b4, 1, none⟩ (.int .i64 (z2 + Q)) = V := ⟨_, rfl⟩; replace Hb1 : Hid (Blk Va3 b1 26 #[.int .i64 (l1), .int .i64 (l2)]) := (by rw [← hV]; exact ((Hb1.out.far_ (p := ⟨b4, 0, none⟩) nb1b4 _).far_ (p := ⟨b4, 1, none⟩) nb1b4 _)); replace Hb2 : Hid (Blk Va3 b2 108 #[.int .i64 (z1), .int .i64 (z2)]) := (by rw [← hV]; exact ((Hb2.out.far_ (p := ⟨b4, 0, none⟩) nb2b4 _).far_ (p := ⟨b4, 1, none⟩) nb2b4 _)); replace Hb3 : Hid (Blk Va3 b3 108 #[.int .i64 (s1), .int .i64 (s2)]) := (by rw [← hV]; exact ((Hb3.out.far_ (p := ⟨b4, 0, none⟩) nb3b4 _).far_ (p := ⟨b4, 1, none⟩) nb3b4 _)); replace Hb4 : Hid (Blk Va3 b4 108 #[.int .i64 (z1 + P), .int .i64 (z2 + Q)]) := (by rw [← hV]; exact ((Hb4.out.set_ 0 (.int .i64 (z1 + P))).set_ 1 (.int .i64 (z2 + Q)))); replace HB : Hid (Below w.heap.size w Va3) := (by rw [← hV]; exact ((HB.out.setCell (p := ⟨b4, 0, none⟩) gb4 _).setCell (p := ⟨b4, 1, none⟩) gb4 _)); rw [hV]; clear hV cR0 zR0 cR1 zR1
  refine wpAnyL_done (by kernel_rfl) ?_ _
  refine NoPanic.normal ?_
  clear HSV k0
  clear hHeld HB0 HB1 HB2
  have cb40 := kcl0 Hb4
  have cb41 := kcl1 Hb4
  go_wp2
  refine bodyPost_ret (v := .agg #[.int .i64 (z1 + P), .int .i64 (z2 + Q)]) (by simp [results, Tryd.results78, go_sem, cb40, cb41]) rfl ⟨rfl, HB.out⟩
 ·
  have m1 := lag_rng (a := l1) (x := s1 - z1) (by omega) (by omega)
  have m2 := lag_rng (a := l1) (x := s2 - z2) (by omega) (by omega)
  have e1 : IntKind.i64.wrap (l1 * (s1 - z1)) = l1 * (s1 - z1) := IntWalk.i64_in _ (by omega)
  have e2 : IntKind.i64.wrap (l1 * (s2 - z2)) = l1 * (s2 - z2) := IntWalk.i64_in _ (by omega)
  have hv : stepZ (l1, l2) (z1, z2) (s1, s2) = (z1 + l1 * (s1 - z1) / 1024, z2 + upQ (l1 * (s2 - z2)) 1024) := by unfold stepZ; simp only; rw [if_neg h1, if_pos h2]
  rw [hv]
  simp only
  have q1 : -4100000000000000 ≤ l1 * (s1 - z1) / 1024 ∧ l1 * (s1 - z1) / 1024 ≤ 4100000000000000 := by omega
  have q2 : -4100000000000001 ≤ upQ (l1 * (s2 - z2)) 1024 ∧ upQ (l1 * (s2 - z2)) 1024 ≤ 4100000000000001 := by unfold upQ; omega
  obtain ⟨P, hP⟩ : ∃ x, l1 * (s1 - z1) / 1024 = x := ⟨_, rfl⟩
  obtain ⟨Q, hQ⟩ : ∃ x, upQ (l1 * (s2 - z2)) 1024 = x := ⟨_, rfl⟩
  rw [hP] at q1 ⊢
  rw [hQ] at q2 ⊢
  have HP := Lib.hid hP
  have HQ := Lib.hid hQ
  clear hP hQ hv
  have wr0 : IntKind.i64.wrap (s1 - z1) = s1 - z1 := IntWalk.i64_in _ (by omega)
  have wr1 : IntKind.i64.wrap (s2 - z2) = s2 - z2 := IntWalk.i64_in _ (by omega)
  have wr2 : IntKind.i64.wrap (z1 + P) = z1 + P := IntWalk.i64_in _ (by omega)
  have wr3 : IntKind.i64.wrap (z2 + Q) = z2 + Q := IntWalk.i64_in _ (by omega)
  go_enter Tryd.func78, Tryd.ntmps78
  go_upto_region 1 with (fail)
  obtain ⟨Va1, hV⟩ : ∃ V, (((w.alloc (.cells #[.int .i64 (l1), .int .i64 (l2)] 26)).alloc (.cells #[.int .i64 (z1), .int .i64 (z2)] 108)).alloc (.cells #[.int .i64 (s1), .int .i64 (s2)] 108)).alloc (.cells #[.int .i64 (0), .int .i64 (0)] 108) = V := ⟨_, rfl⟩
  have Kb1 : Hid (Blk Va1 (w.heap.size) 26 #[.int .i64 (l1), .int .i64 (l2)]) := by rw [← hV]; exact (((Blk.new' _ _ _ (by simp)).alloc _).alloc _).alloc _
  have Kb2 : Hid (Blk Va1 (w.heap.size + 1) 108 #[.int .i64 (z1), .int .i64 (z2)]) := by rw [← hV]; exact ((Blk.new' _ _ _ (by simp)).alloc _).alloc _
  have Kb3 : Hid (Blk Va1 (w.heap.size + 1 + 1) 108 #[.int .i64 (s1), .int .i64 (s2)]) := by rw [← hV]; exact (Blk.new' _ _ _ (by simp)).alloc _
  have Kb4 : Hid (Blk Va1 (w.heap.size + 1 + 1 + 1) 108 #[.int .i64 (0), .int .i64 (0)]) := by rw [← hV]; exact Blk.new' _ _ _ (by simp)
  have GHB : Hid (Below w.heap.size w Va1) := by rw [← hV]; exact (by repeat (first | exact Below.refl _ _ | assumption | refine Below.drew ?_ | refine Below.drewN' ?_ _ | (refine Below.alloc ?_ (by simp <;> omega) _) | (refine Below.setCell ?_ (by simp <;> omega) _)))
  have HZ : Hid (Below w.heap.size w Va1) := GHB
  rw [hV]
  clear hV HZ
  have HB := GHB
  clear GHB
  obtain ⟨b4, hqb4⟩ : ∃ b, w.heap.size + 1 + 1 + 1 = b := ⟨_, rfl⟩
  obtain ⟨b3, hqb3⟩ : ∃ b, w.heap.size + 1 + 1 = b := ⟨_, rfl⟩
  obtain ⟨b2, hqb2⟩ : ∃ b, w.heap.size + 1 = b := ⟨_, rfl⟩
  obtain ⟨b1, hqb1⟩ : ∃ b, w.heap.size = b := ⟨_, rfl⟩
  have gb1 : w.heap.size ≤ b1 := by omega
  have gb2 : w.heap.size ≤ b2 := by omega
  have nb2b1 : ¬ b2 = b1 := by omega
  have nb1b2 : ¬ b1 = b2 := by omega
  have gb3 : w.heap.size ≤ b3 := by omega
  have nb3b1 : ¬ b3 = b1 := by omega
  have nb1b3 : ¬ b1 = b3 := by omega
  have nb3b2 : ¬ b3 = b2 := by omega
  have nb2b3 : ¬ b2 = b3 := by omega
  have gb4 : w.heap.size ≤ b4 := by omega
  have nb4b1 : ¬ b4 = b1 := by omega
  have nb1b4 : ¬ b1 = b4 := by omega
  have nb4b2 : ¬ b4 = b2 := by omega
  have nb2b4 : ¬ b2 = b4 := by omega
  have nb4b3 : ¬ b4 = b3 := by omega
  have nb3b4 : ¬ b3 = b4 := by omega
  rw [hqb4] at Kb4 ⊢
  clear hqb4
  rw [hqb3] at Kb3 ⊢
  clear hqb3
  rw [hqb2] at Kb2 ⊢
  clear hqb2
  have HN : Hid (w.heap.size = b1) := hqb1
  rw [hqb1] at Kb1 ⊢
  clear hqb1
  have Hb1 := Kb1
  clear Kb1
  have Hb2 := Kb2
  clear Kb2
  have Hb3 := Kb3
  clear Kb3
  have Hb4 := Kb4
  clear Kb4
  have cb10 := kcl0 Hb1
  have cb11 := kcl1 Hb1
  have cb20 := kcl0 Hb2
  have cb21 := kcl1 Hb2
  have cb30 := kcl0 Hb3
  have cb31 := kcl1 Hb3
  go_quiet (fail)
  go_upto_region 6 with (fail)
  clear cb10 cb11 cb20 cb21 cb30 cb31
  obtain ⟨Va2, hVq⟩ : ∃ V, Va1.drewN nq = V := ⟨_, rfl⟩
  have HZ : Hid (Below Va1.heap.size Va1 Va2) := by rw [← hVq]; exact Below.drewN' (Below.refl _ _) _
  rw [hVq]
  clear hVq
  replace Hb1 := kbl Hb1 HZ
  replace Hb2 := kbl Hb2 HZ
  replace Hb3 := kbl Hb3 HZ
  replace Hb4 := kbl Hb4 HZ
  replace HB := ktr' HB HZ
  clear HZ
  have HSV : Hid (∀ U, Below Va2.heap.size Va2 U → U.cell? ⟨b2, 0, none⟩ = some (.int .i64 (z1)) ∧ U.cell? ⟨b2, 1, none⟩ = some (.int .i64 (z2)) ∧ U.cell? ⟨b3, 0, none⟩ = some (.int .i64 (s1)) ∧ U.cell? ⟨b3, 1, none⟩ = some (.int .i64 (s2))) := fun U hU => by
   have kb2 := Hb2.out.below hU Hb2.out.lt
   have kb3 := Hb3.out.below hU Hb3.out.lt
   exact ⟨kb2.cell 0, kb2.cell 1, kb3.cell 0, kb3.cell 1⟩
  have k0 := HSV.out _ (Below.drew (Below.refl Va2.heap.size Va2))
  refine wp_region_noPanic ?_
  refine wp_region_L (S := (fun w' => w'.cell? ⟨b2, 0, none⟩ = some (.int .i64 (z1)) ∧ w'.cell? ⟨b2, 1, none⟩ = some (.int .i64 (z2)) ∧ w'.cell? ⟨b3, 0, none⟩ = some (.int .i64 (s1)) ∧ w'.cell? ⟨b3, 1, none⟩ = some (.int .i64 (s2)))) (ks := [30]) (by kernel_rfl) ?_ (fun hHeld => ?_)
  · (try dsimp only); (exact k0)
  refine tL 0 Zs ?_ ?_ ?_
  rotate_left
  · ((intro w hSw; delta Zs; (try dsimp only at hSw); go_simp) <;> with_reducible rfl)
  try simp only [Zs, ksz]
  refine tL 3 Zv ?_ ?_ ?_
  rotate_left
  · ((intro w hSw; delta Zv; (try dsimp only at hSw); go_simp) <;> with_reducible rfl)
  try simp only [Zv, ksz]
  refine tL 4 Zw ?_ ?_ ?_
  rotate_left
  · ((intro w hSw; delta Zw; (try dsimp only at hSw); go_simp) <;> with_reducible rfl)
  try simp only [Zw, ksz]
  refine tL 7 Zz ?_ ?_ ?_
  rotate_left
  · ((intro w hSw; delta Zz; (try dsimp only at hSw); go_simp) <;> with_reducible rfl)
  try simp only [Zz, ksz]
  refine tL 14 Z16 ?_ ?_ ?_
  rotate_left
  · ((intro w hSw; delta Z16; (try dsimp only at hSw); go_simp) <;> with_reducible rfl)
  try simp only [Z16, ksz]
  refine tL 17 Z19 ?_ ?_ ?_
  rotate_left
  · ((intro w hSw; delta Z19; (try dsimp only at hSw); go_simp) <;> with_reducible rfl)
  try simp only [Z19, ksz]
  refine tL 18 Z1a ?_ ?_ ?_
  rotate_left
  · ((intro w hSw; delta Z1a; (try dsimp only at hSw); go_simp) <;> with_reducible rfl)
  try simp only [Z1a, ksz]
  refine tL 21 Z1d ?_ ?_ ?_
  rotate_left
  · ((intro w hSw; delta Z1d; (try dsimp only at hSw); go_simp) <;> with_reducible rfl)
  try simp only [Z1d, ksz]
  refine tL 1 Zt ?_ ?_ ?_
  rotate_left
  · ((intro w hSw; delta Zt; (try dsimp only at hSw); go_simp) <;> with_reducible rfl)
  try simp only [Zt, ksz]
  refine tL 5 Zx ?_ ?_ ?_
  rotate_left
  · ((intro w hSw; delta Zx; (try dsimp only at hSw); go_simp) <;> with_reducible rfl)
  try simp only [Zx, ksz]
  refine tL 8 Z10 ?_ ?_ ?_
  rotate_left
  · ((intro w hSw; delta Z10; (try dsimp only at hSw); go_simp) <;> with_reducible rfl)
  try simp only [Z10, ksz]
  refine tL 15 Z17 ?_ ?_ ?_
  rotate_left
  · ((intro w hSw; delta Z17; (try dsimp only at hSw); go_simp) <;> with_reducible rfl)
  try simp only [Z17, ksz]
  refine tL 19 Z1b ?_ ?_ ?_
  rotate_left
  · ((intro w hSw; delta Z1b; (try dsimp only at hSw); go_simp) <;> with_reducible rfl)
  try simp only [Z1b, ksz]
  refine tL 22 Z1e ?_ ?_ ?_
  rotate_left
  · ((intro w hSw; delta Z1e; (try dsimp only at hSw); go_simp) <;> with_reducible rfl)
  try simp only [Z1e, ksz]
  refine tL 2 Zu ?_ ?_ ?_
  rotate_left
  · ((intro w hSw; delta Zu; (try dsimp only at hSw); go_simp) <;> with_reducible rfl)
  try simp only [Zu, ksz]
  refine tL 6 Zy ?_ ?_ ?_
  rotate_left
  · ((intro w hSw; delta Zy; (try dsimp only at hSw); go_simp) <;> with_reducible rfl)
  try simp only [Zy, ksz]
  refine tL 9 Z11 ?_ ?_ ?_
  rotate_left
  · ((intro w hSw; delta Z11; (try dsimp only at hSw); go_simp) <;> with_reducible rfl)
  try simp only [Z11, ksz]
  refine tL 16 Z18 ?_ ?_ ?_
  rotate_left
  · ((intro w hSw; delta Z18; (try dsimp only at hSw); go_simp) <;> with_reducible rfl)
  try simp only [Z18, ksz]
  refine tL 20 Z1c ?_ ?_ ?_
  rotate_left
  · ((intro w hSw; delta Z1c; (try dsimp only at hSw); go_simp) <;> with_reducible rfl)
  try simp only [Z1c, ksz]
  refine tL 23 Z1f ?_ ?_ ?_
  rotate_left
  · ((intro w hSw; delta Z1f; (try dsimp only at hSw); go_simp) <;> with_reducible rfl)
  try simp only [Z1f, ksz]
  refine tL 10 Z12 ?_ ?_ ?_
  rotate_left
  · ((intro w hSw; delta Z12; (try dsimp only at hSw); go_simp) <;> with_reducible rfl)
  try simp only [Z12, ksz]
  refine tL 24 Z1g ?_ ?_ ?_
  rotate_left
  · ((intro w hSw; delta Z1g; (try dsimp only at hSw); go_simp) <;> with_reducible rfl)
  try simp only [Z1g, ksz]
  refine tL 11 Z13 ?_ ?_ ?_
  rotate_left
  · ((intro w hSw; delta Z13; (try dsimp only at hSw); go_simp) <;> with_reducible rfl)
  try simp only [Z13, ksz]
  refine tL 25 Z1h ?_ ?_ ?_
  rotate_left
  · ((intro w hSw; delta Z1h; (try dsimp only at hSw); go_simp) <;> with_reducible rfl)
  try simp only [Z1h, ksz]
  obtain ⟨W0, hW0⟩ : ∃ V, Va2.drew = V := ⟨_, rfl⟩; rw [hW0] at hHeld ⊢; have HB0 : Hid (Below Va2.heap.size Va2 W0) := (by rw [← hW0]; exact Below.drew (Below.refl _ _)); clear hW0
  refine wpAnyL_ready (rs := [12]) (by kernel_rfl) (by simp) ?_
  refine AllReadyL.cons (o := Z14) rfl (fun K hK => ?_) AllReadyL.nil
  delta Z14
  go_simp
  (refine (down_any _ _ _ (by omega) (by omega) (by omega)).mono ?_; rintro e W1 ⟨rfl, hw⟩; have HB1 : Hid (Below Va2.heap.size Va2 W1) := (by rw [← hw]; exact HB0.out); clear hw; rw [HP.out])
  refine hK.out _ _ ?_ (fun hHeld => ?_)
  · (try dsimp only); (exact HSV.out _ HB1.out)
  clear hK K
  try simp only [Z14, ksz]
  refine tL 13 Z15 ?_ ?_ ?_
  rotate_left
  · ((intro w hSw; delta Z15; (try dsimp only at hSw); go_simp) <;> with_reducible rfl)
  try simp only [Z15, ksz]
  refine wpAnyL_ready (rs := [26]) (by kernel_rfl) (by simp) ?_
  refine AllReadyL.cons (o := Z1i) rfl (fun K hK => ?_) AllReadyL.nil
  delta Z1i
  go_simp
  (refine (up_any _ _ _ (by omega) (by omega) (by omega)).mono ?_; rintro e W2 ⟨rfl, hw⟩; have HB2 : Hid (Below Va2.heap.size Va2 W2) := (by rw [← hw]; exact HB1.out); clear hw; rw [HQ.out])
  refine hK.out _ _ ?_ (fun hHeld => ?_)
  · (try dsimp only); (exact HSV.out _ HB2.out)
  clear hK K
  try simp only [Z1i, ksz]
  refine tL 27 Z1j ?_ ?_ ?_
  rotate_left
  · ((intro w hSw; delta Z1j; (try dsimp only at hSw); go_simp) <;> with_reducible rfl)
  try simp only [Z1j, ksz]
  refine tL 28 Z1k ?_ ?_ ?_
  rotate_left
  · ((intro w hSw; delta Z1k; (try dsimp only at hSw); go_simp) <;> with_reducible rfl)
  try simp only [Z1k, ksz]
  refine tL 29 Z1l ?_ ?_ ?_
  rotate_left
  · ((intro w hSw; delta Z1l; (try dsimp only at hSw); go_simp) <;> with_reducible rfl)
  try simp only [Z1l, ksz]
  have Gb1 := Lib.hid (Hb1.out.below HB2.out Hb1.out.lt); have Gb2 := Lib.hid (Hb2.out.below HB2.out Hb2.out.lt); have Gb3 := Lib.hid (Hb3.out.below HB2.out Hb3.out.lt); have Gb4 := Lib.hid (Hb4.out.below HB2.out Hb4.out.lt); have GHB := Lib.hid (HB.out.trans (HB2.out.mono HB.out.size)); clear Hb1 Hb2 Hb3 Hb4 HB; have Hb1 := Gb1; clear Gb1; have Hb2 := Gb2; clear Gb2; have Hb3 := Gb3; clear Gb3; have Hb4 := Gb4; clear Gb4; have HB := GHB; clear GHB; have cR0 := Hb4.out.cell 0; have zR0 := Hb4.out.frozen 0; have cR1 := Hb4.out.cell 1; have zR1 := Hb4.out.frozen 1; simp only [List.getElem?_toArray, List.getElem?_cons_zero, List.getElem?_cons_succ] at cR0 cR1
  refine wpAnyL_ready (rs := [30]) (by kernel_rfl) (by simp) ?_
  refine AllReadyL.gate (o := Z1m) rfl (by kernel_rfl) (fun K hK => ?_) AllReadyL.nil
  delta Z1m
  go_simp
  refine hK.out _ _ ?_
  clear hK K
  try simp only [Z1m, ksz]
  obtain ⟨Va3, hV⟩ : ∃ V, (W2.setCell ⟨b4, 0, none⟩ (.int .i64 (z1 + P))).setCell ⟨b4, 1, none⟩ (.int .i64 (z2 + Q)) = V := ⟨_, rfl⟩; replace Hb1 : Hid (Blk Va3 b1 26 #[.int .i64 (l1), .int .i64 (l2)]) := (by rw [← hV]; exact ((Hb1.out.far_ (p := ⟨b4, 0, none⟩) nb1b4 _).far_ (p := ⟨b4, 1, none⟩) nb1b4 _)); replace Hb2 : Hid (Blk Va3 b2 108 #[.int .i64 (z1), .int .i64 (z2)]) := (by rw [← hV]; exact ((Hb2.out.far_ (p := ⟨b4, 0, none⟩) nb2b4 _).far_ (p := ⟨b4, 1, none⟩) nb2b4 _)); replace Hb3 : Hid (Blk Va3 b3 108 #[.int .i64 (s1), .int .i64 (s2)]) := (by rw [← hV]; exact ((Hb3.out.far_ (p := ⟨b4, 0, none⟩) nb3b4 _).far_ (p := ⟨b4, 1, none⟩) nb3b4 _)); replace Hb4 : Hid (Blk Va3 b4 108 #[.int .i64 (z1 + P), .int .i64 (z2 + Q)]) := (by rw [← hV]; exact ((Hb4.out.set_ 0 (.int .i64 (z1 + P))).set_ 1 (.int .i64 (z2 + Q)))); replace HB : Hid (Below w.heap.size w Va3) := (by rw [← hV]; exact ((HB.out.setCell (p := ⟨b4, 0, none⟩) gb4 _).setCell (p := ⟨b4, 1, none⟩) gb4 _)); rw [hV]; clear hV cR0 zR0 cR1 zR1
  refine wpAnyL_done (by kernel_rfl) ?_ _
  refine NoPanic.normal ?_
  clear HSV k0
  clear hHeld HB0 HB1 HB2
  have cb40 := kcl0 Hb4
  have cb41 := kcl1 Hb4
  go_wp2
  refine bodyPost_ret (v := .agg #[.int .i64 (z1 + P), .int .i64 (z2 + Q)]) (by simp [results, Tryd.results78, go_sem, cb40, cb41]) rfl ⟨rfl, HB.out⟩
 ·
  have m1 := lag_rng (a := l1) (x := s1 - z1) (by omega) (by omega)
  have m2 := lag_rng (a := l2) (x := s2 - z2) (by omega) (by omega)
  have e1 : IntKind.i64.wrap (l1 * (s1 - z1)) = l1 * (s1 - z1) := IntWalk.i64_in _ (by omega)
  have e2 : IntKind.i64.wrap (l2 * (s2 - z2)) = l2 * (s2 - z2) := IntWalk.i64_in _ (by omega)
  have hv : stepZ (l1, l2) (z1, z2) (s1, s2) = (z1 + l1 * (s1 - z1) / 1024, z2 + upQ (l2 * (s2 - z2)) 1024) := by unfold stepZ; simp only; rw [if_neg h1, if_neg h2]
  rw [hv]
  simp only
  have q1 : -4100000000000000 ≤ l1 * (s1 - z1) / 1024 ∧ l1 * (s1 - z1) / 1024 ≤ 4100000000000000 := by omega
  have q2 : -4100000000000001 ≤ upQ (l2 * (s2 - z2)) 1024 ∧ upQ (l2 * (s2 - z2)) 1024 ≤ 4100000000000001 := by unfold upQ; omega
  obtain ⟨P, hP⟩ : ∃ x, l1 * (s1 - z1) / 1024 = x := ⟨_, rfl⟩
  obtain ⟨Q, hQ⟩ : ∃ x, upQ (l2 * (s2 - z2)) 1024 = x := ⟨_, rfl⟩
  rw [hP] at q1 ⊢
  rw [hQ] at q2 ⊢
  have HP := Lib.hid hP
  have HQ := Lib.hid hQ
  clear hP hQ hv
  have wr0 : IntKind.i64.wrap (s1 - z1) = s1 - z1 := IntWalk.i64_in _ (by omega)
  have wr1 : IntKind.i64.wrap (s2 - z2) = s2 - z2 := IntWalk.i64_in _ (by omega)
  have wr2 : IntKind.i64.wrap (z1 + P) = z1 + P := IntWalk.i64_in _ (by omega)
  have wr3 : IntKind.i64.wrap (z2 + Q) = z2 + Q := IntWalk.i64_in _ (by omega)
  go_enter Tryd.func78, Tryd.ntmps78
  go_upto_region 1 with (fail)
  obtain ⟨Va1, hV⟩ : ∃ V, (((w.alloc (.cells #[.int .i64 (l1), .int .i64 (l2)] 26)).alloc (.cells #[.int .i64 (z1), .int .i64 (z2)] 108)).alloc (.cells #[.int .i64 (s1), .int .i64 (s2)] 108)).alloc (.cells #[.int .i64 (0), .int .i64 (0)] 108) = V := ⟨_, rfl⟩
  have Kb1 : Hid (Blk Va1 (w.heap.size) 26 #[.int .i64 (l1), .int .i64 (l2)]) := by rw [← hV]; exact (((Blk.new' _ _ _ (by simp)).alloc _).alloc _).alloc _
  have Kb2 : Hid (Blk Va1 (w.heap.size + 1) 108 #[.int .i64 (z1), .int .i64 (z2)]) := by rw [← hV]; exact ((Blk.new' _ _ _ (by simp)).alloc _).alloc _
  have Kb3 : Hid (Blk Va1 (w.heap.size + 1 + 1) 108 #[.int .i64 (s1), .int .i64 (s2)]) := by rw [← hV]; exact (Blk.new' _ _ _ (by simp)).alloc _
  have Kb4 : Hid (Blk Va1 (w.heap.size + 1 + 1 + 1) 108 #[.int .i64 (0), .int .i64 (0)]) := by rw [← hV]; exact Blk.new' _ _ _ (by simp)
  have GHB : Hid (Below w.heap.size w Va1) := by rw [← hV]; exact (by repeat (first | exact Below.refl _ _ | assumption | refine Below.drew ?_ | refine Below.drewN' ?_ _ | (refine Below.alloc ?_ (by simp <;> omega) _) | (refine Below.setCell ?_ (by simp <;> omega) _)))
  have HZ : Hid (Below w.heap.size w Va1) := GHB
  rw [hV]
  clear hV HZ
  have HB := GHB
  clear GHB
  obtain ⟨b4, hqb4⟩ : ∃ b, w.heap.size + 1 + 1 + 1 = b := ⟨_, rfl⟩
  obtain ⟨b3, hqb3⟩ : ∃ b, w.heap.size + 1 + 1 = b := ⟨_, rfl⟩
  obtain ⟨b2, hqb2⟩ : ∃ b, w.heap.size + 1 = b := ⟨_, rfl⟩
  obtain ⟨b1, hqb1⟩ : ∃ b, w.heap.size = b := ⟨_, rfl⟩
  have gb1 : w.heap.size ≤ b1 := by omega
  have gb2 : w.heap.size ≤ b2 := by omega
  have nb2b1 : ¬ b2 = b1 := by omega
  have nb1b2 : ¬ b1 = b2 := by omega
  have gb3 : w.heap.size ≤ b3 := by omega
  have nb3b1 : ¬ b3 = b1 := by omega
  have nb1b3 : ¬ b1 = b3 := by omega
  have nb3b2 : ¬ b3 = b2 := by omega
  have nb2b3 : ¬ b2 = b3 := by omega
  have gb4 : w.heap.size ≤ b4 := by omega
  have nb4b1 : ¬ b4 = b1 := by omega
  have nb1b4 : ¬ b1 = b4 := by omega
  have nb4b2 : ¬ b4 = b2 := by omega
  have nb2b4 : ¬ b2 = b4 := by omega
  have nb4b3 : ¬ b4 = b3 := by omega
  have nb3b4 : ¬ b3 = b4 := by omega
  rw [hqb4] at Kb4 ⊢
  clear hqb4
  rw [hqb3] at Kb3 ⊢
  clear hqb3
  rw [hqb2] at Kb2 ⊢
  clear hqb2
  have HN : Hid (w.heap.size = b1) := hqb1
  rw [hqb1] at Kb1 ⊢
  clear hqb1
  have Hb1 := Kb1
  clear Kb1
  have Hb2 := Kb2
  clear Kb2
  have Hb3 := Kb3
  clear Kb3
  have Hb4 := Kb4
  clear Kb4
  have cb10 := kcl0 Hb1
  have cb11 := kcl1 Hb1
  have cb20 := kcl0 Hb2
  have cb21 := kcl1 Hb2
  have cb30 := kcl0 Hb3
  have cb31 := kcl1 Hb3
  go_quiet (fail)
  go_upto_region 6 with (fail)
  clear cb10 cb11 cb20 cb21 cb30 cb31
  obtain ⟨Va2, hVq⟩ : ∃ V, Va1.drewN nq = V := ⟨_, rfl⟩
  have HZ : Hid (Below Va1.heap.size Va1 Va2) := by rw [← hVq]; exact Below.drewN' (Below.refl _ _) _
  rw [hVq]
  clear hVq
  replace Hb1 := kbl Hb1 HZ
  replace Hb2 := kbl Hb2 HZ
  replace Hb3 := kbl Hb3 HZ
  replace Hb4 := kbl Hb4 HZ
  replace HB := ktr' HB HZ
  clear HZ
  have HSV : Hid (∀ U, Below Va2.heap.size Va2 U → U.cell? ⟨b2, 0, none⟩ = some (.int .i64 (z1)) ∧ U.cell? ⟨b2, 1, none⟩ = some (.int .i64 (z2)) ∧ U.cell? ⟨b3, 0, none⟩ = some (.int .i64 (s1)) ∧ U.cell? ⟨b3, 1, none⟩ = some (.int .i64 (s2))) := fun U hU => by
   have kb2 := Hb2.out.below hU Hb2.out.lt
   have kb3 := Hb3.out.below hU Hb3.out.lt
   exact ⟨kb2.cell 0, kb2.cell 1, kb3.cell 0, kb3.cell 1⟩
  have k0 := HSV.out _ (Below.drew (Below.refl Va2.heap.size Va2))
  refine wp_region_noPanic ?_
  refine wp_region_L (S := (fun w' => w'.cell? ⟨b2, 0, none⟩ = some (.int .i64 (z1)) ∧ w'.cell? ⟨b2, 1, none⟩ = some (.int .i64 (z2)) ∧ w'.cell? ⟨b3, 0, none⟩ = some (.int .i64 (s1)) ∧ w'.cell? ⟨b3, 1, none⟩ = some (.int .i64 (s2)))) (ks := [30]) (by kernel_rfl) ?_ (fun hHeld => ?_)
  · (try dsimp only); (exact k0)
  refine tL 0 Zs ?_ ?_ ?_
  rotate_left
  · ((intro w hSw; delta Zs; (try dsimp only at hSw); go_simp) <;> with_reducible rfl)
  try simp only [Zs, ksz]
  refine tL 3 Zv ?_ ?_ ?_
  rotate_left
  · ((intro w hSw; delta Zv; (try dsimp only at hSw); go_simp) <;> with_reducible rfl)
  try simp only [Zv, ksz]
  refine tL 4 Zw ?_ ?_ ?_
  rotate_left
  · ((intro w hSw; delta Zw; (try dsimp only at hSw); go_simp) <;> with_reducible rfl)
  try simp only [Zw, ksz]
  refine tL 7 Zz ?_ ?_ ?_
  rotate_left
  · ((intro w hSw; delta Zz; (try dsimp only at hSw); go_simp) <;> with_reducible rfl)
  try simp only [Zz, ksz]
  refine tL 14 Z16 ?_ ?_ ?_
  rotate_left
  · ((intro w hSw; delta Z16; (try dsimp only at hSw); go_simp) <;> with_reducible rfl)
  try simp only [Z16, ksz]
  refine tL 17 Z19 ?_ ?_ ?_
  rotate_left
  · ((intro w hSw; delta Z19; (try dsimp only at hSw); go_simp) <;> with_reducible rfl)
  try simp only [Z19, ksz]
  refine tL 18 Z1a ?_ ?_ ?_
  rotate_left
  · ((intro w hSw; delta Z1a; (try dsimp only at hSw); go_simp) <;> with_reducible rfl)
  try simp only [Z1a, ksz]
  refine tL 21 Z1d ?_ ?_ ?_
  rotate_left
  · ((intro w hSw; delta Z1d; (try dsimp only at hSw); go_simp) <;> with_reducible rfl)
  try simp only [Z1d, ksz]
  refine tL 1 Zt ?_ ?_ ?_
  rotate_left
  · ((intro w hSw; delta Zt; (try dsimp only at hSw); go_simp) <;> with_reducible rfl)
  try simp only [Zt, ksz]
  refine tL 5 Zx ?_ ?_ ?_
  rotate_left
  · ((intro w hSw; delta Zx; (try dsimp only at hSw); go_simp) <;> with_reducible rfl)
  try simp only [Zx, ksz]
  refine tL 8 Z10 ?_ ?_ ?_
  rotate_left
  · ((intro w hSw; delta Z10; (try dsimp only at hSw); go_simp) <;> with_reducible rfl)
  try simp only [Z10, ksz]
  refine tL 15 Z17 ?_ ?_ ?_
  rotate_left
  · ((intro w hSw; delta Z17; (try dsimp only at hSw); go_simp) <;> with_reducible rfl)
  try simp only [Z17, ksz]
  refine tL 19 Z1b ?_ ?_ ?_
  rotate_left
  · ((intro w hSw; delta Z1b; (try dsimp only at hSw); go_simp) <;> with_reducible rfl)
  try simp only [Z1b, ksz]
  refine tL 22 Z1e ?_ ?_ ?_
  rotate_left
  · ((intro w hSw; delta Z1e; (try dsimp only at hSw); go_simp) <;> with_reducible rfl)
  try simp only [Z1e, ksz]
  refine tL 2 Zu ?_ ?_ ?_
  rotate_left
  · ((intro w hSw; delta Zu; (try dsimp only at hSw); go_simp) <;> with_reducible rfl)
  try simp only [Zu, ksz]
  refine tL 6 Zy ?_ ?_ ?_
  rotate_left
  · ((intro w hSw; delta Zy; (try dsimp only at hSw); go_simp) <;> with_reducible rfl)
  try simp only [Zy, ksz]
  refine tL 9 Z11 ?_ ?_ ?_
  rotate_left
  · ((intro w hSw; delta Z11; (try dsimp only at hSw); go_simp) <;> with_reducible rfl)
  try simp only [Z11, ksz]
  refine tL 16 Z18 ?_ ?_ ?_
  rotate_left
  · ((intro w hSw; delta Z18; (try dsimp only at hSw); go_simp) <;> with_reducible rfl)
  try simp only [Z18, ksz]
  refine tL 20 Z1c ?_ ?_ ?_
  rotate_left
  · ((intro w hSw; delta Z1c; (try dsimp only at hSw); go_simp) <;> with_reducible rfl)
  try simp only [Z1c, ksz]
  refine tL 23 Z1f ?_ ?_ ?_
  rotate_left
  · ((intro w hSw; delta Z1f; (try dsimp only at hSw); go_simp) <;> with_reducible rfl)
  try simp only [Z1f, ksz]
  refine tL 10 Z12 ?_ ?_ ?_
  rotate_left
  · ((intro w hSw; delta Z12; (try dsimp only at hSw); go_simp) <;> with_reducible rfl)
  try simp only [Z12, ksz]
  refine tL 24 Z1g ?_ ?_ ?_
  rotate_left
  · ((intro w hSw; delta Z1g; (try dsimp only at hSw); go_simp) <;> with_reducible rfl)
  try simp only [Z1g, ksz]
  refine tL 11 Z13 ?_ ?_ ?_
  rotate_left
  · ((intro w hSw; delta Z13; (try dsimp only at hSw); go_simp) <;> with_reducible rfl)
  try simp only [Z13, ksz]
  refine tL 25 Z1h ?_ ?_ ?_
  rotate_left
  · ((intro w hSw; delta Z1h; (try dsimp only at hSw); go_simp) <;> with_reducible rfl)
  try simp only [Z1h, ksz]
  obtain ⟨W0, hW0⟩ : ∃ V, Va2.drew = V := ⟨_, rfl⟩; rw [hW0] at hHeld ⊢; have HB0 : Hid (Below Va2.heap.size Va2 W0) := (by rw [← hW0]; exact Below.drew (Below.refl _ _)); clear hW0
  refine wpAnyL_ready (rs := [12]) (by kernel_rfl) (by simp) ?_
  refine AllReadyL.cons (o := Z14) rfl (fun K hK => ?_) AllReadyL.nil
  delta Z14
  go_simp
  (refine (down_any _ _ _ (by omega) (by omega) (by omega)).mono ?_; rintro e W1 ⟨rfl, hw⟩; have HB1 : Hid (Below Va2.heap.size Va2 W1) := (by rw [← hw]; exact HB0.out); clear hw; rw [HP.out])
  refine hK.out _ _ ?_ (fun hHeld => ?_)
  · (try dsimp only); (exact HSV.out _ HB1.out)
  clear hK K
  try simp only [Z14, ksz]
  refine tL 13 Z15 ?_ ?_ ?_
  rotate_left
  · ((intro w hSw; delta Z15; (try dsimp only at hSw); go_simp) <;> with_reducible rfl)
  try simp only [Z15, ksz]
  refine wpAnyL_ready (rs := [26]) (by kernel_rfl) (by simp) ?_
  refine AllReadyL.cons (o := Z1i) rfl (fun K hK => ?_) AllReadyL.nil
  delta Z1i
  go_simp
  (refine (up_any _ _ _ (by omega) (by omega) (by omega)).mono ?_; rintro e W2 ⟨rfl, hw⟩; have HB2 : Hid (Below Va2.heap.size Va2 W2) := (by rw [← hw]; exact HB1.out); clear hw; rw [HQ.out])
  refine hK.out _ _ ?_ (fun hHeld => ?_)
  · (try dsimp only); (exact HSV.out _ HB2.out)
  clear hK K
  try simp only [Z1i, ksz]
  refine tL 27 Z1j ?_ ?_ ?_
  rotate_left
  · ((intro w hSw; delta Z1j; (try dsimp only at hSw); go_simp) <;> with_reducible rfl)
  try simp only [Z1j, ksz]
  refine tL 28 Z1k ?_ ?_ ?_
  rotate_left
  · ((intro w hSw; delta Z1k; (try dsimp only at hSw); go_simp) <;> with_reducible rfl)
  try simp only [Z1k, ksz]
  refine tL 29 Z1l ?_ ?_ ?_
  rotate_left
  · ((intro w hSw; delta Z1l; (try dsimp only at hSw); go_simp) <;> with_reducible rfl)
  try simp only [Z1l, ksz]
  have Gb1 := Lib.hid (Hb1.out.below HB2.out Hb1.out.lt); have Gb2 := Lib.hid (Hb2.out.below HB2.out Hb2.out.lt); have Gb3 := Lib.hid (Hb3.out.below HB2.out Hb3.out.lt); have Gb4 := Lib.hid (Hb4.out.below HB2.out Hb4.out.lt); have GHB := Lib.hid (HB.out.trans (HB2.out.mono HB.out.size)); clear Hb1 Hb2 Hb3 Hb4 HB; have Hb1 := Gb1; clear Gb1; have Hb2 := Gb2; clear Gb2; have Hb3 := Gb3; clear Gb3; have Hb4 := Gb4; clear Gb4; have HB := GHB; clear GHB; have cR0 := Hb4.out.cell 0; have zR0 := Hb4.out.frozen 0; have cR1 := Hb4.out.cell 1; have zR1 := Hb4.out.frozen 1; simp only [List.getElem?_toArray, List.getElem?_cons_zero, List.getElem?_cons_succ] at cR0 cR1
  refine wpAnyL_ready (rs := [30]) (by kernel_rfl) (by simp) ?_
  refine AllReadyL.gate (o := Z1m) rfl (by kernel_rfl) (fun K hK => ?_) AllReadyL.nil
  delta Z1m
  go_simp
  refine hK.out _ _ ?_
  clear hK K
  try simp only [Z1m, ksz]
  obtain ⟨Va3, hV⟩ : ∃ V, (W2.setCell ⟨b4, 0, none⟩ (.int .i64 (z1 + P))).setCell ⟨b4, 1, none⟩ (.int .i64 (z2 + Q)) = V := ⟨_, rfl⟩; replace Hb1 : Hid (Blk Va3 b1 26 #[.int .i64 (l1), .int .i64 (l2)]) := (by rw [← hV]; exact ((Hb1.out.far_ (p := ⟨b4, 0, none⟩) nb1b4 _).far_ (p := ⟨b4, 1, none⟩) nb1b4 _)); replace Hb2 : Hid (Blk Va3 b2 108 #[.int .i64 (z1), .int .i64 (z2)]) := (by rw [← hV]; exact ((Hb2.out.far_ (p := ⟨b4, 0, none⟩) nb2b4 _).far_ (p := ⟨b4, 1, none⟩) nb2b4 _)); replace Hb3 : Hid (Blk Va3 b3 108 #[.int .i64 (s1), .int .i64 (s2)]) := (by rw [← hV]; exact ((Hb3.out.far_ (p := ⟨b4, 0, none⟩) nb3b4 _).far_ (p := ⟨b4, 1, none⟩) nb3b4 _)); replace Hb4 : Hid (Blk Va3 b4 108 #[.int .i64 (z1 + P), .int .i64 (z2 + Q)]) := (by rw [← hV]; exact ((Hb4.out.set_ 0 (.int .i64 (z1 + P))).set_ 1 (.int .i64 (z2 + Q)))); replace HB : Hid (Below w.heap.size w Va3) := (by rw [← hV]; exact ((HB.out.setCell (p := ⟨b4, 0, none⟩) gb4 _).setCell (p := ⟨b4, 1, none⟩) gb4 _)); rw [hV]; clear hV cR0 zR0 cR1 zR1
  refine wpAnyL_done (by kernel_rfl) ?_ _
  refine NoPanic.normal ?_
  clear HSV k0
  clear hHeld HB0 HB1 HB2
  have cb40 := kcl0 Hb4
  have cb41 := kcl1 Hb4
  go_wp2
  refine bodyPost_ret (v := .agg #[.int .i64 (z1 + P), .int .i64 (z2 + Q)]) (by simp [results, Tryd.results78, go_sem, cb40, cb41]) rfl ⟨rfl, HB.out⟩
end Go.Proofs.YtdhcdgfpkjdihaaDoor.Sg
