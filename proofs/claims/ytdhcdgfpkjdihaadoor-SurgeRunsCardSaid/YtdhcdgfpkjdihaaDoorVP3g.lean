/-
  Layer 3, the program: Directions and Blow.
-/
import Derived.Test.YtdhcdgfpkjdihaaDoorVP3f
import Derived.Test.YtdhcdgfpkjdihaaDoorVA3g
set_option linter.unusedSimpArgs false
set_option linter.unusedVariables false
namespace Go.Proofs.YtdhcdgfpkjdihaaDoor.Sg
open Go.RowKit
def Z6m : Oper := ⟨some 33, .move (.tmp 2), 3, "storm.go:19", #[], none⟩
def Z6n : Oper := ⟨some 34, .fieldAddr 24 (.tmp 3) 0, 0, "storm.go:19", #[], none⟩
def Z6o : Oper := ⟨some 35, .load 3 (.tmp 34), 3, "storm.go:19", #[⟨1, .data⟩], none⟩
def Z6p : Oper := ⟨some 36, .binOp BinOp.rem 3 (.tmp 33) (.tmp 35) 3, 3, "storm.go:19", #[⟨0, .data⟩, ⟨2, .data⟩], none⟩
def Z6q : Oper := ⟨some 37, .fieldAddr 24 (.tmp 3) 2, 0, "storm.go:19", #[], none⟩
def Z6r : Oper := ⟨some 38, .load 3 (.tmp 37), 3, "storm.go:19", #[⟨4, .data⟩], none⟩
def Z6s : Oper := ⟨some 39, .binOp BinOp.mul 3 (.tmp 36) (.tmp 38) 3, 3, "storm.go:19", #[⟨3, .data⟩, ⟨5, .data⟩], none⟩
def Z6t : Oper := ⟨some 40, .call { callee := Callee.value (.func 91), args := #[.tmp 39], argTypes := #[3] }, 108, "storm.go:19", #[⟨6, .data⟩], none⟩
def Z6u : Oper := ⟨some 41, .fieldAddr 70 (.tmp 4) 0, 0, "storm.go:19", #[], none⟩
def Z6v : Oper := ⟨some 42, .load 26 (.tmp 41), 26, "storm.go:19", #[⟨8, .data⟩], none⟩
def Z6w : Oper := ⟨some 43, .build 108 #[(0, .tmp 42)], 108, "storm.go:19", #[⟨9, .data⟩], none⟩
def Z6x : Oper := ⟨some 44, .call { callee := Callee.value (.func 92), args := #[.tmp 40, .tmp 43], argTypes := #[108, 108] }, 108, "storm.go:19", #[⟨7, .data⟩, ⟨10, .data⟩, ⟨7, .chain⟩], none⟩
def Z6y : Oper := ⟨some 11, .alloc 108, 0, "storm.go:19", #[], none⟩
def Z6z : Oper := ⟨none, .store 108 (.tmp 11) (.tmp 44), 0, "storm.go:19", #[⟨12, .data⟩, ⟨11, .data⟩, ⟨11, .chain⟩, ⟨0, .phase⟩, ⟨1, .phase⟩, ⟨2, .phase⟩, ⟨3, .phase⟩, ⟨4, .phase⟩, ⟨5, .phase⟩, ⟨6, .phase⟩, ⟨7, .phase⟩, ⟨8, .phase⟩, ⟨9, .phase⟩, ⟨10, .phase⟩, ⟨11, .phase⟩, ⟨12, .phase⟩], none⟩
def Z70 : Oper := ⟨some 45, .move (.tmp 2), 3, "storm.go:20", #[], none⟩
def Z71 : Oper := ⟨some 46, .fieldAddr 24 (.tmp 3) 0, 0, "storm.go:20", #[], none⟩
def Z72 : Oper := ⟨some 47, .load 3 (.tmp 46), 3, "storm.go:20", #[⟨1, .data⟩], none⟩
def Z73 : Oper := ⟨some 48, .binOp BinOp.quo 3 (.tmp 45) (.tmp 47) 3, 3, "storm.go:20", #[⟨0, .data⟩, ⟨2, .data⟩], none⟩
def Z74 : Oper := ⟨some 49, .fieldAddr 24 (.tmp 3) 2, 0, "storm.go:20", #[], none⟩
def Z75 : Oper := ⟨some 50, .load 3 (.tmp 49), 3, "storm.go:20", #[⟨4, .data⟩], none⟩
def Z76 : Oper := ⟨some 51, .binOp BinOp.mul 3 (.tmp 48) (.tmp 50) 3, 3, "storm.go:20", #[⟨3, .data⟩, ⟨5, .data⟩], none⟩
def Z77 : Oper := ⟨some 52, .call { callee := Callee.value (.func 91), args := #[.tmp 51], argTypes := #[3] }, 108, "storm.go:20", #[⟨6, .data⟩], none⟩
def Z78 : Oper := ⟨some 53, .fieldAddr 70 (.tmp 4) 1, 0, "storm.go:20", #[], none⟩
def Z79 : Oper := ⟨some 54, .load 26 (.tmp 53), 26, "storm.go:20", #[⟨8, .data⟩], none⟩
def Z7a : Oper := ⟨some 55, .build 108 #[(0, .tmp 54)], 108, "storm.go:20", #[⟨9, .data⟩], none⟩
def Z7b : Oper := ⟨some 56, .call { callee := Callee.value (.func 92), args := #[.tmp 52, .tmp 55], argTypes := #[108, 108] }, 108, "storm.go:20", #[⟨7, .data⟩, ⟨10, .data⟩, ⟨7, .chain⟩], none⟩
def Z7c : Oper := ⟨some 12, .alloc 108, 0, "storm.go:20", #[], none⟩
def Z7d : Oper := ⟨none, .store 108 (.tmp 12) (.tmp 56), 0, "storm.go:20", #[⟨12, .data⟩, ⟨11, .data⟩, ⟨11, .chain⟩, ⟨0, .phase⟩, ⟨1, .phase⟩, ⟨2, .phase⟩, ⟨3, .phase⟩, ⟨4, .phase⟩, ⟨5, .phase⟩, ⟨6, .phase⟩, ⟨7, .phase⟩, ⟨8, .phase⟩, ⟨9, .phase⟩, ⟨10, .phase⟩, ⟨11, .phase⟩, ⟨12, .phase⟩], none⟩
def Z7e : Oper := ⟨some 60, .load 70 (.tmp 4), 70, "storm.go:23", #[], none⟩
def Z7f : Oper := ⟨some 61, .load 108 (.tmp 13), 108, "storm.go:23", #[], none⟩
def Z7g : Oper := ⟨some 62, .call { callee := Callee.value (.func 94), args := #[.tmp 60, .tmp 61], argTypes := #[70, 108] }, 108, "storm.go:23", #[⟨0, .data⟩, ⟨1, .data⟩], none⟩
def Z7h : Oper := ⟨some 63, .field 108 (.tmp 62) 0, 26, "storm.go:23", #[⟨2, .data⟩], none⟩
def Z7i : Oper := ⟨some 64, .load 108 (.tmp 12), 108, "storm.go:23", #[], none⟩
def Z7j : Oper := ⟨some 65, .call { callee := Callee.value (.func 96), args := #[.tmp 64], argTypes := #[108] }, 108, "storm.go:23", #[⟨4, .data⟩, ⟨2, .chain⟩], none⟩
def Z7k : Oper := ⟨some 66, .load 108 (.tmp 11), 108, "storm.go:23", #[], none⟩
def Z7l : Oper := ⟨some 67, .call { callee := Callee.value (.func 95), args := #[.tmp 65, .tmp 66], argTypes := #[108, 108] }, 3, "storm.go:23", #[⟨5, .data⟩, ⟨6, .data⟩, ⟨5, .chain⟩], none⟩
def Z7m : Oper := ⟨some 68, .load 70 (.tmp 4), 70, "storm.go:23", #[], none⟩
def Z7n : Oper := ⟨some 69, .load 108 (.tmp 13), 108, "storm.go:23", #[], none⟩
def Z7o : Oper := ⟨some 70, .call { callee := Callee.value (.func 97), args := #[.tmp 68, .tmp 69], argTypes := #[70, 108] }, 26, "storm.go:23", #[⟨8, .data⟩, ⟨9, .data⟩, ⟨7, .chain⟩], none⟩
def Z7p : Oper := ⟨some 71, .build 32 #[(0, .tmp 63), (1, .tmp 67), (2, .tmp 70)], 32, "storm.go:23", #[⟨3, .data⟩, ⟨7, .data⟩, ⟨10, .data⟩], none⟩
def Z7q : Oper := ⟨none, .store 32 (.tmp 6) (.tmp 71), 0, "storm.go:23", #[⟨11, .data⟩, ⟨10, .chain⟩, ⟨0, .phase⟩, ⟨1, .phase⟩, ⟨2, .phase⟩, ⟨3, .phase⟩, ⟨4, .phase⟩, ⟨5, .phase⟩, ⟨6, .phase⟩, ⟨7, .phase⟩, ⟨8, .phase⟩, ⟨9, .phase⟩, ⟨10, .phase⟩, ⟨11, .phase⟩], none⟩
def Z7r : Oper := ⟨some 7, .assign (.const (Value.int IntKind.i64 0)), 35, "storm.go:23", #[⟨12, .chain⟩, ⟨0, .phase⟩, ⟨1, .phase⟩, ⟨2, .phase⟩, ⟨3, .phase⟩, ⟨4, .phase⟩, ⟨5, .phase⟩, ⟨6, .phase⟩, ⟨7, .phase⟩, ⟨8, .phase⟩, ⟨9, .phase⟩, ⟨10, .phase⟩, ⟨11, .phase⟩, ⟨12, .phase⟩], none⟩
def dirsE (p q : Int × Int) : Int := andE (spE (-4000000) 4000000 p) (spE (-4000000) 4000000 q)
def dirsV (p q : Int × Int) : Int := if dirsE p q = 0 then ((dirN p q : Nat) : Int) else 0
def blowE (g : G) (s : So) (c : Int) : Int := andE (andE (checkE g) (soE s)) (cellE g c)
def zeroW : Wi := ⟨(0, 0), 0, (0, 0)⟩
def blowV (g : G) (s : So) (c : Int) : Wi := if blowE g s c = 0 then blowZ g s c else zeroW
theorem fieldB0 (x y : Value) (w : World) : (Instr.field 108 (.agg #[x, y]) 0).run Tryd.prog w = .ok (.agg #[x, y]) w := by kernel_rfl
def wiV (w : Wi) : Value := .agg #[.int .i64 w.s.1, .int .i64 w.s.2, .int .i64 w.n, .int .i64 w.p.1, .int .i64 w.p.2]
set_option maxRecDepth 100000 in
set_option maxHeartbeats 1000000 in
theorem Directions_any (p1 p2 q1 q2 : Int) (w : World) :
 Calls Tryd.prog 41 #[.agg #[.int .i64 p1, .int .i64 p2], .agg #[.int .i64 q1, .int .i64 q2]] w fun e w' => e = .returned (.tuple #[.int .i64 (dirsV (p1, p2) (q1, q2)), .int .i64 (dirsE (p1, p2) (q1, q2))]) ∧ Below w.heap.size w w' := by
 by_cases h1 : spOk (-4000000) 4000000 (p1, p2) = true
 rotate_left
 ·
  have h1' : spOk (-4000000) 4000000 (p1, p2) = false := by simpa using h1
  have hE : dirsE (p1, p2) (q1, q2) = 3 := by unfold dirsE; rw [spE_neg h1']; rfl
  have hV : dirsV (p1, p2) (q1, q2) = 0 := by unfold dirsV; rw [hE]; rfl
  rw [hE, hV]
  have H1 := Lib.hid h1'
  clear h1 h1' hE hV
  go_enter Tryd.func41, Tryd.ntmps41
  go_upto_region 1 with (fail)
  obtain ⟨Va1, hV⟩ : ∃ V, (w.alloc (.cells #[.int .i64 (p1), .int .i64 (p2)] 26)).alloc (.cells #[.int .i64 (q1), .int .i64 (q2)] 26) = V := ⟨_, rfl⟩
  have Kb1 : Hid (Blk Va1 (w.heap.size) 26 #[.int .i64 (p1), .int .i64 (p2)]) := by rw [← hV]; exact (Blk.new' _ _ _ (by simp)).alloc _
  have Kb2 : Hid (Blk Va1 (w.heap.size + 1) 26 #[.int .i64 (q1), .int .i64 (q2)]) := by rw [← hV]; exact Blk.new' _ _ _ (by simp)
  have GHB : Hid (Below w.heap.size w Va1) := by rw [← hV]; exact (by repeat (first | exact Below.refl _ _ | assumption | refine Below.drew ?_ | refine Below.drewN' ?_ _ | (refine Below.alloc ?_ (by simp <;> omega) _) | (refine Below.setCell ?_ (by simp <;> omega) _)))
  have HZ : Hid (Below w.heap.size w Va1) := GHB
  rw [hV]
  clear hV HZ
  have HB := GHB
  clear GHB
  obtain ⟨b2, hqb2⟩ : ∃ b, w.heap.size + 1 = b := ⟨_, rfl⟩
  obtain ⟨b1, hqb1⟩ : ∃ b, w.heap.size = b := ⟨_, rfl⟩
  have gb1 : w.heap.size ≤ b1 := by omega
  have gb2 : w.heap.size ≤ b2 := by omega
  have nb2b1 : ¬ b2 = b1 := by omega
  have nb1b2 : ¬ b1 = b2 := by omega
  rw [hqb2] at Kb2 ⊢
  clear hqb2
  have HN : Hid (w.heap.size = b1) := hqb1
  rw [hqb1] at Kb1 ⊢
  clear hqb1
  have Hb1 := Kb1
  clear Kb1
  have Hb2 := Kb2
  clear Kb2
  have cb10 := kcl0 Hb1
  have cb11 := kcl1 Hb1
  go_wp2_with fail
  refine (span_of H1.out _).mono ?_
  rintro e Va2 ⟨rfl, hb⟩
  have HZ := Lib.hid hb
  clear hb
  clear cb10 cb11
  replace Hb1 := kbl Hb1 HZ
  replace Hb2 := kbl Hb2 HZ
  replace HB := ktr' HB HZ
  clear HZ
  go_wp2
  refine bodyPost_ret (v := .tuple #[.int .i64 0, .int .i64 3]) (by simp [results, Tryd.results41, go_sem]) rfl ⟨rfl, HB.out⟩
 by_cases h2 : spOk (-4000000) 4000000 (q1, q2) = true
 rotate_left
 ·
  have h2' : spOk (-4000000) 4000000 (q1, q2) = false := by simpa using h2
  have hE : dirsE (p1, p2) (q1, q2) = 3 := by unfold dirsE; rw [spE_pos h1, spE_neg h2']; rfl
  have hV : dirsV (p1, p2) (q1, q2) = 0 := by unfold dirsV; rw [hE]; rfl
  rw [hE, hV]
  have H1 := Lib.hid h1
  have H2 := Lib.hid h2'
  clear h1 h2 h2' hE hV
  go_enter Tryd.func41, Tryd.ntmps41
  go_upto_region 1 with (fail)
  obtain ⟨Va1, hV⟩ : ∃ V, (w.alloc (.cells #[.int .i64 (p1), .int .i64 (p2)] 26)).alloc (.cells #[.int .i64 (q1), .int .i64 (q2)] 26) = V := ⟨_, rfl⟩
  have Kb1 : Hid (Blk Va1 (w.heap.size) 26 #[.int .i64 (p1), .int .i64 (p2)]) := by rw [← hV]; exact (Blk.new' _ _ _ (by simp)).alloc _
  have Kb2 : Hid (Blk Va1 (w.heap.size + 1) 26 #[.int .i64 (q1), .int .i64 (q2)]) := by rw [← hV]; exact Blk.new' _ _ _ (by simp)
  have GHB : Hid (Below w.heap.size w Va1) := by rw [← hV]; exact (by repeat (first | exact Below.refl _ _ | assumption | refine Below.drew ?_ | refine Below.drewN' ?_ _ | (refine Below.alloc ?_ (by simp <;> omega) _) | (refine Below.setCell ?_ (by simp <;> omega) _)))
  have HZ : Hid (Below w.heap.size w Va1) := GHB
  rw [hV]
  clear hV HZ
  have HB := GHB
  clear GHB
  obtain ⟨b2, hqb2⟩ : ∃ b, w.heap.size + 1 = b := ⟨_, rfl⟩
  obtain ⟨b1, hqb1⟩ : ∃ b, w.heap.size = b := ⟨_, rfl⟩
  have gb1 : w.heap.size ≤ b1 := by omega
  have gb2 : w.heap.size ≤ b2 := by omega
  have nb2b1 : ¬ b2 = b1 := by omega
  have nb1b2 : ¬ b1 = b2 := by omega
  rw [hqb2] at Kb2 ⊢
  clear hqb2
  have HN : Hid (w.heap.size = b1) := hqb1
  rw [hqb1] at Kb1 ⊢
  clear hqb1
  have Hb1 := Kb1
  clear Kb1
  have Hb2 := Kb2
  clear Kb2
  have cb10 := kcl0 Hb1
  have cb11 := kcl1 Hb1
  go_wp2_with fail
  refine (span_of H1.out _).mono ?_
  rintro e Va2 ⟨rfl, hb⟩
  have HZ := Lib.hid hb
  clear hb
  clear cb10 cb11
  replace Hb1 := kbl Hb1 HZ
  replace Hb2 := kbl Hb2 HZ
  replace HB := ktr' HB HZ
  clear HZ
  have cb20 := kcl0 Hb2
  have cb21 := kcl1 Hb2
  go_wp2_with fail
  refine (span_of H2.out _).mono ?_
  rintro e Va3 ⟨rfl, hb⟩
  have HZ := Lib.hid hb
  clear hb
  clear cb20 cb21
  replace Hb1 := kbl Hb1 HZ
  replace Hb2 := kbl Hb2 HZ
  replace HB := ktr' HB HZ
  clear HZ
  go_wp2
  refine bodyPost_ret (v := .tuple #[.int .i64 0, .int .i64 3]) (by simp [results, Tryd.results41, go_sem]) rfl ⟨rfl, HB.out⟩
 ·
  have hE : dirsE (p1, p2) (q1, q2) = 0 := by unfold dirsE; rw [spE_pos h1, spE_pos h2]; rfl
  have hV : dirsV (p1, p2) (q1, q2) = ((dirN (p1, p2) (q1, q2) : Nat) : Int) := by unfold dirsV; rw [hE]; rfl
  rw [hE, hV]
  have H1 := Lib.hid h1
  have H2 := Lib.hid h2
  have HRB : Hid (rotB ((p1, p2), (q1, q2))) := by
   have k1 := spOk_iff.1 h1
   have k2 := spOk_iff.1 h2
   simp only at k1 k2
   show rotB _
   unfold rotB
   simp only
   omega
  clear h1 h2 hE hV
  go_enter Tryd.func41, Tryd.ntmps41
  go_upto_region 1 with (fail)
  obtain ⟨Va1, hV⟩ : ∃ V, (w.alloc (.cells #[.int .i64 (p1), .int .i64 (p2)] 26)).alloc (.cells #[.int .i64 (q1), .int .i64 (q2)] 26) = V := ⟨_, rfl⟩
  have Kb1 : Hid (Blk Va1 (w.heap.size) 26 #[.int .i64 (p1), .int .i64 (p2)]) := by rw [← hV]; exact (Blk.new' _ _ _ (by simp)).alloc _
  have Kb2 : Hid (Blk Va1 (w.heap.size + 1) 26 #[.int .i64 (q1), .int .i64 (q2)]) := by rw [← hV]; exact Blk.new' _ _ _ (by simp)
  have GHB : Hid (Below w.heap.size w Va1) := by rw [← hV]; exact (by repeat (first | exact Below.refl _ _ | assumption | refine Below.drew ?_ | refine Below.drewN' ?_ _ | (refine Below.alloc ?_ (by simp <;> omega) _) | (refine Below.setCell ?_ (by simp <;> omega) _)))
  have HZ : Hid (Below w.heap.size w Va1) := GHB
  rw [hV]
  clear hV HZ
  have HB := GHB
  clear GHB
  obtain ⟨b2, hqb2⟩ : ∃ b, w.heap.size + 1 = b := ⟨_, rfl⟩
  obtain ⟨b1, hqb1⟩ : ∃ b, w.heap.size = b := ⟨_, rfl⟩
  have gb1 : w.heap.size ≤ b1 := by omega
  have gb2 : w.heap.size ≤ b2 := by omega
  have nb2b1 : ¬ b2 = b1 := by omega
  have nb1b2 : ¬ b1 = b2 := by omega
  rw [hqb2] at Kb2 ⊢
  clear hqb2
  have HN : Hid (w.heap.size = b1) := hqb1
  rw [hqb1] at Kb1 ⊢
  clear hqb1
  have Hb1 := Kb1
  clear Kb1
  have Hb2 := Kb2
  clear Kb2
  have cb10 := kcl0 Hb1
  have cb11 := kcl1 Hb1
  go_wp2_with fail
  refine (span_of H1.out _).mono ?_
  rintro e Va2 ⟨rfl, hb⟩
  have HZ := Lib.hid hb
  clear hb
  clear cb10 cb11
  replace Hb1 := kbl Hb1 HZ
  replace Hb2 := kbl Hb2 HZ
  replace HB := ktr' HB HZ
  clear HZ
  have cb20 := kcl0 Hb2
  have cb21 := kcl1 Hb2
  go_wp2_with fail
  refine (span_of H2.out _).mono ?_
  rintro e Va3 ⟨rfl, hb⟩
  have HZ := Lib.hid hb
  clear hb
  clear cb20 cb21
  replace Hb1 := kbl Hb1 HZ
  replace Hb2 := kbl Hb2 HZ
  replace HB := ktr' HB HZ
  clear HZ
  have cb10 := kcl0 Hb1
  have cb11 := kcl1 Hb1
  have cb20 := kcl0 Hb2
  have cb21 := kcl1 Hb2
  go_wp2_with fail
  refine (dirs_any p1 p2 q1 q2 _ HRB.out).mono ?_
  rintro e Va4 ⟨rfl, hb⟩
  have HZ := Lib.hid hb
  clear hb
  clear cb10 cb11 cb20 cb21
  replace Hb1 := kbl Hb1 HZ
  replace Hb2 := kbl Hb2 HZ
  replace HB := ktr' HB HZ
  clear HZ
  go_wp2
  refine bodyPost_ret (v := .tuple #[.int .i64 ((dirN (p1, p2) (q1, q2) : Nat) : Int), .int .i64 0]) (by simp [results, Tryd.results41, go_sem]) rfl ⟨rfl, HB.out⟩
set_option maxRecDepth 100000 in
set_option maxHeartbeats 4000000 in
theorem Blow_any (WW HH SS : Int) (ss : List (Int × Int)) (A : Option Addr) (c : Nat) (x1 x2 y1 y2 r m1 m2 p1 p2 cell : Int) (w : World) (hs : SpansAt w w.heap.size (.slice A ss.length c) ss) :
 Calls Tryd.prog 39 #[.agg #[.int .i64 (WW), .int .i64 (HH), .int .i64 (SS), .slice A ss.length c], .agg #[.int .i64 (x1), .int .i64 (x2), .int .i64 (y1), .int .i64 (y2), .int .i64 (r), .int .i64 (m1), .int .i64 (m2), .int .i64 (p1), .int .i64 (p2)], .int .i64 cell] w fun e w' => e = .returned (.tuple #[wiV (blowV ⟨WW, HH, SS, ss⟩ ⟨(x1, x2), (y1, y2), r, (m1, m2), (p1, p2)⟩ cell), .int .i64 (blowE ⟨WW, HH, SS, ss⟩ ⟨(x1, x2), (y1, y2), r, (m1, m2), (p1, p2)⟩ cell)]) ∧ Below w.heap.size w w' := by
 have hlen := hs.2.1
 by_cases h0 : checkE ⟨WW, HH, SS, ss⟩ = 0
 ·
  by_cases h1 : soE ⟨(x1, x2), (y1, y2), r, (m1, m2), (p1, p2)⟩ = 0
  ·
   by_cases h2 : cellE ⟨WW, HH, SS, ss⟩ cell = 0
   ·
    have EE := Lib.hid (show blowE ⟨WW, HH, SS, ss⟩ ⟨(x1, x2), (y1, y2), r, (m1, m2), (p1, p2)⟩ cell = 0 by unfold blowE andE; simp [*])
    have EV := Lib.hid (show blowV ⟨WW, HH, SS, ss⟩ ⟨(x1, x2), (y1, y2), r, (m1, m2), (p1, p2)⟩ cell = blowZ ⟨WW, HH, SS, ss⟩ ⟨(x1, x2), (y1, y2), r, (m1, m2), (p1, p2)⟩ cell by unfold blowV; rw [EE.out, if_pos rfl])
    have H0 := Lib.hid h0
    clear h0
    have H1 := Lib.hid h1
    clear h1
    have H2 := Lib.hid h2
    clear h2
    have HSS3 := Lib.hid hs
    clear hs
    obtain ⟨hW, hH, hS, hL, -⟩ := checkE_zero H0.out
    obtain ⟨⟨ox, oy, hr1, hr2⟩, om, op⟩ := soE_zero H1.out
    have ox := spOk_iff.1 ox
    have oy := spOk_iff.1 oy
    have om := spOk_iff.1 om
    have op := spOk_iff.1 op
    simp only at hW hH hS hL ox oy hr1 hr2 om op
    have hcc : 0 ≤ cell ∧ cell < ss.length := by
     have h := H2.out
     unfold cellE at h
     split at h
     · assumption
     · cases h
    obtain ⟨X, hX⟩ : ∃ z, cell % WW = z := ⟨_, rfl⟩
    obtain ⟨Y, hY⟩ : ∃ z, cell / WW = z := ⟨_, rfl⟩
    have bX : 0 ≤ X ∧ X < 24 := by rw [← hX]; exact ⟨Int.emod_nonneg _ (by omega), by have := Int.emod_lt_of_pos cell (show 0 < WW by omega); omega⟩
    have bY : 0 ≤ Y ∧ Y < 24 := by rw [← hY]; exact ⟨Int.ediv_nonneg hcc.1 (by omega), by have := Int.ediv_lt_of_lt_mul (show 0 < WW by omega) (show cell < HH * WW by rw [Int.mul_comm]; omega); omega⟩
    have tX : cell.tmod WW = X := by rw [Int.tmod_eq_emod_of_nonneg hcc.1, hX]
    have tY : cell.tdiv WW = Y := by rw [Int.tdiv_eq_ediv_of_nonneg hcc.1, hY]
    have mX : 0 ≤ X * SS ∧ X * SS ≤ 24 * 10000 := ⟨Int.mul_nonneg (by omega) (by omega), Int.mul_le_mul (by omega) (by omega) (by omega) (by omega)⟩
    have mY : 0 ≤ Y * SS ∧ Y * SS ≤ 24 * 10000 := ⟨Int.mul_nonneg (by omega) (by omega), Int.mul_le_mul (by omega) (by omega) (by omega) (by omega)⟩
    have wX : IntKind.i64.wrap (X * SS) = X * SS := IntWalk.i64_in _ (by omega)
    have wY0 : IntKind.i64.wrap Y = Y := IntWalk.i64_in _ (by omega)
    have wY : IntKind.i64.wrap (Y * SS) = Y * SS := IntWalk.i64_in _ (by omega)
    have HXY : Hid (eastZ ⟨WW, HH, SS, ss⟩ ⟨(x1, x2), (y1, y2), r, (m1, m2), (p1, p2)⟩ cell = (X * SS - x2, X * SS - x1) ∧ northZ ⟨WW, HH, SS, ss⟩ ⟨(x1, x2), (y1, y2), r, (m1, m2), (p1, p2)⟩ cell = (Y * SS - y2, Y * SS - y1)) := by
     show _ ∧ _
     unfold eastZ northZ
     simp only
     rw [hX, hY]
     exact ⟨rfl, rfl⟩
    have hW0 : ¬ WW = 0 := by omega
    have hW1 : ¬ WW = -1 := by omega
    clear hX hY
    obtain ⟨ue, hU⟩ : ∃ z, X * SS = z := ⟨_, rfl⟩
    obtain ⟨vn, hT⟩ : ∃ z, Y * SS = z := ⟨_, rfl⟩
    rw [hU] at mX wX HXY
    rw [hT] at mY wY HXY
    have fU : farB (ue - x2, ue - x1) := ⟨by simp only; omega, by simp only; omega, by simp only; omega⟩
    have fT : farB (vn - y2, vn - y1) := ⟨by simp only; omega, by simp only; omega, by simp only; omega⟩
    have FU := Lib.hid fU
    have FT := Lib.hid fT
    obtain ⟨⟨D1, D2⟩, hD⟩ : ∃ z, distZ (ue - x2, ue - x1) (vn - y2, vn - y1) = z := ⟨_, rfl⟩
    have bD : 0 ≤ D1 ∧ D1 ≤ D2 ∧ D2 ≤ 1000000000 := by
     have k := dist_in (Lie.self fU.1) (Lie.self fT.1)
     have a := far_sq fU
     have b := far_sq fT
     have q := (rt_le (n := farZ (ue - x2, ue - x1) * farZ (ue - x2, ue - x1) + farZ (vn - y2, vn - y1) * farZ (vn - y2, vn - y1)) (M := 1000000000) (by omega) (by omega) (by omega)).2
     have e2 : D2 = ruZ (farZ (ue - x2, ue - x1) * farZ (ue - x2, ue - x1) + farZ (vn - y2, vn - y1) * farZ (vn - y2, vn - y1)) := by
      have := congrArg Prod.snd hD
      simpa [distZ] using this.symm
     rw [hD] at k
     exact ⟨k.1, k.2.1, by rw [e2]; exact q⟩
    have HD := Lib.hid hD
    clear fU fT hD
    obtain ⟨⟨s1, s2⟩, hSp⟩ : ∃ z, speedZ ⟨(x1, x2), (y1, y2), r, (m1, m2), (p1, p2)⟩ (D1, D2) = z := ⟨_, rfl⟩
    obtain ⟨⟨l1, l2⟩, hLo⟩ : ∃ z, lowZ ⟨(x1, x2), (y1, y2), r, (m1, m2), (p1, p2)⟩ (D1, D2) = z := ⟨_, rfl⟩
    obtain ⟨dn, hDn⟩ : ∃ z, dirN (-(vn - y1), -(vn - y2)) (ue - x2, ue - x1) = z := ⟨_, rfl⟩
    have HSp := Lib.hid hSp
    have HLo := Lib.hid hLo
    have HDn := Lib.hid hDn
    have HRB : Hid (rotB ((-(vn - y1), -(vn - y2)), (ue - x2, ue - x1))) := by show rotB _; unfold rotB; simp only; omega
    have HF : Hid (blowZ ⟨WW, HH, SS, ss⟩ ⟨(x1, x2), (y1, y2), r, (m1, m2), (p1, p2)⟩ cell = ⟨(s1, s2), (dn : Nat), (l1, l2)⟩) := by
     show blowZ _ _ _ = _
     unfold blowZ farsZ
     rw [HXY.out.1, HXY.out.2, HD.out, hSp, hLo]
     show Wi.mk _ ((dirN (-(vn - y1), -(vn - y2)) (ue - x2, ue - x1) : Nat) : Int) _ = _
     rw [hDn]
    clear hSp hLo hDn HXY
    go_enter Tryd.func39, Tryd.ntmps39
    go_upto_region 1 with (fail)
    obtain ⟨Va1, hV⟩ : ∃ V, ((w.alloc (.cells #[.int .i64 (WW), .int .i64 (HH), .int .i64 (SS), .slice A ss.length c] 24)).alloc (.cells #[.int .i64 (x1), .int .i64 (x2), .int .i64 (y1), .int .i64 (y2), .int .i64 (r), .int .i64 (m1), .int .i64 (m2), .int .i64 (p1), .int .i64 (p2)] 70)).alloc (.cells #[.int .i64 (0), .int .i64 (0), .int .i64 (0), .int .i64 (0), .int .i64 (0)] 32) = V := ⟨_, rfl⟩
    have Kb1 : Hid (Blk Va1 (w.heap.size) 24 #[.int .i64 (WW), .int .i64 (HH), .int .i64 (SS), .slice A ss.length c]) := by rw [← hV]; exact ((Blk.new' _ _ _ (by simp)).alloc _).alloc _
    have Kb2 : Hid (Blk Va1 (w.heap.size + 1) 70 #[.int .i64 (x1), .int .i64 (x2), .int .i64 (y1), .int .i64 (y2), .int .i64 (r), .int .i64 (m1), .int .i64 (m2), .int .i64 (p1), .int .i64 (p2)]) := by rw [← hV]; exact (Blk.new' _ _ _ (by simp)).alloc _
    have Kb3 : Hid (Blk Va1 (w.heap.size + 1 + 1) 32 #[.int .i64 (0), .int .i64 (0), .int .i64 (0), .int .i64 (0), .int .i64 (0)]) := by rw [← hV]; exact Blk.new' _ _ _ (by simp)
    have GHB : Hid (Below w.heap.size w Va1) := by rw [← hV]; exact (by repeat (first | exact Below.refl _ _ | assumption | refine Below.drew ?_ | refine Below.drewN' ?_ _ | (refine Below.alloc ?_ (by simp <;> omega) _) | (refine Below.setCell ?_ (by simp <;> omega) _)))
    have HZ : Hid (Below w.heap.size w Va1) := GHB
    have GHSS3 := Lib.hid (HSS3.out.later HZ.out (Nat.le_refl _))
    rw [hV]
    clear hV HZ HSS3
    have HB := GHB
    clear GHB
    have HSS3 := GHSS3
    clear GHSS3
    obtain ⟨b3, hqb3⟩ : ∃ b, w.heap.size + 1 + 1 = b := ⟨_, rfl⟩
    obtain ⟨b2, hqb2⟩ : ∃ b, w.heap.size + 1 = b := ⟨_, rfl⟩
    obtain ⟨b1, hqb1⟩ : ∃ b, w.heap.size = b := ⟨_, rfl⟩
    have gb1 : w.heap.size ≤ b1 := by omega
    have gb2 : w.heap.size ≤ b2 := by omega
    have nb2b1 : ¬ b2 = b1 := by omega
    have nb1b2 : ¬ b1 = b2 := by omega
    have gb3 : w.heap.size ≤ b3 := by omega
    have nb3b1 : ¬ b3 = b1 := by omega
    have nb1b3 : ¬ b1 = b3 := by omega
    have nb3b2 : ¬ b3 = b2 := by omega
    have nb2b3 : ¬ b2 = b3 := by omega
    rw [hqb3] at Kb3 ⊢
    clear hqb3
    rw [hqb2] at Kb2 ⊢
    clear hqb2
    have HN : Hid (w.heap.size = b1) := hqb1
    rw [hqb1] at Kb1 ⊢
    clear hqb1
    have Hb1 := Kb1
    clear Kb1
    have Hb2 := Kb2
    clear Kb2
    have Hb3 := Kb3
    clear Kb3
    have cb10 := kcl0 Hb1
    have cb11 := kcl1 Hb1
    have cb12 := kcl2 Hb1
    have cb13 := kcl3 Hb1
    go_wp2_with fail
    refine (check_any _ ⟨WW, HH, SS, ss⟩ _ ⟨_, rfl, HSS3.out⟩).mono ?_
    rintro e Va2 ⟨rfl, hb⟩
    have HZ := Lib.hid hb
    clear hb
    rw [H0.out]
    clear cb10 cb11 cb12 cb13
    replace Hb1 := kbl Hb1 HZ
    replace Hb2 := kbl Hb2 HZ
    replace Hb3 := kbl Hb3 HZ
    replace HB := ktr' HB HZ
    replace HSS3 := Lib.hid (HSS3.out.later HZ.out (Nat.le_refl _))
    clear HZ
    have cb20 := kcl0 Hb2
    have cb21 := kcl1 Hb2
    have cb22 := kcl2 Hb2
    have cb23 := kcl3 Hb2
    have cb24 := kcl4 Hb2
    have cb25 := kcl5 Hb2
    have cb26 := kcl6 Hb2
    have cb27 := kcl7 Hb2
    have cb28 := kcl8 Hb2
    go_wp2_with fail
    refine (checkStorm_any x1 x2 y1 y2 r m1 m2 p1 p2 _).mono ?_
    rintro e Va3 ⟨rfl, hb⟩
    have HZ := Lib.hid hb
    clear hb
    rw [H1.out]
    clear cb20 cb21 cb22 cb23 cb24 cb25 cb26 cb27 cb28
    replace Hb1 := kbl Hb1 HZ
    replace Hb2 := kbl Hb2 HZ
    replace Hb3 := kbl Hb3 HZ
    replace HB := ktr' HB HZ
    replace HSS3 := Lib.hid (HSS3.out.later HZ.out (Nat.le_refl _))
    clear HZ
    have cb10 := kcl0 Hb1
    have cb11 := kcl1 Hb1
    have cb12 := kcl2 Hb1
    have cb13 := kcl3 Hb1
    go_wp2_with fail
    refine (checkCell_any WW HH SS ss A c cell _ hlen).mono ?_
    rintro e Va4 ⟨rfl, hb⟩
    have HZ := Lib.hid hb
    clear hb
    rw [H2.out]
    clear cb10 cb11 cb12 cb13
    replace Hb1 := kbl Hb1 HZ
    replace Hb2 := kbl Hb2 HZ
    replace Hb3 := kbl Hb3 HZ
    replace HB := ktr' HB HZ
    replace HSS3 := Lib.hid (HSS3.out.later HZ.out (Nat.le_refl _))
    clear HZ
    go_upto_region 10 with (fail)
    have HSV : Hid (∀ U, Below Va4.heap.size Va4 U → U.cell? ⟨b1, 0, none⟩ = some (.int .i64 (WW)) ∧ U.cell? ⟨b1, 1, none⟩ = some (.int .i64 (HH)) ∧ U.cell? ⟨b1, 2, none⟩ = some (.int .i64 (SS)) ∧ U.cell? ⟨b1, 3, none⟩ = some (.slice A ss.length c) ∧ U.cell? ⟨b2, 0, none⟩ = some (.int .i64 (x1)) ∧ U.cell? ⟨b2, 1, none⟩ = some (.int .i64 (x2)) ∧ U.cell? ⟨b2, 2, none⟩ = some (.int .i64 (y1)) ∧ U.cell? ⟨b2, 3, none⟩ = some (.int .i64 (y2)) ∧ U.cell? ⟨b2, 4, none⟩ = some (.int .i64 (r)) ∧ U.cell? ⟨b2, 5, none⟩ = some (.int .i64 (m1)) ∧ U.cell? ⟨b2, 6, none⟩ = some (.int .i64 (m2)) ∧ U.cell? ⟨b2, 7, none⟩ = some (.int .i64 (p1)) ∧ U.cell? ⟨b2, 8, none⟩ = some (.int .i64 (p2))) := fun U hU => by
     have kb1 := Hb1.out.below hU Hb1.out.lt
     have kb2 := Hb2.out.below hU Hb2.out.lt
     exact ⟨kb1.cell 0, kb1.cell 1, kb1.cell 2, kb1.cell 3, kb2.cell 0, kb2.cell 1, kb2.cell 2, kb2.cell 3, kb2.cell 4, kb2.cell 5, kb2.cell 6, kb2.cell 7, kb2.cell 8⟩
    have k0 := HSV.out _ (Below.drew (Below.refl Va4.heap.size Va4))
    go_cut [11] from 33 to 45 (fun pq0 wx => OneBx Va4 108 #[.int .i64 (ue - x2), .int .i64 (ue - x1)] pq0 wx)
    case first =>
     refine wp_region_noPanic ?_
     refine wp_region_L (S := (fun w' => w'.cell? ⟨b1, 0, none⟩ = some (.int .i64 (WW)) ∧ w'.cell? ⟨b1, 1, none⟩ = some (.int .i64 (HH)) ∧ w'.cell? ⟨b1, 2, none⟩ = some (.int .i64 (SS)) ∧ w'.cell? ⟨b1, 3, none⟩ = some (.slice A ss.length c) ∧ w'.cell? ⟨b2, 0, none⟩ = some (.int .i64 (x1)) ∧ w'.cell? ⟨b2, 1, none⟩ = some (.int .i64 (x2)) ∧ w'.cell? ⟨b2, 2, none⟩ = some (.int .i64 (y1)) ∧ w'.cell? ⟨b2, 3, none⟩ = some (.int .i64 (y2)) ∧ w'.cell? ⟨b2, 4, none⟩ = some (.int .i64 (r)) ∧ w'.cell? ⟨b2, 5, none⟩ = some (.int .i64 (m1)) ∧ w'.cell? ⟨b2, 6, none⟩ = some (.int .i64 (m2)) ∧ w'.cell? ⟨b2, 7, none⟩ = some (.int .i64 (p1)) ∧ w'.cell? ⟨b2, 8, none⟩ = some (.int .i64 (p2)))) (ks := [13]) (by kernel_rfl) ?_ (fun hHeld => ?_)
     · (try dsimp only); (exact k0)
     refine tL 0 Z6m ?_ ?_ ?_
     rotate_left
     · ((intro w hSw; delta Z6m; (try dsimp only at hSw); go_simp) <;> with_reducible rfl)
     try simp only [Z6m, ksz]
     refine tL 1 Z6n ?_ ?_ ?_
     rotate_left
     · ((intro w hSw; delta Z6n; (try dsimp only at hSw); go_simp) <;> with_reducible rfl)
     try simp only [Z6n, ksz]
     refine tL 4 Z6q ?_ ?_ ?_
     rotate_left
     · ((intro w hSw; delta Z6q; (try dsimp only at hSw); go_simp) <;> with_reducible rfl)
     try simp only [Z6q, ksz]
     refine tL 8 Z6u ?_ ?_ ?_
     rotate_left
     · ((intro w hSw; delta Z6u; (try dsimp only at hSw); go_simp) <;> with_reducible rfl)
     try simp only [Z6u, ksz]
     refine tL 2 Z6o ?_ ?_ ?_
     rotate_left
     · ((intro w hSw; delta Z6o; (try dsimp only at hSw); go_simp) <;> with_reducible rfl)
     try simp only [Z6o, ksz]
     refine tL 5 Z6r ?_ ?_ ?_
     rotate_left
     · ((intro w hSw; delta Z6r; (try dsimp only at hSw); go_simp) <;> with_reducible rfl)
     try simp only [Z6r, ksz]
     refine tL 9 Z6v ?_ ?_ ?_
     rotate_left
     · ((intro w hSw; delta Z6v; (try dsimp only at hSw); go_simp) <;> with_reducible rfl)
     try simp only [Z6v, ksz]
     refine tL 3 Z6p ?_ ?_ ?_
     rotate_left
     · ((intro w hSw; delta Z6p; (try dsimp only at hSw); go_simp) <;> with_reducible rfl)
     try simp only [Z6p, ksz]
     refine tL 10 Z6w ?_ ?_ ?_
     rotate_left
     · ((intro w hSw; delta Z6w; (try dsimp only at hSw); go_simp) <;> with_reducible rfl)
     try simp only [Z6w, ksz]
     refine tL 6 Z6s ?_ ?_ ?_
     rotate_left
     · ((intro w hSw; delta Z6s; (try dsimp only at hSw); go_simp) <;> with_reducible rfl)
     try simp only [Z6s, ksz]
     obtain ⟨W0, hW0⟩ : ∃ V, Va4.drew = V := ⟨_, rfl⟩; rw [hW0] at hHeld ⊢; have HB0 : Hid (Below Va4.heap.size Va4 W0) := (by rw [← hW0]; exact Below.drew (Below.refl _ _)); clear hW0
     refine wpAnyL_ready (rs := [7, 12]) (by kernel_rfl) (by simp) ?_
     refine AllReadyL.cons (o := Z6t) rfl (fun K hK => ?_) ?_
     ·
      delta Z6t
      go_simp
      (refine (exactly_any _ _).mono ?_; rintro e W1 ⟨rfl, hb⟩; have hbz : Below W0.heap.size W0 W1 := hb; clear hb; have HB1 := Lib.hid (HB0.out.trans (hbz.mono HB0.out.size)); clear hbz)
      refine hK.out _ _ ?_ (fun hHeld => ?_)
      · (try dsimp only); (exact HSV.out _ HB1.out)
      clear hK K
      try simp only [Z6t, ksz]
      refine wpAnyL_ready (rs := [11, 12]) (by kernel_rfl) (by simp) ?_
      refine AllReadyL.cons (o := Z6x) rfl (fun K hK => ?_) ?_
      ·
       delta Z6x
       go_simp
       (refine (minus_any _ _ _ _ _ (by omega) (by omega)).mono ?_; rintro e W2 ⟨rfl, hb⟩; have hbz : Below W1.heap.size W1 W2 := hb; clear hb; have HB2 := Lib.hid (HB1.out.trans (hbz.mono HB1.out.size)); clear hbz)
       refine hK.out _ _ ?_ (fun hHeld => ?_)
       · (try dsimp only); (exact HSV.out _ HB2.out)
       clear hK K
       try simp only [Z6x, ksz]
       refine wpAnyL_ready (rs := [12]) (by kernel_rfl) (by simp) ?_
       refine AllReadyL.cons (o := Z6y) rfl (fun K hK => ?_) AllReadyL.nil
       delta Z6y
       go_simp
       obtain ⟨W3, hV⟩ : ∃ V, W2.alloc (.cells #[.int .i64 (0), .int .i64 (0)] 108) = V := ⟨_, rfl⟩; have hbz : Below W2.heap.size W2 W3 := (by rw [← hV]; exact (Below.refl _ _).alloc (Nat.le_refl _) _); have HB3 := Lib.hid (HB2.out.trans (hbz.mono HB2.out.size)); have Nb4' : Hid (Blk W3 W2.heap.size 108 #[.int .i64 (0), .int .i64 (0)]) := (by rw [← hV]; exact Blk.new' _ _ _ rfl); obtain ⟨b4, hz⟩ : ∃ b, W2.heap.size = b := ⟨_, rfl⟩; rw [hz] at Nb4'; have hb4 : Va4.heap.size ≤ b4 := (by rw [← hz]; exact HB2.out.size); have Nb4 := Nb4'; clear Nb4'; rw [hV, hz]; clear hV hbz hz
       refine hK.out _ _ ?_ (fun hHeld => ?_)
       · (try dsimp only); (exact HSV.out _ HB3.out)
       clear hK K
       try simp only [Z6y, ksz]
       have cR0 := Nb4.out.cell 0; have zR0 := Nb4.out.frozen 0; have cR1 := Nb4.out.cell 1; have zR1 := Nb4.out.frozen 1; simp only [List.getElem?_toArray, List.getElem?_cons_zero, List.getElem?_cons_succ] at cR0 cR1
       refine wpAnyL_ready (rs := [13]) (by kernel_rfl) (by simp) ?_
       refine AllReadyL.gate (o := Z6z) rfl (by kernel_rfl) (fun K hK => ?_) AllReadyL.nil
       delta Z6z
       go_simp
       refine hK.out _ _ ?_
       clear hK K
       try simp only [Z6z, ksz]
       obtain ⟨X0, hV⟩ : ∃ V, (W3.setCell ⟨b4, 0, none⟩ (.int .i64 (ue - x2))).setCell ⟨b4, 1, none⟩ (.int .i64 (ue - x1)) = V := ⟨_, rfl⟩; have Gb4 : Hid (Blk X0 b4 108 #[.int .i64 (ue - x2), .int .i64 (ue - x1)]) := (by rw [← hV]; exact ((Nb4.out.set_ 0 (.int .i64 (ue - x2))).set_ 1 (.int .i64 (ue - x1)))); have GHB : Hid (Below Va4.heap.size Va4 X0) := (by rw [← hV]; exact ((HB3.out.setCell (p := ⟨b4, 0, none⟩) (by exact hb4) _).setCell (p := ⟨b4, 1, none⟩) (by exact hb4) _)); rw [hV]; clear hV cR0 zR0 cR1 zR1 Nb4; have HBX := GHB; clear GHB; have Nb4 := Gb4; clear Gb4
       refine wpAnyL_done (by kernel_rfl) ?_ _
       refine NoPanic.normal ?_
       go_wp2_with fail
       go_meet
       exact ⟨b4, rfl, Nb4.out, (by exact hb4), HBX.out⟩
      refine AllReadyL.cons (o := Z6y) rfl (fun K hK => ?_) ?_
      ·
       delta Z6y
       go_simp
       obtain ⟨W2, hV⟩ : ∃ V, W1.alloc (.cells #[.int .i64 (0), .int .i64 (0)] 108) = V := ⟨_, rfl⟩; have hbz : Below W1.heap.size W1 W2 := (by rw [← hV]; exact (Below.refl _ _).alloc (Nat.le_refl _) _); have HB2 := Lib.hid (HB1.out.trans (hbz.mono HB1.out.size)); have Nb4' : Hid (Blk W2 W1.heap.size 108 #[.int .i64 (0), .int .i64 (0)]) := (by rw [← hV]; exact Blk.new' _ _ _ rfl); obtain ⟨b4, hz⟩ : ∃ b, W1.heap.size = b := ⟨_, rfl⟩; rw [hz] at Nb4'; have hb4 : Va4.heap.size ≤ b4 := (by rw [← hz]; exact HB1.out.size); have Nb4 := Nb4'; clear Nb4'; rw [hV, hz]; clear hV hbz hz
       refine hK.out _ _ ?_ (fun hHeld => ?_)
       · (try dsimp only); (exact HSV.out _ HB2.out)
       clear hK K
       try simp only [Z6y, ksz]
       refine wpAnyL_ready (rs := [11]) (by kernel_rfl) (by simp) ?_
       refine AllReadyL.cons (o := Z6x) rfl (fun K hK => ?_) AllReadyL.nil
       delta Z6x
       go_simp
       (refine (minus_any _ _ _ _ _ (by omega) (by omega)).mono ?_; rintro e W3 ⟨rfl, hb⟩; have hbz : Below W2.heap.size W2 W3 := hb; clear hb; have HB3 := Lib.hid (HB2.out.trans (hbz.mono HB2.out.size)); have Mb4 := Lib.hid (Nb4.out.below hbz Nb4.out.lt); clear Nb4; have Nb4 := Mb4; clear Mb4; clear hbz)
       refine hK.out _ _ ?_ (fun hHeld => ?_)
       · (try dsimp only); (exact HSV.out _ HB3.out)
       clear hK K
       try simp only [Z6x, ksz]
       have cR0 := Nb4.out.cell 0; have zR0 := Nb4.out.frozen 0; have cR1 := Nb4.out.cell 1; have zR1 := Nb4.out.frozen 1; simp only [List.getElem?_toArray, List.getElem?_cons_zero, List.getElem?_cons_succ] at cR0 cR1
       refine wpAnyL_ready (rs := [13]) (by kernel_rfl) (by simp) ?_
       refine AllReadyL.gate (o := Z6z) rfl (by kernel_rfl) (fun K hK => ?_) AllReadyL.nil
       delta Z6z
       go_simp
       refine hK.out _ _ ?_
       clear hK K
       try simp only [Z6z, ksz]
       obtain ⟨X0, hV⟩ : ∃ V, (W3.setCell ⟨b4, 0, none⟩ (.int .i64 (ue - x2))).setCell ⟨b4, 1, none⟩ (.int .i64 (ue - x1)) = V := ⟨_, rfl⟩; have Gb4 : Hid (Blk X0 b4 108 #[.int .i64 (ue - x2), .int .i64 (ue - x1)]) := (by rw [← hV]; exact ((Nb4.out.set_ 0 (.int .i64 (ue - x2))).set_ 1 (.int .i64 (ue - x1)))); have GHB : Hid (Below Va4.heap.size Va4 X0) := (by rw [← hV]; exact ((HB3.out.setCell (p := ⟨b4, 0, none⟩) (by exact hb4) _).setCell (p := ⟨b4, 1, none⟩) (by exact hb4) _)); rw [hV]; clear hV cR0 zR0 cR1 zR1 Nb4; have HBX := GHB; clear GHB; have Nb4 := Gb4; clear Gb4
       refine wpAnyL_done (by kernel_rfl) ?_ _
       refine NoPanic.normal ?_
       go_wp2_with fail
       go_meet
       exact ⟨b4, rfl, Nb4.out, (by exact hb4), HBX.out⟩
      exact AllReadyL.nil
     refine AllReadyL.cons (o := Z6y) rfl (fun K hK => ?_) ?_
     ·
      delta Z6y
      go_simp
      obtain ⟨W1, hV⟩ : ∃ V, W0.alloc (.cells #[.int .i64 (0), .int .i64 (0)] 108) = V := ⟨_, rfl⟩; have hbz : Below W0.heap.size W0 W1 := (by rw [← hV]; exact (Below.refl _ _).alloc (Nat.le_refl _) _); have HB1 := Lib.hid (HB0.out.trans (hbz.mono HB0.out.size)); have Nb4' : Hid (Blk W1 W0.heap.size 108 #[.int .i64 (0), .int .i64 (0)]) := (by rw [← hV]; exact Blk.new' _ _ _ rfl); obtain ⟨b4, hz⟩ : ∃ b, W0.heap.size = b := ⟨_, rfl⟩; rw [hz] at Nb4'; have hb4 : Va4.heap.size ≤ b4 := (by rw [← hz]; exact HB0.out.size); have Nb4 := Nb4'; clear Nb4'; rw [hV, hz]; clear hV hbz hz
      refine hK.out _ _ ?_ (fun hHeld => ?_)
      · (try dsimp only); (exact HSV.out _ HB1.out)
      clear hK K
      try simp only [Z6y, ksz]
      refine wpAnyL_ready (rs := [7]) (by kernel_rfl) (by simp) ?_
      refine AllReadyL.cons (o := Z6t) rfl (fun K hK => ?_) AllReadyL.nil
      delta Z6t
      go_simp
      (refine (exactly_any _ _).mono ?_; rintro e W2 ⟨rfl, hb⟩; have hbz : Below W1.heap.size W1 W2 := hb; clear hb; have HB2 := Lib.hid (HB1.out.trans (hbz.mono HB1.out.size)); have Mb4 := Lib.hid (Nb4.out.below hbz Nb4.out.lt); clear Nb4; have Nb4 := Mb4; clear Mb4; clear hbz)
      refine hK.out _ _ ?_ (fun hHeld => ?_)
      · (try dsimp only); (exact HSV.out _ HB2.out)
      clear hK K
      try simp only [Z6t, ksz]
      refine wpAnyL_ready (rs := [11]) (by kernel_rfl) (by simp) ?_
      refine AllReadyL.cons (o := Z6x) rfl (fun K hK => ?_) AllReadyL.nil
      delta Z6x
      go_simp
      (refine (minus_any _ _ _ _ _ (by omega) (by omega)).mono ?_; rintro e W3 ⟨rfl, hb⟩; have hbz : Below W2.heap.size W2 W3 := hb; clear hb; have HB3 := Lib.hid (HB2.out.trans (hbz.mono HB2.out.size)); have Mb4 := Lib.hid (Nb4.out.below hbz Nb4.out.lt); clear Nb4; have Nb4 := Mb4; clear Mb4; clear hbz)
      refine hK.out _ _ ?_ (fun hHeld => ?_)
      · (try dsimp only); (exact HSV.out _ HB3.out)
      clear hK K
      try simp only [Z6x, ksz]
      have cR0 := Nb4.out.cell 0; have zR0 := Nb4.out.frozen 0; have cR1 := Nb4.out.cell 1; have zR1 := Nb4.out.frozen 1; simp only [List.getElem?_toArray, List.getElem?_cons_zero, List.getElem?_cons_succ] at cR0 cR1
      refine wpAnyL_ready (rs := [13]) (by kernel_rfl) (by simp) ?_
      refine AllReadyL.gate (o := Z6z) rfl (by kernel_rfl) (fun K hK => ?_) AllReadyL.nil
      delta Z6z
      go_simp
      refine hK.out _ _ ?_
      clear hK K
      try simp only [Z6z, ksz]
      obtain ⟨X0, hV⟩ : ∃ V, (W3.setCell ⟨b4, 0, none⟩ (.int .i64 (ue - x2))).setCell ⟨b4, 1, none⟩ (.int .i64 (ue - x1)) = V := ⟨_, rfl⟩; have Gb4 : Hid (Blk X0 b4 108 #[.int .i64 (ue - x2), .int .i64 (ue - x1)]) := (by rw [← hV]; exact ((Nb4.out.set_ 0 (.int .i64 (ue - x2))).set_ 1 (.int .i64 (ue - x1)))); have GHB : Hid (Below Va4.heap.size Va4 X0) := (by rw [← hV]; exact ((HB3.out.setCell (p := ⟨b4, 0, none⟩) (by exact hb4) _).setCell (p := ⟨b4, 1, none⟩) (by exact hb4) _)); rw [hV]; clear hV cR0 zR0 cR1 zR1 Nb4; have HBX := GHB; clear GHB; have Nb4 := Gb4; clear Gb4
      refine wpAnyL_done (by kernel_rfl) ?_ _
      refine NoPanic.normal ?_
      go_wp2_with fail
      go_meet
      exact ⟨b4, rfl, Nb4.out, (by exact hb4), HBX.out⟩
     exact AllReadyL.nil
    case rest =>
     obtain ⟨b4, rfl, Jb4, eb4, hb⟩ := hcut
     obtain ⟨Va5, rfl⟩ : ∃ V, V = wc := ⟨_, rfl⟩
     have HZ := Lib.hid hb
     have Kb4 := Lib.hid Jb4
     clear Jb4
     have nb1b4 : ¬ b1 = b4 := by have := Hb1.out.lt; omega
     have nb4b1 : ¬ b4 = b1 := fun e => nb1b4 e.symm
     have nb2b4 : ¬ b2 = b4 := by have := Hb2.out.lt; omega
     have nb4b2 : ¬ b4 = b2 := fun e => nb2b4 e.symm
     have nb3b4 : ¬ b3 = b4 := by have := Hb3.out.lt; omega
     have nb4b3 : ¬ b4 = b3 := fun e => nb3b4 e.symm
     have gb4 : w.heap.size ≤ b4 := Nat.le_trans HB.out.size eb4
     clear eb4
     clear hb HSV k0
     replace Hb1 := kbl Hb1 HZ
     replace Hb2 := kbl Hb2 HZ
     replace Hb3 := kbl Hb3 HZ
     replace HB := ktr' HB HZ
     replace HSS3 := Lib.hid (HSS3.out.later HZ.out (Nat.le_refl _))
     clear HZ
     have Hb4 := Kb4
     clear Kb4
     go_upto_region 11 with (fail)
     have HSV : Hid (∀ U, Below Va5.heap.size Va5 U → U.cell? ⟨b1, 0, none⟩ = some (.int .i64 (WW)) ∧ U.cell? ⟨b1, 1, none⟩ = some (.int .i64 (HH)) ∧ U.cell? ⟨b1, 2, none⟩ = some (.int .i64 (SS)) ∧ U.cell? ⟨b1, 3, none⟩ = some (.slice A ss.length c) ∧ U.cell? ⟨b2, 0, none⟩ = some (.int .i64 (x1)) ∧ U.cell? ⟨b2, 1, none⟩ = some (.int .i64 (x2)) ∧ U.cell? ⟨b2, 2, none⟩ = some (.int .i64 (y1)) ∧ U.cell? ⟨b2, 3, none⟩ = some (.int .i64 (y2)) ∧ U.cell? ⟨b2, 4, none⟩ = some (.int .i64 (r)) ∧ U.cell? ⟨b2, 5, none⟩ = some (.int .i64 (m1)) ∧ U.cell? ⟨b2, 6, none⟩ = some (.int .i64 (m2)) ∧ U.cell? ⟨b2, 7, none⟩ = some (.int .i64 (p1)) ∧ U.cell? ⟨b2, 8, none⟩ = some (.int .i64 (p2))) := fun U hU => by
      have kb1 := Hb1.out.below hU Hb1.out.lt
      have kb2 := Hb2.out.below hU Hb2.out.lt
      exact ⟨kb1.cell 0, kb1.cell 1, kb1.cell 2, kb1.cell 3, kb2.cell 0, kb2.cell 1, kb2.cell 2, kb2.cell 3, kb2.cell 4, kb2.cell 5, kb2.cell 6, kb2.cell 7, kb2.cell 8⟩
     have k0 := HSV.out _ (Below.drew (Below.refl Va5.heap.size Va5))
     go_cut [12] from 45 to 57 (fun pq0 wx => OneBx Va5 108 #[.int .i64 (vn - y2), .int .i64 (vn - y1)] pq0 wx)
     case first =>
      refine wp_region_noPanic ?_
      refine wp_region_L (S := (fun w' => w'.cell? ⟨b1, 0, none⟩ = some (.int .i64 (WW)) ∧ w'.cell? ⟨b1, 1, none⟩ = some (.int .i64 (HH)) ∧ w'.cell? ⟨b1, 2, none⟩ = some (.int .i64 (SS)) ∧ w'.cell? ⟨b1, 3, none⟩ = some (.slice A ss.length c) ∧ w'.cell? ⟨b2, 0, none⟩ = some (.int .i64 (x1)) ∧ w'.cell? ⟨b2, 1, none⟩ = some (.int .i64 (x2)) ∧ w'.cell? ⟨b2, 2, none⟩ = some (.int .i64 (y1)) ∧ w'.cell? ⟨b2, 3, none⟩ = some (.int .i64 (y2)) ∧ w'.cell? ⟨b2, 4, none⟩ = some (.int .i64 (r)) ∧ w'.cell? ⟨b2, 5, none⟩ = some (.int .i64 (m1)) ∧ w'.cell? ⟨b2, 6, none⟩ = some (.int .i64 (m2)) ∧ w'.cell? ⟨b2, 7, none⟩ = some (.int .i64 (p1)) ∧ w'.cell? ⟨b2, 8, none⟩ = some (.int .i64 (p2)))) (ks := [13]) (by kernel_rfl) ?_ (fun hHeld => ?_)
      · (try dsimp only); (exact k0)
      refine tL 0 Z70 ?_ ?_ ?_
      rotate_left
      · ((intro w hSw; delta Z70; (try dsimp only at hSw); go_simp) <;> with_reducible rfl)
      try simp only [Z70, ksz]
      refine tL 1 Z71 ?_ ?_ ?_
      rotate_left
      · ((intro w hSw; delta Z71; (try dsimp only at hSw); go_simp) <;> with_reducible rfl)
      try simp only [Z71, ksz]
      refine tL 4 Z74 ?_ ?_ ?_
      rotate_left
      · ((intro w hSw; delta Z74; (try dsimp only at hSw); go_simp) <;> with_reducible rfl)
      try simp only [Z74, ksz]
      refine tL 8 Z78 ?_ ?_ ?_
      rotate_left
      · ((intro w hSw; delta Z78; (try dsimp only at hSw); go_simp) <;> with_reducible rfl)
      try simp only [Z78, ksz]
      refine tL 2 Z72 ?_ ?_ ?_
      rotate_left
      · ((intro w hSw; delta Z72; (try dsimp only at hSw); go_simp) <;> with_reducible rfl)
      try simp only [Z72, ksz]
      refine tL 5 Z75 ?_ ?_ ?_
      rotate_left
      · ((intro w hSw; delta Z75; (try dsimp only at hSw); go_simp) <;> with_reducible rfl)
      try simp only [Z75, ksz]
      refine tL 9 Z79 ?_ ?_ ?_
      rotate_left
      · ((intro w hSw; delta Z79; (try dsimp only at hSw); go_simp) <;> with_reducible rfl)
      try simp only [Z79, ksz]
      refine tL 3 Z73 ?_ ?_ ?_
      rotate_left
      · ((intro w hSw; delta Z73; (try dsimp only at hSw); go_simp) <;> with_reducible rfl)
      try simp only [Z73, ksz]
      refine tL 10 Z7a ?_ ?_ ?_
      rotate_left
      · ((intro w hSw; delta Z7a; (try dsimp only at hSw); go_simp) <;> with_reducible rfl)
      try simp only [Z7a, ksz]
      refine tL 6 Z76 ?_ ?_ ?_
      rotate_left
      · ((intro w hSw; delta Z76; (try dsimp only at hSw); go_simp) <;> with_reducible rfl)
      try simp only [Z76, ksz]
      obtain ⟨W0, hW0⟩ : ∃ V, Va5.drew = V := ⟨_, rfl⟩; rw [hW0] at hHeld ⊢; have HB0 : Hid (Below Va5.heap.size Va5 W0) := (by rw [← hW0]; exact Below.drew (Below.refl _ _)); clear hW0
      refine wpAnyL_ready (rs := [7, 12]) (by kernel_rfl) (by simp) ?_
      refine AllReadyL.cons (o := Z77) rfl (fun K hK => ?_) ?_
      ·
       delta Z77
       go_simp
       (refine (exactly_any _ _).mono ?_; rintro e W1 ⟨rfl, hb⟩; have hbz : Below W0.heap.size W0 W1 := hb; clear hb; have HB1 := Lib.hid (HB0.out.trans (hbz.mono HB0.out.size)); clear hbz)
       refine hK.out _ _ ?_ (fun hHeld => ?_)
       · (try dsimp only); (exact HSV.out _ HB1.out)
       clear hK K
       try simp only [Z77, ksz]
       refine wpAnyL_ready (rs := [11, 12]) (by kernel_rfl) (by simp) ?_
       refine AllReadyL.cons (o := Z7b) rfl (fun K hK => ?_) ?_
       ·
        delta Z7b
        go_simp
        (refine (minus_any _ _ _ _ _ (by omega) (by omega)).mono ?_; rintro e W2 ⟨rfl, hb⟩; have hbz : Below W1.heap.size W1 W2 := hb; clear hb; have HB2 := Lib.hid (HB1.out.trans (hbz.mono HB1.out.size)); clear hbz)
        refine hK.out _ _ ?_ (fun hHeld => ?_)
        · (try dsimp only); (exact HSV.out _ HB2.out)
        clear hK K
        try simp only [Z7b, ksz]
        refine wpAnyL_ready (rs := [12]) (by kernel_rfl) (by simp) ?_
        refine AllReadyL.cons (o := Z7c) rfl (fun K hK => ?_) AllReadyL.nil
        delta Z7c
        go_simp
        obtain ⟨W3, hV⟩ : ∃ V, W2.alloc (.cells #[.int .i64 (0), .int .i64 (0)] 108) = V := ⟨_, rfl⟩; have hbz : Below W2.heap.size W2 W3 := (by rw [← hV]; exact (Below.refl _ _).alloc (Nat.le_refl _) _); have HB3 := Lib.hid (HB2.out.trans (hbz.mono HB2.out.size)); have Nb5' : Hid (Blk W3 W2.heap.size 108 #[.int .i64 (0), .int .i64 (0)]) := (by rw [← hV]; exact Blk.new' _ _ _ rfl); obtain ⟨b5, hz⟩ : ∃ b, W2.heap.size = b := ⟨_, rfl⟩; rw [hz] at Nb5'; have hb5 : Va5.heap.size ≤ b5 := (by rw [← hz]; exact HB2.out.size); have Nb5 := Nb5'; clear Nb5'; rw [hV, hz]; clear hV hbz hz
        refine hK.out _ _ ?_ (fun hHeld => ?_)
        · (try dsimp only); (exact HSV.out _ HB3.out)
        clear hK K
        try simp only [Z7c, ksz]
        have cR0 := Nb5.out.cell 0; have zR0 := Nb5.out.frozen 0; have cR1 := Nb5.out.cell 1; have zR1 := Nb5.out.frozen 1; simp only [List.getElem?_toArray, List.getElem?_cons_zero, List.getElem?_cons_succ] at cR0 cR1
        refine wpAnyL_ready (rs := [13]) (by kernel_rfl) (by simp) ?_
        refine AllReadyL.gate (o := Z7d) rfl (by kernel_rfl) (fun K hK => ?_) AllReadyL.nil
        delta Z7d
        go_simp
        refine hK.out _ _ ?_
        clear hK K
        try simp only [Z7d, ksz]
        obtain ⟨X0, hV⟩ : ∃ V, (W3.setCell ⟨b5, 0, none⟩ (.int .i64 (vn - y2))).setCell ⟨b5, 1, none⟩ (.int .i64 (vn - y1)) = V := ⟨_, rfl⟩; have Gb5 : Hid (Blk X0 b5 108 #[.int .i64 (vn - y2), .int .i64 (vn - y1)]) := (by rw [← hV]; exact ((Nb5.out.set_ 0 (.int .i64 (vn - y2))).set_ 1 (.int .i64 (vn - y1)))); have GHB : Hid (Below Va5.heap.size Va5 X0) := (by rw [← hV]; exact ((HB3.out.setCell (p := ⟨b5, 0, none⟩) (by exact hb5) _).setCell (p := ⟨b5, 1, none⟩) (by exact hb5) _)); rw [hV]; clear hV cR0 zR0 cR1 zR1 Nb5; have HBX := GHB; clear GHB; have Nb5 := Gb5; clear Gb5
        refine wpAnyL_done (by kernel_rfl) ?_ _
        refine NoPanic.normal ?_
        go_wp2_with fail
        go_meet
        exact ⟨b5, rfl, Nb5.out, (by exact hb5), HBX.out⟩
       refine AllReadyL.cons (o := Z7c) rfl (fun K hK => ?_) ?_
       ·
        delta Z7c
        go_simp
        obtain ⟨W2, hV⟩ : ∃ V, W1.alloc (.cells #[.int .i64 (0), .int .i64 (0)] 108) = V := ⟨_, rfl⟩; have hbz : Below W1.heap.size W1 W2 := (by rw [← hV]; exact (Below.refl _ _).alloc (Nat.le_refl _) _); have HB2 := Lib.hid (HB1.out.trans (hbz.mono HB1.out.size)); have Nb5' : Hid (Blk W2 W1.heap.size 108 #[.int .i64 (0), .int .i64 (0)]) := (by rw [← hV]; exact Blk.new' _ _ _ rfl); obtain ⟨b5, hz⟩ : ∃ b, W1.heap.size = b := ⟨_, rfl⟩; rw [hz] at Nb5'; have hb5 : Va5.heap.size ≤ b5 := (by rw [← hz]; exact HB1.out.size); have Nb5 := Nb5'; clear Nb5'; rw [hV, hz]; clear hV hbz hz
        refine hK.out _ _ ?_ (fun hHeld => ?_)
        · (try dsimp only); (exact HSV.out _ HB2.out)
        clear hK K
        try simp only [Z7c, ksz]
        refine wpAnyL_ready (rs := [11]) (by kernel_rfl) (by simp) ?_
        refine AllReadyL.cons (o := Z7b) rfl (fun K hK => ?_) AllReadyL.nil
        delta Z7b
        go_simp
        (refine (minus_any _ _ _ _ _ (by omega) (by omega)).mono ?_; rintro e W3 ⟨rfl, hb⟩; have hbz : Below W2.heap.size W2 W3 := hb; clear hb; have HB3 := Lib.hid (HB2.out.trans (hbz.mono HB2.out.size)); have Mb5 := Lib.hid (Nb5.out.below hbz Nb5.out.lt); clear Nb5; have Nb5 := Mb5; clear Mb5; clear hbz)
        refine hK.out _ _ ?_ (fun hHeld => ?_)
        · (try dsimp only); (exact HSV.out _ HB3.out)
        clear hK K
        try simp only [Z7b, ksz]
        have cR0 := Nb5.out.cell 0; have zR0 := Nb5.out.frozen 0; have cR1 := Nb5.out.cell 1; have zR1 := Nb5.out.frozen 1; simp only [List.getElem?_toArray, List.getElem?_cons_zero, List.getElem?_cons_succ] at cR0 cR1
        refine wpAnyL_ready (rs := [13]) (by kernel_rfl) (by simp) ?_
        refine AllReadyL.gate (o := Z7d) rfl (by kernel_rfl) (fun K hK => ?_) AllReadyL.nil
        delta Z7d
        go_simp
        refine hK.out _ _ ?_
        clear hK K
        try simp only [Z7d, ksz]
        obtain ⟨X0, hV⟩ : ∃ V, (W3.setCell ⟨b5, 0, none⟩ (.int .i64 (vn - y2))).setCell ⟨b5, 1, none⟩ (.int .i64 (vn - y1)) = V := ⟨_, rfl⟩; have Gb5 : Hid (Blk X0 b5 108 #[.int .i64 (vn - y2), .int .i64 (vn - y1)]) := (by rw [← hV]; exact ((Nb5.out.set_ 0 (.int .i64 (vn - y2))).set_ 1 (.int .i64 (vn - y1)))); have GHB : Hid (Below Va5.heap.size Va5 X0) := (by rw [← hV]; exact ((HB3.out.setCell (p := ⟨b5, 0, none⟩) (by exact hb5) _).setCell (p := ⟨b5, 1, none⟩) (by exact hb5) _)); rw [hV]; clear hV cR0 zR0 cR1 zR1 Nb5; have HBX := GHB; clear GHB; have Nb5 := Gb5; clear Gb5
        refine wpAnyL_done (by kernel_rfl) ?_ _
        refine NoPanic.normal ?_
        go_wp2_with fail
        go_meet
        exact ⟨b5, rfl, Nb5.out, (by exact hb5), HBX.out⟩
       exact AllReadyL.nil
      refine AllReadyL.cons (o := Z7c) rfl (fun K hK => ?_) ?_
      ·
       delta Z7c
       go_simp
       obtain ⟨W1, hV⟩ : ∃ V, W0.alloc (.cells #[.int .i64 (0), .int .i64 (0)] 108) = V := ⟨_, rfl⟩; have hbz : Below W0.heap.size W0 W1 := (by rw [← hV]; exact (Below.refl _ _).alloc (Nat.le_refl _) _); have HB1 := Lib.hid (HB0.out.trans (hbz.mono HB0.out.size)); have Nb5' : Hid (Blk W1 W0.heap.size 108 #[.int .i64 (0), .int .i64 (0)]) := (by rw [← hV]; exact Blk.new' _ _ _ rfl); obtain ⟨b5, hz⟩ : ∃ b, W0.heap.size = b := ⟨_, rfl⟩; rw [hz] at Nb5'; have hb5 : Va5.heap.size ≤ b5 := (by rw [← hz]; exact HB0.out.size); have Nb5 := Nb5'; clear Nb5'; rw [hV, hz]; clear hV hbz hz
       refine hK.out _ _ ?_ (fun hHeld => ?_)
       · (try dsimp only); (exact HSV.out _ HB1.out)
       clear hK K
       try simp only [Z7c, ksz]
       refine wpAnyL_ready (rs := [7]) (by kernel_rfl) (by simp) ?_
       refine AllReadyL.cons (o := Z77) rfl (fun K hK => ?_) AllReadyL.nil
       delta Z77
       go_simp
       (refine (exactly_any _ _).mono ?_; rintro e W2 ⟨rfl, hb⟩; have hbz : Below W1.heap.size W1 W2 := hb; clear hb; have HB2 := Lib.hid (HB1.out.trans (hbz.mono HB1.out.size)); have Mb5 := Lib.hid (Nb5.out.below hbz Nb5.out.lt); clear Nb5; have Nb5 := Mb5; clear Mb5; clear hbz)
       refine hK.out _ _ ?_ (fun hHeld => ?_)
       · (try dsimp only); (exact HSV.out _ HB2.out)
       clear hK K
       try simp only [Z77, ksz]
       refine wpAnyL_ready (rs := [11]) (by kernel_rfl) (by simp) ?_
       refine AllReadyL.cons (o := Z7b) rfl (fun K hK => ?_) AllReadyL.nil
       delta Z7b
       go_simp
       (refine (minus_any _ _ _ _ _ (by omega) (by omega)).mono ?_; rintro e W3 ⟨rfl, hb⟩; have hbz : Below W2.heap.size W2 W3 := hb; clear hb; have HB3 := Lib.hid (HB2.out.trans (hbz.mono HB2.out.size)); have Mb5 := Lib.hid (Nb5.out.below hbz Nb5.out.lt); clear Nb5; have Nb5 := Mb5; clear Mb5; clear hbz)
       refine hK.out _ _ ?_ (fun hHeld => ?_)
       · (try dsimp only); (exact HSV.out _ HB3.out)
       clear hK K
       try simp only [Z7b, ksz]
       have cR0 := Nb5.out.cell 0; have zR0 := Nb5.out.frozen 0; have cR1 := Nb5.out.cell 1; have zR1 := Nb5.out.frozen 1; simp only [List.getElem?_toArray, List.getElem?_cons_zero, List.getElem?_cons_succ] at cR0 cR1
       refine wpAnyL_ready (rs := [13]) (by kernel_rfl) (by simp) ?_
       refine AllReadyL.gate (o := Z7d) rfl (by kernel_rfl) (fun K hK => ?_) AllReadyL.nil
       delta Z7d
       go_simp
       refine hK.out _ _ ?_
       clear hK K
       try simp only [Z7d, ksz]
       obtain ⟨X0, hV⟩ : ∃ V, (W3.setCell ⟨b5, 0, none⟩ (.int .i64 (vn - y2))).setCell ⟨b5, 1, none⟩ (.int .i64 (vn - y1)) = V := ⟨_, rfl⟩; have Gb5 : Hid (Blk X0 b5 108 #[.int .i64 (vn - y2), .int .i64 (vn - y1)]) := (by rw [← hV]; exact ((Nb5.out.set_ 0 (.int .i64 (vn - y2))).set_ 1 (.int .i64 (vn - y1)))); have GHB : Hid (Below Va5.heap.size Va5 X0) := (by rw [← hV]; exact ((HB3.out.setCell (p := ⟨b5, 0, none⟩) (by exact hb5) _).setCell (p := ⟨b5, 1, none⟩) (by exact hb5) _)); rw [hV]; clear hV cR0 zR0 cR1 zR1 Nb5; have HBX := GHB; clear GHB; have Nb5 := Gb5; clear Gb5
       refine wpAnyL_done (by kernel_rfl) ?_ _
       refine NoPanic.normal ?_
       go_wp2_with fail
       go_meet
       exact ⟨b5, rfl, Nb5.out, (by exact hb5), HBX.out⟩
      exact AllReadyL.nil
     case rest =>
      obtain ⟨b5, rfl, Jb5, eb5, hb⟩ := hcut
      obtain ⟨Va6, rfl⟩ : ∃ V, V = wc := ⟨_, rfl⟩
      have HZ := Lib.hid hb
      have Kb5 := Lib.hid Jb5
      clear Jb5
      have nb1b5 : ¬ b1 = b5 := by have := Hb1.out.lt; omega
      have nb5b1 : ¬ b5 = b1 := fun e => nb1b5 e.symm
      have nb2b5 : ¬ b2 = b5 := by have := Hb2.out.lt; omega
      have nb5b2 : ¬ b5 = b2 := fun e => nb2b5 e.symm
      have nb3b5 : ¬ b3 = b5 := by have := Hb3.out.lt; omega
      have nb5b3 : ¬ b5 = b3 := fun e => nb3b5 e.symm
      have nb4b5 : ¬ b4 = b5 := by have := Hb4.out.lt; omega
      have nb5b4 : ¬ b5 = b4 := fun e => nb4b5 e.symm
      have gb5 : w.heap.size ≤ b5 := Nat.le_trans HB.out.size eb5
      clear eb5
      clear hb HSV k0
      replace Hb1 := kbl Hb1 HZ
      replace Hb2 := kbl Hb2 HZ
      replace Hb3 := kbl Hb3 HZ
      replace Hb4 := kbl Hb4 HZ
      replace HB := ktr' HB HZ
      replace HSS3 := Lib.hid (HSS3.out.later HZ.out (Nat.le_refl _))
      clear HZ
      have Hb5 := Kb5
      clear Kb5
      have cb40 := kcl0 Hb4
      have cb41 := kcl1 Hb4
      have cb50 := kcl0 Hb5
      have cb51 := kcl1 Hb5
      go_wp2_with fail
      refine (distances_any (ue - x2) (ue - x1) (vn - y2) (vn - y1) _ FU.out FT.out).mono ?_
      rintro e Va7 ⟨rfl, hb⟩
      have HZ := Lib.hid hb
      clear hb
      rw [HD.out]
      clear cb40 cb41 cb50 cb51
      replace Hb1 := kbl Hb1 HZ
      replace Hb2 := kbl Hb2 HZ
      replace Hb3 := kbl Hb3 HZ
      replace Hb4 := kbl Hb4 HZ
      replace Hb5 := kbl Hb5 HZ
      replace HB := ktr' HB HZ
      replace HSS3 := Lib.hid (HSS3.out.later HZ.out (Nat.le_refl _))
      clear HZ
      clear HSS3
      go_upto_region 13 with (fail)
      obtain ⟨Va8, hV⟩ : ∃ X, Va7.alloc (.cells #[.int .i64 (D1), .int .i64 (D2)] 108) = X := ⟨_, rfl⟩
      have hnew : Blk Va8 Va7.heap.size 108 #[.int .i64 (D1), .int .i64 (D2)] := by rw [← hV]; exact (Blk.new' _ _ _ rfl)
      have hz : Below Va7.heap.size Va7 Va8 := by rw [← hV]; exact ((Below.refl _ _).alloc (Nat.le_refl _) _)
      have hgn := HB.out.size
      have lb1 := Hb1.out.lt
      have lb2 := Hb2.out.lt
      have lb3 := Hb3.out.lt
      have lb4 := Hb4.out.lt
      have lb5 := Hb5.out.lt
      rw [hV]
      obtain ⟨b6, hbx⟩ : ∃ b, Va7.heap.size = b := ⟨_, rfl⟩
      rw [hbx] at hnew hgn lb1 lb2 lb3 lb4 lb5 ⊢
      have gb6 : w.heap.size ≤ b6 := hgn
      have HZ := Lib.hid hz
      have nb1b6 : ¬ b1 = b6 := by omega
      have nb6b1 : ¬ b6 = b1 := by omega
      have nb2b6 : ¬ b2 = b6 := by omega
      have nb6b2 : ¬ b6 = b2 := by omega
      have nb3b6 : ¬ b3 = b6 := by omega
      have nb6b3 : ¬ b6 = b3 := by omega
      have nb4b6 : ¬ b4 = b6 := by omega
      have nb6b4 : ¬ b6 = b4 := by omega
      have nb5b6 : ¬ b5 = b6 := by omega
      have nb6b5 : ¬ b6 = b5 := by omega
      clear hV hz hgn hbx lb1 lb2 lb3 lb4 lb5
      replace Hb1 := kbl Hb1 HZ
      replace Hb2 := kbl Hb2 HZ
      replace Hb3 := kbl Hb3 HZ
      replace Hb4 := kbl Hb4 HZ
      replace Hb5 := kbl Hb5 HZ
      replace HB := ktr' HB HZ
      clear HZ
      have Hb6 := Lib.hid hnew
      clear hnew
      have hfd := fieldB0
      have HSV : Hid (∀ U, Below Va8.heap.size Va8 U → U.cell? ⟨b2, 0, none⟩ = some (.int .i64 (x1)) ∧ U.cell? ⟨b2, 1, none⟩ = some (.int .i64 (x2)) ∧ U.cell? ⟨b2, 2, none⟩ = some (.int .i64 (y1)) ∧ U.cell? ⟨b2, 3, none⟩ = some (.int .i64 (y2)) ∧ U.cell? ⟨b2, 4, none⟩ = some (.int .i64 (r)) ∧ U.cell? ⟨b2, 5, none⟩ = some (.int .i64 (m1)) ∧ U.cell? ⟨b2, 6, none⟩ = some (.int .i64 (m2)) ∧ U.cell? ⟨b2, 7, none⟩ = some (.int .i64 (p1)) ∧ U.cell? ⟨b2, 8, none⟩ = some (.int .i64 (p2)) ∧ U.cell? ⟨b4, 0, none⟩ = some (.int .i64 (ue - x2)) ∧ U.cell? ⟨b4, 1, none⟩ = some (.int .i64 (ue - x1)) ∧ U.cell? ⟨b5, 0, none⟩ = some (.int .i64 (vn - y2)) ∧ U.cell? ⟨b5, 1, none⟩ = some (.int .i64 (vn - y1)) ∧ U.cell? ⟨b6, 0, none⟩ = some (.int .i64 (D1)) ∧ U.cell? ⟨b6, 1, none⟩ = some (.int .i64 (D2))) := fun U hU => by
       have kb2 := Hb2.out.below hU Hb2.out.lt
       have kb4 := Hb4.out.below hU Hb4.out.lt
       have kb5 := Hb5.out.below hU Hb5.out.lt
       have kb6 := Hb6.out.below hU Hb6.out.lt
       exact ⟨kb2.cell 0, kb2.cell 1, kb2.cell 2, kb2.cell 3, kb2.cell 4, kb2.cell 5, kb2.cell 6, kb2.cell 7, kb2.cell 8, kb4.cell 0, kb4.cell 1, kb5.cell 0, kb5.cell 1, kb6.cell 0, kb6.cell 1⟩
      have k0 := HSV.out _ (Below.drew (Below.refl Va8.heap.size Va8))
      refine wp_region_noPanic ?_
      refine wp_region_L (S := (fun w' => w'.cell? ⟨b2, 0, none⟩ = some (.int .i64 (x1)) ∧ w'.cell? ⟨b2, 1, none⟩ = some (.int .i64 (x2)) ∧ w'.cell? ⟨b2, 2, none⟩ = some (.int .i64 (y1)) ∧ w'.cell? ⟨b2, 3, none⟩ = some (.int .i64 (y2)) ∧ w'.cell? ⟨b2, 4, none⟩ = some (.int .i64 (r)) ∧ w'.cell? ⟨b2, 5, none⟩ = some (.int .i64 (m1)) ∧ w'.cell? ⟨b2, 6, none⟩ = some (.int .i64 (m2)) ∧ w'.cell? ⟨b2, 7, none⟩ = some (.int .i64 (p1)) ∧ w'.cell? ⟨b2, 8, none⟩ = some (.int .i64 (p2)) ∧ w'.cell? ⟨b4, 0, none⟩ = some (.int .i64 (ue - x2)) ∧ w'.cell? ⟨b4, 1, none⟩ = some (.int .i64 (ue - x1)) ∧ w'.cell? ⟨b5, 0, none⟩ = some (.int .i64 (vn - y2)) ∧ w'.cell? ⟨b5, 1, none⟩ = some (.int .i64 (vn - y1)) ∧ w'.cell? ⟨b6, 0, none⟩ = some (.int .i64 (D1)) ∧ w'.cell? ⟨b6, 1, none⟩ = some (.int .i64 (D2)))) (ks := [12]) (by kernel_rfl) ?_ (fun hHeld => ?_)
      · (try dsimp only); (exact k0)
      refine tL 0 Z7e ?_ ?_ ?_
      rotate_left
      · ((intro w hSw; delta Z7e; (try dsimp only at hSw); go_simp) <;> with_reducible rfl)
      try simp only [Z7e, ksz]
      refine tL 1 Z7f ?_ ?_ ?_
      rotate_left
      · ((intro w hSw; delta Z7f; (try dsimp only at hSw); go_simp) <;> with_reducible rfl)
      try simp only [Z7f, ksz]
      refine tL 4 Z7i ?_ ?_ ?_
      rotate_left
      · ((intro w hSw; delta Z7i; (try dsimp only at hSw); go_simp) <;> with_reducible rfl)
      try simp only [Z7i, ksz]
      refine tL 6 Z7k ?_ ?_ ?_
      rotate_left
      · ((intro w hSw; delta Z7k; (try dsimp only at hSw); go_simp) <;> with_reducible rfl)
      try simp only [Z7k, ksz]
      refine tL 8 Z7m ?_ ?_ ?_
      rotate_left
      · ((intro w hSw; delta Z7m; (try dsimp only at hSw); go_simp) <;> with_reducible rfl)
      try simp only [Z7m, ksz]
      refine tL 9 Z7n ?_ ?_ ?_
      rotate_left
      · ((intro w hSw; delta Z7n; (try dsimp only at hSw); go_simp) <;> with_reducible rfl)
      try simp only [Z7n, ksz]
      obtain ⟨W0, hW0⟩ : ∃ V, Va8.drew = V := ⟨_, rfl⟩; rw [hW0] at hHeld ⊢; have HB0 : Hid (Below Va8.heap.size Va8 W0) := (by rw [← hW0]; exact Below.drew (Below.refl _ _)); clear hW0
      refine wpAnyL_ready (rs := [2]) (by kernel_rfl) (by simp) ?_
      refine AllReadyL.cons (o := Z7g) rfl (fun K hK => ?_) AllReadyL.nil
      delta Z7g
      go_simp
      (refine (speeds_any x1 x2 y1 y2 r m1 m2 p1 p2 D1 D2 _ ⟨hr1, hr2⟩ (by omega) bD).mono ?_; rintro e W1 ⟨rfl, hb⟩; have HB1 := Lib.hid (HB0.out.trans (hb.mono HB0.out.size)); clear hb; rw [HSp.out])
      refine hK.out _ _ ?_ (fun hHeld => ?_)
      · (try dsimp only); (exact HSV.out _ HB1.out)
      clear hK K
      try simp only [Z7g, ksz]
      refine tL 3 Z7h ?_ ?_ ?_
      rotate_left
      · ((intro w hSw; delta Z7h; (try dsimp only at hSw); go_simp) <;> with_reducible rfl)
      try simp only [Z7h, ksz]
      refine wpAnyL_ready (rs := [5]) (by kernel_rfl) (by simp) ?_
      refine AllReadyL.cons (o := Z7j) rfl (fun K hK => ?_) AllReadyL.nil
      delta Z7j
      go_simp
      (refine (negative_any (vn - y2) (vn - y1) _ (by omega) (by omega)).mono ?_; rintro e W2 ⟨rfl, hb⟩; have HB2 := Lib.hid (HB1.out.trans (hb.mono HB1.out.size)); clear hb)
      refine hK.out _ _ ?_ (fun hHeld => ?_)
      · (try dsimp only); (exact HSV.out _ HB2.out)
      clear hK K
      try simp only [Z7j, ksz]
      refine wpAnyL_ready (rs := [7]) (by kernel_rfl) (by simp) ?_
      refine AllReadyL.cons (o := Z7l) rfl (fun K hK => ?_) AllReadyL.nil
      delta Z7l
      go_simp
      (refine (dirs_any _ _ _ _ _ HRB.out).mono ?_; rintro e W3 ⟨rfl, hb⟩; have HB3 := Lib.hid (HB2.out.trans (hb.mono HB2.out.size)); clear hb; rw [HDn.out])
      refine hK.out _ _ ?_ (fun hHeld => ?_)
      · (try dsimp only); (exact HSV.out _ HB3.out)
      clear hK K
      try simp only [Z7l, ksz]
      refine wpAnyL_ready (rs := [10]) (by kernel_rfl) (by simp) ?_
      refine AllReadyL.cons (o := Z7o) rfl (fun K hK => ?_) AllReadyL.nil
      delta Z7o
      go_simp
      (refine (lows_any x1 x2 y1 y2 r m1 m2 p1 p2 D1 D2 _).mono ?_; rintro e W4 ⟨rfl, hb⟩; have HB4 := Lib.hid (HB3.out.trans (hb.mono HB3.out.size)); clear hb; rw [HLo.out])
      refine hK.out _ _ ?_ (fun hHeld => ?_)
      · (try dsimp only); (exact HSV.out _ HB4.out)
      clear hK K
      try simp only [Z7o, ksz]
      refine tL 11 Z7p ?_ ?_ ?_
      rotate_left
      · ((intro w hSw; delta Z7p; (try dsimp only at hSw); go_simp) <;> with_reducible rfl)
      try simp only [Z7p, ksz]
      have Gb1 := Lib.hid (Hb1.out.below HB4.out Hb1.out.lt); have Gb2 := Lib.hid (Hb2.out.below HB4.out Hb2.out.lt); have Gb3 := Lib.hid (Hb3.out.below HB4.out Hb3.out.lt); have Gb4 := Lib.hid (Hb4.out.below HB4.out Hb4.out.lt); have Gb5 := Lib.hid (Hb5.out.below HB4.out Hb5.out.lt); have Gb6 := Lib.hid (Hb6.out.below HB4.out Hb6.out.lt); have GHB := Lib.hid (HB.out.trans (HB4.out.mono HB.out.size)); clear Hb1 Hb2 Hb3 Hb4 Hb5 Hb6 HB; have Hb1 := Gb1; clear Gb1; have Hb2 := Gb2; clear Gb2; have Hb3 := Gb3; clear Gb3; have Hb4 := Gb4; clear Gb4; have Hb5 := Gb5; clear Gb5; have Hb6 := Gb6; clear Gb6; have HB := GHB; clear GHB; have cR0 := Hb3.out.cell 0; have zR0 := Hb3.out.frozen 0; have cR1 := Hb3.out.cell 1; have zR1 := Hb3.out.frozen 1; have cR2 := Hb3.out.cell 2; have zR2 := Hb3.out.frozen 2; have cR3 := Hb3.out.cell 3; have zR3 := Hb3.out.frozen 3; have cR4 := Hb3.out.cell 4; have zR4 := Hb3.out.frozen 4; simp only [List.getElem?_toArray, List.getElem?_cons_zero, List.getElem?_cons_succ] at cR0 cR1 cR2 cR3 cR4
      refine wpAnyL_ready (rs := [12]) (by kernel_rfl) (by simp) ?_
      refine AllReadyL.gate (o := Z7q) rfl (by kernel_rfl) (fun K hK => ?_) AllReadyL.nil
      delta Z7q
      go_simp
      refine hK.out _ _ ?_
      clear hK K
      try simp only [Z7q, ksz]
      obtain ⟨Va9, hV⟩ : ∃ V, ((((W4.setCell ⟨b3, 0, none⟩ (.int .i64 (s1))).setCell ⟨b3, 1, none⟩ (.int .i64 (s2))).setCell ⟨b3, 2, none⟩ (.int .i64 ((dn : Nat)))).setCell ⟨b3, 3, none⟩ (.int .i64 (l1))).setCell ⟨b3, 4, none⟩ (.int .i64 (l2)) = V := ⟨_, rfl⟩; replace Hb1 : Hid (Blk Va9 b1 24 #[.int .i64 (WW), .int .i64 (HH), .int .i64 (SS), .slice A ss.length c]) := (by rw [← hV]; exact (((((Hb1.out.far_ (p := ⟨b3, 0, none⟩) nb1b3 _).far_ (p := ⟨b3, 1, none⟩) nb1b3 _).far_ (p := ⟨b3, 2, none⟩) nb1b3 _).far_ (p := ⟨b3, 3, none⟩) nb1b3 _).far_ (p := ⟨b3, 4, none⟩) nb1b3 _)); replace Hb2 : Hid (Blk Va9 b2 70 #[.int .i64 (x1), .int .i64 (x2), .int .i64 (y1), .int .i64 (y2), .int .i64 (r), .int .i64 (m1), .int .i64 (m2), .int .i64 (p1), .int .i64 (p2)]) := (by rw [← hV]; exact (((((Hb2.out.far_ (p := ⟨b3, 0, none⟩) nb2b3 _).far_ (p := ⟨b3, 1, none⟩) nb2b3 _).far_ (p := ⟨b3, 2, none⟩) nb2b3 _).far_ (p := ⟨b3, 3, none⟩) nb2b3 _).far_ (p := ⟨b3, 4, none⟩) nb2b3 _)); replace Hb3 : Hid (Blk Va9 b3 32 #[.int .i64 (s1), .int .i64 (s2), .int .i64 ((dn : Nat)), .int .i64 (l1), .int .i64 (l2)]) := (by rw [← hV]; exact (((((Hb3.out.set_ 0 (.int .i64 (s1))).set_ 1 (.int .i64 (s2))).set_ 2 (.int .i64 ((dn : Nat)))).set_ 3 (.int .i64 (l1))).set_ 4 (.int .i64 (l2)))); replace Hb4 : Hid (Blk Va9 b4 108 #[.int .i64 (ue - x2), .int .i64 (ue - x1)]) := (by rw [← hV]; exact (((((Hb4.out.far_ (p := ⟨b3, 0, none⟩) nb4b3 _).far_ (p := ⟨b3, 1, none⟩) nb4b3 _).far_ (p := ⟨b3, 2, none⟩) nb4b3 _).far_ (p := ⟨b3, 3, none⟩) nb4b3 _).far_ (p := ⟨b3, 4, none⟩) nb4b3 _)); replace Hb5 : Hid (Blk Va9 b5 108 #[.int .i64 (vn - y2), .int .i64 (vn - y1)]) := (by rw [← hV]; exact (((((Hb5.out.far_ (p := ⟨b3, 0, none⟩) nb5b3 _).far_ (p := ⟨b3, 1, none⟩) nb5b3 _).far_ (p := ⟨b3, 2, none⟩) nb5b3 _).far_ (p := ⟨b3, 3, none⟩) nb5b3 _).far_ (p := ⟨b3, 4, none⟩) nb5b3 _)); replace Hb6 : Hid (Blk Va9 b6 108 #[.int .i64 (D1), .int .i64 (D2)]) := (by rw [← hV]; exact (((((Hb6.out.far_ (p := ⟨b3, 0, none⟩) nb6b3 _).far_ (p := ⟨b3, 1, none⟩) nb6b3 _).far_ (p := ⟨b3, 2, none⟩) nb6b3 _).far_ (p := ⟨b3, 3, none⟩) nb6b3 _).far_ (p := ⟨b3, 4, none⟩) nb6b3 _)); replace HB : Hid (Below w.heap.size w Va9) := (by rw [← hV]; exact (((((HB.out.setCell (p := ⟨b3, 0, none⟩) gb3 _).setCell (p := ⟨b3, 1, none⟩) gb3 _).setCell (p := ⟨b3, 2, none⟩) gb3 _).setCell (p := ⟨b3, 3, none⟩) gb3 _).setCell (p := ⟨b3, 4, none⟩) gb3 _)); rw [hV]; clear hV cR0 zR0 cR1 zR1 cR2 zR2 cR3 zR3 cR4 zR4
      refine wpAnyL_ready (rs := [13]) (by kernel_rfl) (by simp) ?_
      refine AllReadyL.gate (o := Z7r) rfl (by kernel_rfl) (fun K hK => ?_) AllReadyL.nil
      delta Z7r
      go_simp
      refine hK.out _ _ ?_
      clear hK K
      try simp only [Z7r, ksz]
      refine wpAnyL_done (by kernel_rfl) ?_ _
      refine NoPanic.normal ?_
      clear HSV k0
      clear hHeld HB0 HB1 HB2 HB3 HB4
      have cb30 := kcl0 Hb3
      have cb31 := kcl1 Hb3
      have cb32 := kcl2 Hb3
      have cb33 := kcl3 Hb3
      have cb34 := kcl4 Hb3
      go_wp2
      refine bodyPost_ret (v := .tuple #[.agg #[.int .i64 s1, .int .i64 s2, .int .i64 (dn : Nat), .int .i64 l1, .int .i64 l2], .int .i64 0]) (by simp [results, Tryd.results39, go_sem, cb30, cb31, cb32, cb33, cb34]) rfl ⟨by rw [EV.out, EE.out, HF.out]; rfl, HB.out⟩
   ·
    obtain ⟨E0, hE0⟩ : ∃ q, cellE ⟨WW, HH, SS, ss⟩ cell = q := ⟨_, rfl⟩
    have hb0 : ¬ E0 = 0 := by rw [← hE0]; exact h2
    have hb1 : (E0 == 0) = false := beq_eq_false_iff_ne.2 hb0
    have EE := Lib.hid (show blowE ⟨WW, HH, SS, ss⟩ ⟨(x1, x2), (y1, y2), r, (m1, m2), (p1, p2)⟩ cell = E0 by rw [← hE0]; unfold blowE andE; simp [*])
    have EV := Lib.hid (show blowV ⟨WW, HH, SS, ss⟩ ⟨(x1, x2), (y1, y2), r, (m1, m2), (p1, p2)⟩ cell = zeroW by unfold blowV; rw [EE.out, if_neg hb0])
    have HE0 := Lib.hid hE0
    clear hE0 hb0
    have H0 := Lib.hid h0
    clear h0
    have H1 := Lib.hid h1
    clear h1
    have H2 := Lib.hid h2
    clear h2
    have HSS3 := Lib.hid hs
    clear hs
    go_enter Tryd.func39, Tryd.ntmps39
    go_upto_region 1 with (fail)
    obtain ⟨Va1, hV⟩ : ∃ V, ((w.alloc (.cells #[.int .i64 (WW), .int .i64 (HH), .int .i64 (SS), .slice A ss.length c] 24)).alloc (.cells #[.int .i64 (x1), .int .i64 (x2), .int .i64 (y1), .int .i64 (y2), .int .i64 (r), .int .i64 (m1), .int .i64 (m2), .int .i64 (p1), .int .i64 (p2)] 70)).alloc (.cells #[.int .i64 (0), .int .i64 (0), .int .i64 (0), .int .i64 (0), .int .i64 (0)] 32) = V := ⟨_, rfl⟩
    have Kb1 : Hid (Blk Va1 (w.heap.size) 24 #[.int .i64 (WW), .int .i64 (HH), .int .i64 (SS), .slice A ss.length c]) := by rw [← hV]; exact ((Blk.new' _ _ _ (by simp)).alloc _).alloc _
    have Kb2 : Hid (Blk Va1 (w.heap.size + 1) 70 #[.int .i64 (x1), .int .i64 (x2), .int .i64 (y1), .int .i64 (y2), .int .i64 (r), .int .i64 (m1), .int .i64 (m2), .int .i64 (p1), .int .i64 (p2)]) := by rw [← hV]; exact (Blk.new' _ _ _ (by simp)).alloc _
    have Kb3 : Hid (Blk Va1 (w.heap.size + 1 + 1) 32 #[.int .i64 (0), .int .i64 (0), .int .i64 (0), .int .i64 (0), .int .i64 (0)]) := by rw [← hV]; exact Blk.new' _ _ _ (by simp)
    have GHB : Hid (Below w.heap.size w Va1) := by rw [← hV]; exact (by repeat (first | exact Below.refl _ _ | assumption | refine Below.drew ?_ | refine Below.drewN' ?_ _ | (refine Below.alloc ?_ (by simp <;> omega) _) | (refine Below.setCell ?_ (by simp <;> omega) _)))
    have HZ : Hid (Below w.heap.size w Va1) := GHB
    have GHSS3 := Lib.hid (HSS3.out.later HZ.out (Nat.le_refl _))
    rw [hV]
    clear hV HZ HSS3
    have HB := GHB
    clear GHB
    have HSS3 := GHSS3
    clear GHSS3
    obtain ⟨b3, hqb3⟩ : ∃ b, w.heap.size + 1 + 1 = b := ⟨_, rfl⟩
    obtain ⟨b2, hqb2⟩ : ∃ b, w.heap.size + 1 = b := ⟨_, rfl⟩
    obtain ⟨b1, hqb1⟩ : ∃ b, w.heap.size = b := ⟨_, rfl⟩
    have gb1 : w.heap.size ≤ b1 := by omega
    have gb2 : w.heap.size ≤ b2 := by omega
    have nb2b1 : ¬ b2 = b1 := by omega
    have nb1b2 : ¬ b1 = b2 := by omega
    have gb3 : w.heap.size ≤ b3 := by omega
    have nb3b1 : ¬ b3 = b1 := by omega
    have nb1b3 : ¬ b1 = b3 := by omega
    have nb3b2 : ¬ b3 = b2 := by omega
    have nb2b3 : ¬ b2 = b3 := by omega
    rw [hqb3] at Kb3 ⊢
    clear hqb3
    rw [hqb2] at Kb2 ⊢
    clear hqb2
    have HN : Hid (w.heap.size = b1) := hqb1
    rw [hqb1] at Kb1 ⊢
    clear hqb1
    have Hb1 := Kb1
    clear Kb1
    have Hb2 := Kb2
    clear Kb2
    have Hb3 := Kb3
    clear Kb3
    have cb10 := kcl0 Hb1
    have cb11 := kcl1 Hb1
    have cb12 := kcl2 Hb1
    have cb13 := kcl3 Hb1
    go_wp2_with fail
    refine (check_any _ ⟨WW, HH, SS, ss⟩ _ ⟨_, rfl, HSS3.out⟩).mono ?_
    rintro e Va2 ⟨rfl, hb⟩
    have HZ := Lib.hid hb
    clear hb
    rw [H0.out]
    clear cb10 cb11 cb12 cb13
    replace Hb1 := kbl Hb1 HZ
    replace Hb2 := kbl Hb2 HZ
    replace Hb3 := kbl Hb3 HZ
    replace HB := ktr' HB HZ
    replace HSS3 := Lib.hid (HSS3.out.later HZ.out (Nat.le_refl _))
    clear HZ
    have cb20 := kcl0 Hb2
    have cb21 := kcl1 Hb2
    have cb22 := kcl2 Hb2
    have cb23 := kcl3 Hb2
    have cb24 := kcl4 Hb2
    have cb25 := kcl5 Hb2
    have cb26 := kcl6 Hb2
    have cb27 := kcl7 Hb2
    have cb28 := kcl8 Hb2
    go_wp2_with fail
    refine (checkStorm_any x1 x2 y1 y2 r m1 m2 p1 p2 _).mono ?_
    rintro e Va3 ⟨rfl, hb⟩
    have HZ := Lib.hid hb
    clear hb
    rw [H1.out]
    clear cb20 cb21 cb22 cb23 cb24 cb25 cb26 cb27 cb28
    replace Hb1 := kbl Hb1 HZ
    replace Hb2 := kbl Hb2 HZ
    replace Hb3 := kbl Hb3 HZ
    replace HB := ktr' HB HZ
    replace HSS3 := Lib.hid (HSS3.out.later HZ.out (Nat.le_refl _))
    clear HZ
    have cb10 := kcl0 Hb1
    have cb11 := kcl1 Hb1
    have cb12 := kcl2 Hb1
    have cb13 := kcl3 Hb1
    go_wp2_with fail
    refine (checkCell_any WW HH SS ss A c cell _ hlen).mono ?_
    rintro e Va4 ⟨rfl, hb⟩
    have HZ := Lib.hid hb
    clear hb
    rw [HE0.out]
    clear cb10 cb11 cb12 cb13
    replace Hb1 := kbl Hb1 HZ
    replace Hb2 := kbl Hb2 HZ
    replace Hb3 := kbl Hb3 HZ
    replace HB := ktr' HB HZ
    replace HSS3 := Lib.hid (HSS3.out.later HZ.out (Nat.le_refl _))
    clear HZ
    have cb30 := kcl0 Hb3
    have cb31 := kcl1 Hb3
    have cb32 := kcl2 Hb3
    have cb33 := kcl3 Hb3
    have cb34 := kcl4 Hb3
    have zb30 : Va4.frozen? ⟨b3, 0, none⟩ = false := Hb3.out.frozen 0
    have zb31 : Va4.frozen? ⟨b3, 1, none⟩ = false := Hb3.out.frozen 1
    have zb32 : Va4.frozen? ⟨b3, 2, none⟩ = false := Hb3.out.frozen 2
    have zb33 : Va4.frozen? ⟨b3, 3, none⟩ = false := Hb3.out.frozen 3
    have zb34 : Va4.frozen? ⟨b3, 4, none⟩ = false := Hb3.out.frozen 4
    go_wp2
    have M3 := (((((Hb3.out.set_ 0 (.int .i64 (0))).set_ 1 (.int .i64 (0))).set_ 2 (.int .i64 (0))).set_ 3 (.int .i64 (0))).set_ 4 (.int .i64 (0)))
    have r0 := M3.cell 0
    have r1 := M3.cell 1
    have r2 := M3.cell 2
    have r3 := M3.cell 3
    have r4 := M3.cell 4
    simp only [List.setIfInBounds_toArray, List.set_cons_zero, List.set_cons_succ, List.getElem?_toArray, List.getElem?_cons_zero, List.getElem?_cons_succ] at r0 r1 r2 r3 r4
    refine bodyPost_ret (v := .tuple #[.agg #[.int .i64 (0), .int .i64 (0), .int .i64 (0), .int .i64 (0), .int .i64 (0)], .int .i64 E0]) (by simp [results, Tryd.results39, go_sem, r0, r1, r2, r3, r4]) rfl ⟨by rw [EV.out, EE.out]; rfl, ?_⟩
    exact (((((HB.out.setCell (p := ⟨b3, 0, none⟩) gb3 _).setCell (p := ⟨b3, 1, none⟩) gb3 _).setCell (p := ⟨b3, 2, none⟩) gb3 _).setCell (p := ⟨b3, 3, none⟩) gb3 _).setCell (p := ⟨b3, 4, none⟩) gb3 _)
  ·
   obtain ⟨E0, hE0⟩ : ∃ q, soE ⟨(x1, x2), (y1, y2), r, (m1, m2), (p1, p2)⟩ = q := ⟨_, rfl⟩
   have hb0 : ¬ E0 = 0 := by rw [← hE0]; exact h1
   have hb1 : (E0 == 0) = false := beq_eq_false_iff_ne.2 hb0
   have EE := Lib.hid (show blowE ⟨WW, HH, SS, ss⟩ ⟨(x1, x2), (y1, y2), r, (m1, m2), (p1, p2)⟩ cell = E0 by rw [← hE0]; unfold blowE andE; simp [*])
   have EV := Lib.hid (show blowV ⟨WW, HH, SS, ss⟩ ⟨(x1, x2), (y1, y2), r, (m1, m2), (p1, p2)⟩ cell = zeroW by unfold blowV; rw [EE.out, if_neg hb0])
   have HE0 := Lib.hid hE0
   clear hE0 hb0
   have H0 := Lib.hid h0
   clear h0
   have H1 := Lib.hid h1
   clear h1
   have HSS3 := Lib.hid hs
   clear hs
   go_enter Tryd.func39, Tryd.ntmps39
   go_upto_region 1 with (fail)
   obtain ⟨Va1, hV⟩ : ∃ V, ((w.alloc (.cells #[.int .i64 (WW), .int .i64 (HH), .int .i64 (SS), .slice A ss.length c] 24)).alloc (.cells #[.int .i64 (x1), .int .i64 (x2), .int .i64 (y1), .int .i64 (y2), .int .i64 (r), .int .i64 (m1), .int .i64 (m2), .int .i64 (p1), .int .i64 (p2)] 70)).alloc (.cells #[.int .i64 (0), .int .i64 (0), .int .i64 (0), .int .i64 (0), .int .i64 (0)] 32) = V := ⟨_, rfl⟩
   have Kb1 : Hid (Blk Va1 (w.heap.size) 24 #[.int .i64 (WW), .int .i64 (HH), .int .i64 (SS), .slice A ss.length c]) := by rw [← hV]; exact ((Blk.new' _ _ _ (by simp)).alloc _).alloc _
   have Kb2 : Hid (Blk Va1 (w.heap.size + 1) 70 #[.int .i64 (x1), .int .i64 (x2), .int .i64 (y1), .int .i64 (y2), .int .i64 (r), .int .i64 (m1), .int .i64 (m2), .int .i64 (p1), .int .i64 (p2)]) := by rw [← hV]; exact (Blk.new' _ _ _ (by simp)).alloc _
   have Kb3 : Hid (Blk Va1 (w.heap.size + 1 + 1) 32 #[.int .i64 (0), .int .i64 (0), .int .i64 (0), .int .i64 (0), .int .i64 (0)]) := by rw [← hV]; exact Blk.new' _ _ _ (by simp)
   have GHB : Hid (Below w.heap.size w Va1) := by rw [← hV]; exact (by repeat (first | exact Below.refl _ _ | assumption | refine Below.drew ?_ | refine Below.drewN' ?_ _ | (refine Below.alloc ?_ (by simp <;> omega) _) | (refine Below.setCell ?_ (by simp <;> omega) _)))
   have HZ : Hid (Below w.heap.size w Va1) := GHB
   have GHSS3 := Lib.hid (HSS3.out.later HZ.out (Nat.le_refl _))
   rw [hV]
   clear hV HZ HSS3
   have HB := GHB
   clear GHB
   have HSS3 := GHSS3
   clear GHSS3
   obtain ⟨b3, hqb3⟩ : ∃ b, w.heap.size + 1 + 1 = b := ⟨_, rfl⟩
   obtain ⟨b2, hqb2⟩ : ∃ b, w.heap.size + 1 = b := ⟨_, rfl⟩
   obtain ⟨b1, hqb1⟩ : ∃ b, w.heap.size = b := ⟨_, rfl⟩
   have gb1 : w.heap.size ≤ b1 := by omega
   have gb2 : w.heap.size ≤ b2 := by omega
   have nb2b1 : ¬ b2 = b1 := by omega
   have nb1b2 : ¬ b1 = b2 := by omega
   have gb3 : w.heap.size ≤ b3 := by omega
   have nb3b1 : ¬ b3 = b1 := by omega
   have nb1b3 : ¬ b1 = b3 := by omega
   have nb3b2 : ¬ b3 = b2 := by omega
   have nb2b3 : ¬ b2 = b3 := by omega
   rw [hqb3] at Kb3 ⊢
   clear hqb3
   rw [hqb2] at Kb2 ⊢
   clear hqb2
   have HN : Hid (w.heap.size = b1) := hqb1
   rw [hqb1] at Kb1 ⊢
   clear hqb1
   have Hb1 := Kb1
   clear Kb1
   have Hb2 := Kb2
   clear Kb2
   have Hb3 := Kb3
   clear Kb3
   have cb10 := kcl0 Hb1
   have cb11 := kcl1 Hb1
   have cb12 := kcl2 Hb1
   have cb13 := kcl3 Hb1
   go_wp2_with fail
   refine (check_any _ ⟨WW, HH, SS, ss⟩ _ ⟨_, rfl, HSS3.out⟩).mono ?_
   rintro e Va2 ⟨rfl, hb⟩
   have HZ := Lib.hid hb
   clear hb
   rw [H0.out]
   clear cb10 cb11 cb12 cb13
   replace Hb1 := kbl Hb1 HZ
   replace Hb2 := kbl Hb2 HZ
   replace Hb3 := kbl Hb3 HZ
   replace HB := ktr' HB HZ
   replace HSS3 := Lib.hid (HSS3.out.later HZ.out (Nat.le_refl _))
   clear HZ
   have cb20 := kcl0 Hb2
   have cb21 := kcl1 Hb2
   have cb22 := kcl2 Hb2
   have cb23 := kcl3 Hb2
   have cb24 := kcl4 Hb2
   have cb25 := kcl5 Hb2
   have cb26 := kcl6 Hb2
   have cb27 := kcl7 Hb2
   have cb28 := kcl8 Hb2
   go_wp2_with fail
   refine (checkStorm_any x1 x2 y1 y2 r m1 m2 p1 p2 _).mono ?_
   rintro e Va3 ⟨rfl, hb⟩
   have HZ := Lib.hid hb
   clear hb
   rw [HE0.out]
   clear cb20 cb21 cb22 cb23 cb24 cb25 cb26 cb27 cb28
   replace Hb1 := kbl Hb1 HZ
   replace Hb2 := kbl Hb2 HZ
   replace Hb3 := kbl Hb3 HZ
   replace HB := ktr' HB HZ
   replace HSS3 := Lib.hid (HSS3.out.later HZ.out (Nat.le_refl _))
   clear HZ
   have cb30 := kcl0 Hb3
   have cb31 := kcl1 Hb3
   have cb32 := kcl2 Hb3
   have cb33 := kcl3 Hb3
   have cb34 := kcl4 Hb3
   have zb30 : Va3.frozen? ⟨b3, 0, none⟩ = false := Hb3.out.frozen 0
   have zb31 : Va3.frozen? ⟨b3, 1, none⟩ = false := Hb3.out.frozen 1
   have zb32 : Va3.frozen? ⟨b3, 2, none⟩ = false := Hb3.out.frozen 2
   have zb33 : Va3.frozen? ⟨b3, 3, none⟩ = false := Hb3.out.frozen 3
   have zb34 : Va3.frozen? ⟨b3, 4, none⟩ = false := Hb3.out.frozen 4
   go_wp2
   have M3 := (((((Hb3.out.set_ 0 (.int .i64 (0))).set_ 1 (.int .i64 (0))).set_ 2 (.int .i64 (0))).set_ 3 (.int .i64 (0))).set_ 4 (.int .i64 (0)))
   have r0 := M3.cell 0
   have r1 := M3.cell 1
   have r2 := M3.cell 2
   have r3 := M3.cell 3
   have r4 := M3.cell 4
   simp only [List.setIfInBounds_toArray, List.set_cons_zero, List.set_cons_succ, List.getElem?_toArray, List.getElem?_cons_zero, List.getElem?_cons_succ] at r0 r1 r2 r3 r4
   refine bodyPost_ret (v := .tuple #[.agg #[.int .i64 (0), .int .i64 (0), .int .i64 (0), .int .i64 (0), .int .i64 (0)], .int .i64 E0]) (by simp [results, Tryd.results39, go_sem, r0, r1, r2, r3, r4]) rfl ⟨by rw [EV.out, EE.out]; rfl, ?_⟩
   exact (((((HB.out.setCell (p := ⟨b3, 0, none⟩) gb3 _).setCell (p := ⟨b3, 1, none⟩) gb3 _).setCell (p := ⟨b3, 2, none⟩) gb3 _).setCell (p := ⟨b3, 3, none⟩) gb3 _).setCell (p := ⟨b3, 4, none⟩) gb3 _)
 ·
  obtain ⟨E0, hE0⟩ : ∃ q, checkE ⟨WW, HH, SS, ss⟩ = q := ⟨_, rfl⟩
  have hb0 : ¬ E0 = 0 := by rw [← hE0]; exact h0
  have hb1 : (E0 == 0) = false := beq_eq_false_iff_ne.2 hb0
  have EE := Lib.hid (show blowE ⟨WW, HH, SS, ss⟩ ⟨(x1, x2), (y1, y2), r, (m1, m2), (p1, p2)⟩ cell = E0 by rw [← hE0]; unfold blowE andE; simp [*])
  have EV := Lib.hid (show blowV ⟨WW, HH, SS, ss⟩ ⟨(x1, x2), (y1, y2), r, (m1, m2), (p1, p2)⟩ cell = zeroW by unfold blowV; rw [EE.out, if_neg hb0])
  have HE0 := Lib.hid hE0
  clear hE0 hb0
  have H0 := Lib.hid h0
  clear h0
  have HSS3 := Lib.hid hs
  clear hs
  go_enter Tryd.func39, Tryd.ntmps39
  go_upto_region 1 with (fail)
  obtain ⟨Va1, hV⟩ : ∃ V, ((w.alloc (.cells #[.int .i64 (WW), .int .i64 (HH), .int .i64 (SS), .slice A ss.length c] 24)).alloc (.cells #[.int .i64 (x1), .int .i64 (x2), .int .i64 (y1), .int .i64 (y2), .int .i64 (r), .int .i64 (m1), .int .i64 (m2), .int .i64 (p1), .int .i64 (p2)] 70)).alloc (.cells #[.int .i64 (0), .int .i64 (0), .int .i64 (0), .int .i64 (0), .int .i64 (0)] 32) = V := ⟨_, rfl⟩
  have Kb1 : Hid (Blk Va1 (w.heap.size) 24 #[.int .i64 (WW), .int .i64 (HH), .int .i64 (SS), .slice A ss.length c]) := by rw [← hV]; exact ((Blk.new' _ _ _ (by simp)).alloc _).alloc _
  have Kb2 : Hid (Blk Va1 (w.heap.size + 1) 70 #[.int .i64 (x1), .int .i64 (x2), .int .i64 (y1), .int .i64 (y2), .int .i64 (r), .int .i64 (m1), .int .i64 (m2), .int .i64 (p1), .int .i64 (p2)]) := by rw [← hV]; exact (Blk.new' _ _ _ (by simp)).alloc _
  have Kb3 : Hid (Blk Va1 (w.heap.size + 1 + 1) 32 #[.int .i64 (0), .int .i64 (0), .int .i64 (0), .int .i64 (0), .int .i64 (0)]) := by rw [← hV]; exact Blk.new' _ _ _ (by simp)
  have GHB : Hid (Below w.heap.size w Va1) := by rw [← hV]; exact (by repeat (first | exact Below.refl _ _ | assumption | refine Below.drew ?_ | refine Below.drewN' ?_ _ | (refine Below.alloc ?_ (by simp <;> omega) _) | (refine Below.setCell ?_ (by simp <;> omega) _)))
  have HZ : Hid (Below w.heap.size w Va1) := GHB
  have GHSS3 := Lib.hid (HSS3.out.later HZ.out (Nat.le_refl _))
  rw [hV]
  clear hV HZ HSS3
  have HB := GHB
  clear GHB
  have HSS3 := GHSS3
  clear GHSS3
  obtain ⟨b3, hqb3⟩ : ∃ b, w.heap.size + 1 + 1 = b := ⟨_, rfl⟩
  obtain ⟨b2, hqb2⟩ : ∃ b, w.heap.size + 1 = b := ⟨_, rfl⟩
  obtain ⟨b1, hqb1⟩ : ∃ b, w.heap.size = b := ⟨_, rfl⟩
  have gb1 : w.heap.size ≤ b1 := by omega
  have gb2 : w.heap.size ≤ b2 := by omega
  have nb2b1 : ¬ b2 = b1 := by omega
  have nb1b2 : ¬ b1 = b2 := by omega
  have gb3 : w.heap.size ≤ b3 := by omega
  have nb3b1 : ¬ b3 = b1 := by omega
  have nb1b3 : ¬ b1 = b3 := by omega
  have nb3b2 : ¬ b3 = b2 := by omega
  have nb2b3 : ¬ b2 = b3 := by omega
  rw [hqb3] at Kb3 ⊢
  clear hqb3
  rw [hqb2] at Kb2 ⊢
  clear hqb2
  have HN : Hid (w.heap.size = b1) := hqb1
  rw [hqb1] at Kb1 ⊢
  clear hqb1
  have Hb1 := Kb1
  clear Kb1
  have Hb2 := Kb2
  clear Kb2
  have Hb3 := Kb3
  clear Kb3
  have cb10 := kcl0 Hb1
  have cb11 := kcl1 Hb1
  have cb12 := kcl2 Hb1
  have cb13 := kcl3 Hb1
  go_wp2_with fail
  refine (check_any _ ⟨WW, HH, SS, ss⟩ _ ⟨_, rfl, HSS3.out⟩).mono ?_
  rintro e Va2 ⟨rfl, hb⟩
  have HZ := Lib.hid hb
  clear hb
  rw [HE0.out]
  clear cb10 cb11 cb12 cb13
  replace Hb1 := kbl Hb1 HZ
  replace Hb2 := kbl Hb2 HZ
  replace Hb3 := kbl Hb3 HZ
  replace HB := ktr' HB HZ
  replace HSS3 := Lib.hid (HSS3.out.later HZ.out (Nat.le_refl _))
  clear HZ
  have cb30 := kcl0 Hb3
  have cb31 := kcl1 Hb3
  have cb32 := kcl2 Hb3
  have cb33 := kcl3 Hb3
  have cb34 := kcl4 Hb3
  have zb30 : Va2.frozen? ⟨b3, 0, none⟩ = false := Hb3.out.frozen 0
  have zb31 : Va2.frozen? ⟨b3, 1, none⟩ = false := Hb3.out.frozen 1
  have zb32 : Va2.frozen? ⟨b3, 2, none⟩ = false := Hb3.out.frozen 2
  have zb33 : Va2.frozen? ⟨b3, 3, none⟩ = false := Hb3.out.frozen 3
  have zb34 : Va2.frozen? ⟨b3, 4, none⟩ = false := Hb3.out.frozen 4
  go_wp2
  have M3 := (((((Hb3.out.set_ 0 (.int .i64 (0))).set_ 1 (.int .i64 (0))).set_ 2 (.int .i64 (0))).set_ 3 (.int .i64 (0))).set_ 4 (.int .i64 (0)))
  have r0 := M3.cell 0
  have r1 := M3.cell 1
  have r2 := M3.cell 2
  have r3 := M3.cell 3
  have r4 := M3.cell 4
  simp only [List.setIfInBounds_toArray, List.set_cons_zero, List.set_cons_succ, List.getElem?_toArray, List.getElem?_cons_zero, List.getElem?_cons_succ] at r0 r1 r2 r3 r4
  refine bodyPost_ret (v := .tuple #[.agg #[.int .i64 (0), .int .i64 (0), .int .i64 (0), .int .i64 (0), .int .i64 (0)], .int .i64 E0]) (by simp [results, Tryd.results39, go_sem, r0, r1, r2, r3, r4]) rfl ⟨by rw [EV.out, EE.out]; rfl, ?_⟩
  exact (((((HB.out.setCell (p := ⟨b3, 0, none⟩) gb3 _).setCell (p := ⟨b3, 1, none⟩) gb3 _).setCell (p := ⟨b3, 2, none⟩) gb3 _).setCell (p := ⟨b3, 3, none⟩) gb3 _).setCell (p := ⟨b3, 4, none⟩) gb3 _)
end Go.Proofs.YtdhcdgfpkjdihaaDoor.Sg
