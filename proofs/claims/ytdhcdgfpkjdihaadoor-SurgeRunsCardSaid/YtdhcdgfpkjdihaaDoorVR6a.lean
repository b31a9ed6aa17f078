/-
  Layer 3, the reference: step; the laws: winds.
-/
import Derived.Test.YtdhcdgfpkjdihaaDoorVR5c
import Derived.Test.YtdhcdgfpkjdihaaDoorVP3n
set_option linter.unusedSimpArgs false
set_option linter.unusedVariables false
namespace Go.Proofs.YtdhcdgfpkjdihaaDoor.Sg
open Go.RowKit Go.Shelf
def Zdk : Oper := ⟨some 9, .fieldAddr 40 (.tmp 3) 1, 0, "ref.go:213", #[], none⟩
def Zdl : Oper := ⟨some 10, .fieldAddr 26 (.tmp 9) 0, 0, "ref.go:213", #[⟨0, .data⟩], none⟩
def Zdm : Oper := ⟨some 11, .load 3 (.tmp 10), 3, "ref.go:213", #[⟨1, .data⟩], none⟩
def Zdn : Oper := ⟨some 12, .fieldAddr 40 (.tmp 3) 1, 0, "ref.go:213", #[⟨6, .gcOnly .lateStores⟩], none⟩
def Zdo : Oper := ⟨some 13, .fieldAddr 26 (.tmp 12) 1, 0, "ref.go:213", #[⟨3, .data⟩, ⟨6, .gcOnly .lateStores⟩], none⟩
def Zdp : Oper := ⟨some 14, .load 3 (.tmp 13), 3, "ref.go:213", #[⟨4, .data⟩, ⟨6, .gcOnly .lateStores⟩], none⟩
def Zdq : Oper := ⟨some 7, .assign (.tmp 11), 3, "ref.go:213", #[⟨2, .data⟩, ⟨0, .phase⟩, ⟨1, .phase⟩, ⟨2, .phase⟩, ⟨3, .textOnly .lateStores⟩, ⟨4, .textOnly .lateStores⟩, ⟨5, .textOnly .lateStores⟩], none⟩
def Zdr : Oper := ⟨some 8, .assign (.tmp 14), 3, "ref.go:213", #[⟨5, .data⟩, ⟨6, .chain⟩, ⟨0, .phase⟩, ⟨1, .phase⟩, ⟨2, .phase⟩, ⟨3, .phase⟩, ⟨4, .phase⟩, ⟨5, .phase⟩, ⟨6, .phase⟩], none⟩
def Zds : Oper := ⟨some 31, .fieldAddr 26 (.tmp 4) 0, 0, "ref.go:220", #[], none⟩
def Zdt : Oper := ⟨some 32, .load 3 (.tmp 31), 3, "ref.go:220", #[⟨0, .data⟩], none⟩
def Zdu : Oper := ⟨some 33, .move (.tmp 7), 3, "ref.go:220", #[], none⟩
def Zdv : Oper := ⟨some 34, .fieldAddr 26 (.tmp 5) 0, 0, "ref.go:220", #[], none⟩
def Zdw : Oper := ⟨some 35, .load 3 (.tmp 34), 3, "ref.go:220", #[⟨3, .data⟩], none⟩
def Zdx : Oper := ⟨some 36, .fieldAddr 26 (.tmp 4) 0, 0, "ref.go:220", #[], none⟩
def Zdy : Oper := ⟨some 37, .load 3 (.tmp 36), 3, "ref.go:220", #[⟨5, .data⟩], none⟩
def Zdz : Oper := ⟨some 38, .binOp BinOp.sub 3 (.tmp 35) (.tmp 37) 3, 3, "ref.go:220", #[⟨4, .data⟩, ⟨6, .data⟩], none⟩
def Ze0 : Oper := ⟨some 39, .binOp BinOp.mul 3 (.tmp 33) (.tmp 38) 3, 3, "ref.go:220", #[⟨2, .data⟩, ⟨7, .data⟩], none⟩
def Ze1 : Oper := ⟨some 40, .call { callee := Callee.value (.func 116), args := #[.tmp 39, .const (Value.int IntKind.i64 1024)], argTypes := #[3, 3] }, 3, "ref.go:220", #[⟨8, .data⟩], none⟩
def Ze2 : Oper := ⟨some 41, .binOp BinOp.add 3 (.tmp 32) (.tmp 40) 3, 3, "ref.go:220", #[⟨1, .data⟩, ⟨9, .data⟩], none⟩
def Ze3 : Oper := ⟨some 42, .fieldAddr 26 (.tmp 4) 1, 0, "ref.go:220", #[], none⟩
def Ze4 : Oper := ⟨some 43, .load 3 (.tmp 42), 3, "ref.go:220", #[⟨11, .data⟩], none⟩
def Ze5 : Oper := ⟨some 44, .move (.tmp 8), 3, "ref.go:220", #[], none⟩
def Ze6 : Oper := ⟨some 45, .fieldAddr 26 (.tmp 5) 1, 0, "ref.go:220", #[], none⟩
def Ze7 : Oper := ⟨some 46, .load 3 (.tmp 45), 3, "ref.go:220", #[⟨14, .data⟩], none⟩
def Ze8 : Oper := ⟨some 47, .fieldAddr 26 (.tmp 4) 1, 0, "ref.go:220", #[], none⟩
def Ze9 : Oper := ⟨some 48, .load 3 (.tmp 47), 3, "ref.go:220", #[⟨16, .data⟩], none⟩
def Zea : Oper := ⟨some 49, .binOp BinOp.sub 3 (.tmp 46) (.tmp 48) 3, 3, "ref.go:220", #[⟨15, .data⟩, ⟨17, .data⟩], none⟩
def Zeb : Oper := ⟨some 50, .binOp BinOp.mul 3 (.tmp 44) (.tmp 49) 3, 3, "ref.go:220", #[⟨13, .data⟩, ⟨18, .data⟩], none⟩
def Zec : Oper := ⟨some 51, .call { callee := Callee.value (.func 117), args := #[.tmp 50, .const (Value.int IntKind.i64 1024)], argTypes := #[3, 3] }, 3, "ref.go:220", #[⟨19, .data⟩, ⟨9, .chain⟩], none⟩
def Zed : Oper := ⟨some 52, .binOp BinOp.add 3 (.tmp 43) (.tmp 51) 3, 3, "ref.go:220", #[⟨12, .data⟩, ⟨20, .data⟩], none⟩
def Zee : Oper := ⟨some 53, .build 26 #[(0, .tmp 41), (1, .tmp 52)], 26, "ref.go:220", #[⟨10, .data⟩, ⟨21, .data⟩], none⟩
def Zef : Oper := ⟨none, .store 26 (.tmp 6) (.tmp 53), 0, "ref.go:220", #[⟨22, .data⟩, ⟨20, .chain⟩, ⟨0, .phase⟩, ⟨1, .phase⟩, ⟨2, .phase⟩, ⟨3, .phase⟩, ⟨4, .phase⟩, ⟨5, .phase⟩, ⟨6, .phase⟩, ⟨7, .phase⟩, ⟨8, .phase⟩, ⟨9, .phase⟩, ⟨10, .phase⟩, ⟨11, .phase⟩, ⟨12, .phase⟩, ⟨13, .phase⟩, ⟨14, .phase⟩, ⟨15, .phase⟩, ⟨16, .phase⟩, ⟨17, .phase⟩, ⟨18, .phase⟩, ⟨19, .phase⟩, ⟨20, .phase⟩, ⟨21, .phase⟩, ⟨22, .phase⟩], none⟩
set_option maxRecDepth 100000 in
set_option maxHeartbeats 4000000 in
theorem rstep_any (d1 d2 l1 l2 z1 z2 s1 s2 : Int) (w : World) (hl : spOk 1 1024 (l1, l2) = true) (hz : bigB (z1, z2)) (hs : bigB (s1, s2)) :
 Calls Tryd.prog 79 #[.agg #[.int .i64 (d1), .int .i64 (d2), .int .i64 (l1), .int .i64 (l2)], .agg #[.int .i64 z1, .int .i64 z2], .agg #[.int .i64 s1, .int .i64 s2]] w fun e w' => e = .returned (.agg #[.int .i64 (stepZ (l1, l2) (z1, z2) (s1, s2)).1, .int .i64 (stepZ (l1, l2) (z1, z2) (s1, s2)).2]) ∧ Below w.heap.size w w' := by
 have hl' := spOk_iff.1 hl
 simp only at hl'
 obtain ⟨⟨z3, z4⟩, z5, z6⟩ := hz
 obtain ⟨⟨s3, s4⟩, s5, s6⟩ := hs
 simp only at z3 z4 z5 z6 s3 s4 s5 s6
 clear hl
 by_cases h1 : s1 < z1
 all_goals by_cases h2 : s2 < z2
 ·
  have m1 := lag_rng (a := l2) (x := s1 - z1) (by omega) (by omega)
  have m2 := lag_rng (a := l1) (x := s2 - z2) (by omega) (by omega)
  have e1 : IntKind.i64.wrap (l2 * (s1 - z1)) = l2 * (s1 - z1) := IntWalk.i64_in _ (by omega)
  have e2 : IntKind.i64.wrap (l1 * (s2 - z2)) = l1 * (s2 - z2) := IntWalk.i64_in _ (by omega)
  have hv : stepZ (l1, l2) (z1, z2) (s1, s2) = (z1 + l2 * (s1 - z1) / 1024, z2 + upQ (l1 * (s2 - z2)) 1024) := by unfold stepZ; simp only; rw [if_pos h1, if_pos h2]
  rw [hv]
  simp only
  have q1 : -4100000000000000 ≤ l2 * (s1 - z1) / 1024 ∧ l2 * (s1 - z1) / 1024 ≤ 4100000000000000 := by omega
  have q2 : -4100000000000001 ≤ upQ (l1 * (s2 - z2)) 1024 ∧ upQ (l1 * (s2 - z2)) 1024 ≤ 4100000000000001 := by unfold upQ; omega
  obtain ⟨P, hP⟩ : ∃ x, l2 * (s1 - z1) / 1024 = x := ⟨_, rfl⟩
  obtain ⟨Q, hQ⟩ : ∃ x, upQ (l1 * (s2 - z2)) 1024 = x := ⟨_, rfl⟩
  rw [hP] at q1 ⊢
  rw [hQ] at q2 ⊢
  have HP := Lib.hid hP
  have HQ := Lib.hid hQ
  clear hP hQ hv
  have wr0 : IntKind.i64.wrap (s1 - z1) = s1 - z1 := IntWalk.i64_in _ (by omega)
  have wr1 : IntKind.i64.wrap (s2 - z2) = s2 - z2 := IntWalk.i64_in _ (by omega)
  have wr2 : IntKind.i64.wrap (z1 + P) = z1 + P := IntWalk.i64_in _ (by omega)
  have wr3 : IntKind.i64.wrap (z2 + Q) = z2 + Q := IntWalk.i64_in _ (by omega)
  go_enter Tryd.func79, Tryd.ntmps79
  go_upto_region 1 with (fail)
  obtain ⟨Va1, hV⟩ : ∃ V, (((w.alloc (.cells #[.int .i64 (d1), .int .i64 (d2), .int .i64 (l1), .int .i64 (l2)] 40)).alloc (.cells #[.int .i64 (z1), .int .i64 (z2)] 26)).alloc (.cells #[.int .i64 (s1), .int .i64 (s2)] 26)).alloc (.cells #[.int .i64 (0), .int .i64 (0)] 26) = V := ⟨_, rfl⟩
  have Kb3 : Hid (Blk Va1 (w.heap.size) 40 #[.int .i64 (d1), .int .i64 (d2), .int .i64 (l1), .int .i64 (l2)]) := by rw [← hV]; exact (((Blk.new' _ _ _ (by simp)).alloc _).alloc _).alloc _
  have Kb4 : Hid (Blk Va1 (w.heap.size + 1) 26 #[.int .i64 (z1), .int .i64 (z2)]) := by rw [← hV]; exact ((Blk.new' _ _ _ (by simp)).alloc _).alloc _
  have Kb5 : Hid (Blk Va1 (w.heap.size + 1 + 1) 26 #[.int .i64 (s1), .int .i64 (s2)]) := by rw [← hV]; exact (Blk.new' _ _ _ (by simp)).alloc _
  have Kb6 : Hid (Blk Va1 (w.heap.size + 1 + 1 + 1) 26 #[.int .i64 (0), .int .i64 (0)]) := by rw [← hV]; exact Blk.new' _ _ _ (by simp)
  have GHB : Hid (Below w.heap.size w Va1) := by rw [← hV]; exact (by repeat (first | exact Below.refl _ _ | assumption | refine Below.drew ?_ | refine Below.drewN' ?_ _ | (refine Below.alloc ?_ (by simp <;> omega) _) | (refine Below.setCell ?_ (by simp <;> omega) _)))
  have HZ : Hid (Below w.heap.size w Va1) := GHB
  rw [hV]
  clear hV HZ
  have HB := GHB
  clear GHB
  obtain ⟨b6, hqb6⟩ : ∃ b, w.heap.size + 1 + 1 + 1 = b := ⟨_, rfl⟩
  obtain ⟨b5, hqb5⟩ : ∃ b, w.heap.size + 1 + 1 = b := ⟨_, rfl⟩
  obtain ⟨b4, hqb4⟩ : ∃ b, w.heap.size + 1 = b := ⟨_, rfl⟩
  obtain ⟨b3, hqb3⟩ : ∃ b, w.heap.size = b := ⟨_, rfl⟩
  have gb3 : w.heap.size ≤ b3 := by omega
  have gb4 : w.heap.size ≤ b4 := by omega
  have nb4b3 : ¬ b4 = b3 := by omega
  have nb3b4 : ¬ b3 = b4 := by omega
  have gb5 : w.heap.size ≤ b5 := by omega
  have nb5b3 : ¬ b5 = b3 := by omega
  have nb3b5 : ¬ b3 = b5 := by omega
  have nb5b4 : ¬ b5 = b4 := by omega
  have nb4b5 : ¬ b4 = b5 := by omega
  have gb6 : w.heap.size ≤ b6 := by omega
  have nb6b3 : ¬ b6 = b3 := by omega
  have nb3b6 : ¬ b3 = b6 := by omega
  have nb6b4 : ¬ b6 = b4 := by omega
  have nb4b6 : ¬ b4 = b6 := by omega
  have nb6b5 : ¬ b6 = b5 := by omega
  have nb5b6 : ¬ b5 = b6 := by omega
  rw [hqb6] at Kb6 ⊢
  clear hqb6
  rw [hqb5] at Kb5 ⊢
  clear hqb5
  rw [hqb4] at Kb4 ⊢
  clear hqb4
  have HN : Hid (w.heap.size = b3) := hqb3
  rw [hqb3] at Kb3 ⊢
  clear hqb3
  have Hb3 := Kb3
  clear Kb3
  have Hb4 := Kb4
  clear Kb4
  have Hb5 := Kb5
  clear Kb5
  have Hb6 := Kb6
  clear Kb6
  have HSV : Hid (∀ U, Below Va1.heap.size Va1 U → U.cell? ⟨b3, 0, none⟩ = some (.int .i64 (d1)) ∧ U.cell? ⟨b3, 1, none⟩ = some (.int .i64 (d2)) ∧ U.cell? ⟨b3, 2, none⟩ = some (.int .i64 (l1)) ∧ U.cell? ⟨b3, 3, none⟩ = some (.int .i64 (l2))) := fun U hU => by
   have kb3 := Hb3.out.below hU Hb3.out.lt
   exact ⟨kb3.cell 0, kb3.cell 1, kb3.cell 2, kb3.cell 3⟩
  have k0 := HSV.out _ (Below.drew (Below.refl Va1.heap.size Va1))
  refine wp_region_noPanic ?_
  refine wp_region_held_drew (S := (fun w' => w'.cell? ⟨b3, 0, none⟩ = some (.int .i64 (d1)) ∧ w'.cell? ⟨b3, 1, none⟩ = some (.int .i64 (d2)) ∧ w'.cell? ⟨b3, 2, none⟩ = some (.int .i64 (l1)) ∧ w'.cell? ⟨b3, 3, none⟩ = some (.int .i64 (l2)))) (by kernel_rfl) ?_ (fun hHeld => ?_)
  · (try dsimp only); (exact k0)
  refine tH 0 Zdk ?_ ?_ ?_
  rotate_left
  · ((intro w hSw; delta Zdk; (try dsimp only at hSw); go_simp) <;> with_reducible rfl)
  try simp only [Zdk, ksz]
  refine tH 3 Zdn ?_ ?_ ?_
  rotate_left
  · ((intro w hSw; delta Zdn; (try dsimp only at hSw); go_simp) <;> with_reducible rfl)
  try simp only [Zdn, ksz]
  refine tH 1 Zdl ?_ ?_ ?_
  rotate_left
  · ((intro w hSw; delta Zdl; (try dsimp only at hSw); go_simp) <;> with_reducible rfl)
  try simp only [Zdl, ksz]
  refine tH 4 Zdo ?_ ?_ ?_
  rotate_left
  · ((intro w hSw; delta Zdo; (try dsimp only at hSw); go_simp) <;> with_reducible rfl)
  try simp only [Zdo, ksz]
  refine tH 2 Zdm ?_ ?_ ?_
  rotate_left
  · ((intro w hSw; delta Zdm; (try dsimp only at hSw); go_simp) <;> with_reducible rfl)
  try simp only [Zdm, ksz]
  refine tH 5 Zdp ?_ ?_ ?_
  rotate_left
  · ((intro w hSw; delta Zdp; (try dsimp only at hSw); go_simp) <;> with_reducible rfl)
  try simp only [Zdp, ksz]
  refine tH 6 Zdq ?_ ?_ ?_
  rotate_left
  · ((intro w hSw; delta Zdq; (try dsimp only at hSw); go_simp) <;> with_reducible rfl)
  try simp only [Zdq, ksz]
  refine tH 7 Zdr ?_ ?_ ?_
  rotate_left
  · ((intro w hSw; delta Zdr; (try dsimp only at hSw); go_simp) <;> with_reducible rfl)
  try simp only [Zdr, ksz]
  obtain ⟨W0, hW0⟩ : ∃ V, Va1.drew = V := ⟨_, rfl⟩; rw [hW0] at hHeld ⊢; have HB0 : Hid (Below Va1.heap.size Va1 W0) := (by rw [← hW0]; exact Below.drew (Below.refl _ _)); clear hW0
  refine wpAnyH_done (by kernel_rfl) ?_ _
  refine NoPanic.normal ?_
  clear HSV k0
  clear hHeld
  obtain ⟨Va2, hVU⟩ : ∃ V, W0 = V := ⟨_, rfl⟩
  rw [hVU] at HB0 ⊢
  have HZ := HB0
  clear HB0 hVU
  replace Hb3 := kbl Hb3 HZ
  replace Hb4 := kbl Hb4 HZ
  replace Hb5 := kbl Hb5 HZ
  replace Hb6 := kbl Hb6 HZ
  replace HB := ktr' HB HZ
  clear HZ
  have cb30 := kcl0 Hb3
  have cb31 := kcl1 Hb3
  have cb32 := kcl2 Hb3
  have cb33 := kcl3 Hb3
  have cb40 := kcl0 Hb4
  have cb41 := kcl1 Hb4
  have cb50 := kcl0 Hb5
  have cb51 := kcl1 Hb5
  go_upto_region 6 with (fail)
  clear cb30 cb31 cb32 cb33 cb40 cb41 cb50 cb51
  have HSV : Hid (∀ U, Below Va2.heap.size Va2 U → U.cell? ⟨b4, 0, none⟩ = some (.int .i64 (z1)) ∧ U.cell? ⟨b4, 1, none⟩ = some (.int .i64 (z2)) ∧ U.cell? ⟨b5, 0, none⟩ = some (.int .i64 (s1)) ∧ U.cell? ⟨b5, 1, none⟩ = some (.int .i64 (s2))) := fun U hU => by
   have kb4 := Hb4.out.below hU Hb4.out.lt
   have kb5 := Hb5.out.below hU Hb5.out.lt
   exact ⟨kb4.cell 0, kb4.cell 1, kb5.cell 0, kb5.cell 1⟩
  have k0 := HSV.out _ (Below.drew (Below.refl Va2.heap.size Va2))
  refine wp_region_noPanic ?_
  refine wp_region_L (S := (fun w' => w'.cell? ⟨b4, 0, none⟩ = some (.int .i64 (z1)) ∧ w'.cell? ⟨b4, 1, none⟩ = some (.int .i64 (z2)) ∧ w'.cell? ⟨b5, 0, none⟩ = some (.int .i64 (s1)) ∧ w'.cell? ⟨b5, 1, none⟩ = some (.int .i64 (s2)))) (ks := [23]) (by kernel_rfl) ?_ (fun hHeld => ?_)
  · (try dsimp only); (exact k0)
  refine tL 0 Zds ?_ ?_ ?_
  rotate_left
  · ((intro w hSw; delta Zds; (try dsimp only at hSw); go_simp) <;> with_reducible rfl)
  try simp only [Zds, ksz]
  refine tL 2 Zdu ?_ ?_ ?_
  rotate_left
  · ((intro w hSw; delta Zdu; (try dsimp only at hSw); go_simp) <;> with_reducible rfl)
  try simp only [Zdu, ksz]
  refine tL 3 Zdv ?_ ?_ ?_
  rotate_left
  · ((intro w hSw; delta Zdv; (try dsimp only at hSw); go_simp) <;> with_reducible rfl)
  try simp only [Zdv, ksz]
  refine tL 5 Zdx ?_ ?_ ?_
  rotate_left
  · ((intro w hSw; delta Zdx; (try dsimp only at hSw); go_simp) <;> with_reducible rfl)
  try simp only [Zdx, ksz]
  refine tL 11 Ze3 ?_ ?_ ?_
  rotate_left
  · ((intro w hSw; delta Ze3; (try dsimp only at hSw); go_simp) <;> with_reducible rfl)
  try simp only [Ze3, ksz]
  refine tL 13 Ze5 ?_ ?_ ?_
  rotate_left
  · ((intro w hSw; delta Ze5; (try dsimp only at hSw); go_simp) <;> with_reducible rfl)
  try simp only [Ze5, ksz]
  refine tL 14 Ze6 ?_ ?_ ?_
  rotate_left
  · ((intro w hSw; delta Ze6; (try dsimp only at hSw); go_simp) <;> with_reducible rfl)
  try simp only [Ze6, ksz]
  refine tL 16 Ze8 ?_ ?_ ?_
  rotate_left
  · ((intro w hSw; delta Ze8; (try dsimp only at hSw); go_simp) <;> with_reducible rfl)
  try simp only [Ze8, ksz]
  refine tL 1 Zdt ?_ ?_ ?_
  rotate_left
  · ((intro w hSw; delta Zdt; (try dsimp only at hSw); go_simp) <;> with_reducible rfl)
  try simp only [Zdt, ksz]
  refine tL 4 Zdw ?_ ?_ ?_
  rotate_left
  · ((intro w hSw; delta Zdw; (try dsimp only at hSw); go_simp) <;> with_reducible rfl)
  try simp only [Zdw, ksz]
  refine tL 6 Zdy ?_ ?_ ?_
  rotate_left
  · ((intro w hSw; delta Zdy; (try dsimp only at hSw); go_simp) <;> with_reducible rfl)
  try simp only [Zdy, ksz]
  refine tL 12 Ze4 ?_ ?_ ?_
  rotate_left
  · ((intro w hSw; delta Ze4; (try dsimp only at hSw); go_simp) <;> with_reducible rfl)
  try simp only [Ze4, ksz]
  refine tL 15 Ze7 ?_ ?_ ?_
  rotate_left
  · ((intro w hSw; delta Ze7; (try dsimp only at hSw); go_simp) <;> with_reducible rfl)
  try simp only [Ze7, ksz]
  refine tL 17 Ze9 ?_ ?_ ?_
  rotate_left
  · ((intro w hSw; delta Ze9; (try dsimp only at hSw); go_simp) <;> with_reducible rfl)
  try simp only [Ze9, ksz]
  refine tL 7 Zdz ?_ ?_ ?_
  rotate_left
  · ((intro w hSw; delta Zdz; (try dsimp only at hSw); go_simp) <;> with_reducible rfl)
  try simp only [Zdz, ksz]
  refine tL 18 Zea ?_ ?_ ?_
  rotate_left
  · ((intro w hSw; delta Zea; (try dsimp only at hSw); go_simp) <;> with_reducible rfl)
  try simp only [Zea, ksz]
  refine tL 8 Ze0 ?_ ?_ ?_
  rotate_left
  · ((intro w hSw; delta Ze0; (try dsimp only at hSw); go_simp) <;> with_reducible rfl)
  try simp only [Ze0, ksz]
  refine tL 19 Zeb ?_ ?_ ?_
  rotate_left
  · ((intro w hSw; delta Zeb; (try dsimp only at hSw); go_simp) <;> with_reducible rfl)
  try simp only [Zeb, ksz]
  obtain ⟨W0, hW0⟩ : ∃ V, Va2.drew = V := ⟨_, rfl⟩; rw [hW0] at hHeld ⊢; have HB0 : Hid (Below Va2.heap.size Va2 W0) := (by rw [← hW0]; exact Below.drew (Below.refl _ _)); clear hW0
  refine wpAnyL_ready (rs := [9]) (by kernel_rfl) (by simp) ?_
  refine AllReadyL.cons (o := Ze1) rfl (fun K hK => ?_) AllReadyL.nil
  delta Ze1
  go_simp
  (refine (rdown_any _ _ _ (by omega) (by omega) (by omega)).mono ?_; rintro e W1 ⟨rfl, hw⟩; have HB1 : Hid (Below Va2.heap.size Va2 W1) := (by rw [← hw]; exact HB0.out); clear hw; rw [HP.out])
  refine hK.out _ _ ?_ (fun hHeld => ?_)
  · (try dsimp only); (exact HSV.out _ HB1.out)
  clear hK K
  try simp only [Ze1, ksz]
  refine tL 10 Ze2 ?_ ?_ ?_
  rotate_left
  · ((intro w hSw; delta Ze2; (try dsimp only at hSw); go_simp) <;> with_reducible rfl)
  try simp only [Ze2, ksz]
  refine wpAnyL_ready (rs := [20]) (by kernel_rfl) (by simp) ?_
  refine AllReadyL.cons (o := Zec) rfl (fun K hK => ?_) AllReadyL.nil
  delta Zec
  go_simp
  (refine (rup_any _ _ _ (by omega) (by omega) (by omega)).mono ?_; rintro e W2 ⟨rfl, hw⟩; have HB2 : Hid (Below Va2.heap.size Va2 W2) := (by rw [← hw]; exact HB1.out); clear hw; rw [HQ.out])
  refine hK.out _ _ ?_ (fun hHeld => ?_)
  · (try dsimp only); (exact HSV.out _ HB2.out)
  clear hK K
  try simp only [Zec, ksz]
  refine tL 21 Zed ?_ ?_ ?_
  rotate_left
  · ((intro w hSw; delta Zed; (try dsimp only at hSw); go_simp) <;> with_reducible rfl)
  try simp only [Zed, ksz]
  refine tL 22 Zee ?_ ?_ ?_
  rotate_left
  · ((intro w hSw; delta Zee; (try dsimp only at hSw); go_simp) <;> with_reducible rfl)
  try simp only [Zee, ksz]
  have Gb3 := Lib.hid (Hb3.out.below HB2.out Hb3.out.lt); have Gb4 := Lib.hid (Hb4.out.below HB2.out Hb4.out.lt); have Gb5 := Lib.hid (Hb5.out.below HB2.out Hb5.out.lt); have Gb6 := Lib.hid (Hb6.out.below HB2.out Hb6.out.lt); have GHB := Lib.hid (HB.out.trans (HB2.out.mono HB.out.size)); clear Hb3 Hb4 Hb5 Hb6 HB; have Hb3 := Gb3; clear Gb3; have Hb4 := Gb4; clear Gb4; have Hb5 := Gb5; clear Gb5; have Hb6 := Gb6; clear Gb6; have HB := GHB; clear GHB; have cR0 := Hb6.out.cell 0; have zR0 := Hb6.out.frozen 0; have cR1 := Hb6.out.cell 1; have zR1 := Hb6.out.frozen 1; simp only [List.getElem?_toArray, List.getElem?_cons_zero, List.getElem?_cons_succ] at cR0 cR1
  refine wpAnyL_ready (rs := [23]) (by kernel_rfl) (by simp) ?_
  refine AllReadyL.gate (o := Zef) rfl (by kernel_rfl) (fun K hK => ?_) AllReadyL.nil
  delta Zef
  go_simp
  refine hK.out _ _ ?_
  clear hK K
  try simp only [Zef, ksz]
  obtain ⟨Va3, hV⟩ : ∃ V, (W2.setCell ⟨b6, 0, none⟩ (.int .i64 (z1 + P))).setCell ⟨b6, 1, none⟩ (.int .i64 (z2 + Q)) = V := ⟨_, rfl⟩; replace Hb3 : Hid (Blk Va3 b3 40 #[.int .i64 (d1), .int .i64 (d2), .int .i64 (l1), .int .i64 (l2)]) := (by rw [← hV]; exact ((Hb3.out.far_ (p := ⟨b6, 0, none⟩) nb3b6 _).far_ (p := ⟨b6, 1, none⟩) nb3b6 _)); replace Hb4 : Hid (Blk Va3 b4 26 #[.int .i64 (z1), .int .i64 (z2)]) := (by rw [← hV]; exact ((Hb4.out.far_ (p := ⟨b6, 0, none⟩) nb4b6 _).far_ (p := ⟨b6, 1, none⟩) nb4b6 _)); replace Hb5 : Hid (Blk Va3 b5 26 #[.int .i64 (s1), .int .i64 (s2)]) := (by rw [← hV]; exact ((Hb5.out.far_ (p := ⟨b6, 0, none⟩) nb5b6 _).far_ (p := ⟨b6, 1, none⟩) nb5b6 _)); replace Hb6 : Hid (Blk Va3 b6 26 #[.int .i64 (z1 + P), .int .i64 (z2 + Q)]) := (by rw [← hV]; exact ((Hb6.out.set_ 0 (.int .i64 (z1 + P))).set_ 1 (.int .i64 (z2 + Q)))); replace HB : Hid (Below w.heap.size w Va3) := (by rw [← hV]; exact ((HB.out.setCell (p := ⟨b6, 0, none⟩) gb6 _).setCell (p := ⟨b6, 1, none⟩) gb6 _)); rw [hV]; clear hV cR0 zR0 cR1 zR1
  refine wpAnyL_done (by kernel_rfl) ?_ _
  refine NoPanic.normal ?_
  clear HSV k0
  clear hHeld HB0 HB1 HB2
  have cb60 := kcl0 Hb6
  have cb61 := kcl1 Hb6
  go_wp2
  refine bodyPost_ret (v := .agg #[.int .i64 (z1 + P), .int .i64 (z2 + Q)]) (by simp [results, Tryd.results79, go_sem, cb60, cb61]) rfl ⟨rfl, HB.out⟩
 ·
  have m1 := lag_rng (a := l2) (x := s1 - z1) (by omega) (by omega)
  have m2 := lag_rng (a := l2) (x := s2 - z2) (by omega) (by omega)
  have e1 : IntKind.i64.wrap (l2 * (s1 - z1)) = l2 * (s1 - z1) := IntWalk.i64_in _ (by omega)
  have e2 : IntKind.i64.wrap (l2 * (s2 - z2)) = l2 * (s2 - z2) := IntWalk.i64_in _ (by omega)
  have hv : stepZ (l1, l2) (z1, z2) (s1, s2) = (z1 + l2 * (s1 - z1) / 1024, z2 + upQ (l2 * (s2 - z2)) 1024) := by unfold stepZ; simp only; rw [if_pos h1, if_neg h2]
  rw [hv]
  simp only
  have q1 : -4100000000000000 ≤ l2 * (s1 - z1) / 1024 ∧ l2 * (s1 - z1) / 1024 ≤ 4100000000000000 := by omega
  have q2 : -4100000000000001 ≤ upQ (l2 * (s2 - z2)) 1024 ∧ upQ (l2 * (s2 - z2)) 1024 ≤ 4100000000000001 := by unfold upQ; omega
  obtain ⟨P, hP⟩ : ∃ x, l2 * (s1 - z1) / 1024 = x := ⟨_, rfl⟩
  obtain ⟨Q, hQ⟩ : ∃ x, upQ (l2 * (s2 - z2)) 1024 = x := ⟨_, rfl⟩
  rw [hP] at q1 ⊢
  rw [hQ] at q2 ⊢
  have HP := Lib.hid hP
  have HQ := Lib.hid hQ
  clear hP hQ hv
  have wr0 : IntKind.i64.wrap (s1 - z1) = s1 - z1 := IntWalk.i64_in _ (by omega)
  have wr1 : IntKind.i64.wrap (s2 - z2) = s2 - z2 := IntWalk.i64_in _ (by omega)
  have wr2 : IntKind.i64.wrap (z1 + P) = z1 + P := IntWalk.i64_in _ (by omega)
  have wr3 : IntKind.i64.wrap (z2 + Q) = z2 + Q := IntWalk.i64_in _ (by omega)
  go_enter Tryd.func79, Tryd.ntmps79
  go_upto_region 1 with (fail)
  obtain ⟨Va1, hV⟩ : ∃ V, (((w.alloc (.cells #[.int .i64 (d1), .int .i64 (d2), .int .i64 (l1), .int .i64 (l2)] 40)).alloc (.cells #[.int .i64 (z1), .int .i64 (z2)] 26)).alloc (.cells #[.int .i64 (s1), .int .i64 (s2)] 26)).alloc (.cells #[.int .i64 (0), .int .i64 (0)] 26) = V := ⟨_, rfl⟩
  have Kb3 : Hid (Blk Va1 (w.heap.size) 40 #[.int .i64 (d1), .int .i64 (d2), .int .i64 (l1), .int .i64 (l2)]) := by rw [← hV]; exact (((Blk.new' _ _ _ (by simp)).alloc _).alloc _).alloc _
  have Kb4 : Hid (Blk Va1 (w.heap.size + 1) 26 #[.int .i64 (z1), .int .i64 (z2)]) := by rw [← hV]; exact ((Blk.new' _ _ _ (by simp)).alloc _).alloc _
  have Kb5 : Hid (Blk Va1 (w.heap.size + 1 + 1) 26 #[.int .i64 (s1), .int .i64 (s2)]) := by rw [← hV]; exact (Blk.new' _ _ _ (by simp)).alloc _
  have Kb6 : Hid (Blk Va1 (w.heap.size + 1 + 1 + 1) 26 #[.int .i64 (0), .int .i64 (0)]) := by rw [← hV]; exact Blk.new' _ _ _ (by simp)
  have GHB : Hid (Below w.heap.size w Va1) := by rw [← hV]; exact (by repeat (first | exact Below.refl _ _ | assumption | refine Below.drew ?_ | refine Below.drewN' ?_ _ | (refine Below.alloc ?_ (by simp <;> omega) _) | (refine Below.setCell ?_ (by simp <;> omega) _)))
  have HZ : Hid (Below w.heap.size w Va1) := GHB
  rw [hV]
  clear hV HZ
  have HB := GHB
  clear GHB
  obtain ⟨b6, hqb6⟩ : ∃ b, w.heap.size + 1 + 1 + 1 = b := ⟨_, rfl⟩
  obtain ⟨b5, hqb5⟩ : ∃ b, w.heap.size + 1 + 1 = b := ⟨_, rfl⟩
  obtain ⟨b4, hqb4⟩ : ∃ b, w.heap.size + 1 = b := ⟨_, rfl⟩
  obtain ⟨b3, hqb3⟩ : ∃ b, w.heap.size = b := ⟨_, rfl⟩
  have gb3 : w.heap.size ≤ b3 := by omega
  have gb4 : w.heap.size ≤ b4 := by omega
  have nb4b3 : ¬ b4 = b3 := by omega
  have nb3b4 : ¬ b3 = b4 := by omega
  have gb5 : w.heap.size ≤ b5 := by omega
  have nb5b3 : ¬ b5 = b3 := by omega
  have nb3b5 : ¬ b3 = b5 := by omega
  have nb5b4 : ¬ b5 = b4 := by omega
  have nb4b5 : ¬ b4 = b5 := by omega
  have gb6 : w.heap.size ≤ b6 := by omega
  have nb6b3 : ¬ b6 = b3 := by omega
  have nb3b6 : ¬ b3 = b6 := by omega
  have nb6b4 : ¬ b6 = b4 := by omega
  have nb4b6 : ¬ b4 = b6 := by omega
  have nb6b5 : ¬ b6 = b5 := by omega
  have nb5b6 : ¬ b5 = b6 := by omega
  rw [hqb6] at Kb6 ⊢
  clear hqb6
  rw [hqb5] at Kb5 ⊢
  clear hqb5
  rw [hqb4] at Kb4 ⊢
  clear hqb4
  have HN : Hid (w.heap.size = b3) := hqb3
  rw [hqb3] at Kb3 ⊢
  clear hqb3
  have Hb3 := Kb3
  clear Kb3
  have Hb4 := Kb4
  clear Kb4
  have Hb5 := Kb5
  clear Kb5
  have Hb6 := Kb6
  clear Kb6
  have HSV : Hid (∀ U, Below Va1.heap.size Va1 U → U.cell? ⟨b3, 0, none⟩ = some (.int .i64 (d1)) ∧ U.cell? ⟨b3, 1, none⟩ = some (.int .i64 (d2)) ∧ U.cell? ⟨b3, 2, none⟩ = some (.int .i64 (l1)) ∧ U.cell? ⟨b3, 3, none⟩ = some (.int .i64 (l2))) := fun U hU => by
   have kb3 := Hb3.out.below hU Hb3.out.lt
   exact ⟨kb3.cell 0, kb3.cell 1, kb3.cell 2, kb3.cell 3⟩
  have k0 := HSV.out _ (Below.drew (Below.refl Va1.heap.size Va1))
  refine wp_region_noPanic ?_
  refine wp_region_held_drew (S := (fun w' => w'.cell? ⟨b3, 0, none⟩ = some (.int .i64 (d1)) ∧ w'.cell? ⟨b3, 1, none⟩ = some (.int .i64 (d2)) ∧ w'.cell? ⟨b3, 2, none⟩ = some (.int .i64 (l1)) ∧ w'.cell? ⟨b3, 3, none⟩ = some (.int .i64 (l2)))) (by kernel_rfl) ?_ (fun hHeld => ?_)
  · (try dsimp only); (exact k0)
  refine tH 0 Zdk ?_ ?_ ?_
  rotate_left
  · ((intro w hSw; delta Zdk; (try dsimp only at hSw); go_simp) <;> with_reducible rfl)
  try simp only [Zdk, ksz]
  refine tH 3 Zdn ?_ ?_ ?_
  rotate_left
  · ((intro w hSw; delta Zdn; (try dsimp only at hSw); go_simp) <;> with_reducible rfl)
  try simp only [Zdn, ksz]
  refine tH 1 Zdl ?_ ?_ ?_
  rotate_left
  · ((intro w hSw; delta Zdl; (try dsimp only at hSw); go_simp) <;> with_reducible rfl)
  try simp only [Zdl, ksz]
  refine tH 4 Zdo ?_ ?_ ?_
  rotate_left
  · ((intro w hSw; delta Zdo; (try dsimp only at hSw); go_simp) <;> with_reducible rfl)
  try simp only [Zdo, ksz]
  refine tH 2 Zdm ?_ ?_ ?_
  rotate_left
  · ((intro w hSw; delta Zdm; (try dsimp only at hSw); go_simp) <;> with_reducible rfl)
  try simp only [Zdm, ksz]
  refine tH 5 Zdp ?_ ?_ ?_
  rotate_left
  · ((intro w hSw; delta Zdp; (try dsimp only at hSw); go_simp) <;> with_reducible rfl)
  try simp only [Zdp, ksz]
  refine tH 6 Zdq ?_ ?_ ?_
  rotate_left
  · ((intro w hSw; delta Zdq; (try dsimp only at hSw); go_simp) <;> with_reducible rfl)
  try simp only [Zdq, ksz]
  refine tH 7 Zdr ?_ ?_ ?_
  rotate_left
  · ((intro w hSw; delta Zdr; (try dsimp only at hSw); go_simp) <;> with_reducible rfl)
  try simp only [Zdr, ksz]
  obtain ⟨W0, hW0⟩ : ∃ V, Va1.drew = V := ⟨_, rfl⟩; rw [hW0] at hHeld ⊢; have HB0 : Hid (Below Va1.heap.size Va1 W0) := (by rw [← hW0]; exact Below.drew (Below.refl _ _)); clear hW0
  refine wpAnyH_done (by kernel_rfl) ?_ _
  refine NoPanic.normal ?_
  clear HSV k0
  clear hHeld
  obtain ⟨Va2, hVU⟩ : ∃ V, W0 = V := ⟨_, rfl⟩
  rw [hVU] at HB0 ⊢
  have HZ := HB0
  clear HB0 hVU
  replace Hb3 := kbl Hb3 HZ
  replace Hb4 := kbl Hb4 HZ
  replace Hb5 := kbl Hb5 HZ
  replace Hb6 := kbl Hb6 HZ
  replace HB := ktr' HB HZ
  clear HZ
  have cb30 := kcl0 Hb3
  have cb31 := kcl1 Hb3
  have cb32 := kcl2 Hb3
  have cb33 := kcl3 Hb3
  have cb40 := kcl0 Hb4
  have cb41 := kcl1 Hb4
  have cb50 := kcl0 Hb5
  have cb51 := kcl1 Hb5
  go_upto_region 6 with (fail)
  clear cb30 cb31 cb32 cb33 cb40 cb41 cb50 cb51
  have HSV : Hid (∀ U, Below Va2.heap.size Va2 U → U.cell? ⟨b4, 0, none⟩ = some (.int .i64 (z1)) ∧ U.cell? ⟨b4, 1, none⟩ = some (.int .i64 (z2)) ∧ U.cell? ⟨b5, 0, none⟩ = some (.int .i64 (s1)) ∧ U.cell? ⟨b5, 1, none⟩ = some (.int .i64 (s2))) := fun U hU => by
   have kb4 := Hb4.out.below hU Hb4.out.lt
   have kb5 := Hb5.out.below hU Hb5.out.lt
   exact ⟨kb4.cell 0, kb4.cell 1, kb5.cell 0, kb5.cell 1⟩
  have k0 := HSV.out _ (Below.drew (Below.refl Va2.heap.size Va2))
  refine wp_region_noPanic ?_
  refine wp_region_L (S := (fun w' => w'.cell? ⟨b4, 0, none⟩ = some (.int .i64 (z1)) ∧ w'.cell? ⟨b4, 1, none⟩ = some (.int .i64 (z2)) ∧ w'.cell? ⟨b5, 0, none⟩ = some (.int .i64 (s1)) ∧ w'.cell? ⟨b5, 1, none⟩ = some (.int .i64 (s2)))) (ks := [23]) (by kernel_rfl) ?_ (fun hHeld => ?_)
  · (try dsimp only); (exact k0)
  refine tL 0 Zds ?_ ?_ ?_
  rotate_left
  · ((intro w hSw; delta Zds; (try dsimp only at hSw); go_simp) <;> with_reducible rfl)
  try simp only [Zds, ksz]
  refine tL 2 Zdu ?_ ?_ ?_
  rotate_left
  · ((intro w hSw; delta Zdu; (try dsimp only at hSw); go_simp) <;> with_reducible rfl)
  try simp only [Zdu, ksz]
  refine tL 3 Zdv ?_ ?_ ?_
  rotate_left
  · ((intro w hSw; delta Zdv; (try dsimp only at hSw); go_simp) <;> with_reducible rfl)
  try simp only [Zdv, ksz]
  refine tL 5 Zdx ?_ ?_ ?_
  rotate_left
  · ((intro w hSw; delta Zdx; (try dsimp only at hSw); go_simp) <;> with_reducible rfl)
  try simp only [Zdx, ksz]
  refine tL 11 Ze3 ?_ ?_ ?_
  rotate_left
  · ((intro w hSw; delta Ze3; (try dsimp only at hSw); go_simp) <;> with_reducible rfl)
  try simp only [Ze3, ksz]
  refine tL 13 Ze5 ?_ ?_ ?_
  rotate_left
  · ((intro w hSw; delta Ze5; (try dsimp only at hSw); go_simp) <;> with_reducible rfl)
  try simp only [Ze5, ksz]
  refine tL 14 Ze6 ?_ ?_ ?_
  rotate_left
  · ((intro w hSw; delta Ze6; (try dsimp only at hSw); go_simp) <;> with_reducible rfl)
  try simp only [Ze6, ksz]
  refine tL 16 Ze8 ?_ ?_ ?_
  rotate_left
  · ((intro w hSw; delta Ze8; (try dsimp only at hSw); go_simp) <;> with_reducible rfl)
  try simp only [Ze8, ksz]
  refine tL 1 Zdt ?_ ?_ ?_
  rotate_left
  · ((intro w hSw; delta Zdt; (try dsimp only at hSw); go_simp) <;> with_reducible rfl)
  try simp only [Zdt, ksz]
  refine tL 4 Zdw ?_ ?_ ?_
  rotate_left
  · ((intro w hSw; delta Zdw; (try dsimp only at hSw); go_simp) <;> with_reducible rfl)
  try simp only [Zdw, ksz]
  refine tL 6 Zdy ?_ ?_ ?_
  rotate_left
  · ((intro w hSw; delta Zdy; (try dsimp only at hSw); go_simp) <;> with_reducible rfl)
  try simp only [Zdy, ksz]
  refine tL 12 Ze4 ?_ ?_ ?_
  rotate_left
  · ((intro w hSw; delta Ze4; (try dsimp only at hSw); go_simp) <;> with_reducible rfl)
  try simp only [Ze4, ksz]
  refine tL 15 Ze7 ?_ ?_ ?_
  rotate_left
  · ((intro w hSw; delta Ze7; (try dsimp only at hSw); go_simp) <;> with_reducible rfl)
  try simp only [Ze7, ksz]
  refine tL 17 Ze9 ?_ ?_ ?_
  rotate_left
  · ((intro w hSw; delta Ze9; (try dsimp only at hSw); go_simp) <;> with_reducible rfl)
  try simp only [Ze9, ksz]
  refine tL 7 Zdz ?_ ?_ ?_
  rotate_left
  · ((intro w hSw; delta Zdz; (try dsimp only at hSw); go_simp) <;> with_reducible rfl)
  try simp only [Zdz, ksz]
  refine tL 18 Zea ?_ ?_ ?_
  rotate_left
  · ((intro w hSw; delta Zea; (try dsimp only at hSw); go_simp) <;> with_reducible rfl)
  try simp only [Zea, ksz]
  refine tL 8 Ze0 ?_ ?_ ?_
  rotate_left
  · ((intro w hSw; delta Ze0; (try dsimp only at hSw); go_simp) <;> with_reducible rfl)
  try simp only [Ze0, ksz]
  refine tL 19 Zeb ?_ ?_ ?_
  rotate_left
  · ((intro w hSw; delta Zeb; (try dsimp only at hSw); go_simp) <;> with_reducible rfl)
  try simp only [Zeb, ksz]
  obtain ⟨W0, hW0⟩ : ∃ V, Va2.drew = V := ⟨_, rfl⟩; rw [hW0] at hHeld ⊢; have HB0 : Hid (Below Va2.heap.size Va2 W0) := (by rw [← hW0]; exact Below.drew (Below.refl _ _)); clear hW0
  refine wpAnyL_ready (rs := [9]) (by kernel_rfl) (by simp) ?_
  refine AllReadyL.cons (o := Ze1) rfl (fun K hK => ?_) AllReadyL.nil
  delta Ze1
  go_simp
  (refine (rdown_any _ _ _ (by omega) (by omega) (by omega)).mono ?_; rintro e W1 ⟨rfl, hw⟩; have HB1 : Hid (Below Va2.heap.size Va2 W1) := (by rw [← hw]; exact HB0.out); clear hw; rw [HP.out])
  refine hK.out _ _ ?_ (fun hHeld => ?_)
  · (try dsimp only); (exact HSV.out _ HB1.out)
  clear hK K
  try simp only [Ze1, ksz]
  refine tL 10 Ze2 ?_ ?_ ?_
  rotate_left
  · ((intro w hSw; delta Ze2; (try dsimp only at hSw); go_simp) <;> with_reducible rfl)
  try simp only [Ze2, ksz]
  refine wpAnyL_ready (rs := [20]) (by kernel_rfl) (by simp) ?_
  refine AllReadyL.cons (o := Zec) rfl (fun K hK => ?_) AllReadyL.nil
  delta Zec
  go_simp
  (refine (rup_any _ _ _ (by omega) (by omega) (by omega)).mono ?_; rintro e W2 ⟨rfl, hw⟩; have HB2 : Hid (Below Va2.heap.size Va2 W2) := (by rw [← hw]; exact HB1.out); clear hw; rw [HQ.out])
  refine hK.out _ _ ?_ (fun hHeld => ?_)
  · (try dsimp only); (exact HSV.out _ HB2.out)
  clear hK K
  try simp only [Zec, ksz]
  refine tL 21 Zed ?_ ?_ ?_
  rotate_left
  · ((intro w hSw; delta Zed; (try dsimp only at hSw); go_simp) <;> with_reducible rfl)
  try simp only [Zed, ksz]
  refine tL 22 Zee ?_ ?_ ?_
  rotate_left
  · ((intro w hSw; delta Zee; (try dsimp only at hSw); go_simp) <;> with_reducible rfl)
  try simp only [Zee, ksz]
  have Gb3 := Lib.hid (Hb3.out.below HB2.out Hb3.out.lt); have Gb4 := Lib.hid (Hb4.out.below HB2.out Hb4.out.lt); have Gb5 := Lib.hid (Hb5.out.below HB2.out Hb5.out.lt); have Gb6 := Lib.hid (Hb6.out.below HB2.out Hb6.out.lt); have GHB := Lib.hid (HB.out.trans (HB2.out.mono HB.out.size)); clear Hb3 Hb4 Hb5 Hb6 HB; have Hb3 := Gb3; clear Gb3; have Hb4 := Gb4; clear Gb4; have Hb5 := Gb5; clear Gb5; have Hb6 := Gb6; clear Gb6; have HB := GHB; clear GHB; have cR0 := Hb6.out.cell 0; have zR0 := Hb6.out.frozen 0; have cR1 := Hb6.out.cell 1; have zR1 := Hb6.out.frozen 1; simp only [List.getElem?_toArray, List.getElem?_cons_zero, List.getElem?_cons_succ] at cR0 cR1
  refine wpAnyL_ready (rs := [23]) (by kernel_rfl) (by simp) ?_
  refine AllReadyL.gate (o := Zef) rfl (by kernel_rfl) (fun K hK => ?_) AllReadyL.nil
  delta Zef
  go_simp
  refine hK.out _ _ ?_
  clear hK K
  try simp only [Zef, ksz]
  obtain ⟨Va3, hV⟩ : ∃ V, (W2.setCell ⟨b6, 0, none⟩ (.int .i64 (z1 + P))).setCell ⟨b6, 1, none⟩ (.int .i64 (z2 + Q)) = V := ⟨_, rfl⟩; replace Hb3 : Hid (Blk Va3 b3 40 #[.int .i64 (d1), .int .i64 (d2), .int .i64 (l1), .int .i64 (l2)]) := (by rw [← hV]; exact ((Hb3.out.far_ (p := ⟨b6, 0, none⟩) nb3b6 _).far_ (p := ⟨b6, 1, none⟩) nb3b6 _)); replace Hb4 : Hid (Blk Va3 b4 26 #[.int .i64 (z1), .int .i64 (z2)]) := (by rw [← hV]; exact ((Hb4.out.far_ (p := ⟨b6, 0, none⟩) nb4b6 _).far_ (p := ⟨b6, 1, none⟩) nb4b6 _)); replace Hb5 : Hid (Blk Va3 b5 26 #[.int .i64 (s1), .int .i64 (s2)]) := (by rw [← hV]; exact ((Hb5.out.far_ (p := ⟨b6, 0, none⟩) nb5b6 _).far_ (p := ⟨b6, 1, none⟩) nb5b6 _)); replace Hb6 : Hid (Blk Va3 b6 26 #[.int .i64 (z1 + P), .int .i64 (z2 + Q)]) := (by rw [← hV]; exact ((Hb6.out.set_ 0 (.int .i64 (z1 + P))).set_ 1 (.int .i64 (z2 + Q)))); replace HB : Hid (Below w.heap.size w Va3) := (by rw [← hV]; exact ((HB.out.setCell (p := ⟨b6, 0, none⟩) gb6 _).setCell (p := ⟨b6, 1, none⟩) gb6 _)); rw [hV]; clear hV cR0 zR0 cR1 zR1
  refine wpAnyL_done (by kernel_rfl) ?_ _
  refine NoPanic.normal ?_
  clear HSV k0
  clear hHeld HB0 HB1 HB2
  have cb60 := kcl0 Hb6
  have cb61 := kcl1 Hb6
  go_wp2
  refine bodyPost_ret (v := .agg #[.int .i64 (z1 + P), .int .i64 (z2 + Q)]) (by simp [results, Tryd.results79, go_sem, cb60, cb61]) rfl ⟨rfl, HB.out⟩
 ·
  have m1 := lag_rng (a := l1) (x := s1 - z1) (by omega) (by omega)
  have m2 := lag_rng (a := l1) (x := s2 - z2) (by omega) (by omega)
  have e1 : IntKind.i64.wrap (l1 * (s1 - z1)) = l1 * (s1 - z1) := IntWalk.i64_in _ (by omega)
  have e2 : IntKind.i64.wrap (l1 * (s2 - z2)) = l1 * (s2 - z2) := IntWalk.i64_in _ (by omega)
  have hv : stepZ (l1, l2) (z1, z2) (s1, s2) = (z1 + l1 * (s1 - z1) / 1024, z2 + upQ (l1 * (s2 - z2)) 1024) := by unfold stepZ; simp only; rw [if_neg h1, if_pos h2]
  rw [hv]
  simp only
  have q1 : -4100000000000000 ≤ l1 * (s1 - z1) / 1024 ∧ l1 * (s1 - z1) / 1024 ≤ 4100000000000000 := by omega
  have q2 : -4100000000000001 ≤ upQ (l1 * (s2 - z2)) 1024 ∧ upQ (l1 * (s2 - z2)) 1024 ≤ 4100000000000001 := by unfold upQ; omega
  obtain ⟨P, hP⟩ : ∃ x, l1 * (s1 - z1) / 1024 = x := ⟨_, rfl⟩
  obtain ⟨Q, hQ⟩ : ∃ x, upQ (l1 * (s2 - z2)) 1024 = x := ⟨_, rfl⟩
  rw [hP] at q1 ⊢
  rw [hQ] at q2 ⊢
  have HP := Lib.hid hP
  have HQ := Lib.hid hQ
  clear hP hQ hv
  have wr0 : IntKind.i64.wrap (s1 - z1) = s1 - z1 := IntWalk.i64_in _ (by omega)
  have wr1 : IntKind.i64.wrap (s2 - z2) = s2 - z2 := IntWalk.i64_in _ (by omega)
  have wr2 : IntKind.i64.wrap (z1 + P) = z1 + P := IntWalk.i64_in _ (by omega)
  have wr3 : IntKind.i64.wrap (z2 + Q) = z2 + Q := IntWalk.i64_in _ (by omega)
  go_enter Tryd.func79, Tryd.ntmps79
  go_upto_region 1 with (fail)
  obtain ⟨Va1, hV⟩ : ∃ V, (((w.alloc (.cells #[.int .i64 (d1), .int .i64 (d2), .int .i64 (l1), .int .i64 (l2)] 40)).alloc (.cells #[.int .i64 (z1), .int .i64 (z2)] 26)).alloc (.cells #[.int .i64 (s1), .int .i64 (s2)] 26)).alloc (.cells #[.int .i64 (0), .int .i64 (0)] 26) = V := ⟨_, rfl⟩
  have Kb3 : Hid (Blk Va1 (w.heap.size) 40 #[.int .i64 (d1), .int .i64 (d2), .int .i64 (l1), .int .i64 (l2)]) := by rw [← hV]; exact (((Blk.new' _ _ _ (by simp)).alloc _).alloc _).alloc _
  have Kb4 : Hid (Blk Va1 (w.heap.size + 1) 26 #[.int .i64 (z1), .int .i64 (z2)]) := by rw [← hV]; exact ((Blk.new' _ _ _ (by simp)).alloc _).alloc _
  have Kb5 : Hid (Blk Va1 (w.heap.size + 1 + 1) 26 #[.int .i64 (s1), .int .i64 (s2)]) := by rw [← hV]; exact (Blk.new' _ _ _ (by simp)).alloc _
  have Kb6 : Hid (Blk Va1 (w.heap.size + 1 + 1 + 1) 26 #[.int .i64 (0), .int .i64 (0)]) := by rw [← hV]; exact Blk.new' _ _ _ (by simp)
  have GHB : Hid (Below w.heap.size w Va1) := by rw [← hV]; exact (by repeat (first | exact Below.refl _ _ | assumption | refine Below.drew ?_ | refine Below.drewN' ?_ _ | (refine Below.alloc ?_ (by simp <;> omega) _) | (refine Below.setCell ?_ (by simp <;> omega) _)))
  have HZ : Hid (Below w.heap.size w Va1) := GHB
  rw [hV]
  clear hV HZ
  have HB := GHB
  clear GHB
  obtain ⟨b6, hqb6⟩ : ∃ b, w.heap.size + 1 + 1 + 1 = b := ⟨_, rfl⟩
  obtain ⟨b5, hqb5⟩ : ∃ b, w.heap.size + 1 + 1 = b := ⟨_, rfl⟩
  obtain ⟨b4, hqb4⟩ : ∃ b, w.heap.size + 1 = b := ⟨_, rfl⟩
  obtain ⟨b3, hqb3⟩ : ∃ b, w.heap.size = b := ⟨_, rfl⟩
  have gb3 : w.heap.size ≤ b3 := by omega
  have gb4 : w.heap.size ≤ b4 := by omega
  have nb4b3 : ¬ b4 = b3 := by omega
  have nb3b4 : ¬ b3 = b4 := by omega
  have gb5 : w.heap.size ≤ b5 := by omega
  have nb5b3 : ¬ b5 = b3 := by omega
  have nb3b5 : ¬ b3 = b5 := by omega
  have nb5b4 : ¬ b5 = b4 := by omega
  have nb4b5 : ¬ b4 = b5 := by omega
  have gb6 : w.heap.size ≤ b6 := by omega
  have nb6b3 : ¬ b6 = b3 := by omega
  have nb3b6 : ¬ b3 = b6 := by omega
  have nb6b4 : ¬ b6 = b4 := by omega
  have nb4b6 : ¬ b4 = b6 := by omega
  have nb6b5 : ¬ b6 = b5 := by omega
  have nb5b6 : ¬ b5 = b6 := by omega
  rw [hqb6] at Kb6 ⊢
  clear hqb6
  rw [hqb5] at Kb5 ⊢
  clear hqb5
  rw [hqb4] at Kb4 ⊢
  clear hqb4
  have HN : Hid (w.heap.size = b3) := hqb3
  rw [hqb3] at Kb3 ⊢
  clear hqb3
  have Hb3 := Kb3
  clear Kb3
  have Hb4 := Kb4
  clear Kb4
  have Hb5 := Kb5
  clear Kb5
  have Hb6 := Kb6
  clear Kb6
  have HSV : Hid (∀ U, Below Va1.heap.size Va1 U → U.cell? ⟨b3, 0, none⟩ = some (.int .i64 (d1)) ∧ U.cell? ⟨b3, 1, none⟩ = some (.int .i64 (d2)) ∧ U.cell? ⟨b3, 2, none⟩ = some (.int .i64 (l1)) ∧ U.cell? ⟨b3, 3, none⟩ = some (.int .i64 (l2))) := fun U hU => by
   have kb3 := Hb3.out.below hU Hb3.out.lt
   exact ⟨kb3.cell 0, kb3.cell 1, kb3.cell 2, kb3.cell 3⟩
  have k0 := HSV.out _ (Below.drew (Below.refl Va1.heap.size Va1))
  refine wp_region_noPanic ?_
  refine wp_region_held_drew (S := (fun w' => w'.cell? ⟨b3, 0, none⟩ = some (.int .i64 (d1)) ∧ w'.cell? ⟨b3, 1, none⟩ = some (.int .i64 (d2)) ∧ w'.cell? ⟨b3, 2, none⟩ = some (.int .i64 (l1)) ∧ w'.cell? ⟨b3, 3, none⟩ = some (.int .i64 (l2)))) (by kernel_rfl) ?_ (fun hHeld => ?_)
  · (try dsimp only); (exact k0)
  refine tH 0 Zdk ?_ ?_ ?_
  rotate_left
  · ((intro w hSw; delta Zdk; (try dsimp only at hSw); go_simp) <;> with_reducible rfl)
  try simp only [Zdk, ksz]
  refine tH 3 Zdn ?_ ?_ ?_
  rotate_left
  · ((intro w hSw; delta Zdn; (try dsimp only at hSw); go_simp) <;> with_reducible rfl)
  try simp only [Zdn, ksz]
  refine tH 1 Zdl ?_ ?_ ?_
  rotate_left
  · ((intro w hSw; delta Zdl; (try dsimp only at hSw); go_simp) <;> with_reducible rfl)
  try simp only [Zdl, ksz]
  refine tH 4 Zdo ?_ ?_ ?_
  rotate_left
  · ((intro w hSw; delta Zdo; (try dsimp only at hSw); go_simp) <;> with_reducible rfl)
  try simp only [Zdo, ksz]
  refine tH 2 Zdm ?_ ?_ ?_
  rotate_left
  · ((intro w hSw; delta Zdm; (try dsimp only at hSw); go_simp) <;> with_reducible rfl)
  try simp only [Zdm, ksz]
  refine tH 5 Zdp ?_ ?_ ?_
  rotate_left
  · ((intro w hSw; delta Zdp; (try dsimp only at hSw); go_simp) <;> with_reducible rfl)
  try simp only [Zdp, ksz]
  refine tH 6 Zdq ?_ ?_ ?_
  rotate_left
  · ((intro w hSw; delta Zdq; (try dsimp only at hSw); go_simp) <;> with_reducible rfl)
  try simp only [Zdq, ksz]
  refine tH 7 Zdr ?_ ?_ ?_
  rotate_left
  · ((intro w hSw; delta Zdr; (try dsimp only at hSw); go_simp) <;> with_reducible rfl)
  try simp only [Zdr, ksz]
  obtain ⟨W0, hW0⟩ : ∃ V, Va1.drew = V := ⟨_, rfl⟩; rw [hW0] at hHeld ⊢; have HB0 : Hid (Below Va1.heap.size Va1 W0) := (by rw [← hW0]; exact Below.drew (Below.refl _ _)); clear hW0
  refine wpAnyH_done (by kernel_rfl) ?_ _
  refine NoPanic.normal ?_
  clear HSV k0
  clear hHeld
  obtain ⟨Va2, hVU⟩ : ∃ V, W0 = V := ⟨_, rfl⟩
  rw [hVU] at HB0 ⊢
  have HZ := HB0
  clear HB0 hVU
  replace Hb3 := kbl Hb3 HZ
  replace Hb4 := kbl Hb4 HZ
  replace Hb5 := kbl Hb5 HZ
  replace Hb6 := kbl Hb6 HZ
  replace HB := ktr' HB HZ
  clear HZ
  have cb30 := kcl0 Hb3
  have cb31 := kcl1 Hb3
  have cb32 := kcl2 Hb3
  have cb33 := kcl3 Hb3
  have cb40 := kcl0 Hb4
  have cb41 := kcl1 Hb4
  have cb50 := kcl0 Hb5
  have cb51 := kcl1 Hb5
  go_upto_region 6 with (fail)
  clear cb30 cb31 cb32 cb33 cb40 cb41 cb50 cb51
  have HSV : Hid (∀ U, Below Va2.heap.size Va2 U → U.cell? ⟨b4, 0, none⟩ = some (.int .i64 (z1)) ∧ U.cell? ⟨b4, 1, none⟩ = some (.int .i64 (z2)) ∧ U.cell? ⟨b5, 0, none⟩ = some (.int .i64 (s1)) ∧ U.cell? ⟨b5, 1, none⟩ = some (.int .i64 (s2))) := fun U hU => by
   have kb4 := Hb4.out.below hU Hb4.out.lt
   have kb5 := Hb5.out.below hU Hb5.out.lt
   exact ⟨kb4.cell 0, kb4.cell 1, kb5.cell 0, kb5.cell 1⟩
  have k0 := HSV.out _ (Below.drew (Below.refl Va2.heap.size Va2))
  refine wp_region_noPanic ?_
  refine wp_region_L (S := (fun w' => w'.cell? ⟨b4, 0, none⟩ = some (.int .i64 (z1)) ∧ w'.cell? ⟨b4, 1, none⟩ = some (.int .i64 (z2)) ∧ w'.cell? ⟨b5, 0, none⟩ = some (.int .i64 (s1)) ∧ w'.cell? ⟨b5, 1, none⟩ = some (.int .i64 (s2)))) (ks := [23]) (by kernel_rfl) ?_ (fun hHeld => ?_)
  · (try dsimp only); (exact k0)
  refine tL 0 Zds ?_ ?_ ?_
  rotate_left
  · ((intro w hSw; delta Zds; (try dsimp only at hSw); go_simp) <;> with_reducible rfl)
  try simp only [Zds, ksz]
  refine tL 2 Zdu ?_ ?_ ?_
  rotate_left
  · ((intro w hSw; delta Zdu; (try dsimp only at hSw); go_simp) <;> with_reducible rfl)
  try simp only [Zdu, ksz]
  refine tL 3 Zdv ?_ ?_ ?_
  rotate_left
  · ((intro w hSw; delta Zdv; (try dsimp only at hSw); go_simp) <;> with_reducible rfl)
  try simp only [Zdv, ksz]
  refine tL 5 Zdx ?_ ?_ ?_
  rotate_left
  · ((intro w hSw; delta Zdx; (try dsimp only at hSw); go_simp) <;> with_reducible rfl)
  try simp only [Zdx, ksz]
  refine tL 11 Ze3 ?_ ?_ ?_
  rotate_left
  · ((intro w hSw; delta Ze3; (try dsimp only at hSw); go_simp) <;> with_reducible rfl)
  try simp only [Ze3, ksz]
  refine tL 13 Ze5 ?_ ?_ ?_
  rotate_left
  · ((intro w hSw; delta Ze5; (try dsimp only at hSw); go_simp) <;> with_reducible rfl)
  try simp only [Ze5, ksz]
  refine tL 14 Ze6 ?_ ?_ ?_
  rotate_left
  · ((intro w hSw; delta Ze6; (try dsimp only at hSw); go_simp) <;> with_reducible rfl)
  try simp only [Ze6, ksz]
  refine tL 16 Ze8 ?_ ?_ ?_
  rotate_left
  · ((intro w hSw; delta Ze8; (try dsimp only at hSw); go_simp) <;> with_reducible rfl)
  try simp only [Ze8, ksz]
  refine tL 1 Zdt ?_ ?_ ?_
  rotate_left
  · ((intro w hSw; delta Zdt; (try dsimp only at hSw); go_simp) <;> with_reducible rfl)
  try simp only [Zdt, ksz]
  refine tL 4 Zdw ?_ ?_ ?_
  rotate_left
  · ((intro w hSw; delta Zdw; (try dsimp only at hSw); go_simp) <;> with_reducible rfl)
  try simp only [Zdw, ksz]
  refine tL 6 Zdy ?_ ?_ ?_
  rotate_left
  · ((intro w hSw; delta Zdy; (try dsimp only at hSw); go_simp) <;> with_reducible rfl)
  try simp only [Zdy, ksz]
  refine tL 12 Ze4 ?_ ?_ ?_
  rotate_left
  · ((intro w hSw; delta Ze4; (try dsimp only at hSw); go_simp) <;> with_reducible rfl)
  try simp only [Ze4, ksz]
  refine tL 15 Ze7 ?_ ?_ ?_
  rotate_left
  · ((intro w hSw; delta Ze7; (try dsimp only at hSw); go_simp) <;> with_reducible rfl)
  try simp only [Ze7, ksz]
  refine tL 17 Ze9 ?_ ?_ ?_
  rotate_left
  · ((intro w hSw; delta Ze9; (try dsimp only at hSw); go_simp) <;> with_reducible rfl)
  try simp only [Ze9, ksz]
  refine tL 7 Zdz ?_ ?_ ?_
  rotate_left
  · ((intro w hSw; delta Zdz; (try dsimp only at hSw); go_simp) <;> with_reducible rfl)
  try simp only [Zdz, ksz]
  refine tL 18 Zea ?_ ?_ ?_
  rotate_left
  · ((intro w hSw; delta Zea; (try dsimp only at hSw); go_simp) <;> with_reducible rfl)
  try simp only [Zea, ksz]
  refine tL 8 Ze0 ?_ ?_ ?_
  rotate_left
  · ((intro w hSw; delta Ze0; (try dsimp only at hSw); go_simp) <;> with_reducible rfl)
  try simp only [Ze0, ksz]
  refine tL 19 Zeb ?_ ?_ ?_
  rotate_left
  · ((intro w hSw; delta Zeb; (try dsimp only at hSw); go_simp) <;> with_reducible rfl)
  try simp only [Zeb, ksz]
  obtain ⟨W0, hW0⟩ : ∃ V, Va2.drew = V := ⟨_, rfl⟩; rw [hW0] at hHeld ⊢; have HB0 : Hid (Below Va2.heap.size Va2 W0) := (by rw [← hW0]; exact Below.drew (Below.refl _ _)); clear hW0
  refine wpAnyL_ready (rs := [9]) (by kernel_rfl) (by simp) ?_
  refine AllReadyL.cons (o := Ze1) rfl (fun K hK => ?_) AllReadyL.nil
  delta Ze1
  go_simp
  (refine (rdown_any _ _ _ (by omega) (by omega) (by omega)).mono ?_; rintro e W1 ⟨rfl, hw⟩; have HB1 : Hid (Below Va2.heap.size Va2 W1) := (by rw [← hw]; exact HB0.out); clear hw; rw [HP.out])
  refine hK.out _ _ ?_ (fun hHeld => ?_)
  · (try dsimp only); (exact HSV.out _ HB1.out)
  clear hK K
  try simp only [Ze1, ksz]
  refine tL 10 Ze2 ?_ ?_ ?_
  rotate_left
  · ((intro w hSw; delta Ze2; (try dsimp only at hSw); go_simp) <;> with_reducible rfl)
  try simp only [Ze2, ksz]
  refine wpAnyL_ready (rs := [20]) (by kernel_rfl) (by simp) ?_
  refine AllReadyL.cons (o := Zec) rfl (fun K hK => ?_) AllReadyL.nil
  delta Zec
  go_simp
  (refine (rup_any _ _ _ (by omega) (by omega) (by omega)).mono ?_; rintro e W2 ⟨rfl, hw⟩; have HB2 : Hid (Below Va2.heap.size Va2 W2) := (by rw [← hw]; exact HB1.out); clear hw; rw [HQ.out])
  refine hK.out _ _ ?_ (fun hHeld => ?_)
  · (try dsimp only); (exact HSV.out _ HB2.out)
  clear hK K
  try simp only [Zec, ksz]
  refine tL 21 Zed ?_ ?_ ?_
  rotate_left
  · ((intro w hSw; delta Zed; (try dsimp only at hSw); go_simp) <;> with_reducible rfl)
  try simp only [Zed, ksz]
  refine tL 22 Zee ?_ ?_ ?_
  rotate_left
  · ((intro w hSw; delta Zee; (try dsimp only at hSw); go_simp) <;> with_reducible rfl)
  try simp only [Zee, ksz]
  have Gb3 := Lib.hid (Hb3.out.below HB2.out Hb3.out.lt); have Gb4 := Lib.hid (Hb4.out.below HB2.out Hb4.out.lt); have Gb5 := Lib.hid (Hb5.out.below HB2.out Hb5.out.lt); have Gb6 := Lib.hid (Hb6.out.below HB2.out Hb6.out.lt); have GHB := Lib.hid (HB.out.trans (HB2.out.mono HB.out.size)); clear Hb3 Hb4 Hb5 Hb6 HB; have Hb3 := Gb3; clear Gb3; have Hb4 := Gb4; clear Gb4; have Hb5 := Gb5; clear Gb5; have Hb6 := Gb6; clear Gb6; have HB := GHB; clear GHB; have cR0 := Hb6.out.cell 0; have zR0 := Hb6.out.frozen 0; have cR1 := Hb6.out.cell 1; have zR1 := Hb6.out.frozen 1; simp only [List.getElem?_toArray, List.getElem?_cons_zero, List.getElem?_cons_succ] at cR0 cR1
  refine wpAnyL_ready (rs := [23]) (by kernel_rfl) (by simp) ?_
  refine AllReadyL.gate (o := Zef) rfl (by kernel_rfl) (fun K hK => ?_) AllReadyL.nil
  delta Zef
  go_simp
  refine hK.out _ _ ?_
  clear hK K
  try simp only [Zef, ksz]
  obtain ⟨Va3, hV⟩ : ∃ V, (W2.setCell ⟨b6, 0, none⟩ (.int .i64 (z1 + P))).setCell ⟨b6, 1, none⟩ (.int .i64 (z2 + Q)) = V := ⟨_, rfl⟩; replace Hb3 : Hid (Blk Va3 b3 40 #[.int .i64 (d1), .int .i64 (d2), .int .i64 (l1), .int .i64 (l2)]) := (by rw [← hV]; exact ((Hb3.out.far_ (p := ⟨b6, 0, none⟩) nb3b6 _).far_ (p := ⟨b6, 1, none⟩) nb3b6 _)); replace Hb4 : Hid (Blk Va3 b4 26 #[.int .i64 (z1), .int .i64 (z2)]) := (by rw [← hV]; exact ((Hb4.out.far_ (p := ⟨b6, 0, none⟩) nb4b6 _).far_ (p := ⟨b6, 1, none⟩) nb4b6 _)); replace Hb5 : Hid (Blk Va3 b5 26 #[.int .i64 (s1), .int .i64 (s2)]) := (by rw [← hV]; exact ((Hb5.out.far_ (p := ⟨b6, 0, none⟩) nb5b6 _).far_ (p := ⟨b6, 1, none⟩) nb5b6 _)); replace Hb6 : Hid (Blk Va3 b6 26 #[.int .i64 (z1 + P), .int .i64 (z2 + Q)]) := (by rw [← hV]; exact ((Hb6.out.set_ 0 (.int .i64 (z1 + P))).set_ 1 (.int .i64 (z2 + Q)))); replace HB : Hid (Below w.heap.size w Va3) := (by rw [← hV]; exact ((HB.out.setCell (p := ⟨b6, 0, none⟩) gb6 _).setCell (p := ⟨b6, 1, none⟩) gb6 _)); rw [hV]; clear hV cR0 zR0 cR1 zR1
  refine wpAnyL_done (by kernel_rfl) ?_ _
  refine NoPanic.normal ?_
  clear HSV k0
  clear hHeld HB0 HB1 HB2
  have cb60 := kcl0 Hb6
  have cb61 := kcl1 Hb6
  go_wp2
  refine bodyPost_ret (v := .agg #[.int .i64 (z1 + P), .int .i64 (z2 + Q)]) (by simp [results, Tryd.results79, go_sem, cb60, cb61]) rfl ⟨rfl, HB.out⟩
 ·
  have m1 := lag_rng (a := l1) (x := s1 - z1) (by omega) (by omega)
  have m2 := lag_rng (a := l2) (x := s2 - z2) (by omega) (by omega)
  have e1 : IntKind.i64.wrap (l1 * (s1 - z1)) = l1 * (s1 - z1) := IntWalk.i64_in _ (by omega)
  have e2 : IntKind.i64.wrap (l2 * (s2 - z2)) = l2 * (s2 - z2) := IntWalk.i64_in _ (by omega)
  have hv : stepZ (l1, l2) (z1, z2) (s1, s2) = (z1 + l1 * (s1 - z1) / 1024, z2 + upQ (l2 * (s2 - z2)) 1024) := by unfold stepZ; simp only; rw [if_neg h1, if_neg h2]
  rw [hv]
  simp only
  have q1 : -4100000000000000 ≤ l1 * (s1 - z1) / 1024 ∧ l1 * (s1 - z1) / 1024 ≤ 4100000000000000 := by omega
  have q2 : -4100000000000001 ≤ upQ (l2 * (s2 - z2)) 1024 ∧ upQ (l2 * (s2 - z2)) 1024 ≤ 4100000000000001 := by unfold upQ; omega
  obtain ⟨P, hP⟩ : ∃ x, l1 * (s1 - z1) / 1024 = x := ⟨_, rfl⟩
  obtain ⟨Q, hQ⟩ : ∃ x, upQ (l2 * (s2 - z2)) 1024 = x := ⟨_, rfl⟩
  rw [hP] at q1 ⊢
  rw [hQ] at q2 ⊢
  have HP := Lib.hid hP
  have HQ := Lib.hid hQ
  clear hP hQ hv
  have wr0 : IntKind.i64.wrap (s1 - z1) = s1 - z1 := IntWalk.i64_in _ (by omega)
  have wr1 : IntKind.i64.wrap (s2 - z2) = s2 - z2 := IntWalk.i64_in _ (by omega)
  have wr2 : IntKind.i64.wrap (z1 + P) = z1 + P := IntWalk.i64_in _ (by omega)
  have wr3 : IntKind.i64.wrap (z2 + Q) = z2 + Q := IntWalk.i64_in _ (by omega)
  go_enter Tryd.func79, Tryd.ntmps79
  go_upto_region 1 with (fail)
  obtain ⟨Va1, hV⟩ : ∃ V, (((w.alloc (.cells #[.int .i64 (d1), .int .i64 (d2), .int .i64 (l1), .int .i64 (l2)] 40)).alloc (.cells #[.int .i64 (z1), .int .i64 (z2)] 26)).alloc (.cells #[.int .i64 (s1), .int .i64 (s2)] 26)).alloc (.cells #[.int .i64 (0), .int .i64 (0)] 26) = V := ⟨_, rfl⟩
  have Kb3 : Hid (Blk Va1 (w.heap.size) 40 #[.int .i64 (d1), .int .i64 (d2), .int .i64 (l1), .int .i64 (l2)]) := by rw [← hV]; exact (((Blk.new' _ _ _ (by simp)).alloc _).alloc _).alloc _
  have Kb4 : Hid (Blk Va1 (w.heap.size + 1) 26 #[.int .i64 (z1), .int .i64 (z2)]) := by rw [← hV]; exact ((Blk.new' _ _ _ (by simp)).alloc _).alloc _
  have Kb5 : Hid (Blk Va1 (w.heap.size + 1 + 1) 26 #[.int .i64 (s1), .int .i64 (s2)]) := by rw [← hV]; exact (Blk.new' _ _ _ (by simp)).alloc _
  have Kb6 : Hid (Blk Va1 (w.heap.size + 1 + 1 + 1) 26 #[.int .i64 (0), .int .i64 (0)]) := by rw [← hV]; exact Blk.new' _ _ _ (by simp)
  have GHB : Hid (Below w.heap.size w Va1) := by rw [← hV]; exact (by repeat (first | exact Below.refl _ _ | assumption | refine Below.drew ?_ | refine Below.drewN' ?_ _ | (refine Below.alloc ?_ (by simp <;> omega) _) | (refine Below.setCell ?_ (by simp <;> omega) _)))
  have HZ : Hid (Below w.heap.size w Va1) := GHB
  rw [hV]
  clear hV HZ
  have HB := GHB
  clear GHB
  obtain ⟨b6, hqb6⟩ : ∃ b, w.heap.size + 1 + 1 + 1 = b := ⟨_, rfl⟩
  obtain ⟨b5, hqb5⟩ : ∃ b, w.heap.size + 1 + 1 = b := ⟨_, rfl⟩
  obtain ⟨b4, hqb4⟩ : ∃ b, w.heap.size + 1 = b := ⟨_, rfl⟩
  obtain ⟨b3, hqb3⟩ : ∃ b, w.heap.size = b := ⟨_, rfl⟩
  have gb3 : w.heap.size ≤ b3 := by omega
  have gb4 : w.heap.size ≤ b4 := by omega
  have nb4b3 : ¬ b4 = b3 := by omega
  have nb3b4 : ¬ b3 = b4 := by omega
  have gb5 : w.heap.size ≤ b5 := by omega
  have nb5b3 : ¬ b5 = b3 := by omega
  have nb3b5 : ¬ b3 = b5 := by omega
  have nb5b4 : ¬ b5 = b4 := by omega
  have nb4b5 : ¬ b4 = b5 := by omega
  have gb6 : w.heap.size ≤ b6 := by omega
  have nb6b3 : ¬ b6 = b3 := by omega
  have nb3b6 : ¬ b3 = b6 := by omega
  have nb6b4 : ¬ b6 = b4 := by omega
  have nb4b6 : ¬ b4 = b6 := by omega
  have nb6b5 : ¬ b6 = b5 := by omega
  have nb5b6 : ¬ b5 = b6 := by omega
  rw [hqb6] at Kb6 ⊢
  clear hqb6
  rw [hqb5] at Kb5 ⊢
  clear hqb5
  rw [hqb4] at Kb4 ⊢
  clear hqb4
  have HN : Hid (w.heap.size = b3) := hqb3
  rw [hqb3] at Kb3 ⊢
  clear hqb3
  have Hb3 := Kb3
  clear Kb3
  have Hb4 := Kb4
  clear Kb4
  have Hb5 := Kb5
  clear Kb5
  have Hb6 := Kb6
  clear Kb6
  have HSV : Hid (∀ U, Below Va1.heap.size Va1 U → U.cell? ⟨b3, 0, none⟩ = some (.int .i64 (d1)) ∧ U.cell? ⟨b3, 1, none⟩ = some (.int .i64 (d2)) ∧ U.cell? ⟨b3, 2, none⟩ = some (.int .i64 (l1)) ∧ U.cell? ⟨b3, 3, none⟩ = some (.int .i64 (l2))) := fun U hU => by
   have kb3 := Hb3.out.below hU Hb3.out.lt
   exact ⟨kb3.cell 0, kb3.cell 1, kb3.cell 2, kb3.cell 3⟩
  have k0 := HSV.out _ (Below.drew (Below.refl Va1.heap.size Va1))
  refine wp_region_noPanic ?_
  refine wp_region_held_drew (S := (fun w' => w'.cell? ⟨b3, 0, none⟩ = some (.int .i64 (d1)) ∧ w'.cell? ⟨b3, 1, none⟩ = some (.int .i64 (d2)) ∧ w'.cell? ⟨b3, 2, none⟩ = some (.int .i64 (l1)) ∧ w'.cell? ⟨b3, 3, none⟩ = some (.int .i64 (l2)))) (by kernel_rfl) ?_ (fun hHeld => ?_)
  · (try dsimp only); (exact k0)
  refine tH 0 Zdk ?_ ?_ ?_
  rotate_left
  · ((intro w hSw; delta Zdk; (try dsimp only at hSw); go_simp) <;> with_reducible rfl)
  try simp only [Zdk, ksz]
  refine tH 3 Zdn ?_ ?_ ?_
  rotate_left
  · ((intro w hSw; delta Zdn; (try dsimp only at hSw); go_simp) <;> with_reducible rfl)
  try simp only [Zdn, ksz]
  refine tH 1 Zdl ?_ ?_ ?_
  rotate_left
  · ((intro w hSw; delta Zdl; (try dsimp only at hSw); go_simp) <;> with_reducible rfl)
  try simp only [Zdl, ksz]
  refine tH 4 Zdo ?_ ?_ ?_
  rotate_left
  · ((intro w hSw; delta Zdo; (try dsimp only at hSw); go_simp) <;> with_reducible rfl)
  try simp only [Zdo, ksz]
  refine tH 2 Zdm ?_ ?_ ?_
  rotate_left
  · ((intro w hSw; delta Zdm; (try dsimp only at hSw); go_simp) <;> with_reducible rfl)
  try simp only [Zdm, ksz]
  refine tH 5 Zdp ?_ ?_ ?_
  rotate_left
  · ((intro w hSw; delta Zdp; (try dsimp only at hSw); go_simp) <;> with_reducible rfl)
  try simp only [Zdp, ksz]
  refine tH 6 Zdq ?_ ?_ ?_
  rotate_left
  · ((intro w hSw; delta Zdq; (try dsimp only at hSw); go_simp) <;> with_reducible rfl)
  try simp only [Zdq, ksz]
  refine tH 7 Zdr ?_ ?_ ?_
  rotate_left
  · ((intro w hSw; delta Zdr; (try dsimp only at hSw); go_simp) <;> with_reducible rfl)
  try simp only [Zdr, ksz]
  obtain ⟨W0, hW0⟩ : ∃ V, Va1.drew = V := ⟨_, rfl⟩; rw [hW0] at hHeld ⊢; have HB0 : Hid (Below Va1.heap.size Va1 W0) := (by rw [← hW0]; exact Below.drew (Below.refl _ _)); clear hW0
  refine wpAnyH_done (by kernel_rfl) ?_ _
  refine NoPanic.normal ?_
  clear HSV k0
  clear hHeld
  obtain ⟨Va2, hVU⟩ : ∃ V, W0 = V := ⟨_, rfl⟩
  rw [hVU] at HB0 ⊢
  have HZ := HB0
  clear HB0 hVU
  replace Hb3 := kbl Hb3 HZ
  replace Hb4 := kbl Hb4 HZ
  replace Hb5 := kbl Hb5 HZ
  replace Hb6 := kbl Hb6 HZ
  replace HB := ktr' HB HZ
  clear HZ
  have cb30 := kcl0 Hb3
  have cb31 := kcl1 Hb3
  have cb32 := kcl2 Hb3
  have cb33 := kcl3 Hb3
  have cb40 := kcl0 Hb4
  have cb41 := kcl1 Hb4
  have cb50 := kcl0 Hb5
  have cb51 := kcl1 Hb5
  go_upto_region 6 with (fail)
  clear cb30 cb31 cb32 cb33 cb40 cb41 cb50 cb51
  have HSV : Hid (∀ U, Below Va2.heap.size Va2 U → U.cell? ⟨b4, 0, none⟩ = some (.int .i64 (z1)) ∧ U.cell? ⟨b4, 1, none⟩ = some (.int .i64 (z2)) ∧ U.cell? ⟨b5, 0, none⟩ = some (.int .i64 (s1)) ∧ U.cell? ⟨b5, 1, none⟩ = some (.int .i64 (s2))) := fun U hU => by
   have kb4 := Hb4.out.below hU Hb4.out.lt
   have kb5 := Hb5.out.below hU Hb5.out.lt
   exact ⟨kb4.cell 0, kb4.cell 1, kb5.cell 0, kb5.cell 1⟩
  have k0 := HSV.out _ (Below.drew (Below.refl Va2.heap.size Va2))
  refine wp_region_noPanic ?_
  refine wp_region_L (S := (fun w' => w'.cell? ⟨b4, 0, none⟩ = some (.int .i64 (z1)) ∧ w'.cell? ⟨b4, 1, none⟩ = some (.int .i64 (z2)) ∧ w'.cell? ⟨b5, 0, none⟩ = some (.int .i64 (s1)) ∧ w'.cell? ⟨b5, 1, none⟩ = some (.int .i64 (s2)))) (ks := [23]) (by kernel_rfl) ?_ (fun hHeld => ?_)
  · (try dsimp only); (exact k0)
  refine tL 0 Zds ?_ ?_ ?_
  rotate_left
  · ((intro w hSw; delta Zds; (try dsimp only at hSw); go_simp) <;> with_reducible rfl)
  try simp only [Zds, ksz]
  refine tL 2 Zdu ?_ ?_ ?_
  rotate_left
  · ((intro w hSw; delta Zdu; (try dsimp only at hSw); go_simp) <;> with_reducible rfl)
  try simp only [Zdu, ksz]
  refine tL 3 Zdv ?_ ?_ ?_
  rotate_left
  · ((intro w hSw; delta Zdv; (try dsimp only at hSw); go_simp) <;> with_reducible rfl)
  try simp only [Zdv, ksz]
  refine tL 5 Zdx ?_ ?_ ?_
  rotate_left
  · ((intro w hSw; delta Zdx; (try dsimp only at hSw); go_simp) <;> with_reducible rfl)
  try simp only [Zdx, ksz]
  refine tL 11 Ze3 ?_ ?_ ?_
  rotate_left
  · ((intro w hSw; delta Ze3; (try dsimp only at hSw); go_simp) <;> with_reducible rfl)
  try simp only [Ze3, ksz]
  refine tL 13 Ze5 ?_ ?_ ?_
  rotate_left
  · ((intro w hSw; delta Ze5; (try dsimp only at hSw); go_simp) <;> with_reducible rfl)
  try simp only [Ze5, ksz]
  refine tL 14 Ze6 ?_ ?_ ?_
  rotate_left
  · ((intro w hSw; delta Ze6; (try dsimp only at hSw); go_simp) <;> with_reducible rfl)
  try simp only [Ze6, ksz]
  refine tL 16 Ze8 ?_ ?_ ?_
  rotate_left
  · ((intro w hSw; delta Ze8; (try dsimp only at hSw); go_simp) <;> with_reducible rfl)
  try simp only [Ze8, ksz]
  refine tL 1 Zdt ?_ ?_ ?_
  rotate_left
  · ((intro w hSw; delta Zdt; (try dsimp only at hSw); go_simp) <;> with_reducible rfl)
  try simp only [Zdt, ksz]
  refine tL 4 Zdw ?_ ?_ ?_
  rotate_left
  · ((intro w hSw; delta Zdw; (try dsimp only at hSw); go_simp) <;> with_reducible rfl)
  try simp only [Zdw, ksz]
  refine tL 6 Zdy ?_ ?_ ?_
  rotate_left
  · ((intro w hSw; delta Zdy; (try dsimp only at hSw); go_simp) <;> with_reducible rfl)
  try simp only [Zdy, ksz]
  refine tL 12 Ze4 ?_ ?_ ?_
  rotate_left
  · ((intro w hSw; delta Ze4; (try dsimp only at hSw); go_simp) <;> with_reducible rfl)
  try simp only [Ze4, ksz]
  refine tL 15 Ze7 ?_ ?_ ?_
  rotate_left
  · ((intro w hSw; delta Ze7; (try dsimp only at hSw); go_simp) <;> with_reducible rfl)
  try simp only [Ze7, ksz]
  refine tL 17 Ze9 ?_ ?_ ?_
  rotate_left
  · ((intro w hSw; delta Ze9; (try dsimp only at hSw); go_simp) <;> with_reducible rfl)
  try simp only [Ze9, ksz]
  refine tL 7 Zdz ?_ ?_ ?_
  rotate_left
  · ((intro w hSw; delta Zdz; (try dsimp only at hSw); go_simp) <;> with_reducible rfl)
  try simp only [Zdz, ksz]
  refine tL 18 Zea ?_ ?_ ?_
  rotate_left
  · ((intro w hSw; delta Zea; (try dsimp only at hSw); go_simp) <;> with_reducible rfl)
  try simp only [Zea, ksz]
  refine tL 8 Ze0 ?_ ?_ ?_
  rotate_left
  · ((intro w hSw; delta Ze0; (try dsimp only at hSw); go_simp) <;> with_reducible rfl)
  try simp only [Ze0, ksz]
  refine tL 19 Zeb ?_ ?_ ?_
  rotate_left
  · ((intro w hSw; delta Zeb; (try dsimp only at hSw); go_simp) <;> with_reducible rfl)
  try simp only [Zeb, ksz]
  obtain ⟨W0, hW0⟩ : ∃ V, Va2.drew = V := ⟨_, rfl⟩; rw [hW0] at hHeld ⊢; have HB0 : Hid (Below Va2.heap.size Va2 W0) := (by rw [← hW0]; exact Below.drew (Below.refl _ _)); clear hW0
  refine wpAnyL_ready (rs := [9]) (by kernel_rfl) (by simp) ?_
  refine AllReadyL.cons (o := Ze1) rfl (fun K hK => ?_) AllReadyL.nil
  delta Ze1
  go_simp
  (refine (rdown_any _ _ _ (by omega) (by omega) (by omega)).mono ?_; rintro e W1 ⟨rfl, hw⟩; have HB1 : Hid (Below Va2.heap.size Va2 W1) := (by rw [← hw]; exact HB0.out); clear hw; rw [HP.out])
  refine hK.out _ _ ?_ (fun hHeld => ?_)
  · (try dsimp only); (exact HSV.out _ HB1.out)
  clear hK K
  try simp only [Ze1, ksz]
  refine tL 10 Ze2 ?_ ?_ ?_
  rotate_left
  · ((intro w hSw; delta Ze2; (try dsimp only at hSw); go_simp) <;> with_reducible rfl)
  try simp only [Ze2, ksz]
  refine wpAnyL_ready (rs := [20]) (by kernel_rfl) (by simp) ?_
  refine AllReadyL.cons (o := Zec) rfl (fun K hK => ?_) AllReadyL.nil
  delta Zec
  go_simp
  (refine (rup_any _ _ _ (by omega) (by omega) (by omega)).mono ?_; rintro e W2 ⟨rfl, hw⟩; have HB2 : Hid (Below Va2.heap.size Va2 W2) := (by rw [← hw]; exact HB1.out); clear hw; rw [HQ.out])
  refine hK.out _ _ ?_ (fun hHeld => ?_)
  · (try dsimp only); (exact HSV.out _ HB2.out)
  clear hK K
  try simp only [Zec, ksz]
  refine tL 21 Zed ?_ ?_ ?_
  rotate_left
  · ((intro w hSw; delta Zed; (try dsimp only at hSw); go_simp) <;> with_reducible rfl)
  try simp only [Zed, ksz]
  refine tL 22 Zee ?_ ?_ ?_
  rotate_left
  · ((intro w hSw; delta Zee; (try dsimp only at hSw); go_simp) <;> with_reducible rfl)
  try simp only [Zee, ksz]
  have Gb3 := Lib.hid (Hb3.out.below HB2.out Hb3.out.lt); have Gb4 := Lib.hid (Hb4.out.below HB2.out Hb4.out.lt); have Gb5 := Lib.hid (Hb5.out.below HB2.out Hb5.out.lt); have Gb6 := Lib.hid (Hb6.out.below HB2.out Hb6.out.lt); have GHB := Lib.hid (HB.out.trans (HB2.out.mono HB.out.size)); clear Hb3 Hb4 Hb5 Hb6 HB; have Hb3 := Gb3; clear Gb3; have Hb4 := Gb4; clear Gb4; have Hb5 := Gb5; clear Gb5; have Hb6 := Gb6; clear Gb6; have HB := GHB; clear GHB; have cR0 := Hb6.out.cell 0; have zR0 := Hb6.out.frozen 0; have cR1 := Hb6.out.cell 1; have zR1 := Hb6.out.frozen 1; simp only [List.getElem?_toArray, List.getElem?_cons_zero, List.getElem?_cons_succ] at cR0 cR1
  refine wpAnyL_ready (rs := [23]) (by kernel_rfl) (by simp) ?_
  refine AllReadyL.gate (o := Zef) rfl (by kernel_rfl) (fun K hK => ?_) AllReadyL.nil
  delta Zef
  go_simp
  refine hK.out _ _ ?_
  clear hK K
  try simp only [Zef, ksz]
  obtain ⟨Va3, hV⟩ : ∃ V, (W2.setCell ⟨b6, 0, none⟩ (.int .i64 (z1 + P))).setCell ⟨b6, 1, none⟩ (.int .i64 (z2 + Q)) = V := ⟨_, rfl⟩; replace Hb3 : Hid (Blk Va3 b3 40 #[.int .i64 (d1), .int .i64 (d2), .int .i64 (l1), .int .i64 (l2)]) := (by rw [← hV]; exact ((Hb3.out.far_ (p := ⟨b6, 0, none⟩) nb3b6 _).far_ (p := ⟨b6, 1, none⟩) nb3b6 _)); replace Hb4 : Hid (Blk Va3 b4 26 #[.int .i64 (z1), .int .i64 (z2)]) := (by rw [← hV]; exact ((Hb4.out.far_ (p := ⟨b6, 0, none⟩) nb4b6 _).far_ (p := ⟨b6, 1, none⟩) nb4b6 _)); replace Hb5 : Hid (Blk Va3 b5 26 #[.int .i64 (s1), .int .i64 (s2)]) := (by rw [← hV]; exact ((Hb5.out.far_ (p := ⟨b6, 0, none⟩) nb5b6 _).far_ (p := ⟨b6, 1, none⟩) nb5b6 _)); replace Hb6 : Hid (Blk Va3 b6 26 #[.int .i64 (z1 + P), .int .i64 (z2 + Q)]) := (by rw [← hV]; exact ((Hb6.out.set_ 0 (.int .i64 (z1 + P))).set_ 1 (.int .i64 (z2 + Q)))); replace HB : Hid (Below w.heap.size w Va3) := (by rw [← hV]; exact ((HB.out.setCell (p := ⟨b6, 0, none⟩) gb6 _).setCell (p := ⟨b6, 1, none⟩) gb6 _)); rw [hV]; clear hV cR0 zR0 cR1 zR1
  refine wpAnyL_done (by kernel_rfl) ?_ _
  refine NoPanic.normal ?_
  clear HSV k0
  clear hHeld HB0 HB1 HB2
  have cb60 := kcl0 Hb6
  have cb61 := kcl1 Hb6
  go_wp2
  refine bodyPost_ret (v := .agg #[.int .i64 (z1 + P), .int .i64 (z2 + Q)]) (by simp [results, Tryd.results79, go_sem, cb60, cb61]) rfl ⟨rfl, HB.out⟩
theorem add_plain6 (b off q : Nat) : (⟨b, off, none⟩ : Addr).add q = ⟨b, off + q, none⟩ := by unfold Addr.add; split <;> simp_all
theorem cells_new_add (w : World) (xs : List Value) (t : TypeId) {n : Nat} (h : n = w.heap.size) : ∀ j u, xs[j]? = some u → (w.alloc (.cells xs.toArray t)).cell? ((⟨n, 0, none⟩ : Addr).add j) = some u := by
 subst h
 intro j u hu
 rw [add_plain6, Nat.zero_add, (Blk.new w t _).cell j]
 simpa using hu
theorem rw_info : (Tryd.prog.info? 44).map (fun i => (i.zero, i.size, i.bytes)) = some (some (.agg #[.int .i64 0, .int .i64 0, .int .i64 0, .int .i64 0, .int .i64 0]), 5, 40) := by kernel_rfl
theorem wiCells_take (l : List Wi) {k : Nat} (h : k < l.length) : wiCells (l.take (k + 1)) = wiCells (l.take k) ++ wiC l[k] := by
 rw [List.take_succ_eq_append_getElem h, wiCells_append]
 simp [wiCells]
set_option maxRecDepth 100000 in
set_option maxHeartbeats 2000000 in
theorem winds_any (A : Option Addr) (c : Nat) (l : List Wi) (w : World) (hl : WindsAt w w.heap.size (.slice A l.length c) l) (hmx : l.length ≤ 100000) :
 Calls Tryd.prog 31 #[.slice A l.length c] w fun e w' => ∃ v, e = .returned v ∧ WindsAt w' w'.heap.size v l ∧ Below w.heap.size w w' := by
 obtain ⟨_, _, _, hc, hlen⟩ := hl.open_
 have HL := Lib.hid hl
 obtain ⟨i0, hi0, hz0, hz1, hz2⟩ := info_parts rw_info
 clear hl hc
 go_enter Tryd.func31, Tryd.ntmps31
 go_wp2
 go_loopw [3, 4] (fun sv iv wr => ∃ (k : Nat) (va : Value), va = sv ∧ k ≤ l.length ∧ iv = .int .i64 (k : Int) ∧ Hid (wr.ownsRow w.heap.size 44 5 va k (wiCells (l.take k))) ∧ Hid (Below w.heap.size w wr)) (fun _ iv _ => l.length - (intOf iv).toNat)
 case atStart => exact ⟨0, _, rfl, Nat.zero_le _, rfl, World.ownsRow_nil _ _ _ _, Below.refl _ _⟩
 case round =>
  obtain ⟨k, va, rfl, hk, rfl, HO, HB⟩ := hrel
  have hwk : IntKind.i64.wrap ((k : Int) + 1) = (k : Int) + 1 := IntWalk.i64_in _ (by omega)
  by_cases hlt : k < l.length
  · obtain ⟨b, off, hA, hb, c0, c1, c2, c3, c4⟩ := (HL.out.below HB.out).at_ hlt
    subst hA
    have hlt' : (k : Int) < (l.length : Int) := by omega
    have HT := Lib.hid (wiCells_take l hlt)
    obtain ⟨⟨⟨s1, s2⟩, n, p1, p2⟩, hx⟩ : ∃ z, l[k] = z := ⟨_, rfl⟩
    rw [hx] at c0 c1 c2 c3 c4 HT
    simp only at c0 c1 c2 c3 c4
    have hbs := HB.out.size
    clear hx
    go_wp2_with (at_builtin; ((refine wpList_append_own_at _ rfl (.tmp 11) (.tmp 16) 56 rfl w.heap.size 44 i0 (.agg #[.int .i64 0, .int .i64 0, .int .i64 0, .int .i64 0, .int .i64 0]) 5 40 Tryd.underlying56 hi0 hz0 hz1 hz2 rfl (by decide) va k _ rfl (HO.out.alloc _) ⟨wr.heap.size, 0, none⟩ 1 1 [.int .i64 (s1), .int .i64 (s2), .int .i64 (n), .int .i64 (p1), .int .i64 (p2)] rfl rfl (cells_new_add _ [.int .i64 (s1), .int .i64 (s2), .int .i64 (n), .int .i64 (p1), .int .i64 (p2)] _ rfl) (by simp [Value.oneCell']) (by unfold maxLen; omega) (by omega) (by simp <;> omega) ?_; intro v1 w8 hown1 hg1 _ _; have HO8 := Lib.hid hown1; have HB8 := Lib.hid (below_grown (HB.out.alloc HB.out.size _) hg1 (fun k e => (HO.out.lt k e).1) (Nat.le_refl _)); clear hown1 hg1)))
    go_roundw
    case rel => exact ⟨k + 1, _, rfl, by omega, by go_num, by rw [HT.out]; exact HO8.out, HB8⟩
    case measure => simp [intOf] <;> omega
  · have hk' : k = l.length := by omega
    have hkl : ¬ ((k : Int) < (l.length : Int)) := by omega
    have HRS : Hid (WindsAt wr wr.heap.size va l) := by
     have h := Reads.of_own HO.out
     rw [hk', List.take_length] at h
     exact h
    clear hk' hlt HO
    go_wp2
    refine bodyPost_ret (v := va) (by simp [results, Tryd.results31, go_sem]) rfl ⟨va, rfl, HRS.out, HB.out⟩
end Go.Proofs.YtdhcdgfpkjdihaaDoor.Sg
