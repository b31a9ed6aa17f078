/-
  TideLevels returns true.
-/
import Derived.Test.YtfblpokjbopagaaMS
import Derived.Test.YtfblpokjbopagaaMV
import Derived.Test.YtfblpokjbopagaaMU
import Derived.Test.YtfblpokjbopagaaMH
import Derived.Test.YtfblpokjbopagaaMI
import Derived.Test.YtfblpokjbopagaaMW
set_option linter.unusedSimpArgs false
set_option linter.unusedVariables false
namespace Go.Proofs.Ytfblpokjbopagaa
open Go.RowKit

/-- one new model of the program -/
def OneM (W0 : World) (x : Int) (l : List Prt) (p : Value) (W : World) : Prop := ∃ (b : Nat) (C : Option Addr) (c : Nat), p = .pointer (some ⟨b, 0, none⟩) ∧ Blk W b 35 #[.int .i64 x, .slice C l.length c] ∧ PrtsAt W W.heap.size (.slice C l.length c) l ∧ W0.heap.size ≤ b ∧ Below W0.heap.size W0 W
theorem oneM_set {V0 W0 W : World} {b B c : Nat} {x : Int} {l : List Prt} {u0 u1 : Value} {C : Option Addr} (hb : Blk W b 35 #[u0, u1]) (gb : W0.heap.size ≤ b) (h : Below W0.heap.size W0 W) (h0 : Below V0.heap.size V0 W0) (ho : W.ownsRow B 70 3 (.slice C l.length c) l.length (prtCells l)) :
    OneM V0 x l (.pointer (some ⟨b, 0, none⟩)) ((W.setCell ⟨b, 0, none⟩ (.int .i64 x)).setCell ⟨b, 1, none⟩ (.slice C l.length c)) := by
  have hne := own_blk_ne ho hb (by decide)
  exact ⟨b, C, c, rfl, (hb.set_ 0 (.int .i64 x)).set_ 1 (.slice C l.length c), prts_own rfl (own_set (own_set ho (p := ⟨b, 0, none⟩) hne _) (p := ⟨b, 1, none⟩) hne _), Nat.le_trans h0.size gb, h0.trans ((((h.setCell (p := ⟨b, 0, none⟩) gb _).setCell (p := ⟨b, 1, none⟩) gb _)).mono h0.size)⟩
def otv3_0 : Oper := { dst := some 24, op := Op.load 31 (Operand.tmp 3), type := 31, pos := "law.go:88", after := #[], guard := none }
def otv3_1 : Oper := { dst := some 25, op := Op.call { callee := Callee.value (Operand.func 15), args := #[Operand.tmp 24], argTypes := #[31] }, type := 35, pos := "law.go:88", after := #[{ on := 0, ground := Ground.data }], guard := none }
def otv3_2 : Oper := { dst := some 26, op := Op.call { callee := Callee.value (Operand.func 14), args := #[Operand.tmp 25], argTypes := #[35] }, type := 24, pos := "law.go:88", after := #[{ on := 1, ground := Ground.data }, { on := 1, ground := Ground.chain }], guard := none }
def otv3_3 : Oper := { dst := some 27, op := Op.load 31 (Operand.tmp 3), type := 31, pos := "law.go:88", after := #[], guard := none }
def otv3_4 : Oper := { dst := some 28, op := Op.call { callee := Callee.value (Operand.func 16), args := #[Operand.tmp 27], argTypes := #[31] }, type := 24, pos := "law.go:88", after := #[{ on := 3, ground := Ground.data }, { on := 2, ground := Ground.chain }], guard := none }
def otv3_5 : Oper := { dst := some 29, op := Op.binOp BinOp.neq 24 (Operand.tmp 26) (Operand.tmp 28) 24, type := 4, pos := "law.go:88", after := #[{ on := 2, ground := Ground.data }, { on := 4, ground := Ground.data }], guard := none }
def otv5_0 : Oper := { dst := some 31, op := Op.load 31 (Operand.tmp 3), type := 31, pos := "law.go:91", after := #[], guard := none }
def otv5_1 : Oper := { dst := some 32, op := Op.call { callee := Callee.value (Operand.func 15), args := #[Operand.tmp 31], argTypes := #[31] }, type := 35, pos := "law.go:91", after := #[{ on := 0, ground := Ground.data }], guard := none }
def otv5_2 : Oper := { dst := some 33, op := Op.load 23 (Operand.tmp 5), type := 23, pos := "law.go:91", after := #[], guard := none }
def otv5_3 : Oper := { dst := some 34, op := Op.call { callee := Callee.value (Operand.func 17), args := #[Operand.tmp 32, Operand.tmp 33], argTypes := #[35, 23] }, type := 25, pos := "law.go:91", after := #[{ on := 1, ground := Ground.data }, { on := 2, ground := Ground.data }, { on := 1, ground := Ground.chain }], guard := none }
def otv5_4 : Oper := { dst := some 30, op := Op.move (Operand.tmp 34), type := 25, pos := "law.go:91", after := #[{ on := 3, ground := Ground.data }], guard := none }
def otv5_5 : Oper := { dst := some 35, op := Op.extract (Operand.tmp 30) 0, type := 23, pos := "law.go:91", after := #[{ on := 4, ground := Ground.data }], guard := none }
def otv5_6 : Oper := { dst := some 36, op := Op.extract (Operand.tmp 30) 1, type := 24, pos := "law.go:91", after := #[{ on := 4, ground := Ground.data }, { on := 8, ground := Ground.gcOnly Departure.lateStores }], guard := none }
def otv5_7 : Oper := { dst := some 7, op := Op.alloc 23, type := 0, pos := "law.go:91", after := #[], guard := none }
def otv5_8 : Oper := { dst := none, op := Op.store 23 (Operand.tmp 7) (Operand.tmp 35), type := 0, pos := "law.go:91", after := #[{ on := 7, ground := Ground.data }, { on := 5, ground := Ground.data }, { on := 3, ground := Ground.chain }, { on := 0, ground := Ground.phase }, { on := 1, ground := Ground.phase }, { on := 2, ground := Ground.phase }, { on := 3, ground := Ground.phase }, { on := 4, ground := Ground.phase }, { on := 5, ground := Ground.phase }, { on := 6, ground := Ground.textOnly Departure.lateStores }, { on := 7, ground := Ground.phase }], guard := none }
def otv5_9 : Oper := { dst := some 8, op := Op.assign (Operand.tmp 36), type := 24, pos := "law.go:91", after := #[{ on := 6, ground := Ground.data }, { on := 8, ground := Ground.chain }, { on := 0, ground := Ground.phase }, { on := 1, ground := Ground.phase }, { on := 2, ground := Ground.phase }, { on := 3, ground := Ground.phase }, { on := 4, ground := Ground.phase }, { on := 5, ground := Ground.phase }, { on := 6, ground := Ground.phase }, { on := 7, ground := Ground.phase }, { on := 8, ground := Ground.phase }], guard := none }
def otv13_0 : Oper := { dst := some 71, op := Op.load 31 (Operand.tmp 3), type := 31, pos := "law.go:101", after := #[], guard := none }
def otv13_1 : Oper := { dst := some 72, op := Op.call { callee := Callee.value (Operand.func 15), args := #[Operand.tmp 71], argTypes := #[31] }, type := 35, pos := "law.go:101", after := #[{ on := 0, ground := Ground.data }], guard := none }
def otv13_2 : Oper := { dst := some 73, op := Op.load 31 (Operand.tmp 4), type := 31, pos := "law.go:101", after := #[], guard := none }
def otv13_3 : Oper := { dst := some 74, op := Op.call { callee := Callee.value (Operand.func 15), args := #[Operand.tmp 73], argTypes := #[31] }, type := 35, pos := "law.go:101", after := #[{ on := 2, ground := Ground.data }, { on := 1, ground := Ground.chain }], guard := none }
def otv13_4 : Oper := { dst := some 75, op := Op.call { callee := Callee.value (Operand.func 21), args := #[Operand.tmp 72, Operand.tmp 74], argTypes := #[35, 35] }, type := 42, pos := "law.go:101", after := #[{ on := 1, ground := Ground.data }, { on := 3, ground := Ground.data }, { on := 3, ground := Ground.chain }], guard := none }
def otv13_5 : Oper := { dst := some 70, op := Op.move (Operand.tmp 75), type := 42, pos := "law.go:101", after := #[{ on := 4, ground := Ground.data }], guard := none }
def otv13_6 : Oper := { dst := some 76, op := Op.extract (Operand.tmp 70) 0, type := 35, pos := "law.go:101", after := #[{ on := 5, ground := Ground.data }], guard := none }
def otv13_7 : Oper := { dst := some 77, op := Op.extract (Operand.tmp 70) 1, type := 24, pos := "law.go:101", after := #[{ on := 5, ground := Ground.data }, { on := 9, ground := Ground.gcOnly Departure.lateStores }], guard := none }
def otv13_8 : Oper := { dst := some 11, op := Op.alloc 35, type := 0, pos := "law.go:101", after := #[], guard := none }
def otv13_9 : Oper := { dst := none, op := Op.store 35 (Operand.tmp 11) (Operand.tmp 76), type := 0, pos := "law.go:101", after := #[{ on := 8, ground := Ground.data }, { on := 6, ground := Ground.data }, { on := 4, ground := Ground.chain }, { on := 0, ground := Ground.phase }, { on := 1, ground := Ground.phase }, { on := 2, ground := Ground.phase }, { on := 3, ground := Ground.phase }, { on := 4, ground := Ground.phase }, { on := 5, ground := Ground.phase }, { on := 6, ground := Ground.phase }, { on := 7, ground := Ground.textOnly Departure.lateStores }, { on := 8, ground := Ground.phase }], guard := none }
def otv13_10 : Oper := { dst := some 8, op := Op.assign (Operand.tmp 77), type := 24, pos := "law.go:101", after := #[{ on := 7, ground := Ground.data }, { on := 9, ground := Ground.chain }, { on := 0, ground := Ground.phase }, { on := 1, ground := Ground.phase }, { on := 2, ground := Ground.phase }, { on := 3, ground := Ground.phase }, { on := 4, ground := Ground.phase }, { on := 5, ground := Ground.phase }, { on := 6, ground := Ground.phase }, { on := 7, ground := Ground.phase }, { on := 8, ground := Ground.phase }, { on := 9, ground := Ground.phase }], guard := none }

set_option maxRecDepth 100000 in
set_option maxHeartbeats 8000000 in
theorem TideLevels_any (ma mb lo hi : Int) (va vb : Value) (pa pb : List Prt) (w : World) (ha : PrtsAt w w.heap.size va pa) (hb : PrtsAt w w.heap.size vb pb) (sa : Sound va) (sb : Sound vb) :
    Calls Try.prog 4 #[.agg #[.int .i64 ma, va], .agg #[.int .i64 mb, vb], .agg #[.int .i64 lo, .int .i64 hi]] w fun e w' => e = .returned (.bool true) ∧ Below w.heap.size w w' := by
  obtain ⟨A, ca, rfl, hca, -⟩ := ha.open_
  obtain ⟨B, cb, rfl, hcb, -⟩ := hb.open_
  have HA := Lib.hid ha
  have HB := Lib.hid hb
  have HSA := Lib.hid sa
  have HSB := Lib.hid sb
  have hp1 := span_stood
  have hp2 := span_guard
  clear ha hb sa sb
  go_enter Try.func4, Try.ntmps4
  go_upto_region 1 with (fail)
  obtain ⟨V0, hV⟩ : ∃ V, ((w.alloc (.cells #[.int .i64 ma, .slice A pa.length ca] 31)).alloc (.cells #[.int .i64 mb, .slice B pb.length cb] 31)).alloc (.cells #[.int .i64 lo, .int .i64 hi] 23) = V := ⟨_, rfl⟩
  have Hb3 : Hid (Blk V0 w.heap.size 31 #[.int .i64 ma, .slice A pa.length ca]) := by rw [← hV]; exact ((Blk.new' _ _ _ rfl).alloc _).alloc _
  have Hb4 : Hid (Blk V0 (w.heap.size + 1) 31 #[.int .i64 mb, .slice B pb.length cb]) := by rw [← hV]; exact (Blk.new' _ _ _ (by simp)).alloc _
  have Hb5 : Hid (Blk V0 (w.heap.size + 2) 23 #[.int .i64 lo, .int .i64 hi]) := by rw [← hV]; exact Blk.new' _ _ _ (by simp)
  have HBP : Hid (Below w.heap.size w V0) := by rw [← hV]; exact (by repeat (first | exact Below.refl _ _ | assumption | refine Below.drew ?_ | refine Below.drewN' ?_ _ | (refine Below.alloc ?_ (by simp <;> omega) _) | (refine Below.setCell ?_ (by simp <;> omega) _)))
  rw [hV]
  clear hV
  obtain ⟨b3, h3⟩ : ∃ b, w.heap.size = b := ⟨_, rfl⟩
  obtain ⟨b4, h4⟩ : ∃ b, w.heap.size + 1 = b := ⟨_, rfl⟩
  obtain ⟨b5, h5⟩ : ∃ b, w.heap.size + 2 = b := ⟨_, rfl⟩
  have gb3 : w.heap.size ≤ b3 := by omega
  have gb4 : w.heap.size ≤ b4 := by omega
  have gb5 : w.heap.size ≤ b5 := by omega
  have nb3b4 : ¬ b3 = b4 := by omega
  have nb4b3 : ¬ b4 = b3 := by omega
  have nb3b5 : ¬ b3 = b5 := by omega
  have nb5b3 : ¬ b5 = b3 := by omega
  have nb4b5 : ¬ b4 = b5 := by omega
  have nb5b4 : ¬ b5 = b4 := by omega
  rw [h5] at Hb5
  rw [h4] at Hb4
  rw [h3] at Hb3
  rw [h5, h4]
  try rw [h3]
  clear h3 h4 h5
  have cb30 : V0.cell? ⟨b3, 0, none⟩ = some (.int .i64 ma) := Hb3.out.cell 0
  have cb31 : V0.cell? ⟨b3, 1, none⟩ = some (.slice A pa.length ca) := Hb3.out.cell 1
  have cb40 : V0.cell? ⟨b4, 0, none⟩ = some (.int .i64 mb) := Hb4.out.cell 0
  have cb41 : V0.cell? ⟨b4, 1, none⟩ = some (.slice B pb.length cb) := Hb4.out.cell 1
  by_cases h8 : pa.length ≤ 40
  rotate_left
  · have h8' : (40 : Int) < (pa.length : Int) := by omega
    go_wp2_with fail
    refine (works2_any _).mono ?_
    rintro e w1 ⟨rfl, hb⟩
    have HBE := HBP.out.trans (hb.mono HBP.out.size)
    go_wp2
    go_ret
    exact ⟨rfl, HBE⟩
  have h8' : (pa.length : Int) ≤ 40 := by omega
  by_cases h9 : pb.length ≤ 40
  rotate_left
  · have h9' : (40 : Int) < (pb.length : Int) := by omega
    go_wp2_with fail
    refine (works2_any _).mono ?_
    rintro e w1 ⟨rfl, hb⟩
    have HBE := HBP.out.trans (hb.mono HBP.out.size)
    go_wp2
    go_ret
    exact ⟨rfl, HBE⟩
  have h9' : (pb.length : Int) ≤ 40 := by omega
  obtain ⟨Ea, hEa⟩ : ∃ E, mdE ⟨ma, pa⟩ = E := ⟨_, rfl⟩
  obtain ⟨⟨L1, L2⟩, hL⟩ : ∃ z, levV ⟨ma, pa⟩ (lo, hi) = z := ⟨_, rfl⟩
  obtain ⟨LE, hLE⟩ : ∃ z, levE ⟨ma, pa⟩ (lo, hi) = z := ⟨_, rfl⟩
  obtain ⟨⟨R1, R2⟩, hR⟩ : ∃ z, rngV ⟨ma, pa⟩ = z := ⟨_, rfl⟩
  obtain ⟨⟨J, pj⟩, hJ⟩ : ∃ z, joinV ⟨ma, pa⟩ ⟨mb, pb⟩ = z := ⟨_, rfl⟩
  obtain ⟨JE, hJE⟩ : ∃ z, joinE ⟨ma, pa⟩ ⟨mb, pb⟩ = z := ⟨_, rfl⟩
  have HEa := Lib.hid hEa
  have HL := Lib.hid hL
  have HLE := Lib.hid hLE
  have HR := Lib.hid hR
  have HJ := Lib.hid hJ
  have HJE := Lib.hid hJE
  clear hEa hL hLE hR hJ hJE
  go_upto_region 3 with (fail)
  clear cb30 cb31 cb40 cb41
  have HSV : Hid (∀ U, Below V0.heap.size V0 U → U.cell? ⟨b3, 0, none⟩ = some (.int .i64 ma) ∧ U.cell? ⟨b3, 1, none⟩ = some (.slice A pa.length ca)) := fun U hU => by
    have kb3 := Hb3.out.below hU Hb3.out.lt
    exact ⟨kb3.cell 0, kb3.cell 1⟩
  have k0 := HSV.out _ (Below.drew (Below.refl V0.heap.size V0))
  go_cut [29] from 24 to 30 (fun p wx => p = .bool false ∧ Below V0.heap.size V0 wx)
  case first =>
    refine wp_region_noPanic ?_
    refine wp_region_held_drew (S := (fun w' => w'.cell? ⟨b3, 0, none⟩ = some (.int .i64 ma) ∧ w'.cell? ⟨b3, 1, none⟩ = some (.slice A pa.length ca))) (by kernel_rfl) ?_ (fun hHeld => ?_)
    · (try dsimp only); (exact k0)
    refine wpAnyH_take (i := 0) (oi := otv3_0) (v := ?_) rfl (by kernel_rfl) (by kernel_rfl) (by kernel_rfl) (fun _ _ _ h => h) (Or.inl ⟨by rfl, ?_⟩) (by assumption) ?_
    rotate_left
    · ((intro w hSw; delta otv3_0; (try dsimp only at hSw); go_simp) <;> with_reducible rfl)
    try simp only [otv3_0, Act.put, List.setIfInBounds_toArray, List.set_cons_zero, List.set_cons_succ]
    refine wpAnyH_take (i := 3) (oi := otv3_3) (v := ?_) rfl (by kernel_rfl) (by kernel_rfl) (by kernel_rfl) (fun _ _ _ h => h) (Or.inl ⟨by rfl, ?_⟩) (by assumption) ?_
    rotate_left
    · ((intro w hSw; delta otv3_3; (try dsimp only at hSw); go_simp) <;> with_reducible rfl)
    try simp only [otv3_3, Act.put, List.setIfInBounds_toArray, List.set_cons_zero, List.set_cons_succ]
    obtain ⟨W0, hW0⟩ : ∃ V, V0.drew = V := ⟨_, rfl⟩; rw [hW0] at hHeld ⊢; have HBV : Hid (Below V0.heap.size V0 W0) := (by rw [← hW0]; exact Below.drew (Below.refl _ _)); have HB0 := Lib.hid (Below.refl W0.heap.size W0); clear hW0
    refine wpAnyH_ready (rs := [1]) (by kernel_rfl) (by simp) ?_
    refine AllReadyH.cons (o := otv3_1) rfl (fun K hK => ?_) AllReadyH.nil
    delta otv3_1
    go_simp
    (refine (lmodel_any _ ⟨ma, pa⟩ _ ⟨_, rfl, HA.out.later (HBP.out.trans ((HBV.out.trans (HB0.out.mono HBV.out.size)).mono HBP.out.size)) (Nat.le_refl _)⟩ h8).mono ?_; rintro e W1 ⟨y1, rfl, hown, hb⟩; simp only at hown; have HM_W1 : Hid (PrtsAt W1 W1.heap.size y1 pa) := prts_own rfl hown; have HSHM := Lib.hid (sound_own hown); obtain ⟨Cy1, cy1, rfl, -, -⟩ := HM_W1.out.open_; clear hown); have hbz : Below W0.heap.size W0 W1 := (by first | exact hb | exact Below.trans (Below.drew (Below.refl _ _)) hb); clear hb; have HB1 := Lib.hid (HB0.out.trans (hbz.mono HB0.out.size)); clear hbz
    refine hK.out _ _ ?_ (fun hHeld => ?_)
    · (try dsimp only); (exact HSV.out _ (HBV.out.trans (HB1.out.mono HBV.out.size)))
    clear hK K
    try simp only [otv3_1, Act.put, List.setIfInBounds_toArray, List.set_cons_zero, List.set_cons_succ]
    refine wpAnyH_ready (rs := [2]) (by kernel_rfl) (by simp) ?_
    refine AllReadyH.cons (o := otv3_2) rfl (fun K hK => ?_) AllReadyH.nil
    delta otv3_2
    go_simp
    (refine (tmCheck_any _ ⟨ma, pa⟩ _ ⟨_, rfl, HM_W1.out⟩).mono ?_; rintro e W2 ⟨rfl, hb⟩; rw [HEa.out]); have hbz : Below W1.heap.size W1 W2 := (by first | exact hb | exact Below.trans (Below.drew (Below.refl _ _)) hb); clear hb; have HB2 := Lib.hid (HB1.out.trans (hbz.mono HB1.out.size)); have HM_W2 := Lib.hid (PrtsAt.later HM_W1.out hbz (Nat.le_refl _)); clear hbz
    refine hK.out _ _ ?_ (fun hHeld => ?_)
    · (try dsimp only); (exact HSV.out _ (HBV.out.trans (HB2.out.mono HBV.out.size)))
    clear hK K
    try simp only [otv3_2, Act.put, List.setIfInBounds_toArray, List.set_cons_zero, List.set_cons_succ]
    refine wpAnyH_ready (rs := [4]) (by kernel_rfl) (by simp) ?_
    refine AllReadyH.cons (o := otv3_4) rfl (fun K hK => ?_) AllReadyH.nil
    delta otv3_4
    go_simp
    (refine (rmCheck_any _ ⟨ma, pa⟩ _ ⟨_, rfl, HA.out.later (HBP.out.trans ((HBV.out.trans (HB2.out.mono HBV.out.size)).mono HBP.out.size)) (Nat.le_refl _)⟩).mono ?_; rintro e W3 ⟨rfl, hb⟩; rw [HEa.out]); have hbz : Below W2.heap.size W2 W3 := (by first | exact hb | exact Below.trans (Below.drew (Below.refl _ _)) hb); clear hb; have HB3 := Lib.hid (HB2.out.trans (hbz.mono HB2.out.size)); have HM_W3 := Lib.hid (PrtsAt.later HM_W2.out hbz (Nat.le_refl _)); clear hbz
    refine hK.out _ _ ?_ (fun hHeld => ?_)
    · (try dsimp only); (exact HSV.out _ (HBV.out.trans (HB3.out.mono HBV.out.size)))
    clear hK K
    try simp only [otv3_4, Act.put, List.setIfInBounds_toArray, List.set_cons_zero, List.set_cons_succ]
    refine wpAnyH_take (i := 5) (oi := otv3_5) (v := ?_) rfl (by kernel_rfl) (by kernel_rfl) (by kernel_rfl) (fun _ _ _ h => h) (Or.inl ⟨by rfl, ?_⟩) (by assumption) ?_
    rotate_left
    · ((intro w hSw; delta otv3_5; (try dsimp only at hSw); go_simp) <;> with_reducible rfl)
    try simp only [otv3_5, Act.put, List.setIfInBounds_toArray, List.set_cons_zero, List.set_cons_succ]
    refine wpAnyH_done (by kernel_rfl) ?_ _
    refine NoPanic.normal ?_
    go_wp2_with fail
    go_meet
    exact ⟨by first | rfl | simp, HBV.out.trans (HB3.out.mono HBV.out.size)⟩
  case rest =>
    obtain ⟨rfl, hb9⟩ := hcut
    obtain ⟨Vc3, rfl⟩ : ∃ V, V = wc := ⟨_, rfl⟩
    have HZ := Lib.hid hb9
    clear hb9 HSV k0
    have Gb3 := Lib.hid (Hb3.out.below HZ.out Hb3.out.lt)
    have Gb4 := Lib.hid (Hb4.out.below HZ.out Hb4.out.lt)
    have Gb5 := Lib.hid (Hb5.out.below HZ.out Hb5.out.lt)
    have GHBP := Lib.hid (HBP.out.trans (HZ.out.mono HBP.out.size))
    clear Hb3 Hb4 Hb5 HBP HZ
    have Hb3 := Gb3
    have Hb4 := Gb4
    have Hb5 := Gb5
    have HBP := GHBP
    clear Gb3 Gb4 Gb5 GHBP
    go_upto_region 5 with (fail)
    have HSV : Hid (∀ U, Below Vc3.heap.size Vc3 U → U.cell? ⟨b3, 0, none⟩ = some (.int .i64 ma) ∧ U.cell? ⟨b3, 1, none⟩ = some (.slice A pa.length ca) ∧ U.cell? ⟨b5, 0, none⟩ = some (.int .i64 lo) ∧ U.cell? ⟨b5, 1, none⟩ = some (.int .i64 hi)) := fun U hU => by
      have kb3 := Hb3.out.below hU Hb3.out.lt
      have kb5 := Hb5.out.below hU Hb5.out.lt
      exact ⟨kb3.cell 0, kb3.cell 1, kb5.cell 0, kb5.cell 1⟩
    have k0 := HSV.out _ (Below.drew (Below.refl Vc3.heap.size Vc3))
    go_cut [7, 8] from 30 to 37 (fun p q wx => q = .int .i64 LE ∧ OneB Vc3 23 L1 L2 p wx)
    case first =>
      refine wp_region_noPanic ?_
      refine wp_region_held_drew (S := (fun w' => w'.cell? ⟨b3, 0, none⟩ = some (.int .i64 ma) ∧ w'.cell? ⟨b3, 1, none⟩ = some (.slice A pa.length ca) ∧ w'.cell? ⟨b5, 0, none⟩ = some (.int .i64 lo) ∧ w'.cell? ⟨b5, 1, none⟩ = some (.int .i64 hi))) (by kernel_rfl) ?_ (fun hHeld => ?_)
      · (try dsimp only); (exact k0)
      refine wpAnyH_take (i := 0) (oi := otv5_0) (v := ?_) rfl (by kernel_rfl) (by kernel_rfl) (by kernel_rfl) (fun _ _ _ h => h) (Or.inl ⟨by rfl, ?_⟩) (by assumption) ?_
      rotate_left
      · ((intro w hSw; delta otv5_0; (try dsimp only at hSw); go_simp) <;> with_reducible rfl)
      try simp only [otv5_0, Act.put, List.setIfInBounds_toArray, List.set_cons_zero, List.set_cons_succ]
      refine wpAnyH_take (i := 2) (oi := otv5_2) (v := ?_) rfl (by kernel_rfl) (by kernel_rfl) (by kernel_rfl) (fun _ _ _ h => h) (Or.inl ⟨by rfl, ?_⟩) (by assumption) ?_
      rotate_left
      · ((intro w hSw; delta otv5_2; (try dsimp only at hSw); go_simp) <;> with_reducible rfl)
      try simp only [otv5_2, Act.put, List.setIfInBounds_toArray, List.set_cons_zero, List.set_cons_succ]
      obtain ⟨W0, hW0⟩ : ∃ V, Vc3.drew = V := ⟨_, rfl⟩; rw [hW0] at hHeld ⊢; have HBV : Hid (Below Vc3.heap.size Vc3 W0) := (by rw [← hW0]; exact Below.drew (Below.refl _ _)); have HB0 := Lib.hid (Below.refl W0.heap.size W0); clear hW0
      refine wpAnyH_ready (rs := [1, 7]) (by kernel_rfl) (by simp) ?_
      refine AllReadyH.cons (o := otv5_1) rfl (fun K hK => ?gs1) ?gr1
      case' gs1 =>
       delta otv5_1
       go_simp
       (refine (lmodel_any _ ⟨ma, pa⟩ _ ⟨_, rfl, HA.out.later (HBP.out.trans ((HBV.out.trans (HB0.out.mono HBV.out.size)).mono HBP.out.size)) (Nat.le_refl _)⟩ h8).mono ?_; rintro e W1 ⟨y1, rfl, hown, hb⟩; simp only at hown; have HM_W1 : Hid (PrtsAt W1 W1.heap.size y1 pa) := prts_own rfl hown; have HSHM := Lib.hid (sound_own hown); obtain ⟨Cy1, cy1, rfl, -, -⟩ := HM_W1.out.open_; clear hown); have hbz : Below W0.heap.size W0 W1 := (by first | exact hb | exact Below.trans (Below.drew (Below.refl _ _)) hb); clear hb; have HB1 := Lib.hid (HB0.out.trans (hbz.mono HB0.out.size)); clear hbz
       refine hK.out _ _ ?_ (fun hHeld => ?_)
       · (try dsimp only); (exact HSV.out _ (HBV.out.trans (HB1.out.mono HBV.out.size)))
       clear hK K
       try simp only [otv5_1, Act.put, List.setIfInBounds_toArray, List.set_cons_zero, List.set_cons_succ]
       refine wpAnyH_ready (rs := [3, 7]) (by kernel_rfl) (by simp) ?_
       refine AllReadyH.cons (o := otv5_3) rfl (fun K hK => ?gs2) ?gr2
       case' gs2 =>
        delta otv5_3
        go_simp
        (refine (tLevel_any _ ⟨ma, pa⟩ lo hi _ ⟨_, rfl, HM_W1.out⟩).mono ?_; rintro e W2 ⟨rfl, hb⟩; rw [HL.out, HLE.out]); have hbz : Below W1.heap.size W1 W2 := (by first | exact hb | exact Below.trans (Below.drew (Below.refl _ _)) hb); clear hb; have HB2 := Lib.hid (HB1.out.trans (hbz.mono HB1.out.size)); have HM_W2 := Lib.hid (PrtsAt.later HM_W1.out hbz (Nat.le_refl _)); clear hbz
        refine hK.out _ _ ?_ (fun hHeld => ?_)
        · (try dsimp only); (exact HSV.out _ (HBV.out.trans (HB2.out.mono HBV.out.size)))
        clear hK K
        try simp only [otv5_3, Act.put, List.setIfInBounds_toArray, List.set_cons_zero, List.set_cons_succ]
        refine wpAnyH_take (i := 4) (oi := otv5_4) (v := ?_) rfl (by kernel_rfl) (by kernel_rfl) (by kernel_rfl) (fun _ _ _ h => h) (Or.inl ⟨by rfl, ?_⟩) (by assumption) ?_
        rotate_left
        · ((intro w hSw; delta otv5_4; (try dsimp only at hSw); go_simp) <;> with_reducible rfl)
        try simp only [otv5_4, Act.put, List.setIfInBounds_toArray, List.set_cons_zero, List.set_cons_succ]
        refine wpAnyH_take (i := 5) (oi := otv5_5) (v := ?_) rfl (by kernel_rfl) (by kernel_rfl) (by kernel_rfl) (fun _ _ _ h => h) (Or.inl ⟨by rfl, ?_⟩) (by assumption) ?_
        rotate_left
        · ((intro w hSw; delta otv5_5; (try dsimp only at hSw); go_simp) <;> with_reducible rfl)
        try simp only [otv5_5, Act.put, List.setIfInBounds_toArray, List.set_cons_zero, List.set_cons_succ]
        refine wpAnyH_take (i := 6) (oi := otv5_6) (v := ?_) rfl (by kernel_rfl) (by kernel_rfl) (by kernel_rfl) (fun _ _ _ h => h) (Or.inl ⟨by rfl, ?_⟩) (by assumption) ?_
        rotate_left
        · ((intro w hSw; delta otv5_6; (try dsimp only at hSw); go_simp) <;> with_reducible rfl)
        try simp only [otv5_6, Act.put, List.setIfInBounds_toArray, List.set_cons_zero, List.set_cons_succ]
        refine wpAnyH_ready (rs := [7]) (by kernel_rfl) (by simp) ?_
        refine AllReadyH.cons (o := otv5_7) rfl (fun K hK => ?_) AllReadyH.nil
        delta otv5_7
        go_simp
        obtain ⟨W3, hV⟩ : ∃ V, W2.alloc (.cells #[.int .i64 0, .int .i64 0] 23) = V := ⟨_, rfl⟩; have hbz : Below W2.heap.size W2 W3 := (by rw [← hV]; exact (Below.refl _ _).alloc (Nat.le_refl _) _); have HB3 := Lib.hid (HB2.out.trans (hbz.mono HB2.out.size)); have Hb7_3 : Hid (Blk W3 W2.heap.size 23 #[.int .i64 0, .int .i64 0]) := (by rw [← hV]; exact Blk.new' _ _ _ rfl); have HM_W3 := Lib.hid (PrtsAt.later HM_W2.out hbz (Nat.le_refl _)); obtain ⟨b7, hz⟩ : ∃ b, W2.heap.size = b := ⟨_, rfl⟩; rw [hz] at Hb7_3; have gb7 : W0.heap.size ≤ b7 := (by rw [← hz]; exact HB2.out.size); rw [hV, hz]; clear hV hbz hz
        refine hK.out _ _ ?_ (fun hHeld => ?_)
        · (try dsimp only); (exact HSV.out _ (HBV.out.trans (HB3.out.mono HBV.out.size)))
        clear hK K
        try simp only [otv5_7, Act.put, List.setIfInBounds_toArray, List.set_cons_zero, List.set_cons_succ]
       case' gr2 =>
        refine AllReadyH.cons (o := otv5_7) rfl (fun K hK => ?gs3) ?gr3
        case' gs3 =>
         delta otv5_7
         go_simp
         obtain ⟨W2, hV⟩ : ∃ V, W1.alloc (.cells #[.int .i64 0, .int .i64 0] 23) = V := ⟨_, rfl⟩; have hbz : Below W1.heap.size W1 W2 := (by rw [← hV]; exact (Below.refl _ _).alloc (Nat.le_refl _) _); have HB2 := Lib.hid (HB1.out.trans (hbz.mono HB1.out.size)); have Hb7_2 : Hid (Blk W2 W1.heap.size 23 #[.int .i64 0, .int .i64 0]) := (by rw [← hV]; exact Blk.new' _ _ _ rfl); have HM_W2 := Lib.hid (PrtsAt.later HM_W1.out hbz (Nat.le_refl _)); obtain ⟨b7, hz⟩ : ∃ b, W1.heap.size = b := ⟨_, rfl⟩; rw [hz] at Hb7_2; have gb7 : W0.heap.size ≤ b7 := (by rw [← hz]; exact HB1.out.size); rw [hV, hz]; clear hV hbz hz
         refine hK.out _ _ ?_ (fun hHeld => ?_)
         · (try dsimp only); (exact HSV.out _ (HBV.out.trans (HB2.out.mono HBV.out.size)))
         clear hK K
         try simp only [otv5_7, Act.put, List.setIfInBounds_toArray, List.set_cons_zero, List.set_cons_succ]
         refine wpAnyH_ready (rs := [3]) (by kernel_rfl) (by simp) ?_
         refine AllReadyH.cons (o := otv5_3) rfl (fun K hK => ?_) AllReadyH.nil
         delta otv5_3
         go_simp
         (refine (tLevel_any _ ⟨ma, pa⟩ lo hi _ ⟨_, rfl, HM_W2.out⟩).mono ?_; rintro e W3 ⟨rfl, hb⟩; rw [HL.out, HLE.out]); have hbz : Below W2.heap.size W2 W3 := (by first | exact hb | exact Below.trans (Below.drew (Below.refl _ _)) hb); clear hb; have HB3 := Lib.hid (HB2.out.trans (hbz.mono HB2.out.size)); have Hb7_3 := Lib.hid (Hb7_2.out.below hbz Hb7_2.out.lt); have HM_W3 := Lib.hid (PrtsAt.later HM_W2.out hbz (Nat.le_refl _)); clear hbz
         refine hK.out _ _ ?_ (fun hHeld => ?_)
         · (try dsimp only); (exact HSV.out _ (HBV.out.trans (HB3.out.mono HBV.out.size)))
         clear hK K
         try simp only [otv5_3, Act.put, List.setIfInBounds_toArray, List.set_cons_zero, List.set_cons_succ]
         refine wpAnyH_take (i := 4) (oi := otv5_4) (v := ?_) rfl (by kernel_rfl) (by kernel_rfl) (by kernel_rfl) (fun _ _ _ h => h) (Or.inl ⟨by rfl, ?_⟩) (by assumption) ?_
         rotate_left
         · ((intro w hSw; delta otv5_4; (try dsimp only at hSw); go_simp) <;> with_reducible rfl)
         try simp only [otv5_4, Act.put, List.setIfInBounds_toArray, List.set_cons_zero, List.set_cons_succ]
         refine wpAnyH_take (i := 5) (oi := otv5_5) (v := ?_) rfl (by kernel_rfl) (by kernel_rfl) (by kernel_rfl) (fun _ _ _ h => h) (Or.inl ⟨by rfl, ?_⟩) (by assumption) ?_
         rotate_left
         · ((intro w hSw; delta otv5_5; (try dsimp only at hSw); go_simp) <;> with_reducible rfl)
         try simp only [otv5_5, Act.put, List.setIfInBounds_toArray, List.set_cons_zero, List.set_cons_succ]
         refine wpAnyH_take (i := 6) (oi := otv5_6) (v := ?_) rfl (by kernel_rfl) (by kernel_rfl) (by kernel_rfl) (fun _ _ _ h => h) (Or.inl ⟨by rfl, ?_⟩) (by assumption) ?_
         rotate_left
         · ((intro w hSw; delta otv5_6; (try dsimp only at hSw); go_simp) <;> with_reducible rfl)
         try simp only [otv5_6, Act.put, List.setIfInBounds_toArray, List.set_cons_zero, List.set_cons_succ]
        case' gr3 =>
         exact AllReadyH.nil
      case' gr1 =>
       refine AllReadyH.cons (o := otv5_7) rfl (fun K hK => ?gs4) ?gr4
       case' gs4 =>
        delta otv5_7
        go_simp
        obtain ⟨W1, hV⟩ : ∃ V, W0.alloc (.cells #[.int .i64 0, .int .i64 0] 23) = V := ⟨_, rfl⟩; have hbz : Below W0.heap.size W0 W1 := (by rw [← hV]; exact (Below.refl _ _).alloc (Nat.le_refl _) _); have HB1 := Lib.hid (HB0.out.trans (hbz.mono HB0.out.size)); have Hb7_1 : Hid (Blk W1 W0.heap.size 23 #[.int .i64 0, .int .i64 0]) := (by rw [← hV]; exact Blk.new' _ _ _ rfl); obtain ⟨b7, hz⟩ : ∃ b, W0.heap.size = b := ⟨_, rfl⟩; rw [hz] at Hb7_1; have gb7 : W0.heap.size ≤ b7 := (by rw [← hz]; exact HB0.out.size); rw [hV, hz]; clear hV hbz hz
        refine hK.out _ _ ?_ (fun hHeld => ?_)
        · (try dsimp only); (exact HSV.out _ (HBV.out.trans (HB1.out.mono HBV.out.size)))
        clear hK K
        try simp only [otv5_7, Act.put, List.setIfInBounds_toArray, List.set_cons_zero, List.set_cons_succ]
        refine wpAnyH_ready (rs := [1]) (by kernel_rfl) (by simp) ?_
        refine AllReadyH.cons (o := otv5_1) rfl (fun K hK => ?_) AllReadyH.nil
        delta otv5_1
        go_simp
        (refine (lmodel_any _ ⟨ma, pa⟩ _ ⟨_, rfl, HA.out.later (HBP.out.trans ((HBV.out.trans (HB1.out.mono HBV.out.size)).mono HBP.out.size)) (Nat.le_refl _)⟩ h8).mono ?_; rintro e W2 ⟨y1, rfl, hown, hb⟩; simp only at hown; have HM_W2 : Hid (PrtsAt W2 W2.heap.size y1 pa) := prts_own rfl hown; have HSHM := Lib.hid (sound_own hown); obtain ⟨Cy1, cy1, rfl, -, -⟩ := HM_W2.out.open_; clear hown); have hbz : Below W1.heap.size W1 W2 := (by first | exact hb | exact Below.trans (Below.drew (Below.refl _ _)) hb); clear hb; have HB2 := Lib.hid (HB1.out.trans (hbz.mono HB1.out.size)); have Hb7_2 := Lib.hid (Hb7_1.out.below hbz Hb7_1.out.lt); clear hbz
        refine hK.out _ _ ?_ (fun hHeld => ?_)
        · (try dsimp only); (exact HSV.out _ (HBV.out.trans (HB2.out.mono HBV.out.size)))
        clear hK K
        try simp only [otv5_1, Act.put, List.setIfInBounds_toArray, List.set_cons_zero, List.set_cons_succ]
        refine wpAnyH_ready (rs := [3]) (by kernel_rfl) (by simp) ?_
        refine AllReadyH.cons (o := otv5_3) rfl (fun K hK => ?_) AllReadyH.nil
        delta otv5_3
        go_simp
        (refine (tLevel_any _ ⟨ma, pa⟩ lo hi _ ⟨_, rfl, HM_W2.out⟩).mono ?_; rintro e W3 ⟨rfl, hb⟩; rw [HL.out, HLE.out]); have hbz : Below W2.heap.size W2 W3 := (by first | exact hb | exact Below.trans (Below.drew (Below.refl _ _)) hb); clear hb; have HB3 := Lib.hid (HB2.out.trans (hbz.mono HB2.out.size)); have Hb7_3 := Lib.hid (Hb7_2.out.below hbz Hb7_2.out.lt); have HM_W3 := Lib.hid (PrtsAt.later HM_W2.out hbz (Nat.le_refl _)); clear hbz
        refine hK.out _ _ ?_ (fun hHeld => ?_)
        · (try dsimp only); (exact HSV.out _ (HBV.out.trans (HB3.out.mono HBV.out.size)))
        clear hK K
        try simp only [otv5_3, Act.put, List.setIfInBounds_toArray, List.set_cons_zero, List.set_cons_succ]
        refine wpAnyH_take (i := 4) (oi := otv5_4) (v := ?_) rfl (by kernel_rfl) (by kernel_rfl) (by kernel_rfl) (fun _ _ _ h => h) (Or.inl ⟨by rfl, ?_⟩) (by assumption) ?_
        rotate_left
        · ((intro w hSw; delta otv5_4; (try dsimp only at hSw); go_simp) <;> with_reducible rfl)
        try simp only [otv5_4, Act.put, List.setIfInBounds_toArray, List.set_cons_zero, List.set_cons_succ]
        refine wpAnyH_take (i := 5) (oi := otv5_5) (v := ?_) rfl (by kernel_rfl) (by kernel_rfl) (by kernel_rfl) (fun _ _ _ h => h) (Or.inl ⟨by rfl, ?_⟩) (by assumption) ?_
        rotate_left
        · ((intro w hSw; delta otv5_5; (try dsimp only at hSw); go_simp) <;> with_reducible rfl)
        try simp only [otv5_5, Act.put, List.setIfInBounds_toArray, List.set_cons_zero, List.set_cons_succ]
        refine wpAnyH_take (i := 6) (oi := otv5_6) (v := ?_) rfl (by kernel_rfl) (by kernel_rfl) (by kernel_rfl) (fun _ _ _ h => h) (Or.inl ⟨by rfl, ?_⟩) (by assumption) ?_
        rotate_left
        · ((intro w hSw; delta otv5_6; (try dsimp only at hSw); go_simp) <;> with_reducible rfl)
        try simp only [otv5_6, Act.put, List.setIfInBounds_toArray, List.set_cons_zero, List.set_cons_succ]
       case' gr4 =>
        exact AllReadyH.nil
      all_goals
       as_aux_lemma =>
        have u0 := Hb7_3.out.cell 0; have u1 := Hb7_3.out.cell 1; have v0 := Hb7_3.out.frozen 0; have v1 := Hb7_3.out.frozen 1; simp only [List.getElem?_toArray, List.getElem?_cons_zero, List.getElem?_cons_succ] at u0 u1
        refine wpAnyH_ready (rs := [8]) (by kernel_rfl) (by simp) ?_
        refine AllReadyH.cons (o := otv5_8) rfl (fun K hK => ?_) AllReadyH.nil
        delta otv5_8
        go_simp
        refine hK.out _ _ ?_ (fun hHeld => ?_)
        · (try dsimp only); (refine HSV.out _ (HBV.out.trans (Below.mono ?_ HBV.out.size)); (repeat (first | exact HB3.out | refine Below.setCell ?_ (by exact gb7) _)); done)
        clear hK K
        try simp only [otv5_8, Act.put, List.setIfInBounds_toArray, List.set_cons_zero, List.set_cons_succ]
        refine wpAnyH_take (i := 9) (oi := otv5_9) (v := ?_) rfl (by kernel_rfl) (by kernel_rfl) (by kernel_rfl) (fun _ _ _ h => h) (Or.inl ⟨by rfl, ?_⟩) (by assumption) ?_
        rotate_left
        · ((intro w hSw; delta otv5_9; (try dsimp only at hSw); go_simp) <;> with_reducible rfl)
        try simp only [otv5_9, Act.put, List.setIfInBounds_toArray, List.set_cons_zero, List.set_cons_succ]
        refine wpAnyH_done (by kernel_rfl) ?_ _
        refine NoPanic.normal ?_
        go_wp2_with fail
        go_meet
        exact ⟨rfl, oneB_set Hb7_3.out gb7 HB3.out HBV.out⟩
    case rest =>
      obtain ⟨rfl, b7, rfl, hnew, hgn, hb⟩ := hcut
      obtain ⟨Vc5, rfl⟩ : ∃ V, V = wc := ⟨_, rfl⟩
      have HZ := Lib.hid hb
      have nb3b7 : ¬ b3 = b7 := by have := Hb3.out.lt; omega
      have nb7b3 : ¬ b7 = b3 := fun e => nb3b7 e.symm
      have nb4b7 : ¬ b4 = b7 := by have := Hb4.out.lt; omega
      have nb7b4 : ¬ b7 = b4 := fun e => nb4b7 e.symm
      have nb5b7 : ¬ b5 = b7 := by have := Hb5.out.lt; omega
      have nb7b5 : ¬ b7 = b5 := fun e => nb5b7 e.symm
      have gb7 : w.heap.size ≤ b7 := Nat.le_trans HBP.out.size hgn
      clear hb hgn HSV k0
      have Gb3 := Lib.hid (Hb3.out.below HZ.out Hb3.out.lt)
      have Gb4 := Lib.hid (Hb4.out.below HZ.out Hb4.out.lt)
      have Gb5 := Lib.hid (Hb5.out.below HZ.out Hb5.out.lt)
      have GHBP := Lib.hid (HBP.out.trans (HZ.out.mono HBP.out.size))
      clear Hb3 Hb4 Hb5 HBP HZ
      have Hb3 := Gb3
      have Hb4 := Gb4
      have Hb5 := Gb5
      have HBP := GHBP
      clear Gb3 Gb4 Gb5 GHBP
      have Hb7 := Lib.hid hnew
      clear hnew
      have cb30 : Vc5.cell? ⟨b3, 0, none⟩ = some (.int .i64 ma) := Hb3.out.cell 0
      have cb31 : Vc5.cell? ⟨b3, 1, none⟩ = some (.slice A pa.length ca) := Hb3.out.cell 1
      have cb50 : Vc5.cell? ⟨b5, 0, none⟩ = some (.int .i64 lo) := Hb5.out.cell 0
      have cb51 : Vc5.cell? ⟨b5, 1, none⟩ = some (.int .i64 hi) := Hb5.out.cell 1
      go_wp2_with fail
      refine (rLevel_any _ ⟨ma, pa⟩ lo hi _ ⟨_, rfl, HA.out.later HBP.out (Nat.le_refl _)⟩).mono ?_
      rintro e Va1 ⟨rfl, hb⟩
      rw [HL.out, HLE.out]
      have HZ := Lib.hid hb
      clear hb
      clear cb30 cb31 cb50 cb51
      have Gb3 := Lib.hid (Hb3.out.below HZ.out Hb3.out.lt)
      have Gb4 := Lib.hid (Hb4.out.below HZ.out Hb4.out.lt)
      have Gb5 := Lib.hid (Hb5.out.below HZ.out Hb5.out.lt)
      have Gb7 := Lib.hid (Hb7.out.below HZ.out Hb7.out.lt)
      have GHBP := Lib.hid (HBP.out.trans (HZ.out.mono HBP.out.size))
      clear Hb3 Hb4 Hb5 Hb7 HBP HZ
      have Hb3 := Gb3
      have Hb4 := Gb4
      have Hb5 := Gb5
      have Hb7 := Gb7
      have HBP := GHBP
      clear Gb3 Gb4 Gb5 Gb7 GHBP
      go_upto_region 7 with (fail)
      obtain ⟨Va2, hV⟩ : ∃ V, Va1.alloc (.cells #[.int .i64 L1, .int .i64 L2] 23) = V := ⟨_, rfl⟩
      have hz : Below Va1.heap.size Va1 Va2 := by rw [← hV]; exact (Below.refl _ _).alloc (Nat.le_refl _) _
      have hnew : Blk Va2 Va1.heap.size 23 #[.int .i64 L1, .int .i64 L2] := by rw [← hV]; exact Blk.new' _ _ _ rfl
      have hgn := HBP.out.size
      have lb3 := Hb3.out.lt
      have lb4 := Hb4.out.lt
      have lb5 := Hb5.out.lt
      have lb7 := Hb7.out.lt
      rw [hV]
      obtain ⟨b9, hbx⟩ : ∃ b, Va1.heap.size = b := ⟨_, rfl⟩
      rw [hbx] at hnew hgn lb3 lb4 lb5 lb7 ⊢
      have gb9 := hgn
      have HZ := Lib.hid hz
      have nb3b9 : ¬ b3 = b9 := by omega
      have nb9b3 : ¬ b9 = b3 := by omega
      have nb4b9 : ¬ b4 = b9 := by omega
      have nb9b4 : ¬ b9 = b4 := by omega
      have nb5b9 : ¬ b5 = b9 := by omega
      have nb9b5 : ¬ b9 = b5 := by omega
      have nb7b9 : ¬ b7 = b9 := by omega
      have nb9b7 : ¬ b9 = b7 := by omega
      clear hV hz hgn hbx lb3 lb4 lb5 lb7
      have Gb3 := Lib.hid (Hb3.out.below HZ.out Hb3.out.lt)
      have Gb4 := Lib.hid (Hb4.out.below HZ.out Hb4.out.lt)
      have Gb5 := Lib.hid (Hb5.out.below HZ.out Hb5.out.lt)
      have Gb7 := Lib.hid (Hb7.out.below HZ.out Hb7.out.lt)
      have GHBP := Lib.hid (HBP.out.trans (HZ.out.mono HBP.out.size))
      clear Hb3 Hb4 Hb5 Hb7 HBP HZ
      have Hb3 := Gb3
      have Hb4 := Gb4
      have Hb5 := Gb5
      have Hb7 := Gb7
      have HBP := GHBP
      clear Gb3 Gb4 Gb5 Gb7 GHBP
      have Hb9 := Lib.hid hnew
      clear hnew
      have cb70 : Va2.cell? ⟨b7, 0, none⟩ = some (.int .i64 L1) := Hb7.out.cell 0
      have cb71 : Va2.cell? ⟨b7, 1, none⟩ = some (.int .i64 L2) := Hb7.out.cell 1
      have cb90 : Va2.cell? ⟨b9, 0, none⟩ = some (.int .i64 L1) := Hb9.out.cell 0
      have cb91 : Va2.cell? ⟨b9, 1, none⟩ = some (.int .i64 L2) := Hb9.out.cell 1
      have cb30 : Va2.cell? ⟨b3, 0, none⟩ = some (.int .i64 ma) := Hb3.out.cell 0
      have cb31 : Va2.cell? ⟨b3, 1, none⟩ = some (.slice A pa.length ca) := Hb3.out.cell 1
      go_wp2_with fail
      refine (lmodel_any _ ⟨ma, pa⟩ _ ⟨_, rfl, HA.out.later HBP.out (Nat.le_refl _)⟩ h8).mono ?_
      rintro e Va3 ⟨y1, rfl, hown, hb⟩
      simp only at hown
      have hm : PrtsAt Va3 Va3.heap.size y1 pa := prts_own rfl hown
      obtain ⟨C1, c1, rfl, -, -⟩ := hm.open_
      have HM := Lib.hid hm
      clear hm hown
      have HZ := Lib.hid hb
      clear hb
      clear cb70 cb71 cb90 cb91 cb30 cb31
      have Gb3 := Lib.hid (Hb3.out.below HZ.out Hb3.out.lt)
      have Gb4 := Lib.hid (Hb4.out.below HZ.out Hb4.out.lt)
      have Gb5 := Lib.hid (Hb5.out.below HZ.out Hb5.out.lt)
      have Gb7 := Lib.hid (Hb7.out.below HZ.out Hb7.out.lt)
      have Gb9 := Lib.hid (Hb9.out.below HZ.out Hb9.out.lt)
      have GHBP := Lib.hid (HBP.out.trans (HZ.out.mono HBP.out.size))
      clear Hb3 Hb4 Hb5 Hb7 Hb9 HBP HZ
      have Hb3 := Gb3
      have Hb4 := Gb4
      have Hb5 := Gb5
      have Hb7 := Gb7
      have Hb9 := Gb9
      have HBP := GHBP
      clear Gb3 Gb4 Gb5 Gb7 Gb9 GHBP
      go_wp2_with fail
      refine (tRange_any _ ⟨ma, pa⟩ _ ⟨_, rfl, HM.out⟩).mono ?_
      rintro e Va4 ⟨rfl, hb⟩
      rw [HR.out, HEa.out]
      have HZ := Lib.hid hb
      clear hb
      have Gb3 := Lib.hid (Hb3.out.below HZ.out Hb3.out.lt)
      have Gb4 := Lib.hid (Hb4.out.below HZ.out Hb4.out.lt)
      have Gb5 := Lib.hid (Hb5.out.below HZ.out Hb5.out.lt)
      have Gb7 := Lib.hid (Hb7.out.below HZ.out Hb7.out.lt)
      have Gb9 := Lib.hid (Hb9.out.below HZ.out Hb9.out.lt)
      have GHBP := Lib.hid (HBP.out.trans (HZ.out.mono HBP.out.size))
      clear Hb3 Hb4 Hb5 Hb7 Hb9 HBP HZ
      have Hb3 := Gb3
      have Hb4 := Gb4
      have Hb5 := Gb5
      have Hb7 := Gb7
      have Hb9 := Gb9
      have HBP := GHBP
      clear Gb3 Gb4 Gb5 Gb7 Gb9 GHBP
      clear HM
      have w0 := Hb7.out.frozen 0
      have w1 := Hb7.out.frozen 1
      have cb70 : Va4.cell? ⟨b7, 0, none⟩ = some (.int .i64 L1) := Hb7.out.cell 0
      have cb71 : Va4.cell? ⟨b7, 1, none⟩ = some (.int .i64 L2) := Hb7.out.cell 1
      go_upto_region 10 with (fail)
      obtain ⟨Va5, hV⟩ : ∃ V, (Va4.setCell ⟨b7, 0, none⟩ (.int .i64 R1)).setCell ⟨b7, 1, none⟩ (.int .i64 R2) = V := ⟨_, rfl⟩
      have Gb3 : Hid (Blk Va5 b3 31 #[.int .i64 ma, .slice A pa.length ca]) := by rw [← hV]; exact (Hb3.out.far_ (p := ⟨b7, 0, none⟩) (by exact nb3b7) _).far_ (p := ⟨b7, 1, none⟩) (by exact nb3b7) _
      have Gb4 : Hid (Blk Va5 b4 31 #[.int .i64 mb, .slice B pb.length cb]) := by rw [← hV]; exact (Hb4.out.far_ (p := ⟨b7, 0, none⟩) (by exact nb4b7) _).far_ (p := ⟨b7, 1, none⟩) (by exact nb4b7) _
      have Gb5 : Hid (Blk Va5 b5 23 #[.int .i64 lo, .int .i64 hi]) := by rw [← hV]; exact (Hb5.out.far_ (p := ⟨b7, 0, none⟩) (by exact nb5b7) _).far_ (p := ⟨b7, 1, none⟩) (by exact nb5b7) _
      have Gb7 : Hid (Blk Va5 b7 23 #[.int .i64 R1, .int .i64 R2]) := by rw [← hV]; exact (Hb7.out.set_ 0 _).set_ 1 _
      have Gb9 : Hid (Blk Va5 b9 23 #[.int .i64 L1, .int .i64 L2]) := by rw [← hV]; exact (Hb9.out.far_ (p := ⟨b7, 0, none⟩) (by exact nb9b7) _).far_ (p := ⟨b7, 1, none⟩) (by exact nb9b7) _
      have GHBP : Hid (Below w.heap.size w Va5) := by rw [← hV]; exact (HBP.out.setCell (p := ⟨b7, 0, none⟩) gb7 _).setCell (p := ⟨b7, 1, none⟩) gb7 _
      clear cb70 cb71
      rw [hV]
      clear w0 w1 hV Hb3 Hb4 Hb5 Hb7 Hb9 HBP
      have Hb3 := Gb3
      have Hb4 := Gb4
      have Hb5 := Gb5
      have Hb7 := Gb7
      have Hb9 := Gb9
      have HBP := GHBP
      clear Gb3 Gb4 Gb5 Gb7 Gb9 GHBP
      have cb30 : Va5.cell? ⟨b3, 0, none⟩ = some (.int .i64 ma) := Hb3.out.cell 0
      have cb31 : Va5.cell? ⟨b3, 1, none⟩ = some (.slice A pa.length ca) := Hb3.out.cell 1
      go_wp2_with fail
      refine (rRange_any _ ⟨ma, pa⟩ _ ⟨_, rfl, HA.out.later HBP.out (Nat.le_refl _)⟩).mono ?_
      rintro e Va6 ⟨rfl, hb⟩
      rw [HR.out, HEa.out]
      have HZ := Lib.hid hb
      clear hb
      clear cb30 cb31
      have Gb3 := Lib.hid (Hb3.out.below HZ.out Hb3.out.lt)
      have Gb4 := Lib.hid (Hb4.out.below HZ.out Hb4.out.lt)
      have Gb5 := Lib.hid (Hb5.out.below HZ.out Hb5.out.lt)
      have Gb7 := Lib.hid (Hb7.out.below HZ.out Hb7.out.lt)
      have Gb9 := Lib.hid (Hb9.out.below HZ.out Hb9.out.lt)
      have GHBP := Lib.hid (HBP.out.trans (HZ.out.mono HBP.out.size))
      clear Hb3 Hb4 Hb5 Hb7 Hb9 HBP HZ
      have Hb3 := Gb3
      have Hb4 := Gb4
      have Hb5 := Gb5
      have Hb7 := Gb7
      have Hb9 := Gb9
      have HBP := GHBP
      clear Gb3 Gb4 Gb5 Gb7 Gb9 GHBP
      have w0 := Hb9.out.frozen 0
      have w1 := Hb9.out.frozen 1
      have cb90 : Va6.cell? ⟨b9, 0, none⟩ = some (.int .i64 L1) := Hb9.out.cell 0
      have cb91 : Va6.cell? ⟨b9, 1, none⟩ = some (.int .i64 L2) := Hb9.out.cell 1
      go_upto_region 11 with (fail)
      obtain ⟨Va7, hV⟩ : ∃ V, (Va6.setCell ⟨b9, 0, none⟩ (.int .i64 R1)).setCell ⟨b9, 1, none⟩ (.int .i64 R2) = V := ⟨_, rfl⟩
      have Gb3 : Hid (Blk Va7 b3 31 #[.int .i64 ma, .slice A pa.length ca]) := by rw [← hV]; exact (Hb3.out.far_ (p := ⟨b9, 0, none⟩) (by exact nb3b9) _).far_ (p := ⟨b9, 1, none⟩) (by exact nb3b9) _
      have Gb4 : Hid (Blk Va7 b4 31 #[.int .i64 mb, .slice B pb.length cb]) := by rw [← hV]; exact (Hb4.out.far_ (p := ⟨b9, 0, none⟩) (by exact nb4b9) _).far_ (p := ⟨b9, 1, none⟩) (by exact nb4b9) _
      have Gb5 : Hid (Blk Va7 b5 23 #[.int .i64 lo, .int .i64 hi]) := by rw [← hV]; exact (Hb5.out.far_ (p := ⟨b9, 0, none⟩) (by exact nb5b9) _).far_ (p := ⟨b9, 1, none⟩) (by exact nb5b9) _
      have Gb7 : Hid (Blk Va7 b7 23 #[.int .i64 R1, .int .i64 R2]) := by rw [← hV]; exact (Hb7.out.far_ (p := ⟨b9, 0, none⟩) (by exact nb7b9) _).far_ (p := ⟨b9, 1, none⟩) (by exact nb7b9) _
      have Gb9 : Hid (Blk Va7 b9 23 #[.int .i64 R1, .int .i64 R2]) := by rw [← hV]; exact (Hb9.out.set_ 0 _).set_ 1 _
      have GHBP : Hid (Below w.heap.size w Va7) := by rw [← hV]; exact (HBP.out.setCell (p := ⟨b9, 0, none⟩) gb9 _).setCell (p := ⟨b9, 1, none⟩) gb9 _
      clear cb90 cb91
      rw [hV]
      clear w0 w1 hV Hb3 Hb4 Hb5 Hb7 Hb9 HBP
      have Hb3 := Gb3
      have Hb4 := Gb4
      have Hb5 := Gb5
      have Hb7 := Gb7
      have Hb9 := Gb9
      have HBP := GHBP
      clear Gb3 Gb4 Gb5 Gb7 Gb9 GHBP
      have cb70 : Va7.cell? ⟨b7, 0, none⟩ = some (.int .i64 R1) := Hb7.out.cell 0
      have cb71 : Va7.cell? ⟨b7, 1, none⟩ = some (.int .i64 R2) := Hb7.out.cell 1
      have cb90 : Va7.cell? ⟨b9, 0, none⟩ = some (.int .i64 R1) := Hb9.out.cell 0
      have cb91 : Va7.cell? ⟨b9, 1, none⟩ = some (.int .i64 R2) := Hb9.out.cell 1
      go_upto_region 13 with (fail)
      clear cb70 cb71 cb90 cb91
      have HSV : Hid (∀ U, Below Va7.heap.size Va7 U → U.cell? ⟨b3, 0, none⟩ = some (.int .i64 ma) ∧ U.cell? ⟨b3, 1, none⟩ = some (.slice A pa.length ca) ∧ U.cell? ⟨b4, 0, none⟩ = some (.int .i64 mb) ∧ U.cell? ⟨b4, 1, none⟩ = some (.slice B pb.length cb)) := fun U hU => by
        have kb3 := Hb3.out.below hU Hb3.out.lt
        have kb4 := Hb4.out.below hU Hb4.out.lt
        exact ⟨kb3.cell 0, kb3.cell 1, kb4.cell 0, kb4.cell 1⟩
      have k0 := HSV.out _ (Below.drew (Below.refl Va7.heap.size Va7))
      go_cut [11, 8] from 70 to 78 (fun p q wx => q = .int .i64 JE ∧ OneM Va7 J pj p wx)
      case first =>
        refine wp_region_noPanic ?_
        refine wp_region_held_drew (S := (fun w' => w'.cell? ⟨b3, 0, none⟩ = some (.int .i64 ma) ∧ w'.cell? ⟨b3, 1, none⟩ = some (.slice A pa.length ca) ∧ w'.cell? ⟨b4, 0, none⟩ = some (.int .i64 mb) ∧ w'.cell? ⟨b4, 1, none⟩ = some (.slice B pb.length cb))) (by kernel_rfl) ?_ (fun hHeld => ?_)
        · (try dsimp only); (exact k0)
        refine wpAnyH_take (i := 0) (oi := otv13_0) (v := ?_) rfl (by kernel_rfl) (by kernel_rfl) (by kernel_rfl) (fun _ _ _ h => h) (Or.inl ⟨by rfl, ?_⟩) (by assumption) ?_
        rotate_left
        · ((intro w hSw; delta otv13_0; (try dsimp only at hSw); go_simp) <;> with_reducible rfl)
        try simp only [otv13_0, Act.put, List.setIfInBounds_toArray, List.set_cons_zero, List.set_cons_succ]
        refine wpAnyH_take (i := 2) (oi := otv13_2) (v := ?_) rfl (by kernel_rfl) (by kernel_rfl) (by kernel_rfl) (fun _ _ _ h => h) (Or.inl ⟨by rfl, ?_⟩) (by assumption) ?_
        rotate_left
        · ((intro w hSw; delta otv13_2; (try dsimp only at hSw); go_simp) <;> with_reducible rfl)
        try simp only [otv13_2, Act.put, List.setIfInBounds_toArray, List.set_cons_zero, List.set_cons_succ]
        obtain ⟨W0, hW0⟩ : ∃ V, Va7.drew = V := ⟨_, rfl⟩; rw [hW0] at hHeld ⊢; have HBV : Hid (Below Va7.heap.size Va7 W0) := (by rw [← hW0]; exact Below.drew (Below.refl _ _)); have HB0 := Lib.hid (Below.refl W0.heap.size W0); clear hW0
        refine wpAnyH_ready (rs := [1, 8]) (by kernel_rfl) (by simp) ?_
        refine AllReadyH.cons (o := otv13_1) rfl (fun K hK => ?gs5) ?gr5
        case' gs5 =>
         delta otv13_1
         go_simp
         (refine (lmodel_any _ ⟨ma, pa⟩ _ ⟨_, rfl, HA.out.later (HBP.out.trans ((HBV.out.trans (HB0.out.mono HBV.out.size)).mono HBP.out.size)) (Nat.le_refl _)⟩ h8).mono ?_; rintro e W1 ⟨y1, rfl, hown, hb⟩; simp only at hown; have HM_W1 : Hid (PrtsAt W1 W1.heap.size y1 pa) := prts_own rfl hown; have HSHM := Lib.hid (sound_own hown); obtain ⟨Cy1, cy1, rfl, -, -⟩ := HM_W1.out.open_; clear hown); have hbz : Below W0.heap.size W0 W1 := (by first | exact hb | exact Below.trans (Below.drew (Below.refl _ _)) hb); clear hb; have HB1 := Lib.hid (HB0.out.trans (hbz.mono HB0.out.size)); clear hbz
         refine hK.out _ _ ?_ (fun hHeld => ?_)
         · (try dsimp only); (exact HSV.out _ (HBV.out.trans (HB1.out.mono HBV.out.size)))
         clear hK K
         try simp only [otv13_1, Act.put, List.setIfInBounds_toArray, List.set_cons_zero, List.set_cons_succ]
         refine wpAnyH_ready (rs := [3, 8]) (by kernel_rfl) (by simp) ?_
         refine AllReadyH.cons (o := otv13_3) rfl (fun K hK => ?gs6) ?gr6
         case' gs6 =>
          delta otv13_3
          go_simp
          (refine (lmodel_any _ ⟨mb, pb⟩ _ ⟨_, rfl, HB.out.later (HBP.out.trans ((HBV.out.trans (HB1.out.mono HBV.out.size)).mono HBP.out.size)) (Nat.le_refl _)⟩ h9).mono ?_; rintro e W2 ⟨y2, rfl, hown, hb⟩; simp only at hown; have HN_W2 : Hid (PrtsAt W2 W2.heap.size y2 pb) := prts_own rfl hown; have HSHN := Lib.hid (sound_own hown); obtain ⟨Cy2, cy2, rfl, -, -⟩ := HN_W2.out.open_; clear hown); have hbz : Below W1.heap.size W1 W2 := (by first | exact hb | exact Below.trans (Below.drew (Below.refl _ _)) hb); clear hb; have HB2 := Lib.hid (HB1.out.trans (hbz.mono HB1.out.size)); have HM_W2 := Lib.hid (PrtsAt.later HM_W1.out hbz (Nat.le_refl _)); clear hbz
          refine hK.out _ _ ?_ (fun hHeld => ?_)
          · (try dsimp only); (exact HSV.out _ (HBV.out.trans (HB2.out.mono HBV.out.size)))
          clear hK K
          try simp only [otv13_3, Act.put, List.setIfInBounds_toArray, List.set_cons_zero, List.set_cons_succ]
          refine wpAnyH_ready (rs := [4, 8]) (by kernel_rfl) (by simp) ?_
          refine AllReadyH.cons (o := otv13_4) rfl (fun K hK => ?gs7) ?gr7
          case' gs7 =>
           delta otv13_4
           go_simp
           (refine (tJoin_own _ _ ⟨ma, pa⟩ ⟨mb, pb⟩ _ HM_W2.out HN_W2.out HSHM.out HSHN.out).mono ?_; rintro e W3 ⟨y3, rfl, hown, hb⟩; rw [HJ.out, HJE.out]; rw [HJ.out] at hown; simp only at hown; have HO_W3 := Lib.hid hown; have hp := prts_own rfl hown; obtain ⟨C3, c3, rfl, -, -⟩ := hp.open_; clear hp hown); have hbz : Below W2.heap.size W2 W3 := (by first | exact hb | exact Below.trans (Below.drew (Below.refl _ _)) hb); clear hb; have HB3 := Lib.hid (HB2.out.trans (hbz.mono HB2.out.size)); have HM_W3 := Lib.hid (PrtsAt.later HM_W2.out hbz (Nat.le_refl _)); have HN_W3 := Lib.hid (PrtsAt.later HN_W2.out hbz (Nat.le_refl _)); clear hbz
           refine hK.out _ _ ?_ (fun hHeld => ?_)
           · (try dsimp only); (exact HSV.out _ (HBV.out.trans (HB3.out.mono HBV.out.size)))
           clear hK K
           try simp only [otv13_4, Act.put, List.setIfInBounds_toArray, List.set_cons_zero, List.set_cons_succ]
           refine wpAnyH_take (i := 5) (oi := otv13_5) (v := ?_) rfl (by kernel_rfl) (by kernel_rfl) (by kernel_rfl) (fun _ _ _ h => h) (Or.inl ⟨by rfl, ?_⟩) (by assumption) ?_
           rotate_left
           · ((intro w hSw; delta otv13_5; (try dsimp only at hSw); go_simp) <;> with_reducible rfl)
           try simp only [otv13_5, Act.put, List.setIfInBounds_toArray, List.set_cons_zero, List.set_cons_succ]
           refine wpAnyH_take (i := 6) (oi := otv13_6) (v := ?_) rfl (by kernel_rfl) (by kernel_rfl) (by kernel_rfl) (fun _ _ _ h => h) (Or.inl ⟨by rfl, ?_⟩) (by assumption) ?_
           rotate_left
           · ((intro w hSw; delta otv13_6; (try dsimp only at hSw); go_simp) <;> with_reducible rfl)
           try simp only [otv13_6, Act.put, List.setIfInBounds_toArray, List.set_cons_zero, List.set_cons_succ]
           refine wpAnyH_take (i := 7) (oi := otv13_7) (v := ?_) rfl (by kernel_rfl) (by kernel_rfl) (by kernel_rfl) (fun _ _ _ h => h) (Or.inl ⟨by rfl, ?_⟩) (by assumption) ?_
           rotate_left
           · ((intro w hSw; delta otv13_7; (try dsimp only at hSw); go_simp) <;> with_reducible rfl)
           try simp only [otv13_7, Act.put, List.setIfInBounds_toArray, List.set_cons_zero, List.set_cons_succ]
           refine wpAnyH_ready (rs := [8]) (by kernel_rfl) (by simp) ?_
           refine AllReadyH.cons (o := otv13_8) rfl (fun K hK => ?_) AllReadyH.nil
           delta otv13_8
           go_simp
           obtain ⟨W4, hV⟩ : ∃ V, W3.alloc (.cells #[.int .i64 0, .slice none 0 0] 35) = V := ⟨_, rfl⟩; have hbz : Below W3.heap.size W3 W4 := (by rw [← hV]; exact (Below.refl _ _).alloc (Nat.le_refl _) _); have HB4 := Lib.hid (HB3.out.trans (hbz.mono HB3.out.size)); have Hb11_4 : Hid (Blk W4 W3.heap.size 35 #[.int .i64 0, .slice none 0 0]) := (by rw [← hV]; exact Blk.new' _ _ _ rfl); have HM_W4 := Lib.hid (PrtsAt.later HM_W3.out hbz (Nat.le_refl _)); have HN_W4 := Lib.hid (PrtsAt.later HN_W3.out hbz (Nat.le_refl _)); have HO_W4 := Lib.hid (own_below HO_W3.out hbz (Nat.le_refl _)); obtain ⟨b11, hz⟩ : ∃ b, W3.heap.size = b := ⟨_, rfl⟩; rw [hz] at Hb11_4; have gb11 : W0.heap.size ≤ b11 := (by rw [← hz]; exact HB3.out.size); rw [hV, hz]; clear hV hbz hz
           refine hK.out _ _ ?_ (fun hHeld => ?_)
           · (try dsimp only); (exact HSV.out _ (HBV.out.trans (HB4.out.mono HBV.out.size)))
           clear hK K
           try simp only [otv13_8, Act.put, List.setIfInBounds_toArray, List.set_cons_zero, List.set_cons_succ]
          case' gr7 =>
           refine AllReadyH.cons (o := otv13_8) rfl (fun K hK => ?gs8) ?gr8
           case' gs8 =>
            delta otv13_8
            go_simp
            obtain ⟨W3, hV⟩ : ∃ V, W2.alloc (.cells #[.int .i64 0, .slice none 0 0] 35) = V := ⟨_, rfl⟩; have hbz : Below W2.heap.size W2 W3 := (by rw [← hV]; exact (Below.refl _ _).alloc (Nat.le_refl _) _); have HB3 := Lib.hid (HB2.out.trans (hbz.mono HB2.out.size)); have Hb11_3 : Hid (Blk W3 W2.heap.size 35 #[.int .i64 0, .slice none 0 0]) := (by rw [← hV]; exact Blk.new' _ _ _ rfl); have HM_W3 := Lib.hid (PrtsAt.later HM_W2.out hbz (Nat.le_refl _)); have HN_W3 := Lib.hid (PrtsAt.later HN_W2.out hbz (Nat.le_refl _)); obtain ⟨b11, hz⟩ : ∃ b, W2.heap.size = b := ⟨_, rfl⟩; rw [hz] at Hb11_3; have gb11 : W0.heap.size ≤ b11 := (by rw [← hz]; exact HB2.out.size); rw [hV, hz]; clear hV hbz hz
            refine hK.out _ _ ?_ (fun hHeld => ?_)
            · (try dsimp only); (exact HSV.out _ (HBV.out.trans (HB3.out.mono HBV.out.size)))
            clear hK K
            try simp only [otv13_8, Act.put, List.setIfInBounds_toArray, List.set_cons_zero, List.set_cons_succ]
            refine wpAnyH_ready (rs := [4]) (by kernel_rfl) (by simp) ?_
            refine AllReadyH.cons (o := otv13_4) rfl (fun K hK => ?_) AllReadyH.nil
            delta otv13_4
            go_simp
            (refine (tJoin_own _ _ ⟨ma, pa⟩ ⟨mb, pb⟩ _ HM_W3.out HN_W3.out HSHM.out HSHN.out).mono ?_; rintro e W4 ⟨y3, rfl, hown, hb⟩; rw [HJ.out, HJE.out]; rw [HJ.out] at hown; simp only at hown; have HO_W4 := Lib.hid hown; have hp := prts_own rfl hown; obtain ⟨C3, c3, rfl, -, -⟩ := hp.open_; clear hp hown); have hbz : Below W3.heap.size W3 W4 := (by first | exact hb | exact Below.trans (Below.drew (Below.refl _ _)) hb); clear hb; have HB4 := Lib.hid (HB3.out.trans (hbz.mono HB3.out.size)); have Hb11_4 := Lib.hid (Hb11_3.out.below hbz Hb11_3.out.lt); have HM_W4 := Lib.hid (PrtsAt.later HM_W3.out hbz (Nat.le_refl _)); have HN_W4 := Lib.hid (PrtsAt.later HN_W3.out hbz (Nat.le_refl _)); clear hbz
            refine hK.out _ _ ?_ (fun hHeld => ?_)
            · (try dsimp only); (exact HSV.out _ (HBV.out.trans (HB4.out.mono HBV.out.size)))
            clear hK K
            try simp only [otv13_4, Act.put, List.setIfInBounds_toArray, List.set_cons_zero, List.set_cons_succ]
            refine wpAnyH_take (i := 5) (oi := otv13_5) (v := ?_) rfl (by kernel_rfl) (by kernel_rfl) (by kernel_rfl) (fun _ _ _ h => h) (Or.inl ⟨by rfl, ?_⟩) (by assumption) ?_
            rotate_left
            · ((intro w hSw; delta otv13_5; (try dsimp only at hSw); go_simp) <;> with_reducible rfl)
            try simp only [otv13_5, Act.put, List.setIfInBounds_toArray, List.set_cons_zero, List.set_cons_succ]
            refine wpAnyH_take (i := 6) (oi := otv13_6) (v := ?_) rfl (by kernel_rfl) (by kernel_rfl) (by kernel_rfl) (fun _ _ _ h => h) (Or.inl ⟨by rfl, ?_⟩) (by assumption) ?_
            rotate_left
            · ((intro w hSw; delta otv13_6; (try dsimp only at hSw); go_simp) <;> with_reducible rfl)
            try simp only [otv13_6, Act.put, List.setIfInBounds_toArray, List.set_cons_zero, List.set_cons_succ]
            refine wpAnyH_take (i := 7) (oi := otv13_7) (v := ?_) rfl (by kernel_rfl) (by kernel_rfl) (by kernel_rfl) (fun _ _ _ h => h) (Or.inl ⟨by rfl, ?_⟩) (by assumption) ?_
            rotate_left
            · ((intro w hSw; delta otv13_7; (try dsimp only at hSw); go_simp) <;> with_reducible rfl)
            try simp only [otv13_7, Act.put, List.setIfInBounds_toArray, List.set_cons_zero, List.set_cons_succ]
           case' gr8 =>
            exact AllReadyH.nil
         case' gr6 =>
          refine AllReadyH.cons (o := otv13_8) rfl (fun K hK => ?gs9) ?gr9
          case' gs9 =>
           delta otv13_8
           go_simp
           obtain ⟨W2, hV⟩ : ∃ V, W1.alloc (.cells #[.int .i64 0, .slice none 0 0] 35) = V := ⟨_, rfl⟩; have hbz : Below W1.heap.size W1 W2 := (by rw [← hV]; exact (Below.refl _ _).alloc (Nat.le_refl _) _); have HB2 := Lib.hid (HB1.out.trans (hbz.mono HB1.out.size)); have Hb11_2 : Hid (Blk W2 W1.heap.size 35 #[.int .i64 0, .slice none 0 0]) := (by rw [← hV]; exact Blk.new' _ _ _ rfl); have HM_W2 := Lib.hid (PrtsAt.later HM_W1.out hbz (Nat.le_refl _)); obtain ⟨b11, hz⟩ : ∃ b, W1.heap.size = b := ⟨_, rfl⟩; rw [hz] at Hb11_2; have gb11 : W0.heap.size ≤ b11 := (by rw [← hz]; exact HB1.out.size); rw [hV, hz]; clear hV hbz hz
           refine hK.out _ _ ?_ (fun hHeld => ?_)
           · (try dsimp only); (exact HSV.out _ (HBV.out.trans (HB2.out.mono HBV.out.size)))
           clear hK K
           try simp only [otv13_8, Act.put, List.setIfInBounds_toArray, List.set_cons_zero, List.set_cons_succ]
           refine wpAnyH_ready (rs := [3]) (by kernel_rfl) (by simp) ?_
           refine AllReadyH.cons (o := otv13_3) rfl (fun K hK => ?_) AllReadyH.nil
           delta otv13_3
           go_simp
           (refine (lmodel_any _ ⟨mb, pb⟩ _ ⟨_, rfl, HB.out.later (HBP.out.trans ((HBV.out.trans (HB2.out.mono HBV.out.size)).mono HBP.out.size)) (Nat.le_refl _)⟩ h9).mono ?_; rintro e W3 ⟨y2, rfl, hown, hb⟩; simp only at hown; have HN_W3 : Hid (PrtsAt W3 W3.heap.size y2 pb) := prts_own rfl hown; have HSHN := Lib.hid (sound_own hown); obtain ⟨Cy2, cy2, rfl, -, -⟩ := HN_W3.out.open_; clear hown); have hbz : Below W2.heap.size W2 W3 := (by first | exact hb | exact Below.trans (Below.drew (Below.refl _ _)) hb); clear hb; have HB3 := Lib.hid (HB2.out.trans (hbz.mono HB2.out.size)); have Hb11_3 := Lib.hid (Hb11_2.out.below hbz Hb11_2.out.lt); have HM_W3 := Lib.hid (PrtsAt.later HM_W2.out hbz (Nat.le_refl _)); clear hbz
           refine hK.out _ _ ?_ (fun hHeld => ?_)
           · (try dsimp only); (exact HSV.out _ (HBV.out.trans (HB3.out.mono HBV.out.size)))
           clear hK K
           try simp only [otv13_3, Act.put, List.setIfInBounds_toArray, List.set_cons_zero, List.set_cons_succ]
           refine wpAnyH_ready (rs := [4]) (by kernel_rfl) (by simp) ?_
           refine AllReadyH.cons (o := otv13_4) rfl (fun K hK => ?_) AllReadyH.nil
           delta otv13_4
           go_simp
           (refine (tJoin_own _ _ ⟨ma, pa⟩ ⟨mb, pb⟩ _ HM_W3.out HN_W3.out HSHM.out HSHN.out).mono ?_; rintro e W4 ⟨y3, rfl, hown, hb⟩; rw [HJ.out, HJE.out]; rw [HJ.out] at hown; simp only at hown; have HO_W4 := Lib.hid hown; have hp := prts_own rfl hown; obtain ⟨C3, c3, rfl, -, -⟩ := hp.open_; clear hp hown); have hbz : Below W3.heap.size W3 W4 := (by first | exact hb | exact Below.trans (Below.drew (Below.refl _ _)) hb); clear hb; have HB4 := Lib.hid (HB3.out.trans (hbz.mono HB3.out.size)); have Hb11_4 := Lib.hid (Hb11_3.out.below hbz Hb11_3.out.lt); have HM_W4 := Lib.hid (PrtsAt.later HM_W3.out hbz (Nat.le_refl _)); have HN_W4 := Lib.hid (PrtsAt.later HN_W3.out hbz (Nat.le_refl _)); clear hbz
           refine hK.out _ _ ?_ (fun hHeld => ?_)
           · (try dsimp only); (exact HSV.out _ (HBV.out.trans (HB4.out.mono HBV.out.size)))
           clear hK K
           try simp only [otv13_4, Act.put, List.setIfInBounds_toArray, List.set_cons_zero, List.set_cons_succ]
           refine wpAnyH_take (i := 5) (oi := otv13_5) (v := ?_) rfl (by kernel_rfl) (by kernel_rfl) (by kernel_rfl) (fun _ _ _ h => h) (Or.inl ⟨by rfl, ?_⟩) (by assumption) ?_
           rotate_left
           · ((intro w hSw; delta otv13_5; (try dsimp only at hSw); go_simp) <;> with_reducible rfl)
           try simp only [otv13_5, Act.put, List.setIfInBounds_toArray, List.set_cons_zero, List.set_cons_succ]
           refine wpAnyH_take (i := 6) (oi := otv13_6) (v := ?_) rfl (by kernel_rfl) (by kernel_rfl) (by kernel_rfl) (fun _ _ _ h => h) (Or.inl ⟨by rfl, ?_⟩) (by assumption) ?_
           rotate_left
           · ((intro w hSw; delta otv13_6; (try dsimp only at hSw); go_simp) <;> with_reducible rfl)
           try simp only [otv13_6, Act.put, List.setIfInBounds_toArray, List.set_cons_zero, List.set_cons_succ]
           refine wpAnyH_take (i := 7) (oi := otv13_7) (v := ?_) rfl (by kernel_rfl) (by kernel_rfl) (by kernel_rfl) (fun _ _ _ h => h) (Or.inl ⟨by rfl, ?_⟩) (by assumption) ?_
           rotate_left
           · ((intro w hSw; delta otv13_7; (try dsimp only at hSw); go_simp) <;> with_reducible rfl)
           try simp only [otv13_7, Act.put, List.setIfInBounds_toArray, List.set_cons_zero, List.set_cons_succ]
          case' gr9 =>
           exact AllReadyH.nil
        case' gr5 =>
         refine AllReadyH.cons (o := otv13_8) rfl (fun K hK => ?gs10) ?gr10
         case' gs10 =>
          delta otv13_8
          go_simp
          obtain ⟨W1, hV⟩ : ∃ V, W0.alloc (.cells #[.int .i64 0, .slice none 0 0] 35) = V := ⟨_, rfl⟩; have hbz : Below W0.heap.size W0 W1 := (by rw [← hV]; exact (Below.refl _ _).alloc (Nat.le_refl _) _); have HB1 := Lib.hid (HB0.out.trans (hbz.mono HB0.out.size)); have Hb11_1 : Hid (Blk W1 W0.heap.size 35 #[.int .i64 0, .slice none 0 0]) := (by rw [← hV]; exact Blk.new' _ _ _ rfl); obtain ⟨b11, hz⟩ : ∃ b, W0.heap.size = b := ⟨_, rfl⟩; rw [hz] at Hb11_1; have gb11 : W0.heap.size ≤ b11 := (by rw [← hz]; exact HB0.out.size); rw [hV, hz]; clear hV hbz hz
          refine hK.out _ _ ?_ (fun hHeld => ?_)
          · (try dsimp only); (exact HSV.out _ (HBV.out.trans (HB1.out.mono HBV.out.size)))
          clear hK K
          try simp only [otv13_8, Act.put, List.setIfInBounds_toArray, List.set_cons_zero, List.set_cons_succ]
          refine wpAnyH_ready (rs := [1]) (by kernel_rfl) (by simp) ?_
          refine AllReadyH.cons (o := otv13_1) rfl (fun K hK => ?_) AllReadyH.nil
          delta otv13_1
          go_simp
          (refine (lmodel_any _ ⟨ma, pa⟩ _ ⟨_, rfl, HA.out.later (HBP.out.trans ((HBV.out.trans (HB1.out.mono HBV.out.size)).mono HBP.out.size)) (Nat.le_refl _)⟩ h8).mono ?_; rintro e W2 ⟨y1, rfl, hown, hb⟩; simp only at hown; have HM_W2 : Hid (PrtsAt W2 W2.heap.size y1 pa) := prts_own rfl hown; have HSHM := Lib.hid (sound_own hown); obtain ⟨Cy1, cy1, rfl, -, -⟩ := HM_W2.out.open_; clear hown); have hbz : Below W1.heap.size W1 W2 := (by first | exact hb | exact Below.trans (Below.drew (Below.refl _ _)) hb); clear hb; have HB2 := Lib.hid (HB1.out.trans (hbz.mono HB1.out.size)); have Hb11_2 := Lib.hid (Hb11_1.out.below hbz Hb11_1.out.lt); clear hbz
          refine hK.out _ _ ?_ (fun hHeld => ?_)
          · (try dsimp only); (exact HSV.out _ (HBV.out.trans (HB2.out.mono HBV.out.size)))
          clear hK K
          try simp only [otv13_1, Act.put, List.setIfInBounds_toArray, List.set_cons_zero, List.set_cons_succ]
          refine wpAnyH_ready (rs := [3]) (by kernel_rfl) (by simp) ?_
          refine AllReadyH.cons (o := otv13_3) rfl (fun K hK => ?_) AllReadyH.nil
          delta otv13_3
          go_simp
          (refine (lmodel_any _ ⟨mb, pb⟩ _ ⟨_, rfl, HB.out.later (HBP.out.trans ((HBV.out.trans (HB2.out.mono HBV.out.size)).mono HBP.out.size)) (Nat.le_refl _)⟩ h9).mono ?_; rintro e W3 ⟨y2, rfl, hown, hb⟩; simp only at hown; have HN_W3 : Hid (PrtsAt W3 W3.heap.size y2 pb) := prts_own rfl hown; have HSHN := Lib.hid (sound_own hown); obtain ⟨Cy2, cy2, rfl, -, -⟩ := HN_W3.out.open_; clear hown); have hbz : Below W2.heap.size W2 W3 := (by first | exact hb | exact Below.trans (Below.drew (Below.refl _ _)) hb); clear hb; have HB3 := Lib.hid (HB2.out.trans (hbz.mono HB2.out.size)); have Hb11_3 := Lib.hid (Hb11_2.out.below hbz Hb11_2.out.lt); have HM_W3 := Lib.hid (PrtsAt.later HM_W2.out hbz (Nat.le_refl _)); clear hbz
          refine hK.out _ _ ?_ (fun hHeld => ?_)
          · (try dsimp only); (exact HSV.out _ (HBV.out.trans (HB3.out.mono HBV.out.size)))
          clear hK K
          try simp only [otv13_3, Act.put, List.setIfInBounds_toArray, List.set_cons_zero, List.set_cons_succ]
          refine wpAnyH_ready (rs := [4]) (by kernel_rfl) (by simp) ?_
          refine AllReadyH.cons (o := otv13_4) rfl (fun K hK => ?_) AllReadyH.nil
          delta otv13_4
          go_simp
          (refine (tJoin_own _ _ ⟨ma, pa⟩ ⟨mb, pb⟩ _ HM_W3.out HN_W3.out HSHM.out HSHN.out).mono ?_; rintro e W4 ⟨y3, rfl, hown, hb⟩; rw [HJ.out, HJE.out]; rw [HJ.out] at hown; simp only at hown; have HO_W4 := Lib.hid hown; have hp := prts_own rfl hown; obtain ⟨C3, c3, rfl, -, -⟩ := hp.open_; clear hp hown); have hbz : Below W3.heap.size W3 W4 := (by first | exact hb | exact Below.trans (Below.drew (Below.refl _ _)) hb); clear hb; have HB4 := Lib.hid (HB3.out.trans (hbz.mono HB3.out.size)); have Hb11_4 := Lib.hid (Hb11_3.out.below hbz Hb11_3.out.lt); have HM_W4 := Lib.hid (PrtsAt.later HM_W3.out hbz (Nat.le_refl _)); have HN_W4 := Lib.hid (PrtsAt.later HN_W3.out hbz (Nat.le_refl _)); clear hbz
          refine hK.out _ _ ?_ (fun hHeld => ?_)
          · (try dsimp only); (exact HSV.out _ (HBV.out.trans (HB4.out.mono HBV.out.size)))
          clear hK K
          try simp only [otv13_4, Act.put, List.setIfInBounds_toArray, List.set_cons_zero, List.set_cons_succ]
          refine wpAnyH_take (i := 5) (oi := otv13_5) (v := ?_) rfl (by kernel_rfl) (by kernel_rfl) (by kernel_rfl) (fun _ _ _ h => h) (Or.inl ⟨by rfl, ?_⟩) (by assumption) ?_
          rotate_left
          · ((intro w hSw; delta otv13_5; (try dsimp only at hSw); go_simp) <;> with_reducible rfl)
          try simp only [otv13_5, Act.put, List.setIfInBounds_toArray, List.set_cons_zero, List.set_cons_succ]
          refine wpAnyH_take (i := 6) (oi := otv13_6) (v := ?_) rfl (by kernel_rfl) (by kernel_rfl) (by kernel_rfl) (fun _ _ _ h => h) (Or.inl ⟨by rfl, ?_⟩) (by assumption) ?_
          rotate_left
          · ((intro w hSw; delta otv13_6; (try dsimp only at hSw); go_simp) <;> with_reducible rfl)
          try simp only [otv13_6, Act.put, List.setIfInBounds_toArray, List.set_cons_zero, List.set_cons_succ]
          refine wpAnyH_take (i := 7) (oi := otv13_7) (v := ?_) rfl (by kernel_rfl) (by kernel_rfl) (by kernel_rfl) (fun _ _ _ h => h) (Or.inl ⟨by rfl, ?_⟩) (by assumption) ?_
          rotate_left
          · ((intro w hSw; delta otv13_7; (try dsimp only at hSw); go_simp) <;> with_reducible rfl)
          try simp only [otv13_7, Act.put, List.setIfInBounds_toArray, List.set_cons_zero, List.set_cons_succ]
         case' gr10 =>
          exact AllReadyH.nil
        all_goals
         as_aux_lemma =>
          have u0 := Hb11_4.out.cell 0; have u1 := Hb11_4.out.cell 1; have v0 := Hb11_4.out.frozen 0; have v1 := Hb11_4.out.frozen 1; simp only [List.getElem?_toArray, List.getElem?_cons_zero, List.getElem?_cons_succ] at u0 u1
          refine wpAnyH_ready (rs := [9]) (by kernel_rfl) (by simp) ?_
          refine AllReadyH.cons (o := otv13_9) rfl (fun K hK => ?_) AllReadyH.nil
          delta otv13_9
          go_simp
          refine hK.out _ _ ?_ (fun hHeld => ?_)
          · (try dsimp only); (refine HSV.out _ (HBV.out.trans (Below.mono ?_ HBV.out.size)); (repeat (first | exact HB4.out | refine Below.setCell ?_ (by exact gb11) _)); done)
          clear hK K
          try simp only [otv13_9, Act.put, List.setIfInBounds_toArray, List.set_cons_zero, List.set_cons_succ]
          refine wpAnyH_take (i := 10) (oi := otv13_10) (v := ?_) rfl (by kernel_rfl) (by kernel_rfl) (by kernel_rfl) (fun _ _ _ h => h) (Or.inl ⟨by rfl, ?_⟩) (by assumption) ?_
          rotate_left
          · ((intro w hSw; delta otv13_10; (try dsimp only at hSw); go_simp) <;> with_reducible rfl)
          try simp only [otv13_10, Act.put, List.setIfInBounds_toArray, List.set_cons_zero, List.set_cons_succ]
          refine wpAnyH_done (by kernel_rfl) ?_ _
          refine NoPanic.normal ?_
          go_wp2_with fail
          go_meet
          exact ⟨rfl, oneM_set Hb11_4.out gb11 HB4.out HBV.out HO_W4.out⟩
      case rest =>
        obtain ⟨rfl, b11, C3, c3, rfl, hnew, hp3, hgn, hb⟩ := hcut
        obtain ⟨Vc13, rfl⟩ : ∃ V, V = wc := ⟨_, rfl⟩
        have HZ := Lib.hid hb
        have nb3b11 : ¬ b3 = b11 := by have := Hb3.out.lt; omega
        have nb11b3 : ¬ b11 = b3 := fun e => nb3b11 e.symm
        have nb4b11 : ¬ b4 = b11 := by have := Hb4.out.lt; omega
        have nb11b4 : ¬ b11 = b4 := fun e => nb4b11 e.symm
        have nb5b11 : ¬ b5 = b11 := by have := Hb5.out.lt; omega
        have nb11b5 : ¬ b11 = b5 := fun e => nb5b11 e.symm
        have nb7b11 : ¬ b7 = b11 := by have := Hb7.out.lt; omega
        have nb11b7 : ¬ b11 = b7 := fun e => nb7b11 e.symm
        have nb9b11 : ¬ b9 = b11 := by have := Hb9.out.lt; omega
        have nb11b9 : ¬ b11 = b9 := fun e => nb9b11 e.symm
        have gb11 : w.heap.size ≤ b11 := Nat.le_trans HBP.out.size hgn
        clear hb hgn HSV k0
        have Gb3 := Lib.hid (Hb3.out.below HZ.out Hb3.out.lt)
        have Gb4 := Lib.hid (Hb4.out.below HZ.out Hb4.out.lt)
        have Gb5 := Lib.hid (Hb5.out.below HZ.out Hb5.out.lt)
        have Gb7 := Lib.hid (Hb7.out.below HZ.out Hb7.out.lt)
        have Gb9 := Lib.hid (Hb9.out.below HZ.out Hb9.out.lt)
        have GHBP := Lib.hid (HBP.out.trans (HZ.out.mono HBP.out.size))
        clear Hb3 Hb4 Hb5 Hb7 Hb9 HBP HZ
        have Hb3 := Gb3
        have Hb4 := Gb4
        have Hb5 := Gb5
        have Hb7 := Gb7
        have Hb9 := Gb9
        have HBP := GHBP
        clear Gb3 Gb4 Gb5 Gb7 Gb9 GHBP
        have Hb11 := Lib.hid hnew
        clear hnew
        have HP3 := Lib.hid hp3
        clear hp3
        have cb30 : Vc13.cell? ⟨b3, 0, none⟩ = some (.int .i64 ma) := Hb3.out.cell 0
        have cb31 : Vc13.cell? ⟨b3, 1, none⟩ = some (.slice A pa.length ca) := Hb3.out.cell 1
        have cb40 : Vc13.cell? ⟨b4, 0, none⟩ = some (.int .i64 mb) := Hb4.out.cell 0
        have cb41 : Vc13.cell? ⟨b4, 1, none⟩ = some (.slice B pb.length cb) := Hb4.out.cell 1
        go_wp2_with fail
        refine (rJoin_any _ _ ⟨ma, pa⟩ ⟨mb, pb⟩ _ (HA.out.later HBP.out (Nat.le_refl _)) (HB.out.later HBP.out (Nat.le_refl _)) HSA.out HSB.out).mono ?_
        rintro e Va8 ⟨y4, rfl, hown, hb⟩
        rw [HJ.out, HJE.out]
        rw [HJ.out] at hown
        simp only at hown
        have hp := prts_own rfl hown
        obtain ⟨C4, c4, rfl, -, -⟩ := hp.open_
        have HZ := Lib.hid hb
        clear hb
        clear cb30 cb31 cb40 cb41
        have Gb3 := Lib.hid (Hb3.out.below HZ.out Hb3.out.lt)
        have Gb4 := Lib.hid (Hb4.out.below HZ.out Hb4.out.lt)
        have Gb5 := Lib.hid (Hb5.out.below HZ.out Hb5.out.lt)
        have Gb7 := Lib.hid (Hb7.out.below HZ.out Hb7.out.lt)
        have Gb9 := Lib.hid (Hb9.out.below HZ.out Hb9.out.lt)
        have Gb11 := Lib.hid (Hb11.out.below HZ.out Hb11.out.lt)
        have GHBP := Lib.hid (HBP.out.trans (HZ.out.mono HBP.out.size))
        have GHP3 := Lib.hid (PrtsAt.later HP3.out HZ.out (Nat.le_refl _))
        clear Hb3 Hb4 Hb5 Hb7 Hb9 Hb11 HBP HP3 HZ
        have Hb3 := Gb3
        have Hb4 := Gb4
        have Hb5 := Gb5
        have Hb7 := Gb7
        have Hb9 := Gb9
        have Hb11 := Gb11
        have HBP := GHBP
        have HP3 := GHP3
        clear Gb3 Gb4 Gb5 Gb7 Gb9 Gb11 GHBP GHP3
        have HP4 := Lib.hid hp
        clear hp hown
        go_upto_region 15 with (fail)
        obtain ⟨Va9, hV⟩ : ∃ V, Va8.alloc (.cells #[.int .i64 J, .slice C4 pj.length c4] 31) = V := ⟨_, rfl⟩
        have hz : Below Va8.heap.size Va8 Va9 := by rw [← hV]; exact (Below.refl _ _).alloc (Nat.le_refl _) _
        have hnew : Blk Va9 Va8.heap.size 31 #[.int .i64 J, .slice C4 pj.length c4] := by rw [← hV]; exact Blk.new' _ _ _ rfl
        have hgn := HBP.out.size
        have lb3 := Hb3.out.lt
        have lb4 := Hb4.out.lt
        have lb5 := Hb5.out.lt
        have lb7 := Hb7.out.lt
        have lb9 := Hb9.out.lt
        have lb11 := Hb11.out.lt
        rw [hV]
        obtain ⟨b12, hbx⟩ : ∃ b, Va8.heap.size = b := ⟨_, rfl⟩
        rw [hbx] at hnew hgn lb3 lb4 lb5 lb7 lb9 lb11 ⊢
        have gb12 := hgn
        have HZ := Lib.hid hz
        have nb3b12 : ¬ b3 = b12 := by omega
        have nb12b3 : ¬ b12 = b3 := by omega
        have nb4b12 : ¬ b4 = b12 := by omega
        have nb12b4 : ¬ b12 = b4 := by omega
        have nb5b12 : ¬ b5 = b12 := by omega
        have nb12b5 : ¬ b12 = b5 := by omega
        have nb7b12 : ¬ b7 = b12 := by omega
        have nb12b7 : ¬ b12 = b7 := by omega
        have nb9b12 : ¬ b9 = b12 := by omega
        have nb12b9 : ¬ b12 = b9 := by omega
        have nb11b12 : ¬ b11 = b12 := by omega
        have nb12b11 : ¬ b12 = b11 := by omega
        clear hV hz hgn hbx lb3 lb4 lb5 lb7 lb9 lb11
        have Gb3 := Lib.hid (Hb3.out.below HZ.out Hb3.out.lt)
        have Gb4 := Lib.hid (Hb4.out.below HZ.out Hb4.out.lt)
        have Gb5 := Lib.hid (Hb5.out.below HZ.out Hb5.out.lt)
        have Gb7 := Lib.hid (Hb7.out.below HZ.out Hb7.out.lt)
        have Gb9 := Lib.hid (Hb9.out.below HZ.out Hb9.out.lt)
        have Gb11 := Lib.hid (Hb11.out.below HZ.out Hb11.out.lt)
        have GHBP := Lib.hid (HBP.out.trans (HZ.out.mono HBP.out.size))
        have GHP3 := Lib.hid (PrtsAt.later HP3.out HZ.out (Nat.le_refl _))
        have GHP4 := Lib.hid (PrtsAt.later HP4.out HZ.out (Nat.le_refl _))
        clear Hb3 Hb4 Hb5 Hb7 Hb9 Hb11 HBP HP3 HP4 HZ
        have Hb3 := Gb3
        have Hb4 := Gb4
        have Hb5 := Gb5
        have Hb7 := Gb7
        have Hb9 := Gb9
        have Hb11 := Gb11
        have HBP := GHBP
        have HP3 := GHP3
        have HP4 := GHP4
        clear Gb3 Gb4 Gb5 Gb7 Gb9 Gb11 GHBP GHP3 GHP4
        have Hb12 := Lib.hid hnew
        clear hnew
        have cb110 : Va9.cell? ⟨b11, 0, none⟩ = some (.int .i64 J) := Hb11.out.cell 0
        have cb111 : Va9.cell? ⟨b11, 1, none⟩ = some (.slice C3 pj.length c3) := Hb11.out.cell 1
        have cb120 : Va9.cell? ⟨b12, 0, none⟩ = some (.int .i64 J) := Hb12.out.cell 0
        have cb121 : Va9.cell? ⟨b12, 1, none⟩ = some (.slice C4 pj.length c4) := Hb12.out.cell 1
        go_wp2_with fail
        refine (same_yes _ _ ⟨J, pj⟩ _ ⟨_, rfl, HP3.out⟩ ⟨_, rfl, HP4.out⟩).mono ?_
        rintro e Va10 ⟨rfl, hb⟩
        have HZ := Lib.hid hb
        clear hb
        clear cb110 cb111 cb120 cb121
        have Gb3 := Lib.hid (Hb3.out.below HZ.out Hb3.out.lt)
        have Gb4 := Lib.hid (Hb4.out.below HZ.out Hb4.out.lt)
        have Gb5 := Lib.hid (Hb5.out.below HZ.out Hb5.out.lt)
        have Gb7 := Lib.hid (Hb7.out.below HZ.out Hb7.out.lt)
        have Gb9 := Lib.hid (Hb9.out.below HZ.out Hb9.out.lt)
        have Gb11 := Lib.hid (Hb11.out.below HZ.out Hb11.out.lt)
        have Gb12 := Lib.hid (Hb12.out.below HZ.out Hb12.out.lt)
        have GHBP := Lib.hid (HBP.out.trans (HZ.out.mono HBP.out.size))
        have GHP3 := Lib.hid (PrtsAt.later HP3.out HZ.out (Nat.le_refl _))
        have GHP4 := Lib.hid (PrtsAt.later HP4.out HZ.out (Nat.le_refl _))
        clear Hb3 Hb4 Hb5 Hb7 Hb9 Hb11 Hb12 HBP HP3 HP4 HZ
        have Hb3 := Gb3
        have Hb4 := Gb4
        have Hb5 := Gb5
        have Hb7 := Gb7
        have Hb9 := Gb9
        have Hb11 := Gb11
        have Hb12 := Gb12
        have HBP := GHBP
        have HP3 := GHP3
        have HP4 := GHP4
        clear Gb3 Gb4 Gb5 Gb7 Gb9 Gb11 Gb12 GHBP GHP3 GHP4
        go_wp2_with fail
        refine (works2_any _).mono ?_
        rintro e w9 ⟨rfl, hb⟩
        have HBE := HBP.out.trans (hb.mono HBP.out.size)
        go_wp2
        go_ret
        exact ⟨rfl, HBE⟩
end Go.Proofs.Ytfblpokjbopagaa
/-
  TideLevels is a row of the program.
-/
namespace Go.Proofs.Ytfblpokjbopagaa.TideLevels
open Go.ChangeShapes Go.WideShapes Go.ChangeAt Go.WideMaps Go.WideElems Go.RowKit

set_option maxRecDepth 100000 in
theorem lifted (os : Os) (started : os.Started) (H : Type) (enc : TypeId × Value → H) :
    ReturnsInHanded {} Try.checked os 4 .any (Rows.tideLevelsSpec.pre6 enc Try.prog Try.f4 Rows.tideLevelsRow.domain false) (Rows.tideLevelsSpec.post enc Try.prog Try.f4 false true false false) := by
  refine returnsInHanded_of_change (C := Try.checked) own_ started (by kernel_rfl) Try.func4
    (ChangeSpec.witness6 (enc := enc) (C := Try.checked) false ⟨#[], #[.agg #[.int .i64 0, .slice none 0 0], .agg #[.int .i64 0, .slice none 0 0], .agg #[.int .i64 0, .int .i64 0]], []⟩ 8 (by kernel_rfl) (by kernel_rfl) (by kernel_rfl) (by kernel_rfl)) ?_
  intro W base args ds gs before hval0 hW hcnd _
  have hval : ∀ (j : Nat) t v, Try.f4.params[j]? = some t → args[j]? = some v → Value.okWide Try.prog W .any base t v := hval0
  have hW' := hW
  obtain ⟨p, q, hA0, hV, rfl, hfz, hnd⟩ := hW
  have hA : DataW.TrodAll enc Try.prog W 0 (fun _ => true) true Try.f4.params.toList args.toList ds p := hA0
  rw [Try.params4] at hA hval
  obtain ⟨v0, vs0, d0, ds0, p0, q0, hargs, rfl, rfl, h0, r0⟩ := trodAll_cons hA
  obtain ⟨v1, vs1, d1, ds1, p1, q1, rfl, rfl, rfl, h1, r1⟩ := trodAll_cons r0
  obtain ⟨v2, vs2, d2, ds2, p2, q2, rfl, rfl, rfl, h2, r2⟩ := trodAll_cons r1
  obtain ⟨rfl, rfl, rfl⟩ := trodAll_nil r2
  obtain rfl : args = #[v0, v1, v2] := by cases args; simp_all
  obtain ⟨rfl, rfl⟩ := trodVars_none hV
  obtain ⟨m0, x0, l0, rfl, hm0, hs0⟩ := rmd_open (hval 0 31 v0 rfl rfl) h0
  obtain ⟨m1, x1, l1, rfl, hm1, hs1⟩ := rmd_open (hval 1 31 v1 rfl rfl) h1
  obtain ⟨lo2, hi2, rfl⟩ := span_open (hval 2 23 v2 rfl rfl) h2
  clear hA0 hval0
  simp only [List.append_nil] at hW'
  have hlt : ∀ x ∈ p0 ++ p1 ++ p2, x.block < W.heap.size := fun x hx => by simpa using hW'.lt x (by simpa using hx)
  have k0 : ∀ x ∈ p0, x.block < W.heap.size := fun x hx => hlt x (by simp [hx])
  have k1 : ∀ x ∈ p1, x.block < W.heap.size := fun x hx => hlt x (by simp [hx])
  have k2 : ∀ x ∈ p2, x.block < W.heap.size := fun x hx => hlt x (by simp [hx])
  refine (TideLevels_any m0 m1 lo2 hi2 x0 x1 l0 l1 W hm0 hm1 hs0 hs1).mono ?_
  rintro e W' ⟨rfl, bel⟩
  refine ⟨_, rfl, _, _, _, [], (p0 ++ (p1 ++ (p2 ++ []))), [], hW', ?_, ?_, ?_, bel.frame _, fun h => by cases h⟩
  · exact trodAll_mk1 (shut_bool Try.underlying4 true)
  · exact (trodAll_cons_mk (Below.trod laid_out (by kernel_rfl) (of_decide_eq_true (by kernel_rfl)) h0 bel k0) (trodAll_cons_mk (Below.trod laid_out (by kernel_rfl) (of_decide_eq_true (by kernel_rfl)) h1 bel k1) (trodAll_cons_mk (Below.trod laid_out (by kernel_rfl) (of_decide_eq_true (by kernel_rfl)) h2 bel k2) trodAll_mk0)))
  · rfl
set_option maxRecDepth 100000 in
theorem over : Rows.tideLevelsRow.holds Try.pinned (OpenSpec.ofChange Rows.tideLevelsSpec) :=
  OpenClaim.holds_of_wide 4 Try.f4 rfl rfl rfl rfl rfl rfl rfl ⟨rfl, rfl, rfl, rfl, rfl⟩ rfl rfl rfl rfl rfl (by kernel_rfl) Try.func4 (by kernel_rfl)
    (of_decide_eq_true (by kernel_rfl)) (by unfold Func.isWrapper; first | (rw [if_pos (by decide +kernel)]; kernel_rfl) | (rw [if_neg (by decide +kernel)]; exact ⟨rfl, rfl⟩))
    (fun os started H enc _ => lifted os started H enc)
end Go.Proofs.Ytfblpokjbopagaa.TideLevels
namespace Go.Proofs.Ytfblpokjbopagaa
theorem TideLevels_row : Rows.TideLevelsSaid := TideLevels.over
#print axioms TideLevels_row
end Go.Proofs.Ytfblpokjbopagaa
