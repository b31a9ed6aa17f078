/-
  Layer 2, the program: Join, whose result is a row of its own.
-/
import Derived.Test.YtfblpokjbopagaaMO
import Derived.Test.YtfblpokjbopagaaMH
set_option linter.unusedSimpArgs false
set_option linter.unusedVariables false
namespace Go.Proofs.Ytfblpokjbopagaa
open Go.RowKit

theorem own_base {w : World} {B b e size n : Nat} {v : Value} {xs : List Value} (h : w.ownsRow B e size v n xs) (hb : b ≤ B) : w.ownsRow b e size v n xs := by
  obtain ⟨h1, h2⟩ := h
  exact ⟨h1, h2.imp id (fun ⟨g, cap, cur, e1, e2, e3⟩ => ⟨g, cap, cur, e1, Nat.le_trans hb e2, e3⟩)⟩
set_option maxRecDepth 100000 in
set_option maxHeartbeats 2000000 in
theorem tJoin_own (va vb : Value) (a b : Md) (w : World) (ha : PrtsAt w w.heap.size va a.ps) (hb : PrtsAt w w.heap.size vb b.ps) (sa : Sound va) (sb : Sound vb) :
    Calls Try.prog 21 #[.agg #[.int .i64 a.mean, va], .agg #[.int .i64 b.mean, vb]] w fun e w' => ∃ y, e = .returned (.tuple #[.agg #[.int .i64 (joinV a b).mean, y], .int .i64 (joinE a b)]) ∧ w'.ownsRow w.heap.size 70 3 y (joinV a b).ps.length (prtCells (joinV a b).ps) ∧ Below w.heap.size w w' := by
  have HA := Lib.hid ha
  have HB := Lib.hid hb
  have HSa := Lib.hid sa
  have HSb := Lib.hid sb
  obtain ⟨A, ca, rfl, hca, -⟩ := ha.open_
  obtain ⟨B, cb, rfl, hcb, -⟩ := hb.open_
  obtain ⟨ma, pa⟩ := a
  obtain ⟨mb, pb⟩ := b
  simp only at HA HB HSa HSb hca hcb ⊢
  clear ha hb sa sb
  obtain ⟨Ea, hEa⟩ : ∃ E, mdE ⟨ma, pa⟩ = E := ⟨_, rfl⟩
  obtain ⟨Eb, hEb⟩ : ∃ E, mdE ⟨mb, pb⟩ = E := ⟨_, rfl⟩
  have HMa := Lib.hid hEa
  have HMb := Lib.hid hEb
  clear hEa hEb
  obtain ⟨V0, hV⟩ : ∃ V, ((w.alloc (.cells #[.int .i64 ma, .slice A pa.length ca] 35)).alloc (.cells #[.int .i64 mb, .slice B pb.length cb] 35)).alloc (.cells #[.int .i64 0, .slice none 0 0] 35) = V := ⟨_, rfl⟩
  have K1 : Hid (Blk V0 w.heap.size 35 #[.int .i64 ma, .slice A pa.length ca]) := by rw [← hV]; exact ((Blk.new' _ _ _ rfl).alloc _).alloc _
  have K3 : Hid (Blk V0 (w.heap.size + 1) 35 #[.int .i64 mb, .slice B pb.length cb]) := by rw [← hV]; exact (Blk.new' _ _ _ (by simp)).alloc _
  have K2 : Hid (Blk V0 (w.heap.size + 1 + 1) 35 #[.int .i64 0, .slice none 0 0]) := by rw [← hV]; exact Blk.new' _ _ _ (by simp)
  have KB : Hid (Below w.heap.size w V0) := by rw [← hV]; exact (by repeat (first | exact Below.refl _ _ | assumption | refine Below.drew ?_ | refine Below.drewN' ?_ _ | (refine Below.alloc ?_ (by simp <;> omega) _) | (refine Below.setCell ?_ (by simp <;> omega) _)))
  have y0 := K1.out.cell 0
  have y1 := K1.out.cell 1
  simp only [List.getElem?_toArray, List.getElem?_cons_zero, List.getElem?_cons_succ] at y0 y1
  go_enter Try.func21, Try.ntmps21
  go_wp2_with fail
  try rw [hV]
  refine (tmCheck_any _ ⟨ma, pa⟩ _ ⟨_, rfl, HA.out.later KB.out (Nat.le_refl _)⟩).mono ?_
  rintro e w1 ⟨rfl, hbw⟩
  rw [HMa.out]
  have J1 := Lib.hid (K1.out.below hbw K1.out.lt)
  have J2 := Lib.hid (K2.out.below hbw K2.out.lt)
  have J3 := Lib.hid (K3.out.below hbw K3.out.lt)
  have JB := Lib.hid (KB.out.trans (hbw.mono KB.out.size))
  clear hbw hV K1 K2 K3 KB y0 y1
  have y0 := J1.out.cell 0
  have y1 := J1.out.cell 1
  have z0 := J3.out.cell 0
  have z1 := J3.out.cell 1
  have t0 := J2.out.cell 0
  have t1 := J2.out.cell 1
  have v0 := J2.out.frozen 0
  have v1 := J2.out.frozen 1
  simp only [List.getElem?_toArray, List.getElem?_cons_zero, List.getElem?_cons_succ] at y0 y1 z0 z1 t0 t1
  by_cases h0 : Ea = 0
  rotate_left
  · have HV : Hid (joinE ⟨ma, pa⟩ ⟨mb, pb⟩ = Ea ∧ joinV ⟨ma, pa⟩ ⟨mb, pb⟩ = ⟨0, []⟩) := by
      have e1 : joinE ⟨ma, pa⟩ ⟨mb, pb⟩ = Ea := by unfold joinE; rw [HMa.out]; exact if_neg h0
      exact ⟨e1, by unfold joinV; rw [e1]; exact if_neg h0⟩
    have h0' : (Ea == 0) = false := beq_eq_false_iff_ne.2 h0
    have hR := fun x y => span_res2 J2.out x y
    have JBo := JB.out
    clear y0 y1 z0 z1
    go_wp2
    refine bodyPost_ret (v := .tuple #[.agg #[.int .i64 0, .slice none 0 0], .int .i64 Ea]) (by simp [results, Try.results21, go_sem, hR]) rfl ⟨_, by rw [HV.out.1, HV.out.2], ?_, (by repeat (first | exact Below.refl _ _ | assumption | refine Below.drew ?_ | refine Below.drewN' ?_ _ | (refine Below.alloc ?_ (by simp <;> omega) _) | (refine Below.setCell ?_ (by simp <;> omega) _)))⟩
    rw [HV.out.2]
    exact World.ownsRow_nil _ _ _ _
  subst h0
  go_wp2_with fail
  refine (tmCheck_any _ ⟨mb, pb⟩ _ ⟨_, rfl, HB.out.later JB.out (Nat.le_refl _)⟩).mono ?_
  rintro e w2 ⟨rfl, hbw⟩
  rw [HMb.out]
  have I1 := Lib.hid (J1.out.below hbw J1.out.lt)
  have I2 := Lib.hid (J2.out.below hbw J2.out.lt)
  have I3 := Lib.hid (J3.out.below hbw J3.out.lt)
  have IB := Lib.hid (JB.out.trans (hbw.mono JB.out.size))
  clear hbw J1 J2 J3 JB y0 y1 z0 z1 t0 t1 v0 v1
  have y0 := I1.out.cell 0
  have y1 := I1.out.cell 1
  have z0 := I3.out.cell 0
  have z1 := I3.out.cell 1
  have t0 := I2.out.cell 0
  have t1 := I2.out.cell 1
  have v0 := I2.out.frozen 0
  have v1 := I2.out.frozen 1
  simp only [List.getElem?_toArray, List.getElem?_cons_zero, List.getElem?_cons_succ] at y0 y1 z0 z1 t0 t1
  have hR := fun x y => span_res2 I2.out x y
  have IBo := IB.out
  by_cases h1 : Eb = 0
  rotate_left
  · have HV : Hid (joinE ⟨ma, pa⟩ ⟨mb, pb⟩ = Eb ∧ joinV ⟨ma, pa⟩ ⟨mb, pb⟩ = ⟨0, []⟩) := by
      have e1 : joinE ⟨ma, pa⟩ ⟨mb, pb⟩ = Eb := by unfold joinE; rw [if_pos HMa.out, HMb.out]; exact if_neg h1
      exact ⟨e1, by unfold joinV; rw [e1]; exact if_neg h1⟩
    have h1' : (Eb == 0) = false := beq_eq_false_iff_ne.2 h1
    clear y0 y1 z0 z1
    go_wp2
    refine bodyPost_ret (v := .tuple #[.agg #[.int .i64 0, .slice none 0 0], .int .i64 Eb]) (by simp [results, Try.results21, go_sem, hR]) rfl ⟨_, by rw [HV.out.1, HV.out.2], ?_, (by repeat (first | exact Below.refl _ _ | assumption | refine Below.drew ?_ | refine Below.drewN' ?_ _ | (refine Below.alloc ?_ (by simp <;> omega) _) | (refine Below.setCell ?_ (by simp <;> omega) _)))⟩
    rw [HV.out.2]
    exact World.ownsRow_nil _ _ _ _
  subst h1
  have HJ := Lib.hid (joinE_eq HMa.out HMb.out)
  obtain ⟨ra, la, -⟩ := mdE_zero HMa.out
  obtain ⟨rb, lb, -⟩ := mdE_zero HMb.out
  simp only at ra rb la lb
  by_cases hm : -10000 ≤ ma + mb ∧ ma + mb ≤ 10000
  rotate_left
  · have HV : Hid (joinE ⟨ma, pa⟩ ⟨mb, pb⟩ = 3 ∧ joinV ⟨ma, pa⟩ ⟨mb, pb⟩ = ⟨0, []⟩) := by
      have e1 : joinE ⟨ma, pa⟩ ⟨mb, pb⟩ = 3 := HJ.out.trans (if_neg hm)
      exact ⟨e1, by unfold joinV; rw [e1]; rfl⟩
    have dm := decide_eq_false hm
    go_wp2_with fail
    refine (within_any _ _ _ _).mono ?_
    rintro e w9 ⟨rfl, hw⟩
    obtain rfl := hw
    rw [dm]
    go_wp2
    refine bodyPost_ret (v := .tuple #[.agg #[.int .i64 0, .slice none 0 0], .int .i64 3]) (by simp [results, Try.results21, go_sem, hR]) rfl ⟨_, by rw [HV.out.1, HV.out.2], ?_, (by repeat (first | exact Below.refl _ _ | assumption | refine Below.drew ?_ | refine Below.drewN' ?_ _ | (refine Below.alloc ?_ (by simp <;> omega) _) | (refine Below.setCell ?_ (by simp <;> omega) _)))⟩
    rw [HV.out.2]
    exact World.ownsRow_nil _ _ _ _
  have dm := decide_eq_true hm
  by_cases hl : pa.length + pb.length ≤ 16
  rotate_left
  · have HV : Hid (joinE ⟨ma, pa⟩ ⟨mb, pb⟩ = 9 ∧ joinV ⟨ma, pa⟩ ⟨mb, pb⟩ = ⟨0, []⟩) := by
      have e1 : joinE ⟨ma, pa⟩ ⟨mb, pb⟩ = 9 := HJ.out.trans ((if_pos hm).trans (if_neg hl))
      exact ⟨e1, by unfold joinV; rw [e1]; rfl⟩
    have hl' : (16 : Int) < (pa.length : Int) + (pb.length : Int) := by omega
    go_wp2_with fail
    refine (within_any _ _ _ _).mono ?_
    rintro e w9 ⟨rfl, hw⟩
    obtain rfl := hw
    rw [dm]
    go_wp2
    refine bodyPost_ret (v := .tuple #[.agg #[.int .i64 0, .slice none 0 0], .int .i64 9]) (by simp [results, Try.results21, go_sem, hR]) rfl ⟨_, by rw [HV.out.1, HV.out.2], ?_, (by repeat (first | exact Below.refl _ _ | assumption | refine Below.drew ?_ | refine Below.drewN' ?_ _ | (refine Below.alloc ?_ (by simp <;> omega) _) | (refine Below.setCell ?_ (by simp <;> omega) _)))⟩
    rw [HV.out.2]
    exact World.ownsRow_nil _ _ _ _
  have HV : Hid (joinE ⟨ma, pa⟩ ⟨mb, pb⟩ = 0 ∧ joinV ⟨ma, pa⟩ ⟨mb, pb⟩ = ⟨ma + mb, pa ++ pb⟩) := by
    have e1 : joinE ⟨ma, pa⟩ ⟨mb, pb⟩ = 0 := HJ.out.trans ((if_pos hm).trans (if_pos hl))
    exact ⟨e1, by unfold joinV; rw [e1]; rfl⟩
  have hl' : (pa.length : Int) + (pb.length : Int) ≤ 16 := by omega
  go_wp2_with fail
  refine (within_any _ _ _ _).mono ?_
  rintro e w9 ⟨rfl, hw⟩
  obtain rfl := hw
  rw [dm]
  go_wp2_with fail
  have bz : Below w.heap.size w (w2.alloc (.cells #[.slice A pa.length ca, .slice B pb.length cb] 33)) := IBo.alloc IBo.size _
  refine (concat_any w2.heap.size (.slice A pa.length ca) (.slice B pb.length cb) pa pb _ (by simp) (by simp) (HA.out.later bz (Nat.le_refl _)) (HB.out.later bz (Nat.le_refl _)) HSa.out HSb.out (by omega) (by simp)).mono ?_
  rintro e w3 ⟨v, rfl, hown, hbw⟩
  have HS := Lib.hid (sound_own hown)
  have hP : PrtsAt w3 w3.heap.size v (pa ++ pb) := prts_own (n := pa.length + pb.length) (by simp) (by rw [prtCells_append]; exact hown)
  have HO := Lib.hid hown
  have hne : v.ownBlock ≠ some (w.heap.size + 1 + 1) := fun h => by
    have h1 := (hown.lt _ h).1
    have h2 := I2.out.lt
    simp at h1
    omega
  have HNE := Lib.hid hne
  obtain ⟨C, c, rfl, -, -⟩ := hP.open_
  have hz : Below w2.heap.size w2 w3 := Below.trans ((Below.refl _ w2).alloc (Nat.le_refl _) _) (hbw.mono (by simp))
  have E2 := Lib.hid (I2.out.below hz I2.out.lt)
  have EB := Lib.hid (IB.out.trans (hz.mono IB.out.size))
  clear hown hbw hP hz bz hne y0 y1 z0 z1 t0 t1 v0 v1 hR IBo
  have t0 := E2.out.cell 0
  have t1 := E2.out.cell 1
  have v0 := E2.out.frozen 0
  have v1 := E2.out.frozen 1
  simp only [List.getElem?_toArray, List.getElem?_cons_zero, List.getElem?_cons_succ] at t0 t1
  have hR := fun x y => span_res2 E2.out x y
  have EBo := EB.out
  go_wp2
  refine bodyPost_ret (v := .tuple #[.agg #[.int .i64 (ma + mb), .slice C (pa ++ pb).length c], .int .i64 0]) (by simp [results, Try.results21, go_sem, hR]) rfl ⟨_, by rw [HV.out.1, HV.out.2], ?_, (by repeat (first | exact Below.refl _ _ | assumption | refine Below.drew ?_ | refine Below.drewN' ?_ _ | (refine Below.alloc ?_ (by simp <;> omega) _) | (refine Below.setCell ?_ (by simp <;> omega) _)))⟩
  rw [HV.out.2]
  have hle : (pa ++ pb).length = pa.length + pb.length := List.length_append
  have h := own_set (own_set HO.out (p := ⟨w.heap.size + 1 + 1, 0, none⟩) HNE.out (.int .i64 (ma + mb))) (p := ⟨w.heap.size + 1 + 1, 1, none⟩) HNE.out (.slice C (pa.length + pb.length) c)
  rw [hle] at h ⊢
  rw [prtCells_append]
  exact own_base h (by have := IB.out.size; simp; omega)
end Go.Proofs.Ytfblpokjbopagaa
/-
  Layer 2, the reference: Join.
-/
namespace Go.Proofs.Ytfblpokjbopagaa
open Go.RowKit

theorem rpart_info : (Try.prog.info? 80).map (fun i => (i.zero, i.size, i.bytes)) = some (some (.agg #[.int .i64 0, .int .i64 0, .int .i64 0]), 3, 24) := by kernel_rfl
def orj7_0 : Oper := { dst := some 24, op := Op.buildSlice 29 0 #[], type := 29, pos := "ref.go:248", after := #[], guard := none }
def orj7_1 : Oper := { dst := some 25, op := Op.fieldAddr 31 (Operand.tmp 2) 1, type := 0, pos := "ref.go:248", after := #[], guard := none }
def orj7_2 : Oper := { dst := some 26, op := Op.load 29 (Operand.tmp 25), type := 29, pos := "ref.go:248", after := #[{ on := 1, ground := Ground.data }], guard := none }
def orj7_3 : Oper := { dst := some 27, op := Op.call { callee := Callee.builtin Builtin.append, args := #[Operand.tmp 24, Operand.tmp 26], argTypes := #[29, 29] }, type := 29, pos := "ref.go:248", after := #[{ on := 0, ground := Ground.data }, { on := 2, ground := Ground.data }], guard := none }
def orj7_4 : Oper := { dst := some 28, op := Op.fieldAddr 31 (Operand.tmp 3) 1, type := 0, pos := "ref.go:248", after := #[], guard := none }
def orj7_5 : Oper := { dst := some 29, op := Op.load 29 (Operand.tmp 28), type := 29, pos := "ref.go:248", after := #[{ on := 4, ground := Ground.data }], guard := none }
def orj7_6 : Oper := { dst := some 30, op := Op.call { callee := Callee.builtin Builtin.append, args := #[Operand.tmp 27, Operand.tmp 29], argTypes := #[29, 29] }, type := 29, pos := "ref.go:248", after := #[{ on := 3, ground := Ground.data }, { on := 5, ground := Ground.data }, { on := 3, ground := Ground.chain }], guard := none }
def orj7_7 : Oper := { dst := some 31, op := Op.fieldAddr 31 (Operand.tmp 7) 1, type := 0, pos := "ref.go:248", after := #[{ on := 0, ground := Ground.phase }, { on := 1, ground := Ground.phase }, { on := 2, ground := Ground.phase }, { on := 3, ground := Ground.phase }, { on := 4, ground := Ground.phase }, { on := 5, ground := Ground.phase }, { on := 6, ground := Ground.phase }], guard := none }
def orj7_8 : Oper := { dst := none, op := Op.store 29 (Operand.tmp 31) (Operand.tmp 30), type := 0, pos := "ref.go:248", after := #[{ on := 7, ground := Ground.data }, { on := 6, ground := Ground.data }, { on := 6, ground := Ground.chain }, { on := 0, ground := Ground.phase }, { on := 1, ground := Ground.phase }, { on := 2, ground := Ground.phase }, { on := 3, ground := Ground.phase }, { on := 4, ground := Ground.phase }, { on := 5, ground := Ground.phase }, { on := 6, ground := Ground.phase }], guard := none }

set_option maxRecDepth 100000 in
set_option maxHeartbeats 4000000 in
theorem rJoin_any (va vb : Value) (a b : Md) (w : World) (ha : PrtsAt w w.heap.size va a.ps) (hb : PrtsAt w w.heap.size vb b.ps) (sa : Sound va) (sb : Sound vb) :
    Calls Try.prog 22 #[.agg #[.int .i64 a.mean, va], .agg #[.int .i64 b.mean, vb]] w fun e w' => ∃ y, e = .returned (.tuple #[.agg #[.int .i64 (joinV a b).mean, y], .int .i64 (joinE a b)]) ∧ w'.ownsRow w.heap.size 80 3 y (joinV a b).ps.length (prtCells (joinV a b).ps) ∧ Below w.heap.size w w' := by
  have HA := Lib.hid ha
  have HB := Lib.hid hb
  have HSa := Lib.hid sa
  have HSb := Lib.hid sb
  obtain ⟨A, ca, rfl, hca, -⟩ := ha.open_
  obtain ⟨B, cb, rfl, hcb, -⟩ := hb.open_
  obtain ⟨ma, pa⟩ := a
  obtain ⟨mb, pb⟩ := b
  simp only at HA HB HSa HSb hca hcb ⊢
  clear ha hb sa sb
  obtain ⟨Ea, hEa⟩ : ∃ E, mdE ⟨ma, pa⟩ = E := ⟨_, rfl⟩
  obtain ⟨Eb, hEb⟩ : ∃ E, mdE ⟨mb, pb⟩ = E := ⟨_, rfl⟩
  have HMa := Lib.hid hEa
  have HMb := Lib.hid hEb
  clear hEa hEb
  obtain ⟨V0, hV⟩ : ∃ V, ((w.alloc (.cells #[.int .i64 ma, .slice A pa.length ca] 31)).alloc (.cells #[.int .i64 mb, .slice B pb.length cb] 31)).alloc (.cells #[.int .i64 0, .slice none 0 0] 31) = V := ⟨_, rfl⟩
  have K1 : Hid (Blk V0 w.heap.size 31 #[.int .i64 ma, .slice A pa.length ca]) := by rw [← hV]; exact ((Blk.new' _ _ _ rfl).alloc _).alloc _
  have K3 : Hid (Blk V0 (w.heap.size + 1) 31 #[.int .i64 mb, .slice B pb.length cb]) := by rw [← hV]; exact (Blk.new' _ _ _ (by simp)).alloc _
  have K2 : Hid (Blk V0 (w.heap.size + 1 + 1) 31 #[.int .i64 0, .slice none 0 0]) := by rw [← hV]; exact Blk.new' _ _ _ (by simp)
  have KB : Hid (Below w.heap.size w V0) := by rw [← hV]; exact (by repeat (first | exact Below.refl _ _ | assumption | refine Below.drew ?_ | refine Below.drewN' ?_ _ | (refine Below.alloc ?_ (by simp <;> omega) _) | (refine Below.setCell ?_ (by simp <;> omega) _)))
  have y0 := K1.out.cell 0
  have y1 := K1.out.cell 1
  simp only [List.getElem?_toArray, List.getElem?_cons_zero, List.getElem?_cons_succ] at y0 y1
  go_enter Try.func22, Try.ntmps22
  go_wp2_with fail
  try rw [hV]
  refine (rmCheck_any _ ⟨ma, pa⟩ _ ⟨_, rfl, HA.out.later KB.out (Nat.le_refl _)⟩).mono ?_
  rintro e w1 ⟨rfl, hbw⟩
  rw [HMa.out]
  have J1 := Lib.hid (K1.out.below hbw K1.out.lt)
  have J2 := Lib.hid (K2.out.below hbw K2.out.lt)
  have J3 := Lib.hid (K3.out.below hbw K3.out.lt)
  have JB := Lib.hid (KB.out.trans (hbw.mono KB.out.size))
  clear hbw hV K1 K2 K3 KB y0 y1
  have y0 := J1.out.cell 0
  have y1 := J1.out.cell 1
  have z0 := J3.out.cell 0
  have z1 := J3.out.cell 1
  have t0 := J2.out.cell 0
  have t1 := J2.out.cell 1
  have v0 := J2.out.frozen 0
  have v1 := J2.out.frozen 1
  simp only [List.getElem?_toArray, List.getElem?_cons_zero, List.getElem?_cons_succ] at y0 y1 z0 z1 t0 t1
  by_cases h0 : Ea = 0
  rotate_left
  · have HV : Hid (joinE ⟨ma, pa⟩ ⟨mb, pb⟩ = Ea ∧ joinV ⟨ma, pa⟩ ⟨mb, pb⟩ = ⟨0, []⟩) := by
      have e1 : joinE ⟨ma, pa⟩ ⟨mb, pb⟩ = Ea := by unfold joinE; rw [HMa.out]; exact if_neg h0
      exact ⟨e1, by unfold joinV; rw [e1]; exact if_neg h0⟩
    have h0' : (Ea == 0) = false := beq_eq_false_iff_ne.2 h0
    have hR := fun x y => span_res2 J2.out x y
    have JBo := JB.out
    clear y0 y1 z0 z1
    go_wp2
    refine bodyPost_ret (v := .tuple #[.agg #[.int .i64 0, .slice none 0 0], .int .i64 Ea]) (by simp [results, Try.results22, go_sem, hR]) rfl ⟨_, by rw [HV.out.1, HV.out.2], ?_, (by repeat (first | exact Below.refl _ _ | assumption | refine Below.drew ?_ | refine Below.drewN' ?_ _ | (refine Below.alloc ?_ (by simp <;> omega) _) | (refine Below.setCell ?_ (by simp <;> omega) _)))⟩
    rw [HV.out.2]
    exact World.ownsRow_nil _ _ _ _
  subst h0
  go_wp2_with fail
  refine (rmCheck_any _ ⟨mb, pb⟩ _ ⟨_, rfl, HB.out.later JB.out (Nat.le_refl _)⟩).mono ?_
  rintro e w2 ⟨rfl, hbw⟩
  rw [HMb.out]
  have I1 := Lib.hid (J1.out.below hbw J1.out.lt)
  have I2 := Lib.hid (J2.out.below hbw J2.out.lt)
  have I3 := Lib.hid (J3.out.below hbw J3.out.lt)
  have IB := Lib.hid (JB.out.trans (hbw.mono JB.out.size))
  clear hbw J1 J2 J3 JB y0 y1 z0 z1 t0 t1 v0 v1
  have y0 := I1.out.cell 0
  have y1 := I1.out.cell 1
  have z0 := I3.out.cell 0
  have z1 := I3.out.cell 1
  have t0 := I2.out.cell 0
  have t1 := I2.out.cell 1
  have v0 := I2.out.frozen 0
  have v1 := I2.out.frozen 1
  simp only [List.getElem?_toArray, List.getElem?_cons_zero, List.getElem?_cons_succ] at y0 y1 z0 z1 t0 t1
  have hR := fun x y => span_res2 I2.out x y
  have IBo := IB.out
  by_cases h1 : Eb = 0
  rotate_left
  · have HV : Hid (joinE ⟨ma, pa⟩ ⟨mb, pb⟩ = Eb ∧ joinV ⟨ma, pa⟩ ⟨mb, pb⟩ = ⟨0, []⟩) := by
      have e1 : joinE ⟨ma, pa⟩ ⟨mb, pb⟩ = Eb := by unfold joinE; rw [if_pos HMa.out, HMb.out]; exact if_neg h1
      exact ⟨e1, by unfold joinV; rw [e1]; exact if_neg h1⟩
    have h1' : (Eb == 0) = false := beq_eq_false_iff_ne.2 h1
    clear y0 y1 z0 z1
    go_wp2
    refine bodyPost_ret (v := .tuple #[.agg #[.int .i64 0, .slice none 0 0], .int .i64 Eb]) (by simp [results, Try.results22, go_sem, hR]) rfl ⟨_, by rw [HV.out.1, HV.out.2], ?_, (by repeat (first | exact Below.refl _ _ | assumption | refine Below.drew ?_ | refine Below.drewN' ?_ _ | (refine Below.alloc ?_ (by simp <;> omega) _) | (refine Below.setCell ?_ (by simp <;> omega) _)))⟩
    rw [HV.out.2]
    exact World.ownsRow_nil _ _ _ _
  subst h1
  obtain ⟨ra, la, -⟩ := mdE_zero HMa.out
  obtain ⟨rb, lb, -⟩ := mdE_zero HMb.out
  simp only at ra rb la lb
  obtain ⟨Ec, hEc⟩ : ∃ E, mdE (joinZ ⟨ma, pa⟩ ⟨mb, pb⟩) = E := ⟨_, rfl⟩
  have HMc := Lib.hid hEc
  clear hEc hR IBo
  obtain ⟨i0, hi0, hz0, hz1, hz2⟩ := info_parts rpart_info
  have HI := Lib.hid (And.intro hi0 (And.intro hz0 (And.intro hz1 hz2)))
  clear hi0 hz0 hz1 hz2
  go_upto_region 7 with (fail)
  obtain ⟨V1, hV⟩ : ∃ V, w2.alloc (.cells #[.int .i64 (ma + mb), .slice none 0 0] 31) = V := ⟨_, rfl⟩
  have L1 : Hid (Blk V1 w.heap.size 31 #[.int .i64 ma, .slice A pa.length ca]) := by rw [← hV]; exact I1.out.alloc _
  have L3 : Hid (Blk V1 (w.heap.size + 1) 31 #[.int .i64 mb, .slice B pb.length cb]) := by rw [← hV]; exact I3.out.alloc _
  have L2 : Hid (Blk V1 (w.heap.size + 1 + 1) 31 #[.int .i64 0, .slice none 0 0]) := by rw [← hV]; exact I2.out.alloc _
  have hL7 : Blk V1 w2.heap.size 31 #[.int .i64 (ma + mb), .slice none 0 0] := by rw [← hV]; exact Blk.new' _ _ _ rfl
  have L : Hid (Below w.heap.size w V1) := by rw [← hV]; exact IB.out.alloc IB.out.size _
  have g7' := IB.out.size
  have n27' : ¬ w.heap.size + 1 + 1 = w2.heap.size := by have := I2.out.lt; omega
  rw [hV]
  obtain ⟨b7, hb7⟩ : ∃ b, w2.heap.size = b := ⟨_, rfl⟩
  rw [hb7] at hL7 g7' n27' ⊢
  have L7 := Lib.hid hL7
  have g7 := g7'
  have n27 := n27'
  clear hV hb7 hL7 g7' n27' I1 I2 I3 IB y0 y1 z0 z1 t0 t1 v0 v1
  have HSV : Hid (∀ U, Below V1.heap.size V1 U → U.cell? ⟨w.heap.size, 1, none⟩ = some (.slice A pa.length ca) ∧ U.cell? ⟨w.heap.size + 1, 1, none⟩ = some (.slice B pb.length cb)) := fun U hU => by
    have q1 := L1.out.below hU L1.out.lt
    have q3 := L3.out.below hU L3.out.lt
    exact ⟨q1.cell 1, q3.cell 1⟩
  have k0 := HSV.out _ (Below.drew (Below.refl V1.heap.size V1))
  refine wp_region_noPanic ?_
  refine wp_region_L (S := (fun w' => w'.cell? ⟨w.heap.size, 1, none⟩ = some (.slice A pa.length ca) ∧ w'.cell? ⟨w.heap.size + 1, 1, none⟩ = some (.slice B pb.length cb))) (ks := [8]) (by kernel_rfl) ?_ (fun hHeld => ?_)
  · (try dsimp only); (exact k0)
  refine wpAnyL_take (i := 1) (oi := orj7_1) (v := ?_) rfl (by kernel_rfl) (fun _ _ _ h => h) (Or.inl ⟨by rfl, ?_⟩) (by assumption) ?_
  rotate_left
  · ((intro w hSw; delta orj7_1; (try dsimp only at hSw); go_simp) <;> with_reducible rfl)
  try simp only [orj7_1, Act.put, List.setIfInBounds_toArray, List.set_cons_zero, List.set_cons_succ]
  refine wpAnyL_take (i := 2) (oi := orj7_2) (v := ?_) rfl (by kernel_rfl) (fun _ _ _ h => h) (Or.inl ⟨by rfl, ?_⟩) (by assumption) ?_
  rotate_left
  · ((intro w hSw; delta orj7_2; (try dsimp only at hSw); go_simp) <;> with_reducible rfl)
  try simp only [orj7_2, Act.put, List.setIfInBounds_toArray, List.set_cons_zero, List.set_cons_succ]
  refine wpAnyL_take (i := 4) (oi := orj7_4) (v := ?_) rfl (by kernel_rfl) (fun _ _ _ h => h) (Or.inl ⟨by rfl, ?_⟩) (by assumption) ?_
  rotate_left
  · ((intro w hSw; delta orj7_4; (try dsimp only at hSw); go_simp) <;> with_reducible rfl)
  try simp only [orj7_4, Act.put, List.setIfInBounds_toArray, List.set_cons_zero, List.set_cons_succ]
  refine wpAnyL_take (i := 5) (oi := orj7_5) (v := ?_) rfl (by kernel_rfl) (fun _ _ _ h => h) (Or.inl ⟨by rfl, ?_⟩) (by assumption) ?_
  rotate_left
  · ((intro w hSw; delta orj7_5; (try dsimp only at hSw); go_simp) <;> with_reducible rfl)
  try simp only [orj7_5, Act.put, List.setIfInBounds_toArray, List.set_cons_zero, List.set_cons_succ]
  obtain ⟨W0, hW0⟩ : ∃ V, V1.drew = V := ⟨_, rfl⟩; rw [hW0] at hHeld ⊢; have HBV : Hid (Below V1.heap.size V1 W0) := (by rw [← hW0]; exact Below.drew (Below.refl _ _)); have HB0 := Lib.hid (Below.refl W0.heap.size W0); clear hW0
  refine wpAnyL_ready (rs := [0]) (by kernel_rfl) (by simp) ?_
  refine AllReadyL.cons (o := orj7_0) rfl (fun K hK => ?_) AllReadyL.nil
  delta orj7_0
  go_simp
  obtain ⟨W1, hV⟩ : ∃ V, W0.alloc (.cells #[] 80) = V := ⟨_, rfl⟩; have hbz : Below W0.heap.size W0 W1 := (by rw [← hV]; exact (Below.refl _ _).alloc (Nat.le_refl _) _); have HB1 := Lib.hid (HB0.out.trans (hbz.mono HB0.out.size)); have Hnb_1 : Hid (Blk W1 W0.heap.size 80 #[]) := (by rw [← hV]; exact Blk.new' _ _ _ rfl); obtain ⟨nb, hz⟩ : ∃ b, W0.heap.size = b := ⟨_, rfl⟩; rw [hz] at Hnb_1; have gnb : W0.heap.size ≤ nb := (by rw [← hz]; exact HB0.out.size); rw [hV, hz]; clear hV hbz hz
  refine hK.out _ _ ?_ (fun hHeld => ?_)
  · (try dsimp only); (exact HSV.out _ (HBV.out.trans (HB1.out.mono HBV.out.size)))
  clear hK K
  try simp only [orj7_0, Act.put, List.setIfInBounds_toArray, List.set_cons_zero, List.set_cons_succ]
  have hbW := HBV.out.trans (HB1.out.mono HBV.out.size); have hsz1 : w.heap.size ≤ W1.heap.size := Nat.le_trans L.out.size hbW.size; have hgn : w.heap.size ≤ nb := Nat.le_trans L.out.size (Nat.le_trans HBV.out.size gnb); have hbw1 := L.out.trans (hbW.mono L.out.size); have hown0 : W1.ownsRow w.heap.size 80 3 (.slice (some ⟨nb, 0, none⟩) 0 0) 0 [] := ⟨rfl, Or.inr ⟨nb, 0, _, rfl, hgn, Hnb_1.out, Nat.le_refl _, by unfold maxLen; omega, rfl, rfl⟩⟩; obtain ⟨v1, W2, hr, hown1, hg1⟩ := app_prts Try.underlying29 HI.out.1 HI.out.2.1 HI.out.2.2.1 HI.out.2.2.2 rfl 29 hown0 (HA.out.later hbw1 (Nat.le_refl _)) HSa.out (by omega) hsz1; have q1 := L1.out.below hbW L1.out.lt; have q2 := L2.out.below hbW L2.out.lt; have q3 := L3.out.below hbW L3.out.lt; have q7 := L7.out.below hbW L7.out.lt; have r1 := blk_grown q1 hg1 (fun e => own_blk_ne hown0 q1 (by decide) e.symm); have r2 := blk_grown q2 hg1 (fun e => own_blk_ne hown0 q2 (by decide) e.symm); have r3 := blk_grown q3 hg1 (fun e => own_blk_ne hown0 q3 (by decide) e.symm); have r7 := blk_grown q7 hg1 (fun e => own_blk_ne hown0 q7 (by decide) e.symm); have hbw2 : Below w.heap.size w W2 := hbw1.grown hg1 hsz1 (fun q e => (hown0.lt q e).1); have R1 := Lib.hid r1; have R2 := Lib.hid r2; have R3 := Lib.hid r3; have R7 := Lib.hid r7; have RB := Lib.hid hbw2; have RO := Lib.hid hown1; clear q1 q2 q3 q7 r1 r2 r3 r7 hown0 hown1 hg1 hbw1 hbw2 hbW hsz1 hgn
  refine wpAnyL_ready (rs := [3]) (by kernel_rfl) (by simp) ?_
  refine AllReadyL.cons (o := orj7_3) rfl (fun K hK => ?_) AllReadyL.nil
  rw [if_pos (by rfl)]
  refine Lib.wp_append_run _ _ _ _ _ rfl _ _ rfl rfl _ _ hr ?_
  clear hr
  refine hK.out _ _ ?_ (fun hHeld => ?_)
  · (try dsimp only); (exact ⟨R1.out.cell 1, R3.out.cell 1⟩)
  clear hK K
  try simp only [orj7_3, Act.put, List.setIfInBounds_toArray, List.set_cons_zero, List.set_cons_succ]
  have hsz1 := RB.out.size; obtain ⟨v2, W3, hr, hown1, hg1⟩ := app_prts Try.underlying29 HI.out.1 HI.out.2.1 HI.out.2.2.1 HI.out.2.2.2 rfl 29 RO.out (HB.out.later RB.out (Nat.le_refl _)) HSb.out (by omega) hsz1; have r1 := blk_grown R1.out hg1 (fun e => own_blk_ne RO.out R1.out (by decide) e.symm); have r2 := blk_grown R2.out hg1 (fun e => own_blk_ne RO.out R2.out (by decide) e.symm); have r3 := blk_grown R3.out hg1 (fun e => own_blk_ne RO.out R3.out (by decide) e.symm); have r7 := blk_grown R7.out hg1 (fun e => own_blk_ne RO.out R7.out (by decide) e.symm); have hbw2 : Below w.heap.size w W3 := RB.out.grown hg1 hsz1 (fun q e => (RO.out.lt q e).1); have S1 := Lib.hid r1; have S2 := Lib.hid r2; have S3 := Lib.hid r3; have S7 := Lib.hid r7; have SB := Lib.hid hbw2; have SO := Lib.hid hown1; clear r1 r2 r3 r7 hown1 hg1 hbw2 hsz1; obtain ⟨A', n', c', hu⟩ : ∃ A' n' c', v2 = .slice A' n' c' := (by rcases SO.out.2 with ⟨e, _⟩ | ⟨g, cap, cur, e, _⟩; exact ⟨_, _, _, e⟩; exact ⟨_, _, _, e⟩); subst hu
  refine wpAnyL_ready (rs := [6]) (by kernel_rfl) (by simp) ?_
  refine AllReadyL.cons (o := orj7_6) rfl (fun K hK => ?_) AllReadyL.nil
  rw [if_pos (by rfl)]
  refine Lib.wp_append_run _ _ _ _ _ rfl _ _ rfl rfl _ _ hr ?_
  clear hr
  refine hK.out _ _ ?_ (fun hHeld => ?_)
  · (try dsimp only); (exact ⟨S1.out.cell 1, S3.out.cell 1⟩)
  clear hK K
  try simp only [orj7_6, Act.put, List.setIfInBounds_toArray, List.set_cons_zero, List.set_cons_succ]
  refine wpAnyL_take (i := 7) (oi := orj7_7) (v := ?_) rfl (by kernel_rfl) (fun _ _ _ h => h) (Or.inl ⟨by rfl, ?_⟩) (by assumption) ?_
  rotate_left
  · ((intro w hSw; delta orj7_7; (try dsimp only at hSw); go_simp) <;> with_reducible rfl)
  try simp only [orj7_7, Act.put, List.setIfInBounds_toArray, List.set_cons_zero, List.set_cons_succ]
  have z1 := S7.out.cell 1; have z2 := S7.out.frozen 1; simp only [List.getElem?_toArray, List.getElem?_cons_zero, List.getElem?_cons_succ] at z1
  refine wpAnyL_ready (rs := [8]) (by kernel_rfl) (by simp) ?_
  refine AllReadyL.gate (o := orj7_8) rfl (by kernel_rfl) (fun K hK => ?_) AllReadyL.nil
  delta orj7_8
  go_simp
  refine hK.out _ _ ?_
  clear hK K
  try simp only [orj7_8, Act.put, List.setIfInBounds_toArray, List.set_cons_zero, List.set_cons_succ]
  refine wpAnyL_done (by kernel_rfl) ?_ _
  refine NoPanic.normal ?_
  go_upto_region 8 with (fail)
  obtain ⟨V3, hV⟩ : ∃ V, W3.setCell ⟨b7, 1, none⟩ (.slice A' n' c') = V := ⟨_, rfl⟩
  have T7 : Hid (Blk V3 b7 31 #[.int .i64 (ma + mb), .slice A' n' c']) := by rw [← hV]; exact S7.out.set_ 1 _
  have T2 : Hid (Blk V3 (w.heap.size + 1 + 1) 31 #[.int .i64 0, .slice none 0 0]) := by rw [← hV]; exact S2.out.far_ (p := ⟨b7, 1, none⟩) n27 _
  have TB : Hid (Below w.heap.size w V3) := by rw [← hV]; exact SB.out.setCell (p := ⟨b7, 1, none⟩) g7 _
  have hn7 := own_blk_ne SO.out S7.out (by decide)
  have TO : Hid (V3.ownsRow w.heap.size 80 3 (.slice A' n' c') (0 + pa.length + pb.length) ([] ++ prtCells pa ++ prtCells pb)) := by rw [← hV]; exact own_set SO.out (p := ⟨b7, 1, none⟩) hn7 _
  rw [hV]
  clear hV S1 S2 S3 S7 SB SO R1 R2 R3 R7 RB RO z1 z2 hn7
  have HL : Hid (0 + pa.length + pb.length = (pa ++ pb).length) := by rw [Hid, List.length_append]; omega
  have HC : Hid ([] ++ prtCells pa ++ prtCells pb = prtCells (pa ++ pb)) := by rw [Hid, prtCells_append]; rfl
  have HP : Hid (PrtsAt V3 V3.heap.size (.slice A' n' c') (pa ++ pb)) := prts_own HL.out (by rw [← HC.out]; exact TO.out)
  have t0 := T7.out.cell 0
  have t1 := T7.out.cell 1
  have v0 := T2.out.frozen 0
  have v1 := T2.out.frozen 1
  simp only [List.getElem?_toArray, List.getElem?_cons_zero, List.getElem?_cons_succ] at t0 t1
  go_wp2_with fail
  refine (rmCheck_any _ (joinZ ⟨ma, pa⟩ ⟨mb, pb⟩) _ ⟨_, rfl, HP.out⟩).mono ?_
  rintro e w5 ⟨rfl, hbw⟩
  rw [HMc.out]
  have U7 := T7.out.below hbw T7.out.lt
  have U2 := T2.out.below hbw T2.out.lt
  have UB := TB.out.trans (hbw.mono TB.out.size)
  have UP := Lib.hid (HP.out.below hbw)
  have UO := Lib.hid (own_below TO.out hbw (Nat.le_refl _))
  clear T7 T2 TB TO HP hbw t0 t1 v0 v1
  have t0 := U7.cell 0
  have t1 := U7.cell 1
  have s0 := U2.cell 0
  have s1 := U2.cell 1
  have v0 := U2.frozen 0
  have v1 := U2.frozen 1
  simp only [List.getElem?_toArray, List.getElem?_cons_zero, List.getElem?_cons_succ] at t0 t1 s0 s1
  have hR := fun x y => span_res2 U2 x y
  by_cases h2 : Ec = 0
  rotate_left
  · have HV : Hid (joinE ⟨ma, pa⟩ ⟨mb, pb⟩ = Ec ∧ joinV ⟨ma, pa⟩ ⟨mb, pb⟩ = ⟨0, []⟩) := by
      have e1 : joinE ⟨ma, pa⟩ ⟨mb, pb⟩ = Ec := by unfold joinE; rw [if_pos HMa.out, if_pos HMb.out]; exact HMc.out
      exact ⟨e1, by unfold joinV; rw [e1]; exact if_neg h2⟩
    have h2' : (Ec == 0) = false := beq_eq_false_iff_ne.2 h2
    clear t0 t1
    go_wp2
    refine bodyPost_ret (v := .tuple #[.agg #[.int .i64 0, .slice none 0 0], .int .i64 Ec]) (by simp [results, Try.results22, go_sem, hR]) rfl ⟨_, by rw [HV.out.1, HV.out.2], ?_, (by repeat (first | exact Below.refl _ _ | assumption | refine Below.drew ?_ | refine Below.drewN' ?_ _ | (refine Below.alloc ?_ (by simp <;> omega) _) | (refine Below.setCell ?_ (by simp <;> omega) _)))⟩
    rw [HV.out.2]
    exact World.ownsRow_nil _ _ _ _
  subst h2
  have HV : Hid (joinE ⟨ma, pa⟩ ⟨mb, pb⟩ = 0 ∧ joinV ⟨ma, pa⟩ ⟨mb, pb⟩ = ⟨ma + mb, pa ++ pb⟩) := by
    have e1 : joinE ⟨ma, pa⟩ ⟨mb, pb⟩ = 0 := by unfold joinE; rw [if_pos HMa.out, if_pos HMb.out]; exact HMc.out
    exact ⟨e1, by unfold joinV; rw [e1]; rfl⟩
  have hn2 := own_blk_ne UO.out U2 (by decide)
  go_wp2
  refine bodyPost_ret (v := .tuple #[.agg #[.int .i64 (ma + mb), .slice A' n' c'], .int .i64 0]) (by simp [results, Try.results22, go_sem, hR]) rfl ⟨_, by rw [HV.out.1, HV.out.2], ?_, (by repeat (first | exact Below.refl _ _ | assumption | refine Below.drew ?_ | refine Below.drewN' ?_ _ | (refine Below.alloc ?_ (by simp <;> omega) _) | (refine Below.setCell ?_ (by simp <;> omega) _)))⟩
  rw [HV.out.2]
  have h := own_set (own_set UO.out (p := ⟨w.heap.size + 1 + 1, 0, none⟩) hn2 (.int .i64 (ma + mb))) (p := ⟨w.heap.size + 1 + 1, 1, none⟩) hn2 (.slice A' n' c')
  rw [← HL.out, ← HC.out]
  exact h
end Go.Proofs.Ytfblpokjbopagaa
