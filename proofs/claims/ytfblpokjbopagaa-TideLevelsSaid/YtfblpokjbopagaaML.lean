/-
  Layer 2, the program: Check, checkTimes, Range.
-/
import Derived.Test.YtfblpokjbopagaaMK
import Derived.Test.YtfblpokjbopagaaMI
set_option linter.unusedSimpArgs false
set_option linter.unusedVariables false
namespace Go.Proofs.Ytfblpokjbopagaa
open Go.RowKit

set_option maxRecDepth 100000 in
set_option maxHeartbeats 2000000 in
theorem tmCheck_any (x : Value) (m : Md) (w : World) (hm : MdAt w w.heap.size x m) :
    Calls Try.prog 14 #[x] w fun e w' => e = .returned (.int .i64 (mdE m)) ∧ Below w.heap.size w w' := by
  obtain ⟨v, rfl, hp⟩ := hm
  have HP := Lib.hid hp
  obtain ⟨A, c, rfl, hc, hlen⟩ := hp.open_
  obtain ⟨mean, ps⟩ := m
  simp only at HP hc hlen ⊢
  clear hp
  by_cases h1 : -10000 ≤ mean ∧ mean ≤ 10000
  case neg =>
    have he : mdE ⟨mean, ps⟩ = 3 := by unfold mdE; rw [if_neg h1]
    have dm := decide_eq_false h1
    rw [he]; clear he h1
    go_enter Try.func14, Try.ntmps14
    go_wp2_with (first | (go_at_call 41; refine (within_any _ _ _ _).mono ?_; rintro e w9 ⟨rfl, hw⟩; obtain rfl := hw; rw [dm]))
    go_ret
    exact ⟨rfl, (by repeat (first | exact Below.refl _ _ | assumption | refine Below.drew ?_ | refine Below.drewN' ?_ _ | (refine Below.alloc ?_ (by simp <;> omega) _) | (refine Below.setCell ?_ (by simp <;> omega) _)))⟩
  have dm := decide_eq_true h1
  by_cases h3 : ps.length ≤ 16
  case neg =>
    have he : mdE ⟨mean, ps⟩ = 9 := by unfold mdE; rw [if_pos h1, if_neg h3]
    rw [he]; clear he h1
    have h3' : (16 : Int) < (ps.length : Int) := by omega
    go_enter Try.func14, Try.ntmps14
    go_wp2_with (first | (go_at_call 41; refine (within_any _ _ _ _).mono ?_; rintro e w9 ⟨rfl, hw⟩; obtain rfl := hw; rw [dm]))
    go_ret
    exact ⟨rfl, (by repeat (first | exact Below.refl _ _ | assumption | refine Below.drew ?_ | refine Below.drewN' ?_ _ | (refine Below.alloc ?_ (by simp <;> omega) _) | (refine Below.setCell ?_ (by simp <;> omega) _)))⟩
  have he : mdE ⟨mean, ps⟩ = if ps.all partOk then 0 else 3 := by unfold mdE; rw [if_pos h1, if_pos h3]
  have HE := Lib.hid he
  clear he h1
  have h3' : (ps.length : Int) ≤ 16 := by omega
  obtain ⟨E, hE⟩ : ∃ E, (if ps.all partOk = true then (0 : Int) else 3) = E := ⟨_, rfl⟩
  have HG : Hid (∀ b, ps.all partOk = b → E = if b = true then 0 else 3) := fun b h => by rw [← hE, h]
  rw [HE.out, hE]
  clear HE hE
  go_enter Try.func14, Try.ntmps14
  go_upto_region 1 with (fail)
  obtain ⟨V0, hV⟩ : ∃ V, w.alloc (.cells #[.int .i64 mean, .slice A ps.length c] 35) = V := ⟨_, rfl⟩
  have hB0 : Below w.heap.size w V0 := by rw [← hV]; exact (by repeat (first | exact Below.refl _ _ | assumption | refine Below.drew ?_ | refine Below.drewN' ?_ _ | (refine Below.alloc ?_ (by simp <;> omega) _) | (refine Below.setCell ?_ (by simp <;> omega) _)))
  have hk : Blk V0 w.heap.size 35 #[.int .i64 mean, .slice A ps.length c] := by rw [← hV]; exact Blk.new' _ _ _ rfl
  rw [hV]
  have HB := Lib.hid hB0
  have HK := Lib.hid hk
  have HQ := Lib.hid (HP.out.below hB0)
  have y0 := hk.cell 0
  have y1 := hk.cell 1
  simp only [List.getElem?_toArray, List.getElem?_cons_zero, List.getElem?_cons_succ] at y0 y1
  clear hV hB0 hk HP
  go_wp2_with (first | (go_at_call 41; refine (within_any _ _ _ _).mono ?_; rintro e w9 ⟨rfl, hw⟩; obtain rfl := hw; rw [dm]))
  clear dm
  go_loopw [16] (fun j wr => ∃ k : Nat, k ≤ ps.length ∧ j = .int .i64 k ∧ Hid ((ps.take k).all partOk = true) ∧ Hid (Below V0.heap.size V0 wr)) (fun j wr => ps.length - (intOf j).toNat)
  case atStart => exact ⟨0, by omega, rfl, rfl, Below.refl _ _⟩
  case round =>
    clear y0 y1
    obtain ⟨k, hk, rfl, HT, HBr⟩ := hrel
    have K1 := HK.out.below HBr.out HK.out.lt
    have y0 := K1.cell 0
    have y1 := K1.cell 1
    simp only [List.getElem?_toArray, List.getElem?_cons_zero, List.getElem?_cons_succ] at y0 y1
    have l1 := K1.lt
    clear K1
    by_cases hlt : k < ps.length
    · have hk0 : (0 : Int) ≤ (k : Int) := by omega
      have hk1 : (k : Int) < (ps.length : Int) := by omega
      obtain ⟨b, o, rfl, hb, f0, f1, f2⟩ := (HQ.out.below (HBr.out.mono HB.out.size)).at_ hlt
      have HN := Lib.hid (all_take partOk ps k hlt)
      have HF := Lib.hid (fun hp => all_false partOk ps k hlt hp)
      generalize ps[k] = p at *
      obtain ⟨am, pe, ph⟩ := p
      simp only at f0 f1 f2
      have hbl : b < wr.heap.size := by have := HBr.out.size; have := HB.out.size; omega
      have HO : Hid (partOk (am, pe, ph) = decide (0 ≤ am ∧ am ≤ 1000 ∧ 1 ≤ pe ∧ pe ≤ 1000000000 ∧ 0 ≤ ph ∧ ph < 3600)) := rfl
      go_upto_region 8 with (fail)
      obtain ⟨V, hV⟩ : ∃ V, wr.alloc (.cells #[.int .i64 am, .int .i64 pe, .int .i64 ph] 70) = V := ⟨_, rfl⟩
      have hz : Below wr.heap.size wr V := by rw [← hV]; exact (Below.refl _ _).alloc (Nat.le_refl _) _
      have hk4 : Blk V wr.heap.size 70 #[.int .i64 am, .int .i64 pe, .int .i64 ph] := by rw [← hV]; exact Blk.new' _ _ _ rfl
      rw [hV]
      have HBz := Lib.hid (HBr.out.trans (hz.mono HBr.out.size))
      have JB := Lib.hid (HB.out.trans (HBz.out.mono HB.out.size))
      have z0 := hk4.cell 0
      have z1 := hk4.cell 1
      have z2 := hk4.cell 2
      simp only [List.getElem?_toArray, List.getElem?_cons_zero, List.getElem?_cons_succ] at z0 z1 z2
      clear hV hz hk4 f0 f1 f2 y0 y1
      by_cases q0 : 0 ≤ am ∧ am ≤ 1000
      case neg =>
        have hf : partOk (am, pe, ph) = false := by rw [HO.out]; exact decide_eq_false (by omega)
        have d0 := decide_eq_false q0
        have HA := Lib.hid (HF.out hf)
        have JBo := JB.out
        obtain rfl : E = 3 := HG.out false HA.out
        clear hf HO
        go_wp2_with (first | (go_at_call 41; refine (within_any _ _ _ _).mono ?_; rintro e w9 ⟨rfl, hw⟩; obtain rfl := hw; (try rw [d0]); (try rw [d1]); (try rw [d2])))
        go_ret
        exact ⟨rfl, JBo⟩
      have d0 := decide_eq_true q0
      by_cases q1 : 1 ≤ pe ∧ pe ≤ 1000000000
      case neg =>
        have hf : partOk (am, pe, ph) = false := by rw [HO.out]; exact decide_eq_false (by omega)
        have d1 := decide_eq_false q1
        have HA := Lib.hid (HF.out hf)
        have JBo := JB.out
        obtain rfl : E = 3 := HG.out false HA.out
        clear hf HO
        go_wp2_with (first | (go_at_call 41; refine (within_any _ _ _ _).mono ?_; rintro e w9 ⟨rfl, hw⟩; obtain rfl := hw; (try rw [d0]); (try rw [d1]); (try rw [d2])))
        go_ret
        exact ⟨rfl, JBo⟩
      have d1 := decide_eq_true q1
      by_cases q2 : 0 ≤ ph ∧ ph ≤ 3599
      case neg =>
        have hf : partOk (am, pe, ph) = false := by rw [HO.out]; exact decide_eq_false (by omega)
        have d2 := decide_eq_false q2
        have HA := Lib.hid (HF.out hf)
        have JBo := JB.out
        obtain rfl : E = 3 := HG.out false HA.out
        clear hf HO
        go_wp2_with (first | (go_at_call 41; refine (within_any _ _ _ _).mono ?_; rintro e w9 ⟨rfl, hw⟩; obtain rfl := hw; (try rw [d0]); (try rw [d1]); (try rw [d2])))
        go_ret
        exact ⟨rfl, JBo⟩
      have d2 := decide_eq_true q2
      have hok : partOk (am, pe, ph) = true := by rw [HO.out]; exact decide_eq_true ⟨q0.1, q0.2, q1.1, q1.2, q2.1, by omega⟩
      have HT' : Hid ((ps.take (k + 1)).all partOk = true) := by rw [Hid, HN.out, HT.out, hok]; rfl
      clear hok HO
      go_wp2_with (first | (go_at_call 41; refine (within_any _ _ _ _).mono ?_; rintro e w9 ⟨rfl, hw⟩; obtain rfl := hw; (try rw [d0]); (try rw [d1]); (try rw [d2])))
      go_roundw
      case rel => exact ⟨k + 1, by omega, by go_num, HT'.out, HBz.out⟩
      case measure => simp [intOf]; omega
    · obtain rfl : k = ps.length := by omega
      have ht : ps.take ps.length = ps := List.take_length
      have HA : Hid (ps.all partOk = true) := by have h := HT.out; rw [ht] at h; exact h
      have JBo := HB.out.trans (HBr.out.mono HB.out.size)
      obtain rfl : E = 0 := HG.out true HA.out
      clear ht HT
      go_wp2
      go_ret
      exact ⟨rfl, JBo⟩
set_option maxRecDepth 100000 in
set_option maxHeartbeats 2000000 in
theorem tRange_any (x : Value) (m : Md) (w : World) (hm : MdAt w w.heap.size x m) :
    Calls Try.prog 19 #[x] w fun e w' => e = .returned (.tuple #[.agg #[.int .i64 (rngV m).1, .int .i64 (rngV m).2], .int .i64 (mdE m)]) ∧ Below w.heap.size w w' := by
  obtain ⟨v, rfl, hp⟩ := hm
  have HP := Lib.hid hp
  obtain ⟨A, c, rfl, hc, hlen⟩ := hp.open_
  obtain ⟨mean, ps⟩ := m
  simp only at HP hc hlen ⊢
  clear hp
  have HE : Hid (∀ e, mdE ⟨mean, ps⟩ = e → rngV ⟨mean, ps⟩ = if e = 0 then rangeZ ⟨mean, ps⟩ else (0, 0)) := fun e h => by unfold rngV; rw [h]
  have HZ : Hid (mdE ⟨mean, ps⟩ = 0 → (-10000 ≤ mean ∧ mean ≤ 10000) ∧ ps.length ≤ 16 ∧ ps.all partOk = true) := fun h => mdE_zero h
  obtain ⟨E, hE⟩ : ∃ E, mdE ⟨mean, ps⟩ = E := ⟨_, rfl⟩
  obtain ⟨⟨R1, R2⟩, hR⟩ : ∃ r, rngV ⟨mean, ps⟩ = r := ⟨_, rfl⟩
  have HM := Lib.hid hE
  have HRV := Lib.hid ((HE.out E hE).symm.trans hR)
  rw [hE] at HZ
  rw [hE, hR]
  clear hE hR HE
  go_enter Try.func19, Try.ntmps19
  go_upto_region 1 with (fail)
  obtain ⟨V0, hV⟩ : ∃ V, (w.alloc (.cells #[.int .i64 mean, .slice A ps.length c] 35)).alloc (.cells #[.int .i64 0, .int .i64 0] 23) = V := ⟨_, rfl⟩
  have K1 : Hid (Blk V0 w.heap.size 35 #[.int .i64 mean, .slice A ps.length c]) := by rw [← hV]; exact (Blk.new' _ _ _ rfl).alloc _
  have K2 : Hid (Blk V0 (w.heap.size + 1) 23 #[.int .i64 0, .int .i64 0]) := by rw [← hV]; exact Blk.new' _ _ _ (by simp)
  have KB : Hid (Below w.heap.size w V0) := by rw [← hV]; exact (by repeat (first | exact Below.refl _ _ | assumption | refine Below.drew ?_ | refine Below.drewN' ?_ _ | (refine Below.alloc ?_ (by simp <;> omega) _) | (refine Below.setCell ?_ (by simp <;> omega) _)))
  rw [hV]
  clear hV
  have y0 := K1.out.cell 0
  have y1 := K1.out.cell 1
  simp only [List.getElem?_toArray, List.getElem?_cons_zero, List.getElem?_cons_succ] at y0 y1
  go_wp2_with fail
  refine (tmCheck_any _ ⟨mean, ps⟩ _ ⟨_, rfl, HP.out.later KB.out (Nat.le_refl _)⟩).mono ?_
  rintro e w1 ⟨rfl, hb⟩
  rw [HM.out]
  have J1 := Lib.hid (K1.out.below hb K1.out.lt)
  have J2 := Lib.hid (K2.out.below hb K2.out.lt)
  have JB := Lib.hid (KB.out.trans (hb.mono KB.out.size))
  clear hb K1 K2 KB y0 y1
  by_cases h0 : E = 0
  · subst h0
    obtain ⟨⟨a1, a2⟩, a3, a4⟩ := HZ.out rfl
    have HOK := Lib.hid a4
    have HR : Hid (mean - sumF ampP ps = R1 ∧ mean + sumF ampP ps = R2) := by
      have h := HRV.out
      rw [if_pos rfl] at h
      unfold rangeZ at h
      injection h with h1 h2
      exact ⟨h1, h2⟩
    clear a4 HRV HZ HM
    have y0 := J1.out.cell 0
    have y1 := J1.out.cell 1
    simp only [List.getElem?_toArray, List.getElem?_cons_zero, List.getElem?_cons_succ] at y0 y1
    go_wp2_with fail
    go_loopw [5, 17] (fun s j wr => ∃ (k : Nat) (S : Int), k ≤ ps.length ∧ s = .int .i64 S ∧ j = .int .i64 k ∧ Hid (S = sumF ampP (ps.take k)) ∧ 0 ≤ S ∧ S ≤ 1000 * k ∧ Hid (Below w1.heap.size w1 wr)) (fun _ j wr => ps.length - (intOf j).toNat)
    case atStart => exact ⟨0, 0, by omega, rfl, rfl, rfl, by omega, by omega, Below.refl _ _⟩
    case round =>
      obtain ⟨k, S, hk, rfl, rfl, HS, s0, s1, Hwr⟩ := hrel
      clear y0 y1
      have I1 := Lib.hid (J1.out.below Hwr.out J1.out.lt)
      have I2 := Lib.hid (J2.out.below Hwr.out J2.out.lt)
      have IB := Lib.hid (JB.out.trans (Hwr.out.mono JB.out.size))
      have y0 := I1.out.cell 0
      have y1 := I1.out.cell 1
      simp only [List.getElem?_toArray, List.getElem?_cons_zero, List.getElem?_cons_succ] at y0 y1
      by_cases hlt : k < ps.length
      · have hk0 : (0 : Int) ≤ (k : Int) := by omega
        have hk1 : (k : Int) < (ps.length : Int) := by omega
        obtain ⟨b, o, rfl, hb, f0, f1, f2⟩ := (HP.out.below IB.out).at_ hlt
        have hp := part_of (List.all_eq_true.1 HOK.out ps[k] (List.getElem_mem hlt))
        have HN := Lib.hid (sumF_take ampP ps k hlt)
        have HA : Hid (ampP ps[k] = ps[k].1) := rfl
        generalize ps[k] = p at *
        obtain ⟨am, pe, ph⟩ := p
        simp only at f0 f1 f2 hp
        have hbl : b < wr.heap.size := by have := IB.out.size; omega
        have Hw2 : Hid (Below w1.heap.size w1 (wr.alloc (.cells #[.int .i64 am, .int .i64 pe, .int .i64 ph] 70))) := Hwr.out.alloc Hwr.out.size _
        obtain ⟨p0, p1, -⟩ := hp
        go_wp2
        go_roundw
        case rel => exact ⟨k + 1, S + am, by omega, by go_num, by go_num, by rw [Hid, HN.out, HS.out, HA.out], by omega, by omega, Hw2.out⟩
        case measure => simp [intOf]; omega
      · obtain rfl : k = ps.length := by omega
        have ht : ps.take ps.length = ps := List.take_length
        have HS2 : Hid (S = sumF ampP ps) := by have h := HS.out; rw [ht] at h; exact h
        obtain ⟨t0, t1, v0, v1⟩ := span_parts I2.out
        have e1 : mean - S = R1 := by rw [HS2.out]; exact HR.out.1
        have e2 : mean + S = R2 := by rw [HS2.out]; exact HR.out.2
        clear ht HS
        go_wp2
        have hR := fun x y => span_res2 I2.out x y
        refine bodyPost_ret (v := .tuple #[.agg #[.int .i64 (mean - S), .int .i64 (mean + S)], .int .i64 0]) (by simp [results, Try.results19, go_sem, hR, e1, e2]) rfl ⟨by rw [e1, e2], ?_⟩
        have JBo := IB.out
        exact (by repeat (first | exact Below.refl _ _ | assumption | refine Below.drew ?_ | refine Below.drewN' ?_ _ | (refine Below.alloc ?_ (by simp <;> omega) _) | (refine Below.setCell ?_ (by simp <;> omega) _)))
  · have HR : Hid (R1 = 0 ∧ R2 = 0) := by
      have h := HRV.out
      rw [if_neg h0] at h
      injection h with h1 h2
      exact ⟨h1.symm, h2.symm⟩
    obtain ⟨rfl, rfl⟩ := HR.out
    have h0' : (E == 0) = false := beq_eq_false_iff_ne.2 h0
    obtain ⟨t0, t1, v0, v1⟩ := span_parts J2.out
    go_wp2
    have hR := fun x y => span_res2 J2.out x y
    refine bodyPost_ret (v := .tuple #[.agg #[.int .i64 0, .int .i64 0], .int .i64 E]) (by simp [results, Try.results19, go_sem, hR]) rfl ⟨rfl, ?_⟩
    have JBo := JB.out
    exact (by repeat (first | exact Below.refl _ _ | assumption | refine Below.drew ?_ | refine Below.drewN' ?_ _ | (refine Below.alloc ?_ (by simp <;> omega) _) | (refine Below.setCell ?_ (by simp <;> omega) _)))
end Go.Proofs.Ytfblpokjbopagaa
/-
  Layer 2, the program: checkTimes, angles, levels.
-/
namespace Go.Proofs.Ytfblpokjbopagaa
open Go.RowKit

def oiu1_0 : Oper := { dst := some 3, op := Op.fieldAddr 76 (Operand.tmp 1) 0, type := 0, pos := "bounds.go:34", after := #[], guard := none }
def oiu1_1 : Oper := { dst := some 4, op := Op.fieldAddr 23 (Operand.tmp 3) 0, type := 0, pos := "bounds.go:34", after := #[{ on := 0, ground := Ground.data }], guard := none }
def oiu1_2 : Oper := { dst := some 5, op := Op.load 3 (Operand.tmp 4), type := 3, pos := "bounds.go:34", after := #[{ on := 1, ground := Ground.data }], guard := none }
def oiu1_3 : Oper := { dst := some 6, op := Op.call { callee := Callee.value (Operand.func 69), args := #[Operand.tmp 5], argTypes := #[3] }, type := 3, pos := "bounds.go:34", after := #[{ on := 2, ground := Ground.data }], guard := none }
def oiu1_4 : Oper := { dst := some 7, op := Op.fieldAddr 76 (Operand.tmp 1) 0, type := 0, pos := "bounds.go:34", after := #[], guard := none }
def oiu1_5 : Oper := { dst := some 8, op := Op.fieldAddr 23 (Operand.tmp 7) 1, type := 0, pos := "bounds.go:34", after := #[{ on := 4, ground := Ground.data }], guard := none }
def oiu1_6 : Oper := { dst := some 9, op := Op.load 3 (Operand.tmp 8), type := 3, pos := "bounds.go:34", after := #[{ on := 5, ground := Ground.data }], guard := none }
def oiu1_7 : Oper := { dst := some 10, op := Op.unOp UnOp.neg 3 (Operand.tmp 9), type := 3, pos := "bounds.go:34", after := #[{ on := 6, ground := Ground.data }], guard := none }
def oiu1_8 : Oper := { dst := some 11, op := Op.call { callee := Callee.value (Operand.func 69), args := #[Operand.tmp 10], argTypes := #[3] }, type := 3, pos := "bounds.go:34", after := #[{ on := 7, ground := Ground.data }, { on := 3, ground := Ground.chain }], guard := none }
def oiu1_9 : Oper := { dst := some 12, op := Op.unOp UnOp.neg 3 (Operand.tmp 11), type := 3, pos := "bounds.go:34", after := #[{ on := 8, ground := Ground.data }], guard := none }
def oiu1_10 : Oper := { dst := some 13, op := Op.build 23 #[(0, Operand.tmp 6), (1, Operand.tmp 12)], type := 23, pos := "bounds.go:34", after := #[{ on := 3, ground := Ground.data }, { on := 9, ground := Ground.data }], guard := none }
def oiu1_11 : Oper := { dst := some 14, op := Op.build 76 #[(0, Operand.tmp 13)], type := 76, pos := "bounds.go:34", after := #[{ on := 10, ground := Ground.data }], guard := none }
def oiu1_12 : Oper := { dst := none, op := Op.store 76 (Operand.tmp 2) (Operand.tmp 14), type := 0, pos := "bounds.go:34", after := #[{ on := 11, ground := Ground.data }, { on := 8, ground := Ground.chain }, { on := 0, ground := Ground.phase }, { on := 1, ground := Ground.phase }, { on := 2, ground := Ground.phase }, { on := 3, ground := Ground.phase }, { on := 4, ground := Ground.phase }, { on := 5, ground := Ground.phase }, { on := 6, ground := Ground.phase }, { on := 7, ground := Ground.phase }, { on := 8, ground := Ground.phase }, { on := 9, ground := Ground.phase }, { on := 10, ground := Ground.phase }, { on := 11, ground := Ground.phase }], guard := none }
def oli5_0 : Oper := { dst := some 16, op := Op.load 76 (Operand.tmp 5), type := 76, pos := "tide.go:103", after := #[], guard := none }
def oli5_1 : Oper := { dst := some 17, op := Op.load 70 (Operand.tmp 7), type := 70, pos := "tide.go:103", after := #[], guard := none }
def oli5_2 : Oper := { dst := some 18, op := Op.load 23 (Operand.tmp 3), type := 23, pos := "tide.go:103", after := #[], guard := none }
def oli5_3 : Oper := { dst := some 19, op := Op.call { callee := Callee.value (Operand.func 57), args := #[Operand.tmp 17, Operand.tmp 18], argTypes := #[70, 23] }, type := 23, pos := "tide.go:103", after := #[{ on := 1, ground := Ground.data }, { on := 2, ground := Ground.data }], guard := none }
def oli5_4 : Oper := { dst := some 20, op := Op.call { callee := Callee.value (Operand.func 37), args := #[Operand.tmp 19], argTypes := #[23] }, type := 76, pos := "tide.go:103", after := #[{ on := 3, ground := Ground.data }, { on := 3, ground := Ground.chain }], guard := none }
def oli5_5 : Oper := { dst := some 21, op := Op.fieldAddr 70 (Operand.tmp 7) 0, type := 0, pos := "tide.go:103", after := #[], guard := none }
def oli5_6 : Oper := { dst := some 22, op := Op.load 3 (Operand.tmp 21), type := 3, pos := "tide.go:103", after := #[{ on := 5, ground := Ground.data }], guard := none }
def oli5_7 : Oper := { dst := some 23, op := Op.call { callee := Callee.value (Operand.func 58), args := #[Operand.tmp 20, Operand.tmp 22], argTypes := #[76, 3] }, type := 76, pos := "tide.go:103", after := #[{ on := 4, ground := Ground.data }, { on := 6, ground := Ground.data }, { on := 4, ground := Ground.chain }], guard := none }
def oli5_8 : Oper := { dst := some 24, op := Op.call { callee := Callee.value (Operand.func 56), args := #[Operand.tmp 16, Operand.tmp 23], argTypes := #[76, 76] }, type := 76, pos := "tide.go:103", after := #[{ on := 0, ground := Ground.data }, { on := 7, ground := Ground.data }, { on := 7, ground := Ground.chain }], guard := none }
def oli5_9 : Oper := { dst := none, op := Op.store 76 (Operand.tmp 5) (Operand.tmp 24), type := 0, pos := "tide.go:103", after := #[{ on := 8, ground := Ground.data }, { on := 8, ground := Ground.chain }, { on := 0, ground := Ground.phase }, { on := 1, ground := Ground.phase }, { on := 2, ground := Ground.phase }, { on := 3, ground := Ground.phase }, { on := 4, ground := Ground.phase }, { on := 5, ground := Ground.phase }, { on := 6, ground := Ground.phase }, { on := 7, ground := Ground.phase }, { on := 8, ground := Ground.phase }], guard := none }
def oli7_0 : Oper := { dst := some 26, op := Op.load 76 (Operand.tmp 5), type := 76, pos := "tide.go:105", after := #[], guard := none }
def oli7_1 : Oper := { dst := some 27, op := Op.call { callee := Callee.value (Operand.func 59), args := #[Operand.tmp 26], argTypes := #[76] }, type := 76, pos := "tide.go:105", after := #[{ on := 0, ground := Ground.data }], guard := none }
def oli7_2 : Oper := { dst := some 28, op := Op.fieldAddr 35 (Operand.tmp 2) 0, type := 0, pos := "tide.go:105", after := #[], guard := none }
def oli7_3 : Oper := { dst := some 29, op := Op.load 3 (Operand.tmp 28), type := 3, pos := "tide.go:105", after := #[{ on := 2, ground := Ground.data }], guard := none }
def oli7_4 : Oper := { dst := some 30, op := Op.call { callee := Callee.value (Operand.func 55), args := #[Operand.tmp 29], argTypes := #[3] }, type := 76, pos := "tide.go:105", after := #[{ on := 3, ground := Ground.data }, { on := 1, ground := Ground.chain }], guard := none }
def oli7_5 : Oper := { dst := some 31, op := Op.call { callee := Callee.value (Operand.func 56), args := #[Operand.tmp 27, Operand.tmp 30], argTypes := #[76, 76] }, type := 76, pos := "tide.go:105", after := #[{ on := 1, ground := Ground.data }, { on := 4, ground := Ground.data }, { on := 4, ground := Ground.chain }], guard := none }
def oli7_6 : Oper := { dst := some 32, op := Op.field 76 (Operand.tmp 31) 0, type := 23, pos := "tide.go:105", after := #[{ on := 5, ground := Ground.data }], guard := none }
def oli7_7 : Oper := { dst := none, op := Op.store 23 (Operand.tmp 4) (Operand.tmp 32), type := 0, pos := "tide.go:105", after := #[{ on := 6, ground := Ground.data }, { on := 5, ground := Ground.chain }, { on := 0, ground := Ground.phase }, { on := 1, ground := Ground.phase }, { on := 2, ground := Ground.phase }, { on := 3, ground := Ground.phase }, { on := 4, ground := Ground.phase }, { on := 5, ground := Ground.phase }, { on := 6, ground := Ground.phase }], guard := none }

theorem up_go {x p : Int} (hp : 0 < p) : (x + p - 1) / p = upZ x p := by
  have e := Int.mul_ediv_add_emod (-x) p
  have l := Int.emod_lt_of_pos (-x) hp
  have l2 := Int.emod_nonneg (-x) (show p ≠ 0 by omega)
  unfold upZ
  exact ((Int.ediv_emod_unique hp (q := -(-x / p)) (r := p - 1 - (-x) % p) (a := x + p - 1)).2 ⟨by rw [Int.mul_neg]; omega, by omega, by omega⟩).1
set_option maxRecDepth 100000 in
set_option maxHeartbeats 2000000 in
theorem checkTimes_any (x : Value) (m : Md) (lo hi : Int) (w : World) (hm : MdAt w w.heap.size x m) :
    Calls Try.prog 42 #[x, .agg #[.int .i64 lo, .int .i64 hi]] w fun e w' => e = .returned (.int .i64 (levE m (lo, hi))) ∧ Below w.heap.size w w' := by
  obtain ⟨v, rfl, hp⟩ := hm
  have HP := Lib.hid hp
  obtain ⟨A, c, rfl, hc, hlen⟩ := hp.open_
  clear hp
  obtain ⟨E, hE⟩ : ∃ E, mdE m = E := ⟨_, rfl⟩
  have HM := Lib.hid hE
  obtain ⟨mean, ps⟩ := m
  simp only at HP hc hlen ⊢
  go_enter Try.func42, Try.ntmps42
  go_upto_region 1 with (fail)
  obtain ⟨V0, hV⟩ : ∃ V, (w.alloc (.cells #[.int .i64 mean, .slice A ps.length c] 35)).alloc (.cells #[.int .i64 lo, .int .i64 hi] 23) = V := ⟨_, rfl⟩
  have K1 : Hid (Blk V0 w.heap.size 35 #[.int .i64 mean, .slice A ps.length c]) := by rw [← hV]; exact (Blk.new' _ _ _ rfl).alloc _
  have K3 : Hid (Blk V0 (w.heap.size + 1) 23 #[.int .i64 lo, .int .i64 hi]) := by rw [← hV]; exact Blk.new' _ _ _ (by simp)
  have KB : Hid (Below w.heap.size w V0) := by rw [← hV]; exact (by repeat (first | exact Below.refl _ _ | assumption | refine Below.drew ?_ | refine Below.drewN' ?_ _ | (refine Below.alloc ?_ (by simp <;> omega) _) | (refine Below.setCell ?_ (by simp <;> omega) _)))
  rw [hV]
  clear hV
  have y0 := K1.out.cell 0
  have y1 := K1.out.cell 1
  simp only [List.getElem?_toArray, List.getElem?_cons_zero, List.getElem?_cons_succ] at y0 y1
  go_wp2_with fail
  refine (tmCheck_any _ ⟨mean, ps⟩ _ ⟨_, rfl, HP.out.later KB.out (Nat.le_refl _)⟩).mono ?_
  rintro e w1 ⟨rfl, hb⟩
  rw [HM.out]
  have J3 := Lib.hid (K3.out.below hb K3.out.lt)
  have JB := Lib.hid (KB.out.trans (hb.mono KB.out.size))
  clear hb K1 K3 KB y0 y1
  by_cases h0 : E = 0
  · subst h0
    obtain ⟨f0, f1, -, -⟩ := span_parts J3.out
    have HE0 := Lib.hid hE
    clear hE HM
    by_cases hok : lo ≤ hi ∧ 0 ≤ lo ∧ hi ≤ 1000000000
    · have HV : Hid (levE ⟨mean, ps⟩ (lo, hi) = 0) := by unfold levE; rw [if_pos HE0.out]; exact if_pos hok
      have d := decide_eq_true hok
      go_wp2_with fail
      refine (isSpan_any _ _ _ _ _).mono ?_
      rintro e w2 ⟨rfl, hb⟩
      rw [d]
      have IB := Lib.hid (JB.out.trans (hb.mono JB.out.size))
      clear hb J3 JB f0 f1 d
      go_wp2
      go_ret
      exact ⟨by rw [HV.out]; rfl, IB.out⟩
    · have HV : Hid (levE ⟨mean, ps⟩ (lo, hi) = 3) := by unfold levE; rw [if_pos HE0.out]; exact if_neg hok
      have d := decide_eq_false hok
      go_wp2_with fail
      refine (isSpan_any _ _ _ _ _).mono ?_
      rintro e w2 ⟨rfl, hb⟩
      rw [d]
      have IB := Lib.hid (JB.out.trans (hb.mono JB.out.size))
      clear hb J3 JB f0 f1 d
      go_wp2
      go_ret
      exact ⟨by rw [HV.out]; rfl, IB.out⟩
  · have HV : Hid (levE ⟨mean, ps⟩ (lo, hi) = E) := by unfold levE; rw [hE, if_neg h0]; rfl
    have h0' : (E == 0) = false := beq_eq_false_iff_ne.2 h0
    clear hE HM
    go_wp2
    go_ret
    exact ⟨by rw [HV.out]; rfl, JB.out⟩
set_option maxRecDepth 100000 in
set_option maxHeartbeats 2000000 in
theorem angles_any (am pe ph lo hi : Int) (w : World) (ht : 0 ≤ lo ∧ lo ≤ hi ∧ hi ≤ 1000000000) (hp : 1 ≤ pe ∧ pe ≤ 1000000000) (hh : 0 ≤ ph ∧ ph < 3600) :
    Calls Try.prog 57 #[.agg #[.int .i64 am, .int .i64 pe, .int .i64 ph], .agg #[.int .i64 lo, .int .i64 hi]] w fun e w' => e = .returned (.agg #[.int .i64 (angS (lo, hi) (am, pe, ph)).1, .int .i64 (angS (lo, hi) (am, pe, ph)).2]) ∧ Below w.heap.size w w' := by
  have e1 : (lo * 3600).tdiv pe = downZ (3600 * lo) pe := by rw [Int.tdiv_eq_ediv_of_nonneg (by omega), Int.mul_comm]; rfl
  have e2 : (hi * 3600 + pe - 1).tdiv pe = upZ (3600 * hi) pe := by rw [Int.tdiv_eq_ediv_of_nonneg (by omega), up_go (by omega), Int.mul_comm]
  have r1 := down_rng (a := 3600 * lo) (b := pe) (M := 3600000000000) (by omega) ⟨by omega, by omega⟩
  have r2 : -3600000000000 ≤ upZ (3600 * hi) pe ∧ upZ (3600 * hi) pe ≤ 3600000000000 := by
    have h := down_rng (a := -(3600 * hi)) (b := pe) (M := 3600000000000) (by omega) ⟨by omega, by omega⟩
    unfold downZ at h; unfold upZ; omega
  have hA : angS (lo, hi) (am, pe, ph) = (downZ (3600 * lo) pe - ph, upZ (3600 * hi) pe - ph) := rfl
  rw [hA]
  obtain ⟨d, hd⟩ : ∃ d, downZ (3600 * lo) pe = d := ⟨_, rfl⟩
  obtain ⟨u, hu⟩ : ∃ u, upZ (3600 * hi) pe = u := ⟨_, rfl⟩
  rw [hd] at e1 r1 ⊢
  rw [hu] at e2 r2 ⊢
  have q0 : ¬ pe = 0 := by omega
  clear hA hd hu
  go_enter Try.func57, Try.ntmps57
  go_wp2
  refine bodyPost_ret (v := .agg #[.int .i64 (d - ph), .int .i64 (u - ph)]) (by simp [results, Try.results57, go_sem]) rfl ⟨rfl, ?_⟩
  exact (by repeat (first | exact Below.refl _ _ | assumption | refine Below.drew ?_ | refine Below.drewN' ?_ _ | (refine Below.alloc ?_ (by simp <;> omega) _) | (refine Below.setCell ?_ (by simp <;> omega) _)))
set_option maxRecDepth 100000 in
set_option maxHeartbeats 2000000 in
theorem inUnits_any (a b : Int) (w : World) (ha : -9000000000000000 ≤ a ∧ a ≤ 9000000000000000) (hb : -9000000000000000 ≤ b ∧ b ≤ 9000000000000000) :
    Calls Try.prog 59 #[.agg #[.int .i64 a, .int .i64 b]] w fun e w' => e = .returned (.agg #[.int .i64 (downZ a 65536), .int .i64 (upZ b 65536)]) ∧ Below w.heap.size w w' := by
  obtain ⟨V0, hV⟩ : ∃ V, (w.alloc (.cells #[.int .i64 a, .int .i64 b] 76)).alloc (.cells #[.int .i64 0, .int .i64 0] 76) = V := ⟨_, rfl⟩
  have K1 : Hid (Blk V0 w.heap.size 76 #[.int .i64 a, .int .i64 b]) := by rw [← hV]; exact (Blk.new' _ _ _ rfl).alloc _
  have K2 : Hid (Blk V0 (w.heap.size + 1) 76 #[.int .i64 0, .int .i64 0]) := by rw [← hV]; exact Blk.new' _ _ _ (by simp)
  have KB : Hid (Below w.heap.size w V0) := by rw [← hV]; exact (by repeat (first | exact Below.refl _ _ | assumption | refine Below.drew ?_ | refine Below.drewN' ?_ _ | (refine Below.alloc ?_ (by simp <;> omega) _) | (refine Below.setCell ?_ (by simp <;> omega) _)))
  have hd : -9000000000000000 ≤ downZ (-b) 65536 ∧ downZ (-b) 65536 ≤ 9000000000000000 := by unfold downZ; omega
  have q1 : IntKind.i64.wrap (-b) = -b := IntWalk.i64_in _ (by omega)
  have q2 : IntKind.i64.wrap (-downZ (-b) 65536) = upZ b 65536 := by rw [IntWalk.i64_in _ (by omega)]; rfl
  go_enter Try.func59, Try.ntmps59
  go_upto_region 1 with (fail)
  try rw [hV]
  clear hV
  have k0 : V0.drew.cell? ⟨w.heap.size, 0, none⟩ = some (.int .i64 a) ∧ V0.drew.cell? ⟨w.heap.size, 1, none⟩ = some (.int .i64 b) := ⟨K1.out.cell 0, K1.out.cell 1⟩
  refine wp_region_noPanic ?_
  refine wp_region_L (S := (fun w' => w'.cell? ⟨w.heap.size, 0, none⟩ = some (.int .i64 a) ∧ w'.cell? ⟨w.heap.size, 1, none⟩ = some (.int .i64 b))) (ks := [12]) (by kernel_rfl) ?_ (fun hHeld => ?_)
  · (try dsimp only); (first | exact k0 | exact hk1)
  refine wpAnyL_take (i := 0) (oi := oiu1_0) (v := ?_) rfl (by kernel_rfl) (fun _ _ _ h => h) (Or.inl ⟨by rfl, ?_⟩) (by assumption) ?_
  rotate_left
  · ((intro w hSw; delta oiu1_0; (try dsimp only at hSw); go_simp) <;> with_reducible rfl)
  try simp only [oiu1_0, Act.put, List.setIfInBounds_toArray, List.set_cons_zero, List.set_cons_succ]
  refine wpAnyL_take (i := 1) (oi := oiu1_1) (v := ?_) rfl (by kernel_rfl) (fun _ _ _ h => h) (Or.inl ⟨by rfl, ?_⟩) (by assumption) ?_
  rotate_left
  · ((intro w hSw; delta oiu1_1; (try dsimp only at hSw); go_simp) <;> with_reducible rfl)
  try simp only [oiu1_1, Act.put, List.setIfInBounds_toArray, List.set_cons_zero, List.set_cons_succ]
  refine wpAnyL_take (i := 2) (oi := oiu1_2) (v := ?_) rfl (by kernel_rfl) (fun _ _ _ h => h) (Or.inl ⟨by rfl, ?_⟩) (by assumption) ?_
  rotate_left
  · ((intro w hSw; delta oiu1_2; (try dsimp only at hSw); go_simp) <;> with_reducible rfl)
  try simp only [oiu1_2, Act.put, List.setIfInBounds_toArray, List.set_cons_zero, List.set_cons_succ]
  refine wpAnyL_take (i := 4) (oi := oiu1_4) (v := ?_) rfl (by kernel_rfl) (fun _ _ _ h => h) (Or.inl ⟨by rfl, ?_⟩) (by assumption) ?_
  rotate_left
  · ((intro w hSw; delta oiu1_4; (try dsimp only at hSw); go_simp) <;> with_reducible rfl)
  try simp only [oiu1_4, Act.put, List.setIfInBounds_toArray, List.set_cons_zero, List.set_cons_succ]
  refine wpAnyL_take (i := 5) (oi := oiu1_5) (v := ?_) rfl (by kernel_rfl) (fun _ _ _ h => h) (Or.inl ⟨by rfl, ?_⟩) (by assumption) ?_
  rotate_left
  · ((intro w hSw; delta oiu1_5; (try dsimp only at hSw); go_simp) <;> with_reducible rfl)
  try simp only [oiu1_5, Act.put, List.setIfInBounds_toArray, List.set_cons_zero, List.set_cons_succ]
  refine wpAnyL_take (i := 6) (oi := oiu1_6) (v := ?_) rfl (by kernel_rfl) (fun _ _ _ h => h) (Or.inl ⟨by rfl, ?_⟩) (by assumption) ?_
  rotate_left
  · ((intro w hSw; delta oiu1_6; (try dsimp only at hSw); go_simp) <;> with_reducible rfl)
  try simp only [oiu1_6, Act.put, List.setIfInBounds_toArray, List.set_cons_zero, List.set_cons_succ]
  refine wpAnyL_take (i := 7) (oi := oiu1_7) (v := ?_) rfl (by kernel_rfl) (fun _ _ _ h => h) (Or.inl ⟨by rfl, ?_⟩) (by assumption) ?_
  rotate_left
  · ((intro w hSw; delta oiu1_7; (try dsimp only at hSw); go_simp) <;> with_reducible rfl)
  try simp only [oiu1_7, Act.put, List.setIfInBounds_toArray, List.set_cons_zero, List.set_cons_succ]
  obtain ⟨W0, hW0⟩ : ∃ V, V0.drew = V := ⟨_, rfl⟩; rw [hW0] at hHeld ⊢; have M2 : Hid (Blk W0 (w.heap.size + 1) 76 #[.int .i64 0, .int .i64 0]) := (by rw [← hW0]; exact K2.out); have MB : Hid (Below w.heap.size w W0) := (by rw [← hW0]; exact KB.out.drew); have hk1 := hHeld; clear hW0
  refine wpAnyL_ready (rs := [3]) (by kernel_rfl) (by simp) ?_
  refine AllReadyL.cons (o := oiu1_3) rfl (fun K hK => ?_) AllReadyL.nil
  delta oiu1_3
  go_simp
  (refine (floor_any _ _ ⟨by omega, by omega⟩).mono ?_; rintro e w9 ⟨rfl, hw⟩; obtain rfl := hw)
  refine hK.out _ _ ?_ (fun hHeld => ?_)
  · (try dsimp only); (first | exact k0 | exact hk1)
  clear hK K
  try simp only [oiu1_3, Act.put, List.setIfInBounds_toArray, List.set_cons_zero, List.set_cons_succ]
  refine wpAnyL_ready (rs := [8]) (by kernel_rfl) (by simp) ?_
  refine AllReadyL.cons (o := oiu1_8) rfl (fun K hK => ?_) AllReadyL.nil
  delta oiu1_8
  go_simp
  (refine (floor_any _ _ ⟨by omega, by omega⟩).mono ?_; rintro e w9 ⟨rfl, hw⟩; obtain rfl := hw)
  refine hK.out _ _ ?_ (fun hHeld => ?_)
  · (try dsimp only); (first | exact k0 | exact hk1)
  clear hK K
  try simp only [oiu1_8, Act.put, List.setIfInBounds_toArray, List.set_cons_zero, List.set_cons_succ]
  refine wpAnyL_take (i := 9) (oi := oiu1_9) (v := ?_) rfl (by kernel_rfl) (fun _ _ _ h => h) (Or.inl ⟨by rfl, ?_⟩) (by assumption) ?_
  rotate_left
  · ((intro w hSw; delta oiu1_9; (try dsimp only at hSw); go_simp) <;> with_reducible rfl)
  try simp only [oiu1_9, Act.put, List.setIfInBounds_toArray, List.set_cons_zero, List.set_cons_succ]
  refine wpAnyL_take (i := 10) (oi := oiu1_10) (v := ?_) rfl (by kernel_rfl) (fun _ _ _ h => h) (Or.inl ⟨by rfl, ?_⟩) (by assumption) ?_
  rotate_left
  · ((intro w hSw; delta oiu1_10; (try dsimp only at hSw); go_simp) <;> with_reducible rfl)
  try simp only [oiu1_10, Act.put, List.setIfInBounds_toArray, List.set_cons_zero, List.set_cons_succ]
  refine wpAnyL_take (i := 11) (oi := oiu1_11) (v := ?_) rfl (by kernel_rfl) (fun _ _ _ h => h) (Or.inl ⟨by rfl, ?_⟩) (by assumption) ?_
  rotate_left
  · ((intro w hSw; delta oiu1_11; (try dsimp only at hSw); go_simp) <;> with_reducible rfl)
  try simp only [oiu1_11, Act.put, List.setIfInBounds_toArray, List.set_cons_zero, List.set_cons_succ]
  obtain ⟨u0, u1, x0, x1⟩ := span_parts M2.out
  refine wpAnyL_ready (rs := [12]) (by kernel_rfl) (by simp) ?_
  refine AllReadyL.gate (o := oiu1_12) rfl (by kernel_rfl) (fun K hK => ?_) AllReadyL.nil
  delta oiu1_12
  go_simp
  refine hK.out _ _ ?_
  clear hK K
  try simp only [oiu1_12, Act.put, List.setIfInBounds_toArray, List.set_cons_zero, List.set_cons_succ]
  refine wpAnyL_done (by kernel_rfl) ?_ _
  refine NoPanic.normal ?_
  go_wp2
  have hR := fun x y => span_res2 M2.out x y
  refine bodyPost_ret (v := .agg #[.int .i64 (downZ a 65536), .int .i64 (upZ b 65536)]) (by simp [results, Try.results59, go_sem, hR]; try rfl) rfl ⟨rfl, ?_⟩
  have MBo := MB.out
  exact (by repeat (first | exact Below.refl _ _ | assumption | refine Below.drew ?_ | refine Below.drewN' ?_ _ | (refine Below.alloc ?_ (by simp <;> omega) _) | (refine Below.setCell ?_ (by simp <;> omega) _)))
set_option maxRecDepth 100000 in
set_option maxHeartbeats 4000000 in
theorem levelIn_any (x : Value) (m : Md) (lo hi : Int) (w : World) (hm : MdAt w w.heap.size x m) (h0 : mdE m = 0) (ht : 0 ≤ lo ∧ lo ≤ hi ∧ hi ≤ 1000000000) :
    Calls Try.prog 43 #[x, .agg #[.int .i64 lo, .int .i64 hi]] w fun e w' => e = .returned (.agg #[.int .i64 (levelZ m (lo, hi)).1, .int .i64 (levelZ m (lo, hi)).2]) ∧ Below w.heap.size w w' := by
  obtain ⟨v, rfl, hp⟩ := hm
  have HP := Lib.hid hp
  obtain ⟨A, c, rfl, hc, hlen⟩ := hp.open_
  obtain ⟨⟨a1, a2⟩, a3, a4⟩ := mdE_zero h0
  obtain ⟨mean, ps⟩ := m
  simp only at HP hc hlen a1 a2 a3 a4 ⊢
  have HOK := Lib.hid a4
  clear hp a4 h0
  obtain ⟨t1, t2, t3⟩ := ht
  obtain ⟨⟨L1, L2⟩, hL⟩ : ∃ r, levelZ ⟨mean, ps⟩ (lo, hi) = r := ⟨_, rfl⟩
  have HL : Hid (mean + downZ (sumF (loP (lo, hi)) ps) 65536 = L1 ∧ mean + upZ (sumF (hiP (lo, hi)) ps) 65536 = L2) := by
    have h := hL
    unfold levelZ at h
    injection h with h1 h2
    exact ⟨h1, h2⟩
  rw [hL]
  clear hL
  have hfd := field_any
  go_enter Try.func43, Try.ntmps43
  go_upto_region 1 with (fail)
  obtain ⟨V0, hV⟩ : ∃ V, ((w.alloc (.cells #[.int .i64 mean, .slice A ps.length c] 35)).alloc (.cells #[.int .i64 lo, .int .i64 hi] 23)).alloc (.cells #[.int .i64 0, .int .i64 0] 23) = V := ⟨_, rfl⟩
  have K2 : Hid (Blk V0 w.heap.size 35 #[.int .i64 mean, .slice A ps.length c]) := by rw [← hV]; exact ((Blk.new' _ _ _ rfl).alloc _).alloc _
  have K3 : Hid (Blk V0 (w.heap.size + 1) 23 #[.int .i64 lo, .int .i64 hi]) := by rw [← hV]; exact (Blk.new' _ _ _ (by simp)).alloc _
  have K4 : Hid (Blk V0 (w.heap.size + 1 + 1) 23 #[.int .i64 0, .int .i64 0]) := by rw [← hV]; exact Blk.new' _ _ _ (by simp)
  have KB : Hid (Below w.heap.size w V0) := by rw [← hV]; exact (by repeat (first | exact Below.refl _ _ | assumption | refine Below.drew ?_ | refine Below.drewN' ?_ _ | (refine Below.alloc ?_ (by simp <;> omega) _) | (refine Below.setCell ?_ (by simp <;> omega) _)))
  rw [hV]
  clear hV
  obtain ⟨b4, h4⟩ : ∃ b, w.heap.size + 1 + 1 = b := ⟨_, rfl⟩
  have g4 : w.heap.size ≤ b4 := by omega
  obtain ⟨b3, h3⟩ : ∃ b, w.heap.size + 1 = b := ⟨_, rfl⟩
  rw [h4] at K4 ⊢
  rw [h3] at K3 ⊢
  have x24 : w.heap.size < b4 := by omega
  have x34 : b3 < b4 := by omega
  have x23 : w.heap.size < b3 := by omega
  obtain ⟨b2, h2⟩ : ∃ b, w.heap.size = b := ⟨_, rfl⟩
  have h2' := Lib.hid h2
  rw [h2] at K2 ⊢
  clear h3 h4
  go_wp2_with fail
  refine (exactly_any _ _).mono ?_
  rintro e w1 ⟨rfl, hb⟩
  have I2 := Lib.hid (K2.out.below hb K2.out.lt)
  have I3 := Lib.hid (K3.out.below hb K3.out.lt)
  have I4 := Lib.hid (K4.out.below hb K4.out.lt)
  have IB := Lib.hid (KB.out.trans (hb.mono KB.out.size))
  clear hb K2 K3 K4 KB
  have l2 := I2.out.lt
  have l3 := I3.out.lt
  have l4 := I4.out.lt
  go_upto_region 2 with (fail)
  obtain ⟨V5, hV⟩ : ∃ V, w1.alloc (.cells #[.int .i64 0, .int .i64 0] 76) = V := ⟨_, rfl⟩
  have hz : Below w1.heap.size w1 V5 := by rw [← hV]; exact (Below.refl _ _).alloc (Nat.le_refl _) _
  have K5' : Blk V5 w1.heap.size 76 #[.int .i64 0, .int .i64 0] := by rw [← hV]; exact Blk.new' _ _ _ rfl
  rw [hV]
  have g5' : w.heap.size ≤ w1.heap.size := IB.out.size
  obtain ⟨b5, hb5⟩ : ∃ b, w1.heap.size = b := ⟨_, rfl⟩
  rw [hb5] at K5' g5' l2 l3 l4 ⊢
  have g5 := g5'
  have n25 : ¬ b2 = b5 := by omega
  have n35 : ¬ b3 = b5 := by omega
  have n45 : ¬ b4 = b5 := by omega
  have K2 := Lib.hid (I2.out.below hz I2.out.lt)
  have K3 := Lib.hid (I3.out.below hz I3.out.lt)
  have K4 := Lib.hid (I4.out.below hz I4.out.lt)
  have K5 := Lib.hid K5'
  have KB := Lib.hid (IB.out.trans (hz.mono IB.out.size))
  clear hV hz K5' g5' hb5 I2 I3 I4 IB l2 l3 l4
  have y0 := K2.out.cell 0
  have y1 := K2.out.cell 1
  simp only [List.getElem?_toArray, List.getElem?_cons_zero, List.getElem?_cons_succ] at y0 y1
  go_wp2_with fail
  go_loopw [12] (fun j wr => ∃ (k : Nat) (S1 S2 : Int), k ≤ ps.length ∧ j = .int .i64 k ∧ Hid (S1 = sumF (loP (lo, hi)) (ps.take k) ∧ S2 = sumF (hiP (lo, hi)) (ps.take k)) ∧ (-65536000 * (k : Int) ≤ S1 ∧ S1 ≤ 65536000 * k ∧ -65536000 * (k : Int) ≤ S2 ∧ S2 ≤ 65536000 * k) ∧ Hid (Blk wr b5 76 #[.int .i64 S1, .int .i64 S2]) ∧ Hid (Blk wr b2 35 #[.int .i64 mean, .slice A ps.length c]) ∧ Hid (Blk wr b3 23 #[.int .i64 lo, .int .i64 hi]) ∧ Hid (Blk wr b4 23 #[.int .i64 0, .int .i64 0]) ∧ Hid (Below w.heap.size w wr)) (fun j wr => ps.length - (intOf j).toNat)
  case atStart => exact ⟨0, 0, 0, by omega, rfl, ⟨rfl, rfl⟩, ⟨by omega, by omega, by omega, by omega⟩, K5.out, K2.out, K3.out, K4.out, KB.out⟩
  case round =>
    clear y0 y1 K2 K3 K4 K5 KB
    obtain ⟨k, S1, S2, hk, rfl, HS, ⟨s1, s2, s3, s4⟩, H5, H2, H3, H4, HB⟩ := hrel
    by_cases hlt : k < ps.length
    · have hk0 : (0 : Int) ≤ (k : Int) := by omega
      have hk1 : (k : Int) < (ps.length : Int) := by omega
      obtain ⟨b, o, rfl, hb, f0, f1, f2⟩ := (HP.out.below HB.out).at_ hlt
      have hpp := List.all_eq_true.1 HOK.out ps[k] (List.getElem_mem hlt)
      have hp := part_of hpp
      have hr := part_rng (t := (lo, hi)) hpp t2
      have hao := ang_ord (t := (lo, hi)) hpp t2
      have hr2 : -65536 * (ps[k]).1 ≤ hiP (lo, hi) ps[k] := Int.le_trans hr.1 hr.2.1
      have hr3 : loP (lo, hi) ps[k] ≤ 65536 * (ps[k]).1 := Int.le_trans hr.2.1 hr.2.2
      have HN1 := Lib.hid (sumF_take (loP (lo, hi)) ps k hlt)
      have HN2 := Lib.hid (sumF_take (hiP (lo, hi)) ps k hlt)
      generalize ps[k] = p at *
      obtain ⟨am, pe, ph⟩ := p
      simp only at f0 f1 f2 hp hr hr2 hr3
      obtain ⟨p0, p1, p2, p3, p4, p5⟩ := hp
      have hdn := down_rng (a := 3600 * lo) (b := pe) (M := 3600000000000) (by omega) ⟨by omega, by omega⟩
      have hup := down_rng (a := -(3600 * hi)) (b := pe) (M := 3600000000000) (by omega) ⟨by omega, by omega⟩
      have hup2 : -3600000000000 ≤ upZ (3600 * hi) pe ∧ upZ (3600 * hi) pe ≤ 3600000000000 := by unfold downZ at hup; unfold upZ; omega
      have HCB0 : angS (lo, hi) (am, pe, ph) = (downZ (3600 * lo) pe - ph, upZ (3600 * hi) pe - ph) := rfl
      obtain ⟨⟨c1, c2⟩, hcb⟩ : ∃ r, boundsZ (angS (lo, hi) (am, pe, ph)) = r := ⟨_, rfl⟩
      obtain ⟨m1, hm1'⟩ : ∃ x, am * c1 = x := ⟨_, rfl⟩
      obtain ⟨m2, hm2'⟩ : ∃ x, am * c2 = x := ⟨_, rfl⟩
      have e1 : loP (lo, hi) (am, pe, ph) = m1 := by rw [← hm1']; unfold loP; rw [hcb]
      have e2 : hiP (lo, hi) (am, pe, ph) = m2 := by rw [← hm2']; unfold hiP; rw [hcb]
      obtain ⟨⟨A1, A2⟩, hang⟩ : ∃ r, angS (lo, hi) (am, pe, ph) = r := ⟨_, rfl⟩
      have HCB : Hid ((boundsZ (A1, A2)).1 = c1 ∧ (boundsZ (A1, A2)).2 = c2) := by rw [← hang, hcb]; exact ⟨rfl, rfl⟩
      have hA1 : (angS (lo, hi) (am, pe, ph)).1 = A1 := by rw [hang]
      have hA2 : (angS (lo, hi) (am, pe, ph)).2 = A2 := by rw [hang]
      rw [hang] at HCB0
      injection HCB0 with hB1 hB2
      have hA1r : -9000000000000000 ≤ A1 ∧ A1 ≤ 9000000000000000 := by omega
      have hA2r : -9000000000000000 ≤ A2 ∧ A2 ≤ 9000000000000000 := by omega
      rw [e1] at hr hr3 HN1
      rw [e2] at hr hr2 HN2
      have hm1 : c1 * am = m1 := by rw [Int.mul_comm]; exact hm1'
      have hm2 : c2 * am = m2 := by rw [Int.mul_comm]; exact hm2'
      have hbl : b < wr.heap.size := by have := HB.out.size; omega
      clear hcb e1 e2 hup hup2 hdn hpp hang hB1 hB2 hao hm1' hm2'
      go_upto_region 5 with (fail)
      obtain ⟨V7, hV⟩ : ∃ V, wr.alloc (.cells #[.int .i64 am, .int .i64 pe, .int .i64 ph] 70) = V := ⟨_, rfl⟩
      have hz : Below wr.heap.size wr V7 := by rw [← hV]; exact (Below.refl _ _).alloc (Nat.le_refl _) _
      have hk7 : Blk V7 wr.heap.size 70 #[.int .i64 am, .int .i64 pe, .int .i64 ph] := by rw [← hV]; exact Blk.new' _ _ _ rfl
      rw [hV]
      obtain ⟨b7, h7⟩ : ∃ b, wr.heap.size = b := ⟨_, rfl⟩
      rw [h7] at hk7 ⊢
      have J7 := Lib.hid hk7
      have J5 := Lib.hid (H5.out.below hz H5.out.lt)
      have J2 := Lib.hid (H2.out.below hz H2.out.lt)
      have J3 := Lib.hid (H3.out.below hz H3.out.lt)
      have J4 := Lib.hid (H4.out.below hz H4.out.lt)
      have JB := Lib.hid (HB.out.trans (hz.mono HB.out.size))
      clear hV hz hk7 h7 H5 H2 H3 H4 HB f0 f1 f2
      have HSV : Hid (∀ W, Below V7.heap.size V7 W → W.cell? ⟨b5, 0, none⟩ = some (.int .i64 S1) ∧ W.cell? ⟨b5, 1, none⟩ = some (.int .i64 S2) ∧ W.cell? ⟨b7, 0, none⟩ = some (.int .i64 am) ∧ W.cell? ⟨b7, 1, none⟩ = some (.int .i64 pe) ∧ W.cell? ⟨b7, 2, none⟩ = some (.int .i64 ph) ∧ W.cell? ⟨b3, 0, none⟩ = some (.int .i64 lo) ∧ W.cell? ⟨b3, 1, none⟩ = some (.int .i64 hi)) := fun W hW => by
        have k5 := J5.out.below hW J5.out.lt
        have k3 := J3.out.below hW J3.out.lt
        have k7 := J7.out.below hW J7.out.lt
        exact ⟨k5.cell 0, k5.cell 1, k7.cell 0, k7.cell 1, k7.cell 2, k3.cell 0, k3.cell 1⟩
      have k0 := HSV.out _ (Below.drew (Below.refl V7.heap.size V7))
      refine wp_region_noPanic ?_
      refine wp_region_L (S := (fun w' => w'.cell? ⟨b5, 0, none⟩ = some (.int .i64 S1) ∧ w'.cell? ⟨b5, 1, none⟩ = some (.int .i64 S2) ∧ w'.cell? ⟨b7, 0, none⟩ = some (.int .i64 am) ∧ w'.cell? ⟨b7, 1, none⟩ = some (.int .i64 pe) ∧ w'.cell? ⟨b7, 2, none⟩ = some (.int .i64 ph) ∧ w'.cell? ⟨b3, 0, none⟩ = some (.int .i64 lo) ∧ w'.cell? ⟨b3, 1, none⟩ = some (.int .i64 hi))) (ks := [9]) (by kernel_rfl) ?_ (fun hHeld => ?_)
      · (try dsimp only); (exact k0)
      refine wpAnyL_take (i := 0) (oi := oli5_0) (v := ?_) rfl (by kernel_rfl) (fun _ _ _ h => h) (Or.inl ⟨by rfl, ?_⟩) (by assumption) ?_
      rotate_left
      · ((intro w hSw; delta oli5_0; (try dsimp only at hSw); go_simp) <;> with_reducible rfl)
      try simp only [oli5_0, Act.put, List.setIfInBounds_toArray, List.set_cons_zero, List.set_cons_succ]
      refine wpAnyL_take (i := 1) (oi := oli5_1) (v := ?_) rfl (by kernel_rfl) (fun _ _ _ h => h) (Or.inl ⟨by rfl, ?_⟩) (by assumption) ?_
      rotate_left
      · ((intro w hSw; delta oli5_1; (try dsimp only at hSw); go_simp) <;> with_reducible rfl)
      try simp only [oli5_1, Act.put, List.setIfInBounds_toArray, List.set_cons_zero, List.set_cons_succ]
      refine wpAnyL_take (i := 2) (oi := oli5_2) (v := ?_) rfl (by kernel_rfl) (fun _ _ _ h => h) (Or.inl ⟨by rfl, ?_⟩) (by assumption) ?_
      rotate_left
      · ((intro w hSw; delta oli5_2; (try dsimp only at hSw); go_simp) <;> with_reducible rfl)
      try simp only [oli5_2, Act.put, List.setIfInBounds_toArray, List.set_cons_zero, List.set_cons_succ]
      refine wpAnyL_take (i := 5) (oi := oli5_5) (v := ?_) rfl (by kernel_rfl) (fun _ _ _ h => h) (Or.inl ⟨by rfl, ?_⟩) (by assumption) ?_
      rotate_left
      · ((intro w hSw; delta oli5_5; (try dsimp only at hSw); go_simp) <;> with_reducible rfl)
      try simp only [oli5_5, Act.put, List.setIfInBounds_toArray, List.set_cons_zero, List.set_cons_succ]
      refine wpAnyL_take (i := 6) (oi := oli5_6) (v := ?_) rfl (by kernel_rfl) (fun _ _ _ h => h) (Or.inl ⟨by rfl, ?_⟩) (by assumption) ?_
      rotate_left
      · ((intro w hSw; delta oli5_6; (try dsimp only at hSw); go_simp) <;> with_reducible rfl)
      try simp only [oli5_6, Act.put, List.setIfInBounds_toArray, List.set_cons_zero, List.set_cons_succ]
      obtain ⟨W0, hW0⟩ : ∃ V, V7.drew = V := ⟨_, rfl⟩; rw [hW0] at hHeld ⊢; have HB0 : Hid (Below V7.heap.size V7 W0) := (by rw [← hW0]; exact Below.drew (Below.refl _ _)); clear hW0
      refine wpAnyL_ready (rs := [3]) (by kernel_rfl) (by simp) ?_
      refine AllReadyL.cons (o := oli5_3) rfl (fun K hK => ?_) AllReadyL.nil
      delta oli5_3
      go_simp
      (refine (angles_any am pe ph lo hi _ ⟨t1, t2, t3⟩ ⟨p2, p3⟩ ⟨p4, p5⟩).mono ?_; rintro e W1 ⟨rfl, hb⟩; rw [hA1, hA2]; have HB1 := Lib.hid (HB0.out.trans (hb.mono HB0.out.size)); clear hb)
      refine hK.out _ _ ?_ (fun hHeld => ?_)
      · (try dsimp only); (exact HSV.out _ HB1.out)
      clear hK K
      try simp only [oli5_3, Act.put, List.setIfInBounds_toArray, List.set_cons_zero, List.set_cons_succ]
      refine wpAnyL_ready (rs := [4]) (by kernel_rfl) (by simp) ?_
      refine AllReadyL.cons (o := oli5_4) rfl (fun K hK => ?_) AllReadyL.nil
      delta oli5_4
      go_simp
      (refine (cosines_any _ _ _ (by omega) (by omega)).mono ?_; rintro e W2 ⟨rfl, hb⟩; rw [HCB.out.1, HCB.out.2]; have HB2 := Lib.hid (HB1.out.trans (hb.mono HB1.out.size)); clear hb)
      refine hK.out _ _ ?_ (fun hHeld => ?_)
      · (try dsimp only); (exact HSV.out _ HB2.out)
      clear hK K
      try simp only [oli5_4, Act.put, List.setIfInBounds_toArray, List.set_cons_zero, List.set_cons_succ]
      refine wpAnyL_ready (rs := [7]) (by kernel_rfl) (by simp) ?_
      refine AllReadyL.cons (o := oli5_7) rfl (fun K hK => ?_) AllReadyL.nil
      delta oli5_7
      go_simp
      (refine (times_any _ _ _ _ (by omega) (by omega)).mono ?_; rintro e W3 ⟨rfl, hb⟩; rw [hm1, hm2]; have HB3 := Lib.hid (HB2.out.trans (hb.mono HB2.out.size)); clear hb)
      refine hK.out _ _ ?_ (fun hHeld => ?_)
      · (try dsimp only); (exact HSV.out _ HB3.out)
      clear hK K
      try simp only [oli5_7, Act.put, List.setIfInBounds_toArray, List.set_cons_zero, List.set_cons_succ]
      refine wpAnyL_ready (rs := [8]) (by kernel_rfl) (by simp) ?_
      refine AllReadyL.cons (o := oli5_8) rfl (fun K hK => ?_) AllReadyL.nil
      delta oli5_8
      go_simp
      (refine (plus_any _ _ _ _ _ (by omega) (by omega)).mono ?_; rintro e W4 ⟨rfl, hb⟩; have HB4 := Lib.hid (HB3.out.trans (hb.mono HB3.out.size)); clear hb)
      refine hK.out _ _ ?_ (fun hHeld => ?_)
      · (try dsimp only); (exact HSV.out _ HB4.out)
      clear hK K
      try simp only [oli5_8, Act.put, List.setIfInBounds_toArray, List.set_cons_zero, List.set_cons_succ]
      have M5 := Lib.hid (J5.out.below HB4.out J5.out.lt); have M2 := Lib.hid (J2.out.below HB4.out J2.out.lt); have M3 := Lib.hid (J3.out.below HB4.out J3.out.lt); have M4 := Lib.hid (J4.out.below HB4.out J4.out.lt); have MB := Lib.hid (JB.out.trans (HB4.out.mono JB.out.size)); obtain ⟨u0, u1, v0, v1⟩ := span_parts M5.out; clear J2 J3 J4 J5 J7 JB HSV HB0 HB1 HB2 HB3 HB4
      refine wpAnyL_ready (rs := [9]) (by kernel_rfl) (by simp) ?_
      refine AllReadyL.gate (o := oli5_9) rfl (by kernel_rfl) (fun K hK => ?_) AllReadyL.nil
      delta oli5_9
      go_simp
      refine hK.out _ _ ?_
      clear hK K
      try simp only [oli5_9, Act.put, List.setIfInBounds_toArray, List.set_cons_zero, List.set_cons_succ]
      refine wpAnyL_done (by kernel_rfl) ?_ _
      refine NoPanic.normal ?_
      go_wp2
      go_roundw
      case rel => exact ⟨k + 1, S1 + m1, S2 + m2, by omega, by go_num, ⟨by rw [HN1.out, HS.out.1], by rw [HN2.out, HS.out.2]⟩, ⟨by omega, by omega, by omega, by omega⟩, (M5.out.set_ 0 _).set_ 1 _, (M2.out.far_ (p := ⟨b5, 0, none⟩) (by exact n25) _).far_ (p := ⟨b5, 1, none⟩) (by exact n25) _, (M3.out.far_ (p := ⟨b5, 0, none⟩) (by exact n35) _).far_ (p := ⟨b5, 1, none⟩) (by exact n35) _, (M4.out.far_ (p := ⟨b5, 0, none⟩) (by exact n45) _).far_ (p := ⟨b5, 1, none⟩) (by exact n45) _, (MB.out.setCell (by exact g5) _).setCell (by exact g5) _⟩
      case measure => simp [intOf]; omega
    · obtain rfl : k = ps.length := by omega
      have ht : ps.take ps.length = ps := List.take_length
      have HS2 : Hid (S1 = sumF (loP (lo, hi)) ps ∧ S2 = sumF (hiP (lo, hi)) ps) := by have h := HS.out; rw [ht] at h; exact h
      clear ht HS
      have hd1 : -1048576000 ≤ downZ S1 65536 ∧ downZ S1 65536 ≤ 1048576000 := by unfold downZ; omega
      have hd2 : -1048576000 ≤ upZ S2 65536 ∧ upZ S2 65536 ≤ 1048576000 := by unfold upZ; omega
      have hL1 : downZ S1 65536 + mean = L1 := by rw [HS2.out.1, Int.add_comm]; exact HL.out.1
      have hL2 : upZ S2 65536 + mean = L2 := by rw [HS2.out.2, Int.add_comm]; exact HL.out.2
      have HSV : Hid (∀ W, Below wr.heap.size wr W → W.cell? ⟨b5, 0, none⟩ = some (.int .i64 S1) ∧ W.cell? ⟨b5, 1, none⟩ = some (.int .i64 S2) ∧ W.cell? ⟨b2, 0, none⟩ = some (.int .i64 mean)) := fun W hW => by
        have k2 := H2.out.below hW H2.out.lt
        have k5 := H5.out.below hW H5.out.lt
        exact ⟨k5.cell 0, k5.cell 1, k2.cell 0⟩
      have k0 := HSV.out _ (Below.drew (Below.refl wr.heap.size wr))
      go_upto_region 7 with (fail)
      refine wp_region_noPanic ?_
      refine wp_region_L (S := (fun w' => w'.cell? ⟨b5, 0, none⟩ = some (.int .i64 S1) ∧ w'.cell? ⟨b5, 1, none⟩ = some (.int .i64 S2) ∧ w'.cell? ⟨b2, 0, none⟩ = some (.int .i64 mean))) (ks := [7]) (by kernel_rfl) ?_ (fun hHeld => ?_)
      · (try dsimp only); (exact k0)
      refine wpAnyL_take (i := 0) (oi := oli7_0) (v := ?_) rfl (by kernel_rfl) (fun _ _ _ h => h) (Or.inl ⟨by rfl, ?_⟩) (by assumption) ?_
      rotate_left
      · ((intro w hSw; delta oli7_0; (try dsimp only at hSw); go_simp) <;> with_reducible rfl)
      try simp only [oli7_0, Act.put, List.setIfInBounds_toArray, List.set_cons_zero, List.set_cons_succ]
      refine wpAnyL_take (i := 2) (oi := oli7_2) (v := ?_) rfl (by kernel_rfl) (fun _ _ _ h => h) (Or.inl ⟨by rfl, ?_⟩) (by assumption) ?_
      rotate_left
      · ((intro w hSw; delta oli7_2; (try dsimp only at hSw); go_simp) <;> with_reducible rfl)
      try simp only [oli7_2, Act.put, List.setIfInBounds_toArray, List.set_cons_zero, List.set_cons_succ]
      refine wpAnyL_take (i := 3) (oi := oli7_3) (v := ?_) rfl (by kernel_rfl) (fun _ _ _ h => h) (Or.inl ⟨by rfl, ?_⟩) (by assumption) ?_
      rotate_left
      · ((intro w hSw; delta oli7_3; (try dsimp only at hSw); go_simp) <;> with_reducible rfl)
      try simp only [oli7_3, Act.put, List.setIfInBounds_toArray, List.set_cons_zero, List.set_cons_succ]
      obtain ⟨W0, hW0⟩ : ∃ V, wr.drew = V := ⟨_, rfl⟩; rw [hW0] at hHeld ⊢; have HB0 : Hid (Below wr.heap.size wr W0) := (by rw [← hW0]; exact Below.drew (Below.refl _ _)); clear hW0
      refine wpAnyL_ready (rs := [1]) (by kernel_rfl) (by simp) ?_
      refine AllReadyL.cons (o := oli7_1) rfl (fun K hK => ?_) AllReadyL.nil
      delta oli7_1
      go_simp
      (refine (inUnits_any _ _ _ (by omega) (by omega)).mono ?_; rintro e W1 ⟨rfl, hb⟩; have HB1 := Lib.hid (HB0.out.trans (hb.mono HB0.out.size)); clear hb)
      refine hK.out _ _ ?_ (fun hHeld => ?_)
      · (try dsimp only); (exact HSV.out _ HB1.out)
      clear hK K
      try simp only [oli7_1, Act.put, List.setIfInBounds_toArray, List.set_cons_zero, List.set_cons_succ]
      refine wpAnyL_ready (rs := [4]) (by kernel_rfl) (by simp) ?_
      refine AllReadyL.cons (o := oli7_4) rfl (fun K hK => ?_) AllReadyL.nil
      delta oli7_4
      go_simp
      (refine (exactly_any _ _).mono ?_; rintro e W2 ⟨rfl, hb⟩; have HB2 := Lib.hid (HB1.out.trans (hb.mono HB1.out.size)); clear hb)
      refine hK.out _ _ ?_ (fun hHeld => ?_)
      · (try dsimp only); (exact HSV.out _ HB2.out)
      clear hK K
      try simp only [oli7_4, Act.put, List.setIfInBounds_toArray, List.set_cons_zero, List.set_cons_succ]
      refine wpAnyL_ready (rs := [5]) (by kernel_rfl) (by simp) ?_
      refine AllReadyL.cons (o := oli7_5) rfl (fun K hK => ?_) AllReadyL.nil
      delta oli7_5
      go_simp
      (refine (plus_any _ _ _ _ _ (by omega) (by omega)).mono ?_; rintro e W3 ⟨rfl, hb⟩; rw [hL1, hL2]; have HB3 := Lib.hid (HB2.out.trans (hb.mono HB2.out.size)); clear hb)
      refine hK.out _ _ ?_ (fun hHeld => ?_)
      · (try dsimp only); (exact HSV.out _ HB3.out)
      clear hK K
      try simp only [oli7_5, Act.put, List.setIfInBounds_toArray, List.set_cons_zero, List.set_cons_succ]
      refine wpAnyL_take (i := 6) (oi := oli7_6) (v := ?_) rfl (by kernel_rfl) (fun _ _ _ h => h) (Or.inl ⟨by rfl, ?_⟩) (by assumption) ?_
      rotate_left
      · ((intro w hSw; delta oli7_6; (try dsimp only at hSw); go_simp) <;> with_reducible rfl)
      try simp only [oli7_6, Act.put, List.setIfInBounds_toArray, List.set_cons_zero, List.set_cons_succ]
      have M4 := Lib.hid (H4.out.below HB3.out H4.out.lt); have MB := Lib.hid (HB.out.trans (HB3.out.mono HB.out.size)); obtain ⟨u0, u1, v0, v1⟩ := span_parts M4.out
      refine wpAnyL_ready (rs := [7]) (by kernel_rfl) (by simp) ?_
      refine AllReadyL.gate (o := oli7_7) rfl (by kernel_rfl) (fun K hK => ?_) AllReadyL.nil
      delta oli7_7
      go_simp
      refine hK.out _ _ ?_
      clear hK K
      try simp only [oli7_7, Act.put, List.setIfInBounds_toArray, List.set_cons_zero, List.set_cons_succ]
      refine wpAnyL_done (by kernel_rfl) ?_ _
      refine NoPanic.normal ?_
      go_wp2
      have hR := fun x y => span_res2 M4.out x y
      refine bodyPost_ret (v := .agg #[.int .i64 L1, .int .i64 L2]) (by simp [results, Try.results43, go_sem, hR]) rfl ⟨rfl, ?_⟩
      exact (MB.out.setCell (by exact g4) _).setCell (by exact g4) _
end Go.Proofs.Ytfblpokjbopagaa
/-
  Layer 2, the program: Level, and the level at a time.
-/
namespace Go.Proofs.Ytfblpokjbopagaa
open Go.RowKit

set_option maxRecDepth 100000 in
set_option maxHeartbeats 2000000 in
theorem tLevel_any (x : Value) (m : Md) (lo hi : Int) (w : World) (hm : MdAt w w.heap.size x m) :
    Calls Try.prog 17 #[x, .agg #[.int .i64 lo, .int .i64 hi]] w fun e w' => e = .returned (.tuple #[.agg #[.int .i64 (levV m (lo, hi)).1, .int .i64 (levV m (lo, hi)).2], .int .i64 (levE m (lo, hi))]) ∧ Below w.heap.size w w' := by
  obtain ⟨v, rfl, hp⟩ := hm
  have HP := Lib.hid hp
  obtain ⟨A, c, rfl, hc, hlen⟩ := hp.open_
  clear hp
  obtain ⟨mean, ps⟩ := m
  simp only at HP hc hlen ⊢
  obtain ⟨E, hE⟩ : ∃ E, levE ⟨mean, ps⟩ (lo, hi) = E := ⟨_, rfl⟩
  have HM := Lib.hid hE
  go_enter Try.func17, Try.ntmps17
  go_upto_region 1 with (fail)
  obtain ⟨V0, hV⟩ : ∃ V, ((w.alloc (.cells #[.int .i64 mean, .slice A ps.length c] 35)).alloc (.cells #[.int .i64 lo, .int .i64 hi] 23)).alloc (.cells #[.int .i64 0, .int .i64 0] 23) = V := ⟨_, rfl⟩
  have K1 : Hid (Blk V0 w.heap.size 35 #[.int .i64 mean, .slice A ps.length c]) := by rw [← hV]; exact ((Blk.new' _ _ _ rfl).alloc _).alloc _
  have K3 : Hid (Blk V0 (w.heap.size + 1) 23 #[.int .i64 lo, .int .i64 hi]) := by rw [← hV]; exact (Blk.new' _ _ _ (by simp)).alloc _
  have K2 : Hid (Blk V0 (w.heap.size + 1 + 1) 23 #[.int .i64 0, .int .i64 0]) := by rw [← hV]; exact Blk.new' _ _ _ (by simp)
  have KB : Hid (Below w.heap.size w V0) := by rw [← hV]; exact (by repeat (first | exact Below.refl _ _ | assumption | refine Below.drew ?_ | refine Below.drewN' ?_ _ | (refine Below.alloc ?_ (by simp <;> omega) _) | (refine Below.setCell ?_ (by simp <;> omega) _)))
  rw [hV]
  clear hV
  have y0 := K1.out.cell 0
  have y1 := K1.out.cell 1
  simp only [List.getElem?_toArray, List.getElem?_cons_zero, List.getElem?_cons_succ] at y0 y1
  obtain ⟨f0, f1, -, -⟩ := span_parts K3.out
  clear hE
  go_wp2_with fail
  refine (checkTimes_any _ ⟨mean, ps⟩ _ _ _ ⟨_, rfl, HP.out.later KB.out (Nat.le_refl _)⟩).mono ?_
  rintro e w1 ⟨rfl, hb⟩
  rw [HM.out]
  have J1 := Lib.hid (K1.out.below hb K1.out.lt)
  have J2 := Lib.hid (K2.out.below hb K2.out.lt)
  have J3 := Lib.hid (K3.out.below hb K3.out.lt)
  have JB := Lib.hid (KB.out.trans (hb.mono KB.out.size))
  clear hb K1 K2 K3 KB y0 y1 f0 f1
  by_cases h0 : E = 0
  · subst h0
    have HV : Hid (levV ⟨mean, ps⟩ (lo, hi) = levelZ ⟨mean, ps⟩ (lo, hi)) := by unfold levV; exact if_pos HM.out
    have HE0 : Hid (mdE ⟨mean, ps⟩ = 0 ∧ 0 ≤ lo ∧ lo ≤ hi ∧ hi ≤ 1000000000) := by
      have h := HM.out
      unfold levE at h
      split at h
      · rename_i g0
        split at h
        · rename_i g1
          exact ⟨g0, g1.2.1, g1.1, g1.2.2⟩
        · cases h
      · contradiction
    have y0 := J1.out.cell 0
    have y1 := J1.out.cell 1
    simp only [List.getElem?_toArray, List.getElem?_cons_zero, List.getElem?_cons_succ] at y0 y1
    obtain ⟨f0, f1, -, -⟩ := span_parts J3.out
    go_wp2_with fail
    refine (levelIn_any _ ⟨mean, ps⟩ lo hi _ ⟨_, rfl, HP.out.later JB.out (Nat.le_refl _)⟩ HE0.out.1 HE0.out.2).mono ?_
    rintro e w3 ⟨rfl, hb⟩
    have M2 := Lib.hid (J2.out.below hb J2.out.lt)
    have MB := Lib.hid (JB.out.trans (hb.mono JB.out.size))
    clear hb J1 J2 J3 JB y0 y1 f0 f1
    obtain ⟨t0, t1, v0, v1⟩ := span_parts M2.out
    go_wp2
    have hR := fun x y => span_res2 M2.out x y
    refine bodyPost_ret (v := .tuple #[.agg #[.int .i64 (levelZ ⟨mean, ps⟩ (lo, hi)).1, .int .i64 (levelZ ⟨mean, ps⟩ (lo, hi)).2], .int .i64 0]) (by simp [results, Try.results17, go_sem, hR]) rfl ⟨by rw [HV.out, HM.out], ?_⟩
    have MBo := MB.out
    exact (by repeat (first | exact Below.refl _ _ | assumption | refine Below.drew ?_ | refine Below.drewN' ?_ _ | (refine Below.alloc ?_ (by simp <;> omega) _) | (refine Below.setCell ?_ (by simp <;> omega) _)))
  · have HV : Hid (levV ⟨mean, ps⟩ (lo, hi) = (0, 0)) := by unfold levV; rw [HM.out]; exact if_neg h0
    have h0' : (E == 0) = false := beq_eq_false_iff_ne.2 h0
    obtain ⟨t0, t1, v0, v1⟩ := span_parts J2.out
    go_wp2
    have hR := fun x y => span_res2 J2.out x y
    refine bodyPost_ret (v := .tuple #[.agg #[.int .i64 0, .int .i64 0], .int .i64 E]) (by simp [results, Try.results17, go_sem, hR]) rfl ⟨by rw [HV.out, HM.out], ?_⟩
    have JBo := JB.out
    exact (by repeat (first | exact Below.refl _ _ | assumption | refine Below.drew ?_ | refine Below.drewN' ?_ _ | (refine Below.alloc ?_ (by simp <;> omega) _) | (refine Below.setCell ?_ (by simp <;> omega) _)))
set_option maxRecDepth 100000 in
set_option maxHeartbeats 2000000 in
theorem levelAt_any (x : Value) (m : Md) (at_ : Int) (w : World) (hm : MdAt w w.heap.size x m) (h0 : mdE m = 0) (ht : 0 ≤ at_ ∧ at_ ≤ 1000000000) :
    Calls Try.prog 47 #[x, .int .i64 at_] w fun e w' => e = .returned (.agg #[.int .i64 (levelZ m (at_, at_)).1, .int .i64 (levelZ m (at_, at_)).2]) ∧ Below w.heap.size w w' := by
  obtain ⟨v, rfl, hp⟩ := hm
  have HP := Lib.hid hp
  obtain ⟨A, c, rfl, hc, hlen⟩ := hp.open_
  clear hp
  obtain ⟨mean, ps⟩ := m
  simp only at HP hc hlen ⊢
  have HE0 := Lib.hid h0
  clear h0
  go_enter Try.func47, Try.ntmps47
  go_upto_region 1 with (fail)
  obtain ⟨V0, hV⟩ : ∃ V, (w.alloc (.cells #[.int .i64 mean, .slice A ps.length c] 35)).alloc (.cells #[.int .i64 0, .int .i64 0] 23) = V := ⟨_, rfl⟩
  have K1 : Hid (Blk V0 w.heap.size 35 #[.int .i64 mean, .slice A ps.length c]) := by rw [← hV]; exact (Blk.new' _ _ _ rfl).alloc _
  have K2 : Hid (Blk V0 (w.heap.size + 1) 23 #[.int .i64 0, .int .i64 0]) := by rw [← hV]; exact Blk.new' _ _ _ (by simp)
  have KB : Hid (Below w.heap.size w V0) := by rw [← hV]; exact (by repeat (first | exact Below.refl _ _ | assumption | refine Below.drew ?_ | refine Below.drewN' ?_ _ | (refine Below.alloc ?_ (by simp <;> omega) _) | (refine Below.setCell ?_ (by simp <;> omega) _)))
  rw [hV]
  clear hV
  have y0 := K1.out.cell 0
  have y1 := K1.out.cell 1
  simp only [List.getElem?_toArray, List.getElem?_cons_zero, List.getElem?_cons_succ] at y0 y1
  go_wp2_with fail
  refine (levelIn_any _ ⟨mean, ps⟩ at_ at_ _ ⟨_, rfl, HP.out.later KB.out (Nat.le_refl _)⟩ HE0.out ⟨ht.1, Int.le_refl _, ht.2⟩).mono ?_
  rintro e w3 ⟨rfl, hb⟩
  have M2 := Lib.hid (K2.out.below hb K2.out.lt)
  have MB := Lib.hid (KB.out.trans (hb.mono KB.out.size))
  clear hb K1 K2 KB y0 y1
  obtain ⟨t0, t1, v0, v1⟩ := span_parts M2.out
  go_wp2
  have hR := fun x y => span_res2 M2.out x y
  refine bodyPost_ret (v := .agg #[.int .i64 (levelZ ⟨mean, ps⟩ (at_, at_)).1, .int .i64 (levelZ ⟨mean, ps⟩ (at_, at_)).2]) (by simp [results, Try.results47, go_sem, hR]) rfl ⟨rfl, ?_⟩
  have MBo := MB.out
  exact (by repeat (first | exact Below.refl _ _ | assumption | refine Below.drew ?_ | refine Below.drewN' ?_ _ | (refine Below.alloc ?_ (by simp <;> omega) _) | (refine Below.setCell ?_ (by simp <;> omega) _)))
end Go.Proofs.Ytfblpokjbopagaa
