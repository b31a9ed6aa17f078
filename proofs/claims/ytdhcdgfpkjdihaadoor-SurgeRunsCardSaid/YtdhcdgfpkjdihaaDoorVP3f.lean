/-
  Layer 3, the program: the directions of vectors.
-/
import Derived.Test.YtdhcdgfpkjdihaaDoorVP3e
set_option linter.unusedSimpArgs false
set_option linter.unusedVariables false
namespace Go.Proofs.YtdhcdgfpkjdihaaDoor.Sg
open Go.RowKit
def Z6a : Oper := ⟨some 31, .load 108 (.tmp 3), 108, "storm.go:80", #[], none⟩
def Z6b : Oper := ⟨some 32, .load 108 (.tmp 2), 108, "storm.go:80", #[], none⟩
def Z6c : Oper := ⟨some 33, .call { callee := Callee.value (.func 96), args := #[.tmp 32], argTypes := #[108] }, 108, "storm.go:80", #[⟨1, .data⟩], none⟩
def Z6d : Oper := ⟨none, .store 108 (.tmp 2) (.tmp 31), 0, "storm.go:80", #[⟨0, .data⟩, ⟨2, .chain⟩, ⟨0, .phase⟩, ⟨1, .phase⟩, ⟨2, .textOnly .lateStoresUnsure⟩], none⟩
def Z6e : Oper := ⟨none, .store 108 (.tmp 3) (.tmp 33), 0, "storm.go:80", #[⟨2, .data⟩, ⟨3, .chain⟩, ⟨0, .phase⟩, ⟨1, .phase⟩, ⟨2, .phase⟩, ⟨3, .phase⟩], none⟩
/-! bits -/
theorem bits_and_i64 (a b : Nat) (ha : a < 9223372036854775808) (hb : b < 9223372036854775808) : bits .and .i64 (a : Int) (b : Int) = ((a &&& b : Nat) : Int) := by
 have hx : a &&& b < 2 ^ 63 := Nat.and_lt_two_pow _ (by omega)
 have h1 : (BitVec.ofInt 64 (a : Int)).toNat = a := by
  rw [BitVec.ofInt_natCast, BitVec.toNat_ofNat]; exact Nat.mod_eq_of_lt (by omega)
 have h2 : (BitVec.ofInt 64 (b : Int)).toNat = b := by
  rw [BitVec.ofInt_natCast, BitVec.toNat_ofNat]; exact Nat.mod_eq_of_lt (by omega)
 show IntKind.i64.wrap ((BitVec.ofInt 64 (a : Int) &&& BitVec.ofInt 64 (b : Int)).toNat : Int) = _
 rw [BitVec.toNat_and, h1, h2]
 exact IntWalk.i64_in _ (by omega)
theorem bits_or_i64 (a b : Nat) (ha : a < 9223372036854775808) (hb : b < 9223372036854775808) : bits .or .i64 (a : Int) (b : Int) = ((a ||| b : Nat) : Int) := by
 have hx : a ||| b < 2 ^ 63 := Nat.or_lt_two_pow (by omega) (by omega)
 have h1 : (BitVec.ofInt 64 (a : Int)).toNat = a := by
  rw [BitVec.ofInt_natCast, BitVec.toNat_ofNat]; exact Nat.mod_eq_of_lt (by omega)
 have h2 : (BitVec.ofInt 64 (b : Int)).toNat = b := by
  rw [BitVec.ofInt_natCast, BitVec.toNat_ofNat]; exact Nat.mod_eq_of_lt (by omega)
 show IntKind.i64.wrap ((BitVec.ofInt 64 (a : Int) ||| BitVec.ofInt 64 (b : Int)).toNat : Int) = _
 rw [BitVec.toNat_or, h1, h2]
 exact IntWalk.i64_in _ (by omega)
theorem or_pow {a i : Nat} (h : a < 2 ^ i) (hi : 2 ^ i < 1000) : bits .or .i64 (a : Int) ((2 ^ i : Nat) : Int) = (a : Int) + ((2 ^ i : Nat) : Int) := by
 rw [bits_or_i64 _ _ (by omega) (by omega)]
 have := Nat.shiftLeft_add_eq_or_of_lt h 1
 rw [Nat.shiftLeft_eq, Nat.one_mul] at this
 rw [Nat.or_comm, ← this]
 omega
/-! turned vectors -/
def rotZ (p q : Int × Int) : Nat → (Int × Int) × (Int × Int)
 | 0 => (p, q)
 | k + 1 => ((rotZ p q k).2, negZ (rotZ p q k).1)
def setK (p q : Int × Int) : Nat → Nat
 | 0 => 0
 | k + 1 => setK p q k + bv (strB (rotZ p q k).1 (rotZ p q k).2) (4 ^ k) + bv (slaB (rotZ p q k).1 (rotZ p q k).2) (2 * 4 ^ k)
theorem bv_le (b : Bool) (n : Nat) : bv b n ≤ n := by unfold bv; split <;> omega
theorem setK_lt (p q : Int × Int) (k : Nat) : setK p q k < 4 ^ k := by
 induction k with
 | zero => simp [setK]
 | succ k ih =>
  unfold setK
  have h1 := bv_le (strB (rotZ p q k).1 (rotZ p q k).2) (4 ^ k)
  have h2 := bv_le (slaB (rotZ p q k).1 (rotZ p q k).2) (2 * 4 ^ k)
  have e : 4 ^ (k + 1) = 4 * 4 ^ k := by rw [Nat.pow_succ]; omega
  omega
theorem setK_four (p q : Int × Int) : setK p q 4 = setN (dirB p q) := by
 simp only [setK, rotZ, setN, dirB, neg_neg, str_neg, Nat.reducePow, Nat.reduceMul]
 rw [sla_comm q (negZ p), sla_comm (negZ q) p]
 simp
def rotB (x : (Int × Int) × (Int × Int)) : Prop := ((-1000000000 ≤ x.1.1 ∧ x.1.1 ≤ 1000000000) ∧ (-1000000000 ≤ x.1.2 ∧ x.1.2 ≤ 1000000000)) ∧ ((-1000000000 ≤ x.2.1 ∧ x.2.1 ≤ 1000000000) ∧ (-1000000000 ≤ x.2.2 ∧ x.2.2 ≤ 1000000000))
theorem rot_bd {p q : Int × Int} (h : rotB (p, q)) (k : Nat) : rotB (rotZ p q k) := by
 induction k with
 | zero => exact h
 | succ k ih =>
  have e : rotZ p q (k + 1) = ((rotZ p q k).2, negZ (rotZ p q k).1) := rfl
  rw [e]
  unfold rotB negZ at *
  simp only at *
  omega
theorem straight_of {p1 p2 q1 q2 : Int} {v : Bool} (h : strB (p1, p2) (q1, q2) = v) (hb : rotB ((p1, p2), (q1, q2))) (w : World) :
 Calls Tryd.prog 127 #[.agg #[.int .i64 p1, .int .i64 p2], .agg #[.int .i64 q1, .int .i64 q2]] w fun e w' => e = .returned (.bool v) ∧ Below w.heap.size w w' := by
 subst h
 unfold rotB at hb
 exact straight_any p1 p2 q1 q2 w (by simp only at hb; omega) hb.2
theorem aslant_of {p1 p2 q1 q2 : Int} {v : Bool} (h : slaB (p1, p2) (q1, q2) = v) (hb : rotB ((p1, p2), (q1, q2))) (w : World) :
 Calls Tryd.prog 128 #[.agg #[.int .i64 p1, .int .i64 p2], .agg #[.int .i64 q1, .int .i64 q2]] w fun e w' => e = .returned (.bool v) ∧ Below w.heap.size w w' := by
 subst h
 exact aslant_any p1 p2 q1 q2 w hb.1 hb.2
theorem has_of {a b n : Int} {v : Bool} (h : decide (a ≤ n ∧ n ≤ b) = v) (w : World) :
 Calls Tryd.prog 126 #[.agg #[.int .i64 a, .int .i64 b], .int .i64 n] w fun e w' => e = .returned (.bool v) ∧ Below w.heap.size w w' := by
 subst h
 exact has_any a b n w
set_option maxRecDepth 100000 in
set_option maxHeartbeats 4000000 in
theorem dirs_any (p1 p2 q1 q2 : Int) (w : World) (hb : rotB ((p1, p2), (q1, q2))) :
 Calls Tryd.prog 95 #[.agg #[.int .i64 p1, .int .i64 p2], .agg #[.int .i64 q1, .int .i64 q2]] w fun e w' => e = .returned (.int .i64 ((dirN (p1, p2) (q1, q2) : Nat) : Int)) ∧ Below w.heap.size w w' := by
 have HB0 := Lib.hid hb
 clear hb
 refine dite (has0 (p1, p2) = true) (fun h1 => ?g1) (fun h1 => ?g2)
 case' g1 => refine dite (has0 (q1, q2) = true) (fun h2 => ?g3) (fun h2 => ?g4)
 case g3 =>
  have h1' : decide (p1 ≤ 0 ∧ 0 ≤ p2) = true := by unfold has0 at h1; simpa using h1
  have h2' : decide (q1 ≤ 0 ∧ 0 ≤ q2) = true := by unfold has0 at h2; simpa using h2
  have hv : dirN (p1, p2) (q1, q2) = 255 := by unfold dirN; rw [if_pos ⟨h1, h2⟩]
  rw [hv]
  have H1 := Lib.hid h1'
  have H2 := Lib.hid h2'
  clear h1 h1' h2 h2' hv
  go_enter Tryd.func95, Tryd.ntmps95
  go_upto_region 1 with (fail)
  obtain ⟨Va1, hV⟩ : ∃ V, (w.alloc (.cells #[.int .i64 (p1), .int .i64 (p2)] 108)).alloc (.cells #[.int .i64 (q1), .int .i64 (q2)] 108) = V := ⟨_, rfl⟩
  have Kb1 : Hid (Blk Va1 (w.heap.size) 108 #[.int .i64 (p1), .int .i64 (p2)]) := by rw [← hV]; exact (Blk.new' _ _ _ (by simp)).alloc _
  have Kb2 : Hid (Blk Va1 (w.heap.size + 1) 108 #[.int .i64 (q1), .int .i64 (q2)]) := by rw [← hV]; exact Blk.new' _ _ _ (by simp)
  have GHB : Hid (Below w.heap.size w Va1) := by rw [← hV]; exact (by repeat (first | exact Below.refl _ _ | assumption | refine Below.drew ?_ | refine Below.drewN' ?_ _ | (refine Below.alloc ?_ (by simp <;> omega) _) | (refine Below.setCell ?_ (by simp <;> omega) _)))
  have HZ : Hid (Below w.heap.size w Va1) := GHB
  rw [hV]
  clear hV HZ
  have HB := GHB
  clear GHB
  obtain ⟨b2, hqb2⟩ : ∃ b, w.heap.size + 1 = b := ⟨_, rfl⟩
  obtain ⟨b1, hqb1⟩ : ∃ b, w.heap.size = b := ⟨_, rfl⟩
  have gb1 : w.heap.size ≤ b1 := by omega
  have gb2 : w.heap.size ≤ b2 := by omega
  have nb2b1 : ¬ b2 = b1 := by omega
  have nb1b2 : ¬ b1 = b2 := by omega
  rw [hqb2] at Kb2 ⊢
  clear hqb2
  have HN : Hid (w.heap.size = b1) := hqb1
  rw [hqb1] at Kb1 ⊢
  clear hqb1
  have Hb1 := Kb1
  clear Kb1
  have Hb2 := Kb2
  clear Kb2
  have cb10 := kcl0 Hb1
  have cb11 := kcl1 Hb1
  go_wp2_with fail
  refine (has_of H1.out _).mono ?_
  rintro e Va2 ⟨rfl, hb⟩
  have HZ := Lib.hid hb
  clear hb
  clear cb10 cb11
  replace Hb1 := kbl Hb1 HZ
  replace Hb2 := kbl Hb2 HZ
  replace HB := ktr' HB HZ
  clear HZ
  have cb20 := kcl0 Hb2
  have cb21 := kcl1 Hb2
  go_wp2_with fail
  refine (has_of H2.out _).mono ?_
  rintro e Va3 ⟨rfl, hb⟩
  have HZ := Lib.hid hb
  clear hb
  clear cb20 cb21
  replace Hb1 := kbl Hb1 HZ
  replace Hb2 := kbl Hb2 HZ
  replace HB := ktr' HB HZ
  clear HZ
  go_wp2
  go_ret
  exact ⟨rfl, HB.out⟩
 case' g2 =>
  have h1' : decide (p1 ≤ 0 ∧ 0 ≤ p2) = false := by unfold has0 at h1; simpa using h1
  have hv : dirN (p1, p2) (q1, q2) = setK (p1, p2) (q1, q2) 4 := by rw [setK_four]; unfold dirN; rw [if_neg (fun h => h1 h.1)]
  rw [hv]
  have H1 := Lib.hid h1'
  clear h1 h1' hv
  go_enter Tryd.func95, Tryd.ntmps95
  go_upto_region 1 with (fail)
  obtain ⟨Va1, hV⟩ : ∃ V, (w.alloc (.cells #[.int .i64 (p1), .int .i64 (p2)] 108)).alloc (.cells #[.int .i64 (q1), .int .i64 (q2)] 108) = V := ⟨_, rfl⟩
  have Kb1 : Hid (Blk Va1 (w.heap.size) 108 #[.int .i64 (p1), .int .i64 (p2)]) := by rw [← hV]; exact (Blk.new' _ _ _ (by simp)).alloc _
  have Kb2 : Hid (Blk Va1 (w.heap.size + 1) 108 #[.int .i64 (q1), .int .i64 (q2)]) := by rw [← hV]; exact Blk.new' _ _ _ (by simp)
  have GHB : Hid (Below w.heap.size w Va1) := by rw [← hV]; exact (by repeat (first | exact Below.refl _ _ | assumption | refine Below.drew ?_ | refine Below.drewN' ?_ _ | (refine Below.alloc ?_ (by simp <;> omega) _) | (refine Below.setCell ?_ (by simp <;> omega) _)))
  have HZ : Hid (Below w.heap.size w Va1) := GHB
  rw [hV]
  clear hV HZ
  have HB := GHB
  clear GHB
  obtain ⟨b2, hqb2⟩ : ∃ b, w.heap.size + 1 = b := ⟨_, rfl⟩
  obtain ⟨b1, hqb1⟩ : ∃ b, w.heap.size = b := ⟨_, rfl⟩
  have gb1 : w.heap.size ≤ b1 := by omega
  have gb2 : w.heap.size ≤ b2 := by omega
  have nb2b1 : ¬ b2 = b1 := by omega
  have nb1b2 : ¬ b1 = b2 := by omega
  rw [hqb2] at Kb2 ⊢
  clear hqb2
  have HN : Hid (w.heap.size = b1) := hqb1
  rw [hqb1] at Kb1 ⊢
  clear hqb1
  have Hb1 := Kb1
  clear Kb1
  have Hb2 := Kb2
  clear Kb2
  have cb10 := kcl0 Hb1
  have cb11 := kcl1 Hb1
  go_wp2_with fail
  refine (has_of H1.out _).mono ?_
  rintro e Va2 ⟨rfl, hb⟩
  have HZ := Lib.hid hb
  clear hb
  clear cb10 cb11
  replace Hb1 := kbl Hb1 HZ
  replace Hb2 := kbl Hb2 HZ
  replace HB := ktr' HB HZ
  clear HZ
 case' g4 =>
  have h1' : decide (p1 ≤ 0 ∧ 0 ≤ p2) = true := by unfold has0 at h1; simpa using h1
  have h2' : decide (q1 ≤ 0 ∧ 0 ≤ q2) = false := by unfold has0 at h2; simpa using h2
  have hv : dirN (p1, p2) (q1, q2) = setK (p1, p2) (q1, q2) 4 := by rw [setK_four]; unfold dirN; rw [if_neg (fun h => h2 h.2)]
  rw [hv]
  have H1 := Lib.hid h1'
  have H2 := Lib.hid h2'
  clear h1 h1' h2 h2' hv
  go_enter Tryd.func95, Tryd.ntmps95
  go_upto_region 1 with (fail)
  obtain ⟨Va1, hV⟩ : ∃ V, (w.alloc (.cells #[.int .i64 (p1), .int .i64 (p2)] 108)).alloc (.cells #[.int .i64 (q1), .int .i64 (q2)] 108) = V := ⟨_, rfl⟩
  have Kb1 : Hid (Blk Va1 (w.heap.size) 108 #[.int .i64 (p1), .int .i64 (p2)]) := by rw [← hV]; exact (Blk.new' _ _ _ (by simp)).alloc _
  have Kb2 : Hid (Blk Va1 (w.heap.size + 1) 108 #[.int .i64 (q1), .int .i64 (q2)]) := by rw [← hV]; exact Blk.new' _ _ _ (by simp)
  have GHB : Hid (Below w.heap.size w Va1) := by rw [← hV]; exact (by repeat (first | exact Below.refl _ _ | assumption | refine Below.drew ?_ | refine Below.drewN' ?_ _ | (refine Below.alloc ?_ (by simp <;> omega) _) | (refine Below.setCell ?_ (by simp <;> omega) _)))
  have HZ : Hid (Below w.heap.size w Va1) := GHB
  rw [hV]
  clear hV HZ
  have HB := GHB
  clear GHB
  obtain ⟨b2, hqb2⟩ : ∃ b, w.heap.size + 1 = b := ⟨_, rfl⟩
  obtain ⟨b1, hqb1⟩ : ∃ b, w.heap.size = b := ⟨_, rfl⟩
  have gb1 : w.heap.size ≤ b1 := by omega
  have gb2 : w.heap.size ≤ b2 := by omega
  have nb2b1 : ¬ b2 = b1 := by omega
  have nb1b2 : ¬ b1 = b2 := by omega
  rw [hqb2] at Kb2 ⊢
  clear hqb2
  have HN : Hid (w.heap.size = b1) := hqb1
  rw [hqb1] at Kb1 ⊢
  clear hqb1
  have Hb1 := Kb1
  clear Kb1
  have Hb2 := Kb2
  clear Kb2
  have cb10 := kcl0 Hb1
  have cb11 := kcl1 Hb1
  go_wp2_with fail
  refine (has_of H1.out _).mono ?_
  rintro e Va2 ⟨rfl, hb⟩
  have HZ := Lib.hid hb
  clear hb
  clear cb10 cb11
  replace Hb1 := kbl Hb1 HZ
  replace Hb2 := kbl Hb2 HZ
  replace HB := ktr' HB HZ
  clear HZ
  have cb20 := kcl0 Hb2
  have cb21 := kcl1 Hb2
  go_wp2_with fail
  refine (has_of H2.out _).mono ?_
  rintro e Va3 ⟨rfl, hb⟩
  have HZ := Lib.hid hb
  clear hb
  clear cb20 cb21
  replace Hb1 := kbl Hb1 HZ
  replace Hb2 := kbl Hb2 HZ
  replace HB := ktr' HB HZ
  clear HZ
 all_goals
  have gnb1 := gb1
  have gnb2 := gb2
  go_wp2
  go_loopw [5, 6] (fun sv i wr => ∃ (k : Nat) (P1 P2 Q1 Q2 : Int), k ≤ 4 ∧ sv = .int .i64 ((setK (p1, p2) (q1, q2) k : Nat) : Int) ∧ i = .int .i64 ((2 * k : Nat) : Int) ∧ Hid (rotZ (p1, p2) (q1, q2) k = ((P1, P2), (Q1, Q2))) ∧ Hid (Blk wr b1 108 #[.int .i64 P1, .int .i64 P2]) ∧ Hid (Blk wr b2 108 #[.int .i64 Q1, .int .i64 Q2]) ∧ Hid (Below w.heap.size w wr)) (fun _ i _ => 8 - (intOf i).toNat)
  case atStart => exact ⟨0, p1, p2, q1, q2, by omega, rfl, rfl, rfl, Hb1, Hb2, HB⟩
  case round =>
   clear Hb1 Hb2 HB
   obtain ⟨k, P1, P2, Q1, Q2, hk, rfl, rfl, HR, Hb1, Hb2, HB⟩ := hrel
   have HRB := Lib.hid (rot_bd (p := (p1, p2)) (q := (q1, q2)) HB0.out k)
   rw [HR.out] at HRB
   have hS := setK_lt (p1, p2) (q1, q2) k
   have HS : Hid (setK (p1, p2) (q1, q2) (k + 1) = setK (p1, p2) (q1, q2) k + bv (strB (P1, P2) (Q1, Q2)) (4 ^ k) + bv (slaB (P1, P2) (Q1, Q2)) (2 * 4 ^ k)) := by
    show setK (p1, p2) (q1, q2) k + bv (strB (rotZ (p1, p2) (q1, q2) k).1 (rotZ (p1, p2) (q1, q2) k).2) (4 ^ k) + bv (slaB (rotZ (p1, p2) (q1, q2) k).1 (rotZ (p1, p2) (q1, q2) k).2) (2 * 4 ^ k) = _
    rw [HR.out]
   have HR2 : Hid (rotZ (p1, p2) (q1, q2) (k + 1) = ((Q1, Q2), (-P2, -P1))) := by
    show ((rotZ (p1, p2) (q1, q2) k).2, negZ (rotZ (p1, p2) (q1, q2) k).1) = _
    rw [HR.out]
    rfl
   rcases (show k = 4 ∨ k < 4 by omega) with rfl | hk4
   · obtain ⟨S, hSe⟩ : ∃ S, setK (p1, p2) (q1, q2) 4 = S := ⟨_, rfl⟩
     rw [hSe] at hS
     have HSe := Lib.hid hSe
     have HBo := HB.out
     clear hS HS HR HR2 HRB hSe
     rw [HSe.out]
     go_wp2
     go_ret
     exact ⟨by rw [HSe.out]; rfl, HBo⟩
   obtain ⟨S, hSe⟩ : ∃ S, setK (p1, p2) (q1, q2) k = S := ⟨_, rfl⟩
   rw [hSe] at hS HS ⊢
   clear hSe HR
   rcases (show k = 0 ∨ k = 1 ∨ k = 2 ∨ k = 3 by omega) with hkk | hkk | hkk | hkk
   all_goals first
    | (obtain rfl : k = 0 := hkk; have hS' : S < 1 := (by simpa using hS); clear hS; have o1 : bits .or .i64 (S : Int) 1 = (S : Int) + 1 := or_pow (i := 0) (by simpa using hS') (by decide); have o2 : bits .or .i64 ((S : Int) + 1) 2 = ((S : Int) + 1) + 2 := or_pow (a := S + 1) (i := 1) (by show S + 1 < 2; omega) (by decide); have o3 : bits .or .i64 (S : Int) 2 = (S : Int) + 2 := or_pow (i := 1) (by show S < 2; omega) (by decide))
    | (obtain rfl : k = 1 := hkk; have hS' : S < 4 := (by simpa using hS); clear hS; have o1 : bits .or .i64 (S : Int) 4 = (S : Int) + 4 := or_pow (i := 2) (by simpa using hS') (by decide); have o2 : bits .or .i64 ((S : Int) + 4) 8 = ((S : Int) + 4) + 8 := or_pow (a := S + 4) (i := 3) (by show S + 4 < 8; omega) (by decide); have o3 : bits .or .i64 (S : Int) 8 = (S : Int) + 8 := or_pow (i := 3) (by show S < 8; omega) (by decide))
    | (obtain rfl : k = 2 := hkk; have hS' : S < 16 := (by simpa using hS); clear hS; have o1 : bits .or .i64 (S : Int) 16 = (S : Int) + 16 := or_pow (i := 4) (by simpa using hS') (by decide); have o2 : bits .or .i64 ((S : Int) + 16) 32 = ((S : Int) + 16) + 32 := or_pow (a := S + 16) (i := 5) (by show S + 16 < 32; omega) (by decide); have o3 : bits .or .i64 (S : Int) 32 = (S : Int) + 32 := or_pow (i := 5) (by show S < 32; omega) (by decide))
    | (obtain rfl : k = 3 := hkk; have hS' : S < 64 := (by simpa using hS); clear hS; have o1 : bits .or .i64 (S : Int) 64 = (S : Int) + 64 := or_pow (i := 6) (by simpa using hS') (by decide); have o2 : bits .or .i64 ((S : Int) + 64) 128 = ((S : Int) + 64) + 128 := or_pow (a := S + 64) (i := 7) (by show S + 64 < 128; omega) (by decide); have o3 : bits .or .i64 (S : Int) 128 = (S : Int) + 128 := or_pow (i := 7) (by show S < 128; omega) (by decide))
   all_goals obtain ⟨x1, c1⟩ : ∃ x, strB (P1, P2) (Q1, Q2) = x := ⟨_, rfl⟩
   all_goals obtain ⟨x2, c2⟩ : ∃ x, slaB (P1, P2) (Q1, Q2) = x := ⟨_, rfl⟩
   all_goals rw [c1, c2] at HS
   all_goals have C1 := Lib.hid c1
   all_goals have C2 := Lib.hid c2
   all_goals clear c1 c2
   all_goals cases x1
   all_goals cases x2
   all_goals
    have cb10 := kcl0 Hb1
    have cb11 := kcl1 Hb1
    have cb20 := kcl0 Hb2
    have cb21 := kcl1 Hb2
    go_wp2_with fail
    refine (straight_of C1.out HRB.out _).mono ?_
    rintro e Va61 ⟨rfl, hb⟩
    have HZ := Lib.hid hb
    clear hb
    clear cb10 cb11 cb20 cb21
    replace Hb1 := kbl Hb1 HZ
    replace Hb2 := kbl Hb2 HZ
    replace HB := ktr' HB HZ
    clear HZ
    have cb10 := kcl0 Hb1
    have cb11 := kcl1 Hb1
    have cb20 := kcl0 Hb2
    have cb21 := kcl1 Hb2
    go_wp2_with fail
    refine (aslant_of C2.out HRB.out _).mono ?_
    rintro e Va62 ⟨rfl, hb⟩
    have HZ := Lib.hid hb
    clear hb
    clear cb10 cb11 cb20 cb21
    replace Hb1 := kbl Hb1 HZ
    replace Hb2 := kbl Hb2 HZ
    replace HB := ktr' HB HZ
    clear HZ
    go_upto_region 11 with (fail)
    have HSV : Hid (∀ U, Below Va62.heap.size Va62 U → U.cell? ⟨b1, 0, none⟩ = some (.int .i64 (P1)) ∧ U.cell? ⟨b1, 1, none⟩ = some (.int .i64 (P2)) ∧ U.cell? ⟨b2, 0, none⟩ = some (.int .i64 (Q1)) ∧ U.cell? ⟨b2, 1, none⟩ = some (.int .i64 (Q2))) := fun U hU => by
     have kb1 := Hb1.out.below hU Hb1.out.lt
     have kb2 := Hb2.out.below hU Hb2.out.lt
     exact ⟨kb1.cell 0, kb1.cell 1, kb2.cell 0, kb2.cell 1⟩
    have k0 := HSV.out _ (Below.drew (Below.refl Va62.heap.size Va62))
    refine wp_region_noPanic ?_
    refine wp_region_L (S := (fun w' => w'.cell? ⟨b1, 0, none⟩ = some (.int .i64 (P1)) ∧ w'.cell? ⟨b1, 1, none⟩ = some (.int .i64 (P2)) ∧ w'.cell? ⟨b2, 0, none⟩ = some (.int .i64 (Q1)) ∧ w'.cell? ⟨b2, 1, none⟩ = some (.int .i64 (Q2)))) (ks := [3, 4]) (by kernel_rfl) ?_ (fun hHeld => ?_)
    · (try dsimp only); (exact k0)
    refine tL 0 Z6a ?_ ?_ ?_
    rotate_left
    · ((intro w hSw; delta Z6a; (try dsimp only at hSw); go_simp) <;> with_reducible rfl)
    try simp only [Z6a, ksz]
    refine tL 1 Z6b ?_ ?_ ?_
    rotate_left
    · ((intro w hSw; delta Z6b; (try dsimp only at hSw); go_simp) <;> with_reducible rfl)
    try simp only [Z6b, ksz]
    obtain ⟨W0, hW0⟩ : ∃ V, Va62.drew = V := ⟨_, rfl⟩; rw [hW0] at hHeld ⊢; have HB0 : Hid (Below Va62.heap.size Va62 W0) := (by rw [← hW0]; exact Below.drew (Below.refl _ _)); clear hW0
    refine wpAnyL_ready (rs := [2]) (by kernel_rfl) (by simp) ?_
    refine AllReadyL.cons (o := Z6c) rfl (fun K hK => ?_) AllReadyL.nil
    delta Z6c
    go_simp
    (refine (negative_any P1 P2 _ (by have h := HRB.out; unfold rotB at h; simp only at h; omega) (by have h := HRB.out; unfold rotB at h; simp only at h; omega)).mono ?_; rintro e W1 ⟨rfl, hb⟩; have HB1 := Lib.hid (HB0.out.trans (hb.mono HB0.out.size)); clear hb)
    refine hK.out _ _ ?_ (fun hHeld => ?_)
    · (try dsimp only); (exact HSV.out _ HB1.out)
    clear hK K
    try simp only [Z6c, ksz]
    have Gb1 := Lib.hid (Hb1.out.below HB1.out Hb1.out.lt); have Gb2 := Lib.hid (Hb2.out.below HB1.out Hb2.out.lt); have GHB := Lib.hid (HB.out.trans (HB1.out.mono HB.out.size)); clear Hb1 Hb2 HB; have Hb1 := Gb1; clear Gb1; have Hb2 := Gb2; clear Gb2; have HB := GHB; clear GHB; have cR0 := Hb1.out.cell 0; have zR0 := Hb1.out.frozen 0; have cR1 := Hb1.out.cell 1; have zR1 := Hb1.out.frozen 1; simp only [List.getElem?_toArray, List.getElem?_cons_zero, List.getElem?_cons_succ] at cR0 cR1
    refine wpAnyL_ready (rs := [3]) (by kernel_rfl) (by simp) ?_
    refine AllReadyL.gate (o := Z6d) rfl (by kernel_rfl) (fun K hK => ?_) AllReadyL.nil
    delta Z6d
    go_simp
    refine hK.out _ _ ?_
    clear hK K
    try simp only [Z6d, ksz]
    obtain ⟨Va63, hV⟩ : ∃ V, (W1.setCell ⟨b1, 0, none⟩ (.int .i64 (Q1))).setCell ⟨b1, 1, none⟩ (.int .i64 (Q2)) = V := ⟨_, rfl⟩; replace Hb1 : Hid (Blk Va63 b1 108 #[.int .i64 (Q1), .int .i64 (Q2)]) := (by rw [← hV]; exact ((Hb1.out.set_ 0 (.int .i64 (Q1))).set_ 1 (.int .i64 (Q2)))); replace Hb2 : Hid (Blk Va63 b2 108 #[.int .i64 (Q1), .int .i64 (Q2)]) := (by rw [← hV]; exact ((Hb2.out.far_ (p := ⟨b1, 0, none⟩) nb2b1 _).far_ (p := ⟨b1, 1, none⟩) nb2b1 _)); replace HB : Hid (Below w.heap.size w Va63) := (by rw [← hV]; exact ((HB.out.setCell (p := ⟨b1, 0, none⟩) gb1 _).setCell (p := ⟨b1, 1, none⟩) gb1 _)); rw [hV]; clear hV cR0 zR0 cR1 zR1
    have cR0 := Hb2.out.cell 0; have zR0 := Hb2.out.frozen 0; have cR1 := Hb2.out.cell 1; have zR1 := Hb2.out.frozen 1; simp only [List.getElem?_toArray, List.getElem?_cons_zero, List.getElem?_cons_succ] at cR0 cR1
    refine wpAnyL_ready (rs := [4]) (by kernel_rfl) (by simp) ?_
    refine AllReadyL.gate (o := Z6e) rfl (by kernel_rfl) (fun K hK => ?_) AllReadyL.nil
    delta Z6e
    go_simp
    refine hK.out _ _ ?_
    clear hK K
    try simp only [Z6e, ksz]
    obtain ⟨Va64, hV⟩ : ∃ V, (Va63.setCell ⟨b2, 0, none⟩ (.int .i64 (-P2))).setCell ⟨b2, 1, none⟩ (.int .i64 (-P1)) = V := ⟨_, rfl⟩; replace Hb1 : Hid (Blk Va64 b1 108 #[.int .i64 (Q1), .int .i64 (Q2)]) := (by rw [← hV]; exact ((Hb1.out.far_ (p := ⟨b2, 0, none⟩) nb1b2 _).far_ (p := ⟨b2, 1, none⟩) nb1b2 _)); replace Hb2 : Hid (Blk Va64 b2 108 #[.int .i64 (-P2), .int .i64 (-P1)]) := (by rw [← hV]; exact ((Hb2.out.set_ 0 (.int .i64 (-P2))).set_ 1 (.int .i64 (-P1)))); replace HB : Hid (Below w.heap.size w Va64) := (by rw [← hV]; exact ((HB.out.setCell (p := ⟨b2, 0, none⟩) gb2 _).setCell (p := ⟨b2, 1, none⟩) gb2 _)); rw [hV]; clear hV cR0 zR0 cR1 zR1
    refine wpAnyL_done (by kernel_rfl) ?_ _
    refine NoPanic.normal ?_
    clear HSV k0
    clear hHeld HB0 HB1
    go_wp2
    go_roundw
    case rel => exact ⟨_, Q1, Q2, -P2, -P1, by omega, by rw [HS.out]; simp [bv]; try omega, by first | rfl | go_num, HR2, Hb1, Hb2, HB⟩
    case measure => simp [intOf]
end Go.Proofs.YtdhcdgfpkjdihaaDoor.Sg
