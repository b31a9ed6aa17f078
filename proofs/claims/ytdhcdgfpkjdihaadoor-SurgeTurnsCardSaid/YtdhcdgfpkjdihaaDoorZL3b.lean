/-
  Layer 3, the laws: a cut of a span, counted bits.
-/
import Derived.Test.YtdhcdgfpkjdihaaDoorZL3a
set_option linter.unusedSimpArgs false
set_option linter.unusedVariables false
namespace Go.Proofs.YtdhcdgfpkjdihaaDoor.Sg
open Go.RowKit Go.Shelf

def op13_3_0 : Oper := ⟨some 53, .load 96 (.tmp 6), 96, "outright.go:221", #[], none⟩
def op13_3_1 : Oper := ⟨some 54, .load 26 (.tmp 4), 26, "outright.go:221", #[], none⟩
def op13_3_2 : Oper := ⟨some 55, .call { callee := Callee.value (.func 49), args := #[.tmp 53, .tmp 54], argTypes := #[96, 26] }, 26, "outright.go:221", #[⟨0, .data⟩, ⟨1, .data⟩], none⟩
def op13_3_3 : Oper := ⟨some 56, .field 26 (.tmp 55) 0, 3, "outright.go:221", #[⟨2, .data⟩], none⟩
def op13_3_4 : Oper := ⟨some 57, .load 96 (.tmp 7), 96, "outright.go:221", #[], none⟩
def op13_3_5 : Oper := ⟨some 58, .load 26 (.tmp 5), 26, "outright.go:221", #[], none⟩
def op13_3_6 : Oper := ⟨some 59, .call { callee := Callee.value (.func 49), args := #[.tmp 57, .tmp 58], argTypes := #[96, 26] }, 26, "outright.go:221", #[⟨4, .data⟩, ⟨5, .data⟩, ⟨2, .chain⟩], none⟩
def op13_3_7 : Oper := ⟨some 60, .field 26 (.tmp 59) 0, 3, "outright.go:221", #[⟨6, .data⟩, ⟨8, .gcOnly .lateStores⟩], none⟩
def op13_3_8 : Oper := ⟨some 9, .assign (.tmp 56), 3, "outright.go:221", #[⟨3, .data⟩, ⟨6, .chain⟩, ⟨0, .phase⟩, ⟨1, .phase⟩, ⟨2, .phase⟩, ⟨3, .phase⟩, ⟨4, .textOnly .lateStores⟩, ⟨5, .textOnly .lateStores⟩, ⟨6, .textOnly .lateStoresUnsure⟩, ⟨7, .textOnly .lateStores⟩], none⟩
def op13_3_9 : Oper := ⟨some 10, .assign (.tmp 60), 3, "outright.go:221", #[⟨7, .data⟩, ⟨8, .chain⟩, ⟨0, .phase⟩, ⟨1, .phase⟩, ⟨2, .phase⟩, ⟨3, .phase⟩, ⟨4, .phase⟩, ⟨5, .phase⟩, ⟨6, .phase⟩, ⟨7, .phase⟩, ⟨8, .phase⟩], none⟩
def cutZ (c s : Int × Int) : Int × Int := (s.1 + c.1 % (s.2 - s.1 + 1), s.1 + c.1 % (s.2 - s.1 + 1) + c.2 % (s.2 - (s.1 + c.1 % (s.2 - s.1 + 1)) + 1))
theorem cut_in {c s : Int × Int} (hs : s.1 ≤ s.2) (h1 : 0 ≤ c.1) (h2 : 0 ≤ c.2) : Lie (cutZ c s) s := by
  obtain ⟨a, b⟩ := c
  obtain ⟨lo, hi⟩ := s
  unfold cutZ Lie
  simp only at *
  have e1 := Int.emod_nonneg a (show hi - lo + 1 ≠ 0 by omega)
  have e2 := Int.emod_lt_of_pos a (show 0 < hi - lo + 1 by omega)
  obtain ⟨m, hm⟩ : ∃ z, a % (hi - lo + 1) = z := ⟨_, rfl⟩
  rw [hm] at e1 e2 ⊢
  have e3 := Int.emod_nonneg b (show hi - (lo + m) + 1 ≠ 0 by omega)
  have e4 := Int.emod_lt_of_pos b (show 0 < hi - (lo + m) + 1 by omega)
  omega
set_option maxRecDepth 100000 in
set_option maxHeartbeats 2000000 in
theorem Cut_any (c1 c2 lo hi : Int) (w : World) (h1 : 0 ≤ c1 ∧ c1 < 4294967296) (h2 : 0 ≤ c2 ∧ c2 < 4294967296) (hs : lo ≤ hi) (hb : -1000000000000 ≤ lo ∧ hi ≤ 1000000000000) :
    Calls Tryd.prog 49 #[.agg #[.int .u32 (c1), .int .u32 (c2)], .agg #[.int .i64 lo, .int .i64 hi]] w fun e w' => e = .returned (.agg #[.int .i64 ((cutZ (c1, c2) (lo, hi)).1), .int .i64 ((cutZ (c1, c2) (lo, hi)).2)]) ∧ Below w.heap.size w w' := by
  obtain ⟨c1a, c1b⟩ := h1
  obtain ⟨c2a, c2b⟩ := h2
  obtain ⟨hba, hbb⟩ := hb
  have hd1 : ¬ hi - lo + 1 = 0 := by omega
  have wr1 : IntKind.i64.wrap (hi - lo) = hi - lo := IntWalk.i64_in _ (by omega)
  have wr2 : IntKind.i64.wrap (hi - lo + 1) = hi - lo + 1 := IntWalk.i64_in _ (by omega)
  have em : c1.tmod (hi - lo + 1) = c1 % (hi - lo + 1) := Int.tmod_eq_emod_of_nonneg c1a
  have eb := Int.emod_nonneg c1 hd1
  have ec := Int.emod_lt_of_pos c1 (show 0 < hi - lo + 1 by omega)
  have wr5 : IntKind.i64.wrap c1 = c1 := IntWalk.i64_in _ (by omega)
  have wr6 : IntKind.i64.wrap c2 = c2 := IntWalk.i64_in _ (by omega)
  obtain ⟨m1, hm1⟩ : ∃ z, c1 % (hi - lo + 1) = z := ⟨_, rfl⟩
  have HZ1 : Hid ((cutZ (c1, c2) (lo, hi)) = (lo + m1, lo + m1 + c2 % (hi - (lo + m1) + 1))) := by unfold Hid cutZ; simp only [hm1]
  rw [hm1] at em eb ec
  have wr0 : IntKind.i64.wrap m1 = m1 := IntWalk.i64_in _ (by omega)
  have wr3 : IntKind.i64.wrap (lo + m1) = lo + m1 := IntWalk.i64_in _ (by omega)
  rw [HZ1.out]
  clear hm1
  obtain ⟨L, hL⟩ : ∃ z, lo + m1 = z := ⟨_, rfl⟩
  rw [hL] at wr3 ⊢
  have hLa : lo ≤ L ∧ L ≤ hi := by omega
  have ed : ¬ hi - L + 1 = 0 := by omega
  have em2 : c2.tmod (hi - L + 1) = c2 % (hi - L + 1) := Int.tmod_eq_emod_of_nonneg c2a
  have eb2 := Int.emod_nonneg c2 ed
  have ec2 := Int.emod_lt_of_pos c2 (show 0 < hi - L + 1 by omega)
  obtain ⟨m2, hm2⟩ : ∃ z, c2 % (hi - L + 1) = z := ⟨_, rfl⟩
  rw [hm2] at em2 eb2 ec2 ⊢
  have wr4 : IntKind.i64.wrap m2 = m2 := IntWalk.i64_in _ (by omega)
  have HL := Lib.hid hL
  clear hm2 HZ1
  go_enter Tryd.func49, Tryd.ntmps49
  go_upto_region 1 with (fail)
  obtain ⟨Va1, hV⟩ : ∃ V, ((w.alloc (.cells #[.int .u32 (c1), .int .u32 (c2)] 96)).alloc (.cells #[.int .i64 (lo), .int .i64 (hi)] 26)).alloc (.cells #[.int .i64 (0), .int .i64 (0)] 26) = V := ⟨_, rfl⟩
  have Kb2 : Hid (Blk Va1 (w.heap.size) 96 #[.int .u32 (c1), .int .u32 (c2)]) := by rw [← hV]; exact ((Blk.new' _ _ _ (by simp)).alloc _).alloc _
  have Kb3 : Hid (Blk Va1 (w.heap.size + 1) 26 #[.int .i64 (lo), .int .i64 (hi)]) := by rw [← hV]; exact (Blk.new' _ _ _ (by simp)).alloc _
  have Kb4 : Hid (Blk Va1 (w.heap.size + 1 + 1) 26 #[.int .i64 (0), .int .i64 (0)]) := by rw [← hV]; exact Blk.new' _ _ _ (by simp)
  have GHB : Hid (Below w.heap.size w Va1) := by rw [← hV]; exact (by repeat (first | exact Below.refl _ _ | assumption | refine Below.drew ?_ | refine Below.drewN' ?_ _ | (refine Below.alloc ?_ (by simp <;> omega) _) | (refine Below.setCell ?_ (by simp <;> omega) _)))
  have HZ : Hid (Below w.heap.size w Va1) := GHB
  rw [hV]
  clear hV HZ 
  have HB := GHB
  clear GHB
  obtain ⟨b4, hqb4⟩ : ∃ b, w.heap.size + 1 + 1 = b := ⟨_, rfl⟩
  obtain ⟨b3, hqb3⟩ : ∃ b, w.heap.size + 1 = b := ⟨_, rfl⟩
  obtain ⟨b2, hqb2⟩ : ∃ b, w.heap.size = b := ⟨_, rfl⟩
  have gb2 : w.heap.size ≤ b2 := by omega
  have gb3 : w.heap.size ≤ b3 := by omega
  have nb3b2 : ¬ b3 = b2 := by omega
  have nb2b3 : ¬ b2 = b3 := by omega
  have gb4 : w.heap.size ≤ b4 := by omega
  have nb4b2 : ¬ b4 = b2 := by omega
  have nb2b4 : ¬ b2 = b4 := by omega
  have nb4b3 : ¬ b4 = b3 := by omega
  have nb3b4 : ¬ b3 = b4 := by omega
  rw [hqb4] at Kb4 ⊢
  clear hqb4
  rw [hqb3] at Kb3 ⊢
  clear hqb3
  have HN : Hid (w.heap.size = b2) := hqb2
  rw [hqb2] at Kb2 ⊢
  clear hqb2
  have Hb2 := Kb2
  clear Kb2
  have Hb3 := Kb3
  clear Kb3
  have Hb4 := Kb4
  clear Kb4
  have cb20 : Va1.cell? ⟨b2, 0, none⟩ = some (.int .u32 (c1)) := Hb2.out.cell 0
  have cb21 : Va1.cell? ⟨b2, 1, none⟩ = some (.int .u32 (c2)) := Hb2.out.cell 1
  have cb30 : Va1.cell? ⟨b3, 0, none⟩ = some (.int .i64 (lo)) := Hb3.out.cell 0
  have cb31 : Va1.cell? ⟨b3, 1, none⟩ = some (.int .i64 (hi)) := Hb3.out.cell 1
  go_quiet (fail)
  clear cb20 cb21 cb30 cb31
  obtain ⟨Va2, hVq⟩ : ∃ V, Va1.drewN nq = V := ⟨_, rfl⟩
  have HZ : Hid (Below Va1.heap.size Va1 Va2) := by rw [← hVq]; exact Below.drewN' (Below.refl _ _) _
  rw [hVq]
  clear hVq
  have Gb2 := Lib.hid (Hb2.out.below HZ.out Hb2.out.lt)
  have Gb3 := Lib.hid (Hb3.out.below HZ.out Hb3.out.lt)
  have Gb4 := Lib.hid (Hb4.out.below HZ.out Hb4.out.lt)
  have GHB := Lib.hid (HB.out.trans (HZ.out.mono HB.out.size))
  clear Hb2 Hb3 Hb4 HB HZ
  have Hb2 := Gb2
  have Hb3 := Gb3
  have Hb4 := Gb4
  have HB := GHB
  clear Gb2 Gb3 Gb4 GHB
  have cb20 : Va2.cell? ⟨b2, 0, none⟩ = some (.int .u32 (c1)) := Hb2.out.cell 0
  have cb21 : Va2.cell? ⟨b2, 1, none⟩ = some (.int .u32 (c2)) := Hb2.out.cell 1
  have cb30 : Va2.cell? ⟨b3, 0, none⟩ = some (.int .i64 (lo)) := Hb3.out.cell 0
  have cb31 : Va2.cell? ⟨b3, 1, none⟩ = some (.int .i64 (hi)) := Hb3.out.cell 1
  have cb40 : Va2.cell? ⟨b4, 0, none⟩ = some (.int .i64 (0)) := Hb4.out.cell 0
  have cb41 : Va2.cell? ⟨b4, 1, none⟩ = some (.int .i64 (0)) := Hb4.out.cell 1
  have zb40 : Va2.frozen? ⟨b4, 0, none⟩ = false := Hb4.out.frozen 0
  have zb41 : Va2.frozen? ⟨b4, 1, none⟩ = false := Hb4.out.frozen 1
  try rw [HL.out]
  go_wp2
  have MZ := (Hb4.out.set_ 0 (.int .i64 L)).set_ 1 (.int .i64 (L + m2))
  have rz0 := MZ.cell 0
  have rz1 := MZ.cell 1
  simp only [List.setIfInBounds_toArray, List.set_cons_zero, List.set_cons_succ, List.getElem?_toArray, List.getElem?_cons_zero, List.getElem?_cons_succ] at rz0 rz1
  refine bodyPost_ret (v := .agg #[.int .i64 (L), .int .i64 (L + m2)]) (by simp [results, Tryd.results49, go_sem, rz0, rz1]) rfl ⟨rfl, (HB.out.setCell (p := ⟨b4, 0, none⟩) (by exact gb4) _).setCell (p := ⟨b4, 1, none⟩) (by exact gb4) _⟩
def bitT (n : Nat) : Nat → Nat
  | 0 => 0
  | k + 1 => bitT n k + n / 2 ^ k % 2
theorem bitT_le (n k : Nat) : bitT n k ≤ k := by
  induction k with
  | zero => exact Nat.le_refl _
  | succ k ih => have := Nat.mod_lt (n / 2 ^ k) (show 0 < 2 by omega); simp only [bitT]; omega
theorem bitT_all (n : Nat) : bitT n 8 = bitsN n := by simp [bitT, bitsN]
set_option maxHeartbeats 1000000 in
theorem bits_any (n : Nat) (w : World) (hn : n < 256) :
    Calls Tryd.prog 50 #[.int .i64 (n : Int)] w fun e w' => e = .returned (.int .i64 ((bitsN n : Nat) : Int)) ∧ Below w.heap.size w w' := by
  have HA := Lib.hid (bitT_all n)
  have HN := Lib.hid hn
  clear hn
  go_enter Tryd.func50, Tryd.ntmps50
  go_wp2
  go_loopw [3, 4] (fun sv i wr => ∃ k : Nat, k ≤ 8 ∧ i = .int .i64 k ∧ sv = .int .i64 ((bitT n k : Nat) : Int) ∧ Below w.heap.size w wr) (fun _ i _ => 8 - (intOf i).toNat)
  case atStart => exact ⟨0, Nat.zero_le _, rfl, rfl, Below.refl _ _⟩
  case round =>
    obtain ⟨k, hk, rfl, rfl, hBr⟩ := hrel
    by_cases hlt : k < 8
    · have hlt' : (k : Int) < 8 := by omega
      have hle := bitT_le n k
      have hst : bitT n (k + 1) = bitT n k + n / 2 ^ k % 2 := rfl
      have hm := Nat.mod_lt (n / 2 ^ k) (show 0 < 2 by omega)
      obtain ⟨q, hq⟩ : ∃ z, n / 2 ^ k = z := ⟨_, rfl⟩
      have hdv : (n : Int) / 2 ^ k = (q : Int) := by rw [← hq]; simp
      have htm : (q : Int).tmod 2 = ((q % 2 : Nat) : Int) := by rw [Int.tmod_eq_emod_of_nonneg (by omega)]; omega
      rw [hq] at hst hm
      obtain ⟨r, hr⟩ : ∃ z, q % 2 = z := ⟨_, rfl⟩
      rw [hr] at hst hm htm
      obtain ⟨t, ht⟩ : ∃ z, bitT n k = z := ⟨_, rfl⟩
      rw [ht] at hst hle ⊢
      have hw1 : IntKind.i64.wrap (q : Int) = q := IntWalk.i64_in _ (by rw [← hq]; have := Nat.div_le_self n (2 ^ k); have := HN.out; omega)
      have HS := Lib.hid hst
      clear hst hq hr ht
      go_wp2
      go_roundw
      case rel => exact ⟨k + 1, by omega, by go_num, by rw [HS.out]; go_num, (by repeat (first | exact Below.refl _ _ | assumption | refine Below.drew ?_ | refine Below.drewN' ?_ _ | (refine Below.alloc ?_ (by simp <;> omega) _) | (refine Below.setCell ?_ (by simp <;> omega) _)))⟩
      case measure => simp [intOf]; omega
    · have hk8 : k = 8 := by omega
      subst hk8
      rw [HA.out]
      clear hlt
      go_wp2
      go_ret
      exact ⟨rfl, (by repeat (first | exact Below.refl _ _ | assumption | refine Below.drew ?_ | refine Below.drewN' ?_ _ | (refine Below.alloc ?_ (by simp <;> omega) _) | (refine Below.setCell ?_ (by simp <;> omega) _)))⟩
theorem fieldP0 (x y : Value) (w : World) : (Instr.field 26 (.agg #[x, y]) 0).run Tryd.prog w = .ok x w := by kernel_rfl
set_option maxRecDepth 100000 in
set_option maxHeartbeats 8000000 in
theorem SurgeTurns_any (p1 p2 q1 q2 x1 x2 y1 y2 : Int) (w : World) (HD : DirsAt w) (hx1 : 0 ≤ x1 ∧ x1 < 4294967296) (hx2 : 0 ≤ x2 ∧ x2 < 4294967296) (hy1 : 0 ≤ y1 ∧ y1 < 4294967296) (hy2 : 0 ≤ y2 ∧ y2 < 4294967296) :
    Calls Tryd.prog 13 #[.agg #[.int .i64 p1, .int .i64 p2], .agg #[.int .i64 q1, .int .i64 q2], .agg #[.int .u32 (x1), .int .u32 (x2)], .agg #[.int .u32 (y1), .int .u32 (y2)]] w fun e w' => e = .returned (.bool true) ∧ Below w.heap.size w w' := by
  by_cases hc0 : p2 < p1
  ·
    have HDR := Lib.hid HD
    clear HD
    go_enter Tryd.func13, Tryd.ntmps13
    go_upto_region 1 with (fail)
    obtain ⟨Va1, hV⟩ : ∃ V, (((w.alloc (.cells #[.int .i64 (p1), .int .i64 (p2)] 26)).alloc (.cells #[.int .i64 (q1), .int .i64 (q2)] 26)).alloc (.cells #[.int .u32 (x1), .int .u32 (x2)] 96)).alloc (.cells #[.int .u32 (y1), .int .u32 (y2)] 96) = V := ⟨_, rfl⟩
    have Kb4 : Hid (Blk Va1 (w.heap.size) 26 #[.int .i64 (p1), .int .i64 (p2)]) := by rw [← hV]; exact (((Blk.new' _ _ _ (by simp)).alloc _).alloc _).alloc _
    have Kb5 : Hid (Blk Va1 (w.heap.size + 1) 26 #[.int .i64 (q1), .int .i64 (q2)]) := by rw [← hV]; exact ((Blk.new' _ _ _ (by simp)).alloc _).alloc _
    have Kb6 : Hid (Blk Va1 (w.heap.size + 1 + 1) 96 #[.int .u32 (x1), .int .u32 (x2)]) := by rw [← hV]; exact (Blk.new' _ _ _ (by simp)).alloc _
    have Kb7 : Hid (Blk Va1 (w.heap.size + 1 + 1 + 1) 96 #[.int .u32 (y1), .int .u32 (y2)]) := by rw [← hV]; exact Blk.new' _ _ _ (by simp)
    have GHB : Hid (Below w.heap.size w Va1) := by rw [← hV]; exact (by repeat (first | exact Below.refl _ _ | assumption | refine Below.drew ?_ | refine Below.drewN' ?_ _ | (refine Below.alloc ?_ (by simp <;> omega) _) | (refine Below.setCell ?_ (by simp <;> omega) _)))
    have HZ : Hid (Below w.heap.size w Va1) := GHB
    have GHDR := Lib.hid (HDR.out.later HZ.out)
    rw [hV]
    clear hV HZ HDR
    have HB := GHB
    clear GHB
    have HDR := GHDR
    clear GHDR
    obtain ⟨b7, hqb7⟩ : ∃ b, w.heap.size + 1 + 1 + 1 = b := ⟨_, rfl⟩
    obtain ⟨b6, hqb6⟩ : ∃ b, w.heap.size + 1 + 1 = b := ⟨_, rfl⟩
    obtain ⟨b5, hqb5⟩ : ∃ b, w.heap.size + 1 = b := ⟨_, rfl⟩
    obtain ⟨b4, hqb4⟩ : ∃ b, w.heap.size = b := ⟨_, rfl⟩
    have gb4 : w.heap.size ≤ b4 := by omega
    have gb5 : w.heap.size ≤ b5 := by omega
    have nb5b4 : ¬ b5 = b4 := by omega
    have nb4b5 : ¬ b4 = b5 := by omega
    have gb6 : w.heap.size ≤ b6 := by omega
    have nb6b4 : ¬ b6 = b4 := by omega
    have nb4b6 : ¬ b4 = b6 := by omega
    have nb6b5 : ¬ b6 = b5 := by omega
    have nb5b6 : ¬ b5 = b6 := by omega
    have gb7 : w.heap.size ≤ b7 := by omega
    have nb7b4 : ¬ b7 = b4 := by omega
    have nb4b7 : ¬ b4 = b7 := by omega
    have nb7b5 : ¬ b7 = b5 := by omega
    have nb5b7 : ¬ b5 = b7 := by omega
    have nb7b6 : ¬ b7 = b6 := by omega
    have nb6b7 : ¬ b6 = b7 := by omega
    rw [hqb7] at Kb7 ⊢
    clear hqb7
    rw [hqb6] at Kb6 ⊢
    clear hqb6
    rw [hqb5] at Kb5 ⊢
    clear hqb5
    have HN : Hid (w.heap.size = b4) := hqb4
    rw [hqb4] at Kb4 ⊢
    clear hqb4
    have Hb4 := Kb4
    clear Kb4
    have Hb5 := Kb5
    clear Kb5
    have Hb6 := Kb6
    clear Kb6
    have Hb7 := Kb7
    clear Kb7
    have cb40 : Va1.cell? ⟨b4, 0, none⟩ = some (.int .i64 (p1)) := Hb4.out.cell 0
    have cb41 : Va1.cell? ⟨b4, 1, none⟩ = some (.int .i64 (p2)) := Hb4.out.cell 1
    have cb50 : Va1.cell? ⟨b5, 0, none⟩ = some (.int .i64 (q1)) := Hb5.out.cell 0
    have cb51 : Va1.cell? ⟨b5, 1, none⟩ = some (.int .i64 (q2)) := Hb5.out.cell 1
    go_wp2_with fail
    refine (works_any _ HDR.out).mono ?_
    rintro e Va2 ⟨rfl, hb⟩
    have HBZ := Lib.hid (HB.out.trans (hb.mono HB.out.size))
    clear hb
    go_wp2
    go_ret
    exact ⟨rfl, HBZ.out⟩
  by_cases hc1 : q2 < q1
  ·
    have HDR := Lib.hid HD
    clear HD
    go_enter Tryd.func13, Tryd.ntmps13
    go_upto_region 1 with (fail)
    obtain ⟨Va101, hV⟩ : ∃ V, (((w.alloc (.cells #[.int .i64 (p1), .int .i64 (p2)] 26)).alloc (.cells #[.int .i64 (q1), .int .i64 (q2)] 26)).alloc (.cells #[.int .u32 (x1), .int .u32 (x2)] 96)).alloc (.cells #[.int .u32 (y1), .int .u32 (y2)] 96) = V := ⟨_, rfl⟩
    have Kb4 : Hid (Blk Va101 (w.heap.size) 26 #[.int .i64 (p1), .int .i64 (p2)]) := by rw [← hV]; exact (((Blk.new' _ _ _ (by simp)).alloc _).alloc _).alloc _
    have Kb5 : Hid (Blk Va101 (w.heap.size + 1) 26 #[.int .i64 (q1), .int .i64 (q2)]) := by rw [← hV]; exact ((Blk.new' _ _ _ (by simp)).alloc _).alloc _
    have Kb6 : Hid (Blk Va101 (w.heap.size + 1 + 1) 96 #[.int .u32 (x1), .int .u32 (x2)]) := by rw [← hV]; exact (Blk.new' _ _ _ (by simp)).alloc _
    have Kb7 : Hid (Blk Va101 (w.heap.size + 1 + 1 + 1) 96 #[.int .u32 (y1), .int .u32 (y2)]) := by rw [← hV]; exact Blk.new' _ _ _ (by simp)
    have GHB : Hid (Below w.heap.size w Va101) := by rw [← hV]; exact (by repeat (first | exact Below.refl _ _ | assumption | refine Below.drew ?_ | refine Below.drewN' ?_ _ | (refine Below.alloc ?_ (by simp <;> omega) _) | (refine Below.setCell ?_ (by simp <;> omega) _)))
    have HZ : Hid (Below w.heap.size w Va101) := GHB
    have GHDR := Lib.hid (HDR.out.later HZ.out)
    rw [hV]
    clear hV HZ HDR
    have HB := GHB
    clear GHB
    have HDR := GHDR
    clear GHDR
    obtain ⟨b7, hqb7⟩ : ∃ b, w.heap.size + 1 + 1 + 1 = b := ⟨_, rfl⟩
    obtain ⟨b6, hqb6⟩ : ∃ b, w.heap.size + 1 + 1 = b := ⟨_, rfl⟩
    obtain ⟨b5, hqb5⟩ : ∃ b, w.heap.size + 1 = b := ⟨_, rfl⟩
    obtain ⟨b4, hqb4⟩ : ∃ b, w.heap.size = b := ⟨_, rfl⟩
    have gb4 : w.heap.size ≤ b4 := by omega
    have gb5 : w.heap.size ≤ b5 := by omega
    have nb5b4 : ¬ b5 = b4 := by omega
    have nb4b5 : ¬ b4 = b5 := by omega
    have gb6 : w.heap.size ≤ b6 := by omega
    have nb6b4 : ¬ b6 = b4 := by omega
    have nb4b6 : ¬ b4 = b6 := by omega
    have nb6b5 : ¬ b6 = b5 := by omega
    have nb5b6 : ¬ b5 = b6 := by omega
    have gb7 : w.heap.size ≤ b7 := by omega
    have nb7b4 : ¬ b7 = b4 := by omega
    have nb4b7 : ¬ b4 = b7 := by omega
    have nb7b5 : ¬ b7 = b5 := by omega
    have nb5b7 : ¬ b5 = b7 := by omega
    have nb7b6 : ¬ b7 = b6 := by omega
    have nb6b7 : ¬ b6 = b7 := by omega
    rw [hqb7] at Kb7 ⊢
    clear hqb7
    rw [hqb6] at Kb6 ⊢
    clear hqb6
    rw [hqb5] at Kb5 ⊢
    clear hqb5
    have HN : Hid (w.heap.size = b4) := hqb4
    rw [hqb4] at Kb4 ⊢
    clear hqb4
    have Hb4 := Kb4
    clear Kb4
    have Hb5 := Kb5
    clear Kb5
    have Hb6 := Kb6
    clear Kb6
    have Hb7 := Kb7
    clear Kb7
    have cb40 : Va101.cell? ⟨b4, 0, none⟩ = some (.int .i64 (p1)) := Hb4.out.cell 0
    have cb41 : Va101.cell? ⟨b4, 1, none⟩ = some (.int .i64 (p2)) := Hb4.out.cell 1
    have cb50 : Va101.cell? ⟨b5, 0, none⟩ = some (.int .i64 (q1)) := Hb5.out.cell 0
    have cb51 : Va101.cell? ⟨b5, 1, none⟩ = some (.int .i64 (q2)) := Hb5.out.cell 1
    go_wp2_with fail
    refine (works_any _ HDR.out).mono ?_
    rintro e Va102 ⟨rfl, hb⟩
    have HBZ := Lib.hid (HB.out.trans (hb.mono HB.out.size))
    clear hb
    go_wp2
    go_ret
    exact ⟨rfl, HBZ.out⟩
  by_cases hc2 : p1 < -1000000
  ·
    have HDR := Lib.hid HD
    clear HD
    go_enter Tryd.func13, Tryd.ntmps13
    go_upto_region 1 with (fail)
    obtain ⟨Va201, hV⟩ : ∃ V, (((w.alloc (.cells #[.int .i64 (p1), .int .i64 (p2)] 26)).alloc (.cells #[.int .i64 (q1), .int .i64 (q2)] 26)).alloc (.cells #[.int .u32 (x1), .int .u32 (x2)] 96)).alloc (.cells #[.int .u32 (y1), .int .u32 (y2)] 96) = V := ⟨_, rfl⟩
    have Kb4 : Hid (Blk Va201 (w.heap.size) 26 #[.int .i64 (p1), .int .i64 (p2)]) := by rw [← hV]; exact (((Blk.new' _ _ _ (by simp)).alloc _).alloc _).alloc _
    have Kb5 : Hid (Blk Va201 (w.heap.size + 1) 26 #[.int .i64 (q1), .int .i64 (q2)]) := by rw [← hV]; exact ((Blk.new' _ _ _ (by simp)).alloc _).alloc _
    have Kb6 : Hid (Blk Va201 (w.heap.size + 1 + 1) 96 #[.int .u32 (x1), .int .u32 (x2)]) := by rw [← hV]; exact (Blk.new' _ _ _ (by simp)).alloc _
    have Kb7 : Hid (Blk Va201 (w.heap.size + 1 + 1 + 1) 96 #[.int .u32 (y1), .int .u32 (y2)]) := by rw [← hV]; exact Blk.new' _ _ _ (by simp)
    have GHB : Hid (Below w.heap.size w Va201) := by rw [← hV]; exact (by repeat (first | exact Below.refl _ _ | assumption | refine Below.drew ?_ | refine Below.drewN' ?_ _ | (refine Below.alloc ?_ (by simp <;> omega) _) | (refine Below.setCell ?_ (by simp <;> omega) _)))
    have HZ : Hid (Below w.heap.size w Va201) := GHB
    have GHDR := Lib.hid (HDR.out.later HZ.out)
    rw [hV]
    clear hV HZ HDR
    have HB := GHB
    clear GHB
    have HDR := GHDR
    clear GHDR
    obtain ⟨b7, hqb7⟩ : ∃ b, w.heap.size + 1 + 1 + 1 = b := ⟨_, rfl⟩
    obtain ⟨b6, hqb6⟩ : ∃ b, w.heap.size + 1 + 1 = b := ⟨_, rfl⟩
    obtain ⟨b5, hqb5⟩ : ∃ b, w.heap.size + 1 = b := ⟨_, rfl⟩
    obtain ⟨b4, hqb4⟩ : ∃ b, w.heap.size = b := ⟨_, rfl⟩
    have gb4 : w.heap.size ≤ b4 := by omega
    have gb5 : w.heap.size ≤ b5 := by omega
    have nb5b4 : ¬ b5 = b4 := by omega
    have nb4b5 : ¬ b4 = b5 := by omega
    have gb6 : w.heap.size ≤ b6 := by omega
    have nb6b4 : ¬ b6 = b4 := by omega
    have nb4b6 : ¬ b4 = b6 := by omega
    have nb6b5 : ¬ b6 = b5 := by omega
    have nb5b6 : ¬ b5 = b6 := by omega
    have gb7 : w.heap.size ≤ b7 := by omega
    have nb7b4 : ¬ b7 = b4 := by omega
    have nb4b7 : ¬ b4 = b7 := by omega
    have nb7b5 : ¬ b7 = b5 := by omega
    have nb5b7 : ¬ b5 = b7 := by omega
    have nb7b6 : ¬ b7 = b6 := by omega
    have nb6b7 : ¬ b6 = b7 := by omega
    rw [hqb7] at Kb7 ⊢
    clear hqb7
    rw [hqb6] at Kb6 ⊢
    clear hqb6
    rw [hqb5] at Kb5 ⊢
    clear hqb5
    have HN : Hid (w.heap.size = b4) := hqb4
    rw [hqb4] at Kb4 ⊢
    clear hqb4
    have Hb4 := Kb4
    clear Kb4
    have Hb5 := Kb5
    clear Kb5
    have Hb6 := Kb6
    clear Kb6
    have Hb7 := Kb7
    clear Kb7
    have cb40 : Va201.cell? ⟨b4, 0, none⟩ = some (.int .i64 (p1)) := Hb4.out.cell 0
    have cb41 : Va201.cell? ⟨b4, 1, none⟩ = some (.int .i64 (p2)) := Hb4.out.cell 1
    have cb50 : Va201.cell? ⟨b5, 0, none⟩ = some (.int .i64 (q1)) := Hb5.out.cell 0
    have cb51 : Va201.cell? ⟨b5, 1, none⟩ = some (.int .i64 (q2)) := Hb5.out.cell 1
    go_wp2_with fail
    refine (works_any _ HDR.out).mono ?_
    rintro e Va202 ⟨rfl, hb⟩
    have HBZ := Lib.hid (HB.out.trans (hb.mono HB.out.size))
    clear hb
    go_wp2
    go_ret
    exact ⟨rfl, HBZ.out⟩
  by_cases hc3 : 1000000 < p2
  ·
    have HDR := Lib.hid HD
    clear HD
    go_enter Tryd.func13, Tryd.ntmps13
    go_upto_region 1 with (fail)
    obtain ⟨Va301, hV⟩ : ∃ V, (((w.alloc (.cells #[.int .i64 (p1), .int .i64 (p2)] 26)).alloc (.cells #[.int .i64 (q1), .int .i64 (q2)] 26)).alloc (.cells #[.int .u32 (x1), .int .u32 (x2)] 96)).alloc (.cells #[.int .u32 (y1), .int .u32 (y2)] 96) = V := ⟨_, rfl⟩
    have Kb4 : Hid (Blk Va301 (w.heap.size) 26 #[.int .i64 (p1), .int .i64 (p2)]) := by rw [← hV]; exact (((Blk.new' _ _ _ (by simp)).alloc _).alloc _).alloc _
    have Kb5 : Hid (Blk Va301 (w.heap.size + 1) 26 #[.int .i64 (q1), .int .i64 (q2)]) := by rw [← hV]; exact ((Blk.new' _ _ _ (by simp)).alloc _).alloc _
    have Kb6 : Hid (Blk Va301 (w.heap.size + 1 + 1) 96 #[.int .u32 (x1), .int .u32 (x2)]) := by rw [← hV]; exact (Blk.new' _ _ _ (by simp)).alloc _
    have Kb7 : Hid (Blk Va301 (w.heap.size + 1 + 1 + 1) 96 #[.int .u32 (y1), .int .u32 (y2)]) := by rw [← hV]; exact Blk.new' _ _ _ (by simp)
    have GHB : Hid (Below w.heap.size w Va301) := by rw [← hV]; exact (by repeat (first | exact Below.refl _ _ | assumption | refine Below.drew ?_ | refine Below.drewN' ?_ _ | (refine Below.alloc ?_ (by simp <;> omega) _) | (refine Below.setCell ?_ (by simp <;> omega) _)))
    have HZ : Hid (Below w.heap.size w Va301) := GHB
    have GHDR := Lib.hid (HDR.out.later HZ.out)
    rw [hV]
    clear hV HZ HDR
    have HB := GHB
    clear GHB
    have HDR := GHDR
    clear GHDR
    obtain ⟨b7, hqb7⟩ : ∃ b, w.heap.size + 1 + 1 + 1 = b := ⟨_, rfl⟩
    obtain ⟨b6, hqb6⟩ : ∃ b, w.heap.size + 1 + 1 = b := ⟨_, rfl⟩
    obtain ⟨b5, hqb5⟩ : ∃ b, w.heap.size + 1 = b := ⟨_, rfl⟩
    obtain ⟨b4, hqb4⟩ : ∃ b, w.heap.size = b := ⟨_, rfl⟩
    have gb4 : w.heap.size ≤ b4 := by omega
    have gb5 : w.heap.size ≤ b5 := by omega
    have nb5b4 : ¬ b5 = b4 := by omega
    have nb4b5 : ¬ b4 = b5 := by omega
    have gb6 : w.heap.size ≤ b6 := by omega
    have nb6b4 : ¬ b6 = b4 := by omega
    have nb4b6 : ¬ b4 = b6 := by omega
    have nb6b5 : ¬ b6 = b5 := by omega
    have nb5b6 : ¬ b5 = b6 := by omega
    have gb7 : w.heap.size ≤ b7 := by omega
    have nb7b4 : ¬ b7 = b4 := by omega
    have nb4b7 : ¬ b4 = b7 := by omega
    have nb7b5 : ¬ b7 = b5 := by omega
    have nb5b7 : ¬ b5 = b7 := by omega
    have nb7b6 : ¬ b7 = b6 := by omega
    have nb6b7 : ¬ b6 = b7 := by omega
    rw [hqb7] at Kb7 ⊢
    clear hqb7
    rw [hqb6] at Kb6 ⊢
    clear hqb6
    rw [hqb5] at Kb5 ⊢
    clear hqb5
    have HN : Hid (w.heap.size = b4) := hqb4
    rw [hqb4] at Kb4 ⊢
    clear hqb4
    have Hb4 := Kb4
    clear Kb4
    have Hb5 := Kb5
    clear Kb5
    have Hb6 := Kb6
    clear Kb6
    have Hb7 := Kb7
    clear Kb7
    have cb40 : Va301.cell? ⟨b4, 0, none⟩ = some (.int .i64 (p1)) := Hb4.out.cell 0
    have cb41 : Va301.cell? ⟨b4, 1, none⟩ = some (.int .i64 (p2)) := Hb4.out.cell 1
    have cb50 : Va301.cell? ⟨b5, 0, none⟩ = some (.int .i64 (q1)) := Hb5.out.cell 0
    have cb51 : Va301.cell? ⟨b5, 1, none⟩ = some (.int .i64 (q2)) := Hb5.out.cell 1
    go_wp2_with fail
    refine (works_any _ HDR.out).mono ?_
    rintro e Va302 ⟨rfl, hb⟩
    have HBZ := Lib.hid (HB.out.trans (hb.mono HB.out.size))
    clear hb
    go_wp2
    go_ret
    exact ⟨rfl, HBZ.out⟩
  by_cases hc4 : q1 < -1000000
  ·
    have HDR := Lib.hid HD
    clear HD
    go_enter Tryd.func13, Tryd.ntmps13
    go_upto_region 1 with (fail)
    obtain ⟨Va401, hV⟩ : ∃ V, (((w.alloc (.cells #[.int .i64 (p1), .int .i64 (p2)] 26)).alloc (.cells #[.int .i64 (q1), .int .i64 (q2)] 26)).alloc (.cells #[.int .u32 (x1), .int .u32 (x2)] 96)).alloc (.cells #[.int .u32 (y1), .int .u32 (y2)] 96) = V := ⟨_, rfl⟩
    have Kb4 : Hid (Blk Va401 (w.heap.size) 26 #[.int .i64 (p1), .int .i64 (p2)]) := by rw [← hV]; exact (((Blk.new' _ _ _ (by simp)).alloc _).alloc _).alloc _
    have Kb5 : Hid (Blk Va401 (w.heap.size + 1) 26 #[.int .i64 (q1), .int .i64 (q2)]) := by rw [← hV]; exact ((Blk.new' _ _ _ (by simp)).alloc _).alloc _
    have Kb6 : Hid (Blk Va401 (w.heap.size + 1 + 1) 96 #[.int .u32 (x1), .int .u32 (x2)]) := by rw [← hV]; exact (Blk.new' _ _ _ (by simp)).alloc _
    have Kb7 : Hid (Blk Va401 (w.heap.size + 1 + 1 + 1) 96 #[.int .u32 (y1), .int .u32 (y2)]) := by rw [← hV]; exact Blk.new' _ _ _ (by simp)
    have GHB : Hid (Below w.heap.size w Va401) := by rw [← hV]; exact (by repeat (first | exact Below.refl _ _ | assumption | refine Below.drew ?_ | refine Below.drewN' ?_ _ | (refine Below.alloc ?_ (by simp <;> omega) _) | (refine Below.setCell ?_ (by simp <;> omega) _)))
    have HZ : Hid (Below w.heap.size w Va401) := GHB
    have GHDR := Lib.hid (HDR.out.later HZ.out)
    rw [hV]
    clear hV HZ HDR
    have HB := GHB
    clear GHB
    have HDR := GHDR
    clear GHDR
    obtain ⟨b7, hqb7⟩ : ∃ b, w.heap.size + 1 + 1 + 1 = b := ⟨_, rfl⟩
    obtain ⟨b6, hqb6⟩ : ∃ b, w.heap.size + 1 + 1 = b := ⟨_, rfl⟩
    obtain ⟨b5, hqb5⟩ : ∃ b, w.heap.size + 1 = b := ⟨_, rfl⟩
    obtain ⟨b4, hqb4⟩ : ∃ b, w.heap.size = b := ⟨_, rfl⟩
    have gb4 : w.heap.size ≤ b4 := by omega
    have gb5 : w.heap.size ≤ b5 := by omega
    have nb5b4 : ¬ b5 = b4 := by omega
    have nb4b5 : ¬ b4 = b5 := by omega
    have gb6 : w.heap.size ≤ b6 := by omega
    have nb6b4 : ¬ b6 = b4 := by omega
    have nb4b6 : ¬ b4 = b6 := by omega
    have nb6b5 : ¬ b6 = b5 := by omega
    have nb5b6 : ¬ b5 = b6 := by omega
    have gb7 : w.heap.size ≤ b7 := by omega
    have nb7b4 : ¬ b7 = b4 := by omega
    have nb4b7 : ¬ b4 = b7 := by omega
    have nb7b5 : ¬ b7 = b5 := by omega
    have nb5b7 : ¬ b5 = b7 := by omega
    have nb7b6 : ¬ b7 = b6 := by omega
    have nb6b7 : ¬ b6 = b7 := by omega
    rw [hqb7] at Kb7 ⊢
    clear hqb7
    rw [hqb6] at Kb6 ⊢
    clear hqb6
    rw [hqb5] at Kb5 ⊢
    clear hqb5
    have HN : Hid (w.heap.size = b4) := hqb4
    rw [hqb4] at Kb4 ⊢
    clear hqb4
    have Hb4 := Kb4
    clear Kb4
    have Hb5 := Kb5
    clear Kb5
    have Hb6 := Kb6
    clear Kb6
    have Hb7 := Kb7
    clear Kb7
    have cb40 : Va401.cell? ⟨b4, 0, none⟩ = some (.int .i64 (p1)) := Hb4.out.cell 0
    have cb41 : Va401.cell? ⟨b4, 1, none⟩ = some (.int .i64 (p2)) := Hb4.out.cell 1
    have cb50 : Va401.cell? ⟨b5, 0, none⟩ = some (.int .i64 (q1)) := Hb5.out.cell 0
    have cb51 : Va401.cell? ⟨b5, 1, none⟩ = some (.int .i64 (q2)) := Hb5.out.cell 1
    go_wp2_with fail
    refine (works_any _ HDR.out).mono ?_
    rintro e Va402 ⟨rfl, hb⟩
    have HBZ := Lib.hid (HB.out.trans (hb.mono HB.out.size))
    clear hb
    go_wp2
    go_ret
    exact ⟨rfl, HBZ.out⟩
  by_cases hc5 : 1000000 < q2
  ·
    have HDR := Lib.hid HD
    clear HD
    go_enter Tryd.func13, Tryd.ntmps13
    go_upto_region 1 with (fail)
    obtain ⟨Va501, hV⟩ : ∃ V, (((w.alloc (.cells #[.int .i64 (p1), .int .i64 (p2)] 26)).alloc (.cells #[.int .i64 (q1), .int .i64 (q2)] 26)).alloc (.cells #[.int .u32 (x1), .int .u32 (x2)] 96)).alloc (.cells #[.int .u32 (y1), .int .u32 (y2)] 96) = V := ⟨_, rfl⟩
    have Kb4 : Hid (Blk Va501 (w.heap.size) 26 #[.int .i64 (p1), .int .i64 (p2)]) := by rw [← hV]; exact (((Blk.new' _ _ _ (by simp)).alloc _).alloc _).alloc _
    have Kb5 : Hid (Blk Va501 (w.heap.size + 1) 26 #[.int .i64 (q1), .int .i64 (q2)]) := by rw [← hV]; exact ((Blk.new' _ _ _ (by simp)).alloc _).alloc _
    have Kb6 : Hid (Blk Va501 (w.heap.size + 1 + 1) 96 #[.int .u32 (x1), .int .u32 (x2)]) := by rw [← hV]; exact (Blk.new' _ _ _ (by simp)).alloc _
    have Kb7 : Hid (Blk Va501 (w.heap.size + 1 + 1 + 1) 96 #[.int .u32 (y1), .int .u32 (y2)]) := by rw [← hV]; exact Blk.new' _ _ _ (by simp)
    have GHB : Hid (Below w.heap.size w Va501) := by rw [← hV]; exact (by repeat (first | exact Below.refl _ _ | assumption | refine Below.drew ?_ | refine Below.drewN' ?_ _ | (refine Below.alloc ?_ (by simp <;> omega) _) | (refine Below.setCell ?_ (by simp <;> omega) _)))
    have HZ : Hid (Below w.heap.size w Va501) := GHB
    have GHDR := Lib.hid (HDR.out.later HZ.out)
    rw [hV]
    clear hV HZ HDR
    have HB := GHB
    clear GHB
    have HDR := GHDR
    clear GHDR
    obtain ⟨b7, hqb7⟩ : ∃ b, w.heap.size + 1 + 1 + 1 = b := ⟨_, rfl⟩
    obtain ⟨b6, hqb6⟩ : ∃ b, w.heap.size + 1 + 1 = b := ⟨_, rfl⟩
    obtain ⟨b5, hqb5⟩ : ∃ b, w.heap.size + 1 = b := ⟨_, rfl⟩
    obtain ⟨b4, hqb4⟩ : ∃ b, w.heap.size = b := ⟨_, rfl⟩
    have gb4 : w.heap.size ≤ b4 := by omega
    have gb5 : w.heap.size ≤ b5 := by omega
    have nb5b4 : ¬ b5 = b4 := by omega
    have nb4b5 : ¬ b4 = b5 := by omega
    have gb6 : w.heap.size ≤ b6 := by omega
    have nb6b4 : ¬ b6 = b4 := by omega
    have nb4b6 : ¬ b4 = b6 := by omega
    have nb6b5 : ¬ b6 = b5 := by omega
    have nb5b6 : ¬ b5 = b6 := by omega
    have gb7 : w.heap.size ≤ b7 := by omega
    have nb7b4 : ¬ b7 = b4 := by omega
    have nb4b7 : ¬ b4 = b7 := by omega
    have nb7b5 : ¬ b7 = b5 := by omega
    have nb5b7 : ¬ b5 = b7 := by omega
    have nb7b6 : ¬ b7 = b6 := by omega
    have nb6b7 : ¬ b6 = b7 := by omega
    rw [hqb7] at Kb7 ⊢
    clear hqb7
    rw [hqb6] at Kb6 ⊢
    clear hqb6
    rw [hqb5] at Kb5 ⊢
    clear hqb5
    have HN : Hid (w.heap.size = b4) := hqb4
    rw [hqb4] at Kb4 ⊢
    clear hqb4
    have Hb4 := Kb4
    clear Kb4
    have Hb5 := Kb5
    clear Kb5
    have Hb6 := Kb6
    clear Kb6
    have Hb7 := Kb7
    clear Kb7
    have cb40 : Va501.cell? ⟨b4, 0, none⟩ = some (.int .i64 (p1)) := Hb4.out.cell 0
    have cb41 : Va501.cell? ⟨b4, 1, none⟩ = some (.int .i64 (p2)) := Hb4.out.cell 1
    have cb50 : Va501.cell? ⟨b5, 0, none⟩ = some (.int .i64 (q1)) := Hb5.out.cell 0
    have cb51 : Va501.cell? ⟨b5, 1, none⟩ = some (.int .i64 (q2)) := Hb5.out.cell 1
    go_wp2_with fail
    refine (works_any _ HDR.out).mono ?_
    rintro e Va502 ⟨rfl, hb⟩
    have HBZ := Lib.hid (HB.out.trans (hb.mono HB.out.size))
    clear hb
    go_wp2
    go_ret
    exact ⟨rfl, HBZ.out⟩
  have HDR := Lib.hid HD
  clear HD
  have hlx := cut_in (c := (x1, x2)) (s := (p1, p2)) (by simp only; omega) hx1.1 hx2.1
  have hly := cut_in (c := (y1, y2)) (s := (q1, q2)) (by simp only; omega) hy1.1 hy2.1
  obtain ⟨u, hu⟩ : ∃ z, (cutZ (x1, x2) (p1, p2)).1 = z := ⟨_, rfl⟩
  obtain ⟨v, hv⟩ : ∃ z, (cutZ (y1, y2) (q1, q2)).1 = z := ⟨_, rfl⟩
  have hul : Lie (u, u) (p1, p2) := ⟨Int.le_refl _, by have := hlx.2.1; simp only at *; omega, by have := hlx.1; have := hlx.2.2; simp only at *; omega⟩
  have hvl : Lie (v, v) (q1, q2) := ⟨Int.le_refl _, by have := hly.2.1; simp only at *; omega, by have := hly.1; have := hly.2.2; simp only at *; omega⟩
  clear hlx hly
  have hub : -1000000 ≤ u ∧ u ≤ 1000000 := by have := hul.2.1; have := hul.2.2; simp only at *; omega
  have hvb : -1000000 ≤ v ∧ v ≤ 1000000 := by have := hvl.2.1; have := hvl.2.2; simp only at *; omega
  have HU := Lib.hid hu
  have HV := Lib.hid hv
  clear hu hv
  have K : ∀ a b c d : Int, a ≤ b → c ≤ d → -4000000 ≤ a → b ≤ 4000000 → -4000000 ≤ c → d ≤ 4000000 → dirsE (a, b) (c, d) = 0 ∧ dirsV (a, b) (c, d) = ((dirN (a, b) (c, d) : Nat) : Int) := by
    intro a b c d k1 k2 k3 k4 k5 k6
    have e1 : spOk (-4000000) 4000000 (a, b) = true := by simp [spOk]; omega
    have e2 : spOk (-4000000) 4000000 (c, d) = true := by simp [spOk]; omega
    have e3 : dirsE (a, b) (c, d) = 0 := by unfold dirsE; rw [spE_pos e1, spE_pos e2]; rfl
    exact ⟨e3, by unfold dirsV; rw [if_pos e3]⟩
  have K0 := Lib.hid (K p1 p2 q1 q2 (by omega) (by omega) (by omega) (by omega) (by omega) (by omega))
  have K1 := Lib.hid (K u u v v (by omega) (by omega) (by omega) (by omega) (by omega) (by omega))
  have K2 := Lib.hid (K (-u) (-u) (-v) (-v) (by omega) (by omega) (by omega) (by omega) (by omega) (by omega))
  have K3 := Lib.hid (K (-v) (-v) u u (by omega) (by omega) (by omega) (by omega) (by omega) (by omega))
  clear K
  have hin := dir_in hul hvl
  have hps := dir_pos (p := (p1, p2)) (q := (q1, q2)) (by simp only; omega) (by simp only; omega)
  have hpl := dirN_lt (p1, p2) (q1, q2)
  have hal := dirN_lt (u, u) (v, v)
  have HT : Hid (¬ (u = 0 ∧ v = 0) → okN (dirN (u, u) (v, v)) = true ∧ dirN (-u, -u) (-v, -v) = dirN (u, u) (v, v) * 16 % 256 + dirN (u, u) (v, v) / 16 ∧ dirN (-v, -v) (u, u) = dirN (u, u) (v, v) * 4 % 256 + dirN (u, u) (v, v) / 64) := fun h => ⟨vec_one h, vec_turns h⟩
  have HO : Hid (u = 0 → v = 0 → dirN (u, u) (v, v) = 255) := fun h1 h2 => by rw [h1, h2]; exact vec_zero
  clear hul hvl
  obtain ⟨nA, hnA⟩ : ∃ z, dirN (p1, p2) (q1, q2) = z := ⟨_, rfl⟩
  obtain ⟨A, hA⟩ : ∃ z, dirN (u, u) (v, v) = z := ⟨_, rfl⟩
  obtain ⟨B, hB⟩ : ∃ z, dirN (-u, -u) (-v, -v) = z := ⟨_, rfl⟩
  obtain ⟨C, hC⟩ : ∃ z, dirN (-v, -v) (u, u) = z := ⟨_, rfl⟩
  rw [hnA] at K0 hin hps hpl
  rw [hA] at K1 hin hal HT HO
  rw [hB] at K2 HT
  rw [hC] at K3 HT
  clear hnA hA hB hC
  have hand : bits .and .i64 (A : Int) (nA : Int) = (A : Int) := by rw [bits_and_i64 _ _ (by omega) (by omega), hin]
  have hps1 : ¬ (nA : Int) < 1 := by omega
  have hpl1 : ¬ 255 < (nA : Int) := by omega
  have HAL := Lib.hid hal
  have HIN := Lib.hid hin
  clear hin hps hpl hal
  go_enter Tryd.func13, Tryd.ntmps13
  go_upto_region 1 with (fail)
  obtain ⟨Va701, hV⟩ : ∃ V, (((w.alloc (.cells #[.int .i64 (p1), .int .i64 (p2)] 26)).alloc (.cells #[.int .i64 (q1), .int .i64 (q2)] 26)).alloc (.cells #[.int .u32 (x1), .int .u32 (x2)] 96)).alloc (.cells #[.int .u32 (y1), .int .u32 (y2)] 96) = V := ⟨_, rfl⟩
  have Kb4 : Hid (Blk Va701 (w.heap.size) 26 #[.int .i64 (p1), .int .i64 (p2)]) := by rw [← hV]; exact (((Blk.new' _ _ _ (by simp)).alloc _).alloc _).alloc _
  have Kb5 : Hid (Blk Va701 (w.heap.size + 1) 26 #[.int .i64 (q1), .int .i64 (q2)]) := by rw [← hV]; exact ((Blk.new' _ _ _ (by simp)).alloc _).alloc _
  have Kb6 : Hid (Blk Va701 (w.heap.size + 1 + 1) 96 #[.int .u32 (x1), .int .u32 (x2)]) := by rw [← hV]; exact (Blk.new' _ _ _ (by simp)).alloc _
  have Kb7 : Hid (Blk Va701 (w.heap.size + 1 + 1 + 1) 96 #[.int .u32 (y1), .int .u32 (y2)]) := by rw [← hV]; exact Blk.new' _ _ _ (by simp)
  have GHB : Hid (Below w.heap.size w Va701) := by rw [← hV]; exact (by repeat (first | exact Below.refl _ _ | assumption | refine Below.drew ?_ | refine Below.drewN' ?_ _ | (refine Below.alloc ?_ (by simp <;> omega) _) | (refine Below.setCell ?_ (by simp <;> omega) _)))
  have HZ : Hid (Below w.heap.size w Va701) := GHB
  have GHDR := Lib.hid (HDR.out.later HZ.out)
  rw [hV]
  clear hV HZ HDR
  have HB := GHB
  clear GHB
  have HDR := GHDR
  clear GHDR
  obtain ⟨b7, hqb7⟩ : ∃ b, w.heap.size + 1 + 1 + 1 = b := ⟨_, rfl⟩
  obtain ⟨b6, hqb6⟩ : ∃ b, w.heap.size + 1 + 1 = b := ⟨_, rfl⟩
  obtain ⟨b5, hqb5⟩ : ∃ b, w.heap.size + 1 = b := ⟨_, rfl⟩
  obtain ⟨b4, hqb4⟩ : ∃ b, w.heap.size = b := ⟨_, rfl⟩
  have gb4 : w.heap.size ≤ b4 := by omega
  have gb5 : w.heap.size ≤ b5 := by omega
  have nb5b4 : ¬ b5 = b4 := by omega
  have nb4b5 : ¬ b4 = b5 := by omega
  have gb6 : w.heap.size ≤ b6 := by omega
  have nb6b4 : ¬ b6 = b4 := by omega
  have nb4b6 : ¬ b4 = b6 := by omega
  have nb6b5 : ¬ b6 = b5 := by omega
  have nb5b6 : ¬ b5 = b6 := by omega
  have gb7 : w.heap.size ≤ b7 := by omega
  have nb7b4 : ¬ b7 = b4 := by omega
  have nb4b7 : ¬ b4 = b7 := by omega
  have nb7b5 : ¬ b7 = b5 := by omega
  have nb5b7 : ¬ b5 = b7 := by omega
  have nb7b6 : ¬ b7 = b6 := by omega
  have nb6b7 : ¬ b6 = b7 := by omega
  rw [hqb7] at Kb7 ⊢
  clear hqb7
  rw [hqb6] at Kb6 ⊢
  clear hqb6
  rw [hqb5] at Kb5 ⊢
  clear hqb5
  have HN : Hid (w.heap.size = b4) := hqb4
  rw [hqb4] at Kb4 ⊢
  clear hqb4
  have Hb4 := Kb4
  clear Kb4
  have Hb5 := Kb5
  clear Kb5
  have Hb6 := Kb6
  clear Kb6
  have Hb7 := Kb7
  clear Kb7
  have cb40 : Va701.cell? ⟨b4, 0, none⟩ = some (.int .i64 (p1)) := Hb4.out.cell 0
  have cb41 : Va701.cell? ⟨b4, 1, none⟩ = some (.int .i64 (p2)) := Hb4.out.cell 1
  have cb50 : Va701.cell? ⟨b5, 0, none⟩ = some (.int .i64 (q1)) := Hb5.out.cell 0
  have cb51 : Va701.cell? ⟨b5, 1, none⟩ = some (.int .i64 (q2)) := Hb5.out.cell 1
  go_upto_region 3 with (fail)
  clear cb40 cb41 cb50 cb51
  have hfd := fieldP0
  have HSV : Hid (∀ U, Below Va701.heap.size Va701 U → U.cell? ⟨b4, 0, none⟩ = some (.int .i64 (p1)) ∧ U.cell? ⟨b4, 1, none⟩ = some (.int .i64 (p2)) ∧ U.cell? ⟨b5, 0, none⟩ = some (.int .i64 (q1)) ∧ U.cell? ⟨b5, 1, none⟩ = some (.int .i64 (q2)) ∧ U.cell? ⟨b6, 0, none⟩ = some (.int .u32 (x1)) ∧ U.cell? ⟨b6, 1, none⟩ = some (.int .u32 (x2)) ∧ U.cell? ⟨b7, 0, none⟩ = some (.int .u32 (y1)) ∧ U.cell? ⟨b7, 1, none⟩ = some (.int .u32 (y2))) := fun U hU => by
    have kb4 := Hb4.out.below hU Hb4.out.lt
    have kb5 := Hb5.out.below hU Hb5.out.lt
    have kb6 := Hb6.out.below hU Hb6.out.lt
    have kb7 := Hb7.out.below hU Hb7.out.lt
    exact ⟨kb4.cell 0, kb4.cell 1, kb5.cell 0, kb5.cell 1, kb6.cell 0, kb6.cell 1, kb7.cell 0, kb7.cell 1⟩
  have k0 := HSV.out _ (Below.drew (Below.refl Va701.heap.size Va701))
  refine wp_region_noPanic ?_
  refine wp_region_held_drew (S := (fun w' => w'.cell? ⟨b4, 0, none⟩ = some (.int .i64 (p1)) ∧ w'.cell? ⟨b4, 1, none⟩ = some (.int .i64 (p2)) ∧ w'.cell? ⟨b5, 0, none⟩ = some (.int .i64 (q1)) ∧ w'.cell? ⟨b5, 1, none⟩ = some (.int .i64 (q2)) ∧ w'.cell? ⟨b6, 0, none⟩ = some (.int .u32 (x1)) ∧ w'.cell? ⟨b6, 1, none⟩ = some (.int .u32 (x2)) ∧ w'.cell? ⟨b7, 0, none⟩ = some (.int .u32 (y1)) ∧ w'.cell? ⟨b7, 1, none⟩ = some (.int .u32 (y2)))) (by kernel_rfl) ?_ (fun hHeld => ?_)
  · (try dsimp only); (exact k0)
  refine wpAnyH_take (i := 0) (oi := op13_3_0) (v := ?_) rfl (by kernel_rfl) (by kernel_rfl) (by kernel_rfl) (fun _ _ _ h => h) (Or.inl ⟨by rfl, ?_⟩) (by assumption) ?_
  rotate_left
  · ((intro w hSw; delta op13_3_0; (try dsimp only at hSw); go_simp) <;> with_reducible rfl)
  try simp only [op13_3_0, Act.put, List.setIfInBounds_toArray, List.set_cons_zero, List.set_cons_succ]
  refine wpAnyH_take (i := 1) (oi := op13_3_1) (v := ?_) rfl (by kernel_rfl) (by kernel_rfl) (by kernel_rfl) (fun _ _ _ h => h) (Or.inl ⟨by rfl, ?_⟩) (by assumption) ?_
  rotate_left
  · ((intro w hSw; delta op13_3_1; (try dsimp only at hSw); go_simp) <;> with_reducible rfl)
  try simp only [op13_3_1, Act.put, List.setIfInBounds_toArray, List.set_cons_zero, List.set_cons_succ]
  refine wpAnyH_take (i := 4) (oi := op13_3_4) (v := ?_) rfl (by kernel_rfl) (by kernel_rfl) (by kernel_rfl) (fun _ _ _ h => h) (Or.inl ⟨by rfl, ?_⟩) (by assumption) ?_
  rotate_left
  · ((intro w hSw; delta op13_3_4; (try dsimp only at hSw); go_simp) <;> with_reducible rfl)
  try simp only [op13_3_4, Act.put, List.setIfInBounds_toArray, List.set_cons_zero, List.set_cons_succ]
  refine wpAnyH_take (i := 5) (oi := op13_3_5) (v := ?_) rfl (by kernel_rfl) (by kernel_rfl) (by kernel_rfl) (fun _ _ _ h => h) (Or.inl ⟨by rfl, ?_⟩) (by assumption) ?_
  rotate_left
  · ((intro w hSw; delta op13_3_5; (try dsimp only at hSw); go_simp) <;> with_reducible rfl)
  try simp only [op13_3_5, Act.put, List.setIfInBounds_toArray, List.set_cons_zero, List.set_cons_succ]
  obtain ⟨W0, hW0⟩ : ∃ V, Va701.drew = V := ⟨_, rfl⟩; rw [hW0] at hHeld ⊢; have HB0 : Hid (Below Va701.heap.size Va701 W0) := (by rw [← hW0]; exact Below.drew (Below.refl _ _)); clear hW0
  refine wpAnyH_ready (rs := [2]) (by kernel_rfl) (by simp) ?_
  refine AllReadyH.cons (o := op13_3_2) rfl (fun K hK => ?_) AllReadyH.nil
  delta op13_3_2
  go_simp
  (refine (Cut_any x1 x2 p1 p2 _ hx1 hx2 (by omega) (by omega)).mono ?_; rintro e W1 ⟨rfl, hb⟩; have HB1 := Lib.hid (HB0.out.trans (hb.mono HB0.out.size)); clear hb; rw [HU.out])
  refine hK.out _ _ ?_ (fun hHeld => ?_)
  · (try dsimp only); (exact HSV.out _ HB1.out)
  clear hK K
  try simp only [op13_3_2, Act.put, List.setIfInBounds_toArray, List.set_cons_zero, List.set_cons_succ]
  refine wpAnyH_take (i := 3) (oi := op13_3_3) (v := ?_) rfl (by kernel_rfl) (by kernel_rfl) (by kernel_rfl) (fun _ _ _ h => h) (Or.inl ⟨by rfl, ?_⟩) (by assumption) ?_
  rotate_left
  · ((intro w hSw; delta op13_3_3; (try dsimp only at hSw); go_simp) <;> with_reducible rfl)
  try simp only [op13_3_3, Act.put, List.setIfInBounds_toArray, List.set_cons_zero, List.set_cons_succ]
  refine wpAnyH_ready (rs := [6]) (by kernel_rfl) (by simp) ?_
  refine AllReadyH.cons (o := op13_3_6) rfl (fun K hK => ?_) AllReadyH.nil
  delta op13_3_6
  go_simp
  (refine (Cut_any y1 y2 q1 q2 _ hy1 hy2 (by omega) (by omega)).mono ?_; rintro e W2 ⟨rfl, hb⟩; have HB2 := Lib.hid (HB1.out.trans (hb.mono HB1.out.size)); clear hb; rw [HV.out])
  refine hK.out _ _ ?_ (fun hHeld => ?_)
  · (try dsimp only); (exact HSV.out _ HB2.out)
  clear hK K
  try simp only [op13_3_6, Act.put, List.setIfInBounds_toArray, List.set_cons_zero, List.set_cons_succ]
  refine wpAnyH_take (i := 7) (oi := op13_3_7) (v := ?_) rfl (by kernel_rfl) (by kernel_rfl) (by kernel_rfl) (fun _ _ _ h => h) (Or.inl ⟨by rfl, ?_⟩) (by assumption) ?_
  rotate_left
  · ((intro w hSw; delta op13_3_7; (try dsimp only at hSw); go_simp) <;> with_reducible rfl)
  try simp only [op13_3_7, Act.put, List.setIfInBounds_toArray, List.set_cons_zero, List.set_cons_succ]
  refine wpAnyH_take (i := 8) (oi := op13_3_8) (v := ?_) rfl (by kernel_rfl) (by kernel_rfl) (by kernel_rfl) (fun _ _ _ h => h) (Or.inl ⟨by rfl, ?_⟩) (by assumption) ?_
  rotate_left
  · ((intro w hSw; delta op13_3_8; (try dsimp only at hSw); go_simp) <;> with_reducible rfl)
  try simp only [op13_3_8, Act.put, List.setIfInBounds_toArray, List.set_cons_zero, List.set_cons_succ]
  refine wpAnyH_take (i := 9) (oi := op13_3_9) (v := ?_) rfl (by kernel_rfl) (by kernel_rfl) (by kernel_rfl) (fun _ _ _ h => h) (Or.inl ⟨by rfl, ?_⟩) (by assumption) ?_
  rotate_left
  · ((intro w hSw; delta op13_3_9; (try dsimp only at hSw); go_simp) <;> with_reducible rfl)
  try simp only [op13_3_9, Act.put, List.setIfInBounds_toArray, List.set_cons_zero, List.set_cons_succ]
  refine wpAnyH_done (by kernel_rfl) ?_ _
  refine NoPanic.normal ?_
  clear HSV k0
  clear hHeld HB0 HB1
  obtain ⟨Va702, hVU⟩ : ∃ V, W2 = V := ⟨_, rfl⟩
  rw [hVU] at HB2 ⊢
  have HZ := HB2
  clear HB2 hVU
  have Gb4 := Lib.hid (Hb4.out.below HZ.out Hb4.out.lt)
  have Gb5 := Lib.hid (Hb5.out.below HZ.out Hb5.out.lt)
  have Gb6 := Lib.hid (Hb6.out.below HZ.out Hb6.out.lt)
  have Gb7 := Lib.hid (Hb7.out.below HZ.out Hb7.out.lt)
  have GHB := Lib.hid (HB.out.trans (HZ.out.mono HB.out.size))
  have GHDR := Lib.hid (HDR.out.later HZ.out)
  clear Hb4 Hb5 Hb6 Hb7 HB HDR HZ
  have Hb4 := Gb4
  have Hb5 := Gb5
  have Hb6 := Gb6
  have Hb7 := Gb7
  have HB := GHB
  have HDR := GHDR
  clear Gb4 Gb5 Gb6 Gb7 GHB GHDR
  clear hfd
  have cb40 : Va702.cell? ⟨b4, 0, none⟩ = some (.int .i64 (p1)) := Hb4.out.cell 0
  have cb41 : Va702.cell? ⟨b4, 1, none⟩ = some (.int .i64 (p2)) := Hb4.out.cell 1
  have cb50 : Va702.cell? ⟨b5, 0, none⟩ = some (.int .i64 (q1)) := Hb5.out.cell 0
  have cb51 : Va702.cell? ⟨b5, 1, none⟩ = some (.int .i64 (q2)) := Hb5.out.cell 1
  go_wp2_with fail
  refine (Directions_any p1 p2 q1 q2 _).mono ?_
  rintro e Va703 ⟨rfl, hb⟩
  have HZ := Lib.hid hb
  clear hb
  rw [K0.out.1, K0.out.2]
  clear cb40 cb41 cb50 cb51
  have Gb4 := Lib.hid (Hb4.out.below HZ.out Hb4.out.lt)
  have Gb5 := Lib.hid (Hb5.out.below HZ.out Hb5.out.lt)
  have Gb6 := Lib.hid (Hb6.out.below HZ.out Hb6.out.lt)
  have Gb7 := Lib.hid (Hb7.out.below HZ.out Hb7.out.lt)
  have GHB := Lib.hid (HB.out.trans (HZ.out.mono HB.out.size))
  have GHDR := Lib.hid (HDR.out.later HZ.out)
  clear Hb4 Hb5 Hb6 Hb7 HB HDR HZ
  have Hb4 := Gb4
  have Hb5 := Gb5
  have Hb6 := Gb6
  have Hb7 := Gb7
  have HB := GHB
  have HDR := GHDR
  clear Gb4 Gb5 Gb6 Gb7 GHB GHDR
  go_wp2_with fail
  refine (point_any _ _).mono ?_
  rintro e Va704 ⟨rfl, hb⟩
  have HZ := Lib.hid hb
  clear hb
  have Gb4 := Lib.hid (Hb4.out.below HZ.out Hb4.out.lt)
  have Gb5 := Lib.hid (Hb5.out.below HZ.out Hb5.out.lt)
  have Gb6 := Lib.hid (Hb6.out.below HZ.out Hb6.out.lt)
  have Gb7 := Lib.hid (Hb7.out.below HZ.out Hb7.out.lt)
  have GHB := Lib.hid (HB.out.trans (HZ.out.mono HB.out.size))
  have GHDR := Lib.hid (HDR.out.later HZ.out)
  clear Hb4 Hb5 Hb6 Hb7 HB HDR HZ
  have Hb4 := Gb4
  have Hb5 := Gb5
  have Hb6 := Gb6
  have Hb7 := Gb7
  have HB := GHB
  have HDR := GHDR
  clear Gb4 Gb5 Gb6 Gb7 GHB GHDR
  go_wp2_with fail
  refine (point_any _ _).mono ?_
  rintro e Va705 ⟨rfl, hb⟩
  have HZ := Lib.hid hb
  clear hb
  have Gb4 := Lib.hid (Hb4.out.below HZ.out Hb4.out.lt)
  have Gb5 := Lib.hid (Hb5.out.below HZ.out Hb5.out.lt)
  have Gb6 := Lib.hid (Hb6.out.below HZ.out Hb6.out.lt)
  have Gb7 := Lib.hid (Hb7.out.below HZ.out Hb7.out.lt)
  have GHB := Lib.hid (HB.out.trans (HZ.out.mono HB.out.size))
  have GHDR := Lib.hid (HDR.out.later HZ.out)
  clear Hb4 Hb5 Hb6 Hb7 HB HDR HZ
  have Hb4 := Gb4
  have Hb5 := Gb5
  have Hb6 := Gb6
  have Hb7 := Gb7
  have HB := GHB
  have HDR := GHDR
  clear Gb4 Gb5 Gb6 Gb7 GHB GHDR
  go_wp2_with fail
  refine (Directions_any u u v v _).mono ?_
  rintro e Va706 ⟨rfl, hb⟩
  have HZ := Lib.hid hb
  clear hb
  rw [K1.out.1, K1.out.2]
  have Gb4 := Lib.hid (Hb4.out.below HZ.out Hb4.out.lt)
  have Gb5 := Lib.hid (Hb5.out.below HZ.out Hb5.out.lt)
  have Gb6 := Lib.hid (Hb6.out.below HZ.out Hb6.out.lt)
  have Gb7 := Lib.hid (Hb7.out.below HZ.out Hb7.out.lt)
  have GHB := Lib.hid (HB.out.trans (HZ.out.mono HB.out.size))
  have GHDR := Lib.hid (HDR.out.later HZ.out)
  clear Hb4 Hb5 Hb6 Hb7 HB HDR HZ
  have Hb4 := Gb4
  have Hb5 := Gb5
  have Hb6 := Gb6
  have Hb7 := Gb7
  have HB := GHB
  have HDR := GHDR
  clear Gb4 Gb5 Gb6 Gb7 GHB GHDR
  go_wp2_with fail
  refine (point_any _ _).mono ?_
  rintro e Va707 ⟨rfl, hb⟩
  have HZ := Lib.hid hb
  clear hb
  have Gb4 := Lib.hid (Hb4.out.below HZ.out Hb4.out.lt)
  have Gb5 := Lib.hid (Hb5.out.below HZ.out Hb5.out.lt)
  have Gb6 := Lib.hid (Hb6.out.below HZ.out Hb6.out.lt)
  have Gb7 := Lib.hid (Hb7.out.below HZ.out Hb7.out.lt)
  have GHB := Lib.hid (HB.out.trans (HZ.out.mono HB.out.size))
  have GHDR := Lib.hid (HDR.out.later HZ.out)
  clear Hb4 Hb5 Hb6 Hb7 HB HDR HZ
  have Hb4 := Gb4
  have Hb5 := Gb5
  have Hb6 := Gb6
  have Hb7 := Gb7
  have HB := GHB
  have HDR := GHDR
  clear Gb4 Gb5 Gb6 Gb7 GHB GHDR
  go_wp2_with fail
  refine (point_any _ _).mono ?_
  rintro e Va708 ⟨rfl, hb⟩
  have HZ := Lib.hid hb
  clear hb
  have Gb4 := Lib.hid (Hb4.out.below HZ.out Hb4.out.lt)
  have Gb5 := Lib.hid (Hb5.out.below HZ.out Hb5.out.lt)
  have Gb6 := Lib.hid (Hb6.out.below HZ.out Hb6.out.lt)
  have Gb7 := Lib.hid (Hb7.out.below HZ.out Hb7.out.lt)
  have GHB := Lib.hid (HB.out.trans (HZ.out.mono HB.out.size))
  have GHDR := Lib.hid (HDR.out.later HZ.out)
  clear Hb4 Hb5 Hb6 Hb7 HB HDR HZ
  have Hb4 := Gb4
  have Hb5 := Gb5
  have Hb6 := Gb6
  have Hb7 := Gb7
  have HB := GHB
  have HDR := GHDR
  clear Gb4 Gb5 Gb6 Gb7 GHB GHDR
  go_wp2_with fail
  refine (Directions_any (-u) (-u) (-v) (-v) _).mono ?_
  rintro e Va709 ⟨rfl, hb⟩
  have HZ := Lib.hid hb
  clear hb
  rw [K2.out.1, K2.out.2]
  have Gb4 := Lib.hid (Hb4.out.below HZ.out Hb4.out.lt)
  have Gb5 := Lib.hid (Hb5.out.below HZ.out Hb5.out.lt)
  have Gb6 := Lib.hid (Hb6.out.below HZ.out Hb6.out.lt)
  have Gb7 := Lib.hid (Hb7.out.below HZ.out Hb7.out.lt)
  have GHB := Lib.hid (HB.out.trans (HZ.out.mono HB.out.size))
  have GHDR := Lib.hid (HDR.out.later HZ.out)
  clear Hb4 Hb5 Hb6 Hb7 HB HDR HZ
  have Hb4 := Gb4
  have Hb5 := Gb5
  have Hb6 := Gb6
  have Hb7 := Gb7
  have HB := GHB
  have HDR := GHDR
  clear Gb4 Gb5 Gb6 Gb7 GHB GHDR
  go_wp2_with fail
  refine (point_any _ _).mono ?_
  rintro e Va710 ⟨rfl, hb⟩
  have HZ := Lib.hid hb
  clear hb
  have Gb4 := Lib.hid (Hb4.out.below HZ.out Hb4.out.lt)
  have Gb5 := Lib.hid (Hb5.out.below HZ.out Hb5.out.lt)
  have Gb6 := Lib.hid (Hb6.out.below HZ.out Hb6.out.lt)
  have Gb7 := Lib.hid (Hb7.out.below HZ.out Hb7.out.lt)
  have GHB := Lib.hid (HB.out.trans (HZ.out.mono HB.out.size))
  have GHDR := Lib.hid (HDR.out.later HZ.out)
  clear Hb4 Hb5 Hb6 Hb7 HB HDR HZ
  have Hb4 := Gb4
  have Hb5 := Gb5
  have Hb6 := Gb6
  have Hb7 := Gb7
  have HB := GHB
  have HDR := GHDR
  clear Gb4 Gb5 Gb6 Gb7 GHB GHDR
  go_wp2_with fail
  refine (point_any _ _).mono ?_
  rintro e Va711 ⟨rfl, hb⟩
  have HZ := Lib.hid hb
  clear hb
  have Gb4 := Lib.hid (Hb4.out.below HZ.out Hb4.out.lt)
  have Gb5 := Lib.hid (Hb5.out.below HZ.out Hb5.out.lt)
  have Gb6 := Lib.hid (Hb6.out.below HZ.out Hb6.out.lt)
  have Gb7 := Lib.hid (Hb7.out.below HZ.out Hb7.out.lt)
  have GHB := Lib.hid (HB.out.trans (HZ.out.mono HB.out.size))
  have GHDR := Lib.hid (HDR.out.later HZ.out)
  clear Hb4 Hb5 Hb6 Hb7 HB HDR HZ
  have Hb4 := Gb4
  have Hb5 := Gb5
  have Hb6 := Gb6
  have Hb7 := Gb7
  have HB := GHB
  have HDR := GHDR
  clear Gb4 Gb5 Gb6 Gb7 GHB GHDR
  go_wp2_with fail
  refine (Directions_any (-v) (-v) u u _).mono ?_
  rintro e Va712 ⟨rfl, hb⟩
  have HZ := Lib.hid hb
  clear hb
  rw [K3.out.1, K3.out.2]
  have Gb4 := Lib.hid (Hb4.out.below HZ.out Hb4.out.lt)
  have Gb5 := Lib.hid (Hb5.out.below HZ.out Hb5.out.lt)
  have Gb6 := Lib.hid (Hb6.out.below HZ.out Hb6.out.lt)
  have Gb7 := Lib.hid (Hb7.out.below HZ.out Hb7.out.lt)
  have GHB := Lib.hid (HB.out.trans (HZ.out.mono HB.out.size))
  have GHDR := Lib.hid (HDR.out.later HZ.out)
  clear Hb4 Hb5 Hb6 Hb7 HB HDR HZ
  have Hb4 := Gb4
  have Hb5 := Gb5
  have Hb6 := Gb6
  have Hb7 := Gb7
  have HB := GHB
  have HDR := GHDR
  clear Gb4 Gb5 Gb6 Gb7 GHB GHDR
  clear K0 K1 K2 K3 HU HV hub hvb
  go_upto_region 10 with (fail)
  by_cases hz : u = 0 ∧ v = 0
  ·
    obtain ⟨rfl, rfl⟩ := hz
    obtain rfl : A = 255 := HO.out rfl rfl
    clear HO HT
    go_wp2_with fail
    refine (works_any _ HDR.out).mono ?_
    rintro e Va713 ⟨rfl, hb⟩
    have HBZ := Lib.hid (HB.out.trans (hb.mono HB.out.size))
    clear hb
    go_wp2
    go_ret
    exact ⟨rfl, HBZ.out⟩
  obtain ⟨hk, hB, hC⟩ := HT.out hz
  clear HT HO hand hps1 hpl1
  obtain ⟨r4, hr4⟩ : ∃ z, A * 16 % 256 = z := ⟨_, rfl⟩
  obtain ⟨s4, hs4⟩ : ∃ z, A / 16 = z := ⟨_, rfl⟩
  obtain ⟨r2, hr2⟩ : ∃ z, A * 4 % 256 = z := ⟨_, rfl⟩
  obtain ⟨s2, hs2⟩ : ∃ z, A / 64 = z := ⟨_, rfl⟩
  obtain ⟨r1, hr1⟩ : ∃ z, A * 2 % 256 = z := ⟨_, rfl⟩
  obtain ⟨s1, hs1⟩ : ∃ z, A / 128 = z := ⟨_, rfl⟩
  have hA := HAL.out
  have t4 : ((A : Int) * 16).tmod 256 = (r4 : Int) := by rw [Int.tmod_eq_emod_of_nonneg (by omega)]; omega
  have t2 : ((A : Int) * 4).tmod 256 = (r2 : Int) := by rw [Int.tmod_eq_emod_of_nonneg (by omega)]; omega
  have t1 : ((A : Int) * 2).tmod 256 = (r1 : Int) := by rw [Int.tmod_eq_emod_of_nonneg (by omega)]; omega
  have d4 : (A : Int) / 16 = (s4 : Int) := by omega
  have d2 : (A : Int) / 64 = (s2 : Int) := by omega
  have d1 : (A : Int) / 128 = (s1 : Int) := by omega
  have hA2 : (A : Int) < 256 := by omega
  have l4 : (r4 : Int) < 256 ∧ (s4 : Int) < 256 ∧ (r2 : Int) < 256 ∧ (s2 : Int) < 256 ∧ (r1 : Int) < 256 ∧ (s1 : Int) < 256 := by omega
  obtain ⟨l41, l42, l43, l44, l45, l46⟩ := l4
  have hk2 : bitsN A = 1 ∨ bitsN A = 2 ∧ bitsN (A &&& (r1 + s1)) = 1 := by
    have := of_decide_eq_true hk
    rw [hr1, hs1] at this
    exact this
  have hand2 : bits .and .i64 (A : Int) ((r1 : Int) + (s1 : Int)) = ((A &&& (r1 + s1) : Nat) : Int) := by rw [← bits_and_i64 _ _ (by omega) (by omega)]; simp
  have hb2 : A &&& (r1 + s1) < 256 := Nat.lt_of_le_of_lt Nat.and_le_left hA
  rw [hr4, hs4] at hB
  rw [hr2, hs2] at hC
  subst hB hC
  clear hr4 hs4 hr2 hs2 hr1 hs1 hk
  have HK := Lib.hid hk2
  have HAL2 := Lib.hid hb2
  clear hk2 hb2 hA
  obtain ⟨M, hM⟩ : ∃ z, A &&& (r1 + s1) = z := ⟨_, rfl⟩
  rw [hM] at hand2 HK HAL2
  clear hM HIN
  have hzz : (u == 0 && v == 0) = false := by simpa using hz
  by_cases hu0 : u = 0
  ·
    subst hu0
    have hv0 : ¬ v = 0 := fun e => hz ⟨rfl, e⟩
    clear hz hzz
    go_upto_region 14 with (fail)
    go_wp2_with fail
    refine (bits_any A _ HAL.out).mono ?_
    rintro e Va901 ⟨rfl, hb⟩
    have HZ := Lib.hid hb
    clear hb
    have Gb4 := Lib.hid (Hb4.out.below HZ.out Hb4.out.lt)
    have Gb5 := Lib.hid (Hb5.out.below HZ.out Hb5.out.lt)
    have Gb6 := Lib.hid (Hb6.out.below HZ.out Hb6.out.lt)
    have Gb7 := Lib.hid (Hb7.out.below HZ.out Hb7.out.lt)
    have GHB := Lib.hid (HB.out.trans (HZ.out.mono HB.out.size))
    have GHDR := Lib.hid (HDR.out.later HZ.out)
    clear Hb4 Hb5 Hb6 Hb7 HB HDR HZ
    have Hb4 := Gb4
    have Hb5 := Gb5
    have Hb6 := Gb6
    have Hb7 := Gb7
    have HB := GHB
    have HDR := GHDR
    clear Gb4 Gb5 Gb6 Gb7 GHB GHDR
    rcases HK.out with hk1 | ⟨hk1, hk2⟩
    ·
      rw [hk1]
      clear hk1 HK
      go_wp2_with fail
      refine (works_any _ HDR.out).mono ?_
      rintro e Va902 ⟨rfl, hb⟩
      have HBZ := Lib.hid (HB.out.trans (hb.mono HB.out.size))
      clear hb
      go_wp2
      go_ret
      exact ⟨rfl, HBZ.out⟩
    ·
      rw [hk1]
      clear hk1 HK
      go_wp2_with fail
      refine (bits_any M _ HAL2.out).mono ?_
      rintro e Va1102 ⟨rfl, hb⟩
      have HZ := Lib.hid hb
      clear hb
      rw [hk2]
      clear hk2
      have Gb4 := Lib.hid (Hb4.out.below HZ.out Hb4.out.lt)
      have Gb5 := Lib.hid (Hb5.out.below HZ.out Hb5.out.lt)
      have Gb6 := Lib.hid (Hb6.out.below HZ.out Hb6.out.lt)
      have Gb7 := Lib.hid (Hb7.out.below HZ.out Hb7.out.lt)
      have GHB := Lib.hid (HB.out.trans (HZ.out.mono HB.out.size))
      have GHDR := Lib.hid (HDR.out.later HZ.out)
      clear Hb4 Hb5 Hb6 Hb7 HB HDR HZ
      have Hb4 := Gb4
      have Hb5 := Gb5
      have Hb6 := Gb6
      have Hb7 := Gb7
      have HB := GHB
      have HDR := GHDR
      clear Gb4 Gb5 Gb6 Gb7 GHB GHDR
      go_wp2_with fail
      refine (works_any _ HDR.out).mono ?_
      rintro e Va1103 ⟨rfl, hb⟩
      have HBZ := Lib.hid (HB.out.trans (hb.mono HB.out.size))
      clear hb
      go_wp2
      go_ret
      exact ⟨rfl, HBZ.out⟩
  ·
    clear hz hzz
    go_upto_region 14 with (fail)
    go_wp2_with fail
    refine (bits_any A _ HAL.out).mono ?_
    rintro e Va1201 ⟨rfl, hb⟩
    have HZ := Lib.hid hb
    clear hb
    have Gb4 := Lib.hid (Hb4.out.below HZ.out Hb4.out.lt)
    have Gb5 := Lib.hid (Hb5.out.below HZ.out Hb5.out.lt)
    have Gb6 := Lib.hid (Hb6.out.below HZ.out Hb6.out.lt)
    have Gb7 := Lib.hid (Hb7.out.below HZ.out Hb7.out.lt)
    have GHB := Lib.hid (HB.out.trans (HZ.out.mono HB.out.size))
    have GHDR := Lib.hid (HDR.out.later HZ.out)
    clear Hb4 Hb5 Hb6 Hb7 HB HDR HZ
    have Hb4 := Gb4
    have Hb5 := Gb5
    have Hb6 := Gb6
    have Hb7 := Gb7
    have HB := GHB
    have HDR := GHDR
    clear Gb4 Gb5 Gb6 Gb7 GHB GHDR
    rcases HK.out with hk1 | ⟨hk1, hk2⟩
    ·
      rw [hk1]
      clear hk1 HK
      go_wp2_with fail
      refine (works_any _ HDR.out).mono ?_
      rintro e Va1202 ⟨rfl, hb⟩
      have HBZ := Lib.hid (HB.out.trans (hb.mono HB.out.size))
      clear hb
      go_wp2
      go_ret
      exact ⟨rfl, HBZ.out⟩
    ·
      rw [hk1]
      clear hk1 HK
      go_wp2_with fail
      refine (bits_any M _ HAL2.out).mono ?_
      rintro e Va1402 ⟨rfl, hb⟩
      have HZ := Lib.hid hb
      clear hb
      rw [hk2]
      clear hk2
      have Gb4 := Lib.hid (Hb4.out.below HZ.out Hb4.out.lt)
      have Gb5 := Lib.hid (Hb5.out.below HZ.out Hb5.out.lt)
      have Gb6 := Lib.hid (Hb6.out.below HZ.out Hb6.out.lt)
      have Gb7 := Lib.hid (Hb7.out.below HZ.out Hb7.out.lt)
      have GHB := Lib.hid (HB.out.trans (HZ.out.mono HB.out.size))
      have GHDR := Lib.hid (HDR.out.later HZ.out)
      clear Hb4 Hb5 Hb6 Hb7 HB HDR HZ
      have Hb4 := Gb4
      have Hb5 := Gb5
      have Hb6 := Gb6
      have Hb7 := Gb7
      have HB := GHB
      have HDR := GHDR
      clear Gb4 Gb5 Gb6 Gb7 GHB GHDR
      go_wp2_with fail
      refine (works_any _ HDR.out).mono ?_
      rintro e Va1403 ⟨rfl, hb⟩
      have HBZ := Lib.hid (HB.out.trans (hb.mono HB.out.size))
      clear hb
      go_wp2
      go_ret
      exact ⟨rfl, HBZ.out⟩
end Go.Proofs.YtdhcdgfpkjdihaaDoor.Sg
