/-
  Layer 3, the laws: a cut of a span, counted bits.
-/
import Derived.Test.YtdhcdgfpkjdihaaDoorVL3a
set_option linter.unusedSimpArgs false
set_option linter.unusedVariables false
namespace Go.Proofs.YtdhcdgfpkjdihaaDoor.Sg
open Go.RowKit Go.Shelf
def cutZ (c s : Int × Int) : Int × Int := (s.1 + c.1 % (s.2 - s.1 + 1), s.1 + c.1 % (s.2 - s.1 + 1) + c.2 % (s.2 - (s.1 + c.1 % (s.2 - s.1 + 1)) + 1))
theorem cut_in {c s : Int × Int} (hs : s.1 ≤ s.2) (h1 : 0 ≤ c.1) (h2 : 0 ≤ c.2) : Lie (cutZ c s) s := by
 obtain ⟨a, b⟩ := c
 obtain ⟨lo, hi⟩ := s
 unfold cutZ Lie
 simp only at *
 have e1 := Int.emod_nonneg a (show hi - lo + 1 ≠ 0 by omega)
 have e2 := Int.emod_lt_of_pos a (show 0 < hi - lo + 1 by omega)
 obtain ⟨m, hm⟩ : ∃ z, a % (hi - lo + 1) = z := ⟨_, rfl⟩
 rw [hm] at e1 e2 ⊢
 have e3 := Int.emod_nonneg b (show hi - (lo + m) + 1 ≠ 0 by omega)
 have e4 := Int.emod_lt_of_pos b (show 0 < hi - (lo + m) + 1 by omega)
 omega
set_option maxRecDepth 100000 in
set_option maxHeartbeats 2000000 in
theorem Cut_any (c1 c2 lo hi : Int) (w : World) (h1 : 0 ≤ c1 ∧ c1 < 4294967296) (h2 : 0 ≤ c2 ∧ c2 < 4294967296) (hs : lo ≤ hi) (hb : -1000000000000 ≤ lo ∧ hi ≤ 1000000000000) :
 Calls Tryd.prog 49 #[.agg #[.int .u32 (c1), .int .u32 (c2)], .agg #[.int .i64 lo, .int .i64 hi]] w fun e w' => e = .returned (.agg #[.int .i64 ((cutZ (c1, c2) (lo, hi)).1), .int .i64 ((cutZ (c1, c2) (lo, hi)).2)]) ∧ Below w.heap.size w w' := by
 obtain ⟨c1a, c1b⟩ := h1
 obtain ⟨c2a, c2b⟩ := h2
 obtain ⟨hba, hbb⟩ := hb
 have hd1 : ¬ hi - lo + 1 = 0 := by omega
 have wr1 : IntKind.i64.wrap (hi - lo) = hi - lo := IntWalk.i64_in _ (by omega)
 have wr2 : IntKind.i64.wrap (hi - lo + 1) = hi - lo + 1 := IntWalk.i64_in _ (by omega)
 have em : c1.tmod (hi - lo + 1) = c1 % (hi - lo + 1) := Int.tmod_eq_emod_of_nonneg c1a
 have eb := Int.emod_nonneg c1 hd1
 have ec := Int.emod_lt_of_pos c1 (show 0 < hi - lo + 1 by omega)
 have wr5 : IntKind.i64.wrap c1 = c1 := IntWalk.i64_in _ (by omega)
 have wr6 : IntKind.i64.wrap c2 = c2 := IntWalk.i64_in _ (by omega)
 obtain ⟨m1, hm1⟩ : ∃ z, c1 % (hi - lo + 1) = z := ⟨_, rfl⟩
 have HZ1 : Hid ((cutZ (c1, c2) (lo, hi)) = (lo + m1, lo + m1 + c2 % (hi - (lo + m1) + 1))) := by unfold Hid cutZ; simp only [hm1]
 rw [hm1] at em eb ec
 have wr0 : IntKind.i64.wrap m1 = m1 := IntWalk.i64_in _ (by omega)
 have wr3 : IntKind.i64.wrap (lo + m1) = lo + m1 := IntWalk.i64_in _ (by omega)
 rw [HZ1.out]
 clear hm1
 obtain ⟨L, hL⟩ : ∃ z, lo + m1 = z := ⟨_, rfl⟩
 rw [hL] at wr3 ⊢
 have hLa : lo ≤ L ∧ L ≤ hi := by omega
 have ed : ¬ hi - L + 1 = 0 := by omega
 have em2 : c2.tmod (hi - L + 1) = c2 % (hi - L + 1) := Int.tmod_eq_emod_of_nonneg c2a
 have eb2 := Int.emod_nonneg c2 ed
 have ec2 := Int.emod_lt_of_pos c2 (show 0 < hi - L + 1 by omega)
 obtain ⟨m2, hm2⟩ : ∃ z, c2 % (hi - L + 1) = z := ⟨_, rfl⟩
 rw [hm2] at em2 eb2 ec2 ⊢
 have wr4 : IntKind.i64.wrap m2 = m2 := IntWalk.i64_in _ (by omega)
 have HL := Lib.hid hL
 clear hm2 HZ1
 go_enter Tryd.func49, Tryd.ntmps49
 go_upto_region 1 with (fail)
 obtain ⟨Va1, hV⟩ : ∃ V, ((w.alloc (.cells #[.int .u32 (c1), .int .u32 (c2)] 96)).alloc (.cells #[.int .i64 (lo), .int .i64 (hi)] 26)).alloc (.cells #[.int .i64 (0), .int .i64 (0)] 26) = V := ⟨_, rfl⟩
 have Kb2 : Hid (Blk Va1 (w.heap.size) 96 #[.int .u32 (c1), .int .u32 (c2)]) := by rw [← hV]; exact ((Blk.new' _ _ _ (by simp)).alloc _).alloc _
 have Kb3 : Hid (Blk Va1 (w.heap.size + 1) 26 #[.int .i64 (lo), .int .i64 (hi)]) := by rw [← hV]; exact (Blk.new' _ _ _ (by simp)).alloc _
 have Kb4 : Hid (Blk Va1 (w.heap.size + 1 + 1) 26 #[.int .i64 (0), .int .i64 (0)]) := by rw [← hV]; exact Blk.new' _ _ _ (by simp)
 have GHB : Hid (Below w.heap.size w Va1) := by rw [← hV]; exact (by repeat (first | exact Below.refl _ _ | assumption | refine Below.drew ?_ | refine Below.drewN' ?_ _ | (refine Below.alloc ?_ (by simp <;> omega) _) | (refine Below.setCell ?_ (by simp <;> omega) _)))
 have HZ : Hid (Below w.heap.size w Va1) := GHB
 rw [hV]
 clear hV HZ
 have HB := GHB
 clear GHB
 obtain ⟨b4, hqb4⟩ : ∃ b, w.heap.size + 1 + 1 = b := ⟨_, rfl⟩
 obtain ⟨b3, hqb3⟩ : ∃ b, w.heap.size + 1 = b := ⟨_, rfl⟩
 obtain ⟨b2, hqb2⟩ : ∃ b, w.heap.size = b := ⟨_, rfl⟩
 have gb2 : w.heap.size ≤ b2 := by omega
 have gb3 : w.heap.size ≤ b3 := by omega
 have nb3b2 : ¬ b3 = b2 := by omega
 have nb2b3 : ¬ b2 = b3 := by omega
 have gb4 : w.heap.size ≤ b4 := by omega
 have nb4b2 : ¬ b4 = b2 := by omega
 have nb2b4 : ¬ b2 = b4 := by omega
 have nb4b3 : ¬ b4 = b3 := by omega
 have nb3b4 : ¬ b3 = b4 := by omega
 rw [hqb4] at Kb4 ⊢
 clear hqb4
 rw [hqb3] at Kb3 ⊢
 clear hqb3
 have HN : Hid (w.heap.size = b2) := hqb2
 rw [hqb2] at Kb2 ⊢
 clear hqb2
 have Hb2 := Kb2
 clear Kb2
 have Hb3 := Kb3
 clear Kb3
 have Hb4 := Kb4
 clear Kb4
 have cb20 := kcl0 Hb2
 have cb21 := kcl1 Hb2
 have cb30 := kcl0 Hb3
 have cb31 := kcl1 Hb3
 go_quiet (fail)
 clear cb20 cb21 cb30 cb31
 obtain ⟨Va2, hVq⟩ : ∃ V, Va1.drewN nq = V := ⟨_, rfl⟩
 have HZ : Hid (Below Va1.heap.size Va1 Va2) := by rw [← hVq]; exact Below.drewN' (Below.refl _ _) _
 rw [hVq]
 clear hVq
 replace Hb2 := kbl Hb2 HZ
 replace Hb3 := kbl Hb3 HZ
 replace Hb4 := kbl Hb4 HZ
 replace HB := ktr' HB HZ
 clear HZ
 have cb20 := kcl0 Hb2
 have cb21 := kcl1 Hb2
 have cb30 := kcl0 Hb3
 have cb31 := kcl1 Hb3
 have cb40 := kcl0 Hb4
 have cb41 := kcl1 Hb4
 have zb40 : Va2.frozen? ⟨b4, 0, none⟩ = false := Hb4.out.frozen 0
 have zb41 : Va2.frozen? ⟨b4, 1, none⟩ = false := Hb4.out.frozen 1
 try rw [HL.out]
 go_wp2
 have MZ := (Hb4.out.set_ 0 (.int .i64 L)).set_ 1 (.int .i64 (L + m2))
 have rz0 := MZ.cell 0
 have rz1 := MZ.cell 1
 simp only [List.setIfInBounds_toArray, List.set_cons_zero, List.set_cons_succ, List.getElem?_toArray, List.getElem?_cons_zero, List.getElem?_cons_succ] at rz0 rz1
 refine bodyPost_ret (v := .agg #[.int .i64 (L), .int .i64 (L + m2)]) (by simp [results, Tryd.results49, go_sem, rz0, rz1]) rfl ⟨rfl, (HB.out.setCell (p := ⟨b4, 0, none⟩) gb4 _).setCell (p := ⟨b4, 1, none⟩) (by exact gb4) _⟩
def bitT (n : Nat) : Nat → Nat
 | 0 => 0
 | k + 1 => bitT n k + n / 2 ^ k % 2
theorem bitT_le (n k : Nat) : bitT n k ≤ k := by
 induction k with
 | zero => exact Nat.le_refl _
 | succ k ih => have := Nat.mod_lt (n / 2 ^ k) (show 0 < 2 by omega); simp only [bitT]; omega
theorem bitT_all (n : Nat) : bitT n 8 = bitsN n := by simp [bitT, bitsN]
set_option maxHeartbeats 1000000 in
theorem bits_any (n : Nat) (w : World) (hn : n < 256) :
 Calls Tryd.prog 50 #[.int .i64 (n : Int)] w fun e w' => e = .returned (.int .i64 ((bitsN n : Nat) : Int)) ∧ Below w.heap.size w w' := by
 have HA := Lib.hid (bitT_all n)
 have HN := Lib.hid hn
 clear hn
 go_enter Tryd.func50, Tryd.ntmps50
 go_wp2
 go_loopw [3, 4] (fun sv i wr => ∃ k : Nat, k ≤ 8 ∧ i = .int .i64 k ∧ sv = .int .i64 ((bitT n k : Nat) : Int) ∧ Below w.heap.size w wr) (fun _ i _ => 8 - (intOf i).toNat)
 case atStart => exact ⟨0, Nat.zero_le _, rfl, rfl, Below.refl _ _⟩
 case round =>
  obtain ⟨k, hk, rfl, rfl, hBr⟩ := hrel
  by_cases hlt : k < 8
  · have hlt' : (k : Int) < 8 := by omega
    have hle := bitT_le n k
    have hst : bitT n (k + 1) = bitT n k + n / 2 ^ k % 2 := rfl
    have hm := Nat.mod_lt (n / 2 ^ k) (show 0 < 2 by omega)
    obtain ⟨q, hq⟩ : ∃ z, n / 2 ^ k = z := ⟨_, rfl⟩
    have hdv : (n : Int) / 2 ^ k = (q : Int) := by rw [← hq]; simp
    have htm : (q : Int).tmod 2 = ((q % 2 : Nat) : Int) := by rw [Int.tmod_eq_emod_of_nonneg (by omega)]; omega
    rw [hq] at hst hm
    obtain ⟨r, hr⟩ : ∃ z, q % 2 = z := ⟨_, rfl⟩
    rw [hr] at hst hm htm
    obtain ⟨t, ht⟩ : ∃ z, bitT n k = z := ⟨_, rfl⟩
    rw [ht] at hst hle ⊢
    have hw1 : IntKind.i64.wrap (q : Int) = q := IntWalk.i64_in _ (by rw [← hq]; have := Nat.div_le_self n (2 ^ k); have := HN.out; omega)
    have HS := Lib.hid hst
    clear hst hq hr ht
    go_wp2
    go_roundw
    case rel => exact ⟨k + 1, by omega, by go_num, by rw [HS.out]; go_num, (by repeat (first | exact Below.refl _ _ | assumption | refine Below.drew ?_ | refine Below.drewN' ?_ _ | (refine Below.alloc ?_ (by simp <;> omega) _) | (refine Below.setCell ?_ (by simp <;> omega) _)))⟩
    case measure => simp [intOf]; omega
  · have hk8 : k = 8 := by omega
    subst hk8
    rw [HA.out]
    clear hlt
    go_wp2
    go_ret
    exact ⟨rfl, (by repeat (first | exact Below.refl _ _ | assumption | refine Below.drew ?_ | refine Below.drewN' ?_ _ | (refine Below.alloc ?_ (by simp <;> omega) _) | (refine Below.setCell ?_ (by simp <;> omega) _)))⟩
end Go.Proofs.YtdhcdgfpkjdihaaDoor.Sg
