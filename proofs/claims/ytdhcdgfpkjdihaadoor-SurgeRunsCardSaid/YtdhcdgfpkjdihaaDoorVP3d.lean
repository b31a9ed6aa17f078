/-
  Layer 3, the program: what is sea, the parts of a rise, roots, distances.
-/
import Derived.Test.YtdhcdgfpkjdihaaDoorVP3c
set_option linter.unusedSimpArgs false
set_option linter.unusedVariables false
namespace Go.Proofs.YtdhcdgfpkjdihaaDoor.Sg
open Go.RowKit
def Z1n : Oper := ⟨some 5, .load 108 (.tmp 2), 108, "storm.go:35", #[], none⟩
def Z1o : Oper := ⟨some 6, .call { callee := Callee.value (.func 122), args := #[.tmp 5], argTypes := #[108] }, 3, "storm.go:36", #[⟨0, .data⟩], none⟩
def Z1p : Oper := ⟨some 7, .load 108 (.tmp 2), 108, "storm.go:35", #[], none⟩
def Z1q : Oper := ⟨some 8, .call { callee := Callee.value (.func 122), args := #[.tmp 7], argTypes := #[108] }, 3, "storm.go:36", #[⟨2, .data⟩, ⟨1, .chain⟩], none⟩
def Z1r : Oper := ⟨some 9, .binOp BinOp.mul 3 (.tmp 6) (.tmp 8) 3, 3, "storm.go:35", #[⟨1, .data⟩, ⟨3, .data⟩], none⟩
def Z1s : Oper := ⟨some 10, .load 108 (.tmp 3), 108, "storm.go:35", #[], none⟩
def Z1t : Oper := ⟨some 11, .call { callee := Callee.value (.func 122), args := #[.tmp 10], argTypes := #[108] }, 3, "storm.go:36", #[⟨5, .data⟩, ⟨3, .chain⟩], none⟩
def Z1u : Oper := ⟨some 12, .load 108 (.tmp 3), 108, "storm.go:35", #[], none⟩
def Z1v : Oper := ⟨some 13, .call { callee := Callee.value (.func 122), args := #[.tmp 12], argTypes := #[108] }, 3, "storm.go:36", #[⟨7, .data⟩, ⟨6, .chain⟩], none⟩
def Z1w : Oper := ⟨some 14, .binOp BinOp.mul 3 (.tmp 11) (.tmp 13) 3, 3, "storm.go:35", #[⟨6, .data⟩, ⟨8, .data⟩], none⟩
def Z1x : Oper := ⟨some 15, .binOp BinOp.add 3 (.tmp 9) (.tmp 14) 3, 3, "storm.go:35", #[⟨4, .data⟩, ⟨9, .data⟩], none⟩
def Z1y : Oper := ⟨some 16, .call { callee := Callee.value (.func 121), args := #[.tmp 15], argTypes := #[3] }, 3, "storm.go:36", #[⟨10, .data⟩, ⟨8, .chain⟩], none⟩
def Z1z : Oper := ⟨some 17, .load 108 (.tmp 2), 108, "storm.go:35", #[], none⟩
def Z20 : Oper := ⟨some 18, .call { callee := Callee.value (.func 124), args := #[.tmp 17], argTypes := #[108] }, 3, "storm.go:37", #[⟨12, .data⟩, ⟨11, .chain⟩], none⟩
def Z21 : Oper := ⟨some 19, .load 108 (.tmp 2), 108, "storm.go:35", #[], none⟩
def Z22 : Oper := ⟨some 20, .call { callee := Callee.value (.func 124), args := #[.tmp 19], argTypes := #[108] }, 3, "storm.go:37", #[⟨14, .data⟩, ⟨13, .chain⟩], none⟩
def Z23 : Oper := ⟨some 21, .binOp BinOp.mul 3 (.tmp 18) (.tmp 20) 3, 3, "storm.go:35", #[⟨13, .data⟩, ⟨15, .data⟩], none⟩
def Z24 : Oper := ⟨some 22, .load 108 (.tmp 3), 108, "storm.go:35", #[], none⟩
def Z25 : Oper := ⟨some 23, .call { callee := Callee.value (.func 124), args := #[.tmp 22], argTypes := #[108] }, 3, "storm.go:37", #[⟨17, .data⟩, ⟨15, .chain⟩], none⟩
def Z26 : Oper := ⟨some 24, .load 108 (.tmp 3), 108, "storm.go:35", #[], none⟩
def Z27 : Oper := ⟨some 25, .call { callee := Callee.value (.func 124), args := #[.tmp 24], argTypes := #[108] }, 3, "storm.go:37", #[⟨19, .data⟩, ⟨18, .chain⟩], none⟩
def Z28 : Oper := ⟨some 26, .binOp BinOp.mul 3 (.tmp 23) (.tmp 25) 3, 3, "storm.go:35", #[⟨18, .data⟩, ⟨20, .data⟩], none⟩
def Z29 : Oper := ⟨some 27, .binOp BinOp.add 3 (.tmp 21) (.tmp 26) 3, 3, "storm.go:35", #[⟨16, .data⟩, ⟨21, .data⟩], none⟩
def Z2a : Oper := ⟨some 28, .call { callee := Callee.value (.func 123), args := #[.tmp 27], argTypes := #[3] }, 3, "storm.go:37", #[⟨22, .data⟩, ⟨20, .chain⟩], none⟩
def Z2b : Oper := ⟨some 29, .build 26 #[(0, .tmp 16), (1, .tmp 28)], 26, "storm.go:35", #[⟨11, .data⟩, ⟨23, .data⟩], none⟩
def Z2c : Oper := ⟨some 30, .build 108 #[(0, .tmp 29)], 108, "storm.go:35", #[⟨24, .data⟩], none⟩
def Z2d : Oper := ⟨none, .store 108 (.tmp 4) (.tmp 30), 0, "storm.go:35", #[⟨25, .data⟩, ⟨23, .chain⟩, ⟨0, .phase⟩, ⟨1, .phase⟩, ⟨2, .phase⟩, ⟨3, .phase⟩, ⟨4, .phase⟩, ⟨5, .phase⟩, ⟨6, .phase⟩, ⟨7, .phase⟩, ⟨8, .phase⟩, ⟨9, .phase⟩, ⟨10, .phase⟩, ⟨11, .phase⟩, ⟨12, .phase⟩, ⟨13, .phase⟩, ⟨14, .phase⟩, ⟨15, .phase⟩, ⟨16, .phase⟩, ⟨17, .phase⟩, ⟨18, .phase⟩, ⟨19, .phase⟩, ⟨20, .phase⟩, ⟨21, .phase⟩, ⟨22, .phase⟩, ⟨23, .phase⟩, ⟨24, .phase⟩, ⟨25, .phase⟩], none⟩
theorem sureC_any (a b : Int) (w : World) :
 Calls Tryd.prog 60 #[.agg #[.int .i64 a, .int .i64 b]] w fun e w' => e = .returned (.bool (decide (1 ≤ a))) ∧ Below w.heap.size w w' := by
 go_enter Tryd.func60, Tryd.ntmps60
 go_wp2
 go_ret
 exact ⟨by simp, (by repeat (first | exact Below.refl _ _ | assumption | refine Below.drew ?_ | refine Below.drewN' ?_ _ | (refine Below.alloc ?_ (by simp <;> omega) _) | (refine Below.setCell ?_ (by simp <;> omega) _)))⟩
theorem mayC_any (a b : Int) (w : World) :
 Calls Tryd.prog 61 #[.agg #[.int .i64 a, .int .i64 b]] w fun e w' => e = .returned (.bool (decide (1 ≤ b))) ∧ Below w.heap.size w w' := by
 go_enter Tryd.func61, Tryd.ntmps61
 go_wp2
 go_ret
 exact ⟨by simp, (by repeat (first | exact Below.refl _ _ | assumption | refine Below.drew ?_ | refine Below.drewN' ?_ _ | (refine Below.alloc ?_ (by simp <;> omega) _) | (refine Below.setCell ?_ (by simp <;> omega) _)))⟩
set_option maxRecDepth 100000 in
set_option maxHeartbeats 1000000 in
theorem rise1_any (a b N : Int) (bp : Nat) (w : World) (hp : Blk w bp 3 #[.int .i64 N]) (hb1 : 1 ≤ b ∧ b ≤ 2000000) (hN : 0 ≤ N ∧ N ≤ 2000000000000000000) :
 Calls Tryd.prog 133 #[.agg #[.int .i64 a, .int .i64 b], .pointer (some ⟨bp, 0, none⟩)] w fun e w' => e = .returned (.int .i64 (N / (3832031250 * b))) ∧ Below w.heap.size w w' := by
 have HP := Lib.hid hp
 clear hp
 have x0 := HP.out.cell 0
 simp only [List.getElem?_toArray, List.getElem?_cons_zero] at x0
 have hlt := HP.out.lt
 have e1 : IntKind.i64.wrap (3832031250 * b) = 3832031250 * b := IntWalk.i64_in _ (by omega)
 obtain ⟨P, hP⟩ : ∃ q, N / (3832031250 * b) = q := ⟨_, rfl⟩
 rw [hP]
 have HQ := Lib.hid hP
 clear hP
 go_enter Tryd.func133, Tryd.ntmps133
 go_upto_region 1 with (fail)
 obtain ⟨Va1, hV⟩ : ∃ V, w.alloc (.cells #[.int .i64 (a), .int .i64 (b)] 108) = V := ⟨_, rfl⟩
 have Kb2 : Hid (Blk Va1 (w.heap.size) 108 #[.int .i64 (a), .int .i64 (b)]) := by rw [← hV]; exact Blk.new' _ _ _ (by simp)
 have GHB : Hid (Below w.heap.size w Va1) := by rw [← hV]; exact (by repeat (first | exact Below.refl _ _ | assumption | refine Below.drew ?_ | refine Below.drewN' ?_ _ | (refine Below.alloc ?_ (by simp <;> omega) _) | (refine Below.setCell ?_ (by simp <;> omega) _)))
 have HZ : Hid (Below w.heap.size w Va1) := GHB
 rw [hV]
 clear hV HZ
 have HB := GHB
 clear GHB
 obtain ⟨b2, hqb2⟩ : ∃ b, w.heap.size = b := ⟨_, rfl⟩
 have gb2 : w.heap.size ≤ b2 := by omega
 have HN : Hid (w.heap.size = b2) := hqb2
 rw [hqb2] at Kb2 ⊢
 clear hqb2
 have Hb2 := Kb2
 clear Kb2
 have x1 : Va1.cell? ⟨bp, 0, none⟩ = some (.int .i64 N) := (HB.out.cell (p := ⟨bp, 0, none⟩) hlt).trans x0
 clear x0 HP
 have cb20 := kcl0 Hb2
 have cb21 := kcl1 Hb2
 go_wp2_with fail
 refine (down_any N (3832031250 * b) _ (by omega) (by omega) (by omega)).mono ?_
 rintro e Va2 ⟨rfl, hw⟩
 obtain rfl := hw
 rw [HQ.out]
 clear cb20 cb21
 go_wp2
 go_ret
 exact ⟨rfl, HB.out⟩
set_option maxRecDepth 100000 in
set_option maxHeartbeats 1000000 in
theorem rise2_any (a b N : Int) (bp : Nat) (w : World) (hp : Blk w bp 3 #[.int .i64 N]) (hb1 : a ≤ 2000000) (hN : 0 ≤ N ∧ N ≤ 2000000000000000000) :
 Calls Tryd.prog 134 #[.agg #[.int .i64 a, .int .i64 b], .pointer (some ⟨bp, 0, none⟩)] w fun e w' => e = .returned (.int .i64 (upQ N (3832031250 * max a 1))) ∧ Below w.heap.size w w' := by
 have HP := Lib.hid hp
 clear hp
 have x0 := HP.out.cell 0
 simp only [List.getElem?_toArray, List.getElem?_cons_zero] at x0
 have hlt := HP.out.lt
 have e0 : max a 1 = if a < 1 then 1 else a := by split <;> omega
 obtain ⟨M, hM⟩ : ∃ q, (if a < 1 then 1 else a) = q := ⟨_, rfl⟩
 rw [e0, hM]
 have hM1 : 1 ≤ M ∧ M ≤ 2000000 := by rw [← hM]; split <;> omega
 have e1 : IntKind.i64.wrap (3832031250 * M) = 3832031250 * M := IntWalk.i64_in _ (by omega)
 obtain ⟨P, hP⟩ : ∃ q, upQ N (3832031250 * M) = q := ⟨_, rfl⟩
 rw [hP]
 have HQ := Lib.hid hP
 clear hP e0
 go_enter Tryd.func134, Tryd.ntmps134
 go_upto_region 1 with (fail)
 obtain ⟨Va1, hV⟩ : ∃ V, w.alloc (.cells #[.int .i64 (a), .int .i64 (b)] 108) = V := ⟨_, rfl⟩
 have Kb2 : Hid (Blk Va1 (w.heap.size) 108 #[.int .i64 (a), .int .i64 (b)]) := by rw [← hV]; exact Blk.new' _ _ _ (by simp)
 have GHB : Hid (Below w.heap.size w Va1) := by rw [← hV]; exact (by repeat (first | exact Below.refl _ _ | assumption | refine Below.drew ?_ | refine Below.drewN' ?_ _ | (refine Below.alloc ?_ (by simp <;> omega) _) | (refine Below.setCell ?_ (by simp <;> omega) _)))
 have HZ : Hid (Below w.heap.size w Va1) := GHB
 rw [hV]
 clear hV HZ
 have HB := GHB
 clear GHB
 obtain ⟨b2, hqb2⟩ : ∃ b, w.heap.size = b := ⟨_, rfl⟩
 have gb2 : w.heap.size ≤ b2 := by omega
 have HN : Hid (w.heap.size = b2) := hqb2
 rw [hqb2] at Kb2 ⊢
 clear hqb2
 have Hb2 := Kb2
 clear Kb2
 have x1 : Va1.cell? ⟨bp, 0, none⟩ = some (.int .i64 N) := (HB.out.cell (p := ⟨bp, 0, none⟩) hlt).trans x0
 clear x0 HP
 have cb20 := kcl0 Hb2
 have cb21 := kcl1 Hb2
 go_wp2_with fail
 refine (up_any N (3832031250 * M) _ (by omega) (by omega) (by omega)).mono ?_
 rintro e Va2 ⟨rfl, hw⟩
 obtain rfl := hw
 rw [HQ.out]
 clear cb20 cb21
 go_wp2
 go_ret
 exact ⟨rfl, HB.out⟩
theorem newton {n r : Int} (hn : 0 ≤ n) (hr : 0 < r) (h : rtZ n ≤ r) : rtZ n ≤ (r + n / r) / 2 ∧ (n / r < r → (r + n / r) / 2 < r) := by
 have hs := rt_spec hn
 refine ⟨?_, fun h => by omega⟩
 have q := dn_rng (a := n) hr
 -- (r + n / r) >= 2 s, for (r - s)^2 >= 0
 have k : 2 * rtZ n ≤ r + n / r := by
  rcases Int.lt_or_le (r + n / r) (2 * rtZ n) with g | g
  · have h1 : n / r ≤ 2 * rtZ n - r - 1 := by omega
    have h2 := Int.mul_le_mul_of_nonneg_right h1 (show 0 ≤ r by omega)
    have h3 := Int.mul_nonneg (show 0 ≤ r - rtZ n by omega) (show 0 ≤ r - rtZ n by omega)
    have e1 : (r - rtZ n) * (r - rtZ n) = r * r - 2 * (rtZ n * r) + rtZ n * rtZ n := by grind
    have e2 : (2 * rtZ n - r - 1) * r = 2 * (rtZ n * r) - r * r - r := by grind
    omega
  · exact g
 omega
theorem root_stop {n r : Int} (hn : 0 ≤ n) (h : rtZ n ≤ r) (hs : r = 0 ∨ (0 < r ∧ r ≤ n / r)) : r = rtZ n := by
 have k := rt_spec hn
 rcases hs with h0 | ⟨h0, h1⟩
 · omega
 · have q := dn_rng (a := n) h0
   have h2 := Int.mul_le_mul_of_nonneg_right h1 (show 0 ≤ r by omega)
   have := sq_lt (a := r) (b := rtZ n + 1) (by omega) (by omega) (by omega)
   omega
set_option maxRecDepth 100000 in
set_option maxHeartbeats 1000000 in
theorem rootDown_any (n : Int) (w : World) (hn : 0 ≤ n ∧ n ≤ 1000000000000000000) :
 Calls Tryd.prog 121 #[.int .i64 n] w fun e w' => e = .returned (.int .i64 (rtZ n)) ∧ w = w' := by
 have hs := rt_spec hn.1
 have hle : rtZ n ≤ n := by
  rcases Int.lt_or_le n (rtZ n) with g | g
  · have := Int.mul_le_mul (show n + 1 ≤ rtZ n by omega) (show n + 1 ≤ rtZ n by omega) (by omega) (by omega)
    have e : (n + 1) * (n + 1) = n * n + 2 * n + 1 := by grind
    have := Int.mul_nonneg hn.1 hn.1
    omega
  · exact g
 obtain ⟨q, hq⟩ : ∃ q, rtZ n = q := ⟨_, rfl⟩
 have HQ := Lib.hid hq
 rw [hq] at hle hs ⊢
 clear hq
 go_enter Tryd.func121, Tryd.ntmps121
 go_wp2
 go_loopw [3] (fun i wr => ∃ r : Int, i = .int .i64 r ∧ q ≤ r ∧ r ≤ n ∧ wr = w) (fun i _ => (intOf i).toNat)
 case atStart => exact ⟨n, rfl, hle, Int.le_refl _, rfl⟩
 case round =>
  obtain ⟨r, rfl, h1, h2, rfl⟩ := hrel
  by_cases h0 : 0 < r
  · have hne : ¬ r = 0 := by omega
    have hne1 : ¬ r = -1 := by omega
    have e1 : n.tdiv r = n / r := Int.tdiv_eq_ediv_of_nonneg hn.1
    have hd := Int.ediv_nonneg hn.1 (show 0 ≤ r by omega)
    have hd2 : n / r ≤ n := Int.ediv_le_self _ hn.1
    by_cases hg : n / r < r
    · obtain ⟨k1, k2⟩ := newton (n := n) (r := r) hn.1 h0 (by rw [HQ.out]; exact h1)
      rw [HQ.out] at k1
      have k3 := k2 hg
      have e2 : (r + n / r).tdiv 2 = (r + n / r) / 2 := Int.tdiv_eq_ediv_of_nonneg (by omega)
      clear k2 HQ
      go_wp2
      go_roundw
      case rel => exact ⟨(r + n / r) / 2, by first | rfl | go_num, k1, by omega, by first | rfl | exact True.intro⟩
      case measure => simp [intOf]; omega
    · have h3 : r ≤ n / r := by omega
      have hr := root_stop hn.1 (by rw [HQ.out]; exact h1) (Or.inr ⟨h0, h3⟩)
      rw [HQ.out] at hr
      have Hr := Lib.hid hr
      clear hr HQ
      go_wp2
      go_ret
      exact ⟨by rw [Hr.out]; rfl, rfl⟩
  · have hr := root_stop hn.1 (by rw [HQ.out]; exact h1) (Or.inl (by omega))
    rw [HQ.out] at hr
    have Hr := Lib.hid hr
    clear hr HQ
    go_wp2
    go_ret
    exact ⟨by rw [Hr.out]; rfl, rfl⟩
set_option maxRecDepth 100000 in
theorem rootUp_any (n : Int) (w : World) (hn : 0 ≤ n ∧ n ≤ 1000000000000000000) :
 Calls Tryd.prog 123 #[.int .i64 n] w fun e w' => e = .returned (.int .i64 (ruZ n)) ∧ w = w' := by
 have hs := rt_spec hn.1
 have hb : rtZ n ≤ 1000000000 := (rt_le hn.1 (by omega) (by omega)).1
 have hsq : rtZ n * rtZ n ≤ 1000000000000000000 := by omega
 have hsq0 := Int.mul_nonneg hs.1 hs.1
 have e1 : IntKind.i64.wrap (rtZ n * rtZ n) = rtZ n * rtZ n := IntWalk.i64_in _ (by omega)
 by_cases h : rtZ n * rtZ n < n
 · have e : ruZ n = rtZ n + 1 := if_pos h
   rw [e]
   obtain ⟨r, hr⟩ : ∃ r, rtZ n = r := ⟨_, rfl⟩
   have HR := Lib.hid hr
   rw [hr] at h e1 hs hb hsq hsq0 ⊢
   clear e hr
   go_enter Tryd.func123, Tryd.ntmps123
   go_wp2_with fail
   refine (rootDown_any n w hn).mono ?_
   rintro e w1 ⟨rfl, rfl⟩
   rw [HR.out]
   go_wp2
   go_ret
   exact ⟨rfl, rfl⟩
 · have e : ruZ n = rtZ n := if_neg h
   rw [e]
   obtain ⟨r, hr⟩ : ∃ r, rtZ n = r := ⟨_, rfl⟩
   have HR := Lib.hid hr
   rw [hr] at h e1 hs hb hsq hsq0 ⊢
   clear e hr
   go_enter Tryd.func123, Tryd.ntmps123
   go_wp2_with fail
   refine (rootDown_any n w hn).mono ?_
   rintro e w1 ⟨rfl, rfl⟩
   rw [HR.out]
   go_wp2
   go_ret
   exact ⟨rfl, rfl⟩
def farB (u : Int × Int) : Prop := u.1 ≤ u.2 ∧ -100000000 ≤ u.1 ∧ u.2 ≤ 100000000
theorem far_sq {u : Int × Int} (h : farB u) : (0 ≤ nearZ u ∧ nearZ u ≤ 100000000 ∧ 0 ≤ farZ u ∧ farZ u ≤ 100000000) ∧ (0 ≤ nearZ u * nearZ u ∧ nearZ u * nearZ u ≤ 10000000000000000) ∧ (0 ≤ farZ u * farZ u ∧ farZ u * farZ u ≤ 10000000000000000) := by
 have k := near_in (Lie.self h.1)
 have h1 := h.2.1
 have h2 := h.2.2
 have h3 : farZ u ≤ 100000000 := by unfold farZ; omega
 refine ⟨by omega, ⟨Int.mul_nonneg k.1 k.1, ?_⟩, ⟨Int.mul_nonneg (by omega) (by omega), ?_⟩⟩
 · exact Int.mul_le_mul (show nearZ u ≤ 100000000 by omega) (show nearZ u ≤ 100000000 by omega) k.1 (by omega)
 · exact Int.mul_le_mul h3 h3 (by omega) (by omega)
set_option maxRecDepth 100000 in
set_option maxHeartbeats 4000000 in
theorem distances_any (u1 u2 v1 v2 : Int) (w : World) (hu : farB (u1, u2)) (hv : farB (v1, v2)) :
 Calls Tryd.prog 93 #[.agg #[.int .i64 u1, .int .i64 u2], .agg #[.int .i64 v1, .int .i64 v2]] w fun e w' => e = .returned (.agg #[.int .i64 (distZ (u1, u2) (v1, v2)).1, .int .i64 (distZ (u1, u2) (v1, v2)).2]) ∧ Below w.heap.size w w' := by
 obtain ⟨k1, k2, k3⟩ := far_sq hu
 obtain ⟨j1, j2, j3⟩ := far_sq hv
 have hu1 := hu.2.1
 have hu2 := hu.2.2
 have hu3 := hu.1
 have hv1 := hv.2.1
 have hv2 := hv.2.2
 have hv3 := hv.1
 simp only at hu1 hu2 hu3 hv1 hv2 hv3
 clear hu hv
 unfold distZ
 obtain ⟨nu, hnu⟩ : ∃ q, nearZ (u1, u2) = q := ⟨_, rfl⟩
 obtain ⟨nv, hnv⟩ : ∃ q, nearZ (v1, v2) = q := ⟨_, rfl⟩
 obtain ⟨fu, hfu⟩ : ∃ q, farZ (u1, u2) = q := ⟨_, rfl⟩
 obtain ⟨fv, hfv⟩ : ∃ q, farZ (v1, v2) = q := ⟨_, rfl⟩
 rw [hnu, hfu] at k1
 rw [hnu] at k2
 rw [hfu] at k3
 rw [hnv, hfv] at j1
 rw [hnv] at j2
 rw [hfv] at j3
 rw [hnu, hnv, hfu, hfv]
 have HNU := Lib.hid hnu
 have HNV := Lib.hid hnv
 have HFU := Lib.hid hfu
 have HFV := Lib.hid hfv
 clear hnu hnv hfu hfv
 have wr0 : IntKind.i64.wrap (nu * nu) = nu * nu := IntWalk.i64_in _ (by omega)
 have wr1 : IntKind.i64.wrap (nv * nv) = nv * nv := IntWalk.i64_in _ (by omega)
 have wr2 : IntKind.i64.wrap (fu * fu) = fu * fu := IntWalk.i64_in _ (by omega)
 have wr3 : IntKind.i64.wrap (fv * fv) = fv * fv := IntWalk.i64_in _ (by omega)
 have wr4 : IntKind.i64.wrap (nu * nu + nv * nv) = nu * nu + nv * nv := IntWalk.i64_in _ (by omega)
 have wr5 : IntKind.i64.wrap (fu * fu + fv * fv) = fu * fu + fv * fv := IntWalk.i64_in _ (by omega)
 obtain ⟨P, hP⟩ : ∃ x, rtZ (nu * nu + nv * nv) = x := ⟨_, rfl⟩
 obtain ⟨Q, hQ⟩ : ∃ x, ruZ (fu * fu + fv * fv) = x := ⟨_, rfl⟩
 rw [hP, hQ]
 have HP := Lib.hid hP
 have HQ := Lib.hid hQ
 clear hP hQ
 go_enter Tryd.func93, Tryd.ntmps93
 go_upto_region 1 with (fail)
 obtain ⟨Va1, hV⟩ : ∃ V, ((w.alloc (.cells #[.int .i64 (u1), .int .i64 (u2)] 108)).alloc (.cells #[.int .i64 (v1), .int .i64 (v2)] 108)).alloc (.cells #[.int .i64 (0), .int .i64 (0)] 108) = V := ⟨_, rfl⟩
 have Kb1 : Hid (Blk Va1 (w.heap.size) 108 #[.int .i64 (u1), .int .i64 (u2)]) := by rw [← hV]; exact ((Blk.new' _ _ _ (by simp)).alloc _).alloc _
 have Kb2 : Hid (Blk Va1 (w.heap.size + 1) 108 #[.int .i64 (v1), .int .i64 (v2)]) := by rw [← hV]; exact (Blk.new' _ _ _ (by simp)).alloc _
 have Kb3 : Hid (Blk Va1 (w.heap.size + 1 + 1) 108 #[.int .i64 (0), .int .i64 (0)]) := by rw [← hV]; exact Blk.new' _ _ _ (by simp)
 have GHB : Hid (Below w.heap.size w Va1) := by rw [← hV]; exact (by repeat (first | exact Below.refl _ _ | assumption | refine Below.drew ?_ | refine Below.drewN' ?_ _ | (refine Below.alloc ?_ (by simp <;> omega) _) | (refine Below.setCell ?_ (by simp <;> omega) _)))
 have HZ : Hid (Below w.heap.size w Va1) := GHB
 rw [hV]
 clear hV HZ
 have HB := GHB
 clear GHB
 obtain ⟨b3, hqb3⟩ : ∃ b, w.heap.size + 1 + 1 = b := ⟨_, rfl⟩
 obtain ⟨b2, hqb2⟩ : ∃ b, w.heap.size + 1 = b := ⟨_, rfl⟩
 obtain ⟨b1, hqb1⟩ : ∃ b, w.heap.size = b := ⟨_, rfl⟩
 have gb1 : w.heap.size ≤ b1 := by omega
 have gb2 : w.heap.size ≤ b2 := by omega
 have nb2b1 : ¬ b2 = b1 := by omega
 have nb1b2 : ¬ b1 = b2 := by omega
 have gb3 : w.heap.size ≤ b3 := by omega
 have nb3b1 : ¬ b3 = b1 := by omega
 have nb1b3 : ¬ b1 = b3 := by omega
 have nb3b2 : ¬ b3 = b2 := by omega
 have nb2b3 : ¬ b2 = b3 := by omega
 rw [hqb3] at Kb3 ⊢
 clear hqb3
 rw [hqb2] at Kb2 ⊢
 clear hqb2
 have HN : Hid (w.heap.size = b1) := hqb1
 rw [hqb1] at Kb1 ⊢
 clear hqb1
 have Hb1 := Kb1
 clear Kb1
 have Hb2 := Kb2
 clear Kb2
 have Hb3 := Kb3
 clear Kb3
 go_upto_region 1 with (fail)
 have HSV : Hid (∀ U, Below Va1.heap.size Va1 U → U.cell? ⟨b1, 0, none⟩ = some (.int .i64 (u1)) ∧ U.cell? ⟨b1, 1, none⟩ = some (.int .i64 (u2)) ∧ U.cell? ⟨b2, 0, none⟩ = some (.int .i64 (v1)) ∧ U.cell? ⟨b2, 1, none⟩ = some (.int .i64 (v2))) := fun U hU => by
  have kb1 := Hb1.out.below hU Hb1.out.lt
  have kb2 := Hb2.out.below hU Hb2.out.lt
  exact ⟨kb1.cell 0, kb1.cell 1, kb2.cell 0, kb2.cell 1⟩
 have k0 := HSV.out _ (Below.drew (Below.refl Va1.heap.size Va1))
 refine wp_region_noPanic ?_
 refine wp_region_L (S := (fun w' => w'.cell? ⟨b1, 0, none⟩ = some (.int .i64 (u1)) ∧ w'.cell? ⟨b1, 1, none⟩ = some (.int .i64 (u2)) ∧ w'.cell? ⟨b2, 0, none⟩ = some (.int .i64 (v1)) ∧ w'.cell? ⟨b2, 1, none⟩ = some (.int .i64 (v2)))) (ks := [26]) (by kernel_rfl) ?_ (fun hHeld => ?_)
 · (try dsimp only); (exact k0)
 refine tL 0 Z1n ?_ ?_ ?_
 rotate_left
 · ((intro w hSw; delta Z1n; (try dsimp only at hSw); go_simp) <;> with_reducible rfl)
 try simp only [Z1n, ksz]
 refine tL 2 Z1p ?_ ?_ ?_
 rotate_left
 · ((intro w hSw; delta Z1p; (try dsimp only at hSw); go_simp) <;> with_reducible rfl)
 try simp only [Z1p, ksz]
 refine tL 5 Z1s ?_ ?_ ?_
 rotate_left
 · ((intro w hSw; delta Z1s; (try dsimp only at hSw); go_simp) <;> with_reducible rfl)
 try simp only [Z1s, ksz]
 refine tL 7 Z1u ?_ ?_ ?_
 rotate_left
 · ((intro w hSw; delta Z1u; (try dsimp only at hSw); go_simp) <;> with_reducible rfl)
 try simp only [Z1u, ksz]
 refine tL 12 Z1z ?_ ?_ ?_
 rotate_left
 · ((intro w hSw; delta Z1z; (try dsimp only at hSw); go_simp) <;> with_reducible rfl)
 try simp only [Z1z, ksz]
 refine tL 14 Z21 ?_ ?_ ?_
 rotate_left
 · ((intro w hSw; delta Z21; (try dsimp only at hSw); go_simp) <;> with_reducible rfl)
 try simp only [Z21, ksz]
 refine tL 17 Z24 ?_ ?_ ?_
 rotate_left
 · ((intro w hSw; delta Z24; (try dsimp only at hSw); go_simp) <;> with_reducible rfl)
 try simp only [Z24, ksz]
 refine tL 19 Z26 ?_ ?_ ?_
 rotate_left
 · ((intro w hSw; delta Z26; (try dsimp only at hSw); go_simp) <;> with_reducible rfl)
 try simp only [Z26, ksz]
 obtain ⟨W0, hW0⟩ : ∃ V, Va1.drew = V := ⟨_, rfl⟩; rw [hW0] at hHeld ⊢; have HB0 : Hid (Below Va1.heap.size Va1 W0) := (by rw [← hW0]; exact Below.drew (Below.refl _ _)); clear hW0
 refine wpAnyL_ready (rs := [1]) (by kernel_rfl) (by simp) ?_
 refine AllReadyL.cons (o := Z1o) rfl (fun K hK => ?_) AllReadyL.nil
 delta Z1o
 go_simp
 (refine (nearest_any u1 u2 _ (by omega)).mono ?_; rintro e W1 ⟨rfl, hb⟩; have HB1 := Lib.hid (HB0.out.trans (hb.mono HB0.out.size)); clear hb; rw [HNU.out])
 refine hK.out _ _ ?_ (fun hHeld => ?_)
 · (try dsimp only); (exact HSV.out _ HB1.out)
 clear hK K
 try simp only [Z1o, ksz]
 refine wpAnyL_ready (rs := [3]) (by kernel_rfl) (by simp) ?_
 refine AllReadyL.cons (o := Z1q) rfl (fun K hK => ?_) AllReadyL.nil
 delta Z1q
 go_simp
 (refine (nearest_any u1 u2 _ (by omega)).mono ?_; rintro e W2 ⟨rfl, hb⟩; have HB2 := Lib.hid (HB1.out.trans (hb.mono HB1.out.size)); clear hb; rw [HNU.out])
 refine hK.out _ _ ?_ (fun hHeld => ?_)
 · (try dsimp only); (exact HSV.out _ HB2.out)
 clear hK K
 try simp only [Z1q, ksz]
 refine tL 4 Z1r ?_ ?_ ?_
 rotate_left
 · ((intro w hSw; delta Z1r; (try dsimp only at hSw); go_simp) <;> with_reducible rfl)
 try simp only [Z1r, ksz]
 refine wpAnyL_ready (rs := [6]) (by kernel_rfl) (by simp) ?_
 refine AllReadyL.cons (o := Z1t) rfl (fun K hK => ?_) AllReadyL.nil
 delta Z1t
 go_simp
 (refine (nearest_any v1 v2 _ (by omega)).mono ?_; rintro e W3 ⟨rfl, hb⟩; have HB3 := Lib.hid (HB2.out.trans (hb.mono HB2.out.size)); clear hb; rw [HNV.out])
 refine hK.out _ _ ?_ (fun hHeld => ?_)
 · (try dsimp only); (exact HSV.out _ HB3.out)
 clear hK K
 try simp only [Z1t, ksz]
 refine wpAnyL_ready (rs := [8]) (by kernel_rfl) (by simp) ?_
 refine AllReadyL.cons (o := Z1v) rfl (fun K hK => ?_) AllReadyL.nil
 delta Z1v
 go_simp
 (refine (nearest_any v1 v2 _ (by omega)).mono ?_; rintro e W4 ⟨rfl, hb⟩; have HB4 := Lib.hid (HB3.out.trans (hb.mono HB3.out.size)); clear hb; rw [HNV.out])
 refine hK.out _ _ ?_ (fun hHeld => ?_)
 · (try dsimp only); (exact HSV.out _ HB4.out)
 clear hK K
 try simp only [Z1v, ksz]
 refine tL 9 Z1w ?_ ?_ ?_
 rotate_left
 · ((intro w hSw; delta Z1w; (try dsimp only at hSw); go_simp) <;> with_reducible rfl)
 try simp only [Z1w, ksz]
 refine tL 10 Z1x ?_ ?_ ?_
 rotate_left
 · ((intro w hSw; delta Z1x; (try dsimp only at hSw); go_simp) <;> with_reducible rfl)
 try simp only [Z1x, ksz]
 refine wpAnyL_ready (rs := [11]) (by kernel_rfl) (by simp) ?_
 refine AllReadyL.cons (o := Z1y) rfl (fun K hK => ?_) AllReadyL.nil
 delta Z1y
 go_simp
 (refine (rootDown_any _ _ (by omega)).mono ?_; rintro e W5 ⟨rfl, hw⟩; have HB5 : Hid (Below Va1.heap.size Va1 W5) := (by rw [← hw]; exact HB4.out); clear hw; rw [HP.out])
 refine hK.out _ _ ?_ (fun hHeld => ?_)
 · (try dsimp only); (exact HSV.out _ HB5.out)
 clear hK K
 try simp only [Z1y, ksz]
 refine wpAnyL_ready (rs := [13]) (by kernel_rfl) (by simp) ?_
 refine AllReadyL.cons (o := Z20) rfl (fun K hK => ?_) AllReadyL.nil
 delta Z20
 go_simp
 (refine (farthest_any u1 u2 _ (by omega)).mono ?_; rintro e W6 ⟨rfl, hb⟩; have HB6 := Lib.hid (HB5.out.trans (hb.mono HB5.out.size)); clear hb; rw [HFU.out])
 refine hK.out _ _ ?_ (fun hHeld => ?_)
 · (try dsimp only); (exact HSV.out _ HB6.out)
 clear hK K
 try simp only [Z20, ksz]
 refine wpAnyL_ready (rs := [15]) (by kernel_rfl) (by simp) ?_
 refine AllReadyL.cons (o := Z22) rfl (fun K hK => ?_) AllReadyL.nil
 delta Z22
 go_simp
 (refine (farthest_any u1 u2 _ (by omega)).mono ?_; rintro e W7 ⟨rfl, hb⟩; have HB7 := Lib.hid (HB6.out.trans (hb.mono HB6.out.size)); clear hb; rw [HFU.out])
 refine hK.out _ _ ?_ (fun hHeld => ?_)
 · (try dsimp only); (exact HSV.out _ HB7.out)
 clear hK K
 try simp only [Z22, ksz]
 refine tL 16 Z23 ?_ ?_ ?_
 rotate_left
 · ((intro w hSw; delta Z23; (try dsimp only at hSw); go_simp) <;> with_reducible rfl)
 try simp only [Z23, ksz]
 refine wpAnyL_ready (rs := [18]) (by kernel_rfl) (by simp) ?_
 refine AllReadyL.cons (o := Z25) rfl (fun K hK => ?_) AllReadyL.nil
 delta Z25
 go_simp
 (refine (farthest_any v1 v2 _ (by omega)).mono ?_; rintro e W8 ⟨rfl, hb⟩; have HB8 := Lib.hid (HB7.out.trans (hb.mono HB7.out.size)); clear hb; rw [HFV.out])
 refine hK.out _ _ ?_ (fun hHeld => ?_)
 · (try dsimp only); (exact HSV.out _ HB8.out)
 clear hK K
 try simp only [Z25, ksz]
 refine wpAnyL_ready (rs := [20]) (by kernel_rfl) (by simp) ?_
 refine AllReadyL.cons (o := Z27) rfl (fun K hK => ?_) AllReadyL.nil
 delta Z27
 go_simp
 (refine (farthest_any v1 v2 _ (by omega)).mono ?_; rintro e W9 ⟨rfl, hb⟩; have HB9 := Lib.hid (HB8.out.trans (hb.mono HB8.out.size)); clear hb; rw [HFV.out])
 refine hK.out _ _ ?_ (fun hHeld => ?_)
 · (try dsimp only); (exact HSV.out _ HB9.out)
 clear hK K
 try simp only [Z27, ksz]
 refine tL 21 Z28 ?_ ?_ ?_
 rotate_left
 · ((intro w hSw; delta Z28; (try dsimp only at hSw); go_simp) <;> with_reducible rfl)
 try simp only [Z28, ksz]
 refine tL 22 Z29 ?_ ?_ ?_
 rotate_left
 · ((intro w hSw; delta Z29; (try dsimp only at hSw); go_simp) <;> with_reducible rfl)
 try simp only [Z29, ksz]
 refine wpAnyL_ready (rs := [23]) (by kernel_rfl) (by simp) ?_
 refine AllReadyL.cons (o := Z2a) rfl (fun K hK => ?_) AllReadyL.nil
 delta Z2a
 go_simp
 (refine (rootUp_any _ _ (by omega)).mono ?_; rintro e W10 ⟨rfl, hw⟩; have HB10 : Hid (Below Va1.heap.size Va1 W10) := (by rw [← hw]; exact HB9.out); clear hw; rw [HQ.out])
 refine hK.out _ _ ?_ (fun hHeld => ?_)
 · (try dsimp only); (exact HSV.out _ HB10.out)
 clear hK K
 try simp only [Z2a, ksz]
 refine tL 24 Z2b ?_ ?_ ?_
 rotate_left
 · ((intro w hSw; delta Z2b; (try dsimp only at hSw); go_simp) <;> with_reducible rfl)
 try simp only [Z2b, ksz]
 refine tL 25 Z2c ?_ ?_ ?_
 rotate_left
 · ((intro w hSw; delta Z2c; (try dsimp only at hSw); go_simp) <;> with_reducible rfl)
 try simp only [Z2c, ksz]
 have Gb1 := Lib.hid (Hb1.out.below HB10.out Hb1.out.lt); have Gb2 := Lib.hid (Hb2.out.below HB10.out Hb2.out.lt); have Gb3 := Lib.hid (Hb3.out.below HB10.out Hb3.out.lt); have GHB := Lib.hid (HB.out.trans (HB10.out.mono HB.out.size)); clear Hb1 Hb2 Hb3 HB; have Hb1 := Gb1; clear Gb1; have Hb2 := Gb2; clear Gb2; have Hb3 := Gb3; clear Gb3; have HB := GHB; clear GHB; have cR0 := Hb3.out.cell 0; have zR0 := Hb3.out.frozen 0; have cR1 := Hb3.out.cell 1; have zR1 := Hb3.out.frozen 1; simp only [List.getElem?_toArray, List.getElem?_cons_zero, List.getElem?_cons_succ] at cR0 cR1
 refine wpAnyL_ready (rs := [26]) (by kernel_rfl) (by simp) ?_
 refine AllReadyL.gate (o := Z2d) rfl (by kernel_rfl) (fun K hK => ?_) AllReadyL.nil
 delta Z2d
 go_simp
 refine hK.out _ _ ?_
 clear hK K
 try simp only [Z2d, ksz]
 obtain ⟨Va2, hV⟩ : ∃ V, (W10.setCell ⟨b3, 0, none⟩ (.int .i64 (P))).setCell ⟨b3, 1, none⟩ (.int .i64 (Q)) = V := ⟨_, rfl⟩; replace Hb1 : Hid (Blk Va2 b1 108 #[.int .i64 (u1), .int .i64 (u2)]) := (by rw [← hV]; exact ((Hb1.out.far_ (p := ⟨b3, 0, none⟩) nb1b3 _).far_ (p := ⟨b3, 1, none⟩) nb1b3 _)); replace Hb2 : Hid (Blk Va2 b2 108 #[.int .i64 (v1), .int .i64 (v2)]) := (by rw [← hV]; exact ((Hb2.out.far_ (p := ⟨b3, 0, none⟩) nb2b3 _).far_ (p := ⟨b3, 1, none⟩) nb2b3 _)); replace Hb3 : Hid (Blk Va2 b3 108 #[.int .i64 (P), .int .i64 (Q)]) := (by rw [← hV]; exact ((Hb3.out.set_ 0 (.int .i64 (P))).set_ 1 (.int .i64 (Q)))); replace HB : Hid (Below w.heap.size w Va2) := (by rw [← hV]; exact ((HB.out.setCell (p := ⟨b3, 0, none⟩) gb3 _).setCell (p := ⟨b3, 1, none⟩) gb3 _)); rw [hV]; clear hV cR0 zR0 cR1 zR1
 refine wpAnyL_done (by kernel_rfl) ?_ _
 refine NoPanic.normal ?_
 clear HSV k0
 clear hHeld HB0 HB1 HB2 HB3 HB4 HB5 HB6 HB7 HB8 HB9 HB10
 have cb30 := kcl0 Hb3
 have cb31 := kcl1 Hb3
 go_wp2
 refine bodyPost_ret (v := .agg #[.int .i64 (P), .int .i64 (Q)]) (by simp [results, Tryd.results93, go_sem, cb30, cb31]) rfl ⟨rfl, HB.out⟩
end Go.Proofs.YtdhcdgfpkjdihaaDoor.Sg
