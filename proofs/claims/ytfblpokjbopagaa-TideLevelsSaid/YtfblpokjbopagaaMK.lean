/-
  Layer 2, the program: cosine bounds of angles and of spans.
-/
import Derived.Test.YtfblpokjbopagaaMJ
import Derived.Test.YtfblpokjbopagaaMG
import Derived.Test.YtfblpokjbopagaaMI
set_option linter.unusedSimpArgs false
set_option linter.unusedVariables false
namespace Go.Proofs.Ytfblpokjbopagaa
open Go.RowKit

def ocs4_0 : Oper := { dst := some 13, op := Op.load 76 (Operand.tmp 3), type := 76, pos := "cosine.go:31", after := #[], guard := none }
def ocs4_1 : Oper := { dst := some 14, op := Op.fieldAddr 23 (Operand.tmp 1) 1, type := 0, pos := "cosine.go:31", after := #[], guard := none }
def ocs4_2 : Oper := { dst := some 15, op := Op.load 3 (Operand.tmp 14), type := 3, pos := "cosine.go:31", after := #[{ on := 1, ground := Ground.data }], guard := none }
def ocs4_3 : Oper := { dst := some 16, op := Op.call { callee := Callee.value (Operand.func 50), args := #[Operand.tmp 15], argTypes := #[3] }, type := 76, pos := "cosine.go:31", after := #[{ on := 2, ground := Ground.data }], guard := none }
def ocs4_4 : Oper := { dst := some 17, op := Op.call { callee := Callee.value (Operand.func 51), args := #[Operand.tmp 13, Operand.tmp 16], argTypes := #[76, 76] }, type := 76, pos := "cosine.go:31", after := #[{ on := 0, ground := Ground.data }, { on := 3, ground := Ground.data }, { on := 3, ground := Ground.chain }], guard := none }
def ocs4_5 : Oper := { dst := none, op := Op.store 76 (Operand.tmp 3) (Operand.tmp 17), type := 0, pos := "cosine.go:31", after := #[{ on := 4, ground := Ground.data }, { on := 4, ground := Ground.chain }, { on := 0, ground := Ground.phase }, { on := 1, ground := Ground.phase }, { on := 2, ground := Ground.phase }, { on := 3, ground := Ground.phase }, { on := 4, ground := Ground.phase }], guard := none }

theorem quart_600 : quartZ 600 = (32768, 32768) := rfl
set_option maxRecDepth 100000 in
set_option maxHeartbeats 2000000 in
theorem quarter_any (k : Int) (w : World) (h0 : 0 ≤ k) (h1 : k ≤ 900) :
    Calls Try.prog 66 #[.int .i64 k] w fun e w' => e = .returned (.agg #[.int .i64 (quartZ k).1, .int .i64 (quartZ k).2]) ∧ Below w.heap.size w w' := by
  obtain ⟨V0, hV⟩ : ∃ V, w.alloc (.cells #[.int .i64 0, .int .i64 0] 76) = V := ⟨_, rfl⟩
  have K2 : Hid (Blk V0 w.heap.size 76 #[.int .i64 0, .int .i64 0]) := by rw [← hV]; exact Blk.new' _ _ _ rfl
  have KB : Hid (Below w.heap.size w V0) := by rw [← hV]; exact (by repeat (first | exact Below.refl _ _ | assumption | refine Below.drew ?_ | refine Below.drewN' ?_ _ | (refine Below.alloc ?_ (by simp <;> omega) _) | (refine Below.setCell ?_ (by simp <;> omega) _)))
  by_cases c0 : k = 0
  · subst c0
    rw [quart_0]
    go_enter Try.func66, Try.ntmps66
    go_wp2_with fail
    try rw [hV]
    refine (exactly_any _ _).mono ?_
    rintro e w1 ⟨rfl, hb⟩
    have J2 := Lib.hid (K2.out.below hb K2.out.lt)
    have JB := Lib.hid (KB.out.trans (hb.mono KB.out.size))
    obtain ⟨t0, t1, v0, v1⟩ := span_parts J2.out
    clear hb hV K2 KB
    go_wp2
    have hR := fun x y => span_res2 J2.out x y
    refine bodyPost_ret (v := .agg #[.int .i64 65536, .int .i64 65536]) (by simp [results, Try.results66, go_sem, hR]) rfl ⟨rfl, ?_⟩
    have JBo := JB.out
    exact (by repeat (first | exact Below.refl _ _ | assumption | refine Below.drew ?_ | refine Below.drewN' ?_ _ | (refine Below.alloc ?_ (by simp <;> omega) _) | (refine Below.setCell ?_ (by simp <;> omega) _)))
  by_cases c6 : k = 600
  · subst c6
    rw [quart_600]
    go_enter Try.func66, Try.ntmps66
    go_wp2_with fail
    try rw [hV]
    refine (exactly_any _ _).mono ?_
    rintro e w1 ⟨rfl, hb⟩
    have J2 := Lib.hid (K2.out.below hb K2.out.lt)
    have JB := Lib.hid (KB.out.trans (hb.mono KB.out.size))
    obtain ⟨t0, t1, v0, v1⟩ := span_parts J2.out
    clear hb hV K2 KB
    go_wp2
    have hR := fun x y => span_res2 J2.out x y
    refine bodyPost_ret (v := .agg #[.int .i64 32768, .int .i64 32768]) (by simp [results, Try.results66, go_sem, hR]) rfl ⟨rfl, ?_⟩
    have JBo := JB.out
    exact (by repeat (first | exact Below.refl _ _ | assumption | refine Below.drew ?_ | refine Below.drewN' ?_ _ | (refine Below.alloc ?_ (by simp <;> omega) _) | (refine Below.setCell ?_ (by simp <;> omega) _)))
  by_cases c9 : k = 900
  · subst c9
    rw [quart_900]
    go_enter Try.func66, Try.ntmps66
    go_wp2_with fail
    try rw [hV]
    refine (exactly_any _ _).mono ?_
    rintro e w1 ⟨rfl, hb⟩
    have J2 := Lib.hid (K2.out.below hb K2.out.lt)
    have JB := Lib.hid (KB.out.trans (hb.mono KB.out.size))
    obtain ⟨t0, t1, v0, v1⟩ := span_parts J2.out
    clear hb hV K2 KB
    go_wp2
    have hR := fun x y => span_res2 J2.out x y
    refine bodyPost_ret (v := .agg #[.int .i64 0, .int .i64 0]) (by simp [results, Try.results66, go_sem, hR]) rfl ⟨rfl, ?_⟩
    have JBo := JB.out
    exact (by repeat (first | exact Below.refl _ _ | assumption | refine Below.drew ?_ | refine Below.drewN' ?_ _ | (refine Below.alloc ?_ (by simp <;> omega) _) | (refine Below.setCell ?_ (by simp <;> omega) _)))
  · have hr := quart_rng h0 h1
    obtain ⟨A, B, -, -, hq⟩ := ser_one (k := k) (by omega) (by omega) c6
    have h2 : (quartZ k).2 = (quartZ k).1 + 1 := by rw [hq]
    have hw := fun w => whole_any k w (by omega) (by omega) c6
    obtain ⟨q, hQ⟩ : ∃ q, (quartZ k).1 = q := ⟨_, rfl⟩
    rw [hQ] at h2 hr hw ⊢
    rw [h2] at hr ⊢
    clear hq h2 hQ
    go_enter Try.func66, Try.ntmps66
    go_wp2_with fail
    try rw [hV]
    refine (hw _).mono ?_
    rintro e w1 ⟨rfl, hb⟩
    have J2 := Lib.hid (K2.out.below hb K2.out.lt)
    have JB := Lib.hid (KB.out.trans (hb.mono KB.out.size))
    obtain ⟨t0, t1, v0, v1⟩ := span_parts J2.out
    clear hb hV K2 KB hw
    go_wp2
    have hR := fun x y => span_res2 J2.out x y
    refine bodyPost_ret (v := .agg #[.int .i64 q, .int .i64 (q + 1)]) (by simp [results, Try.results66, go_sem, hR]) rfl ⟨rfl, ?_⟩
    have JBo := JB.out
    exact (by repeat (first | exact Below.refl _ _ | assumption | refine Below.drew ?_ | refine Below.drewN' ?_ _ | (refine Below.alloc ?_ (by simp <;> omega) _) | (refine Below.setCell ?_ (by simp <;> omega) _)))
set_option maxRecDepth 100000 in
set_option maxHeartbeats 2000000 in
theorem cosine_any (a : Int) (w : World) (ha : -9000000000000000000 ≤ a ∧ a ≤ 9000000000000000000) :
    Calls Try.prog 50 #[.int .i64 a] w fun e w' => e = .returned (.agg #[.int .i64 (pointZ a).1, .int .i64 (pointZ a).2]) ∧ Below w.heap.size w w' := by
  obtain ⟨V0, hV⟩ : ∃ V, w.alloc (.cells #[.int .i64 0, .int .i64 0] 76) = V := ⟨_, rfl⟩
  have K2 : Hid (Blk V0 w.heap.size 76 #[.int .i64 0, .int .i64 0]) := by rw [← hV]; exact Blk.new' _ _ _ rfl
  have KB : Hid (Below w.heap.size w V0) := by rw [← hV]; exact (by repeat (first | exact Below.refl _ _ | assumption | refine Below.drew ?_ | refine Below.drewN' ?_ _ | (refine Below.alloc ?_ (by simp <;> omega) _) | (refine Below.setCell ?_ (by simp <;> omega) _)))
  have hm : 0 ≤ a % 3600 ∧ a % 3600 < 3600 := by omega
  have hf : foldZ a = if 1800 < a % 3600 then 3600 - a % 3600 else a % 3600 := rfl
  obtain ⟨m, hme⟩ : ∃ x, a % 3600 = x := ⟨_, rfl⟩
  rw [hme] at hm hf
  have hp : pointZ a = if 900 < foldZ a then (-(quartZ (1800 - foldZ a)).2, -(quartZ (1800 - foldZ a)).1) else quartZ (foldZ a) := rfl
  obtain ⟨f, hfe⟩ : ∃ x, foldZ a = x := ⟨_, rfl⟩
  rw [hfe] at hf hp
  have hf2 : 0 ≤ f ∧ f ≤ 1800 := by rw [hf]; split <;> omega
  by_cases c1 : 1800 < m
  · rw [if_pos c1] at hf
    subst hf
    clear hfe
    by_cases c2 : 900 < 3600 - m
    · rw [if_pos c2] at hp
      rw [hp]
      have hr := quart_rng (k := 1800 - (3600 - m)) (by omega) (by omega)
      obtain ⟨⟨q1, q2⟩, hq⟩ : ∃ q, quartZ (1800 - (3600 - m)) = q := ⟨_, rfl⟩
      rw [hq] at hr ⊢
      have HQ := Lib.hid hq
      clear hq hp
      simp only at hr ⊢
      go_enter Try.func50, Try.ntmps50
      go_wp2_with fail
      try rw [hV]
      refine (modulo_any _ _ _ (by omega) (by omega) (by omega)).mono ?_
      rintro e w1 ⟨rfl, hw⟩
      obtain rfl := hw
      rw [hme]
      clear hme
      go_wp2_with fail
      refine (quarter_any _ _ (by omega) (by omega)).mono ?_
      rintro e w1 ⟨rfl, hb⟩
      rw [HQ.out]
      have J2 := Lib.hid (K2.out.below hb K2.out.lt)
      have JB := Lib.hid (KB.out.trans (hb.mono KB.out.size))
      clear hb hV K2 KB
      go_wp2_with fail
      refine (negative_any _ _ _ (by omega) (by omega)).mono ?_
      rintro e w2 ⟨rfl, hb⟩
      have M2 := Lib.hid (J2.out.below hb J2.out.lt)
      have MB := Lib.hid (JB.out.trans (hb.mono JB.out.size))
      clear hb J2 JB
      have J2 := M2
      have JB := MB
      clear M2 MB
      obtain ⟨t0, t1, v0, v1⟩ := span_parts J2.out
      go_wp2
      have hR := fun x y => span_res2 J2.out x y
      refine bodyPost_ret (v := .agg #[.int .i64 (-q2), .int .i64 (-q1)]) (by simp [results, Try.results50, go_sem, hR]) rfl ⟨rfl, ?_⟩
      have JBo := JB.out
      exact (by repeat (first | exact Below.refl _ _ | assumption | refine Below.drew ?_ | refine Below.drewN' ?_ _ | (refine Below.alloc ?_ (by simp <;> omega) _) | (refine Below.setCell ?_ (by simp <;> omega) _)))
    · rw [if_neg c2] at hp
      rw [hp]
      have hr := quart_rng (k := 3600 - m) (by omega) (by omega)
      obtain ⟨⟨q1, q2⟩, hq⟩ : ∃ q, quartZ (3600 - m) = q := ⟨_, rfl⟩
      rw [hq] at hr ⊢
      have HQ := Lib.hid hq
      clear hq hp
      simp only at hr ⊢
      go_enter Try.func50, Try.ntmps50
      go_wp2_with fail
      try rw [hV]
      refine (modulo_any _ _ _ (by omega) (by omega) (by omega)).mono ?_
      rintro e w1 ⟨rfl, hw⟩
      obtain rfl := hw
      rw [hme]
      clear hme
      go_wp2_with fail
      refine (quarter_any _ _ (by omega) (by omega)).mono ?_
      rintro e w1 ⟨rfl, hb⟩
      rw [HQ.out]
      have J2 := Lib.hid (K2.out.below hb K2.out.lt)
      have JB := Lib.hid (KB.out.trans (hb.mono KB.out.size))
      clear hb hV K2 KB
      obtain ⟨t0, t1, v0, v1⟩ := span_parts J2.out
      go_wp2
      have hR := fun x y => span_res2 J2.out x y
      refine bodyPost_ret (v := .agg #[.int .i64 q1, .int .i64 q2]) (by simp [results, Try.results50, go_sem, hR]) rfl ⟨rfl, ?_⟩
      have JBo := JB.out
      exact (by repeat (first | exact Below.refl _ _ | assumption | refine Below.drew ?_ | refine Below.drewN' ?_ _ | (refine Below.alloc ?_ (by simp <;> omega) _) | (refine Below.setCell ?_ (by simp <;> omega) _)))
  · rw [if_neg c1] at hf
    subst hf
    clear hfe
    by_cases c2 : 900 < f
    · rw [if_pos c2] at hp
      rw [hp]
      have hr := quart_rng (k := 1800 - f) (by omega) (by omega)
      obtain ⟨⟨q1, q2⟩, hq⟩ : ∃ q, quartZ (1800 - f) = q := ⟨_, rfl⟩
      rw [hq] at hr ⊢
      have HQ := Lib.hid hq
      clear hq hp
      simp only at hr ⊢
      go_enter Try.func50, Try.ntmps50
      go_wp2_with fail
      try rw [hV]
      refine (modulo_any _ _ _ (by omega) (by omega) (by omega)).mono ?_
      rintro e w1 ⟨rfl, hw⟩
      obtain rfl := hw
      rw [hme]
      clear hme
      go_wp2_with fail
      refine (quarter_any _ _ (by omega) (by omega)).mono ?_
      rintro e w1 ⟨rfl, hb⟩
      rw [HQ.out]
      have J2 := Lib.hid (K2.out.below hb K2.out.lt)
      have JB := Lib.hid (KB.out.trans (hb.mono KB.out.size))
      clear hb hV K2 KB
      go_wp2_with fail
      refine (negative_any _ _ _ (by omega) (by omega)).mono ?_
      rintro e w2 ⟨rfl, hb⟩
      have M2 := Lib.hid (J2.out.below hb J2.out.lt)
      have MB := Lib.hid (JB.out.trans (hb.mono JB.out.size))
      clear hb J2 JB
      have J2 := M2
      have JB := MB
      clear M2 MB
      obtain ⟨t0, t1, v0, v1⟩ := span_parts J2.out
      go_wp2
      have hR := fun x y => span_res2 J2.out x y
      refine bodyPost_ret (v := .agg #[.int .i64 (-q2), .int .i64 (-q1)]) (by simp [results, Try.results50, go_sem, hR]) rfl ⟨rfl, ?_⟩
      have JBo := JB.out
      exact (by repeat (first | exact Below.refl _ _ | assumption | refine Below.drew ?_ | refine Below.drewN' ?_ _ | (refine Below.alloc ?_ (by simp <;> omega) _) | (refine Below.setCell ?_ (by simp <;> omega) _)))
    · rw [if_neg c2] at hp
      rw [hp]
      have hr := quart_rng (k := f) (by omega) (by omega)
      obtain ⟨⟨q1, q2⟩, hq⟩ : ∃ q, quartZ (f) = q := ⟨_, rfl⟩
      rw [hq] at hr ⊢
      have HQ := Lib.hid hq
      clear hq hp
      simp only at hr ⊢
      go_enter Try.func50, Try.ntmps50
      go_wp2_with fail
      try rw [hV]
      refine (modulo_any _ _ _ (by omega) (by omega) (by omega)).mono ?_
      rintro e w1 ⟨rfl, hw⟩
      obtain rfl := hw
      rw [hme]
      clear hme
      go_wp2_with fail
      refine (quarter_any _ _ (by omega) (by omega)).mono ?_
      rintro e w1 ⟨rfl, hb⟩
      rw [HQ.out]
      have J2 := Lib.hid (K2.out.below hb K2.out.lt)
      have JB := Lib.hid (KB.out.trans (hb.mono KB.out.size))
      clear hb hV K2 KB
      obtain ⟨t0, t1, v0, v1⟩ := span_parts J2.out
      go_wp2
      have hR := fun x y => span_res2 J2.out x y
      refine bodyPost_ret (v := .agg #[.int .i64 q1, .int .i64 q2]) (by simp [results, Try.results50, go_sem, hR]) rfl ⟨rfl, ?_⟩
      have JBo := JB.out
      exact (by repeat (first | exact Below.refl _ _ | assumption | refine Below.drew ?_ | refine Below.drewN' ?_ _ | (refine Below.alloc ?_ (by simp <;> omega) _) | (refine Below.setCell ?_ (by simp <;> omega) _)))

theorem has_mod (lo hi k : Int) : hasZ (lo, hi) k = decide (lo + (k - lo) % 3600 ≤ hi) := by
  unfold hasZ upZ downZ
  simp only
  rw [decide_eq_decide]
  omega
theorem hasA_any (lo hi k : Int) (w : World) (h1 : -9000000000000000 ≤ lo ∧ lo ≤ 9000000000000000) (h2 : -9000000000000000 ≤ hi ∧ hi ≤ 9000000000000000) (hk : 0 ≤ k ∧ k ≤ 3600) :
    Calls Try.prog 52 #[.agg #[.int .i64 lo, .int .i64 hi], .int .i64 k] w fun e w' => e = .returned (.bool (hasZ (lo, hi) k)) ∧ Below w.heap.size w w' := by
  rw [has_mod]
  have q1 : IntKind.i64.wrap (k - lo) = k - lo := IntWalk.i64_in _ (by omega)
  have q2 : IntKind.i64.wrap (lo + (k - lo) % 3600) = lo + (k - lo) % 3600 := IntWalk.i64_in _ (by omega)
  go_enter Try.func52, Try.ntmps52
  go_wp2_with fail
  go_quiet (first | (go_at_call 65; exact quiet_left (modulo_any _ _ _ (by omega) (by omega) (by omega))))
  all_goals
    go_wp2
    go_ret
    exact ⟨rfl, (by repeat (first | exact Below.refl _ _ | assumption | refine Below.drew ?_ | refine Below.drewN' ?_ _ | (refine Below.alloc ?_ (by simp <;> omega) _) | (refine Below.setCell ?_ (by simp <;> omega) _)))⟩
theorem bounds_one (a : Int) : boundsZ (a, a) = pointZ a := by
  unfold boundsZ
  rw [has_mod, has_mod]
  simp only
  have e1 : min (pointZ a).1 (pointZ a).1 = (pointZ a).1 := by omega
  have e2 : max (pointZ a).2 (pointZ a).2 = (pointZ a).2 := by omega
  rw [e1, e2]
  by_cases h1 : a + (1800 - a) % 3600 ≤ a
  · have hf : foldZ a = 1800 := by unfold foldZ; simp only; split <;> omega
    have hp : pointZ a = (-65536, -65536) := by rw [point_half, hf]; rfl
    rw [decide_eq_true h1, decide_eq_false (by omega), hp]
    rfl
  · rw [decide_eq_false h1]
    by_cases h0 : a + (0 - a) % 3600 ≤ a
    · have hf : foldZ a = 0 := by unfold foldZ; simp only; split <;> omega
      have hp : pointZ a = (65536, 65536) := by rw [point_half, hf]; rfl
      rw [decide_eq_true h0, hp]
      rfl
    · rw [decide_eq_false h0]
      rfl
set_option maxRecDepth 100000 in
set_option maxHeartbeats 4000000 in
theorem cosines_any (lo hi : Int) (w : World) (h1 : -9000000000000000 ≤ lo ∧ lo ≤ 9000000000000000) (h2 : -9000000000000000 ≤ hi ∧ hi ≤ 9000000000000000) :
    Calls Try.prog 37 #[.agg #[.int .i64 lo, .int .i64 hi]] w fun e w' => e = .returned (.agg #[.int .i64 (boundsZ (lo, hi)).1, .int .i64 (boundsZ (lo, hi)).2]) ∧ Below w.heap.size w w' := by
  have hZ : boundsZ (lo, hi) = (if hasZ (lo, hi) 1800 then -65536 else min (pointZ lo).1 (pointZ hi).1, if hasZ (lo, hi) 0 then 65536 else max (pointZ lo).2 (pointZ hi).2) := rfl
  obtain ⟨V0, hV⟩ : ∃ V, (w.alloc (.cells #[.int .i64 lo, .int .i64 hi] 23)).alloc (.cells #[.int .i64 0, .int .i64 0] 76) = V := ⟨_, rfl⟩
  have K1 : Hid (Blk V0 w.heap.size 23 #[.int .i64 lo, .int .i64 hi]) := by rw [← hV]; exact (Blk.new' _ _ _ rfl).alloc _
  have K2 : Hid (Blk V0 (w.heap.size + 1) 76 #[.int .i64 0, .int .i64 0]) := by rw [← hV]; exact Blk.new' _ _ _ (by simp)
  have KB : Hid (Below w.heap.size w V0) := by rw [← hV]; exact (by repeat (first | exact Below.refl _ _ | assumption | refine Below.drew ?_ | refine Below.drewN' ?_ _ | (refine Below.alloc ?_ (by simp <;> omega) _) | (refine Below.setCell ?_ (by simp <;> omega) _)))
  have e1 := bounds_one lo
  obtain ⟨⟨p1, p2⟩, hp⟩ : ∃ q, pointZ lo = q := ⟨_, rfl⟩
  obtain ⟨⟨q1, q2⟩, hq⟩ : ∃ q, pointZ hi = q := ⟨_, rfl⟩
  rw [hp] at hZ e1
  rw [hq] at hZ
  have hE1 := Lib.hid hp
  have hE2 := Lib.hid hq
  clear hp hq
  by_cases heq : lo = hi
  · subst heq
    rw [e1]
    clear hZ e1 hE2
    obtain ⟨c0, c1, -, -⟩ := span_parts K1.out
    go_enter Try.func37, Try.ntmps37
    go_wp2_with fail
    try rw [hV]
    refine (cosine_any _ _ (by omega)).mono ?_
    rintro e w1 ⟨rfl, hb⟩
    rw [hE1.out]
    have J1 := Lib.hid (K1.out.below hb K1.out.lt)
    have J2 := Lib.hid (K2.out.below hb K2.out.lt)
    have JB := Lib.hid (KB.out.trans (hb.mono KB.out.size))
    clear hb hV K1 K2 KB c0 c1
    obtain ⟨c0, c1, -, -⟩ := span_parts J1.out
    obtain ⟨t0, t1, v0, v1⟩ := span_parts J2.out
    have l1 := J1.out.lt
    have l2 := J2.out.lt
    go_wp2
    have hR := fun x y o => span_res J2.out x y o
    refine bodyPost_ret (v := .agg #[.int .i64 p1, .int .i64 p2]) (by simp [results, Try.results37, go_sem, hR]) rfl ⟨rfl, ?_⟩
    have JBo := JB.out
    have := JBo.size
    exact (by repeat (first | exact Below.refl _ _ | assumption | refine Below.drew ?_ | refine Below.drewN' ?_ _ | (refine Below.alloc ?_ (by simp <;> omega) _) | (refine Below.setCell ?_ (by simp <;> omega) _)))
  · clear e1
    have HZ : Hid (∀ a b, hasZ (lo, hi) 0 = a → hasZ (lo, hi) 1800 = b → boundsZ (lo, hi) = (if b then -65536 else min p1 q1, if a then 65536 else max p2 q2)) := fun a b ha hb => by rw [hZ, ha, hb]
    clear hZ
    obtain ⟨m1, hm1⟩ : ∃ x, min p1 q1 = x := ⟨_, rfl⟩
    obtain ⟨m2, hm2⟩ : ∃ x, max p2 q2 = x := ⟨_, rfl⟩
    rw [hm1, hm2] at HZ
    obtain ⟨c0, c1, -, -⟩ := span_parts K1.out
    go_enter Try.func37, Try.ntmps37
    go_wp2_with fail
    try rw [hV]
    refine (cosine_any _ _ (by omega)).mono ?_
    rintro e w1 ⟨rfl, hb⟩
    rw [hE1.out]
    have I1 := Lib.hid (K1.out.below hb K1.out.lt)
    have I2 := Lib.hid (K2.out.below hb K2.out.lt)
    have IB := Lib.hid (KB.out.trans (hb.mono KB.out.size))
    clear hb hV K1 K2 KB hE1 c0 c1
    obtain ⟨c0, c1, -, -⟩ := span_parts I1.out
    have l1 := I1.out.lt
    have l2 := I2.out.lt
    go_upto_region 4 with (fail)
    obtain ⟨V3, hV⟩ : ∃ V, w1.alloc (.cells #[.int .i64 p1, .int .i64 p2] 76) = V := ⟨_, rfl⟩
    have hz : Below w1.heap.size w1 V3 := by rw [← hV]; exact (Below.refl _ _).alloc (Nat.le_refl _) _
    have J3' : Blk V3 w1.heap.size 76 #[.int .i64 p1, .int .i64 p2] := by rw [← hV]; exact Blk.new' _ _ _ rfl
    rw [hV]
    have g3' : w.heap.size ≤ w1.heap.size := IB.out.size
    obtain ⟨b3, hb3⟩ : ∃ b, w1.heap.size = b := ⟨_, rfl⟩
    rw [hb3] at J3' g3' ⊢
    have n13 : ¬ w.heap.size = b3 := by omega
    have n31 : ¬ b3 = w.heap.size := by omega
    have n23 : ¬ w.heap.size + 1 = b3 := by omega
    have g3 := g3'
    have J1 := Lib.hid (I1.out.below hz l1)
    have J2 := Lib.hid (I2.out.below hz l2)
    have J3 := Lib.hid J3'
    have JB := Lib.hid (IB.out.trans (hz.mono IB.out.size))
    clear hV hz J3' g3' hb3 I1 I2 IB c0 c1 l1 l2
    have HSV : Hid (∀ W, Below V3.heap.size V3 W → W.cell? ⟨b3, 0, none⟩ = some (.int .i64 p1) ∧ W.cell? ⟨b3, 1, none⟩ = some (.int .i64 p2) ∧ W.cell? ⟨w.heap.size, 0, none⟩ = some (.int .i64 lo) ∧ W.cell? ⟨w.heap.size, 1, none⟩ = some (.int .i64 hi)) := fun W hW => by
      have k3 := J3.out.below hW J3.out.lt
      have k1 := J1.out.below hW J1.out.lt
      exact ⟨k3.cell 0, k3.cell 1, k1.cell 0, k1.cell 1⟩
    have k0 := HSV.out _ (Below.drew (Below.refl V3.heap.size V3))
    refine wp_region_noPanic ?_
    refine wp_region_L (S := (fun w' => w'.cell? ⟨b3, 0, none⟩ = some (.int .i64 p1) ∧ w'.cell? ⟨b3, 1, none⟩ = some (.int .i64 p2) ∧ w'.cell? ⟨w.heap.size, 0, none⟩ = some (.int .i64 lo) ∧ w'.cell? ⟨w.heap.size, 1, none⟩ = some (.int .i64 hi))) (ks := [5]) (by kernel_rfl) ?_ (fun hHeld => ?_)
    · (try dsimp only); (exact k0)
    refine wpAnyL_take (i := 0) (oi := ocs4_0) (v := ?_) rfl (by kernel_rfl) (fun _ _ _ h => h) (Or.inl ⟨by rfl, ?_⟩) (by assumption) ?_
    rotate_left
    · ((intro w hSw; delta ocs4_0; (try dsimp only at hSw); go_simp) <;> with_reducible rfl)
    try simp only [ocs4_0, Act.put, List.setIfInBounds_toArray, List.set_cons_zero, List.set_cons_succ]
    refine wpAnyL_take (i := 1) (oi := ocs4_1) (v := ?_) rfl (by kernel_rfl) (fun _ _ _ h => h) (Or.inl ⟨by rfl, ?_⟩) (by assumption) ?_
    rotate_left
    · ((intro w hSw; delta ocs4_1; (try dsimp only at hSw); go_simp) <;> with_reducible rfl)
    try simp only [ocs4_1, Act.put, List.setIfInBounds_toArray, List.set_cons_zero, List.set_cons_succ]
    refine wpAnyL_take (i := 2) (oi := ocs4_2) (v := ?_) rfl (by kernel_rfl) (fun _ _ _ h => h) (Or.inl ⟨by rfl, ?_⟩) (by assumption) ?_
    rotate_left
    · ((intro w hSw; delta ocs4_2; (try dsimp only at hSw); go_simp) <;> with_reducible rfl)
    try simp only [ocs4_2, Act.put, List.setIfInBounds_toArray, List.set_cons_zero, List.set_cons_succ]
    obtain ⟨W0, hW0⟩ : ∃ V, V3.drew = V := ⟨_, rfl⟩; rw [hW0] at hHeld ⊢; have HBV : Hid (Below V3.heap.size V3 W0) := (by rw [← hW0]; exact Below.drew (Below.refl _ _)); clear hW0
    refine wpAnyL_ready (rs := [3]) (by kernel_rfl) (by simp) ?_
    refine AllReadyL.cons (o := ocs4_3) rfl (fun K hK => ?_) AllReadyL.nil
    delta ocs4_3
    go_simp
    (refine (cosine_any _ _ (by omega)).mono ?_; rintro e W1 ⟨rfl, hb⟩; rw [hE2.out]; have HB1 := Lib.hid (HBV.out.trans (hb.mono HBV.out.size)); clear hb)
    refine hK.out _ _ ?_ (fun hHeld => ?_)
    · (try dsimp only); (exact HSV.out _ HB1.out)
    clear hK K
    try simp only [ocs4_3, Act.put, List.setIfInBounds_toArray, List.set_cons_zero, List.set_cons_succ]
    refine wpAnyL_ready (rs := [4]) (by kernel_rfl) (by simp) ?_
    refine AllReadyL.cons (o := ocs4_4) rfl (fun K hK => ?_) AllReadyL.nil
    delta ocs4_4
    go_simp
    (refine (with_any _ _ _ _ _).mono ?_; rintro e W2 ⟨rfl, hb⟩; rw [hm1, hm2]; have HB2 := Lib.hid (HB1.out.trans (hb.mono HB1.out.size)); clear hb)
    refine hK.out _ _ ?_ (fun hHeld => ?_)
    · (try dsimp only); (exact HSV.out _ HB2.out)
    clear hK K
    try simp only [ocs4_4, Act.put, List.setIfInBounds_toArray, List.set_cons_zero, List.set_cons_succ]
    have M3 := Lib.hid (J3.out.below HB2.out J3.out.lt); have M1 := Lib.hid (J1.out.below HB2.out J1.out.lt); have M2 := Lib.hid (J2.out.below HB2.out J2.out.lt); obtain ⟨u0, u1, v0, v1⟩ := span_parts M3.out
    refine wpAnyL_ready (rs := [5]) (by kernel_rfl) (by simp) ?_
    refine AllReadyL.gate (o := ocs4_5) rfl (by kernel_rfl) (fun K hK => ?_) AllReadyL.nil
    delta ocs4_5
    go_simp
    refine hK.out _ _ ?_
    clear hK K
    try simp only [ocs4_5, Act.put, List.setIfInBounds_toArray, List.set_cons_zero, List.set_cons_succ]
    refine wpAnyL_done (by kernel_rfl) ?_ _
    refine NoPanic.normal ?_
    have H1 := Lib.hid ((M1.out.far_ (p := ⟨b3, 0, none⟩) (by exact n13) (.int .i64 m1)).far_ (p := ⟨b3, 1, none⟩) (by exact n13) (.int .i64 m2))
    have H2 := Lib.hid ((M2.out.far_ (p := ⟨b3, 0, none⟩) (by exact n23) (.int .i64 m1)).far_ (p := ⟨b3, 1, none⟩) (by exact n23) (.int .i64 m2))
    have H3 := Lib.hid ((M3.out.set_ 0 (.int .i64 m1)).set_ 1 (.int .i64 m2))
    have HB := Lib.hid ((((JB.out.trans (HB2.out.mono JB.out.size)).setCell (p := ⟨b3, 0, none⟩) g3 (.int .i64 m1)).setCell (p := ⟨b3, 1, none⟩) g3 (.int .i64 m2)))
    obtain ⟨V5, hV⟩ : ∃ V, (W2.setCell ⟨b3, 0, none⟩ (.int .i64 m1)).setCell ⟨b3, 1, none⟩ (.int .i64 m2) = V := ⟨_, rfl⟩
    rw [hV] at H1 H2 H3 HB
    clear M1 M2 M3 HB1 HB2 J1 J2 J3 JB HBV HSV k0 u0 u1 v0 v1 hE2 hHeld hm1 hm2
    rw [hV]
    clear hV
    obtain ⟨c0, c1, -, -⟩ := span_parts H1.out
    go_wp2_with fail
    refine (hasA_any _ _ _ _ (by omega) (by omega) (by omega)).mono ?_
    rintro e w6 ⟨rfl, hb⟩
    have G1 := Lib.hid (H1.out.below hb H1.out.lt)
    have G2 := Lib.hid (H2.out.below hb H2.out.lt)
    have G3 := Lib.hid (H3.out.below hb H3.out.lt)
    have GB := Lib.hid (HB.out.trans (hb.mono HB.out.size))
    clear hb H1 H2 H3 HB c0 c1
    have H1 := G1
    have H2 := G2
    have H3 := G3
    have HB := GB
    clear G1 G2 G3 GB
    rcases hh0 : hasZ (lo, hi) 0
    all_goals rcases hh1 : hasZ (lo, hi) 1800
    · have x0 := H3.out.cell 0
      have x1 := H3.out.cell 1
      have x2 := H3.out.frozen 0
      have x3 := H3.out.frozen 1
      have y0 := H1.out.cell 0
      have y1 := H1.out.cell 1
      simp only [List.getElem?_toArray, List.getElem?_cons_zero, List.getElem?_cons_succ] at x0 x1 y0 y1
      have k1 := H1
      have k2 := H2
      have k3 := H3
      have kB := HB
      clear H1 H2 H3 HB
      go_wp2_with fail
      refine (hasA_any _ _ _ _ (by omega) (by omega) (by omega)).mono ?_
      rintro e w7 ⟨rfl, hb⟩
      rw [hh1]
      have H2 := Lib.hid (k2.out.below hb k2.out.lt)
      have H3 := Lib.hid (k3.out.below hb k3.out.lt)
      have HB := Lib.hid (kB.out.trans (hb.mono kB.out.size))
      clear hb k1 k2 k3 kB x0 x1 x2 x3 y0 y1
      have x0 := H3.out.cell 0
      have x1 := H3.out.cell 1
      have x2 := H3.out.frozen 0
      have x3 := H3.out.frozen 1
      simp only [List.set_toArray, List.setIfInBounds_toArray, List.set_cons_succ, List.set_cons_zero, List.getElem?_toArray, List.getElem?_cons_zero, List.getElem?_cons_succ] at x0 x1
      obtain ⟨t0, t1, v0, v1⟩ := span_parts H2.out
      have hR := fun x y => span_res2 H2.out x y
      have HBo := HB.out
      go_wp2
      refine bodyPost_ret (v := .agg #[.int .i64 (m1), .int .i64 (m2)]) (by simp [results, Try.results37, go_sem, hR]) rfl ⟨by rw [HZ.out _ _ hh0 hh1]; rfl, ?_⟩
      exact (by repeat (first | exact Below.refl _ _ | assumption | refine Below.drew ?_ | refine Below.drewN' ?_ _ | (refine Below.alloc ?_ (by simp <;> omega) _) | (refine Below.setCell ?_ (by simp <;> omega) _)))
    · have x0 := H3.out.cell 0
      have x1 := H3.out.cell 1
      have x2 := H3.out.frozen 0
      have x3 := H3.out.frozen 1
      have y0 := H1.out.cell 0
      have y1 := H1.out.cell 1
      simp only [List.getElem?_toArray, List.getElem?_cons_zero, List.getElem?_cons_succ] at x0 x1 y0 y1
      have k1 := H1
      have k2 := H2
      have k3 := H3
      have kB := HB
      clear H1 H2 H3 HB
      go_wp2_with fail
      refine (hasA_any _ _ _ _ (by omega) (by omega) (by omega)).mono ?_
      rintro e w7 ⟨rfl, hb⟩
      rw [hh1]
      have H2 := Lib.hid (k2.out.below hb k2.out.lt)
      have H3 := Lib.hid (k3.out.below hb k3.out.lt)
      have HB := Lib.hid (kB.out.trans (hb.mono kB.out.size))
      clear hb k1 k2 k3 kB x0 x1 x2 x3 y0 y1
      have x0 := H3.out.cell 0
      have x1 := H3.out.cell 1
      have x2 := H3.out.frozen 0
      have x3 := H3.out.frozen 1
      simp only [List.set_toArray, List.setIfInBounds_toArray, List.set_cons_succ, List.set_cons_zero, List.getElem?_toArray, List.getElem?_cons_zero, List.getElem?_cons_succ] at x0 x1
      obtain ⟨t0, t1, v0, v1⟩ := span_parts H2.out
      have hR := fun x y => span_res2 (H2.out.far_ (p := ⟨b3, 0, none⟩) (by exact n23) (.int .i64 (-65536))) x y
      have HBo := HB.out.setCell (p := ⟨b3, 0, none⟩) g3 (.int .i64 (-65536))
      go_wp2
      refine bodyPost_ret (v := .agg #[.int .i64 (-65536), .int .i64 (m2)]) (by simp [results, Try.results37, go_sem, hR]) rfl ⟨by rw [HZ.out _ _ hh0 hh1]; rfl, ?_⟩
      exact (by repeat (first | exact Below.refl _ _ | assumption | refine Below.drew ?_ | refine Below.drewN' ?_ _ | (refine Below.alloc ?_ (by simp <;> omega) _) | (refine Below.setCell ?_ (by simp <;> omega) _)))
    · have x0 := H3.out.cell 0
      have x1 := H3.out.cell 1
      have x2 := H3.out.frozen 0
      have x3 := H3.out.frozen 1
      have y0 := H1.out.cell 0
      have y1 := H1.out.cell 1
      simp only [List.getElem?_toArray, List.getElem?_cons_zero, List.getElem?_cons_succ] at x0 x1 y0 y1
      have k1 := Lib.hid (H1.out.far_ (p := ⟨b3, 1, none⟩) (by exact n13) (.int .i64 65536))
      have k2 := Lib.hid (H2.out.far_ (p := ⟨b3, 1, none⟩) (by exact n23) (.int .i64 65536))
      have k3 := Lib.hid (H3.out.set_ 1 (.int .i64 65536))
      have kB := Lib.hid (HB.out.setCell (p := ⟨b3, 1, none⟩) g3 (.int .i64 65536))
      clear H1 H2 H3 HB
      go_wp2_with fail
      refine (hasA_any _ _ _ _ (by omega) (by omega) (by omega)).mono ?_
      rintro e w7 ⟨rfl, hb⟩
      rw [hh1]
      have H2 := Lib.hid (k2.out.below hb k2.out.lt)
      have H3 := Lib.hid (k3.out.below hb k3.out.lt)
      have HB := Lib.hid (kB.out.trans (hb.mono kB.out.size))
      clear hb k1 k2 k3 kB x0 x1 x2 x3 y0 y1
      have x0 := H3.out.cell 0
      have x1 := H3.out.cell 1
      have x2 := H3.out.frozen 0
      have x3 := H3.out.frozen 1
      simp only [List.set_toArray, List.setIfInBounds_toArray, List.set_cons_succ, List.set_cons_zero, List.getElem?_toArray, List.getElem?_cons_zero, List.getElem?_cons_succ] at x0 x1
      obtain ⟨t0, t1, v0, v1⟩ := span_parts H2.out
      have hR := fun x y => span_res2 H2.out x y
      have HBo := HB.out
      go_wp2
      refine bodyPost_ret (v := .agg #[.int .i64 (m1), .int .i64 (65536)]) (by simp [results, Try.results37, go_sem, hR]) rfl ⟨by rw [HZ.out _ _ hh0 hh1]; rfl, ?_⟩
      exact (by repeat (first | exact Below.refl _ _ | assumption | refine Below.drew ?_ | refine Below.drewN' ?_ _ | (refine Below.alloc ?_ (by simp <;> omega) _) | (refine Below.setCell ?_ (by simp <;> omega) _)))
    · have x0 := H3.out.cell 0
      have x1 := H3.out.cell 1
      have x2 := H3.out.frozen 0
      have x3 := H3.out.frozen 1
      have y0 := H1.out.cell 0
      have y1 := H1.out.cell 1
      simp only [List.getElem?_toArray, List.getElem?_cons_zero, List.getElem?_cons_succ] at x0 x1 y0 y1
      have k1 := Lib.hid (H1.out.far_ (p := ⟨b3, 1, none⟩) (by exact n13) (.int .i64 65536))
      have k2 := Lib.hid (H2.out.far_ (p := ⟨b3, 1, none⟩) (by exact n23) (.int .i64 65536))
      have k3 := Lib.hid (H3.out.set_ 1 (.int .i64 65536))
      have kB := Lib.hid (HB.out.setCell (p := ⟨b3, 1, none⟩) g3 (.int .i64 65536))
      clear H1 H2 H3 HB
      go_wp2_with fail
      refine (hasA_any _ _ _ _ (by omega) (by omega) (by omega)).mono ?_
      rintro e w7 ⟨rfl, hb⟩
      rw [hh1]
      have H2 := Lib.hid (k2.out.below hb k2.out.lt)
      have H3 := Lib.hid (k3.out.below hb k3.out.lt)
      have HB := Lib.hid (kB.out.trans (hb.mono kB.out.size))
      clear hb k1 k2 k3 kB x0 x1 x2 x3 y0 y1
      have x0 := H3.out.cell 0
      have x1 := H3.out.cell 1
      have x2 := H3.out.frozen 0
      have x3 := H3.out.frozen 1
      simp only [List.set_toArray, List.setIfInBounds_toArray, List.set_cons_succ, List.set_cons_zero, List.getElem?_toArray, List.getElem?_cons_zero, List.getElem?_cons_succ] at x0 x1
      obtain ⟨t0, t1, v0, v1⟩ := span_parts H2.out
      have hR := fun x y => span_res2 (H2.out.far_ (p := ⟨b3, 0, none⟩) (by exact n23) (.int .i64 (-65536))) x y
      have HBo := HB.out.setCell (p := ⟨b3, 0, none⟩) g3 (.int .i64 (-65536))
      go_wp2
      refine bodyPost_ret (v := .agg #[.int .i64 (-65536), .int .i64 (65536)]) (by simp [results, Try.results37, go_sem, hR]) rfl ⟨by rw [HZ.out _ _ hh0 hh1]; rfl, ?_⟩
      exact (by repeat (first | exact Below.refl _ _ | assumption | refine Below.drew ?_ | refine Below.drewN' ?_ _ | (refine Below.alloc ?_ (by simp <;> omega) _) | (refine Below.setCell ?_ (by simp <;> omega) _)))
theorem field_any (x y : Value) (w : World) : (Instr.field 76 (.agg #[x, y]) 0).run Try.prog w = .ok (.agg #[x, y]) w := by kernel_rfl
set_option maxRecDepth 100000 in
set_option maxHeartbeats 2000000 in
theorem tCos_any (lo hi : Int) (w : World) :
    Calls Try.prog 11 #[.agg #[.int .i64 lo, .int .i64 hi]] w fun e w' => e = .returned (.tuple #[.agg #[.int .i64 (cosV (lo, hi)).1, .int .i64 (cosV (lo, hi)).2], .int .i64 (cosE (lo, hi))]) ∧ Below w.heap.size w w' := by
  obtain ⟨V0, hV⟩ : ∃ V, (w.alloc (.cells #[.int .i64 lo, .int .i64 hi] 23)).alloc (.cells #[.int .i64 0, .int .i64 0] 23) = V := ⟨_, rfl⟩
  have K1 : Hid (Blk V0 w.heap.size 23 #[.int .i64 lo, .int .i64 hi]) := by rw [← hV]; exact (Blk.new' _ _ _ rfl).alloc _
  have K2 : Hid (Blk V0 (w.heap.size + 1) 23 #[.int .i64 0, .int .i64 0]) := by rw [← hV]; exact Blk.new' _ _ _ (by simp)
  have KB : Hid (Below w.heap.size w V0) := by rw [← hV]; exact (by repeat (first | exact Below.refl _ _ | assumption | refine Below.drew ?_ | refine Below.drewN' ?_ _ | (refine Below.alloc ?_ (by simp <;> omega) _) | (refine Below.setCell ?_ (by simp <;> omega) _)))
  obtain ⟨c0, c1, -, -⟩ := span_parts K1.out
  go_enter Try.func11, Try.ntmps11
  go_wp2_with fail
  try rw [hV]
  refine (isSpan_any _ _ _ _ _).mono ?_
  rintro e w1 ⟨rfl, hb⟩
  have J1 := Lib.hid (K1.out.below hb K1.out.lt)
  have J2 := Lib.hid (K2.out.below hb K2.out.lt)
  have JB := Lib.hid (KB.out.trans (hb.mono KB.out.size))
  clear hb hV K1 K2 KB c0 c1
  by_cases hok : lo ≤ hi ∧ -1099511627776 ≤ lo ∧ hi ≤ 1099511627776
  · have HE : Hid (cosE (lo, hi) = 0 ∧ cosV (lo, hi) = boundsZ (lo, hi)) := ⟨by unfold cosE; exact if_pos hok, by unfold cosV; exact if_pos hok⟩
    rw [decide_eq_true hok]
    obtain ⟨c0, c1, -, -⟩ := span_parts J1.out
    go_wp2_with fail
    refine (cosines_any _ _ _ (by omega) (by omega)).mono ?_
    rintro e w2 ⟨rfl, hb⟩
    have I2 := Lib.hid (J2.out.below hb J2.out.lt)
    have IB := Lib.hid (JB.out.trans (hb.mono JB.out.size))
    clear hb J1 J2 JB c0 c1
    obtain ⟨t0, t1, v0, v1⟩ := span_parts I2.out
    have hfd := field_any
    go_wp2
    have hR := fun x y => span_res2 I2.out x y
    refine bodyPost_ret (v := .tuple #[.agg #[.int .i64 (boundsZ (lo, hi)).1, .int .i64 (boundsZ (lo, hi)).2], .int .i64 0]) (by simp [results, Try.results11, go_sem, hR]) rfl ⟨by rw [HE.out.1, HE.out.2], ?_⟩
    have IBo := IB.out
    exact (by repeat (first | exact Below.refl _ _ | assumption | refine Below.drew ?_ | refine Below.drewN' ?_ _ | (refine Below.alloc ?_ (by simp <;> omega) _) | (refine Below.setCell ?_ (by simp <;> omega) _)))
  · have HE : Hid (cosE (lo, hi) = 3 ∧ cosV (lo, hi) = (0, 0)) := ⟨by unfold cosE; exact if_neg hok, by unfold cosV; exact if_neg hok⟩
    rw [decide_eq_false hok]
    obtain ⟨t0, t1, v0, v1⟩ := span_parts J2.out
    go_wp2
    have hR := fun x y => span_res2 J2.out x y
    refine bodyPost_ret (v := .tuple #[.agg #[.int .i64 0, .int .i64 0], .int .i64 3]) (by simp [results, Try.results11, go_sem, hR]) rfl ⟨by rw [HE.out.1, HE.out.2], ?_⟩
    have JBo := JB.out
    exact (by repeat (first | exact Below.refl _ _ | assumption | refine Below.drew ?_ | refine Below.drewN' ?_ _ | (refine Below.alloc ?_ (by simp <;> omega) _) | (refine Below.setCell ?_ (by simp <;> omega) _)))
end Go.Proofs.Ytfblpokjbopagaa
/-
  Layer 2: the laws' cos: the bounds of an angle, as narrow as the document says.
-/
namespace Go.Proofs.Ytfblpokjbopagaa
open Go.RowKit

theorem cell_far2 {w : World} {a b k : Nat} (u v : Value) (i j : Nat) (h : ¬ b = a) : ((w.setCell ⟨b, i, none⟩ u).setCell ⟨b, j, none⟩ v).cell? ⟨a, k, none⟩ = w.cell? ⟨a, k, none⟩ := by
  rw [World.cell?_setCell_far _ _ _ _ (by exact h), World.cell?_setCell_far _ _ _ _ (by exact h)]
def olc4_0 : Oper := { dst := some 27, op := Op.load 23 (Operand.tmp 4), type := 23, pos := "outright.go:38", after := #[], guard := none }
def olc4_1 : Oper := { dst := some 28, op := Op.move (Operand.tmp 5), type := 24, pos := "outright.go:38", after := #[], guard := none }
def olc4_2 : Oper := { dst := some 29, op := Op.binOp BinOp.eql 24 (Operand.tmp 28) (Operand.const (Value.int IntKind.i64 0)) 24, type := 4, pos := "outright.go:38", after := #[{ on := 1, ground := Ground.data }], guard := none }
def olc4_3 : Oper := { dst := some 30, op := Op.move (Operand.tmp 29), type := 4, pos := "outright.go:38", after := #[{ on := 2, ground := Ground.data }], guard := none }
def olc4_4 : Oper := { dst := some 31, op := Op.load 23 (Operand.tmp 4), type := 23, pos := "outright.go:38", after := #[{ on := 3, ground := Ground.guard }], guard := some (3, true) }
def olc4_5 : Oper := { dst := some 32, op := Op.call { callee := Callee.value (Operand.func 30), args := #[Operand.const (Value.int IntKind.i64 (-65536)), Operand.const (Value.int IntKind.i64 65536)], argTypes := #[3, 3] }, type := 23, pos := "outright.go:38", after := #[{ on := 3, ground := Ground.chain }, { on := 3, ground := Ground.guard }], guard := some (3, true) }
def olc4_6 : Oper := { dst := some 33, op := Op.call { callee := Callee.value (Operand.func 34), args := #[Operand.tmp 31, Operand.tmp 32], argTypes := #[23, 23] }, type := 4, pos := "outright.go:38", after := #[{ on := 4, ground := Ground.data }, { on := 5, ground := Ground.data }, { on := 5, ground := Ground.chain }, { on := 3, ground := Ground.guard }], guard := some (3, true) }
def olc4_7 : Oper := { dst := some 34, op := Op.pick (Operand.tmp 30) (Operand.tmp 33) (Operand.const (Value.bool false)), type := 4, pos := "outright.go:38", after := #[{ on := 3, ground := Ground.data }, { on := 6, ground := Ground.data }], guard := none }
def olc4_8 : Oper := { dst := some 35, op := Op.move (Operand.tmp 34), type := 4, pos := "outright.go:38", after := #[{ on := 7, ground := Ground.data }, { on := 6, ground := Ground.chain }], guard := none }
def olc4_9 : Oper := { dst := some 36, op := Op.fieldAddr 23 (Operand.tmp 4) 0, type := 0, pos := "outright.go:38", after := #[{ on := 8, ground := Ground.guard }], guard := some (8, true) }
def olc4_10 : Oper := { dst := some 37, op := Op.load 3 (Operand.tmp 36), type := 3, pos := "outright.go:38", after := #[{ on := 9, ground := Ground.data }, { on := 8, ground := Ground.guard }], guard := some (8, true) }
def olc4_11 : Oper := { dst := some 38, op := Op.fieldAddr 23 (Operand.tmp 4) 1, type := 0, pos := "outright.go:38", after := #[{ on := 8, ground := Ground.guard }], guard := some (8, true) }
def olc4_12 : Oper := { dst := some 39, op := Op.load 3 (Operand.tmp 38), type := 3, pos := "outright.go:38", after := #[{ on := 11, ground := Ground.data }, { on := 8, ground := Ground.guard }], guard := some (8, true) }
def olc4_13 : Oper := { dst := some 40, op := Op.binOp BinOp.eql 3 (Operand.tmp 37) (Operand.tmp 39) 3, type := 4, pos := "outright.go:38", after := #[{ on := 10, ground := Ground.data }, { on := 12, ground := Ground.data }, { on := 8, ground := Ground.guard }], guard := some (8, true) }
def olc4_14 : Oper := { dst := some 41, op := Op.move (Operand.tmp 7), type := 4, pos := "outright.go:38", after := #[{ on := 8, ground := Ground.guard }], guard := some (8, true) }
def olc4_15 : Oper := { dst := some 42, op := Op.binOp BinOp.eql 4 (Operand.tmp 40) (Operand.tmp 41) 4, type := 4, pos := "outright.go:38", after := #[{ on := 13, ground := Ground.data }, { on := 14, ground := Ground.data }, { on := 8, ground := Ground.guard }], guard := some (8, true) }
def olc4_16 : Oper := { dst := some 43, op := Op.pick (Operand.tmp 35) (Operand.tmp 42) (Operand.const (Value.bool false)), type := 4, pos := "outright.go:38", after := #[{ on := 8, ground := Ground.data }, { on := 15, ground := Ground.data }], guard := none }
def olc4_17 : Oper := { dst := some 44, op := Op.move (Operand.tmp 43), type := 4, pos := "outright.go:38", after := #[{ on := 16, ground := Ground.data }, { on := 8, ground := Ground.chain }], guard := none }
def olc4_18 : Oper := { dst := some 45, op := Op.fieldAddr 23 (Operand.tmp 4) 1, type := 0, pos := "outright.go:38", after := #[{ on := 17, ground := Ground.guard }, { on := 25, ground := Ground.gcOnly Departure.lateStores }], guard := some (17, true) }
def olc4_19 : Oper := { dst := some 46, op := Op.load 3 (Operand.tmp 45), type := 3, pos := "outright.go:38", after := #[{ on := 18, ground := Ground.data }, { on := 17, ground := Ground.guard }, { on := 25, ground := Ground.gcOnly Departure.lateStores }], guard := some (17, true) }
def olc4_20 : Oper := { dst := some 47, op := Op.fieldAddr 23 (Operand.tmp 4) 0, type := 0, pos := "outright.go:38", after := #[{ on := 17, ground := Ground.guard }, { on := 25, ground := Ground.gcOnly Departure.lateStores }], guard := some (17, true) }
def olc4_21 : Oper := { dst := some 48, op := Op.load 3 (Operand.tmp 47), type := 3, pos := "outright.go:38", after := #[{ on := 20, ground := Ground.data }, { on := 17, ground := Ground.guard }, { on := 25, ground := Ground.gcOnly Departure.lateStores }], guard := some (17, true) }
def olc4_22 : Oper := { dst := some 49, op := Op.binOp BinOp.sub 3 (Operand.tmp 46) (Operand.tmp 48) 3, type := 3, pos := "outright.go:38", after := #[{ on := 19, ground := Ground.data }, { on := 21, ground := Ground.data }, { on := 17, ground := Ground.guard }, { on := 25, ground := Ground.gcOnly Departure.lateStores }], guard := some (17, true) }
def olc4_23 : Oper := { dst := some 50, op := Op.binOp BinOp.leq 3 (Operand.tmp 49) (Operand.const (Value.int IntKind.i64 1)) 3, type := 4, pos := "outright.go:38", after := #[{ on := 22, ground := Ground.data }, { on := 17, ground := Ground.guard }, { on := 25, ground := Ground.gcOnly Departure.lateStores }], guard := some (17, true) }
def olc4_24 : Oper := { dst := some 51, op := Op.pick (Operand.tmp 44) (Operand.tmp 50) (Operand.const (Value.bool false)), type := 4, pos := "outright.go:38", after := #[{ on := 17, ground := Ground.data }, { on := 23, ground := Ground.data }, { on := 25, ground := Ground.gcOnly Departure.lateStores }], guard := none }
def olc4_25 : Oper := { dst := none, op := Op.store 23 (Operand.tmp 2) (Operand.tmp 27), type := 0, pos := "outright.go:38", after := #[{ on := 0, ground := Ground.data }, { on := 17, ground := Ground.chain }, { on := 0, ground := Ground.phase }, { on := 1, ground := Ground.textOnly Departure.lateStores }, { on := 2, ground := Ground.textOnly Departure.lateStores }, { on := 3, ground := Ground.textOnly Departure.lateStores }, { on := 4, ground := Ground.textOnly Departure.lateStores }, { on := 5, ground := Ground.textOnly Departure.lateStoresUnsure }, { on := 6, ground := Ground.textOnly Departure.lateStoresUnsure }, { on := 7, ground := Ground.textOnly Departure.lateStores }, { on := 8, ground := Ground.textOnly Departure.lateStores }, { on := 9, ground := Ground.textOnly Departure.lateStores }, { on := 10, ground := Ground.textOnly Departure.lateStores }, { on := 11, ground := Ground.textOnly Departure.lateStores }, { on := 12, ground := Ground.textOnly Departure.lateStores }, { on := 13, ground := Ground.textOnly Departure.lateStores }, { on := 14, ground := Ground.textOnly Departure.lateStores }, { on := 15, ground := Ground.textOnly Departure.lateStores }, { on := 16, ground := Ground.textOnly Departure.lateStores }, { on := 17, ground := Ground.textOnly Departure.lateStores }, { on := 18, ground := Ground.textOnly Departure.lateStores }, { on := 19, ground := Ground.textOnly Departure.lateStores }, { on := 20, ground := Ground.textOnly Departure.lateStores }, { on := 21, ground := Ground.textOnly Departure.lateStores }, { on := 22, ground := Ground.textOnly Departure.lateStores }, { on := 23, ground := Ground.textOnly Departure.lateStores }, { on := 24, ground := Ground.textOnly Departure.lateStores }], guard := none }
def olc4_26 : Oper := { dst := some 3, op := Op.assign (Operand.tmp 51), type := 4, pos := "outright.go:38", after := #[{ on := 24, ground := Ground.data }, { on := 25, ground := Ground.chain }, { on := 0, ground := Ground.phase }, { on := 1, ground := Ground.phase }, { on := 2, ground := Ground.phase }, { on := 3, ground := Ground.phase }, { on := 4, ground := Ground.phase }, { on := 5, ground := Ground.phase }, { on := 6, ground := Ground.phase }, { on := 7, ground := Ground.phase }, { on := 8, ground := Ground.phase }, { on := 9, ground := Ground.phase }, { on := 10, ground := Ground.phase }, { on := 11, ground := Ground.phase }, { on := 12, ground := Ground.phase }, { on := 13, ground := Ground.phase }, { on := 14, ground := Ground.phase }, { on := 15, ground := Ground.phase }, { on := 16, ground := Ground.phase }, { on := 17, ground := Ground.phase }, { on := 18, ground := Ground.phase }, { on := 19, ground := Ground.phase }, { on := 20, ground := Ground.phase }, { on := 21, ground := Ground.phase }, { on := 22, ground := Ground.phase }, { on := 23, ground := Ground.phase }, { on := 24, ground := Ground.phase }, { on := 25, ground := Ground.phase }], guard := none }

set_option maxRecDepth 100000 in
set_option maxHeartbeats 4000000 in
theorem lcos_any (a : Int) (w : World) (ha : -1099511627776 ≤ a ∧ a ≤ 1099511627776) :
    Calls Try.prog 29 #[.int .i64 a] w fun e w' => e = .returned (.tuple #[.agg #[.int .i64 (pointZ a).1, .int .i64 (pointZ a).2], .bool true]) ∧ Below w.heap.size w w' := by
  have hg := fold_go a
  have hP := point_rng a
  have hX := point_exact a
  have HV : Hid (cosV (a, a) = pointZ a ∧ cosE (a, a) = 0) := by
    have h : a ≤ a ∧ -1099511627776 ≤ a ∧ a ≤ 1099511627776 := ⟨Int.le_refl _, ha.1, ha.2⟩
    refine ⟨?_, if_pos h⟩
    rw [← bounds_point]
    exact if_pos h
  have r1 := Int.tmod_lt_of_pos a (show (0 : Int) < 3600 by omega)
  have r2 := Int.lt_tmod_of_pos a (show (0 : Int) < 3600 by omega)
  obtain ⟨m, hm⟩ : ∃ m, a % 3600 = m := ⟨_, rfl⟩
  have hm0 : 0 ≤ m ∧ m < 3600 := by omega
  have hx6 : a % 600 = m % 600 := by omega
  have hx9 : a % 900 = m % 900 := by omega
  rw [hm] at hg
  rw [hx6, hx9] at hX
  clear hm hx6 hx9
  obtain ⟨lo, hlo⟩ : ∃ x, (pointZ a).1 = x := ⟨_, rfl⟩
  obtain ⟨hi, hhi⟩ : ∃ x, (pointZ a).2 = x := ⟨_, rfl⟩
  have HV2 : Hid ((cosV (a, a)).1 = lo ∧ (cosV (a, a)).2 = hi ∧ cosE (a, a) = 0) := ⟨by rw [HV.out.1]; exact hlo, by rw [HV.out.1]; exact hhi, HV.out.2⟩
  rw [hlo, hhi] at hP hX ⊢
  clear HV hlo hhi
  obtain ⟨hP1, hP2, hP3, hP4⟩ := hP
  have HW : Hid (decide (-65536 ≤ lo ∧ hi ≤ 65536 ∧ lo ≤ hi) = true) := decide_eq_true ⟨hP1, hP3, hP2⟩
  go_enter Try.func29, Try.ntmps29
  go_wp2_with fail
  refine (lspan_any _ _ _).mono ?_
  rintro e w1 ⟨rfl, hb⟩
  have I2 : Hid (Blk w1 w.heap.size 23 #[.int .i64 0, .int .i64 0]) := Blk.below (Blk.new' _ _ _ rfl) hb (by simp)
  have IB : Hid (Below w.heap.size w w1) := Below.trans (by exact (by repeat (first | exact Below.refl _ _ | assumption | refine Below.drew ?_ | refine Below.drewN' ?_ _ | (refine Below.alloc ?_ (by simp <;> omega) _) | (refine Below.setCell ?_ (by simp <;> omega) _)))) (hb.mono (by simp))
  clear hb
  go_wp2_with fail
  refine (tCos_any a a _).mono ?_
  rintro e w2 ⟨rfl, hb⟩
  have J2 := Lib.hid (I2.out.below hb I2.out.lt)
  have JB := Lib.hid (IB.out.trans (hb.mono IB.out.size))
  clear I2 IB hb
  rw [HV2.out.1, HV2.out.2.1, HV2.out.2.2]
  go_upto_region 2 with (fail)
  obtain ⟨V1, hV1⟩ : ∃ V, w2.alloc (.cells #[.int .i64 lo, .int .i64 hi] 23) = V := ⟨_, rfl⟩
  have J4 : Hid (Blk V1 w2.heap.size 23 #[.int .i64 lo, .int .i64 hi]) := by rw [← hV1]; exact Blk.new' _ _ _ rfl
  have hB1 : Below w2.heap.size w2 V1 := by rw [← hV1]; exact (Below.refl _ _).alloc (Nat.le_refl _) _
  rw [hV1]
  have I2 := Lib.hid (J2.out.below hB1 J2.out.lt)
  have IB := Lib.hid (JB.out.trans (hB1.mono JB.out.size))
  have l1 := J2.out.lt
  clear hV1 hB1 J2 JB
  obtain ⟨b4, h4⟩ : ∃ b, w2.heap.size = b := ⟨_, rfl⟩
  rw [h4] at J4 l1 ⊢
  clear h4
  have n1 : ¬ b4 = w.heap.size := by omega
  have n2 : ¬ w.heap.size = b4 := by omega
  have qz : IntKind.i64.wrap 0 = 0 := by decide
  have qd : hi - lo ≤ 1 := by omega
  have qw : IntKind.i64.wrap (hi - lo) = hi - lo := IntWalk.i64_in _ (by omega)
  by_cases hx : m % 600 = 0 ∨ m % 900 = 0
  · obtain rfl : lo = hi := hX.2 hx
    clear hX
    have HS0 : Hid (∀ W, Below V1.heap.size V1 W → W.cell? ⟨b4, 0, none⟩ = some (.int .i64 lo) ∧ W.cell? ⟨b4, 1, none⟩ = some (.int .i64 lo)) := fun W hW => by
      have b := J4.out.below hW J4.out.lt
      exact ⟨b.cell 0, b.cell 1⟩
    obtain ⟨k0, k1⟩ := HS0.out _ (Below.drew (Below.refl V1.heap.size V1))
    by_cases h6 : m % 600 = 0
    · clear hx
      go_upto_region 4 with (fail)
      refine wp_region_noPanic ?_
      refine wp_region_held_drew (S := (fun w' => w'.cell? ⟨b4, 0, none⟩ = some (.int .i64 lo) ∧ w'.cell? ⟨b4, 1, none⟩ = some (.int .i64 lo))) (by kernel_rfl) ?_ (fun hHeld => ?_)
      · (try dsimp only); (exact ⟨k0, k1⟩)
      refine wpAnyH_take (i := 0) (oi := olc4_0) (v := ?_) rfl (by kernel_rfl) (by kernel_rfl) (by kernel_rfl) (fun _ _ _ h => h) (Or.inl ⟨by rfl, ?_⟩) (by assumption) ?_
      rotate_left
      · ((intro w hSw; delta olc4_0; (try dsimp only at hSw); go_simp) <;> with_reducible rfl)
      try simp only [olc4_0, Act.put, List.setIfInBounds_toArray, List.set_cons_zero, List.set_cons_succ]
      refine wpAnyH_take (i := 1) (oi := olc4_1) (v := ?_) rfl (by kernel_rfl) (by kernel_rfl) (by kernel_rfl) (fun _ _ _ h => h) (Or.inl ⟨by rfl, ?_⟩) (by assumption) ?_
      rotate_left
      · ((intro w hSw; delta olc4_1; (try dsimp only at hSw); go_simp) <;> with_reducible rfl)
      try simp only [olc4_1, Act.put, List.setIfInBounds_toArray, List.set_cons_zero, List.set_cons_succ]
      refine wpAnyH_take (i := 2) (oi := olc4_2) (v := ?_) rfl (by kernel_rfl) (by kernel_rfl) (by kernel_rfl) (fun _ _ _ h => h) (Or.inl ⟨by rfl, ?_⟩) (by assumption) ?_
      rotate_left
      · ((intro w hSw; delta olc4_2; (try dsimp only at hSw); go_simp) <;> with_reducible rfl)
      try simp only [olc4_2, Act.put, List.setIfInBounds_toArray, List.set_cons_zero, List.set_cons_succ]
      refine wpAnyH_take (i := 3) (oi := olc4_3) (v := ?_) rfl (by kernel_rfl) (by kernel_rfl) (by kernel_rfl) (fun _ _ _ h => h) (Or.inl ⟨by rfl, ?_⟩) (by assumption) ?_
      rotate_left
      · ((intro w hSw; delta olc4_3; (try dsimp only at hSw); go_simp) <;> with_reducible rfl)
      try simp only [olc4_3, Act.put, List.setIfInBounds_toArray, List.set_cons_zero, List.set_cons_succ]
      refine wpAnyH_take (i := 4) (oi := olc4_4) (v := ?_) rfl (by kernel_rfl) (by kernel_rfl) (by kernel_rfl) (fun _ _ _ h => h) (Or.inl ⟨by rfl, ?_⟩) (by assumption) ?_
      rotate_left
      · ((intro w hSw; delta olc4_4; (try dsimp only at hSw); go_simp) <;> with_reducible rfl)
      try simp only [olc4_4, Act.put, List.setIfInBounds_toArray, List.set_cons_zero, List.set_cons_succ]
      obtain ⟨W0, hW0⟩ : ∃ V, V1.drew = V := ⟨_, rfl⟩; rw [hW0] at hHeld ⊢; have HBV : Hid (Below V1.heap.size V1 W0) := (by rw [← hW0]; exact Below.drew (Below.refl _ _)); clear hW0
      refine wpAnyH_ready (rs := [5]) (by kernel_rfl) (by simp) ?_
      refine AllReadyH.cons (o := olc4_5) rfl (fun K hK => ?_) AllReadyH.nil
      delta olc4_5
      go_simp
      (refine (lspan_any _ _ _).mono ?_; rintro e W1 ⟨rfl, hb⟩; have HB1 := Lib.hid (HBV.out.trans (hb.mono HBV.out.size)); clear hb)
      refine hK.out _ _ ?_ (fun hHeld => ?_)
      · (try dsimp only); (exact HS0.out _ HB1.out)
      clear hK K
      try simp only [olc4_5, Act.put, List.setIfInBounds_toArray, List.set_cons_zero, List.set_cons_succ]
      refine wpAnyH_ready (rs := [6]) (by kernel_rfl) (by simp) ?_
      refine AllReadyH.cons (o := olc4_6) rfl (fun K hK => ?_) AllReadyH.nil
      delta olc4_6
      go_simp
      (refine (lwithin2_any _ _ _ _ _).mono ?_; rintro e W2 ⟨rfl, hb⟩; have HB2 := Lib.hid (HB1.out.trans (hb.mono HB1.out.size)); clear hb; rw [HW.out])
      refine hK.out _ _ ?_ (fun hHeld => ?_)
      · (try dsimp only); (exact HS0.out _ HB2.out)
      clear hK K
      try simp only [olc4_6, Act.put, List.setIfInBounds_toArray, List.set_cons_zero, List.set_cons_succ]
      refine wpAnyH_take (i := 7) (oi := olc4_7) (v := ?_) rfl (by kernel_rfl) (by kernel_rfl) (by kernel_rfl) (fun _ _ _ h => h) (Or.inl ⟨by rfl, ?_⟩) (by assumption) ?_
      rotate_left
      · ((intro w hSw; delta olc4_7; (try dsimp only at hSw); go_simp) <;> with_reducible rfl)
      try simp only [olc4_7, Act.put, List.setIfInBounds_toArray, List.set_cons_zero, List.set_cons_succ]
      refine wpAnyH_take (i := 8) (oi := olc4_8) (v := ?_) rfl (by kernel_rfl) (by kernel_rfl) (by kernel_rfl) (fun _ _ _ h => h) (Or.inl ⟨by rfl, ?_⟩) (by assumption) ?_
      rotate_left
      · ((intro w hSw; delta olc4_8; (try dsimp only at hSw); go_simp) <;> with_reducible rfl)
      try simp only [olc4_8, Act.put, List.setIfInBounds_toArray, List.set_cons_zero, List.set_cons_succ]
      refine wpAnyH_take (i := 9) (oi := olc4_9) (v := ?_) rfl (by kernel_rfl) (by kernel_rfl) (by kernel_rfl) (fun _ _ _ h => h) (Or.inl ⟨by rfl, ?_⟩) (by assumption) ?_
      rotate_left
      · ((intro w hSw; delta olc4_9; (try dsimp only at hSw); go_simp) <;> with_reducible rfl)
      try simp only [olc4_9, Act.put, List.setIfInBounds_toArray, List.set_cons_zero, List.set_cons_succ]
      refine wpAnyH_take (i := 10) (oi := olc4_10) (v := ?_) rfl (by kernel_rfl) (by kernel_rfl) (by kernel_rfl) (fun _ _ _ h => h) (Or.inl ⟨by rfl, ?_⟩) (by assumption) ?_
      rotate_left
      · ((intro w hSw; delta olc4_10; (try dsimp only at hSw); go_simp) <;> with_reducible rfl)
      try simp only [olc4_10, Act.put, List.setIfInBounds_toArray, List.set_cons_zero, List.set_cons_succ]
      refine wpAnyH_take (i := 11) (oi := olc4_11) (v := ?_) rfl (by kernel_rfl) (by kernel_rfl) (by kernel_rfl) (fun _ _ _ h => h) (Or.inl ⟨by rfl, ?_⟩) (by assumption) ?_
      rotate_left
      · ((intro w hSw; delta olc4_11; (try dsimp only at hSw); go_simp) <;> with_reducible rfl)
      try simp only [olc4_11, Act.put, List.setIfInBounds_toArray, List.set_cons_zero, List.set_cons_succ]
      refine wpAnyH_take (i := 12) (oi := olc4_12) (v := ?_) rfl (by kernel_rfl) (by kernel_rfl) (by kernel_rfl) (fun _ _ _ h => h) (Or.inl ⟨by rfl, ?_⟩) (by assumption) ?_
      rotate_left
      · ((intro w hSw; delta olc4_12; (try dsimp only at hSw); go_simp) <;> with_reducible rfl)
      try simp only [olc4_12, Act.put, List.setIfInBounds_toArray, List.set_cons_zero, List.set_cons_succ]
      refine wpAnyH_take (i := 13) (oi := olc4_13) (v := ?_) rfl (by kernel_rfl) (by kernel_rfl) (by kernel_rfl) (fun _ _ _ h => h) (Or.inl ⟨by rfl, ?_⟩) (by assumption) ?_
      rotate_left
      · ((intro w hSw; delta olc4_13; (try dsimp only at hSw); go_simp) <;> with_reducible rfl)
      try simp only [olc4_13, Act.put, List.setIfInBounds_toArray, List.set_cons_zero, List.set_cons_succ]
      refine wpAnyH_take (i := 14) (oi := olc4_14) (v := ?_) rfl (by kernel_rfl) (by kernel_rfl) (by kernel_rfl) (fun _ _ _ h => h) (Or.inl ⟨by rfl, ?_⟩) (by assumption) ?_
      rotate_left
      · ((intro w hSw; delta olc4_14; (try dsimp only at hSw); go_simp) <;> with_reducible rfl)
      try simp only [olc4_14, Act.put, List.setIfInBounds_toArray, List.set_cons_zero, List.set_cons_succ]
      refine wpAnyH_take (i := 15) (oi := olc4_15) (v := ?_) rfl (by kernel_rfl) (by kernel_rfl) (by kernel_rfl) (fun _ _ _ h => h) (Or.inl ⟨by rfl, ?_⟩) (by assumption) ?_
      rotate_left
      · ((intro w hSw; delta olc4_15; (try dsimp only at hSw); go_simp) <;> with_reducible rfl)
      try simp only [olc4_15, Act.put, List.setIfInBounds_toArray, List.set_cons_zero, List.set_cons_succ]
      refine wpAnyH_take (i := 16) (oi := olc4_16) (v := ?_) rfl (by kernel_rfl) (by kernel_rfl) (by kernel_rfl) (fun _ _ _ h => h) (Or.inl ⟨by rfl, ?_⟩) (by assumption) ?_
      rotate_left
      · ((intro w hSw; delta olc4_16; (try dsimp only at hSw); go_simp) <;> with_reducible rfl)
      try simp only [olc4_16, Act.put, List.setIfInBounds_toArray, List.set_cons_zero, List.set_cons_succ]
      refine wpAnyH_take (i := 17) (oi := olc4_17) (v := ?_) rfl (by kernel_rfl) (by kernel_rfl) (by kernel_rfl) (fun _ _ _ h => h) (Or.inl ⟨by rfl, ?_⟩) (by assumption) ?_
      rotate_left
      · ((intro w hSw; delta olc4_17; (try dsimp only at hSw); go_simp) <;> with_reducible rfl)
      try simp only [olc4_17, Act.put, List.setIfInBounds_toArray, List.set_cons_zero, List.set_cons_succ]
      refine wpAnyH_take (i := 18) (oi := olc4_18) (v := ?_) rfl (by kernel_rfl) (by kernel_rfl) (by kernel_rfl) (fun _ _ _ h => h) (Or.inl ⟨by rfl, ?_⟩) (by assumption) ?_
      rotate_left
      · ((intro w hSw; delta olc4_18; (try dsimp only at hSw); go_simp) <;> with_reducible rfl)
      try simp only [olc4_18, Act.put, List.setIfInBounds_toArray, List.set_cons_zero, List.set_cons_succ]
      refine wpAnyH_take (i := 19) (oi := olc4_19) (v := ?_) rfl (by kernel_rfl) (by kernel_rfl) (by kernel_rfl) (fun _ _ _ h => h) (Or.inl ⟨by rfl, ?_⟩) (by assumption) ?_
      rotate_left
      · ((intro w hSw; delta olc4_19; (try dsimp only at hSw); go_simp) <;> with_reducible rfl)
      try simp only [olc4_19, Act.put, List.setIfInBounds_toArray, List.set_cons_zero, List.set_cons_succ]
      refine wpAnyH_take (i := 20) (oi := olc4_20) (v := ?_) rfl (by kernel_rfl) (by kernel_rfl) (by kernel_rfl) (fun _ _ _ h => h) (Or.inl ⟨by rfl, ?_⟩) (by assumption) ?_
      rotate_left
      · ((intro w hSw; delta olc4_20; (try dsimp only at hSw); go_simp) <;> with_reducible rfl)
      try simp only [olc4_20, Act.put, List.setIfInBounds_toArray, List.set_cons_zero, List.set_cons_succ]
      refine wpAnyH_take (i := 21) (oi := olc4_21) (v := ?_) rfl (by kernel_rfl) (by kernel_rfl) (by kernel_rfl) (fun _ _ _ h => h) (Or.inl ⟨by rfl, ?_⟩) (by assumption) ?_
      rotate_left
      · ((intro w hSw; delta olc4_21; (try dsimp only at hSw); go_simp) <;> with_reducible rfl)
      try simp only [olc4_21, Act.put, List.setIfInBounds_toArray, List.set_cons_zero, List.set_cons_succ]
      refine wpAnyH_take (i := 22) (oi := olc4_22) (v := ?_) rfl (by kernel_rfl) (by kernel_rfl) (by kernel_rfl) (fun _ _ _ h => h) (Or.inl ⟨by rfl, ?_⟩) (by assumption) ?_
      rotate_left
      · ((intro w hSw; delta olc4_22; (try dsimp only at hSw); go_simp) <;> with_reducible rfl)
      try simp only [olc4_22, Act.put, List.setIfInBounds_toArray, List.set_cons_zero, List.set_cons_succ]
      refine wpAnyH_take (i := 23) (oi := olc4_23) (v := ?_) rfl (by kernel_rfl) (by kernel_rfl) (by kernel_rfl) (fun _ _ _ h => h) (Or.inl ⟨by rfl, ?_⟩) (by assumption) ?_
      rotate_left
      · ((intro w hSw; delta olc4_23; (try dsimp only at hSw); go_simp) <;> with_reducible rfl)
      try simp only [olc4_23, Act.put, List.setIfInBounds_toArray, List.set_cons_zero, List.set_cons_succ]
      refine wpAnyH_take (i := 24) (oi := olc4_24) (v := ?_) rfl (by kernel_rfl) (by kernel_rfl) (by kernel_rfl) (fun _ _ _ h => h) (Or.inl ⟨by rfl, ?_⟩) (by assumption) ?_
      rotate_left
      · ((intro w hSw; delta olc4_24; (try dsimp only at hSw); go_simp) <;> with_reducible rfl)
      try simp only [olc4_24, Act.put, List.setIfInBounds_toArray, List.set_cons_zero, List.set_cons_succ]
      have M2 := Lib.hid (I2.out.below HB2.out I2.out.lt); obtain ⟨t0, t1, v0, v1⟩ := span_parts M2.out
      refine wpAnyH_ready (rs := [25]) (by kernel_rfl) (by simp) ?_
      refine AllReadyH.cons (o := olc4_25) rfl (fun K hK => ?_) AllReadyH.nil
      delta olc4_25
      go_simp
      refine hK.out _ _ ?_ (fun hHeld => ?_)
      · (try dsimp only); (have k := (HS0.out _ HB2.out); exact ⟨(cell_far2 _ _ _ _ (by exact n2)).trans k.1, (cell_far2 _ _ _ _ (by exact n2)).trans k.2⟩)
      clear hK K
      try simp only [olc4_25, Act.put, List.setIfInBounds_toArray, List.set_cons_zero, List.set_cons_succ]
      refine wpAnyH_take (i := 26) (oi := olc4_26) (v := ?_) rfl (by kernel_rfl) (by kernel_rfl) (by kernel_rfl) (fun _ _ _ h => h) (Or.inl ⟨by rfl, ?_⟩) (by assumption) ?_
      rotate_left
      · ((intro w hSw; delta olc4_26; (try dsimp only at hSw); go_simp) <;> with_reducible rfl)
      try simp only [olc4_26, Act.put, List.setIfInBounds_toArray, List.set_cons_zero, List.set_cons_succ]
      refine wpAnyH_done (by kernel_rfl) ?_ _
      refine NoPanic.normal ?_
      go_wp2
      have hR := fun x y => span_res2 M2.out x y
      refine bodyPost_ret (v := .tuple #[.agg #[.int .i64 lo, .int .i64 lo], .bool true]) (by simp [results, Try.results29, go_sem, hR, qz, qw, qd]) rfl ⟨rfl, ?_⟩
      have HBo := IB.out.trans (HB2.out.mono IB.out.size)
      exact (by repeat (first | exact Below.refl _ _ | assumption | refine Below.drew ?_ | refine Below.drewN' ?_ _ | (refine Below.alloc ?_ (by simp <;> omega) _) | (refine Below.setCell ?_ (by simp <;> omega) _)))
    · have q6 : (m % 600 == 0) = false := beq_eq_false_iff_ne.2 h6
      have q9 : (m % 900 == 0) = true := beq_iff_eq.2 (by omega)
      clear hx
      go_upto_region 4 with (fail)
      refine wp_region_noPanic ?_
      refine wp_region_held_drew (S := (fun w' => w'.cell? ⟨b4, 0, none⟩ = some (.int .i64 lo) ∧ w'.cell? ⟨b4, 1, none⟩ = some (.int .i64 lo))) (by kernel_rfl) ?_ (fun hHeld => ?_)
      · (try dsimp only); (exact ⟨k0, k1⟩)
      refine wpAnyH_take (i := 0) (oi := olc4_0) (v := ?_) rfl (by kernel_rfl) (by kernel_rfl) (by kernel_rfl) (fun _ _ _ h => h) (Or.inl ⟨by rfl, ?_⟩) (by assumption) ?_
      rotate_left
      · ((intro w hSw; delta olc4_0; (try dsimp only at hSw); go_simp) <;> with_reducible rfl)
      try simp only [olc4_0, Act.put, List.setIfInBounds_toArray, List.set_cons_zero, List.set_cons_succ]
      refine wpAnyH_take (i := 1) (oi := olc4_1) (v := ?_) rfl (by kernel_rfl) (by kernel_rfl) (by kernel_rfl) (fun _ _ _ h => h) (Or.inl ⟨by rfl, ?_⟩) (by assumption) ?_
      rotate_left
      · ((intro w hSw; delta olc4_1; (try dsimp only at hSw); go_simp) <;> with_reducible rfl)
      try simp only [olc4_1, Act.put, List.setIfInBounds_toArray, List.set_cons_zero, List.set_cons_succ]
      refine wpAnyH_take (i := 2) (oi := olc4_2) (v := ?_) rfl (by kernel_rfl) (by kernel_rfl) (by kernel_rfl) (fun _ _ _ h => h) (Or.inl ⟨by rfl, ?_⟩) (by assumption) ?_
      rotate_left
      · ((intro w hSw; delta olc4_2; (try dsimp only at hSw); go_simp) <;> with_reducible rfl)
      try simp only [olc4_2, Act.put, List.setIfInBounds_toArray, List.set_cons_zero, List.set_cons_succ]
      refine wpAnyH_take (i := 3) (oi := olc4_3) (v := ?_) rfl (by kernel_rfl) (by kernel_rfl) (by kernel_rfl) (fun _ _ _ h => h) (Or.inl ⟨by rfl, ?_⟩) (by assumption) ?_
      rotate_left
      · ((intro w hSw; delta olc4_3; (try dsimp only at hSw); go_simp) <;> with_reducible rfl)
      try simp only [olc4_3, Act.put, List.setIfInBounds_toArray, List.set_cons_zero, List.set_cons_succ]
      refine wpAnyH_take (i := 4) (oi := olc4_4) (v := ?_) rfl (by kernel_rfl) (by kernel_rfl) (by kernel_rfl) (fun _ _ _ h => h) (Or.inl ⟨by rfl, ?_⟩) (by assumption) ?_
      rotate_left
      · ((intro w hSw; delta olc4_4; (try dsimp only at hSw); go_simp) <;> with_reducible rfl)
      try simp only [olc4_4, Act.put, List.setIfInBounds_toArray, List.set_cons_zero, List.set_cons_succ]
      obtain ⟨W0, hW0⟩ : ∃ V, V1.drew = V := ⟨_, rfl⟩; rw [hW0] at hHeld ⊢; have HBV : Hid (Below V1.heap.size V1 W0) := (by rw [← hW0]; exact Below.drew (Below.refl _ _)); clear hW0
      refine wpAnyH_ready (rs := [5]) (by kernel_rfl) (by simp) ?_
      refine AllReadyH.cons (o := olc4_5) rfl (fun K hK => ?_) AllReadyH.nil
      delta olc4_5
      go_simp
      (refine (lspan_any _ _ _).mono ?_; rintro e W1 ⟨rfl, hb⟩; have HB1 := Lib.hid (HBV.out.trans (hb.mono HBV.out.size)); clear hb)
      refine hK.out _ _ ?_ (fun hHeld => ?_)
      · (try dsimp only); (exact HS0.out _ HB1.out)
      clear hK K
      try simp only [olc4_5, Act.put, List.setIfInBounds_toArray, List.set_cons_zero, List.set_cons_succ]
      refine wpAnyH_ready (rs := [6]) (by kernel_rfl) (by simp) ?_
      refine AllReadyH.cons (o := olc4_6) rfl (fun K hK => ?_) AllReadyH.nil
      delta olc4_6
      go_simp
      (refine (lwithin2_any _ _ _ _ _).mono ?_; rintro e W2 ⟨rfl, hb⟩; have HB2 := Lib.hid (HB1.out.trans (hb.mono HB1.out.size)); clear hb; rw [HW.out])
      refine hK.out _ _ ?_ (fun hHeld => ?_)
      · (try dsimp only); (exact HS0.out _ HB2.out)
      clear hK K
      try simp only [olc4_6, Act.put, List.setIfInBounds_toArray, List.set_cons_zero, List.set_cons_succ]
      refine wpAnyH_take (i := 7) (oi := olc4_7) (v := ?_) rfl (by kernel_rfl) (by kernel_rfl) (by kernel_rfl) (fun _ _ _ h => h) (Or.inl ⟨by rfl, ?_⟩) (by assumption) ?_
      rotate_left
      · ((intro w hSw; delta olc4_7; (try dsimp only at hSw); go_simp) <;> with_reducible rfl)
      try simp only [olc4_7, Act.put, List.setIfInBounds_toArray, List.set_cons_zero, List.set_cons_succ]
      refine wpAnyH_take (i := 8) (oi := olc4_8) (v := ?_) rfl (by kernel_rfl) (by kernel_rfl) (by kernel_rfl) (fun _ _ _ h => h) (Or.inl ⟨by rfl, ?_⟩) (by assumption) ?_
      rotate_left
      · ((intro w hSw; delta olc4_8; (try dsimp only at hSw); go_simp) <;> with_reducible rfl)
      try simp only [olc4_8, Act.put, List.setIfInBounds_toArray, List.set_cons_zero, List.set_cons_succ]
      refine wpAnyH_take (i := 9) (oi := olc4_9) (v := ?_) rfl (by kernel_rfl) (by kernel_rfl) (by kernel_rfl) (fun _ _ _ h => h) (Or.inl ⟨by rfl, ?_⟩) (by assumption) ?_
      rotate_left
      · ((intro w hSw; delta olc4_9; (try dsimp only at hSw); go_simp) <;> with_reducible rfl)
      try simp only [olc4_9, Act.put, List.setIfInBounds_toArray, List.set_cons_zero, List.set_cons_succ]
      refine wpAnyH_take (i := 10) (oi := olc4_10) (v := ?_) rfl (by kernel_rfl) (by kernel_rfl) (by kernel_rfl) (fun _ _ _ h => h) (Or.inl ⟨by rfl, ?_⟩) (by assumption) ?_
      rotate_left
      · ((intro w hSw; delta olc4_10; (try dsimp only at hSw); go_simp) <;> with_reducible rfl)
      try simp only [olc4_10, Act.put, List.setIfInBounds_toArray, List.set_cons_zero, List.set_cons_succ]
      refine wpAnyH_take (i := 11) (oi := olc4_11) (v := ?_) rfl (by kernel_rfl) (by kernel_rfl) (by kernel_rfl) (fun _ _ _ h => h) (Or.inl ⟨by rfl, ?_⟩) (by assumption) ?_
      rotate_left
      · ((intro w hSw; delta olc4_11; (try dsimp only at hSw); go_simp) <;> with_reducible rfl)
      try simp only [olc4_11, Act.put, List.setIfInBounds_toArray, List.set_cons_zero, List.set_cons_succ]
      refine wpAnyH_take (i := 12) (oi := olc4_12) (v := ?_) rfl (by kernel_rfl) (by kernel_rfl) (by kernel_rfl) (fun _ _ _ h => h) (Or.inl ⟨by rfl, ?_⟩) (by assumption) ?_
      rotate_left
      · ((intro w hSw; delta olc4_12; (try dsimp only at hSw); go_simp) <;> with_reducible rfl)
      try simp only [olc4_12, Act.put, List.setIfInBounds_toArray, List.set_cons_zero, List.set_cons_succ]
      refine wpAnyH_take (i := 13) (oi := olc4_13) (v := ?_) rfl (by kernel_rfl) (by kernel_rfl) (by kernel_rfl) (fun _ _ _ h => h) (Or.inl ⟨by rfl, ?_⟩) (by assumption) ?_
      rotate_left
      · ((intro w hSw; delta olc4_13; (try dsimp only at hSw); go_simp) <;> with_reducible rfl)
      try simp only [olc4_13, Act.put, List.setIfInBounds_toArray, List.set_cons_zero, List.set_cons_succ]
      refine wpAnyH_take (i := 14) (oi := olc4_14) (v := ?_) rfl (by kernel_rfl) (by kernel_rfl) (by kernel_rfl) (fun _ _ _ h => h) (Or.inl ⟨by rfl, ?_⟩) (by assumption) ?_
      rotate_left
      · ((intro w hSw; delta olc4_14; (try dsimp only at hSw); go_simp) <;> with_reducible rfl)
      try simp only [olc4_14, Act.put, List.setIfInBounds_toArray, List.set_cons_zero, List.set_cons_succ]
      refine wpAnyH_take (i := 15) (oi := olc4_15) (v := ?_) rfl (by kernel_rfl) (by kernel_rfl) (by kernel_rfl) (fun _ _ _ h => h) (Or.inl ⟨by rfl, ?_⟩) (by assumption) ?_
      rotate_left
      · ((intro w hSw; delta olc4_15; (try dsimp only at hSw); go_simp) <;> with_reducible rfl)
      try simp only [olc4_15, Act.put, List.setIfInBounds_toArray, List.set_cons_zero, List.set_cons_succ]
      refine wpAnyH_take (i := 16) (oi := olc4_16) (v := ?_) rfl (by kernel_rfl) (by kernel_rfl) (by kernel_rfl) (fun _ _ _ h => h) (Or.inl ⟨by rfl, ?_⟩) (by assumption) ?_
      rotate_left
      · ((intro w hSw; delta olc4_16; (try dsimp only at hSw); go_simp) <;> with_reducible rfl)
      try simp only [olc4_16, Act.put, List.setIfInBounds_toArray, List.set_cons_zero, List.set_cons_succ]
      refine wpAnyH_take (i := 17) (oi := olc4_17) (v := ?_) rfl (by kernel_rfl) (by kernel_rfl) (by kernel_rfl) (fun _ _ _ h => h) (Or.inl ⟨by rfl, ?_⟩) (by assumption) ?_
      rotate_left
      · ((intro w hSw; delta olc4_17; (try dsimp only at hSw); go_simp) <;> with_reducible rfl)
      try simp only [olc4_17, Act.put, List.setIfInBounds_toArray, List.set_cons_zero, List.set_cons_succ]
      refine wpAnyH_take (i := 18) (oi := olc4_18) (v := ?_) rfl (by kernel_rfl) (by kernel_rfl) (by kernel_rfl) (fun _ _ _ h => h) (Or.inl ⟨by rfl, ?_⟩) (by assumption) ?_
      rotate_left
      · ((intro w hSw; delta olc4_18; (try dsimp only at hSw); go_simp) <;> with_reducible rfl)
      try simp only [olc4_18, Act.put, List.setIfInBounds_toArray, List.set_cons_zero, List.set_cons_succ]
      refine wpAnyH_take (i := 19) (oi := olc4_19) (v := ?_) rfl (by kernel_rfl) (by kernel_rfl) (by kernel_rfl) (fun _ _ _ h => h) (Or.inl ⟨by rfl, ?_⟩) (by assumption) ?_
      rotate_left
      · ((intro w hSw; delta olc4_19; (try dsimp only at hSw); go_simp) <;> with_reducible rfl)
      try simp only [olc4_19, Act.put, List.setIfInBounds_toArray, List.set_cons_zero, List.set_cons_succ]
      refine wpAnyH_take (i := 20) (oi := olc4_20) (v := ?_) rfl (by kernel_rfl) (by kernel_rfl) (by kernel_rfl) (fun _ _ _ h => h) (Or.inl ⟨by rfl, ?_⟩) (by assumption) ?_
      rotate_left
      · ((intro w hSw; delta olc4_20; (try dsimp only at hSw); go_simp) <;> with_reducible rfl)
      try simp only [olc4_20, Act.put, List.setIfInBounds_toArray, List.set_cons_zero, List.set_cons_succ]
      refine wpAnyH_take (i := 21) (oi := olc4_21) (v := ?_) rfl (by kernel_rfl) (by kernel_rfl) (by kernel_rfl) (fun _ _ _ h => h) (Or.inl ⟨by rfl, ?_⟩) (by assumption) ?_
      rotate_left
      · ((intro w hSw; delta olc4_21; (try dsimp only at hSw); go_simp) <;> with_reducible rfl)
      try simp only [olc4_21, Act.put, List.setIfInBounds_toArray, List.set_cons_zero, List.set_cons_succ]
      refine wpAnyH_take (i := 22) (oi := olc4_22) (v := ?_) rfl (by kernel_rfl) (by kernel_rfl) (by kernel_rfl) (fun _ _ _ h => h) (Or.inl ⟨by rfl, ?_⟩) (by assumption) ?_
      rotate_left
      · ((intro w hSw; delta olc4_22; (try dsimp only at hSw); go_simp) <;> with_reducible rfl)
      try simp only [olc4_22, Act.put, List.setIfInBounds_toArray, List.set_cons_zero, List.set_cons_succ]
      refine wpAnyH_take (i := 23) (oi := olc4_23) (v := ?_) rfl (by kernel_rfl) (by kernel_rfl) (by kernel_rfl) (fun _ _ _ h => h) (Or.inl ⟨by rfl, ?_⟩) (by assumption) ?_
      rotate_left
      · ((intro w hSw; delta olc4_23; (try dsimp only at hSw); go_simp) <;> with_reducible rfl)
      try simp only [olc4_23, Act.put, List.setIfInBounds_toArray, List.set_cons_zero, List.set_cons_succ]
      refine wpAnyH_take (i := 24) (oi := olc4_24) (v := ?_) rfl (by kernel_rfl) (by kernel_rfl) (by kernel_rfl) (fun _ _ _ h => h) (Or.inl ⟨by rfl, ?_⟩) (by assumption) ?_
      rotate_left
      · ((intro w hSw; delta olc4_24; (try dsimp only at hSw); go_simp) <;> with_reducible rfl)
      try simp only [olc4_24, Act.put, List.setIfInBounds_toArray, List.set_cons_zero, List.set_cons_succ]
      have M2 := Lib.hid (I2.out.below HB2.out I2.out.lt); obtain ⟨t0, t1, v0, v1⟩ := span_parts M2.out
      refine wpAnyH_ready (rs := [25]) (by kernel_rfl) (by simp) ?_
      refine AllReadyH.cons (o := olc4_25) rfl (fun K hK => ?_) AllReadyH.nil
      delta olc4_25
      go_simp
      refine hK.out _ _ ?_ (fun hHeld => ?_)
      · (try dsimp only); (have k := (HS0.out _ HB2.out); exact ⟨(cell_far2 _ _ _ _ (by exact n2)).trans k.1, (cell_far2 _ _ _ _ (by exact n2)).trans k.2⟩)
      clear hK K
      try simp only [olc4_25, Act.put, List.setIfInBounds_toArray, List.set_cons_zero, List.set_cons_succ]
      refine wpAnyH_take (i := 26) (oi := olc4_26) (v := ?_) rfl (by kernel_rfl) (by kernel_rfl) (by kernel_rfl) (fun _ _ _ h => h) (Or.inl ⟨by rfl, ?_⟩) (by assumption) ?_
      rotate_left
      · ((intro w hSw; delta olc4_26; (try dsimp only at hSw); go_simp) <;> with_reducible rfl)
      try simp only [olc4_26, Act.put, List.setIfInBounds_toArray, List.set_cons_zero, List.set_cons_succ]
      refine wpAnyH_done (by kernel_rfl) ?_ _
      refine NoPanic.normal ?_
      go_wp2
      have hR := fun x y => span_res2 M2.out x y
      refine bodyPost_ret (v := .tuple #[.agg #[.int .i64 lo, .int .i64 lo], .bool true]) (by simp [results, Try.results29, go_sem, hR, qz, qw, qd]) rfl ⟨rfl, ?_⟩
      have HBo := IB.out.trans (HB2.out.mono IB.out.size)
      exact (by repeat (first | exact Below.refl _ _ | assumption | refine Below.drew ?_ | refine Below.drewN' ?_ _ | (refine Below.alloc ?_ (by simp <;> omega) _) | (refine Below.setCell ?_ (by simp <;> omega) _)))
  · have HS0 : Hid (∀ W, Below V1.heap.size V1 W → W.cell? ⟨b4, 0, none⟩ = some (.int .i64 lo) ∧ W.cell? ⟨b4, 1, none⟩ = some (.int .i64 hi)) := fun W hW => by
      have b := J4.out.below hW J4.out.lt
      exact ⟨b.cell 0, b.cell 1⟩
    obtain ⟨k0, k1⟩ := HS0.out _ (Below.drew (Below.refl V1.heap.size V1))
    have hne : ¬ lo = hi := fun h => hx (hX.1 h)
    have qn : (lo == hi) = false := beq_eq_false_iff_ne.2 hne
    have q6 : (m % 600 == 0) = false := beq_eq_false_iff_ne.2 (fun h => hx (.inl h))
    have q9 : (m % 900 == 0) = false := beq_eq_false_iff_ne.2 (fun h => hx (.inr h))
    clear hX hx
    go_upto_region 4 with (fail)
    refine wp_region_noPanic ?_
    refine wp_region_held_drew (S := (fun w' => w'.cell? ⟨b4, 0, none⟩ = some (.int .i64 lo) ∧ w'.cell? ⟨b4, 1, none⟩ = some (.int .i64 hi))) (by kernel_rfl) ?_ (fun hHeld => ?_)
    · (try dsimp only); (exact ⟨k0, k1⟩)
    refine wpAnyH_take (i := 0) (oi := olc4_0) (v := ?_) rfl (by kernel_rfl) (by kernel_rfl) (by kernel_rfl) (fun _ _ _ h => h) (Or.inl ⟨by rfl, ?_⟩) (by assumption) ?_
    rotate_left
    · ((intro w hSw; delta olc4_0; (try dsimp only at hSw); go_simp) <;> with_reducible rfl)
    try simp only [olc4_0, Act.put, List.setIfInBounds_toArray, List.set_cons_zero, List.set_cons_succ]
    refine wpAnyH_take (i := 1) (oi := olc4_1) (v := ?_) rfl (by kernel_rfl) (by kernel_rfl) (by kernel_rfl) (fun _ _ _ h => h) (Or.inl ⟨by rfl, ?_⟩) (by assumption) ?_
    rotate_left
    · ((intro w hSw; delta olc4_1; (try dsimp only at hSw); go_simp) <;> with_reducible rfl)
    try simp only [olc4_1, Act.put, List.setIfInBounds_toArray, List.set_cons_zero, List.set_cons_succ]
    refine wpAnyH_take (i := 2) (oi := olc4_2) (v := ?_) rfl (by kernel_rfl) (by kernel_rfl) (by kernel_rfl) (fun _ _ _ h => h) (Or.inl ⟨by rfl, ?_⟩) (by assumption) ?_
    rotate_left
    · ((intro w hSw; delta olc4_2; (try dsimp only at hSw); go_simp) <;> with_reducible rfl)
    try simp only [olc4_2, Act.put, List.setIfInBounds_toArray, List.set_cons_zero, List.set_cons_succ]
    refine wpAnyH_take (i := 3) (oi := olc4_3) (v := ?_) rfl (by kernel_rfl) (by kernel_rfl) (by kernel_rfl) (fun _ _ _ h => h) (Or.inl ⟨by rfl, ?_⟩) (by assumption) ?_
    rotate_left
    · ((intro w hSw; delta olc4_3; (try dsimp only at hSw); go_simp) <;> with_reducible rfl)
    try simp only [olc4_3, Act.put, List.setIfInBounds_toArray, List.set_cons_zero, List.set_cons_succ]
    refine wpAnyH_take (i := 4) (oi := olc4_4) (v := ?_) rfl (by kernel_rfl) (by kernel_rfl) (by kernel_rfl) (fun _ _ _ h => h) (Or.inl ⟨by rfl, ?_⟩) (by assumption) ?_
    rotate_left
    · ((intro w hSw; delta olc4_4; (try dsimp only at hSw); go_simp) <;> with_reducible rfl)
    try simp only [olc4_4, Act.put, List.setIfInBounds_toArray, List.set_cons_zero, List.set_cons_succ]
    obtain ⟨W0, hW0⟩ : ∃ V, V1.drew = V := ⟨_, rfl⟩; rw [hW0] at hHeld ⊢; have HBV : Hid (Below V1.heap.size V1 W0) := (by rw [← hW0]; exact Below.drew (Below.refl _ _)); clear hW0
    refine wpAnyH_ready (rs := [5]) (by kernel_rfl) (by simp) ?_
    refine AllReadyH.cons (o := olc4_5) rfl (fun K hK => ?_) AllReadyH.nil
    delta olc4_5
    go_simp
    (refine (lspan_any _ _ _).mono ?_; rintro e W1 ⟨rfl, hb⟩; have HB1 := Lib.hid (HBV.out.trans (hb.mono HBV.out.size)); clear hb)
    refine hK.out _ _ ?_ (fun hHeld => ?_)
    · (try dsimp only); (exact HS0.out _ HB1.out)
    clear hK K
    try simp only [olc4_5, Act.put, List.setIfInBounds_toArray, List.set_cons_zero, List.set_cons_succ]
    refine wpAnyH_ready (rs := [6]) (by kernel_rfl) (by simp) ?_
    refine AllReadyH.cons (o := olc4_6) rfl (fun K hK => ?_) AllReadyH.nil
    delta olc4_6
    go_simp
    (refine (lwithin2_any _ _ _ _ _).mono ?_; rintro e W2 ⟨rfl, hb⟩; have HB2 := Lib.hid (HB1.out.trans (hb.mono HB1.out.size)); clear hb; rw [HW.out])
    refine hK.out _ _ ?_ (fun hHeld => ?_)
    · (try dsimp only); (exact HS0.out _ HB2.out)
    clear hK K
    try simp only [olc4_6, Act.put, List.setIfInBounds_toArray, List.set_cons_zero, List.set_cons_succ]
    refine wpAnyH_take (i := 7) (oi := olc4_7) (v := ?_) rfl (by kernel_rfl) (by kernel_rfl) (by kernel_rfl) (fun _ _ _ h => h) (Or.inl ⟨by rfl, ?_⟩) (by assumption) ?_
    rotate_left
    · ((intro w hSw; delta olc4_7; (try dsimp only at hSw); go_simp) <;> with_reducible rfl)
    try simp only [olc4_7, Act.put, List.setIfInBounds_toArray, List.set_cons_zero, List.set_cons_succ]
    refine wpAnyH_take (i := 8) (oi := olc4_8) (v := ?_) rfl (by kernel_rfl) (by kernel_rfl) (by kernel_rfl) (fun _ _ _ h => h) (Or.inl ⟨by rfl, ?_⟩) (by assumption) ?_
    rotate_left
    · ((intro w hSw; delta olc4_8; (try dsimp only at hSw); go_simp) <;> with_reducible rfl)
    try simp only [olc4_8, Act.put, List.setIfInBounds_toArray, List.set_cons_zero, List.set_cons_succ]
    refine wpAnyH_take (i := 9) (oi := olc4_9) (v := ?_) rfl (by kernel_rfl) (by kernel_rfl) (by kernel_rfl) (fun _ _ _ h => h) (Or.inl ⟨by rfl, ?_⟩) (by assumption) ?_
    rotate_left
    · ((intro w hSw; delta olc4_9; (try dsimp only at hSw); go_simp) <;> with_reducible rfl)
    try simp only [olc4_9, Act.put, List.setIfInBounds_toArray, List.set_cons_zero, List.set_cons_succ]
    refine wpAnyH_take (i := 10) (oi := olc4_10) (v := ?_) rfl (by kernel_rfl) (by kernel_rfl) (by kernel_rfl) (fun _ _ _ h => h) (Or.inl ⟨by rfl, ?_⟩) (by assumption) ?_
    rotate_left
    · ((intro w hSw; delta olc4_10; (try dsimp only at hSw); go_simp) <;> with_reducible rfl)
    try simp only [olc4_10, Act.put, List.setIfInBounds_toArray, List.set_cons_zero, List.set_cons_succ]
    refine wpAnyH_take (i := 11) (oi := olc4_11) (v := ?_) rfl (by kernel_rfl) (by kernel_rfl) (by kernel_rfl) (fun _ _ _ h => h) (Or.inl ⟨by rfl, ?_⟩) (by assumption) ?_
    rotate_left
    · ((intro w hSw; delta olc4_11; (try dsimp only at hSw); go_simp) <;> with_reducible rfl)
    try simp only [olc4_11, Act.put, List.setIfInBounds_toArray, List.set_cons_zero, List.set_cons_succ]
    refine wpAnyH_take (i := 12) (oi := olc4_12) (v := ?_) rfl (by kernel_rfl) (by kernel_rfl) (by kernel_rfl) (fun _ _ _ h => h) (Or.inl ⟨by rfl, ?_⟩) (by assumption) ?_
    rotate_left
    · ((intro w hSw; delta olc4_12; (try dsimp only at hSw); go_simp) <;> with_reducible rfl)
    try simp only [olc4_12, Act.put, List.setIfInBounds_toArray, List.set_cons_zero, List.set_cons_succ]
    refine wpAnyH_take (i := 13) (oi := olc4_13) (v := ?_) rfl (by kernel_rfl) (by kernel_rfl) (by kernel_rfl) (fun _ _ _ h => h) (Or.inl ⟨by rfl, ?_⟩) (by assumption) ?_
    rotate_left
    · ((intro w hSw; delta olc4_13; (try dsimp only at hSw); go_simp) <;> with_reducible rfl)
    try simp only [olc4_13, Act.put, List.setIfInBounds_toArray, List.set_cons_zero, List.set_cons_succ]
    refine wpAnyH_take (i := 14) (oi := olc4_14) (v := ?_) rfl (by kernel_rfl) (by kernel_rfl) (by kernel_rfl) (fun _ _ _ h => h) (Or.inl ⟨by rfl, ?_⟩) (by assumption) ?_
    rotate_left
    · ((intro w hSw; delta olc4_14; (try dsimp only at hSw); go_simp) <;> with_reducible rfl)
    try simp only [olc4_14, Act.put, List.setIfInBounds_toArray, List.set_cons_zero, List.set_cons_succ]
    refine wpAnyH_take (i := 15) (oi := olc4_15) (v := ?_) rfl (by kernel_rfl) (by kernel_rfl) (by kernel_rfl) (fun _ _ _ h => h) (Or.inl ⟨by rfl, ?_⟩) (by assumption) ?_
    rotate_left
    · ((intro w hSw; delta olc4_15; (try dsimp only at hSw); go_simp) <;> with_reducible rfl)
    try simp only [olc4_15, Act.put, List.setIfInBounds_toArray, List.set_cons_zero, List.set_cons_succ]
    refine wpAnyH_take (i := 16) (oi := olc4_16) (v := ?_) rfl (by kernel_rfl) (by kernel_rfl) (by kernel_rfl) (fun _ _ _ h => h) (Or.inl ⟨by rfl, ?_⟩) (by assumption) ?_
    rotate_left
    · ((intro w hSw; delta olc4_16; (try dsimp only at hSw); go_simp) <;> with_reducible rfl)
    try simp only [olc4_16, Act.put, List.setIfInBounds_toArray, List.set_cons_zero, List.set_cons_succ]
    refine wpAnyH_take (i := 17) (oi := olc4_17) (v := ?_) rfl (by kernel_rfl) (by kernel_rfl) (by kernel_rfl) (fun _ _ _ h => h) (Or.inl ⟨by rfl, ?_⟩) (by assumption) ?_
    rotate_left
    · ((intro w hSw; delta olc4_17; (try dsimp only at hSw); go_simp) <;> with_reducible rfl)
    try simp only [olc4_17, Act.put, List.setIfInBounds_toArray, List.set_cons_zero, List.set_cons_succ]
    refine wpAnyH_take (i := 18) (oi := olc4_18) (v := ?_) rfl (by kernel_rfl) (by kernel_rfl) (by kernel_rfl) (fun _ _ _ h => h) (Or.inl ⟨by rfl, ?_⟩) (by assumption) ?_
    rotate_left
    · ((intro w hSw; delta olc4_18; (try dsimp only at hSw); go_simp) <;> with_reducible rfl)
    try simp only [olc4_18, Act.put, List.setIfInBounds_toArray, List.set_cons_zero, List.set_cons_succ]
    refine wpAnyH_take (i := 19) (oi := olc4_19) (v := ?_) rfl (by kernel_rfl) (by kernel_rfl) (by kernel_rfl) (fun _ _ _ h => h) (Or.inl ⟨by rfl, ?_⟩) (by assumption) ?_
    rotate_left
    · ((intro w hSw; delta olc4_19; (try dsimp only at hSw); go_simp) <;> with_reducible rfl)
    try simp only [olc4_19, Act.put, List.setIfInBounds_toArray, List.set_cons_zero, List.set_cons_succ]
    refine wpAnyH_take (i := 20) (oi := olc4_20) (v := ?_) rfl (by kernel_rfl) (by kernel_rfl) (by kernel_rfl) (fun _ _ _ h => h) (Or.inl ⟨by rfl, ?_⟩) (by assumption) ?_
    rotate_left
    · ((intro w hSw; delta olc4_20; (try dsimp only at hSw); go_simp) <;> with_reducible rfl)
    try simp only [olc4_20, Act.put, List.setIfInBounds_toArray, List.set_cons_zero, List.set_cons_succ]
    refine wpAnyH_take (i := 21) (oi := olc4_21) (v := ?_) rfl (by kernel_rfl) (by kernel_rfl) (by kernel_rfl) (fun _ _ _ h => h) (Or.inl ⟨by rfl, ?_⟩) (by assumption) ?_
    rotate_left
    · ((intro w hSw; delta olc4_21; (try dsimp only at hSw); go_simp) <;> with_reducible rfl)
    try simp only [olc4_21, Act.put, List.setIfInBounds_toArray, List.set_cons_zero, List.set_cons_succ]
    refine wpAnyH_take (i := 22) (oi := olc4_22) (v := ?_) rfl (by kernel_rfl) (by kernel_rfl) (by kernel_rfl) (fun _ _ _ h => h) (Or.inl ⟨by rfl, ?_⟩) (by assumption) ?_
    rotate_left
    · ((intro w hSw; delta olc4_22; (try dsimp only at hSw); go_simp) <;> with_reducible rfl)
    try simp only [olc4_22, Act.put, List.setIfInBounds_toArray, List.set_cons_zero, List.set_cons_succ]
    refine wpAnyH_take (i := 23) (oi := olc4_23) (v := ?_) rfl (by kernel_rfl) (by kernel_rfl) (by kernel_rfl) (fun _ _ _ h => h) (Or.inl ⟨by rfl, ?_⟩) (by assumption) ?_
    rotate_left
    · ((intro w hSw; delta olc4_23; (try dsimp only at hSw); go_simp) <;> with_reducible rfl)
    try simp only [olc4_23, Act.put, List.setIfInBounds_toArray, List.set_cons_zero, List.set_cons_succ]
    refine wpAnyH_take (i := 24) (oi := olc4_24) (v := ?_) rfl (by kernel_rfl) (by kernel_rfl) (by kernel_rfl) (fun _ _ _ h => h) (Or.inl ⟨by rfl, ?_⟩) (by assumption) ?_
    rotate_left
    · ((intro w hSw; delta olc4_24; (try dsimp only at hSw); go_simp) <;> with_reducible rfl)
    try simp only [olc4_24, Act.put, List.setIfInBounds_toArray, List.set_cons_zero, List.set_cons_succ]
    have M2 := Lib.hid (I2.out.below HB2.out I2.out.lt); obtain ⟨t0, t1, v0, v1⟩ := span_parts M2.out
    refine wpAnyH_ready (rs := [25]) (by kernel_rfl) (by simp) ?_
    refine AllReadyH.cons (o := olc4_25) rfl (fun K hK => ?_) AllReadyH.nil
    delta olc4_25
    go_simp
    refine hK.out _ _ ?_ (fun hHeld => ?_)
    · (try dsimp only); (have k := (HS0.out _ HB2.out); exact ⟨(cell_far2 _ _ _ _ (by exact n2)).trans k.1, (cell_far2 _ _ _ _ (by exact n2)).trans k.2⟩)
    clear hK K
    try simp only [olc4_25, Act.put, List.setIfInBounds_toArray, List.set_cons_zero, List.set_cons_succ]
    refine wpAnyH_take (i := 26) (oi := olc4_26) (v := ?_) rfl (by kernel_rfl) (by kernel_rfl) (by kernel_rfl) (fun _ _ _ h => h) (Or.inl ⟨by rfl, ?_⟩) (by assumption) ?_
    rotate_left
    · ((intro w hSw; delta olc4_26; (try dsimp only at hSw); go_simp) <;> with_reducible rfl)
    try simp only [olc4_26, Act.put, List.setIfInBounds_toArray, List.set_cons_zero, List.set_cons_succ]
    refine wpAnyH_done (by kernel_rfl) ?_ _
    refine NoPanic.normal ?_
    go_wp2
    have hR := fun x y => span_res2 M2.out x y
    refine bodyPost_ret (v := .tuple #[.agg #[.int .i64 lo, .int .i64 hi], .bool true]) (by simp [results, Try.results29, go_sem, hR, qz, qw, qd]) rfl ⟨rfl, ?_⟩
    have HBo := IB.out.trans (HB2.out.mono IB.out.size)
    exact (by repeat (first | exact Below.refl _ _ | assumption | refine Below.drew ?_ | refine Below.drewN' ?_ _ | (refine Below.alloc ?_ (by simp <;> omega) _) | (refine Below.setCell ?_ (by simp <;> omega) _)))
end Go.Proofs.Ytfblpokjbopagaa
