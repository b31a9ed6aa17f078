/-
  Layer 2, the program: products, remainders, bounds.
-/
import Derived.Test.YtfblpokjbopagaaME
import Derived.Test.YtfblpokjbopagaaMF
import Derived.Test.YtfblpokjbopagaaMA
set_option linter.unusedSimpArgs false
set_option linter.unusedVariables false
namespace Go.Proofs.Ytfblpokjbopagaa
open Go.RowKit

theorem product_any (a b : Int) (w : World) (ha : 0 ≤ a) (hb : 0 ≤ b) (ha2 : a < 18446744073709551616) (hb2 : b < 18446744073709551616) (h : a * b < 21267647932558653966460912964485513216) :
    Calls Try.prog 73 #[.int .u64 a, .int .u64 b] w fun e w' => e = .returned (.int .u64 (mulZ a b)) ∧ w = w' := by
  obtain ⟨x, rfl⟩ := Int.eq_ofNat_of_zero_le ha
  obtain ⟨y, rfl⟩ := Int.eq_ofNat_of_zero_le hb
  have hm : x * y < 21267647932558653966460912964485513216 := by rw [← Int.natCast_mul] at h; omega
  have hv : mulZ (x : Int) (y : Int) = ((x * y / 1152921504606846976 : Nat) : Int) := by unfold mulZ; rw [← Int.natCast_mul]; omega
  have ho := or_words (x * y) hm
  have hc := fun w => Try.bits_Mul64 x y (by omega) (by omega) w
  rw [hv]
  clear hv h ha hb
  generalize x * y = m at *
  have e1 : IntKind.u64.wrap (((m / 18446744073709551616 : Nat) : Int) * 16) = ((m / 18446744073709551616 * 16 : Nat) : Int) := by rw [IntKind.wrap_u64]; omega
  have e2 : ((m % 18446744073709551616 : Nat) : Int) / 1152921504606846976 = ((m % 18446744073709551616 / 1152921504606846976 : Nat) : Int) := by omega
  go_enter Try.func73, Try.ntmps73
  go_wp2_with fail
  refine (hc _).mono ?_
  rintro e w1 ⟨rfl, rfl⟩
  clear hc
  go_wp2
  go_ret
  refine ⟨?_, rfl⟩
  show Ending.returned (Value.int .u64 (bits .or .u64 ((m : Int) / 18446744073709551616 * 16) ((m : Int) % 18446744073709551616 / 1152921504606846976))) = _
  rw [← ho]
  simp only [Int.natCast_mul, Int.natCast_ediv, Int.natCast_emod]
  rfl
theorem modulo_any (a d : Int) (w : World) (hd : 0 < d) (hd2 : d ≤ 1000000000) (ha : -9223372036854775808 ≤ a ∧ a ≤ 9223372036854775807) :
    Calls Try.prog 65 #[.int .i64 a, .int .i64 d] w fun e w' => e = .returned (.int .i64 (a % d)) ∧ w = w' := by
  have e := Int.mul_tdiv_add_tmod a d
  have l := Int.tmod_lt_of_pos a hd
  have l2 := Int.lt_tmod_of_pos a hd
  by_cases h : a.tmod d < 0
  · have k := (Int.ediv_emod_unique hd (q := a.tdiv d - 1) (r := a.tmod d + d) (a := a)).2 ⟨by rw [Int.mul_sub]; omega, by omega, by omega⟩
    have k2 := k.2
    clear e k
    go_enter Try.func65, Try.ntmps65
    go_wp2
    go_ret
    rw [k2]
    exact ⟨rfl, rfl⟩
  · have k := (Int.ediv_emod_unique hd (q := a.tdiv d) (r := a.tmod d) (a := a)).2 ⟨by omega, by omega, by omega⟩
    have k2 := k.2
    have h' : 0 ≤ a.tmod d := by omega
    clear e k
    go_enter Try.func65, Try.ntmps65
    go_wp2
    go_ret
    exact ⟨rfl, rfl⟩
theorem floor_any (a : Int) (w : World) (ha : -9000000000000000000 ≤ a ∧ a ≤ 9000000000000000000) :
    Calls Try.prog 69 #[.int .i64 a] w fun e w' => e = .returned (.int .i64 (downZ a 65536)) ∧ w = w' := by
  have hv : (a - a % 65536).tdiv 65536 = downZ a 65536 := by
    unfold downZ
    rw [show a - a % 65536 = a / 65536 * 65536 by omega, Int.mul_tdiv_cancel _ (by omega)]
  have h1 : 0 ≤ a % 65536 ∧ a % 65536 < 65536 := by omega
  have h2 := down_rng (a := a) (b := 65536) (M := 9000000000000000000) (by omega) ha
  go_enter Try.func69, Try.ntmps69
  go_wp2_with fail
  refine (modulo_any _ _ _ (by omega) (by omega) (by omega)).mono ?_
  rintro e w1 ⟨rfl, rfl⟩
  generalize a % 65536 = r at *
  go_wp2
  go_ret
  exact ⟨rfl, rfl⟩
theorem exactly_any (a : Int) (w : World) :
    Calls Try.prog 55 #[.int .i64 a] w fun e w' => e = .returned (.agg #[.int .i64 a, .int .i64 a]) ∧ Below w.heap.size w w' := by
  go_enter Try.func55, Try.ntmps55
  go_wp2
  refine bodyPost_ret (v := .agg #[.int .i64 a, .int .i64 a]) (by simp [results, Try.results55, go_sem]) rfl ⟨rfl, ?_⟩
  exact (by repeat (first | exact Below.refl _ _ | assumption | refine Below.drew ?_ | refine Below.drewN' ?_ _ | (refine Below.alloc ?_ (by simp <;> omega) _) | (refine Below.setCell ?_ (by simp <;> omega) _)))
theorem plus_any (a b c d : Int) (w : World) (h1 : -9000000000000000000 ≤ a + c ∧ a + c ≤ 9000000000000000000) (h2 : -9000000000000000000 ≤ b + d ∧ b + d ≤ 9000000000000000000) :
    Calls Try.prog 56 #[.agg #[.int .i64 a, .int .i64 b], .agg #[.int .i64 c, .int .i64 d]] w fun e w' => e = .returned (.agg #[.int .i64 (a + c), .int .i64 (b + d)]) ∧ Below w.heap.size w w' := by
  go_enter Try.func56, Try.ntmps56
  go_wp2
  refine bodyPost_ret (v := .agg #[.int .i64 (a + c), .int .i64 (b + d)]) (by simp [results, Try.results56, go_sem]) rfl ⟨rfl, ?_⟩
  exact (by repeat (first | exact Below.refl _ _ | assumption | refine Below.drew ?_ | refine Below.drewN' ?_ _ | (refine Below.alloc ?_ (by simp <;> omega) _) | (refine Below.setCell ?_ (by simp <;> omega) _)))
theorem times_any (a b c : Int) (w : World) (h1 : -9000000000000000000 ≤ a * c ∧ a * c ≤ 9000000000000000000) (h2 : -9000000000000000000 ≤ b * c ∧ b * c ≤ 9000000000000000000) :
    Calls Try.prog 58 #[.agg #[.int .i64 a, .int .i64 b], .int .i64 c] w fun e w' => e = .returned (.agg #[.int .i64 (a * c), .int .i64 (b * c)]) ∧ Below w.heap.size w w' := by
  have e1 : IntKind.i64.wrap (a * c) = a * c := IntWalk.i64_in _ (by omega)
  have e2 : IntKind.i64.wrap (b * c) = b * c := IntWalk.i64_in _ (by omega)
  go_enter Try.func58, Try.ntmps58
  go_wp2
  refine bodyPost_ret (v := .agg #[.int .i64 (a * c), .int .i64 (b * c)]) (by simp [results, Try.results58, go_sem]) rfl ⟨rfl, ?_⟩
  exact (by repeat (first | exact Below.refl _ _ | assumption | refine Below.drew ?_ | refine Below.drewN' ?_ _ | (refine Below.alloc ?_ (by simp <;> omega) _) | (refine Below.setCell ?_ (by simp <;> omega) _)))
theorem negative_any (a b : Int) (w : World) (h1 : -9000000000000000000 ≤ a ∧ a ≤ 9000000000000000000) (h2 : -9000000000000000000 ≤ b ∧ b ≤ 9000000000000000000) :
    Calls Try.prog 67 #[.agg #[.int .i64 a, .int .i64 b]] w fun e w' => e = .returned (.agg #[.int .i64 (-b), .int .i64 (-a)]) ∧ Below w.heap.size w w' := by
  go_enter Try.func67, Try.ntmps67
  go_wp2
  refine bodyPost_ret (v := .agg #[.int .i64 (-b), .int .i64 (-a)]) (by simp [results, Try.results67, go_sem]) rfl ⟨rfl, ?_⟩
  exact (by repeat (first | exact Below.refl _ _ | assumption | refine Below.drew ?_ | refine Below.drewN' ?_ _ | (refine Below.alloc ?_ (by simp <;> omega) _) | (refine Below.setCell ?_ (by simp <;> omega) _)))
theorem with_any (a b c d : Int) (w : World) :
    Calls Try.prog 51 #[.agg #[.int .i64 a, .int .i64 b], .agg #[.int .i64 c, .int .i64 d]] w fun e w' => e = .returned (.agg #[.int .i64 (min a c), .int .i64 (max b d)]) ∧ Below w.heap.size w w' := by
  go_enter Try.func51, Try.ntmps51
  go_wp2
  all_goals
    refine bodyPost_ret (v := .agg #[.int .i64 (min a c), .int .i64 (max b d)]) (by simp [results, Try.results51, go_sem]; omega) rfl ⟨rfl, ?_⟩
    exact (by repeat (first | exact Below.refl _ _ | assumption | refine Below.drew ?_ | refine Below.drewN' ?_ _ | (refine Below.alloc ?_ (by simp <;> omega) _) | (refine Below.setCell ?_ (by simp <;> omega) _)))
theorem within_any (n a b : Int) (w : World) :
    Calls Try.prog 41 #[.int .i64 n, .int .i64 a, .int .i64 b] w fun e w' => e = .returned (.bool (decide (a ≤ n ∧ n ≤ b))) ∧ w = w' := by
  by_cases h1 : a ≤ n
  all_goals by_cases h2 : n ≤ b
  all_goals
    go_enter Try.func41, Try.ntmps41
    go_wp2
    go_ret
    exact ⟨by simp [h1, h2], rfl⟩
theorem isSpan_any (a b lo hi : Int) (w : World) :
    Calls Try.prog 36 #[.agg #[.int .i64 a, .int .i64 b], .int .i64 lo, .int .i64 hi] w fun e w' => e = .returned (.bool (decide (a ≤ b ∧ lo ≤ a ∧ b ≤ hi))) ∧ Below w.heap.size w w' := by
  by_cases h1 : a ≤ b
  all_goals by_cases h2 : lo ≤ a
  all_goals by_cases h3 : b ≤ hi
  all_goals
    go_enter Try.func36, Try.ntmps36
    go_wp2
    go_ret
    exact ⟨by simp [h1, h2, h3], (by repeat (first | exact Below.refl _ _ | assumption | refine Below.drew ?_ | refine Below.drewN' ?_ _ | (refine Below.alloc ?_ (by simp <;> omega) _) | (refine Below.setCell ?_ (by simp <;> omega) _)))⟩
end Go.Proofs.Ytfblpokjbopagaa
/-
  Layer 2, the program: the terms of a cosine, one by one.
-/
namespace Go.Proofs.Ytfblpokjbopagaa
open Go.RowKit

def otm2_0 : Oper := { dst := some 6, op := Op.load 108 (Operand.tmp 0), type := 108, pos := "cosine.go:91", after := #[], guard := none }
def otm2_1 : Oper := { dst := some 7, op := Op.load 108 (Operand.tmp 1), type := 108, pos := "cosine.go:91", after := #[], guard := none }
def otm2_2 : Oper := { dst := some 8, op := Op.call { callee := Callee.value (Operand.func 73), args := #[Operand.tmp 6, Operand.tmp 7], argTypes := #[108, 108] }, type := 108, pos := "cosine.go:91", after := #[{ on := 0, ground := Ground.data }, { on := 1, ground := Ground.data }], guard := none }
def otm2_3 : Oper := { dst := some 9, op := Op.load 108 (Operand.tmp 2), type := 108, pos := "cosine.go:91", after := #[], guard := none }
def otm2_4 : Oper := { dst := some 10, op := Op.binOp BinOp.add 108 (Operand.tmp 9) (Operand.const (Value.int IntKind.u64 1)) 108, type := 108, pos := "cosine.go:91", after := #[{ on := 3, ground := Ground.data }], guard := none }
def otm2_5 : Oper := { dst := some 11, op := Op.load 108 (Operand.tmp 2), type := 108, pos := "cosine.go:91", after := #[], guard := none }
def otm2_6 : Oper := { dst := some 12, op := Op.binOp BinOp.add 108 (Operand.tmp 11) (Operand.const (Value.int IntKind.u64 2)) 108, type := 108, pos := "cosine.go:91", after := #[{ on := 5, ground := Ground.data }], guard := none }
def otm2_7 : Oper := { dst := some 13, op := Op.binOp BinOp.mul 108 (Operand.tmp 10) (Operand.tmp 12) 108, type := 108, pos := "cosine.go:91", after := #[{ on := 4, ground := Ground.data }, { on := 6, ground := Ground.data }], guard := none }
def otm2_8 : Oper := { dst := some 14, op := Op.binOp BinOp.quo 108 (Operand.tmp 8) (Operand.tmp 13) 108, type := 108, pos := "cosine.go:91", after := #[{ on := 2, ground := Ground.data }, { on := 7, ground := Ground.data }], guard := none }
def otm2_9 : Oper := { dst := none, op := Op.store 108 (Operand.tmp 0) (Operand.tmp 14), type := 0, pos := "cosine.go:91", after := #[{ on := 8, ground := Ground.data }, { on := 2, ground := Ground.chain }, { on := 0, ground := Ground.phase }, { on := 1, ground := Ground.phase }, { on := 2, ground := Ground.phase }, { on := 3, ground := Ground.phase }, { on := 4, ground := Ground.phase }, { on := 5, ground := Ground.phase }, { on := 6, ground := Ground.phase }, { on := 7, ground := Ground.phase }, { on := 8, ground := Ground.phase }], guard := none }

theorem step_rng {sq t p : Int} (ht : 0 ≤ t ∧ t ≤ 2305843009213693952) (hs : 0 ≤ sq ∧ sq ≤ 4611686018427387904) (hp : 0 ≤ p) :
    0 ≤ t * sq ∧ t * sq < 21267647932558653966460912964485513216 ∧ 0 ≤ mulZ t sq ∧ mulZ t sq < 18446744073709551616 ∧ 0 ≤ stepZ sq t p ∧ stepZ sq t p < 18446744073709551616 := by
  have h1 := mul_rng ht.1 ht.2 hs.1 hs.2
  have h2 : 0 ≤ mulZ t sq ∧ mulZ t sq < 18446744073709551616 := by unfold mulZ; generalize t * sq = m at *; omega
  have h3 : 0 < (p + 1) * (p + 2) := Int.mul_pos (by omega) (by omega)
  refine ⟨h1.1, by omega, h2.1, h2.2, Int.ediv_nonneg h2.1 (by omega), ?_⟩
  exact Int.lt_of_le_of_lt (Int.ediv_le_self _ h2.1) h2.2
set_option maxRecDepth 100000 in
set_option maxHeartbeats 4000000 in
theorem terms1_any (bt bs bp : Nat) (t sq p : Int) (w : World) (Ht : Blk w bt 108 #[.int .u64 t]) (Hs : Blk w bs 108 #[.int .u64 sq]) (Hp : Blk w bp 108 #[.int .u64 p])
    (n1 : ¬ bt = bs) (n2 : ¬ bt = bp) (n3 : ¬ bs = bp) (ht : 0 ≤ t ∧ t ≤ 2305843009213693952) (hs : 0 ≤ sq ∧ sq ≤ 4611686018427387904) (hp : 0 ≤ p ∧ p ≤ 200) :
    Calls Try.prog 74 #[.pointer (some ⟨bt, 0, none⟩), .pointer (some ⟨bs, 0, none⟩), .pointer (some ⟨bp, 0, none⟩)] w fun e w' => e = .returned (.int .u64 t) ∧ Blk w' bt 108 #[.int .u64 (stepZ sq t p)] ∧ Blk w' bs 108 #[.int .u64 sq] ∧ Blk w' bp 108 #[.int .u64 (p + 2)] ∧ Far (fun i => i = bt ∨ i = bp) w w' := by
  obtain ⟨-, hpr, hm0, hm1, hs0, hs1⟩ := step_rng ht hs hp.1
  have hd := mul_rng (a := p + 1) (A := 201) (b := p + 2) (B := 202) (by omega) (by omega) (by omega) (by omega)
  have hd0 : 0 < (p + 1) * (p + 2) := Int.mul_pos (by omega) (by omega)
  have hne0 : ¬ (p + 1) * (p + 2) = 0 := by omega
  have e1 : IntKind.u64.wrap ((p + 1) * (p + 2)) = (p + 1) * (p + 2) := by rw [IntKind.wrap_u64]; omega
  have e2 : IntKind.u64.wrap (p + 1) = p + 1 := by rw [IntKind.wrap_u64]; omega
  have e3 : IntKind.u64.wrap (p + 2) = p + 2 := by rw [IntKind.wrap_u64]; omega
  have e4 : (mulZ t sq).tdiv ((p + 1) * (p + 2)) = stepZ sq t p := by rw [Int.tdiv_eq_ediv_of_nonneg hm0]; rfl
  have e5 : IntKind.u64.wrap (stepZ sq t p) = stepZ sq t p := by rw [IntKind.wrap_u64]; omega
  have c0 := Ht.cell 0
  have c1 := Hs.cell 0
  have c2 := Hp.cell 0
  have c3 := Ht.frozen 0
  have c4 := Hp.frozen 0
  simp only [List.getElem?_toArray, List.getElem?_cons_zero, List.getElem?_cons_succ] at c0 c1 c2
  have hBt : Hid (Blk ((w.setCell ⟨bt, 0, none⟩ (.int .u64 (stepZ sq t p))).setCell ⟨bp, 0, none⟩ (.int .u64 (p + 2))) bt 108 #[.int .u64 (stepZ sq t p)]) := (Ht.set_ 0 (.int .u64 (stepZ sq t p))).far_ (p := ⟨bp, 0, none⟩) n2 (.int .u64 (p + 2))
  have hBs : Hid (Blk ((w.setCell ⟨bt, 0, none⟩ (.int .u64 (stepZ sq t p))).setCell ⟨bp, 0, none⟩ (.int .u64 (p + 2))) bs 108 #[.int .u64 sq]) := (Hs.far_ (p := ⟨bt, 0, none⟩) (fun e => n1 e.symm) _).far_ (p := ⟨bp, 0, none⟩) n3 _
  have hBp : Hid (Blk ((w.setCell ⟨bt, 0, none⟩ (.int .u64 (stepZ sq t p))).setCell ⟨bp, 0, none⟩ (.int .u64 (p + 2))) bp 108 #[.int .u64 (p + 2)]) := (Hp.far_ (p := ⟨bt, 0, none⟩) (fun e => n2 e.symm) _).set_ 0 _
  have hF : Hid (Far (fun i => i = bt ∨ i = bp) w ((w.setCell ⟨bt, 0, none⟩ (.int .u64 (stepZ sq t p))).setCell ⟨bp, 0, none⟩ (.int .u64 (p + 2)))) := ((Far.refl _ w).setCell (p := ⟨bt, 0, none⟩) (Or.inl (Or.inl rfl)) _).setCell (p := ⟨bp, 0, none⟩) (Or.inl (Or.inr rfl)) _
  go_enter Try.func74, Try.ntmps74
  go_upto_region 2 with (fail)
  have k0 : w.drew.cell? ⟨bt, 0, none⟩ = some (.int .u64 t) ∧ w.drew.cell? ⟨bs, 0, none⟩ = some (.int .u64 sq) ∧ w.drew.cell? ⟨bp, 0, none⟩ = some (.int .u64 p) := ⟨c0, c1, c2⟩
  refine wp_region_noPanic ?_
  refine wp_region_L (S := (fun w' => w'.cell? ⟨bt, 0, none⟩ = some (.int .u64 t) ∧ w'.cell? ⟨bs, 0, none⟩ = some (.int .u64 sq) ∧ w'.cell? ⟨bp, 0, none⟩ = some (.int .u64 p))) (ks := [9]) (by kernel_rfl) ?_ (fun hHeld => ?_)
  · (try dsimp only); (exact k0)
  refine wpAnyL_take (i := 0) (oi := otm2_0) (v := ?_) rfl (by kernel_rfl) (fun _ _ _ h => h) (Or.inl ⟨by rfl, ?_⟩) (by assumption) ?_
  rotate_left
  · ((intro w hSw; delta otm2_0; (try dsimp only at hSw); go_simp) <;> with_reducible rfl)
  try simp only [otm2_0, Act.put, List.setIfInBounds_toArray, List.set_cons_zero, List.set_cons_succ]
  refine wpAnyL_take (i := 1) (oi := otm2_1) (v := ?_) rfl (by kernel_rfl) (fun _ _ _ h => h) (Or.inl ⟨by rfl, ?_⟩) (by assumption) ?_
  rotate_left
  · ((intro w hSw; delta otm2_1; (try dsimp only at hSw); go_simp) <;> with_reducible rfl)
  try simp only [otm2_1, Act.put, List.setIfInBounds_toArray, List.set_cons_zero, List.set_cons_succ]
  refine wpAnyL_take (i := 3) (oi := otm2_3) (v := ?_) rfl (by kernel_rfl) (fun _ _ _ h => h) (Or.inl ⟨by rfl, ?_⟩) (by assumption) ?_
  rotate_left
  · ((intro w hSw; delta otm2_3; (try dsimp only at hSw); go_simp) <;> with_reducible rfl)
  try simp only [otm2_3, Act.put, List.setIfInBounds_toArray, List.set_cons_zero, List.set_cons_succ]
  refine wpAnyL_take (i := 4) (oi := otm2_4) (v := ?_) rfl (by kernel_rfl) (fun _ _ _ h => h) (Or.inl ⟨by rfl, ?_⟩) (by assumption) ?_
  rotate_left
  · ((intro w hSw; delta otm2_4; (try dsimp only at hSw); go_simp) <;> with_reducible rfl)
  try simp only [otm2_4, Act.put, List.setIfInBounds_toArray, List.set_cons_zero, List.set_cons_succ]
  refine wpAnyL_take (i := 5) (oi := otm2_5) (v := ?_) rfl (by kernel_rfl) (fun _ _ _ h => h) (Or.inl ⟨by rfl, ?_⟩) (by assumption) ?_
  rotate_left
  · ((intro w hSw; delta otm2_5; (try dsimp only at hSw); go_simp) <;> with_reducible rfl)
  try simp only [otm2_5, Act.put, List.setIfInBounds_toArray, List.set_cons_zero, List.set_cons_succ]
  refine wpAnyL_take (i := 6) (oi := otm2_6) (v := ?_) rfl (by kernel_rfl) (fun _ _ _ h => h) (Or.inl ⟨by rfl, ?_⟩) (by assumption) ?_
  rotate_left
  · ((intro w hSw; delta otm2_6; (try dsimp only at hSw); go_simp) <;> with_reducible rfl)
  try simp only [otm2_6, Act.put, List.setIfInBounds_toArray, List.set_cons_zero, List.set_cons_succ]
  refine wpAnyL_take (i := 7) (oi := otm2_7) (v := ?_) rfl (by kernel_rfl) (fun _ _ _ h => h) (Or.inl ⟨by rfl, ?_⟩) (by assumption) ?_
  rotate_left
  · ((intro w hSw; delta otm2_7; (try dsimp only at hSw); go_simp) <;> with_reducible rfl)
  try simp only [otm2_7, Act.put, List.setIfInBounds_toArray, List.set_cons_zero, List.set_cons_succ]
  refine wpAnyL_ready (rs := [2]) (by kernel_rfl) (by simp) ?_
  refine AllReadyL.cons (o := otm2_2) rfl (fun K hK => ?_) AllReadyL.nil
  delta otm2_2
  go_simp
  (refine (product_any _ _ _ (by omega) (by omega) (by omega) (by omega) hpr).mono ?_; rintro e w1 ⟨rfl, hw⟩; obtain rfl := hw)
  refine hK.out _ _ ?_ (fun hHeld => ?_)
  · (try dsimp only); (exact k0)
  clear hK K
  try simp only [otm2_2, Act.put, List.setIfInBounds_toArray, List.set_cons_zero, List.set_cons_succ]
  refine wpAnyL_take (i := 8) (oi := otm2_8) (v := ?_) rfl (by kernel_rfl) (fun _ _ _ h => h) (Or.inl ⟨by rfl, ?_⟩) (by assumption) ?_
  rotate_left
  · ((intro w hSw; delta otm2_8; (try dsimp only at hSw); go_simp) <;> with_reducible rfl)
  try simp only [otm2_8, Act.put, List.setIfInBounds_toArray, List.set_cons_zero, List.set_cons_succ]
  refine wpAnyL_ready (rs := [9]) (by kernel_rfl) (by simp) ?_
  refine AllReadyL.gate (o := otm2_9) rfl (by kernel_rfl) (fun K hK => ?_) AllReadyL.nil
  delta otm2_9
  go_simp
  refine hK.out _ _ ?_
  clear hK K
  try simp only [otm2_9, Act.put, List.setIfInBounds_toArray, List.set_cons_zero, List.set_cons_succ]
  refine wpAnyL_done (by kernel_rfl) ?_ _
  refine NoPanic.normal ?_
  go_wp2
  go_ret
  exact ⟨by simp, hBt.out, hBs.out, hBp.out, hF.out.drew⟩
end Go.Proofs.Ytfblpokjbopagaa
/-
  Layer 2, the program: terms, and 2^16 times a cosine, rounded down.
-/
namespace Go.Proofs.Ytfblpokjbopagaa
open Go.RowKit

set_option maxRecDepth 100000 in
set_option maxHeartbeats 2000000 in
theorem terms_any (x : Int) (w : World) (h0 : 0 ≤ x) (h1 : x ≤ 2305843009213693952) :
    Calls Try.prog 72 #[.int .u64 x] w fun e w' => ∃ bt bs bp : Nat, e = .returned (.func (.func 74) #[] #[.pointer (some ⟨bt, 0, none⟩), .pointer (some ⟨bs, 0, none⟩), .pointer (some ⟨bp, 0, none⟩)]) ∧
      Blk w' bt 108 #[.int .u64 1152921504606846976] ∧ Blk w' bs 108 #[.int .u64 (mulZ x x)] ∧ Blk w' bp 108 #[.int .u64 0] ∧ ¬ bt = bs ∧ ¬ bt = bp ∧ ¬ bs = bp ∧ w.heap.size ≤ bt ∧ w.heap.size ≤ bs ∧ w.heap.size ≤ bp ∧ Below w.heap.size w w' := by
  have hm := mul_rng h0 h1 h0 h1
  have hmf : ∀ (fn : Fn) (first cap : Array Value) (w : World), (Instr.makeFunc fn first cap).run Try.prog w = .ok (.func fn first cap) w := fun _ _ _ _ => rfl
  go_enter Try.func72, Try.ntmps72
  go_wp2_with fail
  refine (product_any _ _ _ h0 h0 (by omega) (by omega) (by omega)).mono ?_
  rintro e w1 ⟨rfl, rfl⟩
  go_wp2
  go_ret
  refine ⟨_, _, _, rfl, ?_, ?_, ?_, ?_, ?_, ?_, ?_, ?_, ?_, (by repeat (first | exact Below.refl _ _ | assumption | refine Below.drew ?_ | refine Below.drewN' ?_ _ | (refine Below.alloc ?_ (by simp <;> omega) _) | (refine Below.setCell ?_ (by simp <;> omega) _)))⟩
  all_goals first | omega | (repeat (first | exact Blk.new' _ _ _ (by simp; done) | refine Blk.drew ?_ | refine Blk.drewN ?_ _ | refine Blk.alloc ?_ _))
def pCell (w : World) (b : Nat) : Nat := (300 - intOf ((w.cell? ⟨b, 0, none⟩).getD undef)).toNat
theorem pCell_of {w : World} {b t : Nat} {p : Int} (h : Blk w b t #[.int .u64 p]) : pCell w b = (300 - p).toNat := by
  unfold pCell
  rw [h.cell 0]
  rfl
def sideV (b : Bool) : Int := if b then 1 else 0
set_option maxRecDepth 100000 in
set_option maxHeartbeats 4000000 in
theorem whole_any (k : Int) (w : World) (h0 : 0 < k) (h1 : k < 900) (h6 : k ≠ 600) :
    Calls Try.prog 70 #[.int .i64 k] w fun e w' => e = .returned (.int .i64 (quartZ k).1) ∧ Below w.heap.size w w' := by
  obtain ⟨A, B, hser, hAB, hq⟩ := ser_one h0 h1 h6
  have hsq := psq_rng (k := k) (by omega) (by omega)
  have HQ : Hid ((quartZ k).1 = (A - B) / 17592186044416) := by rw [hq]; rfl
  have hqr := quart_rng (k := k) (by omega) (by omega)
  have hq1 : (quartZ k).1 = (A - B) / 17592186044416 := HQ.out
  obtain ⟨Q, hQ⟩ : ∃ q, (quartZ k).1 = q := ⟨_, rfl⟩
  rw [hQ] at HQ hq1 ⊢
  have hQ1 : 0 ≤ Q ∧ Q ≤ 65536 := by omega
  have hsz : Hid (mulZ (k * 2012227627243645) (k * 2012227627243645) = sqZ k) := rfl
  have hex : IntKind.u64.wrap k = k := by rw [IntKind.wrap_u64]; omega
  have hex2 : IntKind.u64.wrap (k * 2012227627243645) = k * 2012227627243645 := by rw [IntKind.wrap_u64]; omega
  have HS := Lib.hid hser
  clear hq hser hQ hqr
  go_enter Try.func70, Try.ntmps70
  go_wp2_with fail
  refine (terms_any _ _ (by omega) (by omega)).mono ?_
  rintro e w1 ⟨bt, bs, bp, rfl, Ht, Hs, Hp, n1, n2, n3, g1, g2, g3, HB⟩
  rw [hsz.out] at Hs
  obtain ⟨sq, hsqe⟩ : ∃ x, sqZ k = x := ⟨_, rfl⟩
  rw [hsqe] at Hs hsq HS
  have HBt := Lib.hid Ht
  have HBs := Lib.hid Hs
  have HBp := Lib.hid Hp
  have HBB := Lib.hid HB
  clear hsz hex hex2 Ht Hs Hp HB hsqe
  go_wp2_with fail
  obtain ⟨V0, hV⟩ : ∃ V, w1.alloc (.cells #[.int .u64 0, .int .u64 0] 109) = V := ⟨_, rfl⟩
  have hz : Below w1.heap.size w1 V0 := by rw [← hV]; exact (Below.refl _ _).alloc (Nat.le_refl _) _
  have hm : Blk V0 w1.heap.size 109 #[.int .u64 0, .int .u64 0] := by rw [← hV]; exact Blk.new' _ _ _ rfl
  have lt1 := HBt.out.lt
  have lt2 := HBs.out.lt
  have lt3 := HBp.out.lt
  rw [hV]
  have gm : w.heap.size ≤ w1.heap.size := HBB.out.size
  obtain ⟨bm, hbm⟩ : ∃ b, w1.heap.size = b := ⟨_, rfl⟩
  rw [hbm] at hm gm ⊢
  have m1 : ¬ bm = bt := by omega
  have m2 : ¬ bm = bs := by omega
  have m3 : ¬ bm = bp := by omega
  have HC := Lib.hid (HBB.out.trans (hz.mono HBB.out.size))
  refine (terms1_any bt bs bp _ sq 0 V0 (HBt.out.below hz lt1) (HBs.out.below hz lt2) (HBp.out.below hz lt3) n1 n2 n3 (by omega) ⟨hsq.1, hsq.2.1⟩ (by omega)).mono ?_
  rintro e w2 ⟨rfl, Ht, Hs, Hp, HF⟩
  have Ht2 := Lib.hid Ht
  have Hs2 := Lib.hid Hs
  have Hp2 := Lib.hid Hp
  have Hm2 := Lib.hid (hm.far HF (by rintro (h | h); exact m1 h; exact m3 h))
  have HB2 : Hid (Below w.heap.size w w2) := HC.out.trans (HF.below HC.out.size (by rintro i hi (h | h) <;> omega))
  clear Ht Hs Hp HF HC hm hz hV hbm HBt HBs HBp HBB lt1 lt2 lt3
  go_wp2_with fail
  go_loopw [5, 6] (fun side term wr => ∃ (f : Nat) (t p s0 s1 : Int) (b : Bool), side = .int .i64 (sideV b) ∧ term = .int .u64 t ∧ Hid (serZ sq f t p s0 s1 b = some (A, B)) ∧ 0 ≤ t ∧ 0 ≤ p ∧ 0 ≤ s0 ∧ s0 < 18446744073709551616 ∧ 0 ≤ s1 ∧ s1 < 18446744073709551616 ∧
    Hid (Blk wr bt 108 #[.int .u64 (stepZ sq t p)]) ∧ Hid (Blk wr bs 108 #[.int .u64 sq]) ∧ Hid (Blk wr bp 108 #[.int .u64 (p + 2)]) ∧ Hid (Blk wr bm 109 #[.int .u64 s0, .int .u64 s1]) ∧ Hid (Below w.heap.size w wr)) (fun _ _ wr => pCell wr bp)
  case atStart => exact ⟨40, 1152921504606846976, 0, 0, 0, false, rfl, rfl, HS.out, by omega, by omega, by omega, by omega, by omega, by omega, Ht2.out, Hs2.out, Hp2.out, Hm2.out, HB2.out⟩
  case round =>
    clear HS Ht2 Hs2 Hp2 Hm2 HB2
    obtain ⟨f, t, p, s0, s1, b, rfl, rfl, HS, ht, hp, r0, r1, r2, r3, Ht, Hs, Hp, Hm, HB⟩ := hrel
    by_cases hpos : 0 < t
    · obtain ⟨f, rfl, u0, u1, u2, u3, u4, u5⟩ := ser_go HS.out hpos
      have H4 := Lib.hid u4
      have H5 := Lib.hid u5
      obtain ⟨-, -, -, -, q0, q1⟩ := step_rng (sq := sq) (t := t) (p := p) ⟨ht, u0⟩ ⟨hsq.1, hsq.2.1⟩ hp
      have x0 := Hm.out.cell 0
      have x1 := Hm.out.cell 1
      have x2 := Hm.out.frozen 0
      have x3 := Hm.out.frozen 1
      simp only [List.getElem?_toArray, List.getElem?_cons_zero, List.getElem?_cons_succ] at x0 x1
      have a1 : IntKind.u64.wrap (s0 + t) = s0 + t := by rw [IntKind.wrap_u64]; omega
      have a2 : IntKind.u64.wrap (s1 + t) = s1 + t := by rw [IntKind.wrap_u64]; omega
      have hpc := pCell_of Hp.out
      have hq2 : stepZ sq t p ≤ 2305843009213693952 := by
        cases b
        · exact ser_le (u5 rfl)
        · exact ser_le (u4 rfl)
      clear u4 u5 HS
      cases b
      · have H := Lib.hid (H5.out rfl)
        rw [show sideV false = 0 from rfl]
        have k1 := Lib.hid (Ht.out.far_ (p := ⟨bm, 0, none⟩) (fun e => m1 e.symm) (.int .u64 (s0 + t)))
        have k2 := Lib.hid (Hs.out.far_ (p := ⟨bm, 0, none⟩) (fun e => m2 e.symm) (.int .u64 (s0 + t)))
        have k3 := Lib.hid (Hp.out.far_ (p := ⟨bm, 0, none⟩) (fun e => m3 e.symm) (.int .u64 (s0 + t)))
        have k4 := Lib.hid (Hm.out.set_ 0 (.int .u64 (s0 + t)))
        have k5 := Lib.hid (HB.out.setCell (p := ⟨bm, 0, none⟩) gm (.int .u64 (s0 + t)))
        clear H4 H5 Ht Hs Hp Hm HB
        go_wp2_with fail
        refine (terms1_any bt bs bp (stepZ sq t p) sq (p + 2) _ k1.out k2.out k3.out n1 n2 n3 ⟨q0, hq2⟩ ⟨hsq.1, hsq.2.1⟩ (by omega)).mono ?_
        rintro e w3 ⟨rfl, Ht, Hs, Hp, HF⟩
        have Ht3 := Lib.hid Ht
        have Hs3 := Lib.hid Hs
        have Hp3 := Lib.hid Hp
        have Hm3 := Lib.hid (k4.out.far HF (by rintro (h | h); exact m1 h; exact m3 h))
        have HB3 : Hid (Below w.heap.size w w3) := k5.out.trans (HF.below k5.out.size (by rintro i hi (h | h) <;> omega))
        have hpc3 := pCell_of Hp
        clear Ht Hs Hp HF k1 k2 k3 k4 k5 x0 x1 x2 x3
        go_wp2
        go_roundw
        case rel => exact ⟨f, stepZ sq t p, p + 2, s0 + t, s1, true, by first | rfl | go_num, rfl, H.out, by omega, by omega, by omega, by omega, by omega, by omega, Ht3.out, Hs3.out, Hp3.out, Hm3.out, HB3.out⟩
        case measure => rw [hpc, hpc3]; omega
      · have H := Lib.hid (H4.out rfl)
        rw [show sideV true = 1 from rfl]
        have k1 := Lib.hid (Ht.out.far_ (p := ⟨bm, 1, none⟩) (fun e => m1 e.symm) (.int .u64 (s1 + t)))
        have k2 := Lib.hid (Hs.out.far_ (p := ⟨bm, 1, none⟩) (fun e => m2 e.symm) (.int .u64 (s1 + t)))
        have k3 := Lib.hid (Hp.out.far_ (p := ⟨bm, 1, none⟩) (fun e => m3 e.symm) (.int .u64 (s1 + t)))
        have k4 := Lib.hid (Hm.out.set_ 1 (.int .u64 (s1 + t)))
        have k5 := Lib.hid (HB.out.setCell (p := ⟨bm, 1, none⟩) gm (.int .u64 (s1 + t)))
        clear H4 H5 Ht Hs Hp Hm HB
        go_wp2_with fail
        refine (terms1_any bt bs bp (stepZ sq t p) sq (p + 2) _ k1.out k2.out k3.out n1 n2 n3 ⟨q0, hq2⟩ ⟨hsq.1, hsq.2.1⟩ (by omega)).mono ?_
        rintro e w3 ⟨rfl, Ht, Hs, Hp, HF⟩
        have Ht3 := Lib.hid Ht
        have Hs3 := Lib.hid Hs
        have Hp3 := Lib.hid Hp
        have Hm3 := Lib.hid (k4.out.far HF (by rintro (h | h); exact m1 h; exact m3 h))
        have HB3 : Hid (Below w.heap.size w w3) := k5.out.trans (HF.below k5.out.size (by rintro i hi (h | h) <;> omega))
        have hpc3 := pCell_of Hp
        clear Ht Hs Hp HF k1 k2 k3 k4 k5 x0 x1 x2 x3
        go_wp2
        go_roundw
        case rel => exact ⟨f, stepZ sq t p, p + 2, s0, s1 + t, false, by first | rfl | go_num, rfl, H.out, by omega, by omega, by omega, by omega, by omega, by omega, Ht3.out, Hs3.out, Hp3.out, Hm3.out, HB3.out⟩
        case measure => rw [hpc, hpc3]; omega
    · have e := ser_end HS.out hpos
      injection e with e1 e2
      subst e1 e2
      have x0 := Hm.out.cell 0
      have x1 := Hm.out.cell 1
      simp only [List.getElem?_toArray, List.getElem?_cons_zero, List.getElem?_cons_succ] at x0 x1
      have a1 : IntKind.u64.wrap (A - B) = A - B := by rw [IntKind.wrap_u64]; omega
      have a2 : (A - B).tdiv 17592186044416 = Q := by rw [Int.tdiv_eq_ediv_of_nonneg hAB, hq1]
      have a3 : IntKind.u64.wrap Q = Q := by rw [IntKind.wrap_u64]; omega
      clear hq1
      go_wp2
      go_ret
      exact ⟨rfl, HB.out⟩
end Go.Proofs.Ytfblpokjbopagaa
