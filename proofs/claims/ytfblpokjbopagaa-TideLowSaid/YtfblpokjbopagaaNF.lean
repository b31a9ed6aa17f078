/-
  TideLow returns true.
-/
import Derived.Test.YtfblpokjbopagaaMS
import Derived.Test.YtfblpokjbopagaaMT
set_option linter.unusedSimpArgs false
set_option linter.unusedVariables false
namespace Go.Proofs.Ytfblpokjbopagaa
open Go.RowKit

/-- a span lies within one of the first n -/
def hasIn (x : Int × Int) (L : List (Int × Int)) (n : Nat) : Bool := (L.take n).any fun y => decide (y.1 ≤ x.1 ∧ x.2 ≤ y.2 ∧ x.1 ≤ x.2)
theorem hasIn_succ (x : Int × Int) {L : List (Int × Int)} {n : Nat} (h : n < L.length) : hasIn x L (n + 1) = (hasIn x L n || decide ((L[n]).1 ≤ x.1 ∧ x.2 ≤ (L[n]).2 ∧ x.1 ≤ x.2)) := by
  unfold hasIn
  rw [take_snoc L n h, List.any_append]
  simp
theorem hasIn_all (x : Int × Int) (L : List (Int × Int)) : hasIn x L L.length = true ↔ ∃ i, ∃ hi : i < L.length, (L[i]).1 ≤ x.1 ∧ x.2 ≤ (L[i]).2 ∧ x.1 ≤ x.2 := by
  unfold hasIn
  rw [List.take_length, List.any_eq_true]
  constructor
  · rintro ⟨y, hy, h⟩
    obtain ⟨i, hi, rfl⟩ := List.getElem_of_mem hy
    exact ⟨i, hi, of_decide_eq_true h⟩
  · rintro ⟨i, hi, h⟩
    exact ⟨L[i], List.getElem_mem hi, decide_eq_true h⟩
theorem pc_more {t : Int × Int} {s : Int} {k : Nat} (hs : 0 < s) (hk : k + 1 < nPc t s) : ((k : Int) + 1) * s < t.2 - t.1 := by
  have hr := (up_rng (d := t.2 - t.1) hs).2
  have h1 : (k : Int) + 1 ≤ upZ (t.2 - t.1) s - 1 := by unfold nPc at hk; omega
  have h2 := Int.mul_le_mul_of_nonneg_right h1 (show 0 ≤ s by omega)
  omega
theorem pc_full {t : Int × Int} {s : Int} {k : Nat} (hs : 0 < s) (hk : ¬ k + 1 < nPc t s) : t.2 - t.1 ≤ ((k : Int) + 1) * s := by
  have hr := (up_rng (d := t.2 - t.1) hs).1
  have h1 : upZ (t.2 - t.1) s ≤ (k : Int) + 1 := by unfold nPc at hk; omega
  have h2 := Int.mul_le_mul_of_nonneg_right h1 (show 0 ≤ s by omega)
  omega
theorem lows_all {m : Md} {t : Int × Int} {s v u : Int} {La Lb : List (Int × Int)} (ha : winZ m t s v = La) (hb : winZ m t s u = Lb) (hm : m.ps.all partOk = true) (hs : 0 < s) (ht : t.1 ≤ t.2) (hu : v ≤ u) :
    (∀ k (hk : k < La.length), t.1 ≤ (La[k]).1 ∧ (La[k]).1 ≤ (La[k]).2 ∧ (La[k]).2 ≤ t.2) ∧ (∀ k (hk : k < La.length), 0 < k → (La[k - 1]).2 < (La[k]).1) ∧
    (∀ k (hk : k < La.length) (x : Int), (La[k]).1 ≤ x → x ≤ (La[k]).2 → (levelZ m (x, x)).1 ≤ v) ∧ (∀ k (hk : k < La.length), hasIn (La[k]) Lb Lb.length = true) ∧
    (∀ k, k < nPc t s → hasIn (pcZ t s k) La La.length = decide ((levelZ m (pcZ t s k)).2 ≤ v)) ∧ La.length ≤ nPc t s ∧ Lb.length ≤ nPc t s := by
  subst ha hb
  refine ⟨fun k hk => win_rng hs ht hk, fun k hk h0 => win_ord hs ht hk h0, fun k hk x h0 h1 => win_low hm hs ht hk h0 h1, fun k hk => ?_, fun k hk => ?_, winN_len .., winN_len ..⟩
  · obtain ⟨j, hj, h1, h2⟩ := win_more (m := m) hs ht hu hk
    exact (hasIn_all _ _).2 ⟨j, hj, h1, h2, (win_rng hs ht hk).2.1⟩
  · have h := win_piece (m := m) (v := v) hs ht hk
    have g := (pc_rng hs ht hk).2.1
    rw [Bool.eq_iff_iff, hasIn_all]
    unfold lowZ at h
    rw [← h]
    constructor
    · rintro ⟨i, hi, h1, h2, -⟩
      exact ⟨i, hi, h1, h2⟩
    · rintro ⟨i, hi, h1, h2⟩
      exact ⟨i, hi, h1, h2, g⟩
def otl18_0 : Oper := { dst := some 151, op := Op.load 35 (Operand.tmp 17), type := 35, pos := "outright.go:143", after := #[], guard := none }
def otl18_1 : Oper := { dst := some 152, op := Op.move (Operand.tmp 27), type := 3, pos := "outright.go:143", after := #[], guard := none }
def otl18_2 : Oper := { dst := some 153, op := Op.move (Operand.tmp 27), type := 3, pos := "outright.go:143", after := #[], guard := none }
def otl18_3 : Oper := { dst := some 154, op := Op.call { callee := Callee.value (Operand.func 30), args := #[Operand.tmp 152, Operand.tmp 153], argTypes := #[3, 3] }, type := 23, pos := "outright.go:143", after := #[{ on := 1, ground := Ground.data }, { on := 2, ground := Ground.data }], guard := none }
def otl18_4 : Oper := { dst := some 155, op := Op.call { callee := Callee.value (Operand.func 17), args := #[Operand.tmp 151, Operand.tmp 154], argTypes := #[35, 23] }, type := 25, pos := "outright.go:143", after := #[{ on := 0, ground := Ground.data }, { on := 3, ground := Ground.data }, { on := 3, ground := Ground.chain }], guard := none }
def otl18_5 : Oper := { dst := some 150, op := Op.move (Operand.tmp 155), type := 25, pos := "outright.go:143", after := #[{ on := 4, ground := Ground.data }], guard := none }
def otl18_6 : Oper := { dst := some 156, op := Op.extract (Operand.tmp 150) 0, type := 23, pos := "outright.go:143", after := #[{ on := 5, ground := Ground.data }], guard := none }
def otl18_7 : Oper := { dst := some 157, op := Op.extract (Operand.tmp 150) 1, type := 24, pos := "outright.go:143", after := #[{ on := 5, ground := Ground.data }, { on := 9, ground := Ground.gcOnly Departure.lateStores }], guard := none }
def otl18_8 : Oper := { dst := some 28, op := Op.alloc 23, type := 0, pos := "outright.go:143", after := #[], guard := none }
def otl18_9 : Oper := { dst := none, op := Op.store 23 (Operand.tmp 28) (Operand.tmp 156), type := 0, pos := "outright.go:143", after := #[{ on := 8, ground := Ground.data }, { on := 6, ground := Ground.data }, { on := 4, ground := Ground.chain }, { on := 0, ground := Ground.phase }, { on := 1, ground := Ground.phase }, { on := 2, ground := Ground.phase }, { on := 3, ground := Ground.phase }, { on := 4, ground := Ground.phase }, { on := 5, ground := Ground.phase }, { on := 6, ground := Ground.phase }, { on := 7, ground := Ground.textOnly Departure.lateStores }, { on := 8, ground := Ground.phase }], guard := none }
def otl18_10 : Oper := { dst := some 29, op := Op.assign (Operand.tmp 157), type := 24, pos := "outright.go:143", after := #[{ on := 7, ground := Ground.data }, { on := 9, ground := Ground.chain }, { on := 0, ground := Ground.phase }, { on := 1, ground := Ground.phase }, { on := 2, ground := Ground.phase }, { on := 3, ground := Ground.phase }, { on := 4, ground := Ground.phase }, { on := 5, ground := Ground.phase }, { on := 6, ground := Ground.phase }, { on := 7, ground := Ground.phase }, { on := 8, ground := Ground.phase }, { on := 9, ground := Ground.phase }], guard := none }
def otl31_0 : Oper := { dst := some 196, op := Op.load 35 (Operand.tmp 17), type := 35, pos := "outright.go:154", after := #[], guard := none }
def otl31_1 : Oper := { dst := some 197, op := Op.move (Operand.tmp 33), type := 3, pos := "outright.go:154", after := #[], guard := none }
def otl31_2 : Oper := { dst := some 198, op := Op.move (Operand.tmp 34), type := 3, pos := "outright.go:154", after := #[], guard := none }
def otl31_3 : Oper := { dst := some 199, op := Op.call { callee := Callee.value (Operand.func 30), args := #[Operand.tmp 197, Operand.tmp 198], argTypes := #[3, 3] }, type := 23, pos := "outright.go:154", after := #[{ on := 1, ground := Ground.data }, { on := 2, ground := Ground.data }], guard := none }
def otl31_4 : Oper := { dst := some 200, op := Op.call { callee := Callee.value (Operand.func 17), args := #[Operand.tmp 196, Operand.tmp 199], argTypes := #[35, 23] }, type := 25, pos := "outright.go:154", after := #[{ on := 0, ground := Ground.data }, { on := 3, ground := Ground.data }, { on := 3, ground := Ground.chain }], guard := none }
def otl31_5 : Oper := { dst := some 195, op := Op.move (Operand.tmp 200), type := 25, pos := "outright.go:154", after := #[{ on := 4, ground := Ground.data }], guard := none }
def otl31_6 : Oper := { dst := some 201, op := Op.extract (Operand.tmp 195) 0, type := 23, pos := "outright.go:154", after := #[{ on := 5, ground := Ground.data }], guard := none }
def otl31_7 : Oper := { dst := some 202, op := Op.extract (Operand.tmp 195) 1, type := 24, pos := "outright.go:154", after := #[{ on := 5, ground := Ground.data }, { on := 9, ground := Ground.gcOnly Departure.lateStores }], guard := none }
def otl31_8 : Oper := { dst := some 35, op := Op.alloc 23, type := 0, pos := "outright.go:154", after := #[], guard := none }
def otl31_9 : Oper := { dst := none, op := Op.store 23 (Operand.tmp 35) (Operand.tmp 201), type := 0, pos := "outright.go:154", after := #[{ on := 8, ground := Ground.data }, { on := 6, ground := Ground.data }, { on := 4, ground := Ground.chain }, { on := 0, ground := Ground.phase }, { on := 1, ground := Ground.phase }, { on := 2, ground := Ground.phase }, { on := 3, ground := Ground.phase }, { on := 4, ground := Ground.phase }, { on := 5, ground := Ground.phase }, { on := 6, ground := Ground.phase }, { on := 7, ground := Ground.textOnly Departure.lateStores }, { on := 8, ground := Ground.phase }], guard := none }
def otl31_10 : Oper := { dst := some 36, op := Op.assign (Operand.tmp 202), type := 24, pos := "outright.go:154", after := #[{ on := 7, ground := Ground.data }, { on := 9, ground := Ground.chain }, { on := 0, ground := Ground.phase }, { on := 1, ground := Ground.phase }, { on := 2, ground := Ground.phase }, { on := 3, ground := Ground.phase }, { on := 4, ground := Ground.phase }, { on := 5, ground := Ground.phase }, { on := 6, ground := Ground.phase }, { on := 7, ground := Ground.phase }, { on := 8, ground := Ground.phase }, { on := 9, ground := Ground.phase }], guard := none }
def otl36_0 : Oper := { dst := some 209, op := Op.move (Operand.tmp 37), type := 4, pos := "outright.go:157", after := #[], guard := none }
def otl36_1 : Oper := { dst := some 210, op := Op.move (Operand.tmp 209), type := 4, pos := "outright.go:157", after := #[{ on := 0, ground := Ground.data }], guard := none }
def otl36_2 : Oper := { dst := some 211, op := Op.move (Operand.tmp 33), type := 3, pos := "outright.go:157", after := #[{ on := 1, ground := Ground.guard }], guard := some (1, false) }
def otl36_3 : Oper := { dst := some 212, op := Op.move (Operand.tmp 34), type := 3, pos := "outright.go:157", after := #[{ on := 1, ground := Ground.guard }], guard := some (1, false) }
def otl36_4 : Oper := { dst := some 213, op := Op.call { callee := Callee.value (Operand.func 30), args := #[Operand.tmp 211, Operand.tmp 212], argTypes := #[3, 3] }, type := 23, pos := "outright.go:157", after := #[{ on := 2, ground := Ground.data }, { on := 3, ground := Ground.data }, { on := 1, ground := Ground.chain }, { on := 1, ground := Ground.guard }], guard := some (1, false) }
def otl36_5 : Oper := { dst := some 214, op := Op.load 23 (Operand.tmp 39), type := 23, pos := "outright.go:157", after := #[{ on := 1, ground := Ground.guard }], guard := some (1, false) }
def otl36_6 : Oper := { dst := some 215, op := Op.call { callee := Callee.value (Operand.func 34), args := #[Operand.tmp 213, Operand.tmp 214], argTypes := #[23, 23] }, type := 4, pos := "outright.go:157", after := #[{ on := 4, ground := Ground.data }, { on := 5, ground := Ground.data }, { on := 4, ground := Ground.chain }, { on := 1, ground := Ground.guard }], guard := some (1, false) }
def otl36_7 : Oper := { dst := some 216, op := Op.pick (Operand.tmp 210) (Operand.const (Value.bool true)) (Operand.tmp 215), type := 4, pos := "outright.go:157", after := #[{ on := 1, ground := Ground.data }, { on := 6, ground := Ground.data }], guard := none }
def otl36_8 : Oper := { dst := some 37, op := Op.assign (Operand.tmp 216), type := 4, pos := "outright.go:157", after := #[{ on := 7, ground := Ground.data }, { on := 6, ground := Ground.chain }, { on := 0, ground := Ground.phase }, { on := 1, ground := Ground.phase }, { on := 2, ground := Ground.phase }, { on := 3, ground := Ground.phase }, { on := 4, ground := Ground.phase }, { on := 5, ground := Ground.phase }, { on := 6, ground := Ground.phase }, { on := 7, ground := Ground.phase }], guard := none }

set_option maxRecDepth 100000 in
set_option maxHeartbeats 8000000 in
theorem TideLow_any (mean from_ long pieces level more at_ : Int) (vl : Value) (l : List Prt) (w : World) (hv : TripsAt w w.heap.size vl l) (hr : ∀ p, p ∈ l → u32Ok p) (hmean : -32768 ≤ mean ∧ mean ≤ 32767)
    (hfrom : 0 ≤ from_ ∧ from_ ≤ 4294967295) (hlong : 0 ≤ long ∧ long ≤ 4294967295) (hpieces : 0 ≤ pieces ∧ pieces ≤ 255) (hlevel : -32768 ≤ level ∧ level ≤ 32767) (hmore : 0 ≤ more ∧ more ≤ 255) (hat : 0 ≤ at_ ∧ at_ ≤ 4294967295) :
    Calls Try.prog 9 #[.int .i16 mean, vl, .int .u32 from_, .int .u32 long, .int .u8 pieces, .int .i16 level, .int .u8 more, .int .u32 at_] w fun e w' => e = .returned (.bool true) ∧ Below w.heap.size w w' := by
  obtain ⟨A0, c0, rfl, hc0, -⟩ := hv.open_
  have HV := Lib.hid hv
  have HR := Lib.hid hr
  clear hv hr
  by_cases h8 : l.length ≤ 6
  rotate_left
  · have h8' : (6 : Int) < (l.length : Int) := by omega
    go_enter Try.func9, Try.ntmps9
    go_wp2_with fail
    refine (works2_any _).mono ?_
    rintro e w1 ⟨rfl, hb⟩
    go_wp2
    go_ret
    exact ⟨rfl, hb⟩
  have h8' : (l.length : Int) ≤ 6 := by omega
  have h0 := made_ok (mean := mean) (l := l) (by omega)
  have hMd : madeZ mean l = ⟨mean.tmod 5000, l.map prtOf⟩ := rfl
  obtain ⟨M, hM⟩ : ∃ z, mean.tmod 5000 = z := ⟨_, rfl⟩
  obtain ⟨ps, hps⟩ : ∃ z, l.map prtOf = z := ⟨_, rfl⟩
  have hpl : ps.length = l.length := by rw [← hps, List.length_map]
  rw [hM, hps] at hMd
  rw [hMd] at h0
  obtain ⟨-, -, hall⟩ := mdE_zero h0
  simp only at hall
  have HM := Lib.hid hM
  have HPS := Lib.hid hps
  have H0 := Lib.hid h0
  have HALL := Lib.hid hall
  clear hMd hM hps h0 hall
  -- the times
  have f1 := Int.tmod_lt_of_pos from_ (show (0 : Int) < 900000000 by omega)
  have f2 := Int.tmod_nonneg 900000000 hfrom.1
  have f3 := Int.tmod_lt_of_pos long (show (0 : Int) < 100000000 by omega)
  have f4 := Int.tmod_nonneg 100000000 hlong.1
  obtain ⟨lo, hlo⟩ : ∃ z, from_.tmod 900000000 = z := ⟨_, rfl⟩
  obtain ⟨ln, hln⟩ : ∃ z, long.tmod 100000000 = z := ⟨_, rfl⟩
  rw [hlo] at f1 f2
  rw [hln] at f3 f4
  obtain ⟨hi, hhi⟩ : ∃ z, lo + ln = z := ⟨_, rfl⟩
  have t1 : 0 ≤ lo := f2
  have t2 : lo ≤ hi := by omega
  have t3 : hi ≤ 1000000000 := by omega
  have p1 := Int.tmod_lt_of_pos pieces (show (0 : Int) < 40 by omega)
  have p2 := Int.tmod_nonneg 40 hpieces.1
  obtain ⟨pc, hpc⟩ : ∃ z, pieces.tmod 40 = z := ⟨_, rfl⟩
  rw [hpc] at p1 p2
  have g1 := Int.lt_ediv_add_one_mul_self (hi - lo) (show (0 : Int) < 1 + pc by omega)
  have g2 : (hi - lo).tdiv (1 + pc) = (hi - lo) / (1 + pc) := Int.tdiv_eq_ediv_of_nonneg (by omega)
  have g3 : 0 ≤ (hi - lo) / (1 + pc) := Int.ediv_nonneg (by omega) (by omega)
  have g4 : (hi - lo) / (1 + pc) ≤ hi - lo := Int.ediv_le_self _ (by omega)
  obtain ⟨q, hq⟩ : ∃ z, (hi - lo) / (1 + pc) = z := ⟨_, rfl⟩
  rw [hq] at g1 g2 g3 g4
  obtain ⟨st, hst⟩ : ∃ z, q + 1 = z := ⟨_, rfl⟩
  have s1 : 1 ≤ st := by omega
  have s2 : st ≤ 100000001 := by omega
  obtain ⟨pn, hpn⟩ : ∃ n : Nat, (n : Int) = 1 + pc := ⟨(1 + pc).toNat, by omega⟩
  have e7 : nPc (lo, hi) st ≤ 40 := Nat.le_trans (nPc_le (n := pn) rfl (by omega) (by omega) (by rw [hpn, ← hst, Int.mul_comm]; exact Int.le_of_lt g1)) (by omega)
  have v1 := Int.tmod_lt_of_pos level (show (0 : Int) < 19000 by omega)
  have v2 := Int.lt_tmod_of_pos level (show (0 : Int) < 19000 by omega)
  obtain ⟨v, hve⟩ : ∃ z, level.tmod 19000 = z := ⟨_, rfl⟩
  rw [hve] at v1 v2
  obtain ⟨u, hue⟩ : ∃ z, v + more = z := ⟨_, rfl⟩
  have u1 : v ≤ u := by omega
  have u2 : u ≤ 19254 := by omega
  have n0 : nPc (lo, hi) st = nPc (lo, hi) st := rfl
  have n1 : 0 < nPc (lo, hi) st := by unfold nPc; omega
  obtain ⟨La, hLa⟩ : ∃ z, winZ ⟨M, ps⟩ (lo, hi) st v = z := ⟨_, rfl⟩
  obtain ⟨Lb, hLb⟩ : ∃ z, winZ ⟨M, ps⟩ (lo, hi) st u = z := ⟨_, rfl⟩
  obtain ⟨W1, W2, W3, W4, W5, W6, W7⟩ := lows_all hLa hLb HALL.out (by omega) t2 u1
  have hla : La.length ≤ 40 := Nat.le_trans W6 e7
  have hlb : Lb.length ≤ 40 := Nat.le_trans W7 e7
  have HW1 := Lib.hid W1
  have HW2 := Lib.hid W2
  have HW3 := Lib.hid W3
  have HW4 := Lib.hid W4
  have HW5 := Lib.hid W5
  have HLA := Lib.hid hLa
  have HLB := Lib.hid hLb
  have HN7 := Lib.hid e7
  have HN1 := Lib.hid n1
  have w1 : IntKind.u32.wrap lo = lo := by rw [IntKind.wrap_u32]; omega
  have w2 : IntKind.u32.wrap ln = ln := by rw [IntKind.wrap_u32]; omega
  have w3 : IntKind.i64.wrap lo = lo := IntWalk.i64_in _ (by omega)
  have w4 : IntKind.i64.wrap ln = ln := IntWalk.i64_in _ (by omega)
  have w5 : IntKind.i64.wrap pieces = pieces := IntWalk.i64_in _ (by omega)
  have w6 : IntKind.i64.wrap level = level := IntWalk.i64_in _ (by omega)
  have w7 : IntKind.i64.wrap more = more := IntWalk.i64_in _ (by omega)
  have w8 : IntKind.i64.wrap at_ = at_ := IntWalk.i64_in _ (by omega)
  have z1 : ¬ 1 + pc = 0 := by omega
  have HBP := Lib.hid (Below.refl w.heap.size w)
  clear W1 W2 W3 W4 W5 W6 W7 hLa hLb g1 n0 hpn e7 n1
  go_enter Try.func9, Try.ntmps9
  go_wp2_with fail
  refine (made_any mean _ l _ HV.out HR.out (by omega) hmean).mono ?_
  rintro e Va0 ⟨y, rfl, hown, hb⟩
  rw [HM.out]
  rw [HPS.out, ← hpl] at hown
  have hP0 : PrtsAt Va0 Va0.heap.size y ps := prts_own rfl hown
  obtain ⟨A, c, rfl, -, -⟩ := hP0.open_
  have HPA := Lib.hid hP0
  have HZ := Lib.hid hb
  have HBA := Lib.hid (Below.refl Va0.heap.size Va0)
  clear hown hb hP0
  have GHBP := Lib.hid (HBP.out.trans (HZ.out.mono HBP.out.size))
  clear HBP HZ
  have HBP := GHBP
  clear GHBP
  have HN := Lib.hid hpl
  rw [hpl] at HPA ⊢
  clear hpl
  go_upto_region 4 with (fail)
  obtain ⟨Va1, hV⟩ : ∃ V, Va0.alloc (.cells #[.int .i64 M, .slice A l.length c] 35) = V := ⟨_, rfl⟩
  have hz : Below Va0.heap.size Va0 Va1 := by rw [← hV]; exact (Below.refl _ _).alloc (Nat.le_refl _) _
  have hnew : Blk Va1 Va0.heap.size 35 #[.int .i64 M, .slice A l.length c] := by rw [← hV]; exact Blk.new' _ _ _ rfl
  have hgn := HBP.out.size
  have hga := HBA.out.size
  rw [hV]
  obtain ⟨b17, hbx⟩ : ∃ b, Va0.heap.size = b := ⟨_, rfl⟩
  rw [hbx] at hnew hgn hga  ⊢
  have gb17 := hgn
  have HZ := Lib.hid hz
  have gab17 := hga
  clear hga
  clear hV hz hgn hbx 
  have GHBP := Lib.hid (HBP.out.trans (HZ.out.mono HBP.out.size))
  have GHBA := Lib.hid (HBA.out.trans (HZ.out.mono HBA.out.size))
  clear HBP HBA HZ
  have HBP := GHBP
  have HBA := GHBA
  clear GHBP GHBA
  have Hb17 := Lib.hid hnew
  clear hnew
  go_wp2_with fail
  refine (lspan_any lo 0 _).mono ?_
  rintro e Va2 ⟨rfl, hb⟩
  have HZ := Lib.hid hb
  clear hb
  have Gb17 := Lib.hid (Hb17.out.below HZ.out Hb17.out.lt)
  have GHBP := Lib.hid (HBP.out.trans (HZ.out.mono HBP.out.size))
  have GHBA := Lib.hid (HBA.out.trans (HZ.out.mono HBA.out.size))
  clear Hb17 HBP HBA HZ
  have Hb17 := Gb17
  have HBP := GHBP
  have HBA := GHBA
  clear Gb17 GHBP GHBA
  go_upto_region 5 with (fail)
  obtain ⟨Va3, hV⟩ : ∃ V, Va2.alloc (.cells #[.int .i64 lo, .int .i64 0] 23) = V := ⟨_, rfl⟩
  have hz : Below Va2.heap.size Va2 Va3 := by rw [← hV]; exact (Below.refl _ _).alloc (Nat.le_refl _) _
  have hnew : Blk Va3 Va2.heap.size 23 #[.int .i64 lo, .int .i64 0] := by rw [← hV]; exact Blk.new' _ _ _ rfl
  have hgn := HBP.out.size
  have hga := HBA.out.size
  have lb17 := Hb17.out.lt
  rw [hV]
  obtain ⟨b18, hbx⟩ : ∃ b, Va2.heap.size = b := ⟨_, rfl⟩
  rw [hbx] at hnew hgn hga lb17 ⊢
  have gb18 := hgn
  have HZ := Lib.hid hz
  have gab18 := hga
  clear hga
  have nb17b18 : ¬ b17 = b18 := by omega
  have nb18b17 : ¬ b18 = b17 := by omega
  clear hV hz hgn hbx lb17
  have Gb17 := Lib.hid (Hb17.out.below HZ.out Hb17.out.lt)
  have GHBP := Lib.hid (HBP.out.trans (HZ.out.mono HBP.out.size))
  have GHBA := Lib.hid (HBA.out.trans (HZ.out.mono HBA.out.size))
  clear Hb17 HBP HBA HZ
  have Hb17 := Gb17
  have HBP := GHBP
  have HBA := GHBA
  clear Gb17 GHBP GHBA
  have Hb18 := Lib.hid hnew
  clear hnew
  have cb180 : Va3.cell? ⟨b18, 0, none⟩ = some (.int .i64 lo) := Hb18.out.cell 0
  have cb181 : Va3.cell? ⟨b18, 1, none⟩ = some (.int .i64 0) := Hb18.out.cell 1
  have q5 := Hb18.out.frozen 1
  go_upto_region 6 with (fail)
  obtain ⟨Va4, hV⟩ : ∃ V, Va3.setCell ⟨b18, 1, none⟩ (.int .i64 hi) = V := ⟨_, rfl⟩
  have Gb17 : Hid (Blk Va4 b17 35 #[.int .i64 M, .slice A l.length c]) := by rw [← hV]; exact Hb17.out.far_ (p := ⟨b18, 1, none⟩) (by exact nb17b18) _
  have Gb18 : Hid (Blk Va4 b18 23 #[.int .i64 lo, .int .i64 hi]) := by rw [← hV]; exact Hb18.out.set_ 1 _
  have GHBP : Hid (Below w.heap.size w Va4) := by rw [← hV]; exact HBP.out.setCell (p := ⟨b18, 1, none⟩) gb18 _
  have GHBA : Hid (Below Va0.heap.size Va0 Va4) := by rw [← hV]; exact HBA.out.setCell (p := ⟨b18, 1, none⟩) gab18 _
  rw [hV]
  clear hV Hb17 Hb18 HBP HBA
  have Hb17 := Gb17
  have Hb18 := Gb18
  have HBP := GHBP
  have HBA := GHBA
  clear Gb17 Gb18 GHBP GHBA
  clear q5 cb180 cb181
  have cb180 : Va4.cell? ⟨b18, 0, none⟩ = some (.int .i64 lo) := Hb18.out.cell 0
  have cb181 : Va4.cell? ⟨b18, 1, none⟩ = some (.int .i64 hi) := Hb18.out.cell 1
  go_upto_region 8 with (fail)
  clear cb180 cb181
  clear hlo hln hhi w1 w2 w3 w4 w5 w6 z1 f1 f2 f3 f4 p1 p2 hpc g2 g3 g4 hq hst hve hpieces hlevel hlong hfrom hmean
  have cb170 : Va4.cell? ⟨b17, 0, none⟩ = some (.int .i64 M) := Hb17.out.cell 0
  have cb171 : Va4.cell? ⟨b17, 1, none⟩ = some (.slice A l.length c) := Hb17.out.cell 1
  have cb180 : Va4.cell? ⟨b18, 0, none⟩ = some (.int .i64 lo) := Hb18.out.cell 0
  have cb181 : Va4.cell? ⟨b18, 1, none⟩ = some (.int .i64 hi) := Hb18.out.cell 1
  go_wp2_with fail
  refine (win_ok _ ⟨M, ps⟩ lo hi st v _ ⟨_, rfl, HPA.out.later HBA.out (Nat.le_refl _)⟩ H0.out ⟨by omega, by omega, by omega⟩ ⟨by omega, by omega⟩ (Nat.le_trans HN7.out (by omega)) ⟨by omega, by omega⟩).mono ?_
  rintro e Va5 ⟨y, rfl, hsa, hb⟩
  rw [HLA.out] at hsa
  obtain ⟨A1, c1, rfl, -, -⟩ := hsa.open_
  have HZ := Lib.hid hb
  clear hb
  clear cb170 cb171 cb180 cb181
  have Gb17 := Lib.hid (Hb17.out.below HZ.out Hb17.out.lt)
  have Gb18 := Lib.hid (Hb18.out.below HZ.out Hb18.out.lt)
  have GHBP := Lib.hid (HBP.out.trans (HZ.out.mono HBP.out.size))
  have GHBA := Lib.hid (HBA.out.trans (HZ.out.mono HBA.out.size))
  clear Hb17 Hb18 HBP HBA HZ
  have Hb17 := Gb17
  have Hb18 := Gb18
  have HBP := GHBP
  have HBA := GHBA
  clear Gb17 Gb18 GHBP GHBA
  have HSA := Lib.hid hsa
  clear hsa
  have cb170 : Va5.cell? ⟨b17, 0, none⟩ = some (.int .i64 M) := Hb17.out.cell 0
  have cb171 : Va5.cell? ⟨b17, 1, none⟩ = some (.slice A l.length c) := Hb17.out.cell 1
  have cb180 : Va5.cell? ⟨b18, 0, none⟩ = some (.int .i64 lo) := Hb18.out.cell 0
  have cb181 : Va5.cell? ⟨b18, 1, none⟩ = some (.int .i64 hi) := Hb18.out.cell 1
  go_wp2_with fail
  refine (win_ok _ ⟨M, ps⟩ lo hi st u _ ⟨_, rfl, HPA.out.later HBA.out (Nat.le_refl _)⟩ H0.out ⟨by omega, by omega, by omega⟩ ⟨by omega, by omega⟩ (Nat.le_trans HN7.out (by omega)) ⟨by omega, by omega⟩).mono ?_
  rintro e Va6 ⟨y, rfl, hsb, hb⟩
  rw [HLB.out] at hsb
  obtain ⟨A2, c2, rfl, -, -⟩ := hsb.open_
  have HZ := Lib.hid hb
  clear hb
  clear cb170 cb171 cb180 cb181
  have Gb17 := Lib.hid (Hb17.out.below HZ.out Hb17.out.lt)
  have Gb18 := Lib.hid (Hb18.out.below HZ.out Hb18.out.lt)
  have GHBP := Lib.hid (HBP.out.trans (HZ.out.mono HBP.out.size))
  have GHBA := Lib.hid (HBA.out.trans (HZ.out.mono HBA.out.size))
  have GHSA := Lib.hid (SpansAt.later HSA.out HZ.out (Nat.le_refl _))
  clear Hb17 Hb18 HBP HBA HSA HZ
  have Hb17 := Gb17
  have Hb18 := Gb18
  have HBP := GHBP
  have HBA := GHBA
  have HSA := GHSA
  clear Gb17 Gb18 GHBP GHBA GHSA
  have HSB := Lib.hid hsb
  clear hsb hue w7 hmore
  go_wp2_with fail
  go_loopw [99] (fun j wr => ∃ k : Nat, k ≤ La.length ∧ j = .int .i64 k ∧ Hid (Below Va6.heap.size Va6 wr)) (fun j _ => La.length - (intOf j).toNat)
  case atStart => exact ⟨0, by omega, rfl, Below.refl _ _⟩
  case round =>
    obtain ⟨k, hk, rfl, HZ⟩ := hrel
    obtain ⟨Vr1, rfl⟩ : ∃ V, V = wr := ⟨_, rfl⟩
    have HBL1 := HZ
    have Gb17 := Lib.hid (Hb17.out.below HZ.out Hb17.out.lt)
    have Gb18 := Lib.hid (Hb18.out.below HZ.out Hb18.out.lt)
    have GHBP := Lib.hid (HBP.out.trans (HZ.out.mono HBP.out.size))
    have GHBA := Lib.hid (HBA.out.trans (HZ.out.mono HBA.out.size))
    have GHSA := Lib.hid (SpansAt.later HSA.out HZ.out (Nat.le_refl _))
    have GHSB := Lib.hid (SpansAt.later HSB.out HZ.out (Nat.le_refl _))
    clear Hb17 Hb18 HBP HBA HSA HSB HZ
    have Hb17 := Gb17
    have Hb18 := Gb18
    have HBP := GHBP
    have HBA := GHBA
    have HSA := GHSA
    have HSB := GHSB
    clear Gb17 Gb18 GHBP GHBA GHSA GHSB
    by_cases hlt : k < La.length
    rotate_left
    · obtain rfl : k = La.length := by omega
      clear HSB HW1 HW2 HW3 HW4 hlb HLB
      clear HBL1
      have cb180 : Vr1.cell? ⟨b18, 0, none⟩ = some (.int .i64 lo) := Hb18.out.cell 0
      have cb181 : Vr1.cell? ⟨b18, 1, none⟩ = some (.int .i64 hi) := Hb18.out.cell 1
      go_wp2_with fail
      go_loopw [33] (fun u wr => ∃ (k : Nat) (z : Int), k < nPc (lo, hi) st ∧ u = .int .i64 z ∧ Hid (z = lo + k * st) ∧ lo ≤ z ∧ z ≤ hi ∧ Hid (Below Vr1.heap.size Vr1 wr)) (fun u _ => (hi - intOf u).toNat)
      case atStart => exact ⟨0, lo, HN1.out, rfl, (by simp : lo = lo + ((0 : Nat) : Int) * st), by omega, by omega, Below.refl _ _⟩
      case round =>
        obtain ⟨k, z, hk, rfl, HZE, z1, z2, HZ⟩ := hrel
        obtain ⟨Vr3, rfl⟩ : ∃ V, V = wr := ⟨_, rfl⟩
        have HBL3 := HZ
        have Gb17 := Lib.hid (Hb17.out.below HZ.out Hb17.out.lt)
        have Gb18 := Lib.hid (Hb18.out.below HZ.out Hb18.out.lt)
        have GHBP := Lib.hid (HBP.out.trans (HZ.out.mono HBP.out.size))
        have GHBA := Lib.hid (HBA.out.trans (HZ.out.mono HBA.out.size))
        have GHSA := Lib.hid (SpansAt.later HSA.out HZ.out (Nat.le_refl _))
        clear Hb17 Hb18 HBP HBA HSA HZ
        have Hb17 := Gb17
        have Hb18 := Gb18
        have HBP := GHBP
        have HBA := GHBA
        have HSA := GHSA
        clear Gb17 Gb18 GHBP GHBA GHSA
        have HP5 := Lib.hid (HW5.out k hk)
        have hpz : pcZ (lo, hi) st k = (z, min (z + st) hi) := by
          unfold pcZ
          simp only
          rw [Int.add_mul, Int.one_mul, ← Int.add_assoc, ← HZE.out]
        have HL1 : Hid (k + 1 < nPc (lo, hi) st → z + st < hi) := fun h => by
          have g := pc_more (t := (lo, hi)) (show 0 < st by omega) h
          rw [Int.add_mul, Int.one_mul] at g
          have e := HZE.out
          simp only at g
          omega
        have HL2 : Hid (¬ k + 1 < nPc (lo, hi) st → hi ≤ z + st) := fun h => by
          have g := pc_full (t := (lo, hi)) (show 0 < st by omega) h
          rw [Int.add_mul, Int.one_mul] at g
          have e := HZE.out
          simp only at g
          omega
        have HSZ : Hid (z + st = lo + ((k + 1 : Nat) : Int) * st) := by
          have e := HZE.out
          show _ = _
          rw [Int.natCast_add, Int.natCast_one, Int.add_mul, Int.one_mul]
          omega
        obtain ⟨zh, hzh⟩ : ∃ x, min (z + st) hi = x := ⟨_, rfl⟩
        rw [hzh] at hpz
        rw [hpz] at HP5
        have z3 : z ≤ zh := by omega
        have z4 : zh ≤ hi := by omega
        have z5 : zh = hi ∧ hi ≤ z + st ∨ zh = z + st ∧ z + st ≤ hi := by omega
        have HZH := Lib.hid (And.intro hzh z5)
        obtain ⟨⟨Y1, Y2⟩, hY⟩ : ∃ x, levelZ ⟨M, ps⟩ (z, zh) = x := ⟨_, rfl⟩
        rw [hY] at HP5
        have HY := Lib.hid hY
        simp only at HP5
        clear hpz hzh hY z5
        have cb180 : Vr3.cell? ⟨b18, 0, none⟩ = some (.int .i64 lo) := Hb18.out.cell 0
        have cb181 : Vr3.cell? ⟨b18, 1, none⟩ = some (.int .i64 hi) := Hb18.out.cell 1
        go_upto_region 30 with (fail)
        go_cut [34] from 189 to 195 (fun p wx => p = .int .i64 zh ∧ wx = Vr3)
        case first =>
          have z5 := HZH.out
          go_wp2_with fail
          all_goals
            go_meet
            exact ⟨by go_num, rfl⟩
        case rest =>
          obtain ⟨rfl, rfl⟩ := hcut
          obtain ⟨Vd, rfl⟩ : ∃ V, V = wc := ⟨_, rfl⟩
          clear cb180 cb181
          go_upto_region 31 with (fail)
          have HSV : Hid (∀ U, Below Vd.heap.size Vd U → U.cell? ⟨b17, 0, none⟩ = some (.int .i64 M) ∧ U.cell? ⟨b17, 1, none⟩ = some (.slice A l.length c)) := fun U hU => by
            have kb17 := Hb17.out.below hU Hb17.out.lt
            exact ⟨kb17.cell 0, kb17.cell 1⟩
          have k0 := HSV.out _ (Below.drew (Below.refl Vd.heap.size Vd))
          go_cut [35, 36] from 195 to 203 (fun p q wx => q = .int .i64 0 ∧ OneB Vd 23 (Y1) (Y2) p wx)
          case first =>
            refine wp_region_noPanic ?_
            refine wp_region_held_drew (S := (fun w' => w'.cell? ⟨b17, 0, none⟩ = some (.int .i64 M) ∧ w'.cell? ⟨b17, 1, none⟩ = some (.slice A l.length c))) (by kernel_rfl) ?_ (fun hHeld => ?_)
            · (try dsimp only); (exact k0)
            refine wpAnyH_take (i := 0) (oi := otl31_0) (v := ?_) rfl (by kernel_rfl) (by kernel_rfl) (by kernel_rfl) (fun _ _ _ h => h) (Or.inl ⟨by rfl, ?_⟩) (by assumption) ?_
            rotate_left
            · ((intro w hSw; delta otl31_0; (try dsimp only at hSw); go_simp) <;> with_reducible rfl)
            try simp only [otl31_0, Act.put, List.setIfInBounds_toArray, List.set_cons_zero, List.set_cons_succ]
            refine wpAnyH_take (i := 1) (oi := otl31_1) (v := ?_) rfl (by kernel_rfl) (by kernel_rfl) (by kernel_rfl) (fun _ _ _ h => h) (Or.inl ⟨by rfl, ?_⟩) (by assumption) ?_
            rotate_left
            · ((intro w hSw; delta otl31_1; (try dsimp only at hSw); go_simp) <;> with_reducible rfl)
            try simp only [otl31_1, Act.put, List.setIfInBounds_toArray, List.set_cons_zero, List.set_cons_succ]
            refine wpAnyH_take (i := 2) (oi := otl31_2) (v := ?_) rfl (by kernel_rfl) (by kernel_rfl) (by kernel_rfl) (fun _ _ _ h => h) (Or.inl ⟨by rfl, ?_⟩) (by assumption) ?_
            rotate_left
            · ((intro w hSw; delta otl31_2; (try dsimp only at hSw); go_simp) <;> with_reducible rfl)
            try simp only [otl31_2, Act.put, List.setIfInBounds_toArray, List.set_cons_zero, List.set_cons_succ]
            obtain ⟨W0, hW0⟩ : ∃ V, Vd.drew = V := ⟨_, rfl⟩; rw [hW0] at hHeld ⊢; have HBV : Hid (Below Vd.heap.size Vd W0) := (by rw [← hW0]; exact Below.drew (Below.refl _ _)); have HB0 := Lib.hid (Below.refl W0.heap.size W0); clear hW0
            refine wpAnyH_ready (rs := [3, 8]) (by kernel_rfl) (by simp) ?_
            refine AllReadyH.cons (o := otl31_3) rfl (fun K hK => ?gs5) ?gr5
            case' gs5 =>
             delta otl31_3
             go_simp
             (refine (lspan_any z zh _).mono ?_; rintro e W1 ⟨rfl, hb⟩); have hbz : Below W0.heap.size W0 W1 := (by first | exact hb | exact Below.trans (Below.drew (Below.refl _ _)) hb); clear hb; have HB1 := Lib.hid (HB0.out.trans (hbz.mono HB0.out.size)); clear hbz
             refine hK.out _ _ ?_ (fun hHeld => ?_)
             · (try dsimp only); (exact HSV.out _ (HBV.out.trans (HB1.out.mono HBV.out.size)))
             clear hK K
             try simp only [otl31_3, Act.put, List.setIfInBounds_toArray, List.set_cons_zero, List.set_cons_succ]
             refine wpAnyH_ready (rs := [4, 8]) (by kernel_rfl) (by simp) ?_
             refine AllReadyH.cons (o := otl31_4) rfl (fun K hK => ?gs6) ?gr6
             case' gs6 =>
              delta otl31_4
              go_simp
              (refine (lev_ok _ ⟨M, ps⟩ z zh _ ⟨_, rfl, HPA.out.later (HBA.out.trans ((HBV.out.trans (HB1.out.mono HBV.out.size)).mono HBA.out.size)) (Nat.le_refl _)⟩ H0.out ⟨by omega, by omega, by omega⟩).mono ?_; rintro e W2 ⟨rfl, hb⟩; rw [HY.out]); have hbz : Below W1.heap.size W1 W2 := (by first | exact hb | exact Below.trans (Below.drew (Below.refl _ _)) hb); clear hb; have HB2 := Lib.hid (HB1.out.trans (hbz.mono HB1.out.size)); clear hbz
              refine hK.out _ _ ?_ (fun hHeld => ?_)
              · (try dsimp only); (exact HSV.out _ (HBV.out.trans (HB2.out.mono HBV.out.size)))
              clear hK K
              try simp only [otl31_4, Act.put, List.setIfInBounds_toArray, List.set_cons_zero, List.set_cons_succ]
              refine wpAnyH_take (i := 5) (oi := otl31_5) (v := ?_) rfl (by kernel_rfl) (by kernel_rfl) (by kernel_rfl) (fun _ _ _ h => h) (Or.inl ⟨by rfl, ?_⟩) (by assumption) ?_
              rotate_left
              · ((intro w hSw; delta otl31_5; (try dsimp only at hSw); go_simp) <;> with_reducible rfl)
              try simp only [otl31_5, Act.put, List.setIfInBounds_toArray, List.set_cons_zero, List.set_cons_succ]
              refine wpAnyH_take (i := 6) (oi := otl31_6) (v := ?_) rfl (by kernel_rfl) (by kernel_rfl) (by kernel_rfl) (fun _ _ _ h => h) (Or.inl ⟨by rfl, ?_⟩) (by assumption) ?_
              rotate_left
              · ((intro w hSw; delta otl31_6; (try dsimp only at hSw); go_simp) <;> with_reducible rfl)
              try simp only [otl31_6, Act.put, List.setIfInBounds_toArray, List.set_cons_zero, List.set_cons_succ]
              refine wpAnyH_take (i := 7) (oi := otl31_7) (v := ?_) rfl (by kernel_rfl) (by kernel_rfl) (by kernel_rfl) (fun _ _ _ h => h) (Or.inl ⟨by rfl, ?_⟩) (by assumption) ?_
              rotate_left
              · ((intro w hSw; delta otl31_7; (try dsimp only at hSw); go_simp) <;> with_reducible rfl)
              try simp only [otl31_7, Act.put, List.setIfInBounds_toArray, List.set_cons_zero, List.set_cons_succ]
              refine wpAnyH_ready (rs := [8]) (by kernel_rfl) (by simp) ?_
              refine AllReadyH.cons (o := otl31_8) rfl (fun K hK => ?_) AllReadyH.nil
              delta otl31_8
              go_simp
              obtain ⟨W3, hV⟩ : ∃ V, W2.alloc (.cells #[.int .i64 0, .int .i64 0] 23) = V := ⟨_, rfl⟩; have hbz : Below W2.heap.size W2 W3 := (by rw [← hV]; exact (Below.refl _ _).alloc (Nat.le_refl _) _); have HB3 := Lib.hid (HB2.out.trans (hbz.mono HB2.out.size)); have Hb35_3 : Hid (Blk W3 W2.heap.size 23 #[.int .i64 0, .int .i64 0]) := (by rw [← hV]; exact Blk.new' _ _ _ rfl); obtain ⟨b35, hz⟩ : ∃ b, W2.heap.size = b := ⟨_, rfl⟩; rw [hz] at Hb35_3; have gb35 : W0.heap.size ≤ b35 := (by rw [← hz]; exact HB2.out.size); rw [hV, hz]; clear hV hbz hz
              refine hK.out _ _ ?_ (fun hHeld => ?_)
              · (try dsimp only); (exact HSV.out _ (HBV.out.trans (HB3.out.mono HBV.out.size)))
              clear hK K
              try simp only [otl31_8, Act.put, List.setIfInBounds_toArray, List.set_cons_zero, List.set_cons_succ]
             case' gr6 =>
              refine AllReadyH.cons (o := otl31_8) rfl (fun K hK => ?gs7) ?gr7
              case' gs7 =>
               delta otl31_8
               go_simp
               obtain ⟨W2, hV⟩ : ∃ V, W1.alloc (.cells #[.int .i64 0, .int .i64 0] 23) = V := ⟨_, rfl⟩; have hbz : Below W1.heap.size W1 W2 := (by rw [← hV]; exact (Below.refl _ _).alloc (Nat.le_refl _) _); have HB2 := Lib.hid (HB1.out.trans (hbz.mono HB1.out.size)); have Hb35_2 : Hid (Blk W2 W1.heap.size 23 #[.int .i64 0, .int .i64 0]) := (by rw [← hV]; exact Blk.new' _ _ _ rfl); obtain ⟨b35, hz⟩ : ∃ b, W1.heap.size = b := ⟨_, rfl⟩; rw [hz] at Hb35_2; have gb35 : W0.heap.size ≤ b35 := (by rw [← hz]; exact HB1.out.size); rw [hV, hz]; clear hV hbz hz
               refine hK.out _ _ ?_ (fun hHeld => ?_)
               · (try dsimp only); (exact HSV.out _ (HBV.out.trans (HB2.out.mono HBV.out.size)))
               clear hK K
               try simp only [otl31_8, Act.put, List.setIfInBounds_toArray, List.set_cons_zero, List.set_cons_succ]
               refine wpAnyH_ready (rs := [4]) (by kernel_rfl) (by simp) ?_
               refine AllReadyH.cons (o := otl31_4) rfl (fun K hK => ?_) AllReadyH.nil
               delta otl31_4
               go_simp
               (refine (lev_ok _ ⟨M, ps⟩ z zh _ ⟨_, rfl, HPA.out.later (HBA.out.trans ((HBV.out.trans (HB2.out.mono HBV.out.size)).mono HBA.out.size)) (Nat.le_refl _)⟩ H0.out ⟨by omega, by omega, by omega⟩).mono ?_; rintro e W3 ⟨rfl, hb⟩; rw [HY.out]); have hbz : Below W2.heap.size W2 W3 := (by first | exact hb | exact Below.trans (Below.drew (Below.refl _ _)) hb); clear hb; have HB3 := Lib.hid (HB2.out.trans (hbz.mono HB2.out.size)); have Hb35_3 := Lib.hid (Hb35_2.out.below hbz Hb35_2.out.lt); clear hbz
               refine hK.out _ _ ?_ (fun hHeld => ?_)
               · (try dsimp only); (exact HSV.out _ (HBV.out.trans (HB3.out.mono HBV.out.size)))
               clear hK K
               try simp only [otl31_4, Act.put, List.setIfInBounds_toArray, List.set_cons_zero, List.set_cons_succ]
               refine wpAnyH_take (i := 5) (oi := otl31_5) (v := ?_) rfl (by kernel_rfl) (by kernel_rfl) (by kernel_rfl) (fun _ _ _ h => h) (Or.inl ⟨by rfl, ?_⟩) (by assumption) ?_
               rotate_left
               · ((intro w hSw; delta otl31_5; (try dsimp only at hSw); go_simp) <;> with_reducible rfl)
               try simp only [otl31_5, Act.put, List.setIfInBounds_toArray, List.set_cons_zero, List.set_cons_succ]
               refine wpAnyH_take (i := 6) (oi := otl31_6) (v := ?_) rfl (by kernel_rfl) (by kernel_rfl) (by kernel_rfl) (fun _ _ _ h => h) (Or.inl ⟨by rfl, ?_⟩) (by assumption) ?_
               rotate_left
               · ((intro w hSw; delta otl31_6; (try dsimp only at hSw); go_simp) <;> with_reducible rfl)
               try simp only [otl31_6, Act.put, List.setIfInBounds_toArray, List.set_cons_zero, List.set_cons_succ]
               refine wpAnyH_take (i := 7) (oi := otl31_7) (v := ?_) rfl (by kernel_rfl) (by kernel_rfl) (by kernel_rfl) (fun _ _ _ h => h) (Or.inl ⟨by rfl, ?_⟩) (by assumption) ?_
               rotate_left
               · ((intro w hSw; delta otl31_7; (try dsimp only at hSw); go_simp) <;> with_reducible rfl)
               try simp only [otl31_7, Act.put, List.setIfInBounds_toArray, List.set_cons_zero, List.set_cons_succ]
              case' gr7 =>
               exact AllReadyH.nil
            case' gr5 =>
             refine AllReadyH.cons (o := otl31_8) rfl (fun K hK => ?gs8) ?gr8
             case' gs8 =>
              delta otl31_8
              go_simp
              obtain ⟨W1, hV⟩ : ∃ V, W0.alloc (.cells #[.int .i64 0, .int .i64 0] 23) = V := ⟨_, rfl⟩; have hbz : Below W0.heap.size W0 W1 := (by rw [← hV]; exact (Below.refl _ _).alloc (Nat.le_refl _) _); have HB1 := Lib.hid (HB0.out.trans (hbz.mono HB0.out.size)); have Hb35_1 : Hid (Blk W1 W0.heap.size 23 #[.int .i64 0, .int .i64 0]) := (by rw [← hV]; exact Blk.new' _ _ _ rfl); obtain ⟨b35, hz⟩ : ∃ b, W0.heap.size = b := ⟨_, rfl⟩; rw [hz] at Hb35_1; have gb35 : W0.heap.size ≤ b35 := (by rw [← hz]; exact HB0.out.size); rw [hV, hz]; clear hV hbz hz
              refine hK.out _ _ ?_ (fun hHeld => ?_)
              · (try dsimp only); (exact HSV.out _ (HBV.out.trans (HB1.out.mono HBV.out.size)))
              clear hK K
              try simp only [otl31_8, Act.put, List.setIfInBounds_toArray, List.set_cons_zero, List.set_cons_succ]
              refine wpAnyH_ready (rs := [3]) (by kernel_rfl) (by simp) ?_
              refine AllReadyH.cons (o := otl31_3) rfl (fun K hK => ?_) AllReadyH.nil
              delta otl31_3
              go_simp
              (refine (lspan_any z zh _).mono ?_; rintro e W2 ⟨rfl, hb⟩); have hbz : Below W1.heap.size W1 W2 := (by first | exact hb | exact Below.trans (Below.drew (Below.refl _ _)) hb); clear hb; have HB2 := Lib.hid (HB1.out.trans (hbz.mono HB1.out.size)); have Hb35_2 := Lib.hid (Hb35_1.out.below hbz Hb35_1.out.lt); clear hbz
              refine hK.out _ _ ?_ (fun hHeld => ?_)
              · (try dsimp only); (exact HSV.out _ (HBV.out.trans (HB2.out.mono HBV.out.size)))
              clear hK K
              try simp only [otl31_3, Act.put, List.setIfInBounds_toArray, List.set_cons_zero, List.set_cons_succ]
              refine wpAnyH_ready (rs := [4]) (by kernel_rfl) (by simp) ?_
              refine AllReadyH.cons (o := otl31_4) rfl (fun K hK => ?_) AllReadyH.nil
              delta otl31_4
              go_simp
              (refine (lev_ok _ ⟨M, ps⟩ z zh _ ⟨_, rfl, HPA.out.later (HBA.out.trans ((HBV.out.trans (HB2.out.mono HBV.out.size)).mono HBA.out.size)) (Nat.le_refl _)⟩ H0.out ⟨by omega, by omega, by omega⟩).mono ?_; rintro e W3 ⟨rfl, hb⟩; rw [HY.out]); have hbz : Below W2.heap.size W2 W3 := (by first | exact hb | exact Below.trans (Below.drew (Below.refl _ _)) hb); clear hb; have HB3 := Lib.hid (HB2.out.trans (hbz.mono HB2.out.size)); have Hb35_3 := Lib.hid (Hb35_2.out.below hbz Hb35_2.out.lt); clear hbz
              refine hK.out _ _ ?_ (fun hHeld => ?_)
              · (try dsimp only); (exact HSV.out _ (HBV.out.trans (HB3.out.mono HBV.out.size)))
              clear hK K
              try simp only [otl31_4, Act.put, List.setIfInBounds_toArray, List.set_cons_zero, List.set_cons_succ]
              refine wpAnyH_take (i := 5) (oi := otl31_5) (v := ?_) rfl (by kernel_rfl) (by kernel_rfl) (by kernel_rfl) (fun _ _ _ h => h) (Or.inl ⟨by rfl, ?_⟩) (by assumption) ?_
              rotate_left
              · ((intro w hSw; delta otl31_5; (try dsimp only at hSw); go_simp) <;> with_reducible rfl)
              try simp only [otl31_5, Act.put, List.setIfInBounds_toArray, List.set_cons_zero, List.set_cons_succ]
              refine wpAnyH_take (i := 6) (oi := otl31_6) (v := ?_) rfl (by kernel_rfl) (by kernel_rfl) (by kernel_rfl) (fun _ _ _ h => h) (Or.inl ⟨by rfl, ?_⟩) (by assumption) ?_
              rotate_left
              · ((intro w hSw; delta otl31_6; (try dsimp only at hSw); go_simp) <;> with_reducible rfl)
              try simp only [otl31_6, Act.put, List.setIfInBounds_toArray, List.set_cons_zero, List.set_cons_succ]
              refine wpAnyH_take (i := 7) (oi := otl31_7) (v := ?_) rfl (by kernel_rfl) (by kernel_rfl) (by kernel_rfl) (fun _ _ _ h => h) (Or.inl ⟨by rfl, ?_⟩) (by assumption) ?_
              rotate_left
              · ((intro w hSw; delta otl31_7; (try dsimp only at hSw); go_simp) <;> with_reducible rfl)
              try simp only [otl31_7, Act.put, List.setIfInBounds_toArray, List.set_cons_zero, List.set_cons_succ]
             case' gr8 =>
              exact AllReadyH.nil
            all_goals
             as_aux_lemma =>
              have u0 := Hb35_3.out.cell 0; have u1 := Hb35_3.out.cell 1; have v0 := Hb35_3.out.frozen 0; have v1 := Hb35_3.out.frozen 1; simp only [List.getElem?_toArray, List.getElem?_cons_zero, List.getElem?_cons_succ] at u0 u1
              refine wpAnyH_ready (rs := [9]) (by kernel_rfl) (by simp) ?_
              refine AllReadyH.cons (o := otl31_9) rfl (fun K hK => ?_) AllReadyH.nil
              delta otl31_9
              go_simp
              refine hK.out _ _ ?_ (fun hHeld => ?_)
              · (try dsimp only); (refine HSV.out _ (HBV.out.trans (Below.mono ?_ HBV.out.size)); (repeat (first | exact HB3.out | refine Below.setCell ?_ (by exact gb35) _)); done)
              clear hK K
              try simp only [otl31_9, Act.put, List.setIfInBounds_toArray, List.set_cons_zero, List.set_cons_succ]
              refine wpAnyH_take (i := 10) (oi := otl31_10) (v := ?_) rfl (by kernel_rfl) (by kernel_rfl) (by kernel_rfl) (fun _ _ _ h => h) (Or.inl ⟨by rfl, ?_⟩) (by assumption) ?_
              rotate_left
              · ((intro w hSw; delta otl31_10; (try dsimp only at hSw); go_simp) <;> with_reducible rfl)
              try simp only [otl31_10, Act.put, List.setIfInBounds_toArray, List.set_cons_zero, List.set_cons_succ]
              refine wpAnyH_done (by kernel_rfl) ?_ _
              refine NoPanic.normal ?_
              go_wp2_with fail
              go_meet
              exact ⟨rfl, oneB_set Hb35_3.out gb35 HB3.out HBV.out⟩
          case rest =>
            obtain ⟨rfl, b35, rfl, hnew, hgn, hb⟩ := hcut
            obtain ⟨Va10, rfl⟩ : ∃ V, V = wc := ⟨_, rfl⟩
            have HZ := Lib.hid hb
            have nb17b35 : ¬ b17 = b35 := by have := Hb17.out.lt; omega
            have nb35b17 : ¬ b35 = b17 := fun e => nb17b35 e.symm
            have nb18b35 : ¬ b18 = b35 := by have := Hb18.out.lt; omega
            have nb35b18 : ¬ b35 = b18 := fun e => nb18b35 e.symm
            have gb35 : w.heap.size ≤ b35 := Nat.le_trans HBP.out.size hgn
            clear hb hgn HSV k0
            have Gb17 := Lib.hid (Hb17.out.below HZ.out Hb17.out.lt)
            have Gb18 := Lib.hid (Hb18.out.below HZ.out Hb18.out.lt)
            have GHBP := Lib.hid (HBP.out.trans (HZ.out.mono HBP.out.size))
            have GHBA := Lib.hid (HBA.out.trans (HZ.out.mono HBA.out.size))
            have GHBL3 := Lib.hid (HBL3.out.trans (HZ.out.mono HBL3.out.size))
            have GHSA := Lib.hid (SpansAt.later HSA.out HZ.out (Nat.le_refl _))
            clear Hb17 Hb18 HBP HBA HBL3 HSA HZ
            have Hb17 := Gb17
            have Hb18 := Gb18
            have HBP := GHBP
            have HBA := GHBA
            have HBL3 := GHBL3
            have HSA := GHSA
            clear Gb17 Gb18 GHBP GHBA GHBL3 GHSA
            have Hb35 := Lib.hid hnew
            clear hnew
            go_wp2_with fail
            go_loopw [37, 205] (fun r j wr => ∃ k3 : Nat, k3 ≤ La.length ∧ r = .bool (hasIn (z, zh) La k3) ∧ j = .int .i64 k3 ∧ Hid (Below Va10.heap.size Va10 wr)) (fun _ j _ => La.length - (intOf j).toNat)
            case atStart => exact ⟨0, by omega, rfl, rfl, Below.refl _ _⟩
            case round =>
              obtain ⟨k3, hk3, rfl, rfl, HZ⟩ := hrel
              obtain ⟨Vr4, rfl⟩ : ∃ V, V = wr := ⟨_, rfl⟩
              have HBL4 := HZ
              have Gb17 := Lib.hid (Hb17.out.below HZ.out Hb17.out.lt)
              have Gb18 := Lib.hid (Hb18.out.below HZ.out Hb18.out.lt)
              have Gb35 := Lib.hid (Hb35.out.below HZ.out Hb35.out.lt)
              have GHBP := Lib.hid (HBP.out.trans (HZ.out.mono HBP.out.size))
              have GHBA := Lib.hid (HBA.out.trans (HZ.out.mono HBA.out.size))
              have GHBL3 := Lib.hid (HBL3.out.trans (HZ.out.mono HBL3.out.size))
              have GHSA := Lib.hid (SpansAt.later HSA.out HZ.out (Nat.le_refl _))
              clear Hb17 Hb18 Hb35 HBP HBA HBL3 HSA HZ
              have Hb17 := Gb17
              have Hb18 := Gb18
              have Hb35 := Gb35
              have HBP := GHBP
              have HBA := GHBA
              have HBL3 := GHBL3
              have HSA := GHSA
              clear Gb17 Gb18 Gb35 GHBP GHBA GHBL3 GHSA
              by_cases hlt3 : k3 < La.length
              rotate_left
              · obtain rfl : k3 = La.length := by omega
                rw [HP5.out]
                have cb350 : Vr4.cell? ⟨b35, 0, none⟩ = some (.int .i64 (Y1)) := Hb35.out.cell 0
                have cb351 : Vr4.cell? ⟨b35, 1, none⟩ = some (.int .i64 (Y2)) := Hb35.out.cell 1
                have cb180 : Vr4.cell? ⟨b18, 0, none⟩ = some (.int .i64 lo) := Hb18.out.cell 0
                have cb181 : Vr4.cell? ⟨b18, 1, none⟩ = some (.int .i64 hi) := Hb18.out.cell 1
                by_cases hy : Y2 ≤ v
                · rw [decide_eq_true hy]
                  by_cases hl : k + 1 < nPc (lo, hi) st
                  · have y1 := HL1.out hl
                    have y2 : zh = z + st := by have := HZH.out.2; omega
                    have y3 : ¬ hi ≤ zh := by omega
                    clear y2
                    go_wp2
                    go_roundw
                    case rel => exact ⟨k + 1, z + st, hl, by go_num, HSZ, by omega, by omega, HBL3⟩
                    case measure => simp [intOf]; omega
                  · have y1 := HL2.out hl
                    have y3 : hi ≤ zh := by have := HZH.out.2; omega
                    go_wp2_with fail
                    refine (works2_any _).mono ?_
                    rintro e w1 ⟨rfl, hb⟩
                    have HBE := HBP.out.trans (hb.mono HBP.out.size)
                    go_wp2
                    go_ret
                    exact ⟨rfl, HBE⟩
                · rw [decide_eq_false hy]
                  by_cases hl : k + 1 < nPc (lo, hi) st
                  · have y1 := HL1.out hl
                    have y2 : zh = z + st := by have := HZH.out.2; omega
                    have y3 : ¬ hi ≤ zh := by omega
                    clear y2
                    go_wp2
                    go_roundw
                    case rel => exact ⟨k + 1, z + st, hl, by go_num, HSZ, by omega, by omega, HBL3⟩
                    case measure => simp [intOf]; omega
                  · have y1 := HL2.out hl
                    have y3 : hi ≤ zh := by have := HZH.out.2; omega
                    go_wp2_with fail
                    refine (works2_any _).mono ?_
                    rintro e w1 ⟨rfl, hb⟩
                    have HBE := HBP.out.trans (hb.mono HBP.out.size)
                    go_wp2
                    go_ret
                    exact ⟨rfl, HBE⟩
              · have hk4 : (k3 : Int) < (La.length : Int) := by omega
                have hk5 : (0 : Int) ≤ (k3 : Int) := by omega
                have hsa := HSA.out
                obtain ⟨fb, fo, rfl, hfb, f0, f1⟩ := hsa.at_ hlt3
                have q6 := hasIn_succ (z, zh) hlt3
                clear hsa hfb
                generalize La[k3] = yz at *
                obtain ⟨y1, y2⟩ := yz
                simp only at f0 f1 q6
                obtain ⟨r, hr⟩ : ∃ x, hasIn (z, zh) La k3 = x := ⟨_, rfl⟩
                rw [hr] at q6 ⊢
                have HS := Lib.hid q6
                clear q6 hr
                go_upto_region 36 with (fail)
                obtain ⟨Va11, hV⟩ : ∃ V, Vr4.alloc (.cells #[.int .i64 y1, .int .i64 y2] 23) = V := ⟨_, rfl⟩
                have hz : Below Vr4.heap.size Vr4 Va11 := by rw [← hV]; exact (Below.refl _ _).alloc (Nat.le_refl _) _
                have hnew : Blk Va11 Vr4.heap.size 23 #[.int .i64 y1, .int .i64 y2] := by rw [← hV]; exact Blk.new' _ _ _ rfl
                have hgn := HBP.out.size
                have hga := HBA.out.size
                have lb17 := Hb17.out.lt
                have lb18 := Hb18.out.lt
                have lb35 := Hb35.out.lt
                rw [hV]
                obtain ⟨b39, hbx⟩ : ∃ b, Vr4.heap.size = b := ⟨_, rfl⟩
                rw [hbx] at hnew hgn hga lb17 lb18 lb35 ⊢
                have gb39 := hgn
                have HZ := Lib.hid hz
                have gab39 := hga
                clear hga
                have nb17b39 : ¬ b17 = b39 := by omega
                have nb39b17 : ¬ b39 = b17 := by omega
                have nb18b39 : ¬ b18 = b39 := by omega
                have nb39b18 : ¬ b39 = b18 := by omega
                have nb35b39 : ¬ b35 = b39 := by omega
                have nb39b35 : ¬ b39 = b35 := by omega
                clear hV hz hgn hbx lb17 lb18 lb35
                have Gb17 := Lib.hid (Hb17.out.below HZ.out Hb17.out.lt)
                have Gb18 := Lib.hid (Hb18.out.below HZ.out Hb18.out.lt)
                have Gb35 := Lib.hid (Hb35.out.below HZ.out Hb35.out.lt)
                have GHBP := Lib.hid (HBP.out.trans (HZ.out.mono HBP.out.size))
                have GHBA := Lib.hid (HBA.out.trans (HZ.out.mono HBA.out.size))
                have GHBL3 := Lib.hid (HBL3.out.trans (HZ.out.mono HBL3.out.size))
                have GHBL4 := Lib.hid (HBL4.out.trans (HZ.out.mono HBL4.out.size))
                have GHSA := Lib.hid (SpansAt.later HSA.out HZ.out (Nat.le_refl _))
                clear Hb17 Hb18 Hb35 HBP HBA HBL3 HBL4 HSA HZ
                have Hb17 := Gb17
                have Hb18 := Gb18
                have Hb35 := Gb35
                have HBP := GHBP
                have HBA := GHBA
                have HBL3 := GHBL3
                have HBL4 := GHBL4
                have HSA := GHSA
                clear Gb17 Gb18 Gb35 GHBP GHBA GHBL3 GHBL4 GHSA
                have Hb39 := Lib.hid hnew
                clear hnew
                clear f0 f1
                go_upto_region 36 with (fail)
                cases r with
                | true =>
                  go_quiet (fail)
                  obtain ⟨Ve, hV⟩ : ∃ U, Va11.drewN nq = U := ⟨_, rfl⟩
                  have hz : Below Va11.heap.size Va11 Ve := by rw [← hV]; exact Below.drewN' (Below.refl _ _) _
                  have HBM := Lib.hid (HBL4.out.trans (hz.mono HBL4.out.size))
                  rw [hV]
                  clear hV hz
                  go_wp2
                  go_roundw
                  case rel => exact ⟨k3 + 1, by omega, by rw [HS.out]; rfl, by go_num, HBM⟩
                  case measure => simp [intOf]; omega
                | false =>
                  have HSV : Hid (∀ U, Below Va11.heap.size Va11 U → U.cell? ⟨b39, 0, none⟩ = some (.int .i64 y1) ∧ U.cell? ⟨b39, 1, none⟩ = some (.int .i64 y2)) := fun U hU => by
                    have kb39 := Hb39.out.below hU Hb39.out.lt
                    exact ⟨kb39.cell 0, kb39.cell 1⟩
                  have k0 := HSV.out _ (Below.drew (Below.refl Va11.heap.size Va11))
                  refine wp_region_noPanic ?_
                  refine wp_region_held_drew (S := (fun w' => w'.cell? ⟨b39, 0, none⟩ = some (.int .i64 y1) ∧ w'.cell? ⟨b39, 1, none⟩ = some (.int .i64 y2))) (by kernel_rfl) ?_ (fun hHeld => ?_)
                  · (try dsimp only); (exact k0)
                  refine wpAnyH_take (i := 0) (oi := otl36_0) (v := ?_) rfl (by kernel_rfl) (by kernel_rfl) (by kernel_rfl) (fun _ _ _ h => h) (Or.inl ⟨by rfl, ?_⟩) (by assumption) ?_
                  rotate_left
                  · ((intro w hSw; delta otl36_0; (try dsimp only at hSw); go_simp) <;> with_reducible rfl)
                  try simp only [otl36_0, Act.put, List.setIfInBounds_toArray, List.set_cons_zero, List.set_cons_succ]
                  refine wpAnyH_take (i := 1) (oi := otl36_1) (v := ?_) rfl (by kernel_rfl) (by kernel_rfl) (by kernel_rfl) (fun _ _ _ h => h) (Or.inl ⟨by rfl, ?_⟩) (by assumption) ?_
                  rotate_left
                  · ((intro w hSw; delta otl36_1; (try dsimp only at hSw); go_simp) <;> with_reducible rfl)
                  try simp only [otl36_1, Act.put, List.setIfInBounds_toArray, List.set_cons_zero, List.set_cons_succ]
                  refine wpAnyH_take (i := 2) (oi := otl36_2) (v := ?_) rfl (by kernel_rfl) (by kernel_rfl) (by kernel_rfl) (fun _ _ _ h => h) (Or.inl ⟨by rfl, ?_⟩) (by assumption) ?_
                  rotate_left
                  · ((intro w hSw; delta otl36_2; (try dsimp only at hSw); go_simp) <;> with_reducible rfl)
                  try simp only [otl36_2, Act.put, List.setIfInBounds_toArray, List.set_cons_zero, List.set_cons_succ]
                  refine wpAnyH_take (i := 3) (oi := otl36_3) (v := ?_) rfl (by kernel_rfl) (by kernel_rfl) (by kernel_rfl) (fun _ _ _ h => h) (Or.inl ⟨by rfl, ?_⟩) (by assumption) ?_
                  rotate_left
                  · ((intro w hSw; delta otl36_3; (try dsimp only at hSw); go_simp) <;> with_reducible rfl)
                  try simp only [otl36_3, Act.put, List.setIfInBounds_toArray, List.set_cons_zero, List.set_cons_succ]
                  refine wpAnyH_take (i := 5) (oi := otl36_5) (v := ?_) rfl (by kernel_rfl) (by kernel_rfl) (by kernel_rfl) (fun _ _ _ h => h) (Or.inl ⟨by rfl, ?_⟩) (by assumption) ?_
                  rotate_left
                  · ((intro w hSw; delta otl36_5; (try dsimp only at hSw); go_simp) <;> with_reducible rfl)
                  try simp only [otl36_5, Act.put, List.setIfInBounds_toArray, List.set_cons_zero, List.set_cons_succ]
                  obtain ⟨W0, hW0⟩ : ∃ V, Va11.drew = V := ⟨_, rfl⟩; rw [hW0] at hHeld ⊢; have HBV : Hid (Below Va11.heap.size Va11 W0) := (by rw [← hW0]; exact Below.drew (Below.refl _ _)); have HB0 := Lib.hid (Below.refl W0.heap.size W0); clear hW0
                  refine wpAnyH_ready (rs := [4]) (by kernel_rfl) (by simp) ?_
                  refine AllReadyH.cons (o := otl36_4) rfl (fun K hK => ?_) AllReadyH.nil
                  delta otl36_4
                  go_simp
                  (refine (lspan_any z zh _).mono ?_; rintro e W1 ⟨rfl, hb⟩); have hbz : Below W0.heap.size W0 W1 := (by first | exact hb | exact Below.trans (Below.drew (Below.refl _ _)) hb); clear hb; have HB1 := Lib.hid (HB0.out.trans (hbz.mono HB0.out.size)); clear hbz
                  refine hK.out _ _ ?_ (fun hHeld => ?_)
                  · (try dsimp only); (exact HSV.out _ (HBV.out.trans (HB1.out.mono HBV.out.size)))
                  clear hK K
                  try simp only [otl36_4, Act.put, List.setIfInBounds_toArray, List.set_cons_zero, List.set_cons_succ]
                  refine wpAnyH_ready (rs := [6]) (by kernel_rfl) (by simp) ?_
                  refine AllReadyH.cons (o := otl36_6) rfl (fun K hK => ?_) AllReadyH.nil
                  delta otl36_6
                  go_simp
                  (refine (lwithin2_any z zh y1 y2 _).mono ?_; rintro e W2 ⟨rfl, hb⟩); have hbz : Below W1.heap.size W1 W2 := (by first | exact hb | exact Below.trans (Below.drew (Below.refl _ _)) hb); clear hb; have HB2 := Lib.hid (HB1.out.trans (hbz.mono HB1.out.size)); clear hbz
                  refine hK.out _ _ ?_ (fun hHeld => ?_)
                  · (try dsimp only); (exact HSV.out _ (HBV.out.trans (HB2.out.mono HBV.out.size)))
                  clear hK K
                  try simp only [otl36_6, Act.put, List.setIfInBounds_toArray, List.set_cons_zero, List.set_cons_succ]
                  refine wpAnyH_take (i := 7) (oi := otl36_7) (v := ?_) rfl (by kernel_rfl) (by kernel_rfl) (by kernel_rfl) (fun _ _ _ h => h) (Or.inl ⟨by rfl, ?_⟩) (by assumption) ?_
                  rotate_left
                  · ((intro w hSw; delta otl36_7; (try dsimp only at hSw); go_simp) <;> with_reducible rfl)
                  try simp only [otl36_7, Act.put, List.setIfInBounds_toArray, List.set_cons_zero, List.set_cons_succ]
                  refine wpAnyH_take (i := 8) (oi := otl36_8) (v := ?_) rfl (by kernel_rfl) (by kernel_rfl) (by kernel_rfl) (fun _ _ _ h => h) (Or.inl ⟨by rfl, ?_⟩) (by assumption) ?_
                  rotate_left
                  · ((intro w hSw; delta otl36_8; (try dsimp only at hSw); go_simp) <;> with_reducible rfl)
                  try simp only [otl36_8, Act.put, List.setIfInBounds_toArray, List.set_cons_zero, List.set_cons_succ]
                  refine wpAnyH_done (by kernel_rfl) ?_ _
                  refine NoPanic.normal ?_
                  have HBM := Lib.hid (HBL4.out.trans ((HBV.out.trans (HB2.out.mono HBV.out.size)).mono HBL4.out.size))
                  go_wp2
                  go_roundw
                  case rel => exact ⟨k3 + 1, by omega, by rw [HS.out, Bool.false_or]; simp [z3], by go_num, HBM⟩
                  case measure => simp [intOf]; omega
    · have hk0 : (0 : Int) ≤ (k : Int) := by omega
      have hk1 : (k : Int) < (La.length : Int) := by omega
      have hsa := HSA.out
      obtain ⟨eb, eo, rfl, heb, f0, f1⟩ := hsa.at_ hlt
      have q1 := HW1.out k hlt
      have q2 := HW2.out k hlt
      have q3 := HW3.out k hlt
      have q4 := HW4.out k hlt
      clear hsa heb
      generalize La[k] = wz at *
      obtain ⟨w1, w2⟩ := wz
      simp only at f0 f1 q1 q2 q3
      have HQ2 := Lib.hid q2
      have HQ4 := Lib.hid q4
      have x1 := Int.tmod_lt_of_pos at_ (show (0 : Int) < w2 - w1 + 1 by omega)
      have x2 := Int.tmod_nonneg (w2 - w1 + 1) hat.1
      have x4 : at_.tmod (w2 - w1 + 1) = at_ % (w2 - w1 + 1) := Int.tmod_eq_emod_of_nonneg hat.1
      obtain ⟨xr, x3⟩ : ∃ z, at_.tmod (w2 - w1 + 1) = z := ⟨_, rfl⟩
      rw [x3] at x1 x2 x4
      have x5 := x4.symm
      obtain ⟨x, hx⟩ : ∃ z, w1 + xr = z := ⟨_, rfl⟩
      have x6 : w1 ≤ x := by omega
      have x7 : x ≤ w2 := by omega
      have q5 := q3 x x6 x7
      obtain ⟨⟨X1, X2⟩, hX⟩ : ∃ z, levelZ ⟨M, ps⟩ (x, x) = z := ⟨_, rfl⟩
      rw [hX] at q5
      simp only at q5
      have HX := Lib.hid hX
      have z2 : ¬ w2 - w1 + 1 = 0 := by omega
      have z3 : ¬ w2 < w1 := by omega
      have z4 : ¬ w1 < lo := by omega
      have z5 : ¬ hi < w2 := by omega
      have z6 : ¬ v < X1 := by omega
      clear q2 q3 q4 q5 hX x4
      go_upto_region 15 with (fail)
      obtain ⟨Va7, hV⟩ : ∃ V, Vr1.alloc (.cells #[.int .i64 w1, .int .i64 w2] 23) = V := ⟨_, rfl⟩
      have hz : Below Vr1.heap.size Vr1 Va7 := by rw [← hV]; exact (Below.refl _ _).alloc (Nat.le_refl _) _
      have hnew : Blk Va7 Vr1.heap.size 23 #[.int .i64 w1, .int .i64 w2] := by rw [← hV]; exact Blk.new' _ _ _ rfl
      have hgn := HBP.out.size
      have hga := HBA.out.size
      have lb17 := Hb17.out.lt
      have lb18 := Hb18.out.lt
      rw [hV]
      obtain ⟨b26, hbx⟩ : ∃ b, Vr1.heap.size = b := ⟨_, rfl⟩
      rw [hbx] at hnew hgn hga lb17 lb18 ⊢
      have gb26 := hgn
      have HZ := Lib.hid hz
      have gab26 := hga
      clear hga
      have nb17b26 : ¬ b17 = b26 := by omega
      have nb26b17 : ¬ b26 = b17 := by omega
      have nb18b26 : ¬ b18 = b26 := by omega
      have nb26b18 : ¬ b26 = b18 := by omega
      clear hV hz hgn hbx lb17 lb18
      have Gb17 := Lib.hid (Hb17.out.below HZ.out Hb17.out.lt)
      have Gb18 := Lib.hid (Hb18.out.below HZ.out Hb18.out.lt)
      have GHBP := Lib.hid (HBP.out.trans (HZ.out.mono HBP.out.size))
      have GHBA := Lib.hid (HBA.out.trans (HZ.out.mono HBA.out.size))
      have GHBL1 := Lib.hid (HBL1.out.trans (HZ.out.mono HBL1.out.size))
      have GHSA := Lib.hid (SpansAt.later HSA.out HZ.out (Nat.le_refl _))
      have GHSB := Lib.hid (SpansAt.later HSB.out HZ.out (Nat.le_refl _))
      clear Hb17 Hb18 HBP HBA HBL1 HSA HSB HZ
      have Hb17 := Gb17
      have Hb18 := Gb18
      have HBP := GHBP
      have HBA := GHBA
      have HBL1 := GHBL1
      have HSA := GHSA
      have HSB := GHSB
      clear Gb17 Gb18 GHBP GHBA GHBL1 GHSA GHSB
      have Hb26 := Lib.hid hnew
      clear hnew
      clear f0 f1
      go_cut [137] from 104 to 138 (fun p wx => p = .bool false ∧ Below Va7.heap.size Va7 wx)
      case first =>
        have cb260 : Va7.cell? ⟨b26, 0, none⟩ = some (.int .i64 w1) := Hb26.out.cell 0
        have cb261 : Va7.cell? ⟨b26, 1, none⟩ = some (.int .i64 w2) := Hb26.out.cell 1
        have cb180 : Va7.cell? ⟨b18, 0, none⟩ = some (.int .i64 lo) := Hb18.out.cell 0
        have cb181 : Va7.cell? ⟨b18, 1, none⟩ = some (.int .i64 hi) := Hb18.out.cell 1
        by_cases hk9 : 0 < k
        · obtain ⟨k', rfl⟩ : ∃ k', k = k' + 1 := ⟨k - 1, by omega⟩
          have q2 := HQ2.out hk9
          have k9 : (0 : Int) < ((k' + 1 : Nat) : Int) := by omega
          obtain ⟨pb, po, pe, -, p0, p1⟩ := HSA.out.at_ (k := k') (by omega)
          injection pe with pe
          injection pe with pe1 pe2
          subst pe1 pe2
          have k8 : k' < La.length := by omega
          simp only [Nat.add_sub_cancel] at q2
          generalize La[k'] = pz at *
          obtain ⟨r1, r2⟩ := pz
          simp only at p0 p1 q2
          have q6 : ¬ w1 ≤ r2 := by omega
          have k7 : (k' : Int) < (La.length : Int) := by omega
          have k6 : (k' : Int) + 1 - 1 = (k' : Int) := by omega
          go_quiet (fail)
          go_wp2_with fail
          go_meet
          exact ⟨rfl, Below.drewN' (Below.refl _ _) _⟩
        · have k9 : ¬ (0 : Int) < (k : Int) := by omega
          go_quiet (fail)
          go_wp2_with fail
          go_meet
          exact ⟨rfl, Below.drewN' (Below.refl _ _) _⟩
      case rest =>
        obtain ⟨rfl, hb9⟩ := hcut
        obtain ⟨Vc15, rfl⟩ : ∃ V, V = wc := ⟨_, rfl⟩
        have HZ := Lib.hid hb9
        clear hb9
        have Gb17 := Lib.hid (Hb17.out.below HZ.out Hb17.out.lt)
        have Gb18 := Lib.hid (Hb18.out.below HZ.out Hb18.out.lt)
        have Gb26 := Lib.hid (Hb26.out.below HZ.out Hb26.out.lt)
        have GHBP := Lib.hid (HBP.out.trans (HZ.out.mono HBP.out.size))
        have GHBA := Lib.hid (HBA.out.trans (HZ.out.mono HBA.out.size))
        have GHBL1 := Lib.hid (HBL1.out.trans (HZ.out.mono HBL1.out.size))
        have GHSA := Lib.hid (SpansAt.later HSA.out HZ.out (Nat.le_refl _))
        have GHSB := Lib.hid (SpansAt.later HSB.out HZ.out (Nat.le_refl _))
        clear Hb17 Hb18 Hb26 HBP HBA HBL1 HSA HSB HZ
        have Hb17 := Gb17
        have Hb18 := Gb18
        have Hb26 := Gb26
        have HBP := GHBP
        have HBA := GHBA
        have HBL1 := GHBL1
        have HSA := GHSA
        have HSB := GHSB
        clear Gb17 Gb18 Gb26 GHBP GHBA GHBL1 GHSA GHSB
        clear z3 z4 z5
        have cb260 : Vc15.cell? ⟨b26, 0, none⟩ = some (.int .i64 w1) := Hb26.out.cell 0
        have cb261 : Vc15.cell? ⟨b26, 1, none⟩ = some (.int .i64 w2) := Hb26.out.cell 1
        go_upto_region 17 with (fail)
        go_cut [27] from 138 to 150 (fun p wx => p = .int .i64 x ∧ Below Vc15.heap.size Vc15 wx)
        case first =>
          go_quiet (fail)
          go_wp2_with fail
          go_meet
          exact ⟨rfl, Below.drewN' (Below.refl _ _) _⟩
        case' rest => clear cb260 cb261
        case rest =>
          obtain ⟨rfl, hb9⟩ := hcut
          obtain ⟨Vc17, rfl⟩ : ∃ V, V = wc := ⟨_, rfl⟩
          have HZ := Lib.hid hb9
          clear hb9
          have Gb17 := Lib.hid (Hb17.out.below HZ.out Hb17.out.lt)
          have Gb18 := Lib.hid (Hb18.out.below HZ.out Hb18.out.lt)
          have Gb26 := Lib.hid (Hb26.out.below HZ.out Hb26.out.lt)
          have GHBP := Lib.hid (HBP.out.trans (HZ.out.mono HBP.out.size))
          have GHBA := Lib.hid (HBA.out.trans (HZ.out.mono HBA.out.size))
          have GHBL1 := Lib.hid (HBL1.out.trans (HZ.out.mono HBL1.out.size))
          have GHSA := Lib.hid (SpansAt.later HSA.out HZ.out (Nat.le_refl _))
          have GHSB := Lib.hid (SpansAt.later HSB.out HZ.out (Nat.le_refl _))
          clear Hb17 Hb18 Hb26 HBP HBA HBL1 HSA HSB HZ
          have Hb17 := Gb17
          have Hb18 := Gb18
          have Hb26 := Gb26
          have HBP := GHBP
          have HBA := GHBA
          have HBL1 := GHBL1
          have HSA := GHSA
          have HSB := GHSB
          clear Gb17 Gb18 Gb26 GHBP GHBA GHBL1 GHSA GHSB
          clear x1 x2 x3 x5 hx z2 w8
          go_upto_region 18 with (fail)
          have HSV : Hid (∀ U, Below Vc17.heap.size Vc17 U → U.cell? ⟨b17, 0, none⟩ = some (.int .i64 M) ∧ U.cell? ⟨b17, 1, none⟩ = some (.slice A l.length c)) := fun U hU => by
            have kb17 := Hb17.out.below hU Hb17.out.lt
            exact ⟨kb17.cell 0, kb17.cell 1⟩
          have k0 := HSV.out _ (Below.drew (Below.refl Vc17.heap.size Vc17))
          go_cut [28, 29] from 150 to 158 (fun p q wx => q = .int .i64 0 ∧ OneB Vc17 23 (X1) (X2) p wx)
          case first =>
            refine wp_region_noPanic ?_
            refine wp_region_held_drew (S := (fun w' => w'.cell? ⟨b17, 0, none⟩ = some (.int .i64 M) ∧ w'.cell? ⟨b17, 1, none⟩ = some (.slice A l.length c))) (by kernel_rfl) ?_ (fun hHeld => ?_)
            · (try dsimp only); (exact k0)
            refine wpAnyH_take (i := 0) (oi := otl18_0) (v := ?_) rfl (by kernel_rfl) (by kernel_rfl) (by kernel_rfl) (fun _ _ _ h => h) (Or.inl ⟨by rfl, ?_⟩) (by assumption) ?_
            rotate_left
            · ((intro w hSw; delta otl18_0; (try dsimp only at hSw); go_simp) <;> with_reducible rfl)
            try simp only [otl18_0, Act.put, List.setIfInBounds_toArray, List.set_cons_zero, List.set_cons_succ]
            refine wpAnyH_take (i := 1) (oi := otl18_1) (v := ?_) rfl (by kernel_rfl) (by kernel_rfl) (by kernel_rfl) (fun _ _ _ h => h) (Or.inl ⟨by rfl, ?_⟩) (by assumption) ?_
            rotate_left
            · ((intro w hSw; delta otl18_1; (try dsimp only at hSw); go_simp) <;> with_reducible rfl)
            try simp only [otl18_1, Act.put, List.setIfInBounds_toArray, List.set_cons_zero, List.set_cons_succ]
            refine wpAnyH_take (i := 2) (oi := otl18_2) (v := ?_) rfl (by kernel_rfl) (by kernel_rfl) (by kernel_rfl) (fun _ _ _ h => h) (Or.inl ⟨by rfl, ?_⟩) (by assumption) ?_
            rotate_left
            · ((intro w hSw; delta otl18_2; (try dsimp only at hSw); go_simp) <;> with_reducible rfl)
            try simp only [otl18_2, Act.put, List.setIfInBounds_toArray, List.set_cons_zero, List.set_cons_succ]
            obtain ⟨W0, hW0⟩ : ∃ V, Vc17.drew = V := ⟨_, rfl⟩; rw [hW0] at hHeld ⊢; have HBV : Hid (Below Vc17.heap.size Vc17 W0) := (by rw [← hW0]; exact Below.drew (Below.refl _ _)); have HB0 := Lib.hid (Below.refl W0.heap.size W0); clear hW0
            refine wpAnyH_ready (rs := [3, 8]) (by kernel_rfl) (by simp) ?_
            refine AllReadyH.cons (o := otl18_3) rfl (fun K hK => ?gs1) ?gr1
            case' gs1 =>
             delta otl18_3
             go_simp
             (refine (lspan_any x x _).mono ?_; rintro e W1 ⟨rfl, hb⟩); have hbz : Below W0.heap.size W0 W1 := (by first | exact hb | exact Below.trans (Below.drew (Below.refl _ _)) hb); clear hb; have HB1 := Lib.hid (HB0.out.trans (hbz.mono HB0.out.size)); clear hbz
             refine hK.out _ _ ?_ (fun hHeld => ?_)
             · (try dsimp only); (exact HSV.out _ (HBV.out.trans (HB1.out.mono HBV.out.size)))
             clear hK K
             try simp only [otl18_3, Act.put, List.setIfInBounds_toArray, List.set_cons_zero, List.set_cons_succ]
             refine wpAnyH_ready (rs := [4, 8]) (by kernel_rfl) (by simp) ?_
             refine AllReadyH.cons (o := otl18_4) rfl (fun K hK => ?gs2) ?gr2
             case' gs2 =>
              delta otl18_4
              go_simp
              (refine (lev_ok _ ⟨M, ps⟩ x x _ ⟨_, rfl, HPA.out.later (HBA.out.trans ((HBV.out.trans (HB1.out.mono HBV.out.size)).mono HBA.out.size)) (Nat.le_refl _)⟩ H0.out ⟨by omega, by omega, by omega⟩).mono ?_; rintro e W2 ⟨rfl, hb⟩; rw [HX.out]); have hbz : Below W1.heap.size W1 W2 := (by first | exact hb | exact Below.trans (Below.drew (Below.refl _ _)) hb); clear hb; have HB2 := Lib.hid (HB1.out.trans (hbz.mono HB1.out.size)); clear hbz
              refine hK.out _ _ ?_ (fun hHeld => ?_)
              · (try dsimp only); (exact HSV.out _ (HBV.out.trans (HB2.out.mono HBV.out.size)))
              clear hK K
              try simp only [otl18_4, Act.put, List.setIfInBounds_toArray, List.set_cons_zero, List.set_cons_succ]
              refine wpAnyH_take (i := 5) (oi := otl18_5) (v := ?_) rfl (by kernel_rfl) (by kernel_rfl) (by kernel_rfl) (fun _ _ _ h => h) (Or.inl ⟨by rfl, ?_⟩) (by assumption) ?_
              rotate_left
              · ((intro w hSw; delta otl18_5; (try dsimp only at hSw); go_simp) <;> with_reducible rfl)
              try simp only [otl18_5, Act.put, List.setIfInBounds_toArray, List.set_cons_zero, List.set_cons_succ]
              refine wpAnyH_take (i := 6) (oi := otl18_6) (v := ?_) rfl (by kernel_rfl) (by kernel_rfl) (by kernel_rfl) (fun _ _ _ h => h) (Or.inl ⟨by rfl, ?_⟩) (by assumption) ?_
              rotate_left
              · ((intro w hSw; delta otl18_6; (try dsimp only at hSw); go_simp) <;> with_reducible rfl)
              try simp only [otl18_6, Act.put, List.setIfInBounds_toArray, List.set_cons_zero, List.set_cons_succ]
              refine wpAnyH_take (i := 7) (oi := otl18_7) (v := ?_) rfl (by kernel_rfl) (by kernel_rfl) (by kernel_rfl) (fun _ _ _ h => h) (Or.inl ⟨by rfl, ?_⟩) (by assumption) ?_
              rotate_left
              · ((intro w hSw; delta otl18_7; (try dsimp only at hSw); go_simp) <;> with_reducible rfl)
              try simp only [otl18_7, Act.put, List.setIfInBounds_toArray, List.set_cons_zero, List.set_cons_succ]
              refine wpAnyH_ready (rs := [8]) (by kernel_rfl) (by simp) ?_
              refine AllReadyH.cons (o := otl18_8) rfl (fun K hK => ?_) AllReadyH.nil
              delta otl18_8
              go_simp
              obtain ⟨W3, hV⟩ : ∃ V, W2.alloc (.cells #[.int .i64 0, .int .i64 0] 23) = V := ⟨_, rfl⟩; have hbz : Below W2.heap.size W2 W3 := (by rw [← hV]; exact (Below.refl _ _).alloc (Nat.le_refl _) _); have HB3 := Lib.hid (HB2.out.trans (hbz.mono HB2.out.size)); have Hb28_3 : Hid (Blk W3 W2.heap.size 23 #[.int .i64 0, .int .i64 0]) := (by rw [← hV]; exact Blk.new' _ _ _ rfl); obtain ⟨b28, hz⟩ : ∃ b, W2.heap.size = b := ⟨_, rfl⟩; rw [hz] at Hb28_3; have gb28 : W0.heap.size ≤ b28 := (by rw [← hz]; exact HB2.out.size); rw [hV, hz]; clear hV hbz hz
              refine hK.out _ _ ?_ (fun hHeld => ?_)
              · (try dsimp only); (exact HSV.out _ (HBV.out.trans (HB3.out.mono HBV.out.size)))
              clear hK K
              try simp only [otl18_8, Act.put, List.setIfInBounds_toArray, List.set_cons_zero, List.set_cons_succ]
             case' gr2 =>
              refine AllReadyH.cons (o := otl18_8) rfl (fun K hK => ?gs3) ?gr3
              case' gs3 =>
               delta otl18_8
               go_simp
               obtain ⟨W2, hV⟩ : ∃ V, W1.alloc (.cells #[.int .i64 0, .int .i64 0] 23) = V := ⟨_, rfl⟩; have hbz : Below W1.heap.size W1 W2 := (by rw [← hV]; exact (Below.refl _ _).alloc (Nat.le_refl _) _); have HB2 := Lib.hid (HB1.out.trans (hbz.mono HB1.out.size)); have Hb28_2 : Hid (Blk W2 W1.heap.size 23 #[.int .i64 0, .int .i64 0]) := (by rw [← hV]; exact Blk.new' _ _ _ rfl); obtain ⟨b28, hz⟩ : ∃ b, W1.heap.size = b := ⟨_, rfl⟩; rw [hz] at Hb28_2; have gb28 : W0.heap.size ≤ b28 := (by rw [← hz]; exact HB1.out.size); rw [hV, hz]; clear hV hbz hz
               refine hK.out _ _ ?_ (fun hHeld => ?_)
               · (try dsimp only); (exact HSV.out _ (HBV.out.trans (HB2.out.mono HBV.out.size)))
               clear hK K
               try simp only [otl18_8, Act.put, List.setIfInBounds_toArray, List.set_cons_zero, List.set_cons_succ]
               refine wpAnyH_ready (rs := [4]) (by kernel_rfl) (by simp) ?_
               refine AllReadyH.cons (o := otl18_4) rfl (fun K hK => ?_) AllReadyH.nil
               delta otl18_4
               go_simp
               (refine (lev_ok _ ⟨M, ps⟩ x x _ ⟨_, rfl, HPA.out.later (HBA.out.trans ((HBV.out.trans (HB2.out.mono HBV.out.size)).mono HBA.out.size)) (Nat.le_refl _)⟩ H0.out ⟨by omega, by omega, by omega⟩).mono ?_; rintro e W3 ⟨rfl, hb⟩; rw [HX.out]); have hbz : Below W2.heap.size W2 W3 := (by first | exact hb | exact Below.trans (Below.drew (Below.refl _ _)) hb); clear hb; have HB3 := Lib.hid (HB2.out.trans (hbz.mono HB2.out.size)); have Hb28_3 := Lib.hid (Hb28_2.out.below hbz Hb28_2.out.lt); clear hbz
               refine hK.out _ _ ?_ (fun hHeld => ?_)
               · (try dsimp only); (exact HSV.out _ (HBV.out.trans (HB3.out.mono HBV.out.size)))
               clear hK K
               try simp only [otl18_4, Act.put, List.setIfInBounds_toArray, List.set_cons_zero, List.set_cons_succ]
               refine wpAnyH_take (i := 5) (oi := otl18_5) (v := ?_) rfl (by kernel_rfl) (by kernel_rfl) (by kernel_rfl) (fun _ _ _ h => h) (Or.inl ⟨by rfl, ?_⟩) (by assumption) ?_
               rotate_left
               · ((intro w hSw; delta otl18_5; (try dsimp only at hSw); go_simp) <;> with_reducible rfl)
               try simp only [otl18_5, Act.put, List.setIfInBounds_toArray, List.set_cons_zero, List.set_cons_succ]
               refine wpAnyH_take (i := 6) (oi := otl18_6) (v := ?_) rfl (by kernel_rfl) (by kernel_rfl) (by kernel_rfl) (fun _ _ _ h => h) (Or.inl ⟨by rfl, ?_⟩) (by assumption) ?_
               rotate_left
               · ((intro w hSw; delta otl18_6; (try dsimp only at hSw); go_simp) <;> with_reducible rfl)
               try simp only [otl18_6, Act.put, List.setIfInBounds_toArray, List.set_cons_zero, List.set_cons_succ]
               refine wpAnyH_take (i := 7) (oi := otl18_7) (v := ?_) rfl (by kernel_rfl) (by kernel_rfl) (by kernel_rfl) (fun _ _ _ h => h) (Or.inl ⟨by rfl, ?_⟩) (by assumption) ?_
               rotate_left
               · ((intro w hSw; delta otl18_7; (try dsimp only at hSw); go_simp) <;> with_reducible rfl)
               try simp only [otl18_7, Act.put, List.setIfInBounds_toArray, List.set_cons_zero, List.set_cons_succ]
              case' gr3 =>
               exact AllReadyH.nil
            case' gr1 =>
             refine AllReadyH.cons (o := otl18_8) rfl (fun K hK => ?gs4) ?gr4
             case' gs4 =>
              delta otl18_8
              go_simp
              obtain ⟨W1, hV⟩ : ∃ V, W0.alloc (.cells #[.int .i64 0, .int .i64 0] 23) = V := ⟨_, rfl⟩; have hbz : Below W0.heap.size W0 W1 := (by rw [← hV]; exact (Below.refl _ _).alloc (Nat.le_refl _) _); have HB1 := Lib.hid (HB0.out.trans (hbz.mono HB0.out.size)); have Hb28_1 : Hid (Blk W1 W0.heap.size 23 #[.int .i64 0, .int .i64 0]) := (by rw [← hV]; exact Blk.new' _ _ _ rfl); obtain ⟨b28, hz⟩ : ∃ b, W0.heap.size = b := ⟨_, rfl⟩; rw [hz] at Hb28_1; have gb28 : W0.heap.size ≤ b28 := (by rw [← hz]; exact HB0.out.size); rw [hV, hz]; clear hV hbz hz
              refine hK.out _ _ ?_ (fun hHeld => ?_)
              · (try dsimp only); (exact HSV.out _ (HBV.out.trans (HB1.out.mono HBV.out.size)))
              clear hK K
              try simp only [otl18_8, Act.put, List.setIfInBounds_toArray, List.set_cons_zero, List.set_cons_succ]
              refine wpAnyH_ready (rs := [3]) (by kernel_rfl) (by simp) ?_
              refine AllReadyH.cons (o := otl18_3) rfl (fun K hK => ?_) AllReadyH.nil
              delta otl18_3
              go_simp
              (refine (lspan_any x x _).mono ?_; rintro e W2 ⟨rfl, hb⟩); have hbz : Below W1.heap.size W1 W2 := (by first | exact hb | exact Below.trans (Below.drew (Below.refl _ _)) hb); clear hb; have HB2 := Lib.hid (HB1.out.trans (hbz.mono HB1.out.size)); have Hb28_2 := Lib.hid (Hb28_1.out.below hbz Hb28_1.out.lt); clear hbz
              refine hK.out _ _ ?_ (fun hHeld => ?_)
              · (try dsimp only); (exact HSV.out _ (HBV.out.trans (HB2.out.mono HBV.out.size)))
              clear hK K
              try simp only [otl18_3, Act.put, List.setIfInBounds_toArray, List.set_cons_zero, List.set_cons_succ]
              refine wpAnyH_ready (rs := [4]) (by kernel_rfl) (by simp) ?_
              refine AllReadyH.cons (o := otl18_4) rfl (fun K hK => ?_) AllReadyH.nil
              delta otl18_4
              go_simp
              (refine (lev_ok _ ⟨M, ps⟩ x x _ ⟨_, rfl, HPA.out.later (HBA.out.trans ((HBV.out.trans (HB2.out.mono HBV.out.size)).mono HBA.out.size)) (Nat.le_refl _)⟩ H0.out ⟨by omega, by omega, by omega⟩).mono ?_; rintro e W3 ⟨rfl, hb⟩; rw [HX.out]); have hbz : Below W2.heap.size W2 W3 := (by first | exact hb | exact Below.trans (Below.drew (Below.refl _ _)) hb); clear hb; have HB3 := Lib.hid (HB2.out.trans (hbz.mono HB2.out.size)); have Hb28_3 := Lib.hid (Hb28_2.out.below hbz Hb28_2.out.lt); clear hbz
              refine hK.out _ _ ?_ (fun hHeld => ?_)
              · (try dsimp only); (exact HSV.out _ (HBV.out.trans (HB3.out.mono HBV.out.size)))
              clear hK K
              try simp only [otl18_4, Act.put, List.setIfInBounds_toArray, List.set_cons_zero, List.set_cons_succ]
              refine wpAnyH_take (i := 5) (oi := otl18_5) (v := ?_) rfl (by kernel_rfl) (by kernel_rfl) (by kernel_rfl) (fun _ _ _ h => h) (Or.inl ⟨by rfl, ?_⟩) (by assumption) ?_
              rotate_left
              · ((intro w hSw; delta otl18_5; (try dsimp only at hSw); go_simp) <;> with_reducible rfl)
              try simp only [otl18_5, Act.put, List.setIfInBounds_toArray, List.set_cons_zero, List.set_cons_succ]
              refine wpAnyH_take (i := 6) (oi := otl18_6) (v := ?_) rfl (by kernel_rfl) (by kernel_rfl) (by kernel_rfl) (fun _ _ _ h => h) (Or.inl ⟨by rfl, ?_⟩) (by assumption) ?_
              rotate_left
              · ((intro w hSw; delta otl18_6; (try dsimp only at hSw); go_simp) <;> with_reducible rfl)
              try simp only [otl18_6, Act.put, List.setIfInBounds_toArray, List.set_cons_zero, List.set_cons_succ]
              refine wpAnyH_take (i := 7) (oi := otl18_7) (v := ?_) rfl (by kernel_rfl) (by kernel_rfl) (by kernel_rfl) (fun _ _ _ h => h) (Or.inl ⟨by rfl, ?_⟩) (by assumption) ?_
              rotate_left
              · ((intro w hSw; delta otl18_7; (try dsimp only at hSw); go_simp) <;> with_reducible rfl)
              try simp only [otl18_7, Act.put, List.setIfInBounds_toArray, List.set_cons_zero, List.set_cons_succ]
             case' gr4 =>
              exact AllReadyH.nil
            all_goals
             as_aux_lemma =>
              have u0 := Hb28_3.out.cell 0; have u1 := Hb28_3.out.cell 1; have v0 := Hb28_3.out.frozen 0; have v1 := Hb28_3.out.frozen 1; simp only [List.getElem?_toArray, List.getElem?_cons_zero, List.getElem?_cons_succ] at u0 u1
              refine wpAnyH_ready (rs := [9]) (by kernel_rfl) (by simp) ?_
              refine AllReadyH.cons (o := otl18_9) rfl (fun K hK => ?_) AllReadyH.nil
              delta otl18_9
              go_simp
              refine hK.out _ _ ?_ (fun hHeld => ?_)
              · (try dsimp only); (refine HSV.out _ (HBV.out.trans (Below.mono ?_ HBV.out.size)); (repeat (first | exact HB3.out | refine Below.setCell ?_ (by exact gb28) _)); done)
              clear hK K
              try simp only [otl18_9, Act.put, List.setIfInBounds_toArray, List.set_cons_zero, List.set_cons_succ]
              refine wpAnyH_take (i := 10) (oi := otl18_10) (v := ?_) rfl (by kernel_rfl) (by kernel_rfl) (by kernel_rfl) (fun _ _ _ h => h) (Or.inl ⟨by rfl, ?_⟩) (by assumption) ?_
              rotate_left
              · ((intro w hSw; delta otl18_10; (try dsimp only at hSw); go_simp) <;> with_reducible rfl)
              try simp only [otl18_10, Act.put, List.setIfInBounds_toArray, List.set_cons_zero, List.set_cons_succ]
              refine wpAnyH_done (by kernel_rfl) ?_ _
              refine NoPanic.normal ?_
              go_wp2_with fail
              go_meet
              exact ⟨rfl, oneB_set Hb28_3.out gb28 HB3.out HBV.out⟩
          case rest =>
            obtain ⟨rfl, b28, rfl, hnew, hgn, hb⟩ := hcut
            obtain ⟨Va8, rfl⟩ : ∃ V, V = wc := ⟨_, rfl⟩
            have HZ := Lib.hid hb
            have nb17b28 : ¬ b17 = b28 := by have := Hb17.out.lt; omega
            have nb28b17 : ¬ b28 = b17 := fun e => nb17b28 e.symm
            have nb18b28 : ¬ b18 = b28 := by have := Hb18.out.lt; omega
            have nb28b18 : ¬ b28 = b18 := fun e => nb18b28 e.symm
            have nb26b28 : ¬ b26 = b28 := by have := Hb26.out.lt; omega
            have nb28b26 : ¬ b28 = b26 := fun e => nb26b28 e.symm
            have gb28 : w.heap.size ≤ b28 := Nat.le_trans HBP.out.size hgn
            clear hb hgn HSV k0
            have Gb17 := Lib.hid (Hb17.out.below HZ.out Hb17.out.lt)
            have Gb18 := Lib.hid (Hb18.out.below HZ.out Hb18.out.lt)
            have Gb26 := Lib.hid (Hb26.out.below HZ.out Hb26.out.lt)
            have GHBP := Lib.hid (HBP.out.trans (HZ.out.mono HBP.out.size))
            have GHBA := Lib.hid (HBA.out.trans (HZ.out.mono HBA.out.size))
            have GHBL1 := Lib.hid (HBL1.out.trans (HZ.out.mono HBL1.out.size))
            have GHSA := Lib.hid (SpansAt.later HSA.out HZ.out (Nat.le_refl _))
            have GHSB := Lib.hid (SpansAt.later HSB.out HZ.out (Nat.le_refl _))
            clear Hb17 Hb18 Hb26 HBP HBA HBL1 HSA HSB HZ
            have Hb17 := Gb17
            have Hb18 := Gb18
            have Hb26 := Gb26
            have HBP := GHBP
            have HBA := GHBA
            have HBL1 := GHBL1
            have HSA := GHSA
            have HSB := GHSB
            clear Gb17 Gb18 Gb26 GHBP GHBA GHBL1 GHSA GHSB
            have Hb28 := Lib.hid hnew
            clear hnew
            go_wp2_with fail
            go_loopw [30, 160] (fun r j wr => ∃ k2 : Nat, k2 ≤ Lb.length ∧ r = .bool (hasIn (w1, w2) Lb k2) ∧ j = .int .i64 k2 ∧ Hid (Below Va8.heap.size Va8 wr)) (fun _ j _ => Lb.length - (intOf j).toNat)
            case atStart => exact ⟨0, by omega, rfl, rfl, Below.refl _ _⟩
            case round =>
              obtain ⟨k2, hk2, rfl, rfl, HZ⟩ := hrel
              obtain ⟨Vr2, rfl⟩ : ∃ V, V = wr := ⟨_, rfl⟩
              have HBL2 := HZ
              have Gb17 := Lib.hid (Hb17.out.below HZ.out Hb17.out.lt)
              have Gb18 := Lib.hid (Hb18.out.below HZ.out Hb18.out.lt)
              have Gb26 := Lib.hid (Hb26.out.below HZ.out Hb26.out.lt)
              have Gb28 := Lib.hid (Hb28.out.below HZ.out Hb28.out.lt)
              have GHBP := Lib.hid (HBP.out.trans (HZ.out.mono HBP.out.size))
              have GHBA := Lib.hid (HBA.out.trans (HZ.out.mono HBA.out.size))
              have GHBL1 := Lib.hid (HBL1.out.trans (HZ.out.mono HBL1.out.size))
              have GHSA := Lib.hid (SpansAt.later HSA.out HZ.out (Nat.le_refl _))
              have GHSB := Lib.hid (SpansAt.later HSB.out HZ.out (Nat.le_refl _))
              clear Hb17 Hb18 Hb26 Hb28 HBP HBA HBL1 HSA HSB HZ
              have Hb17 := Gb17
              have Hb18 := Gb18
              have Hb26 := Gb26
              have Hb28 := Gb28
              have HBP := GHBP
              have HBA := GHBA
              have HBL1 := GHBL1
              have HSA := GHSA
              have HSB := GHSB
              clear Gb17 Gb18 Gb26 Gb28 GHBP GHBA GHBL1 GHSA GHSB
              by_cases hlt2 : k2 < Lb.length
              rotate_left
              · obtain rfl : k2 = Lb.length := by omega
                rw [HQ4.out]
                have cb280 : Vr2.cell? ⟨b28, 0, none⟩ = some (.int .i64 (X1)) := Hb28.out.cell 0
                have cb281 : Vr2.cell? ⟨b28, 1, none⟩ = some (.int .i64 (X2)) := Hb28.out.cell 1
                go_wp2
                go_roundw
                case rel => exact ⟨k + 1, by omega, by go_num, HBL1⟩
                case measure => simp [intOf]; omega
              · have hk3 : (k2 : Int) < (Lb.length : Int) := by omega
                have hk4 : (0 : Int) ≤ (k2 : Int) := by omega
                have hsb := HSB.out
                obtain ⟨fb, fo, rfl, hfb, f0, f1⟩ := hsb.at_ hlt2
                have q6 := hasIn_succ (w1, w2) hlt2
                clear hsb hfb
                generalize Lb[k2] = yz at *
                obtain ⟨y1, y2⟩ := yz
                simp only at f0 f1 q6
                obtain ⟨r, hr⟩ : ∃ z, hasIn (w1, w2) Lb k2 = z := ⟨_, rfl⟩
                rw [hr] at q6 ⊢
                have HS := Lib.hid q6
                clear q6 hr
                go_upto_region 23 with (fail)
                obtain ⟨Va9, hV⟩ : ∃ V, Vr2.alloc (.cells #[.int .i64 y1, .int .i64 y2] 23) = V := ⟨_, rfl⟩
                have hz : Below Vr2.heap.size Vr2 Va9 := by rw [← hV]; exact (Below.refl _ _).alloc (Nat.le_refl _) _
                have hnew : Blk Va9 Vr2.heap.size 23 #[.int .i64 y1, .int .i64 y2] := by rw [← hV]; exact Blk.new' _ _ _ rfl
                have hgn := HBP.out.size
                have hga := HBA.out.size
                have lb17 := Hb17.out.lt
                have lb18 := Hb18.out.lt
                have lb26 := Hb26.out.lt
                have lb28 := Hb28.out.lt
                rw [hV]
                obtain ⟨b32, hbx⟩ : ∃ b, Vr2.heap.size = b := ⟨_, rfl⟩
                rw [hbx] at hnew hgn hga lb17 lb18 lb26 lb28 ⊢
                have gb32 := hgn
                have HZ := Lib.hid hz
                have gab32 := hga
                clear hga
                have nb17b32 : ¬ b17 = b32 := by omega
                have nb32b17 : ¬ b32 = b17 := by omega
                have nb18b32 : ¬ b18 = b32 := by omega
                have nb32b18 : ¬ b32 = b18 := by omega
                have nb26b32 : ¬ b26 = b32 := by omega
                have nb32b26 : ¬ b32 = b26 := by omega
                have nb28b32 : ¬ b28 = b32 := by omega
                have nb32b28 : ¬ b32 = b28 := by omega
                clear hV hz hgn hbx lb17 lb18 lb26 lb28
                have Gb17 := Lib.hid (Hb17.out.below HZ.out Hb17.out.lt)
                have Gb18 := Lib.hid (Hb18.out.below HZ.out Hb18.out.lt)
                have Gb26 := Lib.hid (Hb26.out.below HZ.out Hb26.out.lt)
                have Gb28 := Lib.hid (Hb28.out.below HZ.out Hb28.out.lt)
                have GHBP := Lib.hid (HBP.out.trans (HZ.out.mono HBP.out.size))
                have GHBA := Lib.hid (HBA.out.trans (HZ.out.mono HBA.out.size))
                have GHBL1 := Lib.hid (HBL1.out.trans (HZ.out.mono HBL1.out.size))
                have GHBL2 := Lib.hid (HBL2.out.trans (HZ.out.mono HBL2.out.size))
                have GHSA := Lib.hid (SpansAt.later HSA.out HZ.out (Nat.le_refl _))
                have GHSB := Lib.hid (SpansAt.later HSB.out HZ.out (Nat.le_refl _))
                clear Hb17 Hb18 Hb26 Hb28 HBP HBA HBL1 HBL2 HSA HSB HZ
                have Hb17 := Gb17
                have Hb18 := Gb18
                have Hb26 := Gb26
                have Hb28 := Gb28
                have HBP := GHBP
                have HBA := GHBA
                have HBL1 := GHBL1
                have HBL2 := GHBL2
                have HSA := GHSA
                have HSB := GHSB
                clear Gb17 Gb18 Gb26 Gb28 GHBP GHBA GHBL1 GHBL2 GHSA GHSB
                have Hb32 := Lib.hid hnew
                clear hnew
                have cb260 : Va9.cell? ⟨b26, 0, none⟩ = some (.int .i64 w1) := Hb26.out.cell 0
                have cb261 : Va9.cell? ⟨b26, 1, none⟩ = some (.int .i64 w2) := Hb26.out.cell 1
                have cb320 : Va9.cell? ⟨b32, 0, none⟩ = some (.int .i64 y1) := Hb32.out.cell 0
                have cb321 : Va9.cell? ⟨b32, 1, none⟩ = some (.int .i64 y2) := Hb32.out.cell 1
                clear f0 f1
                cases r with
                | true =>
                  go_wp2
                  go_roundw
                  case rel => exact ⟨k2 + 1, by omega, by rw [HS.out]; rfl, by go_num, HBL2⟩
                  case measure => simp [intOf]; omega
                | false =>
                  go_wp2_with fail
                  refine (lwithin2_any w1 w2 y1 y2 _).mono ?_
                  rintro e Vw ⟨rfl, hb⟩
                  have HBM : Hid (Below _ _ Vw) := HBL2.out.trans (hb.mono HBL2.out.size)
                  go_wp2
                  go_roundw
                  case rel => exact ⟨k2 + 1, by omega, by rw [HS.out, Bool.false_or]; simp [q1.2.1], by go_num, HBM⟩
                  case measure => simp [intOf]; omega
end Go.Proofs.Ytfblpokjbopagaa
/-
  TideLow is a row of the program.
-/
namespace Go.Proofs.Ytfblpokjbopagaa.TideLow
open Go.ChangeShapes Go.WideShapes Go.ChangeAt Go.WideMaps Go.WideElems Go.RowKit

set_option maxRecDepth 100000 in
theorem lifted (os : Os) (started : os.Started) (H : Type) (enc : TypeId × Value → H) :
    ReturnsInHanded {} Try.checked os 9 .any (Rows.tideLowSpec.pre6 enc Try.prog Try.f9 Rows.tideLowRow.domain false) (Rows.tideLowSpec.post enc Try.prog Try.f9 false true false false) := by
  refine returnsInHanded_of_change (C := Try.checked) own_ started (by kernel_rfl) Try.func9
    (ChangeSpec.witness6 (enc := enc) (C := Try.checked) false ⟨#[], #[.int .i16 0, .slice none 0 0, .int .u32 0, .int .u32 0, .int .u8 0, .int .i16 0, .int .u8 0, .int .u32 0], []⟩ 8 (by kernel_rfl) (by kernel_rfl) (by kernel_rfl) (by kernel_rfl)) ?_
  intro W base args ds gs before hval0 hW hcnd _
  have hval : ∀ (j : Nat) t v, Try.f9.params[j]? = some t → args[j]? = some v → Value.okWide Try.prog W .any base t v := hval0
  have hW' := hW
  obtain ⟨p, q, hA0, hV, rfl, hfz, hnd⟩ := hW
  have hA : DataW.TrodAll enc Try.prog W 0 (fun _ => true) true Try.f9.params.toList args.toList ds p := hA0
  rw [Try.params9] at hA hval
  obtain ⟨v0, vs0, d0, ds0, p0, q0, hargs, rfl, rfl, h0, r0⟩ := trodAll_cons hA
  obtain ⟨v1, vs1, d1, ds1, p1, q1, rfl, rfl, rfl, h1, r1⟩ := trodAll_cons r0
  obtain ⟨v2, vs2, d2, ds2, p2, q2, rfl, rfl, rfl, h2, r2⟩ := trodAll_cons r1
  obtain ⟨v3, vs3, d3, ds3, p3, q3, rfl, rfl, rfl, h3, r3⟩ := trodAll_cons r2
  obtain ⟨v4, vs4, d4, ds4, p4, q4, rfl, rfl, rfl, h4, r4⟩ := trodAll_cons r3
  obtain ⟨v5, vs5, d5, ds5, p5, q5, rfl, rfl, rfl, h5, r5⟩ := trodAll_cons r4
  obtain ⟨v6, vs6, d6, ds6, p6, q6, rfl, rfl, rfl, h6, r6⟩ := trodAll_cons r5
  obtain ⟨v7, vs7, d7, ds7, p7, q7, rfl, rfl, rfl, h7, r7⟩ := trodAll_cons r6
  obtain ⟨rfl, rfl, rfl⟩ := trodAll_nil r7
  obtain rfl : args = #[v0, v1, v2, v3, v4, v5, v6, v7] := by cases args; simp_all
  obtain ⟨rfl, rfl⟩ := trodVars_none hV
  obtain ⟨a0, rfl, _, _, w0⟩ := open_int Try.underlying65 (hval 0 65 v0 rfl rfl) h0
  have w0 := wf_i16 w0
  obtain ⟨l1, hl1, hr1⟩ := trips_open (hval 1 66 v1 rfl rfl) h1
  obtain ⟨a2, rfl, _, _, w2⟩ := open_int Try.underlying67 (hval 2 67 v2 rfl rfl) h2
  have w2 := wf_u32 w2
  obtain ⟨a3, rfl, _, _, w3⟩ := open_int Try.underlying67 (hval 3 67 v3 rfl rfl) h3
  have w3 := wf_u32 w3
  obtain ⟨a4, rfl, _, _, w4⟩ := open_int Try.underlying5 (hval 4 5 v4 rfl rfl) h4
  have w4 := wf_u8 w4
  obtain ⟨a5, rfl, _, _, w5⟩ := open_int Try.underlying65 (hval 5 65 v5 rfl rfl) h5
  have w5 := wf_i16 w5
  obtain ⟨a6, rfl, _, _, w6⟩ := open_int Try.underlying5 (hval 6 5 v6 rfl rfl) h6
  have w6 := wf_u8 w6
  obtain ⟨a7, rfl, _, _, w7⟩ := open_int Try.underlying67 (hval 7 67 v7 rfl rfl) h7
  have w7 := wf_u32 w7
  clear hA0 hval0
  simp only [List.append_nil] at hW'
  have hlt : ∀ x ∈ p0 ++ p1 ++ p2 ++ p3 ++ p4 ++ p5 ++ p6 ++ p7, x.block < W.heap.size := fun x hx => by simpa using hW'.lt x (by simpa using hx)
  have k0 : ∀ x ∈ p0, x.block < W.heap.size := fun x hx => hlt x (by simp [hx])
  have k1 : ∀ x ∈ p1, x.block < W.heap.size := fun x hx => hlt x (by simp [hx])
  have k2 : ∀ x ∈ p2, x.block < W.heap.size := fun x hx => hlt x (by simp [hx])
  have k3 : ∀ x ∈ p3, x.block < W.heap.size := fun x hx => hlt x (by simp [hx])
  have k4 : ∀ x ∈ p4, x.block < W.heap.size := fun x hx => hlt x (by simp [hx])
  have k5 : ∀ x ∈ p5, x.block < W.heap.size := fun x hx => hlt x (by simp [hx])
  have k6 : ∀ x ∈ p6, x.block < W.heap.size := fun x hx => hlt x (by simp [hx])
  have k7 : ∀ x ∈ p7, x.block < W.heap.size := fun x hx => hlt x (by simp [hx])
  refine (TideLow_any a0 a2 a3 a4 a5 a6 a7 v1 l1 W hl1 hr1 w0 w2 w3 w4 w5 w6 w7).mono ?_
  rintro e W' ⟨rfl, bel⟩
  refine ⟨_, rfl, _, _, _, [], (p0 ++ (p1 ++ (p2 ++ (p3 ++ (p4 ++ (p5 ++ (p6 ++ (p7 ++ [])))))))), [], hW', ?_, ?_, ?_, bel.frame _, fun h => by cases h⟩
  · exact trodAll_mk1 (shut_bool Try.underlying4 true)
  · exact (trodAll_cons_mk (Below.trod laid_out (by kernel_rfl) (of_decide_eq_true (by kernel_rfl)) h0 bel k0) (trodAll_cons_mk (Below.trod laid_out (by kernel_rfl) (of_decide_eq_true (by kernel_rfl)) h1 bel k1) (trodAll_cons_mk (Below.trod laid_out (by kernel_rfl) (of_decide_eq_true (by kernel_rfl)) h2 bel k2) (trodAll_cons_mk (Below.trod laid_out (by kernel_rfl) (of_decide_eq_true (by kernel_rfl)) h3 bel k3) (trodAll_cons_mk (Below.trod laid_out (by kernel_rfl) (of_decide_eq_true (by kernel_rfl)) h4 bel k4) (trodAll_cons_mk (Below.trod laid_out (by kernel_rfl) (of_decide_eq_true (by kernel_rfl)) h5 bel k5) (trodAll_cons_mk (Below.trod laid_out (by kernel_rfl) (of_decide_eq_true (by kernel_rfl)) h6 bel k6) (trodAll_cons_mk (Below.trod laid_out (by kernel_rfl) (of_decide_eq_true (by kernel_rfl)) h7 bel k7) trodAll_mk0))))))))
  · rfl
set_option maxRecDepth 100000 in
theorem over : Rows.tideLowRow.holds Try.pinned (OpenSpec.ofChange Rows.tideLowSpec) :=
  OpenClaim.holds_of_wide 9 Try.f9 rfl rfl rfl rfl rfl rfl rfl ⟨rfl, rfl, rfl, rfl, rfl⟩ rfl rfl rfl rfl rfl (by kernel_rfl) Try.func9 (by kernel_rfl)
    (of_decide_eq_true (by kernel_rfl)) (by unfold Func.isWrapper; first | (rw [if_pos (by decide +kernel)]; kernel_rfl) | (rw [if_neg (by decide +kernel)]; exact ⟨rfl, rfl⟩))
    (fun os started H enc _ => lifted os started H enc)
end Go.Proofs.Ytfblpokjbopagaa.TideLow
namespace Go.Proofs.Ytfblpokjbopagaa
theorem TideLow_row : Rows.TideLowSaid := TideLow.over
#print axioms TideLow_row
end Go.Proofs.Ytfblpokjbopagaa
