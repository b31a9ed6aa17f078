/-
  TideInside returns true.
-/
import Derived.Test.YtfblpokjbopagaaMS
import Derived.Test.YtfblpokjbopagaaMT
set_option linter.unusedSimpArgs false
set_option linter.unusedVariables false
namespace Go.Proofs.Ytfblpokjbopagaa
open Go.RowKit

def oti9_0 : Oper := { dst := some 79, op := Op.load 35 (Operand.tmp 15), type := 35, pos := "outright.go:104", after := #[], guard := none }
def oti9_1 : Oper := { dst := some 80, op := Op.move (Operand.tmp 17), type := 3, pos := "outright.go:104", after := #[], guard := none }
def oti9_2 : Oper := { dst := some 81, op := Op.move (Operand.tmp 18), type := 3, pos := "outright.go:104", after := #[], guard := none }
def oti9_3 : Oper := { dst := some 82, op := Op.call { callee := Callee.value (Operand.func 30), args := #[Operand.tmp 80, Operand.tmp 81], argTypes := #[3, 3] }, type := 23, pos := "outright.go:104", after := #[{ on := 1, ground := Ground.data }, { on := 2, ground := Ground.data }], guard := none }
def oti9_4 : Oper := { dst := some 83, op := Op.call { callee := Callee.value (Operand.func 17), args := #[Operand.tmp 79, Operand.tmp 82], argTypes := #[35, 23] }, type := 25, pos := "outright.go:104", after := #[{ on := 0, ground := Ground.data }, { on := 3, ground := Ground.data }, { on := 3, ground := Ground.chain }], guard := none }
def oti9_5 : Oper := { dst := some 78, op := Op.move (Operand.tmp 83), type := 25, pos := "outright.go:104", after := #[{ on := 4, ground := Ground.data }], guard := none }
def oti9_6 : Oper := { dst := some 84, op := Op.extract (Operand.tmp 78) 0, type := 23, pos := "outright.go:104", after := #[{ on := 5, ground := Ground.data }], guard := none }
def oti9_7 : Oper := { dst := some 85, op := Op.extract (Operand.tmp 78) 1, type := 24, pos := "outright.go:104", after := #[{ on := 5, ground := Ground.data }, { on := 9, ground := Ground.gcOnly Departure.lateStores }], guard := none }
def oti9_8 : Oper := { dst := some 21, op := Op.alloc 23, type := 0, pos := "outright.go:104", after := #[], guard := none }
def oti9_9 : Oper := { dst := none, op := Op.store 23 (Operand.tmp 21) (Operand.tmp 84), type := 0, pos := "outright.go:104", after := #[{ on := 8, ground := Ground.data }, { on := 6, ground := Ground.data }, { on := 4, ground := Ground.chain }, { on := 0, ground := Ground.phase }, { on := 1, ground := Ground.phase }, { on := 2, ground := Ground.phase }, { on := 3, ground := Ground.phase }, { on := 4, ground := Ground.phase }, { on := 5, ground := Ground.phase }, { on := 6, ground := Ground.phase }, { on := 7, ground := Ground.textOnly Departure.lateStores }, { on := 8, ground := Ground.phase }], guard := none }
def oti9_10 : Oper := { dst := some 22, op := Op.assign (Operand.tmp 85), type := 24, pos := "outright.go:104", after := #[{ on := 7, ground := Ground.data }, { on := 9, ground := Ground.chain }, { on := 0, ground := Ground.phase }, { on := 1, ground := Ground.phase }, { on := 2, ground := Ground.phase }, { on := 3, ground := Ground.phase }, { on := 4, ground := Ground.phase }, { on := 5, ground := Ground.phase }, { on := 6, ground := Ground.phase }, { on := 7, ground := Ground.phase }, { on := 8, ground := Ground.phase }, { on := 9, ground := Ground.phase }], guard := none }
def oti10_0 : Oper := { dst := some 87, op := Op.load 35 (Operand.tmp 15), type := 35, pos := "outright.go:105", after := #[], guard := none }
def oti10_1 : Oper := { dst := some 88, op := Op.move (Operand.tmp 17), type := 3, pos := "outright.go:105", after := #[], guard := none }
def oti10_2 : Oper := { dst := some 89, op := Op.move (Operand.tmp 17), type := 3, pos := "outright.go:105", after := #[], guard := none }
def oti10_3 : Oper := { dst := some 90, op := Op.call { callee := Callee.value (Operand.func 30), args := #[Operand.tmp 88, Operand.tmp 89], argTypes := #[3, 3] }, type := 23, pos := "outright.go:105", after := #[{ on := 1, ground := Ground.data }, { on := 2, ground := Ground.data }], guard := none }
def oti10_4 : Oper := { dst := some 91, op := Op.call { callee := Callee.value (Operand.func 17), args := #[Operand.tmp 87, Operand.tmp 90], argTypes := #[35, 23] }, type := 25, pos := "outright.go:105", after := #[{ on := 0, ground := Ground.data }, { on := 3, ground := Ground.data }, { on := 3, ground := Ground.chain }], guard := none }
def oti10_5 : Oper := { dst := some 86, op := Op.move (Operand.tmp 91), type := 25, pos := "outright.go:105", after := #[{ on := 4, ground := Ground.data }], guard := none }
def oti10_6 : Oper := { dst := some 92, op := Op.extract (Operand.tmp 86) 0, type := 23, pos := "outright.go:105", after := #[{ on := 5, ground := Ground.data }], guard := none }
def oti10_7 : Oper := { dst := some 93, op := Op.extract (Operand.tmp 86) 1, type := 24, pos := "outright.go:105", after := #[{ on := 5, ground := Ground.data }, { on := 9, ground := Ground.gcOnly Departure.lateStores }], guard := none }
def oti10_8 : Oper := { dst := some 23, op := Op.alloc 23, type := 0, pos := "outright.go:105", after := #[], guard := none }
def oti10_9 : Oper := { dst := none, op := Op.store 23 (Operand.tmp 23) (Operand.tmp 92), type := 0, pos := "outright.go:105", after := #[{ on := 8, ground := Ground.data }, { on := 6, ground := Ground.data }, { on := 4, ground := Ground.chain }, { on := 0, ground := Ground.phase }, { on := 1, ground := Ground.phase }, { on := 2, ground := Ground.phase }, { on := 3, ground := Ground.phase }, { on := 4, ground := Ground.phase }, { on := 5, ground := Ground.phase }, { on := 6, ground := Ground.phase }, { on := 7, ground := Ground.textOnly Departure.lateStores }, { on := 8, ground := Ground.phase }], guard := none }
def oti10_10 : Oper := { dst := some 24, op := Op.assign (Operand.tmp 93), type := 24, pos := "outright.go:105", after := #[{ on := 7, ground := Ground.data }, { on := 9, ground := Ground.chain }, { on := 0, ground := Ground.phase }, { on := 1, ground := Ground.phase }, { on := 2, ground := Ground.phase }, { on := 3, ground := Ground.phase }, { on := 4, ground := Ground.phase }, { on := 5, ground := Ground.phase }, { on := 6, ground := Ground.phase }, { on := 7, ground := Ground.phase }, { on := 8, ground := Ground.phase }, { on := 9, ground := Ground.phase }], guard := none }

set_option maxRecDepth 100000 in
set_option maxHeartbeats 8000000 in
theorem TideInside_any (mean from_ long ia ib st : Int) (v : Value) (l : List Prt) (w : World) (hv : TripsAt w w.heap.size v l) (hr : ∀ p, p ∈ l → u32Ok p) (hmean : -32768 ≤ mean ∧ mean ≤ 32767)
    (hfrom : 0 ≤ from_ ∧ from_ ≤ 4294967295) (hlong : 0 ≤ long ∧ long ≤ 4294967295) (hia : 0 ≤ ia ∧ ia ≤ 4294967295) (hib : 0 ≤ ib ∧ ib ≤ 4294967295) (hst : 0 ≤ st ∧ st ≤ 4294967295) :
    Calls Try.prog 8 #[.int .i16 mean, v, .int .u32 from_, .int .u32 long, .int .u32 ia, .int .u32 ib, .int .u32 st] w fun e w' => e = .returned (.bool true) ∧ Below w.heap.size w w' := by
  obtain ⟨A0, c0, rfl, hc0, -⟩ := hv.open_
  have HV := Lib.hid hv
  have HR := Lib.hid hr
  clear hv hr
  by_cases h8 : l.length ≤ 8
  rotate_left
  · have h8' : (8 : Int) < (l.length : Int) := by omega
    go_enter Try.func8, Try.ntmps8
    go_wp2_with fail
    refine (works2_any _).mono ?_
    rintro e w1 ⟨rfl, hb⟩
    go_wp2
    go_ret
    exact ⟨rfl, hb⟩
  have h8' : (l.length : Int) ≤ 8 := by omega
  have h0 := made_ok (mean := mean) (l := l) (by omega)
  have hMd : madeZ mean l = ⟨mean.tmod 5000, l.map prtOf⟩ := rfl
  obtain ⟨M, hM⟩ : ∃ z, mean.tmod 5000 = z := ⟨_, rfl⟩
  obtain ⟨ps, hps⟩ : ∃ z, l.map prtOf = z := ⟨_, rfl⟩
  have hpl : ps.length = l.length := by rw [← hps, List.length_map]
  rw [hM, hps] at hMd
  rw [hMd] at h0
  obtain ⟨-, -, hall⟩ := mdE_zero h0
  simp only at hall
  have HM := Lib.hid hM
  have HPS := Lib.hid hps
  have H0 := Lib.hid h0
  have HALL := Lib.hid hall
  clear hMd hM hps h0 hall
  -- the times
  have f1 := Int.tmod_lt_of_pos from_ (show (0 : Int) < 900000000 by omega)
  have f2 := Int.tmod_nonneg 900000000 hfrom.1
  have f3 := Int.tmod_lt_of_pos long (show (0 : Int) < 100000000 by omega)
  have f4 := Int.tmod_nonneg 100000000 hlong.1
  obtain ⟨lo, hlo⟩ : ∃ z, from_.tmod 900000000 = z := ⟨_, rfl⟩
  obtain ⟨ln, hln⟩ : ∃ z, long.tmod 100000000 = z := ⟨_, rfl⟩
  rw [hlo] at f1 f2
  rw [hln] at f3 f4
  obtain ⟨hi, hhi⟩ : ∃ z, lo + ln = z := ⟨_, rfl⟩
  have t1 : 0 ≤ lo := f2
  have t2 : lo ≤ hi := by omega
  have t3 : hi ≤ 1000000000 := by omega
  have a1 := Int.tmod_lt_of_pos ia (show (0 : Int) < hi - lo + 1 by omega)
  have a2 := Int.tmod_nonneg (hi - lo + 1) hia.1
  obtain ⟨ra, hra⟩ : ∃ z, ia.tmod (hi - lo + 1) = z := ⟨_, rfl⟩
  rw [hra] at a1 a2
  obtain ⟨i, hie⟩ : ∃ z, lo + ra = z := ⟨_, rfl⟩
  have i1 : lo ≤ i := by omega
  have i2 : i ≤ hi := by omega
  have b1 := Int.tmod_lt_of_pos ib (show (0 : Int) < hi - i + 1 by omega)
  have b2 := Int.tmod_nonneg (hi - i + 1) hib.1
  obtain ⟨rb, hrb⟩ : ∃ z, ib.tmod (hi - i + 1) = z := ⟨_, rfl⟩
  rw [hrb] at b1 b2
  obtain ⟨j, hje⟩ : ∃ z, i + rb = z := ⟨_, rfl⟩
  have j1 : i ≤ j := by omega
  have j2 : j ≤ hi := by omega
  -- the levels
  have e1 := level_range (m := ⟨M, ps⟩) HALL.out (t := (lo, hi)) t2
  have e2 := level_mono (m := ⟨M, ps⟩) HALL.out (t := (i, j)) (u := (lo, hi)) j1 i1 j2
  have e3 := level_mono (m := ⟨M, ps⟩) HALL.out (t := (i, i)) (u := (i, j)) (Int.le_refl _) (Int.le_refl _) j1
  have e4 := (level_range (m := ⟨M, ps⟩) HALL.out (t := (i, j)) j1).2.1
  have e5 := (level_range (m := ⟨M, ps⟩) HALL.out (t := (i, i)) (Int.le_refl _)).2.1
  have eb := lev_bd H0.out (t := (i, i)) (Int.le_refl _)
  have e6 := level_near (m := ⟨M, ps⟩) HALL.out i
  obtain ⟨D, hDe⟩ : ∃ d, hi - lo = d := ⟨_, rfl⟩
  have dq1 := Int.ediv_mul_le D (show (200 : Int) ≠ 0 by omega)
  have dq2 := Int.lt_ediv_add_one_mul_self D (show (0 : Int) < 200 by omega)
  have dq3 : D.tdiv 200 = D / 200 := Int.tdiv_eq_ediv_of_nonneg (by omega)
  have dq4 : 0 ≤ D / 200 := Int.ediv_nonneg (by omega) (by omega)
  obtain ⟨dv, hdv⟩ : ∃ z, D / 200 = z := ⟨_, rfl⟩
  rw [hdv] at dq1 dq2 dq3 dq4
  obtain ⟨d, hd⟩ : ∃ z, (if 1 + st < dv + 1 then dv + 1 else 1 + st) = z := ⟨_, rfl⟩
  have d1 : dv + 1 ≤ d ∧ d ≤ 5000000000 := by rw [← hd]; split <;> omega
  have e7 : nPc (lo, hi) d ≤ 10000 := Nat.le_trans (nPc_le (n := 200) hDe (by omega) (by omega) (by
    have := Int.mul_le_mul_of_nonneg_left d1.1 (show (0 : Int) ≤ 200 by omega)
    omega)) (by omega)
  have e8 := peak_hi (m := ⟨M, ps⟩) (t := (lo, hi)) (s := d) HALL.out (by omega) t2
  have e9 := peak_ord (m := ⟨M, ps⟩) (t := (lo, hi)) (s := d) HALL.out (by omega) t2
  have e10 := peak_lo (m := ⟨M, ps⟩) (t := (lo, hi)) (s := d) HALL.out (by omega) t2
  have e11 := peak_part (m := ⟨M, ps⟩) (t := (lo, hi)) (s := d) HALL.out (by omega) t2 (i := i) (j := i) i1 (Int.le_refl _) i2
  have e12 := peak_part (m := ⟨M, ps⟩) (t := (lo, hi)) (s := d) HALL.out (by omega) t2 (i := i) (j := j) i1 j1 j2
  obtain ⟨⟨L1, L2⟩, hL⟩ : ∃ z, levelZ ⟨M, ps⟩ (lo, hi) = z := ⟨_, rfl⟩
  obtain ⟨⟨P1, P2⟩, hP⟩ : ∃ z, levelZ ⟨M, ps⟩ (i, j) = z := ⟨_, rfl⟩
  obtain ⟨⟨O1, O2⟩, hO⟩ : ∃ z, levelZ ⟨M, ps⟩ (i, i) = z := ⟨_, rfl⟩
  obtain ⟨⟨R1, R2⟩, hRg⟩ : ∃ z, rangeZ ⟨M, ps⟩ = z := ⟨_, rfl⟩
  obtain ⟨⟨K1, K2⟩, hK⟩ : ∃ z, peakZ ⟨M, ps⟩ (lo, hi) d = z := ⟨_, rfl⟩
  rw [hL, hRg] at e1
  rw [hL, hP] at e2
  rw [hO, hP] at e3
  rw [hP] at e4
  rw [hO] at e5 e6 eb
  rw [hL, hK] at e8 e10
  rw [hK] at e9 e11 e12
  rw [hO] at e11
  rw [hP] at e12
  simp only at eb e1 e2 e3 e4 e5 e6 e8 e9 e10 e11 e12
  have k1 := decide_eq_true (show R1 ≤ L1 ∧ L2 ≤ R2 ∧ L1 ≤ L2 by omega)
  have k2 := decide_eq_true (show L1 ≤ P1 ∧ P2 ≤ L2 ∧ P1 ≤ P2 by omega)
  have k3 := decide_eq_true (show P1 ≤ O1 ∧ O2 ≤ P2 ∧ O1 ≤ O2 by omega)
  have HE6 := Lib.hid e6
  have HLv := Lib.hid hL
  have HPv := Lib.hid hP
  have HOv := Lib.hid hO
  have HRv := Lib.hid hRg
  have HKv := Lib.hid hK
  have HDe := Lib.hid hDe
  have HQ3 := Lib.hid dq3
  have hra' : ia % (hi - lo + 1) = ra := by rw [← Int.tmod_eq_emod_of_nonneg hia.1]; exact hra
  have hrb' : ib % (hi - i + 1) = rb := by rw [← Int.tmod_eq_emod_of_nonneg hib.1]; exact hrb
  have HDD := Lib.hid hd
  have HK1 := Lib.hid k1
  have HK2 := Lib.hid k2
  have HK3 := Lib.hid k3
  have HEE := Lib.hid (And.intro e7 (And.intro e8 (And.intro e9 (And.intro e10 (And.intro e11 e12)))))
  clear hL hP hO hRg hK hd k1 k2 k3 e6 hdv dq1 dq2 hDe dq3 e1 e2 e3 e4 e5 e7 e8 e9 e10 e11 e12
  -- what the walk reckons
  have w1 : IntKind.u32.wrap lo = lo := by rw [IntKind.wrap_u32]; omega
  have w2 : IntKind.u32.wrap ln = ln := by rw [IntKind.wrap_u32]; omega
  have w3 : IntKind.i64.wrap lo = lo := IntWalk.i64_in _ (by omega)
  have w4 : IntKind.i64.wrap ln = ln := IntWalk.i64_in _ (by omega)
  have w5 : IntKind.i64.wrap ia = ia := IntWalk.i64_in _ (by omega)
  have w6 : IntKind.i64.wrap ib = ib := IntWalk.i64_in _ (by omega)
  have w7 : IntKind.i64.wrap st = st := IntWalk.i64_in _ (by omega)
  have z1 : ¬ hi - lo + 1 = 0 := by omega
  have z2 : ¬ hi - i + 1 = 0 := by omega
  have HBP := Lib.hid (Below.refl w.heap.size w)
  go_enter Try.func8, Try.ntmps8
  go_wp2_with fail
  refine (made_any mean _ l _ HV.out HR.out (by omega) hmean).mono ?_
  rintro e Va0 ⟨y, rfl, hown, hb⟩
  rw [HM.out]
  rw [HPS.out, ← hpl] at hown
  have hP0 : PrtsAt Va0 Va0.heap.size y ps := prts_own rfl hown
  obtain ⟨A, c, rfl, -, -⟩ := hP0.open_
  have HPA := Lib.hid hP0
  have HZ := Lib.hid hb
  have HBA := Lib.hid (Below.refl Va0.heap.size Va0)
  clear hown hb hP0
  have GHBP := Lib.hid (HBP.out.trans (HZ.out.mono HBP.out.size))
  clear HBP HZ
  have HBP := GHBP
  clear GHBP
  have HN := Lib.hid hpl
  rw [hpl] at HPA ⊢
  clear hpl
  go_upto_region 4 with (fail)
  obtain ⟨Va1, hV⟩ : ∃ V, Va0.alloc (.cells #[.int .i64 M, .slice A l.length c] 35) = V := ⟨_, rfl⟩
  have hz : Below Va0.heap.size Va0 Va1 := by rw [← hV]; exact (Below.refl _ _).alloc (Nat.le_refl _) _
  have hnew : Blk Va1 Va0.heap.size 35 #[.int .i64 M, .slice A l.length c] := by rw [← hV]; exact Blk.new' _ _ _ rfl
  have hgn := HBP.out.size
  have hga := HBA.out.size
  rw [hV]
  obtain ⟨b15, hbx⟩ : ∃ b, Va0.heap.size = b := ⟨_, rfl⟩
  rw [hbx] at hnew hgn hga  ⊢
  have gb15 := hgn
  have HZ := Lib.hid hz
  have gab15 := hga
  clear hga
  clear hV hz hgn hbx 
  have GHBP := Lib.hid (HBP.out.trans (HZ.out.mono HBP.out.size))
  have GHBA := Lib.hid (HBA.out.trans (HZ.out.mono HBA.out.size))
  clear HBP HBA HZ
  have HBP := GHBP
  have HBA := GHBA
  clear GHBP GHBA
  have Hb15 := Lib.hid hnew
  clear hnew
  go_wp2_with fail
  refine (lspan_any lo 0 _).mono ?_
  rintro e Va2 ⟨rfl, hb⟩
  have HZ := Lib.hid hb
  clear hb
  have Gb15 := Lib.hid (Hb15.out.below HZ.out Hb15.out.lt)
  have GHBP := Lib.hid (HBP.out.trans (HZ.out.mono HBP.out.size))
  have GHBA := Lib.hid (HBA.out.trans (HZ.out.mono HBA.out.size))
  clear Hb15 HBP HBA HZ
  have Hb15 := Gb15
  have HBP := GHBP
  have HBA := GHBA
  clear Gb15 GHBP GHBA
  go_upto_region 5 with (fail)
  obtain ⟨Va3, hV⟩ : ∃ V, Va2.alloc (.cells #[.int .i64 lo, .int .i64 0] 23) = V := ⟨_, rfl⟩
  have hz : Below Va2.heap.size Va2 Va3 := by rw [← hV]; exact (Below.refl _ _).alloc (Nat.le_refl _) _
  have hnew : Blk Va3 Va2.heap.size 23 #[.int .i64 lo, .int .i64 0] := by rw [← hV]; exact Blk.new' _ _ _ rfl
  have hgn := HBP.out.size
  have hga := HBA.out.size
  have lb15 := Hb15.out.lt
  rw [hV]
  obtain ⟨b16, hbx⟩ : ∃ b, Va2.heap.size = b := ⟨_, rfl⟩
  rw [hbx] at hnew hgn hga lb15 ⊢
  have gb16 := hgn
  have HZ := Lib.hid hz
  have gab16 := hga
  clear hga
  have nb15b16 : ¬ b15 = b16 := by omega
  have nb16b15 : ¬ b16 = b15 := by omega
  clear hV hz hgn hbx lb15
  have Gb15 := Lib.hid (Hb15.out.below HZ.out Hb15.out.lt)
  have GHBP := Lib.hid (HBP.out.trans (HZ.out.mono HBP.out.size))
  have GHBA := Lib.hid (HBA.out.trans (HZ.out.mono HBA.out.size))
  clear Hb15 HBP HBA HZ
  have Hb15 := Gb15
  have HBP := GHBP
  have HBA := GHBA
  clear Gb15 GHBP GHBA
  have Hb16 := Lib.hid hnew
  clear hnew
  have cb160 : Va3.cell? ⟨b16, 0, none⟩ = some (.int .i64 lo) := Hb16.out.cell 0
  have cb161 : Va3.cell? ⟨b16, 1, none⟩ = some (.int .i64 0) := Hb16.out.cell 1
  have q5 := Hb16.out.frozen 1
  go_upto_region 6 with (fail)
  obtain ⟨Va4, hV⟩ : ∃ V, Va3.setCell ⟨b16, 1, none⟩ (.int .i64 hi) = V := ⟨_, rfl⟩
  have Gb15 : Hid (Blk Va4 b15 35 #[.int .i64 M, .slice A l.length c]) := by rw [← hV]; exact Hb15.out.far_ (p := ⟨b16, 1, none⟩) (by exact nb15b16) _
  have Gb16 : Hid (Blk Va4 b16 23 #[.int .i64 lo, .int .i64 hi]) := by rw [← hV]; exact Hb16.out.set_ 1 _
  have GHBP : Hid (Below w.heap.size w Va4) := by rw [← hV]; exact HBP.out.setCell (p := ⟨b16, 1, none⟩) gb16 _
  have GHBA : Hid (Below Va0.heap.size Va0 Va4) := by rw [← hV]; exact HBA.out.setCell (p := ⟨b16, 1, none⟩) gab16 _
  rw [hV]
  clear hV Hb15 Hb16 HBP HBA
  have Hb15 := Gb15
  have Hb16 := Gb16
  have HBP := GHBP
  have HBA := GHBA
  clear Gb15 Gb16 GHBP GHBA
  clear q5 cb160 cb161
  have cb160 : Va4.cell? ⟨b16, 0, none⟩ = some (.int .i64 lo) := Hb16.out.cell 0
  have cb161 : Va4.cell? ⟨b16, 1, none⟩ = some (.int .i64 hi) := Hb16.out.cell 1
  go_quiet (fail)
  obtain ⟨Va9, hV⟩ : ∃ V, Va4.drewN nq = V := ⟨_, rfl⟩
  have HZ : Hid (Below Va4.heap.size Va4 Va9) := by rw [← hV]; exact Below.drewN' (Below.refl _ _) _
  rw [hV]
  clear hV
  clear cb160 cb161
  have Gb15 := Lib.hid (Hb15.out.below HZ.out Hb15.out.lt)
  have Gb16 := Lib.hid (Hb16.out.below HZ.out Hb16.out.lt)
  have GHBP := Lib.hid (HBP.out.trans (HZ.out.mono HBP.out.size))
  have GHBA := Lib.hid (HBA.out.trans (HZ.out.mono HBA.out.size))
  clear Hb15 Hb16 HBP HBA HZ
  have Hb15 := Gb15
  have Hb16 := Gb16
  have HBP := GHBP
  have HBA := GHBA
  clear Gb15 Gb16 GHBP GHBA
  have cb160 : Va9.cell? ⟨b16, 0, none⟩ = some (.int .i64 lo) := Hb16.out.cell 0
  have cb161 : Va9.cell? ⟨b16, 1, none⟩ = some (.int .i64 hi) := Hb16.out.cell 1
  go_upto_region 8 with (fail)
  clear cb160 cb161
  clear hlo hln hra hra' hrb hrb' hie hje hhi w1 w2 w3 w4 w5 w6 z1 z2 f1 f2 f3 f4 a1 a2 b1 b2 hia hib hlong hfrom hmean
  have cb150 : Va9.cell? ⟨b15, 0, none⟩ = some (.int .i64 M) := Hb15.out.cell 0
  have cb151 : Va9.cell? ⟨b15, 1, none⟩ = some (.slice A l.length c) := Hb15.out.cell 1
  have cb160 : Va9.cell? ⟨b16, 0, none⟩ = some (.int .i64 lo) := Hb16.out.cell 0
  have cb161 : Va9.cell? ⟨b16, 1, none⟩ = some (.int .i64 hi) := Hb16.out.cell 1
  go_wp2_with fail
  refine (lev_ok _ ⟨M, ps⟩ lo hi _ ⟨_, rfl, HPA.out.later (HBA.out) (Nat.le_refl _)⟩ H0.out ⟨by omega, by omega, by omega⟩).mono ?_
  rintro e Va5 ⟨rfl, hb⟩
  rw [HLv.out]
  have HZ := Lib.hid hb
  clear hb
  clear cb150 cb151 cb160 cb161
  have Gb15 := Lib.hid (Hb15.out.below HZ.out Hb15.out.lt)
  have Gb16 := Lib.hid (Hb16.out.below HZ.out Hb16.out.lt)
  have GHBP := Lib.hid (HBP.out.trans (HZ.out.mono HBP.out.size))
  have GHBA := Lib.hid (HBA.out.trans (HZ.out.mono HBA.out.size))
  clear Hb15 Hb16 HBP HBA HZ
  have Hb15 := Gb15
  have Hb16 := Gb16
  have HBP := GHBP
  have HBA := GHBA
  clear Gb15 Gb16 GHBP GHBA
  go_upto_region 9 with (fail)
  obtain ⟨Va6, hV⟩ : ∃ V, Va5.alloc (.cells #[.int .i64 L1, .int .i64 L2] 23) = V := ⟨_, rfl⟩
  have hz : Below Va5.heap.size Va5 Va6 := by rw [← hV]; exact (Below.refl _ _).alloc (Nat.le_refl _) _
  have hnew : Blk Va6 Va5.heap.size 23 #[.int .i64 L1, .int .i64 L2] := by rw [← hV]; exact Blk.new' _ _ _ rfl
  have hgn := HBP.out.size
  have hga := HBA.out.size
  have lb15 := Hb15.out.lt
  have lb16 := Hb16.out.lt
  rw [hV]
  obtain ⟨b19, hbx⟩ : ∃ b, Va5.heap.size = b := ⟨_, rfl⟩
  rw [hbx] at hnew hgn hga lb15 lb16 ⊢
  have gb19 := hgn
  have HZ := Lib.hid hz
  have gab19 := hga
  clear hga
  have nb15b19 : ¬ b15 = b19 := by omega
  have nb19b15 : ¬ b19 = b15 := by omega
  have nb16b19 : ¬ b16 = b19 := by omega
  have nb19b16 : ¬ b19 = b16 := by omega
  clear hV hz hgn hbx lb15 lb16
  have Gb15 := Lib.hid (Hb15.out.below HZ.out Hb15.out.lt)
  have Gb16 := Lib.hid (Hb16.out.below HZ.out Hb16.out.lt)
  have GHBP := Lib.hid (HBP.out.trans (HZ.out.mono HBP.out.size))
  have GHBA := Lib.hid (HBA.out.trans (HZ.out.mono HBA.out.size))
  clear Hb15 Hb16 HBP HBA HZ
  have Hb15 := Gb15
  have Hb16 := Gb16
  have HBP := GHBP
  have HBA := GHBA
  clear Gb15 Gb16 GHBP GHBA
  have Hb19 := Lib.hid hnew
  clear hnew
  go_upto_region 9 with (fail)
  have HSV : Hid (∀ U, Below Va6.heap.size Va6 U → U.cell? ⟨b15, 0, none⟩ = some (.int .i64 M) ∧ U.cell? ⟨b15, 1, none⟩ = some (.slice A l.length c)) := fun U hU => by
    have kb15 := Hb15.out.below hU Hb15.out.lt
    exact ⟨kb15.cell 0, kb15.cell 1⟩
  have k0 := HSV.out _ (Below.drew (Below.refl Va6.heap.size Va6))
  go_cut [21, 22] from 78 to 86 (fun p q wx => q = .int .i64 0 ∧ OneB Va6 23 (P1) (P2) p wx)
  case first =>
    refine wp_region_noPanic ?_
    refine wp_region_held_drew (S := (fun w' => w'.cell? ⟨b15, 0, none⟩ = some (.int .i64 M) ∧ w'.cell? ⟨b15, 1, none⟩ = some (.slice A l.length c))) (by kernel_rfl) ?_ (fun hHeld => ?_)
    · (try dsimp only); (exact k0)
    refine wpAnyH_take (i := 0) (oi := oti9_0) (v := ?_) rfl (by kernel_rfl) (by kernel_rfl) (by kernel_rfl) (fun _ _ _ h => h) (Or.inl ⟨by rfl, ?_⟩) (by assumption) ?_
    rotate_left
    · ((intro w hSw; delta oti9_0; (try dsimp only at hSw); go_simp) <;> with_reducible rfl)
    try simp only [oti9_0, Act.put, List.setIfInBounds_toArray, List.set_cons_zero, List.set_cons_succ]
    refine wpAnyH_take (i := 1) (oi := oti9_1) (v := ?_) rfl (by kernel_rfl) (by kernel_rfl) (by kernel_rfl) (fun _ _ _ h => h) (Or.inl ⟨by rfl, ?_⟩) (by assumption) ?_
    rotate_left
    · ((intro w hSw; delta oti9_1; (try dsimp only at hSw); go_simp) <;> with_reducible rfl)
    try simp only [oti9_1, Act.put, List.setIfInBounds_toArray, List.set_cons_zero, List.set_cons_succ]
    refine wpAnyH_take (i := 2) (oi := oti9_2) (v := ?_) rfl (by kernel_rfl) (by kernel_rfl) (by kernel_rfl) (fun _ _ _ h => h) (Or.inl ⟨by rfl, ?_⟩) (by assumption) ?_
    rotate_left
    · ((intro w hSw; delta oti9_2; (try dsimp only at hSw); go_simp) <;> with_reducible rfl)
    try simp only [oti9_2, Act.put, List.setIfInBounds_toArray, List.set_cons_zero, List.set_cons_succ]
    obtain ⟨W0, hW0⟩ : ∃ V, Va6.drew = V := ⟨_, rfl⟩; rw [hW0] at hHeld ⊢; have HBV : Hid (Below Va6.heap.size Va6 W0) := (by rw [← hW0]; exact Below.drew (Below.refl _ _)); have HB0 := Lib.hid (Below.refl W0.heap.size W0); clear hW0
    refine wpAnyH_ready (rs := [3, 8]) (by kernel_rfl) (by simp) ?_
    refine AllReadyH.cons (o := oti9_3) rfl (fun K hK => ?gs1) ?gr1
    case' gs1 =>
     delta oti9_3
     go_simp
     (refine (lspan_any i j _).mono ?_; rintro e W1 ⟨rfl, hb⟩); have hbz : Below W0.heap.size W0 W1 := (by first | exact hb | exact Below.trans (Below.drew (Below.refl _ _)) hb); clear hb; have HB1 := Lib.hid (HB0.out.trans (hbz.mono HB0.out.size)); clear hbz
     refine hK.out _ _ ?_ (fun hHeld => ?_)
     · (try dsimp only); (exact HSV.out _ (HBV.out.trans (HB1.out.mono HBV.out.size)))
     clear hK K
     try simp only [oti9_3, Act.put, List.setIfInBounds_toArray, List.set_cons_zero, List.set_cons_succ]
     refine wpAnyH_ready (rs := [4, 8]) (by kernel_rfl) (by simp) ?_
     refine AllReadyH.cons (o := oti9_4) rfl (fun K hK => ?gs2) ?gr2
     case' gs2 =>
      delta oti9_4
      go_simp
      (refine (lev_ok _ ⟨M, ps⟩ i j _ ⟨_, rfl, HPA.out.later (HBA.out.trans ((HBV.out.trans (HB1.out.mono HBV.out.size)).mono HBA.out.size)) (Nat.le_refl _)⟩ H0.out ⟨by omega, by omega, by omega⟩).mono ?_; rintro e W2 ⟨rfl, hb⟩; rw [HPv.out]); have hbz : Below W1.heap.size W1 W2 := (by first | exact hb | exact Below.trans (Below.drew (Below.refl _ _)) hb); clear hb; have HB2 := Lib.hid (HB1.out.trans (hbz.mono HB1.out.size)); clear hbz
      refine hK.out _ _ ?_ (fun hHeld => ?_)
      · (try dsimp only); (exact HSV.out _ (HBV.out.trans (HB2.out.mono HBV.out.size)))
      clear hK K
      try simp only [oti9_4, Act.put, List.setIfInBounds_toArray, List.set_cons_zero, List.set_cons_succ]
      refine wpAnyH_take (i := 5) (oi := oti9_5) (v := ?_) rfl (by kernel_rfl) (by kernel_rfl) (by kernel_rfl) (fun _ _ _ h => h) (Or.inl ⟨by rfl, ?_⟩) (by assumption) ?_
      rotate_left
      · ((intro w hSw; delta oti9_5; (try dsimp only at hSw); go_simp) <;> with_reducible rfl)
      try simp only [oti9_5, Act.put, List.setIfInBounds_toArray, List.set_cons_zero, List.set_cons_succ]
      refine wpAnyH_take (i := 6) (oi := oti9_6) (v := ?_) rfl (by kernel_rfl) (by kernel_rfl) (by kernel_rfl) (fun _ _ _ h => h) (Or.inl ⟨by rfl, ?_⟩) (by assumption) ?_
      rotate_left
      · ((intro w hSw; delta oti9_6; (try dsimp only at hSw); go_simp) <;> with_reducible rfl)
      try simp only [oti9_6, Act.put, List.setIfInBounds_toArray, List.set_cons_zero, List.set_cons_succ]
      refine wpAnyH_take (i := 7) (oi := oti9_7) (v := ?_) rfl (by kernel_rfl) (by kernel_rfl) (by kernel_rfl) (fun _ _ _ h => h) (Or.inl ⟨by rfl, ?_⟩) (by assumption) ?_
      rotate_left
      · ((intro w hSw; delta oti9_7; (try dsimp only at hSw); go_simp) <;> with_reducible rfl)
      try simp only [oti9_7, Act.put, List.setIfInBounds_toArray, List.set_cons_zero, List.set_cons_succ]
      refine wpAnyH_ready (rs := [8]) (by kernel_rfl) (by simp) ?_
      refine AllReadyH.cons (o := oti9_8) rfl (fun K hK => ?_) AllReadyH.nil
      delta oti9_8
      go_simp
      obtain ⟨W3, hV⟩ : ∃ V, W2.alloc (.cells #[.int .i64 0, .int .i64 0] 23) = V := ⟨_, rfl⟩; have hbz : Below W2.heap.size W2 W3 := (by rw [← hV]; exact (Below.refl _ _).alloc (Nat.le_refl _) _); have HB3 := Lib.hid (HB2.out.trans (hbz.mono HB2.out.size)); have Hb21_3 : Hid (Blk W3 W2.heap.size 23 #[.int .i64 0, .int .i64 0]) := (by rw [← hV]; exact Blk.new' _ _ _ rfl); obtain ⟨b21, hz⟩ : ∃ b, W2.heap.size = b := ⟨_, rfl⟩; rw [hz] at Hb21_3; have gb21 : W0.heap.size ≤ b21 := (by rw [← hz]; exact HB2.out.size); rw [hV, hz]; clear hV hbz hz
      refine hK.out _ _ ?_ (fun hHeld => ?_)
      · (try dsimp only); (exact HSV.out _ (HBV.out.trans (HB3.out.mono HBV.out.size)))
      clear hK K
      try simp only [oti9_8, Act.put, List.setIfInBounds_toArray, List.set_cons_zero, List.set_cons_succ]
     case' gr2 =>
      refine AllReadyH.cons (o := oti9_8) rfl (fun K hK => ?gs3) ?gr3
      case' gs3 =>
       delta oti9_8
       go_simp
       obtain ⟨W2, hV⟩ : ∃ V, W1.alloc (.cells #[.int .i64 0, .int .i64 0] 23) = V := ⟨_, rfl⟩; have hbz : Below W1.heap.size W1 W2 := (by rw [← hV]; exact (Below.refl _ _).alloc (Nat.le_refl _) _); have HB2 := Lib.hid (HB1.out.trans (hbz.mono HB1.out.size)); have Hb21_2 : Hid (Blk W2 W1.heap.size 23 #[.int .i64 0, .int .i64 0]) := (by rw [← hV]; exact Blk.new' _ _ _ rfl); obtain ⟨b21, hz⟩ : ∃ b, W1.heap.size = b := ⟨_, rfl⟩; rw [hz] at Hb21_2; have gb21 : W0.heap.size ≤ b21 := (by rw [← hz]; exact HB1.out.size); rw [hV, hz]; clear hV hbz hz
       refine hK.out _ _ ?_ (fun hHeld => ?_)
       · (try dsimp only); (exact HSV.out _ (HBV.out.trans (HB2.out.mono HBV.out.size)))
       clear hK K
       try simp only [oti9_8, Act.put, List.setIfInBounds_toArray, List.set_cons_zero, List.set_cons_succ]
       refine wpAnyH_ready (rs := [4]) (by kernel_rfl) (by simp) ?_
       refine AllReadyH.cons (o := oti9_4) rfl (fun K hK => ?_) AllReadyH.nil
       delta oti9_4
       go_simp
       (refine (lev_ok _ ⟨M, ps⟩ i j _ ⟨_, rfl, HPA.out.later (HBA.out.trans ((HBV.out.trans (HB2.out.mono HBV.out.size)).mono HBA.out.size)) (Nat.le_refl _)⟩ H0.out ⟨by omega, by omega, by omega⟩).mono ?_; rintro e W3 ⟨rfl, hb⟩; rw [HPv.out]); have hbz : Below W2.heap.size W2 W3 := (by first | exact hb | exact Below.trans (Below.drew (Below.refl _ _)) hb); clear hb; have HB3 := Lib.hid (HB2.out.trans (hbz.mono HB2.out.size)); have Hb21_3 := Lib.hid (Hb21_2.out.below hbz Hb21_2.out.lt); clear hbz
       refine hK.out _ _ ?_ (fun hHeld => ?_)
       · (try dsimp only); (exact HSV.out _ (HBV.out.trans (HB3.out.mono HBV.out.size)))
       clear hK K
       try simp only [oti9_4, Act.put, List.setIfInBounds_toArray, List.set_cons_zero, List.set_cons_succ]
       refine wpAnyH_take (i := 5) (oi := oti9_5) (v := ?_) rfl (by kernel_rfl) (by kernel_rfl) (by kernel_rfl) (fun _ _ _ h => h) (Or.inl ⟨by rfl, ?_⟩) (by assumption) ?_
       rotate_left
       · ((intro w hSw; delta oti9_5; (try dsimp only at hSw); go_simp) <;> with_reducible rfl)
       try simp only [oti9_5, Act.put, List.setIfInBounds_toArray, List.set_cons_zero, List.set_cons_succ]
       refine wpAnyH_take (i := 6) (oi := oti9_6) (v := ?_) rfl (by kernel_rfl) (by kernel_rfl) (by kernel_rfl) (fun _ _ _ h => h) (Or.inl ⟨by rfl, ?_⟩) (by assumption) ?_
       rotate_left
       · ((intro w hSw; delta oti9_6; (try dsimp only at hSw); go_simp) <;> with_reducible rfl)
       try simp only [oti9_6, Act.put, List.setIfInBounds_toArray, List.set_cons_zero, List.set_cons_succ]
       refine wpAnyH_take (i := 7) (oi := oti9_7) (v := ?_) rfl (by kernel_rfl) (by kernel_rfl) (by kernel_rfl) (fun _ _ _ h => h) (Or.inl ⟨by rfl, ?_⟩) (by assumption) ?_
       rotate_left
       · ((intro w hSw; delta oti9_7; (try dsimp only at hSw); go_simp) <;> with_reducible rfl)
       try simp only [oti9_7, Act.put, List.setIfInBounds_toArray, List.set_cons_zero, List.set_cons_succ]
      case' gr3 =>
       exact AllReadyH.nil
    case' gr1 =>
     refine AllReadyH.cons (o := oti9_8) rfl (fun K hK => ?gs4) ?gr4
     case' gs4 =>
      delta oti9_8
      go_simp
      obtain ⟨W1, hV⟩ : ∃ V, W0.alloc (.cells #[.int .i64 0, .int .i64 0] 23) = V := ⟨_, rfl⟩; have hbz : Below W0.heap.size W0 W1 := (by rw [← hV]; exact (Below.refl _ _).alloc (Nat.le_refl _) _); have HB1 := Lib.hid (HB0.out.trans (hbz.mono HB0.out.size)); have Hb21_1 : Hid (Blk W1 W0.heap.size 23 #[.int .i64 0, .int .i64 0]) := (by rw [← hV]; exact Blk.new' _ _ _ rfl); obtain ⟨b21, hz⟩ : ∃ b, W0.heap.size = b := ⟨_, rfl⟩; rw [hz] at Hb21_1; have gb21 : W0.heap.size ≤ b21 := (by rw [← hz]; exact HB0.out.size); rw [hV, hz]; clear hV hbz hz
      refine hK.out _ _ ?_ (fun hHeld => ?_)
      · (try dsimp only); (exact HSV.out _ (HBV.out.trans (HB1.out.mono HBV.out.size)))
      clear hK K
      try simp only [oti9_8, Act.put, List.setIfInBounds_toArray, List.set_cons_zero, List.set_cons_succ]
      refine wpAnyH_ready (rs := [3]) (by kernel_rfl) (by simp) ?_
      refine AllReadyH.cons (o := oti9_3) rfl (fun K hK => ?_) AllReadyH.nil
      delta oti9_3
      go_simp
      (refine (lspan_any i j _).mono ?_; rintro e W2 ⟨rfl, hb⟩); have hbz : Below W1.heap.size W1 W2 := (by first | exact hb | exact Below.trans (Below.drew (Below.refl _ _)) hb); clear hb; have HB2 := Lib.hid (HB1.out.trans (hbz.mono HB1.out.size)); have Hb21_2 := Lib.hid (Hb21_1.out.below hbz Hb21_1.out.lt); clear hbz
      refine hK.out _ _ ?_ (fun hHeld => ?_)
      · (try dsimp only); (exact HSV.out _ (HBV.out.trans (HB2.out.mono HBV.out.size)))
      clear hK K
      try simp only [oti9_3, Act.put, List.setIfInBounds_toArray, List.set_cons_zero, List.set_cons_succ]
      refine wpAnyH_ready (rs := [4]) (by kernel_rfl) (by simp) ?_
      refine AllReadyH.cons (o := oti9_4) rfl (fun K hK => ?_) AllReadyH.nil
      delta oti9_4
      go_simp
      (refine (lev_ok _ ⟨M, ps⟩ i j _ ⟨_, rfl, HPA.out.later (HBA.out.trans ((HBV.out.trans (HB2.out.mono HBV.out.size)).mono HBA.out.size)) (Nat.le_refl _)⟩ H0.out ⟨by omega, by omega, by omega⟩).mono ?_; rintro e W3 ⟨rfl, hb⟩; rw [HPv.out]); have hbz : Below W2.heap.size W2 W3 := (by first | exact hb | exact Below.trans (Below.drew (Below.refl _ _)) hb); clear hb; have HB3 := Lib.hid (HB2.out.trans (hbz.mono HB2.out.size)); have Hb21_3 := Lib.hid (Hb21_2.out.below hbz Hb21_2.out.lt); clear hbz
      refine hK.out _ _ ?_ (fun hHeld => ?_)
      · (try dsimp only); (exact HSV.out _ (HBV.out.trans (HB3.out.mono HBV.out.size)))
      clear hK K
      try simp only [oti9_4, Act.put, List.setIfInBounds_toArray, List.set_cons_zero, List.set_cons_succ]
      refine wpAnyH_take (i := 5) (oi := oti9_5) (v := ?_) rfl (by kernel_rfl) (by kernel_rfl) (by kernel_rfl) (fun _ _ _ h => h) (Or.inl ⟨by rfl, ?_⟩) (by assumption) ?_
      rotate_left
      · ((intro w hSw; delta oti9_5; (try dsimp only at hSw); go_simp) <;> with_reducible rfl)
      try simp only [oti9_5, Act.put, List.setIfInBounds_toArray, List.set_cons_zero, List.set_cons_succ]
      refine wpAnyH_take (i := 6) (oi := oti9_6) (v := ?_) rfl (by kernel_rfl) (by kernel_rfl) (by kernel_rfl) (fun _ _ _ h => h) (Or.inl ⟨by rfl, ?_⟩) (by assumption) ?_
      rotate_left
      · ((intro w hSw; delta oti9_6; (try dsimp only at hSw); go_simp) <;> with_reducible rfl)
      try simp only [oti9_6, Act.put, List.setIfInBounds_toArray, List.set_cons_zero, List.set_cons_succ]
      refine wpAnyH_take (i := 7) (oi := oti9_7) (v := ?_) rfl (by kernel_rfl) (by kernel_rfl) (by kernel_rfl) (fun _ _ _ h => h) (Or.inl ⟨by rfl, ?_⟩) (by assumption) ?_
      rotate_left
      · ((intro w hSw; delta oti9_7; (try dsimp only at hSw); go_simp) <;> with_reducible rfl)
      try simp only [oti9_7, Act.put, List.setIfInBounds_toArray, List.set_cons_zero, List.set_cons_succ]
     case' gr4 =>
      exact AllReadyH.nil
    all_goals
     as_aux_lemma =>
      have u0 := Hb21_3.out.cell 0; have u1 := Hb21_3.out.cell 1; have v0 := Hb21_3.out.frozen 0; have v1 := Hb21_3.out.frozen 1; simp only [List.getElem?_toArray, List.getElem?_cons_zero, List.getElem?_cons_succ] at u0 u1
      refine wpAnyH_ready (rs := [9]) (by kernel_rfl) (by simp) ?_
      refine AllReadyH.cons (o := oti9_9) rfl (fun K hK => ?_) AllReadyH.nil
      delta oti9_9
      go_simp
      refine hK.out _ _ ?_ (fun hHeld => ?_)
      · (try dsimp only); (refine HSV.out _ (HBV.out.trans (Below.mono ?_ HBV.out.size)); (repeat (first | exact HB3.out | refine Below.setCell ?_ (by exact gb21) _)); done)
      clear hK K
      try simp only [oti9_9, Act.put, List.setIfInBounds_toArray, List.set_cons_zero, List.set_cons_succ]
      refine wpAnyH_take (i := 10) (oi := oti9_10) (v := ?_) rfl (by kernel_rfl) (by kernel_rfl) (by kernel_rfl) (fun _ _ _ h => h) (Or.inl ⟨by rfl, ?_⟩) (by assumption) ?_
      rotate_left
      · ((intro w hSw; delta oti9_10; (try dsimp only at hSw); go_simp) <;> with_reducible rfl)
      try simp only [oti9_10, Act.put, List.setIfInBounds_toArray, List.set_cons_zero, List.set_cons_succ]
      refine wpAnyH_done (by kernel_rfl) ?_ _
      refine NoPanic.normal ?_
      go_wp2_with fail
      go_meet
      exact ⟨rfl, oneB_set Hb21_3.out gb21 HB3.out HBV.out⟩
  case rest =>
    obtain ⟨rfl, b21, rfl, hnew, hgn, hb⟩ := hcut
    obtain ⟨Va7, rfl⟩ : ∃ V, V = wc := ⟨_, rfl⟩
    have HZ := Lib.hid hb
    have nb15b21 : ¬ b15 = b21 := by have := Hb15.out.lt; omega
    have nb21b15 : ¬ b21 = b15 := fun e => nb15b21 e.symm
    have nb16b21 : ¬ b16 = b21 := by have := Hb16.out.lt; omega
    have nb21b16 : ¬ b21 = b16 := fun e => nb16b21 e.symm
    have nb19b21 : ¬ b19 = b21 := by have := Hb19.out.lt; omega
    have nb21b19 : ¬ b21 = b19 := fun e => nb19b21 e.symm
    have gb21 : w.heap.size ≤ b21 := Nat.le_trans HBP.out.size hgn
    clear hb hgn HSV k0
    have Gb15 := Lib.hid (Hb15.out.below HZ.out Hb15.out.lt)
    have Gb16 := Lib.hid (Hb16.out.below HZ.out Hb16.out.lt)
    have Gb19 := Lib.hid (Hb19.out.below HZ.out Hb19.out.lt)
    have GHBP := Lib.hid (HBP.out.trans (HZ.out.mono HBP.out.size))
    have GHBA := Lib.hid (HBA.out.trans (HZ.out.mono HBA.out.size))
    clear Hb15 Hb16 Hb19 HBP HBA HZ
    have Hb15 := Gb15
    have Hb16 := Gb16
    have Hb19 := Gb19
    have HBP := GHBP
    have HBA := GHBA
    clear Gb15 Gb16 Gb19 GHBP GHBA
    have Hb21 := Lib.hid hnew
    clear hnew
    go_upto_region 10 with (fail)
    have HSV : Hid (∀ U, Below Va7.heap.size Va7 U → U.cell? ⟨b15, 0, none⟩ = some (.int .i64 M) ∧ U.cell? ⟨b15, 1, none⟩ = some (.slice A l.length c)) := fun U hU => by
      have kb15 := Hb15.out.below hU Hb15.out.lt
      exact ⟨kb15.cell 0, kb15.cell 1⟩
    have k0 := HSV.out _ (Below.drew (Below.refl Va7.heap.size Va7))
    go_cut [23, 24] from 86 to 94 (fun p q wx => q = .int .i64 0 ∧ OneB Va7 23 (O1) (O2) p wx)
    case first =>
      refine wp_region_noPanic ?_
      refine wp_region_held_drew (S := (fun w' => w'.cell? ⟨b15, 0, none⟩ = some (.int .i64 M) ∧ w'.cell? ⟨b15, 1, none⟩ = some (.slice A l.length c))) (by kernel_rfl) ?_ (fun hHeld => ?_)
      · (try dsimp only); (exact k0)
      refine wpAnyH_take (i := 0) (oi := oti10_0) (v := ?_) rfl (by kernel_rfl) (by kernel_rfl) (by kernel_rfl) (fun _ _ _ h => h) (Or.inl ⟨by rfl, ?_⟩) (by assumption) ?_
      rotate_left
      · ((intro w hSw; delta oti10_0; (try dsimp only at hSw); go_simp) <;> with_reducible rfl)
      try simp only [oti10_0, Act.put, List.setIfInBounds_toArray, List.set_cons_zero, List.set_cons_succ]
      refine wpAnyH_take (i := 1) (oi := oti10_1) (v := ?_) rfl (by kernel_rfl) (by kernel_rfl) (by kernel_rfl) (fun _ _ _ h => h) (Or.inl ⟨by rfl, ?_⟩) (by assumption) ?_
      rotate_left
      · ((intro w hSw; delta oti10_1; (try dsimp only at hSw); go_simp) <;> with_reducible rfl)
      try simp only [oti10_1, Act.put, List.setIfInBounds_toArray, List.set_cons_zero, List.set_cons_succ]
      refine wpAnyH_take (i := 2) (oi := oti10_2) (v := ?_) rfl (by kernel_rfl) (by kernel_rfl) (by kernel_rfl) (fun _ _ _ h => h) (Or.inl ⟨by rfl, ?_⟩) (by assumption) ?_
      rotate_left
      · ((intro w hSw; delta oti10_2; (try dsimp only at hSw); go_simp) <;> with_reducible rfl)
      try simp only [oti10_2, Act.put, List.setIfInBounds_toArray, List.set_cons_zero, List.set_cons_succ]
      obtain ⟨W0, hW0⟩ : ∃ V, Va7.drew = V := ⟨_, rfl⟩; rw [hW0] at hHeld ⊢; have HBV : Hid (Below Va7.heap.size Va7 W0) := (by rw [← hW0]; exact Below.drew (Below.refl _ _)); have HB0 := Lib.hid (Below.refl W0.heap.size W0); clear hW0
      refine wpAnyH_ready (rs := [3, 8]) (by kernel_rfl) (by simp) ?_
      refine AllReadyH.cons (o := oti10_3) rfl (fun K hK => ?gs5) ?gr5
      case' gs5 =>
       delta oti10_3
       go_simp
       (refine (lspan_any i i _).mono ?_; rintro e W1 ⟨rfl, hb⟩); have hbz : Below W0.heap.size W0 W1 := (by first | exact hb | exact Below.trans (Below.drew (Below.refl _ _)) hb); clear hb; have HB1 := Lib.hid (HB0.out.trans (hbz.mono HB0.out.size)); clear hbz
       refine hK.out _ _ ?_ (fun hHeld => ?_)
       · (try dsimp only); (exact HSV.out _ (HBV.out.trans (HB1.out.mono HBV.out.size)))
       clear hK K
       try simp only [oti10_3, Act.put, List.setIfInBounds_toArray, List.set_cons_zero, List.set_cons_succ]
       refine wpAnyH_ready (rs := [4, 8]) (by kernel_rfl) (by simp) ?_
       refine AllReadyH.cons (o := oti10_4) rfl (fun K hK => ?gs6) ?gr6
       case' gs6 =>
        delta oti10_4
        go_simp
        (refine (lev_ok _ ⟨M, ps⟩ i i _ ⟨_, rfl, HPA.out.later (HBA.out.trans ((HBV.out.trans (HB1.out.mono HBV.out.size)).mono HBA.out.size)) (Nat.le_refl _)⟩ H0.out ⟨by omega, by omega, by omega⟩).mono ?_; rintro e W2 ⟨rfl, hb⟩; rw [HOv.out]); have hbz : Below W1.heap.size W1 W2 := (by first | exact hb | exact Below.trans (Below.drew (Below.refl _ _)) hb); clear hb; have HB2 := Lib.hid (HB1.out.trans (hbz.mono HB1.out.size)); clear hbz
        refine hK.out _ _ ?_ (fun hHeld => ?_)
        · (try dsimp only); (exact HSV.out _ (HBV.out.trans (HB2.out.mono HBV.out.size)))
        clear hK K
        try simp only [oti10_4, Act.put, List.setIfInBounds_toArray, List.set_cons_zero, List.set_cons_succ]
        refine wpAnyH_take (i := 5) (oi := oti10_5) (v := ?_) rfl (by kernel_rfl) (by kernel_rfl) (by kernel_rfl) (fun _ _ _ h => h) (Or.inl ⟨by rfl, ?_⟩) (by assumption) ?_
        rotate_left
        · ((intro w hSw; delta oti10_5; (try dsimp only at hSw); go_simp) <;> with_reducible rfl)
        try simp only [oti10_5, Act.put, List.setIfInBounds_toArray, List.set_cons_zero, List.set_cons_succ]
        refine wpAnyH_take (i := 6) (oi := oti10_6) (v := ?_) rfl (by kernel_rfl) (by kernel_rfl) (by kernel_rfl) (fun _ _ _ h => h) (Or.inl ⟨by rfl, ?_⟩) (by assumption) ?_
        rotate_left
        · ((intro w hSw; delta oti10_6; (try dsimp only at hSw); go_simp) <;> with_reducible rfl)
        try simp only [oti10_6, Act.put, List.setIfInBounds_toArray, List.set_cons_zero, List.set_cons_succ]
        refine wpAnyH_take (i := 7) (oi := oti10_7) (v := ?_) rfl (by kernel_rfl) (by kernel_rfl) (by kernel_rfl) (fun _ _ _ h => h) (Or.inl ⟨by rfl, ?_⟩) (by assumption) ?_
        rotate_left
        · ((intro w hSw; delta oti10_7; (try dsimp only at hSw); go_simp) <;> with_reducible rfl)
        try simp only [oti10_7, Act.put, List.setIfInBounds_toArray, List.set_cons_zero, List.set_cons_succ]
        refine wpAnyH_ready (rs := [8]) (by kernel_rfl) (by simp) ?_
        refine AllReadyH.cons (o := oti10_8) rfl (fun K hK => ?_) AllReadyH.nil
        delta oti10_8
        go_simp
        obtain ⟨W3, hV⟩ : ∃ V, W2.alloc (.cells #[.int .i64 0, .int .i64 0] 23) = V := ⟨_, rfl⟩; have hbz : Below W2.heap.size W2 W3 := (by rw [← hV]; exact (Below.refl _ _).alloc (Nat.le_refl _) _); have HB3 := Lib.hid (HB2.out.trans (hbz.mono HB2.out.size)); have Hb23_3 : Hid (Blk W3 W2.heap.size 23 #[.int .i64 0, .int .i64 0]) := (by rw [← hV]; exact Blk.new' _ _ _ rfl); obtain ⟨b23, hz⟩ : ∃ b, W2.heap.size = b := ⟨_, rfl⟩; rw [hz] at Hb23_3; have gb23 : W0.heap.size ≤ b23 := (by rw [← hz]; exact HB2.out.size); rw [hV, hz]; clear hV hbz hz
        refine hK.out _ _ ?_ (fun hHeld => ?_)
        · (try dsimp only); (exact HSV.out _ (HBV.out.trans (HB3.out.mono HBV.out.size)))
        clear hK K
        try simp only [oti10_8, Act.put, List.setIfInBounds_toArray, List.set_cons_zero, List.set_cons_succ]
       case' gr6 =>
        refine AllReadyH.cons (o := oti10_8) rfl (fun K hK => ?gs7) ?gr7
        case' gs7 =>
         delta oti10_8
         go_simp
         obtain ⟨W2, hV⟩ : ∃ V, W1.alloc (.cells #[.int .i64 0, .int .i64 0] 23) = V := ⟨_, rfl⟩; have hbz : Below W1.heap.size W1 W2 := (by rw [← hV]; exact (Below.refl _ _).alloc (Nat.le_refl _) _); have HB2 := Lib.hid (HB1.out.trans (hbz.mono HB1.out.size)); have Hb23_2 : Hid (Blk W2 W1.heap.size 23 #[.int .i64 0, .int .i64 0]) := (by rw [← hV]; exact Blk.new' _ _ _ rfl); obtain ⟨b23, hz⟩ : ∃ b, W1.heap.size = b := ⟨_, rfl⟩; rw [hz] at Hb23_2; have gb23 : W0.heap.size ≤ b23 := (by rw [← hz]; exact HB1.out.size); rw [hV, hz]; clear hV hbz hz
         refine hK.out _ _ ?_ (fun hHeld => ?_)
         · (try dsimp only); (exact HSV.out _ (HBV.out.trans (HB2.out.mono HBV.out.size)))
         clear hK K
         try simp only [oti10_8, Act.put, List.setIfInBounds_toArray, List.set_cons_zero, List.set_cons_succ]
         refine wpAnyH_ready (rs := [4]) (by kernel_rfl) (by simp) ?_
         refine AllReadyH.cons (o := oti10_4) rfl (fun K hK => ?_) AllReadyH.nil
         delta oti10_4
         go_simp
         (refine (lev_ok _ ⟨M, ps⟩ i i _ ⟨_, rfl, HPA.out.later (HBA.out.trans ((HBV.out.trans (HB2.out.mono HBV.out.size)).mono HBA.out.size)) (Nat.le_refl _)⟩ H0.out ⟨by omega, by omega, by omega⟩).mono ?_; rintro e W3 ⟨rfl, hb⟩; rw [HOv.out]); have hbz : Below W2.heap.size W2 W3 := (by first | exact hb | exact Below.trans (Below.drew (Below.refl _ _)) hb); clear hb; have HB3 := Lib.hid (HB2.out.trans (hbz.mono HB2.out.size)); have Hb23_3 := Lib.hid (Hb23_2.out.below hbz Hb23_2.out.lt); clear hbz
         refine hK.out _ _ ?_ (fun hHeld => ?_)
         · (try dsimp only); (exact HSV.out _ (HBV.out.trans (HB3.out.mono HBV.out.size)))
         clear hK K
         try simp only [oti10_4, Act.put, List.setIfInBounds_toArray, List.set_cons_zero, List.set_cons_succ]
         refine wpAnyH_take (i := 5) (oi := oti10_5) (v := ?_) rfl (by kernel_rfl) (by kernel_rfl) (by kernel_rfl) (fun _ _ _ h => h) (Or.inl ⟨by rfl, ?_⟩) (by assumption) ?_
         rotate_left
         · ((intro w hSw; delta oti10_5; (try dsimp only at hSw); go_simp) <;> with_reducible rfl)
         try simp only [oti10_5, Act.put, List.setIfInBounds_toArray, List.set_cons_zero, List.set_cons_succ]
         refine wpAnyH_take (i := 6) (oi := oti10_6) (v := ?_) rfl (by kernel_rfl) (by kernel_rfl) (by kernel_rfl) (fun _ _ _ h => h) (Or.inl ⟨by rfl, ?_⟩) (by assumption) ?_
         rotate_left
         · ((intro w hSw; delta oti10_6; (try dsimp only at hSw); go_simp) <;> with_reducible rfl)
         try simp only [oti10_6, Act.put, List.setIfInBounds_toArray, List.set_cons_zero, List.set_cons_succ]
         refine wpAnyH_take (i := 7) (oi := oti10_7) (v := ?_) rfl (by kernel_rfl) (by kernel_rfl) (by kernel_rfl) (fun _ _ _ h => h) (Or.inl ⟨by rfl, ?_⟩) (by assumption) ?_
         rotate_left
         · ((intro w hSw; delta oti10_7; (try dsimp only at hSw); go_simp) <;> with_reducible rfl)
         try simp only [oti10_7, Act.put, List.setIfInBounds_toArray, List.set_cons_zero, List.set_cons_succ]
        case' gr7 =>
         exact AllReadyH.nil
      case' gr5 =>
       refine AllReadyH.cons (o := oti10_8) rfl (fun K hK => ?gs8) ?gr8
       case' gs8 =>
        delta oti10_8
        go_simp
        obtain ⟨W1, hV⟩ : ∃ V, W0.alloc (.cells #[.int .i64 0, .int .i64 0] 23) = V := ⟨_, rfl⟩; have hbz : Below W0.heap.size W0 W1 := (by rw [← hV]; exact (Below.refl _ _).alloc (Nat.le_refl _) _); have HB1 := Lib.hid (HB0.out.trans (hbz.mono HB0.out.size)); have Hb23_1 : Hid (Blk W1 W0.heap.size 23 #[.int .i64 0, .int .i64 0]) := (by rw [← hV]; exact Blk.new' _ _ _ rfl); obtain ⟨b23, hz⟩ : ∃ b, W0.heap.size = b := ⟨_, rfl⟩; rw [hz] at Hb23_1; have gb23 : W0.heap.size ≤ b23 := (by rw [← hz]; exact HB0.out.size); rw [hV, hz]; clear hV hbz hz
        refine hK.out _ _ ?_ (fun hHeld => ?_)
        · (try dsimp only); (exact HSV.out _ (HBV.out.trans (HB1.out.mono HBV.out.size)))
        clear hK K
        try simp only [oti10_8, Act.put, List.setIfInBounds_toArray, List.set_cons_zero, List.set_cons_succ]
        refine wpAnyH_ready (rs := [3]) (by kernel_rfl) (by simp) ?_
        refine AllReadyH.cons (o := oti10_3) rfl (fun K hK => ?_) AllReadyH.nil
        delta oti10_3
        go_simp
        (refine (lspan_any i i _).mono ?_; rintro e W2 ⟨rfl, hb⟩); have hbz : Below W1.heap.size W1 W2 := (by first | exact hb | exact Below.trans (Below.drew (Below.refl _ _)) hb); clear hb; have HB2 := Lib.hid (HB1.out.trans (hbz.mono HB1.out.size)); have Hb23_2 := Lib.hid (Hb23_1.out.below hbz Hb23_1.out.lt); clear hbz
        refine hK.out _ _ ?_ (fun hHeld => ?_)
        · (try dsimp only); (exact HSV.out _ (HBV.out.trans (HB2.out.mono HBV.out.size)))
        clear hK K
        try simp only [oti10_3, Act.put, List.setIfInBounds_toArray, List.set_cons_zero, List.set_cons_succ]
        refine wpAnyH_ready (rs := [4]) (by kernel_rfl) (by simp) ?_
        refine AllReadyH.cons (o := oti10_4) rfl (fun K hK => ?_) AllReadyH.nil
        delta oti10_4
        go_simp
        (refine (lev_ok _ ⟨M, ps⟩ i i _ ⟨_, rfl, HPA.out.later (HBA.out.trans ((HBV.out.trans (HB2.out.mono HBV.out.size)).mono HBA.out.size)) (Nat.le_refl _)⟩ H0.out ⟨by omega, by omega, by omega⟩).mono ?_; rintro e W3 ⟨rfl, hb⟩; rw [HOv.out]); have hbz : Below W2.heap.size W2 W3 := (by first | exact hb | exact Below.trans (Below.drew (Below.refl _ _)) hb); clear hb; have HB3 := Lib.hid (HB2.out.trans (hbz.mono HB2.out.size)); have Hb23_3 := Lib.hid (Hb23_2.out.below hbz Hb23_2.out.lt); clear hbz
        refine hK.out _ _ ?_ (fun hHeld => ?_)
        · (try dsimp only); (exact HSV.out _ (HBV.out.trans (HB3.out.mono HBV.out.size)))
        clear hK K
        try simp only [oti10_4, Act.put, List.setIfInBounds_toArray, List.set_cons_zero, List.set_cons_succ]
        refine wpAnyH_take (i := 5) (oi := oti10_5) (v := ?_) rfl (by kernel_rfl) (by kernel_rfl) (by kernel_rfl) (fun _ _ _ h => h) (Or.inl ⟨by rfl, ?_⟩) (by assumption) ?_
        rotate_left
        · ((intro w hSw; delta oti10_5; (try dsimp only at hSw); go_simp) <;> with_reducible rfl)
        try simp only [oti10_5, Act.put, List.setIfInBounds_toArray, List.set_cons_zero, List.set_cons_succ]
        refine wpAnyH_take (i := 6) (oi := oti10_6) (v := ?_) rfl (by kernel_rfl) (by kernel_rfl) (by kernel_rfl) (fun _ _ _ h => h) (Or.inl ⟨by rfl, ?_⟩) (by assumption) ?_
        rotate_left
        · ((intro w hSw; delta oti10_6; (try dsimp only at hSw); go_simp) <;> with_reducible rfl)
        try simp only [oti10_6, Act.put, List.setIfInBounds_toArray, List.set_cons_zero, List.set_cons_succ]
        refine wpAnyH_take (i := 7) (oi := oti10_7) (v := ?_) rfl (by kernel_rfl) (by kernel_rfl) (by kernel_rfl) (fun _ _ _ h => h) (Or.inl ⟨by rfl, ?_⟩) (by assumption) ?_
        rotate_left
        · ((intro w hSw; delta oti10_7; (try dsimp only at hSw); go_simp) <;> with_reducible rfl)
        try simp only [oti10_7, Act.put, List.setIfInBounds_toArray, List.set_cons_zero, List.set_cons_succ]
       case' gr8 =>
        exact AllReadyH.nil
      all_goals
       as_aux_lemma =>
        have u0 := Hb23_3.out.cell 0; have u1 := Hb23_3.out.cell 1; have v0 := Hb23_3.out.frozen 0; have v1 := Hb23_3.out.frozen 1; simp only [List.getElem?_toArray, List.getElem?_cons_zero, List.getElem?_cons_succ] at u0 u1
        refine wpAnyH_ready (rs := [9]) (by kernel_rfl) (by simp) ?_
        refine AllReadyH.cons (o := oti10_9) rfl (fun K hK => ?_) AllReadyH.nil
        delta oti10_9
        go_simp
        refine hK.out _ _ ?_ (fun hHeld => ?_)
        · (try dsimp only); (refine HSV.out _ (HBV.out.trans (Below.mono ?_ HBV.out.size)); (repeat (first | exact HB3.out | refine Below.setCell ?_ (by exact gb23) _)); done)
        clear hK K
        try simp only [oti10_9, Act.put, List.setIfInBounds_toArray, List.set_cons_zero, List.set_cons_succ]
        refine wpAnyH_take (i := 10) (oi := oti10_10) (v := ?_) rfl (by kernel_rfl) (by kernel_rfl) (by kernel_rfl) (fun _ _ _ h => h) (Or.inl ⟨by rfl, ?_⟩) (by assumption) ?_
        rotate_left
        · ((intro w hSw; delta oti10_10; (try dsimp only at hSw); go_simp) <;> with_reducible rfl)
        try simp only [oti10_10, Act.put, List.setIfInBounds_toArray, List.set_cons_zero, List.set_cons_succ]
        refine wpAnyH_done (by kernel_rfl) ?_ _
        refine NoPanic.normal ?_
        go_wp2_with fail
        go_meet
        exact ⟨rfl, oneB_set Hb23_3.out gb23 HB3.out HBV.out⟩
    case rest =>
      obtain ⟨rfl, b23, rfl, hnew, hgn, hb⟩ := hcut
      obtain ⟨Va8, rfl⟩ : ∃ V, V = wc := ⟨_, rfl⟩
      have HZ := Lib.hid hb
      have nb15b23 : ¬ b15 = b23 := by have := Hb15.out.lt; omega
      have nb23b15 : ¬ b23 = b15 := fun e => nb15b23 e.symm
      have nb16b23 : ¬ b16 = b23 := by have := Hb16.out.lt; omega
      have nb23b16 : ¬ b23 = b16 := fun e => nb16b23 e.symm
      have nb19b23 : ¬ b19 = b23 := by have := Hb19.out.lt; omega
      have nb23b19 : ¬ b23 = b19 := fun e => nb19b23 e.symm
      have nb21b23 : ¬ b21 = b23 := by have := Hb21.out.lt; omega
      have nb23b21 : ¬ b23 = b21 := fun e => nb21b23 e.symm
      have gb23 : w.heap.size ≤ b23 := Nat.le_trans HBP.out.size hgn
      clear hb hgn HSV k0
      have Gb15 := Lib.hid (Hb15.out.below HZ.out Hb15.out.lt)
      have Gb16 := Lib.hid (Hb16.out.below HZ.out Hb16.out.lt)
      have Gb19 := Lib.hid (Hb19.out.below HZ.out Hb19.out.lt)
      have Gb21 := Lib.hid (Hb21.out.below HZ.out Hb21.out.lt)
      have GHBP := Lib.hid (HBP.out.trans (HZ.out.mono HBP.out.size))
      have GHBA := Lib.hid (HBA.out.trans (HZ.out.mono HBA.out.size))
      clear Hb15 Hb16 Hb19 Hb21 HBP HBA HZ
      have Hb15 := Gb15
      have Hb16 := Gb16
      have Hb19 := Gb19
      have Hb21 := Gb21
      have HBP := GHBP
      have HBA := GHBA
      clear Gb15 Gb16 Gb19 Gb21 GHBP GHBA
      have Hb23 := Lib.hid hnew
      clear hnew
      have cb150 : Va8.cell? ⟨b15, 0, none⟩ = some (.int .i64 M) := Hb15.out.cell 0
      have cb151 : Va8.cell? ⟨b15, 1, none⟩ = some (.slice A l.length c) := Hb15.out.cell 1
      go_wp2_with fail
      refine (rng_ok _ ⟨M, ps⟩ _ ⟨_, rfl, HPA.out.later HBA.out (Nat.le_refl _)⟩ H0.out).mono ?_
      rintro e Va9 ⟨rfl, hb⟩
      rw [HRv.out]
      have HZ := Lib.hid hb
      clear hb
      clear cb150 cb151
      have Gb15 := Lib.hid (Hb15.out.below HZ.out Hb15.out.lt)
      have Gb16 := Lib.hid (Hb16.out.below HZ.out Hb16.out.lt)
      have Gb19 := Lib.hid (Hb19.out.below HZ.out Hb19.out.lt)
      have Gb21 := Lib.hid (Hb21.out.below HZ.out Hb21.out.lt)
      have Gb23 := Lib.hid (Hb23.out.below HZ.out Hb23.out.lt)
      have GHBP := Lib.hid (HBP.out.trans (HZ.out.mono HBP.out.size))
      have GHBA := Lib.hid (HBA.out.trans (HZ.out.mono HBA.out.size))
      clear Hb15 Hb16 Hb19 Hb21 Hb23 HBP HBA HZ
      have Hb15 := Gb15
      have Hb16 := Gb16
      have Hb19 := Gb19
      have Hb21 := Gb21
      have Hb23 := Gb23
      have HBP := GHBP
      have HBA := GHBA
      clear Gb15 Gb16 Gb19 Gb21 Gb23 GHBP GHBA
      go_upto_region 12 with (fail)
      obtain ⟨Va10, hV⟩ : ∃ V, Va9.alloc (.cells #[.int .i64 R1, .int .i64 R2] 23) = V := ⟨_, rfl⟩
      have hz : Below Va9.heap.size Va9 Va10 := by rw [← hV]; exact (Below.refl _ _).alloc (Nat.le_refl _) _
      have hnew : Blk Va10 Va9.heap.size 23 #[.int .i64 R1, .int .i64 R2] := by rw [← hV]; exact Blk.new' _ _ _ rfl
      have hgn := HBP.out.size
      have hga := HBA.out.size
      have lb15 := Hb15.out.lt
      have lb16 := Hb16.out.lt
      have lb19 := Hb19.out.lt
      have lb21 := Hb21.out.lt
      have lb23 := Hb23.out.lt
      rw [hV]
      obtain ⟨b25, hbx⟩ : ∃ b, Va9.heap.size = b := ⟨_, rfl⟩
      rw [hbx] at hnew hgn hga lb15 lb16 lb19 lb21 lb23 ⊢
      have gb25 := hgn
      have HZ := Lib.hid hz
      have gab25 := hga
      clear hga
      have nb15b25 : ¬ b15 = b25 := by omega
      have nb25b15 : ¬ b25 = b15 := by omega
      have nb16b25 : ¬ b16 = b25 := by omega
      have nb25b16 : ¬ b25 = b16 := by omega
      have nb19b25 : ¬ b19 = b25 := by omega
      have nb25b19 : ¬ b25 = b19 := by omega
      have nb21b25 : ¬ b21 = b25 := by omega
      have nb25b21 : ¬ b25 = b21 := by omega
      have nb23b25 : ¬ b23 = b25 := by omega
      have nb25b23 : ¬ b25 = b23 := by omega
      clear hV hz hgn hbx lb15 lb16 lb19 lb21 lb23
      have Gb15 := Lib.hid (Hb15.out.below HZ.out Hb15.out.lt)
      have Gb16 := Lib.hid (Hb16.out.below HZ.out Hb16.out.lt)
      have Gb19 := Lib.hid (Hb19.out.below HZ.out Hb19.out.lt)
      have Gb21 := Lib.hid (Hb21.out.below HZ.out Hb21.out.lt)
      have Gb23 := Lib.hid (Hb23.out.below HZ.out Hb23.out.lt)
      have GHBP := Lib.hid (HBP.out.trans (HZ.out.mono HBP.out.size))
      have GHBA := Lib.hid (HBA.out.trans (HZ.out.mono HBA.out.size))
      clear Hb15 Hb16 Hb19 Hb21 Hb23 HBP HBA HZ
      have Hb15 := Gb15
      have Hb16 := Gb16
      have Hb19 := Gb19
      have Hb21 := Gb21
      have Hb23 := Gb23
      have HBP := GHBP
      have HBA := GHBA
      clear Gb15 Gb16 Gb19 Gb21 Gb23 GHBP GHBA
      have Hb25 := Lib.hid hnew
      clear hnew
      have cb190 : Va10.cell? ⟨b19, 0, none⟩ = some (.int .i64 L1) := Hb19.out.cell 0
      have cb191 : Va10.cell? ⟨b19, 1, none⟩ = some (.int .i64 L2) := Hb19.out.cell 1
      have cb250 : Va10.cell? ⟨b25, 0, none⟩ = some (.int .i64 R1) := Hb25.out.cell 0
      have cb251 : Va10.cell? ⟨b25, 1, none⟩ = some (.int .i64 R2) := Hb25.out.cell 1
      have cb210 : Va10.cell? ⟨b21, 0, none⟩ = some (.int .i64 (P1)) := Hb21.out.cell 0
      have cb211 : Va10.cell? ⟨b21, 1, none⟩ = some (.int .i64 (P2)) := Hb21.out.cell 1
      have cb230 : Va10.cell? ⟨b23, 0, none⟩ = some (.int .i64 (O1)) := Hb23.out.cell 0
      have cb231 : Va10.cell? ⟨b23, 1, none⟩ = some (.int .i64 (O2)) := Hb23.out.cell 1
      go_wp2_with fail
      refine (lwithin2_any L1 L2 R1 R2 _).mono ?_
      rintro e Va11 ⟨rfl, hb⟩
      rw [HK1.out]
      have HZ := Lib.hid hb
      clear hb
      clear cb190 cb191 cb250 cb251 cb210 cb211 cb230 cb231
      have Gb15 := Lib.hid (Hb15.out.below HZ.out Hb15.out.lt)
      have Gb16 := Lib.hid (Hb16.out.below HZ.out Hb16.out.lt)
      have Gb19 := Lib.hid (Hb19.out.below HZ.out Hb19.out.lt)
      have Gb21 := Lib.hid (Hb21.out.below HZ.out Hb21.out.lt)
      have Gb23 := Lib.hid (Hb23.out.below HZ.out Hb23.out.lt)
      have Gb25 := Lib.hid (Hb25.out.below HZ.out Hb25.out.lt)
      have GHBP := Lib.hid (HBP.out.trans (HZ.out.mono HBP.out.size))
      have GHBA := Lib.hid (HBA.out.trans (HZ.out.mono HBA.out.size))
      clear Hb15 Hb16 Hb19 Hb21 Hb23 Hb25 HBP HBA HZ
      have Hb15 := Gb15
      have Hb16 := Gb16
      have Hb19 := Gb19
      have Hb21 := Gb21
      have Hb23 := Gb23
      have Hb25 := Gb25
      have HBP := GHBP
      have HBA := GHBA
      clear Gb15 Gb16 Gb19 Gb21 Gb23 Gb25 GHBP GHBA
      have cb190 : Va11.cell? ⟨b19, 0, none⟩ = some (.int .i64 L1) := Hb19.out.cell 0
      have cb191 : Va11.cell? ⟨b19, 1, none⟩ = some (.int .i64 L2) := Hb19.out.cell 1
      have cb250 : Va11.cell? ⟨b25, 0, none⟩ = some (.int .i64 R1) := Hb25.out.cell 0
      have cb251 : Va11.cell? ⟨b25, 1, none⟩ = some (.int .i64 R2) := Hb25.out.cell 1
      have cb210 : Va11.cell? ⟨b21, 0, none⟩ = some (.int .i64 (P1)) := Hb21.out.cell 0
      have cb211 : Va11.cell? ⟨b21, 1, none⟩ = some (.int .i64 (P2)) := Hb21.out.cell 1
      have cb230 : Va11.cell? ⟨b23, 0, none⟩ = some (.int .i64 (O1)) := Hb23.out.cell 0
      have cb231 : Va11.cell? ⟨b23, 1, none⟩ = some (.int .i64 (O2)) := Hb23.out.cell 1
      go_wp2_with fail
      refine (lwithin2_any P1 P2 L1 L2 _).mono ?_
      rintro e Va12 ⟨rfl, hb⟩
      rw [HK2.out]
      have HZ := Lib.hid hb
      clear hb
      clear cb190 cb191 cb250 cb251 cb210 cb211 cb230 cb231
      have Gb15 := Lib.hid (Hb15.out.below HZ.out Hb15.out.lt)
      have Gb16 := Lib.hid (Hb16.out.below HZ.out Hb16.out.lt)
      have Gb19 := Lib.hid (Hb19.out.below HZ.out Hb19.out.lt)
      have Gb21 := Lib.hid (Hb21.out.below HZ.out Hb21.out.lt)
      have Gb23 := Lib.hid (Hb23.out.below HZ.out Hb23.out.lt)
      have Gb25 := Lib.hid (Hb25.out.below HZ.out Hb25.out.lt)
      have GHBP := Lib.hid (HBP.out.trans (HZ.out.mono HBP.out.size))
      have GHBA := Lib.hid (HBA.out.trans (HZ.out.mono HBA.out.size))
      clear Hb15 Hb16 Hb19 Hb21 Hb23 Hb25 HBP HBA HZ
      have Hb15 := Gb15
      have Hb16 := Gb16
      have Hb19 := Gb19
      have Hb21 := Gb21
      have Hb23 := Gb23
      have Hb25 := Gb25
      have HBP := GHBP
      have HBA := GHBA
      clear Gb15 Gb16 Gb19 Gb21 Gb23 Gb25 GHBP GHBA
      have cb190 : Va12.cell? ⟨b19, 0, none⟩ = some (.int .i64 L1) := Hb19.out.cell 0
      have cb191 : Va12.cell? ⟨b19, 1, none⟩ = some (.int .i64 L2) := Hb19.out.cell 1
      have cb250 : Va12.cell? ⟨b25, 0, none⟩ = some (.int .i64 R1) := Hb25.out.cell 0
      have cb251 : Va12.cell? ⟨b25, 1, none⟩ = some (.int .i64 R2) := Hb25.out.cell 1
      have cb210 : Va12.cell? ⟨b21, 0, none⟩ = some (.int .i64 (P1)) := Hb21.out.cell 0
      have cb211 : Va12.cell? ⟨b21, 1, none⟩ = some (.int .i64 (P2)) := Hb21.out.cell 1
      have cb230 : Va12.cell? ⟨b23, 0, none⟩ = some (.int .i64 (O1)) := Hb23.out.cell 0
      have cb231 : Va12.cell? ⟨b23, 1, none⟩ = some (.int .i64 (O2)) := Hb23.out.cell 1
      go_wp2_with fail
      refine (lwithin2_any O1 O2 P1 P2 _).mono ?_
      rintro e Va13 ⟨rfl, hb⟩
      rw [HK3.out]
      have HZ := Lib.hid hb
      clear hb
      clear cb190 cb191 cb250 cb251 cb210 cb211 cb230 cb231
      have Gb15 := Lib.hid (Hb15.out.below HZ.out Hb15.out.lt)
      have Gb16 := Lib.hid (Hb16.out.below HZ.out Hb16.out.lt)
      have Gb19 := Lib.hid (Hb19.out.below HZ.out Hb19.out.lt)
      have Gb21 := Lib.hid (Hb21.out.below HZ.out Hb21.out.lt)
      have Gb23 := Lib.hid (Hb23.out.below HZ.out Hb23.out.lt)
      have Gb25 := Lib.hid (Hb25.out.below HZ.out Hb25.out.lt)
      have GHBP := Lib.hid (HBP.out.trans (HZ.out.mono HBP.out.size))
      have GHBA := Lib.hid (HBA.out.trans (HZ.out.mono HBA.out.size))
      clear Hb15 Hb16 Hb19 Hb21 Hb23 Hb25 HBP HBA HZ
      have Hb15 := Gb15
      have Hb16 := Gb16
      have Hb19 := Gb19
      have Hb21 := Gb21
      have Hb23 := Gb23
      have Hb25 := Gb25
      have HBP := GHBP
      have HBA := GHBA
      clear Gb15 Gb16 Gb19 Gb21 Gb23 Gb25 GHBP GHBA
      have cb150 : Va13.cell? ⟨b15, 0, none⟩ = some (.int .i64 M) := Hb15.out.cell 0
      have cb151 : Va13.cell? ⟨b15, 1, none⟩ = some (.slice A l.length c) := Hb15.out.cell 1
      go_wp2_with fail
      go_loopw [27, 134] (fun u j wr => ∃ (k : Nat) (S : Int), k ≤ l.length ∧ u = .int .i64 (2 + S) ∧ j = .int .i64 k ∧ Hid (S = sumF (fun p => 1 + p.1 * 120 / 65536) (ps.take k)) ∧ 0 ≤ S ∧ S ≤ 3 * k ∧ Hid (Below Va13.heap.size Va13 wr)) (fun _ j _ => l.length - (intOf j).toNat)
      case atStart => exact ⟨0, 0, by omega, rfl, rfl, rfl, by omega, by omega, Below.refl _ _⟩
      case round =>
        clear cb150 cb151
        obtain ⟨k, S, hk, rfl, rfl, HS, s0, s1, HZ⟩ := hrel
        have HLP := HZ
        have Gb15 := Lib.hid (Hb15.out.below HZ.out Hb15.out.lt)
        have Gb16 := Lib.hid (Hb16.out.below HZ.out Hb16.out.lt)
        have Gb19 := Lib.hid (Hb19.out.below HZ.out Hb19.out.lt)
        have Gb21 := Lib.hid (Hb21.out.below HZ.out Hb21.out.lt)
        have Gb23 := Lib.hid (Hb23.out.below HZ.out Hb23.out.lt)
        have Gb25 := Lib.hid (Hb25.out.below HZ.out Hb25.out.lt)
        have GHBP := Lib.hid (HBP.out.trans (HZ.out.mono HBP.out.size))
        have GHBA := Lib.hid (HBA.out.trans (HZ.out.mono HBA.out.size))
        clear Hb15 Hb16 Hb19 Hb21 Hb23 Hb25 HBP HBA HZ
        have Hb15 := Gb15
        have Hb16 := Gb16
        have Hb19 := Gb19
        have Hb21 := Gb21
        have Hb23 := Gb23
        have Hb25 := Gb25
        have HBP := GHBP
        have HBA := GHBA
        clear Gb15 Gb16 Gb19 Gb21 Gb23 Gb25 GHBP GHBA
        by_cases hlt : k < l.length
        rotate_left
        · obtain rfl : k = l.length := by omega
          have ht : ps.take l.length = ps := by rw [← HN.out, List.take_length]
          rw [ht] at HS
          clear ht
          have hw : ¬ 2 + S < O2 - O1 := by have h := HE6.out; rw [← HS.out] at h; omega
          obtain ⟨e7, e8, e9, e10, e11, e12⟩ := HEE.out
          have HD2 := HDD.out
          have HD3 := HDe.out
          have HQ4 := HQ3.out
          have HQ5 : D / 200 = dv := by rw [← HQ4]; exact (Int.tdiv_eq_ediv_of_nonneg (by omega)).symm
          by_cases hmx : 1 + st < dv + 1
          all_goals
            first
              | rw [if_pos hmx] at HD2
              | rw [if_neg hmx] at HD2
            have cb160 : wr.cell? ⟨b16, 0, none⟩ = some (.int .i64 lo) := Hb16.out.cell 0
            have cb161 : wr.cell? ⟨b16, 1, none⟩ = some (.int .i64 hi) := Hb16.out.cell 1
            have cb230 : wr.cell? ⟨b23, 0, none⟩ = some (.int .i64 (O1)) := Hb23.out.cell 0
            have cb231 : wr.cell? ⟨b23, 1, none⟩ = some (.int .i64 (O2)) := Hb23.out.cell 1
            have cb150 : wr.cell? ⟨b15, 0, none⟩ = some (.int .i64 M) := Hb15.out.cell 0
            have cb151 : wr.cell? ⟨b15, 1, none⟩ = some (.slice A l.length c) := Hb15.out.cell 1
            go_wp2_with fail
            refine (peak_ok _ ⟨M, ps⟩ lo hi d _ ⟨_, rfl, HPA.out.later HBA.out (Nat.le_refl _)⟩ H0.out ⟨by omega, by omega, by omega⟩ ⟨by omega, by omega⟩ e7).mono ?_
            rintro e Vp ⟨rfl, hb⟩
            rw [HKv.out]
            have HZ := Lib.hid hb
            clear hb
            clear cb160 cb161 cb230 cb231 cb150 cb151
            have Gb15 := Lib.hid (Hb15.out.below HZ.out Hb15.out.lt)
            have Gb16 := Lib.hid (Hb16.out.below HZ.out Hb16.out.lt)
            have Gb19 := Lib.hid (Hb19.out.below HZ.out Hb19.out.lt)
            have Gb21 := Lib.hid (Hb21.out.below HZ.out Hb21.out.lt)
            have Gb23 := Lib.hid (Hb23.out.below HZ.out Hb23.out.lt)
            have Gb25 := Lib.hid (Hb25.out.below HZ.out Hb25.out.lt)
            have GHBP := Lib.hid (HBP.out.trans (HZ.out.mono HBP.out.size))
            have GHBA := Lib.hid (HBA.out.trans (HZ.out.mono HBA.out.size))
            clear Hb15 Hb16 Hb19 Hb21 Hb23 Hb25 HBP HBA HZ
            have Hb15 := Gb15
            have Hb16 := Gb16
            have Hb19 := Gb19
            have Hb21 := Gb21
            have Hb23 := Gb23
            have Hb25 := Gb25
            have HBP := GHBP
            have HBA := GHBA
            clear Gb15 Gb16 Gb19 Gb21 Gb23 Gb25 GHBP GHBA
            go_upto_region 24 with (fail)
            obtain ⟨Va15, hV⟩ : ∃ V, Vp.alloc (.cells #[.int .i64 K1, .int .i64 K2] 23) = V := ⟨_, rfl⟩
            have hz : Below Vp.heap.size Vp Va15 := by rw [← hV]; exact (Below.refl _ _).alloc (Nat.le_refl _) _
            have hnew : Blk Va15 Vp.heap.size 23 #[.int .i64 K1, .int .i64 K2] := by rw [← hV]; exact Blk.new' _ _ _ rfl
            have hgn := HBP.out.size
            have hga := HBA.out.size
            have lb15 := Hb15.out.lt
            have lb16 := Hb16.out.lt
            have lb19 := Hb19.out.lt
            have lb21 := Hb21.out.lt
            have lb23 := Hb23.out.lt
            have lb25 := Hb25.out.lt
            rw [hV]
            obtain ⟨b31, hbx⟩ : ∃ b, Vp.heap.size = b := ⟨_, rfl⟩
            rw [hbx] at hnew hgn hga lb15 lb16 lb19 lb21 lb23 lb25 ⊢
            have gb31 := hgn
            have HZ := Lib.hid hz
            have gab31 := hga
            clear hga
            have nb15b31 : ¬ b15 = b31 := by omega
            have nb31b15 : ¬ b31 = b15 := by omega
            have nb16b31 : ¬ b16 = b31 := by omega
            have nb31b16 : ¬ b31 = b16 := by omega
            have nb19b31 : ¬ b19 = b31 := by omega
            have nb31b19 : ¬ b31 = b19 := by omega
            have nb21b31 : ¬ b21 = b31 := by omega
            have nb31b21 : ¬ b31 = b21 := by omega
            have nb23b31 : ¬ b23 = b31 := by omega
            have nb31b23 : ¬ b31 = b23 := by omega
            have nb25b31 : ¬ b25 = b31 := by omega
            have nb31b25 : ¬ b31 = b25 := by omega
            clear hV hz hgn hbx lb15 lb16 lb19 lb21 lb23 lb25
            have Gb15 := Lib.hid (Hb15.out.below HZ.out Hb15.out.lt)
            have Gb16 := Lib.hid (Hb16.out.below HZ.out Hb16.out.lt)
            have Gb19 := Lib.hid (Hb19.out.below HZ.out Hb19.out.lt)
            have Gb21 := Lib.hid (Hb21.out.below HZ.out Hb21.out.lt)
            have Gb23 := Lib.hid (Hb23.out.below HZ.out Hb23.out.lt)
            have Gb25 := Lib.hid (Hb25.out.below HZ.out Hb25.out.lt)
            have GHBP := Lib.hid (HBP.out.trans (HZ.out.mono HBP.out.size))
            have GHBA := Lib.hid (HBA.out.trans (HZ.out.mono HBA.out.size))
            clear Hb15 Hb16 Hb19 Hb21 Hb23 Hb25 HBP HBA HZ
            have Hb15 := Gb15
            have Hb16 := Gb16
            have Hb19 := Gb19
            have Hb21 := Gb21
            have Hb23 := Gb23
            have Hb25 := Gb25
            have HBP := GHBP
            have HBA := GHBA
            clear Gb15 Gb16 Gb19 Gb21 Gb23 Gb25 GHBP GHBA
            have Hb31 := Lib.hid hnew
            clear hnew
            have cb310 : Va15.cell? ⟨b31, 0, none⟩ = some (.int .i64 K1) := Hb31.out.cell 0
            have cb311 : Va15.cell? ⟨b31, 1, none⟩ = some (.int .i64 K2) := Hb31.out.cell 1
            have cb190 : Va15.cell? ⟨b19, 0, none⟩ = some (.int .i64 L1) := Hb19.out.cell 0
            have cb191 : Va15.cell? ⟨b19, 1, none⟩ = some (.int .i64 L2) := Hb19.out.cell 1
            have cb230 : Va15.cell? ⟨b23, 0, none⟩ = some (.int .i64 (O1)) := Hb23.out.cell 0
            have cb231 : Va15.cell? ⟨b23, 1, none⟩ = some (.int .i64 (O2)) := Hb23.out.cell 1
            have cb210 : Va15.cell? ⟨b21, 0, none⟩ = some (.int .i64 (P1)) := Hb21.out.cell 0
            have cb211 : Va15.cell? ⟨b21, 1, none⟩ = some (.int .i64 (P2)) := Hb21.out.cell 1
            go_wp2_with fail
            refine (works2_any _).mono ?_
            rintro e Va16 ⟨rfl, hb⟩
            have HZ := Lib.hid hb
            clear hb
            clear cb310 cb311 cb190 cb191 cb230 cb231 cb210 cb211
            have Gb15 := Lib.hid (Hb15.out.below HZ.out Hb15.out.lt)
            have Gb16 := Lib.hid (Hb16.out.below HZ.out Hb16.out.lt)
            have Gb19 := Lib.hid (Hb19.out.below HZ.out Hb19.out.lt)
            have Gb21 := Lib.hid (Hb21.out.below HZ.out Hb21.out.lt)
            have Gb23 := Lib.hid (Hb23.out.below HZ.out Hb23.out.lt)
            have Gb25 := Lib.hid (Hb25.out.below HZ.out Hb25.out.lt)
            have Gb31 := Lib.hid (Hb31.out.below HZ.out Hb31.out.lt)
            have GHBP := Lib.hid (HBP.out.trans (HZ.out.mono HBP.out.size))
            have GHBA := Lib.hid (HBA.out.trans (HZ.out.mono HBA.out.size))
            clear Hb15 Hb16 Hb19 Hb21 Hb23 Hb25 Hb31 HBP HBA HZ
            have Hb15 := Gb15
            have Hb16 := Gb16
            have Hb19 := Gb19
            have Hb21 := Gb21
            have Hb23 := Gb23
            have Hb25 := Gb25
            have Hb31 := Gb31
            have HBP := GHBP
            have HBA := GHBA
            clear Gb15 Gb16 Gb19 Gb21 Gb23 Gb25 Gb31 GHBP GHBA
            have HBE := HBP.out
            go_wp2
            go_ret
            exact ⟨rfl, HBE⟩
        · have hk0 : (0 : Int) ≤ (k : Int) := by omega
          have hk1 : (k : Int) < (l.length : Int) := by omega
          have hkp : k < ps.length := by rw [HN.out]; exact hlt
          obtain ⟨b, o, rfl, hb, f0, f1, f2⟩ := (HPA.out.below HBA.out).at_ hkp
          have hp := part_of (List.all_eq_true.1 HALL.out ps[k] (List.getElem_mem hkp))
          have HN1 := Lib.hid (sumF_take (fun p => 1 + p.1 * 120 / 65536) ps k hkp)
          generalize ps[k] = p at *
          obtain ⟨am, pe, ph⟩ := p
          simp only at f0 f1 f2 hp HN1
          obtain ⟨p0, p1, -⟩ := hp
          have x1 : IntKind.i64.wrap (am * 120) = am * 120 := IntWalk.i64_in _ (by omega)
          have x2 : (am * 120).tdiv 65536 = am * 120 / 65536 := Int.tdiv_eq_ediv_of_nonneg (by omega)
          obtain ⟨q, hq⟩ : ∃ q, am * 120 / 65536 = q := ⟨_, rfl⟩
          have hq1 : 0 ≤ q ∧ q ≤ 2 := by omega
          rw [hq] at x2 HN1
          have hbl : b < wr.heap.size := by have := HBA.out.size; omega
          have HZ2 : Hid (Below Va13.heap.size Va13 (wr.alloc (.cells #[.int .i64 am, .int .i64 pe, .int .i64 ph] 70))) := HLP.out.alloc HLP.out.size _
          go_wp2
          go_roundw
          case rel => exact ⟨k + 1, S + (1 + q), by omega, by go_num, by go_num, by rw [HN1.out, HS.out]; rfl, by omega, by omega, HZ2.out⟩
          case measure => simp [intOf]; omega
end Go.Proofs.Ytfblpokjbopagaa
/-
  TideInside is a row of the program.
-/
namespace Go.Proofs.Ytfblpokjbopagaa.TideInside
open Go.ChangeShapes Go.WideShapes Go.ChangeAt Go.WideMaps Go.WideElems Go.RowKit

set_option maxRecDepth 100000 in
theorem lifted (os : Os) (started : os.Started) (H : Type) (enc : TypeId × Value → H) :
    ReturnsInHanded {} Try.checked os 8 .any (Rows.tideInsideSpec.pre6 enc Try.prog Try.f8 Rows.tideInsideRow.domain false) (Rows.tideInsideSpec.post enc Try.prog Try.f8 false true false false) := by
  refine returnsInHanded_of_change (C := Try.checked) own_ started (by kernel_rfl) Try.func8
    (ChangeSpec.witness6 (enc := enc) (C := Try.checked) false ⟨#[], #[.int .i16 0, .slice none 0 0, .int .u32 0, .int .u32 0, .int .u32 0, .int .u32 0, .int .u32 0], []⟩ 8 (by kernel_rfl) (by kernel_rfl) (by kernel_rfl) (by kernel_rfl)) ?_
  intro W base args ds gs before hval0 hW hcnd _
  have hval : ∀ (j : Nat) t v, Try.f8.params[j]? = some t → args[j]? = some v → Value.okWide Try.prog W .any base t v := hval0
  have hW' := hW
  obtain ⟨p, q, hA0, hV, rfl, hfz, hnd⟩ := hW
  have hA : DataW.TrodAll enc Try.prog W 0 (fun _ => true) true Try.f8.params.toList args.toList ds p := hA0
  rw [Try.params8] at hA hval
  obtain ⟨v0, vs0, d0, ds0, p0, q0, hargs, rfl, rfl, h0, r0⟩ := trodAll_cons hA
  obtain ⟨v1, vs1, d1, ds1, p1, q1, rfl, rfl, rfl, h1, r1⟩ := trodAll_cons r0
  obtain ⟨v2, vs2, d2, ds2, p2, q2, rfl, rfl, rfl, h2, r2⟩ := trodAll_cons r1
  obtain ⟨v3, vs3, d3, ds3, p3, q3, rfl, rfl, rfl, h3, r3⟩ := trodAll_cons r2
  obtain ⟨v4, vs4, d4, ds4, p4, q4, rfl, rfl, rfl, h4, r4⟩ := trodAll_cons r3
  obtain ⟨v5, vs5, d5, ds5, p5, q5, rfl, rfl, rfl, h5, r5⟩ := trodAll_cons r4
  obtain ⟨v6, vs6, d6, ds6, p6, q6, rfl, rfl, rfl, h6, r6⟩ := trodAll_cons r5
  obtain ⟨rfl, rfl, rfl⟩ := trodAll_nil r6
  obtain rfl : args = #[v0, v1, v2, v3, v4, v5, v6] := by cases args; simp_all
  obtain ⟨rfl, rfl⟩ := trodVars_none hV
  obtain ⟨a0, rfl, _, _, w0⟩ := open_int Try.underlying65 (hval 0 65 v0 rfl rfl) h0
  have w0 := wf_i16 w0
  obtain ⟨l1, hl1, hr1⟩ := trips_open (hval 1 66 v1 rfl rfl) h1
  obtain ⟨a2, rfl, _, _, w2⟩ := open_int Try.underlying67 (hval 2 67 v2 rfl rfl) h2
  have w2 := wf_u32 w2
  obtain ⟨a3, rfl, _, _, w3⟩ := open_int Try.underlying67 (hval 3 67 v3 rfl rfl) h3
  have w3 := wf_u32 w3
  obtain ⟨a4, rfl, _, _, w4⟩ := open_int Try.underlying67 (hval 4 67 v4 rfl rfl) h4
  have w4 := wf_u32 w4
  obtain ⟨a5, rfl, _, _, w5⟩ := open_int Try.underlying67 (hval 5 67 v5 rfl rfl) h5
  have w5 := wf_u32 w5
  obtain ⟨a6, rfl, _, _, w6⟩ := open_int Try.underlying67 (hval 6 67 v6 rfl rfl) h6
  have w6 := wf_u32 w6
  clear hA0 hval0
  simp only [List.append_nil] at hW'
  have hlt : ∀ x ∈ p0 ++ p1 ++ p2 ++ p3 ++ p4 ++ p5 ++ p6, x.block < W.heap.size := fun x hx => by simpa using hW'.lt x (by simpa using hx)
  have k0 : ∀ x ∈ p0, x.block < W.heap.size := fun x hx => hlt x (by simp [hx])
  have k1 : ∀ x ∈ p1, x.block < W.heap.size := fun x hx => hlt x (by simp [hx])
  have k2 : ∀ x ∈ p2, x.block < W.heap.size := fun x hx => hlt x (by simp [hx])
  have k3 : ∀ x ∈ p3, x.block < W.heap.size := fun x hx => hlt x (by simp [hx])
  have k4 : ∀ x ∈ p4, x.block < W.heap.size := fun x hx => hlt x (by simp [hx])
  have k5 : ∀ x ∈ p5, x.block < W.heap.size := fun x hx => hlt x (by simp [hx])
  have k6 : ∀ x ∈ p6, x.block < W.heap.size := fun x hx => hlt x (by simp [hx])
  refine (TideInside_any a0 a2 a3 a4 a5 a6 v1 l1 W hl1 hr1 w0 w2 w3 w4 w5 w6).mono ?_
  rintro e W' ⟨rfl, bel⟩
  refine ⟨_, rfl, _, _, _, [], (p0 ++ (p1 ++ (p2 ++ (p3 ++ (p4 ++ (p5 ++ (p6 ++ []))))))), [], hW', ?_, ?_, ?_, bel.frame _, fun h => by cases h⟩
  · exact trodAll_mk1 (shut_bool Try.underlying4 true)
  · exact (trodAll_cons_mk (Below.trod laid_out (by kernel_rfl) (of_decide_eq_true (by kernel_rfl)) h0 bel k0) (trodAll_cons_mk (Below.trod laid_out (by kernel_rfl) (of_decide_eq_true (by kernel_rfl)) h1 bel k1) (trodAll_cons_mk (Below.trod laid_out (by kernel_rfl) (of_decide_eq_true (by kernel_rfl)) h2 bel k2) (trodAll_cons_mk (Below.trod laid_out (by kernel_rfl) (of_decide_eq_true (by kernel_rfl)) h3 bel k3) (trodAll_cons_mk (Below.trod laid_out (by kernel_rfl) (of_decide_eq_true (by kernel_rfl)) h4 bel k4) (trodAll_cons_mk (Below.trod laid_out (by kernel_rfl) (of_decide_eq_true (by kernel_rfl)) h5 bel k5) (trodAll_cons_mk (Below.trod laid_out (by kernel_rfl) (of_decide_eq_true (by kernel_rfl)) h6 bel k6) trodAll_mk0)))))))
  · rfl
set_option maxRecDepth 100000 in
theorem over : Rows.tideInsideRow.holds Try.pinned (OpenSpec.ofChange Rows.tideInsideSpec) :=
  OpenClaim.holds_of_wide 8 Try.f8 rfl rfl rfl rfl rfl rfl rfl ⟨rfl, rfl, rfl, rfl, rfl⟩ rfl rfl rfl rfl rfl (by kernel_rfl) Try.func8 (by kernel_rfl)
    (of_decide_eq_true (by kernel_rfl)) (by unfold Func.isWrapper; first | (rw [if_pos (by decide +kernel)]; kernel_rfl) | (rw [if_neg (by decide +kernel)]; exact ⟨rfl, rfl⟩))
    (fun os started H enc _ => lifted os started H enc)
end Go.Proofs.Ytfblpokjbopagaa.TideInside
namespace Go.Proofs.Ytfblpokjbopagaa
theorem TideInside_row : Rows.TideInsideSaid := TideInside.over
#print axioms TideInside_row
end Go.Proofs.Ytfblpokjbopagaa
