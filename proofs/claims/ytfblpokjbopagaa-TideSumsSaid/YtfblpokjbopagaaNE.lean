/-
  TideSums returns true.
-/
import Derived.Test.YtfblpokjbopagaaMS
import Derived.Test.YtfblpokjbopagaaMT
set_option linter.unusedSimpArgs false
set_option linter.unusedVariables false
namespace Go.Proofs.Ytfblpokjbopagaa
open Go.RowKit

def osu19_0 : Oper := { dst := some 154, op := Op.move (Operand.tmp 17), type := 24, pos := "outright.go:192", after := #[], guard := none }
def osu19_1 : Oper := { dst := some 155, op := Op.binOp BinOp.eql 24 (Operand.tmp 154) (Operand.const (Value.int IntKind.i64 0)) 24, type := 4, pos := "outright.go:192", after := #[{ on := 0, ground := Ground.data }], guard := none }
def osu19_2 : Oper := { dst := some 156, op := Op.move (Operand.tmp 155), type := 4, pos := "outright.go:192", after := #[{ on := 1, ground := Ground.data }], guard := none }
def osu19_3 : Oper := { dst := some 157, op := Op.load 23 (Operand.tmp 28), type := 23, pos := "outright.go:192", after := #[{ on := 2, ground := Ground.guard }], guard := some (2, true) }
def osu19_4 : Oper := { dst := some 158, op := Op.fieldAddr 35 (Operand.tmp 13) 0, type := 0, pos := "outright.go:192", after := #[{ on := 2, ground := Ground.guard }], guard := some (2, true) }
def osu19_5 : Oper := { dst := some 159, op := Op.load 3 (Operand.tmp 158), type := 3, pos := "outright.go:192", after := #[{ on := 4, ground := Ground.data }, { on := 2, ground := Ground.guard }], guard := some (2, true) }
def osu19_6 : Oper := { dst := some 160, op := Op.fieldAddr 35 (Operand.tmp 13) 0, type := 0, pos := "outright.go:192", after := #[{ on := 2, ground := Ground.guard }], guard := some (2, true) }
def osu19_7 : Oper := { dst := some 161, op := Op.load 3 (Operand.tmp 160), type := 3, pos := "outright.go:192", after := #[{ on := 6, ground := Ground.data }, { on := 2, ground := Ground.guard }], guard := some (2, true) }
def osu19_8 : Oper := { dst := some 162, op := Op.call { callee := Callee.value (Operand.func 30), args := #[Operand.tmp 159, Operand.tmp 161], argTypes := #[3, 3] }, type := 23, pos := "outright.go:192", after := #[{ on := 5, ground := Ground.data }, { on := 7, ground := Ground.data }, { on := 2, ground := Ground.chain }, { on := 2, ground := Ground.guard }], guard := some (2, true) }
def osu19_9 : Oper := { dst := some 163, op := Op.binOp BinOp.eql 23 (Operand.tmp 157) (Operand.tmp 162) 23, type := 4, pos := "outright.go:192", after := #[{ on := 3, ground := Ground.data }, { on := 8, ground := Ground.data }, { on := 2, ground := Ground.guard }], guard := some (2, true) }
def osu19_10 : Oper := { dst := some 164, op := Op.pick (Operand.tmp 156) (Operand.tmp 163) (Operand.const (Value.bool false)), type := 4, pos := "outright.go:192", after := #[{ on := 2, ground := Ground.data }, { on := 9, ground := Ground.data }], guard := none }
def osu19_11 : Oper := { dst := some 165, op := Op.move (Operand.tmp 164), type := 4, pos := "outright.go:192", after := #[{ on := 10, ground := Ground.data }, { on := 8, ground := Ground.chain }], guard := none }
def osu19_12 : Oper := { dst := some 166, op := Op.call { callee := Callee.value (Operand.func 13), args := #[], argTypes := #[] }, type := 4, pos := "outright.go:192", after := #[{ on := 11, ground := Ground.chain }, { on := 11, ground := Ground.guard }], guard := some (11, true) }
def osu19_13 : Oper := { dst := some 167, op := Op.pick (Operand.tmp 165) (Operand.tmp 166) (Operand.const (Value.bool false)), type := 4, pos := "outright.go:192", after := #[{ on := 11, ground := Ground.data }, { on := 12, ground := Ground.data }], guard := none }
def osu19_14 : Oper := { dst := some 12, op := Op.assign (Operand.tmp 167), type := 4, pos := "outright.go:192", after := #[{ on := 13, ground := Ground.data }, { on := 12, ground := Ground.chain }, { on := 0, ground := Ground.phase }, { on := 1, ground := Ground.phase }, { on := 2, ground := Ground.phase }, { on := 3, ground := Ground.phase }, { on := 4, ground := Ground.phase }, { on := 5, ground := Ground.phase }, { on := 6, ground := Ground.phase }, { on := 7, ground := Ground.phase }, { on := 8, ground := Ground.phase }, { on := 9, ground := Ground.phase }, { on := 10, ground := Ground.phase }, { on := 11, ground := Ground.phase }, { on := 12, ground := Ground.phase }, { on := 13, ground := Ground.phase }], guard := none }

set_option maxRecDepth 100000 in
set_option maxHeartbeats 8000000 in
theorem TideSums_any (ma mb from_ long : Int) (va vb : Value) (la lb : List Prt) (w : World) (hva : TripsAt w w.heap.size va la) (hvb : TripsAt w w.heap.size vb lb) (hra : ∀ p, p ∈ la → u32Ok p) (hrb : ∀ p, p ∈ lb → u32Ok p)
    (hma : -32768 ≤ ma ∧ ma ≤ 32767) (hmb : -32768 ≤ mb ∧ mb ≤ 32767) (hfrom : 0 ≤ from_ ∧ from_ ≤ 4294967295) (hlong : 0 ≤ long ∧ long ≤ 4294967295) :
    Calls Try.prog 10 #[.int .i16 ma, .int .i16 mb, va, vb, .int .u32 from_, .int .u32 long] w fun e w' => e = .returned (.bool true) ∧ Below w.heap.size w w' := by
  obtain ⟨A0, c0, rfl, hc0, -⟩ := hva.open_
  obtain ⟨B0, d0, rfl, hd0, -⟩ := hvb.open_
  have HVA := Lib.hid hva
  have HVB := Lib.hid hvb
  have HRA := Lib.hid hra
  have HRB := Lib.hid hrb
  clear hva hvb hra hrb
  by_cases h8 : la.length ≤ 8
  rotate_left
  · have h8' : (8 : Int) < (la.length : Int) := by omega
    go_enter Try.func10, Try.ntmps10
    go_wp2_with fail
    refine (works2_any _).mono ?_
    rintro e w1 ⟨rfl, hb⟩
    go_wp2
    go_ret
    exact ⟨rfl, hb⟩
  have h8' : (la.length : Int) ≤ 8 := by omega
  by_cases h9 : lb.length ≤ 8
  rotate_left
  · have h9' : (8 : Int) < (lb.length : Int) := by omega
    go_enter Try.func10, Try.ntmps10
    go_wp2_with fail
    refine (works2_any _).mono ?_
    rintro e w1 ⟨rfl, hb⟩
    go_wp2
    go_ret
    exact ⟨rfl, hb⟩
  have h9' : (lb.length : Int) ≤ 8 := by omega
  have h0 := made_ok (mean := ma) (l := la) (by omega)
  have h1 := made_ok (mean := mb) (l := lb) (by omega)
  have hMa : madeZ ma la = ⟨ma.tmod 5000, la.map prtOf⟩ := rfl
  have hMb : madeZ mb lb = ⟨mb.tmod 5000, lb.map prtOf⟩ := rfl
  have r1 := Int.tmod_lt_of_pos ma (show (0 : Int) < 5000 by omega)
  have r2 := Int.lt_tmod_of_pos ma (show (0 : Int) < 5000 by omega)
  have r3 := Int.tmod_lt_of_pos mb (show (0 : Int) < 5000 by omega)
  have r4 := Int.lt_tmod_of_pos mb (show (0 : Int) < 5000 by omega)
  obtain ⟨Mx, hMx⟩ : ∃ z, ma.tmod 5000 = z := ⟨_, rfl⟩
  obtain ⟨My, hMy⟩ : ∃ z, mb.tmod 5000 = z := ⟨_, rfl⟩
  obtain ⟨px, hpx⟩ : ∃ z, la.map prtOf = z := ⟨_, rfl⟩
  obtain ⟨py, hpy⟩ : ∃ z, lb.map prtOf = z := ⟨_, rfl⟩
  have hlx : px.length = la.length := by rw [← hpx, List.length_map]
  have hly : py.length = lb.length := by rw [← hpy, List.length_map]
  rw [hMx, hpx] at hMa
  rw [hMy, hpy] at hMb
  rw [hMa] at h0
  rw [hMb] at h1
  rw [hMx] at r1 r2
  rw [hMy] at r3 r4
  have h2 : mdE (joinZ ⟨Mx, px⟩ ⟨My, py⟩) = 0 := by
    have h := joinE_eq h0 h1
    unfold joinE at h
    rw [if_pos h0, if_pos h1, if_pos (by simp only; omega), if_pos (by simp only; omega)] at h
    exact h
  have h3 : mdE (joinZ ⟨My, py⟩ ⟨Mx, px⟩) = 0 := by
    have h := joinE_eq h1 h0
    unfold joinE at h
    rw [if_pos h1, if_pos h0, if_pos (by simp only; omega), if_pos (by simp only; omega)] at h
    exact h
  have h4 : mdE ⟨Mx, []⟩ = 0 := by
    unfold mdE
    rw [if_pos (by simp only; omega), if_pos (by simp)]
    rfl
  have f1 := Int.tmod_lt_of_pos from_ (show (0 : Int) < 900000000 by omega)
  have f2 := Int.tmod_nonneg 900000000 hfrom.1
  have f3 := Int.tmod_lt_of_pos long (show (0 : Int) < 100000000 by omega)
  have f4 := Int.tmod_nonneg 100000000 hlong.1
  obtain ⟨lo, hlo⟩ : ∃ z, from_.tmod 900000000 = z := ⟨_, rfl⟩
  obtain ⟨ln, hln⟩ : ∃ z, long.tmod 100000000 = z := ⟨_, rfl⟩
  rw [hlo] at f1 f2
  rw [hln] at f3 f4
  obtain ⟨hi, hhi⟩ : ∃ z, lo + ln = z := ⟨_, rfl⟩
  have t1 : 0 ≤ lo := f2
  have t2 : lo ≤ hi := by omega
  have t3 : hi ≤ 1000000000 := by omega
  have e1 := level_sum ⟨Mx, px⟩ ⟨My, py⟩ (lo, hi)
  have e2 := level_join ⟨Mx, px⟩ ⟨My, py⟩ (lo, hi)
  have e3 := lev_bd h0 (t := (lo, hi)) t2
  have e4 := lev_bd h1 (t := (lo, hi)) t2
  have e5 := lev_bd h2 (t := (lo, hi)) t2
  have e6 := level_none Mx (lo, hi)
  obtain ⟨⟨P1, P2⟩, hP⟩ : ∃ z, levelZ ⟨Mx, px⟩ (lo, hi) = z := ⟨_, rfl⟩
  obtain ⟨⟨Q1, Q2⟩, hQ⟩ : ∃ z, levelZ ⟨My, py⟩ (lo, hi) = z := ⟨_, rfl⟩
  obtain ⟨⟨R1, R2⟩, hR⟩ : ∃ z, levelZ (joinZ ⟨Mx, px⟩ ⟨My, py⟩) (lo, hi) = z := ⟨_, rfl⟩
  have hS : levelZ (joinZ ⟨My, py⟩ ⟨Mx, px⟩) (lo, hi) = (R1, R2) := by
    rw [hR] at e2
    exact Prod.ext e2.1.symm e2.2.symm
  rw [hP, hQ, hR] at e1
  rw [hP] at e3
  rw [hQ] at e4
  rw [hR] at e5
  simp only at e1 e3 e4 e5
  obtain ⟨dd, hdd⟩ : ∃ z, R1 - (P1 + Q1) = z := ⟨_, rfl⟩
  obtain ⟨uu, huu⟩ : ∃ z, P2 + Q2 - R2 = z := ⟨_, rfl⟩
  have k1 : ¬ dd < 0 := by omega
  have k2 : ¬ 1 < dd := by omega
  have k3 : ¬ uu < 0 := by omega
  have k4 : ¬ 1 < uu := by omega
  have HP := Lib.hid hP
  have HQ := Lib.hid hQ
  have HRv := Lib.hid hR
  have HSv := Lib.hid hS
  have HNO := Lib.hid e6
  have H0 := Lib.hid h0
  have H1 := Lib.hid h1
  have H2 := Lib.hid h2
  have H3 := Lib.hid h3
  have H4 := Lib.hid h4
  have HMx := Lib.hid hMx
  have HMy := Lib.hid hMy
  have HPX := Lib.hid hpx
  have HPY := Lib.hid hpy
  have HLX := Lib.hid hlx
  have HLY := Lib.hid hly
  clear hP hQ hR hS e1 e2 e6 h0 h1 h2 h3 h4 hMx hMy hpx hpy hlx hly hMa hMb
  have w1 : IntKind.u32.wrap lo = lo := by rw [IntKind.wrap_u32]; omega
  have w2 : IntKind.u32.wrap ln = ln := by rw [IntKind.wrap_u32]; omega
  have w3 : IntKind.i64.wrap lo = lo := IntWalk.i64_in _ (by omega)
  have w4 : IntKind.i64.wrap ln = ln := IntWalk.i64_in _ (by omega)
  have HBP := Lib.hid (Below.refl w.heap.size w)
  have hp1 := span_stood
  have hp2 := span_guard
  go_enter Try.func10, Try.ntmps10
  go_wp2_with fail
  refine (made_any ma _ la _ HVA.out HRA.out (by omega) hma).mono ?_
  rintro e Va0 ⟨y, rfl, hown, hb⟩
  rw [HMx.out]
  rw [HPX.out, ← HLX.out] at hown
  have hP0 : PrtsAt Va0 Va0.heap.size y px := prts_own rfl hown
  have HSx := Lib.hid (sound_own hown)
  obtain ⟨A, c, rfl, -, -⟩ := hP0.open_
  rw [HLX.out] at hP0 HSx ⊢
  have HBP := Lib.hid hb
  go_wp2_with fail
  refine (made_any mb _ lb _ (Reads.later HVB.out hb (Nat.le_refl _)) HRB.out (by omega) hmb).mono ?_
  rintro e Vb0 ⟨y, rfl, hown2, hb2⟩
  rw [HMy.out]
  rw [HPY.out, ← HLY.out] at hown2
  have hP1 : PrtsAt Vb0 Vb0.heap.size y py := prts_own rfl hown2
  have HSy := Lib.hid (sound_own hown2)
  obtain ⟨B, d, rfl, -, -⟩ := hP1.open_
  rw [HLY.out] at hP1 HSy ⊢
  have HPA := Lib.hid (PrtsAt.later hP0 hb2 (Nat.le_refl _))
  have HPB := Lib.hid hP1
  have HBA := Lib.hid (Below.refl Vb0.heap.size Vb0)
  have HBQ := Lib.hid (HBP.out.trans (hb2.mono HBP.out.size))
  clear hown hb hP0 hown2 hb2 hP1 HBP
  have HBP := HBQ
  clear HBQ
  go_upto_region 4 with (fail)
  obtain ⟨Vc, hV⟩ : ∃ V, (Vb0.alloc (.cells #[.int .i64 Mx, .slice A la.length c] 35)).alloc (.cells #[.int .i64 My, .slice B lb.length d] 35) = V := ⟨_, rfl⟩
  have hz : Below Vb0.heap.size Vb0 Vc := by rw [← hV]; exact ((Below.refl _ _).alloc (Nat.le_refl _) _).alloc (by simp) _
  have hn1 : Blk Vc Vb0.heap.size 35 #[.int .i64 Mx, .slice A la.length c] := by rw [← hV]; exact (Blk.new' _ _ _ rfl).alloc _
  have hn2 : Blk Vc (Vb0.heap.size + 1) 35 #[.int .i64 My, .slice B lb.length d] := by rw [← hV]; exact Blk.new' _ _ _ (by simp)
  have hgn := HBP.out.size
  rw [hV]
  obtain ⟨b14, hbx⟩ : ∃ b, Vb0.heap.size + 1 = b := ⟨_, rfl⟩
  rw [hbx] at hn2 ⊢
  have gab13 : Vb0.heap.size ≤ Vb0.heap.size := Nat.le_refl _
  have gab14 : Vb0.heap.size ≤ b14 := by omega
  have gb14 : w.heap.size ≤ b14 := by omega
  have nxx : Vb0.heap.size < b14 := by omega
  obtain ⟨b13, hby⟩ : ∃ b, Vb0.heap.size = b := ⟨_, rfl⟩
  have gb13 : w.heap.size ≤ b13 := by omega
  have nb13b14 : ¬ b13 = b14 := by omega
  have nb14b13 : ¬ b14 = b13 := by omega
  rw [hby] at hn1 ⊢
  have HZ := Lib.hid hz
  clear hV hz hgn hbx hby nxx
  have GHBP := Lib.hid (HBP.out.trans (HZ.out.mono HBP.out.size))
  have GHBA := Lib.hid (HBA.out.trans (HZ.out.mono HBA.out.size))
  clear HBP HBA HZ
  have HBP := GHBP
  have HBA := GHBA
  clear GHBP GHBA
  have Hb13 := Lib.hid hn1
  have Hb14 := Lib.hid hn2
  clear hn1 hn2
  go_wp2_with fail
  refine (lspan_any lo hi _).mono ?_
  rintro e Va1 ⟨rfl, hb⟩
  have HZ := Lib.hid hb
  clear hb
  have Gb13 := Lib.hid (Hb13.out.below HZ.out Hb13.out.lt)
  have Gb14 := Lib.hid (Hb14.out.below HZ.out Hb14.out.lt)
  have GHBP := Lib.hid (HBP.out.trans (HZ.out.mono HBP.out.size))
  have GHBA := Lib.hid (HBA.out.trans (HZ.out.mono HBA.out.size))
  clear Hb13 Hb14 HBP HBA HZ
  have Hb13 := Gb13
  have Hb14 := Gb14
  have HBP := GHBP
  have HBA := GHBA
  clear Gb13 Gb14 GHBP GHBA
  go_upto_region 5 with (fail)
  obtain ⟨Va2, hV⟩ : ∃ V, Va1.alloc (.cells #[.int .i64 lo, .int .i64 hi] 23) = V := ⟨_, rfl⟩
  have hz : Below Va1.heap.size Va1 Va2 := by rw [← hV]; exact (Below.refl _ _).alloc (Nat.le_refl _) _
  have hnew : Blk Va2 Va1.heap.size 23 #[.int .i64 lo, .int .i64 hi] := by rw [← hV]; exact Blk.new' _ _ _ rfl
  have hgn := HBP.out.size
  have hga := HBA.out.size
  have lb13 := Hb13.out.lt
  have lb14 := Hb14.out.lt
  rw [hV]
  obtain ⟨b15, hbx⟩ : ∃ b, Va1.heap.size = b := ⟨_, rfl⟩
  rw [hbx] at hnew hgn hga lb13 lb14 ⊢
  have gb15 := hgn
  have HZ := Lib.hid hz
  have gab15 := hga
  clear hga
  have nb13b15 : ¬ b13 = b15 := by omega
  have nb15b13 : ¬ b15 = b13 := by omega
  have nb14b15 : ¬ b14 = b15 := by omega
  have nb15b14 : ¬ b15 = b14 := by omega
  clear hV hz hgn hbx lb13 lb14
  have Gb13 := Lib.hid (Hb13.out.below HZ.out Hb13.out.lt)
  have Gb14 := Lib.hid (Hb14.out.below HZ.out Hb14.out.lt)
  have GHBP := Lib.hid (HBP.out.trans (HZ.out.mono HBP.out.size))
  have GHBA := Lib.hid (HBA.out.trans (HZ.out.mono HBA.out.size))
  clear Hb13 Hb14 HBP HBA HZ
  have Hb13 := Gb13
  have Hb14 := Gb14
  have HBP := GHBP
  have HBA := GHBA
  clear Gb13 Gb14 GHBP GHBA
  have Hb15 := Lib.hid hnew
  clear hnew
  clear hlo hln hhi w1 w2 w3 w4 f1 f2 f3 f4 hfrom hlong hma hmb
  have cb130 : Va2.cell? ⟨b13, 0, none⟩ = some (.int .i64 Mx) := Hb13.out.cell 0
  have cb131 : Va2.cell? ⟨b13, 1, none⟩ = some (.slice A la.length c) := Hb13.out.cell 1
  have cb140 : Va2.cell? ⟨b14, 0, none⟩ = some (.int .i64 My) := Hb14.out.cell 0
  have cb141 : Va2.cell? ⟨b14, 1, none⟩ = some (.slice B lb.length d) := Hb14.out.cell 1
  go_wp2_with fail
  refine (join_ok2 _ _ ⟨Mx, px⟩ ⟨My, py⟩ _ (HPA.out.later HBA.out (Nat.le_refl _)) (HPB.out.later HBA.out (Nat.le_refl _)) HSx.out HSy.out H0.out H1.out (by simp only; omega) (by simp only [HLX.out, HLY.out]; omega)).mono ?_
  rintro e Va3 ⟨yj, rfl, hj, hb⟩
  simp only at hj ⊢
  have HZ := Lib.hid hb
  clear hb
  clear cb130 cb131 cb140 cb141
  have Gb13 := Lib.hid (Hb13.out.below HZ.out Hb13.out.lt)
  have Gb14 := Lib.hid (Hb14.out.below HZ.out Hb14.out.lt)
  have Gb15 := Lib.hid (Hb15.out.below HZ.out Hb15.out.lt)
  have GHBP := Lib.hid (HBP.out.trans (HZ.out.mono HBP.out.size))
  have GHBA := Lib.hid (HBA.out.trans (HZ.out.mono HBA.out.size))
  clear Hb13 Hb14 Hb15 HBP HBA HZ
  have Hb13 := Gb13
  have Hb14 := Gb14
  have Hb15 := Gb15
  have HBP := GHBP
  have HBA := GHBA
  clear Gb13 Gb14 Gb15 GHBP GHBA
  obtain ⟨AJ1, cJ1, rfl, -, -⟩ := hj.open_
  obtain ⟨J1, hJ1⟩ : ∃ k, (px ++ py).length = k := ⟨_, rfl⟩
  rw [hJ1] at hj ⊢
  have HJ1 := Lib.hid hj
  have HBJ1 := Lib.hid (Below.refl Va3.heap.size Va3)
  clear hj hJ1
  go_upto_region 6 with (fail)
  obtain ⟨Va4, hV⟩ : ∃ V, Va3.alloc (.cells #[.int .i64 (Mx + My), .slice AJ1 J1 cJ1] 35) = V := ⟨_, rfl⟩
  have hz : Below Va3.heap.size Va3 Va4 := by rw [← hV]; exact (Below.refl _ _).alloc (Nat.le_refl _) _
  have hnew : Blk Va4 Va3.heap.size 35 #[.int .i64 (Mx + My), .slice AJ1 J1 cJ1] := by rw [← hV]; exact Blk.new' _ _ _ rfl
  have hgn := HBP.out.size
  have hga := HBA.out.size
  have lb13 := Hb13.out.lt
  have lb14 := Hb14.out.lt
  have lb15 := Hb15.out.lt
  rw [hV]
  obtain ⟨b16, hbx⟩ : ∃ b, Va3.heap.size = b := ⟨_, rfl⟩
  rw [hbx] at hnew hgn hga lb13 lb14 lb15 ⊢
  have gb16 := hgn
  have HZ := Lib.hid hz
  have gab16 := hga
  clear hga
  have nb13b16 : ¬ b13 = b16 := by omega
  have nb16b13 : ¬ b16 = b13 := by omega
  have nb14b16 : ¬ b14 = b16 := by omega
  have nb16b14 : ¬ b16 = b14 := by omega
  have nb15b16 : ¬ b15 = b16 := by omega
  have nb16b15 : ¬ b16 = b15 := by omega
  clear hV hz hgn hbx lb13 lb14 lb15
  have Gb13 := Lib.hid (Hb13.out.below HZ.out Hb13.out.lt)
  have Gb14 := Lib.hid (Hb14.out.below HZ.out Hb14.out.lt)
  have Gb15 := Lib.hid (Hb15.out.below HZ.out Hb15.out.lt)
  have GHBP := Lib.hid (HBP.out.trans (HZ.out.mono HBP.out.size))
  have GHBA := Lib.hid (HBA.out.trans (HZ.out.mono HBA.out.size))
  have GHBJ1 := Lib.hid (HBJ1.out.trans (HZ.out.mono HBJ1.out.size))
  clear Hb13 Hb14 Hb15 HBP HBA HBJ1 HZ
  have Hb13 := Gb13
  have Hb14 := Gb14
  have Hb15 := Gb15
  have HBP := GHBP
  have HBA := GHBA
  have HBJ1 := GHBJ1
  clear Gb13 Gb14 Gb15 GHBP GHBA GHBJ1
  have Hb16 := Lib.hid hnew
  clear hnew
  have cb130 : Va4.cell? ⟨b13, 0, none⟩ = some (.int .i64 Mx) := Hb13.out.cell 0
  have cb131 : Va4.cell? ⟨b13, 1, none⟩ = some (.slice A la.length c) := Hb13.out.cell 1
  have cb140 : Va4.cell? ⟨b14, 0, none⟩ = some (.int .i64 My) := Hb14.out.cell 0
  have cb141 : Va4.cell? ⟨b14, 1, none⟩ = some (.slice B lb.length d) := Hb14.out.cell 1
  go_wp2_with fail
  refine (join_ok2 _ _ ⟨My, py⟩ ⟨Mx, px⟩ _ (HPB.out.later HBA.out (Nat.le_refl _)) (HPA.out.later HBA.out (Nat.le_refl _)) HSy.out HSx.out H1.out H0.out (by simp only; omega) (by simp only [HLX.out, HLY.out]; omega)).mono ?_
  rintro e Va5 ⟨yj, rfl, hj, hb⟩
  simp only at hj ⊢
  have HZ := Lib.hid hb
  clear hb
  clear cb130 cb131 cb140 cb141
  have Gb13 := Lib.hid (Hb13.out.below HZ.out Hb13.out.lt)
  have Gb14 := Lib.hid (Hb14.out.below HZ.out Hb14.out.lt)
  have Gb15 := Lib.hid (Hb15.out.below HZ.out Hb15.out.lt)
  have Gb16 := Lib.hid (Hb16.out.below HZ.out Hb16.out.lt)
  have GHBP := Lib.hid (HBP.out.trans (HZ.out.mono HBP.out.size))
  have GHBA := Lib.hid (HBA.out.trans (HZ.out.mono HBA.out.size))
  have GHBJ1 := Lib.hid (HBJ1.out.trans (HZ.out.mono HBJ1.out.size))
  clear Hb13 Hb14 Hb15 Hb16 HBP HBA HBJ1 HZ
  have Hb13 := Gb13
  have Hb14 := Gb14
  have Hb15 := Gb15
  have Hb16 := Gb16
  have HBP := GHBP
  have HBA := GHBA
  have HBJ1 := GHBJ1
  clear Gb13 Gb14 Gb15 Gb16 GHBP GHBA GHBJ1
  obtain ⟨AJ2, cJ2, rfl, -, -⟩ := hj.open_
  obtain ⟨J2, hJ2⟩ : ∃ k, (py ++ px).length = k := ⟨_, rfl⟩
  rw [hJ2] at hj ⊢
  have HJ2 := Lib.hid hj
  have HBJ2 := Lib.hid (Below.refl Va5.heap.size Va5)
  clear hj hJ2
  go_upto_region 7 with (fail)
  obtain ⟨Va6, hV⟩ : ∃ V, Va5.alloc (.cells #[.int .i64 (My + Mx), .slice AJ2 J2 cJ2] 35) = V := ⟨_, rfl⟩
  have hz : Below Va5.heap.size Va5 Va6 := by rw [← hV]; exact (Below.refl _ _).alloc (Nat.le_refl _) _
  have hnew : Blk Va6 Va5.heap.size 35 #[.int .i64 (My + Mx), .slice AJ2 J2 cJ2] := by rw [← hV]; exact Blk.new' _ _ _ rfl
  have hgn := HBP.out.size
  have hga := HBA.out.size
  have lb13 := Hb13.out.lt
  have lb14 := Hb14.out.lt
  have lb15 := Hb15.out.lt
  have lb16 := Hb16.out.lt
  rw [hV]
  obtain ⟨b18, hbx⟩ : ∃ b, Va5.heap.size = b := ⟨_, rfl⟩
  rw [hbx] at hnew hgn hga lb13 lb14 lb15 lb16 ⊢
  have gb18 := hgn
  have HZ := Lib.hid hz
  have gab18 := hga
  clear hga
  have nb13b18 : ¬ b13 = b18 := by omega
  have nb18b13 : ¬ b18 = b13 := by omega
  have nb14b18 : ¬ b14 = b18 := by omega
  have nb18b14 : ¬ b18 = b14 := by omega
  have nb15b18 : ¬ b15 = b18 := by omega
  have nb18b15 : ¬ b18 = b15 := by omega
  have nb16b18 : ¬ b16 = b18 := by omega
  have nb18b16 : ¬ b18 = b16 := by omega
  clear hV hz hgn hbx lb13 lb14 lb15 lb16
  have Gb13 := Lib.hid (Hb13.out.below HZ.out Hb13.out.lt)
  have Gb14 := Lib.hid (Hb14.out.below HZ.out Hb14.out.lt)
  have Gb15 := Lib.hid (Hb15.out.below HZ.out Hb15.out.lt)
  have Gb16 := Lib.hid (Hb16.out.below HZ.out Hb16.out.lt)
  have GHBP := Lib.hid (HBP.out.trans (HZ.out.mono HBP.out.size))
  have GHBA := Lib.hid (HBA.out.trans (HZ.out.mono HBA.out.size))
  have GHBJ1 := Lib.hid (HBJ1.out.trans (HZ.out.mono HBJ1.out.size))
  have GHBJ2 := Lib.hid (HBJ2.out.trans (HZ.out.mono HBJ2.out.size))
  clear Hb13 Hb14 Hb15 Hb16 HBP HBA HBJ1 HBJ2 HZ
  have Hb13 := Gb13
  have Hb14 := Gb14
  have Hb15 := Gb15
  have Hb16 := Gb16
  have HBP := GHBP
  have HBA := GHBA
  have HBJ1 := GHBJ1
  have HBJ2 := GHBJ2
  clear Gb13 Gb14 Gb15 Gb16 GHBP GHBA GHBJ1 GHBJ2
  have Hb18 := Lib.hid hnew
  clear hnew
  have cb130 : Va6.cell? ⟨b13, 0, none⟩ = some (.int .i64 Mx) := Hb13.out.cell 0
  have cb131 : Va6.cell? ⟨b13, 1, none⟩ = some (.slice A la.length c) := Hb13.out.cell 1
  have cb150 : Va6.cell? ⟨b15, 0, none⟩ = some (.int .i64 lo) := Hb15.out.cell 0
  have cb151 : Va6.cell? ⟨b15, 1, none⟩ = some (.int .i64 hi) := Hb15.out.cell 1
  go_wp2_with fail
  refine (lev_ok _ ⟨Mx, px⟩ lo hi _ ⟨_, rfl, HPA.out.later HBA.out (Nat.le_refl _)⟩ H0.out ⟨by omega, by omega, by omega⟩).mono ?_
  rintro e Va7 ⟨rfl, hb⟩
  rw [HP.out]
  have HZ := Lib.hid hb
  clear hb
  clear cb130 cb131 cb150 cb151
  have Gb13 := Lib.hid (Hb13.out.below HZ.out Hb13.out.lt)
  have Gb14 := Lib.hid (Hb14.out.below HZ.out Hb14.out.lt)
  have Gb15 := Lib.hid (Hb15.out.below HZ.out Hb15.out.lt)
  have Gb16 := Lib.hid (Hb16.out.below HZ.out Hb16.out.lt)
  have Gb18 := Lib.hid (Hb18.out.below HZ.out Hb18.out.lt)
  have GHBP := Lib.hid (HBP.out.trans (HZ.out.mono HBP.out.size))
  have GHBA := Lib.hid (HBA.out.trans (HZ.out.mono HBA.out.size))
  have GHBJ1 := Lib.hid (HBJ1.out.trans (HZ.out.mono HBJ1.out.size))
  have GHBJ2 := Lib.hid (HBJ2.out.trans (HZ.out.mono HBJ2.out.size))
  clear Hb13 Hb14 Hb15 Hb16 Hb18 HBP HBA HBJ1 HBJ2 HZ
  have Hb13 := Gb13
  have Hb14 := Gb14
  have Hb15 := Gb15
  have Hb16 := Gb16
  have Hb18 := Gb18
  have HBP := GHBP
  have HBA := GHBA
  have HBJ1 := GHBJ1
  have HBJ2 := GHBJ2
  clear Gb13 Gb14 Gb15 Gb16 Gb18 GHBP GHBA GHBJ1 GHBJ2
  go_upto_region 10 with (fail)
  obtain ⟨Va8, hV⟩ : ∃ V, Va7.alloc (.cells #[.int .i64 P1, .int .i64 P2] 23) = V := ⟨_, rfl⟩
  have hz : Below Va7.heap.size Va7 Va8 := by rw [← hV]; exact (Below.refl _ _).alloc (Nat.le_refl _) _
  have hnew : Blk Va8 Va7.heap.size 23 #[.int .i64 P1, .int .i64 P2] := by rw [← hV]; exact Blk.new' _ _ _ rfl
  have hgn := HBP.out.size
  have hga := HBA.out.size
  have lb13 := Hb13.out.lt
  have lb14 := Hb14.out.lt
  have lb15 := Hb15.out.lt
  have lb16 := Hb16.out.lt
  have lb18 := Hb18.out.lt
  rw [hV]
  obtain ⟨b20, hbx⟩ : ∃ b, Va7.heap.size = b := ⟨_, rfl⟩
  rw [hbx] at hnew hgn hga lb13 lb14 lb15 lb16 lb18 ⊢
  have gb20 := hgn
  have HZ := Lib.hid hz
  have gab20 := hga
  clear hga
  have nb13b20 : ¬ b13 = b20 := by omega
  have nb20b13 : ¬ b20 = b13 := by omega
  have nb14b20 : ¬ b14 = b20 := by omega
  have nb20b14 : ¬ b20 = b14 := by omega
  have nb15b20 : ¬ b15 = b20 := by omega
  have nb20b15 : ¬ b20 = b15 := by omega
  have nb16b20 : ¬ b16 = b20 := by omega
  have nb20b16 : ¬ b20 = b16 := by omega
  have nb18b20 : ¬ b18 = b20 := by omega
  have nb20b18 : ¬ b20 = b18 := by omega
  clear hV hz hgn hbx lb13 lb14 lb15 lb16 lb18
  have Gb13 := Lib.hid (Hb13.out.below HZ.out Hb13.out.lt)
  have Gb14 := Lib.hid (Hb14.out.below HZ.out Hb14.out.lt)
  have Gb15 := Lib.hid (Hb15.out.below HZ.out Hb15.out.lt)
  have Gb16 := Lib.hid (Hb16.out.below HZ.out Hb16.out.lt)
  have Gb18 := Lib.hid (Hb18.out.below HZ.out Hb18.out.lt)
  have GHBP := Lib.hid (HBP.out.trans (HZ.out.mono HBP.out.size))
  have GHBA := Lib.hid (HBA.out.trans (HZ.out.mono HBA.out.size))
  have GHBJ1 := Lib.hid (HBJ1.out.trans (HZ.out.mono HBJ1.out.size))
  have GHBJ2 := Lib.hid (HBJ2.out.trans (HZ.out.mono HBJ2.out.size))
  clear Hb13 Hb14 Hb15 Hb16 Hb18 HBP HBA HBJ1 HBJ2 HZ
  have Hb13 := Gb13
  have Hb14 := Gb14
  have Hb15 := Gb15
  have Hb16 := Gb16
  have Hb18 := Gb18
  have HBP := GHBP
  have HBA := GHBA
  have HBJ1 := GHBJ1
  have HBJ2 := GHBJ2
  clear Gb13 Gb14 Gb15 Gb16 Gb18 GHBP GHBA GHBJ1 GHBJ2
  have Hb20 := Lib.hid hnew
  clear hnew
  have cb140 : Va8.cell? ⟨b14, 0, none⟩ = some (.int .i64 My) := Hb14.out.cell 0
  have cb141 : Va8.cell? ⟨b14, 1, none⟩ = some (.slice B lb.length d) := Hb14.out.cell 1
  have cb150 : Va8.cell? ⟨b15, 0, none⟩ = some (.int .i64 lo) := Hb15.out.cell 0
  have cb151 : Va8.cell? ⟨b15, 1, none⟩ = some (.int .i64 hi) := Hb15.out.cell 1
  go_wp2_with fail
  refine (lev_ok _ ⟨My, py⟩ lo hi _ ⟨_, rfl, HPB.out.later HBA.out (Nat.le_refl _)⟩ H1.out ⟨by omega, by omega, by omega⟩).mono ?_
  rintro e Va9 ⟨rfl, hb⟩
  rw [HQ.out]
  have HZ := Lib.hid hb
  clear hb
  clear cb140 cb141 cb150 cb151
  have Gb13 := Lib.hid (Hb13.out.below HZ.out Hb13.out.lt)
  have Gb14 := Lib.hid (Hb14.out.below HZ.out Hb14.out.lt)
  have Gb15 := Lib.hid (Hb15.out.below HZ.out Hb15.out.lt)
  have Gb16 := Lib.hid (Hb16.out.below HZ.out Hb16.out.lt)
  have Gb18 := Lib.hid (Hb18.out.below HZ.out Hb18.out.lt)
  have Gb20 := Lib.hid (Hb20.out.below HZ.out Hb20.out.lt)
  have GHBP := Lib.hid (HBP.out.trans (HZ.out.mono HBP.out.size))
  have GHBA := Lib.hid (HBA.out.trans (HZ.out.mono HBA.out.size))
  have GHBJ1 := Lib.hid (HBJ1.out.trans (HZ.out.mono HBJ1.out.size))
  have GHBJ2 := Lib.hid (HBJ2.out.trans (HZ.out.mono HBJ2.out.size))
  clear Hb13 Hb14 Hb15 Hb16 Hb18 Hb20 HBP HBA HBJ1 HBJ2 HZ
  have Hb13 := Gb13
  have Hb14 := Gb14
  have Hb15 := Gb15
  have Hb16 := Gb16
  have Hb18 := Gb18
  have Hb20 := Gb20
  have HBP := GHBP
  have HBA := GHBA
  have HBJ1 := GHBJ1
  have HBJ2 := GHBJ2
  clear Gb13 Gb14 Gb15 Gb16 Gb18 Gb20 GHBP GHBA GHBJ1 GHBJ2
  go_upto_region 11 with (fail)
  obtain ⟨Va10, hV⟩ : ∃ V, Va9.alloc (.cells #[.int .i64 Q1, .int .i64 Q2] 23) = V := ⟨_, rfl⟩
  have hz : Below Va9.heap.size Va9 Va10 := by rw [← hV]; exact (Below.refl _ _).alloc (Nat.le_refl _) _
  have hnew : Blk Va10 Va9.heap.size 23 #[.int .i64 Q1, .int .i64 Q2] := by rw [← hV]; exact Blk.new' _ _ _ rfl
  have hgn := HBP.out.size
  have hga := HBA.out.size
  have lb13 := Hb13.out.lt
  have lb14 := Hb14.out.lt
  have lb15 := Hb15.out.lt
  have lb16 := Hb16.out.lt
  have lb18 := Hb18.out.lt
  have lb20 := Hb20.out.lt
  rw [hV]
  obtain ⟨b21, hbx⟩ : ∃ b, Va9.heap.size = b := ⟨_, rfl⟩
  rw [hbx] at hnew hgn hga lb13 lb14 lb15 lb16 lb18 lb20 ⊢
  have gb21 := hgn
  have HZ := Lib.hid hz
  have gab21 := hga
  clear hga
  have nb13b21 : ¬ b13 = b21 := by omega
  have nb21b13 : ¬ b21 = b13 := by omega
  have nb14b21 : ¬ b14 = b21 := by omega
  have nb21b14 : ¬ b21 = b14 := by omega
  have nb15b21 : ¬ b15 = b21 := by omega
  have nb21b15 : ¬ b21 = b15 := by omega
  have nb16b21 : ¬ b16 = b21 := by omega
  have nb21b16 : ¬ b21 = b16 := by omega
  have nb18b21 : ¬ b18 = b21 := by omega
  have nb21b18 : ¬ b21 = b18 := by omega
  have nb20b21 : ¬ b20 = b21 := by omega
  have nb21b20 : ¬ b21 = b20 := by omega
  clear hV hz hgn hbx lb13 lb14 lb15 lb16 lb18 lb20
  have Gb13 := Lib.hid (Hb13.out.below HZ.out Hb13.out.lt)
  have Gb14 := Lib.hid (Hb14.out.below HZ.out Hb14.out.lt)
  have Gb15 := Lib.hid (Hb15.out.below HZ.out Hb15.out.lt)
  have Gb16 := Lib.hid (Hb16.out.below HZ.out Hb16.out.lt)
  have Gb18 := Lib.hid (Hb18.out.below HZ.out Hb18.out.lt)
  have Gb20 := Lib.hid (Hb20.out.below HZ.out Hb20.out.lt)
  have GHBP := Lib.hid (HBP.out.trans (HZ.out.mono HBP.out.size))
  have GHBA := Lib.hid (HBA.out.trans (HZ.out.mono HBA.out.size))
  have GHBJ1 := Lib.hid (HBJ1.out.trans (HZ.out.mono HBJ1.out.size))
  have GHBJ2 := Lib.hid (HBJ2.out.trans (HZ.out.mono HBJ2.out.size))
  clear Hb13 Hb14 Hb15 Hb16 Hb18 Hb20 HBP HBA HBJ1 HBJ2 HZ
  have Hb13 := Gb13
  have Hb14 := Gb14
  have Hb15 := Gb15
  have Hb16 := Gb16
  have Hb18 := Gb18
  have Hb20 := Gb20
  have HBP := GHBP
  have HBA := GHBA
  have HBJ1 := GHBJ1
  have HBJ2 := GHBJ2
  clear Gb13 Gb14 Gb15 Gb16 Gb18 Gb20 GHBP GHBA GHBJ1 GHBJ2
  have Hb21 := Lib.hid hnew
  clear hnew
  have cb160 : Va10.cell? ⟨b16, 0, none⟩ = some (.int .i64 (Mx + My)) := Hb16.out.cell 0
  have cb161 : Va10.cell? ⟨b16, 1, none⟩ = some (.slice AJ1 J1 cJ1) := Hb16.out.cell 1
  have cb150 : Va10.cell? ⟨b15, 0, none⟩ = some (.int .i64 lo) := Hb15.out.cell 0
  have cb151 : Va10.cell? ⟨b15, 1, none⟩ = some (.int .i64 hi) := Hb15.out.cell 1
  go_wp2_with fail
  refine (lev_ok _ (joinZ ⟨Mx, px⟩ ⟨My, py⟩) lo hi _ ⟨_, rfl, HJ1.out.later HBJ1.out (Nat.le_refl _)⟩ H2.out ⟨by omega, by omega, by omega⟩).mono ?_
  rintro e Va11 ⟨rfl, hb⟩
  rw [HRv.out]
  have HZ := Lib.hid hb
  clear hb
  clear cb160 cb161 cb150 cb151
  have Gb13 := Lib.hid (Hb13.out.below HZ.out Hb13.out.lt)
  have Gb14 := Lib.hid (Hb14.out.below HZ.out Hb14.out.lt)
  have Gb15 := Lib.hid (Hb15.out.below HZ.out Hb15.out.lt)
  have Gb16 := Lib.hid (Hb16.out.below HZ.out Hb16.out.lt)
  have Gb18 := Lib.hid (Hb18.out.below HZ.out Hb18.out.lt)
  have Gb20 := Lib.hid (Hb20.out.below HZ.out Hb20.out.lt)
  have Gb21 := Lib.hid (Hb21.out.below HZ.out Hb21.out.lt)
  have GHBP := Lib.hid (HBP.out.trans (HZ.out.mono HBP.out.size))
  have GHBA := Lib.hid (HBA.out.trans (HZ.out.mono HBA.out.size))
  have GHBJ1 := Lib.hid (HBJ1.out.trans (HZ.out.mono HBJ1.out.size))
  have GHBJ2 := Lib.hid (HBJ2.out.trans (HZ.out.mono HBJ2.out.size))
  clear Hb13 Hb14 Hb15 Hb16 Hb18 Hb20 Hb21 HBP HBA HBJ1 HBJ2 HZ
  have Hb13 := Gb13
  have Hb14 := Gb14
  have Hb15 := Gb15
  have Hb16 := Gb16
  have Hb18 := Gb18
  have Hb20 := Gb20
  have Hb21 := Gb21
  have HBP := GHBP
  have HBA := GHBA
  have HBJ1 := GHBJ1
  have HBJ2 := GHBJ2
  clear Gb13 Gb14 Gb15 Gb16 Gb18 Gb20 Gb21 GHBP GHBA GHBJ1 GHBJ2
  go_upto_region 12 with (fail)
  obtain ⟨Va12, hV⟩ : ∃ V, Va11.alloc (.cells #[.int .i64 R1, .int .i64 R2] 23) = V := ⟨_, rfl⟩
  have hz : Below Va11.heap.size Va11 Va12 := by rw [← hV]; exact (Below.refl _ _).alloc (Nat.le_refl _) _
  have hnew : Blk Va12 Va11.heap.size 23 #[.int .i64 R1, .int .i64 R2] := by rw [← hV]; exact Blk.new' _ _ _ rfl
  have hgn := HBP.out.size
  have hga := HBA.out.size
  have lb13 := Hb13.out.lt
  have lb14 := Hb14.out.lt
  have lb15 := Hb15.out.lt
  have lb16 := Hb16.out.lt
  have lb18 := Hb18.out.lt
  have lb20 := Hb20.out.lt
  have lb21 := Hb21.out.lt
  rw [hV]
  obtain ⟨b22, hbx⟩ : ∃ b, Va11.heap.size = b := ⟨_, rfl⟩
  rw [hbx] at hnew hgn hga lb13 lb14 lb15 lb16 lb18 lb20 lb21 ⊢
  have gb22 := hgn
  have HZ := Lib.hid hz
  have gab22 := hga
  clear hga
  have nb13b22 : ¬ b13 = b22 := by omega
  have nb22b13 : ¬ b22 = b13 := by omega
  have nb14b22 : ¬ b14 = b22 := by omega
  have nb22b14 : ¬ b22 = b14 := by omega
  have nb15b22 : ¬ b15 = b22 := by omega
  have nb22b15 : ¬ b22 = b15 := by omega
  have nb16b22 : ¬ b16 = b22 := by omega
  have nb22b16 : ¬ b22 = b16 := by omega
  have nb18b22 : ¬ b18 = b22 := by omega
  have nb22b18 : ¬ b22 = b18 := by omega
  have nb20b22 : ¬ b20 = b22 := by omega
  have nb22b20 : ¬ b22 = b20 := by omega
  have nb21b22 : ¬ b21 = b22 := by omega
  have nb22b21 : ¬ b22 = b21 := by omega
  clear hV hz hgn hbx lb13 lb14 lb15 lb16 lb18 lb20 lb21
  have Gb13 := Lib.hid (Hb13.out.below HZ.out Hb13.out.lt)
  have Gb14 := Lib.hid (Hb14.out.below HZ.out Hb14.out.lt)
  have Gb15 := Lib.hid (Hb15.out.below HZ.out Hb15.out.lt)
  have Gb16 := Lib.hid (Hb16.out.below HZ.out Hb16.out.lt)
  have Gb18 := Lib.hid (Hb18.out.below HZ.out Hb18.out.lt)
  have Gb20 := Lib.hid (Hb20.out.below HZ.out Hb20.out.lt)
  have Gb21 := Lib.hid (Hb21.out.below HZ.out Hb21.out.lt)
  have GHBP := Lib.hid (HBP.out.trans (HZ.out.mono HBP.out.size))
  have GHBA := Lib.hid (HBA.out.trans (HZ.out.mono HBA.out.size))
  have GHBJ1 := Lib.hid (HBJ1.out.trans (HZ.out.mono HBJ1.out.size))
  have GHBJ2 := Lib.hid (HBJ2.out.trans (HZ.out.mono HBJ2.out.size))
  clear Hb13 Hb14 Hb15 Hb16 Hb18 Hb20 Hb21 HBP HBA HBJ1 HBJ2 HZ
  have Hb13 := Gb13
  have Hb14 := Gb14
  have Hb15 := Gb15
  have Hb16 := Gb16
  have Hb18 := Gb18
  have Hb20 := Gb20
  have Hb21 := Gb21
  have HBP := GHBP
  have HBA := GHBA
  have HBJ1 := GHBJ1
  have HBJ2 := GHBJ2
  clear Gb13 Gb14 Gb15 Gb16 Gb18 Gb20 Gb21 GHBP GHBA GHBJ1 GHBJ2
  have Hb22 := Lib.hid hnew
  clear hnew
  have cb180 : Va12.cell? ⟨b18, 0, none⟩ = some (.int .i64 (My + Mx)) := Hb18.out.cell 0
  have cb181 : Va12.cell? ⟨b18, 1, none⟩ = some (.slice AJ2 J2 cJ2) := Hb18.out.cell 1
  have cb150 : Va12.cell? ⟨b15, 0, none⟩ = some (.int .i64 lo) := Hb15.out.cell 0
  have cb151 : Va12.cell? ⟨b15, 1, none⟩ = some (.int .i64 hi) := Hb15.out.cell 1
  go_wp2_with fail
  refine (lev_ok _ (joinZ ⟨My, py⟩ ⟨Mx, px⟩) lo hi _ ⟨_, rfl, HJ2.out.later HBJ2.out (Nat.le_refl _)⟩ H3.out ⟨by omega, by omega, by omega⟩).mono ?_
  rintro e Va13 ⟨rfl, hb⟩
  rw [HSv.out]
  have HZ := Lib.hid hb
  clear hb
  clear cb180 cb181 cb150 cb151
  have Gb13 := Lib.hid (Hb13.out.below HZ.out Hb13.out.lt)
  have Gb14 := Lib.hid (Hb14.out.below HZ.out Hb14.out.lt)
  have Gb15 := Lib.hid (Hb15.out.below HZ.out Hb15.out.lt)
  have Gb16 := Lib.hid (Hb16.out.below HZ.out Hb16.out.lt)
  have Gb18 := Lib.hid (Hb18.out.below HZ.out Hb18.out.lt)
  have Gb20 := Lib.hid (Hb20.out.below HZ.out Hb20.out.lt)
  have Gb21 := Lib.hid (Hb21.out.below HZ.out Hb21.out.lt)
  have Gb22 := Lib.hid (Hb22.out.below HZ.out Hb22.out.lt)
  have GHBP := Lib.hid (HBP.out.trans (HZ.out.mono HBP.out.size))
  have GHBA := Lib.hid (HBA.out.trans (HZ.out.mono HBA.out.size))
  have GHBJ1 := Lib.hid (HBJ1.out.trans (HZ.out.mono HBJ1.out.size))
  have GHBJ2 := Lib.hid (HBJ2.out.trans (HZ.out.mono HBJ2.out.size))
  clear Hb13 Hb14 Hb15 Hb16 Hb18 Hb20 Hb21 Hb22 HBP HBA HBJ1 HBJ2 HZ
  have Hb13 := Gb13
  have Hb14 := Gb14
  have Hb15 := Gb15
  have Hb16 := Gb16
  have Hb18 := Gb18
  have Hb20 := Gb20
  have Hb21 := Gb21
  have Hb22 := Gb22
  have HBP := GHBP
  have HBA := GHBA
  have HBJ1 := GHBJ1
  have HBJ2 := GHBJ2
  clear Gb13 Gb14 Gb15 Gb16 Gb18 Gb20 Gb21 Gb22 GHBP GHBA GHBJ1 GHBJ2
  go_upto_region 13 with (fail)
  obtain ⟨Va14, hV⟩ : ∃ V, Va13.alloc (.cells #[.int .i64 R1, .int .i64 R2] 23) = V := ⟨_, rfl⟩
  have hz : Below Va13.heap.size Va13 Va14 := by rw [← hV]; exact (Below.refl _ _).alloc (Nat.le_refl _) _
  have hnew : Blk Va14 Va13.heap.size 23 #[.int .i64 R1, .int .i64 R2] := by rw [← hV]; exact Blk.new' _ _ _ rfl
  have hgn := HBP.out.size
  have hga := HBA.out.size
  have lb13 := Hb13.out.lt
  have lb14 := Hb14.out.lt
  have lb15 := Hb15.out.lt
  have lb16 := Hb16.out.lt
  have lb18 := Hb18.out.lt
  have lb20 := Hb20.out.lt
  have lb21 := Hb21.out.lt
  have lb22 := Hb22.out.lt
  rw [hV]
  obtain ⟨b24, hbx⟩ : ∃ b, Va13.heap.size = b := ⟨_, rfl⟩
  rw [hbx] at hnew hgn hga lb13 lb14 lb15 lb16 lb18 lb20 lb21 lb22 ⊢
  have gb24 := hgn
  have HZ := Lib.hid hz
  have gab24 := hga
  clear hga
  have nb13b24 : ¬ b13 = b24 := by omega
  have nb24b13 : ¬ b24 = b13 := by omega
  have nb14b24 : ¬ b14 = b24 := by omega
  have nb24b14 : ¬ b24 = b14 := by omega
  have nb15b24 : ¬ b15 = b24 := by omega
  have nb24b15 : ¬ b24 = b15 := by omega
  have nb16b24 : ¬ b16 = b24 := by omega
  have nb24b16 : ¬ b24 = b16 := by omega
  have nb18b24 : ¬ b18 = b24 := by omega
  have nb24b18 : ¬ b24 = b18 := by omega
  have nb20b24 : ¬ b20 = b24 := by omega
  have nb24b20 : ¬ b24 = b20 := by omega
  have nb21b24 : ¬ b21 = b24 := by omega
  have nb24b21 : ¬ b24 = b21 := by omega
  have nb22b24 : ¬ b22 = b24 := by omega
  have nb24b22 : ¬ b24 = b22 := by omega
  clear hV hz hgn hbx lb13 lb14 lb15 lb16 lb18 lb20 lb21 lb22
  have Gb13 := Lib.hid (Hb13.out.below HZ.out Hb13.out.lt)
  have Gb14 := Lib.hid (Hb14.out.below HZ.out Hb14.out.lt)
  have Gb15 := Lib.hid (Hb15.out.below HZ.out Hb15.out.lt)
  have Gb16 := Lib.hid (Hb16.out.below HZ.out Hb16.out.lt)
  have Gb18 := Lib.hid (Hb18.out.below HZ.out Hb18.out.lt)
  have Gb20 := Lib.hid (Hb20.out.below HZ.out Hb20.out.lt)
  have Gb21 := Lib.hid (Hb21.out.below HZ.out Hb21.out.lt)
  have Gb22 := Lib.hid (Hb22.out.below HZ.out Hb22.out.lt)
  have GHBP := Lib.hid (HBP.out.trans (HZ.out.mono HBP.out.size))
  have GHBA := Lib.hid (HBA.out.trans (HZ.out.mono HBA.out.size))
  have GHBJ1 := Lib.hid (HBJ1.out.trans (HZ.out.mono HBJ1.out.size))
  have GHBJ2 := Lib.hid (HBJ2.out.trans (HZ.out.mono HBJ2.out.size))
  clear Hb13 Hb14 Hb15 Hb16 Hb18 Hb20 Hb21 Hb22 HBP HBA HBJ1 HBJ2 HZ
  have Hb13 := Gb13
  have Hb14 := Gb14
  have Hb15 := Gb15
  have Hb16 := Gb16
  have Hb18 := Gb18
  have Hb20 := Gb20
  have Hb21 := Gb21
  have Hb22 := Gb22
  have HBP := GHBP
  have HBA := GHBA
  have HBJ1 := GHBJ1
  have HBJ2 := GHBJ2
  clear Gb13 Gb14 Gb15 Gb16 Gb18 Gb20 Gb21 Gb22 GHBP GHBA GHBJ1 GHBJ2
  have Hb24 := Lib.hid hnew
  clear hnew
  have cb220 : Va14.cell? ⟨b22, 0, none⟩ = some (.int .i64 R1) := Hb22.out.cell 0
  have cb221 : Va14.cell? ⟨b22, 1, none⟩ = some (.int .i64 R2) := Hb22.out.cell 1
  have cb240 : Va14.cell? ⟨b24, 0, none⟩ = some (.int .i64 R1) := Hb24.out.cell 0
  have cb241 : Va14.cell? ⟨b24, 1, none⟩ = some (.int .i64 R2) := Hb24.out.cell 1
  have cb200 : Va14.cell? ⟨b20, 0, none⟩ = some (.int .i64 P1) := Hb20.out.cell 0
  have cb201 : Va14.cell? ⟨b20, 1, none⟩ = some (.int .i64 P2) := Hb20.out.cell 1
  have cb210 : Va14.cell? ⟨b21, 0, none⟩ = some (.int .i64 Q1) := Hb21.out.cell 0
  have cb211 : Va14.cell? ⟨b21, 1, none⟩ = some (.int .i64 Q2) := Hb21.out.cell 1
  go_wp2_with fail
  go_quiet (fail)
  obtain ⟨Va15, hV⟩ : ∃ V, Va14.drewN nq = V := ⟨_, rfl⟩
  have HZ : Hid (Below Va14.heap.size Va14 Va15) := by rw [← hV]; exact Below.drewN' (Below.refl _ _) _
  rw [hV]
  clear hV
  clear cb220 cb221 cb240 cb241 cb200 cb201 cb210 cb211
  have Gb13 := Lib.hid (Hb13.out.below HZ.out Hb13.out.lt)
  have Gb14 := Lib.hid (Hb14.out.below HZ.out Hb14.out.lt)
  have Gb15 := Lib.hid (Hb15.out.below HZ.out Hb15.out.lt)
  have Gb16 := Lib.hid (Hb16.out.below HZ.out Hb16.out.lt)
  have Gb18 := Lib.hid (Hb18.out.below HZ.out Hb18.out.lt)
  have Gb20 := Lib.hid (Hb20.out.below HZ.out Hb20.out.lt)
  have Gb21 := Lib.hid (Hb21.out.below HZ.out Hb21.out.lt)
  have Gb22 := Lib.hid (Hb22.out.below HZ.out Hb22.out.lt)
  have Gb24 := Lib.hid (Hb24.out.below HZ.out Hb24.out.lt)
  have GHBP := Lib.hid (HBP.out.trans (HZ.out.mono HBP.out.size))
  have GHBA := Lib.hid (HBA.out.trans (HZ.out.mono HBA.out.size))
  have GHBJ1 := Lib.hid (HBJ1.out.trans (HZ.out.mono HBJ1.out.size))
  have GHBJ2 := Lib.hid (HBJ2.out.trans (HZ.out.mono HBJ2.out.size))
  clear Hb13 Hb14 Hb15 Hb16 Hb18 Hb20 Hb21 Hb22 Hb24 HBP HBA HBJ1 HBJ2 HZ
  have Hb13 := Gb13
  have Hb14 := Gb14
  have Hb15 := Gb15
  have Hb16 := Gb16
  have Hb18 := Gb18
  have Hb20 := Gb20
  have Hb21 := Gb21
  have Hb22 := Gb22
  have Hb24 := Gb24
  have HBP := GHBP
  have HBA := GHBA
  have HBJ1 := GHBJ1
  have HBJ2 := GHBJ2
  clear Gb13 Gb14 Gb15 Gb16 Gb18 Gb20 Gb21 Gb22 Gb24 GHBP GHBA GHBJ1 GHBJ2
  have cb130 : Va15.cell? ⟨b13, 0, none⟩ = some (.int .i64 Mx) := Hb13.out.cell 0
  have cb131 : Va15.cell? ⟨b13, 1, none⟩ = some (.slice A la.length c) := Hb13.out.cell 1
  have cb150 : Va15.cell? ⟨b15, 0, none⟩ = some (.int .i64 lo) := Hb15.out.cell 0
  have cb151 : Va15.cell? ⟨b15, 1, none⟩ = some (.int .i64 hi) := Hb15.out.cell 1
  go_wp2_with fail
  refine (lev_ok _ ⟨Mx, []⟩ lo hi _ ⟨_, rfl, Reads.nil _ _ _⟩ H4.out ⟨by omega, by omega, by omega⟩).mono ?_
  rintro e Va16 ⟨rfl, hb⟩
  rw [HNO.out]
  have HZ := Lib.hid hb
  clear hb
  clear cb130 cb131 cb150 cb151
  have Gb13 := Lib.hid (Hb13.out.below HZ.out Hb13.out.lt)
  have Gb14 := Lib.hid (Hb14.out.below HZ.out Hb14.out.lt)
  have Gb15 := Lib.hid (Hb15.out.below HZ.out Hb15.out.lt)
  have Gb16 := Lib.hid (Hb16.out.below HZ.out Hb16.out.lt)
  have Gb18 := Lib.hid (Hb18.out.below HZ.out Hb18.out.lt)
  have Gb20 := Lib.hid (Hb20.out.below HZ.out Hb20.out.lt)
  have Gb21 := Lib.hid (Hb21.out.below HZ.out Hb21.out.lt)
  have Gb22 := Lib.hid (Hb22.out.below HZ.out Hb22.out.lt)
  have Gb24 := Lib.hid (Hb24.out.below HZ.out Hb24.out.lt)
  have GHBP := Lib.hid (HBP.out.trans (HZ.out.mono HBP.out.size))
  have GHBA := Lib.hid (HBA.out.trans (HZ.out.mono HBA.out.size))
  have GHBJ1 := Lib.hid (HBJ1.out.trans (HZ.out.mono HBJ1.out.size))
  have GHBJ2 := Lib.hid (HBJ2.out.trans (HZ.out.mono HBJ2.out.size))
  clear Hb13 Hb14 Hb15 Hb16 Hb18 Hb20 Hb21 Hb22 Hb24 HBP HBA HBJ1 HBJ2 HZ
  have Hb13 := Gb13
  have Hb14 := Gb14
  have Hb15 := Gb15
  have Hb16 := Gb16
  have Hb18 := Gb18
  have Hb20 := Gb20
  have Hb21 := Gb21
  have Hb22 := Gb22
  have Hb24 := Gb24
  have HBP := GHBP
  have HBA := GHBA
  have HBJ1 := GHBJ1
  have HBJ2 := GHBJ2
  clear Gb13 Gb14 Gb15 Gb16 Gb18 Gb20 Gb21 Gb22 Gb24 GHBP GHBA GHBJ1 GHBJ2
  go_upto_region 19 with (fail)
  obtain ⟨Va17, hV⟩ : ∃ V, Va16.alloc (.cells #[.int .i64 Mx, .int .i64 Mx] 23) = V := ⟨_, rfl⟩
  have hz : Below Va16.heap.size Va16 Va17 := by rw [← hV]; exact (Below.refl _ _).alloc (Nat.le_refl _) _
  have hnew : Blk Va17 Va16.heap.size 23 #[.int .i64 Mx, .int .i64 Mx] := by rw [← hV]; exact Blk.new' _ _ _ rfl
  have hgn := HBP.out.size
  have hga := HBA.out.size
  have lb13 := Hb13.out.lt
  have lb14 := Hb14.out.lt
  have lb15 := Hb15.out.lt
  have lb16 := Hb16.out.lt
  have lb18 := Hb18.out.lt
  have lb20 := Hb20.out.lt
  have lb21 := Hb21.out.lt
  have lb22 := Hb22.out.lt
  have lb24 := Hb24.out.lt
  rw [hV]
  obtain ⟨b28, hbx⟩ : ∃ b, Va16.heap.size = b := ⟨_, rfl⟩
  rw [hbx] at hnew hgn hga lb13 lb14 lb15 lb16 lb18 lb20 lb21 lb22 lb24 ⊢
  have gb28 := hgn
  have HZ := Lib.hid hz
  have gab28 := hga
  clear hga
  have nb13b28 : ¬ b13 = b28 := by omega
  have nb28b13 : ¬ b28 = b13 := by omega
  have nb14b28 : ¬ b14 = b28 := by omega
  have nb28b14 : ¬ b28 = b14 := by omega
  have nb15b28 : ¬ b15 = b28 := by omega
  have nb28b15 : ¬ b28 = b15 := by omega
  have nb16b28 : ¬ b16 = b28 := by omega
  have nb28b16 : ¬ b28 = b16 := by omega
  have nb18b28 : ¬ b18 = b28 := by omega
  have nb28b18 : ¬ b28 = b18 := by omega
  have nb20b28 : ¬ b20 = b28 := by omega
  have nb28b20 : ¬ b28 = b20 := by omega
  have nb21b28 : ¬ b21 = b28 := by omega
  have nb28b21 : ¬ b28 = b21 := by omega
  have nb22b28 : ¬ b22 = b28 := by omega
  have nb28b22 : ¬ b28 = b22 := by omega
  have nb24b28 : ¬ b24 = b28 := by omega
  have nb28b24 : ¬ b28 = b24 := by omega
  clear hV hz hgn hbx lb13 lb14 lb15 lb16 lb18 lb20 lb21 lb22 lb24
  have Gb13 := Lib.hid (Hb13.out.below HZ.out Hb13.out.lt)
  have Gb14 := Lib.hid (Hb14.out.below HZ.out Hb14.out.lt)
  have Gb15 := Lib.hid (Hb15.out.below HZ.out Hb15.out.lt)
  have Gb16 := Lib.hid (Hb16.out.below HZ.out Hb16.out.lt)
  have Gb18 := Lib.hid (Hb18.out.below HZ.out Hb18.out.lt)
  have Gb20 := Lib.hid (Hb20.out.below HZ.out Hb20.out.lt)
  have Gb21 := Lib.hid (Hb21.out.below HZ.out Hb21.out.lt)
  have Gb22 := Lib.hid (Hb22.out.below HZ.out Hb22.out.lt)
  have Gb24 := Lib.hid (Hb24.out.below HZ.out Hb24.out.lt)
  have GHBP := Lib.hid (HBP.out.trans (HZ.out.mono HBP.out.size))
  have GHBA := Lib.hid (HBA.out.trans (HZ.out.mono HBA.out.size))
  have GHBJ1 := Lib.hid (HBJ1.out.trans (HZ.out.mono HBJ1.out.size))
  have GHBJ2 := Lib.hid (HBJ2.out.trans (HZ.out.mono HBJ2.out.size))
  clear Hb13 Hb14 Hb15 Hb16 Hb18 Hb20 Hb21 Hb22 Hb24 HBP HBA HBJ1 HBJ2 HZ
  have Hb13 := Gb13
  have Hb14 := Gb14
  have Hb15 := Gb15
  have Hb16 := Gb16
  have Hb18 := Gb18
  have Hb20 := Gb20
  have Hb21 := Gb21
  have Hb22 := Gb22
  have Hb24 := Gb24
  have HBP := GHBP
  have HBA := GHBA
  have HBJ1 := GHBJ1
  have HBJ2 := GHBJ2
  clear Gb13 Gb14 Gb15 Gb16 Gb18 Gb20 Gb21 Gb22 Gb24 GHBP GHBA GHBJ1 GHBJ2
  have Hb28 := Lib.hid hnew
  clear hnew
  have HSV : Hid (∀ U, Below Va17.heap.size Va17 U → U.cell? ⟨b28, 0, none⟩ = some (.int .i64 Mx) ∧ U.cell? ⟨b28, 1, none⟩ = some (.int .i64 Mx) ∧ U.cell? ⟨b13, 0, none⟩ = some (.int .i64 Mx) ∧ U.cell? ⟨b13, 1, none⟩ = some (.slice A la.length c)) := fun U hU => by
    have kb28 := Hb28.out.below hU Hb28.out.lt
    have kb13 := Hb13.out.below hU Hb13.out.lt
    exact ⟨kb28.cell 0, kb28.cell 1, kb13.cell 0, kb13.cell 1⟩
  have k0 := HSV.out _ (Below.drew (Below.refl Va17.heap.size Va17))
  refine wp_region_noPanic ?_
  refine wp_region_held_drew (S := (fun w' => w'.cell? ⟨b28, 0, none⟩ = some (.int .i64 Mx) ∧ w'.cell? ⟨b28, 1, none⟩ = some (.int .i64 Mx) ∧ w'.cell? ⟨b13, 0, none⟩ = some (.int .i64 Mx) ∧ w'.cell? ⟨b13, 1, none⟩ = some (.slice A la.length c))) (by kernel_rfl) ?_ (fun hHeld => ?_)
  · (try dsimp only); (exact k0)
  refine wpAnyH_take (i := 0) (oi := osu19_0) (v := ?_) rfl (by kernel_rfl) (by kernel_rfl) (by kernel_rfl) (fun _ _ _ h => h) (Or.inl ⟨by rfl, ?_⟩) (by assumption) ?_
  rotate_left
  · ((intro w hSw; delta osu19_0; (try dsimp only at hSw); go_simp) <;> with_reducible rfl)
  try simp only [osu19_0, Act.put, List.setIfInBounds_toArray, List.set_cons_zero, List.set_cons_succ]
  refine wpAnyH_take (i := 1) (oi := osu19_1) (v := ?_) rfl (by kernel_rfl) (by kernel_rfl) (by kernel_rfl) (fun _ _ _ h => h) (Or.inl ⟨by rfl, ?_⟩) (by assumption) ?_
  rotate_left
  · ((intro w hSw; delta osu19_1; (try dsimp only at hSw); go_simp) <;> with_reducible rfl)
  try simp only [osu19_1, Act.put, List.setIfInBounds_toArray, List.set_cons_zero, List.set_cons_succ]
  refine wpAnyH_take (i := 2) (oi := osu19_2) (v := ?_) rfl (by kernel_rfl) (by kernel_rfl) (by kernel_rfl) (fun _ _ _ h => h) (Or.inl ⟨by rfl, ?_⟩) (by assumption) ?_
  rotate_left
  · ((intro w hSw; delta osu19_2; (try dsimp only at hSw); go_simp) <;> with_reducible rfl)
  try simp only [osu19_2, Act.put, List.setIfInBounds_toArray, List.set_cons_zero, List.set_cons_succ]
  refine wpAnyH_take (i := 3) (oi := osu19_3) (v := ?_) rfl (by kernel_rfl) (by kernel_rfl) (by kernel_rfl) (fun _ _ _ h => h) (Or.inl ⟨by rfl, ?_⟩) (by assumption) ?_
  rotate_left
  · ((intro w hSw; delta osu19_3; (try dsimp only at hSw); go_simp) <;> with_reducible rfl)
  try simp only [osu19_3, Act.put, List.setIfInBounds_toArray, List.set_cons_zero, List.set_cons_succ]
  refine wpAnyH_take (i := 4) (oi := osu19_4) (v := ?_) rfl (by kernel_rfl) (by kernel_rfl) (by kernel_rfl) (fun _ _ _ h => h) (Or.inl ⟨by rfl, ?_⟩) (by assumption) ?_
  rotate_left
  · ((intro w hSw; delta osu19_4; (try dsimp only at hSw); go_simp) <;> with_reducible rfl)
  try simp only [osu19_4, Act.put, List.setIfInBounds_toArray, List.set_cons_zero, List.set_cons_succ]
  refine wpAnyH_take (i := 5) (oi := osu19_5) (v := ?_) rfl (by kernel_rfl) (by kernel_rfl) (by kernel_rfl) (fun _ _ _ h => h) (Or.inl ⟨by rfl, ?_⟩) (by assumption) ?_
  rotate_left
  · ((intro w hSw; delta osu19_5; (try dsimp only at hSw); go_simp) <;> with_reducible rfl)
  try simp only [osu19_5, Act.put, List.setIfInBounds_toArray, List.set_cons_zero, List.set_cons_succ]
  refine wpAnyH_take (i := 6) (oi := osu19_6) (v := ?_) rfl (by kernel_rfl) (by kernel_rfl) (by kernel_rfl) (fun _ _ _ h => h) (Or.inl ⟨by rfl, ?_⟩) (by assumption) ?_
  rotate_left
  · ((intro w hSw; delta osu19_6; (try dsimp only at hSw); go_simp) <;> with_reducible rfl)
  try simp only [osu19_6, Act.put, List.setIfInBounds_toArray, List.set_cons_zero, List.set_cons_succ]
  refine wpAnyH_take (i := 7) (oi := osu19_7) (v := ?_) rfl (by kernel_rfl) (by kernel_rfl) (by kernel_rfl) (fun _ _ _ h => h) (Or.inl ⟨by rfl, ?_⟩) (by assumption) ?_
  rotate_left
  · ((intro w hSw; delta osu19_7; (try dsimp only at hSw); go_simp) <;> with_reducible rfl)
  try simp only [osu19_7, Act.put, List.setIfInBounds_toArray, List.set_cons_zero, List.set_cons_succ]
  obtain ⟨W0, hW0⟩ : ∃ V, Va17.drew = V := ⟨_, rfl⟩; rw [hW0] at hHeld ⊢; have HBV : Hid (Below Va17.heap.size Va17 W0) := (by rw [← hW0]; exact Below.drew (Below.refl _ _)); have HB0 := Lib.hid (Below.refl W0.heap.size W0); clear hW0
  refine wpAnyH_ready (rs := [8]) (by kernel_rfl) (by simp) ?_
  refine AllReadyH.cons (o := osu19_8) rfl (fun K hK => ?_) AllReadyH.nil
  delta osu19_8
  go_simp
  (refine (lspan_any Mx Mx _).mono ?_; rintro e W1 ⟨rfl, hb⟩; have HB1 := Lib.hid (HB0.out.trans (hb.mono HB0.out.size)); clear hb)
  refine hK.out _ _ ?_ (fun hHeld => ?_)
  · (try dsimp only); (exact HSV.out _ (HBV.out.trans (HB1.out.mono HBV.out.size)))
  clear hK K
  try simp only [osu19_8, Act.put, List.setIfInBounds_toArray, List.set_cons_zero, List.set_cons_succ]
  refine wpAnyH_take (i := 9) (oi := osu19_9) (v := ?_) rfl (by kernel_rfl) (by kernel_rfl) (by kernel_rfl) (fun _ _ _ h => h) (Or.inl ⟨by rfl, ?_⟩) (by assumption) ?_
  rotate_left
  · ((intro w hSw; delta osu19_9; (try dsimp only at hSw); go_simp) <;> with_reducible rfl)
  try simp only [osu19_9, Act.put, List.setIfInBounds_toArray, List.set_cons_zero, List.set_cons_succ]
  refine wpAnyH_take (i := 10) (oi := osu19_10) (v := ?_) rfl (by kernel_rfl) (by kernel_rfl) (by kernel_rfl) (fun _ _ _ h => h) (Or.inl ⟨by rfl, ?_⟩) (by assumption) ?_
  rotate_left
  · ((intro w hSw; delta osu19_10; (try dsimp only at hSw); go_simp) <;> with_reducible rfl)
  try simp only [osu19_10, Act.put, List.setIfInBounds_toArray, List.set_cons_zero, List.set_cons_succ]
  refine wpAnyH_take (i := 11) (oi := osu19_11) (v := ?_) rfl (by kernel_rfl) (by kernel_rfl) (by kernel_rfl) (fun _ _ _ h => h) (Or.inl ⟨by rfl, ?_⟩) (by assumption) ?_
  rotate_left
  · ((intro w hSw; delta osu19_11; (try dsimp only at hSw); go_simp) <;> with_reducible rfl)
  try simp only [osu19_11, Act.put, List.setIfInBounds_toArray, List.set_cons_zero, List.set_cons_succ]
  refine wpAnyH_ready (rs := [12]) (by kernel_rfl) (by simp) ?_
  refine AllReadyH.cons (o := osu19_12) rfl (fun K hK => ?_) AllReadyH.nil
  delta osu19_12
  go_simp
  (refine (works2_any _).mono ?_; rintro e W2 ⟨rfl, hb⟩; have HB2 := Lib.hid (HB1.out.trans (hb.mono HB1.out.size)); clear hb)
  refine hK.out _ _ ?_ (fun hHeld => ?_)
  · (try dsimp only); (exact HSV.out _ (HBV.out.trans (HB2.out.mono HBV.out.size)))
  clear hK K
  try simp only [osu19_12, Act.put, List.setIfInBounds_toArray, List.set_cons_zero, List.set_cons_succ]
  refine wpAnyH_take (i := 13) (oi := osu19_13) (v := ?_) rfl (by kernel_rfl) (by kernel_rfl) (by kernel_rfl) (fun _ _ _ h => h) (Or.inl ⟨by rfl, ?_⟩) (by assumption) ?_
  rotate_left
  · ((intro w hSw; delta osu19_13; (try dsimp only at hSw); go_simp) <;> with_reducible rfl)
  try simp only [osu19_13, Act.put, List.setIfInBounds_toArray, List.set_cons_zero, List.set_cons_succ]
  refine wpAnyH_take (i := 14) (oi := osu19_14) (v := ?_) rfl (by kernel_rfl) (by kernel_rfl) (by kernel_rfl) (fun _ _ _ h => h) (Or.inl ⟨by rfl, ?_⟩) (by assumption) ?_
  rotate_left
  · ((intro w hSw; delta osu19_14; (try dsimp only at hSw); go_simp) <;> with_reducible rfl)
  try simp only [osu19_14, Act.put, List.setIfInBounds_toArray, List.set_cons_zero, List.set_cons_succ]
  refine wpAnyH_done (by kernel_rfl) ?_ _
  refine NoPanic.normal ?_
  have HBE := HBP.out.trans ((HBV.out.trans (HB2.out.mono HBV.out.size)).mono HBP.out.size)
  go_wp2
  go_ret
  exact ⟨rfl, HBE⟩
end Go.Proofs.Ytfblpokjbopagaa
/-
  TideSums is a row of the program.
-/
namespace Go.Proofs.Ytfblpokjbopagaa.TideSums
open Go.ChangeShapes Go.WideShapes Go.ChangeAt Go.WideMaps Go.WideElems Go.RowKit

set_option maxRecDepth 100000 in
theorem lifted (os : Os) (started : os.Started) (H : Type) (enc : TypeId × Value → H) :
    ReturnsInHanded {} Try.checked os 10 .any (Rows.tideSumsSpec.pre6 enc Try.prog Try.f10 Rows.tideSumsRow.domain false) (Rows.tideSumsSpec.post enc Try.prog Try.f10 false true false false) := by
  refine returnsInHanded_of_change (C := Try.checked) own_ started (by kernel_rfl) Try.func10
    (ChangeSpec.witness6 (enc := enc) (C := Try.checked) false ⟨#[], #[.int .i16 0, .int .i16 0, .slice none 0 0, .slice none 0 0, .int .u32 0, .int .u32 0], []⟩ 8 (by kernel_rfl) (by kernel_rfl) (by kernel_rfl) (by kernel_rfl)) ?_
  intro W base args ds gs before hval0 hW hcnd _
  have hval : ∀ (j : Nat) t v, Try.f10.params[j]? = some t → args[j]? = some v → Value.okWide Try.prog W .any base t v := hval0
  have hW' := hW
  obtain ⟨p, q, hA0, hV, rfl, hfz, hnd⟩ := hW
  have hA : DataW.TrodAll enc Try.prog W 0 (fun _ => true) true Try.f10.params.toList args.toList ds p := hA0
  rw [Try.params10] at hA hval
  obtain ⟨v0, vs0, d0, ds0, p0, q0, hargs, rfl, rfl, h0, r0⟩ := trodAll_cons hA
  obtain ⟨v1, vs1, d1, ds1, p1, q1, rfl, rfl, rfl, h1, r1⟩ := trodAll_cons r0
  obtain ⟨v2, vs2, d2, ds2, p2, q2, rfl, rfl, rfl, h2, r2⟩ := trodAll_cons r1
  obtain ⟨v3, vs3, d3, ds3, p3, q3, rfl, rfl, rfl, h3, r3⟩ := trodAll_cons r2
  obtain ⟨v4, vs4, d4, ds4, p4, q4, rfl, rfl, rfl, h4, r4⟩ := trodAll_cons r3
  obtain ⟨v5, vs5, d5, ds5, p5, q5, rfl, rfl, rfl, h5, r5⟩ := trodAll_cons r4
  obtain ⟨rfl, rfl, rfl⟩ := trodAll_nil r5
  obtain rfl : args = #[v0, v1, v2, v3, v4, v5] := by cases args; simp_all
  obtain ⟨rfl, rfl⟩ := trodVars_none hV
  obtain ⟨a0, rfl, _, _, w0⟩ := open_int Try.underlying65 (hval 0 65 v0 rfl rfl) h0
  have w0 := wf_i16 w0
  obtain ⟨a1, rfl, _, _, w1⟩ := open_int Try.underlying65 (hval 1 65 v1 rfl rfl) h1
  have w1 := wf_i16 w1
  obtain ⟨l2, hl2, hr2⟩ := trips_open (hval 2 66 v2 rfl rfl) h2
  obtain ⟨l3, hl3, hr3⟩ := trips_open (hval 3 66 v3 rfl rfl) h3
  obtain ⟨a4, rfl, _, _, w4⟩ := open_int Try.underlying67 (hval 4 67 v4 rfl rfl) h4
  have w4 := wf_u32 w4
  obtain ⟨a5, rfl, _, _, w5⟩ := open_int Try.underlying67 (hval 5 67 v5 rfl rfl) h5
  have w5 := wf_u32 w5
  clear hA0 hval0
  simp only [List.append_nil] at hW'
  have hlt : ∀ x ∈ p0 ++ p1 ++ p2 ++ p3 ++ p4 ++ p5, x.block < W.heap.size := fun x hx => by simpa using hW'.lt x (by simpa using hx)
  have k0 : ∀ x ∈ p0, x.block < W.heap.size := fun x hx => hlt x (by simp [hx])
  have k1 : ∀ x ∈ p1, x.block < W.heap.size := fun x hx => hlt x (by simp [hx])
  have k2 : ∀ x ∈ p2, x.block < W.heap.size := fun x hx => hlt x (by simp [hx])
  have k3 : ∀ x ∈ p3, x.block < W.heap.size := fun x hx => hlt x (by simp [hx])
  have k4 : ∀ x ∈ p4, x.block < W.heap.size := fun x hx => hlt x (by simp [hx])
  have k5 : ∀ x ∈ p5, x.block < W.heap.size := fun x hx => hlt x (by simp [hx])
  refine (TideSums_any a0 a1 a4 a5 v2 v3 l2 l3 W hl2 hl3 hr2 hr3 w0 w1 w4 w5).mono ?_
  rintro e W' ⟨rfl, bel⟩
  refine ⟨_, rfl, _, _, _, [], (p0 ++ (p1 ++ (p2 ++ (p3 ++ (p4 ++ (p5 ++ [])))))), [], hW', ?_, ?_, ?_, bel.frame _, fun h => by cases h⟩
  · exact trodAll_mk1 (shut_bool Try.underlying4 true)
  · exact (trodAll_cons_mk (Below.trod laid_out (by kernel_rfl) (of_decide_eq_true (by kernel_rfl)) h0 bel k0) (trodAll_cons_mk (Below.trod laid_out (by kernel_rfl) (of_decide_eq_true (by kernel_rfl)) h1 bel k1) (trodAll_cons_mk (Below.trod laid_out (by kernel_rfl) (of_decide_eq_true (by kernel_rfl)) h2 bel k2) (trodAll_cons_mk (Below.trod laid_out (by kernel_rfl) (of_decide_eq_true (by kernel_rfl)) h3 bel k3) (trodAll_cons_mk (Below.trod laid_out (by kernel_rfl) (of_decide_eq_true (by kernel_rfl)) h4 bel k4) (trodAll_cons_mk (Below.trod laid_out (by kernel_rfl) (of_decide_eq_true (by kernel_rfl)) h5 bel k5) trodAll_mk0))))))
  · rfl
set_option maxRecDepth 100000 in
theorem over : Rows.tideSumsRow.holds Try.pinned (OpenSpec.ofChange Rows.tideSumsSpec) :=
  OpenClaim.holds_of_wide 10 Try.f10 rfl rfl rfl rfl rfl rfl rfl ⟨rfl, rfl, rfl, rfl, rfl⟩ rfl rfl rfl rfl rfl (by kernel_rfl) Try.func10 (by kernel_rfl)
    (of_decide_eq_true (by kernel_rfl)) (by unfold Func.isWrapper; first | (rw [if_pos (by decide +kernel)]; kernel_rfl) | (rw [if_neg (by decide +kernel)]; exact ⟨rfl, rfl⟩))
    (fun os started H enc _ => lifted os started H enc)
end Go.Proofs.Ytfblpokjbopagaa.TideSums
namespace Go.Proofs.Ytfblpokjbopagaa
theorem TideSums_row : Rows.TideSumsSaid := TideSums.over
#print axioms TideSums_row
end Go.Proofs.Ytfblpokjbopagaa
