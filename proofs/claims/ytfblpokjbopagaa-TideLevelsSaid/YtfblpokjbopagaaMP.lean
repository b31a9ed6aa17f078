/-
  Layer 2: the laws' example, and works: the examples of the chapter.
-/
import Derived.Test.YtfblpokjbopagaaMN
import Derived.Test.YtfblpokjbopagaaMO
import Derived.Test.YtfblpokjbopagaaMG
set_option linter.unusedSimpArgs false
set_option linter.unusedVariables false
namespace Go.Proofs.Ytfblpokjbopagaa
open Go.RowKit

def EXP : List Prt := [(100, 3600000, 0), (50, 7200000, 900)]
def EX : Md := ⟨10, EXP⟩
theorem ex_cos : cosV (450, 450) = (46340, 46341) ∧ cosV (-10, 10) = (65526, 65536) ∧ cosV (600, 3000) = (-65536, 32768) ∧ cosE (450, 450) = 0 ∧ cosE (-10, 10) = 0 ∧ cosE (600, 3000) = 0 := by decide +kernel
theorem ex_lev : levV EX (1800000, 1800000) = (-40, -40) ∧ levV EX (900000, 900000) = (45, 46) ∧ levV EX (0, 3600000) = (-90, 160) ∧ levE EX (1800000, 1800000) = 0 ∧ levE EX (900000, 900000) = 0 ∧ levE EX (0, 3600000) = 0 := by decide +kernel
theorem ex_rng : rngV EX = (-140, 160) ∧ mdE EX = 0 := by decide +kernel
theorem ex_peak : pkV EX (0, 3600000) 600000 = (110, 135) ∧ pcsE EX (0, 3600000) 600000 = 0 := by decide +kernel
theorem ex_win : winV EX (0, 3600000) 600000 20 = [(1200000, 2400000)] ∧ winE EX (0, 3600000) 600000 20 = 0 := by decide +kernel
theorem ex_join : joinE EX EX = 0 ∧ (joinV EX EX).mean = 20 ∧ (joinV EX EX).ps.length = 4 := by decide +kernel
set_option maxRecDepth 100000 in
theorem example_any (w : World) :
    Calls Try.prog 40 #[] w fun e w' => ∃ g, e = .returned (.agg #[.int .i64 10, .slice (some ⟨g, 0, none⟩) 2 2]) ∧ w'.ownsRow w.heap.size 70 3 (.slice (some ⟨g, 0, none⟩) 2 2) 2 (prtCells EXP) ∧ Below w.heap.size w w' := by
  go_enter Try.func40, Try.ntmps40
  go_wp2
  refine bodyPost_ret (v := .agg #[.int .i64 10, .slice (some ⟨w.heap.size + 1, 0, none⟩) 2 2]) (by simp [results, Try.results40, go_sem]) rfl ⟨_, rfl, ⟨rfl, Or.inr ⟨w.heap.size + 1, 2, _, rfl, by omega, Blk.new' _ _ _ (by simp), Nat.le_refl _, by unfold maxLen; omega, rfl, rfl⟩⟩, ?_⟩
  exact (by repeat (first | exact Below.refl _ _ | assumption | refine Below.drew ?_ | refine Below.drewN' ?_ _ | (refine Below.alloc ?_ (by simp <;> omega) _) | (refine Below.setCell ?_ (by simp <;> omega) _)))
theorem cosx0 (w : World) : Calls Try.prog 11 #[.agg #[.int .i64 (450), .int .i64 (450)]] w fun e w' => e = .returned (.tuple #[.agg #[.int .i64 (46340), .int .i64 (46341)], .int .i64 0]) ∧ Below w.heap.size w w' := by
  have h := tCos_any (450) (450) w
  rw [ex_cos.1, ex_cos.2.2.2.1] at h
  exact h
theorem cosx1 (w : World) : Calls Try.prog 11 #[.agg #[.int .i64 (-10), .int .i64 (10)]] w fun e w' => e = .returned (.tuple #[.agg #[.int .i64 (65526), .int .i64 (65536)], .int .i64 0]) ∧ Below w.heap.size w w' := by
  have h := tCos_any (-10) (10) w
  rw [ex_cos.2.1, ex_cos.2.2.2.2.1] at h
  exact h
theorem cosx2 (w : World) : Calls Try.prog 11 #[.agg #[.int .i64 (600), .int .i64 (3000)]] w fun e w' => e = .returned (.tuple #[.agg #[.int .i64 (-65536), .int .i64 (32768)], .int .i64 0]) ∧ Below w.heap.size w w' := by
  have h := tCos_any (600) (3000) w
  rw [ex_cos.2.2.1, ex_cos.2.2.2.2.2] at h
  exact h
theorem levx0 (w : World) (g : Nat) (h : PrtsAt w w.heap.size (.slice (some ⟨g, 0, none⟩) 2 2) EXP) : Calls Try.prog 17 #[.agg #[.int .i64 10, .slice (some ⟨g, 0, none⟩) 2 2], .agg #[.int .i64 (1800000), .int .i64 (1800000)]] w fun e w' => e = .returned (.tuple #[.agg #[.int .i64 (-40), .int .i64 (-40)], .int .i64 0]) ∧ Below w.heap.size w w' := by
  have h2 := tLevel_any (.agg #[.int .i64 10, .slice (some ⟨g, 0, none⟩) 2 2]) EX (1800000) (1800000) w ⟨_, rfl, h⟩
  rw [ex_lev.1, ex_lev.2.2.2.1] at h2
  exact h2
theorem levx1 (w : World) (g : Nat) (h : PrtsAt w w.heap.size (.slice (some ⟨g, 0, none⟩) 2 2) EXP) : Calls Try.prog 17 #[.agg #[.int .i64 10, .slice (some ⟨g, 0, none⟩) 2 2], .agg #[.int .i64 (900000), .int .i64 (900000)]] w fun e w' => e = .returned (.tuple #[.agg #[.int .i64 (45), .int .i64 (46)], .int .i64 0]) ∧ Below w.heap.size w w' := by
  have h2 := tLevel_any (.agg #[.int .i64 10, .slice (some ⟨g, 0, none⟩) 2 2]) EX (900000) (900000) w ⟨_, rfl, h⟩
  rw [ex_lev.2.1, ex_lev.2.2.2.2.1] at h2
  exact h2
theorem levx2 (w : World) (g : Nat) (h : PrtsAt w w.heap.size (.slice (some ⟨g, 0, none⟩) 2 2) EXP) : Calls Try.prog 17 #[.agg #[.int .i64 10, .slice (some ⟨g, 0, none⟩) 2 2], .agg #[.int .i64 (0), .int .i64 (3600000)]] w fun e w' => e = .returned (.tuple #[.agg #[.int .i64 (-90), .int .i64 (160)], .int .i64 0]) ∧ Below w.heap.size w w' := by
  have h2 := tLevel_any (.agg #[.int .i64 10, .slice (some ⟨g, 0, none⟩) 2 2]) EX (0) (3600000) w ⟨_, rfl, h⟩
  rw [ex_lev.2.2.1, ex_lev.2.2.2.2.2] at h2
  exact h2
theorem rngx (w : World) (g : Nat) (h : PrtsAt w w.heap.size (.slice (some ⟨g, 0, none⟩) 2 2) EXP) : Calls Try.prog 19 #[.agg #[.int .i64 10, .slice (some ⟨g, 0, none⟩) 2 2]] w fun e w' => e = .returned (.tuple #[.agg #[.int .i64 (-140), .int .i64 (160)], .int .i64 0]) ∧ Below w.heap.size w w' := by
  have h2 := tRange_any (.agg #[.int .i64 10, .slice (some ⟨g, 0, none⟩) 2 2]) EX w ⟨_, rfl, h⟩
  rw [ex_rng.1, ex_rng.2] at h2
  exact h2
theorem peakx (w : World) (g : Nat) (h : PrtsAt w w.heap.size (.slice (some ⟨g, 0, none⟩) 2 2) EXP) : Calls Try.prog 24 #[.agg #[.int .i64 10, .slice (some ⟨g, 0, none⟩) 2 2], .agg #[.int .i64 (0), .int .i64 (3600000)], .int .i64 600000] w fun e w' => e = .returned (.tuple #[.agg #[.int .i64 (110), .int .i64 (135)], .int .i64 0]) ∧ Below w.heap.size w w' := by
  have h2 := tPeak_any (.agg #[.int .i64 10, .slice (some ⟨g, 0, none⟩) 2 2]) EX 0 3600000 600000 w ⟨_, rfl, h⟩ (by omega)
  rw [ex_peak.1, ex_peak.2] at h2
  exact h2
theorem winx (w : World) (g : Nat) (h : PrtsAt w w.heap.size (.slice (some ⟨g, 0, none⟩) 2 2) EXP) : Calls Try.prog 26 #[.agg #[.int .i64 10, .slice (some ⟨g, 0, none⟩) 2 2], .agg #[.int .i64 (0), .int .i64 (3600000)], .int .i64 600000, .int .i64 20] w fun e w' => ∃ y, e = .returned (.tuple #[y, .int .i64 0]) ∧ SpansAt w' w'.heap.size y [(1200000, 2400000)] ∧ Below w.heap.size w w' := by
  have h2 := tWindows_any (.agg #[.int .i64 10, .slice (some ⟨g, 0, none⟩) 2 2]) EX 0 3600000 600000 20 w ⟨_, rfl, h⟩ (by omega)
  rw [ex_win.1, ex_win.2] at h2
  exact h2
theorem joinx (w : World) (g : Nat) (h : PrtsAt w w.heap.size (.slice (some ⟨g, 0, none⟩) 2 2) EXP) : Calls Try.prog 21 #[.agg #[.int .i64 10, .slice (some ⟨g, 0, none⟩) 2 2], .agg #[.int .i64 10, .slice (some ⟨g, 0, none⟩) 2 2]] w fun e w' => ∃ A n, e = .returned (.tuple #[.agg #[.int .i64 20, .slice A 4 n], .int .i64 0]) ∧ Below w.heap.size w w' := by
  refine (tJoin_any (.slice (some ⟨g, 0, none⟩) 2 2) (.slice (some ⟨g, 0, none⟩) 2 2) EX EX w h h (Or.inr ⟨_, _, _, rfl⟩) (Or.inr ⟨_, _, _, rfl⟩)).mono ?_
  rintro e w' ⟨y, rfl, hp, -, hb⟩
  obtain ⟨A, c, rfl, -, -⟩ := hp.open_
  rw [ex_join.1, ex_join.2.1, ex_join.2.2]
  exact ⟨A, c, rfl, hb⟩
def owk14_0 : Oper := { dst := some 107, op := Op.load 35 (Operand.tmp 7), type := 35, pos := "law.go:48", after := #[], guard := none }
def owk14_1 : Oper := { dst := some 108, op := Op.call { callee := Callee.value (Operand.func 30), args := #[Operand.const (Value.int IntKind.i64 0), Operand.const (Value.int IntKind.i64 3600000)], argTypes := #[3, 3] }, type := 23, pos := "law.go:48", after := #[], guard := none }
def owk14_2 : Oper := { dst := some 109, op := Op.call { callee := Callee.value (Operand.func 26), args := #[Operand.tmp 107, Operand.tmp 108, Operand.const (Value.int IntKind.i64 600000), Operand.const (Value.int IntKind.i64 20)], argTypes := #[35, 23, 3, 3] }, type := 51, pos := "law.go:48", after := #[{ on := 0, ground := Ground.data }, { on := 1, ground := Ground.data }, { on := 1, ground := Ground.chain }], guard := none }
def owk14_3 : Oper := { dst := some 106, op := Op.move (Operand.tmp 109), type := 51, pos := "law.go:48", after := #[{ on := 2, ground := Ground.data }], guard := none }
def owk14_4 : Oper := { dst := some 110, op := Op.extract (Operand.tmp 106) 0, type := 50, pos := "law.go:48", after := #[{ on := 3, ground := Ground.data }], guard := none }
def owk14_5 : Oper := { dst := some 111, op := Op.extract (Operand.tmp 106) 1, type := 24, pos := "law.go:48", after := #[{ on := 3, ground := Ground.data }, { on := 6, ground := Ground.gcOnly Departure.lateStores }], guard := none }
def owk14_6 : Oper := { dst := some 8, op := Op.assign (Operand.tmp 110), type := 50, pos := "law.go:48", after := #[{ on := 4, ground := Ground.data }, { on := 2, ground := Ground.chain }, { on := 0, ground := Ground.phase }, { on := 1, ground := Ground.phase }, { on := 2, ground := Ground.phase }, { on := 3, ground := Ground.phase }, { on := 4, ground := Ground.phase }, { on := 5, ground := Ground.textOnly Departure.lateStores }], guard := none }
def owk14_7 : Oper := { dst := some 6, op := Op.assign (Operand.tmp 111), type := 24, pos := "law.go:48", after := #[{ on := 5, ground := Ground.data }, { on := 6, ground := Ground.chain }, { on := 0, ground := Ground.phase }, { on := 1, ground := Ground.phase }, { on := 2, ground := Ground.phase }, { on := 3, ground := Ground.phase }, { on := 4, ground := Ground.phase }, { on := 5, ground := Ground.phase }, { on := 6, ground := Ground.phase }], guard := none }
def owk16_0 : Oper := { dst := some 118, op := Op.move (Operand.tmp 2), type := 24, pos := "law.go:50", after := #[], guard := none }
def owk16_1 : Oper := { dst := some 119, op := Op.binOp BinOp.eql 24 (Operand.tmp 118) (Operand.const (Value.int IntKind.i64 0)) 24, type := 4, pos := "law.go:50", after := #[{ on := 0, ground := Ground.data }], guard := none }
def owk16_2 : Oper := { dst := some 120, op := Op.move (Operand.tmp 119), type := 4, pos := "law.go:50", after := #[{ on := 1, ground := Ground.data }], guard := none }
def owk16_3 : Oper := { dst := some 121, op := Op.move (Operand.tmp 4), type := 24, pos := "law.go:50", after := #[{ on := 2, ground := Ground.guard }], guard := some (2, true) }
def owk16_4 : Oper := { dst := some 122, op := Op.binOp BinOp.eql 24 (Operand.tmp 121) (Operand.const (Value.int IntKind.i64 0)) 24, type := 4, pos := "law.go:50", after := #[{ on := 3, ground := Ground.data }, { on := 2, ground := Ground.guard }], guard := some (2, true) }
def owk16_5 : Oper := { dst := some 123, op := Op.pick (Operand.tmp 120) (Operand.tmp 122) (Operand.const (Value.bool false)), type := 4, pos := "law.go:50", after := #[{ on := 2, ground := Ground.data }, { on := 4, ground := Ground.data }], guard := none }
def owk16_6 : Oper := { dst := some 124, op := Op.move (Operand.tmp 123), type := 4, pos := "law.go:50", after := #[{ on := 5, ground := Ground.data }, { on := 2, ground := Ground.chain }], guard := none }
def owk16_7 : Oper := { dst := some 125, op := Op.move (Operand.tmp 6), type := 24, pos := "law.go:50", after := #[{ on := 6, ground := Ground.guard }], guard := some (6, true) }
def owk16_8 : Oper := { dst := some 126, op := Op.binOp BinOp.eql 24 (Operand.tmp 125) (Operand.const (Value.int IntKind.i64 0)) 24, type := 4, pos := "law.go:50", after := #[{ on := 7, ground := Ground.data }, { on := 6, ground := Ground.guard }], guard := some (6, true) }
def owk16_9 : Oper := { dst := some 127, op := Op.pick (Operand.tmp 124) (Operand.tmp 126) (Operand.const (Value.bool false)), type := 4, pos := "law.go:50", after := #[{ on := 6, ground := Ground.data }, { on := 8, ground := Ground.data }], guard := none }
def owk16_10 : Oper := { dst := some 128, op := Op.move (Operand.tmp 127), type := 4, pos := "law.go:50", after := #[{ on := 9, ground := Ground.data }, { on := 6, ground := Ground.chain }], guard := none }
def owk16_11 : Oper := { dst := some 129, op := Op.move (Operand.tmp 10), type := 24, pos := "law.go:50", after := #[{ on := 10, ground := Ground.guard }], guard := some (10, true) }
def owk16_12 : Oper := { dst := some 130, op := Op.binOp BinOp.eql 24 (Operand.tmp 129) (Operand.const (Value.int IntKind.i64 0)) 24, type := 4, pos := "law.go:50", after := #[{ on := 11, ground := Ground.data }, { on := 10, ground := Ground.guard }], guard := some (10, true) }
def owk16_13 : Oper := { dst := some 131, op := Op.pick (Operand.tmp 128) (Operand.tmp 130) (Operand.const (Value.bool false)), type := 4, pos := "law.go:50", after := #[{ on := 10, ground := Ground.data }, { on := 12, ground := Ground.data }], guard := none }
def owk16_14 : Oper := { dst := some 132, op := Op.move (Operand.tmp 131), type := 4, pos := "law.go:50", after := #[{ on := 13, ground := Ground.data }, { on := 10, ground := Ground.chain }], guard := none }
def owk16_15 : Oper := { dst := some 133, op := Op.load 23 (Operand.tmp 1), type := 23, pos := "law.go:50", after := #[{ on := 14, ground := Ground.guard }], guard := some (14, true) }
def owk16_16 : Oper := { dst := some 134, op := Op.call { callee := Callee.value (Operand.func 30), args := #[Operand.const (Value.int IntKind.i64 (-140)), Operand.const (Value.int IntKind.i64 160)], argTypes := #[3, 3] }, type := 23, pos := "law.go:50", after := #[{ on := 14, ground := Ground.chain }, { on := 14, ground := Ground.guard }], guard := some (14, true) }
def owk16_17 : Oper := { dst := some 135, op := Op.binOp BinOp.eql 23 (Operand.tmp 133) (Operand.tmp 134) 23, type := 4, pos := "law.go:50", after := #[{ on := 15, ground := Ground.data }, { on := 16, ground := Ground.data }, { on := 14, ground := Ground.guard }], guard := some (14, true) }
def owk16_18 : Oper := { dst := some 136, op := Op.pick (Operand.tmp 132) (Operand.tmp 135) (Operand.const (Value.bool false)), type := 4, pos := "law.go:50", after := #[{ on := 14, ground := Ground.data }, { on := 17, ground := Ground.data }], guard := none }
def owk16_19 : Oper := { dst := some 137, op := Op.move (Operand.tmp 136), type := 4, pos := "law.go:50", after := #[{ on := 18, ground := Ground.data }, { on := 16, ground := Ground.chain }], guard := none }
def owk16_20 : Oper := { dst := some 138, op := Op.load 23 (Operand.tmp 3), type := 23, pos := "law.go:50", after := #[{ on := 19, ground := Ground.guard }], guard := some (19, true) }
def owk16_21 : Oper := { dst := some 139, op := Op.call { callee := Callee.value (Operand.func 30), args := #[Operand.const (Value.int IntKind.i64 110), Operand.const (Value.int IntKind.i64 135)], argTypes := #[3, 3] }, type := 23, pos := "law.go:50", after := #[{ on := 19, ground := Ground.chain }, { on := 19, ground := Ground.guard }], guard := some (19, true) }
def owk16_22 : Oper := { dst := some 140, op := Op.binOp BinOp.eql 23 (Operand.tmp 138) (Operand.tmp 139) 23, type := 4, pos := "law.go:50", after := #[{ on := 20, ground := Ground.data }, { on := 21, ground := Ground.data }, { on := 19, ground := Ground.guard }], guard := some (19, true) }
def owk16_23 : Oper := { dst := some 141, op := Op.pick (Operand.tmp 137) (Operand.tmp 140) (Operand.const (Value.bool false)), type := 4, pos := "law.go:50", after := #[{ on := 19, ground := Ground.data }, { on := 22, ground := Ground.data }], guard := none }
def owk16_24 : Oper := { dst := some 142, op := Op.move (Operand.tmp 141), type := 4, pos := "law.go:50", after := #[{ on := 23, ground := Ground.data }, { on := 21, ground := Ground.chain }], guard := none }
def owk16_25 : Oper := { dst := some 143, op := Op.move (Operand.tmp 8), type := 50, pos := "law.go:50", after := #[{ on := 24, ground := Ground.guard }], guard := some (24, true) }
def owk16_26 : Oper := { dst := some 144, op := Op.call { callee := Callee.value (Operand.func 30), args := #[Operand.const (Value.int IntKind.i64 1200000), Operand.const (Value.int IntKind.i64 2400000)], argTypes := #[3, 3] }, type := 23, pos := "law.go:50", after := #[{ on := 24, ground := Ground.chain }, { on := 24, ground := Ground.guard }], guard := some (24, true) }
def owk16_27 : Oper := { dst := some 145, op := Op.buildSlice 50 1 #[(0, Operand.tmp 144)], type := 50, pos := "law.go:50", after := #[{ on := 26, ground := Ground.data }, { on := 24, ground := Ground.guard }], guard := some (24, true) }
def owk16_28 : Oper := { dst := some 146, op := Op.call { callee := Callee.value (Operand.func 28), args := #[Operand.tmp 143, Operand.tmp 145], argTypes := #[50, 50] }, type := 4, pos := "law.go:50", after := #[{ on := 25, ground := Ground.data }, { on := 27, ground := Ground.data }, { on := 26, ground := Ground.chain }, { on := 24, ground := Ground.guard }], guard := some (24, true) }
def owk16_29 : Oper := { dst := some 147, op := Op.pick (Operand.tmp 142) (Operand.tmp 146) (Operand.const (Value.bool false)), type := 4, pos := "law.go:50", after := #[{ on := 24, ground := Ground.data }, { on := 28, ground := Ground.data }], guard := none }
def owk16_30 : Oper := { dst := some 148, op := Op.move (Operand.tmp 147), type := 4, pos := "law.go:50", after := #[{ on := 29, ground := Ground.data }, { on := 28, ground := Ground.chain }], guard := none }
def owk16_31 : Oper := { dst := some 149, op := Op.fieldAddr 35 (Operand.tmp 9) 0, type := 0, pos := "law.go:50", after := #[{ on := 30, ground := Ground.guard }], guard := some (30, true) }
def owk16_32 : Oper := { dst := some 150, op := Op.load 3 (Operand.tmp 149), type := 3, pos := "law.go:50", after := #[{ on := 31, ground := Ground.data }, { on := 30, ground := Ground.guard }], guard := some (30, true) }
def owk16_33 : Oper := { dst := some 151, op := Op.binOp BinOp.eql 3 (Operand.tmp 150) (Operand.const (Value.int IntKind.i64 20)) 3, type := 4, pos := "law.go:50", after := #[{ on := 32, ground := Ground.data }, { on := 30, ground := Ground.guard }], guard := some (30, true) }
def owk16_34 : Oper := { dst := some 152, op := Op.pick (Operand.tmp 148) (Operand.tmp 151) (Operand.const (Value.bool false)), type := 4, pos := "law.go:50", after := #[{ on := 30, ground := Ground.data }, { on := 33, ground := Ground.data }], guard := none }
def owk16_35 : Oper := { dst := some 153, op := Op.move (Operand.tmp 152), type := 4, pos := "law.go:50", after := #[{ on := 34, ground := Ground.data }, { on := 30, ground := Ground.chain }], guard := none }
def owk16_36 : Oper := { dst := some 154, op := Op.fieldAddr 35 (Operand.tmp 9) 1, type := 0, pos := "law.go:50", after := #[{ on := 35, ground := Ground.guard }], guard := some (35, true) }
def owk16_37 : Oper := { dst := some 155, op := Op.load 33 (Operand.tmp 154), type := 33, pos := "law.go:50", after := #[{ on := 36, ground := Ground.data }, { on := 35, ground := Ground.guard }], guard := some (35, true) }
def owk16_38 : Oper := { dst := some 156, op := Op.call { callee := Callee.builtin Builtin.len, args := #[Operand.tmp 155], argTypes := #[33] }, type := 3, pos := "law.go:50", after := #[{ on := 37, ground := Ground.data }, { on := 35, ground := Ground.guard }], guard := some (35, true) }
def owk16_39 : Oper := { dst := some 157, op := Op.binOp BinOp.eql 3 (Operand.tmp 156) (Operand.const (Value.int IntKind.i64 4)) 3, type := 4, pos := "law.go:50", after := #[{ on := 38, ground := Ground.data }, { on := 35, ground := Ground.guard }], guard := some (35, true) }
def owk16_40 : Oper := { dst := some 158, op := Op.pick (Operand.tmp 153) (Operand.tmp 157) (Operand.const (Value.bool false)), type := 4, pos := "law.go:50", after := #[{ on := 35, ground := Ground.data }, { on := 39, ground := Ground.data }], guard := none }
def owk16_41 : Oper := { dst := some 0, op := Op.assign (Operand.tmp 158), type := 4, pos := "law.go:50", after := #[{ on := 40, ground := Ground.data }, { on := 35, ground := Ground.chain }, { on := 0, ground := Ground.phase }, { on := 1, ground := Ground.phase }, { on := 2, ground := Ground.phase }, { on := 3, ground := Ground.phase }, { on := 4, ground := Ground.phase }, { on := 5, ground := Ground.phase }, { on := 6, ground := Ground.phase }, { on := 7, ground := Ground.phase }, { on := 8, ground := Ground.phase }, { on := 9, ground := Ground.phase }, { on := 10, ground := Ground.phase }, { on := 11, ground := Ground.phase }, { on := 12, ground := Ground.phase }, { on := 13, ground := Ground.phase }, { on := 14, ground := Ground.phase }, { on := 15, ground := Ground.phase }, { on := 16, ground := Ground.phase }, { on := 17, ground := Ground.phase }, { on := 18, ground := Ground.phase }, { on := 19, ground := Ground.phase }, { on := 20, ground := Ground.phase }, { on := 21, ground := Ground.phase }, { on := 22, ground := Ground.phase }, { on := 23, ground := Ground.phase }, { on := 24, ground := Ground.phase }, { on := 25, ground := Ground.phase }, { on := 26, ground := Ground.phase }, { on := 27, ground := Ground.phase }, { on := 28, ground := Ground.phase }, { on := 29, ground := Ground.phase }, { on := 30, ground := Ground.phase }, { on := 31, ground := Ground.phase }, { on := 32, ground := Ground.phase }, { on := 33, ground := Ground.phase }, { on := 34, ground := Ground.phase }, { on := 35, ground := Ground.phase }, { on := 36, ground := Ground.phase }, { on := 37, ground := Ground.phase }, { on := 38, ground := Ground.phase }, { on := 39, ground := Ground.phase }, { on := 40, ground := Ground.phase }], guard := none }
def owk7_0 : Oper := { dst := some 53, op := Op.load 35 (Operand.tmp 7), type := 35, pos := "law.go:40", after := #[], guard := none }
def owk7_1 : Oper := { dst := some 54, op := Op.call { callee := Callee.value (Operand.func 30), args := #[Operand.const (Value.int IntKind.i64 1800000), Operand.const (Value.int IntKind.i64 1800000)], argTypes := #[3, 3] }, type := 23, pos := "law.go:40", after := #[], guard := none }
def owk7_2 : Oper := { dst := some 55, op := Op.call { callee := Callee.value (Operand.func 17), args := #[Operand.tmp 53, Operand.tmp 54], argTypes := #[35, 23] }, type := 25, pos := "law.go:40", after := #[{ on := 0, ground := Ground.data }, { on := 1, ground := Ground.data }, { on := 1, ground := Ground.chain }], guard := none }
def owk7_3 : Oper := { dst := some 52, op := Op.move (Operand.tmp 55), type := 25, pos := "law.go:40", after := #[{ on := 2, ground := Ground.data }], guard := none }
def owk7_4 : Oper := { dst := some 56, op := Op.extract (Operand.tmp 52) 0, type := 23, pos := "law.go:40", after := #[{ on := 3, ground := Ground.data }], guard := none }
def owk7_5 : Oper := { dst := some 57, op := Op.extract (Operand.tmp 52) 1, type := 24, pos := "law.go:40", after := #[{ on := 3, ground := Ground.data }, { on := 6, ground := Ground.gcOnly Departure.lateStores }], guard := none }
def owk7_6 : Oper := { dst := none, op := Op.store 23 (Operand.tmp 1) (Operand.tmp 56), type := 0, pos := "law.go:40", after := #[{ on := 4, ground := Ground.data }, { on := 2, ground := Ground.chain }, { on := 0, ground := Ground.phase }, { on := 1, ground := Ground.phase }, { on := 2, ground := Ground.phase }, { on := 3, ground := Ground.phase }, { on := 4, ground := Ground.phase }, { on := 5, ground := Ground.textOnly Departure.lateStores }], guard := none }
def owk7_7 : Oper := { dst := some 2, op := Op.assign (Operand.tmp 57), type := 24, pos := "law.go:40", after := #[{ on := 5, ground := Ground.data }, { on := 6, ground := Ground.chain }, { on := 0, ground := Ground.phase }, { on := 1, ground := Ground.phase }, { on := 2, ground := Ground.phase }, { on := 3, ground := Ground.phase }, { on := 4, ground := Ground.phase }, { on := 5, ground := Ground.phase }, { on := 6, ground := Ground.phase }], guard := none }
def owk8_0 : Oper := { dst := some 59, op := Op.load 35 (Operand.tmp 7), type := 35, pos := "law.go:41", after := #[], guard := none }
def owk8_1 : Oper := { dst := some 60, op := Op.call { callee := Callee.value (Operand.func 30), args := #[Operand.const (Value.int IntKind.i64 900000), Operand.const (Value.int IntKind.i64 900000)], argTypes := #[3, 3] }, type := 23, pos := "law.go:41", after := #[], guard := none }
def owk8_2 : Oper := { dst := some 61, op := Op.call { callee := Callee.value (Operand.func 17), args := #[Operand.tmp 59, Operand.tmp 60], argTypes := #[35, 23] }, type := 25, pos := "law.go:41", after := #[{ on := 0, ground := Ground.data }, { on := 1, ground := Ground.data }, { on := 1, ground := Ground.chain }], guard := none }
def owk8_3 : Oper := { dst := some 58, op := Op.move (Operand.tmp 61), type := 25, pos := "law.go:41", after := #[{ on := 2, ground := Ground.data }], guard := none }
def owk8_4 : Oper := { dst := some 62, op := Op.extract (Operand.tmp 58) 0, type := 23, pos := "law.go:41", after := #[{ on := 3, ground := Ground.data }], guard := none }
def owk8_5 : Oper := { dst := some 63, op := Op.extract (Operand.tmp 58) 1, type := 24, pos := "law.go:41", after := #[{ on := 3, ground := Ground.data }, { on := 6, ground := Ground.gcOnly Departure.lateStores }], guard := none }
def owk8_6 : Oper := { dst := none, op := Op.store 23 (Operand.tmp 3) (Operand.tmp 62), type := 0, pos := "law.go:41", after := #[{ on := 4, ground := Ground.data }, { on := 2, ground := Ground.chain }, { on := 0, ground := Ground.phase }, { on := 1, ground := Ground.phase }, { on := 2, ground := Ground.phase }, { on := 3, ground := Ground.phase }, { on := 4, ground := Ground.phase }, { on := 5, ground := Ground.textOnly Departure.lateStores }], guard := none }
def owk8_7 : Oper := { dst := some 4, op := Op.assign (Operand.tmp 63), type := 24, pos := "law.go:41", after := #[{ on := 5, ground := Ground.data }, { on := 6, ground := Ground.chain }, { on := 0, ground := Ground.phase }, { on := 1, ground := Ground.phase }, { on := 2, ground := Ground.phase }, { on := 3, ground := Ground.phase }, { on := 4, ground := Ground.phase }, { on := 5, ground := Ground.phase }, { on := 6, ground := Ground.phase }], guard := none }
def owk9_0 : Oper := { dst := some 65, op := Op.load 35 (Operand.tmp 7), type := 35, pos := "law.go:42", after := #[], guard := none }
def owk9_1 : Oper := { dst := some 66, op := Op.call { callee := Callee.value (Operand.func 30), args := #[Operand.const (Value.int IntKind.i64 0), Operand.const (Value.int IntKind.i64 3600000)], argTypes := #[3, 3] }, type := 23, pos := "law.go:42", after := #[], guard := none }
def owk9_2 : Oper := { dst := some 67, op := Op.call { callee := Callee.value (Operand.func 17), args := #[Operand.tmp 65, Operand.tmp 66], argTypes := #[35, 23] }, type := 25, pos := "law.go:42", after := #[{ on := 0, ground := Ground.data }, { on := 1, ground := Ground.data }, { on := 1, ground := Ground.chain }], guard := none }
def owk9_3 : Oper := { dst := some 64, op := Op.move (Operand.tmp 67), type := 25, pos := "law.go:42", after := #[{ on := 2, ground := Ground.data }], guard := none }
def owk9_4 : Oper := { dst := some 68, op := Op.extract (Operand.tmp 64) 0, type := 23, pos := "law.go:42", after := #[{ on := 3, ground := Ground.data }], guard := none }
def owk9_5 : Oper := { dst := some 69, op := Op.extract (Operand.tmp 64) 1, type := 24, pos := "law.go:42", after := #[{ on := 3, ground := Ground.data }, { on := 6, ground := Ground.gcOnly Departure.lateStores }], guard := none }
def owk9_6 : Oper := { dst := none, op := Op.store 23 (Operand.tmp 5) (Operand.tmp 68), type := 0, pos := "law.go:42", after := #[{ on := 4, ground := Ground.data }, { on := 2, ground := Ground.chain }, { on := 0, ground := Ground.phase }, { on := 1, ground := Ground.phase }, { on := 2, ground := Ground.phase }, { on := 3, ground := Ground.phase }, { on := 4, ground := Ground.phase }, { on := 5, ground := Ground.textOnly Departure.lateStores }], guard := none }
def owk9_7 : Oper := { dst := some 6, op := Op.assign (Operand.tmp 69), type := 24, pos := "law.go:42", after := #[{ on := 5, ground := Ground.data }, { on := 6, ground := Ground.chain }, { on := 0, ground := Ground.phase }, { on := 1, ground := Ground.phase }, { on := 2, ground := Ground.phase }, { on := 3, ground := Ground.phase }, { on := 4, ground := Ground.phase }, { on := 5, ground := Ground.phase }, { on := 6, ground := Ground.phase }], guard := none }
def owk10_0 : Oper := { dst := some 70, op := Op.move (Operand.tmp 2), type := 24, pos := "law.go:43", after := #[], guard := none }
def owk10_1 : Oper := { dst := some 71, op := Op.binOp BinOp.neq 24 (Operand.tmp 70) (Operand.const (Value.int IntKind.i64 0)) 24, type := 4, pos := "law.go:43", after := #[{ on := 0, ground := Ground.data }], guard := none }
def owk10_2 : Oper := { dst := some 72, op := Op.move (Operand.tmp 71), type := 4, pos := "law.go:43", after := #[{ on := 1, ground := Ground.data }], guard := none }
def owk10_3 : Oper := { dst := some 73, op := Op.move (Operand.tmp 4), type := 24, pos := "law.go:43", after := #[{ on := 2, ground := Ground.guard }], guard := some (2, false) }
def owk10_4 : Oper := { dst := some 74, op := Op.binOp BinOp.neq 24 (Operand.tmp 73) (Operand.const (Value.int IntKind.i64 0)) 24, type := 4, pos := "law.go:43", after := #[{ on := 3, ground := Ground.data }, { on := 2, ground := Ground.guard }], guard := some (2, false) }
def owk10_5 : Oper := { dst := some 75, op := Op.pick (Operand.tmp 72) (Operand.const (Value.bool true)) (Operand.tmp 74), type := 4, pos := "law.go:43", after := #[{ on := 2, ground := Ground.data }, { on := 4, ground := Ground.data }], guard := none }
def owk10_6 : Oper := { dst := some 76, op := Op.move (Operand.tmp 75), type := 4, pos := "law.go:43", after := #[{ on := 5, ground := Ground.data }, { on := 2, ground := Ground.chain }], guard := none }
def owk10_7 : Oper := { dst := some 77, op := Op.move (Operand.tmp 6), type := 24, pos := "law.go:43", after := #[{ on := 6, ground := Ground.guard }], guard := some (6, false) }
def owk10_8 : Oper := { dst := some 78, op := Op.binOp BinOp.neq 24 (Operand.tmp 77) (Operand.const (Value.int IntKind.i64 0)) 24, type := 4, pos := "law.go:43", after := #[{ on := 7, ground := Ground.data }, { on := 6, ground := Ground.guard }], guard := some (6, false) }
def owk10_9 : Oper := { dst := some 79, op := Op.pick (Operand.tmp 76) (Operand.const (Value.bool true)) (Operand.tmp 78), type := 4, pos := "law.go:43", after := #[{ on := 6, ground := Ground.data }, { on := 8, ground := Ground.data }], guard := none }
def owk10_10 : Oper := { dst := some 80, op := Op.move (Operand.tmp 79), type := 4, pos := "law.go:43", after := #[{ on := 9, ground := Ground.data }, { on := 6, ground := Ground.chain }], guard := none }
def owk10_11 : Oper := { dst := some 81, op := Op.load 23 (Operand.tmp 1), type := 23, pos := "law.go:43", after := #[{ on := 10, ground := Ground.guard }], guard := some (10, false) }
def owk10_12 : Oper := { dst := some 82, op := Op.call { callee := Callee.value (Operand.func 30), args := #[Operand.const (Value.int IntKind.i64 (-40)), Operand.const (Value.int IntKind.i64 (-40))], argTypes := #[3, 3] }, type := 23, pos := "law.go:43", after := #[{ on := 10, ground := Ground.chain }, { on := 10, ground := Ground.guard }], guard := some (10, false) }
def owk10_13 : Oper := { dst := some 83, op := Op.binOp BinOp.neq 23 (Operand.tmp 81) (Operand.tmp 82) 23, type := 4, pos := "law.go:43", after := #[{ on := 11, ground := Ground.data }, { on := 12, ground := Ground.data }, { on := 10, ground := Ground.guard }], guard := some (10, false) }
def owk10_14 : Oper := { dst := some 84, op := Op.pick (Operand.tmp 80) (Operand.const (Value.bool true)) (Operand.tmp 83), type := 4, pos := "law.go:43", after := #[{ on := 10, ground := Ground.data }, { on := 13, ground := Ground.data }], guard := none }
def owk10_15 : Oper := { dst := some 85, op := Op.move (Operand.tmp 84), type := 4, pos := "law.go:43", after := #[{ on := 14, ground := Ground.data }, { on := 12, ground := Ground.chain }], guard := none }
def owk10_16 : Oper := { dst := some 86, op := Op.load 23 (Operand.tmp 3), type := 23, pos := "law.go:43", after := #[{ on := 15, ground := Ground.guard }], guard := some (15, false) }
def owk10_17 : Oper := { dst := some 87, op := Op.call { callee := Callee.value (Operand.func 30), args := #[Operand.const (Value.int IntKind.i64 45), Operand.const (Value.int IntKind.i64 46)], argTypes := #[3, 3] }, type := 23, pos := "law.go:43", after := #[{ on := 15, ground := Ground.chain }, { on := 15, ground := Ground.guard }], guard := some (15, false) }
def owk10_18 : Oper := { dst := some 88, op := Op.binOp BinOp.neq 23 (Operand.tmp 86) (Operand.tmp 87) 23, type := 4, pos := "law.go:43", after := #[{ on := 16, ground := Ground.data }, { on := 17, ground := Ground.data }, { on := 15, ground := Ground.guard }], guard := some (15, false) }
def owk10_19 : Oper := { dst := some 89, op := Op.pick (Operand.tmp 85) (Operand.const (Value.bool true)) (Operand.tmp 88), type := 4, pos := "law.go:43", after := #[{ on := 15, ground := Ground.data }, { on := 18, ground := Ground.data }], guard := none }
def owk10_20 : Oper := { dst := some 90, op := Op.move (Operand.tmp 89), type := 4, pos := "law.go:43", after := #[{ on := 19, ground := Ground.data }, { on := 17, ground := Ground.chain }], guard := none }
def owk10_21 : Oper := { dst := some 91, op := Op.load 23 (Operand.tmp 5), type := 23, pos := "law.go:43", after := #[{ on := 20, ground := Ground.guard }], guard := some (20, false) }
def owk10_22 : Oper := { dst := some 92, op := Op.call { callee := Callee.value (Operand.func 30), args := #[Operand.const (Value.int IntKind.i64 (-90)), Operand.const (Value.int IntKind.i64 160)], argTypes := #[3, 3] }, type := 23, pos := "law.go:43", after := #[{ on := 20, ground := Ground.chain }, { on := 20, ground := Ground.guard }], guard := some (20, false) }
def owk10_23 : Oper := { dst := some 93, op := Op.binOp BinOp.neq 23 (Operand.tmp 91) (Operand.tmp 92) 23, type := 4, pos := "law.go:43", after := #[{ on := 21, ground := Ground.data }, { on := 22, ground := Ground.data }, { on := 20, ground := Ground.guard }], guard := some (20, false) }
def owk10_24 : Oper := { dst := some 94, op := Op.pick (Operand.tmp 90) (Operand.const (Value.bool true)) (Operand.tmp 93), type := 4, pos := "law.go:43", after := #[{ on := 20, ground := Ground.data }, { on := 23, ground := Ground.data }], guard := none }
def owk13_0 : Oper := { dst := some 101, op := Op.load 35 (Operand.tmp 7), type := 35, pos := "law.go:47", after := #[], guard := none }
def owk13_1 : Oper := { dst := some 102, op := Op.call { callee := Callee.value (Operand.func 30), args := #[Operand.const (Value.int IntKind.i64 0), Operand.const (Value.int IntKind.i64 3600000)], argTypes := #[3, 3] }, type := 23, pos := "law.go:47", after := #[], guard := none }
def owk13_2 : Oper := { dst := some 103, op := Op.call { callee := Callee.value (Operand.func 24), args := #[Operand.tmp 101, Operand.tmp 102, Operand.const (Value.int IntKind.i64 600000)], argTypes := #[35, 23, 3] }, type := 25, pos := "law.go:47", after := #[{ on := 0, ground := Ground.data }, { on := 1, ground := Ground.data }, { on := 1, ground := Ground.chain }], guard := none }
def owk13_3 : Oper := { dst := some 100, op := Op.move (Operand.tmp 103), type := 25, pos := "law.go:47", after := #[{ on := 2, ground := Ground.data }], guard := none }
def owk13_4 : Oper := { dst := some 104, op := Op.extract (Operand.tmp 100) 0, type := 23, pos := "law.go:47", after := #[{ on := 3, ground := Ground.data }], guard := none }
def owk13_5 : Oper := { dst := some 105, op := Op.extract (Operand.tmp 100) 1, type := 24, pos := "law.go:47", after := #[{ on := 3, ground := Ground.data }, { on := 6, ground := Ground.gcOnly Departure.lateStores }], guard := none }
def owk13_6 : Oper := { dst := none, op := Op.store 23 (Operand.tmp 3) (Operand.tmp 104), type := 0, pos := "law.go:47", after := #[{ on := 4, ground := Ground.data }, { on := 2, ground := Ground.chain }, { on := 0, ground := Ground.phase }, { on := 1, ground := Ground.phase }, { on := 2, ground := Ground.phase }, { on := 3, ground := Ground.phase }, { on := 4, ground := Ground.phase }, { on := 5, ground := Ground.textOnly Departure.lateStores }], guard := none }
def owk13_7 : Oper := { dst := some 4, op := Op.assign (Operand.tmp 105), type := 24, pos := "law.go:47", after := #[{ on := 5, ground := Ground.data }, { on := 6, ground := Ground.chain }, { on := 0, ground := Ground.phase }, { on := 1, ground := Ground.phase }, { on := 2, ground := Ground.phase }, { on := 3, ground := Ground.phase }, { on := 4, ground := Ground.phase }, { on := 5, ground := Ground.phase }, { on := 6, ground := Ground.phase }], guard := none }
def owk4_0 : Oper := { dst := some 26, op := Op.move (Operand.tmp 2), type := 24, pos := "law.go:36", after := #[], guard := none }
def owk4_1 : Oper := { dst := some 27, op := Op.binOp BinOp.neq 24 (Operand.tmp 26) (Operand.const (Value.int IntKind.i64 0)) 24, type := 4, pos := "law.go:36", after := #[{ on := 0, ground := Ground.data }], guard := none }
def owk4_2 : Oper := { dst := some 28, op := Op.move (Operand.tmp 27), type := 4, pos := "law.go:36", after := #[{ on := 1, ground := Ground.data }], guard := none }
def owk4_3 : Oper := { dst := some 29, op := Op.move (Operand.tmp 4), type := 24, pos := "law.go:36", after := #[{ on := 2, ground := Ground.guard }], guard := some (2, false) }
def owk4_4 : Oper := { dst := some 30, op := Op.binOp BinOp.neq 24 (Operand.tmp 29) (Operand.const (Value.int IntKind.i64 0)) 24, type := 4, pos := "law.go:36", after := #[{ on := 3, ground := Ground.data }, { on := 2, ground := Ground.guard }], guard := some (2, false) }
def owk4_5 : Oper := { dst := some 31, op := Op.pick (Operand.tmp 28) (Operand.const (Value.bool true)) (Operand.tmp 30), type := 4, pos := "law.go:36", after := #[{ on := 2, ground := Ground.data }, { on := 4, ground := Ground.data }], guard := none }
def owk4_6 : Oper := { dst := some 32, op := Op.move (Operand.tmp 31), type := 4, pos := "law.go:36", after := #[{ on := 5, ground := Ground.data }, { on := 2, ground := Ground.chain }], guard := none }
def owk4_7 : Oper := { dst := some 33, op := Op.move (Operand.tmp 6), type := 24, pos := "law.go:36", after := #[{ on := 6, ground := Ground.guard }], guard := some (6, false) }
def owk4_8 : Oper := { dst := some 34, op := Op.binOp BinOp.neq 24 (Operand.tmp 33) (Operand.const (Value.int IntKind.i64 0)) 24, type := 4, pos := "law.go:36", after := #[{ on := 7, ground := Ground.data }, { on := 6, ground := Ground.guard }], guard := some (6, false) }
def owk4_9 : Oper := { dst := some 35, op := Op.pick (Operand.tmp 32) (Operand.const (Value.bool true)) (Operand.tmp 34), type := 4, pos := "law.go:36", after := #[{ on := 6, ground := Ground.data }, { on := 8, ground := Ground.data }], guard := none }
def owk4_10 : Oper := { dst := some 36, op := Op.move (Operand.tmp 35), type := 4, pos := "law.go:36", after := #[{ on := 9, ground := Ground.data }, { on := 6, ground := Ground.chain }], guard := none }
def owk4_11 : Oper := { dst := some 37, op := Op.load 23 (Operand.tmp 1), type := 23, pos := "law.go:36", after := #[{ on := 10, ground := Ground.guard }], guard := some (10, false) }
def owk4_12 : Oper := { dst := some 38, op := Op.call { callee := Callee.value (Operand.func 30), args := #[Operand.const (Value.int IntKind.i64 46340), Operand.const (Value.int IntKind.i64 46341)], argTypes := #[3, 3] }, type := 23, pos := "law.go:36", after := #[{ on := 10, ground := Ground.chain }, { on := 10, ground := Ground.guard }], guard := some (10, false) }
def owk4_13 : Oper := { dst := some 39, op := Op.binOp BinOp.neq 23 (Operand.tmp 37) (Operand.tmp 38) 23, type := 4, pos := "law.go:36", after := #[{ on := 11, ground := Ground.data }, { on := 12, ground := Ground.data }, { on := 10, ground := Ground.guard }], guard := some (10, false) }
def owk4_14 : Oper := { dst := some 40, op := Op.pick (Operand.tmp 36) (Operand.const (Value.bool true)) (Operand.tmp 39), type := 4, pos := "law.go:36", after := #[{ on := 10, ground := Ground.data }, { on := 13, ground := Ground.data }], guard := none }
def owk4_15 : Oper := { dst := some 41, op := Op.move (Operand.tmp 40), type := 4, pos := "law.go:36", after := #[{ on := 14, ground := Ground.data }, { on := 12, ground := Ground.chain }], guard := none }
def owk4_16 : Oper := { dst := some 42, op := Op.load 23 (Operand.tmp 3), type := 23, pos := "law.go:36", after := #[{ on := 15, ground := Ground.guard }], guard := some (15, false) }
def owk4_17 : Oper := { dst := some 43, op := Op.call { callee := Callee.value (Operand.func 30), args := #[Operand.const (Value.int IntKind.i64 65526), Operand.const (Value.int IntKind.i64 65536)], argTypes := #[3, 3] }, type := 23, pos := "law.go:36", after := #[{ on := 15, ground := Ground.chain }, { on := 15, ground := Ground.guard }], guard := some (15, false) }
def owk4_18 : Oper := { dst := some 44, op := Op.binOp BinOp.neq 23 (Operand.tmp 42) (Operand.tmp 43) 23, type := 4, pos := "law.go:36", after := #[{ on := 16, ground := Ground.data }, { on := 17, ground := Ground.data }, { on := 15, ground := Ground.guard }], guard := some (15, false) }
def owk4_19 : Oper := { dst := some 45, op := Op.pick (Operand.tmp 41) (Operand.const (Value.bool true)) (Operand.tmp 44), type := 4, pos := "law.go:36", after := #[{ on := 15, ground := Ground.data }, { on := 18, ground := Ground.data }], guard := none }
def owk4_20 : Oper := { dst := some 46, op := Op.move (Operand.tmp 45), type := 4, pos := "law.go:36", after := #[{ on := 19, ground := Ground.data }, { on := 17, ground := Ground.chain }], guard := none }
def owk4_21 : Oper := { dst := some 47, op := Op.load 23 (Operand.tmp 5), type := 23, pos := "law.go:36", after := #[{ on := 20, ground := Ground.guard }], guard := some (20, false) }
def owk4_22 : Oper := { dst := some 48, op := Op.call { callee := Callee.value (Operand.func 30), args := #[Operand.const (Value.int IntKind.i64 (-65536)), Operand.const (Value.int IntKind.i64 32768)], argTypes := #[3, 3] }, type := 23, pos := "law.go:36", after := #[{ on := 20, ground := Ground.chain }, { on := 20, ground := Ground.guard }], guard := some (20, false) }
def owk4_23 : Oper := { dst := some 49, op := Op.binOp BinOp.neq 23 (Operand.tmp 47) (Operand.tmp 48) 23, type := 4, pos := "law.go:36", after := #[{ on := 21, ground := Ground.data }, { on := 22, ground := Ground.data }, { on := 20, ground := Ground.guard }], guard := some (20, false) }
def owk4_24 : Oper := { dst := some 50, op := Op.pick (Operand.tmp 46) (Operand.const (Value.bool true)) (Operand.tmp 49), type := 4, pos := "law.go:36", after := #[{ on := 20, ground := Ground.data }, { on := 23, ground := Ground.data }], guard := none }

set_option maxRecDepth 100000 in
set_option maxHeartbeats 8000000 in
theorem works2_any (w : World) :
    Calls Try.prog 13 #[] w fun e w' => e = .returned (.bool true) ∧ Below w.heap.size w w' := by
  have HBP := Lib.hid (Below.refl w.heap.size w)
  have hp1 := span_stood
  have hp2 := span_guard
  go_enter Try.func13, Try.ntmps13
  go_wp2_with fail
  refine (lspan_any (450) (450) _).mono ?_
  rintro e wa0 ⟨rfl, hb⟩
  have HB := Lib.hid (HBP.out.trans (hb.mono HBP.out.size))
  clear hb HBP 
  go_wp2_with fail
  refine (cosx0 _).mono ?_
  rintro e wb0 ⟨rfl, hb⟩
  have HB2 := Lib.hid (HB.out.trans (hb.mono HB.out.size))
  clear hb HB 
  go_upto_region 2 with (fail)
  obtain ⟨V0, hV⟩ : ∃ V, wb0.alloc (.cells #[.int .i64 (46340), .int .i64 (46341)] 23) = V := ⟨_, rfl⟩
  have hz : Below wb0.heap.size wb0 V0 := by rw [← hV]; exact (Below.refl _ _).alloc (Nat.le_refl _) _
  have Hb1' : Blk V0 wb0.heap.size 23 #[.int .i64 (46340), .int .i64 (46341)] := by rw [← hV]; exact Blk.new' _ _ _ rfl
  have HBP := Lib.hid (HB2.out.trans (hz.mono HB2.out.size))
  have gb1' := HB2.out.size
  rw [hV]
  obtain ⟨b1, hbx⟩ : ∃ b, wb0.heap.size = b := ⟨_, rfl⟩
  rw [hbx] at Hb1' gb1'  ⊢
  have Hb1 := Lib.hid Hb1'
  have gb1 := gb1'
  clear hV hz Hb1' gb1'  hbx HB2 
  go_wp2_with fail
  refine (lspan_any (-10) (10) _).mono ?_
  rintro e wa1 ⟨rfl, hb⟩
  have HB := Lib.hid (HBP.out.trans (hb.mono HBP.out.size))
  have Gb1 := Lib.hid (Hb1.out.below hb Hb1.out.lt)
  clear hb HBP Hb1
  go_wp2_with fail
  refine (cosx1 _).mono ?_
  rintro e wb1 ⟨rfl, hb⟩
  have HB2 := Lib.hid (HB.out.trans (hb.mono HB.out.size))
  have Fb1 := Lib.hid (Gb1.out.below hb Gb1.out.lt)
  clear hb HB Gb1
  go_upto_region 3 with (fail)
  obtain ⟨V1, hV⟩ : ∃ V, wb1.alloc (.cells #[.int .i64 (65526), .int .i64 (65536)] 23) = V := ⟨_, rfl⟩
  have hz : Below wb1.heap.size wb1 V1 := by rw [← hV]; exact (Below.refl _ _).alloc (Nat.le_refl _) _
  have Hb3' : Blk V1 wb1.heap.size 23 #[.int .i64 (65526), .int .i64 (65536)] := by rw [← hV]; exact Blk.new' _ _ _ rfl
  have HBP := Lib.hid (HB2.out.trans (hz.mono HB2.out.size))
  have Hb1 := Lib.hid (Fb1.out.below hz Fb1.out.lt)
  have gb3' := HB2.out.size
  have lb1' := Fb1.out.lt
  rw [hV]
  obtain ⟨b3, hbx⟩ : ∃ b, wb1.heap.size = b := ⟨_, rfl⟩
  rw [hbx] at Hb3' gb3' lb1' ⊢
  have Hb3 := Lib.hid Hb3'
  have gb3 := gb3'
  have nb1b3 : ¬ b1 = b3 := by omega
  have nb3b1 : ¬ b3 = b1 := by omega
  clear hV hz Hb3' gb3' lb1' hbx HB2 Fb1
  go_wp2_with fail
  refine (lspan_any (600) (3000) _).mono ?_
  rintro e wa2 ⟨rfl, hb⟩
  have HB := Lib.hid (HBP.out.trans (hb.mono HBP.out.size))
  have Gb1 := Lib.hid (Hb1.out.below hb Hb1.out.lt)
  have Gb3 := Lib.hid (Hb3.out.below hb Hb3.out.lt)
  clear hb HBP Hb1 Hb3
  go_wp2_with fail
  refine (cosx2 _).mono ?_
  rintro e wb2 ⟨rfl, hb⟩
  have HB2 := Lib.hid (HB.out.trans (hb.mono HB.out.size))
  have Fb1 := Lib.hid (Gb1.out.below hb Gb1.out.lt)
  have Fb3 := Lib.hid (Gb3.out.below hb Gb3.out.lt)
  clear hb HB Gb1 Gb3
  go_upto_region 4 with (fail)
  obtain ⟨V2, hV⟩ : ∃ V, wb2.alloc (.cells #[.int .i64 (-65536), .int .i64 (32768)] 23) = V := ⟨_, rfl⟩
  have hz : Below wb2.heap.size wb2 V2 := by rw [← hV]; exact (Below.refl _ _).alloc (Nat.le_refl _) _
  have Hb5' : Blk V2 wb2.heap.size 23 #[.int .i64 (-65536), .int .i64 (32768)] := by rw [← hV]; exact Blk.new' _ _ _ rfl
  have HBP := Lib.hid (HB2.out.trans (hz.mono HB2.out.size))
  have Hb1 := Lib.hid (Fb1.out.below hz Fb1.out.lt)
  have Hb3 := Lib.hid (Fb3.out.below hz Fb3.out.lt)
  have gb5' := HB2.out.size
  have lb1' := Fb1.out.lt
  have lb3' := Fb3.out.lt
  rw [hV]
  obtain ⟨b5, hbx⟩ : ∃ b, wb2.heap.size = b := ⟨_, rfl⟩
  rw [hbx] at Hb5' gb5' lb1' lb3' ⊢
  have Hb5 := Lib.hid Hb5'
  have gb5 := gb5'
  have nb1b5 : ¬ b1 = b5 := by omega
  have nb5b1 : ¬ b5 = b1 := by omega
  have nb3b5 : ¬ b3 = b5 := by omega
  have nb5b3 : ¬ b5 = b3 := by omega
  clear hV hz Hb5' gb5' lb1' lb3' hbx HB2 Fb1 Fb3
  have HSV : Hid (∀ U, Below V2.heap.size V2 U → U.cell? ⟨b1, 0, none⟩ = some (.int .i64 (46340)) ∧ U.cell? ⟨b1, 1, none⟩ = some (.int .i64 (46341)) ∧ U.cell? ⟨b3, 0, none⟩ = some (.int .i64 (65526)) ∧ U.cell? ⟨b3, 1, none⟩ = some (.int .i64 (65536)) ∧ U.cell? ⟨b5, 0, none⟩ = some (.int .i64 (-65536)) ∧ U.cell? ⟨b5, 1, none⟩ = some (.int .i64 (32768))) := fun U hU => by
    have kb1 := Hb1.out.below hU Hb1.out.lt
    have kb3 := Hb3.out.below hU Hb3.out.lt
    have kb5 := Hb5.out.below hU Hb5.out.lt
    exact ⟨kb1.cell 0, kb1.cell 1, kb3.cell 0, kb3.cell 1, kb5.cell 0, kb5.cell 1⟩
  have k0 := HSV.out _ (Below.drew (Below.refl V2.heap.size V2))
  refine wp_region_noPanic ?_
  refine wp_region_L (S := (fun w' => w'.cell? ⟨b1, 0, none⟩ = some (.int .i64 (46340)) ∧ w'.cell? ⟨b1, 1, none⟩ = some (.int .i64 (46341)) ∧ w'.cell? ⟨b3, 0, none⟩ = some (.int .i64 (65526)) ∧ w'.cell? ⟨b3, 1, none⟩ = some (.int .i64 (65536)) ∧ w'.cell? ⟨b5, 0, none⟩ = some (.int .i64 (-65536)) ∧ w'.cell? ⟨b5, 1, none⟩ = some (.int .i64 (32768)))) (ks := []) (by kernel_rfl) ?_ (fun hHeld => ?_)
  · (try dsimp only); (exact k0)
  refine wpAnyL_take (i := 0) (oi := owk4_0) (v := ?_) rfl (by kernel_rfl) (fun _ _ _ h => h) (Or.inl ⟨by rfl, ?_⟩) (by assumption) ?_
  rotate_left
  · ((intro w hSw; delta owk4_0; (try dsimp only at hSw); go_simp) <;> with_reducible rfl)
  try simp only [owk4_0, Act.put, List.setIfInBounds_toArray, List.set_cons_zero, List.set_cons_succ]
  refine wpAnyL_take (i := 1) (oi := owk4_1) (v := ?_) rfl (by kernel_rfl) (fun _ _ _ h => h) (Or.inl ⟨by rfl, ?_⟩) (by assumption) ?_
  rotate_left
  · ((intro w hSw; delta owk4_1; (try dsimp only at hSw); go_simp) <;> with_reducible rfl)
  try simp only [owk4_1, Act.put, List.setIfInBounds_toArray, List.set_cons_zero, List.set_cons_succ]
  refine wpAnyL_take (i := 2) (oi := owk4_2) (v := ?_) rfl (by kernel_rfl) (fun _ _ _ h => h) (Or.inl ⟨by rfl, ?_⟩) (by assumption) ?_
  rotate_left
  · ((intro w hSw; delta owk4_2; (try dsimp only at hSw); go_simp) <;> with_reducible rfl)
  try simp only [owk4_2, Act.put, List.setIfInBounds_toArray, List.set_cons_zero, List.set_cons_succ]
  refine wpAnyL_take (i := 3) (oi := owk4_3) (v := ?_) rfl (by kernel_rfl) (fun _ _ _ h => h) (Or.inl ⟨by rfl, ?_⟩) (by assumption) ?_
  rotate_left
  · ((intro w hSw; delta owk4_3; (try dsimp only at hSw); go_simp) <;> with_reducible rfl)
  try simp only [owk4_3, Act.put, List.setIfInBounds_toArray, List.set_cons_zero, List.set_cons_succ]
  refine wpAnyL_take (i := 4) (oi := owk4_4) (v := ?_) rfl (by kernel_rfl) (fun _ _ _ h => h) (Or.inl ⟨by rfl, ?_⟩) (by assumption) ?_
  rotate_left
  · ((intro w hSw; delta owk4_4; (try dsimp only at hSw); go_simp) <;> with_reducible rfl)
  try simp only [owk4_4, Act.put, List.setIfInBounds_toArray, List.set_cons_zero, List.set_cons_succ]
  refine wpAnyL_take (i := 5) (oi := owk4_5) (v := ?_) rfl (by kernel_rfl) (fun _ _ _ h => h) (Or.inl ⟨by rfl, ?_⟩) (by assumption) ?_
  rotate_left
  · ((intro w hSw; delta owk4_5; (try dsimp only at hSw); go_simp) <;> with_reducible rfl)
  try simp only [owk4_5, Act.put, List.setIfInBounds_toArray, List.set_cons_zero, List.set_cons_succ]
  refine wpAnyL_take (i := 6) (oi := owk4_6) (v := ?_) rfl (by kernel_rfl) (fun _ _ _ h => h) (Or.inl ⟨by rfl, ?_⟩) (by assumption) ?_
  rotate_left
  · ((intro w hSw; delta owk4_6; (try dsimp only at hSw); go_simp) <;> with_reducible rfl)
  try simp only [owk4_6, Act.put, List.setIfInBounds_toArray, List.set_cons_zero, List.set_cons_succ]
  refine wpAnyL_take (i := 7) (oi := owk4_7) (v := ?_) rfl (by kernel_rfl) (fun _ _ _ h => h) (Or.inl ⟨by rfl, ?_⟩) (by assumption) ?_
  rotate_left
  · ((intro w hSw; delta owk4_7; (try dsimp only at hSw); go_simp) <;> with_reducible rfl)
  try simp only [owk4_7, Act.put, List.setIfInBounds_toArray, List.set_cons_zero, List.set_cons_succ]
  refine wpAnyL_take (i := 8) (oi := owk4_8) (v := ?_) rfl (by kernel_rfl) (fun _ _ _ h => h) (Or.inl ⟨by rfl, ?_⟩) (by assumption) ?_
  rotate_left
  · ((intro w hSw; delta owk4_8; (try dsimp only at hSw); go_simp) <;> with_reducible rfl)
  try simp only [owk4_8, Act.put, List.setIfInBounds_toArray, List.set_cons_zero, List.set_cons_succ]
  refine wpAnyL_take (i := 9) (oi := owk4_9) (v := ?_) rfl (by kernel_rfl) (fun _ _ _ h => h) (Or.inl ⟨by rfl, ?_⟩) (by assumption) ?_
  rotate_left
  · ((intro w hSw; delta owk4_9; (try dsimp only at hSw); go_simp) <;> with_reducible rfl)
  try simp only [owk4_9, Act.put, List.setIfInBounds_toArray, List.set_cons_zero, List.set_cons_succ]
  refine wpAnyL_take (i := 10) (oi := owk4_10) (v := ?_) rfl (by kernel_rfl) (fun _ _ _ h => h) (Or.inl ⟨by rfl, ?_⟩) (by assumption) ?_
  rotate_left
  · ((intro w hSw; delta owk4_10; (try dsimp only at hSw); go_simp) <;> with_reducible rfl)
  try simp only [owk4_10, Act.put, List.setIfInBounds_toArray, List.set_cons_zero, List.set_cons_succ]
  refine wpAnyL_take (i := 11) (oi := owk4_11) (v := ?_) rfl (by kernel_rfl) (fun _ _ _ h => h) (Or.inl ⟨by rfl, ?_⟩) (by assumption) ?_
  rotate_left
  · ((intro w hSw; delta owk4_11; (try dsimp only at hSw); go_simp) <;> with_reducible rfl)
  try simp only [owk4_11, Act.put, List.setIfInBounds_toArray, List.set_cons_zero, List.set_cons_succ]
  obtain ⟨W0, hW0⟩ : ∃ V, V2.drew = V := ⟨_, rfl⟩; rw [hW0] at hHeld ⊢; have HB0 : Hid (Below V2.heap.size V2 W0) := (by rw [← hW0]; exact Below.drew (Below.refl _ _)); clear hW0
  refine wpAnyL_ready (rs := [12]) (by kernel_rfl) (by simp) ?_
  refine AllReadyL.cons (o := owk4_12) rfl (fun K hK => ?_) AllReadyL.nil
  delta owk4_12
  go_simp
  (refine (lspan_any _ _ _).mono ?_; rintro e W1 ⟨rfl, hb⟩; have HB1 := Lib.hid (HB0.out.trans (hb.mono HB0.out.size)); clear hb)
  refine hK.out _ _ ?_ (fun hHeld => ?_)
  · (try dsimp only); (exact HSV.out _ HB1.out)
  clear hK K
  try simp only [owk4_12, Act.put, List.setIfInBounds_toArray, List.set_cons_zero, List.set_cons_succ]
  refine wpAnyL_take (i := 13) (oi := owk4_13) (v := ?_) rfl (by kernel_rfl) (fun _ _ _ h => h) (Or.inl ⟨by rfl, ?_⟩) (by assumption) ?_
  rotate_left
  · ((intro w hSw; delta owk4_13; (try dsimp only at hSw); go_simp) <;> with_reducible rfl)
  try simp only [owk4_13, Act.put, List.setIfInBounds_toArray, List.set_cons_zero, List.set_cons_succ]
  refine wpAnyL_take (i := 14) (oi := owk4_14) (v := ?_) rfl (by kernel_rfl) (fun _ _ _ h => h) (Or.inl ⟨by rfl, ?_⟩) (by assumption) ?_
  rotate_left
  · ((intro w hSw; delta owk4_14; (try dsimp only at hSw); go_simp) <;> with_reducible rfl)
  try simp only [owk4_14, Act.put, List.setIfInBounds_toArray, List.set_cons_zero, List.set_cons_succ]
  refine wpAnyL_take (i := 15) (oi := owk4_15) (v := ?_) rfl (by kernel_rfl) (fun _ _ _ h => h) (Or.inl ⟨by rfl, ?_⟩) (by assumption) ?_
  rotate_left
  · ((intro w hSw; delta owk4_15; (try dsimp only at hSw); go_simp) <;> with_reducible rfl)
  try simp only [owk4_15, Act.put, List.setIfInBounds_toArray, List.set_cons_zero, List.set_cons_succ]
  refine wpAnyL_take (i := 16) (oi := owk4_16) (v := ?_) rfl (by kernel_rfl) (fun _ _ _ h => h) (Or.inl ⟨by rfl, ?_⟩) (by assumption) ?_
  rotate_left
  · ((intro w hSw; delta owk4_16; (try dsimp only at hSw); go_simp) <;> with_reducible rfl)
  try simp only [owk4_16, Act.put, List.setIfInBounds_toArray, List.set_cons_zero, List.set_cons_succ]
  refine wpAnyL_ready (rs := [17]) (by kernel_rfl) (by simp) ?_
  refine AllReadyL.cons (o := owk4_17) rfl (fun K hK => ?_) AllReadyL.nil
  delta owk4_17
  go_simp
  (refine (lspan_any _ _ _).mono ?_; rintro e W2 ⟨rfl, hb⟩; have HB2 := Lib.hid (HB1.out.trans (hb.mono HB1.out.size)); clear hb)
  refine hK.out _ _ ?_ (fun hHeld => ?_)
  · (try dsimp only); (exact HSV.out _ HB2.out)
  clear hK K
  try simp only [owk4_17, Act.put, List.setIfInBounds_toArray, List.set_cons_zero, List.set_cons_succ]
  refine wpAnyL_take (i := 18) (oi := owk4_18) (v := ?_) rfl (by kernel_rfl) (fun _ _ _ h => h) (Or.inl ⟨by rfl, ?_⟩) (by assumption) ?_
  rotate_left
  · ((intro w hSw; delta owk4_18; (try dsimp only at hSw); go_simp) <;> with_reducible rfl)
  try simp only [owk4_18, Act.put, List.setIfInBounds_toArray, List.set_cons_zero, List.set_cons_succ]
  refine wpAnyL_take (i := 19) (oi := owk4_19) (v := ?_) rfl (by kernel_rfl) (fun _ _ _ h => h) (Or.inl ⟨by rfl, ?_⟩) (by assumption) ?_
  rotate_left
  · ((intro w hSw; delta owk4_19; (try dsimp only at hSw); go_simp) <;> with_reducible rfl)
  try simp only [owk4_19, Act.put, List.setIfInBounds_toArray, List.set_cons_zero, List.set_cons_succ]
  refine wpAnyL_take (i := 20) (oi := owk4_20) (v := ?_) rfl (by kernel_rfl) (fun _ _ _ h => h) (Or.inl ⟨by rfl, ?_⟩) (by assumption) ?_
  rotate_left
  · ((intro w hSw; delta owk4_20; (try dsimp only at hSw); go_simp) <;> with_reducible rfl)
  try simp only [owk4_20, Act.put, List.setIfInBounds_toArray, List.set_cons_zero, List.set_cons_succ]
  refine wpAnyL_take (i := 21) (oi := owk4_21) (v := ?_) rfl (by kernel_rfl) (fun _ _ _ h => h) (Or.inl ⟨by rfl, ?_⟩) (by assumption) ?_
  rotate_left
  · ((intro w hSw; delta owk4_21; (try dsimp only at hSw); go_simp) <;> with_reducible rfl)
  try simp only [owk4_21, Act.put, List.setIfInBounds_toArray, List.set_cons_zero, List.set_cons_succ]
  refine wpAnyL_ready (rs := [22]) (by kernel_rfl) (by simp) ?_
  refine AllReadyL.cons (o := owk4_22) rfl (fun K hK => ?_) AllReadyL.nil
  delta owk4_22
  go_simp
  (refine (lspan_any _ _ _).mono ?_; rintro e W3 ⟨rfl, hb⟩; have HB3 := Lib.hid (HB2.out.trans (hb.mono HB2.out.size)); clear hb)
  refine hK.out _ _ ?_ (fun hHeld => ?_)
  · (try dsimp only); (exact HSV.out _ HB3.out)
  clear hK K
  try simp only [owk4_22, Act.put, List.setIfInBounds_toArray, List.set_cons_zero, List.set_cons_succ]
  refine wpAnyL_take (i := 23) (oi := owk4_23) (v := ?_) rfl (by kernel_rfl) (fun _ _ _ h => h) (Or.inl ⟨by rfl, ?_⟩) (by assumption) ?_
  rotate_left
  · ((intro w hSw; delta owk4_23; (try dsimp only at hSw); go_simp) <;> with_reducible rfl)
  try simp only [owk4_23, Act.put, List.setIfInBounds_toArray, List.set_cons_zero, List.set_cons_succ]
  refine wpAnyL_take (i := 24) (oi := owk4_24) (v := ?_) rfl (by kernel_rfl) (fun _ _ _ h => h) (Or.inl ⟨by rfl, ?_⟩) (by assumption) ?_
  rotate_left
  · ((intro w hSw; delta owk4_24; (try dsimp only at hSw); go_simp) <;> with_reducible rfl)
  try simp only [owk4_24, Act.put, List.setIfInBounds_toArray, List.set_cons_zero, List.set_cons_succ]
  refine wpAnyL_done (by kernel_rfl) ?_ _
  refine NoPanic.normal ?_
  clear HSV k0 HB0 HB1 HB2
  have Gb1 := Lib.hid (Hb1.out.below HB3.out Hb1.out.lt)
  have Gb3 := Lib.hid (Hb3.out.below HB3.out Hb3.out.lt)
  have Gb5 := Lib.hid (Hb5.out.below HB3.out Hb5.out.lt)
  have GBP := Lib.hid (HBP.out.trans (HB3.out.mono HBP.out.size))
  clear Hb1 Hb3 Hb5 HBP
  have Hb1 := Gb1
  have Hb3 := Gb3
  have Hb5 := Gb5
  have HBP := GBP
  clear Gb1 Gb3 Gb5 GBP
  clear HB3
  obtain ⟨X3, rfl⟩ : ∃ V, V = W3 := ⟨_, rfl⟩
  go_wp2_with fail
  refine (example_any _).mono ?_
  rintro e we ⟨g, rfl, hown, hb⟩
  have HROW := Lib.hid hown
  have hgr := (hown.lt g rfl).1
  have q1 := Hb1.out.lt
  have q3 := Hb3.out.lt
  have q5 := Hb5.out.lt
  have hgb1 : (Value.slice (some ⟨g, 0, none⟩) 2 2).ownBlock ≠ some b1 := fun h => by simp [Value.ownBlock] at h; omega
  have hgb3 : (Value.slice (some ⟨g, 0, none⟩) 2 2).ownBlock ≠ some b3 := fun h => by simp [Value.ownBlock] at h; omega
  have hgb5 : (Value.slice (some ⟨g, 0, none⟩) 2 2).ownBlock ≠ some b5 := fun h => by simp [Value.ownBlock] at h; omega
  have HBx := Lib.hid hb
  clear hown hb hgr q1 q3 q5
  have Gb1 := Lib.hid (Hb1.out.below HBx.out Hb1.out.lt)
  have Gb3 := Lib.hid (Hb3.out.below HBx.out Hb3.out.lt)
  have Gb5 := Lib.hid (Hb5.out.below HBx.out Hb5.out.lt)
  have GBP := Lib.hid (HBP.out.trans (HBx.out.mono HBP.out.size))
  clear Hb1 Hb3 Hb5 HBP
  have Hb1 := Gb1
  have Hb3 := Gb3
  have Hb5 := Gb5
  have HBP := GBP
  clear Gb1 Gb3 Gb5 GBP
  clear HBx
  go_upto_region 7 with (fail)
  obtain ⟨V6, hV⟩ : ∃ V, we.alloc (.cells #[.int .i64 10, .slice (some ⟨g, 0, none⟩) 2 2] 35) = V := ⟨_, rfl⟩
  have hz : Below we.heap.size we V6 := by rw [← hV]; exact (Below.refl _ _).alloc (Nat.le_refl _) _
  have Hb7' : Blk V6 we.heap.size 35 #[.int .i64 10, .slice (some ⟨g, 0, none⟩) 2 2] := by rw [← hV]; exact Blk.new' _ _ _ rfl
  have q1 := Hb1.out.lt
  have q3 := Hb3.out.lt
  have q5 := Hb5.out.lt
  have gb7' := HBP.out.size
  rw [hV]
  obtain ⟨b7, hbx⟩ : ∃ b, we.heap.size = b := ⟨_, rfl⟩
  rw [hbx] at Hb7' q1 q3 q5 gb7' ⊢
  have gb7 := gb7'
  have Hz := Lib.hid hz
  have nb1b7 : ¬ b1 = b7 := by omega
  have nb3b7 : ¬ b3 = b7 := by omega
  have nb5b7 : ¬ b5 = b7 := by omega
  have nb7b1 : ¬ b7 = b1 := by omega
  have nb7b3 : ¬ b7 = b3 := by omega
  have nb7b5 : ¬ b7 = b5 := by omega
  have Gb1 := Lib.hid (Hb1.out.below Hz.out Hb1.out.lt)
  have Gb3 := Lib.hid (Hb3.out.below Hz.out Hb3.out.lt)
  have Gb5 := Lib.hid (Hb5.out.below Hz.out Hb5.out.lt)
  have GROW := Lib.hid (own_below HROW.out Hz.out (Nat.le_refl _))
  have GBP := Lib.hid (HBP.out.trans (Hz.out.mono HBP.out.size))
  clear Hb1 Hb3 Hb5 HBP HROW
  have Hb1 := Gb1
  have Hb3 := Gb3
  have Hb5 := Gb5
  have HBP := GBP
  have HROW := GROW
  clear Gb1 Gb3 Gb5 GBP GROW
  have Hb7 := Lib.hid Hb7'
  clear hV hz Hb7' q1 q3 q5 gb7' hbx Hz
  go_upto_region 7 with (fail)
  have HSV : Hid (∀ U, Below V6.heap.size V6 U → U.cell? ⟨b7, 0, none⟩ = some (.int .i64 10) ∧ U.cell? ⟨b7, 1, none⟩ = some (.slice (some ⟨g, 0, none⟩) 2 2)) := fun U hU => by
    have kb7 := Hb7.out.below hU Hb7.out.lt
    exact ⟨kb7.cell 0, kb7.cell 1⟩
  have k0 := HSV.out _ (Below.drew (Below.refl V6.heap.size V6))
  have HPX : Hid (∀ U, Below V6.heap.size V6 U → PrtsAt U U.heap.size (.slice (some ⟨g, 0, none⟩) 2 2) EXP) := fun U hU => prts_own (n := 2) rfl (own_below HROW.out hU (Nat.le_refl _))
  refine wp_region_noPanic ?_
  refine wp_region_held_drew (S := (fun w' => w'.cell? ⟨b7, 0, none⟩ = some (.int .i64 10) ∧ w'.cell? ⟨b7, 1, none⟩ = some (.slice (some ⟨g, 0, none⟩) 2 2))) (by kernel_rfl) ?_ (fun hHeld => ?_)
  · (try dsimp only); (exact k0)
  refine wpAnyH_take (i := 0) (oi := owk7_0) (v := ?_) rfl (by kernel_rfl) (by kernel_rfl) (by kernel_rfl) (fun _ _ _ h => h) (Or.inl ⟨by rfl, ?_⟩) (by assumption) ?_
  rotate_left
  · ((intro w hSw; delta owk7_0; (try dsimp only at hSw); go_simp) <;> with_reducible rfl)
  try simp only [owk7_0, Act.put, List.setIfInBounds_toArray, List.set_cons_zero, List.set_cons_succ]
  obtain ⟨W0, hW0⟩ : ∃ V, V6.drew = V := ⟨_, rfl⟩; rw [hW0] at hHeld ⊢; have HB0 : Hid (Below V6.heap.size V6 W0) := (by rw [← hW0]; exact Below.drew (Below.refl _ _)); clear hW0
  refine wpAnyH_ready (rs := [1]) (by kernel_rfl) (by simp) ?_
  refine AllReadyH.cons (o := owk7_1) rfl (fun K hK => ?_) AllReadyH.nil
  delta owk7_1
  go_simp
  (refine (lspan_any (1800000) (1800000) _).mono ?_; rintro e W1 ⟨rfl, hb⟩; have HB1 := Lib.hid (HB0.out.trans (hb.mono HB0.out.size)); clear hb)
  refine hK.out _ _ ?_ (fun hHeld => ?_)
  · (try dsimp only); (exact HSV.out _ HB1.out)
  clear hK K
  try simp only [owk7_1, Act.put, List.setIfInBounds_toArray, List.set_cons_zero, List.set_cons_succ]
  refine wpAnyH_ready (rs := [2]) (by kernel_rfl) (by simp) ?_
  refine AllReadyH.cons (o := owk7_2) rfl (fun K hK => ?_) AllReadyH.nil
  delta owk7_2
  go_simp
  (refine (levx0 _ g (HPX.out _ HB1.out)).mono ?_; rintro e W2 ⟨rfl, hb⟩; have HB2 := Lib.hid (HB1.out.trans (hb.mono HB1.out.size)); clear hb)
  refine hK.out _ _ ?_ (fun hHeld => ?_)
  · (try dsimp only); (exact HSV.out _ HB2.out)
  clear hK K
  try simp only [owk7_2, Act.put, List.setIfInBounds_toArray, List.set_cons_zero, List.set_cons_succ]
  refine wpAnyH_take (i := 3) (oi := owk7_3) (v := ?_) rfl (by kernel_rfl) (by kernel_rfl) (by kernel_rfl) (fun _ _ _ h => h) (Or.inl ⟨by rfl, ?_⟩) (by assumption) ?_
  rotate_left
  · ((intro w hSw; delta owk7_3; (try dsimp only at hSw); go_simp) <;> with_reducible rfl)
  try simp only [owk7_3, Act.put, List.setIfInBounds_toArray, List.set_cons_zero, List.set_cons_succ]
  refine wpAnyH_take (i := 4) (oi := owk7_4) (v := ?_) rfl (by kernel_rfl) (by kernel_rfl) (by kernel_rfl) (fun _ _ _ h => h) (Or.inl ⟨by rfl, ?_⟩) (by assumption) ?_
  rotate_left
  · ((intro w hSw; delta owk7_4; (try dsimp only at hSw); go_simp) <;> with_reducible rfl)
  try simp only [owk7_4, Act.put, List.setIfInBounds_toArray, List.set_cons_zero, List.set_cons_succ]
  refine wpAnyH_take (i := 5) (oi := owk7_5) (v := ?_) rfl (by kernel_rfl) (by kernel_rfl) (by kernel_rfl) (fun _ _ _ h => h) (Or.inl ⟨by rfl, ?_⟩) (by assumption) ?_
  rotate_left
  · ((intro w hSw; delta owk7_5; (try dsimp only at hSw); go_simp) <;> with_reducible rfl)
  try simp only [owk7_5, Act.put, List.setIfInBounds_toArray, List.set_cons_zero, List.set_cons_succ]
  have Gb1 := Lib.hid (Hb1.out.below HB2.out Hb1.out.lt)
  have Gb3 := Lib.hid (Hb3.out.below HB2.out Hb3.out.lt)
  have Gb5 := Lib.hid (Hb5.out.below HB2.out Hb5.out.lt)
  have Gb7 := Lib.hid (Hb7.out.below HB2.out Hb7.out.lt)
  have GROW := Lib.hid (own_below HROW.out HB2.out (Nat.le_refl _))
  have GBP := Lib.hid (HBP.out.trans (HB2.out.mono HBP.out.size))
  clear Hb1 Hb3 Hb5 Hb7 HBP HROW
  have Hb1 := Gb1
  have Hb3 := Gb3
  have Hb5 := Gb5
  have Hb7 := Gb7
  have HBP := GBP
  have HROW := GROW
  clear Gb1 Gb3 Gb5 Gb7 GBP GROW
  obtain ⟨u0, u1, v0, v1⟩ := span_parts Hb1.out
  refine wpAnyH_ready (rs := [6]) (by kernel_rfl) (by simp) ?_
  refine AllReadyH.cons (o := owk7_6) rfl (fun K hK => ?_) AllReadyH.nil
  delta owk7_6
  go_simp
  refine hK.out _ _ ?_ (fun hHeld => ?_)
  · (try dsimp only); (have k := HSV.out _ HB2.out; exact ⟨(cell_far3 _ _ _ _ (by exact nb1b7)).trans k.1, (cell_far3 _ _ _ _ (by exact nb1b7)).trans k.2⟩)
  clear hK K
  try simp only [owk7_6, Act.put, List.setIfInBounds_toArray, List.set_cons_zero, List.set_cons_succ]
  refine wpAnyH_take (i := 7) (oi := owk7_7) (v := ?_) rfl (by kernel_rfl) (by kernel_rfl) (by kernel_rfl) (fun _ _ _ h => h) (Or.inl ⟨by rfl, ?_⟩) (by assumption) ?_
  rotate_left
  · ((intro w hSw; delta owk7_7; (try dsimp only at hSw); go_simp) <;> with_reducible rfl)
  try simp only [owk7_7, Act.put, List.setIfInBounds_toArray, List.set_cons_zero, List.set_cons_succ]
  refine wpAnyH_done (by kernel_rfl) ?_ _
  refine NoPanic.normal ?_
  clear u0 u1 v0 v1 HSV HPX k0 HB0 HB1 HB2
  have Gb1 := (Hb1.out.set_ 0 (.int .i64 (-40))).set_ 1 (.int .i64 (-40))
  have Gb3 := (Hb3.out.far_ (p := ⟨b1, 0, none⟩) (by exact nb3b1) (.int .i64 (-40))).far_ (p := ⟨b1, 1, none⟩) (by exact nb3b1) (.int .i64 (-40))
  have Gb5 := (Hb5.out.far_ (p := ⟨b1, 0, none⟩) (by exact nb5b1) (.int .i64 (-40))).far_ (p := ⟨b1, 1, none⟩) (by exact nb5b1) (.int .i64 (-40))
  have Gb7 := (Hb7.out.far_ (p := ⟨b1, 0, none⟩) (by exact nb7b1) (.int .i64 (-40))).far_ (p := ⟨b1, 1, none⟩) (by exact nb7b1) (.int .i64 (-40))
  have GROW := own_set (own_set HROW.out (p := ⟨b1, 0, none⟩) hgb1 (.int .i64 (-40))) (p := ⟨b1, 1, none⟩) hgb1 (.int .i64 (-40))
  have GBP := (HBP.out.setCell (p := ⟨b1, 0, none⟩) gb1 (.int .i64 (-40))).setCell (p := ⟨b1, 1, none⟩) gb1 (.int .i64 (-40))
  obtain ⟨V7, hV⟩ : ∃ V, (W2.setCell ⟨b1, 0, none⟩ (.int .i64 (-40))).setCell ⟨b1, 1, none⟩ (.int .i64 (-40)) = V := ⟨_, rfl⟩
  rw [hV] at Gb1 Gb3 Gb5 Gb7 GROW GBP
  try rw [hV]
  clear hV Hb1 Hb3 Hb5 Hb7 HROW HBP
  have Hb1 := Lib.hid Gb1
  have Hb3 := Lib.hid Gb3
  have Hb5 := Lib.hid Gb5
  have Hb7 := Lib.hid Gb7
  have HROW := Lib.hid GROW
  have HBP := Lib.hid GBP
  clear Gb1 Gb3 Gb5 Gb7 GROW GBP
  go_upto_region 8 with (fail)
  have HSV : Hid (∀ U, Below V7.heap.size V7 U → U.cell? ⟨b7, 0, none⟩ = some (.int .i64 10) ∧ U.cell? ⟨b7, 1, none⟩ = some (.slice (some ⟨g, 0, none⟩) 2 2)) := fun U hU => by
    have kb7 := Hb7.out.below hU Hb7.out.lt
    exact ⟨kb7.cell 0, kb7.cell 1⟩
  have k0 := HSV.out _ (Below.drew (Below.refl V7.heap.size V7))
  have HPX : Hid (∀ U, Below V7.heap.size V7 U → PrtsAt U U.heap.size (.slice (some ⟨g, 0, none⟩) 2 2) EXP) := fun U hU => prts_own (n := 2) rfl (own_below HROW.out hU (Nat.le_refl _))
  refine wp_region_noPanic ?_
  refine wp_region_held_drew (S := (fun w' => w'.cell? ⟨b7, 0, none⟩ = some (.int .i64 10) ∧ w'.cell? ⟨b7, 1, none⟩ = some (.slice (some ⟨g, 0, none⟩) 2 2))) (by kernel_rfl) ?_ (fun hHeld => ?_)
  · (try dsimp only); (exact k0)
  refine wpAnyH_take (i := 0) (oi := owk8_0) (v := ?_) rfl (by kernel_rfl) (by kernel_rfl) (by kernel_rfl) (fun _ _ _ h => h) (Or.inl ⟨by rfl, ?_⟩) (by assumption) ?_
  rotate_left
  · ((intro w hSw; delta owk8_0; (try dsimp only at hSw); go_simp) <;> with_reducible rfl)
  try simp only [owk8_0, Act.put, List.setIfInBounds_toArray, List.set_cons_zero, List.set_cons_succ]
  obtain ⟨W0, hW0⟩ : ∃ V, V7.drew = V := ⟨_, rfl⟩; rw [hW0] at hHeld ⊢; have HB0 : Hid (Below V7.heap.size V7 W0) := (by rw [← hW0]; exact Below.drew (Below.refl _ _)); clear hW0
  refine wpAnyH_ready (rs := [1]) (by kernel_rfl) (by simp) ?_
  refine AllReadyH.cons (o := owk8_1) rfl (fun K hK => ?_) AllReadyH.nil
  delta owk8_1
  go_simp
  (refine (lspan_any (900000) (900000) _).mono ?_; rintro e W1 ⟨rfl, hb⟩; have HB1 := Lib.hid (HB0.out.trans (hb.mono HB0.out.size)); clear hb)
  refine hK.out _ _ ?_ (fun hHeld => ?_)
  · (try dsimp only); (exact HSV.out _ HB1.out)
  clear hK K
  try simp only [owk8_1, Act.put, List.setIfInBounds_toArray, List.set_cons_zero, List.set_cons_succ]
  refine wpAnyH_ready (rs := [2]) (by kernel_rfl) (by simp) ?_
  refine AllReadyH.cons (o := owk8_2) rfl (fun K hK => ?_) AllReadyH.nil
  delta owk8_2
  go_simp
  (refine (levx1 _ g (HPX.out _ HB1.out)).mono ?_; rintro e W2 ⟨rfl, hb⟩; have HB2 := Lib.hid (HB1.out.trans (hb.mono HB1.out.size)); clear hb)
  refine hK.out _ _ ?_ (fun hHeld => ?_)
  · (try dsimp only); (exact HSV.out _ HB2.out)
  clear hK K
  try simp only [owk8_2, Act.put, List.setIfInBounds_toArray, List.set_cons_zero, List.set_cons_succ]
  refine wpAnyH_take (i := 3) (oi := owk8_3) (v := ?_) rfl (by kernel_rfl) (by kernel_rfl) (by kernel_rfl) (fun _ _ _ h => h) (Or.inl ⟨by rfl, ?_⟩) (by assumption) ?_
  rotate_left
  · ((intro w hSw; delta owk8_3; (try dsimp only at hSw); go_simp) <;> with_reducible rfl)
  try simp only [owk8_3, Act.put, List.setIfInBounds_toArray, List.set_cons_zero, List.set_cons_succ]
  refine wpAnyH_take (i := 4) (oi := owk8_4) (v := ?_) rfl (by kernel_rfl) (by kernel_rfl) (by kernel_rfl) (fun _ _ _ h => h) (Or.inl ⟨by rfl, ?_⟩) (by assumption) ?_
  rotate_left
  · ((intro w hSw; delta owk8_4; (try dsimp only at hSw); go_simp) <;> with_reducible rfl)
  try simp only [owk8_4, Act.put, List.setIfInBounds_toArray, List.set_cons_zero, List.set_cons_succ]
  refine wpAnyH_take (i := 5) (oi := owk8_5) (v := ?_) rfl (by kernel_rfl) (by kernel_rfl) (by kernel_rfl) (fun _ _ _ h => h) (Or.inl ⟨by rfl, ?_⟩) (by assumption) ?_
  rotate_left
  · ((intro w hSw; delta owk8_5; (try dsimp only at hSw); go_simp) <;> with_reducible rfl)
  try simp only [owk8_5, Act.put, List.setIfInBounds_toArray, List.set_cons_zero, List.set_cons_succ]
  have Gb1 := Lib.hid (Hb1.out.below HB2.out Hb1.out.lt)
  have Gb3 := Lib.hid (Hb3.out.below HB2.out Hb3.out.lt)
  have Gb5 := Lib.hid (Hb5.out.below HB2.out Hb5.out.lt)
  have Gb7 := Lib.hid (Hb7.out.below HB2.out Hb7.out.lt)
  have GROW := Lib.hid (own_below HROW.out HB2.out (Nat.le_refl _))
  have GBP := Lib.hid (HBP.out.trans (HB2.out.mono HBP.out.size))
  clear Hb1 Hb3 Hb5 Hb7 HBP HROW
  have Hb1 := Gb1
  have Hb3 := Gb3
  have Hb5 := Gb5
  have Hb7 := Gb7
  have HBP := GBP
  have HROW := GROW
  clear Gb1 Gb3 Gb5 Gb7 GBP GROW
  obtain ⟨u0, u1, v0, v1⟩ := span_parts Hb3.out
  refine wpAnyH_ready (rs := [6]) (by kernel_rfl) (by simp) ?_
  refine AllReadyH.cons (o := owk8_6) rfl (fun K hK => ?_) AllReadyH.nil
  delta owk8_6
  go_simp
  refine hK.out _ _ ?_ (fun hHeld => ?_)
  · (try dsimp only); (have k := HSV.out _ HB2.out; exact ⟨(cell_far3 _ _ _ _ (by exact nb3b7)).trans k.1, (cell_far3 _ _ _ _ (by exact nb3b7)).trans k.2⟩)
  clear hK K
  try simp only [owk8_6, Act.put, List.setIfInBounds_toArray, List.set_cons_zero, List.set_cons_succ]
  refine wpAnyH_take (i := 7) (oi := owk8_7) (v := ?_) rfl (by kernel_rfl) (by kernel_rfl) (by kernel_rfl) (fun _ _ _ h => h) (Or.inl ⟨by rfl, ?_⟩) (by assumption) ?_
  rotate_left
  · ((intro w hSw; delta owk8_7; (try dsimp only at hSw); go_simp) <;> with_reducible rfl)
  try simp only [owk8_7, Act.put, List.setIfInBounds_toArray, List.set_cons_zero, List.set_cons_succ]
  refine wpAnyH_done (by kernel_rfl) ?_ _
  refine NoPanic.normal ?_
  clear u0 u1 v0 v1 HSV HPX k0 HB0 HB1 HB2
  have Gb1 := (Hb1.out.far_ (p := ⟨b3, 0, none⟩) (by exact nb1b3) (.int .i64 (45))).far_ (p := ⟨b3, 1, none⟩) (by exact nb1b3) (.int .i64 (46))
  have Gb3 := (Hb3.out.set_ 0 (.int .i64 (45))).set_ 1 (.int .i64 (46))
  have Gb5 := (Hb5.out.far_ (p := ⟨b3, 0, none⟩) (by exact nb5b3) (.int .i64 (45))).far_ (p := ⟨b3, 1, none⟩) (by exact nb5b3) (.int .i64 (46))
  have Gb7 := (Hb7.out.far_ (p := ⟨b3, 0, none⟩) (by exact nb7b3) (.int .i64 (45))).far_ (p := ⟨b3, 1, none⟩) (by exact nb7b3) (.int .i64 (46))
  have GROW := own_set (own_set HROW.out (p := ⟨b3, 0, none⟩) hgb3 (.int .i64 (45))) (p := ⟨b3, 1, none⟩) hgb3 (.int .i64 (46))
  have GBP := (HBP.out.setCell (p := ⟨b3, 0, none⟩) gb3 (.int .i64 (45))).setCell (p := ⟨b3, 1, none⟩) gb3 (.int .i64 (46))
  obtain ⟨V8, hV⟩ : ∃ V, (W2.setCell ⟨b3, 0, none⟩ (.int .i64 (45))).setCell ⟨b3, 1, none⟩ (.int .i64 (46)) = V := ⟨_, rfl⟩
  rw [hV] at Gb1 Gb3 Gb5 Gb7 GROW GBP
  try rw [hV]
  clear hV Hb1 Hb3 Hb5 Hb7 HROW HBP
  have Hb1 := Lib.hid Gb1
  have Hb3 := Lib.hid Gb3
  have Hb5 := Lib.hid Gb5
  have Hb7 := Lib.hid Gb7
  have HROW := Lib.hid GROW
  have HBP := Lib.hid GBP
  clear Gb1 Gb3 Gb5 Gb7 GROW GBP
  go_upto_region 9 with (fail)
  have HSV : Hid (∀ U, Below V8.heap.size V8 U → U.cell? ⟨b7, 0, none⟩ = some (.int .i64 10) ∧ U.cell? ⟨b7, 1, none⟩ = some (.slice (some ⟨g, 0, none⟩) 2 2)) := fun U hU => by
    have kb7 := Hb7.out.below hU Hb7.out.lt
    exact ⟨kb7.cell 0, kb7.cell 1⟩
  have k0 := HSV.out _ (Below.drew (Below.refl V8.heap.size V8))
  have HPX : Hid (∀ U, Below V8.heap.size V8 U → PrtsAt U U.heap.size (.slice (some ⟨g, 0, none⟩) 2 2) EXP) := fun U hU => prts_own (n := 2) rfl (own_below HROW.out hU (Nat.le_refl _))
  refine wp_region_noPanic ?_
  refine wp_region_held_drew (S := (fun w' => w'.cell? ⟨b7, 0, none⟩ = some (.int .i64 10) ∧ w'.cell? ⟨b7, 1, none⟩ = some (.slice (some ⟨g, 0, none⟩) 2 2))) (by kernel_rfl) ?_ (fun hHeld => ?_)
  · (try dsimp only); (exact k0)
  refine wpAnyH_take (i := 0) (oi := owk9_0) (v := ?_) rfl (by kernel_rfl) (by kernel_rfl) (by kernel_rfl) (fun _ _ _ h => h) (Or.inl ⟨by rfl, ?_⟩) (by assumption) ?_
  rotate_left
  · ((intro w hSw; delta owk9_0; (try dsimp only at hSw); go_simp) <;> with_reducible rfl)
  try simp only [owk9_0, Act.put, List.setIfInBounds_toArray, List.set_cons_zero, List.set_cons_succ]
  obtain ⟨W0, hW0⟩ : ∃ V, V8.drew = V := ⟨_, rfl⟩; rw [hW0] at hHeld ⊢; have HB0 : Hid (Below V8.heap.size V8 W0) := (by rw [← hW0]; exact Below.drew (Below.refl _ _)); clear hW0
  refine wpAnyH_ready (rs := [1]) (by kernel_rfl) (by simp) ?_
  refine AllReadyH.cons (o := owk9_1) rfl (fun K hK => ?_) AllReadyH.nil
  delta owk9_1
  go_simp
  (refine (lspan_any (0) (3600000) _).mono ?_; rintro e W1 ⟨rfl, hb⟩; have HB1 := Lib.hid (HB0.out.trans (hb.mono HB0.out.size)); clear hb)
  refine hK.out _ _ ?_ (fun hHeld => ?_)
  · (try dsimp only); (exact HSV.out _ HB1.out)
  clear hK K
  try simp only [owk9_1, Act.put, List.setIfInBounds_toArray, List.set_cons_zero, List.set_cons_succ]
  refine wpAnyH_ready (rs := [2]) (by kernel_rfl) (by simp) ?_
  refine AllReadyH.cons (o := owk9_2) rfl (fun K hK => ?_) AllReadyH.nil
  delta owk9_2
  go_simp
  (refine (levx2 _ g (HPX.out _ HB1.out)).mono ?_; rintro e W2 ⟨rfl, hb⟩; have HB2 := Lib.hid (HB1.out.trans (hb.mono HB1.out.size)); clear hb)
  refine hK.out _ _ ?_ (fun hHeld => ?_)
  · (try dsimp only); (exact HSV.out _ HB2.out)
  clear hK K
  try simp only [owk9_2, Act.put, List.setIfInBounds_toArray, List.set_cons_zero, List.set_cons_succ]
  refine wpAnyH_take (i := 3) (oi := owk9_3) (v := ?_) rfl (by kernel_rfl) (by kernel_rfl) (by kernel_rfl) (fun _ _ _ h => h) (Or.inl ⟨by rfl, ?_⟩) (by assumption) ?_
  rotate_left
  · ((intro w hSw; delta owk9_3; (try dsimp only at hSw); go_simp) <;> with_reducible rfl)
  try simp only [owk9_3, Act.put, List.setIfInBounds_toArray, List.set_cons_zero, List.set_cons_succ]
  refine wpAnyH_take (i := 4) (oi := owk9_4) (v := ?_) rfl (by kernel_rfl) (by kernel_rfl) (by kernel_rfl) (fun _ _ _ h => h) (Or.inl ⟨by rfl, ?_⟩) (by assumption) ?_
  rotate_left
  · ((intro w hSw; delta owk9_4; (try dsimp only at hSw); go_simp) <;> with_reducible rfl)
  try simp only [owk9_4, Act.put, List.setIfInBounds_toArray, List.set_cons_zero, List.set_cons_succ]
  refine wpAnyH_take (i := 5) (oi := owk9_5) (v := ?_) rfl (by kernel_rfl) (by kernel_rfl) (by kernel_rfl) (fun _ _ _ h => h) (Or.inl ⟨by rfl, ?_⟩) (by assumption) ?_
  rotate_left
  · ((intro w hSw; delta owk9_5; (try dsimp only at hSw); go_simp) <;> with_reducible rfl)
  try simp only [owk9_5, Act.put, List.setIfInBounds_toArray, List.set_cons_zero, List.set_cons_succ]
  have Gb1 := Lib.hid (Hb1.out.below HB2.out Hb1.out.lt)
  have Gb3 := Lib.hid (Hb3.out.below HB2.out Hb3.out.lt)
  have Gb5 := Lib.hid (Hb5.out.below HB2.out Hb5.out.lt)
  have Gb7 := Lib.hid (Hb7.out.below HB2.out Hb7.out.lt)
  have GROW := Lib.hid (own_below HROW.out HB2.out (Nat.le_refl _))
  have GBP := Lib.hid (HBP.out.trans (HB2.out.mono HBP.out.size))
  clear Hb1 Hb3 Hb5 Hb7 HBP HROW
  have Hb1 := Gb1
  have Hb3 := Gb3
  have Hb5 := Gb5
  have Hb7 := Gb7
  have HBP := GBP
  have HROW := GROW
  clear Gb1 Gb3 Gb5 Gb7 GBP GROW
  obtain ⟨u0, u1, v0, v1⟩ := span_parts Hb5.out
  refine wpAnyH_ready (rs := [6]) (by kernel_rfl) (by simp) ?_
  refine AllReadyH.cons (o := owk9_6) rfl (fun K hK => ?_) AllReadyH.nil
  delta owk9_6
  go_simp
  refine hK.out _ _ ?_ (fun hHeld => ?_)
  · (try dsimp only); (have k := HSV.out _ HB2.out; exact ⟨(cell_far3 _ _ _ _ (by exact nb5b7)).trans k.1, (cell_far3 _ _ _ _ (by exact nb5b7)).trans k.2⟩)
  clear hK K
  try simp only [owk9_6, Act.put, List.setIfInBounds_toArray, List.set_cons_zero, List.set_cons_succ]
  refine wpAnyH_take (i := 7) (oi := owk9_7) (v := ?_) rfl (by kernel_rfl) (by kernel_rfl) (by kernel_rfl) (fun _ _ _ h => h) (Or.inl ⟨by rfl, ?_⟩) (by assumption) ?_
  rotate_left
  · ((intro w hSw; delta owk9_7; (try dsimp only at hSw); go_simp) <;> with_reducible rfl)
  try simp only [owk9_7, Act.put, List.setIfInBounds_toArray, List.set_cons_zero, List.set_cons_succ]
  refine wpAnyH_done (by kernel_rfl) ?_ _
  refine NoPanic.normal ?_
  clear u0 u1 v0 v1 HSV HPX k0 HB0 HB1 HB2
  have Gb1 := (Hb1.out.far_ (p := ⟨b5, 0, none⟩) (by exact nb1b5) (.int .i64 (-90))).far_ (p := ⟨b5, 1, none⟩) (by exact nb1b5) (.int .i64 (160))
  have Gb3 := (Hb3.out.far_ (p := ⟨b5, 0, none⟩) (by exact nb3b5) (.int .i64 (-90))).far_ (p := ⟨b5, 1, none⟩) (by exact nb3b5) (.int .i64 (160))
  have Gb5 := (Hb5.out.set_ 0 (.int .i64 (-90))).set_ 1 (.int .i64 (160))
  have Gb7 := (Hb7.out.far_ (p := ⟨b5, 0, none⟩) (by exact nb7b5) (.int .i64 (-90))).far_ (p := ⟨b5, 1, none⟩) (by exact nb7b5) (.int .i64 (160))
  have GROW := own_set (own_set HROW.out (p := ⟨b5, 0, none⟩) hgb5 (.int .i64 (-90))) (p := ⟨b5, 1, none⟩) hgb5 (.int .i64 (160))
  have GBP := (HBP.out.setCell (p := ⟨b5, 0, none⟩) gb5 (.int .i64 (-90))).setCell (p := ⟨b5, 1, none⟩) gb5 (.int .i64 (160))
  obtain ⟨V9, hV⟩ : ∃ V, (W2.setCell ⟨b5, 0, none⟩ (.int .i64 (-90))).setCell ⟨b5, 1, none⟩ (.int .i64 (160)) = V := ⟨_, rfl⟩
  rw [hV] at Gb1 Gb3 Gb5 Gb7 GROW GBP
  try rw [hV]
  clear hV Hb1 Hb3 Hb5 Hb7 HROW HBP
  have Hb1 := Lib.hid Gb1
  have Hb3 := Lib.hid Gb3
  have Hb5 := Lib.hid Gb5
  have Hb7 := Lib.hid Gb7
  have HROW := Lib.hid GROW
  have HBP := Lib.hid GBP
  clear Gb1 Gb3 Gb5 Gb7 GROW GBP
  go_upto_region 10 with (fail)
  have HSV : Hid (∀ U, Below V9.heap.size V9 U → U.cell? ⟨b1, 0, none⟩ = some (.int .i64 (-40)) ∧ U.cell? ⟨b1, 1, none⟩ = some (.int .i64 (-40)) ∧ U.cell? ⟨b3, 0, none⟩ = some (.int .i64 (45)) ∧ U.cell? ⟨b3, 1, none⟩ = some (.int .i64 (46)) ∧ U.cell? ⟨b5, 0, none⟩ = some (.int .i64 (-90)) ∧ U.cell? ⟨b5, 1, none⟩ = some (.int .i64 (160))) := fun U hU => by
    have kb1 := Hb1.out.below hU Hb1.out.lt
    have kb3 := Hb3.out.below hU Hb3.out.lt
    have kb5 := Hb5.out.below hU Hb5.out.lt
    exact ⟨kb1.cell 0, kb1.cell 1, kb3.cell 0, kb3.cell 1, kb5.cell 0, kb5.cell 1⟩
  have k0 := HSV.out _ (Below.drew (Below.refl V9.heap.size V9))
  refine wp_region_noPanic ?_
  refine wp_region_L (S := (fun w' => w'.cell? ⟨b1, 0, none⟩ = some (.int .i64 (-40)) ∧ w'.cell? ⟨b1, 1, none⟩ = some (.int .i64 (-40)) ∧ w'.cell? ⟨b3, 0, none⟩ = some (.int .i64 (45)) ∧ w'.cell? ⟨b3, 1, none⟩ = some (.int .i64 (46)) ∧ w'.cell? ⟨b5, 0, none⟩ = some (.int .i64 (-90)) ∧ w'.cell? ⟨b5, 1, none⟩ = some (.int .i64 (160)))) (ks := []) (by kernel_rfl) ?_ (fun hHeld => ?_)
  · (try dsimp only); (exact k0)
  refine wpAnyL_take (i := 0) (oi := owk10_0) (v := ?_) rfl (by kernel_rfl) (fun _ _ _ h => h) (Or.inl ⟨by rfl, ?_⟩) (by assumption) ?_
  rotate_left
  · ((intro w hSw; delta owk10_0; (try dsimp only at hSw); go_simp) <;> with_reducible rfl)
  try simp only [owk10_0, Act.put, List.setIfInBounds_toArray, List.set_cons_zero, List.set_cons_succ]
  refine wpAnyL_take (i := 1) (oi := owk10_1) (v := ?_) rfl (by kernel_rfl) (fun _ _ _ h => h) (Or.inl ⟨by rfl, ?_⟩) (by assumption) ?_
  rotate_left
  · ((intro w hSw; delta owk10_1; (try dsimp only at hSw); go_simp) <;> with_reducible rfl)
  try simp only [owk10_1, Act.put, List.setIfInBounds_toArray, List.set_cons_zero, List.set_cons_succ]
  refine wpAnyL_take (i := 2) (oi := owk10_2) (v := ?_) rfl (by kernel_rfl) (fun _ _ _ h => h) (Or.inl ⟨by rfl, ?_⟩) (by assumption) ?_
  rotate_left
  · ((intro w hSw; delta owk10_2; (try dsimp only at hSw); go_simp) <;> with_reducible rfl)
  try simp only [owk10_2, Act.put, List.setIfInBounds_toArray, List.set_cons_zero, List.set_cons_succ]
  refine wpAnyL_take (i := 3) (oi := owk10_3) (v := ?_) rfl (by kernel_rfl) (fun _ _ _ h => h) (Or.inl ⟨by rfl, ?_⟩) (by assumption) ?_
  rotate_left
  · ((intro w hSw; delta owk10_3; (try dsimp only at hSw); go_simp) <;> with_reducible rfl)
  try simp only [owk10_3, Act.put, List.setIfInBounds_toArray, List.set_cons_zero, List.set_cons_succ]
  refine wpAnyL_take (i := 4) (oi := owk10_4) (v := ?_) rfl (by kernel_rfl) (fun _ _ _ h => h) (Or.inl ⟨by rfl, ?_⟩) (by assumption) ?_
  rotate_left
  · ((intro w hSw; delta owk10_4; (try dsimp only at hSw); go_simp) <;> with_reducible rfl)
  try simp only [owk10_4, Act.put, List.setIfInBounds_toArray, List.set_cons_zero, List.set_cons_succ]
  refine wpAnyL_take (i := 5) (oi := owk10_5) (v := ?_) rfl (by kernel_rfl) (fun _ _ _ h => h) (Or.inl ⟨by rfl, ?_⟩) (by assumption) ?_
  rotate_left
  · ((intro w hSw; delta owk10_5; (try dsimp only at hSw); go_simp) <;> with_reducible rfl)
  try simp only [owk10_5, Act.put, List.setIfInBounds_toArray, List.set_cons_zero, List.set_cons_succ]
  refine wpAnyL_take (i := 6) (oi := owk10_6) (v := ?_) rfl (by kernel_rfl) (fun _ _ _ h => h) (Or.inl ⟨by rfl, ?_⟩) (by assumption) ?_
  rotate_left
  · ((intro w hSw; delta owk10_6; (try dsimp only at hSw); go_simp) <;> with_reducible rfl)
  try simp only [owk10_6, Act.put, List.setIfInBounds_toArray, List.set_cons_zero, List.set_cons_succ]
  refine wpAnyL_take (i := 7) (oi := owk10_7) (v := ?_) rfl (by kernel_rfl) (fun _ _ _ h => h) (Or.inl ⟨by rfl, ?_⟩) (by assumption) ?_
  rotate_left
  · ((intro w hSw; delta owk10_7; (try dsimp only at hSw); go_simp) <;> with_reducible rfl)
  try simp only [owk10_7, Act.put, List.setIfInBounds_toArray, List.set_cons_zero, List.set_cons_succ]
  refine wpAnyL_take (i := 8) (oi := owk10_8) (v := ?_) rfl (by kernel_rfl) (fun _ _ _ h => h) (Or.inl ⟨by rfl, ?_⟩) (by assumption) ?_
  rotate_left
  · ((intro w hSw; delta owk10_8; (try dsimp only at hSw); go_simp) <;> with_reducible rfl)
  try simp only [owk10_8, Act.put, List.setIfInBounds_toArray, List.set_cons_zero, List.set_cons_succ]
  refine wpAnyL_take (i := 9) (oi := owk10_9) (v := ?_) rfl (by kernel_rfl) (fun _ _ _ h => h) (Or.inl ⟨by rfl, ?_⟩) (by assumption) ?_
  rotate_left
  · ((intro w hSw; delta owk10_9; (try dsimp only at hSw); go_simp) <;> with_reducible rfl)
  try simp only [owk10_9, Act.put, List.setIfInBounds_toArray, List.set_cons_zero, List.set_cons_succ]
  refine wpAnyL_take (i := 10) (oi := owk10_10) (v := ?_) rfl (by kernel_rfl) (fun _ _ _ h => h) (Or.inl ⟨by rfl, ?_⟩) (by assumption) ?_
  rotate_left
  · ((intro w hSw; delta owk10_10; (try dsimp only at hSw); go_simp) <;> with_reducible rfl)
  try simp only [owk10_10, Act.put, List.setIfInBounds_toArray, List.set_cons_zero, List.set_cons_succ]
  refine wpAnyL_take (i := 11) (oi := owk10_11) (v := ?_) rfl (by kernel_rfl) (fun _ _ _ h => h) (Or.inl ⟨by rfl, ?_⟩) (by assumption) ?_
  rotate_left
  · ((intro w hSw; delta owk10_11; (try dsimp only at hSw); go_simp) <;> with_reducible rfl)
  try simp only [owk10_11, Act.put, List.setIfInBounds_toArray, List.set_cons_zero, List.set_cons_succ]
  obtain ⟨W0, hW0⟩ : ∃ V, V9.drew = V := ⟨_, rfl⟩; rw [hW0] at hHeld ⊢; have HB0 : Hid (Below V9.heap.size V9 W0) := (by rw [← hW0]; exact Below.drew (Below.refl _ _)); clear hW0
  refine wpAnyL_ready (rs := [12]) (by kernel_rfl) (by simp) ?_
  refine AllReadyL.cons (o := owk10_12) rfl (fun K hK => ?_) AllReadyL.nil
  delta owk10_12
  go_simp
  (refine (lspan_any _ _ _).mono ?_; rintro e W1 ⟨rfl, hb⟩; have HB1 := Lib.hid (HB0.out.trans (hb.mono HB0.out.size)); clear hb)
  refine hK.out _ _ ?_ (fun hHeld => ?_)
  · (try dsimp only); (exact HSV.out _ HB1.out)
  clear hK K
  try simp only [owk10_12, Act.put, List.setIfInBounds_toArray, List.set_cons_zero, List.set_cons_succ]
  refine wpAnyL_take (i := 13) (oi := owk10_13) (v := ?_) rfl (by kernel_rfl) (fun _ _ _ h => h) (Or.inl ⟨by rfl, ?_⟩) (by assumption) ?_
  rotate_left
  · ((intro w hSw; delta owk10_13; (try dsimp only at hSw); go_simp) <;> with_reducible rfl)
  try simp only [owk10_13, Act.put, List.setIfInBounds_toArray, List.set_cons_zero, List.set_cons_succ]
  refine wpAnyL_take (i := 14) (oi := owk10_14) (v := ?_) rfl (by kernel_rfl) (fun _ _ _ h => h) (Or.inl ⟨by rfl, ?_⟩) (by assumption) ?_
  rotate_left
  · ((intro w hSw; delta owk10_14; (try dsimp only at hSw); go_simp) <;> with_reducible rfl)
  try simp only [owk10_14, Act.put, List.setIfInBounds_toArray, List.set_cons_zero, List.set_cons_succ]
  refine wpAnyL_take (i := 15) (oi := owk10_15) (v := ?_) rfl (by kernel_rfl) (fun _ _ _ h => h) (Or.inl ⟨by rfl, ?_⟩) (by assumption) ?_
  rotate_left
  · ((intro w hSw; delta owk10_15; (try dsimp only at hSw); go_simp) <;> with_reducible rfl)
  try simp only [owk10_15, Act.put, List.setIfInBounds_toArray, List.set_cons_zero, List.set_cons_succ]
  refine wpAnyL_take (i := 16) (oi := owk10_16) (v := ?_) rfl (by kernel_rfl) (fun _ _ _ h => h) (Or.inl ⟨by rfl, ?_⟩) (by assumption) ?_
  rotate_left
  · ((intro w hSw; delta owk10_16; (try dsimp only at hSw); go_simp) <;> with_reducible rfl)
  try simp only [owk10_16, Act.put, List.setIfInBounds_toArray, List.set_cons_zero, List.set_cons_succ]
  refine wpAnyL_ready (rs := [17]) (by kernel_rfl) (by simp) ?_
  refine AllReadyL.cons (o := owk10_17) rfl (fun K hK => ?_) AllReadyL.nil
  delta owk10_17
  go_simp
  (refine (lspan_any _ _ _).mono ?_; rintro e W2 ⟨rfl, hb⟩; have HB2 := Lib.hid (HB1.out.trans (hb.mono HB1.out.size)); clear hb)
  refine hK.out _ _ ?_ (fun hHeld => ?_)
  · (try dsimp only); (exact HSV.out _ HB2.out)
  clear hK K
  try simp only [owk10_17, Act.put, List.setIfInBounds_toArray, List.set_cons_zero, List.set_cons_succ]
  refine wpAnyL_take (i := 18) (oi := owk10_18) (v := ?_) rfl (by kernel_rfl) (fun _ _ _ h => h) (Or.inl ⟨by rfl, ?_⟩) (by assumption) ?_
  rotate_left
  · ((intro w hSw; delta owk10_18; (try dsimp only at hSw); go_simp) <;> with_reducible rfl)
  try simp only [owk10_18, Act.put, List.setIfInBounds_toArray, List.set_cons_zero, List.set_cons_succ]
  refine wpAnyL_take (i := 19) (oi := owk10_19) (v := ?_) rfl (by kernel_rfl) (fun _ _ _ h => h) (Or.inl ⟨by rfl, ?_⟩) (by assumption) ?_
  rotate_left
  · ((intro w hSw; delta owk10_19; (try dsimp only at hSw); go_simp) <;> with_reducible rfl)
  try simp only [owk10_19, Act.put, List.setIfInBounds_toArray, List.set_cons_zero, List.set_cons_succ]
  refine wpAnyL_take (i := 20) (oi := owk10_20) (v := ?_) rfl (by kernel_rfl) (fun _ _ _ h => h) (Or.inl ⟨by rfl, ?_⟩) (by assumption) ?_
  rotate_left
  · ((intro w hSw; delta owk10_20; (try dsimp only at hSw); go_simp) <;> with_reducible rfl)
  try simp only [owk10_20, Act.put, List.setIfInBounds_toArray, List.set_cons_zero, List.set_cons_succ]
  refine wpAnyL_take (i := 21) (oi := owk10_21) (v := ?_) rfl (by kernel_rfl) (fun _ _ _ h => h) (Or.inl ⟨by rfl, ?_⟩) (by assumption) ?_
  rotate_left
  · ((intro w hSw; delta owk10_21; (try dsimp only at hSw); go_simp) <;> with_reducible rfl)
  try simp only [owk10_21, Act.put, List.setIfInBounds_toArray, List.set_cons_zero, List.set_cons_succ]
  refine wpAnyL_ready (rs := [22]) (by kernel_rfl) (by simp) ?_
  refine AllReadyL.cons (o := owk10_22) rfl (fun K hK => ?_) AllReadyL.nil
  delta owk10_22
  go_simp
  (refine (lspan_any _ _ _).mono ?_; rintro e W3 ⟨rfl, hb⟩; have HB3 := Lib.hid (HB2.out.trans (hb.mono HB2.out.size)); clear hb)
  refine hK.out _ _ ?_ (fun hHeld => ?_)
  · (try dsimp only); (exact HSV.out _ HB3.out)
  clear hK K
  try simp only [owk10_22, Act.put, List.setIfInBounds_toArray, List.set_cons_zero, List.set_cons_succ]
  refine wpAnyL_take (i := 23) (oi := owk10_23) (v := ?_) rfl (by kernel_rfl) (fun _ _ _ h => h) (Or.inl ⟨by rfl, ?_⟩) (by assumption) ?_
  rotate_left
  · ((intro w hSw; delta owk10_23; (try dsimp only at hSw); go_simp) <;> with_reducible rfl)
  try simp only [owk10_23, Act.put, List.setIfInBounds_toArray, List.set_cons_zero, List.set_cons_succ]
  refine wpAnyL_take (i := 24) (oi := owk10_24) (v := ?_) rfl (by kernel_rfl) (fun _ _ _ h => h) (Or.inl ⟨by rfl, ?_⟩) (by assumption) ?_
  rotate_left
  · ((intro w hSw; delta owk10_24; (try dsimp only at hSw); go_simp) <;> with_reducible rfl)
  try simp only [owk10_24, Act.put, List.setIfInBounds_toArray, List.set_cons_zero, List.set_cons_succ]
  refine wpAnyL_done (by kernel_rfl) ?_ _
  refine NoPanic.normal ?_
  clear HSV k0 HB0 HB1 HB2
  have Gb1 := Lib.hid (Hb1.out.below HB3.out Hb1.out.lt)
  have Gb3 := Lib.hid (Hb3.out.below HB3.out Hb3.out.lt)
  have Gb5 := Lib.hid (Hb5.out.below HB3.out Hb5.out.lt)
  have Gb7 := Lib.hid (Hb7.out.below HB3.out Hb7.out.lt)
  have GROW := Lib.hid (own_below HROW.out HB3.out (Nat.le_refl _))
  have GBP := Lib.hid (HBP.out.trans (HB3.out.mono HBP.out.size))
  clear Hb1 Hb3 Hb5 Hb7 HBP HROW
  have Hb1 := Gb1
  have Hb3 := Gb3
  have Hb5 := Gb5
  have Hb7 := Gb7
  have HBP := GBP
  have HROW := GROW
  clear Gb1 Gb3 Gb5 Gb7 GBP GROW
  clear HB3
  obtain ⟨y0, y1⟩ : W3.cell? ⟨b7, 0, none⟩ = some (.int .i64 10) ∧ W3.cell? ⟨b7, 1, none⟩ = some (.slice (some ⟨g, 0, none⟩) 2 2) := ⟨Hb7.out.cell 0, Hb7.out.cell 1⟩
  go_wp2_with fail
  refine (rngx _ g (prts_own (n := 2) rfl HROW.out)).mono ?_
  rintro e wr ⟨rfl, hb⟩
  have HBr := Lib.hid hb
  clear hb y0 y1
  have Gb1 := Lib.hid (Hb1.out.below HBr.out Hb1.out.lt)
  have Gb3 := Lib.hid (Hb3.out.below HBr.out Hb3.out.lt)
  have Gb5 := Lib.hid (Hb5.out.below HBr.out Hb5.out.lt)
  have Gb7 := Lib.hid (Hb7.out.below HBr.out Hb7.out.lt)
  have GROW := Lib.hid (own_below HROW.out HBr.out (Nat.le_refl _))
  have GBP := Lib.hid (HBP.out.trans (HBr.out.mono HBP.out.size))
  clear Hb1 Hb3 Hb5 Hb7 HBP HROW
  have Hb1 := Gb1
  have Hb3 := Gb3
  have Hb5 := Gb5
  have Hb7 := Gb7
  have HBP := GBP
  have HROW := GROW
  clear Gb1 Gb3 Gb5 Gb7 GBP GROW
  clear HBr
  obtain ⟨u0, u1, v0, v1⟩ := span_parts Hb1.out
  go_upto_region 13 with (fail)
  clear u0 u1 v0 v1
  have Gb1 := (Hb1.out.set_ 0 (.int .i64 (-140))).set_ 1 (.int .i64 (160))
  have Gb3 := (Hb3.out.far_ (p := ⟨b1, 0, none⟩) (by exact nb3b1) (.int .i64 (-140))).far_ (p := ⟨b1, 1, none⟩) (by exact nb3b1) (.int .i64 (160))
  have Gb5 := (Hb5.out.far_ (p := ⟨b1, 0, none⟩) (by exact nb5b1) (.int .i64 (-140))).far_ (p := ⟨b1, 1, none⟩) (by exact nb5b1) (.int .i64 (160))
  have Gb7 := (Hb7.out.far_ (p := ⟨b1, 0, none⟩) (by exact nb7b1) (.int .i64 (-140))).far_ (p := ⟨b1, 1, none⟩) (by exact nb7b1) (.int .i64 (160))
  have GROW := own_set (own_set HROW.out (p := ⟨b1, 0, none⟩) hgb1 (.int .i64 (-140))) (p := ⟨b1, 1, none⟩) hgb1 (.int .i64 (160))
  have GBP := (HBP.out.setCell (p := ⟨b1, 0, none⟩) gb1 (.int .i64 (-140))).setCell (p := ⟨b1, 1, none⟩) gb1 (.int .i64 (160))
  obtain ⟨V12, hV⟩ : ∃ V, (wr.setCell ⟨b1, 0, none⟩ (.int .i64 (-140))).setCell ⟨b1, 1, none⟩ (.int .i64 (160)) = V := ⟨_, rfl⟩
  rw [hV] at Gb1 Gb3 Gb5 Gb7 GROW GBP
  try rw [hV]
  clear hV Hb1 Hb3 Hb5 Hb7 HROW HBP
  have Hb1 := Lib.hid Gb1
  have Hb3 := Lib.hid Gb3
  have Hb5 := Lib.hid Gb5
  have Hb7 := Lib.hid Gb7
  have HROW := Lib.hid GROW
  have HBP := Lib.hid GBP
  clear Gb1 Gb3 Gb5 Gb7 GROW GBP
  go_upto_region 13 with (fail)
  have HSV : Hid (∀ U, Below V12.heap.size V12 U → U.cell? ⟨b7, 0, none⟩ = some (.int .i64 10) ∧ U.cell? ⟨b7, 1, none⟩ = some (.slice (some ⟨g, 0, none⟩) 2 2)) := fun U hU => by
    have kb7 := Hb7.out.below hU Hb7.out.lt
    exact ⟨kb7.cell 0, kb7.cell 1⟩
  have k0 := HSV.out _ (Below.drew (Below.refl V12.heap.size V12))
  have HPX : Hid (∀ U, Below V12.heap.size V12 U → PrtsAt U U.heap.size (.slice (some ⟨g, 0, none⟩) 2 2) EXP) := fun U hU => prts_own (n := 2) rfl (own_below HROW.out hU (Nat.le_refl _))
  refine wp_region_noPanic ?_
  refine wp_region_held_drew (S := (fun w' => w'.cell? ⟨b7, 0, none⟩ = some (.int .i64 10) ∧ w'.cell? ⟨b7, 1, none⟩ = some (.slice (some ⟨g, 0, none⟩) 2 2))) (by kernel_rfl) ?_ (fun hHeld => ?_)
  · (try dsimp only); (exact k0)
  refine wpAnyH_take (i := 0) (oi := owk13_0) (v := ?_) rfl (by kernel_rfl) (by kernel_rfl) (by kernel_rfl) (fun _ _ _ h => h) (Or.inl ⟨by rfl, ?_⟩) (by assumption) ?_
  rotate_left
  · ((intro w hSw; delta owk13_0; (try dsimp only at hSw); go_simp) <;> with_reducible rfl)
  try simp only [owk13_0, Act.put, List.setIfInBounds_toArray, List.set_cons_zero, List.set_cons_succ]
  obtain ⟨W0, hW0⟩ : ∃ V, V12.drew = V := ⟨_, rfl⟩; rw [hW0] at hHeld ⊢; have HB0 : Hid (Below V12.heap.size V12 W0) := (by rw [← hW0]; exact Below.drew (Below.refl _ _)); clear hW0
  refine wpAnyH_ready (rs := [1]) (by kernel_rfl) (by simp) ?_
  refine AllReadyH.cons (o := owk13_1) rfl (fun K hK => ?_) AllReadyH.nil
  delta owk13_1
  go_simp
  (refine (lspan_any (0) (3600000) _).mono ?_; rintro e W1 ⟨rfl, hb⟩; have HB1 := Lib.hid (HB0.out.trans (hb.mono HB0.out.size)); clear hb)
  refine hK.out _ _ ?_ (fun hHeld => ?_)
  · (try dsimp only); (exact HSV.out _ HB1.out)
  clear hK K
  try simp only [owk13_1, Act.put, List.setIfInBounds_toArray, List.set_cons_zero, List.set_cons_succ]
  refine wpAnyH_ready (rs := [2]) (by kernel_rfl) (by simp) ?_
  refine AllReadyH.cons (o := owk13_2) rfl (fun K hK => ?_) AllReadyH.nil
  delta owk13_2
  go_simp
  (refine (peakx _ g (HPX.out _ HB1.out)).mono ?_; rintro e W2 ⟨rfl, hb⟩; have HB2 := Lib.hid (HB1.out.trans (hb.mono HB1.out.size)); clear hb)
  refine hK.out _ _ ?_ (fun hHeld => ?_)
  · (try dsimp only); (exact HSV.out _ HB2.out)
  clear hK K
  try simp only [owk13_2, Act.put, List.setIfInBounds_toArray, List.set_cons_zero, List.set_cons_succ]
  refine wpAnyH_take (i := 3) (oi := owk13_3) (v := ?_) rfl (by kernel_rfl) (by kernel_rfl) (by kernel_rfl) (fun _ _ _ h => h) (Or.inl ⟨by rfl, ?_⟩) (by assumption) ?_
  rotate_left
  · ((intro w hSw; delta owk13_3; (try dsimp only at hSw); go_simp) <;> with_reducible rfl)
  try simp only [owk13_3, Act.put, List.setIfInBounds_toArray, List.set_cons_zero, List.set_cons_succ]
  refine wpAnyH_take (i := 4) (oi := owk13_4) (v := ?_) rfl (by kernel_rfl) (by kernel_rfl) (by kernel_rfl) (fun _ _ _ h => h) (Or.inl ⟨by rfl, ?_⟩) (by assumption) ?_
  rotate_left
  · ((intro w hSw; delta owk13_4; (try dsimp only at hSw); go_simp) <;> with_reducible rfl)
  try simp only [owk13_4, Act.put, List.setIfInBounds_toArray, List.set_cons_zero, List.set_cons_succ]
  refine wpAnyH_take (i := 5) (oi := owk13_5) (v := ?_) rfl (by kernel_rfl) (by kernel_rfl) (by kernel_rfl) (fun _ _ _ h => h) (Or.inl ⟨by rfl, ?_⟩) (by assumption) ?_
  rotate_left
  · ((intro w hSw; delta owk13_5; (try dsimp only at hSw); go_simp) <;> with_reducible rfl)
  try simp only [owk13_5, Act.put, List.setIfInBounds_toArray, List.set_cons_zero, List.set_cons_succ]
  have Gb1 := Lib.hid (Hb1.out.below HB2.out Hb1.out.lt)
  have Gb3 := Lib.hid (Hb3.out.below HB2.out Hb3.out.lt)
  have Gb5 := Lib.hid (Hb5.out.below HB2.out Hb5.out.lt)
  have Gb7 := Lib.hid (Hb7.out.below HB2.out Hb7.out.lt)
  have GROW := Lib.hid (own_below HROW.out HB2.out (Nat.le_refl _))
  have GBP := Lib.hid (HBP.out.trans (HB2.out.mono HBP.out.size))
  clear Hb1 Hb3 Hb5 Hb7 HBP HROW
  have Hb1 := Gb1
  have Hb3 := Gb3
  have Hb5 := Gb5
  have Hb7 := Gb7
  have HBP := GBP
  have HROW := GROW
  clear Gb1 Gb3 Gb5 Gb7 GBP GROW
  obtain ⟨u0, u1, v0, v1⟩ := span_parts Hb3.out
  refine wpAnyH_ready (rs := [6]) (by kernel_rfl) (by simp) ?_
  refine AllReadyH.cons (o := owk13_6) rfl (fun K hK => ?_) AllReadyH.nil
  delta owk13_6
  go_simp
  refine hK.out _ _ ?_ (fun hHeld => ?_)
  · (try dsimp only); (have k := HSV.out _ HB2.out; exact ⟨(cell_far3 _ _ _ _ (by exact nb3b7)).trans k.1, (cell_far3 _ _ _ _ (by exact nb3b7)).trans k.2⟩)
  clear hK K
  try simp only [owk13_6, Act.put, List.setIfInBounds_toArray, List.set_cons_zero, List.set_cons_succ]
  refine wpAnyH_take (i := 7) (oi := owk13_7) (v := ?_) rfl (by kernel_rfl) (by kernel_rfl) (by kernel_rfl) (fun _ _ _ h => h) (Or.inl ⟨by rfl, ?_⟩) (by assumption) ?_
  rotate_left
  · ((intro w hSw; delta owk13_7; (try dsimp only at hSw); go_simp) <;> with_reducible rfl)
  try simp only [owk13_7, Act.put, List.setIfInBounds_toArray, List.set_cons_zero, List.set_cons_succ]
  refine wpAnyH_done (by kernel_rfl) ?_ _
  refine NoPanic.normal ?_
  clear u0 u1 v0 v1 HSV HPX k0 HB0 HB1 HB2
  have Gb1 := (Hb1.out.far_ (p := ⟨b3, 0, none⟩) (by exact nb1b3) (.int .i64 (110))).far_ (p := ⟨b3, 1, none⟩) (by exact nb1b3) (.int .i64 (135))
  have Gb3 := (Hb3.out.set_ 0 (.int .i64 (110))).set_ 1 (.int .i64 (135))
  have Gb5 := (Hb5.out.far_ (p := ⟨b3, 0, none⟩) (by exact nb5b3) (.int .i64 (110))).far_ (p := ⟨b3, 1, none⟩) (by exact nb5b3) (.int .i64 (135))
  have Gb7 := (Hb7.out.far_ (p := ⟨b3, 0, none⟩) (by exact nb7b3) (.int .i64 (110))).far_ (p := ⟨b3, 1, none⟩) (by exact nb7b3) (.int .i64 (135))
  have GROW := own_set (own_set HROW.out (p := ⟨b3, 0, none⟩) hgb3 (.int .i64 (110))) (p := ⟨b3, 1, none⟩) hgb3 (.int .i64 (135))
  have GBP := (HBP.out.setCell (p := ⟨b3, 0, none⟩) gb3 (.int .i64 (110))).setCell (p := ⟨b3, 1, none⟩) gb3 (.int .i64 (135))
  obtain ⟨V13, hV⟩ : ∃ V, (W2.setCell ⟨b3, 0, none⟩ (.int .i64 (110))).setCell ⟨b3, 1, none⟩ (.int .i64 (135)) = V := ⟨_, rfl⟩
  rw [hV] at Gb1 Gb3 Gb5 Gb7 GROW GBP
  try rw [hV]
  clear hV Hb1 Hb3 Hb5 Hb7 HROW HBP
  have Hb1 := Lib.hid Gb1
  have Hb3 := Lib.hid Gb3
  have Hb5 := Lib.hid Gb5
  have Hb7 := Lib.hid Gb7
  have HROW := Lib.hid GROW
  have HBP := Lib.hid GBP
  clear Gb1 Gb3 Gb5 Gb7 GROW GBP
  go_upto_region 14 with (fail)
  have HSV : Hid (∀ U, Below V13.heap.size V13 U → U.cell? ⟨b7, 0, none⟩ = some (.int .i64 10) ∧ U.cell? ⟨b7, 1, none⟩ = some (.slice (some ⟨g, 0, none⟩) 2 2)) := fun U hU => by
    have kb7 := Hb7.out.below hU Hb7.out.lt
    exact ⟨kb7.cell 0, kb7.cell 1⟩
  have k0 := HSV.out _ (Below.drew (Below.refl V13.heap.size V13))
  have HPX : Hid (∀ U, Below V13.heap.size V13 U → PrtsAt U U.heap.size (.slice (some ⟨g, 0, none⟩) 2 2) EXP) := fun U hU => prts_own (n := 2) rfl (own_below HROW.out hU (Nat.le_refl _))
  refine wp_region_noPanic ?_
  refine wp_region_held_drew (S := (fun w' => w'.cell? ⟨b7, 0, none⟩ = some (.int .i64 10) ∧ w'.cell? ⟨b7, 1, none⟩ = some (.slice (some ⟨g, 0, none⟩) 2 2))) (by kernel_rfl) ?_ (fun hHeld => ?_)
  · (try dsimp only); (exact k0)
  refine wpAnyH_take (i := 0) (oi := owk14_0) (v := ?_) rfl (by kernel_rfl) (by kernel_rfl) (by kernel_rfl) (fun _ _ _ h => h) (Or.inl ⟨by rfl, ?_⟩) (by assumption) ?_
  rotate_left
  · ((intro w hSw; delta owk14_0; (try dsimp only at hSw); go_simp) <;> with_reducible rfl)
  try simp only [owk14_0, Act.put, List.setIfInBounds_toArray, List.set_cons_zero, List.set_cons_succ]
  obtain ⟨W0, hW0⟩ : ∃ V, V13.drew = V := ⟨_, rfl⟩; rw [hW0] at hHeld ⊢; have HB0 : Hid (Below V13.heap.size V13 W0) := (by rw [← hW0]; exact Below.drew (Below.refl _ _)); clear hW0
  refine wpAnyH_ready (rs := [1]) (by kernel_rfl) (by simp) ?_
  refine AllReadyH.cons (o := owk14_1) rfl (fun K hK => ?_) AllReadyH.nil
  delta owk14_1
  go_simp
  (refine (lspan_any (0) (3600000) _).mono ?_; rintro e W1 ⟨rfl, hb⟩; have HB1 := Lib.hid (HB0.out.trans (hb.mono HB0.out.size)); clear hb)
  refine hK.out _ _ ?_ (fun hHeld => ?_)
  · (try dsimp only); (exact HSV.out _ HB1.out)
  clear hK K
  try simp only [owk14_1, Act.put, List.setIfInBounds_toArray, List.set_cons_zero, List.set_cons_succ]
  refine wpAnyH_ready (rs := [2]) (by kernel_rfl) (by simp) ?_
  refine AllReadyH.cons (o := owk14_2) rfl (fun K hK => ?_) AllReadyH.nil
  delta owk14_2
  go_simp
  (refine (winx _ g (HPX.out _ HB1.out)).mono ?_; rintro e W2 ⟨y, rfl, hsp, hb⟩; have HSP := Lib.hid hsp; have HB2 := Lib.hid (HB1.out.trans (hb.mono HB1.out.size)); clear hb hsp)
  refine hK.out _ _ ?_ (fun hHeld => ?_)
  · (try dsimp only); (exact HSV.out _ HB2.out)
  clear hK K
  try simp only [owk14_2, Act.put, List.setIfInBounds_toArray, List.set_cons_zero, List.set_cons_succ]
  refine wpAnyH_take (i := 3) (oi := owk14_3) (v := ?_) rfl (by kernel_rfl) (by kernel_rfl) (by kernel_rfl) (fun _ _ _ h => h) (Or.inl ⟨by rfl, ?_⟩) (by assumption) ?_
  rotate_left
  · ((intro w hSw; delta owk14_3; (try dsimp only at hSw); go_simp) <;> with_reducible rfl)
  try simp only [owk14_3, Act.put, List.setIfInBounds_toArray, List.set_cons_zero, List.set_cons_succ]
  refine wpAnyH_take (i := 4) (oi := owk14_4) (v := ?_) rfl (by kernel_rfl) (by kernel_rfl) (by kernel_rfl) (fun _ _ _ h => h) (Or.inl ⟨by rfl, ?_⟩) (by assumption) ?_
  rotate_left
  · ((intro w hSw; delta owk14_4; (try dsimp only at hSw); go_simp) <;> with_reducible rfl)
  try simp only [owk14_4, Act.put, List.setIfInBounds_toArray, List.set_cons_zero, List.set_cons_succ]
  refine wpAnyH_take (i := 5) (oi := owk14_5) (v := ?_) rfl (by kernel_rfl) (by kernel_rfl) (by kernel_rfl) (fun _ _ _ h => h) (Or.inl ⟨by rfl, ?_⟩) (by assumption) ?_
  rotate_left
  · ((intro w hSw; delta owk14_5; (try dsimp only at hSw); go_simp) <;> with_reducible rfl)
  try simp only [owk14_5, Act.put, List.setIfInBounds_toArray, List.set_cons_zero, List.set_cons_succ]
  refine wpAnyH_take (i := 6) (oi := owk14_6) (v := ?_) rfl (by kernel_rfl) (by kernel_rfl) (by kernel_rfl) (fun _ _ _ h => h) (Or.inl ⟨by rfl, ?_⟩) (by assumption) ?_
  rotate_left
  · ((intro w hSw; delta owk14_6; (try dsimp only at hSw); go_simp) <;> with_reducible rfl)
  try simp only [owk14_6, Act.put, List.setIfInBounds_toArray, List.set_cons_zero, List.set_cons_succ]
  refine wpAnyH_take (i := 7) (oi := owk14_7) (v := ?_) rfl (by kernel_rfl) (by kernel_rfl) (by kernel_rfl) (fun _ _ _ h => h) (Or.inl ⟨by rfl, ?_⟩) (by assumption) ?_
  rotate_left
  · ((intro w hSw; delta owk14_7; (try dsimp only at hSw); go_simp) <;> with_reducible rfl)
  try simp only [owk14_7, Act.put, List.setIfInBounds_toArray, List.set_cons_zero, List.set_cons_succ]
  refine wpAnyH_done (by kernel_rfl) ?_ _
  refine NoPanic.normal ?_
  clear HSV HPX k0 HB0 HB1
  have Gb1 := Lib.hid (Hb1.out.below HB2.out Hb1.out.lt)
  have Gb3 := Lib.hid (Hb3.out.below HB2.out Hb3.out.lt)
  have Gb5 := Lib.hid (Hb5.out.below HB2.out Hb5.out.lt)
  have Gb7 := Lib.hid (Hb7.out.below HB2.out Hb7.out.lt)
  have GROW := Lib.hid (own_below HROW.out HB2.out (Nat.le_refl _))
  have GBP := Lib.hid (HBP.out.trans (HB2.out.mono HBP.out.size))
  clear Hb1 Hb3 Hb5 Hb7 HBP HROW
  have Hb1 := Gb1
  have Hb3 := Gb3
  have Hb5 := Gb5
  have Hb7 := Gb7
  have HBP := GBP
  have HROW := GROW
  clear Gb1 Gb3 Gb5 Gb7 GBP GROW
  clear HB2
  obtain ⟨y0, y1⟩ : W2.cell? ⟨b7, 0, none⟩ = some (.int .i64 10) ∧ W2.cell? ⟨b7, 1, none⟩ = some (.slice (some ⟨g, 0, none⟩) 2 2) := ⟨Hb7.out.cell 0, Hb7.out.cell 1⟩
  go_wp2_with fail
  refine (joinx _ g (prts_own (n := 2) rfl HROW.out)).mono ?_
  rintro e wj ⟨JA, jn, rfl, hb⟩
  have HBj := Lib.hid hb
  have HSJ := Lib.hid (HSP.out.later hb (Nat.le_refl _))
  clear hb y0 y1 HSP
  have Gb1 := Lib.hid (Hb1.out.below HBj.out Hb1.out.lt)
  have Gb3 := Lib.hid (Hb3.out.below HBj.out Hb3.out.lt)
  have Gb5 := Lib.hid (Hb5.out.below HBj.out Hb5.out.lt)
  have Gb7 := Lib.hid (Hb7.out.below HBj.out Hb7.out.lt)
  have GROW := Lib.hid (own_below HROW.out HBj.out (Nat.le_refl _))
  have GBP := Lib.hid (HBP.out.trans (HBj.out.mono HBP.out.size))
  clear Hb1 Hb3 Hb5 Hb7 HBP HROW
  have Hb1 := Gb1
  have Hb3 := Gb3
  have Hb5 := Gb5
  have Hb7 := Gb7
  have HBP := GBP
  have HROW := GROW
  clear Gb1 Gb3 Gb5 Gb7 GBP GROW
  clear HBj
  go_upto_region 16 with (fail)
  obtain ⟨V15, hV⟩ : ∃ V, wj.alloc (.cells #[.int .i64 20, .slice JA 4 jn] 35) = V := ⟨_, rfl⟩
  have hz : Below wj.heap.size wj V15 := by rw [← hV]; exact (Below.refl _ _).alloc (Nat.le_refl _) _
  have Hb9' : Blk V15 wj.heap.size 35 #[.int .i64 20, .slice JA 4 jn] := by rw [← hV]; exact Blk.new' _ _ _ rfl
  rw [hV]
  have HSP := Lib.hid (HSJ.out.later hz (Nat.le_refl _))
  have Hz := Lib.hid hz
  obtain ⟨b9, hbx⟩ : ∃ b, wj.heap.size = b := ⟨_, rfl⟩
  rw [hbx] at Hb9' ⊢
  have Gb1 := Lib.hid (Hb1.out.below Hz.out Hb1.out.lt)
  have Gb3 := Lib.hid (Hb3.out.below Hz.out Hb3.out.lt)
  have Gb5 := Lib.hid (Hb5.out.below Hz.out Hb5.out.lt)
  have Gb7 := Lib.hid (Hb7.out.below Hz.out Hb7.out.lt)
  have GROW := Lib.hid (own_below HROW.out Hz.out (Nat.le_refl _))
  have GBP := Lib.hid (HBP.out.trans (Hz.out.mono HBP.out.size))
  clear Hb1 Hb3 Hb5 Hb7 HBP HROW
  have Hb1 := Gb1
  have Hb3 := Gb3
  have Hb5 := Gb5
  have Hb7 := Gb7
  have HBP := GBP
  have HROW := GROW
  clear Gb1 Gb3 Gb5 Gb7 GBP GROW
  have Hb9 := Lib.hid Hb9'
  clear hV hz Hb9' hbx Hz HSJ
  have HSV : Hid (∀ U, Below V15.heap.size V15 U → U.cell? ⟨b1, 0, none⟩ = some (.int .i64 (-140)) ∧ U.cell? ⟨b1, 1, none⟩ = some (.int .i64 (160)) ∧ U.cell? ⟨b3, 0, none⟩ = some (.int .i64 (110)) ∧ U.cell? ⟨b3, 1, none⟩ = some (.int .i64 (135)) ∧ U.cell? ⟨b9, 0, none⟩ = some (.int .i64 20) ∧ U.cell? ⟨b9, 1, none⟩ = some (.slice JA 4 jn)) := fun U hU => by
    have kb1 := Hb1.out.below hU Hb1.out.lt
    have kb3 := Hb3.out.below hU Hb3.out.lt
    have kb9 := Hb9.out.below hU Hb9.out.lt
    exact ⟨kb1.cell 0, kb1.cell 1, kb3.cell 0, kb3.cell 1, kb9.cell 0, kb9.cell 1⟩
  have k0 := HSV.out _ (Below.drew (Below.refl V15.heap.size V15))
  refine wp_region_noPanic ?_
  refine wp_region_held_drew (S := (fun w' => w'.cell? ⟨b1, 0, none⟩ = some (.int .i64 (-140)) ∧ w'.cell? ⟨b1, 1, none⟩ = some (.int .i64 (160)) ∧ w'.cell? ⟨b3, 0, none⟩ = some (.int .i64 (110)) ∧ w'.cell? ⟨b3, 1, none⟩ = some (.int .i64 (135)) ∧ w'.cell? ⟨b9, 0, none⟩ = some (.int .i64 20) ∧ w'.cell? ⟨b9, 1, none⟩ = some (.slice JA 4 jn))) (by kernel_rfl) ?_ (fun hHeld => ?_)
  · (try dsimp only); (exact k0)
  refine wpAnyH_take (i := 0) (oi := owk16_0) (v := ?_) rfl (by kernel_rfl) (by kernel_rfl) (by kernel_rfl) (fun _ _ _ h => h) (Or.inl ⟨by rfl, ?_⟩) (by assumption) ?_
  rotate_left
  · ((intro w hSw; delta owk16_0; (try dsimp only at hSw); go_simp) <;> with_reducible rfl)
  try simp only [owk16_0, Act.put, List.setIfInBounds_toArray, List.set_cons_zero, List.set_cons_succ]
  refine wpAnyH_take (i := 1) (oi := owk16_1) (v := ?_) rfl (by kernel_rfl) (by kernel_rfl) (by kernel_rfl) (fun _ _ _ h => h) (Or.inl ⟨by rfl, ?_⟩) (by assumption) ?_
  rotate_left
  · ((intro w hSw; delta owk16_1; (try dsimp only at hSw); go_simp) <;> with_reducible rfl)
  try simp only [owk16_1, Act.put, List.setIfInBounds_toArray, List.set_cons_zero, List.set_cons_succ]
  refine wpAnyH_take (i := 2) (oi := owk16_2) (v := ?_) rfl (by kernel_rfl) (by kernel_rfl) (by kernel_rfl) (fun _ _ _ h => h) (Or.inl ⟨by rfl, ?_⟩) (by assumption) ?_
  rotate_left
  · ((intro w hSw; delta owk16_2; (try dsimp only at hSw); go_simp) <;> with_reducible rfl)
  try simp only [owk16_2, Act.put, List.setIfInBounds_toArray, List.set_cons_zero, List.set_cons_succ]
  refine wpAnyH_take (i := 3) (oi := owk16_3) (v := ?_) rfl (by kernel_rfl) (by kernel_rfl) (by kernel_rfl) (fun _ _ _ h => h) (Or.inl ⟨by rfl, ?_⟩) (by assumption) ?_
  rotate_left
  · ((intro w hSw; delta owk16_3; (try dsimp only at hSw); go_simp) <;> with_reducible rfl)
  try simp only [owk16_3, Act.put, List.setIfInBounds_toArray, List.set_cons_zero, List.set_cons_succ]
  refine wpAnyH_take (i := 4) (oi := owk16_4) (v := ?_) rfl (by kernel_rfl) (by kernel_rfl) (by kernel_rfl) (fun _ _ _ h => h) (Or.inl ⟨by rfl, ?_⟩) (by assumption) ?_
  rotate_left
  · ((intro w hSw; delta owk16_4; (try dsimp only at hSw); go_simp) <;> with_reducible rfl)
  try simp only [owk16_4, Act.put, List.setIfInBounds_toArray, List.set_cons_zero, List.set_cons_succ]
  refine wpAnyH_take (i := 5) (oi := owk16_5) (v := ?_) rfl (by kernel_rfl) (by kernel_rfl) (by kernel_rfl) (fun _ _ _ h => h) (Or.inl ⟨by rfl, ?_⟩) (by assumption) ?_
  rotate_left
  · ((intro w hSw; delta owk16_5; (try dsimp only at hSw); go_simp) <;> with_reducible rfl)
  try simp only [owk16_5, Act.put, List.setIfInBounds_toArray, List.set_cons_zero, List.set_cons_succ]
  refine wpAnyH_take (i := 6) (oi := owk16_6) (v := ?_) rfl (by kernel_rfl) (by kernel_rfl) (by kernel_rfl) (fun _ _ _ h => h) (Or.inl ⟨by rfl, ?_⟩) (by assumption) ?_
  rotate_left
  · ((intro w hSw; delta owk16_6; (try dsimp only at hSw); go_simp) <;> with_reducible rfl)
  try simp only [owk16_6, Act.put, List.setIfInBounds_toArray, List.set_cons_zero, List.set_cons_succ]
  refine wpAnyH_take (i := 7) (oi := owk16_7) (v := ?_) rfl (by kernel_rfl) (by kernel_rfl) (by kernel_rfl) (fun _ _ _ h => h) (Or.inl ⟨by rfl, ?_⟩) (by assumption) ?_
  rotate_left
  · ((intro w hSw; delta owk16_7; (try dsimp only at hSw); go_simp) <;> with_reducible rfl)
  try simp only [owk16_7, Act.put, List.setIfInBounds_toArray, List.set_cons_zero, List.set_cons_succ]
  refine wpAnyH_take (i := 8) (oi := owk16_8) (v := ?_) rfl (by kernel_rfl) (by kernel_rfl) (by kernel_rfl) (fun _ _ _ h => h) (Or.inl ⟨by rfl, ?_⟩) (by assumption) ?_
  rotate_left
  · ((intro w hSw; delta owk16_8; (try dsimp only at hSw); go_simp) <;> with_reducible rfl)
  try simp only [owk16_8, Act.put, List.setIfInBounds_toArray, List.set_cons_zero, List.set_cons_succ]
  refine wpAnyH_take (i := 9) (oi := owk16_9) (v := ?_) rfl (by kernel_rfl) (by kernel_rfl) (by kernel_rfl) (fun _ _ _ h => h) (Or.inl ⟨by rfl, ?_⟩) (by assumption) ?_
  rotate_left
  · ((intro w hSw; delta owk16_9; (try dsimp only at hSw); go_simp) <;> with_reducible rfl)
  try simp only [owk16_9, Act.put, List.setIfInBounds_toArray, List.set_cons_zero, List.set_cons_succ]
  refine wpAnyH_take (i := 10) (oi := owk16_10) (v := ?_) rfl (by kernel_rfl) (by kernel_rfl) (by kernel_rfl) (fun _ _ _ h => h) (Or.inl ⟨by rfl, ?_⟩) (by assumption) ?_
  rotate_left
  · ((intro w hSw; delta owk16_10; (try dsimp only at hSw); go_simp) <;> with_reducible rfl)
  try simp only [owk16_10, Act.put, List.setIfInBounds_toArray, List.set_cons_zero, List.set_cons_succ]
  refine wpAnyH_take (i := 11) (oi := owk16_11) (v := ?_) rfl (by kernel_rfl) (by kernel_rfl) (by kernel_rfl) (fun _ _ _ h => h) (Or.inl ⟨by rfl, ?_⟩) (by assumption) ?_
  rotate_left
  · ((intro w hSw; delta owk16_11; (try dsimp only at hSw); go_simp) <;> with_reducible rfl)
  try simp only [owk16_11, Act.put, List.setIfInBounds_toArray, List.set_cons_zero, List.set_cons_succ]
  refine wpAnyH_take (i := 12) (oi := owk16_12) (v := ?_) rfl (by kernel_rfl) (by kernel_rfl) (by kernel_rfl) (fun _ _ _ h => h) (Or.inl ⟨by rfl, ?_⟩) (by assumption) ?_
  rotate_left
  · ((intro w hSw; delta owk16_12; (try dsimp only at hSw); go_simp) <;> with_reducible rfl)
  try simp only [owk16_12, Act.put, List.setIfInBounds_toArray, List.set_cons_zero, List.set_cons_succ]
  refine wpAnyH_take (i := 13) (oi := owk16_13) (v := ?_) rfl (by kernel_rfl) (by kernel_rfl) (by kernel_rfl) (fun _ _ _ h => h) (Or.inl ⟨by rfl, ?_⟩) (by assumption) ?_
  rotate_left
  · ((intro w hSw; delta owk16_13; (try dsimp only at hSw); go_simp) <;> with_reducible rfl)
  try simp only [owk16_13, Act.put, List.setIfInBounds_toArray, List.set_cons_zero, List.set_cons_succ]
  refine wpAnyH_take (i := 14) (oi := owk16_14) (v := ?_) rfl (by kernel_rfl) (by kernel_rfl) (by kernel_rfl) (fun _ _ _ h => h) (Or.inl ⟨by rfl, ?_⟩) (by assumption) ?_
  rotate_left
  · ((intro w hSw; delta owk16_14; (try dsimp only at hSw); go_simp) <;> with_reducible rfl)
  try simp only [owk16_14, Act.put, List.setIfInBounds_toArray, List.set_cons_zero, List.set_cons_succ]
  refine wpAnyH_take (i := 15) (oi := owk16_15) (v := ?_) rfl (by kernel_rfl) (by kernel_rfl) (by kernel_rfl) (fun _ _ _ h => h) (Or.inl ⟨by rfl, ?_⟩) (by assumption) ?_
  rotate_left
  · ((intro w hSw; delta owk16_15; (try dsimp only at hSw); go_simp) <;> with_reducible rfl)
  try simp only [owk16_15, Act.put, List.setIfInBounds_toArray, List.set_cons_zero, List.set_cons_succ]
  obtain ⟨W0, hW0⟩ : ∃ V, V15.drew = V := ⟨_, rfl⟩; rw [hW0] at hHeld ⊢; have HB0 : Hid (Below V15.heap.size V15 W0) := (by rw [← hW0]; exact Below.drew (Below.refl _ _)); clear hW0
  refine wpAnyH_ready (rs := [16]) (by kernel_rfl) (by simp) ?_
  refine AllReadyH.cons (o := owk16_16) rfl (fun K hK => ?_) AllReadyH.nil
  delta owk16_16
  go_simp
  (refine (lspan_any _ _ _).mono ?_; rintro e W1 ⟨rfl, hb⟩; have HB1 := Lib.hid (HB0.out.trans (hb.mono HB0.out.size)); clear hb)
  refine hK.out _ _ ?_ (fun hHeld => ?_)
  · (try dsimp only); (exact HSV.out _ HB1.out)
  clear hK K
  try simp only [owk16_16, Act.put, List.setIfInBounds_toArray, List.set_cons_zero, List.set_cons_succ]
  refine wpAnyH_take (i := 17) (oi := owk16_17) (v := ?_) rfl (by kernel_rfl) (by kernel_rfl) (by kernel_rfl) (fun _ _ _ h => h) (Or.inl ⟨by rfl, ?_⟩) (by assumption) ?_
  rotate_left
  · ((intro w hSw; delta owk16_17; (try dsimp only at hSw); go_simp) <;> with_reducible rfl)
  try simp only [owk16_17, Act.put, List.setIfInBounds_toArray, List.set_cons_zero, List.set_cons_succ]
  refine wpAnyH_take (i := 18) (oi := owk16_18) (v := ?_) rfl (by kernel_rfl) (by kernel_rfl) (by kernel_rfl) (fun _ _ _ h => h) (Or.inl ⟨by rfl, ?_⟩) (by assumption) ?_
  rotate_left
  · ((intro w hSw; delta owk16_18; (try dsimp only at hSw); go_simp) <;> with_reducible rfl)
  try simp only [owk16_18, Act.put, List.setIfInBounds_toArray, List.set_cons_zero, List.set_cons_succ]
  refine wpAnyH_take (i := 19) (oi := owk16_19) (v := ?_) rfl (by kernel_rfl) (by kernel_rfl) (by kernel_rfl) (fun _ _ _ h => h) (Or.inl ⟨by rfl, ?_⟩) (by assumption) ?_
  rotate_left
  · ((intro w hSw; delta owk16_19; (try dsimp only at hSw); go_simp) <;> with_reducible rfl)
  try simp only [owk16_19, Act.put, List.setIfInBounds_toArray, List.set_cons_zero, List.set_cons_succ]
  refine wpAnyH_take (i := 20) (oi := owk16_20) (v := ?_) rfl (by kernel_rfl) (by kernel_rfl) (by kernel_rfl) (fun _ _ _ h => h) (Or.inl ⟨by rfl, ?_⟩) (by assumption) ?_
  rotate_left
  · ((intro w hSw; delta owk16_20; (try dsimp only at hSw); go_simp) <;> with_reducible rfl)
  try simp only [owk16_20, Act.put, List.setIfInBounds_toArray, List.set_cons_zero, List.set_cons_succ]
  refine wpAnyH_ready (rs := [21]) (by kernel_rfl) (by simp) ?_
  refine AllReadyH.cons (o := owk16_21) rfl (fun K hK => ?_) AllReadyH.nil
  delta owk16_21
  go_simp
  (refine (lspan_any _ _ _).mono ?_; rintro e W2 ⟨rfl, hb⟩; have HB2 := Lib.hid (HB1.out.trans (hb.mono HB1.out.size)); clear hb)
  refine hK.out _ _ ?_ (fun hHeld => ?_)
  · (try dsimp only); (exact HSV.out _ HB2.out)
  clear hK K
  try simp only [owk16_21, Act.put, List.setIfInBounds_toArray, List.set_cons_zero, List.set_cons_succ]
  refine wpAnyH_take (i := 22) (oi := owk16_22) (v := ?_) rfl (by kernel_rfl) (by kernel_rfl) (by kernel_rfl) (fun _ _ _ h => h) (Or.inl ⟨by rfl, ?_⟩) (by assumption) ?_
  rotate_left
  · ((intro w hSw; delta owk16_22; (try dsimp only at hSw); go_simp) <;> with_reducible rfl)
  try simp only [owk16_22, Act.put, List.setIfInBounds_toArray, List.set_cons_zero, List.set_cons_succ]
  refine wpAnyH_take (i := 23) (oi := owk16_23) (v := ?_) rfl (by kernel_rfl) (by kernel_rfl) (by kernel_rfl) (fun _ _ _ h => h) (Or.inl ⟨by rfl, ?_⟩) (by assumption) ?_
  rotate_left
  · ((intro w hSw; delta owk16_23; (try dsimp only at hSw); go_simp) <;> with_reducible rfl)
  try simp only [owk16_23, Act.put, List.setIfInBounds_toArray, List.set_cons_zero, List.set_cons_succ]
  refine wpAnyH_take (i := 24) (oi := owk16_24) (v := ?_) rfl (by kernel_rfl) (by kernel_rfl) (by kernel_rfl) (fun _ _ _ h => h) (Or.inl ⟨by rfl, ?_⟩) (by assumption) ?_
  rotate_left
  · ((intro w hSw; delta owk16_24; (try dsimp only at hSw); go_simp) <;> with_reducible rfl)
  try simp only [owk16_24, Act.put, List.setIfInBounds_toArray, List.set_cons_zero, List.set_cons_succ]
  refine wpAnyH_take (i := 25) (oi := owk16_25) (v := ?_) rfl (by kernel_rfl) (by kernel_rfl) (by kernel_rfl) (fun _ _ _ h => h) (Or.inl ⟨by rfl, ?_⟩) (by assumption) ?_
  rotate_left
  · ((intro w hSw; delta owk16_25; (try dsimp only at hSw); go_simp) <;> with_reducible rfl)
  try simp only [owk16_25, Act.put, List.setIfInBounds_toArray, List.set_cons_zero, List.set_cons_succ]
  refine wpAnyH_ready (rs := [26]) (by kernel_rfl) (by simp) ?_
  refine AllReadyH.cons (o := owk16_26) rfl (fun K hK => ?_) AllReadyH.nil
  delta owk16_26
  go_simp
  (refine (lspan_any _ _ _).mono ?_; rintro e W3 ⟨rfl, hb⟩; have HB3 := Lib.hid (HB2.out.trans (hb.mono HB2.out.size)); clear hb)
  refine hK.out _ _ ?_ (fun hHeld => ?_)
  · (try dsimp only); (exact HSV.out _ HB3.out)
  clear hK K
  try simp only [owk16_26, Act.put, List.setIfInBounds_toArray, List.set_cons_zero, List.set_cons_succ]
  refine wpAnyH_ready (rs := [27]) (by kernel_rfl) (by simp) ?_
  refine AllReadyH.cons (o := owk16_27) rfl (fun K hK => ?_) AllReadyH.nil
  delta owk16_27
  go_simp
  obtain ⟨W4, hV⟩ : ∃ V, W3.alloc (.cells #[.int .i64 (1200000), .int .i64 (2400000)] 23) = V := ⟨_, rfl⟩; have hbz : Below W3.heap.size W3 W4 := (by rw [← hV]; exact (Below.refl _ _).alloc (Nat.le_refl _) _); have HB4 := Lib.hid (HB3.out.trans (hbz.mono HB3.out.size)); have HNEW : Hid (SpansAt W4 W4.heap.size (.slice (some ⟨W3.heap.size, 0, none⟩) 1 1) [(1200000, 2400000)]) := (by rw [← hV]; exact Reads.of_own (base := 0) (e := 23) ⟨rfl, Or.inr ⟨W3.heap.size, 1, _, rfl, Nat.zero_le _, Blk.new' _ _ _ rfl, Nat.le_refl _, by unfold maxLen; omega, rfl, rfl⟩⟩); rw [hV]; clear hV hbz
  refine hK.out _ _ ?_ (fun hHeld => ?_)
  · (try dsimp only); (exact HSV.out _ HB4.out)
  clear hK K
  try simp only [owk16_27, Act.put, List.setIfInBounds_toArray, List.set_cons_zero, List.set_cons_succ]
  refine wpAnyH_ready (rs := [28]) (by kernel_rfl) (by simp) ?_
  refine AllReadyH.cons (o := owk16_28) rfl (fun K hK => ?_) AllReadyH.nil
  delta owk16_28
  go_simp
  (refine (spans_yes y _ [(1200000, 2400000)] [(1200000, 2400000)] rfl _ (HSP.out.later HB4.out (Nat.le_refl _)) HNEW.out).mono ?_; rintro e W5 ⟨rfl, hb⟩; have HB5 := Lib.hid (HB4.out.trans (hb.mono HB4.out.size)); clear hb)
  refine hK.out _ _ ?_ (fun hHeld => ?_)
  · (try dsimp only); (exact HSV.out _ HB5.out)
  clear hK K
  try simp only [owk16_28, Act.put, List.setIfInBounds_toArray, List.set_cons_zero, List.set_cons_succ]
  refine wpAnyH_take (i := 29) (oi := owk16_29) (v := ?_) rfl (by kernel_rfl) (by kernel_rfl) (by kernel_rfl) (fun _ _ _ h => h) (Or.inl ⟨by rfl, ?_⟩) (by assumption) ?_
  rotate_left
  · ((intro w hSw; delta owk16_29; (try dsimp only at hSw); go_simp) <;> with_reducible rfl)
  try simp only [owk16_29, Act.put, List.setIfInBounds_toArray, List.set_cons_zero, List.set_cons_succ]
  refine wpAnyH_take (i := 30) (oi := owk16_30) (v := ?_) rfl (by kernel_rfl) (by kernel_rfl) (by kernel_rfl) (fun _ _ _ h => h) (Or.inl ⟨by rfl, ?_⟩) (by assumption) ?_
  rotate_left
  · ((intro w hSw; delta owk16_30; (try dsimp only at hSw); go_simp) <;> with_reducible rfl)
  try simp only [owk16_30, Act.put, List.setIfInBounds_toArray, List.set_cons_zero, List.set_cons_succ]
  refine wpAnyH_take (i := 31) (oi := owk16_31) (v := ?_) rfl (by kernel_rfl) (by kernel_rfl) (by kernel_rfl) (fun _ _ _ h => h) (Or.inl ⟨by rfl, ?_⟩) (by assumption) ?_
  rotate_left
  · ((intro w hSw; delta owk16_31; (try dsimp only at hSw); go_simp) <;> with_reducible rfl)
  try simp only [owk16_31, Act.put, List.setIfInBounds_toArray, List.set_cons_zero, List.set_cons_succ]
  refine wpAnyH_take (i := 32) (oi := owk16_32) (v := ?_) rfl (by kernel_rfl) (by kernel_rfl) (by kernel_rfl) (fun _ _ _ h => h) (Or.inl ⟨by rfl, ?_⟩) (by assumption) ?_
  rotate_left
  · ((intro w hSw; delta owk16_32; (try dsimp only at hSw); go_simp) <;> with_reducible rfl)
  try simp only [owk16_32, Act.put, List.setIfInBounds_toArray, List.set_cons_zero, List.set_cons_succ]
  refine wpAnyH_take (i := 33) (oi := owk16_33) (v := ?_) rfl (by kernel_rfl) (by kernel_rfl) (by kernel_rfl) (fun _ _ _ h => h) (Or.inl ⟨by rfl, ?_⟩) (by assumption) ?_
  rotate_left
  · ((intro w hSw; delta owk16_33; (try dsimp only at hSw); go_simp) <;> with_reducible rfl)
  try simp only [owk16_33, Act.put, List.setIfInBounds_toArray, List.set_cons_zero, List.set_cons_succ]
  refine wpAnyH_take (i := 34) (oi := owk16_34) (v := ?_) rfl (by kernel_rfl) (by kernel_rfl) (by kernel_rfl) (fun _ _ _ h => h) (Or.inl ⟨by rfl, ?_⟩) (by assumption) ?_
  rotate_left
  · ((intro w hSw; delta owk16_34; (try dsimp only at hSw); go_simp) <;> with_reducible rfl)
  try simp only [owk16_34, Act.put, List.setIfInBounds_toArray, List.set_cons_zero, List.set_cons_succ]
  refine wpAnyH_take (i := 35) (oi := owk16_35) (v := ?_) rfl (by kernel_rfl) (by kernel_rfl) (by kernel_rfl) (fun _ _ _ h => h) (Or.inl ⟨by rfl, ?_⟩) (by assumption) ?_
  rotate_left
  · ((intro w hSw; delta owk16_35; (try dsimp only at hSw); go_simp) <;> with_reducible rfl)
  try simp only [owk16_35, Act.put, List.setIfInBounds_toArray, List.set_cons_zero, List.set_cons_succ]
  refine wpAnyH_take (i := 36) (oi := owk16_36) (v := ?_) rfl (by kernel_rfl) (by kernel_rfl) (by kernel_rfl) (fun _ _ _ h => h) (Or.inl ⟨by rfl, ?_⟩) (by assumption) ?_
  rotate_left
  · ((intro w hSw; delta owk16_36; (try dsimp only at hSw); go_simp) <;> with_reducible rfl)
  try simp only [owk16_36, Act.put, List.setIfInBounds_toArray, List.set_cons_zero, List.set_cons_succ]
  refine wpAnyH_take (i := 37) (oi := owk16_37) (v := ?_) rfl (by kernel_rfl) (by kernel_rfl) (by kernel_rfl) (fun _ _ _ h => h) (Or.inl ⟨by rfl, ?_⟩) (by assumption) ?_
  rotate_left
  · ((intro w hSw; delta owk16_37; (try dsimp only at hSw); go_simp) <;> with_reducible rfl)
  try simp only [owk16_37, Act.put, List.setIfInBounds_toArray, List.set_cons_zero, List.set_cons_succ]
  refine wpAnyH_take (i := 38) (oi := owk16_38) (v := ?_) rfl (by kernel_rfl) (by kernel_rfl) (by kernel_rfl) (fun _ _ _ h => h) (Or.inl ⟨by rfl, ?_⟩) (by assumption) ?_
  rotate_left
  · ((intro w hSw; delta owk16_38; (try dsimp only at hSw); go_simp) <;> with_reducible rfl)
  try simp only [owk16_38, Act.put, List.setIfInBounds_toArray, List.set_cons_zero, List.set_cons_succ]
  refine wpAnyH_take (i := 39) (oi := owk16_39) (v := ?_) rfl (by kernel_rfl) (by kernel_rfl) (by kernel_rfl) (fun _ _ _ h => h) (Or.inl ⟨by rfl, ?_⟩) (by assumption) ?_
  rotate_left
  · ((intro w hSw; delta owk16_39; (try dsimp only at hSw); go_simp) <;> with_reducible rfl)
  try simp only [owk16_39, Act.put, List.setIfInBounds_toArray, List.set_cons_zero, List.set_cons_succ]
  refine wpAnyH_take (i := 40) (oi := owk16_40) (v := ?_) rfl (by kernel_rfl) (by kernel_rfl) (by kernel_rfl) (fun _ _ _ h => h) (Or.inl ⟨by rfl, ?_⟩) (by assumption) ?_
  rotate_left
  · ((intro w hSw; delta owk16_40; (try dsimp only at hSw); go_simp) <;> with_reducible rfl)
  try simp only [owk16_40, Act.put, List.setIfInBounds_toArray, List.set_cons_zero, List.set_cons_succ]
  refine wpAnyH_take (i := 41) (oi := owk16_41) (v := ?_) rfl (by kernel_rfl) (by kernel_rfl) (by kernel_rfl) (fun _ _ _ h => h) (Or.inl ⟨by rfl, ?_⟩) (by assumption) ?_
  rotate_left
  · ((intro w hSw; delta owk16_41; (try dsimp only at hSw); go_simp) <;> with_reducible rfl)
  try simp only [owk16_41, Act.put, List.setIfInBounds_toArray, List.set_cons_zero, List.set_cons_succ]
  refine wpAnyH_done (by kernel_rfl) ?_ _
  refine NoPanic.normal ?_
  have HBE := Lib.hid (HBP.out.trans (HB5.out.mono HBP.out.size))
  go_wp2
  go_ret
  exact ⟨rfl, HBE.out⟩
end Go.Proofs.Ytfblpokjbopagaa
