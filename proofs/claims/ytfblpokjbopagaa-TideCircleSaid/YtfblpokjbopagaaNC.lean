/-
  TideCircle returns true.
-/
import Derived.Test.YtfblpokjbopagaaMK
import Derived.Test.YtfblpokjbopagaaMP
import Derived.Test.YtfblpokjbopagaaMR
import Derived.Test.YtfblpokjbopagaaMQ
set_option linter.unusedSimpArgs false
set_option linter.unusedVariables false
namespace Go.Proofs.Ytfblpokjbopagaa
open Go.RowKit

def otc9_0 : Oper := { dst := some 73, op := Op.move (Operand.tmp 8), type := 4, pos := "outright.go:51", after := #[], guard := none }
def otc9_1 : Oper := { dst := some 74, op := Op.unOp UnOp.not 4 (Operand.tmp 73), type := 4, pos := "outright.go:51", after := #[{ on := 0, ground := Ground.data }], guard := none }
def otc9_2 : Oper := { dst := some 75, op := Op.move (Operand.tmp 74), type := 4, pos := "outright.go:51", after := #[{ on := 1, ground := Ground.data }], guard := none }
def otc9_3 : Oper := { dst := some 76, op := Op.move (Operand.tmp 10), type := 4, pos := "outright.go:51", after := #[{ on := 2, ground := Ground.guard }], guard := some (2, false) }
def otc9_4 : Oper := { dst := some 77, op := Op.unOp UnOp.not 4 (Operand.tmp 76), type := 4, pos := "outright.go:51", after := #[{ on := 3, ground := Ground.data }, { on := 2, ground := Ground.guard }], guard := some (2, false) }
def otc9_5 : Oper := { dst := some 78, op := Op.pick (Operand.tmp 75) (Operand.const (Value.bool true)) (Operand.tmp 77), type := 4, pos := "outright.go:51", after := #[{ on := 2, ground := Ground.data }, { on := 4, ground := Ground.data }], guard := none }
def otc9_6 : Oper := { dst := some 79, op := Op.move (Operand.tmp 78), type := 4, pos := "outright.go:51", after := #[{ on := 5, ground := Ground.data }, { on := 2, ground := Ground.chain }], guard := none }
def otc9_7 : Oper := { dst := some 80, op := Op.move (Operand.tmp 12), type := 4, pos := "outright.go:51", after := #[{ on := 6, ground := Ground.guard }], guard := some (6, false) }
def otc9_8 : Oper := { dst := some 81, op := Op.unOp UnOp.not 4 (Operand.tmp 80), type := 4, pos := "outright.go:51", after := #[{ on := 7, ground := Ground.data }, { on := 6, ground := Ground.guard }], guard := some (6, false) }
def otc9_9 : Oper := { dst := some 82, op := Op.pick (Operand.tmp 79) (Operand.const (Value.bool true)) (Operand.tmp 81), type := 4, pos := "outright.go:51", after := #[{ on := 6, ground := Ground.data }, { on := 8, ground := Ground.data }], guard := none }
def otc9_10 : Oper := { dst := some 83, op := Op.move (Operand.tmp 82), type := 4, pos := "outright.go:51", after := #[{ on := 9, ground := Ground.data }, { on := 6, ground := Ground.chain }], guard := none }
def otc9_11 : Oper := { dst := some 84, op := Op.move (Operand.tmp 14), type := 4, pos := "outright.go:51", after := #[{ on := 10, ground := Ground.guard }], guard := some (10, false) }
def otc9_12 : Oper := { dst := some 85, op := Op.unOp UnOp.not 4 (Operand.tmp 84), type := 4, pos := "outright.go:51", after := #[{ on := 11, ground := Ground.data }, { on := 10, ground := Ground.guard }], guard := some (10, false) }
def otc9_13 : Oper := { dst := some 86, op := Op.pick (Operand.tmp 83) (Operand.const (Value.bool true)) (Operand.tmp 85), type := 4, pos := "outright.go:51", after := #[{ on := 10, ground := Ground.data }, { on := 12, ground := Ground.data }], guard := none }
def otc9_14 : Oper := { dst := some 87, op := Op.move (Operand.tmp 86), type := 4, pos := "outright.go:51", after := #[{ on := 13, ground := Ground.data }, { on := 10, ground := Ground.chain }], guard := none }
def otc9_15 : Oper := { dst := some 88, op := Op.move (Operand.tmp 16), type := 4, pos := "outright.go:51", after := #[{ on := 14, ground := Ground.guard }], guard := some (14, false) }
def otc9_16 : Oper := { dst := some 89, op := Op.unOp UnOp.not 4 (Operand.tmp 88), type := 4, pos := "outright.go:51", after := #[{ on := 15, ground := Ground.data }, { on := 14, ground := Ground.guard }], guard := some (14, false) }
def otc9_17 : Oper := { dst := some 90, op := Op.pick (Operand.tmp 87) (Operand.const (Value.bool true)) (Operand.tmp 89), type := 4, pos := "outright.go:51", after := #[{ on := 14, ground := Ground.data }, { on := 16, ground := Ground.data }], guard := none }
def otc9_18 : Oper := { dst := some 91, op := Op.move (Operand.tmp 90), type := 4, pos := "outright.go:51", after := #[{ on := 17, ground := Ground.data }, { on := 14, ground := Ground.chain }], guard := none }
def otc9_19 : Oper := { dst := some 92, op := Op.move (Operand.tmp 18), type := 4, pos := "outright.go:51", after := #[{ on := 18, ground := Ground.guard }], guard := some (18, false) }
def otc9_20 : Oper := { dst := some 93, op := Op.unOp UnOp.not 4 (Operand.tmp 92), type := 4, pos := "outright.go:51", after := #[{ on := 19, ground := Ground.data }, { on := 18, ground := Ground.guard }], guard := some (18, false) }
def otc9_21 : Oper := { dst := some 94, op := Op.pick (Operand.tmp 91) (Operand.const (Value.bool true)) (Operand.tmp 93), type := 4, pos := "outright.go:51", after := #[{ on := 18, ground := Ground.data }, { on := 20, ground := Ground.data }], guard := none }
def otc9_22 : Oper := { dst := some 95, op := Op.move (Operand.tmp 94), type := 4, pos := "outright.go:51", after := #[{ on := 21, ground := Ground.data }, { on := 18, ground := Ground.chain }], guard := none }
def otc9_23 : Oper := { dst := some 96, op := Op.move (Operand.tmp 20), type := 4, pos := "outright.go:51", after := #[{ on := 22, ground := Ground.guard }], guard := some (22, false) }
def otc9_24 : Oper := { dst := some 97, op := Op.unOp UnOp.not 4 (Operand.tmp 96), type := 4, pos := "outright.go:51", after := #[{ on := 23, ground := Ground.data }, { on := 22, ground := Ground.guard }], guard := some (22, false) }
def otc9_25 : Oper := { dst := some 98, op := Op.pick (Operand.tmp 95) (Operand.const (Value.bool true)) (Operand.tmp 97), type := 4, pos := "outright.go:51", after := #[{ on := 22, ground := Ground.data }, { on := 24, ground := Ground.data }], guard := none }
def otc9_26 : Oper := { dst := some 99, op := Op.move (Operand.tmp 98), type := 4, pos := "outright.go:51", after := #[{ on := 25, ground := Ground.data }, { on := 22, ground := Ground.chain }], guard := none }
def otc9_27 : Oper := { dst := some 100, op := Op.load 23 (Operand.tmp 15), type := 23, pos := "outright.go:51", after := #[{ on := 26, ground := Ground.guard }], guard := some (26, false) }
def otc9_28 : Oper := { dst := some 101, op := Op.load 23 (Operand.tmp 7), type := 23, pos := "outright.go:51", after := #[{ on := 26, ground := Ground.guard }], guard := some (26, false) }
def otc9_29 : Oper := { dst := some 102, op := Op.binOp BinOp.neq 23 (Operand.tmp 100) (Operand.tmp 101) 23, type := 4, pos := "outright.go:51", after := #[{ on := 27, ground := Ground.data }, { on := 28, ground := Ground.data }, { on := 26, ground := Ground.guard }], guard := some (26, false) }
def otc9_30 : Oper := { dst := some 103, op := Op.pick (Operand.tmp 99) (Operand.const (Value.bool true)) (Operand.tmp 102), type := 4, pos := "outright.go:51", after := #[{ on := 26, ground := Ground.data }, { on := 29, ground := Ground.data }], guard := none }
def otc9_31 : Oper := { dst := some 104, op := Op.move (Operand.tmp 103), type := 4, pos := "outright.go:51", after := #[{ on := 30, ground := Ground.data }, { on := 26, ground := Ground.chain }], guard := none }
def otc9_32 : Oper := { dst := some 105, op := Op.load 23 (Operand.tmp 17), type := 23, pos := "outright.go:51", after := #[{ on := 31, ground := Ground.guard }], guard := some (31, false) }
def otc9_33 : Oper := { dst := some 106, op := Op.load 23 (Operand.tmp 7), type := 23, pos := "outright.go:51", after := #[{ on := 31, ground := Ground.guard }], guard := some (31, false) }
def otc9_34 : Oper := { dst := some 107, op := Op.binOp BinOp.neq 23 (Operand.tmp 105) (Operand.tmp 106) 23, type := 4, pos := "outright.go:51", after := #[{ on := 32, ground := Ground.data }, { on := 33, ground := Ground.data }, { on := 31, ground := Ground.guard }], guard := some (31, false) }
def otc9_35 : Oper := { dst := some 108, op := Op.pick (Operand.tmp 104) (Operand.const (Value.bool true)) (Operand.tmp 107), type := 4, pos := "outright.go:51", after := #[{ on := 31, ground := Ground.data }, { on := 34, ground := Ground.data }], guard := none }
def otc9_36 : Oper := { dst := some 109, op := Op.move (Operand.tmp 108), type := 4, pos := "outright.go:51", after := #[{ on := 35, ground := Ground.data }, { on := 31, ground := Ground.chain }], guard := none }
def otc9_37 : Oper := { dst := some 110, op := Op.load 23 (Operand.tmp 19), type := 23, pos := "outright.go:51", after := #[{ on := 36, ground := Ground.guard }], guard := some (36, false) }
def otc9_38 : Oper := { dst := some 111, op := Op.fieldAddr 23 (Operand.tmp 7) 1, type := 0, pos := "outright.go:51", after := #[{ on := 36, ground := Ground.guard }], guard := some (36, false) }
def otc9_39 : Oper := { dst := some 112, op := Op.load 3 (Operand.tmp 111), type := 3, pos := "outright.go:51", after := #[{ on := 38, ground := Ground.data }, { on := 36, ground := Ground.guard }], guard := some (36, false) }
def otc9_40 : Oper := { dst := some 113, op := Op.unOp UnOp.neg 3 (Operand.tmp 112), type := 3, pos := "outright.go:51", after := #[{ on := 39, ground := Ground.data }, { on := 36, ground := Ground.guard }], guard := some (36, false) }
def otc9_41 : Oper := { dst := some 114, op := Op.fieldAddr 23 (Operand.tmp 7) 0, type := 0, pos := "outright.go:51", after := #[{ on := 36, ground := Ground.guard }], guard := some (36, false) }
def otc9_42 : Oper := { dst := some 115, op := Op.load 3 (Operand.tmp 114), type := 3, pos := "outright.go:51", after := #[{ on := 41, ground := Ground.data }, { on := 36, ground := Ground.guard }], guard := some (36, false) }
def otc9_43 : Oper := { dst := some 116, op := Op.unOp UnOp.neg 3 (Operand.tmp 115), type := 3, pos := "outright.go:51", after := #[{ on := 42, ground := Ground.data }, { on := 36, ground := Ground.guard }], guard := some (36, false) }
def otc9_44 : Oper := { dst := some 117, op := Op.call { callee := Callee.value (Operand.func 30), args := #[Operand.tmp 113, Operand.tmp 116], argTypes := #[3, 3] }, type := 23, pos := "outright.go:51", after := #[{ on := 40, ground := Ground.data }, { on := 43, ground := Ground.data }, { on := 36, ground := Ground.chain }, { on := 36, ground := Ground.guard }], guard := some (36, false) }
def otc9_45 : Oper := { dst := some 118, op := Op.binOp BinOp.neq 23 (Operand.tmp 110) (Operand.tmp 117) 23, type := 4, pos := "outright.go:51", after := #[{ on := 37, ground := Ground.data }, { on := 44, ground := Ground.data }, { on := 36, ground := Ground.guard }], guard := some (36, false) }
def otc9_46 : Oper := { dst := some 119, op := Op.pick (Operand.tmp 109) (Operand.const (Value.bool true)) (Operand.tmp 118), type := 4, pos := "outright.go:51", after := #[{ on := 36, ground := Ground.data }, { on := 45, ground := Ground.data }], guard := none }
def otc11_0 : Oper := { dst := some 120, op := Op.load 23 (Operand.tmp 7), type := 23, pos := "outright.go:54", after := #[], guard := none }
def otc11_1 : Oper := { dst := some 121, op := Op.call { callee := Callee.value (Operand.func 31), args := #[Operand.tmp 120], argTypes := #[23] }, type := 23, pos := "outright.go:54", after := #[{ on := 0, ground := Ground.data }], guard := none }
def otc11_2 : Oper := { dst := some 122, op := Op.load 23 (Operand.tmp 9), type := 23, pos := "outright.go:54", after := #[], guard := none }
def otc11_3 : Oper := { dst := some 123, op := Op.call { callee := Callee.value (Operand.func 31), args := #[Operand.tmp 122], argTypes := #[23] }, type := 23, pos := "outright.go:54", after := #[{ on := 2, ground := Ground.data }, { on := 1, ground := Ground.chain }], guard := none }
def otc11_4 : Oper := { dst := some 21, op := Op.alloc 23, type := 0, pos := "outright.go:54", after := #[], guard := none }
def otc11_5 : Oper := { dst := some 22, op := Op.alloc 23, type := 0, pos := "outright.go:54", after := #[], guard := none }
def otc11_6 : Oper := { dst := none, op := Op.store 23 (Operand.tmp 21) (Operand.tmp 121), type := 0, pos := "outright.go:54", after := #[{ on := 4, ground := Ground.data }, { on := 1, ground := Ground.data }, { on := 3, ground := Ground.chain }, { on := 0, ground := Ground.phase }, { on := 1, ground := Ground.phase }, { on := 2, ground := Ground.textOnly Departure.lateStores }, { on := 3, ground := Ground.textOnly Departure.lateStoresUnsure }, { on := 4, ground := Ground.phase }, { on := 5, ground := Ground.phase }], guard := none }
def otc11_7 : Oper := { dst := none, op := Op.store 23 (Operand.tmp 22) (Operand.tmp 123), type := 0, pos := "outright.go:54", after := #[{ on := 5, ground := Ground.data }, { on := 3, ground := Ground.data }, { on := 6, ground := Ground.chain }, { on := 0, ground := Ground.phase }, { on := 1, ground := Ground.phase }, { on := 2, ground := Ground.phase }, { on := 3, ground := Ground.phase }, { on := 4, ground := Ground.phase }, { on := 5, ground := Ground.phase }, { on := 6, ground := Ground.phase }], guard := none }
def otc15_0 : Oper := { dst := some 145, op := Op.load 23 (Operand.tmp 7), type := 23, pos := "outright.go:59", after := #[], guard := none }
def otc15_1 : Oper := { dst := some 146, op := Op.load 23 (Operand.tmp 11), type := 23, pos := "outright.go:59", after := #[], guard := none }
def otc15_2 : Oper := { dst := some 147, op := Op.call { callee := Callee.value (Operand.func 32), args := #[Operand.tmp 145, Operand.tmp 146], argTypes := #[23, 23] }, type := 23, pos := "outright.go:59", after := #[{ on := 0, ground := Ground.data }, { on := 1, ground := Ground.data }], guard := none }
def otc15_3 : Oper := { dst := some 148, op := Op.load 23 (Operand.tmp 9), type := 23, pos := "outright.go:59", after := #[], guard := none }
def otc15_4 : Oper := { dst := some 149, op := Op.load 23 (Operand.tmp 13), type := 23, pos := "outright.go:59", after := #[], guard := none }
def otc15_5 : Oper := { dst := some 150, op := Op.call { callee := Callee.value (Operand.func 32), args := #[Operand.tmp 148, Operand.tmp 149], argTypes := #[23, 23] }, type := 23, pos := "outright.go:59", after := #[{ on := 3, ground := Ground.data }, { on := 4, ground := Ground.data }, { on := 2, ground := Ground.chain }], guard := none }
def otc15_6 : Oper := { dst := some 25, op := Op.alloc 23, type := 0, pos := "outright.go:59", after := #[], guard := none }
def otc15_7 : Oper := { dst := some 26, op := Op.alloc 23, type := 0, pos := "outright.go:59", after := #[], guard := none }
def otc15_8 : Oper := { dst := none, op := Op.store 23 (Operand.tmp 25) (Operand.tmp 147), type := 0, pos := "outright.go:59", after := #[{ on := 6, ground := Ground.data }, { on := 2, ground := Ground.data }, { on := 5, ground := Ground.chain }, { on := 0, ground := Ground.phase }, { on := 1, ground := Ground.phase }, { on := 2, ground := Ground.phase }, { on := 3, ground := Ground.textOnly Departure.lateStores }, { on := 4, ground := Ground.textOnly Departure.lateStores }, { on := 5, ground := Ground.textOnly Departure.lateStoresUnsure }, { on := 6, ground := Ground.phase }, { on := 7, ground := Ground.phase }], guard := none }
def otc15_9 : Oper := { dst := none, op := Op.store 23 (Operand.tmp 26) (Operand.tmp 150), type := 0, pos := "outright.go:59", after := #[{ on := 7, ground := Ground.data }, { on := 5, ground := Ground.data }, { on := 8, ground := Ground.chain }, { on := 0, ground := Ground.phase }, { on := 1, ground := Ground.phase }, { on := 2, ground := Ground.phase }, { on := 3, ground := Ground.phase }, { on := 4, ground := Ground.phase }, { on := 5, ground := Ground.phase }, { on := 6, ground := Ground.phase }, { on := 7, ground := Ground.phase }, { on := 8, ground := Ground.phase }], guard := none }
def otc16_0 : Oper := { dst := some 151, op := Op.move (Operand.tmp 24), type := 4, pos := "outright.go:60", after := #[], guard := none }
def otc16_1 : Oper := { dst := some 152, op := Op.move (Operand.tmp 151), type := 4, pos := "outright.go:60", after := #[{ on := 0, ground := Ground.data }], guard := none }
def otc16_2 : Oper := { dst := some 153, op := Op.fieldAddr 23 (Operand.tmp 23) 0, type := 0, pos := "outright.go:60", after := #[{ on := 1, ground := Ground.guard }], guard := some (1, true) }
def otc16_3 : Oper := { dst := some 154, op := Op.load 3 (Operand.tmp 153), type := 3, pos := "outright.go:60", after := #[{ on := 2, ground := Ground.data }, { on := 1, ground := Ground.guard }], guard := some (1, true) }
def otc16_4 : Oper := { dst := some 155, op := Op.binOp BinOp.mul 3 (Operand.tmp 154) (Operand.const (Value.int IntKind.i64 65536)) 3, type := 3, pos := "outright.go:60", after := #[{ on := 3, ground := Ground.data }, { on := 1, ground := Ground.guard }], guard := some (1, true) }
def otc16_5 : Oper := { dst := some 156, op := Op.fieldAddr 23 (Operand.tmp 23) 1, type := 0, pos := "outright.go:60", after := #[{ on := 1, ground := Ground.guard }], guard := some (1, true) }
def otc16_6 : Oper := { dst := some 157, op := Op.load 3 (Operand.tmp 156), type := 3, pos := "outright.go:60", after := #[{ on := 5, ground := Ground.data }, { on := 1, ground := Ground.guard }], guard := some (1, true) }
def otc16_7 : Oper := { dst := some 158, op := Op.binOp BinOp.mul 3 (Operand.tmp 157) (Operand.const (Value.int IntKind.i64 65536)) 3, type := 3, pos := "outright.go:60", after := #[{ on := 6, ground := Ground.data }, { on := 1, ground := Ground.guard }], guard := some (1, true) }
def otc16_8 : Oper := { dst := some 159, op := Op.call { callee := Callee.value (Operand.func 30), args := #[Operand.tmp 155, Operand.tmp 158], argTypes := #[3, 3] }, type := 23, pos := "outright.go:60", after := #[{ on := 4, ground := Ground.data }, { on := 7, ground := Ground.data }, { on := 1, ground := Ground.chain }, { on := 1, ground := Ground.guard }], guard := some (1, true) }
def otc16_9 : Oper := { dst := some 160, op := Op.fieldAddr 23 (Operand.tmp 25) 0, type := 0, pos := "outright.go:60", after := #[{ on := 1, ground := Ground.guard }], guard := some (1, true) }
def otc16_10 : Oper := { dst := some 161, op := Op.load 3 (Operand.tmp 160), type := 3, pos := "outright.go:60", after := #[{ on := 9, ground := Ground.data }, { on := 1, ground := Ground.guard }], guard := some (1, true) }
def otc16_11 : Oper := { dst := some 162, op := Op.fieldAddr 23 (Operand.tmp 26) 1, type := 0, pos := "outright.go:60", after := #[{ on := 1, ground := Ground.guard }], guard := some (1, true) }
def otc16_12 : Oper := { dst := some 163, op := Op.load 3 (Operand.tmp 162), type := 3, pos := "outright.go:60", after := #[{ on := 11, ground := Ground.data }, { on := 1, ground := Ground.guard }], guard := some (1, true) }
def otc16_13 : Oper := { dst := some 164, op := Op.binOp BinOp.sub 3 (Operand.tmp 161) (Operand.tmp 163) 3, type := 3, pos := "outright.go:60", after := #[{ on := 10, ground := Ground.data }, { on := 12, ground := Ground.data }, { on := 1, ground := Ground.guard }], guard := some (1, true) }
def otc16_14 : Oper := { dst := some 165, op := Op.fieldAddr 23 (Operand.tmp 25) 1, type := 0, pos := "outright.go:60", after := #[{ on := 1, ground := Ground.guard }], guard := some (1, true) }
def otc16_15 : Oper := { dst := some 166, op := Op.load 3 (Operand.tmp 165), type := 3, pos := "outright.go:60", after := #[{ on := 14, ground := Ground.data }, { on := 1, ground := Ground.guard }], guard := some (1, true) }
def otc16_16 : Oper := { dst := some 167, op := Op.fieldAddr 23 (Operand.tmp 26) 0, type := 0, pos := "outright.go:60", after := #[{ on := 1, ground := Ground.guard }], guard := some (1, true) }
def otc16_17 : Oper := { dst := some 168, op := Op.load 3 (Operand.tmp 167), type := 3, pos := "outright.go:60", after := #[{ on := 16, ground := Ground.data }, { on := 1, ground := Ground.guard }], guard := some (1, true) }
def otc16_18 : Oper := { dst := some 169, op := Op.binOp BinOp.sub 3 (Operand.tmp 166) (Operand.tmp 168) 3, type := 3, pos := "outright.go:60", after := #[{ on := 15, ground := Ground.data }, { on := 17, ground := Ground.data }, { on := 1, ground := Ground.guard }], guard := some (1, true) }
def otc16_19 : Oper := { dst := some 170, op := Op.call { callee := Callee.value (Operand.func 30), args := #[Operand.tmp 164, Operand.tmp 169], argTypes := #[3, 3] }, type := 23, pos := "outright.go:60", after := #[{ on := 13, ground := Ground.data }, { on := 18, ground := Ground.data }, { on := 8, ground := Ground.chain }, { on := 1, ground := Ground.guard }], guard := some (1, true) }
def otc16_20 : Oper := { dst := some 171, op := Op.call { callee := Callee.value (Operand.func 33), args := #[Operand.tmp 159, Operand.tmp 170], argTypes := #[23, 23] }, type := 4, pos := "outright.go:60", after := #[{ on := 8, ground := Ground.data }, { on := 19, ground := Ground.data }, { on := 19, ground := Ground.chain }, { on := 1, ground := Ground.guard }], guard := some (1, true) }
def otc16_21 : Oper := { dst := some 172, op := Op.pick (Operand.tmp 152) (Operand.tmp 171) (Operand.const (Value.bool false)), type := 4, pos := "outright.go:60", after := #[{ on := 1, ground := Ground.data }, { on := 20, ground := Ground.data }], guard := none }
def otc16_22 : Oper := { dst := some 173, op := Op.move (Operand.tmp 172), type := 4, pos := "outright.go:60", after := #[{ on := 21, ground := Ground.data }, { on := 20, ground := Ground.chain }], guard := none }
def otc16_23 : Oper := { dst := some 174, op := Op.call { callee := Callee.value (Operand.func 13), args := #[], argTypes := #[] }, type := 4, pos := "outright.go:60", after := #[{ on := 22, ground := Ground.chain }, { on := 22, ground := Ground.guard }], guard := some (22, true) }
def otc16_24 : Oper := { dst := some 175, op := Op.pick (Operand.tmp 173) (Operand.tmp 174) (Operand.const (Value.bool false)), type := 4, pos := "outright.go:60", after := #[{ on := 22, ground := Ground.data }, { on := 23, ground := Ground.data }], guard := none }
def otc16_25 : Oper := { dst := some 4, op := Op.assign (Operand.tmp 175), type := 4, pos := "outright.go:60", after := #[{ on := 24, ground := Ground.data }, { on := 23, ground := Ground.chain }, { on := 0, ground := Ground.phase }, { on := 1, ground := Ground.phase }, { on := 2, ground := Ground.phase }, { on := 3, ground := Ground.phase }, { on := 4, ground := Ground.phase }, { on := 5, ground := Ground.phase }, { on := 6, ground := Ground.phase }, { on := 7, ground := Ground.phase }, { on := 8, ground := Ground.phase }, { on := 9, ground := Ground.phase }, { on := 10, ground := Ground.phase }, { on := 11, ground := Ground.phase }, { on := 12, ground := Ground.phase }, { on := 13, ground := Ground.phase }, { on := 14, ground := Ground.phase }, { on := 15, ground := Ground.phase }, { on := 16, ground := Ground.phase }, { on := 17, ground := Ground.phase }, { on := 18, ground := Ground.phase }, { on := 19, ground := Ground.phase }, { on := 20, ground := Ground.phase }, { on := 21, ground := Ground.phase }, { on := 22, ground := Ground.phase }, { on := 23, ground := Ground.phase }, { on := 24, ground := Ground.phase }], guard := none }

set_option maxRecDepth 100000 in
set_option maxHeartbeats 8000000 in
theorem TideCircle_any (a b : Int) (w : World) (ha : -2147483648 ≤ a ∧ a ≤ 2147483647) (hb : -2147483648 ≤ b ∧ b ≤ 2147483647) :
    Calls Try.prog 6 #[.int .i32 a, .int .i32 b] w fun e w' => e = .returned (.bool true) ∧ Below w.heap.size w w' := by
  have rx := Int.tmod_lt_of_pos a (show (0 : Int) < 1073741824 by omega)
  have rx2 := Int.lt_tmod_of_pos a (show (0 : Int) < 1073741824 by omega)
  have ry := Int.tmod_lt_of_pos b (show (0 : Int) < 1073741824 by omega)
  have ry2 := Int.lt_tmod_of_pos b (show (0 : Int) < 1073741824 by omega)
  obtain ⟨x, hx⟩ : ∃ x, a.tmod 1073741824 = x := ⟨_, rfl⟩
  obtain ⟨y, hy⟩ : ∃ y, b.tmod 1073741824 = y := ⟨_, rfl⟩
  rw [hx] at rx rx2
  rw [hy] at ry ry2
  have HAB := Lib.hid (add_bounds x y)
  have HSQ := Lib.hid (sq_sum x)
  have HSR := Lib.hid (And.intro (sq_rng x) (sq_rng (x - 900)))
  have PX := point_rng x
  have PS := point_rng (x - 900)
  have PY := point_rng y
  have PT := point_rng (y - 900)
  have HPR := Lib.hid (And.intro (prod_rng ⟨PX.1, PX.2.1, PX.2.2.1⟩ ⟨PY.1, PY.2.1, PY.2.2.1⟩) (prod_rng ⟨PS.1, PS.2.1, PS.2.2.1⟩ ⟨PT.1, PT.2.1, PT.2.2.1⟩))
  have HPZ := Lib.hid (point_rng (x + y))
  have eo := point_neg x
  have ew := point_turn x
  have eh := point_opp x
  obtain ⟨⟨c1, c2⟩, hc⟩ : ∃ c, pointZ x = c := ⟨_, rfl⟩
  obtain ⟨⟨s1, s2⟩, hs⟩ : ∃ c, pointZ (x - 900) = c := ⟨_, rfl⟩
  obtain ⟨⟨d1, d2⟩, hd⟩ : ∃ c, pointZ y = c := ⟨_, rfl⟩
  obtain ⟨⟨t1, t2⟩, ht⟩ : ∃ c, pointZ (y - 900) = c := ⟨_, rfl⟩
  obtain ⟨⟨z1, z2⟩, hz⟩ : ∃ c, pointZ (x + y) = c := ⟨_, rfl⟩
  rw [hc] at eo ew eh PX
  rw [hs] at PS
  rw [hd] at PY
  rw [ht] at PT
  have HC : Hid ((pointZ x).1 = c1 ∧ (pointZ x).2 = c2) := by rw [Hid, hc]; exact ⟨rfl, rfl⟩
  have HS1 : Hid ((pointZ (x - 900)).1 = s1 ∧ (pointZ (x - 900)).2 = s2) := by rw [Hid, hs]; exact ⟨rfl, rfl⟩
  have HD : Hid ((pointZ y).1 = d1 ∧ (pointZ y).2 = d2) := by rw [Hid, hd]; exact ⟨rfl, rfl⟩
  have HT : Hid ((pointZ (y - 900)).1 = t1 ∧ (pointZ (y - 900)).2 = t2) := by rw [Hid, ht]; exact ⟨rfl, rfl⟩
  have HZ : Hid ((pointZ (x + y)).1 = z1 ∧ (pointZ (x + y)).2 = z2) := by rw [Hid, hz]; exact ⟨rfl, rfl⟩
  have HO : Hid ((pointZ (-x)).1 = c1 ∧ (pointZ (-x)).2 = c2) := by rw [Hid, eo]; exact ⟨rfl, rfl⟩
  have HW : Hid ((pointZ (x + 3600)).1 = c1 ∧ (pointZ (x + 3600)).2 = c2) := by rw [Hid, ew]; exact ⟨rfl, rfl⟩
  have HH : Hid ((pointZ (x + 1800)).1 = -c2 ∧ (pointZ (x + 1800)).2 = -c1) := by rw [Hid, eh]; exact ⟨rfl, rfl⟩
  have HFX : Hid (pointZ x = (c1, c2) ∧ pointZ (x - 900) = (s1, s2) ∧ pointZ y = (d1, d2) ∧ pointZ (y - 900) = (t1, t2) ∧ pointZ (x + y) = (z1, z2)) := ⟨hc, hs, hd, ht, hz⟩
  clear eo ew eh hc hs hd ht hz
  simp only at PX PS PY PT
  go_enter Try.func6, Try.ntmps6
  go_wp2_with fail
  refine (lcos_any x _ ⟨by omega, by omega⟩).mono ?_
  rintro e wz ⟨rfl, hb⟩
  rw [HC.out.1, HC.out.2]
  go_upto_region 3 with (fail)
  obtain ⟨V7, hV⟩ : ∃ V, wz.alloc (.cells #[.int .i64 c1, .int .i64 c2] 23) = V := ⟨_, rfl⟩
  have hz : Below wz.heap.size wz V7 := by rw [← hV]; exact (Below.refl _ _).alloc (Nat.le_refl _) _
  have hk : Blk V7 wz.heap.size 23 #[.int .i64 c1, .int .i64 c2] := by rw [← hV]; exact Blk.new' _ _ _ rfl
  have hs : Below w.heap.size w V7 := hb.trans (hz.mono hb.size)
  rw [hV]
  obtain ⟨b7, hbb⟩ : ∃ b, wz.heap.size = b := ⟨_, rfl⟩
  rw [hbb] at hk ⊢
  have HB7 : Hid (∀ W, Below V7.heap.size V7 W → Blk W b7 23 #[.int .i64 c1, .int .i64 c2]) := fun W hW => hk.below hW hk.lt
  have HA7 := Lib.hid hs
  clear hb hV hz hk hs hbb
  go_wp2_with fail
  refine (lcos_any (x - 900) _ ⟨by omega, by omega⟩).mono ?_
  rintro e wz ⟨rfl, hb⟩
  rw [HS1.out.1, HS1.out.2]
  go_upto_region 4 with (fail)
  obtain ⟨V9, hV⟩ : ∃ V, wz.alloc (.cells #[.int .i64 s1, .int .i64 s2] 23) = V := ⟨_, rfl⟩
  have hz : Below wz.heap.size wz V9 := by rw [← hV]; exact (Below.refl _ _).alloc (Nat.le_refl _) _
  have hk : Blk V9 wz.heap.size 23 #[.int .i64 s1, .int .i64 s2] := by rw [← hV]; exact Blk.new' _ _ _ rfl
  have hs : Below V7.heap.size V7 V9 := hb.trans (hz.mono hb.size)
  rw [hV]
  obtain ⟨b9, hbb⟩ : ∃ b, wz.heap.size = b := ⟨_, rfl⟩
  rw [hbb] at hk ⊢
  have HB9 : Hid (∀ W, Below V9.heap.size V9 W → Blk W b7 23 #[.int .i64 c1, .int .i64 c2] ∧ Blk W b9 23 #[.int .i64 s1, .int .i64 s2]) := fun W hW => by
    have k7 := HB7.out W (hs.trans (hW.mono hs.size))
    exact ⟨k7, hk.below hW hk.lt⟩
  have HA9 := Lib.hid (HA7.out.trans (hs.mono HA7.out.size))
  clear HB7 HA7
  clear hb hV hz hk hs hbb
  go_wp2_with fail
  refine (lcos_any y _ ⟨by omega, by omega⟩).mono ?_
  rintro e wz ⟨rfl, hb⟩
  rw [HD.out.1, HD.out.2]
  go_upto_region 5 with (fail)
  obtain ⟨V11, hV⟩ : ∃ V, wz.alloc (.cells #[.int .i64 d1, .int .i64 d2] 23) = V := ⟨_, rfl⟩
  have hz : Below wz.heap.size wz V11 := by rw [← hV]; exact (Below.refl _ _).alloc (Nat.le_refl _) _
  have hk : Blk V11 wz.heap.size 23 #[.int .i64 d1, .int .i64 d2] := by rw [← hV]; exact Blk.new' _ _ _ rfl
  have hs : Below V9.heap.size V9 V11 := hb.trans (hz.mono hb.size)
  rw [hV]
  obtain ⟨b11, hbb⟩ : ∃ b, wz.heap.size = b := ⟨_, rfl⟩
  rw [hbb] at hk ⊢
  have HB11 : Hid (∀ W, Below V11.heap.size V11 W → Blk W b7 23 #[.int .i64 c1, .int .i64 c2] ∧ Blk W b9 23 #[.int .i64 s1, .int .i64 s2] ∧ Blk W b11 23 #[.int .i64 d1, .int .i64 d2]) := fun W hW => by
    obtain ⟨k7, k9⟩ := HB9.out W (hs.trans (hW.mono hs.size))
    exact ⟨k7, k9, hk.below hW hk.lt⟩
  have HA11 := Lib.hid (HA9.out.trans (hs.mono HA9.out.size))
  clear HB9 HA9
  clear hb hV hz hk hs hbb
  go_wp2_with fail
  refine (lcos_any (y - 900) _ ⟨by omega, by omega⟩).mono ?_
  rintro e wz ⟨rfl, hb⟩
  rw [HT.out.1, HT.out.2]
  go_upto_region 6 with (fail)
  obtain ⟨V13, hV⟩ : ∃ V, wz.alloc (.cells #[.int .i64 t1, .int .i64 t2] 23) = V := ⟨_, rfl⟩
  have hz : Below wz.heap.size wz V13 := by rw [← hV]; exact (Below.refl _ _).alloc (Nat.le_refl _) _
  have hk : Blk V13 wz.heap.size 23 #[.int .i64 t1, .int .i64 t2] := by rw [← hV]; exact Blk.new' _ _ _ rfl
  have hs : Below V11.heap.size V11 V13 := hb.trans (hz.mono hb.size)
  rw [hV]
  obtain ⟨b13, hbb⟩ : ∃ b, wz.heap.size = b := ⟨_, rfl⟩
  rw [hbb] at hk ⊢
  have HB13 : Hid (∀ W, Below V13.heap.size V13 W → Blk W b7 23 #[.int .i64 c1, .int .i64 c2] ∧ Blk W b9 23 #[.int .i64 s1, .int .i64 s2] ∧ Blk W b11 23 #[.int .i64 d1, .int .i64 d2] ∧ Blk W b13 23 #[.int .i64 t1, .int .i64 t2]) := fun W hW => by
    obtain ⟨k7, k9, k11⟩ := HB11.out W (hs.trans (hW.mono hs.size))
    exact ⟨k7, k9, k11, hk.below hW hk.lt⟩
  have HA13 := Lib.hid (HA11.out.trans (hs.mono HA11.out.size))
  clear HB11 HA11
  clear hb hV hz hk hs hbb
  go_wp2_with fail
  refine (lcos_any (-x) _ ⟨by omega, by omega⟩).mono ?_
  rintro e wz ⟨rfl, hb⟩
  rw [HO.out.1, HO.out.2]
  go_upto_region 7 with (fail)
  obtain ⟨V15, hV⟩ : ∃ V, wz.alloc (.cells #[.int .i64 c1, .int .i64 c2] 23) = V := ⟨_, rfl⟩
  have hz : Below wz.heap.size wz V15 := by rw [← hV]; exact (Below.refl _ _).alloc (Nat.le_refl _) _
  have hk : Blk V15 wz.heap.size 23 #[.int .i64 c1, .int .i64 c2] := by rw [← hV]; exact Blk.new' _ _ _ rfl
  have hs : Below V13.heap.size V13 V15 := hb.trans (hz.mono hb.size)
  rw [hV]
  obtain ⟨b15, hbb⟩ : ∃ b, wz.heap.size = b := ⟨_, rfl⟩
  rw [hbb] at hk ⊢
  have HB15 : Hid (∀ W, Below V15.heap.size V15 W → Blk W b7 23 #[.int .i64 c1, .int .i64 c2] ∧ Blk W b9 23 #[.int .i64 s1, .int .i64 s2] ∧ Blk W b11 23 #[.int .i64 d1, .int .i64 d2] ∧ Blk W b13 23 #[.int .i64 t1, .int .i64 t2] ∧ Blk W b15 23 #[.int .i64 c1, .int .i64 c2]) := fun W hW => by
    obtain ⟨k7, k9, k11, k13⟩ := HB13.out W (hs.trans (hW.mono hs.size))
    exact ⟨k7, k9, k11, k13, hk.below hW hk.lt⟩
  have HA15 := Lib.hid (HA13.out.trans (hs.mono HA13.out.size))
  clear HB13 HA13
  clear hb hV hz hk hs hbb
  go_wp2_with fail
  refine (lcos_any (x + 3600) _ ⟨by omega, by omega⟩).mono ?_
  rintro e wz ⟨rfl, hb⟩
  rw [HW.out.1, HW.out.2]
  go_upto_region 8 with (fail)
  obtain ⟨V17, hV⟩ : ∃ V, wz.alloc (.cells #[.int .i64 c1, .int .i64 c2] 23) = V := ⟨_, rfl⟩
  have hz : Below wz.heap.size wz V17 := by rw [← hV]; exact (Below.refl _ _).alloc (Nat.le_refl _) _
  have hk : Blk V17 wz.heap.size 23 #[.int .i64 c1, .int .i64 c2] := by rw [← hV]; exact Blk.new' _ _ _ rfl
  have hs : Below V15.heap.size V15 V17 := hb.trans (hz.mono hb.size)
  rw [hV]
  obtain ⟨b17, hbb⟩ : ∃ b, wz.heap.size = b := ⟨_, rfl⟩
  rw [hbb] at hk ⊢
  have HB17 : Hid (∀ W, Below V17.heap.size V17 W → Blk W b7 23 #[.int .i64 c1, .int .i64 c2] ∧ Blk W b9 23 #[.int .i64 s1, .int .i64 s2] ∧ Blk W b11 23 #[.int .i64 d1, .int .i64 d2] ∧ Blk W b13 23 #[.int .i64 t1, .int .i64 t2] ∧ Blk W b15 23 #[.int .i64 c1, .int .i64 c2] ∧ Blk W b17 23 #[.int .i64 c1, .int .i64 c2]) := fun W hW => by
    obtain ⟨k7, k9, k11, k13, k15⟩ := HB15.out W (hs.trans (hW.mono hs.size))
    exact ⟨k7, k9, k11, k13, k15, hk.below hW hk.lt⟩
  have HA17 := Lib.hid (HA15.out.trans (hs.mono HA15.out.size))
  clear HB15 HA15
  clear hb hV hz hk hs hbb
  go_wp2_with fail
  refine (lcos_any (x + 1800) _ ⟨by omega, by omega⟩).mono ?_
  rintro e wz ⟨rfl, hb⟩
  rw [HH.out.1, HH.out.2]
  go_upto_region 9 with (fail)
  obtain ⟨V19, hV⟩ : ∃ V, wz.alloc (.cells #[.int .i64 (-c2), .int .i64 (-c1)] 23) = V := ⟨_, rfl⟩
  have hz : Below wz.heap.size wz V19 := by rw [← hV]; exact (Below.refl _ _).alloc (Nat.le_refl _) _
  have hk : Blk V19 wz.heap.size 23 #[.int .i64 (-c2), .int .i64 (-c1)] := by rw [← hV]; exact Blk.new' _ _ _ rfl
  have hs : Below V17.heap.size V17 V19 := hb.trans (hz.mono hb.size)
  rw [hV]
  obtain ⟨b19, hbb⟩ : ∃ b, wz.heap.size = b := ⟨_, rfl⟩
  rw [hbb] at hk ⊢
  have HB19 : Hid (∀ W, Below V19.heap.size V19 W → Blk W b7 23 #[.int .i64 c1, .int .i64 c2] ∧ Blk W b9 23 #[.int .i64 s1, .int .i64 s2] ∧ Blk W b11 23 #[.int .i64 d1, .int .i64 d2] ∧ Blk W b13 23 #[.int .i64 t1, .int .i64 t2] ∧ Blk W b15 23 #[.int .i64 c1, .int .i64 c2] ∧ Blk W b17 23 #[.int .i64 c1, .int .i64 c2] ∧ Blk W b19 23 #[.int .i64 (-c2), .int .i64 (-c1)]) := fun W hW => by
    obtain ⟨k7, k9, k11, k13, k15, k17⟩ := HB17.out W (hs.trans (hW.mono hs.size))
    exact ⟨k7, k9, k11, k13, k15, k17, hk.below hW hk.lt⟩
  have HA19 := Lib.hid (HA17.out.trans (hs.mono HA17.out.size))
  clear HB17 HA17
  clear hb hV hz hk hs hbb
  have HS9 : Hid (∀ W, Below V19.heap.size V19 W → W.cell? ⟨b7, 0, none⟩ = some (.int .i64 c1) ∧ W.cell? ⟨b7, 1, none⟩ = some (.int .i64 c2) ∧ W.cell? ⟨b15, 0, none⟩ = some (.int .i64 c1) ∧ W.cell? ⟨b15, 1, none⟩ = some (.int .i64 c2) ∧ W.cell? ⟨b17, 0, none⟩ = some (.int .i64 c1) ∧ W.cell? ⟨b17, 1, none⟩ = some (.int .i64 c2) ∧ W.cell? ⟨b19, 0, none⟩ = some (.int .i64 (-c2)) ∧ W.cell? ⟨b19, 1, none⟩ = some (.int .i64 (-c1))) := fun W hW => by
    obtain ⟨k7, k9, k11, k13, k15, k17, k19⟩ := HB19.out W hW
    exact ⟨k7.cell 0, k7.cell 1, k15.cell 0, k15.cell 1, k17.cell 0, k17.cell 1, k19.cell 0, k19.cell 1⟩
  go_cut [119] from 73 to 120 (fun s wx => s = .bool false ∧ Below V19.heap.size V19 wx)
  case first =>
    have k0 := HS9.out _ (Below.drew (Below.refl V19.heap.size V19))
    have qc1 : IntKind.i64.wrap (-c1) = -c1 := IntWalk.i64_in _ (by omega)
    have qc2 : IntKind.i64.wrap (-c2) = -c2 := IntWalk.i64_in _ (by omega)
    refine wp_region_noPanic ?_
    refine wp_region_held_drew (S := (fun w' => w'.cell? ⟨b7, 0, none⟩ = some (.int .i64 c1) ∧ w'.cell? ⟨b7, 1, none⟩ = some (.int .i64 c2) ∧ w'.cell? ⟨b15, 0, none⟩ = some (.int .i64 c1) ∧ w'.cell? ⟨b15, 1, none⟩ = some (.int .i64 c2) ∧ w'.cell? ⟨b17, 0, none⟩ = some (.int .i64 c1) ∧ w'.cell? ⟨b17, 1, none⟩ = some (.int .i64 c2) ∧ w'.cell? ⟨b19, 0, none⟩ = some (.int .i64 (-c2)) ∧ w'.cell? ⟨b19, 1, none⟩ = some (.int .i64 (-c1)))) (by kernel_rfl) ?_ (fun hHeld => ?_)
    · (try dsimp only); (exact k0)
    refine wpAnyH_take (i := 0) (oi := otc9_0) (v := ?_) rfl (by kernel_rfl) (by kernel_rfl) (by kernel_rfl) (fun _ _ _ h => h) (Or.inl ⟨by rfl, ?_⟩) (by assumption) ?_
    rotate_left
    · ((intro w hSw; delta otc9_0; (try dsimp only at hSw); go_simp) <;> with_reducible rfl)
    try simp only [otc9_0, Act.put, List.setIfInBounds_toArray, List.set_cons_zero, List.set_cons_succ]
    refine wpAnyH_take (i := 1) (oi := otc9_1) (v := ?_) rfl (by kernel_rfl) (by kernel_rfl) (by kernel_rfl) (fun _ _ _ h => h) (Or.inl ⟨by rfl, ?_⟩) (by assumption) ?_
    rotate_left
    · ((intro w hSw; delta otc9_1; (try dsimp only at hSw); go_simp) <;> with_reducible rfl)
    try simp only [otc9_1, Act.put, List.setIfInBounds_toArray, List.set_cons_zero, List.set_cons_succ]
    refine wpAnyH_take (i := 2) (oi := otc9_2) (v := ?_) rfl (by kernel_rfl) (by kernel_rfl) (by kernel_rfl) (fun _ _ _ h => h) (Or.inl ⟨by rfl, ?_⟩) (by assumption) ?_
    rotate_left
    · ((intro w hSw; delta otc9_2; (try dsimp only at hSw); go_simp) <;> with_reducible rfl)
    try simp only [otc9_2, Act.put, List.setIfInBounds_toArray, List.set_cons_zero, List.set_cons_succ]
    refine wpAnyH_take (i := 3) (oi := otc9_3) (v := ?_) rfl (by kernel_rfl) (by kernel_rfl) (by kernel_rfl) (fun _ _ _ h => h) (Or.inl ⟨by rfl, ?_⟩) (by assumption) ?_
    rotate_left
    · ((intro w hSw; delta otc9_3; (try dsimp only at hSw); go_simp) <;> with_reducible rfl)
    try simp only [otc9_3, Act.put, List.setIfInBounds_toArray, List.set_cons_zero, List.set_cons_succ]
    refine wpAnyH_take (i := 4) (oi := otc9_4) (v := ?_) rfl (by kernel_rfl) (by kernel_rfl) (by kernel_rfl) (fun _ _ _ h => h) (Or.inl ⟨by rfl, ?_⟩) (by assumption) ?_
    rotate_left
    · ((intro w hSw; delta otc9_4; (try dsimp only at hSw); go_simp) <;> with_reducible rfl)
    try simp only [otc9_4, Act.put, List.setIfInBounds_toArray, List.set_cons_zero, List.set_cons_succ]
    refine wpAnyH_take (i := 5) (oi := otc9_5) (v := ?_) rfl (by kernel_rfl) (by kernel_rfl) (by kernel_rfl) (fun _ _ _ h => h) (Or.inl ⟨by rfl, ?_⟩) (by assumption) ?_
    rotate_left
    · ((intro w hSw; delta otc9_5; (try dsimp only at hSw); go_simp) <;> with_reducible rfl)
    try simp only [otc9_5, Act.put, List.setIfInBounds_toArray, List.set_cons_zero, List.set_cons_succ]
    refine wpAnyH_take (i := 6) (oi := otc9_6) (v := ?_) rfl (by kernel_rfl) (by kernel_rfl) (by kernel_rfl) (fun _ _ _ h => h) (Or.inl ⟨by rfl, ?_⟩) (by assumption) ?_
    rotate_left
    · ((intro w hSw; delta otc9_6; (try dsimp only at hSw); go_simp) <;> with_reducible rfl)
    try simp only [otc9_6, Act.put, List.setIfInBounds_toArray, List.set_cons_zero, List.set_cons_succ]
    refine wpAnyH_take (i := 7) (oi := otc9_7) (v := ?_) rfl (by kernel_rfl) (by kernel_rfl) (by kernel_rfl) (fun _ _ _ h => h) (Or.inl ⟨by rfl, ?_⟩) (by assumption) ?_
    rotate_left
    · ((intro w hSw; delta otc9_7; (try dsimp only at hSw); go_simp) <;> with_reducible rfl)
    try simp only [otc9_7, Act.put, List.setIfInBounds_toArray, List.set_cons_zero, List.set_cons_succ]
    refine wpAnyH_take (i := 8) (oi := otc9_8) (v := ?_) rfl (by kernel_rfl) (by kernel_rfl) (by kernel_rfl) (fun _ _ _ h => h) (Or.inl ⟨by rfl, ?_⟩) (by assumption) ?_
    rotate_left
    · ((intro w hSw; delta otc9_8; (try dsimp only at hSw); go_simp) <;> with_reducible rfl)
    try simp only [otc9_8, Act.put, List.setIfInBounds_toArray, List.set_cons_zero, List.set_cons_succ]
    refine wpAnyH_take (i := 9) (oi := otc9_9) (v := ?_) rfl (by kernel_rfl) (by kernel_rfl) (by kernel_rfl) (fun _ _ _ h => h) (Or.inl ⟨by rfl, ?_⟩) (by assumption) ?_
    rotate_left
    · ((intro w hSw; delta otc9_9; (try dsimp only at hSw); go_simp) <;> with_reducible rfl)
    try simp only [otc9_9, Act.put, List.setIfInBounds_toArray, List.set_cons_zero, List.set_cons_succ]
    refine wpAnyH_take (i := 10) (oi := otc9_10) (v := ?_) rfl (by kernel_rfl) (by kernel_rfl) (by kernel_rfl) (fun _ _ _ h => h) (Or.inl ⟨by rfl, ?_⟩) (by assumption) ?_
    rotate_left
    · ((intro w hSw; delta otc9_10; (try dsimp only at hSw); go_simp) <;> with_reducible rfl)
    try simp only [otc9_10, Act.put, List.setIfInBounds_toArray, List.set_cons_zero, List.set_cons_succ]
    refine wpAnyH_take (i := 11) (oi := otc9_11) (v := ?_) rfl (by kernel_rfl) (by kernel_rfl) (by kernel_rfl) (fun _ _ _ h => h) (Or.inl ⟨by rfl, ?_⟩) (by assumption) ?_
    rotate_left
    · ((intro w hSw; delta otc9_11; (try dsimp only at hSw); go_simp) <;> with_reducible rfl)
    try simp only [otc9_11, Act.put, List.setIfInBounds_toArray, List.set_cons_zero, List.set_cons_succ]
    refine wpAnyH_take (i := 12) (oi := otc9_12) (v := ?_) rfl (by kernel_rfl) (by kernel_rfl) (by kernel_rfl) (fun _ _ _ h => h) (Or.inl ⟨by rfl, ?_⟩) (by assumption) ?_
    rotate_left
    · ((intro w hSw; delta otc9_12; (try dsimp only at hSw); go_simp) <;> with_reducible rfl)
    try simp only [otc9_12, Act.put, List.setIfInBounds_toArray, List.set_cons_zero, List.set_cons_succ]
    refine wpAnyH_take (i := 13) (oi := otc9_13) (v := ?_) rfl (by kernel_rfl) (by kernel_rfl) (by kernel_rfl) (fun _ _ _ h => h) (Or.inl ⟨by rfl, ?_⟩) (by assumption) ?_
    rotate_left
    · ((intro w hSw; delta otc9_13; (try dsimp only at hSw); go_simp) <;> with_reducible rfl)
    try simp only [otc9_13, Act.put, List.setIfInBounds_toArray, List.set_cons_zero, List.set_cons_succ]
    refine wpAnyH_take (i := 14) (oi := otc9_14) (v := ?_) rfl (by kernel_rfl) (by kernel_rfl) (by kernel_rfl) (fun _ _ _ h => h) (Or.inl ⟨by rfl, ?_⟩) (by assumption) ?_
    rotate_left
    · ((intro w hSw; delta otc9_14; (try dsimp only at hSw); go_simp) <;> with_reducible rfl)
    try simp only [otc9_14, Act.put, List.setIfInBounds_toArray, List.set_cons_zero, List.set_cons_succ]
    refine wpAnyH_take (i := 15) (oi := otc9_15) (v := ?_) rfl (by kernel_rfl) (by kernel_rfl) (by kernel_rfl) (fun _ _ _ h => h) (Or.inl ⟨by rfl, ?_⟩) (by assumption) ?_
    rotate_left
    · ((intro w hSw; delta otc9_15; (try dsimp only at hSw); go_simp) <;> with_reducible rfl)
    try simp only [otc9_15, Act.put, List.setIfInBounds_toArray, List.set_cons_zero, List.set_cons_succ]
    refine wpAnyH_take (i := 16) (oi := otc9_16) (v := ?_) rfl (by kernel_rfl) (by kernel_rfl) (by kernel_rfl) (fun _ _ _ h => h) (Or.inl ⟨by rfl, ?_⟩) (by assumption) ?_
    rotate_left
    · ((intro w hSw; delta otc9_16; (try dsimp only at hSw); go_simp) <;> with_reducible rfl)
    try simp only [otc9_16, Act.put, List.setIfInBounds_toArray, List.set_cons_zero, List.set_cons_succ]
    refine wpAnyH_take (i := 17) (oi := otc9_17) (v := ?_) rfl (by kernel_rfl) (by kernel_rfl) (by kernel_rfl) (fun _ _ _ h => h) (Or.inl ⟨by rfl, ?_⟩) (by assumption) ?_
    rotate_left
    · ((intro w hSw; delta otc9_17; (try dsimp only at hSw); go_simp) <;> with_reducible rfl)
    try simp only [otc9_17, Act.put, List.setIfInBounds_toArray, List.set_cons_zero, List.set_cons_succ]
    refine wpAnyH_take (i := 18) (oi := otc9_18) (v := ?_) rfl (by kernel_rfl) (by kernel_rfl) (by kernel_rfl) (fun _ _ _ h => h) (Or.inl ⟨by rfl, ?_⟩) (by assumption) ?_
    rotate_left
    · ((intro w hSw; delta otc9_18; (try dsimp only at hSw); go_simp) <;> with_reducible rfl)
    try simp only [otc9_18, Act.put, List.setIfInBounds_toArray, List.set_cons_zero, List.set_cons_succ]
    refine wpAnyH_take (i := 19) (oi := otc9_19) (v := ?_) rfl (by kernel_rfl) (by kernel_rfl) (by kernel_rfl) (fun _ _ _ h => h) (Or.inl ⟨by rfl, ?_⟩) (by assumption) ?_
    rotate_left
    · ((intro w hSw; delta otc9_19; (try dsimp only at hSw); go_simp) <;> with_reducible rfl)
    try simp only [otc9_19, Act.put, List.setIfInBounds_toArray, List.set_cons_zero, List.set_cons_succ]
    refine wpAnyH_take (i := 20) (oi := otc9_20) (v := ?_) rfl (by kernel_rfl) (by kernel_rfl) (by kernel_rfl) (fun _ _ _ h => h) (Or.inl ⟨by rfl, ?_⟩) (by assumption) ?_
    rotate_left
    · ((intro w hSw; delta otc9_20; (try dsimp only at hSw); go_simp) <;> with_reducible rfl)
    try simp only [otc9_20, Act.put, List.setIfInBounds_toArray, List.set_cons_zero, List.set_cons_succ]
    refine wpAnyH_take (i := 21) (oi := otc9_21) (v := ?_) rfl (by kernel_rfl) (by kernel_rfl) (by kernel_rfl) (fun _ _ _ h => h) (Or.inl ⟨by rfl, ?_⟩) (by assumption) ?_
    rotate_left
    · ((intro w hSw; delta otc9_21; (try dsimp only at hSw); go_simp) <;> with_reducible rfl)
    try simp only [otc9_21, Act.put, List.setIfInBounds_toArray, List.set_cons_zero, List.set_cons_succ]
    refine wpAnyH_take (i := 22) (oi := otc9_22) (v := ?_) rfl (by kernel_rfl) (by kernel_rfl) (by kernel_rfl) (fun _ _ _ h => h) (Or.inl ⟨by rfl, ?_⟩) (by assumption) ?_
    rotate_left
    · ((intro w hSw; delta otc9_22; (try dsimp only at hSw); go_simp) <;> with_reducible rfl)
    try simp only [otc9_22, Act.put, List.setIfInBounds_toArray, List.set_cons_zero, List.set_cons_succ]
    refine wpAnyH_take (i := 23) (oi := otc9_23) (v := ?_) rfl (by kernel_rfl) (by kernel_rfl) (by kernel_rfl) (fun _ _ _ h => h) (Or.inl ⟨by rfl, ?_⟩) (by assumption) ?_
    rotate_left
    · ((intro w hSw; delta otc9_23; (try dsimp only at hSw); go_simp) <;> with_reducible rfl)
    try simp only [otc9_23, Act.put, List.setIfInBounds_toArray, List.set_cons_zero, List.set_cons_succ]
    as_aux_lemma =>
     refine wpAnyH_take (i := 24) (oi := otc9_24) (v := ?_) rfl (by kernel_rfl) (by kernel_rfl) (by kernel_rfl) (fun _ _ _ h => h) (Or.inl ⟨by rfl, ?_⟩) (by assumption) ?_
     rotate_left
     · ((intro w hSw; delta otc9_24; (try dsimp only at hSw); go_simp) <;> with_reducible rfl)
     try simp only [otc9_24, Act.put, List.setIfInBounds_toArray, List.set_cons_zero, List.set_cons_succ]
     refine wpAnyH_take (i := 25) (oi := otc9_25) (v := ?_) rfl (by kernel_rfl) (by kernel_rfl) (by kernel_rfl) (fun _ _ _ h => h) (Or.inl ⟨by rfl, ?_⟩) (by assumption) ?_
     rotate_left
     · ((intro w hSw; delta otc9_25; (try dsimp only at hSw); go_simp) <;> with_reducible rfl)
     try simp only [otc9_25, Act.put, List.setIfInBounds_toArray, List.set_cons_zero, List.set_cons_succ]
     refine wpAnyH_take (i := 26) (oi := otc9_26) (v := ?_) rfl (by kernel_rfl) (by kernel_rfl) (by kernel_rfl) (fun _ _ _ h => h) (Or.inl ⟨by rfl, ?_⟩) (by assumption) ?_
     rotate_left
     · ((intro w hSw; delta otc9_26; (try dsimp only at hSw); go_simp) <;> with_reducible rfl)
     try simp only [otc9_26, Act.put, List.setIfInBounds_toArray, List.set_cons_zero, List.set_cons_succ]
     refine wpAnyH_take (i := 27) (oi := otc9_27) (v := ?_) rfl (by kernel_rfl) (by kernel_rfl) (by kernel_rfl) (fun _ _ _ h => h) (Or.inl ⟨by rfl, ?_⟩) (by assumption) ?_
     rotate_left
     · ((intro w hSw; delta otc9_27; (try dsimp only at hSw); go_simp) <;> with_reducible rfl)
     try simp only [otc9_27, Act.put, List.setIfInBounds_toArray, List.set_cons_zero, List.set_cons_succ]
     refine wpAnyH_take (i := 28) (oi := otc9_28) (v := ?_) rfl (by kernel_rfl) (by kernel_rfl) (by kernel_rfl) (fun _ _ _ h => h) (Or.inl ⟨by rfl, ?_⟩) (by assumption) ?_
     rotate_left
     · ((intro w hSw; delta otc9_28; (try dsimp only at hSw); go_simp) <;> with_reducible rfl)
     try simp only [otc9_28, Act.put, List.setIfInBounds_toArray, List.set_cons_zero, List.set_cons_succ]
     refine wpAnyH_take (i := 29) (oi := otc9_29) (v := ?_) rfl (by kernel_rfl) (by kernel_rfl) (by kernel_rfl) (fun _ _ _ h => h) (Or.inl ⟨by rfl, ?_⟩) (by assumption) ?_
     rotate_left
     · ((intro w hSw; delta otc9_29; (try dsimp only at hSw); go_simp) <;> with_reducible rfl)
     try simp only [otc9_29, Act.put, List.setIfInBounds_toArray, List.set_cons_zero, List.set_cons_succ]
     refine wpAnyH_take (i := 30) (oi := otc9_30) (v := ?_) rfl (by kernel_rfl) (by kernel_rfl) (by kernel_rfl) (fun _ _ _ h => h) (Or.inl ⟨by rfl, ?_⟩) (by assumption) ?_
     rotate_left
     · ((intro w hSw; delta otc9_30; (try dsimp only at hSw); go_simp) <;> with_reducible rfl)
     try simp only [otc9_30, Act.put, List.setIfInBounds_toArray, List.set_cons_zero, List.set_cons_succ]
     refine wpAnyH_take (i := 31) (oi := otc9_31) (v := ?_) rfl (by kernel_rfl) (by kernel_rfl) (by kernel_rfl) (fun _ _ _ h => h) (Or.inl ⟨by rfl, ?_⟩) (by assumption) ?_
     rotate_left
     · ((intro w hSw; delta otc9_31; (try dsimp only at hSw); go_simp) <;> with_reducible rfl)
     try simp only [otc9_31, Act.put, List.setIfInBounds_toArray, List.set_cons_zero, List.set_cons_succ]
     refine wpAnyH_take (i := 32) (oi := otc9_32) (v := ?_) rfl (by kernel_rfl) (by kernel_rfl) (by kernel_rfl) (fun _ _ _ h => h) (Or.inl ⟨by rfl, ?_⟩) (by assumption) ?_
     rotate_left
     · ((intro w hSw; delta otc9_32; (try dsimp only at hSw); go_simp) <;> with_reducible rfl)
     try simp only [otc9_32, Act.put, List.setIfInBounds_toArray, List.set_cons_zero, List.set_cons_succ]
     refine wpAnyH_take (i := 33) (oi := otc9_33) (v := ?_) rfl (by kernel_rfl) (by kernel_rfl) (by kernel_rfl) (fun _ _ _ h => h) (Or.inl ⟨by rfl, ?_⟩) (by assumption) ?_
     rotate_left
     · ((intro w hSw; delta otc9_33; (try dsimp only at hSw); go_simp) <;> with_reducible rfl)
     try simp only [otc9_33, Act.put, List.setIfInBounds_toArray, List.set_cons_zero, List.set_cons_succ]
     refine wpAnyH_take (i := 34) (oi := otc9_34) (v := ?_) rfl (by kernel_rfl) (by kernel_rfl) (by kernel_rfl) (fun _ _ _ h => h) (Or.inl ⟨by rfl, ?_⟩) (by assumption) ?_
     rotate_left
     · ((intro w hSw; delta otc9_34; (try dsimp only at hSw); go_simp) <;> with_reducible rfl)
     try simp only [otc9_34, Act.put, List.setIfInBounds_toArray, List.set_cons_zero, List.set_cons_succ]
     refine wpAnyH_take (i := 35) (oi := otc9_35) (v := ?_) rfl (by kernel_rfl) (by kernel_rfl) (by kernel_rfl) (fun _ _ _ h => h) (Or.inl ⟨by rfl, ?_⟩) (by assumption) ?_
     rotate_left
     · ((intro w hSw; delta otc9_35; (try dsimp only at hSw); go_simp) <;> with_reducible rfl)
     try simp only [otc9_35, Act.put, List.setIfInBounds_toArray, List.set_cons_zero, List.set_cons_succ]
     refine wpAnyH_take (i := 36) (oi := otc9_36) (v := ?_) rfl (by kernel_rfl) (by kernel_rfl) (by kernel_rfl) (fun _ _ _ h => h) (Or.inl ⟨by rfl, ?_⟩) (by assumption) ?_
     rotate_left
     · ((intro w hSw; delta otc9_36; (try dsimp only at hSw); go_simp) <;> with_reducible rfl)
     try simp only [otc9_36, Act.put, List.setIfInBounds_toArray, List.set_cons_zero, List.set_cons_succ]
     refine wpAnyH_take (i := 37) (oi := otc9_37) (v := ?_) rfl (by kernel_rfl) (by kernel_rfl) (by kernel_rfl) (fun _ _ _ h => h) (Or.inl ⟨by rfl, ?_⟩) (by assumption) ?_
     rotate_left
     · ((intro w hSw; delta otc9_37; (try dsimp only at hSw); go_simp) <;> with_reducible rfl)
     try simp only [otc9_37, Act.put, List.setIfInBounds_toArray, List.set_cons_zero, List.set_cons_succ]
     refine wpAnyH_take (i := 38) (oi := otc9_38) (v := ?_) rfl (by kernel_rfl) (by kernel_rfl) (by kernel_rfl) (fun _ _ _ h => h) (Or.inl ⟨by rfl, ?_⟩) (by assumption) ?_
     rotate_left
     · ((intro w hSw; delta otc9_38; (try dsimp only at hSw); go_simp) <;> with_reducible rfl)
     try simp only [otc9_38, Act.put, List.setIfInBounds_toArray, List.set_cons_zero, List.set_cons_succ]
     refine wpAnyH_take (i := 39) (oi := otc9_39) (v := ?_) rfl (by kernel_rfl) (by kernel_rfl) (by kernel_rfl) (fun _ _ _ h => h) (Or.inl ⟨by rfl, ?_⟩) (by assumption) ?_
     rotate_left
     · ((intro w hSw; delta otc9_39; (try dsimp only at hSw); go_simp) <;> with_reducible rfl)
     try simp only [otc9_39, Act.put, List.setIfInBounds_toArray, List.set_cons_zero, List.set_cons_succ]
     refine wpAnyH_take (i := 40) (oi := otc9_40) (v := ?_) rfl (by kernel_rfl) (by kernel_rfl) (by kernel_rfl) (fun _ _ _ h => h) (Or.inl ⟨by rfl, ?_⟩) (by assumption) ?_
     rotate_left
     · ((intro w hSw; delta otc9_40; (try dsimp only at hSw); go_simp) <;> with_reducible rfl)
     try simp only [otc9_40, Act.put, List.setIfInBounds_toArray, List.set_cons_zero, List.set_cons_succ]
     refine wpAnyH_take (i := 41) (oi := otc9_41) (v := ?_) rfl (by kernel_rfl) (by kernel_rfl) (by kernel_rfl) (fun _ _ _ h => h) (Or.inl ⟨by rfl, ?_⟩) (by assumption) ?_
     rotate_left
     · ((intro w hSw; delta otc9_41; (try dsimp only at hSw); go_simp) <;> with_reducible rfl)
     try simp only [otc9_41, Act.put, List.setIfInBounds_toArray, List.set_cons_zero, List.set_cons_succ]
     refine wpAnyH_take (i := 42) (oi := otc9_42) (v := ?_) rfl (by kernel_rfl) (by kernel_rfl) (by kernel_rfl) (fun _ _ _ h => h) (Or.inl ⟨by rfl, ?_⟩) (by assumption) ?_
     rotate_left
     · ((intro w hSw; delta otc9_42; (try dsimp only at hSw); go_simp) <;> with_reducible rfl)
     try simp only [otc9_42, Act.put, List.setIfInBounds_toArray, List.set_cons_zero, List.set_cons_succ]
     refine wpAnyH_take (i := 43) (oi := otc9_43) (v := ?_) rfl (by kernel_rfl) (by kernel_rfl) (by kernel_rfl) (fun _ _ _ h => h) (Or.inl ⟨by rfl, ?_⟩) (by assumption) ?_
     rotate_left
     · ((intro w hSw; delta otc9_43; (try dsimp only at hSw); go_simp) <;> with_reducible rfl)
     try simp only [otc9_43, Act.put, List.setIfInBounds_toArray, List.set_cons_zero, List.set_cons_succ]
     refine wpAnyH_ready (rs := [44]) (by kernel_rfl) (by simp) ?_
     refine AllReadyH.cons (o := otc9_44) rfl (fun K hK => ?_) AllReadyH.nil
     delta otc9_44
     go_simp
     (refine (lspan_any _ _ _).mono ?_; rintro e W1 ⟨rfl, hb⟩; have HB1 : Hid (Below V19.heap.size V19 W1) := ((Below.drew (Below.refl V19.heap.size V19)).trans (hb.mono (by exact Nat.le_refl _))); clear hb)
     refine hK.out _ _ ?_ (fun hHeld => ?_)
     · (try dsimp only); (exact HS9.out _ HB1.out)
     clear hK K
     try simp only [otc9_44, Act.put, List.setIfInBounds_toArray, List.set_cons_zero, List.set_cons_succ]
     refine wpAnyH_take (i := 45) (oi := otc9_45) (v := ?_) rfl (by kernel_rfl) (by kernel_rfl) (by kernel_rfl) (fun _ _ _ h => h) (Or.inl ⟨by rfl, ?_⟩) (by assumption) ?_
     rotate_left
     · ((intro w hSw; delta otc9_45; (try dsimp only at hSw); go_simp) <;> with_reducible rfl)
     try simp only [otc9_45, Act.put, List.setIfInBounds_toArray, List.set_cons_zero, List.set_cons_succ]
     refine wpAnyH_take (i := 46) (oi := otc9_46) (v := ?_) rfl (by kernel_rfl) (by kernel_rfl) (by kernel_rfl) (fun _ _ _ h => h) (Or.inl ⟨by rfl, ?_⟩) (by assumption) ?_
     rotate_left
     · ((intro w hSw; delta otc9_46; (try dsimp only at hSw); go_simp) <;> with_reducible rfl)
     try simp only [otc9_46, Act.put, List.setIfInBounds_toArray, List.set_cons_zero, List.set_cons_succ]
     refine wpAnyH_done (by kernel_rfl) ?_ _
     refine NoPanic.normal ?_
     go_wp2_with fail
     go_meet
     exact ⟨rfl, HB1.out⟩
  case rest =>
    obtain ⟨rfl, hb9⟩ := hcut
    obtain ⟨V20, rfl⟩ : ∃ V, V = wc := ⟨_, rfl⟩
    have HB19n : Hid (∀ W, Below V20.heap.size V20 W → Blk W b7 23 #[.int .i64 c1, .int .i64 c2] ∧ Blk W b9 23 #[.int .i64 s1, .int .i64 s2] ∧ Blk W b11 23 #[.int .i64 d1, .int .i64 d2] ∧ Blk W b13 23 #[.int .i64 t1, .int .i64 t2] ∧ Blk W b15 23 #[.int .i64 c1, .int .i64 c2] ∧ Blk W b17 23 #[.int .i64 c1, .int .i64 c2] ∧ Blk W b19 23 #[.int .i64 (-c2), .int .i64 (-c1)]) := fun W hW => HB19.out W (hb9.trans (hW.mono hb9.size))
    have HA19n := Lib.hid (HA19.out.trans (hb9.mono HA19.out.size))
    clear HB19 HA19 HS9 hb9
    have HSV : Hid (∀ W, Below V20.heap.size V20 W → W.cell? ⟨b7, 0, none⟩ = some (.int .i64 c1) ∧ W.cell? ⟨b7, 1, none⟩ = some (.int .i64 c2) ∧ W.cell? ⟨b9, 0, none⟩ = some (.int .i64 s1) ∧ W.cell? ⟨b9, 1, none⟩ = some (.int .i64 s2)) := fun W hW => by
      obtain ⟨k7, k9, k11, k13, k15, k17, k19⟩ := HB19n.out W hW
      exact ⟨k7.cell 0, k7.cell 1, k9.cell 0, k9.cell 1⟩
    go_upto_region 11 with (fail)
    go_cut [21, 22] from 120 to 124 (fun p q wx => TwoBox V20 23 (squareZ (c1, c2)) (squareZ (s1, s2)) p q wx)
    case first =>
      have k0 := HSV.out _ (Below.drew (Below.refl V20.heap.size V20))
      refine wp_region_noPanic ?_
      refine wp_region_held_drew (S := (fun w' => w'.cell? ⟨b7, 0, none⟩ = some (.int .i64 c1) ∧ w'.cell? ⟨b7, 1, none⟩ = some (.int .i64 c2) ∧ w'.cell? ⟨b9, 0, none⟩ = some (.int .i64 s1) ∧ w'.cell? ⟨b9, 1, none⟩ = some (.int .i64 s2))) (by kernel_rfl) ?_ (fun hHeld => ?_)
      · (try dsimp only); (exact k0)
      refine wpAnyH_take (i := 0) (oi := otc11_0) (v := ?_) rfl (by kernel_rfl) (by kernel_rfl) (by kernel_rfl) (fun _ _ _ h => h) (Or.inl ⟨by rfl, ?_⟩) (by assumption) ?_
      rotate_left
      · ((intro w hSw; delta otc11_0; (try dsimp only at hSw); go_simp) <;> with_reducible rfl)
      try simp only [otc11_0, Act.put, List.setIfInBounds_toArray, List.set_cons_zero, List.set_cons_succ]
      refine wpAnyH_take (i := 2) (oi := otc11_2) (v := ?_) rfl (by kernel_rfl) (by kernel_rfl) (by kernel_rfl) (fun _ _ _ h => h) (Or.inl ⟨by rfl, ?_⟩) (by assumption) ?_
      rotate_left
      · ((intro w hSw; delta otc11_2; (try dsimp only at hSw); go_simp) <;> with_reducible rfl)
      try simp only [otc11_2, Act.put, List.setIfInBounds_toArray, List.set_cons_zero, List.set_cons_succ]
      obtain ⟨W0, hW0⟩ : ∃ V, V20.drew = V := ⟨_, rfl⟩; rw [hW0] at hHeld ⊢; have HBV : Hid (Below V20.heap.size V20 W0) := (by rw [← hW0]; exact Below.drew (Below.refl _ _)); have HS : Hid (∀ W, Below W0.heap.size W0 W → W.cell? ⟨b7, 0, none⟩ = some (.int .i64 c1) ∧ W.cell? ⟨b7, 1, none⟩ = some (.int .i64 c2) ∧ W.cell? ⟨b9, 0, none⟩ = some (.int .i64 s1) ∧ W.cell? ⟨b9, 1, none⟩ = some (.int .i64 s2)) := (fun W hW => HSV.out W (HBV.out.trans (hW.mono HBV.out.size))); have HB0 := Lib.hid (Below.refl W0.heap.size W0); clear hW0
      refine wpAnyH_ready (rs := [1, 4, 5]) (by kernel_rfl) (by simp) ?_
      refine AllReadyH.cons (o := otc11_1) rfl (fun K hK => ?gs1) ?gr1
      case' gs1 =>
       delta otc11_1
       go_simp
       (refine (lsquare_any _ _ _ ⟨by omega, by omega⟩ ⟨by omega, by omega⟩).mono ?_; rintro e W1 ⟨rfl, hb⟩); have hbz : Below W0.heap.size W0 W1 := (by first | exact hb | exact Below.trans (Below.drew (Below.refl _ _)) hb); clear hb; have HB1 := Lib.hid (HB0.out.trans (hbz.mono HB0.out.size)); clear hbz
       refine hK.out _ _ ?_ (fun hHeld => ?_)
       · (try dsimp only); (exact HS.out _ HB1.out)
       clear hK K
       try simp only [otc11_1, Act.put, List.setIfInBounds_toArray, List.set_cons_zero, List.set_cons_succ]
       refine wpAnyH_ready (rs := [3, 4, 5]) (by kernel_rfl) (by simp) ?_
       refine AllReadyH.cons (o := otc11_3) rfl (fun K hK => ?gs2) ?gr2
       case' gs2 =>
        delta otc11_3
        go_simp
        (refine (lsquare_any _ _ _ ⟨by omega, by omega⟩ ⟨by omega, by omega⟩).mono ?_; rintro e W2 ⟨rfl, hb⟩); have hbz : Below W1.heap.size W1 W2 := (by first | exact hb | exact Below.trans (Below.drew (Below.refl _ _)) hb); clear hb; have HB2 := Lib.hid (HB1.out.trans (hbz.mono HB1.out.size)); clear hbz
        refine hK.out _ _ ?_ (fun hHeld => ?_)
        · (try dsimp only); (exact HS.out _ HB2.out)
        clear hK K
        try simp only [otc11_3, Act.put, List.setIfInBounds_toArray, List.set_cons_zero, List.set_cons_succ]
        refine wpAnyH_ready (rs := [4, 5]) (by kernel_rfl) (by simp) ?_
        refine AllReadyH.cons (o := otc11_4) rfl (fun K hK => ?gs3) ?gr3
        case' gs3 =>
         delta otc11_4
         go_simp
         obtain ⟨W3, hV⟩ : ∃ V, W2.alloc (.cells #[.int .i64 0, .int .i64 0] 23) = V := ⟨_, rfl⟩; have hbz : Below W2.heap.size W2 W3 := (by rw [← hV]; exact (Below.refl _ _).alloc (Nat.le_refl _) _); have HB3 := Lib.hid (HB2.out.trans (hbz.mono HB2.out.size)); have Hb21_3 : Hid (Blk W3 W2.heap.size 23 #[.int .i64 0, .int .i64 0]) := (by rw [← hV]; exact Blk.new' _ _ _ rfl); obtain ⟨b21, hz⟩ : ∃ b, W2.heap.size = b := ⟨_, rfl⟩; rw [hz] at Hb21_3; have gb21 : W0.heap.size ≤ b21 := (by rw [← hz]; exact HB2.out.size); rw [hV, hz]; clear hV hbz hz
         refine hK.out _ _ ?_ (fun hHeld => ?_)
         · (try dsimp only); (exact HS.out _ HB3.out)
         clear hK K
         try simp only [otc11_4, Act.put, List.setIfInBounds_toArray, List.set_cons_zero, List.set_cons_succ]
         refine wpAnyH_ready (rs := [5]) (by kernel_rfl) (by simp) ?_
         refine AllReadyH.cons (o := otc11_5) rfl (fun K hK => ?_) AllReadyH.nil
         delta otc11_5
         go_simp
         obtain ⟨W4, hV⟩ : ∃ V, W3.alloc (.cells #[.int .i64 0, .int .i64 0] 23) = V := ⟨_, rfl⟩; have hbz : Below W3.heap.size W3 W4 := (by rw [← hV]; exact (Below.refl _ _).alloc (Nat.le_refl _) _); have HB4 := Lib.hid (HB3.out.trans (hbz.mono HB3.out.size)); have Hb22_4 : Hid (Blk W4 W3.heap.size 23 #[.int .i64 0, .int .i64 0]) := (by rw [← hV]; exact Blk.new' _ _ _ rfl); obtain ⟨b22, hz⟩ : ∃ b, W3.heap.size = b := ⟨_, rfl⟩; rw [hz] at Hb22_4; have gb22 : W0.heap.size ≤ b22 := (by rw [← hz]; exact HB3.out.size); have Hb21_4 := Lib.hid (Hb21_3.out.below hbz Hb21_3.out.lt); have nb22b21 : ¬ b22 = b21 := (fun e => by have := Hb21_3.out.lt; omega); have nb21b22 : ¬ b21 = b22 := (fun e => nb22b21 e.symm); rw [hV, hz]; clear hV hbz hz
         refine hK.out _ _ ?_ (fun hHeld => ?_)
         · (try dsimp only); (exact HS.out _ HB4.out)
         clear hK K
         try simp only [otc11_5, Act.put, List.setIfInBounds_toArray, List.set_cons_zero, List.set_cons_succ]
        case' gr3 =>
         refine AllReadyH.cons (o := otc11_5) rfl (fun K hK => ?gs4) ?gr4
         case' gs4 =>
          delta otc11_5
          go_simp
          obtain ⟨W3, hV⟩ : ∃ V, W2.alloc (.cells #[.int .i64 0, .int .i64 0] 23) = V := ⟨_, rfl⟩; have hbz : Below W2.heap.size W2 W3 := (by rw [← hV]; exact (Below.refl _ _).alloc (Nat.le_refl _) _); have HB3 := Lib.hid (HB2.out.trans (hbz.mono HB2.out.size)); have Hb22_3 : Hid (Blk W3 W2.heap.size 23 #[.int .i64 0, .int .i64 0]) := (by rw [← hV]; exact Blk.new' _ _ _ rfl); obtain ⟨b22, hz⟩ : ∃ b, W2.heap.size = b := ⟨_, rfl⟩; rw [hz] at Hb22_3; have gb22 : W0.heap.size ≤ b22 := (by rw [← hz]; exact HB2.out.size); rw [hV, hz]; clear hV hbz hz
          refine hK.out _ _ ?_ (fun hHeld => ?_)
          · (try dsimp only); (exact HS.out _ HB3.out)
          clear hK K
          try simp only [otc11_5, Act.put, List.setIfInBounds_toArray, List.set_cons_zero, List.set_cons_succ]
          refine wpAnyH_ready (rs := [4]) (by kernel_rfl) (by simp) ?_
          refine AllReadyH.cons (o := otc11_4) rfl (fun K hK => ?_) AllReadyH.nil
          delta otc11_4
          go_simp
          obtain ⟨W4, hV⟩ : ∃ V, W3.alloc (.cells #[.int .i64 0, .int .i64 0] 23) = V := ⟨_, rfl⟩; have hbz : Below W3.heap.size W3 W4 := (by rw [← hV]; exact (Below.refl _ _).alloc (Nat.le_refl _) _); have HB4 := Lib.hid (HB3.out.trans (hbz.mono HB3.out.size)); have Hb21_4 : Hid (Blk W4 W3.heap.size 23 #[.int .i64 0, .int .i64 0]) := (by rw [← hV]; exact Blk.new' _ _ _ rfl); obtain ⟨b21, hz⟩ : ∃ b, W3.heap.size = b := ⟨_, rfl⟩; rw [hz] at Hb21_4; have gb21 : W0.heap.size ≤ b21 := (by rw [← hz]; exact HB3.out.size); have Hb22_4 := Lib.hid (Hb22_3.out.below hbz Hb22_3.out.lt); have nb21b22 : ¬ b21 = b22 := (fun e => by have := Hb22_3.out.lt; omega); have nb22b21 : ¬ b22 = b21 := (fun e => nb21b22 e.symm); rw [hV, hz]; clear hV hbz hz
          refine hK.out _ _ ?_ (fun hHeld => ?_)
          · (try dsimp only); (exact HS.out _ HB4.out)
          clear hK K
          try simp only [otc11_4, Act.put, List.setIfInBounds_toArray, List.set_cons_zero, List.set_cons_succ]
         case' gr4 =>
          exact AllReadyH.nil
       case' gr2 =>
        refine AllReadyH.cons (o := otc11_4) rfl (fun K hK => ?gs5) ?gr5
        case' gs5 =>
         delta otc11_4
         go_simp
         obtain ⟨W2, hV⟩ : ∃ V, W1.alloc (.cells #[.int .i64 0, .int .i64 0] 23) = V := ⟨_, rfl⟩; have hbz : Below W1.heap.size W1 W2 := (by rw [← hV]; exact (Below.refl _ _).alloc (Nat.le_refl _) _); have HB2 := Lib.hid (HB1.out.trans (hbz.mono HB1.out.size)); have Hb21_2 : Hid (Blk W2 W1.heap.size 23 #[.int .i64 0, .int .i64 0]) := (by rw [← hV]; exact Blk.new' _ _ _ rfl); obtain ⟨b21, hz⟩ : ∃ b, W1.heap.size = b := ⟨_, rfl⟩; rw [hz] at Hb21_2; have gb21 : W0.heap.size ≤ b21 := (by rw [← hz]; exact HB1.out.size); rw [hV, hz]; clear hV hbz hz
         refine hK.out _ _ ?_ (fun hHeld => ?_)
         · (try dsimp only); (exact HS.out _ HB2.out)
         clear hK K
         try simp only [otc11_4, Act.put, List.setIfInBounds_toArray, List.set_cons_zero, List.set_cons_succ]
         refine wpAnyH_ready (rs := [3, 5]) (by kernel_rfl) (by simp) ?_
         refine AllReadyH.cons (o := otc11_3) rfl (fun K hK => ?gs6) ?gr6
         case' gs6 =>
          delta otc11_3
          go_simp
          (refine (lsquare_any _ _ _ ⟨by omega, by omega⟩ ⟨by omega, by omega⟩).mono ?_; rintro e W3 ⟨rfl, hb⟩); have hbz : Below W2.heap.size W2 W3 := (by first | exact hb | exact Below.trans (Below.drew (Below.refl _ _)) hb); clear hb; have HB3 := Lib.hid (HB2.out.trans (hbz.mono HB2.out.size)); have Hb21_3 := Lib.hid (Hb21_2.out.below hbz Hb21_2.out.lt); clear hbz
          refine hK.out _ _ ?_ (fun hHeld => ?_)
          · (try dsimp only); (exact HS.out _ HB3.out)
          clear hK K
          try simp only [otc11_3, Act.put, List.setIfInBounds_toArray, List.set_cons_zero, List.set_cons_succ]
          refine wpAnyH_ready (rs := [5]) (by kernel_rfl) (by simp) ?_
          refine AllReadyH.cons (o := otc11_5) rfl (fun K hK => ?_) AllReadyH.nil
          delta otc11_5
          go_simp
          obtain ⟨W4, hV⟩ : ∃ V, W3.alloc (.cells #[.int .i64 0, .int .i64 0] 23) = V := ⟨_, rfl⟩; have hbz : Below W3.heap.size W3 W4 := (by rw [← hV]; exact (Below.refl _ _).alloc (Nat.le_refl _) _); have HB4 := Lib.hid (HB3.out.trans (hbz.mono HB3.out.size)); have Hb22_4 : Hid (Blk W4 W3.heap.size 23 #[.int .i64 0, .int .i64 0]) := (by rw [← hV]; exact Blk.new' _ _ _ rfl); obtain ⟨b22, hz⟩ : ∃ b, W3.heap.size = b := ⟨_, rfl⟩; rw [hz] at Hb22_4; have gb22 : W0.heap.size ≤ b22 := (by rw [← hz]; exact HB3.out.size); have Hb21_4 := Lib.hid (Hb21_3.out.below hbz Hb21_3.out.lt); have nb22b21 : ¬ b22 = b21 := (fun e => by have := Hb21_3.out.lt; omega); have nb21b22 : ¬ b21 = b22 := (fun e => nb22b21 e.symm); rw [hV, hz]; clear hV hbz hz
          refine hK.out _ _ ?_ (fun hHeld => ?_)
          · (try dsimp only); (exact HS.out _ HB4.out)
          clear hK K
          try simp only [otc11_5, Act.put, List.setIfInBounds_toArray, List.set_cons_zero, List.set_cons_succ]
         case' gr6 =>
          refine AllReadyH.cons (o := otc11_5) rfl (fun K hK => ?gs7) ?gr7
          case' gs7 =>
           delta otc11_5
           go_simp
           obtain ⟨W3, hV⟩ : ∃ V, W2.alloc (.cells #[.int .i64 0, .int .i64 0] 23) = V := ⟨_, rfl⟩; have hbz : Below W2.heap.size W2 W3 := (by rw [← hV]; exact (Below.refl _ _).alloc (Nat.le_refl _) _); have HB3 := Lib.hid (HB2.out.trans (hbz.mono HB2.out.size)); have Hb22_3 : Hid (Blk W3 W2.heap.size 23 #[.int .i64 0, .int .i64 0]) := (by rw [← hV]; exact Blk.new' _ _ _ rfl); obtain ⟨b22, hz⟩ : ∃ b, W2.heap.size = b := ⟨_, rfl⟩; rw [hz] at Hb22_3; have gb22 : W0.heap.size ≤ b22 := (by rw [← hz]; exact HB2.out.size); have Hb21_3 := Lib.hid (Hb21_2.out.below hbz Hb21_2.out.lt); have nb22b21 : ¬ b22 = b21 := (fun e => by have := Hb21_2.out.lt; omega); have nb21b22 : ¬ b21 = b22 := (fun e => nb22b21 e.symm); rw [hV, hz]; clear hV hbz hz
           refine hK.out _ _ ?_ (fun hHeld => ?_)
           · (try dsimp only); (exact HS.out _ HB3.out)
           clear hK K
           try simp only [otc11_5, Act.put, List.setIfInBounds_toArray, List.set_cons_zero, List.set_cons_succ]
           refine wpAnyH_ready (rs := [3]) (by kernel_rfl) (by simp) ?_
           refine AllReadyH.cons (o := otc11_3) rfl (fun K hK => ?_) AllReadyH.nil
           delta otc11_3
           go_simp
           (refine (lsquare_any _ _ _ ⟨by omega, by omega⟩ ⟨by omega, by omega⟩).mono ?_; rintro e W4 ⟨rfl, hb⟩); have hbz : Below W3.heap.size W3 W4 := (by first | exact hb | exact Below.trans (Below.drew (Below.refl _ _)) hb); clear hb; have HB4 := Lib.hid (HB3.out.trans (hbz.mono HB3.out.size)); have Hb21_4 := Lib.hid (Hb21_3.out.below hbz Hb21_3.out.lt); have Hb22_4 := Lib.hid (Hb22_3.out.below hbz Hb22_3.out.lt); clear hbz
           refine hK.out _ _ ?_ (fun hHeld => ?_)
           · (try dsimp only); (exact HS.out _ HB4.out)
           clear hK K
           try simp only [otc11_3, Act.put, List.setIfInBounds_toArray, List.set_cons_zero, List.set_cons_succ]
          case' gr7 =>
           exact AllReadyH.nil
        case' gr5 =>
         refine AllReadyH.cons (o := otc11_5) rfl (fun K hK => ?gs8) ?gr8
         case' gs8 =>
          delta otc11_5
          go_simp
          obtain ⟨W2, hV⟩ : ∃ V, W1.alloc (.cells #[.int .i64 0, .int .i64 0] 23) = V := ⟨_, rfl⟩; have hbz : Below W1.heap.size W1 W2 := (by rw [← hV]; exact (Below.refl _ _).alloc (Nat.le_refl _) _); have HB2 := Lib.hid (HB1.out.trans (hbz.mono HB1.out.size)); have Hb22_2 : Hid (Blk W2 W1.heap.size 23 #[.int .i64 0, .int .i64 0]) := (by rw [← hV]; exact Blk.new' _ _ _ rfl); obtain ⟨b22, hz⟩ : ∃ b, W1.heap.size = b := ⟨_, rfl⟩; rw [hz] at Hb22_2; have gb22 : W0.heap.size ≤ b22 := (by rw [← hz]; exact HB1.out.size); rw [hV, hz]; clear hV hbz hz
          refine hK.out _ _ ?_ (fun hHeld => ?_)
          · (try dsimp only); (exact HS.out _ HB2.out)
          clear hK K
          try simp only [otc11_5, Act.put, List.setIfInBounds_toArray, List.set_cons_zero, List.set_cons_succ]
          refine wpAnyH_ready (rs := [3, 4]) (by kernel_rfl) (by simp) ?_
          refine AllReadyH.cons (o := otc11_3) rfl (fun K hK => ?gs9) ?gr9
          case' gs9 =>
           delta otc11_3
           go_simp
           (refine (lsquare_any _ _ _ ⟨by omega, by omega⟩ ⟨by omega, by omega⟩).mono ?_; rintro e W3 ⟨rfl, hb⟩); have hbz : Below W2.heap.size W2 W3 := (by first | exact hb | exact Below.trans (Below.drew (Below.refl _ _)) hb); clear hb; have HB3 := Lib.hid (HB2.out.trans (hbz.mono HB2.out.size)); have Hb22_3 := Lib.hid (Hb22_2.out.below hbz Hb22_2.out.lt); clear hbz
           refine hK.out _ _ ?_ (fun hHeld => ?_)
           · (try dsimp only); (exact HS.out _ HB3.out)
           clear hK K
           try simp only [otc11_3, Act.put, List.setIfInBounds_toArray, List.set_cons_zero, List.set_cons_succ]
           refine wpAnyH_ready (rs := [4]) (by kernel_rfl) (by simp) ?_
           refine AllReadyH.cons (o := otc11_4) rfl (fun K hK => ?_) AllReadyH.nil
           delta otc11_4
           go_simp
           obtain ⟨W4, hV⟩ : ∃ V, W3.alloc (.cells #[.int .i64 0, .int .i64 0] 23) = V := ⟨_, rfl⟩; have hbz : Below W3.heap.size W3 W4 := (by rw [← hV]; exact (Below.refl _ _).alloc (Nat.le_refl _) _); have HB4 := Lib.hid (HB3.out.trans (hbz.mono HB3.out.size)); have Hb21_4 : Hid (Blk W4 W3.heap.size 23 #[.int .i64 0, .int .i64 0]) := (by rw [← hV]; exact Blk.new' _ _ _ rfl); obtain ⟨b21, hz⟩ : ∃ b, W3.heap.size = b := ⟨_, rfl⟩; rw [hz] at Hb21_4; have gb21 : W0.heap.size ≤ b21 := (by rw [← hz]; exact HB3.out.size); have Hb22_4 := Lib.hid (Hb22_3.out.below hbz Hb22_3.out.lt); have nb21b22 : ¬ b21 = b22 := (fun e => by have := Hb22_3.out.lt; omega); have nb22b21 : ¬ b22 = b21 := (fun e => nb21b22 e.symm); rw [hV, hz]; clear hV hbz hz
           refine hK.out _ _ ?_ (fun hHeld => ?_)
           · (try dsimp only); (exact HS.out _ HB4.out)
           clear hK K
           try simp only [otc11_4, Act.put, List.setIfInBounds_toArray, List.set_cons_zero, List.set_cons_succ]
          case' gr9 =>
           refine AllReadyH.cons (o := otc11_4) rfl (fun K hK => ?gs10) ?gr10
           case' gs10 =>
            delta otc11_4
            go_simp
            obtain ⟨W3, hV⟩ : ∃ V, W2.alloc (.cells #[.int .i64 0, .int .i64 0] 23) = V := ⟨_, rfl⟩; have hbz : Below W2.heap.size W2 W3 := (by rw [← hV]; exact (Below.refl _ _).alloc (Nat.le_refl _) _); have HB3 := Lib.hid (HB2.out.trans (hbz.mono HB2.out.size)); have Hb21_3 : Hid (Blk W3 W2.heap.size 23 #[.int .i64 0, .int .i64 0]) := (by rw [← hV]; exact Blk.new' _ _ _ rfl); obtain ⟨b21, hz⟩ : ∃ b, W2.heap.size = b := ⟨_, rfl⟩; rw [hz] at Hb21_3; have gb21 : W0.heap.size ≤ b21 := (by rw [← hz]; exact HB2.out.size); have Hb22_3 := Lib.hid (Hb22_2.out.below hbz Hb22_2.out.lt); have nb21b22 : ¬ b21 = b22 := (fun e => by have := Hb22_2.out.lt; omega); have nb22b21 : ¬ b22 = b21 := (fun e => nb21b22 e.symm); rw [hV, hz]; clear hV hbz hz
            refine hK.out _ _ ?_ (fun hHeld => ?_)
            · (try dsimp only); (exact HS.out _ HB3.out)
            clear hK K
            try simp only [otc11_4, Act.put, List.setIfInBounds_toArray, List.set_cons_zero, List.set_cons_succ]
            refine wpAnyH_ready (rs := [3]) (by kernel_rfl) (by simp) ?_
            refine AllReadyH.cons (o := otc11_3) rfl (fun K hK => ?_) AllReadyH.nil
            delta otc11_3
            go_simp
            (refine (lsquare_any _ _ _ ⟨by omega, by omega⟩ ⟨by omega, by omega⟩).mono ?_; rintro e W4 ⟨rfl, hb⟩); have hbz : Below W3.heap.size W3 W4 := (by first | exact hb | exact Below.trans (Below.drew (Below.refl _ _)) hb); clear hb; have HB4 := Lib.hid (HB3.out.trans (hbz.mono HB3.out.size)); have Hb22_4 := Lib.hid (Hb22_3.out.below hbz Hb22_3.out.lt); have Hb21_4 := Lib.hid (Hb21_3.out.below hbz Hb21_3.out.lt); clear hbz
            refine hK.out _ _ ?_ (fun hHeld => ?_)
            · (try dsimp only); (exact HS.out _ HB4.out)
            clear hK K
            try simp only [otc11_3, Act.put, List.setIfInBounds_toArray, List.set_cons_zero, List.set_cons_succ]
           case' gr10 =>
            exact AllReadyH.nil
         case' gr8 =>
          exact AllReadyH.nil
      case' gr1 =>
       refine AllReadyH.cons (o := otc11_4) rfl (fun K hK => ?gs11) ?gr11
       case' gs11 =>
        delta otc11_4
        go_simp
        obtain ⟨W1, hV⟩ : ∃ V, W0.alloc (.cells #[.int .i64 0, .int .i64 0] 23) = V := ⟨_, rfl⟩; have hbz : Below W0.heap.size W0 W1 := (by rw [← hV]; exact (Below.refl _ _).alloc (Nat.le_refl _) _); have HB1 := Lib.hid (HB0.out.trans (hbz.mono HB0.out.size)); have Hb21_1 : Hid (Blk W1 W0.heap.size 23 #[.int .i64 0, .int .i64 0]) := (by rw [← hV]; exact Blk.new' _ _ _ rfl); obtain ⟨b21, hz⟩ : ∃ b, W0.heap.size = b := ⟨_, rfl⟩; rw [hz] at Hb21_1; have gb21 : W0.heap.size ≤ b21 := (by rw [← hz]; exact HB0.out.size); rw [hV, hz]; clear hV hbz hz
        refine hK.out _ _ ?_ (fun hHeld => ?_)
        · (try dsimp only); (exact HS.out _ HB1.out)
        clear hK K
        try simp only [otc11_4, Act.put, List.setIfInBounds_toArray, List.set_cons_zero, List.set_cons_succ]
        refine wpAnyH_ready (rs := [1, 5]) (by kernel_rfl) (by simp) ?_
        refine AllReadyH.cons (o := otc11_1) rfl (fun K hK => ?gs12) ?gr12
        case' gs12 =>
         delta otc11_1
         go_simp
         (refine (lsquare_any _ _ _ ⟨by omega, by omega⟩ ⟨by omega, by omega⟩).mono ?_; rintro e W2 ⟨rfl, hb⟩); have hbz : Below W1.heap.size W1 W2 := (by first | exact hb | exact Below.trans (Below.drew (Below.refl _ _)) hb); clear hb; have HB2 := Lib.hid (HB1.out.trans (hbz.mono HB1.out.size)); have Hb21_2 := Lib.hid (Hb21_1.out.below hbz Hb21_1.out.lt); clear hbz
         refine hK.out _ _ ?_ (fun hHeld => ?_)
         · (try dsimp only); (exact HS.out _ HB2.out)
         clear hK K
         try simp only [otc11_1, Act.put, List.setIfInBounds_toArray, List.set_cons_zero, List.set_cons_succ]
         refine wpAnyH_ready (rs := [3, 5]) (by kernel_rfl) (by simp) ?_
         refine AllReadyH.cons (o := otc11_3) rfl (fun K hK => ?gs13) ?gr13
         case' gs13 =>
          delta otc11_3
          go_simp
          (refine (lsquare_any _ _ _ ⟨by omega, by omega⟩ ⟨by omega, by omega⟩).mono ?_; rintro e W3 ⟨rfl, hb⟩); have hbz : Below W2.heap.size W2 W3 := (by first | exact hb | exact Below.trans (Below.drew (Below.refl _ _)) hb); clear hb; have HB3 := Lib.hid (HB2.out.trans (hbz.mono HB2.out.size)); have Hb21_3 := Lib.hid (Hb21_2.out.below hbz Hb21_2.out.lt); clear hbz
          refine hK.out _ _ ?_ (fun hHeld => ?_)
          · (try dsimp only); (exact HS.out _ HB3.out)
          clear hK K
          try simp only [otc11_3, Act.put, List.setIfInBounds_toArray, List.set_cons_zero, List.set_cons_succ]
          refine wpAnyH_ready (rs := [5]) (by kernel_rfl) (by simp) ?_
          refine AllReadyH.cons (o := otc11_5) rfl (fun K hK => ?_) AllReadyH.nil
          delta otc11_5
          go_simp
          obtain ⟨W4, hV⟩ : ∃ V, W3.alloc (.cells #[.int .i64 0, .int .i64 0] 23) = V := ⟨_, rfl⟩; have hbz : Below W3.heap.size W3 W4 := (by rw [← hV]; exact (Below.refl _ _).alloc (Nat.le_refl _) _); have HB4 := Lib.hid (HB3.out.trans (hbz.mono HB3.out.size)); have Hb22_4 : Hid (Blk W4 W3.heap.size 23 #[.int .i64 0, .int .i64 0]) := (by rw [← hV]; exact Blk.new' _ _ _ rfl); obtain ⟨b22, hz⟩ : ∃ b, W3.heap.size = b := ⟨_, rfl⟩; rw [hz] at Hb22_4; have gb22 : W0.heap.size ≤ b22 := (by rw [← hz]; exact HB3.out.size); have Hb21_4 := Lib.hid (Hb21_3.out.below hbz Hb21_3.out.lt); have nb22b21 : ¬ b22 = b21 := (fun e => by have := Hb21_3.out.lt; omega); have nb21b22 : ¬ b21 = b22 := (fun e => nb22b21 e.symm); rw [hV, hz]; clear hV hbz hz
          refine hK.out _ _ ?_ (fun hHeld => ?_)
          · (try dsimp only); (exact HS.out _ HB4.out)
          clear hK K
          try simp only [otc11_5, Act.put, List.setIfInBounds_toArray, List.set_cons_zero, List.set_cons_succ]
         case' gr13 =>
          refine AllReadyH.cons (o := otc11_5) rfl (fun K hK => ?gs14) ?gr14
          case' gs14 =>
           delta otc11_5
           go_simp
           obtain ⟨W3, hV⟩ : ∃ V, W2.alloc (.cells #[.int .i64 0, .int .i64 0] 23) = V := ⟨_, rfl⟩; have hbz : Below W2.heap.size W2 W3 := (by rw [← hV]; exact (Below.refl _ _).alloc (Nat.le_refl _) _); have HB3 := Lib.hid (HB2.out.trans (hbz.mono HB2.out.size)); have Hb22_3 : Hid (Blk W3 W2.heap.size 23 #[.int .i64 0, .int .i64 0]) := (by rw [← hV]; exact Blk.new' _ _ _ rfl); obtain ⟨b22, hz⟩ : ∃ b, W2.heap.size = b := ⟨_, rfl⟩; rw [hz] at Hb22_3; have gb22 : W0.heap.size ≤ b22 := (by rw [← hz]; exact HB2.out.size); have Hb21_3 := Lib.hid (Hb21_2.out.below hbz Hb21_2.out.lt); have nb22b21 : ¬ b22 = b21 := (fun e => by have := Hb21_2.out.lt; omega); have nb21b22 : ¬ b21 = b22 := (fun e => nb22b21 e.symm); rw [hV, hz]; clear hV hbz hz
           refine hK.out _ _ ?_ (fun hHeld => ?_)
           · (try dsimp only); (exact HS.out _ HB3.out)
           clear hK K
           try simp only [otc11_5, Act.put, List.setIfInBounds_toArray, List.set_cons_zero, List.set_cons_succ]
           refine wpAnyH_ready (rs := [3]) (by kernel_rfl) (by simp) ?_
           refine AllReadyH.cons (o := otc11_3) rfl (fun K hK => ?_) AllReadyH.nil
           delta otc11_3
           go_simp
           (refine (lsquare_any _ _ _ ⟨by omega, by omega⟩ ⟨by omega, by omega⟩).mono ?_; rintro e W4 ⟨rfl, hb⟩); have hbz : Below W3.heap.size W3 W4 := (by first | exact hb | exact Below.trans (Below.drew (Below.refl _ _)) hb); clear hb; have HB4 := Lib.hid (HB3.out.trans (hbz.mono HB3.out.size)); have Hb21_4 := Lib.hid (Hb21_3.out.below hbz Hb21_3.out.lt); have Hb22_4 := Lib.hid (Hb22_3.out.below hbz Hb22_3.out.lt); clear hbz
           refine hK.out _ _ ?_ (fun hHeld => ?_)
           · (try dsimp only); (exact HS.out _ HB4.out)
           clear hK K
           try simp only [otc11_3, Act.put, List.setIfInBounds_toArray, List.set_cons_zero, List.set_cons_succ]
          case' gr14 =>
           exact AllReadyH.nil
        case' gr12 =>
         refine AllReadyH.cons (o := otc11_5) rfl (fun K hK => ?gs15) ?gr15
         case' gs15 =>
          delta otc11_5
          go_simp
          obtain ⟨W2, hV⟩ : ∃ V, W1.alloc (.cells #[.int .i64 0, .int .i64 0] 23) = V := ⟨_, rfl⟩; have hbz : Below W1.heap.size W1 W2 := (by rw [← hV]; exact (Below.refl _ _).alloc (Nat.le_refl _) _); have HB2 := Lib.hid (HB1.out.trans (hbz.mono HB1.out.size)); have Hb22_2 : Hid (Blk W2 W1.heap.size 23 #[.int .i64 0, .int .i64 0]) := (by rw [← hV]; exact Blk.new' _ _ _ rfl); obtain ⟨b22, hz⟩ : ∃ b, W1.heap.size = b := ⟨_, rfl⟩; rw [hz] at Hb22_2; have gb22 : W0.heap.size ≤ b22 := (by rw [← hz]; exact HB1.out.size); have Hb21_2 := Lib.hid (Hb21_1.out.below hbz Hb21_1.out.lt); have nb22b21 : ¬ b22 = b21 := (fun e => by have := Hb21_1.out.lt; omega); have nb21b22 : ¬ b21 = b22 := (fun e => nb22b21 e.symm); rw [hV, hz]; clear hV hbz hz
          refine hK.out _ _ ?_ (fun hHeld => ?_)
          · (try dsimp only); (exact HS.out _ HB2.out)
          clear hK K
          try simp only [otc11_5, Act.put, List.setIfInBounds_toArray, List.set_cons_zero, List.set_cons_succ]
          refine wpAnyH_ready (rs := [1]) (by kernel_rfl) (by simp) ?_
          refine AllReadyH.cons (o := otc11_1) rfl (fun K hK => ?_) AllReadyH.nil
          delta otc11_1
          go_simp
          (refine (lsquare_any _ _ _ ⟨by omega, by omega⟩ ⟨by omega, by omega⟩).mono ?_; rintro e W3 ⟨rfl, hb⟩); have hbz : Below W2.heap.size W2 W3 := (by first | exact hb | exact Below.trans (Below.drew (Below.refl _ _)) hb); clear hb; have HB3 := Lib.hid (HB2.out.trans (hbz.mono HB2.out.size)); have Hb21_3 := Lib.hid (Hb21_2.out.below hbz Hb21_2.out.lt); have Hb22_3 := Lib.hid (Hb22_2.out.below hbz Hb22_2.out.lt); clear hbz
          refine hK.out _ _ ?_ (fun hHeld => ?_)
          · (try dsimp only); (exact HS.out _ HB3.out)
          clear hK K
          try simp only [otc11_1, Act.put, List.setIfInBounds_toArray, List.set_cons_zero, List.set_cons_succ]
          refine wpAnyH_ready (rs := [3]) (by kernel_rfl) (by simp) ?_
          refine AllReadyH.cons (o := otc11_3) rfl (fun K hK => ?_) AllReadyH.nil
          delta otc11_3
          go_simp
          (refine (lsquare_any _ _ _ ⟨by omega, by omega⟩ ⟨by omega, by omega⟩).mono ?_; rintro e W4 ⟨rfl, hb⟩); have hbz : Below W3.heap.size W3 W4 := (by first | exact hb | exact Below.trans (Below.drew (Below.refl _ _)) hb); clear hb; have HB4 := Lib.hid (HB3.out.trans (hbz.mono HB3.out.size)); have Hb21_4 := Lib.hid (Hb21_3.out.below hbz Hb21_3.out.lt); have Hb22_4 := Lib.hid (Hb22_3.out.below hbz Hb22_3.out.lt); clear hbz
          refine hK.out _ _ ?_ (fun hHeld => ?_)
          · (try dsimp only); (exact HS.out _ HB4.out)
          clear hK K
          try simp only [otc11_3, Act.put, List.setIfInBounds_toArray, List.set_cons_zero, List.set_cons_succ]
         case' gr15 =>
          exact AllReadyH.nil
       case' gr11 =>
        refine AllReadyH.cons (o := otc11_5) rfl (fun K hK => ?gs16) ?gr16
        case' gs16 =>
         delta otc11_5
         go_simp
         obtain ⟨W1, hV⟩ : ∃ V, W0.alloc (.cells #[.int .i64 0, .int .i64 0] 23) = V := ⟨_, rfl⟩; have hbz : Below W0.heap.size W0 W1 := (by rw [← hV]; exact (Below.refl _ _).alloc (Nat.le_refl _) _); have HB1 := Lib.hid (HB0.out.trans (hbz.mono HB0.out.size)); have Hb22_1 : Hid (Blk W1 W0.heap.size 23 #[.int .i64 0, .int .i64 0]) := (by rw [← hV]; exact Blk.new' _ _ _ rfl); obtain ⟨b22, hz⟩ : ∃ b, W0.heap.size = b := ⟨_, rfl⟩; rw [hz] at Hb22_1; have gb22 : W0.heap.size ≤ b22 := (by rw [← hz]; exact HB0.out.size); rw [hV, hz]; clear hV hbz hz
         refine hK.out _ _ ?_ (fun hHeld => ?_)
         · (try dsimp only); (exact HS.out _ HB1.out)
         clear hK K
         try simp only [otc11_5, Act.put, List.setIfInBounds_toArray, List.set_cons_zero, List.set_cons_succ]
         refine wpAnyH_ready (rs := [1, 4]) (by kernel_rfl) (by simp) ?_
         refine AllReadyH.cons (o := otc11_1) rfl (fun K hK => ?gs17) ?gr17
         case' gs17 =>
          delta otc11_1
          go_simp
          (refine (lsquare_any _ _ _ ⟨by omega, by omega⟩ ⟨by omega, by omega⟩).mono ?_; rintro e W2 ⟨rfl, hb⟩); have hbz : Below W1.heap.size W1 W2 := (by first | exact hb | exact Below.trans (Below.drew (Below.refl _ _)) hb); clear hb; have HB2 := Lib.hid (HB1.out.trans (hbz.mono HB1.out.size)); have Hb22_2 := Lib.hid (Hb22_1.out.below hbz Hb22_1.out.lt); clear hbz
          refine hK.out _ _ ?_ (fun hHeld => ?_)
          · (try dsimp only); (exact HS.out _ HB2.out)
          clear hK K
          try simp only [otc11_1, Act.put, List.setIfInBounds_toArray, List.set_cons_zero, List.set_cons_succ]
          refine wpAnyH_ready (rs := [3, 4]) (by kernel_rfl) (by simp) ?_
          refine AllReadyH.cons (o := otc11_3) rfl (fun K hK => ?gs18) ?gr18
          case' gs18 =>
           delta otc11_3
           go_simp
           (refine (lsquare_any _ _ _ ⟨by omega, by omega⟩ ⟨by omega, by omega⟩).mono ?_; rintro e W3 ⟨rfl, hb⟩); have hbz : Below W2.heap.size W2 W3 := (by first | exact hb | exact Below.trans (Below.drew (Below.refl _ _)) hb); clear hb; have HB3 := Lib.hid (HB2.out.trans (hbz.mono HB2.out.size)); have Hb22_3 := Lib.hid (Hb22_2.out.below hbz Hb22_2.out.lt); clear hbz
           refine hK.out _ _ ?_ (fun hHeld => ?_)
           · (try dsimp only); (exact HS.out _ HB3.out)
           clear hK K
           try simp only [otc11_3, Act.put, List.setIfInBounds_toArray, List.set_cons_zero, List.set_cons_succ]
           refine wpAnyH_ready (rs := [4]) (by kernel_rfl) (by simp) ?_
           refine AllReadyH.cons (o := otc11_4) rfl (fun K hK => ?_) AllReadyH.nil
           delta otc11_4
           go_simp
           obtain ⟨W4, hV⟩ : ∃ V, W3.alloc (.cells #[.int .i64 0, .int .i64 0] 23) = V := ⟨_, rfl⟩; have hbz : Below W3.heap.size W3 W4 := (by rw [← hV]; exact (Below.refl _ _).alloc (Nat.le_refl _) _); have HB4 := Lib.hid (HB3.out.trans (hbz.mono HB3.out.size)); have Hb21_4 : Hid (Blk W4 W3.heap.size 23 #[.int .i64 0, .int .i64 0]) := (by rw [← hV]; exact Blk.new' _ _ _ rfl); obtain ⟨b21, hz⟩ : ∃ b, W3.heap.size = b := ⟨_, rfl⟩; rw [hz] at Hb21_4; have gb21 : W0.heap.size ≤ b21 := (by rw [← hz]; exact HB3.out.size); have Hb22_4 := Lib.hid (Hb22_3.out.below hbz Hb22_3.out.lt); have nb21b22 : ¬ b21 = b22 := (fun e => by have := Hb22_3.out.lt; omega); have nb22b21 : ¬ b22 = b21 := (fun e => nb21b22 e.symm); rw [hV, hz]; clear hV hbz hz
           refine hK.out _ _ ?_ (fun hHeld => ?_)
           · (try dsimp only); (exact HS.out _ HB4.out)
           clear hK K
           try simp only [otc11_4, Act.put, List.setIfInBounds_toArray, List.set_cons_zero, List.set_cons_succ]
          case' gr18 =>
           refine AllReadyH.cons (o := otc11_4) rfl (fun K hK => ?gs19) ?gr19
           case' gs19 =>
            delta otc11_4
            go_simp
            obtain ⟨W3, hV⟩ : ∃ V, W2.alloc (.cells #[.int .i64 0, .int .i64 0] 23) = V := ⟨_, rfl⟩; have hbz : Below W2.heap.size W2 W3 := (by rw [← hV]; exact (Below.refl _ _).alloc (Nat.le_refl _) _); have HB3 := Lib.hid (HB2.out.trans (hbz.mono HB2.out.size)); have Hb21_3 : Hid (Blk W3 W2.heap.size 23 #[.int .i64 0, .int .i64 0]) := (by rw [← hV]; exact Blk.new' _ _ _ rfl); obtain ⟨b21, hz⟩ : ∃ b, W2.heap.size = b := ⟨_, rfl⟩; rw [hz] at Hb21_3; have gb21 : W0.heap.size ≤ b21 := (by rw [← hz]; exact HB2.out.size); have Hb22_3 := Lib.hid (Hb22_2.out.below hbz Hb22_2.out.lt); have nb21b22 : ¬ b21 = b22 := (fun e => by have := Hb22_2.out.lt; omega); have nb22b21 : ¬ b22 = b21 := (fun e => nb21b22 e.symm); rw [hV, hz]; clear hV hbz hz
            refine hK.out _ _ ?_ (fun hHeld => ?_)
            · (try dsimp only); (exact HS.out _ HB3.out)
            clear hK K
            try simp only [otc11_4, Act.put, List.setIfInBounds_toArray, List.set_cons_zero, List.set_cons_succ]
            refine wpAnyH_ready (rs := [3]) (by kernel_rfl) (by simp) ?_
            refine AllReadyH.cons (o := otc11_3) rfl (fun K hK => ?_) AllReadyH.nil
            delta otc11_3
            go_simp
            (refine (lsquare_any _ _ _ ⟨by omega, by omega⟩ ⟨by omega, by omega⟩).mono ?_; rintro e W4 ⟨rfl, hb⟩); have hbz : Below W3.heap.size W3 W4 := (by first | exact hb | exact Below.trans (Below.drew (Below.refl _ _)) hb); clear hb; have HB4 := Lib.hid (HB3.out.trans (hbz.mono HB3.out.size)); have Hb22_4 := Lib.hid (Hb22_3.out.below hbz Hb22_3.out.lt); have Hb21_4 := Lib.hid (Hb21_3.out.below hbz Hb21_3.out.lt); clear hbz
            refine hK.out _ _ ?_ (fun hHeld => ?_)
            · (try dsimp only); (exact HS.out _ HB4.out)
            clear hK K
            try simp only [otc11_3, Act.put, List.setIfInBounds_toArray, List.set_cons_zero, List.set_cons_succ]
           case' gr19 =>
            exact AllReadyH.nil
         case' gr17 =>
          refine AllReadyH.cons (o := otc11_4) rfl (fun K hK => ?gs20) ?gr20
          case' gs20 =>
           delta otc11_4
           go_simp
           obtain ⟨W2, hV⟩ : ∃ V, W1.alloc (.cells #[.int .i64 0, .int .i64 0] 23) = V := ⟨_, rfl⟩; have hbz : Below W1.heap.size W1 W2 := (by rw [← hV]; exact (Below.refl _ _).alloc (Nat.le_refl _) _); have HB2 := Lib.hid (HB1.out.trans (hbz.mono HB1.out.size)); have Hb21_2 : Hid (Blk W2 W1.heap.size 23 #[.int .i64 0, .int .i64 0]) := (by rw [← hV]; exact Blk.new' _ _ _ rfl); obtain ⟨b21, hz⟩ : ∃ b, W1.heap.size = b := ⟨_, rfl⟩; rw [hz] at Hb21_2; have gb21 : W0.heap.size ≤ b21 := (by rw [← hz]; exact HB1.out.size); have Hb22_2 := Lib.hid (Hb22_1.out.below hbz Hb22_1.out.lt); have nb21b22 : ¬ b21 = b22 := (fun e => by have := Hb22_1.out.lt; omega); have nb22b21 : ¬ b22 = b21 := (fun e => nb21b22 e.symm); rw [hV, hz]; clear hV hbz hz
           refine hK.out _ _ ?_ (fun hHeld => ?_)
           · (try dsimp only); (exact HS.out _ HB2.out)
           clear hK K
           try simp only [otc11_4, Act.put, List.setIfInBounds_toArray, List.set_cons_zero, List.set_cons_succ]
           refine wpAnyH_ready (rs := [1]) (by kernel_rfl) (by simp) ?_
           refine AllReadyH.cons (o := otc11_1) rfl (fun K hK => ?_) AllReadyH.nil
           delta otc11_1
           go_simp
           (refine (lsquare_any _ _ _ ⟨by omega, by omega⟩ ⟨by omega, by omega⟩).mono ?_; rintro e W3 ⟨rfl, hb⟩); have hbz : Below W2.heap.size W2 W3 := (by first | exact hb | exact Below.trans (Below.drew (Below.refl _ _)) hb); clear hb; have HB3 := Lib.hid (HB2.out.trans (hbz.mono HB2.out.size)); have Hb22_3 := Lib.hid (Hb22_2.out.below hbz Hb22_2.out.lt); have Hb21_3 := Lib.hid (Hb21_2.out.below hbz Hb21_2.out.lt); clear hbz
           refine hK.out _ _ ?_ (fun hHeld => ?_)
           · (try dsimp only); (exact HS.out _ HB3.out)
           clear hK K
           try simp only [otc11_1, Act.put, List.setIfInBounds_toArray, List.set_cons_zero, List.set_cons_succ]
           refine wpAnyH_ready (rs := [3]) (by kernel_rfl) (by simp) ?_
           refine AllReadyH.cons (o := otc11_3) rfl (fun K hK => ?_) AllReadyH.nil
           delta otc11_3
           go_simp
           (refine (lsquare_any _ _ _ ⟨by omega, by omega⟩ ⟨by omega, by omega⟩).mono ?_; rintro e W4 ⟨rfl, hb⟩); have hbz : Below W3.heap.size W3 W4 := (by first | exact hb | exact Below.trans (Below.drew (Below.refl _ _)) hb); clear hb; have HB4 := Lib.hid (HB3.out.trans (hbz.mono HB3.out.size)); have Hb22_4 := Lib.hid (Hb22_3.out.below hbz Hb22_3.out.lt); have Hb21_4 := Lib.hid (Hb21_3.out.below hbz Hb21_3.out.lt); clear hbz
           refine hK.out _ _ ?_ (fun hHeld => ?_)
           · (try dsimp only); (exact HS.out _ HB4.out)
           clear hK K
           try simp only [otc11_3, Act.put, List.setIfInBounds_toArray, List.set_cons_zero, List.set_cons_succ]
          case' gr20 =>
           exact AllReadyH.nil
        case' gr16 =>
         exact AllReadyH.nil
      all_goals
       as_aux_lemma =>
        have y0 := Hb21_4.out.cell 0; have y1 := Hb21_4.out.cell 1; have z0 := Hb21_4.out.frozen 0; have z1 := Hb21_4.out.frozen 1; have y2 := Hb22_4.out.cell 0; have y3 := Hb22_4.out.cell 1; have z2 := Hb22_4.out.frozen 0; have z3 := Hb22_4.out.frozen 1; simp only [List.getElem?_toArray, List.getElem?_cons_zero, List.getElem?_cons_succ] at y0 y1 y2 y3
        refine wpAnyH_ready (rs := [6]) (by kernel_rfl) (by simp) ?_
        refine AllReadyH.cons (o := otc11_6) rfl (fun K hK => ?_) AllReadyH.nil
        delta otc11_6
        go_simp
        refine hK.out _ _ ?_ (fun hHeld => ?_)
        · (try dsimp only); (refine HS.out _ ?_; (repeat (first | exact HB4.out | refine Below.setCell ?_ (by first | exact gb21 | exact gb22) _)); done)
        clear hK K
        try simp only [otc11_6, Act.put, List.setIfInBounds_toArray, List.set_cons_zero, List.set_cons_succ]
        refine wpAnyH_ready (rs := [7]) (by kernel_rfl) (by simp) ?_
        refine AllReadyH.cons (o := otc11_7) rfl (fun K hK => ?_) AllReadyH.nil
        delta otc11_7
        go_simp
        refine hK.out _ _ ?_ (fun hHeld => ?_)
        · (try dsimp only); (refine HS.out _ ?_; (repeat (first | exact HB4.out | refine Below.setCell ?_ (by first | exact gb21 | exact gb22) _)); done)
        clear hK K
        try simp only [otc11_7, Act.put, List.setIfInBounds_toArray, List.set_cons_zero, List.set_cons_succ]
        refine wpAnyH_done (by kernel_rfl) ?_ _
        refine NoPanic.normal ?_
        go_wp2_with fail
        go_meet
        exact (twoBox_set Hb21_4.out Hb22_4.out nb21b22 gb21 gb22 HB4.out).of HBV.out
    case rest =>
      obtain ⟨b21, b22, rfl, rfl, k21, k22, hne, g21, g22, hb11⟩ := hcut
      have HK21 := Lib.hid k21
      have HK22 := Lib.hid k22
      have HQ : Hid ((squareZ (c1, c2)).1 + (squareZ (s1, s2)).1 ≤ 4294967296 ∧ 4294967296 ≤ (squareZ (c1, c2)).2 + (squareZ (s1, s2)).2) := by have h := HSQ.out; rw [HFX.out.1, HFX.out.2.1] at h; exact h
      have HR : Hid ((0 ≤ (squareZ (c1, c2)).1 ∧ (squareZ (c1, c2)).1 ≤ 4294967296 ∧ 0 ≤ (squareZ (c1, c2)).2 ∧ (squareZ (c1, c2)).2 ≤ 4294967296) ∧ 0 ≤ (squareZ (s1, s2)).1 ∧ (squareZ (s1, s2)).1 ≤ 4294967296 ∧ 0 ≤ (squareZ (s1, s2)).2 ∧ (squareZ (s1, s2)).2 ≤ 4294967296) := by have h := HSR.out; rw [HFX.out.1, HFX.out.2.1] at h; exact h
      obtain ⟨⟨q1, q2⟩, hq⟩ : ∃ q, squareZ (c1, c2) = q := ⟨_, rfl⟩
      obtain ⟨⟨r1, r2⟩, hr⟩ : ∃ q, squareZ (s1, s2) = q := ⟨_, rfl⟩
      rw [hq] at HK21
      rw [hr] at HK22
      rw [hq, hr] at HQ HR
      simp only at HK21 HK22
      obtain ⟨qa, qb⟩ := HQ.out
      obtain ⟨⟨ra, rb, rc, rd⟩, re, rf, rg, rh⟩ := HR.out
      simp only at qa qb ra rb rc rd re rf rg rh
      clear hq hr k21 k22 hne g21 g22
      obtain ⟨V22, rfl⟩ : ∃ V, V = wc := ⟨_, rfl⟩
      have HB19nn : Hid (∀ W, Below V22.heap.size V22 W → Blk W b7 23 #[.int .i64 c1, .int .i64 c2] ∧ Blk W b9 23 #[.int .i64 s1, .int .i64 s2] ∧ Blk W b11 23 #[.int .i64 d1, .int .i64 d2] ∧ Blk W b13 23 #[.int .i64 t1, .int .i64 t2] ∧ Blk W b15 23 #[.int .i64 c1, .int .i64 c2] ∧ Blk W b17 23 #[.int .i64 c1, .int .i64 c2] ∧ Blk W b19 23 #[.int .i64 (-c2), .int .i64 (-c1)]) := fun W hW => HB19n.out W (hb11.trans (hW.mono hb11.size))
      have HA19nn := Lib.hid (HA19n.out.trans (hb11.mono HA19n.out.size))
      clear HB19n HA19n HSV hb11
      obtain ⟨e0, e1, -, -⟩ := span_parts HK21.out
      obtain ⟨f0, f1, -, -⟩ := span_parts HK22.out
      go_wp2_with fail
      refine (lcos_any (x + y) _ ⟨by omega, by omega⟩).mono ?_
      rintro e wz ⟨rfl, hb⟩
      rw [HZ.out.1, HZ.out.2]
      clear e0 e1 f0 f1 HK21 HK22 qa qb ra rb rc rd re rf rg rh
      go_upto_region 15 with (fail)
      obtain ⟨V23, hV⟩ : ∃ V, wz.alloc (.cells #[.int .i64 z1, .int .i64 z2] 23) = V := ⟨_, rfl⟩
      have hz : Below wz.heap.size wz V23 := by rw [← hV]; exact (Below.refl _ _).alloc (Nat.le_refl _) _
      have hk : Blk V23 wz.heap.size 23 #[.int .i64 z1, .int .i64 z2] := by rw [← hV]; exact Blk.new' _ _ _ rfl
      have hs : Below V22.heap.size V22 V23 := hb.trans (hz.mono hb.size)
      rw [hV]
      obtain ⟨b23, hbb⟩ : ∃ b, wz.heap.size = b := ⟨_, rfl⟩
      rw [hbb] at hk ⊢
      have HK23 := Lib.hid hk
      have HX : Hid (∀ W, Below V23.heap.size V23 W → Blk W b7 23 #[.int .i64 c1, .int .i64 c2] ∧ Blk W b9 23 #[.int .i64 s1, .int .i64 s2] ∧ Blk W b11 23 #[.int .i64 d1, .int .i64 d2] ∧ Blk W b13 23 #[.int .i64 t1, .int .i64 t2] ∧ Blk W b15 23 #[.int .i64 c1, .int .i64 c2] ∧ Blk W b17 23 #[.int .i64 c1, .int .i64 c2] ∧ Blk W b19 23 #[.int .i64 (-c2), .int .i64 (-c1)]) := fun W hW => HB19nn.out W (hs.trans (hW.mono hs.size))
      have HXA := Lib.hid (HA19nn.out.trans (hs.mono HA19nn.out.size))
      clear hb hV hz hk hs hbb HB19nn HA19nn
      have HSV : Hid (∀ W, Below V23.heap.size V23 W → W.cell? ⟨b7, 0, none⟩ = some (.int .i64 c1) ∧ W.cell? ⟨b7, 1, none⟩ = some (.int .i64 c2) ∧ W.cell? ⟨b9, 0, none⟩ = some (.int .i64 s1) ∧ W.cell? ⟨b9, 1, none⟩ = some (.int .i64 s2) ∧ W.cell? ⟨b11, 0, none⟩ = some (.int .i64 d1) ∧ W.cell? ⟨b11, 1, none⟩ = some (.int .i64 d2) ∧ W.cell? ⟨b13, 0, none⟩ = some (.int .i64 t1) ∧ W.cell? ⟨b13, 1, none⟩ = some (.int .i64 t2)) := fun W hW => by
        obtain ⟨k7, k9, k11, k13, k15, k17, k19⟩ := HX.out W hW
        exact ⟨k7.cell 0, k7.cell 1, k9.cell 0, k9.cell 1, k11.cell 0, k11.cell 1, k13.cell 0, k13.cell 1⟩
      go_upto_region 15 with (fail)
      go_cut [25, 26] from 145 to 151 (fun p q wx => TwoBox V23 23 (prodZ (c1, c2) (d1, d2)) (prodZ (s1, s2) (t1, t2)) p q wx)
      case first =>
        have k0 := HSV.out _ (Below.drew (Below.refl V23.heap.size V23))
        refine wp_region_noPanic ?_
        refine wp_region_held_drew (S := (fun w' => w'.cell? ⟨b7, 0, none⟩ = some (.int .i64 c1) ∧ w'.cell? ⟨b7, 1, none⟩ = some (.int .i64 c2) ∧ w'.cell? ⟨b9, 0, none⟩ = some (.int .i64 s1) ∧ w'.cell? ⟨b9, 1, none⟩ = some (.int .i64 s2) ∧ w'.cell? ⟨b11, 0, none⟩ = some (.int .i64 d1) ∧ w'.cell? ⟨b11, 1, none⟩ = some (.int .i64 d2) ∧ w'.cell? ⟨b13, 0, none⟩ = some (.int .i64 t1) ∧ w'.cell? ⟨b13, 1, none⟩ = some (.int .i64 t2))) (by kernel_rfl) ?_ (fun hHeld => ?_)
        · (try dsimp only); (exact k0)
        refine wpAnyH_take (i := 0) (oi := otc15_0) (v := ?_) rfl (by kernel_rfl) (by kernel_rfl) (by kernel_rfl) (fun _ _ _ h => h) (Or.inl ⟨by rfl, ?_⟩) (by assumption) ?_
        rotate_left
        · ((intro w hSw; delta otc15_0; (try dsimp only at hSw); go_simp) <;> with_reducible rfl)
        try simp only [otc15_0, Act.put, List.setIfInBounds_toArray, List.set_cons_zero, List.set_cons_succ]
        refine wpAnyH_take (i := 1) (oi := otc15_1) (v := ?_) rfl (by kernel_rfl) (by kernel_rfl) (by kernel_rfl) (fun _ _ _ h => h) (Or.inl ⟨by rfl, ?_⟩) (by assumption) ?_
        rotate_left
        · ((intro w hSw; delta otc15_1; (try dsimp only at hSw); go_simp) <;> with_reducible rfl)
        try simp only [otc15_1, Act.put, List.setIfInBounds_toArray, List.set_cons_zero, List.set_cons_succ]
        refine wpAnyH_take (i := 3) (oi := otc15_3) (v := ?_) rfl (by kernel_rfl) (by kernel_rfl) (by kernel_rfl) (fun _ _ _ h => h) (Or.inl ⟨by rfl, ?_⟩) (by assumption) ?_
        rotate_left
        · ((intro w hSw; delta otc15_3; (try dsimp only at hSw); go_simp) <;> with_reducible rfl)
        try simp only [otc15_3, Act.put, List.setIfInBounds_toArray, List.set_cons_zero, List.set_cons_succ]
        refine wpAnyH_take (i := 4) (oi := otc15_4) (v := ?_) rfl (by kernel_rfl) (by kernel_rfl) (by kernel_rfl) (fun _ _ _ h => h) (Or.inl ⟨by rfl, ?_⟩) (by assumption) ?_
        rotate_left
        · ((intro w hSw; delta otc15_4; (try dsimp only at hSw); go_simp) <;> with_reducible rfl)
        try simp only [otc15_4, Act.put, List.setIfInBounds_toArray, List.set_cons_zero, List.set_cons_succ]
        obtain ⟨W0, hW0⟩ : ∃ V, V23.drew = V := ⟨_, rfl⟩; rw [hW0] at hHeld ⊢; have HBV : Hid (Below V23.heap.size V23 W0) := (by rw [← hW0]; exact Below.drew (Below.refl _ _)); have HS : Hid (∀ W, Below W0.heap.size W0 W → W.cell? ⟨b7, 0, none⟩ = some (.int .i64 c1) ∧ W.cell? ⟨b7, 1, none⟩ = some (.int .i64 c2) ∧ W.cell? ⟨b9, 0, none⟩ = some (.int .i64 s1) ∧ W.cell? ⟨b9, 1, none⟩ = some (.int .i64 s2) ∧ W.cell? ⟨b11, 0, none⟩ = some (.int .i64 d1) ∧ W.cell? ⟨b11, 1, none⟩ = some (.int .i64 d2) ∧ W.cell? ⟨b13, 0, none⟩ = some (.int .i64 t1) ∧ W.cell? ⟨b13, 1, none⟩ = some (.int .i64 t2)) := (fun W hW => HSV.out W (HBV.out.trans (hW.mono HBV.out.size))); have HB0 := Lib.hid (Below.refl W0.heap.size W0); clear hW0
        refine wpAnyH_ready (rs := [2, 6, 7]) (by kernel_rfl) (by simp) ?_
        refine AllReadyH.cons (o := otc15_2) rfl (fun K hK => ?gs21) ?gr21
        case' gs21 =>
         delta otc15_2
         go_simp
         (refine (lproduct_any _ _ _ _ _ ⟨by omega, by omega⟩ ⟨by omega, by omega⟩ ⟨by omega, by omega⟩ ⟨by omega, by omega⟩).mono ?_; rintro e W1 ⟨rfl, hb⟩); have hbz : Below W0.heap.size W0 W1 := (by first | exact hb | exact Below.trans (Below.drew (Below.refl _ _)) hb); clear hb; have HB1 := Lib.hid (HB0.out.trans (hbz.mono HB0.out.size)); clear hbz
         refine hK.out _ _ ?_ (fun hHeld => ?_)
         · (try dsimp only); (exact HS.out _ HB1.out)
         clear hK K
         try simp only [otc15_2, Act.put, List.setIfInBounds_toArray, List.set_cons_zero, List.set_cons_succ]
         refine wpAnyH_ready (rs := [5, 6, 7]) (by kernel_rfl) (by simp) ?_
         refine AllReadyH.cons (o := otc15_5) rfl (fun K hK => ?gs22) ?gr22
         case' gs22 =>
          delta otc15_5
          go_simp
          (refine (lproduct_any _ _ _ _ _ ⟨by omega, by omega⟩ ⟨by omega, by omega⟩ ⟨by omega, by omega⟩ ⟨by omega, by omega⟩).mono ?_; rintro e W2 ⟨rfl, hb⟩); have hbz : Below W1.heap.size W1 W2 := (by first | exact hb | exact Below.trans (Below.drew (Below.refl _ _)) hb); clear hb; have HB2 := Lib.hid (HB1.out.trans (hbz.mono HB1.out.size)); clear hbz
          refine hK.out _ _ ?_ (fun hHeld => ?_)
          · (try dsimp only); (exact HS.out _ HB2.out)
          clear hK K
          try simp only [otc15_5, Act.put, List.setIfInBounds_toArray, List.set_cons_zero, List.set_cons_succ]
          refine wpAnyH_ready (rs := [6, 7]) (by kernel_rfl) (by simp) ?_
          refine AllReadyH.cons (o := otc15_6) rfl (fun K hK => ?gs23) ?gr23
          case' gs23 =>
           delta otc15_6
           go_simp
           obtain ⟨W3, hV⟩ : ∃ V, W2.alloc (.cells #[.int .i64 0, .int .i64 0] 23) = V := ⟨_, rfl⟩; have hbz : Below W2.heap.size W2 W3 := (by rw [← hV]; exact (Below.refl _ _).alloc (Nat.le_refl _) _); have HB3 := Lib.hid (HB2.out.trans (hbz.mono HB2.out.size)); have Hb25_3 : Hid (Blk W3 W2.heap.size 23 #[.int .i64 0, .int .i64 0]) := (by rw [← hV]; exact Blk.new' _ _ _ rfl); obtain ⟨b25, hz⟩ : ∃ b, W2.heap.size = b := ⟨_, rfl⟩; rw [hz] at Hb25_3; have gb25 : W0.heap.size ≤ b25 := (by rw [← hz]; exact HB2.out.size); rw [hV, hz]; clear hV hbz hz
           refine hK.out _ _ ?_ (fun hHeld => ?_)
           · (try dsimp only); (exact HS.out _ HB3.out)
           clear hK K
           try simp only [otc15_6, Act.put, List.setIfInBounds_toArray, List.set_cons_zero, List.set_cons_succ]
           refine wpAnyH_ready (rs := [7]) (by kernel_rfl) (by simp) ?_
           refine AllReadyH.cons (o := otc15_7) rfl (fun K hK => ?_) AllReadyH.nil
           delta otc15_7
           go_simp
           obtain ⟨W4, hV⟩ : ∃ V, W3.alloc (.cells #[.int .i64 0, .int .i64 0] 23) = V := ⟨_, rfl⟩; have hbz : Below W3.heap.size W3 W4 := (by rw [← hV]; exact (Below.refl _ _).alloc (Nat.le_refl _) _); have HB4 := Lib.hid (HB3.out.trans (hbz.mono HB3.out.size)); have Hb26_4 : Hid (Blk W4 W3.heap.size 23 #[.int .i64 0, .int .i64 0]) := (by rw [← hV]; exact Blk.new' _ _ _ rfl); obtain ⟨b26, hz⟩ : ∃ b, W3.heap.size = b := ⟨_, rfl⟩; rw [hz] at Hb26_4; have gb26 : W0.heap.size ≤ b26 := (by rw [← hz]; exact HB3.out.size); have Hb25_4 := Lib.hid (Hb25_3.out.below hbz Hb25_3.out.lt); have nb26b25 : ¬ b26 = b25 := (fun e => by have := Hb25_3.out.lt; omega); have nb25b26 : ¬ b25 = b26 := (fun e => nb26b25 e.symm); rw [hV, hz]; clear hV hbz hz
           refine hK.out _ _ ?_ (fun hHeld => ?_)
           · (try dsimp only); (exact HS.out _ HB4.out)
           clear hK K
           try simp only [otc15_7, Act.put, List.setIfInBounds_toArray, List.set_cons_zero, List.set_cons_succ]
          case' gr23 =>
           refine AllReadyH.cons (o := otc15_7) rfl (fun K hK => ?gs24) ?gr24
           case' gs24 =>
            delta otc15_7
            go_simp
            obtain ⟨W3, hV⟩ : ∃ V, W2.alloc (.cells #[.int .i64 0, .int .i64 0] 23) = V := ⟨_, rfl⟩; have hbz : Below W2.heap.size W2 W3 := (by rw [← hV]; exact (Below.refl _ _).alloc (Nat.le_refl _) _); have HB3 := Lib.hid (HB2.out.trans (hbz.mono HB2.out.size)); have Hb26_3 : Hid (Blk W3 W2.heap.size 23 #[.int .i64 0, .int .i64 0]) := (by rw [← hV]; exact Blk.new' _ _ _ rfl); obtain ⟨b26, hz⟩ : ∃ b, W2.heap.size = b := ⟨_, rfl⟩; rw [hz] at Hb26_3; have gb26 : W0.heap.size ≤ b26 := (by rw [← hz]; exact HB2.out.size); rw [hV, hz]; clear hV hbz hz
            refine hK.out _ _ ?_ (fun hHeld => ?_)
            · (try dsimp only); (exact HS.out _ HB3.out)
            clear hK K
            try simp only [otc15_7, Act.put, List.setIfInBounds_toArray, List.set_cons_zero, List.set_cons_succ]
            refine wpAnyH_ready (rs := [6]) (by kernel_rfl) (by simp) ?_
            refine AllReadyH.cons (o := otc15_6) rfl (fun K hK => ?_) AllReadyH.nil
            delta otc15_6
            go_simp
            obtain ⟨W4, hV⟩ : ∃ V, W3.alloc (.cells #[.int .i64 0, .int .i64 0] 23) = V := ⟨_, rfl⟩; have hbz : Below W3.heap.size W3 W4 := (by rw [← hV]; exact (Below.refl _ _).alloc (Nat.le_refl _) _); have HB4 := Lib.hid (HB3.out.trans (hbz.mono HB3.out.size)); have Hb25_4 : Hid (Blk W4 W3.heap.size 23 #[.int .i64 0, .int .i64 0]) := (by rw [← hV]; exact Blk.new' _ _ _ rfl); obtain ⟨b25, hz⟩ : ∃ b, W3.heap.size = b := ⟨_, rfl⟩; rw [hz] at Hb25_4; have gb25 : W0.heap.size ≤ b25 := (by rw [← hz]; exact HB3.out.size); have Hb26_4 := Lib.hid (Hb26_3.out.below hbz Hb26_3.out.lt); have nb25b26 : ¬ b25 = b26 := (fun e => by have := Hb26_3.out.lt; omega); have nb26b25 : ¬ b26 = b25 := (fun e => nb25b26 e.symm); rw [hV, hz]; clear hV hbz hz
            refine hK.out _ _ ?_ (fun hHeld => ?_)
            · (try dsimp only); (exact HS.out _ HB4.out)
            clear hK K
            try simp only [otc15_6, Act.put, List.setIfInBounds_toArray, List.set_cons_zero, List.set_cons_succ]
           case' gr24 =>
            exact AllReadyH.nil
         case' gr22 =>
          refine AllReadyH.cons (o := otc15_6) rfl (fun K hK => ?gs25) ?gr25
          case' gs25 =>
           delta otc15_6
           go_simp
           obtain ⟨W2, hV⟩ : ∃ V, W1.alloc (.cells #[.int .i64 0, .int .i64 0] 23) = V := ⟨_, rfl⟩; have hbz : Below W1.heap.size W1 W2 := (by rw [← hV]; exact (Below.refl _ _).alloc (Nat.le_refl _) _); have HB2 := Lib.hid (HB1.out.trans (hbz.mono HB1.out.size)); have Hb25_2 : Hid (Blk W2 W1.heap.size 23 #[.int .i64 0, .int .i64 0]) := (by rw [← hV]; exact Blk.new' _ _ _ rfl); obtain ⟨b25, hz⟩ : ∃ b, W1.heap.size = b := ⟨_, rfl⟩; rw [hz] at Hb25_2; have gb25 : W0.heap.size ≤ b25 := (by rw [← hz]; exact HB1.out.size); rw [hV, hz]; clear hV hbz hz
           refine hK.out _ _ ?_ (fun hHeld => ?_)
           · (try dsimp only); (exact HS.out _ HB2.out)
           clear hK K
           try simp only [otc15_6, Act.put, List.setIfInBounds_toArray, List.set_cons_zero, List.set_cons_succ]
           refine wpAnyH_ready (rs := [5, 7]) (by kernel_rfl) (by simp) ?_
           refine AllReadyH.cons (o := otc15_5) rfl (fun K hK => ?gs26) ?gr26
           case' gs26 =>
            delta otc15_5
            go_simp
            (refine (lproduct_any _ _ _ _ _ ⟨by omega, by omega⟩ ⟨by omega, by omega⟩ ⟨by omega, by omega⟩ ⟨by omega, by omega⟩).mono ?_; rintro e W3 ⟨rfl, hb⟩); have hbz : Below W2.heap.size W2 W3 := (by first | exact hb | exact Below.trans (Below.drew (Below.refl _ _)) hb); clear hb; have HB3 := Lib.hid (HB2.out.trans (hbz.mono HB2.out.size)); have Hb25_3 := Lib.hid (Hb25_2.out.below hbz Hb25_2.out.lt); clear hbz
            refine hK.out _ _ ?_ (fun hHeld => ?_)
            · (try dsimp only); (exact HS.out _ HB3.out)
            clear hK K
            try simp only [otc15_5, Act.put, List.setIfInBounds_toArray, List.set_cons_zero, List.set_cons_succ]
            refine wpAnyH_ready (rs := [7]) (by kernel_rfl) (by simp) ?_
            refine AllReadyH.cons (o := otc15_7) rfl (fun K hK => ?_) AllReadyH.nil
            delta otc15_7
            go_simp
            obtain ⟨W4, hV⟩ : ∃ V, W3.alloc (.cells #[.int .i64 0, .int .i64 0] 23) = V := ⟨_, rfl⟩; have hbz : Below W3.heap.size W3 W4 := (by rw [← hV]; exact (Below.refl _ _).alloc (Nat.le_refl _) _); have HB4 := Lib.hid (HB3.out.trans (hbz.mono HB3.out.size)); have Hb26_4 : Hid (Blk W4 W3.heap.size 23 #[.int .i64 0, .int .i64 0]) := (by rw [← hV]; exact Blk.new' _ _ _ rfl); obtain ⟨b26, hz⟩ : ∃ b, W3.heap.size = b := ⟨_, rfl⟩; rw [hz] at Hb26_4; have gb26 : W0.heap.size ≤ b26 := (by rw [← hz]; exact HB3.out.size); have Hb25_4 := Lib.hid (Hb25_3.out.below hbz Hb25_3.out.lt); have nb26b25 : ¬ b26 = b25 := (fun e => by have := Hb25_3.out.lt; omega); have nb25b26 : ¬ b25 = b26 := (fun e => nb26b25 e.symm); rw [hV, hz]; clear hV hbz hz
            refine hK.out _ _ ?_ (fun hHeld => ?_)
            · (try dsimp only); (exact HS.out _ HB4.out)
            clear hK K
            try simp only [otc15_7, Act.put, List.setIfInBounds_toArray, List.set_cons_zero, List.set_cons_succ]
           case' gr26 =>
            refine AllReadyH.cons (o := otc15_7) rfl (fun K hK => ?gs27) ?gr27
            case' gs27 =>
             delta otc15_7
             go_simp
             obtain ⟨W3, hV⟩ : ∃ V, W2.alloc (.cells #[.int .i64 0, .int .i64 0] 23) = V := ⟨_, rfl⟩; have hbz : Below W2.heap.size W2 W3 := (by rw [← hV]; exact (Below.refl _ _).alloc (Nat.le_refl _) _); have HB3 := Lib.hid (HB2.out.trans (hbz.mono HB2.out.size)); have Hb26_3 : Hid (Blk W3 W2.heap.size 23 #[.int .i64 0, .int .i64 0]) := (by rw [← hV]; exact Blk.new' _ _ _ rfl); obtain ⟨b26, hz⟩ : ∃ b, W2.heap.size = b := ⟨_, rfl⟩; rw [hz] at Hb26_3; have gb26 : W0.heap.size ≤ b26 := (by rw [← hz]; exact HB2.out.size); have Hb25_3 := Lib.hid (Hb25_2.out.below hbz Hb25_2.out.lt); have nb26b25 : ¬ b26 = b25 := (fun e => by have := Hb25_2.out.lt; omega); have nb25b26 : ¬ b25 = b26 := (fun e => nb26b25 e.symm); rw [hV, hz]; clear hV hbz hz
             refine hK.out _ _ ?_ (fun hHeld => ?_)
             · (try dsimp only); (exact HS.out _ HB3.out)
             clear hK K
             try simp only [otc15_7, Act.put, List.setIfInBounds_toArray, List.set_cons_zero, List.set_cons_succ]
             refine wpAnyH_ready (rs := [5]) (by kernel_rfl) (by simp) ?_
             refine AllReadyH.cons (o := otc15_5) rfl (fun K hK => ?_) AllReadyH.nil
             delta otc15_5
             go_simp
             (refine (lproduct_any _ _ _ _ _ ⟨by omega, by omega⟩ ⟨by omega, by omega⟩ ⟨by omega, by omega⟩ ⟨by omega, by omega⟩).mono ?_; rintro e W4 ⟨rfl, hb⟩); have hbz : Below W3.heap.size W3 W4 := (by first | exact hb | exact Below.trans (Below.drew (Below.refl _ _)) hb); clear hb; have HB4 := Lib.hid (HB3.out.trans (hbz.mono HB3.out.size)); have Hb25_4 := Lib.hid (Hb25_3.out.below hbz Hb25_3.out.lt); have Hb26_4 := Lib.hid (Hb26_3.out.below hbz Hb26_3.out.lt); clear hbz
             refine hK.out _ _ ?_ (fun hHeld => ?_)
             · (try dsimp only); (exact HS.out _ HB4.out)
             clear hK K
             try simp only [otc15_5, Act.put, List.setIfInBounds_toArray, List.set_cons_zero, List.set_cons_succ]
            case' gr27 =>
             exact AllReadyH.nil
          case' gr25 =>
           refine AllReadyH.cons (o := otc15_7) rfl (fun K hK => ?gs28) ?gr28
           case' gs28 =>
            delta otc15_7
            go_simp
            obtain ⟨W2, hV⟩ : ∃ V, W1.alloc (.cells #[.int .i64 0, .int .i64 0] 23) = V := ⟨_, rfl⟩; have hbz : Below W1.heap.size W1 W2 := (by rw [← hV]; exact (Below.refl _ _).alloc (Nat.le_refl _) _); have HB2 := Lib.hid (HB1.out.trans (hbz.mono HB1.out.size)); have Hb26_2 : Hid (Blk W2 W1.heap.size 23 #[.int .i64 0, .int .i64 0]) := (by rw [← hV]; exact Blk.new' _ _ _ rfl); obtain ⟨b26, hz⟩ : ∃ b, W1.heap.size = b := ⟨_, rfl⟩; rw [hz] at Hb26_2; have gb26 : W0.heap.size ≤ b26 := (by rw [← hz]; exact HB1.out.size); rw [hV, hz]; clear hV hbz hz
            refine hK.out _ _ ?_ (fun hHeld => ?_)
            · (try dsimp only); (exact HS.out _ HB2.out)
            clear hK K
            try simp only [otc15_7, Act.put, List.setIfInBounds_toArray, List.set_cons_zero, List.set_cons_succ]
            refine wpAnyH_ready (rs := [5, 6]) (by kernel_rfl) (by simp) ?_
            refine AllReadyH.cons (o := otc15_5) rfl (fun K hK => ?gs29) ?gr29
            case' gs29 =>
             delta otc15_5
             go_simp
             (refine (lproduct_any _ _ _ _ _ ⟨by omega, by omega⟩ ⟨by omega, by omega⟩ ⟨by omega, by omega⟩ ⟨by omega, by omega⟩).mono ?_; rintro e W3 ⟨rfl, hb⟩); have hbz : Below W2.heap.size W2 W3 := (by first | exact hb | exact Below.trans (Below.drew (Below.refl _ _)) hb); clear hb; have HB3 := Lib.hid (HB2.out.trans (hbz.mono HB2.out.size)); have Hb26_3 := Lib.hid (Hb26_2.out.below hbz Hb26_2.out.lt); clear hbz
             refine hK.out _ _ ?_ (fun hHeld => ?_)
             · (try dsimp only); (exact HS.out _ HB3.out)
             clear hK K
             try simp only [otc15_5, Act.put, List.setIfInBounds_toArray, List.set_cons_zero, List.set_cons_succ]
             refine wpAnyH_ready (rs := [6]) (by kernel_rfl) (by simp) ?_
             refine AllReadyH.cons (o := otc15_6) rfl (fun K hK => ?_) AllReadyH.nil
             delta otc15_6
             go_simp
             obtain ⟨W4, hV⟩ : ∃ V, W3.alloc (.cells #[.int .i64 0, .int .i64 0] 23) = V := ⟨_, rfl⟩; have hbz : Below W3.heap.size W3 W4 := (by rw [← hV]; exact (Below.refl _ _).alloc (Nat.le_refl _) _); have HB4 := Lib.hid (HB3.out.trans (hbz.mono HB3.out.size)); have Hb25_4 : Hid (Blk W4 W3.heap.size 23 #[.int .i64 0, .int .i64 0]) := (by rw [← hV]; exact Blk.new' _ _ _ rfl); obtain ⟨b25, hz⟩ : ∃ b, W3.heap.size = b := ⟨_, rfl⟩; rw [hz] at Hb25_4; have gb25 : W0.heap.size ≤ b25 := (by rw [← hz]; exact HB3.out.size); have Hb26_4 := Lib.hid (Hb26_3.out.below hbz Hb26_3.out.lt); have nb25b26 : ¬ b25 = b26 := (fun e => by have := Hb26_3.out.lt; omega); have nb26b25 : ¬ b26 = b25 := (fun e => nb25b26 e.symm); rw [hV, hz]; clear hV hbz hz
             refine hK.out _ _ ?_ (fun hHeld => ?_)
             · (try dsimp only); (exact HS.out _ HB4.out)
             clear hK K
             try simp only [otc15_6, Act.put, List.setIfInBounds_toArray, List.set_cons_zero, List.set_cons_succ]
            case' gr29 =>
             refine AllReadyH.cons (o := otc15_6) rfl (fun K hK => ?gs30) ?gr30
             case' gs30 =>
              delta otc15_6
              go_simp
              obtain ⟨W3, hV⟩ : ∃ V, W2.alloc (.cells #[.int .i64 0, .int .i64 0] 23) = V := ⟨_, rfl⟩; have hbz : Below W2.heap.size W2 W3 := (by rw [← hV]; exact (Below.refl _ _).alloc (Nat.le_refl _) _); have HB3 := Lib.hid (HB2.out.trans (hbz.mono HB2.out.size)); have Hb25_3 : Hid (Blk W3 W2.heap.size 23 #[.int .i64 0, .int .i64 0]) := (by rw [← hV]; exact Blk.new' _ _ _ rfl); obtain ⟨b25, hz⟩ : ∃ b, W2.heap.size = b := ⟨_, rfl⟩; rw [hz] at Hb25_3; have gb25 : W0.heap.size ≤ b25 := (by rw [← hz]; exact HB2.out.size); have Hb26_3 := Lib.hid (Hb26_2.out.below hbz Hb26_2.out.lt); have nb25b26 : ¬ b25 = b26 := (fun e => by have := Hb26_2.out.lt; omega); have nb26b25 : ¬ b26 = b25 := (fun e => nb25b26 e.symm); rw [hV, hz]; clear hV hbz hz
              refine hK.out _ _ ?_ (fun hHeld => ?_)
              · (try dsimp only); (exact HS.out _ HB3.out)
              clear hK K
              try simp only [otc15_6, Act.put, List.setIfInBounds_toArray, List.set_cons_zero, List.set_cons_succ]
              refine wpAnyH_ready (rs := [5]) (by kernel_rfl) (by simp) ?_
              refine AllReadyH.cons (o := otc15_5) rfl (fun K hK => ?_) AllReadyH.nil
              delta otc15_5
              go_simp
              (refine (lproduct_any _ _ _ _ _ ⟨by omega, by omega⟩ ⟨by omega, by omega⟩ ⟨by omega, by omega⟩ ⟨by omega, by omega⟩).mono ?_; rintro e W4 ⟨rfl, hb⟩); have hbz : Below W3.heap.size W3 W4 := (by first | exact hb | exact Below.trans (Below.drew (Below.refl _ _)) hb); clear hb; have HB4 := Lib.hid (HB3.out.trans (hbz.mono HB3.out.size)); have Hb26_4 := Lib.hid (Hb26_3.out.below hbz Hb26_3.out.lt); have Hb25_4 := Lib.hid (Hb25_3.out.below hbz Hb25_3.out.lt); clear hbz
              refine hK.out _ _ ?_ (fun hHeld => ?_)
              · (try dsimp only); (exact HS.out _ HB4.out)
              clear hK K
              try simp only [otc15_5, Act.put, List.setIfInBounds_toArray, List.set_cons_zero, List.set_cons_succ]
             case' gr30 =>
              exact AllReadyH.nil
           case' gr28 =>
            exact AllReadyH.nil
        case' gr21 =>
         refine AllReadyH.cons (o := otc15_6) rfl (fun K hK => ?gs31) ?gr31
         case' gs31 =>
          delta otc15_6
          go_simp
          obtain ⟨W1, hV⟩ : ∃ V, W0.alloc (.cells #[.int .i64 0, .int .i64 0] 23) = V := ⟨_, rfl⟩; have hbz : Below W0.heap.size W0 W1 := (by rw [← hV]; exact (Below.refl _ _).alloc (Nat.le_refl _) _); have HB1 := Lib.hid (HB0.out.trans (hbz.mono HB0.out.size)); have Hb25_1 : Hid (Blk W1 W0.heap.size 23 #[.int .i64 0, .int .i64 0]) := (by rw [← hV]; exact Blk.new' _ _ _ rfl); obtain ⟨b25, hz⟩ : ∃ b, W0.heap.size = b := ⟨_, rfl⟩; rw [hz] at Hb25_1; have gb25 : W0.heap.size ≤ b25 := (by rw [← hz]; exact HB0.out.size); rw [hV, hz]; clear hV hbz hz
          refine hK.out _ _ ?_ (fun hHeld => ?_)
          · (try dsimp only); (exact HS.out _ HB1.out)
          clear hK K
          try simp only [otc15_6, Act.put, List.setIfInBounds_toArray, List.set_cons_zero, List.set_cons_succ]
          refine wpAnyH_ready (rs := [2, 7]) (by kernel_rfl) (by simp) ?_
          refine AllReadyH.cons (o := otc15_2) rfl (fun K hK => ?gs32) ?gr32
          case' gs32 =>
           delta otc15_2
           go_simp
           (refine (lproduct_any _ _ _ _ _ ⟨by omega, by omega⟩ ⟨by omega, by omega⟩ ⟨by omega, by omega⟩ ⟨by omega, by omega⟩).mono ?_; rintro e W2 ⟨rfl, hb⟩); have hbz : Below W1.heap.size W1 W2 := (by first | exact hb | exact Below.trans (Below.drew (Below.refl _ _)) hb); clear hb; have HB2 := Lib.hid (HB1.out.trans (hbz.mono HB1.out.size)); have Hb25_2 := Lib.hid (Hb25_1.out.below hbz Hb25_1.out.lt); clear hbz
           refine hK.out _ _ ?_ (fun hHeld => ?_)
           · (try dsimp only); (exact HS.out _ HB2.out)
           clear hK K
           try simp only [otc15_2, Act.put, List.setIfInBounds_toArray, List.set_cons_zero, List.set_cons_succ]
           refine wpAnyH_ready (rs := [5, 7]) (by kernel_rfl) (by simp) ?_
           refine AllReadyH.cons (o := otc15_5) rfl (fun K hK => ?gs33) ?gr33
           case' gs33 =>
            delta otc15_5
            go_simp
            (refine (lproduct_any _ _ _ _ _ ⟨by omega, by omega⟩ ⟨by omega, by omega⟩ ⟨by omega, by omega⟩ ⟨by omega, by omega⟩).mono ?_; rintro e W3 ⟨rfl, hb⟩); have hbz : Below W2.heap.size W2 W3 := (by first | exact hb | exact Below.trans (Below.drew (Below.refl _ _)) hb); clear hb; have HB3 := Lib.hid (HB2.out.trans (hbz.mono HB2.out.size)); have Hb25_3 := Lib.hid (Hb25_2.out.below hbz Hb25_2.out.lt); clear hbz
            refine hK.out _ _ ?_ (fun hHeld => ?_)
            · (try dsimp only); (exact HS.out _ HB3.out)
            clear hK K
            try simp only [otc15_5, Act.put, List.setIfInBounds_toArray, List.set_cons_zero, List.set_cons_succ]
            refine wpAnyH_ready (rs := [7]) (by kernel_rfl) (by simp) ?_
            refine AllReadyH.cons (o := otc15_7) rfl (fun K hK => ?_) AllReadyH.nil
            delta otc15_7
            go_simp
            obtain ⟨W4, hV⟩ : ∃ V, W3.alloc (.cells #[.int .i64 0, .int .i64 0] 23) = V := ⟨_, rfl⟩; have hbz : Below W3.heap.size W3 W4 := (by rw [← hV]; exact (Below.refl _ _).alloc (Nat.le_refl _) _); have HB4 := Lib.hid (HB3.out.trans (hbz.mono HB3.out.size)); have Hb26_4 : Hid (Blk W4 W3.heap.size 23 #[.int .i64 0, .int .i64 0]) := (by rw [← hV]; exact Blk.new' _ _ _ rfl); obtain ⟨b26, hz⟩ : ∃ b, W3.heap.size = b := ⟨_, rfl⟩; rw [hz] at Hb26_4; have gb26 : W0.heap.size ≤ b26 := (by rw [← hz]; exact HB3.out.size); have Hb25_4 := Lib.hid (Hb25_3.out.below hbz Hb25_3.out.lt); have nb26b25 : ¬ b26 = b25 := (fun e => by have := Hb25_3.out.lt; omega); have nb25b26 : ¬ b25 = b26 := (fun e => nb26b25 e.symm); rw [hV, hz]; clear hV hbz hz
            refine hK.out _ _ ?_ (fun hHeld => ?_)
            · (try dsimp only); (exact HS.out _ HB4.out)
            clear hK K
            try simp only [otc15_7, Act.put, List.setIfInBounds_toArray, List.set_cons_zero, List.set_cons_succ]
           case' gr33 =>
            refine AllReadyH.cons (o := otc15_7) rfl (fun K hK => ?gs34) ?gr34
            case' gs34 =>
             delta otc15_7
             go_simp
             obtain ⟨W3, hV⟩ : ∃ V, W2.alloc (.cells #[.int .i64 0, .int .i64 0] 23) = V := ⟨_, rfl⟩; have hbz : Below W2.heap.size W2 W3 := (by rw [← hV]; exact (Below.refl _ _).alloc (Nat.le_refl _) _); have HB3 := Lib.hid (HB2.out.trans (hbz.mono HB2.out.size)); have Hb26_3 : Hid (Blk W3 W2.heap.size 23 #[.int .i64 0, .int .i64 0]) := (by rw [← hV]; exact Blk.new' _ _ _ rfl); obtain ⟨b26, hz⟩ : ∃ b, W2.heap.size = b := ⟨_, rfl⟩; rw [hz] at Hb26_3; have gb26 : W0.heap.size ≤ b26 := (by rw [← hz]; exact HB2.out.size); have Hb25_3 := Lib.hid (Hb25_2.out.below hbz Hb25_2.out.lt); have nb26b25 : ¬ b26 = b25 := (fun e => by have := Hb25_2.out.lt; omega); have nb25b26 : ¬ b25 = b26 := (fun e => nb26b25 e.symm); rw [hV, hz]; clear hV hbz hz
             refine hK.out _ _ ?_ (fun hHeld => ?_)
             · (try dsimp only); (exact HS.out _ HB3.out)
             clear hK K
             try simp only [otc15_7, Act.put, List.setIfInBounds_toArray, List.set_cons_zero, List.set_cons_succ]
             refine wpAnyH_ready (rs := [5]) (by kernel_rfl) (by simp) ?_
             refine AllReadyH.cons (o := otc15_5) rfl (fun K hK => ?_) AllReadyH.nil
             delta otc15_5
             go_simp
             (refine (lproduct_any _ _ _ _ _ ⟨by omega, by omega⟩ ⟨by omega, by omega⟩ ⟨by omega, by omega⟩ ⟨by omega, by omega⟩).mono ?_; rintro e W4 ⟨rfl, hb⟩); have hbz : Below W3.heap.size W3 W4 := (by first | exact hb | exact Below.trans (Below.drew (Below.refl _ _)) hb); clear hb; have HB4 := Lib.hid (HB3.out.trans (hbz.mono HB3.out.size)); have Hb25_4 := Lib.hid (Hb25_3.out.below hbz Hb25_3.out.lt); have Hb26_4 := Lib.hid (Hb26_3.out.below hbz Hb26_3.out.lt); clear hbz
             refine hK.out _ _ ?_ (fun hHeld => ?_)
             · (try dsimp only); (exact HS.out _ HB4.out)
             clear hK K
             try simp only [otc15_5, Act.put, List.setIfInBounds_toArray, List.set_cons_zero, List.set_cons_succ]
            case' gr34 =>
             exact AllReadyH.nil
          case' gr32 =>
           refine AllReadyH.cons (o := otc15_7) rfl (fun K hK => ?gs35) ?gr35
           case' gs35 =>
            delta otc15_7
            go_simp
            obtain ⟨W2, hV⟩ : ∃ V, W1.alloc (.cells #[.int .i64 0, .int .i64 0] 23) = V := ⟨_, rfl⟩; have hbz : Below W1.heap.size W1 W2 := (by rw [← hV]; exact (Below.refl _ _).alloc (Nat.le_refl _) _); have HB2 := Lib.hid (HB1.out.trans (hbz.mono HB1.out.size)); have Hb26_2 : Hid (Blk W2 W1.heap.size 23 #[.int .i64 0, .int .i64 0]) := (by rw [← hV]; exact Blk.new' _ _ _ rfl); obtain ⟨b26, hz⟩ : ∃ b, W1.heap.size = b := ⟨_, rfl⟩; rw [hz] at Hb26_2; have gb26 : W0.heap.size ≤ b26 := (by rw [← hz]; exact HB1.out.size); have Hb25_2 := Lib.hid (Hb25_1.out.below hbz Hb25_1.out.lt); have nb26b25 : ¬ b26 = b25 := (fun e => by have := Hb25_1.out.lt; omega); have nb25b26 : ¬ b25 = b26 := (fun e => nb26b25 e.symm); rw [hV, hz]; clear hV hbz hz
            refine hK.out _ _ ?_ (fun hHeld => ?_)
            · (try dsimp only); (exact HS.out _ HB2.out)
            clear hK K
            try simp only [otc15_7, Act.put, List.setIfInBounds_toArray, List.set_cons_zero, List.set_cons_succ]
            refine wpAnyH_ready (rs := [2]) (by kernel_rfl) (by simp) ?_
            refine AllReadyH.cons (o := otc15_2) rfl (fun K hK => ?_) AllReadyH.nil
            delta otc15_2
            go_simp
            (refine (lproduct_any _ _ _ _ _ ⟨by omega, by omega⟩ ⟨by omega, by omega⟩ ⟨by omega, by omega⟩ ⟨by omega, by omega⟩).mono ?_; rintro e W3 ⟨rfl, hb⟩); have hbz : Below W2.heap.size W2 W3 := (by first | exact hb | exact Below.trans (Below.drew (Below.refl _ _)) hb); clear hb; have HB3 := Lib.hid (HB2.out.trans (hbz.mono HB2.out.size)); have Hb25_3 := Lib.hid (Hb25_2.out.below hbz Hb25_2.out.lt); have Hb26_3 := Lib.hid (Hb26_2.out.below hbz Hb26_2.out.lt); clear hbz
            refine hK.out _ _ ?_ (fun hHeld => ?_)
            · (try dsimp only); (exact HS.out _ HB3.out)
            clear hK K
            try simp only [otc15_2, Act.put, List.setIfInBounds_toArray, List.set_cons_zero, List.set_cons_succ]
            refine wpAnyH_ready (rs := [5]) (by kernel_rfl) (by simp) ?_
            refine AllReadyH.cons (o := otc15_5) rfl (fun K hK => ?_) AllReadyH.nil
            delta otc15_5
            go_simp
            (refine (lproduct_any _ _ _ _ _ ⟨by omega, by omega⟩ ⟨by omega, by omega⟩ ⟨by omega, by omega⟩ ⟨by omega, by omega⟩).mono ?_; rintro e W4 ⟨rfl, hb⟩); have hbz : Below W3.heap.size W3 W4 := (by first | exact hb | exact Below.trans (Below.drew (Below.refl _ _)) hb); clear hb; have HB4 := Lib.hid (HB3.out.trans (hbz.mono HB3.out.size)); have Hb25_4 := Lib.hid (Hb25_3.out.below hbz Hb25_3.out.lt); have Hb26_4 := Lib.hid (Hb26_3.out.below hbz Hb26_3.out.lt); clear hbz
            refine hK.out _ _ ?_ (fun hHeld => ?_)
            · (try dsimp only); (exact HS.out _ HB4.out)
            clear hK K
            try simp only [otc15_5, Act.put, List.setIfInBounds_toArray, List.set_cons_zero, List.set_cons_succ]
           case' gr35 =>
            exact AllReadyH.nil
         case' gr31 =>
          refine AllReadyH.cons (o := otc15_7) rfl (fun K hK => ?gs36) ?gr36
          case' gs36 =>
           delta otc15_7
           go_simp
           obtain ⟨W1, hV⟩ : ∃ V, W0.alloc (.cells #[.int .i64 0, .int .i64 0] 23) = V := ⟨_, rfl⟩; have hbz : Below W0.heap.size W0 W1 := (by rw [← hV]; exact (Below.refl _ _).alloc (Nat.le_refl _) _); have HB1 := Lib.hid (HB0.out.trans (hbz.mono HB0.out.size)); have Hb26_1 : Hid (Blk W1 W0.heap.size 23 #[.int .i64 0, .int .i64 0]) := (by rw [← hV]; exact Blk.new' _ _ _ rfl); obtain ⟨b26, hz⟩ : ∃ b, W0.heap.size = b := ⟨_, rfl⟩; rw [hz] at Hb26_1; have gb26 : W0.heap.size ≤ b26 := (by rw [← hz]; exact HB0.out.size); rw [hV, hz]; clear hV hbz hz
           refine hK.out _ _ ?_ (fun hHeld => ?_)
           · (try dsimp only); (exact HS.out _ HB1.out)
           clear hK K
           try simp only [otc15_7, Act.put, List.setIfInBounds_toArray, List.set_cons_zero, List.set_cons_succ]
           refine wpAnyH_ready (rs := [2, 6]) (by kernel_rfl) (by simp) ?_
           refine AllReadyH.cons (o := otc15_2) rfl (fun K hK => ?gs37) ?gr37
           case' gs37 =>
            delta otc15_2
            go_simp
            (refine (lproduct_any _ _ _ _ _ ⟨by omega, by omega⟩ ⟨by omega, by omega⟩ ⟨by omega, by omega⟩ ⟨by omega, by omega⟩).mono ?_; rintro e W2 ⟨rfl, hb⟩); have hbz : Below W1.heap.size W1 W2 := (by first | exact hb | exact Below.trans (Below.drew (Below.refl _ _)) hb); clear hb; have HB2 := Lib.hid (HB1.out.trans (hbz.mono HB1.out.size)); have Hb26_2 := Lib.hid (Hb26_1.out.below hbz Hb26_1.out.lt); clear hbz
            refine hK.out _ _ ?_ (fun hHeld => ?_)
            · (try dsimp only); (exact HS.out _ HB2.out)
            clear hK K
            try simp only [otc15_2, Act.put, List.setIfInBounds_toArray, List.set_cons_zero, List.set_cons_succ]
            refine wpAnyH_ready (rs := [5, 6]) (by kernel_rfl) (by simp) ?_
            refine AllReadyH.cons (o := otc15_5) rfl (fun K hK => ?gs38) ?gr38
            case' gs38 =>
             delta otc15_5
             go_simp
             (refine (lproduct_any _ _ _ _ _ ⟨by omega, by omega⟩ ⟨by omega, by omega⟩ ⟨by omega, by omega⟩ ⟨by omega, by omega⟩).mono ?_; rintro e W3 ⟨rfl, hb⟩); have hbz : Below W2.heap.size W2 W3 := (by first | exact hb | exact Below.trans (Below.drew (Below.refl _ _)) hb); clear hb; have HB3 := Lib.hid (HB2.out.trans (hbz.mono HB2.out.size)); have Hb26_3 := Lib.hid (Hb26_2.out.below hbz Hb26_2.out.lt); clear hbz
             refine hK.out _ _ ?_ (fun hHeld => ?_)
             · (try dsimp only); (exact HS.out _ HB3.out)
             clear hK K
             try simp only [otc15_5, Act.put, List.setIfInBounds_toArray, List.set_cons_zero, List.set_cons_succ]
             refine wpAnyH_ready (rs := [6]) (by kernel_rfl) (by simp) ?_
             refine AllReadyH.cons (o := otc15_6) rfl (fun K hK => ?_) AllReadyH.nil
             delta otc15_6
             go_simp
             obtain ⟨W4, hV⟩ : ∃ V, W3.alloc (.cells #[.int .i64 0, .int .i64 0] 23) = V := ⟨_, rfl⟩; have hbz : Below W3.heap.size W3 W4 := (by rw [← hV]; exact (Below.refl _ _).alloc (Nat.le_refl _) _); have HB4 := Lib.hid (HB3.out.trans (hbz.mono HB3.out.size)); have Hb25_4 : Hid (Blk W4 W3.heap.size 23 #[.int .i64 0, .int .i64 0]) := (by rw [← hV]; exact Blk.new' _ _ _ rfl); obtain ⟨b25, hz⟩ : ∃ b, W3.heap.size = b := ⟨_, rfl⟩; rw [hz] at Hb25_4; have gb25 : W0.heap.size ≤ b25 := (by rw [← hz]; exact HB3.out.size); have Hb26_4 := Lib.hid (Hb26_3.out.below hbz Hb26_3.out.lt); have nb25b26 : ¬ b25 = b26 := (fun e => by have := Hb26_3.out.lt; omega); have nb26b25 : ¬ b26 = b25 := (fun e => nb25b26 e.symm); rw [hV, hz]; clear hV hbz hz
             refine hK.out _ _ ?_ (fun hHeld => ?_)
             · (try dsimp only); (exact HS.out _ HB4.out)
             clear hK K
             try simp only [otc15_6, Act.put, List.setIfInBounds_toArray, List.set_cons_zero, List.set_cons_succ]
            case' gr38 =>
             refine AllReadyH.cons (o := otc15_6) rfl (fun K hK => ?gs39) ?gr39
             case' gs39 =>
              delta otc15_6
              go_simp
              obtain ⟨W3, hV⟩ : ∃ V, W2.alloc (.cells #[.int .i64 0, .int .i64 0] 23) = V := ⟨_, rfl⟩; have hbz : Below W2.heap.size W2 W3 := (by rw [← hV]; exact (Below.refl _ _).alloc (Nat.le_refl _) _); have HB3 := Lib.hid (HB2.out.trans (hbz.mono HB2.out.size)); have Hb25_3 : Hid (Blk W3 W2.heap.size 23 #[.int .i64 0, .int .i64 0]) := (by rw [← hV]; exact Blk.new' _ _ _ rfl); obtain ⟨b25, hz⟩ : ∃ b, W2.heap.size = b := ⟨_, rfl⟩; rw [hz] at Hb25_3; have gb25 : W0.heap.size ≤ b25 := (by rw [← hz]; exact HB2.out.size); have Hb26_3 := Lib.hid (Hb26_2.out.below hbz Hb26_2.out.lt); have nb25b26 : ¬ b25 = b26 := (fun e => by have := Hb26_2.out.lt; omega); have nb26b25 : ¬ b26 = b25 := (fun e => nb25b26 e.symm); rw [hV, hz]; clear hV hbz hz
              refine hK.out _ _ ?_ (fun hHeld => ?_)
              · (try dsimp only); (exact HS.out _ HB3.out)
              clear hK K
              try simp only [otc15_6, Act.put, List.setIfInBounds_toArray, List.set_cons_zero, List.set_cons_succ]
              refine wpAnyH_ready (rs := [5]) (by kernel_rfl) (by simp) ?_
              refine AllReadyH.cons (o := otc15_5) rfl (fun K hK => ?_) AllReadyH.nil
              delta otc15_5
              go_simp
              (refine (lproduct_any _ _ _ _ _ ⟨by omega, by omega⟩ ⟨by omega, by omega⟩ ⟨by omega, by omega⟩ ⟨by omega, by omega⟩).mono ?_; rintro e W4 ⟨rfl, hb⟩); have hbz : Below W3.heap.size W3 W4 := (by first | exact hb | exact Below.trans (Below.drew (Below.refl _ _)) hb); clear hb; have HB4 := Lib.hid (HB3.out.trans (hbz.mono HB3.out.size)); have Hb26_4 := Lib.hid (Hb26_3.out.below hbz Hb26_3.out.lt); have Hb25_4 := Lib.hid (Hb25_3.out.below hbz Hb25_3.out.lt); clear hbz
              refine hK.out _ _ ?_ (fun hHeld => ?_)
              · (try dsimp only); (exact HS.out _ HB4.out)
              clear hK K
              try simp only [otc15_5, Act.put, List.setIfInBounds_toArray, List.set_cons_zero, List.set_cons_succ]
             case' gr39 =>
              exact AllReadyH.nil
           case' gr37 =>
            refine AllReadyH.cons (o := otc15_6) rfl (fun K hK => ?gs40) ?gr40
            case' gs40 =>
             delta otc15_6
             go_simp
             obtain ⟨W2, hV⟩ : ∃ V, W1.alloc (.cells #[.int .i64 0, .int .i64 0] 23) = V := ⟨_, rfl⟩; have hbz : Below W1.heap.size W1 W2 := (by rw [← hV]; exact (Below.refl _ _).alloc (Nat.le_refl _) _); have HB2 := Lib.hid (HB1.out.trans (hbz.mono HB1.out.size)); have Hb25_2 : Hid (Blk W2 W1.heap.size 23 #[.int .i64 0, .int .i64 0]) := (by rw [← hV]; exact Blk.new' _ _ _ rfl); obtain ⟨b25, hz⟩ : ∃ b, W1.heap.size = b := ⟨_, rfl⟩; rw [hz] at Hb25_2; have gb25 : W0.heap.size ≤ b25 := (by rw [← hz]; exact HB1.out.size); have Hb26_2 := Lib.hid (Hb26_1.out.below hbz Hb26_1.out.lt); have nb25b26 : ¬ b25 = b26 := (fun e => by have := Hb26_1.out.lt; omega); have nb26b25 : ¬ b26 = b25 := (fun e => nb25b26 e.symm); rw [hV, hz]; clear hV hbz hz
             refine hK.out _ _ ?_ (fun hHeld => ?_)
             · (try dsimp only); (exact HS.out _ HB2.out)
             clear hK K
             try simp only [otc15_6, Act.put, List.setIfInBounds_toArray, List.set_cons_zero, List.set_cons_succ]
             refine wpAnyH_ready (rs := [2]) (by kernel_rfl) (by simp) ?_
             refine AllReadyH.cons (o := otc15_2) rfl (fun K hK => ?_) AllReadyH.nil
             delta otc15_2
             go_simp
             (refine (lproduct_any _ _ _ _ _ ⟨by omega, by omega⟩ ⟨by omega, by omega⟩ ⟨by omega, by omega⟩ ⟨by omega, by omega⟩).mono ?_; rintro e W3 ⟨rfl, hb⟩); have hbz : Below W2.heap.size W2 W3 := (by first | exact hb | exact Below.trans (Below.drew (Below.refl _ _)) hb); clear hb; have HB3 := Lib.hid (HB2.out.trans (hbz.mono HB2.out.size)); have Hb26_3 := Lib.hid (Hb26_2.out.below hbz Hb26_2.out.lt); have Hb25_3 := Lib.hid (Hb25_2.out.below hbz Hb25_2.out.lt); clear hbz
             refine hK.out _ _ ?_ (fun hHeld => ?_)
             · (try dsimp only); (exact HS.out _ HB3.out)
             clear hK K
             try simp only [otc15_2, Act.put, List.setIfInBounds_toArray, List.set_cons_zero, List.set_cons_succ]
             refine wpAnyH_ready (rs := [5]) (by kernel_rfl) (by simp) ?_
             refine AllReadyH.cons (o := otc15_5) rfl (fun K hK => ?_) AllReadyH.nil
             delta otc15_5
             go_simp
             (refine (lproduct_any _ _ _ _ _ ⟨by omega, by omega⟩ ⟨by omega, by omega⟩ ⟨by omega, by omega⟩ ⟨by omega, by omega⟩).mono ?_; rintro e W4 ⟨rfl, hb⟩); have hbz : Below W3.heap.size W3 W4 := (by first | exact hb | exact Below.trans (Below.drew (Below.refl _ _)) hb); clear hb; have HB4 := Lib.hid (HB3.out.trans (hbz.mono HB3.out.size)); have Hb26_4 := Lib.hid (Hb26_3.out.below hbz Hb26_3.out.lt); have Hb25_4 := Lib.hid (Hb25_3.out.below hbz Hb25_3.out.lt); clear hbz
             refine hK.out _ _ ?_ (fun hHeld => ?_)
             · (try dsimp only); (exact HS.out _ HB4.out)
             clear hK K
             try simp only [otc15_5, Act.put, List.setIfInBounds_toArray, List.set_cons_zero, List.set_cons_succ]
            case' gr40 =>
             exact AllReadyH.nil
          case' gr36 =>
           exact AllReadyH.nil
        all_goals
         as_aux_lemma =>
          have y0 := Hb25_4.out.cell 0; have y1 := Hb25_4.out.cell 1; have z0 := Hb25_4.out.frozen 0; have z1 := Hb25_4.out.frozen 1; have y2 := Hb26_4.out.cell 0; have y3 := Hb26_4.out.cell 1; have z2 := Hb26_4.out.frozen 0; have z3 := Hb26_4.out.frozen 1; simp only [List.getElem?_toArray, List.getElem?_cons_zero, List.getElem?_cons_succ] at y0 y1 y2 y3
          refine wpAnyH_ready (rs := [8]) (by kernel_rfl) (by simp) ?_
          refine AllReadyH.cons (o := otc15_8) rfl (fun K hK => ?_) AllReadyH.nil
          delta otc15_8
          go_simp
          refine hK.out _ _ ?_ (fun hHeld => ?_)
          · (try dsimp only); (refine HS.out _ ?_; (repeat (first | exact HB4.out | refine Below.setCell ?_ (by first | exact gb25 | exact gb26) _)); done)
          clear hK K
          try simp only [otc15_8, Act.put, List.setIfInBounds_toArray, List.set_cons_zero, List.set_cons_succ]
          refine wpAnyH_ready (rs := [9]) (by kernel_rfl) (by simp) ?_
          refine AllReadyH.cons (o := otc15_9) rfl (fun K hK => ?_) AllReadyH.nil
          delta otc15_9
          go_simp
          refine hK.out _ _ ?_ (fun hHeld => ?_)
          · (try dsimp only); (refine HS.out _ ?_; (repeat (first | exact HB4.out | refine Below.setCell ?_ (by first | exact gb25 | exact gb26) _)); done)
          clear hK K
          try simp only [otc15_9, Act.put, List.setIfInBounds_toArray, List.set_cons_zero, List.set_cons_succ]
          refine wpAnyH_done (by kernel_rfl) ?_ _
          refine NoPanic.normal ?_
          go_wp2_with fail
          go_meet
          exact (twoBox_set Hb25_4.out Hb26_4.out nb25b26 gb25 gb26 HB4.out).of HBV.out
      case rest =>
        obtain ⟨b25, b26, rfl, rfl, k25, k26, hne, g25, g26, hb15⟩ := hcut
        have HAB2 : Hid (max (z1 * 65536) ((prodZ (c1, c2) (d1, d2)).1 - (prodZ (s1, s2) (t1, t2)).2) ≤ min (z2 * 65536) ((prodZ (c1, c2) (d1, d2)).2 - (prodZ (s1, s2) (t1, t2)).1)) := by
          have h := HAB.out
          rw [HFX.out.1, HFX.out.2.1, HFX.out.2.2.1, HFX.out.2.2.2.1, HFX.out.2.2.2.2] at h
          exact h
        have HPR2 := HPR.out
        rw [HFX.out.1, HFX.out.2.1, HFX.out.2.2.1, HFX.out.2.2.2.1] at HPR2
        have HPZ2 := HPZ.out
        rw [HFX.out.2.2.2.2] at HPZ2
        obtain ⟨V26, rfl⟩ : ∃ V, V = wc := ⟨_, rfl⟩
        have HK25 := Lib.hid k25
        have HK26 := Lib.hid k26
        obtain ⟨⟨p1, p2⟩, hp⟩ : ∃ q, prodZ (c1, c2) (d1, d2) = q := ⟨_, rfl⟩
        obtain ⟨⟨v1, v2⟩, hv⟩ : ∃ q, prodZ (s1, s2) (t1, t2) = q := ⟨_, rfl⟩
        rw [hp] at HK25
        rw [hv] at HK26
        rw [hp, hv] at HAB2 HPR2
        simp only at HK25 HK26 HPR2 HPZ2
        obtain ⟨⟨pa, pb, pc, pd⟩, va, vb, vc, vd⟩ := HPR2
        obtain ⟨za, zb, zc, -⟩ := HPZ2
        have HMt : Hid (decide (max (z1 * 65536) (p1 - v2) ≤ min (z2 * 65536) (p2 - v1)) = true) := decide_eq_true HAB2.out
        have wz1 : IntKind.i64.wrap (z1 * 65536) = z1 * 65536 := IntWalk.i64_in _ (by omega)
        have wz2 : IntKind.i64.wrap (z2 * 65536) = z2 * 65536 := IntWalk.i64_in _ (by omega)
        have wz3 : IntKind.i64.wrap (p1 - v2) = p1 - v2 := IntWalk.i64_in _ (by omega)
        have wz4 : IntKind.i64.wrap (p2 - v1) = p2 - v1 := IntWalk.i64_in _ (by omega)
        have HS16 : Hid (∀ W, Below V26.heap.size V26 W → W.cell? ⟨b23, 0, none⟩ = some (.int .i64 z1) ∧ W.cell? ⟨b23, 1, none⟩ = some (.int .i64 z2) ∧ W.cell? ⟨b25, 0, none⟩ = some (.int .i64 p1) ∧ W.cell? ⟨b25, 1, none⟩ = some (.int .i64 p2) ∧ W.cell? ⟨b26, 0, none⟩ = some (.int .i64 v1) ∧ W.cell? ⟨b26, 1, none⟩ = some (.int .i64 v2)) := fun W hW => by
          have k1 := (HK23.out.below hb15 HK23.out.lt)
          have k2 := k1.below hW k1.lt
          have k3 := HK25.out.below hW HK25.out.lt
          have k4 := HK26.out.below hW HK26.out.lt
          exact ⟨k2.cell 0, k2.cell 1, k3.cell 0, k3.cell 1, k4.cell 0, k4.cell 1⟩
        have HXB := Lib.hid (HXA.out.trans (hb15.mono HXA.out.size))
        clear k25 k26 hne g25 g26 hp hv HAB HPR HPZ HSQ HSR HAB2 HX HXA HSV
        have k0 := HS16.out _ (Below.drew (Below.refl V26.heap.size V26))
        go_upto_region 16 with (fail)
        refine wp_region_noPanic ?_
        refine wp_region_held_drew (S := (fun w' => w'.cell? ⟨b23, 0, none⟩ = some (.int .i64 z1) ∧ w'.cell? ⟨b23, 1, none⟩ = some (.int .i64 z2) ∧ w'.cell? ⟨b25, 0, none⟩ = some (.int .i64 p1) ∧ w'.cell? ⟨b25, 1, none⟩ = some (.int .i64 p2) ∧ w'.cell? ⟨b26, 0, none⟩ = some (.int .i64 v1) ∧ w'.cell? ⟨b26, 1, none⟩ = some (.int .i64 v2))) (by kernel_rfl) ?_ (fun hHeld => ?_)
        · (try dsimp only); (exact k0)
        refine wpAnyH_take (i := 0) (oi := otc16_0) (v := ?_) rfl (by kernel_rfl) (by kernel_rfl) (by kernel_rfl) (fun _ _ _ h => h) (Or.inl ⟨by rfl, ?_⟩) (by assumption) ?_
        rotate_left
        · ((intro w hSw; delta otc16_0; (try dsimp only at hSw); go_simp) <;> with_reducible rfl)
        try simp only [otc16_0, Act.put, List.setIfInBounds_toArray, List.set_cons_zero, List.set_cons_succ]
        refine wpAnyH_take (i := 1) (oi := otc16_1) (v := ?_) rfl (by kernel_rfl) (by kernel_rfl) (by kernel_rfl) (fun _ _ _ h => h) (Or.inl ⟨by rfl, ?_⟩) (by assumption) ?_
        rotate_left
        · ((intro w hSw; delta otc16_1; (try dsimp only at hSw); go_simp) <;> with_reducible rfl)
        try simp only [otc16_1, Act.put, List.setIfInBounds_toArray, List.set_cons_zero, List.set_cons_succ]
        refine wpAnyH_take (i := 2) (oi := otc16_2) (v := ?_) rfl (by kernel_rfl) (by kernel_rfl) (by kernel_rfl) (fun _ _ _ h => h) (Or.inl ⟨by rfl, ?_⟩) (by assumption) ?_
        rotate_left
        · ((intro w hSw; delta otc16_2; (try dsimp only at hSw); go_simp) <;> with_reducible rfl)
        try simp only [otc16_2, Act.put, List.setIfInBounds_toArray, List.set_cons_zero, List.set_cons_succ]
        refine wpAnyH_take (i := 3) (oi := otc16_3) (v := ?_) rfl (by kernel_rfl) (by kernel_rfl) (by kernel_rfl) (fun _ _ _ h => h) (Or.inl ⟨by rfl, ?_⟩) (by assumption) ?_
        rotate_left
        · ((intro w hSw; delta otc16_3; (try dsimp only at hSw); go_simp) <;> with_reducible rfl)
        try simp only [otc16_3, Act.put, List.setIfInBounds_toArray, List.set_cons_zero, List.set_cons_succ]
        refine wpAnyH_take (i := 4) (oi := otc16_4) (v := ?_) rfl (by kernel_rfl) (by kernel_rfl) (by kernel_rfl) (fun _ _ _ h => h) (Or.inl ⟨by rfl, ?_⟩) (by assumption) ?_
        rotate_left
        · ((intro w hSw; delta otc16_4; (try dsimp only at hSw); go_simp) <;> with_reducible rfl)
        try simp only [otc16_4, Act.put, List.setIfInBounds_toArray, List.set_cons_zero, List.set_cons_succ]
        refine wpAnyH_take (i := 5) (oi := otc16_5) (v := ?_) rfl (by kernel_rfl) (by kernel_rfl) (by kernel_rfl) (fun _ _ _ h => h) (Or.inl ⟨by rfl, ?_⟩) (by assumption) ?_
        rotate_left
        · ((intro w hSw; delta otc16_5; (try dsimp only at hSw); go_simp) <;> with_reducible rfl)
        try simp only [otc16_5, Act.put, List.setIfInBounds_toArray, List.set_cons_zero, List.set_cons_succ]
        refine wpAnyH_take (i := 6) (oi := otc16_6) (v := ?_) rfl (by kernel_rfl) (by kernel_rfl) (by kernel_rfl) (fun _ _ _ h => h) (Or.inl ⟨by rfl, ?_⟩) (by assumption) ?_
        rotate_left
        · ((intro w hSw; delta otc16_6; (try dsimp only at hSw); go_simp) <;> with_reducible rfl)
        try simp only [otc16_6, Act.put, List.setIfInBounds_toArray, List.set_cons_zero, List.set_cons_succ]
        refine wpAnyH_take (i := 7) (oi := otc16_7) (v := ?_) rfl (by kernel_rfl) (by kernel_rfl) (by kernel_rfl) (fun _ _ _ h => h) (Or.inl ⟨by rfl, ?_⟩) (by assumption) ?_
        rotate_left
        · ((intro w hSw; delta otc16_7; (try dsimp only at hSw); go_simp) <;> with_reducible rfl)
        try simp only [otc16_7, Act.put, List.setIfInBounds_toArray, List.set_cons_zero, List.set_cons_succ]
        refine wpAnyH_take (i := 9) (oi := otc16_9) (v := ?_) rfl (by kernel_rfl) (by kernel_rfl) (by kernel_rfl) (fun _ _ _ h => h) (Or.inl ⟨by rfl, ?_⟩) (by assumption) ?_
        rotate_left
        · ((intro w hSw; delta otc16_9; (try dsimp only at hSw); go_simp) <;> with_reducible rfl)
        try simp only [otc16_9, Act.put, List.setIfInBounds_toArray, List.set_cons_zero, List.set_cons_succ]
        refine wpAnyH_take (i := 10) (oi := otc16_10) (v := ?_) rfl (by kernel_rfl) (by kernel_rfl) (by kernel_rfl) (fun _ _ _ h => h) (Or.inl ⟨by rfl, ?_⟩) (by assumption) ?_
        rotate_left
        · ((intro w hSw; delta otc16_10; (try dsimp only at hSw); go_simp) <;> with_reducible rfl)
        try simp only [otc16_10, Act.put, List.setIfInBounds_toArray, List.set_cons_zero, List.set_cons_succ]
        refine wpAnyH_take (i := 11) (oi := otc16_11) (v := ?_) rfl (by kernel_rfl) (by kernel_rfl) (by kernel_rfl) (fun _ _ _ h => h) (Or.inl ⟨by rfl, ?_⟩) (by assumption) ?_
        rotate_left
        · ((intro w hSw; delta otc16_11; (try dsimp only at hSw); go_simp) <;> with_reducible rfl)
        try simp only [otc16_11, Act.put, List.setIfInBounds_toArray, List.set_cons_zero, List.set_cons_succ]
        refine wpAnyH_take (i := 12) (oi := otc16_12) (v := ?_) rfl (by kernel_rfl) (by kernel_rfl) (by kernel_rfl) (fun _ _ _ h => h) (Or.inl ⟨by rfl, ?_⟩) (by assumption) ?_
        rotate_left
        · ((intro w hSw; delta otc16_12; (try dsimp only at hSw); go_simp) <;> with_reducible rfl)
        try simp only [otc16_12, Act.put, List.setIfInBounds_toArray, List.set_cons_zero, List.set_cons_succ]
        refine wpAnyH_take (i := 13) (oi := otc16_13) (v := ?_) rfl (by kernel_rfl) (by kernel_rfl) (by kernel_rfl) (fun _ _ _ h => h) (Or.inl ⟨by rfl, ?_⟩) (by assumption) ?_
        rotate_left
        · ((intro w hSw; delta otc16_13; (try dsimp only at hSw); go_simp) <;> with_reducible rfl)
        try simp only [otc16_13, Act.put, List.setIfInBounds_toArray, List.set_cons_zero, List.set_cons_succ]
        refine wpAnyH_take (i := 14) (oi := otc16_14) (v := ?_) rfl (by kernel_rfl) (by kernel_rfl) (by kernel_rfl) (fun _ _ _ h => h) (Or.inl ⟨by rfl, ?_⟩) (by assumption) ?_
        rotate_left
        · ((intro w hSw; delta otc16_14; (try dsimp only at hSw); go_simp) <;> with_reducible rfl)
        try simp only [otc16_14, Act.put, List.setIfInBounds_toArray, List.set_cons_zero, List.set_cons_succ]
        refine wpAnyH_take (i := 15) (oi := otc16_15) (v := ?_) rfl (by kernel_rfl) (by kernel_rfl) (by kernel_rfl) (fun _ _ _ h => h) (Or.inl ⟨by rfl, ?_⟩) (by assumption) ?_
        rotate_left
        · ((intro w hSw; delta otc16_15; (try dsimp only at hSw); go_simp) <;> with_reducible rfl)
        try simp only [otc16_15, Act.put, List.setIfInBounds_toArray, List.set_cons_zero, List.set_cons_succ]
        refine wpAnyH_take (i := 16) (oi := otc16_16) (v := ?_) rfl (by kernel_rfl) (by kernel_rfl) (by kernel_rfl) (fun _ _ _ h => h) (Or.inl ⟨by rfl, ?_⟩) (by assumption) ?_
        rotate_left
        · ((intro w hSw; delta otc16_16; (try dsimp only at hSw); go_simp) <;> with_reducible rfl)
        try simp only [otc16_16, Act.put, List.setIfInBounds_toArray, List.set_cons_zero, List.set_cons_succ]
        refine wpAnyH_take (i := 17) (oi := otc16_17) (v := ?_) rfl (by kernel_rfl) (by kernel_rfl) (by kernel_rfl) (fun _ _ _ h => h) (Or.inl ⟨by rfl, ?_⟩) (by assumption) ?_
        rotate_left
        · ((intro w hSw; delta otc16_17; (try dsimp only at hSw); go_simp) <;> with_reducible rfl)
        try simp only [otc16_17, Act.put, List.setIfInBounds_toArray, List.set_cons_zero, List.set_cons_succ]
        refine wpAnyH_take (i := 18) (oi := otc16_18) (v := ?_) rfl (by kernel_rfl) (by kernel_rfl) (by kernel_rfl) (fun _ _ _ h => h) (Or.inl ⟨by rfl, ?_⟩) (by assumption) ?_
        rotate_left
        · ((intro w hSw; delta otc16_18; (try dsimp only at hSw); go_simp) <;> with_reducible rfl)
        try simp only [otc16_18, Act.put, List.setIfInBounds_toArray, List.set_cons_zero, List.set_cons_succ]
        refine wpAnyH_ready (rs := [8]) (by kernel_rfl) (by simp) ?_
        refine AllReadyH.cons (o := otc16_8) rfl (fun K hK => ?_) AllReadyH.nil
        delta otc16_8
        go_simp
        (refine (lspan_any _ _ _).mono ?_; rintro e W1 ⟨rfl, hb⟩; have HB1 : Hid (Below V26.heap.size V26 W1) := ((Below.drew (Below.refl V26.heap.size V26)).trans (hb.mono (by exact Nat.le_refl _))); clear hb)
        refine hK.out _ _ ?_ (fun hHeld => ?_)
        · (try dsimp only); (exact HS16.out _ HB1.out)
        clear hK K
        try simp only [otc16_8, Act.put, List.setIfInBounds_toArray, List.set_cons_zero, List.set_cons_succ]
        refine wpAnyH_ready (rs := [19]) (by kernel_rfl) (by simp) ?_
        refine AllReadyH.cons (o := otc16_19) rfl (fun K hK => ?_) AllReadyH.nil
        delta otc16_19
        go_simp
        (refine (lspan_any _ _ _).mono ?_; rintro e W2 ⟨rfl, hb⟩; have HB2 := Lib.hid (HB1.out.trans (hb.mono HB1.out.size)); clear hb)
        refine hK.out _ _ ?_ (fun hHeld => ?_)
        · (try dsimp only); (exact HS16.out _ HB2.out)
        clear hK K
        try simp only [otc16_19, Act.put, List.setIfInBounds_toArray, List.set_cons_zero, List.set_cons_succ]
        refine wpAnyH_ready (rs := [20]) (by kernel_rfl) (by simp) ?_
        refine AllReadyH.cons (o := otc16_20) rfl (fun K hK => ?_) AllReadyH.nil
        delta otc16_20
        go_simp
        (refine (lmeet_any _ _ _ _ _).mono ?_; rintro e W3 ⟨rfl, hb⟩; have HB3 := Lib.hid (HB2.out.trans (hb.mono HB2.out.size)); clear hb; rw [HMt.out])
        refine hK.out _ _ ?_ (fun hHeld => ?_)
        · (try dsimp only); (exact HS16.out _ HB3.out)
        clear hK K
        try simp only [otc16_20, Act.put, List.setIfInBounds_toArray, List.set_cons_zero, List.set_cons_succ]
        refine wpAnyH_take (i := 21) (oi := otc16_21) (v := ?_) rfl (by kernel_rfl) (by kernel_rfl) (by kernel_rfl) (fun _ _ _ h => h) (Or.inl ⟨by rfl, ?_⟩) (by assumption) ?_
        rotate_left
        · ((intro w hSw; delta otc16_21; (try dsimp only at hSw); go_simp) <;> with_reducible rfl)
        try simp only [otc16_21, Act.put, List.setIfInBounds_toArray, List.set_cons_zero, List.set_cons_succ]
        refine wpAnyH_take (i := 22) (oi := otc16_22) (v := ?_) rfl (by kernel_rfl) (by kernel_rfl) (by kernel_rfl) (fun _ _ _ h => h) (Or.inl ⟨by rfl, ?_⟩) (by assumption) ?_
        rotate_left
        · ((intro w hSw; delta otc16_22; (try dsimp only at hSw); go_simp) <;> with_reducible rfl)
        try simp only [otc16_22, Act.put, List.setIfInBounds_toArray, List.set_cons_zero, List.set_cons_succ]
        refine wpAnyH_ready (rs := [23]) (by kernel_rfl) (by simp) ?_
        refine AllReadyH.cons (o := otc16_23) rfl (fun K hK => ?_) AllReadyH.nil
        delta otc16_23
        go_simp
        (refine (works2_any _).mono ?_; rintro e W4 ⟨rfl, hb⟩; have HB4 := Lib.hid (HB3.out.trans (hb.mono HB3.out.size)); clear hb)
        refine hK.out _ _ ?_ (fun hHeld => ?_)
        · (try dsimp only); (exact HS16.out _ HB4.out)
        clear hK K
        try simp only [otc16_23, Act.put, List.setIfInBounds_toArray, List.set_cons_zero, List.set_cons_succ]
        refine wpAnyH_take (i := 24) (oi := otc16_24) (v := ?_) rfl (by kernel_rfl) (by kernel_rfl) (by kernel_rfl) (fun _ _ _ h => h) (Or.inl ⟨by rfl, ?_⟩) (by assumption) ?_
        rotate_left
        · ((intro w hSw; delta otc16_24; (try dsimp only at hSw); go_simp) <;> with_reducible rfl)
        try simp only [otc16_24, Act.put, List.setIfInBounds_toArray, List.set_cons_zero, List.set_cons_succ]
        refine wpAnyH_take (i := 25) (oi := otc16_25) (v := ?_) rfl (by kernel_rfl) (by kernel_rfl) (by kernel_rfl) (fun _ _ _ h => h) (Or.inl ⟨by rfl, ?_⟩) (by assumption) ?_
        rotate_left
        · ((intro w hSw; delta otc16_25; (try dsimp only at hSw); go_simp) <;> with_reducible rfl)
        try simp only [otc16_25, Act.put, List.setIfInBounds_toArray, List.set_cons_zero, List.set_cons_succ]
        refine wpAnyH_done (by kernel_rfl) ?_ _
        refine NoPanic.normal ?_
        go_wp2
        go_ret
        exact ⟨rfl, HXB.out.trans (HB4.out.mono HXB.out.size)⟩
end Go.Proofs.Ytfblpokjbopagaa
/-
  The law TideCircle returns true at every input, and its arguments read afterwards as before: at every two angles.
-/
namespace Go.Proofs.Ytfblpokjbopagaa.TideCircle
open Go.ChangeShapes Go.WideShapes Go.ChangeAt Go.WideMaps Go.WideElems Go.RowKit

set_option maxRecDepth 100000 in
theorem lifted (os : Os) (started : os.Started) (H : Type) (enc : TypeId × Value → H) :
    ReturnsInHanded {} Try.checked os 6 .any (Rows.tideCircleSpec.pre6 enc Try.prog Try.f6 Rows.tideCircleRow.domain false) (Rows.tideCircleSpec.post enc Try.prog Try.f6 false true false false) := by
  refine returnsInHanded_of_change (C := Try.checked) own_ started (by kernel_rfl) Try.func6
    (ChangeSpec.witness6 (enc := enc) (C := Try.checked) false ⟨#[], #[.int .i32 0, .int .i32 0], []⟩ 8 (by kernel_rfl) (by kernel_rfl) (by kernel_rfl) (by kernel_rfl)) ?_
  intro W base args ds gs before hval0 hW hcnd _
  have hval : ∀ (j : Nat) t v, Try.f6.params[j]? = some t → args[j]? = some v → Value.okWide Try.prog W .any base t v := hval0
  have hW' := hW
  obtain ⟨p, q, hA0, hV, rfl, hfz, hnd⟩ := hW
  have hA : DataW.TrodAll enc Try.prog W 0 (fun _ => true) true Try.f6.params.toList args.toList ds p := hA0
  rw [Try.params6] at hA hval
  obtain ⟨v0, vs0, d0, ds0, p0, q0, hargs, rfl, rfl, h0, r0⟩ := trodAll_cons hA
  obtain ⟨v1, vs1, d1, ds1, p1, q1, rfl, rfl, rfl, h1, r1⟩ := trodAll_cons r0
  obtain ⟨rfl, rfl, rfl⟩ := trodAll_nil r1
  obtain rfl : args = #[v0, v1] := by cases args; simp_all
  obtain ⟨rfl, rfl⟩ := trodVars_none hV
  obtain ⟨a0, rfl, _, _, w0⟩ := open_int Try.underlying21 (hval 0 21 v0 rfl rfl) h0
  have w0 := wf_i32 w0
  obtain ⟨a1, rfl, _, _, w1⟩ := open_int Try.underlying21 (hval 1 21 v1 rfl rfl) h1
  have w1 := wf_i32 w1
  clear hA0 hval0
  simp only [List.append_nil] at hW'
  have hlt : ∀ x ∈ p0 ++ p1, x.block < W.heap.size := fun x hx => by simpa using hW'.lt x (by simpa using hx)
  have k0 : ∀ x ∈ p0, x.block < W.heap.size := fun x hx => hlt x (by simp [hx])
  have k1 : ∀ x ∈ p1, x.block < W.heap.size := fun x hx => hlt x (by simp [hx])
  refine (TideCircle_any a0 a1 W w0 w1).mono ?_
  rintro e W' ⟨rfl, bel⟩
  refine ⟨_, rfl, _, _, _, [], (p0 ++ (p1 ++ [])), [], hW', ?_, ?_, ?_, bel.frame _, fun h => by cases h⟩
  · exact trodAll_mk1 (shut_bool Try.underlying4 true)
  · exact (trodAll_cons_mk (Below.trod laid_out (by kernel_rfl) (of_decide_eq_true (by kernel_rfl)) h0 bel k0) (trodAll_cons_mk (Below.trod laid_out (by kernel_rfl) (of_decide_eq_true (by kernel_rfl)) h1 bel k1) trodAll_mk0))
  · rfl
set_option maxRecDepth 100000 in
theorem over : Rows.tideCircleRow.holds Try.pinned (OpenSpec.ofChange Rows.tideCircleSpec) :=
  OpenClaim.holds_of_wide 6 Try.f6 rfl rfl rfl rfl rfl rfl rfl ⟨rfl, rfl, rfl, rfl, rfl⟩ rfl rfl rfl rfl rfl (by kernel_rfl) Try.func6 (by kernel_rfl)
    (of_decide_eq_true (by kernel_rfl)) (by unfold Func.isWrapper; first | (rw [if_pos (by decide +kernel)]; kernel_rfl) | (rw [if_neg (by decide +kernel)]; exact ⟨rfl, rfl⟩))
    (fun os started H enc _ => lifted os started H enc)
end Go.Proofs.Ytfblpokjbopagaa.TideCircle
namespace Go.Proofs.Ytfblpokjbopagaa
theorem TideCircle_row : Rows.TideCircleSaid := TideCircle.over
#print axioms TideCircle_row
end Go.Proofs.Ytfblpokjbopagaa
