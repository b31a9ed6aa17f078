/-
  GridTruth returns true.
-/
import Derived.Test.YthcenmocnphnmaaGreatDoorNL
import Derived.Test.YthcenmocnphnmaaGreatDoorND
set_option linter.unusedSimpArgs false
set_option linter.unusedVariables false
namespace Go.Proofs.YthcenmocnphnmaaGreatDoor
open Go.RowKit Go.Shelf

theorem own_open {w : World} {base e size n : Nat} {v : Value} {xs : List Value} (h : w.ownsRow base e size v n xs) : ∃ A c, v = .slice A n c := by
  rcases h.2 with ⟨rfl, rfl⟩ | ⟨g, cap, cur, rfl, _⟩
  · exact ⟨none, 0, rfl⟩
  · exact ⟨_, _, rfl⟩
theorem lwithin_k {a b c d : Int} (h : withinB (a, b) (c, d) = true) (w0 : World) (W : World) (hW : Below w0.heap.size w0 W) :
    Calls Tryz.prog 43 #[.agg #[.int .i64 a, .int .i64 b], .agg #[.int .i64 c, .int .i64 d]] W fun e w' => e = .returned (.bool true) ∧ Hid (Below w0.heap.size w0 w') := by
  have k := lwithin_any a b c d W
  rw [h] at k
  exact k.mono fun _ _ h => ⟨h.1, hW.trans (h.2.mono hW.size)⟩
def o4_0 : Oper := { dst := some 45, op := Op.load 24 (Operand.tmp 11), type := 24, pos := "outright.go:99", after := #[], guard := none }
def o4_1 : Oper := { dst := some 46, op := Op.move (Operand.tmp 1), type := 62, pos := "outright.go:99", after := #[], guard := none }
def o4_2 : Oper := { dst := some 47, op := Op.call { callee := Callee.value (Operand.func 40), args := #[Operand.tmp 45, Operand.tmp 46], argTypes := #[24, 62] }, type := 26, pos := "outright.go:99", after := #[{ on := 0, ground := Ground.data }, { on := 1, ground := Ground.data }], guard := none }
def o4_3 : Oper := { dst := some 48, op := Op.load 24 (Operand.tmp 11), type := 24, pos := "outright.go:99", after := #[], guard := none }
def o4_4 : Oper := { dst := some 49, op := Op.move (Operand.tmp 2), type := 62, pos := "outright.go:99", after := #[], guard := none }
def o4_5 : Oper := { dst := some 50, op := Op.call { callee := Callee.value (Operand.func 41), args := #[Operand.tmp 48, Operand.tmp 49], argTypes := #[24, 62] }, type := 24, pos := "outright.go:99", after := #[{ on := 3, ground := Ground.data }, { on := 4, ground := Ground.data }, { on := 2, ground := Ground.chain }], guard := none }
def o4_6 : Oper := { dst := some 13, op := Op.alloc 24, type := 0, pos := "outright.go:99", after := #[], guard := none }
def o4_7 : Oper := { dst := some 12, op := Op.assign (Operand.tmp 47), type := 26, pos := "outright.go:99", after := #[{ on := 2, ground := Ground.data }, { on := 5, ground := Ground.chain }, { on := 0, ground := Ground.phase }, { on := 1, ground := Ground.phase }, { on := 2, ground := Ground.phase }, { on := 3, ground := Ground.textOnly Departure.lateStores }, { on := 4, ground := Ground.textOnly Departure.lateStores }, { on := 5, ground := Ground.textOnly Departure.lateStoresUnsure }, { on := 6, ground := Ground.phase }], guard := none }
def o4_8 : Oper := { dst := none, op := Op.store 24 (Operand.tmp 13) (Operand.tmp 50), type := 0, pos := "outright.go:99", after := #[{ on := 6, ground := Ground.data }, { on := 5, ground := Ground.data }, { on := 7, ground := Ground.chain }, { on := 0, ground := Ground.phase }, { on := 1, ground := Ground.phase }, { on := 2, ground := Ground.phase }, { on := 3, ground := Ground.phase }, { on := 4, ground := Ground.phase }, { on := 5, ground := Ground.phase }, { on := 6, ground := Ground.phase }, { on := 7, ground := Ground.phase }], guard := none }
def o26_0 : Oper := { dst := some 210, op := Op.move (Operand.tmp 17), type := 22, pos := "outright.go:117", after := #[], guard := none }
def o26_1 : Oper := { dst := some 211, op := Op.move (Operand.tmp 30), type := 3, pos := "outright.go:117", after := #[], guard := none }
def o26_2 : Oper := { dst := some 212, op := Op.indexAddr 22 (Operand.tmp 210) (Operand.tmp 211), type := 0, pos := "outright.go:117", after := #[{ on := 0, ground := Ground.data }, { on := 1, ground := Ground.data }], guard := none }
def o26_3 : Oper := { dst := some 213, op := Op.load 34 (Operand.tmp 212), type := 34, pos := "outright.go:117", after := #[{ on := 2, ground := Ground.data }], guard := none }
def o26_4 : Oper := { dst := some 214, op := Op.move (Operand.tmp 15), type := 22, pos := "outright.go:117", after := #[], guard := none }
def o26_5 : Oper := { dst := some 215, op := Op.move (Operand.tmp 30), type := 3, pos := "outright.go:117", after := #[], guard := none }
def o26_6 : Oper := { dst := some 216, op := Op.indexAddr 22 (Operand.tmp 214) (Operand.tmp 215), type := 0, pos := "outright.go:117", after := #[{ on := 4, ground := Ground.data }, { on := 5, ground := Ground.data }], guard := none }
def o26_7 : Oper := { dst := some 217, op := Op.load 34 (Operand.tmp 216), type := 34, pos := "outright.go:117", after := #[{ on := 6, ground := Ground.data }], guard := none }
def o26_8 : Oper := { dst := some 218, op := Op.call { callee := Callee.value (Operand.func 43), args := #[Operand.tmp 213, Operand.tmp 217], argTypes := #[34, 34] }, type := 4, pos := "outright.go:117", after := #[{ on := 3, ground := Ground.data }, { on := 7, ground := Ground.data }], guard := none }
def o26_9 : Oper := { dst := some 219, op := Op.unOp UnOp.not 4 (Operand.tmp 218), type := 4, pos := "outright.go:117", after := #[{ on := 8, ground := Ground.data }], guard := none }
def o26_10 : Oper := { dst := some 220, op := Op.move (Operand.tmp 219), type := 4, pos := "outright.go:117", after := #[{ on := 9, ground := Ground.data }, { on := 8, ground := Ground.chain }], guard := none }
def o26_11 : Oper := { dst := some 221, op := Op.move (Operand.tmp 17), type := 22, pos := "outright.go:117", after := #[{ on := 10, ground := Ground.guard }], guard := some (10, false) }
def o26_12 : Oper := { dst := some 222, op := Op.move (Operand.tmp 30), type := 3, pos := "outright.go:117", after := #[{ on := 10, ground := Ground.guard }], guard := some (10, false) }
def o26_13 : Oper := { dst := some 223, op := Op.indexAddr 22 (Operand.tmp 221) (Operand.tmp 222), type := 0, pos := "outright.go:117", after := #[{ on := 11, ground := Ground.data }, { on := 12, ground := Ground.data }, { on := 10, ground := Ground.guard }], guard := some (10, false) }
def o26_14 : Oper := { dst := some 224, op := Op.fieldAddr 34 (Operand.tmp 223) 0, type := 0, pos := "outright.go:117", after := #[{ on := 13, ground := Ground.data }, { on := 10, ground := Ground.guard }], guard := some (10, false) }
def o26_15 : Oper := { dst := some 225, op := Op.load 3 (Operand.tmp 224), type := 3, pos := "outright.go:117", after := #[{ on := 14, ground := Ground.data }, { on := 10, ground := Ground.guard }], guard := some (10, false) }
def o26_16 : Oper := { dst := some 226, op := Op.move (Operand.tmp 17), type := 22, pos := "outright.go:117", after := #[{ on := 10, ground := Ground.guard }], guard := some (10, false) }
def o26_17 : Oper := { dst := some 227, op := Op.move (Operand.tmp 30), type := 3, pos := "outright.go:117", after := #[{ on := 10, ground := Ground.guard }], guard := some (10, false) }
def o26_18 : Oper := { dst := some 228, op := Op.indexAddr 22 (Operand.tmp 226) (Operand.tmp 227), type := 0, pos := "outright.go:117", after := #[{ on := 16, ground := Ground.data }, { on := 17, ground := Ground.data }, { on := 10, ground := Ground.guard }], guard := some (10, false) }
def o26_19 : Oper := { dst := some 229, op := Op.fieldAddr 34 (Operand.tmp 228) 1, type := 0, pos := "outright.go:117", after := #[{ on := 18, ground := Ground.data }, { on := 10, ground := Ground.guard }], guard := some (10, false) }
def o26_20 : Oper := { dst := some 230, op := Op.load 3 (Operand.tmp 229), type := 3, pos := "outright.go:117", after := #[{ on := 19, ground := Ground.data }, { on := 10, ground := Ground.guard }], guard := some (10, false) }
def o26_21 : Oper := { dst := some 231, op := Op.binOp BinOp.neq 3 (Operand.tmp 225) (Operand.tmp 230) 3, type := 4, pos := "outright.go:117", after := #[{ on := 15, ground := Ground.data }, { on := 20, ground := Ground.data }, { on := 10, ground := Ground.guard }], guard := some (10, false) }
def o26_22 : Oper := { dst := some 232, op := Op.pick (Operand.tmp 220) (Operand.const (Value.bool true)) (Operand.tmp 231), type := 4, pos := "outright.go:117", after := #[{ on := 10, ground := Ground.data }, { on := 21, ground := Ground.data }], guard := none }
def o26_23 : Oper := { dst := some 233, op := Op.move (Operand.tmp 232), type := 4, pos := "outright.go:117", after := #[{ on := 22, ground := Ground.data }, { on := 10, ground := Ground.chain }], guard := none }
def o26_24 : Oper := { dst := some 234, op := Op.move (Operand.tmp 21), type := 22, pos := "outright.go:117", after := #[{ on := 23, ground := Ground.guard }], guard := some (23, false) }
def o26_25 : Oper := { dst := some 235, op := Op.move (Operand.tmp 30), type := 3, pos := "outright.go:117", after := #[{ on := 23, ground := Ground.guard }], guard := some (23, false) }
def o26_26 : Oper := { dst := some 236, op := Op.indexAddr 22 (Operand.tmp 234) (Operand.tmp 235), type := 0, pos := "outright.go:117", after := #[{ on := 24, ground := Ground.data }, { on := 25, ground := Ground.data }, { on := 23, ground := Ground.guard }], guard := some (23, false) }
def o26_27 : Oper := { dst := some 237, op := Op.load 34 (Operand.tmp 236), type := 34, pos := "outright.go:117", after := #[{ on := 26, ground := Ground.data }, { on := 23, ground := Ground.guard }], guard := some (23, false) }
def o26_28 : Oper := { dst := some 238, op := Op.move (Operand.tmp 19), type := 22, pos := "outright.go:117", after := #[{ on := 23, ground := Ground.guard }], guard := some (23, false) }
def o26_29 : Oper := { dst := some 239, op := Op.move (Operand.tmp 30), type := 3, pos := "outright.go:117", after := #[{ on := 23, ground := Ground.guard }], guard := some (23, false) }
def o26_30 : Oper := { dst := some 240, op := Op.indexAddr 22 (Operand.tmp 238) (Operand.tmp 239), type := 0, pos := "outright.go:117", after := #[{ on := 28, ground := Ground.data }, { on := 29, ground := Ground.data }, { on := 23, ground := Ground.guard }], guard := some (23, false) }
def o26_31 : Oper := { dst := some 241, op := Op.load 34 (Operand.tmp 240), type := 34, pos := "outright.go:117", after := #[{ on := 30, ground := Ground.data }, { on := 23, ground := Ground.guard }], guard := some (23, false) }
def o26_32 : Oper := { dst := some 242, op := Op.call { callee := Callee.value (Operand.func 43), args := #[Operand.tmp 237, Operand.tmp 241], argTypes := #[34, 34] }, type := 4, pos := "outright.go:117", after := #[{ on := 27, ground := Ground.data }, { on := 31, ground := Ground.data }, { on := 23, ground := Ground.chain }, { on := 23, ground := Ground.guard }], guard := some (23, false) }
def o26_33 : Oper := { dst := some 243, op := Op.unOp UnOp.not 4 (Operand.tmp 242), type := 4, pos := "outright.go:117", after := #[{ on := 32, ground := Ground.data }, { on := 23, ground := Ground.guard }], guard := some (23, false) }
def o26_34 : Oper := { dst := some 244, op := Op.pick (Operand.tmp 233) (Operand.const (Value.bool true)) (Operand.tmp 243), type := 4, pos := "outright.go:117", after := #[{ on := 23, ground := Ground.data }, { on := 33, ground := Ground.data }], guard := none }
def o26_35 : Oper := { dst := some 245, op := Op.move (Operand.tmp 244), type := 4, pos := "outright.go:117", after := #[{ on := 34, ground := Ground.data }, { on := 32, ground := Ground.chain }], guard := none }
def o26_36 : Oper := { dst := some 246, op := Op.move (Operand.tmp 21), type := 22, pos := "outright.go:117", after := #[{ on := 35, ground := Ground.guard }], guard := some (35, false) }
def o26_37 : Oper := { dst := some 247, op := Op.move (Operand.tmp 30), type := 3, pos := "outright.go:117", after := #[{ on := 35, ground := Ground.guard }], guard := some (35, false) }
def o26_38 : Oper := { dst := some 248, op := Op.indexAddr 22 (Operand.tmp 246) (Operand.tmp 247), type := 0, pos := "outright.go:117", after := #[{ on := 36, ground := Ground.data }, { on := 37, ground := Ground.data }, { on := 35, ground := Ground.guard }], guard := some (35, false) }
def o26_39 : Oper := { dst := some 249, op := Op.fieldAddr 34 (Operand.tmp 248) 0, type := 0, pos := "outright.go:117", after := #[{ on := 38, ground := Ground.data }, { on := 35, ground := Ground.guard }], guard := some (35, false) }
def o26_40 : Oper := { dst := some 250, op := Op.load 3 (Operand.tmp 249), type := 3, pos := "outright.go:117", after := #[{ on := 39, ground := Ground.data }, { on := 35, ground := Ground.guard }], guard := some (35, false) }
def o26_41 : Oper := { dst := some 251, op := Op.move (Operand.tmp 21), type := 22, pos := "outright.go:117", after := #[{ on := 35, ground := Ground.guard }], guard := some (35, false) }
def o26_42 : Oper := { dst := some 252, op := Op.move (Operand.tmp 30), type := 3, pos := "outright.go:117", after := #[{ on := 35, ground := Ground.guard }], guard := some (35, false) }
def o26_43 : Oper := { dst := some 253, op := Op.indexAddr 22 (Operand.tmp 251) (Operand.tmp 252), type := 0, pos := "outright.go:117", after := #[{ on := 41, ground := Ground.data }, { on := 42, ground := Ground.data }, { on := 35, ground := Ground.guard }], guard := some (35, false) }
def o26_44 : Oper := { dst := some 254, op := Op.fieldAddr 34 (Operand.tmp 253) 1, type := 0, pos := "outright.go:117", after := #[{ on := 43, ground := Ground.data }, { on := 35, ground := Ground.guard }], guard := some (35, false) }
def o26_45 : Oper := { dst := some 255, op := Op.load 3 (Operand.tmp 254), type := 3, pos := "outright.go:117", after := #[{ on := 44, ground := Ground.data }, { on := 35, ground := Ground.guard }], guard := some (35, false) }
def o26_46 : Oper := { dst := some 256, op := Op.binOp BinOp.neq 3 (Operand.tmp 250) (Operand.tmp 255) 3, type := 4, pos := "outright.go:117", after := #[{ on := 40, ground := Ground.data }, { on := 45, ground := Ground.data }, { on := 35, ground := Ground.guard }], guard := some (35, false) }
def o26_47 : Oper := { dst := some 257, op := Op.pick (Operand.tmp 245) (Operand.const (Value.bool true)) (Operand.tmp 256), type := 4, pos := "outright.go:117", after := #[{ on := 35, ground := Ground.data }, { on := 46, ground := Ground.data }], guard := none }
def o28_0 : Oper := { dst := some 258, op := Op.load 24 (Operand.tmp 11), type := 24, pos := "outright.go:121", after := #[], guard := none }
def o28_1 : Oper := { dst := some 259, op := Op.load 24 (Operand.tmp 11), type := 24, pos := "outright.go:121", after := #[{ on := 8, ground := Ground.gcOnly Departure.lateStores }], guard := none }
def o28_2 : Oper := { dst := some 260, op := Op.load 24 (Operand.tmp 11), type := 24, pos := "outright.go:121", after := #[{ on := 9, ground := Ground.gcOnly Departure.lateStores }], guard := none }
def o28_3 : Oper := { dst := some 261, op := Op.load 24 (Operand.tmp 11), type := 24, pos := "outright.go:121", after := #[{ on := 10, ground := Ground.gcOnly Departure.lateStores }], guard := none }
def o28_4 : Oper := { dst := some 31, op := Op.alloc 24, type := 0, pos := "outright.go:121", after := #[], guard := none }
def o28_5 : Oper := { dst := some 32, op := Op.alloc 24, type := 0, pos := "outright.go:121", after := #[], guard := none }
def o28_6 : Oper := { dst := some 33, op := Op.alloc 24, type := 0, pos := "outright.go:121", after := #[], guard := none }
def o28_7 : Oper := { dst := some 34, op := Op.alloc 24, type := 0, pos := "outright.go:121", after := #[], guard := none }
def o28_8 : Oper := { dst := none, op := Op.store 24 (Operand.tmp 31) (Operand.tmp 258), type := 0, pos := "outright.go:121", after := #[{ on := 4, ground := Ground.data }, { on := 0, ground := Ground.data }, { on := 0, ground := Ground.phase }, { on := 1, ground := Ground.textOnly Departure.lateStores }, { on := 2, ground := Ground.textOnly Departure.lateStores }, { on := 3, ground := Ground.textOnly Departure.lateStores }, { on := 4, ground := Ground.phase }, { on := 5, ground := Ground.phase }, { on := 6, ground := Ground.phase }, { on := 7, ground := Ground.phase }], guard := none }
def o28_9 : Oper := { dst := none, op := Op.store 24 (Operand.tmp 32) (Operand.tmp 259), type := 0, pos := "outright.go:121", after := #[{ on := 5, ground := Ground.data }, { on := 1, ground := Ground.data }, { on := 8, ground := Ground.chain }, { on := 0, ground := Ground.phase }, { on := 1, ground := Ground.phase }, { on := 2, ground := Ground.textOnly Departure.lateStores }, { on := 3, ground := Ground.textOnly Departure.lateStores }, { on := 4, ground := Ground.phase }, { on := 5, ground := Ground.phase }, { on := 6, ground := Ground.phase }, { on := 7, ground := Ground.phase }, { on := 8, ground := Ground.phase }], guard := none }
def o28_10 : Oper := { dst := none, op := Op.store 24 (Operand.tmp 33) (Operand.tmp 260), type := 0, pos := "outright.go:121", after := #[{ on := 6, ground := Ground.data }, { on := 2, ground := Ground.data }, { on := 9, ground := Ground.chain }, { on := 0, ground := Ground.phase }, { on := 1, ground := Ground.phase }, { on := 2, ground := Ground.phase }, { on := 3, ground := Ground.textOnly Departure.lateStores }, { on := 4, ground := Ground.phase }, { on := 5, ground := Ground.phase }, { on := 6, ground := Ground.phase }, { on := 7, ground := Ground.phase }, { on := 8, ground := Ground.phase }, { on := 9, ground := Ground.phase }], guard := none }
def o28_11 : Oper := { dst := none, op := Op.store 24 (Operand.tmp 34) (Operand.tmp 261), type := 0, pos := "outright.go:121", after := #[{ on := 7, ground := Ground.data }, { on := 3, ground := Ground.data }, { on := 10, ground := Ground.chain }, { on := 0, ground := Ground.phase }, { on := 1, ground := Ground.phase }, { on := 2, ground := Ground.phase }, { on := 3, ground := Ground.phase }, { on := 4, ground := Ground.phase }, { on := 5, ground := Ground.phase }, { on := 6, ground := Ground.phase }, { on := 7, ground := Ground.phase }, { on := 8, ground := Ground.phase }, { on := 9, ground := Ground.phase }, { on := 10, ground := Ground.phase }], guard := none }
def o33_0 : Oper := { dst := some 274, op := Op.fieldAddr 34 (Operand.tmp 36) 0, type := 0, pos := "outright.go:124", after := #[], guard := none }
def o33_1 : Oper := { dst := some 275, op := Op.load 3 (Operand.tmp 274), type := 3, pos := "outright.go:124", after := #[{ on := 0, ground := Ground.data }], guard := none }
def o33_2 : Oper := { dst := some 276, op := Op.fieldAddr 34 (Operand.tmp 36) 0, type := 0, pos := "outright.go:124", after := #[], guard := none }
def o33_3 : Oper := { dst := some 277, op := Op.load 3 (Operand.tmp 276), type := 3, pos := "outright.go:124", after := #[{ on := 2, ground := Ground.data }], guard := none }
def o33_4 : Oper := { dst := some 278, op := Op.build 34 #[(0, Operand.tmp 275), (1, Operand.tmp 277)], type := 34, pos := "outright.go:124", after := #[{ on := 1, ground := Ground.data }, { on := 3, ground := Ground.data }], guard := none }
def o33_5 : Oper := { dst := some 279, op := Op.fieldAddr 34 (Operand.tmp 36) 1, type := 0, pos := "outright.go:124", after := #[{ on := 12, ground := Ground.gcOnly Departure.lateStores }], guard := none }
def o33_6 : Oper := { dst := some 280, op := Op.load 3 (Operand.tmp 279), type := 3, pos := "outright.go:124", after := #[{ on := 5, ground := Ground.data }, { on := 12, ground := Ground.gcOnly Departure.lateStores }], guard := none }
def o33_7 : Oper := { dst := some 281, op := Op.fieldAddr 34 (Operand.tmp 36) 1, type := 0, pos := "outright.go:124", after := #[{ on := 12, ground := Ground.gcOnly Departure.lateStores }], guard := none }
def o33_8 : Oper := { dst := some 282, op := Op.load 3 (Operand.tmp 281), type := 3, pos := "outright.go:124", after := #[{ on := 7, ground := Ground.data }, { on := 12, ground := Ground.gcOnly Departure.lateStores }], guard := none }
def o33_9 : Oper := { dst := some 283, op := Op.build 34 #[(0, Operand.tmp 280), (1, Operand.tmp 282)], type := 34, pos := "outright.go:124", after := #[{ on := 6, ground := Ground.data }, { on := 8, ground := Ground.data }, { on := 12, ground := Ground.gcOnly Departure.lateStores }], guard := none }
def o33_10 : Oper := { dst := some 37, op := Op.alloc 34, type := 0, pos := "outright.go:124", after := #[], guard := none }
def o33_11 : Oper := { dst := some 38, op := Op.alloc 34, type := 0, pos := "outright.go:124", after := #[], guard := none }
def o33_12 : Oper := { dst := none, op := Op.store 34 (Operand.tmp 37) (Operand.tmp 278), type := 0, pos := "outright.go:124", after := #[{ on := 10, ground := Ground.data }, { on := 4, ground := Ground.data }, { on := 0, ground := Ground.phase }, { on := 1, ground := Ground.phase }, { on := 2, ground := Ground.phase }, { on := 3, ground := Ground.phase }, { on := 4, ground := Ground.phase }, { on := 5, ground := Ground.textOnly Departure.lateStores }, { on := 6, ground := Ground.textOnly Departure.lateStores }, { on := 7, ground := Ground.textOnly Departure.lateStores }, { on := 8, ground := Ground.textOnly Departure.lateStores }, { on := 9, ground := Ground.textOnly Departure.lateStores }, { on := 10, ground := Ground.phase }, { on := 11, ground := Ground.phase }], guard := none }
def o33_13 : Oper := { dst := none, op := Op.store 34 (Operand.tmp 38) (Operand.tmp 283), type := 0, pos := "outright.go:124", after := #[{ on := 11, ground := Ground.data }, { on := 9, ground := Ground.data }, { on := 12, ground := Ground.chain }, { on := 0, ground := Ground.phase }, { on := 1, ground := Ground.phase }, { on := 2, ground := Ground.phase }, { on := 3, ground := Ground.phase }, { on := 4, ground := Ground.phase }, { on := 5, ground := Ground.phase }, { on := 6, ground := Ground.phase }, { on := 7, ground := Ground.phase }, { on := 8, ground := Ground.phase }, { on := 9, ground := Ground.phase }, { on := 10, ground := Ground.phase }, { on := 11, ground := Ground.phase }, { on := 12, ground := Ground.phase }], guard := none }
def o34_0 : Oper := { dst := some 284, op := Op.fieldAddr 24 (Operand.tmp 31) 3, type := 0, pos := "outright.go:125", after := #[], guard := none }
def o34_1 : Oper := { dst := some 285, op := Op.load 22 (Operand.tmp 284), type := 22, pos := "outright.go:125", after := #[{ on := 0, ground := Ground.data }], guard := none }
def o34_2 : Oper := { dst := some 286, op := Op.load 34 (Operand.tmp 37), type := 34, pos := "outright.go:125", after := #[], guard := none }
def o34_3 : Oper := { dst := some 287, op := Op.buildSlice 22 1 #[(0, Operand.tmp 286)], type := 22, pos := "outright.go:125", after := #[{ on := 2, ground := Ground.data }], guard := none }
def o34_4 : Oper := { dst := some 288, op := Op.call { callee := Callee.builtin Builtin.append, args := #[Operand.tmp 285, Operand.tmp 287], argTypes := #[22, 22] }, type := 22, pos := "outright.go:125", after := #[{ on := 1, ground := Ground.data }, { on := 3, ground := Ground.data }], guard := none }
def o34_5 : Oper := { dst := some 289, op := Op.fieldAddr 24 (Operand.tmp 32) 3, type := 0, pos := "outright.go:125", after := #[], guard := none }
def o34_6 : Oper := { dst := some 290, op := Op.load 22 (Operand.tmp 289), type := 22, pos := "outright.go:125", after := #[{ on := 5, ground := Ground.data }], guard := none }
def o34_7 : Oper := { dst := some 291, op := Op.load 34 (Operand.tmp 38), type := 34, pos := "outright.go:125", after := #[], guard := none }
def o34_8 : Oper := { dst := some 292, op := Op.buildSlice 22 1 #[(0, Operand.tmp 291)], type := 22, pos := "outright.go:125", after := #[{ on := 7, ground := Ground.data }], guard := none }
def o34_9 : Oper := { dst := some 293, op := Op.call { callee := Callee.builtin Builtin.append, args := #[Operand.tmp 290, Operand.tmp 292], argTypes := #[22, 22] }, type := 22, pos := "outright.go:125", after := #[{ on := 6, ground := Ground.data }, { on := 8, ground := Ground.data }, { on := 4, ground := Ground.chain }], guard := none }
def o34_10 : Oper := { dst := some 294, op := Op.fieldAddr 24 (Operand.tmp 31) 3, type := 0, pos := "outright.go:125", after := #[{ on := 0, ground := Ground.phase }, { on := 1, ground := Ground.phase }, { on := 2, ground := Ground.phase }, { on := 3, ground := Ground.phase }, { on := 4, ground := Ground.phase }, { on := 5, ground := Ground.textOnly Departure.lateStores }, { on := 6, ground := Ground.textOnly Departure.lateStores }, { on := 7, ground := Ground.textOnly Departure.lateStores }, { on := 8, ground := Ground.textOnly Departure.lateStores }, { on := 9, ground := Ground.textOnly Departure.lateStoresUnsure }], guard := none }
def o34_11 : Oper := { dst := none, op := Op.store 22 (Operand.tmp 294) (Operand.tmp 288), type := 0, pos := "outright.go:125", after := #[{ on := 10, ground := Ground.data }, { on := 4, ground := Ground.data }, { on := 9, ground := Ground.chain }, { on := 0, ground := Ground.phase }, { on := 1, ground := Ground.phase }, { on := 2, ground := Ground.phase }, { on := 3, ground := Ground.phase }, { on := 4, ground := Ground.phase }, { on := 5, ground := Ground.textOnly Departure.lateStores }, { on := 6, ground := Ground.textOnly Departure.lateStores }, { on := 7, ground := Ground.textOnly Departure.lateStores }, { on := 8, ground := Ground.textOnly Departure.lateStores }, { on := 9, ground := Ground.textOnly Departure.lateStoresUnsure }], guard := none }
def o34_12 : Oper := { dst := some 295, op := Op.fieldAddr 24 (Operand.tmp 32) 3, type := 0, pos := "outright.go:125", after := #[{ on := 0, ground := Ground.phase }, { on := 1, ground := Ground.phase }, { on := 2, ground := Ground.phase }, { on := 3, ground := Ground.phase }, { on := 4, ground := Ground.phase }, { on := 5, ground := Ground.phase }, { on := 6, ground := Ground.phase }, { on := 7, ground := Ground.phase }, { on := 8, ground := Ground.phase }, { on := 9, ground := Ground.phase }, { on := 10, ground := Ground.phase }, { on := 11, ground := Ground.phase }], guard := none }
def o34_13 : Oper := { dst := none, op := Op.store 22 (Operand.tmp 295) (Operand.tmp 293), type := 0, pos := "outright.go:125", after := #[{ on := 12, ground := Ground.data }, { on := 9, ground := Ground.data }, { on := 11, ground := Ground.chain }, { on := 0, ground := Ground.phase }, { on := 1, ground := Ground.phase }, { on := 2, ground := Ground.phase }, { on := 3, ground := Ground.phase }, { on := 4, ground := Ground.phase }, { on := 5, ground := Ground.phase }, { on := 6, ground := Ground.phase }, { on := 7, ground := Ground.phase }, { on := 8, ground := Ground.phase }, { on := 9, ground := Ground.phase }, { on := 10, ground := Ground.phase }, { on := 11, ground := Ground.phase }], guard := none }
def o37_0 : Oper := { dst := some 301, op := Op.fieldAddr 24 (Operand.tmp 34) 3, type := 0, pos := "outright.go:129", after := #[], guard := none }
def o37_1 : Oper := { dst := some 302, op := Op.load 22 (Operand.tmp 301), type := 22, pos := "outright.go:129", after := #[{ on := 0, ground := Ground.data }], guard := none }
def o37_2 : Oper := { dst := some 303, op := Op.load 34 (Operand.tmp 37), type := 34, pos := "outright.go:129", after := #[], guard := none }
def o37_3 : Oper := { dst := some 304, op := Op.buildSlice 22 1 #[(0, Operand.tmp 303)], type := 22, pos := "outright.go:129", after := #[{ on := 2, ground := Ground.data }], guard := none }
def o37_4 : Oper := { dst := some 305, op := Op.call { callee := Callee.builtin Builtin.append, args := #[Operand.tmp 302, Operand.tmp 304], argTypes := #[22, 22] }, type := 22, pos := "outright.go:129", after := #[{ on := 1, ground := Ground.data }, { on := 3, ground := Ground.data }], guard := none }
def o37_5 : Oper := { dst := some 306, op := Op.fieldAddr 24 (Operand.tmp 33) 3, type := 0, pos := "outright.go:129", after := #[], guard := none }
def o37_6 : Oper := { dst := some 307, op := Op.load 22 (Operand.tmp 306), type := 22, pos := "outright.go:129", after := #[{ on := 5, ground := Ground.data }], guard := none }
def o37_7 : Oper := { dst := some 308, op := Op.load 34 (Operand.tmp 38), type := 34, pos := "outright.go:129", after := #[], guard := none }
def o37_8 : Oper := { dst := some 309, op := Op.buildSlice 22 1 #[(0, Operand.tmp 308)], type := 22, pos := "outright.go:129", after := #[{ on := 7, ground := Ground.data }], guard := none }
def o37_9 : Oper := { dst := some 310, op := Op.call { callee := Callee.builtin Builtin.append, args := #[Operand.tmp 307, Operand.tmp 309], argTypes := #[22, 22] }, type := 22, pos := "outright.go:129", after := #[{ on := 6, ground := Ground.data }, { on := 8, ground := Ground.data }, { on := 4, ground := Ground.chain }], guard := none }
def o37_10 : Oper := { dst := some 311, op := Op.fieldAddr 24 (Operand.tmp 34) 3, type := 0, pos := "outright.go:129", after := #[{ on := 0, ground := Ground.phase }, { on := 1, ground := Ground.phase }, { on := 2, ground := Ground.phase }, { on := 3, ground := Ground.phase }, { on := 4, ground := Ground.phase }, { on := 5, ground := Ground.textOnly Departure.lateStores }, { on := 6, ground := Ground.textOnly Departure.lateStores }, { on := 7, ground := Ground.textOnly Departure.lateStores }, { on := 8, ground := Ground.textOnly Departure.lateStores }, { on := 9, ground := Ground.textOnly Departure.lateStoresUnsure }], guard := none }
def o37_11 : Oper := { dst := none, op := Op.store 22 (Operand.tmp 311) (Operand.tmp 305), type := 0, pos := "outright.go:129", after := #[{ on := 10, ground := Ground.data }, { on := 4, ground := Ground.data }, { on := 9, ground := Ground.chain }, { on := 0, ground := Ground.phase }, { on := 1, ground := Ground.phase }, { on := 2, ground := Ground.phase }, { on := 3, ground := Ground.phase }, { on := 4, ground := Ground.phase }, { on := 5, ground := Ground.textOnly Departure.lateStores }, { on := 6, ground := Ground.textOnly Departure.lateStores }, { on := 7, ground := Ground.textOnly Departure.lateStores }, { on := 8, ground := Ground.textOnly Departure.lateStores }, { on := 9, ground := Ground.textOnly Departure.lateStoresUnsure }], guard := none }
def o37_12 : Oper := { dst := some 312, op := Op.fieldAddr 24 (Operand.tmp 33) 3, type := 0, pos := "outright.go:129", after := #[{ on := 0, ground := Ground.phase }, { on := 1, ground := Ground.phase }, { on := 2, ground := Ground.phase }, { on := 3, ground := Ground.phase }, { on := 4, ground := Ground.phase }, { on := 5, ground := Ground.phase }, { on := 6, ground := Ground.phase }, { on := 7, ground := Ground.phase }, { on := 8, ground := Ground.phase }, { on := 9, ground := Ground.phase }, { on := 10, ground := Ground.phase }, { on := 11, ground := Ground.phase }], guard := none }
def o37_13 : Oper := { dst := none, op := Op.store 22 (Operand.tmp 312) (Operand.tmp 310), type := 0, pos := "outright.go:129", after := #[{ on := 12, ground := Ground.data }, { on := 9, ground := Ground.data }, { on := 11, ground := Ground.chain }, { on := 0, ground := Ground.phase }, { on := 1, ground := Ground.phase }, { on := 2, ground := Ground.phase }, { on := 3, ground := Ground.phase }, { on := 4, ground := Ground.phase }, { on := 5, ground := Ground.phase }, { on := 6, ground := Ground.phase }, { on := 7, ground := Ground.phase }, { on := 8, ground := Ground.phase }, { on := 9, ground := Ground.phase }, { on := 10, ground := Ground.phase }, { on := 11, ground := Ground.phase }], guard := none }
def o39_0 : Oper := { dst := some 314, op := Op.load 24 (Operand.tmp 31), type := 24, pos := "outright.go:131", after := #[], guard := none }
def o39_1 : Oper := { dst := some 315, op := Op.move (Operand.tmp 12), type := 26, pos := "outright.go:131", after := #[], guard := none }
def o39_2 : Oper := { dst := some 316, op := Op.move (Operand.tmp 30), type := 3, pos := "outright.go:131", after := #[], guard := none }
def o39_3 : Oper := { dst := some 317, op := Op.move (Operand.tmp 15), type := 22, pos := "outright.go:131", after := #[], guard := none }
def o39_4 : Oper := { dst := some 318, op := Op.move (Operand.tmp 30), type := 3, pos := "outright.go:131", after := #[], guard := none }
def o39_5 : Oper := { dst := some 319, op := Op.indexAddr 22 (Operand.tmp 317) (Operand.tmp 318), type := 0, pos := "outright.go:131", after := #[{ on := 3, ground := Ground.data }, { on := 4, ground := Ground.data }], guard := none }
def o39_6 : Oper := { dst := some 320, op := Op.fieldAddr 34 (Operand.tmp 319) 0, type := 0, pos := "outright.go:131", after := #[{ on := 5, ground := Ground.data }], guard := none }
def o39_7 : Oper := { dst := some 321, op := Op.load 3 (Operand.tmp 320), type := 3, pos := "outright.go:131", after := #[{ on := 6, ground := Ground.data }], guard := none }
def o39_8 : Oper := { dst := some 322, op := Op.call { callee := Callee.value (Operand.func 44), args := #[Operand.tmp 314, Operand.tmp 315, Operand.tmp 316, Operand.tmp 321], argTypes := #[24, 26, 3, 3] }, type := 4, pos := "outright.go:131", after := #[{ on := 0, ground := Ground.data }, { on := 1, ground := Ground.data }, { on := 2, ground := Ground.data }, { on := 7, ground := Ground.data }], guard := none }
def o39_9 : Oper := { dst := some 323, op := Op.unOp UnOp.not 4 (Operand.tmp 322), type := 4, pos := "outright.go:131", after := #[{ on := 8, ground := Ground.data }], guard := none }
def o39_10 : Oper := { dst := some 324, op := Op.move (Operand.tmp 323), type := 4, pos := "outright.go:131", after := #[{ on := 9, ground := Ground.data }, { on := 8, ground := Ground.chain }], guard := none }
def o39_11 : Oper := { dst := some 325, op := Op.load 24 (Operand.tmp 32), type := 24, pos := "outright.go:131", after := #[{ on := 10, ground := Ground.guard }], guard := some (10, false) }
def o39_12 : Oper := { dst := some 326, op := Op.move (Operand.tmp 12), type := 26, pos := "outright.go:131", after := #[{ on := 10, ground := Ground.guard }], guard := some (10, false) }
def o39_13 : Oper := { dst := some 327, op := Op.move (Operand.tmp 30), type := 3, pos := "outright.go:131", after := #[{ on := 10, ground := Ground.guard }], guard := some (10, false) }
def o39_14 : Oper := { dst := some 328, op := Op.move (Operand.tmp 15), type := 22, pos := "outright.go:131", after := #[{ on := 10, ground := Ground.guard }], guard := some (10, false) }
def o39_15 : Oper := { dst := some 329, op := Op.move (Operand.tmp 30), type := 3, pos := "outright.go:131", after := #[{ on := 10, ground := Ground.guard }], guard := some (10, false) }
def o39_16 : Oper := { dst := some 330, op := Op.indexAddr 22 (Operand.tmp 328) (Operand.tmp 329), type := 0, pos := "outright.go:131", after := #[{ on := 14, ground := Ground.data }, { on := 15, ground := Ground.data }, { on := 10, ground := Ground.guard }], guard := some (10, false) }
def o39_17 : Oper := { dst := some 331, op := Op.fieldAddr 34 (Operand.tmp 330) 1, type := 0, pos := "outright.go:131", after := #[{ on := 16, ground := Ground.data }, { on := 10, ground := Ground.guard }], guard := some (10, false) }
def o39_18 : Oper := { dst := some 332, op := Op.load 3 (Operand.tmp 331), type := 3, pos := "outright.go:131", after := #[{ on := 17, ground := Ground.data }, { on := 10, ground := Ground.guard }], guard := some (10, false) }
def o39_19 : Oper := { dst := some 333, op := Op.call { callee := Callee.value (Operand.func 44), args := #[Operand.tmp 325, Operand.tmp 326, Operand.tmp 327, Operand.tmp 332], argTypes := #[24, 26, 3, 3] }, type := 4, pos := "outright.go:131", after := #[{ on := 11, ground := Ground.data }, { on := 12, ground := Ground.data }, { on := 13, ground := Ground.data }, { on := 18, ground := Ground.data }, { on := 10, ground := Ground.chain }, { on := 10, ground := Ground.guard }], guard := some (10, false) }
def o39_20 : Oper := { dst := some 334, op := Op.unOp UnOp.not 4 (Operand.tmp 333), type := 4, pos := "outright.go:131", after := #[{ on := 19, ground := Ground.data }, { on := 10, ground := Ground.guard }], guard := some (10, false) }
def o39_21 : Oper := { dst := some 335, op := Op.pick (Operand.tmp 324) (Operand.const (Value.bool true)) (Operand.tmp 334), type := 4, pos := "outright.go:131", after := #[{ on := 10, ground := Ground.data }, { on := 20, ground := Ground.data }], guard := none }
def o39_22 : Oper := { dst := some 336, op := Op.move (Operand.tmp 335), type := 4, pos := "outright.go:131", after := #[{ on := 21, ground := Ground.data }, { on := 19, ground := Ground.chain }], guard := none }
def o39_23 : Oper := { dst := some 337, op := Op.load 24 (Operand.tmp 33), type := 24, pos := "outright.go:131", after := #[{ on := 22, ground := Ground.guard }], guard := some (22, false) }
def o39_24 : Oper := { dst := some 338, op := Op.move (Operand.tmp 12), type := 26, pos := "outright.go:131", after := #[{ on := 22, ground := Ground.guard }], guard := some (22, false) }
def o39_25 : Oper := { dst := some 339, op := Op.move (Operand.tmp 30), type := 3, pos := "outright.go:131", after := #[{ on := 22, ground := Ground.guard }], guard := some (22, false) }
def o39_26 : Oper := { dst := some 340, op := Op.call { callee := Callee.value (Operand.func 45), args := #[Operand.tmp 337, Operand.tmp 338, Operand.tmp 339], argTypes := #[24, 26, 3] }, type := 3, pos := "outright.go:131", after := #[{ on := 23, ground := Ground.data }, { on := 24, ground := Ground.data }, { on := 25, ground := Ground.data }, { on := 22, ground := Ground.chain }, { on := 22, ground := Ground.guard }], guard := some (22, false) }
def o39_27 : Oper := { dst := some 341, op := Op.move (Operand.tmp 19), type := 22, pos := "outright.go:131", after := #[{ on := 22, ground := Ground.guard }], guard := some (22, false) }
def o39_28 : Oper := { dst := some 342, op := Op.move (Operand.tmp 30), type := 3, pos := "outright.go:131", after := #[{ on := 22, ground := Ground.guard }], guard := some (22, false) }
def o39_29 : Oper := { dst := some 343, op := Op.indexAddr 22 (Operand.tmp 341) (Operand.tmp 342), type := 0, pos := "outright.go:131", after := #[{ on := 27, ground := Ground.data }, { on := 28, ground := Ground.data }, { on := 22, ground := Ground.guard }], guard := some (22, false) }
def o39_30 : Oper := { dst := some 344, op := Op.fieldAddr 34 (Operand.tmp 343) 1, type := 0, pos := "outright.go:131", after := #[{ on := 29, ground := Ground.data }, { on := 22, ground := Ground.guard }], guard := some (22, false) }
def o39_31 : Oper := { dst := some 345, op := Op.load 3 (Operand.tmp 344), type := 3, pos := "outright.go:131", after := #[{ on := 30, ground := Ground.data }, { on := 22, ground := Ground.guard }], guard := some (22, false) }
def o39_32 : Oper := { dst := some 346, op := Op.binOp BinOp.neq 3 (Operand.tmp 340) (Operand.tmp 345) 3, type := 4, pos := "outright.go:131", after := #[{ on := 26, ground := Ground.data }, { on := 31, ground := Ground.data }, { on := 22, ground := Ground.guard }], guard := some (22, false) }
def o39_33 : Oper := { dst := some 347, op := Op.pick (Operand.tmp 336) (Operand.const (Value.bool true)) (Operand.tmp 346), type := 4, pos := "outright.go:131", after := #[{ on := 22, ground := Ground.data }, { on := 32, ground := Ground.data }], guard := none }
def o39_34 : Oper := { dst := some 348, op := Op.move (Operand.tmp 347), type := 4, pos := "outright.go:131", after := #[{ on := 33, ground := Ground.data }, { on := 26, ground := Ground.chain }], guard := none }
def o39_35 : Oper := { dst := some 349, op := Op.load 24 (Operand.tmp 34), type := 24, pos := "outright.go:131", after := #[{ on := 34, ground := Ground.guard }], guard := some (34, false) }
def o39_36 : Oper := { dst := some 350, op := Op.move (Operand.tmp 12), type := 26, pos := "outright.go:131", after := #[{ on := 34, ground := Ground.guard }], guard := some (34, false) }
def o39_37 : Oper := { dst := some 351, op := Op.move (Operand.tmp 30), type := 3, pos := "outright.go:131", after := #[{ on := 34, ground := Ground.guard }], guard := some (34, false) }
def o39_38 : Oper := { dst := some 352, op := Op.call { callee := Callee.value (Operand.func 45), args := #[Operand.tmp 349, Operand.tmp 350, Operand.tmp 351], argTypes := #[24, 26, 3] }, type := 3, pos := "outright.go:131", after := #[{ on := 35, ground := Ground.data }, { on := 36, ground := Ground.data }, { on := 37, ground := Ground.data }, { on := 34, ground := Ground.chain }, { on := 34, ground := Ground.guard }], guard := some (34, false) }
def o39_39 : Oper := { dst := some 353, op := Op.move (Operand.tmp 19), type := 22, pos := "outright.go:131", after := #[{ on := 34, ground := Ground.guard }], guard := some (34, false) }
def o39_40 : Oper := { dst := some 354, op := Op.move (Operand.tmp 30), type := 3, pos := "outright.go:131", after := #[{ on := 34, ground := Ground.guard }], guard := some (34, false) }
def o39_41 : Oper := { dst := some 355, op := Op.indexAddr 22 (Operand.tmp 353) (Operand.tmp 354), type := 0, pos := "outright.go:131", after := #[{ on := 39, ground := Ground.data }, { on := 40, ground := Ground.data }, { on := 34, ground := Ground.guard }], guard := some (34, false) }
def o39_42 : Oper := { dst := some 356, op := Op.fieldAddr 34 (Operand.tmp 355) 0, type := 0, pos := "outright.go:131", after := #[{ on := 41, ground := Ground.data }, { on := 34, ground := Ground.guard }], guard := some (34, false) }
def o39_43 : Oper := { dst := some 357, op := Op.load 3 (Operand.tmp 356), type := 3, pos := "outright.go:131", after := #[{ on := 42, ground := Ground.data }, { on := 34, ground := Ground.guard }], guard := some (34, false) }
def o39_44 : Oper := { dst := some 358, op := Op.binOp BinOp.neq 3 (Operand.tmp 352) (Operand.tmp 357) 3, type := 4, pos := "outright.go:131", after := #[{ on := 38, ground := Ground.data }, { on := 43, ground := Ground.data }, { on := 34, ground := Ground.guard }], guard := some (34, false) }
def o39_45 : Oper := { dst := some 359, op := Op.pick (Operand.tmp 348) (Operand.const (Value.bool true)) (Operand.tmp 358), type := 4, pos := "outright.go:131", after := #[{ on := 34, ground := Ground.data }, { on := 44, ground := Ground.data }], guard := none }
def TwoS (lo hi : Int) (U : World) (p1 p2 : Value) (wx : World) : Prop := ∃ b1 b2 : Nat, p1 = .pointer (some ⟨b1, 0, none⟩) ∧ p2 = .pointer (some ⟨b2, 0, none⟩) ∧ Blk wx b1 34 #[.int .i64 lo, .int .i64 lo] ∧ Blk wx b2 34 #[.int .i64 hi, .int .i64 hi] ∧ b1 ≠ b2 ∧ U.heap.size ≤ b1 ∧ U.heap.size ≤ b2 ∧ Below U.heap.size U wx
theorem twoS_mk {lo hi : Int} {U wx : World} {b1 b2 : Nat} (h1 : Blk wx b1 34 #[.int .i64 lo, .int .i64 lo]) (h2 : Blk wx b2 34 #[.int .i64 hi, .int .i64 hi]) (hne : b1 ≠ b2) (g1 : U.heap.size ≤ b1) (g2 : U.heap.size ≤ b2) (hb : Below U.heap.size U wx) : TwoS lo hi U (.pointer (some ⟨b1, 0, none⟩)) (.pointer (some ⟨b2, 0, none⟩)) wx :=
  ⟨b1, b2, rfl, rfl, h1, h2, hne, g1, g2, hb⟩
def FourG (g : G) (v : Value) (w13 : World) (p1 p2 p3 p4 : Value) (wx : World) : Prop := ∃ b : Nat → Nat, p1 = .pointer (some ⟨b 0, 0, none⟩) ∧ p2 = .pointer (some ⟨b 1, 0, none⟩) ∧ p3 = .pointer (some ⟨b 2, 0, none⟩) ∧ p4 = .pointer (some ⟨b 3, 0, none⟩) ∧
  (∀ i, i < 4 → Blk wx (b i) 24 #[.int .i64 g.W, .int .i64 g.H, .int .i64 g.S, v]) ∧ (∀ i j, i < 4 → j < 4 → i ≠ j → b i ≠ b j) ∧ (∀ i, i < 4 → w13.heap.size ≤ b i) ∧ Below w13.heap.size w13 wx
theorem fourG_mk {g : G} {v : Value} {w13 wx : World} {b1 b2 b3 b4 : Nat} (h1 : Blk wx b1 24 #[.int .i64 g.W, .int .i64 g.H, .int .i64 g.S, v]) (h2 : Blk wx b2 24 #[.int .i64 g.W, .int .i64 g.H, .int .i64 g.S, v]) (h3 : Blk wx b3 24 #[.int .i64 g.W, .int .i64 g.H, .int .i64 g.S, v]) (h4 : Blk wx b4 24 #[.int .i64 g.W, .int .i64 g.H, .int .i64 g.S, v])
    (hne : b1 ≠ b2 ∧ b1 ≠ b3 ∧ b1 ≠ b4 ∧ b2 ≠ b3 ∧ b2 ≠ b4 ∧ b3 ≠ b4) (hle : w13.heap.size ≤ b1 ∧ w13.heap.size ≤ b2 ∧ w13.heap.size ≤ b3 ∧ w13.heap.size ≤ b4) (hb : Below w13.heap.size w13 wx) :
    FourG g v w13 (.pointer (some ⟨b1, 0, none⟩)) (.pointer (some ⟨b2, 0, none⟩)) (.pointer (some ⟨b3, 0, none⟩)) (.pointer (some ⟨b4, 0, none⟩)) wx := by
  have k : ∀ i, i < 4 → i = 0 ∨ i = 1 ∨ i = 2 ∨ i = 3 := fun i hi => by omega
  refine ⟨fun i => if i = 0 then b1 else if i = 1 then b2 else if i = 2 then b3 else b4, rfl, rfl, rfl, rfl, fun i hi => ?_, fun i j hi hj hij => ?_, fun i hi => ?_, hb⟩
  · rcases k i hi with rfl | rfl | rfl | rfl
    · exact h1
    · exact h2
    · exact h3
    · exact h4
  · rcases k i hi with rfl | rfl | rfl | rfl <;> rcases k j hj with rfl | rfl | rfl | rfl <;> simp at hij ⊢ <;> omega
  · rcases k i hi with rfl | rfl | rfl | rfl <;> simp <;> omega
theorem terr_pt (g : G) (wh : List Int) : terrG g wh = ptG g (fun i => hgtT wh (g.ss.getD i (0, 0)) i) := rfl
theorem terr_rng {g : G} (V : Valid g) (wh : List Int) (d : Nat) (hd : d < g.ss.length) : loF g.ss d ≤ hgtT wh (g.ss.getD d (0, 0)) d ∧ hgtT wh (g.ss.getD d (0, 0)) d ≤ hiF g.ss d := by
  have := hgtT_rng (wh := wh) (s := g.ss.getD d (0, 0)) (by have := V.ord hd; unfold loF hiF at this; exact this) d
  exact this
theorem terr_nrw {g : G} (V : Valid g) (wh : List Int) : Nrw (terrG g wh) g ∧ ∀ c, c < g.ss.length → loF (terrG g wh).ss c = hiF (terrG g wh).ss c := by
  rw [terr_pt]
  have hg : ∀ c, c < g.ss.length → (ptG g fun i => hgtT wh (g.ss.getD i (0, 0)) i).ss.getD c (0, 0) = (hgtT wh (g.ss.getD c (0, 0)) c, hgtT wh (g.ss.getD c (0, 0)) c) := fun c hc => by rw [pt_get, if_pos hc]
  refine ⟨⟨rfl, rfl, pt_len _ _, fun c hc => ?_, fun c hc => ?_⟩, fun c hc => ?_⟩
  · have := (terr_rng V wh c hc).1
    show _ ≤ ((ptG g _).ss.getD c (0, 0)).1
    rw [hg c hc]; exact this
  · have := (terr_rng V wh c hc).2
    show ((ptG g _).ss.getD c (0, 0)).2 ≤ _
    rw [hg c hc]; exact this
  · unfold loF hiF
    rw [hg c hc]
theorem seas_k {w0 : World} {x y : Value} {g : G} {l : List Int} (hg : GridAt w0 w0.heap.size x g) (hy : NumsAt .u8 w0 w0.heap.size y l) (hr : ∀ z ∈ l, 0 ≤ z ∧ z ≤ 255) (h0 : 0 < g.ss.length) (h1 : g.ss.length ≤ 65536) (hl : l.length ≤ 65536) (W : World) (hW : Below w0.heap.size w0 W) :
    Calls Tryz.prog 40 #[x, y] W fun e w' => ∃ v, e = .returned v ∧ Hid (w'.ownsRow (W.heap.size + 1) 3 1 v (seasL g.ss.length l).length ((seasL g.ss.length l).map (Value.int .i64))) ∧ Hid (Below w0.heap.size w0 w') ∧ Hid (Below W.heap.size W w') :=
  (seas_own x y g l W (hg.later hW (Nat.le_refl _)) (hy.later hW (Nat.le_refl _)) hr h0 h1 hl).mono fun _ _ ⟨v, he, ho, hb⟩ => ⟨v, he, ho, hW.trans (hb.mono hW.size), hb⟩
theorem terr_k {w0 : World} {x y : Value} {g : G} {wh : List Int} (hg : GridAt w0 w0.heap.size x g) (hy : NumsAt .u8 w0 w0.heap.size y wh) (hr : ∀ z ∈ wh, 0 ≤ z ∧ z ≤ 255) (V : Valid g) (hl : g.ss.length ≤ 600) (W : World) (hW : Below w0.heap.size w0 W) :
    Calls Tryz.prog 41 #[x, y] W fun e w' => ∃ v, e = .returned (.agg #[.int .i64 (terrG g wh).W, .int .i64 (terrG g wh).H, .int .i64 (terrG g wh).S, v]) ∧ Hid (w'.ownsRow W.heap.size 34 2 v g.ss.length (spanCells (terrG g wh).ss)) ∧ Hid (Below w0.heap.size w0 w') ∧ Hid (Below W.heap.size W w') := by
  refine (terrain_any x y g wh W (hg.later hW (Nat.le_refl _)) (hy.later hW (Nat.le_refl _)) hr V hl).mono ?_
  rintro e w' ⟨x, rfl, _, hb, _, v, rfl, ho⟩
  have e : (terrG g wh).ss.length = g.ss.length := pt_len _ _
  rw [e] at ho
  exact ⟨v, rfl, ho, hW.trans (hb.mono hW.size), hb⟩
theorem tmod_rng (a : Int) : -14999 ≤ a.tmod 15000 ∧ a.tmod 15000 ≤ 14999 := by
  rcases Int.le_total 0 a with h | h
  · rw [Int.tmod_eq_emod_of_nonneg h]; omega
  · have e : a = -(-a) := by omega
    rw [e, Int.neg_tmod, Int.tmod_eq_emod_of_nonneg (by omega)]; omega
/-- behind seas and terrain -/
def SeaTerr (T : G) (n : Nat) (L : List Int) (V2 : World) (p q : Value) (wx : World) : Prop := ∃ b BA cA BB cB, p = .slice BA L.length cA ∧ q = .pointer (some ⟨b, 0, none⟩) ∧ IntsAt wx wx.heap.size (.slice BA L.length cA) L ∧ Blk wx b 24 #[.int .i64 T.W, .int .i64 T.H, .int .i64 T.S, .slice BB n cB] ∧ Reads wx wx.heap.size 2 (.slice BB n cB) n (spanCells T.ss) ∧ Below V2.heap.size V2 wx
theorem seaTerr_new {T : G} {n : Nat} {L : List Int} {V2 wA wB : World} {BA BB : Option Addr} {cA cB b1 b2 : Nat} (hA : wA.ownsRow b1 3 1 (.slice BA L.length cA) L.length (L.map (Value.int .i64))) (hAB : Below wA.heap.size wA wB) (hB : wB.ownsRow b2 34 2 (.slice BB n cB) n (spanCells T.ss)) (hC : Below V2.heap.size V2 wB) :
    SeaTerr T n L V2 (.slice BA L.length cA) (.pointer (some ⟨wB.heap.size, 0, none⟩)) (wB.alloc (.cells #[.int .i64 T.W, .int .i64 T.H, .int .i64 T.S, .slice BB n cB] 24)) :=
  ⟨_, BA, cA, BB, cB, rfl, rfl, Reads.of_own ((own_below hA hAB (Nat.le_refl _)).alloc _), Blk.new' _ _ _ rfl, Reads.of_own (hB.alloc _), hC.alloc hC.size _⟩
theorem seaTerr_set {T : G} {n : Nat} {L : List Int} {V2 wB : World} {BA BB : Option Addr} {b cA cB b1 b2 : Nat} (hZ : Blk wB b 24 #[.int .i64 0, .int .i64 0, .int .i64 0, .slice none 0 0]) (hA : wB.ownsRow b1 3 1 (.slice BA L.length cA) L.length (L.map (Value.int .i64)))
    (hB : wB.ownsRow b2 34 2 (.slice BB n cB) n (spanCells T.ss)) (hC : Below V2.heap.size V2 wB) (hb : V2.heap.size ≤ b) (na : (Value.slice BA L.length cA).ownBlock ≠ some b) (nb : (Value.slice BB n cB).ownBlock ≠ some b) :
    SeaTerr T n L V2 (.slice BA L.length cA) (.pointer (some ⟨b, 0, none⟩)) ((((wB.setCell ⟨b, 0, none⟩ (.int .i64 T.W)).setCell ⟨b, 1, none⟩ (.int .i64 T.H)).setCell ⟨b, 2, none⟩ (.int .i64 T.S)).setCell ⟨b, 3, none⟩ (.slice BB n cB)) :=
  ⟨_, BA, cA, BB, cB, rfl, rfl, Reads.of_own (own_set (own_set (own_set (own_set hA na _) na _) na _) na _), (((hZ.set_ 0 _).set_ 1 _).set_ 2 _).set_ 3 _, Reads.of_own (own_set (own_set (own_set (own_set hB nb _) nb _) nb _) nb _), (((hC.setCell hb _).setCell hb _).setCell hb _).setCell hb _⟩
set_option maxRecDepth 100000 in
set_option maxHeartbeats 8000000 in
theorem GridTruth_any (W H lev mo : Int) (x y z1 z2 : Value) (low more sea wh : List Int) (w : World) (hW : 0 ≤ W ∧ W ≤ 255) (hH : 0 ≤ H ∧ H ≤ 255) (hlev : -32768 ≤ lev ∧ lev ≤ 32767) (hmo : 0 ≤ mo ∧ mo ≤ 255)
    (hx : NumsAt .i16 w w.heap.size x low) (hy : NumsAt .u8 w w.heap.size y more) (hz1 : NumsAt .u8 w w.heap.size z1 sea) (hz2 : NumsAt .u8 w w.heap.size z2 wh)
    (hxr : ∀ z ∈ low, -32768 ≤ z ∧ z ≤ 32767) (hyr : ∀ z ∈ more, 0 ≤ z ∧ z ≤ 255) (hsr : ∀ z ∈ sea, 0 ≤ z ∧ z ≤ 255) (hwr : ∀ z ∈ wh, 0 ≤ z ∧ z ≤ 255) (hv : LV w) :
    Calls Tryz.prog 8 #[.agg #[.int .u8 W, .int .u8 H, x, y], z1, z2, .int .i16 lev, .int .u8 mo] w fun e w' => e = .returned (.bool true) ∧ Below w.heap.size w w' := by
  have HX := Lib.hid hx
  have HY := Lib.hid hy
  have HZ1 := Lib.hid hz1
  have HZ2 := Lib.hid hz2
  have HXR := Lib.hid (And.intro hxr (And.intro hyr (And.intro hsr hwr)))
  have HLV := Lib.hid hv
  have HM1 := Lib.hid (made_ok hW.1 hH.1 hxr hyr)
  have HL1 := Lib.hid (made_len25 hW.1 hH.1 low more)
  obtain ⟨A1, k1, rfl, hk1, hm1⟩ := hx.open_
  obtain ⟨A2, k2, rfl, hk2, hm2⟩ := hy.open_
  obtain ⟨A3, k3, rfl, hk3, hm3⟩ := hz1.open_
  obtain ⟨A4, k4, rfl, hk4, hm4⟩ := hz2.open_
  clear hx hy hz1 hz2 hxr hyr hsr hwr hv
  obtain ⟨W1, hW1⟩ : ∃ W1, w.alloc (.cells #[.int .u8 W, .int .u8 H, .slice A1 low.length k1, .slice A2 more.length k2] 64) = W1 := ⟨_, rfl⟩
  have HB0 : Hid (Below w.heap.size w W1) := by rw [← hW1]; exact (by repeat (first | exact Below.refl _ _ | assumption | refine Below.drew ?_ | refine Below.drewN' ?_ _ | (refine Below.alloc ?_ (by simp <;> omega) _) | (refine Below.setCell ?_ (by simp <;> omega) _)))
  have HK0 : Hid (Blk W1 w.heap.size 64 #[.int .u8 W, .int .u8 H, .slice A1 low.length k1, .slice A2 more.length k2]) := by rw [← hW1]; exact Blk.new' _ _ _ rfl
  have HW1 := Lib.hid hW1
  clear hW1
  go_enter Tryz.func8, Tryz.ntmps8
  go_upto_region 1 with (fail)
  rw [HW1.out]
  by_cases hbig : 10 < sea.length
  · have hb : (10 : Int) < (sea.length : Int) := by omega
    go_wp2_with fail
    refine (works_any _ (HLV.out.below HB0.out)).mono ?_
    rintro e w2 ⟨rfl, hb2⟩
    have HB2 := Lib.hid (HB0.out.trans (hb2.mono HB0.out.size))
    clear hb2
    go_wp2
    go_ret
    exact ⟨rfl, HB2.out⟩
  have hb : ¬ (10 : Int) < (sea.length : Int) := by omega
  have HS10 : Hid (sea.length ≤ 10) := by rw [Hid]; omega
  clear hbig
  have d0 : W1.cell? ⟨w.heap.size, 0, none⟩ = some (.int .u8 W) := HK0.out.cell 0
  have d1 : W1.cell? ⟨w.heap.size, 1, none⟩ = some (.int .u8 H) := HK0.out.cell 1
  have d2 : W1.cell? ⟨w.heap.size, 2, none⟩ = some (.slice A1 low.length k1) := HK0.out.cell 2
  have d3 : W1.cell? ⟨w.heap.size, 3, none⟩ = some (.slice A2 more.length k2) := HK0.out.cell 3
  go_wp2_with fail
  refine (made_any W H _ _ low more _ hW hH (HX.out.later HB0.out (Nat.le_refl _)) (HY.out.later HB0.out (Nat.le_refl _)) HXR.out.1 HXR.out.2.1).mono ?_
  rintro e w2 ⟨x2, rfl, hg2, hb2', -⟩
  have HG2 := Lib.hid hg2
  obtain ⟨g, hg⟩ : ∃ g, madeG W H low more = g := ⟨_, rfl⟩
  rw [hg] at HG2 HM1 HL1 hg2
  clear hg
  have HVv := Lib.hid (valid_of HM1.out)
  have hpos := HVv.out.pos
  have hL25 := HL1.out
  obtain ⟨v2, rfl, hs2⟩ := hg2
  obtain ⟨B2, c2, rfl, _, _⟩ := hs2.open_
  have HB2 := Lib.hid (HB0.out.trans (hb2'.mono HB0.out.size))
  clear hb2' hs2 d0 d1 d2 d3 hb
  go_upto_region 4 with (fail)
  obtain ⟨V2, hV2⟩ : ∃ V, w2.alloc (.cells #[.int .i64 g.W, .int .i64 g.H, .int .i64 g.S, .slice B2 g.ss.length c2] 24) = V := ⟨_, rfl⟩
  have HVB2 : Hid (Below w2.heap.size w2 V2) := by rw [← hV2]; exact (by repeat (first | exact Below.refl _ _ | assumption | refine Below.drew ?_ | refine Below.drewN' ?_ _ | (refine Below.alloc ?_ (by simp <;> omega) _) | (refine Below.setCell ?_ (by simp <;> omega) _)))
  have HVK2 : Hid (Blk V2 w2.heap.size 24 #[.int .i64 g.W, .int .i64 g.H, .int .i64 g.S, .slice B2 g.ss.length c2]) := by rw [← hV2]; exact Blk.new' _ _ _ rfl
  rw [hV2]
  clear hV2
  have HBV2 := Lib.hid (HB2.out.trans (HVB2.out.mono HB2.out.size))
  have HGV2 := Lib.hid (HG2.out.later HVB2.out (Nat.le_refl _))
  clear HG2 HVB2
  have HSk := Lib.hid (seas_k HGV2.out (HZ1.out.later HBV2.out (Nat.le_refl _)) HXR.out.2.2.1 (by omega) (by omega) (by have := HS10.out; omega))
  have HTk := Lib.hid (terr_k HGV2.out (HZ2.out.later HBV2.out (Nat.le_refl _)) HXR.out.2.2.2 HVv.out (by omega))
  have HTN := Lib.hid (terr_nrw HVv.out wh)
  have HTO : Hid (checkE (terrG g wh) = 0) := by rw [Hid, terr_pt]; exact pt_ok HM1.out (fun d hd => terr_rng HVv.out wh d hd)
  have HTW : Hid ((terrG g wh).W = g.W ∧ (terrG g wh).H = g.H ∧ (terrG g wh).S = g.S) := ⟨rfl, rfl, rfl⟩
  have HSL := Lib.hid (seas_ok HM1.out sea)
  have HSS : Hid (∀ sts : List Nat, (seasL g.ss.length sea).map Int.toNat = sts → sts ≠ [] ∧ ∀ c, c ∈ sts → c < g.ss.length) := fun sts h => seas_sts HM1.out h
  have HLn : Hid ((seasL g.ss.length sea).length ≤ 65536) := by have := HS10.out; rw [Hid]; unfold seasL; simp; omega
  generalize terrG g wh = T at *
  obtain ⟨L, hL⟩ : ∃ L, seasL g.ss.length sea = L := ⟨_, rfl⟩
  rw [hL] at HSk HSL HSS HLn
  have HLE := Lib.hid hL
  clear hL
  have HSg : Hid (∀ W, Below V2.heap.size V2 W → W.cell? ⟨w2.heap.size, 0, none⟩ = some (.int .i64 g.W) ∧ W.cell? ⟨w2.heap.size, 1, none⟩ = some (.int .i64 g.H) ∧ W.cell? ⟨w2.heap.size, 2, none⟩ = some (.int .i64 g.S) ∧ W.cell? ⟨w2.heap.size, 3, none⟩ = some (.slice B2 g.ss.length c2)) := fun W hW => grid_parts (HVK2.out.below hW HVK2.out.lt)
  have HC := Lib.hid (Below.refl V2.heap.size V2)
  go_cut [12, 13] from 45 to 51 (fun p q wx => SeaTerr T g.ss.length L V2 p q wx)
  case first =>
    refine wp_region_noPanic ?_
    refine wp_region_held_drew (S := (fun w' => w'.cell? ⟨w2.heap.size, 0, none⟩ = some (.int .i64 g.W) ∧ w'.cell? ⟨w2.heap.size, 1, none⟩ = some (.int .i64 g.H) ∧ w'.cell? ⟨w2.heap.size, 2, none⟩ = some (.int .i64 g.S) ∧ w'.cell? ⟨w2.heap.size, 3, none⟩ = some (.slice B2 g.ss.length c2))) (by kernel_rfl) ?_ (fun hHeld => ?_)
    · (try dsimp only); (refine HSg.out _ (Below.trans HC.out (Below.mono ?_ HC.out.size)); ((repeat (first | exact Below.refl _ _ | assumption | refine Below.drew ?_ | refine Below.drewN' ?_ _ | (refine Below.alloc ?_ (by simp <;> omega) _) | (refine Below.setCell ?_ (by simp <;> omega) _))); done))
    refine wpAnyH_take (i := 0) (oi := o4_0) (v := ?_) rfl (by kernel_rfl) (by kernel_rfl) (by kernel_rfl) (fun _ _ _ h => h) (Or.inl ⟨by rfl, ?_⟩) (by assumption) ?_
    rotate_left
    · ((intro w hSw; delta o4_0; (try dsimp only at hSw); go_simp) <;> with_reducible rfl)
    try simp only [o4_0, Act.put, List.setIfInBounds_toArray, List.set_cons_zero, List.set_cons_succ]
    refine wpAnyH_take (i := 1) (oi := o4_1) (v := ?_) rfl (by kernel_rfl) (by kernel_rfl) (by kernel_rfl) (fun _ _ _ h => h) (Or.inl ⟨by rfl, ?_⟩) (by assumption) ?_
    rotate_left
    · ((intro w hSw; delta o4_1; (try dsimp only at hSw); go_simp) <;> with_reducible rfl)
    try simp only [o4_1, Act.put, List.setIfInBounds_toArray, List.set_cons_zero, List.set_cons_succ]
    refine wpAnyH_take (i := 3) (oi := o4_3) (v := ?_) rfl (by kernel_rfl) (by kernel_rfl) (by kernel_rfl) (fun _ _ _ h => h) (Or.inl ⟨by rfl, ?_⟩) (by assumption) ?_
    rotate_left
    · ((intro w hSw; delta o4_3; (try dsimp only at hSw); go_simp) <;> with_reducible rfl)
    try simp only [o4_3, Act.put, List.setIfInBounds_toArray, List.set_cons_zero, List.set_cons_succ]
    refine wpAnyH_take (i := 4) (oi := o4_4) (v := ?_) rfl (by kernel_rfl) (by kernel_rfl) (by kernel_rfl) (fun _ _ _ h => h) (Or.inl ⟨by rfl, ?_⟩) (by assumption) ?_
    rotate_left
    · ((intro w hSw; delta o4_4; (try dsimp only at hSw); go_simp) <;> with_reducible rfl)
    try simp only [o4_4, Act.put, List.setIfInBounds_toArray, List.set_cons_zero, List.set_cons_succ]
    refine wpAnyH_ready (rs := [2, 6]) (by kernel_rfl) (by simp) ?_
    refine AllReadyH.cons (o := o4_2) rfl (fun K hK => ?_) ?_
    ·
     delta o4_2
     go_simp
     ((with_reducible refine (HSk.out _ (Below.trans HC.out (Below.mono (by exact (by repeat (first | exact Below.refl _ _ | assumption | refine Below.drew ?_ | refine Below.drewN' ?_ _ | (refine Below.alloc ?_ (by simp <;> omega) _) | (refine Below.setCell ?_ (by simp <;> omega) _)))) HC.out.size))).mono ?_); rintro e wA ⟨vA, rfl, hoA, hbA, hcA⟩; obtain ⟨BA, cA, rfl⟩ := own_open hoA.out;  have hszA := hbA.out.size; clear HC; have HC := hbA; clear hbA)
     refine hK.out _ _ ?_ (fun hHeld => ?_)
     · (try dsimp only); (refine HSg.out _ (Below.trans HC.out (Below.mono ?_ HC.out.size)); ((repeat (first | exact Below.refl _ _ | assumption | refine Below.drew ?_ | refine Below.drewN' ?_ _ | (refine Below.alloc ?_ (by simp <;> omega) _) | (refine Below.setCell ?_ (by simp <;> omega) _))); done))
     clear hK K
     try simp only [o4_2, Act.put, List.setIfInBounds_toArray, List.set_cons_zero, List.set_cons_succ]
     refine wpAnyH_ready (rs := [5, 6]) (by kernel_rfl) (by simp) ?_
     refine AllReadyH.cons (o := o4_5) rfl (fun K hK => ?_) ?_
     ·
      delta o4_5
      go_simp
      ((with_reducible refine (HTk.out _ (Below.trans HC.out (Below.mono (by exact (by repeat (first | exact Below.refl _ _ | assumption | refine Below.drew ?_ | refine Below.drewN' ?_ _ | (refine Below.alloc ?_ (by simp <;> omega) _) | (refine Below.setCell ?_ (by simp <;> omega) _)))) HC.out.size))).mono ?_); rintro e wB ⟨vB, rfl, hoB, hbB, hcB⟩; obtain ⟨BB, cB, rfl⟩ := own_open hoB.out; have hAB := Lib.hid (show Below wA.heap.size wA wB from hcB.out);  have hszB := hbB.out.size; clear HC; have HC := hbB; clear hbB)
      refine hK.out _ _ ?_ (fun hHeld => ?_)
      · (try dsimp only); (refine HSg.out _ (Below.trans HC.out (Below.mono ?_ HC.out.size)); ((repeat (first | exact Below.refl _ _ | assumption | refine Below.drew ?_ | refine Below.drewN' ?_ _ | (refine Below.alloc ?_ (by simp <;> omega) _) | (refine Below.setCell ?_ (by simp <;> omega) _))); done))
      clear hK K
      try simp only [o4_5, Act.put, List.setIfInBounds_toArray, List.set_cons_zero, List.set_cons_succ]
      refine wpAnyH_ready (rs := [6]) (by kernel_rfl) (by simp) ?_
      refine AllReadyH.cons (o := o4_6) rfl (fun K hK => ?_) AllReadyH.nil
      delta o4_6
      go_simp
      skip
      refine hK.out _ _ ?_ (fun hHeld => ?_)
      · (try dsimp only); (refine HSg.out _ (Below.trans HC.out (Below.mono ?_ HC.out.size)); ((repeat (first | exact Below.refl _ _ | assumption | refine Below.drew ?_ | refine Below.drewN' ?_ _ | (refine Below.alloc ?_ (by simp <;> omega) _) | (refine Below.setCell ?_ (by simp <;> omega) _))); done))
      clear hK K
      try simp only [o4_6, Act.put, List.setIfInBounds_toArray, List.set_cons_zero, List.set_cons_succ]
      refine wpAnyH_take (i := 7) (oi := o4_7) (v := ?_) rfl (by kernel_rfl) (by kernel_rfl) (by kernel_rfl) (fun _ _ _ h => h) (Or.inl ⟨by rfl, ?_⟩) (by assumption) ?_
      rotate_left
      · ((intro w hSw; delta o4_7; (try dsimp only at hSw); go_simp) <;> with_reducible rfl)
      try simp only [o4_7, Act.put, List.setIfInBounds_toArray, List.set_cons_zero, List.set_cons_succ]
      refine wpAnyH_ready (rs := [8]) (by kernel_rfl) (by simp) ?_
      refine AllReadyH.cons (o := o4_8) rfl (fun K hK => ?_) AllReadyH.nil
      delta o4_8
      go_simp
      refine hK.out _ _ ?_ (fun hHeld => ?_)
      · (try dsimp only); (exact HSg.out _ (HC.out.alloc HC.out.size _))
      clear hK K
      try simp only [o4_8, Act.put, List.setIfInBounds_toArray, List.set_cons_zero, List.set_cons_succ]
      refine wpAnyH_done (by kernel_rfl) ?_ _
      refine NoPanic.normal ?_
      go_wp2_with fail
      go_meet
      exact seaTerr_new hoA.out hAB.out hoB.out HC.out
     refine AllReadyH.cons (o := o4_6) rfl (fun K hK => ?_) ?_
     ·
      delta o4_6
      go_simp
      have HZ := Lib.hid (show Blk (wA.alloc (.cells #[.int .i64 0, .int .i64 0, .int .i64 0, .slice none 0 0] 24)) wA.heap.size 24 #[.int .i64 0, .int .i64 0, .int .i64 0, .slice none 0 0] from Blk.new' _ _ _ rfl)
      refine hK.out _ _ ?_ (fun hHeld => ?_)
      · (try dsimp only); (refine HSg.out _ (Below.trans HC.out (Below.mono ?_ HC.out.size)); ((repeat (first | exact Below.refl _ _ | assumption | refine Below.drew ?_ | refine Below.drewN' ?_ _ | (refine Below.alloc ?_ (by simp <;> omega) _) | (refine Below.setCell ?_ (by simp <;> omega) _))); done))
      clear hK K
      try simp only [o4_6, Act.put, List.setIfInBounds_toArray, List.set_cons_zero, List.set_cons_succ]
      refine wpAnyH_ready (rs := [5]) (by kernel_rfl) (by simp) ?_
      refine AllReadyH.cons (o := o4_5) rfl (fun K hK => ?_) AllReadyH.nil
      delta o4_5
      go_simp
      ((with_reducible refine (HTk.out _ (Below.trans HC.out (Below.mono (by exact (by repeat (first | exact Below.refl _ _ | assumption | refine Below.drew ?_ | refine Below.drewN' ?_ _ | (refine Below.alloc ?_ (by simp <;> omega) _) | (refine Below.setCell ?_ (by simp <;> omega) _)))) HC.out.size))).mono ?_); rintro e wB ⟨vB, rfl, hoB, hbB, hcB⟩; obtain ⟨BB, cB, rfl⟩ := own_open hoB.out; have hAB := Lib.hid (show Below wA.heap.size wA wB from ((Below.refl _ _).alloc (Nat.le_refl _) _).trans (hcB.out.mono (by simp))); have HZA := Lib.hid (show Blk wB wA.heap.size _ _ from HZ.out.below hcB.out HZ.out.lt); clear HZ; have HZ := HZA; clear HZA; obtain ⟨⟨z0, z1, z2, z3⟩, f0, f1, f2, f3⟩ := zero_parts HZ.out; have hszB := hbB.out.size; clear HC; have HC := hbB; clear hbB)
      refine hK.out _ _ ?_ (fun hHeld => ?_)
      · (try dsimp only); (refine HSg.out _ (Below.trans HC.out (Below.mono ?_ HC.out.size)); ((repeat (first | exact Below.refl _ _ | assumption | refine Below.drew ?_ | refine Below.drewN' ?_ _ | (refine Below.alloc ?_ (by simp <;> omega) _) | (refine Below.setCell ?_ (by simp <;> omega) _))); done))
      clear hK K
      try simp only [o4_5, Act.put, List.setIfInBounds_toArray, List.set_cons_zero, List.set_cons_succ]
      refine wpAnyH_take (i := 7) (oi := o4_7) (v := ?_) rfl (by kernel_rfl) (by kernel_rfl) (by kernel_rfl) (fun _ _ _ h => h) (Or.inl ⟨by rfl, ?_⟩) (by assumption) ?_
      rotate_left
      · ((intro w hSw; delta o4_7; (try dsimp only at hSw); go_simp) <;> with_reducible rfl)
      try simp only [o4_7, Act.put, List.setIfInBounds_toArray, List.set_cons_zero, List.set_cons_succ]
      refine wpAnyH_ready (rs := [8]) (by kernel_rfl) (by simp) ?_
      refine AllReadyH.cons (o := o4_8) rfl (fun K hK => ?_) AllReadyH.nil
      delta o4_8
      go_simp
      refine hK.out _ _ ?_ (fun hHeld => ?_)
      · (try dsimp only); (exact HSg.out _ ((((HC.out.setCell hszA _).setCell hszA _).setCell hszA _).setCell hszA _))
      clear hK K
      try simp only [o4_8, Act.put, List.setIfInBounds_toArray, List.set_cons_zero, List.set_cons_succ]
      refine wpAnyH_done (by kernel_rfl) ?_ _
      refine NoPanic.normal ?_
      go_wp2_with fail
      go_meet
      exact seaTerr_set HZ.out (own_below hoA.out hAB.out (Nat.le_refl _)) hoB.out HC.out (by omega) (fun e => by have h := hoA.out.lt _ e; first | omega | (simp at h; omega) | (simp at h)) (fun e => by have h := hoB.out.lt _ e; first | omega | (simp at h; omega) | (simp at h))
     exact AllReadyH.nil
    refine AllReadyH.cons (o := o4_6) rfl (fun K hK => ?_) ?_
    ·
     delta o4_6
     go_simp
     have HZ := Lib.hid (show Blk (V2.alloc (.cells #[.int .i64 0, .int .i64 0, .int .i64 0, .slice none 0 0] 24)) V2.heap.size 24 #[.int .i64 0, .int .i64 0, .int .i64 0, .slice none 0 0] from Blk.new' _ _ _ rfl)
     refine hK.out _ _ ?_ (fun hHeld => ?_)
     · (try dsimp only); (refine HSg.out _ (Below.trans HC.out (Below.mono ?_ HC.out.size)); ((repeat (first | exact Below.refl _ _ | assumption | refine Below.drew ?_ | refine Below.drewN' ?_ _ | (refine Below.alloc ?_ (by simp <;> omega) _) | (refine Below.setCell ?_ (by simp <;> omega) _))); done))
     clear hK K
     try simp only [o4_6, Act.put, List.setIfInBounds_toArray, List.set_cons_zero, List.set_cons_succ]
     refine wpAnyH_ready (rs := [2]) (by kernel_rfl) (by simp) ?_
     refine AllReadyH.cons (o := o4_2) rfl (fun K hK => ?_) AllReadyH.nil
     delta o4_2
     go_simp
     ((with_reducible refine (HSk.out _ (Below.trans HC.out (Below.mono (by exact (by repeat (first | exact Below.refl _ _ | assumption | refine Below.drew ?_ | refine Below.drewN' ?_ _ | (refine Below.alloc ?_ (by simp <;> omega) _) | (refine Below.setCell ?_ (by simp <;> omega) _)))) HC.out.size))).mono ?_); rintro e wA ⟨vA, rfl, hoA, hbA, hcA⟩; obtain ⟨BA, cA, rfl⟩ := own_open hoA.out; have HZA : Hid (Blk wA V2.heap.size 24 #[.int .i64 0, .int .i64 0, .int .i64 0, .slice none 0 0]) := (by first | exact HZ.out.below hcA.out HZ.out.lt | exact (Blk.drew HZ.out).below hcA.out HZ.out.lt); clear HZ; have HZ := HZA; clear HZA; have hsA1 := HZ.out.lt; have hszA := hbA.out.size; clear HC; have HC := hbA; clear hbA)
     refine hK.out _ _ ?_ (fun hHeld => ?_)
     · (try dsimp only); (refine HSg.out _ (Below.trans HC.out (Below.mono ?_ HC.out.size)); ((repeat (first | exact Below.refl _ _ | assumption | refine Below.drew ?_ | refine Below.drewN' ?_ _ | (refine Below.alloc ?_ (by simp <;> omega) _) | (refine Below.setCell ?_ (by simp <;> omega) _))); done))
     clear hK K
     try simp only [o4_2, Act.put, List.setIfInBounds_toArray, List.set_cons_zero, List.set_cons_succ]
     refine wpAnyH_ready (rs := [5]) (by kernel_rfl) (by simp) ?_
     refine AllReadyH.cons (o := o4_5) rfl (fun K hK => ?_) AllReadyH.nil
     delta o4_5
     go_simp
     ((with_reducible refine (HTk.out _ (Below.trans HC.out (Below.mono (by exact (by repeat (first | exact Below.refl _ _ | assumption | refine Below.drew ?_ | refine Below.drewN' ?_ _ | (refine Below.alloc ?_ (by simp <;> omega) _) | (refine Below.setCell ?_ (by simp <;> omega) _)))) HC.out.size))).mono ?_); rintro e wB ⟨vB, rfl, hoB, hbB, hcB⟩; obtain ⟨BB, cB, rfl⟩ := own_open hoB.out; have hAB := Lib.hid (show Below wA.heap.size wA wB from hcB.out); have HZA := Lib.hid (show Blk wB V2.heap.size _ _ from HZ.out.below hcB.out HZ.out.lt); clear HZ; have HZ := HZA; clear HZA; obtain ⟨⟨z0, z1, z2, z3⟩, f0, f1, f2, f3⟩ := zero_parts HZ.out; have hszB := hbB.out.size; clear HC; have HC := hbB; clear hbB)
     refine hK.out _ _ ?_ (fun hHeld => ?_)
     · (try dsimp only); (refine HSg.out _ (Below.trans HC.out (Below.mono ?_ HC.out.size)); ((repeat (first | exact Below.refl _ _ | assumption | refine Below.drew ?_ | refine Below.drewN' ?_ _ | (refine Below.alloc ?_ (by simp <;> omega) _) | (refine Below.setCell ?_ (by simp <;> omega) _))); done))
     clear hK K
     try simp only [o4_5, Act.put, List.setIfInBounds_toArray, List.set_cons_zero, List.set_cons_succ]
     refine wpAnyH_take (i := 7) (oi := o4_7) (v := ?_) rfl (by kernel_rfl) (by kernel_rfl) (by kernel_rfl) (fun _ _ _ h => h) (Or.inl ⟨by rfl, ?_⟩) (by assumption) ?_
     rotate_left
     · ((intro w hSw; delta o4_7; (try dsimp only at hSw); go_simp) <;> with_reducible rfl)
     try simp only [o4_7, Act.put, List.setIfInBounds_toArray, List.set_cons_zero, List.set_cons_succ]
     refine wpAnyH_ready (rs := [8]) (by kernel_rfl) (by simp) ?_
     refine AllReadyH.cons (o := o4_8) rfl (fun K hK => ?_) AllReadyH.nil
     delta o4_8
     go_simp
     refine hK.out _ _ ?_ (fun hHeld => ?_)
     · (try dsimp only); (exact HSg.out _ ((((HC.out.setCell (Nat.le_refl _) _).setCell (Nat.le_refl _) _).setCell (Nat.le_refl _) _).setCell (Nat.le_refl _) _))
     clear hK K
     try simp only [o4_8, Act.put, List.setIfInBounds_toArray, List.set_cons_zero, List.set_cons_succ]
     refine wpAnyH_done (by kernel_rfl) ?_ _
     refine NoPanic.normal ?_
     go_wp2_with fail
     go_meet
     exact seaTerr_set HZ.out (own_below hoA.out hAB.out (Nat.le_refl _)) hoB.out HC.out (by omega) (fun e => by have h := hoA.out.lt _ e; first | omega | (simp at h; omega) | (simp at h)) (fun e => by have h := hoB.out.lt _ e; first | omega | (simp at h; omega) | (simp at h))
    exact AllReadyH.nil
  case rest =>
    as_aux_lemma =>
    obtain ⟨b13, BA, cA, BB, cB, rfl, rfl, hi, hk, hr, hb⟩ := hcut
    obtain ⟨w4, rfl⟩ : ∃ w4, w4 = wc := ⟨_, rfl⟩
    have HTl : Hid (T.ss.length = g.ss.length) := HTN.out.1.len
    have HI4 := Lib.hid hi
    have HKt4 := Lib.hid hk
    have HGt4 : Hid (GridAt w4 w4.heap.size (.agg #[.int .i64 T.W, .int .i64 T.H, .int .i64 T.S, .slice BB g.ss.length cB]) T) := by
      refine ⟨_, rfl, ?_⟩
      have e := HTl.out
      show Reads w4 w4.heap.size 2 _ T.ss.length _
      rw [e]
      exact hr
    have HB4 := Lib.hid (HBV2.out.trans (hb.mono HBV2.out.size))
    have HKg4 := Lib.hid (HVK2.out.below hb HVK2.out.lt)
    have HGg4 := Lib.hid (HGV2.out.later hb (Nat.le_refl _))
    clear hi hk hr hb HC HSg HSk HTk
    have hlv1 := tmod_rng lev
    obtain ⟨lv, hlv⟩ : ∃ lv, lev.tmod 15000 = lv := ⟨_, rfl⟩
    rw [hlv] at hlv1
    have wl : IntKind.i64.wrap lev = lev := IntWalk.i64_in _ (by omega)
    have wm : IntKind.i64.wrap mo = mo := IntWalk.i64_in _ (by omega)
    obtain ⟨hlv2, hlv3⟩ := hlv1
    obtain ⟨hmo1, hmo2⟩ := hmo
    go_upto_region 6 with (fail)
    obtain ⟨V4, hV4⟩ : ∃ V, w4.alloc (.cells #[.int .i64 lv, .int .i64 (lv + mo)] 34) = V := ⟨_, rfl⟩
    have HVB4 : Hid (Below w4.heap.size w4 V4) := by rw [← hV4]; exact (by repeat (first | exact Below.refl _ _ | assumption | refine Below.drew ?_ | refine Below.drewN' ?_ _ | (refine Below.alloc ?_ (by simp <;> omega) _) | (refine Below.setCell ?_ (by simp <;> omega) _)))
    have HKs : Hid (Blk V4 w4.heap.size 34 #[.int .i64 lv, .int .i64 (lv + mo)]) := by rw [← hV4]; exact Blk.new' _ _ _ rfl
    rw [hV4]
    clear hV4 wl wm hlv
    have HBV4 := Lib.hid (HB4.out.trans (HVB4.out.mono HB4.out.size))
    have HKg := Lib.hid (HKg4.out.below HVB4.out HKg4.out.lt)
    have HKt := Lib.hid (HKt4.out.below HVB4.out HKt4.out.lt)
    have HGg := Lib.hid (HGg4.out.later HVB4.out (Nat.le_refl _))
    have HGt := Lib.hid (HGt4.out.later HVB4.out (Nat.le_refl _))
    have HI := Lib.hid (HI4.out.later HVB4.out (Nat.le_refl _))
    clear HKg4 HKt4 HGg4 HGt4 HI4 HVB4 HVK2 HGV2
    obtain ⟨sts, hsts⟩ : ∃ sts, L.map Int.toNat = sts := ⟨_, rfl⟩
    have HSts := Lib.hid hsts
    have HSTT : Hid (sts ≠ [] ∧ ∀ c, c ∈ sts → c < g.ss.length) := by
      refine seas_sts HM1.out (l := sea) ?_
      rw [HLE.out]
      exact hsts
    clear hsts HSS
    have HST' : Hid (seaE T L = 0) := by
      have h := seas_ok HTO.out sea
      rw [HTl.out, HLE.out] at h
      exact h
    have HFl : Hid (floodE g L lv (lv + mo) = 0) := flood_zero HSL.out (by omega) (by omega) (by omega)
    have HD := Lib.hid (Below.refl V4.heap.size V4)
    obtain ⟨p0, p1, p2, p3⟩ := grid_parts (HKg.out.below HD.out HKg.out.lt)
    go_wp2_with fail
    refine (Sills_any _ _ g L _ (HGg.out.later HD.out (Nat.le_refl _)) (HI.out.later HD.out (Nat.le_refl _))).mono ?_
    rintro e w6 ⟨v6, s6, rfl, hs6, hb6, hc6⟩
    have HZ6 : Hid (Sillz g sts s6) := by
      rcases hc6 with ⟨hx, _⟩ | ⟨_, sts', hl', hz⟩
      · exact absurd HSL.out hx
      · rw [Hid, ← HSts.out, ← sts_eq hl']; exact hz
    rw [HSL.out]
    obtain ⟨B6, c6, rfl⟩ := hs6.open_len (L := g.ss.length) (HZ6.out.length)
    have HR6 := Lib.hid hs6
    have HE6 := Lib.hid hb6
    have HDn := Lib.hid (HD.out.trans (hb6.mono HD.out.size))
    clear HD p0 p1 p2 p3 hs6 hb6 hc6
    have HD := HDn
    clear HDn
    obtain ⟨p0, p1, p2, p3⟩ := grid_parts (HKt.out.below HD.out HKt.out.lt)
    go_wp2_with fail
    refine (Sills_any _ _ T L _ (HGt.out.later HD.out (Nat.le_refl _)) (HI.out.later HD.out (Nat.le_refl _))).mono ?_
    rintro e w7 ⟨v7, s7, rfl, hs7, hb7, hc7⟩
    have HZ7 : Hid (Sillz T sts s7) := by
      rcases hc7 with ⟨hx, _⟩ | ⟨_, sts', hl', hz⟩
      · exact absurd HST'.out hx
      · rw [Hid, ← HSts.out, ← sts_eq hl']; exact hz
    rw [HST'.out]
    obtain ⟨B7, c7, rfl⟩ := hs7.open_len (L := g.ss.length) ((HZ7.out.length).trans HTl.out)
    have HR7 := Lib.hid hs7
    have HE7 := Lib.hid hb7
    have HDn := Lib.hid (HD.out.trans (hb7.mono HD.out.size))
    clear HD p0 p1 p2 p3 hs7 hb7 hc7
    have HD := HDn
    clear HDn
    obtain ⟨p0, p1, p2, p3⟩ := grid_parts (HKg.out.below HD.out HKg.out.lt)
    go_wp2_with fail
    refine (Ponds_any _ _ g L _ (HGg.out.later HD.out (Nat.le_refl _)) (HI.out.later HD.out (Nat.le_refl _))).mono ?_
    rintro e w8 ⟨v8, s8, rfl, hs8, hb8, hc8⟩
    have HZ8 := Lib.hid (pond_case HSL.out HSts.out hc8)
    rw [HSL.out]
    obtain ⟨B8, c8, rfl⟩ := hs8.open_len (L := g.ss.length) (HZ8.out.length)
    have HR8 := Lib.hid hs8
    have HE8 := Lib.hid hb8
    have HDn := Lib.hid (HD.out.trans (hb8.mono HD.out.size))
    clear HD p0 p1 p2 p3 hs8 hb8 hc8
    have HD := HDn
    clear HDn
    obtain ⟨p0, p1, p2, p3⟩ := grid_parts (HKt.out.below HD.out HKt.out.lt)
    go_wp2_with fail
    refine (Ponds_any _ _ T L _ (HGt.out.later HD.out (Nat.le_refl _)) (HI.out.later HD.out (Nat.le_refl _))).mono ?_
    rintro e w9 ⟨v9, s9, rfl, hs9, hb9, hc9⟩
    have HZ9 := Lib.hid (pond_case HST'.out HSts.out hc9)
    rw [HST'.out]
    obtain ⟨B9, c9, rfl⟩ := hs9.open_len (L := g.ss.length) ((HZ9.out.length).trans HTl.out)
    have HR9 := Lib.hid hs9
    have HE9 := Lib.hid hb9
    have HDn := Lib.hid (HD.out.trans (hb9.mono HD.out.size))
    clear HD p0 p1 p2 p3 hs9 hb9 hc9
    have HD := HDn
    clear HDn
    obtain ⟨p0, p1, p2, p3⟩ := grid_parts (HKg.out.below HD.out HKg.out.lt)
    have y0 := (HKs.out.below HD.out HKs.out.lt).cell 0
    have y1 := (HKs.out.below HD.out HKs.out.lt).cell 1
    simp only [List.getElem?_toArray, List.getElem?_cons_zero, List.getElem?_cons_succ] at y0 y1
    go_wp2_with fail
    refine (Flood_any _ _ g L lv (lv + mo) _ (HGg.out.later HD.out (Nat.le_refl _)) (HI.out.later HD.out (Nat.le_refl _))).mono ?_
    rintro e w10 ⟨v10, u10, s10, t10, rfl, hs10, ht10, hb10, hc10⟩
    have HZ10 := Lib.hid (flood_case HFl.out HSts.out hc10)
    rw [HFl.out]
    obtain ⟨B10, c10, rfl⟩ := hs10.open_len (L := g.ss.length) HZ10.out.length.1
    obtain ⟨D10, k10, rfl⟩ := ht10.open_len (L := g.ss.length) HZ10.out.length.2
    have HR10 := Lib.hid hs10
    have HU10 := Lib.hid ht10
    have HE10 := Lib.hid hb10
    have HDn := Lib.hid (HD.out.trans (hb10.mono HD.out.size))
    clear HD p0 p1 p2 p3 hs10 hb10 hc10 ht10 y0 y1
    have HD := HDn
    clear HDn
    have HE9 := Lib.hid (HE9.out)
    have HA7 := Lib.hid (HR6.out.later HE7.out (Nat.le_refl _))
    have HA8 := Lib.hid (HA7.out.later HE8.out (Nat.le_refl _))
    have HA9 := Lib.hid (HA8.out.later HE9.out (Nat.le_refl _))
    have HAa := Lib.hid (HA9.out.later HE10.out (Nat.le_refl _))
    have HB8 := Lib.hid (HR7.out.later HE8.out (Nat.le_refl _))
    have HB9 := Lib.hid (HB8.out.later HE9.out (Nat.le_refl _))
    have HAb := Lib.hid (HB9.out.later HE10.out (Nat.le_refl _))
    have HC9 := Lib.hid (HR8.out.later HE9.out (Nat.le_refl _))
    have HAp := Lib.hid (HC9.out.later HE10.out (Nat.le_refl _))
    have HAq := Lib.hid (HR9.out.later HE10.out (Nat.le_refl _))
    clear HA7 HA8 HA9 HB8 HB9 HC9 HR6 HR7 HR8 HR9 HE6 HE7 HE8 HE9 HE10
    obtain ⟨p0, p1, p2, p3⟩ := grid_parts (HKg.out.below HD.out HKg.out.lt)
    have y0 := (HKs.out.below HD.out HKs.out.lt).cell 0
    have y1 := (HKs.out.below HD.out HKs.out.lt).cell 1
    simp only [List.getElem?_toArray, List.getElem?_cons_zero, List.getElem?_cons_succ] at y0 y1
    go_wp2_with fail
    clear p0 p1 p2 p3 y0 y1
    obtain ⟨V10, hV10⟩ : ∃ V, w10.alloc (.cells #[.int .i64 lv, .int .i64 (lv + mo)] 3) = V := ⟨_, rfl⟩
    have HE10 : Hid (Below w10.heap.size w10 V10) := by rw [← hV10]; exact (by repeat (first | exact Below.refl _ _ | assumption | refine Below.drew ?_ | refine Below.drewN' ?_ _ | (refine Below.alloc ?_ (by simp <;> omega) _) | (refine Below.setCell ?_ (by simp <;> omega) _)))
    have HKl : Hid (Blk V10 w10.heap.size 3 #[.int .i64 lv, .int .i64 (lv + mo)]) := by rw [← hV10]; exact Blk.new' _ _ _ rfl
    rw [hV10]
    clear hV10
    have HDv := Lib.hid (HD.out.trans (HE10.out.mono HD.out.size))
    have HLm : Hid (L = sts.map fun (c : Nat) => (c : Int)) := by
      rw [Hid, ← HSts.out, List.map_map]
      conv => lhs; rw [← List.map_id L]
      refine List.map_congr_left fun z hz => ?_
      have h := seas_in (g := g) (by omega) sea z (by rw [HLE.out]; exact hz)
      simp only [id_eq, Function.comp_apply]
      omega
    have lkl : w10.heap.size < V10.heap.size := HKl.out.lt
    go_loopw [160] (fun i wr => ∃ k : Nat, k ≤ 2 ∧ i = .int .i64 k ∧ Hid (Below V10.heap.size V10 wr)) (fun i _ => 2 - (intOf i).toNat)
    case atStart => exact ⟨0, by omega, rfl, Below.refl _ _⟩
    case round =>
      obtain ⟨k, hk, rfl, HBr⟩ := hrel
      have HDr := Lib.hid (HDv.out.trans (HBr.out.mono HDv.out.size))
      by_cases hlt : k < 2
      · have hk0 : (0 : Int) ≤ (k : Int) := by omega
        have hk1 : (k : Int) < 2 := by omega
        obtain ⟨x, hxc, hx1, hx2⟩ : ∃ x, wr.cell? ⟨w10.heap.size, k, none⟩ = some (.int .i64 x) ∧ lv ≤ x ∧ x ≤ lv + mo := by
          have b := HKl.out.below HBr.out HKl.out.lt
          obtain rfl | rfl : k = 0 ∨ k = 1 := by omega
          · exact ⟨lv, b.cell 0, by omega, by omega⟩
          · exact ⟨lv + mo, b.cell 1, by omega, by omega⟩
        obtain ⟨q0, q1, q2, q3⟩ := grid_parts (HKt.out.below HDr.out HKt.out.lt)
        go_wp2_with fail
        refine (wet_any _ _ T L sts x _ (HGt.out.later HDr.out (Nat.le_refl _)) (HI.out.later HDr.out (Nat.le_refl _)) (valid_of HTO.out) HLm.out (fun c hc => by rw [HTl.out]; exact HSTT.out.2 c hc) HLn.out).mono ?_
        rintro e w11 ⟨v11, is, rfl, hv11, hl11, hw11, hb11⟩
        obtain ⟨B11, c11, rfl⟩ := hv11.open_len (hl11.trans HTl.out)
        have HV11 := Lib.hid hv11
        have HL11 := Lib.hid (hl11.trans HTl.out)
        have HW11 := Lib.hid hw11
        have HBn := Lib.hid (HBr.out.trans (hb11.mono HBr.out.size))
        have HEn := Lib.hid (HE10.out.trans (HBn.out.mono HE10.out.size))
        clear hv11 hl11 hw11 hb11 q0 q1 q2 q3 hxc
        obtain ⟨wo, rfl⟩ : ∃ wo : World, wo = wr := ⟨_, rfl⟩
        go_wp2_with fail
        go_loopw [169] (fun j wq => ∃ q : Nat, q ≤ g.ss.length ∧ j = .int .i64 q ∧ Hid (w11 = wq)) (fun j _ => g.ss.length - (intOf j).toNat)
        case atStart => exact ⟨0, Nat.zero_le _, rfl, rfl⟩
        case round =>
          obtain ⟨q, hq, rfl, Hwr⟩ := hrel
          have ewr := Hwr.out
          subst ewr
          clear Hwr
          by_cases hltq : q < g.ss.length
          · have hq0 : (0 : Int) ≤ (q : Int) := by omega
            have hq1 : (q : Int) < (g.ss.length : Int) := by omega
            obtain ⟨b1, o1, i1, rfl, hb1, e1, c1⟩ := HV11.out.atD (k := q) (by rw [HL11.out]; exact hltq)
            obtain ⟨b2, o2, i2, rfl, hb2, e2, c2⟩ := (HR10.out.later HEn.out (Nat.le_refl _)).atD (k := q) (by rw [HZ10.out.length.1]; exact hltq)
            obtain ⟨b3, o3, i3, rfl, hb3, e3, c3⟩ := (HU10.out.later HEn.out (Nat.le_refl _)).atD (k := q) (by rw [HZ10.out.length.2]; exact hltq)
            obtain ⟨b4, o4, blo, bhi, rfl, hb4, e4, c4, c5⟩ := (HAb.out.later HEn.out (Nat.le_refl _)).atD (k := q) (by rw [HZ7.out.length, HTl.out]; exact hltq)
            obtain ⟨r1, r2, r3⟩ := truth_wet HM1.out HTO.out HTN.out.1 HSTT.out.1 HSTT.out.2 HZ7.out HZ10.out hx1 hx2 hltq (is := i1) (by rw [← e1]; exact HW11.out q)
            rw [e2] at r1
            rw [e3] at r2
            have e5 : loF s7 q = blo := by unfold loF; rw [e4]
            rw [e5] at r3
            clear e1 e2 e3 e4 e5 c5
            have cs : (i1 = true ∧ i3 = true ∧ blo < x) ∨ (i1 = false ∧ i2 = false ∧ ¬ blo < x) := by
              cases i1
              · right
                refine ⟨rfl, ?_, by simpa using r3⟩
                cases i2
                · rfl
                · exact absurd (r1 rfl) (by simp)
              · left
                exact ⟨rfl, r2 rfl, by simpa using r3⟩
            clear r1 r2 r3
            rcases cs with ⟨rfl, rfl, hbx⟩ | ⟨rfl, rfl, hbx⟩
            · cases i2
              all_goals
                go_wp2
                go_roundw
                case rel => exact ⟨q + 1, by omega, by go_num, (by first | exact rfl | exact True.intro)⟩
                case measure => simp [intOf]; omega
            · cases i3
              all_goals
                go_wp2
                go_roundw
                case rel => exact ⟨q + 1, by omega, by go_num, (by first | exact rfl | exact True.intro)⟩
                case measure => simp [intOf]; omega
          · go_wp2
            go_roundw
            case rel => exact ⟨k + 1, by omega, by go_num, HBn.out⟩
            case measure => simp [intOf]; omega
      · clear hk
        have HEr := Lib.hid (HE10.out.trans (HBr.out.mono HE10.out.size))
        obtain ⟨w12, rfl⟩ : ∃ w12, w12 = wr := ⟨_, rfl⟩
        clear HBr
        go_wp2_with fail
        go_loopw [207] (fun i wr => ∃ c : Nat, c ≤ g.ss.length ∧ i = .int .i64 c ∧ Hid (Below w12.heap.size w12 wr)) (fun i _ => g.ss.length - (intOf i).toNat)
        case atStart => exact ⟨0, Nat.zero_le _, rfl, Below.refl _ _⟩
        case round =>
          as_aux_lemma =>
          obtain ⟨c, hc, rfl, HBr⟩ := hrel
          have HDc := Lib.hid (HDr.out.trans (HBr.out.mono HDr.out.size))
          have HEc := Lib.hid (HEr.out.trans (HBr.out.mono HEr.out.size))
          by_cases hltc : c < g.ss.length
          · have hc0 : (0 : Int) ≤ (c : Int) := by omega
            have hc1 : (c : Int) < (g.ss.length : Int) := by omega
            obtain ⟨r1, r2, r3, r4⟩ := truth_cell HM1.out HTO.out HTN.out.1 HTN.out.2 HSTT.out.1 HSTT.out.2 HZ6.out HZ7.out HZ8.out HZ9.out hltc
            have sz := HEc.out.size
            obtain ⟨ba, oa, alo, ahi, rfl, hba, ea, a1, a2⟩ := ((HAa.out.below HEc.out)).atD (k := c) (by rw [HZ6.out.length]; exact hltc)
            obtain ⟨bb, ob, blo, bhi, rfl, hbb, eb, b1, b2⟩ := ((HAb.out.below HEc.out)).atD (k := c) (by rw [HZ7.out.length, HTl.out]; exact hltc)
            obtain ⟨bp, op, plo, phi, rfl, hbp, ep, p1, p2⟩ := ((HAp.out.below HEc.out)).atD (k := c) (by rw [HZ8.out.length]; exact hltc)
            obtain ⟨bq, oq, qlo, qhi, rfl, hbq, eq, q1, q2⟩ := ((HAq.out.below HEc.out)).atD (k := c) (by rw [HZ9.out.length, HTl.out]; exact hltc)
            have hba : ba < wr.heap.size := by omega
            have hbb : bb < wr.heap.size := by omega
            have hbp : bp < wr.heap.size := by omega
            have hbq : bq < wr.heap.size := by omega
            rw [eb, ea] at r1
            rw [eb] at r2
            rw [eq, ep] at r3
            rw [eq] at r4
            have r2 : blo = bhi := r2
            have r4 : qlo = qhi := r4
            subst r2 r4
            have HW1 := Lib.hid (lwithin_k r1 wr)
            have HW2 := Lib.hid (lwithin_k r3 wr)
            have HSk : Hid (∀ W, Below wr.heap.size wr W → W.cell? ⟨bb, ob + c * 2, none⟩ = some (.int .i64 blo) ∧ W.cell? ⟨bb, ob + c * 2 + 1, none⟩ = some (.int .i64 blo) ∧ W.cell? ⟨ba, oa + c * 2, none⟩ = some (.int .i64 alo) ∧ W.cell? ⟨ba, oa + c * 2 + 1, none⟩ = some (.int .i64 ahi) ∧ W.cell? ⟨bq, oq + c * 2, none⟩ = some (.int .i64 qlo) ∧ W.cell? ⟨bq, oq + c * 2 + 1, none⟩ = some (.int .i64 qlo) ∧ W.cell? ⟨bp, op + c * 2, none⟩ = some (.int .i64 plo) ∧ W.cell? ⟨bp, op + c * 2 + 1, none⟩ = some (.int .i64 phi)) := fun W hW => ⟨(hW.cell (p := ⟨bb, ob + c * 2, none⟩) hbb).trans b1, (hW.cell (p := ⟨bb, ob + c * 2 + 1, none⟩) hbb).trans b2, (hW.cell (p := ⟨ba, oa + c * 2, none⟩) hba).trans a1, (hW.cell (p := ⟨ba, oa + c * 2 + 1, none⟩) hba).trans a2, (hW.cell (p := ⟨bq, oq + c * 2, none⟩) hbq).trans q1, (hW.cell (p := ⟨bq, oq + c * 2 + 1, none⟩) hbq).trans q2, (hW.cell (p := ⟨bp, op + c * 2, none⟩) hbp).trans p1, (hW.cell (p := ⟨bp, op + c * 2 + 1, none⟩) hbp).trans p2⟩
            have Ea : Hid (loF s6 c = alo ∧ hiF s6 c = ahi) := ⟨by unfold loF; rw [ea], by unfold hiF; rw [ea]⟩
            have Ep := Lib.hid ep
            clear sz r1 r3 ea eb ep eq a1 a2 b1 b2 p1 p2 q1 q2
            have HC := Lib.hid (Below.drew (Below.refl wr.heap.size wr))
            go_upto_region 26 with (fail)
            go_cut [257] from 210 to 258 (fun s wx => s = .bool false ∧ Below wr.heap.size wr wx)
            case first =>
              as_aux_lemma =>
              obtain ⟨t0, t1, t2, t3, t4, t5, t6, t7⟩ := HSk.out _ HC.out
              refine wp_region_noPanic ?_
              refine wp_region_held_drew (S := (fun w' => w'.cell? ⟨bb, ob + c * 2, none⟩ = some (.int .i64 blo) ∧ w'.cell? ⟨bb, ob + c * 2 + 1, none⟩ = some (.int .i64 blo) ∧ w'.cell? ⟨ba, oa + c * 2, none⟩ = some (.int .i64 alo) ∧ w'.cell? ⟨ba, oa + c * 2 + 1, none⟩ = some (.int .i64 ahi) ∧ w'.cell? ⟨bq, oq + c * 2, none⟩ = some (.int .i64 qlo) ∧ w'.cell? ⟨bq, oq + c * 2 + 1, none⟩ = some (.int .i64 qlo) ∧ w'.cell? ⟨bp, op + c * 2, none⟩ = some (.int .i64 plo) ∧ w'.cell? ⟨bp, op + c * 2 + 1, none⟩ = some (.int .i64 phi))) (by kernel_rfl) ?_ (fun hHeld => ?_)
              · (try dsimp only); (refine ⟨?_, ?_, ?_, ?_, ?_, ?_, ?_, ?_⟩ <;> assumption)
              refine wpAnyH_take (i := 0) (oi := o26_0) (v := ?_) rfl (by kernel_rfl) (by kernel_rfl) (by kernel_rfl) (fun _ _ _ h => h) (Or.inl ⟨by rfl, ?_⟩) (by assumption) ?_
              rotate_left
              · ((intro w hSw; delta o26_0; (try dsimp only at hSw); go_simp) <;> with_reducible rfl)
              try simp only [o26_0, Act.put, List.setIfInBounds_toArray, List.set_cons_zero, List.set_cons_succ]
              refine wpAnyH_take (i := 1) (oi := o26_1) (v := ?_) rfl (by kernel_rfl) (by kernel_rfl) (by kernel_rfl) (fun _ _ _ h => h) (Or.inl ⟨by rfl, ?_⟩) (by assumption) ?_
              rotate_left
              · ((intro w hSw; delta o26_1; (try dsimp only at hSw); go_simp) <;> with_reducible rfl)
              try simp only [o26_1, Act.put, List.setIfInBounds_toArray, List.set_cons_zero, List.set_cons_succ]
              refine wpAnyH_take (i := 2) (oi := o26_2) (v := ?_) rfl (by kernel_rfl) (by kernel_rfl) (by kernel_rfl) (fun _ _ _ h => h) (Or.inl ⟨by rfl, ?_⟩) (by assumption) ?_
              rotate_left
              · ((intro w hSw; delta o26_2; (try dsimp only at hSw); go_simp) <;> with_reducible rfl)
              try simp only [o26_2, Act.put, List.setIfInBounds_toArray, List.set_cons_zero, List.set_cons_succ]
              refine wpAnyH_take (i := 3) (oi := o26_3) (v := ?_) rfl (by kernel_rfl) (by kernel_rfl) (by kernel_rfl) (fun _ _ _ h => h) (Or.inl ⟨by rfl, ?_⟩) (by assumption) ?_
              rotate_left
              · ((intro w hSw; delta o26_3; (try dsimp only at hSw); go_simp) <;> with_reducible rfl)
              try simp only [o26_3, Act.put, List.setIfInBounds_toArray, List.set_cons_zero, List.set_cons_succ]
              refine wpAnyH_take (i := 4) (oi := o26_4) (v := ?_) rfl (by kernel_rfl) (by kernel_rfl) (by kernel_rfl) (fun _ _ _ h => h) (Or.inl ⟨by rfl, ?_⟩) (by assumption) ?_
              rotate_left
              · ((intro w hSw; delta o26_4; (try dsimp only at hSw); go_simp) <;> with_reducible rfl)
              try simp only [o26_4, Act.put, List.setIfInBounds_toArray, List.set_cons_zero, List.set_cons_succ]
              refine wpAnyH_take (i := 5) (oi := o26_5) (v := ?_) rfl (by kernel_rfl) (by kernel_rfl) (by kernel_rfl) (fun _ _ _ h => h) (Or.inl ⟨by rfl, ?_⟩) (by assumption) ?_
              rotate_left
              · ((intro w hSw; delta o26_5; (try dsimp only at hSw); go_simp) <;> with_reducible rfl)
              try simp only [o26_5, Act.put, List.setIfInBounds_toArray, List.set_cons_zero, List.set_cons_succ]
              refine wpAnyH_take (i := 6) (oi := o26_6) (v := ?_) rfl (by kernel_rfl) (by kernel_rfl) (by kernel_rfl) (fun _ _ _ h => h) (Or.inl ⟨by rfl, ?_⟩) (by assumption) ?_
              rotate_left
              · ((intro w hSw; delta o26_6; (try dsimp only at hSw); go_simp) <;> with_reducible rfl)
              try simp only [o26_6, Act.put, List.setIfInBounds_toArray, List.set_cons_zero, List.set_cons_succ]
              refine wpAnyH_take (i := 7) (oi := o26_7) (v := ?_) rfl (by kernel_rfl) (by kernel_rfl) (by kernel_rfl) (fun _ _ _ h => h) (Or.inl ⟨by rfl, ?_⟩) (by assumption) ?_
              rotate_left
              · ((intro w hSw; delta o26_7; (try dsimp only at hSw); go_simp) <;> with_reducible rfl)
              try simp only [o26_7, Act.put, List.setIfInBounds_toArray, List.set_cons_zero, List.set_cons_succ]
              refine wpAnyH_ready (rs := [8]) (by kernel_rfl) (by simp) ?_
              refine AllReadyH.cons (o := o26_8) rfl (fun K hK => ?_) AllReadyH.nil
              delta o26_8
              go_simp
              ((with_reducible refine (HW1.out _ HC.out).mono ?_); rintro e wa ⟨rfl, hbz⟩; clear HC t0 t1 t2 t3 t4 t5 t6 t7; have HC := hbz; clear hbz; obtain ⟨t0, t1, t2, t3, t4, t5, t6, t7⟩ := HSk.out _ HC.out)
              refine hK.out _ _ ?_ (fun hHeld => ?_)
              · (try dsimp only); (refine ⟨?_, ?_, ?_, ?_, ?_, ?_, ?_, ?_⟩ <;> assumption)
              clear hK K
              try simp only [o26_8, Act.put, List.setIfInBounds_toArray, List.set_cons_zero, List.set_cons_succ]
              refine wpAnyH_take (i := 9) (oi := o26_9) (v := ?_) rfl (by kernel_rfl) (by kernel_rfl) (by kernel_rfl) (fun _ _ _ h => h) (Or.inl ⟨by rfl, ?_⟩) (by assumption) ?_
              rotate_left
              · ((intro w hSw; delta o26_9; (try dsimp only at hSw); go_simp) <;> with_reducible rfl)
              try simp only [o26_9, Act.put, List.setIfInBounds_toArray, List.set_cons_zero, List.set_cons_succ]
              refine wpAnyH_take (i := 10) (oi := o26_10) (v := ?_) rfl (by kernel_rfl) (by kernel_rfl) (by kernel_rfl) (fun _ _ _ h => h) (Or.inl ⟨by rfl, ?_⟩) (by assumption) ?_
              rotate_left
              · ((intro w hSw; delta o26_10; (try dsimp only at hSw); go_simp) <;> with_reducible rfl)
              try simp only [o26_10, Act.put, List.setIfInBounds_toArray, List.set_cons_zero, List.set_cons_succ]
              refine wpAnyH_take (i := 11) (oi := o26_11) (v := ?_) rfl (by kernel_rfl) (by kernel_rfl) (by kernel_rfl) (fun _ _ _ h => h) (Or.inl ⟨by rfl, ?_⟩) (by assumption) ?_
              rotate_left
              · ((intro w hSw; delta o26_11; (try dsimp only at hSw); go_simp) <;> with_reducible rfl)
              try simp only [o26_11, Act.put, List.setIfInBounds_toArray, List.set_cons_zero, List.set_cons_succ]
              refine wpAnyH_take (i := 12) (oi := o26_12) (v := ?_) rfl (by kernel_rfl) (by kernel_rfl) (by kernel_rfl) (fun _ _ _ h => h) (Or.inl ⟨by rfl, ?_⟩) (by assumption) ?_
              rotate_left
              · ((intro w hSw; delta o26_12; (try dsimp only at hSw); go_simp) <;> with_reducible rfl)
              try simp only [o26_12, Act.put, List.setIfInBounds_toArray, List.set_cons_zero, List.set_cons_succ]
              refine wpAnyH_take (i := 13) (oi := o26_13) (v := ?_) rfl (by kernel_rfl) (by kernel_rfl) (by kernel_rfl) (fun _ _ _ h => h) (Or.inl ⟨by rfl, ?_⟩) (by assumption) ?_
              rotate_left
              · ((intro w hSw; delta o26_13; (try dsimp only at hSw); go_simp) <;> with_reducible rfl)
              try simp only [o26_13, Act.put, List.setIfInBounds_toArray, List.set_cons_zero, List.set_cons_succ]
              refine wpAnyH_take (i := 14) (oi := o26_14) (v := ?_) rfl (by kernel_rfl) (by kernel_rfl) (by kernel_rfl) (fun _ _ _ h => h) (Or.inl ⟨by rfl, ?_⟩) (by assumption) ?_
              rotate_left
              · ((intro w hSw; delta o26_14; (try dsimp only at hSw); go_simp) <;> with_reducible rfl)
              try simp only [o26_14, Act.put, List.setIfInBounds_toArray, List.set_cons_zero, List.set_cons_succ]
              refine wpAnyH_take (i := 15) (oi := o26_15) (v := ?_) rfl (by kernel_rfl) (by kernel_rfl) (by kernel_rfl) (fun _ _ _ h => h) (Or.inl ⟨by rfl, ?_⟩) (by assumption) ?_
              rotate_left
              · ((intro w hSw; delta o26_15; (try dsimp only at hSw); go_simp) <;> with_reducible rfl)
              try simp only [o26_15, Act.put, List.setIfInBounds_toArray, List.set_cons_zero, List.set_cons_succ]
              as_aux_lemma =>
               refine wpAnyH_take (i := 16) (oi := o26_16) (v := ?_) rfl (by kernel_rfl) (by kernel_rfl) (by kernel_rfl) (fun _ _ _ h => h) (Or.inl ⟨by rfl, ?_⟩) (by assumption) ?_
               rotate_left
               · ((intro w hSw; delta o26_16; (try dsimp only at hSw); go_simp) <;> with_reducible rfl)
               try simp only [o26_16, Act.put, List.setIfInBounds_toArray, List.set_cons_zero, List.set_cons_succ]
               refine wpAnyH_take (i := 17) (oi := o26_17) (v := ?_) rfl (by kernel_rfl) (by kernel_rfl) (by kernel_rfl) (fun _ _ _ h => h) (Or.inl ⟨by rfl, ?_⟩) (by assumption) ?_
               rotate_left
               · ((intro w hSw; delta o26_17; (try dsimp only at hSw); go_simp) <;> with_reducible rfl)
               try simp only [o26_17, Act.put, List.setIfInBounds_toArray, List.set_cons_zero, List.set_cons_succ]
               refine wpAnyH_take (i := 18) (oi := o26_18) (v := ?_) rfl (by kernel_rfl) (by kernel_rfl) (by kernel_rfl) (fun _ _ _ h => h) (Or.inl ⟨by rfl, ?_⟩) (by assumption) ?_
               rotate_left
               · ((intro w hSw; delta o26_18; (try dsimp only at hSw); go_simp) <;> with_reducible rfl)
               try simp only [o26_18, Act.put, List.setIfInBounds_toArray, List.set_cons_zero, List.set_cons_succ]
               refine wpAnyH_take (i := 19) (oi := o26_19) (v := ?_) rfl (by kernel_rfl) (by kernel_rfl) (by kernel_rfl) (fun _ _ _ h => h) (Or.inl ⟨by rfl, ?_⟩) (by assumption) ?_
               rotate_left
               · ((intro w hSw; delta o26_19; (try dsimp only at hSw); go_simp) <;> with_reducible rfl)
               try simp only [o26_19, Act.put, List.setIfInBounds_toArray, List.set_cons_zero, List.set_cons_succ]
               refine wpAnyH_take (i := 20) (oi := o26_20) (v := ?_) rfl (by kernel_rfl) (by kernel_rfl) (by kernel_rfl) (fun _ _ _ h => h) (Or.inl ⟨by rfl, ?_⟩) (by assumption) ?_
               rotate_left
               · ((intro w hSw; delta o26_20; (try dsimp only at hSw); go_simp) <;> with_reducible rfl)
               try simp only [o26_20, Act.put, List.setIfInBounds_toArray, List.set_cons_zero, List.set_cons_succ]
               refine wpAnyH_take (i := 21) (oi := o26_21) (v := ?_) rfl (by kernel_rfl) (by kernel_rfl) (by kernel_rfl) (fun _ _ _ h => h) (Or.inl ⟨by rfl, ?_⟩) (by assumption) ?_
               rotate_left
               · ((intro w hSw; delta o26_21; (try dsimp only at hSw); go_simp) <;> with_reducible rfl)
               try simp only [o26_21, Act.put, List.setIfInBounds_toArray, List.set_cons_zero, List.set_cons_succ]
               refine wpAnyH_take (i := 22) (oi := o26_22) (v := ?_) rfl (by kernel_rfl) (by kernel_rfl) (by kernel_rfl) (fun _ _ _ h => h) (Or.inl ⟨by rfl, ?_⟩) (by assumption) ?_
               rotate_left
               · ((intro w hSw; delta o26_22; (try dsimp only at hSw); go_simp) <;> with_reducible rfl)
               try simp only [o26_22, Act.put, List.setIfInBounds_toArray, List.set_cons_zero, List.set_cons_succ]
               refine wpAnyH_take (i := 23) (oi := o26_23) (v := ?_) rfl (by kernel_rfl) (by kernel_rfl) (by kernel_rfl) (fun _ _ _ h => h) (Or.inl ⟨by rfl, ?_⟩) (by assumption) ?_
               rotate_left
               · ((intro w hSw; delta o26_23; (try dsimp only at hSw); go_simp) <;> with_reducible rfl)
               try simp only [o26_23, Act.put, List.setIfInBounds_toArray, List.set_cons_zero, List.set_cons_succ]
               refine wpAnyH_take (i := 24) (oi := o26_24) (v := ?_) rfl (by kernel_rfl) (by kernel_rfl) (by kernel_rfl) (fun _ _ _ h => h) (Or.inl ⟨by rfl, ?_⟩) (by assumption) ?_
               rotate_left
               · ((intro w hSw; delta o26_24; (try dsimp only at hSw); go_simp) <;> with_reducible rfl)
               try simp only [o26_24, Act.put, List.setIfInBounds_toArray, List.set_cons_zero, List.set_cons_succ]
               refine wpAnyH_take (i := 25) (oi := o26_25) (v := ?_) rfl (by kernel_rfl) (by kernel_rfl) (by kernel_rfl) (fun _ _ _ h => h) (Or.inl ⟨by rfl, ?_⟩) (by assumption) ?_
               rotate_left
               · ((intro w hSw; delta o26_25; (try dsimp only at hSw); go_simp) <;> with_reducible rfl)
               try simp only [o26_25, Act.put, List.setIfInBounds_toArray, List.set_cons_zero, List.set_cons_succ]
               refine wpAnyH_take (i := 26) (oi := o26_26) (v := ?_) rfl (by kernel_rfl) (by kernel_rfl) (by kernel_rfl) (fun _ _ _ h => h) (Or.inl ⟨by rfl, ?_⟩) (by assumption) ?_
               rotate_left
               · ((intro w hSw; delta o26_26; (try dsimp only at hSw); go_simp) <;> with_reducible rfl)
               try simp only [o26_26, Act.put, List.setIfInBounds_toArray, List.set_cons_zero, List.set_cons_succ]
               refine wpAnyH_take (i := 27) (oi := o26_27) (v := ?_) rfl (by kernel_rfl) (by kernel_rfl) (by kernel_rfl) (fun _ _ _ h => h) (Or.inl ⟨by rfl, ?_⟩) (by assumption) ?_
               rotate_left
               · ((intro w hSw; delta o26_27; (try dsimp only at hSw); go_simp) <;> with_reducible rfl)
               try simp only [o26_27, Act.put, List.setIfInBounds_toArray, List.set_cons_zero, List.set_cons_succ]
               refine wpAnyH_take (i := 28) (oi := o26_28) (v := ?_) rfl (by kernel_rfl) (by kernel_rfl) (by kernel_rfl) (fun _ _ _ h => h) (Or.inl ⟨by rfl, ?_⟩) (by assumption) ?_
               rotate_left
               · ((intro w hSw; delta o26_28; (try dsimp only at hSw); go_simp) <;> with_reducible rfl)
               try simp only [o26_28, Act.put, List.setIfInBounds_toArray, List.set_cons_zero, List.set_cons_succ]
               refine wpAnyH_take (i := 29) (oi := o26_29) (v := ?_) rfl (by kernel_rfl) (by kernel_rfl) (by kernel_rfl) (fun _ _ _ h => h) (Or.inl ⟨by rfl, ?_⟩) (by assumption) ?_
               rotate_left
               · ((intro w hSw; delta o26_29; (try dsimp only at hSw); go_simp) <;> with_reducible rfl)
               try simp only [o26_29, Act.put, List.setIfInBounds_toArray, List.set_cons_zero, List.set_cons_succ]
               refine wpAnyH_take (i := 30) (oi := o26_30) (v := ?_) rfl (by kernel_rfl) (by kernel_rfl) (by kernel_rfl) (fun _ _ _ h => h) (Or.inl ⟨by rfl, ?_⟩) (by assumption) ?_
               rotate_left
               · ((intro w hSw; delta o26_30; (try dsimp only at hSw); go_simp) <;> with_reducible rfl)
               try simp only [o26_30, Act.put, List.setIfInBounds_toArray, List.set_cons_zero, List.set_cons_succ]
               refine wpAnyH_take (i := 31) (oi := o26_31) (v := ?_) rfl (by kernel_rfl) (by kernel_rfl) (by kernel_rfl) (fun _ _ _ h => h) (Or.inl ⟨by rfl, ?_⟩) (by assumption) ?_
               rotate_left
               · ((intro w hSw; delta o26_31; (try dsimp only at hSw); go_simp) <;> with_reducible rfl)
               try simp only [o26_31, Act.put, List.setIfInBounds_toArray, List.set_cons_zero, List.set_cons_succ]
               as_aux_lemma =>
                refine wpAnyH_ready (rs := [32]) (by kernel_rfl) (by simp) ?_
                refine AllReadyH.cons (o := o26_32) rfl (fun K hK => ?_) AllReadyH.nil
                delta o26_32
                go_simp
                ((with_reducible refine (HW2.out _ HC.out).mono ?_); rintro e wa ⟨rfl, hbz⟩; clear HC t0 t1 t2 t3 t4 t5 t6 t7; have HC := hbz; clear hbz; obtain ⟨t0, t1, t2, t3, t4, t5, t6, t7⟩ := HSk.out _ HC.out)
                refine hK.out _ _ ?_ (fun hHeld => ?_)
                · (try dsimp only); (refine ⟨?_, ?_, ?_, ?_, ?_, ?_, ?_, ?_⟩ <;> assumption)
                clear hK K
                try simp only [o26_32, Act.put, List.setIfInBounds_toArray, List.set_cons_zero, List.set_cons_succ]
                refine wpAnyH_take (i := 33) (oi := o26_33) (v := ?_) rfl (by kernel_rfl) (by kernel_rfl) (by kernel_rfl) (fun _ _ _ h => h) (Or.inl ⟨by rfl, ?_⟩) (by assumption) ?_
                rotate_left
                · ((intro w hSw; delta o26_33; (try dsimp only at hSw); go_simp) <;> with_reducible rfl)
                try simp only [o26_33, Act.put, List.setIfInBounds_toArray, List.set_cons_zero, List.set_cons_succ]
                refine wpAnyH_take (i := 34) (oi := o26_34) (v := ?_) rfl (by kernel_rfl) (by kernel_rfl) (by kernel_rfl) (fun _ _ _ h => h) (Or.inl ⟨by rfl, ?_⟩) (by assumption) ?_
                rotate_left
                · ((intro w hSw; delta o26_34; (try dsimp only at hSw); go_simp) <;> with_reducible rfl)
                try simp only [o26_34, Act.put, List.setIfInBounds_toArray, List.set_cons_zero, List.set_cons_succ]
                refine wpAnyH_take (i := 35) (oi := o26_35) (v := ?_) rfl (by kernel_rfl) (by kernel_rfl) (by kernel_rfl) (fun _ _ _ h => h) (Or.inl ⟨by rfl, ?_⟩) (by assumption) ?_
                rotate_left
                · ((intro w hSw; delta o26_35; (try dsimp only at hSw); go_simp) <;> with_reducible rfl)
                try simp only [o26_35, Act.put, List.setIfInBounds_toArray, List.set_cons_zero, List.set_cons_succ]
                refine wpAnyH_take (i := 36) (oi := o26_36) (v := ?_) rfl (by kernel_rfl) (by kernel_rfl) (by kernel_rfl) (fun _ _ _ h => h) (Or.inl ⟨by rfl, ?_⟩) (by assumption) ?_
                rotate_left
                · ((intro w hSw; delta o26_36; (try dsimp only at hSw); go_simp) <;> with_reducible rfl)
                try simp only [o26_36, Act.put, List.setIfInBounds_toArray, List.set_cons_zero, List.set_cons_succ]
                refine wpAnyH_take (i := 37) (oi := o26_37) (v := ?_) rfl (by kernel_rfl) (by kernel_rfl) (by kernel_rfl) (fun _ _ _ h => h) (Or.inl ⟨by rfl, ?_⟩) (by assumption) ?_
                rotate_left
                · ((intro w hSw; delta o26_37; (try dsimp only at hSw); go_simp) <;> with_reducible rfl)
                try simp only [o26_37, Act.put, List.setIfInBounds_toArray, List.set_cons_zero, List.set_cons_succ]
                refine wpAnyH_take (i := 38) (oi := o26_38) (v := ?_) rfl (by kernel_rfl) (by kernel_rfl) (by kernel_rfl) (fun _ _ _ h => h) (Or.inl ⟨by rfl, ?_⟩) (by assumption) ?_
                rotate_left
                · ((intro w hSw; delta o26_38; (try dsimp only at hSw); go_simp) <;> with_reducible rfl)
                try simp only [o26_38, Act.put, List.setIfInBounds_toArray, List.set_cons_zero, List.set_cons_succ]
                refine wpAnyH_take (i := 39) (oi := o26_39) (v := ?_) rfl (by kernel_rfl) (by kernel_rfl) (by kernel_rfl) (fun _ _ _ h => h) (Or.inl ⟨by rfl, ?_⟩) (by assumption) ?_
                rotate_left
                · ((intro w hSw; delta o26_39; (try dsimp only at hSw); go_simp) <;> with_reducible rfl)
                try simp only [o26_39, Act.put, List.setIfInBounds_toArray, List.set_cons_zero, List.set_cons_succ]
                refine wpAnyH_take (i := 40) (oi := o26_40) (v := ?_) rfl (by kernel_rfl) (by kernel_rfl) (by kernel_rfl) (fun _ _ _ h => h) (Or.inl ⟨by rfl, ?_⟩) (by assumption) ?_
                rotate_left
                · ((intro w hSw; delta o26_40; (try dsimp only at hSw); go_simp) <;> with_reducible rfl)
                try simp only [o26_40, Act.put, List.setIfInBounds_toArray, List.set_cons_zero, List.set_cons_succ]
                refine wpAnyH_take (i := 41) (oi := o26_41) (v := ?_) rfl (by kernel_rfl) (by kernel_rfl) (by kernel_rfl) (fun _ _ _ h => h) (Or.inl ⟨by rfl, ?_⟩) (by assumption) ?_
                rotate_left
                · ((intro w hSw; delta o26_41; (try dsimp only at hSw); go_simp) <;> with_reducible rfl)
                try simp only [o26_41, Act.put, List.setIfInBounds_toArray, List.set_cons_zero, List.set_cons_succ]
                refine wpAnyH_take (i := 42) (oi := o26_42) (v := ?_) rfl (by kernel_rfl) (by kernel_rfl) (by kernel_rfl) (fun _ _ _ h => h) (Or.inl ⟨by rfl, ?_⟩) (by assumption) ?_
                rotate_left
                · ((intro w hSw; delta o26_42; (try dsimp only at hSw); go_simp) <;> with_reducible rfl)
                try simp only [o26_42, Act.put, List.setIfInBounds_toArray, List.set_cons_zero, List.set_cons_succ]
                refine wpAnyH_take (i := 43) (oi := o26_43) (v := ?_) rfl (by kernel_rfl) (by kernel_rfl) (by kernel_rfl) (fun _ _ _ h => h) (Or.inl ⟨by rfl, ?_⟩) (by assumption) ?_
                rotate_left
                · ((intro w hSw; delta o26_43; (try dsimp only at hSw); go_simp) <;> with_reducible rfl)
                try simp only [o26_43, Act.put, List.setIfInBounds_toArray, List.set_cons_zero, List.set_cons_succ]
                refine wpAnyH_take (i := 44) (oi := o26_44) (v := ?_) rfl (by kernel_rfl) (by kernel_rfl) (by kernel_rfl) (fun _ _ _ h => h) (Or.inl ⟨by rfl, ?_⟩) (by assumption) ?_
                rotate_left
                · ((intro w hSw; delta o26_44; (try dsimp only at hSw); go_simp) <;> with_reducible rfl)
                try simp only [o26_44, Act.put, List.setIfInBounds_toArray, List.set_cons_zero, List.set_cons_succ]
                refine wpAnyH_take (i := 45) (oi := o26_45) (v := ?_) rfl (by kernel_rfl) (by kernel_rfl) (by kernel_rfl) (fun _ _ _ h => h) (Or.inl ⟨by rfl, ?_⟩) (by assumption) ?_
                rotate_left
                · ((intro w hSw; delta o26_45; (try dsimp only at hSw); go_simp) <;> with_reducible rfl)
                try simp only [o26_45, Act.put, List.setIfInBounds_toArray, List.set_cons_zero, List.set_cons_succ]
                refine wpAnyH_take (i := 46) (oi := o26_46) (v := ?_) rfl (by kernel_rfl) (by kernel_rfl) (by kernel_rfl) (fun _ _ _ h => h) (Or.inl ⟨by rfl, ?_⟩) (by assumption) ?_
                rotate_left
                · ((intro w hSw; delta o26_46; (try dsimp only at hSw); go_simp) <;> with_reducible rfl)
                try simp only [o26_46, Act.put, List.setIfInBounds_toArray, List.set_cons_zero, List.set_cons_succ]
                refine wpAnyH_take (i := 47) (oi := o26_47) (v := ?_) rfl (by kernel_rfl) (by kernel_rfl) (by kernel_rfl) (fun _ _ _ h => h) (Or.inl ⟨by rfl, ?_⟩) (by assumption) ?_
                rotate_left
                · ((intro w hSw; delta o26_47; (try dsimp only at hSw); go_simp) <;> with_reducible rfl)
                try simp only [o26_47, Act.put, List.setIfInBounds_toArray, List.set_cons_zero, List.set_cons_succ]
                refine wpAnyH_done (by kernel_rfl) ?_ _
                refine NoPanic.normal ?_
                go_wp2_with fail
                go_meet
                exact ⟨rfl, HC.out⟩
            case rest =>
              obtain ⟨rfl, hbe⟩ := hcut
              have HB13 := Lib.hid hbe
              clear hbe HC HW1 HW2
              obtain ⟨w13, rfl⟩ : ∃ w13, w13 = wc := ⟨_, rfl⟩
              have HD13 := Lib.hid (HDc.out.trans (HB13.out.mono HDc.out.size))
              have HE13 := Lib.hid (HEc.out.trans (HB13.out.mono HEc.out.size))
              have HSg : Hid (∀ W, Below V4.heap.size V4 W → W.cell? ⟨w2.heap.size, 0, none⟩ = some (.int .i64 g.W) ∧ W.cell? ⟨w2.heap.size, 1, none⟩ = some (.int .i64 g.H) ∧ W.cell? ⟨w2.heap.size, 2, none⟩ = some (.int .i64 g.S) ∧ W.cell? ⟨w2.heap.size, 3, none⟩ = some (.slice B2 g.ss.length c2)) := fun W hW => grid_parts (HKg.out.below hW HKg.out.lt)
              go_upto_region 28 with (fail)
              go_cut [31, 32, 33, 34] from 258 to 262 (fun p1 p2 p3 p4 wx => FourG g (.slice B2 g.ss.length c2) w13 p1 p2 p3 p4 wx)
              case first =>
                as_aux_lemma =>
                 refine wp_region_noPanic ?_
                 refine wp_region_held_drew (S := (fun w' => w'.cell? ⟨w2.heap.size, 0, none⟩ = some (.int .i64 g.W) ∧ w'.cell? ⟨w2.heap.size, 1, none⟩ = some (.int .i64 g.H) ∧ w'.cell? ⟨w2.heap.size, 2, none⟩ = some (.int .i64 g.S) ∧ w'.cell? ⟨w2.heap.size, 3, none⟩ = some (.slice B2 g.ss.length c2))) (by kernel_rfl) ?_ (fun hHeld => ?_)
                 · (try dsimp only); (refine HSg.out _ (HD13.out.trans (Below.mono ?_ HD13.out.size)); ((repeat (first | exact Below.refl _ _ | assumption | refine Below.drew ?_ | refine Below.drewN' ?_ _ | (refine Below.alloc ?_ (by simp <;> omega) _) | (refine Below.setCell ?_ (by simp <;> omega) _))); done))
                 refine wpAnyH_take (i := 0) (oi := o28_0) (v := ?_) rfl (by kernel_rfl) (by kernel_rfl) (by kernel_rfl) (fun _ _ _ h => h) (Or.inl ⟨by rfl, ?_⟩) (by assumption) ?_
                 rotate_left
                 · ((intro w hSw; delta o28_0; (try dsimp only at hSw); go_simp) <;> with_reducible rfl)
                 try simp only [o28_0, Act.put, List.setIfInBounds_toArray, List.set_cons_zero, List.set_cons_succ]
                 refine wpAnyH_take (i := 1) (oi := o28_1) (v := ?_) rfl (by kernel_rfl) (by kernel_rfl) (by kernel_rfl) (fun _ _ _ h => h) (Or.inl ⟨by rfl, ?_⟩) (by assumption) ?_
                 rotate_left
                 · ((intro w hSw; delta o28_1; (try dsimp only at hSw); go_simp) <;> with_reducible rfl)
                 try simp only [o28_1, Act.put, List.setIfInBounds_toArray, List.set_cons_zero, List.set_cons_succ]
                 refine wpAnyH_take (i := 2) (oi := o28_2) (v := ?_) rfl (by kernel_rfl) (by kernel_rfl) (by kernel_rfl) (fun _ _ _ h => h) (Or.inl ⟨by rfl, ?_⟩) (by assumption) ?_
                 rotate_left
                 · ((intro w hSw; delta o28_2; (try dsimp only at hSw); go_simp) <;> with_reducible rfl)
                 try simp only [o28_2, Act.put, List.setIfInBounds_toArray, List.set_cons_zero, List.set_cons_succ]
                 refine wpAnyH_take (i := 3) (oi := o28_3) (v := ?_) rfl (by kernel_rfl) (by kernel_rfl) (by kernel_rfl) (fun _ _ _ h => h) (Or.inl ⟨by rfl, ?_⟩) (by assumption) ?_
                 rotate_left
                 · ((intro w hSw; delta o28_3; (try dsimp only at hSw); go_simp) <;> with_reducible rfl)
                 try simp only [o28_3, Act.put, List.setIfInBounds_toArray, List.set_cons_zero, List.set_cons_succ]
                 refine wpAnyH_ready (rs := [4, 5, 6, 7]) (by kernel_rfl) (by simp) ?_
                 refine AllReadyH.cons (o := o28_4) rfl (fun K hK => ?gs1) ?gr1
                 case' gs1 =>
                  delta o28_4
                  go_simp
                  refine hK.out _ _ ?_ (fun hHeld => ?_)
                  · (try dsimp only); (refine HSg.out _ (HD13.out.trans (Below.mono ?_ HD13.out.size)); ((repeat (first | exact Below.refl _ _ | assumption | refine Below.drew ?_ | refine Below.drewN' ?_ _ | (refine Below.alloc ?_ (by simp <;> omega) _) | (refine Below.setCell ?_ (by simp <;> omega) _))); done))
                  clear hK K
                  try simp only [o28_4, Act.put, List.setIfInBounds_toArray, List.set_cons_zero, List.set_cons_succ]
                  refine wpAnyH_ready (rs := [5, 6, 7]) (by kernel_rfl) (by simp) ?_
                  refine AllReadyH.cons (o := o28_5) rfl (fun K hK => ?gs2) ?gr2
                  case' gs2 =>
                   delta o28_5
                   go_simp
                   refine hK.out _ _ ?_ (fun hHeld => ?_)
                   · (try dsimp only); (refine HSg.out _ (HD13.out.trans (Below.mono ?_ HD13.out.size)); ((repeat (first | exact Below.refl _ _ | assumption | refine Below.drew ?_ | refine Below.drewN' ?_ _ | (refine Below.alloc ?_ (by simp <;> omega) _) | (refine Below.setCell ?_ (by simp <;> omega) _))); done))
                   clear hK K
                   try simp only [o28_5, Act.put, List.setIfInBounds_toArray, List.set_cons_zero, List.set_cons_succ]
                   refine wpAnyH_ready (rs := [6, 7]) (by kernel_rfl) (by simp) ?_
                   refine AllReadyH.cons (o := o28_6) rfl (fun K hK => ?gs3) ?gr3
                   case' gs3 =>
                    delta o28_6
                    go_simp
                    refine hK.out _ _ ?_ (fun hHeld => ?_)
                    · (try dsimp only); (refine HSg.out _ (HD13.out.trans (Below.mono ?_ HD13.out.size)); ((repeat (first | exact Below.refl _ _ | assumption | refine Below.drew ?_ | refine Below.drewN' ?_ _ | (refine Below.alloc ?_ (by simp <;> omega) _) | (refine Below.setCell ?_ (by simp <;> omega) _))); done))
                    clear hK K
                    try simp only [o28_6, Act.put, List.setIfInBounds_toArray, List.set_cons_zero, List.set_cons_succ]
                    refine wpAnyH_ready (rs := [7]) (by kernel_rfl) (by simp) ?_
                    refine AllReadyH.cons (o := o28_7) rfl (fun K hK => ?_) AllReadyH.nil
                    delta o28_7
                    go_simp
                    refine hK.out _ _ ?_ (fun hHeld => ?_)
                    · (try dsimp only); (refine HSg.out _ (HD13.out.trans (Below.mono ?_ HD13.out.size)); ((repeat (first | exact Below.refl _ _ | assumption | refine Below.drew ?_ | refine Below.drewN' ?_ _ | (refine Below.alloc ?_ (by simp <;> omega) _) | (refine Below.setCell ?_ (by simp <;> omega) _))); done))
                    clear hK K
                    try simp only [o28_7, Act.put, List.setIfInBounds_toArray, List.set_cons_zero, List.set_cons_succ]
                   case' gr3 =>
                    refine AllReadyH.cons (o := o28_7) rfl (fun K hK => ?gs4) ?gr4
                    case' gs4 =>
                     delta o28_7
                     go_simp
                     refine hK.out _ _ ?_ (fun hHeld => ?_)
                     · (try dsimp only); (refine HSg.out _ (HD13.out.trans (Below.mono ?_ HD13.out.size)); ((repeat (first | exact Below.refl _ _ | assumption | refine Below.drew ?_ | refine Below.drewN' ?_ _ | (refine Below.alloc ?_ (by simp <;> omega) _) | (refine Below.setCell ?_ (by simp <;> omega) _))); done))
                     clear hK K
                     try simp only [o28_7, Act.put, List.setIfInBounds_toArray, List.set_cons_zero, List.set_cons_succ]
                     refine wpAnyH_ready (rs := [6]) (by kernel_rfl) (by simp) ?_
                     refine AllReadyH.cons (o := o28_6) rfl (fun K hK => ?_) AllReadyH.nil
                     delta o28_6
                     go_simp
                     refine hK.out _ _ ?_ (fun hHeld => ?_)
                     · (try dsimp only); (refine HSg.out _ (HD13.out.trans (Below.mono ?_ HD13.out.size)); ((repeat (first | exact Below.refl _ _ | assumption | refine Below.drew ?_ | refine Below.drewN' ?_ _ | (refine Below.alloc ?_ (by simp <;> omega) _) | (refine Below.setCell ?_ (by simp <;> omega) _))); done))
                     clear hK K
                     try simp only [o28_6, Act.put, List.setIfInBounds_toArray, List.set_cons_zero, List.set_cons_succ]
                    case' gr4 =>
                     exact AllReadyH.nil
                  case' gr2 =>
                   refine AllReadyH.cons (o := o28_6) rfl (fun K hK => ?gs5) ?gr5
                   case' gs5 =>
                    delta o28_6
                    go_simp
                    refine hK.out _ _ ?_ (fun hHeld => ?_)
                    · (try dsimp only); (refine HSg.out _ (HD13.out.trans (Below.mono ?_ HD13.out.size)); ((repeat (first | exact Below.refl _ _ | assumption | refine Below.drew ?_ | refine Below.drewN' ?_ _ | (refine Below.alloc ?_ (by simp <;> omega) _) | (refine Below.setCell ?_ (by simp <;> omega) _))); done))
                    clear hK K
                    try simp only [o28_6, Act.put, List.setIfInBounds_toArray, List.set_cons_zero, List.set_cons_succ]
                    refine wpAnyH_ready (rs := [5, 7]) (by kernel_rfl) (by simp) ?_
                    refine AllReadyH.cons (o := o28_5) rfl (fun K hK => ?gs6) ?gr6
                    case' gs6 =>
                     delta o28_5
                     go_simp
                     refine hK.out _ _ ?_ (fun hHeld => ?_)
                     · (try dsimp only); (refine HSg.out _ (HD13.out.trans (Below.mono ?_ HD13.out.size)); ((repeat (first | exact Below.refl _ _ | assumption | refine Below.drew ?_ | refine Below.drewN' ?_ _ | (refine Below.alloc ?_ (by simp <;> omega) _) | (refine Below.setCell ?_ (by simp <;> omega) _))); done))
                     clear hK K
                     try simp only [o28_5, Act.put, List.setIfInBounds_toArray, List.set_cons_zero, List.set_cons_succ]
                     refine wpAnyH_ready (rs := [7]) (by kernel_rfl) (by simp) ?_
                     refine AllReadyH.cons (o := o28_7) rfl (fun K hK => ?_) AllReadyH.nil
                     delta o28_7
                     go_simp
                     refine hK.out _ _ ?_ (fun hHeld => ?_)
                     · (try dsimp only); (refine HSg.out _ (HD13.out.trans (Below.mono ?_ HD13.out.size)); ((repeat (first | exact Below.refl _ _ | assumption | refine Below.drew ?_ | refine Below.drewN' ?_ _ | (refine Below.alloc ?_ (by simp <;> omega) _) | (refine Below.setCell ?_ (by simp <;> omega) _))); done))
                     clear hK K
                     try simp only [o28_7, Act.put, List.setIfInBounds_toArray, List.set_cons_zero, List.set_cons_succ]
                    case' gr6 =>
                     refine AllReadyH.cons (o := o28_7) rfl (fun K hK => ?gs7) ?gr7
                     case' gs7 =>
                      delta o28_7
                      go_simp
                      refine hK.out _ _ ?_ (fun hHeld => ?_)
                      · (try dsimp only); (refine HSg.out _ (HD13.out.trans (Below.mono ?_ HD13.out.size)); ((repeat (first | exact Below.refl _ _ | assumption | refine Below.drew ?_ | refine Below.drewN' ?_ _ | (refine Below.alloc ?_ (by simp <;> omega) _) | (refine Below.setCell ?_ (by simp <;> omega) _))); done))
                      clear hK K
                      try simp only [o28_7, Act.put, List.setIfInBounds_toArray, List.set_cons_zero, List.set_cons_succ]
                      refine wpAnyH_ready (rs := [5]) (by kernel_rfl) (by simp) ?_
                      refine AllReadyH.cons (o := o28_5) rfl (fun K hK => ?_) AllReadyH.nil
                      delta o28_5
                      go_simp
                      refine hK.out _ _ ?_ (fun hHeld => ?_)
                      · (try dsimp only); (refine HSg.out _ (HD13.out.trans (Below.mono ?_ HD13.out.size)); ((repeat (first | exact Below.refl _ _ | assumption | refine Below.drew ?_ | refine Below.drewN' ?_ _ | (refine Below.alloc ?_ (by simp <;> omega) _) | (refine Below.setCell ?_ (by simp <;> omega) _))); done))
                      clear hK K
                      try simp only [o28_5, Act.put, List.setIfInBounds_toArray, List.set_cons_zero, List.set_cons_succ]
                     case' gr7 =>
                      exact AllReadyH.nil
                   case' gr5 =>
                    refine AllReadyH.cons (o := o28_7) rfl (fun K hK => ?gs8) ?gr8
                    case' gs8 =>
                     delta o28_7
                     go_simp
                     refine hK.out _ _ ?_ (fun hHeld => ?_)
                     · (try dsimp only); (refine HSg.out _ (HD13.out.trans (Below.mono ?_ HD13.out.size)); ((repeat (first | exact Below.refl _ _ | assumption | refine Below.drew ?_ | refine Below.drewN' ?_ _ | (refine Below.alloc ?_ (by simp <;> omega) _) | (refine Below.setCell ?_ (by simp <;> omega) _))); done))
                     clear hK K
                     try simp only [o28_7, Act.put, List.setIfInBounds_toArray, List.set_cons_zero, List.set_cons_succ]
                     refine wpAnyH_ready (rs := [5, 6]) (by kernel_rfl) (by simp) ?_
                     refine AllReadyH.cons (o := o28_5) rfl (fun K hK => ?gs9) ?gr9
                     case' gs9 =>
                      delta o28_5
                      go_simp
                      refine hK.out _ _ ?_ (fun hHeld => ?_)
                      · (try dsimp only); (refine HSg.out _ (HD13.out.trans (Below.mono ?_ HD13.out.size)); ((repeat (first | exact Below.refl _ _ | assumption | refine Below.drew ?_ | refine Below.drewN' ?_ _ | (refine Below.alloc ?_ (by simp <;> omega) _) | (refine Below.setCell ?_ (by simp <;> omega) _))); done))
                      clear hK K
                      try simp only [o28_5, Act.put, List.setIfInBounds_toArray, List.set_cons_zero, List.set_cons_succ]
                      refine wpAnyH_ready (rs := [6]) (by kernel_rfl) (by simp) ?_
                      refine AllReadyH.cons (o := o28_6) rfl (fun K hK => ?_) AllReadyH.nil
                      delta o28_6
                      go_simp
                      refine hK.out _ _ ?_ (fun hHeld => ?_)
                      · (try dsimp only); (refine HSg.out _ (HD13.out.trans (Below.mono ?_ HD13.out.size)); ((repeat (first | exact Below.refl _ _ | assumption | refine Below.drew ?_ | refine Below.drewN' ?_ _ | (refine Below.alloc ?_ (by simp <;> omega) _) | (refine Below.setCell ?_ (by simp <;> omega) _))); done))
                      clear hK K
                      try simp only [o28_6, Act.put, List.setIfInBounds_toArray, List.set_cons_zero, List.set_cons_succ]
                     case' gr9 =>
                      refine AllReadyH.cons (o := o28_6) rfl (fun K hK => ?gs10) ?gr10
                      case' gs10 =>
                       delta o28_6
                       go_simp
                       refine hK.out _ _ ?_ (fun hHeld => ?_)
                       · (try dsimp only); (refine HSg.out _ (HD13.out.trans (Below.mono ?_ HD13.out.size)); ((repeat (first | exact Below.refl _ _ | assumption | refine Below.drew ?_ | refine Below.drewN' ?_ _ | (refine Below.alloc ?_ (by simp <;> omega) _) | (refine Below.setCell ?_ (by simp <;> omega) _))); done))
                       clear hK K
                       try simp only [o28_6, Act.put, List.setIfInBounds_toArray, List.set_cons_zero, List.set_cons_succ]
                       refine wpAnyH_ready (rs := [5]) (by kernel_rfl) (by simp) ?_
                       refine AllReadyH.cons (o := o28_5) rfl (fun K hK => ?_) AllReadyH.nil
                       delta o28_5
                       go_simp
                       refine hK.out _ _ ?_ (fun hHeld => ?_)
                       · (try dsimp only); (refine HSg.out _ (HD13.out.trans (Below.mono ?_ HD13.out.size)); ((repeat (first | exact Below.refl _ _ | assumption | refine Below.drew ?_ | refine Below.drewN' ?_ _ | (refine Below.alloc ?_ (by simp <;> omega) _) | (refine Below.setCell ?_ (by simp <;> omega) _))); done))
                       clear hK K
                       try simp only [o28_5, Act.put, List.setIfInBounds_toArray, List.set_cons_zero, List.set_cons_succ]
                      case' gr10 =>
                       exact AllReadyH.nil
                    case' gr8 =>
                     exact AllReadyH.nil
                 case' gr1 =>
                  refine AllReadyH.cons (o := o28_5) rfl (fun K hK => ?gs11) ?gr11
                  case' gs11 =>
                   delta o28_5
                   go_simp
                   refine hK.out _ _ ?_ (fun hHeld => ?_)
                   · (try dsimp only); (refine HSg.out _ (HD13.out.trans (Below.mono ?_ HD13.out.size)); ((repeat (first | exact Below.refl _ _ | assumption | refine Below.drew ?_ | refine Below.drewN' ?_ _ | (refine Below.alloc ?_ (by simp <;> omega) _) | (refine Below.setCell ?_ (by simp <;> omega) _))); done))
                   clear hK K
                   try simp only [o28_5, Act.put, List.setIfInBounds_toArray, List.set_cons_zero, List.set_cons_succ]
                   refine wpAnyH_ready (rs := [4, 6, 7]) (by kernel_rfl) (by simp) ?_
                   refine AllReadyH.cons (o := o28_4) rfl (fun K hK => ?gs12) ?gr12
                   case' gs12 =>
                    delta o28_4
                    go_simp
                    refine hK.out _ _ ?_ (fun hHeld => ?_)
                    · (try dsimp only); (refine HSg.out _ (HD13.out.trans (Below.mono ?_ HD13.out.size)); ((repeat (first | exact Below.refl _ _ | assumption | refine Below.drew ?_ | refine Below.drewN' ?_ _ | (refine Below.alloc ?_ (by simp <;> omega) _) | (refine Below.setCell ?_ (by simp <;> omega) _))); done))
                    clear hK K
                    try simp only [o28_4, Act.put, List.setIfInBounds_toArray, List.set_cons_zero, List.set_cons_succ]
                    refine wpAnyH_ready (rs := [6, 7]) (by kernel_rfl) (by simp) ?_
                    refine AllReadyH.cons (o := o28_6) rfl (fun K hK => ?gs13) ?gr13
                    case' gs13 =>
                     delta o28_6
                     go_simp
                     refine hK.out _ _ ?_ (fun hHeld => ?_)
                     · (try dsimp only); (refine HSg.out _ (HD13.out.trans (Below.mono ?_ HD13.out.size)); ((repeat (first | exact Below.refl _ _ | assumption | refine Below.drew ?_ | refine Below.drewN' ?_ _ | (refine Below.alloc ?_ (by simp <;> omega) _) | (refine Below.setCell ?_ (by simp <;> omega) _))); done))
                     clear hK K
                     try simp only [o28_6, Act.put, List.setIfInBounds_toArray, List.set_cons_zero, List.set_cons_succ]
                     refine wpAnyH_ready (rs := [7]) (by kernel_rfl) (by simp) ?_
                     refine AllReadyH.cons (o := o28_7) rfl (fun K hK => ?_) AllReadyH.nil
                     delta o28_7
                     go_simp
                     refine hK.out _ _ ?_ (fun hHeld => ?_)
                     · (try dsimp only); (refine HSg.out _ (HD13.out.trans (Below.mono ?_ HD13.out.size)); ((repeat (first | exact Below.refl _ _ | assumption | refine Below.drew ?_ | refine Below.drewN' ?_ _ | (refine Below.alloc ?_ (by simp <;> omega) _) | (refine Below.setCell ?_ (by simp <;> omega) _))); done))
                     clear hK K
                     try simp only [o28_7, Act.put, List.setIfInBounds_toArray, List.set_cons_zero, List.set_cons_succ]
                    case' gr13 =>
                     refine AllReadyH.cons (o := o28_7) rfl (fun K hK => ?gs14) ?gr14
                     case' gs14 =>
                      delta o28_7
                      go_simp
                      refine hK.out _ _ ?_ (fun hHeld => ?_)
                      · (try dsimp only); (refine HSg.out _ (HD13.out.trans (Below.mono ?_ HD13.out.size)); ((repeat (first | exact Below.refl _ _ | assumption | refine Below.drew ?_ | refine Below.drewN' ?_ _ | (refine Below.alloc ?_ (by simp <;> omega) _) | (refine Below.setCell ?_ (by simp <;> omega) _))); done))
                      clear hK K
                      try simp only [o28_7, Act.put, List.setIfInBounds_toArray, List.set_cons_zero, List.set_cons_succ]
                      refine wpAnyH_ready (rs := [6]) (by kernel_rfl) (by simp) ?_
                      refine AllReadyH.cons (o := o28_6) rfl (fun K hK => ?_) AllReadyH.nil
                      delta o28_6
                      go_simp
                      refine hK.out _ _ ?_ (fun hHeld => ?_)
                      · (try dsimp only); (refine HSg.out _ (HD13.out.trans (Below.mono ?_ HD13.out.size)); ((repeat (first | exact Below.refl _ _ | assumption | refine Below.drew ?_ | refine Below.drewN' ?_ _ | (refine Below.alloc ?_ (by simp <;> omega) _) | (refine Below.setCell ?_ (by simp <;> omega) _))); done))
                      clear hK K
                      try simp only [o28_6, Act.put, List.setIfInBounds_toArray, List.set_cons_zero, List.set_cons_succ]
                     case' gr14 =>
                      exact AllReadyH.nil
                   case' gr12 =>
                    refine AllReadyH.cons (o := o28_6) rfl (fun K hK => ?gs15) ?gr15
                    case' gs15 =>
                     delta o28_6
                     go_simp
                     refine hK.out _ _ ?_ (fun hHeld => ?_)
                     · (try dsimp only); (refine HSg.out _ (HD13.out.trans (Below.mono ?_ HD13.out.size)); ((repeat (first | exact Below.refl _ _ | assumption | refine Below.drew ?_ | refine Below.drewN' ?_ _ | (refine Below.alloc ?_ (by simp <;> omega) _) | (refine Below.setCell ?_ (by simp <;> omega) _))); done))
                     clear hK K
                     try simp only [o28_6, Act.put, List.setIfInBounds_toArray, List.set_cons_zero, List.set_cons_succ]
                     refine wpAnyH_ready (rs := [4, 7]) (by kernel_rfl) (by simp) ?_
                     refine AllReadyH.cons (o := o28_4) rfl (fun K hK => ?gs16) ?gr16
                     case' gs16 =>
                      delta o28_4
                      go_simp
                      refine hK.out _ _ ?_ (fun hHeld => ?_)
                      · (try dsimp only); (refine HSg.out _ (HD13.out.trans (Below.mono ?_ HD13.out.size)); ((repeat (first | exact Below.refl _ _ | assumption | refine Below.drew ?_ | refine Below.drewN' ?_ _ | (refine Below.alloc ?_ (by simp <;> omega) _) | (refine Below.setCell ?_ (by simp <;> omega) _))); done))
                      clear hK K
                      try simp only [o28_4, Act.put, List.setIfInBounds_toArray, List.set_cons_zero, List.set_cons_succ]
                      refine wpAnyH_ready (rs := [7]) (by kernel_rfl) (by simp) ?_
                      refine AllReadyH.cons (o := o28_7) rfl (fun K hK => ?_) AllReadyH.nil
                      delta o28_7
                      go_simp
                      refine hK.out _ _ ?_ (fun hHeld => ?_)
                      · (try dsimp only); (refine HSg.out _ (HD13.out.trans (Below.mono ?_ HD13.out.size)); ((repeat (first | exact Below.refl _ _ | assumption | refine Below.drew ?_ | refine Below.drewN' ?_ _ | (refine Below.alloc ?_ (by simp <;> omega) _) | (refine Below.setCell ?_ (by simp <;> omega) _))); done))
                      clear hK K
                      try simp only [o28_7, Act.put, List.setIfInBounds_toArray, List.set_cons_zero, List.set_cons_succ]
                     case' gr16 =>
                      refine AllReadyH.cons (o := o28_7) rfl (fun K hK => ?gs17) ?gr17
                      case' gs17 =>
                       delta o28_7
                       go_simp
                       refine hK.out _ _ ?_ (fun hHeld => ?_)
                       · (try dsimp only); (refine HSg.out _ (HD13.out.trans (Below.mono ?_ HD13.out.size)); ((repeat (first | exact Below.refl _ _ | assumption | refine Below.drew ?_ | refine Below.drewN' ?_ _ | (refine Below.alloc ?_ (by simp <;> omega) _) | (refine Below.setCell ?_ (by simp <;> omega) _))); done))
                       clear hK K
                       try simp only [o28_7, Act.put, List.setIfInBounds_toArray, List.set_cons_zero, List.set_cons_succ]
                       refine wpAnyH_ready (rs := [4]) (by kernel_rfl) (by simp) ?_
                       refine AllReadyH.cons (o := o28_4) rfl (fun K hK => ?_) AllReadyH.nil
                       delta o28_4
                       go_simp
                       refine hK.out _ _ ?_ (fun hHeld => ?_)
                       · (try dsimp only); (refine HSg.out _ (HD13.out.trans (Below.mono ?_ HD13.out.size)); ((repeat (first | exact Below.refl _ _ | assumption | refine Below.drew ?_ | refine Below.drewN' ?_ _ | (refine Below.alloc ?_ (by simp <;> omega) _) | (refine Below.setCell ?_ (by simp <;> omega) _))); done))
                       clear hK K
                       try simp only [o28_4, Act.put, List.setIfInBounds_toArray, List.set_cons_zero, List.set_cons_succ]
                      case' gr17 =>
                       exact AllReadyH.nil
                    case' gr15 =>
                     refine AllReadyH.cons (o := o28_7) rfl (fun K hK => ?gs18) ?gr18
                     case' gs18 =>
                      delta o28_7
                      go_simp
                      refine hK.out _ _ ?_ (fun hHeld => ?_)
                      · (try dsimp only); (refine HSg.out _ (HD13.out.trans (Below.mono ?_ HD13.out.size)); ((repeat (first | exact Below.refl _ _ | assumption | refine Below.drew ?_ | refine Below.drewN' ?_ _ | (refine Below.alloc ?_ (by simp <;> omega) _) | (refine Below.setCell ?_ (by simp <;> omega) _))); done))
                      clear hK K
                      try simp only [o28_7, Act.put, List.setIfInBounds_toArray, List.set_cons_zero, List.set_cons_succ]
                      refine wpAnyH_ready (rs := [4, 6]) (by kernel_rfl) (by simp) ?_
                      refine AllReadyH.cons (o := o28_4) rfl (fun K hK => ?gs19) ?gr19
                      case' gs19 =>
                       delta o28_4
                       go_simp
                       refine hK.out _ _ ?_ (fun hHeld => ?_)
                       · (try dsimp only); (refine HSg.out _ (HD13.out.trans (Below.mono ?_ HD13.out.size)); ((repeat (first | exact Below.refl _ _ | assumption | refine Below.drew ?_ | refine Below.drewN' ?_ _ | (refine Below.alloc ?_ (by simp <;> omega) _) | (refine Below.setCell ?_ (by simp <;> omega) _))); done))
                       clear hK K
                       try simp only [o28_4, Act.put, List.setIfInBounds_toArray, List.set_cons_zero, List.set_cons_succ]
                       refine wpAnyH_ready (rs := [6]) (by kernel_rfl) (by simp) ?_
                       refine AllReadyH.cons (o := o28_6) rfl (fun K hK => ?_) AllReadyH.nil
                       delta o28_6
                       go_simp
                       refine hK.out _ _ ?_ (fun hHeld => ?_)
                       · (try dsimp only); (refine HSg.out _ (HD13.out.trans (Below.mono ?_ HD13.out.size)); ((repeat (first | exact Below.refl _ _ | assumption | refine Below.drew ?_ | refine Below.drewN' ?_ _ | (refine Below.alloc ?_ (by simp <;> omega) _) | (refine Below.setCell ?_ (by simp <;> omega) _))); done))
                       clear hK K
                       try simp only [o28_6, Act.put, List.setIfInBounds_toArray, List.set_cons_zero, List.set_cons_succ]
                      case' gr19 =>
                       refine AllReadyH.cons (o := o28_6) rfl (fun K hK => ?gs20) ?gr20
                       case' gs20 =>
                        delta o28_6
                        go_simp
                        refine hK.out _ _ ?_ (fun hHeld => ?_)
                        · (try dsimp only); (refine HSg.out _ (HD13.out.trans (Below.mono ?_ HD13.out.size)); ((repeat (first | exact Below.refl _ _ | assumption | refine Below.drew ?_ | refine Below.drewN' ?_ _ | (refine Below.alloc ?_ (by simp <;> omega) _) | (refine Below.setCell ?_ (by simp <;> omega) _))); done))
                        clear hK K
                        try simp only [o28_6, Act.put, List.setIfInBounds_toArray, List.set_cons_zero, List.set_cons_succ]
                        refine wpAnyH_ready (rs := [4]) (by kernel_rfl) (by simp) ?_
                        refine AllReadyH.cons (o := o28_4) rfl (fun K hK => ?_) AllReadyH.nil
                        delta o28_4
                        go_simp
                        refine hK.out _ _ ?_ (fun hHeld => ?_)
                        · (try dsimp only); (refine HSg.out _ (HD13.out.trans (Below.mono ?_ HD13.out.size)); ((repeat (first | exact Below.refl _ _ | assumption | refine Below.drew ?_ | refine Below.drewN' ?_ _ | (refine Below.alloc ?_ (by simp <;> omega) _) | (refine Below.setCell ?_ (by simp <;> omega) _))); done))
                        clear hK K
                        try simp only [o28_4, Act.put, List.setIfInBounds_toArray, List.set_cons_zero, List.set_cons_succ]
                       case' gr20 =>
                        exact AllReadyH.nil
                     case' gr18 =>
                      exact AllReadyH.nil
                  case' gr11 =>
                   refine AllReadyH.cons (o := o28_6) rfl (fun K hK => ?gs21) ?gr21
                   case' gs21 =>
                    delta o28_6
                    go_simp
                    refine hK.out _ _ ?_ (fun hHeld => ?_)
                    · (try dsimp only); (refine HSg.out _ (HD13.out.trans (Below.mono ?_ HD13.out.size)); ((repeat (first | exact Below.refl _ _ | assumption | refine Below.drew ?_ | refine Below.drewN' ?_ _ | (refine Below.alloc ?_ (by simp <;> omega) _) | (refine Below.setCell ?_ (by simp <;> omega) _))); done))
                    clear hK K
                    try simp only [o28_6, Act.put, List.setIfInBounds_toArray, List.set_cons_zero, List.set_cons_succ]
                    refine wpAnyH_ready (rs := [4, 5, 7]) (by kernel_rfl) (by simp) ?_
                    refine AllReadyH.cons (o := o28_4) rfl (fun K hK => ?gs22) ?gr22
                    case' gs22 =>
                     delta o28_4
                     go_simp
                     refine hK.out _ _ ?_ (fun hHeld => ?_)
                     · (try dsimp only); (refine HSg.out _ (HD13.out.trans (Below.mono ?_ HD13.out.size)); ((repeat (first | exact Below.refl _ _ | assumption | refine Below.drew ?_ | refine Below.drewN' ?_ _ | (refine Below.alloc ?_ (by simp <;> omega) _) | (refine Below.setCell ?_ (by simp <;> omega) _))); done))
                     clear hK K
                     try simp only [o28_4, Act.put, List.setIfInBounds_toArray, List.set_cons_zero, List.set_cons_succ]
                     refine wpAnyH_ready (rs := [5, 7]) (by kernel_rfl) (by simp) ?_
                     refine AllReadyH.cons (o := o28_5) rfl (fun K hK => ?gs23) ?gr23
                     case' gs23 =>
                      delta o28_5
                      go_simp
                      refine hK.out _ _ ?_ (fun hHeld => ?_)
                      · (try dsimp only); (refine HSg.out _ (HD13.out.trans (Below.mono ?_ HD13.out.size)); ((repeat (first | exact Below.refl _ _ | assumption | refine Below.drew ?_ | refine Below.drewN' ?_ _ | (refine Below.alloc ?_ (by simp <;> omega) _) | (refine Below.setCell ?_ (by simp <;> omega) _))); done))
                      clear hK K
                      try simp only [o28_5, Act.put, List.setIfInBounds_toArray, List.set_cons_zero, List.set_cons_succ]
                      refine wpAnyH_ready (rs := [7]) (by kernel_rfl) (by simp) ?_
                      refine AllReadyH.cons (o := o28_7) rfl (fun K hK => ?_) AllReadyH.nil
                      delta o28_7
                      go_simp
                      refine hK.out _ _ ?_ (fun hHeld => ?_)
                      · (try dsimp only); (refine HSg.out _ (HD13.out.trans (Below.mono ?_ HD13.out.size)); ((repeat (first | exact Below.refl _ _ | assumption | refine Below.drew ?_ | refine Below.drewN' ?_ _ | (refine Below.alloc ?_ (by simp <;> omega) _) | (refine Below.setCell ?_ (by simp <;> omega) _))); done))
                      clear hK K
                      try simp only [o28_7, Act.put, List.setIfInBounds_toArray, List.set_cons_zero, List.set_cons_succ]
                     case' gr23 =>
                      refine AllReadyH.cons (o := o28_7) rfl (fun K hK => ?gs24) ?gr24
                      case' gs24 =>
                       delta o28_7
                       go_simp
                       refine hK.out _ _ ?_ (fun hHeld => ?_)
                       · (try dsimp only); (refine HSg.out _ (HD13.out.trans (Below.mono ?_ HD13.out.size)); ((repeat (first | exact Below.refl _ _ | assumption | refine Below.drew ?_ | refine Below.drewN' ?_ _ | (refine Below.alloc ?_ (by simp <;> omega) _) | (refine Below.setCell ?_ (by simp <;> omega) _))); done))
                       clear hK K
                       try simp only [o28_7, Act.put, List.setIfInBounds_toArray, List.set_cons_zero, List.set_cons_succ]
                       refine wpAnyH_ready (rs := [5]) (by kernel_rfl) (by simp) ?_
                       refine AllReadyH.cons (o := o28_5) rfl (fun K hK => ?_) AllReadyH.nil
                       delta o28_5
                       go_simp
                       refine hK.out _ _ ?_ (fun hHeld => ?_)
                       · (try dsimp only); (refine HSg.out _ (HD13.out.trans (Below.mono ?_ HD13.out.size)); ((repeat (first | exact Below.refl _ _ | assumption | refine Below.drew ?_ | refine Below.drewN' ?_ _ | (refine Below.alloc ?_ (by simp <;> omega) _) | (refine Below.setCell ?_ (by simp <;> omega) _))); done))
                       clear hK K
                       try simp only [o28_5, Act.put, List.setIfInBounds_toArray, List.set_cons_zero, List.set_cons_succ]
                      case' gr24 =>
                       exact AllReadyH.nil
                    case' gr22 =>
                     refine AllReadyH.cons (o := o28_5) rfl (fun K hK => ?gs25) ?gr25
                     case' gs25 =>
                      delta o28_5
                      go_simp
                      refine hK.out _ _ ?_ (fun hHeld => ?_)
                      · (try dsimp only); (refine HSg.out _ (HD13.out.trans (Below.mono ?_ HD13.out.size)); ((repeat (first | exact Below.refl _ _ | assumption | refine Below.drew ?_ | refine Below.drewN' ?_ _ | (refine Below.alloc ?_ (by simp <;> omega) _) | (refine Below.setCell ?_ (by simp <;> omega) _))); done))
                      clear hK K
                      try simp only [o28_5, Act.put, List.setIfInBounds_toArray, List.set_cons_zero, List.set_cons_succ]
                      refine wpAnyH_ready (rs := [4, 7]) (by kernel_rfl) (by simp) ?_
                      refine AllReadyH.cons (o := o28_4) rfl (fun K hK => ?gs26) ?gr26
                      case' gs26 =>
                       delta o28_4
                       go_simp
                       refine hK.out _ _ ?_ (fun hHeld => ?_)
                       · (try dsimp only); (refine HSg.out _ (HD13.out.trans (Below.mono ?_ HD13.out.size)); ((repeat (first | exact Below.refl _ _ | assumption | refine Below.drew ?_ | refine Below.drewN' ?_ _ | (refine Below.alloc ?_ (by simp <;> omega) _) | (refine Below.setCell ?_ (by simp <;> omega) _))); done))
                       clear hK K
                       try simp only [o28_4, Act.put, List.setIfInBounds_toArray, List.set_cons_zero, List.set_cons_succ]
                       refine wpAnyH_ready (rs := [7]) (by kernel_rfl) (by simp) ?_
                       refine AllReadyH.cons (o := o28_7) rfl (fun K hK => ?_) AllReadyH.nil
                       delta o28_7
                       go_simp
                       refine hK.out _ _ ?_ (fun hHeld => ?_)
                       · (try dsimp only); (refine HSg.out _ (HD13.out.trans (Below.mono ?_ HD13.out.size)); ((repeat (first | exact Below.refl _ _ | assumption | refine Below.drew ?_ | refine Below.drewN' ?_ _ | (refine Below.alloc ?_ (by simp <;> omega) _) | (refine Below.setCell ?_ (by simp <;> omega) _))); done))
                       clear hK K
                       try simp only [o28_7, Act.put, List.setIfInBounds_toArray, List.set_cons_zero, List.set_cons_succ]
                      case' gr26 =>
                       refine AllReadyH.cons (o := o28_7) rfl (fun K hK => ?gs27) ?gr27
                       case' gs27 =>
                        delta o28_7
                        go_simp
                        refine hK.out _ _ ?_ (fun hHeld => ?_)
                        · (try dsimp only); (refine HSg.out _ (HD13.out.trans (Below.mono ?_ HD13.out.size)); ((repeat (first | exact Below.refl _ _ | assumption | refine Below.drew ?_ | refine Below.drewN' ?_ _ | (refine Below.alloc ?_ (by simp <;> omega) _) | (refine Below.setCell ?_ (by simp <;> omega) _))); done))
                        clear hK K
                        try simp only [o28_7, Act.put, List.setIfInBounds_toArray, List.set_cons_zero, List.set_cons_succ]
                        refine wpAnyH_ready (rs := [4]) (by kernel_rfl) (by simp) ?_
                        refine AllReadyH.cons (o := o28_4) rfl (fun K hK => ?_) AllReadyH.nil
                        delta o28_4
                        go_simp
                        refine hK.out _ _ ?_ (fun hHeld => ?_)
                        · (try dsimp only); (refine HSg.out _ (HD13.out.trans (Below.mono ?_ HD13.out.size)); ((repeat (first | exact Below.refl _ _ | assumption | refine Below.drew ?_ | refine Below.drewN' ?_ _ | (refine Below.alloc ?_ (by simp <;> omega) _) | (refine Below.setCell ?_ (by simp <;> omega) _))); done))
                        clear hK K
                        try simp only [o28_4, Act.put, List.setIfInBounds_toArray, List.set_cons_zero, List.set_cons_succ]
                       case' gr27 =>
                        exact AllReadyH.nil
                     case' gr25 =>
                      refine AllReadyH.cons (o := o28_7) rfl (fun K hK => ?gs28) ?gr28
                      case' gs28 =>
                       delta o28_7
                       go_simp
                       refine hK.out _ _ ?_ (fun hHeld => ?_)
                       · (try dsimp only); (refine HSg.out _ (HD13.out.trans (Below.mono ?_ HD13.out.size)); ((repeat (first | exact Below.refl _ _ | assumption | refine Below.drew ?_ | refine Below.drewN' ?_ _ | (refine Below.alloc ?_ (by simp <;> omega) _) | (refine Below.setCell ?_ (by simp <;> omega) _))); done))
                       clear hK K
                       try simp only [o28_7, Act.put, List.setIfInBounds_toArray, List.set_cons_zero, List.set_cons_succ]
                       refine wpAnyH_ready (rs := [4, 5]) (by kernel_rfl) (by simp) ?_
                       refine AllReadyH.cons (o := o28_4) rfl (fun K hK => ?gs29) ?gr29
                       case' gs29 =>
                        delta o28_4
                        go_simp
                        refine hK.out _ _ ?_ (fun hHeld => ?_)
                        · (try dsimp only); (refine HSg.out _ (HD13.out.trans (Below.mono ?_ HD13.out.size)); ((repeat (first | exact Below.refl _ _ | assumption | refine Below.drew ?_ | refine Below.drewN' ?_ _ | (refine Below.alloc ?_ (by simp <;> omega) _) | (refine Below.setCell ?_ (by simp <;> omega) _))); done))
                        clear hK K
                        try simp only [o28_4, Act.put, List.setIfInBounds_toArray, List.set_cons_zero, List.set_cons_succ]
                        refine wpAnyH_ready (rs := [5]) (by kernel_rfl) (by simp) ?_
                        refine AllReadyH.cons (o := o28_5) rfl (fun K hK => ?_) AllReadyH.nil
                        delta o28_5
                        go_simp
                        refine hK.out _ _ ?_ (fun hHeld => ?_)
                        · (try dsimp only); (refine HSg.out _ (HD13.out.trans (Below.mono ?_ HD13.out.size)); ((repeat (first | exact Below.refl _ _ | assumption | refine Below.drew ?_ | refine Below.drewN' ?_ _ | (refine Below.alloc ?_ (by simp <;> omega) _) | (refine Below.setCell ?_ (by simp <;> omega) _))); done))
                        clear hK K
                        try simp only [o28_5, Act.put, List.setIfInBounds_toArray, List.set_cons_zero, List.set_cons_succ]
                       case' gr29 =>
                        refine AllReadyH.cons (o := o28_5) rfl (fun K hK => ?gs30) ?gr30
                        case' gs30 =>
                         delta o28_5
                         go_simp
                         refine hK.out _ _ ?_ (fun hHeld => ?_)
                         · (try dsimp only); (refine HSg.out _ (HD13.out.trans (Below.mono ?_ HD13.out.size)); ((repeat (first | exact Below.refl _ _ | assumption | refine Below.drew ?_ | refine Below.drewN' ?_ _ | (refine Below.alloc ?_ (by simp <;> omega) _) | (refine Below.setCell ?_ (by simp <;> omega) _))); done))
                         clear hK K
                         try simp only [o28_5, Act.put, List.setIfInBounds_toArray, List.set_cons_zero, List.set_cons_succ]
                         refine wpAnyH_ready (rs := [4]) (by kernel_rfl) (by simp) ?_
                         refine AllReadyH.cons (o := o28_4) rfl (fun K hK => ?_) AllReadyH.nil
                         delta o28_4
                         go_simp
                         refine hK.out _ _ ?_ (fun hHeld => ?_)
                         · (try dsimp only); (refine HSg.out _ (HD13.out.trans (Below.mono ?_ HD13.out.size)); ((repeat (first | exact Below.refl _ _ | assumption | refine Below.drew ?_ | refine Below.drewN' ?_ _ | (refine Below.alloc ?_ (by simp <;> omega) _) | (refine Below.setCell ?_ (by simp <;> omega) _))); done))
                         clear hK K
                         try simp only [o28_4, Act.put, List.setIfInBounds_toArray, List.set_cons_zero, List.set_cons_succ]
                        case' gr30 =>
                         exact AllReadyH.nil
                      case' gr28 =>
                       exact AllReadyH.nil
                   case' gr21 =>
                    refine AllReadyH.cons (o := o28_7) rfl (fun K hK => ?gs31) ?gr31
                    case' gs31 =>
                     delta o28_7
                     go_simp
                     refine hK.out _ _ ?_ (fun hHeld => ?_)
                     · (try dsimp only); (refine HSg.out _ (HD13.out.trans (Below.mono ?_ HD13.out.size)); ((repeat (first | exact Below.refl _ _ | assumption | refine Below.drew ?_ | refine Below.drewN' ?_ _ | (refine Below.alloc ?_ (by simp <;> omega) _) | (refine Below.setCell ?_ (by simp <;> omega) _))); done))
                     clear hK K
                     try simp only [o28_7, Act.put, List.setIfInBounds_toArray, List.set_cons_zero, List.set_cons_succ]
                     refine wpAnyH_ready (rs := [4, 5, 6]) (by kernel_rfl) (by simp) ?_
                     refine AllReadyH.cons (o := o28_4) rfl (fun K hK => ?gs32) ?gr32
                     case' gs32 =>
                      delta o28_4
                      go_simp
                      refine hK.out _ _ ?_ (fun hHeld => ?_)
                      · (try dsimp only); (refine HSg.out _ (HD13.out.trans (Below.mono ?_ HD13.out.size)); ((repeat (first | exact Below.refl _ _ | assumption | refine Below.drew ?_ | refine Below.drewN' ?_ _ | (refine Below.alloc ?_ (by simp <;> omega) _) | (refine Below.setCell ?_ (by simp <;> omega) _))); done))
                      clear hK K
                      try simp only [o28_4, Act.put, List.setIfInBounds_toArray, List.set_cons_zero, List.set_cons_succ]
                      refine wpAnyH_ready (rs := [5, 6]) (by kernel_rfl) (by simp) ?_
                      refine AllReadyH.cons (o := o28_5) rfl (fun K hK => ?gs33) ?gr33
                      case' gs33 =>
                       delta o28_5
                       go_simp
                       refine hK.out _ _ ?_ (fun hHeld => ?_)
                       · (try dsimp only); (refine HSg.out _ (HD13.out.trans (Below.mono ?_ HD13.out.size)); ((repeat (first | exact Below.refl _ _ | assumption | refine Below.drew ?_ | refine Below.drewN' ?_ _ | (refine Below.alloc ?_ (by simp <;> omega) _) | (refine Below.setCell ?_ (by simp <;> omega) _))); done))
                       clear hK K
                       try simp only [o28_5, Act.put, List.setIfInBounds_toArray, List.set_cons_zero, List.set_cons_succ]
                       refine wpAnyH_ready (rs := [6]) (by kernel_rfl) (by simp) ?_
                       refine AllReadyH.cons (o := o28_6) rfl (fun K hK => ?_) AllReadyH.nil
                       delta o28_6
                       go_simp
                       refine hK.out _ _ ?_ (fun hHeld => ?_)
                       · (try dsimp only); (refine HSg.out _ (HD13.out.trans (Below.mono ?_ HD13.out.size)); ((repeat (first | exact Below.refl _ _ | assumption | refine Below.drew ?_ | refine Below.drewN' ?_ _ | (refine Below.alloc ?_ (by simp <;> omega) _) | (refine Below.setCell ?_ (by simp <;> omega) _))); done))
                       clear hK K
                       try simp only [o28_6, Act.put, List.setIfInBounds_toArray, List.set_cons_zero, List.set_cons_succ]
                      case' gr33 =>
                       refine AllReadyH.cons (o := o28_6) rfl (fun K hK => ?gs34) ?gr34
                       case' gs34 =>
                        delta o28_6
                        go_simp
                        refine hK.out _ _ ?_ (fun hHeld => ?_)
                        · (try dsimp only); (refine HSg.out _ (HD13.out.trans (Below.mono ?_ HD13.out.size)); ((repeat (first | exact Below.refl _ _ | assumption | refine Below.drew ?_ | refine Below.drewN' ?_ _ | (refine Below.alloc ?_ (by simp <;> omega) _) | (refine Below.setCell ?_ (by simp <;> omega) _))); done))
                        clear hK K
                        try simp only [o28_6, Act.put, List.setIfInBounds_toArray, List.set_cons_zero, List.set_cons_succ]
                        refine wpAnyH_ready (rs := [5]) (by kernel_rfl) (by simp) ?_
                        refine AllReadyH.cons (o := o28_5) rfl (fun K hK => ?_) AllReadyH.nil
                        delta o28_5
                        go_simp
                        refine hK.out _ _ ?_ (fun hHeld => ?_)
                        · (try dsimp only); (refine HSg.out _ (HD13.out.trans (Below.mono ?_ HD13.out.size)); ((repeat (first | exact Below.refl _ _ | assumption | refine Below.drew ?_ | refine Below.drewN' ?_ _ | (refine Below.alloc ?_ (by simp <;> omega) _) | (refine Below.setCell ?_ (by simp <;> omega) _))); done))
                        clear hK K
                        try simp only [o28_5, Act.put, List.setIfInBounds_toArray, List.set_cons_zero, List.set_cons_succ]
                       case' gr34 =>
                        exact AllReadyH.nil
                     case' gr32 =>
                      refine AllReadyH.cons (o := o28_5) rfl (fun K hK => ?gs35) ?gr35
                      case' gs35 =>
                       delta o28_5
                       go_simp
                       refine hK.out _ _ ?_ (fun hHeld => ?_)
                       · (try dsimp only); (refine HSg.out _ (HD13.out.trans (Below.mono ?_ HD13.out.size)); ((repeat (first | exact Below.refl _ _ | assumption | refine Below.drew ?_ | refine Below.drewN' ?_ _ | (refine Below.alloc ?_ (by simp <;> omega) _) | (refine Below.setCell ?_ (by simp <;> omega) _))); done))
                       clear hK K
                       try simp only [o28_5, Act.put, List.setIfInBounds_toArray, List.set_cons_zero, List.set_cons_succ]
                       refine wpAnyH_ready (rs := [4, 6]) (by kernel_rfl) (by simp) ?_
                       refine AllReadyH.cons (o := o28_4) rfl (fun K hK => ?gs36) ?gr36
                       case' gs36 =>
                        delta o28_4
                        go_simp
                        refine hK.out _ _ ?_ (fun hHeld => ?_)
                        · (try dsimp only); (refine HSg.out _ (HD13.out.trans (Below.mono ?_ HD13.out.size)); ((repeat (first | exact Below.refl _ _ | assumption | refine Below.drew ?_ | refine Below.drewN' ?_ _ | (refine Below.alloc ?_ (by simp <;> omega) _) | (refine Below.setCell ?_ (by simp <;> omega) _))); done))
                        clear hK K
                        try simp only [o28_4, Act.put, List.setIfInBounds_toArray, List.set_cons_zero, List.set_cons_succ]
                        refine wpAnyH_ready (rs := [6]) (by kernel_rfl) (by simp) ?_
                        refine AllReadyH.cons (o := o28_6) rfl (fun K hK => ?_) AllReadyH.nil
                        delta o28_6
                        go_simp
                        refine hK.out _ _ ?_ (fun hHeld => ?_)
                        · (try dsimp only); (refine HSg.out _ (HD13.out.trans (Below.mono ?_ HD13.out.size)); ((repeat (first | exact Below.refl _ _ | assumption | refine Below.drew ?_ | refine Below.drewN' ?_ _ | (refine Below.alloc ?_ (by simp <;> omega) _) | (refine Below.setCell ?_ (by simp <;> omega) _))); done))
                        clear hK K
                        try simp only [o28_6, Act.put, List.setIfInBounds_toArray, List.set_cons_zero, List.set_cons_succ]
                       case' gr36 =>
                        refine AllReadyH.cons (o := o28_6) rfl (fun K hK => ?gs37) ?gr37
                        case' gs37 =>
                         delta o28_6
                         go_simp
                         refine hK.out _ _ ?_ (fun hHeld => ?_)
                         · (try dsimp only); (refine HSg.out _ (HD13.out.trans (Below.mono ?_ HD13.out.size)); ((repeat (first | exact Below.refl _ _ | assumption | refine Below.drew ?_ | refine Below.drewN' ?_ _ | (refine Below.alloc ?_ (by simp <;> omega) _) | (refine Below.setCell ?_ (by simp <;> omega) _))); done))
                         clear hK K
                         try simp only [o28_6, Act.put, List.setIfInBounds_toArray, List.set_cons_zero, List.set_cons_succ]
                         refine wpAnyH_ready (rs := [4]) (by kernel_rfl) (by simp) ?_
                         refine AllReadyH.cons (o := o28_4) rfl (fun K hK => ?_) AllReadyH.nil
                         delta o28_4
                         go_simp
                         refine hK.out _ _ ?_ (fun hHeld => ?_)
                         · (try dsimp only); (refine HSg.out _ (HD13.out.trans (Below.mono ?_ HD13.out.size)); ((repeat (first | exact Below.refl _ _ | assumption | refine Below.drew ?_ | refine Below.drewN' ?_ _ | (refine Below.alloc ?_ (by simp <;> omega) _) | (refine Below.setCell ?_ (by simp <;> omega) _))); done))
                         clear hK K
                         try simp only [o28_4, Act.put, List.setIfInBounds_toArray, List.set_cons_zero, List.set_cons_succ]
                        case' gr37 =>
                         exact AllReadyH.nil
                      case' gr35 =>
                       refine AllReadyH.cons (o := o28_6) rfl (fun K hK => ?gs38) ?gr38
                       case' gs38 =>
                        delta o28_6
                        go_simp
                        refine hK.out _ _ ?_ (fun hHeld => ?_)
                        · (try dsimp only); (refine HSg.out _ (HD13.out.trans (Below.mono ?_ HD13.out.size)); ((repeat (first | exact Below.refl _ _ | assumption | refine Below.drew ?_ | refine Below.drewN' ?_ _ | (refine Below.alloc ?_ (by simp <;> omega) _) | (refine Below.setCell ?_ (by simp <;> omega) _))); done))
                        clear hK K
                        try simp only [o28_6, Act.put, List.setIfInBounds_toArray, List.set_cons_zero, List.set_cons_succ]
                        refine wpAnyH_ready (rs := [4, 5]) (by kernel_rfl) (by simp) ?_
                        refine AllReadyH.cons (o := o28_4) rfl (fun K hK => ?gs39) ?gr39
                        case' gs39 =>
                         delta o28_4
                         go_simp
                         refine hK.out _ _ ?_ (fun hHeld => ?_)
                         · (try dsimp only); (refine HSg.out _ (HD13.out.trans (Below.mono ?_ HD13.out.size)); ((repeat (first | exact Below.refl _ _ | assumption | refine Below.drew ?_ | refine Below.drewN' ?_ _ | (refine Below.alloc ?_ (by simp <;> omega) _) | (refine Below.setCell ?_ (by simp <;> omega) _))); done))
                         clear hK K
                         try simp only [o28_4, Act.put, List.setIfInBounds_toArray, List.set_cons_zero, List.set_cons_succ]
                         refine wpAnyH_ready (rs := [5]) (by kernel_rfl) (by simp) ?_
                         refine AllReadyH.cons (o := o28_5) rfl (fun K hK => ?_) AllReadyH.nil
                         delta o28_5
                         go_simp
                         refine hK.out _ _ ?_ (fun hHeld => ?_)
                         · (try dsimp only); (refine HSg.out _ (HD13.out.trans (Below.mono ?_ HD13.out.size)); ((repeat (first | exact Below.refl _ _ | assumption | refine Below.drew ?_ | refine Below.drewN' ?_ _ | (refine Below.alloc ?_ (by simp <;> omega) _) | (refine Below.setCell ?_ (by simp <;> omega) _))); done))
                         clear hK K
                         try simp only [o28_5, Act.put, List.setIfInBounds_toArray, List.set_cons_zero, List.set_cons_succ]
                        case' gr39 =>
                         refine AllReadyH.cons (o := o28_5) rfl (fun K hK => ?gs40) ?gr40
                         case' gs40 =>
                          delta o28_5
                          go_simp
                          refine hK.out _ _ ?_ (fun hHeld => ?_)
                          · (try dsimp only); (refine HSg.out _ (HD13.out.trans (Below.mono ?_ HD13.out.size)); ((repeat (first | exact Below.refl _ _ | assumption | refine Below.drew ?_ | refine Below.drewN' ?_ _ | (refine Below.alloc ?_ (by simp <;> omega) _) | (refine Below.setCell ?_ (by simp <;> omega) _))); done))
                          clear hK K
                          try simp only [o28_5, Act.put, List.setIfInBounds_toArray, List.set_cons_zero, List.set_cons_succ]
                          refine wpAnyH_ready (rs := [4]) (by kernel_rfl) (by simp) ?_
                          refine AllReadyH.cons (o := o28_4) rfl (fun K hK => ?_) AllReadyH.nil
                          delta o28_4
                          go_simp
                          refine hK.out _ _ ?_ (fun hHeld => ?_)
                          · (try dsimp only); (refine HSg.out _ (HD13.out.trans (Below.mono ?_ HD13.out.size)); ((repeat (first | exact Below.refl _ _ | assumption | refine Below.drew ?_ | refine Below.drewN' ?_ _ | (refine Below.alloc ?_ (by simp <;> omega) _) | (refine Below.setCell ?_ (by simp <;> omega) _))); done))
                          clear hK K
                          try simp only [o28_4, Act.put, List.setIfInBounds_toArray, List.set_cons_zero, List.set_cons_succ]
                         case' gr40 =>
                          exact AllReadyH.nil
                       case' gr38 =>
                        exact AllReadyH.nil
                    case' gr31 =>
                     exact AllReadyH.nil
                 all_goals
                  as_aux_lemma =>
                   refine wpAnyH_ready (rs := [8]) (by kernel_rfl) (by simp) ?_
                   refine AllReadyH.cons (o := o28_8) rfl (fun K hK => ?_) AllReadyH.nil
                   delta o28_8
                   go_simp
                   refine hK.out _ _ ?_ (fun hHeld => ?_)
                   · (try dsimp only); (refine HSg.out _ (HD13.out.trans (Below.mono ?_ HD13.out.size)); ((repeat (first | exact Below.refl _ _ | assumption | refine Below.drew ?_ | refine Below.drewN' ?_ _ | (refine Below.alloc ?_ (by simp <;> omega) _) | (refine Below.setCell ?_ (by simp <;> omega) _))); done))
                   clear hK K
                   try simp only [o28_8, Act.put, List.setIfInBounds_toArray, List.set_cons_zero, List.set_cons_succ]
                   refine wpAnyH_ready (rs := [9]) (by kernel_rfl) (by simp) ?_
                   refine AllReadyH.cons (o := o28_9) rfl (fun K hK => ?_) AllReadyH.nil
                   delta o28_9
                   go_simp
                   refine hK.out _ _ ?_ (fun hHeld => ?_)
                   · (try dsimp only); (refine HSg.out _ (HD13.out.trans (Below.mono ?_ HD13.out.size)); ((repeat (first | exact Below.refl _ _ | assumption | refine Below.drew ?_ | refine Below.drewN' ?_ _ | (refine Below.alloc ?_ (by simp <;> omega) _) | (refine Below.setCell ?_ (by simp <;> omega) _))); done))
                   clear hK K
                   try simp only [o28_9, Act.put, List.setIfInBounds_toArray, List.set_cons_zero, List.set_cons_succ]
                   refine wpAnyH_ready (rs := [10]) (by kernel_rfl) (by simp) ?_
                   refine AllReadyH.cons (o := o28_10) rfl (fun K hK => ?_) AllReadyH.nil
                   delta o28_10
                   go_simp
                   refine hK.out _ _ ?_ (fun hHeld => ?_)
                   · (try dsimp only); (refine HSg.out _ (HD13.out.trans (Below.mono ?_ HD13.out.size)); ((repeat (first | exact Below.refl _ _ | assumption | refine Below.drew ?_ | refine Below.drewN' ?_ _ | (refine Below.alloc ?_ (by simp <;> omega) _) | (refine Below.setCell ?_ (by simp <;> omega) _))); done))
                   clear hK K
                   try simp only [o28_10, Act.put, List.setIfInBounds_toArray, List.set_cons_zero, List.set_cons_succ]
                   refine wpAnyH_ready (rs := [11]) (by kernel_rfl) (by simp) ?_
                   refine AllReadyH.cons (o := o28_11) rfl (fun K hK => ?_) AllReadyH.nil
                   delta o28_11
                   go_simp
                   refine hK.out _ _ ?_ (fun hHeld => ?_)
                   · (try dsimp only); (refine HSg.out _ (HD13.out.trans (Below.mono ?_ HD13.out.size)); ((repeat (first | exact Below.refl _ _ | assumption | refine Below.drew ?_ | refine Below.drewN' ?_ _ | (refine Below.alloc ?_ (by simp <;> omega) _) | (refine Below.setCell ?_ (by simp <;> omega) _))); done))
                   clear hK K
                   try simp only [o28_11, Act.put, List.setIfInBounds_toArray, List.set_cons_zero, List.set_cons_succ]
                   refine wpAnyH_done (by kernel_rfl) ?_ _
                   refine NoPanic.normal ?_
                   go_wp2_with fail
                   go_meet
                   refine fourG_mk ?_ ?_ ?_ ?_ (by omega) (by omega) (by repeat (first | exact Below.refl _ _ | assumption | refine Below.drew ?_ | refine Below.drewN' ?_ _ | (refine Below.alloc ?_ (by simp <;> omega) _) | (refine Below.setCell ?_ (by simp <;> omega) _)))
                   all_goals first | ((try refine Blk.drew ?_); refine Blk.new' _ _ _ ?_; simp; done) | ((try refine Blk.drew ?_); refine Blk.alloc ?_ _; refine Blk.new' _ _ _ ?_; simp; done) | ((try refine Blk.drew ?_); refine Blk.alloc ?_ _; refine Blk.alloc ?_ _; refine Blk.new' _ _ _ ?_; simp; done) | ((try refine Blk.drew ?_); refine Blk.alloc ?_ _; refine Blk.alloc ?_ _; refine Blk.alloc ?_ _; refine Blk.new' _ _ _ ?_; simp; done)
              case rest =>
                obtain ⟨b, rfl, rfl, rfl, rfl, hblk, hinj, hge, hbel⟩ := hcut
                have HBk := Lib.hid hblk
                have HIn := Lib.hid hinj
                have HGe := Lib.hid hge
                have HBc := Lib.hid hbel
                have n01 : ¬ b 0 = b 1 := hinj 0 1 (by omega) (by omega) (by omega)
                have n02 : ¬ b 0 = b 2 := hinj 0 2 (by omega) (by omega) (by omega)
                have n03 : ¬ b 0 = b 3 := hinj 0 3 (by omega) (by omega) (by omega)
                have n12 : ¬ b 1 = b 2 := hinj 1 2 (by omega) (by omega) (by omega)
                have n13 : ¬ b 1 = b 3 := hinj 1 3 (by omega) (by omega) (by omega)
                have n23 : ¬ b 2 = b 3 := hinj 2 3 (by omega) (by omega) (by omega)
                have m01 : ¬ b 1 = b 0 := fun e => n01 e.symm
                have m02 : ¬ b 2 = b 0 := fun e => n02 e.symm
                have m03 : ¬ b 3 = b 0 := fun e => n03 e.symm
                have m12 : ¬ b 2 = b 1 := fun e => n12 e.symm
                have m13 : ¬ b 3 = b 1 := fun e => n13 e.symm
                have m23 : ¬ b 3 = b 2 := fun e => n23 e.symm
                have x0 := (hblk 0 (by omega)).cell 3
                have x1 := (hblk 1 (by omega)).cell 3
                have x2 := (hblk 2 (by omega)).cell 3
                have x3 := (hblk 3 (by omega)).cell 3
                simp only [List.getElem?_toArray, List.getElem?_cons_zero, List.getElem?_cons_succ] at x0 x1 x2 x3
                have z0 := (hblk 0 (by omega)).frozen 3
                have z1 := (hblk 1 (by omega)).frozen 3
                have z2 := (hblk 2 (by omega)).frozen 3
                have z3 := (hblk 3 (by omega)).frozen 3
                have lk13 : w2.heap.size < w13.heap.size := by
                  have h1 := HKg.out.lt
                  have h2 := HD13.out.size
                  omega
                have g0 := hge 0 (by omega)
                have g1 := hge 1 (by omega)
                have g2 := hge 2 (by omega)
                have g3 := hge 3 (by omega)
                have l0 : ¬ w2.heap.size = b 0 := by omega
                have l1 : ¬ w2.heap.size = b 1 := by omega
                have l2 : ¬ w2.heap.size = b 2 := by omega
                have l3 : ¬ w2.heap.size = b 3 := by omega
                obtain ⟨d0, d1, d2, d3⟩ := HSg.out _ (HD13.out.trans (HBc.out.mono HD13.out.size))
                clear hblk hinj hge hbel
                go_wp2_with fail
                clear x0 x1 x2 x3 z0 z1 z2 z3 d0 d1 d2 d3
                go_loopw [269] (fun j wq => ∃ q : Nat, q ≤ g.ss.length ∧ j = .int .i64 q ∧ ∃ v : Nat → Value, Hid (R4 w13 wq g b v v (ptL g c q))) (fun j _ => g.ss.length - (intOf j).toNat)
                case atStart => exact ⟨0, Nat.zero_le _, rfl, _, R4.start HBk.out HIn.out HGe.out HBc.out⟩
                case round =>
                  as_aux_lemma =>
                  obtain ⟨q, hq, rfl, v, HR4⟩ := hrel
                  obtain ⟨wq, rfl⟩ : ∃ wq, wq = wr := ⟨_, rfl⟩
                  have HDq := Lib.hid ((HD13.out.trans (HR4.out.bel.mono HD13.out.size)))
                  by_cases hltq : q < g.ss.length
                  · have hq0 : (0 : Int) ≤ (q : Int) := by omega
                    have hq1 : (q : Int) < (g.ss.length : Int) := by omega
                    obtain ⟨vG, eG, hG⟩ := HGg.out.later HDq.out (Nat.le_refl _)
                    obtain rfl : Value.slice B2 g.ss.length c2 = vG := by simpa using eG
                    obtain ⟨bg, og, lo, hi, eB, hbg, eg, f0, f1⟩ := hG.atD hltq
                    clear eG hG
                    subst eB
                    go_upto_region 33 with (fail)
                    obtain ⟨U, hU⟩ : ∃ U, wq.alloc (.cells #[.int .i64 lo, .int .i64 hi] 34) = U := ⟨_, rfl⟩
                    have HBU : Hid (Below wq.heap.size wq U) := by rw [← hU]; exact (by repeat (first | exact Below.refl _ _ | assumption | refine Below.drew ?_ | refine Below.drewN' ?_ _ | (refine Below.alloc ?_ (by simp <;> omega) _) | (refine Below.setCell ?_ (by simp <;> omega) _)))
                    have HKu : Hid (Blk U wq.heap.size 34 #[.int .i64 lo, .int .i64 hi]) := by rw [← hU]; exact Blk.new' _ _ _ rfl
                    rw [hU]
                    clear hU f0 f1
                    have hUl := HKu.out.lt
                    have HSu : Hid (∀ W, Below U.heap.size U W → W.cell? ⟨wq.heap.size, 0, none⟩ = some (.int .i64 lo) ∧ W.cell? ⟨wq.heap.size, 1, none⟩ = some (.int .i64 hi)) := fun W hW => by
                      have b := HKu.out.below hW HKu.out.lt
                      exact ⟨b.cell 0, b.cell 1⟩
                    go_cut [37, 38] from 274 to 284 (fun p1 p2 wx => TwoS lo hi U p1 p2 wx)
                    case first =>
                      obtain ⟨t0, t1⟩ := HSu.out _ (Below.refl _ _)
                      as_aux_lemma =>
                       refine wp_region_noPanic ?_
                       refine wp_region_held_drew (S := (fun w' => w'.cell? ⟨wq.heap.size, 0, none⟩ = some (.int .i64 lo) ∧ w'.cell? ⟨wq.heap.size, 1, none⟩ = some (.int .i64 hi))) (by kernel_rfl) ?_ (fun hHeld => ?_)
                       · (try dsimp only); (refine HSu.out _ ?_; ((repeat (first | exact Below.refl _ _ | assumption | refine Below.drew ?_ | refine Below.drewN' ?_ _ | (refine Below.alloc ?_ (by simp <;> omega) _) | (refine Below.setCell ?_ (by simp <;> omega) _))); done))
                       refine wpAnyH_take (i := 0) (oi := o33_0) (v := ?_) rfl (by kernel_rfl) (by kernel_rfl) (by kernel_rfl) (fun _ _ _ h => h) (Or.inl ⟨by rfl, ?_⟩) (by assumption) ?_
                       rotate_left
                       · ((intro w hSw; delta o33_0; (try dsimp only at hSw); go_simp) <;> with_reducible rfl)
                       try simp only [o33_0, Act.put, List.setIfInBounds_toArray, List.set_cons_zero, List.set_cons_succ]
                       refine wpAnyH_take (i := 1) (oi := o33_1) (v := ?_) rfl (by kernel_rfl) (by kernel_rfl) (by kernel_rfl) (fun _ _ _ h => h) (Or.inl ⟨by rfl, ?_⟩) (by assumption) ?_
                       rotate_left
                       · ((intro w hSw; delta o33_1; (try dsimp only at hSw); go_simp) <;> with_reducible rfl)
                       try simp only [o33_1, Act.put, List.setIfInBounds_toArray, List.set_cons_zero, List.set_cons_succ]
                       refine wpAnyH_take (i := 2) (oi := o33_2) (v := ?_) rfl (by kernel_rfl) (by kernel_rfl) (by kernel_rfl) (fun _ _ _ h => h) (Or.inl ⟨by rfl, ?_⟩) (by assumption) ?_
                       rotate_left
                       · ((intro w hSw; delta o33_2; (try dsimp only at hSw); go_simp) <;> with_reducible rfl)
                       try simp only [o33_2, Act.put, List.setIfInBounds_toArray, List.set_cons_zero, List.set_cons_succ]
                       refine wpAnyH_take (i := 3) (oi := o33_3) (v := ?_) rfl (by kernel_rfl) (by kernel_rfl) (by kernel_rfl) (fun _ _ _ h => h) (Or.inl ⟨by rfl, ?_⟩) (by assumption) ?_
                       rotate_left
                       · ((intro w hSw; delta o33_3; (try dsimp only at hSw); go_simp) <;> with_reducible rfl)
                       try simp only [o33_3, Act.put, List.setIfInBounds_toArray, List.set_cons_zero, List.set_cons_succ]
                       refine wpAnyH_take (i := 4) (oi := o33_4) (v := ?_) rfl (by kernel_rfl) (by kernel_rfl) (by kernel_rfl) (fun _ _ _ h => h) (Or.inl ⟨by rfl, ?_⟩) (by assumption) ?_
                       rotate_left
                       · ((intro w hSw; delta o33_4; (try dsimp only at hSw); go_simp) <;> with_reducible rfl)
                       try simp only [o33_4, Act.put, List.setIfInBounds_toArray, List.set_cons_zero, List.set_cons_succ]
                       refine wpAnyH_take (i := 5) (oi := o33_5) (v := ?_) rfl (by kernel_rfl) (by kernel_rfl) (by kernel_rfl) (fun _ _ _ h => h) (Or.inl ⟨by rfl, ?_⟩) (by assumption) ?_
                       rotate_left
                       · ((intro w hSw; delta o33_5; (try dsimp only at hSw); go_simp) <;> with_reducible rfl)
                       try simp only [o33_5, Act.put, List.setIfInBounds_toArray, List.set_cons_zero, List.set_cons_succ]
                       refine wpAnyH_take (i := 6) (oi := o33_6) (v := ?_) rfl (by kernel_rfl) (by kernel_rfl) (by kernel_rfl) (fun _ _ _ h => h) (Or.inl ⟨by rfl, ?_⟩) (by assumption) ?_
                       rotate_left
                       · ((intro w hSw; delta o33_6; (try dsimp only at hSw); go_simp) <;> with_reducible rfl)
                       try simp only [o33_6, Act.put, List.setIfInBounds_toArray, List.set_cons_zero, List.set_cons_succ]
                       refine wpAnyH_take (i := 7) (oi := o33_7) (v := ?_) rfl (by kernel_rfl) (by kernel_rfl) (by kernel_rfl) (fun _ _ _ h => h) (Or.inl ⟨by rfl, ?_⟩) (by assumption) ?_
                       rotate_left
                       · ((intro w hSw; delta o33_7; (try dsimp only at hSw); go_simp) <;> with_reducible rfl)
                       try simp only [o33_7, Act.put, List.setIfInBounds_toArray, List.set_cons_zero, List.set_cons_succ]
                       refine wpAnyH_take (i := 8) (oi := o33_8) (v := ?_) rfl (by kernel_rfl) (by kernel_rfl) (by kernel_rfl) (fun _ _ _ h => h) (Or.inl ⟨by rfl, ?_⟩) (by assumption) ?_
                       rotate_left
                       · ((intro w hSw; delta o33_8; (try dsimp only at hSw); go_simp) <;> with_reducible rfl)
                       try simp only [o33_8, Act.put, List.setIfInBounds_toArray, List.set_cons_zero, List.set_cons_succ]
                       refine wpAnyH_take (i := 9) (oi := o33_9) (v := ?_) rfl (by kernel_rfl) (by kernel_rfl) (by kernel_rfl) (fun _ _ _ h => h) (Or.inl ⟨by rfl, ?_⟩) (by assumption) ?_
                       rotate_left
                       · ((intro w hSw; delta o33_9; (try dsimp only at hSw); go_simp) <;> with_reducible rfl)
                       try simp only [o33_9, Act.put, List.setIfInBounds_toArray, List.set_cons_zero, List.set_cons_succ]
                       refine wpAnyH_ready (rs := [10, 11]) (by kernel_rfl) (by simp) ?_
                       refine AllReadyH.cons (o := o33_10) rfl (fun K hK => ?_) ?_
                       ·
                        delta o33_10
                        go_simp
                        refine hK.out _ _ ?_ (fun hHeld => ?_)
                        · (try dsimp only); (refine HSu.out _ ?_; ((repeat (first | exact Below.refl _ _ | assumption | refine Below.drew ?_ | refine Below.drewN' ?_ _ | (refine Below.alloc ?_ (by simp <;> omega) _) | (refine Below.setCell ?_ (by simp <;> omega) _))); done))
                        clear hK K
                        try simp only [o33_10, Act.put, List.setIfInBounds_toArray, List.set_cons_zero, List.set_cons_succ]
                        refine wpAnyH_ready (rs := [11]) (by kernel_rfl) (by simp) ?_
                        refine AllReadyH.cons (o := o33_11) rfl (fun K hK => ?_) AllReadyH.nil
                        delta o33_11
                        go_simp
                        refine hK.out _ _ ?_ (fun hHeld => ?_)
                        · (try dsimp only); (refine HSu.out _ ?_; ((repeat (first | exact Below.refl _ _ | assumption | refine Below.drew ?_ | refine Below.drewN' ?_ _ | (refine Below.alloc ?_ (by simp <;> omega) _) | (refine Below.setCell ?_ (by simp <;> omega) _))); done))
                        clear hK K
                        try simp only [o33_11, Act.put, List.setIfInBounds_toArray, List.set_cons_zero, List.set_cons_succ]
                        refine wpAnyH_ready (rs := [12]) (by kernel_rfl) (by simp) ?_
                        refine AllReadyH.cons (o := o33_12) rfl (fun K hK => ?_) AllReadyH.nil
                        delta o33_12
                        go_simp
                        refine hK.out _ _ ?_ (fun hHeld => ?_)
                        · (try dsimp only); (refine HSu.out _ ?_; ((repeat (first | exact Below.refl _ _ | assumption | refine Below.drew ?_ | refine Below.drewN' ?_ _ | (refine Below.alloc ?_ (by simp <;> omega) _) | (refine Below.setCell ?_ (by simp <;> omega) _))); done))
                        clear hK K
                        try simp only [o33_12, Act.put, List.setIfInBounds_toArray, List.set_cons_zero, List.set_cons_succ]
                        refine wpAnyH_ready (rs := [13]) (by kernel_rfl) (by simp) ?_
                        refine AllReadyH.cons (o := o33_13) rfl (fun K hK => ?_) AllReadyH.nil
                        delta o33_13
                        go_simp
                        refine hK.out _ _ ?_ (fun hHeld => ?_)
                        · (try dsimp only); (refine HSu.out _ ?_; ((repeat (first | exact Below.refl _ _ | assumption | refine Below.drew ?_ | refine Below.drewN' ?_ _ | (refine Below.alloc ?_ (by simp <;> omega) _) | (refine Below.setCell ?_ (by simp <;> omega) _))); done))
                        clear hK K
                        try simp only [o33_13, Act.put, List.setIfInBounds_toArray, List.set_cons_zero, List.set_cons_succ]
                        refine wpAnyH_done (by kernel_rfl) ?_ _
                        refine NoPanic.normal ?_
                        go_wp2_with fail
                        go_meet
                        exact twoS_mk (by (try refine Blk.drew ?_); refine Blk.alloc ?_ _; exact Blk.new' _ _ _ (by simp)) (by (try refine Blk.drew ?_); exact Blk.new' _ _ _ (by simp)) (by omega) (by omega) (by omega) (by repeat (first | exact Below.refl _ _ | assumption | refine Below.drew ?_ | refine Below.drewN' ?_ _ | (refine Below.alloc ?_ (by simp <;> omega) _) | (refine Below.setCell ?_ (by simp <;> omega) _)))
                       refine AllReadyH.cons (o := o33_11) rfl (fun K hK => ?_) ?_
                       ·
                        delta o33_11
                        go_simp
                        refine hK.out _ _ ?_ (fun hHeld => ?_)
                        · (try dsimp only); (refine HSu.out _ ?_; ((repeat (first | exact Below.refl _ _ | assumption | refine Below.drew ?_ | refine Below.drewN' ?_ _ | (refine Below.alloc ?_ (by simp <;> omega) _) | (refine Below.setCell ?_ (by simp <;> omega) _))); done))
                        clear hK K
                        try simp only [o33_11, Act.put, List.setIfInBounds_toArray, List.set_cons_zero, List.set_cons_succ]
                        refine wpAnyH_ready (rs := [10]) (by kernel_rfl) (by simp) ?_
                        refine AllReadyH.cons (o := o33_10) rfl (fun K hK => ?_) AllReadyH.nil
                        delta o33_10
                        go_simp
                        refine hK.out _ _ ?_ (fun hHeld => ?_)
                        · (try dsimp only); (refine HSu.out _ ?_; ((repeat (first | exact Below.refl _ _ | assumption | refine Below.drew ?_ | refine Below.drewN' ?_ _ | (refine Below.alloc ?_ (by simp <;> omega) _) | (refine Below.setCell ?_ (by simp <;> omega) _))); done))
                        clear hK K
                        try simp only [o33_10, Act.put, List.setIfInBounds_toArray, List.set_cons_zero, List.set_cons_succ]
                        refine wpAnyH_ready (rs := [12]) (by kernel_rfl) (by simp) ?_
                        refine AllReadyH.cons (o := o33_12) rfl (fun K hK => ?_) AllReadyH.nil
                        delta o33_12
                        go_simp
                        refine hK.out _ _ ?_ (fun hHeld => ?_)
                        · (try dsimp only); (refine HSu.out _ ?_; ((repeat (first | exact Below.refl _ _ | assumption | refine Below.drew ?_ | refine Below.drewN' ?_ _ | (refine Below.alloc ?_ (by simp <;> omega) _) | (refine Below.setCell ?_ (by simp <;> omega) _))); done))
                        clear hK K
                        try simp only [o33_12, Act.put, List.setIfInBounds_toArray, List.set_cons_zero, List.set_cons_succ]
                        refine wpAnyH_ready (rs := [13]) (by kernel_rfl) (by simp) ?_
                        refine AllReadyH.cons (o := o33_13) rfl (fun K hK => ?_) AllReadyH.nil
                        delta o33_13
                        go_simp
                        refine hK.out _ _ ?_ (fun hHeld => ?_)
                        · (try dsimp only); (refine HSu.out _ ?_; ((repeat (first | exact Below.refl _ _ | assumption | refine Below.drew ?_ | refine Below.drewN' ?_ _ | (refine Below.alloc ?_ (by simp <;> omega) _) | (refine Below.setCell ?_ (by simp <;> omega) _))); done))
                        clear hK K
                        try simp only [o33_13, Act.put, List.setIfInBounds_toArray, List.set_cons_zero, List.set_cons_succ]
                        refine wpAnyH_done (by kernel_rfl) ?_ _
                        refine NoPanic.normal ?_
                        go_wp2_with fail
                        go_meet
                        exact twoS_mk (by (try refine Blk.drew ?_); exact Blk.new' _ _ _ (by simp)) (by (try refine Blk.drew ?_); refine Blk.alloc ?_ _; exact Blk.new' _ _ _ (by simp)) (by omega) (by omega) (by omega) (by repeat (first | exact Below.refl _ _ | assumption | refine Below.drew ?_ | refine Below.drewN' ?_ _ | (refine Below.alloc ?_ (by simp <;> omega) _) | (refine Below.setCell ?_ (by simp <;> omega) _)))
                       exact AllReadyH.nil
                    case rest =>
                      as_aux_lemma =>
                      obtain ⟨s1, s2, rfl, rfl, hk1, hk2, hne, hg1, hg2, hbl⟩ := hcut
                      have HB := Lib.hid (RB.start HR4.out (HBU.out.trans (hbl.mono HBU.out.size)) hk1 hk2 hne (Nat.le_trans HBU.out.size hg1) (Nat.le_trans HBU.out.size hg2))
                      have HG1 : Hid (w13.heap.size ≤ s1 ∧ w13.heap.size ≤ s2) := ⟨Nat.le_trans HR4.out.bel.size (Nat.le_trans HBU.out.size hg1), Nat.le_trans HR4.out.bel.size (Nat.le_trans HBU.out.size hg2)⟩
                      have HGT := Lib.hid eg
                      obtain ⟨wA, rfl⟩ : ∃ wA, wA = wc := ⟨_, rfl⟩
                      clear hk1 hk2 hne hg1 hg2 hbl HKu HBU HSu hUl eg HR4 HDq
                      obtain ⟨i1, hi1, hy0, hy1, hy2⟩ := info_parts span_info
                      obtain ⟨A1, c1, e1⟩ := own_open (HB.out.r.own 0 (by omega))
                      obtain ⟨A2, c2, e2⟩ := own_open (HB.out.r.own 1 (by omega))
                      have HL1 : Hid (((ptL g c q) 0).length = q) := by rw [Hid]; exact ptL_len _ _ _ _
                      have HL2 : Hid (((ptL g c q) 1).length = q) := by rw [Hid]; exact ptL_len _ _ _ _
                      rw [HL1.out] at e1
                      rw [HL2.out] at e2
                      have HO1 : Hid (wA.ownsRow w13.heap.size 34 2 (.slice A1 q c1) q (spanCells ((ptL g c q) 0))) := by
                        have h := HB.out.r.own 0 (by omega)
                        rw [e1, HL1.out] at h
                        exact h
                      have HO2 : Hid (wA.ownsRow w13.heap.size 34 2 (.slice A2 q c2) q (spanCells ((ptL g c q) 1))) := by
                        have h := HB.out.r.own 1 (by omega)
                        rw [e2, HL2.out] at h
                        exact h
                      have HLo : Hid (∀ k, (Value.slice A1 q c1).ownBlock = some k → k < wA.heap.size) := fun k e => (HO1.out.lt k e).2
                      have HE1 := Lib.hid e1
                      have HE2 := Lib.hid e2
                      have HSx : Hid (∀ v1 s1' W, RB w13 W g b v1 v s1' s1 s2 lo hi → W.cell? ⟨b 0, 3, none⟩ = some (.slice A1 q c1) ∧ W.cell? ⟨b 1, 3, none⟩ = some (.slice A2 q c2) ∧ W.cell? ⟨s1, 0, none⟩ = some (.int .i64 lo) ∧ W.cell? ⟨s1, 1, none⟩ = some (.int .i64 lo) ∧ W.cell? ⟨s2, 0, none⟩ = some (.int .i64 hi) ∧ W.cell? ⟨s2, 1, none⟩ = some (.int .i64 hi)) := fun v1 s1' W h => by
                        have k1 := (h.r.blk 0 (by omega)).cell 3
                        have k2 := (h.r.blk 1 (by omega)).cell 3
                        rw [HE1.out] at k1
                        rw [HE2.out] at k2
                        exact ⟨k1, k2, h.k1.cell 0, h.k1.cell 1, h.k2.cell 0, h.k2.cell 1⟩
                      have h13 : w13.heap.size ≤ wA.heap.size := HB.out.r.bel.size
                      have nij : ¬ b 0 = b 1 := HB.out.r.inj 0 1 (by omega) (by omega) (by omega)
                      have nji : ¬ b 1 = b 0 := fun e => nij e.symm
                      clear e1 e2
                      go_upto_region 34 with (fail)
                      go_cut [] from 284 to 296 (fun wx => TwoSt w13 g b (ptL g c q) s1 s2 0 1 lo hi wx)
                      case first =>
                        obtain ⟨t0, t1, t2, t3, t4, t5⟩ := HSx.out _ _ _ HB.out
                        as_aux_lemma =>
                         refine wp_region_noPanic ?_
                         refine wp_region_L (S := (fun w' => w'.cell? ⟨b 0, 3, none⟩ = some (.slice A1 q c1) ∧ w'.cell? ⟨b 1, 3, none⟩ = some (.slice A2 q c2) ∧ w'.cell? ⟨s1, 0, none⟩ = some (.int .i64 lo) ∧ w'.cell? ⟨s1, 1, none⟩ = some (.int .i64 lo) ∧ w'.cell? ⟨s2, 0, none⟩ = some (.int .i64 hi) ∧ w'.cell? ⟨s2, 1, none⟩ = some (.int .i64 hi))) (ks := [11, 12, 13]) (by kernel_rfl) ?_ (fun hHeld => ?_)
                         · (try dsimp only); (first | (refine HSx.out _ _ _ (HB.out.below ?_); ((repeat (first | exact Below.refl _ _ | assumption | refine Below.drew ?_ | refine Below.drewN' ?_ _ | (refine Below.alloc ?_ (by simp <;> omega) _) | (refine Below.setCell ?_ (by simp <;> omega) _))); done)) | (refine HSx.out _ _ _ (HR1.out.below ?_); ((repeat (first | exact Below.refl _ _ | assumption | refine Below.drew ?_ | refine Below.drewN' ?_ _ | (refine Below.alloc ?_ (by simp <;> omega) _) | (refine Below.setCell ?_ (by simp <;> omega) _))); done)) | exact HSx.out _ _ _ HF.out)
                         refine wpAnyL_take (i := 0) (oi := o34_0) (v := ?_) rfl (by kernel_rfl) (fun _ _ _ h => h) (Or.inl ⟨by rfl, ?_⟩) (by assumption) ?_
                         rotate_left
                         · ((intro w hSw; delta o34_0; (try dsimp only at hSw); go_simp) <;> with_reducible rfl)
                         try simp only [o34_0, Act.put, List.setIfInBounds_toArray, List.set_cons_zero, List.set_cons_succ]
                         refine wpAnyL_take (i := 1) (oi := o34_1) (v := ?_) rfl (by kernel_rfl) (fun _ _ _ h => h) (Or.inl ⟨by rfl, ?_⟩) (by assumption) ?_
                         rotate_left
                         · ((intro w hSw; delta o34_1; (try dsimp only at hSw); go_simp) <;> with_reducible rfl)
                         try simp only [o34_1, Act.put, List.setIfInBounds_toArray, List.set_cons_zero, List.set_cons_succ]
                         refine wpAnyL_take (i := 2) (oi := o34_2) (v := ?_) rfl (by kernel_rfl) (fun _ _ _ h => h) (Or.inl ⟨by rfl, ?_⟩) (by assumption) ?_
                         rotate_left
                         · ((intro w hSw; delta o34_2; (try dsimp only at hSw); go_simp) <;> with_reducible rfl)
                         try simp only [o34_2, Act.put, List.setIfInBounds_toArray, List.set_cons_zero, List.set_cons_succ]
                         refine wpAnyL_take (i := 5) (oi := o34_5) (v := ?_) rfl (by kernel_rfl) (fun _ _ _ h => h) (Or.inl ⟨by rfl, ?_⟩) (by assumption) ?_
                         rotate_left
                         · ((intro w hSw; delta o34_5; (try dsimp only at hSw); go_simp) <;> with_reducible rfl)
                         try simp only [o34_5, Act.put, List.setIfInBounds_toArray, List.set_cons_zero, List.set_cons_succ]
                         refine wpAnyL_take (i := 6) (oi := o34_6) (v := ?_) rfl (by kernel_rfl) (fun _ _ _ h => h) (Or.inl ⟨by rfl, ?_⟩) (by assumption) ?_
                         rotate_left
                         · ((intro w hSw; delta o34_6; (try dsimp only at hSw); go_simp) <;> with_reducible rfl)
                         try simp only [o34_6, Act.put, List.setIfInBounds_toArray, List.set_cons_zero, List.set_cons_succ]
                         refine wpAnyL_take (i := 7) (oi := o34_7) (v := ?_) rfl (by kernel_rfl) (fun _ _ _ h => h) (Or.inl ⟨by rfl, ?_⟩) (by assumption) ?_
                         rotate_left
                         · ((intro w hSw; delta o34_7; (try dsimp only at hSw); go_simp) <;> with_reducible rfl)
                         try simp only [o34_7, Act.put, List.setIfInBounds_toArray, List.set_cons_zero, List.set_cons_succ]
                         refine wpAnyL_ready (rs := [3, 8]) (by kernel_rfl) (by simp) ?_
                         refine AllReadyL.cons (o := o34_3) rfl (fun K hK => ?gs41) ?gr41
                         case' gs41 =>
                          delta o34_3
                          go_simp
                          refine hK.out _ _ ?_ (fun hHeld => ?_)
                          · (try dsimp only); (first | (refine HSx.out _ _ _ (HB.out.below ?_); ((repeat (first | exact Below.refl _ _ | assumption | refine Below.drew ?_ | refine Below.drewN' ?_ _ | (refine Below.alloc ?_ (by simp <;> omega) _) | (refine Below.setCell ?_ (by simp <;> omega) _))); done)) | (refine HSx.out _ _ _ (HR1.out.below ?_); ((repeat (first | exact Below.refl _ _ | assumption | refine Below.drew ?_ | refine Below.drewN' ?_ _ | (refine Below.alloc ?_ (by simp <;> omega) _) | (refine Below.setCell ?_ (by simp <;> omega) _))); done)) | exact HSx.out _ _ _ HF.out)
                          clear hK K
                          try simp only [o34_3, Act.put, List.setIfInBounds_toArray, List.set_cons_zero, List.set_cons_succ]
                          refine wpAnyL_ready (rs := [4, 8]) (by kernel_rfl) (by simp) ?_
                          refine AllReadyL.cons (o := o34_4) rfl (fun K hK => ?gs42) ?gr42
                          case' gs42 =>
                           delta o34_4
                           ((refine step_append_lies _ (by rfl) (.tmp 285) (.tmp 287) _ (by rfl) w13.heap.size 34 i1 _ 2 16 Tryz.underlying22 hi1 hy0 hy1 hy2 rfl (by omega) (.slice A1 q c1) q (spanCells ((ptL g c q) 0)) (by rfl) (own_below HO1.out (by exact (by repeat (first | exact Below.refl _ _ | assumption | refine Below.drew ?_ | refine Below.drewN' ?_ _ | (refine Below.alloc ?_ (by simp <;> omega) _) | (refine Below.setCell ?_ (by simp <;> omega) _)))) (Nat.le_refl _)) ⟨wA.heap.size, 0, none⟩ 1 1 [.int .i64 lo, .int .i64 lo] (by rfl) (by rfl) (World.news_of_block (cs := #[.int .i64 lo, .int .i64 lo]) (t := 34) (fr := (0, 0)) (by exact heap_alloc_new _ _)) (by simp [Value.oneCell']) (by omega) (by unfold maxLen; omega) (by omega) (by first | omega | (simp <;> omega)) _ rfl ?_; intro g1 c3 v1 hown1 hgrow hat hltg; have HR1 := Lib.hid (two_first HB.out (by omega) HE1.out (by exact (by repeat (first | exact Below.refl _ _ | assumption | refine Below.drew ?_ | refine Below.drewN' ?_ _ | (refine Below.alloc ?_ (by simp <;> omega) _) | (refine Below.setCell ?_ (by simp <;> omega) _)))) HL1.out.symm hown1 hgrow (hat.imp (fun e => e) (fun e => congrArg some e))); have HO3 : Hid (v1.ownsRow w13.heap.size 34 2 (.slice A2 q c2) q (spanCells ((ptL g c q) 1))) := (by have h := HR1.out.r.own 1 (by omega); rw [upd_ne _ _ (by decide), upd_ne _ _ (by decide), HE2.out, HL2.out] at h; exact h); have h13v : w13.heap.size ≤ v1.heap.size := HR1.out.r.bel.size;  clear hown1 hgrow hat hltg))
                           refine hK.out _ _ ?_ (fun hHeld => ?_)
                           · (try dsimp only); (first | (refine HSx.out _ _ _ (HB.out.below ?_); ((repeat (first | exact Below.refl _ _ | assumption | refine Below.drew ?_ | refine Below.drewN' ?_ _ | (refine Below.alloc ?_ (by simp <;> omega) _) | (refine Below.setCell ?_ (by simp <;> omega) _))); done)) | (refine HSx.out _ _ _ (HR1.out.below ?_); ((repeat (first | exact Below.refl _ _ | assumption | refine Below.drew ?_ | refine Below.drewN' ?_ _ | (refine Below.alloc ?_ (by simp <;> omega) _) | (refine Below.setCell ?_ (by simp <;> omega) _))); done)) | exact HSx.out _ _ _ HF.out)
                           clear hK K
                           try simp only [o34_4, Act.put, List.setIfInBounds_toArray, List.set_cons_zero, List.set_cons_succ]
                           refine wpAnyL_take (i := 10) (oi := o34_10) (v := ?_) rfl (by kernel_rfl) (fun _ _ _ h => h) (Or.inl ⟨by rfl, ?_⟩) (by assumption) ?_
                           rotate_left
                           · ((intro w hSw; delta o34_10; (try dsimp only at hSw); go_simp) <;> with_reducible rfl)
                           try simp only [o34_10, Act.put, List.setIfInBounds_toArray, List.set_cons_zero, List.set_cons_succ]
                           refine wpAnyL_ready (rs := [8]) (by kernel_rfl) (by simp) ?_
                           refine AllReadyL.cons (o := o34_8) rfl (fun K hK => ?_) AllReadyL.nil
                           delta o34_8
                           go_simp
                           refine hK.out _ _ ?_ (fun hHeld => ?_)
                           · (try dsimp only); (first | (refine HSx.out _ _ _ (HB.out.below ?_); ((repeat (first | exact Below.refl _ _ | assumption | refine Below.drew ?_ | refine Below.drewN' ?_ _ | (refine Below.alloc ?_ (by simp <;> omega) _) | (refine Below.setCell ?_ (by simp <;> omega) _))); done)) | (refine HSx.out _ _ _ (HR1.out.below ?_); ((repeat (first | exact Below.refl _ _ | assumption | refine Below.drew ?_ | refine Below.drewN' ?_ _ | (refine Below.alloc ?_ (by simp <;> omega) _) | (refine Below.setCell ?_ (by simp <;> omega) _))); done)) | exact HSx.out _ _ _ HF.out)
                           clear hK K
                           try simp only [o34_8, Act.put, List.setIfInBounds_toArray, List.set_cons_zero, List.set_cons_succ]
                           refine wpAnyL_ready (rs := [9]) (by kernel_rfl) (by simp) ?_
                           refine AllReadyL.cons (o := o34_9) rfl (fun K hK => ?_) AllReadyL.nil
                           delta o34_9
                           ((refine step_append_lies _ (by rfl) (.tmp 290) (.tmp 292) _ (by rfl) w13.heap.size 34 i1 _ 2 16 Tryz.underlying22 hi1 hy0 hy1 hy2 rfl (by omega) (.slice A2 q c2) q (spanCells ((ptL g c q) 1)) (by rfl) (own_below HO3.out (by exact (by repeat (first | exact Below.refl _ _ | assumption | refine Below.drew ?_ | refine Below.drewN' ?_ _ | (refine Below.alloc ?_ (by simp <;> omega) _) | (refine Below.setCell ?_ (by simp <;> omega) _)))) (Nat.le_refl _)) ⟨v1.heap.size, 0, none⟩ 1 1 [.int .i64 hi, .int .i64 hi] (by rfl) (by rfl) (World.news_of_block (cs := #[.int .i64 hi, .int .i64 hi]) (t := 34) (fr := (0, 0)) (by exact heap_alloc_new _ _)) (by simp [Value.oneCell']) (by omega) (by unfold maxLen; omega) (by omega) (by first | omega | (simp <;> omega)) _ rfl ?_; intro g2 c4 v2 hown2 hgrow2 hat2 hltg2; have HF := Lib.hid (two_second HR1.out (by omega) (by decide) HE2.out (by exact (by repeat (first | exact Below.refl _ _ | assumption | refine Below.drew ?_ | refine Below.drewN' ?_ _ | (refine Below.alloc ?_ (by simp <;> omega) _) | (refine Below.setCell ?_ (by simp <;> omega) _)))) HL2.out.symm hown2 hgrow2 (hat2.imp (fun e => e) (fun e => congrArg some e))); have y0 := (HF.out.r.blk 0 (by omega)).cell 3; have y1 := (HF.out.r.blk 1 (by omega)).cell 3; have z0 := (HF.out.r.blk 0 (by omega)).frozen 3; have z1 := (HF.out.r.blk 1 (by omega)).frozen 3; simp only [List.getElem?_toArray, List.getElem?_cons_zero, List.getElem?_cons_succ] at y0 y1; clear hown2 hgrow2 hat2 hltg2))
                           refine hK.out _ _ ?_ (fun hHeld => ?_)
                           · (try dsimp only); (first | (refine HSx.out _ _ _ (HB.out.below ?_); ((repeat (first | exact Below.refl _ _ | assumption | refine Below.drew ?_ | refine Below.drewN' ?_ _ | (refine Below.alloc ?_ (by simp <;> omega) _) | (refine Below.setCell ?_ (by simp <;> omega) _))); done)) | (refine HSx.out _ _ _ (HR1.out.below ?_); ((repeat (first | exact Below.refl _ _ | assumption | refine Below.drew ?_ | refine Below.drewN' ?_ _ | (refine Below.alloc ?_ (by simp <;> omega) _) | (refine Below.setCell ?_ (by simp <;> omega) _))); done)) | exact HSx.out _ _ _ HF.out)
                           clear hK K
                           try simp only [o34_9, Act.put, List.setIfInBounds_toArray, List.set_cons_zero, List.set_cons_succ]
                          case' gr42 =>
                           refine AllReadyL.cons (o := o34_8) rfl (fun K hK => ?gs43) ?gr43
                           case' gs43 =>
                            delta o34_8
                            go_simp
                            refine hK.out _ _ ?_ (fun hHeld => ?_)
                            · (try dsimp only); (first | (refine HSx.out _ _ _ (HB.out.below ?_); ((repeat (first | exact Below.refl _ _ | assumption | refine Below.drew ?_ | refine Below.drewN' ?_ _ | (refine Below.alloc ?_ (by simp <;> omega) _) | (refine Below.setCell ?_ (by simp <;> omega) _))); done)) | (refine HSx.out _ _ _ (HR1.out.below ?_); ((repeat (first | exact Below.refl _ _ | assumption | refine Below.drew ?_ | refine Below.drewN' ?_ _ | (refine Below.alloc ?_ (by simp <;> omega) _) | (refine Below.setCell ?_ (by simp <;> omega) _))); done)) | exact HSx.out _ _ _ HF.out)
                            clear hK K
                            try simp only [o34_8, Act.put, List.setIfInBounds_toArray, List.set_cons_zero, List.set_cons_succ]
                            refine wpAnyL_ready (rs := [4]) (by kernel_rfl) (by simp) ?_
                            refine AllReadyL.cons (o := o34_4) rfl (fun K hK => ?_) AllReadyL.nil
                            delta o34_4
                            ((refine step_append_lies _ (by rfl) (.tmp 285) (.tmp 287) _ (by rfl) w13.heap.size 34 i1 _ 2 16 Tryz.underlying22 hi1 hy0 hy1 hy2 rfl (by omega) (.slice A1 q c1) q (spanCells ((ptL g c q) 0)) (by rfl) (own_below HO1.out (by exact (by repeat (first | exact Below.refl _ _ | assumption | refine Below.drew ?_ | refine Below.drewN' ?_ _ | (refine Below.alloc ?_ (by simp <;> omega) _) | (refine Below.setCell ?_ (by simp <;> omega) _)))) (Nat.le_refl _)) ⟨wA.heap.size, 0, none⟩ 1 1 [.int .i64 lo, .int .i64 lo] (by rfl) (by rfl) (World.news_of_block (cs := #[.int .i64 lo, .int .i64 lo]) (t := 34) (fr := (0, 0)) (by exact (heap_alloc_old _ _ (by simp)).trans (heap_alloc_new _ _))) (by simp [Value.oneCell']) (by omega) (by unfold maxLen; omega) (by omega) (by first | omega | (simp <;> omega)) _ rfl ?_; intro g1 c3 v1 hown1 hgrow hat hltg; have HR1 := Lib.hid (two_first HB.out (by omega) HE1.out (by exact (by repeat (first | exact Below.refl _ _ | assumption | refine Below.drew ?_ | refine Below.drewN' ?_ _ | (refine Below.alloc ?_ (by simp <;> omega) _) | (refine Below.setCell ?_ (by simp <;> omega) _)))) HL1.out.symm hown1 hgrow (hat.imp (fun e => e) (fun e => congrArg some e))); have HO3 : Hid (v1.ownsRow w13.heap.size 34 2 (.slice A2 q c2) q (spanCells ((ptL g c q) 1))) := (by have h := HR1.out.r.own 1 (by omega); rw [upd_ne _ _ (by decide), upd_ne _ _ (by decide), HE2.out, HL2.out] at h; exact h); have h13v : w13.heap.size ≤ v1.heap.size := HR1.out.r.bel.size; have HLit : Hid (Blk v1 (wA.heap.size + 1) 34 #[.int .i64 hi, .int .i64 hi]) := blk_grown4 (w := ((wA.drew.alloc (.cells #[.int .i64 lo, .int .i64 lo] 34)).alloc (.cells #[.int .i64 hi, .int .i64 hi] 34))) (by exact lit_at2 _ _ _) hgrow (fun e => by have := HLo.out _ e.symm; omega); clear hown1 hgrow hat hltg))
                            refine hK.out _ _ ?_ (fun hHeld => ?_)
                            · (try dsimp only); (first | (refine HSx.out _ _ _ (HB.out.below ?_); ((repeat (first | exact Below.refl _ _ | assumption | refine Below.drew ?_ | refine Below.drewN' ?_ _ | (refine Below.alloc ?_ (by simp <;> omega) _) | (refine Below.setCell ?_ (by simp <;> omega) _))); done)) | (refine HSx.out _ _ _ (HR1.out.below ?_); ((repeat (first | exact Below.refl _ _ | assumption | refine Below.drew ?_ | refine Below.drewN' ?_ _ | (refine Below.alloc ?_ (by simp <;> omega) _) | (refine Below.setCell ?_ (by simp <;> omega) _))); done)) | exact HSx.out _ _ _ HF.out)
                            clear hK K
                            try simp only [o34_4, Act.put, List.setIfInBounds_toArray, List.set_cons_zero, List.set_cons_succ]
                            refine wpAnyL_take (i := 10) (oi := o34_10) (v := ?_) rfl (by kernel_rfl) (fun _ _ _ h => h) (Or.inl ⟨by rfl, ?_⟩) (by assumption) ?_
                            rotate_left
                            · ((intro w hSw; delta o34_10; (try dsimp only at hSw); go_simp) <;> with_reducible rfl)
                            try simp only [o34_10, Act.put, List.setIfInBounds_toArray, List.set_cons_zero, List.set_cons_succ]
                            refine wpAnyL_ready (rs := [9]) (by kernel_rfl) (by simp) ?_
                            refine AllReadyL.cons (o := o34_9) rfl (fun K hK => ?_) AllReadyL.nil
                            delta o34_9
                            ((refine step_append_lies _ (by rfl) (.tmp 290) (.tmp 292) _ (by rfl) w13.heap.size 34 i1 _ 2 16 Tryz.underlying22 hi1 hy0 hy1 hy2 rfl (by omega) (.slice A2 q c2) q (spanCells ((ptL g c q) 1)) (by rfl) (own_below HO3.out (by exact (by repeat (first | exact Below.refl _ _ | assumption | refine Below.drew ?_ | refine Below.drewN' ?_ _ | (refine Below.alloc ?_ (by simp <;> omega) _) | (refine Below.setCell ?_ (by simp <;> omega) _)))) (Nat.le_refl _)) ⟨(wA.heap.size + 1), 0, none⟩ 1 1 [.int .i64 hi, .int .i64 hi] (by rfl) (by rfl) (World.news_of_block (cs := #[.int .i64 hi, .int .i64 hi]) (t := 34) (fr := (0, 0)) (by exact HLit.out)) (by simp [Value.oneCell']) (by omega) (by unfold maxLen; omega) (by omega) (by first | omega | (simp <;> omega)) _ rfl ?_; intro g2 c4 v2 hown2 hgrow2 hat2 hltg2; have HF := Lib.hid (two_second HR1.out (by omega) (by decide) HE2.out (by exact (by repeat (first | exact Below.refl _ _ | assumption | refine Below.drew ?_ | refine Below.drewN' ?_ _ | (refine Below.alloc ?_ (by simp <;> omega) _) | (refine Below.setCell ?_ (by simp <;> omega) _)))) HL2.out.symm hown2 hgrow2 (hat2.imp (fun e => e) (fun e => congrArg some e))); have y0 := (HF.out.r.blk 0 (by omega)).cell 3; have y1 := (HF.out.r.blk 1 (by omega)).cell 3; have z0 := (HF.out.r.blk 0 (by omega)).frozen 3; have z1 := (HF.out.r.blk 1 (by omega)).frozen 3; simp only [List.getElem?_toArray, List.getElem?_cons_zero, List.getElem?_cons_succ] at y0 y1; clear hown2 hgrow2 hat2 hltg2))
                            refine hK.out _ _ ?_ (fun hHeld => ?_)
                            · (try dsimp only); (first | (refine HSx.out _ _ _ (HB.out.below ?_); ((repeat (first | exact Below.refl _ _ | assumption | refine Below.drew ?_ | refine Below.drewN' ?_ _ | (refine Below.alloc ?_ (by simp <;> omega) _) | (refine Below.setCell ?_ (by simp <;> omega) _))); done)) | (refine HSx.out _ _ _ (HR1.out.below ?_); ((repeat (first | exact Below.refl _ _ | assumption | refine Below.drew ?_ | refine Below.drewN' ?_ _ | (refine Below.alloc ?_ (by simp <;> omega) _) | (refine Below.setCell ?_ (by simp <;> omega) _))); done)) | exact HSx.out _ _ _ HF.out)
                            clear hK K
                            try simp only [o34_9, Act.put, List.setIfInBounds_toArray, List.set_cons_zero, List.set_cons_succ]
                           case' gr43 =>
                            exact AllReadyL.nil
                         case' gr41 =>
                          refine AllReadyL.cons (o := o34_8) rfl (fun K hK => ?gs44) ?gr44
                          case' gs44 =>
                           delta o34_8
                           go_simp
                           refine hK.out _ _ ?_ (fun hHeld => ?_)
                           · (try dsimp only); (first | (refine HSx.out _ _ _ (HB.out.below ?_); ((repeat (first | exact Below.refl _ _ | assumption | refine Below.drew ?_ | refine Below.drewN' ?_ _ | (refine Below.alloc ?_ (by simp <;> omega) _) | (refine Below.setCell ?_ (by simp <;> omega) _))); done)) | (refine HSx.out _ _ _ (HR1.out.below ?_); ((repeat (first | exact Below.refl _ _ | assumption | refine Below.drew ?_ | refine Below.drewN' ?_ _ | (refine Below.alloc ?_ (by simp <;> omega) _) | (refine Below.setCell ?_ (by simp <;> omega) _))); done)) | exact HSx.out _ _ _ HF.out)
                           clear hK K
                           try simp only [o34_8, Act.put, List.setIfInBounds_toArray, List.set_cons_zero, List.set_cons_succ]
                           refine wpAnyL_ready (rs := [3]) (by kernel_rfl) (by simp) ?_
                           refine AllReadyL.cons (o := o34_3) rfl (fun K hK => ?_) AllReadyL.nil
                           delta o34_3
                           go_simp
                           refine hK.out _ _ ?_ (fun hHeld => ?_)
                           · (try dsimp only); (first | (refine HSx.out _ _ _ (HB.out.below ?_); ((repeat (first | exact Below.refl _ _ | assumption | refine Below.drew ?_ | refine Below.drewN' ?_ _ | (refine Below.alloc ?_ (by simp <;> omega) _) | (refine Below.setCell ?_ (by simp <;> omega) _))); done)) | (refine HSx.out _ _ _ (HR1.out.below ?_); ((repeat (first | exact Below.refl _ _ | assumption | refine Below.drew ?_ | refine Below.drewN' ?_ _ | (refine Below.alloc ?_ (by simp <;> omega) _) | (refine Below.setCell ?_ (by simp <;> omega) _))); done)) | exact HSx.out _ _ _ HF.out)
                           clear hK K
                           try simp only [o34_3, Act.put, List.setIfInBounds_toArray, List.set_cons_zero, List.set_cons_succ]
                           refine wpAnyL_ready (rs := [4]) (by kernel_rfl) (by simp) ?_
                           refine AllReadyL.cons (o := o34_4) rfl (fun K hK => ?_) AllReadyL.nil
                           delta o34_4
                           ((refine step_append_lies _ (by rfl) (.tmp 285) (.tmp 287) _ (by rfl) w13.heap.size 34 i1 _ 2 16 Tryz.underlying22 hi1 hy0 hy1 hy2 rfl (by omega) (.slice A1 q c1) q (spanCells ((ptL g c q) 0)) (by rfl) (own_below HO1.out (by exact (by repeat (first | exact Below.refl _ _ | assumption | refine Below.drew ?_ | refine Below.drewN' ?_ _ | (refine Below.alloc ?_ (by simp <;> omega) _) | (refine Below.setCell ?_ (by simp <;> omega) _)))) (Nat.le_refl _)) ⟨(wA.heap.size + 1), 0, none⟩ 1 1 [.int .i64 lo, .int .i64 lo] (by rfl) (by rfl) (World.news_of_block (cs := #[.int .i64 lo, .int .i64 lo]) (t := 34) (fr := (0, 0)) (by exact lit_at2 _ _ _)) (by simp [Value.oneCell']) (by omega) (by unfold maxLen; omega) (by omega) (by first | omega | (simp <;> omega)) _ rfl ?_; intro g1 c3 v1 hown1 hgrow hat hltg; have HR1 := Lib.hid (two_first HB.out (by omega) HE1.out (by exact (by repeat (first | exact Below.refl _ _ | assumption | refine Below.drew ?_ | refine Below.drewN' ?_ _ | (refine Below.alloc ?_ (by simp <;> omega) _) | (refine Below.setCell ?_ (by simp <;> omega) _)))) HL1.out.symm hown1 hgrow (hat.imp (fun e => e) (fun e => congrArg some e))); have HO3 : Hid (v1.ownsRow w13.heap.size 34 2 (.slice A2 q c2) q (spanCells ((ptL g c q) 1))) := (by have h := HR1.out.r.own 1 (by omega); rw [upd_ne _ _ (by decide), upd_ne _ _ (by decide), HE2.out, HL2.out] at h; exact h); have h13v : w13.heap.size ≤ v1.heap.size := HR1.out.r.bel.size; have HLit : Hid (Blk v1 wA.heap.size 34 #[.int .i64 hi, .int .i64 hi]) := blk_grown4 (w := ((wA.drew.alloc (.cells #[.int .i64 hi, .int .i64 hi] 34)).alloc (.cells #[.int .i64 lo, .int .i64 lo] 34))) (by exact (heap_alloc_old _ _ (by simp)).trans (heap_alloc_new _ _)) hgrow (fun e => by have := HLo.out _ e.symm; omega); clear hown1 hgrow hat hltg))
                           refine hK.out _ _ ?_ (fun hHeld => ?_)
                           · (try dsimp only); (first | (refine HSx.out _ _ _ (HB.out.below ?_); ((repeat (first | exact Below.refl _ _ | assumption | refine Below.drew ?_ | refine Below.drewN' ?_ _ | (refine Below.alloc ?_ (by simp <;> omega) _) | (refine Below.setCell ?_ (by simp <;> omega) _))); done)) | (refine HSx.out _ _ _ (HR1.out.below ?_); ((repeat (first | exact Below.refl _ _ | assumption | refine Below.drew ?_ | refine Below.drewN' ?_ _ | (refine Below.alloc ?_ (by simp <;> omega) _) | (refine Below.setCell ?_ (by simp <;> omega) _))); done)) | exact HSx.out _ _ _ HF.out)
                           clear hK K
                           try simp only [o34_4, Act.put, List.setIfInBounds_toArray, List.set_cons_zero, List.set_cons_succ]
                           refine wpAnyL_take (i := 10) (oi := o34_10) (v := ?_) rfl (by kernel_rfl) (fun _ _ _ h => h) (Or.inl ⟨by rfl, ?_⟩) (by assumption) ?_
                           rotate_left
                           · ((intro w hSw; delta o34_10; (try dsimp only at hSw); go_simp) <;> with_reducible rfl)
                           try simp only [o34_10, Act.put, List.setIfInBounds_toArray, List.set_cons_zero, List.set_cons_succ]
                           refine wpAnyL_ready (rs := [9]) (by kernel_rfl) (by simp) ?_
                           refine AllReadyL.cons (o := o34_9) rfl (fun K hK => ?_) AllReadyL.nil
                           delta o34_9
                           ((refine step_append_lies _ (by rfl) (.tmp 290) (.tmp 292) _ (by rfl) w13.heap.size 34 i1 _ 2 16 Tryz.underlying22 hi1 hy0 hy1 hy2 rfl (by omega) (.slice A2 q c2) q (spanCells ((ptL g c q) 1)) (by rfl) (own_below HO3.out (by exact (by repeat (first | exact Below.refl _ _ | assumption | refine Below.drew ?_ | refine Below.drewN' ?_ _ | (refine Below.alloc ?_ (by simp <;> omega) _) | (refine Below.setCell ?_ (by simp <;> omega) _)))) (Nat.le_refl _)) ⟨wA.heap.size, 0, none⟩ 1 1 [.int .i64 hi, .int .i64 hi] (by rfl) (by rfl) (World.news_of_block (cs := #[.int .i64 hi, .int .i64 hi]) (t := 34) (fr := (0, 0)) (by exact HLit.out)) (by simp [Value.oneCell']) (by omega) (by unfold maxLen; omega) (by omega) (by first | omega | (simp <;> omega)) _ rfl ?_; intro g2 c4 v2 hown2 hgrow2 hat2 hltg2; have HF := Lib.hid (two_second HR1.out (by omega) (by decide) HE2.out (by exact (by repeat (first | exact Below.refl _ _ | assumption | refine Below.drew ?_ | refine Below.drewN' ?_ _ | (refine Below.alloc ?_ (by simp <;> omega) _) | (refine Below.setCell ?_ (by simp <;> omega) _)))) HL2.out.symm hown2 hgrow2 (hat2.imp (fun e => e) (fun e => congrArg some e))); have y0 := (HF.out.r.blk 0 (by omega)).cell 3; have y1 := (HF.out.r.blk 1 (by omega)).cell 3; have z0 := (HF.out.r.blk 0 (by omega)).frozen 3; have z1 := (HF.out.r.blk 1 (by omega)).frozen 3; simp only [List.getElem?_toArray, List.getElem?_cons_zero, List.getElem?_cons_succ] at y0 y1; clear hown2 hgrow2 hat2 hltg2))
                           refine hK.out _ _ ?_ (fun hHeld => ?_)
                           · (try dsimp only); (first | (refine HSx.out _ _ _ (HB.out.below ?_); ((repeat (first | exact Below.refl _ _ | assumption | refine Below.drew ?_ | refine Below.drewN' ?_ _ | (refine Below.alloc ?_ (by simp <;> omega) _) | (refine Below.setCell ?_ (by simp <;> omega) _))); done)) | (refine HSx.out _ _ _ (HR1.out.below ?_); ((repeat (first | exact Below.refl _ _ | assumption | refine Below.drew ?_ | refine Below.drewN' ?_ _ | (refine Below.alloc ?_ (by simp <;> omega) _) | (refine Below.setCell ?_ (by simp <;> omega) _))); done)) | exact HSx.out _ _ _ HF.out)
                           clear hK K
                           try simp only [o34_9, Act.put, List.setIfInBounds_toArray, List.set_cons_zero, List.set_cons_succ]
                          case' gr44 =>
                           exact AllReadyL.nil
                         all_goals
                          as_aux_lemma =>
                           refine wpAnyL_ready (rs := [11]) (by kernel_rfl) (by simp) ?_
                           refine AllReadyL.gate (o := o34_11) rfl (by kernel_rfl) (fun K hK => ?_) AllReadyL.nil
                           delta o34_11
                           go_simp
                           refine hK.out _ _ ?_
                           clear hK K
                           try simp only [o34_11, Act.put, List.setIfInBounds_toArray, List.set_cons_zero, List.set_cons_succ]
                           refine wpAnyL_ready (rs := [12]) (by kernel_rfl) (by simp) ?_
                           refine AllReadyL.gate (o := o34_12) rfl (by kernel_rfl) (fun K hK => ?_) AllReadyL.nil
                           delta o34_12
                           go_simp
                           refine hK.out _ _ ?_
                           clear hK K
                           try simp only [o34_12, Act.put, List.setIfInBounds_toArray, List.set_cons_zero, List.set_cons_succ]
                           refine wpAnyL_ready (rs := [13]) (by kernel_rfl) (by simp) ?_
                           refine AllReadyL.gate (o := o34_13) rfl (by kernel_rfl) (fun K hK => ?_) AllReadyL.nil
                           delta o34_13
                           go_simp
                           refine hK.out _ _ ?_
                           clear hK K
                           try simp only [o34_13, Act.put, List.setIfInBounds_toArray, List.set_cons_zero, List.set_cons_succ]
                           refine wpAnyL_done (by kernel_rfl) ?_ _
                           refine NoPanic.normal ?_
                           go_wp2_with fail
                           go_meet
                           exact twoSt_mk HF.out (by omega) (by omega) (by decide)
                      case rest =>
                        obtain ⟨v4, hB4⟩ := hcut
                        have HB4 := Lib.hid hB4
                        clear hB4 HSx HO1 HO2 HLo HE1 HE2 HL1 HL2 HB h13 nij nji
                        clear wA
                        obtain ⟨w34, rfl⟩ : ∃ w34, w34 = wc := ⟨_, rfl⟩
                        have x0 := HB4.out.k1.cell 0
                        have x1 := HB4.out.k1.cell 1
                        have x2 := HB4.out.k2.cell 0
                        have x3 := HB4.out.k2.cell 1
                        simp only [List.getElem?_toArray, List.getElem?_cons_zero, List.getElem?_cons_succ] at x0 x1 x2 x3
                        have z0 := HB4.out.k1.frozen 0
                        have z1 := HB4.out.k1.frozen 1
                        have z2 := HB4.out.k2.frozen 0
                        have z3 := HB4.out.k2.frozen 1
                        have n12' : ¬ s1 = s2 := HB4.out.ne
                        have n21' : ¬ s2 = s1 := fun e => n12' e.symm
                        go_upto_if 298 with (fail)
                        go_cut [] from 296 to 301 (fun wx => SwSt w13 g b v4 (upd (upd (ptL g c q) 0 (ptL g c q 0 ++ [(lo, lo)])) 1 (ptL g c q 1 ++ [(hi, hi)])) s1 s2 q c lo hi wx)
                        case first =>
                          by_cases hqc : q = c
                          · have hqi : ((q : Int) == (c : Int)) = true := by rw [hqc]; simp
                            have hqi' : (q : Int) = (c : Int) := by omega
                            go_wp2
                            go_meet
                            exact ⟨hi, lo, HB4.out.swap HG1.out.1 HG1.out.2, .inl ⟨hqc, rfl, rfl⟩⟩
                          · have hqi' : ¬ (q : Int) = (c : Int) := by omega
                            have hqi : ((q : Int) == (c : Int)) = false := by rw [beq_eq_false_iff_ne]; exact hqi'
                            go_wp2
                            go_meet
                            exact ⟨lo, hi, HB4.out, .inr ⟨hqc, rfl, rfl⟩⟩
                        case rest =>
                          as_aux_lemma =>
                          obtain ⟨x, y, hB5, hxy⟩ := hcut
                          have HB := Lib.hid hB5
                          have HXY := Lib.hid hxy
                          clear hB5 hxy HB4 x0 x1 x2 x3 z0 z1 z2 z3 n12' n21'
                          obtain ⟨wA, rfl⟩ : ∃ wA, wA = wc := ⟨_, rfl⟩
                          obtain ⟨A1, c1, e1⟩ := own_open (HB.out.r.own 3 (by omega))
                          obtain ⟨A2, c2, e2⟩ := own_open (HB.out.r.own 2 (by omega))
                          have HL1 : Hid (((upd (upd (ptL g c q) 0 (ptL g c q 0 ++ [(lo, lo)])) 1 (ptL g c q 1 ++ [(hi, hi)])) 3).length = q) := by rw [Hid]; simp [upd, ptL_len]
                          have HL2 : Hid (((upd (upd (ptL g c q) 0 (ptL g c q 0 ++ [(lo, lo)])) 1 (ptL g c q 1 ++ [(hi, hi)])) 2).length = q) := by rw [Hid]; simp [upd, ptL_len]
                          rw [HL1.out] at e1
                          rw [HL2.out] at e2
                          have HO1 : Hid (wA.ownsRow w13.heap.size 34 2 (.slice A1 q c1) q (spanCells ((upd (upd (ptL g c q) 0 (ptL g c q 0 ++ [(lo, lo)])) 1 (ptL g c q 1 ++ [(hi, hi)])) 3))) := by
                            have h := HB.out.r.own 3 (by omega)
                            rw [e1, HL1.out] at h
                            exact h
                          have HO2 : Hid (wA.ownsRow w13.heap.size 34 2 (.slice A2 q c2) q (spanCells ((upd (upd (ptL g c q) 0 (ptL g c q 0 ++ [(lo, lo)])) 1 (ptL g c q 1 ++ [(hi, hi)])) 2))) := by
                            have h := HB.out.r.own 2 (by omega)
                            rw [e2, HL2.out] at h
                            exact h
                          have HLo : Hid (∀ k, (Value.slice A1 q c1).ownBlock = some k → k < wA.heap.size) := fun k e => (HO1.out.lt k e).2
                          have HE1 := Lib.hid e1
                          have HE2 := Lib.hid e2
                          have HSx : Hid (∀ v1 s1' W, RB w13 W g b v1 v4 s1' s1 s2 x y → W.cell? ⟨b 3, 3, none⟩ = some (.slice A1 q c1) ∧ W.cell? ⟨b 2, 3, none⟩ = some (.slice A2 q c2) ∧ W.cell? ⟨s1, 0, none⟩ = some (.int .i64 x) ∧ W.cell? ⟨s1, 1, none⟩ = some (.int .i64 x) ∧ W.cell? ⟨s2, 0, none⟩ = some (.int .i64 y) ∧ W.cell? ⟨s2, 1, none⟩ = some (.int .i64 y)) := fun v1 s1' W h => by
                            have k1 := (h.r.blk 3 (by omega)).cell 3
                            have k2 := (h.r.blk 2 (by omega)).cell 3
                            rw [HE1.out] at k1
                            rw [HE2.out] at k2
                            exact ⟨k1, k2, h.k1.cell 0, h.k1.cell 1, h.k2.cell 0, h.k2.cell 1⟩
                          have h13 : w13.heap.size ≤ wA.heap.size := HB.out.r.bel.size
                          have nij : ¬ b 3 = b 2 := HB.out.r.inj 3 2 (by omega) (by omega) (by omega)
                          have nji : ¬ b 2 = b 3 := fun e => nij e.symm
                          clear e1 e2
                          go_upto_region 37 with (fail)
                          obtain ⟨t0, t1, t2, t3, t4, t5⟩ := HSx.out _ _ _ HB.out
                          as_aux_lemma =>
                           refine wp_region_noPanic ?_
                           refine wp_region_L (S := (fun w' => w'.cell? ⟨b 3, 3, none⟩ = some (.slice A1 q c1) ∧ w'.cell? ⟨b 2, 3, none⟩ = some (.slice A2 q c2) ∧ w'.cell? ⟨s1, 0, none⟩ = some (.int .i64 x) ∧ w'.cell? ⟨s1, 1, none⟩ = some (.int .i64 x) ∧ w'.cell? ⟨s2, 0, none⟩ = some (.int .i64 y) ∧ w'.cell? ⟨s2, 1, none⟩ = some (.int .i64 y))) (ks := [11, 12, 13]) (by kernel_rfl) ?_ (fun hHeld => ?_)
                           · (try dsimp only); (first | (refine HSx.out _ _ _ (HB.out.below ?_); ((repeat (first | exact Below.refl _ _ | assumption | refine Below.drew ?_ | refine Below.drewN' ?_ _ | (refine Below.alloc ?_ (by simp <;> omega) _) | (refine Below.setCell ?_ (by simp <;> omega) _))); done)) | (refine HSx.out _ _ _ (HR1.out.below ?_); ((repeat (first | exact Below.refl _ _ | assumption | refine Below.drew ?_ | refine Below.drewN' ?_ _ | (refine Below.alloc ?_ (by simp <;> omega) _) | (refine Below.setCell ?_ (by simp <;> omega) _))); done)) | exact HSx.out _ _ _ HF.out)
                           refine wpAnyL_take (i := 0) (oi := o37_0) (v := ?_) rfl (by kernel_rfl) (fun _ _ _ h => h) (Or.inl ⟨by rfl, ?_⟩) (by assumption) ?_
                           rotate_left
                           · ((intro w hSw; delta o37_0; (try dsimp only at hSw); go_simp) <;> with_reducible rfl)
                           try simp only [o37_0, Act.put, List.setIfInBounds_toArray, List.set_cons_zero, List.set_cons_succ]
                           refine wpAnyL_take (i := 1) (oi := o37_1) (v := ?_) rfl (by kernel_rfl) (fun _ _ _ h => h) (Or.inl ⟨by rfl, ?_⟩) (by assumption) ?_
                           rotate_left
                           · ((intro w hSw; delta o37_1; (try dsimp only at hSw); go_simp) <;> with_reducible rfl)
                           try simp only [o37_1, Act.put, List.setIfInBounds_toArray, List.set_cons_zero, List.set_cons_succ]
                           refine wpAnyL_take (i := 2) (oi := o37_2) (v := ?_) rfl (by kernel_rfl) (fun _ _ _ h => h) (Or.inl ⟨by rfl, ?_⟩) (by assumption) ?_
                           rotate_left
                           · ((intro w hSw; delta o37_2; (try dsimp only at hSw); go_simp) <;> with_reducible rfl)
                           try simp only [o37_2, Act.put, List.setIfInBounds_toArray, List.set_cons_zero, List.set_cons_succ]
                           refine wpAnyL_take (i := 5) (oi := o37_5) (v := ?_) rfl (by kernel_rfl) (fun _ _ _ h => h) (Or.inl ⟨by rfl, ?_⟩) (by assumption) ?_
                           rotate_left
                           · ((intro w hSw; delta o37_5; (try dsimp only at hSw); go_simp) <;> with_reducible rfl)
                           try simp only [o37_5, Act.put, List.setIfInBounds_toArray, List.set_cons_zero, List.set_cons_succ]
                           refine wpAnyL_take (i := 6) (oi := o37_6) (v := ?_) rfl (by kernel_rfl) (fun _ _ _ h => h) (Or.inl ⟨by rfl, ?_⟩) (by assumption) ?_
                           rotate_left
                           · ((intro w hSw; delta o37_6; (try dsimp only at hSw); go_simp) <;> with_reducible rfl)
                           try simp only [o37_6, Act.put, List.setIfInBounds_toArray, List.set_cons_zero, List.set_cons_succ]
                           refine wpAnyL_take (i := 7) (oi := o37_7) (v := ?_) rfl (by kernel_rfl) (fun _ _ _ h => h) (Or.inl ⟨by rfl, ?_⟩) (by assumption) ?_
                           rotate_left
                           · ((intro w hSw; delta o37_7; (try dsimp only at hSw); go_simp) <;> with_reducible rfl)
                           try simp only [o37_7, Act.put, List.setIfInBounds_toArray, List.set_cons_zero, List.set_cons_succ]
                           refine wpAnyL_ready (rs := [3, 8]) (by kernel_rfl) (by simp) ?_
                           refine AllReadyL.cons (o := o37_3) rfl (fun K hK => ?gs45) ?gr45
                           case' gs45 =>
                            delta o37_3
                            go_simp
                            refine hK.out _ _ ?_ (fun hHeld => ?_)
                            · (try dsimp only); (first | (refine HSx.out _ _ _ (HB.out.below ?_); ((repeat (first | exact Below.refl _ _ | assumption | refine Below.drew ?_ | refine Below.drewN' ?_ _ | (refine Below.alloc ?_ (by simp <;> omega) _) | (refine Below.setCell ?_ (by simp <;> omega) _))); done)) | (refine HSx.out _ _ _ (HR1.out.below ?_); ((repeat (first | exact Below.refl _ _ | assumption | refine Below.drew ?_ | refine Below.drewN' ?_ _ | (refine Below.alloc ?_ (by simp <;> omega) _) | (refine Below.setCell ?_ (by simp <;> omega) _))); done)) | exact HSx.out _ _ _ HF.out)
                            clear hK K
                            try simp only [o37_3, Act.put, List.setIfInBounds_toArray, List.set_cons_zero, List.set_cons_succ]
                            refine wpAnyL_ready (rs := [4, 8]) (by kernel_rfl) (by simp) ?_
                            refine AllReadyL.cons (o := o37_4) rfl (fun K hK => ?gs46) ?gr46
                            case' gs46 =>
                             delta o37_4
                             ((refine step_append_lies _ (by rfl) (.tmp 302) (.tmp 304) _ (by rfl) w13.heap.size 34 i1 _ 2 16 Tryz.underlying22 hi1 hy0 hy1 hy2 rfl (by omega) (.slice A1 q c1) q (spanCells ((upd (upd (ptL g c q) 0 (ptL g c q 0 ++ [(lo, lo)])) 1 (ptL g c q 1 ++ [(hi, hi)])) 3)) (by rfl) (own_below HO1.out (by exact (by repeat (first | exact Below.refl _ _ | assumption | refine Below.drew ?_ | refine Below.drewN' ?_ _ | (refine Below.alloc ?_ (by simp <;> omega) _) | (refine Below.setCell ?_ (by simp <;> omega) _)))) (Nat.le_refl _)) ⟨wA.heap.size, 0, none⟩ 1 1 [.int .i64 x, .int .i64 x] (by rfl) (by rfl) (World.news_of_block (cs := #[.int .i64 x, .int .i64 x]) (t := 34) (fr := (0, 0)) (by exact heap_alloc_new _ _)) (by simp [Value.oneCell']) (by omega) (by unfold maxLen; omega) (by omega) (by first | omega | (simp <;> omega)) _ rfl ?_; intro g1 c3 v1 hown1 hgrow hat hltg; have HR1 := Lib.hid (two_first HB.out (by omega) HE1.out (by exact (by repeat (first | exact Below.refl _ _ | assumption | refine Below.drew ?_ | refine Below.drewN' ?_ _ | (refine Below.alloc ?_ (by simp <;> omega) _) | (refine Below.setCell ?_ (by simp <;> omega) _)))) HL1.out.symm hown1 hgrow (hat.imp (fun e => e) (fun e => congrArg some e))); have HO3 : Hid (v1.ownsRow w13.heap.size 34 2 (.slice A2 q c2) q (spanCells ((upd (upd (ptL g c q) 0 (ptL g c q 0 ++ [(lo, lo)])) 1 (ptL g c q 1 ++ [(hi, hi)])) 2))) := (by have h := HR1.out.r.own 2 (by omega); rw [upd_ne _ _ (by decide), upd_ne _ _ (by decide), HE2.out, HL2.out] at h; exact h); have h13v : w13.heap.size ≤ v1.heap.size := HR1.out.r.bel.size;  clear hown1 hgrow hat hltg))
                             refine hK.out _ _ ?_ (fun hHeld => ?_)
                             · (try dsimp only); (first | (refine HSx.out _ _ _ (HB.out.below ?_); ((repeat (first | exact Below.refl _ _ | assumption | refine Below.drew ?_ | refine Below.drewN' ?_ _ | (refine Below.alloc ?_ (by simp <;> omega) _) | (refine Below.setCell ?_ (by simp <;> omega) _))); done)) | (refine HSx.out _ _ _ (HR1.out.below ?_); ((repeat (first | exact Below.refl _ _ | assumption | refine Below.drew ?_ | refine Below.drewN' ?_ _ | (refine Below.alloc ?_ (by simp <;> omega) _) | (refine Below.setCell ?_ (by simp <;> omega) _))); done)) | exact HSx.out _ _ _ HF.out)
                             clear hK K
                             try simp only [o37_4, Act.put, List.setIfInBounds_toArray, List.set_cons_zero, List.set_cons_succ]
                             refine wpAnyL_take (i := 10) (oi := o37_10) (v := ?_) rfl (by kernel_rfl) (fun _ _ _ h => h) (Or.inl ⟨by rfl, ?_⟩) (by assumption) ?_
                             rotate_left
                             · ((intro w hSw; delta o37_10; (try dsimp only at hSw); go_simp) <;> with_reducible rfl)
                             try simp only [o37_10, Act.put, List.setIfInBounds_toArray, List.set_cons_zero, List.set_cons_succ]
                             refine wpAnyL_ready (rs := [8]) (by kernel_rfl) (by simp) ?_
                             refine AllReadyL.cons (o := o37_8) rfl (fun K hK => ?_) AllReadyL.nil
                             delta o37_8
                             go_simp
                             refine hK.out _ _ ?_ (fun hHeld => ?_)
                             · (try dsimp only); (first | (refine HSx.out _ _ _ (HB.out.below ?_); ((repeat (first | exact Below.refl _ _ | assumption | refine Below.drew ?_ | refine Below.drewN' ?_ _ | (refine Below.alloc ?_ (by simp <;> omega) _) | (refine Below.setCell ?_ (by simp <;> omega) _))); done)) | (refine HSx.out _ _ _ (HR1.out.below ?_); ((repeat (first | exact Below.refl _ _ | assumption | refine Below.drew ?_ | refine Below.drewN' ?_ _ | (refine Below.alloc ?_ (by simp <;> omega) _) | (refine Below.setCell ?_ (by simp <;> omega) _))); done)) | exact HSx.out _ _ _ HF.out)
                             clear hK K
                             try simp only [o37_8, Act.put, List.setIfInBounds_toArray, List.set_cons_zero, List.set_cons_succ]
                             refine wpAnyL_ready (rs := [9]) (by kernel_rfl) (by simp) ?_
                             refine AllReadyL.cons (o := o37_9) rfl (fun K hK => ?_) AllReadyL.nil
                             delta o37_9
                             ((refine step_append_lies _ (by rfl) (.tmp 307) (.tmp 309) _ (by rfl) w13.heap.size 34 i1 _ 2 16 Tryz.underlying22 hi1 hy0 hy1 hy2 rfl (by omega) (.slice A2 q c2) q (spanCells ((upd (upd (ptL g c q) 0 (ptL g c q 0 ++ [(lo, lo)])) 1 (ptL g c q 1 ++ [(hi, hi)])) 2)) (by rfl) (own_below HO3.out (by exact (by repeat (first | exact Below.refl _ _ | assumption | refine Below.drew ?_ | refine Below.drewN' ?_ _ | (refine Below.alloc ?_ (by simp <;> omega) _) | (refine Below.setCell ?_ (by simp <;> omega) _)))) (Nat.le_refl _)) ⟨v1.heap.size, 0, none⟩ 1 1 [.int .i64 y, .int .i64 y] (by rfl) (by rfl) (World.news_of_block (cs := #[.int .i64 y, .int .i64 y]) (t := 34) (fr := (0, 0)) (by exact heap_alloc_new _ _)) (by simp [Value.oneCell']) (by omega) (by unfold maxLen; omega) (by omega) (by first | omega | (simp <;> omega)) _ rfl ?_; intro g2 c4 v2 hown2 hgrow2 hat2 hltg2; have HF := Lib.hid (two_second HR1.out (by omega) (by decide) HE2.out (by exact (by repeat (first | exact Below.refl _ _ | assumption | refine Below.drew ?_ | refine Below.drewN' ?_ _ | (refine Below.alloc ?_ (by simp <;> omega) _) | (refine Below.setCell ?_ (by simp <;> omega) _)))) HL2.out.symm hown2 hgrow2 (hat2.imp (fun e => e) (fun e => congrArg some e))); have y0 := (HF.out.r.blk 3 (by omega)).cell 3; have y1 := (HF.out.r.blk 2 (by omega)).cell 3; have z0 := (HF.out.r.blk 3 (by omega)).frozen 3; have z1 := (HF.out.r.blk 2 (by omega)).frozen 3; simp only [List.getElem?_toArray, List.getElem?_cons_zero, List.getElem?_cons_succ] at y0 y1; clear hown2 hgrow2 hat2 hltg2))
                             refine hK.out _ _ ?_ (fun hHeld => ?_)
                             · (try dsimp only); (first | (refine HSx.out _ _ _ (HB.out.below ?_); ((repeat (first | exact Below.refl _ _ | assumption | refine Below.drew ?_ | refine Below.drewN' ?_ _ | (refine Below.alloc ?_ (by simp <;> omega) _) | (refine Below.setCell ?_ (by simp <;> omega) _))); done)) | (refine HSx.out _ _ _ (HR1.out.below ?_); ((repeat (first | exact Below.refl _ _ | assumption | refine Below.drew ?_ | refine Below.drewN' ?_ _ | (refine Below.alloc ?_ (by simp <;> omega) _) | (refine Below.setCell ?_ (by simp <;> omega) _))); done)) | exact HSx.out _ _ _ HF.out)
                             clear hK K
                             try simp only [o37_9, Act.put, List.setIfInBounds_toArray, List.set_cons_zero, List.set_cons_succ]
                            case' gr46 =>
                             refine AllReadyL.cons (o := o37_8) rfl (fun K hK => ?gs47) ?gr47
                             case' gs47 =>
                              delta o37_8
                              go_simp
                              refine hK.out _ _ ?_ (fun hHeld => ?_)
                              · (try dsimp only); (first | (refine HSx.out _ _ _ (HB.out.below ?_); ((repeat (first | exact Below.refl _ _ | assumption | refine Below.drew ?_ | refine Below.drewN' ?_ _ | (refine Below.alloc ?_ (by simp <;> omega) _) | (refine Below.setCell ?_ (by simp <;> omega) _))); done)) | (refine HSx.out _ _ _ (HR1.out.below ?_); ((repeat (first | exact Below.refl _ _ | assumption | refine Below.drew ?_ | refine Below.drewN' ?_ _ | (refine Below.alloc ?_ (by simp <;> omega) _) | (refine Below.setCell ?_ (by simp <;> omega) _))); done)) | exact HSx.out _ _ _ HF.out)
                              clear hK K
                              try simp only [o37_8, Act.put, List.setIfInBounds_toArray, List.set_cons_zero, List.set_cons_succ]
                              refine wpAnyL_ready (rs := [4]) (by kernel_rfl) (by simp) ?_
                              refine AllReadyL.cons (o := o37_4) rfl (fun K hK => ?_) AllReadyL.nil
                              delta o37_4
                              ((refine step_append_lies _ (by rfl) (.tmp 302) (.tmp 304) _ (by rfl) w13.heap.size 34 i1 _ 2 16 Tryz.underlying22 hi1 hy0 hy1 hy2 rfl (by omega) (.slice A1 q c1) q (spanCells ((upd (upd (ptL g c q) 0 (ptL g c q 0 ++ [(lo, lo)])) 1 (ptL g c q 1 ++ [(hi, hi)])) 3)) (by rfl) (own_below HO1.out (by exact (by repeat (first | exact Below.refl _ _ | assumption | refine Below.drew ?_ | refine Below.drewN' ?_ _ | (refine Below.alloc ?_ (by simp <;> omega) _) | (refine Below.setCell ?_ (by simp <;> omega) _)))) (Nat.le_refl _)) ⟨wA.heap.size, 0, none⟩ 1 1 [.int .i64 x, .int .i64 x] (by rfl) (by rfl) (World.news_of_block (cs := #[.int .i64 x, .int .i64 x]) (t := 34) (fr := (0, 0)) (by exact (heap_alloc_old _ _ (by simp)).trans (heap_alloc_new _ _))) (by simp [Value.oneCell']) (by omega) (by unfold maxLen; omega) (by omega) (by first | omega | (simp <;> omega)) _ rfl ?_; intro g1 c3 v1 hown1 hgrow hat hltg; have HR1 := Lib.hid (two_first HB.out (by omega) HE1.out (by exact (by repeat (first | exact Below.refl _ _ | assumption | refine Below.drew ?_ | refine Below.drewN' ?_ _ | (refine Below.alloc ?_ (by simp <;> omega) _) | (refine Below.setCell ?_ (by simp <;> omega) _)))) HL1.out.symm hown1 hgrow (hat.imp (fun e => e) (fun e => congrArg some e))); have HO3 : Hid (v1.ownsRow w13.heap.size 34 2 (.slice A2 q c2) q (spanCells ((upd (upd (ptL g c q) 0 (ptL g c q 0 ++ [(lo, lo)])) 1 (ptL g c q 1 ++ [(hi, hi)])) 2))) := (by have h := HR1.out.r.own 2 (by omega); rw [upd_ne _ _ (by decide), upd_ne _ _ (by decide), HE2.out, HL2.out] at h; exact h); have h13v : w13.heap.size ≤ v1.heap.size := HR1.out.r.bel.size; have HLit : Hid (Blk v1 (wA.heap.size + 1) 34 #[.int .i64 y, .int .i64 y]) := blk_grown4 (w := ((wA.drew.alloc (.cells #[.int .i64 x, .int .i64 x] 34)).alloc (.cells #[.int .i64 y, .int .i64 y] 34))) (by exact lit_at2 _ _ _) hgrow (fun e => by have := HLo.out _ e.symm; omega); clear hown1 hgrow hat hltg))
                              refine hK.out _ _ ?_ (fun hHeld => ?_)
                              · (try dsimp only); (first | (refine HSx.out _ _ _ (HB.out.below ?_); ((repeat (first | exact Below.refl _ _ | assumption | refine Below.drew ?_ | refine Below.drewN' ?_ _ | (refine Below.alloc ?_ (by simp <;> omega) _) | (refine Below.setCell ?_ (by simp <;> omega) _))); done)) | (refine HSx.out _ _ _ (HR1.out.below ?_); ((repeat (first | exact Below.refl _ _ | assumption | refine Below.drew ?_ | refine Below.drewN' ?_ _ | (refine Below.alloc ?_ (by simp <;> omega) _) | (refine Below.setCell ?_ (by simp <;> omega) _))); done)) | exact HSx.out _ _ _ HF.out)
                              clear hK K
                              try simp only [o37_4, Act.put, List.setIfInBounds_toArray, List.set_cons_zero, List.set_cons_succ]
                              refine wpAnyL_take (i := 10) (oi := o37_10) (v := ?_) rfl (by kernel_rfl) (fun _ _ _ h => h) (Or.inl ⟨by rfl, ?_⟩) (by assumption) ?_
                              rotate_left
                              · ((intro w hSw; delta o37_10; (try dsimp only at hSw); go_simp) <;> with_reducible rfl)
                              try simp only [o37_10, Act.put, List.setIfInBounds_toArray, List.set_cons_zero, List.set_cons_succ]
                              refine wpAnyL_ready (rs := [9]) (by kernel_rfl) (by simp) ?_
                              refine AllReadyL.cons (o := o37_9) rfl (fun K hK => ?_) AllReadyL.nil
                              delta o37_9
                              ((refine step_append_lies _ (by rfl) (.tmp 307) (.tmp 309) _ (by rfl) w13.heap.size 34 i1 _ 2 16 Tryz.underlying22 hi1 hy0 hy1 hy2 rfl (by omega) (.slice A2 q c2) q (spanCells ((upd (upd (ptL g c q) 0 (ptL g c q 0 ++ [(lo, lo)])) 1 (ptL g c q 1 ++ [(hi, hi)])) 2)) (by rfl) (own_below HO3.out (by exact (by repeat (first | exact Below.refl _ _ | assumption | refine Below.drew ?_ | refine Below.drewN' ?_ _ | (refine Below.alloc ?_ (by simp <;> omega) _) | (refine Below.setCell ?_ (by simp <;> omega) _)))) (Nat.le_refl _)) ⟨(wA.heap.size + 1), 0, none⟩ 1 1 [.int .i64 y, .int .i64 y] (by rfl) (by rfl) (World.news_of_block (cs := #[.int .i64 y, .int .i64 y]) (t := 34) (fr := (0, 0)) (by exact HLit.out)) (by simp [Value.oneCell']) (by omega) (by unfold maxLen; omega) (by omega) (by first | omega | (simp <;> omega)) _ rfl ?_; intro g2 c4 v2 hown2 hgrow2 hat2 hltg2; have HF := Lib.hid (two_second HR1.out (by omega) (by decide) HE2.out (by exact (by repeat (first | exact Below.refl _ _ | assumption | refine Below.drew ?_ | refine Below.drewN' ?_ _ | (refine Below.alloc ?_ (by simp <;> omega) _) | (refine Below.setCell ?_ (by simp <;> omega) _)))) HL2.out.symm hown2 hgrow2 (hat2.imp (fun e => e) (fun e => congrArg some e))); have y0 := (HF.out.r.blk 3 (by omega)).cell 3; have y1 := (HF.out.r.blk 2 (by omega)).cell 3; have z0 := (HF.out.r.blk 3 (by omega)).frozen 3; have z1 := (HF.out.r.blk 2 (by omega)).frozen 3; simp only [List.getElem?_toArray, List.getElem?_cons_zero, List.getElem?_cons_succ] at y0 y1; clear hown2 hgrow2 hat2 hltg2))
                              refine hK.out _ _ ?_ (fun hHeld => ?_)
                              · (try dsimp only); (first | (refine HSx.out _ _ _ (HB.out.below ?_); ((repeat (first | exact Below.refl _ _ | assumption | refine Below.drew ?_ | refine Below.drewN' ?_ _ | (refine Below.alloc ?_ (by simp <;> omega) _) | (refine Below.setCell ?_ (by simp <;> omega) _))); done)) | (refine HSx.out _ _ _ (HR1.out.below ?_); ((repeat (first | exact Below.refl _ _ | assumption | refine Below.drew ?_ | refine Below.drewN' ?_ _ | (refine Below.alloc ?_ (by simp <;> omega) _) | (refine Below.setCell ?_ (by simp <;> omega) _))); done)) | exact HSx.out _ _ _ HF.out)
                              clear hK K
                              try simp only [o37_9, Act.put, List.setIfInBounds_toArray, List.set_cons_zero, List.set_cons_succ]
                             case' gr47 =>
                              exact AllReadyL.nil
                           case' gr45 =>
                            refine AllReadyL.cons (o := o37_8) rfl (fun K hK => ?gs48) ?gr48
                            case' gs48 =>
                             delta o37_8
                             go_simp
                             refine hK.out _ _ ?_ (fun hHeld => ?_)
                             · (try dsimp only); (first | (refine HSx.out _ _ _ (HB.out.below ?_); ((repeat (first | exact Below.refl _ _ | assumption | refine Below.drew ?_ | refine Below.drewN' ?_ _ | (refine Below.alloc ?_ (by simp <;> omega) _) | (refine Below.setCell ?_ (by simp <;> omega) _))); done)) | (refine HSx.out _ _ _ (HR1.out.below ?_); ((repeat (first | exact Below.refl _ _ | assumption | refine Below.drew ?_ | refine Below.drewN' ?_ _ | (refine Below.alloc ?_ (by simp <;> omega) _) | (refine Below.setCell ?_ (by simp <;> omega) _))); done)) | exact HSx.out _ _ _ HF.out)
                             clear hK K
                             try simp only [o37_8, Act.put, List.setIfInBounds_toArray, List.set_cons_zero, List.set_cons_succ]
                             refine wpAnyL_ready (rs := [3]) (by kernel_rfl) (by simp) ?_
                             refine AllReadyL.cons (o := o37_3) rfl (fun K hK => ?_) AllReadyL.nil
                             delta o37_3
                             go_simp
                             refine hK.out _ _ ?_ (fun hHeld => ?_)
                             · (try dsimp only); (first | (refine HSx.out _ _ _ (HB.out.below ?_); ((repeat (first | exact Below.refl _ _ | assumption | refine Below.drew ?_ | refine Below.drewN' ?_ _ | (refine Below.alloc ?_ (by simp <;> omega) _) | (refine Below.setCell ?_ (by simp <;> omega) _))); done)) | (refine HSx.out _ _ _ (HR1.out.below ?_); ((repeat (first | exact Below.refl _ _ | assumption | refine Below.drew ?_ | refine Below.drewN' ?_ _ | (refine Below.alloc ?_ (by simp <;> omega) _) | (refine Below.setCell ?_ (by simp <;> omega) _))); done)) | exact HSx.out _ _ _ HF.out)
                             clear hK K
                             try simp only [o37_3, Act.put, List.setIfInBounds_toArray, List.set_cons_zero, List.set_cons_succ]
                             refine wpAnyL_ready (rs := [4]) (by kernel_rfl) (by simp) ?_
                             refine AllReadyL.cons (o := o37_4) rfl (fun K hK => ?_) AllReadyL.nil
                             delta o37_4
                             ((refine step_append_lies _ (by rfl) (.tmp 302) (.tmp 304) _ (by rfl) w13.heap.size 34 i1 _ 2 16 Tryz.underlying22 hi1 hy0 hy1 hy2 rfl (by omega) (.slice A1 q c1) q (spanCells ((upd (upd (ptL g c q) 0 (ptL g c q 0 ++ [(lo, lo)])) 1 (ptL g c q 1 ++ [(hi, hi)])) 3)) (by rfl) (own_below HO1.out (by exact (by repeat (first | exact Below.refl _ _ | assumption | refine Below.drew ?_ | refine Below.drewN' ?_ _ | (refine Below.alloc ?_ (by simp <;> omega) _) | (refine Below.setCell ?_ (by simp <;> omega) _)))) (Nat.le_refl _)) ⟨(wA.heap.size + 1), 0, none⟩ 1 1 [.int .i64 x, .int .i64 x] (by rfl) (by rfl) (World.news_of_block (cs := #[.int .i64 x, .int .i64 x]) (t := 34) (fr := (0, 0)) (by exact lit_at2 _ _ _)) (by simp [Value.oneCell']) (by omega) (by unfold maxLen; omega) (by omega) (by first | omega | (simp <;> omega)) _ rfl ?_; intro g1 c3 v1 hown1 hgrow hat hltg; have HR1 := Lib.hid (two_first HB.out (by omega) HE1.out (by exact (by repeat (first | exact Below.refl _ _ | assumption | refine Below.drew ?_ | refine Below.drewN' ?_ _ | (refine Below.alloc ?_ (by simp <;> omega) _) | (refine Below.setCell ?_ (by simp <;> omega) _)))) HL1.out.symm hown1 hgrow (hat.imp (fun e => e) (fun e => congrArg some e))); have HO3 : Hid (v1.ownsRow w13.heap.size 34 2 (.slice A2 q c2) q (spanCells ((upd (upd (ptL g c q) 0 (ptL g c q 0 ++ [(lo, lo)])) 1 (ptL g c q 1 ++ [(hi, hi)])) 2))) := (by have h := HR1.out.r.own 2 (by omega); rw [upd_ne _ _ (by decide), upd_ne _ _ (by decide), HE2.out, HL2.out] at h; exact h); have h13v : w13.heap.size ≤ v1.heap.size := HR1.out.r.bel.size; have HLit : Hid (Blk v1 wA.heap.size 34 #[.int .i64 y, .int .i64 y]) := blk_grown4 (w := ((wA.drew.alloc (.cells #[.int .i64 y, .int .i64 y] 34)).alloc (.cells #[.int .i64 x, .int .i64 x] 34))) (by exact (heap_alloc_old _ _ (by simp)).trans (heap_alloc_new _ _)) hgrow (fun e => by have := HLo.out _ e.symm; omega); clear hown1 hgrow hat hltg))
                             refine hK.out _ _ ?_ (fun hHeld => ?_)
                             · (try dsimp only); (first | (refine HSx.out _ _ _ (HB.out.below ?_); ((repeat (first | exact Below.refl _ _ | assumption | refine Below.drew ?_ | refine Below.drewN' ?_ _ | (refine Below.alloc ?_ (by simp <;> omega) _) | (refine Below.setCell ?_ (by simp <;> omega) _))); done)) | (refine HSx.out _ _ _ (HR1.out.below ?_); ((repeat (first | exact Below.refl _ _ | assumption | refine Below.drew ?_ | refine Below.drewN' ?_ _ | (refine Below.alloc ?_ (by simp <;> omega) _) | (refine Below.setCell ?_ (by simp <;> omega) _))); done)) | exact HSx.out _ _ _ HF.out)
                             clear hK K
                             try simp only [o37_4, Act.put, List.setIfInBounds_toArray, List.set_cons_zero, List.set_cons_succ]
                             refine wpAnyL_take (i := 10) (oi := o37_10) (v := ?_) rfl (by kernel_rfl) (fun _ _ _ h => h) (Or.inl ⟨by rfl, ?_⟩) (by assumption) ?_
                             rotate_left
                             · ((intro w hSw; delta o37_10; (try dsimp only at hSw); go_simp) <;> with_reducible rfl)
                             try simp only [o37_10, Act.put, List.setIfInBounds_toArray, List.set_cons_zero, List.set_cons_succ]
                             refine wpAnyL_ready (rs := [9]) (by kernel_rfl) (by simp) ?_
                             refine AllReadyL.cons (o := o37_9) rfl (fun K hK => ?_) AllReadyL.nil
                             delta o37_9
                             ((refine step_append_lies _ (by rfl) (.tmp 307) (.tmp 309) _ (by rfl) w13.heap.size 34 i1 _ 2 16 Tryz.underlying22 hi1 hy0 hy1 hy2 rfl (by omega) (.slice A2 q c2) q (spanCells ((upd (upd (ptL g c q) 0 (ptL g c q 0 ++ [(lo, lo)])) 1 (ptL g c q 1 ++ [(hi, hi)])) 2)) (by rfl) (own_below HO3.out (by exact (by repeat (first | exact Below.refl _ _ | assumption | refine Below.drew ?_ | refine Below.drewN' ?_ _ | (refine Below.alloc ?_ (by simp <;> omega) _) | (refine Below.setCell ?_ (by simp <;> omega) _)))) (Nat.le_refl _)) ⟨wA.heap.size, 0, none⟩ 1 1 [.int .i64 y, .int .i64 y] (by rfl) (by rfl) (World.news_of_block (cs := #[.int .i64 y, .int .i64 y]) (t := 34) (fr := (0, 0)) (by exact HLit.out)) (by simp [Value.oneCell']) (by omega) (by unfold maxLen; omega) (by omega) (by first | omega | (simp <;> omega)) _ rfl ?_; intro g2 c4 v2 hown2 hgrow2 hat2 hltg2; have HF := Lib.hid (two_second HR1.out (by omega) (by decide) HE2.out (by exact (by repeat (first | exact Below.refl _ _ | assumption | refine Below.drew ?_ | refine Below.drewN' ?_ _ | (refine Below.alloc ?_ (by simp <;> omega) _) | (refine Below.setCell ?_ (by simp <;> omega) _)))) HL2.out.symm hown2 hgrow2 (hat2.imp (fun e => e) (fun e => congrArg some e))); have y0 := (HF.out.r.blk 3 (by omega)).cell 3; have y1 := (HF.out.r.blk 2 (by omega)).cell 3; have z0 := (HF.out.r.blk 3 (by omega)).frozen 3; have z1 := (HF.out.r.blk 2 (by omega)).frozen 3; simp only [List.getElem?_toArray, List.getElem?_cons_zero, List.getElem?_cons_succ] at y0 y1; clear hown2 hgrow2 hat2 hltg2))
                             refine hK.out _ _ ?_ (fun hHeld => ?_)
                             · (try dsimp only); (first | (refine HSx.out _ _ _ (HB.out.below ?_); ((repeat (first | exact Below.refl _ _ | assumption | refine Below.drew ?_ | refine Below.drewN' ?_ _ | (refine Below.alloc ?_ (by simp <;> omega) _) | (refine Below.setCell ?_ (by simp <;> omega) _))); done)) | (refine HSx.out _ _ _ (HR1.out.below ?_); ((repeat (first | exact Below.refl _ _ | assumption | refine Below.drew ?_ | refine Below.drewN' ?_ _ | (refine Below.alloc ?_ (by simp <;> omega) _) | (refine Below.setCell ?_ (by simp <;> omega) _))); done)) | exact HSx.out _ _ _ HF.out)
                             clear hK K
                             try simp only [o37_9, Act.put, List.setIfInBounds_toArray, List.set_cons_zero, List.set_cons_succ]
                            case' gr48 =>
                             exact AllReadyL.nil
                           all_goals
                            as_aux_lemma =>
                             refine wpAnyL_ready (rs := [11]) (by kernel_rfl) (by simp) ?_
                             refine AllReadyL.gate (o := o37_11) rfl (by kernel_rfl) (fun K hK => ?_) AllReadyL.nil
                             delta o37_11
                             go_simp
                             refine hK.out _ _ ?_
                             clear hK K
                             try simp only [o37_11, Act.put, List.setIfInBounds_toArray, List.set_cons_zero, List.set_cons_succ]
                             refine wpAnyL_ready (rs := [12]) (by kernel_rfl) (by simp) ?_
                             refine AllReadyL.gate (o := o37_12) rfl (by kernel_rfl) (fun K hK => ?_) AllReadyL.nil
                             delta o37_12
                             go_simp
                             refine hK.out _ _ ?_
                             clear hK K
                             try simp only [o37_12, Act.put, List.setIfInBounds_toArray, List.set_cons_zero, List.set_cons_succ]
                             refine wpAnyL_ready (rs := [13]) (by kernel_rfl) (by simp) ?_
                             refine AllReadyL.gate (o := o37_13) rfl (by kernel_rfl) (fun K hK => ?_) AllReadyL.nil
                             delta o37_13
                             go_simp
                             refine hK.out _ _ ?_
                             clear hK K
                             try simp only [o37_13, Act.put, List.setIfInBounds_toArray, List.set_cons_zero, List.set_cons_succ]
                             refine wpAnyL_done (by kernel_rfl) ?_ _
                             refine NoPanic.normal ?_
                             have HN := Lib.hid (twoSt_mk HF.out (by omega) (by omega) (by decide))
                             clear HF HSx HO1 HO2 HO3 HLo HE1 HE2 HL1 HL2 HB HR1 t0 t1 t2 t3 t4 t5 y0 y1 z0 z1
                             go_wp2
                             go_roundw
                             case rel => (obtain ⟨v5, hB5⟩ := HN.out; exact ⟨q + 1, by omega, by go_num, v5, R4.next hB5.r HGT.out HXY.out⟩)
                             case measure => simp [intOf]; omega
                  · as_aux_lemma =>
                    obtain rfl : q = g.ss.length := by omega
                    have HRa : Hid (-2000000 ≤ alo ∧ alo ≤ 2000000 ∧ -2000000 ≤ ahi ∧ ahi ≤ 2000000) := by have h := Sillz.rng (valid_of HM1.out) HSTT.out.1 HSTT.out.2 HZ6.out hltc; rw [Ea.out.1, Ea.out.2] at h; exact h
                    have HSe : Hid (∀ h : G, checkE h = 0 → h.ss.length = g.ss.length → seaE h L = 0) := fun h hk e => by rw [← HLE.out, ← e]; exact seas_ok hk sea
                    have HIq := Lib.hid (HI.out.later HDq.out (Nat.le_refl _))
                    have HF0 := Lib.hid (flips_k HR4.out 0 (by omega) HM1.out HIq.out HLm.out HSTT.out.2 HSTT.out.1 HLn.out hltc HZ6.out (fun _ => Ea.out.1) (fun h => absurd h (by omega)) ⟨HRa.out.1, HRa.out.2.1⟩)
                    have HF1 := Lib.hid (flips_k HR4.out 1 (by omega) HM1.out HIq.out HLm.out HSTT.out.2 HSTT.out.1 HLn.out hltc HZ6.out (fun h => absurd h (by omega)) (fun _ => Ea.out.2) ⟨HRa.out.2.2.1, HRa.out.2.2.2⟩)
                    have HF2 := Lib.hid (depth_k HR4.out 2 (by omega) HM1.out HIq.out HLm.out HSTT.out.2 HSTT.out.1 HLn.out hltc HSe.out HZ8.out (dp := phi) (fun _ => by rw [Ep.out]) (fun h => absurd h (by omega)))
                    have HF3 := Lib.hid (depth_k HR4.out 3 (by omega) HM1.out HIq.out HLm.out HSTT.out.2 HSTT.out.1 HLn.out hltc HSe.out HZ8.out (dp := plo) (fun h => absurd h (by omega)) (fun _ => by rw [Ep.out]))
                    have HSx : Hid (∀ W, Below wq.heap.size wq W → W.cell? ⟨b 0, 0, none⟩ = some (.int .i64 g.W) ∧ W.cell? ⟨b 0, 1, none⟩ = some (.int .i64 g.H) ∧ W.cell? ⟨b 0, 2, none⟩ = some (.int .i64 g.S) ∧ W.cell? ⟨b 0, 3, none⟩ = some (v 0) ∧ W.cell? ⟨b 1, 0, none⟩ = some (.int .i64 g.W) ∧ W.cell? ⟨b 1, 1, none⟩ = some (.int .i64 g.H) ∧ W.cell? ⟨b 1, 2, none⟩ = some (.int .i64 g.S) ∧ W.cell? ⟨b 1, 3, none⟩ = some (v 1) ∧ W.cell? ⟨b 2, 0, none⟩ = some (.int .i64 g.W) ∧ W.cell? ⟨b 2, 1, none⟩ = some (.int .i64 g.H) ∧ W.cell? ⟨b 2, 2, none⟩ = some (.int .i64 g.S) ∧ W.cell? ⟨b 2, 3, none⟩ = some (v 2) ∧ W.cell? ⟨b 3, 0, none⟩ = some (.int .i64 g.W) ∧ W.cell? ⟨b 3, 1, none⟩ = some (.int .i64 g.H) ∧ W.cell? ⟨b 3, 2, none⟩ = some (.int .i64 g.S) ∧ W.cell? ⟨b 3, 3, none⟩ = some (v 3) ∧ W.cell? ⟨ba, oa + c * 2, none⟩ = some (.int .i64 alo) ∧ W.cell? ⟨ba, oa + c * 2 + 1, none⟩ = some (.int .i64 ahi) ∧ W.cell? ⟨bp, op + c * 2, none⟩ = some (.int .i64 plo) ∧ W.cell? ⟨bp, op + c * 2 + 1, none⟩ = some (.int .i64 phi)) := fun W hW => by
                      obtain ⟨-, -, t2, t3, -, -, t6, t7⟩ := HSk.out W (HB13.out.trans ((HR4.out.bel.trans (hW.mono HR4.out.bel.size)).mono HB13.out.size))
                      have R' := HR4.out.below hW
                      have b0 := R'.blk 0 (by omega)
                      have b1 := R'.blk 1 (by omega)
                      have b2 := R'.blk 2 (by omega)
                      have b3 := R'.blk 3 (by omega)
                      exact ⟨b0.cell 0, b0.cell 1, b0.cell 2, b0.cell 3, b1.cell 0, b1.cell 1, b1.cell 2, b1.cell 3, b2.cell 0, b2.cell 1, b2.cell 2, b2.cell 3, b3.cell 0, b3.cell 1, b3.cell 2, b3.cell 3, t2, t3, t6, t7⟩
                    have HC := Lib.hid (Below.drew (Below.refl wq.heap.size wq))
                    go_upto_region 39 with (fail)
                    obtain ⟨t0, t1, t2, t3, t4, t5, t6, t7, t8, t9, t10, t11, t12, t13, t14, t15, t16, t17, t18, t19⟩ := HSx.out _ HC.out
                    refine wp_region_noPanic ?_
                    refine wp_region_held_drew (S := (fun w' => w'.cell? ⟨b 0, 0, none⟩ = some (.int .i64 g.W) ∧ w'.cell? ⟨b 0, 1, none⟩ = some (.int .i64 g.H) ∧ w'.cell? ⟨b 0, 2, none⟩ = some (.int .i64 g.S) ∧ w'.cell? ⟨b 0, 3, none⟩ = some (v 0) ∧ w'.cell? ⟨b 1, 0, none⟩ = some (.int .i64 g.W) ∧ w'.cell? ⟨b 1, 1, none⟩ = some (.int .i64 g.H) ∧ w'.cell? ⟨b 1, 2, none⟩ = some (.int .i64 g.S) ∧ w'.cell? ⟨b 1, 3, none⟩ = some (v 1) ∧ w'.cell? ⟨b 2, 0, none⟩ = some (.int .i64 g.W) ∧ w'.cell? ⟨b 2, 1, none⟩ = some (.int .i64 g.H) ∧ w'.cell? ⟨b 2, 2, none⟩ = some (.int .i64 g.S) ∧ w'.cell? ⟨b 2, 3, none⟩ = some (v 2) ∧ w'.cell? ⟨b 3, 0, none⟩ = some (.int .i64 g.W) ∧ w'.cell? ⟨b 3, 1, none⟩ = some (.int .i64 g.H) ∧ w'.cell? ⟨b 3, 2, none⟩ = some (.int .i64 g.S) ∧ w'.cell? ⟨b 3, 3, none⟩ = some (v 3) ∧ w'.cell? ⟨ba, oa + c * 2, none⟩ = some (.int .i64 alo) ∧ w'.cell? ⟨ba, oa + c * 2 + 1, none⟩ = some (.int .i64 ahi) ∧ w'.cell? ⟨bp, op + c * 2, none⟩ = some (.int .i64 plo) ∧ w'.cell? ⟨bp, op + c * 2 + 1, none⟩ = some (.int .i64 phi))) (by kernel_rfl) ?_ (fun hHeld => ?_)
                    · (try dsimp only); (refine ⟨?_, ?_, ?_, ?_, ?_, ?_, ?_, ?_, ?_, ?_, ?_, ?_, ?_, ?_, ?_, ?_, ?_, ?_, ?_, ?_⟩ <;> assumption)
                    refine wpAnyH_take (i := 0) (oi := o39_0) (v := ?_) rfl (by kernel_rfl) (by kernel_rfl) (by kernel_rfl) (fun _ _ _ h => h) (Or.inl ⟨by rfl, ?_⟩) (by assumption) ?_
                    rotate_left
                    · ((intro w hSw; delta o39_0; (try dsimp only at hSw); go_simp) <;> with_reducible rfl)
                    try simp only [o39_0, Act.put, List.setIfInBounds_toArray, List.set_cons_zero, List.set_cons_succ]
                    refine wpAnyH_take (i := 1) (oi := o39_1) (v := ?_) rfl (by kernel_rfl) (by kernel_rfl) (by kernel_rfl) (fun _ _ _ h => h) (Or.inl ⟨by rfl, ?_⟩) (by assumption) ?_
                    rotate_left
                    · ((intro w hSw; delta o39_1; (try dsimp only at hSw); go_simp) <;> with_reducible rfl)
                    try simp only [o39_1, Act.put, List.setIfInBounds_toArray, List.set_cons_zero, List.set_cons_succ]
                    refine wpAnyH_take (i := 2) (oi := o39_2) (v := ?_) rfl (by kernel_rfl) (by kernel_rfl) (by kernel_rfl) (fun _ _ _ h => h) (Or.inl ⟨by rfl, ?_⟩) (by assumption) ?_
                    rotate_left
                    · ((intro w hSw; delta o39_2; (try dsimp only at hSw); go_simp) <;> with_reducible rfl)
                    try simp only [o39_2, Act.put, List.setIfInBounds_toArray, List.set_cons_zero, List.set_cons_succ]
                    refine wpAnyH_take (i := 3) (oi := o39_3) (v := ?_) rfl (by kernel_rfl) (by kernel_rfl) (by kernel_rfl) (fun _ _ _ h => h) (Or.inl ⟨by rfl, ?_⟩) (by assumption) ?_
                    rotate_left
                    · ((intro w hSw; delta o39_3; (try dsimp only at hSw); go_simp) <;> with_reducible rfl)
                    try simp only [o39_3, Act.put, List.setIfInBounds_toArray, List.set_cons_zero, List.set_cons_succ]
                    refine wpAnyH_take (i := 4) (oi := o39_4) (v := ?_) rfl (by kernel_rfl) (by kernel_rfl) (by kernel_rfl) (fun _ _ _ h => h) (Or.inl ⟨by rfl, ?_⟩) (by assumption) ?_
                    rotate_left
                    · ((intro w hSw; delta o39_4; (try dsimp only at hSw); go_simp) <;> with_reducible rfl)
                    try simp only [o39_4, Act.put, List.setIfInBounds_toArray, List.set_cons_zero, List.set_cons_succ]
                    refine wpAnyH_take (i := 5) (oi := o39_5) (v := ?_) rfl (by kernel_rfl) (by kernel_rfl) (by kernel_rfl) (fun _ _ _ h => h) (Or.inl ⟨by rfl, ?_⟩) (by assumption) ?_
                    rotate_left
                    · ((intro w hSw; delta o39_5; (try dsimp only at hSw); go_simp) <;> with_reducible rfl)
                    try simp only [o39_5, Act.put, List.setIfInBounds_toArray, List.set_cons_zero, List.set_cons_succ]
                    refine wpAnyH_take (i := 6) (oi := o39_6) (v := ?_) rfl (by kernel_rfl) (by kernel_rfl) (by kernel_rfl) (fun _ _ _ h => h) (Or.inl ⟨by rfl, ?_⟩) (by assumption) ?_
                    rotate_left
                    · ((intro w hSw; delta o39_6; (try dsimp only at hSw); go_simp) <;> with_reducible rfl)
                    try simp only [o39_6, Act.put, List.setIfInBounds_toArray, List.set_cons_zero, List.set_cons_succ]
                    refine wpAnyH_take (i := 7) (oi := o39_7) (v := ?_) rfl (by kernel_rfl) (by kernel_rfl) (by kernel_rfl) (fun _ _ _ h => h) (Or.inl ⟨by rfl, ?_⟩) (by assumption) ?_
                    rotate_left
                    · ((intro w hSw; delta o39_7; (try dsimp only at hSw); go_simp) <;> with_reducible rfl)
                    try simp only [o39_7, Act.put, List.setIfInBounds_toArray, List.set_cons_zero, List.set_cons_succ]
                    refine wpAnyH_ready (rs := [8]) (by kernel_rfl) (by simp) ?_
                    refine AllReadyH.cons (o := o39_8) rfl (fun K hK => ?_) AllReadyH.nil
                    delta o39_8
                    go_simp
                    ((with_reducible refine (HF0.out _ HC.out).mono ?_); rintro e wa ⟨rfl, hbz⟩; clear HC t0 t1 t2 t3 t4 t5 t6 t7 t8 t9 t10 t11 t12 t13 t14 t15 t16 t17 t18 t19; have HC := Lib.hid hbz; clear hbz; obtain ⟨t0, t1, t2, t3, t4, t5, t6, t7, t8, t9, t10, t11, t12, t13, t14, t15, t16, t17, t18, t19⟩ := HSx.out _ HC.out)
                    refine hK.out _ _ ?_ (fun hHeld => ?_)
                    · (try dsimp only); (refine ⟨?_, ?_, ?_, ?_, ?_, ?_, ?_, ?_, ?_, ?_, ?_, ?_, ?_, ?_, ?_, ?_, ?_, ?_, ?_, ?_⟩ <;> assumption)
                    clear hK K
                    try simp only [o39_8, Act.put, List.setIfInBounds_toArray, List.set_cons_zero, List.set_cons_succ]
                    refine wpAnyH_take (i := 9) (oi := o39_9) (v := ?_) rfl (by kernel_rfl) (by kernel_rfl) (by kernel_rfl) (fun _ _ _ h => h) (Or.inl ⟨by rfl, ?_⟩) (by assumption) ?_
                    rotate_left
                    · ((intro w hSw; delta o39_9; (try dsimp only at hSw); go_simp) <;> with_reducible rfl)
                    try simp only [o39_9, Act.put, List.setIfInBounds_toArray, List.set_cons_zero, List.set_cons_succ]
                    refine wpAnyH_take (i := 10) (oi := o39_10) (v := ?_) rfl (by kernel_rfl) (by kernel_rfl) (by kernel_rfl) (fun _ _ _ h => h) (Or.inl ⟨by rfl, ?_⟩) (by assumption) ?_
                    rotate_left
                    · ((intro w hSw; delta o39_10; (try dsimp only at hSw); go_simp) <;> with_reducible rfl)
                    try simp only [o39_10, Act.put, List.setIfInBounds_toArray, List.set_cons_zero, List.set_cons_succ]
                    refine wpAnyH_take (i := 11) (oi := o39_11) (v := ?_) rfl (by kernel_rfl) (by kernel_rfl) (by kernel_rfl) (fun _ _ _ h => h) (Or.inl ⟨by rfl, ?_⟩) (by assumption) ?_
                    rotate_left
                    · ((intro w hSw; delta o39_11; (try dsimp only at hSw); go_simp) <;> with_reducible rfl)
                    try simp only [o39_11, Act.put, List.setIfInBounds_toArray, List.set_cons_zero, List.set_cons_succ]
                    refine wpAnyH_take (i := 12) (oi := o39_12) (v := ?_) rfl (by kernel_rfl) (by kernel_rfl) (by kernel_rfl) (fun _ _ _ h => h) (Or.inl ⟨by rfl, ?_⟩) (by assumption) ?_
                    rotate_left
                    · ((intro w hSw; delta o39_12; (try dsimp only at hSw); go_simp) <;> with_reducible rfl)
                    try simp only [o39_12, Act.put, List.setIfInBounds_toArray, List.set_cons_zero, List.set_cons_succ]
                    refine wpAnyH_take (i := 13) (oi := o39_13) (v := ?_) rfl (by kernel_rfl) (by kernel_rfl) (by kernel_rfl) (fun _ _ _ h => h) (Or.inl ⟨by rfl, ?_⟩) (by assumption) ?_
                    rotate_left
                    · ((intro w hSw; delta o39_13; (try dsimp only at hSw); go_simp) <;> with_reducible rfl)
                    try simp only [o39_13, Act.put, List.setIfInBounds_toArray, List.set_cons_zero, List.set_cons_succ]
                    refine wpAnyH_take (i := 14) (oi := o39_14) (v := ?_) rfl (by kernel_rfl) (by kernel_rfl) (by kernel_rfl) (fun _ _ _ h => h) (Or.inl ⟨by rfl, ?_⟩) (by assumption) ?_
                    rotate_left
                    · ((intro w hSw; delta o39_14; (try dsimp only at hSw); go_simp) <;> with_reducible rfl)
                    try simp only [o39_14, Act.put, List.setIfInBounds_toArray, List.set_cons_zero, List.set_cons_succ]
                    refine wpAnyH_take (i := 15) (oi := o39_15) (v := ?_) rfl (by kernel_rfl) (by kernel_rfl) (by kernel_rfl) (fun _ _ _ h => h) (Or.inl ⟨by rfl, ?_⟩) (by assumption) ?_
                    rotate_left
                    · ((intro w hSw; delta o39_15; (try dsimp only at hSw); go_simp) <;> with_reducible rfl)
                    try simp only [o39_15, Act.put, List.setIfInBounds_toArray, List.set_cons_zero, List.set_cons_succ]
                    as_aux_lemma =>
                     refine wpAnyH_take (i := 16) (oi := o39_16) (v := ?_) rfl (by kernel_rfl) (by kernel_rfl) (by kernel_rfl) (fun _ _ _ h => h) (Or.inl ⟨by rfl, ?_⟩) (by assumption) ?_
                     rotate_left
                     · ((intro w hSw; delta o39_16; (try dsimp only at hSw); go_simp) <;> with_reducible rfl)
                     try simp only [o39_16, Act.put, List.setIfInBounds_toArray, List.set_cons_zero, List.set_cons_succ]
                     refine wpAnyH_take (i := 17) (oi := o39_17) (v := ?_) rfl (by kernel_rfl) (by kernel_rfl) (by kernel_rfl) (fun _ _ _ h => h) (Or.inl ⟨by rfl, ?_⟩) (by assumption) ?_
                     rotate_left
                     · ((intro w hSw; delta o39_17; (try dsimp only at hSw); go_simp) <;> with_reducible rfl)
                     try simp only [o39_17, Act.put, List.setIfInBounds_toArray, List.set_cons_zero, List.set_cons_succ]
                     refine wpAnyH_take (i := 18) (oi := o39_18) (v := ?_) rfl (by kernel_rfl) (by kernel_rfl) (by kernel_rfl) (fun _ _ _ h => h) (Or.inl ⟨by rfl, ?_⟩) (by assumption) ?_
                     rotate_left
                     · ((intro w hSw; delta o39_18; (try dsimp only at hSw); go_simp) <;> with_reducible rfl)
                     try simp only [o39_18, Act.put, List.setIfInBounds_toArray, List.set_cons_zero, List.set_cons_succ]
                     refine wpAnyH_ready (rs := [19]) (by kernel_rfl) (by simp) ?_
                     refine AllReadyH.cons (o := o39_19) rfl (fun K hK => ?_) AllReadyH.nil
                     delta o39_19
                     go_simp
                     ((with_reducible refine (HF1.out _ HC.out).mono ?_); rintro e wa ⟨rfl, hbz⟩; clear HC t0 t1 t2 t3 t4 t5 t6 t7 t8 t9 t10 t11 t12 t13 t14 t15 t16 t17 t18 t19; have HC := Lib.hid hbz; clear hbz; obtain ⟨t0, t1, t2, t3, t4, t5, t6, t7, t8, t9, t10, t11, t12, t13, t14, t15, t16, t17, t18, t19⟩ := HSx.out _ HC.out)
                     refine hK.out _ _ ?_ (fun hHeld => ?_)
                     · (try dsimp only); (refine ⟨?_, ?_, ?_, ?_, ?_, ?_, ?_, ?_, ?_, ?_, ?_, ?_, ?_, ?_, ?_, ?_, ?_, ?_, ?_, ?_⟩ <;> assumption)
                     clear hK K
                     try simp only [o39_19, Act.put, List.setIfInBounds_toArray, List.set_cons_zero, List.set_cons_succ]
                     refine wpAnyH_take (i := 20) (oi := o39_20) (v := ?_) rfl (by kernel_rfl) (by kernel_rfl) (by kernel_rfl) (fun _ _ _ h => h) (Or.inl ⟨by rfl, ?_⟩) (by assumption) ?_
                     rotate_left
                     · ((intro w hSw; delta o39_20; (try dsimp only at hSw); go_simp) <;> with_reducible rfl)
                     try simp only [o39_20, Act.put, List.setIfInBounds_toArray, List.set_cons_zero, List.set_cons_succ]
                     refine wpAnyH_take (i := 21) (oi := o39_21) (v := ?_) rfl (by kernel_rfl) (by kernel_rfl) (by kernel_rfl) (fun _ _ _ h => h) (Or.inl ⟨by rfl, ?_⟩) (by assumption) ?_
                     rotate_left
                     · ((intro w hSw; delta o39_21; (try dsimp only at hSw); go_simp) <;> with_reducible rfl)
                     try simp only [o39_21, Act.put, List.setIfInBounds_toArray, List.set_cons_zero, List.set_cons_succ]
                     refine wpAnyH_take (i := 22) (oi := o39_22) (v := ?_) rfl (by kernel_rfl) (by kernel_rfl) (by kernel_rfl) (fun _ _ _ h => h) (Or.inl ⟨by rfl, ?_⟩) (by assumption) ?_
                     rotate_left
                     · ((intro w hSw; delta o39_22; (try dsimp only at hSw); go_simp) <;> with_reducible rfl)
                     try simp only [o39_22, Act.put, List.setIfInBounds_toArray, List.set_cons_zero, List.set_cons_succ]
                     refine wpAnyH_take (i := 23) (oi := o39_23) (v := ?_) rfl (by kernel_rfl) (by kernel_rfl) (by kernel_rfl) (fun _ _ _ h => h) (Or.inl ⟨by rfl, ?_⟩) (by assumption) ?_
                     rotate_left
                     · ((intro w hSw; delta o39_23; (try dsimp only at hSw); go_simp) <;> with_reducible rfl)
                     try simp only [o39_23, Act.put, List.setIfInBounds_toArray, List.set_cons_zero, List.set_cons_succ]
                     refine wpAnyH_take (i := 24) (oi := o39_24) (v := ?_) rfl (by kernel_rfl) (by kernel_rfl) (by kernel_rfl) (fun _ _ _ h => h) (Or.inl ⟨by rfl, ?_⟩) (by assumption) ?_
                     rotate_left
                     · ((intro w hSw; delta o39_24; (try dsimp only at hSw); go_simp) <;> with_reducible rfl)
                     try simp only [o39_24, Act.put, List.setIfInBounds_toArray, List.set_cons_zero, List.set_cons_succ]
                     refine wpAnyH_take (i := 25) (oi := o39_25) (v := ?_) rfl (by kernel_rfl) (by kernel_rfl) (by kernel_rfl) (fun _ _ _ h => h) (Or.inl ⟨by rfl, ?_⟩) (by assumption) ?_
                     rotate_left
                     · ((intro w hSw; delta o39_25; (try dsimp only at hSw); go_simp) <;> with_reducible rfl)
                     try simp only [o39_25, Act.put, List.setIfInBounds_toArray, List.set_cons_zero, List.set_cons_succ]
                     refine wpAnyH_take (i := 27) (oi := o39_27) (v := ?_) rfl (by kernel_rfl) (by kernel_rfl) (by kernel_rfl) (fun _ _ _ h => h) (Or.inl ⟨by rfl, ?_⟩) (by assumption) ?_
                     rotate_left
                     · ((intro w hSw; delta o39_27; (try dsimp only at hSw); go_simp) <;> with_reducible rfl)
                     try simp only [o39_27, Act.put, List.setIfInBounds_toArray, List.set_cons_zero, List.set_cons_succ]
                     refine wpAnyH_take (i := 28) (oi := o39_28) (v := ?_) rfl (by kernel_rfl) (by kernel_rfl) (by kernel_rfl) (fun _ _ _ h => h) (Or.inl ⟨by rfl, ?_⟩) (by assumption) ?_
                     rotate_left
                     · ((intro w hSw; delta o39_28; (try dsimp only at hSw); go_simp) <;> with_reducible rfl)
                     try simp only [o39_28, Act.put, List.setIfInBounds_toArray, List.set_cons_zero, List.set_cons_succ]
                     refine wpAnyH_take (i := 29) (oi := o39_29) (v := ?_) rfl (by kernel_rfl) (by kernel_rfl) (by kernel_rfl) (fun _ _ _ h => h) (Or.inl ⟨by rfl, ?_⟩) (by assumption) ?_
                     rotate_left
                     · ((intro w hSw; delta o39_29; (try dsimp only at hSw); go_simp) <;> with_reducible rfl)
                     try simp only [o39_29, Act.put, List.setIfInBounds_toArray, List.set_cons_zero, List.set_cons_succ]
                     refine wpAnyH_take (i := 30) (oi := o39_30) (v := ?_) rfl (by kernel_rfl) (by kernel_rfl) (by kernel_rfl) (fun _ _ _ h => h) (Or.inl ⟨by rfl, ?_⟩) (by assumption) ?_
                     rotate_left
                     · ((intro w hSw; delta o39_30; (try dsimp only at hSw); go_simp) <;> with_reducible rfl)
                     try simp only [o39_30, Act.put, List.setIfInBounds_toArray, List.set_cons_zero, List.set_cons_succ]
                     refine wpAnyH_take (i := 31) (oi := o39_31) (v := ?_) rfl (by kernel_rfl) (by kernel_rfl) (by kernel_rfl) (fun _ _ _ h => h) (Or.inl ⟨by rfl, ?_⟩) (by assumption) ?_
                     rotate_left
                     · ((intro w hSw; delta o39_31; (try dsimp only at hSw); go_simp) <;> with_reducible rfl)
                     try simp only [o39_31, Act.put, List.setIfInBounds_toArray, List.set_cons_zero, List.set_cons_succ]
                     refine wpAnyH_ready (rs := [26]) (by kernel_rfl) (by simp) ?_
                     refine AllReadyH.cons (o := o39_26) rfl (fun K hK => ?_) AllReadyH.nil
                     delta o39_26
                     go_simp
                     ((with_reducible refine (HF2.out _ HC.out).mono ?_); rintro e wa ⟨rfl, hbz⟩; clear HC t0 t1 t2 t3 t4 t5 t6 t7 t8 t9 t10 t11 t12 t13 t14 t15 t16 t17 t18 t19; have HC := Lib.hid hbz; clear hbz; obtain ⟨t0, t1, t2, t3, t4, t5, t6, t7, t8, t9, t10, t11, t12, t13, t14, t15, t16, t17, t18, t19⟩ := HSx.out _ HC.out)
                     refine hK.out _ _ ?_ (fun hHeld => ?_)
                     · (try dsimp only); (refine ⟨?_, ?_, ?_, ?_, ?_, ?_, ?_, ?_, ?_, ?_, ?_, ?_, ?_, ?_, ?_, ?_, ?_, ?_, ?_, ?_⟩ <;> assumption)
                     clear hK K
                     try simp only [o39_26, Act.put, List.setIfInBounds_toArray, List.set_cons_zero, List.set_cons_succ]
                     as_aux_lemma =>
                      refine wpAnyH_take (i := 32) (oi := o39_32) (v := ?_) rfl (by kernel_rfl) (by kernel_rfl) (by kernel_rfl) (fun _ _ _ h => h) (Or.inl ⟨by rfl, ?_⟩) (by assumption) ?_
                      rotate_left
                      · ((intro w hSw; delta o39_32; (try dsimp only at hSw); go_simp) <;> with_reducible rfl)
                      try simp only [o39_32, Act.put, List.setIfInBounds_toArray, List.set_cons_zero, List.set_cons_succ]
                      refine wpAnyH_take (i := 33) (oi := o39_33) (v := ?_) rfl (by kernel_rfl) (by kernel_rfl) (by kernel_rfl) (fun _ _ _ h => h) (Or.inl ⟨by rfl, ?_⟩) (by assumption) ?_
                      rotate_left
                      · ((intro w hSw; delta o39_33; (try dsimp only at hSw); go_simp) <;> with_reducible rfl)
                      try simp only [o39_33, Act.put, List.setIfInBounds_toArray, List.set_cons_zero, List.set_cons_succ]
                      refine wpAnyH_take (i := 34) (oi := o39_34) (v := ?_) rfl (by kernel_rfl) (by kernel_rfl) (by kernel_rfl) (fun _ _ _ h => h) (Or.inl ⟨by rfl, ?_⟩) (by assumption) ?_
                      rotate_left
                      · ((intro w hSw; delta o39_34; (try dsimp only at hSw); go_simp) <;> with_reducible rfl)
                      try simp only [o39_34, Act.put, List.setIfInBounds_toArray, List.set_cons_zero, List.set_cons_succ]
                      refine wpAnyH_take (i := 35) (oi := o39_35) (v := ?_) rfl (by kernel_rfl) (by kernel_rfl) (by kernel_rfl) (fun _ _ _ h => h) (Or.inl ⟨by rfl, ?_⟩) (by assumption) ?_
                      rotate_left
                      · ((intro w hSw; delta o39_35; (try dsimp only at hSw); go_simp) <;> with_reducible rfl)
                      try simp only [o39_35, Act.put, List.setIfInBounds_toArray, List.set_cons_zero, List.set_cons_succ]
                      refine wpAnyH_take (i := 36) (oi := o39_36) (v := ?_) rfl (by kernel_rfl) (by kernel_rfl) (by kernel_rfl) (fun _ _ _ h => h) (Or.inl ⟨by rfl, ?_⟩) (by assumption) ?_
                      rotate_left
                      · ((intro w hSw; delta o39_36; (try dsimp only at hSw); go_simp) <;> with_reducible rfl)
                      try simp only [o39_36, Act.put, List.setIfInBounds_toArray, List.set_cons_zero, List.set_cons_succ]
                      refine wpAnyH_take (i := 37) (oi := o39_37) (v := ?_) rfl (by kernel_rfl) (by kernel_rfl) (by kernel_rfl) (fun _ _ _ h => h) (Or.inl ⟨by rfl, ?_⟩) (by assumption) ?_
                      rotate_left
                      · ((intro w hSw; delta o39_37; (try dsimp only at hSw); go_simp) <;> with_reducible rfl)
                      try simp only [o39_37, Act.put, List.setIfInBounds_toArray, List.set_cons_zero, List.set_cons_succ]
                      refine wpAnyH_take (i := 39) (oi := o39_39) (v := ?_) rfl (by kernel_rfl) (by kernel_rfl) (by kernel_rfl) (fun _ _ _ h => h) (Or.inl ⟨by rfl, ?_⟩) (by assumption) ?_
                      rotate_left
                      · ((intro w hSw; delta o39_39; (try dsimp only at hSw); go_simp) <;> with_reducible rfl)
                      try simp only [o39_39, Act.put, List.setIfInBounds_toArray, List.set_cons_zero, List.set_cons_succ]
                      refine wpAnyH_take (i := 40) (oi := o39_40) (v := ?_) rfl (by kernel_rfl) (by kernel_rfl) (by kernel_rfl) (fun _ _ _ h => h) (Or.inl ⟨by rfl, ?_⟩) (by assumption) ?_
                      rotate_left
                      · ((intro w hSw; delta o39_40; (try dsimp only at hSw); go_simp) <;> with_reducible rfl)
                      try simp only [o39_40, Act.put, List.setIfInBounds_toArray, List.set_cons_zero, List.set_cons_succ]
                      refine wpAnyH_take (i := 41) (oi := o39_41) (v := ?_) rfl (by kernel_rfl) (by kernel_rfl) (by kernel_rfl) (fun _ _ _ h => h) (Or.inl ⟨by rfl, ?_⟩) (by assumption) ?_
                      rotate_left
                      · ((intro w hSw; delta o39_41; (try dsimp only at hSw); go_simp) <;> with_reducible rfl)
                      try simp only [o39_41, Act.put, List.setIfInBounds_toArray, List.set_cons_zero, List.set_cons_succ]
                      refine wpAnyH_take (i := 42) (oi := o39_42) (v := ?_) rfl (by kernel_rfl) (by kernel_rfl) (by kernel_rfl) (fun _ _ _ h => h) (Or.inl ⟨by rfl, ?_⟩) (by assumption) ?_
                      rotate_left
                      · ((intro w hSw; delta o39_42; (try dsimp only at hSw); go_simp) <;> with_reducible rfl)
                      try simp only [o39_42, Act.put, List.setIfInBounds_toArray, List.set_cons_zero, List.set_cons_succ]
                      refine wpAnyH_take (i := 43) (oi := o39_43) (v := ?_) rfl (by kernel_rfl) (by kernel_rfl) (by kernel_rfl) (fun _ _ _ h => h) (Or.inl ⟨by rfl, ?_⟩) (by assumption) ?_
                      rotate_left
                      · ((intro w hSw; delta o39_43; (try dsimp only at hSw); go_simp) <;> with_reducible rfl)
                      try simp only [o39_43, Act.put, List.setIfInBounds_toArray, List.set_cons_zero, List.set_cons_succ]
                      refine wpAnyH_ready (rs := [38]) (by kernel_rfl) (by simp) ?_
                      refine AllReadyH.cons (o := o39_38) rfl (fun K hK => ?_) AllReadyH.nil
                      delta o39_38
                      go_simp
                      ((with_reducible refine (HF3.out _ HC.out).mono ?_); rintro e wa ⟨rfl, hbz⟩; clear HC t0 t1 t2 t3 t4 t5 t6 t7 t8 t9 t10 t11 t12 t13 t14 t15 t16 t17 t18 t19; have HC := Lib.hid hbz; clear hbz; obtain ⟨t0, t1, t2, t3, t4, t5, t6, t7, t8, t9, t10, t11, t12, t13, t14, t15, t16, t17, t18, t19⟩ := HSx.out _ HC.out)
                      refine hK.out _ _ ?_ (fun hHeld => ?_)
                      · (try dsimp only); (refine ⟨?_, ?_, ?_, ?_, ?_, ?_, ?_, ?_, ?_, ?_, ?_, ?_, ?_, ?_, ?_, ?_, ?_, ?_, ?_, ?_⟩ <;> assumption)
                      clear hK K
                      try simp only [o39_38, Act.put, List.setIfInBounds_toArray, List.set_cons_zero, List.set_cons_succ]
                      refine wpAnyH_take (i := 44) (oi := o39_44) (v := ?_) rfl (by kernel_rfl) (by kernel_rfl) (by kernel_rfl) (fun _ _ _ h => h) (Or.inl ⟨by rfl, ?_⟩) (by assumption) ?_
                      rotate_left
                      · ((intro w hSw; delta o39_44; (try dsimp only at hSw); go_simp) <;> with_reducible rfl)
                      try simp only [o39_44, Act.put, List.setIfInBounds_toArray, List.set_cons_zero, List.set_cons_succ]
                      refine wpAnyH_take (i := 45) (oi := o39_45) (v := ?_) rfl (by kernel_rfl) (by kernel_rfl) (by kernel_rfl) (fun _ _ _ h => h) (Or.inl ⟨by rfl, ?_⟩) (by assumption) ?_
                      rotate_left
                      · ((intro w hSw; delta o39_45; (try dsimp only at hSw); go_simp) <;> with_reducible rfl)
                      try simp only [o39_45, Act.put, List.setIfInBounds_toArray, List.set_cons_zero, List.set_cons_succ]
                      refine wpAnyH_done (by kernel_rfl) ?_ _
                      refine NoPanic.normal ?_
                      have HBe := Lib.hid (HBr.out.trans ((HB13.out.trans ((HR4.out.bel.trans (HC.out.mono HR4.out.bel.size)).mono HB13.out.size)).mono HBr.out.size))
                      go_wp2
                      go_roundw
                      case rel => exact ⟨c + 1, by omega, by go_num, HBe.out⟩
                      case measure => simp [intOf]; omega
          · clear hc
            have HBw := Lib.hid (HBV4.out.trans (HDc.out.mono HBV4.out.size))
            go_wp2_with fail
            refine (works_any _ (HLV.out.below HBw.out)).mono ?_
            rintro e w14 ⟨rfl, hb14⟩
            have HB14 := Lib.hid (HBw.out.trans (hb14.mono HBw.out.size))
            clear hb14
            go_wp2
            go_ret
            exact ⟨rfl, HB14.out⟩
end Go.Proofs.YthcenmocnphnmaaGreatDoor
