/-
  New boxes of a region that draws its order: one, two, three.
-/
import Derived.Test.YtdhcdgfpkjdihaaDoorVBa
set_option linter.unusedSimpArgs false
set_option linter.unusedVariables false
namespace Go.Proofs.YtdhcdgfpkjdihaaDoor.Sg
open Go.RowKit
def OneBx (V : World) (t : Nat) (cs : Array Value) (p : Value) (W : World) : Prop := ∃ b : Nat, p = .pointer (some ⟨b, 0, none⟩) ∧ Blk W b t cs ∧ V.heap.size ≤ b ∧ Below V.heap.size V W
def TwoBx (V : World) (t : Nat) (cs : Array Value) (t' : Nat) (cs' : Array Value) (p q : Value) (W : World) : Prop :=
 ∃ b c : Nat, p = .pointer (some ⟨b, 0, none⟩) ∧ q = .pointer (some ⟨c, 0, none⟩) ∧ Blk W b t cs ∧ Blk W c t' cs' ∧ b ≠ c ∧ V.heap.size ≤ b ∧ V.heap.size ≤ c ∧ Below V.heap.size V W
def ThreeBx (V : World) (t : Nat) (cs : Array Value) (t' : Nat) (cs' : Array Value) (t'' : Nat) (cs'' : Array Value) (p q r : Value) (W : World) : Prop :=
 ∃ b c d : Nat, p = .pointer (some ⟨b, 0, none⟩) ∧ q = .pointer (some ⟨c, 0, none⟩) ∧ r = .pointer (some ⟨d, 0, none⟩) ∧ Blk W b t cs ∧ Blk W c t' cs' ∧ Blk W d t'' cs'' ∧ b ≠ c ∧ b ≠ d ∧ c ≠ d ∧ V.heap.size ≤ b ∧ V.heap.size ≤ c ∧ V.heap.size ≤ d ∧ Below V.heap.size V W
theorem cells_two_new (w : World) (x y : Value) (t : TypeId) {n : Nat} (h : n = w.heap.size) : ∀ j u, [x, y][j]? = some u → (w.alloc (.cells #[x, y] t)).cell? ((⟨n, 0, none⟩ : Addr).add j) = some u := by
 subst h
 intro j u hu
 have e1 : (⟨w.heap.size, 0, none⟩ : Addr).add j = ⟨w.heap.size, 0 + j, none⟩ := by unfold Addr.add; split <;> simp_all
 rw [e1, Nat.zero_add]
 have h := (Blk.new w t #[x, y]).cell j
 rw [h, List.getElem?_toArray]
 exact hu
end Go.Proofs.YtdhcdgfpkjdihaaDoor.Sg
