/-
  Frames, and blocks that are known whole (the general part of the text Ha of layer 1, for seats without a heap).
-/
import Derived.Test.YtdhcdgfpkjdihaaDoorVLib
import Derived.BigRegion
import Derived.Deep.DeepCutAuto
import Derived.Deep.RegionHeld3
import Derived.Deep.RegionLaw
import Derived.Laws.EntriesVeiled
set_option linter.unusedSimpArgs false
set_option linter.unusedVariables false
namespace Go.Proofs.YtdhcdgfpkjdihaaDoor
open Go.RowKit
/-- Whatever lay in w, and of which o does not speak, lies in w' as it lay. -/
structure Far (o : Nat → Prop) (w w' : World) : Prop where
 os : w'.os = w.os
 tape : w'.tape = w.tape
 output : w'.output = w.output
 size : w.heap.size ≤ w'.heap.size
 block : ∀ k, k < w.heap.size → ¬ o k → w'.heap[k]? = w.heap[k]?
theorem Far.refl (o : Nat → Prop) (w : World) : Far o w w := ⟨rfl, rfl, rfl, Nat.le_refl _, fun _ _ _ => rfl⟩
theorem Far.trans {o o' : Nat → Prop} {a b c : World} (h : Far o a b) (k : Far o' b c) (ho : ∀ i, i < a.heap.size → o' i → o i) : Far o a c :=
 ⟨k.os.trans h.os, k.tape.trans h.tape, k.output.trans h.output, Nat.le_trans h.size k.size, fun i hi hn => (k.block i (Nat.lt_of_lt_of_le hi h.size) (fun e => hn (ho i hi e))).trans (h.block i hi hn)⟩
theorem Far.mono {o o' : Nat → Prop} {a b : World} (h : Far o a b) (ho : ∀ i, i < a.heap.size → o i → o' i) : Far o' a b :=
 ⟨h.os, h.tape, h.output, h.size, fun i hi hn => h.block i hi (fun e => hn (ho i hi e))⟩
theorem Far.of_below {o : Nat → Prop} {a b : World} (h : Below a.heap.size a b) : Far o a b := ⟨h.os, h.tape, h.output, h.size, fun i hi _ => h.block i hi⟩
theorem Far.below {o : Nat → Prop} {a b : World} {B : Nat} (h : Far o a b) (hB : B ≤ a.heap.size) (ho : ∀ i, i < B → ¬ o i) : Below B a b := ⟨h.os, h.tape, h.output, h.size, fun i hi => h.block i (Nat.lt_of_lt_of_le hi hB) (ho i hi)⟩
theorem Far.drew {o : Nat → Prop} {a w : World} (h : Far o a w) : Far o a w.drew := ⟨h.os, h.tape, h.output, h.size, h.block⟩
theorem Far.drewN {o : Nat → Prop} {a w : World} (h : Far o a w) (n : Nat) : Far o a (w.drewN n) := ⟨h.os, h.tape, h.output, h.size, h.block⟩
theorem Far.alloc {o : Nat → Prop} {a w : World} (h : Far o a w) (x : Obj) : Far o a (w.alloc x) :=
 ⟨h.os, h.tape, h.output, Nat.le_trans h.size (by simp), fun i hi hn => (Below.heap_alloc w x i (Nat.lt_of_lt_of_le hi h.size)).trans (h.block i hi hn)⟩
theorem Far.setCell {o : Nat → Prop} {a w : World} (h : Far o a w) {p : Addr} (hp : o p.block ∨ a.heap.size ≤ p.block) (u : Value) : Far o a (w.setCell p u) :=
 ⟨h.os, h.tape, h.output, by simpa [World.setCell] using h.size, fun i hi hn => (Below.heap_setCell w p u i (by
  rintro rfl
  rcases hp with hp | hp
  · exact hn hp
  · omega)).trans (h.block i hi hn)⟩
theorem Far.grown {o : Nat → Prop} {a w w' : World} {row : Option Nat} (h : Far o a w) (hg : w.grownBy w' row) (hr : ∀ k, row = some k → o k ∨ a.heap.size ≤ k) : Far o a w' :=
 ⟨hg.os.trans h.os, hg.tape.trans h.tape, hg.output.trans h.output, Nat.le_trans h.size hg.size, fun i hi hn => (hg.block i (Nat.lt_of_lt_of_le hi h.size) (fun e => by
  rcases hr i e.symm with h1 | h1
  · exact hn h1
  · omega)).trans (h.block i hi hn)⟩
theorem Far.cell {o : Nat → Prop} {w w' : World} (h : Far o w w') {p : Addr} (hp : p.block < w.heap.size) (hn : ¬ o p.block) : w'.cell? p = w.cell? p := World.cell?_of_block (w := w) (h.block p.block hp hn)
theorem lt_of_heap {w : World} {g : Nat} {o : Obj} (h : w.heap[g]? = some o) : g < w.heap.size := (Array.getElem?_eq_some_iff.1 h).1
/-! Blocks that are known whole. -/
def Blk (w : World) (g : Nat) (t : TypeId) (cs : Array Value) : Prop := w.heap[g]? = some (.cells cs t (0, 0))
section
variable {w w' : World} {g : Nat} {t : TypeId} {cs : Array Value}
theorem Blk.lt (h : Blk w g t cs) : g < w.heap.size := lt_of_heap h
theorem Blk.cell (h : Blk w g t cs) (i : Nat) : w.cell? ⟨g, i, none⟩ = cs[i]? := cell_of_row w g i cs t (0, 0) h
theorem Blk.frozen (h : Blk w g t cs) (i : Nat) : w.frozen? ⟨g, i, none⟩ = false := by
 unfold Blk at h
 simp [World.frozen?, h]
theorem Blk.new (w : World) (t : TypeId) (cs : Array Value) : Blk (w.alloc (.cells cs t)) w.heap.size t cs := heap_alloc_new w _
theorem Blk.new' (w : World) (t : TypeId) (cs : Array Value) {n : Nat} (h : n = w.heap.size) : Blk (w.alloc (.cells cs t)) n t cs := by
 subst h
 exact Blk.new w t cs
theorem Blk.drew (h : Blk w g t cs) : Blk w.drew g t cs := h
theorem Blk.drewN (h : Blk w g t cs) (n : Nat) : Blk (w.drewN n) g t cs := h
theorem Blk.alloc (h : Blk w g t cs) (o : Obj) : Blk (w.alloc o) g t cs := (Below.heap_alloc w o g h.lt).trans h
theorem Blk.set_ (h : Blk w g t cs) (i : Nat) (u : Value) : Blk (w.setCell ⟨g, i, none⟩ u) g t (cs.setIfInBounds i u) := by
 unfold Blk at h ⊢
 simp [World.setCell, Array.getElem?_modify, h]
theorem Blk.far_ (h : Blk w g t cs) {p : Addr} (hp : g ≠ p.block) (u : Value) : Blk (w.setCell p u) g t cs := (Below.heap_setCell w p u g hp).trans h
theorem Blk.below {B : Nat} (h : Blk w g t cs) (hb : Below B w w') (hg : g < B) : Blk w' g t cs := (hb.block g hg).trans h
theorem Blk.far {o : Nat → Prop} (h : Blk w g t cs) (hb : Far o w w') (hg : ¬ o g) : Blk w' g t cs := (hb.block g h.lt hg).trans h
theorem own_blk_ne {base e size n : Nat} {v : Value} {xs : List Value} (h : w.ownsRow base e size v n xs) (hg : Blk w g t cs) (hne : e ≠ t) : v.ownBlock ≠ some g := by
 rcases h.2 with ⟨rfl, _⟩ | ⟨g', cap, cur, rfl, _, hh, _⟩
 · simp [Value.ownBlock]
 · intro he
   have : g' = g := by simpa [Value.ownBlock] using he
   subst this
   unfold Blk at hg
   rw [hg] at hh
   injection hh with hh
   injection hh with _ ht
   exact hne ht.symm
end
theorem own_far {w w' : World} {base e size n : Nat} {v : Value} {xs : List Value} (h : w.ownsRow base e size v n xs) (hk : ∀ g, v.ownBlock = some g → w'.heap[g]? = w.heap[g]?) : w'.ownsRow base e size v n xs := by
 obtain ⟨h1, h2⟩ := h
 refine ⟨h1, ?_⟩
 rcases h2 with h2 | ⟨g, cap, cur, rfl, hg, hh, r⟩
 · exact .inl h2
 · exact .inr ⟨g, cap, cur, rfl, hg, (hk g rfl).trans hh, r⟩
theorem own_own_ne {w : World} {base e size n base' e' size' n' : Nat} {v u : Value} {xs ys : List Value} (h : w.ownsRow base e size v n xs) (k : w.ownsRow base' e' size' u n' ys) (hne : e ≠ e') : u.ownBlock = none ∨ u.ownBlock ≠ v.ownBlock := by
 rcases k.2 with ⟨rfl, _⟩ | ⟨g', cap', cur', rfl, _, hh', _⟩
 · exact .inl rfl
 · right
   rcases h.2 with ⟨rfl, _⟩ | ⟨g, cap, cur, rfl, _, hh, _⟩
   · simp [Value.ownBlock]
   · intro he
     have : g' = g := by simpa [Value.ownBlock] using he
     subst this
     rw [hh] at hh'
     injection hh' with hh'
     injection hh' with _ ht
     exact hne ht
theorem own_some {w : World} {base e size n : Nat} {v : Value} {xs : List Value} (h : w.ownsRow base e size v n xs) (hn : 0 < n) : ∃ g cap, v = .slice (some ⟨g, 0, none⟩) n cap := by
 rcases h.2 with ⟨_, h0⟩ | ⟨g, cap, cur, hv, _⟩
 · omega
 · exact ⟨g, cap, hv⟩
theorem own_set {w : World} {base e size n : Nat} {v : Value} {xs : List Value} (h : w.ownsRow base e size v n xs) {p : Addr} (hp : v.ownBlock ≠ some p.block) (u : Value) : (w.setCell p u).ownsRow base e size v n xs :=
 own_far h fun g hg => Below.heap_setCell w p u g (by rintro rfl; exact hp hg)
theorem own_below {w w' : World} {B base e size n : Nat} {v : Value} {xs : List Value} (h : w.ownsRow base e size v n xs) (hb : Below B w w') (hB : w.heap.size ≤ B) : w'.ownsRow base e size v n xs :=
 own_far h fun g hg => hb.block g (by have := (h.lt g hg).2; omega)
/-- the grid that is being read: its box, and its row of spans -/
theorem grown_refl (w : World) (row : Option Nat) : w.grownBy w row := ⟨rfl, rfl, rfl, Nat.le_refl _, fun _ _ _ => rfl⟩
theorem grown_below {U w w' : World} {row : Option Nat} (h : U.grownBy w row) (hb : Below w.heap.size w w') : U.grownBy w' row :=
 ⟨hb.os.trans h.os, hb.tape.trans h.tape, hb.output.trans h.output, Nat.le_trans h.size hb.size, fun k hk hn => (hb.block k (Nat.lt_of_lt_of_le hk h.size)).trans (h.block k hk hn)⟩
theorem grown_trans {U w w' : World} {row row' : Option Nat} (h : U.grownBy w row) (hb : w.grownBy w' row') (hr : ∀ k, row' = some k → k < U.heap.size → row = some k) : U.grownBy w' row :=
 ⟨hb.os.trans h.os, hb.tape.trans h.tape, hb.output.trans h.output, Nat.le_trans h.size hb.size, fun k hk hn => (hb.block k (Nat.lt_of_lt_of_le hk h.size) (fun e => hn (hr k e.symm hk).symm)).trans (h.block k hk hn)⟩
theorem blk_grown {w w' : World} {row : Option Nat} {b t : Nat} {cs : Array Value} (h : Blk w b t cs) (hg : w.grownBy w' row) (hne : some b ≠ row) : Blk w' b t cs := by
 have hl := h.lt
 unfold Blk at *
 rw [hg.block b hl hne]
 exact h
theorem span_parts {w : World} {b t : Nat} {x y : Int} (h : Blk w b t #[.int .i64 x, .int .i64 y]) :
 w.cell? ⟨b, 0, none⟩ = some (.int .i64 x) ∧ w.cell? ⟨b, 1, none⟩ = some (.int .i64 y) ∧ w.frozen? ⟨b, 0, none⟩ = false ∧ w.frozen? ⟨b, 1, none⟩ = false :=
 ⟨h.cell 0, h.cell 1, h.frozen 0, h.frozen 1⟩
theorem span_res {w : World} {b t : Nat} {u0 u1 : Value} (h : Blk w b t #[u0, u1]) (x y : Value) (o : Obj) :
 (((w.setCell ⟨b, 0, none⟩ x).setCell ⟨b, 1, none⟩ y).alloc o).cell? ⟨b, 0, none⟩ = some x ∧ (((w.setCell ⟨b, 0, none⟩ x).setCell ⟨b, 1, none⟩ y).alloc o).cell? ⟨b, 1, none⟩ = some y := by
 have k := ((h.set_ 0 x).set_ 1 y).alloc o
 exact ⟨k.cell 0, k.cell 1⟩
/-- two new boxes of two integers each -/
def TwoBox (W0 : World) (t : Nat) (x y : Int × Int) (p q : Value) (W : World) : Prop := ∃ b c : Nat, p = .pointer (some ⟨b, 0, none⟩) ∧ q = .pointer (some ⟨c, 0, none⟩) ∧ Blk W b t #[.int .i64 x.1, .int .i64 x.2] ∧ Blk W c t #[.int .i64 y.1, .int .i64 y.2] ∧ b ≠ c ∧ W0.heap.size ≤ b ∧ W0.heap.size ≤ c ∧ Below W0.heap.size W0 W
theorem twoBox_set {W0 W : World} {t b c : Nat} {x y : Int × Int} {u0 u1 v0 v1 : Value} (hb : Blk W b t #[u0, u1]) (hc : Blk W c t #[v0, v1]) (hne : b ≠ c) (gb : W0.heap.size ≤ b) (gc : W0.heap.size ≤ c) (h : Below W0.heap.size W0 W) :
 TwoBox W0 t x y (.pointer (some ⟨b, 0, none⟩)) (.pointer (some ⟨c, 0, none⟩)) ((((W.setCell ⟨b, 0, none⟩ (.int .i64 x.1)).setCell ⟨b, 1, none⟩ (.int .i64 x.2)).setCell ⟨c, 0, none⟩ (.int .i64 y.1)).setCell ⟨c, 1, none⟩ (.int .i64 y.2)) := by
 have k1 := (((hb.set_ 0 (.int .i64 x.1)).set_ 1 (.int .i64 x.2)).far_ (p := ⟨c, 0, none⟩) hne (.int .i64 y.1)).far_ (p := ⟨c, 1, none⟩) hne (.int .i64 y.2)
 have k2 := (((hc.far_ (p := ⟨b, 0, none⟩) hne.symm (.int .i64 x.1)).far_ (p := ⟨b, 1, none⟩) hne.symm (.int .i64 x.2)).set_ 0 (.int .i64 y.1)).set_ 1 (.int .i64 y.2)
 exact ⟨b, c, rfl, rfl, k1, k2, hne, gb, gc, (((h.setCell gb _).setCell gb _).setCell gc _).setCell gc _⟩
theorem TwoBox.of {V0 W0 W : World} {t : Nat} {x y : Int × Int} {p q : Value} (h : TwoBox W0 t x y p q W) (hb : Below V0.heap.size V0 W0) : TwoBox V0 t x y p q W := by
 obtain ⟨b, c, rfl, rfl, k1, k2, hne, gb, gc, h⟩ := h
 exact ⟨b, c, rfl, rfl, k1, k2, hne, Nat.le_trans hb.size gb, Nat.le_trans hb.size gc, hb.trans (h.mono hb.size)⟩
theorem span_res2 {w : World} {b t : Nat} {u0 u1 : Value} (h : Blk w b t #[u0, u1]) (x y : Value) :
 ((w.setCell ⟨b, 0, none⟩ x).setCell ⟨b, 1, none⟩ y).cell? ⟨b, 0, none⟩ = some x ∧ ((w.setCell ⟨b, 0, none⟩ x).setCell ⟨b, 1, none⟩ y).cell? ⟨b, 1, none⟩ = some y := by
 have k := (h.set_ 0 x).set_ 1 y
 exact ⟨k.cell 0, k.cell 1⟩
theorem alloc2_eq {w : World} {t : Nat} {x y x' y' : Int} (hx : x = x') (hy : y = y') : w.alloc (.cells #[.int .i64 x, .int .i64 y] t) = w.alloc (.cells #[.int .i64 x', .int .i64 y'] t) := by rw [hx, hy]
section
variable {w w' : World} {b : Nat} {t : TypeId} {a c d e f g h i j : Value} {l : List Value}
theorem kcl0 (k : Hid (Blk w b t (a :: l).toArray)) : w.cell? ⟨b, 0, none⟩ = some a := k.out.cell 0
theorem kcl1 (k : Hid (Blk w b t (a :: c :: l).toArray)) : w.cell? ⟨b, 1, none⟩ = some c := k.out.cell 1
theorem kcl2 (k : Hid (Blk w b t (a :: c :: d :: l).toArray)) : w.cell? ⟨b, 2, none⟩ = some d := k.out.cell 2
theorem kcl3 (k : Hid (Blk w b t (a :: c :: d :: e :: l).toArray)) : w.cell? ⟨b, 3, none⟩ = some e := k.out.cell 3
theorem kcl4 (k : Hid (Blk w b t (a :: c :: d :: e :: f :: l).toArray)) : w.cell? ⟨b, 4, none⟩ = some f := k.out.cell 4
theorem kcl5 (k : Hid (Blk w b t (a :: c :: d :: e :: f :: g :: l).toArray)) : w.cell? ⟨b, 5, none⟩ = some g := k.out.cell 5
theorem kcl6 (k : Hid (Blk w b t (a :: c :: d :: e :: f :: g :: h :: l).toArray)) : w.cell? ⟨b, 6, none⟩ = some h := k.out.cell 6
theorem kcl7 (k : Hid (Blk w b t (a :: c :: d :: e :: f :: g :: h :: i :: l).toArray)) : w.cell? ⟨b, 7, none⟩ = some i := k.out.cell 7
theorem kcl8 (k : Hid (Blk w b t (a :: c :: d :: e :: f :: g :: h :: i :: j :: l).toArray)) : w.cell? ⟨b, 8, none⟩ = some j := k.out.cell 8
theorem kbl {cs : Array Value} (k : Hid (Blk w b t cs)) (z : Hid (Below w.heap.size w w')) : Hid (Blk w' b t cs) := Blk.below k z (Blk.lt k)
end
theorem ktr' {u w w' : World} (k : Hid (Below u.heap.size u w)) (z : Hid (Below w.heap.size w w')) : Hid (Below u.heap.size u w') := Below.trans k (Below.mono z (Below.size k))
theorem ksz : (∀ (a : Act) (d : Tmp) (v : Value), a.put (some d) v = { a with tmps := a.tmps.setIfInBounds d v }) ∧ (∀ (a : Act) (v : Value), a.put none v = a) ∧ (∀ (α : Type) (l : List α) (i : Nat) (x : α), l.toArray.setIfInBounds i x = (l.set i x).toArray) ∧ (∀ (α : Type) (a : α) (l : List α) (x : α), (a :: l).set 0 x = x :: l) ∧ (∀ (α : Type) (a : α) (l : List α) (n : Nat) (x : α), (a :: l).set (n + 1) x = a :: l.set n x) :=
  ⟨fun _ _ _ => rfl, fun _ _ => rfl, fun _ _ _ _ => List.setIfInBounds_toArray .., fun _ _ _ _ => rfl, fun _ _ _ _ _ => rfl⟩
end Go.Proofs.YtdhcdgfpkjdihaaDoor
