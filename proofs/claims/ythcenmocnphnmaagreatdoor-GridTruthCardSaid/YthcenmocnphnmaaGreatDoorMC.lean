/-
  The neighbors of a cell: the function that makes the iterator, and the iterator.
-/
import Derived.Test.YthcenmocnphnmaaGreatDoorMB
import Derived.RangeFuncNested
import Derived.RangeFuncBound
import Derived.RangeFuncCalls
import Derived.RangeFuncLeaves
import Derived.Shelf.Abstract
import Derived.Shelf.RegionOpen
import Derived.OwnWalkIn
import Derived.TacticsInMore
import Derived.LoopNIn
import Derived.LoopIn
set_option linter.unusedSimpArgs false
set_option linter.unusedVariables false
namespace Go.Proofs.YthcenmocnphnmaaGreatDoor
open Go.RowKit Go.Shelf
attribute [local go_sem] Oper.semAt_some

/-- what neighbors hands back: the iterator over its four boxes -/
def NbOut (W H S c : Int) (v : Value) (w : World) (e : Ending) (w' : World) : Prop := ∃ bx bg bc bY : Nat,
      e = .returned (.func (.func 82) #[] #[.pointer (some ⟨bx, 0, none⟩), .pointer (some ⟨bg, 0, none⟩), .pointer (some ⟨bc, 0, none⟩), .pointer (some ⟨bY, 0, none⟩)]) ∧
      Blk w' bx 3 #[.int .i64 (c % W)] ∧ Blk w' bg 24 #[.int .i64 W, .int .i64 H, .int .i64 S, v] ∧ Blk w' bc 3 #[.int .i64 c] ∧ Blk w' bY 3 #[.int .i64 (c / W)] ∧
      w.heap.size ≤ bx ∧ w.heap.size ≤ bg ∧ w.heap.size ≤ bc ∧ w.heap.size ≤ bY ∧ Below w.heap.size w w'

set_option maxHeartbeats 1000000 in
theorem neighbors_any (W H S c : Int) (A : Option Addr) (n k : Nat) (w : World) (hW : 1 ≤ W) (hc : 0 ≤ c) (hc' : c ≤ 65536) :
    Calls Tryz.prog 52 #[.agg #[.int .i64 W, .int .i64 H, .int .i64 S, .slice A n k], .int .i64 c] w (NbOut W H S c (.slice A n k) w) := by
  have hW0 : (W == 0) = false := by simp; omega
  have hW1 : (0 : Int) ≤ c / W := Int.ediv_nonneg hc (by omega)
  have hW2 : c / W ≤ c := Int.ediv_le_self _ hc
  go_enter Tryz.func52, Tryz.ntmps52
  go_wp2
  go_region
  all_goals
    go_wp2
    go_ret
    refine ⟨_, _, _, _, rfl, ?_, ?_, ?_, ?_, ?_, ?_, ?_, ?_, ?_⟩
  · exact Blk.drew (Blk.alloc (Blk.new' _ _ _ (by simp)) _)
  · exact Blk.drew (Blk.alloc (Blk.alloc (Blk.alloc (Blk.new' _ _ _ rfl) _) _) _)
  · exact Blk.drew (Blk.alloc (Blk.alloc (Blk.new' _ _ _ (by simp)) _) _)
  · exact Blk.drew (Blk.new' _ _ _ (by simp))
  · omega
  · omega
  · omega
  · omega
  · exact (by repeat (first | exact Below.refl _ _ | assumption | refine Below.drew ?_ | refine Below.drewN' ?_ _ | (refine Below.alloc ?_ (by simp <;> omega) _) | (refine Below.setCell ?_ (by simp <;> omega) _)))
  · exact Blk.drew (Blk.new' _ _ _ (by simp))
  · exact Blk.drew (Blk.alloc (Blk.alloc (Blk.alloc (Blk.new' _ _ _ rfl) _) _) _)
  · exact Blk.drew (Blk.alloc (Blk.alloc (Blk.new' _ _ _ (by simp)) _) _)
  · exact Blk.drew (Blk.alloc (Blk.new' _ _ _ (by simp)) _)
  · omega
  · omega
  · omega
  · omega
  · exact (by repeat (first | exact Below.refl _ _ | assumption | refine Below.drew ?_ | refine Below.drewN' ?_ _ | (refine Below.alloc ?_ (by simp <;> omega) _) | (refine Below.setCell ?_ (by simp <;> omega) _)))
end Go.Proofs.YthcenmocnphnmaaGreatDoor
/-
  The iterator over the neighbors of a cell: it yields them in their order, whatever a round does elsewhere.
-/
namespace Go.Proofs.YthcenmocnphnmaaGreatDoor
open Go.RowKit Go.Shelf
attribute [local go_sem] Oper.semAt_some

/-- a round keeps the four boxes -/
def NbKp (bx bg bc bY : Nat) (A B : World) : Prop := B.heap[bx]? = A.heap[bx]? ∧ B.heap[bg]? = A.heap[bg]? ∧ B.heap[bc]? = A.heap[bc]? ∧ B.heap[bY]? = A.heap[bY]?
structure NbBoxes (w : World) (bx bg bc bY : Nat) (W H c X Y : Int) : Prop where
  x0 : w.cell? ⟨bx, 0, none⟩ = some (.int .i64 X)
  g0 : w.cell? ⟨bg, 0, none⟩ = some (.int .i64 W)
  g1 : w.cell? ⟨bg, 1, none⟩ = some (.int .i64 H)
  c0 : w.cell? ⟨bc, 0, none⟩ = some (.int .i64 c)
  y0 : w.cell? ⟨bY, 0, none⟩ = some (.int .i64 Y)
theorem NbBoxes.keep {w w' : World} {bx bg bc bY : Nat} {W H c X Y : Int} (h : NbBoxes w bx bg bc bY W H c X Y) (hk : NbKp bx bg bc bY w w') : NbBoxes w' bx bg bc bY W H c X Y :=
  ⟨(World.cell?_of_block hk.1).trans h.x0, (World.cell?_of_block hk.2.1).trans h.g0, (World.cell?_of_block hk.2.1).trans h.g1, (World.cell?_of_block hk.2.2.1).trans h.c0, (World.cell?_of_block hk.2.2.2).trans h.y0⟩
def nbl (W H c X Y : Int) : List Int := (if X + 1 < W then [c + 1] else []) ++ ((if Y + 1 < H then [c + W] else []) ++ ((if 0 < X then [c - 1] else []) ++ (if 0 < Y then [c - W] else [])))
def NbPost {α : Type} (L : List α) (J Jx : List α → World → Prop) (e : Ending) (W' : World) : Prop :=
  (∃ v, e = .returned v) ∧ ((∃ xs, xs = L ∧ J xs W') ∨ (∃ pre, pre <+: L ∧ Jx pre W'))
end Go.Proofs.YthcenmocnphnmaaGreatDoor
/-
  The iterator over the neighbors of a cell, 1 of 4.
-/
namespace Go.Proofs.YthcenmocnphnmaaGreatDoor
open Go.RowKit Go.Shelf
attribute [local go_sem] Oper.semAt_some

set_option maxHeartbeats 1000000 in
theorem nb_1111 {α : Type} (num : α → Int) (n : Nat) (hn : 1 ≤ n) (l bx bg bc bY : Nat) (W H c X Y : Int) (J Jx : List α → World → Prop) (w : World) (hb : NbBoxes w bx bg bc bY W H c X Y)
    (r1 : 0 ≤ X) (r2 : X ≤ 65536) (r3 : 0 ≤ Y) (r4 : Y ≤ 65536) (r5 : 0 ≤ c) (r6 : c ≤ 65536) (r7 : 0 ≤ W) (r8 : W ≤ 65536) (h1 : X + 1 < W) (h2 : Y + 1 < H) (h3 : 0 < X) (h4 : 0 < Y) (a1 a2 a3 a4 : α) (e1 : num a1 = c + 1) (e2 : num a2 = c + W) (e3 : num a3 = c - 1) (e4 : num a4 = c - W)
    (hY : ∀ pre x W1, J pre W1 → pre.length < 4 → YieldAt Fence.wide (n - 1) Tryz.prog l #[.int .i64 (num x)] W1 fun e W' => (e = .returned (.bool true) ∧ J (pre ++ [x]) W' ∧ NbKp bx bg bc bY W1 W') ∨ (e = .returned (.bool false) ∧ Jx (pre ++ [x]) W'))
    (h0 : J [] w) :
    CallsIn Fence.wide n Tryz.prog 82 #[.func (.yield l) #[] #[], .pointer (some ⟨bx, 0, none⟩), .pointer (some ⟨bg, 0, none⟩), .pointer (some ⟨bc, 0, none⟩), .pointer (some ⟨bY, 0, none⟩)] w (NbPost [a1, a2, a3, a4] J Jx) := by
  refine callsIn_of_wp Tryz.func82 rfl trivial ?_ rfl
  simp only [Tryz.ntmps82, List.size_toArray, List.length_cons, List.length_nil, Nat.reduceAdd, Nat.reduceSub, Array.replicate_succ, Array.replicate_zero, List.push_toArray, List.append_toArray, List.nil_append, List.cons_append]
  have HB0 := Lib.hid hb
  have HY := Lib.hid hY
  obtain ⟨x0, g0, g1, c0, y0⟩ := hb
  clear hY
  obtain ⟨fn0, tmps0, as0, body0, hy, hR⟩ := HY.out [] a1 _ h0 (by simp)
  rw [e1] at hy
  have HR := Lib.hid hR
  clear hR
  gi_wp2
  first | (refine HR.out.mono ?_) | (refine ⟨fun _ h => (by cases h), ?_⟩; gi_wp2; first | (refine HR.out.mono ?_) | (refine ⟨fun _ h => (by cases h), ?_⟩; gi_wp2; first | (refine HR.out.mono ?_) | (refine ⟨fun _ h => (by cases h), ?_⟩; gi_wp2; refine HR.out.mono ?_)))
  clear hy HR x0 g0 g1 c0 y0
  rintro e W1 (⟨rfl, hJ1, hk⟩ | ⟨rfl, hJx⟩)
  rotate_left
  · gi_wp2
    refine bodyPost_ret (results_none rfl _ _ _) rfl ?_
    exact ⟨⟨_, rfl⟩, .inr ⟨_, ⟨[a2, a3, a4], rfl⟩, hJx⟩⟩
  have HB1 := Lib.hid (HB0.out.keep hk)
  clear hk HB0
  obtain ⟨x0, g0, g1, c0, y0⟩ := HB1.out
  obtain ⟨fn1, tmps1, as1, body1, hy, hR⟩ := HY.out [a1] a2 _ hJ1 (by simp)
  rw [e2] at hy
  have HR := Lib.hid hR
  clear hR
  gi_wp2
  first | (refine HR.out.mono ?_) | (refine ⟨fun _ h => (by cases h), ?_⟩; gi_wp2; first | (refine HR.out.mono ?_) | (refine ⟨fun _ h => (by cases h), ?_⟩; gi_wp2; first | (refine HR.out.mono ?_) | (refine ⟨fun _ h => (by cases h), ?_⟩; gi_wp2; refine HR.out.mono ?_)))
  clear hy HR x0 g0 g1 c0 y0
  rintro e W2 (⟨rfl, hJ2, hk⟩ | ⟨rfl, hJx⟩)
  rotate_left
  · gi_wp2
    refine bodyPost_ret (results_none rfl _ _ _) rfl ?_
    exact ⟨⟨_, rfl⟩, .inr ⟨_, ⟨[a3, a4], rfl⟩, hJx⟩⟩
  have HB2 := Lib.hid (HB1.out.keep hk)
  clear hk HB1
  obtain ⟨x0, g0, g1, c0, y0⟩ := HB2.out
  obtain ⟨fn2, tmps2, as2, body2, hy, hR⟩ := HY.out [a1, a2] a3 _ hJ2 (by simp)
  rw [e3] at hy
  have HR := Lib.hid hR
  clear hR
  gi_wp2
  first | (refine HR.out.mono ?_) | (refine ⟨fun _ h => (by cases h), ?_⟩; gi_wp2; first | (refine HR.out.mono ?_) | (refine ⟨fun _ h => (by cases h), ?_⟩; gi_wp2; first | (refine HR.out.mono ?_) | (refine ⟨fun _ h => (by cases h), ?_⟩; gi_wp2; refine HR.out.mono ?_)))
  clear hy HR x0 g0 g1 c0 y0
  rintro e W3 (⟨rfl, hJ3, hk⟩ | ⟨rfl, hJx⟩)
  rotate_left
  · gi_wp2
    refine bodyPost_ret (results_none rfl _ _ _) rfl ?_
    exact ⟨⟨_, rfl⟩, .inr ⟨_, ⟨[a4], rfl⟩, hJx⟩⟩
  have HB3 := Lib.hid (HB2.out.keep hk)
  clear hk HB2
  obtain ⟨x0, g0, g1, c0, y0⟩ := HB3.out
  obtain ⟨fn3, tmps3, as3, body3, hy, hR⟩ := HY.out [a1, a2, a3] a4 _ hJ3 (by simp)
  rw [e4] at hy
  have HR := Lib.hid hR
  clear hR
  gi_wp2
  first | (refine HR.out.mono ?_) | (refine ⟨fun _ h => (by cases h), ?_⟩; gi_wp2; first | (refine HR.out.mono ?_) | (refine ⟨fun _ h => (by cases h), ?_⟩; gi_wp2; first | (refine HR.out.mono ?_) | (refine ⟨fun _ h => (by cases h), ?_⟩; gi_wp2; refine HR.out.mono ?_)))
  clear hy HR x0 g0 g1 c0 y0
  rintro e W4 (⟨rfl, hJ4, hk⟩ | ⟨rfl, hJx⟩)
  rotate_left
  · gi_wp2
    go_end0
    exact ⟨⟨_, rfl⟩, .inr ⟨_, ⟨[], rfl⟩, hJx⟩⟩
  have HB4 := Lib.hid (HB3.out.keep hk)
  clear hk HB3
  obtain ⟨x0, g0, g1, c0, y0⟩ := HB4.out
  gi_wp2
  first | (go_end0) | (refine ⟨fun _ h => (by cases h), ?_⟩; gi_wp2; first | (go_end0) | (refine ⟨fun _ h => (by cases h), ?_⟩; gi_wp2; first | (go_end0) | (refine ⟨fun _ h => (by cases h), ?_⟩; gi_wp2; go_end0)))
  exact ⟨⟨_, rfl⟩, .inl ⟨_, rfl, hJ4⟩⟩

set_option maxHeartbeats 1000000 in
theorem nb_1110 {α : Type} (num : α → Int) (n : Nat) (hn : 1 ≤ n) (l bx bg bc bY : Nat) (W H c X Y : Int) (J Jx : List α → World → Prop) (w : World) (hb : NbBoxes w bx bg bc bY W H c X Y)
    (r1 : 0 ≤ X) (r2 : X ≤ 65536) (r3 : 0 ≤ Y) (r4 : Y ≤ 65536) (r5 : 0 ≤ c) (r6 : c ≤ 65536) (r7 : 0 ≤ W) (r8 : W ≤ 65536) (h1 : X + 1 < W) (h2 : Y + 1 < H) (h3 : 0 < X) (h4 : Y ≤ 0) (a1 a2 a3 : α) (e1 : num a1 = c + 1) (e2 : num a2 = c + W) (e3 : num a3 = c - 1)
    (hY : ∀ pre x W1, J pre W1 → pre.length < 3 → YieldAt Fence.wide (n - 1) Tryz.prog l #[.int .i64 (num x)] W1 fun e W' => (e = .returned (.bool true) ∧ J (pre ++ [x]) W' ∧ NbKp bx bg bc bY W1 W') ∨ (e = .returned (.bool false) ∧ Jx (pre ++ [x]) W'))
    (h0 : J [] w) :
    CallsIn Fence.wide n Tryz.prog 82 #[.func (.yield l) #[] #[], .pointer (some ⟨bx, 0, none⟩), .pointer (some ⟨bg, 0, none⟩), .pointer (some ⟨bc, 0, none⟩), .pointer (some ⟨bY, 0, none⟩)] w (NbPost [a1, a2, a3] J Jx) := by
  refine callsIn_of_wp Tryz.func82 rfl trivial ?_ rfl
  simp only [Tryz.ntmps82, List.size_toArray, List.length_cons, List.length_nil, Nat.reduceAdd, Nat.reduceSub, Array.replicate_succ, Array.replicate_zero, List.push_toArray, List.append_toArray, List.nil_append, List.cons_append]
  have HB0 := Lib.hid hb
  have HY := Lib.hid hY
  obtain ⟨x0, g0, g1, c0, y0⟩ := hb
  clear hY
  obtain ⟨fn0, tmps0, as0, body0, hy, hR⟩ := HY.out [] a1 _ h0 (by simp)
  rw [e1] at hy
  have HR := Lib.hid hR
  clear hR
  gi_wp2
  first | (refine HR.out.mono ?_) | (refine ⟨fun _ h => (by cases h), ?_⟩; gi_wp2; first | (refine HR.out.mono ?_) | (refine ⟨fun _ h => (by cases h), ?_⟩; gi_wp2; first | (refine HR.out.mono ?_) | (refine ⟨fun _ h => (by cases h), ?_⟩; gi_wp2; refine HR.out.mono ?_)))
  clear hy HR x0 g0 g1 c0 y0
  rintro e W1 (⟨rfl, hJ1, hk⟩ | ⟨rfl, hJx⟩)
  rotate_left
  · gi_wp2
    refine bodyPost_ret (results_none rfl _ _ _) rfl ?_
    exact ⟨⟨_, rfl⟩, .inr ⟨_, ⟨[a2, a3], rfl⟩, hJx⟩⟩
  have HB1 := Lib.hid (HB0.out.keep hk)
  clear hk HB0
  obtain ⟨x0, g0, g1, c0, y0⟩ := HB1.out
  obtain ⟨fn1, tmps1, as1, body1, hy, hR⟩ := HY.out [a1] a2 _ hJ1 (by simp)
  rw [e2] at hy
  have HR := Lib.hid hR
  clear hR
  gi_wp2
  first | (refine HR.out.mono ?_) | (refine ⟨fun _ h => (by cases h), ?_⟩; gi_wp2; first | (refine HR.out.mono ?_) | (refine ⟨fun _ h => (by cases h), ?_⟩; gi_wp2; first | (refine HR.out.mono ?_) | (refine ⟨fun _ h => (by cases h), ?_⟩; gi_wp2; refine HR.out.mono ?_)))
  clear hy HR x0 g0 g1 c0 y0
  rintro e W2 (⟨rfl, hJ2, hk⟩ | ⟨rfl, hJx⟩)
  rotate_left
  · gi_wp2
    refine bodyPost_ret (results_none rfl _ _ _) rfl ?_
    exact ⟨⟨_, rfl⟩, .inr ⟨_, ⟨[a3], rfl⟩, hJx⟩⟩
  have HB2 := Lib.hid (HB1.out.keep hk)
  clear hk HB1
  obtain ⟨x0, g0, g1, c0, y0⟩ := HB2.out
  obtain ⟨fn2, tmps2, as2, body2, hy, hR⟩ := HY.out [a1, a2] a3 _ hJ2 (by simp)
  rw [e3] at hy
  have HR := Lib.hid hR
  clear hR
  gi_wp2
  first | (refine HR.out.mono ?_) | (refine ⟨fun _ h => (by cases h), ?_⟩; gi_wp2; first | (refine HR.out.mono ?_) | (refine ⟨fun _ h => (by cases h), ?_⟩; gi_wp2; first | (refine HR.out.mono ?_) | (refine ⟨fun _ h => (by cases h), ?_⟩; gi_wp2; refine HR.out.mono ?_)))
  clear hy HR x0 g0 g1 c0 y0
  rintro e W3 (⟨rfl, hJ3, hk⟩ | ⟨rfl, hJx⟩)
  rotate_left
  · gi_wp2
    refine bodyPost_ret (results_none rfl _ _ _) rfl ?_
    exact ⟨⟨_, rfl⟩, .inr ⟨_, ⟨[], rfl⟩, hJx⟩⟩
  have HB3 := Lib.hid (HB2.out.keep hk)
  clear hk HB2
  obtain ⟨x0, g0, g1, c0, y0⟩ := HB3.out
  gi_wp2
  first | (go_end0) | (refine ⟨fun _ h => (by cases h), ?_⟩; gi_wp2; first | (go_end0) | (refine ⟨fun _ h => (by cases h), ?_⟩; gi_wp2; first | (go_end0) | (refine ⟨fun _ h => (by cases h), ?_⟩; gi_wp2; go_end0)))
  exact ⟨⟨_, rfl⟩, .inl ⟨_, rfl, hJ3⟩⟩

set_option maxHeartbeats 1000000 in
theorem nb_1101 {α : Type} (num : α → Int) (n : Nat) (hn : 1 ≤ n) (l bx bg bc bY : Nat) (W H c X Y : Int) (J Jx : List α → World → Prop) (w : World) (hb : NbBoxes w bx bg bc bY W H c X Y)
    (r1 : 0 ≤ X) (r2 : X ≤ 65536) (r3 : 0 ≤ Y) (r4 : Y ≤ 65536) (r5 : 0 ≤ c) (r6 : c ≤ 65536) (r7 : 0 ≤ W) (r8 : W ≤ 65536) (h1 : X + 1 < W) (h2 : Y + 1 < H) (h3 : X ≤ 0) (h4 : 0 < Y) (a1 a2 a3 : α) (e1 : num a1 = c + 1) (e2 : num a2 = c + W) (e3 : num a3 = c - W)
    (hY : ∀ pre x W1, J pre W1 → pre.length < 3 → YieldAt Fence.wide (n - 1) Tryz.prog l #[.int .i64 (num x)] W1 fun e W' => (e = .returned (.bool true) ∧ J (pre ++ [x]) W' ∧ NbKp bx bg bc bY W1 W') ∨ (e = .returned (.bool false) ∧ Jx (pre ++ [x]) W'))
    (h0 : J [] w) :
    CallsIn Fence.wide n Tryz.prog 82 #[.func (.yield l) #[] #[], .pointer (some ⟨bx, 0, none⟩), .pointer (some ⟨bg, 0, none⟩), .pointer (some ⟨bc, 0, none⟩), .pointer (some ⟨bY, 0, none⟩)] w (NbPost [a1, a2, a3] J Jx) := by
  refine callsIn_of_wp Tryz.func82 rfl trivial ?_ rfl
  simp only [Tryz.ntmps82, List.size_toArray, List.length_cons, List.length_nil, Nat.reduceAdd, Nat.reduceSub, Array.replicate_succ, Array.replicate_zero, List.push_toArray, List.append_toArray, List.nil_append, List.cons_append]
  have HB0 := Lib.hid hb
  have HY := Lib.hid hY
  obtain ⟨x0, g0, g1, c0, y0⟩ := hb
  clear hY
  obtain ⟨fn0, tmps0, as0, body0, hy, hR⟩ := HY.out [] a1 _ h0 (by simp)
  rw [e1] at hy
  have HR := Lib.hid hR
  clear hR
  gi_wp2
  first | (refine HR.out.mono ?_) | (refine ⟨fun _ h => (by cases h), ?_⟩; gi_wp2; first | (refine HR.out.mono ?_) | (refine ⟨fun _ h => (by cases h), ?_⟩; gi_wp2; first | (refine HR.out.mono ?_) | (refine ⟨fun _ h => (by cases h), ?_⟩; gi_wp2; refine HR.out.mono ?_)))
  clear hy HR x0 g0 g1 c0 y0
  rintro e W1 (⟨rfl, hJ1, hk⟩ | ⟨rfl, hJx⟩)
  rotate_left
  · gi_wp2
    refine bodyPost_ret (results_none rfl _ _ _) rfl ?_
    exact ⟨⟨_, rfl⟩, .inr ⟨_, ⟨[a2, a3], rfl⟩, hJx⟩⟩
  have HB1 := Lib.hid (HB0.out.keep hk)
  clear hk HB0
  obtain ⟨x0, g0, g1, c0, y0⟩ := HB1.out
  obtain ⟨fn1, tmps1, as1, body1, hy, hR⟩ := HY.out [a1] a2 _ hJ1 (by simp)
  rw [e2] at hy
  have HR := Lib.hid hR
  clear hR
  gi_wp2
  first | (refine HR.out.mono ?_) | (refine ⟨fun _ h => (by cases h), ?_⟩; gi_wp2; first | (refine HR.out.mono ?_) | (refine ⟨fun _ h => (by cases h), ?_⟩; gi_wp2; first | (refine HR.out.mono ?_) | (refine ⟨fun _ h => (by cases h), ?_⟩; gi_wp2; refine HR.out.mono ?_)))
  clear hy HR x0 g0 g1 c0 y0
  rintro e W2 (⟨rfl, hJ2, hk⟩ | ⟨rfl, hJx⟩)
  rotate_left
  · gi_wp2
    refine bodyPost_ret (results_none rfl _ _ _) rfl ?_
    exact ⟨⟨_, rfl⟩, .inr ⟨_, ⟨[a3], rfl⟩, hJx⟩⟩
  have HB2 := Lib.hid (HB1.out.keep hk)
  clear hk HB1
  obtain ⟨x0, g0, g1, c0, y0⟩ := HB2.out
  obtain ⟨fn2, tmps2, as2, body2, hy, hR⟩ := HY.out [a1, a2] a3 _ hJ2 (by simp)
  rw [e3] at hy
  have HR := Lib.hid hR
  clear hR
  gi_wp2
  first | (refine HR.out.mono ?_) | (refine ⟨fun _ h => (by cases h), ?_⟩; gi_wp2; first | (refine HR.out.mono ?_) | (refine ⟨fun _ h => (by cases h), ?_⟩; gi_wp2; first | (refine HR.out.mono ?_) | (refine ⟨fun _ h => (by cases h), ?_⟩; gi_wp2; refine HR.out.mono ?_)))
  clear hy HR x0 g0 g1 c0 y0
  rintro e W3 (⟨rfl, hJ3, hk⟩ | ⟨rfl, hJx⟩)
  rotate_left
  · gi_wp2
    go_end0
    exact ⟨⟨_, rfl⟩, .inr ⟨_, ⟨[], rfl⟩, hJx⟩⟩
  have HB3 := Lib.hid (HB2.out.keep hk)
  clear hk HB2
  obtain ⟨x0, g0, g1, c0, y0⟩ := HB3.out
  gi_wp2
  first | (go_end0) | (refine ⟨fun _ h => (by cases h), ?_⟩; gi_wp2; first | (go_end0) | (refine ⟨fun _ h => (by cases h), ?_⟩; gi_wp2; first | (go_end0) | (refine ⟨fun _ h => (by cases h), ?_⟩; gi_wp2; go_end0)))
  exact ⟨⟨_, rfl⟩, .inl ⟨_, rfl, hJ3⟩⟩

set_option maxHeartbeats 1000000 in
theorem nb_1100 {α : Type} (num : α → Int) (n : Nat) (hn : 1 ≤ n) (l bx bg bc bY : Nat) (W H c X Y : Int) (J Jx : List α → World → Prop) (w : World) (hb : NbBoxes w bx bg bc bY W H c X Y)
    (r1 : 0 ≤ X) (r2 : X ≤ 65536) (r3 : 0 ≤ Y) (r4 : Y ≤ 65536) (r5 : 0 ≤ c) (r6 : c ≤ 65536) (r7 : 0 ≤ W) (r8 : W ≤ 65536) (h1 : X + 1 < W) (h2 : Y + 1 < H) (h3 : X ≤ 0) (h4 : Y ≤ 0) (a1 a2 : α) (e1 : num a1 = c + 1) (e2 : num a2 = c + W)
    (hY : ∀ pre x W1, J pre W1 → pre.length < 2 → YieldAt Fence.wide (n - 1) Tryz.prog l #[.int .i64 (num x)] W1 fun e W' => (e = .returned (.bool true) ∧ J (pre ++ [x]) W' ∧ NbKp bx bg bc bY W1 W') ∨ (e = .returned (.bool false) ∧ Jx (pre ++ [x]) W'))
    (h0 : J [] w) :
    CallsIn Fence.wide n Tryz.prog 82 #[.func (.yield l) #[] #[], .pointer (some ⟨bx, 0, none⟩), .pointer (some ⟨bg, 0, none⟩), .pointer (some ⟨bc, 0, none⟩), .pointer (some ⟨bY, 0, none⟩)] w (NbPost [a1, a2] J Jx) := by
  refine callsIn_of_wp Tryz.func82 rfl trivial ?_ rfl
  simp only [Tryz.ntmps82, List.size_toArray, List.length_cons, List.length_nil, Nat.reduceAdd, Nat.reduceSub, Array.replicate_succ, Array.replicate_zero, List.push_toArray, List.append_toArray, List.nil_append, List.cons_append]
  have HB0 := Lib.hid hb
  have HY := Lib.hid hY
  obtain ⟨x0, g0, g1, c0, y0⟩ := hb
  clear hY
  obtain ⟨fn0, tmps0, as0, body0, hy, hR⟩ := HY.out [] a1 _ h0 (by simp)
  rw [e1] at hy
  have HR := Lib.hid hR
  clear hR
  gi_wp2
  first | (refine HR.out.mono ?_) | (refine ⟨fun _ h => (by cases h), ?_⟩; gi_wp2; first | (refine HR.out.mono ?_) | (refine ⟨fun _ h => (by cases h), ?_⟩; gi_wp2; first | (refine HR.out.mono ?_) | (refine ⟨fun _ h => (by cases h), ?_⟩; gi_wp2; refine HR.out.mono ?_)))
  clear hy HR x0 g0 g1 c0 y0
  rintro e W1 (⟨rfl, hJ1, hk⟩ | ⟨rfl, hJx⟩)
  rotate_left
  · gi_wp2
    refine bodyPost_ret (results_none rfl _ _ _) rfl ?_
    exact ⟨⟨_, rfl⟩, .inr ⟨_, ⟨[a2], rfl⟩, hJx⟩⟩
  have HB1 := Lib.hid (HB0.out.keep hk)
  clear hk HB0
  obtain ⟨x0, g0, g1, c0, y0⟩ := HB1.out
  obtain ⟨fn1, tmps1, as1, body1, hy, hR⟩ := HY.out [a1] a2 _ hJ1 (by simp)
  rw [e2] at hy
  have HR := Lib.hid hR
  clear hR
  gi_wp2
  first | (refine HR.out.mono ?_) | (refine ⟨fun _ h => (by cases h), ?_⟩; gi_wp2; first | (refine HR.out.mono ?_) | (refine ⟨fun _ h => (by cases h), ?_⟩; gi_wp2; first | (refine HR.out.mono ?_) | (refine ⟨fun _ h => (by cases h), ?_⟩; gi_wp2; refine HR.out.mono ?_)))
  clear hy HR x0 g0 g1 c0 y0
  rintro e W2 (⟨rfl, hJ2, hk⟩ | ⟨rfl, hJx⟩)
  rotate_left
  · gi_wp2
    refine bodyPost_ret (results_none rfl _ _ _) rfl ?_
    exact ⟨⟨_, rfl⟩, .inr ⟨_, ⟨[], rfl⟩, hJx⟩⟩
  have HB2 := Lib.hid (HB1.out.keep hk)
  clear hk HB1
  obtain ⟨x0, g0, g1, c0, y0⟩ := HB2.out
  gi_wp2
  first | (go_end0) | (refine ⟨fun _ h => (by cases h), ?_⟩; gi_wp2; first | (go_end0) | (refine ⟨fun _ h => (by cases h), ?_⟩; gi_wp2; first | (go_end0) | (refine ⟨fun _ h => (by cases h), ?_⟩; gi_wp2; go_end0)))
  exact ⟨⟨_, rfl⟩, .inl ⟨_, rfl, hJ2⟩⟩
end Go.Proofs.YthcenmocnphnmaaGreatDoor
/-
  The iterator over the neighbors of a cell, 2 of 4.
-/
namespace Go.Proofs.YthcenmocnphnmaaGreatDoor
open Go.RowKit Go.Shelf
attribute [local go_sem] Oper.semAt_some

set_option maxHeartbeats 1000000 in
theorem nb_1011 {α : Type} (num : α → Int) (n : Nat) (hn : 1 ≤ n) (l bx bg bc bY : Nat) (W H c X Y : Int) (J Jx : List α → World → Prop) (w : World) (hb : NbBoxes w bx bg bc bY W H c X Y)
    (r1 : 0 ≤ X) (r2 : X ≤ 65536) (r3 : 0 ≤ Y) (r4 : Y ≤ 65536) (r5 : 0 ≤ c) (r6 : c ≤ 65536) (r7 : 0 ≤ W) (r8 : W ≤ 65536) (h1 : X + 1 < W) (h2 : H ≤ Y + 1) (h3 : 0 < X) (h4 : 0 < Y) (a1 a2 a3 : α) (e1 : num a1 = c + 1) (e2 : num a2 = c - 1) (e3 : num a3 = c - W)
    (hY : ∀ pre x W1, J pre W1 → pre.length < 3 → YieldAt Fence.wide (n - 1) Tryz.prog l #[.int .i64 (num x)] W1 fun e W' => (e = .returned (.bool true) ∧ J (pre ++ [x]) W' ∧ NbKp bx bg bc bY W1 W') ∨ (e = .returned (.bool false) ∧ Jx (pre ++ [x]) W'))
    (h0 : J [] w) :
    CallsIn Fence.wide n Tryz.prog 82 #[.func (.yield l) #[] #[], .pointer (some ⟨bx, 0, none⟩), .pointer (some ⟨bg, 0, none⟩), .pointer (some ⟨bc, 0, none⟩), .pointer (some ⟨bY, 0, none⟩)] w (NbPost [a1, a2, a3] J Jx) := by
  refine callsIn_of_wp Tryz.func82 rfl trivial ?_ rfl
  simp only [Tryz.ntmps82, List.size_toArray, List.length_cons, List.length_nil, Nat.reduceAdd, Nat.reduceSub, Array.replicate_succ, Array.replicate_zero, List.push_toArray, List.append_toArray, List.nil_append, List.cons_append]
  have HB0 := Lib.hid hb
  have HY := Lib.hid hY
  obtain ⟨x0, g0, g1, c0, y0⟩ := hb
  clear hY
  obtain ⟨fn0, tmps0, as0, body0, hy, hR⟩ := HY.out [] a1 _ h0 (by simp)
  rw [e1] at hy
  have HR := Lib.hid hR
  clear hR
  gi_wp2
  first | (refine HR.out.mono ?_) | (refine ⟨fun _ h => (by cases h), ?_⟩; gi_wp2; first | (refine HR.out.mono ?_) | (refine ⟨fun _ h => (by cases h), ?_⟩; gi_wp2; first | (refine HR.out.mono ?_) | (refine ⟨fun _ h => (by cases h), ?_⟩; gi_wp2; refine HR.out.mono ?_)))
  clear hy HR x0 g0 g1 c0 y0
  rintro e W1 (⟨rfl, hJ1, hk⟩ | ⟨rfl, hJx⟩)
  rotate_left
  · gi_wp2
    refine bodyPost_ret (results_none rfl _ _ _) rfl ?_
    exact ⟨⟨_, rfl⟩, .inr ⟨_, ⟨[a2, a3], rfl⟩, hJx⟩⟩
  have HB1 := Lib.hid (HB0.out.keep hk)
  clear hk HB0
  obtain ⟨x0, g0, g1, c0, y0⟩ := HB1.out
  obtain ⟨fn1, tmps1, as1, body1, hy, hR⟩ := HY.out [a1] a2 _ hJ1 (by simp)
  rw [e2] at hy
  have HR := Lib.hid hR
  clear hR
  gi_wp2
  first | (refine HR.out.mono ?_) | (refine ⟨fun _ h => (by cases h), ?_⟩; gi_wp2; first | (refine HR.out.mono ?_) | (refine ⟨fun _ h => (by cases h), ?_⟩; gi_wp2; first | (refine HR.out.mono ?_) | (refine ⟨fun _ h => (by cases h), ?_⟩; gi_wp2; refine HR.out.mono ?_)))
  clear hy HR x0 g0 g1 c0 y0
  rintro e W2 (⟨rfl, hJ2, hk⟩ | ⟨rfl, hJx⟩)
  rotate_left
  · gi_wp2
    refine bodyPost_ret (results_none rfl _ _ _) rfl ?_
    exact ⟨⟨_, rfl⟩, .inr ⟨_, ⟨[a3], rfl⟩, hJx⟩⟩
  have HB2 := Lib.hid (HB1.out.keep hk)
  clear hk HB1
  obtain ⟨x0, g0, g1, c0, y0⟩ := HB2.out
  obtain ⟨fn2, tmps2, as2, body2, hy, hR⟩ := HY.out [a1, a2] a3 _ hJ2 (by simp)
  rw [e3] at hy
  have HR := Lib.hid hR
  clear hR
  gi_wp2
  first | (refine HR.out.mono ?_) | (refine ⟨fun _ h => (by cases h), ?_⟩; gi_wp2; first | (refine HR.out.mono ?_) | (refine ⟨fun _ h => (by cases h), ?_⟩; gi_wp2; first | (refine HR.out.mono ?_) | (refine ⟨fun _ h => (by cases h), ?_⟩; gi_wp2; refine HR.out.mono ?_)))
  clear hy HR x0 g0 g1 c0 y0
  rintro e W3 (⟨rfl, hJ3, hk⟩ | ⟨rfl, hJx⟩)
  rotate_left
  · gi_wp2
    go_end0
    exact ⟨⟨_, rfl⟩, .inr ⟨_, ⟨[], rfl⟩, hJx⟩⟩
  have HB3 := Lib.hid (HB2.out.keep hk)
  clear hk HB2
  obtain ⟨x0, g0, g1, c0, y0⟩ := HB3.out
  gi_wp2
  first | (go_end0) | (refine ⟨fun _ h => (by cases h), ?_⟩; gi_wp2; first | (go_end0) | (refine ⟨fun _ h => (by cases h), ?_⟩; gi_wp2; first | (go_end0) | (refine ⟨fun _ h => (by cases h), ?_⟩; gi_wp2; go_end0)))
  exact ⟨⟨_, rfl⟩, .inl ⟨_, rfl, hJ3⟩⟩

set_option maxHeartbeats 1000000 in
theorem nb_1010 {α : Type} (num : α → Int) (n : Nat) (hn : 1 ≤ n) (l bx bg bc bY : Nat) (W H c X Y : Int) (J Jx : List α → World → Prop) (w : World) (hb : NbBoxes w bx bg bc bY W H c X Y)
    (r1 : 0 ≤ X) (r2 : X ≤ 65536) (r3 : 0 ≤ Y) (r4 : Y ≤ 65536) (r5 : 0 ≤ c) (r6 : c ≤ 65536) (_r7 : 0 ≤ W) (_r8 : W ≤ 65536) (h1 : X + 1 < W) (h2 : H ≤ Y + 1) (h3 : 0 < X) (h4 : Y ≤ 0) (a1 a2 : α) (e1 : num a1 = c + 1) (e2 : num a2 = c - 1)
    (hY : ∀ pre x W1, J pre W1 → pre.length < 2 → YieldAt Fence.wide (n - 1) Tryz.prog l #[.int .i64 (num x)] W1 fun e W' => (e = .returned (.bool true) ∧ J (pre ++ [x]) W' ∧ NbKp bx bg bc bY W1 W') ∨ (e = .returned (.bool false) ∧ Jx (pre ++ [x]) W'))
    (h0 : J [] w) :
    CallsIn Fence.wide n Tryz.prog 82 #[.func (.yield l) #[] #[], .pointer (some ⟨bx, 0, none⟩), .pointer (some ⟨bg, 0, none⟩), .pointer (some ⟨bc, 0, none⟩), .pointer (some ⟨bY, 0, none⟩)] w (NbPost [a1, a2] J Jx) := by
  refine callsIn_of_wp Tryz.func82 rfl trivial ?_ rfl
  simp only [Tryz.ntmps82, List.size_toArray, List.length_cons, List.length_nil, Nat.reduceAdd, Nat.reduceSub, Array.replicate_succ, Array.replicate_zero, List.push_toArray, List.append_toArray, List.nil_append, List.cons_append]
  have HB0 := Lib.hid hb
  have HY := Lib.hid hY
  obtain ⟨x0, g0, g1, c0, y0⟩ := hb
  clear hY
  obtain ⟨fn0, tmps0, as0, body0, hy, hR⟩ := HY.out [] a1 _ h0 (by simp)
  rw [e1] at hy
  have HR := Lib.hid hR
  clear hR
  gi_wp2
  first | (refine HR.out.mono ?_) | (refine ⟨fun _ h => (by cases h), ?_⟩; gi_wp2; first | (refine HR.out.mono ?_) | (refine ⟨fun _ h => (by cases h), ?_⟩; gi_wp2; first | (refine HR.out.mono ?_) | (refine ⟨fun _ h => (by cases h), ?_⟩; gi_wp2; refine HR.out.mono ?_)))
  clear hy HR x0 g0 g1 c0 y0
  rintro e W1 (⟨rfl, hJ1, hk⟩ | ⟨rfl, hJx⟩)
  rotate_left
  · gi_wp2
    refine bodyPost_ret (results_none rfl _ _ _) rfl ?_
    exact ⟨⟨_, rfl⟩, .inr ⟨_, ⟨[a2], rfl⟩, hJx⟩⟩
  have HB1 := Lib.hid (HB0.out.keep hk)
  clear hk HB0
  obtain ⟨x0, g0, g1, c0, y0⟩ := HB1.out
  obtain ⟨fn1, tmps1, as1, body1, hy, hR⟩ := HY.out [a1] a2 _ hJ1 (by simp)
  rw [e2] at hy
  have HR := Lib.hid hR
  clear hR
  gi_wp2
  first | (refine HR.out.mono ?_) | (refine ⟨fun _ h => (by cases h), ?_⟩; gi_wp2; first | (refine HR.out.mono ?_) | (refine ⟨fun _ h => (by cases h), ?_⟩; gi_wp2; first | (refine HR.out.mono ?_) | (refine ⟨fun _ h => (by cases h), ?_⟩; gi_wp2; refine HR.out.mono ?_)))
  clear hy HR x0 g0 g1 c0 y0
  rintro e W2 (⟨rfl, hJ2, hk⟩ | ⟨rfl, hJx⟩)
  rotate_left
  · gi_wp2
    refine bodyPost_ret (results_none rfl _ _ _) rfl ?_
    exact ⟨⟨_, rfl⟩, .inr ⟨_, ⟨[], rfl⟩, hJx⟩⟩
  have HB2 := Lib.hid (HB1.out.keep hk)
  clear hk HB1
  obtain ⟨x0, g0, g1, c0, y0⟩ := HB2.out
  gi_wp2
  first | (go_end0) | (refine ⟨fun _ h => (by cases h), ?_⟩; gi_wp2; first | (go_end0) | (refine ⟨fun _ h => (by cases h), ?_⟩; gi_wp2; first | (go_end0) | (refine ⟨fun _ h => (by cases h), ?_⟩; gi_wp2; go_end0)))
  exact ⟨⟨_, rfl⟩, .inl ⟨_, rfl, hJ2⟩⟩

set_option maxHeartbeats 1000000 in
theorem nb_1001 {α : Type} (num : α → Int) (n : Nat) (hn : 1 ≤ n) (l bx bg bc bY : Nat) (W H c X Y : Int) (J Jx : List α → World → Prop) (w : World) (hb : NbBoxes w bx bg bc bY W H c X Y)
    (r1 : 0 ≤ X) (r2 : X ≤ 65536) (r3 : 0 ≤ Y) (r4 : Y ≤ 65536) (r5 : 0 ≤ c) (r6 : c ≤ 65536) (r7 : 0 ≤ W) (r8 : W ≤ 65536) (h1 : X + 1 < W) (h2 : H ≤ Y + 1) (h3 : X ≤ 0) (h4 : 0 < Y) (a1 a2 : α) (e1 : num a1 = c + 1) (e2 : num a2 = c - W)
    (hY : ∀ pre x W1, J pre W1 → pre.length < 2 → YieldAt Fence.wide (n - 1) Tryz.prog l #[.int .i64 (num x)] W1 fun e W' => (e = .returned (.bool true) ∧ J (pre ++ [x]) W' ∧ NbKp bx bg bc bY W1 W') ∨ (e = .returned (.bool false) ∧ Jx (pre ++ [x]) W'))
    (h0 : J [] w) :
    CallsIn Fence.wide n Tryz.prog 82 #[.func (.yield l) #[] #[], .pointer (some ⟨bx, 0, none⟩), .pointer (some ⟨bg, 0, none⟩), .pointer (some ⟨bc, 0, none⟩), .pointer (some ⟨bY, 0, none⟩)] w (NbPost [a1, a2] J Jx) := by
  refine callsIn_of_wp Tryz.func82 rfl trivial ?_ rfl
  simp only [Tryz.ntmps82, List.size_toArray, List.length_cons, List.length_nil, Nat.reduceAdd, Nat.reduceSub, Array.replicate_succ, Array.replicate_zero, List.push_toArray, List.append_toArray, List.nil_append, List.cons_append]
  have HB0 := Lib.hid hb
  have HY := Lib.hid hY
  obtain ⟨x0, g0, g1, c0, y0⟩ := hb
  clear hY
  obtain ⟨fn0, tmps0, as0, body0, hy, hR⟩ := HY.out [] a1 _ h0 (by simp)
  rw [e1] at hy
  have HR := Lib.hid hR
  clear hR
  gi_wp2
  first | (refine HR.out.mono ?_) | (refine ⟨fun _ h => (by cases h), ?_⟩; gi_wp2; first | (refine HR.out.mono ?_) | (refine ⟨fun _ h => (by cases h), ?_⟩; gi_wp2; first | (refine HR.out.mono ?_) | (refine ⟨fun _ h => (by cases h), ?_⟩; gi_wp2; refine HR.out.mono ?_)))
  clear hy HR x0 g0 g1 c0 y0
  rintro e W1 (⟨rfl, hJ1, hk⟩ | ⟨rfl, hJx⟩)
  rotate_left
  · gi_wp2
    refine bodyPost_ret (results_none rfl _ _ _) rfl ?_
    exact ⟨⟨_, rfl⟩, .inr ⟨_, ⟨[a2], rfl⟩, hJx⟩⟩
  have HB1 := Lib.hid (HB0.out.keep hk)
  clear hk HB0
  obtain ⟨x0, g0, g1, c0, y0⟩ := HB1.out
  obtain ⟨fn1, tmps1, as1, body1, hy, hR⟩ := HY.out [a1] a2 _ hJ1 (by simp)
  rw [e2] at hy
  have HR := Lib.hid hR
  clear hR
  gi_wp2
  first | (refine HR.out.mono ?_) | (refine ⟨fun _ h => (by cases h), ?_⟩; gi_wp2; first | (refine HR.out.mono ?_) | (refine ⟨fun _ h => (by cases h), ?_⟩; gi_wp2; first | (refine HR.out.mono ?_) | (refine ⟨fun _ h => (by cases h), ?_⟩; gi_wp2; refine HR.out.mono ?_)))
  clear hy HR x0 g0 g1 c0 y0
  rintro e W2 (⟨rfl, hJ2, hk⟩ | ⟨rfl, hJx⟩)
  rotate_left
  · gi_wp2
    go_end0
    exact ⟨⟨_, rfl⟩, .inr ⟨_, ⟨[], rfl⟩, hJx⟩⟩
  have HB2 := Lib.hid (HB1.out.keep hk)
  clear hk HB1
  obtain ⟨x0, g0, g1, c0, y0⟩ := HB2.out
  gi_wp2
  first | (go_end0) | (refine ⟨fun _ h => (by cases h), ?_⟩; gi_wp2; first | (go_end0) | (refine ⟨fun _ h => (by cases h), ?_⟩; gi_wp2; first | (go_end0) | (refine ⟨fun _ h => (by cases h), ?_⟩; gi_wp2; go_end0)))
  exact ⟨⟨_, rfl⟩, .inl ⟨_, rfl, hJ2⟩⟩

set_option maxHeartbeats 1000000 in
theorem nb_1000 {α : Type} (num : α → Int) (n : Nat) (hn : 1 ≤ n) (l bx bg bc bY : Nat) (W H c X Y : Int) (J Jx : List α → World → Prop) (w : World) (hb : NbBoxes w bx bg bc bY W H c X Y)
    (r1 : 0 ≤ X) (r2 : X ≤ 65536) (r3 : 0 ≤ Y) (r4 : Y ≤ 65536) (r5 : 0 ≤ c) (r6 : c ≤ 65536) (_r7 : 0 ≤ W) (_r8 : W ≤ 65536) (h1 : X + 1 < W) (h2 : H ≤ Y + 1) (h3 : X ≤ 0) (h4 : Y ≤ 0) (a1 : α) (e1 : num a1 = c + 1)
    (hY : ∀ pre x W1, J pre W1 → pre.length < 1 → YieldAt Fence.wide (n - 1) Tryz.prog l #[.int .i64 (num x)] W1 fun e W' => (e = .returned (.bool true) ∧ J (pre ++ [x]) W' ∧ NbKp bx bg bc bY W1 W') ∨ (e = .returned (.bool false) ∧ Jx (pre ++ [x]) W'))
    (h0 : J [] w) :
    CallsIn Fence.wide n Tryz.prog 82 #[.func (.yield l) #[] #[], .pointer (some ⟨bx, 0, none⟩), .pointer (some ⟨bg, 0, none⟩), .pointer (some ⟨bc, 0, none⟩), .pointer (some ⟨bY, 0, none⟩)] w (NbPost [a1] J Jx) := by
  refine callsIn_of_wp Tryz.func82 rfl trivial ?_ rfl
  simp only [Tryz.ntmps82, List.size_toArray, List.length_cons, List.length_nil, Nat.reduceAdd, Nat.reduceSub, Array.replicate_succ, Array.replicate_zero, List.push_toArray, List.append_toArray, List.nil_append, List.cons_append]
  have HB0 := Lib.hid hb
  have HY := Lib.hid hY
  obtain ⟨x0, g0, g1, c0, y0⟩ := hb
  clear hY
  obtain ⟨fn0, tmps0, as0, body0, hy, hR⟩ := HY.out [] a1 _ h0 (by simp)
  rw [e1] at hy
  have HR := Lib.hid hR
  clear hR
  gi_wp2
  first | (refine HR.out.mono ?_) | (refine ⟨fun _ h => (by cases h), ?_⟩; gi_wp2; first | (refine HR.out.mono ?_) | (refine ⟨fun _ h => (by cases h), ?_⟩; gi_wp2; first | (refine HR.out.mono ?_) | (refine ⟨fun _ h => (by cases h), ?_⟩; gi_wp2; refine HR.out.mono ?_)))
  clear hy HR x0 g0 g1 c0 y0
  rintro e W1 (⟨rfl, hJ1, hk⟩ | ⟨rfl, hJx⟩)
  rotate_left
  · gi_wp2
    refine bodyPost_ret (results_none rfl _ _ _) rfl ?_
    exact ⟨⟨_, rfl⟩, .inr ⟨_, ⟨[], rfl⟩, hJx⟩⟩
  have HB1 := Lib.hid (HB0.out.keep hk)
  clear hk HB0
  obtain ⟨x0, g0, g1, c0, y0⟩ := HB1.out
  gi_wp2
  first | (go_end0) | (refine ⟨fun _ h => (by cases h), ?_⟩; gi_wp2; first | (go_end0) | (refine ⟨fun _ h => (by cases h), ?_⟩; gi_wp2; first | (go_end0) | (refine ⟨fun _ h => (by cases h), ?_⟩; gi_wp2; go_end0)))
  exact ⟨⟨_, rfl⟩, .inl ⟨_, rfl, hJ1⟩⟩
end Go.Proofs.YthcenmocnphnmaaGreatDoor
