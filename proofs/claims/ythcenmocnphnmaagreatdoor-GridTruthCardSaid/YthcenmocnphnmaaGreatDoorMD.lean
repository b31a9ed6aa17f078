/-
  The iterator over the neighbors of a cell, 3 of 4.
-/
import Derived.Test.YthcenmocnphnmaaGreatDoorMC
import Derived.RangeFuncBox
import Derived.Maps.AppendAt
set_option linter.unusedSimpArgs false
set_option linter.unusedVariables false
namespace Go.Proofs.YthcenmocnphnmaaGreatDoor
open Go.RowKit Go.Shelf
attribute [local go_sem] Oper.semAt_some

set_option maxHeartbeats 1000000 in
theorem nb_0111 {α : Type} (num : α → Int) (n : Nat) (hn : 1 ≤ n) (l bx bg bc bY : Nat) (W H c X Y : Int) (J Jx : List α → World → Prop) (w : World) (hb : NbBoxes w bx bg bc bY W H c X Y)
    (r1 : 0 ≤ X) (r2 : X ≤ 65536) (r3 : 0 ≤ Y) (r4 : Y ≤ 65536) (r5 : 0 ≤ c) (r6 : c ≤ 65536) (r7 : 0 ≤ W) (r8 : W ≤ 65536) (h1 : W ≤ X + 1) (h2 : Y + 1 < H) (h3 : 0 < X) (h4 : 0 < Y) (a1 a2 a3 : α) (e1 : num a1 = c + W) (e2 : num a2 = c - 1) (e3 : num a3 = c - W)
    (hY : ∀ pre x W1, J pre W1 → pre.length < 3 → YieldAt Fence.wide (n - 1) Tryz.prog l #[.int .i64 (num x)] W1 fun e W' => (e = .returned (.bool true) ∧ J (pre ++ [x]) W' ∧ NbKp bx bg bc bY W1 W') ∨ (e = .returned (.bool false) ∧ Jx (pre ++ [x]) W'))
    (h0 : J [] w) :
    CallsIn Fence.wide n Tryz.prog 82 #[.func (.yield l) #[] #[], .pointer (some ⟨bx, 0, none⟩), .pointer (some ⟨bg, 0, none⟩), .pointer (some ⟨bc, 0, none⟩), .pointer (some ⟨bY, 0, none⟩)] w (NbPost [a1, a2, a3] J Jx) := by
  refine callsIn_of_wp Tryz.func82 rfl trivial ?_ rfl
  simp only [Tryz.ntmps82, List.size_toArray, List.length_cons, List.length_nil, Nat.reduceAdd, Nat.reduceSub, Array.replicate_succ, Array.replicate_zero, List.push_toArray, List.append_toArray, List.nil_append, List.cons_append]
  have HB0 := Lib.hid hb
  have HY := Lib.hid hY
  obtain ⟨x0, g0, g1, c0, y0⟩ := hb
  clear hY
  obtain ⟨fn0, tmps0, as0, body0, hy, hR⟩ := HY.out [] a1 _ h0 (by simp)
  rw [e1] at hy
  have HR := Lib.hid hR
  clear hR
  gi_wp2
  first | (refine HR.out.mono ?_) | (refine ⟨fun _ h => (by cases h), ?_⟩; gi_wp2; first | (refine HR.out.mono ?_) | (refine ⟨fun _ h => (by cases h), ?_⟩; gi_wp2; first | (refine HR.out.mono ?_) | (refine ⟨fun _ h => (by cases h), ?_⟩; gi_wp2; refine HR.out.mono ?_)))
  clear hy HR x0 g0 g1 c0 y0
  rintro e W1 (⟨rfl, hJ1, hk⟩ | ⟨rfl, hJx⟩)
  rotate_left
  · gi_wp2
    refine bodyPost_ret (results_none rfl _ _ _) rfl ?_
    exact ⟨⟨_, rfl⟩, .inr ⟨_, ⟨[a2, a3], rfl⟩, hJx⟩⟩
  have HB1 := Lib.hid (HB0.out.keep hk)
  clear hk HB0
  obtain ⟨x0, g0, g1, c0, y0⟩ := HB1.out
  obtain ⟨fn1, tmps1, as1, body1, hy, hR⟩ := HY.out [a1] a2 _ hJ1 (by simp)
  rw [e2] at hy
  have HR := Lib.hid hR
  clear hR
  gi_wp2
  first | (refine HR.out.mono ?_) | (refine ⟨fun _ h => (by cases h), ?_⟩; gi_wp2; first | (refine HR.out.mono ?_) | (refine ⟨fun _ h => (by cases h), ?_⟩; gi_wp2; first | (refine HR.out.mono ?_) | (refine ⟨fun _ h => (by cases h), ?_⟩; gi_wp2; refine HR.out.mono ?_)))
  clear hy HR x0 g0 g1 c0 y0
  rintro e W2 (⟨rfl, hJ2, hk⟩ | ⟨rfl, hJx⟩)
  rotate_left
  · gi_wp2
    refine bodyPost_ret (results_none rfl _ _ _) rfl ?_
    exact ⟨⟨_, rfl⟩, .inr ⟨_, ⟨[a3], rfl⟩, hJx⟩⟩
  have HB2 := Lib.hid (HB1.out.keep hk)
  clear hk HB1
  obtain ⟨x0, g0, g1, c0, y0⟩ := HB2.out
  obtain ⟨fn2, tmps2, as2, body2, hy, hR⟩ := HY.out [a1, a2] a3 _ hJ2 (by simp)
  rw [e3] at hy
  have HR := Lib.hid hR
  clear hR
  gi_wp2
  first | (refine HR.out.mono ?_) | (refine ⟨fun _ h => (by cases h), ?_⟩; gi_wp2; first | (refine HR.out.mono ?_) | (refine ⟨fun _ h => (by cases h), ?_⟩; gi_wp2; first | (refine HR.out.mono ?_) | (refine ⟨fun _ h => (by cases h), ?_⟩; gi_wp2; refine HR.out.mono ?_)))
  clear hy HR x0 g0 g1 c0 y0
  rintro e W3 (⟨rfl, hJ3, hk⟩ | ⟨rfl, hJx⟩)
  rotate_left
  · gi_wp2
    go_end0
    exact ⟨⟨_, rfl⟩, .inr ⟨_, ⟨[], rfl⟩, hJx⟩⟩
  have HB3 := Lib.hid (HB2.out.keep hk)
  clear hk HB2
  obtain ⟨x0, g0, g1, c0, y0⟩ := HB3.out
  gi_wp2
  first | (go_end0) | (refine ⟨fun _ h => (by cases h), ?_⟩; gi_wp2; first | (go_end0) | (refine ⟨fun _ h => (by cases h), ?_⟩; gi_wp2; first | (go_end0) | (refine ⟨fun _ h => (by cases h), ?_⟩; gi_wp2; go_end0)))
  exact ⟨⟨_, rfl⟩, .inl ⟨_, rfl, hJ3⟩⟩

set_option maxHeartbeats 1000000 in
theorem nb_0110 {α : Type} (num : α → Int) (n : Nat) (hn : 1 ≤ n) (l bx bg bc bY : Nat) (W H c X Y : Int) (J Jx : List α → World → Prop) (w : World) (hb : NbBoxes w bx bg bc bY W H c X Y)
    (r1 : 0 ≤ X) (r2 : X ≤ 65536) (r3 : 0 ≤ Y) (r4 : Y ≤ 65536) (r5 : 0 ≤ c) (r6 : c ≤ 65536) (r7 : 0 ≤ W) (r8 : W ≤ 65536) (h1 : W ≤ X + 1) (h2 : Y + 1 < H) (h3 : 0 < X) (h4 : Y ≤ 0) (a1 a2 : α) (e1 : num a1 = c + W) (e2 : num a2 = c - 1)
    (hY : ∀ pre x W1, J pre W1 → pre.length < 2 → YieldAt Fence.wide (n - 1) Tryz.prog l #[.int .i64 (num x)] W1 fun e W' => (e = .returned (.bool true) ∧ J (pre ++ [x]) W' ∧ NbKp bx bg bc bY W1 W') ∨ (e = .returned (.bool false) ∧ Jx (pre ++ [x]) W'))
    (h0 : J [] w) :
    CallsIn Fence.wide n Tryz.prog 82 #[.func (.yield l) #[] #[], .pointer (some ⟨bx, 0, none⟩), .pointer (some ⟨bg, 0, none⟩), .pointer (some ⟨bc, 0, none⟩), .pointer (some ⟨bY, 0, none⟩)] w (NbPost [a1, a2] J Jx) := by
  refine callsIn_of_wp Tryz.func82 rfl trivial ?_ rfl
  simp only [Tryz.ntmps82, List.size_toArray, List.length_cons, List.length_nil, Nat.reduceAdd, Nat.reduceSub, Array.replicate_succ, Array.replicate_zero, List.push_toArray, List.append_toArray, List.nil_append, List.cons_append]
  have HB0 := Lib.hid hb
  have HY := Lib.hid hY
  obtain ⟨x0, g0, g1, c0, y0⟩ := hb
  clear hY
  obtain ⟨fn0, tmps0, as0, body0, hy, hR⟩ := HY.out [] a1 _ h0 (by simp)
  rw [e1] at hy
  have HR := Lib.hid hR
  clear hR
  gi_wp2
  first | (refine HR.out.mono ?_) | (refine ⟨fun _ h => (by cases h), ?_⟩; gi_wp2; first | (refine HR.out.mono ?_) | (refine ⟨fun _ h => (by cases h), ?_⟩; gi_wp2; first | (refine HR.out.mono ?_) | (refine ⟨fun _ h => (by cases h), ?_⟩; gi_wp2; refine HR.out.mono ?_)))
  clear hy HR x0 g0 g1 c0 y0
  rintro e W1 (⟨rfl, hJ1, hk⟩ | ⟨rfl, hJx⟩)
  rotate_left
  · gi_wp2
    refine bodyPost_ret (results_none rfl _ _ _) rfl ?_
    exact ⟨⟨_, rfl⟩, .inr ⟨_, ⟨[a2], rfl⟩, hJx⟩⟩
  have HB1 := Lib.hid (HB0.out.keep hk)
  clear hk HB0
  obtain ⟨x0, g0, g1, c0, y0⟩ := HB1.out
  obtain ⟨fn1, tmps1, as1, body1, hy, hR⟩ := HY.out [a1] a2 _ hJ1 (by simp)
  rw [e2] at hy
  have HR := Lib.hid hR
  clear hR
  gi_wp2
  first | (refine HR.out.mono ?_) | (refine ⟨fun _ h => (by cases h), ?_⟩; gi_wp2; first | (refine HR.out.mono ?_) | (refine ⟨fun _ h => (by cases h), ?_⟩; gi_wp2; first | (refine HR.out.mono ?_) | (refine ⟨fun _ h => (by cases h), ?_⟩; gi_wp2; refine HR.out.mono ?_)))
  clear hy HR x0 g0 g1 c0 y0
  rintro e W2 (⟨rfl, hJ2, hk⟩ | ⟨rfl, hJx⟩)
  rotate_left
  · gi_wp2
    refine bodyPost_ret (results_none rfl _ _ _) rfl ?_
    exact ⟨⟨_, rfl⟩, .inr ⟨_, ⟨[], rfl⟩, hJx⟩⟩
  have HB2 := Lib.hid (HB1.out.keep hk)
  clear hk HB1
  obtain ⟨x0, g0, g1, c0, y0⟩ := HB2.out
  gi_wp2
  first | (go_end0) | (refine ⟨fun _ h => (by cases h), ?_⟩; gi_wp2; first | (go_end0) | (refine ⟨fun _ h => (by cases h), ?_⟩; gi_wp2; first | (go_end0) | (refine ⟨fun _ h => (by cases h), ?_⟩; gi_wp2; go_end0)))
  exact ⟨⟨_, rfl⟩, .inl ⟨_, rfl, hJ2⟩⟩

set_option maxHeartbeats 1000000 in
theorem nb_0101 {α : Type} (num : α → Int) (n : Nat) (hn : 1 ≤ n) (l bx bg bc bY : Nat) (W H c X Y : Int) (J Jx : List α → World → Prop) (w : World) (hb : NbBoxes w bx bg bc bY W H c X Y)
    (r1 : 0 ≤ X) (r2 : X ≤ 65536) (r3 : 0 ≤ Y) (r4 : Y ≤ 65536) (r5 : 0 ≤ c) (r6 : c ≤ 65536) (r7 : 0 ≤ W) (r8 : W ≤ 65536) (h1 : W ≤ X + 1) (h2 : Y + 1 < H) (h3 : X ≤ 0) (h4 : 0 < Y) (a1 a2 : α) (e1 : num a1 = c + W) (e2 : num a2 = c - W)
    (hY : ∀ pre x W1, J pre W1 → pre.length < 2 → YieldAt Fence.wide (n - 1) Tryz.prog l #[.int .i64 (num x)] W1 fun e W' => (e = .returned (.bool true) ∧ J (pre ++ [x]) W' ∧ NbKp bx bg bc bY W1 W') ∨ (e = .returned (.bool false) ∧ Jx (pre ++ [x]) W'))
    (h0 : J [] w) :
    CallsIn Fence.wide n Tryz.prog 82 #[.func (.yield l) #[] #[], .pointer (some ⟨bx, 0, none⟩), .pointer (some ⟨bg, 0, none⟩), .pointer (some ⟨bc, 0, none⟩), .pointer (some ⟨bY, 0, none⟩)] w (NbPost [a1, a2] J Jx) := by
  refine callsIn_of_wp Tryz.func82 rfl trivial ?_ rfl
  simp only [Tryz.ntmps82, List.size_toArray, List.length_cons, List.length_nil, Nat.reduceAdd, Nat.reduceSub, Array.replicate_succ, Array.replicate_zero, List.push_toArray, List.append_toArray, List.nil_append, List.cons_append]
  have HB0 := Lib.hid hb
  have HY := Lib.hid hY
  obtain ⟨x0, g0, g1, c0, y0⟩ := hb
  clear hY
  obtain ⟨fn0, tmps0, as0, body0, hy, hR⟩ := HY.out [] a1 _ h0 (by simp)
  rw [e1] at hy
  have HR := Lib.hid hR
  clear hR
  gi_wp2
  first | (refine HR.out.mono ?_) | (refine ⟨fun _ h => (by cases h), ?_⟩; gi_wp2; first | (refine HR.out.mono ?_) | (refine ⟨fun _ h => (by cases h), ?_⟩; gi_wp2; first | (refine HR.out.mono ?_) | (refine ⟨fun _ h => (by cases h), ?_⟩; gi_wp2; refine HR.out.mono ?_)))
  clear hy HR x0 g0 g1 c0 y0
  rintro e W1 (⟨rfl, hJ1, hk⟩ | ⟨rfl, hJx⟩)
  rotate_left
  · gi_wp2
    refine bodyPost_ret (results_none rfl _ _ _) rfl ?_
    exact ⟨⟨_, rfl⟩, .inr ⟨_, ⟨[a2], rfl⟩, hJx⟩⟩
  have HB1 := Lib.hid (HB0.out.keep hk)
  clear hk HB0
  obtain ⟨x0, g0, g1, c0, y0⟩ := HB1.out
  obtain ⟨fn1, tmps1, as1, body1, hy, hR⟩ := HY.out [a1] a2 _ hJ1 (by simp)
  rw [e2] at hy
  have HR := Lib.hid hR
  clear hR
  gi_wp2
  first | (refine HR.out.mono ?_) | (refine ⟨fun _ h => (by cases h), ?_⟩; gi_wp2; first | (refine HR.out.mono ?_) | (refine ⟨fun _ h => (by cases h), ?_⟩; gi_wp2; first | (refine HR.out.mono ?_) | (refine ⟨fun _ h => (by cases h), ?_⟩; gi_wp2; refine HR.out.mono ?_)))
  clear hy HR x0 g0 g1 c0 y0
  rintro e W2 (⟨rfl, hJ2, hk⟩ | ⟨rfl, hJx⟩)
  rotate_left
  · gi_wp2
    go_end0
    exact ⟨⟨_, rfl⟩, .inr ⟨_, ⟨[], rfl⟩, hJx⟩⟩
  have HB2 := Lib.hid (HB1.out.keep hk)
  clear hk HB1
  obtain ⟨x0, g0, g1, c0, y0⟩ := HB2.out
  gi_wp2
  first | (go_end0) | (refine ⟨fun _ h => (by cases h), ?_⟩; gi_wp2; first | (go_end0) | (refine ⟨fun _ h => (by cases h), ?_⟩; gi_wp2; first | (go_end0) | (refine ⟨fun _ h => (by cases h), ?_⟩; gi_wp2; go_end0)))
  exact ⟨⟨_, rfl⟩, .inl ⟨_, rfl, hJ2⟩⟩

set_option maxHeartbeats 1000000 in
theorem nb_0100 {α : Type} (num : α → Int) (n : Nat) (hn : 1 ≤ n) (l bx bg bc bY : Nat) (W H c X Y : Int) (J Jx : List α → World → Prop) (w : World) (hb : NbBoxes w bx bg bc bY W H c X Y)
    (r1 : 0 ≤ X) (r2 : X ≤ 65536) (r3 : 0 ≤ Y) (r4 : Y ≤ 65536) (r5 : 0 ≤ c) (r6 : c ≤ 65536) (r7 : 0 ≤ W) (r8 : W ≤ 65536) (h1 : W ≤ X + 1) (h2 : Y + 1 < H) (h3 : X ≤ 0) (h4 : Y ≤ 0) (a1 : α) (e1 : num a1 = c + W)
    (hY : ∀ pre x W1, J pre W1 → pre.length < 1 → YieldAt Fence.wide (n - 1) Tryz.prog l #[.int .i64 (num x)] W1 fun e W' => (e = .returned (.bool true) ∧ J (pre ++ [x]) W' ∧ NbKp bx bg bc bY W1 W') ∨ (e = .returned (.bool false) ∧ Jx (pre ++ [x]) W'))
    (h0 : J [] w) :
    CallsIn Fence.wide n Tryz.prog 82 #[.func (.yield l) #[] #[], .pointer (some ⟨bx, 0, none⟩), .pointer (some ⟨bg, 0, none⟩), .pointer (some ⟨bc, 0, none⟩), .pointer (some ⟨bY, 0, none⟩)] w (NbPost [a1] J Jx) := by
  refine callsIn_of_wp Tryz.func82 rfl trivial ?_ rfl
  simp only [Tryz.ntmps82, List.size_toArray, List.length_cons, List.length_nil, Nat.reduceAdd, Nat.reduceSub, Array.replicate_succ, Array.replicate_zero, List.push_toArray, List.append_toArray, List.nil_append, List.cons_append]
  have HB0 := Lib.hid hb
  have HY := Lib.hid hY
  obtain ⟨x0, g0, g1, c0, y0⟩ := hb
  clear hY
  obtain ⟨fn0, tmps0, as0, body0, hy, hR⟩ := HY.out [] a1 _ h0 (by simp)
  rw [e1] at hy
  have HR := Lib.hid hR
  clear hR
  gi_wp2
  first | (refine HR.out.mono ?_) | (refine ⟨fun _ h => (by cases h), ?_⟩; gi_wp2; first | (refine HR.out.mono ?_) | (refine ⟨fun _ h => (by cases h), ?_⟩; gi_wp2; first | (refine HR.out.mono ?_) | (refine ⟨fun _ h => (by cases h), ?_⟩; gi_wp2; refine HR.out.mono ?_)))
  clear hy HR x0 g0 g1 c0 y0
  rintro e W1 (⟨rfl, hJ1, hk⟩ | ⟨rfl, hJx⟩)
  rotate_left
  · gi_wp2
    refine bodyPost_ret (results_none rfl _ _ _) rfl ?_
    exact ⟨⟨_, rfl⟩, .inr ⟨_, ⟨[], rfl⟩, hJx⟩⟩
  have HB1 := Lib.hid (HB0.out.keep hk)
  clear hk HB0
  obtain ⟨x0, g0, g1, c0, y0⟩ := HB1.out
  gi_wp2
  first | (go_end0) | (refine ⟨fun _ h => (by cases h), ?_⟩; gi_wp2; first | (go_end0) | (refine ⟨fun _ h => (by cases h), ?_⟩; gi_wp2; first | (go_end0) | (refine ⟨fun _ h => (by cases h), ?_⟩; gi_wp2; go_end0)))
  exact ⟨⟨_, rfl⟩, .inl ⟨_, rfl, hJ1⟩⟩
end Go.Proofs.YthcenmocnphnmaaGreatDoor
/-
  The iterator over the neighbors of a cell, 4 of 4.
-/
namespace Go.Proofs.YthcenmocnphnmaaGreatDoor
open Go.RowKit Go.Shelf
attribute [local go_sem] Oper.semAt_some

set_option maxHeartbeats 1000000 in
theorem nb_0011 {α : Type} (num : α → Int) (n : Nat) (hn : 1 ≤ n) (l bx bg bc bY : Nat) (W H c X Y : Int) (J Jx : List α → World → Prop) (w : World) (hb : NbBoxes w bx bg bc bY W H c X Y)
    (r1 : 0 ≤ X) (r2 : X ≤ 65536) (r3 : 0 ≤ Y) (r4 : Y ≤ 65536) (r5 : 0 ≤ c) (r6 : c ≤ 65536) (r7 : 0 ≤ W) (r8 : W ≤ 65536) (h1 : W ≤ X + 1) (h2 : H ≤ Y + 1) (h3 : 0 < X) (h4 : 0 < Y) (a1 a2 : α) (e1 : num a1 = c - 1) (e2 : num a2 = c - W)
    (hY : ∀ pre x W1, J pre W1 → pre.length < 2 → YieldAt Fence.wide (n - 1) Tryz.prog l #[.int .i64 (num x)] W1 fun e W' => (e = .returned (.bool true) ∧ J (pre ++ [x]) W' ∧ NbKp bx bg bc bY W1 W') ∨ (e = .returned (.bool false) ∧ Jx (pre ++ [x]) W'))
    (h0 : J [] w) :
    CallsIn Fence.wide n Tryz.prog 82 #[.func (.yield l) #[] #[], .pointer (some ⟨bx, 0, none⟩), .pointer (some ⟨bg, 0, none⟩), .pointer (some ⟨bc, 0, none⟩), .pointer (some ⟨bY, 0, none⟩)] w (NbPost [a1, a2] J Jx) := by
  refine callsIn_of_wp Tryz.func82 rfl trivial ?_ rfl
  simp only [Tryz.ntmps82, List.size_toArray, List.length_cons, List.length_nil, Nat.reduceAdd, Nat.reduceSub, Array.replicate_succ, Array.replicate_zero, List.push_toArray, List.append_toArray, List.nil_append, List.cons_append]
  have HB0 := Lib.hid hb
  have HY := Lib.hid hY
  obtain ⟨x0, g0, g1, c0, y0⟩ := hb
  clear hY
  obtain ⟨fn0, tmps0, as0, body0, hy, hR⟩ := HY.out [] a1 _ h0 (by simp)
  rw [e1] at hy
  have HR := Lib.hid hR
  clear hR
  gi_wp2
  first | (refine HR.out.mono ?_) | (refine ⟨fun _ h => (by cases h), ?_⟩; gi_wp2; first | (refine HR.out.mono ?_) | (refine ⟨fun _ h => (by cases h), ?_⟩; gi_wp2; first | (refine HR.out.mono ?_) | (refine ⟨fun _ h => (by cases h), ?_⟩; gi_wp2; refine HR.out.mono ?_)))
  clear hy HR x0 g0 g1 c0 y0
  rintro e W1 (⟨rfl, hJ1, hk⟩ | ⟨rfl, hJx⟩)
  rotate_left
  · gi_wp2
    refine bodyPost_ret (results_none rfl _ _ _) rfl ?_
    exact ⟨⟨_, rfl⟩, .inr ⟨_, ⟨[a2], rfl⟩, hJx⟩⟩
  have HB1 := Lib.hid (HB0.out.keep hk)
  clear hk HB0
  obtain ⟨x0, g0, g1, c0, y0⟩ := HB1.out
  obtain ⟨fn1, tmps1, as1, body1, hy, hR⟩ := HY.out [a1] a2 _ hJ1 (by simp)
  rw [e2] at hy
  have HR := Lib.hid hR
  clear hR
  gi_wp2
  first | (refine HR.out.mono ?_) | (refine ⟨fun _ h => (by cases h), ?_⟩; gi_wp2; first | (refine HR.out.mono ?_) | (refine ⟨fun _ h => (by cases h), ?_⟩; gi_wp2; first | (refine HR.out.mono ?_) | (refine ⟨fun _ h => (by cases h), ?_⟩; gi_wp2; refine HR.out.mono ?_)))
  clear hy HR x0 g0 g1 c0 y0
  rintro e W2 (⟨rfl, hJ2, hk⟩ | ⟨rfl, hJx⟩)
  rotate_left
  · gi_wp2
    go_end0
    exact ⟨⟨_, rfl⟩, .inr ⟨_, ⟨[], rfl⟩, hJx⟩⟩
  have HB2 := Lib.hid (HB1.out.keep hk)
  clear hk HB1
  obtain ⟨x0, g0, g1, c0, y0⟩ := HB2.out
  gi_wp2
  first | (go_end0) | (refine ⟨fun _ h => (by cases h), ?_⟩; gi_wp2; first | (go_end0) | (refine ⟨fun _ h => (by cases h), ?_⟩; gi_wp2; first | (go_end0) | (refine ⟨fun _ h => (by cases h), ?_⟩; gi_wp2; go_end0)))
  exact ⟨⟨_, rfl⟩, .inl ⟨_, rfl, hJ2⟩⟩

set_option maxHeartbeats 1000000 in
theorem nb_0010 {α : Type} (num : α → Int) (n : Nat) (hn : 1 ≤ n) (l bx bg bc bY : Nat) (W H c X Y : Int) (J Jx : List α → World → Prop) (w : World) (hb : NbBoxes w bx bg bc bY W H c X Y)
    (r1 : 0 ≤ X) (r2 : X ≤ 65536) (r3 : 0 ≤ Y) (r4 : Y ≤ 65536) (r5 : 0 ≤ c) (r6 : c ≤ 65536) (_r7 : 0 ≤ W) (_r8 : W ≤ 65536) (h1 : W ≤ X + 1) (h2 : H ≤ Y + 1) (h3 : 0 < X) (h4 : Y ≤ 0) (a1 : α) (e1 : num a1 = c - 1)
    (hY : ∀ pre x W1, J pre W1 → pre.length < 1 → YieldAt Fence.wide (n - 1) Tryz.prog l #[.int .i64 (num x)] W1 fun e W' => (e = .returned (.bool true) ∧ J (pre ++ [x]) W' ∧ NbKp bx bg bc bY W1 W') ∨ (e = .returned (.bool false) ∧ Jx (pre ++ [x]) W'))
    (h0 : J [] w) :
    CallsIn Fence.wide n Tryz.prog 82 #[.func (.yield l) #[] #[], .pointer (some ⟨bx, 0, none⟩), .pointer (some ⟨bg, 0, none⟩), .pointer (some ⟨bc, 0, none⟩), .pointer (some ⟨bY, 0, none⟩)] w (NbPost [a1] J Jx) := by
  refine callsIn_of_wp Tryz.func82 rfl trivial ?_ rfl
  simp only [Tryz.ntmps82, List.size_toArray, List.length_cons, List.length_nil, Nat.reduceAdd, Nat.reduceSub, Array.replicate_succ, Array.replicate_zero, List.push_toArray, List.append_toArray, List.nil_append, List.cons_append]
  have HB0 := Lib.hid hb
  have HY := Lib.hid hY
  obtain ⟨x0, g0, g1, c0, y0⟩ := hb
  clear hY
  obtain ⟨fn0, tmps0, as0, body0, hy, hR⟩ := HY.out [] a1 _ h0 (by simp)
  rw [e1] at hy
  have HR := Lib.hid hR
  clear hR
  gi_wp2
  first | (refine HR.out.mono ?_) | (refine ⟨fun _ h => (by cases h), ?_⟩; gi_wp2; first | (refine HR.out.mono ?_) | (refine ⟨fun _ h => (by cases h), ?_⟩; gi_wp2; first | (refine HR.out.mono ?_) | (refine ⟨fun _ h => (by cases h), ?_⟩; gi_wp2; refine HR.out.mono ?_)))
  clear hy HR x0 g0 g1 c0 y0
  rintro e W1 (⟨rfl, hJ1, hk⟩ | ⟨rfl, hJx⟩)
  rotate_left
  · gi_wp2
    refine bodyPost_ret (results_none rfl _ _ _) rfl ?_
    exact ⟨⟨_, rfl⟩, .inr ⟨_, ⟨[], rfl⟩, hJx⟩⟩
  have HB1 := Lib.hid (HB0.out.keep hk)
  clear hk HB0
  obtain ⟨x0, g0, g1, c0, y0⟩ := HB1.out
  gi_wp2
  first | (go_end0) | (refine ⟨fun _ h => (by cases h), ?_⟩; gi_wp2; first | (go_end0) | (refine ⟨fun _ h => (by cases h), ?_⟩; gi_wp2; first | (go_end0) | (refine ⟨fun _ h => (by cases h), ?_⟩; gi_wp2; go_end0)))
  exact ⟨⟨_, rfl⟩, .inl ⟨_, rfl, hJ1⟩⟩

set_option maxHeartbeats 1000000 in
theorem nb_0001 {α : Type} (num : α → Int) (n : Nat) (hn : 1 ≤ n) (l bx bg bc bY : Nat) (W H c X Y : Int) (J Jx : List α → World → Prop) (w : World) (hb : NbBoxes w bx bg bc bY W H c X Y)
    (r1 : 0 ≤ X) (r2 : X ≤ 65536) (r3 : 0 ≤ Y) (r4 : Y ≤ 65536) (r5 : 0 ≤ c) (r6 : c ≤ 65536) (r7 : 0 ≤ W) (r8 : W ≤ 65536) (h1 : W ≤ X + 1) (h2 : H ≤ Y + 1) (h3 : X ≤ 0) (h4 : 0 < Y) (a1 : α) (e1 : num a1 = c - W)
    (hY : ∀ pre x W1, J pre W1 → pre.length < 1 → YieldAt Fence.wide (n - 1) Tryz.prog l #[.int .i64 (num x)] W1 fun e W' => (e = .returned (.bool true) ∧ J (pre ++ [x]) W' ∧ NbKp bx bg bc bY W1 W') ∨ (e = .returned (.bool false) ∧ Jx (pre ++ [x]) W'))
    (h0 : J [] w) :
    CallsIn Fence.wide n Tryz.prog 82 #[.func (.yield l) #[] #[], .pointer (some ⟨bx, 0, none⟩), .pointer (some ⟨bg, 0, none⟩), .pointer (some ⟨bc, 0, none⟩), .pointer (some ⟨bY, 0, none⟩)] w (NbPost [a1] J Jx) := by
  refine callsIn_of_wp Tryz.func82 rfl trivial ?_ rfl
  simp only [Tryz.ntmps82, List.size_toArray, List.length_cons, List.length_nil, Nat.reduceAdd, Nat.reduceSub, Array.replicate_succ, Array.replicate_zero, List.push_toArray, List.append_toArray, List.nil_append, List.cons_append]
  have HB0 := Lib.hid hb
  have HY := Lib.hid hY
  obtain ⟨x0, g0, g1, c0, y0⟩ := hb
  clear hY
  obtain ⟨fn0, tmps0, as0, body0, hy, hR⟩ := HY.out [] a1 _ h0 (by simp)
  rw [e1] at hy
  have HR := Lib.hid hR
  clear hR
  gi_wp2
  first | (refine HR.out.mono ?_) | (refine ⟨fun _ h => (by cases h), ?_⟩; gi_wp2; first | (refine HR.out.mono ?_) | (refine ⟨fun _ h => (by cases h), ?_⟩; gi_wp2; first | (refine HR.out.mono ?_) | (refine ⟨fun _ h => (by cases h), ?_⟩; gi_wp2; refine HR.out.mono ?_)))
  clear hy HR x0 g0 g1 c0 y0
  rintro e W1 (⟨rfl, hJ1, hk⟩ | ⟨rfl, hJx⟩)
  rotate_left
  · gi_wp2
    go_end0
    exact ⟨⟨_, rfl⟩, .inr ⟨_, ⟨[], rfl⟩, hJx⟩⟩
  have HB1 := Lib.hid (HB0.out.keep hk)
  clear hk HB0
  obtain ⟨x0, g0, g1, c0, y0⟩ := HB1.out
  gi_wp2
  first | (go_end0) | (refine ⟨fun _ h => (by cases h), ?_⟩; gi_wp2; first | (go_end0) | (refine ⟨fun _ h => (by cases h), ?_⟩; gi_wp2; first | (go_end0) | (refine ⟨fun _ h => (by cases h), ?_⟩; gi_wp2; go_end0)))
  exact ⟨⟨_, rfl⟩, .inl ⟨_, rfl, hJ1⟩⟩

set_option maxHeartbeats 1000000 in
theorem nb_0000 {α : Type} (num : α → Int) (n : Nat) (hn : 1 ≤ n) (l bx bg bc bY : Nat) (W H c X Y : Int) (J Jx : List α → World → Prop) (w : World) (hb : NbBoxes w bx bg bc bY W H c X Y)
    (r1 : 0 ≤ X) (r2 : X ≤ 65536) (r3 : 0 ≤ Y) (r4 : Y ≤ 65536) (r5 : 0 ≤ c) (r6 : c ≤ 65536) (_r7 : 0 ≤ W) (_r8 : W ≤ 65536) (h1 : W ≤ X + 1) (h2 : H ≤ Y + 1) (h3 : X ≤ 0) (h4 : Y ≤ 0) 
    (hY : ∀ pre x W1, J pre W1 → pre.length < 0 → YieldAt Fence.wide (n - 1) Tryz.prog l #[.int .i64 (num x)] W1 fun e W' => (e = .returned (.bool true) ∧ J (pre ++ [x]) W' ∧ NbKp bx bg bc bY W1 W') ∨ (e = .returned (.bool false) ∧ Jx (pre ++ [x]) W'))
    (h0 : J [] w) :
    CallsIn Fence.wide n Tryz.prog 82 #[.func (.yield l) #[] #[], .pointer (some ⟨bx, 0, none⟩), .pointer (some ⟨bg, 0, none⟩), .pointer (some ⟨bc, 0, none⟩), .pointer (some ⟨bY, 0, none⟩)] w (NbPost [] J Jx) := by
  refine callsIn_of_wp Tryz.func82 rfl trivial ?_ rfl
  simp only [Tryz.ntmps82, List.size_toArray, List.length_cons, List.length_nil, Nat.reduceAdd, Nat.reduceSub, Array.replicate_succ, Array.replicate_zero, List.push_toArray, List.append_toArray, List.nil_append, List.cons_append]
  have HB0 := Lib.hid hb
  have HY := Lib.hid hY
  obtain ⟨x0, g0, g1, c0, y0⟩ := hb
  clear hY
  gi_wp2
  first | (go_end0) | (refine ⟨fun _ h => (by cases h), ?_⟩; gi_wp2; first | (go_end0) | (refine ⟨fun _ h => (by cases h), ?_⟩; gi_wp2; first | (go_end0) | (refine ⟨fun _ h => (by cases h), ?_⟩; gi_wp2; go_end0)))
  exact ⟨⟨_, rfl⟩, .inl ⟨_, rfl, h0⟩⟩
end Go.Proofs.YthcenmocnphnmaaGreatDoor
/-
  The iterator over the neighbors of a cell: its contract.
-/
namespace Go.Proofs.YthcenmocnphnmaaGreatDoor
open Go.RowKit Go.Shelf

theorem map_eq0 {α : Type} {f : α → Int} {L : List α} (h : L.map f = []) : L = [] := by simpa using h
theorem map_eq1 {α : Type} {f : α → Int} {L : List α} {v1 : Int} (h : L.map f = [v1]) : ∃ a1, L = [a1] ∧ f a1 = v1 := by
  match L, h with
  | [a1], h => simp at h; exact ⟨a1, rfl, h⟩
theorem map_eq2 {α : Type} {f : α → Int} {L : List α} {v1 v2 : Int} (h : L.map f = [v1, v2]) : ∃ a1 a2, L = [a1, a2] ∧ f a1 = v1 ∧ f a2 = v2 := by
  match L, h with
  | [a1, a2], h => simp at h; exact ⟨a1, a2, rfl, h⟩
theorem map_eq3 {α : Type} {f : α → Int} {L : List α} {v1 v2 v3 : Int} (h : L.map f = [v1, v2, v3]) : ∃ a1 a2 a3, L = [a1, a2, a3] ∧ f a1 = v1 ∧ f a2 = v2 ∧ f a3 = v3 := by
  match L, h with
  | [a1, a2, a3], h => simp at h; exact ⟨a1, a2, a3, rfl, h⟩
theorem map_eq4 {α : Type} {f : α → Int} {L : List α} {v1 v2 v3 v4 : Int} (h : L.map f = [v1, v2, v3, v4]) : ∃ a1 a2 a3 a4, L = [a1, a2, a3, a4] ∧ f a1 = v1 ∧ f a2 = v2 ∧ f a3 = v3 ∧ f a4 = v4 := by
  match L, h with
  | [a1, a2, a3, a4], h => simp at h; exact ⟨a1, a2, a3, a4, rfl, h⟩

theorem nb_stops {α : Type} (num : α → Int) (L : List α) (n : Nat) (hn : 1 ≤ n) (bx bg bc bY : Nat) (W H S c X Y : Int) (v : Value) (w : World) (hL : L.map num = nbl W H c X Y)
    (r1 : 0 ≤ X) (r2 : X ≤ 65536) (r3 : 0 ≤ Y) (r4 : Y ≤ 65536) (r5 : 0 ≤ c) (r6 : c ≤ 65536) (r7 : 0 ≤ W) (r8 : W ≤ 65536)
    (b1 : Blk w bx 3 #[.int .i64 X]) (b2 : Blk w bg 24 #[.int .i64 W, .int .i64 H, .int .i64 S, v]) (b3 : Blk w bc 3 #[.int .i64 c]) (b4 : Blk w bY 3 #[.int .i64 Y]) :
    SeqStopsK Fence.wide n Tryz.prog 82 #[.pointer (some ⟨bx, 0, none⟩), .pointer (some ⟨bg, 0, none⟩), .pointer (some ⟨bc, 0, none⟩), .pointer (some ⟨bY, 0, none⟩)]
      (fun a => #[.int .i64 (num a)]) (NbKp bx bg bc bY) (fun xs => xs = L) (fun pre => pre <+: L) L.length w := by
  intro l J Jx W0 hB _ _ hY h0
  have hb : NbBoxes W0 bx bg bc bY W H c X Y := by
    have c1 := b1.below hB b1.lt
    have c2 := b2.below hB b2.lt
    have c3 := b3.below hB b3.lt
    have c4 := b4.below hB b4.lt
    exact ⟨c1.cell 0, c2.cell 0, c2.cell 1, c3.cell 0, c4.cell 0⟩
  unfold nbl at hL
  by_cases h1 : X + 1 < W
  case pos =>
    by_cases h2 : Y + 1 < H
    case pos =>
      by_cases h3 : 0 < X
      case pos =>
        by_cases h4 : 0 < Y
        case pos =>
          rw [if_pos h1, if_pos h2, if_pos h3, if_pos h4] at hL
          simp only [List.nil_append, List.cons_append, List.append_nil] at hL
          obtain ⟨a1, a2, a3, a4, rfl, e1, e2, e3, e4⟩ := map_eq4 hL
          exact nb_1111 num n hn l bx bg bc bY W H c X Y J Jx W0 hb r1 r2 r3 r4 r5 r6 r7 r8 h1 h2 h3 h4 a1 a2 a3 a4 e1 e2 e3 e4 hY h0
        case neg =>
          rw [if_pos h1, if_pos h2, if_pos h3, if_neg h4] at hL
          simp only [List.nil_append, List.cons_append, List.append_nil] at hL
          obtain ⟨a1, a2, a3, rfl, e1, e2, e3⟩ := map_eq3 hL
          exact nb_1110 num n hn l bx bg bc bY W H c X Y J Jx W0 hb r1 r2 r3 r4 r5 r6 r7 r8 h1 h2 h3 (by omega) a1 a2 a3 e1 e2 e3 hY h0
      case neg =>
        by_cases h4 : 0 < Y
        case pos =>
          rw [if_pos h1, if_pos h2, if_neg h3, if_pos h4] at hL
          simp only [List.nil_append, List.cons_append, List.append_nil] at hL
          obtain ⟨a1, a2, a3, rfl, e1, e2, e3⟩ := map_eq3 hL
          exact nb_1101 num n hn l bx bg bc bY W H c X Y J Jx W0 hb r1 r2 r3 r4 r5 r6 r7 r8 h1 h2 (by omega) h4 a1 a2 a3 e1 e2 e3 hY h0
        case neg =>
          rw [if_pos h1, if_pos h2, if_neg h3, if_neg h4] at hL
          simp only [List.nil_append, List.cons_append, List.append_nil] at hL
          obtain ⟨a1, a2, rfl, e1, e2⟩ := map_eq2 hL
          exact nb_1100 num n hn l bx bg bc bY W H c X Y J Jx W0 hb r1 r2 r3 r4 r5 r6 r7 r8 h1 h2 (by omega) (by omega) a1 a2 e1 e2 hY h0
    case neg =>
      by_cases h3 : 0 < X
      case pos =>
        by_cases h4 : 0 < Y
        case pos =>
          rw [if_pos h1, if_neg h2, if_pos h3, if_pos h4] at hL
          simp only [List.nil_append, List.cons_append, List.append_nil] at hL
          obtain ⟨a1, a2, a3, rfl, e1, e2, e3⟩ := map_eq3 hL
          exact nb_1011 num n hn l bx bg bc bY W H c X Y J Jx W0 hb r1 r2 r3 r4 r5 r6 r7 r8 h1 (by omega) h3 h4 a1 a2 a3 e1 e2 e3 hY h0
        case neg =>
          rw [if_pos h1, if_neg h2, if_pos h3, if_neg h4] at hL
          simp only [List.nil_append, List.cons_append, List.append_nil] at hL
          obtain ⟨a1, a2, rfl, e1, e2⟩ := map_eq2 hL
          exact nb_1010 num n hn l bx bg bc bY W H c X Y J Jx W0 hb r1 r2 r3 r4 r5 r6 r7 r8 h1 (by omega) h3 (by omega) a1 a2 e1 e2 hY h0
      case neg =>
        by_cases h4 : 0 < Y
        case pos =>
          rw [if_pos h1, if_neg h2, if_neg h3, if_pos h4] at hL
          simp only [List.nil_append, List.cons_append, List.append_nil] at hL
          obtain ⟨a1, a2, rfl, e1, e2⟩ := map_eq2 hL
          exact nb_1001 num n hn l bx bg bc bY W H c X Y J Jx W0 hb r1 r2 r3 r4 r5 r6 r7 r8 h1 (by omega) (by omega) h4 a1 a2 e1 e2 hY h0
        case neg =>
          rw [if_pos h1, if_neg h2, if_neg h3, if_neg h4] at hL
          simp only [List.nil_append, List.cons_append, List.append_nil] at hL
          obtain ⟨a1, rfl, e1⟩ := map_eq1 hL
          exact nb_1000 num n hn l bx bg bc bY W H c X Y J Jx W0 hb r1 r2 r3 r4 r5 r6 r7 r8 h1 (by omega) (by omega) (by omega) a1 e1 hY h0
  case neg =>
    by_cases h2 : Y + 1 < H
    case pos =>
      by_cases h3 : 0 < X
      case pos =>
        by_cases h4 : 0 < Y
        case pos =>
          rw [if_neg h1, if_pos h2, if_pos h3, if_pos h4] at hL
          simp only [List.nil_append, List.cons_append, List.append_nil] at hL
          obtain ⟨a1, a2, a3, rfl, e1, e2, e3⟩ := map_eq3 hL
          exact nb_0111 num n hn l bx bg bc bY W H c X Y J Jx W0 hb r1 r2 r3 r4 r5 r6 r7 r8 (by omega) h2 h3 h4 a1 a2 a3 e1 e2 e3 hY h0
        case neg =>
          rw [if_neg h1, if_pos h2, if_pos h3, if_neg h4] at hL
          simp only [List.nil_append, List.cons_append, List.append_nil] at hL
          obtain ⟨a1, a2, rfl, e1, e2⟩ := map_eq2 hL
          exact nb_0110 num n hn l bx bg bc bY W H c X Y J Jx W0 hb r1 r2 r3 r4 r5 r6 r7 r8 (by omega) h2 h3 (by omega) a1 a2 e1 e2 hY h0
      case neg =>
        by_cases h4 : 0 < Y
        case pos =>
          rw [if_neg h1, if_pos h2, if_neg h3, if_pos h4] at hL
          simp only [List.nil_append, List.cons_append, List.append_nil] at hL
          obtain ⟨a1, a2, rfl, e1, e2⟩ := map_eq2 hL
          exact nb_0101 num n hn l bx bg bc bY W H c X Y J Jx W0 hb r1 r2 r3 r4 r5 r6 r7 r8 (by omega) h2 (by omega) h4 a1 a2 e1 e2 hY h0
        case neg =>
          rw [if_neg h1, if_pos h2, if_neg h3, if_neg h4] at hL
          simp only [List.nil_append, List.cons_append, List.append_nil] at hL
          obtain ⟨a1, rfl, e1⟩ := map_eq1 hL
          exact nb_0100 num n hn l bx bg bc bY W H c X Y J Jx W0 hb r1 r2 r3 r4 r5 r6 r7 r8 (by omega) h2 (by omega) (by omega) a1 e1 hY h0
    case neg =>
      by_cases h3 : 0 < X
      case pos =>
        by_cases h4 : 0 < Y
        case pos =>
          rw [if_neg h1, if_neg h2, if_pos h3, if_pos h4] at hL
          simp only [List.nil_append, List.cons_append, List.append_nil] at hL
          obtain ⟨a1, a2, rfl, e1, e2⟩ := map_eq2 hL
          exact nb_0011 num n hn l bx bg bc bY W H c X Y J Jx W0 hb r1 r2 r3 r4 r5 r6 r7 r8 (by omega) (by omega) h3 h4 a1 a2 e1 e2 hY h0
        case neg =>
          rw [if_neg h1, if_neg h2, if_pos h3, if_neg h4] at hL
          simp only [List.nil_append, List.cons_append, List.append_nil] at hL
          obtain ⟨a1, rfl, e1⟩ := map_eq1 hL
          exact nb_0010 num n hn l bx bg bc bY W H c X Y J Jx W0 hb r1 r2 r3 r4 r5 r6 r7 r8 (by omega) (by omega) h3 (by omega) a1 e1 hY h0
      case neg =>
        by_cases h4 : 0 < Y
        case pos =>
          rw [if_neg h1, if_neg h2, if_neg h3, if_pos h4] at hL
          simp only [List.nil_append, List.cons_append, List.append_nil] at hL
          obtain ⟨a1, rfl, e1⟩ := map_eq1 hL
          exact nb_0001 num n hn l bx bg bc bY W H c X Y J Jx W0 hb r1 r2 r3 r4 r5 r6 r7 r8 (by omega) (by omega) (by omega) h4 a1 e1 hY h0
        case neg =>
          rw [if_neg h1, if_neg h2, if_neg h3, if_neg h4] at hL
          simp only [List.nil_append, List.cons_append, List.append_nil] at hL
          obtain rfl := map_eq0 hL
          exact nb_0000 num n hn l bx bg bc bY W H c X Y J Jx W0 hb r1 r2 r3 r4 r5 r6 r7 r8 (by omega) (by omega) (by omega) (by omega)   hY h0
end Go.Proofs.YthcenmocnphnmaaGreatDoor
/-
  Near: the neighbors collected.
-/
namespace Go.Proofs.YthcenmocnphnmaaGreatDoor
open Go.RowKit Go.Shelf
attribute [local go_sem] Oper.semAt_some

theorem nbKp_t {bx bg bc bY : Nat} {A B C : World} (h : NbKp bx bg bc bY A B) (k : NbKp bx bg bc bY B C) : NbKp bx bg bc bY A C :=
  ⟨k.1.trans h.1, k.2.1.trans h.2.1, k.2.2.1.trans h.2.2.1, k.2.2.2.trans h.2.2.2⟩
theorem nbKp_b {bx bg bc bY n : Nat} (h1 : bx < n) (h2 : bg < n) (h3 : bc < n) (h4 : bY < n) (W : World) (l : Nat) (o o' : Obj) (hl : n ≤ l) (_ : W.heap[l]? = some o) (_ : o.isCells = false) (_ : o.isWalk = false) : NbKp bx bg bc bY W (W.putObj l o') :=
  ⟨World.putObj_heap_other (by omega), World.putObj_heap_other (by omega), World.putObj_heap_other (by omega), World.putObj_heap_other (by omega)⟩
theorem nbKp_below {bx bg bc bY n : Nat} (h1 : bx < n) (h2 : bg < n) (h3 : bc < n) (h4 : bY < n) {A B : World} (h : Below n A B) : NbKp bx bg bc bY A B :=
  ⟨h.block _ h1, h.block _ h2, h.block _ h3, h.block _ h4⟩

theorem nbl_length (W H c X Y : Int) : (nbl W H c X Y).length ≤ 4 := by
  unfold nbl
  split <;> split <;> split <;> split <;> simp

set_option maxHeartbeats 2000000 in
theorem appendSeq_nb (bx bg bc bY : Nat) (W H S c X Y : Int) (v : Value) (w : World)
    (r1 : 0 ≤ X) (r2 : X ≤ 65536) (r3 : 0 ≤ Y) (r4 : Y ≤ 65536) (r5 : 0 ≤ c) (r6 : c ≤ 65536) (r7 : 0 ≤ W) (r8 : W ≤ 65536)
    (b1 : Blk w bx 3 #[.int .i64 X]) (b2 : Blk w bg 24 #[.int .i64 W, .int .i64 H, .int .i64 S, v]) (b3 : Blk w bc 3 #[.int .i64 c]) (b4 : Blk w bY 3 #[.int .i64 Y]) :
    Calls Tryz.prog 81 #[.slice none 0 0, .func (.func 82) #[] #[.pointer (some ⟨bx, 0, none⟩), .pointer (some ⟨bg, 0, none⟩), .pointer (some ⟨bc, 0, none⟩), .pointer (some ⟨bY, 0, none⟩)]] w fun e W' =>
      ∃ v, e = .returned v ∧ IntsAt W' W'.heap.size v (nbl W H c X Y) ∧ Below w.heap.size w W' := by
  refine (callsIn_wide (n := 5)).1 ?_
  obtain ⟨i0, hi0, hz0, hz1, hz2⟩ := info_parts int_info
  refine callsIn_of_wp_marks Tryz.func81 rfl trivial ?_ rfl
  simp only [Tryz.ntmps81, List.size_toArray, List.length_cons, List.length_nil, Nat.reduceAdd, Nat.reduceSub, Array.replicate_succ, Array.replicate_zero, List.push_toArray, List.append_toArray, List.nil_append, List.cons_append]
  have bO := Boxed.new w 26 (.slice none 0 0)
  have hB0 : Below w.heap.size w (w.alloc (.cells #[.slice none 0 0] 26)) := (Below.refl _ w).alloc (Nat.le_refl _) _
  have hL := nbl_length W H c X Y
  have HST : Hid (SeqStopsK Fence.wide 4 Tryz.prog 82 #[.pointer (some ⟨bx, 0, none⟩), .pointer (some ⟨bg, 0, none⟩), .pointer (some ⟨bc, 0, none⟩), .pointer (some ⟨bY, 0, none⟩)]
      (fun a : Int => #[.int .i64 a]) (NbKp bx bg bc bY) (fun xs => xs = nbl W H c X Y) (fun pre => pre <+: nbl W H c X Y) (nbl W H c X Y).length (w.alloc (.cells #[.slice none 0 0] 26))) :=
    nb_stops (fun a : Int => a) (nbl W H c X Y) 4 (by omega) bx bg bc bY W H S c X Y v _ (by simp) r1 r2 r3 r4 r5 r6 r7 r8 (b1.alloc _) (b2.alloc _) (b3.alloc _) (b4.alloc _)
  have l1 := b1.lt
  have l2 := b2.lt
  have l3 := b3.lt
  have l4 := b4.lt
  clear b1 b2 b3 b4
  generalize nbl W H c X Y = L at *
  gi_wp2
  refine wpIn_rangeFunc_ownG rfl (by omega) (gf := 82) (lb := #[.pointer (some ⟨bx, 0, none⟩), .pointer (some ⟨bg, 0, none⟩), .pointer (some ⟨bc, 0, none⟩), .pointer (some ⟨bY, 0, none⟩)]) rfl trivial (enters_of Tryz.func82 (by kernel_rfl) rfl)
    HST.out nbKp_t (nbKp_b (by simp; omega) (by simp; omega) (by simp; omega) (by simp; omega)) (Below.refl _ _) (fun _ => rfl)
    (fun pre W => (∃ v, Boxed W w.heap.size 26 v ∧ W.ownsRow w.heap.size 3 1 v pre.length (pre.map (Value.int .i64)) ∧ True) ∧ Below w.heap.size w W)
    (fun _ _ _ => False)
    (OwnFrom.and (Own.from (holdsRow_own w.heap.size w.heap.size 26 3 1 (fun pre : List Int => pre.length) (fun pre => pre.map (Value.int .i64)) (fun _ _ => True)) _) (ownFrom_below (Nat.le_refl _) (by simp)))
    (fun _ _ _ _ _ hs _ _ => hs)
    ⟨⟨_, bO, World.ownsRow_nil _ _ _ _, trivial⟩, hB0⟩
    (fun x => { tmps := #[.slice none 0 0, .func (.func 82) #[] #[.pointer (some ⟨bx, 0, none⟩), .pointer (some ⟨bg, 0, none⟩), .pointer (some ⟨bc, 0, none⟩), .pointer (some ⟨bY, 0, none⟩)],
      .pointer (some ⟨w.heap.size, 0, none⟩), undef, .slice none 0 0, .int .i64 x, .func (.func 82) #[] #[.pointer (some ⟨bx, 0, none⟩), .pointer (some ⟨bg, 0, none⟩), .pointer (some ⟨bc, 0, none⟩), .pointer (some ⟨bY, 0, none⟩)], .int .i64 x, undef, undef, undef, undef, undef], defers := [] }) ?assign ?body ?done ?stop
  case assign =>
    intro l x W K hK
    gi_wp2
    exact hK
  case body =>
    rintro l pre x W ⟨⟨v, hv, hrow, _⟩, hB⟩ hlt
    have hc := hv.cell
    gi_wp2_with (gi_at_builtin; refine wpListIn_append_own _ rfl _ _ 26 rfl w.heap.size 3 i0 (.int .i64 0) 1 8 Tryz.underlying26 hi0 hz0 hz1 hz2 rfl (by decide) _ _ _ rfl (hrow.alloc _) ⟨W.heap.size, 0, none⟩ 1 1 [.int .i64 x] rfl rfl (cell_one_new _ _ _) (by simp [Value.oneCell']) (by unfold maxLen; omega) (by omega) (by have := hB.size; simp; omega) ?_; intro v' w1 hown' hgrow _; obtain ⟨g', cap', rfl⟩ := ownsRow_succ hown'; obtain ⟨hv1, hv2, hr2, hk2, hb2⟩ := hv.appended (by decide) hrow hB.size (Nat.le_refl _) hown' hgrow; have hc1 := hv1.cell; have hf1 := hv1.frozen)
    exact ⟨hk2.from _, nbKp_below l1 l2 l3 l4 hb2, ⟨_, hv2, by simpa using hr2, trivial⟩, hB.trans hb2⟩
  case done =>
    rintro D ys W hD rfl ⟨⟨v, hv, hrow, _⟩, hB⟩ hK
    have hc := hv.cell
    gi_wp2
    refine ⟨by simp, .inl ⟨_, _, rfl, run_takeDeferred hK, ?_⟩⟩
    refine ⟨_, results_tmp rfl _ _ _, v, rfl, ?_, hB.trans (belowK_b (w := w) (Nat.le_refl _) W D _ _ (by simp at hD; omega) hK rfl rfl)⟩
    exact Reads.of_own (ownsRow_putObj hrow _ hK rfl)
  case stop =>
    rintro D c pre W _ _ h _
    exact h.elim
end Go.Proofs.YthcenmocnphnmaaGreatDoor
/-
  Near: its contract.
-/
namespace Go.Proofs.YthcenmocnphnmaaGreatDoor
open Go.RowKit Go.Shelf

theorem collect_nb (bx bg bc bY : Nat) (W H S c X Y : Int) (v : Value) (w : World)
    (r1 : 0 ≤ X) (r2 : X ≤ 65536) (r3 : 0 ≤ Y) (r4 : Y ≤ 65536) (r5 : 0 ≤ c) (r6 : c ≤ 65536) (r7 : 0 ≤ W) (r8 : W ≤ 65536)
    (b1 : Blk w bx 3 #[.int .i64 X]) (b2 : Blk w bg 24 #[.int .i64 W, .int .i64 H, .int .i64 S, v]) (b3 : Blk w bc 3 #[.int .i64 c]) (b4 : Blk w bY 3 #[.int .i64 Y]) :
    Calls Tryz.prog 51 #[.func (.func 82) #[] #[.pointer (some ⟨bx, 0, none⟩), .pointer (some ⟨bg, 0, none⟩), .pointer (some ⟨bc, 0, none⟩), .pointer (some ⟨bY, 0, none⟩)]] w fun e W' =>
      ∃ v, e = .returned v ∧ IntsAt W' W'.heap.size v (nbl W H c X Y) ∧ Below w.heap.size w W' := by
  have HC := Lib.hid (appendSeq_nb bx bg bc bY W H S c X Y v w r1 r2 r3 r4 r5 r6 r7 r8 b1 b2 b3 b4)
  clear b1 b2 b3 b4
  go_enter Tryz.func51, Tryz.ntmps51
  go_wp2_with (go_at_call 81; refine HC.out.mono ?_; rintro e w1 ⟨v1, rfl, hv1, hb1⟩; have Hv1 := Lib.hid hv1; clear hv1)
  go_ret
  exact ⟨_, rfl, Hv1.out, hb1⟩

structure Valid (g : G) : Prop where
  w1 : 1 ≤ g.W
  w2 : g.W ≤ 24
  h1 : 1 ≤ g.H
  h2 : g.H ≤ 24
  s1 : 1 ≤ g.S
  s2 : g.S ≤ 10000
  len : (g.ss.length : Int) = g.W * g.H
  ok : g.ss.all (okSpan 1200000) = true
theorem valid_of {g : G} (h : checkE g = 0) : Valid g := by
  unfold checkE at h
  split at h
  · rename_i hr
    unfold rngG at hr
    obtain ⟨a, b, c, d, e, f⟩ := of_decide_eq_true hr
    split at h
    · rename_i hl
      split at h
      · rename_i ho
        exact ⟨a, b, c, d, e, f, hl, ho⟩
      · omega
    · omega
  · omega
theorem Valid.small {g : G} (h : Valid g) : g.ss.length ≤ 576 := by
  have := mul_rng h.w1 h.w2 h.h1 h.h2
  have := h.len
  omega
theorem Valid.pos {g : G} (h : Valid g) : 1 ≤ g.ss.length := by
  have := mul_rng h.w1 h.w2 h.h1 h.h2
  have := h.len
  omega

def nearL (g : G) (c : Int) : List Int := nbl g.W g.H c (c % g.W) (c / g.W)
def nearE (g : G) (c : Int) : Int := if checkE g = 0 then (if inG g c then 0 else 4) else checkE g
def nearV (g : G) (c : Int) : List Int := if checkE g = 0 then (if inG g c then nearL g c else []) else []
def NearOut (g : G) (c : Int) (w : World) (e : Ending) (w' : World) : Prop := ∃ v, e = .returned (.tuple #[v, .int .i64 (nearE g c)]) ∧ IntsAt w' w'.heap.size v (nearV g c) ∧ Below w.heap.size w w'
theorem ret_pair {v : Value} {k : IntKind} {a b : Int} (h : a = b) : Ending.returned (.tuple #[v, .int k a]) = .returned (.tuple #[v, .int k b]) := by rw [h]
theorem ints_nil (w : World) (B : Nat) : IntsAt w B (.slice none 0 0) [] := Reads.nil w B 1

theorem cell_rng {W c : Int} (h1 : 1 ≤ W) (h2 : W ≤ 24) (h3 : 0 ≤ c) (h4 : c ≤ 576) : 0 ≤ c % W ∧ c % W ≤ 65536 ∧ 0 ≤ c / W ∧ c / W ≤ 65536 :=
  ⟨Int.emod_nonneg _ (by omega), by have := Int.emod_lt_of_pos c (show (0 : Int) < W by omega); omega, Int.ediv_nonneg h3 (by omega), by have := Int.ediv_le_self W h3; omega⟩

set_option maxHeartbeats 1000000 in
theorem near_any (x : Value) (g : G) (c : Int) (w : World) (hg : GridAt w w.heap.size x g) :
    Calls Tryz.prog 14 #[x, .int .i64 c] w (NearOut g c w) := by
  have HG := Lib.hid hg
  obtain ⟨v, rfl, hs⟩ := hg
  obtain ⟨A, k, rfl, hk, hm⟩ := hs.open_
  clear hs
  have hB : Below w.heap.size w (w.alloc (.cells #[.int .i64 g.W, .int .i64 g.H, .int .i64 g.S, .slice A g.ss.length k] 24)) := (by repeat (first | exact Below.refl _ _ | assumption | refine Below.drew ?_ | refine Below.drewN' ?_ _ | (refine Below.alloc ?_ (by simp <;> omega) _) | (refine Below.setCell ?_ (by simp <;> omega) _)))
  have HB := Lib.hid hB
  clear hB
  by_cases h0 : checkE g = 0
  case neg =>
    have He : Hid (nearE g c = checkE g) := by simp only [Hid, nearE]; rw [if_neg h0]
    have Hv : Hid (nearV g c = []) := by simp only [Hid, nearV]; rw [if_neg h0]
    have hb : (checkE g != 0) = true := by simpa using h0
    clear h0
    go_enter Tryz.func14, Tryz.ntmps14
    go_wp2_with (go_at_call 16; refine (check_any _ g _ (by exact HG.out.later (by repeat (first | exact Below.refl _ _ | assumption | refine Below.drew ?_ | refine Below.drewN' ?_ _ | (refine Below.alloc ?_ (by simp <;> omega) _) | (refine Below.setCell ?_ (by simp <;> omega) _))) (Nat.le_refl _))).mono ?_; rintro e w1 ⟨rfl, hb1⟩)
    go_ret2
    exact ⟨_, ret_pair He.out.symm, by rw [Hv.out]; exact ints_nil _ _, HB.out.trans (hb1.mono HB.out.size)⟩
  have hb : (checkE g != 0) = false := by simpa using h0
  by_cases h1 : inG g c = true
  case neg =>
    have h1' := hid_not h1
    have He : Hid (nearE g c = 4) := by simp only [Hid, nearE]; rw [if_pos h0, h1'.out]; rfl
    have Hv : Hid (nearV g c = []) := by simp only [Hid, nearV]; rw [if_pos h0, h1'.out]; rfl
    have hok' : decide (0 ≤ c ∧ c < g.ss.length) = false := h1'.out
    clear h0 h1
    go_enter Tryz.func14, Tryz.ntmps14
    go_wp2_with (first
      | (go_at_call 16; refine (check_any _ g _ (by exact HG.out.later (by repeat (first | exact Below.refl _ _ | assumption | refine Below.drew ?_ | refine Below.drewN' ?_ _ | (refine Below.alloc ?_ (by simp <;> omega) _) | (refine Below.setCell ?_ (by simp <;> omega) _))) (Nat.le_refl _))).mono ?_; rintro e w1 ⟨rfl, hb1⟩; have HB1 := Lib.hid (HB.out.trans (hb1.mono HB.out.size)); obtain ⟨hcr, hfr⟩ := bcell hb1)
      | (go_at_call 50; refine (hasCell_any _ g _ _ (by exact HG.out.later HB1.out (Nat.le_refl _))).mono ?_; rw [hok']; clear hok'; rintro e w2 ⟨rfl, hb2⟩))
    go_ret2
    exact ⟨_, ret_pair He.out.symm, by rw [Hv.out]; exact ints_nil _ _, HB1.out.trans (hb2.mono HB1.out.size)⟩
  have V := valid_of h0
  have He : Hid (nearE g c = 0) := by simp only [Hid, nearE]; rw [if_pos h0, h1]; rfl
  have Hv : Hid (nearV g c = nearL g c) := by simp only [Hid, nearV]; rw [if_pos h0, h1]; rfl
  have hok' : decide (0 ≤ c ∧ c < g.ss.length) = true := h1
  have hcc := of_decide_eq_true hok'
  have hsm := V.small
  have r5 : 0 ≤ c := hcc.1
  have r6 : c ≤ 65536 := by omega
  have r7 : 1 ≤ g.W := V.w1
  have HR := Lib.hid (cell_rng V.w1 V.w2 hcc.1 (by omega))
  have HV := Lib.hid V
  clear h0 h1 hcc V hsm
  go_enter Tryz.func14, Tryz.ntmps14
  go_wp2_with (first
    | (go_at_call 16; refine (check_any _ g _ (by exact HG.out.later (by repeat (first | exact Below.refl _ _ | assumption | refine Below.drew ?_ | refine Below.drewN' ?_ _ | (refine Below.alloc ?_ (by simp <;> omega) _) | (refine Below.setCell ?_ (by simp <;> omega) _))) (Nat.le_refl _))).mono ?_; rintro e w1 ⟨rfl, hb1⟩; have HB1 := Lib.hid (HB.out.trans (hb1.mono HB.out.size)); have HB1' := Lib.hid hb1; obtain ⟨hcr, hfr⟩ := bcell hb1; clear hb1)
    | (go_at_call 50; refine (hasCell_any _ g _ _ (by exact HG.out.later HB1.out (Nat.le_refl _))).mono ?_; rw [hok']; clear hok'; rintro e w2 ⟨rfl, hb2⟩; have HB2 := Lib.hid (HB1.out.trans (hb2.mono HB1.out.size)); obtain ⟨hcr2, hfr2⟩ := bcell (HB1'.out.trans (hb2.mono HB1'.out.size)); clear hcr hfr hb2)
    | (go_at_call 52; refine (neighbors_any _ _ _ _ _ _ _ _ r7 r5 r6).mono ?_; rintro e w3 ⟨bx, bg, bc, bY, rfl, k1, k2, k3, k4, _, _, _, _, hb3⟩; have HB3 := Lib.hid (HB2.out.trans (hb3.mono HB2.out.size)); have HK := Lib.hid (And.intro k1 (And.intro k2 (And.intro k3 k4))); clear k1 k2 k3 k4 hb3)
    | (go_at_call 51; refine (collect_nb _ _ _ _ _ _ _ _ _ _ _ _ HR.out.1 HR.out.2.1 HR.out.2.2.1 HR.out.2.2.2 r5 r6 (by omega) (by have := HV.out.w2; omega) HK.out.1 HK.out.2.1 HK.out.2.2.1 HK.out.2.2.2).mono ?_; rintro e w4 ⟨v4, rfl, hv4, hb4⟩; have HV4 := Lib.hid hv4; clear hv4))
  go_ret2
  exact ⟨_, ret_pair He.out.symm, by rw [Hv.out]; exact HV4.out, HB3.out.trans (hb4.mono HB3.out.size)⟩
end Go.Proofs.YthcenmocnphnmaaGreatDoor
