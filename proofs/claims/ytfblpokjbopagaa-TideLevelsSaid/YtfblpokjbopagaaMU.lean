/-
  Layer 2: the laws' model returns the document's model as the program's.
-/
import Derived.Test.YtfblpokjbopagaaMO
set_option linter.unusedSimpArgs false
set_option linter.unusedVariables false
namespace Go.Proofs.Ytfblpokjbopagaa
open Go.RowKit

theorem cells_three_blk {w : World} {n t : Nat} {a b c : Value} (h : Blk w n t #[a, b, c]) : ∀ j u, [a, b, c][j]? = some u → w.cell? ((⟨n, 0, none⟩ : Addr).add j) = some u := by
  intro j u hj
  match j, hj with
  | 0, hj => simp at hj; subst hj; have := h.cell 0; simpa [Addr.add] using this
  | 1, hj => simp at hj; subst hj; have := h.cell 1; simpa [Addr.add] using this
  | 2, hj => simp at hj; subst hj; have := h.cell 2; simpa [Addr.add] using this
def oym5_0 : Oper := { dst := some 15, op := Op.fieldAddr 35 (Operand.tmp 3) 1, type := 0, pos := "law.go:57", after := #[], guard := none }
def oym5_1 : Oper := { dst := some 16, op := Op.load 33 (Operand.tmp 15), type := 33, pos := "law.go:57", after := #[{ on := 0, ground := Ground.data }], guard := none }
def oym5_2 : Oper := { dst := some 17, op := Op.fieldAddr 31 (Operand.tmp 1) 1, type := 0, pos := "law.go:57", after := #[], guard := none }
def oym5_3 : Oper := { dst := some 18, op := Op.load 29 (Operand.tmp 17), type := 29, pos := "law.go:57", after := #[{ on := 2, ground := Ground.data }], guard := none }
def oym5_4 : Oper := { dst := some 19, op := Op.move (Operand.tmp 4), type := 3, pos := "law.go:57", after := #[], guard := none }
def oym5_5 : Oper := { dst := some 20, op := Op.indexAddr 29 (Operand.tmp 18) (Operand.tmp 19), type := 0, pos := "law.go:57", after := #[{ on := 3, ground := Ground.data }, { on := 4, ground := Ground.data }], guard := none }
def oym5_6 : Oper := { dst := some 21, op := Op.fieldAddr 80 (Operand.tmp 20) 0, type := 0, pos := "law.go:57", after := #[{ on := 5, ground := Ground.data }], guard := none }
def oym5_7 : Oper := { dst := some 22, op := Op.load 3 (Operand.tmp 21), type := 3, pos := "law.go:57", after := #[{ on := 6, ground := Ground.data }], guard := none }
def oym5_8 : Oper := { dst := some 23, op := Op.fieldAddr 31 (Operand.tmp 1) 1, type := 0, pos := "law.go:57", after := #[], guard := none }
def oym5_9 : Oper := { dst := some 24, op := Op.load 29 (Operand.tmp 23), type := 29, pos := "law.go:57", after := #[{ on := 8, ground := Ground.data }], guard := none }
def oym5_10 : Oper := { dst := some 25, op := Op.move (Operand.tmp 4), type := 3, pos := "law.go:57", after := #[], guard := none }
def oym5_11 : Oper := { dst := some 26, op := Op.indexAddr 29 (Operand.tmp 24) (Operand.tmp 25), type := 0, pos := "law.go:57", after := #[{ on := 9, ground := Ground.data }, { on := 10, ground := Ground.data }], guard := none }
def oym5_12 : Oper := { dst := some 27, op := Op.fieldAddr 80 (Operand.tmp 26) 1, type := 0, pos := "law.go:57", after := #[{ on := 11, ground := Ground.data }], guard := none }
def oym5_13 : Oper := { dst := some 28, op := Op.load 3 (Operand.tmp 27), type := 3, pos := "law.go:57", after := #[{ on := 12, ground := Ground.data }], guard := none }
def oym5_14 : Oper := { dst := some 29, op := Op.fieldAddr 31 (Operand.tmp 1) 1, type := 0, pos := "law.go:57", after := #[], guard := none }
def oym5_15 : Oper := { dst := some 30, op := Op.load 29 (Operand.tmp 29), type := 29, pos := "law.go:57", after := #[{ on := 14, ground := Ground.data }], guard := none }
def oym5_16 : Oper := { dst := some 31, op := Op.move (Operand.tmp 4), type := 3, pos := "law.go:57", after := #[], guard := none }
def oym5_17 : Oper := { dst := some 32, op := Op.indexAddr 29 (Operand.tmp 30) (Operand.tmp 31), type := 0, pos := "law.go:57", after := #[{ on := 15, ground := Ground.data }, { on := 16, ground := Ground.data }], guard := none }
def oym5_18 : Oper := { dst := some 33, op := Op.fieldAddr 80 (Operand.tmp 32) 2, type := 0, pos := "law.go:57", after := #[{ on := 17, ground := Ground.data }], guard := none }
def oym5_19 : Oper := { dst := some 34, op := Op.load 3 (Operand.tmp 33), type := 3, pos := "law.go:57", after := #[{ on := 18, ground := Ground.data }], guard := none }
def oym5_20 : Oper := { dst := some 35, op := Op.build 70 #[(0, Operand.tmp 22), (1, Operand.tmp 28), (2, Operand.tmp 34)], type := 70, pos := "law.go:57", after := #[{ on := 7, ground := Ground.data }, { on := 13, ground := Ground.data }, { on := 19, ground := Ground.data }], guard := none }
def oym5_21 : Oper := { dst := some 36, op := Op.buildSlice 33 1 #[(0, Operand.tmp 35)], type := 33, pos := "law.go:57", after := #[{ on := 20, ground := Ground.data }], guard := none }
def oym5_22 : Oper := { dst := some 37, op := Op.call { callee := Callee.builtin Builtin.append, args := #[Operand.tmp 16, Operand.tmp 36], argTypes := #[33, 33] }, type := 33, pos := "law.go:57", after := #[{ on := 1, ground := Ground.data }, { on := 21, ground := Ground.data }], guard := none }
def oym5_23 : Oper := { dst := some 38, op := Op.fieldAddr 35 (Operand.tmp 3) 1, type := 0, pos := "law.go:57", after := #[{ on := 0, ground := Ground.phase }, { on := 1, ground := Ground.phase }, { on := 2, ground := Ground.phase }, { on := 3, ground := Ground.phase }, { on := 4, ground := Ground.phase }, { on := 5, ground := Ground.phase }, { on := 6, ground := Ground.phase }, { on := 7, ground := Ground.phase }, { on := 8, ground := Ground.phase }, { on := 9, ground := Ground.phase }, { on := 10, ground := Ground.phase }, { on := 11, ground := Ground.phase }, { on := 12, ground := Ground.phase }, { on := 13, ground := Ground.phase }, { on := 14, ground := Ground.phase }, { on := 15, ground := Ground.phase }, { on := 16, ground := Ground.phase }, { on := 17, ground := Ground.phase }, { on := 18, ground := Ground.phase }, { on := 19, ground := Ground.phase }, { on := 20, ground := Ground.phase }, { on := 21, ground := Ground.phase }, { on := 22, ground := Ground.phase }], guard := none }
def oym5_24 : Oper := { dst := none, op := Op.store 33 (Operand.tmp 38) (Operand.tmp 37), type := 0, pos := "law.go:57", after := #[{ on := 23, ground := Ground.data }, { on := 22, ground := Ground.data }, { on := 22, ground := Ground.chain }, { on := 0, ground := Ground.phase }, { on := 1, ground := Ground.phase }, { on := 2, ground := Ground.phase }, { on := 3, ground := Ground.phase }, { on := 4, ground := Ground.phase }, { on := 5, ground := Ground.phase }, { on := 6, ground := Ground.phase }, { on := 7, ground := Ground.phase }, { on := 8, ground := Ground.phase }, { on := 9, ground := Ground.phase }, { on := 10, ground := Ground.phase }, { on := 11, ground := Ground.phase }, { on := 12, ground := Ground.phase }, { on := 13, ground := Ground.phase }, { on := 14, ground := Ground.phase }, { on := 15, ground := Ground.phase }, { on := 16, ground := Ground.phase }, { on := 17, ground := Ground.phase }, { on := 18, ground := Ground.phase }, { on := 19, ground := Ground.phase }, { on := 20, ground := Ground.phase }, { on := 21, ground := Ground.phase }, { on := 22, ground := Ground.phase }], guard := none }

set_option maxRecDepth 100000 in
set_option maxHeartbeats 4000000 in
theorem lmodel_any (x : Value) (m : Md) (w : World) (hm : MdAt w w.heap.size x m) (hl : m.ps.length ≤ 40) :
    Calls Try.prog 15 #[x] w fun e w' => ∃ y, e = .returned (.agg #[.int .i64 m.mean, y]) ∧ w'.ownsRow w.heap.size 70 3 y m.ps.length (prtCells m.ps) ∧ Below w.heap.size w w' := by
  obtain ⟨v, rfl, hp⟩ := hm
  obtain ⟨mean, ps⟩ := m
  simp only at hp hl ⊢
  obtain ⟨A, c, rfl, hc, -⟩ := hp.open_
  have HP := Lib.hid hp
  obtain ⟨i0, hi0, hz0, hz1, hz2⟩ := info_parts part_info
  have HI := Lib.hid (And.intro hi0 (And.intro hz0 (And.intro hz1 hz2)))
  have hli : (ps.length : Int) ≤ 40 := by omega
  clear hp hi0 hz0 hz1 hz2
  go_enter Try.func15, Try.ntmps15
  go_upto_region 2 with (fail)
  obtain ⟨V0, hV⟩ : ∃ V, ((w.alloc (.cells #[.int .i64 mean, .slice A ps.length c] 31)).alloc (.cells #[.int .i64 0, .slice none 0 0] 35)).alloc (.cells #[.int .i64 mean, .slice none 0 0] 35) = V := ⟨_, rfl⟩
  have K1 : Hid (Blk V0 w.heap.size 31 #[.int .i64 mean, .slice A ps.length c]) := by rw [← hV]; exact ((Blk.new' _ _ _ rfl).alloc _).alloc _
  have K4 : Hid (Blk V0 (w.heap.size + 1) 35 #[.int .i64 0, .slice none 0 0]) := by rw [← hV]; exact (Blk.new' _ _ _ (by simp)).alloc _
  have K5 : Hid (Blk V0 (w.heap.size + 2) 35 #[.int .i64 mean, .slice none 0 0]) := by rw [← hV]; exact Blk.new' _ _ _ (by simp)
  have KB : Hid (Below w.heap.size w V0) := by rw [← hV]; exact (by repeat (first | exact Below.refl _ _ | assumption | refine Below.drew ?_ | refine Below.drewN' ?_ _ | (refine Below.alloc ?_ (by simp <;> omega) _) | (refine Below.setCell ?_ (by simp <;> omega) _)))
  rw [hV]
  clear hV
  obtain ⟨b1, h1⟩ : ∃ b, w.heap.size = b := ⟨_, rfl⟩
  obtain ⟨b2, h2⟩ : ∃ b, w.heap.size + 1 = b := ⟨_, rfl⟩
  obtain ⟨b3, h3⟩ : ∃ b, w.heap.size + 2 = b := ⟨_, rfl⟩
  have g1 : w.heap.size ≤ b1 := by omega
  have g4 : w.heap.size ≤ b2 := by omega
  have g5 : w.heap.size ≤ b3 := by omega
  have n45 : ¬ b2 = b3 := by omega
  have n15 : ¬ b1 = b3 := by omega
  rw [h3] at K5
  rw [h2] at K4
  rw [h1] at K1
  rw [h3, h2]
  have E1 := Lib.hid h1
  try rw [h1]
  clear h1 h2 h3
  go_wp2_with fail
  go_loopw [4] (fun j wr => ∃ (k : Nat) (u : Value), k ≤ ps.length ∧ j = .int .i64 k ∧ Hid (Blk wr b3 35 #[.int .i64 mean, u]) ∧ Hid (Blk wr b2 35 #[.int .i64 0, .slice none 0 0]) ∧ Hid (Blk wr b1 31 #[.int .i64 mean, .slice A ps.length c]) ∧ Hid (wr.ownsRow w.heap.size 70 3 u k (prtCells (ps.take k))) ∧ Hid (Below w.heap.size w wr)) (fun j wr => ps.length - (intOf j).toNat)
  case atStart => exact ⟨0, _, by omega, rfl, K5.out, K4.out, K1.out, World.ownsRow_nil _ _ _ _, KB.out⟩
  case round =>
    clear K1 K4 K5 KB
    obtain ⟨k, u, hk, rfl, H5, H4, H1, HO, HB⟩ := hrel
    have x0 := H1.out.cell 0
    have x1 := H1.out.cell 1
    have y0 := H5.out.cell 0
    have y1 := H5.out.cell 1
    have y2 := H5.out.frozen 1
    simp only [List.getElem?_toArray, List.getElem?_cons_zero, List.getElem?_cons_succ] at x0 x1 y0 y1
    by_cases hlt : k < ps.length
    · have hk0 : (0 : Int) ≤ (k : Int) := by omega
      have hk1 : (k : Int) < (ps.length : Int) := by omega
      obtain ⟨b, o, rfl, hb, f0, f1, f2⟩ := HP.out.at_ hlt
      have HN : Hid (ps.take (k + 1) = ps.take k ++ [ps[k]]) := List.take_succ_eq_append_getElem hlt
      generalize ps[k] = p at *
      obtain ⟨p0, p1, p2⟩ := p
      simp only at f0 f1 f2
      have e0 := Lib.hid f0
      have e1 := Lib.hid f1
      have e2 := Lib.hid f2
      clear f0 f1 f2
      have HSV : Hid (∀ U, Below wr.heap.size wr U → U.cell? ⟨b1, 1, none⟩ = some (.slice (some ⟨b, o, none⟩) ps.length c) ∧ U.cell? ⟨b3, 1, none⟩ = some u ∧ U.cell? ⟨b, o + k * 3, none⟩ = some (.int .i64 p0) ∧ U.cell? ⟨b, o + k * 3 + 1, none⟩ = some (.int .i64 p1) ∧ U.cell? ⟨b, o + k * 3 + 2, none⟩ = some (.int .i64 p2)) := fun U hU => by
        have q1 := H1.out.below hU H1.out.lt
        have q5 := H5.out.below hU H5.out.lt
        have hbw := HB.out.trans (hU.mono HB.out.size)
        exact ⟨q1.cell 1, q5.cell 1, (hbw.cell (p := ⟨b, o + k * 3, none⟩) hb).trans e0.out, (hbw.cell (p := ⟨b, o + k * 3 + 1, none⟩) hb).trans e1.out, (hbw.cell (p := ⟨b, o + k * 3 + 2, none⟩) hb).trans e2.out⟩
      have k0 := HSV.out _ (Below.drew (Below.refl wr.heap.size wr))
      have hn5 := own_blk_ne HO.out H5.out (by decide)
      have hn4 := own_blk_ne HO.out H4.out (by decide)
      have hn1 := own_blk_ne HO.out H1.out (by decide)
      go_upto_region 5 with (fail)
      clear x0 x1 y0 y1 y2
      refine wp_region_noPanic ?_
      refine wp_region_L (S := (fun w' => w'.cell? ⟨b1, 1, none⟩ = some (.slice (some ⟨b, o, none⟩) ps.length c) ∧ w'.cell? ⟨b3, 1, none⟩ = some u ∧ w'.cell? ⟨b, o + k * 3, none⟩ = some (.int .i64 p0) ∧ w'.cell? ⟨b, o + k * 3 + 1, none⟩ = some (.int .i64 p1) ∧ w'.cell? ⟨b, o + k * 3 + 2, none⟩ = some (.int .i64 p2))) (ks := [24]) (by kernel_rfl) ?_ (fun hHeld => ?_)
      · (try dsimp only); (exact k0)
      refine wpAnyL_take (i := 0) (oi := oym5_0) (v := ?_) rfl (by kernel_rfl) (fun _ _ _ h => h) (Or.inl ⟨by rfl, ?_⟩) (by assumption) ?_
      rotate_left
      · ((intro w hSw; delta oym5_0; (try dsimp only at hSw); go_simp) <;> with_reducible rfl)
      try simp only [oym5_0, Act.put, List.setIfInBounds_toArray, List.set_cons_zero, List.set_cons_succ]
      refine wpAnyL_take (i := 1) (oi := oym5_1) (v := ?_) rfl (by kernel_rfl) (fun _ _ _ h => h) (Or.inl ⟨by rfl, ?_⟩) (by assumption) ?_
      rotate_left
      · ((intro w hSw; delta oym5_1; (try dsimp only at hSw); go_simp) <;> with_reducible rfl)
      try simp only [oym5_1, Act.put, List.setIfInBounds_toArray, List.set_cons_zero, List.set_cons_succ]
      refine wpAnyL_take (i := 2) (oi := oym5_2) (v := ?_) rfl (by kernel_rfl) (fun _ _ _ h => h) (Or.inl ⟨by rfl, ?_⟩) (by assumption) ?_
      rotate_left
      · ((intro w hSw; delta oym5_2; (try dsimp only at hSw); go_simp) <;> with_reducible rfl)
      try simp only [oym5_2, Act.put, List.setIfInBounds_toArray, List.set_cons_zero, List.set_cons_succ]
      refine wpAnyL_take (i := 3) (oi := oym5_3) (v := ?_) rfl (by kernel_rfl) (fun _ _ _ h => h) (Or.inl ⟨by rfl, ?_⟩) (by assumption) ?_
      rotate_left
      · ((intro w hSw; delta oym5_3; (try dsimp only at hSw); go_simp) <;> with_reducible rfl)
      try simp only [oym5_3, Act.put, List.setIfInBounds_toArray, List.set_cons_zero, List.set_cons_succ]
      refine wpAnyL_take (i := 4) (oi := oym5_4) (v := ?_) rfl (by kernel_rfl) (fun _ _ _ h => h) (Or.inl ⟨by rfl, ?_⟩) (by assumption) ?_
      rotate_left
      · ((intro w hSw; delta oym5_4; (try dsimp only at hSw); go_simp) <;> with_reducible rfl)
      try simp only [oym5_4, Act.put, List.setIfInBounds_toArray, List.set_cons_zero, List.set_cons_succ]
      refine wpAnyL_take (i := 5) (oi := oym5_5) (v := ?_) rfl (by kernel_rfl) (fun _ _ _ h => h) (Or.inl ⟨by rfl, ?_⟩) (by assumption) ?_
      rotate_left
      · ((intro w hSw; delta oym5_5; (try dsimp only at hSw); go_simp) <;> with_reducible rfl)
      try simp only [oym5_5, Act.put, List.setIfInBounds_toArray, List.set_cons_zero, List.set_cons_succ]
      refine wpAnyL_take (i := 6) (oi := oym5_6) (v := ?_) rfl (by kernel_rfl) (fun _ _ _ h => h) (Or.inl ⟨by rfl, ?_⟩) (by assumption) ?_
      rotate_left
      · ((intro w hSw; delta oym5_6; (try dsimp only at hSw); go_simp) <;> with_reducible rfl)
      try simp only [oym5_6, Act.put, List.setIfInBounds_toArray, List.set_cons_zero, List.set_cons_succ]
      refine wpAnyL_take (i := 7) (oi := oym5_7) (v := ?_) rfl (by kernel_rfl) (fun _ _ _ h => h) (Or.inl ⟨by rfl, ?_⟩) (by assumption) ?_
      rotate_left
      · ((intro w hSw; delta oym5_7; (try dsimp only at hSw); go_simp) <;> with_reducible rfl)
      try simp only [oym5_7, Act.put, List.setIfInBounds_toArray, List.set_cons_zero, List.set_cons_succ]
      refine wpAnyL_take (i := 8) (oi := oym5_8) (v := ?_) rfl (by kernel_rfl) (fun _ _ _ h => h) (Or.inl ⟨by rfl, ?_⟩) (by assumption) ?_
      rotate_left
      · ((intro w hSw; delta oym5_8; (try dsimp only at hSw); go_simp) <;> with_reducible rfl)
      try simp only [oym5_8, Act.put, List.setIfInBounds_toArray, List.set_cons_zero, List.set_cons_succ]
      refine wpAnyL_take (i := 9) (oi := oym5_9) (v := ?_) rfl (by kernel_rfl) (fun _ _ _ h => h) (Or.inl ⟨by rfl, ?_⟩) (by assumption) ?_
      rotate_left
      · ((intro w hSw; delta oym5_9; (try dsimp only at hSw); go_simp) <;> with_reducible rfl)
      try simp only [oym5_9, Act.put, List.setIfInBounds_toArray, List.set_cons_zero, List.set_cons_succ]
      refine wpAnyL_take (i := 10) (oi := oym5_10) (v := ?_) rfl (by kernel_rfl) (fun _ _ _ h => h) (Or.inl ⟨by rfl, ?_⟩) (by assumption) ?_
      rotate_left
      · ((intro w hSw; delta oym5_10; (try dsimp only at hSw); go_simp) <;> with_reducible rfl)
      try simp only [oym5_10, Act.put, List.setIfInBounds_toArray, List.set_cons_zero, List.set_cons_succ]
      refine wpAnyL_take (i := 11) (oi := oym5_11) (v := ?_) rfl (by kernel_rfl) (fun _ _ _ h => h) (Or.inl ⟨by rfl, ?_⟩) (by assumption) ?_
      rotate_left
      · ((intro w hSw; delta oym5_11; (try dsimp only at hSw); go_simp) <;> with_reducible rfl)
      try simp only [oym5_11, Act.put, List.setIfInBounds_toArray, List.set_cons_zero, List.set_cons_succ]
      refine wpAnyL_take (i := 12) (oi := oym5_12) (v := ?_) rfl (by kernel_rfl) (fun _ _ _ h => h) (Or.inl ⟨by rfl, ?_⟩) (by assumption) ?_
      rotate_left
      · ((intro w hSw; delta oym5_12; (try dsimp only at hSw); go_simp) <;> with_reducible rfl)
      try simp only [oym5_12, Act.put, List.setIfInBounds_toArray, List.set_cons_zero, List.set_cons_succ]
      refine wpAnyL_take (i := 13) (oi := oym5_13) (v := ?_) rfl (by kernel_rfl) (fun _ _ _ h => h) (Or.inl ⟨by rfl, ?_⟩) (by assumption) ?_
      rotate_left
      · ((intro w hSw; delta oym5_13; (try dsimp only at hSw); go_simp) <;> with_reducible rfl)
      try simp only [oym5_13, Act.put, List.setIfInBounds_toArray, List.set_cons_zero, List.set_cons_succ]
      refine wpAnyL_take (i := 14) (oi := oym5_14) (v := ?_) rfl (by kernel_rfl) (fun _ _ _ h => h) (Or.inl ⟨by rfl, ?_⟩) (by assumption) ?_
      rotate_left
      · ((intro w hSw; delta oym5_14; (try dsimp only at hSw); go_simp) <;> with_reducible rfl)
      try simp only [oym5_14, Act.put, List.setIfInBounds_toArray, List.set_cons_zero, List.set_cons_succ]
      refine wpAnyL_take (i := 15) (oi := oym5_15) (v := ?_) rfl (by kernel_rfl) (fun _ _ _ h => h) (Or.inl ⟨by rfl, ?_⟩) (by assumption) ?_
      rotate_left
      · ((intro w hSw; delta oym5_15; (try dsimp only at hSw); go_simp) <;> with_reducible rfl)
      try simp only [oym5_15, Act.put, List.setIfInBounds_toArray, List.set_cons_zero, List.set_cons_succ]
      refine wpAnyL_take (i := 16) (oi := oym5_16) (v := ?_) rfl (by kernel_rfl) (fun _ _ _ h => h) (Or.inl ⟨by rfl, ?_⟩) (by assumption) ?_
      rotate_left
      · ((intro w hSw; delta oym5_16; (try dsimp only at hSw); go_simp) <;> with_reducible rfl)
      try simp only [oym5_16, Act.put, List.setIfInBounds_toArray, List.set_cons_zero, List.set_cons_succ]
      refine wpAnyL_take (i := 17) (oi := oym5_17) (v := ?_) rfl (by kernel_rfl) (fun _ _ _ h => h) (Or.inl ⟨by rfl, ?_⟩) (by assumption) ?_
      rotate_left
      · ((intro w hSw; delta oym5_17; (try dsimp only at hSw); go_simp) <;> with_reducible rfl)
      try simp only [oym5_17, Act.put, List.setIfInBounds_toArray, List.set_cons_zero, List.set_cons_succ]
      refine wpAnyL_take (i := 18) (oi := oym5_18) (v := ?_) rfl (by kernel_rfl) (fun _ _ _ h => h) (Or.inl ⟨by rfl, ?_⟩) (by assumption) ?_
      rotate_left
      · ((intro w hSw; delta oym5_18; (try dsimp only at hSw); go_simp) <;> with_reducible rfl)
      try simp only [oym5_18, Act.put, List.setIfInBounds_toArray, List.set_cons_zero, List.set_cons_succ]
      refine wpAnyL_take (i := 19) (oi := oym5_19) (v := ?_) rfl (by kernel_rfl) (fun _ _ _ h => h) (Or.inl ⟨by rfl, ?_⟩) (by assumption) ?_
      rotate_left
      · ((intro w hSw; delta oym5_19; (try dsimp only at hSw); go_simp) <;> with_reducible rfl)
      try simp only [oym5_19, Act.put, List.setIfInBounds_toArray, List.set_cons_zero, List.set_cons_succ]
      refine wpAnyL_take (i := 20) (oi := oym5_20) (v := ?_) rfl (by kernel_rfl) (fun _ _ _ h => h) (Or.inl ⟨by rfl, ?_⟩) (by assumption) ?_
      rotate_left
      · ((intro w hSw; delta oym5_20; (try dsimp only at hSw); go_simp) <;> with_reducible rfl)
      try simp only [oym5_20, Act.put, List.setIfInBounds_toArray, List.set_cons_zero, List.set_cons_succ]
      obtain ⟨W0, hW0⟩ : ∃ V, wr.drew = V := ⟨_, rfl⟩; rw [hW0] at hHeld ⊢; have HBV : Hid (Below wr.heap.size wr W0) := (by rw [← hW0]; exact Below.drew (Below.refl _ _)); have HB0 := Lib.hid (Below.refl W0.heap.size W0); clear hW0
      refine wpAnyL_ready (rs := [21]) (by kernel_rfl) (by simp) ?_
      refine AllReadyL.cons (o := oym5_21) rfl (fun K hK => ?_) AllReadyL.nil
      delta oym5_21
      go_simp
      obtain ⟨W1, hV⟩ : ∃ V, W0.alloc (.cells #[.int .i64 p0, .int .i64 p1, .int .i64 p2] 70) = V := ⟨_, rfl⟩; have hbz : Below W0.heap.size W0 W1 := (by rw [← hV]; exact (Below.refl _ _).alloc (Nat.le_refl _) _); have HB1 := Lib.hid (HB0.out.trans (hbz.mono HB0.out.size)); have Hnb_1 : Hid (Blk W1 W0.heap.size 70 #[.int .i64 p0, .int .i64 p1, .int .i64 p2]) := (by rw [← hV]; exact Blk.new' _ _ _ rfl); obtain ⟨nb, hz⟩ : ∃ b, W0.heap.size = b := ⟨_, rfl⟩; rw [hz] at Hnb_1; have gnb : W0.heap.size ≤ nb := (by rw [← hz]; exact HB0.out.size); rw [hV, hz]; clear hV hbz hz
      refine hK.out _ _ ?_ (fun hHeld => ?_)
      · (try dsimp only); (exact HSV.out _ (HBV.out.trans (HB1.out.mono HBV.out.size)))
      clear hK K
      try simp only [oym5_21, Act.put, List.setIfInBounds_toArray, List.set_cons_zero, List.set_cons_succ]
      obtain ⟨hi0, hz0, hz1, hz2⟩ := HI.out; have hbW := HBV.out.trans (HB1.out.mono HBV.out.size); have hO1 := own_far HO.out (fun j hj => hbW.block j (HO.out.lt j hj).2); have hbs : w.heap.size ≤ W1.heap.size := Nat.le_trans HB.out.size hbW.size; obtain ⟨v1, W2, hr, hown1, hg1, -⟩ := run_append_own (P := Try.prog) W1 w.heap.size 33 33 70 i0 (.agg #[.int .i64 0, .int .i64 0, .int .i64 0]) 3 24 Try.underlying33 hi0 hz0 hz1 hz2 rfl (by omega) u k _ hO1 ⟨nb, 0, none⟩ 1 1 [.int .i64 p0, .int .i64 p1, .int .i64 p2] rfl (cells_three_blk Hnb_1.out) (by simp [Value.oneCell']) (by unfold maxLen; omega) (by omega) hbs; have h5 := blk_grown (H5.out.below hbW H5.out.lt) hg1 (fun e => hn5 e.symm); have h4 := blk_grown (H4.out.below hbW H4.out.lt) hg1 (fun e => hn4 e.symm); have h1 := blk_grown (H1.out.below hbW H1.out.lt) hg1 (fun e => hn1 e.symm); have hbw : Below w.heap.size w W2 := (HB.out.trans (hbW.mono HB.out.size)).grown hg1 hbs (fun q e => (HO.out.lt q e).1); obtain ⟨g', cap', rfl⟩ := own_some hown1 (Nat.succ_pos _); have P5 := Lib.hid h5; have P4 := Lib.hid h4; have P1 := Lib.hid h1; have PB := Lib.hid hbw; have PO := Lib.hid hown1; clear h5 h4 h1 hbw hown1 hg1 hO1 hbW hbs hi0 hz0 hz1 hz2
      refine wpAnyL_ready (rs := [22]) (by kernel_rfl) (by simp) ?_
      refine AllReadyL.cons (o := oym5_22) rfl (fun K hK => ?_) AllReadyL.nil
      rw [if_pos (by rfl)]
      refine Lib.wp_append_run _ _ _ _ _ rfl _ _ rfl rfl _ _ hr ?_
      clear hr
      refine hK.out _ _ ?_ (fun hHeld => ?_)
      · (try dsimp only); (refine ⟨P1.out.cell 1, P5.out.cell 1, (PB.out.cell (p := ⟨b, o + k * 3, none⟩) hb).trans e0.out, (PB.out.cell (p := ⟨b, o + k * 3 + 1, none⟩) hb).trans e1.out, (PB.out.cell (p := ⟨b, o + k * 3 + 2, none⟩) hb).trans e2.out⟩)
      clear hK K
      try simp only [oym5_22, Act.put, List.setIfInBounds_toArray, List.set_cons_zero, List.set_cons_succ]
      refine wpAnyL_take (i := 23) (oi := oym5_23) (v := ?_) rfl (by kernel_rfl) (fun _ _ _ h => h) (Or.inl ⟨by rfl, ?_⟩) (by assumption) ?_
      rotate_left
      · ((intro w hSw; delta oym5_23; (try dsimp only at hSw); go_simp) <;> with_reducible rfl)
      try simp only [oym5_23, Act.put, List.setIfInBounds_toArray, List.set_cons_zero, List.set_cons_succ]
      have z1 := P5.out.cell 1; have z2 := P5.out.frozen 1; simp only [List.getElem?_toArray, List.getElem?_cons_zero, List.getElem?_cons_succ] at z1
      refine wpAnyL_ready (rs := [24]) (by kernel_rfl) (by simp) ?_
      refine AllReadyL.gate (o := oym5_24) rfl (by kernel_rfl) (fun K hK => ?_) AllReadyL.nil
      delta oym5_24
      go_simp
      refine hK.out _ _ ?_
      clear hK K
      try simp only [oym5_24, Act.put, List.setIfInBounds_toArray, List.set_cons_zero, List.set_cons_succ]
      refine wpAnyL_done (by kernel_rfl) ?_ _
      refine NoPanic.normal ?_
      have n5' : (Value.slice (some ⟨g', 0, none⟩) (k + 1) cap').ownBlock ≠ some b3 := own_blk_ne PO.out P5.out (by decide)
      go_wp2
      go_roundw
      case rel => exact ⟨k + 1, _, by omega, by go_num, P5.out.set_ 1 _, P4.out.far_ (p := ⟨b3, 1, none⟩) (by exact n45) _, P1.out.far_ (p := ⟨b3, 1, none⟩) (by exact n15) _, own_set (by rw [HN.out, prtCells_append]; exact PO.out) (p := ⟨b3, 1, none⟩) n5' _, PB.out.setCell (p := ⟨b3, 1, none⟩) g5 _⟩
      case measure => simp [intOf]; omega
    · obtain rfl : k = ps.length := by omega
      have ht : ps.take ps.length = ps := List.take_length
      have hu : ∃ A' n' c', u = .slice A' n' c' := by
        rcases HO.out.2 with ⟨rfl, _⟩ | ⟨g, cap, cur, rfl, _⟩
        · exact ⟨_, _, _, rfl⟩
        · exact ⟨_, _, _, rfl⟩
      obtain ⟨A', n', c', rfl⟩ := hu
      obtain ⟨t0, t1⟩ : wr.cell? ⟨b2, 0, none⟩ = some (.int .i64 0) ∧ wr.cell? ⟨b2, 1, none⟩ = some (.slice none 0 0) := ⟨H4.out.cell 0, H4.out.cell 1⟩
      have v0 := H4.out.frozen 0
      have v1 := H4.out.frozen 1
      have hn4 := own_blk_ne HO.out H4.out (by decide)
      rw [ht] at HO
      have hR := fun x y => span_res2 H4.out x y
      clear ht
      go_wp2
      refine bodyPost_ret (v := .agg #[.int .i64 mean, .slice A' n' c']) (by simp [results, Try.results15, go_sem, hR]) rfl ⟨_, rfl, ?_, ?_⟩
      · exact own_set (own_set HO.out (p := ⟨b2, 0, none⟩) hn4 _) (p := ⟨b2, 1, none⟩) hn4 _
      · exact (HB.out.setCell (p := ⟨b2, 0, none⟩) g4 _).setCell (p := ⟨b2, 1, none⟩) g4 _
end Go.Proofs.Ytfblpokjbopagaa
/-
  Layer 2: the laws' same returns true for models that say the same.
-/
namespace Go.Proofs.Ytfblpokjbopagaa
open Go.RowKit

/-- two new boxes with the same three cells -/
def TwoB3 (W0 : World) (t s : Nat) (cs : Array Value) (p q : Value) (W : World) : Prop := ∃ b c : Nat, p = .pointer (some ⟨b, 0, none⟩) ∧ q = .pointer (some ⟨c, 0, none⟩) ∧ Blk W b t cs ∧ Blk W c s cs ∧ Below W0.heap.size W0 W
theorem TwoB3.of {V0 W0 W : World} {t s : Nat} {cs : Array Value} {p q : Value} (h : TwoB3 W0 t s cs p q W) (hb : Below V0.heap.size V0 W0) : TwoB3 V0 t s cs p q W := by
  obtain ⟨b, c, rfl, rfl, k1, k2, h⟩ := h
  exact ⟨b, c, rfl, rfl, k1, k2, hb.trans (h.mono hb.size)⟩
theorem twoB3_set {W0 W : World} {t s b c : Nat} {x y z u0 u1 u2 v0 v1 v2 : Value} (hb : Blk W b t #[u0, u1, u2]) (hc : Blk W c s #[v0, v1, v2]) (hne : ¬ b = c) (gb : W0.heap.size ≤ b) (gc : W0.heap.size ≤ c) (h : Below W0.heap.size W0 W) :
    TwoB3 W0 t s #[x, y, z] (.pointer (some ⟨b, 0, none⟩)) (.pointer (some ⟨c, 0, none⟩)) ((((((W.setCell ⟨b, 0, none⟩ x).setCell ⟨b, 1, none⟩ y).setCell ⟨b, 2, none⟩ z).setCell ⟨c, 0, none⟩ x).setCell ⟨c, 1, none⟩ y).setCell ⟨c, 2, none⟩ z) := by
  have hne' : ¬ c = b := fun e => hne e.symm
  have k1 := (((((hb.set_ 0 x).set_ 1 y).set_ 2 z).far_ (p := ⟨c, 0, none⟩) hne x).far_ (p := ⟨c, 1, none⟩) hne y).far_ (p := ⟨c, 2, none⟩) hne z
  have k2 := (((((hc.far_ (p := ⟨b, 0, none⟩) hne' x).far_ (p := ⟨b, 1, none⟩) hne' y).far_ (p := ⟨b, 2, none⟩) hne' z).set_ 0 x).set_ 1 y).set_ 2 z
  exact ⟨b, c, rfl, rfl, k1, k2, (((((h.setCell (p := ⟨b, 0, none⟩) gb _).setCell (p := ⟨b, 1, none⟩) gb _).setCell (p := ⟨b, 2, none⟩) gb _).setCell (p := ⟨c, 0, none⟩) gc _).setCell (p := ⟨c, 1, none⟩) gc _).setCell (p := ⟨c, 2, none⟩) gc _⟩
def osa6_0 : Oper := { dst := some 29, op := Op.fieldAddr 35 (Operand.tmp 2) 1, type := 0, pos := "law.go:68", after := #[], guard := none }
def osa6_1 : Oper := { dst := some 30, op := Op.load 33 (Operand.tmp 29), type := 33, pos := "law.go:68", after := #[{ on := 0, ground := Ground.data }], guard := none }
def osa6_2 : Oper := { dst := some 31, op := Op.move (Operand.tmp 5), type := 3, pos := "law.go:68", after := #[], guard := none }
def osa6_3 : Oper := { dst := some 32, op := Op.indexAddr 33 (Operand.tmp 30) (Operand.tmp 31), type := 0, pos := "law.go:68", after := #[{ on := 1, ground := Ground.data }, { on := 2, ground := Ground.data }], guard := none }
def osa6_4 : Oper := { dst := some 33, op := Op.load 70 (Operand.tmp 32), type := 70, pos := "law.go:68", after := #[{ on := 3, ground := Ground.data }], guard := none }
def osa6_5 : Oper := { dst := some 34, op := Op.fieldAddr 31 (Operand.tmp 3) 1, type := 0, pos := "law.go:68", after := #[{ on := 12, ground := Ground.gcOnly Departure.lateStores }], guard := none }
def osa6_6 : Oper := { dst := some 35, op := Op.load 29 (Operand.tmp 34), type := 29, pos := "law.go:68", after := #[{ on := 5, ground := Ground.data }, { on := 12, ground := Ground.gcOnly Departure.lateStores }], guard := none }
def osa6_7 : Oper := { dst := some 36, op := Op.move (Operand.tmp 5), type := 3, pos := "law.go:68", after := #[{ on := 12, ground := Ground.gcOnly Departure.lateStores }], guard := none }
def osa6_8 : Oper := { dst := some 37, op := Op.indexAddr 29 (Operand.tmp 35) (Operand.tmp 36), type := 0, pos := "law.go:68", after := #[{ on := 6, ground := Ground.data }, { on := 7, ground := Ground.data }, { on := 12, ground := Ground.gcOnly Departure.lateStores }], guard := none }
def osa6_9 : Oper := { dst := some 38, op := Op.load 80 (Operand.tmp 37), type := 80, pos := "law.go:68", after := #[{ on := 8, ground := Ground.data }, { on := 12, ground := Ground.gcOnly Departure.lateStores }], guard := none }
def osa6_10 : Oper := { dst := some 6, op := Op.alloc 70, type := 0, pos := "law.go:68", after := #[], guard := none }
def osa6_11 : Oper := { dst := some 7, op := Op.alloc 80, type := 0, pos := "law.go:68", after := #[], guard := none }
def osa6_12 : Oper := { dst := none, op := Op.store 70 (Operand.tmp 6) (Operand.tmp 33), type := 0, pos := "law.go:68", after := #[{ on := 10, ground := Ground.data }, { on := 4, ground := Ground.data }, { on := 0, ground := Ground.phase }, { on := 1, ground := Ground.phase }, { on := 2, ground := Ground.phase }, { on := 3, ground := Ground.phase }, { on := 4, ground := Ground.phase }, { on := 5, ground := Ground.textOnly Departure.lateStores }, { on := 6, ground := Ground.textOnly Departure.lateStores }, { on := 7, ground := Ground.textOnly Departure.lateStores }, { on := 8, ground := Ground.textOnly Departure.lateStores }, { on := 9, ground := Ground.textOnly Departure.lateStores }, { on := 10, ground := Ground.phase }, { on := 11, ground := Ground.phase }], guard := none }
def osa6_13 : Oper := { dst := none, op := Op.store 80 (Operand.tmp 7) (Operand.tmp 38), type := 0, pos := "law.go:68", after := #[{ on := 11, ground := Ground.data }, { on := 9, ground := Ground.data }, { on := 12, ground := Ground.chain }, { on := 0, ground := Ground.phase }, { on := 1, ground := Ground.phase }, { on := 2, ground := Ground.phase }, { on := 3, ground := Ground.phase }, { on := 4, ground := Ground.phase }, { on := 5, ground := Ground.phase }, { on := 6, ground := Ground.phase }, { on := 7, ground := Ground.phase }, { on := 8, ground := Ground.phase }, { on := 9, ground := Ground.phase }, { on := 10, ground := Ground.phase }, { on := 11, ground := Ground.phase }, { on := 12, ground := Ground.phase }], guard := none }

set_option maxRecDepth 100000 in
set_option maxHeartbeats 4000000 in
theorem same_yes (xa xb : Value) (m : Md) (w : World) (hxa : MdAt w w.heap.size xa m) (hxb : MdAt w w.heap.size xb m) :
    Calls Try.prog 23 #[xa, xb] w fun e w' => e = .returned (.bool true) ∧ Below w.heap.size w w' := by
  obtain ⟨va, rfl, ha⟩ := hxa
  obtain ⟨vb, rfl, hb⟩ := hxb
  obtain ⟨mean, ps⟩ := m
  simp only at ha hb ⊢
  obtain ⟨A, c, rfl, hc, hlen⟩ := ha.open_
  obtain ⟨B, d, rfl, hd, -⟩ := hb.open_
  have HA := Lib.hid ha
  have HB := Lib.hid hb
  clear ha hb
  go_enter Try.func23, Try.ntmps23
  go_upto_region 1 with (fail)
  obtain ⟨V0, hV⟩ : ∃ V, (w.alloc (.cells #[.int .i64 mean, .slice A ps.length c] 35)).alloc (.cells #[.int .i64 mean, .slice B ps.length d] 31) = V := ⟨_, rfl⟩
  have K2 : Hid (Blk V0 w.heap.size 35 #[.int .i64 mean, .slice A ps.length c]) := by rw [← hV]; exact (Blk.new' _ _ _ rfl).alloc _
  have K3 : Hid (Blk V0 (w.heap.size + 1) 31 #[.int .i64 mean, .slice B ps.length d]) := by rw [← hV]; exact Blk.new' _ _ _ (by simp)
  have KB : Hid (Below w.heap.size w V0) := by rw [← hV]; exact (by repeat (first | exact Below.refl _ _ | assumption | refine Below.drew ?_ | refine Below.drewN' ?_ _ | (refine Below.alloc ?_ (by simp <;> omega) _) | (refine Below.setCell ?_ (by simp <;> omega) _)))
  rw [hV]
  clear hV
  obtain ⟨b2, h2⟩ : ∃ b, w.heap.size = b := ⟨_, rfl⟩
  obtain ⟨b3, h3⟩ : ∃ b, w.heap.size + 1 = b := ⟨_, rfl⟩
  rw [h3] at K3
  rw [h2] at K2
  rw [h3]
  try rw [h2]
  clear h2 h3
  have x0 := K2.out.cell 0
  have x1 := K2.out.cell 1
  have y0 := K3.out.cell 0
  have y1 := K3.out.cell 1
  simp only [List.getElem?_toArray, List.getElem?_cons_zero, List.getElem?_cons_succ] at x0 x1 y0 y1
  go_wp2_with fail
  go_loopw [5] (fun j wr => ∃ k : Nat, k ≤ ps.length ∧ j = .int .i64 k ∧ Hid (Blk wr b2 35 #[.int .i64 mean, .slice A ps.length c]) ∧ Hid (Blk wr b3 31 #[.int .i64 mean, .slice B ps.length d]) ∧ Hid (Below w.heap.size w wr)) (fun j _ => ps.length - (intOf j).toNat)
  case atStart => exact ⟨0, by omega, rfl, K2.out, K3.out, KB.out⟩
  case round =>
    clear K2 K3 KB x0 x1 y0 y1
    obtain ⟨k, hk, rfl, H2, H3, HBW⟩ := hrel
    have x0 := H2.out.cell 0
    have x1 := H2.out.cell 1
    have y0 := H3.out.cell 0
    have y1 := H3.out.cell 1
    simp only [List.getElem?_toArray, List.getElem?_cons_zero, List.getElem?_cons_succ] at x0 x1 y0 y1
    by_cases hlt : k < ps.length
    · have hk0 : (0 : Int) ≤ (k : Int) := by omega
      have hk1 : (k : Int) < (ps.length : Int) := by omega
      obtain ⟨pa, oa, rfl, hba, f0, f1, f2⟩ := HA.out.at_ hlt
      obtain ⟨pb, ob, rfl, hbb, q0, q1, q2⟩ := HB.out.at_ hlt
      generalize ps[k] = p at *
      obtain ⟨p0, p1, p2⟩ := p
      simp only at f0 f1 f2 q0 q1 q2
      have e0 := Lib.hid (And.intro f0 (And.intro f1 f2))
      have e1 := Lib.hid (And.intro q0 (And.intro q1 q2))
      clear f0 f1 f2 q0 q1 q2
      have HSV : Hid (∀ U, Below wr.heap.size wr U → U.cell? ⟨b2, 1, none⟩ = some (.slice (some ⟨pa, oa, none⟩) ps.length c) ∧ U.cell? ⟨b3, 1, none⟩ = some (.slice (some ⟨pb, ob, none⟩) ps.length d) ∧ U.cell? ⟨pa, oa + k * 3, none⟩ = some (.int .i64 p0) ∧ U.cell? ⟨pa, oa + k * 3 + 1, none⟩ = some (.int .i64 p1) ∧ U.cell? ⟨pa, oa + k * 3 + 2, none⟩ = some (.int .i64 p2) ∧ U.cell? ⟨pb, ob + k * 3, none⟩ = some (.int .i64 p0) ∧ U.cell? ⟨pb, ob + k * 3 + 1, none⟩ = some (.int .i64 p1) ∧ U.cell? ⟨pb, ob + k * 3 + 2, none⟩ = some (.int .i64 p2)) := fun U hU => by
        have q2 := H2.out.below hU H2.out.lt
        have q3 := H3.out.below hU H3.out.lt
        have hbw := HBW.out.trans (hU.mono HBW.out.size)
        exact ⟨q2.cell 1, q3.cell 1, (hbw.cell (p := ⟨pa, oa + k * 3, none⟩) hba).trans e0.out.1, (hbw.cell (p := ⟨pa, oa + k * 3 + 1, none⟩) hba).trans e0.out.2.1, (hbw.cell (p := ⟨pa, oa + k * 3 + 2, none⟩) hba).trans e0.out.2.2, (hbw.cell (p := ⟨pb, ob + k * 3, none⟩) hbb).trans e1.out.1, (hbw.cell (p := ⟨pb, ob + k * 3 + 1, none⟩) hbb).trans e1.out.2.1, (hbw.cell (p := ⟨pb, ob + k * 3 + 2, none⟩) hbb).trans e1.out.2.2⟩
      have k0 := HSV.out _ (Below.drew (Below.refl wr.heap.size wr))
      go_upto_region 6 with (fail)
      clear x0 x1 y0 y1
      go_cut [6, 7] from 29 to 39 (fun p q wx => TwoB3 wr 70 80 #[.int .i64 p0, .int .i64 p1, .int .i64 p2] p q wx)
      case first =>
        refine wp_region_noPanic ?_
        refine wp_region_held_drew (S := (fun w' => w'.cell? ⟨b2, 1, none⟩ = some (.slice (some ⟨pa, oa, none⟩) ps.length c) ∧ w'.cell? ⟨b3, 1, none⟩ = some (.slice (some ⟨pb, ob, none⟩) ps.length d) ∧ w'.cell? ⟨pa, oa + k * 3, none⟩ = some (.int .i64 p0) ∧ w'.cell? ⟨pa, oa + k * 3 + 1, none⟩ = some (.int .i64 p1) ∧ w'.cell? ⟨pa, oa + k * 3 + 2, none⟩ = some (.int .i64 p2) ∧ w'.cell? ⟨pb, ob + k * 3, none⟩ = some (.int .i64 p0) ∧ w'.cell? ⟨pb, ob + k * 3 + 1, none⟩ = some (.int .i64 p1) ∧ w'.cell? ⟨pb, ob + k * 3 + 2, none⟩ = some (.int .i64 p2))) (by kernel_rfl) ?_ (fun hHeld => ?_)
        · (try dsimp only); (exact k0)
        refine wpAnyH_take (i := 0) (oi := osa6_0) (v := ?_) rfl (by kernel_rfl) (by kernel_rfl) (by kernel_rfl) (fun _ _ _ h => h) (Or.inl ⟨by rfl, ?_⟩) (by assumption) ?_
        rotate_left
        · ((intro w hSw; delta osa6_0; (try dsimp only at hSw); go_simp) <;> with_reducible rfl)
        try simp only [osa6_0, Act.put, List.setIfInBounds_toArray, List.set_cons_zero, List.set_cons_succ]
        refine wpAnyH_take (i := 1) (oi := osa6_1) (v := ?_) rfl (by kernel_rfl) (by kernel_rfl) (by kernel_rfl) (fun _ _ _ h => h) (Or.inl ⟨by rfl, ?_⟩) (by assumption) ?_
        rotate_left
        · ((intro w hSw; delta osa6_1; (try dsimp only at hSw); go_simp) <;> with_reducible rfl)
        try simp only [osa6_1, Act.put, List.setIfInBounds_toArray, List.set_cons_zero, List.set_cons_succ]
        refine wpAnyH_take (i := 2) (oi := osa6_2) (v := ?_) rfl (by kernel_rfl) (by kernel_rfl) (by kernel_rfl) (fun _ _ _ h => h) (Or.inl ⟨by rfl, ?_⟩) (by assumption) ?_
        rotate_left
        · ((intro w hSw; delta osa6_2; (try dsimp only at hSw); go_simp) <;> with_reducible rfl)
        try simp only [osa6_2, Act.put, List.setIfInBounds_toArray, List.set_cons_zero, List.set_cons_succ]
        refine wpAnyH_take (i := 3) (oi := osa6_3) (v := ?_) rfl (by kernel_rfl) (by kernel_rfl) (by kernel_rfl) (fun _ _ _ h => h) (Or.inl ⟨by rfl, ?_⟩) (by assumption) ?_
        rotate_left
        · ((intro w hSw; delta osa6_3; (try dsimp only at hSw); go_simp) <;> with_reducible rfl)
        try simp only [osa6_3, Act.put, List.setIfInBounds_toArray, List.set_cons_zero, List.set_cons_succ]
        refine wpAnyH_take (i := 4) (oi := osa6_4) (v := ?_) rfl (by kernel_rfl) (by kernel_rfl) (by kernel_rfl) (fun _ _ _ h => h) (Or.inl ⟨by rfl, ?_⟩) (by assumption) ?_
        rotate_left
        · ((intro w hSw; delta osa6_4; (try dsimp only at hSw); go_simp) <;> with_reducible rfl)
        try simp only [osa6_4, Act.put, List.setIfInBounds_toArray, List.set_cons_zero, List.set_cons_succ]
        refine wpAnyH_take (i := 5) (oi := osa6_5) (v := ?_) rfl (by kernel_rfl) (by kernel_rfl) (by kernel_rfl) (fun _ _ _ h => h) (Or.inl ⟨by rfl, ?_⟩) (by assumption) ?_
        rotate_left
        · ((intro w hSw; delta osa6_5; (try dsimp only at hSw); go_simp) <;> with_reducible rfl)
        try simp only [osa6_5, Act.put, List.setIfInBounds_toArray, List.set_cons_zero, List.set_cons_succ]
        refine wpAnyH_take (i := 6) (oi := osa6_6) (v := ?_) rfl (by kernel_rfl) (by kernel_rfl) (by kernel_rfl) (fun _ _ _ h => h) (Or.inl ⟨by rfl, ?_⟩) (by assumption) ?_
        rotate_left
        · ((intro w hSw; delta osa6_6; (try dsimp only at hSw); go_simp) <;> with_reducible rfl)
        try simp only [osa6_6, Act.put, List.setIfInBounds_toArray, List.set_cons_zero, List.set_cons_succ]
        refine wpAnyH_take (i := 7) (oi := osa6_7) (v := ?_) rfl (by kernel_rfl) (by kernel_rfl) (by kernel_rfl) (fun _ _ _ h => h) (Or.inl ⟨by rfl, ?_⟩) (by assumption) ?_
        rotate_left
        · ((intro w hSw; delta osa6_7; (try dsimp only at hSw); go_simp) <;> with_reducible rfl)
        try simp only [osa6_7, Act.put, List.setIfInBounds_toArray, List.set_cons_zero, List.set_cons_succ]
        refine wpAnyH_take (i := 8) (oi := osa6_8) (v := ?_) rfl (by kernel_rfl) (by kernel_rfl) (by kernel_rfl) (fun _ _ _ h => h) (Or.inl ⟨by rfl, ?_⟩) (by assumption) ?_
        rotate_left
        · ((intro w hSw; delta osa6_8; (try dsimp only at hSw); go_simp) <;> with_reducible rfl)
        try simp only [osa6_8, Act.put, List.setIfInBounds_toArray, List.set_cons_zero, List.set_cons_succ]
        refine wpAnyH_take (i := 9) (oi := osa6_9) (v := ?_) rfl (by kernel_rfl) (by kernel_rfl) (by kernel_rfl) (fun _ _ _ h => h) (Or.inl ⟨by rfl, ?_⟩) (by assumption) ?_
        rotate_left
        · ((intro w hSw; delta osa6_9; (try dsimp only at hSw); go_simp) <;> with_reducible rfl)
        try simp only [osa6_9, Act.put, List.setIfInBounds_toArray, List.set_cons_zero, List.set_cons_succ]
        obtain ⟨W0, hW0⟩ : ∃ V, wr.drew = V := ⟨_, rfl⟩; rw [hW0] at hHeld ⊢; have HBV : Hid (Below wr.heap.size wr W0) := (by rw [← hW0]; exact Below.drew (Below.refl _ _)); have HB0 := Lib.hid (Below.refl W0.heap.size W0); clear hW0
        refine wpAnyH_ready (rs := [10, 11]) (by kernel_rfl) (by simp) ?_
        refine AllReadyH.cons (o := osa6_10) rfl (fun K hK => ?gs1) ?gr1
        case' gs1 =>
         delta osa6_10
         go_simp
         obtain ⟨W1, hV⟩ : ∃ V, W0.alloc (.cells #[.int .i64 0, .int .i64 0, .int .i64 0] 70) = V := ⟨_, rfl⟩; have hbz : Below W0.heap.size W0 W1 := (by rw [← hV]; exact (Below.refl _ _).alloc (Nat.le_refl _) _); have HB1 := Lib.hid (HB0.out.trans (hbz.mono HB0.out.size)); have Hn6_1 : Hid (Blk W1 W0.heap.size 70 #[.int .i64 0, .int .i64 0, .int .i64 0]) := (by rw [← hV]; exact Blk.new' _ _ _ rfl); obtain ⟨n6, hz⟩ : ∃ b, W0.heap.size = b := ⟨_, rfl⟩; rw [hz] at Hn6_1; have gn6 : W0.heap.size ≤ n6 := (by rw [← hz]; exact HB0.out.size); rw [hV, hz]; clear hV hbz hz
         refine hK.out _ _ ?_ (fun hHeld => ?_)
         · (try dsimp only); (exact HSV.out _ (HBV.out.trans (HB1.out.mono HBV.out.size)))
         clear hK K
         try simp only [osa6_10, Act.put, List.setIfInBounds_toArray, List.set_cons_zero, List.set_cons_succ]
         refine wpAnyH_ready (rs := [11]) (by kernel_rfl) (by simp) ?_
         refine AllReadyH.cons (o := osa6_11) rfl (fun K hK => ?_) AllReadyH.nil
         delta osa6_11
         go_simp
         obtain ⟨W2, hV⟩ : ∃ V, W1.alloc (.cells #[.int .i64 0, .int .i64 0, .int .i64 0] 80) = V := ⟨_, rfl⟩; have hbz : Below W1.heap.size W1 W2 := (by rw [← hV]; exact (Below.refl _ _).alloc (Nat.le_refl _) _); have HB2 := Lib.hid (HB1.out.trans (hbz.mono HB1.out.size)); have Hn7_2 : Hid (Blk W2 W1.heap.size 80 #[.int .i64 0, .int .i64 0, .int .i64 0]) := (by rw [← hV]; exact Blk.new' _ _ _ rfl); obtain ⟨n7, hz⟩ : ∃ b, W1.heap.size = b := ⟨_, rfl⟩; rw [hz] at Hn7_2; have gn7 : W0.heap.size ≤ n7 := (by rw [← hz]; exact HB1.out.size); have Hn6_2 := Lib.hid (Hn6_1.out.below hbz Hn6_1.out.lt); have nn7n6 : ¬ n7 = n6 := (fun e => by have := Hn6_1.out.lt; omega); have nn6n7 : ¬ n6 = n7 := (fun e => nn7n6 e.symm); rw [hV, hz]; clear hV hbz hz
         refine hK.out _ _ ?_ (fun hHeld => ?_)
         · (try dsimp only); (exact HSV.out _ (HBV.out.trans (HB2.out.mono HBV.out.size)))
         clear hK K
         try simp only [osa6_11, Act.put, List.setIfInBounds_toArray, List.set_cons_zero, List.set_cons_succ]
        case' gr1 =>
         refine AllReadyH.cons (o := osa6_11) rfl (fun K hK => ?gs2) ?gr2
         case' gs2 =>
          delta osa6_11
          go_simp
          obtain ⟨W1, hV⟩ : ∃ V, W0.alloc (.cells #[.int .i64 0, .int .i64 0, .int .i64 0] 80) = V := ⟨_, rfl⟩; have hbz : Below W0.heap.size W0 W1 := (by rw [← hV]; exact (Below.refl _ _).alloc (Nat.le_refl _) _); have HB1 := Lib.hid (HB0.out.trans (hbz.mono HB0.out.size)); have Hn7_1 : Hid (Blk W1 W0.heap.size 80 #[.int .i64 0, .int .i64 0, .int .i64 0]) := (by rw [← hV]; exact Blk.new' _ _ _ rfl); obtain ⟨n7, hz⟩ : ∃ b, W0.heap.size = b := ⟨_, rfl⟩; rw [hz] at Hn7_1; have gn7 : W0.heap.size ≤ n7 := (by rw [← hz]; exact HB0.out.size); rw [hV, hz]; clear hV hbz hz
          refine hK.out _ _ ?_ (fun hHeld => ?_)
          · (try dsimp only); (exact HSV.out _ (HBV.out.trans (HB1.out.mono HBV.out.size)))
          clear hK K
          try simp only [osa6_11, Act.put, List.setIfInBounds_toArray, List.set_cons_zero, List.set_cons_succ]
          refine wpAnyH_ready (rs := [10]) (by kernel_rfl) (by simp) ?_
          refine AllReadyH.cons (o := osa6_10) rfl (fun K hK => ?_) AllReadyH.nil
          delta osa6_10
          go_simp
          obtain ⟨W2, hV⟩ : ∃ V, W1.alloc (.cells #[.int .i64 0, .int .i64 0, .int .i64 0] 70) = V := ⟨_, rfl⟩; have hbz : Below W1.heap.size W1 W2 := (by rw [← hV]; exact (Below.refl _ _).alloc (Nat.le_refl _) _); have HB2 := Lib.hid (HB1.out.trans (hbz.mono HB1.out.size)); have Hn6_2 : Hid (Blk W2 W1.heap.size 70 #[.int .i64 0, .int .i64 0, .int .i64 0]) := (by rw [← hV]; exact Blk.new' _ _ _ rfl); obtain ⟨n6, hz⟩ : ∃ b, W1.heap.size = b := ⟨_, rfl⟩; rw [hz] at Hn6_2; have gn6 : W0.heap.size ≤ n6 := (by rw [← hz]; exact HB1.out.size); have Hn7_2 := Lib.hid (Hn7_1.out.below hbz Hn7_1.out.lt); have nn6n7 : ¬ n6 = n7 := (fun e => by have := Hn7_1.out.lt; omega); have nn7n6 : ¬ n7 = n6 := (fun e => nn6n7 e.symm); rw [hV, hz]; clear hV hbz hz
          refine hK.out _ _ ?_ (fun hHeld => ?_)
          · (try dsimp only); (exact HSV.out _ (HBV.out.trans (HB2.out.mono HBV.out.size)))
          clear hK K
          try simp only [osa6_10, Act.put, List.setIfInBounds_toArray, List.set_cons_zero, List.set_cons_succ]
         case' gr2 =>
          exact AllReadyH.nil
        all_goals
         as_aux_lemma =>
          have y00 := Hn6_2.out.cell 0; have z00 := Hn6_2.out.frozen 0; have y01 := Hn6_2.out.cell 1; have z01 := Hn6_2.out.frozen 1; have y02 := Hn6_2.out.cell 2; have z02 := Hn6_2.out.frozen 2; have y10 := Hn7_2.out.cell 0; have z10 := Hn7_2.out.frozen 0; have y11 := Hn7_2.out.cell 1; have z11 := Hn7_2.out.frozen 1; have y12 := Hn7_2.out.cell 2; have z12 := Hn7_2.out.frozen 2; simp only [List.getElem?_toArray, List.getElem?_cons_zero, List.getElem?_cons_succ] at y00 y01 y02 y10 y11 y12
          refine wpAnyH_ready (rs := [12]) (by kernel_rfl) (by simp) ?_
          refine AllReadyH.cons (o := osa6_12) rfl (fun K hK => ?_) AllReadyH.nil
          delta osa6_12
          go_simp
          refine hK.out _ _ ?_ (fun hHeld => ?_)
          · (try dsimp only); (refine HSV.out _ (HBV.out.trans (Below.mono ?_ HBV.out.size)); (repeat (first | exact HB2.out | refine Below.setCell ?_ (by first | exact gn6 | exact gn7) _)); done)
          clear hK K
          try simp only [osa6_12, Act.put, List.setIfInBounds_toArray, List.set_cons_zero, List.set_cons_succ]
          refine wpAnyH_ready (rs := [13]) (by kernel_rfl) (by simp) ?_
          refine AllReadyH.cons (o := osa6_13) rfl (fun K hK => ?_) AllReadyH.nil
          delta osa6_13
          go_simp
          refine hK.out _ _ ?_ (fun hHeld => ?_)
          · (try dsimp only); (refine HSV.out _ (HBV.out.trans (Below.mono ?_ HBV.out.size)); (repeat (first | exact HB2.out | refine Below.setCell ?_ (by first | exact gn6 | exact gn7) _)); done)
          clear hK K
          try simp only [osa6_13, Act.put, List.setIfInBounds_toArray, List.set_cons_zero, List.set_cons_succ]
          refine wpAnyH_done (by kernel_rfl) ?_ _
          refine NoPanic.normal ?_
          go_wp2_with fail
          go_meet
          exact (twoB3_set Hn6_2.out Hn7_2.out nn6n7 gn6 gn7 HB2.out).of HBV.out
      case rest =>
        obtain ⟨n6, n7, rfl, rfl, k6, k7, hb9⟩ := hcut
        obtain ⟨Vc, rfl⟩ : ∃ V, V = wc := ⟨_, rfl⟩
        have P2 := Lib.hid (H2.out.below hb9 H2.out.lt)
        have P3 := Lib.hid (H3.out.below hb9 H3.out.lt)
        have PB := Lib.hid (HBW.out.trans (hb9.mono HBW.out.size))
        have c60 := k6.cell 0
        have c61 := k6.cell 1
        have c62 := k6.cell 2
        have c70 := k7.cell 0
        have c71 := k7.cell 1
        have c72 := k7.cell 2
        simp only [List.getElem?_toArray, List.getElem?_cons_zero, List.getElem?_cons_succ] at c60 c61 c62 c70 c71 c72
        clear k6 k7 hb9 HSV k0
        go_wp2
        go_roundw
        case rel => exact ⟨k + 1, by omega, by go_num, P2, P3, PB⟩
        case measure => simp [intOf]; omega
    · obtain rfl : k = ps.length := by omega
      have HBE := HBW.out
      go_wp2
      go_ret
      exact ⟨rfl, HBE⟩
end Go.Proofs.Ytfblpokjbopagaa
