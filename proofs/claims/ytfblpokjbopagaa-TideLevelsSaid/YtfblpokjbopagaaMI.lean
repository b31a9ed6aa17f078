/-
  Layer 2: the laws' product and square of spans.
-/
import Derived.Test.YtfblpokjbopagaaMG
import Derived.Test.YtfblpokjbopagaaMH
set_option linter.unusedSimpArgs false
set_option linter.unusedVariables false
namespace Go.Proofs.Ytfblpokjbopagaa
open Go.RowKit

def OneBox (W0 : World) (t : Nat) (x : Int × Int) (p : Value) (W : World) : Prop := ∃ b : Nat, p = .pointer (some ⟨b, 0, none⟩) ∧ Blk W b t #[.int .i64 x.1, .int .i64 x.2] ∧ W0.heap.size ≤ b ∧ Below W0.heap.size W0 W
theorem oneBox_set {W0 W : World} {t b : Nat} {x y : Int} {u0 u1 : Value} (hb : Blk W b t #[u0, u1]) (gb : W0.heap.size ≤ b) (h : Below W0.heap.size W0 W) :
    OneBox W0 t (x, y) (.pointer (some ⟨b, 0, none⟩)) ((W.setCell ⟨b, 0, none⟩ (.int .i64 x)).setCell ⟨b, 1, none⟩ (.int .i64 y)) :=
  ⟨b, rfl, (hb.set_ 0 (.int .i64 x)).set_ 1 (.int .i64 y), gb, (h.setCell gb _).setCell gb _⟩
theorem OneBox.of {V0 W0 W : World} {t : Nat} {x : Int × Int} {p : Value} (h : OneBox W0 t x p W) (hb : Below V0.heap.size V0 W0) : OneBox V0 t x p W := by
  obtain ⟨b, rfl, k1, gb, h⟩ := h
  exact ⟨b, rfl, k1, Nat.le_trans hb.size gb, hb.trans (h.mono hb.size)⟩
/-- the loop over the four products -/
def p4 (p0 p1 p2 p3 : Int) (k : Nat) : Int := if k = 0 then p0 else if k = 1 then p1 else if k = 2 then p2 else p3
def mn4 (f : Nat → Int) : Nat → Int
  | 0 => f 0
  | k + 1 => min (mn4 f k) (f k)
def mx4 (f : Nat → Int) : Nat → Int
  | 0 => f 0
  | k + 1 => max (mx4 f k) (f k)
def opr2_0 : Oper := { dst := some 30, op := Op.move (Operand.tmp 5), type := 91, pos := "outright.go:14", after := #[], guard := none }
def opr2_1 : Oper := { dst := some 31, op := Op.indexAddr 91 (Operand.tmp 30) (Operand.const (Value.int IntKind.i64 0)), type := 0, pos := "outright.go:14", after := #[{ on := 0, ground := Ground.data }], guard := none }
def opr2_2 : Oper := { dst := some 32, op := Op.load 3 (Operand.tmp 31), type := 3, pos := "outright.go:14", after := #[{ on := 1, ground := Ground.data }], guard := none }
def opr2_3 : Oper := { dst := some 33, op := Op.move (Operand.tmp 5), type := 91, pos := "outright.go:14", after := #[], guard := none }
def opr2_4 : Oper := { dst := some 34, op := Op.indexAddr 91 (Operand.tmp 33) (Operand.const (Value.int IntKind.i64 0)), type := 0, pos := "outright.go:14", after := #[{ on := 3, ground := Ground.data }], guard := none }
def opr2_5 : Oper := { dst := some 35, op := Op.load 3 (Operand.tmp 34), type := 3, pos := "outright.go:14", after := #[{ on := 4, ground := Ground.data }], guard := none }
def opr2_6 : Oper := { dst := some 36, op := Op.call { callee := Callee.value (Operand.func 30), args := #[Operand.tmp 32, Operand.tmp 35], argTypes := #[3, 3] }, type := 23, pos := "outright.go:14", after := #[{ on := 2, ground := Ground.data }, { on := 5, ground := Ground.data }], guard := none }
def opr2_7 : Oper := { dst := some 6, op := Op.alloc 23, type := 0, pos := "outright.go:14", after := #[], guard := none }
def opr2_8 : Oper := { dst := none, op := Op.store 23 (Operand.tmp 6) (Operand.tmp 36), type := 0, pos := "outright.go:14", after := #[{ on := 7, ground := Ground.data }, { on := 6, ground := Ground.data }, { on := 6, ground := Ground.chain }, { on := 0, ground := Ground.phase }, { on := 1, ground := Ground.phase }, { on := 2, ground := Ground.phase }, { on := 3, ground := Ground.phase }, { on := 4, ground := Ground.phase }, { on := 5, ground := Ground.phase }, { on := 6, ground := Ground.phase }, { on := 7, ground := Ground.phase }], guard := none }

set_option maxRecDepth 100000 in
set_option maxHeartbeats 4000000 in
theorem lproduct_any (a b c d : Int) (w : World) (ha : -2147483648 ≤ a ∧ a ≤ 2147483648) (hb : -2147483648 ≤ b ∧ b ≤ 2147483648) (hc : -2147483648 ≤ c ∧ c ≤ 2147483648) (hd : -2147483648 ≤ d ∧ d ≤ 2147483648) :
    Calls Try.prog 32 #[.agg #[.int .i64 a, .int .i64 b], .agg #[.int .i64 c, .int .i64 d]] w fun e w' => e = .returned (.agg #[.int .i64 (prodZ (a, b) (c, d)).1, .int .i64 (prodZ (a, b) (c, d)).2]) ∧ Below w.heap.size w w' := by
  have x0 := mul_abs ha.1 ha.2 hc.1 hc.2
  have x1 := mul_abs ha.1 ha.2 hd.1 hd.2
  have x2 := mul_abs hb.1 hb.2 hc.1 hc.2
  have x3 := mul_abs hb.1 hb.2 hd.1 hd.2
  have y0 : wrap64 (a * c) = a * c := w64 (by omega)
  have y1 : wrap64 (a * d) = a * d := w64 (by omega)
  have y2 : wrap64 (b * c) = b * c := w64 (by omega)
  have y3 : wrap64 (b * d) = b * d := w64 (by omega)
  have HP : Hid (prodZ (a, b) (c, d) = (mn4 (p4 (a * c) (a * d) (b * c) (b * d)) 4, mx4 (p4 (a * c) (a * d) (b * c) (b * d)) 4)) := by
    rw [Hid]
    unfold prodZ
    refine Prod.ext ?_ ?_
    · simp only [mn4, p4]
      simp
    · simp only [mx4, p4]
      simp
  rw [HP.out]
  clear HP x0 x1 x2 x3
  obtain ⟨p0, h0⟩ : ∃ p, a * c = p := ⟨_, rfl⟩
  obtain ⟨p1, h1⟩ : ∃ p, a * d = p := ⟨_, rfl⟩
  obtain ⟨p2, h2⟩ : ∃ p, b * c = p := ⟨_, rfl⟩
  obtain ⟨p3, h3⟩ : ∃ p, b * d = p := ⟨_, rfl⟩
  have HF : Hid (p4 (a * c) (a * d) (b * c) (b * d) = p4 p0 p1 p2 p3) := by rw [Hid, h0, h1, h2, h3]
  rw [HF.out]
  clear HF
  rw [h0] at y0
  rw [h1] at y1
  rw [h2] at y2
  rw [h3] at y3
  go_enter Try.func32, Try.ntmps32
  go_upto_region 2 with (fail)
  obtain ⟨V0, hV0⟩ : ∃ V, (((w.alloc (.cells #[.int .i64 a, .int .i64 b] 23)).alloc (.cells #[.int .i64 c, .int .i64 d] 23)).alloc (.cells #[.int .i64 0, .int .i64 0] 23)).alloc (.cells #[.int .i64 p0, .int .i64 p1, .int .i64 p2, .int .i64 p3] 3) = V := ⟨_, rfl⟩
  have K4 : Hid (Blk V0 (w.heap.size + 1 + 1) 23 #[.int .i64 0, .int .i64 0]) := by rw [← hV0]; exact (Blk.new' _ _ _ (by simp)).alloc _
  have K5 : Hid (Blk V0 (w.heap.size + 1 + 1 + 1) 3 #[.int .i64 p0, .int .i64 p1, .int .i64 p2, .int .i64 p3]) := by rw [← hV0]; exact Blk.new' _ _ _ (by simp)
  have KB : Hid (Below w.heap.size w V0) := by rw [← hV0]; exact (by repeat (first | exact Below.refl _ _ | assumption | refine Below.drew ?_ | refine Below.drewN' ?_ _ | (refine Below.alloc ?_ (by simp <;> omega) _) | (refine Below.setCell ?_ (by simp <;> omega) _)))
  rw [hV0]
  clear hV0 y0 y1 y2 y3 h0 h1 h2 h3
  obtain ⟨b5, hb5⟩ : ∃ b, w.heap.size + 1 + 1 + 1 = b := ⟨_, rfl⟩
  have g5 : w.heap.size ≤ b5 := by omega
  have n45 : ¬ w.heap.size + 1 + 1 = b5 := by omega
  rw [hb5] at K5 ⊢
  obtain ⟨b4, hb4⟩ : ∃ b, w.heap.size + 1 + 1 = b := ⟨_, rfl⟩
  have g4 : w.heap.size ≤ b4 := by omega
  rw [hb4] at K4 n45 ⊢
  clear hb4 hb5
  go_cut [6] from 30 to 37 (fun p wx => OneBox V0 23 (p0, p0) p wx)
  case first =>
    have k0 : V0.drew.cell? ⟨b5, 0, none⟩ = some (.int .i64 p0) := K5.out.cell 0
    refine wp_region_noPanic ?_
    refine wp_region_held_drew (S := (fun w' => w'.cell? ⟨b5, 0, none⟩ = some (.int .i64 p0))) (by kernel_rfl) ?_ (fun hHeld => ?_)
    · (try dsimp only); (exact k0)
    refine wpAnyH_take (i := 0) (oi := opr2_0) (v := ?_) rfl (by kernel_rfl) (by kernel_rfl) (by kernel_rfl) (fun _ _ _ h => h) (Or.inl ⟨by rfl, ?_⟩) (by assumption) ?_
    rotate_left
    · ((intro w hSw; delta opr2_0; (try dsimp only at hSw); go_simp) <;> with_reducible rfl)
    try simp only [opr2_0, Act.put, List.setIfInBounds_toArray, List.set_cons_zero, List.set_cons_succ]
    refine wpAnyH_take (i := 1) (oi := opr2_1) (v := ?_) rfl (by kernel_rfl) (by kernel_rfl) (by kernel_rfl) (fun _ _ _ h => h) (Or.inl ⟨by rfl, ?_⟩) (by assumption) ?_
    rotate_left
    · ((intro w hSw; delta opr2_1; (try dsimp only at hSw); go_simp) <;> with_reducible rfl)
    try simp only [opr2_1, Act.put, List.setIfInBounds_toArray, List.set_cons_zero, List.set_cons_succ]
    refine wpAnyH_take (i := 2) (oi := opr2_2) (v := ?_) rfl (by kernel_rfl) (by kernel_rfl) (by kernel_rfl) (fun _ _ _ h => h) (Or.inl ⟨by rfl, ?_⟩) (by assumption) ?_
    rotate_left
    · ((intro w hSw; delta opr2_2; (try dsimp only at hSw); go_simp) <;> with_reducible rfl)
    try simp only [opr2_2, Act.put, List.setIfInBounds_toArray, List.set_cons_zero, List.set_cons_succ]
    refine wpAnyH_take (i := 3) (oi := opr2_3) (v := ?_) rfl (by kernel_rfl) (by kernel_rfl) (by kernel_rfl) (fun _ _ _ h => h) (Or.inl ⟨by rfl, ?_⟩) (by assumption) ?_
    rotate_left
    · ((intro w hSw; delta opr2_3; (try dsimp only at hSw); go_simp) <;> with_reducible rfl)
    try simp only [opr2_3, Act.put, List.setIfInBounds_toArray, List.set_cons_zero, List.set_cons_succ]
    refine wpAnyH_take (i := 4) (oi := opr2_4) (v := ?_) rfl (by kernel_rfl) (by kernel_rfl) (by kernel_rfl) (fun _ _ _ h => h) (Or.inl ⟨by rfl, ?_⟩) (by assumption) ?_
    rotate_left
    · ((intro w hSw; delta opr2_4; (try dsimp only at hSw); go_simp) <;> with_reducible rfl)
    try simp only [opr2_4, Act.put, List.setIfInBounds_toArray, List.set_cons_zero, List.set_cons_succ]
    refine wpAnyH_take (i := 5) (oi := opr2_5) (v := ?_) rfl (by kernel_rfl) (by kernel_rfl) (by kernel_rfl) (fun _ _ _ h => h) (Or.inl ⟨by rfl, ?_⟩) (by assumption) ?_
    rotate_left
    · ((intro w hSw; delta opr2_5; (try dsimp only at hSw); go_simp) <;> with_reducible rfl)
    try simp only [opr2_5, Act.put, List.setIfInBounds_toArray, List.set_cons_zero, List.set_cons_succ]
    obtain ⟨W0, hW0⟩ : ∃ V, V0.drew = V := ⟨_, rfl⟩; rw [hW0] at hHeld ⊢; have HBV : Hid (Below V0.heap.size V0 W0) := (by rw [← hW0]; exact Below.drew (Below.refl _ _)); have HS : Hid (∀ W, Below W0.heap.size W0 W → W.cell? ⟨b5, 0, none⟩ = some (.int .i64 p0)) := (fun W hW => by have b := (K5.out.below HBV.out K5.out.lt); exact (b.below hW b.lt).cell 0); have HB0 := Lib.hid (Below.refl W0.heap.size W0); clear hW0
    refine wpAnyH_ready (rs := [6, 7]) (by kernel_rfl) (by simp) ?_
    refine AllReadyH.cons (o := opr2_6) rfl (fun K hK => ?gs1) ?gr1
    case' gs1 =>
     delta opr2_6
     go_simp
     (refine (lspan_any _ _ _).mono ?_; rintro e W1 ⟨rfl, hb⟩); have hbz : Below W0.heap.size W0 W1 := (by first | exact hb | exact Below.trans (Below.drew (Below.refl _ _)) hb); clear hb; have HB1 := Lib.hid (HB0.out.trans (hbz.mono HB0.out.size)); clear hbz
     refine hK.out _ _ ?_ (fun hHeld => ?_)
     · (try dsimp only); (exact HS.out _ HB1.out)
     clear hK K
     try simp only [opr2_6, Act.put, List.setIfInBounds_toArray, List.set_cons_zero, List.set_cons_succ]
     refine wpAnyH_ready (rs := [7]) (by kernel_rfl) (by simp) ?_
     refine AllReadyH.cons (o := opr2_7) rfl (fun K hK => ?_) AllReadyH.nil
     delta opr2_7
     go_simp
     obtain ⟨W2, hV⟩ : ∃ V, W1.alloc (.cells #[.int .i64 0, .int .i64 0] 23) = V := ⟨_, rfl⟩; have hbz : Below W1.heap.size W1 W2 := (by rw [← hV]; exact (Below.refl _ _).alloc (Nat.le_refl _) _); have HB2 := Lib.hid (HB1.out.trans (hbz.mono HB1.out.size)); have Hb6_2 : Hid (Blk W2 W1.heap.size 23 #[.int .i64 0, .int .i64 0]) := (by rw [← hV]; exact Blk.new' _ _ _ rfl); obtain ⟨b6, hz⟩ : ∃ b, W1.heap.size = b := ⟨_, rfl⟩; rw [hz] at Hb6_2; have gb6 : W0.heap.size ≤ b6 := (by rw [← hz]; exact HB1.out.size); rw [hV, hz]; clear hV hbz hz
     refine hK.out _ _ ?_ (fun hHeld => ?_)
     · (try dsimp only); (exact HS.out _ HB2.out)
     clear hK K
     try simp only [opr2_7, Act.put, List.setIfInBounds_toArray, List.set_cons_zero, List.set_cons_succ]
    case' gr1 =>
     refine AllReadyH.cons (o := opr2_7) rfl (fun K hK => ?gs2) ?gr2
     case' gs2 =>
      delta opr2_7
      go_simp
      obtain ⟨W1, hV⟩ : ∃ V, W0.alloc (.cells #[.int .i64 0, .int .i64 0] 23) = V := ⟨_, rfl⟩; have hbz : Below W0.heap.size W0 W1 := (by rw [← hV]; exact (Below.refl _ _).alloc (Nat.le_refl _) _); have HB1 := Lib.hid (HB0.out.trans (hbz.mono HB0.out.size)); have Hb6_1 : Hid (Blk W1 W0.heap.size 23 #[.int .i64 0, .int .i64 0]) := (by rw [← hV]; exact Blk.new' _ _ _ rfl); obtain ⟨b6, hz⟩ : ∃ b, W0.heap.size = b := ⟨_, rfl⟩; rw [hz] at Hb6_1; have gb6 : W0.heap.size ≤ b6 := (by rw [← hz]; exact HB0.out.size); rw [hV, hz]; clear hV hbz hz
      refine hK.out _ _ ?_ (fun hHeld => ?_)
      · (try dsimp only); (exact HS.out _ HB1.out)
      clear hK K
      try simp only [opr2_7, Act.put, List.setIfInBounds_toArray, List.set_cons_zero, List.set_cons_succ]
      refine wpAnyH_ready (rs := [6]) (by kernel_rfl) (by simp) ?_
      refine AllReadyH.cons (o := opr2_6) rfl (fun K hK => ?_) AllReadyH.nil
      delta opr2_6
      go_simp
      (refine (lspan_any _ _ _).mono ?_; rintro e W2 ⟨rfl, hb⟩); have hbz : Below W1.heap.size W1 W2 := (by first | exact hb | exact Below.trans (Below.drew (Below.refl _ _)) hb); clear hb; have HB2 := Lib.hid (HB1.out.trans (hbz.mono HB1.out.size)); have Hb6_2 := Lib.hid (Hb6_1.out.below hbz Hb6_1.out.lt); clear hbz
      refine hK.out _ _ ?_ (fun hHeld => ?_)
      · (try dsimp only); (exact HS.out _ HB2.out)
      clear hK K
      try simp only [opr2_6, Act.put, List.setIfInBounds_toArray, List.set_cons_zero, List.set_cons_succ]
     case' gr2 =>
      exact AllReadyH.nil
    all_goals
     as_aux_lemma =>
      have y0 := Hb6_2.out.cell 0; have y1 := Hb6_2.out.cell 1; have z0 := Hb6_2.out.frozen 0; have z1 := Hb6_2.out.frozen 1; simp only [List.getElem?_toArray, List.getElem?_cons_zero, List.getElem?_cons_succ] at y0 y1
      refine wpAnyH_ready (rs := [8]) (by kernel_rfl) (by simp) ?_
      refine AllReadyH.cons (o := opr2_8) rfl (fun K hK => ?_) AllReadyH.nil
      delta opr2_8
      go_simp
      refine hK.out _ _ ?_ (fun hHeld => ?_)
      · (try dsimp only); (refine HS.out _ ?_; (repeat (first | exact HB2.out | refine Below.setCell ?_ (by exact gb6) _)); done)
      clear hK K
      try simp only [opr2_8, Act.put, List.setIfInBounds_toArray, List.set_cons_zero, List.set_cons_succ]
      refine wpAnyH_done (by kernel_rfl) ?_ _
      refine NoPanic.normal ?_
      go_wp2_with fail
      go_meet
      exact (oneBox_set Hb6_2.out gb6 HB2.out).of HBV.out
  case rest =>
    obtain ⟨b6, rfl, q6, g6, hb⟩ := hcut
    have l4 := K4.out.lt
    have l5 := K5.out.lt
    have n46 : ¬ b4 = b6 := by omega
    have n56 : ¬ b5 = b6 := by omega
    have n64 : ¬ b6 = b4 := by omega
    have n65 : ¬ b6 = b5 := by omega
    have g6' : w.heap.size ≤ b6 := by have := KB.out.size; omega
    have HJ4 := Lib.hid (K4.out.below hb K4.out.lt)
    have HJ5 := Lib.hid (K5.out.below hb K5.out.lt)
    have HJ6 := Lib.hid q6
    have HJB := Lib.hid (KB.out.trans (hb.mono KB.out.size))
    clear q6 hb K4 K5 KB g6 l4 l5
    obtain ⟨V1, rfl⟩ : ∃ V, V = wc := ⟨_, rfl⟩
    go_wp2_with fail
    go_loopw [39] (fun i wr => ∃ (k : Nat) (mn mx : Int), k ≤ 4 ∧ i = .int .i64 k ∧ mn = mn4 (p4 p0 p1 p2 p3) k ∧ mx = mx4 (p4 p0 p1 p2 p3) k ∧ Hid (Blk wr b6 23 #[.int .i64 mn, .int .i64 mx]) ∧ Hid (Blk wr b4 23 #[.int .i64 0, .int .i64 0]) ∧ Hid (Blk wr b5 3 #[.int .i64 p0, .int .i64 p1, .int .i64 p2, .int .i64 p3]) ∧ Hid (Below w.heap.size w wr)) (fun i wr => 4 - (intOf i).toNat)
    case atStart => exact ⟨0, _, _, by omega, rfl, rfl, rfl, HJ6.out, HJ4.out, HJ5.out, HJB.out⟩
    case round =>
      obtain ⟨k, mn, mx, hk, rfl, hmn, hmx, H6, H4, H5, HB⟩ := hrel
      by_cases hlt : k < 4
      · have hk0 : (0 : Int) ≤ (k : Int) := by omega
        have hk1 : (k : Int) < 4 := by omega
        obtain ⟨x, hx, hc0⟩ : ∃ x, p4 p0 p1 p2 p3 k = x ∧ wr.cell? ⟨b5, k, none⟩ = some (.int .i64 x) := by
          obtain rfl | rfl | rfl | rfl : k = 0 ∨ k = 1 ∨ k = 2 ∨ k = 3 := by omega
          · exact ⟨p0, rfl, H5.out.cell 0⟩
          · exact ⟨p1, rfl, H5.out.cell 1⟩
          · exact ⟨p2, rfl, H5.out.cell 2⟩
          · exact ⟨p3, rfl, H5.out.cell 3⟩
        have Hn : Hid (mn4 (p4 p0 p1 p2 p3) (k + 1) = min mn x ∧ mx4 (p4 p0 p1 p2 p3) (k + 1) = max mx x) := by
          rw [hmn, hmx, ← hx]; exact ⟨rfl, rfl⟩
        clear hmn hmx hx
        obtain ⟨u0, u1, -, -⟩ := span_parts H6.out
        go_wp2_with fail
        all_goals
          refine (lspan_any _ _ _).mono ?_
          rintro e w2 ⟨rfl, hb⟩
          have I6 := Lib.hid (H6.out.below hb H6.out.lt)
          have I4 := Lib.hid (H4.out.below hb H4.out.lt)
          have I5 := Lib.hid (H5.out.below hb H5.out.lt)
          have IB := Lib.hid (HB.out.trans (hb.mono HB.out.size))
          clear H6 H4 H5 HB hb u0 u1 hc0
          obtain ⟨u0, u1, v0, v1⟩ := span_parts I6.out
          go_wp2
          go_roundw
          case rel => exact ⟨k + 1, _, _, by omega, by go_num, by rw [Hn.out.1]; omega, by rw [Hn.out.2]; omega, (I6.out.set_ 0 _).set_ 1 _, (I4.out.far_ (p := ⟨b6, 0, none⟩) (by exact n46) _).far_ (p := ⟨b6, 1, none⟩) (by exact n46) _, (I5.out.far_ (p := ⟨b6, 0, none⟩) (by exact n56) _).far_ (p := ⟨b6, 1, none⟩) (by exact n56) _, (IB.out.setCell (by exact g6') _).setCell (by exact g6') _⟩
          case measure => simp [intOf]; omega
      · obtain rfl : k = 4 := by omega
        obtain ⟨u0, u1, -, -⟩ := span_parts H6.out
        obtain ⟨t0, t1, v0, v1⟩ := span_parts H4.out
        have HM := Lib.hid (And.intro hmn hmx)
        clear hmn hmx
        go_wp2
        have hR := fun x y => span_res2 H4.out x y
        refine bodyPost_ret (v := .agg #[.int .i64 mn, .int .i64 mx]) (by simp [results, Try.results32, go_sem, hR]) rfl ⟨by rw [← HM.out.1, ← HM.out.2], ?_⟩
        exact (HB.out.setCell (by exact g4) _).setCell (by exact g4) _
def squareZ (a : Int × Int) : Int × Int := (if a.1 ≤ 0 ∧ 0 ≤ a.2 then 0 else (prodZ a a).1, (prodZ a a).2)
theorem lsquare_any (a b : Int) (w : World) (ha : -2147483648 ≤ a ∧ a ≤ 2147483648) (hb : -2147483648 ≤ b ∧ b ≤ 2147483648) :
    Calls Try.prog 31 #[.agg #[.int .i64 a, .int .i64 b]] w fun e w' => e = .returned (.agg #[.int .i64 (squareZ (a, b)).1, .int .i64 (squareZ (a, b)).2]) ∧ Below w.heap.size w w' := by
  have HQ : Hid ((squareZ (a, b)).1 = (if a ≤ 0 ∧ 0 ≤ b then 0 else (prodZ (a, b) (a, b)).1) ∧ (squareZ (a, b)).2 = (prodZ (a, b) (a, b)).2) := ⟨rfl, rfl⟩
  by_cases h1 : a ≤ 0
  all_goals by_cases h2 : 0 ≤ b
  all_goals
    go_enter Try.func31, Try.ntmps31
    go_wp2_with fail
    refine (lproduct_any a b a b _ ha hb ha hb).mono ?_
    rintro e w1 ⟨rfl, hbb⟩
    have I1 : Hid (Blk w1 w.heap.size 23 #[.int .i64 a, .int .i64 b]) := Blk.below ((Blk.new' w _ _ rfl).alloc _) hbb (by simp; omega)
    have I2 : Hid (Blk w1 (w.heap.size + 1) 23 #[.int .i64 0, .int .i64 0]) := Blk.below (Blk.new' _ _ _ (by simp)) hbb (by simp)
    have IB : Hid (Below w.heap.size w w1) := Below.trans (by exact (by repeat (first | exact Below.refl _ _ | assumption | refine Below.drew ?_ | refine Below.drewN' ?_ _ | (refine Below.alloc ?_ (by simp <;> omega) _) | (refine Below.setCell ?_ (by simp <;> omega) _)))) (hbb.mono (by simp; omega))
    clear hbb
    obtain ⟨x, hx⟩ : ∃ x, (prodZ (a, b) (a, b)).1 = x := ⟨_, rfl⟩
    obtain ⟨y, hy⟩ : ∃ y, (prodZ (a, b) (a, b)).2 = y := ⟨_, rfl⟩
    have HX := Lib.hid (And.intro hx hy)
    rw [hx, hy]
    clear hx hy
    go_upto_region 2 with (fail)
    obtain ⟨V1, hV1⟩ : ∃ V, w1.alloc (.cells #[.int .i64 x, .int .i64 y] 23) = V := ⟨_, rfl⟩
    have J3 : Hid (Blk V1 w1.heap.size 23 #[.int .i64 x, .int .i64 y]) := by rw [← hV1]; exact Blk.new' _ _ _ rfl
    have hB1 : Below w1.heap.size w1 V1 := by rw [← hV1]; exact (Below.refl _ _).alloc (Nat.le_refl _) _
    rw [hV1]
    have J1 := Lib.hid (I1.out.below hB1 I1.out.lt)
    have J2 := Lib.hid (I2.out.below hB1 I2.out.lt)
    have JB := Lib.hid (IB.out.trans (hB1.mono IB.out.size))
    have l1 := I2.out.lt
    clear hV1 hB1 I1 I2 IB
    generalize w1.heap.size = b3 at *
    have n1 : ¬ b3 = w.heap.size + 1 := by omega
    have n2 : ¬ w.heap.size + 1 = b3 := by omega
    obtain ⟨c0, c1, -, -⟩ := span_parts J1.out
    obtain ⟨d0, d1, z0, z1⟩ := span_parts J3.out
    obtain ⟨t0, t1, v0, v1⟩ := span_parts J2.out
    go_wp2
    have hR := fun x y => span_res2 J2.out x y
    have hR2 := fun u x y => span_res2 (J2.out.far_ (p := ⟨b3, 0, none⟩) (by exact n2) u) x y
    have hS1 := HQ.out.1
    have hS2 := HQ.out.2
    rw [HX.out.1] at hS1
    rw [HX.out.2] at hS2
    first
      | rw [if_pos ⟨by assumption, by assumption⟩] at hS1
      | rw [if_neg (by omega)] at hS1
    refine bodyPost_ret (v := .agg #[.int .i64 (squareZ (a, b)).1, .int .i64 (squareZ (a, b)).2]) (by simp [results, Try.results31, go_sem, hR, hR2, hS1, hS2]) rfl ⟨rfl, ?_⟩
    have JBo := JB.out
    have hle : w.heap.size ≤ b3 := by omega
    exact (by repeat (first | exact Below.refl _ _ | assumption | refine Below.drew ?_ | refine Below.drewN' ?_ _ | (refine Below.alloc ?_ (by simp <;> omega) _) | (refine Below.setCell ?_ (by simp <;> omega) _)))
end Go.Proofs.Ytfblpokjbopagaa
/-
  Layer 2, the reference: level.
-/
namespace Go.Proofs.Ytfblpokjbopagaa
open Go.RowKit

theorem cell_far3 {w : World} {a b k : Nat} (u v : Value) (i j : Nat) (h : ¬ b = a) : ((w.setCell ⟨b, i, none⟩ u).setCell ⟨b, j, none⟩ v).cell? ⟨a, k, none⟩ = w.cell? ⟨a, k, none⟩ := by
  rw [World.cell?_setCell_far _ _ _ _ (by exact h), World.cell?_setCell_far _ _ _ _ (by exact h)]
def olv6_0 : Oper := { dst := some 22, op := Op.fieldAddr 23 (Operand.tmp 3) 0, type := 0, pos := "ref.go:147", after := #[], guard := none }
def olv6_1 : Oper := { dst := some 23, op := Op.load 3 (Operand.tmp 22), type := 3, pos := "ref.go:147", after := #[{ on := 0, ground := Ground.data }], guard := none }
def olv6_2 : Oper := { dst := some 24, op := Op.binOp BinOp.mul 3 (Operand.const (Value.int IntKind.i64 3600)) (Operand.tmp 23) 3, type := 3, pos := "ref.go:147", after := #[{ on := 1, ground := Ground.data }], guard := none }
def olv6_3 : Oper := { dst := some 25, op := Op.fieldAddr 80 (Operand.tmp 7) 1, type := 0, pos := "ref.go:147", after := #[], guard := none }
def olv6_4 : Oper := { dst := some 26, op := Op.load 3 (Operand.tmp 25), type := 3, pos := "ref.go:147", after := #[{ on := 3, ground := Ground.data }], guard := none }
def olv6_5 : Oper := { dst := some 27, op := Op.call { callee := Callee.value (Operand.func 60), args := #[Operand.tmp 24, Operand.tmp 26], argTypes := #[3, 3] }, type := 3, pos := "ref.go:147", after := #[{ on := 2, ground := Ground.data }, { on := 4, ground := Ground.data }], guard := none }
def olv6_6 : Oper := { dst := some 28, op := Op.fieldAddr 80 (Operand.tmp 7) 2, type := 0, pos := "ref.go:147", after := #[], guard := none }
def olv6_7 : Oper := { dst := some 29, op := Op.load 3 (Operand.tmp 28), type := 3, pos := "ref.go:147", after := #[{ on := 6, ground := Ground.data }], guard := none }
def olv6_8 : Oper := { dst := some 30, op := Op.binOp BinOp.sub 3 (Operand.tmp 27) (Operand.tmp 29) 3, type := 3, pos := "ref.go:147", after := #[{ on := 5, ground := Ground.data }, { on := 7, ground := Ground.data }], guard := none }
def olv6_9 : Oper := { dst := some 31, op := Op.fieldAddr 23 (Operand.tmp 3) 1, type := 0, pos := "ref.go:147", after := #[], guard := none }
def olv6_10 : Oper := { dst := some 32, op := Op.load 3 (Operand.tmp 31), type := 3, pos := "ref.go:147", after := #[{ on := 9, ground := Ground.data }], guard := none }
def olv6_11 : Oper := { dst := some 33, op := Op.binOp BinOp.mul 3 (Operand.const (Value.int IntKind.i64 3600)) (Operand.tmp 32) 3, type := 3, pos := "ref.go:147", after := #[{ on := 10, ground := Ground.data }], guard := none }
def olv6_12 : Oper := { dst := some 34, op := Op.fieldAddr 80 (Operand.tmp 7) 1, type := 0, pos := "ref.go:147", after := #[], guard := none }
def olv6_13 : Oper := { dst := some 35, op := Op.load 3 (Operand.tmp 34), type := 3, pos := "ref.go:147", after := #[{ on := 12, ground := Ground.data }], guard := none }
def olv6_14 : Oper := { dst := some 36, op := Op.call { callee := Callee.value (Operand.func 61), args := #[Operand.tmp 33, Operand.tmp 35], argTypes := #[3, 3] }, type := 3, pos := "ref.go:147", after := #[{ on := 11, ground := Ground.data }, { on := 13, ground := Ground.data }, { on := 5, ground := Ground.chain }], guard := none }
def olv6_15 : Oper := { dst := some 37, op := Op.fieldAddr 80 (Operand.tmp 7) 2, type := 0, pos := "ref.go:147", after := #[], guard := none }
def olv6_16 : Oper := { dst := some 38, op := Op.load 3 (Operand.tmp 37), type := 3, pos := "ref.go:147", after := #[{ on := 15, ground := Ground.data }], guard := none }
def olv6_17 : Oper := { dst := some 39, op := Op.binOp BinOp.sub 3 (Operand.tmp 36) (Operand.tmp 38) 3, type := 3, pos := "ref.go:147", after := #[{ on := 14, ground := Ground.data }, { on := 16, ground := Ground.data }], guard := none }
def olv6_18 : Oper := { dst := some 40, op := Op.build 23 #[(0, Operand.tmp 30), (1, Operand.tmp 39)], type := 23, pos := "ref.go:147", after := #[{ on := 8, ground := Ground.data }, { on := 17, ground := Ground.data }], guard := none }
def olv6_19 : Oper := { dst := some 41, op := Op.call { callee := Callee.value (Operand.func 39), args := #[Operand.tmp 40], argTypes := #[23] }, type := 23, pos := "ref.go:147", after := #[{ on := 18, ground := Ground.data }, { on := 14, ground := Ground.chain }], guard := none }
def olv6_20 : Oper := { dst := some 8, op := Op.alloc 23, type := 0, pos := "ref.go:147", after := #[], guard := none }
def olv6_21 : Oper := { dst := none, op := Op.store 23 (Operand.tmp 8) (Operand.tmp 41), type := 0, pos := "ref.go:147", after := #[{ on := 20, ground := Ground.data }, { on := 19, ground := Ground.data }, { on := 19, ground := Ground.chain }, { on := 0, ground := Ground.phase }, { on := 1, ground := Ground.phase }, { on := 2, ground := Ground.phase }, { on := 3, ground := Ground.phase }, { on := 4, ground := Ground.phase }, { on := 5, ground := Ground.phase }, { on := 6, ground := Ground.phase }, { on := 7, ground := Ground.phase }, { on := 8, ground := Ground.phase }, { on := 9, ground := Ground.phase }, { on := 10, ground := Ground.phase }, { on := 11, ground := Ground.phase }, { on := 12, ground := Ground.phase }, { on := 13, ground := Ground.phase }, { on := 14, ground := Ground.phase }, { on := 15, ground := Ground.phase }, { on := 16, ground := Ground.phase }, { on := 17, ground := Ground.phase }, { on := 18, ground := Ground.phase }, { on := 19, ground := Ground.phase }, { on := 20, ground := Ground.phase }], guard := none }
def olv9_0 : Oper := { dst := some 60, op := Op.fieldAddr 31 (Operand.tmp 2) 0, type := 0, pos := "ref.go:151", after := #[], guard := none }
def olv9_1 : Oper := { dst := some 61, op := Op.load 3 (Operand.tmp 60), type := 3, pos := "ref.go:151", after := #[{ on := 0, ground := Ground.data }], guard := none }
def olv9_2 : Oper := { dst := some 62, op := Op.fieldAddr 23 (Operand.tmp 5) 0, type := 0, pos := "ref.go:151", after := #[], guard := none }
def olv9_3 : Oper := { dst := some 63, op := Op.load 3 (Operand.tmp 62), type := 3, pos := "ref.go:151", after := #[{ on := 2, ground := Ground.data }], guard := none }
def olv9_4 : Oper := { dst := some 64, op := Op.call { callee := Callee.value (Operand.func 60), args := #[Operand.tmp 63, Operand.const (Value.int IntKind.i64 65536)], argTypes := #[3, 3] }, type := 3, pos := "ref.go:151", after := #[{ on := 3, ground := Ground.data }], guard := none }
def olv9_5 : Oper := { dst := some 65, op := Op.binOp BinOp.add 3 (Operand.tmp 61) (Operand.tmp 64) 3, type := 3, pos := "ref.go:151", after := #[{ on := 1, ground := Ground.data }, { on := 4, ground := Ground.data }], guard := none }
def olv9_6 : Oper := { dst := some 66, op := Op.fieldAddr 31 (Operand.tmp 2) 0, type := 0, pos := "ref.go:151", after := #[], guard := none }
def olv9_7 : Oper := { dst := some 67, op := Op.load 3 (Operand.tmp 66), type := 3, pos := "ref.go:151", after := #[{ on := 6, ground := Ground.data }], guard := none }
def olv9_8 : Oper := { dst := some 68, op := Op.fieldAddr 23 (Operand.tmp 5) 1, type := 0, pos := "ref.go:151", after := #[], guard := none }
def olv9_9 : Oper := { dst := some 69, op := Op.load 3 (Operand.tmp 68), type := 3, pos := "ref.go:151", after := #[{ on := 8, ground := Ground.data }], guard := none }
def olv9_10 : Oper := { dst := some 70, op := Op.call { callee := Callee.value (Operand.func 61), args := #[Operand.tmp 69, Operand.const (Value.int IntKind.i64 65536)], argTypes := #[3, 3] }, type := 3, pos := "ref.go:151", after := #[{ on := 9, ground := Ground.data }, { on := 4, ground := Ground.chain }], guard := none }
def olv9_11 : Oper := { dst := some 71, op := Op.binOp BinOp.add 3 (Operand.tmp 67) (Operand.tmp 70) 3, type := 3, pos := "ref.go:151", after := #[{ on := 7, ground := Ground.data }, { on := 10, ground := Ground.data }], guard := none }
def olv9_12 : Oper := { dst := some 72, op := Op.build 23 #[(0, Operand.tmp 65), (1, Operand.tmp 71)], type := 23, pos := "ref.go:151", after := #[{ on := 5, ground := Ground.data }, { on := 11, ground := Ground.data }], guard := none }
def olv9_13 : Oper := { dst := none, op := Op.store 23 (Operand.tmp 4) (Operand.tmp 72), type := 0, pos := "ref.go:151", after := #[{ on := 12, ground := Ground.data }, { on := 10, ground := Ground.chain }, { on := 0, ground := Ground.phase }, { on := 1, ground := Ground.phase }, { on := 2, ground := Ground.phase }, { on := 3, ground := Ground.phase }, { on := 4, ground := Ground.phase }, { on := 5, ground := Ground.phase }, { on := 6, ground := Ground.phase }, { on := 7, ground := Ground.phase }, { on := 8, ground := Ground.phase }, { on := 9, ground := Ground.phase }, { on := 10, ground := Ground.phase }, { on := 11, ground := Ground.phase }, { on := 12, ground := Ground.phase }], guard := none }

set_option maxRecDepth 100000 in
set_option maxHeartbeats 4000000 in
theorem rlevel_any (x : Value) (m : Md) (lo hi : Int) (w : World) (hm : MdAt w w.heap.size x m) (h0 : mdE m = 0) (ht : 0 ≤ lo ∧ lo ≤ hi ∧ hi ≤ 1000000000) :
    Calls Try.prog 44 #[x, .agg #[.int .i64 lo, .int .i64 hi]] w fun e w' => e = .returned (.agg #[.int .i64 (levelZ m (lo, hi)).1, .int .i64 (levelZ m (lo, hi)).2]) ∧ Below w.heap.size w w' := by
  obtain ⟨v, rfl, hp⟩ := hm
  have HP := Lib.hid hp
  obtain ⟨A, c, rfl, hc, hlen⟩ := hp.open_
  obtain ⟨⟨a1, a2⟩, a3, a4⟩ := mdE_zero h0
  obtain ⟨mean, ps⟩ := m
  simp only at HP hc hlen a1 a2 a3 a4 ⊢
  have HOK := Lib.hid a4
  clear hp a4 h0
  obtain ⟨t1, t2, t3⟩ := ht
  obtain ⟨⟨L1, L2⟩, hL⟩ : ∃ r, levelZ ⟨mean, ps⟩ (lo, hi) = r := ⟨_, rfl⟩
  have HL : Hid (mean + downZ (sumF (loP (lo, hi)) ps) 65536 = L1 ∧ mean + upZ (sumF (hiP (lo, hi)) ps) 65536 = L2) := by
    have h := hL
    unfold levelZ at h
    injection h with h1 h2
    exact ⟨h1, h2⟩
  rw [hL]
  clear hL
  go_enter Try.func44, Try.ntmps44
  go_upto_region 2 with (fail)
  obtain ⟨V0, hV⟩ : ∃ V, (((w.alloc (.cells #[.int .i64 mean, .slice A ps.length c] 31)).alloc (.cells #[.int .i64 lo, .int .i64 hi] 23)).alloc (.cells #[.int .i64 0, .int .i64 0] 23)).alloc (.cells #[.int .i64 0, .int .i64 0] 23) = V := ⟨_, rfl⟩
  have K2 : Hid (Blk V0 w.heap.size 31 #[.int .i64 mean, .slice A ps.length c]) := by rw [← hV]; exact (((Blk.new' _ _ _ rfl).alloc _).alloc _).alloc _
  have K3 : Hid (Blk V0 (w.heap.size + 1) 23 #[.int .i64 lo, .int .i64 hi]) := by rw [← hV]; exact ((Blk.new' _ _ _ (by simp)).alloc _).alloc _
  have K4 : Hid (Blk V0 (w.heap.size + 1 + 1) 23 #[.int .i64 0, .int .i64 0]) := by rw [← hV]; exact (Blk.new' _ _ _ (by simp)).alloc _
  have K5 : Hid (Blk V0 (w.heap.size + 1 + 1 + 1) 23 #[.int .i64 0, .int .i64 0]) := by rw [← hV]; exact Blk.new' _ _ _ (by simp)
  have KB : Hid (Below w.heap.size w V0) := by rw [← hV]; exact (by repeat (first | exact Below.refl _ _ | assumption | refine Below.drew ?_ | refine Below.drewN' ?_ _ | (refine Below.alloc ?_ (by simp <;> omega) _) | (refine Below.setCell ?_ (by simp <;> omega) _)))
  rw [hV]
  clear hV
  obtain ⟨b5, h5⟩ : ∃ b, w.heap.size + 1 + 1 + 1 = b := ⟨_, rfl⟩
  have g5 : w.heap.size ≤ b5 := by omega
  obtain ⟨b4, h4⟩ : ∃ b, w.heap.size + 1 + 1 = b := ⟨_, rfl⟩
  have g4 : w.heap.size ≤ b4 := by omega
  obtain ⟨b3, h3⟩ : ∃ b, w.heap.size + 1 = b := ⟨_, rfl⟩
  have n25 : ¬ w.heap.size = b5 := by omega
  have n42 : ¬ b4 = w.heap.size := by omega
  have n24 : ¬ w.heap.size = b4 := by omega
  have n35 : ¬ b3 = b5 := by omega
  have n45 : ¬ b4 = b5 := by omega
  have n54 : ¬ b5 = b4 := by omega
  rw [h5] at K5 ⊢
  rw [h4] at K4 ⊢
  rw [h3] at K3 ⊢
  clear h3 h4 h5
  go_wp2_with fail
  go_loopw [6] (fun j wr => ∃ (k : Nat) (S1 S2 : Int), k ≤ ps.length ∧ j = .int .i64 k ∧ Hid (S1 = sumF (loP (lo, hi)) (ps.take k) ∧ S2 = sumF (hiP (lo, hi)) (ps.take k)) ∧ (-65536000 * (k : Int) ≤ S1 ∧ S1 ≤ 65536000 * k ∧ -65536000 * (k : Int) ≤ S2 ∧ S2 ≤ 65536000 * k) ∧ Hid (Blk wr b5 23 #[.int .i64 S1, .int .i64 S2]) ∧ Hid (Blk wr w.heap.size 31 #[.int .i64 mean, .slice A ps.length c]) ∧ Hid (Blk wr b3 23 #[.int .i64 lo, .int .i64 hi]) ∧ Hid (Blk wr b4 23 #[.int .i64 0, .int .i64 0]) ∧ Hid (Below w.heap.size w wr)) (fun j wr => ps.length - (intOf j).toNat)
  case atStart => exact ⟨0, 0, 0, by omega, rfl, ⟨rfl, rfl⟩, ⟨by omega, by omega, by omega, by omega⟩, K5.out, K2.out, K3.out, K4.out, KB.out⟩
  case round =>
    obtain ⟨k, S1, S2, hk, rfl, HS, ⟨s1, s2, s3, s4⟩, H5, H2, H3, H4, HB⟩ := hrel
    have y0 := H2.out.cell 0
    have y1 := H2.out.cell 1
    simp only [List.getElem?_toArray, List.getElem?_cons_zero, List.getElem?_cons_succ] at y0 y1
    by_cases hlt : k < ps.length
    · have hk0 : (0 : Int) ≤ (k : Int) := by omega
      have hk1 : (k : Int) < (ps.length : Int) := by omega
      obtain ⟨b, o, rfl, hb, f0, f1, f2⟩ := (HP.out.below HB.out).at_ hlt
      have hpp := List.all_eq_true.1 HOK.out ps[k] (List.getElem_mem hlt)
      have hp := part_of hpp
      have hr := part_rng (t := (lo, hi)) hpp t2
      have hr2 : -65536 * (ps[k]).1 ≤ hiP (lo, hi) ps[k] := Int.le_trans hr.1 hr.2.1
      have hr3 : loP (lo, hi) ps[k] ≤ 65536 * (ps[k]).1 := Int.le_trans hr.2.1 hr.2.2
      have HN1 := Lib.hid (sumF_take (loP (lo, hi)) ps k hlt)
      have HN2 := Lib.hid (sumF_take (hiP (lo, hi)) ps k hlt)
      generalize ps[k] = p at *
      obtain ⟨am, pe, ph⟩ := p
      simp only at f0 f1 f2 hp hr hr2 hr3
      obtain ⟨p0, p1, p2, p3, p4, p5⟩ := hp
      obtain ⟨⟨c1, c2⟩, hcb⟩ : ∃ r, boundsZ (angS (lo, hi) (am, pe, ph)) = r := ⟨_, rfl⟩
      have HCB : Hid ((boundsZ (downZ (3600 * lo) pe - ph, upZ (3600 * hi) pe - ph)).1 = c1 ∧ (boundsZ (downZ (3600 * lo) pe - ph, upZ (3600 * hi) pe - ph)).2 = c2) := by
        have e : boundsZ (downZ (3600 * lo) pe - ph, upZ (3600 * hi) pe - ph) = (c1, c2) := hcb
        rw [e]; exact ⟨rfl, rfl⟩
      obtain ⟨m1, hm1⟩ : ∃ x, am * c1 = x := ⟨_, rfl⟩
      obtain ⟨m2, hm2⟩ : ∃ x, am * c2 = x := ⟨_, rfl⟩
      have e1 : loP (lo, hi) (am, pe, ph) = m1 := by rw [← hm1]; unfold loP; rw [hcb]
      have e2 : hiP (lo, hi) (am, pe, ph) = m2 := by rw [← hm2]; unfold hiP; rw [hcb]
      rw [e1] at hr hr3 HN1
      rw [e2] at hr hr2 HN2
      have x1 : wrap64 m1 = m1 := w64 (by omega)
      have x2 : wrap64 m2 = m2 := w64 (by omega)
      have hdn := down_rng (a := 3600 * lo) (b := pe) (M := 3600000000000) (by omega) ⟨by omega, by omega⟩
      have hup := down_rng (a := -(3600 * hi)) (b := pe) (M := 3600000000000) (by omega) ⟨by omega, by omega⟩
      have hup2 : -3600000000000 ≤ upZ (3600 * hi) pe ∧ upZ (3600 * hi) pe ≤ 3600000000000 := by unfold downZ at hup; unfold upZ; omega
      have q1 : IntKind.i64.wrap (3600 * lo) = 3600 * lo := IntWalk.i64_in _ (by omega)
      have q2 : IntKind.i64.wrap (3600 * hi) = 3600 * hi := IntWalk.i64_in _ (by omega)
      have q3 : IntKind.i64.wrap (downZ (3600 * lo) pe - ph) = downZ (3600 * lo) pe - ph := IntWalk.i64_in _ (by omega)
      have q4 : IntKind.i64.wrap (upZ (3600 * hi) pe - ph) = upZ (3600 * hi) pe - ph := IntWalk.i64_in _ (by omega)
      have hbl : b < wr.heap.size := by have := HB.out.size; omega
      have lw := H2.out.lt
      clear hcb e1 e2 hup hpp
      go_upto_region 6 with (fail)
      obtain ⟨V7, hV⟩ : ∃ V, wr.alloc (.cells #[.int .i64 am, .int .i64 pe, .int .i64 ph] 80) = V := ⟨_, rfl⟩
      have hz : Below wr.heap.size wr V7 := by rw [← hV]; exact (Below.refl _ _).alloc (Nat.le_refl _) _
      have hk7 : Blk V7 wr.heap.size 80 #[.int .i64 am, .int .i64 pe, .int .i64 ph] := by rw [← hV]; exact Blk.new' _ _ _ rfl
      rw [hV]
      have l5 := H5.out.lt
      obtain ⟨b7, h7⟩ : ∃ b, wr.heap.size = b := ⟨_, rfl⟩
      rw [h7] at hk7 l5 ⊢
      have n75 : ¬ b7 = b5 := by omega
      have n57 : ¬ b5 = b7 := by omega
      have J7 := Lib.hid hk7
      have J5 := Lib.hid (H5.out.below hz H5.out.lt)
      have J2 := Lib.hid (H2.out.below hz H2.out.lt)
      have J3 := Lib.hid (H3.out.below hz H3.out.lt)
      have J4 := Lib.hid (H4.out.below hz H4.out.lt)
      have JB := Lib.hid (HB.out.trans (hz.mono HB.out.size))
      clear hV hz hk7 h7 H5 H2 H3 H4 HB y0 y1 f0 f1 f2
      have HSV : Hid (∀ W, Below V7.heap.size V7 W → W.cell? ⟨b3, 0, none⟩ = some (.int .i64 lo) ∧ W.cell? ⟨b3, 1, none⟩ = some (.int .i64 hi) ∧ W.cell? ⟨b7, 1, none⟩ = some (.int .i64 pe) ∧ W.cell? ⟨b7, 2, none⟩ = some (.int .i64 ph)) := fun W hW => by
        have k3 := J3.out.below hW J3.out.lt
        have k7 := J7.out.below hW J7.out.lt
        exact ⟨k3.cell 0, k3.cell 1, k7.cell 1, k7.cell 2⟩
      go_cut [8] from 22 to 42 (fun p wx => OneBox V7 23 (c1, c2) p wx)
      case first =>
        have k0 := HSV.out _ (Below.drew (Below.refl V7.heap.size V7))
        refine wp_region_noPanic ?_
        refine wp_region_held_drew (S := (fun w' => w'.cell? ⟨b3, 0, none⟩ = some (.int .i64 lo) ∧ w'.cell? ⟨b3, 1, none⟩ = some (.int .i64 hi) ∧ w'.cell? ⟨b7, 1, none⟩ = some (.int .i64 pe) ∧ w'.cell? ⟨b7, 2, none⟩ = some (.int .i64 ph))) (by kernel_rfl) ?_ (fun hHeld => ?_)
        · (try dsimp only); (exact k0)
        refine wpAnyH_take (i := 0) (oi := olv6_0) (v := ?_) rfl (by kernel_rfl) (by kernel_rfl) (by kernel_rfl) (fun _ _ _ h => h) (Or.inl ⟨by rfl, ?_⟩) (by assumption) ?_
        rotate_left
        · ((intro w hSw; delta olv6_0; (try dsimp only at hSw); go_simp) <;> with_reducible rfl)
        try simp only [olv6_0, Act.put, List.setIfInBounds_toArray, List.set_cons_zero, List.set_cons_succ]
        refine wpAnyH_take (i := 1) (oi := olv6_1) (v := ?_) rfl (by kernel_rfl) (by kernel_rfl) (by kernel_rfl) (fun _ _ _ h => h) (Or.inl ⟨by rfl, ?_⟩) (by assumption) ?_
        rotate_left
        · ((intro w hSw; delta olv6_1; (try dsimp only at hSw); go_simp) <;> with_reducible rfl)
        try simp only [olv6_1, Act.put, List.setIfInBounds_toArray, List.set_cons_zero, List.set_cons_succ]
        refine wpAnyH_take (i := 2) (oi := olv6_2) (v := ?_) rfl (by kernel_rfl) (by kernel_rfl) (by kernel_rfl) (fun _ _ _ h => h) (Or.inl ⟨by rfl, ?_⟩) (by assumption) ?_
        rotate_left
        · ((intro w hSw; delta olv6_2; (try dsimp only at hSw); go_simp) <;> with_reducible rfl)
        try simp only [olv6_2, Act.put, List.setIfInBounds_toArray, List.set_cons_zero, List.set_cons_succ]
        refine wpAnyH_take (i := 3) (oi := olv6_3) (v := ?_) rfl (by kernel_rfl) (by kernel_rfl) (by kernel_rfl) (fun _ _ _ h => h) (Or.inl ⟨by rfl, ?_⟩) (by assumption) ?_
        rotate_left
        · ((intro w hSw; delta olv6_3; (try dsimp only at hSw); go_simp) <;> with_reducible rfl)
        try simp only [olv6_3, Act.put, List.setIfInBounds_toArray, List.set_cons_zero, List.set_cons_succ]
        refine wpAnyH_take (i := 4) (oi := olv6_4) (v := ?_) rfl (by kernel_rfl) (by kernel_rfl) (by kernel_rfl) (fun _ _ _ h => h) (Or.inl ⟨by rfl, ?_⟩) (by assumption) ?_
        rotate_left
        · ((intro w hSw; delta olv6_4; (try dsimp only at hSw); go_simp) <;> with_reducible rfl)
        try simp only [olv6_4, Act.put, List.setIfInBounds_toArray, List.set_cons_zero, List.set_cons_succ]
        refine wpAnyH_take (i := 6) (oi := olv6_6) (v := ?_) rfl (by kernel_rfl) (by kernel_rfl) (by kernel_rfl) (fun _ _ _ h => h) (Or.inl ⟨by rfl, ?_⟩) (by assumption) ?_
        rotate_left
        · ((intro w hSw; delta olv6_6; (try dsimp only at hSw); go_simp) <;> with_reducible rfl)
        try simp only [olv6_6, Act.put, List.setIfInBounds_toArray, List.set_cons_zero, List.set_cons_succ]
        refine wpAnyH_take (i := 7) (oi := olv6_7) (v := ?_) rfl (by kernel_rfl) (by kernel_rfl) (by kernel_rfl) (fun _ _ _ h => h) (Or.inl ⟨by rfl, ?_⟩) (by assumption) ?_
        rotate_left
        · ((intro w hSw; delta olv6_7; (try dsimp only at hSw); go_simp) <;> with_reducible rfl)
        try simp only [olv6_7, Act.put, List.setIfInBounds_toArray, List.set_cons_zero, List.set_cons_succ]
        refine wpAnyH_take (i := 9) (oi := olv6_9) (v := ?_) rfl (by kernel_rfl) (by kernel_rfl) (by kernel_rfl) (fun _ _ _ h => h) (Or.inl ⟨by rfl, ?_⟩) (by assumption) ?_
        rotate_left
        · ((intro w hSw; delta olv6_9; (try dsimp only at hSw); go_simp) <;> with_reducible rfl)
        try simp only [olv6_9, Act.put, List.setIfInBounds_toArray, List.set_cons_zero, List.set_cons_succ]
        refine wpAnyH_take (i := 10) (oi := olv6_10) (v := ?_) rfl (by kernel_rfl) (by kernel_rfl) (by kernel_rfl) (fun _ _ _ h => h) (Or.inl ⟨by rfl, ?_⟩) (by assumption) ?_
        rotate_left
        · ((intro w hSw; delta olv6_10; (try dsimp only at hSw); go_simp) <;> with_reducible rfl)
        try simp only [olv6_10, Act.put, List.setIfInBounds_toArray, List.set_cons_zero, List.set_cons_succ]
        refine wpAnyH_take (i := 11) (oi := olv6_11) (v := ?_) rfl (by kernel_rfl) (by kernel_rfl) (by kernel_rfl) (fun _ _ _ h => h) (Or.inl ⟨by rfl, ?_⟩) (by assumption) ?_
        rotate_left
        · ((intro w hSw; delta olv6_11; (try dsimp only at hSw); go_simp) <;> with_reducible rfl)
        try simp only [olv6_11, Act.put, List.setIfInBounds_toArray, List.set_cons_zero, List.set_cons_succ]
        refine wpAnyH_take (i := 12) (oi := olv6_12) (v := ?_) rfl (by kernel_rfl) (by kernel_rfl) (by kernel_rfl) (fun _ _ _ h => h) (Or.inl ⟨by rfl, ?_⟩) (by assumption) ?_
        rotate_left
        · ((intro w hSw; delta olv6_12; (try dsimp only at hSw); go_simp) <;> with_reducible rfl)
        try simp only [olv6_12, Act.put, List.setIfInBounds_toArray, List.set_cons_zero, List.set_cons_succ]
        refine wpAnyH_take (i := 13) (oi := olv6_13) (v := ?_) rfl (by kernel_rfl) (by kernel_rfl) (by kernel_rfl) (fun _ _ _ h => h) (Or.inl ⟨by rfl, ?_⟩) (by assumption) ?_
        rotate_left
        · ((intro w hSw; delta olv6_13; (try dsimp only at hSw); go_simp) <;> with_reducible rfl)
        try simp only [olv6_13, Act.put, List.setIfInBounds_toArray, List.set_cons_zero, List.set_cons_succ]
        refine wpAnyH_take (i := 15) (oi := olv6_15) (v := ?_) rfl (by kernel_rfl) (by kernel_rfl) (by kernel_rfl) (fun _ _ _ h => h) (Or.inl ⟨by rfl, ?_⟩) (by assumption) ?_
        rotate_left
        · ((intro w hSw; delta olv6_15; (try dsimp only at hSw); go_simp) <;> with_reducible rfl)
        try simp only [olv6_15, Act.put, List.setIfInBounds_toArray, List.set_cons_zero, List.set_cons_succ]
        refine wpAnyH_take (i := 16) (oi := olv6_16) (v := ?_) rfl (by kernel_rfl) (by kernel_rfl) (by kernel_rfl) (fun _ _ _ h => h) (Or.inl ⟨by rfl, ?_⟩) (by assumption) ?_
        rotate_left
        · ((intro w hSw; delta olv6_16; (try dsimp only at hSw); go_simp) <;> with_reducible rfl)
        try simp only [olv6_16, Act.put, List.setIfInBounds_toArray, List.set_cons_zero, List.set_cons_succ]
        obtain ⟨W0, hW0⟩ : ∃ V, V7.drew = V := ⟨_, rfl⟩; rw [hW0] at hHeld ⊢; have HBV : Hid (Below V7.heap.size V7 W0) := (by rw [← hW0]; exact Below.drew (Below.refl _ _)); have HS : Hid (∀ W, Below W0.heap.size W0 W → W.cell? ⟨b3, 0, none⟩ = some (.int .i64 lo) ∧ W.cell? ⟨b3, 1, none⟩ = some (.int .i64 hi) ∧ W.cell? ⟨b7, 1, none⟩ = some (.int .i64 pe) ∧ W.cell? ⟨b7, 2, none⟩ = some (.int .i64 ph)) := (fun W hW => HSV.out W (HBV.out.trans (hW.mono HBV.out.size))); have HB0 := Lib.hid (Below.refl W0.heap.size W0); clear hW0
        refine wpAnyH_ready (rs := [5, 20]) (by kernel_rfl) (by simp) ?_
        refine AllReadyH.cons (o := olv6_5) rfl (fun K hK => ?gs1) ?gr1
        case' gs1 =>
         delta olv6_5
         go_simp
         (refine (rdown_any _ _ _ ⟨by omega, by omega⟩ (by omega)).mono ?_; rintro e W1 ⟨rfl, hw⟩; have hb : Below W0.heap.size W0 W1 := (by rw [← hw]; exact Below.refl _ _); clear hw); have hbz : Below W0.heap.size W0 W1 := (by first | exact hb | exact Below.trans (Below.drew (Below.refl _ _)) hb); clear hb; have HB1 := Lib.hid (HB0.out.trans (hbz.mono HB0.out.size)); clear hbz
         refine hK.out _ _ ?_ (fun hHeld => ?_)
         · (try dsimp only); (exact HS.out _ HB1.out)
         clear hK K
         try simp only [olv6_5, Act.put, List.setIfInBounds_toArray, List.set_cons_zero, List.set_cons_succ]
         refine wpAnyH_take (i := 8) (oi := olv6_8) (v := ?_) rfl (by kernel_rfl) (by kernel_rfl) (by kernel_rfl) (fun _ _ _ h => h) (Or.inl ⟨by rfl, ?_⟩) (by assumption) ?_
         rotate_left
         · ((intro w hSw; delta olv6_8; (try dsimp only at hSw); go_simp) <;> with_reducible rfl)
         try simp only [olv6_8, Act.put, List.setIfInBounds_toArray, List.set_cons_zero, List.set_cons_succ]
         refine wpAnyH_ready (rs := [14, 20]) (by kernel_rfl) (by simp) ?_
         refine AllReadyH.cons (o := olv6_14) rfl (fun K hK => ?gs2) ?gr2
         case' gs2 =>
          delta olv6_14
          go_simp
          (refine (rup_any _ _ _ ⟨by omega, by omega⟩ (by omega)).mono ?_; rintro e W2 ⟨rfl, hw⟩; have hb : Below W1.heap.size W1 W2 := (by rw [← hw]; exact Below.refl _ _); clear hw); have hbz : Below W1.heap.size W1 W2 := (by first | exact hb | exact Below.trans (Below.drew (Below.refl _ _)) hb); clear hb; have HB2 := Lib.hid (HB1.out.trans (hbz.mono HB1.out.size)); clear hbz
          refine hK.out _ _ ?_ (fun hHeld => ?_)
          · (try dsimp only); (exact HS.out _ HB2.out)
          clear hK K
          try simp only [olv6_14, Act.put, List.setIfInBounds_toArray, List.set_cons_zero, List.set_cons_succ]
          refine wpAnyH_take (i := 17) (oi := olv6_17) (v := ?_) rfl (by kernel_rfl) (by kernel_rfl) (by kernel_rfl) (fun _ _ _ h => h) (Or.inl ⟨by rfl, ?_⟩) (by assumption) ?_
          rotate_left
          · ((intro w hSw; delta olv6_17; (try dsimp only at hSw); go_simp) <;> with_reducible rfl)
          try simp only [olv6_17, Act.put, List.setIfInBounds_toArray, List.set_cons_zero, List.set_cons_succ]
          refine wpAnyH_take (i := 18) (oi := olv6_18) (v := ?_) rfl (by kernel_rfl) (by kernel_rfl) (by kernel_rfl) (fun _ _ _ h => h) (Or.inl ⟨by rfl, ?_⟩) (by assumption) ?_
          rotate_left
          · ((intro w hSw; delta olv6_18; (try dsimp only at hSw); go_simp) <;> with_reducible rfl)
          try simp only [olv6_18, Act.put, List.setIfInBounds_toArray, List.set_cons_zero, List.set_cons_succ]
          refine wpAnyH_ready (rs := [19, 20]) (by kernel_rfl) (by simp) ?_
          refine AllReadyH.cons (o := olv6_19) rfl (fun K hK => ?gs3) ?gr3
          case' gs3 =>
           delta olv6_19
           go_simp
           (refine (rbounds_any _ _ _ ⟨by omega, by omega⟩ ⟨by omega, by omega⟩).mono ?_; rintro e W3 ⟨rfl, hb⟩; rw [HCB.out.1, HCB.out.2]); have hbz : Below W2.heap.size W2 W3 := (by first | exact hb | exact Below.trans (Below.drew (Below.refl _ _)) hb); clear hb; have HB3 := Lib.hid (HB2.out.trans (hbz.mono HB2.out.size)); clear hbz
           refine hK.out _ _ ?_ (fun hHeld => ?_)
           · (try dsimp only); (exact HS.out _ HB3.out)
           clear hK K
           try simp only [olv6_19, Act.put, List.setIfInBounds_toArray, List.set_cons_zero, List.set_cons_succ]
           refine wpAnyH_ready (rs := [20]) (by kernel_rfl) (by simp) ?_
           refine AllReadyH.cons (o := olv6_20) rfl (fun K hK => ?_) AllReadyH.nil
           delta olv6_20
           go_simp
           obtain ⟨W4, hV⟩ : ∃ V, W3.alloc (.cells #[.int .i64 0, .int .i64 0] 23) = V := ⟨_, rfl⟩; have hbz : Below W3.heap.size W3 W4 := (by rw [← hV]; exact (Below.refl _ _).alloc (Nat.le_refl _) _); have HB4 := Lib.hid (HB3.out.trans (hbz.mono HB3.out.size)); have Hb8_4 : Hid (Blk W4 W3.heap.size 23 #[.int .i64 0, .int .i64 0]) := (by rw [← hV]; exact Blk.new' _ _ _ rfl); obtain ⟨b8, hz⟩ : ∃ b, W3.heap.size = b := ⟨_, rfl⟩; rw [hz] at Hb8_4; have gb8 : W0.heap.size ≤ b8 := (by rw [← hz]; exact HB3.out.size); rw [hV, hz]; clear hV hbz hz
           refine hK.out _ _ ?_ (fun hHeld => ?_)
           · (try dsimp only); (exact HS.out _ HB4.out)
           clear hK K
           try simp only [olv6_20, Act.put, List.setIfInBounds_toArray, List.set_cons_zero, List.set_cons_succ]
          case' gr3 =>
           refine AllReadyH.cons (o := olv6_20) rfl (fun K hK => ?gs4) ?gr4
           case' gs4 =>
            delta olv6_20
            go_simp
            obtain ⟨W3, hV⟩ : ∃ V, W2.alloc (.cells #[.int .i64 0, .int .i64 0] 23) = V := ⟨_, rfl⟩; have hbz : Below W2.heap.size W2 W3 := (by rw [← hV]; exact (Below.refl _ _).alloc (Nat.le_refl _) _); have HB3 := Lib.hid (HB2.out.trans (hbz.mono HB2.out.size)); have Hb8_3 : Hid (Blk W3 W2.heap.size 23 #[.int .i64 0, .int .i64 0]) := (by rw [← hV]; exact Blk.new' _ _ _ rfl); obtain ⟨b8, hz⟩ : ∃ b, W2.heap.size = b := ⟨_, rfl⟩; rw [hz] at Hb8_3; have gb8 : W0.heap.size ≤ b8 := (by rw [← hz]; exact HB2.out.size); rw [hV, hz]; clear hV hbz hz
            refine hK.out _ _ ?_ (fun hHeld => ?_)
            · (try dsimp only); (exact HS.out _ HB3.out)
            clear hK K
            try simp only [olv6_20, Act.put, List.setIfInBounds_toArray, List.set_cons_zero, List.set_cons_succ]
            refine wpAnyH_ready (rs := [19]) (by kernel_rfl) (by simp) ?_
            refine AllReadyH.cons (o := olv6_19) rfl (fun K hK => ?_) AllReadyH.nil
            delta olv6_19
            go_simp
            (refine (rbounds_any _ _ _ ⟨by omega, by omega⟩ ⟨by omega, by omega⟩).mono ?_; rintro e W4 ⟨rfl, hb⟩; rw [HCB.out.1, HCB.out.2]); have hbz : Below W3.heap.size W3 W4 := (by first | exact hb | exact Below.trans (Below.drew (Below.refl _ _)) hb); clear hb; have HB4 := Lib.hid (HB3.out.trans (hbz.mono HB3.out.size)); have Hb8_4 := Lib.hid (Hb8_3.out.below hbz Hb8_3.out.lt); clear hbz
            refine hK.out _ _ ?_ (fun hHeld => ?_)
            · (try dsimp only); (exact HS.out _ HB4.out)
            clear hK K
            try simp only [olv6_19, Act.put, List.setIfInBounds_toArray, List.set_cons_zero, List.set_cons_succ]
           case' gr4 =>
            exact AllReadyH.nil
         case' gr2 =>
          refine AllReadyH.cons (o := olv6_20) rfl (fun K hK => ?gs5) ?gr5
          case' gs5 =>
           delta olv6_20
           go_simp
           obtain ⟨W2, hV⟩ : ∃ V, W1.alloc (.cells #[.int .i64 0, .int .i64 0] 23) = V := ⟨_, rfl⟩; have hbz : Below W1.heap.size W1 W2 := (by rw [← hV]; exact (Below.refl _ _).alloc (Nat.le_refl _) _); have HB2 := Lib.hid (HB1.out.trans (hbz.mono HB1.out.size)); have Hb8_2 : Hid (Blk W2 W1.heap.size 23 #[.int .i64 0, .int .i64 0]) := (by rw [← hV]; exact Blk.new' _ _ _ rfl); obtain ⟨b8, hz⟩ : ∃ b, W1.heap.size = b := ⟨_, rfl⟩; rw [hz] at Hb8_2; have gb8 : W0.heap.size ≤ b8 := (by rw [← hz]; exact HB1.out.size); rw [hV, hz]; clear hV hbz hz
           refine hK.out _ _ ?_ (fun hHeld => ?_)
           · (try dsimp only); (exact HS.out _ HB2.out)
           clear hK K
           try simp only [olv6_20, Act.put, List.setIfInBounds_toArray, List.set_cons_zero, List.set_cons_succ]
           refine wpAnyH_ready (rs := [14]) (by kernel_rfl) (by simp) ?_
           refine AllReadyH.cons (o := olv6_14) rfl (fun K hK => ?_) AllReadyH.nil
           delta olv6_14
           go_simp
           (refine (rup_any _ _ _ ⟨by omega, by omega⟩ (by omega)).mono ?_; rintro e W3 ⟨rfl, hw⟩; have hb : Below W2.heap.size W2 W3 := (by rw [← hw]; exact Below.refl _ _); clear hw); have hbz : Below W2.heap.size W2 W3 := (by first | exact hb | exact Below.trans (Below.drew (Below.refl _ _)) hb); clear hb; have HB3 := Lib.hid (HB2.out.trans (hbz.mono HB2.out.size)); have Hb8_3 := Lib.hid (Hb8_2.out.below hbz Hb8_2.out.lt); clear hbz
           refine hK.out _ _ ?_ (fun hHeld => ?_)
           · (try dsimp only); (exact HS.out _ HB3.out)
           clear hK K
           try simp only [olv6_14, Act.put, List.setIfInBounds_toArray, List.set_cons_zero, List.set_cons_succ]
           refine wpAnyH_take (i := 17) (oi := olv6_17) (v := ?_) rfl (by kernel_rfl) (by kernel_rfl) (by kernel_rfl) (fun _ _ _ h => h) (Or.inl ⟨by rfl, ?_⟩) (by assumption) ?_
           rotate_left
           · ((intro w hSw; delta olv6_17; (try dsimp only at hSw); go_simp) <;> with_reducible rfl)
           try simp only [olv6_17, Act.put, List.setIfInBounds_toArray, List.set_cons_zero, List.set_cons_succ]
           refine wpAnyH_take (i := 18) (oi := olv6_18) (v := ?_) rfl (by kernel_rfl) (by kernel_rfl) (by kernel_rfl) (fun _ _ _ h => h) (Or.inl ⟨by rfl, ?_⟩) (by assumption) ?_
           rotate_left
           · ((intro w hSw; delta olv6_18; (try dsimp only at hSw); go_simp) <;> with_reducible rfl)
           try simp only [olv6_18, Act.put, List.setIfInBounds_toArray, List.set_cons_zero, List.set_cons_succ]
           refine wpAnyH_ready (rs := [19]) (by kernel_rfl) (by simp) ?_
           refine AllReadyH.cons (o := olv6_19) rfl (fun K hK => ?_) AllReadyH.nil
           delta olv6_19
           go_simp
           (refine (rbounds_any _ _ _ ⟨by omega, by omega⟩ ⟨by omega, by omega⟩).mono ?_; rintro e W4 ⟨rfl, hb⟩; rw [HCB.out.1, HCB.out.2]); have hbz : Below W3.heap.size W3 W4 := (by first | exact hb | exact Below.trans (Below.drew (Below.refl _ _)) hb); clear hb; have HB4 := Lib.hid (HB3.out.trans (hbz.mono HB3.out.size)); have Hb8_4 := Lib.hid (Hb8_3.out.below hbz Hb8_3.out.lt); clear hbz
           refine hK.out _ _ ?_ (fun hHeld => ?_)
           · (try dsimp only); (exact HS.out _ HB4.out)
           clear hK K
           try simp only [olv6_19, Act.put, List.setIfInBounds_toArray, List.set_cons_zero, List.set_cons_succ]
          case' gr5 =>
           exact AllReadyH.nil
        case' gr1 =>
         refine AllReadyH.cons (o := olv6_20) rfl (fun K hK => ?gs6) ?gr6
         case' gs6 =>
          delta olv6_20
          go_simp
          obtain ⟨W1, hV⟩ : ∃ V, W0.alloc (.cells #[.int .i64 0, .int .i64 0] 23) = V := ⟨_, rfl⟩; have hbz : Below W0.heap.size W0 W1 := (by rw [← hV]; exact (Below.refl _ _).alloc (Nat.le_refl _) _); have HB1 := Lib.hid (HB0.out.trans (hbz.mono HB0.out.size)); have Hb8_1 : Hid (Blk W1 W0.heap.size 23 #[.int .i64 0, .int .i64 0]) := (by rw [← hV]; exact Blk.new' _ _ _ rfl); obtain ⟨b8, hz⟩ : ∃ b, W0.heap.size = b := ⟨_, rfl⟩; rw [hz] at Hb8_1; have gb8 : W0.heap.size ≤ b8 := (by rw [← hz]; exact HB0.out.size); rw [hV, hz]; clear hV hbz hz
          refine hK.out _ _ ?_ (fun hHeld => ?_)
          · (try dsimp only); (exact HS.out _ HB1.out)
          clear hK K
          try simp only [olv6_20, Act.put, List.setIfInBounds_toArray, List.set_cons_zero, List.set_cons_succ]
          refine wpAnyH_ready (rs := [5]) (by kernel_rfl) (by simp) ?_
          refine AllReadyH.cons (o := olv6_5) rfl (fun K hK => ?_) AllReadyH.nil
          delta olv6_5
          go_simp
          (refine (rdown_any _ _ _ ⟨by omega, by omega⟩ (by omega)).mono ?_; rintro e W2 ⟨rfl, hw⟩; have hb : Below W1.heap.size W1 W2 := (by rw [← hw]; exact Below.refl _ _); clear hw); have hbz : Below W1.heap.size W1 W2 := (by first | exact hb | exact Below.trans (Below.drew (Below.refl _ _)) hb); clear hb; have HB2 := Lib.hid (HB1.out.trans (hbz.mono HB1.out.size)); have Hb8_2 := Lib.hid (Hb8_1.out.below hbz Hb8_1.out.lt); clear hbz
          refine hK.out _ _ ?_ (fun hHeld => ?_)
          · (try dsimp only); (exact HS.out _ HB2.out)
          clear hK K
          try simp only [olv6_5, Act.put, List.setIfInBounds_toArray, List.set_cons_zero, List.set_cons_succ]
          refine wpAnyH_take (i := 8) (oi := olv6_8) (v := ?_) rfl (by kernel_rfl) (by kernel_rfl) (by kernel_rfl) (fun _ _ _ h => h) (Or.inl ⟨by rfl, ?_⟩) (by assumption) ?_
          rotate_left
          · ((intro w hSw; delta olv6_8; (try dsimp only at hSw); go_simp) <;> with_reducible rfl)
          try simp only [olv6_8, Act.put, List.setIfInBounds_toArray, List.set_cons_zero, List.set_cons_succ]
          refine wpAnyH_ready (rs := [14]) (by kernel_rfl) (by simp) ?_
          refine AllReadyH.cons (o := olv6_14) rfl (fun K hK => ?_) AllReadyH.nil
          delta olv6_14
          go_simp
          (refine (rup_any _ _ _ ⟨by omega, by omega⟩ (by omega)).mono ?_; rintro e W3 ⟨rfl, hw⟩; have hb : Below W2.heap.size W2 W3 := (by rw [← hw]; exact Below.refl _ _); clear hw); have hbz : Below W2.heap.size W2 W3 := (by first | exact hb | exact Below.trans (Below.drew (Below.refl _ _)) hb); clear hb; have HB3 := Lib.hid (HB2.out.trans (hbz.mono HB2.out.size)); have Hb8_3 := Lib.hid (Hb8_2.out.below hbz Hb8_2.out.lt); clear hbz
          refine hK.out _ _ ?_ (fun hHeld => ?_)
          · (try dsimp only); (exact HS.out _ HB3.out)
          clear hK K
          try simp only [olv6_14, Act.put, List.setIfInBounds_toArray, List.set_cons_zero, List.set_cons_succ]
          refine wpAnyH_take (i := 17) (oi := olv6_17) (v := ?_) rfl (by kernel_rfl) (by kernel_rfl) (by kernel_rfl) (fun _ _ _ h => h) (Or.inl ⟨by rfl, ?_⟩) (by assumption) ?_
          rotate_left
          · ((intro w hSw; delta olv6_17; (try dsimp only at hSw); go_simp) <;> with_reducible rfl)
          try simp only [olv6_17, Act.put, List.setIfInBounds_toArray, List.set_cons_zero, List.set_cons_succ]
          refine wpAnyH_take (i := 18) (oi := olv6_18) (v := ?_) rfl (by kernel_rfl) (by kernel_rfl) (by kernel_rfl) (fun _ _ _ h => h) (Or.inl ⟨by rfl, ?_⟩) (by assumption) ?_
          rotate_left
          · ((intro w hSw; delta olv6_18; (try dsimp only at hSw); go_simp) <;> with_reducible rfl)
          try simp only [olv6_18, Act.put, List.setIfInBounds_toArray, List.set_cons_zero, List.set_cons_succ]
          refine wpAnyH_ready (rs := [19]) (by kernel_rfl) (by simp) ?_
          refine AllReadyH.cons (o := olv6_19) rfl (fun K hK => ?_) AllReadyH.nil
          delta olv6_19
          go_simp
          (refine (rbounds_any _ _ _ ⟨by omega, by omega⟩ ⟨by omega, by omega⟩).mono ?_; rintro e W4 ⟨rfl, hb⟩; rw [HCB.out.1, HCB.out.2]); have hbz : Below W3.heap.size W3 W4 := (by first | exact hb | exact Below.trans (Below.drew (Below.refl _ _)) hb); clear hb; have HB4 := Lib.hid (HB3.out.trans (hbz.mono HB3.out.size)); have Hb8_4 := Lib.hid (Hb8_3.out.below hbz Hb8_3.out.lt); clear hbz
          refine hK.out _ _ ?_ (fun hHeld => ?_)
          · (try dsimp only); (exact HS.out _ HB4.out)
          clear hK K
          try simp only [olv6_19, Act.put, List.setIfInBounds_toArray, List.set_cons_zero, List.set_cons_succ]
         case' gr6 =>
          exact AllReadyH.nil
        all_goals
         as_aux_lemma =>
          have y0 := Hb8_4.out.cell 0; have y1 := Hb8_4.out.cell 1; have z0 := Hb8_4.out.frozen 0; have z1 := Hb8_4.out.frozen 1; simp only [List.getElem?_toArray, List.getElem?_cons_zero, List.getElem?_cons_succ] at y0 y1
          refine wpAnyH_ready (rs := [21]) (by kernel_rfl) (by simp) ?_
          refine AllReadyH.cons (o := olv6_21) rfl (fun K hK => ?_) AllReadyH.nil
          delta olv6_21
          go_simp
          refine hK.out _ _ ?_ (fun hHeld => ?_)
          · (try dsimp only); (refine HS.out _ ?_; (repeat (first | exact HB4.out | refine Below.setCell ?_ (by exact gb8) _)); done)
          clear hK K
          try simp only [olv6_21, Act.put, List.setIfInBounds_toArray, List.set_cons_zero, List.set_cons_succ]
          refine wpAnyH_done (by kernel_rfl) ?_ _
          refine NoPanic.normal ?_
          go_wp2_with fail
          go_meet
          exact (oneBox_set Hb8_4.out gb8 HB4.out).of HBV.out
      case rest =>
        obtain ⟨b8, rfl, k8, g8, hb8⟩ := hcut
        have n85 : ¬ b8 = b5 := by have := J5.out.lt; omega
        have n58 : ¬ b5 = b8 := fun e => n85 e.symm
        have I5 := Lib.hid (J5.out.below hb8 J5.out.lt)
        have I2 := Lib.hid (J2.out.below hb8 J2.out.lt)
        have I3 := Lib.hid (J3.out.below hb8 J3.out.lt)
        have I4 := Lib.hid (J4.out.below hb8 J4.out.lt)
        have I7 := Lib.hid (J7.out.below hb8 J7.out.lt)
        have I8 := Lib.hid k8
        have IB := Lib.hid (JB.out.trans (hb8.mono JB.out.size))
        clear J5 J2 J3 J4 J7 JB k8 g8 hb8 HSV q1 q2 q3 q4
        obtain ⟨V8, rfl⟩ : ∃ V, V = wc := ⟨_, rfl⟩
        obtain ⟨d0, d1, v0, v1⟩ := span_parts I5.out
        obtain ⟨e0, e1, -, -⟩ := span_parts I8.out
        have z7 := I7.out.cell 0
        simp only [List.getElem?_toArray, List.getElem?_cons_zero] at z7

        go_wp2
        go_roundw
        case rel => exact ⟨k + 1, S1 + m1, S2 + m2, by omega, by go_num, ⟨by rw [HN1.out, HS.out.1], by rw [HN2.out, HS.out.2]⟩, ⟨by omega, by omega, by omega, by omega⟩, (I5.out.set_ 0 _).set_ 1 _, (I2.out.far_ (p := ⟨b5, 0, none⟩) (by exact n25) _).far_ (p := ⟨b5, 1, none⟩) (by exact n25) _, (I3.out.far_ (p := ⟨b5, 0, none⟩) (by exact n35) _).far_ (p := ⟨b5, 1, none⟩) (by exact n35) _, (I4.out.far_ (p := ⟨b5, 0, none⟩) (by exact n45) _).far_ (p := ⟨b5, 1, none⟩) (by exact n45) _, (IB.out.setCell (by exact g5) _).setCell (by exact g5) _⟩
        case measure => simp [intOf]; omega
    · obtain rfl : k = ps.length := by omega
      have ht : ps.take ps.length = ps := List.take_length
      have HS2 : Hid (S1 = sumF (loP (lo, hi)) ps ∧ S2 = sumF (hiP (lo, hi)) ps) := by have h := HS.out; rw [ht] at h; exact h
      clear ht HS
      have HLL : Hid (mean + downZ S1 65536 = L1 ∧ mean + upZ S2 65536 = L2) := by rw [HS2.out.1, HS2.out.2]; exact HL.out
      have hd1 : -1048576000 ≤ downZ S1 65536 ∧ downZ S1 65536 ≤ 1048576000 := by unfold downZ; omega
      have hd2 : -1048576000 ≤ upZ S2 65536 ∧ upZ S2 65536 ≤ 1048576000 := by unfold upZ; omega
      have q1 : IntKind.i64.wrap (mean + downZ S1 65536) = L1 := by rw [← HLL.out.1]; exact IntWalk.i64_in _ (by omega)
      have q2 : IntKind.i64.wrap (mean + upZ S2 65536) = L2 := by rw [← HLL.out.2]; exact IntWalk.i64_in _ (by omega)
      have HSV : Hid (∀ W, Below wr.heap.size wr W → W.cell? ⟨w.heap.size, 0, none⟩ = some (.int .i64 mean) ∧ W.cell? ⟨b5, 0, none⟩ = some (.int .i64 S1) ∧ W.cell? ⟨b5, 1, none⟩ = some (.int .i64 S2)) := fun W hW => by
        have k2 := H2.out.below hW H2.out.lt
        have k5 := H5.out.below hW H5.out.lt
        exact ⟨k2.cell 0, k5.cell 0, k5.cell 1⟩
      have k0 := HSV.out _ (Below.drew (Below.refl wr.heap.size wr))
      go_upto_region 9 with (fail)
      clear y0 y1
      refine wp_region_noPanic ?_
      refine wp_region_held_drew (S := (fun w' => w'.cell? ⟨w.heap.size, 0, none⟩ = some (.int .i64 mean) ∧ w'.cell? ⟨b5, 0, none⟩ = some (.int .i64 S1) ∧ w'.cell? ⟨b5, 1, none⟩ = some (.int .i64 S2))) (by kernel_rfl) ?_ (fun hHeld => ?_)
      · (try dsimp only); (exact k0)
      refine wpAnyH_take (i := 0) (oi := olv9_0) (v := ?_) rfl (by kernel_rfl) (by kernel_rfl) (by kernel_rfl) (fun _ _ _ h => h) (Or.inl ⟨by rfl, ?_⟩) (by assumption) ?_
      rotate_left
      · ((intro w hSw; delta olv9_0; (try dsimp only at hSw); go_simp) <;> with_reducible rfl)
      try simp only [olv9_0, Act.put, List.setIfInBounds_toArray, List.set_cons_zero, List.set_cons_succ]
      refine wpAnyH_take (i := 1) (oi := olv9_1) (v := ?_) rfl (by kernel_rfl) (by kernel_rfl) (by kernel_rfl) (fun _ _ _ h => h) (Or.inl ⟨by rfl, ?_⟩) (by assumption) ?_
      rotate_left
      · ((intro w hSw; delta olv9_1; (try dsimp only at hSw); go_simp) <;> with_reducible rfl)
      try simp only [olv9_1, Act.put, List.setIfInBounds_toArray, List.set_cons_zero, List.set_cons_succ]
      refine wpAnyH_take (i := 2) (oi := olv9_2) (v := ?_) rfl (by kernel_rfl) (by kernel_rfl) (by kernel_rfl) (fun _ _ _ h => h) (Or.inl ⟨by rfl, ?_⟩) (by assumption) ?_
      rotate_left
      · ((intro w hSw; delta olv9_2; (try dsimp only at hSw); go_simp) <;> with_reducible rfl)
      try simp only [olv9_2, Act.put, List.setIfInBounds_toArray, List.set_cons_zero, List.set_cons_succ]
      refine wpAnyH_take (i := 3) (oi := olv9_3) (v := ?_) rfl (by kernel_rfl) (by kernel_rfl) (by kernel_rfl) (fun _ _ _ h => h) (Or.inl ⟨by rfl, ?_⟩) (by assumption) ?_
      rotate_left
      · ((intro w hSw; delta olv9_3; (try dsimp only at hSw); go_simp) <;> with_reducible rfl)
      try simp only [olv9_3, Act.put, List.setIfInBounds_toArray, List.set_cons_zero, List.set_cons_succ]
      refine wpAnyH_take (i := 6) (oi := olv9_6) (v := ?_) rfl (by kernel_rfl) (by kernel_rfl) (by kernel_rfl) (fun _ _ _ h => h) (Or.inl ⟨by rfl, ?_⟩) (by assumption) ?_
      rotate_left
      · ((intro w hSw; delta olv9_6; (try dsimp only at hSw); go_simp) <;> with_reducible rfl)
      try simp only [olv9_6, Act.put, List.setIfInBounds_toArray, List.set_cons_zero, List.set_cons_succ]
      refine wpAnyH_take (i := 7) (oi := olv9_7) (v := ?_) rfl (by kernel_rfl) (by kernel_rfl) (by kernel_rfl) (fun _ _ _ h => h) (Or.inl ⟨by rfl, ?_⟩) (by assumption) ?_
      rotate_left
      · ((intro w hSw; delta olv9_7; (try dsimp only at hSw); go_simp) <;> with_reducible rfl)
      try simp only [olv9_7, Act.put, List.setIfInBounds_toArray, List.set_cons_zero, List.set_cons_succ]
      refine wpAnyH_take (i := 8) (oi := olv9_8) (v := ?_) rfl (by kernel_rfl) (by kernel_rfl) (by kernel_rfl) (fun _ _ _ h => h) (Or.inl ⟨by rfl, ?_⟩) (by assumption) ?_
      rotate_left
      · ((intro w hSw; delta olv9_8; (try dsimp only at hSw); go_simp) <;> with_reducible rfl)
      try simp only [olv9_8, Act.put, List.setIfInBounds_toArray, List.set_cons_zero, List.set_cons_succ]
      refine wpAnyH_take (i := 9) (oi := olv9_9) (v := ?_) rfl (by kernel_rfl) (by kernel_rfl) (by kernel_rfl) (fun _ _ _ h => h) (Or.inl ⟨by rfl, ?_⟩) (by assumption) ?_
      rotate_left
      · ((intro w hSw; delta olv9_9; (try dsimp only at hSw); go_simp) <;> with_reducible rfl)
      try simp only [olv9_9, Act.put, List.setIfInBounds_toArray, List.set_cons_zero, List.set_cons_succ]
      obtain ⟨W0, hW0⟩ : ∃ V, wr.drew = V := ⟨_, rfl⟩; rw [hW0] at hHeld ⊢; have HB0 : Hid (Below wr.heap.size wr W0) := (by rw [← hW0]; exact Below.drew (Below.refl _ _)); clear hW0
      refine wpAnyH_ready (rs := [4]) (by kernel_rfl) (by simp) ?_
      refine AllReadyH.cons (o := olv9_4) rfl (fun K hK => ?_) AllReadyH.nil
      delta olv9_4
      go_simp
      (refine (rdown_any _ _ _ ⟨by omega, by omega⟩ (by omega)).mono ?_; rintro e W1 ⟨rfl, hw⟩; have HB1 : Hid (Below wr.heap.size wr W1) := (by rw [← hw]; exact HB0.out); clear hw)
      refine hK.out _ _ ?_ (fun hHeld => ?_)
      · (try dsimp only); (exact HSV.out _ HB1.out)
      clear hK K
      try simp only [olv9_4, Act.put, List.setIfInBounds_toArray, List.set_cons_zero, List.set_cons_succ]
      refine wpAnyH_take (i := 5) (oi := olv9_5) (v := ?_) rfl (by kernel_rfl) (by kernel_rfl) (by kernel_rfl) (fun _ _ _ h => h) (Or.inl ⟨by rfl, ?_⟩) (by assumption) ?_
      rotate_left
      · ((intro w hSw; delta olv9_5; (try dsimp only at hSw); go_simp) <;> with_reducible rfl)
      try simp only [olv9_5, Act.put, List.setIfInBounds_toArray, List.set_cons_zero, List.set_cons_succ]
      refine wpAnyH_ready (rs := [10]) (by kernel_rfl) (by simp) ?_
      refine AllReadyH.cons (o := olv9_10) rfl (fun K hK => ?_) AllReadyH.nil
      delta olv9_10
      go_simp
      (refine (rup_any _ _ _ ⟨by omega, by omega⟩ (by omega)).mono ?_; rintro e W2 ⟨rfl, hw⟩; have HB2 : Hid (Below wr.heap.size wr W2) := (by rw [← hw]; exact HB1.out); clear hw)
      refine hK.out _ _ ?_ (fun hHeld => ?_)
      · (try dsimp only); (exact HSV.out _ HB2.out)
      clear hK K
      try simp only [olv9_10, Act.put, List.setIfInBounds_toArray, List.set_cons_zero, List.set_cons_succ]
      refine wpAnyH_take (i := 11) (oi := olv9_11) (v := ?_) rfl (by kernel_rfl) (by kernel_rfl) (by kernel_rfl) (fun _ _ _ h => h) (Or.inl ⟨by rfl, ?_⟩) (by assumption) ?_
      rotate_left
      · ((intro w hSw; delta olv9_11; (try dsimp only at hSw); go_simp) <;> with_reducible rfl)
      try simp only [olv9_11, Act.put, List.setIfInBounds_toArray, List.set_cons_zero, List.set_cons_succ]
      refine wpAnyH_take (i := 12) (oi := olv9_12) (v := ?_) rfl (by kernel_rfl) (by kernel_rfl) (by kernel_rfl) (fun _ _ _ h => h) (Or.inl ⟨by rfl, ?_⟩) (by assumption) ?_
      rotate_left
      · ((intro w hSw; delta olv9_12; (try dsimp only at hSw); go_simp) <;> with_reducible rfl)
      try simp only [olv9_12, Act.put, List.setIfInBounds_toArray, List.set_cons_zero, List.set_cons_succ]
      have M4 := Lib.hid (H4.out.below HB2.out H4.out.lt); obtain ⟨u0, u1, v0, v1⟩ := span_parts M4.out
      refine wpAnyH_ready (rs := [13]) (by kernel_rfl) (by simp) ?_
      refine AllReadyH.cons (o := olv9_13) rfl (fun K hK => ?_) AllReadyH.nil
      delta olv9_13
      go_simp
      refine hK.out _ _ ?_ (fun hHeld => ?_)
      · (try dsimp only); (have k := (HSV.out _ HB2.out); exact ⟨(cell_far3 _ _ _ _ (by exact n42)).trans k.1, (cell_far3 _ _ _ _ (by exact n45)).trans k.2.1, (cell_far3 _ _ _ _ (by exact n45)).trans k.2.2⟩)
      clear hK K
      try simp only [olv9_13, Act.put, List.setIfInBounds_toArray, List.set_cons_zero, List.set_cons_succ]
      refine wpAnyH_done (by kernel_rfl) ?_ _
      refine NoPanic.normal ?_
      go_wp2
      have hR := fun x y => span_res2 M4.out x y
      refine bodyPost_ret (v := .agg #[.int .i64 L1, .int .i64 L2]) (by simp [results, Try.results44, go_sem, hR]) rfl ⟨rfl, ?_⟩
      exact ((HB.out.trans (HB2.out.mono HB.out.size)).setCell (by exact g4) _).setCell (by exact g4) _
end Go.Proofs.Ytfblpokjbopagaa
/-
  Layer 2, the reference: Level.
-/
namespace Go.Proofs.Ytfblpokjbopagaa
open Go.RowKit

def timesOk (t : Int × Int) : Prop := t.1 ≤ t.2 ∧ 0 ≤ t.1 ∧ t.2 ≤ 1000000000
def levE (m : Md) (t : Int × Int) : Int := if mdE m = 0 then (if t.1 ≤ t.2 ∧ 0 ≤ t.1 ∧ t.2 ≤ 1000000000 then 0 else 3) else mdE m
def levV (m : Md) (t : Int × Int) : Int × Int := if levE m t = 0 then levelZ m t else (0, 0)
set_option maxRecDepth 100000 in
set_option maxHeartbeats 2000000 in
theorem rLevel_any (x : Value) (m : Md) (lo hi : Int) (w : World) (hm : MdAt w w.heap.size x m) :
    Calls Try.prog 18 #[x, .agg #[.int .i64 lo, .int .i64 hi]] w fun e w' => e = .returned (.tuple #[.agg #[.int .i64 (levV m (lo, hi)).1, .int .i64 (levV m (lo, hi)).2], .int .i64 (levE m (lo, hi))]) ∧ Below w.heap.size w w' := by
  obtain ⟨v, rfl, hp⟩ := hm
  have HP := Lib.hid hp
  obtain ⟨A, c, rfl, hc, hlen⟩ := hp.open_
  clear hp
  obtain ⟨E, hE⟩ : ∃ E, mdE m = E := ⟨_, rfl⟩
  have HM := Lib.hid hE
  go_enter Try.func18, Try.ntmps18
  go_upto_region 1 with (fail)
  obtain ⟨V0, hV⟩ : ∃ V, ((w.alloc (.cells #[.int .i64 m.mean, .slice A m.ps.length c] 31)).alloc (.cells #[.int .i64 lo, .int .i64 hi] 23)).alloc (.cells #[.int .i64 0, .int .i64 0] 23) = V := ⟨_, rfl⟩
  have K1 : Hid (Blk V0 w.heap.size 31 #[.int .i64 m.mean, .slice A m.ps.length c]) := by rw [← hV]; exact ((Blk.new' _ _ _ rfl).alloc _).alloc _
  have K3 : Hid (Blk V0 (w.heap.size + 1) 23 #[.int .i64 lo, .int .i64 hi]) := by rw [← hV]; exact (Blk.new' _ _ _ (by simp)).alloc _
  have K2 : Hid (Blk V0 (w.heap.size + 1 + 1) 23 #[.int .i64 0, .int .i64 0]) := by rw [← hV]; exact Blk.new' _ _ _ (by simp)
  have KB : Hid (Below w.heap.size w V0) := by rw [← hV]; exact (by repeat (first | exact Below.refl _ _ | assumption | refine Below.drew ?_ | refine Below.drewN' ?_ _ | (refine Below.alloc ?_ (by simp <;> omega) _) | (refine Below.setCell ?_ (by simp <;> omega) _)))
  rw [hV]
  clear hV
  have y0 := K1.out.cell 0
  have y1 := K1.out.cell 1
  simp only [List.getElem?_toArray, List.getElem?_cons_zero, List.getElem?_cons_succ] at y0 y1
  go_wp2_with fail
  refine (rmCheck_any _ m _ ⟨_, rfl, HP.out.later KB.out (Nat.le_refl _)⟩).mono ?_
  rintro e w1 ⟨rfl, hb⟩
  rw [HM.out]
  have J1 := Lib.hid (K1.out.below hb K1.out.lt)
  have J2 := Lib.hid (K2.out.below hb K2.out.lt)
  have J3 := Lib.hid (K3.out.below hb K3.out.lt)
  have JB := Lib.hid (KB.out.trans (hb.mono KB.out.size))
  clear hb K1 K2 K3 KB y0 y1
  by_cases h0 : E = 0
  · subst h0
    obtain ⟨f0, f1, -, -⟩ := span_parts J3.out
    go_wp2_with fail
    refine (rwithin_any _ _ _ _ _).mono ?_
    rintro e w2 ⟨rfl, hb⟩
    have I1 := Lib.hid (J1.out.below hb J1.out.lt)
    have I2 := Lib.hid (J2.out.below hb J2.out.lt)
    have I3 := Lib.hid (J3.out.below hb J3.out.lt)
    have IB := Lib.hid (JB.out.trans (hb.mono JB.out.size))
    clear hb J1 J2 J3 JB f0 f1
    by_cases hok : lo ≤ hi ∧ 0 ≤ lo ∧ hi ≤ 1000000000
    · rw [decide_eq_true hok]
      have HV : Hid (levE m (lo, hi) = 0 ∧ levV m (lo, hi) = levelZ m (lo, hi)) := by
        have e1 : levE m (lo, hi) = 0 := by unfold levE; rw [if_pos hE]; exact if_pos hok
        exact ⟨e1, by unfold levV; rw [if_pos e1]⟩
      have y0 := I1.out.cell 0
      have y1 := I1.out.cell 1
      simp only [List.getElem?_toArray, List.getElem?_cons_zero, List.getElem?_cons_succ] at y0 y1
      obtain ⟨f0, f1, -, -⟩ := span_parts I3.out
      have HE0 := Lib.hid hE
      clear hE HM
      go_wp2_with fail
      refine (rlevel_any _ m lo hi _ ⟨_, rfl, HP.out.later IB.out (Nat.le_refl _)⟩ HE0.out ⟨hok.2.1, hok.1, hok.2.2⟩).mono ?_
      rintro e w3 ⟨rfl, hb⟩
      have M2 := Lib.hid (I2.out.below hb I2.out.lt)
      have MB := Lib.hid (IB.out.trans (hb.mono IB.out.size))
      clear hb I1 I2 I3 IB y0 y1 f0 f1
      obtain ⟨t0, t1, v0, v1⟩ := span_parts M2.out
      go_wp2
      have hR := fun x y => span_res2 M2.out x y
      refine bodyPost_ret (v := .tuple #[.agg #[.int .i64 (levelZ m (lo, hi)).1, .int .i64 (levelZ m (lo, hi)).2], .int .i64 0]) (by simp [results, Try.results18, go_sem, hR]) rfl ⟨by rw [HV.out.1, HV.out.2], ?_⟩
      have MBo := MB.out
      exact (by repeat (first | exact Below.refl _ _ | assumption | refine Below.drew ?_ | refine Below.drewN' ?_ _ | (refine Below.alloc ?_ (by simp <;> omega) _) | (refine Below.setCell ?_ (by simp <;> omega) _)))
    · rw [decide_eq_false hok]
      have HV : Hid (levE m (lo, hi) = 3 ∧ levV m (lo, hi) = (0, 0)) := by
        have e1 : levE m (lo, hi) = 3 := by unfold levE; rw [if_pos hE]; exact if_neg hok
        exact ⟨e1, by unfold levV; rw [if_neg (by omega)]⟩
      clear hE HM
      obtain ⟨t0, t1, v0, v1⟩ := span_parts I2.out
      go_wp2
      have hR := fun x y => span_res2 I2.out x y
      refine bodyPost_ret (v := .tuple #[.agg #[.int .i64 0, .int .i64 0], .int .i64 3]) (by simp [results, Try.results18, go_sem, hR]) rfl ⟨by rw [HV.out.1, HV.out.2], ?_⟩
      have IBo := IB.out
      exact (by repeat (first | exact Below.refl _ _ | assumption | refine Below.drew ?_ | refine Below.drewN' ?_ _ | (refine Below.alloc ?_ (by simp <;> omega) _) | (refine Below.setCell ?_ (by simp <;> omega) _)))
  · have HV : Hid (levE m (lo, hi) = E ∧ levV m (lo, hi) = (0, 0)) := by
      have e1 : levE m (lo, hi) = E := by unfold levE; rw [hE, if_neg h0]
      exact ⟨e1, by unfold levV; rw [if_neg (by omega)]⟩
    have h0' : (E == 0) = false := beq_eq_false_iff_ne.2 h0
    clear hE HM
    obtain ⟨t0, t1, v0, v1⟩ := span_parts J2.out
    go_wp2
    have hR := fun x y => span_res2 J2.out x y
    refine bodyPost_ret (v := .tuple #[.agg #[.int .i64 0, .int .i64 0], .int .i64 E]) (by simp [results, Try.results18, go_sem, hR]) rfl ⟨by rw [HV.out.1, HV.out.2], ?_⟩
    have JBo := JB.out
    exact (by repeat (first | exact Below.refl _ _ | assumption | refine Below.drew ?_ | refine Below.drewN' ?_ _ | (refine Below.alloc ?_ (by simp <;> omega) _) | (refine Below.setCell ?_ (by simp <;> omega) _)))
end Go.Proofs.Ytfblpokjbopagaa
