/-
  Layer 2, the reference: bounds, Cos.
-/
import Derived.Test.YtfblpokjbopagaaMF
set_option linter.unusedSimpArgs false
set_option linter.unusedVariables false
namespace Go.Proofs.Ytfblpokjbopagaa
open Go.RowKit

def obd1_0 : Oper := { dst := some 6, op := Op.fieldAddr 23 (Operand.tmp 1) 0, type := 0, pos := "ref.go:103", after := #[], guard := none }
def obd1_1 : Oper := { dst := some 7, op := Op.load 3 (Operand.tmp 6), type := 3, pos := "ref.go:103", after := #[{ on := 0, ground := Ground.data }], guard := none }
def obd1_2 : Oper := { dst := some 8, op := Op.call { callee := Callee.value (Operand.func 53), args := #[Operand.tmp 7], argTypes := #[3] }, type := 23, pos := "ref.go:103", after := #[{ on := 1, ground := Ground.data }], guard := none }
def obd1_3 : Oper := { dst := some 9, op := Op.fieldAddr 23 (Operand.tmp 1) 1, type := 0, pos := "ref.go:103", after := #[], guard := none }
def obd1_4 : Oper := { dst := some 10, op := Op.load 3 (Operand.tmp 9), type := 3, pos := "ref.go:103", after := #[{ on := 3, ground := Ground.data }], guard := none }
def obd1_5 : Oper := { dst := some 11, op := Op.call { callee := Callee.value (Operand.func 53), args := #[Operand.tmp 10], argTypes := #[3] }, type := 23, pos := "ref.go:103", after := #[{ on := 4, ground := Ground.data }, { on := 2, ground := Ground.chain }], guard := none }
def obd1_6 : Oper := { dst := some 3, op := Op.alloc 23, type := 0, pos := "ref.go:103", after := #[], guard := none }
def obd1_7 : Oper := { dst := some 4, op := Op.alloc 23, type := 0, pos := "ref.go:103", after := #[], guard := none }
def obd1_8 : Oper := { dst := none, op := Op.store 23 (Operand.tmp 3) (Operand.tmp 8), type := 0, pos := "ref.go:103", after := #[{ on := 6, ground := Ground.data }, { on := 2, ground := Ground.data }, { on := 5, ground := Ground.chain }, { on := 0, ground := Ground.phase }, { on := 1, ground := Ground.phase }, { on := 2, ground := Ground.phase }, { on := 3, ground := Ground.textOnly Departure.lateStores }, { on := 4, ground := Ground.textOnly Departure.lateStores }, { on := 5, ground := Ground.textOnly Departure.lateStoresUnsure }, { on := 6, ground := Ground.phase }, { on := 7, ground := Ground.phase }], guard := none }
def obd1_9 : Oper := { dst := none, op := Op.store 23 (Operand.tmp 4) (Operand.tmp 11), type := 0, pos := "ref.go:103", after := #[{ on := 7, ground := Ground.data }, { on := 5, ground := Ground.data }, { on := 8, ground := Ground.chain }, { on := 0, ground := Ground.phase }, { on := 1, ground := Ground.phase }, { on := 2, ground := Ground.phase }, { on := 3, ground := Ground.phase }, { on := 4, ground := Ground.phase }, { on := 5, ground := Ground.phase }, { on := 6, ground := Ground.phase }, { on := 7, ground := Ground.phase }, { on := 8, ground := Ground.phase }], guard := none }

/-- Cos -/
def cosOk (a : Int × Int) : Prop := a.1 ≤ a.2 ∧ -1099511627776 ≤ a.1 ∧ a.2 ≤ 1099511627776
def cosE (a : Int × Int) : Int := if a.1 ≤ a.2 ∧ -1099511627776 ≤ a.1 ∧ a.2 ≤ 1099511627776 then 0 else 3
def cosV (a : Int × Int) : Int × Int := if a.1 ≤ a.2 ∧ -1099511627776 ≤ a.1 ∧ a.2 ≤ 1099511627776 then boundsZ a else (0, 0)
set_option maxRecDepth 100000 in
set_option maxHeartbeats 4000000 in
theorem rbounds_any (lo hi : Int) (w : World) (h1 : -4398046500000 ≤ lo ∧ lo ≤ 4398046500000) (h2 : -4398046500000 ≤ hi ∧ hi ≤ 4398046500000) :
    Calls Try.prog 39 #[.agg #[.int .i64 lo, .int .i64 hi]] w fun e w' => e = .returned (.agg #[.int .i64 (boundsZ (lo, hi)).1, .int .i64 (boundsZ (lo, hi)).2]) ∧ Below w.heap.size w w' := by
  go_enter Try.func39, Try.ntmps39
  go_upto_region 1 with (fail)
  obtain ⟨V0, hV0⟩ : ∃ V, (w.alloc (.cells #[.int .i64 lo, .int .i64 hi] 23)).alloc (.cells #[.int .i64 0, .int .i64 0] 23) = V := ⟨_, rfl⟩
  have K1 : Hid (Blk V0 w.heap.size 23 #[.int .i64 lo, .int .i64 hi]) := by rw [← hV0]; exact (Blk.new' _ _ _ rfl).alloc _
  have K2 : Hid (Blk V0 (w.heap.size + 1) 23 #[.int .i64 0, .int .i64 0]) := by rw [← hV0]; exact Blk.new' _ _ _ (by simp)
  have KB : Hid (Below w.heap.size w V0) := by rw [← hV0]; exact (by repeat (first | exact Below.refl _ _ | assumption | refine Below.drew ?_ | refine Below.drewN' ?_ _ | (refine Below.alloc ?_ (by simp <;> omega) _) | (refine Below.setCell ?_ (by simp <;> omega) _)))
  rw [hV0]
  clear hV0
  go_cut [3, 4] from 6 to 12 (fun p q wx => TwoBox V0 23 (pointZ lo) (pointZ hi) p q wx)
  case first =>
    have k0 : V0.drew.cell? ⟨w.heap.size, 0, none⟩ = some (.int .i64 lo) := K1.out.cell 0
    have k1 : V0.drew.cell? ⟨w.heap.size, 1, none⟩ = some (.int .i64 hi) := K1.out.cell 1
    refine wp_region_noPanic ?_
    refine wp_region_held_drew (S := (fun w' => w'.cell? ⟨w.heap.size, 0, none⟩ = some (.int .i64 lo) ∧ w'.cell? ⟨w.heap.size, 1, none⟩ = some (.int .i64 hi))) (by kernel_rfl) ?_ (fun hHeld => ?_)
    · (try dsimp only); (exact ⟨k0, k1⟩)
    refine wpAnyH_take (i := 0) (oi := obd1_0) (v := ?_) rfl (by kernel_rfl) (by kernel_rfl) (by kernel_rfl) (fun _ _ _ h => h) (Or.inl ⟨by rfl, ?_⟩) (by assumption) ?_
    rotate_left
    · ((intro w hSw; delta obd1_0; (try dsimp only at hSw); go_simp) <;> with_reducible rfl)
    try simp only [obd1_0, Act.put, List.setIfInBounds_toArray, List.set_cons_zero, List.set_cons_succ]
    refine wpAnyH_take (i := 1) (oi := obd1_1) (v := ?_) rfl (by kernel_rfl) (by kernel_rfl) (by kernel_rfl) (fun _ _ _ h => h) (Or.inl ⟨by rfl, ?_⟩) (by assumption) ?_
    rotate_left
    · ((intro w hSw; delta obd1_1; (try dsimp only at hSw); go_simp) <;> with_reducible rfl)
    try simp only [obd1_1, Act.put, List.setIfInBounds_toArray, List.set_cons_zero, List.set_cons_succ]
    refine wpAnyH_take (i := 3) (oi := obd1_3) (v := ?_) rfl (by kernel_rfl) (by kernel_rfl) (by kernel_rfl) (fun _ _ _ h => h) (Or.inl ⟨by rfl, ?_⟩) (by assumption) ?_
    rotate_left
    · ((intro w hSw; delta obd1_3; (try dsimp only at hSw); go_simp) <;> with_reducible rfl)
    try simp only [obd1_3, Act.put, List.setIfInBounds_toArray, List.set_cons_zero, List.set_cons_succ]
    refine wpAnyH_take (i := 4) (oi := obd1_4) (v := ?_) rfl (by kernel_rfl) (by kernel_rfl) (by kernel_rfl) (fun _ _ _ h => h) (Or.inl ⟨by rfl, ?_⟩) (by assumption) ?_
    rotate_left
    · ((intro w hSw; delta obd1_4; (try dsimp only at hSw); go_simp) <;> with_reducible rfl)
    try simp only [obd1_4, Act.put, List.setIfInBounds_toArray, List.set_cons_zero, List.set_cons_succ]
    obtain ⟨W0, hW0⟩ : ∃ V, V0.drew = V := ⟨_, rfl⟩; rw [hW0] at hHeld ⊢; have HBV : Hid (Below V0.heap.size V0 W0) := (by rw [← hW0]; exact Below.drew (Below.refl _ _)); have HS : Hid (∀ W, Below W0.heap.size W0 W → W.cell? ⟨w.heap.size, 0, none⟩ = some (.int .i64 lo) ∧ W.cell? ⟨w.heap.size, 1, none⟩ = some (.int .i64 hi)) := (fun W hW => by have b := (K1.out.below HBV.out K1.out.lt); have c := b.below hW b.lt; exact ⟨c.cell 0, c.cell 1⟩); have HB0 := Lib.hid (Below.refl W0.heap.size W0); clear hW0
    refine wpAnyH_ready (rs := [2, 6, 7]) (by kernel_rfl) (by simp) ?_
    refine AllReadyH.cons (o := obd1_2) rfl (fun K hK => ?gs1) ?gr1
    case' gs1 =>
     delta obd1_2
     go_simp
     (refine (rpoint_any _ _ ⟨by omega, by omega⟩).mono ?_; rintro e W1 ⟨rfl, hb⟩); have hbz : Below W0.heap.size W0 W1 := (by first | exact hb | exact Below.trans (Below.drew (Below.refl _ _)) hb); clear hb; have HB1 := Lib.hid (HB0.out.trans (hbz.mono HB0.out.size)); clear hbz
     refine hK.out _ _ ?_ (fun hHeld => ?_)
     · (try dsimp only); (exact HS.out _ HB1.out)
     clear hK K
     try simp only [obd1_2, Act.put, List.setIfInBounds_toArray, List.set_cons_zero, List.set_cons_succ]
     refine wpAnyH_ready (rs := [5, 6, 7]) (by kernel_rfl) (by simp) ?_
     refine AllReadyH.cons (o := obd1_5) rfl (fun K hK => ?gs2) ?gr2
     case' gs2 =>
      delta obd1_5
      go_simp
      (refine (rpoint_any _ _ ⟨by omega, by omega⟩).mono ?_; rintro e W2 ⟨rfl, hb⟩); have hbz : Below W1.heap.size W1 W2 := (by first | exact hb | exact Below.trans (Below.drew (Below.refl _ _)) hb); clear hb; have HB2 := Lib.hid (HB1.out.trans (hbz.mono HB1.out.size)); clear hbz
      refine hK.out _ _ ?_ (fun hHeld => ?_)
      · (try dsimp only); (exact HS.out _ HB2.out)
      clear hK K
      try simp only [obd1_5, Act.put, List.setIfInBounds_toArray, List.set_cons_zero, List.set_cons_succ]
      refine wpAnyH_ready (rs := [6, 7]) (by kernel_rfl) (by simp) ?_
      refine AllReadyH.cons (o := obd1_6) rfl (fun K hK => ?gs3) ?gr3
      case' gs3 =>
       delta obd1_6
       go_simp
       obtain ⟨W3, hV⟩ : ∃ V, W2.alloc (.cells #[.int .i64 0, .int .i64 0] 23) = V := ⟨_, rfl⟩; have hbz : Below W2.heap.size W2 W3 := (by rw [← hV]; exact (Below.refl _ _).alloc (Nat.le_refl _) _); have HB3 := Lib.hid (HB2.out.trans (hbz.mono HB2.out.size)); have Hb3_3 : Hid (Blk W3 W2.heap.size 23 #[.int .i64 0, .int .i64 0]) := (by rw [← hV]; exact Blk.new' _ _ _ rfl); obtain ⟨b3, hz⟩ : ∃ b, W2.heap.size = b := ⟨_, rfl⟩; rw [hz] at Hb3_3; have gb3 : W0.heap.size ≤ b3 := (by rw [← hz]; exact HB2.out.size); rw [hV, hz]; clear hV hbz hz
       refine hK.out _ _ ?_ (fun hHeld => ?_)
       · (try dsimp only); (exact HS.out _ HB3.out)
       clear hK K
       try simp only [obd1_6, Act.put, List.setIfInBounds_toArray, List.set_cons_zero, List.set_cons_succ]
       refine wpAnyH_ready (rs := [7]) (by kernel_rfl) (by simp) ?_
       refine AllReadyH.cons (o := obd1_7) rfl (fun K hK => ?_) AllReadyH.nil
       delta obd1_7
       go_simp
       obtain ⟨W4, hV⟩ : ∃ V, W3.alloc (.cells #[.int .i64 0, .int .i64 0] 23) = V := ⟨_, rfl⟩; have hbz : Below W3.heap.size W3 W4 := (by rw [← hV]; exact (Below.refl _ _).alloc (Nat.le_refl _) _); have HB4 := Lib.hid (HB3.out.trans (hbz.mono HB3.out.size)); have Hb4_4 : Hid (Blk W4 W3.heap.size 23 #[.int .i64 0, .int .i64 0]) := (by rw [← hV]; exact Blk.new' _ _ _ rfl); obtain ⟨b4, hz⟩ : ∃ b, W3.heap.size = b := ⟨_, rfl⟩; rw [hz] at Hb4_4; have gb4 : W0.heap.size ≤ b4 := (by rw [← hz]; exact HB3.out.size); have Hb3_4 := Lib.hid (Hb3_3.out.below hbz Hb3_3.out.lt); have nb4b3 : ¬ b4 = b3 := (fun e => by have := Hb3_3.out.lt; omega); have nb3b4 : ¬ b3 = b4 := (fun e => nb4b3 e.symm); rw [hV, hz]; clear hV hbz hz
       refine hK.out _ _ ?_ (fun hHeld => ?_)
       · (try dsimp only); (exact HS.out _ HB4.out)
       clear hK K
       try simp only [obd1_7, Act.put, List.setIfInBounds_toArray, List.set_cons_zero, List.set_cons_succ]
      case' gr3 =>
       refine AllReadyH.cons (o := obd1_7) rfl (fun K hK => ?gs4) ?gr4
       case' gs4 =>
        delta obd1_7
        go_simp
        obtain ⟨W3, hV⟩ : ∃ V, W2.alloc (.cells #[.int .i64 0, .int .i64 0] 23) = V := ⟨_, rfl⟩; have hbz : Below W2.heap.size W2 W3 := (by rw [← hV]; exact (Below.refl _ _).alloc (Nat.le_refl _) _); have HB3 := Lib.hid (HB2.out.trans (hbz.mono HB2.out.size)); have Hb4_3 : Hid (Blk W3 W2.heap.size 23 #[.int .i64 0, .int .i64 0]) := (by rw [← hV]; exact Blk.new' _ _ _ rfl); obtain ⟨b4, hz⟩ : ∃ b, W2.heap.size = b := ⟨_, rfl⟩; rw [hz] at Hb4_3; have gb4 : W0.heap.size ≤ b4 := (by rw [← hz]; exact HB2.out.size); rw [hV, hz]; clear hV hbz hz
        refine hK.out _ _ ?_ (fun hHeld => ?_)
        · (try dsimp only); (exact HS.out _ HB3.out)
        clear hK K
        try simp only [obd1_7, Act.put, List.setIfInBounds_toArray, List.set_cons_zero, List.set_cons_succ]
        refine wpAnyH_ready (rs := [6]) (by kernel_rfl) (by simp) ?_
        refine AllReadyH.cons (o := obd1_6) rfl (fun K hK => ?_) AllReadyH.nil
        delta obd1_6
        go_simp
        obtain ⟨W4, hV⟩ : ∃ V, W3.alloc (.cells #[.int .i64 0, .int .i64 0] 23) = V := ⟨_, rfl⟩; have hbz : Below W3.heap.size W3 W4 := (by rw [← hV]; exact (Below.refl _ _).alloc (Nat.le_refl _) _); have HB4 := Lib.hid (HB3.out.trans (hbz.mono HB3.out.size)); have Hb3_4 : Hid (Blk W4 W3.heap.size 23 #[.int .i64 0, .int .i64 0]) := (by rw [← hV]; exact Blk.new' _ _ _ rfl); obtain ⟨b3, hz⟩ : ∃ b, W3.heap.size = b := ⟨_, rfl⟩; rw [hz] at Hb3_4; have gb3 : W0.heap.size ≤ b3 := (by rw [← hz]; exact HB3.out.size); have Hb4_4 := Lib.hid (Hb4_3.out.below hbz Hb4_3.out.lt); have nb3b4 : ¬ b3 = b4 := (fun e => by have := Hb4_3.out.lt; omega); have nb4b3 : ¬ b4 = b3 := (fun e => nb3b4 e.symm); rw [hV, hz]; clear hV hbz hz
        refine hK.out _ _ ?_ (fun hHeld => ?_)
        · (try dsimp only); (exact HS.out _ HB4.out)
        clear hK K
        try simp only [obd1_6, Act.put, List.setIfInBounds_toArray, List.set_cons_zero, List.set_cons_succ]
       case' gr4 =>
        exact AllReadyH.nil
     case' gr2 =>
      refine AllReadyH.cons (o := obd1_6) rfl (fun K hK => ?gs5) ?gr5
      case' gs5 =>
       delta obd1_6
       go_simp
       obtain ⟨W2, hV⟩ : ∃ V, W1.alloc (.cells #[.int .i64 0, .int .i64 0] 23) = V := ⟨_, rfl⟩; have hbz : Below W1.heap.size W1 W2 := (by rw [← hV]; exact (Below.refl _ _).alloc (Nat.le_refl _) _); have HB2 := Lib.hid (HB1.out.trans (hbz.mono HB1.out.size)); have Hb3_2 : Hid (Blk W2 W1.heap.size 23 #[.int .i64 0, .int .i64 0]) := (by rw [← hV]; exact Blk.new' _ _ _ rfl); obtain ⟨b3, hz⟩ : ∃ b, W1.heap.size = b := ⟨_, rfl⟩; rw [hz] at Hb3_2; have gb3 : W0.heap.size ≤ b3 := (by rw [← hz]; exact HB1.out.size); rw [hV, hz]; clear hV hbz hz
       refine hK.out _ _ ?_ (fun hHeld => ?_)
       · (try dsimp only); (exact HS.out _ HB2.out)
       clear hK K
       try simp only [obd1_6, Act.put, List.setIfInBounds_toArray, List.set_cons_zero, List.set_cons_succ]
       refine wpAnyH_ready (rs := [5, 7]) (by kernel_rfl) (by simp) ?_
       refine AllReadyH.cons (o := obd1_5) rfl (fun K hK => ?gs6) ?gr6
       case' gs6 =>
        delta obd1_5
        go_simp
        (refine (rpoint_any _ _ ⟨by omega, by omega⟩).mono ?_; rintro e W3 ⟨rfl, hb⟩); have hbz : Below W2.heap.size W2 W3 := (by first | exact hb | exact Below.trans (Below.drew (Below.refl _ _)) hb); clear hb; have HB3 := Lib.hid (HB2.out.trans (hbz.mono HB2.out.size)); have Hb3_3 := Lib.hid (Hb3_2.out.below hbz Hb3_2.out.lt); clear hbz
        refine hK.out _ _ ?_ (fun hHeld => ?_)
        · (try dsimp only); (exact HS.out _ HB3.out)
        clear hK K
        try simp only [obd1_5, Act.put, List.setIfInBounds_toArray, List.set_cons_zero, List.set_cons_succ]
        refine wpAnyH_ready (rs := [7]) (by kernel_rfl) (by simp) ?_
        refine AllReadyH.cons (o := obd1_7) rfl (fun K hK => ?_) AllReadyH.nil
        delta obd1_7
        go_simp
        obtain ⟨W4, hV⟩ : ∃ V, W3.alloc (.cells #[.int .i64 0, .int .i64 0] 23) = V := ⟨_, rfl⟩; have hbz : Below W3.heap.size W3 W4 := (by rw [← hV]; exact (Below.refl _ _).alloc (Nat.le_refl _) _); have HB4 := Lib.hid (HB3.out.trans (hbz.mono HB3.out.size)); have Hb4_4 : Hid (Blk W4 W3.heap.size 23 #[.int .i64 0, .int .i64 0]) := (by rw [← hV]; exact Blk.new' _ _ _ rfl); obtain ⟨b4, hz⟩ : ∃ b, W3.heap.size = b := ⟨_, rfl⟩; rw [hz] at Hb4_4; have gb4 : W0.heap.size ≤ b4 := (by rw [← hz]; exact HB3.out.size); have Hb3_4 := Lib.hid (Hb3_3.out.below hbz Hb3_3.out.lt); have nb4b3 : ¬ b4 = b3 := (fun e => by have := Hb3_3.out.lt; omega); have nb3b4 : ¬ b3 = b4 := (fun e => nb4b3 e.symm); rw [hV, hz]; clear hV hbz hz
        refine hK.out _ _ ?_ (fun hHeld => ?_)
        · (try dsimp only); (exact HS.out _ HB4.out)
        clear hK K
        try simp only [obd1_7, Act.put, List.setIfInBounds_toArray, List.set_cons_zero, List.set_cons_succ]
       case' gr6 =>
        refine AllReadyH.cons (o := obd1_7) rfl (fun K hK => ?gs7) ?gr7
        case' gs7 =>
         delta obd1_7
         go_simp
         obtain ⟨W3, hV⟩ : ∃ V, W2.alloc (.cells #[.int .i64 0, .int .i64 0] 23) = V := ⟨_, rfl⟩; have hbz : Below W2.heap.size W2 W3 := (by rw [← hV]; exact (Below.refl _ _).alloc (Nat.le_refl _) _); have HB3 := Lib.hid (HB2.out.trans (hbz.mono HB2.out.size)); have Hb4_3 : Hid (Blk W3 W2.heap.size 23 #[.int .i64 0, .int .i64 0]) := (by rw [← hV]; exact Blk.new' _ _ _ rfl); obtain ⟨b4, hz⟩ : ∃ b, W2.heap.size = b := ⟨_, rfl⟩; rw [hz] at Hb4_3; have gb4 : W0.heap.size ≤ b4 := (by rw [← hz]; exact HB2.out.size); have Hb3_3 := Lib.hid (Hb3_2.out.below hbz Hb3_2.out.lt); have nb4b3 : ¬ b4 = b3 := (fun e => by have := Hb3_2.out.lt; omega); have nb3b4 : ¬ b3 = b4 := (fun e => nb4b3 e.symm); rw [hV, hz]; clear hV hbz hz
         refine hK.out _ _ ?_ (fun hHeld => ?_)
         · (try dsimp only); (exact HS.out _ HB3.out)
         clear hK K
         try simp only [obd1_7, Act.put, List.setIfInBounds_toArray, List.set_cons_zero, List.set_cons_succ]
         refine wpAnyH_ready (rs := [5]) (by kernel_rfl) (by simp) ?_
         refine AllReadyH.cons (o := obd1_5) rfl (fun K hK => ?_) AllReadyH.nil
         delta obd1_5
         go_simp
         (refine (rpoint_any _ _ ⟨by omega, by omega⟩).mono ?_; rintro e W4 ⟨rfl, hb⟩); have hbz : Below W3.heap.size W3 W4 := (by first | exact hb | exact Below.trans (Below.drew (Below.refl _ _)) hb); clear hb; have HB4 := Lib.hid (HB3.out.trans (hbz.mono HB3.out.size)); have Hb3_4 := Lib.hid (Hb3_3.out.below hbz Hb3_3.out.lt); have Hb4_4 := Lib.hid (Hb4_3.out.below hbz Hb4_3.out.lt); clear hbz
         refine hK.out _ _ ?_ (fun hHeld => ?_)
         · (try dsimp only); (exact HS.out _ HB4.out)
         clear hK K
         try simp only [obd1_5, Act.put, List.setIfInBounds_toArray, List.set_cons_zero, List.set_cons_succ]
        case' gr7 =>
         exact AllReadyH.nil
      case' gr5 =>
       refine AllReadyH.cons (o := obd1_7) rfl (fun K hK => ?gs8) ?gr8
       case' gs8 =>
        delta obd1_7
        go_simp
        obtain ⟨W2, hV⟩ : ∃ V, W1.alloc (.cells #[.int .i64 0, .int .i64 0] 23) = V := ⟨_, rfl⟩; have hbz : Below W1.heap.size W1 W2 := (by rw [← hV]; exact (Below.refl _ _).alloc (Nat.le_refl _) _); have HB2 := Lib.hid (HB1.out.trans (hbz.mono HB1.out.size)); have Hb4_2 : Hid (Blk W2 W1.heap.size 23 #[.int .i64 0, .int .i64 0]) := (by rw [← hV]; exact Blk.new' _ _ _ rfl); obtain ⟨b4, hz⟩ : ∃ b, W1.heap.size = b := ⟨_, rfl⟩; rw [hz] at Hb4_2; have gb4 : W0.heap.size ≤ b4 := (by rw [← hz]; exact HB1.out.size); rw [hV, hz]; clear hV hbz hz
        refine hK.out _ _ ?_ (fun hHeld => ?_)
        · (try dsimp only); (exact HS.out _ HB2.out)
        clear hK K
        try simp only [obd1_7, Act.put, List.setIfInBounds_toArray, List.set_cons_zero, List.set_cons_succ]
        refine wpAnyH_ready (rs := [5, 6]) (by kernel_rfl) (by simp) ?_
        refine AllReadyH.cons (o := obd1_5) rfl (fun K hK => ?gs9) ?gr9
        case' gs9 =>
         delta obd1_5
         go_simp
         (refine (rpoint_any _ _ ⟨by omega, by omega⟩).mono ?_; rintro e W3 ⟨rfl, hb⟩); have hbz : Below W2.heap.size W2 W3 := (by first | exact hb | exact Below.trans (Below.drew (Below.refl _ _)) hb); clear hb; have HB3 := Lib.hid (HB2.out.trans (hbz.mono HB2.out.size)); have Hb4_3 := Lib.hid (Hb4_2.out.below hbz Hb4_2.out.lt); clear hbz
         refine hK.out _ _ ?_ (fun hHeld => ?_)
         · (try dsimp only); (exact HS.out _ HB3.out)
         clear hK K
         try simp only [obd1_5, Act.put, List.setIfInBounds_toArray, List.set_cons_zero, List.set_cons_succ]
         refine wpAnyH_ready (rs := [6]) (by kernel_rfl) (by simp) ?_
         refine AllReadyH.cons (o := obd1_6) rfl (fun K hK => ?_) AllReadyH.nil
         delta obd1_6
         go_simp
         obtain ⟨W4, hV⟩ : ∃ V, W3.alloc (.cells #[.int .i64 0, .int .i64 0] 23) = V := ⟨_, rfl⟩; have hbz : Below W3.heap.size W3 W4 := (by rw [← hV]; exact (Below.refl _ _).alloc (Nat.le_refl _) _); have HB4 := Lib.hid (HB3.out.trans (hbz.mono HB3.out.size)); have Hb3_4 : Hid (Blk W4 W3.heap.size 23 #[.int .i64 0, .int .i64 0]) := (by rw [← hV]; exact Blk.new' _ _ _ rfl); obtain ⟨b3, hz⟩ : ∃ b, W3.heap.size = b := ⟨_, rfl⟩; rw [hz] at Hb3_4; have gb3 : W0.heap.size ≤ b3 := (by rw [← hz]; exact HB3.out.size); have Hb4_4 := Lib.hid (Hb4_3.out.below hbz Hb4_3.out.lt); have nb3b4 : ¬ b3 = b4 := (fun e => by have := Hb4_3.out.lt; omega); have nb4b3 : ¬ b4 = b3 := (fun e => nb3b4 e.symm); rw [hV, hz]; clear hV hbz hz
         refine hK.out _ _ ?_ (fun hHeld => ?_)
         · (try dsimp only); (exact HS.out _ HB4.out)
         clear hK K
         try simp only [obd1_6, Act.put, List.setIfInBounds_toArray, List.set_cons_zero, List.set_cons_succ]
        case' gr9 =>
         refine AllReadyH.cons (o := obd1_6) rfl (fun K hK => ?gs10) ?gr10
         case' gs10 =>
          delta obd1_6
          go_simp
          obtain ⟨W3, hV⟩ : ∃ V, W2.alloc (.cells #[.int .i64 0, .int .i64 0] 23) = V := ⟨_, rfl⟩; have hbz : Below W2.heap.size W2 W3 := (by rw [← hV]; exact (Below.refl _ _).alloc (Nat.le_refl _) _); have HB3 := Lib.hid (HB2.out.trans (hbz.mono HB2.out.size)); have Hb3_3 : Hid (Blk W3 W2.heap.size 23 #[.int .i64 0, .int .i64 0]) := (by rw [← hV]; exact Blk.new' _ _ _ rfl); obtain ⟨b3, hz⟩ : ∃ b, W2.heap.size = b := ⟨_, rfl⟩; rw [hz] at Hb3_3; have gb3 : W0.heap.size ≤ b3 := (by rw [← hz]; exact HB2.out.size); have Hb4_3 := Lib.hid (Hb4_2.out.below hbz Hb4_2.out.lt); have nb3b4 : ¬ b3 = b4 := (fun e => by have := Hb4_2.out.lt; omega); have nb4b3 : ¬ b4 = b3 := (fun e => nb3b4 e.symm); rw [hV, hz]; clear hV hbz hz
          refine hK.out _ _ ?_ (fun hHeld => ?_)
          · (try dsimp only); (exact HS.out _ HB3.out)
          clear hK K
          try simp only [obd1_6, Act.put, List.setIfInBounds_toArray, List.set_cons_zero, List.set_cons_succ]
          refine wpAnyH_ready (rs := [5]) (by kernel_rfl) (by simp) ?_
          refine AllReadyH.cons (o := obd1_5) rfl (fun K hK => ?_) AllReadyH.nil
          delta obd1_5
          go_simp
          (refine (rpoint_any _ _ ⟨by omega, by omega⟩).mono ?_; rintro e W4 ⟨rfl, hb⟩); have hbz : Below W3.heap.size W3 W4 := (by first | exact hb | exact Below.trans (Below.drew (Below.refl _ _)) hb); clear hb; have HB4 := Lib.hid (HB3.out.trans (hbz.mono HB3.out.size)); have Hb4_4 := Lib.hid (Hb4_3.out.below hbz Hb4_3.out.lt); have Hb3_4 := Lib.hid (Hb3_3.out.below hbz Hb3_3.out.lt); clear hbz
          refine hK.out _ _ ?_ (fun hHeld => ?_)
          · (try dsimp only); (exact HS.out _ HB4.out)
          clear hK K
          try simp only [obd1_5, Act.put, List.setIfInBounds_toArray, List.set_cons_zero, List.set_cons_succ]
         case' gr10 =>
          exact AllReadyH.nil
       case' gr8 =>
        exact AllReadyH.nil
    case' gr1 =>
     refine AllReadyH.cons (o := obd1_6) rfl (fun K hK => ?gs11) ?gr11
     case' gs11 =>
      delta obd1_6
      go_simp
      obtain ⟨W1, hV⟩ : ∃ V, W0.alloc (.cells #[.int .i64 0, .int .i64 0] 23) = V := ⟨_, rfl⟩; have hbz : Below W0.heap.size W0 W1 := (by rw [← hV]; exact (Below.refl _ _).alloc (Nat.le_refl _) _); have HB1 := Lib.hid (HB0.out.trans (hbz.mono HB0.out.size)); have Hb3_1 : Hid (Blk W1 W0.heap.size 23 #[.int .i64 0, .int .i64 0]) := (by rw [← hV]; exact Blk.new' _ _ _ rfl); obtain ⟨b3, hz⟩ : ∃ b, W0.heap.size = b := ⟨_, rfl⟩; rw [hz] at Hb3_1; have gb3 : W0.heap.size ≤ b3 := (by rw [← hz]; exact HB0.out.size); rw [hV, hz]; clear hV hbz hz
      refine hK.out _ _ ?_ (fun hHeld => ?_)
      · (try dsimp only); (exact HS.out _ HB1.out)
      clear hK K
      try simp only [obd1_6, Act.put, List.setIfInBounds_toArray, List.set_cons_zero, List.set_cons_succ]
      refine wpAnyH_ready (rs := [2, 7]) (by kernel_rfl) (by simp) ?_
      refine AllReadyH.cons (o := obd1_2) rfl (fun K hK => ?gs12) ?gr12
      case' gs12 =>
       delta obd1_2
       go_simp
       (refine (rpoint_any _ _ ⟨by omega, by omega⟩).mono ?_; rintro e W2 ⟨rfl, hb⟩); have hbz : Below W1.heap.size W1 W2 := (by first | exact hb | exact Below.trans (Below.drew (Below.refl _ _)) hb); clear hb; have HB2 := Lib.hid (HB1.out.trans (hbz.mono HB1.out.size)); have Hb3_2 := Lib.hid (Hb3_1.out.below hbz Hb3_1.out.lt); clear hbz
       refine hK.out _ _ ?_ (fun hHeld => ?_)
       · (try dsimp only); (exact HS.out _ HB2.out)
       clear hK K
       try simp only [obd1_2, Act.put, List.setIfInBounds_toArray, List.set_cons_zero, List.set_cons_succ]
       refine wpAnyH_ready (rs := [5, 7]) (by kernel_rfl) (by simp) ?_
       refine AllReadyH.cons (o := obd1_5) rfl (fun K hK => ?gs13) ?gr13
       case' gs13 =>
        delta obd1_5
        go_simp
        (refine (rpoint_any _ _ ⟨by omega, by omega⟩).mono ?_; rintro e W3 ⟨rfl, hb⟩); have hbz : Below W2.heap.size W2 W3 := (by first | exact hb | exact Below.trans (Below.drew (Below.refl _ _)) hb); clear hb; have HB3 := Lib.hid (HB2.out.trans (hbz.mono HB2.out.size)); have Hb3_3 := Lib.hid (Hb3_2.out.below hbz Hb3_2.out.lt); clear hbz
        refine hK.out _ _ ?_ (fun hHeld => ?_)
        · (try dsimp only); (exact HS.out _ HB3.out)
        clear hK K
        try simp only [obd1_5, Act.put, List.setIfInBounds_toArray, List.set_cons_zero, List.set_cons_succ]
        refine wpAnyH_ready (rs := [7]) (by kernel_rfl) (by simp) ?_
        refine AllReadyH.cons (o := obd1_7) rfl (fun K hK => ?_) AllReadyH.nil
        delta obd1_7
        go_simp
        obtain ⟨W4, hV⟩ : ∃ V, W3.alloc (.cells #[.int .i64 0, .int .i64 0] 23) = V := ⟨_, rfl⟩; have hbz : Below W3.heap.size W3 W4 := (by rw [← hV]; exact (Below.refl _ _).alloc (Nat.le_refl _) _); have HB4 := Lib.hid (HB3.out.trans (hbz.mono HB3.out.size)); have Hb4_4 : Hid (Blk W4 W3.heap.size 23 #[.int .i64 0, .int .i64 0]) := (by rw [← hV]; exact Blk.new' _ _ _ rfl); obtain ⟨b4, hz⟩ : ∃ b, W3.heap.size = b := ⟨_, rfl⟩; rw [hz] at Hb4_4; have gb4 : W0.heap.size ≤ b4 := (by rw [← hz]; exact HB3.out.size); have Hb3_4 := Lib.hid (Hb3_3.out.below hbz Hb3_3.out.lt); have nb4b3 : ¬ b4 = b3 := (fun e => by have := Hb3_3.out.lt; omega); have nb3b4 : ¬ b3 = b4 := (fun e => nb4b3 e.symm); rw [hV, hz]; clear hV hbz hz
        refine hK.out _ _ ?_ (fun hHeld => ?_)
        · (try dsimp only); (exact HS.out _ HB4.out)
        clear hK K
        try simp only [obd1_7, Act.put, List.setIfInBounds_toArray, List.set_cons_zero, List.set_cons_succ]
       case' gr13 =>
        refine AllReadyH.cons (o := obd1_7) rfl (fun K hK => ?gs14) ?gr14
        case' gs14 =>
         delta obd1_7
         go_simp
         obtain ⟨W3, hV⟩ : ∃ V, W2.alloc (.cells #[.int .i64 0, .int .i64 0] 23) = V := ⟨_, rfl⟩; have hbz : Below W2.heap.size W2 W3 := (by rw [← hV]; exact (Below.refl _ _).alloc (Nat.le_refl _) _); have HB3 := Lib.hid (HB2.out.trans (hbz.mono HB2.out.size)); have Hb4_3 : Hid (Blk W3 W2.heap.size 23 #[.int .i64 0, .int .i64 0]) := (by rw [← hV]; exact Blk.new' _ _ _ rfl); obtain ⟨b4, hz⟩ : ∃ b, W2.heap.size = b := ⟨_, rfl⟩; rw [hz] at Hb4_3; have gb4 : W0.heap.size ≤ b4 := (by rw [← hz]; exact HB2.out.size); have Hb3_3 := Lib.hid (Hb3_2.out.below hbz Hb3_2.out.lt); have nb4b3 : ¬ b4 = b3 := (fun e => by have := Hb3_2.out.lt; omega); have nb3b4 : ¬ b3 = b4 := (fun e => nb4b3 e.symm); rw [hV, hz]; clear hV hbz hz
         refine hK.out _ _ ?_ (fun hHeld => ?_)
         · (try dsimp only); (exact HS.out _ HB3.out)
         clear hK K
         try simp only [obd1_7, Act.put, List.setIfInBounds_toArray, List.set_cons_zero, List.set_cons_succ]
         refine wpAnyH_ready (rs := [5]) (by kernel_rfl) (by simp) ?_
         refine AllReadyH.cons (o := obd1_5) rfl (fun K hK => ?_) AllReadyH.nil
         delta obd1_5
         go_simp
         (refine (rpoint_any _ _ ⟨by omega, by omega⟩).mono ?_; rintro e W4 ⟨rfl, hb⟩); have hbz : Below W3.heap.size W3 W4 := (by first | exact hb | exact Below.trans (Below.drew (Below.refl _ _)) hb); clear hb; have HB4 := Lib.hid (HB3.out.trans (hbz.mono HB3.out.size)); have Hb3_4 := Lib.hid (Hb3_3.out.below hbz Hb3_3.out.lt); have Hb4_4 := Lib.hid (Hb4_3.out.below hbz Hb4_3.out.lt); clear hbz
         refine hK.out _ _ ?_ (fun hHeld => ?_)
         · (try dsimp only); (exact HS.out _ HB4.out)
         clear hK K
         try simp only [obd1_5, Act.put, List.setIfInBounds_toArray, List.set_cons_zero, List.set_cons_succ]
        case' gr14 =>
         exact AllReadyH.nil
      case' gr12 =>
       refine AllReadyH.cons (o := obd1_7) rfl (fun K hK => ?gs15) ?gr15
       case' gs15 =>
        delta obd1_7
        go_simp
        obtain ⟨W2, hV⟩ : ∃ V, W1.alloc (.cells #[.int .i64 0, .int .i64 0] 23) = V := ⟨_, rfl⟩; have hbz : Below W1.heap.size W1 W2 := (by rw [← hV]; exact (Below.refl _ _).alloc (Nat.le_refl _) _); have HB2 := Lib.hid (HB1.out.trans (hbz.mono HB1.out.size)); have Hb4_2 : Hid (Blk W2 W1.heap.size 23 #[.int .i64 0, .int .i64 0]) := (by rw [← hV]; exact Blk.new' _ _ _ rfl); obtain ⟨b4, hz⟩ : ∃ b, W1.heap.size = b := ⟨_, rfl⟩; rw [hz] at Hb4_2; have gb4 : W0.heap.size ≤ b4 := (by rw [← hz]; exact HB1.out.size); have Hb3_2 := Lib.hid (Hb3_1.out.below hbz Hb3_1.out.lt); have nb4b3 : ¬ b4 = b3 := (fun e => by have := Hb3_1.out.lt; omega); have nb3b4 : ¬ b3 = b4 := (fun e => nb4b3 e.symm); rw [hV, hz]; clear hV hbz hz
        refine hK.out _ _ ?_ (fun hHeld => ?_)
        · (try dsimp only); (exact HS.out _ HB2.out)
        clear hK K
        try simp only [obd1_7, Act.put, List.setIfInBounds_toArray, List.set_cons_zero, List.set_cons_succ]
        refine wpAnyH_ready (rs := [2]) (by kernel_rfl) (by simp) ?_
        refine AllReadyH.cons (o := obd1_2) rfl (fun K hK => ?_) AllReadyH.nil
        delta obd1_2
        go_simp
        (refine (rpoint_any _ _ ⟨by omega, by omega⟩).mono ?_; rintro e W3 ⟨rfl, hb⟩); have hbz : Below W2.heap.size W2 W3 := (by first | exact hb | exact Below.trans (Below.drew (Below.refl _ _)) hb); clear hb; have HB3 := Lib.hid (HB2.out.trans (hbz.mono HB2.out.size)); have Hb3_3 := Lib.hid (Hb3_2.out.below hbz Hb3_2.out.lt); have Hb4_3 := Lib.hid (Hb4_2.out.below hbz Hb4_2.out.lt); clear hbz
        refine hK.out _ _ ?_ (fun hHeld => ?_)
        · (try dsimp only); (exact HS.out _ HB3.out)
        clear hK K
        try simp only [obd1_2, Act.put, List.setIfInBounds_toArray, List.set_cons_zero, List.set_cons_succ]
        refine wpAnyH_ready (rs := [5]) (by kernel_rfl) (by simp) ?_
        refine AllReadyH.cons (o := obd1_5) rfl (fun K hK => ?_) AllReadyH.nil
        delta obd1_5
        go_simp
        (refine (rpoint_any _ _ ⟨by omega, by omega⟩).mono ?_; rintro e W4 ⟨rfl, hb⟩); have hbz : Below W3.heap.size W3 W4 := (by first | exact hb | exact Below.trans (Below.drew (Below.refl _ _)) hb); clear hb; have HB4 := Lib.hid (HB3.out.trans (hbz.mono HB3.out.size)); have Hb3_4 := Lib.hid (Hb3_3.out.below hbz Hb3_3.out.lt); have Hb4_4 := Lib.hid (Hb4_3.out.below hbz Hb4_3.out.lt); clear hbz
        refine hK.out _ _ ?_ (fun hHeld => ?_)
        · (try dsimp only); (exact HS.out _ HB4.out)
        clear hK K
        try simp only [obd1_5, Act.put, List.setIfInBounds_toArray, List.set_cons_zero, List.set_cons_succ]
       case' gr15 =>
        exact AllReadyH.nil
     case' gr11 =>
      refine AllReadyH.cons (o := obd1_7) rfl (fun K hK => ?gs16) ?gr16
      case' gs16 =>
       delta obd1_7
       go_simp
       obtain ⟨W1, hV⟩ : ∃ V, W0.alloc (.cells #[.int .i64 0, .int .i64 0] 23) = V := ⟨_, rfl⟩; have hbz : Below W0.heap.size W0 W1 := (by rw [← hV]; exact (Below.refl _ _).alloc (Nat.le_refl _) _); have HB1 := Lib.hid (HB0.out.trans (hbz.mono HB0.out.size)); have Hb4_1 : Hid (Blk W1 W0.heap.size 23 #[.int .i64 0, .int .i64 0]) := (by rw [← hV]; exact Blk.new' _ _ _ rfl); obtain ⟨b4, hz⟩ : ∃ b, W0.heap.size = b := ⟨_, rfl⟩; rw [hz] at Hb4_1; have gb4 : W0.heap.size ≤ b4 := (by rw [← hz]; exact HB0.out.size); rw [hV, hz]; clear hV hbz hz
       refine hK.out _ _ ?_ (fun hHeld => ?_)
       · (try dsimp only); (exact HS.out _ HB1.out)
       clear hK K
       try simp only [obd1_7, Act.put, List.setIfInBounds_toArray, List.set_cons_zero, List.set_cons_succ]
       refine wpAnyH_ready (rs := [2, 6]) (by kernel_rfl) (by simp) ?_
       refine AllReadyH.cons (o := obd1_2) rfl (fun K hK => ?gs17) ?gr17
       case' gs17 =>
        delta obd1_2
        go_simp
        (refine (rpoint_any _ _ ⟨by omega, by omega⟩).mono ?_; rintro e W2 ⟨rfl, hb⟩); have hbz : Below W1.heap.size W1 W2 := (by first | exact hb | exact Below.trans (Below.drew (Below.refl _ _)) hb); clear hb; have HB2 := Lib.hid (HB1.out.trans (hbz.mono HB1.out.size)); have Hb4_2 := Lib.hid (Hb4_1.out.below hbz Hb4_1.out.lt); clear hbz
        refine hK.out _ _ ?_ (fun hHeld => ?_)
        · (try dsimp only); (exact HS.out _ HB2.out)
        clear hK K
        try simp only [obd1_2, Act.put, List.setIfInBounds_toArray, List.set_cons_zero, List.set_cons_succ]
        refine wpAnyH_ready (rs := [5, 6]) (by kernel_rfl) (by simp) ?_
        refine AllReadyH.cons (o := obd1_5) rfl (fun K hK => ?gs18) ?gr18
        case' gs18 =>
         delta obd1_5
         go_simp
         (refine (rpoint_any _ _ ⟨by omega, by omega⟩).mono ?_; rintro e W3 ⟨rfl, hb⟩); have hbz : Below W2.heap.size W2 W3 := (by first | exact hb | exact Below.trans (Below.drew (Below.refl _ _)) hb); clear hb; have HB3 := Lib.hid (HB2.out.trans (hbz.mono HB2.out.size)); have Hb4_3 := Lib.hid (Hb4_2.out.below hbz Hb4_2.out.lt); clear hbz
         refine hK.out _ _ ?_ (fun hHeld => ?_)
         · (try dsimp only); (exact HS.out _ HB3.out)
         clear hK K
         try simp only [obd1_5, Act.put, List.setIfInBounds_toArray, List.set_cons_zero, List.set_cons_succ]
         refine wpAnyH_ready (rs := [6]) (by kernel_rfl) (by simp) ?_
         refine AllReadyH.cons (o := obd1_6) rfl (fun K hK => ?_) AllReadyH.nil
         delta obd1_6
         go_simp
         obtain ⟨W4, hV⟩ : ∃ V, W3.alloc (.cells #[.int .i64 0, .int .i64 0] 23) = V := ⟨_, rfl⟩; have hbz : Below W3.heap.size W3 W4 := (by rw [← hV]; exact (Below.refl _ _).alloc (Nat.le_refl _) _); have HB4 := Lib.hid (HB3.out.trans (hbz.mono HB3.out.size)); have Hb3_4 : Hid (Blk W4 W3.heap.size 23 #[.int .i64 0, .int .i64 0]) := (by rw [← hV]; exact Blk.new' _ _ _ rfl); obtain ⟨b3, hz⟩ : ∃ b, W3.heap.size = b := ⟨_, rfl⟩; rw [hz] at Hb3_4; have gb3 : W0.heap.size ≤ b3 := (by rw [← hz]; exact HB3.out.size); have Hb4_4 := Lib.hid (Hb4_3.out.below hbz Hb4_3.out.lt); have nb3b4 : ¬ b3 = b4 := (fun e => by have := Hb4_3.out.lt; omega); have nb4b3 : ¬ b4 = b3 := (fun e => nb3b4 e.symm); rw [hV, hz]; clear hV hbz hz
         refine hK.out _ _ ?_ (fun hHeld => ?_)
         · (try dsimp only); (exact HS.out _ HB4.out)
         clear hK K
         try simp only [obd1_6, Act.put, List.setIfInBounds_toArray, List.set_cons_zero, List.set_cons_succ]
        case' gr18 =>
         refine AllReadyH.cons (o := obd1_6) rfl (fun K hK => ?gs19) ?gr19
         case' gs19 =>
          delta obd1_6
          go_simp
          obtain ⟨W3, hV⟩ : ∃ V, W2.alloc (.cells #[.int .i64 0, .int .i64 0] 23) = V := ⟨_, rfl⟩; have hbz : Below W2.heap.size W2 W3 := (by rw [← hV]; exact (Below.refl _ _).alloc (Nat.le_refl _) _); have HB3 := Lib.hid (HB2.out.trans (hbz.mono HB2.out.size)); have Hb3_3 : Hid (Blk W3 W2.heap.size 23 #[.int .i64 0, .int .i64 0]) := (by rw [← hV]; exact Blk.new' _ _ _ rfl); obtain ⟨b3, hz⟩ : ∃ b, W2.heap.size = b := ⟨_, rfl⟩; rw [hz] at Hb3_3; have gb3 : W0.heap.size ≤ b3 := (by rw [← hz]; exact HB2.out.size); have Hb4_3 := Lib.hid (Hb4_2.out.below hbz Hb4_2.out.lt); have nb3b4 : ¬ b3 = b4 := (fun e => by have := Hb4_2.out.lt; omega); have nb4b3 : ¬ b4 = b3 := (fun e => nb3b4 e.symm); rw [hV, hz]; clear hV hbz hz
          refine hK.out _ _ ?_ (fun hHeld => ?_)
          · (try dsimp only); (exact HS.out _ HB3.out)
          clear hK K
          try simp only [obd1_6, Act.put, List.setIfInBounds_toArray, List.set_cons_zero, List.set_cons_succ]
          refine wpAnyH_ready (rs := [5]) (by kernel_rfl) (by simp) ?_
          refine AllReadyH.cons (o := obd1_5) rfl (fun K hK => ?_) AllReadyH.nil
          delta obd1_5
          go_simp
          (refine (rpoint_any _ _ ⟨by omega, by omega⟩).mono ?_; rintro e W4 ⟨rfl, hb⟩); have hbz : Below W3.heap.size W3 W4 := (by first | exact hb | exact Below.trans (Below.drew (Below.refl _ _)) hb); clear hb; have HB4 := Lib.hid (HB3.out.trans (hbz.mono HB3.out.size)); have Hb4_4 := Lib.hid (Hb4_3.out.below hbz Hb4_3.out.lt); have Hb3_4 := Lib.hid (Hb3_3.out.below hbz Hb3_3.out.lt); clear hbz
          refine hK.out _ _ ?_ (fun hHeld => ?_)
          · (try dsimp only); (exact HS.out _ HB4.out)
          clear hK K
          try simp only [obd1_5, Act.put, List.setIfInBounds_toArray, List.set_cons_zero, List.set_cons_succ]
         case' gr19 =>
          exact AllReadyH.nil
       case' gr17 =>
        refine AllReadyH.cons (o := obd1_6) rfl (fun K hK => ?gs20) ?gr20
        case' gs20 =>
         delta obd1_6
         go_simp
         obtain ⟨W2, hV⟩ : ∃ V, W1.alloc (.cells #[.int .i64 0, .int .i64 0] 23) = V := ⟨_, rfl⟩; have hbz : Below W1.heap.size W1 W2 := (by rw [← hV]; exact (Below.refl _ _).alloc (Nat.le_refl _) _); have HB2 := Lib.hid (HB1.out.trans (hbz.mono HB1.out.size)); have Hb3_2 : Hid (Blk W2 W1.heap.size 23 #[.int .i64 0, .int .i64 0]) := (by rw [← hV]; exact Blk.new' _ _ _ rfl); obtain ⟨b3, hz⟩ : ∃ b, W1.heap.size = b := ⟨_, rfl⟩; rw [hz] at Hb3_2; have gb3 : W0.heap.size ≤ b3 := (by rw [← hz]; exact HB1.out.size); have Hb4_2 := Lib.hid (Hb4_1.out.below hbz Hb4_1.out.lt); have nb3b4 : ¬ b3 = b4 := (fun e => by have := Hb4_1.out.lt; omega); have nb4b3 : ¬ b4 = b3 := (fun e => nb3b4 e.symm); rw [hV, hz]; clear hV hbz hz
         refine hK.out _ _ ?_ (fun hHeld => ?_)
         · (try dsimp only); (exact HS.out _ HB2.out)
         clear hK K
         try simp only [obd1_6, Act.put, List.setIfInBounds_toArray, List.set_cons_zero, List.set_cons_succ]
         refine wpAnyH_ready (rs := [2]) (by kernel_rfl) (by simp) ?_
         refine AllReadyH.cons (o := obd1_2) rfl (fun K hK => ?_) AllReadyH.nil
         delta obd1_2
         go_simp
         (refine (rpoint_any _ _ ⟨by omega, by omega⟩).mono ?_; rintro e W3 ⟨rfl, hb⟩); have hbz : Below W2.heap.size W2 W3 := (by first | exact hb | exact Below.trans (Below.drew (Below.refl _ _)) hb); clear hb; have HB3 := Lib.hid (HB2.out.trans (hbz.mono HB2.out.size)); have Hb4_3 := Lib.hid (Hb4_2.out.below hbz Hb4_2.out.lt); have Hb3_3 := Lib.hid (Hb3_2.out.below hbz Hb3_2.out.lt); clear hbz
         refine hK.out _ _ ?_ (fun hHeld => ?_)
         · (try dsimp only); (exact HS.out _ HB3.out)
         clear hK K
         try simp only [obd1_2, Act.put, List.setIfInBounds_toArray, List.set_cons_zero, List.set_cons_succ]
         refine wpAnyH_ready (rs := [5]) (by kernel_rfl) (by simp) ?_
         refine AllReadyH.cons (o := obd1_5) rfl (fun K hK => ?_) AllReadyH.nil
         delta obd1_5
         go_simp
         (refine (rpoint_any _ _ ⟨by omega, by omega⟩).mono ?_; rintro e W4 ⟨rfl, hb⟩); have hbz : Below W3.heap.size W3 W4 := (by first | exact hb | exact Below.trans (Below.drew (Below.refl _ _)) hb); clear hb; have HB4 := Lib.hid (HB3.out.trans (hbz.mono HB3.out.size)); have Hb4_4 := Lib.hid (Hb4_3.out.below hbz Hb4_3.out.lt); have Hb3_4 := Lib.hid (Hb3_3.out.below hbz Hb3_3.out.lt); clear hbz
         refine hK.out _ _ ?_ (fun hHeld => ?_)
         · (try dsimp only); (exact HS.out _ HB4.out)
         clear hK K
         try simp only [obd1_5, Act.put, List.setIfInBounds_toArray, List.set_cons_zero, List.set_cons_succ]
        case' gr20 =>
         exact AllReadyH.nil
      case' gr16 =>
       exact AllReadyH.nil
    all_goals
     as_aux_lemma =>
      have y0 := Hb3_4.out.cell 0; have y1 := Hb3_4.out.cell 1; have z0 := Hb3_4.out.frozen 0; have z1 := Hb3_4.out.frozen 1; have y2 := Hb4_4.out.cell 0; have y3 := Hb4_4.out.cell 1; have z2 := Hb4_4.out.frozen 0; have z3 := Hb4_4.out.frozen 1; simp only [List.getElem?_toArray, List.getElem?_cons_zero, List.getElem?_cons_succ] at y0 y1 y2 y3
      refine wpAnyH_ready (rs := [8]) (by kernel_rfl) (by simp) ?_
      refine AllReadyH.cons (o := obd1_8) rfl (fun K hK => ?_) AllReadyH.nil
      delta obd1_8
      go_simp
      refine hK.out _ _ ?_ (fun hHeld => ?_)
      · (try dsimp only); (refine HS.out _ ?_; (repeat (first | exact HB4.out | refine Below.setCell ?_ (by first | exact gb3 | exact gb4) _)); done)
      clear hK K
      try simp only [obd1_8, Act.put, List.setIfInBounds_toArray, List.set_cons_zero, List.set_cons_succ]
      refine wpAnyH_ready (rs := [9]) (by kernel_rfl) (by simp) ?_
      refine AllReadyH.cons (o := obd1_9) rfl (fun K hK => ?_) AllReadyH.nil
      delta obd1_9
      go_simp
      refine hK.out _ _ ?_ (fun hHeld => ?_)
      · (try dsimp only); (refine HS.out _ ?_; (repeat (first | exact HB4.out | refine Below.setCell ?_ (by first | exact gb3 | exact gb4) _)); done)
      clear hK K
      try simp only [obd1_9, Act.put, List.setIfInBounds_toArray, List.set_cons_zero, List.set_cons_succ]
      refine wpAnyH_done (by kernel_rfl) ?_ _
      refine NoPanic.normal ?_
      go_wp2_with fail
      go_meet
      exact (twoBox_set Hb3_4.out Hb4_4.out nb3b4 gb3 gb4 HB4.out).of HBV.out
  case rest =>
    obtain ⟨b3, b4, rfl, rfl, q3, q4, hne, g3, g4, hb⟩ := hcut
    obtain ⟨V1, rfl⟩ : ∃ V, V = wc := ⟨_, rfl⟩
    have HK3 := Lib.hid q3
    have HK4 := Lib.hid q4
    have HK1 := Lib.hid (K1.out.below hb K1.out.lt)
    have HK2 := Lib.hid (K2.out.below hb K2.out.lt)
    have HB1 := Lib.hid (KB.out.trans (hb.mono KB.out.size))
    obtain ⟨c0, c1, -, -⟩ := span_parts HK1.out
    obtain ⟨d0, d1, -, -⟩ := span_parts HK3.out
    obtain ⟨e0, e1, -, -⟩ := span_parts HK4.out
    clear q3 q4 hb K1 K2 KB
    have l1 := HK1.out.lt
    have l2 := HK2.out.lt
    have l3 := HK3.out.lt
    have l4 := HK4.out.lt
    go_upto_region 2 with (fail)
    go_cut [5] from 12 to 23 (fun p wx => p = .pointer (some ⟨V1.heap.size, 0, none⟩) ∧ wx = V1.alloc (.cells #[.int .i64 (min (pointZ lo).1 (pointZ hi).1), .int .i64 (max (pointZ lo).2 (pointZ hi).2)] 23))
    case first =>
      go_wp2_with fail
      all_goals
        go_meet
        exact ⟨rfl, alloc2_eq (by omega) (by omega)⟩
    case rest =>
      obtain ⟨rfl, hwc⟩ := hcut
      have HK5 : Hid (Blk wc V1.heap.size 23 #[.int .i64 (min (pointZ lo).1 (pointZ hi).1), .int .i64 (max (pointZ lo).2 (pointZ hi).2)]) := by rw [hwc]; exact Blk.new' _ _ _ rfl
      have hB2 : Below V1.heap.size V1 wc := by rw [hwc]; exact (Below.refl _ _).alloc (Nat.le_refl _) _
      clear hwc
      obtain ⟨V2, rfl⟩ : ∃ V, V = wc := ⟨_, rfl⟩
      obtain ⟨b5, h5⟩ : ∃ b, V1.heap.size = b := ⟨_, rfl⟩
      rw [h5] at HK5 l1 l2
      rw [h5]
      have J1 := Lib.hid (HK1.out.below hB2 HK1.out.lt)
      have J2 := Lib.hid (HK2.out.below hB2 HK2.out.lt)
      have JB := Lib.hid (HB1.out.trans (hB2.mono HB1.out.size))
      clear HK1 HK2 HK3 HK4 HB1 hB2 c0 c1 d0 d1 e0 e1 l3 l4 h5
      have nw : ¬ b5 = w.heap.size := by omega
      have nw1 : ¬ w.heap.size = b5 := by omega
      have nw2 : ¬ b5 = w.heap.size + 1 := by omega
      have nw3 : ¬ w.heap.size + 1 = b5 := by omega
      obtain ⟨mn, hmn⟩ : ∃ m, min (pointZ lo).1 (pointZ hi).1 = m := ⟨_, rfl⟩
      obtain ⟨mx, hmx⟩ : ∃ m, max (pointZ lo).2 (pointZ hi).2 = m := ⟨_, rfl⟩
      rw [hmn, hmx] at HK5
      have HM : Hid (boundsZ (lo, hi) = (if hasZ (lo, hi) 1800 then -65536 else mn, if hasZ (lo, hi) 0 then 65536 else mx)) := by rw [Hid, ← hmn, ← hmx]; rfl
      clear hmn hmx
      obtain ⟨c0, c1, -, -⟩ := span_parts J1.out
      go_wp2_with fail
      refine (rhas_any lo hi 0 _ ⟨by omega, by omega⟩ ⟨by omega, by omega⟩ ⟨by omega, by omega⟩).mono ?_
      rintro e w1 ⟨rfl, hb1⟩
      have I1 := Lib.hid (J1.out.below hb1 J1.out.lt)
      have I2 := Lib.hid (J2.out.below hb1 J2.out.lt)
      have I5 := Lib.hid (HK5.out.below hb1 HK5.out.lt)
      have IB := Lib.hid (JB.out.trans (hb1.mono JB.out.size))
      clear J1 J2 HK5 JB hb1 c0 c1
      cases hA : hasZ (lo, hi) 0
      · obtain ⟨c0, c1, -, -⟩ := span_parts I1.out
        go_wp2_with fail
        refine (rhas_any lo hi 1800 _ ⟨by omega, by omega⟩ ⟨by omega, by omega⟩ ⟨by omega, by omega⟩).mono ?_
        rintro e w2 ⟨rfl, hb2⟩
        have L2 := Lib.hid (I2.out.below hb2 I2.out.lt)
        have L5 := Lib.hid (I5.out.below hb2 I5.out.lt)
        have LB := Lib.hid (IB.out.trans (hb2.mono IB.out.size))
        clear I1 I2 I5 IB hb2 c0 c1
        cases hC : hasZ (lo, hi) 1800
        all_goals
          obtain ⟨f0, f1, z0, z1⟩ := span_parts L5.out
          obtain ⟨g0, g1, y0, y1⟩ := span_parts L2.out
          have q1 := L2.out.lt
          have q2 := L5.out.lt
          go_wp2
          have hR := fun x y => span_res2 L2.out x y
          have hR2 := fun u x y => span_res2 (L2.out.far_ (p := ⟨b5, 0, none⟩) (by exact nw3) u) x y
          refine bodyPost_ret (v := .agg #[.int .i64 (if hasZ (lo, hi) 1800 then -65536 else mn), .int .i64 (if hasZ (lo, hi) 0 then 65536 else mx)]) (by simp [results, Try.results39, go_sem, hR, hR2, hA, hC]) rfl ⟨?_, ?_⟩
          · rw [HM.out]
          · have LBo := LB.out
            exact (by repeat (first | exact Below.refl _ _ | assumption | refine Below.drew ?_ | refine Below.drewN' ?_ _ | (refine Below.alloc ?_ (by simp <;> omega) _) | (refine Below.setCell ?_ (by simp <;> omega) _)))
      · obtain ⟨c0, c1, -, -⟩ := span_parts I1.out
        obtain ⟨f0, f1, z0, z1⟩ := span_parts I5.out
        go_wp2_with fail
        refine (rhas_any lo hi 1800 _ ⟨by omega, by omega⟩ ⟨by omega, by omega⟩ ⟨by omega, by omega⟩).mono ?_
        rintro e w2 ⟨rfl, hb2⟩
        have L2 := Lib.hid ((I2.out.far_ (p := ⟨b5, 1, none⟩) (by exact nw3) _).below hb2 (by simpa using I2.out.lt))
        have L5 : Hid (Blk w2 b5 23 #[.int .i64 mn, .int .i64 65536]) := (I5.out.set_ 1 (.int .i64 65536)).below hb2 (by simpa using I5.out.lt)
        have LB := Lib.hid ((IB.out.setCell (p := ⟨b5, 1, none⟩) (by simp only; omega) _).trans (hb2.mono (by simpa using IB.out.size)))
        clear I1 I2 I5 IB hb2 c0 c1 f0 f1 z0 z1
        cases hC : hasZ (lo, hi) 1800
        all_goals
          obtain ⟨f0, f1, z0, z1⟩ := span_parts L5.out
          obtain ⟨g0, g1, y0, y1⟩ := span_parts L2.out
          have q1 := L2.out.lt
          have q2 := L5.out.lt
          go_wp2
          have hR := fun x y => span_res2 L2.out x y
          have hR2 := fun u x y => span_res2 (L2.out.far_ (p := ⟨b5, 0, none⟩) (by exact nw3) u) x y
          refine bodyPost_ret (v := .agg #[.int .i64 (if hasZ (lo, hi) 1800 then -65536 else mn), .int .i64 (if hasZ (lo, hi) 0 then 65536 else mx)]) (by simp [results, Try.results39, go_sem, hR, hR2, hA, hC]) rfl ⟨?_, ?_⟩
          · rw [HM.out]
          · have LBo := LB.out
            exact (by repeat (first | exact Below.refl _ _ | assumption | refine Below.drew ?_ | refine Below.drewN' ?_ _ | (refine Below.alloc ?_ (by simp <;> omega) _) | (refine Below.setCell ?_ (by simp <;> omega) _)))
theorem rCos_any (lo hi : Int) (w : World) :
    Calls Try.prog 12 #[.agg #[.int .i64 lo, .int .i64 hi]] w fun e w' => e = .returned (.tuple #[.agg #[.int .i64 (cosV (lo, hi)).1, .int .i64 (cosV (lo, hi)).2], .int .i64 (cosE (lo, hi))]) ∧ Below w.heap.size w w' := by
  by_cases hok : lo ≤ hi ∧ -1099511627776 ≤ lo ∧ hi ≤ 1099511627776
  · have HV : Hid (cosV (lo, hi) = boundsZ (lo, hi) ∧ cosE (lo, hi) = 0) := by unfold cosV cosE; exact ⟨if_pos hok, if_pos hok⟩
    rw [HV.out.1, HV.out.2]
    clear HV
    go_enter Try.func12, Try.ntmps12
    go_wp2_with fail
    refine (rwithin_any _ _ _ _ _).mono ?_
    rintro e w1 ⟨rfl, hb⟩
    rw [decide_eq_true hok]
    have I1 : Hid (Blk w1 w.heap.size 23 #[.int .i64 lo, .int .i64 hi]) := Blk.below ((Blk.new' w _ _ rfl).alloc _) hb (by simp; omega)
    have I2 : Hid (Blk w1 (w.heap.size + 1) 23 #[.int .i64 0, .int .i64 0]) := Blk.below (Blk.new' _ _ _ (by simp)) hb (by simp)
    have IB : Hid (Below w.heap.size w w1) := Below.trans (by exact (by repeat (first | exact Below.refl _ _ | assumption | refine Below.drew ?_ | refine Below.drewN' ?_ _ | (refine Below.alloc ?_ (by simp <;> omega) _) | (refine Below.setCell ?_ (by simp <;> omega) _)))) (hb.mono (by simp; omega))
    clear hb
    obtain ⟨c0, c1, -, -⟩ := span_parts I1.out
    go_wp2_with fail
    refine (rbounds_any lo hi _ ⟨by omega, by omega⟩ ⟨by omega, by omega⟩).mono ?_
    rintro e w2 ⟨rfl, hb⟩
    have L2 := Lib.hid (I2.out.below hb I2.out.lt)
    have LB := Lib.hid (IB.out.trans (hb.mono IB.out.size))
    clear I1 I2 IB hb c0 c1
    obtain ⟨g0, g1, y0, y1⟩ := span_parts L2.out
    have q1 := L2.out.lt
    go_wp2
    have hR := fun x y => span_res2 L2.out x y
    refine bodyPost_ret (v := .tuple #[.agg #[.int .i64 (boundsZ (lo, hi)).1, .int .i64 (boundsZ (lo, hi)).2], .int .i64 0]) (by simp [results, Try.results12, go_sem, hR]) rfl ⟨rfl, ?_⟩
    have LBo := LB.out
    exact (by repeat (first | exact Below.refl _ _ | assumption | refine Below.drew ?_ | refine Below.drewN' ?_ _ | (refine Below.alloc ?_ (by simp <;> omega) _) | (refine Below.setCell ?_ (by simp <;> omega) _)))
  · have HV : Hid (cosV (lo, hi) = (0, 0) ∧ cosE (lo, hi) = 3) := by unfold cosV cosE; exact ⟨if_neg hok, if_neg hok⟩
    rw [HV.out.1, HV.out.2]
    clear HV
    go_enter Try.func12, Try.ntmps12
    go_wp2_with fail
    refine (rwithin_any _ _ _ _ _).mono ?_
    rintro e w1 ⟨rfl, hb⟩
    rw [decide_eq_false hok]
    have I2 : Hid (Blk w1 (w.heap.size + 1) 23 #[.int .i64 0, .int .i64 0]) := Blk.below (Blk.new' _ _ _ (by simp)) hb (by simp)
    have IB : Hid (Below w.heap.size w w1) := Below.trans (by exact (by repeat (first | exact Below.refl _ _ | assumption | refine Below.drew ?_ | refine Below.drewN' ?_ _ | (refine Below.alloc ?_ (by simp <;> omega) _) | (refine Below.setCell ?_ (by simp <;> omega) _)))) (hb.mono (by simp; omega))
    clear hb
    obtain ⟨g0, g1, y0, y1⟩ := span_parts I2.out
    have q1 := I2.out.lt
    go_wp2
    have hR := fun x y => span_res2 I2.out x y
    refine bodyPost_ret (v := .tuple #[.agg #[.int .i64 0, .int .i64 0], .int .i64 3]) (by simp [results, Try.results12, go_sem, hR]) rfl ⟨rfl, ?_⟩
    have LBo := IB.out
    exact (by repeat (first | exact Below.refl _ _ | assumption | refine Below.drew ?_ | refine Below.drewN' ?_ _ | (refine Below.alloc ?_ (by simp <;> omega) _) | (refine Below.setCell ?_ (by simp <;> omega) _)))
end Go.Proofs.Ytfblpokjbopagaa
/-
  Layer 2: the laws' small helpers.
-/
namespace Go.Proofs.Ytfblpokjbopagaa
open Go.RowKit

theorem lspan_any (a b : Int) (w : World) :
    Calls Try.prog 30 #[.int .i64 a, .int .i64 b] w fun e w' => e = .returned (.agg #[.int .i64 a, .int .i64 b]) ∧ Below w.heap.size w w' := by
  go_enter Try.func30, Try.ntmps30
  go_wp2
  refine bodyPost_ret (v := .agg #[.int .i64 a, .int .i64 b]) (by simp [results, Try.results30, go_sem]) rfl ⟨rfl, ?_⟩
  exact (by repeat (first | exact Below.refl _ _ | assumption | refine Below.drew ?_ | refine Below.drewN' ?_ _ | (refine Below.alloc ?_ (by simp <;> omega) _) | (refine Below.setCell ?_ (by simp <;> omega) _)))
theorem lwithin2_any (a b c d : Int) (w : World) :
    Calls Try.prog 34 #[.agg #[.int .i64 a, .int .i64 b], .agg #[.int .i64 c, .int .i64 d]] w fun e w' => e = .returned (.bool (decide (c ≤ a ∧ b ≤ d ∧ a ≤ b))) ∧ Below w.heap.size w w' := by
  by_cases h1 : c ≤ a
  all_goals by_cases h2 : b ≤ d
  all_goals by_cases h3 : a ≤ b
  all_goals
    go_enter Try.func34, Try.ntmps34
    go_wp2
    go_ret
    exact ⟨by simp [h1, h2, h3], (by repeat (first | exact Below.refl _ _ | assumption | refine Below.drew ?_ | refine Below.drewN' ?_ _ | (refine Below.alloc ?_ (by simp <;> omega) _) | (refine Below.setCell ?_ (by simp <;> omega) _)))⟩
theorem lmeet_any (a b c d : Int) (w : World) :
    Calls Try.prog 33 #[.agg #[.int .i64 a, .int .i64 b], .agg #[.int .i64 c, .int .i64 d]] w fun e w' => e = .returned (.bool (decide (max a c ≤ min b d))) ∧ Below w.heap.size w w' := by
  go_enter Try.func33, Try.ntmps33
  go_wp2
  all_goals
    go_ret
    refine ⟨?_, (by repeat (first | exact Below.refl _ _ | assumption | refine Below.drew ?_ | refine Below.drewN' ?_ _ | (refine Below.alloc ?_ (by simp <;> omega) _) | (refine Below.setCell ?_ (by simp <;> omega) _)))⟩
    have e : ∀ p q : Bool, p = q → Ending.returned (.bool p) = .returned (.bool q) := fun p q h => by rw [h]
    refine e _ _ ?_
    rw [Bool.eq_iff_iff]
    simp
    omega
end Go.Proofs.Ytfblpokjbopagaa
/-
  Layer 2: the laws' comparison of lists of spans.
-/
namespace Go.Proofs.Ytfblpokjbopagaa
open Go.RowKit

theorem span_stood : Try.prog.stoodInHeld 23 = false := by kernel_rfl
theorem span_guard : Try.prog.eqGuardType Try.prog.depth 23 = false := by kernel_rfl
theorem beq_take_snoc {α : Type} [BEq α] [LawfulBEq α] (l m : List α) (k : Nat) (h : k < l.length) (h' : k < m.length) (ht : l.take k = m.take k) (he : l[k] = m[k]) : l.take (k + 1) = m.take (k + 1) := by
  rw [take_snoc l k h, take_snoc m k h', ht, he]
theorem ne_of_get {α : Type} {l m : List α} {k : Nat} {h : k < l.length} {h' : k < m.length} (he : l[k] ≠ m[k]) : l ≠ m := by
  rintro rfl
  exact he rfl

theorem spans_any (a b : Value) (l m : List (Int × Int)) (w : World) (ha : SpansAt w w.heap.size a l) (hb : SpansAt w w.heap.size b m) :
    Calls Try.prog 28 #[a, b] w fun e w' => e = .returned (.bool (decide (l = m))) ∧ Below w.heap.size w w' := by
  obtain ⟨A, c, rfl, hc, hm⟩ := ha.open_
  obtain ⟨A', c', rfl, hc', hm'⟩ := hb.open_
  have hp1 := span_stood
  have hp2 := span_guard
  by_cases hl : l.length = m.length
  case neg =>
    have hne : ((l.length : Int) != m.length) = true := by simp; omega
    have He : Hid (decide (l = m) = false) := by
      simp only [Hid, decide_eq_false_iff_not]
      rintro rfl
      exact hl rfl
    clear hl
    go_enter Try.func28, Try.ntmps28
    go_wp2
    go_ret
    exact ⟨ret_bool He.out.symm, Below.refl _ _⟩
  have hne : ((l.length : Int) != m.length) = false := by simp; omega
  have Hl := Lib.hid hl
  have hl1 : l.length ≤ m.length := by omega
  have hl2 : m.length ≤ l.length := by omega
  clear hl
  go_enter Try.func28, Try.ntmps28
  go_wp2
  go_loopw [5] (fun i wr => ∃ k : Nat, k ≤ l.length ∧ i = .int .i64 k ∧ Hid (l.take k = m.take k) ∧ Below w.heap.size w wr) (fun i _ => l.length - (intOf i).toNat)
  case atStart => exact ⟨0, Nat.zero_le _, rfl, by simp [Hid], Below.refl _ _⟩
  case round =>
    obtain ⟨k, hk, rfl, Ht, hBr⟩ := hrel
    by_cases hlt : k < l.length
    · obtain ⟨b1, off1, rfl, hb1, c1, c1'⟩ := (ha.below hBr).at_ hlt
      obtain ⟨b2, off2, rfl, hb2, c2, c2'⟩ := (hb.below hBr).at_ (k := k) (by omega)
      have hlt' : k < m.length := by omega
      by_cases hx : l[k] = m[k]
      · have HX := Lib.hid hx
        rw [hx] at c1 c1'
        clear hx
        generalize m[k] = q at c1 c1' c2 c2'
        go_wp2
        go_quiet (fail)
        go_wp2
        go_roundw
        case rel => exact ⟨k + 1, by omega, by go_num, beq_take_snoc l m k hlt hlt' Ht.out HX.out, (by repeat (first | exact Below.refl _ _ | assumption | refine Below.drew ?_ | refine Below.drewN' ?_ _ | (refine Below.alloc ?_ (by simp <;> omega) _) | (refine Below.setCell ?_ (by simp <;> omega) _)))⟩
        case measure => simp [intOf]; omega
      · have HX : Hid (decide (l = m) = false) := by simpa [Hid] using ne_of_get hx
        generalize l[k] = p at *
        generalize m[k] = q at *
        obtain ⟨a, b⟩ := p
        obtain ⟨a', b'⟩ := q
        simp only at c1 c1' c2 c2'
        by_cases h1 : a = a'
        · subst h1
          have h2 : ¬ b = b' := fun h => hx (by rw [h])
          clear hx
          go_wp2
          go_quiet (fail)
          go_wp2
          go_ret
          exact ⟨ret_bool HX.out.symm, (by repeat (first | exact Below.refl _ _ | assumption | refine Below.drew ?_ | refine Below.drewN' ?_ _ | (refine Below.alloc ?_ (by simp <;> omega) _) | (refine Below.setCell ?_ (by simp <;> omega) _)))⟩
        · clear hx
          go_wp2
          go_quiet (fail)
          go_wp2
          go_ret
          exact ⟨ret_bool HX.out.symm, (by repeat (first | exact Below.refl _ _ | assumption | refine Below.drew ?_ | refine Below.drewN' ?_ _ | (refine Below.alloc ?_ (by simp <;> omega) _) | (refine Below.setCell ?_ (by simp <;> omega) _)))⟩
    · have hk' : k = l.length := by omega
      have Hf : Hid (decide (l = m) = true) := by
        have := Ht.out
        rw [hk', List.take_length, Hl.out, List.take_length] at this
        simpa [Hid] using this
      clear hk'
      go_wp2
      go_ret
      exact ⟨ret_bool Hf.out.symm, hBr⟩
theorem spans_yes (a b : Value) (l m : List (Int × Int)) (h : l = m) (w : World) (ha : SpansAt w w.heap.size a l) (hb : SpansAt w w.heap.size b m) :
    Calls Try.prog 28 #[a, b] w fun e w' => e = .returned (.bool true) ∧ Below w.heap.size w w' :=
  (spans_any a b l m w ha hb).mono fun e w' k => ⟨by rw [k.1, decide_eq_true h], k.2⟩
end Go.Proofs.Ytfblpokjbopagaa
