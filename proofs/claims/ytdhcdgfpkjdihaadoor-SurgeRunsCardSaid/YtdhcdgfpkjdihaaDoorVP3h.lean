/-
  Layer 3, the program: fetch makes an iterator.
-/
import Derived.Test.YtdhcdgfpkjdihaaDoorVP3d
import Derived.Test.YtdhcdgfpkjdihaaDoorVA3g
set_option linter.unusedSimpArgs false
set_option linter.unusedVariables false
namespace Go.Proofs.YtdhcdgfpkjdihaaDoor.Sg
open Go.RowKit
/-- the table of directions, as its initialiser lays it -/
def DirsAt (w : World) : Prop := 0 < w.heap.size ∧ ∀ d : Nat, d < 8 → w.cell? ⟨0, d * 2, none⟩ = some (.int .i64 (dxZ d)) ∧ w.cell? ⟨0, d * 2 + 1, none⟩ = some (.int .i64 (dyZ d))
theorem DirsAt.below {B : Nat} {w w' : World} (h : DirsAt w) (hb : Below B w w') (hB : w.heap.size ≤ B) : DirsAt w' :=
 ⟨Nat.lt_of_lt_of_le h.1 hb.size, fun d hd => ⟨(hb.cell (p := ⟨0, d * 2, none⟩) (Nat.lt_of_lt_of_le h.1 hB)).trans (h.2 d hd).1, (hb.cell (p := ⟨0, d * 2 + 1, none⟩) (Nat.lt_of_lt_of_le h.1 hB)).trans (h.2 d hd).2⟩⟩
theorem DirsAt.later {w w' : World} (h : DirsAt w) (hb : Below w.heap.size w w') : DirsAt w' := h.below hb (Nat.le_refl _)
structure FetchAt (w : World) (WW HH SS lo hi : Int) (sl : Value) (cell : Int) (d isf : Nat) (b5 b9 b11 b10 b7 b4 : Nat) : Prop where
 k5 : Blk w b5 3 #[.int .i64 cell]
 k9 : Blk w b9 3 #[.int .i64 WW]
 k11 : Blk w b11 151 #[.int .i64 (dxZ d), .int .i64 (dyZ d)]
 k10 : Blk w b10 3 #[.int .i64 HH]
 k7 : Blk w b7 115 #[.func (.func isf) #[] #[]]
 k4 : Blk w b4 110 #[.int .i64 WW, .int .i64 HH, .int .i64 SS, sl, .int .i64 lo, .int .i64 hi]
theorem FetchAt.later {w w' : World} {WW HH SS lo hi : Int} {sl : Value} {cell : Int} {d isf b5 b9 b11 b10 b7 b4 : Nat} (h : FetchAt w WW HH SS lo hi sl cell d isf b5 b9 b11 b10 b7 b4) (hb : Below w.heap.size w w') : FetchAt w' WW HH SS lo hi sl cell d isf b5 b9 b11 b10 b7 b4 :=
 ⟨h.k5.below hb h.k5.lt, h.k9.below hb h.k9.lt, h.k11.below hb h.k11.lt, h.k10.below hb h.k10.lt, h.k7.below hb h.k7.lt, h.k4.below hb h.k4.lt⟩
def Z2e : Oper := ⟨some 12, .fieldAddr 110 (.tmp 4) 0, 0, "fetch.go:44", #[], none⟩
def Z2f : Oper := ⟨some 13, .fieldAddr 24 (.tmp 12) 0, 0, "fetch.go:44", #[⟨0, .data⟩], none⟩
def Z2g : Oper := ⟨some 14, .load 3 (.tmp 13), 3, "fetch.go:44", #[⟨1, .data⟩], none⟩
def Z2h : Oper := ⟨some 15, .fieldAddr 110 (.tmp 4) 0, 0, "fetch.go:44", #[⟨12, .gcOnly .lateStores⟩], none⟩
def Z2i : Oper := ⟨some 16, .fieldAddr 24 (.tmp 15) 1, 0, "fetch.go:44", #[⟨3, .data⟩, ⟨12, .gcOnly .lateStores⟩], none⟩
def Z2j : Oper := ⟨some 17, .load 3 (.tmp 16), 3, "fetch.go:44", #[⟨4, .data⟩, ⟨12, .gcOnly .lateStores⟩], none⟩
def Z2k : Oper := ⟨some 18, .move (.tmp 2), 3, "fetch.go:44", #[⟨13, .gcOnly .lateStores⟩], none⟩
def Z2l : Oper := ⟨some 19, .indexAddr 152 (Operand.global 0) (.tmp 18), 0, "fetch.go:44", #[⟨6, .data⟩, ⟨13, .gcOnly .lateStores⟩], none⟩
def Z2m : Oper := ⟨some 20, .load 151 (.tmp 19), 151, "fetch.go:44", #[⟨7, .data⟩, ⟨13, .gcOnly .lateStores⟩], none⟩
def Z2n : Oper := ⟨some 9, .alloc 3, 0, "fetch.go:44", #[], none⟩
def Z2o : Oper := ⟨some 10, .alloc 3, 0, "fetch.go:44", #[], none⟩
def Z2p : Oper := ⟨some 11, .alloc 151, 0, "fetch.go:44", #[], none⟩
def Z2q : Oper := ⟨none, .store 3 (.tmp 9) (.tmp 14), 0, "fetch.go:44", #[⟨9, .data⟩, ⟨2, .data⟩, ⟨0, .phase⟩, ⟨1, .phase⟩, ⟨2, .phase⟩, ⟨3, .textOnly .lateStores⟩, ⟨4, .textOnly .lateStores⟩, ⟨5, .textOnly .lateStores⟩, ⟨6, .textOnly .lateStores⟩, ⟨7, .textOnly .lateStores⟩, ⟨8, .textOnly .lateStores⟩, ⟨9, .phase⟩, ⟨10, .phase⟩, ⟨11, .phase⟩], none⟩
def Z2r : Oper := ⟨none, .store 3 (.tmp 10) (.tmp 17), 0, "fetch.go:44", #[⟨10, .data⟩, ⟨5, .data⟩, ⟨12, .chain⟩, ⟨0, .phase⟩, ⟨1, .phase⟩, ⟨2, .phase⟩, ⟨3, .phase⟩, ⟨4, .phase⟩, ⟨5, .phase⟩, ⟨6, .textOnly .lateStores⟩, ⟨7, .textOnly .lateStores⟩, ⟨8, .textOnly .lateStores⟩, ⟨9, .phase⟩, ⟨10, .phase⟩, ⟨11, .phase⟩, ⟨12, .phase⟩], none⟩
def Z2s : Oper := ⟨none, .store 151 (.tmp 11) (.tmp 20), 0, "fetch.go:44", #[⟨11, .data⟩, ⟨8, .data⟩, ⟨13, .chain⟩, ⟨0, .phase⟩, ⟨1, .phase⟩, ⟨2, .phase⟩, ⟨3, .phase⟩, ⟨4, .phase⟩, ⟨5, .phase⟩, ⟨6, .phase⟩, ⟨7, .phase⟩, ⟨8, .phase⟩, ⟨9, .phase⟩, ⟨10, .phase⟩, ⟨11, .phase⟩, ⟨12, .phase⟩, ⟨13, .phase⟩], none⟩
set_option maxRecDepth 100000 in
set_option maxHeartbeats 4000000 in
theorem fetch_any (WW HH SS lo hi : Int) (sl : Value) (hsl : ∃ A n c, sl = .slice A n c) (cell : Int) (d isf : Nat) (hd : d < 8) (w : World) (HD : DirsAt w) :
 Calls Tryd.prog 59 #[.agg #[.int .i64 WW, .int .i64 HH, .int .i64 SS, sl, .int .i64 lo, .int .i64 hi], .int .i64 cell, .int .i64 (d : Int), .func (.func isf) #[] #[]] w fun e w' =>
  ∃ b5 b9 b11 b10 b7 b4 : Nat, e = .returned (.func (.func 106) #[] #[.pointer (some ⟨b5, 0, none⟩), .pointer (some ⟨b9, 0, none⟩), .pointer (some ⟨b11, 0, none⟩), .pointer (some ⟨b10, 0, none⟩), .pointer (some ⟨b7, 0, none⟩), .pointer (some ⟨b4, 0, none⟩)]) ∧
   FetchAt w' WW HH SS lo hi sl cell d isf b5 b9 b11 b10 b7 b4 ∧ Below w.heap.size w w' := by
 obtain ⟨sA, sn, sc, rfl⟩ := hsl
 have hd8 : (d : Int) < 8 := by omega
 obtain ⟨hd0, hd1⟩ := HD.2 d hd
 have hgl := HD.1
 have HD0 := Lib.hid hd0
 have HD1 := Lib.hid hd1
 have hmf : ∀ (fn : Fn) (first cap : Array Value) (w : World), (Instr.makeFunc fn first cap).run Tryd.prog w = .ok (.func fn first cap) w := fun _ _ _ _ => rfl
 clear HD hd0 hd1
 obtain ⟨DX, hDX⟩ : ∃ z, dxZ d = z := ⟨_, rfl⟩
 obtain ⟨DY, hDY⟩ : ∃ z, dyZ d = z := ⟨_, rfl⟩
 rw [hDX] at HD0
 rw [hDY] at HD1
 have HDX := Lib.hid hDX
 have HDY := Lib.hid hDY
 clear hDX hDY
 go_enter Tryd.func59, Tryd.ntmps59
 go_upto_region 1 with (fail)
 obtain ⟨Va1, hV⟩ : ∃ V, ((w.alloc (.cells #[.int .i64 (WW), .int .i64 (HH), .int .i64 (SS), .slice sA sn sc, .int .i64 (lo), .int .i64 (hi)] 110)).alloc (.cells #[.int .i64 (cell)] 3)).alloc (.cells #[.func (.func isf) #[] #[]] 115) = V := ⟨_, rfl⟩
 have Kb4 : Hid (Blk Va1 (w.heap.size) 110 #[.int .i64 (WW), .int .i64 (HH), .int .i64 (SS), .slice sA sn sc, .int .i64 (lo), .int .i64 (hi)]) := by rw [← hV]; exact ((Blk.new' _ _ _ (by simp)).alloc _).alloc _
 have Kb5 : Hid (Blk Va1 (w.heap.size + 1) 3 #[.int .i64 (cell)]) := by rw [← hV]; exact (Blk.new' _ _ _ (by simp)).alloc _
 have Kb7 : Hid (Blk Va1 (w.heap.size + 1 + 1) 115 #[.func (.func isf) #[] #[]]) := by rw [← hV]; exact Blk.new' _ _ _ (by simp)
 have GHB : Hid (Below w.heap.size w Va1) := by rw [← hV]; exact (by repeat (first | exact Below.refl _ _ | assumption | refine Below.drew ?_ | refine Below.drewN' ?_ _ | (refine Below.alloc ?_ (by simp <;> omega) _) | (refine Below.setCell ?_ (by simp <;> omega) _)))
 have HZ : Hid (Below w.heap.size w Va1) := GHB
 rw [hV]
 clear hV HZ
 have HB := GHB
 clear GHB
 obtain ⟨b7, hqb7⟩ : ∃ b, w.heap.size + 1 + 1 = b := ⟨_, rfl⟩
 obtain ⟨b5, hqb5⟩ : ∃ b, w.heap.size + 1 = b := ⟨_, rfl⟩
 obtain ⟨b4, hqb4⟩ : ∃ b, w.heap.size = b := ⟨_, rfl⟩
 have gb4 : w.heap.size ≤ b4 := by omega
 have gb5 : w.heap.size ≤ b5 := by omega
 have nb5b4 : ¬ b5 = b4 := by omega
 have nb4b5 : ¬ b4 = b5 := by omega
 have gb7 : w.heap.size ≤ b7 := by omega
 have nb7b4 : ¬ b7 = b4 := by omega
 have nb4b7 : ¬ b4 = b7 := by omega
 have nb7b5 : ¬ b7 = b5 := by omega
 have nb5b7 : ¬ b5 = b7 := by omega
 rw [hqb7] at Kb7 ⊢
 clear hqb7
 rw [hqb5] at Kb5 ⊢
 clear hqb5
 have HN : Hid (w.heap.size = b4) := hqb4
 rw [hqb4] at Kb4 ⊢
 clear hqb4
 have Hb4 := Kb4
 clear Kb4
 have Hb5 := Kb5
 clear Kb5
 have Hb7 := Kb7
 clear Kb7
 have hgl1 : 0 < Va1.heap.size := Nat.lt_of_lt_of_le hgl HB.out.size
 have hg0 := Lib.hid ((HB.out.cell (p := ⟨0, d * 2, none⟩) hgl).trans HD0.out)
 have hg1 := Lib.hid ((HB.out.cell (p := ⟨0, d * 2 + 1, none⟩) hgl).trans HD1.out)
 have HSV : Hid (∀ U, Below Va1.heap.size Va1 U → U.cell? ⟨b4, 0, none⟩ = some (.int .i64 (WW)) ∧ U.cell? ⟨b4, 1, none⟩ = some (.int .i64 (HH)) ∧ U.cell? ⟨b4, 2, none⟩ = some (.int .i64 (SS)) ∧ U.cell? ⟨b4, 3, none⟩ = some (.slice sA sn sc) ∧ U.cell? ⟨b4, 4, none⟩ = some (.int .i64 (lo)) ∧ U.cell? ⟨b4, 5, none⟩ = some (.int .i64 (hi)) ∧ U.cell? ⟨0, d * 2, none⟩ = some (.int .i64 (DX)) ∧ U.cell? ⟨0, d * 2 + 1, none⟩ = some (.int .i64 (DY))) := fun U hU => by
  have kb4 := Hb4.out.below hU Hb4.out.lt
  exact ⟨kb4.cell 0, kb4.cell 1, kb4.cell 2, kb4.cell 3, kb4.cell 4, kb4.cell 5, (hU.cell (p := ⟨0, d * 2, none⟩) hgl1).trans hg0.out, (hU.cell (p := ⟨0, d * 2 + 1, none⟩) hgl1).trans hg1.out⟩
 have k0 := HSV.out _ (Below.drew (Below.refl Va1.heap.size Va1))
 go_cut [9, 10, 11] from 12 to 21 (fun pq0 pq1 pq2 wx => ThreeBx Va1 3 #[.int .i64 (WW)] 3 #[.int .i64 (HH)] 151 #[.int .i64 (DX), .int .i64 (DY)] pq0 pq1 pq2 wx)
 case first =>
  refine wp_region_noPanic ?_
  refine wp_region_held_drew (S := (fun w' => w'.cell? ⟨b4, 0, none⟩ = some (.int .i64 (WW)) ∧ w'.cell? ⟨b4, 1, none⟩ = some (.int .i64 (HH)) ∧ w'.cell? ⟨b4, 2, none⟩ = some (.int .i64 (SS)) ∧ w'.cell? ⟨b4, 3, none⟩ = some (.slice sA sn sc) ∧ w'.cell? ⟨b4, 4, none⟩ = some (.int .i64 (lo)) ∧ w'.cell? ⟨b4, 5, none⟩ = some (.int .i64 (hi)) ∧ w'.cell? ⟨0, d * 2, none⟩ = some (.int .i64 (DX)) ∧ w'.cell? ⟨0, d * 2 + 1, none⟩ = some (.int .i64 (DY)))) (by kernel_rfl) ?_ (fun hHeld => ?_)
  · (try dsimp only); (exact k0)
  refine tH 0 Z2e ?_ ?_ ?_
  rotate_left
  · ((intro w hSw; delta Z2e; (try dsimp only at hSw); go_simp) <;> with_reducible rfl)
  try simp only [Z2e, ksz]
  refine tH 3 Z2h ?_ ?_ ?_
  rotate_left
  · ((intro w hSw; delta Z2h; (try dsimp only at hSw); go_simp) <;> with_reducible rfl)
  try simp only [Z2h, ksz]
  refine tH 6 Z2k ?_ ?_ ?_
  rotate_left
  · ((intro w hSw; delta Z2k; (try dsimp only at hSw); go_simp) <;> with_reducible rfl)
  try simp only [Z2k, ksz]
  refine tH 1 Z2f ?_ ?_ ?_
  rotate_left
  · ((intro w hSw; delta Z2f; (try dsimp only at hSw); go_simp) <;> with_reducible rfl)
  try simp only [Z2f, ksz]
  refine tH 4 Z2i ?_ ?_ ?_
  rotate_left
  · ((intro w hSw; delta Z2i; (try dsimp only at hSw); go_simp) <;> with_reducible rfl)
  try simp only [Z2i, ksz]
  refine tH 7 Z2l ?_ ?_ ?_
  rotate_left
  · ((intro w hSw; delta Z2l; (try dsimp only at hSw); go_simp) <;> with_reducible rfl)
  try simp only [Z2l, ksz]
  refine tH 2 Z2g ?_ ?_ ?_
  rotate_left
  · ((intro w hSw; delta Z2g; (try dsimp only at hSw); go_simp) <;> with_reducible rfl)
  try simp only [Z2g, ksz]
  refine tH 5 Z2j ?_ ?_ ?_
  rotate_left
  · ((intro w hSw; delta Z2j; (try dsimp only at hSw); go_simp) <;> with_reducible rfl)
  try simp only [Z2j, ksz]
  refine tH 8 Z2m ?_ ?_ ?_
  rotate_left
  · ((intro w hSw; delta Z2m; (try dsimp only at hSw); go_simp) <;> with_reducible rfl)
  try simp only [Z2m, ksz]
  obtain ⟨W0, hW0⟩ : ∃ V, Va1.drew = V := ⟨_, rfl⟩; rw [hW0] at hHeld ⊢; have HB0 : Hid (Below Va1.heap.size Va1 W0) := (by rw [← hW0]; exact Below.drew (Below.refl _ _)); clear hW0
  refine wpAnyH_ready (rs := [9, 10, 11]) (by kernel_rfl) (by simp) ?_
  refine AllReadyH.cons (o := Z2n) rfl (fun K hK => ?_) ?_
  ·
   delta Z2n
   go_simp
   obtain ⟨W1, hV⟩ : ∃ V, W0.alloc (.cells #[.int .i64 (0)] 3) = V := ⟨_, rfl⟩; have hbz : Below W0.heap.size W0 W1 := (by rw [← hV]; exact (Below.refl _ _).alloc (Nat.le_refl _) _); have HB1 := Lib.hid (HB0.out.trans (hbz.mono HB0.out.size)); have Nb9' : Hid (Blk W1 W0.heap.size 3 #[.int .i64 (0)]) := (by rw [← hV]; exact Blk.new' _ _ _ rfl); obtain ⟨b9, hz⟩ : ∃ b, W0.heap.size = b := ⟨_, rfl⟩; rw [hz] at Nb9'; have hb9 : Va1.heap.size ≤ b9 := (by rw [← hz]; exact HB0.out.size); have Nb9 := Nb9'; clear Nb9'; rw [hV, hz]; clear hV hbz hz
   refine hK.out _ _ ?_ (fun hHeld => ?_)
   · (try dsimp only); (exact HSV.out _ HB1.out)
   clear hK K
   try simp only [Z2n, ksz]
   refine wpAnyH_ready (rs := [10, 11]) (by kernel_rfl) (by simp) ?_
   refine AllReadyH.cons (o := Z2o) rfl (fun K hK => ?_) ?_
   ·
    delta Z2o
    go_simp
    obtain ⟨W2, hV⟩ : ∃ V, W1.alloc (.cells #[.int .i64 (0)] 3) = V := ⟨_, rfl⟩; have hbz : Below W1.heap.size W1 W2 := (by rw [← hV]; exact (Below.refl _ _).alloc (Nat.le_refl _) _); have HB2 := Lib.hid (HB1.out.trans (hbz.mono HB1.out.size)); have Nb10' : Hid (Blk W2 W1.heap.size 3 #[.int .i64 (0)]) := (by rw [← hV]; exact Blk.new' _ _ _ rfl); obtain ⟨b10, hz⟩ : ∃ b, W1.heap.size = b := ⟨_, rfl⟩; rw [hz] at Nb10'; have hb10 : Va1.heap.size ≤ b10 := (by rw [← hz]; exact HB1.out.size); have Mb9 := Lib.hid (Nb9.out.below hbz Nb9.out.lt); have nb10b9 : ¬ b10 = b9 := (fun e => by have := Nb9.out.lt; omega); have nb9b10 : ¬ b9 = b10 := (fun e => nb10b9 e.symm); clear Nb9; have Nb9 := Mb9; clear Mb9; have Nb10 := Nb10'; clear Nb10'; rw [hV, hz]; clear hV hbz hz
    refine hK.out _ _ ?_ (fun hHeld => ?_)
    · (try dsimp only); (exact HSV.out _ HB2.out)
    clear hK K
    try simp only [Z2o, ksz]
    refine wpAnyH_ready (rs := [11]) (by kernel_rfl) (by simp) ?_
    refine AllReadyH.cons (o := Z2p) rfl (fun K hK => ?_) AllReadyH.nil
    delta Z2p
    go_simp
    obtain ⟨W3, hV⟩ : ∃ V, W2.alloc (.cells #[.int .i64 (0), .int .i64 (0)] 151) = V := ⟨_, rfl⟩; have hbz : Below W2.heap.size W2 W3 := (by rw [← hV]; exact (Below.refl _ _).alloc (Nat.le_refl _) _); have HB3 := Lib.hid (HB2.out.trans (hbz.mono HB2.out.size)); have Nb11' : Hid (Blk W3 W2.heap.size 151 #[.int .i64 (0), .int .i64 (0)]) := (by rw [← hV]; exact Blk.new' _ _ _ rfl); obtain ⟨b11, hz⟩ : ∃ b, W2.heap.size = b := ⟨_, rfl⟩; rw [hz] at Nb11'; have hb11 : Va1.heap.size ≤ b11 := (by rw [← hz]; exact HB2.out.size); have Mb9 := Lib.hid (Nb9.out.below hbz Nb9.out.lt); have nb11b9 : ¬ b11 = b9 := (fun e => by have := Nb9.out.lt; omega); have nb9b11 : ¬ b9 = b11 := (fun e => nb11b9 e.symm); clear Nb9; have Nb9 := Mb9; clear Mb9; have Mb10 := Lib.hid (Nb10.out.below hbz Nb10.out.lt); have nb11b10 : ¬ b11 = b10 := (fun e => by have := Nb10.out.lt; omega); have nb10b11 : ¬ b10 = b11 := (fun e => nb11b10 e.symm); clear Nb10; have Nb10 := Mb10; clear Mb10; have Nb11 := Nb11'; clear Nb11'; rw [hV, hz]; clear hV hbz hz
    refine hK.out _ _ ?_ (fun hHeld => ?_)
    · (try dsimp only); (exact HSV.out _ HB3.out)
    clear hK K
    try simp only [Z2p, ksz]
    have cR0 := Nb9.out.cell 0; have zR0 := Nb9.out.frozen 0; simp only [List.getElem?_toArray, List.getElem?_cons_zero, List.getElem?_cons_succ] at cR0
    refine wpAnyH_ready (rs := [12]) (by kernel_rfl) (by simp) ?_
    refine AllReadyH.cons (o := Z2q) rfl (fun K hK => ?_) AllReadyH.nil
    delta Z2q
    go_simp
    refine hK.out _ _ ?_ (fun hHeld => ?_)
    · (try dsimp only); (exact HSV.out _ (HB3.out.setCell (p := ⟨b9, 0, none⟩) (by exact hb9) _))
    clear hK K
    try simp only [Z2q, ksz]
    obtain ⟨X0, hV⟩ : ∃ V, W3.setCell ⟨b9, 0, none⟩ (.int .i64 (WW)) = V := ⟨_, rfl⟩; have Gb9 : Hid (Blk X0 b9 3 #[.int .i64 (WW)]) := (by rw [← hV]; exact (Nb9.out.set_ 0 (.int .i64 (WW)))); have Gb10 : Hid (Blk X0 b10 3 #[.int .i64 (0)]) := (by rw [← hV]; exact (Nb10.out.far_ (p := ⟨b9, 0, none⟩) nb10b9 _)); have Gb11 : Hid (Blk X0 b11 151 #[.int .i64 (0), .int .i64 (0)]) := (by rw [← hV]; exact (Nb11.out.far_ (p := ⟨b9, 0, none⟩) nb11b9 _)); have GHB : Hid (Below Va1.heap.size Va1 X0) := (by rw [← hV]; exact (HB3.out.setCell (p := ⟨b9, 0, none⟩) (by exact hb9) _)); rw [hV]; clear hV cR0 zR0 Nb9 Nb10 Nb11; have HBX := GHB; clear GHB; have Nb9 := Gb9; clear Gb9; have Nb10 := Gb10; clear Gb10; have Nb11 := Gb11; clear Gb11
    have cR0 := Nb10.out.cell 0; have zR0 := Nb10.out.frozen 0; simp only [List.getElem?_toArray, List.getElem?_cons_zero, List.getElem?_cons_succ] at cR0
    refine wpAnyH_ready (rs := [13]) (by kernel_rfl) (by simp) ?_
    refine AllReadyH.cons (o := Z2r) rfl (fun K hK => ?_) AllReadyH.nil
    delta Z2r
    go_simp
    refine hK.out _ _ ?_ (fun hHeld => ?_)
    · (try dsimp only); (exact HSV.out _ (HBX.out.setCell (p := ⟨b10, 0, none⟩) (by exact hb10) _))
    clear hK K
    try simp only [Z2r, ksz]
    obtain ⟨X1, hV⟩ : ∃ V, X0.setCell ⟨b10, 0, none⟩ (.int .i64 (HH)) = V := ⟨_, rfl⟩; replace Nb9 : Hid (Blk X1 b9 3 #[.int .i64 (WW)]) := (by rw [← hV]; exact (Nb9.out.far_ (p := ⟨b10, 0, none⟩) nb9b10 _)); replace Nb10 : Hid (Blk X1 b10 3 #[.int .i64 (HH)]) := (by rw [← hV]; exact (Nb10.out.set_ 0 (.int .i64 (HH)))); replace Nb11 : Hid (Blk X1 b11 151 #[.int .i64 (0), .int .i64 (0)]) := (by rw [← hV]; exact (Nb11.out.far_ (p := ⟨b10, 0, none⟩) nb11b10 _)); replace HBX : Hid (Below Va1.heap.size Va1 X1) := (by rw [← hV]; exact (HBX.out.setCell (p := ⟨b10, 0, none⟩) (by exact hb10) _)); rw [hV]; clear hV cR0 zR0
    have cR0 := Nb11.out.cell 0; have zR0 := Nb11.out.frozen 0; have cR1 := Nb11.out.cell 1; have zR1 := Nb11.out.frozen 1; simp only [List.getElem?_toArray, List.getElem?_cons_zero, List.getElem?_cons_succ] at cR0 cR1
    refine wpAnyH_ready (rs := [14]) (by kernel_rfl) (by simp) ?_
    refine AllReadyH.cons (o := Z2s) rfl (fun K hK => ?_) AllReadyH.nil
    delta Z2s
    go_simp
    refine hK.out _ _ ?_ (fun hHeld => ?_)
    · (try dsimp only); (exact HSV.out _ ((HBX.out.setCell (p := ⟨b11, 0, none⟩) (by exact hb11) _).setCell (p := ⟨b11, 1, none⟩) (by exact hb11) _))
    clear hK K
    try simp only [Z2s, ksz]
    obtain ⟨X2, hV⟩ : ∃ V, (X1.setCell ⟨b11, 0, none⟩ (.int .i64 (DX))).setCell ⟨b11, 1, none⟩ (.int .i64 (DY)) = V := ⟨_, rfl⟩; replace Nb9 : Hid (Blk X2 b9 3 #[.int .i64 (WW)]) := (by rw [← hV]; exact ((Nb9.out.far_ (p := ⟨b11, 0, none⟩) nb9b11 _).far_ (p := ⟨b11, 1, none⟩) nb9b11 _)); replace Nb10 : Hid (Blk X2 b10 3 #[.int .i64 (HH)]) := (by rw [← hV]; exact ((Nb10.out.far_ (p := ⟨b11, 0, none⟩) nb10b11 _).far_ (p := ⟨b11, 1, none⟩) nb10b11 _)); replace Nb11 : Hid (Blk X2 b11 151 #[.int .i64 (DX), .int .i64 (DY)]) := (by rw [← hV]; exact ((Nb11.out.set_ 0 (.int .i64 (DX))).set_ 1 (.int .i64 (DY)))); replace HBX : Hid (Below Va1.heap.size Va1 X2) := (by rw [← hV]; exact ((HBX.out.setCell (p := ⟨b11, 0, none⟩) (by exact hb11) _).setCell (p := ⟨b11, 1, none⟩) (by exact hb11) _)); rw [hV]; clear hV cR0 zR0 cR1 zR1
    refine wpAnyH_done (by kernel_rfl) ?_ _
    refine NoPanic.normal ?_
    go_wp2_with fail
    go_meet
    exact ⟨b9, b10, b11, rfl, rfl, rfl, Nb9.out, Nb10.out, Nb11.out, (by exact nb9b10), (by exact nb9b11), (by exact nb10b11), (by exact hb9), (by exact hb10), (by exact hb11), HBX.out⟩
   refine AllReadyH.cons (o := Z2p) rfl (fun K hK => ?_) ?_
   ·
    delta Z2p
    go_simp
    obtain ⟨W2, hV⟩ : ∃ V, W1.alloc (.cells #[.int .i64 (0), .int .i64 (0)] 151) = V := ⟨_, rfl⟩; have hbz : Below W1.heap.size W1 W2 := (by rw [← hV]; exact (Below.refl _ _).alloc (Nat.le_refl _) _); have HB2 := Lib.hid (HB1.out.trans (hbz.mono HB1.out.size)); have Nb11' : Hid (Blk W2 W1.heap.size 151 #[.int .i64 (0), .int .i64 (0)]) := (by rw [← hV]; exact Blk.new' _ _ _ rfl); obtain ⟨b11, hz⟩ : ∃ b, W1.heap.size = b := ⟨_, rfl⟩; rw [hz] at Nb11'; have hb11 : Va1.heap.size ≤ b11 := (by rw [← hz]; exact HB1.out.size); have Mb9 := Lib.hid (Nb9.out.below hbz Nb9.out.lt); have nb11b9 : ¬ b11 = b9 := (fun e => by have := Nb9.out.lt; omega); have nb9b11 : ¬ b9 = b11 := (fun e => nb11b9 e.symm); clear Nb9; have Nb9 := Mb9; clear Mb9; have Nb11 := Nb11'; clear Nb11'; rw [hV, hz]; clear hV hbz hz
    refine hK.out _ _ ?_ (fun hHeld => ?_)
    · (try dsimp only); (exact HSV.out _ HB2.out)
    clear hK K
    try simp only [Z2p, ksz]
    refine wpAnyH_ready (rs := [10]) (by kernel_rfl) (by simp) ?_
    refine AllReadyH.cons (o := Z2o) rfl (fun K hK => ?_) AllReadyH.nil
    delta Z2o
    go_simp
    obtain ⟨W3, hV⟩ : ∃ V, W2.alloc (.cells #[.int .i64 (0)] 3) = V := ⟨_, rfl⟩; have hbz : Below W2.heap.size W2 W3 := (by rw [← hV]; exact (Below.refl _ _).alloc (Nat.le_refl _) _); have HB3 := Lib.hid (HB2.out.trans (hbz.mono HB2.out.size)); have Nb10' : Hid (Blk W3 W2.heap.size 3 #[.int .i64 (0)]) := (by rw [← hV]; exact Blk.new' _ _ _ rfl); obtain ⟨b10, hz⟩ : ∃ b, W2.heap.size = b := ⟨_, rfl⟩; rw [hz] at Nb10'; have hb10 : Va1.heap.size ≤ b10 := (by rw [← hz]; exact HB2.out.size); have Mb9 := Lib.hid (Nb9.out.below hbz Nb9.out.lt); have nb10b9 : ¬ b10 = b9 := (fun e => by have := Nb9.out.lt; omega); have nb9b10 : ¬ b9 = b10 := (fun e => nb10b9 e.symm); clear Nb9; have Nb9 := Mb9; clear Mb9; have Mb11 := Lib.hid (Nb11.out.below hbz Nb11.out.lt); have nb10b11 : ¬ b10 = b11 := (fun e => by have := Nb11.out.lt; omega); have nb11b10 : ¬ b11 = b10 := (fun e => nb10b11 e.symm); clear Nb11; have Nb11 := Mb11; clear Mb11; have Nb10 := Nb10'; clear Nb10'; rw [hV, hz]; clear hV hbz hz
    refine hK.out _ _ ?_ (fun hHeld => ?_)
    · (try dsimp only); (exact HSV.out _ HB3.out)
    clear hK K
    try simp only [Z2o, ksz]
    have cR0 := Nb9.out.cell 0; have zR0 := Nb9.out.frozen 0; simp only [List.getElem?_toArray, List.getElem?_cons_zero, List.getElem?_cons_succ] at cR0
    refine wpAnyH_ready (rs := [12]) (by kernel_rfl) (by simp) ?_
    refine AllReadyH.cons (o := Z2q) rfl (fun K hK => ?_) AllReadyH.nil
    delta Z2q
    go_simp
    refine hK.out _ _ ?_ (fun hHeld => ?_)
    · (try dsimp only); (exact HSV.out _ (HB3.out.setCell (p := ⟨b9, 0, none⟩) (by exact hb9) _))
    clear hK K
    try simp only [Z2q, ksz]
    obtain ⟨X0, hV⟩ : ∃ V, W3.setCell ⟨b9, 0, none⟩ (.int .i64 (WW)) = V := ⟨_, rfl⟩; have Gb9 : Hid (Blk X0 b9 3 #[.int .i64 (WW)]) := (by rw [← hV]; exact (Nb9.out.set_ 0 (.int .i64 (WW)))); have Gb11 : Hid (Blk X0 b11 151 #[.int .i64 (0), .int .i64 (0)]) := (by rw [← hV]; exact (Nb11.out.far_ (p := ⟨b9, 0, none⟩) nb11b9 _)); have Gb10 : Hid (Blk X0 b10 3 #[.int .i64 (0)]) := (by rw [← hV]; exact (Nb10.out.far_ (p := ⟨b9, 0, none⟩) nb10b9 _)); have GHB : Hid (Below Va1.heap.size Va1 X0) := (by rw [← hV]; exact (HB3.out.setCell (p := ⟨b9, 0, none⟩) (by exact hb9) _)); rw [hV]; clear hV cR0 zR0 Nb9 Nb11 Nb10; have HBX := GHB; clear GHB; have Nb9 := Gb9; clear Gb9; have Nb11 := Gb11; clear Gb11; have Nb10 := Gb10; clear Gb10
    have cR0 := Nb10.out.cell 0; have zR0 := Nb10.out.frozen 0; simp only [List.getElem?_toArray, List.getElem?_cons_zero, List.getElem?_cons_succ] at cR0
    refine wpAnyH_ready (rs := [13]) (by kernel_rfl) (by simp) ?_
    refine AllReadyH.cons (o := Z2r) rfl (fun K hK => ?_) AllReadyH.nil
    delta Z2r
    go_simp
    refine hK.out _ _ ?_ (fun hHeld => ?_)
    · (try dsimp only); (exact HSV.out _ (HBX.out.setCell (p := ⟨b10, 0, none⟩) (by exact hb10) _))
    clear hK K
    try simp only [Z2r, ksz]
    obtain ⟨X1, hV⟩ : ∃ V, X0.setCell ⟨b10, 0, none⟩ (.int .i64 (HH)) = V := ⟨_, rfl⟩; replace Nb9 : Hid (Blk X1 b9 3 #[.int .i64 (WW)]) := (by rw [← hV]; exact (Nb9.out.far_ (p := ⟨b10, 0, none⟩) nb9b10 _)); replace Nb11 : Hid (Blk X1 b11 151 #[.int .i64 (0), .int .i64 (0)]) := (by rw [← hV]; exact (Nb11.out.far_ (p := ⟨b10, 0, none⟩) nb11b10 _)); replace Nb10 : Hid (Blk X1 b10 3 #[.int .i64 (HH)]) := (by rw [← hV]; exact (Nb10.out.set_ 0 (.int .i64 (HH)))); replace HBX : Hid (Below Va1.heap.size Va1 X1) := (by rw [← hV]; exact (HBX.out.setCell (p := ⟨b10, 0, none⟩) (by exact hb10) _)); rw [hV]; clear hV cR0 zR0
    have cR0 := Nb11.out.cell 0; have zR0 := Nb11.out.frozen 0; have cR1 := Nb11.out.cell 1; have zR1 := Nb11.out.frozen 1; simp only [List.getElem?_toArray, List.getElem?_cons_zero, List.getElem?_cons_succ] at cR0 cR1
    refine wpAnyH_ready (rs := [14]) (by kernel_rfl) (by simp) ?_
    refine AllReadyH.cons (o := Z2s) rfl (fun K hK => ?_) AllReadyH.nil
    delta Z2s
    go_simp
    refine hK.out _ _ ?_ (fun hHeld => ?_)
    · (try dsimp only); (exact HSV.out _ ((HBX.out.setCell (p := ⟨b11, 0, none⟩) (by exact hb11) _).setCell (p := ⟨b11, 1, none⟩) (by exact hb11) _))
    clear hK K
    try simp only [Z2s, ksz]
    obtain ⟨X2, hV⟩ : ∃ V, (X1.setCell ⟨b11, 0, none⟩ (.int .i64 (DX))).setCell ⟨b11, 1, none⟩ (.int .i64 (DY)) = V := ⟨_, rfl⟩; replace Nb9 : Hid (Blk X2 b9 3 #[.int .i64 (WW)]) := (by rw [← hV]; exact ((Nb9.out.far_ (p := ⟨b11, 0, none⟩) nb9b11 _).far_ (p := ⟨b11, 1, none⟩) nb9b11 _)); replace Nb11 : Hid (Blk X2 b11 151 #[.int .i64 (DX), .int .i64 (DY)]) := (by rw [← hV]; exact ((Nb11.out.set_ 0 (.int .i64 (DX))).set_ 1 (.int .i64 (DY)))); replace Nb10 : Hid (Blk X2 b10 3 #[.int .i64 (HH)]) := (by rw [← hV]; exact ((Nb10.out.far_ (p := ⟨b11, 0, none⟩) nb10b11 _).far_ (p := ⟨b11, 1, none⟩) nb10b11 _)); replace HBX : Hid (Below Va1.heap.size Va1 X2) := (by rw [← hV]; exact ((HBX.out.setCell (p := ⟨b11, 0, none⟩) (by exact hb11) _).setCell (p := ⟨b11, 1, none⟩) (by exact hb11) _)); rw [hV]; clear hV cR0 zR0 cR1 zR1
    refine wpAnyH_done (by kernel_rfl) ?_ _
    refine NoPanic.normal ?_
    go_wp2_with fail
    go_meet
    exact ⟨b9, b10, b11, rfl, rfl, rfl, Nb9.out, Nb10.out, Nb11.out, (by exact nb9b10), (by exact nb9b11), (by exact nb10b11), (by exact hb9), (by exact hb10), (by exact hb11), HBX.out⟩
   exact AllReadyH.nil
  refine AllReadyH.cons (o := Z2o) rfl (fun K hK => ?_) ?_
  ·
   delta Z2o
   go_simp
   obtain ⟨W1, hV⟩ : ∃ V, W0.alloc (.cells #[.int .i64 (0)] 3) = V := ⟨_, rfl⟩; have hbz : Below W0.heap.size W0 W1 := (by rw [← hV]; exact (Below.refl _ _).alloc (Nat.le_refl _) _); have HB1 := Lib.hid (HB0.out.trans (hbz.mono HB0.out.size)); have Nb10' : Hid (Blk W1 W0.heap.size 3 #[.int .i64 (0)]) := (by rw [← hV]; exact Blk.new' _ _ _ rfl); obtain ⟨b10, hz⟩ : ∃ b, W0.heap.size = b := ⟨_, rfl⟩; rw [hz] at Nb10'; have hb10 : Va1.heap.size ≤ b10 := (by rw [← hz]; exact HB0.out.size); have Nb10 := Nb10'; clear Nb10'; rw [hV, hz]; clear hV hbz hz
   refine hK.out _ _ ?_ (fun hHeld => ?_)
   · (try dsimp only); (exact HSV.out _ HB1.out)
   clear hK K
   try simp only [Z2o, ksz]
   refine wpAnyH_ready (rs := [9, 11]) (by kernel_rfl) (by simp) ?_
   refine AllReadyH.cons (o := Z2n) rfl (fun K hK => ?_) ?_
   ·
    delta Z2n
    go_simp
    obtain ⟨W2, hV⟩ : ∃ V, W1.alloc (.cells #[.int .i64 (0)] 3) = V := ⟨_, rfl⟩; have hbz : Below W1.heap.size W1 W2 := (by rw [← hV]; exact (Below.refl _ _).alloc (Nat.le_refl _) _); have HB2 := Lib.hid (HB1.out.trans (hbz.mono HB1.out.size)); have Nb9' : Hid (Blk W2 W1.heap.size 3 #[.int .i64 (0)]) := (by rw [← hV]; exact Blk.new' _ _ _ rfl); obtain ⟨b9, hz⟩ : ∃ b, W1.heap.size = b := ⟨_, rfl⟩; rw [hz] at Nb9'; have hb9 : Va1.heap.size ≤ b9 := (by rw [← hz]; exact HB1.out.size); have Mb10 := Lib.hid (Nb10.out.below hbz Nb10.out.lt); have nb9b10 : ¬ b9 = b10 := (fun e => by have := Nb10.out.lt; omega); have nb10b9 : ¬ b10 = b9 := (fun e => nb9b10 e.symm); clear Nb10; have Nb10 := Mb10; clear Mb10; have Nb9 := Nb9'; clear Nb9'; rw [hV, hz]; clear hV hbz hz
    refine hK.out _ _ ?_ (fun hHeld => ?_)
    · (try dsimp only); (exact HSV.out _ HB2.out)
    clear hK K
    try simp only [Z2n, ksz]
    refine wpAnyH_ready (rs := [11]) (by kernel_rfl) (by simp) ?_
    refine AllReadyH.cons (o := Z2p) rfl (fun K hK => ?_) AllReadyH.nil
    delta Z2p
    go_simp
    obtain ⟨W3, hV⟩ : ∃ V, W2.alloc (.cells #[.int .i64 (0), .int .i64 (0)] 151) = V := ⟨_, rfl⟩; have hbz : Below W2.heap.size W2 W3 := (by rw [← hV]; exact (Below.refl _ _).alloc (Nat.le_refl _) _); have HB3 := Lib.hid (HB2.out.trans (hbz.mono HB2.out.size)); have Nb11' : Hid (Blk W3 W2.heap.size 151 #[.int .i64 (0), .int .i64 (0)]) := (by rw [← hV]; exact Blk.new' _ _ _ rfl); obtain ⟨b11, hz⟩ : ∃ b, W2.heap.size = b := ⟨_, rfl⟩; rw [hz] at Nb11'; have hb11 : Va1.heap.size ≤ b11 := (by rw [← hz]; exact HB2.out.size); have Mb10 := Lib.hid (Nb10.out.below hbz Nb10.out.lt); have nb11b10 : ¬ b11 = b10 := (fun e => by have := Nb10.out.lt; omega); have nb10b11 : ¬ b10 = b11 := (fun e => nb11b10 e.symm); clear Nb10; have Nb10 := Mb10; clear Mb10; have Mb9 := Lib.hid (Nb9.out.below hbz Nb9.out.lt); have nb11b9 : ¬ b11 = b9 := (fun e => by have := Nb9.out.lt; omega); have nb9b11 : ¬ b9 = b11 := (fun e => nb11b9 e.symm); clear Nb9; have Nb9 := Mb9; clear Mb9; have Nb11 := Nb11'; clear Nb11'; rw [hV, hz]; clear hV hbz hz
    refine hK.out _ _ ?_ (fun hHeld => ?_)
    · (try dsimp only); (exact HSV.out _ HB3.out)
    clear hK K
    try simp only [Z2p, ksz]
    have cR0 := Nb9.out.cell 0; have zR0 := Nb9.out.frozen 0; simp only [List.getElem?_toArray, List.getElem?_cons_zero, List.getElem?_cons_succ] at cR0
    refine wpAnyH_ready (rs := [12]) (by kernel_rfl) (by simp) ?_
    refine AllReadyH.cons (o := Z2q) rfl (fun K hK => ?_) AllReadyH.nil
    delta Z2q
    go_simp
    refine hK.out _ _ ?_ (fun hHeld => ?_)
    · (try dsimp only); (exact HSV.out _ (HB3.out.setCell (p := ⟨b9, 0, none⟩) (by exact hb9) _))
    clear hK K
    try simp only [Z2q, ksz]
    obtain ⟨X0, hV⟩ : ∃ V, W3.setCell ⟨b9, 0, none⟩ (.int .i64 (WW)) = V := ⟨_, rfl⟩; have Gb10 : Hid (Blk X0 b10 3 #[.int .i64 (0)]) := (by rw [← hV]; exact (Nb10.out.far_ (p := ⟨b9, 0, none⟩) nb10b9 _)); have Gb9 : Hid (Blk X0 b9 3 #[.int .i64 (WW)]) := (by rw [← hV]; exact (Nb9.out.set_ 0 (.int .i64 (WW)))); have Gb11 : Hid (Blk X0 b11 151 #[.int .i64 (0), .int .i64 (0)]) := (by rw [← hV]; exact (Nb11.out.far_ (p := ⟨b9, 0, none⟩) nb11b9 _)); have GHB : Hid (Below Va1.heap.size Va1 X0) := (by rw [← hV]; exact (HB3.out.setCell (p := ⟨b9, 0, none⟩) (by exact hb9) _)); rw [hV]; clear hV cR0 zR0 Nb10 Nb9 Nb11; have HBX := GHB; clear GHB; have Nb10 := Gb10; clear Gb10; have Nb9 := Gb9; clear Gb9; have Nb11 := Gb11; clear Gb11
    have cR0 := Nb10.out.cell 0; have zR0 := Nb10.out.frozen 0; simp only [List.getElem?_toArray, List.getElem?_cons_zero, List.getElem?_cons_succ] at cR0
    refine wpAnyH_ready (rs := [13]) (by kernel_rfl) (by simp) ?_
    refine AllReadyH.cons (o := Z2r) rfl (fun K hK => ?_) AllReadyH.nil
    delta Z2r
    go_simp
    refine hK.out _ _ ?_ (fun hHeld => ?_)
    · (try dsimp only); (exact HSV.out _ (HBX.out.setCell (p := ⟨b10, 0, none⟩) (by exact hb10) _))
    clear hK K
    try simp only [Z2r, ksz]
    obtain ⟨X1, hV⟩ : ∃ V, X0.setCell ⟨b10, 0, none⟩ (.int .i64 (HH)) = V := ⟨_, rfl⟩; replace Nb10 : Hid (Blk X1 b10 3 #[.int .i64 (HH)]) := (by rw [← hV]; exact (Nb10.out.set_ 0 (.int .i64 (HH)))); replace Nb9 : Hid (Blk X1 b9 3 #[.int .i64 (WW)]) := (by rw [← hV]; exact (Nb9.out.far_ (p := ⟨b10, 0, none⟩) nb9b10 _)); replace Nb11 : Hid (Blk X1 b11 151 #[.int .i64 (0), .int .i64 (0)]) := (by rw [← hV]; exact (Nb11.out.far_ (p := ⟨b10, 0, none⟩) nb11b10 _)); replace HBX : Hid (Below Va1.heap.size Va1 X1) := (by rw [← hV]; exact (HBX.out.setCell (p := ⟨b10, 0, none⟩) (by exact hb10) _)); rw [hV]; clear hV cR0 zR0
    have cR0 := Nb11.out.cell 0; have zR0 := Nb11.out.frozen 0; have cR1 := Nb11.out.cell 1; have zR1 := Nb11.out.frozen 1; simp only [List.getElem?_toArray, List.getElem?_cons_zero, List.getElem?_cons_succ] at cR0 cR1
    refine wpAnyH_ready (rs := [14]) (by kernel_rfl) (by simp) ?_
    refine AllReadyH.cons (o := Z2s) rfl (fun K hK => ?_) AllReadyH.nil
    delta Z2s
    go_simp
    refine hK.out _ _ ?_ (fun hHeld => ?_)
    · (try dsimp only); (exact HSV.out _ ((HBX.out.setCell (p := ⟨b11, 0, none⟩) (by exact hb11) _).setCell (p := ⟨b11, 1, none⟩) (by exact hb11) _))
    clear hK K
    try simp only [Z2s, ksz]
    obtain ⟨X2, hV⟩ : ∃ V, (X1.setCell ⟨b11, 0, none⟩ (.int .i64 (DX))).setCell ⟨b11, 1, none⟩ (.int .i64 (DY)) = V := ⟨_, rfl⟩; replace Nb10 : Hid (Blk X2 b10 3 #[.int .i64 (HH)]) := (by rw [← hV]; exact ((Nb10.out.far_ (p := ⟨b11, 0, none⟩) nb10b11 _).far_ (p := ⟨b11, 1, none⟩) nb10b11 _)); replace Nb9 : Hid (Blk X2 b9 3 #[.int .i64 (WW)]) := (by rw [← hV]; exact ((Nb9.out.far_ (p := ⟨b11, 0, none⟩) nb9b11 _).far_ (p := ⟨b11, 1, none⟩) nb9b11 _)); replace Nb11 : Hid (Blk X2 b11 151 #[.int .i64 (DX), .int .i64 (DY)]) := (by rw [← hV]; exact ((Nb11.out.set_ 0 (.int .i64 (DX))).set_ 1 (.int .i64 (DY)))); replace HBX : Hid (Below Va1.heap.size Va1 X2) := (by rw [← hV]; exact ((HBX.out.setCell (p := ⟨b11, 0, none⟩) (by exact hb11) _).setCell (p := ⟨b11, 1, none⟩) (by exact hb11) _)); rw [hV]; clear hV cR0 zR0 cR1 zR1
    refine wpAnyH_done (by kernel_rfl) ?_ _
    refine NoPanic.normal ?_
    go_wp2_with fail
    go_meet
    exact ⟨b9, b10, b11, rfl, rfl, rfl, Nb9.out, Nb10.out, Nb11.out, (by exact nb9b10), (by exact nb9b11), (by exact nb10b11), (by exact hb9), (by exact hb10), (by exact hb11), HBX.out⟩
   refine AllReadyH.cons (o := Z2p) rfl (fun K hK => ?_) ?_
   ·
    delta Z2p
    go_simp
    obtain ⟨W2, hV⟩ : ∃ V, W1.alloc (.cells #[.int .i64 (0), .int .i64 (0)] 151) = V := ⟨_, rfl⟩; have hbz : Below W1.heap.size W1 W2 := (by rw [← hV]; exact (Below.refl _ _).alloc (Nat.le_refl _) _); have HB2 := Lib.hid (HB1.out.trans (hbz.mono HB1.out.size)); have Nb11' : Hid (Blk W2 W1.heap.size 151 #[.int .i64 (0), .int .i64 (0)]) := (by rw [← hV]; exact Blk.new' _ _ _ rfl); obtain ⟨b11, hz⟩ : ∃ b, W1.heap.size = b := ⟨_, rfl⟩; rw [hz] at Nb11'; have hb11 : Va1.heap.size ≤ b11 := (by rw [← hz]; exact HB1.out.size); have Mb10 := Lib.hid (Nb10.out.below hbz Nb10.out.lt); have nb11b10 : ¬ b11 = b10 := (fun e => by have := Nb10.out.lt; omega); have nb10b11 : ¬ b10 = b11 := (fun e => nb11b10 e.symm); clear Nb10; have Nb10 := Mb10; clear Mb10; have Nb11 := Nb11'; clear Nb11'; rw [hV, hz]; clear hV hbz hz
    refine hK.out _ _ ?_ (fun hHeld => ?_)
    · (try dsimp only); (exact HSV.out _ HB2.out)
    clear hK K
    try simp only [Z2p, ksz]
    refine wpAnyH_ready (rs := [9]) (by kernel_rfl) (by simp) ?_
    refine AllReadyH.cons (o := Z2n) rfl (fun K hK => ?_) AllReadyH.nil
    delta Z2n
    go_simp
    obtain ⟨W3, hV⟩ : ∃ V, W2.alloc (.cells #[.int .i64 (0)] 3) = V := ⟨_, rfl⟩; have hbz : Below W2.heap.size W2 W3 := (by rw [← hV]; exact (Below.refl _ _).alloc (Nat.le_refl _) _); have HB3 := Lib.hid (HB2.out.trans (hbz.mono HB2.out.size)); have Nb9' : Hid (Blk W3 W2.heap.size 3 #[.int .i64 (0)]) := (by rw [← hV]; exact Blk.new' _ _ _ rfl); obtain ⟨b9, hz⟩ : ∃ b, W2.heap.size = b := ⟨_, rfl⟩; rw [hz] at Nb9'; have hb9 : Va1.heap.size ≤ b9 := (by rw [← hz]; exact HB2.out.size); have Mb10 := Lib.hid (Nb10.out.below hbz Nb10.out.lt); have nb9b10 : ¬ b9 = b10 := (fun e => by have := Nb10.out.lt; omega); have nb10b9 : ¬ b10 = b9 := (fun e => nb9b10 e.symm); clear Nb10; have Nb10 := Mb10; clear Mb10; have Mb11 := Lib.hid (Nb11.out.below hbz Nb11.out.lt); have nb9b11 : ¬ b9 = b11 := (fun e => by have := Nb11.out.lt; omega); have nb11b9 : ¬ b11 = b9 := (fun e => nb9b11 e.symm); clear Nb11; have Nb11 := Mb11; clear Mb11; have Nb9 := Nb9'; clear Nb9'; rw [hV, hz]; clear hV hbz hz
    refine hK.out _ _ ?_ (fun hHeld => ?_)
    · (try dsimp only); (exact HSV.out _ HB3.out)
    clear hK K
    try simp only [Z2n, ksz]
    have cR0 := Nb9.out.cell 0; have zR0 := Nb9.out.frozen 0; simp only [List.getElem?_toArray, List.getElem?_cons_zero, List.getElem?_cons_succ] at cR0
    refine wpAnyH_ready (rs := [12]) (by kernel_rfl) (by simp) ?_
    refine AllReadyH.cons (o := Z2q) rfl (fun K hK => ?_) AllReadyH.nil
    delta Z2q
    go_simp
    refine hK.out _ _ ?_ (fun hHeld => ?_)
    · (try dsimp only); (exact HSV.out _ (HB3.out.setCell (p := ⟨b9, 0, none⟩) (by exact hb9) _))
    clear hK K
    try simp only [Z2q, ksz]
    obtain ⟨X0, hV⟩ : ∃ V, W3.setCell ⟨b9, 0, none⟩ (.int .i64 (WW)) = V := ⟨_, rfl⟩; have Gb10 : Hid (Blk X0 b10 3 #[.int .i64 (0)]) := (by rw [← hV]; exact (Nb10.out.far_ (p := ⟨b9, 0, none⟩) nb10b9 _)); have Gb11 : Hid (Blk X0 b11 151 #[.int .i64 (0), .int .i64 (0)]) := (by rw [← hV]; exact (Nb11.out.far_ (p := ⟨b9, 0, none⟩) nb11b9 _)); have Gb9 : Hid (Blk X0 b9 3 #[.int .i64 (WW)]) := (by rw [← hV]; exact (Nb9.out.set_ 0 (.int .i64 (WW)))); have GHB : Hid (Below Va1.heap.size Va1 X0) := (by rw [← hV]; exact (HB3.out.setCell (p := ⟨b9, 0, none⟩) (by exact hb9) _)); rw [hV]; clear hV cR0 zR0 Nb10 Nb11 Nb9; have HBX := GHB; clear GHB; have Nb10 := Gb10; clear Gb10; have Nb11 := Gb11; clear Gb11; have Nb9 := Gb9; clear Gb9
    have cR0 := Nb10.out.cell 0; have zR0 := Nb10.out.frozen 0; simp only [List.getElem?_toArray, List.getElem?_cons_zero, List.getElem?_cons_succ] at cR0
    refine wpAnyH_ready (rs := [13]) (by kernel_rfl) (by simp) ?_
    refine AllReadyH.cons (o := Z2r) rfl (fun K hK => ?_) AllReadyH.nil
    delta Z2r
    go_simp
    refine hK.out _ _ ?_ (fun hHeld => ?_)
    · (try dsimp only); (exact HSV.out _ (HBX.out.setCell (p := ⟨b10, 0, none⟩) (by exact hb10) _))
    clear hK K
    try simp only [Z2r, ksz]
    obtain ⟨X1, hV⟩ : ∃ V, X0.setCell ⟨b10, 0, none⟩ (.int .i64 (HH)) = V := ⟨_, rfl⟩; replace Nb10 : Hid (Blk X1 b10 3 #[.int .i64 (HH)]) := (by rw [← hV]; exact (Nb10.out.set_ 0 (.int .i64 (HH)))); replace Nb11 : Hid (Blk X1 b11 151 #[.int .i64 (0), .int .i64 (0)]) := (by rw [← hV]; exact (Nb11.out.far_ (p := ⟨b10, 0, none⟩) nb11b10 _)); replace Nb9 : Hid (Blk X1 b9 3 #[.int .i64 (WW)]) := (by rw [← hV]; exact (Nb9.out.far_ (p := ⟨b10, 0, none⟩) nb9b10 _)); replace HBX : Hid (Below Va1.heap.size Va1 X1) := (by rw [← hV]; exact (HBX.out.setCell (p := ⟨b10, 0, none⟩) (by exact hb10) _)); rw [hV]; clear hV cR0 zR0
    have cR0 := Nb11.out.cell 0; have zR0 := Nb11.out.frozen 0; have cR1 := Nb11.out.cell 1; have zR1 := Nb11.out.frozen 1; simp only [List.getElem?_toArray, List.getElem?_cons_zero, List.getElem?_cons_succ] at cR0 cR1
    refine wpAnyH_ready (rs := [14]) (by kernel_rfl) (by simp) ?_
    refine AllReadyH.cons (o := Z2s) rfl (fun K hK => ?_) AllReadyH.nil
    delta Z2s
    go_simp
    refine hK.out _ _ ?_ (fun hHeld => ?_)
    · (try dsimp only); (exact HSV.out _ ((HBX.out.setCell (p := ⟨b11, 0, none⟩) (by exact hb11) _).setCell (p := ⟨b11, 1, none⟩) (by exact hb11) _))
    clear hK K
    try simp only [Z2s, ksz]
    obtain ⟨X2, hV⟩ : ∃ V, (X1.setCell ⟨b11, 0, none⟩ (.int .i64 (DX))).setCell ⟨b11, 1, none⟩ (.int .i64 (DY)) = V := ⟨_, rfl⟩; replace Nb10 : Hid (Blk X2 b10 3 #[.int .i64 (HH)]) := (by rw [← hV]; exact ((Nb10.out.far_ (p := ⟨b11, 0, none⟩) nb10b11 _).far_ (p := ⟨b11, 1, none⟩) nb10b11 _)); replace Nb11 : Hid (Blk X2 b11 151 #[.int .i64 (DX), .int .i64 (DY)]) := (by rw [← hV]; exact ((Nb11.out.set_ 0 (.int .i64 (DX))).set_ 1 (.int .i64 (DY)))); replace Nb9 : Hid (Blk X2 b9 3 #[.int .i64 (WW)]) := (by rw [← hV]; exact ((Nb9.out.far_ (p := ⟨b11, 0, none⟩) nb9b11 _).far_ (p := ⟨b11, 1, none⟩) nb9b11 _)); replace HBX : Hid (Below Va1.heap.size Va1 X2) := (by rw [← hV]; exact ((HBX.out.setCell (p := ⟨b11, 0, none⟩) (by exact hb11) _).setCell (p := ⟨b11, 1, none⟩) (by exact hb11) _)); rw [hV]; clear hV cR0 zR0 cR1 zR1
    refine wpAnyH_done (by kernel_rfl) ?_ _
    refine NoPanic.normal ?_
    go_wp2_with fail
    go_meet
    exact ⟨b9, b10, b11, rfl, rfl, rfl, Nb9.out, Nb10.out, Nb11.out, (by exact nb9b10), (by exact nb9b11), (by exact nb10b11), (by exact hb9), (by exact hb10), (by exact hb11), HBX.out⟩
   exact AllReadyH.nil
  refine AllReadyH.cons (o := Z2p) rfl (fun K hK => ?_) ?_
  ·
   delta Z2p
   go_simp
   obtain ⟨W1, hV⟩ : ∃ V, W0.alloc (.cells #[.int .i64 (0), .int .i64 (0)] 151) = V := ⟨_, rfl⟩; have hbz : Below W0.heap.size W0 W1 := (by rw [← hV]; exact (Below.refl _ _).alloc (Nat.le_refl _) _); have HB1 := Lib.hid (HB0.out.trans (hbz.mono HB0.out.size)); have Nb11' : Hid (Blk W1 W0.heap.size 151 #[.int .i64 (0), .int .i64 (0)]) := (by rw [← hV]; exact Blk.new' _ _ _ rfl); obtain ⟨b11, hz⟩ : ∃ b, W0.heap.size = b := ⟨_, rfl⟩; rw [hz] at Nb11'; have hb11 : Va1.heap.size ≤ b11 := (by rw [← hz]; exact HB0.out.size); have Nb11 := Nb11'; clear Nb11'; rw [hV, hz]; clear hV hbz hz
   refine hK.out _ _ ?_ (fun hHeld => ?_)
   · (try dsimp only); (exact HSV.out _ HB1.out)
   clear hK K
   try simp only [Z2p, ksz]
   refine wpAnyH_ready (rs := [9, 10]) (by kernel_rfl) (by simp) ?_
   refine AllReadyH.cons (o := Z2n) rfl (fun K hK => ?_) ?_
   ·
    delta Z2n
    go_simp
    obtain ⟨W2, hV⟩ : ∃ V, W1.alloc (.cells #[.int .i64 (0)] 3) = V := ⟨_, rfl⟩; have hbz : Below W1.heap.size W1 W2 := (by rw [← hV]; exact (Below.refl _ _).alloc (Nat.le_refl _) _); have HB2 := Lib.hid (HB1.out.trans (hbz.mono HB1.out.size)); have Nb9' : Hid (Blk W2 W1.heap.size 3 #[.int .i64 (0)]) := (by rw [← hV]; exact Blk.new' _ _ _ rfl); obtain ⟨b9, hz⟩ : ∃ b, W1.heap.size = b := ⟨_, rfl⟩; rw [hz] at Nb9'; have hb9 : Va1.heap.size ≤ b9 := (by rw [← hz]; exact HB1.out.size); have Mb11 := Lib.hid (Nb11.out.below hbz Nb11.out.lt); have nb9b11 : ¬ b9 = b11 := (fun e => by have := Nb11.out.lt; omega); have nb11b9 : ¬ b11 = b9 := (fun e => nb9b11 e.symm); clear Nb11; have Nb11 := Mb11; clear Mb11; have Nb9 := Nb9'; clear Nb9'; rw [hV, hz]; clear hV hbz hz
    refine hK.out _ _ ?_ (fun hHeld => ?_)
    · (try dsimp only); (exact HSV.out _ HB2.out)
    clear hK K
    try simp only [Z2n, ksz]
    refine wpAnyH_ready (rs := [10]) (by kernel_rfl) (by simp) ?_
    refine AllReadyH.cons (o := Z2o) rfl (fun K hK => ?_) AllReadyH.nil
    delta Z2o
    go_simp
    obtain ⟨W3, hV⟩ : ∃ V, W2.alloc (.cells #[.int .i64 (0)] 3) = V := ⟨_, rfl⟩; have hbz : Below W2.heap.size W2 W3 := (by rw [← hV]; exact (Below.refl _ _).alloc (Nat.le_refl _) _); have HB3 := Lib.hid (HB2.out.trans (hbz.mono HB2.out.size)); have Nb10' : Hid (Blk W3 W2.heap.size 3 #[.int .i64 (0)]) := (by rw [← hV]; exact Blk.new' _ _ _ rfl); obtain ⟨b10, hz⟩ : ∃ b, W2.heap.size = b := ⟨_, rfl⟩; rw [hz] at Nb10'; have hb10 : Va1.heap.size ≤ b10 := (by rw [← hz]; exact HB2.out.size); have Mb11 := Lib.hid (Nb11.out.below hbz Nb11.out.lt); have nb10b11 : ¬ b10 = b11 := (fun e => by have := Nb11.out.lt; omega); have nb11b10 : ¬ b11 = b10 := (fun e => nb10b11 e.symm); clear Nb11; have Nb11 := Mb11; clear Mb11; have Mb9 := Lib.hid (Nb9.out.below hbz Nb9.out.lt); have nb10b9 : ¬ b10 = b9 := (fun e => by have := Nb9.out.lt; omega); have nb9b10 : ¬ b9 = b10 := (fun e => nb10b9 e.symm); clear Nb9; have Nb9 := Mb9; clear Mb9; have Nb10 := Nb10'; clear Nb10'; rw [hV, hz]; clear hV hbz hz
    refine hK.out _ _ ?_ (fun hHeld => ?_)
    · (try dsimp only); (exact HSV.out _ HB3.out)
    clear hK K
    try simp only [Z2o, ksz]
    have cR0 := Nb9.out.cell 0; have zR0 := Nb9.out.frozen 0; simp only [List.getElem?_toArray, List.getElem?_cons_zero, List.getElem?_cons_succ] at cR0
    refine wpAnyH_ready (rs := [12]) (by kernel_rfl) (by simp) ?_
    refine AllReadyH.cons (o := Z2q) rfl (fun K hK => ?_) AllReadyH.nil
    delta Z2q
    go_simp
    refine hK.out _ _ ?_ (fun hHeld => ?_)
    · (try dsimp only); (exact HSV.out _ (HB3.out.setCell (p := ⟨b9, 0, none⟩) (by exact hb9) _))
    clear hK K
    try simp only [Z2q, ksz]
    obtain ⟨X0, hV⟩ : ∃ V, W3.setCell ⟨b9, 0, none⟩ (.int .i64 (WW)) = V := ⟨_, rfl⟩; have Gb11 : Hid (Blk X0 b11 151 #[.int .i64 (0), .int .i64 (0)]) := (by rw [← hV]; exact (Nb11.out.far_ (p := ⟨b9, 0, none⟩) nb11b9 _)); have Gb9 : Hid (Blk X0 b9 3 #[.int .i64 (WW)]) := (by rw [← hV]; exact (Nb9.out.set_ 0 (.int .i64 (WW)))); have Gb10 : Hid (Blk X0 b10 3 #[.int .i64 (0)]) := (by rw [← hV]; exact (Nb10.out.far_ (p := ⟨b9, 0, none⟩) nb10b9 _)); have GHB : Hid (Below Va1.heap.size Va1 X0) := (by rw [← hV]; exact (HB3.out.setCell (p := ⟨b9, 0, none⟩) (by exact hb9) _)); rw [hV]; clear hV cR0 zR0 Nb11 Nb9 Nb10; have HBX := GHB; clear GHB; have Nb11 := Gb11; clear Gb11; have Nb9 := Gb9; clear Gb9; have Nb10 := Gb10; clear Gb10
    have cR0 := Nb10.out.cell 0; have zR0 := Nb10.out.frozen 0; simp only [List.getElem?_toArray, List.getElem?_cons_zero, List.getElem?_cons_succ] at cR0
    refine wpAnyH_ready (rs := [13]) (by kernel_rfl) (by simp) ?_
    refine AllReadyH.cons (o := Z2r) rfl (fun K hK => ?_) AllReadyH.nil
    delta Z2r
    go_simp
    refine hK.out _ _ ?_ (fun hHeld => ?_)
    · (try dsimp only); (exact HSV.out _ (HBX.out.setCell (p := ⟨b10, 0, none⟩) (by exact hb10) _))
    clear hK K
    try simp only [Z2r, ksz]
    obtain ⟨X1, hV⟩ : ∃ V, X0.setCell ⟨b10, 0, none⟩ (.int .i64 (HH)) = V := ⟨_, rfl⟩; replace Nb11 : Hid (Blk X1 b11 151 #[.int .i64 (0), .int .i64 (0)]) := (by rw [← hV]; exact (Nb11.out.far_ (p := ⟨b10, 0, none⟩) nb11b10 _)); replace Nb9 : Hid (Blk X1 b9 3 #[.int .i64 (WW)]) := (by rw [← hV]; exact (Nb9.out.far_ (p := ⟨b10, 0, none⟩) nb9b10 _)); replace Nb10 : Hid (Blk X1 b10 3 #[.int .i64 (HH)]) := (by rw [← hV]; exact (Nb10.out.set_ 0 (.int .i64 (HH)))); replace HBX : Hid (Below Va1.heap.size Va1 X1) := (by rw [← hV]; exact (HBX.out.setCell (p := ⟨b10, 0, none⟩) (by exact hb10) _)); rw [hV]; clear hV cR0 zR0
    have cR0 := Nb11.out.cell 0; have zR0 := Nb11.out.frozen 0; have cR1 := Nb11.out.cell 1; have zR1 := Nb11.out.frozen 1; simp only [List.getElem?_toArray, List.getElem?_cons_zero, List.getElem?_cons_succ] at cR0 cR1
    refine wpAnyH_ready (rs := [14]) (by kernel_rfl) (by simp) ?_
    refine AllReadyH.cons (o := Z2s) rfl (fun K hK => ?_) AllReadyH.nil
    delta Z2s
    go_simp
    refine hK.out _ _ ?_ (fun hHeld => ?_)
    · (try dsimp only); (exact HSV.out _ ((HBX.out.setCell (p := ⟨b11, 0, none⟩) (by exact hb11) _).setCell (p := ⟨b11, 1, none⟩) (by exact hb11) _))
    clear hK K
    try simp only [Z2s, ksz]
    obtain ⟨X2, hV⟩ : ∃ V, (X1.setCell ⟨b11, 0, none⟩ (.int .i64 (DX))).setCell ⟨b11, 1, none⟩ (.int .i64 (DY)) = V := ⟨_, rfl⟩; replace Nb11 : Hid (Blk X2 b11 151 #[.int .i64 (DX), .int .i64 (DY)]) := (by rw [← hV]; exact ((Nb11.out.set_ 0 (.int .i64 (DX))).set_ 1 (.int .i64 (DY)))); replace Nb9 : Hid (Blk X2 b9 3 #[.int .i64 (WW)]) := (by rw [← hV]; exact ((Nb9.out.far_ (p := ⟨b11, 0, none⟩) nb9b11 _).far_ (p := ⟨b11, 1, none⟩) nb9b11 _)); replace Nb10 : Hid (Blk X2 b10 3 #[.int .i64 (HH)]) := (by rw [← hV]; exact ((Nb10.out.far_ (p := ⟨b11, 0, none⟩) nb10b11 _).far_ (p := ⟨b11, 1, none⟩) nb10b11 _)); replace HBX : Hid (Below Va1.heap.size Va1 X2) := (by rw [← hV]; exact ((HBX.out.setCell (p := ⟨b11, 0, none⟩) (by exact hb11) _).setCell (p := ⟨b11, 1, none⟩) (by exact hb11) _)); rw [hV]; clear hV cR0 zR0 cR1 zR1
    refine wpAnyH_done (by kernel_rfl) ?_ _
    refine NoPanic.normal ?_
    go_wp2_with fail
    go_meet
    exact ⟨b9, b10, b11, rfl, rfl, rfl, Nb9.out, Nb10.out, Nb11.out, (by exact nb9b10), (by exact nb9b11), (by exact nb10b11), (by exact hb9), (by exact hb10), (by exact hb11), HBX.out⟩
   refine AllReadyH.cons (o := Z2o) rfl (fun K hK => ?_) ?_
   ·
    delta Z2o
    go_simp
    obtain ⟨W2, hV⟩ : ∃ V, W1.alloc (.cells #[.int .i64 (0)] 3) = V := ⟨_, rfl⟩; have hbz : Below W1.heap.size W1 W2 := (by rw [← hV]; exact (Below.refl _ _).alloc (Nat.le_refl _) _); have HB2 := Lib.hid (HB1.out.trans (hbz.mono HB1.out.size)); have Nb10' : Hid (Blk W2 W1.heap.size 3 #[.int .i64 (0)]) := (by rw [← hV]; exact Blk.new' _ _ _ rfl); obtain ⟨b10, hz⟩ : ∃ b, W1.heap.size = b := ⟨_, rfl⟩; rw [hz] at Nb10'; have hb10 : Va1.heap.size ≤ b10 := (by rw [← hz]; exact HB1.out.size); have Mb11 := Lib.hid (Nb11.out.below hbz Nb11.out.lt); have nb10b11 : ¬ b10 = b11 := (fun e => by have := Nb11.out.lt; omega); have nb11b10 : ¬ b11 = b10 := (fun e => nb10b11 e.symm); clear Nb11; have Nb11 := Mb11; clear Mb11; have Nb10 := Nb10'; clear Nb10'; rw [hV, hz]; clear hV hbz hz
    refine hK.out _ _ ?_ (fun hHeld => ?_)
    · (try dsimp only); (exact HSV.out _ HB2.out)
    clear hK K
    try simp only [Z2o, ksz]
    refine wpAnyH_ready (rs := [9]) (by kernel_rfl) (by simp) ?_
    refine AllReadyH.cons (o := Z2n) rfl (fun K hK => ?_) AllReadyH.nil
    delta Z2n
    go_simp
    obtain ⟨W3, hV⟩ : ∃ V, W2.alloc (.cells #[.int .i64 (0)] 3) = V := ⟨_, rfl⟩; have hbz : Below W2.heap.size W2 W3 := (by rw [← hV]; exact (Below.refl _ _).alloc (Nat.le_refl _) _); have HB3 := Lib.hid (HB2.out.trans (hbz.mono HB2.out.size)); have Nb9' : Hid (Blk W3 W2.heap.size 3 #[.int .i64 (0)]) := (by rw [← hV]; exact Blk.new' _ _ _ rfl); obtain ⟨b9, hz⟩ : ∃ b, W2.heap.size = b := ⟨_, rfl⟩; rw [hz] at Nb9'; have hb9 : Va1.heap.size ≤ b9 := (by rw [← hz]; exact HB2.out.size); have Mb11 := Lib.hid (Nb11.out.below hbz Nb11.out.lt); have nb9b11 : ¬ b9 = b11 := (fun e => by have := Nb11.out.lt; omega); have nb11b9 : ¬ b11 = b9 := (fun e => nb9b11 e.symm); clear Nb11; have Nb11 := Mb11; clear Mb11; have Mb10 := Lib.hid (Nb10.out.below hbz Nb10.out.lt); have nb9b10 : ¬ b9 = b10 := (fun e => by have := Nb10.out.lt; omega); have nb10b9 : ¬ b10 = b9 := (fun e => nb9b10 e.symm); clear Nb10; have Nb10 := Mb10; clear Mb10; have Nb9 := Nb9'; clear Nb9'; rw [hV, hz]; clear hV hbz hz
    refine hK.out _ _ ?_ (fun hHeld => ?_)
    · (try dsimp only); (exact HSV.out _ HB3.out)
    clear hK K
    try simp only [Z2n, ksz]
    have cR0 := Nb9.out.cell 0; have zR0 := Nb9.out.frozen 0; simp only [List.getElem?_toArray, List.getElem?_cons_zero, List.getElem?_cons_succ] at cR0
    refine wpAnyH_ready (rs := [12]) (by kernel_rfl) (by simp) ?_
    refine AllReadyH.cons (o := Z2q) rfl (fun K hK => ?_) AllReadyH.nil
    delta Z2q
    go_simp
    refine hK.out _ _ ?_ (fun hHeld => ?_)
    · (try dsimp only); (exact HSV.out _ (HB3.out.setCell (p := ⟨b9, 0, none⟩) (by exact hb9) _))
    clear hK K
    try simp only [Z2q, ksz]
    obtain ⟨X0, hV⟩ : ∃ V, W3.setCell ⟨b9, 0, none⟩ (.int .i64 (WW)) = V := ⟨_, rfl⟩; have Gb11 : Hid (Blk X0 b11 151 #[.int .i64 (0), .int .i64 (0)]) := (by rw [← hV]; exact (Nb11.out.far_ (p := ⟨b9, 0, none⟩) nb11b9 _)); have Gb10 : Hid (Blk X0 b10 3 #[.int .i64 (0)]) := (by rw [← hV]; exact (Nb10.out.far_ (p := ⟨b9, 0, none⟩) nb10b9 _)); have Gb9 : Hid (Blk X0 b9 3 #[.int .i64 (WW)]) := (by rw [← hV]; exact (Nb9.out.set_ 0 (.int .i64 (WW)))); have GHB : Hid (Below Va1.heap.size Va1 X0) := (by rw [← hV]; exact (HB3.out.setCell (p := ⟨b9, 0, none⟩) (by exact hb9) _)); rw [hV]; clear hV cR0 zR0 Nb11 Nb10 Nb9; have HBX := GHB; clear GHB; have Nb11 := Gb11; clear Gb11; have Nb10 := Gb10; clear Gb10; have Nb9 := Gb9; clear Gb9
    have cR0 := Nb10.out.cell 0; have zR0 := Nb10.out.frozen 0; simp only [List.getElem?_toArray, List.getElem?_cons_zero, List.getElem?_cons_succ] at cR0
    refine wpAnyH_ready (rs := [13]) (by kernel_rfl) (by simp) ?_
    refine AllReadyH.cons (o := Z2r) rfl (fun K hK => ?_) AllReadyH.nil
    delta Z2r
    go_simp
    refine hK.out _ _ ?_ (fun hHeld => ?_)
    · (try dsimp only); (exact HSV.out _ (HBX.out.setCell (p := ⟨b10, 0, none⟩) (by exact hb10) _))
    clear hK K
    try simp only [Z2r, ksz]
    obtain ⟨X1, hV⟩ : ∃ V, X0.setCell ⟨b10, 0, none⟩ (.int .i64 (HH)) = V := ⟨_, rfl⟩; replace Nb11 : Hid (Blk X1 b11 151 #[.int .i64 (0), .int .i64 (0)]) := (by rw [← hV]; exact (Nb11.out.far_ (p := ⟨b10, 0, none⟩) nb11b10 _)); replace Nb10 : Hid (Blk X1 b10 3 #[.int .i64 (HH)]) := (by rw [← hV]; exact (Nb10.out.set_ 0 (.int .i64 (HH)))); replace Nb9 : Hid (Blk X1 b9 3 #[.int .i64 (WW)]) := (by rw [← hV]; exact (Nb9.out.far_ (p := ⟨b10, 0, none⟩) nb9b10 _)); replace HBX : Hid (Below Va1.heap.size Va1 X1) := (by rw [← hV]; exact (HBX.out.setCell (p := ⟨b10, 0, none⟩) (by exact hb10) _)); rw [hV]; clear hV cR0 zR0
    have cR0 := Nb11.out.cell 0; have zR0 := Nb11.out.frozen 0; have cR1 := Nb11.out.cell 1; have zR1 := Nb11.out.frozen 1; simp only [List.getElem?_toArray, List.getElem?_cons_zero, List.getElem?_cons_succ] at cR0 cR1
    refine wpAnyH_ready (rs := [14]) (by kernel_rfl) (by simp) ?_
    refine AllReadyH.cons (o := Z2s) rfl (fun K hK => ?_) AllReadyH.nil
    delta Z2s
    go_simp
    refine hK.out _ _ ?_ (fun hHeld => ?_)
    · (try dsimp only); (exact HSV.out _ ((HBX.out.setCell (p := ⟨b11, 0, none⟩) (by exact hb11) _).setCell (p := ⟨b11, 1, none⟩) (by exact hb11) _))
    clear hK K
    try simp only [Z2s, ksz]
    obtain ⟨X2, hV⟩ : ∃ V, (X1.setCell ⟨b11, 0, none⟩ (.int .i64 (DX))).setCell ⟨b11, 1, none⟩ (.int .i64 (DY)) = V := ⟨_, rfl⟩; replace Nb11 : Hid (Blk X2 b11 151 #[.int .i64 (DX), .int .i64 (DY)]) := (by rw [← hV]; exact ((Nb11.out.set_ 0 (.int .i64 (DX))).set_ 1 (.int .i64 (DY)))); replace Nb10 : Hid (Blk X2 b10 3 #[.int .i64 (HH)]) := (by rw [← hV]; exact ((Nb10.out.far_ (p := ⟨b11, 0, none⟩) nb10b11 _).far_ (p := ⟨b11, 1, none⟩) nb10b11 _)); replace Nb9 : Hid (Blk X2 b9 3 #[.int .i64 (WW)]) := (by rw [← hV]; exact ((Nb9.out.far_ (p := ⟨b11, 0, none⟩) nb9b11 _).far_ (p := ⟨b11, 1, none⟩) nb9b11 _)); replace HBX : Hid (Below Va1.heap.size Va1 X2) := (by rw [← hV]; exact ((HBX.out.setCell (p := ⟨b11, 0, none⟩) (by exact hb11) _).setCell (p := ⟨b11, 1, none⟩) (by exact hb11) _)); rw [hV]; clear hV cR0 zR0 cR1 zR1
    refine wpAnyH_done (by kernel_rfl) ?_ _
    refine NoPanic.normal ?_
    go_wp2_with fail
    go_meet
    exact ⟨b9, b10, b11, rfl, rfl, rfl, Nb9.out, Nb10.out, Nb11.out, (by exact nb9b10), (by exact nb9b11), (by exact nb10b11), (by exact hb9), (by exact hb10), (by exact hb11), HBX.out⟩
   exact AllReadyH.nil
  exact AllReadyH.nil
 case rest =>
  obtain ⟨b9, b10, b11, rfl, rfl, rfl, Jb9, Jb10, Jb11, d0, d1, d2, eb9, eb10, eb11, hb⟩ := hcut
  obtain ⟨Va2, rfl⟩ : ∃ V, V = wc := ⟨_, rfl⟩
  have HZ := Lib.hid hb
  have Kb9 := Lib.hid Jb9
  clear Jb9
  have Kb10 := Lib.hid Jb10
  clear Jb10
  have Kb11 := Lib.hid Jb11
  clear Jb11
  have nb9b10 : ¬ b9 = b10 := d0
  have nb10b9 : ¬ b10 = b9 := fun e => d0 e.symm
  clear d0
  have nb9b11 : ¬ b9 = b11 := d1
  have nb11b9 : ¬ b11 = b9 := fun e => d1 e.symm
  clear d1
  have nb10b11 : ¬ b10 = b11 := d2
  have nb11b10 : ¬ b11 = b10 := fun e => d2 e.symm
  clear d2
  have nb4b9 : ¬ b4 = b9 := by have := Hb4.out.lt; omega
  have nb9b4 : ¬ b9 = b4 := fun e => nb4b9 e.symm
  have nb5b9 : ¬ b5 = b9 := by have := Hb5.out.lt; omega
  have nb9b5 : ¬ b9 = b5 := fun e => nb5b9 e.symm
  have nb7b9 : ¬ b7 = b9 := by have := Hb7.out.lt; omega
  have nb9b7 : ¬ b9 = b7 := fun e => nb7b9 e.symm
  have gb9 : w.heap.size ≤ b9 := Nat.le_trans HB.out.size eb9
  clear eb9
  have nb4b10 : ¬ b4 = b10 := by have := Hb4.out.lt; omega
  have nb10b4 : ¬ b10 = b4 := fun e => nb4b10 e.symm
  have nb5b10 : ¬ b5 = b10 := by have := Hb5.out.lt; omega
  have nb10b5 : ¬ b10 = b5 := fun e => nb5b10 e.symm
  have nb7b10 : ¬ b7 = b10 := by have := Hb7.out.lt; omega
  have nb10b7 : ¬ b10 = b7 := fun e => nb7b10 e.symm
  have gb10 : w.heap.size ≤ b10 := Nat.le_trans HB.out.size eb10
  clear eb10
  have nb4b11 : ¬ b4 = b11 := by have := Hb4.out.lt; omega
  have nb11b4 : ¬ b11 = b4 := fun e => nb4b11 e.symm
  have nb5b11 : ¬ b5 = b11 := by have := Hb5.out.lt; omega
  have nb11b5 : ¬ b11 = b5 := fun e => nb5b11 e.symm
  have nb7b11 : ¬ b7 = b11 := by have := Hb7.out.lt; omega
  have nb11b7 : ¬ b11 = b7 := fun e => nb7b11 e.symm
  have gb11 : w.heap.size ≤ b11 := Nat.le_trans HB.out.size eb11
  clear eb11
  clear hb HSV k0
  replace Hb4 := kbl Hb4 HZ
  replace Hb5 := kbl Hb5 HZ
  replace Hb7 := kbl Hb7 HZ
  replace HB := ktr' HB HZ
  clear HZ
  have Hb9 := Kb9
  clear Kb9
  have Hb10 := Kb10
  clear Kb10
  have Hb11 := Kb11
  clear Kb11
  go_wp2
  go_ret
  exact ⟨b5, b9, b11, b10, b7, b4, rfl, ⟨Hb5.out, Hb9.out, by rw [HDX.out, HDY.out]; exact Hb11.out, Hb10.out, Hb7.out, Hb4.out⟩, HB.out⟩
end Go.Proofs.YtdhcdgfpkjdihaaDoor.Sg
