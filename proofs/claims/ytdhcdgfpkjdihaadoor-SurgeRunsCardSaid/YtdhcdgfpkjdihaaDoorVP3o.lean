/-
  Layer 3, the program: Centimetres.
-/
import Derived.Test.YtdhcdgfpkjdihaaDoorVP3a
import Derived.Test.YtdhcdgfpkjdihaaDoorVA3c
import Derived.Test.YtdhcdgfpkjdihaaDoorVBb
set_option linter.unusedSimpArgs false
set_option linter.unusedVariables false
namespace Go.Proofs.YtdhcdgfpkjdihaaDoor.Sg
open Go.RowKit
def Zet : Oper := ⟨some 10, .fieldAddr 26 (.tmp 1) 0, 0, "run.go:61", #[], none⟩
def Zeu : Oper := ⟨some 11, .load 3 (.tmp 10), 3, "run.go:61", #[⟨0, .data⟩], none⟩
def Zev : Oper := ⟨some 12, .call { callee := Callee.value (.func 80), args := #[.tmp 11, .const (Value.int IntKind.i64 256)], argTypes := #[3, 3] }, 3, "run.go:61", #[⟨1, .data⟩], none⟩
def Zew : Oper := ⟨some 13, .fieldAddr 26 (.tmp 1) 1, 0, "run.go:61", #[], none⟩
def Zex : Oper := ⟨some 14, .load 3 (.tmp 13), 3, "run.go:61", #[⟨3, .data⟩], none⟩
def Zey : Oper := ⟨some 15, .call { callee := Callee.value (.func 81), args := #[.tmp 14, .const (Value.int IntKind.i64 256)], argTypes := #[3, 3] }, 3, "run.go:61", #[⟨4, .data⟩, ⟨2, .chain⟩], none⟩
def Zez : Oper := ⟨some 16, .build 26 #[(0, .tmp 12), (1, .tmp 15)], 26, "run.go:61", #[⟨2, .data⟩, ⟨5, .data⟩], none⟩
def Zf0 : Oper := ⟨none, .store 26 (.tmp 2) (.tmp 16), 0, "run.go:61", #[⟨6, .data⟩, ⟨5, .chain⟩, ⟨0, .phase⟩, ⟨1, .phase⟩, ⟨2, .phase⟩, ⟨3, .phase⟩, ⟨4, .phase⟩, ⟨5, .phase⟩, ⟨6, .phase⟩], none⟩
def Zf1 : Oper := ⟨some 3, .assign (.const (Value.int IntKind.i64 0)), 35, "run.go:61", #[⟨7, .chain⟩, ⟨0, .phase⟩, ⟨1, .phase⟩, ⟨2, .phase⟩, ⟨3, .phase⟩, ⟨4, .phase⟩, ⟨5, .phase⟩, ⟨6, .phase⟩, ⟨7, .phase⟩], none⟩
def cmE (z : Int × Int) : Int := if z.1 ≤ z.2 then 0 else 3
def cmV (z : Int × Int) : Int × Int := if z.1 ≤ z.2 then cmZ z else (0, 0)
set_option maxRecDepth 100000 in
set_option maxHeartbeats 2000000 in
theorem Centimetres_any (lo hi : Int) (w : World) (h1 : -9223372036854775808 ≤ lo ∧ lo ≤ 9223372036854775807) (h2 : -9223372036854775808 ≤ hi ∧ hi ≤ 9223372036854775807) :
 Calls Tryd.prog 32 #[.agg #[.int .i64 (lo), .int .i64 (hi)]] w fun e w' => e = .returned (.tuple #[.agg #[.int .i64 (cmV (lo, hi)).1, .int .i64 (cmV (lo, hi)).2], .int .i64 (cmE (lo, hi))]) ∧ Below w.heap.size w w' := by
 by_cases hc : hi < lo
 ·
  have hE : cmE (lo, hi) = 3 := by unfold cmE; rw [if_neg]; simp only; omega
  have hV : cmV (lo, hi) = (0, 0) := by unfold cmV; rw [if_neg]; simp only; omega
  rw [hE, hV]
  clear hE hV
  go_enter Tryd.func32, Tryd.ntmps32
  go_upto_region 1 with (fail)
  obtain ⟨Va1, hV⟩ : ∃ V, (w.alloc (.cells #[.int .i64 (lo), .int .i64 (hi)] 26)).alloc (.cells #[.int .i64 (0), .int .i64 (0)] 26) = V := ⟨_, rfl⟩
  have Kb1 : Hid (Blk Va1 (w.heap.size) 26 #[.int .i64 (lo), .int .i64 (hi)]) := by rw [← hV]; exact (Blk.new' _ _ _ (by simp)).alloc _
  have Kb2 : Hid (Blk Va1 (w.heap.size + 1) 26 #[.int .i64 (0), .int .i64 (0)]) := by rw [← hV]; exact Blk.new' _ _ _ (by simp)
  have GHB : Hid (Below w.heap.size w Va1) := by rw [← hV]; exact (by repeat (first | exact Below.refl _ _ | assumption | refine Below.drew ?_ | refine Below.drewN' ?_ _ | (refine Below.alloc ?_ (by simp <;> omega) _) | (refine Below.setCell ?_ (by simp <;> omega) _)))
  have HZ : Hid (Below w.heap.size w Va1) := GHB
  rw [hV]
  clear hV HZ
  have HB := GHB
  clear GHB
  obtain ⟨b2, hqb2⟩ : ∃ b, w.heap.size + 1 = b := ⟨_, rfl⟩
  obtain ⟨b1, hqb1⟩ : ∃ b, w.heap.size = b := ⟨_, rfl⟩
  have gb1 : w.heap.size ≤ b1 := by omega
  have gb2 : w.heap.size ≤ b2 := by omega
  have nb2b1 : ¬ b2 = b1 := by omega
  have nb1b2 : ¬ b1 = b2 := by omega
  rw [hqb2] at Kb2 ⊢
  clear hqb2
  have HN : Hid (w.heap.size = b1) := hqb1
  rw [hqb1] at Kb1 ⊢
  clear hqb1
  have Hb1 := Kb1
  clear Kb1
  have Hb2 := Kb2
  clear Kb2
  have cb10 := kcl0 Hb1
  have cb11 := kcl1 Hb1
  have cb20 := kcl0 Hb2
  have cb21 := kcl1 Hb2
  have zb20 : Va1.frozen? ⟨b2, 0, none⟩ = false := Hb2.out.frozen 0
  have zb21 : Va1.frozen? ⟨b2, 1, none⟩ = false := Hb2.out.frozen 1
  go_wp2
  have hR := fun x y => span_res2 Hb2.out x y
  refine bodyPost_ret (v := .tuple #[.agg #[.int .i64 (0), .int .i64 (0)], .int .i64 3]) (by simp [results, Tryd.results32, go_sem, hR]) rfl ⟨rfl, (HB.out.setCell (p := ⟨b2, 0, none⟩) gb2 _).setCell (p := ⟨b2, 1, none⟩) gb2 _⟩
 ·
  have hE : cmE (lo, hi) = 0 := by unfold cmE; rw [if_pos]; simp only; omega
  have hV : cmV (lo, hi) = (lo / 256, upQ hi 256) := by unfold cmV cmZ; rw [if_pos]; simp only; omega
  rw [hE, hV]
  clear hE hV
  obtain ⟨q1, hq1⟩ : ∃ z, lo / 256 = z := ⟨_, rfl⟩
  obtain ⟨q2, hq2⟩ : ∃ z, upQ hi 256 = z := ⟨_, rfl⟩
  rw [hq1, hq2]
  have HQ1 := Lib.hid hq1
  have HQ2 := Lib.hid hq2
  clear hq1 hq2
  go_enter Tryd.func32, Tryd.ntmps32
  go_upto_region 1 with (fail)
  obtain ⟨Va51, hV⟩ : ∃ V, (w.alloc (.cells #[.int .i64 (lo), .int .i64 (hi)] 26)).alloc (.cells #[.int .i64 (0), .int .i64 (0)] 26) = V := ⟨_, rfl⟩
  have Kb1 : Hid (Blk Va51 (w.heap.size) 26 #[.int .i64 (lo), .int .i64 (hi)]) := by rw [← hV]; exact (Blk.new' _ _ _ (by simp)).alloc _
  have Kb2 : Hid (Blk Va51 (w.heap.size + 1) 26 #[.int .i64 (0), .int .i64 (0)]) := by rw [← hV]; exact Blk.new' _ _ _ (by simp)
  have GHB : Hid (Below w.heap.size w Va51) := by rw [← hV]; exact (by repeat (first | exact Below.refl _ _ | assumption | refine Below.drew ?_ | refine Below.drewN' ?_ _ | (refine Below.alloc ?_ (by simp <;> omega) _) | (refine Below.setCell ?_ (by simp <;> omega) _)))
  have HZ : Hid (Below w.heap.size w Va51) := GHB
  rw [hV]
  clear hV HZ
  have HB := GHB
  clear GHB
  obtain ⟨b2, hqb2⟩ : ∃ b, w.heap.size + 1 = b := ⟨_, rfl⟩
  obtain ⟨b1, hqb1⟩ : ∃ b, w.heap.size = b := ⟨_, rfl⟩
  have gb1 : w.heap.size ≤ b1 := by omega
  have gb2 : w.heap.size ≤ b2 := by omega
  have nb2b1 : ¬ b2 = b1 := by omega
  have nb1b2 : ¬ b1 = b2 := by omega
  rw [hqb2] at Kb2 ⊢
  clear hqb2
  have HN : Hid (w.heap.size = b1) := hqb1
  rw [hqb1] at Kb1 ⊢
  clear hqb1
  have Hb1 := Kb1
  clear Kb1
  have Hb2 := Kb2
  clear Kb2
  have cb10 := kcl0 Hb1
  have cb11 := kcl1 Hb1
  go_upto_region 3 with (fail)
  clear cb10 cb11
  have HSV : Hid (∀ U, Below Va51.heap.size Va51 U → U.cell? ⟨b1, 0, none⟩ = some (.int .i64 (lo)) ∧ U.cell? ⟨b1, 1, none⟩ = some (.int .i64 (hi))) := fun U hU => by
   have kb1 := Hb1.out.below hU Hb1.out.lt
   exact ⟨kb1.cell 0, kb1.cell 1⟩
  have k0 := HSV.out _ (Below.drew (Below.refl Va51.heap.size Va51))
  refine wp_region_noPanic ?_
  refine wp_region_L (S := (fun w' => w'.cell? ⟨b1, 0, none⟩ = some (.int .i64 (lo)) ∧ w'.cell? ⟨b1, 1, none⟩ = some (.int .i64 (hi)))) (ks := [7]) (by kernel_rfl) ?_ (fun hHeld => ?_)
  · (try dsimp only); (exact k0)
  refine tL 0 Zet ?_ ?_ ?_
  rotate_left
  · ((intro w hSw; delta Zet; (try dsimp only at hSw); go_simp) <;> with_reducible rfl)
  try simp only [Zet, ksz]
  refine tL 3 Zew ?_ ?_ ?_
  rotate_left
  · ((intro w hSw; delta Zew; (try dsimp only at hSw); go_simp) <;> with_reducible rfl)
  try simp only [Zew, ksz]
  refine tL 1 Zeu ?_ ?_ ?_
  rotate_left
  · ((intro w hSw; delta Zeu; (try dsimp only at hSw); go_simp) <;> with_reducible rfl)
  try simp only [Zeu, ksz]
  refine tL 4 Zex ?_ ?_ ?_
  rotate_left
  · ((intro w hSw; delta Zex; (try dsimp only at hSw); go_simp) <;> with_reducible rfl)
  try simp only [Zex, ksz]
  obtain ⟨W0, hW0⟩ : ∃ V, Va51.drew = V := ⟨_, rfl⟩; rw [hW0] at hHeld ⊢; have HB0 : Hid (Below Va51.heap.size Va51 W0) := (by rw [← hW0]; exact Below.drew (Below.refl _ _)); clear hW0
  refine wpAnyL_ready (rs := [2]) (by kernel_rfl) (by simp) ?_
  refine AllReadyL.cons (o := Zev) rfl (fun K hK => ?_) AllReadyL.nil
  delta Zev
  go_simp
  (refine (down_any lo 256 _ (by omega) (by omega) h1).mono ?_; rintro e W1 ⟨rfl, hw⟩; have HB1 : Hid (Below Va51.heap.size Va51 W1) := (by rw [← hw]; exact HB0.out); clear hw; rw [HQ1.out])
  refine hK.out _ _ ?_ (fun hHeld => ?_)
  · (try dsimp only); (exact HSV.out _ HB1.out)
  clear hK K
  try simp only [Zev, ksz]
  refine wpAnyL_ready (rs := [5]) (by kernel_rfl) (by simp) ?_
  refine AllReadyL.cons (o := Zey) rfl (fun K hK => ?_) AllReadyL.nil
  delta Zey
  go_simp
  (refine (up_any hi 256 _ (by omega) (by omega) h2).mono ?_; rintro e W2 ⟨rfl, hw⟩; have HB2 : Hid (Below Va51.heap.size Va51 W2) := (by rw [← hw]; exact HB1.out); clear hw; rw [HQ2.out])
  refine hK.out _ _ ?_ (fun hHeld => ?_)
  · (try dsimp only); (exact HSV.out _ HB2.out)
  clear hK K
  try simp only [Zey, ksz]
  refine tL 6 Zez ?_ ?_ ?_
  rotate_left
  · ((intro w hSw; delta Zez; (try dsimp only at hSw); go_simp) <;> with_reducible rfl)
  try simp only [Zez, ksz]
  have Gb1 := Lib.hid (Hb1.out.below HB2.out Hb1.out.lt); have Gb2 := Lib.hid (Hb2.out.below HB2.out Hb2.out.lt); have GHB := Lib.hid (HB.out.trans (HB2.out.mono HB.out.size)); clear Hb1 Hb2 HB; have Hb1 := Gb1; clear Gb1; have Hb2 := Gb2; clear Gb2; have HB := GHB; clear GHB; have cR0 := Hb2.out.cell 0; have zR0 := Hb2.out.frozen 0; have cR1 := Hb2.out.cell 1; have zR1 := Hb2.out.frozen 1; simp only [List.getElem?_toArray, List.getElem?_cons_zero, List.getElem?_cons_succ] at cR0 cR1
  refine wpAnyL_ready (rs := [7]) (by kernel_rfl) (by simp) ?_
  refine AllReadyL.gate (o := Zf0) rfl (by kernel_rfl) (fun K hK => ?_) AllReadyL.nil
  delta Zf0
  go_simp
  refine hK.out _ _ ?_
  clear hK K
  try simp only [Zf0, ksz]
  obtain ⟨Va52, hV⟩ : ∃ V, (W2.setCell ⟨b2, 0, none⟩ (.int .i64 (q1))).setCell ⟨b2, 1, none⟩ (.int .i64 (q2)) = V := ⟨_, rfl⟩; replace Hb1 : Hid (Blk Va52 b1 26 #[.int .i64 (lo), .int .i64 (hi)]) := (by rw [← hV]; exact ((Hb1.out.far_ (p := ⟨b2, 0, none⟩) nb1b2 _).far_ (p := ⟨b2, 1, none⟩) nb1b2 _)); replace Hb2 : Hid (Blk Va52 b2 26 #[.int .i64 (q1), .int .i64 (q2)]) := (by rw [← hV]; exact ((Hb2.out.set_ 0 (.int .i64 (q1))).set_ 1 (.int .i64 (q2)))); replace HB : Hid (Below w.heap.size w Va52) := (by rw [← hV]; exact ((HB.out.setCell (p := ⟨b2, 0, none⟩) gb2 _).setCell (p := ⟨b2, 1, none⟩) gb2 _)); rw [hV]; clear hV cR0 zR0 cR1 zR1
  refine wpAnyL_ready (rs := [8]) (by kernel_rfl) (by simp) ?_
  refine AllReadyL.gate (o := Zf1) rfl (by kernel_rfl) (fun K hK => ?_) AllReadyL.nil
  delta Zf1
  go_simp
  refine hK.out _ _ ?_
  clear hK K
  try simp only [Zf1, ksz]
  refine wpAnyL_done (by kernel_rfl) ?_ _
  refine NoPanic.normal ?_
  clear HSV k0
  clear hHeld HB0 HB1 HB2
  have cb20 := kcl0 Hb2
  have cb21 := kcl1 Hb2
  go_wp2
  refine bodyPost_ret (v := .tuple #[.agg #[.int .i64 (q1), .int .i64 (q2)], .int .i64 0]) (by simp [results, Tryd.results32, go_sem, cb20, cb21]) rfl ⟨rfl, HB.out⟩
end Go.Proofs.YtdhcdgfpkjdihaaDoor.Sg
