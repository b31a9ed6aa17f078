/-
  The reference: Narrow.
-/
import Derived.Test.YthcenmocnphnmaaGreatDoorMS
set_option linter.unusedSimpArgs false
set_option linter.unusedVariables false
namespace Go.Proofs.YthcenmocnphnmaaGreatDoor
open Go.RowKit Go.Shelf

theorem max_if (a b : Int) : (if a < b then b else a) = max a b := by split <;> omega
theorem alloc_eq {w : World} {a b a' b' : Int} {t : TypeId} (h1 : a = a') (h2 : b = b') : (w.alloc (.cells #[.int .i64 a, .int .i64 b] t)).drew = (w.alloc (.cells #[.int .i64 a', .int .i64 b'] t)).drew := by rw [h1, h2]
theorem min_if (a b : Int) : (if b < a then b else a) = min a b := by split <;> omega

set_option maxRecDepth 100000 in
set_option maxHeartbeats 4000000 in
theorem rNarrow_any (x y : Value) (a b : G) (w : World) (hx : GridAt w w.heap.size x a) (hy : GridAt w w.heap.size y b) :
    Calls Tryz.prog 29 #[x, y] w (NarrowOut (narrowR a b) w) := by
  have HX := Lib.hid hx
  have HY := Lib.hid hy
  obtain ⟨v, rfl, hs⟩ := hx
  obtain ⟨A, k, rfl, hk, hm⟩ := hs.open_
  obtain ⟨u, rfl, ht⟩ := hy
  obtain ⟨A', k', rfl, hk', hm'⟩ := ht.open_
  have HS := Lib.hid hs
  have HT := Lib.hid ht
  have hB : Below w.heap.size w (((w.alloc (.cells #[.int .i64 a.W, .int .i64 a.H, .int .i64 a.S, .slice A a.ss.length k] 24)).alloc (.cells #[.int .i64 b.W, .int .i64 b.H, .int .i64 b.S, .slice A' b.ss.length k'] 24)).alloc (.cells #[.int .i64 0, .int .i64 0, .int .i64 0, .slice none 0 0] 24)) := (by repeat (first | exact Below.refl _ _ | assumption | refine Below.drew ?_ | refine Below.drewN' ?_ _ | (refine Below.alloc ?_ (by simp <;> omega) _) | (refine Below.setCell ?_ (by simp <;> omega) _)))
  have HB := Lib.hid hB
  have b0 : Blk (((w.alloc (.cells #[.int .i64 a.W, .int .i64 a.H, .int .i64 a.S, .slice A a.ss.length k] 24)).alloc (.cells #[.int .i64 b.W, .int .i64 b.H, .int .i64 b.S, .slice A' b.ss.length k'] 24)).alloc (.cells #[.int .i64 0, .int .i64 0, .int .i64 0, .slice none 0 0] 24)) w.heap.size 24 #[.int .i64 a.W, .int .i64 a.H, .int .i64 a.S, .slice A a.ss.length k] := Blk.alloc (Blk.alloc (Blk.new' _ _ _ rfl) _) _
  have b1 : Blk (((w.alloc (.cells #[.int .i64 a.W, .int .i64 a.H, .int .i64 a.S, .slice A a.ss.length k] 24)).alloc (.cells #[.int .i64 b.W, .int .i64 b.H, .int .i64 b.S, .slice A' b.ss.length k'] 24)).alloc (.cells #[.int .i64 0, .int .i64 0, .int .i64 0, .slice none 0 0] 24)) (w.heap.size + 1) 24 #[.int .i64 b.W, .int .i64 b.H, .int .i64 b.S, .slice A' b.ss.length k'] := Blk.alloc (Blk.new' _ _ _ (by simp)) _
  have b2 : Blk (((w.alloc (.cells #[.int .i64 a.W, .int .i64 a.H, .int .i64 a.S, .slice A a.ss.length k] 24)).alloc (.cells #[.int .i64 b.W, .int .i64 b.H, .int .i64 b.S, .slice A' b.ss.length k'] 24)).alloc (.cells #[.int .i64 0, .int .i64 0, .int .i64 0, .slice none 0 0] 24)) (w.heap.size + 1 + 1) 24 #[.int .i64 0, .int .i64 0, .int .i64 0, .slice none 0 0] := Blk.new' _ _ _ (by simp)
  have HBB := Lib.hid (And.intro b0 (And.intro b1 b2))
  clear hs ht hB b0 b1 b2
  go_enter Tryz.func29, Tryz.ntmps29
  go_wp2_with fail
  refine (rCheck_any _ a _ (HX.out.later HB.out (Nat.le_refl _))).mono ?_
  rintro e w1 ⟨rfl, hb1⟩
  have HB1 := Lib.hid (HB.out.trans (hb1.mono HB.out.size))
  have hn1 : w.heap.size + 1 + 1 + 1 ≤ w1.heap.size := by have := hb1.size; simpa using this
  have HBB1 := Lib.hid (And.intro (HBB.out.1.below hb1 (by simp <;> omega)) (And.intro (HBB.out.2.1.below hb1 (by simp <;> omega)) (HBB.out.2.2.below hb1 (by simp <;> omega))))
  clear hb1
  obtain ⟨⟨z0, z1, z2, z3⟩, f0, f1, f2, f3⟩ := zero_parts HBB1.out.2.2
  by_cases h0 : checkE a = 0
  case neg =>
    have He : Hid ((0, checkE a, zeroG) = narrowR a b) := by unfold narrowR; rw [Hid, if_neg h0]
    have hb : (checkE a == 0) = false := by simpa using h0
    have hb2 : (checkE a != 0) = true := by simpa using h0
    clear h0
    go_wp2
    refine bodyPost_ret (v := .tuple #[.agg #[.int .i64 0, .int .i64 0, .int .i64 0, .slice none 0 0], .int .i64 0, .int .i64 (checkE a)]) (by simp [results, Tryz.results29, go_sem, z0, z1, z2, z3, f0, f1, f2, f3]) rfl ?_
    rw [← He.out]
    exact ⟨_, rfl, grid_zero _ _, HB1.out.trans (by repeat (first | exact Below.refl _ _ | assumption | refine Below.drew ?_ | refine Below.drewN' ?_ _ | (refine Below.alloc ?_ (by simp <;> omega) _) | (refine Below.setCell ?_ (by simp <;> omega) _)))⟩
  have H0 := Lib.hid h0
  rw [h0]
  clear h0
  obtain ⟨d0, d1, d2, d3⟩ := grid_parts HBB1.out.1
  obtain ⟨c0, c1, c2, c3⟩ := grid_parts HBB1.out.2.1
  go_wp2_with fail
  refine (rCheck_any _ b _ (HY.out.later HB1.out (Nat.le_refl _))).mono ?_
  rintro e w2 ⟨rfl, hb2⟩
  have HB2 := Lib.hid (HB1.out.trans (hb2.mono HB1.out.size))
  have hn2 : w.heap.size + 1 + 1 + 1 ≤ w2.heap.size := by have := hb2.size; omega
  have HBB2 := Lib.hid (And.intro (HBB1.out.1.below hb2 (by omega)) (And.intro (HBB1.out.2.1.below hb2 (by omega)) (HBB1.out.2.2.below hb2 (by omega))))
  clear hb2 d0 d1 d2 d3 c0 c1 c2 c3 z0 z1 z2 z3 f0 f1 f2 f3
  obtain ⟨⟨z0, z1, z2, z3⟩, f0, f1, f2, f3⟩ := zero_parts HBB2.out.2.2
  by_cases h1 : checkE b = 0
  case neg =>
    have He : Hid ((0, checkE b, zeroG) = narrowR a b) := by unfold narrowR; rw [Hid, if_pos H0.out, if_neg h1]
    have hb' : (checkE b == 0) = false := by simpa using h1
    have hb2' : (checkE b != 0) = true := by simpa using h1
    clear h1
    go_wp2
    refine bodyPost_ret (v := .tuple #[.agg #[.int .i64 0, .int .i64 0, .int .i64 0, .slice none 0 0], .int .i64 0, .int .i64 (checkE b)]) (by simp [results, Tryz.results29, go_sem, z0, z1, z2, z3, f0, f1, f2, f3]) rfl ?_
    rw [← He.out]
    exact ⟨_, rfl, grid_zero _ _, HB2.out.trans (by repeat (first | exact Below.refl _ _ | assumption | refine Below.drew ?_ | refine Below.drewN' ?_ _ | (refine Below.alloc ?_ (by simp <;> omega) _) | (refine Below.setCell ?_ (by simp <;> omega) _)))⟩
  have H1 := Lib.hid h1
  rw [h1]
  clear h1
  obtain ⟨d0, d1, d2, d3⟩ := grid_parts HBB2.out.1
  obtain ⟨c0, c1, c2, c3⟩ := grid_parts HBB2.out.2.1
  by_cases h2 : sameG a b = true
  case neg =>
    have He : Hid ((0, 11, zeroG) = narrowR a b) := by unfold narrowR; rw [Hid, if_pos H0.out, if_pos H1.out, (hid_not h2).out]; rfl
    by_cases k1 : a.W = b.W
    · by_cases k2 : a.H = b.H
      · have k3 : a.S ≠ b.S := by rintro k3; exact h2 (by unfold sameG; simp [k1, k2, k3])
        have e1 : (a.W != b.W) = false := by simpa using k1
        have e2 : (a.H != b.H) = false := by simpa using k2
        have e3 : (a.S != b.S) = true := by simpa using k3
        clear h2 k1 k2 k3
        go_wp2
        refine bodyPost_ret (v := .tuple #[.agg #[.int .i64 0, .int .i64 0, .int .i64 0, .slice none 0 0], .int .i64 0, .int .i64 11]) (by simp [results, Tryz.results29, go_sem, z0, z1, z2, z3, f0, f1, f2, f3]) rfl ?_
        rw [← He.out]
        exact ⟨_, rfl, grid_zero _ _, HB2.out.trans (by repeat (first | exact Below.refl _ _ | assumption | refine Below.drew ?_ | refine Below.drewN' ?_ _ | (refine Below.alloc ?_ (by simp <;> omega) _) | (refine Below.setCell ?_ (by simp <;> omega) _)))⟩
      · have e1 : (a.W != b.W) = false := by simpa using k1
        have e2 : (a.H != b.H) = true := by simpa using k2
        clear h2 k1 k2
        go_wp2
        refine bodyPost_ret (v := .tuple #[.agg #[.int .i64 0, .int .i64 0, .int .i64 0, .slice none 0 0], .int .i64 0, .int .i64 11]) (by simp [results, Tryz.results29, go_sem, z0, z1, z2, z3, f0, f1, f2, f3]) rfl ?_
        rw [← He.out]
        exact ⟨_, rfl, grid_zero _ _, HB2.out.trans (by repeat (first | exact Below.refl _ _ | assumption | refine Below.drew ?_ | refine Below.drewN' ?_ _ | (refine Below.alloc ?_ (by simp <;> omega) _) | (refine Below.setCell ?_ (by simp <;> omega) _)))⟩
    · have e1 : (a.W != b.W) = true := by simpa using k1
      clear h2 k1
      go_wp2
      refine bodyPost_ret (v := .tuple #[.agg #[.int .i64 0, .int .i64 0, .int .i64 0, .slice none 0 0], .int .i64 0, .int .i64 11]) (by simp [results, Tryz.results29, go_sem, z0, z1, z2, z3, f0, f1, f2, f3]) rfl ?_
      rw [← He.out]
      exact ⟨_, rfl, grid_zero _ _, HB2.out.trans (by repeat (first | exact Below.refl _ _ | assumption | refine Below.drew ?_ | refine Below.drewN' ?_ _ | (refine Below.alloc ?_ (by simp <;> omega) _) | (refine Below.setCell ?_ (by simp <;> omega) _)))⟩
  have hsame : a.W = b.W ∧ a.H = b.H ∧ a.S = b.S := by unfold sameG at h2; simpa using h2
  have hlen : a.ss.length = b.ss.length := by
    have e1 := (valid_of H0.out).len
    have e2 := (valid_of H1.out).len
    rw [hsame.1, hsame.2.1] at e1
    omega
  have e1 : (a.W != b.W) = false := by simpa using hsame.1
  have e2 : (a.H != b.H) = false := by simpa using hsame.2.1
  have e3 : (a.S != b.S) = false := by simpa using hsame.2.2
  have He : Hid (narrowR a b = if (comL a b).any emptyB then ((((comL a b).findIdx emptyB : Nat) : Int), (14 : Int), zeroG) else ((0 : Int), (0 : Int), ⟨a.W, a.H, a.S, comL a b⟩)) := by unfold narrowR; rw [Hid, if_pos H0.out, if_pos H1.out, if_pos h2]
  have hpa := (valid_of H0.out).pos
  have hsm := (valid_of H0.out).small
  have Hlen := Lib.hid hlen
  have Hcl : Hid ((comL a b).length = a.ss.length) := by unfold comL; simp [Hid]; omega
  clear h2 hsame hlen
  go_wp2_with fail
  refine (copied_any _ a _ (HX.out.later HB2.out (Nat.le_refl _)) (by omega) (by omega)).mono ?_
  rintro e w3 ⟨gb, cap, rfl, hown3, hb3⟩
  have HO3 := Lib.hid hown3
  have hgb := hown3.lt gb rfl
  have hcap : a.ss.length ≤ cap := by
    rcases hown3.2 with ⟨e, _⟩ | ⟨_, _, _, e, _, _, h, _⟩
    · cases e
    · injection e with _ _ e; omega
  have HB3 := Lib.hid (HB2.out.trans (hb3.mono HB2.out.size))
  have HB23 := Lib.hid hb3
  have hn3 : w2.heap.size ≤ w3.heap.size := hb3.size
  have B8 : Hid (Blk (w3.alloc (.cells #[.int .i64 a.W, .int .i64 a.H, .int .i64 a.S, .slice (some ⟨gb, 0, none⟩) a.ss.length cap] 24)) w3.heap.size 24 #[.int .i64 a.W, .int .i64 a.H, .int .i64 a.S, .slice (some ⟨gb, 0, none⟩) a.ss.length cap]) := Blk.new' _ _ _ rfl
  clear hown3 hb3 d0 d1 d2 d3 c0 c1 c2 c3 z0 z1 z2 z3 f0 f1 f2 f3 e1 e2 e3
  go_wp2
  go_loopw [9] (fun i wr => ∃ q : Nat, q ≤ a.ss.length ∧ i = .int .i64 q ∧ Hid (wr.ownsRow w2.heap.size 34 2 (.slice (some ⟨gb, 0, none⟩) a.ss.length cap) a.ss.length (spanCells (mix a.ss (comL a b) (0, 0) q))) ∧ Hid (((comL a b).take q).any emptyB = false) ∧ Hid (Blk wr w3.heap.size 24 #[.int .i64 a.W, .int .i64 a.H, .int .i64 a.S, .slice (some ⟨gb, 0, none⟩) a.ss.length cap]) ∧ Below w2.heap.size w2 wr) (fun i _ => a.ss.length - (intOf i).toNat)
  case atStart => exact ⟨0, Nat.zero_le _, rfl, by rw [mix_zero]; exact HO3.out.alloc _, by simp [Hid], B8.out, HB23.out.alloc hn3 _⟩
  case round =>
    obtain ⟨q, hq, rfl, Hown, Hany, H8, hBr⟩ := hrel
    clear HO3 B8
    have HBr := Lib.hid hBr
    have HBw := Lib.hid (HB2.out.trans (hBr.mono HB2.out.size))
    have hnr : w2.heap.size ≤ wr.heap.size := hBr.size
    have HBBr := Lib.hid (And.intro (HBB2.out.1.below hBr (by omega)) (And.intro (HBB2.out.2.1.below hBr (by omega)) (HBB2.out.2.2.below hBr (by omega))))
    have h8lt := H8.out.lt
    obtain ⟨y0, y1, y2, y3⟩ := grid_parts H8.out
    clear hBr
    by_cases hlt : q < a.ss.length
    · obtain ⟨ba, oa, rfl, hba, c4, c5⟩ := (HS.out.below HBw.out).at_ hlt
      obtain ⟨bb, off, rfl, hbb, c6, c7⟩ := (HT.out.below HBw.out).at_ (k := q) (by have := Hlen.out; omega)
      have hlt' : (q : Int) < b.ss.length := by have := Hlen.out; omega
      have hss : q < (mix a.ss (comL a b) (0, 0) q).length := by rw [mix_length]; exact hlt
      have c3 := HBBr.out.2.1.cell 3
      have c2 := HBBr.out.1.cell 3
      simp only [List.getElem?_toArray, List.getElem?_cons_zero, List.getElem?_cons_succ] at c2 c3
      have hcl : q < (comL a b).length := by rw [Hcl.out]; exact hlt
      have Hco : Hid ((comL a b)[q] = com a.ss[q] (b.ss[q]'(by have := Hlen.out; omega))) := by simp [Hid, comL]
      generalize ha : a.ss[q] = pa at *
      generalize hb : b.ss[q]'(by have := Hlen.out; omega) = pb at *
      obtain ⟨a1, a2⟩ := pa
      obtain ⟨b1, b2⟩ := pb
      simp only at c4 c5 c6 c7
      clear ha hb
      have n1 : ba < wr.heap.size := by have := HBw.out.size; omega
      have n2 : bb < wr.heap.size := by have := HBw.out.size; omega
      have n3 : ¬ ba = wr.heap.size := by omega
      have n4 : ¬ bb = wr.heap.size := by omega
      have n5 : w.heap.size < wr.heap.size := by omega
      have n6 : ¬ w.heap.size = wr.heap.size := by omega
      have n7 : w.heap.size + 1 < wr.heap.size := by omega
      have n8 : ¬ w.heap.size + 1 = wr.heap.size := by omega
      have hka : ∀ o : Obj, (wr.alloc o).cell? ⟨w.heap.size, 3, none⟩ = some (.slice (some ⟨ba, oa, none⟩) a.ss.length k) ∧ (wr.alloc o).cell? ⟨ba, oa + q * 2, none⟩ = some (.int .i64 a1) ∧ (wr.alloc o).cell? ⟨ba, oa + q * 2 + 1, none⟩ = some (.int .i64 a2) ∧ (wr.alloc o).cell? ⟨w.heap.size + 1, 3, none⟩ = some (.slice (some ⟨bb, off, none⟩) b.ss.length k') ∧ (wr.alloc o).cell? ⟨bb, off + q * 2, none⟩ = some (.int .i64 b1) ∧ (wr.alloc o).cell? ⟨bb, off + q * 2 + 1, none⟩ = some (.int .i64 b2) :=
        fun o => ⟨(World.cell?_of_block (Below.heap_alloc _ _ _ n5)).trans c2, (World.cell?_of_block (Below.heap_alloc _ _ _ n1)).trans c4, (World.cell?_of_block (Below.heap_alloc _ _ _ n1)).trans c5, (World.cell?_of_block (Below.heap_alloc _ _ _ n7)).trans c3, (World.cell?_of_block (Below.heap_alloc _ _ _ n2)).trans c6, (World.cell?_of_block (Below.heap_alloc _ _ _ n2)).trans c7⟩
      have HKA := Lib.hid hka
      clear hka
      go_upto_region 12 with (fail)
      go_cut [10] from 53 to 79 (fun s wx => s = .pointer (some ⟨wr.heap.size, 0, none⟩) ∧ wx = ((wr.alloc (.cells #[.int .i64 (max a1 b1), .int .i64 (min a2 b2)] 34)).drew))
      case first =>
        go_region_held3 (fun w' => w'.cell? ⟨w.heap.size, 3, none⟩ = some (.slice (some ⟨ba, oa, none⟩) a.ss.length k) ∧ w'.cell? ⟨ba, oa + q * 2, none⟩ = some (.int .i64 a1) ∧ w'.cell? ⟨ba, oa + q * 2 + 1, none⟩ = some (.int .i64 a2) ∧ w'.cell? ⟨w.heap.size + 1, 3, none⟩ = some (.slice (some ⟨bb, off, none⟩) b.ss.length k') ∧ w'.cell? ⟨bb, off + q * 2, none⟩ = some (.int .i64 b1) ∧ w'.cell? ⟨bb, off + q * 2 + 1, none⟩ = some (.int .i64 b2))
          (first | assumption | (refine ⟨?_, ?_, ?_, ?_, ?_, ?_⟩ <;> assumption) | exact HKA.out _ | go_keep)
          (fail)
        all_goals
          go_wp2_with fail
          all_goals
            go_meet
            exact ⟨rfl, alloc_eq (by omega) (by omega)⟩
      case rest =>
        obtain ⟨rfl, rfl⟩ := hcut
        have hOa : Hid ((((wr.alloc (.cells #[.int .i64 (max a1 b1), .int .i64 (min a2 b2)] 34)).drew)).ownsRow w2.heap.size 34 2 (.slice (some ⟨gb, 0, none⟩) a.ss.length cap) a.ss.length (spanCells (mix a.ss (comL a b) (0, 0) q))) := (Hown.out.alloc _).drew
        obtain ⟨k4, k5⟩ := own_spans_at Hown.out hss
        have l4 := Hown.out.frozenAt (q * 2)
        have l5 := Hown.out.frozenAt (q * 2 + 1)
        have m1 : gb < wr.heap.size := (Hown.out.lt gb rfl).2
        have m2 : ¬ gb = wr.heap.size := by omega
        have m3 : ¬ wr.heap.size = gb := by omega
        have hgn : ¬ gb = w3.heap.size := by omega
        have m4 : w3.heap.size < wr.heap.size := h8lt
        have m5 : ¬ w3.heap.size = wr.heap.size := by omega
        have hz := zero_parts HBBr.out.2.2
        have z0 := hz.1.1
        have z1 := hz.1.2.1
        have z2 := hz.1.2.2.1
        have z3 := hz.1.2.2.2
        have f0 := hz.2.1
        have f1 := hz.2.2.1
        have f2 := hz.2.2.2.1
        have f3 := hz.2.2.2.2
        have n9 : w.heap.size + 1 + 1 < wr.heap.size := by omega
        have n10 : ¬ w.heap.size + 1 + 1 = wr.heap.size := by omega
        clear hz
        by_cases he : min a2 b2 < max a1 b1
        · have h1 : Hid (emptyB (comL a b)[q] = true) := by
            rw [Hid, Hco.out]
            simp only [emptyB, com]
            exact decide_eq_true he
          have Hr : Hid ((((q : Nat) : Int), (14 : Int), zeroG) = narrowR a b) := by
            rw [Hid, He.out, if_pos (any_true_at emptyB _ q hcl h1.out), findIdx_at emptyB _ q hcl Hany.out h1.out]
          go_wp2
          refine bodyPost_ret (v := .tuple #[.agg #[.int .i64 0, .int .i64 0, .int .i64 0, .slice none 0 0], .int .i64 q, .int .i64 14]) (by simp [results, Tryz.results29, go_sem, z0, z1, z2, z3, f0, f1, f2, f3, n9, n10]) rfl ?_
          rw [← Hr.out]
          refine ⟨_, rfl, grid_zero _ _, ?_⟩
          exact HBw.out.trans (by repeat (first | exact Below.refl _ _ | assumption | refine Below.drew ?_ | refine Below.drewN' ?_ _ | (refine Below.alloc ?_ (by simp <;> omega) _) | (refine Below.setCell ?_ (by simp <;> omega) _)))
        · have h1 : Hid (emptyB (comL a b)[q] = false) := by
            rw [Hid, Hco.out]
            simp only [emptyB, com]
            exact decide_eq_false he
          have Hsn : Hid (((comL a b).take (q + 1)).any emptyB = false) := any_false_snoc emptyB _ q hcl Hany.out h1.out
          clear z0 z1 z2 z3 f0 f1 f2 f3
          go_wp2
          go_roundw
          case rel =>
            have e : ((max a1 b1, min a2 b2) : Int × Int) = (comL a b)[q] := Hco.out.symm
            have h := own_spans_set Hown.out hss (max a1 b1) (min a2 b2)
            rw [e, mix_set hcl] at h
            refine ⟨q + 1, by omega, by go_num, (h.alloc _).drew, Hsn.out, ?_, ?_⟩
            · exact Blk.drew (Blk.alloc (((H8.out.far_ (p := ⟨gb, q * 2, none⟩) (Ne.symm hgn) _).far_ (p := ⟨gb, q * 2 + 1, none⟩) (Ne.symm hgn) _)) _)
            · exact Below.drew (((HBr.out.setCell (by exact hgb.1) _).setCell (by exact hgb.1) _).alloc (by simp [World.setCell]; omega) _)
          case measure => simp [intOf]; omega
    · have hq' : q = a.ss.length := by omega
      have HF : Hid (wr.ownsRow w2.heap.size 34 2 (.slice (some ⟨gb, 0, none⟩) a.ss.length cap) a.ss.length (spanCells (comL a b))) := by
        have h := Hown.out
        rw [hq', mix_all Hcl.out.symm] at h
        exact h
      have Hr : Hid (((0 : Int), (0 : Int), (⟨a.W, a.H, a.S, comL a b⟩ : G)) = narrowR a b) := by
        have h := Hany.out
        rw [List.take_of_length_le (by rw [Hcl.out]; omega)] at h
        rw [Hid, He.out, h]
        rfl
      have hz := zero_parts HBBr.out.2.2
      have z0 := hz.1.1
      have z1 := hz.1.2.1
      have z2 := hz.1.2.2.1
      have z3 := hz.1.2.2.2
      have f0 := hz.2.1
      have f1 := hz.2.2.1
      have f2 := hz.2.2.2.1
      have f3 := hz.2.2.2.2
      clear hq' Hown Hany hz
      go_wp2
      refine bodyPost_ret (v := .tuple #[.agg #[.int .i64 a.W, .int .i64 a.H, .int .i64 a.S, .slice (some ⟨gb, 0, none⟩) a.ss.length cap], .int .i64 0, .int .i64 0]) (by simp [results, Tryz.results29, go_sem, z0, z1, z2, z3, f0, f1, f2, f3]) rfl ?_
      rw [← Hr.out]
      refine ⟨_, rfl, ⟨_, rfl, ?_⟩, HBw.out.trans (by repeat (first | exact Below.refl _ _ | assumption | refine Below.drew ?_ | refine Below.drewN' ?_ _ | (refine Below.alloc ?_ (by simp <;> omega) _) | (refine Below.setCell ?_ (by simp <;> omega) _)))⟩
      have h := Reads.of_own (own_far (w' := ((((wr.setCell ⟨w.heap.size + 1 + 1, 0, none⟩ (.int .i64 a.W)).setCell ⟨w.heap.size + 1 + 1, 1, none⟩ (.int .i64 a.H)).setCell ⟨w.heap.size + 1 + 1, 2, none⟩ (.int .i64 a.S)).setCell ⟨w.heap.size + 1 + 1, 3, none⟩ (.slice (some ⟨gb, 0, none⟩) a.ss.length cap))) HF.out (fun j hj => set4_far (by have := (HF.out.lt j hj).1; omega) _ _ _ _))
      unfold SpansAt
      rw [Hcl.out]
      exact h
end Go.Proofs.YthcenmocnphnmaaGreatDoor
