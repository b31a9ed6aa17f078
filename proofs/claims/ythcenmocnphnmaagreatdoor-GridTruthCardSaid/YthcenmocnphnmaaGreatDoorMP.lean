/-
  The reference: Near, Terrain.
-/
import Derived.Test.YthcenmocnphnmaaGreatDoorMO
set_option linter.unusedSimpArgs false
set_option linter.unusedVariables false
namespace Go.Proofs.YthcenmocnphnmaaGreatDoor
open Go.RowKit Go.Shelf

set_option maxHeartbeats 1000000 in
theorem rNear_any (x : Value) (g : G) (c : Int) (w : World) (hg : GridAt w w.heap.size x g) :
    Calls Tryz.prog 15 #[x, .int .i64 c] w (NearOut g c w) := by
  have HG := Lib.hid hg
  obtain ⟨v, rfl, hs⟩ := hg
  obtain ⟨A, k, rfl, hk, hm⟩ := hs.open_
  clear hs
  have hB : Below w.heap.size w (w.alloc (.cells #[.int .i64 g.W, .int .i64 g.H, .int .i64 g.S, .slice A g.ss.length k] 24)) := (by repeat (first | exact Below.refl _ _ | assumption | refine Below.drew ?_ | refine Below.drewN' ?_ _ | (refine Below.alloc ?_ (by simp <;> omega) _) | (refine Below.setCell ?_ (by simp <;> omega) _)))
  have HB := Lib.hid hB
  have b0 : Blk (w.alloc (.cells #[.int .i64 g.W, .int .i64 g.H, .int .i64 g.S, .slice A g.ss.length k] 24)) w.heap.size 24 #[.int .i64 g.W, .int .i64 g.H, .int .i64 g.S, .slice A g.ss.length k] := Blk.new' _ _ _ rfl
  have HBB := Lib.hid b0
  clear hB b0
  go_enter Tryz.func15, Tryz.ntmps15
  go_wp2_with fail
  refine (rCheck_any _ g _ (HG.out.later HB.out (Nat.le_refl _))).mono ?_
  rintro e w1 ⟨rfl, hb1⟩
  have HB1 := Lib.hid (HB.out.trans (hb1.mono HB.out.size))
  obtain ⟨d0, d1, d2, d3⟩ := grid_parts (HBB.out.below hb1 (by simp))
  clear hb1
  by_cases h0 : checkE g = 0
  case neg =>
    have He : Hid (nearE g c = checkE g) := by simp only [Hid, nearE]; rw [if_neg h0]
    have Hv : Hid (nearV g c = []) := by simp only [Hid, nearV]; rw [if_neg h0]
    have hb : (checkE g != 0) = true := by simpa using h0
    clear h0
    go_wp2
    go_ret2
    exact ⟨_, ret_pair He.out.symm, by rw [Hv.out]; exact ints_nil _ _, HB1.out⟩
  have hb : (checkE g != 0) = false := by simpa using h0
  have V := valid_of h0
  have hsm := V.small
  have HV := Lib.hid V
  by_cases h1 : inG g c = true
  case neg =>
    have h1' := hid_not h1
    have He : Hid (nearE g c = 4) := by simp only [Hid, nearE]; rw [if_pos h0, h1'.out]; rfl
    have Hv : Hid (nearV g c = []) := by simp only [Hid, nearV]; rw [if_pos h0, h1'.out]; rfl
    have hr : c < 0 ∨ (g.ss.length : Int) - 1 < c := by
      have h := h1'.out
      unfold inG at h
      have := of_decide_eq_false h
      omega
    clear h0 h1 V
    go_wp2_with (go_at_call 53; refine (rWithin_no _ _ _ _ hr).mono ?_; rintro e w2 ⟨rfl, rfl⟩)
    go_ret2
    exact ⟨_, ret_pair He.out.symm, by rw [Hv.out]; exact ints_nil _ _, HB1.out⟩
  have h1' : 0 ≤ c ∧ c < g.ss.length := of_decide_eq_true h1
  have He : Hid (nearE g c = 0) := by simp only [Hid, nearE]; rw [if_pos h0, h1]; rfl
  have Hv : Hid (nearV g c = nearL g c) := by simp only [Hid, nearV]; rw [if_pos h0, h1]; rfl
  obtain ⟨q, rfl⟩ : ∃ q : Nat, c = q := ⟨c.toNat, by omega⟩
  have hr1 : (0 : Int) ≤ (q : Int) := by omega
  have hr2 : (q : Int) ≤ (g.ss.length : Int) - 1 := by omega
  have hq : q < g.ss.length := by omega
  clear h0 h1 h1' V
  go_wp2_with (first
    | (go_at_call 53; refine (rWithin_yes _ _ _ _ hr1 hr2).mono ?_; rintro e w2 ⟨rfl, rfl⟩)
    | (go_at_call 54; refine (rNeighbors_any _ g q _ (by exact HG.out.later HB1.out (Nat.le_refl _)) HV.out hq).mono ?_; rintro e w2 ⟨v2, rfl, hv2, hb2, _⟩; have HV2 := Lib.hid hv2; clear hv2))
  go_ret2
  exact ⟨_, ret_pair He.out.symm, by rw [Hv.out]; exact HV2.out, HB1.out.trans (hb2.mono HB1.out.size)⟩

/-! Terrain -/
def ends (b : Bool) (ss : List (Int × Int)) : List Int := ss.map fun s => if b then s.2 else s.1
def TerrOut (b : Bool) (g : G) (w : World) (e : Ending) (w' : World) : Prop := ∃ v, e = .returned v ∧ w'.ownsRow w.heap.size 3 1 v g.ss.length ((ends b g.ss).map (Value.int .i64)) ∧ Below w.heap.size w w'
set_option maxRecDepth 100000 in
set_option maxHeartbeats 2000000 in
theorem rTerrain_any (x : Value) (g : G) (b : Bool) (w : World) (hg : GridAt w w.heap.size x g) (hl : g.ss.length ≤ 65536) :
    Calls Tryz.prog 61 #[x, .bool b] w (TerrOut b g w) := by
  obtain ⟨v, rfl, hs⟩ := hg
  obtain ⟨A, k, rfl, hk, hm⟩ := hs.open_
  have HS := Lib.hid hs
  have hB : Below w.heap.size w (w.alloc (.cells #[.int .i64 g.W, .int .i64 g.H, .int .i64 g.S, .slice A g.ss.length k] 24)) := (by repeat (first | exact Below.refl _ _ | assumption | refine Below.drew ?_ | refine Below.drewN' ?_ _ | (refine Below.alloc ?_ (by simp <;> omega) _) | (refine Below.setCell ?_ (by simp <;> omega) _)))
  have HB := Lib.hid hB
  have b0 : Blk (w.alloc (.cells #[.int .i64 g.W, .int .i64 g.H, .int .i64 g.S, .slice A g.ss.length k] 24)) w.heap.size 24 #[.int .i64 g.W, .int .i64 g.H, .int .i64 g.S, .slice A g.ss.length k] := Blk.new' _ _ _ rfl
  have HBB := Lib.hid b0
  clear hs hB b0
  obtain ⟨i0, hi0, hz0, hz1, hz2⟩ := info_parts int_info
  go_enter Tryz.func61, Tryz.ntmps61
  go_wp2
  go_loopw [5, 6] (fun a i wr => ∃ (q : Nat) (va : Value), va = a ∧ q ≤ g.ss.length ∧ i = .int .i64 q ∧ Hid (wr.ownsRow (w.heap.size + 1) 3 1 va q ((ends b (g.ss.take q)).map (Value.int .i64))) ∧ Below (w.heap.size + 1) (w.alloc (.cells #[.int .i64 g.W, .int .i64 g.H, .int .i64 g.S, .slice A g.ss.length k] 24)) wr) (fun _ i _ => g.ss.length - (intOf i).toNat)
  case atStart => exact ⟨0, _, rfl, Nat.zero_le _, rfl, World.ownsRow_nil _ _ _ _, Below.refl _ _⟩
  case round =>
    obtain ⟨q, va, rfl, hq, rfl, Hown, hBr⟩ := hrel
    have hsz := hBr.size
    simp only [World.size_alloc] at hsz
    have HBr := Lib.hid hBr
    have HBw := Lib.hid (HB.out.trans (hBr.mono (by omega)))
    obtain ⟨d0, d1, d2, d3⟩ := grid_parts (HBB.out.below hBr (by omega))
    by_cases hlt : q < g.ss.length
    · obtain ⟨bb, off, rfl, hbb, c1, c2⟩ := (HS.out.below HBw.out).at_ hlt
      have Hsn : Hid (ends b (g.ss.take (q + 1)) = ends b (g.ss.take q) ++ [if b then g.ss[q].2 else g.ss[q].1]) := by
        unfold ends
        rw [Hid, take_snoc _ _ hlt, List.map_append]
        rfl
      clear hBr
      generalize hp : g.ss[q] = p at *
      obtain ⟨lo, hi⟩ := p
      simp only at c1 c2
      clear hp
      have hlq : (ends b (g.ss.take q)).length = q := by unfold ends; simp; omega
      have Hlq := Lib.hid hlq.symm
      clear hlq
      have n1 : bb < wr.heap.size := by have := HBw.out.size; omega
      cases b with
      | true =>
        go_wp2_with (at_builtin; ((refine wpList_append_own_at _ rfl (.tmp 15) (.tmp 22) 26 rfl (w.heap.size + 1) 3 i0 (.int .i64 0) 1 8 Tryz.underlying26 hi0 hz0 hz1 hz2 rfl (by decide) va q _ rfl (Hown.out.alloc _) ⟨_, 0, none⟩ 1 1 [.int .i64 hi] rfl rfl (cell_one_new' _ _ _ (by simp)) (by simp [Value.oneCell']) (by unfold maxLen; omega) (by omega) (by simp <;> omega) ?_; intro v1 w1 hown1 hg1 _ _; obtain ⟨HO1, s2, HB1, HBs1⟩ := ints_step (l := ends true (g.ss.take q)) Hlq.out Hown.out HBr.out (by omega) hown1 hg1; clear s2 hown1 hg1)))
        go_roundw
        case rel => exact ⟨q + 1, v1, rfl, by omega, by go_num, by rw [Hsn.out]; exact HO1, HB1.out⟩
        case measure => simp [intOf]; omega
      | false =>
        go_wp2_with (at_builtin; ((refine wpList_append_own_at _ rfl (.tmp 24) (.tmp 31) 26 rfl (w.heap.size + 1) 3 i0 (.int .i64 0) 1 8 Tryz.underlying26 hi0 hz0 hz1 hz2 rfl (by decide) va q _ rfl (Hown.out.alloc _) ⟨_, 0, none⟩ 1 1 [.int .i64 lo] rfl rfl (cell_one_new' _ _ _ (by simp)) (by simp [Value.oneCell']) (by unfold maxLen; omega) (by omega) (by simp <;> omega) ?_; intro v1 w1 hown1 hg1 _ _; obtain ⟨HO1, s2, HB1, HBs1⟩ := ints_step (l := ends false (g.ss.take q)) Hlq.out Hown.out HBr.out (by omega) hown1 hg1; clear s2 hown1 hg1)))
        go_roundw
        case rel => exact ⟨q + 1, v1, rfl, by omega, by go_num, by rw [Hsn.out]; exact HO1, HB1.out⟩
        case measure => simp [intOf]; omega
    · have hq' : q = g.ss.length := by omega
      have HF : Hid (wr.ownsRow w.heap.size 3 1 va g.ss.length ((ends b g.ss).map (Value.int .i64))) := by
        have h := Hown.out
        rw [hq', List.take_length] at h
        exact own_base h (by omega)
      clear hBr hq' Hown
      go_wp2
      go_ret
      exact ⟨_, rfl, HF.out, HBw.out⟩
end Go.Proofs.YthcenmocnphnmaaGreatDoor
