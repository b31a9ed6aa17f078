/-
  The laws' own grids: made.
-/
import Derived.Test.YthcenmocnphnmaaGreatDoorNG
import Derived.Test.YthcenmocnphnmaaGreatDoorMM
import Derived.Test.YthcenmocnphnmaaGreatDoorMN
import Derived.Test.YthcenmocnphnmaaGreatDoorMY
import Derived.Test.YthcenmocnphnmaaGreatDoorMP
import Derived.Test.YthcenmocnphnmaaGreatDoorMK
set_option linter.unusedSimpArgs false
set_option linter.unusedVariables false
namespace Go.Proofs.YthcenmocnphnmaaGreatDoor
open Go.RowKit Go.Shelf

/-- the cell of a list that goes round -/
def cyc (l : List Int) (i : Nat) : Int := if l.length = 0 then 0 else val l (i % l.length)
def spanM (low more : List Int) (i : Nat) : Int × Int := (cyc low i, cyc low i + cyc more i)
def madeG (W H : Int) (low more : List Int) : G := ⟨1 + W.tmod 5, 1 + H.tmod 5, 100, (List.range ((1 + W.tmod 5) * (1 + H.tmod 5)).toNat).map (spanM low more)⟩
def MadeOut (g : G) (w : World) (e : Ending) (w' : World) : Prop := ∃ x, e = .returned x ∧ GridAt w' w'.heap.size x g ∧ Below w.heap.size w w' ∧ FreshG w.heap.size x

theorem NumsAt.open_ {k : IntKind} {w : World} {B : Nat} {v : Value} {zs : List Int} (h : NumsAt k w B v zs) : ∃ A c, v = .slice A zs.length c ∧ zs.length ≤ c ∧ zs.length ≤ 9223372036854775807 := by
  obtain ⟨_, hm, A, c, rfl, hc, _⟩ := h
  exact ⟨A, c, rfl, hc, by first | omega | (unfold maxLen at hm; omega)⟩

theorem NumsAt.below {k : IntKind} {w w' : World} {B : Nat} {v : Value} {zs : List Int} (h : NumsAt k w B v zs) (hb : Below B w w') : NumsAt k w' B v zs := Reads.below h hb
theorem NumsAt.later {k : IntKind} {w w' : World} {B : Nat} {v : Value} {zs : List Int} (h : NumsAt k w B v zs) (hb : Below B w w') (hB : B ≤ w.heap.size) : NumsAt k w' w'.heap.size v zs := Reads.later h hb hB
theorem NumsAt.at_ {k : IntKind} {w : World} {B : Nat} {A : Option Addr} {c : Nat} {zs : List Int} (h : NumsAt k w B (.slice A zs.length c) zs) {j : Nat} (hj : j < zs.length) : ∃ b off, A = some ⟨b, off, none⟩ ∧ b < B ∧ w.cell? ⟨b, off + j, none⟩ = some (.int k zs[j]) := by
  obtain ⟨b, off, rfl, hb, u, hu, hc⟩ := Reads.at1 h hj
  refine ⟨b, off, rfl, hb, ?_⟩
  rw [hc, ← hu, List.getElem?_map, List.getElem?_eq_getElem hj]
  rfl

theorem cyc_rng {l : List Int} {a b : Int} (h : ∀ z ∈ l, a ≤ z ∧ z ≤ b) (h0 : a ≤ 0 ∧ 0 ≤ b) (i : Nat) : a ≤ cyc l i ∧ cyc l i ≤ b := by
  unfold cyc
  split
  · exact h0
  · have hl : i % l.length < l.length := Nat.mod_lt _ (by omega)
    unfold val
    rw [List.getD_eq_getElem?_getD, List.getElem?_eq_getElem hl]
    exact h _ (List.getElem_mem hl)

set_option maxRecDepth 100000 in
set_option maxHeartbeats 4000000 in
theorem made_any (W H : Int) (x y : Value) (low more : List Int) (w : World) (hW : 0 ≤ W ∧ W ≤ 255) (hH : 0 ≤ H ∧ H ≤ 255)
    (hx : NumsAt .i16 w w.heap.size x low) (hy : NumsAt .u8 w w.heap.size y more) (hxr : ∀ z ∈ low, -32768 ≤ z ∧ z ≤ 32767) (hyr : ∀ z ∈ more, 0 ≤ z ∧ z ≤ 255) :
    Calls Tryz.prog 39 #[.agg #[.int .u8 W, .int .u8 H, x, y]] w (MadeOut (madeG W H low more) w) := by
  have HX := Lib.hid hx
  have HY := Lib.hid hy
  have HXR := Lib.hid hxr
  have HYR := Lib.hid hyr
  obtain ⟨A, k, rfl, hk, hm⟩ := hx.open_
  obtain ⟨A', k', rfl, hk', hm'⟩ := hy.open_
  clear hx hy hxr hyr
  obtain ⟨a, ha⟩ : ∃ a, W.tmod 5 = a := ⟨_, rfl⟩
  obtain ⟨b, hb⟩ : ∃ b, H.tmod 5 = b := ⟨_, rfl⟩
  have ha1 : 0 ≤ a ∧ a ≤ 4 := by rw [← ha, Int.tmod_eq_emod_of_nonneg hW.1]; omega
  have hb1 : 0 ≤ b ∧ b ≤ 4 := by rw [← hb, Int.tmod_eq_emod_of_nonneg hH.1]; omega
  have hG : madeG W H low more = ⟨1 + a, 1 + b, 100, (List.range ((1 + a) * (1 + b)).toNat).map (spanM low more)⟩ := by unfold madeG; rw [ha, hb]
  have HGG := Lib.hid hG
  clear hG
  obtain ⟨hW1, hW2⟩ := hW
  obtain ⟨hH1, hH2⟩ := hH
  obtain ⟨ha1, ha2⟩ := ha1
  obtain ⟨hb1, hb2⟩ := hb1
  obtain ⟨hn1, hn2⟩ := mul_rng (a := 1 + a) (b := 1 + b) (by omega) (by omega) (by omega) (by omega)
  obtain ⟨N, hN⟩ : ∃ N : Nat, (1 + a) * (1 + b) = N := ⟨((1 + a) * (1 + b)).toNat, by omega⟩
  have HGG : Hid (madeG W H low more = ⟨1 + a, 1 + b, 100, (List.range N).map (spanM low more)⟩) := by
    rw [Hid, HGG.out, hN, Int.toNat_natCast]
  obtain ⟨W3, hW3⟩ : ∃ W3, ((w.alloc (.cells #[.int .u8 W, .int .u8 H, .slice A low.length k, .slice A' more.length k'] 64)).alloc (.cells #[.int .i64 0, .int .i64 0, .int .i64 0, .slice none 0 0] 24)).alloc (.cells #[.int .i64 (1 + a), .int .i64 (1 + b), .int .i64 100, .slice none 0 0] 24) = W3 := ⟨_, rfl⟩
  have HB3 : Hid (Below w.heap.size w W3) := by rw [← hW3]; exact (by repeat (first | exact Below.refl _ _ | assumption | refine Below.drew ?_ | refine Below.drewN' ?_ _ | (refine Below.alloc ?_ (by simp <;> omega) _) | (refine Below.setCell ?_ (by simp <;> omega) _)))
  have HL3 : Hid (Blk W3 w.heap.size 64 #[.int .u8 W, .int .u8 H, .slice A low.length k, .slice A' more.length k']) := by rw [← hW3]; exact Blk.alloc (Blk.alloc (Blk.new' _ _ _ rfl) _) _
  have HZ3 : Hid (Blk W3 (w.heap.size + 1) 24 #[.int .i64 0, .int .i64 0, .int .i64 0, .slice none 0 0]) := by rw [← hW3]; exact Blk.alloc (Blk.new' _ _ _ (by simp)) _
  have HG3 : Hid (Blk W3 (w.heap.size + 1 + 1) 24 #[.int .i64 (1 + a), .int .i64 (1 + b), .int .i64 100, .slice none 0 0]) := by rw [← hW3]; exact Blk.new' _ _ _ (by simp)
  have Hsz3 : Hid (W3.heap.size = w.heap.size + 1 + 1 + 1) := by rw [Hid, ← hW3]; simp
  have HW3 := Lib.hid hW3
  clear hW3
  rw [hN] at hn1 hn2
  have HN := Lib.hid hN
  obtain ⟨i0, hi0, hz0, hz1, hz2⟩ := info_parts span_info
  go_enter Tryz.func39, Tryz.ntmps39
  go_wp2
  rw [HW3.out]
  clear ha hb hN
  go_loopw [22] (fun jv wr => ∃ (q : Nat) (ss : List (Int × Int)) (va : Value), jv = .int .i64 q ∧ q ≤ N ∧ ss.length = q ∧ Hid (ss = (List.range q).map (spanM low more)) ∧ Hid (RdSt (w.heap.size + 1 + 1) W3 wr (1 + a) (1 + b) 100 ss va)) (fun j _ => N - (intOf j).toNat)
  case atStart => exact ⟨0, [], _, rfl, Nat.zero_le _, rfl, rfl, ⟨World.ownsRow_nil _ _ _ _, HG3.out, Below.refl _ _⟩⟩
  case round =>
    obtain ⟨q, ss, va, rfl, hq, hlen, Hss, Hst⟩ := hrel
    have HBw := Lib.hid (HB3.out.trans (Hst.out.bel.mono (by omega)))
    have hle : ss.length ≤ 600 := by omega
    have Hlen := Lib.hid hlen
    clear hlen
    have hsz := Hst.out.blk.lt
    have HL := Lib.hid (HL3.out.below Hst.out.bel (by omega))
    have HZ := Lib.hid (HZ3.out.below Hst.out.bel (by omega))
    have d2 := HL.out.cell 2
    have d3 := HL.out.cell 3
    simp only [List.getElem?_toArray, List.getElem?_cons_zero, List.getElem?_cons_succ] at d2 d3
    obtain ⟨z0, z1, z2, z3⟩ := grid_parts Hst.out.blk
    have l0 : w.heap.size < wr.heap.size := by omega
    have l2 : w.heap.size + 1 + 1 < wr.heap.size := by omega
    by_cases hlt : q < N
    · have hq0 : (0 : Int) ≤ (q : Int) := by omega
      have hq1 : (q : Int) < (N : Int) := by omega
      obtain ⟨z, hz⟩ : ∃ z, cyc low q = z := ⟨_, rfl⟩
      obtain ⟨m, hm0⟩ : ∃ m, cyc more q = m := ⟨_, rfl⟩
      have hzr : -32768 ≤ z ∧ z ≤ 32767 := by rw [← hz]; exact cyc_rng HXR.out (by omega) q
      have hmr : 0 ≤ m ∧ m ≤ 255 := by rw [← hm0]; exact cyc_rng HYR.out (by omega) q
      have Hsp : Hid (spanM low more q = (z, z + m)) := by rw [Hid, spanM, hz, hm0]
      have HZc := Lib.hid hz
      have HMc := Lib.hid hm0
      clear hz hm0
      obtain ⟨hzr1, hzr2⟩ := hzr
      obtain ⟨hmr1, hmr2⟩ := hmr
      have wz : IntKind.i64.wrap z = z := IntWalk.i64_in _ (by omega)
      have wm : IntKind.i64.wrap m = m := IntWalk.i64_in _ (by omega)
      have wzm : IntKind.i64.wrap (z + m) = z + m := IntWalk.i64_in _ (by omega)
      rcases Nat.eq_zero_or_pos low.length with hl | hl
      case' inl =>
        have hz0 : z = 0 := by rw [← HZc.out, cyc, if_pos hl]
        have hlI : ¬ (0 : Int) < (low.length : Int) := by omega
        clear hl
        go_upto_region 8 with (fail)
        obtain ⟨Wq, hWq⟩ : ∃ W, wr.alloc (.cells #[.int .i64 0, .int .i64 0] 34) = W := ⟨_, rfl⟩
        have HSB : Hid (Blk Wq wr.heap.size 34 #[.int .i64 z, .int .i64 0]) := by rw [Hid, ← hWq, hz0]; exact Blk.new' _ _ _ rfl
        have HWq : Hid (Below wr.heap.size wr Wq ∧ Wq.heap.size = wr.heap.size + 1) := by rw [Hid, ← hWq]; exact ⟨(by repeat (first | exact Below.refl _ _ | assumption | refine Below.drew ?_ | refine Below.drewN' ?_ _ | (refine Below.alloc ?_ (by simp <;> omega) _) | (refine Below.setCell ?_ (by simp <;> omega) _))), by simp⟩
        rw [hWq]
        clear hWq hlI hz0
      case' inr =>
        obtain ⟨rr, hrr⟩ : ∃ r, q % low.length = r := ⟨_, rfl⟩
        have hrl : rr < low.length := by rw [← hrr]; exact Nat.mod_lt _ hl
        have hmod : (q : Int).tmod (low.length : Int) = (rr : Int) := by rw [← hrr]; exact (Int.ofNat_tmod q low.length).symm
        obtain ⟨bl, ol, rfl, hbl, c1⟩ := (HX.out.below HBw.out).at_ (j := rr) hrl
        have Hcy : low[rr] = z := by
          rw [← HZc.out, cyc, if_neg (by omega), hrr, val, List.getD_eq_getElem?_getD, List.getElem?_eq_getElem hrl]; rfl
        rw [Hcy] at c1
        clear Hcy hrr
        have hl0 : (0 : Int) < (low.length : Int) := by omega
        have hl1 : ((low.length : Int) == 0) = false := by rw [beq_eq_false_iff_ne]; omega
        have hl2 : ¬ (low.length : Int) = 0 := by omega
        have hl3 : ¬ low.length = 0 := by omega
        go_upto_region 7 with (fail)
        go_region_held3 (fun w' => w'.cell? ⟨w.heap.size, 2, none⟩ = some (.slice (some ⟨bl, ol, none⟩) low.length k) ∧ w'.cell? ⟨bl, ol + rr, none⟩ = some (.int .i16 z))
              (first | assumption | (refine ⟨?_, ?_⟩ <;> assumption) | go_keep)
              (fail)
        go_upto_region 8 with (fail)
        obtain ⟨Wq, hWq⟩ : ∃ W, (wr.alloc (.cells #[.int .i64 z, .int .i64 0] 34)).drew = W := ⟨_, rfl⟩
        have HSB : Hid (Blk Wq wr.heap.size 34 #[.int .i64 z, .int .i64 0]) := by rw [Hid, ← hWq]; exact Blk.drew (Blk.new' _ _ _ rfl)
        have HWq : Hid (Below wr.heap.size wr Wq ∧ Wq.heap.size = wr.heap.size + 1) := by rw [Hid, ← hWq]; exact ⟨(by repeat (first | exact Below.refl _ _ | assumption | refine Below.drew ?_ | refine Below.drewN' ?_ _ | (refine Below.alloc ?_ (by simp <;> omega) _) | (refine Below.setCell ?_ (by simp <;> omega) _))), by simp⟩
        rw [hWq]
        clear hWq hl0 hl1 hl2 hl3 hmod c1
      all_goals
        have HLq := Lib.hid (HL.out.below HWq.out.1 (by omega))
        have hsq := HWq.out.2
        have e3 : Wq.cell? ⟨w.heap.size, 3, none⟩ = some (.slice A' more.length k') := HLq.out.cell 3
        have s0 : Wq.cell? ⟨wr.heap.size, 0, none⟩ = some (.int .i64 z) := HSB.out.cell 0
        have s1 : Wq.cell? ⟨wr.heap.size, 1, none⟩ = some (.int .i64 0) := HSB.out.cell 1
        have f0 := HSB.out.frozen 0
        have f1 := HSB.out.frozen 1
        clear d2 d3 z0 z1 z2 z3
        rcases Nat.eq_zero_or_pos more.length with ho | ho
        case' inl =>
          have hm0 : m = 0 := by rw [← HMc.out, cyc, if_pos ho]
          have hoI : ¬ (0 : Int) < (more.length : Int) := by omega
          clear ho
          go_upto_region 11 with (fail)
          obtain ⟨U, hU⟩ : ∃ W, Wq.setCell ⟨wr.heap.size, 1, none⟩ (.int .i64 z) = W := ⟨_, rfl⟩
          have HSU : Hid (Blk U wr.heap.size 34 #[.int .i64 z, .int .i64 (z + m)]) := by
            rw [Hid, ← hU, hm0, Int.add_zero]; exact HSB.out.set_ 1 _
          have HU : Hid (Below wr.heap.size wr U ∧ U.heap.size = wr.heap.size + 1) := by rw [Hid, ← hU]; exact ⟨HWq.out.1.setCell (Nat.le_refl _) _, by rw [World.size_setCell]; exact HWq.out.2⟩
          rw [hU]
          clear hU hoI hm0
        case' inr =>
          obtain ⟨r2, hr2⟩ : ∃ r, q % more.length = r := ⟨_, rfl⟩
          have hrl2 : r2 < more.length := by rw [← hr2]; exact Nat.mod_lt _ ho
          have hmod2 : (q : Int).tmod (more.length : Int) = (r2 : Int) := by rw [← hr2]; exact (Int.ofNat_tmod q more.length).symm
          obtain ⟨bm, om, rfl, hbm, c2r⟩ := (HY.out.below HBw.out).at_ (j := r2) hrl2
          have Hcy2 : more[r2] = m := by
            rw [← HMc.out, cyc, if_neg (by omega), hr2, val, List.getD_eq_getElem?_getD, List.getElem?_eq_getElem hrl2]; rfl
          rw [Hcy2] at c2r
          clear Hcy2 hr2
          have ho0 : (0 : Int) < (more.length : Int) := by omega
          have ho1 : ((more.length : Int) == 0) = false := by rw [beq_eq_false_iff_ne]; omega
          have ho2 : ¬ (more.length : Int) = 0 := by omega
          have ho3 : ¬ more.length = 0 := by omega
          have hbm' : bm < wr.heap.size := by omega
          go_upto_region 10 with (fail)
          obtain ⟨U0, hU0⟩ : ∃ W, Wq.setCell ⟨wr.heap.size, 1, none⟩ (.int .i64 z) = W := ⟨_, rfl⟩
          have HSU0 : Hid (Blk U0 wr.heap.size 34 #[.int .i64 z, .int .i64 z]) := by rw [Hid, ← hU0]; exact HSB.out.set_ 1 _
          have HU0 : Hid (Below wr.heap.size wr U0 ∧ U0.heap.size = wr.heap.size + 1) := by rw [Hid, ← hU0]; exact ⟨HWq.out.1.setCell (Nat.le_refl _) _, by rw [World.size_setCell]; exact HWq.out.2⟩
          rw [hU0]
          clear hU0 s0 s1 f0 f1 e3
          have e3 : U0.cell? ⟨w.heap.size, 3, none⟩ = some (.slice (some ⟨bm, om, none⟩) more.length k') := (HL.out.below HU0.out.1 (by omega)).cell 3
          have c2 : U0.cell? ⟨bm, om + r2, none⟩ = some (.int .u8 m) := by rw [HU0.out.1.cell (by exact hbm')]; exact c2r
          have s0 : U0.cell? ⟨wr.heap.size, 0, none⟩ = some (.int .i64 z) := HSU0.out.cell 0
          have s1 : U0.cell? ⟨wr.heap.size, 1, none⟩ = some (.int .i64 z) := HSU0.out.cell 1
          have f1 := HSU0.out.frozen 1
          have HU1 : Below wr.heap.size wr (U0.setCell ⟨wr.heap.size, 1, none⟩ (.int .i64 (z + m))) := HU0.out.1.setCell (Nat.le_refl _) _
          have g3 : (U0.setCell ⟨wr.heap.size, 1, none⟩ (.int .i64 (z + m))).drew.cell? ⟨w.heap.size, 3, none⟩ = some (.slice (some ⟨bm, om, none⟩) more.length k') := (HL.out.below HU1 (by omega)).cell 3
          have g4 : (U0.setCell ⟨wr.heap.size, 1, none⟩ (.int .i64 (z + m))).drew.cell? ⟨bm, om + r2, none⟩ = some (.int .u8 m) := (HU1.cell (p := ⟨bm, om + r2, none⟩) hbm').trans c2r
          refine wp_region_noPanic ?_
          refine wp_region_held_drew (S := (fun w' => w'.cell? ⟨w.heap.size, 3, none⟩ = some (.slice (some ⟨bm, om, none⟩) more.length k') ∧ w'.cell? ⟨bm, om + r2, none⟩ = some (.int .u8 m))) (by kernel_rfl) ?_ (fun hHeld => ?_)
          · (try dsimp only); (first | assumption | (refine ⟨?_, ?_⟩ <;> assumption) | go_keep)
          refine wpAnyH_take (i := 0) (oi := _) (v := ?_) rfl (by kernel_rfl) (by kernel_rfl) (by kernel_rfl) (fun _ _ _ h => h) (Or.inl ⟨by rfl, ?_⟩) (by assumption) ?_
          rotate_left
          · ((intro w hSw; (try dsimp only at hSw); go_simp) <;> with_reducible rfl)
          try simp only [Act.put, List.setIfInBounds_toArray, List.set_cons_zero, List.set_cons_succ]
          refine wpAnyH_take (i := 2) (oi := _) (v := ?_) rfl (by kernel_rfl) (by kernel_rfl) (by kernel_rfl) (fun _ _ _ h => h) (Or.inl ⟨by rfl, ?_⟩) (by assumption) ?_
          rotate_left
          · ((intro w hSw; (try dsimp only at hSw); go_simp) <;> with_reducible rfl)
          try simp only [Act.put, List.setIfInBounds_toArray, List.set_cons_zero, List.set_cons_succ]
          refine wpAnyH_take (i := 3) (oi := _) (v := ?_) rfl (by kernel_rfl) (by kernel_rfl) (by kernel_rfl) (fun _ _ _ h => h) (Or.inl ⟨by rfl, ?_⟩) (by assumption) ?_
          rotate_left
          · ((intro w hSw; (try dsimp only at hSw); go_simp) <;> with_reducible rfl)
          try simp only [Act.put, List.setIfInBounds_toArray, List.set_cons_zero, List.set_cons_succ]
          refine wpAnyH_take (i := 4) (oi := _) (v := ?_) rfl (by kernel_rfl) (by kernel_rfl) (by kernel_rfl) (fun _ _ _ h => h) (Or.inl ⟨by rfl, ?_⟩) (by assumption) ?_
          rotate_left
          · ((intro w hSw; (try dsimp only at hSw); go_simp) <;> with_reducible rfl)
          try simp only [Act.put, List.setIfInBounds_toArray, List.set_cons_zero, List.set_cons_succ]
          refine wpAnyH_take (i := 5) (oi := _) (v := ?_) rfl (by kernel_rfl) (by kernel_rfl) (by kernel_rfl) (fun _ _ _ h => h) (Or.inl ⟨by rfl, ?_⟩) (by assumption) ?_
          rotate_left
          · ((intro w hSw; (try dsimp only at hSw); go_simp) <;> with_reducible rfl)
          try simp only [Act.put, List.setIfInBounds_toArray, List.set_cons_zero, List.set_cons_succ]
          refine wpAnyH_take (i := 6) (oi := _) (v := ?_) rfl (by kernel_rfl) (by kernel_rfl) (by kernel_rfl) (fun _ _ _ h => h) (Or.inl ⟨by rfl, ?_⟩) (by assumption) ?_
          rotate_left
          · ((intro w hSw; (try dsimp only at hSw); go_simp) <;> with_reducible rfl)
          try simp only [Act.put, List.setIfInBounds_toArray, List.set_cons_zero, List.set_cons_succ]
          refine wpAnyH_take (i := 7) (oi := _) (v := ?_) rfl (by kernel_rfl) (by kernel_rfl) (by kernel_rfl) (fun _ _ _ h => h) (Or.inl ⟨by rfl, ?_⟩) (by assumption) ?_
          rotate_left
          · ((intro w hSw; (try dsimp only at hSw); go_simp) <;> with_reducible rfl)
          try simp only [Act.put, List.setIfInBounds_toArray, List.set_cons_zero, List.set_cons_succ]
          refine wpAnyH_take (i := 8) (oi := _) (v := ?_) rfl (by kernel_rfl) (by kernel_rfl) (by kernel_rfl) (fun _ _ _ h => h) (Or.inl ⟨by rfl, ?_⟩) (by assumption) ?_
          rotate_left
          · ((intro w hSw; (try dsimp only at hSw); go_simp) <;> with_reducible rfl)
          try simp only [Act.put, List.setIfInBounds_toArray, List.set_cons_zero, List.set_cons_succ]
          refine wpAnyH_take (i := 9) (oi := _) (v := ?_) rfl (by kernel_rfl) (by kernel_rfl) (by kernel_rfl) (fun _ _ _ h => h) (Or.inl ⟨by rfl, ?_⟩) (by assumption) ?_
          rotate_left
          · ((intro w hSw; (try dsimp only at hSw); go_simp) <;> with_reducible rfl)
          try simp only [Act.put, List.setIfInBounds_toArray, List.set_cons_zero, List.set_cons_succ]
          refine wpAnyH_take (i := 10) (oi := _) (v := ?_) rfl (by kernel_rfl) (by kernel_rfl) (by kernel_rfl) (fun _ _ _ h => h) (Or.inl ⟨by rfl, ?_⟩) (by assumption) ?_
          rotate_left
          · ((intro w hSw; (try dsimp only at hSw); go_simp) <;> with_reducible rfl)
          try simp only [Act.put, List.setIfInBounds_toArray, List.set_cons_zero, List.set_cons_succ]
          refine wpAnyH_take (i := 11) (oi := _) (v := ?_) rfl (by kernel_rfl) (by kernel_rfl) (by kernel_rfl) (fun _ _ _ h => h) (Or.inl ⟨by rfl, ?_⟩) (by assumption) ?_
          rotate_left
          · ((intro w hSw; (try dsimp only at hSw); go_simp) <;> with_reducible rfl)
          try simp only [Act.put, List.setIfInBounds_toArray, List.set_cons_zero, List.set_cons_succ]
          refine wpAnyH_ready (rs := [1]) (by kernel_rfl) (by simp) ?_
          refine AllReadyH.cons (o := _) rfl (fun K hK => ?_) AllReadyH.nil
          go_simp
          refine hK.out _ _ ?_ (fun hHeld => ?_)
          · (try dsimp only); (first | assumption | (refine ⟨?_, ?_⟩ <;> assumption) | go_keep)
          clear hK K
          try simp only [Act.put, List.setIfInBounds_toArray, List.set_cons_zero, List.set_cons_succ]
          refine wpAnyH_take (i := 12) (oi := _) (v := ?_) rfl (by kernel_rfl) (by kernel_rfl) (by kernel_rfl) (fun _ _ _ h => h) (Or.inl ⟨by rfl, ?_⟩) (by assumption) ?_
          rotate_left
          · ((intro w hSw; (try dsimp only at hSw); go_simp) <;> with_reducible rfl)
          try simp only [Act.put, List.setIfInBounds_toArray, List.set_cons_zero, List.set_cons_succ]
          refine wpAnyH_take (i := 13) (oi := _) (v := ?_) rfl (by kernel_rfl) (by kernel_rfl) (by kernel_rfl) (fun _ _ _ h => h) (Or.inl ⟨by rfl, ?_⟩) (by assumption) ?_
          rotate_left
          · ((intro w hSw; (try dsimp only at hSw); go_simp) <;> with_reducible rfl)
          try simp only [Act.put, List.setIfInBounds_toArray, List.set_cons_zero, List.set_cons_succ]
          refine wpAnyH_ready (rs := [14]) (by kernel_rfl) (by simp) ?_
          refine AllReadyH.cons (o := _) rfl (fun K hK => ?_) AllReadyH.nil
          go_simp
          refine hK.out _ _ ?_ (fun hHeld => ?_)
          · (try dsimp only); (first | assumption | (refine ⟨?_, ?_⟩ <;> assumption) | go_keep)
          clear hK K
          try simp only [Act.put, List.setIfInBounds_toArray, List.set_cons_zero, List.set_cons_succ]
          refine wpAnyH_done (by kernel_rfl) ?_ _
          refine NoPanic.normal ?_
          go_upto_region 11 with (fail)
          obtain ⟨U, hU⟩ : ∃ W, (U0.setCell ⟨wr.heap.size, 1, none⟩ (.int .i64 (z + m))).drew = W := ⟨_, rfl⟩
          have HSU : Hid (Blk U wr.heap.size 34 #[.int .i64 z, .int .i64 (z + m)]) := by
            rw [Hid, ← hU]; exact Blk.drew (HSU0.out.set_ 1 _)
          have HU : Hid (Below wr.heap.size wr U ∧ U.heap.size = wr.heap.size + 1) := by rw [Hid, ← hU]; exact ⟨Below.drew HU1, by rw [World.size_drew, World.size_setCell]; exact HU0.out.2⟩
          rw [hU]
          clear hU ho0 ho1 ho2 ho3 hmod2 g3 g4 HU1 HSU0 HU0 e3 c2 c2r s0 s1 f1
        all_goals
          have HstU := Lib.hid (Hst.out.below HU.out.1)
          have hsu := HU.out.2
          have lu : w.heap.size + 1 + 1 + 1 ≤ U.heap.size := by omega
          have lv : w.heap.size + 1 + 1 < U.heap.size := by omega
          have lw : wr.heap.size < U.heap.size := by omega
          clear hsu hsq
          have s0 : U.cell? ⟨wr.heap.size, 0, none⟩ = some (.int .i64 z) := HSU.out.cell 0
          have s1 : U.cell? ⟨wr.heap.size, 1, none⟩ = some (.int .i64 (z + m)) := HSU.out.cell 1
          have y3 := HstU.out.at3
          have Hsn : Hid (ss ++ [(z, z + m)] = (List.range (q + 1)).map (spanM low more)) := by
            rw [Hid, List.range_succ, List.map_append, ← Hss.out, List.map_singleton, Hsp.out]
          go_wp2_with (at_builtin; ((refine wpList_append_own_at _ rfl (.tmp 63) (.tmp 65) 22 rfl (w.heap.size + 1 + 1 + 1) 34 i0 (.agg #[.int .i64 0, .int .i64 0]) 2 16 Tryz.underlying22 hi0 hz0 hz1 hz2 rfl (by decide) va ss.length _ rfl (HstU.out.own.alloc _) ⟨U.heap.size, 0, none⟩ 1 1 [.int .i64 z, .int .i64 (z + m)] rfl rfl (cells_pair_new _ _ _ _ (by simp)) (by simp [Value.oneCell']) (by unfold maxLen; omega) (by omega) (by simp <;> omega) ?_; intro v1 w8 hown1 hg1 _ _; obtain ⟨g8, c8, rfl⟩ := own_some hown1 (Nat.succ_pos _); have hm := RdSt.mid HstU.out hg1; have y4 := hm.1; have y5 := hm.2; have HS8 := Lib.hid (RdSt.step (x := (z, z + m)) HstU.out rfl hown1 hg1); clear hm hown1 hg1)))
          go_roundw
          case rel => exact ⟨q + 1, ss ++ [(z, z + m)], _, by go_num, by omega, by have := Hlen.out; simp; omega, Hsn.out, HS8.out⟩
          case measure => simp [intOf] <;> omega
    · have hqe : q = N := by omega
      obtain ⟨g8, c8, rfl⟩ := own_some Hst.out.own (by have := Hlen.out; omega)
      have hE : madeG W H low more = ⟨1 + a, 1 + b, 100, ss⟩ := by rw [HGG.out, Hss.out, hqe]
      have HE := Lib.hid hE
      have hg8 := (Hst.out.own.lt g8 rfl).1
      have HV : Hid ((Value.slice (some ⟨g8, 0, none⟩) ss.length c8).ownBlock ≠ some (w.heap.size + 1)) := fun e => by have := (Hst.out.own.lt _ e).1; omega
      obtain ⟨⟨y0, y1, y2, y3⟩, f0, f1, f2, f3⟩ := zero_parts HZ.out
      have n1 : ¬ w.heap.size + 1 + 1 = w.heap.size + 1 := by omega
      have n2 : ¬ w.heap.size + 1 = w.heap.size + 1 + 1 := by omega
      clear hqe hE
      go_wp2
      refine bodyPost_ret (v := .agg #[.int .i64 (1 + a), .int .i64 (1 + b), .int .i64 100, .slice (some ⟨g8, 0, none⟩) ss.length c8]) (by simp [results, Tryz.results39, go_sem, y0, y1, y2, y3, f0, f1, f2, f3]) rfl ?_
      rw [HE.out]
      refine ⟨_, rfl, ⟨_, rfl, ?_⟩, HBw.out.trans (by repeat (first | exact Below.refl _ _ | assumption | refine Below.drew ?_ | refine Below.drewN' ?_ _ | (refine Below.alloc ?_ (by simp <;> omega) _) | (refine Below.setCell ?_ (by simp <;> omega) _))), freshG_some (by omega) _ _ _ _ _⟩
      refine Reads.of_own (base := w.heap.size + 1 + 1 + 1) (e := 34) ?_
      repeat (refine own_set ?_ (by exact HV.out) _)
      exact Hst.out.own
end Go.Proofs.YthcenmocnphnmaaGreatDoor
/-
  The laws' helpers: within, spansOf, seas.
-/
namespace Go.Proofs.YthcenmocnphnmaaGreatDoor
open Go.RowKit Go.Shelf

def withinB (a b : Int × Int) : Bool := decide (b.1 ≤ a.1 ∧ a.2 ≤ b.2 ∧ a.1 ≤ a.2)
theorem lwithin_any (a b c d : Int) (w : World) :
    Calls Tryz.prog 43 #[.agg #[.int .i64 a, .int .i64 b], .agg #[.int .i64 c, .int .i64 d]] w fun e w' => e = .returned (.bool (withinB (a, b) (c, d))) ∧ Below w.heap.size w w' := by
  by_cases h1 : c ≤ a
  · by_cases h2 : b ≤ d
    · go_enter Tryz.func43, Tryz.ntmps43
      go_wp2
      go_ret
      exact ⟨ret_bool (by simp [withinB, h1, h2]), (by repeat (first | exact Below.refl _ _ | assumption | refine Below.drew ?_ | refine Below.drewN' ?_ _ | (refine Below.alloc ?_ (by simp <;> omega) _) | (refine Below.setCell ?_ (by simp <;> omega) _)))⟩
    · go_enter Tryz.func43, Tryz.ntmps43
      go_wp2
      go_ret
      exact ⟨ret_bool (by simp [withinB]; omega), (by repeat (first | exact Below.refl _ _ | assumption | refine Below.drew ?_ | refine Below.drewN' ?_ _ | (refine Below.alloc ?_ (by simp <;> omega) _) | (refine Below.setCell ?_ (by simp <;> omega) _)))⟩
  · go_enter Tryz.func43, Tryz.ntmps43
    go_wp2
    go_ret
    exact ⟨ret_bool (by simp [withinB]; omega), (by repeat (first | exact Below.refl _ _ | assumption | refine Below.drew ?_ | refine Below.drewN' ?_ _ | (refine Below.alloc ?_ (by simp <;> omega) _) | (refine Below.setCell ?_ (by simp <;> omega) _)))⟩
theorem spansOf_ok (v : Value) (w : World) :
    Calls Tryz.prog 46 #[v, .int .i64 0] w fun e w' => e = .returned v ∧ w = w' := by
  go_enter Tryz.func46, Tryz.ntmps46
  go_wp2
  go_ret
  exact ⟨rfl, rfl⟩

def seasL (n : Nat) (l : List Int) : List Int := 0 :: l.map fun c => c % n
theorem seasL_take (n : Nat) (l : List Int) (q : Nat) (h : q < l.length) : seasL n (l.take (q + 1)) = seasL n (l.take q) ++ [l[q] % n] := by
  unfold seasL
  rw [take_snoc l q h, List.map_append]
  rfl
set_option maxRecDepth 100000 in
set_option maxHeartbeats 4000000 in
theorem seas_own (x y : Value) (g : G) (l : List Int) (w : World) (hg : GridAt w w.heap.size x g) (hy : NumsAt .u8 w w.heap.size y l) (hr : ∀ z ∈ l, 0 ≤ z ∧ z ≤ 255) (h0 : 0 < g.ss.length) (h1 : g.ss.length ≤ 65536) (hl : l.length ≤ 65536) :
    Calls Tryz.prog 40 #[x, y] w fun e w' => ∃ v, e = .returned v ∧ w'.ownsRow (w.heap.size + 1) 3 1 v (seasL g.ss.length l).length ((seasL g.ss.length l).map (Value.int .i64)) ∧ Below w.heap.size w w' := by
  have HR := Lib.hid hr
  have HY := Lib.hid hy
  obtain ⟨v, rfl, hs⟩ := hg
  obtain ⟨A, k, rfl, hk, hm⟩ := hs.open_
  obtain ⟨A', k', rfl, hk', hm'⟩ := hy.open_
  obtain ⟨W1, hW1⟩ : ∃ W1, w.alloc (.cells #[.int .i64 g.W, .int .i64 g.H, .int .i64 g.S, .slice A g.ss.length k] 24) = W1 := ⟨_, rfl⟩
  have HB : Hid (Below w.heap.size w W1) := by rw [← hW1]; exact (by repeat (first | exact Below.refl _ _ | assumption | refine Below.drew ?_ | refine Below.drewN' ?_ _ | (refine Below.alloc ?_ (by simp <;> omega) _) | (refine Below.setCell ?_ (by simp <;> omega) _)))
  have HBB : Hid (Blk W1 w.heap.size 24 #[.int .i64 g.W, .int .i64 g.H, .int .i64 g.S, .slice A g.ss.length k]) := by rw [← hW1]; exact Blk.new' _ _ _ rfl
  have Hs1 : Hid (W1.heap.size = w.heap.size + 1) := by rw [Hid, ← hW1]; simp
  have HW1 := Lib.hid hW1
  clear hs hy hr hW1
  have H0 := Lib.hid h0
  have g0 : ((g.ss.length : Int) == 0) = false := by rw [beq_eq_false_iff_ne]; omega
  have g1 : ¬ (g.ss.length : Int) = 0 := by omega
  have g2 : ¬ g.ss.length = 0 := by omega
  obtain ⟨i0, hi0, hz0, hz1, hz2⟩ := info_parts int_info
  go_enter Tryz.func40, Tryz.ntmps40
  go_wp2
  rw [HW1.out]
  go_loopw [5, 11] (fun a i wr => ∃ (q : Nat) (va : Value), va = a ∧ q ≤ l.length ∧ i = .int .i64 q ∧ Hid (wr.ownsRow (w.heap.size + 1) 3 1 va (q + 1) ((seasL g.ss.length (l.take q)).map (Value.int .i64))) ∧ Hid (Below (w.heap.size + 1) W1 wr) ∧ w.heap.size + 1 ≤ wr.heap.size) (fun _ i _ => l.length - (intOf i).toNat)
  case atStart =>
    have e := Hs1.out
    refine ⟨0, _, rfl, Nat.zero_le _, rfl, ?_, (Below.refl _ _).alloc (by rw [e]; exact Nat.le_refl _) _, by simp; omega⟩
    have h := World.ownsRow_lit (base := w.heap.size + 1) (e := 3) (size := 1) W1 #[.int .i64 0] 1 (by rw [e]; exact Nat.le_refl _) (by decide) (by simp)
    rw [e] at h
    exact h
  case round =>
    obtain ⟨q, va, rfl, hq, rfl, Hown, HBr, hsz⟩ := hrel
    have HBw := Lib.hid (HB.out.trans (HBr.out.mono (by omega)))
    obtain ⟨d0, d1, d2, d3⟩ := grid_parts (HBB.out.below HBr.out (by omega))
    by_cases hlt : q < l.length
    · obtain ⟨bb, off, rfl, hbb, c1⟩ := (HY.out.below HBw.out).at_ hlt
      have hr := HR.out _ (List.getElem_mem hlt)
      have Hsn := Lib.hid (seasL_take g.ss.length l q hlt)
      generalize l[q] = c at *
      obtain ⟨hr1, hr2⟩ := hr
      have wc : IntKind.i64.wrap c = c := IntWalk.i64_in _ (by omega)
      have hq0 : (0 : Int) ≤ (q : Int) := by omega
      have hq1 : (q : Int) < (l.length : Int) := by omega
      have hlq : (seasL g.ss.length (l.take q)).length = q + 1 := by unfold seasL; simp; omega
      have Hlq := Lib.hid hlq.symm
      clear hlq
      go_wp2_with (at_builtin; ((refine wpList_append_own_at _ rfl (.tmp 15) (.tmp 22) 26 rfl (w.heap.size + 1) 3 i0 (.int .i64 0) 1 8 Tryz.underlying26 hi0 hz0 hz1 hz2 rfl (by decide) va (q + 1) _ rfl (Hown.out.alloc _) ⟨_, 0, none⟩ 1 1 [.int .i64 (c % g.ss.length)] rfl rfl (cell_one_new' _ _ _ (by simp)) (by simp [Value.oneCell']) (by unfold maxLen; omega) (by omega) (by simp <;> omega) ?_; intro v1 w1 hown1 hg1 _ _; obtain ⟨HO1, s2, HB1, HBs1⟩ := ints_step (l := seasL g.ss.length (l.take q)) Hlq.out Hown.out HBr.out (by omega) hown1 hg1; clear s2 hown1 hg1)))
      go_roundw
      case rel => exact ⟨q + 1, v1, rfl, by omega, by go_num, by rw [Hsn.out]; exact HO1, HB1.out, HBs1⟩
      case measure => simp [intOf]; omega
    · have hq' : q = l.length := by omega
      have HF : Hid (wr.ownsRow (w.heap.size + 1) 3 1 va (seasL g.ss.length l).length ((seasL g.ss.length l).map (Value.int .i64))) := by
        have h := Hown.out
        rw [hq', List.take_length] at h
        have e : l.length + 1 = (seasL g.ss.length l).length := by unfold seasL; simp
        rw [e] at h
        exact h
      clear hq' Hown
      go_wp2
      go_ret
      exact ⟨_, rfl, HF.out, HBw.out⟩
theorem seas_any (x y : Value) (g : G) (l : List Int) (w : World) (hg : GridAt w w.heap.size x g) (hy : NumsAt .u8 w w.heap.size y l) (hr : ∀ z ∈ l, 0 ≤ z ∧ z ≤ 255) (h0 : 0 < g.ss.length) (h1 : g.ss.length ≤ 65536) (hl : l.length ≤ 65536) :
    Calls Tryz.prog 40 #[x, y] w fun e w' => ∃ v, e = .returned v ∧ IntsAt w' w'.heap.size v (seasL g.ss.length l) ∧ Below w.heap.size w w' :=
  (seas_own x y g l w hg hy hr h0 h1 hl).mono fun _ _ ⟨v, he, ho, hb⟩ => ⟨v, he, Reads.of_own ho, hb⟩
end Go.Proofs.YthcenmocnphnmaaGreatDoor
/-
  Without any program: narrower grids have narrower sills and ponds.
-/
namespace Go.Proofs.YthcenmocnphnmaaGreatDoor

/-- a grid of the same sides whose spans lie within -/
structure Nrw (n g : G) : Prop where
  W : n.W = g.W
  H : n.H = g.H
  len : n.ss.length = g.ss.length
  lo : ∀ c, c < g.ss.length → loF g.ss c ≤ loF n.ss c
  hi : ∀ c, c < g.ss.length → hiF n.ss c ≤ hiF g.ss c
theorem Nrw.near {n g : G} (h : Nrw n g) : nearL n = nearL g := by
  funext c
  unfold nearL
  rw [h.W, h.H]
theorem way_mono {g h : G} {f k : Int × Int → Int} {sts : List Nat} (V : Valid g) (hn : nearL h = nearL g) (hst : ∀ c, c ∈ sts → c < g.ss.length) (hle : ∀ c, c < g.ss.length → hgt g f c ≤ hgt h k c)
    {c : Nat} {v : Int} (w : Way (fun c => (nearL h c).map Int.toNat) sts (hgt h k) (fun v d => max v (hgt h k d)) c v) : c < g.ss.length ∧ ∃ u, u ≤ v ∧ Way (fun c => (nearL g c).map Int.toNat) sts (hgt g f) (fun v d => max v (hgt g f d)) c u := by
  induction w with
  | start hc => exact ⟨hst _ hc, _, hle _ (hst _ hc), .start hc⟩
  | step hw hd ih =>
    obtain ⟨hc, u, hu, hwu⟩ := ih
    rw [hn] at hd
    obtain ⟨z, hz, rfl⟩ := List.mem_map.1 hd
    have hr := nearL_rng V hc z hz
    refine ⟨by omega, _, ?_, .step hwu hd⟩
    have := hle z.toNat (by omega)
    exact Int.max_le.2 ⟨Int.le_trans hu (Int.le_max_left _ _), Int.le_trans this (Int.le_max_right _ _)⟩
theorem Silled.mono {g h : G} {f k : Int × Int → Int} {sts : List Nat} {vs us : List Int} (V : Valid g) (hn : nearL h = nearL g) (hL : h.ss.length = g.ss.length) (hne : sts ≠ []) (hst : ∀ c, c ∈ sts → c < g.ss.length)
    (hle : ∀ c, c < g.ss.length → hgt g f c ≤ hgt h k c) (hv : Silled g f sts vs) (hu : Silled h k sts us) {c : Nat} (hc : c < g.ss.length) : val vs c ≤ val us c := by
  obtain ⟨s, hs⟩ := List.exists_mem_of_ne_nil _ hne
  have hw := hu.way c (by omega) (by
    show ∃ v, Way (fun c => (nearL h c).map Int.toNat) sts (hgt h k) (fun v d => max v (hgt h k d)) c v
    rw [hn]
    exact way_all V hs (hst s hs) hc)
  obtain ⟨_, u, h1, h2⟩ := way_mono (f := f) V hn hst hle hw
  have h3 := Best.least (stepH g f) hv h2
  unfold ltUp at h3
  have := of_decide_eq_false h3
  omega
theorem Sillz.ends {g : G} {sts : List Nat} {ss : List (Int × Int)} (h : Sillz g sts ss) : ∃ lo hi, Silled g (fun s => s.1) sts lo ∧ Silled g (fun s => s.2) sts hi ∧ ∀ c, c < g.ss.length → loF ss c = val lo c ∧ hiF ss c = val hi c := by
  obtain ⟨lo, hi, h1, h2, rfl⟩ := h
  refine ⟨lo, hi, h1, h2, fun c hc => ?_⟩
  have e1 := h1.len
  have e2 := h2.len
  exact zip_ends (los := lo) (his := hi) (c := c) (by omega) (by omega)
theorem Valid.ord {g : G} (V : Valid g) {c : Nat} (hc : c < g.ss.length) : loF g.ss c ≤ hiF g.ss c := by
  have h := List.all_eq_true.1 V.ok _ (List.getElem_mem hc)
  have := (of_decide_eq_true h).1
  unfold loF hiF
  rw [List.getD_eq_getElem?_getD, List.getElem?_eq_getElem hc]
  exact this
theorem Sillz.ord {g : G} {sts : List Nat} {ss : List (Int × Int)} (V : Valid g) (hne : sts ≠ []) (hst : ∀ c, c ∈ sts → c < g.ss.length) (h : Sillz g sts ss) {c : Nat} (hc : c < g.ss.length) : loF ss c ≤ hiF ss c := by
  obtain ⟨lo, hi, h1, h2, h3⟩ := h.ends
  rw [(h3 c hc).1, (h3 c hc).2]
  exact Silled.mono V rfl rfl hne hst (fun c hc => V.ord hc) h1 h2 hc
theorem Sillz.mono {g n : G} (N : Nrw n g) {sts : List Nat} {ss ts : List (Int × Int)} (V : Valid g) (hne : sts ≠ []) (hst : ∀ c, c ∈ sts → c < g.ss.length) (h : Sillz g sts ss) (k : Sillz n sts ts) {c : Nat} (hc : c < g.ss.length) :
    loF ss c ≤ loF ts c ∧ hiF ts c ≤ hiF ss c := by
  obtain ⟨lo, hi, h1, h2, h3⟩ := h.ends
  obtain ⟨lo', hi', k1, k2, k3⟩ := k.ends
  have e := N.len
  rw [(h3 c hc).1, (h3 c hc).2, (k3 c (by omega)).1, (k3 c (by omega)).2]
  refine ⟨Silled.mono V N.near N.len hne hst (fun c hc => N.lo c hc) h1 k1 hc, ?_⟩
  have hw := h2.way c hc (by
    obtain ⟨s, hs⟩ := List.exists_mem_of_ne_nil _ hne
    exact way_all V hs (hst s hs) hc)
  have key : ∀ {c : Nat} {v : Int}, Way (fun c => (nearL g c).map Int.toNat) sts (hgt g fun s => s.2) (fun v d => max v (hgt g (fun s => s.2) d)) c v → c < g.ss.length ∧ ∃ u, u ≤ v ∧ Way (fun c => (nearL n c).map Int.toNat) sts (hgt n fun s => s.2) (fun v d => max v (hgt n (fun s => s.2) d)) c u := by
    intro c v w
    induction w with
    | start hc => exact ⟨hst _ hc, _, N.hi _ (hst _ hc), .start hc⟩
    | step hw hd ih =>
      obtain ⟨hc, u, hu, hwu⟩ := ih
      obtain ⟨z, hz, rfl⟩ := List.mem_map.1 hd
      have hr := nearL_rng V hc z hz
      refine ⟨by omega, _, ?_, .step hwu (by rw [N.near]; exact hd)⟩
      have := N.hi z.toNat (by omega)
      exact Int.max_le.2 ⟨Int.le_trans hu (Int.le_max_left _ _), Int.le_trans this (Int.le_max_right _ _)⟩
  obtain ⟨_, u, g1, g2⟩ := key hw
  have h4 := Best.least (stepH n fun s => s.2) k2 g2
  unfold ltUp at h4
  have := of_decide_eq_false h4
  omega
theorem mnL_mono {f k : Int × Int → Int} {ss ts : List (Int × Int)} : ∀ (l : List Int), (∀ d ∈ l, f (ss.getD d.toNat (0, 0)) ≤ k (ts.getD d.toNat (0, 0))) → mnL f ss l ≤ mnL k ts l := by
  suffices h : ∀ (l : List Int) (a b : Int), a ≤ b → (∀ d ∈ l, f (ss.getD d.toNat (0, 0)) ≤ k (ts.getD d.toNat (0, 0))) → l.foldl (fun m d => min m (f (ss.getD d.toNat (0, 0)))) a ≤ l.foldl (fun m d => min m (k (ts.getD d.toNat (0, 0)))) b from
    fun l hl => h l _ _ (Int.le_refl _) hl
  intro l
  induction l with
  | nil => intro a b h _; exact h
  | cons x l ih =>
    intro a b h hl
    refine ih _ _ ?_ fun d hd => hl d (List.mem_cons_of_mem _ hd)
    have := hl x List.mem_cons_self
    show min a _ ≤ min b _
    omega
/-- the ponds of a narrower grid lie within -/
theorem pond_mono {g n : G} (N : Nrw n g) {sts : List Nat} {ss ts : List (Int × Int)} (V : Valid g) (V' : Valid n) (hne : sts ≠ []) (hst : ∀ c, c ∈ sts → c < g.ss.length) (h : Sillz g sts ss) (k : Sillz n sts ts) {c : Nat} (hc : c < g.ss.length) :
    withinB (pondAt n sts ts c) (pondAt g sts ss c) = true := by
  have e := N.len
  unfold withinB pondAt
  by_cases hs : c ∈ sts
  · rw [if_pos hs, if_pos hs]; decide
  · rw [if_neg hs, if_neg hs, N.near]
    have m1 := mnL_mono (f := fun s => s.1) (k := fun s => s.1) (ss := ss) (ts := ts) (nearL g c) fun d hd => (h.mono N V hne hst k (c := d.toNat) (by have := nearL_rng V hc d hd; omega)).1
    have m2 := mnL_mono (f := fun s => s.2) (k := fun s => s.2) (ss := ts) (ts := ss) (nearL g c) fun d hd => (h.mono N V hne hst k (c := d.toNat) (by have := nearL_rng V hc d hd; omega)).2
    have m3 := mnL_mono (f := fun s => s.1) (k := fun s => s.2) (ss := ts) (ts := ts) (nearL g c) fun d hd => k.ord V' hne (fun c hc => by have := hst c hc; omega) (c := d.toNat) (by have := nearL_rng V hc d hd; omega)
    have a1 := N.lo c hc
    have a2 := N.hi c hc
    have a3 := V'.ord (c := c) (by omega)
    simp only [loF, hiF] at a1 a2 a3 m1 m2 m3
    simp only [decide_eq_true_eq]
    omega
end Go.Proofs.YthcenmocnphnmaaGreatDoor
/-
  Without any program: the laws' grids are valid; what two of them have together.
-/
namespace Go.Proofs.YthcenmocnphnmaaGreatDoor

theorem tmod5 {a : Int} (h : 0 ≤ a) : 0 ≤ a.tmod 5 ∧ a.tmod 5 ≤ 4 := by rw [Int.tmod_eq_emod_of_nonneg h]; omega
theorem made_len {W H : Int} (hW : 0 ≤ W) (hH : 0 ≤ H) (low more : List Int) : ((madeG W H low more).ss.length : Int) = (1 + W.tmod 5) * (1 + H.tmod 5) := by
  have a := tmod5 hW
  have b := tmod5 hH
  have := mul_rng (a := 1 + W.tmod 5) (b := 1 + H.tmod 5) (by omega) (by omega) (by omega) (by omega)
  simp only [madeG, List.length_map, List.length_range]
  omega
theorem made_ok {W H : Int} (hW : 0 ≤ W) (hH : 0 ≤ H) {low more : List Int} (h1 : ∀ z ∈ low, -32768 ≤ z ∧ z ≤ 32767) (h2 : ∀ z ∈ more, 0 ≤ z ∧ z ≤ 255) : checkE (madeG W H low more) = 0 := by
  have a := tmod5 hW
  have b := tmod5 hH
  have hl := made_len hW hH low more
  have hr : rngG (madeG W H low more) = true := by
    unfold rngG madeG
    simp only [decide_eq_true_eq]
    omega
  have ho : (madeG W H low more).ss.all (okSpan 1200000) = true := by
    rw [List.all_eq_true]
    intro s hs
    obtain ⟨i, _, rfl⟩ := List.mem_map.1 hs
    have c1 := cyc_rng h1 (by omega) i
    have c2 := cyc_rng h2 (by omega) i
    unfold okSpan spanM
    simp only [decide_eq_true_eq]
    omega
  unfold checkE
  rw [if_pos hr, if_pos (by rw [hl]; rfl), if_pos ho]
theorem made_len25 {W H : Int} (hW : 0 ≤ W) (hH : 0 ≤ H) (low more : List Int) : (madeG W H low more).ss.length ≤ 25 := by
  have a := tmod5 hW
  have b := tmod5 hH
  have h := made_len hW hH low more
  have : (1 + W.tmod 5) * (1 + H.tmod 5) ≤ 5 * 5 := Int.le_trans (Int.mul_le_mul_of_nonneg_right (by omega) (by omega)) (Int.mul_le_mul_of_nonneg_left (by omega) (by omega))
  omega
theorem com_comm (p q : Int × Int) : com p q = com q p := by unfold com; rw [Int.max_comm, Int.min_comm]
theorem comL_comm (a b : G) : comL a b = comL b a := by
  unfold comL
  rw [List.zipWith_comm]
  congr 1
  funext p q
  exact com_comm _ _
/-- either order gives the same -/
theorem narrowR_comm {a b : G} (ha : checkE a = 0) (hb : checkE b = 0) (h1 : a.W = b.W) (h2 : a.H = b.H) (h3 : a.S = b.S) : narrowR a b = narrowR b a := by
  have s1 : sameG a b = true := by unfold sameG; rw [h1, h2, h3]; simp
  have s2 : sameG b a = true := by unfold sameG; rw [h1, h2, h3]; simp
  unfold narrowR
  rw [if_pos ha, if_pos hb, if_pos s1, if_pos hb, if_pos ha, if_pos s2, comL_comm a b, h1, h2, h3]
theorem comL_get {a b : G} (hl : a.ss.length = b.ss.length) {c : Nat} (hc : c < a.ss.length) : (comL a b).getD c (0, 0) = com (a.ss.getD c (0, 0)) (b.ss.getD c (0, 0)) := by
  have h1 : c < (comL a b).length := by unfold comL; simp; omega
  rw [List.getD_eq_getElem?_getD, List.getD_eq_getElem?_getD, List.getD_eq_getElem?_getD, List.getElem?_eq_getElem h1, List.getElem?_eq_getElem hc, List.getElem?_eq_getElem (show c < b.ss.length by omega)]
  simp [comL]
/-- what Narrow says of two grids of the same sides -/
theorem narrow_cases {a b : G} (ha : checkE a = 0) (hb : checkE b = 0) (h1 : a.W = b.W) (h2 : a.H = b.H) (h3 : a.S = b.S) :
    (∃ i : Nat, narrowR a b = ((i : Int), 14, zeroG) ∧ i < a.ss.length ∧ min (hiF a.ss i) (hiF b.ss i) < max (loF a.ss i) (loF b.ss i)) ∨
    (∃ n : G, narrowR a b = (0, 0, n) ∧ checkE n = 0 ∧ Nrw n a ∧ Nrw n b) := by
  have s1 : sameG a b = true := by unfold sameG; rw [h1, h2, h3]; simp
  have Va := valid_of ha
  have Vb := valid_of hb
  have hl : a.ss.length = b.ss.length := by have := Va.len; have := Vb.len; rw [h1, h2] at *; omega
  have hcl : (comL a b).length = a.ss.length := by unfold comL; simp; omega
  by_cases he : (comL a b).any emptyB = true
  · refine .inl ⟨(comL a b).findIdx emptyB, ?_, ?_, ?_⟩
    · unfold narrowR
      rw [if_pos ha, if_pos hb, if_pos s1, if_pos he]
    · have := List.findIdx_lt_length.2 (List.any_eq_true.1 he)
      omega
    · have hlt := List.findIdx_lt_length.2 (List.any_eq_true.1 he)
      have h := List.findIdx_getElem (w := hlt)
      have e := comL_get hl (c := (comL a b).findIdx emptyB) (by omega)
      rw [List.getD_eq_getElem?_getD, List.getElem?_eq_getElem hlt] at e
      simp only [Option.getD_some] at e
      rw [e] at h
      exact of_decide_eq_true h
  · have he' : (comL a b).any emptyB = false := by simpa using he
    have hne : ∀ c, c < a.ss.length → loF (comL a b) c ≤ hiF (comL a b) c := fun c hc => by
      have h := List.any_eq_false.1 he' _ (List.getElem_mem (show c < (comL a b).length by omega))
      unfold loF hiF
      rw [List.getD_eq_getElem?_getD, List.getElem?_eq_getElem (show c < (comL a b).length by omega)]
      simp only [Option.getD_some]
      unfold emptyB at h
      simp only [decide_eq_true_eq] at h
      omega
    have hcm : ∀ c, c < a.ss.length → loF (comL a b) c = max (loF a.ss c) (loF b.ss c) ∧ hiF (comL a b) c = min (hiF a.ss c) (hiF b.ss c) := fun c hc => by
      unfold loF hiF
      rw [comL_get hl hc]
      exact ⟨rfl, rfl⟩
    have N1 : Nrw ⟨a.W, a.H, a.S, comL a b⟩ a := ⟨rfl, rfl, hcl, fun c hc => by show _ ≤ loF (comL a b) c; rw [(hcm c hc).1]; omega, fun c hc => by show hiF (comL a b) c ≤ _; rw [(hcm c hc).2]; omega⟩
    have N2 : Nrw ⟨a.W, a.H, a.S, comL a b⟩ b := ⟨h1, h2, hcl.trans hl, fun c hc => by show _ ≤ loF (comL a b) c; rw [(hcm c (by omega)).1]; omega, fun c hc => by show hiF (comL a b) c ≤ _; rw [(hcm c (by omega)).2]; omega⟩
    refine .inr ⟨⟨a.W, a.H, a.S, comL a b⟩, ?_, ?_, N1, N2⟩
    · unfold narrowR
      rw [if_pos ha, if_pos hb, if_pos s1, if_neg he]
    · have hr : rngG ⟨a.W, a.H, a.S, comL a b⟩ = true := by
        have := Va.w1; have := Va.w2; have := Va.h1; have := Va.h2; have := Va.s1; have := Va.s2
        unfold rngG
        simp only [decide_eq_true_eq]
        omega
      have ho : (comL a b).all (okSpan 1200000) = true := by
        rw [List.all_eq_true]
        intro s hs
        obtain ⟨c, hc, rfl⟩ := List.mem_iff_getElem.1 hs
        have g1 := hne c (by omega)
        have g2 := hcm c (by omega)
        have o1 := of_decide_eq_true (List.all_eq_true.1 Va.ok _ (List.getElem_mem (show c < a.ss.length by omega)))
        have e1 : loF (comL a b) c = (comL a b)[c].1 ∧ hiF (comL a b) c = (comL a b)[c].2 := by
          unfold loF hiF
          rw [List.getD_eq_getElem?_getD, List.getElem?_eq_getElem hc]
          exact ⟨rfl, rfl⟩
        have e2 : loF a.ss c = a.ss[c].1 ∧ hiF a.ss c = a.ss[c].2 := by
          unfold loF hiF
          rw [List.getD_eq_getElem?_getD, List.getElem?_eq_getElem (show c < a.ss.length by omega)]
          exact ⟨rfl, rfl⟩
        unfold okSpan
        simp only [decide_eq_true_eq]
        omega
      unfold checkE
      rw [if_pos hr, if_pos (by show ((comL a b).length : Int) = a.W * a.H; rw [hcl]; exact Va.len), if_pos ho]
end Go.Proofs.YthcenmocnphnmaaGreatDoor
/-
  What GridFewer asks of each cell, without any program; cells of rows by their number.
-/
namespace Go.Proofs.YthcenmocnphnmaaGreatDoor

theorem SpansAt.atD {w : World} {B k n c : Nat} {A : Option Addr} {ss : List (Int × Int)} (h : SpansAt w B (.slice A n c) ss) (hk : k < ss.length) :
    ∃ b off lo hi, A = some ⟨b, off, none⟩ ∧ b < B ∧ ss.getD k (0, 0) = (lo, hi) ∧ w.cell? ⟨b, off + k * 2, none⟩ = some (.int .i64 lo) ∧ w.cell? ⟨b, off + k * 2 + 1, none⟩ = some (.int .i64 hi) := by
  obtain ⟨b, off, e, hb, h1, h2⟩ := h.at_ hk
  refine ⟨b, off, _, _, e, hb, ?_, h1, h2⟩
  rw [List.getD_eq_getElem?_getD, List.getElem?_eq_getElem hk]
  rfl
theorem BoolsAt.atD {w : World} {B k n c : Nat} {A : Option Addr} {bs : List Bool} (h : BoolsAt w B (.slice A n c) bs) (hk : k < bs.length) :
    ∃ b off x, A = some ⟨b, off, none⟩ ∧ b < B ∧ bs.getD k false = x ∧ w.cell? ⟨b, off + k, none⟩ = some (.bool x) := by
  obtain ⟨b, off, e, hb, h1⟩ := h.at_ hk
  refine ⟨b, off, _, e, hb, ?_, h1⟩
  rw [List.getD_eq_getElem?_getD, List.getElem?_eq_getElem hk]
  rfl
theorem SpansAt.open_len {w : World} {B L : Nat} {v : Value} {ss : List (Int × Int)} (h : SpansAt w B v ss) (hl : ss.length = L) : ∃ A c, v = .slice A L c := by
  obtain ⟨A, c, rfl, _, _⟩ := h.open_
  exact ⟨A, c, by rw [hl]⟩
theorem BoolsAt.open_len {w : World} {B L : Nat} {v : Value} {ss : List Bool} (h : BoolsAt w B v ss) (hl : ss.length = L) : ∃ A c, v = .slice A L c := by
  obtain ⟨A, c, rfl, _, _⟩ := h.open_
  exact ⟨A, c, by rw [hl]⟩
theorem sts_eq {l : List Int} {sts : List Nat} (h : l = sts.map fun (c : Nat) => (c : Int)) : sts = l.map Int.toNat := by
  rw [h, List.map_map]
  conv => lhs; rw [← List.map_id sts]
  refine List.map_congr_left fun c _ => ?_
  simp
theorem seas_in {g : G} (hp : 0 < g.ss.length) (l : List Int) : ∀ c ∈ seasL g.ss.length l, 0 ≤ c ∧ c < (g.ss.length : Int) := by
  intro c hc
  unfold seasL at hc
  rcases List.mem_cons.1 hc with rfl | hc
  · omega
  · obtain ⟨d, _, rfl⟩ := List.mem_map.1 hc
    exact ⟨Int.emod_nonneg _ (by omega), Int.emod_lt_of_pos _ (by omega)⟩
theorem seas_ok {g : G} (h : checkE g = 0) (l : List Int) : seaE g (seasL g.ss.length l) = 0 := by
  have ha := seas_in (valid_of h).pos l
  unfold seaE
  rw [if_pos h, if_neg (by unfold seasL; simp), if_pos (List.all_eq_true (p := inG g) |>.2 fun c hc => decide_eq_true (ha c hc))]
theorem seas_sts {g : G} (h : checkE g = 0) {l : List Int} {sts : List Nat} (hs : (seasL g.ss.length l).map Int.toNat = sts) : sts ≠ [] ∧ ∀ c, c ∈ sts → c < g.ss.length := by
  refine ⟨by rw [← hs]; unfold seasL; simp, fun c hc => ?_⟩
  rw [← hs] at hc
  obtain ⟨d, hd, rfl⟩ := List.mem_map.1 hc
  have := seas_in (valid_of h).pos l d hd
  omega
def PondZ (g : G) (sts : List Nat) (ps : List (Int × Int)) : Prop := ∃ ss, Sillz g sts ss ∧ ps = pondL g sts ss
theorem PondZ.length {g : G} {sts : List Nat} {ps : List (Int × Int)} (h : PondZ g sts ps) : ps.length = g.ss.length := by
  obtain ⟨ss, _, rfl⟩ := h
  exact pondL_length _ _ _
theorem PondZ.get {g : G} {sts : List Nat} {ps : List (Int × Int)} (h : PondZ g sts ps) : ∃ ss, Sillz g sts ss ∧ ∀ c, c < g.ss.length → ps.getD c (0, 0) = pondAt g sts ss c := by
  obtain ⟨ss, hs, rfl⟩ := h
  refine ⟨ss, hs, fun c hc => ?_⟩
  unfold pondL
  rw [List.getD_eq_getElem?_getD, List.getElem?_eq_getElem (by simpa using hc)]
  simp
theorem pond_case {g : G} {l : List Int} {ps : List (Int × Int)} {sts : List Nat} (h0 : seaE g l = 0) (hs : l.map Int.toNat = sts)
    (h : (seaE g l ≠ 0 ∧ ps = []) ∨ (seaE g l = 0 ∧ ∃ sts ss, l = sts.map (fun (c : Nat) => (c : Int)) ∧ Sillz g sts ss ∧ ps = pondL g sts ss)) : PondZ g sts ps := by
  rcases h with ⟨h, _⟩ | ⟨_, sts', ss, hl, hz, hp⟩
  · exact absurd h0 h
  · rw [← hs, ← sts_eq hl]
    exact ⟨ss, hz, hp⟩
def FloodZ (g : G) (sts : List Nat) (lo hi : Int) (bs cs : List Bool) : Prop := ∃ ss, Sillz g sts ss ∧ bs = ss.map (fun s => decide (s.2 < lo)) ∧ cs = ss.map fun s => decide (s.1 < hi)
theorem FloodZ.length {g : G} {sts : List Nat} {lo hi : Int} {bs cs : List Bool} (h : FloodZ g sts lo hi bs cs) : bs.length = g.ss.length ∧ cs.length = g.ss.length := by
  obtain ⟨ss, hz, rfl, rfl⟩ := h
  have := hz.length
  simp only [List.length_map]
  omega
theorem FloodZ.get {g : G} {sts : List Nat} {lo hi : Int} {bs cs : List Bool} (h : FloodZ g sts lo hi bs cs) : ∃ ss, Sillz g sts ss ∧ ∀ c, c < g.ss.length → bs.getD c false = decide (hiF ss c < lo) ∧ cs.getD c false = decide (loF ss c < hi) := by
  obtain ⟨ss, hz, rfl, rfl⟩ := h
  refine ⟨ss, hz, fun c hc => ?_⟩
  have e := hz.length
  have h1 : c < ss.length := by omega
  unfold loF hiF
  simp only [List.getD_eq_getElem?_getD, List.getElem?_map, List.getElem?_eq_getElem h1, Option.map_some, Option.getD_some]
  exact ⟨trivial, trivial⟩
theorem flood_case {g : G} {l : List Int} {lo hi : Int} {bs cs : List Bool} {sts : List Nat} (h0 : floodE g l lo hi = 0) (hs : l.map Int.toNat = sts)
    (h : (floodE g l lo hi ≠ 0 ∧ bs = [] ∧ cs = []) ∨ (floodE g l lo hi = 0 ∧ ∃ sts ss, l = sts.map (fun (c : Nat) => (c : Int)) ∧ Sillz g sts ss ∧ bs = ss.map (fun s => decide (s.2 < lo)) ∧ cs = ss.map (fun s => decide (s.1 < hi)))) : FloodZ g sts lo hi bs cs := by
  rcases h with ⟨h, _⟩ | ⟨_, sts', ss, hl, hz, hp⟩
  · exact absurd h0 h
  · rw [← hs, ← sts_eq hl]
    exact ⟨ss, hz, hp⟩
theorem flood_zero {g : G} {l : List Int} {lo hi : Int} (h : seaE g l = 0) (h1 : lo ≤ hi) (h2 : -20000 ≤ lo) (h3 : hi ≤ 20000) : floodE g l lo hi = 0 := by
  unfold floodE
  rw [if_pos h, if_pos (show okSpan 20000 (lo, hi) = true from decide_eq_true ⟨h1, h2, h3⟩)]
theorem withinB_of {a b : Int × Int} (h1 : b.1 ≤ a.1) (h2 : a.2 ≤ b.2) (h3 : a.1 ≤ a.2) : withinB a b = true := decide_eq_true ⟨h1, h2, h3⟩
/-- what the law asks of a cell -/
theorem fewer_at {g h n : G} {sts : List Nat} {sea : List Int} {lo hi : Int} {ss ts ps qs : List (Int × Int)} {s t u y : List Bool} (N1 : Nrw n g) (N2 : Nrw n h) (hg : checkE g = 0) (hn : checkE n = 0) (hsts : (seasL g.ss.length sea).map Int.toNat = sts)
    (h8 : Sillz g sts ss) (h9 : Sillz n sts ts) (p10 : PondZ g sts ps) (p11 : PondZ n sts qs) (f : FloodZ g sts lo hi s t) (f' : FloodZ n sts lo hi u y) {c : Nat} (hc : c < g.ss.length) :
    withinB (n.ss.getD c (0, 0)) (g.ss.getD c (0, 0)) = true ∧ withinB (n.ss.getD c (0, 0)) (h.ss.getD c (0, 0)) = true ∧ withinB (ts.getD c (0, 0)) (ss.getD c (0, 0)) = true ∧ withinB (qs.getD c (0, 0)) (ps.getD c (0, 0)) = true ∧
    (s.getD c false = true → u.getD c false = true) ∧ (y.getD c false = true → t.getD c false = true) := by
  have V := valid_of hg
  have V' := valid_of hn
  obtain ⟨hne, hst⟩ := seas_sts hg hsts
  have e1 := N1.len
  have e2 := N2.len
  have hst' : ∀ c, c ∈ sts → c < n.ss.length := fun c hc => by have := hst c hc; omega
  have m := h8.mono N1 V hne hst h9 hc
  have o := h9.ord V' hne hst' (c := c) (by omega)
  obtain ⟨s1, z1, q1⟩ := p10.get
  obtain ⟨s2, z2, q2⟩ := p11.get
  obtain ⟨s3, z3, q3⟩ := f.get
  obtain ⟨s4, z4, q4⟩ := f'.get
  have m2 := z3.mono N1 V hne hst z4 hc
  refine ⟨withinB_of (N1.lo c hc) (N1.hi c hc) (V'.ord (by omega)), withinB_of (N2.lo c (by omega)) (N2.hi c (by omega)) (V'.ord (by omega)), withinB_of m.1 m.2 o, ?_, ?_, ?_⟩
  · rw [q1 c hc, q2 c (by omega)]
    exact pond_mono N1 V V' hne hst z1 z2 hc
  · rw [(q3 c hc).1, (q4 c (by omega)).1]
    simp only [decide_eq_true_eq]
    omega
  · rw [(q3 c hc).2, (q4 c (by omega)).2]
    simp only [decide_eq_true_eq]
    omega
end Go.Proofs.YthcenmocnphnmaaGreatDoor
