/-
  A row of the reference's soundings among a law's arguments reads as a row of triples.
-/
import Derived.Test.YthcenmocnphnmaaGreatDoorNG
import Derived.Test.YthcenmocnphnmaaGreatDoorMN
import Derived.Deep.Strs
import Derived.Test.YthcenmocnphnmaaGreatDoorND
import Derived.Test.YthcenmocnphnmaaGreatDoorMU
import Derived.Test.YthcenmocnphnmaaGreatDoorTie
import Derived.Test.YthcenmocnphnmaaGreatDoorCards
set_option linter.unusedSimpArgs false
set_option linter.unusedVariables false
namespace Go.Proofs.YthcenmocnphnmaaGreatDoor
open Go.ChangeShapes Go.WideShapes Go.ChangeAt Go.WideMaps Go.WideElems Go.RowKit Go.Shelf Go.Deep

set_option maxRecDepth 100000 in
theorem rsnds_open {H : Type} {enc : TypeId × Value → H} {W : World} {base : Nat} {sp : Nat → Bool} {held : Bool} {v : Value} {d : DataW H} {p : List MemPlace} (hval : Value.okWide Tryz.prog W .any base 44 v) (h : DataW.Trod enc Tryz.prog W 0 sp held 44 v d p) : ∃ l, SndsAt W W.heap.size v l := by
  have c1 : Tryz.prog.cellsOf 3 = 1 := by kernel_rfl
  have ce : Tryz.prog.cellsOf 50 = 3 := by kernel_rfl
  obtain ⟨a0, n0, c0, rfl⟩ := okWide_slice Tryz.underlying44 hval
  obtain ⟨fuel, hf⟩ := h
  rcases open_slice Tryz.underlying44 hf with ⟨hc, _⟩ | ⟨a, len, cap, m, n, D, Pl, hc, _, hl, hm, hmm, _, hall⟩
  · simp [Value.cells] at hc
    obtain ⟨rfl, rfl, rfl⟩ := hc
    exact ⟨[], Reads.nil _ _ _⟩
  · simp [Value.cells] at hc
    obtain ⟨rfl, rfl, rfl⟩ := hc
    have hlm : n0 ≤ m := by rw [hmm]; split <;> omega
    have hV : ∀ i, i < n0 → ∃ z : Snd, W.cell? (a.add (i * 3)) = some (.int .i64 z.1) ∧ W.cell? (a.add (i * 3 + 1)) = some (.int .i64 z.2.1) ∧ W.cell? (a.add (i * 3 + 2)) = some (.int .i64 z.2.2) := fun i hi => by
      obtain ⟨cs', h1, h2⟩ := hall i (by omega)
      rw [ce] at h1
      obtain ⟨_, hlen, hcell⟩ := World.cells?_some h1
      obtain ⟨y0, y1, y2, k, _, _, g0, g1, g2⟩ := trod_struct3 Tryz.underlying50 h2
      simp only [c1] at g0 g1 g2
      match cs', hlen with
      | [x0, x1, x2], _ =>
        obtain ⟨z0, e0, _⟩ := DataW.trod_int Tryz.underlying3 g0
        obtain ⟨z1, e1, _⟩ := DataW.trod_int Tryz.underlying3 g1
        obtain ⟨z2, e2, _⟩ := DataW.trod_int Tryz.underlying3 g2
        injection e0 with e0
        injection e1 with e1
        injection e2 with e2
        subst e0 e1 e2
        have k0 := hcell 0 (by omega)
        have k1 := hcell 1 (by omega)
        have k2 := hcell 2 (by omega)
        rw [add_add] at k0 k1 k2
        exact ⟨(z0, z1, z2), by simpa using k0, by simpa using k1, by simpa using k2⟩
    obtain ⟨z, hz⟩ := choose_lt hV
    have hsl : ((List.range n0).map z).length = n0 := by simp
    refine ⟨(List.range n0).map z, sndCells_length _, by rw [hsl]; unfold maxLen at hm; omega, some a, c0, by rw [hsl], by rw [hsl]; exact hl, fun hn => ?_⟩
    rw [hsl] at hn
    obtain ⟨b, off, ea, hb⟩ := plain_of_cell (hz 0 hn).1
    rw [Nat.zero_mul, add_zero_] at ea
    subst ea
    refine ⟨b, off, rfl, hb, fun j u hu => ?_⟩
    have hj : j < n0 * 3 := by
      have := (List.getElem?_eq_some_iff.1 hu).1
      rw [sndCells_length, hsl] at this
      exact this
    have hi : j / 3 < n0 := by omega
    obtain ⟨g1, g2, g3⟩ := sndCells_get ((List.range n0).map z) (j / 3) (by rw [hsl]; exact hi)
    obtain ⟨k1, k2, k3⟩ := hz (j / 3) hi
    rw [add_plain_] at k1 k2 k3
    have hr : j % 3 = 0 ∨ j % 3 = 1 ∨ j % 3 = 2 := by omega
    rcases hr with he | he | he
    · have ej : j / 3 * 3 = j := by omega
      rw [ej] at g1 k1
      rw [g1] at hu
      rw [k1, ← hu]
      simp
    · have ej : j / 3 * 3 + 1 = j := by omega
      rw [ej] at g2 k2
      rw [g2] at hu
      rw [k2, ← hu]
      simp
    · have ej : j / 3 * 3 + 2 = j := by omega
      rw [ej] at g3 k3
      rw [g3] at hu
      rw [k3, ← hu]
      simp
end Go.Proofs.YthcenmocnphnmaaGreatDoor
/-
  GridSurveys returns true.
-/
namespace Go.Proofs.YthcenmocnphnmaaGreatDoor
open Go.RowKit Go.Shelf

theorem snd_info : (Tryz.prog.info? 51).map (fun i => (i.zero, i.size, i.bytes)) = some (some (.agg #[.int .i64 0, .int .i64 0, .int .i64 0]), 3, 24) := by kernel_rfl
theorem snds_set {w : World} {B n : Nat} {v : Value} {ss : List (Int × Int)} (h : SpansAt w B v ss) (hf : Fresh n v) {p : Addr} (hp : p.block < n) (u : Value) : SpansAt (w.setCell p u) B v ss := spans_set h hf hp u
/-- whether the statement looks at these soundings -/
def fewL (n : Nat) : Bool := decide (n ≤ 60) || (decide (4096 < n) && decide (n ≤ 4100))

set_option maxRecDepth 100000 in
set_option maxHeartbeats 8000000 in
theorem GridSurveys_any (x y u : Value) (a b : G) (l : List Snd) (w : World) (hx : GridAt w w.heap.size x a) (hy : GridAt w w.heap.size y b) (hu : SndsAt w w.heap.size u l) (hv : LV w) :
    Calls Tryz.prog 5 #[x, y, u] w fun e w' => e = .returned (.bool true) ∧ Below w.heap.size w w' := by
  have HX := Lib.hid hx
  have HY := Lib.hid hy
  have HU := Lib.hid hu
  obtain ⟨v, rfl, hs⟩ := hx
  obtain ⟨A, k, rfl, hk, hm⟩ := hs.open_
  obtain ⟨v', rfl, ht⟩ := hy
  obtain ⟨A', k', rfl, hk', hm'⟩ := ht.open_
  obtain ⟨A'', k'', rfl, hk'', hm''⟩ := hu.open_
  have hB : Below w.heap.size w ((w.alloc (.cells #[.int .i64 a.W, .int .i64 a.H, .int .i64 a.S, .slice A a.ss.length k] 24)).alloc (.cells #[.int .i64 b.W, .int .i64 b.H, .int .i64 b.S, .slice A' b.ss.length k'] 24)) := (by repeat (first | exact Below.refl _ _ | assumption | refine Below.drew ?_ | refine Below.drewN' ?_ _ | (refine Below.alloc ?_ (by simp <;> omega) _) | (refine Below.setCell ?_ (by simp <;> omega) _)))
  have HB := Lib.hid hB
  have HLV := Lib.hid hv
  have b0 : Blk ((w.alloc (.cells #[.int .i64 a.W, .int .i64 a.H, .int .i64 a.S, .slice A a.ss.length k] 24)).alloc (.cells #[.int .i64 b.W, .int .i64 b.H, .int .i64 b.S, .slice A' b.ss.length k'] 24)) w.heap.size 24 #[.int .i64 a.W, .int .i64 a.H, .int .i64 a.S, .slice A a.ss.length k] := Blk.alloc (Blk.new' _ _ _ rfl) _
  have b1 : Blk ((w.alloc (.cells #[.int .i64 a.W, .int .i64 a.H, .int .i64 a.S, .slice A a.ss.length k] 24)).alloc (.cells #[.int .i64 b.W, .int .i64 b.H, .int .i64 b.S, .slice A' b.ss.length k'] 24)) (w.heap.size + 1) 24 #[.int .i64 b.W, .int .i64 b.H, .int .i64 b.S, .slice A' b.ss.length k'] := Blk.new' _ _ _ (by simp)
  have HBB := Lib.hid (And.intro b0 b1)
  clear hs ht hB b0 b1 hv hu
  obtain ⟨ba, hba⟩ : ∃ t, decide (60 < a.ss.length) = t := ⟨_, rfl⟩
  obtain ⟨bb, hbb⟩ : ∃ t, decide (60 < b.ss.length) = t := ⟨_, rfl⟩
  have HBa := Lib.hid hba
  have HBb := Lib.hid hbb
  clear hba hbb
  go_enter Tryz.func5, Tryz.ntmps5
  go_wp2_with fail
  refine (large_is _ a ba HBa.out _ (HX.out.later HB.out (Nat.le_refl _))).mono ?_
  rintro e w0 ⟨rfl, hb0⟩
  have HB0 := Lib.hid (HB.out.trans (hb0.mono HB.out.size))
  have HBB0 := Lib.hid (And.intro (HBB.out.1.below hb0 (by simp <;> omega)) (HBB.out.2.below hb0 (by simp <;> omega)))
  clear hb0
  cases ba
  case true =>
    go_wp2_with fail
    refine (works_any _ (HLV.out.below HB0.out)).mono ?_
    rintro e w1 ⟨rfl, hb1⟩
    have HB1 := Lib.hid (HB0.out.trans (hb1.mono HB0.out.size))
    clear hb1
    go_wp2
    go_ret
    exact ⟨rfl, HB1.out⟩
  obtain ⟨y0, y1, y2, y3⟩ := grid_parts HBB0.out.2
  go_wp2_with fail
  refine (large_is _ b bb HBb.out _ (HY.out.later HB0.out (Nat.le_refl _))).mono ?_
  rintro e w1 ⟨rfl, hb1⟩
  have HB1 := Lib.hid (HB0.out.trans (hb1.mono HB0.out.size))
  have HBB1 := Lib.hid (And.intro (HBB0.out.1.below hb1 HBB0.out.1.lt) (HBB0.out.2.below hb1 HBB0.out.2.lt))
  clear hb1 y0 y1 y2 y3 HBB0
  cases bb
  case true =>
    go_wp2_with fail
    refine (works_any _ (HLV.out.below HB1.out)).mono ?_
    rintro e w2 ⟨rfl, hb2⟩
    have HB2 := Lib.hid (HB1.out.trans (hb2.mono HB1.out.size))
    clear hb2
    go_wp2
    go_ret
    exact ⟨rfl, HB2.out⟩
  by_cases hbig : (60 < l.length ∧ l.length ≤ 4096) ∨ 4100 < l.length
  · have hany : ((60 : Int) < l.length ∧ (l.length : Int) ≤ 4096) ∨ ((60 : Int) < l.length ∧ ¬ (l.length : Int) ≤ 4096 ∧ (4100 : Int) < l.length) := by omega
    clear hbig
    rcases hany with ⟨h1, h2⟩ | ⟨h1, h2, h3⟩
    all_goals
      go_wp2_with fail
      refine (works_any _ (HLV.out.below HB1.out)).mono ?_
      rintro e w2 ⟨rfl, hb2⟩
      have HB2 := Lib.hid (HB1.out.trans (hb2.mono HB1.out.size))
      clear hb2
      go_wp2
      go_ret
      exact ⟨rfl, HB2.out⟩
  have hlen : l.length ≤ 4100 := by omega
  have h4 : ¬ (4100 : Int) < l.length := by omega
  have hcase : ¬ (60 : Int) < l.length ∨ ((60 : Int) < l.length ∧ ¬ (l.length : Int) ≤ 4096) := by omega
  clear hbig
  rcases hcase with h2 | ⟨h2, h3⟩
  all_goals
    obtain ⟨z0, z1, z2, z3⟩ := grid_parts HBB1.out.1
    obtain ⟨y0, y1, y2, y3⟩ := grid_parts HBB1.out.2
    go_wp2_with fail
    refine (Narrow_any _ _ a b _ (HX.out.later HB1.out (Nat.le_refl _)) (HY.out.later HB1.out (Nat.le_refl _))).mono ?_
    rintro e w3 ⟨x3, rfl, hg3, hb3⟩
    have HB3 := Lib.hid (HB1.out.trans (hb3.mono HB1.out.size))
    have HBB3 := Lib.hid (And.intro (HBB1.out.1.below hb3 HBB1.out.1.lt) (HBB1.out.2.below hb3 HBB1.out.2.lt))
    have HG3 := Lib.hid hg3
    have hw3 : w.heap.size + 1 < w3.heap.size := HBB3.out.2.lt
    clear hb3 z0 z1 z2 z3 y0 y1 y2 y3
    obtain ⟨r, hr⟩ : ∃ r, narrowR a b = r := ⟨_, rfl⟩
    rw [hr] at HG3 hg3
    rw [hr]
    have HR := Lib.hid hr
    clear hr
    obtain ⟨v3, rfl, hs3⟩ := hg3
    obtain ⟨A3, k3, rfl, _, _⟩ := hs3.open_
    have hbW3 : Below w3.heap.size w3 (w3.alloc (.cells #[.int .i64 r.2.2.W, .int .i64 r.2.2.H, .int .i64 r.2.2.S, .slice A3 r.2.2.ss.length k3] 24)) := (by repeat (first | exact Below.refl _ _ | assumption | refine Below.drew ?_ | refine Below.drewN' ?_ _ | (refine Below.alloc ?_ (by simp <;> omega) _) | (refine Below.setCell ?_ (by simp <;> omega) _)))
    have HW3 := Lib.hid hbW3
    have hk3 : Blk (w3.alloc (.cells #[.int .i64 r.2.2.W, .int .i64 r.2.2.H, .int .i64 r.2.2.S, .slice A3 r.2.2.ss.length k3] 24)) w3.heap.size 24 #[.int .i64 r.2.2.W, .int .i64 r.2.2.H, .int .i64 r.2.2.S, .slice A3 r.2.2.ss.length k3] := Blk.new' _ _ _ rfl
    have HK3 := Lib.hid hk3
    clear hs3 hbW3 hk3
    obtain ⟨z0, z1, z2, z3⟩ := grid_parts (HBB3.out.1.alloc (.cells #[.int .i64 r.2.2.W, .int .i64 r.2.2.H, .int .i64 r.2.2.S, .slice A3 r.2.2.ss.length k3] 24))
    obtain ⟨y0, y1, y2, y3⟩ := grid_parts (HBB3.out.2.alloc (.cells #[.int .i64 r.2.2.W, .int .i64 r.2.2.H, .int .i64 r.2.2.S, .slice A3 r.2.2.ss.length k3] 24))
    have hRN := rNarrow_any _ _ a b _ (HX.out.later (HB3.out.trans (HW3.out.mono HB3.out.size)) (Nat.le_refl _)) (HY.out.later (HB3.out.trans (HW3.out.mono HB3.out.size)) (Nat.le_refl _))
    rw [HR.out] at hRN
    have HRN := Lib.hid hRN
    clear hRN
    go_wp2_with fail
    refine HRN.out.mono ?_
    rintro e w4 ⟨x4, rfl, hg4, hb4⟩
    have HB4 := Lib.hid (HB3.out.trans ((HW3.out.trans (hb4.mono (by simp))).mono HB3.out.size))
    have HBB4 := Lib.hid (And.intro ((HBB3.out.1.below HW3.out HBB3.out.1.lt).below hb4 (by have := HBB3.out.1.lt; simp; omega)) ((HBB3.out.2.below HW3.out HBB3.out.2.lt).below hb4 (by have := HBB3.out.2.lt; simp; omega)))
    have HG34 := Lib.hid ((HG3.out.later HW3.out (Nat.le_refl _)).later hb4 (Nat.le_refl _))
    have HK4 := Lib.hid (HK3.out.below hb4 (by simp))
    have HG4 := Lib.hid hg4
    have hw4 : w3.heap.size < w4.heap.size := HK4.out.lt
    clear hb4 HK3 z0 z1 z2 z3 y0 y1 y2 y3 HBB3 HG3
    obtain ⟨v4, rfl, hs4⟩ := hg4
    obtain ⟨A4, k4, rfl, _, _⟩ := hs4.open_
    have hbW4 : Below w4.heap.size w4 (w4.alloc (.cells #[.int .i64 r.2.2.W, .int .i64 r.2.2.H, .int .i64 r.2.2.S, .slice A4 r.2.2.ss.length k4] 24)) := (by repeat (first | exact Below.refl _ _ | assumption | refine Below.drew ?_ | refine Below.drewN' ?_ _ | (refine Below.alloc ?_ (by simp <;> omega) _) | (refine Below.setCell ?_ (by simp <;> omega) _)))
    have HW4 := Lib.hid hbW4
    have hk4 : Blk (w4.alloc (.cells #[.int .i64 r.2.2.W, .int .i64 r.2.2.H, .int .i64 r.2.2.S, .slice A4 r.2.2.ss.length k4] 24)) w4.heap.size 24 #[.int .i64 r.2.2.W, .int .i64 r.2.2.H, .int .i64 r.2.2.S, .slice A4 r.2.2.ss.length k4] := Blk.new' _ _ _ rfl
    have HKB4 := Lib.hid hk4
    clear hs4 hbW4 hk4
    obtain ⟨y0, y1, y2, y3⟩ := grid_parts (HK4.out.alloc (.cells #[.int .i64 r.2.2.W, .int .i64 r.2.2.H, .int .i64 r.2.2.S, .slice A4 r.2.2.ss.length k4] 24))
    have q1 : (r.1 != r.1) = false := by simp
    have q2 : (r.2.1 != r.2.1) = false := by simp
    go_wp2_with fail
    refine (grids_yes _ _ _ _ rfl _ (HG34.out.later HW4.out (Nat.le_refl _)) (HG4.out.later HW4.out (Nat.le_refl _))).mono ?_
    rintro e w5 ⟨rfl, hb5⟩
    have HB5 := Lib.hid (HB4.out.trans ((HW4.out.trans (hb5.mono (by simp))).mono HB4.out.size))
    have HBB5 := Lib.hid (And.intro ((HBB4.out.1.below HW4.out HBB4.out.1.lt).below hb5 (by have := HBB4.out.1.lt; simp; omega)) ((HBB4.out.2.below HW4.out HBB4.out.2.lt).below hb5 (by have := HBB4.out.2.lt; simp; omega)))
    have HK5 := Lib.hid ((HK4.out.below HW4.out HK4.out.lt).below hb5 (by have := HK4.out.lt; simp; omega))
    have HKB5 := Lib.hid (HKB4.out.below hb5 (by simp))
    have hw5 : w4.heap.size < w5.heap.size := HKB5.out.lt
    clear hb5 y0 y1 y2 y3 HG34 HG4 HW4 HW3 HK4 HKB4 HBB4 HRN q1 q2
    obtain ⟨i0, hi0, hz0, hz1, hz2⟩ := info_parts snd_info
    go_wp2
    go_loopw [13, 14] (fun sv jv wr => ∃ (q : Nat) (va : Value), va = sv ∧ q ≤ l.length ∧ jv = .int .i64 q ∧ Hid (wr.ownsRow w5.heap.size 51 3 va q (sndCells (l.take q))) ∧ Below w5.heap.size w5 wr) (fun _ j _ => l.length - (intOf j).toNat)
    case atStart => exact ⟨0, _, rfl, Nat.zero_le _, rfl, World.ownsRow_nil _ _ _ _, Below.refl _ _⟩
    case round =>
      obtain ⟨q, va, rfl, hq, rfl, Hown, hBr⟩ := hrel
      have HBr := Lib.hid hBr
      have HBw := Lib.hid (HB5.out.trans (hBr.mono HB5.out.size))
      have hsz := hBr.size
      clear hBr
      by_cases hlt : q < l.length
      · obtain ⟨b1, o1, rfl, hb1, c4, c5, c6⟩ := (HU.out.below HBw.out).at_ hlt
        have Hsn : Hid (l.take (q + 1) = l.take q ++ [l[q]]) := take_snoc l q hlt
        generalize l[q] = p at *
        obtain ⟨p1, p2, p3⟩ := p
        simp only at c4 c5 c6
        have hq0 : (0 : Int) ≤ (q : Int) := by omega
        have hq1 : (q : Int) < l.length := by omega
        go_wp2
        go_region_law
          ((refine step_append_lies _ (by rfl) (.tmp 71) (.tmp 88) _ (by rfl) w5.heap.size 51 i0 _ 3 24 Tryz.underlying48 hi0 hz0 hz1 hz2 rfl (by omega) va q (sndCells (l.take q)) (by rfl) ((Hown.out.alloc _).drew)
              ⟨wr.heap.size, 0, none⟩ 1 1 [.int .i64 p1, .int .i64 p2, .int .i64 p3] (by rfl) (by rfl) (World.news_of_block (cs := #[.int .i64 p1, .int .i64 p2, .int .i64 p3]) (t := 51) (fr := (0, 0)) (by exact heap_alloc_new wr _)) (by simp [Value.oneCell'])
              (by omega) (by unfold maxLen; omega) (by omega) (by simp; omega) (wr.heap.size + 1) (by simp) ?_; intro gg cap' v1 hown1 hgrow hat hltg))
        all_goals
          have H2o : Hid (v1.ownsRow w5.heap.size 51 3 (.slice (some ⟨gg, 0, none⟩) (q + 1) cap') (q + 1) (sndCells (l.take (q + 1)))) := by
            rw [Hid, Hsn.out, sndCells_append]
            exact hown1
          have H2b : Hid (Below w5.heap.size w5 v1) := (Below.drew (HBr.out.alloc (by omega) _)).grown hgrow (by simp; omega) (fun k e => (Hown.out.lt k e).1)
          clear hown1 hgrow hat hltg
          go_wp2
          go_roundw
          case rel => exact ⟨q + 1, _, rfl, by omega, by go_num, H2o.out, H2b.out⟩
          case measure => simp [intOf]; omega
      · have hq' : q = l.length := by omega
        have HS : Hid (SndsAt wr wr.heap.size va l) := by
          have h := Reads.of_own Hown.out
          rw [hq', List.take_length] at h
          exact h
        clear hq' Hown
        have HBB6 := Lib.hid (HBB5.out.1.below HBr.out (by omega))
        have HK6 := Lib.hid (HK5.out.below HBr.out (by omega))
        have HKB6 := Lib.hid (HKB5.out.below HBr.out (by omega))
        obtain ⟨z0, z1, z2, z3⟩ := grid_parts HBB6.out
        obtain ⟨r6, hr6⟩ : ∃ r, measR a l = r := ⟨_, rfl⟩
        have hM := Measure_fresh _ _ a l _ (HX.out.later HBw.out (Nat.le_refl _)) HS.out
        rw [hr6] at hM
        have HM := Lib.hid hM
        have HR6 := Lib.hid hr6
        clear hM hr6
        go_wp2_with fail
        refine HM.out.mono ?_
        rintro e w6 ⟨x6, rfl, hg6, hb6, hf6⟩
        obtain ⟨v6, rfl, hs6⟩ := hg6
        obtain ⟨A6, k6, rfl, _, _⟩ := hs6.open_
        have hfr := hf6 _ _ _ _ rfl
        have HB6 := Lib.hid (HBw.out.trans (hb6.mono HBw.out.size))
        have HK7 := Lib.hid (HK6.out.below hb6 HK6.out.lt)
        have HKB7 := Lib.hid (HKB6.out.below hb6 HKB6.out.lt)
        have HBB7 := Lib.hid (HBB6.out.below hb6 HBB6.out.lt)
        have n37 : w3.heap.size < wr.heap.size := HK6.out.lt
        have n410 : w4.heap.size < wr.heap.size := HKB6.out.lt
        have n34 : ¬ w3.heap.size = w4.heap.size := by omega
        have n43 : ¬ w4.heap.size = w3.heap.size := by omega
        have n0 : ¬ w.heap.size = w3.heap.size := by omega
        have n0' : ¬ w.heap.size = w4.heap.size := by omega
        have hs6' : SpansAt ((((w6.setCell ⟨w3.heap.size, 0, none⟩ (.int .i64 r6.2.2.W)).setCell ⟨w3.heap.size, 1, none⟩ (.int .i64 r6.2.2.H)).setCell ⟨w3.heap.size, 2, none⟩ (.int .i64 r6.2.2.S)).setCell ⟨w3.heap.size, 3, none⟩ (.slice A6 r6.2.2.ss.length k6)) w6.heap.size (.slice A6 r6.2.2.ss.length k6) r6.2.2.ss := snds_set (snds_set (snds_set (snds_set hs6 hfr (by exact n37) _) hfr (by exact n37) _) hfr (by exact n37) _) hfr (by exact n37) _
        have hE : Below w.heap.size w ((((w6.setCell ⟨w3.heap.size, 0, none⟩ (.int .i64 r6.2.2.W)).setCell ⟨w3.heap.size, 1, none⟩ (.int .i64 r6.2.2.H)).setCell ⟨w3.heap.size, 2, none⟩ (.int .i64 r6.2.2.S)).setCell ⟨w3.heap.size, 3, none⟩ (.slice A6 r6.2.2.ss.length k6)) := (((HB6.out.setCell (by show w.heap.size ≤ w3.heap.size; omega) _).setCell (by show w.heap.size ≤ w3.heap.size; omega) _).setCell (by show w.heap.size ≤ w3.heap.size; omega) _).setCell (by show w.heap.size ≤ w3.heap.size; omega) _
        have hKE : Blk ((((w6.setCell ⟨w3.heap.size, 0, none⟩ (.int .i64 r6.2.2.W)).setCell ⟨w3.heap.size, 1, none⟩ (.int .i64 r6.2.2.H)).setCell ⟨w3.heap.size, 2, none⟩ (.int .i64 r6.2.2.S)).setCell ⟨w3.heap.size, 3, none⟩ (.slice A6 r6.2.2.ss.length k6)) w3.heap.size 24 #[.int .i64 r6.2.2.W, .int .i64 r6.2.2.H, .int .i64 r6.2.2.S, .slice A6 r6.2.2.ss.length k6] := (((HK7.out.set_ 0 _).set_ 1 _).set_ 2 _).set_ 3 _
        have hKBE : Blk ((((w6.setCell ⟨w3.heap.size, 0, none⟩ (.int .i64 r6.2.2.W)).setCell ⟨w3.heap.size, 1, none⟩ (.int .i64 r6.2.2.H)).setCell ⟨w3.heap.size, 2, none⟩ (.int .i64 r6.2.2.S)).setCell ⟨w3.heap.size, 3, none⟩ (.slice A6 r6.2.2.ss.length k6)) w4.heap.size 24 #[.int .i64 r.2.2.W, .int .i64 r.2.2.H, .int .i64 r.2.2.S, .slice A4 r.2.2.ss.length k4] := (((HKB7.out.far_ (p := ⟨w3.heap.size, 0, none⟩) n43 _).far_ (p := ⟨w3.heap.size, 1, none⟩) n43 _).far_ (p := ⟨w3.heap.size, 2, none⟩) n43 _).far_ (p := ⟨w3.heap.size, 3, none⟩) n43 _
        have hBE : Blk ((((w6.setCell ⟨w3.heap.size, 0, none⟩ (.int .i64 r6.2.2.W)).setCell ⟨w3.heap.size, 1, none⟩ (.int .i64 r6.2.2.H)).setCell ⟨w3.heap.size, 2, none⟩ (.int .i64 r6.2.2.S)).setCell ⟨w3.heap.size, 3, none⟩ (.slice A6 r6.2.2.ss.length k6)) w.heap.size 24 #[.int .i64 a.W, .int .i64 a.H, .int .i64 a.S, .slice A a.ss.length k] := (((HBB7.out.far_ (p := ⟨w3.heap.size, 0, none⟩) n0 _).far_ (p := ⟨w3.heap.size, 1, none⟩) n0 _).far_ (p := ⟨w3.heap.size, 2, none⟩) n0 _).far_ (p := ⟨w3.heap.size, 3, none⟩) n0 _
        have hsz6 : ((((w6.setCell ⟨w3.heap.size, 0, none⟩ (.int .i64 r6.2.2.W)).setCell ⟨w3.heap.size, 1, none⟩ (.int .i64 r6.2.2.H)).setCell ⟨w3.heap.size, 2, none⟩ (.int .i64 r6.2.2.S)).setCell ⟨w3.heap.size, 3, none⟩ (.slice A6 r6.2.2.ss.length k6)).heap.size = w6.heap.size := by simp [World.setCell]
        have HSE := Lib.hid hs6'
        have HE := Lib.hid hE
        have HKE := Lib.hid hKE
        have HKBE := Lib.hid hKBE
        have HBE := Lib.hid hBE
        have Hsz6 := Lib.hid hsz6
        have hw6 : wr.heap.size ≤ w6.heap.size := hb6.size
        have Hfr6 := Lib.hid hfr
        clear hs6 hs6' hE hKE hKBE hBE hsz6 hb6 hf6 hfr z0 z1 z2 z3 HM
        obtain ⟨z0, z1, z2, z3⟩ := grid_parts HBB7.out
        obtain ⟨y0, y1, y2, y3⟩ := grid_parts HK7.out
        have f0 := HK7.out.frozen 0
        have f1 := HK7.out.frozen 1
        have f2 := HK7.out.frozen 2
        have f3 := HK7.out.frozen 3
        have hRM := rMeasure_fresh (.agg #[.int .i64 a.W, .int .i64 a.H, .int .i64 a.S, .slice A a.ss.length k]) (.slice A'' l.length k'') a l ((((w6.setCell ⟨w3.heap.size, 0, none⟩ (.int .i64 r6.2.2.W)).setCell ⟨w3.heap.size, 1, none⟩ (.int .i64 r6.2.2.H)).setCell ⟨w3.heap.size, 2, none⟩ (.int .i64 r6.2.2.S)).setCell ⟨w3.heap.size, 3, none⟩ (.slice A6 r6.2.2.ss.length k6)) (HX.out.later HE.out (Nat.le_refl _)) (HU.out.later HE.out (Nat.le_refl _))
        rw [HR6.out] at hRM
        have HRM := Lib.hid hRM
        clear hRM
        go_wp2_with fail
        refine HRM.out.mono ?_
        rintro e w7 ⟨x7, rfl, hg7, hb7, hf7⟩
        obtain ⟨v7, rfl, hs7⟩ := hg7
        obtain ⟨A7, k7, rfl, _, _⟩ := hs7.open_
        have hfr := hf7 _ _ _ _ rfl
        rw [Hsz6.out] at hfr hb7
        have HB7 := Lib.hid (HE.out.trans (hb7.mono (by have := HB6.out.size; omega)))
        have HK8 := Lib.hid (HKE.out.below hb7 (by omega))
        have HKB8 := Lib.hid (HKBE.out.below hb7 (by omega))
        have HS8 := Lib.hid (HSE.out.below hb7)
        have hw7 : w6.heap.size ≤ w7.heap.size := by have := hb7.size; rw [Hsz6.out] at this; exact this
        have hs7' : SpansAt ((((w7.setCell ⟨w4.heap.size, 0, none⟩ (.int .i64 r6.2.2.W)).setCell ⟨w4.heap.size, 1, none⟩ (.int .i64 r6.2.2.H)).setCell ⟨w4.heap.size, 2, none⟩ (.int .i64 r6.2.2.S)).setCell ⟨w4.heap.size, 3, none⟩ (.slice A7 r6.2.2.ss.length k7)) w7.heap.size (.slice A7 r6.2.2.ss.length k7) r6.2.2.ss := snds_set (snds_set (snds_set (snds_set hs7 hfr (by show w4.heap.size < w6.heap.size; omega) _) hfr (by show w4.heap.size < w6.heap.size; omega) _) hfr (by show w4.heap.size < w6.heap.size; omega) _) hfr (by show w4.heap.size < w6.heap.size; omega) _
        have hF6 := Hfr6.out
        have hs6' : SpansAt ((((w7.setCell ⟨w4.heap.size, 0, none⟩ (.int .i64 r6.2.2.W)).setCell ⟨w4.heap.size, 1, none⟩ (.int .i64 r6.2.2.H)).setCell ⟨w4.heap.size, 2, none⟩ (.int .i64 r6.2.2.S)).setCell ⟨w4.heap.size, 3, none⟩ (.slice A7 r6.2.2.ss.length k7)) w6.heap.size (.slice A6 r6.2.2.ss.length k6) r6.2.2.ss := snds_set (snds_set (snds_set (snds_set HS8.out hF6 (by exact n410) _) hF6 (by exact n410) _) hF6 (by exact n410) _) hF6 (by exact n410) _
        have hE7 : Below w.heap.size w ((((w7.setCell ⟨w4.heap.size, 0, none⟩ (.int .i64 r6.2.2.W)).setCell ⟨w4.heap.size, 1, none⟩ (.int .i64 r6.2.2.H)).setCell ⟨w4.heap.size, 2, none⟩ (.int .i64 r6.2.2.S)).setCell ⟨w4.heap.size, 3, none⟩ (.slice A7 r6.2.2.ss.length k7)) := (((HB7.out.setCell (by show w.heap.size ≤ w4.heap.size; omega) _).setCell (by show w.heap.size ≤ w4.heap.size; omega) _).setCell (by show w.heap.size ≤ w4.heap.size; omega) _).setCell (by show w.heap.size ≤ w4.heap.size; omega) _
        have hsz7 : ((((w7.setCell ⟨w4.heap.size, 0, none⟩ (.int .i64 r6.2.2.W)).setCell ⟨w4.heap.size, 1, none⟩ (.int .i64 r6.2.2.H)).setCell ⟨w4.heap.size, 2, none⟩ (.int .i64 r6.2.2.S)).setCell ⟨w4.heap.size, 3, none⟩ (.slice A7 r6.2.2.ss.length k7)).heap.size = w7.heap.size := by simp [World.setCell]
        have H1 := Lib.hid (show GridAt ((((w7.setCell ⟨w4.heap.size, 0, none⟩ (.int .i64 r6.2.2.W)).setCell ⟨w4.heap.size, 1, none⟩ (.int .i64 r6.2.2.H)).setCell ⟨w4.heap.size, 2, none⟩ (.int .i64 r6.2.2.S)).setCell ⟨w4.heap.size, 3, none⟩ (.slice A7 r6.2.2.ss.length k7)) w7.heap.size (.agg #[.int .i64 r6.2.2.W, .int .i64 r6.2.2.H, .int .i64 r6.2.2.S, .slice A6 r6.2.2.ss.length k6]) r6.2.2 from ⟨_, rfl, hs6'.more hw7⟩)
        have H2 := Lib.hid (show GridAt ((((w7.setCell ⟨w4.heap.size, 0, none⟩ (.int .i64 r6.2.2.W)).setCell ⟨w4.heap.size, 1, none⟩ (.int .i64 r6.2.2.H)).setCell ⟨w4.heap.size, 2, none⟩ (.int .i64 r6.2.2.S)).setCell ⟨w4.heap.size, 3, none⟩ (.slice A7 r6.2.2.ss.length k7)) w7.heap.size (.agg #[.int .i64 r6.2.2.W, .int .i64 r6.2.2.H, .int .i64 r6.2.2.S, .slice A7 r6.2.2.ss.length k7]) r6.2.2 from ⟨_, rfl, hs7'⟩)
        rw [← hsz7] at H1 H2
        have HE7 := Lib.hid hE7
        clear hs7 hs7' hs6' hE7 hsz7 hb7 hf7 hfr hF6 z0 z1 z2 z3 y0 y1 y2 y3 f0 f1 f2 f3
        obtain ⟨z0, z1, z2, z3⟩ := grid_parts HK8.out
        obtain ⟨y0, y1, y2, y3⟩ := grid_parts HKB8.out
        have f0 := HKB8.out.frozen 0
        have f1 := HKB8.out.frozen 1
        have f2 := HKB8.out.frozen 2
        have f3 := HKB8.out.frozen 3
        have q1 : (r6.1 == r6.1) = true := by simp
        have q2 : (r6.2.1 == r6.2.1) = true := by simp
        go_wp2_with fail
        refine (grids_yes _ _ _ _ rfl _ H1.out H2.out).mono ?_
        rintro e w8 ⟨rfl, hb8⟩
        have HB8 := Lib.hid (HE7.out.trans (hb8.mono HE7.out.size))
        clear hb8
        go_wp2_with fail
        refine (works_any _ (HLV.out.below HB8.out)).mono ?_
        rintro e w9 ⟨rfl, hb9⟩
        have HB9 := Lib.hid (HB8.out.trans (hb9.mono HB8.out.size))
        clear hb9
        go_wp2
        go_ret
        exact ⟨rfl, HB9.out⟩
end Go.Proofs.YthcenmocnphnmaaGreatDoor
/-
  GridSurveys: for whatever two grids and soundings, the law returns true and its arguments read as they did (no condition).
-/
namespace Go.Proofs.YthcenmocnphnmaaGreatDoor
open Go.ChangeShapes Go.WideShapes Go.ChangeAt Go.WideMaps Go.WideElems Go.RowKit Go.Shelf

namespace GridSurveys
theorem laid_out : laidOutB Tryz.prog = true := by kernel_rfl
set_option maxRecDepth 100000 in
theorem lifted (os : Os) (started : os.Started) (H : Type) (enc : TypeId × Value → H) :
    ReturnsInHanded {} Tryz.checked os 5 .any (fun w args => (Rows.gridSurveysSpec.pre enc Tryz.prog Tryz.f5 [] false w args ∧ laidMetH Tryz.prog laidL w) ∧ sizedMet enc Tryz.prog Tryz.f5 (OpenSpec.ofChange Rows.gridSurveysSpec) false w args)
      (Rows.gridSurveysSpec.post enc Tryz.prog Tryz.f5 false true false false) := by
  refine ret_shaped (s := Rows.gridSurveysSpec) (conds := []) started (by kernel_rfl) Tryz.func5 #[.agg #[.int .i64 0, .int .i64 0, .int .i64 0, .slice none 0 0], .agg #[.int .i64 0, .int .i64 0, .int .i64 0, .slice none 0 0], .slice none 0 0] (by kernel_rfl) (by kernel_rfl) (by kernel_rfl) ?_
  intro W base args ds gs before hval0 hW hlv
  have hval : ∀ (j : Nat) t v, Tryz.f5.params[j]? = some t → args[j]? = some v → Value.okWide Tryz.prog W .any base t v := hval0
  have hW' := hW
  obtain ⟨p, q, hA0, hV, rfl, _, _⟩ := hW
  have hA : DataW.TrodAll enc Tryz.prog W 0 (fun _ => true) true Tryz.f5.params.toList args.toList ds p := hA0
  rw [Tryz.params5] at hA hval
  obtain ⟨v0, v1, v2, d0, d1, d2, p0, p1, p2, rfl, rfl, rfl, h0, h1, h2⟩ := trodAll_three hA
  obtain ⟨rfl, rfl⟩ := trodVars_none hV
  obtain ⟨g0, hg0⟩ := grid_open (hval 0 24 v0 rfl rfl) h0
  obtain ⟨g1, hg1⟩ := grid_open (hval 1 24 v1 rfl rfl) h1
  obtain ⟨l2, hl2⟩ := rsnds_open (hval 2 44 v2 rfl rfl) h2
  clear hA0 hval0 hA
  simp only [List.append_nil] at hW'
  have hlt : ∀ x ∈ p0 ++ p1 ++ p2, x.block < W.heap.size := fun x hx => by simpa using hW'.lt x hx
  have k0 : ∀ x ∈ p0, x.block < W.heap.size := fun x hx => hlt x (by simp [hx])
  have k1 : ∀ x ∈ p1, x.block < W.heap.size := fun x hx => hlt x (by simp [hx])
  have k2 : ∀ x ∈ p2, x.block < W.heap.size := fun x hx => hlt x (by simp [hx])
  refine (GridSurveys_any v0 v1 v2 g0 g1 l2 W hg0 hg1 hl2 hlv).mono ?_
  rintro e W' ⟨rfl, bel⟩
  refine ⟨_, rfl, _, _, _, [], (p0 ++ (p1 ++ p2)), [], hW', ?_, ?_, ?_, bel.frame _, fun h => by cases h⟩
  · exact trodAll_mk1 (shut_bool Tryz.underlying4 true)
  · exact trodAll_mk3 (Below.trod laid_out (by kernel_rfl) (of_decide_eq_true (by kernel_rfl)) h0 bel k0) (Below.trod laid_out (by kernel_rfl) (of_decide_eq_true (by kernel_rfl)) h1 bel k1) (Below.trod laid_out (by kernel_rfl) (of_decide_eq_true (by kernel_rfl)) h2 bel k2)
  · rfl
set_option maxRecDepth 100000 in
theorem bare : Rows.GridSurveysSaid :=
  OpenClaim.holds_of_wide 5 Tryz.f5 rfl rfl rfl rfl rfl rfl rfl ⟨rfl, rfl, rfl, rfl, rfl⟩ rfl rfl rfl rfl rfl (by kernel_rfl) Tryz.func5 (by kernel_rfl)
    (of_decide_eq_true (by kernel_rfl)) (by unfold Func.isWrapper; first | (rw [if_pos (by decide +kernel)]; kernel_rfl) | (rw [if_neg (by decide +kernel)]; exact ⟨rfl, rfl⟩))
    (fun os started H enc _ => lifted os started H enc)
end GridSurveys
set_option maxRecDepth 100000 in
theorem GridSurveys_card : Rows.GridSurveysCardSaid :=
  Claim7.holds_tied_plain_at .later [] [.data, .data, .data, .sentinel, .sentinel, .listed, .data] true _ true
    GridSurveys.bare (fun _ h => by cases h) (by kernel_rfl) (fun _ h => by cases h) gridSurveys_row_tie rfl ⟨rfl, rfl⟩ (by kernel_rfl) rfl
    (fun f fn hf hfn => by
      obtain rfl : f = 5 := Option.some.inj ((show Tryz.prog.funcNamed "tidewall/tidewalllaw01.GridSurveys" = some 5 by kernel_rfl).symm.trans hf) |>.symm
      obtain rfl : fn = Tryz.f5 := (Option.some.inj (Tryz.func5.symm.trans hfn)).symm
      exact ⟨by kernel_rfl, fun j t ht => by
        rw [Tryz.params5] at ht
        have hm : t ∈ [24, 24, 44] := by simpa using Array.mem_of_getElem? ht
        have hall : ([24, 24, 44].all fun u => !Tryz.prog.wantsStandIn u) = true := by kernel_rfl
        exact (show Tryz.prog.wantsStandIn t = false by simpa using List.all_eq_true.1 hall t hm)⟩)
    (by kernel_rfl)
#print axioms GridSurveys_card
end Go.Proofs.YthcenmocnphnmaaGreatDoor
