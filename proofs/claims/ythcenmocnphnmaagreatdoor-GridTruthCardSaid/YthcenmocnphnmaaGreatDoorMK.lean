/-
  Ponds.
-/
import Derived.Test.YthcenmocnphnmaaGreatDoorMJ
import Derived.Test.YthcenmocnphnmaaGreatDoorML
import Derived.Test.YthcenmocnphnmaaGreatDoorMA
import Derived.Test.YthcenmocnphnmaaGreatDoorMG
import Derived.Test.YthcenmocnphnmaaGreatDoorMH
set_option linter.unusedSimpArgs false
set_option linter.unusedVariables false
namespace Go.Proofs.YthcenmocnphnmaaGreatDoor
open Go.RowKit Go.Shelf

/-- the water that remains in a cell -/
def pondAt (g : G) (sts : List Nat) (ss : List (Int × Int)) (c : Nat) : Int × Int :=
  if c ∈ sts then (0, 0) else (max 0 (mnL (fun s => s.1) ss (nearL g c) - (g.ss.getD c (0, 0)).2), max 0 (mnL (fun s => s.2) ss (nearL g c) - (g.ss.getD c (0, 0)).1))
def pondL (g : G) (sts : List Nat) (ss : List (Int × Int)) : List (Int × Int) := (List.range g.ss.length).map (pondAt g sts ss)
theorem pondL_length (g : G) (sts : List Nat) (ss : List (Int × Int)) : (pondL g sts ss).length = g.ss.length := by simp [pondL]
theorem pondL_get {g : G} {sts : List Nat} {ss : List (Int × Int)} {k : Nat} (h : k < (pondL g sts ss).length) : (pondL g sts ss)[k] = pondAt g sts ss k := by simp [pondL]

/-- the front of a list, and what is not yet written -/
def fill {α : Type} (l : List α) (z : α) (k : Nat) : List α := (List.range l.length).map fun i => if i < k then l.getD i z else z
section
variable {α : Type} {l : List α} {z : α} {k : Nat}
theorem fill_length : (fill l z k).length = l.length := by simp [fill]
theorem fill_at {i : Nat} (h : i < (fill l z k).length) : (fill l z k)[i] = if i < k then l.getD i z else z := by simp [fill]
theorem getD_at {i : Nat} (h : i < l.length) : l.getD i z = l[i] := by rw [List.getD_eq_getElem?_getD, List.getElem?_eq_getElem h]; rfl
theorem fill_zero : fill l z 0 = List.replicate l.length z := by
  refine List.ext_getElem (by simp [fill]) fun i h1 h2 => ?_
  rw [fill_at]
  simp
theorem fill_all : fill l z l.length = l := by
  refine List.ext_getElem fill_length fun i h1 h2 => ?_
  rw [fill_at, if_pos h2, getD_at h2]
theorem fill_get (h' : k < (fill l z k).length) : (fill l z k)[k] = z := by
  rw [fill_at, if_neg (Nat.lt_irrefl k)]
theorem fill_set (h : k < l.length) : (fill l z k).set k l[k] = fill l z (k + 1) := by
  refine List.ext_getElem (by rw [List.length_set, fill_length, fill_length]) fun i h1 h2 => ?_
  have h3 : i < l.length := by rw [fill_length] at h2; exact h2
  rw [List.getElem_set, fill_at, fill_at]
  by_cases e : k = i
  · subst e
    rw [if_pos rfl, if_pos (by omega), getD_at h]
  · rw [if_neg e]
    by_cases hlt : i < k
    · rw [if_pos hlt, if_pos (by omega)]
    · rw [if_neg hlt, if_neg (by omega)]
theorem fill_skip (h : k < l.length) (hz : l[k] = z) : fill l z (k + 1) = fill l z k := by
  rw [← fill_set h]
  refine List.ext_getElem (by rw [List.length_set]) fun i h1 h2 => ?_
  rw [List.getElem_set]
  by_cases e : k = i
  · subst e
    rw [if_pos rfl, hz, fill_get]
  · rw [if_neg e]
end

/-- which cells are sea -/
def seaL (N : Nat) (sts : List Nat) : List Bool := (List.range N).map fun i => decide (i ∈ sts)
theorem seaL_length (N : Nat) (sts : List Nat) : (seaL N sts).length = N := by simp [seaL]
theorem seaL_set (N : Nat) (sts : List Nat) (c : Nat) : (seaL N sts).set c true = seaL N (sts ++ [c]) := by
  refine List.ext_getElem (by simp [seaL]) fun i h1 h2 => ?_
  rw [List.getElem_set]
  simp only [seaL, List.getElem_map, List.getElem_range, List.mem_append, List.mem_singleton]
  by_cases e : c = i
  · subst e; simp
  · rw [if_neg e]
    simp [Ne.symm e]
theorem seaL_nil (N : Nat) : seaL N [] = List.replicate N false := by
  refine List.ext_getElem (by simp [seaL]) fun i h1 h2 => ?_
  simp [seaL]
section
variable {w : World} {base e g cap : Nat}
theorem own_bools_at {l : List Bool} {n : Nat} (h : w.ownsRow base e 1 (.slice (some ⟨g, 0, none⟩) n cap) n (l.map Value.bool)) {k : Nat} (hk : k < l.length) : w.cell? ⟨g, k, none⟩ = some (.bool l[k]) := by
  have hn := h.1
  rw [List.length_map] at hn
  refine (h.cellAt _ (by omega)).trans ?_
  simp [hk]
theorem own_bools_set {l : List Bool} {n : Nat} (h : w.ownsRow base e 1 (.slice (some ⟨g, 0, none⟩) n cap) n (l.map Value.bool)) (k : Nat) (b : Bool) :
    (w.setCell ⟨g, k, none⟩ (.bool b)).ownsRow base e 1 (.slice (some ⟨g, 0, none⟩) n cap) n ((l.set k b).map Value.bool) := by
  rw [List.map_set]
  exact (h.stored k (.bool b)).1
end
theorem madeCells_bools (n : Nat) : (madeCells #[.bool false] n).toList = (List.replicate n false).map Value.bool := by rw [toList_madeCells_one, List.map_replicate]

def PondsOut (g : G) (l : List Int) (w : World) (e : Ending) (w' : World) : Prop := ∃ v ps, e = .returned (.tuple #[v, .int .i64 (seaE g l)]) ∧ SpansAt w' w'.heap.size v ps ∧ Below w.heap.size w w' ∧
  ((seaE g l ≠ 0 ∧ ps = []) ∨ (seaE g l = 0 ∧ ∃ sts ss, l = sts.map (fun (c : Nat) => (c : Int)) ∧ Sillz g sts ss ∧ ps = pondL g sts ss))

theorem way_low {g : G} {f : FuncId} {sel : Int × Int → Int} (hE : IsEnd f sel) (V : Valid g) {sts : List Nat} (hst : ∀ c, c ∈ sts → c < g.ss.length) {c : Nat} {v : Int} (h : Way (fun c => (nearL g c).map Int.toNat) sts (hgt g sel) (fun v d => max v (hgt g sel d)) c v) : -1200000 ≤ v := by
  induction h with
  | start hc => exact (hgt_acc hE V (hst _ hc)).1
  | step hw hd ih => omega
theorem Silled.low {g : G} {f : FuncId} {sel : Int × Int → Int} (hE : IsEnd f sel) (V : Valid g) {sts : List Nat} {vs : List Int} (hne : sts ≠ []) (hst : ∀ c, c ∈ sts → c < g.ss.length) (h : Silled g sel sts vs) (c : Nat) : -1200000 ≤ val vs c := by
  by_cases hc : c < g.ss.length
  · obtain ⟨s, hs⟩ := List.exists_mem_of_ne_nil _ hne
    exact way_low hE V hst (h.way c hc (way_all V hs (hst s hs) hc))
  · have e : vs.length ≤ c := by have := h.len; omega
    unfold val
    rw [List.getD_eq_getElem?_getD, List.getElem?_eq_none e]
    decide
theorem Sillz.low {g : G} (V : Valid g) {sts : List Nat} {ss : List (Int × Int)} (hne : sts ≠ []) (hst : ∀ c, c ∈ sts → c < g.ss.length) (h : Sillz g sts ss) (c : Nat) : -1200000 ≤ (ss.getD c (0, 0)).1 ∧ -1200000 ≤ (ss.getD c (0, 0)).2 := by
  obtain ⟨lo, hi, h1, h2, rfl⟩ := h
  by_cases hc : c < g.ss.length
  · have e1 := h1.len
    have e2 := h2.len
    obtain ⟨a, b⟩ := zip_ends (los := lo) (his := hi) (c := c) (by omega) (by omega)
    unfold loF at a
    unfold hiF at b
    rw [a, b]
    exact ⟨h1.low (.inl ⟨rfl, rfl⟩) V hne hst c, h2.low (.inr ⟨rfl, rfl⟩) V hne hst c⟩
  · have e : (lo.zip hi).length ≤ c := by have := h1.len; have := h2.len; simp; omega
    rw [List.getD_eq_getElem?_getD, List.getElem?_eq_none e]
    decide
theorem mnL_rng (f : Int × Int → Int) (ss : List (Int × Int)) (l : List Int) (h : ∀ c, -1200000 ≤ f (ss.getD c (0, 0))) : -1200000 ≤ mnL f ss l ∧ mnL f ss l ≤ 1200000 :=
  ⟨le_mnF (fun d => f (ss.getD d.toNat (0, 0))) _ l 1200000 (by omega) (fun d _ => h d.toNat), (mnF_le (fun d => f (ss.getD d.toNat (0, 0))) l 1200000).1⟩

set_option maxRecDepth 100000 in
set_option maxHeartbeats 4000000 in
theorem Ponds_any (x y : Value) (g : G) (l : List Int) (w : World) (hg : GridAt w w.heap.size x g) (hy : IntsAt w w.heap.size y l) :
    Calls Tryz.prog 26 #[x, y] w (PondsOut g l w) := by
  have HG := Lib.hid hg
  obtain ⟨v, rfl, hs⟩ := hg
  obtain ⟨A, k, rfl, hk, hm⟩ := hs.open_
  have HY := Lib.hid hy
  obtain ⟨A', k', rfl, hk', hm'⟩ := hy.open_
  have hB : Below w.heap.size w (w.alloc (.cells #[.int .i64 g.W, .int .i64 g.H, .int .i64 g.S, .slice A g.ss.length k] 24)) := (by repeat (first | exact Below.refl _ _ | assumption | refine Below.drew ?_ | refine Below.drewN' ?_ _ | (refine Below.alloc ?_ (by simp <;> omega) _) | (refine Below.setCell ?_ (by simp <;> omega) _)))
  have HB := Lib.hid hB
  have BL0 : Blk (w.alloc (.cells #[.int .i64 g.W, .int .i64 g.H, .int .i64 g.S, .slice A g.ss.length k] 24)) w.heap.size 24 #[.int .i64 g.W, .int .i64 g.H, .int .i64 g.S, .slice A g.ss.length k] := Blk.new' _ _ _ rfl
  have BL := Lib.hid BL0
  have HSp := Lib.hid hs
  clear hs hy hB BL0
  by_cases h0 : seaE g l = 0
  case neg =>
    have H0 := Lib.hid h0
    have hb : (seaE g l != 0) = true := by simpa using h0
    clear h0
    go_enter Tryz.func26, Tryz.ntmps26
    go_wp2_with (go_at_call 57; refine (checkSea_any _ _ g l _ (by exact HG.out.later HB.out (Nat.le_refl _)) (by exact HY.out.later HB.out (Nat.le_refl _))).mono ?_; rintro e w1 ⟨rfl, hb1⟩)
    go_ret2
    exact ⟨_, [], rfl, spans_nil _ _, HB.out.trans (hb1.mono HB.out.size), .inl ⟨H0.out, rfl⟩⟩
  have H0 := Lib.hid h0
  have hb : (seaE g l != 0) = false := by simpa using h0
  obtain ⟨hck, sts, el, hne, hst⟩ := sea_nat h0
  have V := valid_of hck
  have hsm := V.small
  have HV := Lib.hid V
  have HT := Lib.hid hst
  have Hne := Lib.hid hne
  have Hel := Lib.hid el
  have hll : l.length = sts.length := by rw [el, List.length_map]
  have Hll := Lib.hid hll
  have hgetN : ∀ (k : Nat) (h : k < l.length), ∃ c : Nat, c < g.ss.length ∧ l[k] = (c : Int) ∧ sts.take (k + 1) = sts.take k ++ [c] := by
    intro k h
    subst el
    have h' : k < sts.length := by simpa using h
    exact ⟨sts[k], hst _ (List.getElem_mem h'), by rw [List.getElem_map], take_snoc sts k h'⟩
  have HgetN := Lib.hid hgetN
  clear h0 hck hne hst V el hll hgetN
  obtain ⟨i0, hi0, hz0, hz1, hz2⟩ := info_parts span_info
  obtain ⟨j0, hj0, hy0, hy1, hy2⟩ := info_parts bool_info
  have hms := fun W => run_make_rowN (P := Tryz.prog) 22 34 i0 _ Tryz.underlying22 hi0 hz0 .i64 .i64 g.ss.length g.ss.length (Nat.le_refl _) (by rw [hz2]; omega) (by omega) W
  rw [hz1] at hms
  have hmb := fun W => run_make_rowN (P := Tryz.prog) 39 4 j0 _ Tryz.underlying39 hj0 hy0 .i64 .i64 g.ss.length g.ss.length (Nat.le_refl _) (by rw [hy2]; omega) (by omega) W
  rw [hy1] at hmb
  simp only [Value.cells] at hms hmb
  clear hi0 hz0 hz1 hz2 hj0 hy0 hy1 hy2
  go_enter Tryz.func26, Tryz.ntmps26
  go_wp2_with fail
  refine (checkSea_any _ _ g l _ (HG.out.later HB.out (Nat.le_refl _)) (HY.out.later HB.out (Nat.le_refl _))).mono ?_
  rintro e w1 ⟨rfl, hb1⟩
  have BL1 := Lib.hid (BL.out.below hb1 (by simp))
  have HB1 := Lib.hid (HB.out.trans (hb1.mono HB.out.size))
  clear hb1
  have d3 := BL1.out.cell 3
  simp only [List.getElem?_toArray, List.getElem?_cons_zero, List.getElem?_cons_succ] at d3
  have l1 := BL1.out.lt
  have HO0 := Lib.hid (own_made w1 4 #[.bool false] g.ss.length 1 w1.heap.size (Nat.le_refl _) (by omega))
  go_wp2
  go_loopw [27] (fun i wr => ∃ k : Nat, k ≤ l.length ∧ i = .int .i64 k ∧ Hid (wr.ownsRow w1.heap.size 4 1 (.slice (some ⟨w1.heap.size, 0, none⟩) g.ss.length g.ss.length) g.ss.length ((seaL g.ss.length (sts.take k)).map Value.bool)) ∧ Below w1.heap.size w1 wr) (fun i _ => l.length - (intOf i).toNat)
  case atStart =>
    refine ⟨0, Nat.zero_le _, rfl, ?_, (by repeat (first | exact Below.refl _ _ | assumption | refine Below.drew ?_ | refine Below.drewN' ?_ _ | (refine Below.alloc ?_ (by simp <;> omega) _) | (refine Below.setCell ?_ (by simp <;> omega) _)))⟩
    have h := HO0.out
    rw [Nat.mul_one, madeCells_bools, ← seaL_nil] at h
    rw [List.take_zero]
    exact h
  case round =>
    obtain ⟨k, hk, rfl, Hown, hBr⟩ := hrel
    clear HO0 d3
    by_cases hlt : k < l.length
    · obtain ⟨b, off, rfl, hb, c1⟩ := ((HY.out.below HB1.out).below (hBr.mono HB1.out.size)).at_ hlt
      obtain ⟨c, hcN, hlc, htk⟩ := HgetN.out k hlt
      have Htk := Lib.hid htk
      rw [hlc] at c1
      clear hlc htk
      have hcN' : (c : Int) < g.ss.length := by omega
      have hc0 : (0 : Int) ≤ (c : Int) := by omega
      have c3 := own_bools_at Hown.out (k := c) (by rw [seaL_length]; exact hcN)
      have f3 := Hown.out.frozenAt c
      go_wp2
      go_roundw
      case rel =>
        refine ⟨k + 1, by omega, by go_num, ?_, (by repeat (first | exact Below.refl _ _ | assumption | refine Below.drew ?_ | refine Below.drewN' ?_ _ | (refine Below.alloc ?_ (by simp <;> omega) _) | (refine Below.setCell ?_ (by simp <;> omega) _)))⟩
        have h := own_bools_set Hown.out c true
        rw [seaL_set, ← Htk.out] at h
        exact h
      case measure => simp [intOf]; omega
    · have HBr := Lib.hid hBr
      have HSea : Hid (wr.ownsRow w1.heap.size 4 1 (.slice (some ⟨w1.heap.size, 0, none⟩) g.ss.length g.ss.length) g.ss.length ((seaL g.ss.length sts).map Value.bool)) := by
        have h := Hown.out
        have e : k = sts.length := by have := Hll.out; omega
        rw [e, List.take_length] at h
        exact h
      have BL2 := Lib.hid (BL1.out.below hBr l1)
      have d0 := BL2.out.cell 0
      have d1 := BL2.out.cell 1
      have d2 := BL2.out.cell 2
      have d3 := BL2.out.cell 3
      simp only [List.getElem?_toArray, List.getElem?_cons_zero, List.getElem?_cons_succ] at d0 d1 d2 d3
      clear Hown hBr
      go_wp2_with fail
      have HBs := Lib.hid (HB1.out.trans (HBr.out.mono HB1.out.size))
      refine (sills_any _ _ g sts _ (HG.out.later HBs.out (Nat.le_refl _)) (by rw [← Hel.out]; exact HY.out.later HBs.out (Nat.le_refl _)) HV.out HT.out).mono ?_
      rintro e w2 ⟨v2, ss, rfl, hv2, hb2, hs2⟩
      have Hlow := Lib.hid (fun c => hs2.low HV.out Hne.out HT.out c)
      have Hlen := Lib.hid hs2.length
      have HS2 := Lib.hid hs2
      have HV2 := Lib.hid hv2
      have BL3 := Lib.hid (BL2.out.below hb2 BL2.out.lt)
      have HB2 := Lib.hid (HBs.out.trans (hb2.mono HBs.out.size))
      have HBo : Hid (BoolsAt w2 w2.heap.size (.slice (some ⟨w1.heap.size, 0, none⟩) g.ss.length g.ss.length) (seaL g.ss.length sts)) := by
        have h := Reads.of_own HSea.out
        have h2 := h.later hb2 (Nat.le_refl _)
        unfold BoolsAt
        rw [seaL_length]
        exact h2
      obtain ⟨A2, k2, rfl, hk2, hm2⟩ := hv2.open_
      clear hb2 hs2 hv2 d0 d1 d2 d3
      have d3 := BL3.out.cell 3
      simp only [List.getElem?_toArray, List.getElem?_cons_zero, List.getElem?_cons_succ] at d3
      have l3 := BL3.out.lt
      have HO1 := Lib.hid (own_made w2 34 #[.int .i64 0, .int .i64 0] g.ss.length 2 w2.heap.size (Nat.le_refl _) (by omega))
      go_wp2
      go_loopw [45] (fun i wr => ∃ k : Nat, k ≤ g.ss.length ∧ i = .int .i64 k ∧ Hid (wr.ownsRow w2.heap.size 34 2 (.slice (some ⟨w2.heap.size, 0, none⟩) g.ss.length g.ss.length) g.ss.length (spanCells (fill (pondL g sts ss) (0, 0) k))) ∧ Below w2.heap.size w2 wr) (fun i _ => g.ss.length - (intOf i).toNat)
      case atStart =>
        refine ⟨0, Nat.zero_le _, rfl, ?_, (by repeat (first | exact Below.refl _ _ | assumption | refine Below.drew ?_ | refine Below.drewN' ?_ _ | (refine Below.alloc ?_ (by simp <;> omega) _) | (refine Below.setCell ?_ (by simp <;> omega) _)))⟩
        have h := HO1.out
        rw [spanCells_zero] at h
        rw [fill_zero, pondL_length]
        exact h
      case round =>
        obtain ⟨q, hq, rfl, Hown, hBr⟩ := hrel
        clear HO1 d3
        have hsz := hBr.size
        have BLr := Lib.hid (BL3.out.below hBr l3)
        have d0 := BLr.out.cell 0
        have d1 := BLr.out.cell 1
        have d2 := BLr.out.cell 2
        have d3 := BLr.out.cell 3
        simp only [List.getElem?_toArray, List.getElem?_cons_zero, List.getElem?_cons_succ] at d0 d1 d2 d3
        by_cases hlt : q < g.ss.length
        · have HBr := Lib.hid hBr
          obtain ⟨b, off, rfl, hb, c1, c2⟩ := ((HSp.out.below HB2.out).below (hBr.mono HB2.out.size)).at_ hlt
          obtain ⟨b', off', eA, hb', c3⟩ := (HBo.out.below hBr).at_ (k := q) (by rw [seaL_length]; exact hlt)
          injection eA with eA
          injection eA with e1 e2
          subst e1 e2
          have hss : q < (fill (pondL g sts ss) (0, 0) q).length := by rw [fill_length, pondL_length]; exact hlt
          have hpl : q < (pondL g sts ss).length := by rw [pondL_length]; exact hlt
          have Hpl := Lib.hid (pondL_get (g := g) (sts := sts) (ss := ss) hpl)
          have hse : (seaL g.ss.length sts)[q]'(by rw [seaL_length]; exact hlt) = decide (q ∈ sts) := by simp [seaL]
          rw [hse, Nat.zero_add] at c3
          have n1 : w1.heap.size < wr.heap.size := by omega
          have n2 : ¬ w1.heap.size = wr.heap.size := by omega
          have n3 : w.heap.size < wr.heap.size := by omega
          have n4 : ¬ w.heap.size = wr.heap.size := by omega
          have Hlo := Lib.hid (show (g.ss.getD q (0, 0)).1 = g.ss[q].1 by rw [List.getD_eq_getElem?_getD, List.getElem?_eq_getElem hlt]; rfl)
          have Hhi := Lib.hid (show (g.ss.getD q (0, 0)).2 = g.ss[q].2 by rw [List.getD_eq_getElem?_getD, List.getElem?_eq_getElem hlt]; rfl)
          have hok := List.all_eq_true.1 HV.out.ok g.ss[q] (List.getElem_mem hlt)
          unfold okSpan at hok
          have hok := of_decide_eq_true hok
          clear hse hBr
          generalize hp : g.ss[q] = p at *
          obtain ⟨slo, shi⟩ := p
          simp only at c1 c2 hok
          clear hp
          obtain ⟨ok1, ok2, ok3⟩ := hok
          by_cases hsea : q ∈ sts
          · have Hse := Lib.hid hsea
            have hd : decide (q ∈ sts) = true := by simpa using hsea
            rw [hd] at c3
            clear hd hsea
            go_wp2
            go_roundw
            case rel =>
              refine ⟨q + 1, by omega, by go_num, ?_, HBr.out.alloc (by omega) _⟩
              rw [fill_skip hpl (by rw [Hpl.out]; unfold pondAt; rw [if_pos Hse.out])]
              exact Hown.out.alloc _
            case measure => simp [intOf]; omega
          · have Hse := Lib.hid hsea
            have hd : decide (q ∈ sts) = false := by simpa using hsea
            rw [hd] at c3
            clear hd hsea
            go_wp2_with fail
            have hWB : Below w.heap.size w (wr.alloc (.cells #[.int .i64 slo, .int .i64 shi] 34)) := (HB2.out.trans (HBr.out.mono HB2.out.size)).alloc (by have := HB2.out.size; omega) _
            have hWB2 : Below w2.heap.size w2 (wr.alloc (.cells #[.int .i64 slo, .int .i64 shi] 34)) := HBr.out.alloc (by omega) _
            refine (rim_any _ _ g ss q _ (HG.out.later hWB (Nat.le_refl _)) (HV2.out.later hWB2 (Nat.le_refl _)) HV.out Hlen.out hlt).mono ?_
            rintro e w4 ⟨rfl, hb4⟩
            have Hb4 := Lib.hid hb4
            have hsz4 := hb4.size
            simp only [World.size_alloc] at hsz4
            have BG : Blk (wr.alloc (.cells #[.int .i64 slo, .int .i64 shi] 34)) wr.heap.size 34 #[.int .i64 slo, .int .i64 shi] := Blk.new' _ _ _ rfl
            have g0 := (BG.below hb4 (by simp)).cell 0
            have g1 := (BG.below hb4 (by simp)).cell 1
            simp only [List.getElem?_toArray, List.getElem?_cons_zero, List.getElem?_cons_succ] at g0 g1
            have hOw : (w4).ownsRow w2.heap.size 34 2 (.slice (some ⟨w2.heap.size, 0, none⟩) g.ss.length g.ss.length) g.ss.length (spanCells (fill (pondL g sts ss) (0, 0) q)) := own_far (Hown.out.alloc _) (fun k hk => hb4.block k (by have := (Hown.out.lt k hk).2; simp; omega))
            have c4 := own_spans_at hOw hss
            obtain ⟨c4, c5⟩ := c4
            have f4 := hOw.frozenAt (q * 2)
            have f5 := hOw.frozenAt (q * 2 + 1)
            have HOw := Lib.hid hOw
            have hB4 : Below w2.heap.size w2 w4 := hWB2.trans (hb4.mono hWB2.size)
            have HB4 := Lib.hid hB4
            have BL4 := (BL3.out.below hB4 l3)
            have e0 := BL4.cell 0
            have e1 := BL4.cell 1
            have e2 := BL4.cell 2
            have e3 := BL4.cell 3
            simp only [List.getElem?_toArray, List.getElem?_cons_zero, List.getElem?_cons_succ] at e0 e1 e2 e3
            have n5 : w2.heap.size < w4.heap.size := by omega
            have n6 : ¬ w2.heap.size = w4.heap.size := by omega
            have n7 : wr.heap.size < w4.heap.size := by omega
            have n8 : ¬ wr.heap.size = w4.heap.size := by omega
            have m1 := mnL_rng (fun s => s.1) ss (nearL g q) (fun c => (Hlow.out c).1)
            have m2 := mnL_rng (fun s => s.2) ss (nearL g q) (fun c => (Hlow.out c).2)
            have Hpo : Hid ((pondL g sts ss)[q] = (max 0 (mnL (fun s => s.1) ss (nearL g q) - shi), max 0 (mnL (fun s => s.2) ss (nearL g q) - slo))) := by
              rw [Hid, Hpl.out]
              unfold pondAt
              rw [if_neg Hse.out, Hlo.out, Hhi.out]
            clear BL4 hOw hB4 hb4 hWB hWB2 BG d0 d1 d2 d3
            generalize mnL (fun s => s.1) ss (nearL g q) = ma at *
            generalize mnL (fun s => s.2) ss (nearL g q) = mb at *
            obtain ⟨m1, m3⟩ := m1
            obtain ⟨m2, m4⟩ := m2
            go_wp2
            go_roundw
            case rel =>
              refine ⟨q + 1, by omega, by go_num, ?_, ((HB4.out.setCell (by simp) _).setCell (by simp) _).alloc (by simp [World.setCell]; omega) _⟩
              have h := own_spans_set HOw.out hss (if shi < ma then ma - shi else 0) (if slo < mb then mb - slo else 0)
              have e : ((if shi < ma then ma - shi else 0, if slo < mb then mb - slo else 0) : Int × Int) = (pondL g sts ss)[q] := by
                rw [Hpo.out]
                refine Prod.ext ?_ ?_
                · show (if shi < ma then ma - shi else 0) = max 0 (ma - shi)
                  split <;> omega
                · show (if slo < mb then mb - slo else 0) = max 0 (mb - slo)
                  split <;> omega
              rw [e, fill_set hpl] at h
              exact h.alloc _
            case measure => simp [intOf]; omega
        · have hq' : q = g.ss.length := by omega
          have HF : Hid (wr.ownsRow w2.heap.size 34 2 (.slice (some ⟨w2.heap.size, 0, none⟩) g.ss.length g.ss.length) g.ss.length (spanCells (pondL g sts ss))) := by
            have h := Hown.out
            rw [hq', ← pondL_length (g := g) (sts := sts) (ss := ss), fill_all] at h
            rw [pondL_length] at h
            exact h
          have HBr := Lib.hid hBr
          clear hq' Hown hBr
          go_wp2
          go_ret2
          refine ⟨_, _, ret_pair H0.out.symm, ?_, HB2.out.trans (HBr.out.mono HB2.out.size), .inr ⟨H0.out, sts, ss, Hel.out, HS2.out, rfl⟩⟩
          have h := Reads.of_own HF.out
          unfold SpansAt
          rw [pondL_length]
          exact h
end Go.Proofs.YthcenmocnphnmaaGreatDoor
/-
  Tightened grids: tightened and its closures.
-/
namespace Go.Proofs.YthcenmocnphnmaaGreatDoor
open Go.RowKit Go.Shelf

theorem loF_eq {ss : List (Int × Int)} {c : Nat} (h : c < ss.length) : loF ss c = ss[c].1 := by
  unfold loF
  rw [List.getD_eq_getElem?_getD, List.getElem?_eq_getElem h]
  rfl
theorem hiF_eq {ss : List (Int × Int)} {c : Nat} (h : c < ss.length) : hiF ss c = ss[c].2 := by
  unfold hiF
  rw [List.getD_eq_getElem?_getD, List.getElem?_eq_getElem h]
  rfl
theorem lowFirst_any (pg : Nat) (g : G) (A : Option Addr) (k : Nat) (c : Nat) (w : World)
    (hg : Blk w pg 24 #[.int .i64 g.W, .int .i64 g.H, .int .i64 g.S, .slice A g.ss.length k]) (hs : SpansAt w w.heap.size (.slice A g.ss.length k) g.ss) (hc : c < g.ss.length) :
    Calls Tryz.prog 88 #[.int .i64 c, .pointer (some ⟨pg, 0, none⟩)] w fun e w' => e = .returned (.int .i64 (loF g.ss c)) ∧ Below w.heap.size w w' := by
  obtain ⟨b, off, rfl, hb, c1, c2⟩ := hs.at_ hc
  obtain ⟨_, _, _, _, _, _, _⟩ := hs
  have hm : g.ss.length ≤ 9223372036854775807 := by assumption
  have c4 := hg.cell 3
  simp only [List.getElem?_toArray, List.getElem?_cons_zero, List.getElem?_cons_succ] at c4
  have He := Lib.hid (loF_eq hc)
  clear hg
  generalize g.ss[c] = q at *
  obtain ⟨lo, hi⟩ := q
  simp only at c1 c2
  have hc0 : (0 : Int) ≤ (c : Int) := by omega
  have hc1 : (c : Int) < g.ss.length := by omega
  go_enter Tryz.func88, Tryz.ntmps88
  go_wp2
  go_ret
  exact ⟨ret_int He.out.symm, (by repeat (first | exact Below.refl _ _ | assumption | refine Below.drew ?_ | refine Below.drewN' ?_ _ | (refine Below.alloc ?_ (by simp <;> omega) _) | (refine Below.setCell ?_ (by simp <;> omega) _)))⟩
theorem highFirst_any (pg : Nat) (g : G) (A : Option Addr) (k : Nat) (c : Nat) (w : World)
    (hg : Blk w pg 24 #[.int .i64 g.W, .int .i64 g.H, .int .i64 g.S, .slice A g.ss.length k]) (hs : SpansAt w w.heap.size (.slice A g.ss.length k) g.ss) (hc : c < g.ss.length) :
    Calls Tryz.prog 91 #[.int .i64 c, .pointer (some ⟨pg, 0, none⟩)] w fun e w' => e = .returned (.int .i64 (hiF g.ss c)) ∧ Below w.heap.size w w' := by
  obtain ⟨b, off, rfl, hb, c1, c2⟩ := hs.at_ hc
  obtain ⟨_, _, _, _, _, _, _⟩ := hs
  have hm : g.ss.length ≤ 9223372036854775807 := by assumption
  have c4 := hg.cell 3
  simp only [List.getElem?_toArray, List.getElem?_cons_zero, List.getElem?_cons_succ] at c4
  have He := Lib.hid (hiF_eq hc)
  clear hg
  generalize g.ss[c] = q at *
  obtain ⟨lo, hi⟩ := q
  simp only at c1 c2
  have hc0 : (0 : Int) ≤ (c : Int) := by omega
  have hc1 : (c : Int) < g.ss.length := by omega
  go_enter Tryz.func91, Tryz.ntmps91
  go_wp2
  go_ret
  exact ⟨ret_int He.out.symm, (by repeat (first | exact Below.refl _ _ | assumption | refine Below.drew ?_ | refine Below.drewN' ?_ _ | (refine Below.alloc ?_ (by simp <;> omega) _) | (refine Below.setCell ?_ (by simp <;> omega) _)))⟩
theorem lowNext_any (ps : Nat) (step v c : Int) (w : World) (hp : Blk w ps 3 #[.int .i64 step]) (h1 : 0 ≤ step) (h2 : step ≤ 2400000) (h3 : -1200000 ≤ v) (h4 : v ≤ 1200000) :
    Calls Tryz.prog 89 #[.int .i64 v, .int .i64 c, .pointer (some ⟨ps, 0, none⟩)] w fun e w' => e = .returned (.int .i64 (v - step)) ∧ Below w.heap.size w w' := by
  have c4 := hp.cell 0
  simp only [List.getElem?_toArray, List.getElem?_cons_zero] at c4
  clear hp
  go_enter Tryz.func89, Tryz.ntmps89
  go_wp2
  go_ret
  exact ⟨rfl, (by repeat (first | exact Below.refl _ _ | assumption | refine Below.drew ?_ | refine Below.drewN' ?_ _ | (refine Below.alloc ?_ (by simp <;> omega) _) | (refine Below.setCell ?_ (by simp <;> omega) _)))⟩
theorem highNext_any (ps : Nat) (step v c : Int) (w : World) (hp : Blk w ps 3 #[.int .i64 step]) (h1 : 0 ≤ step) (h2 : step ≤ 2400000) (h3 : -1200000 ≤ v) (h4 : v ≤ 1200000) :
    Calls Tryz.prog 92 #[.int .i64 v, .int .i64 c, .pointer (some ⟨ps, 0, none⟩)] w fun e w' => e = .returned (.int .i64 (v + step)) ∧ Below w.heap.size w w' := by
  have c4 := hp.cell 0
  simp only [List.getElem?_toArray, List.getElem?_cons_zero] at c4
  clear hp
  go_enter Tryz.func92, Tryz.ntmps92
  go_wp2
  go_ret
  exact ⟨rfl, (by repeat (first | exact Below.refl _ _ | assumption | refine Below.drew ?_ | refine Below.drewN' ?_ _ | (refine Below.alloc ?_ (by simp <;> omega) _) | (refine Below.setCell ?_ (by simp <;> omega) _)))⟩

def mD (v : Int) : Nat := (1200000 - v).toNat
theorem odrD : Odr ltDown AccH mD 2400000 := by
  refine ⟨fun a b c h k => ?_, fun a => ?_, fun a b ha hb h => ?_, fun a ha => ?_⟩
  · unfold ltDown at *; simp at *; omega
  · unfold ltDown; simp
  · unfold ltDown at h; unfold AccH at ha hb; unfold mD; simp at h; omega
  · unfold AccH at ha; unfold mD; omega

/-- the numbers of all cells -/
def cellsL (N : Nat) : List Int := (List.range N).map fun (c : Nat) => (c : Int)
theorem cellsL_length (N : Nat) : (cellsL N).length = N := by simp [cellsL]
theorem cellsL_get {N k : Nat} (h : k < (cellsL N).length) : (cellsL N)[k] = (k : Int) := by simp [cellsL]
theorem madeCells_ints (n : Nat) : (madeCells #[.int .i64 0] n).toList = (List.replicate n (0 : Int)).map (Value.int .i64) := by rw [toList_madeCells_one, List.map_replicate]
section
variable {w : World} {base e g cap : Nat}
theorem own_ints_at {l : List Int} {n : Nat} (h : w.ownsRow base e 1 (.slice (some ⟨g, 0, none⟩) n cap) n (l.map (Value.int .i64))) {k : Nat} (hk : k < l.length) : w.cell? ⟨g, k, none⟩ = some (.int .i64 l[k]) := by
  have hn := h.1
  rw [List.length_map] at hn
  refine (h.cellAt _ (by omega)).trans ?_
  simp [hk]
theorem own_ints_set {l : List Int} {n : Nat} (h : w.ownsRow base e 1 (.slice (some ⟨g, 0, none⟩) n cap) n (l.map (Value.int .i64))) (k : Nat) (b : Int) :
    (w.setCell ⟨g, k, none⟩ (.int .i64 b)).ownsRow base e 1 (.slice (some ⟨g, 0, none⟩) n cap) n ((l.set k b).map (Value.int .i64)) := by
  rw [List.map_set]
  exact (h.stored k (.int .i64 b)).1
end

set_option maxRecDepth 100000 in
set_option maxHeartbeats 2000000 in
theorem tightened_any (x : Value) (g : G) (step : Int) (w : World) (hg : GridAt w w.heap.size x g) (V : Valid g) (h1 : 0 ≤ step) (h2 : step ≤ 2400000) :
    Calls Tryz.prog 70 #[x, .int .i64 step] w fun e w' => ∃ v tt, e = .returned v ∧ SpansAt w' w'.heap.size v tt ∧ Below w.heap.size w w' ∧ Tightened g step tt ∧ Fresh w.heap.size v := by
  have HG := Lib.hid hg
  obtain ⟨v, rfl, hs⟩ := hg
  obtain ⟨A, k, rfl, hk, hm⟩ := hs.open_
  have HS := Lib.hid hs
  have HV := Lib.hid V
  have hsm := V.small
  obtain ⟨i0, hi0, hz0, hz1, hz2⟩ := info_parts int_info
  have hmk := fun W => run_make_rowN (P := Tryz.prog) 26 3 i0 _ Tryz.underlying26 hi0 hz0 .i64 .i64 g.ss.length g.ss.length (Nat.le_refl _) (by rw [hz2]; omega) (by omega) W
  rw [hz1] at hmk
  simp only [Value.cells] at hmk
  clear hs V hi0 hz0 hz1 hz2
  have hB0 : Below w.heap.size w ((w.alloc (.cells #[.int .i64 g.W, .int .i64 g.H, .int .i64 g.S, .slice A g.ss.length k] 24)).alloc (.cells #[.int .i64 step] 3)) := (by repeat (first | exact Below.refl _ _ | assumption | refine Below.drew ?_ | refine Below.drewN' ?_ _ | (refine Below.alloc ?_ (by simp <;> omega) _) | (refine Below.setCell ?_ (by simp <;> omega) _)))
  have HB0 := Lib.hid hB0
  have b0 : Blk ((w.alloc (.cells #[.int .i64 g.W, .int .i64 g.H, .int .i64 g.S, .slice A g.ss.length k] 24)).alloc (.cells #[.int .i64 step] 3)) w.heap.size 24 #[.int .i64 g.W, .int .i64 g.H, .int .i64 g.S, .slice A g.ss.length k] := Blk.alloc (Blk.new' _ _ _ rfl) _
  have b1 : Blk ((w.alloc (.cells #[.int .i64 g.W, .int .i64 g.H, .int .i64 g.S, .slice A g.ss.length k] 24)).alloc (.cells #[.int .i64 step] 3)) (w.heap.size + 1) 3 #[.int .i64 step] := Blk.new' _ _ _ (by simp)
  have HB := Lib.hid (And.intro b0 b1)
  have HO0 := Lib.hid (own_made ((w.alloc (.cells #[.int .i64 g.W, .int .i64 g.H, .int .i64 g.S, .slice A g.ss.length k] 24)).alloc (.cells #[.int .i64 step] 3)) 3 #[.int .i64 0] g.ss.length 1 (w.heap.size + 1 + 1) (by simp) (by omega))
  clear b0 b1 hB0
  go_enter Tryz.func70, Tryz.ntmps70
  go_wp2
  go_loopw [15] (fun i wr => ∃ q : Nat, q ≤ g.ss.length ∧ i = .int .i64 q ∧ Hid (wr.ownsRow (w.heap.size + 1 + 1) 3 1 (.slice (some ⟨w.heap.size + 1 + 1, 0, none⟩) g.ss.length g.ss.length) g.ss.length ((fill (cellsL g.ss.length) 0 q).map (Value.int .i64))) ∧ Below (w.heap.size + 1 + 1) ((w.alloc (.cells #[.int .i64 g.W, .int .i64 g.H, .int .i64 g.S, .slice A g.ss.length k] 24)).alloc (.cells #[.int .i64 step] 3)) wr) (fun i _ => g.ss.length - (intOf i).toNat)
  case atStart =>
    refine ⟨0, Nat.zero_le _, rfl, ?_, (by repeat (first | exact Below.refl _ _ | assumption | refine Below.drew ?_ | refine Below.drewN' ?_ _ | (refine Below.alloc ?_ (by simp <;> omega) _) | (refine Below.setCell ?_ (by simp <;> omega) _)))⟩
    have h := HO0.out
    rw [Nat.mul_one, madeCells_ints] at h
    rw [fill_zero, cellsL_length]
    simpa [Hid] using h
  case round =>
    obtain ⟨q, hq, rfl, Hown, hBr⟩ := hrel
    clear HO0 hmk
    by_cases hlt : q < g.ss.length
    · have hss : q < (fill (cellsL g.ss.length) 0 q).length := by rw [fill_length, cellsL_length]; exact hlt
      have c3 := own_ints_at Hown.out hss
      have f3 := Hown.out.frozenAt q
      have HBr := Lib.hid hBr
      clear hBr
      go_wp2
      go_roundw
      case rel =>
        refine ⟨q + 1, by omega, by go_num, ?_, HBr.out.setCell (by simp) _⟩
        have h := own_ints_set Hown.out q (q : Int)
        have e : (fill (cellsL g.ss.length) 0 q).set q (q : Int) = fill (cellsL g.ss.length) 0 (q + 1) := by
          have hl : q < (cellsL g.ss.length).length := by rw [cellsL_length]; exact hlt
          rw [← fill_set hl, cellsL_get hl]
        rw [e] at h
        exact h
      case measure => simp [intOf]; omega
    · have hq' : q = g.ss.length := by omega
      have HF : Hid (IntsAt wr wr.heap.size (.slice (some ⟨w.heap.size + 1 + 1, 0, none⟩) g.ss.length g.ss.length) (cellsL g.ss.length)) := by
        have h := Hown.out
        have e : fill (cellsL g.ss.length) 0 q = cellsL g.ss.length := by
          have := fill_all (l := cellsL g.ss.length) (z := 0)
          rw [cellsL_length] at this
          rw [hq']
          exact this
        rw [e] at h
        have h2 := Reads.of_own h
        unfold Hid IntsAt
        rw [cellsL_length]
        exact h2
      have b0 := HB.out.1.below hBr (by omega)
      have b1 := HB.out.2.below hBr (by omega)
      have HBr := Lib.hid (HB0.out.trans (hBr.mono (by omega)))
      have d0 := b0.cell 0
      have d1 := b0.cell 1
      have d2 := b0.cell 2
      have d3 := b0.cell 3
      simp only [List.getElem?_toArray, List.getElem?_cons_zero, List.getElem?_cons_succ] at d0 d1 d2 d3
      have HBB := Lib.hid (And.intro b0 b1)
      clear Hown hBr b0 b1 hq'
      go_wp2_with fail
      refine (best_low _ _ g (List.range g.ss.length) (loF g.ss) (fun v _ => v - step) AccH mD 2400000 w.heap.size (w.heap.size + 1) _ (HG.out.later HBr.out (Nat.le_refl _)) HF.out HV.out (fun c hc => List.mem_range.1 hc) odrD (Nat.le_refl _) ?_ ?_ (.inl fun c hc => List.mem_range.2 hc) ?_ ?_).mono ?_
      · intro c hc
        have := ok_of HV.out hc
        unfold AccH
        omega
      · intro v u d hv hu hd hl
        unfold AccH ltDown at *
        have := of_decide_eq_true hl
        omega
      · intro W' c hc hb
        exact lowFirst_any _ g A k c W' (HBB.out.1.below hb HBB.out.1.lt) (((HS.out.below HBr.out).more HBr.out.size |>.below hb).more hb.size) hc
      · intro W' v c hv hc hb
        exact lowNext_any _ step v c W' (HBB.out.2.below hb HBB.out.2.lt) h1 h2 hv.1 hv.2
      rintro e w1 ⟨v1, lo, rfl, hv1, hb1, hl1⟩
      have HV1 := Lib.hid hv1
      have HL1 : Hid (LowB g step lo) := hl1
      have HB1 := Lib.hid (HBr.out.trans (hb1.mono HBr.out.size))
      have HF1 := Lib.hid (HF.out.later hb1 (Nat.le_refl _))
      have b0 := HBB.out.1.below hb1 HBB.out.1.lt
      have b1 := HBB.out.2.below hb1 HBB.out.2.lt
      have d0 := b0.cell 0
      have d1 := b0.cell 1
      have d2 := b0.cell 2
      have d3 := b0.cell 3
      simp only [List.getElem?_toArray, List.getElem?_cons_zero, List.getElem?_cons_succ] at d0 d1 d2 d3
      have HB2 := Lib.hid (And.intro b0 b1)
      clear hv1 hb1 hl1 b0 b1
      go_wp2_with fail
      refine (best_high _ _ g (List.range g.ss.length) (hiF g.ss) (fun v _ => v + step) AccH mH 2400000 w.heap.size (w.heap.size + 1) _ (HG.out.later HB1.out (Nat.le_refl _)) HF1.out HV.out (fun c hc => List.mem_range.1 hc) odrH (Nat.le_refl _) ?_ ?_ (.inl fun c hc => List.mem_range.2 hc) ?_ ?_).mono ?_
      · intro c hc
        have := ok_of HV.out hc
        unfold AccH
        omega
      · intro v u d hv hu hd hl
        unfold AccH ltUp at *
        have := of_decide_eq_true hl
        omega
      · intro W' c hc hb
        exact highFirst_any _ g A k c W' (HB2.out.1.below hb HB2.out.1.lt) (((HS.out.below HB1.out).more HB1.out.size |>.below hb).more hb.size) hc
      · intro W' v c hv hc hb
        exact highNext_any _ step v c W' (HB2.out.2.below hb HB2.out.2.lt) h1 h2 hv.1 hv.2
      rintro e w2 ⟨v2, hi, rfl, hv2, hb2, hl2⟩
      have HV2 := Lib.hid hv2
      have HL2 : Hid (HighB g step hi) := hl2
      have HV1' := Lib.hid (HV1.out.later hb2 (Nat.le_refl _))
      have HBn := Lib.hid (HB1.out.trans (hb2.mono HB1.out.size))
      have l1 : Hid (lo.length = g.ss.length) := HL1.out.len
      have l2 : Hid (hi.length = g.ss.length) := HL2.out.len
      clear hv2 hb2 hl2
      go_wp2_with fail
      refine (join_new _ _ lo hi _ HV1'.out HV2.out (l1.out.trans l2.out.symm) (by rw [l1.out]; omega)).mono ?_
      rintro e w3 ⟨v3, rfl, hv3, hb3, hfr3⟩
      have HFr := Lib.hid (hfr3.mono HBn.out.size)
      clear hfr3
      have HV3 := Lib.hid hv3
      clear hv3
      go_wp2
      go_ret
      exact ⟨v3, _, rfl, HV3.out, HBn.out.trans (hb3.mono HBn.out.size), ⟨lo, hi, HL1.out, HL2.out, rfl⟩, HFr.out⟩
end Go.Proofs.YthcenmocnphnmaaGreatDoor
/-
  Tighten.
-/
namespace Go.Proofs.YthcenmocnphnmaaGreatDoor
open Go.RowKit Go.Shelf

def emptyB (s : Int × Int) : Bool := decide (s.2 < s.1)
def zeroG : G := ⟨0, 0, 0, []⟩
def FoundAt (ss : List (Int × Int)) (w : World) (e : Ending) (w' : World) : Prop := ∃ i : Int, e = .returned (.int .i64 i) ∧ -1 ≤ i ∧ i ≤ 9223372036854775807 ∧ decide (0 ≤ i) = ss.any emptyB ∧ Below w.heap.size w w'
theorem any_false_snoc {α : Type} (p : α → Bool) (l : List α) (k : Nat) (h : k < l.length) (ht : (l.take k).any p = false) (hp : p l[k] = false) : (l.take (k + 1)).any p = false := by
  rw [take_snoc l k h, List.any_append, ht]
  simp [hp]
theorem any_true_at {α : Type} (p : α → Bool) (l : List α) (k : Nat) (h : k < l.length) (hp : p l[k] = true) : l.any p = true :=
  List.any_eq_true.2 ⟨_, List.getElem_mem h, hp⟩

theorem isEmpty_of {lo hi : Int} (b : Bool) (hb : emptyB (lo, hi) = b) (w : World) :
    Calls Tryz.prog 66 #[.agg #[.int .i64 lo, .int .i64 hi]] w fun e w' => e = .returned (.bool b) ∧ Below w.heap.size w w' := by
  subst hb
  exact isEmpty_any lo hi w

set_option maxHeartbeats 1000000 in
theorem indexFunc_any (y : Value) (ss : List (Int × Int)) (w : World) (hs : SpansAt w w.heap.size y ss) :
    Calls Tryz.prog 94 #[y, .func (.func 66) #[] #[]] w (FoundAt ss w) := by
  have HS := Lib.hid hs
  obtain ⟨A, k, rfl, hk, hm⟩ := hs.open_
  clear hs
  go_enter Tryz.func94, Tryz.ntmps94
  go_wp2
  go_loopw [8] (fun i wr => ∃ q : Nat, q ≤ ss.length ∧ i = .int .i64 q ∧ Hid ((ss.take q).any emptyB = false) ∧ Below w.heap.size w wr) (fun i _ => ss.length - (intOf i).toNat)
  case atStart => exact ⟨0, Nat.zero_le _, rfl, by simp [Hid], Below.refl _ _⟩
  case round =>
    obtain ⟨q, hq, rfl, Hany, hBr⟩ := hrel
    have HBr := Lib.hid hBr
    by_cases hlt : q < ss.length
    · obtain ⟨b, off, rfl, hb, c1, c2⟩ := (HS.out.below hBr).at_ hlt
      have Hsn := Lib.hid (any_false_snoc emptyB ss q hlt Hany.out)
      have Hat := Lib.hid (any_true_at emptyB ss q hlt)
      clear hBr
      generalize hp : ss[q] = p at *
      obtain ⟨lo, hi⟩ := p
      simp only at c1 c2
      clear hp
      by_cases he : emptyB (lo, hi) = true
      · have Ha : Hid (ss.any emptyB = true) := Hat.out he
        have He := Lib.hid he
        clear he Hat Hsn
        go_wp2_with (go_at_call 66; refine (isEmpty_of true He.out _).mono ?_; rintro e w2 ⟨rfl, hb2⟩)
        go_ret
        exact ⟨(q : Int), rfl, by omega, by omega, by rw [Ha.out]; simp, HBr.out.trans (hb2.mono HBr.out.size)⟩
      · have he' := hid_not he
        have Hn := Lib.hid (Hsn.out he'.out)
        clear he Hat Hsn
        go_wp2_with (go_at_call 66; refine (isEmpty_of false he'.out _).mono ?_; rintro e w2 ⟨rfl, hb2⟩)
        go_roundw
        case rel => exact ⟨q + 1, by omega, by go_num, Hn.out, HBr.out.trans (hb2.mono HBr.out.size)⟩
        case measure => simp [intOf]; omega
    · have Ha : Hid (ss.any emptyB = false) := by
        have h := Hany.out
        rw [List.take_of_length_le (by omega)] at h
        exact h
      clear hBr
      go_wp2
      go_ret
      exact ⟨-1, rfl, by omega, by omega, by rw [Ha.out]; decide, HBr.out⟩

theorem containsFunc_any (y : Value) (ss : List (Int × Int)) (w : World) (hs : SpansAt w w.heap.size y ss) :
    Calls Tryz.prog 71 #[y, .func (.func 66) #[] #[]] w fun e w' => e = .returned (.bool (ss.any emptyB)) ∧ Below w.heap.size w w' := by
  have HC := Lib.hid (indexFunc_any y ss w hs)
  clear hs
  go_enter Tryz.func71, Tryz.ntmps71
  go_wp2_with (go_at_call 94; refine HC.out.mono ?_; rintro e w1 ⟨i, rfl, h1, h2, h3, h4⟩; have H3 := Lib.hid h3; clear h3)
  go_ret
  exact ⟨ret_bool H3.out, h4⟩
theorem containsFunc_of (y : Value) (ss : List (Int × Int)) (b : Bool) (hb : ss.any emptyB = b) (w : World) (hs : SpansAt w w.heap.size y ss) :
    Calls Tryz.prog 71 #[y, .func (.func 66) #[] #[]] w fun e w' => e = .returned (.bool b) ∧ Below w.heap.size w w' := by
  subst hb
  exact containsFunc_any y ss w hs

/-- what Tighten gives -/
def tightR (g : G) (step : Int) (tt : List (Int × Int)) : Int × G := if checkE g = 0 then (if 0 ≤ step ∧ step ≤ 2400000 then (if tt.any emptyB then (14, zeroG) else (0, ⟨g.W, g.H, g.S, tt⟩)) else (3, zeroG)) else (checkE g, zeroG)
def TightOut (g : G) (step : Int) (w : World) (e : Ending) (w' : World) : Prop := ∃ x r, e = .returned (.tuple #[x, .int .i64 r.1]) ∧ GridAt w' w'.heap.size x r.2 ∧ Below w.heap.size w w' ∧ ∃ tt, (checkE g = 0 → 0 ≤ step ∧ step ≤ 2400000 → Tightened g step tt) ∧ r = tightR g step tt
theorem grid_zero (w : World) (B : Nat) : GridAt w B (.agg #[.int .i64 0, .int .i64 0, .int .i64 0, .slice none 0 0]) zeroG := ⟨_, rfl, spans_nil _ _⟩

theorem cell_set_far {w : World} {p q : Addr} {v : Value} (h : ¬ p.block = q.block) : (w.setCell q v).cell? p = w.cell? p :=
  World.cell?_of_block (Below.heap_setCell w q v p.block h)
set_option maxHeartbeats 1000000 in
theorem Tighten_any (x : Value) (g : G) (step : Int) (w : World) (hg : GridAt w w.heap.size x g) :
    Calls Tryz.prog 33 #[x, .int .i64 step] w (TightOut g step w) := by
  have HG := Lib.hid hg
  obtain ⟨v, rfl, hs⟩ := hg
  obtain ⟨A, k, rfl, hk, hm⟩ := hs.open_
  have hB : Below w.heap.size w ((w.alloc (.cells #[.int .i64 g.W, .int .i64 g.H, .int .i64 g.S, .slice A g.ss.length k] 24)).alloc (.cells #[.int .i64 0, .int .i64 0, .int .i64 0, .slice none 0 0] 24)) := (by repeat (first | exact Below.refl _ _ | assumption | refine Below.drew ?_ | refine Below.drewN' ?_ _ | (refine Below.alloc ?_ (by simp <;> omega) _) | (refine Below.setCell ?_ (by simp <;> omega) _)))
  have HB := Lib.hid hB
  have b0 : Blk ((w.alloc (.cells #[.int .i64 g.W, .int .i64 g.H, .int .i64 g.S, .slice A g.ss.length k] 24)).alloc (.cells #[.int .i64 0, .int .i64 0, .int .i64 0, .slice none 0 0] 24)) w.heap.size 24 #[.int .i64 g.W, .int .i64 g.H, .int .i64 g.S, .slice A g.ss.length k] := Blk.alloc (Blk.new' _ _ _ rfl) _
  have b1 : Blk ((w.alloc (.cells #[.int .i64 g.W, .int .i64 g.H, .int .i64 g.S, .slice A g.ss.length k] 24)).alloc (.cells #[.int .i64 0, .int .i64 0, .int .i64 0, .slice none 0 0] 24)) (w.heap.size + 1) 24 #[.int .i64 0, .int .i64 0, .int .i64 0, .slice none 0 0] := Blk.new' _ _ _ (by simp)
  have HBB := Lib.hid (And.intro b0 b1)
  clear hs hB b0 b1
  go_enter Tryz.func33, Tryz.ntmps33
  go_wp2_with fail
  refine (check_any _ g _ (HG.out.later HB.out (Nat.le_refl _))).mono ?_
  rintro e w1 ⟨rfl, hb1⟩
  have HB1 := Lib.hid (HB.out.trans (hb1.mono HB.out.size))
  have b0 := HBB.out.1.below hb1 (by simp; omega)
  have b1 := HBB.out.2.below hb1 (by simp)
  have hn : w.heap.size + 1 + 1 ≤ w1.heap.size := by have := hb1.size; simpa using this
  have HBB1 := Lib.hid (And.intro b0 b1)
  have d0 := b0.cell 0
  have d1 := b0.cell 1
  have d2 := b0.cell 2
  have d3 := b0.cell 3
  have z0 := b1.cell 0
  have z1 := b1.cell 1
  have z2 := b1.cell 2
  have z3 := b1.cell 3
  have f0 := b1.frozen 0
  have f1 := b1.frozen 1
  have f2 := b1.frozen 2
  have f3 := b1.frozen 3
  simp only [List.getElem?_toArray, List.getElem?_cons_zero, List.getElem?_cons_succ] at d0 d1 d2 d3 z0 z1 z2 z3
  clear b0 b1 hb1
  by_cases h0 : checkE g = 0
  case neg =>
    have He : Hid (∀ tt, (checkE g, zeroG) = tightR g step tt) := by intro tt; unfold tightR; rw [if_neg h0]
    have H0 := Lib.hid h0
    have hb : (checkE g != 0) = true := by simpa using h0
    clear h0
    go_wp2
    refine bodyPost_ret (v := .tuple #[.agg #[.int .i64 0, .int .i64 0, .int .i64 0, .slice none 0 0], .int .i64 (checkE g)]) (by simp [results, Tryz.results33, go_sem, z0, z1, z2, z3, f0, f1, f2, f3]) rfl ?_
    exact ⟨_, (checkE g, zeroG), rfl, grid_zero _ _, HB1.out.trans (by repeat (first | exact Below.refl _ _ | assumption | refine Below.drew ?_ | refine Below.drewN' ?_ _ | (refine Below.alloc ?_ (by simp <;> omega) _) | (refine Below.setCell ?_ (by simp <;> omega) _))), [], fun h => absurd h H0.out, He.out []⟩
  have hb : (checkE g != 0) = false := by simpa using h0
  by_cases hst : 0 ≤ step ∧ step ≤ 2400000
  case neg =>
    have He : Hid (∀ tt, (3, zeroG) = tightR g step tt) := by intro tt; unfold tightR; rw [if_pos h0, if_neg hst]
    have Hst := Lib.hid hst
    have hst' : step < 0 ∨ 2400000 < step := by omega
    clear h0 hst
    go_wp2_with (go_at_call 55; refine (within_no _ _ _ _ hst').mono ?_; rintro e w2 ⟨rfl, rfl⟩)
    refine bodyPost_ret (v := .tuple #[.agg #[.int .i64 0, .int .i64 0, .int .i64 0, .slice none 0 0], .int .i64 3]) (by simp [results, Tryz.results33, go_sem, z0, z1, z2, z3, f0, f1, f2, f3]) rfl ?_
    exact ⟨_, (3, zeroG), rfl, grid_zero _ _, HB1.out.trans (by repeat (first | exact Below.refl _ _ | assumption | refine Below.drew ?_ | refine Below.drewN' ?_ _ | (refine Below.alloc ?_ (by simp <;> omega) _) | (refine Below.setCell ?_ (by simp <;> omega) _))), [], fun _ h => absurd h Hst.out, He.out []⟩
  have HV := Lib.hid (valid_of h0)
  have H0 := Lib.hid h0
  obtain ⟨hs1, hs2⟩ := hst
  clear h0
  go_wp2_with (go_at_call 55; refine (within_yes _ _ _ _ hs1 hs2).mono ?_; rintro e w2 ⟨rfl, rfl⟩)
  refine (tightened_any _ g step _ (HG.out.later HB1.out (Nat.le_refl _)) HV.out hs1 hs2).mono ?_
  rintro e w2 ⟨v2, tt, rfl, hv2, hb2, ht2, hf2⟩
  have HFr := Lib.hid hf2
  clear hf2
  have HV2 := Lib.hid hv2
  have HT2 := Lib.hid ht2
  have HB2 := Lib.hid (HB1.out.trans (hb2.mono HB1.out.size))
  have b0 := HBB1.out.1.below hb2 (by omega)
  have b1 := HBB1.out.2.below hb2 (by omega)
  have hn2 : w.heap.size + 1 + 1 ≤ w2.heap.size := by have := hb2.size; omega
  have HBB2 := Lib.hid (And.intro b0 b1)
  obtain ⟨A2, k2, rfl, hk2, hm2⟩ := hv2.open_
  clear b0 b1 hv2 ht2 hb2 d0 d1 d2 d3 z0 z1 z2 z3 f0 f1 f2 f3
  have fin : ∀ W, Below w2.heap.size w2 W → Blk W w.heap.size 24 #[.int .i64 g.W, .int .i64 g.H, .int .i64 g.S, .slice A g.ss.length k] ∧ Blk W (w.heap.size + 1) 24 #[.int .i64 0, .int .i64 0, .int .i64 0, .slice none 0 0] := fun W h => ⟨HBB2.out.1.below h (by omega), HBB2.out.2.below h (by omega)⟩
  have Fin := Lib.hid fin
  clear fin
  by_cases hany : tt.any emptyB = true
  · have He : Hid ((14, zeroG) = tightR g step tt) := by unfold tightR; rw [Hid, if_pos H0.out, if_pos ⟨hs1, hs2⟩, hany]; rfl
    have Hany := Lib.hid hany
    clear hany
    go_wp2_with (go_at_call 71; refine (containsFunc_of _ tt true Hany.out _ HV2.out).mono ?_; rintro e w3 ⟨rfl, hb3⟩; have hz := (Fin.out _ hb3).2; have z0 := hz.cell 0; have z1 := hz.cell 1; have z2 := hz.cell 2; have z3 := hz.cell 3; have f0 := hz.frozen 0; have f1 := hz.frozen 1; have f2 := hz.frozen 2; have f3 := hz.frozen 3; simp only [List.getElem?_toArray, List.getElem?_cons_zero, List.getElem?_cons_succ] at z0 z1 z2 z3; have HB3 := Lib.hid (HB2.out.trans (hb3.mono HB2.out.size)); clear hz hb3)
    refine bodyPost_ret (v := .tuple #[.agg #[.int .i64 0, .int .i64 0, .int .i64 0, .slice none 0 0], .int .i64 14]) (by simp [results, Tryz.results33, go_sem, z0, z1, z2, z3, f0, f1, f2, f3]) rfl ?_
    exact ⟨_, (14, zeroG), rfl, grid_zero _ _, HB3.out.trans (by repeat (first | exact Below.refl _ _ | assumption | refine Below.drew ?_ | refine Below.drewN' ?_ _ | (refine Below.alloc ?_ (by simp <;> omega) _) | (refine Below.setCell ?_ (by simp <;> omega) _))), tt, fun _ _ => HT2.out, He.out⟩
  · have hany' := hid_not hany
    have He : Hid ((0, ⟨g.W, g.H, g.S, tt⟩) = tightR g step tt) := by unfold tightR; rw [Hid, if_pos H0.out, if_pos ⟨hs1, hs2⟩, hany'.out]; rfl
    clear hany
    go_wp2_with (first
      | (go_at_call 71; refine (containsFunc_of _ tt false hany'.out _ HV2.out).mono ?_; rintro e w3 ⟨rfl, hb3⟩; have hz := (Fin.out _ hb3).1; have d0 := hz.cell 0; have d1 := hz.cell 1; have d2 := hz.cell 2; have d3 := hz.cell 3; simp only [List.getElem?_toArray, List.getElem?_cons_zero, List.getElem?_cons_succ] at d0 d1 d2 d3; have HB3 := Lib.hid (HB2.out.trans (hb3.mono HB2.out.size)); have Hb3 := Lib.hid hb3; clear hz hb3)
      | (go_at_call 67; refine (withGround_any _ _ _ _ _ _ _ _).mono ?_; rintro e w4 ⟨rfl, hb4⟩; have Hb4 := Lib.hid (Hb3.out.trans (hb4.mono Hb3.out.size)); have hz := (Fin.out _ Hb4.out).2; have z0 := hz.cell 0; have z1 := hz.cell 1; have z2 := hz.cell 2; have z3 := hz.cell 3; have f0 := hz.frozen 0; have f1 := hz.frozen 1; have f2 := hz.frozen 2; have f3 := hz.frozen 3; simp only [List.getElem?_toArray, List.getElem?_cons_zero, List.getElem?_cons_succ] at z0 z1 z2 z3; have HB4 := Lib.hid (HB2.out.trans (Hb4.out.mono HB2.out.size)); clear hz hb4))
    refine bodyPost_ret (v := .tuple #[.agg #[.int .i64 g.W, .int .i64 g.H, .int .i64 g.S, .slice A2 tt.length k2], .int .i64 0]) (by simp [results, Tryz.results33, go_sem, z0, z1, z2, z3, f0, f1, f2, f3]) rfl ?_
    have hS : SpansAt w4 w4.heap.size (.slice A2 tt.length k2) tt := HV2.out.later Hb4.out (Nat.le_refl _)
    have hne : ∀ p : Addr, w1.heap.size ≤ p.block → ¬ p.block = w.heap.size + 1 := fun p hp => by omega
    exact ⟨_, (0, ⟨g.W, g.H, g.S, tt⟩), rfl, ⟨_, rfl, (hS.fresh HFr.out (fun p hp _ => by rw [cell_set_far (hne p hp), cell_set_far (hne p hp), cell_set_far (hne p hp), cell_set_far (hne p hp)])).more (by simp [World.setCell])⟩, HB4.out.trans (by repeat (first | exact Below.refl _ _ | assumption | refine Below.drew ?_ | refine Below.drewN' ?_ _ | (refine Below.alloc ?_ (by simp <;> omega) _) | (refine Below.setCell ?_ (by simp <;> omega) _))), tt, fun _ _ => HT2.out, He.out⟩
end Go.Proofs.YthcenmocnphnmaaGreatDoor
