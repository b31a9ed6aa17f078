/-
  Layer 2, the program: Join, and what it calls of the library.
-/
import Derived.Test.YtfblpokjbopagaaML
import Derived.Lib.AppendZeros
import Derived.Laws.OwnMore
set_option linter.unusedSimpArgs false
set_option linter.unusedVariables false
namespace Go.Proofs.Ytfblpokjbopagaa
open Go.RowKit

theorem part_info : (Try.prog.info? 70).map (fun i => (i.zero, i.size, i.bytes)) = some (some (.agg #[.int .i64 0, .int .i64 0, .int .i64 0]), 3, 24) := by kernel_rfl
/-- a slice that is nil, or lies somewhere -/
def Sound (v : Value) : Prop := v = .slice none 0 0 ∨ ∃ ad n c, v = .slice (some ad) n c
theorem sound_own {w : World} {base e size n : Nat} {v : Value} {xs : List Value} (h : w.ownsRow base e size v n xs) : Sound v := by
  rcases h.2 with ⟨rfl, _⟩ | ⟨g, cap, cur, rfl, _⟩
  · exact Or.inl rfl
  · exact Or.inr ⟨_, _, _, rfl⟩
theorem prts_own {w : World} {base e : Nat} {v : Value} {l : List Prt} {n : Nat} (hn : n = l.length) (h : w.ownsRow base e 3 v n (prtCells l)) : PrtsAt w w.heap.size v l := by
  subst hn
  exact Reads.of_own h
theorem prt_one (l : List Prt) : ∀ u ∈ prtCells l, u.oneCell' = true := by
  intro u hu
  unfold prtCells at hu
  obtain ⟨p, -, hp⟩ := List.mem_flatMap.1 hu
  simp at hp
  rcases hp with rfl | rfl | rfl <;> rfl

set_option maxRecDepth 100000 in
theorem app_prts {t e : TypeId} {i0 : TypeInfo} {z : Value} (ht : Try.prog.underlying t = some (.slice e)) (hi : Try.prog.info? e = some i0) (hz : i0.zero = some z) (hs : i0.size = 3) (hb : i0.bytes = 24) (hzs : z.cells.size = 3)
    (ty : TypeId) {w : World} {base n : Nat} {v x : Value} {xs : List Value} {l : List Prt} (hown : w.ownsRow base e 3 v n xs) (hx : PrtsAt w w.heap.size x l) (hS : Sound x) (hn : n + l.length ≤ 1000) (hbase : base ≤ w.heap.size) :
    ∃ v' w', (Builtin.append_ #[t, t] ty #[v, x]).run Try.prog w = .ok v' w' ∧ w'.ownsRow base e 3 v' (n + l.length) (xs ++ prtCells l) ∧ w.grownBy w' v.ownBlock := by
  obtain ⟨A, c, rfl, hc, hl⟩ := hx.open_
  rcases hS with h | ⟨ad, n', c', h⟩
  · injection h with h1 h2 h3
    subst h1 h3
    have hl0 : l = [] := List.length_eq_zero_iff.1 h2
    subst hl0
    have hr := run_append_owned_none (P := Try.prog) (w := w) base t ty e i0 3 ht hi v n xs hown
    have e0 : prtCells [] = [] := rfl
    rw [e0, List.append_nil, List.length_nil, Nat.add_zero]
    exact ⟨v, w, hr, hown, grown_refl w _⟩
  · injection h with h1 h2 h3
    subst h1
    have hcell : ∀ j u, (prtCells l)[j]? = some u → w.cell? (ad.add j) = some u := fun j u hj => by
      obtain ⟨_, _, A', c'', e1, e2, e3⟩ := hx
      injection e1 with a1 a2 a3
      have hj2 : j < l.length * 3 := by
        have := (List.getElem?_eq_some_iff.1 hj).1
        rw [prtCells_length] at this
        exact this
      obtain ⟨b, off, e4, e5, e6⟩ := e3 (by omega)
      rw [← a1] at e4
      injection e4 with e4
      subst e4
      have := e6 j u hj
      have e7 : (⟨b, off, none⟩ : Addr).add j = ⟨b, off + j, none⟩ := by unfold Addr.add; split <;> simp_all
      rw [e7]
      exact this
    obtain ⟨v', w', hr, h2, h3, -⟩ := run_append_own (P := Try.prog) w base t ty e i0 z 3 24 ht hi hz hs hb hzs (by omega) v n xs hown ad l.length c (prtCells l) (prtCells_length l) hcell (prt_one l) (by unfold maxLen; omega) (by omega) hbase
    exact ⟨v', w', hr, h2, h3⟩
set_option maxRecDepth 100000 in
set_option maxHeartbeats 2000000 in
theorem grow_any (n : Nat) (w : World) (hn : n ≤ 1000) :
    Calls Try.prog 62 #[.slice none 0 0, .int .i64 (n : Int)] w fun e w' => ∃ v, e = .returned v ∧ w'.ownsRow w.heap.size 70 3 v 0 [] ∧ Below w.heap.size w w' := by
  obtain ⟨i0, hi0, hz0, hz1, hz2⟩ := info_parts part_info
  by_cases h0 : n = 0
  · subst h0
    clear hi0 hz0 hz1 hz2
    go_enter Try.func62, Try.ntmps62
    go_wp2
    go_ret
    exact ⟨_, rfl, World.ownsRow_nil _ _ _ _, Below.refl _ _⟩
  · have hrz : ∀ ty, (Builtin.append_ #[33, 3] ty #[.slice none 0 0, .int .i64 (n : Int)]).run Try.prog w = .ok (.slice (some ⟨w.heap.size, 0, none⟩) n (grownCap w n 0 70)) (w.drew.alloc (.cells (Builtin.zeroCells #[.int .i64 0, .int .i64 0, .int .i64 0] n ++ Builtin.zeroCells #[.int .i64 0, .int .i64 0, .int .i64 0] (grownCap w n 0 70 - n)) 70)) := fun ty =>
      Lib.run_append_nil_zeros w 33 3 ty 70 i0 (.agg #[.int .i64 0, .int .i64 0, .int .i64 0]) .i64 .i64 Try.underlying33 Try.underlying3 hi0 hz0 n (by omega) (by omega) (by omega) (by rw [hz2]; omega)
    have hg1 : n ≤ grownCap w n 0 70 := grownCap_ge w _ _ _
    have hg2 : grownCap w n 0 70 ≤ maxLen := grownCap_le_maxLen w n 0 70 (by unfold maxLen; omega)
    obtain ⟨G, hG⟩ : ∃ G, grownCap w n 0 70 = G := ⟨_, rfl⟩
    rw [hG] at hrz hg1 hg2
    have hg3 : G ≤ 9223372036854775807 := by unfold maxLen at hg2; omega
    have hn1 : (0 : Int) < (n : Int) := by omega
    have HR := Lib.hid hrz
    clear hi0 hz0 hz1 hz2 hrz hG
    go_enter Try.func62, Try.ntmps62
    go_wp2_with (at_builtin; refine Lib.wpList_append_run _ rfl _ _ _ _ rfl _ _ rfl rfl _ _ (HR.out _) ?_)
    all_goals
      go_ret
      refine ⟨_, rfl, ⟨by simp, Or.inr ⟨w.heap.size, G, _, rfl, Nat.le_refl _, heap_alloc_new w.drew _, Nat.zero_le _, hg2, ?_, by simp⟩⟩, (by repeat (first | exact Below.refl _ _ | assumption | refine Below.drew ?_ | refine Below.drewN' ?_ _ | (refine Below.alloc ?_ (by simp <;> omega) _) | (refine Below.setCell ?_ (by simp <;> omega) _)))⟩
      rw [Array.size_append, size_zeroCells, size_zeroCells, ← Nat.add_mul]
      congr 1
      omega
set_option maxRecDepth 100000 in
set_option maxHeartbeats 2000000 in
theorem concat_any (bb : Nat) (xa xb : Value) (la lb : List Prt) (w : World) (c0 : w.cell? ⟨bb, 0, none⟩ = some xa) (c1 : w.cell? ⟨bb, 1, none⟩ = some xb)
    (ha : PrtsAt w w.heap.size xa la) (hb : PrtsAt w w.heap.size xb lb) (sa : Sound xa) (sb : Sound xb) (hl : la.length + lb.length ≤ 900) (hbb : bb < w.heap.size) :
    Calls Try.prog 45 #[.slice (some ⟨bb, 0, none⟩) 2 2] w fun e w' => ∃ v, e = .returned v ∧ w'.ownsRow w.heap.size 70 3 v (la.length + lb.length) (prtCells la ++ prtCells lb) ∧ Below w.heap.size w w' := by
  have HA := Lib.hid ha
  have HB := Lib.hid hb
  have HSa := Lib.hid sa
  have HSb := Lib.hid sb
  obtain ⟨A, ca, rfl, hca, -⟩ := ha.open_
  obtain ⟨B, cb, rfl, hcb, -⟩ := hb.open_
  obtain ⟨i0, hi0, hz0, hz1, hz2⟩ := info_parts part_info
  have HI := Lib.hid (And.intro hi0 (And.intro hz0 (And.intro hz1 hz2)))
  clear ha hb sa sb hi0 hz0 hz1 hz2
  go_enter Try.func45, Try.ntmps45
  go_wp2_with fail
  go_loopw [3, 11] (fun s j wr => ((s = .int .i64 0 ∧ j = .int .i64 0) ∨ (s = .int .i64 (la.length : Int) ∧ j = .int .i64 1) ∨ (s = .int .i64 ((la.length + lb.length : Nat) : Int) ∧ j = .int .i64 2)) ∧ Hid (w = wr)) (fun _ j _ => (2 - intOf j).toNat)
  case atStart => exact ⟨Or.inl ⟨rfl, rfl⟩, rfl⟩
  case round =>
    obtain ⟨⟨rfl, rfl⟩ | ⟨rfl, rfl⟩ | ⟨rfl, rfl⟩, hw⟩ := hrel
    all_goals
      obtain rfl := hw.out
      clear hw
    · go_wp2
      go_roundw
      case rel => exact ⟨Or.inr (Or.inl ⟨by first | rfl | go_num, by first | rfl | go_num⟩), by first | exact rfl | exact True.intro⟩
      case measure => simp [intOf]
    · go_wp2
      go_roundw
      case rel => exact ⟨Or.inr (Or.inr ⟨by first | rfl | (congr 1; omega) | go_num, by first | rfl | go_num⟩), by first | exact rfl | exact True.intro⟩
      case measure => simp [intOf]
    · go_wp2_with fail
      refine (grow_any (la.length + lb.length) _ (by omega)).mono ?_
      rintro e w1 ⟨v, rfl, hown, hbw⟩
      have HO := Lib.hid hown
      have HW := Lib.hid hbw
      have c0 := Lib.hid c0
      have c1 := Lib.hid c1
      clear hown hbw
      go_wp2_with fail
      go_loopw [6, 27] (fun u j wr => ((j = .int .i64 0 ∧ Hid (wr.ownsRow w.heap.size 70 3 u 0 [])) ∨ (j = .int .i64 1 ∧ Hid (wr.ownsRow w.heap.size 70 3 u la.length (prtCells la))) ∨ (j = .int .i64 2 ∧ Hid (wr.ownsRow w.heap.size 70 3 u (la.length + lb.length) (prtCells la ++ prtCells lb)))) ∧ Hid (Below w.heap.size w wr)) (fun _ j _ => (2 - intOf j).toNat)
      case atStart => exact ⟨Or.inl ⟨rfl, HO.out⟩, HW.out⟩
      case round =>
        obtain ⟨⟨rfl, HO2⟩ | ⟨rfl, HO2⟩ | ⟨rfl, HO2⟩, HW2⟩ := hrel
        · have d0' : wr.cell? ⟨bb, 0, none⟩ = some (.slice A la.length ca) := (HW2.out.cell (p := ⟨bb, 0, none⟩) hbb).trans c0.out
          have hsz := HW2.out.size
          obtain ⟨v1, w2, hr, ho, hg⟩ := app_prts Try.underlying33 HI.out.1 HI.out.2.1 HI.out.2.2.1 HI.out.2.2.2 rfl 33 HO2.out (HA.out.later HW2.out (Nat.le_refl _)) HSa.out (by omega) hsz
          have HN := Lib.hid ho
          have HN2 : Hid (Below w.heap.size w w2) := HW2.out.grown hg hsz (fun k e => (HO2.out.lt k e).1)
          have hbr : bb < wr.heap.size := by omega
          clear ho hg
          go_wp2_with (at_builtin; refine Lib.wpList_append_run _ rfl _ _ _ _ rfl _ _ rfl rfl _ _ hr ?_; clear hr)
          go_roundw
          case rel => exact ⟨Or.inr (Or.inl ⟨by first | rfl | go_num, by have h := HN.out; rw [Nat.zero_add, List.nil_append] at h; exact h⟩), HN2.out⟩
          case measure => simp [intOf]
        · have d1' : wr.cell? ⟨bb, 1, none⟩ = some (.slice B lb.length cb) := (HW2.out.cell (p := ⟨bb, 1, none⟩) hbb).trans c1.out
          have hsz := HW2.out.size
          obtain ⟨v1, w2, hr, ho, hg⟩ := app_prts Try.underlying33 HI.out.1 HI.out.2.1 HI.out.2.2.1 HI.out.2.2.2 rfl 33 HO2.out (HB.out.later HW2.out (Nat.le_refl _)) HSb.out (by omega) hsz
          have HN := Lib.hid ho
          have HN2 : Hid (Below w.heap.size w w2) := HW2.out.grown hg hsz (fun k e => (HO2.out.lt k e).1)
          have hbr : bb < wr.heap.size := by omega
          clear ho hg
          go_wp2_with (at_builtin; refine Lib.wpList_append_run _ rfl _ _ _ _ rfl _ _ rfl rfl _ _ hr ?_; clear hr)
          go_roundw
          case rel => exact ⟨Or.inr (Or.inr ⟨by first | rfl | go_num, HN.out⟩), HN2.out⟩
          case measure => simp [intOf]
        · go_wp2
          go_ret
          exact ⟨_, rfl, HO2.out, HW2.out⟩
end Go.Proofs.Ytfblpokjbopagaa
/-
  Layer 2, the program: Join.
-/
namespace Go.Proofs.Ytfblpokjbopagaa
open Go.RowKit

def joinE (a b : Md) : Int := if mdE a = 0 then (if mdE b = 0 then mdE (joinZ a b) else mdE b) else mdE a
def joinV (a b : Md) : Md := if joinE a b = 0 then joinZ a b else ⟨0, []⟩
theorem joinE_eq {a b : Md} (ha : mdE a = 0) (hb : mdE b = 0) : joinE a b = if -10000 ≤ a.mean + b.mean ∧ a.mean + b.mean ≤ 10000 then (if a.ps.length + b.ps.length ≤ 16 then 0 else 9) else 3 := by
  unfold joinE
  rw [if_pos ha, if_pos hb]
  have h := join_ok (mdE_zero ha).2.2 (mdE_zero hb).2.2
  unfold mdE
  rw [h]
  unfold joinZ
  simp only [List.length_append, if_true]
set_option maxRecDepth 100000 in
set_option maxHeartbeats 2000000 in
theorem tJoin_any (va vb : Value) (a b : Md) (w : World) (ha : PrtsAt w w.heap.size va a.ps) (hb : PrtsAt w w.heap.size vb b.ps) (sa : Sound va) (sb : Sound vb) :
    Calls Try.prog 21 #[.agg #[.int .i64 a.mean, va], .agg #[.int .i64 b.mean, vb]] w fun e w' => ∃ y, e = .returned (.tuple #[.agg #[.int .i64 (joinV a b).mean, y], .int .i64 (joinE a b)]) ∧ PrtsAt w' w'.heap.size y (joinV a b).ps ∧ Sound y ∧ Below w.heap.size w w' := by
  have HA := Lib.hid ha
  have HB := Lib.hid hb
  have HSa := Lib.hid sa
  have HSb := Lib.hid sb
  obtain ⟨A, ca, rfl, hca, -⟩ := ha.open_
  obtain ⟨B, cb, rfl, hcb, -⟩ := hb.open_
  obtain ⟨ma, pa⟩ := a
  obtain ⟨mb, pb⟩ := b
  simp only at HA HB HSa HSb hca hcb ⊢
  clear ha hb sa sb
  obtain ⟨Ea, hEa⟩ : ∃ E, mdE ⟨ma, pa⟩ = E := ⟨_, rfl⟩
  obtain ⟨Eb, hEb⟩ : ∃ E, mdE ⟨mb, pb⟩ = E := ⟨_, rfl⟩
  have HMa := Lib.hid hEa
  have HMb := Lib.hid hEb
  clear hEa hEb
  obtain ⟨V0, hV⟩ : ∃ V, ((w.alloc (.cells #[.int .i64 ma, .slice A pa.length ca] 35)).alloc (.cells #[.int .i64 mb, .slice B pb.length cb] 35)).alloc (.cells #[.int .i64 0, .slice none 0 0] 35) = V := ⟨_, rfl⟩
  have K1 : Hid (Blk V0 w.heap.size 35 #[.int .i64 ma, .slice A pa.length ca]) := by rw [← hV]; exact ((Blk.new' _ _ _ rfl).alloc _).alloc _
  have K3 : Hid (Blk V0 (w.heap.size + 1) 35 #[.int .i64 mb, .slice B pb.length cb]) := by rw [← hV]; exact (Blk.new' _ _ _ (by simp)).alloc _
  have K2 : Hid (Blk V0 (w.heap.size + 1 + 1) 35 #[.int .i64 0, .slice none 0 0]) := by rw [← hV]; exact Blk.new' _ _ _ (by simp)
  have KB : Hid (Below w.heap.size w V0) := by rw [← hV]; exact (by repeat (first | exact Below.refl _ _ | assumption | refine Below.drew ?_ | refine Below.drewN' ?_ _ | (refine Below.alloc ?_ (by simp <;> omega) _) | (refine Below.setCell ?_ (by simp <;> omega) _)))
  have y0 := K1.out.cell 0
  have y1 := K1.out.cell 1
  simp only [List.getElem?_toArray, List.getElem?_cons_zero, List.getElem?_cons_succ] at y0 y1
  go_enter Try.func21, Try.ntmps21
  go_wp2_with fail
  try rw [hV]
  refine (tmCheck_any _ ⟨ma, pa⟩ _ ⟨_, rfl, HA.out.later KB.out (Nat.le_refl _)⟩).mono ?_
  rintro e w1 ⟨rfl, hbw⟩
  rw [HMa.out]
  have J1 := Lib.hid (K1.out.below hbw K1.out.lt)
  have J2 := Lib.hid (K2.out.below hbw K2.out.lt)
  have J3 := Lib.hid (K3.out.below hbw K3.out.lt)
  have JB := Lib.hid (KB.out.trans (hbw.mono KB.out.size))
  clear hbw hV K1 K2 K3 KB y0 y1
  have y0 := J1.out.cell 0
  have y1 := J1.out.cell 1
  have z0 := J3.out.cell 0
  have z1 := J3.out.cell 1
  have t0 := J2.out.cell 0
  have t1 := J2.out.cell 1
  have v0 := J2.out.frozen 0
  have v1 := J2.out.frozen 1
  simp only [List.getElem?_toArray, List.getElem?_cons_zero, List.getElem?_cons_succ] at y0 y1 z0 z1 t0 t1
  by_cases h0 : Ea = 0
  rotate_left
  · have HV : Hid (joinE ⟨ma, pa⟩ ⟨mb, pb⟩ = Ea ∧ joinV ⟨ma, pa⟩ ⟨mb, pb⟩ = ⟨0, []⟩) := by
      have e1 : joinE ⟨ma, pa⟩ ⟨mb, pb⟩ = Ea := by unfold joinE; rw [HMa.out]; exact if_neg h0
      exact ⟨e1, by unfold joinV; rw [e1]; exact if_neg h0⟩
    have h0' : (Ea == 0) = false := beq_eq_false_iff_ne.2 h0
    have hR := fun x y => span_res2 J2.out x y
    have JBo := JB.out
    clear y0 y1 z0 z1
    go_wp2
    refine bodyPost_ret (v := .tuple #[.agg #[.int .i64 0, .slice none 0 0], .int .i64 Ea]) (by simp [results, Try.results21, go_sem, hR]) rfl ⟨_, by rw [HV.out.1, HV.out.2], ?_, Or.inl rfl, (by repeat (first | exact Below.refl _ _ | assumption | refine Below.drew ?_ | refine Below.drewN' ?_ _ | (refine Below.alloc ?_ (by simp <;> omega) _) | (refine Below.setCell ?_ (by simp <;> omega) _)))⟩
    rw [HV.out.2]
    exact Reads.nil _ _ _
  subst h0
  go_wp2_with fail
  refine (tmCheck_any _ ⟨mb, pb⟩ _ ⟨_, rfl, HB.out.later JB.out (Nat.le_refl _)⟩).mono ?_
  rintro e w2 ⟨rfl, hbw⟩
  rw [HMb.out]
  have I1 := Lib.hid (J1.out.below hbw J1.out.lt)
  have I2 := Lib.hid (J2.out.below hbw J2.out.lt)
  have I3 := Lib.hid (J3.out.below hbw J3.out.lt)
  have IB := Lib.hid (JB.out.trans (hbw.mono JB.out.size))
  clear hbw J1 J2 J3 JB y0 y1 z0 z1 t0 t1 v0 v1
  have y0 := I1.out.cell 0
  have y1 := I1.out.cell 1
  have z0 := I3.out.cell 0
  have z1 := I3.out.cell 1
  have t0 := I2.out.cell 0
  have t1 := I2.out.cell 1
  have v0 := I2.out.frozen 0
  have v1 := I2.out.frozen 1
  simp only [List.getElem?_toArray, List.getElem?_cons_zero, List.getElem?_cons_succ] at y0 y1 z0 z1 t0 t1
  have hR := fun x y => span_res2 I2.out x y
  have IBo := IB.out
  by_cases h1 : Eb = 0
  rotate_left
  · have HV : Hid (joinE ⟨ma, pa⟩ ⟨mb, pb⟩ = Eb ∧ joinV ⟨ma, pa⟩ ⟨mb, pb⟩ = ⟨0, []⟩) := by
      have e1 : joinE ⟨ma, pa⟩ ⟨mb, pb⟩ = Eb := by unfold joinE; rw [if_pos HMa.out, HMb.out]; exact if_neg h1
      exact ⟨e1, by unfold joinV; rw [e1]; exact if_neg h1⟩
    have h1' : (Eb == 0) = false := beq_eq_false_iff_ne.2 h1
    clear y0 y1 z0 z1
    go_wp2
    refine bodyPost_ret (v := .tuple #[.agg #[.int .i64 0, .slice none 0 0], .int .i64 Eb]) (by simp [results, Try.results21, go_sem, hR]) rfl ⟨_, by rw [HV.out.1, HV.out.2], ?_, Or.inl rfl, (by repeat (first | exact Below.refl _ _ | assumption | refine Below.drew ?_ | refine Below.drewN' ?_ _ | (refine Below.alloc ?_ (by simp <;> omega) _) | (refine Below.setCell ?_ (by simp <;> omega) _)))⟩
    rw [HV.out.2]
    exact Reads.nil _ _ _
  subst h1
  have HJ := Lib.hid (joinE_eq HMa.out HMb.out)
  obtain ⟨ra, la, -⟩ := mdE_zero HMa.out
  obtain ⟨rb, lb, -⟩ := mdE_zero HMb.out
  simp only at ra rb la lb
  by_cases hm : -10000 ≤ ma + mb ∧ ma + mb ≤ 10000
  rotate_left
  · have HV : Hid (joinE ⟨ma, pa⟩ ⟨mb, pb⟩ = 3 ∧ joinV ⟨ma, pa⟩ ⟨mb, pb⟩ = ⟨0, []⟩) := by
      have e1 : joinE ⟨ma, pa⟩ ⟨mb, pb⟩ = 3 := HJ.out.trans (if_neg hm)
      exact ⟨e1, by unfold joinV; rw [e1]; rfl⟩
    have dm := decide_eq_false hm
    go_wp2_with fail
    refine (within_any _ _ _ _).mono ?_
    rintro e w9 ⟨rfl, hw⟩
    obtain rfl := hw
    rw [dm]
    go_wp2
    refine bodyPost_ret (v := .tuple #[.agg #[.int .i64 0, .slice none 0 0], .int .i64 3]) (by simp [results, Try.results21, go_sem, hR]) rfl ⟨_, by rw [HV.out.1, HV.out.2], ?_, Or.inl rfl, (by repeat (first | exact Below.refl _ _ | assumption | refine Below.drew ?_ | refine Below.drewN' ?_ _ | (refine Below.alloc ?_ (by simp <;> omega) _) | (refine Below.setCell ?_ (by simp <;> omega) _)))⟩
    rw [HV.out.2]
    exact Reads.nil _ _ _
  have dm := decide_eq_true hm
  by_cases hl : pa.length + pb.length ≤ 16
  rotate_left
  · have HV : Hid (joinE ⟨ma, pa⟩ ⟨mb, pb⟩ = 9 ∧ joinV ⟨ma, pa⟩ ⟨mb, pb⟩ = ⟨0, []⟩) := by
      have e1 : joinE ⟨ma, pa⟩ ⟨mb, pb⟩ = 9 := HJ.out.trans ((if_pos hm).trans (if_neg hl))
      exact ⟨e1, by unfold joinV; rw [e1]; rfl⟩
    have hl' : (16 : Int) < (pa.length : Int) + (pb.length : Int) := by omega
    go_wp2_with fail
    refine (within_any _ _ _ _).mono ?_
    rintro e w9 ⟨rfl, hw⟩
    obtain rfl := hw
    rw [dm]
    go_wp2
    refine bodyPost_ret (v := .tuple #[.agg #[.int .i64 0, .slice none 0 0], .int .i64 9]) (by simp [results, Try.results21, go_sem, hR]) rfl ⟨_, by rw [HV.out.1, HV.out.2], ?_, Or.inl rfl, (by repeat (first | exact Below.refl _ _ | assumption | refine Below.drew ?_ | refine Below.drewN' ?_ _ | (refine Below.alloc ?_ (by simp <;> omega) _) | (refine Below.setCell ?_ (by simp <;> omega) _)))⟩
    rw [HV.out.2]
    exact Reads.nil _ _ _
  have HV : Hid (joinE ⟨ma, pa⟩ ⟨mb, pb⟩ = 0 ∧ joinV ⟨ma, pa⟩ ⟨mb, pb⟩ = ⟨ma + mb, pa ++ pb⟩) := by
    have e1 : joinE ⟨ma, pa⟩ ⟨mb, pb⟩ = 0 := HJ.out.trans ((if_pos hm).trans (if_pos hl))
    exact ⟨e1, by unfold joinV; rw [e1]; rfl⟩
  have hl' : (pa.length : Int) + (pb.length : Int) ≤ 16 := by omega
  go_wp2_with fail
  refine (within_any _ _ _ _).mono ?_
  rintro e w9 ⟨rfl, hw⟩
  obtain rfl := hw
  rw [dm]
  go_wp2_with fail
  have bz : Below w.heap.size w (w2.alloc (.cells #[.slice A pa.length ca, .slice B pb.length cb] 33)) := IBo.alloc IBo.size _
  refine (concat_any w2.heap.size (.slice A pa.length ca) (.slice B pb.length cb) pa pb _ (by simp) (by simp) (HA.out.later bz (Nat.le_refl _)) (HB.out.later bz (Nat.le_refl _)) HSa.out HSb.out (by omega) (by simp)).mono ?_
  rintro e w3 ⟨v, rfl, hown, hbw⟩
  have HS := Lib.hid (sound_own hown)
  have hP : PrtsAt w3 w3.heap.size v (pa ++ pb) := prts_own (n := pa.length + pb.length) (by simp) (by rw [prtCells_append]; exact hown)
  have HO := Lib.hid hown
  have hne : v.ownBlock ≠ some (w.heap.size + 1 + 1) := fun h => by
    have h1 := (hown.lt _ h).1
    have h2 := I2.out.lt
    simp at h1
    omega
  have HNE := Lib.hid hne
  obtain ⟨C, c, rfl, -, -⟩ := hP.open_
  have hz : Below w2.heap.size w2 w3 := Below.trans ((Below.refl _ w2).alloc (Nat.le_refl _) _) (hbw.mono (by simp))
  have E2 := Lib.hid (I2.out.below hz I2.out.lt)
  have EB := Lib.hid (IB.out.trans (hz.mono IB.out.size))
  clear hown hbw hP hz bz hne y0 y1 z0 z1 t0 t1 v0 v1 hR IBo
  have t0 := E2.out.cell 0
  have t1 := E2.out.cell 1
  have v0 := E2.out.frozen 0
  have v1 := E2.out.frozen 1
  simp only [List.getElem?_toArray, List.getElem?_cons_zero, List.getElem?_cons_succ] at t0 t1
  have hR := fun x y => span_res2 E2.out x y
  have EBo := EB.out
  go_wp2
  refine bodyPost_ret (v := .tuple #[.agg #[.int .i64 (ma + mb), .slice C (pa ++ pb).length c], .int .i64 0]) (by simp [results, Try.results21, go_sem, hR]) rfl ⟨_, by rw [HV.out.1, HV.out.2], ?_, HS.out, (by repeat (first | exact Below.refl _ _ | assumption | refine Below.drew ?_ | refine Below.drewN' ?_ _ | (refine Below.alloc ?_ (by simp <;> omega) _) | (refine Below.setCell ?_ (by simp <;> omega) _)))⟩
  rw [HV.out.2]
  have hle : (pa ++ pb).length = pa.length + pb.length := List.length_append
  have h := own_set (own_set HO.out (p := ⟨w.heap.size + 1 + 1, 0, none⟩) HNE.out (.int .i64 (ma + mb))) (p := ⟨w.heap.size + 1 + 1, 1, none⟩) HNE.out (.slice C (pa.length + pb.length) c)
  rw [hle] at h ⊢
  exact prts_own (n := pa.length + pb.length) hle.symm (by rw [prtCells_append]; exact h)
end Go.Proofs.Ytfblpokjbopagaa
