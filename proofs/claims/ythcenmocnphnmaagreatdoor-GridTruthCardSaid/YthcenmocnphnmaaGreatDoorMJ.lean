/-
  The rim of a cell.
-/
import Derived.Test.YthcenmocnphnmaaGreatDoorMI
set_option linter.unusedSimpArgs false
set_option linter.unusedVariables false
namespace Go.Proofs.YthcenmocnphnmaaGreatDoor
open Go.RowKit Go.Shelf
attribute [local go_sem] Oper.semAt_some

/-- the least of this end of the spans of some cells, and of the greatest height -/
def mnL (f : Int × Int → Int) (ss : List (Int × Int)) (l : List Int) : Int := l.foldl (fun m d => min m (f (ss.getD d.toNat (0, 0)))) 1200000
theorem mnL_snoc (f : Int × Int → Int) (ss : List (Int × Int)) (l : List Int) (d : Int) : mnL f ss (l ++ [d]) = min (mnL f ss l) (f (ss.getD d.toNat (0, 0))) := by
  unfold mnL
  rw [List.foldl_append]
  rfl
theorem reg_merge {F : Fence} {n : Nat} {P : Program} {c : Code} {Q : Exit → Act → World → Prop} {a : Act} {w : World} (A : Act) (W : World) (h : Hid (Q .normal A W) → c.wpIn F n P Q a w) (h2 : Q .normal A W) : c.wpIn F n P Q a w := h h2
def RimI (n : Nat) (w : World) (ss : List (Int × Int)) (ys : Value) (pre : List Int) (W : World) : Prop :=
  Blk W (n + 3) 34 #[.int .i64 (mnL (fun s => s.1) ss pre), .int .i64 (mnL (fun s => s.2) ss pre)] ∧ Blk W (n + 1) 22 #[ys] ∧ Blk W (n + 2) 34 #[.int .i64 0, .int .i64 0] ∧ Below n w W
theorem rimI_own {α : Type} (f : α → Int) {n B1 : Nat} {w : World} {ss : List (Int × Int)} {ys : Value} (hB : n + 4 ≤ B1) : OwnFrom B1 (fun (pre : List α) W => RimI n w ss ys (pre.map f) W) := by
  intro s A C row h hg hr
  obtain ⟨h1, h2, h3, h4⟩ := h
  exact ⟨h1.turn hg (fun r e => (hr r e).2), h2.turn hg (fun r e => (hr r e).2), h3.turn hg (fun r e => (hr r e).2), h4.grown hg (by have := h1.lt; omega) (fun k e => by have := (hr k e).1; omega)⟩

theorem rim_round {n B1 bx bg bc bY : Nat} {w W : World} {a b : Int} {ys : Value} (h1 : Blk W (n + 3) 34 #[.int .i64 a, .int .i64 b]) (h2 : Blk W (n + 1) 22 #[ys]) (h3 : Blk W (n + 2) 34 #[.int .i64 0, .int .i64 0]) (h4 : Below n w W) (_hB : n + 4 ≤ B1)
    (l1 : n + 1 + 1 + 1 + 1 ≤ bx) (l2 : n + 1 + 1 + 1 + 1 ≤ bg) (l3 : n + 1 + 1 + 1 + 1 ≤ bc) (l4 : n + 1 + 1 + 1 + 1 ≤ bY) (a' b' : Int) :
    KeepsFrom B1 W (((W.setCell ⟨n + 1 + 1 + 1, 0, none⟩ (.int .i64 a')).setCell ⟨n + 1 + 1 + 1, 1, none⟩ (.int .i64 b')).drew.drew) ∧ NbKp bx bg bc bY W (((W.setCell ⟨n + 1 + 1 + 1, 0, none⟩ (.int .i64 a')).setCell ⟨n + 1 + 1 + 1, 1, none⟩ (.int .i64 b')).drew.drew) ∧
    Blk (((W.setCell ⟨n + 1 + 1 + 1, 0, none⟩ (.int .i64 a')).setCell ⟨n + 1 + 1 + 1, 1, none⟩ (.int .i64 b')).drew.drew) (n + 3) 34 #[.int .i64 a', .int .i64 b'] ∧ Blk (((W.setCell ⟨n + 1 + 1 + 1, 0, none⟩ (.int .i64 a')).setCell ⟨n + 1 + 1 + 1, 1, none⟩ (.int .i64 b')).drew.drew) (n + 1) 22 #[ys] ∧
    Blk (((W.setCell ⟨n + 1 + 1 + 1, 0, none⟩ (.int .i64 a')).setCell ⟨n + 1 + 1 + 1, 1, none⟩ (.int .i64 b')).drew.drew) (n + 2) 34 #[.int .i64 0, .int .i64 0] ∧ Below n w (((W.setCell ⟨n + 1 + 1 + 1, 0, none⟩ (.int .i64 a')).setCell ⟨n + 1 + 1 + 1, 1, none⟩ (.int .i64 b')).drew.drew) := by
  have far : ∀ k, k ≠ n + 1 + 1 + 1 → (((W.setCell ⟨n + 1 + 1 + 1, 0, none⟩ (.int .i64 a')).setCell ⟨n + 1 + 1 + 1, 1, none⟩ (.int .i64 b')).drew.drew).heap[k]? = W.heap[k]? := fun k hk => (Below.heap_setCell _ _ _ _ hk).trans (Below.heap_setCell _ _ _ _ hk)
  refine ⟨⟨by simp [World.setCell], fun k o _ hk ho => ?_⟩, ⟨far _ (by omega), far _ (by omega), far _ (by omega), far _ (by omega)⟩, (h1.set_ 0 _).set_ 1 _, (far _ (by omega)).trans h2, (far _ (by omega)).trans h3, ?_⟩
  · by_cases e : k = n + 1 + 1 + 1
    · subst e
      unfold Blk at h1
      rw [show n + 1 + 1 + 1 = n + 3 from rfl, h1] at hk
      cases hk
      cases ho
    · exact (far k e).trans hk
  · exact h4.trans (by repeat (first | exact Below.refl _ _ | assumption | refine Below.drew ?_ | refine Below.drewN' ?_ _ | (refine Below.alloc ?_ (by simp <;> omega) _) | (refine Below.setCell ?_ (by simp <;> omega) _)))
set_option maxRecDepth 100000 in
set_option maxHeartbeats 2000000 in
theorem rim_any (x y : Value) (g : G) (ss : List (Int × Int)) (c : Nat) (w : World) (hg : GridAt w w.heap.size x g) (hy : SpansAt w w.heap.size y ss) (V : Valid g) (hlen : ss.length = g.ss.length) (hc : c < g.ss.length) :
    Calls Tryz.prog 62 #[x, y, .int .i64 c] w fun e w' => e = .returned (.agg #[.int .i64 (mnL (fun s => s.1) ss (nearL g c)), .int .i64 (mnL (fun s => s.2) ss (nearL g c))]) ∧ Below w.heap.size w w' := by
  refine (callsIn_wide (n := 5)).1 ?_
  obtain ⟨v, rfl, hs⟩ := hg
  obtain ⟨A, k, rfl, hk, hm⟩ := hs.open_
  have HY := Lib.hid hy
  obtain ⟨A', k', rfl, hk', hm'⟩ := hy.open_
  have HV := Lib.hid V
  have Hlen := Lib.hid hlen
  have hsm := V.small
  have hr := cell_rng (c := (c : Int)) V.w1 V.w2 (by omega) (by omega)
  have Hrng := Lib.hid (nearL_rng V hc)
  have hW := V.w1
  clear hs hy V hlen
  refine callsIn_of_wp_marks Tryz.func62 rfl trivial ?_ rfl
  simp only [Tryz.ntmps62, List.size_toArray, List.length_cons, List.length_nil, Nat.reduceAdd, Nat.reduceSub, Array.replicate_succ, Array.replicate_zero, List.push_toArray, List.append_toArray, List.nil_append, List.cons_append]
  refine wpIn_wide.2 ?_
  go_wp2_with fail
  refine (neighbors_any _ _ _ _ _ _ _ _ hW (by omega) (by omega)).mono ?_
  rintro e W2 ⟨bx, bg, bc, bY, rfl, k1, k2, k3, k4, l1, l2, l3, l4, hb2⟩
  have HK := Lib.hid (And.intro k1 (And.intro k2 (And.intro k3 k4)))
  have Hb2 := Lib.hid hb2
  have HI0 : Hid (RimI w.heap.size w ss (.slice A' ss.length k') [] W2) := by
    have hB : Below w.heap.size w ((((w.alloc (.cells #[.int .i64 g.W, .int .i64 g.H, .int .i64 g.S, .slice A g.ss.length k] 24)).alloc (.cells #[.slice A' ss.length k'] 22)).alloc (.cells #[.int .i64 0, .int .i64 0] 34)).alloc (.cells #[.int .i64 1200000, .int .i64 1200000] 34)) := (by repeat (first | exact Below.refl _ _ | assumption | refine Below.drew ?_ | refine Below.drewN' ?_ _ | (refine Below.alloc ?_ (by simp <;> omega) _) | (refine Below.setCell ?_ (by simp <;> omega) _)))
    refine ⟨(Blk.new' _ _ _ (by simp)).below hb2 (by simp), (Blk.alloc (Blk.alloc (Blk.new' _ _ _ (by simp)) _) _).below hb2 (by simp <;> omega), (Blk.alloc (Blk.new' _ _ _ (by simp)) _).below hb2 (by simp), hB.trans (hb2.mono (by simp <;> omega))⟩
  have hsz := hb2.size
  have m1 := k1.lt
  have m2 := k2.lt
  have m3 := k3.lt
  have m4 := k4.lt
  simp only [World.size_alloc] at hsz l1 l2 l3 l4
  clear k1 k2 k3 k4 hb2
  obtain ⟨L, hL⟩ := sub_list (N := g.ss.length) (nearL g c) Hrng.out
  have HL := Lib.hid hL
  clear hL
  have HST : Hid (SeqStopsK Fence.wide 4 Tryz.prog 82 #[.pointer (some ⟨bx, 0, none⟩), .pointer (some ⟨bg, 0, none⟩), .pointer (some ⟨bc, 0, none⟩), .pointer (some ⟨bY, 0, none⟩)]
      (fun a : { d : Nat // d < g.ss.length } => #[.int .i64 ((a.1 : Nat) : Int)]) (NbKp bx bg bc bY) (fun xs => xs = L) (fun pre => pre <+: L) L.length W2) :=
    nb_stops (fun a : { d : Nat // d < g.ss.length } => ((a.1 : Nat) : Int)) L 4 (by omega) bx bg bc bY g.W g.H g.S c _ _ (.slice A g.ss.length k) W2 HL.out hr.1 hr.2.1 hr.2.2.1 hr.2.2.2 (by omega) (by omega) (by omega) (by have := HV.out.w2; omega) HK.out.1 HK.out.2.1 HK.out.2.2.1 HK.out.2.2.2
  go_wp2_with fail
  refine (wpIn_wide (n := 5)).1 ?_
  refine wpIn_rangeFunc_ownG rfl (by omega) (gf := 82) (lb := #[.pointer (some ⟨bx, 0, none⟩), .pointer (some ⟨bg, 0, none⟩), .pointer (some ⟨bc, 0, none⟩), .pointer (some ⟨bY, 0, none⟩)]) rfl trivial (enters_of Tryz.func82 (by kernel_rfl) rfl)
    HST.out nbKp_t (nbKp_b m1 m2 m3 m4) (Below.refl _ _) (fun _ => rfl)
    (fun pre W => RimI w.heap.size w ss (.slice A' ss.length k') (pre.map (fun a => ((a.1 : Nat) : Int))) W)
    (fun _ _ _ => False)
    (rimI_own (fun a : { d : Nat // d < g.ss.length } => ((a.1 : Nat) : Int)) (by omega))
    (fun _ _ _ _ _ hs _ _ => hs) HI0.out
    (fun d => { tmps := #[.agg #[.int .i64 g.W, .int .i64 g.H, .int .i64 g.S, .slice A g.ss.length k], .slice A' ss.length k', .int .i64 c, .pointer (some ⟨w.heap.size, 0, none⟩), .pointer (some ⟨w.heap.size + 1, 0, none⟩), undef, .pointer (some ⟨w.heap.size + 1 + 1, 0, none⟩), .pointer (some ⟨w.heap.size + 1 + 1 + 1, 0, none⟩), .int .i64 ((d.1 : Nat) : Int), .agg #[.int .i64 1200000, .int .i64 1200000], .agg #[.int .i64 g.W, .int .i64 g.H, .int .i64 g.S, .slice A g.ss.length k], .int .i64 c, .func (.func 82) #[] #[.pointer (some ⟨bx, 0, none⟩), .pointer (some ⟨bg, 0, none⟩), .pointer (some ⟨bc, 0, none⟩), .pointer (some ⟨bY, 0, none⟩)], .int .i64 ((d.1 : Nat) : Int), undef, undef, undef, undef, undef, undef, undef, undef, undef, undef, undef, undef, undef, undef, undef, undef, undef, undef, undef], defers := [] }) ?assign ?body ?done ?stop
  case assign =>
    intro l x W K hK
    gi_wp2
    exact hK
  case body =>
    rintro l pre d W ⟨h1, h2, h3, h4⟩ hpre
    have hd : d.1 < ss.length := by rw [Hlen.out]; exact d.2
    generalize ed : d.1 = q at *
    have Hq := Lib.hid ed
    clear ed
    obtain ⟨b, off, rfl, hb', c1, c2⟩ := (HY.out.below h4).at_ hd
    have d0 := h1.cell 0
    have d1 := h1.cell 1
    have d2 := h2.cell 0
    have f0 := h1.frozen 0
    have f1 := h1.frozen 1
    simp only [List.getElem?_toArray, List.getElem?_cons_zero, List.getElem?_cons_succ] at d0 d1 d2
    have H1 := Lib.hid h1
    have H2 := Lib.hid h2
    have H3 := Lib.hid h3
    have H4 := Lib.hid h4
    have hlt := h1.lt
    have hne : ¬ b = w.heap.size + 1 + 1 + 1 := by omega
    have hne' : ¬ w.heap.size + 1 + 1 + 1 = b := by omega
    have e1 := Lib.hid (show ss[q].1 = (ss.getD q (0, 0)).1 by rw [List.getD_eq_getElem?_getD, List.getElem?_eq_getElem hd]; rfl)
    have e2 := Lib.hid (show ss[q].2 = (ss.getD q (0, 0)).2 by rw [List.getD_eq_getElem?_getD, List.getElem?_eq_getElem hd]; rfl)
    clear h1 h2 h3 h4
    generalize hp : ss[q] = p at *
    obtain ⟨lo, hi⟩ := p
    simp only at c1 c2
    clear hp
    generalize hA : mnL (fun s => s.1) ss (pre.map (fun a => ((a.1 : Nat) : Int))) = a at *
    generalize hB : mnL (fun s => s.2) ss (pre.map (fun a => ((a.1 : Nat) : Int))) = b2 at *
    have HA := Lib.hid hA
    have HBB := Lib.hid hB
    clear hA hB
    gi_wp2
    refine reg_merge ?_ ((W.setCell ⟨w.heap.size + 1 + 1 + 1, 0, none⟩ (.int .i64 (if lo < a then lo else a))).drew) (fun H => ?_) ?_
    rotate_left
    · gi_region
      all_goals exact H.out
    obtain ⟨a', ha'⟩ : ∃ a', a' = (if lo < a then lo else a) := ⟨_, rfl⟩
    rw [← ha']
    have Ha' := Lib.hid ha'
    clear ha'
    gi_wp2
    refine reg_merge ?_ (((W.setCell ⟨w.heap.size + 1 + 1 + 1, 0, none⟩ (.int .i64 a')).setCell ⟨w.heap.size + 1 + 1 + 1, 1, none⟩ (.int .i64 (if hi < b2 then hi else b2))).drew.drew) (fun H => ?_) ?_
    rotate_left
    · gi_region
      all_goals exact H.out
    obtain ⟨b', hb2'⟩ : ∃ b', b' = (if hi < b2 then hi else b2) := ⟨_, rfl⟩
    rw [← hb2']
    have Hb' := Lib.hid hb2'
    clear hb2'
    gi_wp2
    obtain ⟨r1, r2, r3, r4, r5, r6⟩ := rim_round (B1 := W2.heap.size) H1.out H2.out H3.out H4.out (by omega) l1 l2 l3 l4 a' b'
    refine ⟨r1, r2, ?_, r4, r5, r6⟩
    have g1 := Ha'.out
    have g2 := Hb'.out
    have g3 := e1.out
    have g4 := e2.out
    try simp only at g3 g4
    rw [List.map_append, List.map_cons, List.map_nil, mnL_snoc, mnL_snoc, HA.out, HBB.out, Hq.out, Int.toNat_natCast, ← g3, ← g4]
    rw [show min a lo = a' by rw [g1]; omega, show min b2 hi = b' by rw [g2]; omega]
    exact r3
  case done =>
    rintro D ys W hD hys ⟨h1, h2, h3, h4⟩ hK
    subst hys
    rw [HL.out] at h1
    have d0 := h1.cell 0
    have d1 := h1.cell 1
    have d2 := h3.cell 0
    have d3 := h3.cell 1
    have f2 := h3.frozen 0
    have f3 := h3.frozen 1
    have Hh3 := Lib.hid h3
    have Hh4 := Lib.hid h4
    simp only [List.getElem?_toArray, List.getElem?_cons_zero, List.getElem?_cons_succ] at d0 d1 d2 d3
    clear h1 h2 h3 h4
    go_wp2
    refine ⟨by simp, .inl ⟨_, _, rfl, run_takeDeferred ((Below.heap_setCell _ _ _ _ (by simp <;> omega)).trans ((Below.heap_setCell _ _ _ _ (by simp <;> omega)).trans hK)), ?_⟩⟩
    have hz : Blk (((W.setCell ⟨w.heap.size + 1 + 1, 0, none⟩ (.int .i64 (mnL (fun s => s.1) ss (nearL g c)))).setCell ⟨w.heap.size + 1 + 1, 1, none⟩ (.int .i64 (mnL (fun s => s.2) ss (nearL g c)))).putObj D (.deferred none)) (w.heap.size + 2) 34 #[.int .i64 (mnL (fun s => s.1) ss (nearL g c)), .int .i64 (mnL (fun s => s.2) ss (nearL g c))] :=
      (World.putObj_heap_other (by omega)).trans ((Hh3.out.set_ 0 _).set_ 1 _)
    have z0 := hz.cell 0
    have z1 := hz.cell 1
    simp only [List.getElem?_toArray, List.getElem?_cons_zero, List.getElem?_cons_succ] at z0 z1
    refine ⟨.agg #[.int .i64 (mnL (fun s => s.1) ss (nearL g c)), .int .i64 (mnL (fun s => s.2) ss (nearL g c))], by simp [results, Tryz.results62, go_sem, z0, z1], rfl, ?_⟩
    exact (Hh4.out.trans (by repeat (first | exact Below.refl _ _ | assumption | refine Below.drew ?_ | refine Below.drewN' ?_ _ | (refine Below.alloc ?_ (by simp <;> omega) _) | (refine Below.setCell ?_ (by simp <;> omega) _)))).trans (Below.grown (Below.refl _ _) (grownBy_putObj' _ D _) (by have := Hh4.out.size; simp [World.setCell]; omega) (fun k e => by cases e; omega))
  case stop =>
    rintro D c pre W _ _ h _
    exact h.elim
end Go.Proofs.YthcenmocnphnmaaGreatDoor
