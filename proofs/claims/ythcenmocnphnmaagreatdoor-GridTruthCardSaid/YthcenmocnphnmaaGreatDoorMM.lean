/-
  Copies of spans: slices.Clone.
-/
import Derived.Test.YthcenmocnphnmaaGreatDoorMK
import Derived.Deep.RegionHeld3
import Derived.Test.YthcenmocnphnmaaGreatDoorML
set_option linter.unusedSimpArgs false
set_option linter.unusedVariables false
namespace Go.Proofs.YthcenmocnphnmaaGreatDoor
open Go.RowKit Go.Shelf

theorem spanCells_one (ss : List (Int × Int)) : ∀ u ∈ spanCells ss, u.oneCell' = true := by
  intro u hu
  unfold spanCells at hu
  obtain ⟨s, _, hs⟩ := List.mem_flatMap.1 hu
  simp only [List.mem_cons, List.not_mem_nil, or_false] at hs
  rcases hs with rfl | rfl <;> rfl
theorem SpansAt.news {w : World} {B : Nat} {A : Option Addr} {n c : Nat} {ss : List (Int × Int)} (h : SpansAt w B (.slice A n c) ss) (hp : 0 < ss.length) :
    ∃ b off, A = some ⟨b, off, none⟩ ∧ b < B ∧ ∀ j u, (spanCells ss)[j]? = some u → w.cell? ((⟨b, off, none⟩ : Addr).add j) = some u := by
  obtain ⟨_, _, A', c', h3, h4, h5⟩ := h
  injection h3 with a b d
  subst a
  obtain ⟨b, off, e, hb, hc⟩ := h5 hp
  refine ⟨b, off, e, hb, fun j u hu => ?_⟩
  have e1 : (⟨b, off, none⟩ : Addr).add j = ⟨b, off + j, none⟩ := by unfold Addr.add; split <;> simp_all
  rw [e1]
  exact hc j u hu

theorem own_base {w : World} {base base' e size n : Nat} {v : Value} {xs : List Value} (h : w.ownsRow base e size v n xs) (hb : base' ≤ base) : w.ownsRow base' e size v n xs := by
  refine ⟨h.1, ?_⟩
  rcases h.2 with h | ⟨g, cap, cur, e, h1, r⟩
  · exact .inl h
  · exact .inr ⟨g, cap, cur, e, Nat.le_trans hb h1, r⟩
theorem own_shape {w : World} {base e size n : Nat} {v : Value} {xs : List Value} (h : w.ownsRow base e size v n xs) (hn : 0 < n) : ∃ g cap, v = .slice (some ⟨g, 0, none⟩) n cap ∧ base ≤ g ∧ g < w.heap.size ∧ n ≤ cap := by
  rcases h.2 with ⟨_, e⟩ | ⟨g, cap, cur, rfl, h1, h2, h3, _⟩
  · omega
  · exact ⟨g, cap, rfl, h1, lt_of_heap h2, h3⟩

set_option maxRecDepth 100000 in
set_option maxHeartbeats 1000000 in
theorem clone_any (y : Value) (ss : List (Int × Int)) (w : World) (hs : SpansAt w w.heap.size y ss) (hp : 0 < ss.length) (hl : ss.length ≤ 65536) :
    Calls Tryz.prog 64 #[y] w fun e w' => ∃ g c, e = .returned (.slice (some ⟨g, 0, none⟩) ss.length c) ∧ w'.ownsRow w.heap.size 34 2 (.slice (some ⟨g, 0, none⟩) ss.length c) ss.length (spanCells ss) ∧ Below w.heap.size w w' := by
  obtain ⟨A, k, rfl, hk, hm⟩ := hs.open_
  obtain ⟨b, off, rfl, hb, hn⟩ := hs.news hp
  have Hn := Lib.hid (fun j u hu => (((Below.refl w.heap.size w).alloc (Nat.le_refl _) (.cells #[] 34)).cell (p := (⟨b, off, none⟩ : Addr).add j) (by unfold Addr.add; split <;> simpa using hb)).trans (hn j u hu))
  obtain ⟨i0, hi0, hz0, hz1, hz2⟩ := info_parts span_info
  have hown0 : (w.alloc (.cells #[] 34)).ownsRow w.heap.size 34 2 (.slice (some ⟨w.heap.size, 0, none⟩) 0 0) 0 [] := World.ownsRow_lit w #[] 0 (Nat.le_refl _) (by decide) rfl
  have Hown0 := Lib.hid hown0
  clear hs hn hown0
  have hq := fun (W : World) (n c : Nat) => Lib.run_eql_slice_nil (P := Tryz.prog) W 22 34 (some ⟨b, off, none⟩) n c 0 0 Tryz.underlying22
  go_enter Tryz.func64, Tryz.ntmps64
  go_wp2_with (at_builtin; ((refine wpList_append_own _ rfl (.tmp 5) (.tmp 6) 22 rfl w.heap.size 34 i0 (.agg #[.int .i64 0, .int .i64 0]) 2 16 Tryz.underlying22 hi0 hz0 hz1 hz2 rfl (by decide) _ 0 [] rfl Hown0.out ⟨b, off, none⟩ ss.length k (spanCells ss) rfl (spanCells_length ss) Hn.out (spanCells_one ss) (by unfold maxLen; omega) (by omega) (by simp) ?_; intro v1 w1 hown1 hg1 hnil; have H1 := Lib.hid hown1; have Hg1 := Lib.hid hg1; clear hown1 hg1)))
  go_ret
  have h := H1.out
  rw [Nat.zero_add, List.nil_append] at h
  rcases h.2 with ⟨e, _⟩ | ⟨g, cap, cur, rfl, _⟩
  · have := hnil.1 e
    omega
  · exact ⟨g, cap, rfl, h, ((Below.refl w.heap.size w).alloc (Nat.le_refl _) (.cells #[] 34)).grown Hg1.out (by simp) (fun k e => by have := Hown0.out.lt k e; exact this.1)⟩

set_option maxRecDepth 100000 in
set_option maxHeartbeats 1000000 in
theorem copied_any (x : Value) (g : G) (w : World) (hg : GridAt w w.heap.size x g) (hp : 0 < g.ss.length) (hl : g.ss.length ≤ 65536) :
    Calls Tryz.prog 68 #[x] w fun e w' => ∃ b c, e = .returned (.agg #[.int .i64 g.W, .int .i64 g.H, .int .i64 g.S, .slice (some ⟨b, 0, none⟩) g.ss.length c]) ∧ w'.ownsRow w.heap.size 34 2 (.slice (some ⟨b, 0, none⟩) g.ss.length c) g.ss.length (spanCells g.ss) ∧ Below w.heap.size w w' := by
  obtain ⟨v, rfl, hs⟩ := hg
  obtain ⟨A, k, rfl, hk, hm⟩ := hs.open_
  obtain ⟨b, off, rfl, hb, hn⟩ := hs.news hp
  have hB : Below w.heap.size w (((w.alloc (.cells #[.int .i64 g.W, .int .i64 g.H, .int .i64 g.S, .slice (some ⟨b, off, none⟩) g.ss.length k] 24)).alloc (.cells #[.int .i64 0, .int .i64 0, .int .i64 0, .slice none 0 0] 24)).alloc (.cells #[] 34)) := (by repeat (first | exact Below.refl _ _ | assumption | refine Below.drew ?_ | refine Below.drewN' ?_ _ | (refine Below.alloc ?_ (by simp <;> omega) _) | (refine Below.setCell ?_ (by simp <;> omega) _)))
  have Hn := Lib.hid (fun j u hu => (hB.cell (p := (⟨b, off, none⟩ : Addr).add j) (by unfold Addr.add; split <;> simpa using hb)).trans (hn j u hu))
  have b0 : Blk (((w.alloc (.cells #[.int .i64 g.W, .int .i64 g.H, .int .i64 g.S, .slice (some ⟨b, off, none⟩) g.ss.length k] 24)).alloc (.cells #[.int .i64 0, .int .i64 0, .int .i64 0, .slice none 0 0] 24)).alloc (.cells #[] 34)) w.heap.size 24 #[.int .i64 g.W, .int .i64 g.H, .int .i64 g.S, .slice (some ⟨b, off, none⟩) g.ss.length k] := Blk.alloc (Blk.alloc (Blk.new' _ _ _ rfl) _) _
  have b1 : Blk (((w.alloc (.cells #[.int .i64 g.W, .int .i64 g.H, .int .i64 g.S, .slice (some ⟨b, off, none⟩) g.ss.length k] 24)).alloc (.cells #[.int .i64 0, .int .i64 0, .int .i64 0, .slice none 0 0] 24)).alloc (.cells #[] 34)) (w.heap.size + 1) 24 #[.int .i64 0, .int .i64 0, .int .i64 0, .slice none 0 0] := Blk.alloc (Blk.new' _ _ _ (by simp)) _
  have HBB := Lib.hid (And.intro b0 b1)
  obtain ⟨i0, hi0, hz0, hz1, hz2⟩ := info_parts span_info
  have hown0 : (((w.alloc (.cells #[.int .i64 g.W, .int .i64 g.H, .int .i64 g.S, .slice (some ⟨b, off, none⟩) g.ss.length k] 24)).alloc (.cells #[.int .i64 0, .int .i64 0, .int .i64 0, .slice none 0 0] 24)).alloc (.cells #[] 34)).ownsRow (w.heap.size + 1 + 1) 34 2 (.slice (some ⟨w.heap.size + 1 + 1, 0, none⟩) 0 0) 0 [] := by
    have := World.ownsRow_lit (base := w.heap.size + 1 + 1) (e := 34) (size := 2) ((w.alloc (.cells #[.int .i64 g.W, .int .i64 g.H, .int .i64 g.S, .slice (some ⟨b, off, none⟩) g.ss.length k] 24)).alloc (.cells #[.int .i64 0, .int .i64 0, .int .i64 0, .slice none 0 0] 24)) #[] 0 (by simp) (by decide) rfl
    simpa using this
  have Hown0 := Lib.hid hown0
  have HB := Lib.hid hB
  clear hs hn hown0 b0 b1 hB
  go_enter Tryz.func68, Tryz.ntmps68
  go_wp2_with (at_builtin; ((refine wpList_append_own _ rfl (.tmp 3) (.tmp 5) 22 rfl (w.heap.size + 1 + 1) 34 i0 (.agg #[.int .i64 0, .int .i64 0]) 2 16 Tryz.underlying22 hi0 hz0 hz1 hz2 rfl (by decide) _ 0 [] rfl Hown0.out ⟨b, off, none⟩ g.ss.length k (spanCells g.ss) rfl (spanCells_length g.ss) Hn.out (spanCells_one g.ss) (by unfold maxLen; omega) (by omega) (by simp) ?_; intro v1 w1 hown1 hg1 hnil; rw [Nat.zero_add, List.nil_append] at hown1; clear hnil; obtain ⟨gb, cap, rfl, hgb, hgl, hnc⟩ := own_shape hown1 hp; have H1 := Lib.hid hown1; have Hg1 := Lib.hid hg1; have hb := (Below.refl (w.heap.size + 1 + 1) _).grown hg1 (by simp) (fun k e => (Hown0.out.lt k e).1); have Hb := Lib.hid hb; have d0 := (HBB.out.1.below hb (by omega)).cell 0; have d1 := (HBB.out.1.below hb (by omega)).cell 1; have d2 := (HBB.out.1.below hb (by omega)).cell 2; have d3 := (HBB.out.1.below hb (by omega)).cell 3; have z0 := (HBB.out.2.below hb (by omega)).cell 0; have z1 := (HBB.out.2.below hb (by omega)).cell 1; have z2 := (HBB.out.2.below hb (by omega)).cell 2; have z3 := (HBB.out.2.below hb (by omega)).cell 3; have e3 := (HBB.out.1.below hb (by omega)).frozen 3; have f0 := (HBB.out.2.below hb (by omega)).frozen 0; have f1 := (HBB.out.2.below hb (by omega)).frozen 1; have f2 := (HBB.out.2.below hb (by omega)).frozen 2; have f3 := (HBB.out.2.below hb (by omega)).frozen 3; simp only [List.getElem?_toArray, List.getElem?_cons_zero, List.getElem?_cons_succ] at d0 d1 d2 d3 z0 z1 z2 z3; clear hown1 hg1 hb)))
  refine bodyPost_ret (v := .agg #[.int .i64 g.W, .int .i64 g.H, .int .i64 g.S, .slice (some ⟨gb, 0, none⟩) g.ss.length cap]) (by simp [results, Tryz.results68, go_sem, z0, z1, z2, z3]) rfl ?_
  refine ⟨gb, cap, rfl, ?_, (HB.out.trans (Hb.out.mono (by omega))).trans (by repeat (first | exact Below.refl _ _ | assumption | refine Below.drew ?_ | refine Below.drewN' ?_ _ | (refine Below.alloc ?_ (by simp <;> omega) _) | (refine Below.setCell ?_ (by simp <;> omega) _)))⟩
  have hf : ∀ j, w.heap.size + 1 + 1 ≤ j → ∀ (W : World) (b o : Nat) (u : Value), b < w.heap.size + 1 + 1 → (W.setCell ⟨b, o, none⟩ u).heap[j]? = W.heap[j]? := fun j hj W b o u hb => Below.heap_setCell W ⟨b, o, none⟩ u j (by show j ≠ b; omega)
  have h := own_far (w' := ((((w1.setCell ⟨w.heap.size, 3, none⟩ (.slice (some ⟨gb, 0, none⟩) g.ss.length cap)).setCell ⟨w.heap.size + 1, 0, none⟩ (.int .i64 g.W)).setCell ⟨w.heap.size + 1, 1, none⟩ (.int .i64 g.H)).setCell ⟨w.heap.size + 1, 2, none⟩ (.int .i64 g.S)).setCell ⟨w.heap.size + 1, 3, none⟩ (.slice (some ⟨gb, 0, none⟩) g.ss.length cap)) H1.out (fun k e => by
    have e2 : gb = k := Option.some.inj e
    subst e2
    rw [hf gb hgb _ _ _ _ (by omega), hf gb hgb _ _ _ _ (by omega), hf gb hgb _ _ _ _ (by omega), hf gb hgb _ _ _ _ (by omega), hf gb hgb _ _ _ _ (by omega)])
  exact own_base h (by omega)
end Go.Proofs.YthcenmocnphnmaaGreatDoor
/-
  Narrow.
-/
namespace Go.Proofs.YthcenmocnphnmaaGreatDoor
open Go.RowKit Go.Shelf

/-- the front of one list, and the rest of another -/
def mix {α : Type} (l m : List α) (z : α) (k : Nat) : List α := (List.range l.length).map fun i => if i < k then m.getD i z else l.getD i z
section
variable {α : Type} {l m : List α} {z : α} {k : Nat}
theorem mix_length : (mix l m z k).length = l.length := by simp [mix]
theorem mix_at {i : Nat} (h : i < (mix l m z k).length) : (mix l m z k)[i] = if i < k then m.getD i z else l.getD i z := by simp [mix]
theorem mix_zero : mix l m z 0 = l := by
  refine List.ext_getElem mix_length fun i h1 h2 => ?_
  rw [mix_at, if_neg (by omega), getD_at h2]
theorem mix_all (h : l.length = m.length) : mix l m z l.length = m := by
  refine List.ext_getElem (mix_length.trans h) fun i h1 h2 => ?_
  rw [mix_at, if_pos (by rw [mix_length] at h1; exact h1), getD_at h2]
theorem mix_get (h : k < l.length) (h' : k < (mix l m z k).length) : (mix l m z k)[k] = l[k] := by
  rw [mix_at, if_neg (Nat.lt_irrefl k), getD_at h]
theorem mix_set (h : k < m.length) : (mix l m z k).set k m[k] = mix l m z (k + 1) := by
  refine List.ext_getElem (by rw [List.length_set, mix_length, mix_length]) fun i h1 h2 => ?_
  rw [List.getElem_set, mix_at, mix_at]
  by_cases e : k = i
  · subst e
    rw [if_pos rfl, if_pos (by omega), getD_at h]
  · rw [if_neg e]
    by_cases hlt : i < k
    · rw [if_pos hlt, if_pos (by omega)]
    · rw [if_neg hlt, if_neg (by omega)]
end
/-- what two spans have together -/
def com (p q : Int × Int) : Int × Int := (max p.1 q.1, min p.2 q.2)
def comL (a b : G) : List (Int × Int) := List.zipWith com a.ss b.ss
def sameG (a b : G) : Bool := a.W == b.W && (a.H == b.H && a.S == b.S)
def narrowR (a b : G) : Int × Int × G := if checkE a = 0 then (if checkE b = 0 then (if sameG a b then (if (comL a b).any emptyB then (((comL a b).findIdx emptyB : Nat), 14, zeroG) else (0, 0, ⟨a.W, a.H, a.S, comL a b⟩)) else (0, 11, zeroG)) else (0, checkE b, zeroG)) else (0, checkE a, zeroG)
def NarrowOut (r : Int × Int × G) (w : World) (e : Ending) (w' : World) : Prop := ∃ x, e = .returned (.tuple #[x, .int .i64 r.1, .int .i64 r.2.1]) ∧ GridAt w' w'.heap.size x r.2.2 ∧ Below w.heap.size w w'
theorem findIdx_at {α : Type} (p : α → Bool) (l : List α) (k : Nat) (h : k < l.length) (ht : (l.take k).any p = false) (hp : p l[k] = true) : l.findIdx p = k := by
  refine (List.findIdx_eq h).2 ⟨hp, fun j hj => ?_⟩
  have h1 := List.any_eq_false.1 ht l[j] (List.mem_take_iff_getElem.2 ⟨j, by omega, rfl⟩)
  simpa using h1

/-- the zero value of a grid in a row, and its stores -/
theorem zero_parts {w : World} {b : Nat} (h : Blk w b 24 #[.int .i64 0, .int .i64 0, .int .i64 0, .slice none 0 0]) :
    (w.cell? ⟨b, 0, none⟩ = some (.int .i64 0) ∧ w.cell? ⟨b, 1, none⟩ = some (.int .i64 0) ∧ w.cell? ⟨b, 2, none⟩ = some (.int .i64 0) ∧ w.cell? ⟨b, 3, none⟩ = some (.slice none 0 0)) ∧ w.frozen? ⟨b, 0, none⟩ = false ∧ w.frozen? ⟨b, 1, none⟩ = false ∧ w.frozen? ⟨b, 2, none⟩ = false ∧ w.frozen? ⟨b, 3, none⟩ = false :=
  ⟨⟨h.cell 0, h.cell 1, h.cell 2, h.cell 3⟩, h.frozen 0, h.frozen 1, h.frozen 2, h.frozen 3⟩
theorem grid_parts {w : World} {b : Nat} {W H S : Int} {v : Value} (h : Blk w b 24 #[.int .i64 W, .int .i64 H, .int .i64 S, v]) :
    w.cell? ⟨b, 0, none⟩ = some (.int .i64 W) ∧ w.cell? ⟨b, 1, none⟩ = some (.int .i64 H) ∧ w.cell? ⟨b, 2, none⟩ = some (.int .i64 S) ∧ w.cell? ⟨b, 3, none⟩ = some v :=
  ⟨h.cell 0, h.cell 1, h.cell 2, h.cell 3⟩
theorem set4_far {w : World} {b : Nat} {k : Nat} (h : k ≠ b) (u0 u1 u2 u3 : Value) : ((((w.setCell ⟨b, 0, none⟩ u0).setCell ⟨b, 1, none⟩ u1).setCell ⟨b, 2, none⟩ u2).setCell ⟨b, 3, none⟩ u3).heap[k]? = w.heap[k]? := by
  rw [Below.heap_setCell _ _ _ _ (by exact h), Below.heap_setCell _ _ _ _ (by exact h), Below.heap_setCell _ _ _ _ (by exact h), Below.heap_setCell _ _ _ _ (by exact h)]

set_option maxRecDepth 100000 in
set_option maxHeartbeats 4000000 in
theorem Narrow_any (x y : Value) (a b : G) (w : World) (hx : GridAt w w.heap.size x a) (hy : GridAt w w.heap.size y b) :
    Calls Tryz.prog 28 #[x, y] w (NarrowOut (narrowR a b) w) := by
  have HX := Lib.hid hx
  have HY := Lib.hid hy
  obtain ⟨v, rfl, hs⟩ := hx
  obtain ⟨A, k, rfl, hk, hm⟩ := hs.open_
  obtain ⟨u, rfl, ht⟩ := hy
  obtain ⟨A', k', rfl, hk', hm'⟩ := ht.open_
  have HS := Lib.hid hs
  have HT := Lib.hid ht
  have hB : Below w.heap.size w (((w.alloc (.cells #[.int .i64 a.W, .int .i64 a.H, .int .i64 a.S, .slice A a.ss.length k] 24)).alloc (.cells #[.int .i64 b.W, .int .i64 b.H, .int .i64 b.S, .slice A' b.ss.length k'] 24)).alloc (.cells #[.int .i64 0, .int .i64 0, .int .i64 0, .slice none 0 0] 24)) := (by repeat (first | exact Below.refl _ _ | assumption | refine Below.drew ?_ | refine Below.drewN' ?_ _ | (refine Below.alloc ?_ (by simp <;> omega) _) | (refine Below.setCell ?_ (by simp <;> omega) _)))
  have HB := Lib.hid hB
  have b0 : Blk (((w.alloc (.cells #[.int .i64 a.W, .int .i64 a.H, .int .i64 a.S, .slice A a.ss.length k] 24)).alloc (.cells #[.int .i64 b.W, .int .i64 b.H, .int .i64 b.S, .slice A' b.ss.length k'] 24)).alloc (.cells #[.int .i64 0, .int .i64 0, .int .i64 0, .slice none 0 0] 24)) w.heap.size 24 #[.int .i64 a.W, .int .i64 a.H, .int .i64 a.S, .slice A a.ss.length k] := Blk.alloc (Blk.alloc (Blk.new' _ _ _ rfl) _) _
  have b1 : Blk (((w.alloc (.cells #[.int .i64 a.W, .int .i64 a.H, .int .i64 a.S, .slice A a.ss.length k] 24)).alloc (.cells #[.int .i64 b.W, .int .i64 b.H, .int .i64 b.S, .slice A' b.ss.length k'] 24)).alloc (.cells #[.int .i64 0, .int .i64 0, .int .i64 0, .slice none 0 0] 24)) (w.heap.size + 1) 24 #[.int .i64 b.W, .int .i64 b.H, .int .i64 b.S, .slice A' b.ss.length k'] := Blk.alloc (Blk.new' _ _ _ (by simp)) _
  have b2 : Blk (((w.alloc (.cells #[.int .i64 a.W, .int .i64 a.H, .int .i64 a.S, .slice A a.ss.length k] 24)).alloc (.cells #[.int .i64 b.W, .int .i64 b.H, .int .i64 b.S, .slice A' b.ss.length k'] 24)).alloc (.cells #[.int .i64 0, .int .i64 0, .int .i64 0, .slice none 0 0] 24)) (w.heap.size + 1 + 1) 24 #[.int .i64 0, .int .i64 0, .int .i64 0, .slice none 0 0] := Blk.new' _ _ _ (by simp)
  have HBB := Lib.hid (And.intro b0 (And.intro b1 b2))
  clear hs ht hB b0 b1 b2
  go_enter Tryz.func28, Tryz.ntmps28
  go_wp2_with fail
  refine (check_any _ a _ (HX.out.later HB.out (Nat.le_refl _))).mono ?_
  rintro e w1 ⟨rfl, hb1⟩
  have HB1 := Lib.hid (HB.out.trans (hb1.mono HB.out.size))
  have hn1 : w.heap.size + 1 + 1 + 1 ≤ w1.heap.size := by have := hb1.size; simpa using this
  have HBB1 := Lib.hid (And.intro (HBB.out.1.below hb1 (by simp <;> omega)) (And.intro (HBB.out.2.1.below hb1 (by simp <;> omega)) (HBB.out.2.2.below hb1 (by simp <;> omega))))
  clear hb1
  obtain ⟨⟨z0, z1, z2, z3⟩, f0, f1, f2, f3⟩ := zero_parts HBB1.out.2.2
  by_cases h0 : checkE a = 0
  case neg =>
    have He : Hid ((0, checkE a, zeroG) = narrowR a b) := by unfold narrowR; rw [Hid, if_neg h0]
    have hb : (checkE a != 0) = true := by simpa using h0
    clear h0
    go_wp2
    refine bodyPost_ret (v := .tuple #[.agg #[.int .i64 0, .int .i64 0, .int .i64 0, .slice none 0 0], .int .i64 0, .int .i64 (checkE a)]) (by simp [results, Tryz.results28, go_sem, z0, z1, z2, z3, f0, f1, f2, f3]) rfl ?_
    rw [← He.out]
    exact ⟨_, rfl, grid_zero _ _, HB1.out.trans (by repeat (first | exact Below.refl _ _ | assumption | refine Below.drew ?_ | refine Below.drewN' ?_ _ | (refine Below.alloc ?_ (by simp <;> omega) _) | (refine Below.setCell ?_ (by simp <;> omega) _)))⟩
  have hb : (checkE a != 0) = false := by simpa using h0
  have H0 := Lib.hid h0
  clear h0
  obtain ⟨d0, d1, d2, d3⟩ := grid_parts HBB1.out.1
  obtain ⟨c0, c1, c2, c3⟩ := grid_parts HBB1.out.2.1
  go_wp2_with fail
  refine (check_any _ b _ (HY.out.later HB1.out (Nat.le_refl _))).mono ?_
  rintro e w2 ⟨rfl, hb2⟩
  have HB2 := Lib.hid (HB1.out.trans (hb2.mono HB1.out.size))
  have hn2 : w.heap.size + 1 + 1 + 1 ≤ w2.heap.size := by have := hb2.size; omega
  have HBB2 := Lib.hid (And.intro (HBB1.out.1.below hb2 (by omega)) (And.intro (HBB1.out.2.1.below hb2 (by omega)) (HBB1.out.2.2.below hb2 (by omega))))
  clear hb2 d0 d1 d2 d3 c0 c1 c2 c3 z0 z1 z2 z3 f0 f1 f2 f3
  obtain ⟨⟨z0, z1, z2, z3⟩, f0, f1, f2, f3⟩ := zero_parts HBB2.out.2.2
  by_cases h1 : checkE b = 0
  case neg =>
    have He : Hid ((0, checkE b, zeroG) = narrowR a b) := by unfold narrowR; rw [Hid, if_pos H0.out, if_neg h1]
    have hb' : (checkE b != 0) = true := by simpa using h1
    clear h1
    go_wp2
    refine bodyPost_ret (v := .tuple #[.agg #[.int .i64 0, .int .i64 0, .int .i64 0, .slice none 0 0], .int .i64 0, .int .i64 (checkE b)]) (by simp [results, Tryz.results28, go_sem, z0, z1, z2, z3, f0, f1, f2, f3]) rfl ?_
    rw [← He.out]
    exact ⟨_, rfl, grid_zero _ _, HB2.out.trans (by repeat (first | exact Below.refl _ _ | assumption | refine Below.drew ?_ | refine Below.drewN' ?_ _ | (refine Below.alloc ?_ (by simp <;> omega) _) | (refine Below.setCell ?_ (by simp <;> omega) _)))⟩
  have hb' : (checkE b != 0) = false := by simpa using h1
  have H1 := Lib.hid h1
  clear h1
  obtain ⟨d0, d1, d2, d3⟩ := grid_parts HBB2.out.1
  obtain ⟨c0, c1, c2, c3⟩ := grid_parts HBB2.out.2.1
  by_cases h2 : sameG a b = true
  case neg =>
    have He : Hid ((0, 11, zeroG) = narrowR a b) := by unfold narrowR; rw [Hid, if_pos H0.out, if_pos H1.out, (hid_not h2).out]; rfl
    by_cases k1 : a.W = b.W
    · by_cases k2 : a.H = b.H
      · have k3 : a.S ≠ b.S := by rintro k3; exact h2 (by unfold sameG; simp [k1, k2, k3])
        have e1 : (a.W != b.W) = false := by simpa using k1
        have e2 : (a.H != b.H) = false := by simpa using k2
        have e3 : (a.S != b.S) = true := by simpa using k3
        clear h2 k1 k2 k3
        go_wp2
        refine bodyPost_ret (v := .tuple #[.agg #[.int .i64 0, .int .i64 0, .int .i64 0, .slice none 0 0], .int .i64 0, .int .i64 11]) (by simp [results, Tryz.results28, go_sem, z0, z1, z2, z3, f0, f1, f2, f3]) rfl ?_
        rw [← He.out]
        exact ⟨_, rfl, grid_zero _ _, HB2.out.trans (by repeat (first | exact Below.refl _ _ | assumption | refine Below.drew ?_ | refine Below.drewN' ?_ _ | (refine Below.alloc ?_ (by simp <;> omega) _) | (refine Below.setCell ?_ (by simp <;> omega) _)))⟩
      · have e1 : (a.W != b.W) = false := by simpa using k1
        have e2 : (a.H != b.H) = true := by simpa using k2
        clear h2 k1 k2
        go_wp2
        refine bodyPost_ret (v := .tuple #[.agg #[.int .i64 0, .int .i64 0, .int .i64 0, .slice none 0 0], .int .i64 0, .int .i64 11]) (by simp [results, Tryz.results28, go_sem, z0, z1, z2, z3, f0, f1, f2, f3]) rfl ?_
        rw [← He.out]
        exact ⟨_, rfl, grid_zero _ _, HB2.out.trans (by repeat (first | exact Below.refl _ _ | assumption | refine Below.drew ?_ | refine Below.drewN' ?_ _ | (refine Below.alloc ?_ (by simp <;> omega) _) | (refine Below.setCell ?_ (by simp <;> omega) _)))⟩
    · have e1 : (a.W != b.W) = true := by simpa using k1
      clear h2 k1
      go_wp2
      refine bodyPost_ret (v := .tuple #[.agg #[.int .i64 0, .int .i64 0, .int .i64 0, .slice none 0 0], .int .i64 0, .int .i64 11]) (by simp [results, Tryz.results28, go_sem, z0, z1, z2, z3, f0, f1, f2, f3]) rfl ?_
      rw [← He.out]
      exact ⟨_, rfl, grid_zero _ _, HB2.out.trans (by repeat (first | exact Below.refl _ _ | assumption | refine Below.drew ?_ | refine Below.drewN' ?_ _ | (refine Below.alloc ?_ (by simp <;> omega) _) | (refine Below.setCell ?_ (by simp <;> omega) _)))⟩
  have hsame : a.W = b.W ∧ a.H = b.H ∧ a.S = b.S := by unfold sameG at h2; simpa using h2
  have hlen : a.ss.length = b.ss.length := by
    have e1 := (valid_of H0.out).len
    have e2 := (valid_of H1.out).len
    rw [hsame.1, hsame.2.1] at e1
    omega
  have e1 : (a.W != b.W) = false := by simpa using hsame.1
  have e2 : (a.H != b.H) = false := by simpa using hsame.2.1
  have e3 : (a.S != b.S) = false := by simpa using hsame.2.2
  have He : Hid (narrowR a b = if (comL a b).any emptyB then ((((comL a b).findIdx emptyB : Nat) : Int), (14 : Int), zeroG) else ((0 : Int), (0 : Int), ⟨a.W, a.H, a.S, comL a b⟩)) := by unfold narrowR; rw [Hid, if_pos H0.out, if_pos H1.out, if_pos h2]
  have hpa := (valid_of H0.out).pos
  have hsm := (valid_of H0.out).small
  have Hlen := Lib.hid hlen
  have HV := Lib.hid (valid_of H0.out)
  have HVb := Lib.hid (valid_of H1.out)
  have Hcl : Hid ((comL a b).length = a.ss.length) := by unfold comL; simp [Hid]; omega
  clear h2 hsame hlen
  go_wp2_with fail
  refine (clone_any _ a.ss _ (HS.out.later HB2.out (Nat.le_refl _)) (by omega) (by omega)).mono ?_
  rintro e w3 ⟨gb, cap, rfl, hown3, hb3⟩
  have HO3 := Lib.hid hown3
  have hgb := hown3.lt gb rfl
  have hcap : a.ss.length ≤ cap := by
    rcases hown3.2 with ⟨e, _⟩ | ⟨_, _, _, e, _, _, h, _⟩
    · cases e
    · injection e with _ _ e; omega
  have HB3 := Lib.hid (HB2.out.trans (hb3.mono HB2.out.size))
  have HB23 := Lib.hid hb3
  have hn3 : w2.heap.size ≤ w3.heap.size := hb3.size
  have HBB3 := Lib.hid (And.intro (HBB2.out.1.below hb3 (by omega)) (And.intro (HBB2.out.2.1.below hb3 (by omega)) (HBB2.out.2.2.below hb3 (by omega))))
  clear hown3 hb3 d0 d1 d2 d3 c0 c1 c2 c3 z0 z1 z2 z3 f0 f1 f2 f3 e1 e2 e3
  go_wp2
  go_loopw [48] (fun i wr => ∃ q : Nat, q ≤ a.ss.length ∧ i = .int .i64 q ∧ Hid (wr.ownsRow w2.heap.size 34 2 (.slice (some ⟨gb, 0, none⟩) a.ss.length cap) a.ss.length (spanCells (mix a.ss (comL a b) (0, 0) q))) ∧ Hid (((comL a b).take q).any emptyB = false) ∧ Below w2.heap.size w2 wr) (fun i _ => a.ss.length - (intOf i).toNat)
  case atStart => exact ⟨0, Nat.zero_le _, rfl, by rw [mix_zero]; exact HO3.out, by simp [Hid], HB23.out⟩
  case round =>
    obtain ⟨q, hq, rfl, Hown, Hany, hBr⟩ := hrel
    clear HO3
    have HBr := Lib.hid hBr
    have HBw := Lib.hid (HB2.out.trans (hBr.mono HB2.out.size))
    have hnr : w2.heap.size ≤ wr.heap.size := hBr.size
    have HBBr := Lib.hid (And.intro (HBB2.out.1.below hBr (by omega)) (And.intro (HBB2.out.2.1.below hBr (by omega)) (HBB2.out.2.2.below hBr (by omega))))
    clear hBr
    by_cases hlt : q < a.ss.length
    · obtain ⟨bb, off, rfl, hbb, c6, c7⟩ := (HT.out.below HBw.out).at_ (k := q) (by have := Hlen.out; omega)
      have hlt' : (q : Int) < b.ss.length := by have := Hlen.out; omega
      have hss : q < (mix a.ss (comL a b) (0, 0) q).length := by rw [mix_length]; exact hlt
      obtain ⟨c4, c5⟩ := own_spans_at Hown.out hss
      rw [mix_get hlt hss] at c4 c5
      have f4 := Hown.out.frozenAt (q * 2)
      have f5 := Hown.out.frozenAt (q * 2 + 1)
      have c3 := HBBr.out.2.1.cell 3
      simp only [List.getElem?_toArray, List.getElem?_cons_zero, List.getElem?_cons_succ] at c3
      have hcl : q < (comL a b).length := by rw [Hcl.out]; exact hlt
      have Hmq : Hid ((mix a.ss (comL a b) (0, 0) q)[q] = a.ss[q]) := mix_get hlt hss
      have Hco : Hid ((comL a b)[q] = com a.ss[q] (b.ss[q]'(by have := Hlen.out; omega))) := by simp [Hid, comL]
      generalize ha : a.ss[q] = pa at *
      generalize hb : b.ss[q]'(by have := Hlen.out; omega) = pb at *
      obtain ⟨a1, a2⟩ := pa
      obtain ⟨b1, b2⟩ := pb
      simp only at c4 c5 c6 c7
      clear ha hb
      go_wp2
      go_region_with
        (first
        | (go_at_call 65; refine (common_any _ _ _ _ _).mono ?_; rintro e W1 ⟨rfl, hb1⟩; have hb1' : Below wr.heap.size wr W1 := ⟨hb1.os, hb1.tape, hb1.output, hb1.size, hb1.block⟩; have ho1 := own_far Hown.out (fun j hj => hb1'.block j (Hown.out.lt j hj).2); have g4 := (own_spans_at ho1 hss).1; have g5 := (own_spans_at ho1 hss).2; have g6 := ho1.frozenAt (q * 2); have g7 := ho1.frozenAt (q * 2 + 1); rw [Hmq.out] at g4 g5; simp only at g4 g5; have g1 := (HBBr.out.2.1.below hb1' (by omega)).cell 3; simp only [List.getElem?_toArray, List.getElem?_cons_zero, List.getElem?_cons_succ] at g1; have g2 := (hb1'.cell (p := ⟨bb, off + q * 2, none⟩) (by simp; omega)).trans c6; have g3 := (hb1'.cell (p := ⟨bb, off + q * 2 + 1, none⟩) (by simp; omega)).trans c7; have HO1 := Lib.hid ho1; have Hb1 := Lib.hid hb1'; clear hb1 hb1' ho1))
      all_goals
        have hWst : Below w2.heap.size w2 ((W1.setCell ⟨gb, q * 2, none⟩ (.int .i64 (max a1 b1))).setCell ⟨gb, q * 2 + 1, none⟩ (.int .i64 (min a2 b2))) := ((HBr.out.trans (Hb1.out.mono hnr)).setCell (by exact hgb.1) _).setCell (by exact hgb.1) _
        have hOst : (((W1.setCell ⟨gb, q * 2, none⟩ (.int .i64 (max a1 b1))).setCell ⟨gb, q * 2 + 1, none⟩ (.int .i64 (min a2 b2)))).ownsRow w2.heap.size 34 2 (.slice (some ⟨gb, 0, none⟩) a.ss.length cap) a.ss.length (spanCells (mix a.ss (comL a b) (0, 0) (q + 1))) := by
          have h := own_spans_set HO1.out hss (max a1 b1) (min a2 b2)
          have e : ((max a1 b1, min a2 b2) : Int × Int) = (comL a b)[q] := Hco.out.symm
          rw [e, mix_set hcl] at h
          exact h
        have HWst := Lib.hid hWst
        have HOst := Lib.hid hOst
        clear hWst hOst
        by_cases he : emptyB (max a1 b1, min a2 b2) = true
        · have HE := Lib.hid he
          have Hr : Hid ((((q : Nat) : Int), (14 : Int), zeroG) = narrowR a b) := by
            have h1 : emptyB (comL a b)[q] = true := by rw [Hco.out]; exact he
            rw [Hid, He.out, if_pos (any_true_at emptyB _ q hcl h1), findIdx_at emptyB _ q hcl Hany.out h1]
          clear he
          go_wp2_with (go_at_call 66; refine (isEmpty_of true HE.out _).mono ?_; rintro e W2 ⟨rfl, hb2⟩; have HW2 := Lib.hid (HWst.out.trans (hb2.mono HWst.out.size)); have hz := zero_parts (HBB2.out.2.2.below HW2.out (by omega)); have z0 := hz.1.1; have z1 := hz.1.2.1; have z2 := hz.1.2.2.1; have z3 := hz.1.2.2.2; have f0 := hz.2.1; have f1 := hz.2.2.1; have f2 := hz.2.2.2.1; have f3 := hz.2.2.2.2; clear hz hb2)
          refine bodyPost_ret (v := .tuple #[.agg #[.int .i64 0, .int .i64 0, .int .i64 0, .slice none 0 0], .int .i64 q, .int .i64 14]) (by simp [results, Tryz.results28, go_sem, z0, z1, z2, z3, f0, f1, f2, f3]) rfl ?_
          rw [← Hr.out]
          exact ⟨_, rfl, grid_zero _ _, (HB2.out.trans (HW2.out.mono HB2.out.size)).trans (by repeat (first | exact Below.refl _ _ | assumption | refine Below.drew ?_ | refine Below.drewN' ?_ _ | (refine Below.alloc ?_ (by simp <;> omega) _) | (refine Below.setCell ?_ (by simp <;> omega) _)))⟩
        · have HE := hid_not he
          have Hsn : Hid (((comL a b).take (q + 1)).any emptyB = false) := any_false_snoc emptyB _ q hcl Hany.out (by rw [Hco.out]; exact HE.out)
          clear he
          go_wp2_with (go_at_call 66; refine (isEmpty_of false HE.out _).mono ?_; rintro e W2 ⟨rfl, hb2⟩; have Hb2 := Lib.hid hb2; clear hb2)
          go_roundw
          case rel => exact ⟨q + 1, by omega, by go_num, own_far HOst.out (fun j hj => Hb2.out.block j (HOst.out.lt j hj).2), Hsn.out, HWst.out.trans (Hb2.out.mono HWst.out.size)⟩
          case measure => simp [intOf]; omega
    · have hq' : q = a.ss.length := by omega
      have HF : Hid (wr.ownsRow w2.heap.size 34 2 (.slice (some ⟨gb, 0, none⟩) a.ss.length cap) a.ss.length (spanCells (comL a b))) := by
        have h := Hown.out
        rw [hq', mix_all Hcl.out.symm] at h
        exact h
      have Hr : Hid (((0 : Int), (0 : Int), (⟨a.W, a.H, a.S, comL a b⟩ : G)) = narrowR a b) := by
        have h := Hany.out
        rw [List.take_of_length_le (by rw [Hcl.out]; omega)] at h
        rw [Hid, He.out, h]
        rfl
      obtain ⟨d0, d1, d2, d3⟩ := grid_parts HBBr.out.1
      clear hq' Hown Hany
      go_wp2_with (go_at_call 67; refine (withGround_any _ _ _ _ _ _ _ _).mono ?_; rintro e W2 ⟨rfl, hb2⟩; have HW2 := Lib.hid (HBr.out.trans (hb2.mono hnr)); have HO2 := Lib.hid (own_far HF.out (fun j hj => hb2.block j (HF.out.lt j hj).2)); have hz := zero_parts (HBB2.out.2.2.below HW2.out (by omega)); have z0 := hz.1.1; have z1 := hz.1.2.1; have z2 := hz.1.2.2.1; have z3 := hz.1.2.2.2; have f0 := hz.2.1; have f1 := hz.2.2.1; have f2 := hz.2.2.2.1; have f3 := hz.2.2.2.2; clear hz hb2)
      refine bodyPost_ret (v := .tuple #[.agg #[.int .i64 a.W, .int .i64 a.H, .int .i64 a.S, .slice (some ⟨gb, 0, none⟩) a.ss.length cap], .int .i64 0, .int .i64 0]) (by simp [results, Tryz.results28, go_sem, z0, z1, z2, z3, f0, f1, f2, f3]) rfl ?_
      rw [← Hr.out]
      refine ⟨_, rfl, ⟨_, rfl, ?_⟩, (HB2.out.trans (HW2.out.mono HB2.out.size)).trans (by repeat (first | exact Below.refl _ _ | assumption | refine Below.drew ?_ | refine Below.drewN' ?_ _ | (refine Below.alloc ?_ (by simp <;> omega) _) | (refine Below.setCell ?_ (by simp <;> omega) _)))⟩
      have h := Reads.of_own (own_far (w' := ((((W2.setCell ⟨w.heap.size + 1 + 1, 0, none⟩ (.int .i64 a.W)).setCell ⟨w.heap.size + 1 + 1, 1, none⟩ (.int .i64 a.H)).setCell ⟨w.heap.size + 1 + 1, 2, none⟩ (.int .i64 a.S)).setCell ⟨w.heap.size + 1 + 1, 3, none⟩ (.slice (some ⟨gb, 0, none⟩) a.ss.length cap))) HO2.out (fun j hj => set4_far (by have := (HO2.out.lt j hj).1; omega) _ _ _ _))
      unfold SpansAt
      rw [Hcl.out]
      exact h
end Go.Proofs.YthcenmocnphnmaaGreatDoor
/-
  Two small laws: the reference's Within by its value; the ends of a span in a row.
-/
namespace Go.Proofs.YthcenmocnphnmaaGreatDoor
open Go.RowKit Go.Shelf

theorem rWithin_is (n l g : Int) (b : Bool) (hb : decide (l ≤ n ∧ n ≤ g) = b) (w : World) :
    Calls Tryz.prog 53 #[.int .i64 n, .int .i64 l, .int .i64 g] w fun e w' => e = .returned (.bool b) ∧ w = w' := by
  subst hb
  exact rWithin_any n l g w
theorem lo_at {l : List (Int × Int)} {c : Nat} (h : c < l.length) : loF l c = l[c].1 ∧ hiF l c = l[c].2 := by
  unfold loF hiF
  rw [List.getD_eq_getElem?_getD, List.getElem?_eq_getElem h]
  exact ⟨rfl, rfl⟩
end Go.Proofs.YthcenmocnphnmaaGreatDoor
