/-
  Layer 3, the laws: lies; rows of cuts; the next cut of a span.
-/
import Derived.Test.YtdhcdgfpkjdihaaDoorVL3b
set_option linter.unusedSimpArgs false
set_option linter.unusedVariables false
namespace Go.Proofs.YtdhcdgfpkjdihaaDoor.Sg
open Go.RowKit Go.Shelf
def Z82 : Oper := ⟨some 26, .move (.tmp 0), 80, "outright.go:31", #[], none⟩
def Z83 : Oper := ⟨some 27, .nilCheck (.tmp 26), 0, "outright.go:31", #[⟨0, .data⟩], none⟩
def Z84 : Oper := ⟨some 28, .fieldAddr 82 (.tmp 27) 0, 0, "outright.go:31", #[⟨1, .data⟩], none⟩
def Z85 : Oper := ⟨some 29, .load 79 (.tmp 28), 79, "outright.go:31", #[⟨2, .data⟩], none⟩
def Z86 : Oper := ⟨some 30, .move (.tmp 0), 80, "outright.go:31", #[], none⟩
def Z87 : Oper := ⟨some 31, .nilCheck (.tmp 30), 0, "outright.go:31", #[⟨4, .data⟩], none⟩
def Z88 : Oper := ⟨some 32, .fieldAddr 82 (.tmp 31) 1, 0, "outright.go:31", #[⟨5, .data⟩], none⟩
def Z89 : Oper := ⟨some 33, .load 3 (.tmp 32), 3, "outright.go:31", #[⟨6, .data⟩], none⟩
def Z8a : Oper := ⟨some 34, .move (.tmp 0), 80, "outright.go:31", #[], none⟩
def Z8b : Oper := ⟨some 35, .nilCheck (.tmp 34), 0, "outright.go:31", #[⟨8, .data⟩], none⟩
def Z8c : Oper := ⟨some 36, .fieldAddr 82 (.tmp 35) 0, 0, "outright.go:31", #[⟨9, .data⟩], none⟩
def Z8d : Oper := ⟨some 37, .load 79 (.tmp 36), 79, "outright.go:31", #[⟨10, .data⟩], none⟩
def Z8e : Oper := ⟨some 38, .call { callee := Callee.builtin Builtin.len, args := #[.tmp 37], argTypes := #[79] }, 3, "outright.go:31", #[⟨11, .data⟩], none⟩
def Z8f : Oper := ⟨some 39, .binOp BinOp.rem 3 (.tmp 33) (.tmp 38) 3, 3, "outright.go:31", #[⟨7, .data⟩, ⟨12, .data⟩], none⟩
def Z8g : Oper := ⟨some 40, .indexAddr 79 (.tmp 29) (.tmp 39), 0, "outright.go:31", #[⟨3, .data⟩, ⟨13, .data⟩], none⟩
def Z8h : Oper := ⟨some 41, .load 96 (.tmp 40), 96, "outright.go:31", #[⟨14, .data⟩], none⟩
def Z8i : Oper := ⟨some 42, .load 26 (.tmp 3), 26, "outright.go:31", #[], none⟩
def Z8j : Oper := ⟨some 43, .call { callee := Callee.value (.func 49), args := #[.tmp 41, .tmp 42], argTypes := #[96, 26] }, 26, "outright.go:31", #[⟨15, .data⟩, ⟨16, .data⟩], none⟩
def Z8k : Oper := ⟨none, .store 26 (.tmp 4) (.tmp 43), 0, "outright.go:31", #[⟨17, .data⟩, ⟨17, .chain⟩, ⟨0, .phase⟩, ⟨1, .phase⟩, ⟨2, .phase⟩, ⟨3, .phase⟩, ⟨4, .phase⟩, ⟨5, .phase⟩, ⟨6, .phase⟩, ⟨7, .phase⟩, ⟨8, .phase⟩, ⟨9, .phase⟩, ⟨10, .phase⟩, ⟨11, .phase⟩, ⟨12, .phase⟩, ⟨13, .phase⟩, ⟨14, .phase⟩, ⟨15, .phase⟩, ⟨16, .phase⟩, ⟨17, .phase⟩], none⟩
def cuC (x : Int × Int) : List Value := [.int .u32 x.1, .int .u32 x.2]
def cuCells (l : List (Int × Int)) : List Value := l.flatMap cuC
def CutsAt (w : World) (B : Nat) (v : Value) (l : List (Int × Int)) : Prop := Reads w B 2 v l.length (cuCells l)
theorem cuCells_length (l : List (Int × Int)) : (cuCells l).length = l.length * 2 := by
 induction l with
 | nil => rfl
 | cons s l ih => simp [cuCells, cuC] at ih ⊢; omega
theorem cuCells_get (l : List (Int × Int)) (k : Nat) (h : k < l.length) : (cuCells l)[k * 2]? = some (.int .u32 l[k].1) ∧ (cuCells l)[k * 2 + 1]? = some (.int .u32 l[k].2) := by
 induction l generalizing k with
 | nil => simp at h
 | cons s l ih =>
  cases k with
  | zero => simp [cuCells, cuC]
  | succ k =>
   have := ih k (by simpa using h)
   have e0 : (k + 1) * 2 = k * 2 + 2 := by omega
   simp only [cuCells, List.flatMap_cons, List.getElem_cons_succ, cuC, List.cons_append, List.nil_append] at this ⊢
   rw [e0]
   exact ⟨by simpa using this.1, by simpa using this.2⟩
section
variable {w w' : World} {B B' : Nat} {v : Value} {l : List (Int × Int)}
theorem CutsAt.below (h : CutsAt w B v l) (hb : Below B w w') : CutsAt w' B v l := Reads.below h hb
theorem CutsAt.later (h : CutsAt w B v l) (hb : Below B w w') (hB : B ≤ w.heap.size) : CutsAt w' w'.heap.size v l := Reads.later h hb hB
theorem CutsAt.open_ (h : CutsAt w B v l) : ∃ A c, v = .slice A l.length c ∧ l.length ≤ c ∧ l.length ≤ 9223372036854775807 := by
 obtain ⟨_, h2, A, c, h3, h4, _⟩ := h
 exact ⟨A, c, h3, h4, h2⟩
theorem CutsAt.at_ {A : Option Addr} {n c : Nat} (h : CutsAt w B (.slice A n c) l) {k : Nat} (hk : k < l.length) :
 ∃ b off, A = some ⟨b, off, none⟩ ∧ b < B ∧ w.cell? ⟨b, off + k * 2, none⟩ = some (.int .u32 l[k].1) ∧ w.cell? ⟨b, off + k * 2 + 1, none⟩ = some (.int .u32 l[k].2) := by
 obtain ⟨h1, _, A', c', h3, h4, h5⟩ := h
 injection h3 with a b d
 subst a b d
 obtain ⟨b, off, rfl, hb, hc⟩ := h5 (by omega)
 obtain ⟨g0, g1⟩ := cuCells_get l k hk
 exact ⟨b, off, rfl, hb, hc _ _ g0, by have := hc _ _ g1; rwa [← Nat.add_assoc] at this⟩
end
set_option maxHeartbeats 1000000 in
theorem lies_any (a1 a2 c1 c2 : Int) (w : World) :
 Calls Tryd.prog 46 #[.agg #[.int .i64 a1, .int .i64 a2], .agg #[.int .i64 c1, .int .i64 c2]] w fun e w' => e = .returned (.bool (decide (Lie (a1, a2) (c1, c2)))) ∧ Below w.heap.size w w' := by
 by_cases h1 : a1 ≤ a2
 all_goals by_cases h2 : c1 ≤ a1
 all_goals by_cases h3 : a2 ≤ c2
 all_goals
  have HD : Hid (decide (Lie (a1, a2) (c1, c2)) = decide (a1 ≤ a2 ∧ c1 ≤ a1 ∧ a2 ≤ c2)) := rfl
  go_enter Tryd.func46, Tryd.ntmps46
  go_wp2
  go_ret
  exact ⟨by rw [HD.out]; simp [h1, h2, h3], (by repeat (first | exact Below.refl _ _ | assumption | refine Below.drew ?_ | refine Below.drewN' ?_ _ | (refine Below.alloc ?_ (by simp <;> omega) _) | (refine Below.setCell ?_ (by simp <;> omega) _)))⟩
def CutOut (b : Nat) (sl : Value) (n lo hi : Int) (w : World) (e : Ending) (w' : World) : Prop := ∃ t1 t2 n', e = .returned (.agg #[.int .i64 t1, .int .i64 t2]) ∧ Lie (t1, t2) (lo, hi) ∧ 0 ≤ n' ∧ n' ≤ n + 1 ∧ Blk w' b 82 #[sl, .int .i64 (n')] ∧ Far (fun i => i = b) w w'
set_option maxRecDepth 100000 in
set_option maxHeartbeats 4000000 in
theorem cuts_any (b : Nat) (A : Option Addr) (c : Nat) (l : List (Int × Int)) (n lo hi : Int) (w : World) (Hb : Hid (Blk w b 82 #[.slice A l.length c, .int .i64 (n)])) (HC : CutsAt w w.heap.size (.slice A l.length c) l) (hcu : ∀ x ∈ l, (0 ≤ x.1 ∧ x.1 < 4294967296) ∧ (0 ≤ x.2 ∧ x.2 < 4294967296)) (hne : 0 < l.length → ∀ bb off, A = some ⟨bb, off, none⟩ → ¬ bb = b) (hn : 0 ≤ n ∧ n ≤ 1000000000) (hs : lo ≤ hi) (hb : -1000000000000 ≤ lo ∧ hi ≤ 1000000000000) :
 Calls Tryd.prog 44 #[.pointer (some ⟨b, 0, none⟩), .agg #[.int .i64 lo, .int .i64 hi]] w (CutOut b (.slice A l.length c) n lo hi w) := by
 by_cases hl : l = []
 ·
  subst hl
  simp only [List.length_nil] at Hb
  clear HC
  go_enter Tryd.func44, Tryd.ntmps44
  go_upto_region 1 with (fail)
  obtain ⟨Va1, hV⟩ : ∃ V, (w.alloc (.cells #[.int .i64 (lo), .int .i64 (hi)] 26)).alloc (.cells #[.int .i64 (0), .int .i64 (0)] 26) = V := ⟨_, rfl⟩
  have Gb := Lib.hid (Hb.out.below (by rw [← hV]; exact (by repeat (first | exact Below.refl _ _ | assumption | refine Below.drew ?_ | refine Below.drewN' ?_ _ | (refine Below.alloc ?_ (by simp <;> omega) _) | (refine Below.setCell ?_ (by simp <;> omega) _))) : Below w.heap.size w Va1) Hb.out.lt)
  have lb := Hb.out.lt
  have Kb3 : Hid (Blk Va1 (w.heap.size) 26 #[.int .i64 (lo), .int .i64 (hi)]) := by rw [← hV]; exact (Blk.new' _ _ _ (by simp)).alloc _
  have Kb4 : Hid (Blk Va1 (w.heap.size + 1) 26 #[.int .i64 (0), .int .i64 (0)]) := by rw [← hV]; exact Blk.new' _ _ _ (by simp)
  have GHB : Hid (Below w.heap.size w Va1) := by rw [← hV]; exact (by repeat (first | exact Below.refl _ _ | assumption | refine Below.drew ?_ | refine Below.drewN' ?_ _ | (refine Below.alloc ?_ (by simp <;> omega) _) | (refine Below.setCell ?_ (by simp <;> omega) _)))
  have HZ : Hid (Below w.heap.size w Va1) := GHB
  rw [hV]
  clear hV HZ Hb
  have Hb := Gb
  clear Gb
  have HB := GHB
  clear GHB
  obtain ⟨b4, hqb4⟩ : ∃ b, w.heap.size + 1 = b := ⟨_, rfl⟩
  obtain ⟨b3, hqb3⟩ : ∃ b, w.heap.size = b := ⟨_, rfl⟩
  have gb3 : w.heap.size ≤ b3 := by omega
  have nb3b : ¬ b3 = b := by omega
  have nbb3 : ¬ b = b3 := by omega
  have gb4 : w.heap.size ≤ b4 := by omega
  have nb4b3 : ¬ b4 = b3 := by omega
  have nb3b4 : ¬ b3 = b4 := by omega
  have nb4b : ¬ b4 = b := by omega
  have nbb4 : ¬ b = b4 := by omega
  rw [hqb4] at Kb4 ⊢
  clear hqb4
  have HN : Hid (w.heap.size = b3) := hqb3
  rw [hqb3] at Kb3 ⊢
  clear hqb3
  have Hb3 := Kb3
  clear Kb3
  have Hb4 := Kb4
  clear Kb4
  clear lb
  have cb0 := kcl0 Hb
  have cb1 := kcl1 Hb
  have cb30 := kcl0 Hb3
  have cb31 := kcl1 Hb3
  have cb40 := kcl0 Hb4
  have cb41 := kcl1 Hb4
  have zb40 : Va1.frozen? ⟨b4, 0, none⟩ = false := Hb4.out.frozen 0
  have zb41 : Va1.frozen? ⟨b4, 1, none⟩ = false := Hb4.out.frozen 1
  go_wp2
  have MZ := (Hb4.out.set_ 0 (.int .i64 lo)).set_ 1 (.int .i64 hi)
  have rz0 := MZ.cell 0
  have rz1 := MZ.cell 1
  simp only [List.setIfInBounds_toArray, List.set_cons_zero, List.set_cons_succ, List.getElem?_toArray, List.getElem?_cons_zero, List.getElem?_cons_succ] at rz0 rz1
  refine bodyPost_ret (v := .agg #[.int .i64 (lo), .int .i64 (hi)]) (by simp [results, Tryd.results44, go_sem, rz0, rz1]) rfl ⟨lo, hi, n, rfl, Lie.self hs, hn.1, by omega, ?_, ?_⟩
  · exact (Hb.out.far_ (p := ⟨b4, 0, none⟩) nbb4 _).far_ (p := ⟨b4, 1, none⟩) nbb4 _
  · exact Far.of_below ((HB.out.setCell (p := ⟨b4, 0, none⟩) gb4 _).setCell (p := ⟨b4, 1, none⟩) gb4 _)
 ·
  have hlp : 0 < l.length := List.length_pos_iff.2 hl
  have hlen := HC.2.1
  obtain ⟨k, hk0⟩ : ∃ k : Nat, ((n + 1) % (l.length : Int)) = (k : Int) := ⟨((n + 1) % (l.length : Int)).toNat, by have := Int.emod_nonneg (n + 1) (show (l.length : Int) ≠ 0 by omega); omega⟩
  have hk : k < l.length := by have := Int.emod_lt_of_pos (n + 1) (show (0 : Int) < (l.length : Int) by omega); omega
  have htm : (n + 1).tmod (l.length : Int) = (k : Int) := by rw [Int.tmod_eq_emod_of_nonneg (by omega)]; exact hk0
  obtain ⟨bb, off, rfl, hbb, x0, x1⟩ := HC.at_ hk
  have hneb := hne hlp bb off rfl
  clear hne
  have hu := hcu _ (List.getElem_mem hk)
  obtain ⟨⟨c1, c2⟩, hcc⟩ : ∃ z, l[k] = z := ⟨_, rfl⟩
  rw [hcc] at x0 x1 hu
  simp only at x0 x1 hu
  have hL := cut_in (c := (c1, c2)) (s := (lo, hi)) (by simp only; omega) hu.1.1 hu.2.1
  obtain ⟨⟨t1, t2⟩, ht⟩ : ∃ z, cutZ (c1, c2) (lo, hi) = z := ⟨_, rfl⟩
  rw [ht] at hL
  have hk' : (k : Int) < (l.length : Int) := by omega
  have hl0 : ¬ (l.length : Int) = 0 := by omega
  have hhl : ¬ hi < lo := by omega
  have hc' : (l.length : Int) ≤ (c : Int) := by have := HC.open_; obtain ⟨_, _, e, h2, _⟩ := this; injection e with _ _ e3; omega
  have wr1 : IntKind.i64.wrap (n + 1) = n + 1 := IntWalk.i64_in _ (by omega)
  have HT := Lib.hid ht
  have HL := Lib.hid hL
  have X0 := Lib.hid x0
  have X1 := Lib.hid x1
  clear ht hL x0 x1 hk0 HC hcu hcc hl
  generalize l.length = N at *
  have hN0 : ¬ N = 0 := by omega
  have hN1 : ((N : Int) == 0) = false := by simp; omega
  clear hlp
  go_enter Tryd.func44, Tryd.ntmps44
  go_upto_region 1 with (fail)
  obtain ⟨Va51, hV⟩ : ∃ V, (w.alloc (.cells #[.int .i64 (lo), .int .i64 (hi)] 26)).alloc (.cells #[.int .i64 (0), .int .i64 (0)] 26) = V := ⟨_, rfl⟩
  have Gb := Lib.hid (Hb.out.below (by rw [← hV]; exact (by repeat (first | exact Below.refl _ _ | assumption | refine Below.drew ?_ | refine Below.drewN' ?_ _ | (refine Below.alloc ?_ (by simp <;> omega) _) | (refine Below.setCell ?_ (by simp <;> omega) _))) : Below w.heap.size w Va51) Hb.out.lt)
  have lb := Hb.out.lt
  have Kb3 : Hid (Blk Va51 (w.heap.size) 26 #[.int .i64 (lo), .int .i64 (hi)]) := by rw [← hV]; exact (Blk.new' _ _ _ (by simp)).alloc _
  have Kb4 : Hid (Blk Va51 (w.heap.size + 1) 26 #[.int .i64 (0), .int .i64 (0)]) := by rw [← hV]; exact Blk.new' _ _ _ (by simp)
  have GHB : Hid (Below w.heap.size w Va51) := by rw [← hV]; exact (by repeat (first | exact Below.refl _ _ | assumption | refine Below.drew ?_ | refine Below.drewN' ?_ _ | (refine Below.alloc ?_ (by simp <;> omega) _) | (refine Below.setCell ?_ (by simp <;> omega) _)))
  have HZ : Hid (Below w.heap.size w Va51) := GHB
  rw [hV]
  clear hV HZ Hb
  have Hb := Gb
  clear Gb
  have HB := GHB
  clear GHB
  obtain ⟨b4, hqb4⟩ : ∃ b, w.heap.size + 1 = b := ⟨_, rfl⟩
  obtain ⟨b3, hqb3⟩ : ∃ b, w.heap.size = b := ⟨_, rfl⟩
  have gb3 : w.heap.size ≤ b3 := by omega
  have nb3b : ¬ b3 = b := by omega
  have nbb3 : ¬ b = b3 := by omega
  have gb4 : w.heap.size ≤ b4 := by omega
  have nb4b3 : ¬ b4 = b3 := by omega
  have nb3b4 : ¬ b3 = b4 := by omega
  have nb4b : ¬ b4 = b := by omega
  have nbb4 : ¬ b = b4 := by omega
  rw [hqb4] at Kb4 ⊢
  clear hqb4
  have HN : Hid (w.heap.size = b3) := hqb3
  rw [hqb3] at Kb3 ⊢
  clear hqb3
  have Hb3 := Kb3
  clear Kb3
  have Hb4 := Kb4
  clear Kb4
  clear lb
  have cb0 := kcl0 Hb
  have cb1 := kcl1 Hb
  have cb30 := kcl0 Hb3
  have cb31 := kcl1 Hb3
  have zb0 : Va51.frozen? ⟨b, 0, none⟩ = false := Hb.out.frozen 0
  have zb1 : Va51.frozen? ⟨b, 1, none⟩ = false := Hb.out.frozen 1
  go_upto_region 4 with (fail)
  clear cb0 cb1 cb30 cb31
  clear zb0 zb1
  obtain ⟨Va52, hV⟩ : ∃ V, Va51.setCell ⟨b, 1, none⟩ (.int .i64 (n + 1)) = V := ⟨_, rfl⟩
  have Gb : Hid (Blk Va52 b 82 #[.slice (some ⟨bb, off, none⟩) N c, .int .i64 (n + 1)]) := by rw [← hV]; exact Hb.out.set_ 1 _
  have Gb3 : Hid (Blk Va52 b3 26 #[.int .i64 (lo), .int .i64 (hi)]) := by rw [← hV]; exact Hb3.out.far_ (p := ⟨b, 1, none⟩) nb3b _
  have Gb4 : Hid (Blk Va52 b4 26 #[.int .i64 0, .int .i64 0]) := by rw [← hV]; exact Hb4.out.far_ (p := ⟨b, 1, none⟩) nb4b _
  have HF : Hid (Far (fun i => i = b) w Va52) := by rw [← hV]; exact Far.setCell (o := fun i => i = b) (Far.of_below HB.out) (p := ⟨b, 1, none⟩) (Or.inl rfl) _
  rw [hV]
  clear hV Hb Hb3 Hb4 HB
  have Hb := Gb
  have Hb3 := Gb3
  have Hb4 := Gb4
  clear Gb Gb3 Gb4
  have hbz : ¬ bb = b := hneb
  have hbw : bb < Va52.heap.size := Nat.lt_of_lt_of_le hbb HF.out.size
  have XX0 := Lib.hid ((HF.out.cell (p := ⟨bb, off + k * 2, none⟩) hbb (fun e => hbz e)).trans X0.out)
  have XX1 := Lib.hid ((HF.out.cell (p := ⟨bb, off + k * 2 + 1, none⟩) hbb (fun e => hbz e)).trans X1.out)
  have HSV : Hid (∀ U, Below Va52.heap.size Va52 U → U.cell? ⟨b, 0, none⟩ = some (.slice (some ⟨bb, off, none⟩) N c) ∧ U.cell? ⟨b, 1, none⟩ = some (.int .i64 (n + 1)) ∧ U.cell? ⟨b3, 0, none⟩ = some (.int .i64 (lo)) ∧ U.cell? ⟨b3, 1, none⟩ = some (.int .i64 (hi)) ∧ U.cell? ⟨bb, off + k * 2, none⟩ = some (.int .u32 (c1)) ∧ U.cell? ⟨bb, off + k * 2 + 1, none⟩ = some (.int .u32 (c2))) := fun U hU => by
   have kb := Hb.out.below hU Hb.out.lt
   have kb3 := Hb3.out.below hU Hb3.out.lt
   exact ⟨kb.cell 0, kb.cell 1, kb3.cell 0, kb3.cell 1, (hU.cell (p := ⟨bb, off + k * 2, none⟩) hbw).trans XX0.out, (hU.cell (p := ⟨bb, off + k * 2 + 1, none⟩) hbw).trans XX1.out⟩
  have k0 := HSV.out _ (Below.drew (Below.refl Va52.heap.size Va52))
  refine wp_region_noPanic ?_
  refine wp_region_L (S := (fun w' => w'.cell? ⟨b, 0, none⟩ = some (.slice (some ⟨bb, off, none⟩) N c) ∧ w'.cell? ⟨b, 1, none⟩ = some (.int .i64 (n + 1)) ∧ w'.cell? ⟨b3, 0, none⟩ = some (.int .i64 (lo)) ∧ w'.cell? ⟨b3, 1, none⟩ = some (.int .i64 (hi)) ∧ w'.cell? ⟨bb, off + k * 2, none⟩ = some (.int .u32 (c1)) ∧ w'.cell? ⟨bb, off + k * 2 + 1, none⟩ = some (.int .u32 (c2)))) (ks := [18]) (by kernel_rfl) ?_ (fun hHeld => ?_)
  · (try dsimp only); (exact k0)
  refine tL 0 Z82 ?_ ?_ ?_
  rotate_left
  · ((intro w hSw; delta Z82; (try dsimp only at hSw); go_simp) <;> with_reducible rfl)
  try simp only [Z82, ksz]
  refine tL 4 Z86 ?_ ?_ ?_
  rotate_left
  · ((intro w hSw; delta Z86; (try dsimp only at hSw); go_simp) <;> with_reducible rfl)
  try simp only [Z86, ksz]
  refine tL 8 Z8a ?_ ?_ ?_
  rotate_left
  · ((intro w hSw; delta Z8a; (try dsimp only at hSw); go_simp) <;> with_reducible rfl)
  try simp only [Z8a, ksz]
  refine tL 16 Z8i ?_ ?_ ?_
  rotate_left
  · ((intro w hSw; delta Z8i; (try dsimp only at hSw); go_simp) <;> with_reducible rfl)
  try simp only [Z8i, ksz]
  refine tL 1 Z83 ?_ ?_ ?_
  rotate_left
  · ((intro w hSw; delta Z83; (try dsimp only at hSw); go_simp) <;> with_reducible rfl)
  try simp only [Z83, ksz]
  refine tL 5 Z87 ?_ ?_ ?_
  rotate_left
  · ((intro w hSw; delta Z87; (try dsimp only at hSw); go_simp) <;> with_reducible rfl)
  try simp only [Z87, ksz]
  refine tL 9 Z8b ?_ ?_ ?_
  rotate_left
  · ((intro w hSw; delta Z8b; (try dsimp only at hSw); go_simp) <;> with_reducible rfl)
  try simp only [Z8b, ksz]
  refine tL 2 Z84 ?_ ?_ ?_
  rotate_left
  · ((intro w hSw; delta Z84; (try dsimp only at hSw); go_simp) <;> with_reducible rfl)
  try simp only [Z84, ksz]
  refine tL 6 Z88 ?_ ?_ ?_
  rotate_left
  · ((intro w hSw; delta Z88; (try dsimp only at hSw); go_simp) <;> with_reducible rfl)
  try simp only [Z88, ksz]
  refine tL 10 Z8c ?_ ?_ ?_
  rotate_left
  · ((intro w hSw; delta Z8c; (try dsimp only at hSw); go_simp) <;> with_reducible rfl)
  try simp only [Z8c, ksz]
  refine tL 3 Z85 ?_ ?_ ?_
  rotate_left
  · ((intro w hSw; delta Z85; (try dsimp only at hSw); go_simp) <;> with_reducible rfl)
  try simp only [Z85, ksz]
  refine tL 7 Z89 ?_ ?_ ?_
  rotate_left
  · ((intro w hSw; delta Z89; (try dsimp only at hSw); go_simp) <;> with_reducible rfl)
  try simp only [Z89, ksz]
  refine tL 11 Z8d ?_ ?_ ?_
  rotate_left
  · ((intro w hSw; delta Z8d; (try dsimp only at hSw); go_simp) <;> with_reducible rfl)
  try simp only [Z8d, ksz]
  obtain ⟨W0, hW0⟩ : ∃ V, Va52.drew = V := ⟨_, rfl⟩; rw [hW0] at hHeld ⊢; have HB0 : Hid (Below Va52.heap.size Va52 W0) := (by rw [← hW0]; exact Below.drew (Below.refl _ _)); clear hW0
  refine wpAnyL_ready (rs := [12]) (by kernel_rfl) (by simp) ?_
  refine AllReadyL.cons (o := Z8e) rfl (fun K hK => ?_) AllReadyL.nil
  delta Z8e
  go_simp
  refine hK.out _ _ ?_ (fun hHeld => ?_)
  · (try dsimp only); (exact HSV.out _ HB0.out)
  clear hK K
  try simp only [Z8e, ksz]
  refine tL 13 Z8f ?_ ?_ ?_
  rotate_left
  · ((intro w hSw; delta Z8f; (try dsimp only at hSw); go_simp) <;> with_reducible rfl)
  try simp only [Z8f, ksz]
  refine tL 14 Z8g ?_ ?_ ?_
  rotate_left
  · ((intro w hSw; delta Z8g; (try dsimp only at hSw); go_simp) <;> with_reducible rfl)
  try simp only [Z8g, ksz]
  refine tL 15 Z8h ?_ ?_ ?_
  rotate_left
  · ((intro w hSw; delta Z8h; (try dsimp only at hSw); go_simp) <;> with_reducible rfl)
  try simp only [Z8h, ksz]
  refine wpAnyL_ready (rs := [17]) (by kernel_rfl) (by simp) ?_
  refine AllReadyL.cons (o := Z8j) rfl (fun K hK => ?_) AllReadyL.nil
  delta Z8j
  go_simp
  (refine (Cut_any c1 c2 lo hi _ hu.1 hu.2 (by omega) hb).mono ?_; rintro e W1 ⟨rfl, hb⟩; have HB1 := Lib.hid (HB0.out.trans (hb.mono HB0.out.size)); clear hb; rw [HT.out]; simp only)
  refine hK.out _ _ ?_ (fun hHeld => ?_)
  · (try dsimp only); (exact HSV.out _ HB1.out)
  clear hK K
  try simp only [Z8j, ksz]
  have Gb := Lib.hid (Hb.out.below HB1.out Hb.out.lt); have Gb3 := Lib.hid (Hb3.out.below HB1.out Hb3.out.lt); have Gb4 := Lib.hid (Hb4.out.below HB1.out Hb4.out.lt); have GHF := Lib.hid (HF.out.trans (Far.of_below HB1.out) (fun _ _ h => h)); clear Hb Hb3 Hb4 HF; have Hb := Gb; clear Gb; have Hb3 := Gb3; clear Gb3; have Hb4 := Gb4; clear Gb4; have HF := GHF; clear GHF; have cR0 := Hb4.out.cell 0; have zR0 := Hb4.out.frozen 0; have cR1 := Hb4.out.cell 1; have zR1 := Hb4.out.frozen 1; simp only [List.getElem?_toArray, List.getElem?_cons_zero, List.getElem?_cons_succ] at cR0 cR1
  refine wpAnyL_ready (rs := [18]) (by kernel_rfl) (by simp) ?_
  refine AllReadyL.gate (o := Z8k) rfl (by kernel_rfl) (fun K hK => ?_) AllReadyL.nil
  delta Z8k
  go_simp
  refine hK.out _ _ ?_
  clear hK K
  try simp only [Z8k, ksz]
  obtain ⟨Va53, hV⟩ : ∃ V, (W1.setCell ⟨b4, 0, none⟩ (.int .i64 (t1))).setCell ⟨b4, 1, none⟩ (.int .i64 (t2)) = V := ⟨_, rfl⟩; replace Hb : Hid (Blk Va53 b 82 #[.slice (some ⟨bb, off, none⟩) N c, .int .i64 (n + 1)]) := (by rw [← hV]; exact ((Hb.out.far_ (p := ⟨b4, 0, none⟩) nbb4 _).far_ (p := ⟨b4, 1, none⟩) nbb4 _)); replace Hb3 : Hid (Blk Va53 b3 26 #[.int .i64 (lo), .int .i64 (hi)]) := (by rw [← hV]; exact ((Hb3.out.far_ (p := ⟨b4, 0, none⟩) nb3b4 _).far_ (p := ⟨b4, 1, none⟩) nb3b4 _)); replace Hb4 : Hid (Blk Va53 b4 26 #[.int .i64 (t1), .int .i64 (t2)]) := (by rw [← hV]; exact ((Hb4.out.set_ 0 (.int .i64 (t1))).set_ 1 (.int .i64 (t2)))); replace HF := Lib.hid ((show Far (fun i => i = b) w Va53 from by rw [← hV]; exact ((HF.out.setCell (p := ⟨b4, 0, none⟩) (Or.inr gb4) _).setCell (p := ⟨b4, 1, none⟩) (Or.inr gb4) _))); rw [hV]; clear hV cR0 zR0 cR1 zR1
  refine wpAnyL_done (by kernel_rfl) ?_ _
  refine NoPanic.normal ?_
  clear HSV k0
  clear hHeld HB0 HB1
  have cb40 := kcl0 Hb4
  have cb41 := kcl1 Hb4
  go_wp2
  refine bodyPost_ret (v := .agg #[.int .i64 (t1), .int .i64 (t2)]) (by simp [results, Tryd.results44, go_sem, cb40, cb41]) rfl ⟨t1, t2, n + 1, rfl, HL.out, by omega, by omega, Hb.out, HF.out⟩
end Go.Proofs.YtdhcdgfpkjdihaaDoor.Sg
