/-
  Layer 2, the program: Windows.
-/
import Derived.Test.YtfblpokjbopagaaMM
import Derived.RangeFuncBox
import Derived.Maps.AppendAt
set_option linter.unusedSimpArgs false
set_option linter.unusedVariables false
namespace Go.Proofs.Ytfblpokjbopagaa
open Go.RowKit Go.Shelf
attribute [local go_sem] Oper.semAt_some

def winStep (m : Md) (v : Int) (st : List (Int × Int) × Bool) (x : Int × Int) : List (Int × Int) × Bool :=
  if (levelZ m x).2 ≤ v then (if st.2 then st.1.dropLast ++ [((st.1.getLastD (0, 0)).1, x.2)] else st.1 ++ [x], true) else (st.1, false)
def winF (m : Md) (v : Int) (l : List (Int × Int)) : List (Int × Int) × Bool := l.foldl (winStep m v) ([], false)
theorem winF_snoc (m : Md) (v : Int) (l : List (Int × Int)) (x : Int × Int) : winF m v (l ++ [x]) = winStep m v (winF m v l) x := by simp [winF, List.foldl_append]
def WinI (st : List (Int × Int) × Bool) (n : Nat) : Prop := (st.2 = true → ∃ p y, st.1 = p ++ [y]) ∧ st.1.length ≤ n
theorem winI_step (m : Md) (v : Int) {st : List (Int × Int) × Bool} {n : Nat} (x : Int × Int) (h : WinI st n) : WinI (winStep m v st x) (n + 1) := by
  unfold winStep
  split
  · refine ⟨fun _ => ?_, ?_⟩
    · simp only
      split
      · exact ⟨_, _, rfl⟩
      · exact ⟨_, _, rfl⟩
    · simp only
      split
      · rename_i h1
        obtain ⟨p, y, e⟩ := h.1 h1
        have := h.2
        rw [e] at this ⊢
        simp at this ⊢
        omega
      · have := h.2
        simp
        omega
  · refine ⟨fun h => by simp at h, ?_⟩
    have := h.2
    simp
    omega
theorem winI_fold (m : Md) (v : Int) (l : List (Int × Int)) : ∀ (st : List (Int × Int) × Bool) (n : Nat), WinI st n → WinI (l.foldl (winStep m v) st) (n + l.length) := by
  induction l with
  | nil => exact fun st n h => h
  | cons x l ih =>
    intro st n h
    have := ih _ _ (winI_step m v x h)
    rw [List.length_cons, show n + (l.length + 1) = n + 1 + l.length by omega]
    exact this
theorem winF_inv (m : Md) (v : Int) (l : List (Int × Int)) : WinI (winF m v l) l.length := by
  have := winI_fold m v l ([], false) 0 ⟨fun h => (by cases h), Nat.le_refl _⟩
  rw [Nat.zero_add] at this
  exact this
theorem win_fold {m : Md} {t : Int × Int} {s v : Int} (k : Nat) (hk : k ≤ nPc t s) : winF m v ((pcs t s).take k) = (winN m t s v k, decide (0 < k) && lowZ m t s v (k - 1)) := by
  induction k with
  | zero => rfl
  | succ k ih =>
    rw [pcs_take (by omega), winF_snoc, ih (by omega)]
    unfold winStep
    simp only
    by_cases hl : lowZ m t s v k = true
    · have h1 : (levelZ m (pcZ t s k)).2 ≤ v := of_decide_eq_true hl
      rw [if_pos h1]
      have e0 : (decide (0 < k + 1) && lowZ m t s v (k + 1 - 1)) = true := by simp [hl]
      rw [e0]
      congr 1
      by_cases hb : (decide (0 < k) && lowZ m t s v (k - 1)) = true
      · rw [if_pos hb]
        rw [Bool.and_eq_true] at hb
        obtain ⟨l, y, e1, e2⟩ := winN_on hl (of_decide_eq_true hb.1) hb.2
        rw [e1, e2, List.dropLast_concat, List.getLastD_concat]
      · rw [if_neg hb]
        refine (winN_new hl ?_).symm
        rcases Nat.eq_zero_or_pos k with h | h
        · exact Or.inl h
        · right
          simpa [h] using hb
    · have hl' : lowZ m t s v k = false := by simpa using hl
      have h1 : ¬ (levelZ m (pcZ t s k)).2 ≤ v := of_decide_eq_false hl'
      rw [if_neg h1, winN_no hl']
      simp [hl']
theorem win_all {m : Md} {t : Int × Int} {s v : Int} : (winF m v (pcs t s)).1 = winZ m t s v := by
  have h := win_fold (m := m) (v := v) (nPc t s) (Nat.le_refl _)
  rw [← pcs_length, List.take_length, pcs_length] at h
  rw [h]
  rfl
def winE (m : Md) (t : Int × Int) (s v : Int) : Int := if pcsE m t s = 0 then (if -20000 ≤ v ∧ v ≤ 20000 then 0 else 3) else pcsE m t s
def winV (m : Md) (t : Int × Int) (s v : Int) : List (Int × Int) := if winE m t s v = 0 then winZ m t s v else []
theorem span_info : (Try.prog.info? 23).map (fun i => (i.zero, i.size, i.bytes)) = some (some (.agg #[.int .i64 0, .int .i64 0]), 2, 16) := by kernel_rfl
theorem keepsFrom_of {W W' : World} {o : Nat → Prop} (B : Nat) (h : Far o W W') (ho : ∀ k ob, o k → W.heap[k]? = some ob → ob.isCells = true) : KeepsFrom B W W' :=
  ⟨h.size, fun k ob _ hk hc => by
    have hne : ¬ o k := fun e => by rw [ho k ob e hk] at hc; cases hc
    exact (h.block k (Array.getElem?_eq_some_iff.1 hk).1 hne).trans hk⟩
theorem blk_cells {w : World} {b t : Nat} {cs : Array Value} {ob : Obj} (h : Blk w b t cs) (k : w.heap[b]? = some ob) : ob.isCells = true := by
  have h1 : w.heap[b]? = some (.cells cs t (0, 0)) := h
  rw [h1] at k
  cases k
  rfl
theorem row_cells {w : World} {base e size n g : Nat} {v : Value} {xs : List Value} {ob : Obj} (h : w.ownsRow base e size v n xs) (hg : v.ownBlock = some g) (k : w.heap[g]? = some ob) : ob.isCells = true := by
  rcases h.2 with ⟨rfl, _⟩ | ⟨g', cap, cur, rfl, _, hgb, _⟩
  · simp [Value.ownBlock] at hg
  · obtain rfl : g' = g := by simpa [Value.ownBlock] using hg
    rw [hgb] at k
    cases k
    rfl
theorem spanCells_last (l : List (Int × Int)) (y : Int × Int) (z : Int) : (spanCells (l ++ [y])).set (l.length * 2 + 1) (.int .i64 z) = spanCells (l ++ [(y.1, z)]) := by
  have h := spanCells_set (l ++ [y]) l.length (y.1, z) (by simp)
  have h0 := (spanCells_get (l ++ [y]) l.length (by simp)).1
  have e : (l ++ [y]).set l.length (y.1, z) = l ++ [(y.1, z)] := by simp
  rw [e] at h
  rw [h]
  congr 1
  have e2 : (l ++ [y])[l.length]'(by simp) = y := by simp
  rw [e2] at h0
  refine List.ext_getElem? fun j => ?_
  by_cases hj : l.length * 2 = j
  · subst hj
    rw [List.getElem?_set]
    simp only [if_true]
    rw [h0]
    split
    · rfl
    · rename_i hn
      exact absurd (by rw [spanCells_length]; simp <;> omega) hn
  · rw [List.getElem?_set_ne hj]
def own10_0 : Oper := { dst := some 29, op := Op.load 35 (Operand.tmp 4), type := 35, pos := "pieces.go:34", after := #[], guard := none }
def own10_1 : Oper := { dst := some 30, op := Op.load 23 (Operand.tmp 13), type := 23, pos := "pieces.go:34", after := #[], guard := none }
def own10_2 : Oper := { dst := some 31, op := Op.call { callee := Callee.value (Operand.func 43), args := #[Operand.tmp 29, Operand.tmp 30], argTypes := #[35, 23] }, type := 23, pos := "pieces.go:34", after := #[{ on := 0, ground := Ground.data }, { on := 1, ground := Ground.data }], guard := none }
def own10_3 : Oper := { dst := some 32, op := Op.field 23 (Operand.tmp 31) 1, type := 3, pos := "pieces.go:34", after := #[{ on := 2, ground := Ground.data }], guard := none }
def own10_4 : Oper := { dst := some 33, op := Op.load 3 (Operand.tmp 7), type := 3, pos := "pieces.go:34", after := #[], guard := none }
def own10_5 : Oper := { dst := some 34, op := Op.binOp BinOp.leq 3 (Operand.tmp 32) (Operand.tmp 33) 3, type := 4, pos := "pieces.go:34", after := #[{ on := 3, ground := Ground.data }, { on := 4, ground := Ground.data }], guard := none }
def own10_6 : Oper := { dst := some 14, op := Op.assign (Operand.tmp 34), type := 4, pos := "pieces.go:34", after := #[{ on := 5, ground := Ground.data }, { on := 2, ground := Ground.chain }, { on := 0, ground := Ground.phase }, { on := 1, ground := Ground.phase }, { on := 2, ground := Ground.phase }, { on := 3, ground := Ground.phase }, { on := 4, ground := Ground.phase }, { on := 5, ground := Ground.phase }], guard := none }

set_option maxRecDepth 100000 in
set_option maxHeartbeats 4000000 in
theorem tWindows_any (x : Value) (m : Md) (lo hi s v : Int) (w : World) (hm : MdAt w w.heap.size x m) (hs : -9223372036854775808 ≤ s ∧ s ≤ 9223372036854775807) :
    Calls Try.prog 26 #[x, .agg #[.int .i64 lo, .int .i64 hi], .int .i64 s, .int .i64 v] w fun e w' => ∃ y, e = .returned (.tuple #[y, .int .i64 (winE m (lo, hi) s v)]) ∧ SpansAt w' w'.heap.size y (winV m (lo, hi) s v) ∧ Below w.heap.size w w' := by
  obtain ⟨vv, rfl, hp⟩ := hm
  have HP := Lib.hid hp
  obtain ⟨A, c, rfl, hc, hlen⟩ := hp.open_
  clear hp
  obtain ⟨i0, hi0, hz0, hz1, hz2⟩ := info_parts span_info
  have HI := Lib.hid (And.intro hi0 (And.intro hz0 (And.intro hz1 hz2)))
  clear hi0 hz0 hz1 hz2
  obtain ⟨mean, ps⟩ := m
  simp only at HP hc hlen ⊢
  obtain ⟨E, hE⟩ : ∃ E, pcsE ⟨mean, ps⟩ (lo, hi) s = E := ⟨_, rfl⟩
  have HM := Lib.hid hE
  obtain ⟨V0, hV⟩ : ∃ V, ((w.alloc (.cells #[.int .i64 mean, .slice A ps.length c] 35)).alloc (.cells #[.int .i64 lo, .int .i64 hi] 23)).alloc (.cells #[.int .i64 v] 3) = V := ⟨_, rfl⟩
  have K1 : Hid (Blk V0 w.heap.size 35 #[.int .i64 mean, .slice A ps.length c]) := by rw [← hV]; exact ((Blk.new' _ _ _ rfl).alloc _).alloc _
  have K3 : Hid (Blk V0 (w.heap.size + 1) 23 #[.int .i64 lo, .int .i64 hi]) := by rw [← hV]; exact (Blk.new' _ _ _ (by simp)).alloc _
  have K2 : Hid (Blk V0 (w.heap.size + 1 + 1) 3 #[.int .i64 v]) := by rw [← hV]; exact Blk.new' _ _ _ (by simp)
  have KB : Hid (Below w.heap.size w V0) := by rw [← hV]; exact (by repeat (first | exact Below.refl _ _ | assumption | refine Below.drew ?_ | refine Below.drewN' ?_ _ | (refine Below.alloc ?_ (by simp <;> omega) _) | (refine Below.setCell ?_ (by simp <;> omega) _)))
  have y0 := K1.out.cell 0
  have y1 := K1.out.cell 1
  have y2 := K2.out.cell 0
  simp only [List.getElem?_toArray, List.getElem?_cons_zero, List.getElem?_cons_succ] at y0 y1 y2
  obtain ⟨f0, f1, -, -⟩ := span_parts K3.out
  clear hE
  refine (callsIn_wide (n := 6)).1 ?_
  refine callsIn_of_wp_marks Try.func26 rfl trivial ?_ rfl
  simp only [Try.ntmps26, List.size_toArray, List.length_cons, List.length_nil, Nat.reduceAdd, Nat.reduceSub, Array.replicate_succ, Array.replicate_zero, List.push_toArray, List.append_toArray, List.nil_append, List.cons_append]
  gi_wp2_with fail
  refine ⟨trivial, (callsIn_wide.2 (checkPieces_any _ ⟨mean, ps⟩ lo hi s _ ⟨_, rfl, HP.out.later KB.out (Nat.le_refl _)⟩ hs)).mono ?_⟩
  rintro e w1 ⟨rfl, hb⟩
  rw [HM.out]
  have J1 := Lib.hid (K1.out.below hb K1.out.lt)
  have J2 := Lib.hid (K2.out.below hb K2.out.lt)
  have J3 := Lib.hid (K3.out.below hb K3.out.lt)
  have JB := Lib.hid (KB.out.trans (hb.mono KB.out.size))
  clear hb hV K1 K2 K3 KB y0 y1 y2 f0 f1
  by_cases h0 : E = 0
  rotate_left
  · have HV : Hid (winE ⟨mean, ps⟩ (lo, hi) s v = E ∧ winV ⟨mean, ps⟩ (lo, hi) s v = []) := by
      have e1 : winE ⟨mean, ps⟩ (lo, hi) s v = E := by unfold winE; rw [HM.out]; exact if_neg h0
      exact ⟨e1, by unfold winV; rw [e1]; exact if_neg h0⟩
    have h0' : (E == 0) = false := beq_eq_false_iff_ne.2 h0
    gi_wp2
    refine bodyM_ret (v := .tuple #[.slice none 0 0, .int .i64 E]) (by simp [results, Try.results26, go_sem]) rfl ⟨_, by rw [HV.out.1], ?_, JB.out⟩
    rw [HV.out.2]
    exact Reads.nil _ _ _
  · subst h0
    obtain ⟨HE0, ht, hs1, hn⟩ := pcsE_zero HM.out
    have HE := Lib.hid HE0
    have y2 := J2.out.cell 0
    simp only [List.getElem?_toArray, List.getElem?_cons_zero, List.getElem?_cons_succ] at y2
    by_cases hv : -20000 ≤ v ∧ v ≤ 20000
    rotate_left
    · have HV : Hid (winE ⟨mean, ps⟩ (lo, hi) s v = 3 ∧ winV ⟨mean, ps⟩ (lo, hi) s v = []) := by
        have e1 : winE ⟨mean, ps⟩ (lo, hi) s v = 3 := by unfold winE; rw [if_pos HM.out]; exact if_neg hv
        exact ⟨e1, by unfold winV; rw [e1]; rfl⟩
      have dv := decide_eq_false hv
      clear HE0
      gi_wp2_with fail
      refine ⟨trivial, (callsIn_wide.2 (within_any v (-20000) 20000 _)).mono ?_⟩
      rintro e w9 ⟨rfl, hw⟩
      obtain rfl := hw
      rw [dv]
      clear dv
      gi_wp2
      refine bodyM_ret (v := .tuple #[.slice none 0 0, .int .i64 3]) (by simp [results, Try.results26, go_sem]) rfl ⟨_, by rw [HV.out.1], ?_, JB.out⟩
      rw [HV.out.2]
      exact Reads.nil _ _ _
    have HV : Hid (winE ⟨mean, ps⟩ (lo, hi) s v = 0 ∧ winV ⟨mean, ps⟩ (lo, hi) s v = (winF ⟨mean, ps⟩ v (pcs (lo, hi) s)).1) := by
      have e1 : winE ⟨mean, ps⟩ (lo, hi) s v = 0 := by unfold winE; rw [if_pos HM.out]; exact if_pos hv
      exact ⟨e1, by unfold winV; rw [if_pos e1, win_all]⟩
    have dv := decide_eq_true hv
    clear HE0
    gi_wp2_with fail
    refine ⟨trivial, (callsIn_wide.2 (within_any v (-20000) 20000 _)).mono ?_⟩
    rintro e w9 ⟨rfl, hw⟩
    obtain rfl := hw
    rw [dv]
    clear dv
    have l1 := J1.out.lt
    have l2 := J2.out.lt
    have l3 := J3.out.lt
    obtain ⟨f0, f1, -, -⟩ := span_parts J3.out
    gi_wp2_with fail
    refine ⟨trivial, (callsIn_wide.2 (pieces_any lo hi s _)).mono ?_⟩
    rintro e V5 ⟨rfl, hw3⟩
    have hV := hw3.symm
    have G11' : Blk V5 w1.heap.size 50 #[.slice none 0 0] := by rw [← hV]; exact (((Blk.new' _ _ _ rfl).alloc _).alloc _).alloc _
    have G12' : Blk V5 (w1.heap.size + 1) 4 #[.bool false] := by rw [← hV]; exact ((Blk.new' _ _ _ (by simp)).alloc _).alloc _
    have Gt' : Blk V5 (w1.heap.size + 1 + 1) 23 #[.int .i64 lo, .int .i64 hi] := by rw [← hV]; exact (Blk.new' _ _ _ (by simp)).alloc _
    have Gs' : Blk V5 (w1.heap.size + 1 + 1 + 1) 3 #[.int .i64 s] := by rw [← hV]; exact Blk.new' _ _ _ (by simp)
    have hz : Below w1.heap.size w1 V5 := by rw [← hV]; exact (by repeat (first | exact Below.refl _ _ | assumption | refine Below.drew ?_ | refine Below.drewN' ?_ _ | (refine Below.alloc ?_ (by simp <;> omega) _) | (refine Below.setCell ?_ (by simp <;> omega) _)))
    have G1 := Lib.hid (J1.out.below hz J1.out.lt)
    have G2 := Lib.hid (J2.out.below hz J2.out.lt)
    have G3 := Lib.hid (J3.out.below hz J3.out.lt)
    have GB := Lib.hid (JB.out.trans (hz.mono JB.out.size))
    have i0' := JB.out.size
    clear hw3
    gi_wp2_with fail
    try rw [hV]
    obtain ⟨b11, h11⟩ : ∃ b, w1.heap.size = b := ⟨_, rfl⟩
    rw [h11] at G11' G12' Gt' Gs' l1 l2 l3 i0' ⊢
    obtain ⟨b12, h12⟩ : ∃ b, b11 + 1 = b := ⟨_, rfl⟩
    rw [h12] at G12' Gt' Gs' ⊢
    obtain ⟨bt, hbt⟩ : ∃ b, b12 + 1 = b := ⟨_, rfl⟩
    obtain ⟨bs, hbs⟩ : ∃ b, bt + 1 = b := ⟨_, rfl⟩
    rw [hbt] at Gt' Gs' ⊢
    rw [hbs] at Gs' ⊢
    obtain ⟨n0, hn0⟩ : ∃ b, w.heap.size = b := ⟨_, rfl⟩
    have hn0' := Lib.hid hn0
    rw [hn0] at G1 G2 G3 l1 l2 l3 i0' ⊢
    obtain ⟨n1, hn1⟩ : ∃ b, n0 + 1 = b := ⟨_, rfl⟩
    rw [hn1] at G2 G3 l2 l3 ⊢
    obtain ⟨n2, hn2⟩ : ∃ b, n1 + 1 = b := ⟨_, rfl⟩
    rw [hn2] at G2 l2 ⊢
    have G11 := Lib.hid G11'
    have G12 := Lib.hid G12'
    have Gt := Lib.hid Gt'
    have Gs := Lib.hid Gs'
    have m1 : ¬ (n0 = b11 ∨ n0 = b12) := by omega
    have m2 : ¬ (n2 = b11 ∨ n2 = b12) := by omega
    have m3 : ¬ (bt = b11 ∨ bt = b12) := by omega
    have m4 : ¬ (bs = b11 ∨ bs = b12) := by omega
    have z1 := Gt'.lt
    have z2 := Gs'.lt
    have z11 := G11'.lt
    have z12 := G12'.lt
    have hSt := pieces_stops (fun x : Pc => x.1) (pcsT ht hs1) 5 (by omega) bt bs lo hi s ht ⟨hs1, hs.2⟩ (pcsT_map ht hs1) V5 Gt' Gs'
    have HST := Lib.hid hSt
    have hNN : (pcsT ht hs1).length ≤ 10000 := by
      have h := congrArg List.length (pcsT_map ht hs1)
      rw [List.length_map, pcs_length] at h
      omega
    clear hSt hV hz G11' G12' Gt' Gs' J1 J2 J3 JB f0 f1 l1 l2 l3 y2
    refine wpIn_rangeFunc_ownH rfl (by omega) (gf := 64) (lb := #[.pointer (some ⟨bt, 0, none⟩), .pointer (some ⟨bs, 0, none⟩)]) rfl trivial (enters_of Try.func64 (by kernel_rfl) rfl)
      HST.out pcKp_t (pcKp_b z1 z2) (Below.refl _ _) (fun _ => rfl)
      (fun pre W => (Far (fun i => i = b11 ∨ i = b12) V5 W ∧ Blk W b12 4 #[.bool (winF ⟨mean, ps⟩ v (pre.map (fun x => x.1))).2]) ∧ ∃ u, Boxed W b11 50 u ∧ W.ownsRow V5.heap.size 23 2 u (winF ⟨mean, ps⟩ v (pre.map (fun x => x.1))).1.length (spanCells (winF ⟨mean, ps⟩ v (pre.map (fun x => x.1))).1) ∧ True)
      (fun _ _ _ => False)
      (OwnFrom.and (OwnFrom.and (ownFrom_far _ _ _ (Nat.le_refl _)) (ownFrom_blk _ _ _ _)) (Own.from (holdsRow_own V5.heap.size b11 50 23 2 (fun pre : List Pc => (winF ⟨mean, ps⟩ v (pre.map (fun x => x.1))).1.length) (fun pre => spanCells (winF ⟨mean, ps⟩ v (pre.map (fun x => x.1))).1) (fun _ _ => True)) _))
      (fun _ _ _ _ _ hs _ _ => hs)
      ⟨⟨Far.refl _ _, G12.out⟩, _, G11.out, World.ownsRow_nil _ _ _ _, trivial⟩
      (fun x a' W => ∃ b13, V5.heap.size ≤ b13 ∧ a' = { tmps := #[.agg #[.int .i64 mean, .slice A ps.length c], .agg #[.int .i64 lo, .int .i64 hi], .int .i64 s, .int .i64 v, .pointer (some ⟨n0, 0, none⟩), .pointer (some ⟨n1, 0, none⟩), undef, .pointer (some ⟨n2, 0, none⟩), .slice none 0 0, .int .i64 0, .int .i64 0, .pointer (some ⟨b11, 0, none⟩), .pointer (some ⟨b12, 0, none⟩), .pointer (some ⟨b13, 0, none⟩), undef, .agg #[.int .i64 mean, .slice A ps.length c], .agg #[.int .i64 lo, .int .i64 hi], .int .i64 s, .int .i64 0, .int .i64 0, .bool false, undef, .int .i64 v, .bool true, .bool false, .agg #[.int .i64 lo, .int .i64 hi], .int .i64 s, .func (.func 64) #[] #[.pointer (some ⟨bt, 0, none⟩), .pointer (some ⟨bs, 0, none⟩)], .agg #[.int .i64 x.1.1, .int .i64 x.1.2], undef, undef, undef, undef, undef, undef, undef, undef, undef, undef, undef, undef, undef, undef, undef, undef, undef, undef, undef, undef, undef, undef, undef, undef, undef, undef, undef], defers := [] } ∧ Blk W b13 23 #[.int .i64 x.1.1, .int .i64 x.1.2])
      (fun x a' s W W' row ⟨b13, h1, h2, h3⟩ hg hr => ⟨b13, h1, h2, ownFrom_blk V5.heap.size b13 23 (fun _ : Unit => #[.int .i64 x.1.1, .int .i64 x.1.2]) () W W' row h3 hg hr⟩) ?assign ?body ?done ?stop
    case assign =>
      rintro l pre x W K ⟨⟨hF, hb12⟩, u, hu, hrow, -⟩ hK
      have hsz := hF.size
      gi_wp2
      refine hK _ _ ?_ ?_ ⟨⟨hF.alloc _, hb12.alloc _⟩, u, hu.alloc _, hrow.alloc _, trivial⟩ ⟨W.heap.size, hsz, rfl, Blk.new' _ _ _ rfl⟩
      · exact (KeepsOthers.alloc W _).from _
      · exact ⟨Below.heap_alloc _ _ _ (by omega), Below.heap_alloc _ _ _ (by omega)⟩
    case body =>
      rintro l pre ⟨⟨x1, x2⟩, hx⟩ a' W - - ⟨⟨hF, hb12⟩, u, hu, hrow, -⟩ ⟨b13, g13, rfl, h13⟩ hlt
      simp only at hx h13
      have HF := Lib.hid hF
      have hlt2 : pre.length < 10000 := by omega
      obtain ⟨⟨L, o⟩, hwf⟩ : ∃ z, winF ⟨mean, ps⟩ v (pre.map (fun x => x.1)) = z := ⟨_, rfl⟩
      have hinv := winF_inv ⟨mean, ps⟩ v (pre.map (fun x => x.1))
      have HX : Hid (winF ⟨mean, ps⟩ v ((pre ++ [(⟨(x1, x2), hx⟩ : Pc)]).map (fun x => x.1)) = winStep ⟨mean, ps⟩ v (L, o) (x1, x2)) := by
        rw [List.map_append, List.map_singleton, winF_snoc, hwf]; rfl
      rw [hwf] at hb12 hrow hinv
      obtain ⟨hinv1, hinv2⟩ := hinv
      rw [List.length_map] at hinv2
      simp only at hb12 hrow hinv1 hinv2
      have H12 := Lib.hid hb12
      have HU := Lib.hid hu
      have HR := Lib.hid hrow
      have H13 := Lib.hid h13
      have HIN := Lib.hid hinv1
      clear hF hb12 hu hrow h13 hwf hinv1
      have H1 := Lib.hid (G1.out.far HF.out m1)
      have H2 := Lib.hid (G2.out.far HF.out m2)
      have HSV : Hid (∀ U, Below W.heap.size W U → U.cell? ⟨n0, 0, none⟩ = some (.int .i64 mean) ∧ U.cell? ⟨n0, 1, none⟩ = some (.slice A ps.length c) ∧ U.cell? ⟨n2, 0, none⟩ = some (.int .i64 v) ∧ U.cell? ⟨b13, 0, none⟩ = some (.int .i64 x1) ∧ U.cell? ⟨b13, 1, none⟩ = some (.int .i64 x2)) := fun U hU => by
        have k1 := H1.out.below hU H1.out.lt
        have k2 := H2.out.below hU H2.out.lt
        have k13 := H13.out.below hU H13.out.lt
        exact ⟨k1.cell 0, k1.cell 1, k2.cell 0, k13.cell 0, k13.cell 1⟩
      have HFU : Hid (∀ U, Below W.heap.size W U → Far (fun i => i = b11 ∨ i = b12) V5 U) := fun U hU => HF.out.trans (Far.of_below hU) (fun _ _ h => h)
      have HMD : Hid (∀ U, Far (fun i => i = b11 ∨ i = b12) V5 U → PrtsAt U U.heap.size (.slice A ps.length c) ps) := fun U hU => by
        have hb := GB.out.trans (hU.below GB.out.size (by intro i hi h; have := hn0'.out; omega))
        exact (HP.out.below hb).more hb.size
      have k0 := HSV.out _ (Below.drew (Below.refl W.heap.size W))
      obtain ⟨Lb, hLb⟩ : ∃ q, (levelZ ⟨mean, ps⟩ (x1, x2)).2 = q := ⟨_, rfl⟩
      have HST1 : Hid (winStep ⟨mean, ps⟩ v (L, o) (x1, x2) = if Lb ≤ v then (if o then L.dropLast ++ [((L.getLastD (0, 0)).1, x2)] else L ++ [(x1, x2)], true) else (L, false)) := by unfold winStep; rw [hLb]; rfl
      rw [HST1.out] at HX
      clear HST1
      have hfd := fieldS1
      dsimp only
      gi_wp2_with fail
      refine wpIn_region_calm (S := (fun w' => w'.cell? ⟨n0, 0, none⟩ = some (.int .i64 mean) ∧ w'.cell? ⟨n0, 1, none⟩ = some (.slice A ps.length c) ∧ w'.cell? ⟨n2, 0, none⟩ = some (.int .i64 v) ∧ w'.cell? ⟨b13, 0, none⟩ = some (.int .i64 x1) ∧ w'.cell? ⟨b13, 1, none⟩ = some (.int .i64 x2))) (ks := []) (by kernel_rfl) (by kernel_rfl) ?_ (fun hHeld => ?_)
      · (try dsimp only); (exact k0)
      refine wpAnyL_take (i := 0) (oi := own10_0) (v := ?_) rfl (by kernel_rfl) (fun _ _ _ h => h) (Or.inl ⟨by rfl, ?_⟩) (by assumption) ?_
      rotate_left
      · ((intro w hSw; delta own10_0; (try dsimp only at hSw); go_simp) <;> with_reducible rfl)
      try simp only [own10_0, Act.put, List.setIfInBounds_toArray, List.set_cons_zero, List.set_cons_succ]
      refine wpAnyL_take (i := 1) (oi := own10_1) (v := ?_) rfl (by kernel_rfl) (fun _ _ _ h => h) (Or.inl ⟨by rfl, ?_⟩) (by assumption) ?_
      rotate_left
      · ((intro w hSw; delta own10_1; (try dsimp only at hSw); go_simp) <;> with_reducible rfl)
      try simp only [own10_1, Act.put, List.setIfInBounds_toArray, List.set_cons_zero, List.set_cons_succ]
      refine wpAnyL_take (i := 4) (oi := own10_4) (v := ?_) rfl (by kernel_rfl) (fun _ _ _ h => h) (Or.inl ⟨by rfl, ?_⟩) (by assumption) ?_
      rotate_left
      · ((intro w hSw; delta own10_4; (try dsimp only at hSw); go_simp) <;> with_reducible rfl)
      try simp only [own10_4, Act.put, List.setIfInBounds_toArray, List.set_cons_zero, List.set_cons_succ]
      obtain ⟨W0, hW0⟩ : ∃ V, W.drew = V := ⟨_, rfl⟩; rw [hW0] at hHeld ⊢; have HB0 : Hid (Below W.heap.size W W0) := (by rw [← hW0]; exact Below.drew (Below.refl _ _)); clear hW0
      refine wpAnyL_ready (rs := [2]) (by kernel_rfl) (by simp) ?_
      refine AllReadyL.cons (o := own10_2) rfl (fun K hK => ?_) AllReadyL.nil
      delta own10_2
      go_simp
      (refine (levelIn_any _ ⟨mean, ps⟩ x1 x2 _ ⟨_, rfl, HMD.out _ (HFU.out _ HB0.out)⟩ HE.out ⟨by omega, by omega, by omega⟩).mono ?_; rintro e W1 ⟨rfl, hb⟩; rw [hLb]; have HB1 := Lib.hid (HB0.out.trans (hb.mono HB0.out.size)); clear hb)
      refine hK.out _ _ ?_ (fun hHeld => ?_)
      · (try dsimp only); (exact HSV.out _ HB1.out)
      clear hK K
      try simp only [own10_2, Act.put, List.setIfInBounds_toArray, List.set_cons_zero, List.set_cons_succ]
      refine wpAnyL_take (i := 3) (oi := own10_3) (v := ?_) rfl (by kernel_rfl) (fun _ _ _ h => h) (Or.inl ⟨by rfl, ?_⟩) (by assumption) ?_
      rotate_left
      · ((intro w hSw; delta own10_3; (try dsimp only at hSw); go_simp) <;> with_reducible rfl)
      try simp only [own10_3, Act.put, List.setIfInBounds_toArray, List.set_cons_zero, List.set_cons_succ]
      refine wpAnyL_take (i := 5) (oi := own10_5) (v := ?_) rfl (by kernel_rfl) (fun _ _ _ h => h) (Or.inl ⟨by rfl, ?_⟩) (by assumption) ?_
      rotate_left
      · ((intro w hSw; delta own10_5; (try dsimp only at hSw); go_simp) <;> with_reducible rfl)
      try simp only [own10_5, Act.put, List.setIfInBounds_toArray, List.set_cons_zero, List.set_cons_succ]
      refine wpAnyL_take (i := 6) (oi := own10_6) (v := ?_) rfl (by kernel_rfl) (fun _ _ _ h => h) (Or.inl ⟨by rfl, ?_⟩) (by assumption) ?_
      rotate_left
      · ((intro w hSw; delta own10_6; (try dsimp only at hSw); go_simp) <;> with_reducible rfl)
      try simp only [own10_6, Act.put, List.setIfInBounds_toArray, List.set_cons_zero, List.set_cons_succ]
      refine wpAnyL_done (by kernel_rfl) ?_ _
      refine NormOnly.normal ?_
      clear hfd k0 hHeld hLb
      have I12 := Lib.hid (H12.out.below HB1.out H12.out.lt)
      have IU : Hid (Boxed W1 b11 50 u) := Blk.below HU.out HB1.out HU.out.lt
      have IR := Lib.hid (own_below HR.out HB1.out (Nat.le_refl _))
      have I13 := Lib.hid (H13.out.below HB1.out H13.out.lt)
      have IF := Lib.hid (HFU.out _ HB1.out)
      have IW : Hid (Far (fun i => (i = b11 ∨ i = b12) ∨ u.ownBlock = some i) W W1) := Far.of_below HB1.out
      have HCE : Hid (∀ k ob, ((k = b11 ∨ k = b12) ∨ u.ownBlock = some k) → W.heap[k]? = some ob → ob.isCells = true) := by
        rintro k ob ((rfl | rfl) | h) hk
        · exact blk_cells HU.out hk
        · exact blk_cells H12.out hk
        · exact row_cells HR.out h hk
      have hrg := HR.out.lt
      have rt : ¬ ((bt = b11 ∨ bt = b12) ∨ u.ownBlock = some bt) := by
        rintro (h | h)
        · exact m3 h
        · have := (hrg _ h).1; omega
      have rs : ¬ ((bs = b11 ∨ bs = b12) ∨ u.ownBlock = some bs) := by
        rintro (h | h)
        · exact m4 h
        · have := (hrg _ h).1; omega
      have r12 : u.ownBlock ≠ some b12 := fun h => by have := (hrg _ h).1; omega
      have r11 : u.ownBlock ≠ some b11 := fun h => by have := (hrg _ h).1; omega
      have zz := HF.out.size
      obtain ⟨y0, y1, -, -⟩ := span_parts I13.out
      have y2 := I12.out.cell 0
      have y3 := I12.out.frozen 0
      have y4 : W1.cell? ⟨b11, 0, none⟩ = some u := IU.out.cell
      have y5 : W1.frozen? ⟨b11, 0, none⟩ = false := IU.out.frozen
      simp only [List.getElem?_toArray, List.getElem?_cons_zero, List.getElem?_cons_succ] at y2
      clear HB0 HB1 H1 H2 HSV HFU HMD hrg
      by_cases hlow : Lb ≤ v
      rotate_left
      · rw [if_neg hlow] at HX
        have HWE := Lib.hid (IW.out.setCell (p := ⟨b12, 0, none⟩) (Or.inl (Or.inl (Or.inr rfl))) (.bool false))
        have HFE := Lib.hid (IF.out.setCell (p := ⟨b12, 0, none⟩) (Or.inl (Or.inr rfl)) (.bool false))
        have E12 := Lib.hid (I12.out.set_ 0 (.bool false))
        have EU : Hid (Boxed (W1.setCell ⟨b12, 0, none⟩ (.bool false)) b11 50 u) := Blk.far_ (p := ⟨b12, 0, none⟩) IU.out (by show ¬ b11 = b12; omega) (.bool false)
        have ER := Lib.hid (own_set IR.out (p := ⟨b12, 0, none⟩) r12 (.bool false))
        have kt := HWE.out.block bt (by omega) rt
        have ks := HWE.out.block bs (by omega) rs
        gi_wp2
        refine ⟨keepsFrom_of V5.heap.size HWE.out HCE.out, ⟨kt, ks⟩, ⟨HFE.out, ?_⟩, u, EU.out, ?_⟩
        · rw [HX.out]; exact E12.out
        · rw [HX.out]; first | exact ⟨ER.out, trivial⟩ | exact ER.out
      · rw [if_pos hlow] at HX
        cases o
        · have HX2 : Hid (winF ⟨mean, ps⟩ v ((pre ++ [(⟨(x1, x2), hx⟩ : Pc)]).map (fun x => x.1)) = (L ++ [(x1, x2)], true)) := HX.out
          clear HX
          obtain ⟨hi0, hz0, hz1, hz2⟩ := HI.out
          have bz : V5.heap.size ≤ W1.heap.size := IF.out.size
          gi_wp2_with (gi_at_builtin; refine wpListIn_append_own _ rfl _ _ 50 rfl V5.heap.size 23 i0 (.agg #[.int .i64 0, .int .i64 0]) 2 16 Try.underlying50 hi0 hz0 hz1 hz2 rfl (by decide) _ _ _ rfl (IR.out.alloc _) ⟨W1.heap.size, 0, none⟩ 1 1 [.int .i64 x1, .int .i64 x2] rfl rfl (cell_two_new _ _ _ _) (by simp [Value.oneCell']) (by unfold maxLen; omega) (by omega) (by simp <;> omega) ?_; intro v' w8 hown' hgrow _; have hbu := (Boxed.kept (Boxed.alloc IU.out (.cells #[.int .i64 x1, .int .i64 x2] 23)) hgrow (fun e => r11 e.symm)); have hb12 := (blk_grown (I12.out.alloc (.cells #[.int .i64 x1, .int .i64 x2] 23)) hgrow (fun e => r12 e.symm)); have hfw : Far (fun i => (i = b11 ∨ i = b12) ∨ u.ownBlock = some i) W w8 := ((IW.out.alloc (.cells #[.int .i64 x1, .int .i64 x2] 23)).grown hgrow (fun k e => Or.inl (Or.inr e))); have hfv : Far (fun i => i = b11 ∨ i = b12) V5 w8 := ((IF.out.alloc (.cells #[.int .i64 x1, .int .i64 x2] 23)).grown hgrow (fun k e => Or.inr (IR.out.lt k e).1)); obtain ⟨g', cap', rfl⟩ := ownsRow_succ hown'; have q1 := hbu.cell; have q2 := hbu.frozen; have q3 := hb12.cell 0; have q4 := hb12.frozen 0; simp only [List.getElem?_toArray, List.getElem?_cons_zero] at q3; have P1 := Lib.hid hbu; have P2 := Lib.hid hb12; have P3 := Lib.hid hfw; have P4 := Lib.hid hfv; have P5 := Lib.hid hown'; clear hbu hb12 hfw hfv hown' hgrow)
          have hgV := (P5.out.lt g' rfl).1
          have n11 : (Value.slice (some ⟨g', 0, none⟩) (L.length + 1) cap').ownBlock ≠ some b11 := fun h => by simp [Value.ownBlock] at h; omega
          have n12 : (Value.slice (some ⟨g', 0, none⟩) (L.length + 1) cap').ownBlock ≠ some b12 := fun h => by simp [Value.ownBlock] at h; omega
          have A0 := Lib.hid ((P3.out.setCell (p := ⟨b11, 0, none⟩) (Or.inl (Or.inl (Or.inl rfl))) (.slice (some ⟨g', 0, none⟩) (L.length + 1) cap')).setCell (p := ⟨b12, 0, none⟩) (Or.inl (Or.inl (Or.inr rfl))) (.bool true))
          have A1 := Lib.hid ((P4.out.setCell (p := ⟨b11, 0, none⟩) (Or.inl (Or.inl rfl)) (.slice (some ⟨g', 0, none⟩) (L.length + 1) cap')).setCell (p := ⟨b12, 0, none⟩) (Or.inl (Or.inr rfl)) (.bool true))
          have A2 := Lib.hid ((P2.out.far_ (p := ⟨b11, 0, none⟩) (by show ¬ b12 = b11; omega) (.slice (some ⟨g', 0, none⟩) (L.length + 1) cap')).set_ 0 (.bool true))
          have A3 : Hid (Boxed ((w8.setCell ⟨b11, 0, none⟩ (.slice (some ⟨g', 0, none⟩) (L.length + 1) cap')).setCell ⟨b12, 0, none⟩ (.bool true)) b11 50 (.slice (some ⟨g', 0, none⟩) (L.length + 1) cap')) := Blk.far_ (p := ⟨b12, 0, none⟩) (Boxed.set _ P1.out) (by show ¬ b11 = b12; omega) (.bool true)
          have A4 := Lib.hid (own_set (own_set P5.out (p := ⟨b11, 0, none⟩) n11 (.slice (some ⟨g', 0, none⟩) (L.length + 1) cap')) (p := ⟨b12, 0, none⟩) n12 (.bool true))
          have kt := A0.out.block bt (by omega) rt
          have ks := A0.out.block bs (by omega) rs
          refine ⟨keepsFrom_of V5.heap.size A0.out HCE.out, ⟨kt, ks⟩, ⟨A1.out, ?_⟩, _, A3.out, ?_⟩
          · rw [HX2.out]; exact A2.out
          · rw [HX2.out]
            have h := A4.out
            have e : (L ++ [(x1, x2)]).length = L.length + 1 := by simp
            have e2 : spanCells (L ++ [(x1, x2)]) = spanCells L ++ [.int .i64 x1, .int .i64 x2] := by rw [spanCells_append]; rfl
            simp only
            rw [e, e2]
            first | exact ⟨h, trivial⟩ | exact h
        · obtain ⟨p, y, rfl⟩ := HIN.out rfl
          have HX2 : Hid (winF ⟨mean, ps⟩ v ((pre ++ [(⟨(x1, x2), hx⟩ : Pc)]).map (fun x => x.1)) = (p ++ [(y.1, x2)], true)) := by
            rw [Hid, HX.out, if_pos rfl, List.dropLast_concat, List.getLastD_concat]
          clear HX
          obtain ⟨q, hq⟩ : ∃ q, p.length = q := ⟨_, rfl⟩
          have hl : (p ++ [y]).length = q + 1 := by rw [List.length_append, hq]; rfl
          rw [hl] at HR IR
          obtain ⟨g, cap, rfl⟩ := own_some IR.out (Nat.succ_pos _)
          have c1 := IR.out.cellAt (q * 2 + 1) (by omega)
          rw [(spanCells_get (p ++ [y]) q (by omega)).2] at c1
          have c3 := IR.out.frozenAt (q * 2 + 1)
          have hgb : ¬ b12 = g := fun h => r12 (by subst h; rfl)
          have hgu : ¬ b11 = g := fun h => r11 (by subst h; rfl)
          have hgV := (HR.out.lt g rfl).1
          have A0 := Lib.hid ((IW.out.setCell (p := ⟨g, q * 2 + 1, none⟩) (Or.inl (Or.inr rfl)) (.int .i64 x2)).setCell (p := ⟨b12, 0, none⟩) (Or.inl (Or.inl (Or.inr rfl))) (.bool true))
          have A1 := Lib.hid ((IF.out.setCell (p := ⟨g, q * 2 + 1, none⟩) (Or.inr hgV) (.int .i64 x2)).setCell (p := ⟨b12, 0, none⟩) (Or.inl (Or.inr rfl)) (.bool true))
          have A2 := Lib.hid ((I12.out.far_ (p := ⟨g, q * 2 + 1, none⟩) (by exact hgb) (.int .i64 x2)).set_ 0 (.bool true))
          have A3 : Hid (Boxed ((W1.setCell ⟨g, q * 2 + 1, none⟩ (.int .i64 x2)).setCell ⟨b12, 0, none⟩ (.bool true)) b11 50 (.slice (some ⟨g, 0, none⟩) (q + 1) cap)) := Blk.far_ (p := ⟨b12, 0, none⟩) (Blk.far_ (p := ⟨g, q * 2 + 1, none⟩) IU.out (by exact hgu) (.int .i64 x2)) (by show ¬ b11 = b12; omega) (.bool true)
          have A4 := Lib.hid (own_set (IR.out.stored (q * 2 + 1) (.int .i64 x2)).1 (p := ⟨b12, 0, none⟩) r12 (.bool true))
          have kt := A0.out.block bt (by omega) rt
          have ks := A0.out.block bs (by omega) rs
          gi_wp2
          refine ⟨keepsFrom_of V5.heap.size A0.out HCE.out, ⟨kt, ks⟩, ⟨A1.out, ?_⟩, _, A3.out, ?_⟩
          · rw [HX2.out]; exact A2.out
          · rw [HX2.out]
            have h := A4.out
            rw [← hq, spanCells_last] at h
            have e : (p ++ [(y.1, x2)]).length = q + 1 := by rw [List.length_append, hq]; rfl
            simp only
            rw [e, ← hq]
            first | exact ⟨h, trivial⟩ | exact h
    case done =>
      rintro D ys W hD rfl ⟨⟨hF, -⟩, u, hu, hrow, -⟩ hK
      rw [pcsT_map ht hs1] at hrow
      have hc := hu.cell
      have HB := Lib.hid (GB.out.trans (hF.below GB.out.size (by intro i hi h; have := hn0'.out; omega)))
      have HK := Lib.hid hK
      have HR := Lib.hid hrow
      have hDn : w.heap.size ≤ D := by have := GB.out.size; omega
      clear hF hK hrow
      dsimp only
      gi_wp2
      refine bodyM_mark (v := .tuple #[u, .int .i64 0]) (run_takeDeferred HK.out) (by simp [results, Try.results26, go_sem]) rfl ⟨u, by rw [HV.out.1], ?_, ?_⟩
      · rw [HV.out.2]
        exact Reads.of_own (ownsRow_putObj HR.out _ HK.out rfl)
      · exact HB.out.trans (belowK_b (w := w) (Nat.le_refl _) _ D _ _ (by omega) HK.out rfl rfl)
    case stop =>
      rintro D c pre W _ _ h _
      exact h.elim
end Go.Proofs.Ytfblpokjbopagaa
