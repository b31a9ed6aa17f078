/-
  Layer 2, the program: the pieces of a span of times: their count, the check, the iterator.
-/
import Derived.Test.YtfblpokjbopagaaML
import Derived.Test.YtfblpokjbopagaaMD
import Derived.RangeFuncNested
import Derived.RangeFuncBound
import Derived.RangeFuncCalls
import Derived.RangeFuncLeaves
import Derived.Shelf.Abstract
import Derived.Shelf.RegionOpen
import Derived.OwnWalkIn
import Derived.TacticsInMore
import Derived.LoopNIn
import Derived.LoopIn
import Derived.Test.YtfblpokjbopagaaMA
set_option linter.unusedSimpArgs false
set_option linter.unusedVariables false
namespace Go.Proofs.Ytfblpokjbopagaa
open Go.RowKit Go.Shelf
attribute [local go_sem] Oper.semAt_some

theorem up_one {D s : Int} (hs : 0 < s) : (D - 1) / s + 1 = upZ D s := by
  rw [← up_go hs, show D + s - 1 = D - 1 + 1 * s by omega, Int.add_mul_ediv_right _ _ (by omega)]
theorem up_pos {D s : Int} (hs : 0 < s) (hD : 0 < D) : 1 ≤ upZ D s := by
  rw [← up_one hs]
  have := Int.ediv_nonneg (show 0 ≤ D - 1 by omega) (show 0 ≤ s by omega)
  omega
theorem up_zero (s : Int) : upZ 0 s = 0 := by simp [upZ]
/-- the error of a span cut into pieces -/
def pcsE (m : Md) (t : Int × Int) (s : Int) : Int := if levE m t = 0 then (if s < 1 then 3 else if 10000 < nPc t s then 9 else 0) else levE m t
def pcs (t : Int × Int) (s : Int) : List (Int × Int) := (List.range (nPc t s)).map (pcZ t s)
theorem pcs_length (t : Int × Int) (s : Int) : (pcs t s).length = nPc t s := by simp [pcs]
theorem pcs_take {t : Int × Int} {s : Int} {k : Nat} (h : k < nPc t s) : (pcs t s).take (k + 1) = (pcs t s).take k ++ [pcZ t s k] := by
  rw [List.take_succ_eq_append_getElem (by rw [pcs_length]; exact h)]
  simp [pcs]
/-- which piece is the last one -/
theorem pc_step {lo hi s : Int} (hs : 0 < s) (ht : lo ≤ hi) {k : Nat} (hk : k < nPc (lo, hi) s) :
    (s < hi - (lo + k * s) → k + 1 < nPc (lo, hi) s ∧ pcZ (lo, hi) s k = (lo + k * s, lo + k * s + s) ∧ lo + k * s + s = lo + ((k + 1 : Nat) : Int) * s) ∧
    (¬ s < hi - (lo + k * s) → k + 1 = nPc (lo, hi) s ∧ pcZ (lo, hi) s k = (lo + k * s, hi)) := by
  have hr := up_rng (d := hi - lo) hs
  have hn : nPc (lo, hi) s = max 1 (upZ (hi - lo) s).toNat := rfl
  have e1 : ((k + 1 : Nat) : Int) * s = k * s + s := by rw [Int.natCast_add, Int.add_mul, Int.natCast_one, Int.one_mul]
  constructor
  · intro h
    refine ⟨?_, ?_, ?_⟩
    · have : ((k + 1 : Nat) : Int) < upZ (hi - lo) s := by
        rcases Int.lt_or_le ((k + 1 : Nat) : Int) (upZ (hi - lo) s) with g | g
        · exact g
        · have := Int.mul_le_mul_of_nonneg_right g (show 0 ≤ s by omega)
          omega
      omega
    · unfold pcZ
      simp only [succ_s]
      congr 1
      omega
    · omega
  · intro h
    refine ⟨?_, ?_⟩
    · rcases Nat.lt_or_ge (k + 1) (nPc (lo, hi) s) with g | g
      · have : ((k + 1 : Nat) : Int) ≤ upZ (hi - lo) s - 1 := by omega
        have := Int.mul_le_mul_of_nonneg_right this (show 0 ≤ s by omega)
        omega
      · omega
    · unfold pcZ
      simp only [succ_s]
      congr 1
      omega
set_option maxRecDepth 100000 in
theorem count_any (lo hi s : Int) (w : World) (ht : 0 ≤ lo ∧ lo ≤ hi ∧ hi ≤ 1000000000) (hs : 1 ≤ s ∧ s ≤ 9223372036854775807) :
    Calls Try.prog 63 #[.agg #[.int .i64 lo, .int .i64 hi], .int .i64 s] w fun e w' => e = .returned (.int .i64 (nPc (lo, hi) s : Nat)) ∧ Below w.heap.size w w' := by
  have hn : nPc (lo, hi) s = max 1 (upZ (hi - lo) s).toNat := rfl
  have hs0 : ¬ s = 0 := by omega
  by_cases h : lo = hi
  · subst h
    have e : ((nPc (lo, lo) s : Nat) : Int) = 1 := by rw [hn, Int.sub_self, up_zero]; rfl
    rw [e]
    clear hn e
    go_enter Try.func63, Try.ntmps63
    go_wp2
    go_ret
    exact ⟨rfl, (by repeat (first | exact Below.refl _ _ | assumption | refine Below.drew ?_ | refine Below.drewN' ?_ _ | (refine Below.alloc ?_ (by simp <;> omega) _) | (refine Below.setCell ?_ (by simp <;> omega) _)))⟩
  · have hp := up_pos (D := hi - lo) (s := s) (by omega) (by omega)
    have e : ((nPc (lo, hi) s : Nat) : Int) = upZ (hi - lo) s := by rw [hn]; omega
    have e1 : (hi - lo - 1).tdiv s = upZ (hi - lo) s - 1 := by rw [Int.tdiv_eq_ediv_of_nonneg (by omega), ← up_one (D := hi - lo) (s := s) (by omega)]; omega
    have e2 : upZ (hi - lo) s - 1 ≤ hi - lo - 1 := by rw [← e1, Int.tdiv_eq_ediv_of_nonneg (by omega)]; exact Int.ediv_le_self _ (by omega)
    rw [e]
    generalize upZ (hi - lo) s = u at *
    clear hn e
    have e3 : u - 1 + 1 = u := by omega
    go_enter Try.func63, Try.ntmps63
    go_wp2
    go_ret
    first | exact ⟨rfl, (by repeat (first | exact Below.refl _ _ | assumption | refine Below.drew ?_ | refine Below.drewN' ?_ _ | (refine Below.alloc ?_ (by simp <;> omega) _) | (refine Below.setCell ?_ (by simp <;> omega) _)))⟩ | exact ⟨by show Ending.returned (Value.int .i64 (u - 1 + 1)) = _; rw [e3], (by repeat (first | exact Below.refl _ _ | assumption | refine Below.drew ?_ | refine Below.drewN' ?_ _ | (refine Below.alloc ?_ (by simp <;> omega) _) | (refine Below.setCell ?_ (by simp <;> omega) _)))⟩
set_option maxRecDepth 100000 in
set_option maxHeartbeats 2000000 in
theorem checkPieces_any (x : Value) (m : Md) (lo hi s : Int) (w : World) (hm : MdAt w w.heap.size x m) (hs : -9223372036854775808 ≤ s ∧ s ≤ 9223372036854775807) :
    Calls Try.prog 46 #[x, .agg #[.int .i64 lo, .int .i64 hi], .int .i64 s] w fun e w' => e = .returned (.int .i64 (pcsE m (lo, hi) s)) ∧ Below w.heap.size w w' := by
  obtain ⟨v, rfl, hp⟩ := hm
  have HP := Lib.hid hp
  obtain ⟨A, c, rfl, hc, hlen⟩ := hp.open_
  clear hp
  obtain ⟨mean, ps⟩ := m
  simp only at HP hc hlen ⊢
  obtain ⟨E, hE⟩ : ∃ E, levE ⟨mean, ps⟩ (lo, hi) = E := ⟨_, rfl⟩
  have HM := Lib.hid hE
  go_enter Try.func46, Try.ntmps46
  go_upto_region 1 with (fail)
  obtain ⟨V0, hV⟩ : ∃ V, (w.alloc (.cells #[.int .i64 mean, .slice A ps.length c] 35)).alloc (.cells #[.int .i64 lo, .int .i64 hi] 23) = V := ⟨_, rfl⟩
  have K1 : Hid (Blk V0 w.heap.size 35 #[.int .i64 mean, .slice A ps.length c]) := by rw [← hV]; exact (Blk.new' _ _ _ rfl).alloc _
  have K3 : Hid (Blk V0 (w.heap.size + 1) 23 #[.int .i64 lo, .int .i64 hi]) := by rw [← hV]; exact Blk.new' _ _ _ (by simp)
  have KB : Hid (Below w.heap.size w V0) := by rw [← hV]; exact (by repeat (first | exact Below.refl _ _ | assumption | refine Below.drew ?_ | refine Below.drewN' ?_ _ | (refine Below.alloc ?_ (by simp <;> omega) _) | (refine Below.setCell ?_ (by simp <;> omega) _)))
  rw [hV]
  clear hV
  have y0 := K1.out.cell 0
  have y1 := K1.out.cell 1
  simp only [List.getElem?_toArray, List.getElem?_cons_zero, List.getElem?_cons_succ] at y0 y1
  obtain ⟨f0, f1, -, -⟩ := span_parts K3.out
  clear hE
  go_wp2_with fail
  refine (checkTimes_any _ ⟨mean, ps⟩ _ _ _ ⟨_, rfl, HP.out.later KB.out (Nat.le_refl _)⟩).mono ?_
  rintro e w1 ⟨rfl, hb⟩
  rw [HM.out]
  have J3 := Lib.hid (K3.out.below hb K3.out.lt)
  have JB := Lib.hid (KB.out.trans (hb.mono KB.out.size))
  clear hb K1 K3 KB y0 y1 f0 f1
  by_cases h0 : E = 0
  · subst h0
    obtain ⟨-, h1, h2, h3⟩ : mdE ⟨mean, ps⟩ = 0 ∧ 0 ≤ lo ∧ lo ≤ hi ∧ hi ≤ 1000000000 := by
      have h := HM.out
      unfold levE at h
      split at h
      · rename_i g0
        split at h
        · rename_i g1
          exact ⟨g0, g1.2.1, g1.1, g1.2.2⟩
        · cases h
      · contradiction
    obtain ⟨f0, f1, -, -⟩ := span_parts J3.out
    have HV : Hid (pcsE ⟨mean, ps⟩ (lo, hi) s = if s < 1 then 3 else if 10000 < nPc (lo, hi) s then 9 else 0) := by unfold pcsE; exact if_pos HM.out
    by_cases hs1 : s < 1
    · have JBo := JB.out
      have HV2 : Hid (pcsE ⟨mean, ps⟩ (lo, hi) s = 3) := HV.out.trans (if_pos hs1)
      go_wp2
      go_ret
      exact ⟨by rw [HV2.out]; rfl, JBo⟩
    · have HV2 : Hid (pcsE ⟨mean, ps⟩ (lo, hi) s = if 10000 < nPc (lo, hi) s then 9 else 0) := HV.out.trans (if_neg hs1)
      have hs2 : 1 ≤ s := by omega
      clear HV
      go_wp2_with fail
      refine (count_any lo hi s _ ⟨h1, h2, h3⟩ ⟨hs2, hs.2⟩).mono ?_
      rintro e w2 ⟨rfl, hb⟩
      have IB := Lib.hid (JB.out.trans (hb.mono JB.out.size))
      clear hb J3 JB f0 f1
      generalize nPc (lo, hi) s = q at *
      have IBo := IB.out
      by_cases hq : 10000 < q
      · have HV3 : Hid (pcsE ⟨mean, ps⟩ (lo, hi) s = 9) := HV2.out.trans (if_pos hq)
        have hq' : (10000 : Int) < (q : Int) := by omega
        clear HV2
        go_wp2
        go_ret
        exact ⟨by rw [HV3.out]; rfl, IBo⟩
      · have HV3 : Hid (pcsE ⟨mean, ps⟩ (lo, hi) s = 0) := HV2.out.trans (if_neg hq)
        have hq' : (q : Int) ≤ 10000 := by omega
        clear HV2
        go_wp2
        go_ret
        exact ⟨by rw [HV3.out]; rfl, IBo⟩
  · have HV : Hid (pcsE ⟨mean, ps⟩ (lo, hi) s = E) := by unfold pcsE; rw [HM.out, if_neg h0]; rfl
    have h0' : (E == 0) = false := beq_eq_false_iff_ne.2 h0
    clear HM
    go_wp2
    go_ret
    exact ⟨by rw [HV.out]; rfl, JB.out⟩
/-- what the iterator captures lies on -/
def PcKp (bt bs : Nat) (A B : World) : Prop := B.heap[bt]? = A.heap[bt]? ∧ B.heap[bs]? = A.heap[bs]?
theorem pcKp_t {bt bs : Nat} {A B C : World} (h : PcKp bt bs A B) (k : PcKp bt bs B C) : PcKp bt bs A C := ⟨k.1.trans h.1, k.2.trans h.2⟩
theorem pcKp_b {bt bs n : Nat} (h1 : bt < n) (h2 : bs < n) (W : World) (l : Nat) (o o' : Obj) (hl : n ≤ l) (_ : W.heap[l]? = some o) (_ : o.isCells = false) (_ : o.isWalk = false) : PcKp bt bs W (W.putObj l o') :=
  ⟨World.putObj_heap_other (by omega), World.putObj_heap_other (by omega)⟩
theorem pieces_any (lo hi s : Int) (w : World) :
    Calls Try.prog 48 #[.agg #[.int .i64 lo, .int .i64 hi], .int .i64 s] w fun e w' => e = .returned (.func (.func 64) #[] #[.pointer (some ⟨w.heap.size, 0, none⟩), .pointer (some ⟨w.heap.size + 1, 0, none⟩)]) ∧
      w' = (w.alloc (.cells #[.int .i64 lo, .int .i64 hi] 23)).alloc (.cells #[.int .i64 s] 3) := by
  have hmf : ∀ (fn : Fn) (first cap : Array Value) (w : World), (Instr.makeFunc fn first cap).run Try.prog w = .ok (.func fn first cap) w := fun _ _ _ _ => rfl
  go_enter Try.func48, Try.ntmps48
  go_wp2
  go_ret
  exact ⟨rfl, rfl⟩
set_option maxRecDepth 100000 in
set_option maxHeartbeats 2000000 in
theorem pieces1_in {α : Type} (num : α → Int × Int) (L : List α) (n : Nat) (hn : 1 ≤ n) (l bt bs : Nat) (lo hi s : Int) (ht : 0 ≤ lo ∧ lo ≤ hi ∧ hi ≤ 1000000000) (hs : 1 ≤ s ∧ s ≤ 9223372036854775807) (hL : L.map num = pcs (lo, hi) s) (J Jx : List α → World → Prop)
    (hY : ∀ pre x W, J pre W → pre.length < L.length → YieldAt Fence.wide (n - 1) Try.prog l #[.agg #[.int .i64 (num x).1, .int .i64 (num x).2]] W fun e W' => (e = .returned (.bool true) ∧ J (pre ++ [x]) W' ∧ PcKp bt bs W W') ∨ (e = .returned (.bool false) ∧ Jx (pre ++ [x]) W'))
    (W : World) (Ht : Blk W bt 23 #[.int .i64 lo, .int .i64 hi]) (Hs : Blk W bs 3 #[.int .i64 s]) (h0 : J [] W) :
    CallsIn Fence.wide n Try.prog 64 #[.func (.yield l) #[] #[], .pointer (some ⟨bt, 0, none⟩), .pointer (some ⟨bs, 0, none⟩)] W fun e W' => (∃ v, e = .returned v) ∧
      ((∃ ys, ys = L ∧ J ys W') ∨ (∃ pre, pre <+: L ∧ Jx pre W')) := by
  have hLn : L.length = nPc (lo, hi) s := by rw [← pcs_length, ← hL, List.length_map]
  refine callsIn_of_wp Try.func64 rfl trivial ?_ rfl
  simp only [Try.ntmps64, List.size_toArray, List.length_cons, List.length_nil, Nat.reduceAdd, Nat.reduceSub, Array.replicate_succ, Array.replicate_zero, List.push_toArray, List.append_toArray, List.nil_append, List.cons_append]
  have HY := Lib.hid hY
  clear hY
  have HBt := Lib.hid Ht
  have HBs := Lib.hid Hs
  obtain ⟨x0, x1, -, -⟩ := span_parts Ht
  have x2 := Hs.cell 0
  simp only [List.getElem?_toArray, List.getElem?_cons_zero] at x2
  clear Ht Hs
  gi_wp2
  gi_loopw [4] (fun p wr => ∃ (k : Nat) (z : Int), p = .int .i64 (lo + z) ∧ (k : Int) * s = z ∧ k < nPc (lo, hi) s ∧ J (L.take k) wr ∧ Hid (Blk wr bt 23 #[.int .i64 lo, .int .i64 hi]) ∧ Hid (Blk wr bs 3 #[.int .i64 s]))
    (fun p wr => (hi - intOf p).toNat)
  case atStart => exact ⟨0, 0, by simp, by simp, nPc_pos, h0, HBt.out, HBs.out⟩
  case round =>
    clear x0 x1 x2
    obtain ⟨k, z, rfl, hz, hk, hJ, Ht, Hs⟩ := hrel
    obtain ⟨x0, x1, -, -⟩ := span_parts Ht.out
    have x2 := Hs.out.cell 0
    simp only [List.getElem?_toArray, List.getElem?_cons_zero] at x2
    have hz0 : 0 ≤ z := by rw [← hz]; exact mul_s0 (by omega) k
    have hz1 : z ≤ hi - lo := by rw [← hz]; exact pc_in (t := (lo, hi)) (by omega) ht.2.1 hk
    have hst := pc_step (lo := lo) (hi := hi) (s := s) (by omega) ht.2.1 hk
    rw [hz] at hst
    have hkL : k < L.length := by omega
    have hT : L.take (k + 1) = L.take k ++ [L[k]] := List.take_succ_eq_append_getElem hkL
    have hx : num L[k] = pcZ (lo, hi) s k := by
      have e : (L.map num)[k]'(by rw [List.length_map]; exact hkL) = (pcs (lo, hi) s)[k]'(by rw [pcs_length]; exact hk) := by congr 1
      rw [List.getElem_map] at e
      rw [e]
      simp [pcs]
    have hL2 : (L.take k).length < L.length := by rw [List.length_take]; omega
    obtain ⟨fn0, tmps0, as0, body0, hy, hR⟩ := HY.out (L.take k) L[k] _ hJ hL2
    rw [hx] at hy
    have HR := Lib.hid hR
    have HT := Lib.hid hT
    clear hR hL2 hT hx
    by_cases hd : s < hi - (lo + z)
    · obtain ⟨s1, s2, s3⟩ := hst.1 hd
      rw [s2] at hy
      have H2 := Lib.hid s2
      clear hst s2 s3
      gi_wp2
      refine HR.out.mono ?_
      clear hy HR x0 x1 x2
      rintro e W1 (⟨rfl, hJ1, hkp⟩ | ⟨rfl, hJx⟩)
      rotate_left
      · gi_wp2
        refine bodyPost_ret (results_none rfl _ _ _) rfl ?_
        refine ⟨⟨_, rfl⟩, .inr ⟨_, ?_, hJx⟩⟩
        rw [← HT.out]
        exact List.take_prefix _ _
      have Ht1 : Hid (Blk W1 bt 23 #[.int .i64 lo, .int .i64 hi]) := hkp.1.trans Ht.out
      have Hs1 : Hid (Blk W1 bs 3 #[.int .i64 s]) := hkp.2.trans Hs.out
      clear Ht Hs hkp
      have x2 := Hs1.out.cell 0
      simp only [List.getElem?_toArray, List.getElem?_cons_zero] at x2
      gi_wp2
      go_roundw
      case rel => exact ⟨k + 1, z + s, by go_num, by rw [← hz, Int.natCast_add, Int.add_mul, Int.natCast_one, Int.one_mul], s1, by rw [HT.out]; exact hJ1, Ht1.out, Hs1.out⟩
      case measure => simp [intOf]; omega
    · obtain ⟨s1, s2⟩ := hst.2 hd
      rw [s2] at hy
      have H2 := Lib.hid s2
      clear hst s2
      gi_wp2
      refine HR.out.mono ?_
      clear hy HR x0 x1 x2
      rintro e W1 (⟨rfl, hJ1, hkp⟩ | ⟨rfl, hJx⟩)
      rotate_left
      · gi_wp2
        go_end0
        refine ⟨⟨_, rfl⟩, .inr ⟨_, ?_, hJx⟩⟩
        rw [← HT.out]
        exact List.take_prefix _ _
      gi_wp2
      go_end0
      refine ⟨⟨_, rfl⟩, .inl ⟨_, rfl, ?_⟩⟩
      rw [← HT.out, s1, ← hLn, List.take_length] at hJ1
      exact hJ1
theorem pieces_stops {α : Type} (num : α → Int × Int) (L : List α) (n : Nat) (hn : 1 ≤ n) (bt bs : Nat) (lo hi s : Int) (ht : 0 ≤ lo ∧ lo ≤ hi ∧ hi ≤ 1000000000) (hs : 1 ≤ s ∧ s ≤ 9223372036854775807) (hL : L.map num = pcs (lo, hi) s) (w : World)
    (Ht : Blk w bt 23 #[.int .i64 lo, .int .i64 hi]) (Hs : Blk w bs 3 #[.int .i64 s]) :
    SeqStopsK Fence.wide n Try.prog 64 #[.pointer (some ⟨bt, 0, none⟩), .pointer (some ⟨bs, 0, none⟩)]
      (fun x : α => #[Value.agg #[.int .i64 (num x).1, .int .i64 (num x).2]]) (PcKp bt bs) (fun ys => ys = L) (fun pre => pre <+: L) L.length w := fun l J Jx W hW _ _ hY h0 =>
  pieces1_in num L n hn l bt bs lo hi s ht hs hL J Jx hY W (Ht.below hW Ht.lt) (Hs.below hW Hs.lt) h0
/-- a piece: a span of times -/
abbrev Pc := { x : Int × Int // 0 ≤ x.1 ∧ x.1 ≤ x.2 ∧ x.2 ≤ 1000000000 }
theorem pcs_ok {lo hi s : Int} (ht : 0 ≤ lo ∧ lo ≤ hi ∧ hi ≤ 1000000000) (hs : 1 ≤ s) : ∀ x, x ∈ pcs (lo, hi) s → 0 ≤ x.1 ∧ x.1 ≤ x.2 ∧ x.2 ≤ 1000000000 := fun x hx => by
  unfold pcs at hx
  obtain ⟨k, hk, rfl⟩ := List.mem_map.1 hx
  have h := pc_rng (t := (lo, hi)) (s := s) (by omega) ht.2.1 (List.mem_range.1 hk)
  simp only at h
  omega
def pcsT {lo hi s : Int} (ht : 0 ≤ lo ∧ lo ≤ hi ∧ hi ≤ 1000000000) (hs : 1 ≤ s) : List Pc := (pcs (lo, hi) s).attach.map fun x => ⟨x.1, pcs_ok ht hs x.1 x.2⟩
theorem pcsT_map {lo hi s : Int} (ht : 0 ≤ lo ∧ lo ≤ hi ∧ hi ≤ 1000000000) (hs : 1 ≤ s) : (pcsT ht hs).map (fun x => x.1) = pcs (lo, hi) s := by
  unfold pcsT
  rw [List.map_map]
  exact List.attach_map_subtype_val _
end Go.Proofs.Ytfblpokjbopagaa
/-
  Layer 2, the program: Peak.
-/
namespace Go.Proofs.Ytfblpokjbopagaa
open Go.RowKit Go.Shelf
attribute [local go_sem] Oper.semAt_some

def pkLo (m : Md) (a : Int) (l : List (Int × Int)) : Int := l.foldl (fun r x => max r (levelZ m (x.2, x.2)).1) (levelZ m (a, a)).1
def pkHi (m : Md) (a : Int) (l : List (Int × Int)) : Int := l.foldl (fun r x => max r (levelZ m x).2) (levelZ m (a, a)).2
theorem pkLo_snoc (m : Md) (a : Int) (l : List (Int × Int)) (x : Int × Int) : pkLo m a (l ++ [x]) = max (pkLo m a l) (levelZ m (x.2, x.2)).1 := by simp [pkLo, List.foldl_append]
theorem pkHi_snoc (m : Md) (a : Int) (l : List (Int × Int)) (x : Int × Int) : pkHi m a (l ++ [x]) = max (pkHi m a l) (levelZ m x).2 := by simp [pkHi, List.foldl_append]
theorem pk_lo {m : Md} {lo hi s : Int} (hs : 0 < s) (ht : lo ≤ hi) : pkLo m lo (pcs (lo, hi) s) = (peakZ m (lo, hi) s).1 := by
  have h : ∀ k, k ≤ nPc (lo, hi) s → pkLo m lo ((pcs (lo, hi) s).take k) = mxN (fun i => (levelZ m (ptZ (lo, hi) s i, ptZ (lo, hi) s i)).1) k := by
    intro k
    induction k with
    | zero =>
      intro _
      have e : ptZ (lo, hi) s 0 = lo := by unfold ptZ; simp; omega
      unfold mxN
      rw [e]
      rfl
    | succ k ih =>
      intro hk
      rw [pcs_take (by omega), pkLo_snoc, ih (by omega)]
      have e : (pcZ (lo, hi) s k).2 = ptZ (lo, hi) s (k + 1) := by unfold pcZ ptZ; simp
      rw [e, mxN]
  have h1 := h (nPc (lo, hi) s) (Nat.le_refl _)
  rw [← pcs_length, List.take_length, pcs_length] at h1
  exact h1
theorem pk_hi {m : Md} {lo hi s : Int} (hm : m.ps.all partOk = true) (hs : 0 < s) (ht : lo ≤ hi) : pkHi m lo (pcs (lo, hi) s) = (peakZ m (lo, hi) s).2 := by
  have h : ∀ k, k + 1 ≤ nPc (lo, hi) s → pkHi m lo ((pcs (lo, hi) s).take (k + 1)) = mxN (fun i => (levelZ m (pcZ (lo, hi) s i)).2) k := by
    intro k
    induction k with
    | zero =>
      intro h1
      have r := pc_rng (t := (lo, hi)) hs ht (i := 0) (by omega)
      have e : (pcZ (lo, hi) s 0).1 = lo := by simp [pcZ]
      have g := (level_mono hm (t := (lo, lo)) (u := pcZ (lo, hi) s 0) (Int.le_refl _) (by rw [e]; exact Int.le_refl _) (by have h2 := r.2.1; rw [e] at h2; exact h2)).2
      rw [pcs_take (by omega), pkHi_snoc]
      have e2 : pkHi m lo (List.take 0 (pcs (lo, hi) s)) = (levelZ m (lo, lo)).2 := rfl
      rw [e2, mxN]
      omega
    | succ k ih =>
      intro hk
      rw [pcs_take (by omega), pkHi_snoc, ih (by omega), mxN]
  have hn := nPc_pos (t := (lo, hi)) (s := s)
  have h1 := h (nPc (lo, hi) s - 1) (by omega)
  rw [show nPc (lo, hi) s - 1 + 1 = nPc (lo, hi) s by omega, ← pcs_length, List.take_length] at h1
  rw [h1, pcs_length]
  rfl
def pkV (m : Md) (t : Int × Int) (s : Int) : Int × Int := if pcsE m t s = 0 then peakZ m t s else (0, 0)
theorem pcsE_zero {m : Md} {lo hi s : Int} (h : pcsE m (lo, hi) s = 0) : mdE m = 0 ∧ (0 ≤ lo ∧ lo ≤ hi ∧ hi ≤ 1000000000) ∧ 1 ≤ s ∧ nPc (lo, hi) s ≤ 10000 := by
  unfold pcsE at h
  split at h
  · rename_i h0
    split at h
    · cases h
    · split at h
      · cases h
      · unfold levE at h0
        split at h0
        · rename_i g0
          split at h0
          · rename_i g1
            exact ⟨g0, ⟨g1.2.1, g1.1, g1.2.2⟩, by omega, by omega⟩
          · cases h0
        · contradiction
  · contradiction
theorem bodyM_ret {F : Fence} {n : Nat} {P : Program} {fn : Func} {R : Ending → World → Prop} {a : Act} {w : World} {v : Value}
    (hr : (results fn a.tmps).run P w = .ok v w) (hd : a.defers = []) (hR : R (.returned v) w) : bodyPostM F n P fn R .ret a w := by
  show LeavesInM F n P fn a.tmps R a.defers .returning w
  rw [hd]
  exact ⟨v, hr, hR⟩
theorem bodyM_mark {F : Fence} {n : Nat} {P : Program} {fn : Func} {R : Ending → World → Prop} {a : Act} {w w' : World} {v : Value} {D : Nat} {g : Array Value}
    (hk : (Instr.takeDeferred D).run P w = .ok [] w') (hr : (results fn a.tmps).run P w' = .ok v w') (hd : a.defers = [{ target := .collected D, args := g }]) (hR : R (.returned v) w') : bodyPostM F n P fn R .ret a w := by
  show LeavesInM F n P fn a.tmps R a.defers .returning w
  rw [hd]
  exact ⟨by simp, .inl ⟨D, w', rfl, hk, v, hr, hR⟩⟩
theorem Blk.put {w : World} {b t D : Nat} {cs : Array Value} {o o' : Obj} (h : Blk w b t cs) (hD : w.heap[D]? = some o) (ho : o.isCells = false) : Blk (w.putObj D o') b t cs := by
  have hne : b ≠ D := fun e => by
    subst e
    have h1 : w.heap[b]? = some (.cells cs t (0, 0)) := h
    rw [h1] at hD
    cases hD
    simp [Obj.isCells] at ho
  exact (World.putObj_heap_other hne).trans h
theorem ownFrom_blk {β : Type} (B b t : Nat) (cs : β → Array Value) : OwnFrom B (fun (s : β) W => Blk W b t (cs s)) := fun s W W' row hs hg hr =>
  blk_grown hs hg (fun e => by
    obtain ⟨-, o, ho, hc⟩ := hr b e.symm
    have h1 : W.heap[b]? = some (.cells (cs s) t (0, 0)) := hs
    rw [h1] at ho
    cases ho
    simp [Obj.isCells] at hc)
theorem ownFrom_far {β : Type} (o : Nat → Prop) (w : World) (B : Nat) (hB : w.heap.size ≤ B) : OwnFrom B (fun (_ : β) W => Far o w W) := fun _ _ _ _ hs hg hr =>
  hs.grown hg (fun k e => Or.inr (Nat.le_trans hB (hr k e).1))
theorem keepsFrom_far {W W' : World} {b t : Nat} {cs : Array Value} (B : Nat) (h : Far (fun i => i = b) W W') (hb : Blk W b t cs) : KeepsFrom B W W' :=
  ⟨h.size, fun k o _ hk ho => by
    have hne : ¬ k = b := fun e => by
      subst e
      have h1 : W.heap[k]? = some (.cells cs t (0, 0)) := hb
      rw [h1] at hk
      cases hk
      simp [Obj.isCells] at ho
    exact (h.block k (Array.getElem?_eq_some_iff.1 hk).1 hne).trans hk⟩
theorem fieldS0 (x y : Value) (w : World) : (Instr.field 23 (.agg #[x, y]) 0).run Try.prog w = .ok x w := by kernel_rfl
theorem fieldS1 (x y : Value) (w : World) : (Instr.field 23 (.agg #[x, y]) 1).run Try.prog w = .ok y w := by kernel_rfl
def opk7_0 : Oper := { dst := some 27, op := Op.fieldAddr 23 (Operand.tmp 9) 0, type := 0, pos := "pieces.go:17", after := #[], guard := none }
def opk7_1 : Oper := { dst := some 28, op := Op.load 3 (Operand.tmp 27), type := 3, pos := "pieces.go:17", after := #[{ on := 0, ground := Ground.data }], guard := none }
def opk7_2 : Oper := { dst := some 29, op := Op.load 35 (Operand.tmp 3), type := 35, pos := "pieces.go:17", after := #[], guard := none }
def opk7_3 : Oper := { dst := some 30, op := Op.fieldAddr 23 (Operand.tmp 10) 1, type := 0, pos := "pieces.go:17", after := #[], guard := none }
def opk7_4 : Oper := { dst := some 31, op := Op.load 3 (Operand.tmp 30), type := 3, pos := "pieces.go:17", after := #[{ on := 3, ground := Ground.data }], guard := none }
def opk7_5 : Oper := { dst := some 32, op := Op.call { callee := Callee.value (Operand.func 47), args := #[Operand.tmp 29, Operand.tmp 31], argTypes := #[35, 3] }, type := 23, pos := "pieces.go:17", after := #[{ on := 2, ground := Ground.data }, { on := 4, ground := Ground.data }], guard := none }
def opk7_6 : Oper := { dst := some 33, op := Op.field 23 (Operand.tmp 32) 0, type := 3, pos := "pieces.go:17", after := #[{ on := 5, ground := Ground.data }], guard := none }
def opk7_7 : Oper := { dst := some 34, op := Op.call { callee := Callee.builtin Builtin.max, args := #[Operand.tmp 28, Operand.tmp 33], argTypes := #[3, 3] }, type := 3, pos := "pieces.go:17", after := #[{ on := 1, ground := Ground.data }, { on := 6, ground := Ground.data }], guard := none }
def opk7_8 : Oper := { dst := some 35, op := Op.fieldAddr 23 (Operand.tmp 9) 0, type := 0, pos := "pieces.go:17", after := #[{ on := 0, ground := Ground.phase }, { on := 1, ground := Ground.phase }, { on := 2, ground := Ground.phase }, { on := 3, ground := Ground.phase }, { on := 4, ground := Ground.phase }, { on := 5, ground := Ground.phase }, { on := 6, ground := Ground.phase }, { on := 7, ground := Ground.phase }], guard := none }
def opk7_9 : Oper := { dst := none, op := Op.store 3 (Operand.tmp 35) (Operand.tmp 34), type := 0, pos := "pieces.go:17", after := #[{ on := 8, ground := Ground.data }, { on := 7, ground := Ground.data }, { on := 5, ground := Ground.chain }, { on := 0, ground := Ground.phase }, { on := 1, ground := Ground.phase }, { on := 2, ground := Ground.phase }, { on := 3, ground := Ground.phase }, { on := 4, ground := Ground.phase }, { on := 5, ground := Ground.phase }, { on := 6, ground := Ground.phase }, { on := 7, ground := Ground.phase }], guard := none }
def opk8_0 : Oper := { dst := some 36, op := Op.fieldAddr 23 (Operand.tmp 9) 1, type := 0, pos := "pieces.go:18", after := #[], guard := none }
def opk8_1 : Oper := { dst := some 37, op := Op.load 3 (Operand.tmp 36), type := 3, pos := "pieces.go:18", after := #[{ on := 0, ground := Ground.data }], guard := none }
def opk8_2 : Oper := { dst := some 38, op := Op.load 35 (Operand.tmp 3), type := 35, pos := "pieces.go:18", after := #[], guard := none }
def opk8_3 : Oper := { dst := some 39, op := Op.load 23 (Operand.tmp 10), type := 23, pos := "pieces.go:18", after := #[], guard := none }
def opk8_4 : Oper := { dst := some 40, op := Op.call { callee := Callee.value (Operand.func 43), args := #[Operand.tmp 38, Operand.tmp 39], argTypes := #[35, 23] }, type := 23, pos := "pieces.go:18", after := #[{ on := 2, ground := Ground.data }, { on := 3, ground := Ground.data }], guard := none }
def opk8_5 : Oper := { dst := some 41, op := Op.field 23 (Operand.tmp 40) 1, type := 3, pos := "pieces.go:18", after := #[{ on := 4, ground := Ground.data }], guard := none }
def opk8_6 : Oper := { dst := some 42, op := Op.call { callee := Callee.builtin Builtin.max, args := #[Operand.tmp 37, Operand.tmp 41], argTypes := #[3, 3] }, type := 3, pos := "pieces.go:18", after := #[{ on := 1, ground := Ground.data }, { on := 5, ground := Ground.data }], guard := none }
def opk8_7 : Oper := { dst := some 43, op := Op.fieldAddr 23 (Operand.tmp 9) 1, type := 0, pos := "pieces.go:18", after := #[{ on := 0, ground := Ground.phase }, { on := 1, ground := Ground.phase }, { on := 2, ground := Ground.phase }, { on := 3, ground := Ground.phase }, { on := 4, ground := Ground.phase }, { on := 5, ground := Ground.phase }, { on := 6, ground := Ground.phase }], guard := none }
def opk8_8 : Oper := { dst := none, op := Op.store 3 (Operand.tmp 43) (Operand.tmp 42), type := 0, pos := "pieces.go:18", after := #[{ on := 7, ground := Ground.data }, { on := 6, ground := Ground.data }, { on := 4, ground := Ground.chain }, { on := 0, ground := Ground.phase }, { on := 1, ground := Ground.phase }, { on := 2, ground := Ground.phase }, { on := 3, ground := Ground.phase }, { on := 4, ground := Ground.phase }, { on := 5, ground := Ground.phase }, { on := 6, ground := Ground.phase }], guard := none }

set_option maxRecDepth 100000 in
set_option maxHeartbeats 4000000 in
theorem tPeak_any (x : Value) (m : Md) (lo hi s : Int) (w : World) (hm : MdAt w w.heap.size x m) (hs : -9223372036854775808 ≤ s ∧ s ≤ 9223372036854775807) :
    Calls Try.prog 24 #[x, .agg #[.int .i64 lo, .int .i64 hi], .int .i64 s] w fun e w' => e = .returned (.tuple #[.agg #[.int .i64 (pkV m (lo, hi) s).1, .int .i64 (pkV m (lo, hi) s).2], .int .i64 (pcsE m (lo, hi) s)]) ∧ Below w.heap.size w w' := by
  obtain ⟨v, rfl, hp⟩ := hm
  have HP := Lib.hid hp
  obtain ⟨A, c, rfl, hc, hlen⟩ := hp.open_
  clear hp
  obtain ⟨mean, ps⟩ := m
  simp only at HP hc hlen ⊢
  obtain ⟨E, hE⟩ : ∃ E, pcsE ⟨mean, ps⟩ (lo, hi) s = E := ⟨_, rfl⟩
  have HM := Lib.hid hE
  obtain ⟨V0, hV⟩ : ∃ V, ((w.alloc (.cells #[.int .i64 mean, .slice A ps.length c] 35)).alloc (.cells #[.int .i64 lo, .int .i64 hi] 23)).alloc (.cells #[.int .i64 0, .int .i64 0] 23) = V := ⟨_, rfl⟩
  have K1 : Hid (Blk V0 w.heap.size 35 #[.int .i64 mean, .slice A ps.length c]) := by rw [← hV]; exact ((Blk.new' _ _ _ rfl).alloc _).alloc _
  have K3 : Hid (Blk V0 (w.heap.size + 1) 23 #[.int .i64 lo, .int .i64 hi]) := by rw [← hV]; exact (Blk.new' _ _ _ (by simp)).alloc _
  have K2 : Hid (Blk V0 (w.heap.size + 1 + 1) 23 #[.int .i64 0, .int .i64 0]) := by rw [← hV]; exact Blk.new' _ _ _ (by simp)
  have KB : Hid (Below w.heap.size w V0) := by rw [← hV]; exact (by repeat (first | exact Below.refl _ _ | assumption | refine Below.drew ?_ | refine Below.drewN' ?_ _ | (refine Below.alloc ?_ (by simp <;> omega) _) | (refine Below.setCell ?_ (by simp <;> omega) _)))
  have y0 := K1.out.cell 0
  have y1 := K1.out.cell 1
  simp only [List.getElem?_toArray, List.getElem?_cons_zero, List.getElem?_cons_succ] at y0 y1
  obtain ⟨f0, f1, -, -⟩ := span_parts K3.out
  clear hE
  refine (callsIn_wide (n := 6)).1 ?_
  refine callsIn_of_wp_marks Try.func24 rfl trivial ?_ rfl
  simp only [Try.ntmps24, List.size_toArray, List.length_cons, List.length_nil, Nat.reduceAdd, Nat.reduceSub, Array.replicate_succ, Array.replicate_zero, List.push_toArray, List.append_toArray, List.nil_append, List.cons_append]
  gi_wp2_with fail
  refine ⟨trivial, (callsIn_wide.2 (checkPieces_any _ ⟨mean, ps⟩ lo hi s _ ⟨_, rfl, HP.out.later KB.out (Nat.le_refl _)⟩ hs)).mono ?_⟩
  rintro e w1 ⟨rfl, hb⟩
  rw [HM.out]
  have J1 := Lib.hid (K1.out.below hb K1.out.lt)
  have J2 := Lib.hid (K2.out.below hb K2.out.lt)
  have J3 := Lib.hid (K3.out.below hb K3.out.lt)
  have JB := Lib.hid (KB.out.trans (hb.mono KB.out.size))
  clear hb hV K1 K2 K3 KB y0 y1 f0 f1
  by_cases h0 : E = 0
  rotate_left
  · have HV : Hid (pkV ⟨mean, ps⟩ (lo, hi) s = (0, 0)) := by unfold pkV; rw [HM.out]; exact if_neg h0
    have h0' : (E == 0) = false := beq_eq_false_iff_ne.2 h0
    obtain ⟨t0, t1, v0, v1⟩ := span_parts J2.out
    gi_wp2
    have hR := fun x y => span_res2 J2.out x y
    refine bodyM_ret (v := .tuple #[.agg #[.int .i64 0, .int .i64 0], .int .i64 E]) (by simp [results, Try.results24, go_sem, hR]) rfl ⟨by rw [HV.out, HM.out], ?_⟩
    have JBo := JB.out
    exact (by repeat (first | exact Below.refl _ _ | assumption | refine Below.drew ?_ | refine Below.drewN' ?_ _ | (refine Below.alloc ?_ (by simp <;> omega) _) | (refine Below.setCell ?_ (by simp <;> omega) _)))
  · subst h0
    obtain ⟨HE0, ht, hs1, hn⟩ := pcsE_zero HM.out
    have HV : Hid (pkV ⟨mean, ps⟩ (lo, hi) s = (pkLo ⟨mean, ps⟩ lo (pcs (lo, hi) s), pkHi ⟨mean, ps⟩ lo (pcs (lo, hi) s))) := by
      unfold pkV
      rw [if_pos HM.out, pk_lo (by omega) ht.2.1, pk_hi (mdE_zero HE0).2.2 (by omega) ht.2.1]
      rfl
    have HE := Lib.hid HE0
    have y0 := J1.out.cell 0
    have y1 := J1.out.cell 1
    simp only [List.getElem?_toArray, List.getElem?_cons_zero, List.getElem?_cons_succ] at y0 y1
    obtain ⟨f0, f1, -, -⟩ := span_parts J3.out
    clear HE0
    gi_wp2_with fail
    refine ⟨trivial, (callsIn_wide.2 (levelAt_any _ ⟨mean, ps⟩ lo _ ⟨_, rfl, HP.out.later JB.out (Nat.le_refl _)⟩ HE.out ⟨ht.1, by omega⟩)).mono ?_⟩
    rintro e w2 ⟨rfl, hb⟩
    have I1 := Lib.hid (J1.out.below hb J1.out.lt)
    have I2 := Lib.hid (J2.out.below hb J2.out.lt)
    have I3 := Lib.hid (J3.out.below hb J3.out.lt)
    have IB := Lib.hid (JB.out.trans (hb.mono JB.out.size))
    clear hb J1 J2 J3 JB y0 y1 f0 f1
    have l1 := I1.out.lt
    have l2 := I2.out.lt
    have l3 := I3.out.lt
    obtain ⟨f0, f1, -, -⟩ := span_parts I3.out
    obtain ⟨P1, hP1⟩ : ∃ x, (levelZ ⟨mean, ps⟩ (lo, lo)).1 = x := ⟨_, rfl⟩
    obtain ⟨P2, hP2⟩ : ∃ x, (levelZ ⟨mean, ps⟩ (lo, lo)).2 = x := ⟨_, rfl⟩
    rw [hP1, hP2]
    gi_wp2_with fail
    refine ⟨trivial, (callsIn_wide.2 (pieces_any lo hi s _)).mono ?_⟩
    rintro e V5 ⟨rfl, hw3⟩
    have hV := hw3.symm
    have G9' : Blk V5 w2.heap.size 23 #[.int .i64 P1, .int .i64 P2] := by rw [← hV]; exact ((Blk.new' _ _ _ rfl).alloc _).alloc _
    have Gt' : Blk V5 (w2.heap.size + 1) 23 #[.int .i64 lo, .int .i64 hi] := by rw [← hV]; exact (Blk.new' _ _ _ (by simp)).alloc _
    have Gs' : Blk V5 (w2.heap.size + 1 + 1) 3 #[.int .i64 s] := by rw [← hV]; exact Blk.new' _ _ _ (by simp)
    have hz : Below w2.heap.size w2 V5 := by rw [← hV]; exact (by repeat (first | exact Below.refl _ _ | assumption | refine Below.drew ?_ | refine Below.drewN' ?_ _ | (refine Below.alloc ?_ (by simp <;> omega) _) | (refine Below.setCell ?_ (by simp <;> omega) _)))
    have G1 := Lib.hid (I1.out.below hz I1.out.lt)
    have G2 := Lib.hid (I2.out.below hz I2.out.lt)
    have G3 := Lib.hid (I3.out.below hz I3.out.lt)
    have GB := Lib.hid (IB.out.trans (hz.mono IB.out.size))
    have i0 := IB.out.size
    clear hw3
    gi_wp2_with fail
    try rw [hV]
    obtain ⟨b9, h9⟩ : ∃ b, w2.heap.size = b := ⟨_, rfl⟩
    rw [h9] at G9' Gt' Gs' l1 l2 l3 i0 ⊢
    obtain ⟨bt, hbt⟩ : ∃ b, b9 + 1 = b := ⟨_, rfl⟩
    obtain ⟨bs, hbs⟩ : ∃ b, bt + 1 = b := ⟨_, rfl⟩
    rw [hbt] at Gt' Gs' ⊢
    rw [hbs] at Gs' ⊢
    obtain ⟨n0, hn0⟩ : ∃ b, w.heap.size = b := ⟨_, rfl⟩
    have hn0' := Lib.hid hn0
    rw [hn0] at G1 G2 G3 l1 l2 l3 i0 ⊢
    obtain ⟨n1, hn1⟩ : ∃ b, n0 + 1 = b := ⟨_, rfl⟩
    rw [hn1] at G2 G3 l2 l3 ⊢
    obtain ⟨n2, hn2⟩ : ∃ b, n1 + 1 = b := ⟨_, rfl⟩
    rw [hn2] at G2 l2 ⊢
    have G9 := Lib.hid G9'
    have Gt := Lib.hid Gt'
    have Gs := Lib.hid Gs'
    have m1 : ¬ n0 = b9 := by omega
    have m2 : ¬ n2 = b9 := by omega
    have m3 : ¬ bt = b9 := by omega
    have m4 : ¬ bs = b9 := by omega
    have z1 := Gt'.lt
    have z2 := Gs'.lt
    have z9 := G9'.lt
    have hSt := pieces_stops (fun x : Pc => x.1) (pcsT ht hs1) 5 (by omega) bt bs lo hi s ht ⟨hs1, hs.2⟩ (pcsT_map ht hs1) V5 Gt' Gs'
    have HST := Lib.hid hSt
    clear hSt hV hz G9' Gt' Gs' I1 I2 I3 IB f0 f1 l1 l2 l3
    refine wpIn_rangeFunc_ownH rfl (by omega) (gf := 64) (lb := #[.pointer (some ⟨bt, 0, none⟩), .pointer (some ⟨bs, 0, none⟩)]) rfl trivial (enters_of Try.func64 (by kernel_rfl) rfl)
      HST.out pcKp_t (pcKp_b z1 z2) (Below.refl _ _) (fun _ => rfl)
      (fun pre W => Far (fun i => i = b9) V5 W ∧ Blk W b9 23 #[.int .i64 (pkLo ⟨mean, ps⟩ lo (pre.map (fun x => x.1))), .int .i64 (pkHi ⟨mean, ps⟩ lo (pre.map (fun x => x.1)))])
      (fun _ _ _ => False)
      (OwnFrom.and (ownFrom_far _ _ _ (Nat.le_refl _)) (ownFrom_blk _ _ _ _))
      (fun _ _ _ _ _ hs _ _ => hs)
      ⟨Far.refl _ _, by have h := G9.out; rw [← hP1, ← hP2] at h; exact h⟩
      (fun x a' W => ∃ b10, V5.heap.size ≤ b10 ∧ a' = { tmps := #[.agg #[.int .i64 mean, .slice A ps.length c], .agg #[.int .i64 lo, .int .i64 hi], .int .i64 s, .pointer (some ⟨n0, 0, none⟩), .pointer (some ⟨n1, 0, none⟩), undef, .pointer (some ⟨n2, 0, none⟩), .int .i64 0, .int .i64 0, .pointer (some ⟨b9, 0, none⟩), .pointer (some ⟨b10, 0, none⟩), .agg #[.int .i64 mean, .slice A ps.length c], .agg #[.int .i64 lo, .int .i64 hi], .int .i64 s, .int .i64 0, .int .i64 0, .bool false, undef, undef, .agg #[.int .i64 mean, .slice A ps.length c], .pointer (some ⟨n1, 0, none⟩), .int .i64 lo, .agg #[.int .i64 P1, .int .i64 P2], .agg #[.int .i64 lo, .int .i64 hi], .int .i64 s, .func (.func 64) #[] #[.pointer (some ⟨bt, 0, none⟩), .pointer (some ⟨bs, 0, none⟩)], .agg #[.int .i64 x.1.1, .int .i64 x.1.2], undef, undef, undef, undef, undef, undef, undef, undef, undef, undef, undef, undef, undef, undef, undef, undef, undef, undef], defers := [] } ∧ Blk W b10 23 #[.int .i64 x.1.1, .int .i64 x.1.2])
      (fun x a' s W W' row ⟨b10, h1, h2, h3⟩ hg hr => ⟨b10, h1, h2, ownFrom_blk V5.heap.size b10 23 (fun _ : Unit => #[.int .i64 x.1.1, .int .i64 x.1.2]) () W W' row h3 hg hr⟩) ?assign ?body ?done ?stop
    case assign =>
      rintro l pre x W K ⟨hF, hb9⟩ hK
      have hsz := hF.size
      gi_wp2
      refine hK _ _ ?_ ?_ ⟨hF.alloc _, hb9.alloc _⟩ ⟨W.heap.size, hsz, rfl, Blk.new' _ _ _ rfl⟩
      · exact keepsFrom_far V5.heap.size ((Far.refl _ W).alloc _) hb9
      · exact ⟨Below.heap_alloc _ _ _ (by omega), Below.heap_alloc _ _ _ (by omega)⟩
    case body =>
      rintro l pre ⟨⟨x1, x2⟩, hx⟩ a' W - - ⟨hF, hb9⟩ ⟨b10, g10, rfl, h10⟩ -
      simp only at hx h10
      have HF := Lib.hid hF
      have H9 := Lib.hid hb9
      have H10 := Lib.hid h10
      have HX : Hid (pkLo ⟨mean, ps⟩ lo ((pre ++ [(⟨(x1, x2), hx⟩ : Pc)]).map (fun x => x.1)) = max (pkLo ⟨mean, ps⟩ lo (pre.map (fun x => x.1))) (levelZ ⟨mean, ps⟩ (x2, x2)).1 ∧
          pkHi ⟨mean, ps⟩ lo ((pre ++ [(⟨(x1, x2), hx⟩ : Pc)]).map (fun x => x.1)) = max (pkHi ⟨mean, ps⟩ lo (pre.map (fun x => x.1))) (levelZ ⟨mean, ps⟩ (x1, x2)).2) := by
        rw [List.map_append, List.map_singleton, pkLo_snoc, pkHi_snoc]
        exact ⟨rfl, rfl⟩
      obtain ⟨Q1, hQ1⟩ : ∃ q, pkLo ⟨mean, ps⟩ lo (pre.map (fun x => x.1)) = q := ⟨_, rfl⟩
      obtain ⟨Q2, hQ2⟩ : ∃ q, pkHi ⟨mean, ps⟩ lo (pre.map (fun x => x.1)) = q := ⟨_, rfl⟩
      rw [hQ1, hQ2] at H9 HX
      clear hF hb9 h10 hQ1 hQ2
      have H1 := Lib.hid (G1.out.far HF.out m1)
      have HSV : Hid (∀ U, Below W.heap.size W U → U.cell? ⟨b9, 0, none⟩ = some (.int .i64 Q1) ∧ U.cell? ⟨n0, 0, none⟩ = some (.int .i64 mean) ∧ U.cell? ⟨n0, 1, none⟩ = some (.slice A ps.length c) ∧ U.cell? ⟨b10, 1, none⟩ = some (.int .i64 x2)) := fun U hU => by
        have k9 := H9.out.below hU H9.out.lt
        have k1 := H1.out.below hU H1.out.lt
        have k10 := H10.out.below hU H10.out.lt
        exact ⟨k9.cell 0, k1.cell 0, k1.cell 1, k10.cell 1⟩
      have HFU : Hid (∀ U, Below W.heap.size W U → Far (fun i => i = b9) V5 U) := fun U hU => HF.out.trans (Far.of_below hU) (fun _ _ h => h)
      have HMD : Hid (∀ U, Far (fun i => i = b9) V5 U → PrtsAt U U.heap.size (.slice A ps.length c) ps) := fun U hU => by
        have hb := GB.out.trans (hU.below GB.out.size (by intro i hi h; have := hn0'.out; omega))
        exact (HP.out.below hb).more hb.size
      have k0 := HSV.out _ (Below.drew (Below.refl W.heap.size W))
      obtain ⟨La, hLa⟩ : ∃ q, (levelZ ⟨mean, ps⟩ (x2, x2)).1 = q := ⟨_, rfl⟩
      obtain ⟨Lb, hLb⟩ : ∃ q, (levelZ ⟨mean, ps⟩ (x1, x2)).2 = q := ⟨_, rfl⟩
      rw [hLa, hLb] at HX
      have e1 : max Q1 La = if Q1 < La then La else Q1 := by split <;> omega
      have e2 : max Q2 Lb = if Q2 < Lb then Lb else Q2 := by split <;> omega
      rw [e1, e2] at HX
      clear e1 e2
      obtain ⟨M1, hM1⟩ : ∃ q, (if Q1 < La then La else Q1) = q := ⟨_, rfl⟩
      obtain ⟨M2, hM2⟩ : ∃ q, (if Q2 < Lb then Lb else Q2) = q := ⟨_, rfl⟩
      rw [hM1, hM2] at HX
      have hfd := fieldS0
      dsimp only
      gi_wp2_with fail
      refine wpIn_region_calm (S := (fun w' => w'.cell? ⟨b9, 0, none⟩ = some (.int .i64 Q1) ∧ w'.cell? ⟨n0, 0, none⟩ = some (.int .i64 mean) ∧ w'.cell? ⟨n0, 1, none⟩ = some (.slice A ps.length c) ∧ w'.cell? ⟨b10, 1, none⟩ = some (.int .i64 x2))) (ks := [9]) (by kernel_rfl) (by kernel_rfl) ?_ (fun hHeld => ?_)
      · (try dsimp only); (exact k0)
      refine wpAnyL_take (i := 0) (oi := opk7_0) (v := ?_) rfl (by kernel_rfl) (fun _ _ _ h => h) (Or.inl ⟨by rfl, ?_⟩) (by assumption) ?_
      rotate_left
      · ((intro w hSw; delta opk7_0; (try dsimp only at hSw); go_simp) <;> with_reducible rfl)
      try simp only [opk7_0, Act.put, List.setIfInBounds_toArray, List.set_cons_zero, List.set_cons_succ]
      refine wpAnyL_take (i := 1) (oi := opk7_1) (v := ?_) rfl (by kernel_rfl) (fun _ _ _ h => h) (Or.inl ⟨by rfl, ?_⟩) (by assumption) ?_
      rotate_left
      · ((intro w hSw; delta opk7_1; (try dsimp only at hSw); go_simp) <;> with_reducible rfl)
      try simp only [opk7_1, Act.put, List.setIfInBounds_toArray, List.set_cons_zero, List.set_cons_succ]
      refine wpAnyL_take (i := 2) (oi := opk7_2) (v := ?_) rfl (by kernel_rfl) (fun _ _ _ h => h) (Or.inl ⟨by rfl, ?_⟩) (by assumption) ?_
      rotate_left
      · ((intro w hSw; delta opk7_2; (try dsimp only at hSw); go_simp) <;> with_reducible rfl)
      try simp only [opk7_2, Act.put, List.setIfInBounds_toArray, List.set_cons_zero, List.set_cons_succ]
      refine wpAnyL_take (i := 3) (oi := opk7_3) (v := ?_) rfl (by kernel_rfl) (fun _ _ _ h => h) (Or.inl ⟨by rfl, ?_⟩) (by assumption) ?_
      rotate_left
      · ((intro w hSw; delta opk7_3; (try dsimp only at hSw); go_simp) <;> with_reducible rfl)
      try simp only [opk7_3, Act.put, List.setIfInBounds_toArray, List.set_cons_zero, List.set_cons_succ]
      refine wpAnyL_take (i := 4) (oi := opk7_4) (v := ?_) rfl (by kernel_rfl) (fun _ _ _ h => h) (Or.inl ⟨by rfl, ?_⟩) (by assumption) ?_
      rotate_left
      · ((intro w hSw; delta opk7_4; (try dsimp only at hSw); go_simp) <;> with_reducible rfl)
      try simp only [opk7_4, Act.put, List.setIfInBounds_toArray, List.set_cons_zero, List.set_cons_succ]
      obtain ⟨W0, hW0⟩ : ∃ V, W.drew = V := ⟨_, rfl⟩; rw [hW0] at hHeld ⊢; have HB0 : Hid (Below W.heap.size W W0) := (by rw [← hW0]; exact Below.drew (Below.refl _ _)); clear hW0
      refine wpAnyL_ready (rs := [5]) (by kernel_rfl) (by simp) ?_
      refine AllReadyL.cons (o := opk7_5) rfl (fun K hK => ?_) AllReadyL.nil
      delta opk7_5
      go_simp
      (refine (levelAt_any _ ⟨mean, ps⟩ x2 _ ⟨_, rfl, HMD.out _ (HFU.out _ HB0.out)⟩ HE.out ⟨by omega, by omega⟩).mono ?_; rintro e W1 ⟨rfl, hb⟩; rw [hLa]; have HB1 := Lib.hid (HB0.out.trans (hb.mono HB0.out.size)); clear hb)
      refine hK.out _ _ ?_ (fun hHeld => ?_)
      · (try dsimp only); (exact HSV.out _ HB1.out)
      clear hK K
      try simp only [opk7_5, Act.put, List.setIfInBounds_toArray, List.set_cons_zero, List.set_cons_succ]
      refine wpAnyL_take (i := 6) (oi := opk7_6) (v := ?_) rfl (by kernel_rfl) (fun _ _ _ h => h) (Or.inl ⟨by rfl, ?_⟩) (by assumption) ?_
      rotate_left
      · ((intro w hSw; delta opk7_6; (try dsimp only at hSw); go_simp) <;> with_reducible rfl)
      try simp only [opk7_6, Act.put, List.setIfInBounds_toArray, List.set_cons_zero, List.set_cons_succ]
      refine wpAnyL_ready (rs := [7]) (by kernel_rfl) (by simp) ?_
      refine AllReadyL.cons (o := opk7_7) rfl (fun K hK => ?_) AllReadyL.nil
      delta opk7_7
      go_simp
      refine hK.out _ _ ?_ (fun hHeld => ?_)
      · (try dsimp only); (exact HSV.out _ HB1.out)
      clear hK K
      try simp only [opk7_7, Act.put, List.setIfInBounds_toArray, List.set_cons_zero, List.set_cons_succ]
      refine wpAnyL_take (i := 8) (oi := opk7_8) (v := ?_) rfl (by kernel_rfl) (fun _ _ _ h => h) (Or.inl ⟨by rfl, ?_⟩) (by assumption) ?_
      rotate_left
      · ((intro w hSw; delta opk7_8; (try dsimp only at hSw); go_simp) <;> with_reducible rfl)
      try simp only [opk7_8, Act.put, List.setIfInBounds_toArray, List.set_cons_zero, List.set_cons_succ]
      have M9 := Lib.hid (H9.out.below HB1.out H9.out.lt); obtain ⟨u0, u1, v0, v1⟩ := span_parts M9.out
      refine wpAnyL_ready (rs := [9]) (by kernel_rfl) (by simp) ?_
      refine AllReadyL.gate (o := opk7_9) rfl (by kernel_rfl) (fun K hK => ?_) AllReadyL.nil
      delta opk7_9
      go_simp
      refine hK.out _ _ ?_
      clear hK K
      try simp only [opk7_9, Act.put, List.setIfInBounds_toArray, List.set_cons_zero, List.set_cons_succ]
      refine wpAnyL_done (by kernel_rfl) ?_ _
      refine NormOnly.normal ?_
      have N9' := M9.out.set_ 0 (.int .i64 M1)
      have HF8' : Far (fun i => i = b9) V5 (W1.setCell ⟨b9, 0, none⟩ (.int .i64 M1)) := (HFU.out _ HB1.out).setCell (p := ⟨b9, 0, none⟩) (Or.inl rfl) _
      have hlt10 : b10 < W1.heap.size := by have := H10.out.lt; have := HB1.out.size; omega
      have N10' := (H10.out.below HB1.out H10.out.lt).far_ (p := ⟨b9, 0, none⟩) (by show ¬ b10 = b9; omega) (.int .i64 M1)
      have HW8' : Far (fun i => i = b9) W (W1.setCell ⟨b9, 0, none⟩ (.int .i64 M1)) := Far.setCell (o := fun i => i = b9) (Far.of_below HB1.out) (p := ⟨b9, 0, none⟩) (Or.inl rfl) _
      obtain ⟨V8, hV8⟩ : ∃ V, W1.setCell ⟨b9, 0, none⟩ (.int .i64 M1) = V := ⟨_, rfl⟩
      rw [hV8] at N9' HF8' N10' HW8'
      try rw [hV8]
      have N9 : Hid (Blk V8 b9 23 #[.int .i64 M1, .int .i64 Q2]) := N9'
      have N10 := Lib.hid N10'
      have HF8 := Lib.hid HF8'
      have HW8 := Lib.hid HW8'
      have N1 := Lib.hid (G1.out.far HF8.out m1)
      clear N9' HF8' N10' HW8' hV8 u0 u1 v0 v1 M9 HB1 HB0 HSV k0 hHeld hfd HFU H1
      have HSV : Hid (∀ U, Below V8.heap.size V8 U → U.cell? ⟨b9, 1, none⟩ = some (.int .i64 Q2) ∧ U.cell? ⟨n0, 0, none⟩ = some (.int .i64 mean) ∧ U.cell? ⟨n0, 1, none⟩ = some (.slice A ps.length c) ∧ U.cell? ⟨b10, 0, none⟩ = some (.int .i64 x1) ∧ U.cell? ⟨b10, 1, none⟩ = some (.int .i64 x2)) := fun U hU => by
        have k9 := N9.out.below hU N9.out.lt
        have k1 := N1.out.below hU N1.out.lt
        have k10 := N10.out.below hU N10.out.lt
        exact ⟨k9.cell 1, k1.cell 0, k1.cell 1, k10.cell 0, k10.cell 1⟩
      have k0 := HSV.out _ (Below.drew (Below.refl V8.heap.size V8))
      have HFU2 : Hid (∀ U, Below V8.heap.size V8 U → Far (fun i => i = b9) V5 U) := fun U hU => HF8.out.trans (Far.of_below hU) (fun _ _ h => h)
      have hfd := fieldS1
      gi_wp2_with fail
      refine wpIn_region_calm (S := (fun w' => w'.cell? ⟨b9, 1, none⟩ = some (.int .i64 Q2) ∧ w'.cell? ⟨n0, 0, none⟩ = some (.int .i64 mean) ∧ w'.cell? ⟨n0, 1, none⟩ = some (.slice A ps.length c) ∧ w'.cell? ⟨b10, 0, none⟩ = some (.int .i64 x1) ∧ w'.cell? ⟨b10, 1, none⟩ = some (.int .i64 x2))) (ks := [8]) (by kernel_rfl) (by kernel_rfl) ?_ (fun hHeld => ?_)
      · (try dsimp only); (exact k0)
      refine wpAnyL_take (i := 0) (oi := opk8_0) (v := ?_) rfl (by kernel_rfl) (fun _ _ _ h => h) (Or.inl ⟨by rfl, ?_⟩) (by assumption) ?_
      rotate_left
      · ((intro w hSw; delta opk8_0; (try dsimp only at hSw); go_simp) <;> with_reducible rfl)
      try simp only [opk8_0, Act.put, List.setIfInBounds_toArray, List.set_cons_zero, List.set_cons_succ]
      refine wpAnyL_take (i := 1) (oi := opk8_1) (v := ?_) rfl (by kernel_rfl) (fun _ _ _ h => h) (Or.inl ⟨by rfl, ?_⟩) (by assumption) ?_
      rotate_left
      · ((intro w hSw; delta opk8_1; (try dsimp only at hSw); go_simp) <;> with_reducible rfl)
      try simp only [opk8_1, Act.put, List.setIfInBounds_toArray, List.set_cons_zero, List.set_cons_succ]
      refine wpAnyL_take (i := 2) (oi := opk8_2) (v := ?_) rfl (by kernel_rfl) (fun _ _ _ h => h) (Or.inl ⟨by rfl, ?_⟩) (by assumption) ?_
      rotate_left
      · ((intro w hSw; delta opk8_2; (try dsimp only at hSw); go_simp) <;> with_reducible rfl)
      try simp only [opk8_2, Act.put, List.setIfInBounds_toArray, List.set_cons_zero, List.set_cons_succ]
      refine wpAnyL_take (i := 3) (oi := opk8_3) (v := ?_) rfl (by kernel_rfl) (fun _ _ _ h => h) (Or.inl ⟨by rfl, ?_⟩) (by assumption) ?_
      rotate_left
      · ((intro w hSw; delta opk8_3; (try dsimp only at hSw); go_simp) <;> with_reducible rfl)
      try simp only [opk8_3, Act.put, List.setIfInBounds_toArray, List.set_cons_zero, List.set_cons_succ]
      obtain ⟨W0, hW0⟩ : ∃ V, V8.drew = V := ⟨_, rfl⟩; rw [hW0] at hHeld ⊢; have HB0 : Hid (Below V8.heap.size V8 W0) := (by rw [← hW0]; exact Below.drew (Below.refl _ _)); clear hW0
      refine wpAnyL_ready (rs := [4]) (by kernel_rfl) (by simp) ?_
      refine AllReadyL.cons (o := opk8_4) rfl (fun K hK => ?_) AllReadyL.nil
      delta opk8_4
      go_simp
      (refine (levelIn_any _ ⟨mean, ps⟩ x1 x2 _ ⟨_, rfl, HMD.out _ (HFU2.out _ HB0.out)⟩ HE.out ⟨by omega, by omega, by omega⟩).mono ?_; rintro e W1 ⟨rfl, hb⟩; rw [hLb]; have HB1 := Lib.hid (HB0.out.trans (hb.mono HB0.out.size)); clear hb)
      refine hK.out _ _ ?_ (fun hHeld => ?_)
      · (try dsimp only); (exact HSV.out _ HB1.out)
      clear hK K
      try simp only [opk8_4, Act.put, List.setIfInBounds_toArray, List.set_cons_zero, List.set_cons_succ]
      refine wpAnyL_take (i := 5) (oi := opk8_5) (v := ?_) rfl (by kernel_rfl) (fun _ _ _ h => h) (Or.inl ⟨by rfl, ?_⟩) (by assumption) ?_
      rotate_left
      · ((intro w hSw; delta opk8_5; (try dsimp only at hSw); go_simp) <;> with_reducible rfl)
      try simp only [opk8_5, Act.put, List.setIfInBounds_toArray, List.set_cons_zero, List.set_cons_succ]
      refine wpAnyL_ready (rs := [6]) (by kernel_rfl) (by simp) ?_
      refine AllReadyL.cons (o := opk8_6) rfl (fun K hK => ?_) AllReadyL.nil
      delta opk8_6
      go_simp
      refine hK.out _ _ ?_ (fun hHeld => ?_)
      · (try dsimp only); (exact HSV.out _ HB1.out)
      clear hK K
      try simp only [opk8_6, Act.put, List.setIfInBounds_toArray, List.set_cons_zero, List.set_cons_succ]
      refine wpAnyL_take (i := 7) (oi := opk8_7) (v := ?_) rfl (by kernel_rfl) (fun _ _ _ h => h) (Or.inl ⟨by rfl, ?_⟩) (by assumption) ?_
      rotate_left
      · ((intro w hSw; delta opk8_7; (try dsimp only at hSw); go_simp) <;> with_reducible rfl)
      try simp only [opk8_7, Act.put, List.setIfInBounds_toArray, List.set_cons_zero, List.set_cons_succ]
      have M9 := Lib.hid (N9.out.below HB1.out N9.out.lt); obtain ⟨u0, u1, v0, v1⟩ := span_parts M9.out
      refine wpAnyL_ready (rs := [8]) (by kernel_rfl) (by simp) ?_
      refine AllReadyL.gate (o := opk8_8) rfl (by kernel_rfl) (fun K hK => ?_) AllReadyL.nil
      delta opk8_8
      go_simp
      refine hK.out _ _ ?_
      clear hK K
      try simp only [opk8_8, Act.put, List.setIfInBounds_toArray, List.set_cons_zero, List.set_cons_succ]
      refine wpAnyL_done (by kernel_rfl) ?_ _
      refine NormOnly.normal ?_
      have O9' := M9.out.set_ 1 (.int .i64 M2)
      have HFE := Lib.hid ((HFU2.out _ HB1.out).setCell (p := ⟨b9, 1, none⟩) (Or.inl rfl) (.int .i64 M2))
      have HWE := Lib.hid ((HW8.out.trans (Far.of_below HB1.out) (fun _ _ h => h)).setCell (p := ⟨b9, 1, none⟩) (Or.inl rfl) (.int .i64 M2))
      have O9 := Lib.hid O9'
      clear O9' u0 u1 v0 v1 M9 HB1 HB0 HSV k0 hHeld hfd HFU2
      have z7 := HF.out.size
      have kt := HWE.out.block bt (by omega) m3
      have ks := HWE.out.block bs (by omega) m4
      gi_wp2
      exact ⟨keepsFrom_far V5.heap.size HWE.out H9.out, ⟨kt, ks⟩, HFE.out, by rw [HX.out.1, HX.out.2]; exact O9.out⟩
    case done =>
      rintro D ys W hD rfl ⟨hF, h9⟩ hK
      rw [pcsT_map ht hs1] at h9
      obtain ⟨R1, hR1⟩ : ∃ q, pkLo ⟨mean, ps⟩ lo (pcs (lo, hi) s) = q := ⟨_, rfl⟩
      obtain ⟨R2, hR2⟩ : ∃ q, pkHi ⟨mean, ps⟩ lo (pcs (lo, hi) s) = q := ⟨_, rfl⟩
      rw [hR1, hR2] at HV h9
      have H9 := Lib.hid h9
      have H2 := Lib.hid (G2.out.far hF m2)
      have HB := Lib.hid (GB.out.trans (hF.below GB.out.size (by intro i hi h; have := hn0'.out; omega)))
      have HK := Lib.hid hK
      have g2 : w.heap.size ≤ n2 := by have := hn0'.out; omega
      have hDn : w.heap.size ≤ D := by have := GB.out.size; omega
      clear hF h9 hK hR1 hR2
      obtain ⟨u0, u1, -, -⟩ := span_parts H9.out
      obtain ⟨t0, t1, v0, v1⟩ := span_parts H2.out
      have E2 := Lib.hid ((H2.out.set_ 0 (.int .i64 R1)).set_ 1 (.int .i64 R2))
      have EB := Lib.hid ((HB.out.setCell (p := ⟨n2, 0, none⟩) g2 (.int .i64 R1)).setCell (p := ⟨n2, 1, none⟩) g2 (.int .i64 R2))
      have EK : Hid (((W.setCell ⟨n2, 0, none⟩ (.int .i64 R1)).setCell ⟨n2, 1, none⟩ (.int .i64 R2)).heap[D]? = some (.deferred (some []))) := by
        have hne : ¬ D = n2 := fun e => by
          have h1 : W.heap[n2]? = some (.cells #[.int .i64 0, .int .i64 0] 23 (0, 0)) := H2.out
          rw [← e] at h1
          rw [HK.out] at h1
          cases h1
        exact (Below.heap_setCell _ _ _ _ hne).trans ((Below.heap_setCell _ _ _ _ hne).trans HK.out)
      dsimp only
      gi_wp2
      have F2 : Hid (Blk (((W.setCell ⟨n2, 0, none⟩ (.int .i64 R1)).setCell ⟨n2, 1, none⟩ (.int .i64 R2)).putObj D (.deferred none)) n2 23 #[.int .i64 R1, .int .i64 R2]) := Blk.put E2.out EK.out rfl
      have hRR := span_parts F2.out
      refine bodyM_mark (v := .tuple #[.agg #[.int .i64 R1, .int .i64 R2], .int .i64 0]) (run_takeDeferred EK.out) (by simp [results, Try.results24, go_sem, hRR.1, hRR.2.1]) rfl ⟨by rw [HV.out, HM.out], ?_⟩
      exact EB.out.trans (belowK_b (w := w) (Nat.le_refl _) _ D _ _ (by omega) EK.out rfl rfl)
    case stop =>
      rintro D c pre W _ _ h _
      exact h.elim
end Go.Proofs.Ytfblpokjbopagaa
