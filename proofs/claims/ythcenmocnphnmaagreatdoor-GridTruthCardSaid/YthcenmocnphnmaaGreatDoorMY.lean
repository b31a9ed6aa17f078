/-
  Texts: the span that a word is; the reference's span.
-/
import Derived.Test.YthcenmocnphnmaaGreatDoorMX
import Derived.Shelf.Strings.FieldsAny
import Derived.Lib.IndexMore
import Derived.Lib.AtoiAll
set_option linter.unusedSimpArgs false
set_option linter.unusedVariables false
namespace Go.Proofs.YthcenmocnphnmaaGreatDoor
open Go.RowKit Go.Shelf

def dotsAt (s : List UInt8) (i : Nat) : Bool := decide (s[i]? = some 46) && decide (s[i + 1]? = some 46)
/-- where the two dots of a word begin -/
def dotsOf (s : List UInt8) : Option Nat := (List.range (s.length - 1)).find? (dotsAt s)
def spanOf (s : List UInt8) : (Int × Int) × Bool :=
  match dotsOf s with
  | some i => (((numR (s.take i) 1200000).1, (numR (s.drop (i + 2)) 1200000).1), (numR (s.take i) 1200000).2 && (numR (s.drop (i + 2)) 1200000).2)
  | none => (((numR s 1200000).1, (numR s 1200000).1), (numR s 1200000).2)
theorem dotsOf_some {s : List UInt8} {i : Nat} (h1 : i + 1 < s.length) (h2 : dotsAt s i = true) (h3 : ∀ j, j < i → dotsAt s j = false) : dotsOf s = some i := by
  unfold dotsOf
  rw [List.find?_range_eq_some]
  exact ⟨h2, List.mem_range.2 (by omega), fun j hj => by rw [h3 j hj]; rfl⟩
theorem dotsOf_none {s : List UInt8} (h3 : ∀ j, j + 1 < s.length → dotsAt s j = false) : dotsOf s = none := by
  unfold dotsOf
  rw [List.find?_eq_none]
  intro j hj
  have := List.mem_range.1 hj
  rw [h3 j (by omega)]
  decide
theorem bs_take (s : List UInt8) (i : Nat) : (bs s).extract 0 i = bs (s.take i) := by
  unfold bs
  apply ByteArray.ext
  simp
theorem bs_sub (s : List UInt8) (i j : Nat) : (bs s).extract i j = bs ((s.take j).drop i) := by
  unfold bs
  apply ByteArray.ext
  simp [List.drop_take]
theorem bs_from (s : List UInt8) (i : Nat) : (bs s).extract i s.length = bs (s.drop i) := by
  rw [bs_sub, List.take_length]
theorem dots_sub {s : List UInt8} {i : Nat} (h : i + 1 < s.length) : decide ((s.take (i + 2)).drop i = [46, 46]) = dotsAt s i := by
  have e : (s.take (i + 2)).drop i = [s[i]'(by omega), s[i + 1]'h] := by
    refine List.ext_getElem (by simp; omega) fun k h1 h2 => ?_
    have : k = 0 ∨ k = 1 := by simp at h2; omega
    rcases this with rfl | rfl <;> simp
  unfold dotsAt
  rw [e, List.getElem?_eq_getElem (by omega), List.getElem?_eq_getElem h, Bool.eq_iff_iff]
  simp
theorem rNumber_of (s : List UInt8) (most : Int) (r : Int × Bool) (hr : numR s most = r) (w : World) (h0 : 0 ≤ most) (h1 : most ≤ 10000000000) (hs : s.length ≤ 9223372036854775807) :
    Calls Tryz.prog 79 #[.string (bs s), .int .i64 most] w fun e w' => e = .returned (.tuple #[.int .i64 r.1, .bool r.2]) ∧ ∃ n, w' = w.drewN n := by
  subst hr
  exact rNumber_any s most w h0 h1 hs

set_option maxRecDepth 100000 in
set_option maxHeartbeats 4000000 in
theorem rSpan_any (s : List UInt8) (w : World) (hs : s.length ≤ 9223372036854775000) :
    Calls Tryz.prog 80 #[.string (bs s)] w fun e w' => e = .returned (.tuple #[.agg #[.int .i64 (spanOf s).1.1, .int .i64 (spanOf s).1.2], .bool (spanOf s).2]) ∧ Below w.heap.size w w' := by
  have hz : (bs s).size = s.length := bs_size s
  go_enter Tryz.func80, Tryz.ntmps80
  go_wp2
  go_loopw [4] (fun i wr => ∃ q : Nat, q ≤ s.length ∧ i = .int .i64 q ∧ Hid (∀ j, j < q → dotsAt s j = false) ∧ wr = w.alloc (.cells #[.int .i64 0, .int .i64 0] 34)) (fun i _ => s.length - (intOf i).toNat)
  case atStart => exact ⟨0, Nat.zero_le _, rfl, fun j hj => absurd hj (by omega), rfl⟩
  case round =>
    obtain ⟨q, hq, rfl, Hno, rfl⟩ := hrel
    by_cases hlt : q + 1 < s.length
    · have hlt' : (q : Int) + 1 < s.length := by omega
      have hi1 : (q : Int) ≤ (q : Int) + 2 := by omega
      have hi2 : (q : Int) + 2 ≤ s.length := by omega
      by_cases hd : dotsAt s q = true
      · have Hsp : Hid (spanOf s = (((numR (s.take q) 1200000).1, (numR (s.drop (q + 2)) 1200000).1), (numR (s.take q) 1200000).2 && (numR (s.drop (q + 2)) 1200000).2)) := by
          unfold spanOf
          rw [Hid, dotsOf_some hlt hd Hno.out]
        have hcmp : (((bs s).extract q (q + 2)).toList == [46, 46]) = true := by rw [bs_sub, bs_toList, beq_dec, dots_sub hlt, hd]
        have et := bs_take s q
        have ef := bs_from s (q + 2)
        obtain ⟨r1, hr1⟩ : ∃ r1, numR (s.take q) 1200000 = r1 := ⟨_, rfl⟩
        obtain ⟨r2, hr2⟩ : ∃ r2, numR (s.drop (q + 2)) 1200000 = r2 := ⟨_, rfl⟩
        rw [hr1, hr2] at Hsp
        obtain ⟨lo, a⟩ := r1
        obtain ⟨hi, b⟩ := r2
        have Hr1 := Lib.hid hr1
        have Hr2 := Lib.hid hr2
        clear hr1 hr2 hd
        go_wp2_with fail
        refine (rNumber_of _ 1200000 _ Hr1.out _ (by decide) (by decide) (by rw [List.length_take]; omega)).mono ?_
        rintro e w1 ⟨rfl, m1, rfl⟩
        go_wp2_with fail
        refine (rNumber_of _ 1200000 _ Hr2.out _ (by decide) (by decide) (by rw [List.length_drop]; omega)).mono ?_
        rintro e w1 ⟨rfl, m2, rfl⟩
        cases a
        · go_wp2
          refine bodyPost_ret (v := .tuple #[.agg #[.int .i64 lo, .int .i64 hi], .bool false]) (by simp [results, Tryz.results80, go_sem]) rfl ?_
          exact ⟨by rw [Hsp.out]; rfl, (by repeat (first | exact Below.refl _ _ | assumption | refine Below.drew ?_ | refine Below.drewN' ?_ _ | (refine Below.alloc ?_ (by simp <;> omega) _) | (refine Below.setCell ?_ (by simp <;> omega) _)))⟩
        · go_wp2
          refine bodyPost_ret (v := .tuple #[.agg #[.int .i64 lo, .int .i64 hi], .bool b]) (by simp [results, Tryz.results80, go_sem]) rfl ?_
          exact ⟨by rw [Hsp.out]; rfl, (by repeat (first | exact Below.refl _ _ | assumption | refine Below.drew ?_ | refine Below.drewN' ?_ _ | (refine Below.alloc ?_ (by simp <;> omega) _) | (refine Below.setCell ?_ (by simp <;> omega) _)))⟩
      · have hd' : dotsAt s q = false := by simpa using hd
        have Hn : Hid (∀ j, j < q + 1 → dotsAt s j = false) := fun j hj => by
          by_cases e : j = q
          · subst e; exact hd'
          · exact Hno.out j (by omega)
        have hcmp : (((bs s).extract q (q + 2)).toList == [46, 46]) = false := by rw [bs_sub, bs_toList, beq_dec, dots_sub hlt, hd']
        clear hd hd'
        go_wp2
        go_roundw
        case rel => exact ⟨q + 1, by omega, by go_num, Hn.out, trivial⟩
        case measure => simp [intOf]; omega
    · have Hsp : Hid (spanOf s = (((numR s 1200000).1, (numR s 1200000).1), (numR s 1200000).2)) := by
        unfold spanOf
        rw [Hid, dotsOf_none (fun j hj => Hno.out j (by omega))]
      have hlt' : ¬ (q : Int) + 1 < s.length := by omega
      obtain ⟨r1, hr1⟩ : ∃ r1, numR s 1200000 = r1 := ⟨_, rfl⟩
      rw [hr1] at Hsp
      obtain ⟨lo, a⟩ := r1
      have Hr1 := Lib.hid hr1
      clear hr1 hlt
      go_wp2_with fail
      refine (rNumber_of _ 1200000 _ Hr1.out _ (by decide) (by decide) (by omega)).mono ?_
      rintro e w1 ⟨rfl, m1, rfl⟩
      go_wp2
      refine bodyPost_ret (v := .tuple #[.agg #[.int .i64 lo, .int .i64 lo], .bool a]) (by simp [results, Tryz.results80, go_sem]) rfl ?_
      exact ⟨by rw [Hsp.out], (by repeat (first | exact Below.refl _ _ | assumption | refine Below.drew ?_ | refine Below.drewN' ?_ _ | (refine Below.alloc ?_ (by simp <;> omega) _) | (refine Below.setCell ?_ (by simp <;> omega) _)))⟩
end Go.Proofs.YthcenmocnphnmaaGreatDoor
/-
  Texts: the parts of a string between bytes; the reference's Split.
-/
namespace Go.Proofs.YthcenmocnphnmaaGreatDoor
open Go.RowKit Go.Shelf

def splitB (b : UInt8) : List UInt8 → List UInt8 → List (List UInt8)
  | cur, [] => [cur]
  | cur, c :: s => if c = b then cur :: splitB b [] s else splitB b (cur ++ [c]) s
def splitOf (b : UInt8) (s : List UInt8) : List (List UInt8) := splitB b [] s
/-- what holds at a place of the walk: the parts so far, and where the next begins -/
def SplitAt (b : UInt8) (s : List UInt8) (l : List (List UInt8)) (f i : Nat) : Prop := f ≤ i ∧ splitOf b s = l ++ splitB b ((s.take i).drop f) (s.drop i)
theorem SplitAt.init (b : UInt8) (s : List UInt8) : SplitAt b s [] 0 0 := ⟨Nat.le_refl _, by simp [splitOf]⟩
theorem SplitAt.hit {b : UInt8} {s : List UInt8} {l : List (List UInt8)} {f i : Nat} (h : SplitAt b s l f i) (hi : i < s.length) (hb : s[i] = b) : SplitAt b s (l ++ [(s.take i).drop f]) (i + 1) (i + 1) := by
  refine ⟨Nat.le_refl _, ?_⟩
  rw [h.2, List.drop_eq_getElem_cons hi]
  simp only [splitB]
  rw [if_pos hb, List.append_assoc]
  congr 1
  simp [List.drop_take]
theorem SplitAt.miss {b : UInt8} {s : List UInt8} {l : List (List UInt8)} {f i : Nat} (h : SplitAt b s l f i) (hi : i < s.length) (hb : s[i] ≠ b) : SplitAt b s l f (i + 1) := by
  refine ⟨by have := h.1; omega, ?_⟩
  rw [h.2, List.drop_eq_getElem_cons hi]
  simp only [splitB]
  rw [if_neg hb]
  congr 2
  have : s.take (i + 1) = s.take i ++ [s[i]] := List.take_succ_eq_append_getElem hi
  rw [this, List.drop_append_of_le_length (by rw [List.length_take]; have := h.1; omega)]
theorem SplitAt.end_ {b : UInt8} {s : List UInt8} {l : List (List UInt8)} {f : Nat} (h : SplitAt b s l f s.length) : l ++ [s.drop f] = splitOf b s := by
  rw [h.2, List.take_length, List.drop_length]
  rfl
def StrsAt (w : World) (B : Nat) (v : Value) (l : List (List UInt8)) : Prop := Reads w B 1 v l.length (l.map fun s => Value.string (bs s))
theorem str_info : (Tryz.prog.info? 9).map (fun i => (i.zero, i.size, i.bytes)) = some (some (.string ⟨#[]⟩), 1, 16) := by kernel_rfl
theorem strs_step {w0 W w1 : World} {B n : Nat} {v v1 : Value} {l : List (List UInt8)} {x : List UInt8} {o : Obj} (hn : n = l.length) (ho : W.ownsRow B 9 1 v n (l.map fun s => Value.string (bs s))) (hb : Below B w0 W) (hB : B ≤ W.heap.size) (hown1 : w1.ownsRow B 9 1 v1 (n + 1) ((l.map fun s => Value.string (bs s)) ++ [.string (bs x)])) (hg1 : (W.alloc o).grownBy w1 v.ownBlock) :
    Hid (w1.ownsRow B 9 1 v1 (n + 1) ((l ++ [x]).map fun s => Value.string (bs s))) ∧ Hid (n + 1 = (l ++ [x]).length) ∧ Hid (Below B w0 w1) ∧ B ≤ w1.heap.size :=
  ⟨by rw [List.map_append]; exact hown1, by simp [Hid, hn], (hb.alloc hB o).grown hg1 (by simp; omega) (fun k e => (ho.lt k e).1), Nat.le_trans (by simp; omega) hg1.size⟩

set_option maxRecDepth 100000 in
set_option maxHeartbeats 4000000 in
theorem rSplit_own (s : List UInt8) (b : UInt8) (w : World) (hs : s.length ≤ 65536) :
    Calls Tryz.prog 78 #[.string (bs s), .int .u8 b.toNat] w fun e w' => ∃ v, e = .returned v ∧ w'.ownsRow w.heap.size 9 1 v (splitOf b s).length ((splitOf b s).map fun s => Value.string (bs s)) ∧ Below w.heap.size w w' := by
  have hz : (bs s).size = s.length := bs_size s
  obtain ⟨i0, hi0, hz0, hz1, hz2⟩ := info_parts str_info
  go_enter Tryz.func78, Tryz.ntmps78
  go_wp2
  go_loopw [5, 6, 7] (fun v fv iv wr => ∃ (i f : Nat) (l : List (List UInt8)) (va : Value), va = v ∧ fv = .int .i64 f ∧ iv = .int .i64 i ∧ i ≤ s.length + 1 ∧ f ≤ i ∧ Hid (i ≤ s.length → SplitAt b s l f i) ∧ Hid (i = s.length + 1 → l = splitOf b s) ∧ l.length ≤ i ∧ Hid (wr.ownsRow w.heap.size 9 1 va l.length (l.map fun s => Value.string (bs s))) ∧ Below w.heap.size w wr) (fun _ _ i _ => s.length + 1 - (intOf i).toNat)
  case atStart => exact ⟨0, 0, [], _, rfl, rfl, rfl, Nat.zero_le _, Nat.le_refl _, fun _ => SplitAt.init b s, (fun h => by omega), Nat.le_refl _, World.ownsRow_nil _ _ _ _, Below.refl _ _⟩
  case round =>
    obtain ⟨i, f, l, va, rfl, rfl, rfl, hi, hf, Hsp, Hend, hll, Hown, hBr⟩ := hrel
    have HBr := Lib.hid hBr
    have hsz := hBr.size
    clear hBr
    by_cases hle : i ≤ s.length
    · have hle' : (i : Int) ≤ s.length := by omega
      have hf0 : (0 : Int) ≤ (f : Int) := by omega
      have hf1 : (f : Int) ≤ (i : Int) := by omega
      have hSp := Lib.hid (Hsp.out hle)
      by_cases hat : i = s.length
      · subst hat
        have hE : Hid (l ++ [s.drop f] = splitOf b s) := hSp.out.end_
        have hex := bs_from s f
        generalize s.drop f = x at *
        go_wp2_with (at_builtin; ((refine wpList_append_own_at _ rfl (.tmp 25) (.tmp 30) 115 rfl w.heap.size 9 i0 (.string ⟨#[]⟩) 1 16 Tryz.underlying115 hi0 hz0 hz1 hz2 rfl (by decide) va l.length _ rfl (Hown.out.alloc _) ⟨_, 0, none⟩ 1 1 [.string (bs x)] rfl rfl (cell_one_new' _ _ _ (by simp)) (by simp [Value.oneCell']) (by unfold maxLen; omega) (by omega) (by simp <;> omega) ?_; intro v1 w1 hown1 hg1 _ _; obtain ⟨HO1, s2, HB1, HBs1⟩ := strs_step (l := l) rfl Hown.out HBr.out (by omega) hown1 hg1; clear s2 hown1 hg1)))
        go_roundw
        case rel => exact ⟨s.length + 1, s.length + 1, l ++ [x], v1, rfl, by go_num, by go_num, by omega, by omega, (fun h => by omega), (fun _ => hE.out), by simp; omega, by rw [List.length_append]; exact HO1.out, HB1.out⟩
        case measure => simp [intOf] <;> omega
      · have hlt : i < s.length := by omega
        have hb1 : ¬ (i : Int) = s.length := by omega
        have hlt' : (i : Int) < s.length := by omega
        have hg := bs_get s i (by rw [bs_size]; exact hlt)
        clear hat
        by_cases hc : s[i] = b
        · have hE := Lib.hid (hSp.out.hit hlt hc)
          have hcc : (((s[i]).toNat : Int) == b.toNat) = true := by rw [hc]; simp
          have hex := bs_sub s f i
          clear hc
          generalize (s.take i).drop f = x at *
          generalize s[i] = c at *
          go_wp2_with (at_builtin; ((refine wpList_append_own_at _ rfl (.tmp 25) (.tmp 30) 115 rfl w.heap.size 9 i0 (.string ⟨#[]⟩) 1 16 Tryz.underlying115 hi0 hz0 hz1 hz2 rfl (by decide) va l.length _ rfl (Hown.out.alloc _) ⟨_, 0, none⟩ 1 1 [.string (bs x)] rfl rfl (cell_one_new' _ _ _ (by simp)) (by simp [Value.oneCell']) (by unfold maxLen; omega) (by omega) (by simp <;> omega) ?_; intro v1 w1 hown1 hg1 _ _; obtain ⟨HO1, s2, HB1, HBs1⟩ := strs_step (l := l) rfl Hown.out HBr.out (by omega) hown1 hg1; clear s2 hown1 hg1)))
          go_roundw
          case rel => exact ⟨i + 1, i + 1, l ++ [x], v1, rfl, by go_num, by go_num, by omega, by omega, (fun _ => hE.out), (fun h => by omega), by simp; omega, by rw [List.length_append]; exact HO1.out, HB1.out⟩
          case measure => simp [intOf] <;> omega
        · have hE := Lib.hid (hSp.out.miss hlt hc)
          have hcc : (((s[i]).toNat : Int) == b.toNat) = false := by
            rw [beq_eq_false_iff_ne]
            intro h
            exact hc (UInt8.toNat_inj.1 (by omega))
          clear hc
          generalize s[i] = c at *
          go_wp2
          go_roundw
          case rel => exact ⟨i + 1, f, l, va, rfl, rfl, by go_num, by omega, by omega, (fun _ => hE.out), (fun h => by omega), by omega, Hown.out, HBr.out⟩
          case measure => simp [intOf] <;> omega
    · have hi' : i = s.length + 1 := by omega
      have hR := Lib.hid (Hend.out hi')
      have hle' : ¬ (i : Int) ≤ s.length := by omega
      clear hi' hle
      go_wp2
      go_ret
      refine ⟨_, rfl, ?_, HBr.out⟩
      rw [← hR.out]
      exact Hown.out
theorem rSplit_nl (s : List UInt8) (w : World) (hs : s.length ≤ 65536) :
    Calls Tryz.prog 78 #[.string (bs s), .int .u8 10] w fun e w' => ∃ v, e = .returned v ∧ w'.ownsRow w.heap.size 9 1 v (splitOf 10 s).length ((splitOf 10 s).map fun s => Value.string (bs s)) ∧ Below w.heap.size w w' := rSplit_own s 10 w hs
theorem rSplit_sp (s : List UInt8) (w : World) (hs : s.length ≤ 65536) :
    Calls Tryz.prog 78 #[.string (bs s), .int .u8 32] w fun e w' => ∃ v, e = .returned v ∧ w'.ownsRow w.heap.size 9 1 v (splitOf 32 s).length ((splitOf 32 s).map fun s => Value.string (bs s)) ∧ Below w.heap.size w w' := rSplit_own s 32 w hs
section
variable {w w' : World} {B B' : Nat} {v : Value} {l : List (List UInt8)}
theorem StrsAt.below (h : StrsAt w B v l) (hb : Below B w w') : StrsAt w' B v l := Reads.below h hb
theorem StrsAt.more (h : StrsAt w B v l) (hB : B ≤ B') : StrsAt w B' v l := Reads.more h hB
theorem StrsAt.later (h : StrsAt w B v l) (hb : Below B w w') (hB : B ≤ w.heap.size) : StrsAt w' w'.heap.size v l := Reads.later h hb hB
theorem StrsAt.own {base : Nat} (h : w.ownsRow base 9 1 v l.length (l.map fun s => Value.string (bs s))) : StrsAt w w.heap.size v l := Reads.of_own h
theorem StrsAt.open_ (h : StrsAt w B v l) : ∃ A c, v = .slice A l.length c ∧ l.length ≤ c ∧ l.length ≤ 9223372036854775807 := by
  obtain ⟨_, h2, A, c, h3, h4, _⟩ := h
  exact ⟨A, c, h3, h4, h2⟩
theorem StrsAt.at_ {A : Option Addr} {n c : Nat} (h : StrsAt w B (.slice A n c) l) {k : Nat} (hk : k < l.length) :
    ∃ b off, A = some ⟨b, off, none⟩ ∧ b < B ∧ w.cell? ⟨b, off + k, none⟩ = some (.string (bs l[k])) := by
  obtain ⟨rfl, _⟩ := Reads.slice h
  obtain ⟨b, off, e, hb, u, hu, hc⟩ := Reads.at1 h hk
  refine ⟨b, off, e, hb, ?_⟩
  rw [hc]
  simpa [hk] using hu.symm
end
end Go.Proofs.YthcenmocnphnmaaGreatDoor
/-
  Texts: what the reference reads out of a text, without any program; a grid's text gives the grid back.
-/
namespace Go.Proofs.YthcenmocnphnmaaGreatDoor
open Go.RowKit Go.Shelf

/-- a text's words -/
def okC (c : UInt8) : Bool := digB c || decide (c = 45)
theorem itoa_ok (n : Int) : (Lib.itoa n).all okC = true := by
  have hd : ∀ u, (Lib.decDigits u).all okC = true := fun u => by
    rw [List.all_eq_true]
    intro c hc
    have := List.all_eq_true.1 (dval_dec u).2 c hc
    unfold okC
    rw [this]
    rfl
  unfold Lib.itoa
  split
  · rw [List.all_cons, hd]
    rfl
  · exact hd _
theorem itoa_ne (n : Int) : Lib.itoa n ≠ [] := by
  unfold Lib.itoa
  split
  · exact List.cons_ne_nil _ _
  · intro h
    have := congrArg List.length h
    rw [Lib.decDigits_length] at this
    have := Lib.nDigits_pos n.toNat
    simp at *
    omega
theorem okC_no {c : UInt8} (h : okC c = true) : c ≠ 10 ∧ c ≠ 32 ∧ c ≠ 46 := by
  unfold okC digB at h
  refine ⟨?_, ?_, ?_⟩ <;> (rintro rfl; revert h; decide)
theorem not_mem_of {l : List UInt8} (h : l.all okC = true) : 10 ∉ l ∧ 32 ∉ l ∧ 46 ∉ l := by
  rw [List.all_eq_true] at h
  exact ⟨fun m => (okC_no (h _ m)).1 rfl, fun m => (okC_no (h _ m)).2.1 rfl, fun m => (okC_no (h _ m)).2.2 rfl⟩
theorem spanTxt_no (s : Int × Int) : 10 ∉ spanTxt s ∧ 32 ∉ spanTxt s ∧ spanTxt s ≠ [] := by
  have h1 := not_mem_of (itoa_ok s.1)
  have h2 := not_mem_of (itoa_ok s.2)
  have h3 := itoa_ne s.1
  unfold spanTxt
  split
  · exact ⟨h1.1, h1.2.1, h3⟩
  · refine ⟨?_, ?_, ?_⟩
    · simp only [List.mem_append, not_or]
      exact ⟨h1.1, by decide, h2.1⟩
    · simp only [List.mem_append, not_or]
      exact ⟨h1.2.1, by decide, h2.2.1⟩
    · intro h
      exact h3 (List.append_eq_nil_iff.1 h).1
theorem splitB_skip (b : UInt8) (x : List UInt8) (h : b ∉ x) : ∀ (cur y : List UInt8), splitB b cur (x ++ y) = splitB b (cur ++ x) y := by
  induction x with
  | nil => intro cur y; simp
  | cons c x ih =>
    intro cur y
    have hc : c ≠ b := fun e => h (e ▸ List.mem_cons_self)
    have := ih (fun m => h (List.mem_cons_of_mem _ m)) (cur ++ [c]) y
    simp only [List.cons_append, splitB]
    rw [if_neg hc, this]
    simp
theorem splitB_hit (b : UInt8) (cur y : List UInt8) : splitB b cur (b :: y) = cur :: splitB b [] y := by simp [splitB]
theorem splitB_all (b : UInt8) (x : List UInt8) (h : b ∉ x) (cur : List UInt8) : splitB b cur x = [cur ++ x] := by
  have := splitB_skip b x h cur []
  rw [List.append_nil] at this
  rw [this]
  rfl
def lineW (l : List UInt8) : List (List UInt8) := if l = [] then [] else splitOf 32 l
theorem cells_words (W : Int) : ∀ (ss : List (Int × Int)) (k : Nat) (p : List UInt8) (ws : List (List UInt8)), ((k : Int) + ss.length) % W = 0 → (∀ x, splitB 32 [] (p ++ x) = ws ++ splitB 32 [] x) → (ss = [] → p = [] ∧ ws = []) → (splitB 10 p (cellsTxt W ss k)).flatMap lineW = ws ++ ss.map spanTxt := by
  intro ss
  induction ss with
  | nil =>
    intro k p ws _ _ h
    obtain ⟨rfl, rfl⟩ := h rfl
    rfl
  | cons s ss ih =>
    intro k p ws hk hp _
    obtain ⟨n1, n2, n3⟩ := spanTxt_no s
    have hk' : (((k + 1 : Nat) : Int) + ss.length) % W = 0 := by
      rw [← hk]
      congr 1
      simp
      omega
    simp only [cellsTxt, List.append_assoc]
    rw [splitB_skip 10 _ n1]
    unfold sepTxt
    split
    · rw [List.singleton_append, splitB_hit, List.flatMap_cons, ih (k + 1) [] [] hk' (fun x => rfl) (fun _ => ⟨rfl, rfl⟩)]
      have hne : p ++ spanTxt s ≠ [] := fun e => n3 (List.append_eq_nil_iff.1 e).2
      unfold lineW
      rw [if_neg hne]
      unfold splitOf
      rw [hp, splitB_all 32 _ n2]
      simp
    · rename_i hk1
      have hm : splitB 10 (p ++ spanTxt s) ([32] ++ cellsTxt W ss (k + 1)) = splitB 10 (p ++ spanTxt s ++ [32]) (cellsTxt W ss (k + 1)) := splitB_skip 10 [32] (by decide) _ _
      rw [hm, ih (k + 1) (p ++ spanTxt s ++ [32]) (ws ++ [spanTxt s]) hk' ?_ ?_]
      · simp
      · intro x
        rw [List.append_assoc, List.append_assoc, hp, splitB_skip 32 _ n2, List.singleton_append, splitB_hit]
        simp
      · rintro rfl
        exfalso
        apply hk1
        rw [← hk']
        simp
theorem spanOf_txt (s : Int × Int) (h1 : -1200000 ≤ s.1 ∧ s.1 ≤ 1200000) (h2 : -1200000 ≤ s.2 ∧ s.2 ≤ 1200000) : spanOf (spanTxt s) = (s, true) := by
  obtain ⟨a, b⟩ := s
  simp only at h1 h2
  have ha := numR_itoa h1.1 h1.2 (by decide)
  have hb := numR_itoa h2.1 h2.2 (by decide)
  have na := (not_mem_of (itoa_ok a)).2.2
  have nd : ∀ j, dotsAt (Lib.itoa a) j = false := fun j => by
    unfold dotsAt
    rw [Bool.and_eq_false_iff]
    left
    apply decide_eq_false
    intro e
    exact na (List.mem_of_getElem? e)
  unfold spanTxt
  split
  · rename_i e
    simp only at e
    subst e
    unfold spanOf
    rw [dotsOf_none (fun j _ => nd j)]
    simp only
    rw [ha]
  · simp only
    have hd : dotsOf (Lib.itoa a ++ ([46, 46] ++ Lib.itoa b)) = some (Lib.itoa a).length := by
      refine dotsOf_some (by simp) ?_ ?_
      · unfold dotsAt
        simp
      · intro j hj
        unfold dotsAt
        rw [Bool.and_eq_false_iff]
        left
        apply decide_eq_false
        rw [List.getElem?_append_left hj]
        intro e
        exact na (List.mem_of_getElem? e)
    unfold spanOf
    rw [hd]
    simp only
    rw [List.take_left, ← List.append_assoc, List.drop_left' (by simp), ha, hb]
    rfl

/-- what the reference reads out of a text, before it is written again -/
def wordsR (l : List (List UInt8)) : List (List UInt8) := l.flatMap lineW
def headR (hd : List (List UInt8)) : Option (Int × Int × Int) :=
  match hd with
  | [k, a, b, c] => if k = [103, 114, 105, 100] then (if (numR a 24).2 && (numR b 24).2 && (numR c 10000).2 then some ((numR a 24).1, (numR b 24).1, (numR c 10000).1) else none) else none
  | _ => none
def cellsR (l : List (List UInt8)) : Option (List (Int × Int)) := if (wordsR l).all (fun x => (spanOf x).2) then some ((wordsR l).map fun x => (spanOf x).1) else none
def parseR (s : List UInt8) : Option G :=
  match splitOf 10 s with
  | [] => none
  | h :: l => match headR (splitOf 32 h) with
    | none => none
    | some (W, H, S) => match cellsR l with
      | none => none
      | some ss => some ⟨W, H, S, ss⟩
def headW (g : G) : List UInt8 := [103, 114, 105, 100, 32] ++ Lib.itoa g.W ++ [32] ++ Lib.itoa g.H ++ [32] ++ Lib.itoa g.S
theorem parseR_txt (g : G) (w1 : 1 ≤ g.W) (w2 : g.W ≤ 24) (h1 : 1 ≤ g.H) (h2 : g.H ≤ 24) (s1 : 1 ≤ g.S) (s2 : g.S ≤ 10000) (hl : (g.ss.length : Int) % g.W = 0)
    (hok : ∀ s ∈ g.ss, (-1200000 ≤ s.1 ∧ s.1 ≤ 1200000) ∧ (-1200000 ≤ s.2 ∧ s.2 ≤ 1200000)) : parseR (gridTxt g) = some g := by
  have nW := not_mem_of (itoa_ok g.W)
  have nH := not_mem_of (itoa_ok g.H)
  have nS := not_mem_of (itoa_ok g.S)
  have hh : (10 : UInt8) ∉ headW g := by
    unfold headW
    simp only [List.mem_append, not_or]
    exact ⟨⟨⟨⟨⟨by decide, nW.1⟩, by decide⟩, nH.1⟩, by decide⟩, nS.1⟩
  have e1 : splitOf 10 (gridTxt g) = headW g :: splitB 10 [] (cellsTxt g.W g.ss 0) := by
    have : gridTxt g = headW g ++ (10 :: cellsTxt g.W g.ss 0) := by unfold gridTxt headTxt headW; simp
    rw [this]
    unfold splitOf
    rw [splitB_skip 10 _ hh, splitB_hit]
    rfl
  have e2 : splitOf 32 (headW g) = [[103, 114, 105, 100], Lib.itoa g.W, Lib.itoa g.H, Lib.itoa g.S] := by
    have : headW g = [103, 114, 105, 100] ++ (32 :: (Lib.itoa g.W ++ (32 :: (Lib.itoa g.H ++ (32 :: Lib.itoa g.S))))) := by unfold headW; simp
    rw [this]
    unfold splitOf
    rw [splitB_skip 32 _ (by decide), splitB_hit, splitB_skip 32 _ nW.2.1, splitB_hit, splitB_skip 32 _ nH.2.1, splitB_hit, splitB_all 32 _ nS.2.1]
    rfl
  have e3 : wordsR (splitB 10 [] (cellsTxt g.W g.ss 0)) = g.ss.map spanTxt := by
    have := cells_words g.W g.ss 0 [] [] (by simpa using hl) (fun x => rfl) (fun _ => ⟨rfl, rfl⟩)
    simpa [wordsR] using this
  have e4 : cellsR (splitB 10 [] (cellsTxt g.W g.ss 0)) = some g.ss := by
    have ha : (g.ss.map spanTxt).all (fun x => (spanOf x).2) = true := by
      rw [List.all_eq_true]
      intro x hx
      obtain ⟨s, hs, rfl⟩ := List.mem_map.1 hx
      rw [spanOf_txt s (hok s hs).1 (hok s hs).2]
    have hm : ((g.ss.map spanTxt).map fun x => (spanOf x).1) = g.ss := by
      rw [List.map_map]
      refine (List.map_congr_left (g := id) fun s hs => ?_).trans (List.map_id g.ss)
      simp only [Function.comp]
      rw [spanOf_txt s (hok s hs).1 (hok s hs).2]
      rfl
    unfold cellsR
    rw [e3, if_pos ha, hm]
  have hW := numR_itoa (n := g.W) (most := 24) (by omega) w2 (by decide)
  have hH := numR_itoa (n := g.H) (most := 24) (by omega) h2 (by decide)
  have hS := numR_itoa (n := g.S) (most := 10000) (by omega) s2 (by decide)
  have e5 : headR [[103, 114, 105, 100], Lib.itoa g.W, Lib.itoa g.H, Lib.itoa g.S] = some (g.W, g.H, g.S) := by
    unfold headR
    simp only [hW, hH, hS]
    rfl
  unfold parseR
  rw [e1]
  simp only [e2, e5, e4]
/-- what both readers give -/
def readOfP (p : Option G) (s : List UInt8) : G × Int :=
  if 65536 < s.length then (⟨0, 0, 0, []⟩, 8) else
  match p with
  | none => (⟨0, 0, 0, []⟩, 7)
  | some g => if writeR g = (s, 0) then (g, 0) else (⟨0, 0, 0, []⟩, 7)
end Go.Proofs.YthcenmocnphnmaaGreatDoor
/-
  Texts: the reference's Read.
-/
namespace Go.Proofs.YthcenmocnphnmaaGreatDoor
open Go.RowKit Go.Shelf

theorem splitB_length (b : UInt8) : ∀ (s cur : List UInt8), (splitB b cur s).length ≤ s.length + 1 := by
  intro s
  induction s with
  | nil => intro cur; simp [splitB]
  | cons c s ih =>
    intro cur
    simp only [splitB]
    split
    · have := ih []
      simp only [List.length_cons]
      omega
    · have := ih (cur ++ [c])
      simp only [List.length_cons]
      omega
theorem splitB_mem (b : UInt8) : ∀ (s cur x : List UInt8), x ∈ splitB b cur s → x.length ≤ cur.length + s.length := by
  intro s
  induction s with
  | nil =>
    intro cur x h
    rw [splitB, List.mem_singleton] at h
    subst h
    simp
  | cons c s ih =>
    intro cur x h
    simp only [splitB] at h
    split at h
    · rcases List.mem_cons.1 h with e | e
      · subst e; simp
      · have := ih [] x e
        simp at this ⊢
        omega
    · have := ih _ x h
      simp at this ⊢
      omega
theorem splitOf_cons (b : UInt8) (s : List UInt8) : ∃ x l, splitOf b s = x :: l := by
  have key : ∀ (s cur : List UInt8), ∃ x l, splitB b cur s = x :: l := by
    intro s
    induction s with
    | nil => intro cur; exact ⟨_, _, rfl⟩
    | cons c s ih =>
      intro cur
      simp only [splitB]
      split
      · exact ⟨_, _, rfl⟩
      · exact ih _
  exact key s []
theorem headR_len {hd : List (List UInt8)} (h : hd.length ≠ 4) : headR hd = none := by
  match hd, h with
  | [], _ => rfl
  | [_], _ => rfl
  | [_, _], _ => rfl
  | [_, _, _], _ => rfl
  | [_, _, _, _], h => exact absurd rfl h
  | _ :: _ :: _ :: _ :: _ :: _, _ => rfl
theorem four_of {α : Type} {l : List α} (h : l.length = 4) : ∃ a b c d, l = [a, b, c, d] := by
  match l, h with
  | [a, b, c, d], _ => exact ⟨a, b, c, d, rfl⟩

/-- rows of different elements share nothing -/
theorem own_own_ne {w : World} {base e size n base' e' size' n' : Nat} {v u : Value} {xs ys : List Value} (h : w.ownsRow base e size v n xs) (k : w.ownsRow base' e' size' u n' ys) (hne : e ≠ e') : u.ownBlock = none ∨ u.ownBlock ≠ v.ownBlock := by
  rcases k.2 with ⟨rfl, _⟩ | ⟨g', cap', cur', rfl, _, hh', _⟩
  · exact .inl rfl
  · right
    rcases h.2 with ⟨rfl, _⟩ | ⟨g, cap, cur, rfl, _, hh, _⟩
    · simp [Value.ownBlock]
    · intro he
      have : g' = g := by simpa [Value.ownBlock] using he
      subst this
      rw [hh] at hh'
      injection hh' with hh'
      injection hh' with _ ht
      exact hne ht
theorem own_some {w : World} {base e size n : Nat} {v : Value} {xs : List Value} (h : w.ownsRow base e size v n xs) (hn : 0 < n) : ∃ g cap, v = .slice (some ⟨g, 0, none⟩) n cap := by
  rcases h.2 with ⟨_, h0⟩ | ⟨g, cap, cur, hv, _⟩
  · omega
  · exact ⟨g, cap, hv⟩
theorem own_set {w : World} {base e size n : Nat} {v : Value} {xs : List Value} (h : w.ownsRow base e size v n xs) {p : Addr} (hp : v.ownBlock ≠ some p.block) (u : Value) : (w.setCell p u).ownsRow base e size v n xs :=
  own_far h fun g hg => Below.heap_setCell w p u g (by rintro rfl; exact hp hg)
theorem own_below {w w' : World} {B base e size n : Nat} {v : Value} {xs : List Value} (h : w.ownsRow base e size v n xs) (hb : Below B w w') (hB : w.heap.size ≤ B) : w'.ownsRow base e size v n xs :=
  own_far h fun g hg => hb.block g (by have := (h.lt g hg).2; omega)

/-- the grid that is being read: its box, and its row of spans -/
structure RdSt (gb : Nat) (w0 w : World) (W H S : Int) (ss : List (Int × Int)) (v : Value) : Prop where
  own : w.ownsRow (gb + 1) 34 2 v ss.length (spanCells ss)
  blk : Blk w gb 24 #[.int .i64 W, .int .i64 H, .int .i64 S, v]
  bel : Below gb w0 w
section
variable {gb : Nat} {w0 w w' w1 : World} {W H S : Int} {ss : List (Int × Int)} {v v1 : Value}
theorem RdSt.alloc (h : RdSt gb w0 w W H S ss v) (o : Obj) : RdSt gb w0 (w.alloc o) W H S ss v := ⟨h.own.alloc o, h.blk.alloc o, h.bel.alloc (Nat.le_of_lt h.blk.lt) o⟩
theorem RdSt.below (h : RdSt gb w0 w W H S ss v) (hb : Below w.heap.size w w') : RdSt gb w0 w' W H S ss v :=
  ⟨own_below h.own hb (Nat.le_refl _), h.blk.below hb h.blk.lt, h.bel.trans (hb.mono (Nat.le_of_lt h.blk.lt))⟩
theorem RdSt.mid (h : RdSt gb w0 w W H S ss v) {o : Obj} (hg1 : (w.alloc o).grownBy w1 v.ownBlock) : w1.cell? ⟨gb, 3, none⟩ = some v ∧ w1.frozen? ⟨gb, 3, none⟩ = false := by
  have hlt := h.blk.lt
  have hb1 : Blk w1 gb 24 #[.int .i64 W, .int .i64 H, .int .i64 S, v] := by
    refine (hg1.block gb (by simp; omega) (fun e => ?_)).trans (h.blk.alloc o)
    have := (h.own.lt gb e.symm).1
    omega
  exact ⟨hb1.cell 3, hb1.frozen 3⟩
theorem RdSt.at3 (h : RdSt gb w0 w W H S ss v) : w.cell? ⟨gb, 3, none⟩ = some v := h.blk.cell 3
theorem RdSt.step (h : RdSt gb w0 w W H S ss v) {x : Int × Int} {o : Obj} {n : Nat} (hn : n = ss.length) (hown1 : w1.ownsRow (gb + 1) 34 2 v1 (n + 1) (spanCells ss ++ [.int .i64 x.1, .int .i64 x.2])) (hg1 : (w.alloc o).grownBy w1 v.ownBlock) :
    RdSt gb w0 (w1.setCell ⟨gb, 3, none⟩ v1) W H S (ss ++ [x]) v1 := by
  subst hn
  have hlt := h.blk.lt
  have hv1 : v1.ownBlock ≠ some gb := fun e => by have := (hown1.lt gb e).1; omega
  have hb1 : Blk w1 gb 24 #[.int .i64 W, .int .i64 H, .int .i64 S, v] := by
    refine (hg1.block gb (by simp; omega) (fun e => ?_)).trans (h.blk.alloc o)
    have := (h.own.lt gb e.symm).1
    omega
  refine ⟨?_, ?_, ?_⟩
  · have e : spanCells (ss ++ [x]) = spanCells ss ++ [.int .i64 x.1, .int .i64 x.2] := by rw [spanCells_append]; rfl
    rw [e, List.length_append]
    exact own_set hown1 hv1 v1
  · exact hb1.set_ 3 v1
  · exact ((h.bel.alloc (Nat.le_of_lt hlt) o).grown hg1 (by simp; omega) (fun k e => by have := (h.own.lt k e).1; omega)).setCell (by exact Nat.le_refl _) _
theorem RdSt.strs (h : RdSt gb w0 w W H S ss v) {o : Obj} {B n : Nat} {u : Value} {ys : List Value} (hu : w.ownsRow B 9 1 u n ys) (hg1 : (w.alloc o).grownBy w1 v.ownBlock) (v1 : Value) : (w1.setCell ⟨gb, 3, none⟩ v1).ownsRow B 9 1 u n ys := by
  have h1 : w1.ownsRow B 9 1 u n ys := (hu.alloc o).kept hg1 (own_own_ne h.own hu (by decide))
  exact own_set h1 (own_blk_ne hu h.blk (by decide)) v1
theorem RdSt.grid (h : RdSt gb w0 w W H S ss v) : GridAt w w.heap.size (.agg #[.int .i64 W, .int .i64 H, .int .i64 S, v]) ⟨W, H, S, ss⟩ := ⟨v, rfl, Reads.of_own h.own⟩
end
def ReadOut (r : G × Int) (w : World) (e : Ending) (w' : World) : Prop := ∃ x, e = .returned (.tuple #[x, .int .i64 r.2]) ∧ GridAt w' w'.heap.size x r.1 ∧ Below w.heap.size w w'
theorem lineW_mem {l x : List UInt8} {rest : List (List UInt8)} (h : l ∈ rest) (hx : x ∈ lineW l) : x ∈ wordsR rest := List.mem_flatMap.2 ⟨l, h, hx⟩
theorem cellsR_none {rest : List (List UInt8)} {x : List UInt8} (h : x ∈ wordsR rest) (hx : (spanOf x).2 = false) : cellsR rest = none := by
  unfold cellsR
  rw [if_neg]
  intro ha
  have := List.all_eq_true.1 ha x h
  rw [hx] at this
  cases this
theorem wordsR_snoc (rest : List (List UInt8)) (q : Nat) (h : q < rest.length) : wordsR (rest.take (q + 1)) = wordsR (rest.take q) ++ lineW rest[q] := by
  rw [take_snoc rest q h]
  unfold wordsR
  rw [List.flatMap_append]
  simp
/-- what stands of a text when a line is being read -/
structure Rd (ws : List (List UInt8)) (ss : List (Int × Int)) : Prop where
  eq : ss = ws.map fun x => (spanOf x).1
  all : ws.all (fun x => (spanOf x).2) = true
theorem Rd.nil : Rd [] [] := ⟨rfl, rfl⟩
theorem Rd.snoc {ws : List (List UInt8)} {ss : List (Int × Int)} (h : Rd ws ss) {x : List UInt8} (hx : (spanOf x).2 = true) : Rd (ws ++ [x]) (ss ++ [(spanOf x).1]) := ⟨by rw [h.eq]; simp, by rw [List.all_append, h.all]; simpa using hx⟩
theorem Rd.cells {rest : List (List UInt8)} {ss : List (Int × Int)} (h : Rd (wordsR rest) ss) : cellsR rest = some ss := by
  unfold cellsR
  rw [if_pos h.all, ← h.eq]
theorem headR_of {k a b c : List UInt8} {ra rb rc : Int × Bool} (hk : k = [103, 114, 105, 100]) (h1 : numR a 24 = ra) (h2 : numR b 24 = rb) (h3 : numR c 10000 = rc) : headR [k, a, b, c] = if ra.2 && rb.2 && rc.2 then some (ra.1, rb.1, rc.1) else none := by
  subst hk h1 h2 h3
  rfl
theorem parseR_1 {s l0 : List UInt8} {rest : List (List UInt8)} (h : splitOf 10 s = l0 :: rest) (h1 : headR (splitOf 32 l0) = none) : parseR s = none := by
  unfold parseR
  rw [h]
  simp only [h1]
theorem parseR_2 {s l0 : List UInt8} {rest : List (List UInt8)} {W H S : Int} (h : splitOf 10 s = l0 :: rest) (h1 : headR (splitOf 32 l0) = some (W, H, S)) (h2 : cellsR rest = none) : parseR s = none := by
  unfold parseR
  rw [h]
  simp only [h1, h2]
theorem parseR_3 {s l0 : List UInt8} {rest : List (List UInt8)} {W H S : Int} {ss : List (Int × Int)} (h : splitOf 10 s = l0 :: rest) (h1 : headR (splitOf 32 l0) = some (W, H, S)) (h2 : cellsR rest = some ss) : parseR s = some ⟨W, H, S, ss⟩ := by
  unfold parseR
  rw [h]
  simp only [h1, h2]
theorem rSpan_of (s : List UInt8) (r : (Int × Int) × Bool) (hr : spanOf s = r) (w : World) (hs : s.length ≤ 9223372036854775000) :
    Calls Tryz.prog 80 #[.string (bs s)] w fun e w' => e = .returned (.tuple #[.agg #[.int .i64 r.1.1, .int .i64 r.1.2], .bool r.2]) ∧ Below w.heap.size w w' := by
  subst hr
  exact rSpan_any s w hs
theorem lineW_of {l : List UInt8} (h : l ≠ []) : lineW l = splitOf 32 l := by unfold lineW; rw [if_neg h]
theorem cells_pair_new (w : World) (x y : Value) (t : TypeId) {n : Nat} (h : n = w.heap.size) : ∀ j u, [x, y][j]? = some u → (w.alloc (.cells #[x, y] t)).cell? ((⟨n, 0, none⟩ : Addr).add j) = some u := by
  subst h
  intro j u hu
  have e1 : (⟨w.heap.size, 0, none⟩ : Addr).add j = ⟨w.heap.size, 0 + j, none⟩ := by unfold Addr.add; split <;> simp_all
  rw [e1, Nat.zero_add]
  have h := (Blk.new w t #[x, y]).cell j
  rw [h, List.getElem?_toArray]
  exact hu

end Go.Proofs.YthcenmocnphnmaaGreatDoor
/-
  Texts: what the program reads out of a text and how it writes one, without any program.
-/
namespace Go.Proofs.YthcenmocnphnmaaGreatDoor
open Go.RowKit Go.Shelf

/-! numbers -/
theorem parseU_dec (u : Nat) (hu : u < 18446744073709551616) : ∀ r, Lib.parseUint10 0 (Lib.decDigits u ++ r) = Lib.parseUint10 u r := by
  induction u using Nat.strongRecOn with
  | _ u ih =>
    intro r
    by_cases h : u < 10
    · rw [Lib.decDigits_one h, List.singleton_append, Lib.parseUint10, dig_nat h, if_pos (by omega), if_neg (by omega), if_neg (by omega)]
      congr 1
      omega
    · have hm : u % 10 < 10 := by omega
      rw [Lib.decDigits.eq_1 u, dif_neg h, List.append_assoc, ih (u / 10) (by omega) (by omega), List.singleton_append, Lib.parseUint10, dig_nat hm, if_pos (by omega), if_neg (by omega), if_neg (by omega)]
      congr 1
      omega
theorem decDigits_ne (u : Nat) : Lib.decDigits u ≠ [] := by
  intro h
  have := congrArg List.length h
  rw [Lib.decDigits_length] at this
  have := Lib.nDigits_pos u
  simp at *
  omega
theorem parseMag_dec (u : Nat) (hu : u < 18446744073709551616) : Lib.parseMag (Lib.decDigits u) = .ok u := by
  unfold Lib.parseMag
  rw [if_neg (decDigits_ne u)]
  have := parseU_dec u hu []
  rw [List.append_nil] at this
  rw [this]
  rfl
def numP (x : List UInt8) : Option Int := match Lib.atoiAll x with | .ok v => some v | _ => none
theorem atoi_itoa (n : Int) (h0 : -9223372036854775808 ≤ n) (h1 : n ≤ 9223372036854775807) : Lib.atoiAll (Lib.itoa n) = .ok n := by
  by_cases hn : n < 0
  · have e : Lib.itoa n = 45 :: Lib.decDigits n.natAbs := by unfold Lib.itoa; rw [if_pos hn]
    rw [e]
    unfold Lib.atoiAll
    simp only
    rw [if_pos (by decide), parseMag_dec _ (by omega)]
    simp only
    rw [if_neg (by intro h; exact h.1 (by decide)), if_neg (by omega), if_pos (by decide)]
    congr 1
    omega
  · have e : Lib.itoa n = Lib.decDigits n.toNat := by unfold Lib.itoa; rw [if_neg hn]
    obtain ⟨c, r, hc⟩ : ∃ c r, Lib.decDigits n.toNat = c :: r := List.exists_cons_of_ne_nil (decDigits_ne _)
    have hd : digB c = true := List.all_eq_true.1 (dval_dec n.toNat).2 c (by rw [hc]; exact List.mem_cons_self)
    have hd' := of_decide_eq_true hd
    have hp := parseMag_dec n.toNat (by omega)
    rw [e]
    rw [hc] at hp ⊢
    unfold Lib.atoiAll
    simp only
    rw [if_neg (by omega), hp]
    simp only
    rw [if_neg (by omega), if_neg (by omega), if_neg (by omega)]
    congr 1
    omega
theorem numP_itoa {n : Int} (h0 : -9223372036854775808 ≤ n) (h1 : n ≤ 9223372036854775807) : numP (Lib.itoa n) = some n := by
  unfold numP
  rw [atoi_itoa n h0 h1]
/-! spans -/
def cutP (x : List UInt8) : List UInt8 × List UInt8 := ((Lib.cut x [46, 46]).1, if (Lib.cut x [46, 46]).2.2 then (Lib.cut x [46, 46]).2.1 else (Lib.cut x [46, 46]).1)
def spanP (x : List UInt8) : Option (Int × Int) := match numP (cutP x).1 with
  | none => none
  | some a => match numP (cutP x).2 with
    | none => none
    | some b => some (a, b)
theorem no_dots (a : Int) (r : List UInt8) (j : Nat) (h : j < (Lib.itoa a).length) : Lib.occAt (Lib.itoa a ++ r) [46, 46] j = false := by
  cases ho : Lib.occAt (Lib.itoa a ++ r) [46, 46] j with
  | false => rfl
  | true =>
    have := Lib.occAt_head rfl ho
    rw [List.getElem?_append_left h] at this
    exact absurd (List.mem_of_getElem? this) (not_mem_of (itoa_ok a)).2.2
theorem cut_one (a : Int) : Lib.cut (Lib.itoa a) [46, 46] = (Lib.itoa a, [], false) := by
  have : Lib.index (Lib.itoa a) [46, 46] = -1 := Lib.index_none fun j hj => by
    rcases Nat.lt_or_ge j (Lib.itoa a).length with h | h
    · have := no_dots a [] j h
      rwa [List.append_nil] at this
    · cases ho : Lib.occAt (Lib.itoa a) [46, 46] j with
      | false => rfl
      | true =>
        have := Lib.occAt_head rfl ho
        rw [List.getElem?_eq_none h] at this
        cases this
  unfold Lib.cut
  rw [this, if_neg (by decide)]
theorem cut_two (a b : Int) : Lib.cut (Lib.itoa a ++ ([46, 46] ++ Lib.itoa b)) [46, 46] = (Lib.itoa a, Lib.itoa b, true) := by
  have : Lib.index (Lib.itoa a ++ ([46, 46] ++ Lib.itoa b)) [46, 46] = (Lib.itoa a).length := by
    refine Lib.index_first (by simp) ?_ (fun j hj => no_dots a _ j hj)
    rw [Lib.occAt_iff_take _ _ _ (by simp)]
    rw [List.drop_left]
    rfl
  unfold Lib.cut
  rw [this, if_pos (by omega)]
  simp only [Int.toNat_natCast]
  rw [List.take_left, ← List.append_assoc, List.drop_left' (by simp)]
theorem spanP_txt (s : Int × Int) (h1 : -1200000 ≤ s.1 ∧ s.1 ≤ 1200000) (h2 : -1200000 ≤ s.2 ∧ s.2 ≤ 1200000) : spanP (spanTxt s) = some s := by
  obtain ⟨a, b⟩ := s
  simp only at h1 h2
  unfold spanTxt
  split
  · rename_i e
    simp only at e
    subst e
    unfold spanP cutP
    simp only
    rw [cut_one]
    simp only
    rw [numP_itoa (by omega) (by omega)]
    simp [numP_itoa (n := a) (by omega) (by omega)]
  · unfold spanP cutP
    simp only
    rw [cut_two]
    simp only
    rw [numP_itoa (by omega) (by omega)]
    simp [numP_itoa (n := b) (by omega) (by omega)]
/-! words -/
theorem isSp_no {c : UInt8} (h : okC c = true) : Lib.isSp c = false ∧ c.toNat < 128 := by
  unfold okC digB at h
  rw [Bool.or_eq_true, decide_eq_true_eq, decide_eq_true_eq] at h
  rcases h with h | h
  · refine ⟨?_, by omega⟩
    unfold Lib.isSp
    simp only [Bool.or_eq_false_iff, beq_eq_false_iff_ne]
    refine ⟨⟨⟨⟨⟨?_, ?_⟩, ?_⟩, ?_⟩, ?_⟩, ?_⟩ <;> (rintro rfl; revert h; decide)
  · subst h
    exact ⟨rfl, by decide⟩
def wordC (l : List UInt8) : Prop := l ≠ [] ∧ ∀ c ∈ l, Lib.isSp c = false ∧ c.toNat < 128
theorem word_itoa (n : Int) : wordC (Lib.itoa n) := ⟨itoa_ne n, fun c hc => isSp_no (List.all_eq_true.1 (itoa_ok n) c hc)⟩
theorem word_span (s : Int × Int) : wordC (spanTxt s) := by
  unfold spanTxt
  split
  · exact word_itoa _
  · refine ⟨fun h => (word_itoa s.1).1 (List.append_eq_nil_iff.1 h).1, fun c hc => ?_⟩
    rcases List.mem_append.1 hc with h | h
    · exact (word_itoa s.1).2 c h
    · rcases List.mem_append.1 h with h | h
      · have : c = 46 := by simpa using h
        subst this
        exact ⟨rfl, by decide⟩
      · exact (word_itoa s.2).2 c h
theorem fields_skip (x : List UInt8) (h : ∀ c ∈ x, Lib.isSp c = false) : ∀ cur y, Lib.fieldsGo cur (x ++ y) = Lib.fieldsGo (cur ++ x) y := by
  induction x with
  | nil => intro cur y; simp
  | cons c x ih =>
    intro cur y
    rw [List.cons_append, Lib.fieldsGo_more cur c _ (h c List.mem_cons_self), ih (fun d hd => h d (List.mem_cons_of_mem _ hd))]
    simp
theorem fields_word {x : List UInt8} (h : wordC x) (b : UInt8) (hb : Lib.isSp b = true) (y : List UInt8) : Lib.fieldsGo [] (x ++ (b :: y)) = x :: Lib.fieldsGo [] y := by
  rw [fields_skip x (fun c hc => (h.2 c hc).1), List.nil_append, Lib.fieldsGo_end x b y hb h.1]
theorem fields_cells (W : Int) : ∀ (ss : List (Int × Int)) (k : Nat), Lib.fieldsGo [] (cellsTxt W ss k) = ss.map spanTxt := by
  intro ss
  induction ss with
  | nil => intro k; rfl
  | cons s ss ih =>
    intro k
    have hs : ∃ b, sepTxt W k = [b] ∧ Lib.isSp b = true := by
      unfold sepTxt
      split
      · exact ⟨10, rfl, rfl⟩
      · exact ⟨32, rfl, rfl⟩
    obtain ⟨b, e, hb⟩ := hs
    simp only [cellsTxt, List.append_assoc]
    rw [e, List.singleton_append, fields_word (word_span s) b hb, ih]
    rfl
theorem cells_ascii (W : Int) : ∀ (ss : List (Int × Int)) (k : Nat), ∀ b ∈ cellsTxt W ss k, b.toNat < 128 := by
  intro ss
  induction ss with
  | nil => intro k b hb; simp [cellsTxt] at hb
  | cons s ss ih =>
    intro k b hb
    simp only [cellsTxt, List.mem_append] at hb
    rcases hb with (h | h) | h
    · exact ((word_span s).2 b h).2
    · unfold sepTxt at h
      split at h <;> (rw [List.mem_singleton] at h; subst h; decide)
    · exact ih _ b h
theorem fields_txt (g : G) : Lib.fieldsD (gridTxt g) = [103, 114, 105, 100] :: Lib.itoa g.W :: Lib.itoa g.H :: Lib.itoa g.S :: g.ss.map spanTxt := by
  have e : gridTxt g = [103, 114, 105, 100] ++ (32 :: (Lib.itoa g.W ++ (32 :: (Lib.itoa g.H ++ (32 :: (Lib.itoa g.S ++ (10 :: cellsTxt g.W g.ss 0))))))) := by unfold gridTxt headTxt; simp
  have ha : ∀ b ∈ gridTxt g, b.toNat < 128 := by
    rw [e]
    intro b hb
    simp only [List.mem_append, List.mem_cons, List.not_mem_nil, or_false] at hb
    rcases hb with (h | h | h | h) | h | h | h | h | h | h | h | h
    · subst h; decide
    · subst h; decide
    · subst h; decide
    · subst h; decide
    · subst h; decide
    · exact ((word_itoa _).2 b h).2
    · subst h; decide
    · exact ((word_itoa _).2 b h).2
    · subst h; decide
    · exact ((word_itoa _).2 b h).2
    · subst h; decide
    · exact cells_ascii _ _ _ b h
  rw [Lib.fieldsD_ascii _ ha, e]
  unfold Lib.fields
  rw [fields_word (x := [103, 114, 105, 100]) ⟨by simp, by decide⟩ 32 rfl, fields_word (word_itoa _) 32 rfl, fields_word (word_itoa _) 32 rfl, fields_word (word_itoa _) 10 rfl, fields_cells]
theorem fieldsGoD_mem : ∀ (f : Nat) (cur l x : List UInt8), x ∈ Lib.fieldsGoD f cur l → x.length ≤ cur.length + l.length := by
  intro f
  induction f with
  | zero =>
    intro cur l x h
    simp only [Lib.fieldsGoD] at h
    split at h
    · simp at h
    · rw [List.mem_singleton] at h; subst h; omega
  | succ f ih =>
    intro cur l x h
    simp only [Lib.fieldsGoD] at h
    split at h
    · split at h
      · simp at h
      · rw [List.mem_singleton] at h; subst h; omega
    · split at h
      · rcases List.mem_append.1 h with h | h
        · split at h
          · simp at h
          · rw [List.mem_singleton] at h; subst h; omega
        · have := ih _ _ x h
          rw [List.length_drop] at this
          simp at this
          omega
      · have := ih _ _ x h
        rw [List.length_append, List.length_take, List.length_drop] at this
        omega
theorem fieldsGoD_len : ∀ (f : Nat) (cur l : List UInt8), (Lib.fieldsGoD f cur l).length ≤ f + 1 := by
  intro f
  induction f with
  | zero => intro cur l; simp only [Lib.fieldsGoD]; split <;> simp
  | succ f ih =>
    intro cur l
    simp only [Lib.fieldsGoD]
    split
    · split <;> simp
    · split
      · rw [List.length_append]
        have := ih [] (l.drop (Lib.decodeL l).2)
        split <;> simp <;> omega
      · have := ih (cur ++ l.take (Lib.decodeL l).2) (l.drop (Lib.decodeL l).2)
        omega
theorem fieldsD_len (l : List UInt8) : (Lib.fieldsD l).length ≤ l.length + 2 := fieldsGoD_len _ _ _
theorem fieldsD_mem {l x : List UInt8} (h : x ∈ Lib.fieldsD l) : x.length ≤ l.length := by have := fieldsGoD_mem _ _ _ x h; simpa using this
/-- what the program reads out of a text, before it is written again -/
def headP (a b c : List UInt8) : Option (Int × Int × Int) := match numP a with
  | none => none
  | some W => match numP b with
    | none => none
    | some H => match numP c with
      | none => none
      | some S => some (W, H, S)
def cellsP (l : List (List UInt8)) : Option (List (Int × Int)) := if l.all (fun x => (spanP x).isSome) then some (l.map fun x => (spanP x).getD (0, 0)) else none
def parseW (ws : List (List UInt8)) : Option G := match ws with
  | k :: a :: b :: c :: r => if k = [103, 114, 105, 100] then (match headP a b c with
    | none => none
    | some (W, H, S) => match cellsP r with
      | none => none
      | some ss => some ⟨W, H, S, ss⟩) else none
  | _ => none
def parseP (s : List UInt8) : Option G := parseW (Lib.fieldsD s)
theorem parseP_txt (g : G) (w1 : 1 ≤ g.W) (w2 : g.W ≤ 24) (h1 : 1 ≤ g.H) (h2 : g.H ≤ 24) (s1 : 1 ≤ g.S) (s2 : g.S ≤ 10000)
    (hok : ∀ s ∈ g.ss, (-1200000 ≤ s.1 ∧ s.1 ≤ 1200000) ∧ (-1200000 ≤ s.2 ∧ s.2 ≤ 1200000)) : parseP (gridTxt g) = some g := by
  have e4 : cellsP (g.ss.map spanTxt) = some g.ss := by
    have ha : (g.ss.map spanTxt).all (fun x => (spanP x).isSome) = true := by
      rw [List.all_eq_true]
      intro x hx
      obtain ⟨s, hs, rfl⟩ := List.mem_map.1 hx
      rw [spanP_txt s (hok s hs).1 (hok s hs).2]
      rfl
    have hm : ((g.ss.map spanTxt).map fun x => (spanP x).getD (0, 0)) = g.ss := by
      rw [List.map_map]
      refine (List.map_congr_left (g := id) fun s hs => ?_).trans (List.map_id g.ss)
      simp only [Function.comp]
      rw [spanP_txt s (hok s hs).1 (hok s hs).2]
      rfl
    unfold cellsP
    rw [if_pos ha, hm]
  have e5 : headP (Lib.itoa g.W) (Lib.itoa g.H) (Lib.itoa g.S) = some (g.W, g.H, g.S) := by
    unfold headP
    simp only [numP_itoa (n := g.W) (by omega) (by omega), numP_itoa (n := g.H) (by omega) (by omega), numP_itoa (n := g.S) (by omega) (by omega)]
  unfold parseP
  rw [fields_txt]
  unfold parseW
  simp only [e5, e4, if_true]
/-! the text as the program writes it -/
def sepOf (W : Int) (k : Nat) : List UInt8 := if (k : Int) % W = 0 then [10] else [32]
def preTxt (W : Int) : List (Int × Int) → Nat → List UInt8
  | [], _ => []
  | s :: l, k => sepOf W k ++ spanTxt s ++ preTxt W l (k + 1)
theorem preTxt_cells (W : Int) : ∀ (l : List (Int × Int)) (k : Nat), preTxt W l k ++ sepOf W (k + l.length) = sepOf W k ++ cellsTxt W l k := by
  intro l
  induction l with
  | nil => intro k; simp [preTxt, cellsTxt]
  | cons s l ih =>
    intro k
    have := ih (k + 1)
    simp only [preTxt, cellsTxt, List.append_assoc, List.length_cons]
    rw [show k + (l.length + 1) = k + 1 + l.length by omega, this]
    rfl
theorem preTxt_append (W : Int) (l m : List (Int × Int)) (k : Nat) : preTxt W (l ++ m) k = preTxt W l k ++ preTxt W m (k + l.length) := by
  induction l generalizing k with
  | nil => simp [preTxt]
  | cons s l ih =>
    simp only [List.cons_append, preTxt, ih, List.length_cons]
    rw [show k + 1 + l.length = k + (l.length + 1) by omega]
    simp
def headT (g : G) : List UInt8 := [103, 114, 105, 100] ++ (([32] ++ Lib.itoa g.W) ++ (([32] ++ Lib.itoa g.H) ++ ([32] ++ Lib.itoa g.S)))
theorem progTxt_eq (g : G) (hl : (g.ss.length : Int) % g.W = 0) : headT g ++ preTxt g.W g.ss 0 ++ [10] = gridTxt g := by
  have h0 := preTxt_cells g.W g.ss 0
  have e1 : sepOf g.W (0 + g.ss.length) = [10] := by
    unfold sepOf
    rw [if_pos]
    simpa using hl
  have e2 : sepOf g.W 0 = [10] := by unfold sepOf; simp
  rw [e1, e2] at h0
  rw [List.append_assoc, h0]
  unfold headT gridTxt headTxt
  simp
end Go.Proofs.YthcenmocnphnmaaGreatDoor
