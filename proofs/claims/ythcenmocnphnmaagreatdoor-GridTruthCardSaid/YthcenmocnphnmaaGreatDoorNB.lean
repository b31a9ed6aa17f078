/-
  Texts: the program's parseSpan.
-/
import Derived.Test.YthcenmocnphnmaaGreatDoorNA
set_option linter.unusedSimpArgs false
set_option linter.unusedVariables false
namespace Go.Proofs.YthcenmocnphnmaaGreatDoor
open Go.RowKit Go.Shelf

theorem below_bytes (w : World) (e : TypeId) (s : ByteArray) : Below w.heap.size w (Lib.bytesWorld w e s) := ⟨rfl, rfl, rfl, by rw [Lib.bytesWorld_size]; omega, fun j hj => Lib.bytesWorld_at_old w e s j hj⟩
theorem atoi_any (x : List UInt8) (w : World) (hv : LV w) (hx : x.length ≤ 65536) :
    Calls Tryz.prog 98 #[.string (bs x)] w fun e w' => ∃ v er, e = .returned (.tuple #[.int .i64 v, er]) ∧ Below w.heap.size w w' ∧ ((numP x = some v ∧ er = .nilIface) ∨ (numP x = none ∧ ∃ t p, er = .iface t p)) := by
  have hz := bs_size x
  obtain ⟨t3, p3, h3⟩ := hv.es
  obtain ⟨t4, p4, h4⟩ := hv.er
  cases ha : Lib.atoiAll x
  · rename_i v
    refine (Tryz.strconv_Atoi_ok (bs x) (by omega) v ha w).mono ?_
    rintro e w' ⟨rfl, hw⟩
    refine ⟨v, _, rfl, ?_, .inl ⟨by unfold numP; rw [ha], rfl⟩⟩
    rcases hw with rfl | ⟨t, rfl⟩
    · exact Below.refl _ _
    · exact below_bytes _ _ _
  · refine (Any.strconv_Atoi_syntax Tryz.laysC172 (bs x) (by omega) ha _ w h3 (.inr ⟨_, _, rfl⟩)).mono ?_
    rintro e w' ⟨N, rfl, _, _, hb⟩
    exact ⟨_, _, rfl, hb, .inr ⟨by unfold numP; rw [ha], _, _, rfl⟩⟩
  · refine (Any.strconv_Atoi_range Tryz.laysC172 (bs x) (by omega) ha _ w h4 (.inr ⟨_, _, rfl⟩)).mono ?_
    rintro e w' ⟨N, rfl, _, _, hb⟩
    exact ⟨_, _, rfl, hb, .inr ⟨by unfold numP; rw [ha], _, _, rfl⟩⟩
theorem cut_any (x : List UInt8) (w : World) (hv : LV w) (hx : x.length ≤ 65536) :
    Calls Tryz.prog 113 #[.string (bs x), .string ⟨#[46, 46]⟩] w fun e w' => e = .returned (.tuple #[.string (bs (Lib.cut x [46, 46]).1), .string (bs (Lib.cut x [46, 46]).2.1), .bool (Lib.cut x [46, 46]).2.2]) ∧ ∃ n, w' = w.drewN n := by
  have hz := bs_size x
  obtain ⟨m, hm⟩ := hv.ml
  exact Tryz.strings_Cut (bs x) ⟨#[46, 46]⟩ m w (by omega) hm
theorem cut_len (x : List UInt8) : (Lib.cut x [46, 46]).1.length ≤ x.length ∧ (Lib.cut x [46, 46]).2.1.length ≤ x.length := by
  unfold Lib.cut
  split
  · simp only [List.length_take, List.length_drop]
    omega
  · simp
def spanQ (f u : List UInt8) : Option (Int × Int) := match numP f with
  | none => none
  | some a => match numP u with
    | none => none
    | some b => some (a, b)
theorem spanP_of {x f t : List UInt8} {is : Bool} (h : Lib.cut x [46, 46] = (f, t, is)) : spanP x = spanQ f (if is then t else f) := by
  unfold spanP cutP spanQ
  rw [h]
  rfl
theorem spanQ_1 {f u : List UInt8} (h : numP f = none) : spanQ f u = none := by unfold spanQ; rw [h]
theorem spanQ_2 {f u : List UInt8} {a : Int} (h : numP f = some a) (k : numP u = none) : spanQ f u = none := by unfold spanQ; rw [h]; simp only [k]
theorem spanQ_3 {f u : List UInt8} {a b : Int} (h : numP f = some a) (k : numP u = some b) : spanQ f u = some (a, b) := by unfold spanQ; rw [h]; simp only [k]
theorem span_zero_parts {w : World} {b : Nat} (h : Blk w b 34 #[.int .i64 0, .int .i64 0]) : (w.cell? ⟨b, 0, none⟩ = some (.int .i64 0) ∧ w.cell? ⟨b, 1, none⟩ = some (.int .i64 0)) ∧ w.frozen? ⟨b, 0, none⟩ = false ∧ w.frozen? ⟨b, 1, none⟩ = false := ⟨⟨h.cell 0, h.cell 1⟩, h.frozen 0, h.frozen 1⟩
def SpanOutP (r : Option (Int × Int)) (w : World) (e : Ending) (w' : World) : Prop := e = .returned (.tuple #[.agg #[.int .i64 (r.getD (0, 0)).1, .int .i64 (r.getD (0, 0)).2], .bool r.isSome]) ∧ Below w.heap.size w w'

set_option maxRecDepth 100000 in
set_option maxHeartbeats 4000000 in
theorem parseSpan_any (x : List UInt8) (w : World) (hv : LV w) (hx : x.length ≤ 65536) :
    Calls Tryz.prog 99 #[.string (bs x)] w (SpanOutP (spanP x) w) := by
  have hB0 : Below w.heap.size w (w.alloc (.cells #[.int .i64 0, .int .i64 0] 34)) := (by repeat (first | exact Below.refl _ _ | assumption | refine Below.drew ?_ | refine Below.drewN' ?_ _ | (refine Below.alloc ?_ (by simp <;> omega) _) | (refine Below.setCell ?_ (by simp <;> omega) _)))
  have HB0 := Lib.hid hB0
  have hb0 : Blk (w.alloc (.cells #[.int .i64 0, .int .i64 0] 34)) w.heap.size 34 #[.int .i64 0, .int .i64 0] := Blk.new' _ _ _ rfl
  have HK0 := Lib.hid hb0
  have HLV := Lib.hid hv
  obtain ⟨lf, lt⟩ := cut_len x
  obtain ⟨r, hr⟩ : ∃ r, Lib.cut x [46, 46] = r := ⟨_, rfl⟩
  have Hcut := Lib.hid (cut_any x _ (hv.below hB0) hx)
  rw [hr] at Hcut lf lt
  obtain ⟨f, t, is⟩ := r
  have HS := Lib.hid (spanP_of hr)
  simp only at Hcut lf lt
  clear hr hB0 hb0 hv
  go_enter Tryz.func99, Tryz.ntmps99
  go_wp2_with fail
  refine Hcut.out.mono ?_
  rintro e w1 ⟨rfl, n1, hw1⟩
  have hb1 : Below (w.heap.size + 1) (w.alloc (.cells #[.int .i64 0, .int .i64 0] 34)) w1 := by rw [hw1]; exact (by repeat (first | exact Below.refl _ _ | assumption | refine Below.drew ?_ | refine Below.drewN' ?_ _ | (refine Below.alloc ?_ (by simp <;> omega) _) | (refine Below.setCell ?_ (by simp <;> omega) _)))
  have HK1 := Lib.hid (HK0.out.below hb1 (by omega))
  have HB1 := Lib.hid (HB0.out.trans (hb1.mono (by omega)))
  clear hb1 hw1 Hcut
  have hn1 : w.heap.size + 1 ≤ w1.heap.size := by have := HK1.out.lt; omega
  cases is
  all_goals
    simp only [Bool.false_eq_true, if_false, if_true] at HS
    go_wp2_with fail
    refine (atoi_any f _ (HLV.out.below HB1.out) (by omega)).mono ?_
    rintro e w2 ⟨va, ea, rfl, hb2, hca⟩
    have HB2 := Lib.hid (HB1.out.trans (hb2.mono (by omega)))
    have HK2 := Lib.hid (HK1.out.below hb2 (by omega))
    have hn2 : w.heap.size + 1 ≤ w2.heap.size := by have := hb2.size; omega
    clear hb2
    obtain ⟨⟨z0, z1⟩, f0, f1⟩ := span_zero_parts HK2.out
    rcases hca with ⟨hna, rfl⟩ | ⟨hna, ta, pa, rfl⟩
    · have HNA := Lib.hid hna
      clear hna
      go_wp2_with fail
      refine (atoi_any _ _ (HLV.out.below HB2.out) (by omega)).mono ?_
      rintro e w3 ⟨vb, eb, rfl, hb3, hcb⟩
      have HB3 := Lib.hid (HB2.out.trans (hb3.mono (by omega)))
      have HK3 := Lib.hid (HK2.out.below hb3 (by omega))
      clear hb3 z0 z1 f0 f1
      obtain ⟨⟨z0, z1⟩, f0, f1⟩ := span_zero_parts HK3.out
      rcases hcb with ⟨hnb, rfl⟩ | ⟨hnb, tb, pb, rfl⟩
      · have He := Lib.hid (HS.out.trans (spanQ_3 HNA.out hnb))
        clear hnb
        go_wp2
        refine bodyPost_ret (v := .tuple #[.agg #[.int .i64 va, .int .i64 vb], .bool true]) (by simp [results, Tryz.results99, go_sem, z0, z1, f0, f1]) rfl ?_
        exact ⟨by rw [He.out]; rfl, HB3.out.trans (by repeat (first | exact Below.refl _ _ | assumption | refine Below.drew ?_ | refine Below.drewN' ?_ _ | (refine Below.alloc ?_ (by simp <;> omega) _) | (refine Below.setCell ?_ (by simp <;> omega) _)))⟩
      · have He := Lib.hid (HS.out.trans (spanQ_2 HNA.out hnb))
        clear hnb
        go_wp2
        refine bodyPost_ret (v := .tuple #[.agg #[.int .i64 0, .int .i64 0], .bool false]) (by simp [results, Tryz.results99, go_sem, z0, z1, f0, f1]) rfl ?_
        exact ⟨by rw [He.out]; rfl, HB3.out.trans (by repeat (first | exact Below.refl _ _ | assumption | refine Below.drew ?_ | refine Below.drewN' ?_ _ | (refine Below.alloc ?_ (by simp <;> omega) _) | (refine Below.setCell ?_ (by simp <;> omega) _)))⟩
    · have He := Lib.hid (HS.out.trans (spanQ_1 hna))
      clear hna
      go_wp2
      refine bodyPost_ret (v := .tuple #[.agg #[.int .i64 0, .int .i64 0], .bool false]) (by simp [results, Tryz.results99, go_sem, z0, z1, f0, f1]) rfl ?_
      exact ⟨by rw [He.out]; rfl, HB2.out.trans (by repeat (first | exact Below.refl _ _ | assumption | refine Below.drew ?_ | refine Below.drewN' ?_ _ | (refine Below.alloc ?_ (by simp <;> omega) _) | (refine Below.setCell ?_ (by simp <;> omega) _)))⟩
end Go.Proofs.YthcenmocnphnmaaGreatDoor
/-
  Texts: the program's parse.
-/
namespace Go.Proofs.YthcenmocnphnmaaGreatDoor
open Go.RowKit Go.Shelf

theorem pw_len {ws : List (List UInt8)} (h : ws.length < 4) : parseW ws = none := by
  match ws, h with
  | [], _ => rfl
  | [_], _ => rfl
  | [_, _], _ => rfl
  | [_, _, _], _ => rfl
  | _ :: _ :: _ :: _ :: _, h => simp at h; omega
theorem more_of {α : Type} {l : List α} (h : ¬ l.length < 4) : ∃ a b c d r, l = a :: b :: c :: d :: r := by
  match l, h with
  | a :: b :: c :: d :: r, _ => exact ⟨a, b, c, d, r, rfl⟩
  | [], h => simp at h
  | [_], h => simp at h
  | [_, _], h => simp at h
  | [_, _, _], h => simp at h
section
variable {k a b c : List UInt8} {r : List (List UInt8)} {W H S : Int} {ss : List (Int × Int)}
theorem pw_key (h : k ≠ [103, 114, 105, 100]) : parseW (k :: a :: b :: c :: r) = none := by
  unfold parseW
  simp only [if_neg h]
theorem headP_none (h : numP a = none ∨ numP b = none ∨ numP c = none) : headP a b c = none := by
  unfold headP
  cases ha : numP a with
  | none => rfl
  | some x =>
    cases hb : numP b with
    | none => rfl
    | some y =>
      cases hc : numP c with
      | none => rfl
      | some z => simp [ha, hb, hc] at h
theorem headP_some (ha : numP a = some W) (hb : numP b = some H) (hc : numP c = some S) : headP a b c = some (W, H, S) := by
  unfold headP
  simp only [ha, hb, hc]
theorem pw_head (h : headP a b c = none) : parseW (k :: a :: b :: c :: r) = none := by
  unfold parseW
  simp only [h, ite_self]
theorem pw_cells (h : headP a b c = some (W, H, S)) (h2 : cellsP r = none) : parseW (k :: a :: b :: c :: r) = none := by
  unfold parseW
  simp only [h, h2, ite_self]
theorem pw_ok (hk : k = [103, 114, 105, 100]) (h : headP a b c = some (W, H, S)) (h2 : cellsP r = some ss) : parseW (k :: a :: b :: c :: r) = some ⟨W, H, S, ss⟩ := by
  unfold parseW
  simp only [h, h2, if_pos hk]
end
theorem cellsP_none {r : List (List UInt8)} {x : List UInt8} (h : x ∈ r) (hx : spanP x = none) : cellsP r = none := by
  unfold cellsP
  rw [if_neg]
  intro ha
  have := List.all_eq_true.1 ha x h
  rw [hx] at this
  cases this
structure PRd (ws : List (List UInt8)) (ss : List (Int × Int)) : Prop where
  eq : ss = ws.map fun x => (spanP x).getD (0, 0)
  all : ws.all (fun x => (spanP x).isSome) = true
theorem PRd.nil : PRd [] [] := ⟨rfl, rfl⟩
theorem PRd.snoc {ws : List (List UInt8)} {ss : List (Int × Int)} (h : PRd ws ss) {x : List UInt8} {y : Int × Int} (hx : spanP x = some y) : PRd (ws ++ [x]) (ss ++ [y]) := ⟨by rw [h.eq]; simp [hx], by rw [List.all_append, h.all]; simp [hx]⟩
theorem PRd.cells {r : List (List UInt8)} {ss : List (Int × Int)} (h : PRd r ss) : cellsP r = some ss := by
  unfold cellsP
  rw [if_pos h.all, ← h.eq]
theorem fields_any (s : List UInt8) (w : World) (hv : LV w) (hs : s.length ≤ 65536) :
    Calls Tryz.prog 97 #[.string (bs s)] w fun e w' => ∃ v, e = .returned v ∧ StrsAt w' w'.heap.size v (Lib.fieldsD s) ∧ Below w.heap.size w w' := by
  have hz := bs_size s
  refine (Tryz.strings_Fields_any (bs s) w (by omega) hv.spc hv.wht).mono ?_
  rintro e w' ⟨A, rfl, _, ho, hb⟩
  refine ⟨_, rfl, ?_, hb⟩
  exact Reads.of_own ho
def ParseOut (r : Option G) (w : World) (e : Ending) (w' : World) : Prop := ∃ v, e = .returned (.tuple #[.agg #[.int .i64 (r.getD zeroG).W, .int .i64 (r.getD zeroG).H, .int .i64 (r.getD zeroG).S, v], .bool r.isSome]) ∧ SpansAt w' w'.heap.size v (r.getD zeroG).ss ∧ Fresh w.heap.size v ∧ Below w.heap.size w w'
theorem parse_bad {s : List UInt8} {w w' : World} (h : parseP s = none) (hb : Below w.heap.size w w') : ParseOut (parseP s) w (.returned (.tuple #[.agg #[.int .i64 0, .int .i64 0, .int .i64 0, .slice none 0 0], .bool false])) w' := by
  rw [h]
  exact ⟨_, rfl, spans_nil _ _, (fun a n c e => by cases e), hb⟩
theorem spans_set {w : World} {B n : Nat} {v : Value} {ss : List (Int × Int)} (h : SpansAt w B v ss) (hf : Fresh n v) {p : Addr} (hp : p.block < n) (u : Value) : SpansAt (w.setCell p u) B v ss := by
  obtain ⟨h1, h2, A, c, rfl, h4, h5⟩ := h
  refine ⟨h1, h2, A, c, rfl, h4, fun hn => ?_⟩
  obtain ⟨b, off, rfl, hb, hc⟩ := h5 hn
  refine ⟨b, off, rfl, hb, fun j x hx => ?_⟩
  have hne : b ≠ p.block := by
    have := hf _ _ _ rfl
    simp at this
    omega
  exact (World.cell?_of_block (w := w) (Below.heap_setCell w p u b hne)).trans (hc j x hx)
/-- where the pointers to the grid's numbers lie -/
def ptrs (gb : Nat) : Array Value := #[.pointer (some ⟨gb, 0, none⟩), .pointer (some ⟨gb, 1, none⟩), .pointer (some ⟨gb, 2, none⟩)]
theorem ptrs_at {gb i : Nat} (h : i < 3) : (ptrs gb)[i]? = some (.pointer (some ⟨gb, i, none⟩)) := by
  have : i = 0 ∨ i = 1 ∨ i = 2 := by omega
  rcases this with rfl | rfl | rfl <;> rfl
def numCells (ns : Nat → Int) : Array Value := #[.int .i64 (ns 0), .int .i64 (ns 1), .int .i64 (ns 2), .slice none 0 0]
theorem numCells_at (ns : Nat → Int) {i : Nat} (h : i < 3) : (numCells ns)[i]? = some (.int .i64 (ns i)) := by
  have : i = 0 ∨ i = 1 ∨ i = 2 := by omega
  rcases this with rfl | rfl | rfl <;> rfl
theorem numCells_set (ns : Nat → Int) {i : Nat} (h : i < 3) (n : Int) : (numCells ns).setIfInBounds i (.int .i64 n) = numCells (fun j => if j = i then n else ns j) := by
  have : i = 0 ∨ i = 1 ∨ i = 2 := by omega
  rcases this with rfl | rfl | rfl <;> rfl

set_option maxRecDepth 100000 in
set_option maxHeartbeats 4000000 in
theorem parse_any (s : List UInt8) (w : World) (hv : LV w) (hs : s.length ≤ 65536) :
    Calls Tryz.prog 77 #[.string (bs s)] w (ParseOut (parseP s) w) := by
  have hz : (bs s).size = s.length := bs_size s
  have hB0 : Below w.heap.size w (w.alloc (.cells #[.int .i64 0, .int .i64 0, .int .i64 0, .slice none 0 0] 24)) := (by repeat (first | exact Below.refl _ _ | assumption | refine Below.drew ?_ | refine Below.drewN' ?_ _ | (refine Below.alloc ?_ (by simp <;> omega) _) | (refine Below.setCell ?_ (by simp <;> omega) _)))
  have HB0 := Lib.hid hB0
  have hb0 : Blk (w.alloc (.cells #[.int .i64 0, .int .i64 0, .int .i64 0, .slice none 0 0] 24)) w.heap.size 24 #[.int .i64 0, .int .i64 0, .int .i64 0, .slice none 0 0] := Blk.new' _ _ _ rfl
  have HK0 := Lib.hid hb0
  have HLV := Lib.hid hv
  have hwl := fieldsD_len s
  have Hwm : Hid (∀ x, x ∈ Lib.fieldsD s → x.length ≤ 65536) := fun x hx => by have := fieldsD_mem hx; omega
  obtain ⟨ws, hws⟩ : ∃ ws, Lib.fieldsD s = ws := ⟨_, rfl⟩
  have HP : Hid (parseP s = parseW ws) := by unfold parseP; rw [Hid, hws]
  have HF := Lib.hid (fields_any s _ (hv.below hB0) hs)
  rw [hws] at hwl Hwm HF
  clear hB0 hb0 hv hws
  go_enter Tryz.func77, Tryz.ntmps77
  go_wp2_with fail
  refine HF.out.mono ?_
  rintro e w1 ⟨v1, rfl, hv1, hb1⟩
  have HB1 := Lib.hid (HB0.out.trans (hb1.mono HB0.out.size))
  have hn1 : w.heap.size + 1 ≤ w1.heap.size := by have := hb1.size; simpa using this
  have HK1 := Lib.hid (HK0.out.below hb1 (by simp <;> omega))
  have HV1 := Lib.hid hv1
  clear hb1 hv1 HF
  obtain ⟨A1, k1, rfl, hk1, hm1⟩ := HV1.out.open_
  obtain ⟨⟨z0, z1, z2, z3⟩, f0, f1, f2, f3⟩ := zero_parts HK1.out
  by_cases h4 : ws.length < 4
  · have Hbad := Lib.hid (HP.out.trans (pw_len h4))
    have h4' : (ws.length : Int) < 4 := by omega
    clear h4
    go_wp2
    refine bodyPost_ret (v := .tuple #[.agg #[.int .i64 0, .int .i64 0, .int .i64 0, .slice none 0 0], .bool false]) (by simp [results, Tryz.results77, go_sem, z0, z1, z2, z3, f0, f1, f2, f3]) rfl ?_
    exact parse_bad Hbad.out (HB1.out.trans (by repeat (first | exact Below.refl _ _ | assumption | refine Below.drew ?_ | refine Below.drewN' ?_ _ | (refine Below.alloc ?_ (by simp <;> omega) _) | (refine Below.setCell ?_ (by simp <;> omega) _))))
  obtain ⟨k, a, b, c, r, rfl⟩ := more_of h4
  obtain ⟨p1, o1, rfl, hp1, c0⟩ := HV1.out.at_ (k := 0) (by simp)
  simp only [List.getElem_cons_zero, Nat.add_zero] at c0
  have h4' : ¬ ((k :: a :: b :: c :: r).length : Int) < 4 := by simp <;> omega
  clear h4
  by_cases hk : k = [103, 114, 105, 100]
  case neg =>
    have Hbad := Lib.hid (HP.out.trans (pw_key hk))
    have hk1 : ((bs k).toList == [103, 114, 105, 100]) = false := by rw [bs_toList, beq_dec]; exact decide_eq_false hk
    have hk2 : ((bs k).toList != [103, 114, 105, 100]) = true := by unfold bne; rw [hk1]; rfl
    clear hk
    go_wp2
    refine bodyPost_ret (v := .tuple #[.agg #[.int .i64 0, .int .i64 0, .int .i64 0, .slice none 0 0], .bool false]) (by simp [results, Tryz.results77, go_sem, z0, z1, z2, z3, f0, f1, f2, f3]) rfl ?_
    exact parse_bad Hbad.out (HB1.out.trans (by repeat (first | exact Below.refl _ _ | assumption | refine Below.drew ?_ | refine Below.drewN' ?_ _ | (refine Below.alloc ?_ (by simp <;> omega) _) | (refine Below.setCell ?_ (by simp <;> omega) _))))
  have hk1 : ((bs k).toList == [103, 114, 105, 100]) = true := by rw [bs_toList, beq_dec]; exact decide_eq_true hk
  have hk2 : ((bs k).toList != [103, 114, 105, 100]) = false := by unfold bne; rw [hk1]; rfl
  have HK := Lib.hid hk
  clear hk
  have hG : Hid (Blk ((w1.alloc (.cells #[.int .i64 0, .int .i64 0, .int .i64 0, .slice none 0 0] 24)).alloc (.cells (ptrs w1.heap.size) 133)) w1.heap.size 24 (numCells fun _ => 0)) := Blk.alloc (Blk.new' _ _ _ rfl) _
  have hA : Hid (Blk ((w1.alloc (.cells #[.int .i64 0, .int .i64 0, .int .i64 0, .slice none 0 0] 24)).alloc (.cells (ptrs w1.heap.size) 133)) (w1.heap.size + 1) 133 (ptrs w1.heap.size)) := Blk.new' _ _ _ (by simp)
  have hb2 : Below w1.heap.size w1 ((w1.alloc (.cells #[.int .i64 0, .int .i64 0, .int .i64 0, .slice none 0 0] 24)).alloc (.cells (ptrs w1.heap.size) 133)) := (by repeat (first | exact Below.refl _ _ | assumption | refine Below.drew ?_ | refine Below.drewN' ?_ _ | (refine Below.alloc ?_ (by simp <;> omega) _) | (refine Below.setCell ?_ (by simp <;> omega) _)))
  have HB2 := Lib.hid hb2
  clear hb2
  go_wp2
  clear z0 z1 z2 z3 f0 f1 f2 f3 c0 hk1 hk2
  go_loopw [31] (fun iv wr => ∃ (i : Nat) (ns : Nat → Int), i ≤ 3 ∧ iv = .int .i64 i ∧ Hid (∀ j, j < i → numP ([a, b, c].getD j []) = some (ns j)) ∧ Hid (Blk wr w1.heap.size 24 (numCells ns)) ∧ Hid (Blk wr (w1.heap.size + 1) 133 (ptrs w1.heap.size)) ∧ Hid (Below w1.heap.size w1 wr)) (fun i _ => 3 - (intOf i).toNat)
  case atStart => exact ⟨0, fun _ => 0, by omega, rfl, (fun j hj => absurd hj (by omega)), hG.out, hA.out, HB2.out⟩
  case round =>
    obtain ⟨i, ns, hi, rfl, Hns, Hg, Ha, Hb⟩ := hrel
    clear hG hA HB2
    generalize wr = wo at *
    have HBo := Lib.hid (HB1.out.trans (Hb.out.mono (by omega)))
    have HKo := Lib.hid (HK1.out.below Hb.out (by omega))
    have hno : w1.heap.size + 1 < wo.heap.size := Ha.out.lt
    have HVo := Lib.hid (HV1.out.below Hb.out)
    by_cases hlt : i < 3
    · have hlt' : (i : Int) < 3 := by omega
      obtain ⟨p1', o1', e1, -, cw⟩ := HVo.out.at_ (k := i + 1) (by simp; omega)
      injection e1 with e1; injection e1 with e2 e3; subst e2; subst e3
      have hwi : (k :: a :: b :: c :: r)[i + 1]'(by simp; omega) = [a, b, c].getD i [] := by
        have : i = 0 ∨ i = 1 ∨ i = 2 := by omega
        rcases this with rfl | rfl | rfl <;> rfl
      have hwm : ([a, b, c].getD i []).length ≤ 65536 := Hwm.out _ (by rw [← hwi]; exact List.getElem_mem _)
      have Hany : Hid (numP ([a, b, c].getD i []) = none → headP a b c = none) := fun h => headP_none (by
        have : i = 0 ∨ i = 1 ∨ i = 2 := by omega
        rcases this with rfl | rfl | rfl
        · exact .inl h
        · exact .inr (.inl h)
        · exact .inr (.inr h))
      rw [hwi] at cw
      have Hxi : Hid ([a, b, c].getD i [] = [a, b, c].getD i []) := rfl
      obtain ⟨x, hx⟩ : ∃ x, [a, b, c].getD i [] = x := ⟨_, rfl⟩
      rw [hx] at cw hwm Hany
      have HX := Lib.hid hx
      clear Hxi hx hwi
      have ca : wo.cell? ⟨w1.heap.size + 1, i, none⟩ = some (.pointer (some ⟨w1.heap.size, i, none⟩)) := by rw [Ha.out.cell i]; exact ptrs_at hlt
      have hi1 : ((i : Int) + 1) < ((k :: a :: b :: c :: r).length : Int) := by simp <;> omega
      go_wp2_with fail
      refine (atoi_any x _ (HLV.out.below HBo.out) hwm).mono ?_
      rintro e w2 ⟨va, ea, rfl, hb2, hca⟩
      have Hg2 := Lib.hid (Hg.out.below hb2 (by omega))
      have Ha2 := Lib.hid (Ha.out.below hb2 (by omega))
      have Hb2 := Lib.hid (Hb.out.trans (hb2.mono (by omega)))
      have HKo2 := Lib.hid (HKo.out.below hb2 (by omega))
      have HBo2 := Lib.hid (HBo.out.trans (hb2.mono HBo.out.size))
      clear hb2
      rcases hca with ⟨hna, rfl⟩ | ⟨hna, ta, pa, rfl⟩
      · have cg : w2.cell? ⟨w1.heap.size, i, none⟩ = some (.int .i64 (ns i)) := by rw [Hg2.out.cell i]; exact numCells_at ns hlt
        have fg := Hg2.out.frozen i
        have Hns2 : Hid (∀ j, j < i + 1 → numP ([a, b, c].getD j []) = some (if j = i then va else ns j)) := fun j hj => by
          by_cases e : j = i
          · subst e; rw [HX.out, if_pos rfl]; exact hna
          · rw [if_neg e]; exact Hns.out j (by omega)
        have Hg3 : Hid (Blk (w2.setCell ⟨w1.heap.size, i, none⟩ (.int .i64 va)) w1.heap.size 24 (numCells fun j => if j = i then va else ns j)) := by rw [Hid, ← numCells_set ns hlt]; exact Hg2.out.set_ i _
        have Ha3 : Hid (Blk (w2.setCell ⟨w1.heap.size, i, none⟩ (.int .i64 va)) (w1.heap.size + 1) 133 (ptrs w1.heap.size)) := Ha2.out.far_ (by simp) _
        have Hb3 : Hid (Below w1.heap.size w1 (w2.setCell ⟨w1.heap.size, i, none⟩ (.int .i64 va))) := Hb2.out.setCell (by exact Nat.le_refl _) _
        clear hna
        go_wp2
        go_roundw
        case rel => exact ⟨i + 1, _, by omega, by go_num, Hns2.out, Hg3.out, Ha3.out, Hb3.out⟩
        case measure => simp [intOf] <;> omega
      · have Hbad := Lib.hid (HP.out.trans (pw_head (Hany.out hna)))
        obtain ⟨⟨z0, z1, z2, z3⟩, f0, f1, f2, f3⟩ := zero_parts HKo2.out
        clear hna
        go_wp2
        refine bodyPost_ret (v := .tuple #[.agg #[.int .i64 0, .int .i64 0, .int .i64 0, .slice none 0 0], .bool false]) (by simp [results, Tryz.results77, go_sem, z0, z1, z2, z3, f0, f1, f2, f3]) rfl ?_
        exact parse_bad Hbad.out (HBo2.out.trans (by repeat (first | exact Below.refl _ _ | assumption | refine Below.drew ?_ | refine Below.drewN' ?_ _ | (refine Below.alloc ?_ (by simp <;> omega) _) | (refine Below.setCell ?_ (by simp <;> omega) _))))
    · have hi3 : i = 3 := by omega
      subst hi3
      have HH := Lib.hid (headP_some (Hns.out 0 (by omega)) (Hns.out 1 (by omega)) (Hns.out 2 (by omega)))
      simp only [List.getD_cons_zero, List.getD_cons_succ] at HH
      have HS0 : Hid (RdSt w1.heap.size wo wo (ns 0) (ns 1) (ns 2) [] (.slice none 0 0)) := ⟨World.ownsRow_nil _ _ _ _, Hg.out, Below.refl _ _⟩
      generalize ns 0 = W at *
      generalize ns 1 = H at *
      generalize ns 2 = S at *
      clear hi hlt Hg Ha Hns
      have hl1 : ((k :: a :: b :: c :: r).length : Int) = (r.length : Int) + 4 := by simp; omega
      have hl2 : (4 : Int) ≤ ((k :: a :: b :: c :: r).length : Int) := by omega
      have hl3 : ((k :: a :: b :: c :: r).length : Int) ≤ (k1 : Int) := by omega
      go_wp2
      all_goals
        go_loopw [55] (fun iv wr => ∃ (q : Nat) (ss : List (Int × Int)) (v : Value), q ≤ r.length ∧ iv = .int .i64 q ∧ ss.length ≤ q ∧ Hid (PRd (r.take q) ss) ∧ Hid (RdSt w1.heap.size wo wr W H S ss v)) (fun i _ => r.length - (intOf i).toNat)
        case atStart => exact ⟨0, [], _, Nat.zero_le _, rfl, Nat.le_refl _, PRd.nil, HS0.out⟩
        case round =>
          obtain ⟨q, ss, v, hq, rfl, hsl, Hrd, Hst⟩ := hrel
          clear HS0
          have HBr := Lib.hid (HBo.out.trans (Hst.out.bel.mono (by omega)))
          have HKr := Lib.hid (HKo.out.below Hst.out.bel (by omega))
          have HVr := Lib.hid (HVo.out.below Hst.out.bel)
          by_cases hlt : q < r.length
          · first
              | (exfalso; simp only [List.length_cons] at hk1; omega)
              | skip
            all_goals
              obtain ⟨p1', o1', e1, -, cw⟩ := HVr.out.at_ (k := q + 4) (by simp; omega)
              injection e1 with e1; injection e1 with e2 e3; subst e2; subst e3
              have eo : o1 + (q + 4) = o1 + 4 + q := by omega
              have hwi : (k :: a :: b :: c :: r)[q + 4]'(by simp; omega) = r[q] := rfl
              rw [hwi, eo] at cw
              have hwm : r[q].length ≤ 65536 := Hwm.out _ (by simp)
              have Hin := Lib.hid (List.getElem_mem hlt)
              have Htk := Lib.hid (take_snoc r q hlt)
              generalize r[q] = x at *
              clear eo hwi
              go_wp2_with fail
              refine (parseSpan_any x _ (HLV.out.below HBr.out) hwm).mono ?_
              rintro e w2 ⟨rfl, hb2⟩
              have Hst2 := Lib.hid (Hst.out.below hb2)
              have HK2 := Lib.hid (HKr.out.below hb2 (by have := Hst.out.blk.lt; omega))
              have HB2 := Lib.hid (HBr.out.trans (hb2.mono HBr.out.size))
              have hn8 : w1.heap.size < w2.heap.size := Hst2.out.blk.lt
              have n1 : w.heap.size < w2.heap.size := by omega
              have n2 : ¬ w.heap.size = w2.heap.size := by omega
              have n3 : ¬ w1.heap.size = w2.heap.size := by omega
              clear hb2 cw
              cases hsp : spanP x with
              | none =>
                have Hbad := Lib.hid (HP.out.trans (pw_cells HH.out (cellsP_none Hin.out hsp)))
                obtain ⟨⟨z0, z1, z2, z3⟩, f0, f1, f2, f3⟩ := zero_parts HK2.out
                clear hsp
                simp only [Option.getD_none, Option.isSome_none]
                go_wp2
                refine bodyPost_ret (v := .tuple #[.agg #[.int .i64 0, .int .i64 0, .int .i64 0, .slice none 0 0], .bool false]) (by simp [results, Tryz.results77, go_sem, z0, z1, z2, z3, f0, f1, f2, f3, n1, n2]) rfl ?_
                exact parse_bad Hbad.out (HB2.out.trans (by repeat (first | exact Below.refl _ _ | assumption | refine Below.drew ?_ | refine Below.drewN' ?_ _ | (refine Below.alloc ?_ (by simp <;> omega) _) | (refine Below.setCell ?_ (by simp <;> omega) _))))
              | some y =>
                obtain ⟨lo, hi⟩ := y
                obtain ⟨i0, hi0, hz0, hz1, hz2⟩ := info_parts span_info
                have Hrd2 : Hid (PRd (r.take (q + 1)) (ss ++ [(lo, hi)])) := by rw [Hid, Htk.out]; exact Hrd.out.snoc hsp
                have y3 := Hst2.out.at3
                clear hsp
                simp only [Option.getD_some, Option.isSome_some]
                go_wp2_with (at_builtin; ((refine wpList_append_own_at _ rfl (.tmp 68) (.tmp 70) 22 rfl (w1.heap.size + 1) 34 i0 (.agg #[.int .i64 0, .int .i64 0]) 2 16 Tryz.underlying22 hi0 hz0 hz1 hz2 rfl (by decide) v ss.length _ rfl ((Hst2.out.own.alloc _).alloc _) ⟨w2.heap.size + 1, 0, none⟩ 1 1 [.int .i64 lo, .int .i64 hi] rfl rfl (cells_pair_new _ _ _ _ (by simp)) (by simp [Value.oneCell']) (by unfold maxLen; omega) (by omega) (by simp <;> omega) ?_; intro v1 w8 hown1 hg1 _ _; obtain ⟨g8, c8, rfl⟩ := own_some hown1 (Nat.succ_pos _); have hm := RdSt.mid (Hst2.out.alloc _) hg1; have y4 := hm.1; have y5 := hm.2; have HS8 := Lib.hid (RdSt.step (x := (lo, hi)) (Hst2.out.alloc _) rfl hown1 hg1); clear hm hown1 hg1)))
                go_roundw
                case rel => exact ⟨q + 1, ss ++ [(lo, hi)], _, by omega, by go_num, by simp; omega, Hrd2.out, HS8.out⟩
                case measure => simp [intOf] <;> omega
          · have hqe : q = r.length := by omega
            have HrdE : Hid (PRd r ss) := by
              have := Hrd.out
              rw [hqe, List.take_length] at this
              exact this
            have Hgood := Lib.hid (HP.out.trans (pw_ok HK.out HH.out HrdE.out.cells))
            clear hqe
            obtain ⟨Av, cv, rfl, _, _⟩ := (show SpansAt wr wr.heap.size v ss from Reads.of_own Hst.out.own).open_
            obtain ⟨y0, y1, y2, y3⟩ := grid_parts Hst.out.blk
            obtain ⟨⟨z0, z1, z2, z3⟩, f0, f1, f2, f3⟩ := zero_parts HKr.out
            have hgb : ¬ w1.heap.size = w.heap.size := by omega
            have hbg : ¬ w.heap.size = w1.heap.size := by omega
            have hv : (Value.slice Av ss.length cv).ownBlock ≠ some w.heap.size := fun e => by have := (Hst.out.own.lt _ e).1; omega
            have HV := Lib.hid hv
            clear hv
            go_wp2
            refine bodyPost_ret (v := .tuple #[.agg #[.int .i64 W, .int .i64 H, .int .i64 S, .slice Av ss.length cv], .bool true]) (by simp [results, Tryz.results77, go_sem, z0, z1, z2, z3, f0, f1, f2, f3]) rfl ?_
            rw [Hgood.out]
            refine ⟨_, rfl, ?_, (fun a n c e => by have := (Hst.out.own.lt a.block (by rw [e]; rfl)).1; omega), HBr.out.trans (by repeat (first | exact Below.refl _ _ | assumption | refine Below.drew ?_ | refine Below.drewN' ?_ _ | (refine Below.alloc ?_ (by simp <;> omega) _) | (refine Below.setCell ?_ (by simp <;> omega) _)))⟩
            refine Reads.of_own (base := w1.heap.size + 1) (e := 34) ?_
            repeat (refine own_set ?_ (by exact HV.out) _)
            exact Hst.out.own
end Go.Proofs.YthcenmocnphnmaaGreatDoor
