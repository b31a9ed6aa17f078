/-
  Texts: what the program's calls of the library give: the variables that they read; Itoa; the builder.
-/
import Derived.Test.YthcenmocnphnmaaGreatDoorMY
import Derived.Test.YthcenmocnphnmaaGreatDoorShelf
set_option linter.unusedSimpArgs false
set_option linter.unusedVariables false
namespace Go.Proofs.YthcenmocnphnmaaGreatDoor
open Go.RowKit Go.Shelf

theorem tabIs_below {n : String} {k : IntKind} {zs : List Int} {w w' : World} (h : Lib.TabIs Tryz.prog w n k zs) (hb : Below w.heap.size w w') : Lib.TabIs Tryz.prog w' n k zs := by
  unfold Lib.TabIs World.var? at h ⊢
  cases hg : Tryz.prog.globalNamed n with
  | none => rw [hg] at h; cases h
  | some g =>
    rw [hg] at h
    simp only [Option.bind_some] at h ⊢
    have hlt : g < w.heap.size := by
      rcases Nat.lt_or_ge g w.heap.size with h' | h'
      · exact h'
      · rw [Array.getElem?_eq_none h'] at h; cases h
    rw [hb.block g hlt]
    exact h
theorem cell_keep {w w' : World} (hb : Below w.heap.size w w') {a : Addr} {v : Value} (hc : w.cell? a = some v) : w'.cell? a = some v := (hb.cell (World.block_lt_of_cell? w a hc)).trans hc
/-- what the library's variables hold -/
structure LV (w : World) : Prop where
  pow : Lib.TabIs Tryz.prog w "internal/strconv.uint64pow10" .u64 Lib.pow10Tab
  spc : Lib.TabIs Tryz.prog w "strings.asciiSpace" .u8 Lib.asciiSpaceTab
  wht : Lib.WhiteTab 1 w
  es : ∃ tp p, w.cell? ⟨3, 0, none⟩ = some (.iface tp p)
  er : ∃ tp p, w.cell? ⟨4, 0, none⟩ = some (.iface tp p)
  ml : ∃ m, w.cell? ⟨5, 0, none⟩ = some (.int .i64 m)
theorem LV.below {w w' : World} (h : LV w) (hb : Below w.heap.size w w') : LV w' := by
  obtain ⟨h1, h2, h3, ⟨t1, p1, h4⟩, ⟨t2, p2, h5⟩, m, h6⟩ := h
  exact ⟨tabIs_below h1 hb, tabIs_below h2 hb, WhiteTab_below h3 hb, ⟨t1, p1, cell_keep hb h4⟩, ⟨t2, p2, cell_keep hb h5⟩, m, cell_keep hb h6⟩
theorem LV.below' {w w' : World} {B : Nat} (h : LV w) (hb : Below B w w') (hB : w.heap.size ≤ B) : LV w' := h.below (hb.mono hB)
theorem itoa_any (n : Int) (h0 : -9223372036854775808 ≤ n) (h1 : n ≤ 9223372036854775807) (w : World) (h : LV w) :
    Calls Tryz.prog 73 #[.int .i64 n] w fun e w' => e = .returned (.string (bs (Lib.itoa n))) ∧ Below w.heap.size w w' := by
  refine (Tryz.strconv_Itoa n h0 h1 w h.pow).mono ?_
  rintro e w' ⟨rfl, k, os, rfl⟩
  exact ⟨rfl, ⟨rfl, rfl, rfl, by show w.heap.size ≤ (w.heap ++ os).size; rw [Array.size_append]; omega, fun j hj => by show (w.heap ++ os)[j]? = w.heap[j]?; rw [Array.getElem?_append, if_pos hj]⟩⟩
/-! the builder -/
set_option maxRecDepth 100000 in
theorem copy_fresh (b : Nat) (w : World) (h0 : w.cell? ⟨b, 0, none⟩ = some (.pointer none)) (hsh : w.shape? b = some (105, 2)) (hfz : w.frozen? ⟨b, 0, none⟩ = false) :
    Calls Tryz.prog 95 #[.pointer (some ⟨b, 0, none⟩)] w fun e w' => e = .returned (.tuple #[]) ∧ w' = w.setCell ⟨b, 0, none⟩ (.pointer (some ⟨b, 0, none⟩)) := by
  obtain ⟨j, hj, hjs⟩ : ∃ j, Tryz.prog.info? 105 = some j ∧ j.size = 2 := Option.map_eq_some_iff.1 (show (Tryz.prog.info? 105).map (·.size) = some 2 by kernel_rfl)
  go_enter Tryz.func95, Tryz.ntmps95
  go_wp2
  rw [Lib.run_to_unsafe w ⟨b, 0, none⟩ Tryz.underlying103 Tryz.underlying144 hj (by rw [hjs]; decide) hsh (Nat.zero_lt_succ 1)]
  simp only [Result.andThen]
  rw [Oper.upon_value]
  go_wp2
  rw [run_callFunc_extern Tryz.func107 (by kernel_rfl) (by kernel_rfl) (by kernel_rfl) (e := Extern.AbiNoEscape.same) (by kernel_rfl)]
  rw [Lib.run_noEscape]
  simp only [Result.andThen]
  rw [Oper.upon_value]
  go_wp2
  rw [Lib.run_from_unsafe w ⟨b, 0, none⟩ Tryz.underlying144 Tryz.underlying103 hj hsh (show liesAt Tryz.prog Tryz.prog.depth 105 (2 / Tryz.prog.cellsOf 105) 0 105 1 = true by kernel_rfl)]
  simp only [Result.andThen]
  rw [Oper.upon_value]
  go_wp2
  go_end0
  exact ⟨rfl, rfl⟩
set_option maxRecDepth 100000 in
theorem copy_used (b : Nat) (w : World) (h0 : w.cell? ⟨b, 0, none⟩ = some (.pointer (some ⟨b, 0, none⟩))) :
    Calls Tryz.prog 95 #[.pointer (some ⟨b, 0, none⟩)] w fun e w' => e = .returned (.tuple #[]) ∧ w' = w := by
  obtain ⟨j, hj, hjs⟩ : ∃ j, Tryz.prog.info? 105 = some j ∧ j.size = 2 := Option.map_eq_some_iff.1 (show (Tryz.prog.info? 105).map (·.size) = some 2 by kernel_rfl)
  go_enter Tryz.func95, Tryz.ntmps95
  go_wp2
  rw [Lib.run_neq_ptr_same w _ Tryz.underlying103 hj]
  go_wp2
  go_end0
  exact ⟨rfl, rfl⟩
abbrev BAt (B b : Nat) (l : List UInt8) (w : World) : Prop := Lib.IsBuilderF 105 5 B b (Lib.byteCells l) w
abbrev OKept (b : Nat) (w w' : World) : Prop := Lib.OthersKept 5 (some b) w w'
theorem copy_any (B b : Nat) (bs : List Value) (w : World) (h : Lib.IsBuilderF 105 5 B b bs w) :
    Calls Tryz.prog 95 #[.pointer (some ⟨b, 0, none⟩)] w fun e w' => e = .returned (.tuple #[]) ∧ Lib.BuilderAtF 105 5 B b (.pointer (some ⟨b, 0, none⟩)) bs w' ∧ Below B w w' ∧ OKept b w w' := by
  rcases h with h | h
  · refine (copy_fresh b w h.cell0 h.shape h.frozen0).mono ?_
    rintro e w' ⟨rfl, rfl⟩
    exact ⟨rfl, h.used _, (Below.refl B w).setCell (p := ⟨b, 0, none⟩) h.1 _, (Lib.OthersKept.refl _ _ w).setCell ⟨b, 0, none⟩ rfl _⟩
  · refine (copy_used b w h.cell0).mono ?_
    rintro e w' ⟨rfl, rfl⟩
    exact ⟨rfl, h, Below.refl B _, Lib.OthersKept.refl _ _ _⟩
theorem byte_info : (Tryz.prog.info? 5).map (fun i => (i.zero, i.size, i.bytes)) = some (some (.int .u8 0), 1, 1) := by kernel_rfl
set_option maxRecDepth 100000 in
set_option maxHeartbeats 2000000 in
theorem wstr_any (B b : Nat) (l x : List UInt8) (w : World) (h : BAt B b l w) (hlen : l.length + x.length ≤ 140737488355328) (hBw : B ≤ w.heap.size) :
    Calls Tryz.prog 72 #[.pointer (some ⟨b, 0, none⟩), .string (bs x)] w fun e w' => e = .returned (.tuple #[.int .i64 x.length, .nilIface]) ∧ BAt B b (l ++ x) w' ∧ Below B w w' ∧ OKept b w w' := by
  obtain ⟨i0, hi, hz0, hz1, hz2⟩ := info_parts byte_info
  have hsz := bs_size x
  have Hcl : Hid ((Lib.byteCells l).length = l.length) := Lib.byteCells_length l
  go_enter Tryz.func72, Tryz.ntmps72
  go_wp2_with (go_at_call 95; refine (copy_any B b _ _ h).mono ?_)
  rintro e w1 ⟨rfl, h1, hb1, hk1⟩
  obtain ⟨hB, v, hbk, hown, hne⟩ := h1
  have c0 : w1.cell? ⟨b, 0, none⟩ = some (.pointer (some ⟨b, 0, none⟩)) := by rw [Lib.cell_of_heap hbk]; rfl
  have c1 : w1.cell? ⟨b, 1, none⟩ = some v := by rw [Lib.cell_of_heap hbk]; rfl
  go_wp2_with (at_builtin; refine Lib.wpList_append_own_stringF _ rfl _ _ 62 9 rfl B 5 i0 Tryz.underlying62 Tryz.underlying9 hi hz0 hz1 hz2 _ _ _ rfl hown (bs x) rfl ?c3 ?c4 ?c5 ?_)
  case c3 => unfold maxLen; have := Hcl.out; omega
  case c4 => have := Hcl.out; omega
  case c5 => have := hb1.size; omega
  intro v' w2 hown' hgrow _
  have hlt : b < w1.heap.size := lt_of_heap hbk
  have hb2 : w2.heap[b]? = some (.cells #[.pointer (some ⟨b, 0, none⟩), v] 105 (0, 0)) := by
    rw [hgrow.block b hlt (fun e => hne e.symm)]
    exact hbk
  have d0 : w2.cell? ⟨b, 0, none⟩ = some (.pointer (some ⟨b, 0, none⟩)) := by rw [Lib.cell_of_heap hb2]; rfl
  have d1 : w2.cell? ⟨b, 1, none⟩ = some v := by rw [Lib.cell_of_heap hb2]; rfl
  have f1 : w2.frozen? ⟨b, 1, none⟩ = false := Lib.frozen_of_heap hb2 1
  obtain ⟨ao, n', cap, rfl⟩ : ∃ ao n' cap, v' = .slice ao n' cap := by
    rcases hown'.2 with ⟨hv, _⟩ | ⟨g, cap, cur, fz, hv, _⟩
    · exact ⟨_, _, _, hv⟩
    · exact ⟨_, _, _, hv⟩
  go_wp2
  refine bodyPost_ret (v := .tuple #[.int .i64 x.length, .nilIface]) (by simp [results, Tryz.results72, go_sem]) rfl ?_
  refine ⟨rfl, ?_, ?_, (hk1.grown hgrow (Lib.ownsRowF_kind hown)).setCell ⟨b, 1, none⟩ rfl _⟩
  · right
    have e : Lib.byteCells (l ++ x) = Lib.byteCells l ++ Lib.strCells (bs x) := by unfold Lib.byteCells Lib.strCells bs; simp
    rw [e]
    exact Lib.BuilderAtF.put (T := 105) (e := 5) hB hb2 (bs' := Lib.byteCells l ++ Lib.strCells (bs x)) (by simpa [Lib.strCells_length, bs_size] using hown') (by decide)
  · exact (hb1.grown hgrow (by have := hb1.size; omega) (fun k hk => (hown.lt k hk).1)).setCell (p := ⟨b, 1, none⟩) hB _
theorem str_any (B b : Nat) (l : List UInt8) (w : World) (h : BAt B b l w) (hBw : B ≤ w.heap.size) :
    Calls Tryz.prog 75 #[.pointer (some ⟨b, 0, none⟩)] w fun e w' => e = .returned (.string (bs l)) ∧ Below B w w' :=
  (Tryz.Builder_String_any_k B b l w h hBw).mono fun _ _ h => ⟨h.1, h.2.2.1⟩
end Go.Proofs.YthcenmocnphnmaaGreatDoor
/-
  Texts: the program's spanText.
-/
namespace Go.Proofs.YthcenmocnphnmaaGreatDoor
open Go.RowKit Go.Shelf

set_option maxRecDepth 100000 in
set_option maxHeartbeats 2000000 in
theorem spanText_any (a b : Int) (w : World) (h : LV w) (ha : -1200000 ≤ a ∧ a ≤ 1200000) (hb : -1200000 ≤ b ∧ b ≤ 1200000) :
    Calls Tryz.prog 74 #[.agg #[.int .i64 a, .int .i64 b]] w fun e w' => e = .returned (.string (bs (spanTxt (a, b)))) ∧ Below w.heap.size w w' := by
  have k1 := it_size a (by omega) (by omega)
  have k2 := it_size b (by omega) (by omega)
  have j4 : ({ data := #[46, 46] } : ByteArray).size = 2 := rfl
  have hB0 : Below w.heap.size w (w.alloc (.cells #[.int .i64 a, .int .i64 b] 34)) := (by repeat (first | exact Below.refl _ _ | assumption | refine Below.drew ?_ | refine Below.drewN' ?_ _ | (refine Below.alloc ?_ (by simp <;> omega) _) | (refine Below.setCell ?_ (by simp <;> omega) _)))
  have HB0 := Lib.hid hB0
  have hb0 : Blk (w.alloc (.cells #[.int .i64 a, .int .i64 b] 34)) w.heap.size 34 #[.int .i64 a, .int .i64 b] := Blk.new' _ _ _ rfl
  have HK0 := Lib.hid hb0
  have HLV := Lib.hid (h.below hB0)
  clear h hB0 hb0
  by_cases hab : a = b
  · subst hab
    have He : Hid (spanTxt (a, a) = Lib.itoa a) := by unfold spanTxt; rw [Hid, if_pos rfl]
    go_enter Tryz.func74, Tryz.ntmps74
    go_wp2_with fail
    refine (itoa_any a (by omega) (by omega) _ HLV.out).mono ?_
    rintro e w1 ⟨rfl, hb1⟩
    have HB1 := Lib.hid (HB0.out.trans (hb1.mono HB0.out.size))
    clear hb1
    go_wp2
    go_ret
    exact ⟨by rw [He.out]; rfl, HB1.out⟩
  · have He : Hid (spanTxt (a, b) = Lib.itoa a ++ ([46, 46] ++ Lib.itoa b)) := by unfold spanTxt; rw [Hid, if_neg hab]
    have HI : Hid (∀ (n : Int) (W : World), -1200000 ≤ n → n ≤ 1200000 → Below (w.heap.size + 1) (w.alloc (.cells #[.int .i64 a, .int .i64 b] 34)) W → Calls Tryz.prog 73 #[.int .i64 n] W fun e w' => e = .returned (.string (bs (Lib.itoa n))) ∧ Hid (Below (w.heap.size + 1) (w.alloc (.cells #[.int .i64 a, .int .i64 b] 34)) w')) := by
      intro n W h0 h1 hW
      refine (itoa_any n (by omega) (by omega) W (HLV.out.below' hW (by simp))).mono ?_
      rintro e w' ⟨rfl, hb1⟩
      exact ⟨rfl, hW.trans (hb1.mono (by have := hW.size; simp at this; omega))⟩
    have hab' : (a == b) = false := by simpa using hab
    have s1 : (bs (Lib.itoa a)).size + ({ data := #[46, 46] } : ByteArray).size ≤ 9223372036854775807 := by omega
    clear hab
    have HC := Lib.hid (Below.drew (Below.refl (w.heap.size + 1) (w.alloc (.cells #[.int .i64 a, .int .i64 b] 34))))
    go_enter Tryz.func74, Tryz.ntmps74
    have e0 := (HK0.out.below HC.out (by omega)).cell 0
    have e1 := (HK0.out.below HC.out (by omega)).cell 1
    simp only [List.getElem?_toArray, List.getElem?_cons_zero, List.getElem?_cons_succ] at e0 e1
    go_upto_region 3 with (fail)
    go_cut [2] from 11 to 19 (fun s wx => s = .string (bs (spanTxt (a, b))) ∧ Below w.heap.size w wx)
    case first =>
      go_region_with
        (first
        | (go_at_call 73; (with_reducible refine (HI.out a _ ha.1 ha.2 HC.out).mono ?_); rintro e Wa ⟨rfl, hb1⟩; clear HC e0 e1; have HC := hb1; clear hb1; have e0 := (HK0.out.below HC.out (by omega)).cell 0; have e1 := (HK0.out.below HC.out (by omega)).cell 1; simp only [List.getElem?_toArray, List.getElem?_cons_zero, List.getElem?_cons_succ] at e0 e1)
        | (go_at_call 73; (with_reducible refine (HI.out b _ hb.1 hb.2 HC.out).mono ?_); rintro e Wb ⟨rfl, hb1⟩; clear HC e0 e1; have HC := hb1; clear hb1; have e0 := (HK0.out.below HC.out (by omega)).cell 0; have e1 := (HK0.out.below HC.out (by omega)).cell 1; simp only [List.getElem?_toArray, List.getElem?_cons_zero, List.getElem?_cons_succ] at e0 e1))
      all_goals
        go_wp2_with fail
        go_meet
        refine ⟨?_, HB0.out.trans (HC.out.mono (by omega))⟩
        show Value.string (bs (Lib.itoa a) ++ bs [46, 46] ++ bs (Lib.itoa b)) = _
        rw [He.out]
        simp only [bs_append, List.append_assoc]
    case rest =>
      obtain ⟨rfl, hbe⟩ := hcut
      have HBe := Lib.hid hbe
      clear hbe
      go_wp2
      go_ret
      exact ⟨rfl, HBe.out⟩
end Go.Proofs.YthcenmocnphnmaaGreatDoor
/-
  Texts: the program's Write.
-/
namespace Go.Proofs.YthcenmocnphnmaaGreatDoor
open Go.RowKit Go.Shelf

theorem bat_new (w : World) : BAt w.heap.size w.heap.size [] (w.alloc (.cells #[.pointer none, .slice none 0 0] 105)) :=
  .inl ⟨Nat.le_refl _, _, heap_alloc_new w _, ⟨rfl, .inl ⟨rfl, rfl⟩⟩, by simp [Value.ownBlock]⟩
theorem wstr_of (B b : Nat) (l x : List UInt8) (y : ByteArray) (hy : y = bs x) (w : World) (h : BAt B b l w) (hlen : l.length + x.length ≤ 140737488355328) (hBw : B ≤ w.heap.size) :
    Calls Tryz.prog 72 #[.pointer (some ⟨b, 0, none⟩), .string y] w fun e w' => e = .returned (.tuple #[.int .i64 x.length, .nilIface]) ∧ BAt B b (l ++ x) w' ∧ Below B w w' ∧ OKept b w w' := by
  subst hy
  exact wstr_any B b l x w h hlen hBw
theorem blk_kept {b g : Nat} {w w' : World} {t : TypeId} {cs : Array Value} (h : Blk w g t cs) (hk : OKept b w w') (hg : g ≠ b) (ht : t ≠ 5) : Blk w' g t cs :=
  hk g _ h (fun e => hg (Option.some.inj e)) (fun c fz e => by injection e with _ e; exact ht e)
/-- what stands while a text is written: the builder in block b, and all that lay below it -/
structure WrSt (b : Nat) (w0 w : World) (l : List UInt8) : Prop where
  bat : BAt b b l w
  bel : Below b w0 w
  lt : b < w.heap.size
theorem WrSt.alloc {b : Nat} {w0 w : World} {l : List UInt8} (h : WrSt b w0 w l) (o : Obj) : WrSt b w0 (w.alloc o) l := ⟨h.bat.alloc o, h.bel.alloc (Nat.le_of_lt h.lt) o, by simp; have := h.lt; omega⟩
theorem bat_below {B b : Nat} {l : List UInt8} {w w' : World} (h : BAt B b l w) (hb : Below w.heap.size w w') : BAt B b l w' := by
  have key : ∀ p, Lib.BuilderAtF 105 5 B b p (Lib.byteCells l) w → Lib.BuilderAtF 105 5 B b p (Lib.byteCells l) w' := by
    rintro p ⟨h1, v, h2, h3, h4⟩
    have hlt := lt_of_heap h2
    refine ⟨h1, v, (hb.block b hlt).trans h2, ?_, h4⟩
    refine ⟨h3.1, ?_⟩
    rcases h3.2 with h5 | ⟨g, cap, cur, fz, e, h6, h7, r⟩
    · exact .inl h5
    · exact .inr ⟨g, cap, cur, fz, e, h6, (hb.block g (lt_of_heap h7)).trans h7, r⟩
  exact h.elim (fun x => .inl (key _ x)) (fun x => .inr (key _ x))
theorem WrSt.below {b : Nat} {w0 w w' : World} {l : List UInt8} (h : WrSt b w0 w l) (hb : Below w.heap.size w w') : WrSt b w0 w' l := ⟨bat_below h.bat hb, h.bel.trans (hb.mono (Nat.le_of_lt h.lt)), Nat.lt_of_lt_of_le h.lt hb.size⟩
/-- the call of WriteString -/
theorem WrSt.put {b : Nat} {w0 w : World} {l : List UInt8} (h : WrSt b w0 w l) (x : List UInt8) (y : ByteArray) (hy : y = bs x) (hlen : l.length + x.length ≤ 140737488355328) :
    Calls Tryz.prog 72 #[.pointer (some ⟨b, 0, none⟩), .string y] w fun e w' => e = .returned (.tuple #[.int .i64 x.length, .nilIface]) ∧ WrSt b w0 w' (l ++ x) ∧ OKept b w w' := by
  refine (wstr_of b b l x y hy w h.bat hlen (Nat.le_of_lt h.lt)).mono ?_
  rintro e w' ⟨rfl, h1, h2, h3⟩
  refine ⟨rfl, ⟨h1, h.bel.trans h2, ?_⟩, h3⟩
  rcases h1 with h1 | h1 <;> exact h1.lt

theorem bs_plus (x : List UInt8) : ({ data := #[32] } : ByteArray) ++ bs x = bs ([32] ++ x) := bs_append [32] x
/-- the three numbers of the head -/
def headUp (g : G) (k : Nat) : List UInt8 := [103, 114, 105, 100] ++ ((if 0 < k then [32] ++ Lib.itoa g.W else []) ++ ((if 1 < k then [32] ++ Lib.itoa g.H else []) ++ (if 2 < k then [32] ++ Lib.itoa g.S else [])))
def numAt (g : G) (k : Nat) : Int := if k = 0 then g.W else if k = 1 then g.H else g.S
theorem headUp_snoc (g : G) (k : Nat) (h : k < 3) : headUp g (k + 1) = headUp g k ++ ([32] ++ Lib.itoa (numAt g k)) := by
  have : k = 0 ∨ k = 1 ∨ k = 2 := by omega
  rcases this with rfl | rfl | rfl <;> simp [headUp, numAt]
theorem headUp_all (g : G) : headUp g 3 = headT g := rfl

theorem it_len (n : Int) (h0 : -9223372036854775808 ≤ n) (h1 : n ≤ 9223372036854775807) : (Lib.itoa n).length ≤ 21 := Lib.itoa_length_le _ h0 h1
theorem headUp_len (g : G) (V : Valid g) (k : Nat) : (headUp g k).length ≤ 100 := by
  have g1 := V.w1
  have g2 := V.w2
  have g3 := V.h1
  have g4 := V.h2
  have g5 := V.s1
  have g6 := V.s2
  have i1 := it_len g.W (by omega) (by omega)
  have i2 := it_len g.H (by omega) (by omega)
  have i3 := it_len g.S (by omega) (by omega)
  unfold headUp
  simp only [List.length_append, List.length_cons, List.length_nil]
  split <;> split <;> split <;> simp only [List.length_append, List.length_cons, List.length_nil] <;> omega
theorem span_ok {g : G} (V : Valid g) {q : Nat} (h : q < g.ss.length) : (-1200000 ≤ g.ss[q].1 ∧ g.ss[q].1 ≤ 1200000) ∧ (-1200000 ≤ g.ss[q].2 ∧ g.ss[q].2 ≤ 1200000) := by
  have Hok := ok_of V h
  rw [(lo_at h).1, (lo_at h).2] at Hok
  omega
theorem spanTxt_len (s : Int × Int) (h1 : -1200000 ≤ s.1 ∧ s.1 ≤ 1200000) (h2 : -1200000 ≤ s.2 ∧ s.2 ≤ 1200000) : (spanTxt s).length ≤ 45 := by
  have i1 := it_len s.1 (by omega) (by omega)
  have i2 := it_len s.2 (by omega) (by omega)
  unfold spanTxt
  split
  · omega
  · simp only [List.length_append, List.length_cons, List.length_nil]
    omega
theorem preTxt_snoc (W : Int) (l : List (Int × Int)) (q : Nat) (h : q < l.length) : preTxt W (l.take (q + 1)) 0 = preTxt W (l.take q) 0 ++ (sepOf W q ++ spanTxt l[q]) := by
  rw [take_snoc l q h, preTxt_append]
  simp only [preTxt, List.append_nil, List.length_take, Nat.zero_add]
  rw [Nat.min_eq_left (by omega)]
theorem preTxt_len (g : G) (V : Valid g) : ∀ q, q ≤ g.ss.length → (preTxt g.W (g.ss.take q) 0).length ≤ 50 * q := by
  intro q
  induction q with
  | zero => intro _; simp [preTxt]
  | succ q ih =>
    intro h
    have h' : q < g.ss.length := by omega
    rw [preTxt_snoc g.W g.ss q h', List.length_append, List.length_append]
    have h1 := ih (by omega)
    have h2 := spanTxt_len _ (span_ok V h').1 (span_ok V h').2
    have h3 : (sepOf g.W q).length = 1 := by unfold sepOf; split <;> rfl
    omega
theorem len_mod {g : G} (V : Valid g) : (g.ss.length : Int) % g.W = 0 := by
  have := V.len
  rw [this]
  exact Int.mul_emod_right _ _

set_option maxRecDepth 100000 in
set_option maxHeartbeats 4000000 in
theorem Write_any (x : Value) (g : G) (w : World) (hg : GridAt w w.heap.size x g) (hv : LV w) :
    Calls Tryz.prog 35 #[x] w fun e w' => e = .returned (.tuple #[.string (bs (writeR g).1), .int .i64 (writeR g).2]) ∧ Below w.heap.size w w' := by
  have HG := Lib.hid hg
  obtain ⟨v, rfl, hs⟩ := hg
  obtain ⟨A, k, rfl, hk, hm⟩ := hs.open_
  have HS := Lib.hid hs
  have hB : Below w.heap.size w (w.alloc (.cells #[.int .i64 g.W, .int .i64 g.H, .int .i64 g.S, .slice A g.ss.length k] 24)) := (by repeat (first | exact Below.refl _ _ | assumption | refine Below.drew ?_ | refine Below.drewN' ?_ _ | (refine Below.alloc ?_ (by simp <;> omega) _) | (refine Below.setCell ?_ (by simp <;> omega) _)))
  have HB := Lib.hid hB
  have HLV := Lib.hid hv
  have b0 : Blk (w.alloc (.cells #[.int .i64 g.W, .int .i64 g.H, .int .i64 g.S, .slice A g.ss.length k] 24)) w.heap.size 24 #[.int .i64 g.W, .int .i64 g.H, .int .i64 g.S, .slice A g.ss.length k] := Blk.new' _ _ _ rfl
  have HBB := Lib.hid b0
  clear hs hB b0 hv
  go_enter Tryz.func35, Tryz.ntmps35
  go_wp2_with fail
  refine (check_any _ g _ (HG.out.later HB.out (Nat.le_refl _))).mono ?_
  rintro e w1 ⟨rfl, hb1⟩
  have HB1 := Lib.hid (HB.out.trans (hb1.mono HB.out.size))
  have hn1 : w.heap.size + 1 ≤ w1.heap.size := by have := hb1.size; simpa using this
  have HBB1 := Lib.hid (HBB.out.below hb1 (by simp <;> omega))
  clear hb1
  by_cases h0 : checkE g = 0
  case neg =>
    have He : Hid ((([] : List UInt8), checkE g) = writeR g) := by unfold writeR; rw [Hid, if_neg h0]
    have hb : (checkE g != 0) = true := by simpa using h0
    clear h0
    go_wp2
    refine bodyPost_ret (v := .tuple #[.string ⟨#[]⟩, .int .i64 (checkE g)]) (by simp [results, Tryz.results35, go_sem]) rfl ?_
    exact ⟨by rw [← He.out]; rfl, HB1.out⟩
  have hb : (checkE g != 0) = false := by simpa using h0
  have He : Hid ((gridTxt g, (0 : Int)) = writeR g) := by unfold writeR; rw [Hid, if_pos h0]
  have V := valid_of h0
  have HV := Lib.hid V
  have hps := V.pos
  have hsm := V.small
  have g1 := V.w1
  have g2 := V.w2
  have g3 := V.h1
  have g4 := V.h2
  have g5 := V.s1
  have g6 := V.s2
  clear h0 V
  have HN := Lib.hid (bat_new w1)
  have HW1 : Hid (WrSt w1.heap.size w1 (w1.alloc (.cells #[.pointer none, .slice none 0 0] 105)) []) := ⟨HN.out, (by repeat (first | exact Below.refl _ _ | assumption | refine Below.drew ?_ | refine Below.drewN' ?_ _ | (refine Below.alloc ?_ (by simp <;> omega) _) | (refine Below.setCell ?_ (by simp <;> omega) _))), by simp⟩
  go_wp2_with fail
  refine (HW1.out.put [103, 114, 105, 100] _ rfl (by decide)).mono ?_
  rintro e w2 ⟨rfl, hw2, hk2⟩
  clear HW1 HN hk2
  have HW2 := Lib.hid hw2
  have HBB2 := Lib.hid (HBB1.out.below hw2.bel (by omega))
  have hlt2 := hw2.lt
  clear hw2
  obtain ⟨d0, d1, d2, d3⟩ := grid_parts HBB2.out
  have HA : Hid (Blk (w2.alloc (.cells #[.int .i64 g.W, .int .i64 g.H, .int .i64 g.S] 3)) w2.heap.size 3 #[.int .i64 g.W, .int .i64 g.H, .int .i64 g.S]) := Blk.new' _ _ _ rfl
  have hab : ¬ w2.heap.size = w1.heap.size := by omega
  go_wp2
  go_loopw [24] (fun iv wr => ∃ i : Nat, i ≤ 3 ∧ iv = .int .i64 i ∧ Hid (WrSt w1.heap.size w1 wr (headUp g i)) ∧ Hid (Blk wr w2.heap.size 3 #[.int .i64 g.W, .int .i64 g.H, .int .i64 g.S])) (fun i _ => 3 - (intOf i).toNat)
  case atStart => exact ⟨0, by omega, rfl, HW2.out.alloc _, HA.out⟩
  case round =>
    obtain ⟨i, hi, rfl, Hst, Har⟩ := hrel
    clear HW2 HBB2 HA d0 d1 d2 d3
    generalize wr = wo at *
    by_cases hlt : i < 3
    · have hlt' : (i : Int) < 3 := by omega
      have hi0 : (0 : Int) ≤ (i : Int) := by omega
      have hc : wo.cell? ⟨w2.heap.size, i, none⟩ = some (.int .i64 (numAt g i)) := by
        rw [Har.out.cell i]
        have : i = 0 ∨ i = 1 ∨ i = 2 := by omega
        rcases this with rfl | rfl | rfl <;> rfl
      have hr : -10000 ≤ numAt g i ∧ numAt g i ≤ 10000 := by unfold numAt; split <;> (try split) <;> omega
      have Hsn := Lib.hid (headUp_snoc g i hlt)
      have Hlen := Lib.hid (headUp_len g HV.out i)
      generalize numAt g i = n at *
      have k1 := it_size n (by omega) (by omega)
      have k2 := it_len n (by omega) (by omega)
      have k3 : ({ data := #[32] } : ByteArray).size + (bs (Lib.itoa n)).size ≤ 9223372036854775807 := by have : ({ data := #[32] } : ByteArray).size = 1 := rfl; omega
      have HLo := Lib.hid (HLV.out.below (HB1.out.trans (Hst.out.bel.mono (by omega))))
      go_wp2_with fail
      refine (itoa_any n (by omega) (by omega) _ HLo.out).mono ?_
      rintro e w3 ⟨rfl, hb3⟩
      have Hst3 := Lib.hid (Hst.out.below hb3)
      have Har3 := Lib.hid (Har.out.below hb3 Har.out.lt)
      clear hb3
      go_wp2_with fail
      refine (Hst3.out.put _ _ (bs_plus _) (by have := Hlen.out; simp; omega)).mono ?_
      rintro e w4 ⟨rfl, hw4, hk4⟩
      have Hst4 := Lib.hid hw4
      have Har4 := Lib.hid (blk_kept Har3.out hk4 hab (by decide))
      clear hw4 hk4
      go_wp2
      go_roundw
      case rel => exact ⟨i + 1, by omega, by go_num, by rw [Hid, Hsn.out]; exact Hst4.out, Har4.out⟩
      case measure => simp [intOf] <;> omega
    · have hi3 : i = 3 := by omega
      subst hi3
      have Hs := Lib.hid (show WrSt w1.heap.size w1 wo (headT g ++ preTxt g.W (g.ss.take 0) 0) by have := Hst.out; rw [headUp_all] at this; simpa [preTxt] using this)
      clear Har Hst hlt hi
      have HBB0 := Lib.hid (HBB1.out.below Hs.out.bel (by omega))
      obtain ⟨d0, d1, d2, d3⟩ := grid_parts HBB0.out
      clear HBB0
      go_wp2
      clear d0 d1 d2 d3
      go_loopw [36] (fun iv wr => ∃ q : Nat, q ≤ g.ss.length ∧ iv = .int .i64 q ∧ Hid (WrSt w1.heap.size w1 wr (headT g ++ preTxt g.W (g.ss.take q) 0))) (fun i _ => g.ss.length - (intOf i).toNat)
      case atStart => exact ⟨0, by omega, rfl, Hs.out⟩
      case round =>
        obtain ⟨q, hq, rfl, Hst⟩ := hrel
        clear Hs
        have HBw := Lib.hid (HB1.out.trans (Hst.out.bel.mono (by omega)))
        obtain ⟨d0, d1, d2, d3⟩ := grid_parts (HBB1.out.below Hst.out.bel (by omega))
        have hsz : w1.heap.size < wr.heap.size := Hst.out.lt
        have Hl2 := Lib.hid (preTxt_len g HV.out q hq)
        have Hl1 := Lib.hid (show (headT g).length ≤ 100 from headUp_len g HV.out 3)
        have Hlt : Hid ((headT g ++ preTxt g.W (g.ss.take q) 0).length ≤ 100 + 50 * q) := by rw [Hid, List.length_append]; have := Hl1.out; have := Hl2.out; omega
        clear Hl1 Hl2
        by_cases hlt : q < g.ss.length
        · obtain ⟨bb, off, rfl, hbb, c1, c2⟩ := (HS.out.below HBw.out).at_ hlt
          have Hsn := Lib.hid (preTxt_snoc g.W g.ss q hlt)
          have hok := span_ok HV.out hlt
          generalize g.ss[q] = p at *
          obtain ⟨a, b⟩ := p
          simp only at c1 c2 hok
          have hk1 := spanTxt_len (a, b) hok.1 hok.2
          have n1 : w.heap.size < wr.heap.size := by omega
          have n2 : ¬ w.heap.size = wr.heap.size := by omega
          have hw0 : g.W ≠ 0 := by omega
          have nbx : ¬ wr.heap.size = w1.heap.size := by omega
          have Hst1 : Hid (WrSt w1.heap.size w1 (wr.alloc (.cells #[.int .i64 a, .int .i64 b] 34)) (headT g ++ preTxt g.W (g.ss.take q) 0)) := Hst.out.alloc _
          have Hbx : Hid (Blk (wr.alloc (.cells #[.int .i64 a, .int .i64 b] 34)) wr.heap.size 34 #[.int .i64 a, .int .i64 b]) := Blk.new' _ _ _ rfl
          clear Hst
          by_cases hr : (q : Int) % g.W = 0
          · have Hsep : Hid (sepOf g.W q = [10]) := by unfold sepOf; rw [Hid, if_pos hr]
            go_wp2_with fail
            refine (Hst1.out.put [10] _ rfl (by have := Hlt.out; simp only [List.length_cons, List.length_nil]; omega)).mono ?_
            rintro e w5 ⟨rfl, hw5, hk5⟩
            have Hst5 := Lib.hid hw5
            have Hbx5 := Lib.hid (blk_kept Hbx.out hk5 nbx (by decide))
            clear hw5 hk5 d0 d1 d2 d3 c1 c2
            have e0 := Hbx5.out.cell 0
            have e1 := Hbx5.out.cell 1
            simp only [List.getElem?_toArray, List.getElem?_cons_zero, List.getElem?_cons_succ] at e0 e1
            have HL5 := Lib.hid (HLV.out.below (HB1.out.trans (Hst5.out.bel.mono (by omega))))
            go_wp2_with fail
            refine (spanText_any a b _ HL5.out hok.1 hok.2).mono ?_
            rintro e w6 ⟨rfl, hb6⟩
            have Hst6 := Lib.hid (Hst5.out.below hb6)
            clear hb6
            go_wp2_with fail
            refine (Hst6.out.put _ _ rfl (by have := Hlt.out; simp only [List.length_append, List.length_cons, List.length_nil] at this ⊢; omega)).mono ?_
            rintro e w7 ⟨rfl, hw7, -⟩
            have Hst7 := Lib.hid hw7
            clear hw7
            go_wp2
            go_roundw
            case rel =>
              (repeat apply Exists.intro)
              refine ⟨?_, rfl⟩
              exact ⟨q + 1, by omega, by go_num, by rw [Hid, Hsn.out, Hsep.out, ← List.append_assoc, ← List.append_assoc]; exact Hst7.out⟩
            case measure => simp [intOf] <;> omega
          · have Hsep : Hid (sepOf g.W q = [32]) := by unfold sepOf; rw [Hid, if_neg hr]
            go_wp2_with fail
            refine (Hst1.out.put [32] _ rfl (by have := Hlt.out; simp only [List.length_cons, List.length_nil]; omega)).mono ?_
            rintro e w5 ⟨rfl, hw5, hk5⟩
            have Hst5 := Lib.hid hw5
            have Hbx5 := Lib.hid (blk_kept Hbx.out hk5 nbx (by decide))
            clear hw5 hk5 d0 d1 d2 d3 c1 c2
            have e0 := Hbx5.out.cell 0
            have e1 := Hbx5.out.cell 1
            simp only [List.getElem?_toArray, List.getElem?_cons_zero, List.getElem?_cons_succ] at e0 e1
            have HL5 := Lib.hid (HLV.out.below (HB1.out.trans (Hst5.out.bel.mono (by omega))))
            go_wp2_with fail
            refine (spanText_any a b _ HL5.out hok.1 hok.2).mono ?_
            rintro e w6 ⟨rfl, hb6⟩
            have Hst6 := Lib.hid (Hst5.out.below hb6)
            clear hb6
            go_wp2_with fail
            refine (Hst6.out.put _ _ rfl (by have := Hlt.out; simp only [List.length_append, List.length_cons, List.length_nil] at this ⊢; omega)).mono ?_
            rintro e w7 ⟨rfl, hw7, -⟩
            have Hst7 := Lib.hid hw7
            clear hw7
            go_wp2
            go_roundw
            case rel =>
              (repeat apply Exists.intro)
              refine ⟨?_, rfl⟩
              exact ⟨q + 1, by omega, by go_num, by rw [Hid, Hsn.out, Hsep.out, ← List.append_assoc, ← List.append_assoc]; exact Hst7.out⟩
            case measure => simp [intOf] <;> omega
        · have hqe : q = g.ss.length := by omega
          have HE : Hid (headT g ++ preTxt g.W (g.ss.take q) 0 ++ [10] = gridTxt g) := by rw [Hid, hqe, List.take_length, progTxt_eq g (len_mod HV.out)]
          clear hqe d0 d1 d2 d3
          go_wp2_with fail
          refine (Hst.out.put [10] _ rfl (by have := Hlt.out; simp only [List.length_cons, List.length_nil]; omega)).mono ?_
          rintro e w5 ⟨rfl, hw5, -⟩
          rw [HE.out] at hw5
          have Hst5 := Lib.hid hw5
          clear hw5
          go_wp2_with fail
          refine (str_any _ _ _ _ Hst5.out.bat (Nat.le_of_lt Hst5.out.lt)).mono ?_
          rintro e w6 ⟨rfl, hb6⟩
          have HB6 := Lib.hid (HB1.out.trans ((Hst5.out.bel.mono (by omega)).trans (hb6.mono (by omega))))
          clear hb6
          go_wp2
          refine bodyPost_ret (v := .tuple #[.string (bs (gridTxt g)), .int .i64 0]) (by simp [results, Tryz.results35, go_sem]) rfl ?_
          exact ⟨by rw [← He.out], HB6.out⟩
end Go.Proofs.YthcenmocnphnmaaGreatDoor
