/-
  Texts: the program's Read; both Reads meet.
-/
import Derived.Test.YthcenmocnphnmaaGreatDoorNB
import Derived.Test.YthcenmocnphnmaaGreatDoorMZ
import Derived.Test.YthcenmocnphnmaaGreatDoorMY
import Derived.Test.YthcenmocnphnmaaGreatDoorMN
import Derived.Test.YthcenmocnphnmaaGreatDoorMK
set_option linter.unusedSimpArgs false
set_option linter.unusedVariables false
namespace Go.Proofs.YthcenmocnphnmaaGreatDoor
open Go.RowKit Go.Shelf

theorem writeR_ok {g : G} {s : List UInt8} (h : writeR g = (s, 0)) : Valid g ∧ gridTxt g = s := by
  unfold writeR at h
  by_cases h0 : checkE g = 0
  · rw [if_pos h0] at h
    exact ⟨valid_of h0, congrArg Prod.fst h⟩
  · rw [if_neg h0] at h
    exact absurd (congrArg Prod.snd h) h0
theorem span_mem_ok {g : G} (V : Valid g) : ∀ s ∈ g.ss, (-1200000 ≤ s.1 ∧ s.1 ≤ 1200000) ∧ (-1200000 ≤ s.2 ∧ s.2 ≤ 1200000) := fun s hs => by
  obtain ⟨q, h, rfl⟩ := List.getElem_of_mem hs
  exact span_ok V h
theorem parseP_of {g : G} {s : List UInt8} (h : writeR g = (s, 0)) : parseP s = some g := by
  obtain ⟨V, rfl⟩ := writeR_ok h
  exact parseP_txt g V.w1 V.w2 V.h1 V.h2 V.s1 V.s2 (span_mem_ok V)
theorem parseR_of {g : G} {s : List UInt8} (h : writeR g = (s, 0)) : parseR s = some g := by
  obtain ⟨V, rfl⟩ := writeR_ok h
  exact parseR_txt g V.w1 V.w2 V.h1 V.h2 V.s1 V.s2 (len_mod V) (span_mem_ok V)
theorem readOfP_if {p : Option G} {s : List UInt8} (hl : ¬ 65536 < s.length) (h : ∀ g, p = some g → writeR g ≠ (s, 0)) : readOfP p s = (zeroG, 7) := by
  unfold readOfP
  rw [if_neg hl]
  cases p with
  | none => rfl
  | some g => exact if_neg (h g rfl)
theorem readOfP_yes {p : Option G} {s : List UInt8} {g : G} (hl : ¬ 65536 < s.length) (hp : p = some g) (h : writeR g = (s, 0)) : readOfP p s = (g, 0) := by
  subst hp
  unfold readOfP
  rw [if_neg hl]
  exact if_pos h
theorem read_meets (s : List UInt8) : readOfP (parseP s) s = readOfP (parseR s) s := by
  by_cases hl : 65536 < s.length
  · unfold readOfP
    rw [if_pos hl, if_pos hl]
  · by_cases he : ∃ g, writeR g = (s, 0)
    · obtain ⟨g, hg⟩ := he
      rw [readOfP_yes hl (parseP_of hg) hg, readOfP_yes hl (parseR_of hg) hg]
    · rw [readOfP_if hl (fun g _ h => he ⟨g, h⟩), readOfP_if hl (fun g _ h => he ⟨g, h⟩)]

set_option maxRecDepth 100000 in
set_option maxHeartbeats 4000000 in
theorem Read_any (s : List UInt8) (w : World) (hv : LV w) (hs : s.length ≤ 9223372036854775000) :
    Calls Tryz.prog 37 #[.string (bs s)] w (ReadOut (readOfP (parseP s) s) w) := by
  have hz : (bs s).size = s.length := bs_size s
  have hB0 : Below w.heap.size w (w.alloc (.cells #[.int .i64 0, .int .i64 0, .int .i64 0, .slice none 0 0] 24)) := (by repeat (first | exact Below.refl _ _ | assumption | refine Below.drew ?_ | refine Below.drewN' ?_ _ | (refine Below.alloc ?_ (by simp <;> omega) _) | (refine Below.setCell ?_ (by simp <;> omega) _)))
  have HB0 := Lib.hid hB0
  have hb0 : Blk (w.alloc (.cells #[.int .i64 0, .int .i64 0, .int .i64 0, .slice none 0 0] 24)) w.heap.size 24 #[.int .i64 0, .int .i64 0, .int .i64 0, .slice none 0 0] := Blk.new' _ _ _ rfl
  have HK0 := Lib.hid hb0
  have HLV := Lib.hid hv
  clear hB0 hb0 hv
  go_enter Tryz.func37, Tryz.ntmps37
  by_cases hlong : 65536 < s.length
  · have He : Hid (readOfP (parseP s) s = (zeroG, 8)) := by unfold readOfP; rw [Hid, if_pos hlong]; rfl
    have hl' : (65536 : Int) < s.length := by omega
    obtain ⟨⟨z0, z1, z2, z3⟩, f0, f1, f2, f3⟩ := zero_parts HK0.out
    clear hlong
    go_wp2
    refine bodyPost_ret (v := .tuple #[.agg #[.int .i64 0, .int .i64 0, .int .i64 0, .slice none 0 0], .int .i64 8]) (by simp [results, Tryz.results37, go_sem, z0, z1, z2, z3, f0, f1, f2, f3]) rfl ?_
    rw [He.out]
    exact ⟨_, rfl, grid_zero _ _, HB0.out.trans (by repeat (first | exact Below.refl _ _ | assumption | refine Below.drew ?_ | refine Below.drewN' ?_ _ | (refine Below.alloc ?_ (by simp <;> omega) _) | (refine Below.setCell ?_ (by simp <;> omega) _)))⟩
  have hl' : ¬ (65536 : Int) < s.length := by omega
  have hlen : s.length ≤ 65536 := by omega
  have HN := Lib.hid hlong
  clear hlong
  go_wp2_with fail
  refine (parse_any s _ (HLV.out.below HB0.out) hlen).mono ?_
  rintro e w1 ⟨v, rfl, hx, hfr, hb1⟩
  have HB1 := Lib.hid (HB0.out.trans (hb1.mono HB0.out.size))
  have hn1 : w.heap.size + 1 ≤ w1.heap.size := by have := hb1.size; simpa using this
  have HK1 := Lib.hid (HK0.out.below hb1 (by simp <;> omega))
  clear hb1
  obtain ⟨p, hp⟩ : ∃ p, parseP s = p := ⟨_, rfl⟩
  rw [hp] at hx
  rw [hp]
  have HFr := Lib.hid hfr
  clear hfr
  have HP := Lib.hid hp
  clear hp
  have hwn : w.heap.size < w1.heap.size := by omega
  have hwm : ¬ w.heap.size = w1.heap.size := by omega
  cases p with
  | none =>
    have He : Hid (readOfP none s = (zeroG, 7)) := readOfP_if HN.out (fun g h => by cases h)
    obtain ⟨Av, cv, rfl, _, _⟩ := hx.open_
    obtain ⟨⟨z0, z1, z2, z3⟩, f0, f1, f2, f3⟩ := zero_parts HK1.out
    clear hx
    simp only [Option.isSome_none, Option.getD_none]
    go_wp2
    refine bodyPost_ret (v := .tuple #[.agg #[.int .i64 0, .int .i64 0, .int .i64 0, .slice none 0 0], .int .i64 7]) (by simp [results, Tryz.results37, go_sem, z0, z1, z2, z3, f0, f1, f2, f3, hwn, hwm]) rfl ?_
    rw [HP.out, He.out]
    exact ⟨_, rfl, grid_zero _ _, HB1.out.trans (by repeat (first | exact Below.refl _ _ | assumption | refine Below.drew ?_ | refine Below.drewN' ?_ _ | (refine Below.alloc ?_ (by simp <;> omega) _) | (refine Below.setCell ?_ (by simp <;> omega) _)))⟩
  | some g =>
    have hs1 : SpansAt w1 w1.heap.size v g.ss := hx
    clear hx
    obtain ⟨Av, cv, rfl, _, _⟩ := hs1.open_
    have HX := Lib.hid (show GridAt w1 w1.heap.size (.agg #[.int .i64 g.W, .int .i64 g.H, .int .i64 g.S, .slice Av g.ss.length cv]) g from ⟨_, rfl, hs1⟩)
    simp only [Option.isSome_some, Option.getD_some]
    have HS1 := Lib.hid hs1
    have hb2 : Below w1.heap.size w1 (w1.alloc (.cells #[.int .i64 g.W, .int .i64 g.H, .int .i64 g.S, .slice Av g.ss.length cv] 24)) := (by repeat (first | exact Below.refl _ _ | assumption | refine Below.drew ?_ | refine Below.drewN' ?_ _ | (refine Below.alloc ?_ (by simp <;> omega) _) | (refine Below.setCell ?_ (by simp <;> omega) _)))
    have HB2 := Lib.hid hb2
    have hG2 : Blk (w1.alloc (.cells #[.int .i64 g.W, .int .i64 g.H, .int .i64 g.S, .slice Av g.ss.length cv] 24)) w1.heap.size 24 #[.int .i64 g.W, .int .i64 g.H, .int .i64 g.S, .slice Av g.ss.length cv] := Blk.new' _ _ _ rfl
    have HG2 := Lib.hid hG2
    clear hs1 hb2 hG2
    go_wp2_with fail
    refine (Write_any _ g _ (HX.out.later HB2.out (Nat.le_refl _)) (HLV.out.below (HB1.out.trans (HB2.out.mono HB1.out.size)))).mono ?_
    rintro e w3 ⟨rfl, hb3⟩
    have HB3 := Lib.hid ((HB1.out.trans (HB2.out.mono HB1.out.size)).trans (hb3.mono (by simp; omega)))
    have HK3 := Lib.hid ((HK1.out.below HB2.out (by omega)).below hb3 (by simp; omega))
    have HG3 := Lib.hid (HG2.out.below hb3 (by simp))
    have HS3 := Lib.hid ((HS1.out.below HB2.out).below (hb3.mono (by simp)))
    have hn3 : w1.heap.size + 1 ≤ w3.heap.size := by have := hb3.size; simpa using this
    clear hb3
    obtain ⟨y0, y1, y2, y3⟩ := grid_parts HG3.out
    obtain ⟨⟨z0, z1, z2, z3⟩, f0, f1, f2, f3⟩ := zero_parts HK3.out
    have hwo : ¬ w1.heap.size = w.heap.size := by omega
    obtain ⟨r, hr⟩ : ∃ r, writeR g = r := ⟨_, rfl⟩
    rw [hr]
    have HR := Lib.hid hr
    clear hr
    obtain ⟨t, ec⟩ := r
    by_cases h0 : ec = 0
    · by_cases ht : t = s
      · subst h0
        subst ht
        have Hf := Lib.hid (readOfP_yes HN.out rfl HR.out)
        have hs1 : ((bs t).toList == (bs t).toList) = true := by simp
        have hs2 : ((bs t).toList != (bs t).toList) = false := by simp
        go_wp2
        refine bodyPost_ret (v := .tuple #[.agg #[.int .i64 g.W, .int .i64 g.H, .int .i64 g.S, .slice Av g.ss.length cv], .int .i64 0]) (by simp [results, Tryz.results37, go_sem, z0, z1, z2, z3, f0, f1, f2, f3]) rfl ?_
        rw [HP.out, Hf.out]
        refine ⟨_, rfl, ⟨_, rfl, ?_⟩, HB3.out.trans (by repeat (first | exact Below.refl _ _ | assumption | refine Below.drew ?_ | refine Below.drewN' ?_ _ | (refine Below.alloc ?_ (by simp <;> omega) _) | (refine Below.setCell ?_ (by simp <;> omega) _)))⟩
        refine SpansAt.more (B := w1.heap.size) ?_ (by simp [World.setCell]; omega)
        have hfr : Fresh (w.heap.size + 1) (Value.slice Av g.ss.length cv) := by have := HFr.out; simpa using this
        repeat (refine spans_set ?_ hfr (by exact Nat.lt_succ_self _) _)
        exact HS3.out
      · have hs1 : ((bs t).toList == (bs s).toList) = false := by rw [bs_toList, bs_toList, beq_dec]; exact decide_eq_false ht
        have hs2 : ((bs t).toList != (bs s).toList) = true := by unfold bne; rw [hs1]; rfl
        have Hf : Hid (readOfP (some g) s = (zeroG, 7)) := readOfP_if HN.out (fun g' hg' h => by
          injection hg' with hg'
          subst hg'
          rw [HR.out] at h
          exact ht (congrArg Prod.fst h))
        subst h0
        clear ht
        go_wp2
        refine bodyPost_ret (v := .tuple #[.agg #[.int .i64 0, .int .i64 0, .int .i64 0, .slice none 0 0], .int .i64 7]) (by simp [results, Tryz.results37, go_sem, z0, z1, z2, z3, f0, f1, f2, f3]) rfl ?_
        rw [HP.out, Hf.out]
        exact ⟨_, rfl, grid_zero _ _, HB3.out.trans (by repeat (first | exact Below.refl _ _ | assumption | refine Below.drew ?_ | refine Below.drewN' ?_ _ | (refine Below.alloc ?_ (by simp <;> omega) _) | (refine Below.setCell ?_ (by simp <;> omega) _)))⟩
    · have he : (ec != 0) = true := by simpa using h0
      have Hf : Hid (readOfP (some g) s = (zeroG, 7)) := readOfP_if HN.out (fun g' hg' h => by
        injection hg' with hg'
        subst hg'
        rw [HR.out] at h
        exact h0 (congrArg Prod.snd h))
      clear h0
      go_wp2
      refine bodyPost_ret (v := .tuple #[.agg #[.int .i64 0, .int .i64 0, .int .i64 0, .slice none 0 0], .int .i64 7]) (by simp [results, Tryz.results37, go_sem, z0, z1, z2, z3, f0, f1, f2, f3]) rfl ?_
      rw [HP.out, Hf.out]
      exact ⟨_, rfl, grid_zero _ _, HB3.out.trans (by repeat (first | exact Below.refl _ _ | assumption | refine Below.drew ?_ | refine Below.drewN' ?_ _ | (refine Below.alloc ?_ (by simp <;> omega) _) | (refine Below.setCell ?_ (by simp <;> omega) _)))⟩
end Go.Proofs.YthcenmocnphnmaaGreatDoor
/-
  The examples of the chapter without any program: what sills, ponds and tightened grids of the row of four cells are.
-/
namespace Go.Proofs.YthcenmocnphnmaaGreatDoor
open Go.RowKit Go.Shelf

section
variable (nb : Nat → List Nat) (S : List Nat) (fst : Nat → Int) (nx : Int → Nat → Int)
/-- ways in their order, each with the cell that it comes from -/
def chkW (vs : List Int) : List (Option Nat × Nat) → List Nat → Bool
  | [], _ => true
  | (none, c) :: r, dn => decide (c ∈ S ∧ fst c = val vs c) && chkW vs r (c :: dn)
  | (some p, c) :: r, dn => decide (p ∈ dn ∧ c ∈ nb p ∧ nx (val vs p) c = val vs c) && chkW vs r (c :: dn)
theorem chkW_way (vs : List Int) : ∀ (l : List (Option Nat × Nat)) (dn : List Nat), (∀ c, c ∈ dn → Way nb S fst nx c (val vs c)) → chkW nb S fst nx vs l dn = true → ∀ c, c ∈ l.map Prod.snd ∨ c ∈ dn → Way nb S fst nx c (val vs c) := by
  intro l
  induction l with
  | nil =>
    intro dn h _ c hc
    rcases hc with hc | hc
    · simp at hc
    · exact h c hc
  | cons x r ih =>
    intro dn h hk c hc
    obtain ⟨o, d⟩ := x
    have step : ∀ (hd : Way nb S fst nx d (val vs d)), chkW nb S fst nx vs r (d :: dn) = true → Way nb S fst nx c (val vs c) := fun hd hr => by
      refine ih (d :: dn) (fun b hb => ?_) hr c ?_
      · rcases List.mem_cons.1 hb with e | e
        · subst e; exact hd
        · exact h b e
      · rcases hc with hc | hc
        · rw [List.map_cons, List.mem_cons] at hc
          rcases hc with e | e
          · subst e; exact .inr List.mem_cons_self
          · exact .inl e
        · exact .inr (List.mem_cons_of_mem _ hc)
    cases o with
    | none =>
      simp only [chkW, Bool.and_eq_true, decide_eq_true_eq] at hk
      exact step (hk.1.2 ▸ .start hk.1.1) hk.2
    | some p =>
      simp only [chkW, Bool.and_eq_true, decide_eq_true_eq] at hk
      exact step (hk.1.2.2 ▸ .step (h p hk.1.1) hk.1.2.1) hk.2
/-- a search's result, held against the grid -/
def chkB (lt : Int → Int → Bool) (N : Nat) (vs : List Int) (l : List (Option Nat × Nat)) : Bool :=
  decide (vs.length = N) && chkW nb S fst nx vs l [] && (List.range N).all (fun c => decide (c ∈ l.map Prod.snd)) && S.all (fun c => decide (c < N) && !lt (fst c) (val vs c)) && (List.range N).all (fun c => (nb c).all fun d => decide (d < N) && !lt (nx (val vs c) d) (val vs d))
theorem best_of (lt : Int → Int → Bool) (N : Nat) (vs : List Int) (l : List (Option Nat × Nat)) (h : chkB nb S fst nx lt N vs l = true) : Best nb S fst nx lt N vs := by
  unfold chkB at h
  simp only [Bool.and_eq_true, decide_eq_true_eq, List.all_eq_true, List.mem_range, Bool.not_eq_true'] at h
  obtain ⟨⟨⟨⟨h1, h2⟩, h3⟩, h4⟩, h5⟩ := h
  have hin : ∀ c v, Way nb S fst nx c v → c < N := fun c v hw => by
    induction hw with
    | start hc => exact (h4 _ hc).1
    | step hw hd ih => exact (h5 _ ih _ hd).1
  exact ⟨h1, fun c hc _ => chkW_way nb S fst nx vs l [] (fun c hc => absurd hc (by simp)) h2 c (.inl (h3 c hc)), fun _ _ _ _ => trivial, fun c hc => (h4 c hc).2, fun c d ⟨v, hv⟩ hd => (h5 c (hin c v hv) d hd).2⟩
end

def rowG : G := ⟨4, 1, 100, [(-500, -500), (10, 20), (-30, -10), (5, 40)]⟩
theorem row_check : checkE rowG = 0 := by kernel_rfl
theorem row_valid : Valid rowG := valid_of row_check
theorem row_ways (fst : Nat → Int) (nx : Int → Nat → Int) (sts : List Nat) (h : 0 ∈ sts) (c : Nat) (hc : c < rowG.ss.length) : ∃ v, Way (fun c => (nearL rowG c).map Int.toNat) sts fst nx c v := way_all row_valid h (by decide) hc
theorem row_sills {ss : List (Int × Int)} (h : Sillz rowG [0] ss) : ss = [(-500, -500), (10, 20), (10, 20), (10, 40)] := by
  obtain ⟨lo, hi, h1, h2, rfl⟩ := h
  have b1 : Silled rowG (fun s => s.1) [0] [-500, 10, 10, 10] := best_of _ _ _ _ _ _ _ [(none, 0), (some 0, 1), (some 1, 2), (some 2, 3)] (by kernel_rfl)
  have b2 : Silled rowG (fun s => s.2) [0] [-500, 20, 20, 40] := best_of _ _ _ _ _ _ _ [(none, 0), (some 0, 1), (some 1, 2), (some 2, 3)] (by kernel_rfl)
  have e1 := Best.unique (stepH rowG _) (row_ways _ _ [0] (by decide)) h1 b1
  have e2 := Best.unique (stepH rowG _) (row_ways _ _ [0] (by decide)) h2 b2
  rw [e1, e2]
  rfl
theorem row_ponds : pondL rowG [0] [(-500, -500), (10, 20), (10, 20), (10, 40)] = [(0, 0), (0, 0), (20, 50), (0, 15)] := by kernel_rfl
def rowT : List (Int × Int) := [(-500, -500), (10, 15), (-30, -10), (5, 40)]
theorem row_tight {tt : List (Int × Int)} (h : Tightened rowG 515 tt) : tt = rowT := by
  have b1 : LowB rowG 515 [-500, 10, -30, 5] := best_of _ _ _ _ _ _ _ [(none, 0), (none, 1), (none, 2), (none, 3)] (by kernel_rfl)
  have b2 : HighB rowG 515 [-500, 15, -10, 40] := best_of _ _ _ _ _ _ _ [(none, 0), (some 0, 1), (none, 2), (none, 3)] (by kernel_rfl)
  exact h.unique ⟨_, _, b1, b2, rfl⟩
theorem row_tight0 {tt : List (Int × Int)} (h : Tightened rowG 500 tt) : tt = [(-490, -500), (10, 0), (-30, -10), (5, 40)] := by
  have b1 : LowB rowG 500 [-490, 10, -30, 5] := best_of _ _ _ _ _ _ _ [(none, 1), (some 1, 0), (none, 2), (none, 3)] (by kernel_rfl)
  have b2 : HighB rowG 500 [-500, 0, -10, 40] := best_of _ _ _ _ _ _ _ [(none, 0), (some 0, 1), (none, 2), (none, 3)] (by kernel_rfl)
  exact h.unique ⟨_, _, b1, b2, rfl⟩
theorem row_tightR {tt : List (Int × Int)} (h : Tightened rowG 515 tt) : tightR rowG 515 tt = (0, ⟨4, 1, 100, rowT⟩) := by rw [row_tight h]; kernel_rfl
theorem row_tightR0 {tt : List (Int × Int)} (h : Tightened rowG 500 tt) : tightR rowG 500 tt = (14, zeroG) := by rw [row_tight0 h]; kernel_rfl
theorem row_near : nearE rowG 1 = 0 ∧ nearV rowG 1 = [2, 0] := ⟨by kernel_rfl, by kernel_rfl⟩
theorem row_sea : seaE rowG [0] = 0 := by kernel_rfl
theorem row_flood : floodE rowG [0] 15 25 = 0 := by kernel_rfl
theorem row_meas : measR rowG [(1, 5, 10), (2, -40, 5)] = (1, 14, zeroG) := by kernel_rfl
theorem row_narrow : narrowR rowG ⟨4, 1, 100, rowT⟩ = (0, 0, ⟨4, 1, 100, rowT⟩) := by kernel_rfl
theorem dec_one (i : Nat) (h : i < 10) : Lib.decDigits i = [UInt8.ofNat (48 + i)] := Lib.decDigits_one h
theorem dec_more (i : Nat) (h : ¬ i < 10) : Lib.decDigits i = Lib.decDigits (i / 10) ++ [UInt8.ofNat (48 + i % 10)] := by rw [Lib.decDigits.eq_1 i, dif_neg h]
theorem row_its : Lib.itoa 4 = [52] ∧ Lib.itoa 1 = [49] ∧ Lib.itoa 100 = [49, 48, 48] ∧ Lib.itoa (-500) = [45, 53, 48, 48] ∧ Lib.itoa 10 = [49, 48] ∧ Lib.itoa 20 = [50, 48] ∧ Lib.itoa (-30) = [45, 51, 48] ∧ Lib.itoa (-10) = [45, 49, 48] ∧ Lib.itoa 5 = [53] ∧ Lib.itoa 40 = [52, 48] := by
  unfold Lib.itoa
  simp only [show ((4 : Int) < 0) = False by simp, show ((1 : Int) < 0) = False by simp, show ((100 : Int) < 0) = False by simp, show ((-500 : Int) < 0) = True by simp, show ((10 : Int) < 0) = False by simp, show ((20 : Int) < 0) = False by simp, show ((-30 : Int) < 0) = True by simp, show ((-10 : Int) < 0) = True by simp, show ((5 : Int) < 0) = False by simp, show ((40 : Int) < 0) = False by simp, if_true, if_false]
  have d5 : Lib.decDigits 5 = [53] := dec_one 5 (by omega)
  have d4 : Lib.decDigits 4 = [52] := dec_one 4 (by omega)
  have d3 : Lib.decDigits 3 = [51] := dec_one 3 (by omega)
  have d2 : Lib.decDigits 2 = [50] := dec_one 2 (by omega)
  have d1 : Lib.decDigits 1 = [49] := dec_one 1 (by omega)
  have d10 : Lib.decDigits 10 = [49, 48] := by rw [dec_more 10 (by omega), d1]; rfl
  have d20 : Lib.decDigits 20 = [50, 48] := by rw [dec_more 20 (by omega), d2]; rfl
  have d30 : Lib.decDigits 30 = [51, 48] := by rw [dec_more 30 (by omega), d3]; rfl
  have d40 : Lib.decDigits 40 = [52, 48] := by rw [dec_more 40 (by omega), d4]; rfl
  have d50 : Lib.decDigits 50 = [53, 48] := by rw [dec_more 50 (by omega), d5]; rfl
  have d100 : Lib.decDigits 100 = [49, 48, 48] := by rw [dec_more 100 (by omega), d10]; rfl
  have d500 : Lib.decDigits 500 = [53, 48, 48] := by rw [dec_more 500 (by omega), d50]; rfl
  exact ⟨d4, d1, d100, by rw [show (-500 : Int).natAbs = 500 from rfl, d500], d10, d20, by rw [show (-30 : Int).natAbs = 30 from rfl, d30], by rw [show (-10 : Int).natAbs = 10 from rfl, d10], d5, d40⟩
/-- "grid 4 1 100\n-500 10..20 -30..-10 5..40\n" -/
def rowS : List UInt8 := [103, 114, 105, 100, 32, 52, 32, 49, 32, 49, 48, 48, 10, 45, 53, 48, 48, 32, 49, 48, 46, 46, 50, 48, 32, 45, 51, 48, 46, 46, 45, 49, 48, 32, 53, 46, 46, 52, 48, 10]
theorem row_txt : gridTxt rowG = rowS := by
  obtain ⟨i4, i1, i100, i500, i10, i20, i30, j10, i5, i40⟩ := row_its
  unfold gridTxt headTxt rowG
  simp only [cellsTxt, spanTxt, sepTxt, i4, i1, i100, i500, i10, i20, i30, j10, i5, i40]
  rfl
theorem row_write : writeR rowG = (rowS, 0) := by
  unfold writeR
  rw [if_pos row_check, row_txt]
end Go.Proofs.YthcenmocnphnmaaGreatDoor
/-
  The examples of the chapter: what each call of the program gives at the row of four cells.
-/
namespace Go.Proofs.YthcenmocnphnmaaGreatDoor
open Go.RowKit Go.Shelf

theorem seaL_zero {sts : List Nat} (h : ([0] : List Int) = sts.map fun (c : Nat) => (c : Int)) : sts = [0] := by
  match sts, h with
  | [a], h =>
    simp at h
    have : a = 0 := by omega
    rw [this]
  | [], h => simp at h
  | _ :: _ :: _, h => simp at h
theorem eNear (x : Value) (w : World) (hg : GridAt w w.heap.size x rowG) :
    Calls Tryz.prog 14 #[x, .int .i64 1] w fun e w' => ∃ v, e = .returned (.tuple #[v, .int .i64 0]) ∧ IntsAt w' w'.heap.size v [2, 0] ∧ Below w.heap.size w w' := by
  refine (near_any x rowG 1 w hg).mono ?_
  rintro e w' ⟨v, rfl, hv, hb⟩
  rw [row_near.1]
  rw [row_near.2] at hv
  exact ⟨v, rfl, hv, hb⟩
theorem eSills (x y : Value) (w : World) (hg : GridAt w w.heap.size x rowG) (hy : IntsAt w w.heap.size y [0]) :
    Calls Tryz.prog 20 #[x, y] w fun e w' => ∃ v, e = .returned (.tuple #[v, .int .i64 0]) ∧ SpansAt w' w'.heap.size v [(-500, -500), (10, 20), (10, 20), (10, 40)] ∧ Below w.heap.size w w' := by
  refine (Sills_any x y rowG [0] w hg hy).mono ?_
  rintro e w' ⟨v, ss, rfl, hv, hb, hc⟩
  rw [row_sea] at hc ⊢
  rcases hc with ⟨hc, _⟩ | ⟨_, sts, hs, hz⟩
  · exact absurd rfl hc
  · rw [seaL_zero hs] at hz
    rw [row_sills hz] at hv
    exact ⟨v, rfl, hv, hb⟩
theorem eFlood (x y : Value) (w : World) (hg : GridAt w w.heap.size x rowG) (hy : IntsAt w w.heap.size y [0]) :
    Calls Tryz.prog 23 #[x, y, .agg #[.int .i64 15, .int .i64 25]] w fun e w' => ∃ v u, e = .returned (.tuple #[v, u, .int .i64 0]) ∧ BoolsAt w' w'.heap.size v [true, false, false, false] ∧ BoolsAt w' w'.heap.size u [true, true, true, true] ∧ Below w.heap.size w w' := by
  refine (Flood_any x y rowG [0] 15 25 w hg hy).mono ?_
  rintro e w' ⟨v, u, b1, b2, rfl, hv, hu, hb, hc⟩
  rw [row_flood] at hc ⊢
  rcases hc with ⟨hc, _⟩ | ⟨_, sts, ss, hs, hz, rfl, rfl⟩
  · exact absurd rfl hc
  · rw [seaL_zero hs] at hz
    rw [row_sills hz] at hv hu
    exact ⟨v, u, rfl, hv, hu, hb⟩
theorem ePonds (x y : Value) (w : World) (hg : GridAt w w.heap.size x rowG) (hy : IntsAt w w.heap.size y [0]) :
    Calls Tryz.prog 26 #[x, y] w fun e w' => ∃ v, e = .returned (.tuple #[v, .int .i64 0]) ∧ SpansAt w' w'.heap.size v [(0, 0), (0, 0), (20, 50), (0, 15)] ∧ Below w.heap.size w w' := by
  refine (Ponds_any x y rowG [0] w hg hy).mono ?_
  rintro e w' ⟨v, ps, rfl, hv, hb, hc⟩
  rw [row_sea] at hc ⊢
  rcases hc with ⟨hc, _⟩ | ⟨_, sts, ss, hs, hz, rfl⟩
  · exact absurd rfl hc
  · rw [seaL_zero hs] at hz hv
    rw [row_sills hz, row_ponds] at hv
    exact ⟨v, rfl, hv, hb⟩
theorem eTight (x : Value) (w : World) (hg : GridAt w w.heap.size x rowG) :
    Calls Tryz.prog 33 #[x, .int .i64 515] w fun e w' => ∃ v, e = .returned (.tuple #[.agg #[.int .i64 4, .int .i64 1, .int .i64 100, v], .int .i64 0]) ∧ SpansAt w' w'.heap.size v rowT ∧ Below w.heap.size w w' := by
  refine (Tighten_any x rowG 515 w hg).mono ?_
  rintro e w' ⟨y, r, rfl, hv, hb, tt, ht, rfl⟩
  rw [row_tightR (ht row_check (by decide))] at hv ⊢
  obtain ⟨v, rfl, hs⟩ := hv
  exact ⟨v, rfl, hs, hb⟩
theorem eTight0 (x : Value) (w : World) (hg : GridAt w w.heap.size x rowG) :
    Calls Tryz.prog 33 #[x, .int .i64 500] w fun e w' => ∃ y, e = .returned (.tuple #[y, .int .i64 14]) ∧ Below w.heap.size w w' := by
  refine (Tighten_any x rowG 500 w hg).mono ?_
  rintro e w' ⟨y, r, rfl, hv, hb, tt, ht, rfl⟩
  rw [row_tightR0 (ht row_check (by decide))]
  exact ⟨y, rfl, hb⟩
theorem eMeas (x y : Value) (w : World) (hg : GridAt w w.heap.size x rowG) (hy : SndsAt w w.heap.size y [(1, 5, 10), (2, -40, 5)]) :
    Calls Tryz.prog 31 #[x, y] w fun e w' => ∃ A c, e = .returned (.tuple #[.agg #[.int .i64 0, .int .i64 0, .int .i64 0, .slice A 0 c], .int .i64 1, .int .i64 14]) ∧ Below w.heap.size w w' := by
  refine (Measure_any x y rowG [(1, 5, 10), (2, -40, 5)] w hg hy).mono ?_
  rintro e w' ⟨z, rfl, hv, hb⟩
  rw [row_meas] at hv ⊢
  obtain ⟨v, rfl, hs⟩ := hv
  obtain ⟨A, c, rfl, _, _⟩ := hs.open_
  exact ⟨A, c, rfl, hb⟩
theorem eNarrow (x y : Value) (w : World) (hg : GridAt w w.heap.size x rowG) (hy : GridAt w w.heap.size y ⟨4, 1, 100, rowT⟩) :
    Calls Tryz.prog 28 #[x, y] w fun e w' => ∃ v, e = .returned (.tuple #[.agg #[.int .i64 4, .int .i64 1, .int .i64 100, v], .int .i64 0, .int .i64 0]) ∧ SpansAt w' w'.heap.size v rowT ∧ Below w.heap.size w w' := by
  refine (Narrow_any x y rowG ⟨4, 1, 100, rowT⟩ w hg hy).mono ?_
  rintro e w' ⟨z, rfl, hv, hb⟩
  rw [row_narrow] at hv ⊢
  obtain ⟨v, rfl, hs⟩ := hv
  exact ⟨v, rfl, hs, hb⟩
theorem eWrite (x : Value) (w : World) (hg : GridAt w w.heap.size x rowG) (hv : LV w) :
    Calls Tryz.prog 35 #[x] w fun e w' => e = .returned (.tuple #[.string (bs rowS), .int .i64 0]) ∧ Below w.heap.size w w' := by
  refine (Write_any x rowG w hg hv).mono ?_
  rintro e w' ⟨rfl, hb⟩
  rw [row_write]
  exact ⟨rfl, hb⟩
theorem row_read : readOfP (parseP rowS) rowS = (rowG, 0) := readOfP_yes (by decide) (parseP_of row_write) row_write
theorem eRead (w : World) (hv : LV w) :
    Calls Tryz.prog 37 #[.string (bs rowS)] w fun e w' => ∃ v, e = .returned (.tuple #[.agg #[.int .i64 4, .int .i64 1, .int .i64 100, v], .int .i64 0]) ∧ SpansAt w' w'.heap.size v rowG.ss ∧ Below w.heap.size w w' := by
  refine (Read_any rowS w hv (by decide)).mono ?_
  rintro e w' ⟨z, rfl, hg, hb⟩
  rw [row_read] at hg ⊢
  obtain ⟨v, rfl, hs⟩ := hg
  exact ⟨v, rfl, hs, hb⟩
/-! literals in memory -/
theorem reads_new (w : World) (cs : Array Value) (t : TypeId) (n size : Nat) (hn : n ≤ 1000) (h : cs.toList.length = n * size) : Reads (w.alloc (.cells cs t)) (w.alloc (.cells cs t)).heap.size size (.slice (some ⟨w.heap.size, 0, none⟩) n n) n cs.toList := by
  refine ⟨h, by omega, _, n, rfl, Nat.le_refl _, fun _ => ⟨w.heap.size, 0, rfl, by simp, fun j u hu => ?_⟩⟩
  rw [Nat.zero_add, (Blk.new w t cs).cell j]
  simpa using hu
theorem ints_lit (w : World) (cs : Array Value) (n : Nat) (l : List Int) (hn : n = l.length) (hl : l.length ≤ 1000) (h : cs.toList = l.map (Value.int .i64)) : IntsAt (w.alloc (.cells cs 3)) (w.alloc (.cells cs 3)).heap.size (.slice (some ⟨w.heap.size, 0, none⟩) n n) l := by
  subst hn
  have := reads_new w cs 3 l.length 1 hl (by rw [h]; simp)
  rw [h] at this
  exact this
theorem bools_lit (w : World) (cs : Array Value) (n : Nat) (l : List Bool) (hn : n = l.length) (hl : l.length ≤ 1000) (h : cs.toList = l.map Value.bool) : BoolsAt (w.alloc (.cells cs 4)) (w.alloc (.cells cs 4)).heap.size (.slice (some ⟨w.heap.size, 0, none⟩) n n) l := by
  subst hn
  have := reads_new w cs 4 l.length 1 hl (by rw [h]; simp)
  rw [h] at this
  exact this
theorem spans_lit (w : World) (cs : Array Value) (n : Nat) (l : List (Int × Int)) (hn : n = l.length) (hl : l.length ≤ 1000) (h : cs.toList = spanCells l) : SpansAt (w.alloc (.cells cs 34)) (w.alloc (.cells cs 34)).heap.size (.slice (some ⟨w.heap.size, 0, none⟩) n n) l := by
  subst hn
  have := reads_new w cs 34 l.length 2 hl (by rw [h]; exact spanCells_length l)
  rw [h] at this
  exact this
theorem snds_lit (w : World) (cs : Array Value) (n : Nat) (l : List Snd) (hn : n = l.length) (hl : l.length ≤ 1000) (h : cs.toList = sndCells l) (h3 : (sndCells l).length = l.length * 3) : SndsAt (w.alloc (.cells cs 51)) (w.alloc (.cells cs 51)).heap.size (.slice (some ⟨w.heap.size, 0, none⟩) n n) l := by
  subst hn
  have := reads_new w cs 51 l.length 3 hl (by rw [h]; exact h3)
  rw [h] at this
  exact this
theorem numbers_yes (a b : Value) (l m : List Int) (h : l = m) (w : World) (ha : IntsAt w w.heap.size a l) (hb : IntsAt w w.heap.size b m) :
    Calls Tryz.prog 18 #[a, b] w fun e w' => e = .returned (.bool true) ∧ Below w.heap.size w w' :=
  (numbers_any a b l m w ha hb).mono fun e w' k => ⟨by rw [k.1, decide_eq_true h], k.2⟩
theorem bools_yes (a b : Value) (l m : List Bool) (h : l = m) (w : World) (ha : BoolsAt w w.heap.size a l) (hb : BoolsAt w w.heap.size b m) :
    Calls Tryz.prog 25 #[a, b] w fun e w' => e = .returned (.bool true) ∧ Below w.heap.size w w' :=
  (bools_any a b l m w ha hb).mono fun e w' k => ⟨by rw [k.1, decide_eq_true h], k.2⟩
theorem spans_yes (a b : Value) (l m : List (Int × Int)) (h : l = m) (w : World) (ha : SpansAt w w.heap.size a l) (hb : SpansAt w w.heap.size b m) :
    Calls Tryz.prog 22 #[a, b] w fun e w' => e = .returned (.bool true) ∧ Below w.heap.size w w' :=
  (spans_any a b l m w ha hb).mono fun e w' k => ⟨by rw [k.1, decide_eq_true h], k.2⟩
theorem grids_yes (a b : Value) (l m : G) (h : l = m) (w : World) (ha : GridAt w w.heap.size a l) (hb : GridAt w w.heap.size b m) :
    Calls Tryz.prog 30 #[a, b] w fun e w' => e = .returned (.bool true) ∧ Below w.heap.size w w' :=
  (grids_any a b l m w ha hb).mono fun e w' k => ⟨by rw [k.1, decide_eq_true h], k.2⟩
set_option maxRecDepth 100000 in
set_option maxHeartbeats 2000000 in
theorem row_any (w : World) :
    Calls Tryz.prog 49 #[] w fun e w' => ∃ v, e = .returned (.agg #[.int .i64 4, .int .i64 1, .int .i64 100, v]) ∧ SpansAt w' w'.heap.size v rowG.ss ∧ Below w.heap.size w w' := by
  go_enter Tryz.func49, Tryz.ntmps49
  have b0 : Blk ((w.alloc (.cells #[.int .i64 4, .int .i64 1, .int .i64 100, .slice (some ⟨w.heap.size + 1, 0, none⟩) 4 4] 24)).alloc (.cells #[.int .i64 (-500), .int .i64 (-500), .int .i64 10, .int .i64 20, .int .i64 (-30), .int .i64 (-10), .int .i64 5, .int .i64 40] 34)) w.heap.size 24 #[.int .i64 4, .int .i64 1, .int .i64 100, .slice (some ⟨w.heap.size + 1, 0, none⟩) 4 4] := Blk.alloc (Blk.new' _ _ _ rfl) _
  obtain ⟨z0, z1, z2, z3⟩ := grid_parts b0
  go_wp2
  refine bodyPost_ret (v := .agg #[.int .i64 4, .int .i64 1, .int .i64 100, .slice (some ⟨w.heap.size + 1, 0, none⟩) 4 4]) (by simp [results, Tryz.results49, go_sem, z0, z1, z2, z3]) rfl ?_
  refine ⟨_, rfl, ?_, (by repeat (first | exact Below.refl _ _ | assumption | refine Below.drew ?_ | refine Below.drewN' ?_ _ | (refine Below.alloc ?_ (by simp <;> omega) _) | (refine Below.setCell ?_ (by simp <;> omega) _)))⟩
  have h := spans_lit (w.alloc (.cells #[.int .i64 4, .int .i64 1, .int .i64 100, .slice (some ⟨w.heap.size + 1, 0, none⟩) 4 4] 24)) #[.int .i64 (-500), .int .i64 (-500), .int .i64 10, .int .i64 20, .int .i64 (-30), .int .i64 (-10), .int .i64 5, .int .i64 40] 4 rowG.ss rfl (by decide) rfl
  simpa using h
end Go.Proofs.YthcenmocnphnmaaGreatDoor
