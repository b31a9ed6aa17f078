/-
  The rounds of the reference's Tighten.
-/
import Derived.Test.YthcenmocnphnmaaGreatDoorMQ
import Derived.Test.YthcenmocnphnmaaGreatDoorML
import Derived.Test.YthcenmocnphnmaaGreatDoorMK
import Derived.Test.YthcenmocnphnmaaGreatDoorMT
import Derived.Test.YthcenmocnphnmaaGreatDoorMM
set_option linter.unusedSimpArgs false
set_option linter.unusedVariables false
namespace Go.Proofs.YthcenmocnphnmaaGreatDoor

/-- what holds within a round -/
def RoundT (g : G) (step : Int) (out0 out : List (Int × Int)) (more : Bool) (P : Prop) : Prop :=
  Tightening g step out ∧ ((more = false ∧ out = out0 ∧ P) ∨ (more = true ∧ widths g out + 1 ≤ widths g out0))
theorem set_same {out : List (Int × Int)} {c : Nat} (hc : c < out.length) {s : Int × Int} (h : s = (loF out c, hiF out c)) : out.set c s = out := by
  refine List.ext_getElem (by simp) fun i h1 h2 => ?_
  rw [List.getElem_set]
  split
  · rename_i e
    subst e
    subst h
    unfold loF hiF
    rw [List.getD_eq_getElem?_getD, List.getElem?_eq_getElem hc]
    rfl
  · rfl
section
variable {g : G} {step : Int} {out0 out : List (Int × Int)} {more : Bool}
theorem RoundT.yes {P P' : Prop} (V : Valid g) (h : RoundT g step out0 out more P) {c d : Nat} (hc : c < g.ss.length) (hd : d ∈ (nearL g c).map Int.toNat) (hok : (pulled step out c d).1 ≤ (pulled step out c d).2) (hne : pulled step out c d ≠ (loF out c, hiF out c)) :
    RoundT g step out0 (out.set c (pulled step out c d)) true P' := by
  have hl := widths_set h.1 hc hok hne
  refine ⟨h.1.set V hc hd hok, .inr ⟨rfl, ?_⟩⟩
  rcases h.2 with ⟨_, e, _⟩ | ⟨_, e⟩
  · rw [← e]; exact hl
  · omega
theorem RoundT.no {c q : Nat} (h : RoundT g step out0 out more ((∀ d, d < c → CalmT g step out d (nearL g d).length) ∧ CalmT g step out c q)) (hq : q < (nearL g c).length) (hc : c < g.ss.length) (he : pulled step out c (nearL g c)[q].toNat = (loF out c, hiF out c)) :
    RoundT g step out0 (out.set c (pulled step out c (nearL g c)[q].toNat)) more ((∀ d, d < c → CalmT g step (out.set c (pulled step out c (nearL g c)[q].toNat)) d (nearL g d).length) ∧ CalmT g step (out.set c (pulled step out c (nearL g c)[q].toNat)) c (q + 1)) := by
  rw [set_same (by rw [h.1.len]; exact hc) he]
  refine ⟨h.1, ?_⟩
  rcases h.2 with ⟨h1, h2, h3, h4⟩ | h
  · refine .inl ⟨h1, h2, h3, fun d hd => ?_⟩
    rw [take_snoc _ q (by simpa using hq)] at hd
    rcases List.mem_append.1 hd with e | e
    · exact h4 d e
    · simp only [List.getElem_map, List.mem_singleton] at e
      subst e
      exact he
  · exact .inr h
theorem RoundT.one {c q : Nat} (V : Valid g) (h : RoundT g step out0 out more ((∀ d, d < c → CalmT g step out d (nearL g d).length) ∧ CalmT g step out c q)) (hq : q < (nearL g c).length) (hc : c < g.ss.length)
    (hok : (pulled step out c (nearL g c)[q].toNat).1 ≤ (pulled step out c (nearL g c)[q].toNat).2) (more' : Bool) (hm : more' = (more || decide (pulled step out c (nearL g c)[q].toNat ≠ (loF out c, hiF out c)))) :
    RoundT g step out0 (out.set c (pulled step out c (nearL g c)[q].toNat)) more' ((∀ d, d < c → CalmT g step (out.set c (pulled step out c (nearL g c)[q].toNat)) d (nearL g d).length) ∧ CalmT g step (out.set c (pulled step out c (nearL g c)[q].toNat)) c (q + 1)) := by
  by_cases he : pulled step out c (nearL g c)[q].toNat = (loF out c, hiF out c)
  · have : more' = more := by rw [hm, he]; simp
    rw [this]
    exact h.no hq hc he
  · have : more' = true := by rw [hm]; simp [he]
    rw [this]
    exact h.yes V hc (List.mem_map.2 ⟨_, List.getElem_mem hq, rfl⟩) hok he
theorem RoundT.next {c : Nat} (h : RoundT g step out0 out more ((∀ d, d < c → CalmT g step out d (nearL g d).length) ∧ CalmT g step out c (nearL g c).length)) :
    RoundT g step out0 out more (∀ d, d < c + 1 → CalmT g step out d (nearL g d).length) := by
  refine ⟨h.1, ?_⟩
  rcases h.2 with ⟨h1, h2, h3, h4⟩ | h
  · refine .inl ⟨h1, h2, fun d hd => ?_⟩
    by_cases e : d = c
    · subst e; exact h4
    · exact h3 d (by omega)
  · exact .inr h
theorem RoundT.begin_ {c : Nat} (h : RoundT g step out0 out more (∀ d, d < c → CalmT g step out d (nearL g d).length)) : RoundT g step out0 out more ((∀ d, d < c → CalmT g step out d (nearL g d).length) ∧ CalmT g step out c 0) := by
  refine ⟨h.1, ?_⟩
  rcases h.2 with ⟨h1, h2, h3⟩ | h
  · exact .inl ⟨h1, h2, h3, fun d hd => by simp at hd⟩
  · exact .inr h
/-- the grid is tightened when a round has changed nothing; a step that leaves nothing says so of the tightened grid -/
theorem Tightening.tight {tt : List (Int × Int)} (hz : checkE g = 0) (hs : 0 ≤ step ∧ step ≤ 2400000) (h : Tightening g step out) (hc : ∀ c, c < g.ss.length → CalmT g step out c (nearL g c).length) (ht : Tightened g step tt) : ((0 : Int), (⟨g.W, g.H, g.S, out⟩ : G)) = tightR g step tt := by
  have e := h.done (valid_of hz) ht hc
  subst e
  have hn : ¬ out.any emptyB = true := by
    intro hx
    obtain ⟨s, hm, he⟩ := List.any_eq_true.1 hx
    obtain ⟨i, hi, rfl⟩ := List.getElem_of_mem hm
    have := h.ok i (by rw [← h.len]; exact hi)
    unfold loF hiF at this
    rw [List.getD_eq_getElem?_getD, List.getElem?_eq_getElem hi] at this
    have := of_decide_eq_true he
    simp only [Option.getD_some] at *
    omega
  unfold tightR
  rw [if_pos hz, if_pos hs, if_neg hn]
theorem Tightening.none {tt : List (Int × Int)} (hz : checkE g = 0) (hs : 0 ≤ step ∧ step ≤ 2400000) (h : Tightening g step out) {c d : Nat} (hc : c < g.ss.length) (hd : d ∈ (nearL g c).map Int.toNat) (hno : (pulled step out c d).2 < (pulled step out c d).1) (ht : Tightened g step tt) : ((14 : Int), zeroG) = tightR g step tt := by
  have e := h.conflict (valid_of hz) ht hc hd hno
  have hcl : c < tt.length := by rw [ht.length]; exact hc
  have hn : tt.any emptyB = true := by
    refine List.any_eq_true.2 ⟨tt[c], List.getElem_mem hcl, ?_⟩
    unfold loF hiF at e
    rw [List.getD_eq_getElem?_getD, List.getElem?_eq_getElem hcl] at e
    exact decide_eq_true e
  unfold tightR
  rw [if_pos hz, if_pos hs, if_pos hn]
end
end Go.Proofs.YthcenmocnphnmaaGreatDoor
/-
  The reference: Tighten.
-/
namespace Go.Proofs.YthcenmocnphnmaaGreatDoor
open Go.RowKit Go.Shelf

theorem Only.alloc {B : Nat} {w w' : World} (h : Only B w w') (o : Obj) : Only B w (w'.alloc o) :=
  ⟨by have := h.1; simp; omega, fun j h1 h2 => (Below.heap_alloc _ _ _ (by have := h.1; omega)).trans (h.2 j h1 h2)⟩
/-- what the reference's Tighten gives: it meets the tightened grid, if there is one -/
def RTightOut (g : G) (step : Int) (w : World) (e : Ending) (w' : World) : Prop := ∃ x r, e = .returned (.tuple #[x, .int .i64 r.1]) ∧ GridAt w' w'.heap.size x r.2 ∧ Below w.heap.size w w' ∧ ∀ tt, (checkE g = 0 → 0 ≤ step ∧ step ≤ 2400000 → Tightened g step tt) → r = tightR g step tt
theorem tight_meets {g : G} {step : Int} {w w1 : World} {e : Ending} {w2 : World} {tt : List (Int × Int)} (h : RTightOut g step w e w1) (ht : checkE g = 0 → 0 ≤ step ∧ step ≤ 2400000 → Tightened g step tt) : ∃ x, e = .returned (.tuple #[x, .int .i64 (tightR g step tt).1]) ∧ GridAt w1 w1.heap.size x (tightR g step tt).2 ∧ Below w.heap.size w w1 := by
  obtain ⟨x, r, h1, h2, h3, h4⟩ := h
  rw [← h4 tt ht]
  exact ⟨x, h1, h2, h3⟩

set_option maxRecDepth 100000 in
set_option maxHeartbeats 8000000 in
theorem rTighten_any (x : Value) (g : G) (step : Int) (w : World) (hg : GridAt w w.heap.size x g) :
    Calls Tryz.prog 34 #[x, .int .i64 step] w (RTightOut g step w) := by
  have HG := Lib.hid hg
  obtain ⟨v, rfl, hs⟩ := hg
  obtain ⟨A, k, rfl, hk, hm⟩ := hs.open_
  have hB : Below w.heap.size w ((w.alloc (.cells #[.int .i64 g.W, .int .i64 g.H, .int .i64 g.S, .slice A g.ss.length k] 24)).alloc (.cells #[.int .i64 0, .int .i64 0, .int .i64 0, .slice none 0 0] 24)) := (by repeat (first | exact Below.refl _ _ | assumption | refine Below.drew ?_ | refine Below.drewN' ?_ _ | (refine Below.alloc ?_ (by simp <;> omega) _) | (refine Below.setCell ?_ (by simp <;> omega) _)))
  have HB := Lib.hid hB
  have b0 : Blk ((w.alloc (.cells #[.int .i64 g.W, .int .i64 g.H, .int .i64 g.S, .slice A g.ss.length k] 24)).alloc (.cells #[.int .i64 0, .int .i64 0, .int .i64 0, .slice none 0 0] 24)) w.heap.size 24 #[.int .i64 g.W, .int .i64 g.H, .int .i64 g.S, .slice A g.ss.length k] := Blk.alloc (Blk.new' _ _ _ rfl) _
  have b2 : Blk ((w.alloc (.cells #[.int .i64 g.W, .int .i64 g.H, .int .i64 g.S, .slice A g.ss.length k] 24)).alloc (.cells #[.int .i64 0, .int .i64 0, .int .i64 0, .slice none 0 0] 24)) (w.heap.size + 1) 24 #[.int .i64 0, .int .i64 0, .int .i64 0, .slice none 0 0] := Blk.new' _ _ _ (by simp)
  have HBB := Lib.hid (And.intro b0 b2)
  clear hs hB b0 b2
  go_enter Tryz.func34, Tryz.ntmps34
  go_wp2_with fail
  refine (rCheck_any _ g _ (HG.out.later HB.out (Nat.le_refl _))).mono ?_
  rintro e w1 ⟨rfl, hb1⟩
  have HB1 := Lib.hid (HB.out.trans (hb1.mono HB.out.size))
  have hn1 : w.heap.size + 1 + 1 ≤ w1.heap.size := by have := hb1.size; simpa using this
  have HBB1 := Lib.hid (And.intro (HBB.out.1.below hb1 (by simp <;> omega)) (HBB.out.2.below hb1 (by simp <;> omega)))
  clear hb1
  obtain ⟨⟨z0, z1, z2, z3⟩, f0, f1, f2, f3⟩ := zero_parts HBB1.out.2
  by_cases h0 : checkE g = 0
  case neg =>
    have He : Hid (∀ tt, (checkE g, zeroG) = tightR g step tt) := by intro tt; unfold tightR; rw [if_neg h0]
    have hb : (checkE g != 0) = true := by simpa using h0
    clear h0
    go_wp2
    refine bodyPost_ret (v := .tuple #[.agg #[.int .i64 0, .int .i64 0, .int .i64 0, .slice none 0 0], .int .i64 (checkE g)]) (by simp [results, Tryz.results34, go_sem, z0, z1, z2, z3, f0, f1, f2, f3]) rfl ?_
    exact ⟨_, (checkE g, zeroG), rfl, grid_zero _ _, HB1.out.trans (by repeat (first | exact Below.refl _ _ | assumption | refine Below.drew ?_ | refine Below.drewN' ?_ _ | (refine Below.alloc ?_ (by simp <;> omega) _) | (refine Below.setCell ?_ (by simp <;> omega) _))), fun tt _ => He.out tt⟩
  have hb : (checkE g != 0) = false := by simpa using h0
  have H0 := Lib.hid h0
  have HV := Lib.hid (valid_of h0)
  have hpa := (valid_of h0).pos
  have hsm := (valid_of h0).small
  clear h0
  by_cases h1 : decide (0 ≤ step ∧ step ≤ 2400000) = true
  case neg =>
    have h1' := hid_not h1
    have He : Hid (∀ tt, ((3 : Int), zeroG) = tightR g step tt) := by
      intro tt
      unfold tightR
      rw [if_pos H0.out, if_neg (of_decide_eq_false h1'.out)]
    clear h1
    go_wp2_with (go_at_call 53; refine (rWithin_is _ _ _ false h1'.out _).mono ?_; rintro e w3 ⟨rfl, rfl⟩)
    refine bodyPost_ret (v := .tuple #[.agg #[.int .i64 0, .int .i64 0, .int .i64 0, .slice none 0 0], .int .i64 3]) (by simp [results, Tryz.results34, go_sem, z0, z1, z2, z3, f0, f1, f2, f3]) rfl ?_
    exact ⟨_, (3, zeroG), rfl, grid_zero _ _, HB1.out.trans (by repeat (first | exact Below.refl _ _ | assumption | refine Below.drew ?_ | refine Below.drewN' ?_ _ | (refine Below.alloc ?_ (by simp <;> omega) _) | (refine Below.setCell ?_ (by simp <;> omega) _))), fun tt _ => He.out tt⟩
  have h1' := Lib.hid h1
  have Hst := Lib.hid (of_decide_eq_true h1)
  obtain ⟨d0, d1, d2, d3⟩ := grid_parts HBB1.out.1
  clear h1 z0 z1 z2 z3 f0 f1 f2 f3
  go_wp2_with (go_at_call 53; refine (rWithin_is _ _ _ true h1'.out _).mono ?_; rintro e w3 ⟨rfl, rfl⟩)
  refine (copied_any _ g _ (HG.out.later HB1.out (Nat.le_refl _)) (by omega) (by omega)).mono ?_
  rintro e w3 ⟨gb, cap, rfl, hown3, hb3⟩
  have HO3 := Lib.hid hown3
  have hgb := hown3.lt gb rfl
  have hcap : g.ss.length ≤ cap := by
    rcases hown3.2 with ⟨e, _⟩ | ⟨_, _, _, e, _, _, h, _⟩
    · cases e
    · injection e with _ _ e; omega
  have HB3 := Lib.hid (HB1.out.trans (hb3.mono HB1.out.size))
  have HB13 := Lib.hid hb3
  have hn3 : w1.heap.size ≤ w3.heap.size := hb3.size
  have B8 : Hid (Blk (w3.alloc (.cells #[.int .i64 g.W, .int .i64 g.H, .int .i64 g.S, .slice (some ⟨gb, 0, none⟩) g.ss.length cap] 24)) w3.heap.size 24 #[.int .i64 g.W, .int .i64 g.H, .int .i64 g.S, .slice (some ⟨gb, 0, none⟩) g.ss.length cap]) := Blk.new' _ _ _ rfl
  clear hown3 hb3 d0 d1 d2 d3
  go_wp2
  go_loopg [8] (2 * widths g g.ss + 1) (fun n m wr => ∃ (more : Bool) (cur : List (Int × Int)), m = .bool more ∧ Hid (wr.ownsRow w1.heap.size 34 2 (.slice (some ⟨gb, 0, none⟩) g.ss.length cap) g.ss.length (spanCells cur)) ∧ Hid (Tightening g step cur) ∧ Hid (more = false → ∀ c, c < g.ss.length → CalmT g step cur c (nearL g c).length) ∧ Hid (2 * widths g cur + (if more then 1 else 0) ≤ n) ∧ Hid (Blk wr w3.heap.size 24 #[.int .i64 g.W, .int .i64 g.H, .int .i64 g.S, .slice (some ⟨gb, 0, none⟩) g.ss.length cap]) ∧ Below w1.heap.size w1 wr)
  case atStart => exact ⟨true, g.ss, rfl, HO3.out.alloc _, Tightening.init HV.out step, (fun h => by cases h), by simp [Hid], B8.out, HB13.out.alloc hn3 _⟩
  case round =>
    obtain ⟨more, cur0, rfl, Hown0, HR, Hcalm, Hn, H80, hBr0⟩ := hrel
    clear HO3 B8
    have HBr0 := Lib.hid hBr0
    clear hBr0
    cases more with
    | false =>
      have HF : Hid (∀ tt, Tightened g step tt → ((0 : Int), (⟨g.W, g.H, g.S, cur0⟩ : G)) = tightR g step tt) := fun tt ht => HR.out.tight H0.out Hst.out (Hcalm.out rfl) ht
      have hcl : cur0.length = g.ss.length := HR.out.len
      obtain ⟨y0, y1, y2, y3⟩ := grid_parts H80.out
      have hz := zero_parts (HBB1.out.2.below HBr0.out (by omega))
      have z0 := hz.1.1
      have z1 := hz.1.2.1
      have z2 := hz.1.2.2.1
      have z3 := hz.1.2.2.2
      have f0 := hz.2.1
      have f1 := hz.2.2.1
      have f2 := hz.2.2.2.1
      have f3 := hz.2.2.2.2
      clear hz
      go_wp2
      refine bodyPost_ret (v := .tuple #[.agg #[.int .i64 g.W, .int .i64 g.H, .int .i64 g.S, .slice (some ⟨gb, 0, none⟩) g.ss.length cap], .int .i64 0]) (by simp [results, Tryz.results34, go_sem, z0, z1, z2, z3, f0, f1, f2, f3]) rfl ?_
      refine ⟨_, (0, ⟨g.W, g.H, g.S, cur0⟩), rfl, ⟨_, rfl, ?_⟩, (HB1.out.trans (HBr0.out.mono HB1.out.size)).trans (by repeat (first | exact Below.refl _ _ | assumption | refine Below.drew ?_ | refine Below.drewN' ?_ _ | (refine Below.alloc ?_ (by simp <;> omega) _) | (refine Below.setCell ?_ (by simp <;> omega) _))), fun tt ht => HF.out tt (ht H0.out Hst.out)⟩
      have h := Reads.of_own (own_far (w' := ((((wr.setCell ⟨w.heap.size + 1, 0, none⟩ (.int .i64 g.W)).setCell ⟨w.heap.size + 1, 1, none⟩ (.int .i64 g.H)).setCell ⟨w.heap.size + 1, 2, none⟩ (.int .i64 g.S)).setCell ⟨w.heap.size + 1, 3, none⟩ (.slice (some ⟨gb, 0, none⟩) g.ss.length cap))) Hown0.out (fun j hj => set4_far (by have := (Hown0.out.lt j hj).1; omega) _ _ _ _))
      unfold SpansAt
      rw [hcl]
      exact h
    | true =>
      go_wp2
      go_loopw [8, 9] (fun m i wr => ∃ (c : Nat) (more : Bool) (cur : List (Int × Int)), m = .bool more ∧ c ≤ g.ss.length ∧ i = .int .i64 c ∧ Hid (wr.ownsRow w1.heap.size 34 2 (.slice (some ⟨gb, 0, none⟩) g.ss.length cap) g.ss.length (spanCells cur)) ∧ Hid (RoundT g step cur0 cur more (∀ d, d < c → CalmT g step cur d (nearL g d).length)) ∧ Hid (Blk wr w3.heap.size 24 #[.int .i64 g.W, .int .i64 g.H, .int .i64 g.S, .slice (some ⟨gb, 0, none⟩) g.ss.length cap]) ∧ Below w1.heap.size w1 wr) (fun _ i _ => g.ss.length - (intOf i).toNat)
      case atStart => exact ⟨0, false, cur0, rfl, Nat.zero_le _, rfl, Hown0.out, ⟨HR.out, .inl ⟨rfl, rfl, fun d hd => absurd hd (by omega)⟩⟩, H80.out, HBr0.out⟩
      case round =>
        obtain ⟨c, more, cur, rfl, hc, rfl, Hown, HRd, H8, hBr⟩ := hrel
        have HBr := Lib.hid hBr
        have hsz := hBr.size
        have HBw := Lib.hid (HB1.out.trans (hBr.mono (by omega)))
        have h8lt := H8.out.lt
        obtain ⟨y0, y1, y2, y3⟩ := grid_parts H8.out
        by_cases hlt : c < g.ss.length
        · obtain ⟨d0, d1, d2, d3⟩ := grid_parts (HBB1.out.1.below hBr (by omega))
          clear hBr Hown0 H80 HBr0
          go_wp2_with fail
          refine (rNeighbors_any _ g c _ (HG.out.later HBw.out (Nat.le_refl _)) HV.out hlt).mono ?_
          rintro e w4 ⟨v4, rfl, hv4, hb4, hf4⟩
          have HV4 := Lib.hid hv4
          have HF4 := Lib.hid hf4
          obtain ⟨A4, k4, rfl, hk4, hm4⟩ := hv4.open_
          have hO4 := own_far Hown.out (fun j hj => hb4.block j (Hown.out.lt j hj).2)
          have HO4 := Lib.hid hO4
          have HB4 := Lib.hid (HBr.out.trans (hb4.mono (by omega)))
          have H84 := Lib.hid (H8.out.below hb4 (by omega))
          have hbase : gb < wr.heap.size := (Hown.out.lt _ rfl).2
          obtain ⟨wo, rfl⟩ : ∃ wo : World, wo = wr := ⟨_, rfl⟩
          clear hv4 hf4 hO4 hb4 d0 d1 d2 d3 y0 y1 y2 y3
          go_wp2
          go_loopw [8, 11] (fun m i wr => ∃ (q : Nat) (more : Bool) (cur : List (Int × Int)), m = .bool more ∧ q ≤ (nearL g c).length ∧ i = .int .i64 q ∧ Hid (wr.ownsRow w1.heap.size 34 2 (.slice (some ⟨gb, 0, none⟩) g.ss.length cap) g.ss.length (spanCells cur)) ∧ Hid (RoundT g step cur0 cur more ((∀ d, d < c → CalmT g step cur d (nearL g d).length) ∧ CalmT g step cur c q)) ∧ Hid (Only gb w4 wr) ∧ Hid (Blk wr w3.heap.size 24 #[.int .i64 g.W, .int .i64 g.H, .int .i64 g.S, .slice (some ⟨gb, 0, none⟩) g.ss.length cap]) ∧ Below w1.heap.size w1 wr) (fun _ i _ => (nearL g c).length - (intOf i).toNat)
          case atStart => exact ⟨0, more, cur, rfl, Nat.zero_le _, rfl, HO4.out, HRd.out.begin_, Only.refl _ _, H84.out, HB4.out⟩
          case round =>
            obtain ⟨q3, more, cur, rfl, hq3, rfl, Hown, HRq, HOn, H8, hBr⟩ := hrel
            clear HRd
            have HBq := Lib.hid hBr
            have hcl : cur.length = g.ss.length := HRq.out.1.len
            have Hcl := Lib.hid hcl
            have hszq := hBr.size
            have HBwq := Lib.hid (HB1.out.trans (hBr.mono (by omega)))
            clear hBr
            by_cases hlq : q3 < (nearL g c).length
            · have hd := nearL_rng HV.out hlt _ (List.getElem_mem hlq)
              have hIn := HV4.out.only HF4.out hbase HOn.out
              obtain ⟨b5, off5, rfl, hb5, c5⟩ := hIn.at_ hlq
              have Hone := Lib.hid (RoundT.one HV.out HRq.out hlq hlt)
              have Hnone := Lib.hid (fun (h : (pulled step cur c (nearL g c)[q3].toNat).2 < (pulled step cur c (nearL g c)[q3].toNat).1) tt => Tightening.none (tt := tt) H0.out Hst.out HRq.out.1 hlt (d := (nearL g c)[q3].toNat) (List.mem_map.2 ⟨_, List.getElem_mem hlq, rfl⟩) h)
              have hb5n : ¬ b5 = gb := by
                have := HF4.out _ _ _ rfl
                simp only at this
                omega
              clear hIn
              generalize (nearL g c)[q3] = dz at *
              obtain ⟨d, rfl⟩ : ∃ d : Nat, dz = d := ⟨dz.toNat, by omega⟩
              have hd0 : (0 : Int) ≤ (d : Int) := by omega
              have hd1 : (d : Int) < g.ss.length := by omega
              have hdl : d < cur.length := by omega
              have hcc : c < cur.length := by omega
              have hc0 : (0 : Int) ≤ (c : Int) := by omega
              have hc1 : (c : Int) < g.ss.length := by omega
              rw [Int.toNat_natCast] at Hone Hnone
              obtain ⟨c6, c7⟩ := own_spans_at Hown.out hdl
              obtain ⟨c8, c9⟩ := own_spans_at Hown.out hcc
              rw [← (lo_at hdl).1] at c6
              rw [← (lo_at hdl).2] at c7
              rw [← (lo_at hcc).1] at c8
              rw [← (lo_at hcc).2] at c9
              have e1 := ok_of HV.out (c := c) hlt
              have e2 := ok_of HV.out (c := d) (by omega)
              have e3 := HRq.out.1.st c hlt
              have e4 := HRq.out.1.st d (by omega)
              have e5 := HRq.out.1.ok c hlt
              have e6 := HRq.out.1.ok d (by omega)
              have hs0 : 0 ≤ step := Hst.out.1
              have hs1 : step ≤ 2400000 := Hst.out.2
              have s1 : IntKind.i64.wrap (loF cur d - step) = loF cur d - step := IntWalk.i64_in _ (by omega)
              have s2 : IntKind.i64.wrap (hiF cur d + step) = hiF cur d + step := IntWalk.i64_in _ (by omega)
              have Hp : Hid (pulled step cur c d = (max (loF cur c) (loF cur d - step), min (hiF cur c) (hiF cur d + step))) := rfl
              have Hse : Hid (∀ s : Int × Int, s = (loF cur c, hiF cur c) ↔ s.1 = loF cur c ∧ s.2 = hiF cur c) := fun s => ⟨fun h => by rw [h]; exact ⟨rfl, rfl⟩, fun h => Prod.ext h.1 h.2⟩
              clear e1 e2 e3 e4 e5 e6 hd
              generalize loF cur d = p1 at *
              generalize hiF cur d = p2 at *
              generalize ha1 : loF cur c = a1 at *
              generalize ha2 : hiF cur c = a2 at *
              have Ha1 := Lib.hid ha1
              have Ha2 := Lib.hid ha2
              clear ha1 ha2
              have h8lt' := H8.out.lt
              have y3 := (grid_parts H8.out).2.2.2
              have hgw : gb < wr.heap.size := (Hown.out.lt _ rfl).2
              have hbw : b5 < wr.heap.size := by omega
              have n1 : ¬ gb = wr.heap.size := by omega
              have n2 : ¬ b5 = wr.heap.size := by omega
              have n3 : ¬ w3.heap.size = wr.heap.size := by omega
              have hka : ∀ o : Obj, (wr.alloc o).cell? ⟨w3.heap.size, 3, none⟩ = some (.slice (some ⟨gb, 0, none⟩) g.ss.length cap) ∧ (wr.alloc o).cell? ⟨b5, off5 + q3, none⟩ = some (.int .i64 d) ∧ (wr.alloc o).cell? ⟨gb, d * 2, none⟩ = some (.int .i64 p1) ∧ (wr.alloc o).cell? ⟨gb, d * 2 + 1, none⟩ = some (.int .i64 p2) :=
                fun o => ⟨(World.cell?_of_block (Below.heap_alloc _ _ _ h8lt')).trans y3, (World.cell?_of_block (Below.heap_alloc _ _ _ hbw)).trans c5, (World.cell?_of_block (Below.heap_alloc _ _ _ hgw)).trans c6, (World.cell?_of_block (Below.heap_alloc _ _ _ hgw)).trans c7⟩
              have HKA := Lib.hid hka
              clear hka
              go_upto_region 17 with (fail)
              go_cut [12] from 43 to 50 (fun s wx => s = .pointer (some ⟨wr.heap.size, 0, none⟩) ∧ wx = ((wr.alloc (.cells #[.int .i64 p1, .int .i64 p2] 34)).drew))
              case first =>
                go_region_held3 (fun w' => w'.cell? ⟨w3.heap.size, 3, none⟩ = some (.slice (some ⟨gb, 0, none⟩) g.ss.length cap) ∧ w'.cell? ⟨b5, off5 + q3, none⟩ = some (.int .i64 d) ∧ w'.cell? ⟨gb, d * 2, none⟩ = some (.int .i64 p1) ∧ w'.cell? ⟨gb, d * 2 + 1, none⟩ = some (.int .i64 p2))
                  (first | assumption | (refine ⟨?_, ?_, ?_, ?_⟩ <;> assumption) | exact HKA.out _ | go_keep)
                  (fail)
                all_goals
                  go_wp2_with fail
                  all_goals
                    go_meet
                    exact ⟨rfl, rfl⟩
              case rest =>
                obtain ⟨rfl, rfl⟩ := hcut
                have HOa : Hid ((((wr.alloc (.cells #[.int .i64 p1, .int .i64 p2] 34)).drew)).ownsRow w1.heap.size 34 2 (.slice (some ⟨gb, 0, none⟩) g.ss.length cap) g.ss.length (spanCells cur)) := (Hown.out.alloc _).drew
                have H8a : Hid (Blk (((wr.alloc (.cells #[.int .i64 p1, .int .i64 p2] 34)).drew)) w3.heap.size 24 #[.int .i64 g.W, .int .i64 g.H, .int .i64 g.S, .slice (some ⟨gb, 0, none⟩) g.ss.length cap]) := Blk.drew (Blk.alloc H8.out _)
                have HNa : Hid (Blk (((wr.alloc (.cells #[.int .i64 p1, .int .i64 p2] 34)).drew)) wr.heap.size 34 #[.int .i64 p1, .int .i64 p2]) := Blk.drew (Blk.new' _ _ _ rfl)
                have HBa : Hid (Below w1.heap.size w1 (((wr.alloc (.cells #[.int .i64 p1, .int .i64 p2] 34)).drew))) := Below.drew (HBq.out.alloc (by omega) _)
                have HOna : Hid (Only gb w4 (((wr.alloc (.cells #[.int .i64 p1, .int .i64 p2] 34)).drew))) := HOn.out.alloc _
                have hsa : (((wr.alloc (.cells #[.int .i64 p1, .int .i64 p2] 34)).drew)).heap.size = wr.heap.size + 1 := by simp
                have Hsa := Lib.hid hsa
                clear c5 c6 c7 c8 c9 y3 n2 n3 hbw HKA
                generalize (((wr.alloc (.cells #[.int .i64 p1, .int .i64 p2] 34)).drew)) = wa at *
                have y3 := (grid_parts H8a.out).2.2.2
                have k0 := HNa.out.cell 0
                have k1 := HNa.out.cell 1
                simp only [List.getElem?_toArray, List.getElem?_cons_zero, List.getElem?_cons_succ] at k0 k1
                obtain ⟨c8, c9⟩ := own_spans_at HOa.out hcc
                rw [(lo_at hcc).1.symm.trans Ha1.out] at c8
                rw [(lo_at hcc).2.symm.trans Ha2.out] at c9
                have m1 : w3.heap.size < wa.heap.size := by omega
                have m2 : gb < wa.heap.size := by omega
                have m3 : wr.heap.size < wa.heap.size := by omega
                have m4 : ¬ w3.heap.size = wa.heap.size := by omega
                have m5 : ¬ gb = wa.heap.size := by omega
                have m6 : ¬ wr.heap.size = wa.heap.size := by omega
                have hkb : ∀ o : Obj, (wa.alloc o).cell? ⟨w3.heap.size, 3, none⟩ = some (.slice (some ⟨gb, 0, none⟩) g.ss.length cap) ∧ (wa.alloc o).cell? ⟨gb, c * 2, none⟩ = some (.int .i64 a1) ∧ (wa.alloc o).cell? ⟨gb, c * 2 + 1, none⟩ = some (.int .i64 a2) ∧ (wa.alloc o).cell? ⟨wr.heap.size, 0, none⟩ = some (.int .i64 p1) ∧ (wa.alloc o).cell? ⟨wr.heap.size, 1, none⟩ = some (.int .i64 p2) :=
                  fun o => ⟨(World.cell?_of_block (Below.heap_alloc _ _ _ m1)).trans y3, (World.cell?_of_block (Below.heap_alloc _ _ _ m2)).trans c8, (World.cell?_of_block (Below.heap_alloc _ _ _ m2)).trans c9, (World.cell?_of_block (Below.heap_alloc _ _ _ m3)).trans k0, (World.cell?_of_block (Below.heap_alloc _ _ _ m3)).trans k1⟩
                have HKB := Lib.hid hkb
                clear hkb
                clear hsa
                go_upto_region 18 with (fail)
                go_cut [13] from 51 to 73 (fun s wx => s = .pointer (some ⟨wa.heap.size, 0, none⟩) ∧ wx = ((wa.alloc (.cells #[.int .i64 (max a1 (p1 - step)), .int .i64 (min a2 (p2 + step))] 34)).drew))
                case first =>
                  go_region_held3 (fun w' => w'.cell? ⟨w3.heap.size, 3, none⟩ = some (.slice (some ⟨gb, 0, none⟩) g.ss.length cap) ∧ w'.cell? ⟨gb, c * 2, none⟩ = some (.int .i64 a1) ∧ w'.cell? ⟨gb, c * 2 + 1, none⟩ = some (.int .i64 a2) ∧ w'.cell? ⟨wr.heap.size, 0, none⟩ = some (.int .i64 p1) ∧ w'.cell? ⟨wr.heap.size, 1, none⟩ = some (.int .i64 p2))
                    (first | assumption | (refine ⟨?_, ?_, ?_, ?_, ?_⟩ <;> assumption) | exact HKB.out _ | go_keep)
                    (fail)
                  all_goals
                    go_wp2_with fail
                    all_goals
                      go_meet
                      exact ⟨rfl, alloc_eq (by omega) (by omega)⟩
                case rest =>
                  obtain ⟨rfl, rfl⟩ := hcut
                  have HOb : Hid ((((wa.alloc (.cells #[.int .i64 (max a1 (p1 - step)), .int .i64 (min a2 (p2 + step))] 34)).drew)).ownsRow w1.heap.size 34 2 (.slice (some ⟨gb, 0, none⟩) g.ss.length cap) g.ss.length (spanCells cur)) := (HOa.out.alloc _).drew
                  have H8b : Hid (Blk (((wa.alloc (.cells #[.int .i64 (max a1 (p1 - step)), .int .i64 (min a2 (p2 + step))] 34)).drew)) w3.heap.size 24 #[.int .i64 g.W, .int .i64 g.H, .int .i64 g.S, .slice (some ⟨gb, 0, none⟩) g.ss.length cap]) := Blk.drew (Blk.alloc H8a.out _)
                  have HTb : Hid (Blk (((wa.alloc (.cells #[.int .i64 (max a1 (p1 - step)), .int .i64 (min a2 (p2 + step))] 34)).drew)) wa.heap.size 34 #[.int .i64 (max a1 (p1 - step)), .int .i64 (min a2 (p2 + step))]) := Blk.drew (Blk.new' _ _ _ rfl)
                  have HBb : Hid (Below w1.heap.size w1 (((wa.alloc (.cells #[.int .i64 (max a1 (p1 - step)), .int .i64 (min a2 (p2 + step))] 34)).drew))) := Below.drew (HBa.out.alloc (by omega) _)
                  have HOnb : Hid (Only gb w4 (((wa.alloc (.cells #[.int .i64 (max a1 (p1 - step)), .int .i64 (min a2 (p2 + step))] 34)).drew))) := HOna.out.alloc _
                  clear c8 c9 y3 k0 k1 HKB s1 s2
                  generalize (((wa.alloc (.cells #[.int .i64 (max a1 (p1 - step)), .int .i64 (min a2 (p2 + step))] 34)).drew)) = wb at *
                  generalize max a1 (p1 - step) = mx at *
                  generalize min a2 (p2 + step) = mn at *
                  have t0 := HTb.out.cell 0
                  have t1 := HTb.out.cell 1
                  simp only [List.getElem?_toArray, List.getElem?_cons_zero, List.getElem?_cons_succ] at t0 t1
                  by_cases he : mn < mx
                  · have Hr : Hid (∀ tt, Tightened g step tt → ((14 : Int), zeroG) = tightR g step tt) := Hnone.out (by rw [Hp.out]; exact he)
                    have hz := zero_parts (HBB1.out.2.below HBb.out (by omega))
                    have z0 := hz.1.1
                    have z1 := hz.1.2.1
                    have z2 := hz.1.2.2.1
                    have z3 := hz.1.2.2.2
                    have f0 := hz.2.1
                    have f1 := hz.2.2.1
                    have f2 := hz.2.2.2.1
                    have f3 := hz.2.2.2.2
                    clear hz
                    go_wp2
                    refine bodyPost_ret (v := .tuple #[.agg #[.int .i64 0, .int .i64 0, .int .i64 0, .slice none 0 0], .int .i64 14]) (by simp [results, Tryz.results34, go_sem, z0, z1, z2, z3, f0, f1, f2, f3]) rfl ?_
                    exact ⟨_, (14, zeroG), rfl, grid_zero _ _, (HB1.out.trans (HBb.out.mono HB1.out.size)).trans (by repeat (first | exact Below.refl _ _ | assumption | refine Below.drew ?_ | refine Below.drewN' ?_ _ | (refine Below.alloc ?_ (by simp <;> omega) _) | (refine Below.setCell ?_ (by simp <;> omega) _))), fun tt ht => Hr.out tt (ht H0.out Hst.out)⟩
                  · have Hy := Lib.hid (Hone.out (by rw [Hp.out]; simp only; omega))
                    have y3 := (grid_parts H8b.out).2.2.2
                    obtain ⟨c8, c9⟩ := own_spans_at HOb.out hcc
                    rw [(lo_at hcc).1.symm.trans Ha1.out] at c8
                    rw [(lo_at hcc).2.symm.trans Ha2.out] at c9
                    have f8 := HOb.out.frozenAt (c * 2)
                    have f9 := HOb.out.frozenAt (c * 2 + 1)
                    have HO' := own_spans_set HOb.out hcc mx mn
                    have HO'' := Lib.hid HO'
                    clear HO'
                    have hgn : ¬ gb = w3.heap.size := by omega
                    cases more with
                    | true =>
                      have Hy2 := Lib.hid (Hy.out true rfl)
                      clear Hy
                      go_wp2
                      go_quiet (fail)
                      go_wp2
                      go_roundw
                      case rel =>
                        have h := Hy2.out
                        rw [Hp.out] at h
                        refine ⟨q3 + 1, true, _, rfl, by omega, by go_num, own_far HO''.out (fun _ _ => rfl), h, ?_, ?_, ?_⟩
                        · exact (HOnb.out.set.set).drewN _
                        · exact ((H8b.out.far_ (p := ⟨gb, c * 2, none⟩) (Ne.symm hgn) _).far_ (p := ⟨gb, c * 2 + 1, none⟩) (Ne.symm hgn) _).drewN _
                        · exact Below.drewN' ((HBb.out.setCell (by exact hgb.1) _).setCell (by exact hgb.1) _) _
                      case measure => simp [intOf]; omega
                    | false =>
                      have hne := fun W : World => neq_span W mx mn a1 a2
                      have hgd := fun W : World => Go.run_eqGuard_agg (P := Tryz.prog) W .neq 34 (.tmp 82) (.tmp 87) #[.int .i64 mx, .int .i64 mn] #[.int .i64 a1, .int .i64 a2] span_guard
                      go_wp2
                      go_quiet (fail)
                      go_wp2
                      go_roundw
                      case rel =>
                        have h := Hy.out (!(mx == a1) || !(mn == a2)) (by
                          rw [Hp.out, Bool.false_or, ← Bool.not_and, Bool.eq_iff_iff]
                          simp [Prod.ext_iff])
                        rw [Hp.out] at h
                        refine ⟨q3 + 1, _, _, rfl, by omega, by go_num, own_far HO''.out (fun _ _ => rfl), h, ?_, ?_, ?_⟩
                        · exact (HOnb.out.set.set).drewN _
                        · exact ((H8b.out.far_ (p := ⟨gb, c * 2, none⟩) (Ne.symm hgn) _).far_ (p := ⟨gb, c * 2 + 1, none⟩) (Ne.symm hgn) _).drewN _
                        · exact Below.drewN' ((HBb.out.setCell (by exact hgb.1) _).setCell (by exact hgb.1) _) _
                      case measure => simp [intOf]; omega
            · have HX : Hid (RoundT g step cur0 cur more (∀ d, d < c + 1 → CalmT g step cur d (nearL g d).length)) := by
                have h := HRq.out
                rw [show q3 = (nearL g c).length by omega] at h
                exact h.next
              go_wp2
              go_roundw
              case rel => exact ⟨c + 1, more, cur, rfl, by omega, by go_num, Hown.out, HX.out, H8.out, HBq.out⟩
              case measure => simp [intOf]; omega
        · have hc' : c = g.ss.length := by omega
          have HX : Hid (∃ n', n' < gk ∧ 2 * widths g cur + (if more then 1 else 0) ≤ n') := by
            have h1 := Hn.out
            rcases HRd.out.2 with ⟨h2, h3, _⟩ | ⟨h2, h3⟩
            · refine ⟨2 * widths g cur, ?_, ?_⟩
              · rw [h3]; simp at h1; omega
              · rw [h2]; simp
            · refine ⟨2 * widths g cur + 1, ?_, ?_⟩
              · simp at h1; omega
              · rw [h2]; simp
          have HY2 : Hid (more = false → ∀ d, d < g.ss.length → CalmT g step cur d (nearL g d).length) := by
            intro hm
            rcases HRd.out.2 with ⟨_, _, h4⟩ | ⟨h2, _⟩
            · exact fun d hd => h4 d (by omega)
            · rw [hm] at h2; cases h2
          have HRe := Lib.hid HRd.out.1
          clear hBr Hown0 HRd hc'
          go_wp2
          obtain ⟨n', hn1, hn2⟩ := HX.out
          go_roundg n'
          case measure => exact hn1
          case rel => exact ⟨more, cur, rfl, Hown.out, HRe.out, HY2.out, hn2, H8.out, HBr.out⟩
end Go.Proofs.YthcenmocnphnmaaGreatDoor
