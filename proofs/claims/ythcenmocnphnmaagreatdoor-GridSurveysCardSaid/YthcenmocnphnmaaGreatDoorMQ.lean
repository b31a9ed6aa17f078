/-
  The reference: sills.
-/
import Derived.Test.YthcenmocnphnmaaGreatDoorMP
import Derived.Deep.LoopGhost
set_option linter.unusedSimpArgs false
set_option linter.unusedVariables false
namespace Go.Proofs.YthcenmocnphnmaaGreatDoor
open Go.RowKit Go.Shelf

theorem val_eq {l : List Int} {c : Nat} (h : c < l.length) : val l c = l[c] := by
  unfold val
  rw [List.getD_eq_getElem?_getD, List.getElem?_eq_getElem h]
  rfl
/-- the beginning of the relaxation -/
structure Starting (g : G) (ht : Nat → Int) (sts : List Nat) (a : Int) (k : Nat) (out : List Int) : Prop where
  len : out.length = g.ss.length
  way : ∀ c, c < g.ss.length → val out c = 1073741824 ∨ WayW g ht sts a c (val out c)
  sts : ∀ c, c ∈ stW (sts.take k) a → val out c ≤ ht c
  off : ∀ c : Nat, c < g.ss.length → (c : Int) = a → val out c = 1073741824
theorem val_replicate {N c : Nat} {z : Int} (h : c < N) : val (List.replicate N z) c = z := by
  rw [val_eq (by simpa using h)]
  simp
theorem Starting.init (g : G) (ht : Nat → Int) (sts : List Nat) (a : Int) : Starting g ht sts a 0 (List.replicate g.ss.length 1073741824) :=
  ⟨by simp, fun _ hc => .inl (val_replicate hc), fun c hc => by simp [stW] at hc, fun _ hc _ => val_replicate hc⟩
section
variable {g : G} {ht : Nat → Int} {sts : List Nat} {a : Int} {k : Nat} {out : List Int}
theorem Starting.skip (h : Starting g ht sts a k out) (hk : k < sts.length) (ha : (sts[k] : Int) = a) : Starting g ht sts a (k + 1) out := by
  refine ⟨h.len, h.way, fun c hc => ?_, h.off⟩
  rw [stW, take_snoc sts k hk, List.filter_append] at hc
  rcases List.mem_append.1 hc with e | e
  · exact h.sts c e
  · have := List.mem_filter.1 e
    simp at this
    omega
theorem Starting.put (h : Starting g ht sts a k out) (hk : k < sts.length) (hc : sts[k] < g.ss.length) (ha : (sts[k] : Int) ≠ a) : Starting g ht sts a (k + 1) (out.set sts[k] (ht sts[k])) := by
  have hl : sts[k] < out.length := by rw [h.len]; exact hc
  refine ⟨by rw [List.length_set]; exact h.len, fun c hcl => ?_, fun c hm => ?_, fun c hcl e => ?_⟩
  · rw [val_set hl]
    split
    · rename_i e
      subst e
      exact .inr (Way.start (List.mem_filter.2 ⟨List.getElem_mem hk, by simpa using ha⟩))
    · exact h.way c hcl
  · rw [val_set hl]
    split
    · rename_i e; subst e; exact Int.le_refl _
    · rename_i e
      rw [stW, take_snoc sts k hk, List.filter_append] at hm
      rcases List.mem_append.1 hm with e1 | e1
      · exact h.sts c e1
      · have := (List.mem_filter.1 e1).1
        simp at this
        exact absurd this e
  · rw [val_set hl, if_neg (by rintro rfl; exact ha e)]
    exact h.off c hcl e
theorem Starting.relaxing (h : Starting g ht sts a sts.length out) (ha : a < g.ss.length) : Relaxing g ht sts a out := by
  refine ⟨h.len, h.way, fun c hc => h.sts c (by rw [List.take_length]; exact hc), fun c e => h.off c (by omega) e⟩
end

/-- what holds within a round -/
def Round (g : G) (ht : Nat → Int) (sts : List Nat) (a : Int) (out0 out : List Int) (more : Bool) (P : Prop) : Prop :=
  Relaxing g ht sts a out ∧ ((more = false ∧ out = out0 ∧ P) ∨ (more = true ∧ lefts g out + 1 ≤ lefts g out0))
theorem Round.yes {g : G} (V : Valid g) {ht : Nat → Int} {sts : List Nat} {a : Int} {out0 out : List Int} {more : Bool} {P P' : Prop} (hM : ∀ c, c < g.ss.length → -1200000 ≤ ht c ∧ ht c ≤ 1200000) (hst : ∀ c, c ∈ sts → c < g.ss.length) (h : Round g ht sts a out0 out more P) {c d : Nat} (hc : c < g.ss.length) (hca : (c : Int) ≠ a) (hd : d ∈ (nearL g c).map Int.toNat) (hlt : max (val out d) (ht c) < val out c) :
    Round g ht sts a out0 (out.set c (max (val out d) (ht c))) true P' := by
  have hl := lefts_set h.1.len hc hlt (by have := (hM c hc).1; omega)
  refine ⟨h.1.set V (fun c hc => (hM c hc).2) hst hc hca hd hlt, .inr ⟨rfl, ?_⟩⟩
  rcases h.2 with ⟨_, e, _⟩ | ⟨_, e⟩
  · rw [← e]; exact hl
  · omega
theorem Round.no {g : G} {ht : Nat → Int} {sts : List Nat} {a : Int} {out0 out : List Int} {more : Bool} {c q : Nat} (h : Round g ht sts a out0 out more ((∀ d, d < c → Calm g ht a out d (nearL g d).length) ∧ Calm g ht a out c q)) (hq : q < (nearL g c).length) (hlt : ¬ max (val out (nearL g c)[q].toNat) (ht c) < val out c) :
    Round g ht sts a out0 out more ((∀ d, d < c → Calm g ht a out d (nearL g d).length) ∧ Calm g ht a out c (q + 1)) := by
  refine ⟨h.1, ?_⟩
  rcases h.2 with ⟨h1, h2, h3, h4⟩ | h
  · refine .inl ⟨h1, h2, h3, fun hca d hd => ?_⟩
    rw [take_snoc _ q (by simpa using hq)] at hd
    rcases List.mem_append.1 hd with e | e
    · exact h4 hca d e
    · simp only [List.getElem_map, List.mem_singleton] at e
      subst e
      omega
  · exact .inr h
theorem Round.next {g : G} {ht : Nat → Int} {sts : List Nat} {a : Int} {out0 out : List Int} {more : Bool} {c : Nat} (h : Round g ht sts a out0 out more ((∀ d, d < c → Calm g ht a out d (nearL g d).length) ∧ Calm g ht a out c (nearL g c).length)) :
    Round g ht sts a out0 out more (∀ d, d < c + 1 → Calm g ht a out d (nearL g d).length) := by
  refine ⟨h.1, ?_⟩
  rcases h.2 with ⟨h1, h2, h3, h4⟩ | h
  · refine .inl ⟨h1, h2, fun d hd => ?_⟩
    by_cases e : d = c
    · subst e; exact h4
    · exact h3 d (by omega)
  · exact .inr h
/-- the heap is the same but for one block -/
def Only (B : Nat) (w w' : World) : Prop := w.heap.size ≤ w'.heap.size ∧ ∀ j, j < w.heap.size → j ≠ B → w'.heap[j]? = w.heap[j]?
theorem Only.refl (B : Nat) (w : World) : Only B w w := ⟨Nat.le_refl _, fun _ _ _ => rfl⟩
theorem Only.set {B o : Nat} {w w' : World} {v : Value} (h : Only B w w') : Only B w (w'.setCell ⟨B, o, none⟩ v) :=
  ⟨by simpa [World.setCell] using h.1, fun j h1 h2 => (Below.heap_setCell _ _ _ _ (by exact h2)).trans (h.2 j h1 h2)⟩
theorem Only.drewN {B : Nat} {w w' : World} (h : Only B w w') (n : Nat) : Only B w (w'.drewN n) := h
theorem IntsAt.only {B base : Nat} {w w' : World} {v : Value} {l : List Int} (h : IntsAt w w.heap.size v l) (hf : Fresh base v) (hb : B < base) (ho : Only B w w') : IntsAt w' w'.heap.size v l :=
  (Reads.fresh h hf (fun p hp hp' => World.cell?_of_block (ho.2 p.block hp' (by omega)))).more ho.1

def RsOut (g : G) (hl : List Int) (sts : List Nat) (a : Int) (w : World) (e : Ending) (w' : World) : Prop := ∃ v out, e = .returned v ∧ IntsAt w' w'.heap.size v out ∧ Below w.heap.size w w' ∧ Relaxed g (val hl) sts a out
set_option maxRecDepth 100000 in
set_option maxHeartbeats 8000000 in
theorem rsills_any (x y z : Value) (g : G) (hl : List Int) (sts : List Nat) (a : Int) (w : World) (hg : GridAt w w.heap.size x g) (hh : IntsAt w w.heap.size y hl) (hz : IntsAt w w.heap.size z (sts.map fun (c : Nat) => (c : Int))) (V : Valid g) (hlen : hl.length = g.ss.length)
    (hbd : ∀ c, c < g.ss.length → -1200000 ≤ val hl c ∧ val hl c ≤ 1200000) (hst : ∀ c, c ∈ sts → c < g.ss.length) (ha : -1 ≤ a) (ha' : a < g.ss.length) :
    Calls Tryz.prog 60 #[x, y, z, .int .i64 a] w (RsOut g hl sts a w) := by
  have HG := Lib.hid hg
  obtain ⟨v, rfl, hs⟩ := hg
  obtain ⟨A, k, rfl, hk, hm⟩ := hs.open_
  have HY := Lib.hid hh
  obtain ⟨A1, k1, ey, hk1, hm1⟩ := hh.open_
  rw [hlen] at ey hk1 hm1
  subst ey
  have HZ := Lib.hid hz
  obtain ⟨A2, k2, ez, hk2, hm2⟩ := hz.open_
  rw [List.length_map] at ez hk2 hm2
  subst ez
  have Hlen := Lib.hid hlen
  have HV := Lib.hid V
  have hsm := V.small
  have hps := V.pos
  have Hbd := Lib.hid hbd
  have Hst := Lib.hid hst
  have hB : Below w.heap.size w (w.alloc (.cells #[.int .i64 g.W, .int .i64 g.H, .int .i64 g.S, .slice A g.ss.length k] 24)) := (by repeat (first | exact Below.refl _ _ | assumption | refine Below.drew ?_ | refine Below.drewN' ?_ _ | (refine Below.alloc ?_ (by simp <;> omega) _) | (refine Below.setCell ?_ (by simp <;> omega) _)))
  have HB := Lib.hid hB
  have b0 : Blk (w.alloc (.cells #[.int .i64 g.W, .int .i64 g.H, .int .i64 g.S, .slice A g.ss.length k] 24)) w.heap.size 24 #[.int .i64 g.W, .int .i64 g.H, .int .i64 g.S, .slice A g.ss.length k] := Blk.new' _ _ _ rfl
  have HBB := Lib.hid b0
  obtain ⟨i0, hi0, hz0, hz1, hz2⟩ := info_parts int_info
  have hmk := fun W => run_make_rowN (P := Tryz.prog) 26 3 i0 _ Tryz.underlying26 hi0 hz0 .i64 .i64 g.ss.length g.ss.length (Nat.le_refl _) (by rw [hz2]; omega) (by omega) W
  rw [hz1] at hmk
  simp only [Value.cells] at hmk
  have HO0 := Lib.hid (own_made (w.alloc (.cells #[.int .i64 g.W, .int .i64 g.H, .int .i64 g.S, .slice A g.ss.length k] 24)) 3 #[.int .i64 0] g.ss.length 1 (w.heap.size + 1) (by simp) (by omega))
  clear hs hh hz V hbd hst hB b0 hi0 hz0 hz1 hz2 hlen
  go_enter Tryz.func60, Tryz.ntmps60
  go_wp2
  go_loopw [10] (fun i wr => ∃ q : Nat, q ≤ g.ss.length ∧ i = .int .i64 q ∧ Hid (wr.ownsRow (w.heap.size + 1) 3 1 (.slice (some ⟨w.heap.size + 1, 0, none⟩) g.ss.length g.ss.length) g.ss.length ((fill (List.replicate g.ss.length (1073741824 : Int)) 0 q).map (Value.int .i64))) ∧ Below (w.heap.size + 1) (w.alloc (.cells #[.int .i64 g.W, .int .i64 g.H, .int .i64 g.S, .slice A g.ss.length k] 24)) wr) (fun i _ => g.ss.length - (intOf i).toNat)
  case atStart =>
    refine ⟨0, Nat.zero_le _, rfl, ?_, (by repeat (first | exact Below.refl _ _ | assumption | refine Below.drew ?_ | refine Below.drewN' ?_ _ | (refine Below.alloc ?_ (by simp <;> omega) _) | (refine Below.setCell ?_ (by simp <;> omega) _)))⟩
    have h := HO0.out
    rw [Nat.mul_one, madeCells_ints] at h
    rw [fill_zero, List.length_replicate]
    simpa [Hid] using h
  case round =>
    obtain ⟨q, hq, rfl, Hown, hBr⟩ := hrel
    clear HO0 hmk
    have HBr := Lib.hid hBr
    clear hBr
    by_cases hlt : q < g.ss.length
    · have hss : q < (fill (List.replicate g.ss.length (1073741824 : Int)) 0 q).length := by rw [fill_length, List.length_replicate]; exact hlt
      have c3 := own_ints_at Hown.out hss
      have f3 := Hown.out.frozenAt q
      go_wp2
      go_roundw
      case rel =>
        refine ⟨q + 1, by omega, by go_num, ?_, HBr.out.setCell (by simp) _⟩
        have h := own_ints_set Hown.out q 1073741824
        have e : (fill (List.replicate g.ss.length (1073741824 : Int)) 0 q).set q 1073741824 = fill (List.replicate g.ss.length (1073741824 : Int)) 0 (q + 1) := by
          have hl : q < (List.replicate g.ss.length (1073741824 : Int)).length := by rw [List.length_replicate]; exact hlt
          have := fill_set (z := 0) hl
          rw [List.getElem_replicate] at this
          exact this
        rw [e] at h
        exact h
      case measure => simp [intOf]; omega
    · have hq' : q = g.ss.length := by omega
      have HO : Hid (wr.ownsRow (w.heap.size + 1) 3 1 (.slice (some ⟨w.heap.size + 1, 0, none⟩) g.ss.length g.ss.length) g.ss.length ((List.replicate g.ss.length (1073741824 : Int)).map (Value.int .i64))) := by
        have h := Hown.out
        have e := fill_all (l := List.replicate g.ss.length (1073741824 : Int)) (z := 0)
        rw [List.length_replicate] at e
        rw [hq', e] at h
        exact h
      clear Hown hq'
      go_wp2
      go_loopw [11] (fun i wr => ∃ (q : Nat) (out : List Int), q ≤ sts.length ∧ i = .int .i64 q ∧ Hid (wr.ownsRow (w.heap.size + 1) 3 1 (.slice (some ⟨w.heap.size + 1, 0, none⟩) g.ss.length g.ss.length) g.ss.length (out.map (Value.int .i64))) ∧ Hid (Starting g (val hl) sts a q out) ∧ Below (w.heap.size + 1) (w.alloc (.cells #[.int .i64 g.W, .int .i64 g.H, .int .i64 g.S, .slice A g.ss.length k] 24)) wr) (fun i _ => sts.length - (intOf i).toNat)
      case atStart => exact ⟨0, _, Nat.zero_le _, rfl, HO.out, Starting.init _ _ _ _, HBr.out⟩
      case round =>
        obtain ⟨q2, out, hq2, rfl, Hown, Hsta, hBr⟩ := hrel
        clear HO HBr
        have HBr := Lib.hid hBr
        have hsz := hBr.size
        simp only [World.size_alloc] at hsz
        have HBw := Lib.hid (HB.out.trans (hBr.mono (by omega)))
        have hol : out.length = g.ss.length := Hsta.out.len
        have Hol := Lib.hid hol
        clear hBr
        by_cases hlt2 : q2 < sts.length
        · obtain ⟨bb, off, rfl, hbb, c1⟩ := (HZ.out.below HBw.out).at_ (k := q2) (by simpa using hlt2)
          rw [List.getElem_map] at c1
          have hc := Hst.out _ (List.getElem_mem hlt2)
          have Hskip := Lib.hid (fun e => Hsta.out.skip hlt2 e)
          have Hput := Lib.hid (fun e => Hsta.out.put hlt2 hc e)
          obtain ⟨c, hcq⟩ : ∃ c, c = sts[q2] := ⟨_, rfl⟩
          rw [← hcq] at c1 hc Hskip Hput
          clear hcq
          have hc0 : (0 : Int) ≤ (c : Int) := by omega
          have hc1 : (c : Int) < g.ss.length := by omega
          obtain ⟨b2, off2, rfl, hb2, c2⟩ := (HY.out.below HBw.out).at_ (k := c) (by rw [Hlen.out]; exact hc)
          rw [← val_eq] at c2
          have c3 := own_ints_at Hown.out (k := c) (by omega)
          have f3 := Hown.out.frozenAt c
          by_cases hca : (c : Int) = a
          · have hca' : ((c : Int) != a) = false := by simpa using hca
            have Hn := Lib.hid (Hskip.out hca)
            clear hca
            go_wp2
            go_roundw
            case rel => exact ⟨q2 + 1, out, by omega, by go_num, Hown.out, Hn.out, HBr.out⟩
            case measure => simp [intOf]; omega
          · have hca' : ((c : Int) != a) = true := by simpa using hca
            have Hn := Lib.hid (Hput.out hca)
            clear hca
            go_wp2
            go_region
            all_goals
              go_wp2
              go_roundw
              case rel => exact ⟨q2 + 1, _, by omega, by go_num, own_ints_set Hown.out c (val hl c), Hn.out, Below.drew (HBr.out.setCell (by simp) _)⟩
              case measure => simp [intOf]; omega
        · have hq2' : q2 = sts.length := by omega
          have HR0 : Hid (Relaxing g (val hl) sts a out) := by
            have h := Hsta.out
            rw [hq2'] at h
            exact h.relaxing ha'
          clear Hsta hq2'
          go_wp2
          go_loopg [12] (2 * lefts g out + 1) (fun n m wr => ∃ (more : Bool) (cur : List Int), m = .bool more ∧ Hid (wr.ownsRow (w.heap.size + 1) 3 1 (.slice (some ⟨w.heap.size + 1, 0, none⟩) g.ss.length g.ss.length) g.ss.length (cur.map (Value.int .i64))) ∧ Hid (Relaxing g (val hl) sts a cur) ∧ Hid (more = false → ∀ c, c < g.ss.length → Calm g (val hl) a cur c (nearL g c).length) ∧ Hid (2 * lefts g cur + (if more then 1 else 0) ≤ n) ∧ Below (w.heap.size + 1) (w.alloc (.cells #[.int .i64 g.W, .int .i64 g.H, .int .i64 g.S, .slice A g.ss.length k] 24)) wr)
          case atStart => exact ⟨true, out, rfl, Hown.out, HR0.out, (fun h => by cases h), by simp [Hid], HBr.out⟩
          case round =>
            obtain ⟨more, cur0, rfl, Hown0, HR, Hcalm, Hn, hBr0⟩ := hrel
            clear Hown HR0 HBr HBw hol Hol
            have HBr0 := Lib.hid hBr0
            clear hBr0
            cases more with
            | false =>
              have HF : Hid (Relaxed g (val hl) sts a cur0) := HR.out.done HV.out Hst.out (Hcalm.out rfl)
              have hsz := HBr0.out.size
              simp only [World.size_alloc] at hsz
              have hcl : cur0.length = g.ss.length := HR.out.len
              go_wp2
              go_ret
              have h2 := Reads.of_own Hown0.out
              rw [← hcl] at h2
              exact ⟨_, cur0, rfl, by unfold IntsAt; rw [hcl] at h2 ⊢; exact h2, HB.out.trans (HBr0.out.mono (by omega)), HF.out⟩
            | true =>
              go_wp2
              go_loopw [12, 13] (fun m i wr => ∃ (c : Nat) (more : Bool) (cur : List Int), m = .bool more ∧ c ≤ g.ss.length ∧ i = .int .i64 c ∧ Hid (wr.ownsRow (w.heap.size + 1) 3 1 (.slice (some ⟨w.heap.size + 1, 0, none⟩) g.ss.length g.ss.length) g.ss.length (cur.map (Value.int .i64))) ∧ Hid (Round g (val hl) sts a cur0 cur more (∀ d, d < c → Calm g (val hl) a cur d (nearL g d).length)) ∧ Below (w.heap.size + 1) (w.alloc (.cells #[.int .i64 g.W, .int .i64 g.H, .int .i64 g.S, .slice A g.ss.length k] 24)) wr) (fun _ i _ => g.ss.length - (intOf i).toNat)
              case atStart => exact ⟨0, false, cur0, rfl, Nat.zero_le _, rfl, Hown0.out, ⟨HR.out, .inl ⟨rfl, rfl, fun d hd => absurd hd (by omega)⟩⟩, HBr0.out⟩
              case round =>
                obtain ⟨c, more, cur, rfl, hc, rfl, Hown, HRd, hBr⟩ := hrel
                have HBr := Lib.hid hBr
                have hsz := hBr.size
                simp only [World.size_alloc] at hsz
                have HBw := Lib.hid (HB.out.trans (hBr.mono (by omega)))
                by_cases hlt : c < g.ss.length
                · obtain ⟨d0, d1, d2, d3⟩ := grid_parts (HBB.out.below hBr (by omega))
                  clear hBr Hown0
                  go_wp2_with fail
                  refine (rNeighbors_any _ g c _ (HG.out.later HBw.out (Nat.le_refl _)) HV.out hlt).mono ?_
                  rintro e w4 ⟨v4, rfl, hv4, hb4, hf4⟩
                  have HV4 := Lib.hid hv4
                  have HF4 := Lib.hid hf4
                  obtain ⟨A4, k4, rfl, hk4, hm4⟩ := hv4.open_
                  have hO4 := own_far Hown.out (fun j hj => hb4.block j (Hown.out.lt j hj).2)
                  have HO4 := Lib.hid hO4
                  have HB4 := Lib.hid (HBr.out.trans (hb4.mono (by omega)))
                  have hbase : w.heap.size + 1 < wr.heap.size := (Hown.out.lt _ rfl).2
                  obtain ⟨wo, rfl⟩ : ∃ wo : World, wo = wr := ⟨_, rfl⟩
                  clear hv4 hf4 hO4 hb4 d0 d1 d2 d3
                  go_wp2
                  go_loopw [12, 15] (fun m i wr => ∃ (q : Nat) (more : Bool) (cur : List Int), m = .bool more ∧ q ≤ (nearL g c).length ∧ i = .int .i64 q ∧ Hid (wr.ownsRow (w.heap.size + 1) 3 1 (.slice (some ⟨w.heap.size + 1, 0, none⟩) g.ss.length g.ss.length) g.ss.length (cur.map (Value.int .i64))) ∧ Hid (Round g (val hl) sts a cur0 cur more ((∀ d, d < c → Calm g (val hl) a cur d (nearL g d).length) ∧ Calm g (val hl) a cur c q)) ∧ Hid (Only (w.heap.size + 1) w4 wr) ∧ Below (w.heap.size + 1) (w.alloc (.cells #[.int .i64 g.W, .int .i64 g.H, .int .i64 g.S, .slice A g.ss.length k] 24)) wr) (fun _ i _ => (nearL g c).length - (intOf i).toNat)
                  case atStart =>
                    refine ⟨0, more, cur, rfl, Nat.zero_le _, rfl, HO4.out, ⟨HRd.out.1, ?_⟩, Only.refl _ _, HB4.out⟩
                    rcases HRd.out.2 with ⟨h1, h2, h3⟩ | h
                    · exact .inl ⟨h1, h2, h3, fun _ d hd => by simp at hd⟩
                    · exact .inr h
                  case round =>
                    obtain ⟨q3, more, cur, rfl, hq3, rfl, Hown, HRq, HOn, hBr⟩ := hrel
                    clear HRd
                    have HBq := Lib.hid hBr
                    have hcl : cur.length = g.ss.length := HRq.out.1.len
                    have Hcl := Lib.hid hcl
                    have hcv := val_eq (l := cur) (c := c) (by omega)
                    have hszq := hBr.size
                    simp only [World.size_alloc] at hszq
                    have HBwq := Lib.hid (HB.out.trans (hBr.mono (by omega)))
                    clear hBr
                    by_cases hca : (c : Int) = a
                    · have hca' : ((c : Int) != a) = false := by simpa using hca
                      have Hca := Lib.hid hca
                      have HX : Hid (Round g (val hl) sts a cur0 cur more (∀ d, d < c + 1 → Calm g (val hl) a cur d (nearL g d).length)) := by
                        refine ⟨HRq.out.1, ?_⟩
                        rcases HRq.out.2 with ⟨h1, h2, h3, h4⟩ | h
                        · refine .inl ⟨h1, h2, fun d hd => ?_⟩
                          by_cases e : d = c
                          · subst e
                            intro hne
                            exact absurd Hca.out hne
                          · exact h3 d (by omega)
                        · exact .inr h
                      clear hca
                      by_cases hlq : q3 < (nearL g c).length
                      · go_wp2
                        go_roundw
                        case rel => exact ⟨c + 1, more, cur, rfl, by omega, by go_num, Hown.out, HX.out, HBq.out⟩
                        case measure => simp [intOf]; omega
                      · go_wp2
                        go_roundw
                        case rel => exact ⟨c + 1, more, cur, rfl, by omega, by go_num, Hown.out, HX.out, HBq.out⟩
                        case measure => simp [intOf]; omega
                    · have hca' : ((c : Int) != a) = true := by simpa using hca
                      have Hca := Lib.hid hca
                      clear hca
                      by_cases hlq : q3 < (nearL g c).length
                      · have hd := nearL_rng HV.out hlt _ (List.getElem_mem hlq)
                        have hIn := HV4.out.only HF4.out hbase HOn.out
                        obtain ⟨b5, off5, rfl, hb5, c5⟩ := hIn.at_ hlq
                        have Hno := Lib.hid (fun h => Round.no HRq.out hlq h)
                        have hdm : (nearL g c)[q3].toNat ∈ (nearL g c).map Int.toNat := List.mem_map.2 ⟨_, List.getElem_mem hlq, rfl⟩
                        have Hdm := Lib.hid hdm
                        clear hdm hIn
                        generalize (nearL g c)[q3] = dz at *
                        obtain ⟨d, rfl⟩ : ∃ d : Nat, dz = d := ⟨dz.toNat, by omega⟩
                        have hd0 : (0 : Int) ≤ (d : Int) := by omega
                        have hd1 : (d : Int) < g.ss.length := by omega
                        have hdl : d < cur.length := by omega
                        rw [Int.toNat_natCast] at Hno Hdm
                        obtain ⟨b6, off6, rfl, hb6, c6⟩ := (HY.out.below HBwq.out).at_ (k := c) (by rw [Hlen.out]; exact hlt)
                        rw [← val_eq] at c6
                        have c7 := own_ints_at Hown.out hdl
                        rw [← val_eq hdl] at c7
                        have c8 := own_ints_at Hown.out (k := c) (by omega)
                        rw [← hcv] at c8
                        have f8 := Hown.out.frozenAt c
                        have hc0 : (0 : Int) ≤ (c : Int) := by omega
                        have hc1 : (c : Int) < g.ss.length := by omega
                        have Hset := fun h : max (val cur d) (val hl c) < val cur c => Lib.hid (Round.yes (P' := (∀ d', d' < c → Calm g (val hl) a (cur.set c (max (val cur d) (val hl c))) d' (nearL g d').length) ∧ Calm g (val hl) a (cur.set c (max (val cur d) (val hl c))) c (q3 + 1)) HV.out Hbd.out Hst.out HRq.out hlt Hca.out Hdm.out h)
                        have HSet := Lib.hid Hset
                        clear Hset hcv hd
                        generalize hmx : max (val cur d) (val hl c) = mx at *
                        have Hmx := Lib.hid hmx
                        go_wp2
                        go_quiet (fail)
                        have hmm : (if val cur d < val hl c then val hl c else val cur d) = mx := by
                          rw [← Hmx.out]
                          split <;> omega
                        rw [hmm]
                        clear hmm hmx
                        by_cases hs : mx < val cur c
                        · have Hy := Lib.hid (HSet.out hs).out
                          clear HSet Hno
                          go_wp2
                          go_roundw
                          case rel => exact ⟨q3 + 1, true, _, rfl, by omega, by go_num, own_ints_set Hown.out c mx, Hy.out, HOn.out.set, Below.drewN' (HBq.out.setCell (by simp) _) _⟩
                          case measure => simp [intOf]; omega
                        · have Hy := Lib.hid (Hno.out (by omega))
                          clear HSet Hno
                          go_wp2
                          go_roundw
                          case rel => exact ⟨q3 + 1, more, cur, rfl, by omega, by go_num, Hown.out, Hy.out, HOn.out, Below.drewN' HBq.out _⟩
                          case measure => simp [intOf]; omega
                      · have HX : Hid (Round g (val hl) sts a cur0 cur more (∀ d, d < c + 1 → Calm g (val hl) a cur d (nearL g d).length)) := by
                          have h := HRq.out
                          rw [show q3 = (nearL g c).length by omega] at h
                          exact h.next
                        go_wp2
                        go_roundw
                        case rel => exact ⟨c + 1, more, cur, rfl, by omega, by go_num, Hown.out, HX.out, HBq.out⟩
                        case measure => simp [intOf]; omega
                · have hc' : c = g.ss.length := by omega
                  have HX : Hid (∃ n', n' < gk ∧ 2 * lefts g cur + (if more then 1 else 0) ≤ n') := by
                    have h1 := Hn.out
                    rcases HRd.out.2 with ⟨h2, h3, _⟩ | ⟨h2, h3⟩
                    · refine ⟨2 * lefts g cur, ?_, ?_⟩
                      · rw [h3]; simp at h1; omega
                      · rw [h2]; simp
                    · refine ⟨2 * lefts g cur + 1, ?_, ?_⟩
                      · simp at h1; omega
                      · rw [h2]; simp
                  have HY2 : Hid (more = false → ∀ d, d < g.ss.length → Calm g (val hl) a cur d (nearL g d).length) := by
                    intro hm
                    rcases HRd.out.2 with ⟨_, _, h4⟩ | ⟨h2, _⟩
                    · exact fun d hd => h4 d (by omega)
                    · rw [hm] at h2; cases h2
                  have HRe := Lib.hid HRd.out.1
                  clear hBr Hown0 HRd hc'
                  go_wp2
                  obtain ⟨n', hn1, hn2⟩ := HX.out
                  go_roundg n'
                  case measure => exact hn1
                  case rel => exact ⟨more, cur, rfl, Hown.out, HRe.out, HY2.out, hn2, HBr.out⟩
end Go.Proofs.YthcenmocnphnmaaGreatDoor
