/-
  The reference: Pond.
-/
import Derived.Test.YthcenmocnphnmaaGreatDoorMR
set_option linter.unusedSimpArgs false
set_option linter.unusedVariables false
namespace Go.Proofs.YthcenmocnphnmaaGreatDoor
open Go.RowKit Go.Shelf

theorem WayW.low {g : G} {ht : Nat → Int} {sts : List Nat} {a : Int} (V : Valid g) (hst : ∀ c, c ∈ sts → c < g.ss.length) (hM : ∀ c, c < g.ss.length → -1200000 ≤ ht c) {c : Nat} {v : Int} (h : WayW g ht sts a c v) : -1200000 ≤ v := by
  induction h with
  | start hc => exact hM _ (hst _ (List.mem_filter.1 hc).1)
  | step hw hd ih => omega
theorem Relaxed.rng {g : G} {ht : Nat → Int} {sts : List Nat} {a : Int} {out : List Int} (V : Valid g) (hst : ∀ c, c ∈ sts → c < g.ss.length) (hM : ∀ c, c < g.ss.length → -1200000 ≤ ht c ∧ ht c ≤ 1200000) (h : Relaxed g ht sts a out) {c : Nat} (hc : c < g.ss.length) : -1200000 ≤ val out c ∧ val out c ≤ 1073741824 := by
  rcases h.way c hc with e | e
  · omega
  · have := WayW.low V hst (fun c hc => (hM c hc).1) e
    have := WayW.bound V hst (fun c hc => (hM c hc).2) e
    omega
def PondV (g : G) (hl : List Int) (sts : List Nat) (c : Nat) (r : Int) : Prop := (c ∈ sts ∧ r = 0) ∨ (c ∉ sts ∧ ∃ out, Relaxed g (val hl) sts c out ∧ r = max 0 (mnF (fun d => val out d.toNat) 1073741824 (nearL g c) - val hl c))
def PondOut (g : G) (hl : List Int) (sts : List Nat) (c : Nat) (w : World) (e : Ending) (w' : World) : Prop := ∃ r, e = .returned (.int .i64 r) ∧ Below w.heap.size w w' ∧ PondV g hl sts c r

set_option maxRecDepth 100000 in
set_option maxHeartbeats 4000000 in
theorem rPond_any (x y z : Value) (g : G) (hl : List Int) (sts : List Nat) (c : Nat) (w : World) (hg : GridAt w w.heap.size x g) (hh : IntsAt w w.heap.size y hl) (hz : IntsAt w w.heap.size z (sts.map fun (c : Nat) => (c : Int))) (V : Valid g) (hlen : hl.length = g.ss.length)
    (hbd : ∀ c, c < g.ss.length → -1200000 ≤ val hl c ∧ val hl c ≤ 1200000) (hst : ∀ c, c ∈ sts → c < g.ss.length) (hc : c < g.ss.length) :
    Calls Tryz.prog 63 #[x, y, z, .int .i64 c] w (PondOut g hl sts c w) := by
  have HG := Lib.hid hg
  obtain ⟨v, rfl, hs⟩ := hg
  obtain ⟨A, k, rfl, hk, hm⟩ := hs.open_
  have HY := Lib.hid hh
  obtain ⟨A1, k1, ey, hk1, hm1⟩ := hh.open_
  rw [hlen] at ey hk1 hm1
  subst ey
  have HZ := Lib.hid hz
  obtain ⟨A2, k2, ez, hk2, hm2⟩ := hz.open_
  rw [List.length_map] at ez hk2 hm2
  subst ez
  have Hlen := Lib.hid hlen
  have HV := Lib.hid V
  have hsm := V.small
  have Hbd := Lib.hid hbd
  have Hst := Lib.hid hst
  have hB : Below w.heap.size w (w.alloc (.cells #[.int .i64 g.W, .int .i64 g.H, .int .i64 g.S, .slice A g.ss.length k] 24)) := (by repeat (first | exact Below.refl _ _ | assumption | refine Below.drew ?_ | refine Below.drewN' ?_ _ | (refine Below.alloc ?_ (by simp <;> omega) _) | (refine Below.setCell ?_ (by simp <;> omega) _)))
  have HB := Lib.hid hB
  have b0 : Blk (w.alloc (.cells #[.int .i64 g.W, .int .i64 g.H, .int .i64 g.S, .slice A g.ss.length k] 24)) w.heap.size 24 #[.int .i64 g.W, .int .i64 g.H, .int .i64 g.S, .slice A g.ss.length k] := Blk.new' _ _ _ rfl
  have HBB := Lib.hid b0
  clear hs hh hz V hbd hst hB b0 hlen
  have hc0 : (0 : Int) ≤ (c : Int) := by omega
  have hc1 : (c : Int) < g.ss.length := by omega
  go_enter Tryz.func63, Tryz.ntmps63
  go_wp2
  go_loopw [9] (fun i wr => ∃ q : Nat, q ≤ sts.length ∧ i = .int .i64 q ∧ Hid (c ∉ sts.take q) ∧ Below (w.heap.size + 1) (w.alloc (.cells #[.int .i64 g.W, .int .i64 g.H, .int .i64 g.S, .slice A g.ss.length k] 24)) wr) (fun i _ => sts.length - (intOf i).toNat)
  case atStart => exact ⟨0, Nat.zero_le _, rfl, by simp [Hid], Below.refl _ _⟩
  case round =>
    obtain ⟨q, hq, rfl, Hno, hBr⟩ := hrel
    have hsz := hBr.size
    simp only [World.size_alloc] at hsz
    have HBr := Lib.hid hBr
    have HBw := Lib.hid (HB.out.trans (hBr.mono (by omega)))
    by_cases hlt : q < sts.length
    · obtain ⟨bb, off, rfl, hbb, c1⟩ := (HZ.out.below HBw.out).at_ (k := q) (by simpa using hlt)
      rw [List.getElem_map] at c1
      have Hmem := Lib.hid (List.getElem_mem hlt)
      have Htk := Lib.hid (take_snoc sts q hlt)
      clear hBr
      generalize sts[q] = s at *
      by_cases hsc : s = c
      · subst hsc
        go_wp2
        go_ret
        exact ⟨0, rfl, HBw.out, .inl ⟨Hmem.out, rfl⟩⟩
      · have hne : ((s : Int) == (c : Int)) = false := by simp; omega
        have Hsc := Lib.hid hsc
        clear hsc
        go_wp2
        go_roundw
        case rel =>
          refine ⟨q + 1, by omega, by go_num, ?_, HBr.out⟩
          rw [Hid, Htk.out]
          intro hm
          rcases List.mem_append.1 hm with e | e
          · exact Hno.out e
          · rw [List.mem_singleton] at e
            exact Hsc.out e.symm
        case measure => simp [intOf]; omega
    · have hn : c ∉ sts := by
        have h := Hno.out
        rw [List.take_of_length_le (by omega)] at h
        exact h
      have Hn := Lib.hid hn
      obtain ⟨d0, d1, d2, d3⟩ := grid_parts (HBB.out.below hBr (by omega))
      clear hn hBr Hno
      go_wp2_with fail
      refine (rsills_any _ _ _ g hl sts c _ (HG.out.later HBw.out (Nat.le_refl _)) (by have h := HY.out.later HBw.out (Nat.le_refl _); exact h) (HZ.out.later HBw.out (Nat.le_refl _)) HV.out Hlen.out Hbd.out Hst.out (by omega) (by omega)).mono ?_
      rintro e w2 ⟨v2, out, rfl, hv2, hb2, hr2⟩
      have Hr := Lib.hid hr2
      have hol := hr2.len
      have HV2 := Lib.hid hv2
      obtain ⟨A3, k3, rfl, hk3, hm3⟩ := hv2.open_
      rw [hol] at hk3 hm3
      have HB2 := Lib.hid (HBw.out.trans (hb2.mono HBw.out.size))
      obtain ⟨d0', d1', d2', d3'⟩ := grid_parts ((HBB.out.below HBr.out (by omega)).below hb2 (by omega))
      have Hol := Lib.hid hol
      rw [hol]
      clear hr2 hv2 hb2 d0 d1 d2 d3 hol
      go_wp2_with fail
      refine (rNeighbors_any _ g c _ (HG.out.later HB2.out (Nat.le_refl _)) HV.out hc).mono ?_
      rintro e w3 ⟨v3, rfl, hv3, hb3, _⟩
      have HV3 := Lib.hid hv3
      obtain ⟨A4, k4, rfl, hk4, hm4⟩ := hv3.open_
      have HB3 := Lib.hid (HB2.out.trans (hb3.mono HB2.out.size))
      have HV2' := Lib.hid (HV2.out.later hb3 (Nat.le_refl _))
      clear hv3 hb3 d0' d1' d2' d3'
      go_wp2
      go_loopw [11, 13] (fun m i wr => ∃ q : Nat, q ≤ (nearL g c).length ∧ i = .int .i64 q ∧ m = .int .i64 (mnF (fun d => val out d.toNat) 1073741824 ((nearL g c).take q)) ∧ Below w3.heap.size w3 wr) (fun _ i _ => (nearL g c).length - (intOf i).toNat)
      case atStart => exact ⟨0, Nat.zero_le _, rfl, rfl, Below.refl _ _⟩
      case round =>
        obtain ⟨q3, hq3, rfl, rfl, hBr3⟩ := hrel
        have HBr3 := Lib.hid hBr3
        by_cases hlt3 : q3 < (nearL g c).length
        · have hd := nearL_rng HV.out hc _ (List.getElem_mem hlt3)
          obtain ⟨b5, o5, rfl, hb5, c5⟩ := (HV3.out.below hBr3).at_ hlt3
          have Hsn := Lib.hid (take_snoc (nearL g c) q3 hlt3)
          clear hBr3
          generalize (nearL g c)[q3] = dz at *
          obtain ⟨d, rfl⟩ : ∃ d : Nat, dz = d := ⟨dz.toNat, by omega⟩
          have hd0 : (0 : Int) ≤ (d : Int) := by omega
          have hd1 : (d : Int) < g.ss.length := by omega
          obtain ⟨b6, o6, rfl, hb6, c6⟩ := (HV2'.out.below HBr3.out).at_ (k := d) (by rw [Hol.out]; omega)
          rw [← val_eq] at c6
          have Hmn : Hid (mnF (fun d => val out d.toNat) 1073741824 ((nearL g c).take (q3 + 1)) = min (mnF (fun d => val out d.toNat) 1073741824 ((nearL g c).take q3)) (val out d)) := by
            rw [Hid, Hsn.out, mnF_snoc, Int.toNat_natCast]
          generalize mnF (fun d => val out d.toNat) 1073741824 ((nearL g c).take q3) = m at *
          go_wp2
          go_roundw
          case rel => exact ⟨q3 + 1, by omega, by go_num, by rw [Hmn.out]; exact add_i64 (by omega), HBr3.out⟩
          case measure => simp [intOf]; omega
        · have hq3' : q3 = (nearL g c).length := by omega
          obtain ⟨b6, o6, rfl, hb6, c6⟩ := (HY.out.below (HB3.out.trans (hBr3.mono HB3.out.size))).at_ (k := c) (by rw [Hlen.out]; exact hc)
          rw [← val_eq] at c6
          have hbc := Hbd.out c hc
          have hmr : -1200000 ≤ mnF (fun d => val out d.toNat) 1073741824 ((nearL g c).take q3) ∧ mnF (fun d => val out d.toNat) 1073741824 ((nearL g c).take q3) ≤ 1073741824 := by
            refine ⟨le_mnF _ _ _ _ (by omega) (fun d hd => ?_), (mnF_le _ _ _).1⟩
            have hdm := List.mem_of_mem_take hd
            have hr := nearL_rng HV.out hc d hdm
            exact (Hr.out.rng HV.out Hst.out Hbd.out (c := d.toNat) (by omega)).1
          have Hf : Hid (mnF (fun d => val out d.toNat) 1073741824 ((nearL g c).take q3) = mnF (fun d => val out d.toNat) 1073741824 (nearL g c)) := by rw [Hid, hq3', List.take_length]
          clear hBr3 hq3'
          generalize mnF (fun d => val out d.toNat) 1073741824 ((nearL g c).take q3) = m at *
          obtain ⟨hm1', hm2'⟩ := hmr
          obtain ⟨hb1', hb2'⟩ := hbc
          go_wp2
          all_goals
            go_ret
            exact ⟨_, rfl, HB3.out.trans (HBr3.out.mono HB3.out.size), .inr ⟨Hn.out, out, Hr.out, by rw [← Hf.out]; omega⟩⟩
end Go.Proofs.YthcenmocnphnmaaGreatDoor
/-
  The reference: Ponds.
-/
namespace Go.Proofs.YthcenmocnphnmaaGreatDoor
open Go.RowKit Go.Shelf

/-- the terrain of one end, with the other end at a cell -/
def endsAt (b : Bool) (g : G) (c : Nat) : List Int := (ends b g.ss).set c (if b then loF g.ss c else hiF g.ss c)
theorem endsAt_len (b : Bool) (g : G) (c : Nat) : (endsAt b g c).length = g.ss.length := by unfold endsAt; rw [List.length_set, ends_len]
theorem endsAt_get {b : Bool} {g : G} {c d : Nat} (hc : c < g.ss.length) (hd : d < g.ss.length) : val (endsAt b g c) d = if d = c then (if b then loF g.ss c else hiF g.ss c) else (if b then hiF g.ss d else loF g.ss d) := by
  unfold endsAt
  rw [val_set (by rw [ends_len]; exact hc), ends_get hd]
theorem endsAt_bd {b : Bool} {g : G} (V : Valid g) {c : Nat} (hc : c < g.ss.length) : ∀ d, d < g.ss.length → -1200000 ≤ val (endsAt b g c) d ∧ val (endsAt b g c) d ≤ 1200000 := by
  intro d hd
  rw [endsAt_get hc hd]
  have h1 := ok_of V hc
  have h2 := ok_of V hd
  cases b <;> simp <;> split <;> omega
/-- what Ponds finds for a cell -/
def PondS (g : G) (sts : List Nat) (c : Nat) (p : Int × Int) : Prop := PondV g (endsAt false g c) sts c p.1 ∧ PondV g (endsAt true g c) sts c p.2
def RPondsOut (g : G) (l : List Int) (w : World) (e : Ending) (w' : World) : Prop := ∃ v ps, e = .returned (.tuple #[v, .int .i64 (seaE g l)]) ∧ SpansAt w' w'.heap.size v ps ∧ Below w.heap.size w w' ∧
  ((seaE g l ≠ 0 ∧ ps = []) ∨ (seaE g l = 0 ∧ ∃ sts, l = sts.map (fun (c : Nat) => (c : Int)) ∧ ps.length = g.ss.length ∧ ∀ (c : Nat) (h : c < ps.length), PondS g sts c ps[c]))
theorem foldl_congr_mem {α β : Type} {f f' : α → β → α} : ∀ {l : List β} {z : α}, (∀ m d, d ∈ l → f m d = f' m d) → l.foldl f z = l.foldl f' z
  | [], _, _ => rfl
  | x :: l, z, h => by
    rw [List.foldl_cons, List.foldl_cons, h z x List.mem_cons_self]
    exact foldl_congr_mem fun m d hd => h m d (List.mem_cons_of_mem _ hd)
/-- the reference's pond is the program's -/
theorem PondV.eq {g : G} (V : Valid g) {f : FuncId} {sel : Int × Int → Int} (hE : IsEnd f sel) {b : Bool} (hb : sel = fun s => if b then s.2 else s.1) {sts : List Nat} {vs : List Int} {c : Nat} {r : Int} (hne : sts ≠ []) (hst : ∀ c, c ∈ sts → c < g.ss.length) (hc : c < g.ss.length) (hs : Silled g sel sts vs) (h : PondV g (endsAt b g c) sts c r) :
    r = if c ∈ sts then 0 else max 0 (mnF (fun d => val vs d.toNat) 1200000 (nearL g c) - (if b then loF g.ss c else hiF g.ss c)) := by
  rcases h with ⟨h1, h2⟩ | ⟨h1, out, h2, h3⟩
  · rw [if_pos h1, h2]
  · rw [if_neg h1, h3]
    have hr := h2.congr_ht V hst (ht' := fun d => if d < g.ss.length then val (endsAt b g c) d else hgt g sel d) (fun d hd => by rw [if_pos hd])
    have := rim_avoid V hE hc hne hst h1 (ht := fun d => if d < g.ss.length then val (endsAt b g c) d else hgt g sel d) (fun d hd => by
      show (if d < g.ss.length then val (endsAt b g c) d else hgt g sel d) = hgt g sel d
      split
      · rename_i hdl
        rw [endsAt_get hc hdl, if_neg hd, hgt_eq hdl, hb, loF_eq hdl, hiF_eq hdl]
      · rfl) hs hr
    rw [this, endsAt_get hc hc, if_pos rfl]
theorem ponds_eq {g : G} (V : Valid g) {sts : List Nat} {ss ps : List (Int × Int)} (hne : sts ≠ []) (hst : ∀ c, c ∈ sts → c < g.ss.length) (hs : Sillz g sts ss) (hl : ps.length = g.ss.length) (h : ∀ (c : Nat) (h : c < ps.length), PondS g sts c ps[c]) : ps = pondL g sts ss := by
  obtain ⟨lo, hi, s1, s2, rfl⟩ := hs
  refine List.ext_getElem (by rw [hl, pondL_length]) fun c h1 h2 => ?_
  have hc : c < g.ss.length := by omega
  obtain ⟨p1, p2⟩ := h c h1
  have e1 := p1.eq V (.inl ⟨rfl, rfl⟩) (b := false) rfl hne hst hc s1
  have e2 := p2.eq V (.inr ⟨rfl, rfl⟩) (b := true) rfl hne hst hc s2
  have l1 : lo.length = g.ss.length := s1.len
  have l2 : hi.length = g.ss.length := s2.len
  have m1 : mnL (fun s => s.1) (lo.zip hi) (nearL g c) = mnF (fun d => val lo d.toNat) 1200000 (nearL g c) := by
    unfold mnL mnF
    refine foldl_congr_mem fun m d hd => ?_
    have hr := nearL_rng V hc d hd
    have := (zip_ends (los := lo) (his := hi) (c := d.toNat) (by omega) (by omega)).1
    unfold loF at this
    show min m ((lo.zip hi).getD d.toNat (0, 0)).1 = min m (val lo d.toNat)
    rw [this]
  have m2 : mnL (fun s => s.2) (lo.zip hi) (nearL g c) = mnF (fun d => val hi d.toNat) 1200000 (nearL g c) := by
    unfold mnL mnF
    refine foldl_congr_mem fun m d hd => ?_
    have hr := nearL_rng V hc d hd
    have := (zip_ends (los := lo) (his := hi) (c := d.toNat) (by omega) (by omega)).2
    unfold hiF at this
    show min m ((lo.zip hi).getD d.toNat (0, 0)).2 = min m (val hi d.toNat)
    rw [this]
  rw [pondL_get]
  unfold pondAt
  refine Prod.ext ?_ ?_
  · rw [e1]
    split
    · rfl
    · rw [m1]; rfl
  · rw [e2]
    split
    · rfl
    · rw [m2]; rfl

theorem ponds_snoc {g : G} {sts : List Nat} {q : Nat} {ps : List (Int × Int)} {x : Int × Int} (h : ps.length = q ∧ ∀ (c : Nat) (h : c < ps.length), PondS g sts c ps[c]) (hx : PondS g sts q x) : (ps ++ [x]).length = q + 1 ∧ ∀ (c : Nat) (h : c < (ps ++ [x]).length), PondS g sts c (ps ++ [x])[c] := by
  refine ⟨by simp [h.1], fun c hc => ?_⟩
  by_cases e : c < ps.length
  · rw [List.getElem_append_left e]
    exact h.2 c e
  · have hcq : c = q := by simp at hc; omega
    subst hcq
    rw [List.getElem_append_right (by omega)]
    simpa using hx
/-- both terrains -/
def RowsT (g : G) (wr : World) (a b : Value) (wx : World) : Prop := ∃ g1 c1 g2 c2, a = .slice (some ⟨g1, 0, none⟩) g.ss.length c1 ∧ b = .slice (some ⟨g2, 0, none⟩) g.ss.length c2 ∧ wx.ownsRow wr.heap.size 3 1 (.slice (some ⟨g1, 0, none⟩) g.ss.length c1) g.ss.length ((ends false g.ss).map (Value.int .i64)) ∧
  wx.ownsRow wr.heap.size 3 1 (.slice (some ⟨g2, 0, none⟩) g.ss.length c2) g.ss.length ((ends true g.ss).map (Value.int .i64)) ∧ ¬ g1 = g2 ∧ Below wr.heap.size wr wx
def PairT (g : G) (q : Nat) (wr : World) (gf cf gt ct : Nat) (wx : World) : Prop := IntsAt wx wx.heap.size (.slice (some ⟨gf, 0, none⟩) g.ss.length cf) (endsAt false g q) ∧ IntsAt wx wx.heap.size (.slice (some ⟨gt, 0, none⟩) g.ss.length ct) (endsAt true g q) ∧ Below wr.heap.size wr wx
set_option maxRecDepth 100000 in
set_option maxHeartbeats 8000000 in
theorem rPonds_any (x y : Value) (g : G) (l : List Int) (w : World) (hg : GridAt w w.heap.size x g) (hy : IntsAt w w.heap.size y l) :
    Calls Tryz.prog 27 #[x, y] w (RPondsOut g l w) := by
  have HG := Lib.hid hg
  obtain ⟨v, rfl, hs⟩ := hg
  obtain ⟨A, k, rfl, hk, hm⟩ := hs.open_
  have HY := Lib.hid hy
  obtain ⟨A', k', rfl, hk', hm'⟩ := hy.open_
  have HS := Lib.hid hs
  have hB : Below w.heap.size w (w.alloc (.cells #[.int .i64 g.W, .int .i64 g.H, .int .i64 g.S, .slice A g.ss.length k] 24)) := (by repeat (first | exact Below.refl _ _ | assumption | refine Below.drew ?_ | refine Below.drewN' ?_ _ | (refine Below.alloc ?_ (by simp <;> omega) _) | (refine Below.setCell ?_ (by simp <;> omega) _)))
  have HB := Lib.hid hB
  have b0 : Blk (w.alloc (.cells #[.int .i64 g.W, .int .i64 g.H, .int .i64 g.S, .slice A g.ss.length k] 24)) w.heap.size 24 #[.int .i64 g.W, .int .i64 g.H, .int .i64 g.S, .slice A g.ss.length k] := Blk.new' _ _ _ rfl
  have HBB := Lib.hid b0
  clear hs hy hB b0
  go_enter Tryz.func27, Tryz.ntmps27
  go_wp2_with fail
  refine (rsea_any _ _ g l _ (HG.out.later HB.out (Nat.le_refl _)) (HY.out.later HB.out (Nat.le_refl _))).mono ?_
  rintro e w1 ⟨rfl, hb1⟩
  have HB1 := Lib.hid (HB.out.trans (hb1.mono HB.out.size))
  have HBB1 := Lib.hid (HBB.out.below hb1 (by simp))
  clear hb1
  by_cases h0 : seaE g l = 0
  case neg =>
    have H0 := Lib.hid h0
    have hb : (seaE g l != 0) = true := by simpa using h0
    clear h0
    go_wp2
    go_ret2
    exact ⟨_, [], rfl, spans_nil _ _, HB1.out, .inl ⟨H0.out, rfl⟩⟩
  have H0 := Lib.hid h0
  have hb : (seaE g l != 0) = false := by simpa using h0
  obtain ⟨hck, sts, el, hne, hst⟩ := sea_nat h0
  have V := valid_of hck
  have HV := Lib.hid V
  have hsm := V.small
  have Hst := Lib.hid hst
  have Hel := Lib.hid el
  have Hll := Lib.hid (show l.length = sts.length by rw [el, List.length_map])
  have hl1 := HBB1.out.lt
  clear h0 hck hst V hne el
  obtain ⟨i0, hi0, hz0, hz1, hz2⟩ := info_parts span_info
  have hT : ∀ (b : Bool) (W : World), Below w1.heap.size w1 W → Calls Tryz.prog 61 #[.agg #[.int .i64 g.W, .int .i64 g.H, .int .i64 g.S, .slice A g.ss.length k], .bool b] W (fun e w' => ∃ gb c1, e = .returned (.slice (some ⟨gb, 0, none⟩) g.ss.length c1) ∧ Hid (w'.ownsRow W.heap.size 3 1 (.slice (some ⟨gb, 0, none⟩) g.ss.length c1) g.ss.length ((ends b g.ss).map (Value.int .i64))) ∧ Hid (Below W.heap.size W w')) := by
    intro b W hW
    refine (rTerrain_any _ g b W (HG.out.later (HB1.out.trans (hW.mono HB1.out.size)) (Nat.le_refl _)) (by omega)).mono ?_
    rintro e w' ⟨v, rfl, ho, hb⟩
    obtain ⟨gb, cap, rfl, _, _, _⟩ := own_shape ho HV.out.pos
    exact ⟨gb, cap, rfl, ho, hb⟩
  have hP : ∀ (b : Bool) (c : Nat) (W : World) (A1 : Option Addr) (c1 : Nat), c < g.ss.length → Below w1.heap.size w1 W → IntsAt W W.heap.size (.slice A1 g.ss.length c1) (endsAt b g c) → Calls Tryz.prog 63 #[.agg #[.int .i64 g.W, .int .i64 g.H, .int .i64 g.S, .slice A g.ss.length k], .slice A1 g.ss.length c1, .slice A' l.length k', .int .i64 c] W (fun e w' => ∃ r, e = .returned (.int .i64 r) ∧ Hid (Below W.heap.size W w') ∧ Hid (PondV g (endsAt b g c) sts c r)) := by
    intro b c W A1 c1 hc hW hi
    refine (rPond_any _ _ _ g (endsAt b g c) sts c W (HG.out.later (HB1.out.trans (hW.mono HB1.out.size)) (Nat.le_refl _)) hi (by have h := HY.out.later (HB1.out.trans (hW.mono HB1.out.size)) (Nat.le_refl _); rw [Hel.out] at h; rw [Hel.out]; exact h) HV.out (endsAt_len b g c) (endsAt_bd HV.out hc) Hst.out hc).mono ?_
    rintro e w' ⟨r, rfl, hb, hr⟩
    exact ⟨r, rfl, hb, hr⟩
  have HTT := Lib.hid hT
  have HPP := Lib.hid hP
  clear hT hP
  go_wp2
  go_loopw [7, 8] (fun a i wr => ∃ (q : Nat) (va : Value) (ps : List (Int × Int)), va = a ∧ q ≤ g.ss.length ∧ i = .int .i64 q ∧ Hid (wr.ownsRow w1.heap.size 34 2 va q (spanCells ps)) ∧ Hid (ps.length = q ∧ ∀ (c : Nat) (h : c < ps.length), PondS g sts c ps[c]) ∧ Below w1.heap.size w1 wr) (fun _ i _ => g.ss.length - (intOf i).toNat)
  case atStart => exact ⟨0, _, [], rfl, Nat.zero_le _, rfl, World.ownsRow_nil _ _ _ _, ⟨rfl, fun c h => by simp at h⟩, Below.refl _ _⟩
  case round =>
    obtain ⟨q, va, ps, rfl, hq, rfl, Hown, Hps, hBr⟩ := hrel
    have hsz := hBr.size
    have HBr := Lib.hid hBr
    have HBw := Lib.hid (HB1.out.trans (hBr.mono HB1.out.size))
    have HBBr := Lib.hid (HBB1.out.below hBr hl1)
    obtain ⟨d0, d1, d2, d3⟩ := grid_parts HBBr.out
    clear hBr
    by_cases hlt : q < g.ss.length
    · obtain ⟨b1, o1, rfl, hb1, c1, c2⟩ := (HS.out.below HBw.out).at_ hlt
      have hq0 : (0 : Int) ≤ (q : Int) := by omega
      have hq1 : (q : Int) < g.ss.length := by omega
      have Hlo := Lib.hid (loF_eq hlt)
      have Hhi := Lib.hid (hiF_eq hlt)
      generalize hp : g.ss[q] = p at *
      obtain ⟨slo, shi⟩ := p
      simp only at c1 c2
      clear hp
      go_wp2
      have HC := Lib.hid (Below.drew HBr.out)
      have HD := Lib.hid (Below.drew (Below.refl wr.heap.size wr))
      obtain ⟨e0, e1, e2, e3⟩ := grid_parts (HBBr.out.below HD.out HBBr.out.lt)
      go_upto_region 8 with (fail)
      go_cut [9, 10] from 24 to 27 (fun a b wx => RowsT g wr a b wx)
      case first =>
        go_region_held3 (fun w' => w'.cell? ⟨w.heap.size, 0, none⟩ = some (.int .i64 g.W) ∧ w'.cell? ⟨w.heap.size, 1, none⟩ = some (.int .i64 g.H) ∧ w'.cell? ⟨w.heap.size, 2, none⟩ = some (.int .i64 g.S) ∧ w'.cell? ⟨w.heap.size, 3, none⟩ = some (.slice (some ⟨b1, o1, none⟩) g.ss.length k))
          (first | assumption | (refine ⟨?_, ?_, ?_, ?_⟩ <;> assumption) | go_keep)
          (first
          | (go_at_call 61; (with_reducible refine (HTT.out false _ HC.out).mono ?_); rintro e Wf ⟨gf, cf, rfl, h0, hb⟩; have hf := Lib.hid (own_base h0.out HD.out.size); (try (have ht' := own_far ht.out (fun j hj => hb.out.block j (ht.out.lt j hj).2); have hne : ¬ gf = gt := (by have q1 := (ht.out.lt gt rfl).2; have q2 := (h0.out.lt gf rfl).1; omega); clear ht; have ht := Lib.hid ht'; clear ht')); clear h0; have HC' := Lib.hid (HC.out.trans (hb.out.mono HC.out.size)); clear HC; have HC := HC'; clear HC'; have HD' := Lib.hid (HD.out.trans (hb.out.mono HD.out.size)); clear HD; have HD := HD'; clear HD' e0 e1 e2 e3; obtain ⟨e0, e1, e2, e3⟩ := grid_parts (HBBr.out.below HD.out HBBr.out.lt); clear hb)
          | (go_at_call 61; (with_reducible refine (HTT.out true _ HC.out).mono ?_); rintro e Wt ⟨gt, ct, rfl, h0, hb⟩; have ht := Lib.hid (own_base h0.out HD.out.size); (try (have hf' := own_far hf.out (fun j hj => hb.out.block j (hf.out.lt j hj).2); have hne : ¬ gf = gt := (by have q1 := (hf.out.lt gf rfl).2; have q2 := (h0.out.lt gt rfl).1; omega); clear hf; have hf := Lib.hid hf'; clear hf')); clear h0; have HC' := Lib.hid (HC.out.trans (hb.out.mono HC.out.size)); clear HC; have HC := HC'; clear HC'; have HD' := Lib.hid (HD.out.trans (hb.out.mono HD.out.size)); clear HD; have HD := HD'; clear HD' e0 e1 e2 e3; obtain ⟨e0, e1, e2, e3⟩ := grid_parts (HBBr.out.below HD.out HBBr.out.lt); clear hb))
        all_goals
          go_wp2_with fail
          go_meet
          exact ⟨_, _, _, _, rfl, rfl, hf.out, ht.out, hne, HD.out⟩
      case rest =>
        obtain ⟨gf, cf, gt, ct, rfl, rfl, hf, ht, hne, hD⟩ := hcut
        clear HC HD e0 e1 e2 e3 d0 d1 d2 d3
        have HF := Lib.hid hf
        have HT := Lib.hid ht
        have HD := Lib.hid hD
        have hszc := hD.size
        have hgf := hf.lt gf rfl
        have hgt := ht.lt gt rfl
        have hb1r : b1 < wr.heap.size := by have := HBw.out.size; omega
        obtain ⟨e0, e1, e2, e3⟩ := grid_parts (HBBr.out.below hD HBBr.out.lt)
        have c4 := (hD.cell (p := ⟨b1, o1 + q * 2, none⟩) hb1r).trans c1
        have c5 := (hD.cell (p := ⟨b1, o1 + q * 2 + 1, none⟩) hb1r).trans c2
        have lf : q < (ends false g.ss).length := by rw [ends_len]; exact hlt
        have lt' : q < (ends true g.ss).length := by rw [ends_len]; exact hlt
        have k4 := own_ints_at hf lf
        have k5 := own_ints_at ht lt'
        have k6 := hf.frozenAt q
        have k7 := ht.frozenAt q
        have hne' : ¬ gt = gf := fun h => hne h.symm
        have m1 : ¬ w.heap.size = gf := by have := HBBr.out.lt; omega
        have m2 : ¬ w.heap.size = gt := by have := HBBr.out.lt; omega
        have m3 : ¬ b1 = gf := by omega
        have m4 : ¬ b1 = gt := by omega
        have hk1 : ∀ u1 : Value, ((wc.setCell ⟨gf, q, none⟩ u1).drew).cell? ⟨w.heap.size, 3, none⟩ = some (.slice (some ⟨b1, o1, none⟩) g.ss.length k) ∧ ((wc.setCell ⟨gf, q, none⟩ u1).drew).cell? ⟨b1, o1 + q * 2, none⟩ = some (.int .i64 slo) ∧ ((wc.setCell ⟨gf, q, none⟩ u1).drew).cell? ⟨b1, o1 + q * 2 + 1, none⟩ = some (.int .i64 shi) := fun u1 => ⟨(by show World.cell? (wc.setCell ⟨gf, q, none⟩ u1) _ = _; rw [cell_set_far (by assumption)]; exact e3), (by show World.cell? (wc.setCell ⟨gf, q, none⟩ u1) _ = _; rw [cell_set_far (by assumption)]; exact c4), (by show World.cell? (wc.setCell ⟨gf, q, none⟩ u1) _ = _; rw [cell_set_far (by assumption)]; exact c5)⟩
        have hk2 : ∀ u1 u2 : Value, (((wc.setCell ⟨gf, q, none⟩ u1).setCell ⟨gt, q, none⟩ u2).drew).cell? ⟨w.heap.size, 3, none⟩ = some (.slice (some ⟨b1, o1, none⟩) g.ss.length k) ∧ (((wc.setCell ⟨gf, q, none⟩ u1).setCell ⟨gt, q, none⟩ u2).drew).cell? ⟨b1, o1 + q * 2, none⟩ = some (.int .i64 slo) ∧ (((wc.setCell ⟨gf, q, none⟩ u1).setCell ⟨gt, q, none⟩ u2).drew).cell? ⟨b1, o1 + q * 2 + 1, none⟩ = some (.int .i64 shi) := fun u1 u2 => ⟨(by show World.cell? ((wc.setCell ⟨gf, q, none⟩ u1).setCell ⟨gt, q, none⟩ u2) _ = _; rw [cell_set_far (by assumption), cell_set_far (by assumption)]; exact e3), (by show World.cell? ((wc.setCell ⟨gf, q, none⟩ u1).setCell ⟨gt, q, none⟩ u2) _ = _; rw [cell_set_far (by assumption), cell_set_far (by assumption)]; exact c4), (by show World.cell? ((wc.setCell ⟨gf, q, none⟩ u1).setCell ⟨gt, q, none⟩ u2) _ = _; rw [cell_set_far (by assumption), cell_set_far (by assumption)]; exact c5)⟩
        have HK1 := Lib.hid hk1
        have HK2 := Lib.hid hk2
        clear hk1 hk2
        clear hf ht hD c1 c2
        go_upto_region 9 with (fail)
        go_cut [] from 28 to 45 (fun wx => PairT g q wr gf cf gt ct wx)
        case first =>
          go_region_held3 (fun w' => w'.cell? ⟨w.heap.size, 3, none⟩ = some (.slice (some ⟨b1, o1, none⟩) g.ss.length k) ∧ w'.cell? ⟨b1, o1 + q * 2, none⟩ = some (.int .i64 slo) ∧ w'.cell? ⟨b1, o1 + q * 2 + 1, none⟩ = some (.int .i64 shi))
            (first | assumption | (refine ⟨?_, ?_, ?_⟩ <;> assumption) | exact HK1.out _ | exact HK2.out _ _ | go_keep)
            (fail)
          all_goals
            have r1 := own_far (w' := ((wc.setCell ⟨gf, q, none⟩ (.int .i64 shi)).setCell ⟨gt, q, none⟩ (.int .i64 slo)).drew) (own_ints_set HF.out q shi) (fun j hj => by cases hj; exact Below.heap_setCell _ _ _ _ (by exact hne))
            have r2 := (own_ints_set (own_far (w' := wc.setCell ⟨gf, q, none⟩ (.int .i64 shi)) HT.out (fun j hj => by cases hj; exact Below.heap_setCell _ _ _ _ (by exact hne'))) q slo).drew
            have z1 : (ends false g.ss).set q shi = endsAt false g q := by unfold endsAt; rw [if_neg (by decide), Hhi.out]
            have z2 : (ends true g.ss).set q slo = endsAt true g q := by unfold endsAt; rw [if_pos rfl, Hlo.out]
            rw [z1] at r1
            rw [z2] at r2
            have s1 := Reads.of_own r1
            have s2 := Reads.of_own r2
            go_wp2_with fail
            go_meet
            exact ⟨by unfold IntsAt; rw [endsAt_len]; exact s1, by unfold IntsAt; rw [endsAt_len]; exact s2, Below.drew ((HD.out.setCell (by exact hgf.1) _).setCell (by exact hgt.1) _)⟩
        case rest =>
          obtain ⟨i1, i2, hD2⟩ := hcut
          have HDw := Lib.hid hD2
          have HC := Lib.hid (Below.drew (HBr.out.trans (hD2.mono hsz)))
          obtain ⟨e0', e1', e2', e3'⟩ := grid_parts (HBBr.out.below hD2 HBBr.out.lt)
          clear HD e0 e1 e2 e3 HK1 HK2 k4 k5 k6 k7 c4 c5 HF HT
          have HD := Lib.hid (Below.drew hD2)
          obtain ⟨e0, e1, e2, e3⟩ := grid_parts (HBBr.out.below HD.out HBBr.out.lt)
          have HO := Lib.hid (own_far Hown.out (fun j hj => HD.out.block j (Hown.out.lt j hj).2))
          obtain ⟨wd, hwd⟩ : ∃ wd, wd = wc.drew := ⟨_, rfl⟩
          have jf : Hid (IntsAt wc.drew wc.drew.heap.size (.slice (some ⟨gf, 0, none⟩) g.ss.length cf) (endsAt false g q)) := i1
          have jt : Hid (IntsAt wc.drew wc.drew.heap.size (.slice (some ⟨gt, 0, none⟩) g.ss.length ct) (endsAt true g q)) := i2
          clear i1 i2 hD2 hwd e0' e1' e2' e3'
          have hsw := HD.out.size
          go_upto_region 10 with (fail)
          go_region_held3 (fun w' => w'.cell? ⟨w.heap.size, 0, none⟩ = some (.int .i64 g.W) ∧ w'.cell? ⟨w.heap.size, 1, none⟩ = some (.int .i64 g.H) ∧ w'.cell? ⟨w.heap.size, 2, none⟩ = some (.int .i64 g.S) ∧ w'.cell? ⟨w.heap.size, 3, none⟩ = some (.slice (some ⟨b1, o1, none⟩) g.ss.length k))
            (first | assumption | (refine ⟨?_, ?_, ?_, ?_⟩ <;> assumption) | go_keep)
            (first
            | (go_at_call 63; (with_reducible refine (HPP.out false q _ _ _ hlt HC.out jf.out).mono ?_); rintro e Wf ⟨rf, rfl, hb, pf⟩; (try (have jt' := Lib.hid (IntsAt.later jt.out hb.out (Nat.le_refl _)); clear jt; have jt := jt'; clear jt')); have HC' := Lib.hid (HC.out.trans (hb.out.mono HC.out.size)); clear HC; have HC := HC'; clear HC'; have HD' := Lib.hid (HD.out.trans (hb.out.mono HD.out.size)); clear HD; have HD := HD'; clear HD' e0 e1 e2 e3; obtain ⟨e0, e1, e2, e3⟩ := grid_parts (HBBr.out.below HD.out HBBr.out.lt); have hsw := HD.out.size; have HO' := Lib.hid (own_far Hown.out (fun j hj => HD.out.block j (Hown.out.lt j hj).2)); clear HO; have HO := HO'; clear HO' hb)
            | (go_at_call 63; (with_reducible refine (HPP.out true q _ _ _ hlt HC.out jt.out).mono ?_); rintro e Wt ⟨rt, rfl, hb, pt⟩; (try (have jf' := Lib.hid (IntsAt.later jf.out hb.out (Nat.le_refl _)); clear jf; have jf := jf'; clear jf')); have HC' := Lib.hid (HC.out.trans (hb.out.mono HC.out.size)); clear HC; have HC := HC'; clear HC'; have HD' := Lib.hid (HD.out.trans (hb.out.mono HD.out.size)); clear HD; have HD := HD'; clear HD' e0 e1 e2 e3; obtain ⟨e0, e1, e2, e3⟩ := grid_parts (HBBr.out.below HD.out HBBr.out.lt); have hsw := HD.out.size; have HO' := Lib.hid (own_far Hown.out (fun j hj => HD.out.block j (Hown.out.lt j hj).2)); clear HO; have HO := HO'; clear HO' hb)
            | ((refine step_append_lies _ (by rfl) (.tmp 46) (.tmp 58) _ (by rfl) w1.heap.size 34 i0 _ 2 16 Tryz.underlying22 hi0 hz0 hz1 hz2 rfl (by omega) va q (spanCells ps) (by rfl) (HO.out.alloc _) ⟨_, 0, none⟩ 1 1 [.int .i64 rf, .int .i64 rt] (by rfl) (by rfl) (World.news_of_block (cs := #[.int .i64 rf, .int .i64 rt]) (t := 34) (fr := (0, 0)) (by exact heap_alloc_new _ _)) (by simp [Value.oneCell']) (by omega) (by unfold maxLen; omega) (by omega) (by simp <;> omega) _ rfl ?_; intro gg cap' v1 hown1 hgrow hat hltg; have HX := Lib.hid ((HC.out.alloc HC.out.size (.cells #[.int .i64 rf, .int .i64 rt] 34)).grown hgrow (by simp <;> omega) (fun k e => (Hown.out.lt k e).1)); obtain ⟨x1, x2, x3, x4⟩ := grid_parts (HBB1.out.below HX.out hl1))))
          all_goals
            go_wp2
            go_roundw
            case rel => exact ⟨q + 1, _, ps ++ [(rf, rt)], rfl, by omega, by go_num, by rw [Hid, spanCells_append]; exact hown1, ponds_snoc Hps.out ⟨pf.out, pt.out⟩, HX.out⟩
            case measure => simp [intOf]; omega
    · have hq' : q = g.ss.length := by omega
      have Hq' := Lib.hid hq'
      clear hq'
      go_wp2
      go_ret2
      have h := Hps.out
      rw [Hq'.out] at h
      exact ⟨_, ps, ret_pair H0.out.symm, spans_own Hown.out Hps.out.1.symm, HBw.out, .inr ⟨H0.out, sts, Hel.out, h.1, h.2⟩⟩
end Go.Proofs.YthcenmocnphnmaaGreatDoor
