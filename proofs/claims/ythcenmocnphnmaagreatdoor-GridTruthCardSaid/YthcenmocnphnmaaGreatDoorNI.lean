/-
  Without any program: a tightened grid has just the terrains that keep the step; which cells are next to each other.
-/
import Derived.Test.YthcenmocnphnmaaGreatDoorNH
import Derived.Test.YthcenmocnphnmaaGreatDoorML
import Derived.Test.YthcenmocnphnmaaGreatDoorMK
set_option linter.unusedSimpArgs false
set_option linter.unusedVariables false
namespace Go.Proofs.YthcenmocnphnmaaGreatDoor

/-- heights that keep the step -/
def Keeps (g : G) (f : Nat → Int) (d : Int) : Prop := ∀ c k, c < g.ss.length → k ∈ (nearL g c).map Int.toNat → f c - f k ≤ d
section
variable {g : G} {d : Int} {f : Nat → Int} {tt uu : List (Int × Int)}
theorem wayL_keeps (V : Valid g) (ht : ∀ c, c < g.ss.length → loF g.ss c ≤ f c) (hk : Keeps g f d) {c : Nat} {v : Int} (hw : WayL g d c v) : c < g.ss.length ∧ v ≤ f c := by
  unfold WayL at hw
  induction hw with
  | start hc => exact ⟨List.mem_range.1 hc, ht _ (List.mem_range.1 hc)⟩
  | step hw hd ih =>
    refine ⟨near_lt V ih.1 hd, ?_⟩
    have := hk _ _ ih.1 hd
    omega
theorem wayH_keeps (V : Valid g) (ht : ∀ c, c < g.ss.length → f c ≤ hiF g.ss c) (hk : Keeps g f d) {c : Nat} {v : Int} (hw : WayH g d c v) : c < g.ss.length ∧ f c ≤ v := by
  unfold WayH at hw
  induction hw with
  | start hc => exact ⟨List.mem_range.1 hc, ht _ (List.mem_range.1 hc)⟩
  | step hw hd ih =>
    have hl := near_lt V ih.1 hd
    refine ⟨hl, ?_⟩
    have := hk _ _ hl (near_sym V ih.1 hd)
    omega
theorem tight_keeps (V : Valid g) (h : Tightened g d tt) : Keeps g (loF tt) d ∧ Keeps g (hiF tt) d := by
  refine ⟨fun c k hc hk => ?_, fun c k hc hk => ?_⟩
  · have hl := near_lt V hc hk
    have := (h.lower hl).2 _ (.step (h.lower hc).1 hk)
    try simp only at this
    omega
  · have hl := near_lt V hc hk
    have := (h.upper hc).2 _ (.step (h.upper hl).1 (near_sym V hc hk))
    try simp only at this
    omega
theorem tight_within (h : Tightened g d tt) {c : Nat} (hc : c < g.ss.length) : loF g.ss c ≤ loF tt c ∧ hiF tt c ≤ hiF g.ss c :=
  ⟨(h.lower hc).2 _ (.start (List.mem_range.2 hc)), (h.upper hc).2 _ (.start (List.mem_range.2 hc))⟩
theorem tight_between (V : Valid g) (h : Tightened g d tt) (ht : ∀ c, c < g.ss.length → loF g.ss c ≤ f c ∧ f c ≤ hiF g.ss c) (hk : Keeps g f d) {c : Nat} (hc : c < g.ss.length) : loF tt c ≤ f c ∧ f c ≤ hiF tt c :=
  ⟨(wayL_keeps V (fun c hc => (ht c hc).1) hk (h.lower hc).1).2, (wayH_keeps V (fun c hc => (ht c hc).2) hk (h.upper hc).1).2⟩
theorem empty_getD {ss : List (Int × Int)} : ss.any emptyB = false ↔ ∀ c, c < ss.length → loF ss c ≤ hiF ss c := by
  constructor
  · intro h c hc
    have h := List.any_eq_false.1 h _ (List.getElem_mem hc)
    unfold loF hiF
    rw [List.getD_eq_getElem?_getD, List.getElem?_eq_getElem hc]
    simp only [Option.getD_some]
    unfold emptyB at h
    simp only [decide_eq_true_eq] at h
    omega
  · intro h
    rw [List.any_eq_false]
    intro s hs
    obtain ⟨c, hc, rfl⟩ := List.mem_iff_getElem.1 hs
    have := h c hc
    unfold loF hiF at this
    rw [List.getD_eq_getElem?_getD, List.getElem?_eq_getElem hc] at this
    simp only [Option.getD_some] at this
    unfold emptyB
    simp only [decide_eq_true_eq]
    omega
/-- what Tighten says of a valid grid and an allowed step -/
theorem tight_cases (hz : checkE g = 0) (hd : 0 ≤ d ∧ d ≤ 2400000) (h : Tightened g d tt) :
    (tightR g d tt = (14, zeroG) ∧ ∃ c, c < g.ss.length ∧ hiF tt c < loF tt c) ∨ (tightR g d tt = (0, ⟨g.W, g.H, g.S, tt⟩) ∧ ∀ c, c < g.ss.length → loF tt c ≤ hiF tt c) := by
  unfold tightR
  rw [if_pos hz, if_pos hd]
  have hl := h.length
  cases he : tt.any emptyB
  · refine .inr ⟨rfl, fun c hc => ?_⟩
    exact empty_getD.1 he c (by omega)
  · refine .inl ⟨rfl, Classical.byContradiction fun hn => ?_⟩
    have : tt.any emptyB = false := empty_getD.2 fun c hc => by
      rcases Int.lt_or_le (hiF tt c) (loF tt c) with hx | hx
      · exact absurd ⟨c, by omega, hx⟩ hn
      · exact hx
    rw [he] at this
    cases this
theorem tight_check (hz : checkE g = 0) (h : Tightened g d tt) (hne : ∀ c, c < g.ss.length → loF tt c ≤ hiF tt c) : checkE ⟨g.W, g.H, g.S, tt⟩ = 0 := by
  have V := valid_of hz
  have hl := h.length
  have hr : rngG ⟨g.W, g.H, g.S, tt⟩ = true := by
    have := V.w1; have := V.w2; have := V.h1; have := V.h2; have := V.s1; have := V.s2
    unfold rngG
    simp only [decide_eq_true_eq]
    omega
  have ho : tt.all (okSpan 1200000) = true := by
    rw [List.all_eq_true]
    intro s hs
    obtain ⟨c, hc, rfl⟩ := List.mem_iff_getElem.1 hs
    have h1 := hne c (by omega)
    have h2 := tight_within h (c := c) (by omega)
    have h3 := ok_of V (c := c) (by omega)
    have e1 : loF tt c = tt[c].1 ∧ hiF tt c = tt[c].2 := by
      unfold loF hiF
      rw [List.getD_eq_getElem?_getD, List.getElem?_eq_getElem hc]
      exact ⟨rfl, rfl⟩
    unfold okSpan
    simp only [decide_eq_true_eq]
    omega
  unfold checkE
  rw [if_pos hr, if_pos (by show (tt.length : Int) = g.W * g.H; rw [hl]; exact V.len), if_pos ho]
/-- tightened again, it is the same -/
theorem tight_again (hz : checkE g = 0) (h : Tightened g d tt) (hne : ∀ c, c < g.ss.length → loF tt c ≤ hiF tt c) (k : Tightened ⟨g.W, g.H, g.S, tt⟩ d uu) : uu = tt := by
  have V' := valid_of (tight_check hz h hne)
  have hl := h.length
  have hk := tight_keeps (valid_of hz) h
  have k1 : Keeps ⟨g.W, g.H, g.S, tt⟩ (loF tt) d := fun c e hc he => hk.1 c e (by have : c < tt.length := hc; omega) he
  have k2 : Keeps ⟨g.W, g.H, g.S, tt⟩ (hiF tt) d := fun c e hc he => hk.2 c e (by have : c < tt.length := hc; omega) he
  refine spans_ext k.length fun c hc => ?_
  have hc : c < tt.length := by have := k.length; have e : (⟨g.W, g.H, g.S, tt⟩ : G).ss.length = tt.length := rfl; omega
  have a := tight_within k (c := c) hc
  have b := (wayL_keeps V' (fun c _ => Int.le_refl _) k1 (k.lower (c := c) hc).1).2
  have b' := (wayH_keeps V' (fun c _ => Int.le_refl _) k2 (k.upper (c := c) hc).1).2
  have a1 : loF tt c ≤ loF uu c := a.1
  have a2 : hiF uu c ≤ hiF tt c := a.2
  have b1 : loF uu c ≤ loF tt c := b
  have b2 : hiF tt c ≤ hiF uu c := b'
  show loF uu c = loF tt c ∧ hiF uu c = hiF tt c
  omega
end
theorem sq_one {a b : Int} : a * a + b * b = 1 ↔ (a = 1 ∧ b = 0) ∨ (a = -1 ∧ b = 0) ∨ (a = 0 ∧ b = 1) ∨ (a = 0 ∧ b = -1) := by
  constructor
  · intro h
    have ha : ∀ x : Int, 0 ≤ x * x ∧ (2 ≤ x ∨ x ≤ -2 → 4 ≤ x * x) := fun x => by
      rcases Int.le_total 0 x with hx | hx
      · refine ⟨Int.mul_nonneg hx hx, fun h => ?_⟩
        have : 2 * 2 ≤ x * x := Int.mul_le_mul (by omega) (by omega) (by omega) hx
        omega
      · have e : x * x = (-x) * (-x) := by rw [Int.neg_mul_neg]
        rw [e]
        refine ⟨Int.mul_nonneg (by omega) (by omega), fun h => ?_⟩
        have : 2 * 2 ≤ (-x) * (-x) := Int.mul_le_mul (by omega) (by omega) (by omega) (by omega)
        omega
    have h1 := ha a
    have h2 := ha b
    have a3 : a = -1 ∨ a = 0 ∨ a = 1 := by
      rcases Classical.em (2 ≤ a ∨ a ≤ -2) with h | h
      · have := h1.2 h; omega
      · omega
    have b3 : b = -1 ∨ b = 0 ∨ b = 1 := by
      rcases Classical.em (2 ≤ b ∨ b ≤ -2) with h | h
      · have := h2.2 h; omega
      · omega
    rcases a3 with rfl | rfl | rfl <;> rcases b3 with rfl | rfl | rfl <;> simp at h ⊢
  · rintro (⟨rfl, rfl⟩ | ⟨rfl, rfl⟩ | ⟨rfl, rfl⟩ | ⟨rfl, rfl⟩) <;> rfl
def distB (g : G) (c d : Int) : Bool := decide ((c % g.W - d % g.W) * (c % g.W - d % g.W) + (c / g.W - d / g.W) * (c / g.W - d / g.W) = 1)
theorem cell_mod {g : G} (V : Valid g) {x y : Nat} (hx : (x : Int) < g.W) : ((cellAt g x y : Nat) : Int) % g.W = x ∧ ((cellAt g x y : Nat) : Int) / g.W = y := by
  have h1 := V.w1
  have e : ((cellAt g x y : Nat) : Int) = g.W * y + x := by
    unfold cellAt
    rw [Int.natCast_add, Int.natCast_mul, Int.toNat_of_nonneg (by omega)]
  rw [e]
  exact coord (by omega) hx
/-- two cells are next to each other if their distance is one -/
theorem near_iff {g : G} (V : Valid g) {c d : Nat} (hc : c < g.ss.length) (hd : d < g.ss.length) : d ∈ (nearL g c).map Int.toNat ↔ distB g c d = true := by
  obtain ⟨x, y, hx, hy, rfl⟩ := cell_xy V hc
  obtain ⟨u, v, hu, hv, rfl⟩ := cell_xy V hd
  have e1 := cell_mod V (y := y) hx
  have e2 := cell_mod V (y := v) hu
  unfold distB
  rw [e1.1, e1.2, e2.1, e2.2, decide_eq_true_eq, sq_one]
  constructor
  · intro h
    rw [near_xy V hx] at h
    obtain ⟨e, he, hh⟩ := List.mem_map.1 h
    have hm : ∀ p q : Nat, (p : Int) < g.W → e = ((cellAt g p q : Nat) : Int) → (u : Int) = p ∧ (v : Int) = q := fun p q hp hpq => by
      have e3 := cell_mod V (y := q) hp
      have : cellAt g u v = cellAt g p q := by omega
      rw [this, e3.1, e3.2] at e2
      omega
    have w1 := V.w1
    unfold nbl at he
    simp only [List.mem_append] at he
    rcases he with h | h | h | h <;> split at h <;> simp only [List.mem_singleton, List.not_mem_nil] at h
    · have := hm (x + 1) y (by omega) (by rw [h]; unfold cellAt; omega)
      omega
    · have := hm x (y + 1) (by omega) (by rw [h]; unfold cellAt; rw [Nat.mul_add]; omega)
      omega
    · obtain ⟨k, rfl⟩ : ∃ k, x = k + 1 := ⟨x - 1, by omega⟩
      have := hm k y (by omega) (by rw [h]; unfold cellAt; omega)
      omega
    · obtain ⟨k, rfl⟩ : ∃ k, y = k + 1 := ⟨y - 1, by omega⟩
      have := hm x k (by omega) (by rw [h]; unfold cellAt; rw [Nat.mul_add]; omega)
      omega
  · rintro (⟨h1, h2⟩ | ⟨h1, h2⟩ | ⟨h1, h2⟩ | ⟨h1, h2⟩)
    · obtain rfl : x = u + 1 := by omega
      obtain rfl : y = v := by omega
      exact near_left V hx
    · obtain rfl : u = x + 1 := by omega
      obtain rfl : y = v := by omega
      exact near_right V hu
    · obtain rfl : x = u := by omega
      obtain rfl : y = v + 1 := by omega
      exact near_down V hx
    · obtain rfl : x = u := by omega
      obtain rfl : v = y + 1 := by omega
      exact near_up V hx hv
end Go.Proofs.YthcenmocnphnmaaGreatDoor
/-
  The law's near: the cells next to a cell, by their distance.
-/
namespace Go.Proofs.YthcenmocnphnmaaGreatDoor
open Go.RowKit Go.Shelf

/-- the cells next to c, among the first q -/
def nearP (g : G) (c : Nat) (q : Nat) : List Int := ((List.range q).filter fun (d : Nat) => distB g c d).map fun (d : Nat) => (d : Int)
theorem nearP_yes {g : G} {c q : Nat} (h : distB g c q = true) : nearP g c (q + 1) = nearP g c q ++ [(q : Int)] := by
  unfold nearP
  rw [List.range_succ, List.filter_append, List.map_append]
  simp [h]
theorem nearP_no {g : G} {c q : Nat} (h : distB g c q = false) : nearP g c (q + 1) = nearP g c q := by
  unfold nearP
  rw [List.range_succ, List.filter_append, List.map_append]
  simp [h]
theorem nearP_len (g : G) (c q : Nat) : (nearP g c q).length ≤ q := by
  unfold nearP
  rw [List.length_map]
  have := List.length_filter_le (fun (d : Nat) => distB g c d) (List.range q)
  rw [List.length_range] at this
  exact this
theorem nearP_mem {g : G} (V : Valid g) {c : Nat} (hc : c < g.ss.length) (d : Nat) : (d : Int) ∈ nearP g c g.ss.length ↔ d ∈ (nearL g c).map Int.toNat := by
  unfold nearP
  rw [List.mem_map]
  constructor
  · rintro ⟨e, he, hed⟩
    obtain rfl : e = d := by omega
    rw [List.mem_filter, List.mem_range] at he
    exact (near_iff V hc he.1).2 he.2
  · intro h
    have hd := near_lt V hc h
    exact ⟨d, List.mem_filter.2 ⟨List.mem_range.2 hd, (near_iff V hc hd).1 h⟩, rfl⟩
theorem nearP_nat {g : G} {c q : Nat} {z : Int} (h : z ∈ nearP g c q) : ∃ d : Nat, z = d ∧ d < q := by
  unfold nearP at h
  obtain ⟨d, hd, rfl⟩ := List.mem_map.1 h
  rw [List.mem_filter, List.mem_range] at hd
  exact ⟨d, rfl, hd.1⟩
theorem sq_bound {u : Int} (h1 : -65536 ≤ u) (h2 : u ≤ 65536) : 0 ≤ u * u ∧ u * u ≤ 4294967296 := by
  rcases Int.le_total 0 u with h | h
  · refine ⟨Int.mul_nonneg h h, ?_⟩
    have : u * u ≤ 65536 * 65536 := Int.mul_le_mul h2 h2 h (by omega)
    omega
  · have e : u * u = (-u) * (-u) := by rw [Int.neg_mul_neg]
    rw [e]
    refine ⟨Int.mul_nonneg (by omega) (by omega), ?_⟩
    have : (-u) * (-u) ≤ 65536 * 65536 := Int.mul_le_mul (by omega) (by omega) (by omega) (by omega)
    omega
theorem quo_rng {c n W : Int} (h0 : 0 ≤ c) (h1 : c < n) (h2 : n ≤ 65536) (h3 : 0 < W) (h4 : W ≤ 65536) : 0 ≤ c % W ∧ c % W ≤ 65536 ∧ 0 ≤ c / W ∧ c / W ≤ 65536 := by
  have a := Int.emod_nonneg c (show W ≠ 0 by omega)
  have b := Int.emod_lt_of_pos c h3
  have d := Int.ediv_nonneg h0 (show 0 ≤ W by omega)
  have e : c / W ≤ c := Int.ediv_le_self _ h0
  omega
set_option maxRecDepth 100000 in
set_option maxHeartbeats 4000000 in
theorem lnear_own (x : Value) (g : G) (c : Nat) (w : World) (hg : GridAt w w.heap.size x g) (V : Valid g) (hc : c < g.ss.length) :
    Calls Tryz.prog 48 #[x, .int .i64 c] w fun e w' => ∃ v, e = .returned v ∧ w'.ownsRow (w.heap.size + 1) 3 1 v (nearP g c g.ss.length).length ((nearP g c g.ss.length).map (Value.int .i64)) ∧ Below w.heap.size w w' := by
  obtain ⟨v, rfl, hs⟩ := hg
  obtain ⟨A, k, rfl, hk, hm⟩ := hs.open_
  obtain ⟨W1, hW1⟩ : ∃ W1, w.alloc (.cells #[.int .i64 g.W, .int .i64 g.H, .int .i64 g.S, .slice A g.ss.length k] 24) = W1 := ⟨_, rfl⟩
  have HB : Hid (Below w.heap.size w W1) := by rw [← hW1]; exact (by repeat (first | exact Below.refl _ _ | assumption | refine Below.drew ?_ | refine Below.drewN' ?_ _ | (refine Below.alloc ?_ (by simp <;> omega) _) | (refine Below.setCell ?_ (by simp <;> omega) _)))
  have HBB : Hid (Blk W1 w.heap.size 24 #[.int .i64 g.W, .int .i64 g.H, .int .i64 g.S, .slice A g.ss.length k]) := by rw [← hW1]; exact Blk.new' _ _ _ rfl
  have Hs1 : Hid (W1.heap.size = w.heap.size + 1) := by rw [Hid, ← hW1]; simp
  have HW1 := Lib.hid hW1
  clear hs hW1
  have hw1 := V.w1
  have hw2 := V.w2
  have hsm := V.small
  have HV := Lib.hid V
  clear V
  obtain ⟨i0, hi0, hz0, hz1, hz2⟩ := info_parts int_info
  have hc0 : (0 : Int) ≤ (c : Int) := by omega
  have hc1 : (c : Int) < (g.ss.length : Int) := by omega
  have hwp : (0 : Int) < g.W := by omega
  obtain ⟨xc, hxc⟩ : ∃ z, (c : Int) % g.W = z := ⟨_, rfl⟩
  obtain ⟨yc, hyc⟩ : ∃ z, (c : Int) / g.W = z := ⟨_, rfl⟩
  have Rc := quo_rng hc0 hc1 (by omega) hwp (by omega)
  rw [hxc, hyc] at Rc
  obtain ⟨rc1, rc2, rc3, rc4⟩ := Rc
  have txc : (c : Int).tmod g.W = xc := by rw [Int.tmod_eq_emod_of_nonneg hc0]; exact hxc
  have tyc : (c : Int).tdiv g.W = yc := by rw [Int.tdiv_eq_ediv_of_nonneg hc0]; exact hyc
  have HXC := Lib.hid (And.intro hxc hyc)
  have gW0 : (g.W == 0) = false := by rw [beq_eq_false_iff_ne]; omega
  have gW1 : ¬ g.W = 0 := by omega
  go_enter Tryz.func48, Tryz.ntmps48
  obtain ⟨d0, d1, d2, d3⟩ := grid_parts HBB.out
  go_wp2_with fail
  rw [HW1.out]
  clear d0 d1 d2 d3
  clear hxc hyc
  go_loopw [5, 12] (fun a i wr => ∃ (q : Nat) (va : Value), va = a ∧ q ≤ g.ss.length ∧ i = .int .i64 q ∧ Hid (wr.ownsRow (w.heap.size + 1) 3 1 va (nearP g c q).length ((nearP g c q).map (Value.int .i64))) ∧ Hid (Below (w.heap.size + 1) W1 wr)) (fun _ i _ => g.ss.length - (intOf i).toNat)
  case atStart => exact ⟨0, _, rfl, Nat.zero_le _, rfl, World.ownsRow_nil _ _ _ _, Below.refl _ _⟩
  case round =>
    obtain ⟨q, va, rfl, hq, rfl, Hown, HBr⟩ := hrel
    have e1 := Hs1.out
    have HBw := Lib.hid (HB.out.trans (HBr.out.mono (by omega)))
    obtain ⟨d0, d1, d2, d3⟩ := grid_parts (HBB.out.below HBr.out (by omega))
    have hsz : w.heap.size + 1 ≤ wr.heap.size := by have := HBr.out.size; omega
    clear e1
    by_cases hlt : q < g.ss.length
    · have hq0 : (0 : Int) ≤ (q : Int) := by omega
      have hq1 : (q : Int) < (g.ss.length : Int) := by omega
      obtain ⟨xd, hxd⟩ : ∃ z, (q : Int) % g.W = z := ⟨_, rfl⟩
      obtain ⟨yd, hyd⟩ : ∃ z, (q : Int) / g.W = z := ⟨_, rfl⟩
      have Rd := quo_rng hq0 hq1 (by omega) hwp (by omega)
      rw [hxd, hyd] at Rd
      obtain ⟨rd1, rd2, rd3, rd4⟩ := Rd
      have txd : (q : Int).tmod g.W = xd := by rw [Int.tmod_eq_emod_of_nonneg hq0]; exact hxd
      have tyd : (q : Int).tdiv g.W = yd := by rw [Int.tdiv_eq_ediv_of_nonneg hq0]; exact hyd
      obtain ⟨u, hu⟩ : ∃ u, xc - xd = u := ⟨_, rfl⟩
      obtain ⟨v, hv⟩ : ∃ v, yc - yd = v := ⟨_, rfl⟩
      have wu : IntKind.i64.wrap (xc - xd) = u := by rw [← hu]; exact IntWalk.i64_in _ (by omega)
      have wv : IntKind.i64.wrap (yc - yd) = v := by rw [← hv]; exact IntWalk.i64_in _ (by omega)
      have bu := sq_bound (u := u) (by omega) (by omega)
      have bv := sq_bound (u := v) (by omega) (by omega)
      have Hd : Hid (distB g c q = decide (u * u + v * v = 1)) := by
        unfold distB
        rw [Hid, HXC.out.1, HXC.out.2, hxd, hyd, hu, hv]
      clear hxd hyd hu hv
      obtain ⟨a, ha⟩ : ∃ a, u * u = a := ⟨_, rfl⟩
      obtain ⟨b, hb⟩ : ∃ b, v * v = b := ⟨_, rfl⟩
      rw [ha, hb] at Hd
      rw [ha] at bu
      rw [hb] at bv
      obtain ⟨bu1, bu2⟩ := bu
      obtain ⟨bv1, bv2⟩ := bv
      go_upto_region 5 with (fail)
      go_cut [7, 8] from 15 to 33 (fun s t wx => s = .int .i64 u ∧ t = .int .i64 v ∧ ∃ n, wx = wr.drewN n)
      case first =>
        clear ha hb
        go_quiet (fail)
        go_wp2_with fail
        all_goals
          go_meet
          exact ⟨rfl, rfl, _, rfl⟩
      case rest =>
        obtain ⟨rfl, rfl, nn, rfl⟩ := hcut
        obtain ⟨U, hU⟩ : ∃ U, wr.drewN nn = U := ⟨_, rfl⟩
        have HU : Hid (Below wr.heap.size wr U ∧ U.heap.size = wr.heap.size) := by rw [Hid, ← hU]; exact ⟨Below.drewN' (Below.refl _ _) _, rfl⟩
        rw [hU]
        clear hU wu wv txd tyd rd1 rd2 rd3 rd4
        have HownU : Hid (U.ownsRow (w.heap.size + 1) 3 1 va (nearP g c q).length ((nearP g c q).map (Value.int .i64))) := own_below Hown.out HU.out.1 (Nat.le_refl _)
        have HBU : Hid (Below (w.heap.size + 1) W1 U) := HBr.out.trans (HU.out.1.mono hsz)
        have hszU : w.heap.size + 1 ≤ U.heap.size := by have := HU.out.2; omega
        have hln := nearP_len g c q
        by_cases hd : distB g c q = true
        · have hs : a + b = 1 := by have h := Hd.out; rw [hd] at h; exact of_decide_eq_true h.symm
          have Hsn := Lib.hid (nearP_yes hd)
          clear Hd hd
          go_wp2_with (at_builtin; ((refine wpList_append_own_at _ rfl (.tmp 41) (.tmp 43) 26 rfl (w.heap.size + 1) 3 i0 (.int .i64 0) 1 8 Tryz.underlying26 hi0 hz0 hz1 hz2 rfl (by decide) va (nearP g c q).length _ rfl (HownU.out.alloc _) ⟨_, 0, none⟩ 1 1 [.int .i64 q] rfl rfl (cell_one_new' _ _ _ (by simp)) (by simp [Value.oneCell']) (by unfold maxLen; omega) (by omega) (by simp <;> omega) ?_; intro v1 w1 hown1 hg1 _ _; obtain ⟨HO1, s2, HB1, HBs1⟩ := ints_step (l := nearP g c q) rfl HownU.out HBU.out hszU hown1 hg1; have HO2 : Hid (w1.ownsRow (w.heap.size + 1) 3 1 v1 (nearP g c (q + 1)).length ((nearP g c (q + 1)).map (Value.int .i64))) := (by have h := HO1.out; rw [s2.out, ← Hsn.out] at h; exact h); clear s2 HO1 hown1 hg1)))
          go_roundw
          case rel => exact ⟨q + 1, v1, rfl, by omega, by go_num, HO2.out, HB1.out⟩
          case measure => simp [intOf]; omega
        · have hs : ((a + b) == 1) = false := by have h := Hd.out; rw [hid_not hd] at h; rw [beq_eq_false_iff_ne]; exact of_decide_eq_false h.symm
          have Hsn := Lib.hid (nearP_no (hid_not hd).out)
          clear Hd hd
          go_wp2
          go_roundw
          case rel => exact ⟨q + 1, va, rfl, by omega, by go_num, by rw [Hid, Hsn.out]; exact HownU.out, HBU.out⟩
          case measure => simp [intOf]; omega
    · have hq' : q = g.ss.length := by omega
      have HF : Hid (wr.ownsRow (w.heap.size + 1) 3 1 va (nearP g c g.ss.length).length ((nearP g c g.ss.length).map (Value.int .i64))) := by
        have h := Hown.out
        rw [hq'] at h
        exact h
      clear hq' Hown
      go_wp2
      go_ret
      exact ⟨_, rfl, HF.out, HBw.out⟩
theorem lnear_any (x : Value) (g : G) (c : Nat) (w : World) (hg : GridAt w w.heap.size x g) (V : Valid g) (hc : c < g.ss.length) :
    Calls Tryz.prog 48 #[x, .int .i64 c] w fun e w' => ∃ v, e = .returned v ∧ IntsAt w' w'.heap.size v (nearP g c g.ss.length) ∧ Below w.heap.size w w' :=
  (lnear_own x g c w hg V hc).mono fun _ _ ⟨v, he, ho, hb⟩ => ⟨v, he, Reads.of_own ho, hb⟩
end Go.Proofs.YthcenmocnphnmaaGreatDoor
/-
  The law's terrain: points within the spans of a grid.
-/
namespace Go.Proofs.YthcenmocnphnmaaGreatDoor
open Go.RowKit Go.Shelf

/-- the height of a terrain -/
def hgtT (wh : List Int) (s : Int × Int) (i : Nat) : Int := s.1 + (if wh.length = 0 then 0 else val wh (i % wh.length) % (s.2 - s.1 + 1))
def ptT (g : G) (wh : List Int) (i : Nat) : Int × Int := (hgtT wh (g.ss.getD i (0, 0)) i, hgtT wh (g.ss.getD i (0, 0)) i)
def terrG (g : G) (wh : List Int) : G := ⟨g.W, g.H, g.S, (List.range g.ss.length).map (ptT g wh)⟩
theorem hgtT_rng {wh : List Int} {s : Int × Int} (hs : s.1 ≤ s.2) (i : Nat) : s.1 ≤ hgtT wh s i ∧ hgtT wh s i ≤ s.2 := by
  unfold hgtT
  split
  · omega
  · have h1 := Int.emod_nonneg (val wh (i % wh.length)) (show s.2 - s.1 + 1 ≠ 0 by omega)
    have h2 := Int.emod_lt_of_pos (val wh (i % wh.length)) (show 0 < s.2 - s.1 + 1 by omega)
    omega
def TerrGOut (g : G) (w : World) (e : Ending) (w' : World) : Prop := ∃ x, e = .returned x ∧ GridAt w' w'.heap.size x g ∧ Below w.heap.size w w' ∧ FreshG w.heap.size x ∧ ∃ v, x = .agg #[.int .i64 g.W, .int .i64 g.H, .int .i64 g.S, v] ∧ w'.ownsRow w.heap.size 34 2 v g.ss.length (spanCells g.ss)
set_option maxRecDepth 100000 in
set_option maxHeartbeats 4000000 in
theorem terrain_any (x y : Value) (g : G) (wh : List Int) (w : World) (hg : GridAt w w.heap.size x g) (hy : NumsAt .u8 w w.heap.size y wh) (hyr : ∀ z ∈ wh, 0 ≤ z ∧ z ≤ 255) (V : Valid g) (hl600 : g.ss.length ≤ 600) :
    Calls Tryz.prog 41 #[x, y] w (TerrGOut (terrG g wh) w) := by
  have HY := Lib.hid hy
  have HYR := Lib.hid hyr
  obtain ⟨v, rfl, hs⟩ := hg
  have HS := Lib.hid hs
  obtain ⟨A, k, rfl, hk, hm⟩ := hs.open_
  obtain ⟨A', k', rfl, hk', hm'⟩ := hy.open_
  have HV := Lib.hid V
  clear hs hy hyr V
  obtain ⟨W3, hW3⟩ : ∃ W3, ((w.alloc (.cells #[.int .i64 g.W, .int .i64 g.H, .int .i64 g.S, .slice A g.ss.length k] 24)).alloc (.cells #[.int .i64 0, .int .i64 0, .int .i64 0, .slice none 0 0] 24)).alloc (.cells #[.int .i64 g.W, .int .i64 g.H, .int .i64 g.S, .slice none 0 0] 24) = W3 := ⟨_, rfl⟩
  have HB3 : Hid (Below w.heap.size w W3) := by rw [← hW3]; exact (by repeat (first | exact Below.refl _ _ | assumption | refine Below.drew ?_ | refine Below.drewN' ?_ _ | (refine Below.alloc ?_ (by simp <;> omega) _) | (refine Below.setCell ?_ (by simp <;> omega) _)))
  have HL3 : Hid (Blk W3 w.heap.size 24 #[.int .i64 g.W, .int .i64 g.H, .int .i64 g.S, .slice A g.ss.length k]) := by rw [← hW3]; exact Blk.alloc (Blk.alloc (Blk.new' _ _ _ rfl) _) _
  have HZ3 : Hid (Blk W3 (w.heap.size + 1) 24 #[.int .i64 0, .int .i64 0, .int .i64 0, .slice none 0 0]) := by rw [← hW3]; exact Blk.alloc (Blk.new' _ _ _ (by simp)) _
  have HG3 : Hid (Blk W3 (w.heap.size + 1 + 1) 24 #[.int .i64 g.W, .int .i64 g.H, .int .i64 g.S, .slice none 0 0]) := by rw [← hW3]; exact Blk.new' _ _ _ (by simp)
  have Hsz3 : Hid (W3.heap.size = w.heap.size + 1 + 1 + 1) := by rw [Hid, ← hW3]; simp
  have HW3 := Lib.hid hW3
  clear hW3
  obtain ⟨i0, hi0, hz0, hz1, hz2⟩ := info_parts span_info
  go_enter Tryz.func41, Tryz.ntmps41
  go_wp2
  rw [HW3.out]
  go_loopw [14] (fun jv wr => ∃ (q : Nat) (ss : List (Int × Int)) (va : Value), jv = .int .i64 q ∧ q ≤ g.ss.length ∧ ss.length = q ∧ Hid (ss = (List.range q).map (ptT g wh)) ∧ Hid (RdSt (w.heap.size + 1 + 1) W3 wr g.W g.H g.S ss va)) (fun j _ => g.ss.length - (intOf j).toNat)
  case atStart => exact ⟨0, [], _, rfl, Nat.zero_le _, rfl, rfl, ⟨World.ownsRow_nil _ _ _ _, HG3.out, Below.refl _ _⟩⟩
  case round =>
    obtain ⟨q, ss, va, rfl, hq, hlen, Hss, Hst⟩ := hrel
    have e3 := Hsz3.out
    have HBw := Lib.hid (HB3.out.trans (Hst.out.bel.mono (by omega)))
    have hle : ss.length ≤ 600 := by omega
    have Hlen := Lib.hid hlen
    clear hlen
    have hsz := Hst.out.blk.lt
    have HL := Lib.hid (HL3.out.below Hst.out.bel (by omega))
    have HZ := Lib.hid (HZ3.out.below Hst.out.bel (by omega))
    clear e3
    obtain ⟨d0, d1, d2, d3⟩ := grid_parts HL.out
    have z3 := Hst.out.blk.cell 3
    simp only [List.getElem?_toArray, List.getElem?_cons_zero, List.getElem?_cons_succ] at z3
    have l0 : w.heap.size < wr.heap.size := by omega
    have l2 : w.heap.size + 1 + 1 < wr.heap.size := by omega
    by_cases hlt : q < g.ss.length
    · have hq0 : (0 : Int) ≤ (q : Int) := by omega
      have hq1 : (q : Int) < (g.ss.length : Int) := by omega
      obtain ⟨bs, os, rfl, hbs, c1, c2⟩ := (HS.out.below HBw.out).at_ hlt
      have hod := ok_of HV.out hlt
      rw [loF_eq hlt, hiF_eq hlt] at hod
      have Hsp : Hid (ptT g wh q = (hgtT wh g.ss[q] q, hgtT wh g.ss[q] q)) := by
        rw [Hid, ptT, List.getD_eq_getElem?_getD, List.getElem?_eq_getElem hlt]; rfl
      have Hrr := Lib.hid (hgtT_rng (wh := wh) hod.1 q)
      generalize g.ss[q] = sq at *
      obtain ⟨lo, hi⟩ := sq
      obtain ⟨o1, o2, o3⟩ := hod
      simp only at o1 o2 o3 c1 c2
      obtain ⟨t, ht⟩ : ∃ t, hgtT wh (lo, hi) q = t := ⟨_, rfl⟩
      rw [ht] at Hsp Hrr
      have hr1 : lo ≤ t := Hrr.out.1
      have hr2 : t ≤ hi := Hrr.out.2
      have HT := Lib.hid ht
      clear ht
      go_upto_region 6 with (fail)
      obtain ⟨Wq, hWq⟩ : ∃ W, wr.alloc (.cells #[.int .i64 lo, .int .i64 hi] 34) = W := ⟨_, rfl⟩
      have HSB : Hid (Blk Wq wr.heap.size 34 #[.int .i64 lo, .int .i64 hi]) := by rw [Hid, ← hWq]; exact Blk.new' _ _ _ rfl
      have HWq : Hid (Below wr.heap.size wr Wq ∧ Wq.heap.size = wr.heap.size + 1) := by rw [Hid, ← hWq]; exact ⟨(by repeat (first | exact Below.refl _ _ | assumption | refine Below.drew ?_ | refine Below.drewN' ?_ _ | (refine Below.alloc ?_ (by simp <;> omega) _) | (refine Below.setCell ?_ (by simp <;> omega) _))), by simp⟩
      rw [hWq]
      clear hWq
      have s0 : Wq.cell? ⟨wr.heap.size, 0, none⟩ = some (.int .i64 lo) := HSB.out.cell 0
      have s1 : Wq.cell? ⟨wr.heap.size, 1, none⟩ = some (.int .i64 hi) := HSB.out.cell 1
      rcases Nat.eq_zero_or_pos wh.length with hl | hl
      case' inl =>
        have ht0 : t = lo := by rw [← HT.out, hgtT, if_pos hl]; simp
        have hlI : ¬ (0 : Int) < (wh.length : Int) := by omega
        clear hl
        go_upto_region 9 with (fail)
        subst ht0
        clear hlI s0 s1
        obtain ⟨U, hU⟩ : ∃ U, U = Wq := ⟨_, rfl⟩
        subst hU
        have HU := HWq
      case' inr =>
        obtain ⟨rr, hrr⟩ : ∃ r, q % wh.length = r := ⟨_, rfl⟩
        have hrl : rr < wh.length := by rw [← hrr]; exact Nat.mod_lt _ hl
        have hmod : (q : Int).tmod (wh.length : Int) = (rr : Int) := by rw [← hrr]; exact (Int.ofNat_tmod q wh.length).symm
        obtain ⟨bl, ol, rfl, hbl, c3⟩ := ((HY.out.below HBw.out).below (HWq.out.1.mono (by omega))).at_ (j := rr) hrl
        have hmr := HYR.out _ (List.getElem_mem hrl)
        have Hm : t = lo + wh[rr] % (hi - lo + 1) := by
          rw [← HT.out, hgtT, if_neg (by omega), hrr, val, List.getD_eq_getElem?_getD, List.getElem?_eq_getElem hrl]; rfl
        generalize wh[rr] = m at *
        obtain ⟨hm1, hm2⟩ := hmr
        have wm : IntKind.i64.wrap m = m := IntWalk.i64_in _ (by omega)
        have ws : IntKind.i64.wrap (hi - lo) = hi - lo := IntWalk.i64_in _ (by omega)
        have ws1 : IntKind.i64.wrap (hi - lo + 1) = hi - lo + 1 := IntWalk.i64_in _ (by omega)
        have tm : m.tmod (hi - lo + 1) = t - lo := by rw [Int.tmod_eq_emod_of_nonneg hm1]; omega
        have wt : IntKind.i64.wrap (lo + (t - lo)) = lo + (t - lo) := IntWalk.i64_in _ (by omega)
        have hl0 : (0 : Int) < (wh.length : Int) := by omega
        have hl1 : ((wh.length : Int) == 0) = false := by rw [beq_eq_false_iff_ne]; omega
        have hl2 : ¬ (wh.length : Int) = 0 := by omega
        have hl3 : ¬ wh.length = 0 := by omega
        have hn1 : ((hi - lo + 1) == 0) = false := by rw [beq_eq_false_iff_ne]; omega
        have hn2 : ¬ (hi - lo + 1) = 0 := by omega
        have hrr0 : (0 : Int) ≤ (rr : Int) := by omega
        have hrr1 : (rr : Int) < (wh.length : Int) := by omega
        clear hrr Hm
        go_upto_region 8 with (fail)
        go_cut [8] from 24 to 41 (fun a wx => a = .int .i64 (lo + (t - lo)) ∧ ∃ n, wx = Wq.drewN n)
        case first =>
          go_quiet (fail)
          go_wp2_with fail
          all_goals
            go_meet
            exact ⟨rfl, _, rfl⟩
        case' rest =>
          obtain ⟨rfl, nn, rfl⟩ := hcut
          have et : lo + (t - lo) = t := by omega
          rw [et]
          obtain ⟨U, hU⟩ : ∃ U, Wq.drewN nn = U := ⟨_, rfl⟩
          have HU : Hid (Below wr.heap.size wr U ∧ U.heap.size = wr.heap.size + 1) := by rw [Hid, ← hU]; exact ⟨Below.drewN' HWq.out.1 _, HWq.out.2⟩
          rw [hU]
          clear hU hl wm ws ws1 tm wt hl0 hl1 hl2 hl3 hn1 hn2 hmod c3 et s0 s1
      all_goals
        have HstU := Lib.hid (Hst.out.below HU.out.1)
        have hsu := HU.out.2
        have lu : w.heap.size + 1 + 1 + 1 ≤ U.heap.size := by omega
        have lv : w.heap.size + 1 + 1 < U.heap.size := by omega
        clear hsu d0 d1 d2 d3 z3 c1 c2
        have y3 := HstU.out.at3
        have Hsn : Hid (ss ++ [(t, t)] = (List.range (q + 1)).map (ptT g wh)) := by
          rw [Hid, List.range_succ, List.map_append, ← Hss.out, List.map_singleton, Hsp.out]
        go_wp2_with (at_builtin; ((refine wpList_append_own_at _ rfl (.tmp 42) (.tmp 46) 22 rfl (w.heap.size + 1 + 1 + 1) 34 i0 (.agg #[.int .i64 0, .int .i64 0]) 2 16 Tryz.underlying22 hi0 hz0 hz1 hz2 rfl (by decide) va ss.length _ rfl (HstU.out.own.alloc _) ⟨U.heap.size, 0, none⟩ 1 1 [.int .i64 t, .int .i64 t] rfl rfl (cells_pair_new _ _ _ _ (by simp)) (by simp [Value.oneCell']) (by unfold maxLen; omega) (by omega) (by simp <;> omega) ?_; intro v1 w8 hown1 hg1 _ _; obtain ⟨g8, c8, rfl⟩ := own_some hown1 (Nat.succ_pos _); have hm := RdSt.mid HstU.out hg1; have y4 := hm.1; have y5 := hm.2; have HS8 := Lib.hid (RdSt.step (x := (t, t)) HstU.out rfl hown1 hg1); clear hm hown1 hg1)))
        go_roundw
        case rel => exact ⟨q + 1, ss ++ [(t, t)], _, by go_num, by omega, by have := Hlen.out; simp; omega, Hsn.out, HS8.out⟩
        case measure => simp [intOf] <;> omega
    · have hqe : q = g.ss.length := by omega
      have hpos := HV.out.pos
      obtain ⟨g8, c8, rfl⟩ := own_some Hst.out.own (by have := Hlen.out; omega)
      have hE : terrG g wh = ⟨g.W, g.H, g.S, ss⟩ := by rw [terrG, Hss.out, hqe]
      have HE := Lib.hid hE
      have hg8 := (Hst.out.own.lt g8 rfl).1
      have HVV : Hid ((Value.slice (some ⟨g8, 0, none⟩) ss.length c8).ownBlock ≠ some (w.heap.size + 1)) := fun e => by have := (Hst.out.own.lt _ e).1; omega
      obtain ⟨⟨y0, y1, y2, y3⟩, f0, f1, f2, f3⟩ := zero_parts HZ.out
      obtain ⟨x0, x1, x2, x3⟩ := grid_parts Hst.out.blk
      have n1 : ¬ w.heap.size + 1 + 1 = w.heap.size + 1 := by omega
      have n2 : ¬ w.heap.size + 1 = w.heap.size + 1 + 1 := by omega
      clear hqe hE z3
      go_wp2
      refine bodyPost_ret (v := .agg #[.int .i64 g.W, .int .i64 g.H, .int .i64 g.S, .slice (some ⟨g8, 0, none⟩) ss.length c8]) (by simp [results, Tryz.results41, go_sem, y0, y1, y2, y3, f0, f1, f2, f3]) rfl ?_
      rw [HE.out]
      refine ⟨_, rfl, ⟨_, rfl, ?_⟩, HBw.out.trans (by repeat (first | exact Below.refl _ _ | assumption | refine Below.drew ?_ | refine Below.drewN' ?_ _ | (refine Below.alloc ?_ (by simp <;> omega) _) | (refine Below.setCell ?_ (by simp <;> omega) _))), freshG_some (by omega) _ _ _ _ _, _, rfl, ?_⟩
      · refine Reads.of_own (base := w.heap.size + 1 + 1 + 1) (e := 34) ?_
        repeat (refine own_set ?_ (by exact HVV.out) _)
        exact Hst.out.own
      · refine own_base (base := w.heap.size + 1 + 1 + 1) ?_ (by omega)
        repeat (refine own_set ?_ (by exact HVV.out) _)
        exact Hst.out.own
end Go.Proofs.YthcenmocnphnmaaGreatDoor
/-
  GridTight's closure: whether heights keep the step.
-/
namespace Go.Proofs.YthcenmocnphnmaaGreatDoor
open Go.RowKit Go.Shelf

/-- an end of each span -/
def endF (low : Bool) (tt : List (Int × Int)) (c : Nat) : Int := if low then loF tt c else hiF tt c
theorem nearP_get {g : G} (V : Valid g) {c : Nat} (hc : c < g.ss.length) {q : Nat} (hq : q < (nearP g c g.ss.length).length) : ∃ z : Nat, (nearP g c g.ss.length)[q] = (z : Int) ∧ z < g.ss.length ∧ z ∈ (nearL g c).map Int.toNat := by
  obtain ⟨z, hz, hl⟩ := nearP_nat (List.getElem_mem hq)
  refine ⟨z, hz, hl, (nearP_mem V hc z).1 ?_⟩
  rw [← hz]
  exact List.getElem_mem hq
def KeepsTo (g : G) (f : Nat → Int) (d : Int) (c : Nat) : Prop := ∀ a z, a < c → z ∈ (nearL g a).map Int.toNat → f a - f z ≤ d
def KeepsIn (f : Nat → Int) (d : Int) (c : Nat) (l : List Int) (q : Nat) : Prop := ∀ a, a < q → f c - f (l.getD a 0).toNat ≤ d
theorem keepsTo_next {g : G} (V : Valid g) {f : Nat → Int} {d : Int} {c : Nat} (hc : c < g.ss.length) (h : KeepsTo g f d c) (k : KeepsIn f d c (nearP g c g.ss.length) (nearP g c g.ss.length).length) : KeepsTo g f d (c + 1) := by
  intro a z ha hz
  by_cases e : a = c
  · subst e
    have hm := (nearP_mem V hc z).2 hz
    obtain ⟨i, hi, he⟩ := List.mem_iff_getElem.1 hm
    have := k i hi
    rw [List.getD_eq_getElem?_getD, List.getElem?_eq_getElem hi, Option.getD_some, he, Int.toNat_natCast] at this
    exact this
  · exact h a z (by omega) hz
def KeepsOut (g : G) (f : Nat → Int) (d : Int) (w : World) (e : Ending) (w' : World) : Prop := ∃ b, e = .returned (.bool b) ∧ (b = true ↔ Keeps g f d) ∧ Below w.heap.size w w'
set_option maxRecDepth 100000 in
set_option maxHeartbeats 4000000 in
theorem keeps_any (pg pd : Nat) (g : G) (A : Option Addr) (k : Nat) (v : Value) (tt : List (Int × Int)) (low : Bool) (d : Int) (w : World)
    (hg : Blk w pg 24 #[.int .i64 g.W, .int .i64 g.H, .int .i64 g.S, .slice A g.ss.length k]) (hs : SpansAt w w.heap.size (.slice A g.ss.length k) g.ss) (hd : Blk w pd 3 #[.int .i64 d]) (hx : SpansAt w w.heap.size v tt) (hl : tt.length = g.ss.length) (V : Valid g)
    (hd0 : 0 ≤ d ∧ d ≤ 2400000) (hr : ∀ c, c < g.ss.length → -1200000 ≤ endF low tt c ∧ endF low tt c ≤ 1200000) :
    Calls Tryz.prog 47 #[v, .bool low, .pointer (some ⟨pg, 0, none⟩), .pointer (some ⟨pd, 0, none⟩)] w (KeepsOut g (endF low tt) d w) := by
  have HX := Lib.hid hx
  have HG := Lib.hid hg
  have HD := Lib.hid hd
  have HS := Lib.hid hs
  have HV := Lib.hid V
  have HR := Lib.hid hr
  obtain ⟨B, kk, rfl⟩ := hx.open_len hl
  have hsm := V.small
  have Hl := Lib.hid hl
  clear hx hg hd hs V hr hl
  obtain ⟨hd1, hd2⟩ := hd0
  go_enter Tryz.func47, Tryz.ntmps47
  go_wp2_with fail
  go_loopw [14] (fun i wr => ∃ c : Nat, c ≤ g.ss.length ∧ i = .int .i64 c ∧ Hid (KeepsTo g (endF low tt) d c) ∧ Hid (Below w.heap.size w wr)) (fun i _ => g.ss.length - (intOf i).toNat)
  case atStart => exact ⟨0, Nat.zero_le _, rfl, fun a z h => absurd h (by omega), Below.refl _ _⟩
  case round =>
    obtain ⟨c, hc, rfl, HK, HBr⟩ := hrel
    by_cases hlt : c < g.ss.length
    · have hc0 : (0 : Int) ≤ (c : Int) := by omega
      have hc1 : (c : Int) < (g.ss.length : Int) := by omega
      obtain ⟨d0, d1, d2, d3⟩ := grid_parts (HG.out.below HBr.out HG.out.lt)
      go_wp2_with fail
      refine (lnear_any _ g c _ ⟨_, rfl, HS.out.later HBr.out (Nat.le_refl _)⟩ HV.out hlt).mono ?_
      rintro e w1 ⟨v1, rfl, hn1, hb1⟩
      have HN1 := Lib.hid hn1
      have HB1 := Lib.hid (HBr.out.trans (hb1.mono HBr.out.size))
      obtain ⟨B1, k1, rfl, _, _⟩ := hn1.open_
      have HNg := Lib.hid (fun q hq => nearP_get HV.out hlt (q := q) hq)
      have HKn := Lib.hid (keepsTo_next HV.out hlt HK.out)
      clear hn1 hb1 d0 d1 d2 d3
      have hln := nearP_len g c g.ss.length
      generalize nearP g c g.ss.length = N1 at *
      clear HBr
      obtain ⟨wo, rfl⟩ : ∃ wo : World, wo = wr := ⟨_, rfl⟩
      go_wp2_with fail
      go_loopw [21] (fun j wq => ∃ q : Nat, q ≤ N1.length ∧ j = .int .i64 q ∧ Hid (KeepsIn (endF low tt) d c N1 q) ∧ Hid (Below w1.heap.size w1 wq)) (fun j _ => N1.length - (intOf j).toNat)
      case atStart => exact ⟨0, Nat.zero_le _, rfl, fun a h => absurd h (by omega), Below.refl _ _⟩
      case round =>
        obtain ⟨q, hq, rfl, HI, HBq⟩ := hrel
        have HBw := Lib.hid (HB1.out.trans (HBq.out.mono HB1.out.size))
        by_cases h2 : q < N1.length
        · have hq0 : (0 : Int) ≤ (q : Int) := by omega
          have hq1 : (q : Int) < (N1.length : Int) := by omega
          obtain ⟨b3, o3, rfl, hb3, n1⟩ := (HN1.out.below HBq.out).at_ h2
          obtain ⟨z, hz, hz1, hz2⟩ := HNg.out q h2
          have Hz2 := Lib.hid hz2
          rw [hz] at n1
          have Hz := Lib.hid hz
          clear hz hz2
          have hz0 : (0 : Int) ≤ (z : Int) := by omega
          have hz3 : (z : Int) < (g.ss.length : Int) := by omega
          obtain ⟨b4, o4, lc, hc', rfl, hb4, ec, c1, c2⟩ := (HX.out.below HBw.out).atD (k := c) (by rw [Hl.out]; exact hlt)
          obtain ⟨b5, o5, lz, hz', e5, hb5, ez, c3, c4⟩ := (HX.out.below HBw.out).atD (k := z) (by rw [Hl.out]; exact hz1)
          injection e5 with e5
          injection e5 with e5 e6
          subst e5 e6
          have d0 := (HD.out.below HBw.out HD.out.lt).cell 0
          simp only [List.getElem?_toArray, List.getElem?_cons_zero] at d0
          have HRc := HR.out c hlt
          have HRz := HR.out z hz1
          cases low with
          | false =>
            have Ec : Hid (endF false tt c = hc') := by rw [Hid, endF, hiF, ec]; rfl
            have Ez : Hid (endF false tt z = hz') := by rw [Hid, endF, hiF, ez]; rfl
            rw [Ec.out] at HRc
            rw [Ez.out] at HRz
            obtain ⟨r1, r2⟩ := HRc
            obtain ⟨r3, r4⟩ := HRz
            clear ec ez
            go_upto_region 7 with (fail)
            go_cut [10, 11] from 25 to 35 (fun s t wx => s = .int .i64 hc' ∧ t = .int .i64 hz' ∧ ∃ n, wx = wr.drewN n)
            case first =>
              go_quiet (fail)
              go_wp2_with fail
              all_goals
                go_meet
                exact ⟨rfl, rfl, _, rfl⟩
            case rest =>
              obtain ⟨rfl, rfl, nn, rfl⟩ := hcut
              by_cases hk : d < hc' - hz'
              · have HF : Hid (¬ Keeps g (endF false tt) d) := by
                  intro h
                  have := h c z hlt Hz2.out
                  rw [Ec.out, Ez.out] at this
                  omega
                go_wp2
                go_ret
                exact ⟨false, rfl, ⟨(fun h => by cases h), fun h => absurd h HF.out⟩, Below.drewN' HBw.out _⟩
              · have HI' : Hid (KeepsIn (endF false tt) d c N1 (q + 1)) := by
                  intro a ha
                  by_cases e : a = q
                  · subst e
                    rw [List.getD_eq_getElem?_getD, List.getElem?_eq_getElem h2, Option.getD_some, Hz.out, Int.toNat_natCast, Ec.out, Ez.out]
                    omega
                  · exact HI.out a (by omega)
                go_wp2
                go_roundw
                case rel => exact ⟨q + 1, by omega, by go_num, HI'.out, Below.drewN' HBq.out _⟩
                case measure => simp [intOf]; omega
          | true =>
            have Ec : Hid (endF true tt c = lc) := by rw [Hid, endF, loF, ec]; rfl
            have Ez : Hid (endF true tt z = lz) := by rw [Hid, endF, loF, ez]; rfl
            rw [Ec.out] at HRc
            rw [Ez.out] at HRz
            obtain ⟨r1, r2⟩ := HRc
            obtain ⟨r3, r4⟩ := HRz
            clear ec ez
            go_upto_region 7 with (fail)
            go_cut [10, 11] from 25 to 35 (fun s t wx => s = .int .i64 hc' ∧ t = .int .i64 hz' ∧ ∃ n, wx = wr.drewN n)
            case first =>
              go_quiet (fail)
              go_wp2_with fail
              all_goals
                go_meet
                exact ⟨rfl, rfl, _, rfl⟩
            case rest =>
              obtain ⟨rfl, rfl, nn, rfl⟩ := hcut
              go_upto_region 9 with (fail)
              go_cut [10, 11] from 36 to 46 (fun s t wx => s = .int .i64 lc ∧ t = .int .i64 lz ∧ ∃ n, wx = wr.drewN n)
              case first =>
                go_quiet (fail)
                go_wp2_with fail
                all_goals
                  go_meet
                  exact ⟨rfl, rfl, _, rfl⟩
              case rest =>
                obtain ⟨rfl, rfl, nn, rfl⟩ := hcut
                by_cases hk : d < lc - lz
                · have HF : Hid (¬ Keeps g (endF true tt) d) := by
                    intro h
                    have := h c z hlt Hz2.out
                    rw [Ec.out, Ez.out] at this
                    omega
                  go_wp2
                  go_ret
                  exact ⟨false, rfl, ⟨(fun h => by cases h), fun h => absurd h HF.out⟩, Below.drewN' HBw.out _⟩
                · have HI' : Hid (KeepsIn (endF true tt) d c N1 (q + 1)) := by
                    intro a ha
                    by_cases e : a = q
                    · subst e
                      rw [List.getD_eq_getElem?_getD, List.getElem?_eq_getElem h2, Option.getD_some, Hz.out, Int.toNat_natCast, Ec.out, Ez.out]
                      omega
                    · exact HI.out a (by omega)
                  go_wp2
                  go_roundw
                  case rel => exact ⟨q + 1, by omega, by go_num, HI'.out, Below.drewN' HBq.out _⟩
                  case measure => simp [intOf]; omega
        · have hq' : q = N1.length := by omega
          have HK' := Lib.hid (HKn.out (by rw [← hq']; exact HI.out))
          clear hq'
          go_wp2
          go_roundw
          case rel => exact ⟨c + 1, by omega, by go_num, HK'.out, HBw.out⟩
          case measure => simp [intOf]; omega
    · have hc' : c = g.ss.length := by omega
      have HF : Hid (Keeps g (endF low tt) d) := by
        intro a z ha hz
        exact HK.out a z (by omega) hz
      clear hc'
      go_wp2
      go_ret
      exact ⟨true, rfl, ⟨fun _ => HF.out, fun _ => rfl⟩, HBr.out⟩
end Go.Proofs.YthcenmocnphnmaaGreatDoor
