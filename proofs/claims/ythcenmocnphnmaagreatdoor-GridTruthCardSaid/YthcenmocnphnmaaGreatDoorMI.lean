/-
  The search for the best values, without any program: what it finds is the only such list; every cell of a grid is reached.
-/
import Derived.Test.YthcenmocnphnmaaGreatDoorME
import Derived.StillTailTactics
import Derived.Test.YthcenmocnphnmaaGreatDoorMF
import Derived.Maps.AppendAt
import Derived.Deep.DeepMust
set_option linter.unusedSimpArgs false
set_option linter.unusedVariables false
namespace Go.Proofs.YthcenmocnphnmaaGreatDoor

section
variable {nb : Nat → List Nat} {S : List Nat} {fst : Nat → Int} {nx : Int → Nat → Int} {lt : Int → Int → Bool} {N : Nat} {vs vs' : List Int}

/-- the laws of an order of numbers under which steps go -/
structure Step (nx : Int → Nat → Int) (lt : Int → Int → Bool) : Prop where
  mono : ∀ v u d, lt v u = false → lt (nx v d) (nx u d) = false
  tr : ∀ a b c, lt a b = false → lt b c = false → lt a c = false
  anti : ∀ a b, lt a b = false → lt b a = false → a = b

theorem Best.least (hs : Step nx lt) (h : Best nb S fst nx lt N vs) {c : Nat} {v : Int} (hw : Way nb S fst nx c v) : lt v (val vs c) = false := by
  induction hw with
  | start hc => exact h.sts _ hc
  | step hw hd ih => exact hs.tr _ _ _ (hs.mono _ _ _ ih) (h.cls _ _ ⟨_, hw⟩ hd)
theorem Best.unique (hs : Step nx lt) (hall : ∀ c, c < N → ∃ v, Way nb S fst nx c v) (h : Best nb S fst nx lt N vs) (h' : Best nb S fst nx lt N vs') : vs = vs' := by
  refine List.ext_getElem (h.len.trans h'.len.symm) fun c h1 h2 => ?_
  have hc : c < N := by rw [← h.len]; exact h1
  have e := hs.anti _ _ (h'.least hs (h.way c hc (hall c hc))) (h.least hs (h'.way c hc (hall c hc)))
  unfold val at e
  rw [List.getD_eq_getElem?_getD, List.getD_eq_getElem?_getD, List.getElem?_eq_getElem h1, List.getElem?_eq_getElem h2] at e
  exact e
end

theorem coord {W x y : Int} (h0 : 0 ≤ x) (h1 : x < W) : (W * y + x) % W = x ∧ (W * y + x) / W = y := by
  constructor
  · rw [Int.add_comm, Int.add_mul_emod_self_left, Int.emod_eq_of_lt h0 h1]
  · rw [Int.add_comm, Int.add_mul_ediv_left _ _ (by omega), Int.ediv_eq_zero_of_lt h0 h1, Int.zero_add]

/-- the cell at a place -/
def cellAt (g : G) (x y : Nat) : Nat := g.W.toNat * y + x
section
variable {g : G} {S : List Nat} {fst : Nat → Int} {nx : Int → Nat → Int}
theorem cell_xy (V : Valid g) {c : Nat} (hc : c < g.ss.length) : ∃ x y : Nat, (x : Int) < g.W ∧ (y : Int) < g.H ∧ c = cellAt g x y := by
  have h1 := V.w1
  have h2 := V.h1
  have hl := V.len
  have e := Int.emod_add_mul_ediv (c : Int) g.W
  have m0 := Int.emod_nonneg (c : Int) (show g.W ≠ 0 by omega)
  have m1 := Int.emod_lt_of_pos (c : Int) (show (0 : Int) < g.W by omega)
  have q0 : (0 : Int) ≤ (c : Int) / g.W := Int.ediv_nonneg (by omega) (by omega)
  have q1 : (c : Int) / g.W < g.H := by
    rw [Int.ediv_lt_iff_lt_mul (by omega), Int.mul_comm, ← hl]
    omega
  refine ⟨((c : Int) % g.W).toNat, ((c : Int) / g.W).toNat, by omega, by omega, ?_⟩
  unfold cellAt
  have : ((g.W.toNat * ((c : Int) / g.W).toNat + ((c : Int) % g.W).toNat : Nat) : Int) = (c : Int) := by
    rw [Int.natCast_add, Int.natCast_mul]
    rw [Int.toNat_of_nonneg (by omega), Int.toNat_of_nonneg q0, Int.toNat_of_nonneg m0]
    omega
  omega
theorem near_xy (V : Valid g) {x y : Nat} (hx : (x : Int) < g.W) : nearL g (cellAt g x y) = nbl g.W g.H (cellAt g x y) x y := by
  have h1 := V.w1
  have e : ((cellAt g x y : Nat) : Int) = g.W * y + x := by
    unfold cellAt
    rw [Int.natCast_add, Int.natCast_mul, Int.toNat_of_nonneg (by omega)]
  unfold nearL
  have := coord (W := g.W) (x := x) (y := y) (by omega) hx
  rw [e, this.1, this.2]
theorem near_right (V : Valid g) {x y : Nat} (hx : ((x + 1 : Nat) : Int) < g.W) : cellAt g (x + 1) y ∈ (nearL g (cellAt g x y)).map Int.toNat := by
  rw [near_xy V (by omega)]
  refine List.mem_map.2 ⟨(cellAt g x y : Int) + 1, ?_, by unfold cellAt; omega⟩
  unfold nbl
  rw [if_pos (by omega)]
  simp
theorem near_left (V : Valid g) {x y : Nat} (hx : ((x + 1 : Nat) : Int) < g.W) : cellAt g x y ∈ (nearL g (cellAt g (x + 1) y)).map Int.toNat := by
  rw [near_xy V hx]
  refine List.mem_map.2 ⟨(cellAt g (x + 1) y : Int) - 1, ?_, by unfold cellAt; omega⟩
  unfold nbl
  simp only [List.mem_append]
  rw [if_pos (show (0 : Int) < ((x + 1 : Nat) : Int) by omega)]
  simp
theorem near_up (V : Valid g) {x y : Nat} (hx : (x : Int) < g.W) (hy : ((y + 1 : Nat) : Int) < g.H) : cellAt g x (y + 1) ∈ (nearL g (cellAt g x y)).map Int.toNat := by
  have h1 := V.w1
  rw [near_xy V hx]
  refine List.mem_map.2 ⟨(cellAt g x y : Int) + g.W, ?_, by unfold cellAt; rw [Nat.mul_add]; omega⟩
  unfold nbl
  simp only [List.mem_append]
  rw [if_pos (show ((y : Nat) : Int) + 1 < g.H by omega)]
  simp
theorem near_down (V : Valid g) {x y : Nat} (hx : (x : Int) < g.W) : cellAt g x y ∈ (nearL g (cellAt g x (y + 1))).map Int.toNat := by
  have h1 := V.w1
  rw [near_xy V hx]
  refine List.mem_map.2 ⟨(cellAt g x (y + 1) : Int) - g.W, ?_, by unfold cellAt; rw [Nat.mul_add]; omega⟩
  unfold nbl
  simp only [List.mem_append]
  rw [if_pos (show (0 : Int) < ((y + 1 : Nat) : Int) by omega)]
  simp
/-- from every cell there is a way to every other -/
theorem way_all (V : Valid g) {s : Nat} (hs : s ∈ S) (hb : s < g.ss.length) {c : Nat} (hc : c < g.ss.length) : ∃ v, Way (fun c => (nearL g c).map Int.toNat) S fst nx c v := by
  obtain ⟨x0, y0, hx0, hy0, rfl⟩ := cell_xy V hb
  obtain ⟨x, y, hx, hy, rfl⟩ := cell_xy V hc
  have row : ∀ n x : Nat, (x : Int) < g.W → (x0 + n = x ∨ x + n = x0) → ∃ v, Way (fun c => (nearL g c).map Int.toNat) S fst nx (cellAt g x y0) v := by
    intro n
    induction n with
    | zero =>
      intro x hx h
      have : x = x0 := by omega
      subst this
      exact ⟨_, .start hs⟩
    | succ n ih =>
      intro x hx h
      rcases h with h | h
      · obtain ⟨k, rfl⟩ : ∃ k, x = k + 1 := ⟨x - 1, by omega⟩
        obtain ⟨v, hv⟩ := ih k (by omega) (.inl (by omega))
        exact ⟨_, .step hv (near_right V hx)⟩
      · obtain ⟨v, hv⟩ := ih (x + 1) (by omega) (.inr (by omega))
        exact ⟨_, .step hv (near_left V (by omega))⟩
  have col : ∀ n y : Nat, (y : Int) < g.H → (y0 + n = y ∨ y + n = y0) → ∃ v, Way (fun c => (nearL g c).map Int.toNat) S fst nx (cellAt g x y) v := by
    intro n
    induction n with
    | zero =>
      intro y hy h
      have : y = y0 := by omega
      subst this
      rcases Nat.le_total x0 x with h | h
      · exact row (x - x0) x hx (.inl (by omega))
      · exact row (x0 - x) x hx (.inr (by omega))
    | succ n ih =>
      intro y hy h
      rcases h with h | h
      · obtain ⟨k, rfl⟩ : ∃ k, y = k + 1 := ⟨y - 1, by omega⟩
        obtain ⟨v, hv⟩ := ih k (by omega) (.inl (by omega))
        exact ⟨_, .step hv (near_up V hx hy)⟩
      · obtain ⟨v, hv⟩ := ih (y + 1) (by omega) (.inr (by omega))
        exact ⟨_, .step hv (near_down V hx)⟩
  rcases Nat.le_total y0 y with h | h
  · exact col (y - y0) y hy (.inl (by omega))
  · exact col (y0 - y) y hy (.inr (by omega))
end
end Go.Proofs.YthcenmocnphnmaaGreatDoor
/-
  Sills: the closures of sillsOfEnd.
-/
namespace Go.Proofs.YthcenmocnphnmaaGreatDoor
open Go.RowKit Go.Shelf

theorem end_lo (lo hi : Int) (w : World) : Calls Tryz.prog 84 #[.agg #[.int .i64 lo, .int .i64 hi]] w fun e w' => e = .returned (.int .i64 lo) ∧ Below w.heap.size w w' := by
  go_enter Tryz.func84, Tryz.ntmps84
  go_wp2
  go_ret
  exact ⟨rfl, (by repeat (first | exact Below.refl _ _ | assumption | refine Below.drew ?_ | refine Below.drewN' ?_ _ | (refine Below.alloc ?_ (by simp <;> omega) _) | (refine Below.setCell ?_ (by simp <;> omega) _)))⟩
theorem end_hi (lo hi : Int) (w : World) : Calls Tryz.prog 85 #[.agg #[.int .i64 lo, .int .i64 hi]] w fun e w' => e = .returned (.int .i64 hi) ∧ Below w.heap.size w w' := by
  go_enter Tryz.func85, Tryz.ntmps85
  go_wp2
  go_ret
  exact ⟨rfl, (by repeat (first | exact Below.refl _ _ | assumption | refine Below.drew ?_ | refine Below.drewN' ?_ _ | (refine Below.alloc ?_ (by simp <;> omega) _) | (refine Below.setCell ?_ (by simp <;> omega) _)))⟩
/-- the function f takes this end of a span -/
def IsEnd (f : FuncId) (sel : Int × Int → Int) : Prop := (f = 84 ∧ sel = fun s => s.1) ∨ (f = 85 ∧ sel = fun s => s.2)

/-- the height of a cell in the terrain of one end -/
def hgt (g : G) (sel : Int × Int → Int) (c : Nat) : Int := sel (g.ss.getD c (0, 0))
theorem hgt_eq {g : G} {sel : Int × Int → Int} {c : Nat} (h : c < g.ss.length) : hgt g sel c = sel g.ss[c] := by
  unfold hgt
  rw [List.getD_eq_getElem?_getD, List.getElem?_eq_getElem h]
  rfl

set_option maxHeartbeats 1000000 in
theorem height_any (f : FuncId) (sel : Int × Int → Int) (hE : IsEnd f sel) (pe pg : Nat) (g : G) (A : Option Addr) (k : Nat) (c : Nat) (w : World)
    (he : Blk w pe 124 #[.func (.func f) #[] #[]]) (hg : Blk w pg 24 #[.int .i64 g.W, .int .i64 g.H, .int .i64 g.S, .slice A g.ss.length k]) (hs : SpansAt w w.heap.size (.slice A g.ss.length k) g.ss) (hc : c < g.ss.length) :
    Calls Tryz.prog 100 #[.int .i64 c, .pointer (some ⟨pe, 0, none⟩), .pointer (some ⟨pg, 0, none⟩)] w fun e w' => e = .returned (.int .i64 (hgt g sel c)) ∧ Below w.heap.size w w' := by
  obtain ⟨b, off, rfl, hb, c1, c2⟩ := hs.at_ hc
  obtain ⟨_, _, _, _, _, _, _⟩ := hs
  have hm : g.ss.length ≤ 9223372036854775807 := by assumption
  have c3 := he.cell 0
  have c4 := hg.cell 3
  simp only [List.getElem?_toArray, List.getElem?_cons_zero, List.getElem?_cons_succ] at c3 c4
  have He := Lib.hid (hgt_eq (sel := sel) hc)
  clear he hg
  generalize g.ss[c] = q at *
  obtain ⟨lo, hi⟩ := q
  simp only at c1 c2
  rcases hE with ⟨rfl, rfl⟩ | ⟨rfl, rfl⟩
  all_goals
    go_enter Tryz.func100, Tryz.ntmps100
    go_wp2
    go_region_with (first | (go_at_call 84; refine (end_lo _ _ _).mono ?_; rintro e w1 ⟨rfl, hb1⟩) | (go_at_call 85; refine (end_hi _ _ _).mono ?_; rintro e w1 ⟨rfl, hb1⟩))
    all_goals
      go_wp2
      go_ret
      exact ⟨ret_int He.out.symm, (Below.drew (Below.refl _ _)).trans hb1⟩
end Go.Proofs.YthcenmocnphnmaaGreatDoor
/-
  Sills: sillsOfEnd and sills.
-/
namespace Go.Proofs.YthcenmocnphnmaaGreatDoor
open Go.RowKit Go.Shelf

theorem max_spell (a b : Int) : max a b = if a ≤ b then b else a := rfl

theorem climb_any (f : FuncId) (sel : Int × Int → Int) (hE : IsEnd f sel) (pe pg ph : Nat) (g : G) (A : Option Addr) (k : Nat) (v : Int) (c : Nat) (w : World)
    (hh : Blk w ph 127 #[.func (.func 100) #[] #[.pointer (some ⟨pe, 0, none⟩), .pointer (some ⟨pg, 0, none⟩)]])
    (he : Blk w pe 124 #[.func (.func f) #[] #[]]) (hg : Blk w pg 24 #[.int .i64 g.W, .int .i64 g.H, .int .i64 g.S, .slice A g.ss.length k]) (hs : SpansAt w w.heap.size (.slice A g.ss.length k) g.ss) (hc : c < g.ss.length) :
    Calls Tryz.prog 101 #[.int .i64 v, .int .i64 c, .pointer (some ⟨ph, 0, none⟩)] w fun e w' => e = .returned (.int .i64 (max v (hgt g sel c))) ∧ Below w.heap.size w w' := by
  have c3 := hh.cell 0
  simp only [List.getElem?_toArray, List.getElem?_cons_zero] at c3
  have HC := Lib.hid (height_any f sel hE pe pg g A k c w he hg hs hc)
  clear hh he hg hs hE
  go_enter Tryz.func101, Tryz.ntmps101
  go_wp2_with (go_at_call 100; refine HC.out.mono ?_; rintro e w1 ⟨rfl, hb1⟩)
  all_goals
    go_ret
    exact ⟨ret_int (by show _ = max v (hgt g sel c); omega), hb1⟩

def AccH (v : Int) : Prop := -1200000 ≤ v ∧ v ≤ 1200000
def mH (v : Int) : Nat := (v + 1200000).toNat
theorem odrH : Odr ltUp AccH mH 2400000 := by
  refine ⟨fun a b c h k => ?_, fun a => ?_, fun a b ha hb h => ?_, fun a ha => ?_⟩
  · unfold ltUp at *; simp at *; omega
  · unfold ltUp; simp
  · unfold ltUp at h; unfold AccH at ha hb; unfold mH; simp at h; omega
  · unfold AccH at ha; unfold mH; omega
theorem hgt_acc {f : FuncId} {sel : Int × Int → Int} (hE : IsEnd f sel) {g : G} (V : Valid g) {c : Nat} (hc : c < g.ss.length) : AccH (hgt g sel c) := by
  have h := List.all_eq_true.1 V.ok g.ss[c] (List.getElem_mem hc)
  rw [hgt_eq hc]
  unfold okSpan at h
  have h := of_decide_eq_true h
  unfold AccH
  rcases hE with ⟨_, rfl⟩ | ⟨_, rfl⟩
  · exact ⟨h.2.1, Int.le_trans h.1 h.2.2⟩
  · exact ⟨Int.le_trans h.2.1 h.1, h.2.2⟩
/-- what the search for sills finds -/
def Silled (g : G) (sel : Int × Int → Int) (sts : List Nat) (vs : List Int) : Prop := Best (fun c => (nearL g c).map Int.toNat) sts (hgt g sel) (fun v d => max v (hgt g sel d)) ltUp g.ss.length vs
theorem stepH (g : G) (sel : Int × Int → Int) : Step (fun v d => max v (hgt g sel d)) ltUp := by
  refine ⟨fun v u d h => ?_, fun a b c h k => ?_, fun a b h k => ?_⟩
  · unfold ltUp at *; simp only [decide_eq_false_iff_not] at *; omega
  · unfold ltUp at *; simp only [decide_eq_false_iff_not] at *; omega
  · unfold ltUp at *; simp only [decide_eq_false_iff_not] at *; omega

theorem sillsOfEnd_any (f : FuncId) (sel : Int × Int → Int) (hE : IsEnd f sel) (x y : Value) (g : G) (sts : List Nat) (w : World) (hg : GridAt w w.heap.size x g) (hy : IntsAt w w.heap.size y (sts.map fun (c : Nat) => (c : Int))) (V : Valid g) (hst : ∀ c, c ∈ sts → c < g.ss.length) :
    Calls Tryz.prog 83 #[x, y, .func (.func f) #[] #[]] w fun e w' => ∃ v vs, e = .returned v ∧ IntsAt w' w'.heap.size v vs ∧ Below w.heap.size w w' ∧ Silled g sel sts vs := by
  have HG := Lib.hid hg
  obtain ⟨v, rfl, hs⟩ := hg
  obtain ⟨A, k, rfl, hk, hm⟩ := hs.open_
  have HY := Lib.hid hy
  obtain ⟨A', k', ey, hk', hm'⟩ := hy.open_
  rw [List.length_map] at ey hk' hm'
  subst ey
  have HS := Lib.hid hs
  have HV := Lib.hid V
  have HT := Lib.hid hst
  have HE := Lib.hid hE
  clear hs hy V hst hE hk hk' hm hm'
  go_enter Tryz.func83, Tryz.ntmps83
  go_wp2_with fail
  have hB : Below w.heap.size w (((w.alloc (.cells #[.int .i64 g.W, .int .i64 g.H, .int .i64 g.S, .slice A g.ss.length k] 24)).alloc (.cells #[.func (.func f) #[] #[]] 124)).alloc (.cells #[.func (.func 100) #[] #[.pointer (some ⟨w.heap.size + 1, 0, none⟩), .pointer (some ⟨w.heap.size, 0, none⟩)]] 127)) := (by repeat (first | exact Below.refl _ _ | assumption | refine Below.drew ?_ | refine Below.drewN' ?_ _ | (refine Below.alloc ?_ (by simp <;> omega) _) | (refine Below.setCell ?_ (by simp <;> omega) _)))
  have b0 : Blk (((w.alloc (.cells #[.int .i64 g.W, .int .i64 g.H, .int .i64 g.S, .slice A g.ss.length k] 24)).alloc (.cells #[.func (.func f) #[] #[]] 124)).alloc (.cells #[.func (.func 100) #[] #[.pointer (some ⟨w.heap.size + 1, 0, none⟩), .pointer (some ⟨w.heap.size, 0, none⟩)]] 127)) w.heap.size 24 #[.int .i64 g.W, .int .i64 g.H, .int .i64 g.S, .slice A g.ss.length k] := Blk.alloc (Blk.alloc (Blk.new' _ _ _ rfl) _) _
  have b1 : Blk (((w.alloc (.cells #[.int .i64 g.W, .int .i64 g.H, .int .i64 g.S, .slice A g.ss.length k] 24)).alloc (.cells #[.func (.func f) #[] #[]] 124)).alloc (.cells #[.func (.func 100) #[] #[.pointer (some ⟨w.heap.size + 1, 0, none⟩), .pointer (some ⟨w.heap.size, 0, none⟩)]] 127)) (w.heap.size + 1) 124 #[.func (.func f) #[] #[]] := Blk.alloc (Blk.new' _ _ _ (by simp)) _
  have b2 : Blk (((w.alloc (.cells #[.int .i64 g.W, .int .i64 g.H, .int .i64 g.S, .slice A g.ss.length k] 24)).alloc (.cells #[.func (.func f) #[] #[]] 124)).alloc (.cells #[.func (.func 100) #[] #[.pointer (some ⟨w.heap.size + 1, 0, none⟩), .pointer (some ⟨w.heap.size, 0, none⟩)]] 127)) (w.heap.size + 1 + 1) 127 #[.func (.func 100) #[] #[.pointer (some ⟨w.heap.size + 1, 0, none⟩), .pointer (some ⟨w.heap.size, 0, none⟩)]] := Blk.new' _ _ _ (by simp)
  generalize hW : (((w.alloc (.cells #[.int .i64 g.W, .int .i64 g.H, .int .i64 g.S, .slice A g.ss.length k] 24)).alloc (.cells #[.func (.func f) #[] #[]] 124)).alloc (.cells #[.func (.func 100) #[] #[.pointer (some ⟨w.heap.size + 1, 0, none⟩), .pointer (some ⟨w.heap.size, 0, none⟩)]] 127)) = W at hB b0 b1 b2 ⊢
  clear hW
  have hs1 := (HS.out.below hB).more hB.size
  refine (best_sill _ _ g sts (hgt g sel) (fun v d => max v (hgt g sel d)) AccH mH 2400000 (w.heap.size + 1) w.heap.size (w.heap.size + 1 + 1) W (HG.out.later hB (Nat.le_refl _)) (HY.out.later hB (Nat.le_refl _)) HV.out HT.out odrH (Nat.le_refl _) (fun c hc => hgt_acc HE.out HV.out hc) ?_ (.inr ?_) ?_ ?_).mono ?_
  · intro v u d hv hu hd _
    have h := hgt_acc HE.out HV.out hd
    unfold AccH at *
    omega
  · intro v d hv hd
    have h := hgt_acc HE.out HV.out hd
    unfold AccH at *
    omega
  · intro W' c hc hb
    exact height_any f sel HE.out _ _ g A k c W' (b1.below hb b1.lt) (b0.below hb b0.lt) ((hs1.below hb).more hb.size) hc
  · intro W' v c _ hc hb
    exact climb_any f sel HE.out _ _ _ g A k v c W' (b2.below hb b2.lt) (b1.below hb b1.lt) (b0.below hb b0.lt) ((hs1.below hb).more hb.size) hc
  rintro e w1 ⟨v1, vs, rfl, hv, hb1, hbest⟩
  have HV1 := Lib.hid hv
  clear hv
  go_wp2
  go_ret
  exact ⟨v1, vs, rfl, HV1.out, hB.trans (hb1.mono hB.size), hbest⟩
end Go.Proofs.YthcenmocnphnmaaGreatDoor
/-
  Sills, Sills' own function, and Flood.
-/
namespace Go.Proofs.YthcenmocnphnmaaGreatDoor
open Go.RowKit Go.Shelf

/-- the sills of a grid: both ends -/
def Sillz (g : G) (sts : List Nat) (ss : List (Int × Int)) : Prop := ∃ lo hi, Silled g (fun s => s.1) sts lo ∧ Silled g (fun s => s.2) sts hi ∧ ss = lo.zip hi
theorem Sillz.length {g : G} {sts : List Nat} {ss : List (Int × Int)} (h : Sillz g sts ss) : ss.length = g.ss.length := by
  obtain ⟨lo, hi, h1, h2, rfl⟩ := h
  have e1 : lo.length = g.ss.length := h1.len
  have e2 : hi.length = g.ss.length := h2.len
  simp [e1, e2]

theorem sills_any (x y : Value) (g : G) (sts : List Nat) (w : World) (hg : GridAt w w.heap.size x g) (hy : IntsAt w w.heap.size y (sts.map fun (c : Nat) => (c : Int))) (V : Valid g) (hst : ∀ c, c ∈ sts → c < g.ss.length) :
    Calls Tryz.prog 58 #[x, y] w fun e w' => ∃ v ss, e = .returned v ∧ SpansAt w' w'.heap.size v ss ∧ Below w.heap.size w w' ∧ Sillz g sts ss := by
  have HG := Lib.hid hg
  obtain ⟨v, rfl, hs⟩ := hg
  obtain ⟨A, k, rfl, hk, hm⟩ := hs.open_
  have HY := Lib.hid hy
  obtain ⟨A', k', ey, hk', hm'⟩ := hy.open_
  rw [List.length_map] at ey hk' hm'
  subst ey
  have HV := Lib.hid V
  have HT := Lib.hid hst
  have hB : Below w.heap.size w (w.alloc (.cells #[.int .i64 g.W, .int .i64 g.H, .int .i64 g.S, .slice A g.ss.length k] 24)) := (by repeat (first | exact Below.refl _ _ | assumption | refine Below.drew ?_ | refine Below.drewN' ?_ _ | (refine Below.alloc ?_ (by simp <;> omega) _) | (refine Below.setCell ?_ (by simp <;> omega) _)))
  have HB := Lib.hid hB
  clear hs hy V hst hB
  go_enter Tryz.func58, Tryz.ntmps58
  go_wp2_with fail
  refine (sillsOfEnd_any _ _ (.inl ⟨rfl, rfl⟩) _ _ g sts _ (HG.out.later HB.out (Nat.le_refl _)) (HY.out.later HB.out (Nat.le_refl _)) HV.out HT.out).mono ?_
  rintro e w1 ⟨v1, lo, rfl, hv1, hb1, hs1⟩
  have HV1 := Lib.hid hv1
  have HB1 := Lib.hid hb1
  have HS1 := Lib.hid hs1
  obtain ⟨hcr, hfr⟩ := bcell hb1
  have HBa := Lib.hid (HB.out.trans (hb1.mono HB.out.size))
  clear hv1 hb1 hs1 hfr
  go_wp2_with fail
  refine (sillsOfEnd_any _ _ (.inr ⟨rfl, rfl⟩) _ _ g sts _ (HG.out.later HBa.out (Nat.le_refl _)) (HY.out.later HBa.out (Nat.le_refl _)) HV.out HT.out).mono ?_
  rintro e w2 ⟨v2, hi, rfl, hv2, hb2, hs2⟩
  have HV2 := Lib.hid hv2
  have HB2 := Lib.hid hb2
  have HS2 := Lib.hid hs2
  clear hv2 hb2 hs2 hcr
  have l1 : Hid (lo.length = g.ss.length) := HS1.out.len
  have l2 : Hid (hi.length = g.ss.length) := HS2.out.len
  have hsm := HV.out.small
  go_wp2_with fail
  refine (join_any _ _ lo hi _ (HV1.out.later HB2.out (Nat.le_refl _)) HV2.out (l1.out.trans l2.out.symm) (by rw [l1.out]; omega)).mono ?_
  rintro e w3 ⟨v3, rfl, hv3, hb3⟩
  have HV3 := Lib.hid hv3
  clear hv3
  go_wp2
  go_ret
  have h2 := HBa.out.trans (HB2.out.mono HBa.out.size)
  exact ⟨v3, _, rfl, HV3.out, h2.trans (hb3.mono h2.size), lo, hi, HS1.out, HS2.out, rfl⟩

/-! Sills -/
theorem sea_nat {g : G} {l : List Int} (h : seaE g l = 0) : checkE g = 0 ∧ ∃ sts : List Nat, l = sts.map (fun (c : Nat) => (c : Int)) ∧ sts ≠ [] ∧ ∀ c, c ∈ sts → c < g.ss.length := by
  unfold seaE at h
  split at h
  case isFalse h0 => exact absurd h h0
  case isTrue h0 =>
    refine ⟨h0, ?_⟩
    split at h
    case isTrue h1 => exact absurd h (by decide)
    case isFalse h1 =>
      split at h
      case isFalse h2 => exact absurd h (by decide)
      case isTrue h2 =>
        have h3 : ∀ c ∈ l, 0 ≤ c ∧ c < g.ss.length := fun c hc => of_decide_eq_true (List.all_eq_true.1 h2 c hc)
        refine ⟨l.map Int.toNat, ?_, ?_, ?_⟩
        · rw [List.map_map]
          conv => lhs; rw [← List.map_id l]
          refine List.map_congr_left fun c hc => ?_
          have := h3 c hc
          simp only [Function.comp, id]
          omega
        · rintro e
          exact h1 (by rw [List.map_eq_nil_iff] at e; rw [e]; rfl)
        · intro c hc
          obtain ⟨d, hd, rfl⟩ := List.mem_map.1 hc
          have := h3 d hd
          omega
def SillsOut (g : G) (l : List Int) (w : World) (e : Ending) (w' : World) : Prop := ∃ v ss, e = .returned (.tuple #[v, .int .i64 (seaE g l)]) ∧ SpansAt w' w'.heap.size v ss ∧ Below w.heap.size w w' ∧
  ((seaE g l ≠ 0 ∧ ss = []) ∨ (seaE g l = 0 ∧ ∃ sts, l = sts.map (fun (c : Nat) => (c : Int)) ∧ Sillz g sts ss))
theorem spans_nil (w : World) (B : Nat) : SpansAt w B (.slice none 0 0) [] := Reads.nil w B 2

theorem Sills_any (x y : Value) (g : G) (l : List Int) (w : World) (hg : GridAt w w.heap.size x g) (hy : IntsAt w w.heap.size y l) :
    Calls Tryz.prog 20 #[x, y] w (SillsOut g l w) := by
  have HG := Lib.hid hg
  obtain ⟨v, rfl, hs⟩ := hg
  obtain ⟨A, k, rfl, hk, hm⟩ := hs.open_
  have HY := Lib.hid hy
  obtain ⟨A', k', rfl, hk', hm'⟩ := hy.open_
  have hB : Below w.heap.size w (w.alloc (.cells #[.int .i64 g.W, .int .i64 g.H, .int .i64 g.S, .slice A g.ss.length k] 24)) := (by repeat (first | exact Below.refl _ _ | assumption | refine Below.drew ?_ | refine Below.drewN' ?_ _ | (refine Below.alloc ?_ (by simp <;> omega) _) | (refine Below.setCell ?_ (by simp <;> omega) _)))
  have HB := Lib.hid hB
  clear hs hy hB
  by_cases h0 : seaE g l = 0
  case neg =>
    have H0 := Lib.hid h0
    have hb : (seaE g l != 0) = true := by simpa using h0
    clear h0
    go_enter Tryz.func20, Tryz.ntmps20
    go_wp2_with (go_at_call 57; refine (checkSea_any _ _ g l _ (by exact HG.out.later HB.out (Nat.le_refl _)) (by exact HY.out.later HB.out (Nat.le_refl _))).mono ?_; rintro e w1 ⟨rfl, hb1⟩)
    go_ret2
    exact ⟨_, [], rfl, spans_nil _ _, HB.out.trans (hb1.mono HB.out.size), .inl ⟨H0.out, rfl⟩⟩
  have H0 := Lib.hid h0
  have hb : (seaE g l != 0) = false := by simpa using h0
  clear h0
  go_enter Tryz.func20, Tryz.ntmps20
  go_wp2_with fail
  refine (checkSea_any _ _ g l _ (HG.out.later HB.out (Nat.le_refl _)) (HY.out.later HB.out (Nat.le_refl _))).mono ?_
  rintro e w1 ⟨rfl, hb1⟩
  obtain ⟨hcr, hfr⟩ := bcell hb1
  have HBa := Lib.hid (HB.out.trans (hb1.mono HB.out.size))
  clear hb1 hfr
  obtain ⟨hck, sts, el, hne, hst⟩ := sea_nat H0.out
  have Hel := Lib.hid el
  have HT := Lib.hid hst
  have Hck := Lib.hid hck
  clear hck hne hst el
  go_wp2_with fail
  refine (sills_any _ _ g sts _ (HG.out.later HBa.out (Nat.le_refl _)) (by rw [← Hel.out]; exact HY.out.later HBa.out (Nat.le_refl _)) (valid_of Hck.out) HT.out).mono ?_
  rintro e w2 ⟨v2, ss, rfl, hv2, hb2, hs2⟩
  have HV2 := Lib.hid hv2
  have HS2 := Lib.hid hs2
  clear hv2 hs2 hcr
  go_wp2
  go_ret2
  exact ⟨_, ss, ret_pair H0.out.symm, HV2.out, HBa.out.trans (hb2.mono HBa.out.size), .inr ⟨H0.out, sts, Hel.out, HS2.out⟩⟩
end Go.Proofs.YthcenmocnphnmaaGreatDoor
/-
  Flood.
-/
namespace Go.Proofs.YthcenmocnphnmaaGreatDoor
open Go.RowKit Go.Shelf

/-- two rows of the call's own, which share nothing -/
structure TwoRows (w : World) (base e size : Nat) (v u : Value) (n m : Nat) (xs ys : List Value) : Prop where
  a : w.ownsRow base e size v n xs
  b : w.ownsRow base e size u m ys
  ne : ∀ k, v.ownBlock = some k → u.ownBlock ≠ some k
section
variable {w w' : World} {base e size n m n' m' : Nat} {v u v' u' : Value} {xs ys xs' ys' : List Value}
theorem TwoRows.ne' (h : TwoRows w base e size v u n m xs ys) : u.ownBlock = none ∨ u.ownBlock ≠ v.ownBlock := by
  cases hv : v.ownBlock with
  | none => cases hu : u.ownBlock <;> simp
  | some k => exact .inr (h.ne k hv)
theorem TwoRows.alloc (h : TwoRows w base e size v u n m xs ys) (o : Obj) : TwoRows (w.alloc o) base e size v u n m xs ys := ⟨h.a.alloc o, h.b.alloc o, h.ne⟩
theorem TwoRows.first (h : TwoRows w base e size v u n m xs ys) (hown : w'.ownsRow base e size v' n' xs') (hg : w.grownBy w' v.ownBlock) (hat : v'.ownBlock = v.ownBlock ∨ v'.ownBlock = some w.heap.size) : TwoRows w' base e size v' u n' m xs' ys := by
  refine ⟨hown, h.b.kept hg h.ne', fun k hk hu => ?_⟩
  rcases hat with e | e
  · exact h.ne k (by rw [← e]; exact hk) hu
  · rw [e] at hk
    have := (h.b.lt k hu).2
    cases hk
    omega
theorem TwoRows.turn (h : TwoRows w base e size v u n m xs ys) : TwoRows w base e size u v m n ys xs := ⟨h.b, h.a, fun k hk hu => h.ne k hu hk⟩
theorem TwoRows.second (h : TwoRows w base e size v u n m xs ys) (hown : w'.ownsRow base e size u' m' ys') (hg : w.grownBy w' u.ownBlock) (hat : u'.ownBlock = u.ownBlock ∨ u'.ownBlock = some w.heap.size) : TwoRows w' base e size v u' n m' xs ys' := (h.turn.first hown hg hat).turn
theorem TwoRows.nil (w : World) (base e size : Nat) : TwoRows w base e size (.slice none 0 0) (.slice none 0 0) 0 0 [] [] := ⟨World.ownsRow_nil _ _ _ _, World.ownsRow_nil _ _ _ _, fun k hk => by cases hk⟩
end
theorem cell_one_new' (w : World) (x : Value) (t : TypeId) {n : Nat} (h : n = w.heap.size) : ∀ j u, [x][j]? = some u → (w.alloc (.cells #[x] t)).cell? ((⟨n, 0, none⟩ : Addr).add j) = some u := by
  subst h
  exact cell_one_new w x t
theorem bools_own {w : World} {base e : Nat} {v : Value} {bs : List Bool} (h : w.ownsRow base e 1 v bs.length (bs.map Value.bool)) : BoolsAt w w.heap.size v bs := Reads.of_own h

def floodE (g : G) (l : List Int) (lo hi : Int) : Int := if seaE g l = 0 then (if okSpan 20000 (lo, hi) then 0 else 3) else seaE g l
def FloodOut (g : G) (l : List Int) (lo hi : Int) (w : World) (e : Ending) (w' : World) : Prop := ∃ v u bs cs, e = .returned (.tuple #[v, u, .int .i64 (floodE g l lo hi)]) ∧ BoolsAt w' w'.heap.size v bs ∧ BoolsAt w' w'.heap.size u cs ∧ Below w.heap.size w w' ∧
  ((floodE g l lo hi ≠ 0 ∧ bs = [] ∧ cs = []) ∨ (floodE g l lo hi = 0 ∧ ∃ sts ss, l = sts.map (fun (c : Nat) => (c : Int)) ∧ Sillz g sts ss ∧ bs = ss.map (fun s => decide (s.2 < lo)) ∧ cs = ss.map (fun s => decide (s.1 < hi))))
theorem bools_nil (w : World) (B : Nat) : BoolsAt w B (.slice none 0 0) [] := Reads.nil w B 1
theorem ret_trip {v u : Value} {k : IntKind} {a b : Int} (h : a = b) : Ending.returned (.tuple #[v, u, .int k a]) = .returned (.tuple #[v, u, .int k b]) := by rw [h]
theorem map_take_snoc {α β : Type} (f : α → β) (l : List α) (k : Nat) (h : k < l.length) : (l.take k).map f ++ [f l[k]] = (l.take (k + 1)).map f := by rw [take_snoc l k h, List.map_append]; rfl

set_option maxRecDepth 100000 in
set_option maxHeartbeats 2000000 in
theorem Flood_any (x y : Value) (g : G) (l : List Int) (lo hi : Int) (w : World) (hg : GridAt w w.heap.size x g) (hy : IntsAt w w.heap.size y l) :
    Calls Tryz.prog 23 #[x, y, .agg #[.int .i64 lo, .int .i64 hi]] w (FloodOut g l lo hi w) := by
  have HG := Lib.hid hg
  obtain ⟨v, rfl, hs⟩ := hg
  obtain ⟨A, k, rfl, hk, hm⟩ := hs.open_
  have HY := Lib.hid hy
  obtain ⟨A', k', rfl, hk', hm'⟩ := hy.open_
  have hB : Below w.heap.size w ((w.alloc (.cells #[.int .i64 g.W, .int .i64 g.H, .int .i64 g.S, .slice A g.ss.length k] 24)).alloc (.cells #[.int .i64 lo, .int .i64 hi] 34)) := (by repeat (first | exact Below.refl _ _ | assumption | refine Below.drew ?_ | refine Below.drewN' ?_ _ | (refine Below.alloc ?_ (by simp <;> omega) _) | (refine Below.setCell ?_ (by simp <;> omega) _)))
  have HB := Lib.hid hB
  clear hs hy hB
  by_cases h0 : seaE g l = 0
  case neg =>
    have He : Hid (floodE g l lo hi = seaE g l) := by simp only [Hid, floodE]; rw [if_neg h0]
    have H0 := Lib.hid h0
    have hb : (seaE g l != 0) = true := by simpa using h0
    clear h0
    go_enter Tryz.func23, Tryz.ntmps23
    go_wp2_with (go_at_call 57; refine (checkSea_any _ _ g l _ (by exact HG.out.later HB.out (Nat.le_refl _)) (by exact HY.out.later HB.out (Nat.le_refl _))).mono ?_; rintro e w1 ⟨rfl, hb1⟩)
    go_ret3
    exact ⟨_, _, [], [], ret_trip He.out.symm, bools_nil _ _, bools_nil _ _, HB.out.trans (hb1.mono HB.out.size), .inl ⟨by rw [He.out]; exact H0.out, rfl, rfl⟩⟩
  have H0 := Lib.hid h0
  have hb : (seaE g l != 0) = false := by simpa using h0
  by_cases h1 : okSpan 20000 (lo, hi) = true
  case neg =>
    have h1' := hid_not h1
    have He : Hid (floodE g l lo hi = 3) := by simp only [Hid, floodE]; rw [if_pos h0, h1'.out]; rfl
    clear h0 h1
    go_enter Tryz.func23, Tryz.ntmps23
    go_wp2_with (first
      | (go_at_call 57; refine (checkSea_any _ _ g l _ (by exact HG.out.later HB.out (Nat.le_refl _)) (by exact HY.out.later HB.out (Nat.le_refl _))).mono ?_; rintro e w1 ⟨rfl, hb1⟩; have HB1 := Lib.hid (HB.out.trans (hb1.mono HB.out.size)); obtain ⟨hcr, hfr⟩ := bcell hb1; clear hfr hb1)
      | (go_at_call 56; refine (isSpan_of false h1'.out _ (by omega) (by omega)).mono ?_; rintro e w2 ⟨rfl, hb2⟩))
    go_ret3
    exact ⟨_, _, [], [], ret_trip He.out.symm, bools_nil _ _, bools_nil _ _, HB1.out.trans (hb2.mono HB1.out.size), .inl ⟨by rw [He.out]; decide, rfl, rfl⟩⟩
  have He : Hid (floodE g l lo hi = 0) := by simp only [Hid, floodE]; rw [if_pos h0, h1]; rfl
  have h1' := Lib.hid h1
  clear h0 h1
  obtain ⟨i0, hi0, hz0, hz1, hz2⟩ := info_parts bool_info
  have bL : Blk ((w.alloc (.cells #[.int .i64 g.W, .int .i64 g.H, .int .i64 g.S, .slice A g.ss.length k] 24)).alloc (.cells #[.int .i64 lo, .int .i64 hi] 34)) (w.heap.size + 1) 34 #[.int .i64 lo, .int .i64 hi] := Blk.new' _ _ _ (by simp)
  have BL := Lib.hid bL
  clear bL
  go_enter Tryz.func23, Tryz.ntmps23
  go_wp2_with fail
  refine (checkSea_any _ _ g l _ (HG.out.later HB.out (Nat.le_refl _)) (HY.out.later HB.out (Nat.le_refl _))).mono ?_
  rintro e w1 ⟨rfl, hb1⟩
  have HB1 := Lib.hid (HB.out.trans (hb1.mono HB.out.size))
  have HBx1 := Lib.hid hb1
  obtain ⟨hcr, hfr⟩ := bcell hb1
  clear hfr hb1
  go_wp2_with fail
  refine (isSpan_of true h1'.out _ (by omega) (by omega)).mono ?_
  rintro e w2 ⟨rfl, hb2⟩
  have HB2 := Lib.hid (HB1.out.trans (hb2.mono HB1.out.size))
  have HBx2 := Lib.hid (HBx1.out.trans (hb2.mono HBx1.out.size))
  obtain ⟨hcr2, hfr2⟩ := bcell HBx2.out
  clear hfr2 hb2 hcr
  obtain ⟨hck, sts, el, hne, hst⟩ := sea_nat H0.out
  have Hel := Lib.hid el
  have HT := Lib.hid hst
  have Hck := Lib.hid hck
  clear hck hne hst el
  go_wp2_with fail
  refine (sills_any _ _ g sts _ (HG.out.later HB2.out (Nat.le_refl _)) (by rw [← Hel.out]; exact HY.out.later HB2.out (Nat.le_refl _)) (valid_of Hck.out) HT.out).mono ?_
  rintro e w3 ⟨v3, ss, rfl, hv3, hb3, hs3⟩
  have HB3 := Lib.hid (HB2.out.trans (hb3.mono HB2.out.size))
  have HBx3 := Lib.hid (HBx2.out.trans (hb3.mono HBx2.out.size))
  have HS3 := Lib.hid hs3
  have Hlen := Lib.hid hs3.length
  have hsm : ss.length ≤ 576 := by rw [hs3.length]; exact (valid_of Hck.out).small
  have BL3 := Lib.hid (BL.out.below HBx3.out (by simp))
  have HV3 := Lib.hid hv3
  obtain ⟨A3, k3, rfl, hk3, hm3⟩ := hv3.open_
  clear hb3 hs3 hcr2 hv3
  go_wp2
  go_loopw [6, 7, 25] (fun a b i wr => ∃ (q : Nat) (va vb : Value), va = a ∧ vb = b ∧ q ≤ ss.length ∧ i = .int .i64 q ∧ Hid (TwoRows wr w3.heap.size 4 1 va vb q q (((ss.take q).map (fun s => decide (s.2 < lo))).map Value.bool) (((ss.take q).map (fun s => decide (s.1 < hi))).map Value.bool)) ∧ Below w3.heap.size w3 wr) (fun _ _ i _ => ss.length - (intOf i).toNat)
  case atStart => exact ⟨0, _, _, rfl, rfl, Nat.zero_le _, rfl, TwoRows.nil _ _ _ _, Below.refl _ _⟩
  case round =>
    obtain ⟨q, va, vb, rfl, rfl, hq, rfl, HR, hBr⟩ := hrel
    have hsz := hBr.size
    by_cases hlt : q < ss.length
    · obtain ⟨b, off, rfl, hb', c1, c2⟩ := (HV3.out.below hBr).at_ hlt
      have c5 := (BL3.out.below hBr BL3.out.lt).cell 0
      have c6 := (BL3.out.below hBr BL3.out.lt).cell 1
      simp only [List.getElem?_toArray, List.getElem?_cons_zero, List.getElem?_cons_succ] at c5 c6
      have e1 := Lib.hid (map_take_snoc (fun s : Int × Int => decide (s.2 < lo)) ss q hlt)
      have e2 := Lib.hid (map_take_snoc (fun s : Int × Int => decide (s.1 < hi)) ss q hlt)
      have HBr := Lib.hid hBr
      clear hBr
      generalize hp : ss[q] = p at *
      obtain ⟨slo, shi⟩ := p
      simp only at c1 c2
      clear hp
      have hs2 : w.heap.size + 1 < wr.heap.size := Nat.lt_of_lt_of_le BL3.out.lt hsz
      have hs3 : ¬ w.heap.size + 1 = wr.heap.size := by omega
      have hq1 := Lib.hid (HR.out.a.lt)
      go_wp2_with (first
        | (at_builtin; ((refine wpList_append_own_at _ rfl (.tmp 29) (.tmp 35) 39 rfl w3.heap.size 4 i0 (.bool false) 1 1 Tryz.underlying39 hi0 hz0 hz1 hz2 rfl (by decide) va q _ rfl ((HR.out.a.alloc _).alloc _) ⟨wr.heap.size + 1, 0, none⟩ 1 1 [.bool (decide (shi < lo))] rfl rfl (cell_one_new' _ _ _ (by simp)) (by simp [Value.oneCell']) (by unfold maxLen; omega) (by omega) (by simp; omega) ?_; intro v1 w4 hown1 hg1 _ hat1; have T2 := Lib.hid (TwoRows.first ((HR.out.alloc _).alloc _) hown1 hg1 hat1); have hb4 := Lib.hid (Below.grown (((Below.refl w3.heap.size wr).alloc hsz (.cells #[.int .i64 slo, .int .i64 shi] 34)).alloc (by simp; omega) (.cells #[.bool (decide (shi < lo))] 4)) hg1 (by simp; omega) (fun k hk => (hq1.out k hk).1)); have c7 := ((BL3.out.below HBr.out BL3.out.lt).below hb4.out BL3.out.lt).cell 1; simp only [List.getElem?_toArray, List.getElem?_cons_zero, List.getElem?_cons_succ] at c7; have hsz4 := hb4.out.size; have d0 := (hg1.block wr.heap.size (by simp; omega) (fun e => by have := (hq1.out _ e.symm).2; omega)); have d1 := (World.cell?_of_block (a := ⟨wr.heap.size, 0, none⟩) d0); have d2 := (World.cell?_of_block (a := ⟨wr.heap.size, 1, none⟩) d0); clear hown1 hg1 hat1 d0)))
        | (at_builtin; ((refine wpList_append_own_at _ rfl (.tmp 37) (.tmp 43) 39 rfl w3.heap.size 4 i0 (.bool false) 1 1 Tryz.underlying39 hi0 hz0 hz1 hz2 rfl (by decide) vb q _ rfl (T2.out.b.alloc _) ⟨w4.heap.size, 0, none⟩ 1 1 [.bool (decide (slo < hi))] rfl rfl (cell_one_new _ _ _) (by simp [Value.oneCell']) (by unfold maxLen; omega) (by omega) (by simp; omega) ?_; intro v2 w5 hown2 hg2 _ hat2; have T3 := Lib.hid (TwoRows.second (T2.out.alloc _) hown2 hg2 hat2); have hb5 := Lib.hid (Below.grown ((Below.refl w3.heap.size w4).alloc (by omega) (.cells #[.bool (decide (slo < hi))] 4)) hg2 (by simp; omega) (fun k hk => (T2.out.b.lt k hk).1)); clear hown2 hat2 hg2))))
      go_roundw
      case rel =>
        refine ⟨q + 1, v1, v2, rfl, rfl, by omega, by go_num, ?_, (HBr.out.trans hb4.out).trans hb5.out⟩
        have t := T3.out
        have h1 := e1.out
        have h2 := e2.out
        simp only at h1 h2
        rw [Hid, ← h1, ← h2, List.map_append, List.map_append]
        exact t
      case measure => simp [intOf]; omega
    · have hk' : q = ss.length := by omega
      have HF : Hid (TwoRows wr w3.heap.size 4 1 va vb q q ((ss.map (fun s => decide (s.2 < lo))).map Value.bool) ((ss.map (fun s => decide (s.1 < hi))).map Value.bool)) := by
        have := HR.out
        rw [List.take_of_length_le (by omega)] at this
        exact this
      have HK := Lib.hid hk'
      clear hk' HR
      go_wp2
      go_ret3
      refine ⟨_, _, _, _, ret_trip He.out.symm, bools_own (by simpa [HK.out] using HF.out.a), bools_own (by simpa [HK.out] using HF.out.b), HB3.out.trans (hBr.mono HB3.out.size), .inr ⟨He.out, sts, ss, Hel.out, HS3.out, rfl, rfl⟩⟩
end Go.Proofs.YthcenmocnphnmaaGreatDoor
