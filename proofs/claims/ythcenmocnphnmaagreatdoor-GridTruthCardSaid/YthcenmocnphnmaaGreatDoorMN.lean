/-
  Soundings: lists of them, and what they say together.
-/
import Derived.Test.YthcenmocnphnmaaGreatDoorMM
set_option linter.unusedSimpArgs false
set_option linter.unusedVariables false
namespace Go.Proofs.YthcenmocnphnmaaGreatDoor
open Go.RowKit Go.Shelf

/-- a sounding: cell, height, error -/
abbrev Snd := Int × Int × Int
def sndCells (l : List Snd) : List Value := l.flatMap fun s => [.int .i64 s.1, .int .i64 s.2.1, .int .i64 s.2.2]
def SndsAt (w : World) (B : Nat) (v : Value) (l : List Snd) : Prop := Reads w B 3 v l.length (sndCells l)
theorem sndCells_length (l : List Snd) : (sndCells l).length = l.length * 3 := by
  induction l with
  | nil => rfl
  | cons s l ih => simp [sndCells] at ih ⊢; omega
theorem sndCells_append (l m : List Snd) : sndCells (l ++ m) = sndCells l ++ sndCells m := by simp [sndCells]
theorem sndCells_get (l : List Snd) (k : Nat) (h : k < l.length) : (sndCells l)[k * 3]? = some (.int .i64 l[k].1) ∧ (sndCells l)[k * 3 + 1]? = some (.int .i64 l[k].2.1) ∧ (sndCells l)[k * 3 + 2]? = some (.int .i64 l[k].2.2) := by
  induction l generalizing k with
  | nil => simp at h
  | cons s l ih =>
    cases k with
    | zero => simp [sndCells]
    | succ k =>
      have := ih k (by simpa using h)
      have e1 : (k + 1) * 3 = k * 3 + 3 := by omega
      simp only [sndCells, List.flatMap_cons, List.cons_append, List.nil_append, List.getElem_cons_succ] at this ⊢
      rw [e1]
      exact ⟨by simpa using this.1, by simpa using this.2.1, by simpa using this.2.2⟩
section
variable {w w' : World} {B B' : Nat} {v : Value} {l : List Snd}
theorem SndsAt.below (h : SndsAt w B v l) (hb : Below B w w') : SndsAt w' B v l := Reads.below h hb
theorem SndsAt.more (h : SndsAt w B v l) (hB : B ≤ B') : SndsAt w B' v l := Reads.more h hB
theorem SndsAt.later (h : SndsAt w B v l) (hb : Below B w w') (hB : B ≤ w.heap.size) : SndsAt w' w'.heap.size v l := Reads.later h hb hB
theorem SndsAt.open_ (h : SndsAt w B v l) : ∃ A c, v = .slice A l.length c ∧ l.length ≤ c ∧ l.length ≤ 9223372036854775807 := by
  obtain ⟨_, h2, A, c, h3, h4, _⟩ := h
  exact ⟨A, c, h3, h4, h2⟩
theorem SndsAt.at_ {A : Option Addr} {n c : Nat} (h : SndsAt w B (.slice A n c) l) {k : Nat} (hk : k < l.length) :
    ∃ b off, A = some ⟨b, off, none⟩ ∧ b < B ∧ w.cell? ⟨b, off + k * 3, none⟩ = some (.int .i64 l[k].1) ∧ w.cell? ⟨b, off + k * 3 + 1, none⟩ = some (.int .i64 l[k].2.1) ∧ w.cell? ⟨b, off + k * 3 + 2, none⟩ = some (.int .i64 l[k].2.2) := by
  obtain ⟨h1, _, A', c', h3, h4, h5⟩ := h
  injection h3 with a b d
  subst a
  obtain ⟨b, off, e, hb, hc⟩ := h5 (by omega)
  obtain ⟨g1, g2, g3⟩ := sndCells_get l k hk
  exact ⟨b, off, e, hb, hc _ _ g1, hc _ _ g2, hc _ _ g3⟩
end

/-- the error of a sounding -/
def sndE (g : G) (s : Snd) : Int := if inG g s.1 then (if decide (-1200000 ≤ s.2.1 ∧ s.2.1 ≤ 1200000) && decide (0 ≤ s.2.2 ∧ s.2.2 ≤ 100000) then 0 else 3) else 4
def sndsE (g : G) : List Snd → Int
  | [] => 0
  | s :: l => if sndE g s = 0 then sndsE g l else sndE g s
theorem sndsE_at (g : G) : ∀ (l : List Snd) (q : Nat) (h : q < l.length), (∀ j (hj : j < q), sndE g (l[j]'(by omega)) = 0) → sndE g l[q] ≠ 0 → sndsE g l = sndE g l[q]
  | s :: l, 0, _, _, h => by simp only [sndsE]; rw [if_neg (show ¬ sndE g s = 0 from h)]; rfl
  | s :: l, q + 1, hq, hj, h => by
    simp only [sndsE]
    rw [if_pos (show sndE g s = 0 from hj 0 (by omega))]
    exact sndsE_at g l q (by simpa using hq) (fun j h' => hj (j + 1) (by omega)) h
theorem sndsE_none (g : G) : ∀ (l : List Snd), (∀ j (hj : j < l.length), sndE g l[j] = 0) → sndsE g l = 0
  | [], _ => rfl
  | s :: l, hj => by
    simp only [sndsE]
    rw [if_pos (show sndE g s = 0 from hj 0 (by simp))]
    exact sndsE_none g l (fun j h' => hj (j + 1) (by simpa using h'))
theorem sndsE_zero (g : G) : ∀ (l : List Snd), sndsE g l = 0 → ∀ j (hj : j < l.length), sndE g l[j] = 0
  | [], _, j, hj => by simp at hj
  | s :: l, h, j, hj => by
    simp only [sndsE] at h
    split at h
    · rename_i h0
      cases j with
      | zero => exact h0
      | succ j => exact sndsE_zero g l h j (by simpa using hj)
    · rename_i h0
      exact absurd h h0
def soundE (g : G) (l : List Snd) : Int := if 4096 < l.length then 9 else sndsE g l

/-- what a sounding leaves of a span -/
def snd1 (ss : List (Int × Int)) (s : Snd) : Int × Int := com (ss.getD s.1.toNat (0, 0)) (s.2.1 - s.2.2, s.2.1 + s.2.2)
/-- what all of them leave, if anything; else the number of the first one that contradicts -/
def meas (ss : List (Int × Int)) : List Snd → Nat → Sum Nat (List (Int × Int))
  | [], _ => .inr ss
  | s :: l, k => if emptyB (snd1 ss s) then .inl k else meas (ss.set s.1.toNat (snd1 ss s)) l (k + 1)
theorem meas_front (l : List Snd) : ∀ (ss : List (Int × Int)) (k q : Nat) (cur : List (Int × Int)) (h : q < l.length), meas ss (l.take q) k = .inr cur →
    (emptyB (snd1 cur l[q]) = true → meas ss l k = .inl (k + q)) ∧ (emptyB (snd1 cur l[q]) = false → meas ss (l.take (q + 1)) k = .inr (cur.set (l[q]).1.toNat (snd1 cur l[q]))) := by
  induction l with
  | nil => intro ss k q cur h; simp at h
  | cons s l ih =>
    intro ss k q cur h hm
    cases q with
    | zero =>
      simp only [List.take_zero, meas] at hm
      cases hm
      constructor
      · intro he
        simp only [meas]
        rw [if_pos (by simpa using he)]
        rfl
      · intro he
        simp only [Nat.zero_add, List.take_succ_cons, List.take_zero, meas]
        rw [if_neg (by simpa using he)]
        rfl
    | succ q =>
      simp only [List.take_succ_cons, meas] at hm
      split at hm
      · cases hm
      · rename_i h0
        obtain ⟨h1, h2⟩ := ih _ (k + 1) q cur (by simpa using h) hm
        constructor
        · intro he
          simp only [meas]
          rw [if_neg h0, h1 he]
          congr 1
          omega
        · intro he
          simp only [List.take_succ_cons, meas]
          rw [if_neg h0]
          exact h2 he
def measR (g : G) (l : List Snd) : Int × Int × G := if checkE g = 0 then (if soundE g l = 0 then (match meas g.ss l 0 with | .inl k => ((k : Nat), 14, zeroG) | .inr ss => (0, 0, ⟨g.W, g.H, g.S, ss⟩)) else (0, soundE g l, zeroG)) else (0, checkE g, zeroG)
theorem meas_length : ∀ (l : List Snd) (ss : List (Int × Int)) (k : Nat) (cur : List (Int × Int)), meas ss l k = .inr cur → cur.length = ss.length
  | [], _, _, _, h => by cases h; rfl
  | s :: l, ss, k, cur, h => by
    simp only [meas] at h
    split at h
    · cases h
    · have := meas_length l _ _ _ h
      rw [this, List.length_set]

theorem hasCell_of (x : Value) (g : G) (cell : Int) (b : Bool) (hb : inG g cell = b) (w : World) (hg : GridAt w w.heap.size x g) :
    Calls Tryz.prog 50 #[x, .int .i64 cell] w fun e w' => e = .returned (.bool b) ∧ Below w.heap.size w w' := by
  subst hb
  exact hasCell_any x g cell w hg
theorem within_of (n l g : Int) (b : Bool) (hb : decide (l ≤ n ∧ n ≤ g) = b) (w : World) :
    Calls Tryz.prog 55 #[.int .i64 n, .int .i64 l, .int .i64 g] w fun e w' => e = .returned (.bool b) ∧ w = w' := by
  subst hb
  exact within_any n l g w

set_option maxRecDepth 100000 in
set_option maxHeartbeats 2000000 in
theorem checkSoundings_any (x y : Value) (g : G) (l : List Snd) (w : World) (hg : GridAt w w.heap.size x g) (hl : SndsAt w w.heap.size y l) :
    Calls Tryz.prog 69 #[x, y] w fun e w' => e = .returned (.int .i64 (soundE g l)) ∧ Below w.heap.size w w' := by
  have HG := Lib.hid hg
  have HL := Lib.hid hl
  obtain ⟨v, rfl, hs⟩ := hg
  obtain ⟨A, k, rfl, hk, hm⟩ := hs.open_
  obtain ⟨A', k', rfl, hk', hm'⟩ := hl.open_
  have hB : Below w.heap.size w (w.alloc (.cells #[.int .i64 g.W, .int .i64 g.H, .int .i64 g.S, .slice A g.ss.length k] 24)) := (by repeat (first | exact Below.refl _ _ | assumption | refine Below.drew ?_ | refine Below.drewN' ?_ _ | (refine Below.alloc ?_ (by simp <;> omega) _) | (refine Below.setCell ?_ (by simp <;> omega) _)))
  have HB := Lib.hid hB
  have b0 : Blk (w.alloc (.cells #[.int .i64 g.W, .int .i64 g.H, .int .i64 g.S, .slice A g.ss.length k] 24)) w.heap.size 24 #[.int .i64 g.W, .int .i64 g.H, .int .i64 g.S, .slice A g.ss.length k] := Blk.new' _ _ _ rfl
  have HBB := Lib.hid b0
  clear hs hl hB b0
  by_cases h0 : 4096 < l.length
  · have He : Hid (soundE g l = 9) := by unfold soundE; rw [Hid, if_pos h0]
    have h0' : decide ((4096 : Int) < (l.length : Int)) = true := by simp; omega
    have h0'' : (4096 : Int) < (l.length : Int) := by omega
    clear h0
    go_enter Tryz.func69, Tryz.ntmps69
    go_wp2
    go_ret
    exact ⟨ret_int He.out.symm, (by repeat (first | exact Below.refl _ _ | assumption | refine Below.drew ?_ | refine Below.drewN' ?_ _ | (refine Below.alloc ?_ (by simp <;> omega) _) | (refine Below.setCell ?_ (by simp <;> omega) _)))⟩
  have He : Hid (soundE g l = sndsE g l) := by unfold soundE; rw [Hid, if_neg h0]
  have h0' : ¬ (4096 : Int) < (l.length : Int) := by omega
  go_enter Tryz.func69, Tryz.ntmps69
  go_wp2
  go_loopw [12] (fun i wr => ∃ q : Nat, q ≤ l.length ∧ i = .int .i64 q ∧ Hid (∀ j (hj : j < q) (hq : q ≤ l.length), sndE g (l[j]'(by omega)) = 0) ∧ Below (w.heap.size + 1) (w.alloc (.cells #[.int .i64 g.W, .int .i64 g.H, .int .i64 g.S, .slice A g.ss.length k] 24)) wr) (fun i _ => l.length - (intOf i).toNat)
  case atStart => exact ⟨0, Nat.zero_le _, rfl, fun j hj => absurd hj (by omega), Below.refl _ _⟩
  case round =>
    obtain ⟨q, hq, rfl, Hall, hBr⟩ := hrel
    have hsz := hBr.size
    simp only [World.size_alloc] at hsz
    have HBw := Lib.hid (HB.out.trans (hBr.mono (by omega)))
    have HBr := Lib.hid hBr
    by_cases hlt : q < l.length
    · obtain ⟨b, off, rfl, hb, c1, c2, c3⟩ := (HL.out.below HBw.out).at_ hlt
      have Hat := Lib.hid (fun h => sndsE_at g l q hlt (fun j hj => Hall.out j hj hq) h)
      have Hnx : Hid (sndE g l[q] = 0 → ∀ j (hj : j < q + 1) (hq' : q + 1 ≤ l.length), sndE g (l[j]'(by omega)) = 0) := by
        intro h j hj hq'
        by_cases e : j = q
        · subst e; exact h
        · exact Hall.out j (by omega) hq
      have hbb := HBB.out.below hBr (by omega)
      obtain ⟨d0, d1, d2, d3⟩ := grid_parts hbb
      have n1 : w.heap.size < wr.heap.size := by omega
      have n2 : ¬ w.heap.size = wr.heap.size := by omega
      have n3 : b < wr.heap.size := by omega
      have n4 : ¬ b = wr.heap.size := by omega
      clear hBr hbb
      generalize hp : l[q] = p at *
      obtain ⟨p1, p2, p3⟩ := p
      simp only at c1 c2 c3
      clear hp
      by_cases h1 : inG g p1 = true
      case neg =>
        have h1' := hid_not h1
        have Hr : Hid (sndsE g l = 4) := by
          have e : sndE g (p1, p2, p3) = 4 := by unfold sndE; rw [h1'.out]; rfl
          rw [Hid, Hat.out (by rw [e]; decide), e]
        clear h1
        go_wp2_with (go_at_call 50; refine (hasCell_of _ g _ false h1'.out _ (by exact HG.out.later (HBw.out.alloc (by omega) _) (Nat.le_refl _))).mono ?_; rintro e w2 ⟨rfl, hb2⟩)
        go_ret
        exact ⟨ret_int (by rw [He.out, Hr.out]), (HBw.out.alloc (by omega) _).trans (hb2.mono (by simp; omega))⟩
      have h1' := Lib.hid h1
      clear h1
      have hWr : Below w.heap.size w (wr.alloc (.cells #[.int .i64 p1, .int .i64 p2, .int .i64 p3] 51)) := HBw.out.alloc (by omega) _
      have bs : Blk (wr.alloc (.cells #[.int .i64 p1, .int .i64 p2, .int .i64 p3] 51)) wr.heap.size 51 #[.int .i64 p1, .int .i64 p2, .int .i64 p3] := Blk.new' _ _ _ rfl
      have HWr := Lib.hid hWr
      have Hbs := Lib.hid bs
      clear hWr bs
      by_cases h2 : decide (-1200000 ≤ p2 ∧ p2 ≤ 1200000) = true
      case neg =>
        have h2' := hid_not h2
        have Hr : Hid (sndsE g l = 3) := by
          have e : sndE g (p1, p2, p3) = 3 := by unfold sndE; rw [h1'.out]; simp only [h2'.out]; rfl
          rw [Hid, Hat.out (by rw [e]; decide), e]
        clear h2
        go_wp2_with (first
          | (go_at_call 50; refine (hasCell_of _ g _ true h1'.out _ (by exact HG.out.later HWr.out (Nat.le_refl _))).mono ?_; rintro e w2 ⟨rfl, hb2⟩; have g1 := (Hbs.out.below hb2 (by simp)).cell 1; have g2 := (Hbs.out.below hb2 (by simp)).cell 2; simp only [List.getElem?_toArray, List.getElem?_cons_zero, List.getElem?_cons_succ] at g1 g2; have Hb2 := Lib.hid hb2; clear hb2)
          | (go_at_call 55; refine (within_of _ _ _ false h2'.out _).mono ?_; rintro e w3 ⟨rfl, rfl⟩))
        go_ret
        exact ⟨ret_int (by rw [He.out, Hr.out]), HWr.out.trans (Hb2.out.mono HWr.out.size)⟩
      have h2' := Lib.hid h2
      clear h2
      by_cases h3 : decide (0 ≤ p3 ∧ p3 ≤ 100000) = true
      case neg =>
        have h3' := hid_not h3
        have Hr : Hid (sndsE g l = 3) := by
          have e : sndE g (p1, p2, p3) = 3 := by unfold sndE; rw [h1'.out]; simp only [h2'.out, h3'.out]; rfl
          rw [Hid, Hat.out (by rw [e]; decide), e]
        clear h3
        go_wp2_with (first
          | (go_at_call 50; refine (hasCell_of _ g _ true h1'.out _ (by exact HG.out.later HWr.out (Nat.le_refl _))).mono ?_; rintro e w2 ⟨rfl, hb2⟩; have g1 := (Hbs.out.below hb2 (by simp)).cell 1; have g2 := (Hbs.out.below hb2 (by simp)).cell 2; simp only [List.getElem?_toArray, List.getElem?_cons_zero, List.getElem?_cons_succ] at g1 g2; have Hb2 := Lib.hid hb2; clear hb2)
          | (go_at_call 55; (with_reducible refine (within_of p2 _ _ true h2'.out _).mono ?_); rintro e w3 ⟨rfl, rfl⟩)
          | (go_at_call 55; (with_reducible refine (within_of p3 _ _ false h3'.out _).mono ?_); rintro e w3 ⟨rfl, rfl⟩))
        go_ret
        exact ⟨ret_int (by rw [He.out, Hr.out]), HWr.out.trans (Hb2.out.mono HWr.out.size)⟩
      have h3' := Lib.hid h3
      have Hok : Hid (sndE g (p1, p2, p3) = 0) := by unfold sndE; rw [Hid, h1'.out]; simp only [h2'.out, h3'.out]; rfl
      clear h3
      go_wp2_with (first
        | (go_at_call 50; refine (hasCell_of _ g _ true h1'.out _ (by exact HG.out.later HWr.out (Nat.le_refl _))).mono ?_; rintro e w2 ⟨rfl, hb2⟩; have g1 := (Hbs.out.below hb2 (by simp)).cell 1; have g2 := (Hbs.out.below hb2 (by simp)).cell 2; simp only [List.getElem?_toArray, List.getElem?_cons_zero, List.getElem?_cons_succ] at g1 g2; have Hb2 := Lib.hid hb2; clear hb2)
        | (go_at_call 55; (with_reducible refine (within_of p2 _ _ true h2'.out _).mono ?_); rintro e w3 ⟨rfl, rfl⟩)
        | (go_at_call 55; (with_reducible refine (within_of p3 _ _ true h3'.out _).mono ?_); rintro e w3 ⟨rfl, rfl⟩))
      go_roundw
      case rel => exact ⟨q + 1, by omega, by go_num, Hnx.out Hok.out, (HBr.out.alloc (by omega) _).trans (Hb2.out.mono (by simp; omega))⟩
      case measure => simp [intOf]; omega
    · have Hr : Hid (sndsE g l = 0) := sndsE_none g l (fun j hj => Hall.out j (by omega) hq)
      clear hBr
      go_wp2
      go_ret
      exact ⟨ret_int (by rw [He.out, Hr.out]), HBw.out⟩
end Go.Proofs.YthcenmocnphnmaaGreatDoor
/-
  Measure.
-/
namespace Go.Proofs.YthcenmocnphnmaaGreatDoor
open Go.RowKit Go.Shelf

theorem sndE_ok {g : G} {s : Snd} (h : sndE g s = 0) : (∃ c : Nat, s.1 = c ∧ c < g.ss.length) ∧ -1200000 ≤ s.2.1 ∧ s.2.1 ≤ 1200000 ∧ 0 ≤ s.2.2 ∧ s.2.2 ≤ 100000 := by
  unfold sndE at h
  split at h
  · rename_i h1
    have h1' : 0 ≤ s.1 ∧ s.1 < g.ss.length := of_decide_eq_true h1
    split at h
    · rename_i h2
      rw [Bool.and_eq_true] at h2
      have a := of_decide_eq_true h2.1
      have b := of_decide_eq_true h2.2
      exact ⟨⟨s.1.toNat, by omega, by omega⟩, a.1, a.2, b.1, b.2⟩
    · omega
  · omega

/-- the result's row is the call's own -/
def FreshG (base : Nat) (x : Value) : Prop := ∀ W H S v, x = .agg #[W, H, S, v] → Fresh base v
theorem freshG_zero (base : Nat) : FreshG base (.agg #[.int .i64 0, .int .i64 0, .int .i64 0, .slice none 0 0]) := fun W H S v e a n c e2 => by
  injection e with e
  injection e with e
  injection e with _ e
  injection e with _ e
  injection e with _ e
  injection e with e _
  rw [e2] at e
  cases e
theorem freshG_some {base g : Nat} (h : base ≤ g) (W H S : Value) (n c : Nat) : FreshG base (.agg #[W, H, S, .slice (some ⟨g, 0, none⟩) n c]) := fun W' H' S' v e a n' c' e2 => by
  injection e with e
  injection e with e
  injection e with _ e
  injection e with _ e
  injection e with _ e
  injection e with e _
  rw [e2] at e
  injection e with e
  injection e with e
  rw [← e]
  exact h
def NarrowOutF (r : Int × Int × G) (w : World) (e : Ending) (w' : World) : Prop := ∃ x, e = .returned (.tuple #[x, .int .i64 r.1, .int .i64 r.2.1]) ∧ GridAt w' w'.heap.size x r.2.2 ∧ Below w.heap.size w w' ∧ FreshG w.heap.size x
set_option maxRecDepth 100000 in
set_option maxHeartbeats 8000000 in
theorem Measure_fresh (x y : Value) (a : G) (l : List Snd) (w : World) (hx : GridAt w w.heap.size x a) (hy : SndsAt w w.heap.size y l) :
    Calls Tryz.prog 31 #[x, y] w (NarrowOutF (measR a l) w) := by
  have HX := Lib.hid hx
  have HY := Lib.hid hy
  obtain ⟨v, rfl, hs⟩ := hx
  obtain ⟨A, k, rfl, hk, hm⟩ := hs.open_
  obtain ⟨A', k', rfl, hk', hm'⟩ := hy.open_
  have HS := Lib.hid hs
  have hB : Below w.heap.size w ((w.alloc (.cells #[.int .i64 a.W, .int .i64 a.H, .int .i64 a.S, .slice A a.ss.length k] 24)).alloc (.cells #[.int .i64 0, .int .i64 0, .int .i64 0, .slice none 0 0] 24)) := (by repeat (first | exact Below.refl _ _ | assumption | refine Below.drew ?_ | refine Below.drewN' ?_ _ | (refine Below.alloc ?_ (by simp <;> omega) _) | (refine Below.setCell ?_ (by simp <;> omega) _)))
  have HB := Lib.hid hB
  have b0 : Blk ((w.alloc (.cells #[.int .i64 a.W, .int .i64 a.H, .int .i64 a.S, .slice A a.ss.length k] 24)).alloc (.cells #[.int .i64 0, .int .i64 0, .int .i64 0, .slice none 0 0] 24)) w.heap.size 24 #[.int .i64 a.W, .int .i64 a.H, .int .i64 a.S, .slice A a.ss.length k] := Blk.alloc (Blk.new' _ _ _ rfl) _
  have b2 : Blk ((w.alloc (.cells #[.int .i64 a.W, .int .i64 a.H, .int .i64 a.S, .slice A a.ss.length k] 24)).alloc (.cells #[.int .i64 0, .int .i64 0, .int .i64 0, .slice none 0 0] 24)) (w.heap.size + 1) 24 #[.int .i64 0, .int .i64 0, .int .i64 0, .slice none 0 0] := Blk.new' _ _ _ (by simp)
  have HBB := Lib.hid (And.intro b0 b2)
  clear hs hy hB b0 b2
  go_enter Tryz.func31, Tryz.ntmps31
  go_wp2_with fail
  refine (check_any _ a _ (HX.out.later HB.out (Nat.le_refl _))).mono ?_
  rintro e w1 ⟨rfl, hb1⟩
  have HB1 := Lib.hid (HB.out.trans (hb1.mono HB.out.size))
  have hn1 : w.heap.size + 1 + 1 ≤ w1.heap.size := by have := hb1.size; simpa using this
  have HBB1 := Lib.hid (And.intro (HBB.out.1.below hb1 (by simp <;> omega)) (HBB.out.2.below hb1 (by simp <;> omega)))
  clear hb1
  obtain ⟨⟨z0, z1, z2, z3⟩, f0, f1, f2, f3⟩ := zero_parts HBB1.out.2
  by_cases h0 : checkE a = 0
  case neg =>
    have He : Hid ((0, checkE a, zeroG) = measR a l) := by unfold measR; rw [Hid, if_neg h0]
    have hb : (checkE a != 0) = true := by simpa using h0
    clear h0
    go_wp2
    refine bodyPost_ret (v := .tuple #[.agg #[.int .i64 0, .int .i64 0, .int .i64 0, .slice none 0 0], .int .i64 0, .int .i64 (checkE a)]) (by simp [results, Tryz.results31, go_sem, z0, z1, z2, z3, f0, f1, f2, f3]) rfl ?_
    rw [← He.out]
    exact ⟨_, rfl, grid_zero _ _, HB1.out.trans (by repeat (first | exact Below.refl _ _ | assumption | refine Below.drew ?_ | refine Below.drewN' ?_ _ | (refine Below.alloc ?_ (by simp <;> omega) _) | (refine Below.setCell ?_ (by simp <;> omega) _))), freshG_zero _⟩
  have hb : (checkE a != 0) = false := by simpa using h0
  have H0 := Lib.hid h0
  clear h0
  obtain ⟨d0, d1, d2, d3⟩ := grid_parts HBB1.out.1
  go_wp2_with fail
  refine (checkSoundings_any _ _ a l _ (HX.out.later HB1.out (Nat.le_refl _)) (HY.out.later HB1.out (Nat.le_refl _))).mono ?_
  rintro e w2 ⟨rfl, hb2⟩
  have HB2 := Lib.hid (HB1.out.trans (hb2.mono HB1.out.size))
  have hn2 : w.heap.size + 1 + 1 ≤ w2.heap.size := by have := hb2.size; omega
  have HBB2 := Lib.hid (And.intro (HBB1.out.1.below hb2 (by omega)) (HBB1.out.2.below hb2 (by omega)))
  clear hb2 d0 d1 d2 d3 z0 z1 z2 z3 f0 f1 f2 f3
  obtain ⟨⟨z0, z1, z2, z3⟩, f0, f1, f2, f3⟩ := zero_parts HBB2.out.2
  by_cases h1 : soundE a l = 0
  case neg =>
    have He : Hid ((0, soundE a l, zeroG) = measR a l) := by unfold measR; rw [Hid, if_pos H0.out, if_neg h1]
    have hb' : (soundE a l != 0) = true := by simpa using h1
    clear h1
    go_wp2
    refine bodyPost_ret (v := .tuple #[.agg #[.int .i64 0, .int .i64 0, .int .i64 0, .slice none 0 0], .int .i64 0, .int .i64 (soundE a l)]) (by simp [results, Tryz.results31, go_sem, z0, z1, z2, z3, f0, f1, f2, f3]) rfl ?_
    rw [← He.out]
    exact ⟨_, rfl, grid_zero _ _, HB2.out.trans (by repeat (first | exact Below.refl _ _ | assumption | refine Below.drew ?_ | refine Below.drewN' ?_ _ | (refine Below.alloc ?_ (by simp <;> omega) _) | (refine Below.setCell ?_ (by simp <;> omega) _))), freshG_zero _⟩
  have hb' : (soundE a l != 0) = false := by simpa using h1
  have hls : l.length ≤ 4096 := by
    unfold soundE at h1
    split at h1
    · omega
    · omega
  have hsnd : sndsE a l = 0 := by
    unfold soundE at h1
    rw [if_neg (by omega)] at h1
    exact h1
  have Hsnd := Lib.hid (sndsE_zero a l hsnd)
  have He : Hid (measR a l = match meas a.ss l 0 with | .inl k => (((k : Nat) : Int), (14 : Int), zeroG) | .inr ss => ((0 : Int), (0 : Int), (⟨a.W, a.H, a.S, ss⟩ : G))) := by unfold measR; rw [Hid, if_pos H0.out, if_pos h1]; first | done | (cases meas a.ss l 0 <;> rfl)
  have hpa := (valid_of H0.out).pos
  have hsm := (valid_of H0.out).small
  clear h1 hsnd
  obtain ⟨d0, d1, d2, d3⟩ := grid_parts HBB2.out.1
  go_wp2_with fail
  refine (clone_any _ a.ss _ (HS.out.later HB2.out (Nat.le_refl _)) (by omega) (by omega)).mono ?_
  rintro e w3 ⟨gb, cap, rfl, hown3, hb3⟩
  have HO3 := Lib.hid hown3
  have hgb := hown3.lt gb rfl
  have hcap : a.ss.length ≤ cap := by
    rcases hown3.2 with ⟨e, _⟩ | ⟨_, _, _, e, _, _, h, _⟩
    · cases e
    · injection e with _ _ e; omega
  have HB3 := Lib.hid (HB2.out.trans (hb3.mono HB2.out.size))
  have HB23 := Lib.hid hb3
  have hn3 : w2.heap.size ≤ w3.heap.size := hb3.size
  clear hown3 hb3 d0 d1 d2 d3 z0 z1 z2 z3 f0 f1 f2 f3
  go_wp2
  go_loopw [30] (fun i wr => ∃ (q : Nat) (cur : List (Int × Int)), q ≤ l.length ∧ i = .int .i64 q ∧ Hid (wr.ownsRow w2.heap.size 34 2 (.slice (some ⟨gb, 0, none⟩) a.ss.length cap) a.ss.length (spanCells cur)) ∧ Hid (meas a.ss (l.take q) 0 = .inr cur) ∧ Below w2.heap.size w2 wr) (fun i _ => l.length - (intOf i).toNat)
  case atStart => exact ⟨0, a.ss, Nat.zero_le _, rfl, HO3.out, rfl, HB23.out⟩
  case round =>
    obtain ⟨q, cur, hq, rfl, Hown, Hme, hBr⟩ := hrel
    clear HO3
    have HBr := Lib.hid hBr
    have HBw := Lib.hid (HB2.out.trans (hBr.mono HB2.out.size))
    have hnr : w2.heap.size ≤ wr.heap.size := hBr.size
    have HBBr := Lib.hid (And.intro (HBB2.out.1.below hBr (by omega)) (HBB2.out.2.below hBr (by omega)))
    have hcl : cur.length = a.ss.length := meas_length _ _ _ _ Hme.out
    have Hcl := Lib.hid hcl
    clear hBr
    by_cases hlt : q < l.length
    · obtain ⟨bb, off, rfl, hbb, c6, c7, c8⟩ := (HY.out.below HBw.out).at_ hlt
      obtain ⟨⟨c, hc, hcN⟩, k1, k2, k3, k4⟩ := sndE_ok (Hsnd.out q hlt)
      obtain ⟨m1, m2⟩ := meas_front l a.ss 0 q cur hlt Hme.out
      have M1 := Lib.hid m1
      have M2 := Lib.hid m2
      clear m1 m2
      generalize hp : l[q] = p at *
      obtain ⟨p1, p2, p3⟩ := p
      simp only at c6 c7 c8 hc k1 k2 k3 k4
      subst hc
      clear hp
      have hss : c < cur.length := by omega
      obtain ⟨c4, c5⟩ := own_spans_at Hown.out hss
      have f4 := Hown.out.frozenAt (c * 2)
      have f5 := Hown.out.frozenAt (c * 2 + 1)
      have Hcg := Lib.hid (show cur.getD (((c : Nat) : Int)).toNat (0, 0) = cur[c] by rw [Int.toNat_natCast, List.getD_eq_getElem?_getD, List.getElem?_eq_getElem hss]; rfl)
      have Hcc : Hid (cur[c] = cur[c]) := rfl
      generalize ha : cur[c] = pa at *
      obtain ⟨a1, a2⟩ := pa
      have Hca := Lib.hid ha
      simp only at c4 c5
      clear ha
      have hc0 : (0 : Int) ≤ (c : Int) := by omega
      have hc1 : (c : Int) < a.ss.length := by omega
      have n1 : gb < wr.heap.size := by have := Hown.out.lt gb rfl; omega
      have n2 : ¬ gb = wr.heap.size := by omega
      have n3 : bb < wr.heap.size := by have := HBw.out.size; omega
      have n4 : ¬ bb = wr.heap.size := by omega
      go_wp2
      have s1 : IntKind.i64.wrap (p2 - p3) = p2 - p3 := IntWalk.i64_in _ (by omega)
      have s2 : IntKind.i64.wrap (p2 + p3) = p2 + p3 := IntWalk.i64_in _ (by omega)
      have hOw : Hid ((wr.alloc (.cells #[.int .i64 c, .int .i64 p2, .int .i64 p3] 51)).ownsRow w2.heap.size 34 2 (.slice (some ⟨gb, 0, none⟩) a.ss.length cap) a.ss.length (spanCells cur)) := Hown.out.alloc _
      have hbs : Hid (Blk (wr.alloc (.cells #[.int .i64 c, .int .i64 p2, .int .i64 p3] 51)) wr.heap.size 51 #[.int .i64 c, .int .i64 p2, .int .i64 p3]) := Blk.new' _ _ _ rfl
      refine wp_region_noPanic ?_
      refine wp_region_held_drew (S := (fun w' => w'.cell? ⟨wr.heap.size, 0, none⟩ = some (.int .i64 c) ∧ w'.cell? ⟨wr.heap.size, 1, none⟩ = some (.int .i64 p2) ∧ w'.cell? ⟨wr.heap.size, 2, none⟩ = some (.int .i64 p3))) (by kernel_rfl) ?_ (fun hHeld => ?_)
      · (try dsimp only); (first | assumption | (refine ⟨?_, ?_, ?_⟩ <;> assumption) | exact hst _ _ | go_keep)
      refine wpAnyH_take (i := 0) (oi := _) (v := ?v1) rfl (by kernel_rfl) (by kernel_rfl) (by kernel_rfl) (fun _ _ _ h => h) (Or.inl ⟨by rfl, ?hy1⟩) (by assumption) ?rest1
      case hy1 => ((intro w hSw; (try dsimp only at hSw); go_simp) <;> with_reducible rfl)
      try simp only [Act.put, List.setIfInBounds_toArray, List.set_cons_zero, List.set_cons_succ]
      refine wpAnyH_take (i := 1) (oi := _) (v := ?v2) rfl (by kernel_rfl) (by kernel_rfl) (by kernel_rfl) (fun _ _ _ h => h) (Or.inl ⟨by rfl, ?hy2⟩) (by assumption) ?rest2
      case hy2 => ((intro w hSw; (try dsimp only at hSw); go_simp) <;> with_reducible rfl)
      try simp only [Act.put, List.setIfInBounds_toArray, List.set_cons_zero, List.set_cons_succ]
      refine wpAnyH_take (i := 2) (oi := _) (v := ?v3) rfl (by kernel_rfl) (by kernel_rfl) (by kernel_rfl) (fun _ _ _ h => h) (Or.inl ⟨by rfl, ?hy3⟩) (by assumption) ?rest3
      case hy3 => ((intro w hSw; (try dsimp only at hSw); go_simp) <;> with_reducible rfl)
      try simp only [Act.put, List.setIfInBounds_toArray, List.set_cons_zero, List.set_cons_succ]
      refine wpAnyH_take (i := 3) (oi := _) (v := ?v4) rfl (by kernel_rfl) (by kernel_rfl) (by kernel_rfl) (fun _ _ _ h => h) (Or.inl ⟨by rfl, ?hy4⟩) (by assumption) ?rest4
      case hy4 => ((intro w hSw; (try dsimp only at hSw); go_simp) <;> with_reducible rfl)
      try simp only [Act.put, List.setIfInBounds_toArray, List.set_cons_zero, List.set_cons_succ]
      refine wpAnyH_take (i := 4) (oi := _) (v := ?v5) rfl (by kernel_rfl) (by kernel_rfl) (by kernel_rfl) (fun _ _ _ h => h) (Or.inl ⟨by rfl, ?hy5⟩) (by assumption) ?rest5
      case hy5 => ((intro w hSw; (try dsimp only at hSw); go_simp) <;> with_reducible rfl)
      try simp only [Act.put, List.setIfInBounds_toArray, List.set_cons_zero, List.set_cons_succ]
      refine wpAnyH_take (i := 5) (oi := _) (v := ?v6) rfl (by kernel_rfl) (by kernel_rfl) (by kernel_rfl) (fun _ _ _ h => h) (Or.inl ⟨by rfl, ?hy6⟩) (by assumption) ?rest6
      case hy6 => ((intro w hSw; (try dsimp only at hSw); go_simp) <;> with_reducible rfl)
      try simp only [Act.put, List.setIfInBounds_toArray, List.set_cons_zero, List.set_cons_succ]
      refine wpAnyH_take (i := 6) (oi := _) (v := ?v7) rfl (by kernel_rfl) (by kernel_rfl) (by kernel_rfl) (fun _ _ _ h => h) (Or.inl ⟨by rfl, ?hy7⟩) (by assumption) ?rest7
      case hy7 => ((intro w hSw; (try dsimp only at hSw); go_simp) <;> with_reducible rfl)
      try simp only [Act.put, List.setIfInBounds_toArray, List.set_cons_zero, List.set_cons_succ]
      refine wpAnyH_take (i := 8) (oi := _) (v := ?v8) rfl (by kernel_rfl) (by kernel_rfl) (by kernel_rfl) (fun _ _ _ h => h) (Or.inl ⟨by rfl, ?hy8⟩) (by assumption) ?rest8
      case hy8 => ((intro w hSw; (try dsimp only at hSw); go_simp) <;> with_reducible rfl)
      try simp only [Act.put, List.setIfInBounds_toArray, List.set_cons_zero, List.set_cons_succ]
      refine wpAnyH_take (i := 9) (oi := _) (v := ?v9) rfl (by kernel_rfl) (by kernel_rfl) (by kernel_rfl) (fun _ _ _ h => h) (Or.inl ⟨by rfl, ?hy9⟩) (by assumption) ?rest9
      case hy9 => ((intro w hSw; (try dsimp only at hSw); go_simp) <;> with_reducible rfl)
      try simp only [Act.put, List.setIfInBounds_toArray, List.set_cons_zero, List.set_cons_succ]
      refine wpAnyH_take (i := 10) (oi := _) (v := ?v10) rfl (by kernel_rfl) (by kernel_rfl) (by kernel_rfl) (fun _ _ _ h => h) (Or.inl ⟨by rfl, ?hy10⟩) (by assumption) ?rest10
      case hy10 => ((intro w hSw; (try dsimp only at hSw); go_simp) <;> with_reducible rfl)
      try simp only [Act.put, List.setIfInBounds_toArray, List.set_cons_zero, List.set_cons_succ]
      refine wpAnyH_take (i := 11) (oi := _) (v := ?v11) rfl (by kernel_rfl) (by kernel_rfl) (by kernel_rfl) (fun _ _ _ h => h) (Or.inl ⟨by rfl, ?hy11⟩) (by assumption) ?rest11
      case hy11 => ((intro w hSw; (try dsimp only at hSw); go_simp) <;> with_reducible rfl)
      try simp only [Act.put, List.setIfInBounds_toArray, List.set_cons_zero, List.set_cons_succ]
      refine wpAnyH_take (i := 12) (oi := _) (v := ?v12) rfl (by kernel_rfl) (by kernel_rfl) (by kernel_rfl) (fun _ _ _ h => h) (Or.inl ⟨by rfl, ?hy12⟩) (by assumption) ?rest12
      case hy12 => ((intro w hSw; (try dsimp only at hSw); go_simp) <;> with_reducible rfl)
      try simp only [Act.put, List.setIfInBounds_toArray, List.set_cons_zero, List.set_cons_succ]
      refine wpAnyH_take (i := 13) (oi := _) (v := ?v13) rfl (by kernel_rfl) (by kernel_rfl) (by kernel_rfl) (fun _ _ _ h => h) (Or.inl ⟨by rfl, ?hy13⟩) (by assumption) ?rest13
      case hy13 => ((intro w hSw; (try dsimp only at hSw); go_simp) <;> with_reducible rfl)
      try simp only [Act.put, List.setIfInBounds_toArray, List.set_cons_zero, List.set_cons_succ]
      refine wpAnyH_take (i := 14) (oi := _) (v := ?v14) rfl (by kernel_rfl) (by kernel_rfl) (by kernel_rfl) (fun _ _ _ h => h) (Or.inl ⟨by rfl, ?hy14⟩) (by assumption) ?rest14
      case hy14 => ((intro w hSw; (try dsimp only at hSw); go_simp) <;> with_reducible rfl)
      try simp only [Act.put, List.setIfInBounds_toArray, List.set_cons_zero, List.set_cons_succ]
      refine wpAnyH_take (i := 15) (oi := _) (v := ?v15) rfl (by kernel_rfl) (by kernel_rfl) (by kernel_rfl) (fun _ _ _ h => h) (Or.inl ⟨by rfl, ?hy15⟩) (by assumption) ?rest15
      case hy15 => ((intro w hSw; (try dsimp only at hSw); go_simp) <;> with_reducible rfl)
      try simp only [Act.put, List.setIfInBounds_toArray, List.set_cons_zero, List.set_cons_succ]
      refine wpAnyH_take (i := 16) (oi := _) (v := ?v16) rfl (by kernel_rfl) (by kernel_rfl) (by kernel_rfl) (fun _ _ _ h => h) (Or.inl ⟨by rfl, ?hy16⟩) (by assumption) ?rest16
      case hy16 => ((intro w hSw; (try dsimp only at hSw); go_simp) <;> with_reducible rfl)
      try simp only [Act.put, List.setIfInBounds_toArray, List.set_cons_zero, List.set_cons_succ]
      refine wpAnyH_take (i := 17) (oi := _) (v := ?v17) rfl (by kernel_rfl) (by kernel_rfl) (by kernel_rfl) (fun _ _ _ h => h) (Or.inl ⟨by rfl, ?hy17⟩) (by assumption) ?rest17
      case hy17 => ((intro w hSw; (try dsimp only at hSw); go_simp) <;> with_reducible rfl)
      try simp only [Act.put, List.setIfInBounds_toArray, List.set_cons_zero, List.set_cons_succ]
      refine wpAnyH_take (i := 18) (oi := _) (v := ?v18) rfl (by kernel_rfl) (by kernel_rfl) (by kernel_rfl) (fun _ _ _ h => h) (Or.inl ⟨by rfl, ?hy18⟩) (by assumption) ?rest18
      case hy18 => ((intro w hSw; (try dsimp only at hSw); go_simp) <;> with_reducible rfl)
      try simp only [Act.put, List.setIfInBounds_toArray, List.set_cons_zero, List.set_cons_succ]
      refine wpAnyH_ready (rs := [7]) (by kernel_rfl) (by simp) ?_
      refine AllReadyH.cons (o := _) rfl (fun K hK => ?_) AllReadyH.nil
      go_simp
      refine hK.out _ _ ?_ (fun hHeld => ?_)
      · (try dsimp only); (first | assumption | (refine ⟨?_, ?_, ?_⟩ <;> assumption) | exact hst _ _ | go_keep)
      clear hK K
      try simp only [Act.put, List.setIfInBounds_toArray, List.set_cons_zero, List.set_cons_succ]
      refine wpAnyH_ready (rs := [19]) (by kernel_rfl) (by simp) ?_
      refine AllReadyH.cons (o := _) rfl (fun K hK => ?_) AllReadyH.nil
      go_simp
      (go_at_call 65; refine (common_any _ _ _ _ _).mono ?_; rintro e W1 ⟨rfl, hb1⟩; have hb1' : Below (wr.alloc (.cells #[.int .i64 c, .int .i64 p2, .int .i64 p3] 51)).heap.size (wr.alloc (.cells #[.int .i64 c, .int .i64 p2, .int .i64 p3] 51)) W1 := ⟨hb1.os, hb1.tape, hb1.output, hb1.size, hb1.block⟩; have ho1 := own_far hOw.out (fun j hj => hb1'.block j (hOw.out.lt j hj).2); have g4 := (own_spans_at ho1 hss).1; have g5 := (own_spans_at ho1 hss).2; have g6 := ho1.frozenAt (c * 2); have g7 := ho1.frozenAt (c * 2 + 1); rw [Hca.out] at g4 g5; simp only at g4 g5; have hbl := hbs.out.below hb1' (by simp); have g1 := hbl.cell 0; have g2 := hbl.cell 1; have g3 := hbl.cell 2; simp only [List.getElem?_toArray, List.getElem?_cons_zero, List.getElem?_cons_succ] at g1 g2 g3; have hst : ∀ u1 u2, ((W1.setCell ⟨gb, c * 2, none⟩ u1).setCell ⟨gb, c * 2 + 1, none⟩ u2).cell? ⟨wr.heap.size, 0, none⟩ = some (.int .i64 c) ∧ ((W1.setCell ⟨gb, c * 2, none⟩ u1).setCell ⟨gb, c * 2 + 1, none⟩ u2).cell? ⟨wr.heap.size, 1, none⟩ = some (.int .i64 p2) ∧ ((W1.setCell ⟨gb, c * 2, none⟩ u1).setCell ⟨gb, c * 2 + 1, none⟩ u2).cell? ⟨wr.heap.size, 2, none⟩ = some (.int .i64 p3) := fun u1 u2 => ⟨by rw [cell_set_far (by simp; omega), cell_set_far (by simp; omega)]; exact g1, by rw [cell_set_far (by simp; omega), cell_set_far (by simp; omega)]; exact g2, by rw [cell_set_far (by simp; omega), cell_set_far (by simp; omega)]; exact g3⟩; have HO1 := Lib.hid ho1; have Hb1 := Lib.hid hb1'; clear hb1 hb1' ho1 hbl)
      refine hK.out _ _ ?_ (fun hHeld => ?_)
      · (try dsimp only); (first | assumption | (refine ⟨?_, ?_, ?_⟩ <;> assumption) | exact hst _ _ | go_keep)
      clear hK K
      try simp only [Act.put, List.setIfInBounds_toArray, List.set_cons_zero, List.set_cons_succ]
      refine wpAnyH_take (i := 20) (oi := _) (v := ?v21) rfl (by kernel_rfl) (by kernel_rfl) (by kernel_rfl) (fun _ _ _ h => h) (Or.inl ⟨by rfl, ?hy21⟩) (by assumption) ?rest21
      case hy21 => ((intro w hSw; (try dsimp only at hSw); go_simp) <;> with_reducible rfl)
      try simp only [Act.put, List.setIfInBounds_toArray, List.set_cons_zero, List.set_cons_succ]
      refine wpAnyH_ready (rs := [21]) (by kernel_rfl) (by simp) ?_
      refine AllReadyH.cons (o := _) rfl (fun K hK => ?_) AllReadyH.nil
      go_simp
      refine hK.out _ _ ?_ (fun hHeld => ?_)
      · (try dsimp only); (first | assumption | (refine ⟨?_, ?_, ?_⟩ <;> assumption) | exact hst _ _ | go_keep)
      clear hK K
      try simp only [Act.put, List.setIfInBounds_toArray, List.set_cons_zero, List.set_cons_succ]
      refine wpAnyH_done (by kernel_rfl) ?_ _
      refine NoPanic.normal ?_
      have hx1 := (hst (.int .i64 (max a1 (p2 - p3))) (.int .i64 (min a2 (p2 + p3)))).1
      have hWst : Below w2.heap.size w2 ((W1.setCell ⟨gb, c * 2, none⟩ (.int .i64 (max a1 (p2 - p3)))).setCell ⟨gb, c * 2 + 1, none⟩ (.int .i64 (min a2 (p2 + p3)))) := (((HBr.out.alloc (by omega) _).trans (Hb1.out.mono (by simp; omega))).setCell (by exact hgb.1) _).setCell (by exact hgb.1) _
      have hOst : (((W1.setCell ⟨gb, c * 2, none⟩ (.int .i64 (max a1 (p2 - p3)))).setCell ⟨gb, c * 2 + 1, none⟩ (.int .i64 (min a2 (p2 + p3))))).ownsRow w2.heap.size 34 2 (.slice (some ⟨gb, 0, none⟩) a.ss.length cap) a.ss.length (spanCells (cur.set c (max a1 (p2 - p3), min a2 (p2 + p3)))) :=
        own_spans_set HO1.out hss (max a1 (p2 - p3)) (min a2 (p2 + p3))
      have Hsn : Hid (snd1 cur (((c : Nat) : Int), p2, p3) = (max a1 (p2 - p3), min a2 (p2 + p3))) := by
        unfold snd1 com
        rw [Hid, Hcg.out]
      have HWst := Lib.hid hWst
      have HOst := Lib.hid hOst
      clear hWst hOst hst s1 s2
      by_cases he : emptyB (max a1 (p2 - p3), min a2 (p2 + p3)) = true
      · have HE := Lib.hid he
        have Hr : Hid ((((q : Nat) : Int), (14 : Int), zeroG) = measR a l) := by
          rw [Hid, He.out, M1.out (by rw [Hsn.out]; exact he), Nat.zero_add]
        clear he
        go_wp2_with (go_at_call 66; refine (isEmpty_of true HE.out _).mono ?_; rintro e W2 ⟨rfl, hb2⟩; have HW2 := Lib.hid (HWst.out.trans (hb2.mono HWst.out.size)); have hz := zero_parts (HBB2.out.2.below HW2.out (by omega)); have z0 := hz.1.1; have z1 := hz.1.2.1; have z2 := hz.1.2.2.1; have z3 := hz.1.2.2.2; have f0 := hz.2.1; have f1 := hz.2.2.1; have f2 := hz.2.2.2.1; have f3 := hz.2.2.2.2; clear hz hb2)
        refine bodyPost_ret (v := .tuple #[.agg #[.int .i64 0, .int .i64 0, .int .i64 0, .slice none 0 0], .int .i64 q, .int .i64 14]) (by simp [results, Tryz.results31, go_sem, z0, z1, z2, z3, f0, f1, f2, f3]) rfl ?_
        rw [← Hr.out]
        exact ⟨_, rfl, grid_zero _ _, (HB2.out.trans (HW2.out.mono HB2.out.size)).trans (by repeat (first | exact Below.refl _ _ | assumption | refine Below.drew ?_ | refine Below.drewN' ?_ _ | (refine Below.alloc ?_ (by simp <;> omega) _) | (refine Below.setCell ?_ (by simp <;> omega) _))), freshG_zero _⟩
      · have HE := hid_not he
        have Hnx : Hid (meas a.ss (l.take (q + 1)) 0 = .inr (cur.set c (max a1 (p2 - p3), min a2 (p2 + p3)))) := by
          have h := M2.out (by rw [Hsn.out]; exact HE.out)
          rw [Hsn.out] at h
          exact h
        clear he
        go_wp2_with (go_at_call 66; refine (isEmpty_of false HE.out _).mono ?_; rintro e W2 ⟨rfl, hb2⟩; have Hb2 := Lib.hid hb2; clear hb2)
        go_roundw
        case rel => exact ⟨q + 1, _, by omega, by go_num, own_far HOst.out (fun j hj => Hb2.out.block j (HOst.out.lt j hj).2), Hnx.out, HWst.out.trans (Hb2.out.mono HWst.out.size)⟩
        case measure => simp [intOf]; omega
    · have Hr : Hid (((0 : Int), (0 : Int), (⟨a.W, a.H, a.S, cur⟩ : G)) = measR a l) := by
        have h := Hme.out
        rw [List.take_of_length_le (by omega)] at h
        rw [Hid, He.out, h]
      obtain ⟨d0, d1, d2, d3⟩ := grid_parts HBBr.out.1
      clear Hme hcl
      go_wp2_with (go_at_call 67; refine (withGround_any _ _ _ _ _ _ _ _).mono ?_; rintro e W2 ⟨rfl, hb2⟩; have HW2 := Lib.hid (HBr.out.trans (hb2.mono hnr)); have HO2 := Lib.hid (own_far Hown.out (fun j hj => hb2.block j (Hown.out.lt j hj).2)); have hz := zero_parts (HBB2.out.2.below HW2.out (by omega)); have z0 := hz.1.1; have z1 := hz.1.2.1; have z2 := hz.1.2.2.1; have z3 := hz.1.2.2.2; have f0 := hz.2.1; have f1 := hz.2.2.1; have f2 := hz.2.2.2.1; have f3 := hz.2.2.2.2; clear hz hb2)
      refine bodyPost_ret (v := .tuple #[.agg #[.int .i64 a.W, .int .i64 a.H, .int .i64 a.S, .slice (some ⟨gb, 0, none⟩) a.ss.length cap], .int .i64 0, .int .i64 0]) (by simp [results, Tryz.results31, go_sem, z0, z1, z2, z3, f0, f1, f2, f3]) rfl ?_
      rw [← Hr.out]
      refine ⟨_, rfl, ⟨_, rfl, ?_⟩, (HB2.out.trans (HW2.out.mono HB2.out.size)).trans (by repeat (first | exact Below.refl _ _ | assumption | refine Below.drew ?_ | refine Below.drewN' ?_ _ | (refine Below.alloc ?_ (by simp <;> omega) _) | (refine Below.setCell ?_ (by simp <;> omega) _))), freshG_some (by have := hgb.1; have := HB2.out.size; omega) _ _ _ _ _⟩
      have h := Reads.of_own (own_far (w' := ((((W2.setCell ⟨w.heap.size + 1, 0, none⟩ (.int .i64 a.W)).setCell ⟨w.heap.size + 1, 1, none⟩ (.int .i64 a.H)).setCell ⟨w.heap.size + 1, 2, none⟩ (.int .i64 a.S)).setCell ⟨w.heap.size + 1, 3, none⟩ (.slice (some ⟨gb, 0, none⟩) a.ss.length cap))) HO2.out (fun j hj => set4_far (by have := (HO2.out.lt j hj).1; omega) _ _ _ _))
      unfold SpansAt
      rw [Hcl.out]
      exact h
theorem Measure_any (x y : Value) (a : G) (l : List Snd) (w : World) (hx : GridAt w w.heap.size x a) (hy : SndsAt w w.heap.size y l) :
    Calls Tryz.prog 31 #[x, y] w (NarrowOut (measR a l) w) :=
  (Measure_fresh x y a l w hx hy).mono fun _ _ ⟨x, h1, h2, h3, _⟩ => ⟨x, h1, h2, h3⟩
end Go.Proofs.YthcenmocnphnmaaGreatDoor
