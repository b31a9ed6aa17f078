/-
  Layer 3: the checks of a grid, as layer 1's texts Ga, Gb, Gc have them (by program out of these), for seats that only check grids.
-/
import Derived.Test.YtdhcdgfpkjdihaaDoorRows
import Derived.Test.YtdhcdgfpkjdihaaDoorVLib
set_option linter.unusedSimpArgs false
set_option linter.unusedVariables false
namespace Go.Proofs.YtdhcdgfpkjdihaaDoor
open Go.RowKit
/-! within, Within -/
theorem within_yes (n l g : Int) (w : World) (h1 : l ≤ n) (h2 : n ≤ g) :
 Calls Tryd.prog 119 #[.int .i64 n, .int .i64 l, .int .i64 g] w fun e w' => e = .returned (.bool true) ∧ w = w' := by
 go_enter Tryd.func119, Tryd.ntmps119
 go_wp2
 go_ret
 exact ⟨rfl, rfl⟩
theorem within_no (n l g : Int) (w : World) (h : n < l ∨ g < n) :
 Calls Tryd.prog 119 #[.int .i64 n, .int .i64 l, .int .i64 g] w fun e w' => e = .returned (.bool false) ∧ w = w' := by
 by_cases h1 : n < l
 · go_enter Tryd.func119, Tryd.ntmps119
   go_wp2
   go_ret
   exact ⟨rfl, rfl⟩
 · have h2 : g < n := by omega
   have h3 : l ≤ n := by omega
   clear h
   go_enter Tryd.func119, Tryd.ntmps119
   go_wp2
   go_ret
   exact ⟨ret_bool (by simp; omega), rfl⟩
theorem within_any (n l g : Int) (w : World) :
 Calls Tryd.prog 119 #[.int .i64 n, .int .i64 l, .int .i64 g] w fun e w' => e = .returned (.bool (decide (l ≤ n ∧ n ≤ g))) ∧ w = w' := by
 by_cases h : l ≤ n ∧ n ≤ g
 · exact (within_yes n l g w h.1 h.2).mono fun e w' ⟨a, b⟩ => ⟨by rw [a]; simp [h], b⟩
 · exact (within_no n l g w (by omega)).mono fun e w' ⟨a, b⟩ => ⟨by rw [a]; simp [h], b⟩
theorem rWithin_yes (n l g : Int) (w : World) (h1 : l ≤ n) (h2 : n ≤ g) :
 Calls Tryd.prog 129 #[.int .i64 n, .int .i64 l, .int .i64 g] w fun e w' => e = .returned (.bool true) ∧ w = w' := by
 go_enter Tryd.func129, Tryd.ntmps129
 go_wp2
 go_ret
 exact ⟨rfl, rfl⟩
theorem rWithin_no (n l g : Int) (w : World) (h : n < l ∨ g < n) :
 Calls Tryd.prog 129 #[.int .i64 n, .int .i64 l, .int .i64 g] w fun e w' => e = .returned (.bool false) ∧ w = w' := by
 by_cases h1 : n < l
 · go_enter Tryd.func129, Tryd.ntmps129
   go_wp2
   go_ret
   exact ⟨rfl, rfl⟩
 · have h2 : g < n := by omega
   have h3 : l ≤ n := by omega
   clear h
   go_enter Tryd.func129, Tryd.ntmps129
   go_wp2
   go_ret
   exact ⟨ret_bool (by simp; omega), rfl⟩
theorem rWithin_any (n l g : Int) (w : World) :
 Calls Tryd.prog 129 #[.int .i64 n, .int .i64 l, .int .i64 g] w fun e w' => e = .returned (.bool (decide (l ≤ n ∧ n ≤ g))) ∧ w = w' := by
 by_cases h : l ≤ n ∧ n ≤ g
 · exact (rWithin_yes n l g w h.1 h.2).mono fun e w' ⟨a, b⟩ => ⟨by rw [a]; simp [h], b⟩
 · exact (rWithin_no n l g w (by omega)).mono fun e w' ⟨a, b⟩ => ⟨by rw [a]; simp [h], b⟩
/-! isSpanWithin -/
def okSpan (lim : Int) (s : Int × Int) : Bool := decide (s.1 ≤ s.2 ∧ -lim ≤ s.1 ∧ s.2 ≤ lim)
theorem isSpan_any (lo hi lim : Int) (w : World) (hl : -4611686018427387904 ≤ lim) (hl' : lim ≤ 4611686018427387904) :
 Calls Tryd.prog 120 #[.agg #[.int .i64 lo, .int .i64 hi], .int .i64 lim] w fun e w' => e = .returned (.bool (okSpan lim (lo, hi))) ∧ Below w.heap.size w w' := by
 by_cases h1 : lo ≤ hi
 · by_cases h2 : -lim ≤ lo
   · go_enter Tryd.func120, Tryd.ntmps120
     go_wp2
     go_ret
     exact ⟨ret_bool (by simp [okSpan, h1, h2]), (Below.refl _ _).alloc (Nat.le_refl _) _⟩
   · go_enter Tryd.func120, Tryd.ntmps120
     go_wp2
     go_ret
     exact ⟨ret_bool (by simp [okSpan]; omega), (Below.refl _ _).alloc (Nat.le_refl _) _⟩
 · go_enter Tryd.func120, Tryd.ntmps120
   go_wp2
   go_ret
   exact ⟨ret_bool (by simp [okSpan]; omega), (Below.refl _ _).alloc (Nat.le_refl _) _⟩
theorem isSpan_of {lo hi lim : Int} (b : Bool) (hb : okSpan lim (lo, hi) = b) (w : World) (hl : -4611686018427387904 ≤ lim) (hl' : lim ≤ 4611686018427387904) :
 Calls Tryd.prog 120 #[.agg #[.int .i64 lo, .int .i64 hi], .int .i64 lim] w fun e w' => e = .returned (.bool b) ∧ Below w.heap.size w w' := by
 subst hb
 exact isSpan_any lo hi lim w hl hl'
def rngG (g : G) : Bool := decide (1 ≤ g.W ∧ g.W ≤ 24 ∧ 1 ≤ g.H ∧ g.H ≤ 24 ∧ 1 ≤ g.S ∧ g.S ≤ 10000)
def checkE (g : G) : Int := if rngG g then (if (g.ss.length : Int) = g.W * g.H then (if g.ss.all (okSpan 1200000) then 0 else 3) else 11) else 3
theorem mul_rng {a b : Int} (h1 : 1 ≤ a) (h2 : a ≤ 24) (h3 : 1 ≤ b) (h4 : b ≤ 24) : 1 ≤ a * b ∧ a * b ≤ 576 := by
 have : a * b ≤ 24 * 24 := Int.le_trans (Int.mul_le_mul_of_nonneg_right h2 (by omega)) (Int.mul_le_mul_of_nonneg_left h4 (by omega))
 have h5 : 1 * 1 ≤ a * b := Int.le_trans (Int.mul_le_mul_of_nonneg_right h1 (by omega)) (Int.mul_le_mul_of_nonneg_left h3 (by omega))
 omega
theorem all_snoc {α : Type} (p : α → Bool) (l : List α) (k : Nat) (h : k < l.length) (ht : (l.take k).all p = true) (hp : p l[k] = true) : (l.take (k + 1)).all p = true := by
 rw [take_snoc l k h, List.all_append, ht]; simp [hp]
theorem all_false {α : Type} (p : α → Bool) (l : List α) (k : Nat) (h : k < l.length) (hp : p l[k] = false) : l.all p = false := by
 rw [List.all_eq_false]; exact ⟨l[k], List.getElem_mem h, by simp [hp]⟩
set_option maxHeartbeats 1000000 in
theorem check_any (x : Value) (g : G) (w : World) (hg : GridAt w w.heap.size x g) :
 Calls Tryd.prog 89 #[x] w fun e w' => e = .returned (.int .i64 (checkE g)) ∧ Below w.heap.size w w' := by
 obtain ⟨v, rfl, hs⟩ := hg
 obtain ⟨A, c, rfl, hc, hm⟩ := hs.open_
 obtain ⟨W, H, S, ss⟩ := g
 simp only at hs hc hm ⊢
 by_cases hW : 1 ≤ W ∧ W ≤ 24
 case neg =>
  have he : checkE ⟨W, H, S, ss⟩ = 3 := by simp only [checkE, rngG]; rw [if_neg (by simp; omega)]
  rw [he]; clear he
  go_enter Tryd.func89, Tryd.ntmps89
  go_wp2_with (go_at_call 119; refine (within_no _ _ _ _ (by omega)).mono ?_; rintro e w' ⟨rfl, rfl⟩)
  go_ret
  exact ⟨rfl, (by repeat (first | exact Below.refl _ _ | assumption | refine Below.drew ?_ | refine Below.drewN' ?_ _ | (refine Below.alloc ?_ (by simp <;> omega) _) | (refine Below.setCell ?_ (by simp <;> omega) _)))⟩
 obtain ⟨hW1, hW2⟩ := hW
 by_cases hH : 1 ≤ H ∧ H ≤ 24
 case neg =>
  have he : checkE ⟨W, H, S, ss⟩ = 3 := by simp only [checkE, rngG]; rw [if_neg (by simp; omega)]
  rw [he]; clear he
  go_enter Tryd.func89, Tryd.ntmps89
  go_wp2_with (go_at_call 119; first | (refine (within_yes _ _ _ _ (by omega) (by omega)).mono ?_; rintro e w' ⟨rfl, rfl⟩) | (refine (within_no _ _ _ _ (by omega)).mono ?_; rintro e w' ⟨rfl, rfl⟩))
  go_ret
  exact ⟨rfl, (by repeat (first | exact Below.refl _ _ | assumption | refine Below.drew ?_ | refine Below.drewN' ?_ _ | (refine Below.alloc ?_ (by simp <;> omega) _) | (refine Below.setCell ?_ (by simp <;> omega) _)))⟩
 obtain ⟨hH1, hH2⟩ := hH
 by_cases hS : 1 ≤ S ∧ S ≤ 10000
 case neg =>
  have he : checkE ⟨W, H, S, ss⟩ = 3 := by simp only [checkE, rngG]; rw [if_neg (by simp; omega)]
  rw [he]; clear he
  go_enter Tryd.func89, Tryd.ntmps89
  go_wp2_with (go_at_call 119; first | (refine (within_yes _ _ _ _ (by omega) (by omega)).mono ?_; rintro e w' ⟨rfl, rfl⟩) | (refine (within_no _ _ _ _ (by omega)).mono ?_; rintro e w' ⟨rfl, rfl⟩))
  go_ret
  exact ⟨rfl, (by repeat (first | exact Below.refl _ _ | assumption | refine Below.drew ?_ | refine Below.drewN' ?_ _ | (refine Below.alloc ?_ (by simp <;> omega) _) | (refine Below.setCell ?_ (by simp <;> omega) _)))⟩
 obtain ⟨hS1, hS2⟩ := hS
 have hrng : rngG ⟨W, H, S, ss⟩ = true := by simp [rngG]; omega
 obtain ⟨hm1, hm2⟩ := mul_rng hW1 hW2 hH1 hH2
 by_cases hl : (ss.length : Int) = W * H
 case neg =>
  have he : checkE ⟨W, H, S, ss⟩ = 11 := by simp only [checkE, hrng, if_true]; rw [if_neg hl]
  rw [he]; clear he
  have hne : ((ss.length : Int) != W * H) = true := by simpa using hl
  clear hl hrng
  go_enter Tryd.func89, Tryd.ntmps89
  go_wp2_with (go_at_call 119; refine (within_yes _ _ _ _ (by omega) (by omega)).mono ?_; rintro e w' ⟨rfl, rfl⟩)
  go_ret
  exact ⟨rfl, (by repeat (first | exact Below.refl _ _ | assumption | refine Below.drew ?_ | refine Below.drewN' ?_ _ | (refine Below.alloc ?_ (by simp <;> omega) _) | (refine Below.setCell ?_ (by simp <;> omega) _)))⟩
 have he : checkE ⟨W, H, S, ss⟩ = if ss.all (okSpan 1200000) then 0 else 3 := by simp only [checkE, hrng, if_true]; rw [if_pos hl]
 have He := Lib.hid he
 clear he
 have hne : ((ss.length : Int) != W * H) = false := by simpa using hl
 clear hl hrng
 go_enter Tryd.func89, Tryd.ntmps89
 go_wp2_with (go_at_call 119; refine (within_yes _ _ _ _ (by omega) (by omega)).mono ?_; rintro e w' ⟨rfl, rfl⟩)
 go_loopw [33] (fun i wr => ∃ k : Nat, k ≤ ss.length ∧ i = .int .i64 k ∧ (ss.take k).all (okSpan 1200000) = true ∧ Below w.heap.size w wr) (fun i _ => ss.length - (intOf i).toNat)
 case atStart => exact ⟨0, Nat.zero_le _, rfl, by simp, (by repeat (first | exact Below.refl _ _ | assumption | refine Below.drew ?_ | refine Below.drewN' ?_ _ | (refine Below.alloc ?_ (by simp <;> omega) _) | (refine Below.setCell ?_ (by simp <;> omega) _)))⟩
 case round =>
  obtain ⟨k, hk, rfl, hall, hBr⟩ := hrel
  have Hall := Lib.hid hall
  clear hall
  by_cases hlt : k < ss.length
  · obtain ⟨b, off, rfl, hb, c1, c2⟩ := (hs.below hBr).at_ hlt
    generalize hq : ss[k] = q at *
    obtain ⟨lo, hi⟩ := q
    have Hq := Lib.hid hq
    clear hq
    simp only at c1 c2
    by_cases hok : okSpan 1200000 (lo, hi) = true
    · have Hok := Lib.hid hok
      clear hok
      go_wp2_with (go_at_call 120; refine (isSpan_of true Hok.out _ (by omega) (by omega)).mono ?_; rintro e w1 ⟨rfl, hb1⟩)
      have hB1 : Below w.heap.size w w1 := (hBr.alloc hBr.size _).trans (hb1.mono (by simp; have := hBr.size; omega))
      go_roundw
      case rel => exact ⟨k + 1, by omega, by go_num, all_snoc _ _ _ hlt Hall.out (by rw [Hq.out]; exact Hok.out), hB1⟩
      case measure => simp [intOf]; omega
    · have Hok : Hid (okSpan 1200000 (lo, hi) = false) := by simpa [Hid] using hok
      clear hok
      have Hf := Lib.hid (all_false (okSpan 1200000) ss k hlt (by rw [Hq.out]; exact Hok.out))
      go_wp2_with (go_at_call 120; refine (isSpan_of false Hok.out _ (by omega) (by omega)).mono ?_; rintro e w1 ⟨rfl, hb1⟩)
      have hB1 : Below w.heap.size w w1 := (hBr.alloc hBr.size _).trans (hb1.mono (by simp; have := hBr.size; omega))
      go_ret
      exact ⟨ret_int (by rw [He.out, Hf.out]; rfl), hB1⟩
  · have hk' : k = ss.length := by omega
    have Hf : Hid (ss.all (okSpan 1200000) = true) := by
     have := Hall.out
     rw [hk', List.take_length] at this
     exact this
    clear hk'
    go_wp2
    go_ret
    exact ⟨ret_int (by rw [He.out, Hf.out]; rfl), hBr⟩
set_option maxHeartbeats 1000000 in
theorem rCheck_any (x : Value) (g : G) (w : World) (hg : GridAt w w.heap.size x g) :
 Calls Tryd.prog 98 #[x] w fun e w' => e = .returned (.int .i64 (checkE g)) ∧ Below w.heap.size w w' := by
 obtain ⟨v, rfl, hs⟩ := hg
 obtain ⟨A, c, rfl, hc, hm⟩ := hs.open_
 obtain ⟨W, H, S, ss⟩ := g
 simp only at hs hc hm ⊢
 by_cases hW : 1 ≤ W ∧ W ≤ 24
 case neg =>
  have he : checkE ⟨W, H, S, ss⟩ = 3 := by simp only [checkE, rngG]; rw [if_neg (by simp; omega)]
  rw [he]; clear he
  go_enter Tryd.func98, Tryd.ntmps98
  go_wp2_with (go_at_call 129; refine (rWithin_no _ _ _ _ (by omega)).mono ?_; rintro e w' ⟨rfl, rfl⟩)
  go_ret
  exact ⟨rfl, (by repeat (first | exact Below.refl _ _ | assumption | refine Below.drew ?_ | refine Below.drewN' ?_ _ | (refine Below.alloc ?_ (by simp <;> omega) _) | (refine Below.setCell ?_ (by simp <;> omega) _)))⟩
 obtain ⟨hW1, hW2⟩ := hW
 by_cases hH : 1 ≤ H ∧ H ≤ 24
 case neg =>
  have he : checkE ⟨W, H, S, ss⟩ = 3 := by simp only [checkE, rngG]; rw [if_neg (by simp; omega)]
  rw [he]; clear he
  go_enter Tryd.func98, Tryd.ntmps98
  go_wp2_with (go_at_call 129; first | (refine (rWithin_yes _ _ _ _ (by omega) (by omega)).mono ?_; rintro e w' ⟨rfl, rfl⟩) | (refine (rWithin_no _ _ _ _ (by omega)).mono ?_; rintro e w' ⟨rfl, rfl⟩))
  go_ret
  exact ⟨rfl, (by repeat (first | exact Below.refl _ _ | assumption | refine Below.drew ?_ | refine Below.drewN' ?_ _ | (refine Below.alloc ?_ (by simp <;> omega) _) | (refine Below.setCell ?_ (by simp <;> omega) _)))⟩
 obtain ⟨hH1, hH2⟩ := hH
 by_cases hS : 1 ≤ S ∧ S ≤ 10000
 case neg =>
  have he : checkE ⟨W, H, S, ss⟩ = 3 := by simp only [checkE, rngG]; rw [if_neg (by simp; omega)]
  rw [he]; clear he
  go_enter Tryd.func98, Tryd.ntmps98
  go_wp2_with (go_at_call 129; first | (refine (rWithin_yes _ _ _ _ (by omega) (by omega)).mono ?_; rintro e w' ⟨rfl, rfl⟩) | (refine (rWithin_no _ _ _ _ (by omega)).mono ?_; rintro e w' ⟨rfl, rfl⟩))
  go_ret
  exact ⟨rfl, (by repeat (first | exact Below.refl _ _ | assumption | refine Below.drew ?_ | refine Below.drewN' ?_ _ | (refine Below.alloc ?_ (by simp <;> omega) _) | (refine Below.setCell ?_ (by simp <;> omega) _)))⟩
 obtain ⟨hS1, hS2⟩ := hS
 have hrng : rngG ⟨W, H, S, ss⟩ = true := by simp [rngG]; omega
 obtain ⟨hm1, hm2⟩ := mul_rng hW1 hW2 hH1 hH2
 by_cases hl : (ss.length : Int) = W * H
 case neg =>
  have he : checkE ⟨W, H, S, ss⟩ = 11 := by simp only [checkE, hrng, if_true]; rw [if_neg hl]
  rw [he]; clear he
  have hne : ((ss.length : Int) != W * H) = true := by simpa using hl
  clear hl hrng
  go_enter Tryd.func98, Tryd.ntmps98
  go_wp2_with (go_at_call 129; refine (rWithin_yes _ _ _ _ (by omega) (by omega)).mono ?_; rintro e w' ⟨rfl, rfl⟩)
  go_ret
  exact ⟨rfl, (by repeat (first | exact Below.refl _ _ | assumption | refine Below.drew ?_ | refine Below.drewN' ?_ _ | (refine Below.alloc ?_ (by simp <;> omega) _) | (refine Below.setCell ?_ (by simp <;> omega) _)))⟩
 have he : checkE ⟨W, H, S, ss⟩ = if ss.all (okSpan 1200000) then 0 else 3 := by simp only [checkE, hrng, if_true]; rw [if_pos hl]
 have He := Lib.hid he
 clear he
 have hne : ((ss.length : Int) != W * H) = false := by simpa using hl
 clear hl hrng
 have hbs : ∀ wr : World, Below (w.heap.size + 1) (w.alloc (.cells #[.int .i64 W, .int .i64 H, .int .i64 S, .slice A ss.length c] 24)) wr → wr.cell? ⟨w.heap.size, 3, none⟩ = some (.slice A ss.length c) := by
  intro wr h
  rw [h.cell (p := ⟨w.heap.size, 3, none⟩) (by simp)]
  simp
 have Hbs := Lib.hid hbs
 clear hbs
 go_enter Tryd.func98, Tryd.ntmps98
 go_wp2_with (go_at_call 129; refine (rWithin_yes _ _ _ _ (by omega) (by omega)).mono ?_; rintro e w' ⟨rfl, rfl⟩)
 go_loopw [3] (fun i wr => ∃ k : Nat, k ≤ ss.length ∧ i = .int .i64 k ∧ (ss.take k).all (okSpan 1200000) = true ∧ Below (w.heap.size + 1) (w.alloc (.cells #[.int .i64 W, .int .i64 H, .int .i64 S, .slice A ss.length c] 24)) wr) (fun i _ => ss.length - (intOf i).toNat)
 case atStart => exact ⟨0, Nat.zero_le _, rfl, by simp, Below.refl _ _⟩
 case round =>
  obtain ⟨k, hk, rfl, hall, hB0⟩ := hrel
  have hcs := Hbs.out _ hB0
  have hsz := hB0.size
  simp only [World.size_alloc] at hsz
  have hBr : Below w.heap.size w wr := ((Below.refl _ w).alloc (Nat.le_refl _) _).trans (hB0.mono (by omega))
  have Hall := Lib.hid hall
  clear hall
  by_cases hlt : k < ss.length
  · obtain ⟨b, off, rfl, hb, c1, c2⟩ := (hs.below hBr).at_ hlt
    generalize hq : ss[k] = q at *
    obtain ⟨lo, hi⟩ := q
    have Hq := Lib.hid hq
    clear hq
    simp only at c1 c2
    have HB0 := Lib.hid hB0
    clear hB0 Hbs
    by_cases h1 : lo ≤ hi
    · by_cases h2 : -1200000 ≤ lo
      · by_cases h3 : hi ≤ 1200000
        · have Hok : Hid (okSpan 1200000 (lo, hi) = true) := by simp [Hid, okSpan]; omega
          go_wp2
          go_roundw
          case rel => exact ⟨k + 1, by omega, by go_num, all_snoc _ _ _ hlt Hall.out (by rw [Hq.out]; exact Hok.out), HB0.out.alloc (by omega) _⟩
          case measure => simp [intOf]; omega
        · have Hok : okSpan 1200000 (lo, hi) = false := by simp [okSpan]; omega
          have Hf := Lib.hid (all_false (okSpan 1200000) ss k hlt (by rw [Hq.out]; exact Hok))
          clear Hok
          go_wp2
          go_ret
          exact ⟨ret_int (by rw [He.out, Hf.out]; rfl), hBr.alloc (by omega) _⟩
      · have Hok : okSpan 1200000 (lo, hi) = false := by simp [okSpan]; omega
        have Hf := Lib.hid (all_false (okSpan 1200000) ss k hlt (by rw [Hq.out]; exact Hok))
        clear Hok
        go_wp2
        go_ret
        exact ⟨ret_int (by rw [He.out, Hf.out]; rfl), hBr.alloc (by omega) _⟩
    · have Hok : okSpan 1200000 (lo, hi) = false := by simp [okSpan]; omega
      have Hf := Lib.hid (all_false (okSpan 1200000) ss k hlt (by rw [Hq.out]; exact Hok))
      clear Hok
      go_wp2
      go_ret
      exact ⟨ret_int (by rw [He.out, Hf.out]; rfl), hBr.alloc (by omega) _⟩
  · have hk' : k = ss.length := by omega
    have Hf : Hid (ss.all (okSpan 1200000) = true) := by
     have := Hall.out
     rw [hk', List.take_length] at this
     exact this
    clear hk'
    go_wp2
    go_ret
    exact ⟨ret_int (by rw [He.out, Hf.out]; rfl), hBr⟩
end Go.Proofs.YtdhcdgfpkjdihaaDoor
