/-
  Layer 3: points, opposite directions, greater speeds, on integers.
-/
import Derived.Test.YtdhcdgfpkjdihaaDoorVA3b
set_option linter.unusedSimpArgs false
set_option linter.unusedVariables false
namespace Go.Proofs.YtdhcdgfpkjdihaaDoor.Sg
open Go.RowKit
theorem opp_lt (d : Nat) : oppZ d < 8 := by unfold oppZ; omega
theorem opp_opp {d : Nat} (h : d < 8) : oppZ (oppZ d) = d := by unfold oppZ; omega
theorem setup_opp (g : G) (sea : Int × Int) (m : Mo) (c : Int) {d : Nat} (hd : d < 8) (s : Int × Int) :
 (setupZ g sea m c (oppZ d) s).1 = -(setupZ g sea m c d s).2 ∧ (setupZ g sea m c (oppZ d) s).2 = -(setupZ g sea m c d s).1 := by
 unfold setupZ
 rw [opp_opp hd]
 simp only
 omega
theorem In.self {g : G} {sea : Int × Int} {m : Mo} (hg : ∀ c, (grZ g c).1 ≤ (grZ g c).2) (hs : sea.1 ≤ sea.2) (hm : moE m = 0) : In g g sea sea m m :=
 ⟨rfl, rfl, rfl, fun c => Lie.self (hg c), Lie.self hs, Lie.self (spOk_iff.1 (moE_zero hm).1).1, Lie.self (spOk_iff.1 (moE_zero hm).2).1⟩
theorem sum_zero {f : Int → Int} (l : List Int) (h : ∀ x, f x = 0) : sumZ f l = 0 := by
 induction l with
 | nil => rfl
 | cons a l ih => rw [sumZ_cons, h, ih]; rfl
theorem rise_still (g : G) (sea : Int × Int) (m : Mo) (c : Int) (d : Nat) : riseZ g sea m c d (0, 0) = (0, 0) := by
 unfold riseZ
 rw [sum_zero _ (fun x => by simp [partLo]), sum_zero _ (fun x => by simp [partHi, upQ])]
theorem setup_still (g : G) (sea : Int × Int) (m : Mo) (c : Int) (d : Nat) : setupZ g sea m c d (0, 0) = (0, 0) := by
 unfold setupZ
 rw [rise_still, rise_still]
 rfl
theorem sure_sub {g : G} {sea : Int × Int} (hg : ∀ c, (grZ g c).1 ≤ (grZ g c).2) (hs : sea.1 ≤ sea.2) (x : Int) (h : sureB g sea x = true) : mayB g sea x = true := by
 have h1 := sure_dp h
 have h2 := hg x
 unfold mayB
 unfold dpZ at *
 simp only at *
 exact decide_eq_true (by omega)
theorem tw_len {p q : Int → Bool} (l : List Int) (h : ∀ x, p x = true → q x = true) : (l.takeWhile p).length ≤ (l.takeWhile q).length := by
 induction l with
 | nil => simp
 | cons a l ih =>
  rw [List.takeWhile_cons, List.takeWhile_cons]
  split
  · rename_i h1
    rw [if_pos (h a h1)]
    simpa using ih
  · simp
theorem sure_len {g : G} {sea : Int × Int} (hg : ∀ c, (grZ g c).1 ≤ (grZ g c).2) (hs : sea.1 ≤ sea.2) (c : Int) (d : Nat) : (sureZ g sea c d).length ≤ (mayZ g sea c d).length :=
 tw_len _ (sure_sub hg hs)
/-! Greater speeds. -/
theorem rise_speed {g : G} {sea : Int × Int} {m : Mo} (hg : ∀ c, (grZ g c).1 ≤ (grZ g c).2) (hse : sea.1 ≤ sea.2) (hm : moE m = 0) (hS : 1 ≤ g.S ∧ g.S ≤ 10000) (c : Int) (d : Nat) {s s' : Int × Int} (h0 : 0 ≤ s.1) (h0' : 0 ≤ s.2) (h1 : s.1 ≤ s'.1) (h2 : s.2 ≤ s'.2) :
 (riseZ g sea m c d s).1 ≤ (riseZ g sea m c d s').1 ∧ (riseZ g sea m c d s).2 ≤ (riseZ g sea m c d s').2 := by
 have hd := (spOk_iff.1 (moE_zero hm).1)
 have h3 := n_rng d
 unfold riseZ sureZ mayZ fetchZ
 refine ⟨sum_le _ (fun x _ hx => ⟨hx, ?_⟩) (fun x _ hx => ?_), sum_le _ (fun x _ hx => ⟨hx, ?_⟩) (fun x _ hx => ?_)⟩
 · have g1 := may_dp (sure_sub hg hse x hx)
   have k := num_mono (d := m.d.1) (d' := m.d.1) (s := s.1) (s' := s'.1) (n := nLo d) (n' := nLo d) (S := g.S) (by omega) (by omega) (by omega) (by omega) (by omega) (by omega) (by omega)
   exact quo_mono k.1 k.2 (by omega) (by omega)
 · have g1 := may_dp (sure_sub hg hse x hx)
   have k := num_mono (d := m.d.1) (d' := m.d.1) (s := s'.1) (s' := s'.1) (n := nLo d) (n' := nLo d) (S := g.S) (by omega) (by omega) (by omega) (by omega) (by omega) (by omega) (by omega)
   exact Int.ediv_nonneg k.1 (by omega)
 · have k := num_mono (d := m.d.2) (d' := m.d.2) (s := s.2) (s' := s'.2) (n := nHi d) (n' := nHi d) (S := g.S) (by omega) (by omega) (by omega) (by omega) (by omega) (by omega) (by omega)
   exact up_mono k.1 k.2 (by omega) (by omega)
 · have k := num_mono (d := m.d.2) (d' := m.d.2) (s := s'.2) (s' := s'.2) (n := nHi d) (n' := nHi d) (S := g.S) (by omega) (by omega) (by omega) (by omega) (by omega) (by omega) (by omega)
   exact upQ_nonneg k.1 (by omega)
theorem rise_none {g : G} {sea : Int × Int} {m : Mo} {c : Int} {d : Nat} {s : Int × Int} (hg : ∀ c, (grZ g c).1 ≤ (grZ g c).2) (hse : sea.1 ≤ sea.2) (h : (mayZ g sea c d).length = 0) : riseZ g sea m c d s = (0, 0) := by
 have h1 := sure_len hg hse c d
 have e1 : mayZ g sea c d = [] := List.length_eq_zero_iff.1 h
 have e2 : sureZ g sea c d = [] := List.length_eq_zero_iff.1 (by omega)
 unfold riseZ
 rw [e1, e2]
 rfl
theorem setup_speed {g : G} {sea : Int × Int} {m : Mo} (hg : ∀ c, (grZ g c).1 ≤ (grZ g c).2) (hse : sea.1 ≤ sea.2) (hm : moE m = 0) (hS : 1 ≤ g.S ∧ g.S ≤ 10000) (c : Int) (d : Nat) {s s' : Int × Int} (h0 : 0 ≤ s.1) (h0' : 0 ≤ s.2) (h1 : s.1 ≤ s'.1) (h2 : s.2 ≤ s'.2) (hn : (mayZ g sea c d).length = 0) :
 (setupZ g sea m c d s).1 ≤ (setupZ g sea m c d s').1 ∧ (setupZ g sea m c d s).2 ≤ (setupZ g sea m c d s').2 := by
 have := rise_speed hg hse hm hS c (oppZ d) h0 h0' h1 h2
 unfold setupZ
 rw [rise_none hg hse hn, rise_none hg hse hn]
 simp only
 omega
/-! Points. -/
theorem sum_close {f h : Int → Int} (l : List Int) (k : ∀ x ∈ l, h x ≤ f x + 1) : sumZ h l ≤ sumZ f l + l.length := by
 induction l with
 | nil => simp [sumZ_nil]
 | cons a l ih =>
  have h1 := k a List.mem_cons_self
  have h2 := ih fun x hx => k x (List.mem_cons_of_mem _ hx)
  rw [sumZ_cons, sumZ_cons, List.length_cons]
  omega
theorem rise_pt {g : G} {sea : Int × Int} {m : Mo} {c : Int} {d : Nat} {s : Int × Int} (hg : ∀ c, (grZ g c).1 = (grZ g c).2) (hse : sea.1 = sea.2) (hm : m.d.1 = m.d.2) (hs : s.1 = s.2) (hd : d % 2 = 0) :
 (riseZ g sea m c d s).2 ≤ (riseZ g sea m c d s).1 + (mayZ g sea c d).length := by
 have e : sureZ g sea c d = mayZ g sea c d := by
  unfold sureZ mayZ
  congr 1
  funext x
  unfold sureB mayB dpZ
  rw [hse, hg x]
 have e1 : nLo d = nHi d := by unfold nLo nHi; rw [if_pos hd, if_pos hd]
 unfold riseZ
 rw [e]
 refine sum_close _ fun x hx => ?_
 have h1 := may_dp (mem_tw hx)
 have e2 : (dpZ g sea x).1 = (dpZ g sea x).2 := by unfold dpZ; simp only; rw [hse, hg x]
 unfold partHi partLo
 rw [e2, show max (dpZ g sea x).2 1 = (dpZ g sea x).2 by omega, hm, hs, e1]
 exact up_le_dn (by omega)
theorem setup_pt {g : G} {sea : Int × Int} {m : Mo} {c : Int} {d : Nat} {s : Int × Int} (hg : ∀ c, (grZ g c).1 = (grZ g c).2) (hse : sea.1 = sea.2) (hm : m.d.1 = m.d.2) (hs : s.1 = s.2) (hd : d % 2 = 0) :
 (setupZ g sea m c d s).2 - (setupZ g sea m c d s).1 ≤ (mayZ g sea c d).length + (mayZ g sea c (oppZ d)).length := by
 have h1 := rise_pt (c := c) hg hse hm hs hd
 have h2 := rise_pt (c := c) (d := oppZ d) hg hse hm hs (by unfold oppZ; omega)
 unfold setupZ
 simp only
 omega
theorem dirs_one {d : Nat} (hd : d < 8) : dirsZ (2 ^ d) = [d] := by
 rcases dir_cases hd with rfl | rfl | rfl | rfl | rfl | rfl | rfl | rfl <;> decide +kernel
theorem steady_pt {g : G} {sea : Int × Int} {m : Mo} {c : Int} {d : Nat} {s : Int × Int} {p : Int} (hd8 : d < 8) (hg : ∀ c, (grZ g c).1 = (grZ g c).2) (hse : sea.1 = sea.2) (hm : m.d.1 = m.d.2) (hs : s.1 = s.2) (hd : d % 2 = 0) :
 (steadyZ g sea m c ⟨s, 2 ^ d, (p, p)⟩).2 - (steadyZ g sea m c ⟨s, 2 ^ d, (p, p)⟩).1 ≤ (mayZ g sea c d).length + (mayZ g sea c (oppZ d)).length + 1 := by
 have h1 := setup_pt (c := c) hg hse hm hs hd
 have h2 := up_le_dn (a := 2560 * p) (b := 981) (by omega)
 unfold steadyZ
 simp only [dirs_one hd8, List.map_cons, List.map_nil, hullZ, List.foldl_nil, presZ]
 omega
/-! How great they can be. -/
theorem rise_bd {g : G} {sea : Int × Int} {m : Mo} {c : Int} {d : Nat} {s : Int × Int} (hd : d < 8) (hg : ∀ c, (grZ g c).1 ≤ (grZ g c).2) (hse : sea.1 ≤ sea.2) (hm : moE m = 0) (hs : spOk 0 10000 s = true) (hW : 1 ≤ g.W ∧ g.W ≤ 24) (hH : 1 ≤ g.H ∧ g.H ≤ 24) (hS : 1 ≤ g.S ∧ g.S ≤ 10000) (hc : 0 ≤ c ∧ c < g.W * g.H) :
 (0 ≤ (riseZ g sea m c d s).1 ∧ (riseZ g sea m c d s).1 ≤ 9000000000) ∧ (0 ≤ (riseZ g sea m c d s).2 ∧ (riseZ g sea m c d s).2 ≤ 9000000000) := by
 have hl := len_lt hd hW hH hc
 have l1 := fetch_len (sureB g sea) g c d
 have l2 := fetch_len (mayB g sea) g c d
 have b1 := sum_bd 370600000 (sureZ g sea c d) (f := partLo g sea m d s) fun x hx => part_lo_bd hm hs hS (may_dp (sure_sub hg hse x (mem_tw hx)))
 have b2 := sum_bd 370600000 (mayZ g sea c d) (f := partHi g sea m d s) fun x _ => part_hi_bd hm hs hS
 unfold sureZ at b1
 unfold mayZ at b2
 unfold riseZ sureZ mayZ
 simp only
 omega
theorem setup_bd {g : G} {sea : Int × Int} {m : Mo} {c : Int} {d : Nat} {s : Int × Int} (hd : d < 8) (hg : ∀ c, (grZ g c).1 ≤ (grZ g c).2) (hse : sea.1 ≤ sea.2) (hm : moE m = 0) (hs : spOk 0 10000 s = true) (hW : 1 ≤ g.W ∧ g.W ≤ 24) (hH : 1 ≤ g.H ∧ g.H ≤ 24) (hS : 1 ≤ g.S ∧ g.S ≤ 10000) (hc : 0 ≤ c ∧ c < g.W * g.H) :
 (-9000000000 ≤ (setupZ g sea m c d s).1 ∧ (setupZ g sea m c d s).1 ≤ 9000000000) ∧ (-9000000000 ≤ (setupZ g sea m c d s).2 ∧ (setupZ g sea m c d s).2 ≤ 9000000000) := by
 have h1 := rise_bd (d := d) hd hg hse hm hs hW hH hS hc
 have h2 := rise_bd (d := oppZ d) (opp_lt d) hg hse hm hs hW hH hS hc
 unfold setupZ
 simp only
 omega
theorem pres_bd {p : Int × Int} (h : spOk (-20000) 20000 p = true) : (-60000 ≤ (presZ p).1 ∧ (presZ p).1 ≤ 60000) ∧ (-60000 ≤ (presZ p).2 ∧ (presZ p).2 ≤ 60000) := by
 have := spOk_iff.1 h
 unfold presZ upQ
 simp only
 omega
theorem hull_bd {l : List (Int × Int)} {M : Int} (h0 : 0 ≤ M) (h : ∀ x ∈ l, (-M ≤ x.1 ∧ x.1 ≤ M) ∧ (-M ≤ x.2 ∧ x.2 ≤ M)) : (-M ≤ (hullZ l).1 ∧ (hullZ l).1 ≤ M) ∧ (-M ≤ (hullZ l).2 ∧ (hullZ l).2 ≤ M) := by
 cases l with
 | nil => simp [hullZ]; omega
 | cons a l =>
  have k1 := hull_lo (l := a :: l) (by simp) (M := -M) fun x hx => (h x hx).1.1
  have k2 := hull_hi (l := a :: l) (by simp) (M := M) fun x hx => (h x hx).2.2
  have k3 := hull_mem (l := a :: l) List.mem_cons_self
  have k4 := h a List.mem_cons_self
  omega
theorem steady_bd {g : G} {sea : Int × Int} {m : Mo} {c : Int} {w : Wi} (hg : ∀ c, (grZ g c).1 ≤ (grZ g c).2) (hse : sea.1 ≤ sea.2) (hm : moE m = 0) (hw : wiE w = 0) (hW : 1 ≤ g.W ∧ g.W ≤ 24) (hH : 1 ≤ g.H ∧ g.H ≤ 24) (hS : 1 ≤ g.S ∧ g.S ≤ 10000) (hc : 0 ≤ c ∧ c < g.W * g.H) :
 (-10000000000 ≤ (steadyZ g sea m c w).1 ∧ (steadyZ g sea m c w).1 ≤ 10000000000) ∧ (-10000000000 ≤ (steadyZ g sea m c w).2 ∧ (steadyZ g sea m c w).2 ≤ 10000000000) := by
 have h1 := hull_bd (l := (dirsZ w.n).map fun d => setupZ g sea m c d w.s) (M := 9000000000) (by omega) fun x hx => by
  obtain ⟨d, hd, rfl⟩ := List.mem_map.1 hx
  exact setup_bd (dirs_mem.1 hd).1 hg hse hm (wiE_zero hw).1 hW hH hS hc
 have h2 := pres_bd (wiE_zero hw).2.1
 unfold steadyZ
 simp only
 omega
/-- levels stay where a run may begin -/
def finB (z : Int × Int) : Prop := (-1099511627776 ≤ z.1 ∧ z.1 ≤ 1099511627776) ∧ (-1099511627776 ≤ z.2 ∧ z.2 ≤ 1099511627776)
theorem step_fin {lag z s : Int × Int} (hl : spOk 1 1024 lag = true) (hz : finB z) (hs : finB s) : finB (stepZ lag z s) := by
 have h := step_btw (z := z) (s := s) hl
 unfold btw at h
 simp only [decide_eq_true_iff] at h
 unfold finB at *
 omega
theorem last_fin {lag z : Int × Int} {l : List (Int × Int)} (hl : spOk 1 1024 lag = true) (hz : finB z) (hs : ∀ s ∈ l, finB s) : finB (lastZ lag z l) := by
 induction l generalizing z with
 | nil => exact hz
 | cons s l ih => exact ih (step_fin hl hz (hs s List.mem_cons_self)) fun x hx => hs x (List.mem_cons_of_mem _ hx)
end Go.Proofs.YtdhcdgfpkjdihaaDoor.Sg
