/- An evaluator of closed Go code, part 20: regions that draw their order; code. -/
import Derived.Test.YtbghajfpjjfjcaaEvU
set_option linter.unusedSimpArgs false
set_option linter.unusedVariables false
namespace Go.Ev
open Go Go.RowKit
variable [Rho]

omit [Rho] in
theorem visL_mem (s : St) (n : Nat) : ∀ (l : List Nat) (x : Nat), x ∈ visL s n l → x < n ∧ s.sees x = true
  | [], x, h => by cases h
  | y :: l, x, h => by
    simp only [visL] at h
    cases h1 : Nat.blt y n with
    | false => rw [h1] at h; exact visL_mem s n l x h
    | true =>
      cases h2 : s.sees y with
      | false => rw [h1, h2] at h; exact visL_mem s n l x h
      | true =>
        rw [h1, h2] at h
        simp only [cond_true, List.mem_cons] at h
        rcases h with rfl | h
        · exact ⟨Nat.le_of_ble_eq_true h1, h2⟩
        · exact visL_mem s n l x h

omit [Rho] in
theorem orWr_ok {β : Type} (thr : Nat) : ∀ (xs l : List Nat) (k : List Nat → Option β) (r : β), orWr thr xs l k = some r → ∃ l', k l' = some r ∧ ∀ id, id ∈ l' ↔ id ∈ l ∨ (id ∈ xs ∧ id < thr)
  | [], l, k, r, h => ⟨l, h, fun id => by simp⟩
  | x :: xs, l, k, r, h => by
    simp only [orWr] at h
    cases h1 : Nat.blt x thr with
    | false =>
      rw [h1] at h
      obtain ⟨l', a, b⟩ := orWr_ok thr xs l k r h
      have hx : ¬ x < thr := fun q => by have := Nat.ble_eq_true_of_le q; rw [Nat.blt, this] at h1; cases h1
      refine ⟨l', a, fun id => ?_⟩
      rw [b id]
      constructor
      · rintro (q | ⟨q1, q2⟩)
        · exact .inl q
        · exact .inr ⟨List.mem_cons_of_mem _ q1, q2⟩
      · rintro (q | ⟨q1, q2⟩)
        · exact .inl q
        · rcases List.mem_cons.1 q1 with rfl | q1
          · exact absurd q2 hx
          · exact .inr ⟨q1, q2⟩
    | true =>
      have hx : x < thr := Nat.le_of_ble_eq_true h1
      rw [h1, cond_true] at h
      cases h2 : memN x l with
      | true =>
        rw [h2, cond_true] at h
        have hm := (memN_iff x l).1 h2
        obtain ⟨l', a, b⟩ := orWr_ok thr xs l k r h
        refine ⟨l', a, fun id => ?_⟩
        rw [b id]
        constructor
        · rintro (q | ⟨q1, q2⟩)
          · exact .inl q
          · exact .inr ⟨List.mem_cons_of_mem _ q1, q2⟩
        · rintro (q | ⟨q1, q2⟩)
          · exact .inl q
          · rcases List.mem_cons.1 q1 with rfl | q1
            · exact .inl hm
            · exact .inr ⟨q1, q2⟩
      | false =>
        rw [h2, cond_false] at h
        obtain ⟨l', a, b⟩ := orWr_ok thr xs (x :: l) k r h
        refine ⟨l', a, fun id => ?_⟩
        rw [b id, List.mem_cons]
        constructor
        · rintro ((rfl | q) | ⟨q1, q2⟩)
          · exact .inr ⟨List.mem_cons_self, hx⟩
          · exact .inl q
          · exact .inr ⟨List.mem_cons_of_mem _ q1, q2⟩
        · rintro (q | ⟨q1, q2⟩)
          · exact .inl (.inr q)
          · rcases List.mem_cons.1 q1 with rfl | q1
            · exact .inl (.inl rfl)
            · exact .inr ⟨q1, q2⟩

omit [Rho] in
theorem clashes_ok (ms : List Nat) (y : Rec) : ∀ (acc : List Rec), clashes ms y acc = false → ∀ x ∈ acc, pairOk ms x y
  | [], _, x, hx => by cases hx
  | z :: acc, h, x, hx => by
    simp only [clashes] at h
    cases h1 : (ms.getD y.i 0).testBit z.i with
    | true =>
      rw [h1, cond_true] at h
      rcases List.mem_cons.1 hx with rfl | hx
      · exact .inl h1
      · exact clashes_ok ms y acc h x hx
    | false =>
      rw [h1, cond_false] at h
      cases h2 : clash z y with
      | true => rw [h2, cond_true] at h; cases h
      | false =>
        rw [h2, cond_false] at h
        rcases List.mem_cons.1 hx with rfl | hx
        · exact .inr h2
        · exact clashes_ok ms y acc h x hx

omit [Rho] in
theorem drop_cons {all : Array Oper} {i : Nat} {o : Oper} {os : List Oper} (hi : all.toList.drop i = o :: os) : all[i]? = some o ∧ all.toList.drop (i + 1) = os ∧ i < all.size := by
  have hlt : i < all.toList.length := by
    rcases Nat.lt_or_ge i all.toList.length with q | q
    · exact q
    · rw [List.drop_eq_nil_of_le q] at hi; cases hi
  rw [List.drop_eq_getElem_cons hlt] at hi
  injection hi with h1 h2
  refine ⟨?_, h2, by simpa using hlt⟩
  have : all.toList[i]? = some o := by rw [List.getElem?_eq_getElem hlt, h1]
  simpa using this

/-- a trace with one row ahead -/
def trCons (i : Nat) (row : Row) (tr : Nat → Row) : Nat → Row := fun m => if m = i then row else tr m

section
variable {β : Type} {P : Program} {ih : Task β → Option β} (hih : ∀ t r, ih t = some r → TOk P t r)
include hih

theorem drawT_ok {all : Array Oper} {ms : List Nat} {i : Nat} {ro : Option Nat} {acc : List Rec} {fr : Fr} {s : St} {k : Fr → St → Option β} {rest : List Oper} {r : β} (h : drawT ih all ms i ro acc fr s k rest = some r) (hw : s.Wf) :
    TOk P (.draw all ms i rest ro acc fr s k) r := by
  intro _ hdrop hile
  unfold drawT at h
  split at h
  · -- the end
    have hie : i = all.size := by
      have := List.drop_eq_nil_iff.1 hdrop
      simp at this; omega
    subst hie
    exact ⟨fun _ => ⟨fr, s, [], [], false⟩, rfl, rfl, h, fun m a b => by omega, fun m a b => by omega, fun a b c d => by omega⟩
  · rename_i o os
    obtain ⟨ho, hdrop', hi⟩ := drop_cons hdrop
    split at h
    · -- it is carried out
      rename_i hwant
      obtain ⟨hp, nx, wr, thr, allow⟩ := s
      simp only [forceNL_eq] at h
      obtain ⟨T', hk0, hTn, hTd, hT'⟩ := maskK_ok fr.T _ _ _ _ h
      have hw1 : St.Wf ⟨hp, nx, [], nx, visL ⟨hp, nx, wr, thr, allow⟩ nx (touches ⟨hp, nx, wr, thr, allow⟩ fr o)⟩ := ⟨Nat.le_refl _, fun id hid => hw.fresh id hid⟩
      obtain ⟨v, s2, hk1, hraw, hok⟩ := hih _ _ hk0 hw1
      obtain ⟨hp2, nx2, wr2, thr2, allow2⟩ := s2
      unfold drawK at hk1
      simp only at hk1
      cases hcl : clashes ms ⟨i, visL ⟨hp, nx, wr, thr, allow⟩ nx (touches ⟨hp, nx, wr, thr, allow⟩ fr o), wr2, nx, nx2⟩ acc with
      | true => rw [hcl, cond_true] at hk1; cases hk1
      | false =>
      rw [hcl, cond_false] at hk1
      obtain ⟨wr3, hk2, hwr3⟩ := orWr_ok thr wr2 wr _ r hk1
      obtain ⟨fr1, hk3, hput⟩ := putT_ok hk2
      simp only [forceNat_eq] at hk3
      have hnx : nx ≤ nx2 := hraw.next
      have hw2 : St.Wf ⟨hp2, nx2, wr3, thr, allow⟩ := ⟨by have : thr ≤ nx := hw.thr; show thr ≤ nx2; omega, fun id hid => hraw.wf.fresh id hid⟩
      obtain ⟨tr, t1, t2, t3, t4, t5, t6⟩ := hih _ _ hk3 hw2 hdrop' (by omega)
      let row : Row := ⟨fr, ⟨hp, nx, wr, thr, allow⟩, visL ⟨hp, nx, wr, thr, allow⟩ nx (touches ⟨hp, nx, wr, thr, allow⟩ fr o), wr2, true⟩
      have hrow : trCons i row tr i = row := by simp [trCons]
      have hoth : ∀ m, i < m → trCons i row tr m = tr m := fun m hm => by simp [trCons, show ¬ m = i by omega]
      have hrec : recOf (trCons i row tr) i = ⟨i, visL ⟨hp, nx, wr, thr, allow⟩ nx (touches ⟨hp, nx, wr, thr, allow⟩ fr o), wr2, nx, nx2⟩ := by
        unfold recOf
        rw [hrow, hoth (i + 1) (by omega), t2]
      have hrecm : ∀ m, i < m → recOf (trCons i row tr) m = recOf tr m := fun m hm => by
        unfold recOf
        rw [hoth m hm, hoth (m + 1) (by omega)]
      refine ⟨trCons i row tr, by rw [hrow], by rw [hrow], by rw [hoth all.size hi]; exact t3, fun m hm1 hm2 => ?_, fun m hm1 hm2 hran x hx => ?_, fun a b ha hab hb rana ranb => ?_⟩
      · by_cases hmi : m = i
        · subst hmi
          rw [hrow, hoth (m + 1) (by omega)]
          refine ⟨o, v, ho, ?_, .inr ⟨rfl, hwant, T', ⟨hp2, nx2, wr2, thr2, allow2⟩, hraw, hok, hTn, hTd, ?_, rfl, by rw [t2], by rw [t2], by rw [t2], by rw [t2], by rw [t2]; exact hwr3, fun id hid => visL_mem _ _ _ _ hid⟩⟩
          · rw [t1]; exact hput
          · intro hd t u hu
            rcases hT' hd t u hu with q | q
            · exfalso
              simp only [tget, PT.get_nil] at q
              cases hb : Nat.blt t fr.T.n with
              | true => rw [hb] at q; cases q
              | false => rw [hb] at q; cases q
            · exact q
        · rw [hoth m (by omega), hoth (m + 1) (by omega)]
          exact t4 m (by omega) hm2
      · by_cases hmi : m = i
        · subst hmi
          rw [hrec]
          exact clashes_ok ms _ acc hcl x hx
        · rw [hrecm m (by omega)]
          rw [hoth m (by omega)] at hran
          exact t5 m (by omega) hm2 hran x (List.mem_cons_of_mem _ hx)
      · by_cases hai : a = i
        · subst hai
          rw [hrec, hrecm b hab]
          rw [hoth b hab] at ranb
          exact t5 b (by omega) hb ranb _ List.mem_cons_self
        · rw [hrecm a (by omega), hrecm b (by omega)]
          rw [hoth a (by omega)] at rana
          rw [hoth b (by omega)] at ranb
          exact t6 a b (by omega) hab hb rana ranb
    · -- it is passed over
      rename_i hwant
      obtain ⟨fr1, hk3, hput⟩ := putT_ok h
      simp only [forceNat_eq] at hk3
      obtain ⟨tr, t1, t2, t3, t4, t5, t6⟩ := hih _ _ hk3 hw hdrop' (by omega)
      let row : Row := ⟨fr, s, [], [], false⟩
      have hrow : trCons i row tr i = row := by simp [trCons]
      have hoth : ∀ m, i < m → trCons i row tr m = tr m := fun m hm => by simp [trCons, show ¬ m = i by omega]
      have hrecm : ∀ m, i < m → recOf (trCons i row tr) m = recOf tr m := fun m hm => by
        unfold recOf
        rw [hoth m hm, hoth (m + 1) (by omega)]
      refine ⟨trCons i row tr, by rw [hrow], by rw [hrow], by rw [hoth all.size hi]; exact t3, fun m hm1 hm2 => ?_, fun m hm1 hm2 hran x hx => ?_, fun a b ha hab hb rana ranb => ?_⟩
      · by_cases hmi : m = i
        · subst hmi
          rw [hrow, hoth (m + 1) (by omega)]
          exact ⟨o, undef, ho, by rw [t1]; exact hput, .inl ⟨rfl, hwant, rfl, t2, rfl, rfl⟩⟩
        · rw [hoth m (by omega), hoth (m + 1) (by omega)]
          exact t4 m (by omega) hm2
      · by_cases hmi : m = i
        · subst hmi; rw [hrow] at hran; cases hran
        · rw [hrecm m (by omega)]
          rw [hoth m (by omega)] at hran
          exact t5 m (by omega) hm2 hran x hx
      · by_cases hai : a = i
        · subst hai; rw [hrow] at rana; cases rana
        · rw [hrecm a (by omega), hrecm b (by omega)]
          rw [hoth a (by omega)] at rana
          rw [hoth b (by omega)] at ranb
          exact t6 a b (by omega) hab hb rana ranb
    · cases h
end
end Go.Ev
