/-
  Layer 3, the reference: Exceeds.
-/
import Derived.Test.YtdhcdgfpkjdihaaDoorYP3p
set_option linter.unusedSimpArgs false
set_option linter.unusedVariables false
namespace Go.Proofs.YtdhcdgfpkjdihaaDoor.Sg
open Go.RowKit
def shZ (k : Nat) (z : Int) : Int := if z = -1 then -1 else k + z
theorem findZ_cons (p : Int × Int → Bool) (x : Int × Int) (m : List (Int × Int)) : findZ p (x :: m) = if p x = true then 0 else shZ 1 (findZ p m) := by
 unfold findZ shZ
 rw [List.findIdx?_cons]
 by_cases h : p x = true
 · simp [h]
 · simp only [h]
   cases e : m.findIdx? p with
   | none => simp
   | some k => simp; omega
def fromZ (p : Int × Int → Bool) (l : List (Int × Int)) (k : Nat) : Int := shZ k (findZ p (l.drop k))
theorem fromZ_step (p : Int × Int → Bool) (l : List (Int × Int)) (q : Nat) (h : q < l.length) : fromZ p l q = if p l[q] = true then (q : Int) else fromZ p l (q + 1) := by
 unfold fromZ
 rw [List.drop_eq_getElem_cons h, findZ_cons]
 have := (findZ_rng p (l.drop (q + 1))).1
 split
 · simp [shZ]
 · unfold shZ
   split
   · simp
   · split <;> omega
theorem fromZ_zero (p : Int × Int → Bool) (l : List (Int × Int)) : fromZ p l 0 = findZ p l := by
 unfold fromZ shZ
 rw [List.drop_zero]
 split
 · omega
 · simp
theorem fromZ_end (p : Int × Int → Bool) (l : List (Int × Int)) : fromZ p l l.length = -1 := by
 unfold fromZ
 rw [List.drop_length]
 rfl
set_option maxRecDepth 100000 in
set_option maxHeartbeats 2000000 in
theorem rExceeds_any (v : Value) (l : List (Int × Int)) (n : Int) (w : World) (hs : SpansAt w w.heap.size v l) (hl : l.length ≤ 1000) :
 Calls Tryd.prog 38 #[v, .int .i64 n] w fun e w' => e = .returned (.tuple #[.int .i64 (excA l n), .int .i64 (excB l n), .int .i64 (excE l)]) ∧ Below w.heap.size w w' := by
 have HS := Lib.hid hs
 obtain ⟨A, c, rfl, hc, hm⟩ := hs.open_
 clear hs
 obtain ⟨ra, hra⟩ : ∃ z, excA l n = z := ⟨_, rfl⟩
 obtain ⟨rb, hrb⟩ : ∃ z, excB l n = z := ⟨_, rfl⟩
 obtain ⟨re, hre⟩ : ∃ z, excE l = z := ⟨_, rfl⟩
 rw [hra, hrb, hre]
 have HRA := Lib.hid hra
 have HRB := Lib.hid hrb
 have HRE := Lib.hid hre
 have HFE := Lib.hid (And.intro (fromZ_end (hiS n) l) (fromZ_end (loS n) l))
 have HD0 : Hid ((l.drop l.length).any emptyS = false) := by unfold Hid; rw [List.drop_length]; rfl
 clear hra hrb hre
 have hw0 : IntKind.i64.wrap ((l.length : Int) - 1) = (l.length : Int) - 1 := IntWalk.i64_in _ (by omega)
 go_enter Tryd.func38, Tryd.ntmps38
 go_wp2
 go_loopw [7, 8, 9] (fun a b i wr => ∃ k : Nat, k ≤ l.length ∧ i = .int .i64 ((k : Int) - 1) ∧ a = .int .i64 (fromZ (hiS n) l k) ∧ b = .int .i64 (fromZ (loS n) l k) ∧ Hid ((l.drop k).any emptyS = false) ∧ Below w.heap.size w wr) (fun _ _ i _ => (intOf i + 1).toNat)
 case atStart => exact ⟨l.length, Nat.le_refl _, rfl, by rw [HFE.out.1], by rw [HFE.out.2], HD0, Below.refl _ _⟩
 case round =>
  obtain ⟨k, hk, rfl, rfl, rfl, Hany, hBr⟩ := hrel
  have HBr := Lib.hid hBr
  cases k with
  | zero =>
   have e1 := fromZ_zero (hiS n) l
   have e2 := fromZ_zero (loS n) l
   have ha := Hany.out
   rw [List.drop_zero] at ha
   have k1 : re = 0 := by rw [← HRE.out]; unfold excE; rw [ha]; rfl
   obtain ⟨i, hi⟩ : ∃ z, findZ (hiS n) l = z := ⟨_, rfl⟩
   obtain ⟨j, hj⟩ : ∃ z, findZ (loS n) l = z := ⟨_, rfl⟩
   have k2 : ra = i := by rw [← HRA.out]; unfold excA; rw [ha]; exact hi
   have k3 : rb = j := by rw [← HRB.out]; unfold excB; rw [ha]; exact hj
   rw [hi] at e1
   rw [hj] at e2
   rw [e1, e2]
   subst k1 k2 k3
   have he : ((0 : Nat) : Int) - 1 = -1 := rfl
   rw [he]
   clear hBr e1 e2 ha he hi hj HRA HRB HRE HFE
   go_wp2
   refine bodyPost_ret (v := .tuple #[.int .i64 ra, .int .i64 rb, .int .i64 0]) (by simp [results, Tryd.results38, go_sem]) rfl ⟨rfl, HBr.out⟩
  | succ q =>
   have hq : q < l.length := by omega
   have he : ((q + 1 : Nat) : Int) - 1 = (q : Int) := by omega
   rw [he]
   obtain ⟨b0, off, rfl, hb, c1, c2⟩ := (HS.out.below hBr).at_ hq
   have s1 := fromZ_step (hiS n) l q hq
   have s2 := fromZ_step (loS n) l q hq
   have hany : (l.drop q).any emptyS = (emptyS l[q] || (l.drop (q + 1)).any emptyS) := by rw [List.drop_eq_getElem_cons hq]; rfl
   have hex : emptyS l[q] = true → l.any emptyS = true := fun h => List.any_eq_true.2 ⟨_, List.getElem_mem hq, h⟩
   rw [Hany.out] at hany
   obtain ⟨⟨lo, hi⟩, hp⟩ : ∃ z, l[q] = z := ⟨_, rfl⟩
   rw [hp] at c1 c2 s1 s2 hany hex
   obtain ⟨i, hi1⟩ : ∃ z, fromZ (hiS n) l (q + 1) = z := ⟨_, rfl⟩
   obtain ⟨j, hj1⟩ : ∃ z, fromZ (loS n) l (q + 1) = z := ⟨_, rfl⟩
   rw [hi1] at s1 ⊢
   rw [hj1] at s2 ⊢
   simp only at c1 c2
   have S1 := Lib.hid s1
   have S2 := Lib.hid s2
   have HANY := Lib.hid hany
   have HEX := Lib.hid hex
   have hq' : (q : Int) < (l.length : Int) := by omega
   have hwq : IntKind.i64.wrap ((q : Int) - 1) = (q : Int) - 1 := IntWalk.i64_in _ (by omega)
   clear hBr s1 s2 hany hex hp hi1 hj1 Hany HFE HD0 he
   by_cases h1 : hi < lo
   · have ha : l.any emptyS = true := HEX.out (by simp [emptyS, h1])
     have k1 : re = 3 := by rw [← HRE.out]; unfold excE; rw [ha]; rfl
     have k2 : ra = 0 := by rw [← HRA.out]; unfold excA; rw [ha]; rfl
     have k3 : rb = 0 := by rw [← HRB.out]; unfold excB; rw [ha]; rfl
     subst k1 k2 k3
     clear ha HRA HRB HRE S1 S2
     go_wp2
     go_quiet (fail)
     obtain ⟨Vq, hVq⟩ : ∃ V, wr.drewN nq = V := ⟨_, rfl⟩
     rw [hVq]
     have HBr2 : Hid (Below w.heap.size w Vq) := by rw [← hVq]; exact Below.drewN' HBr.out _
     clear hVq HBr
     have HBr := HBr2
     go_wp2
     refine bodyPost_ret (v := .tuple #[.int .i64 0, .int .i64 0, .int .i64 3]) (by simp [results, Tryd.results38, go_sem]) rfl ⟨rfl, HBr.out⟩
   · have hE : Hid ((l.drop q).any emptyS = false) := by unfold Hid; rw [HANY.out]; simp [emptyS, h1]
     have e1 : hiS n (lo, hi) = decide (n < hi) := rfl
     have e2 : loS n (lo, hi) = decide (n < lo) := rfl
     rw [e1] at S1
     rw [e2] at S2
     by_cases h2 : n < hi
     all_goals by_cases h3 : n < lo
     all_goals try (exfalso; omega)
     all_goals
      have T1 := S1.out
      have T2 := S2.out
      simp only [h2, h3, decide_true, decide_false, if_true, if_false, Bool.false_eq_true] at T1 T2
      have T1 := Lib.hid T1
      have T2 := Lib.hid T2
      clear e1 e2 S1 S2 HANY HEX
      go_wp2
      go_quiet (fail)
      obtain ⟨Vq, hVq⟩ : ∃ V, wr.drewN nq = V := ⟨_, rfl⟩
      have c3 : Vq.cell? ⟨b0, off + q * 2, none⟩ = some (.int .i64 lo) := by rw [← hVq]; exact c1
      have c4 : Vq.cell? ⟨b0, off + q * 2 + 1, none⟩ = some (.int .i64 hi) := by rw [← hVq]; exact c2
      rw [hVq]
      have HBr2 : Hid (Below w.heap.size w Vq) := by rw [← hVq]; exact Below.drewN' HBr.out _
      clear hVq
      go_wp2
      go_roundw
      case rel => exact ⟨q, by omega, rfl, by rw [T1.out], by rw [T2.out], hE, HBr2.out⟩
      case measure => simp [intOf] <;> omega
end Go.Proofs.YtdhcdgfpkjdihaaDoor.Sg
