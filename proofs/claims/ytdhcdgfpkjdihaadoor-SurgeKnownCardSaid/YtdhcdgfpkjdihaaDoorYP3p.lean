/-
  Layer 3, the program: Exceeds.
-/
import Derived.Test.YtdhcdgfpkjdihaaDoorYP3a
import Derived.Test.YtdhcdgfpkjdihaaDoorYA3c
import Derived.Test.YtdhcdgfpkjdihaaDoorYBb
set_option linter.unusedSimpArgs false
set_option linter.unusedVariables false
namespace Go.Proofs.YtdhcdgfpkjdihaaDoor.Sg
open Go.RowKit
def findZ (p : Int × Int → Bool) (l : List (Int × Int)) : Int := match l.findIdx? p with | some i => (i : Int) | none => -1
theorem findZ_at (p : Int × Int → Bool) (l : List (Int × Int)) (k : Nat) (h : k < l.length) (ht : (l.take k).any p = false) (hp : p l[k] = true) : findZ p l = (k : Int) := by
 have e : l.findIdx? p = some k := by
  rw [List.findIdx?_eq_some_iff_getElem]
  refine ⟨h, hp, fun j hj => ?_⟩
  have := List.any_eq_false.1 ht (l[j]'(by omega)) (by rw [List.mem_take_iff_getElem]; exact ⟨j, by omega, rfl⟩)
  simpa using this
 unfold findZ
 rw [e]
theorem findZ_none (p : Int × Int → Bool) (l : List (Int × Int)) (h : l.any p = false) : findZ p l = -1 := by
 have e : l.findIdx? p = none := by
  rw [List.findIdx?_eq_none_iff]
  intro x hx
  have := List.any_eq_false.1 h x hx
  simpa using this
 unfold findZ
 rw [e]
theorem findZ_rng (p : Int × Int → Bool) (l : List (Int × Int)) : -1 ≤ findZ p l ∧ findZ p l < l.length ∧ (decide (0 ≤ findZ p l) = l.any p) := by
 unfold findZ
 cases e : l.findIdx? p with
 | none =>
  have h : l.any p = false := by
   rw [List.findIdx?_eq_none_iff] at e
   exact List.any_eq_false.2 fun x hx => by simp [e x hx]
  refine ⟨by simp, by simp only; omega, by rw [h]; decide⟩
 | some k =>
  rw [List.findIdx?_eq_some_iff_getElem] at e
  obtain ⟨h, hp, -⟩ := e
  have ha : l.any p = true := List.any_eq_true.2 ⟨_, List.getElem_mem h, hp⟩
  refine ⟨by simp only; omega, by simp only; omega, by rw [ha]; simp⟩
theorem any_snoc0 (p : Int × Int → Bool) (l : List (Int × Int)) (k : Nat) (h : k < l.length) (ht : (l.take k).any p = false) (hp : p l[k] = false) : (l.take (k + 1)).any p = false := by
 rw [List.take_succ_eq_append_getElem h, List.any_append, ht]
 simp [hp]
def emptyS (s : Int × Int) : Bool := decide (s.2 < s.1)
def hiS (n : Int) (s : Int × Int) : Bool := decide (n < s.2)
def loS (n : Int) (s : Int × Int) : Bool := decide (n < s.1)
theorem ex1_any (lo hi : Int) (w : World) :
 Calls Tryd.prog 85 #[.agg #[.int .i64 lo, .int .i64 hi]] w fun e w' => e = .returned (.bool (emptyS (lo, hi))) ∧ Below w.heap.size w w' := by
 have HE : Hid (emptyS (lo, hi) = decide (hi < lo)) := rfl
 by_cases h : hi < lo
 all_goals
  go_enter Tryd.func85, Tryd.ntmps85
  go_wp2
  go_ret
  exact ⟨by rw [HE.out]; simp [h], (by repeat (first | exact Below.refl _ _ | assumption | refine Below.drew ?_ | refine Below.drewN' ?_ _ | (refine Below.alloc ?_ (by simp <;> omega) _) | (refine Below.setCell ?_ (by simp <;> omega) _)))⟩
theorem ex2_any (lo hi n : Int) (b : Nat) (w : World) (hb : Blk w b 3 #[.int .i64 n]) :
 Calls Tryd.prog 87 #[.agg #[.int .i64 lo, .int .i64 hi], .pointer (some ⟨b, 0, none⟩)] w fun e w' => e = .returned (.bool (hiS n (lo, hi))) ∧ Below w.heap.size w w' := by
 have HE : Hid (hiS n (lo, hi) = decide (n < hi)) := rfl
 have c0 : w.cell? ⟨b, 0, none⟩ = some (.int .i64 n) := hb.cell 0
 have hlt := hb.lt
 have hnb : ¬ b = w.heap.size := by omega
 have hnb' : ¬ w.heap.size = b := by omega
 clear hb
 by_cases h : n < hi
 all_goals
  go_enter Tryd.func87, Tryd.ntmps87
  go_wp2
  go_ret
  exact ⟨by rw [HE.out]; simp [h], (by repeat (first | exact Below.refl _ _ | assumption | refine Below.drew ?_ | refine Below.drewN' ?_ _ | (refine Below.alloc ?_ (by simp <;> omega) _) | (refine Below.setCell ?_ (by simp <;> omega) _)))⟩
theorem ex3_any (lo hi n : Int) (b : Nat) (w : World) (hb : Blk w b 3 #[.int .i64 n]) :
 Calls Tryd.prog 88 #[.agg #[.int .i64 lo, .int .i64 hi], .pointer (some ⟨b, 0, none⟩)] w fun e w' => e = .returned (.bool (loS n (lo, hi))) ∧ Below w.heap.size w w' := by
 have HE : Hid (loS n (lo, hi) = decide (n < lo)) := rfl
 have c0 : w.cell? ⟨b, 0, none⟩ = some (.int .i64 n) := hb.cell 0
 have hlt := hb.lt
 have hnb : ¬ b = w.heap.size := by omega
 have hnb' : ¬ w.heap.size = b := by omega
 clear hb
 by_cases h : n < lo
 all_goals
  go_enter Tryd.func88, Tryd.ntmps88
  go_wp2
  go_ret
  exact ⟨by rw [HE.out]; simp [h], (by repeat (first | exact Below.refl _ _ | assumption | refine Below.drew ?_ | refine Below.drewN' ?_ _ | (refine Below.alloc ?_ (by simp <;> omega) _) | (refine Below.setCell ?_ (by simp <;> omega) _)))⟩
set_option maxHeartbeats 1000000 in
theorem index1_any (y : Value) (ss : List (Int × Int)) (w : World) (hs : SpansAt w w.heap.size y ss) :
 Calls Tryd.prog 86 #[y, .func (.func 85) #[] #[]] w fun e w' => e = .returned (.int .i64 (findZ emptyS ss)) ∧ Below w.heap.size w w' := by
 have HS := Lib.hid hs
 obtain ⟨A, k, rfl, hk, hm⟩ := hs.open_
 clear hs
 obtain ⟨R, hR⟩ : ∃ z, findZ emptyS ss = z := ⟨_, rfl⟩
 rw [hR]
 have HR := Lib.hid hR
 clear hR
 go_enter Tryd.func86, Tryd.ntmps86
 go_wp2
 go_loopw [8] (fun i wr => ∃ q : Nat, q ≤ ss.length ∧ i = .int .i64 q ∧ Hid ((ss.take q).any emptyS = false) ∧ Below w.heap.size w wr) (fun i _ => ss.length - (intOf i).toNat)
 case atStart => exact ⟨0, Nat.zero_le _, rfl, by simp [Hid], Below.refl _ _⟩
 case round =>
  obtain ⟨q, hq, rfl, Hany, hBr⟩ := hrel
  have HBr := Lib.hid hBr
  by_cases hlt : q < ss.length
  · obtain ⟨b0, off, rfl, hb, c1, c2⟩ := (HS.out.below hBr).at_ hlt
    have Hsn := Lib.hid (any_snoc0 emptyS ss q hlt Hany.out)
    have Hat := Lib.hid (findZ_at emptyS ss q hlt Hany.out)
    clear hBr
    generalize hp : ss[q] = p at *
    obtain ⟨lo, hi⟩ := p
    simp only at c1 c2
    clear hp
    by_cases he : emptyS (lo, hi) = true
    · have Ha := Lib.hid (HR.out.symm.trans (Hat.out he))
      have He := Lib.hid he
      clear he Hat Hsn
      go_wp2_with (go_at_call 85; refine (ex1_any lo hi _).mono ?_; rintro e w2 ⟨rfl, hb2⟩; rw [He.out])
      go_ret
      exact ⟨by rw [Ha.out]; rfl, HBr.out.trans (hb2.mono HBr.out.size)⟩
    · have he' : Hid (emptyS (lo, hi) = false) := by unfold Hid; simpa using he
      have Hn := Lib.hid (Hsn.out he'.out)
      clear he Hat Hsn
      go_wp2_with (go_at_call 85; refine (ex1_any lo hi _).mono ?_; rintro e w2 ⟨rfl, hb2⟩; rw [he'.out])
      go_roundw
      case rel => exact ⟨q + 1, by omega, by go_num, Hn.out, HBr.out.trans (hb2.mono HBr.out.size)⟩
      case measure => simp [intOf]; omega
  · have Ha : Hid (R = -1) := by
     have h := Hany.out
     rw [List.take_of_length_le (by omega)] at h
     exact HR.out.symm.trans (findZ_none emptyS ss h)
    clear hBr
    go_wp2
    go_ret
    exact ⟨by rw [Ha.out]; rfl, HBr.out⟩
set_option maxHeartbeats 1000000 in
theorem index2_any (y : Value) (ss : List (Int × Int)) (w : World) (n : Int) (b : Nat) (hbk : Blk w b 3 #[.int .i64 n]) (hs : SpansAt w w.heap.size y ss) :
 Calls Tryd.prog 86 #[y, .func (.func 87) #[] #[.pointer (some ⟨b, 0, none⟩)]] w fun e w' => e = .returned (.int .i64 (findZ (hiS n) ss)) ∧ Below w.heap.size w w' := by
 have HS := Lib.hid hs
 obtain ⟨A, k, rfl, hk, hm⟩ := hs.open_
 clear hs
 have HBK := Lib.hid hbk
 clear hbk
 obtain ⟨R, hR⟩ : ∃ z, findZ (hiS n) ss = z := ⟨_, rfl⟩
 rw [hR]
 have HR := Lib.hid hR
 clear hR
 go_enter Tryd.func86, Tryd.ntmps86
 go_wp2
 go_loopw [8] (fun i wr => ∃ q : Nat, q ≤ ss.length ∧ i = .int .i64 q ∧ Hid ((ss.take q).any (hiS n) = false) ∧ Below w.heap.size w wr) (fun i _ => ss.length - (intOf i).toNat)
 case atStart => exact ⟨0, Nat.zero_le _, rfl, by simp [Hid], Below.refl _ _⟩
 case round =>
  obtain ⟨q, hq, rfl, Hany, hBr⟩ := hrel
  have HBr := Lib.hid hBr
  by_cases hlt : q < ss.length
  · obtain ⟨b0, off, rfl, hb, c1, c2⟩ := (HS.out.below hBr).at_ hlt
    have Hsn := Lib.hid (any_snoc0 (hiS n) ss q hlt Hany.out)
    have Hat := Lib.hid (findZ_at (hiS n) ss q hlt Hany.out)
    clear hBr
    generalize hp : ss[q] = p at *
    obtain ⟨lo, hi⟩ := p
    simp only at c1 c2
    clear hp
    by_cases he : (hiS n) (lo, hi) = true
    · have Ha := Lib.hid (HR.out.symm.trans (Hat.out he))
      have He := Lib.hid he
      clear he Hat Hsn
      go_wp2_with (go_at_call 87; refine (ex2_any lo hi n b _ (HBK.out.below HBr.out HBK.out.lt)).mono ?_; rintro e w2 ⟨rfl, hb2⟩; rw [He.out])
      go_ret
      exact ⟨by rw [Ha.out]; rfl, HBr.out.trans (hb2.mono HBr.out.size)⟩
    · have he' : Hid ((hiS n) (lo, hi) = false) := by unfold Hid; simpa using he
      have Hn := Lib.hid (Hsn.out he'.out)
      clear he Hat Hsn
      go_wp2_with (go_at_call 87; refine (ex2_any lo hi n b _ (HBK.out.below HBr.out HBK.out.lt)).mono ?_; rintro e w2 ⟨rfl, hb2⟩; rw [he'.out])
      go_roundw
      case rel => exact ⟨q + 1, by omega, by go_num, Hn.out, HBr.out.trans (hb2.mono HBr.out.size)⟩
      case measure => simp [intOf]; omega
  · have Ha : Hid (R = -1) := by
     have h := Hany.out
     rw [List.take_of_length_le (by omega)] at h
     exact HR.out.symm.trans (findZ_none (hiS n) ss h)
    clear hBr
    go_wp2
    go_ret
    exact ⟨by rw [Ha.out]; rfl, HBr.out⟩
set_option maxHeartbeats 1000000 in
theorem index3_any (y : Value) (ss : List (Int × Int)) (w : World) (n : Int) (b : Nat) (hbk : Blk w b 3 #[.int .i64 n]) (hs : SpansAt w w.heap.size y ss) :
 Calls Tryd.prog 86 #[y, .func (.func 88) #[] #[.pointer (some ⟨b, 0, none⟩)]] w fun e w' => e = .returned (.int .i64 (findZ (loS n) ss)) ∧ Below w.heap.size w w' := by
 have HS := Lib.hid hs
 obtain ⟨A, k, rfl, hk, hm⟩ := hs.open_
 clear hs
 have HBK := Lib.hid hbk
 clear hbk
 obtain ⟨R, hR⟩ : ∃ z, findZ (loS n) ss = z := ⟨_, rfl⟩
 rw [hR]
 have HR := Lib.hid hR
 clear hR
 go_enter Tryd.func86, Tryd.ntmps86
 go_wp2
 go_loopw [8] (fun i wr => ∃ q : Nat, q ≤ ss.length ∧ i = .int .i64 q ∧ Hid ((ss.take q).any (loS n) = false) ∧ Below w.heap.size w wr) (fun i _ => ss.length - (intOf i).toNat)
 case atStart => exact ⟨0, Nat.zero_le _, rfl, by simp [Hid], Below.refl _ _⟩
 case round =>
  obtain ⟨q, hq, rfl, Hany, hBr⟩ := hrel
  have HBr := Lib.hid hBr
  by_cases hlt : q < ss.length
  · obtain ⟨b0, off, rfl, hb, c1, c2⟩ := (HS.out.below hBr).at_ hlt
    have Hsn := Lib.hid (any_snoc0 (loS n) ss q hlt Hany.out)
    have Hat := Lib.hid (findZ_at (loS n) ss q hlt Hany.out)
    clear hBr
    generalize hp : ss[q] = p at *
    obtain ⟨lo, hi⟩ := p
    simp only at c1 c2
    clear hp
    by_cases he : (loS n) (lo, hi) = true
    · have Ha := Lib.hid (HR.out.symm.trans (Hat.out he))
      have He := Lib.hid he
      clear he Hat Hsn
      go_wp2_with (go_at_call 88; refine (ex3_any lo hi n b _ (HBK.out.below HBr.out HBK.out.lt)).mono ?_; rintro e w2 ⟨rfl, hb2⟩; rw [He.out])
      go_ret
      exact ⟨by rw [Ha.out]; rfl, HBr.out.trans (hb2.mono HBr.out.size)⟩
    · have he' : Hid ((loS n) (lo, hi) = false) := by unfold Hid; simpa using he
      have Hn := Lib.hid (Hsn.out he'.out)
      clear he Hat Hsn
      go_wp2_with (go_at_call 88; refine (ex3_any lo hi n b _ (HBK.out.below HBr.out HBK.out.lt)).mono ?_; rintro e w2 ⟨rfl, hb2⟩; rw [he'.out])
      go_roundw
      case rel => exact ⟨q + 1, by omega, by go_num, Hn.out, HBr.out.trans (hb2.mono HBr.out.size)⟩
      case measure => simp [intOf]; omega
  · have Ha : Hid (R = -1) := by
     have h := Hany.out
     rw [List.take_of_length_le (by omega)] at h
     exact HR.out.symm.trans (findZ_none (loS n) ss h)
    clear hBr
    go_wp2
    go_ret
    exact ⟨by rw [Ha.out]; rfl, HBr.out⟩
theorem contains1_any (y : Value) (ss : List (Int × Int)) (w : World) (hs : SpansAt w w.heap.size y ss) :
 Calls Tryd.prog 84 #[y, .func (.func 85) #[] #[]] w fun e w' => e = .returned (.bool (ss.any emptyS)) ∧ Below w.heap.size w w' := by
 have HC := Lib.hid (index1_any y ss w hs)
 have HF := Lib.hid (findZ_rng emptyS ss)
 obtain ⟨R, hR⟩ : ∃ z, findZ emptyS ss = z := ⟨_, rfl⟩
 rw [hR] at HC HF
 clear hs hR
 go_enter Tryd.func84, Tryd.ntmps84
 go_wp2_with (go_at_call 86; refine HC.out.mono ?_; rintro e w1 ⟨rfl, h4⟩)
 go_ret
 exact ⟨by rw [← HF.out.2.2]; rfl, h4⟩
def excE (l : List (Int × Int)) : Int := if l.any emptyS then 3 else 0
def excA (l : List (Int × Int)) (n : Int) : Int := if l.any emptyS then 0 else findZ (hiS n) l
def excB (l : List (Int × Int)) (n : Int) : Int := if l.any emptyS then 0 else findZ (loS n) l
set_option maxRecDepth 100000 in
set_option maxHeartbeats 2000000 in
theorem Exceeds_any (v : Value) (l : List (Int × Int)) (n : Int) (w : World) (hs : SpansAt w w.heap.size v l) :
 Calls Tryd.prog 37 #[v, .int .i64 n] w fun e w' => e = .returned (.tuple #[.int .i64 (excA l n), .int .i64 (excB l n), .int .i64 (excE l)]) ∧ Below w.heap.size w w' := by
 have HS := Lib.hid hs
 obtain ⟨A, c, rfl, hc, hm⟩ := hs.open_
 clear hs
 by_cases ha : l.any emptyS = true
 ·
  have hE : excE l = 3 := if_pos ha
  have hA : excA l n = 0 := if_pos ha
  have hB : excB l n = 0 := if_pos ha
  rw [hE, hA, hB]
  clear hE hA hB
  have Ha := Lib.hid ha
  clear ha
  go_enter Tryd.func37, Tryd.ntmps37
  go_upto_region 1 with (fail)
  obtain ⟨Va1, hV⟩ : ∃ V, w.alloc (.cells #[.int .i64 (n)] 3) = V := ⟨_, rfl⟩
  have Kb3 : Hid (Blk Va1 (w.heap.size) 3 #[.int .i64 (n)]) := by rw [← hV]; exact Blk.new' _ _ _ (by simp)
  have GHB : Hid (Below w.heap.size w Va1) := by rw [← hV]; exact (by repeat (first | exact Below.refl _ _ | assumption | refine Below.drew ?_ | refine Below.drewN' ?_ _ | (refine Below.alloc ?_ (by simp <;> omega) _) | (refine Below.setCell ?_ (by simp <;> omega) _)))
  have HZ : Hid (Below w.heap.size w Va1) := GHB
  have GHS := Lib.hid (HS.out.later HZ.out (Nat.le_refl _))
  rw [hV]
  clear hV HZ HS
  have HB := GHB
  clear GHB
  have HS := GHS
  clear GHS
  obtain ⟨b3, hqb3⟩ : ∃ b, w.heap.size = b := ⟨_, rfl⟩
  have gb3 : w.heap.size ≤ b3 := by omega
  have HN : Hid (w.heap.size = b3) := hqb3
  rw [hqb3] at Kb3 ⊢
  clear hqb3
  have Hb3 := Kb3
  clear Kb3
  go_wp2_with fail
  refine (contains1_any _ l _ HS.out).mono ?_
  rintro e Va2 ⟨rfl, hb⟩
  have HZ := Lib.hid hb
  clear hb
  rw [Ha.out]
  replace Hb3 := kbl Hb3 HZ
  replace HB := ktr' HB HZ
  replace HS := Lib.hid (HS.out.later HZ.out (Nat.le_refl _))
  clear HZ
  go_wp2
  refine bodyPost_ret (v := .tuple #[.int .i64 0, .int .i64 0, .int .i64 3]) (by simp [results, Tryd.results37, go_sem]) rfl ⟨rfl, HB.out⟩
 ·
  have hE : excE l = 0 := if_neg ha
  have hA : excA l n = findZ (hiS n) l := if_neg ha
  have hB : excB l n = findZ (loS n) l := if_neg ha
  rw [hE, hA, hB]
  clear hE hA hB
  have Ha : Hid (l.any emptyS = false) := by unfold Hid; simpa using ha
  clear ha
  obtain ⟨i, hi⟩ : ∃ z, findZ (hiS n) l = z := ⟨_, rfl⟩
  obtain ⟨j, hj⟩ : ∃ z, findZ (loS n) l = z := ⟨_, rfl⟩
  rw [hi, hj]
  have HI := Lib.hid hi
  have HJ := Lib.hid hj
  clear hi hj
  have hmf : ∀ (fn : Fn) (first cap : Array Value) (w : World), (Instr.makeFunc fn first cap).run Tryd.prog w = .ok (.func fn first cap) w := fun _ _ _ _ => rfl
  go_enter Tryd.func37, Tryd.ntmps37
  go_upto_region 1 with (fail)
  obtain ⟨Va51, hV⟩ : ∃ V, w.alloc (.cells #[.int .i64 (n)] 3) = V := ⟨_, rfl⟩
  have Kb3 : Hid (Blk Va51 (w.heap.size) 3 #[.int .i64 (n)]) := by rw [← hV]; exact Blk.new' _ _ _ (by simp)
  have GHB : Hid (Below w.heap.size w Va51) := by rw [← hV]; exact (by repeat (first | exact Below.refl _ _ | assumption | refine Below.drew ?_ | refine Below.drewN' ?_ _ | (refine Below.alloc ?_ (by simp <;> omega) _) | (refine Below.setCell ?_ (by simp <;> omega) _)))
  have HZ : Hid (Below w.heap.size w Va51) := GHB
  have GHS := Lib.hid (HS.out.later HZ.out (Nat.le_refl _))
  rw [hV]
  clear hV HZ HS
  have HB := GHB
  clear GHB
  have HS := GHS
  clear GHS
  obtain ⟨b3, hqb3⟩ : ∃ b, w.heap.size = b := ⟨_, rfl⟩
  have gb3 : w.heap.size ≤ b3 := by omega
  have HN : Hid (w.heap.size = b3) := hqb3
  rw [hqb3] at Kb3 ⊢
  clear hqb3
  have Hb3 := Kb3
  clear Kb3
  go_wp2_with fail
  refine (contains1_any _ l _ HS.out).mono ?_
  rintro e Va52 ⟨rfl, hb⟩
  have HZ := Lib.hid hb
  clear hb
  rw [Ha.out]
  replace Hb3 := kbl Hb3 HZ
  replace HB := ktr' HB HZ
  replace HS := Lib.hid (HS.out.later HZ.out (Nat.le_refl _))
  clear HZ
  go_wp2_with fail
  refine (index2_any _ l _ n b3 Hb3.out HS.out).mono ?_
  rintro e Va53 ⟨rfl, hb⟩
  have HZ := Lib.hid hb
  clear hb
  rw [HI.out]
  replace Hb3 := kbl Hb3 HZ
  replace HB := ktr' HB HZ
  replace HS := Lib.hid (HS.out.later HZ.out (Nat.le_refl _))
  clear HZ
  go_wp2_with fail
  refine (index3_any _ l _ n b3 Hb3.out HS.out).mono ?_
  rintro e Va54 ⟨rfl, hb⟩
  have HZ := Lib.hid hb
  clear hb
  rw [HJ.out]
  replace Hb3 := kbl Hb3 HZ
  replace HB := ktr' HB HZ
  replace HS := Lib.hid (HS.out.later HZ.out (Nat.le_refl _))
  clear HZ
  go_wp2
  refine bodyPost_ret (v := .tuple #[.int .i64 i, .int .i64 j, .int .i64 0]) (by simp [results, Tryd.results37, go_sem]) rfl ⟨rfl, HB.out⟩
end Go.Proofs.YtdhcdgfpkjdihaaDoor.Sg
