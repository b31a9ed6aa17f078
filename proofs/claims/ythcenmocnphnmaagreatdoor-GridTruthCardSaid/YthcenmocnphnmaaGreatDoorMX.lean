/-
  Texts: the reference's Text.
-/
import Derived.Test.YthcenmocnphnmaaGreatDoorMA
import Derived.Lib.ItoaNum
import Derived.Lib.ItoaMem
import Derived.Lib.ItoaLen
import Derived.Test.YthcenmocnphnmaaGreatDoorMM
set_option linter.unusedSimpArgs false
set_option linter.unusedVariables false
namespace Go.Proofs.YthcenmocnphnmaaGreatDoor
open Go.RowKit

def bs (l : List UInt8) : ByteArray := ⟨l.toArray⟩
theorem bs_append (l m : List UInt8) : bs l ++ bs m = bs (l ++ m) := by
  unfold bs
  apply ByteArray.ext
  simp

theorem bs_size (l : List UInt8) : (bs l).size = l.length := by unfold bs; simp [ByteArray.size]
theorem dd_size (u : Nat) (h : u ≤ 9223372036854775807) : (bs (Lib.decDigits u)).size ≤ 21 := by
  rw [bs_size, ← Lib.itoa_nonneg]
  exact Lib.itoa_length_le _ (by omega) (by omega)
theorem rText_digit (u : Nat) (h : u < 10) (w : World) :
    Calls Tryz.prog 76 #[.int .i64 u] w fun e w' => e = .returned (.string (bs (Lib.decDigits u))) ∧ w' = w := by
  rw [Lib.decDigits_one h]
  have h' : u = 0 ∨ u = 1 ∨ u = 2 ∨ u = 3 ∨ u = 4 ∨ u = 5 ∨ u = 6 ∨ u = 7 ∨ u = 8 ∨ u = 9 := by omega
  rcases h' with rfl | rfl | rfl | rfl | rfl | rfl | rfl | rfl | rfl | rfl
  all_goals
    go_enter Tryz.func76, Tryz.ntmps76
    go_wp2
    go_ret
    exact ⟨rfl, rfl⟩
theorem rText_nat (u : Nat) (h : u ≤ 9223372036854775807) (w : World) :
    Calls Tryz.prog 76 #[.int .i64 u] w fun e w' => e = .returned (.string (bs (Lib.decDigits u))) ∧ w' = w := by
  induction u using Nat.strongRecOn with
  | _ u ih =>
    by_cases h10 : u < 10
    · exact rText_digit u h10 w
    · have i1 := ih (u / 10) (by omega) (by omega)
      have i2 := rText_digit (u % 10) (by omega) w
      rw [Int.natCast_ediv] at i1
      rw [Int.natCast_emod] at i2
      have He : Hid (bs (Lib.decDigits (u / 10)) ++ bs (Lib.decDigits (u % 10)) = bs (Lib.decDigits u)) := by
        rw [bs_append, Hid, Lib.decDigits_one (show u % 10 < 10 by omega), Lib.decDigits.eq_1 u, dif_neg h10]
      have I1 := Lib.hid i1
      have I2 := Lib.hid i2
      have s1 := dd_size (u / 10) (by omega)
      have s2 := dd_size (u % 10) (by omega)
      clear ih i1 i2
      go_enter Tryz.func76, Tryz.ntmps76
      go_wp2_with fail
      refine I1.out.mono ?_
      rintro e w' ⟨rfl, rfl⟩
      go_wp2_with fail
      refine I2.out.mono ?_
      rintro e w'' ⟨rfl, rfl⟩
      go_wp2
      go_ret
      rw [He.out]
      exact ⟨rfl, rfl⟩
theorem rText_any (n : Int) (h0 : -9223372036854775807 ≤ n) (h1 : n ≤ 9223372036854775807) (w : World) :
    Calls Tryz.prog 76 #[.int .i64 n] w fun e w' => e = .returned (.string (bs (Lib.itoa n))) ∧ w' = w := by
  by_cases hn : n < 0
  · have i1 := rText_nat n.natAbs (by omega) w
    have e1 : ((n.natAbs : Nat) : Int) = -n := by omega
    rw [e1] at i1
    have He : Hid (bs [45] ++ bs (Lib.decDigits n.natAbs) = bs (Lib.itoa n)) := by
      rw [bs_append, Hid]
      unfold Lib.itoa
      rw [if_pos hn]
      rfl
    have I1 := Lib.hid i1
    have s1 := dd_size n.natAbs (by omega)
    have s2 : ({ data := #[45] } : ByteArray).size = 1 := rfl
    clear i1 e1
    go_enter Tryz.func76, Tryz.ntmps76
    go_wp2_with fail
    refine I1.out.mono ?_
    rintro e w' ⟨rfl, rfl⟩
    go_wp2
    go_ret
    exact ⟨by rw [← He.out]; rfl, rfl⟩
  · obtain ⟨u, rfl⟩ : ∃ u : Nat, n = u := ⟨n.toNat, by omega⟩
    refine (rText_nat u (by omega) w).mono ?_
    rintro e w' ⟨rfl, rfl⟩
    unfold Lib.itoa
    rw [if_neg hn, Int.toNat_natCast]
    exact ⟨rfl, rfl⟩
end Go.Proofs.YthcenmocnphnmaaGreatDoor
/-
  Texts: the text of a grid; the reference's Write.
-/
namespace Go.Proofs.YthcenmocnphnmaaGreatDoor
open Go.RowKit Go.Shelf

def spanTxt (s : Int × Int) : List UInt8 := if s.1 = s.2 then Lib.itoa s.1 else Lib.itoa s.1 ++ ([46, 46] ++ Lib.itoa s.2)
def sepTxt (W : Int) (k : Nat) : List UInt8 := if ((k : Int) + 1) % W = 0 then [10] else [32]
def cellsTxt (W : Int) : List (Int × Int) → Nat → List UInt8
  | [], _ => []
  | s :: l, k => spanTxt s ++ sepTxt W k ++ cellsTxt W l (k + 1)
theorem cellsTxt_append (W : Int) (l m : List (Int × Int)) (k : Nat) : cellsTxt W (l ++ m) k = cellsTxt W l k ++ cellsTxt W m (k + l.length) := by
  induction l generalizing k with
  | nil => simp [cellsTxt]
  | cons s l ih =>
    simp only [List.cons_append, cellsTxt, ih, List.length_cons]
    rw [show k + 1 + l.length = k + (l.length + 1) by omega]
    simp
theorem cellsTxt_snoc (W : Int) (l : List (Int × Int)) (q : Nat) (h : q < l.length) : cellsTxt W (l.take (q + 1)) 0 = cellsTxt W (l.take q) 0 ++ spanTxt l[q] ++ sepTxt W q := by
  rw [take_snoc l q h, cellsTxt_append]
  simp only [cellsTxt, List.append_nil, List.length_take, Nat.zero_add]
  rw [Nat.min_eq_left (by omega)]
  simp
def headTxt (g : G) : List UInt8 := [103, 114, 105, 100, 32] ++ Lib.itoa g.W ++ [32] ++ (Lib.itoa g.H) ++ [32] ++ Lib.itoa g.S ++ [10]
def gridTxt (g : G) : List UInt8 := headTxt g ++ cellsTxt g.W g.ss 0
def writeR (g : G) : List UInt8 × Int := if checkE g = 0 then (gridTxt g, 0) else ([], checkE g)
theorem it_size (n : Int) (h0 : -9223372036854775808 ≤ n) (h1 : n ≤ 9223372036854775807) : (bs (Lib.itoa n)).size ≤ 21 := by
  rw [bs_size]
  exact Lib.itoa_length_le _ h0 h1
theorem rText_q (n : Int) (h0 : -9223372036854775807 ≤ n) (h1 : n ≤ 9223372036854775807) (w : World) :
    Calls Tryz.prog 76 #[.int .i64 n] w fun e w' => e = .returned (.string (bs (Lib.itoa n))) ∧ w = w' :=
  (rText_any n h0 h1 w).mono fun _ _ h => ⟨h.1, h.2.symm⟩

set_option maxRecDepth 100000 in
set_option maxHeartbeats 4000000 in
theorem rWrite_any (x : Value) (g : G) (w : World) (hg : GridAt w w.heap.size x g) :
    Calls Tryz.prog 36 #[x] w fun e w' => e = .returned (.tuple #[.string (bs (writeR g).1), .int .i64 (writeR g).2]) ∧ Below w.heap.size w w' := by
  have HG := Lib.hid hg
  obtain ⟨v, rfl, hs⟩ := hg
  obtain ⟨A, k, rfl, hk, hm⟩ := hs.open_
  have HS := Lib.hid hs
  have hB : Below w.heap.size w (w.alloc (.cells #[.int .i64 g.W, .int .i64 g.H, .int .i64 g.S, .slice A g.ss.length k] 24)) := (by repeat (first | exact Below.refl _ _ | assumption | refine Below.drew ?_ | refine Below.drewN' ?_ _ | (refine Below.alloc ?_ (by simp <;> omega) _) | (refine Below.setCell ?_ (by simp <;> omega) _)))
  have HB := Lib.hid hB
  have b0 : Blk (w.alloc (.cells #[.int .i64 g.W, .int .i64 g.H, .int .i64 g.S, .slice A g.ss.length k] 24)) w.heap.size 24 #[.int .i64 g.W, .int .i64 g.H, .int .i64 g.S, .slice A g.ss.length k] := Blk.new' _ _ _ rfl
  have HBB := Lib.hid b0
  clear hs hB b0
  go_enter Tryz.func36, Tryz.ntmps36
  go_wp2_with fail
  refine (rCheck_any _ g _ (HG.out.later HB.out (Nat.le_refl _))).mono ?_
  rintro e w1 ⟨rfl, hb1⟩
  have HB1 := Lib.hid (HB.out.trans (hb1.mono HB.out.size))
  have hn1 : w.heap.size + 1 ≤ w1.heap.size := by have := hb1.size; simpa using this
  have HBB1 := Lib.hid (HBB.out.below hb1 (by simp <;> omega))
  clear hb1
  by_cases h0 : checkE g = 0
  case neg =>
    have He : Hid ((([] : List UInt8), checkE g) = writeR g) := by unfold writeR; rw [Hid, if_neg h0]
    have hb : (checkE g != 0) = true := by simpa using h0
    clear h0
    go_wp2
    refine bodyPost_ret (v := .tuple #[.string ⟨#[]⟩, .int .i64 (checkE g)]) (by simp [results, Tryz.results36, go_sem]) rfl ?_
    exact ⟨by rw [← He.out]; rfl, HB1.out⟩
  have hb : (checkE g != 0) = false := by simpa using h0
  have He : Hid ((gridTxt g, (0 : Int)) = writeR g) := by unfold writeR; rw [Hid, if_pos h0]
  have V := valid_of h0
  have HV := Lib.hid V
  have hps := V.pos
  have hsm := V.small
  have g1 := V.w1
  have g2 := V.w2
  have g3 := V.h1
  have g4 := V.h2
  have g5 := V.s1
  have g6 := V.s2
  clear h0 V
  obtain ⟨d0, d1, d2, d3⟩ := grid_parts HBB1.out
  have i1 := it_size g.W (by omega) (by omega)
  have i2 := it_size g.H (by omega) (by omega)
  have i3 := it_size g.S (by omega) (by omega)
  have j1 : ({ data := #[103, 114, 105, 100, 32] } : ByteArray).size = 5 := rfl
  have j2 : ({ data := #[32] } : ByteArray).size = 1 := rfl
  have j3 : ({ data := #[10] } : ByteArray).size = 1 := rfl
  go_wp2
  go_quiet ((go_at_call 76; exact quiet_left (rText_q _ (by omega) (by omega) _)))
  have HT0 : Hid (({ data := #[103, 114, 105, 100, 32] } : ByteArray) ++ bs (Lib.itoa g.W) ++ { data := #[32] } ++ bs (Lib.itoa g.H) ++ { data := #[32] } ++ bs (Lib.itoa g.S) ++ { data := #[10] } = bs (headTxt g)) := by
    show bs [103, 114, 105, 100, 32] ++ bs (Lib.itoa g.W) ++ bs [32] ++ bs (Lib.itoa g.H) ++ bs [32] ++ bs (Lib.itoa g.S) ++ bs [10] = _
    simp only [bs_append]
    rfl
  have hT0 : (({ data := #[103, 114, 105, 100, 32] } : ByteArray) ++ bs (Lib.itoa g.W) ++ { data := #[32] } ++ bs (Lib.itoa g.H) ++ { data := #[32] } ++ bs (Lib.itoa g.S) ++ { data := #[10] }).size ≤ 100 := by
    simp only [ByteArray.size_append]
    omega
  go_wp2
  generalize (({ data := #[103, 114, 105, 100, 32] } : ByteArray) ++ bs (Lib.itoa g.W) ++ { data := #[32] } ++ bs (Lib.itoa g.H) ++ { data := #[32] } ++ bs (Lib.itoa g.S) ++ { data := #[10] }) = T0 at *
  clear i1 i2 i3
  go_loopw [5, 6] (fun s i wr => ∃ (q : Nat) (t : ByteArray), s = .string t ∧ Hid (t = bs (headTxt g ++ cellsTxt g.W (g.ss.take q) 0)) ∧ t.size ≤ 100 + 50 * q ∧ q ≤ g.ss.length ∧ i = .int .i64 q ∧ Below (w.heap.size + 1) w1 wr) (fun _ i _ => g.ss.length - (intOf i).toNat)
  case atStart => exact ⟨0, T0, rfl, by rw [Hid, HT0.out]; simp [cellsTxt], by omega, Nat.zero_le _, rfl, by exact Below.drewN' (Below.refl _ _) _⟩
  case round =>
    obtain ⟨q, t, rfl, Ht, ht, hq, rfl, hBr⟩ := hrel
    have HBr := Lib.hid hBr
    have HBw := Lib.hid (HB1.out.trans (hBr.mono (by omega)))
    have hsz := hBr.size
    obtain ⟨d0, d1, d2, d3⟩ := grid_parts (HBB1.out.below hBr (by omega))
    clear hBr
    by_cases hlt : q < g.ss.length
    · obtain ⟨bb, off, rfl, hbb, c1, c2⟩ := (HS.out.below HBw.out).at_ hlt
      have Hsn := Lib.hid (cellsTxt_snoc g.W g.ss q hlt)
      have Hok := ok_of HV.out hlt
      rw [(lo_at hlt).1, (lo_at hlt).2] at Hok
      generalize g.ss[q] = p at *
      obtain ⟨a, b⟩ := p
      simp only at c1 c2 Hok
      have k1 := it_size a (by omega) (by omega)
      have k2 := it_size b (by omega) (by omega)
      have j4 : ({ data := #[46, 46] } : ByteArray).size = 2 := rfl
      have n1 : w.heap.size < wr.heap.size := by omega
      have n2 : ¬ w.heap.size = wr.heap.size := by omega
      have hw0 : g.W ≠ 0 := by omega
      by_cases hab : a = b
      · subst hab
        have Hab : Hid ((a, a).1 = (a, a).2) := rfl
        by_cases hr : ((q : Int) + 1) % g.W = 0
        · have Hr := Lib.hid hr
          go_wp2_with (go_at_call 76; refine (rText_q _ (by omega) (by omega) _).mono ?_; rintro e w2 ⟨rfl, rfl⟩)
          go_roundw
          case rel =>
            refine ⟨q + 1, _, rfl, ?_, ?_, by omega, by go_num, by exact HBr.out.alloc (by omega) _⟩
            · show t ++ bs (Lib.itoa a) ++ bs [10] = _
              rw [Ht.out, Hsn.out]
              unfold spanTxt sepTxt
              rw [if_pos rfl, if_pos Hr.out]
              simp only [bs_append, List.append_assoc]
            · simp only [ByteArray.size_append]
              omega
          case measure => simp [intOf]; omega
        · have Hr := Lib.hid hr
          go_wp2_with (go_at_call 76; refine (rText_q _ (by omega) (by omega) _).mono ?_; rintro e w2 ⟨rfl, rfl⟩)
          go_roundw
          case rel =>
            refine ⟨q + 1, _, rfl, ?_, ?_, by omega, by go_num, by exact HBr.out.alloc (by omega) _⟩
            · show t ++ bs (Lib.itoa a) ++ bs [32] = _
              rw [Ht.out, Hsn.out]
              unfold spanTxt sepTxt
              rw [if_pos rfl, if_neg Hr.out]
              simp only [bs_append, List.append_assoc]
            · simp only [ByteArray.size_append]
              omega
          case measure => simp [intOf]; omega
      · have Hab : Hid (¬ (a, b).1 = (a, b).2) := hab
        by_cases hr : ((q : Int) + 1) % g.W = 0
        · have Hr := Lib.hid hr
          go_wp2_with (go_at_call 76; refine (rText_q _ (by omega) (by omega) _).mono ?_; rintro e w2 ⟨rfl, rfl⟩)
          go_roundw
          case rel =>
            refine ⟨q + 1, _, rfl, ?_, ?_, by omega, by go_num, by exact HBr.out.alloc (by omega) _⟩
            · show t ++ bs (Lib.itoa a) ++ (bs [46, 46] ++ bs (Lib.itoa b)) ++ bs [10] = _
              rw [Ht.out, Hsn.out]
              unfold spanTxt sepTxt
              rw [if_neg Hab.out, if_pos Hr.out]
              simp only [bs_append, List.append_assoc]
            · simp only [ByteArray.size_append]
              omega
          case measure => simp [intOf]; omega
        · have Hr := Lib.hid hr
          go_wp2_with (go_at_call 76; refine (rText_q _ (by omega) (by omega) _).mono ?_; rintro e w2 ⟨rfl, rfl⟩)
          go_roundw
          case rel =>
            refine ⟨q + 1, _, rfl, ?_, ?_, by omega, by go_num, by exact HBr.out.alloc (by omega) _⟩
            · show t ++ bs (Lib.itoa a) ++ (bs [46, 46] ++ bs (Lib.itoa b)) ++ bs [32] = _
              rw [Ht.out, Hsn.out]
              unfold spanTxt sepTxt
              rw [if_neg Hab.out, if_neg Hr.out]
              simp only [bs_append, List.append_assoc]
            · simp only [ByteArray.size_append]
              omega
          case measure => simp [intOf]; omega
    · have hq' : q = g.ss.length := by omega
      have HF : Hid (t = bs (gridTxt g)) := by
        rw [Hid, Ht.out, hq', List.take_length]
        rfl
      clear hq' Ht
      go_wp2
      refine bodyPost_ret (v := .tuple #[.string t, .int .i64 0]) (by simp [results, Tryz.results36, go_sem]) rfl ?_
      exact ⟨by rw [← He.out, HF.out], HBw.out⟩
end Go.Proofs.YthcenmocnphnmaaGreatDoor
/-
  Texts: the number that a word is, without any program.
-/
namespace Go.Proofs.YthcenmocnphnmaaGreatDoor
open Go.RowKit Go.Shelf

def digB (c : UInt8) : Bool := decide (48 ≤ c.toNat ∧ c.toNat ≤ 57)
def dval (l : List UInt8) : Int := l.foldl (fun n c => 10 * n + ((c.toNat : Int) - 48)) 0
theorem dval_snoc (l : List UInt8) (c : UInt8) : dval (l ++ [c]) = 10 * dval l + ((c.toNat : Int) - 48) := by
  unfold dval
  rw [List.foldl_append]
  rfl
theorem dig_nat {k : Nat} (h : k < 10) : (UInt8.ofNat (48 + k)).toNat = 48 + k := by
  have h' : k = 0 ∨ k = 1 ∨ k = 2 ∨ k = 3 ∨ k = 4 ∨ k = 5 ∨ k = 6 ∨ k = 7 ∨ k = 8 ∨ k = 9 := by omega
  rcases h' with rfl | rfl | rfl | rfl | rfl | rfl | rfl | rfl | rfl | rfl <;> rfl
theorem dval_dec (u : Nat) : dval (Lib.decDigits u) = u ∧ (Lib.decDigits u).all digB = true := by
  induction u using Nat.strongRecOn with
  | _ u ih =>
    by_cases h : u < 10
    · rw [Lib.decDigits_one h]
      refine ⟨?_, ?_⟩
      · unfold dval
        simp only [List.foldl_cons, List.foldl_nil]
        rw [dig_nat h]
        omega
      · simp only [List.all_cons, List.all_nil, Bool.and_true]
        unfold digB
        rw [dig_nat h]
        exact decide_eq_true (by omega)
    · obtain ⟨i1, i2⟩ := ih (u / 10) (by omega)
      have hm : u % 10 < 10 := by omega
      rw [Lib.decDigits.eq_1 u, dif_neg h]
      refine ⟨?_, ?_⟩
      · rw [dval_snoc, i1, dig_nat hm]
        omega
      · rw [List.all_append, i2]
        simp only [List.all_cons, List.all_nil, Bool.and_true, Bool.true_and]
        unfold digB
        rw [dig_nat hm]
        exact decide_eq_true (by omega)
theorem dval_bound : ∀ (k : Nat) (l : List UInt8), l.length = k → l.all digB = true → 0 ≤ dval l ∧ dval l < 10 ^ k := by
  intro k
  induction k with
  | zero =>
    intro l hl _
    have : l = [] := List.eq_nil_of_length_eq_zero hl
    subst this
    simp [dval]
  | succ k ih =>
    intro l hl ha
    have hne : l ≠ [] := by rintro rfl; simp at hl
    obtain ⟨m, c, rfl⟩ : ∃ m c, l = m ++ [c] := ⟨_, _, (List.dropLast_concat_getLast hne).symm⟩
    rw [List.all_append, Bool.and_eq_true] at ha
    obtain ⟨i1, i2⟩ := ih m (by simp at hl; omega) ha.1
    have hd := ha.2
    simp only [List.all_cons, List.all_nil, Bool.and_true] at hd
    have hd' := of_decide_eq_true hd
    rw [dval_snoc, Int.pow_succ]
    omega

/-- what Number gives -/
def minusB (s : List UInt8) : Bool := decide (1 < s.length) && decide (s[0]? = some 45)
def digitsOf (s : List UInt8) : List UInt8 := if minusB s then s.drop 1 else s
def numV (s : List UInt8) : Int := if minusB s then -dval (digitsOf s) else dval (digitsOf s)
def numR (s : List UInt8) (most : Int) : Int × Bool :=
  if 12 < s.length then (0, false) else if (digitsOf s).all digB then (numV s, decide (-most ≤ numV s ∧ numV s ≤ most) && decide (Lib.itoa (numV s) = s)) else (0, false)
theorem numR_true {s : List UInt8} {most : Int} (h : (numR s most).2 = true) : s = Lib.itoa (numR s most).1 ∧ -most ≤ (numR s most).1 ∧ (numR s most).1 ≤ most := by
  unfold numR at h ⊢
  split at h
  · cases h
  · rename_i h1
    rw [if_neg h1]
    split at h
    · rename_i h2
      rw [if_pos h2]
      rw [Bool.and_eq_true] at h
      exact ⟨(of_decide_eq_true h.2).symm, of_decide_eq_true h.1⟩
    · cases h
theorem nDigits_le (k u : Nat) (hk : 1 ≤ k) (h : u < 10 ^ k) : Lib.nDigits u ≤ k := by
  induction k generalizing u with
  | zero => omega
  | succ k ih =>
    by_cases h10 : u < 10
    · rw [Lib.nDigits_small h10]; omega
    · rw [Lib.nDigits_big h10]
      rw [Nat.pow_succ] at h
      by_cases hk0 : k = 0
      · subst hk0; simp at h; omega
      · have := ih (u / 10) (by omega) (by omega)
        omega
theorem numV_itoa (n : Int) : (digitsOf (Lib.itoa n)).all digB = true ∧ numV (Lib.itoa n) = n := by
  by_cases hn : n < 0
  · have e : Lib.itoa n = 45 :: Lib.decDigits n.natAbs := by unfold Lib.itoa; rw [if_pos hn]
    have hl : 1 ≤ (Lib.decDigits n.natAbs).length := by rw [Lib.decDigits_length]; exact Lib.nDigits_pos _
    have hm : minusB (45 :: Lib.decDigits n.natAbs) = true := by
      unfold minusB
      simp
      omega
    have hd : digitsOf (45 :: Lib.decDigits n.natAbs) = Lib.decDigits n.natAbs := by unfold digitsOf; rw [if_pos hm]; rfl
    rw [e]
    unfold numV
    rw [hd, if_pos hm, (dval_dec _).1]
    exact ⟨(dval_dec _).2, by omega⟩
  · have e : Lib.itoa n = Lib.decDigits n.toNat := by unfold Lib.itoa; rw [if_neg hn]
    have hm : minusB (Lib.decDigits n.toNat) = false := by
      unfold minusB
      rw [Bool.and_eq_false_iff]
      right
      have ha := (dval_dec n.toNat).2
      cases hx : Lib.decDigits n.toNat with
      | nil => simp
      | cons c l =>
        rw [hx] at ha
        simp only [List.all_cons, Bool.and_eq_true] at ha
        have := of_decide_eq_true ha.1
        simp only [List.getElem?_cons_zero, Option.some.injEq, decide_eq_false_iff_not]
        rintro rfl
        simp at this
    have hd : digitsOf (Lib.decDigits n.toNat) = Lib.decDigits n.toNat := by unfold digitsOf; rw [hm]; rfl
    rw [e]
    unfold numV
    rw [hd, hm, (dval_dec _).1]
    exact ⟨(dval_dec _).2, by simp; omega⟩
theorem numR_itoa {n most : Int} (h0 : -most ≤ n) (h1 : n ≤ most) (hm : most ≤ 10000000000) : numR (Lib.itoa n) most = (n, true) := by
  obtain ⟨a, b⟩ := numV_itoa n
  have hl : (Lib.itoa n).length ≤ 12 := by
    unfold Lib.itoa
    split
    · have := nDigits_le 11 n.natAbs (by omega) (by omega)
      simp only [List.length_cons, Lib.decDigits_length]
      omega
    · have := nDigits_le 11 n.toNat (by omega) (by omega)
      rw [Lib.decDigits_length]
      omega
  unfold numR
  rw [if_neg (by omega), if_pos a, b]
  simp [h0, h1]
end Go.Proofs.YthcenmocnphnmaaGreatDoor
/-
  Texts: the reference's Number.
-/
namespace Go.Proofs.YthcenmocnphnmaaGreatDoor
open Go.RowKit Go.Shelf

theorem bs_get (l : List UInt8) (i : Nat) (h : i < (bs l).size) : (bs l)[i]'h = l[i]'(by rw [bs_size] at h; exact h) := by
  unfold bs
  rfl

theorem bs_toList (l : List UInt8) : (bs l).toList = l := by
  unfold bs
  rw [ByteArray.toList_eq]
theorem beq_dec (a b : List UInt8) : (a == b) = decide (a = b) := by
  rw [Bool.eq_iff_iff]
  simp
theorem bs_drop (s : List UInt8) : (bs s).extract 1 s.length = bs (s.drop 1) := by
  unfold bs
  apply ByteArray.ext
  simp
  exact List.take_of_length_le (by simp)
theorem pow12 {q : Nat} (h : q ≤ 12) : (10 : Int) ^ q ≤ 1000000000000 := by
  have h' : q = 0 ∨ q = 1 ∨ q = 2 ∨ q = 3 ∨ q = 4 ∨ q = 5 ∨ q = 6 ∨ q = 7 ∨ q = 8 ∨ q = 9 ∨ q = 10 ∨ q = 11 ∨ q = 12 := by omega
  rcases h' with rfl | rfl | rfl | rfl | rfl | rfl | rfl | rfl | rfl | rfl | rfl | rfl | rfl <;> decide
theorem dval_le {d : List UInt8} {q : Nat} (hq : q ≤ 12) (h : (d.take q).all digB = true) : 0 ≤ dval (d.take q) ∧ dval (d.take q) ≤ 1000000000000 := by
  have hb := dval_bound (d.take q).length (d.take q) rfl h
  have := pow12 (q := (d.take q).length) (by rw [List.length_take]; omega)
  omega

set_option maxRecDepth 100000 in
set_option maxHeartbeats 4000000 in
theorem rNumber_any (s : List UInt8) (most : Int) (w : World) (h0 : 0 ≤ most) (h1 : most ≤ 10000000000) (hs : s.length ≤ 9223372036854775807) :
    Calls Tryz.prog 79 #[.string (bs s), .int .i64 most] w fun e w' => e = .returned (.tuple #[.int .i64 (numR s most).1, .bool (numR s most).2]) ∧ ∃ n, w' = w.drewN n := by
  have hz : (bs s).size = s.length := bs_size s
  by_cases h12 : 12 < s.length
  · have He : Hid (((0 : Int), false) = numR s most) := by unfold numR; rw [Hid, if_pos h12]
    go_enter Tryz.func79, Tryz.ntmps79
    go_wp2
    refine bodyPost_ret (v := .tuple #[.int .i64 0, .bool false]) (by simp [results, Tryz.results79, go_sem]) rfl ?_
    exact ⟨by rw [← He.out], 0, rfl⟩
  have h12' : ¬ (12 : Int) < s.length := by omega
  go_enter Tryz.func79, Tryz.ntmps79
  go_upto_region 3 with (fail)
  go_cut [6, 7] from 13 to 20 (fun z v wx => z = .int .i64 0 ∧ v = .bool (minusB s) ∧ ∃ n, wx = w.drewN n)
  case first =>
    by_cases hl : 1 < s.length
    · have hl' : (1 : Int) < s.length := by omega
      have hg := bs_get s 0 (by rw [bs_size]; omega)
      by_cases hc : s[0] = 45
      · have Hm : Hid (minusB s = true) := by
          unfold minusB
          rw [Hid, List.getElem?_eq_getElem (by omega), hc]
          simp [hl]
        go_quiet (fail)
        go_wp2_with fail
        all_goals
          go_meet
          exact ⟨rfl, by rw [Hm.out], _, rfl⟩
      · have Hm : Hid (minusB s = false) := by
          unfold minusB
          rw [Hid, List.getElem?_eq_getElem (by omega)]
          simp [hc]
        have hd : (((s[0]).toNat : Int) == 45) = false := by
          rw [beq_eq_false_iff_ne]
          intro h
          exact hc (UInt8.toNat_inj.1 (by show _ = 45; omega))
        clear hc
        go_quiet (fail)
        go_wp2_with fail
        all_goals
          go_meet
          exact ⟨rfl, by rw [Hm.out], _, rfl⟩
    · have Hm : Hid (minusB s = false) := by
        unfold minusB
        simp [Hid, hl]
      have hl' : decide ((1 : Int) < s.length) = false := by simp; omega
      clear hl
      go_quiet (fail)
      go_wp2_with fail
      all_goals
        go_meet
        exact ⟨rfl, by rw [Hm.out], _, rfl⟩
  case rest =>
    obtain ⟨rfl, rfl, n0, rfl⟩ := hcut
    by_cases hm : minusB s = true
    · have hl : 1 < s.length := by
        unfold minusB at hm
        rw [Bool.and_eq_true] at hm
        exact of_decide_eq_true hm.1
      have hl0 : (1 : Int) ≤ s.length := by omega
      have Hbad : Hid ((digitsOf s).all digB = false → numR s most = (0, false)) := by
        intro h
        unfold numR
        rw [if_neg h12, h]
        rfl
      have Hok : Hid ((digitsOf s).all digB = true → numR s most = (-dval (digitsOf s), decide (-most ≤ -dval (digitsOf s) ∧ -dval (digitsOf s) ≤ most) && decide (Lib.itoa (-dval (digitsOf s)) = s))) := by
        intro h
        unfold numR numV
        rw [if_neg h12, h, if_pos hm]
        rfl
      have Hd : Hid ((bs s).extract 1 s.length = bs (digitsOf s)) := by rw [Hid, bs_drop]; unfold digitsOf; rw [if_pos hm]
      have hdl0 : (digitsOf s).length + 1 = s.length := by unfold digitsOf; rw [if_pos hm, List.length_drop]; omega
      rw [hm]
      go_wp2
      rw [Hd.out]
      clear Hd
      generalize digitsOf s = d at *
      have hdl : d.length ≤ 12 := by omega
      have hdz : (bs d).size = d.length := bs_size d
      go_loopw [6, 9] (fun v i wr => ∃ q : Nat, q ≤ d.length ∧ v = .int .i64 (dval (d.take q)) ∧ i = .int .i64 q ∧ Hid ((d.take q).all digB = true) ∧ wr = w.drewN n0) (fun _ i _ => d.length - (intOf i).toNat)
      case atStart => exact ⟨0, Nat.zero_le _, by simp [dval], rfl, by simp [Hid], rfl⟩
      case round =>
        obtain ⟨q, hq, rfl, rfl, Hall, rfl⟩ := hrel
        have hv := dval_le (by omega) Hall.out
        by_cases hlt : q < d.length
        · have hg := bs_get d q (by rw [bs_size]; exact hlt)
          have Hsn : Hid (dval (d.take (q + 1)) = 10 * dval (d.take q) + (((d[q]).toNat : Int) - 48)) := by rw [Hid, take_snoc d q hlt, dval_snoc]
          have Hal : Hid (digB d[q] = true → (d.take (q + 1)).all digB = true) := fun h => by rw [take_snoc d q hlt, List.all_append, Hall.out]; simpa using h
          have Hno : Hid (digB d[q] = false → numR s most = (0, false)) := fun h => Hbad.out (by rw [List.all_eq_false]; exact ⟨_, List.getElem_mem hlt, by rw [h]; decide⟩)
          generalize dval (d.take q) = v at *
          generalize d[q] = c at *
          by_cases hc : digB c = true
          · have hc1 := of_decide_eq_true hc
            have Hc := Lib.hid (Hal.out hc)
            have l1 : ¬ (c.toNat : Int) < 48 := by omega
            have l2 : ¬ (57 : Int) < c.toNat := by omega
            have s1 : IntKind.u8.wrap ((c.toNat : Int) - 48) = (c.toNat : Int) - 48 := by unfold IntKind.wrap; simp [IntKind.bits, IntKind.signed]; omega
            clear hc Hno
            go_wp2
            go_roundw
            case rel => exact ⟨q + 1, by omega, by rw [Hsn.out], by go_num, Hc.out, trivial⟩
            case measure => simp [intOf]; omega
          · have Hr := Lib.hid (Hno.out (by simpa using hc))
            have hc1 := of_decide_eq_false (by simpa using hc : digB c = false)
            clear hc Hno
            by_cases hlo : c.toNat < 48
            · have l1 : (c.toNat : Int) < 48 := by omega
              clear hc1 hlo
              go_wp2
              refine bodyPost_ret (v := .tuple #[.int .i64 0, .bool false]) (by simp [results, Tryz.results79, go_sem]) rfl ?_
              exact ⟨by rw [Hr.out], n0, rfl⟩
            · have l1 : ¬ (c.toNat : Int) < 48 := by omega
              have l2 : (57 : Int) < c.toNat := by omega
              clear hc1 hlo
              go_wp2
              refine bodyPost_ret (v := .tuple #[.int .i64 0, .bool false]) (by simp [results, Tryz.results79, go_sem]) rfl ?_
              exact ⟨by rw [Hr.out], n0, rfl⟩
        · have hq' : q = d.length := by omega
          have hv' : 0 ≤ dval d ∧ dval d ≤ 1000000000000 := by rw [hq', List.take_length] at hv; exact hv
          have hall : d.all digB = true := by have h := Hall.out; rw [hq', List.take_length] at h; exact h
          have Hr := Lib.hid (Hok.out hall)
          have hvd : dval (d.take q) = dval d := by rw [hq', List.take_length]
          rw [hvd]
          clear hvd hall hv
          generalize dval d = v at *
          by_cases hb : decide (-most ≤ -v ∧ -v ≤ most) = true
          · have Hb := Lib.hid hb
            clear hb
            go_wp2_with (first | (go_at_call 53; refine (rWithin_is _ _ _ true Hb.out _).mono ?_; rintro e w3 ⟨rfl, rfl⟩) | (go_at_call 76; refine (rText_q _ (by omega) (by omega) _).mono ?_; rintro e w3 ⟨rfl, rfl⟩))
            refine bodyPost_ret (v := .tuple #[.int .i64 (-v), .bool ((bs (Lib.itoa (-v))).toList == (bs s).toList)]) (by simp [results, Tryz.results79, go_sem]) rfl ?_
            refine ⟨?_, n0, rfl⟩
            rw [Hr.out, Hb.out, Bool.true_and, bs_toList, bs_toList, beq_dec]
          · have Hb := hid_not hb
            clear hb
            go_wp2_with (go_at_call 53; refine (rWithin_is _ _ _ false Hb.out _).mono ?_; rintro e w3 ⟨rfl, rfl⟩)
            refine bodyPost_ret (v := .tuple #[.int .i64 (-v), .bool false]) (by simp [results, Tryz.results79, go_sem]) rfl ?_
            exact ⟨by rw [Hr.out, Hb.out, Bool.false_and], n0, rfl⟩
    · have hm' : minusB s = false := by simpa using hm
      have hds : digitsOf s = s := by unfold digitsOf; rw [hm']; rfl
      have Hbad : Hid (s.all digB = false → numR s most = (0, false)) := by
        intro h
        unfold numR
        rw [if_neg h12, hds, h]
        rfl
      have Hok : Hid (s.all digB = true → numR s most = (dval s, decide (-most ≤ dval s ∧ dval s ≤ most) && decide (Lib.itoa (dval s) = s))) := by
        intro h
        unfold numR numV
        rw [if_neg h12, hds, h, hm']
        rfl
      rw [hm']
      clear hds
      go_wp2
      have hdl : s.length ≤ 12 := by omega
      have hdz : (bs s).size = s.length := bs_size s
      go_loopw [6, 9] (fun v i wr => ∃ q : Nat, q ≤ s.length ∧ v = .int .i64 (dval (s.take q)) ∧ i = .int .i64 q ∧ Hid ((s.take q).all digB = true) ∧ wr = w.drewN n0) (fun _ i _ => s.length - (intOf i).toNat)
      case atStart => exact ⟨0, Nat.zero_le _, by simp [dval], rfl, by simp [Hid], rfl⟩
      case round =>
        obtain ⟨q, hq, rfl, rfl, Hall, rfl⟩ := hrel
        have hv := dval_le (by omega) Hall.out
        by_cases hlt : q < s.length
        · have hg := bs_get s q (by rw [bs_size]; exact hlt)
          have Hsn : Hid (dval (s.take (q + 1)) = 10 * dval (s.take q) + (((s[q]).toNat : Int) - 48)) := by rw [Hid, take_snoc s q hlt, dval_snoc]
          have Hal : Hid (digB s[q] = true → (s.take (q + 1)).all digB = true) := fun h => by rw [take_snoc s q hlt, List.all_append, Hall.out]; simpa using h
          have Hno : Hid (digB s[q] = false → numR s most = (0, false)) := fun h => Hbad.out (by rw [List.all_eq_false]; exact ⟨_, List.getElem_mem hlt, by rw [h]; decide⟩)
          generalize dval (s.take q) = v at *
          generalize s[q] = c at *
          by_cases hc : digB c = true
          · have hc1 := of_decide_eq_true hc
            have Hc := Lib.hid (Hal.out hc)
            have l1 : ¬ (c.toNat : Int) < 48 := by omega
            have l2 : ¬ (57 : Int) < c.toNat := by omega
            have s1 : IntKind.u8.wrap ((c.toNat : Int) - 48) = (c.toNat : Int) - 48 := by unfold IntKind.wrap; simp [IntKind.bits, IntKind.signed]; omega
            clear hc Hno
            go_wp2
            go_roundw
            case rel => exact ⟨q + 1, by omega, by rw [Hsn.out], by go_num, Hc.out, trivial⟩
            case measure => simp [intOf]; omega
          · have Hr := Lib.hid (Hno.out (by simpa using hc))
            have hc1 := of_decide_eq_false (by simpa using hc : digB c = false)
            clear hc Hno
            by_cases hlo : c.toNat < 48
            · have l1 : (c.toNat : Int) < 48 := by omega
              clear hc1 hlo
              go_wp2
              refine bodyPost_ret (v := .tuple #[.int .i64 0, .bool false]) (by simp [results, Tryz.results79, go_sem]) rfl ?_
              exact ⟨by rw [Hr.out], n0, rfl⟩
            · have l1 : ¬ (c.toNat : Int) < 48 := by omega
              have l2 : (57 : Int) < c.toNat := by omega
              clear hc1 hlo
              go_wp2
              refine bodyPost_ret (v := .tuple #[.int .i64 0, .bool false]) (by simp [results, Tryz.results79, go_sem]) rfl ?_
              exact ⟨by rw [Hr.out], n0, rfl⟩
        · have hq' : q = s.length := by omega
          have hv' : 0 ≤ dval s ∧ dval s ≤ 1000000000000 := by rw [hq', List.take_length] at hv; exact hv
          have hall : s.all digB = true := by have h := Hall.out; rw [hq', List.take_length] at h; exact h
          have Hr := Lib.hid (Hok.out hall)
          have hvd : dval (s.take q) = dval s := by rw [hq', List.take_length]
          rw [hvd]
          clear hvd hall hv
          generalize dval s = v at *
          by_cases hb : decide (-most ≤ v ∧ v ≤ most) = true
          · have Hb := Lib.hid hb
            clear hb
            go_wp2_with (first | (go_at_call 53; refine (rWithin_is _ _ _ true Hb.out _).mono ?_; rintro e w3 ⟨rfl, rfl⟩) | (go_at_call 76; refine (rText_q _ (by omega) (by omega) _).mono ?_; rintro e w3 ⟨rfl, rfl⟩))
            refine bodyPost_ret (v := .tuple #[.int .i64 v, .bool ((bs (Lib.itoa v)).toList == (bs s).toList)]) (by simp [results, Tryz.results79, go_sem]) rfl ?_
            refine ⟨?_, n0, rfl⟩
            rw [Hr.out, Hb.out, Bool.true_and, bs_toList, bs_toList, beq_dec]
          · have Hb := hid_not hb
            clear hb
            go_wp2_with (go_at_call 53; refine (rWithin_is _ _ _ false Hb.out _).mono ?_; rintro e w3 ⟨rfl, rfl⟩)
            refine bodyPost_ret (v := .tuple #[.int .i64 v, .bool false]) (by simp [results, Tryz.results79, go_sem]) rfl ?_
            exact ⟨by rw [Hr.out, Hb.out, Bool.false_and], n0, rfl⟩
end Go.Proofs.YthcenmocnphnmaaGreatDoor
