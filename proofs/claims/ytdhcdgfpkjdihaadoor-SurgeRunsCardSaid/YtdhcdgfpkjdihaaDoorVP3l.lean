/-
  Layer 3, the program: around and steady.
-/
import Derived.Test.YtdhcdgfpkjdihaaDoorVP3k
import Derived.Test.YtdhcdgfpkjdihaaDoorVP3f
set_option linter.unusedSimpArgs false
set_option linter.unusedVariables false
namespace Go.Proofs.YtdhcdgfpkjdihaaDoor.Sg
open Go.RowKit Go.Shelf
theorem bits_one (a : Nat) : bits .and .i64 (a : Int) 1 = ((a % 2 : Nat) : Int) := by
 have e1 : (BitVec.ofInt 64 (a : Int)).toNat = a % 2 ^ 64 := by rw [BitVec.ofInt_natCast, BitVec.toNat_ofNat]
 have e2 : (BitVec.ofInt 64 (1 : Int)).toNat = 1 := by decide
 show IntKind.i64.wrap ((BitVec.ofInt 64 (a : Int) &&& BitVec.ofInt 64 (1 : Int)).toNat : Int) = _
 rw [BitVec.toNat_and, e1, e2, Nat.and_one_is_mod]
 rw [IntWalk.i64_in _ (by omega)]
 omega
def Z6f : Oper := ⟨some 31, .move (.tmp 9), 155, "setup.go:46", #[], none⟩
def Z6g : Oper := ⟨some 32, .call { callee := Callee.value (.func 113), args := #[.tmp 31], argTypes := #[155] }, 108, "setup.go:46", #[⟨0, .data⟩], none⟩
def Z6h : Oper := ⟨some 33, .fieldAddr 32 (.tmp 7) 2, 0, "setup.go:46", #[], none⟩
def Z6i : Oper := ⟨some 34, .load 26 (.tmp 33), 26, "setup.go:46", #[⟨2, .data⟩], none⟩
def Z6j : Oper := ⟨some 35, .call { callee := Callee.value (.func 115), args := #[.tmp 34], argTypes := #[26] }, 108, "setup.go:46", #[⟨3, .data⟩, ⟨1, .chain⟩], none⟩
def Z6k : Oper := ⟨some 36, .call { callee := Callee.value (.func 114), args := #[.tmp 32, .tmp 35], argTypes := #[108, 108] }, 108, "setup.go:46", #[⟨1, .data⟩, ⟨4, .data⟩, ⟨4, .chain⟩], none⟩
def Z6l : Oper := ⟨none, .store 108 (.tmp 8) (.tmp 36), 0, "setup.go:46", #[⟨5, .data⟩, ⟨5, .chain⟩, ⟨0, .phase⟩, ⟨1, .phase⟩, ⟨2, .phase⟩, ⟨3, .phase⟩, ⟨4, .phase⟩, ⟨5, .phase⟩], none⟩
theorem bo_info : (Tryd.prog.info? 108).map (fun i => (i.zero, i.size, i.bytes)) = some (some (.agg #[.int .i64 0, .int .i64 0]), 2, 16) := by kernel_rfl
theorem hull_take {a : Int × Int} {l : List (Int × Int)} {k : Nat} (h : k < l.length) : hullZ ((a :: l).take (k + 2)) = (min (hullZ ((a :: l).take (k + 1))).1 l[k].1, max (hullZ ((a :: l).take (k + 1))).2 l[k].2) := by
 have e : (a :: l).take (k + 2) = a :: (l.take k ++ [l[k]]) := by
  rw [List.take_succ_cons, ← List.take_succ_eq_append_getElem h]
 rw [e, List.take_succ_cons]
 simp only [hullZ, List.foldl_append, List.foldl_cons, List.foldl_nil]
set_option maxRecDepth 100000 in
set_option maxHeartbeats 4000000 in
theorem around_any (v : Value) (a : Int × Int) (l : List (Int × Int)) (w : World) (hs : SpansAt w w.heap.size v (a :: l)) (hl : l.length ≤ 1000) :
 Calls Tryd.prog 113 #[v] w fun e w' => e = .returned (.agg #[.int .i64 (hullZ (a :: l)).1, .int .i64 (hullZ (a :: l)).2]) ∧ Below w.heap.size w w' := by
 obtain ⟨A, c, rfl, hc, hlen⟩ := hs.open_
 obtain ⟨b, off, rfl, hb, c0, c1⟩ := hs.at_ (k := 0) (by simp)
 have HS := Lib.hid hs
 simp only [List.length_cons, List.getElem_cons_zero, Nat.zero_mul, Nat.add_zero] at *
 clear hs
 obtain ⟨⟨H1, H2⟩, hH⟩ : ∃ z, hullZ (a :: l) = z := ⟨_, rfl⟩
 rw [hH]
 have HH := Lib.hid hH
 clear hH
 obtain ⟨a1, a2⟩ := a
 simp only at c0 c1
 by_cases hc1 : c = 1
 ·
  subst hc1
  go_enter Tryd.func113, Tryd.ntmps113
  go_upto_region 2 with (fail)
  obtain ⟨V0, hV⟩ : ∃ V, (w.alloc (.cells #[.int .i64 0, .int .i64 0] 108)).alloc (.cells #[.int .i64 a1, .int .i64 a2] 108) = V := ⟨_, rfl⟩
  have K2 : Hid (Blk V0 w.heap.size 108 #[.int .i64 0, .int .i64 0]) := by rw [← hV]; exact (Blk.new' _ _ _ rfl).alloc _
  have K3 : Hid (Blk V0 (w.heap.size + 1) 108 #[.int .i64 a1, .int .i64 a2]) := by rw [← hV]; exact Blk.new' _ _ _ (by simp)
  have KB : Hid (Below w.heap.size w V0) := by rw [← hV]; exact (by repeat (first | exact Below.refl _ _ | assumption | refine Below.drew ?_ | refine Below.drewN' ?_ _ | (refine Below.alloc ?_ (by simp <;> omega) _) | (refine Below.setCell ?_ (by simp <;> omega) _)))
  rw [hV]
  clear hV
  obtain ⟨b3, hb3⟩ : ∃ b, w.heap.size + 1 = b := ⟨_, rfl⟩
  obtain ⟨b2, hb2⟩ : ∃ b, w.heap.size = b := ⟨_, rfl⟩
  have n32 : ¬ b3 = b2 := by omega
  have n23 : ¬ b2 = b3 := by omega
  have g3 : w.heap.size ≤ b3 := by omega
  have g2 : w.heap.size ≤ b2 := by omega
  rw [hb3] at K3 ⊢
  rw [hb2] at K2 hb ⊢
  have HN := Lib.hid hb2
  clear hb2 hb3 c0 c1
  have hone : (1 : Int) ≤ (l.length : Int) + 1 := by omega
  have hl0 : l.length = 0 := by omega
  go_wp2
  go_loopw [12] (fun i wr => ∃ (k : Nat), k ≤ l.length ∧ i = .int .i64 (k : Int) ∧ Hid (Blk wr b3 108 #[.int .i64 (hullZ (((a1, a2) :: l).take (k + 1))).1, .int .i64 (hullZ (((a1, a2) :: l).take (k + 1))).2]) ∧ Hid (Blk wr b2 108 #[.int .i64 0, .int .i64 0]) ∧ Hid (Below w.heap.size w wr)) (fun i _ => l.length - (intOf i).toNat)
  case atStart => exact ⟨0, Nat.zero_le _, rfl, by simpa [hullZ] using K3, K2, KB⟩
  case round =>
   clear K2 K3 KB
   obtain ⟨k, hk, rfl, H3, Hz, HB⟩ := hrel
   by_cases hlt : k < l.length
   · obtain ⟨b', off', e, hb', x0, x1⟩ := (HS.out.below HB.out).at_ (k := k + 1) (by simp; omega)
     injection e with e
     injection e with e1 e2
     subst e1 e2
     simp only [List.getElem_cons_succ] at x0 x1
     have eo : off + (k + 1) * 2 = off + 2 + k * 2 := by omega
     rw [eo] at x0 x1
     have hst := hull_take (a := (a1, a2)) hlt
     obtain ⟨⟨y1, y2⟩, hy⟩ : ∃ z, l[k] = z := ⟨_, rfl⟩
     rw [hy] at x0 x1 hst
     obtain ⟨⟨m1, m2⟩, hm⟩ : ∃ z, hullZ (((a1, a2) :: l).take (k + 1)) = z := ⟨_, rfl⟩
     rw [hm] at H3 hst
     simp only at x0 x1 hst
     have e3 : min m1 y1 = if y1 < m1 then y1 else m1 := by split <;> omega
     have e4 : max m2 y2 = if m2 < y2 then y2 else m2 := by split <;> omega
     rw [e3, e4] at hst
     have HST := Lib.hid hst
     obtain ⟨u0, u1, v0, v1⟩ := span_parts H3.out
     have hlt' : (k : Int) < (l.length : Int) := by omega
     have l3 := H3.out.lt
     have l2 := Hz.out.lt
     clear hst e3 e4 hy hm eo
     go_wp2
     all_goals
      go_roundw
      case rel =>
       refine ⟨k + 1, by omega, by go_num, ?_, ?_, ?_⟩
       · rw [HST.out]
         exact ((H3.out.set_ 0 _).set_ 1 _).alloc _
       · exact ((Hz.out.far_ (p := ⟨b3, 0, none⟩) n23 _).far_ (p := ⟨b3, 1, none⟩) n23 _).alloc _
       · exact ((HB.out.setCell (p := ⟨b3, 0, none⟩) g3 _).setCell (p := ⟨b3, 1, none⟩) g3 _).alloc (by simp; exact HB.out.size) _
      case measure => simp [intOf]; omega
   · have hk' : k = l.length := by omega
     have H3' : Blk wr b3 108 #[.int .i64 H1, .int .i64 H2] := by
      have h := H3.out
      rw [hk', show l.length + 1 = ((a1, a2) :: l).length from rfl, List.take_length, HH.out] at h
      exact h
     have H4 := Lib.hid H3'
     clear hk' H3'
     obtain ⟨u0, u1, -, -⟩ := span_parts H4.out
     obtain ⟨t0, t1, v0, v1⟩ := span_parts Hz.out
     go_wp2
     have hR := fun x y => span_res2 Hz.out x y
     refine bodyPost_ret (v := .agg #[.int .i64 H1, .int .i64 H2]) (by simp [results, Tryd.results113, go_sem, hR]) rfl ⟨rfl, ?_⟩
     exact (HB.out.setCell (p := ⟨b2, 0, none⟩) g2 _).setCell (p := ⟨b2, 1, none⟩) g2 _
 ·
  go_enter Tryd.func113, Tryd.ntmps113
  go_upto_region 2 with (fail)
  obtain ⟨V0, hV⟩ : ∃ V, (w.alloc (.cells #[.int .i64 0, .int .i64 0] 108)).alloc (.cells #[.int .i64 a1, .int .i64 a2] 108) = V := ⟨_, rfl⟩
  have K2 : Hid (Blk V0 w.heap.size 108 #[.int .i64 0, .int .i64 0]) := by rw [← hV]; exact (Blk.new' _ _ _ rfl).alloc _
  have K3 : Hid (Blk V0 (w.heap.size + 1) 108 #[.int .i64 a1, .int .i64 a2]) := by rw [← hV]; exact Blk.new' _ _ _ (by simp)
  have KB : Hid (Below w.heap.size w V0) := by rw [← hV]; exact (by repeat (first | exact Below.refl _ _ | assumption | refine Below.drew ?_ | refine Below.drewN' ?_ _ | (refine Below.alloc ?_ (by simp <;> omega) _) | (refine Below.setCell ?_ (by simp <;> omega) _)))
  rw [hV]
  clear hV
  obtain ⟨b3, hb3⟩ : ∃ b, w.heap.size + 1 = b := ⟨_, rfl⟩
  obtain ⟨b2, hb2⟩ : ∃ b, w.heap.size = b := ⟨_, rfl⟩
  have n32 : ¬ b3 = b2 := by omega
  have n23 : ¬ b2 = b3 := by omega
  have g3 : w.heap.size ≤ b3 := by omega
  have g2 : w.heap.size ≤ b2 := by omega
  rw [hb3] at K3 ⊢
  rw [hb2] at K2 hb ⊢
  have HN := Lib.hid hb2
  clear hb2 hb3 c0 c1
  have hone : (1 : Int) ≤ (l.length : Int) + 1 := by omega
  have hc' : (l.length : Int) + 1 ≤ (c : Int) := by omega
  go_wp2
  go_loopw [12] (fun i wr => ∃ (k : Nat), k ≤ l.length ∧ i = .int .i64 (k : Int) ∧ Hid (Blk wr b3 108 #[.int .i64 (hullZ (((a1, a2) :: l).take (k + 1))).1, .int .i64 (hullZ (((a1, a2) :: l).take (k + 1))).2]) ∧ Hid (Blk wr b2 108 #[.int .i64 0, .int .i64 0]) ∧ Hid (Below w.heap.size w wr)) (fun i _ => l.length - (intOf i).toNat)
  case atStart => exact ⟨0, Nat.zero_le _, rfl, by simpa [hullZ] using K3, K2, KB⟩
  case round =>
   clear K2 K3 KB
   obtain ⟨k, hk, rfl, H3, Hz, HB⟩ := hrel
   by_cases hlt : k < l.length
   · obtain ⟨b', off', e, hb', x0, x1⟩ := (HS.out.below HB.out).at_ (k := k + 1) (by simp; omega)
     injection e with e
     injection e with e1 e2
     subst e1 e2
     simp only [List.getElem_cons_succ] at x0 x1
     have eo : off + (k + 1) * 2 = off + 2 + k * 2 := by omega
     rw [eo] at x0 x1
     have hst := hull_take (a := (a1, a2)) hlt
     obtain ⟨⟨y1, y2⟩, hy⟩ : ∃ z, l[k] = z := ⟨_, rfl⟩
     rw [hy] at x0 x1 hst
     obtain ⟨⟨m1, m2⟩, hm⟩ : ∃ z, hullZ (((a1, a2) :: l).take (k + 1)) = z := ⟨_, rfl⟩
     rw [hm] at H3 hst
     simp only at x0 x1 hst
     have e3 : min m1 y1 = if y1 < m1 then y1 else m1 := by split <;> omega
     have e4 : max m2 y2 = if m2 < y2 then y2 else m2 := by split <;> omega
     rw [e3, e4] at hst
     have HST := Lib.hid hst
     obtain ⟨u0, u1, v0, v1⟩ := span_parts H3.out
     have hlt' : (k : Int) < (l.length : Int) := by omega
     have l3 := H3.out.lt
     have l2 := Hz.out.lt
     clear hst e3 e4 hy hm eo
     go_wp2
     all_goals
      go_roundw
      case rel =>
       refine ⟨k + 1, by omega, by go_num, ?_, ?_, ?_⟩
       · rw [HST.out]
         exact ((H3.out.set_ 0 _).set_ 1 _).alloc _
       · exact ((Hz.out.far_ (p := ⟨b3, 0, none⟩) n23 _).far_ (p := ⟨b3, 1, none⟩) n23 _).alloc _
       · exact ((HB.out.setCell (p := ⟨b3, 0, none⟩) g3 _).setCell (p := ⟨b3, 1, none⟩) g3 _).alloc (by simp; exact HB.out.size) _
      case measure => simp [intOf]; omega
   · have hk' : k = l.length := by omega
     have H3' : Blk wr b3 108 #[.int .i64 H1, .int .i64 H2] := by
      have h := H3.out
      rw [hk', show l.length + 1 = ((a1, a2) :: l).length from rfl, List.take_length, HH.out] at h
      exact h
     have H4 := Lib.hid H3'
     clear hk' H3'
     obtain ⟨u0, u1, -, -⟩ := span_parts H4.out
     obtain ⟨t0, t1, v0, v1⟩ := span_parts Hz.out
     go_wp2
     have hR := fun x y => span_res2 Hz.out x y
     refine bodyPost_ret (v := .agg #[.int .i64 H1, .int .i64 H2]) (by simp [results, Tryd.results113, go_sem, hR]) rfl ⟨rfl, ?_⟩
     exact (HB.out.setCell (p := ⟨b2, 0, none⟩) g2 _).setCell (p := ⟨b2, 1, none⟩) g2 _
theorem bit_yes {n k : Nat} (h : bitB (n : Int) k = true) : bits .and .i64 ((n : Int) / 2 ^ k) 1 = 1 := by
 have h1 := of_decide_eq_true h
 have e : (n : Int) / 2 ^ k = ((n / 2 ^ k : Nat) : Int) := by simp
 rw [e] at h1 ⊢
 have : (n / 2 ^ k) % 2 = 1 := by omega
 have hm : bits .and .i64 ((n / 2 ^ k : Nat) : Int) 1 = (((n / 2 ^ k) % 2 : Nat) : Int) := bits_one _
 rw [hm, this]
 rfl
theorem bit_no {n k : Nat} (h : bitB (n : Int) k = false) : bits .and .i64 ((n : Int) / 2 ^ k) 1 = 0 := by
 have h1 := of_decide_eq_false h
 have e : (n : Int) / 2 ^ k = ((n / 2 ^ k : Nat) : Int) := by simp
 rw [e] at h1 ⊢
 have : (n / 2 ^ k) % 2 = 0 := by omega
 have hm : bits .and .i64 ((n / 2 ^ k : Nat) : Int) 1 = (((n / 2 ^ k) % 2 : Nat) : Int) := bits_one _
 rw [hm, this]
 rfl
set_option maxRecDepth 100000 in
set_option maxHeartbeats 8000000 in
theorem steady_any (WW HH SS : Int) (ss : List (Int × Int)) (A : Option Addr) (c : Nat) (lo hi d1 d2 l1 l2 : Int) (cell : Nat) (s1 s2 : Int) (n : Nat) (p1 p2 : Int) (w : World) (HD : DirsAt w) (hs : SpansAt w w.heap.size (.slice A ss.length c) ss) (hE : checkE ⟨WW, HH, SS, ss⟩ = 0) (hse : spOk (-20000) 20000 (lo, hi) = true) (hm : moE ⟨(d1, d2), (l1, l2)⟩ = 0) (hw : wiE ⟨(s1, s2), (n : Nat), (p1, p2)⟩ = 0) (hc : cell < ss.length) :
 Calls Tryd.prog 74 #[.agg #[.int .i64 (WW), .int .i64 (HH), .int .i64 (SS), .slice A ss.length c, .int .i64 (lo), .int .i64 (hi)], .agg #[.int .i64 (d1), .int .i64 (d2), .int .i64 (l1), .int .i64 (l2)], .int .i64 (cell : Int), .agg #[.int .i64 (s1), .int .i64 (s2), .int .i64 ((n : Nat)), .int .i64 (p1), .int .i64 (p2)]] w fun e w' => e = .returned (.agg #[.int .i64 (steadyZ ⟨WW, HH, SS, ss⟩ (lo, hi) ⟨(d1, d2), (l1, l2)⟩ (cell : Int) ⟨(s1, s2), (n : Nat), (p1, p2)⟩).1, .int .i64 (steadyZ ⟨WW, HH, SS, ss⟩ (lo, hi) ⟨(d1, d2), (l1, l2)⟩ (cell : Int) ⟨(s1, s2), (n : Nat), (p1, p2)⟩).2]) ∧ Below w.heap.size w w' := by
 obtain ⟨hW, hH, hS, hLen, -⟩ := checkE_zero hE
 have hg := fun c => (gr_ok hE c).1
 have hsp' := (spOk_iff.1 hse).1
 obtain ⟨hws, hwp, hn1, hn2⟩ := wiE_zero hw
 simp only at hW hH hS hLen hsp' hws hwp hn1 hn2
 have hn8 : dirsZ (n : Int) ≠ [] := dirs_ne hn1 hn2
 have hbd : Hid (∀ d, d < 8 → (-9000000000 ≤ (setupZ ⟨WW, HH, SS, ss⟩ (lo, hi) ⟨(d1, d2), (l1, l2)⟩ (cell : Int) d (s1, s2)).1 ∧ (setupZ ⟨WW, HH, SS, ss⟩ (lo, hi) ⟨(d1, d2), (l1, l2)⟩ (cell : Int) d (s1, s2)).1 ≤ 9000000000) ∧ (-9000000000 ≤ (setupZ ⟨WW, HH, SS, ss⟩ (lo, hi) ⟨(d1, d2), (l1, l2)⟩ (cell : Int) d (s1, s2)).2 ∧ (setupZ ⟨WW, HH, SS, ss⟩ (lo, hi) ⟨(d1, d2), (l1, l2)⟩ (cell : Int) d (s1, s2)).2 ≤ 9000000000)) := fun d hd => setup_bd (g := ⟨WW, HH, SS, ss⟩) (sea := (lo, hi)) (m := ⟨(d1, d2), (l1, l2)⟩) hd hg hsp' hm hws hW hH hS (by simp only; omega)
 have hpb := pres_bd hwp
 have hul := hull_bd (l := (dirsZ (n : Int)).map (fun d => setupZ ⟨WW, HH, SS, ss⟩ (lo, hi) ⟨(d1, d2), (l1, l2)⟩ (cell : Int) d (s1, s2))) (M := 9000000000) (by omega) fun x hx => by
  obtain ⟨d, hd, rfl⟩ := List.mem_map.1 hx
  exact hbd.out d (dirs_mem.1 hd).1
 have hv : steadyZ ⟨WW, HH, SS, ss⟩ (lo, hi) ⟨(d1, d2), (l1, l2)⟩ (cell : Int) ⟨(s1, s2), (n : Nat), (p1, p2)⟩ = ((hullZ ((dirsZ (n : Int)).map (fun d => setupZ ⟨WW, HH, SS, ss⟩ (lo, hi) ⟨(d1, d2), (l1, l2)⟩ (cell : Int) d (s1, s2)))).1 + (presZ (p1, p2)).1, (hullZ ((dirsZ (n : Int)).map (fun d => setupZ ⟨WW, HH, SS, ss⟩ (lo, hi) ⟨(d1, d2), (l1, l2)⟩ (cell : Int) d (s1, s2)))).2 + (presZ (p1, p2)).2) := rfl
 rw [hv]
 clear hv
 have hD8 : dirsZ (n : Int) = (List.range 8).filter (bitB (n : Int)) := rfl
 rw [hD8] at hul hn8 ⊢
 have hhd : ∃ a l, (((List.range 8).filter (bitB (n : Int))).map (fun d => setupZ ⟨WW, HH, SS, ss⟩ (lo, hi) ⟨(d1, d2), (l1, l2)⟩ (cell : Int) d (s1, s2))) = a :: l ∧ l.length ≤ 1000 := by
  have hle : (((List.range 8).filter (bitB (n : Int))).map (fun d => setupZ ⟨WW, HH, SS, ss⟩ (lo, hi) ⟨(d1, d2), (l1, l2)⟩ (cell : Int) d (s1, s2))).length ≤ 8 := by
   rw [List.length_map]
   exact Nat.le_trans (List.length_filter_le _ _) (by simp)
  cases e : (((List.range 8).filter (bitB (n : Int))).map (fun d => setupZ ⟨WW, HH, SS, ss⟩ (lo, hi) ⟨(d1, d2), (l1, l2)⟩ (cell : Int) d (s1, s2))) with
  | nil => exact absurd (List.map_eq_nil_iff.1 e) hn8
  | cons a l =>
   rw [e] at hle
   simp only [List.length_cons] at hle
   exact ⟨a, l, rfl, by omega⟩
 obtain ⟨X, hX⟩ : ∃ z, hullZ (((List.range 8).filter (bitB (n : Int))).map (fun d => setupZ ⟨WW, HH, SS, ss⟩ (lo, hi) ⟨(d1, d2), (l1, l2)⟩ (cell : Int) d (s1, s2))) = z := ⟨_, rfl⟩
 obtain ⟨⟨P1, P2⟩, hP⟩ : ∃ z, presZ (p1, p2) = z := ⟨_, rfl⟩
 rw [hX] at hul ⊢
 rw [hP] at hpb ⊢
 obtain ⟨X1, X2⟩ := X
 simp only at hul hpb ⊢
 have HHD := Lib.hid hhd
 have HX := Lib.hid hX
 have HP := Lib.hid hP
 have HE := Lib.hid hE
 have HSE := Lib.hid hse
 have HM := Lib.hid hm
 have HWS := Lib.hid hws
 have HWP := Lib.hid hwp
 have HDR := Lib.hid HD
 have HSS3 := Lib.hid hs
 clear hX hP hE hse HD hs hm hw hg hsp' hws hwp hn8 hD8 hhd
 obtain ⟨i0, hi0, hz0, hz1, hz2⟩ := info_parts bo_info
 go_enter Tryd.func74, Tryd.ntmps74
 go_upto_region 1 with (fail)
 obtain ⟨Va1, hV⟩ : ∃ V, (((w.alloc (.cells #[.int .i64 (WW), .int .i64 (HH), .int .i64 (SS), .slice A ss.length c, .int .i64 (lo), .int .i64 (hi)] 110)).alloc (.cells #[.int .i64 (d1), .int .i64 (d2), .int .i64 (l1), .int .i64 (l2)] 28)).alloc (.cells #[.int .i64 (s1), .int .i64 (s2), .int .i64 ((n : Nat)), .int .i64 (p1), .int .i64 (p2)] 32)).alloc (.cells #[.int .i64 (0), .int .i64 (0)] 108) = V := ⟨_, rfl⟩
 have Kb4 : Hid (Blk Va1 (w.heap.size) 110 #[.int .i64 (WW), .int .i64 (HH), .int .i64 (SS), .slice A ss.length c, .int .i64 (lo), .int .i64 (hi)]) := by rw [← hV]; exact (((Blk.new' _ _ _ (by simp)).alloc _).alloc _).alloc _
 have Kb5 : Hid (Blk Va1 (w.heap.size + 1) 28 #[.int .i64 (d1), .int .i64 (d2), .int .i64 (l1), .int .i64 (l2)]) := by rw [← hV]; exact ((Blk.new' _ _ _ (by simp)).alloc _).alloc _
 have Kb7 : Hid (Blk Va1 (w.heap.size + 1 + 1) 32 #[.int .i64 (s1), .int .i64 (s2), .int .i64 ((n : Nat)), .int .i64 (p1), .int .i64 (p2)]) := by rw [← hV]; exact (Blk.new' _ _ _ (by simp)).alloc _
 have Kb8 : Hid (Blk Va1 (w.heap.size + 1 + 1 + 1) 108 #[.int .i64 (0), .int .i64 (0)]) := by rw [← hV]; exact Blk.new' _ _ _ (by simp)
 have GHB : Hid (Below w.heap.size w Va1) := by rw [← hV]; exact (by repeat (first | exact Below.refl _ _ | assumption | refine Below.drew ?_ | refine Below.drewN' ?_ _ | (refine Below.alloc ?_ (by simp <;> omega) _) | (refine Below.setCell ?_ (by simp <;> omega) _)))
 have HZ : Hid (Below w.heap.size w Va1) := GHB
 have GHDR := Lib.hid (HDR.out.later HZ.out)
 have GHSS3 := Lib.hid (HSS3.out.later HZ.out (Nat.le_refl _))
 rw [hV]
 clear hV HZ HDR HSS3
 have HB := GHB
 clear GHB
 have HDR := GHDR
 clear GHDR
 have HSS3 := GHSS3
 clear GHSS3
 obtain ⟨b8, hqb8⟩ : ∃ b, w.heap.size + 1 + 1 + 1 = b := ⟨_, rfl⟩
 obtain ⟨b7, hqb7⟩ : ∃ b, w.heap.size + 1 + 1 = b := ⟨_, rfl⟩
 obtain ⟨b5, hqb5⟩ : ∃ b, w.heap.size + 1 = b := ⟨_, rfl⟩
 obtain ⟨b4, hqb4⟩ : ∃ b, w.heap.size = b := ⟨_, rfl⟩
 have gb4 : w.heap.size ≤ b4 := by omega
 have gb5 : w.heap.size ≤ b5 := by omega
 have nb5b4 : ¬ b5 = b4 := by omega
 have nb4b5 : ¬ b4 = b5 := by omega
 have gb7 : w.heap.size ≤ b7 := by omega
 have nb7b4 : ¬ b7 = b4 := by omega
 have nb4b7 : ¬ b4 = b7 := by omega
 have nb7b5 : ¬ b7 = b5 := by omega
 have nb5b7 : ¬ b5 = b7 := by omega
 have gb8 : w.heap.size ≤ b8 := by omega
 have nb8b4 : ¬ b8 = b4 := by omega
 have nb4b8 : ¬ b4 = b8 := by omega
 have nb8b5 : ¬ b8 = b5 := by omega
 have nb5b8 : ¬ b5 = b8 := by omega
 have nb8b7 : ¬ b8 = b7 := by omega
 have nb7b8 : ¬ b7 = b8 := by omega
 rw [hqb8] at Kb8 ⊢
 clear hqb8
 rw [hqb7] at Kb7 ⊢
 clear hqb7
 rw [hqb5] at Kb5 ⊢
 clear hqb5
 have HN : Hid (w.heap.size = b4) := hqb4
 rw [hqb4] at Kb4 ⊢
 clear hqb4
 have Hb4 := Kb4
 clear Kb4
 have Hb5 := Kb5
 clear Kb5
 have Hb7 := Kb7
 clear Kb7
 have Hb8 := Kb8
 clear Kb8
 have HPQ : Hid (∀ U, Below Va1.heap.size Va1 U → (DirsAt U ∧ SpansAt U U.heap.size (.slice A ss.length c) ss) ∧ Below w.heap.size w U) := fun U hU => ⟨⟨HDR.out.later hU, HSS3.out.later hU (Nat.le_refl _)⟩, HB.out.trans (hU.mono HB.out.size)⟩
 have LB := HB.out.size
 clear HDR HSS3
 go_wp2
 go_loopw [9, 11] (fun sv iv wr => ∃ (k : Nat) (va : Value), va = sv ∧ k ≤ 8 ∧ iv = .int .i64 (k : Int) ∧ Hid (wr.ownsRow Va1.heap.size 108 2 va (((List.range k).filter (bitB (n : Int))).map (fun d => setupZ ⟨WW, HH, SS, ss⟩ (lo, hi) ⟨(d1, d2), (l1, l2)⟩ (cell : Int) d (s1, s2))).length (spanCells (((List.range k).filter (bitB (n : Int))).map (fun d => setupZ ⟨WW, HH, SS, ss⟩ (lo, hi) ⟨(d1, d2), (l1, l2)⟩ (cell : Int) d (s1, s2))))) ∧ Hid (Below Va1.heap.size Va1 wr)) (fun _ iv _ => 8 - (intOf iv).toNat)
 case atStart => exact ⟨0, _, rfl, by omega, rfl, World.ownsRow_nil _ _ _ _, Below.refl _ _⟩
 case round =>
  obtain ⟨k, va, rfl, hk, rfl, HO, HBV⟩ := hrel
  have Kb4 := Lib.hid (Hb4.out.below HBV.out Hb4.out.lt)
  have Kb5 := Lib.hid (Hb5.out.below HBV.out Hb5.out.lt)
  have Kb7 := Lib.hid (Hb7.out.below HBV.out Hb7.out.lt)
  have Kb8 := Lib.hid (Hb8.out.below HBV.out Hb8.out.lt)
  have hln : (((List.range k).filter (bitB (n : Int))).map (fun d => setupZ ⟨WW, HH, SS, ss⟩ (lo, hi) ⟨(d1, d2), (l1, l2)⟩ (cell : Int) d (s1, s2))).length ≤ k := by rw [List.length_map]; exact Nat.le_trans (List.length_filter_le _ _) (by simp)
  by_cases hlt : k < 8
  · by_cases hbit : bitB (n : Int) k = true
    · have hsnoc : (((List.range (k + 1)).filter (bitB (n : Int))).map (fun d => setupZ ⟨WW, HH, SS, ss⟩ (lo, hi) ⟨(d1, d2), (l1, l2)⟩ (cell : Int) d (s1, s2))) = (((List.range k).filter (bitB (n : Int))).map (fun d => setupZ ⟨WW, HH, SS, ss⟩ (lo, hi) ⟨(d1, d2), (l1, l2)⟩ (cell : Int) d (s1, s2))) ++ [setupZ ⟨WW, HH, SS, ss⟩ (lo, hi) ⟨(d1, d2), (l1, l2)⟩ (cell : Int) k (s1, s2)] := by rw [List.range_succ, List.filter_append, List.map_append]; simp [hbit]
      have HSN := Lib.hid hsnoc
      have hq : bits .and .i64 ((n : Int) / 2 ^ k) 1 = 1 := bit_yes hbit
      have hbk := hbd.out k hlt
      obtain ⟨⟨Y1, Y2⟩, hY⟩ : ∃ z, setupZ ⟨WW, HH, SS, ss⟩ (lo, hi) ⟨(d1, d2), (l1, l2)⟩ (cell : Int) k (s1, s2) = z := ⟨_, rfl⟩
      rw [hY] at hbk HSN
      have HY := Lib.hid hY
      clear hsnoc hbit hY
      obtain ⟨ls, hls⟩ : ∃ z, (((List.range k).filter (bitB (n : Int))).map (fun d => setupZ ⟨WW, HH, SS, ss⟩ (lo, hi) ⟨(d1, d2), (l1, l2)⟩ (cell : Int) d (s1, s2))) = z := ⟨_, rfl⟩
      rw [hls] at HO hln HSN
      clear hls
      have Hb4 := Kb4
      have Hb5 := Kb5
      have Hb7 := Kb7
      have Hb8 := Kb8
      clear Kb4 Kb5 Kb7 Kb8
      have cb40 := kcl0 Hb4
      have cb41 := kcl1 Hb4
      have cb42 := kcl2 Hb4
      have cb43 := kcl3 Hb4
      have cb44 := kcl4 Hb4
      have cb45 := kcl5 Hb4
      have cb50 := kcl0 Hb5
      have cb51 := kcl1 Hb5
      have cb52 := kcl2 Hb5
      have cb53 := kcl3 Hb5
      have cb70 := kcl0 Hb7
      have cb71 := kcl1 Hb7
      have cb72 := kcl2 Hb7
      have cb73 := kcl3 Hb7
      have cb74 := kcl4 Hb7
      go_wp2_with fail
      refine (setup_any WW HH SS ss A c lo hi d1 d2 l1 l2 cell k s1 s2 _ (HPQ.out _ HBV.out).1.1 (HPQ.out _ HBV.out).1.2 HE.out HSE.out HM.out HWS.out hlt hc).mono ?_
      rintro e U1 ⟨rfl, hb⟩
      rw [HY.out]
      have HB1 := Lib.hid (HBV.out.trans (hb.mono HBV.out.size))
      have HO1 := Lib.hid (own_below HO.out hb (Nat.le_refl _))
      clear hb
      clear cb40 cb41 cb42 cb43 cb44 cb45 cb50 cb51 cb52 cb53 cb70 cb71 cb72 cb73 cb74
      have lsz := HB1.out.size
      go_wp2_with (at_builtin; ((refine wpList_append_own_at _ rfl (.tmp 20) (.tmp 28) 155 rfl Va1.heap.size 108 i0 (.agg #[.int .i64 0, .int .i64 0]) 2 16 Tryd.underlying155 hi0 hz0 hz1 hz2 rfl (by decide) va ls.length _ rfl (HO1.out.alloc _) ⟨U1.heap.size, 0, none⟩ 1 1 [.int .i64 Y1, .int .i64 Y2] rfl rfl (cells_two_new _ _ _ _ (by simp)) (by simp [Value.oneCell']) (by unfold maxLen; omega) (by omega) (by simp <;> omega) ?_; intro v1 w8 hown1 hg1 _ _; have HO8 := Lib.hid hown1; have HB8 := Lib.hid ((HB1.out.alloc HB1.out.size _).grown hg1 (by simp; omega) (fun k e => (HO1.out.lt k e).1)); clear hown1 hg1)))
      go_roundw
      case rel => exact ⟨k + 1, _, rfl, by omega, by go_num, by rw [HSN.out, List.length_append, spanCells_append]; exact HO8.out, HB8⟩
      case measure => simp [intOf]; omega
    · have hbit' : bitB (n : Int) k = false := by simpa using hbit
      have hsnoc : (((List.range (k + 1)).filter (bitB (n : Int))).map (fun d => setupZ ⟨WW, HH, SS, ss⟩ (lo, hi) ⟨(d1, d2), (l1, l2)⟩ (cell : Int) d (s1, s2))) = (((List.range k).filter (bitB (n : Int))).map (fun d => setupZ ⟨WW, HH, SS, ss⟩ (lo, hi) ⟨(d1, d2), (l1, l2)⟩ (cell : Int) d (s1, s2))) := by rw [List.range_succ, List.filter_append, List.map_append]; simp [hbit']
      have HSN := Lib.hid hsnoc
      have hq : bits .and .i64 ((n : Int) / 2 ^ k) 1 = 0 := bit_no hbit'
      clear hsnoc hbit hbit'
      have y1 : wr.cell? ⟨b7, 2, none⟩ = some (.int .i64 (n : Nat)) := Kb7.out.cell 2
      go_wp2
      go_roundw
      case rel => exact ⟨k + 1, _, rfl, by omega, by go_num, by rw [HSN.out]; exact HO, HBV⟩
      case measure => simp [intOf]; omega
  · have hk8 : k = 8 := by omega
    subst hk8
    obtain ⟨ax, lx, hax, hlx⟩ := HHD.out
    have HAX := Lib.hid hax
    rw [hax] at HO HX
    have HSA : Hid (SpansAt wr wr.heap.size va (ax :: lx)) := Reads.of_own HO.out
    have GHB := Lib.hid (HB.out.trans (HBV.out.mono HB.out.size))
    clear hax HO Hb4 Hb5 Hb7 Hb8 Kb4 Kb5 HB HAX hln
    obtain ⟨Vr, hVr⟩ : ∃ V, wr = V := ⟨_, rfl⟩
    rw [hVr] at GHB HSA Kb7 Kb8 ⊢
    have Hb7 := Kb7
    have Hb8 := Kb8
    have HB := GHB
    clear GHB Kb7 Kb8
    have HSV2 : Hid (∀ U, Below Vr.heap.size Vr U → SpansAt U U.heap.size va (ax :: lx)) := fun U hU => HSA.out.later hU (Nat.le_refl _)
    go_upto_region 8 with (fail)
    have HSV : Hid (∀ U, Below Vr.heap.size Vr U → U.cell? ⟨b7, 0, none⟩ = some (.int .i64 (s1)) ∧ U.cell? ⟨b7, 1, none⟩ = some (.int .i64 (s2)) ∧ U.cell? ⟨b7, 2, none⟩ = some (.int .i64 ((n : Nat))) ∧ U.cell? ⟨b7, 3, none⟩ = some (.int .i64 (p1)) ∧ U.cell? ⟨b7, 4, none⟩ = some (.int .i64 (p2))) := fun U hU => by
     have kb7 := Hb7.out.below hU Hb7.out.lt
     exact ⟨kb7.cell 0, kb7.cell 1, kb7.cell 2, kb7.cell 3, kb7.cell 4⟩
    have k0 := HSV.out _ (Below.drew (Below.refl Vr.heap.size Vr))
    refine wp_region_noPanic ?_
    refine wp_region_L (S := (fun w' => w'.cell? ⟨b7, 0, none⟩ = some (.int .i64 (s1)) ∧ w'.cell? ⟨b7, 1, none⟩ = some (.int .i64 (s2)) ∧ w'.cell? ⟨b7, 2, none⟩ = some (.int .i64 ((n : Nat))) ∧ w'.cell? ⟨b7, 3, none⟩ = some (.int .i64 (p1)) ∧ w'.cell? ⟨b7, 4, none⟩ = some (.int .i64 (p2)))) (ks := [6]) (by kernel_rfl) ?_ (fun hHeld => ?_)
    · (try dsimp only); (exact k0)
    refine tL 0 Z6f ?_ ?_ ?_
    rotate_left
    · ((intro w hSw; delta Z6f; (try dsimp only at hSw); go_simp) <;> with_reducible rfl)
    try simp only [Z6f, ksz]
    refine tL 2 Z6h ?_ ?_ ?_
    rotate_left
    · ((intro w hSw; delta Z6h; (try dsimp only at hSw); go_simp) <;> with_reducible rfl)
    try simp only [Z6h, ksz]
    refine tL 3 Z6i ?_ ?_ ?_
    rotate_left
    · ((intro w hSw; delta Z6i; (try dsimp only at hSw); go_simp) <;> with_reducible rfl)
    try simp only [Z6i, ksz]
    obtain ⟨W0, hW0⟩ : ∃ V, Vr.drew = V := ⟨_, rfl⟩; rw [hW0] at hHeld ⊢; have HB0 : Hid (Below Vr.heap.size Vr W0) := (by rw [← hW0]; exact Below.drew (Below.refl _ _)); clear hW0
    refine wpAnyL_ready (rs := [1]) (by kernel_rfl) (by simp) ?_
    refine AllReadyL.cons (o := Z6g) rfl (fun K hK => ?_) AllReadyL.nil
    delta Z6g
    go_simp
    (refine (around_any va ax lx _ (HSV2.out _ HB0.out) hlx).mono ?_; rintro e W1 ⟨rfl, hb⟩; have HB1 := Lib.hid (HB0.out.trans (hb.mono HB0.out.size)); clear hb; rw [HX.out])
    refine hK.out _ _ ?_ (fun hHeld => ?_)
    · (try dsimp only); (exact HSV.out _ HB1.out)
    clear hK K
    try simp only [Z6g, ksz]
    refine wpAnyL_ready (rs := [4]) (by kernel_rfl) (by simp) ?_
    refine AllReadyL.cons (o := Z6j) rfl (fun K hK => ?_) AllReadyL.nil
    delta Z6j
    go_simp
    (refine (press_any p1 p2 _ HWP.out).mono ?_; rintro e W2 ⟨rfl, hb⟩; have HB2 := Lib.hid (HB1.out.trans (hb.mono HB1.out.size)); clear hb; rw [HP.out])
    refine hK.out _ _ ?_ (fun hHeld => ?_)
    · (try dsimp only); (exact HSV.out _ HB2.out)
    clear hK K
    try simp only [Z6j, ksz]
    refine wpAnyL_ready (rs := [5]) (by kernel_rfl) (by simp) ?_
    refine AllReadyL.cons (o := Z6k) rfl (fun K hK => ?_) AllReadyL.nil
    delta Z6k
    go_simp
    (refine (plus_any X1 X2 P1 P2 _ (by omega) (by omega)).mono ?_; rintro e W3 ⟨rfl, hb⟩; have HB3 := Lib.hid (HB2.out.trans (hb.mono HB2.out.size)); clear hb)
    refine hK.out _ _ ?_ (fun hHeld => ?_)
    · (try dsimp only); (exact HSV.out _ HB3.out)
    clear hK K
    try simp only [Z6k, ksz]
    have Gb7 := Lib.hid (Hb7.out.below HB3.out Hb7.out.lt); have Gb8 := Lib.hid (Hb8.out.below HB3.out Hb8.out.lt); have GHB := Lib.hid (HB.out.trans (HB3.out.mono HB.out.size)); clear Hb7 Hb8 HB; have Hb7 := Gb7; clear Gb7; have Hb8 := Gb8; clear Gb8; have HB := GHB; clear GHB; have cR0 := Hb8.out.cell 0; have zR0 := Hb8.out.frozen 0; have cR1 := Hb8.out.cell 1; have zR1 := Hb8.out.frozen 1; simp only [List.getElem?_toArray, List.getElem?_cons_zero, List.getElem?_cons_succ] at cR0 cR1
    refine wpAnyL_ready (rs := [6]) (by kernel_rfl) (by simp) ?_
    refine AllReadyL.gate (o := Z6l) rfl (by kernel_rfl) (fun K hK => ?_) AllReadyL.nil
    delta Z6l
    go_simp
    refine hK.out _ _ ?_
    clear hK K
    try simp only [Z6l, ksz]
    obtain ⟨Va71, hV⟩ : ∃ V, (W3.setCell ⟨b8, 0, none⟩ (.int .i64 (X1 + P1))).setCell ⟨b8, 1, none⟩ (.int .i64 (X2 + P2)) = V := ⟨_, rfl⟩; replace Hb7 : Hid (Blk Va71 b7 32 #[.int .i64 (s1), .int .i64 (s2), .int .i64 ((n : Nat)), .int .i64 (p1), .int .i64 (p2)]) := (by rw [← hV]; exact ((Hb7.out.far_ (p := ⟨b8, 0, none⟩) nb7b8 _).far_ (p := ⟨b8, 1, none⟩) nb7b8 _)); replace Hb8 : Hid (Blk Va71 b8 108 #[.int .i64 (X1 + P1), .int .i64 (X2 + P2)]) := (by rw [← hV]; exact ((Hb8.out.set_ 0 (.int .i64 (X1 + P1))).set_ 1 (.int .i64 (X2 + P2)))); replace HB : Hid (Below w.heap.size w Va71) := (by rw [← hV]; exact ((HB.out.setCell (p := ⟨b8, 0, none⟩) gb8 _).setCell (p := ⟨b8, 1, none⟩) gb8 _)); rw [hV]; clear hV cR0 zR0 cR1 zR1
    refine wpAnyL_done (by kernel_rfl) ?_ _
    refine NoPanic.normal ?_
    clear HSV k0
    clear hHeld HB0 HB1 HB2 HB3
    have cb80 := kcl0 Hb8
    have cb81 := kcl1 Hb8
    go_wp2
    refine bodyPost_ret (v := .agg #[.int .i64 (X1 + P1), .int .i64 (X2 + P2)]) (by simp [results, Tryd.results74, go_sem, cb80, cb81]) rfl ⟨rfl, HB.out⟩
end Go.Proofs.YtdhcdgfpkjdihaaDoor.Sg
