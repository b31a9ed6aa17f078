/-
  Texts: the reference's Read.
-/
import Derived.Test.YthcenmocnphnmaaGreatDoorMY
set_option linter.unusedSimpArgs false
set_option linter.unusedVariables false
namespace Go.Proofs.YthcenmocnphnmaaGreatDoor
open Go.RowKit Go.Shelf

set_option maxRecDepth 100000 in
set_option maxHeartbeats 4000000 in
theorem rRead_any (s : List UInt8) (w : World) (hs : s.length ≤ 9223372036854775000) :
    Calls Tryz.prog 38 #[.string (bs s)] w (ReadOut (readOfP (parseR s) s) w) := by
  have hz : (bs s).size = s.length := bs_size s
  have hB0 : Below w.heap.size w (w.alloc (.cells #[.int .i64 0, .int .i64 0, .int .i64 0, .slice none 0 0] 24)) := (by repeat (first | exact Below.refl _ _ | assumption | refine Below.drew ?_ | refine Below.drewN' ?_ _ | (refine Below.alloc ?_ (by simp <;> omega) _) | (refine Below.setCell ?_ (by simp <;> omega) _)))
  have HB0 := Lib.hid hB0
  have hb0 : Blk (w.alloc (.cells #[.int .i64 0, .int .i64 0, .int .i64 0, .slice none 0 0] 24)) w.heap.size 24 #[.int .i64 0, .int .i64 0, .int .i64 0, .slice none 0 0] := Blk.new' _ _ _ rfl
  have HK0 := Lib.hid hb0
  clear hB0 hb0
  go_enter Tryz.func38, Tryz.ntmps38
  by_cases hlong : 65536 < s.length
  · have He : Hid (readOfP (parseR s) s = (zeroG, 8)) := by unfold readOfP; rw [Hid, if_pos hlong]; rfl
    have hl' : (65536 : Int) < s.length := by omega
    obtain ⟨⟨z0, z1, z2, z3⟩, f0, f1, f2, f3⟩ := zero_parts HK0.out
    clear hlong
    go_wp2
    refine bodyPost_ret (v := .tuple #[.agg #[.int .i64 0, .int .i64 0, .int .i64 0, .slice none 0 0], .int .i64 8]) (by simp [results, Tryz.results38, go_sem, z0, z1, z2, z3, f0, f1, f2, f3]) rfl ?_
    rw [He.out]
    exact ⟨_, rfl, grid_zero _ _, HB0.out.trans (by repeat (first | exact Below.refl _ _ | assumption | refine Below.drew ?_ | refine Below.drewN' ?_ _ | (refine Below.alloc ?_ (by simp <;> omega) _) | (refine Below.setCell ?_ (by simp <;> omega) _)))⟩
  have hl' : ¬ (65536 : Int) < s.length := by omega
  have hlen : s.length ≤ 65536 := by omega
  have HF : Hid (parseR s = none → readOfP (parseR s) s = (zeroG, 7)) := fun e => by unfold readOfP; rw [if_neg hlong, e]; rfl
  have HS : Hid (∀ g, parseR s = some g → readOfP (parseR s) s = if writeR g = (s, 0) then (g, 0) else (zeroG, 7)) := fun g e => by unfold readOfP; rw [if_neg hlong, e]; rfl
  obtain ⟨l0, rest, hls⟩ := splitOf_cons 10 s
  have hrl : (splitOf 10 s).length ≤ 65537 := by have := splitB_length 10 s []; unfold splitOf; omega
  have hml : ∀ x, x ∈ splitOf 10 s → x.length ≤ 65536 := fun x hx => by have := splitB_mem 10 s [] x hx; simp at this; omega
  have E1 : Hid (headR (splitOf 32 l0) = none → readOfP (parseR s) s = (zeroG, 7)) := fun h => HF.out (parseR_1 hls h)
  have E2 : Hid (∀ W H S, headR (splitOf 32 l0) = some (W, H, S) → cellsR rest = none → readOfP (parseR s) s = (zeroG, 7)) := fun W H S h k => HF.out (parseR_2 hls h k)
  have E3 : Hid (∀ W H S ss, headR (splitOf 32 l0) = some (W, H, S) → cellsR rest = some ss → readOfP (parseR s) s = if writeR ⟨W, H, S, ss⟩ = (s, 0) then (⟨W, H, S, ss⟩, 0) else (zeroG, 7)) := fun W H S ss h k => HS.out _ (parseR_3 hls h k)
  rw [hls] at hrl hml
  have hl0 : l0.length ≤ 65536 := hml l0 (by simp)
  have Hml : Hid (∀ x, x ∈ rest → x.length ≤ 65536) := fun x hx => hml x (by simp [hx])
  have hrl' : rest.length ≤ 65536 := by simpa using hrl
  have HL := Lib.hid hls
  clear hlong hls hrl hml HF HS
  go_wp2_with fail
  refine (rSplit_nl s _ hlen).mono ?_
  rintro e w1 ⟨v1, rfl, hv1, hb1⟩
  rw [HL.out] at hv1
  have HV1 := Lib.hid (StrsAt.own hv1)
  have HB1 := Lib.hid (HB0.out.trans (hb1.mono HB0.out.size))
  have hn1 : w.heap.size + 1 ≤ w1.heap.size := by have := hb1.size; simpa using this
  have HK1 := Lib.hid (HK0.out.below hb1 (by simp <;> omega))
  clear hv1 hb1
  obtain ⟨A1, k1, rfl, hk1, hm1⟩ := HV1.out.open_
  obtain ⟨p1, o1, rfl, hp1, c1⟩ := HV1.out.at_ (k := 0) (by simp)
  simp only [List.getElem_cons_zero, Nat.add_zero] at c1
  have hi1 : (0 : Int) < ((l0 :: rest).length : Int) := by simp
  go_wp2_with fail
  refine (rSplit_sp l0 _ hl0).mono ?_
  rintro e w2 ⟨v2, rfl, hv2, hb2⟩
  have HB2 := Lib.hid (HB1.out.trans (hb2.mono HB1.out.size))
  have hn2 : w.heap.size + 1 ≤ w2.heap.size := by have := hb2.size; omega
  have HK2 := Lib.hid (HK1.out.below hb2 (by omega))
  have hn12 : w1.heap.size ≤ w2.heap.size := hb2.size
  have HV12 := Lib.hid (HV1.out.below hb2)
  have HV2 := Lib.hid (StrsAt.own hv2)
  clear hv2 hb2 c1 HV1 HK1 HB1 hi1
  obtain ⟨A2, k2, rfl, hk2, hm2⟩ := HV2.out.open_
  obtain ⟨⟨z0, z1, z2, z3⟩, f0, f1, f2, f3⟩ := zero_parts HK2.out
  by_cases h4 : (splitOf 32 l0).length = 4
  case neg =>
    have He := Lib.hid (E1.out (headR_len h4))
    have h4' : (((splitOf 32 l0).length : Int) != 4) = true := by simpa using fun e : ((splitOf 32 l0).length : Int) = 4 => h4 (by omega)
    clear h4
    go_wp2
    refine bodyPost_ret (v := .tuple #[.agg #[.int .i64 0, .int .i64 0, .int .i64 0, .slice none 0 0], .int .i64 7]) (by simp [results, Tryz.results38, go_sem, z0, z1, z2, z3, f0, f1, f2, f3]) rfl ?_
    rw [He.out]
    exact ⟨_, rfl, grid_zero _ _, HB2.out.trans (by repeat (first | exact Below.refl _ _ | assumption | refine Below.drew ?_ | refine Below.drewN' ?_ _ | (refine Below.alloc ?_ (by simp <;> omega) _) | (refine Below.setCell ?_ (by simp <;> omega) _)))⟩
  obtain ⟨k, a, b, c, hd⟩ := four_of h4
  have hml : ∀ x, x ∈ splitOf 32 l0 → x.length ≤ 65536 := fun x hx => by have := splitB_mem 32 l0 [] x hx; simp at this; omega
  rw [hd] at E1 E2 E3 HV2 hml
  rw [hd]
  have la := hml a (by simp)
  have lb := hml b (by simp)
  have lc := hml c (by simp)
  clear h4 hml hd
  obtain ⟨p2, o2, rfl, hp2, c0⟩ := HV2.out.at_ (k := 0) (by simp)
  obtain ⟨p2', o2', e2, -, c1⟩ := HV2.out.at_ (k := 1) (by simp)
  injection e2 with e2; injection e2 with e3 e4; subst e3; subst e4
  obtain ⟨p2', o2', e2, -, c2⟩ := HV2.out.at_ (k := 2) (by simp)
  injection e2 with e2; injection e2 with e3 e4; subst e3; subst e4
  obtain ⟨p2', o2', e2, -, c3⟩ := HV2.out.at_ (k := 3) (by simp)
  injection e2 with e2; injection e2 with e3 e4; subst e3; subst e4
  simp only [List.getElem_cons_zero, List.getElem_cons_succ, Nat.add_zero] at c0 c1 c2 c3
  have g0 : (([k, a, b, c] : List (List UInt8)).length : Int) = 4 := rfl
  by_cases hk : k = [103, 114, 105, 100]
  case neg =>
    have He := Lib.hid (E1.out (by unfold headR; simp only [hk, if_false]))
    have hk1 : ((bs k).toList == [103, 114, 105, 100]) = false := by rw [bs_toList, beq_dec]; exact decide_eq_false hk
    have hk2 : ((bs k).toList != [103, 114, 105, 100]) = true := by unfold bne; rw [hk1]; rfl
    clear hk
    go_wp2
    refine bodyPost_ret (v := .tuple #[.agg #[.int .i64 0, .int .i64 0, .int .i64 0, .slice none 0 0], .int .i64 7]) (by simp [results, Tryz.results38, go_sem, z0, z1, z2, z3, f0, f1, f2, f3]) rfl ?_
    rw [He.out]
    exact ⟨_, rfl, grid_zero _ _, HB2.out.trans (by repeat (first | exact Below.refl _ _ | assumption | refine Below.drew ?_ | refine Below.drewN' ?_ _ | (refine Below.alloc ?_ (by simp <;> omega) _) | (refine Below.setCell ?_ (by simp <;> omega) _)))⟩
  have hk1 : ((bs k).toList == [103, 114, 105, 100]) = true := by rw [bs_toList, beq_dec]; exact decide_eq_true hk
  have hk2 : ((bs k).toList != [103, 114, 105, 100]) = false := by unfold bne; rw [hk1]; rfl
  obtain ⟨ra, hra⟩ : ∃ r, numR a 24 = r := ⟨_, rfl⟩
  obtain ⟨rb, hrb⟩ : ∃ r, numR b 24 = r := ⟨_, rfl⟩
  obtain ⟨rc, hrc⟩ : ∃ r, numR c 10000 = r := ⟨_, rfl⟩
  have HH := Lib.hid (headR_of hk hra hrb hrc)
  rw [HH.out] at E1 E2 E3
  obtain ⟨W, ba⟩ := ra
  obtain ⟨H, bb⟩ := rb
  obtain ⟨S, bc⟩ := rc
  have HA := Lib.hid hra
  have HBb := Lib.hid hrb
  have HC := Lib.hid hrc
  simp only at E1 E2 E3
  clear hk HH hra hrb hrc
  go_wp2_with fail
  refine (rNumber_of _ 24 _ HA.out _ (by decide) (by decide) (by omega)).mono ?_
  rintro e w3 ⟨rfl, m1, rfl⟩
  go_wp2_with fail
  refine (rNumber_of _ 24 _ HBb.out _ (by decide) (by decide) (by omega)).mono ?_
  rintro e w3 ⟨rfl, m2, rfl⟩
  go_wp2_with fail
  refine (rNumber_of _ 10000 _ HC.out _ (by decide) (by decide) (by omega)).mono ?_
  rintro e w5 ⟨rfl, m3, hw5⟩
  have hb25 : Below w2.heap.size w2 w5 := by rw [hw5]; exact (by repeat (first | exact Below.refl _ _ | assumption | refine Below.drew ?_ | refine Below.drewN' ?_ _ | (refine Below.alloc ?_ (by simp <;> omega) _) | (refine Below.setCell ?_ (by simp <;> omega) _)))
  have HB25 := Lib.hid hb25
  clear hb25 hw5 c0 c1 c2 c3 z0 z1 z2 z3 f0 f1 f2 f3 hk1 hk2 g0 la lb lc
  have HB5 := Lib.hid (HB2.out.trans (HB25.out.mono HB2.out.size))
  have hn5 : w.heap.size + 1 ≤ w5.heap.size := by have := HB25.out.size; omega
  have hn25 : w2.heap.size ≤ w5.heap.size := HB25.out.size
  have hn15 : w1.heap.size ≤ w5.heap.size := by omega
  have HK5 := Lib.hid (HK2.out.below HB25.out (by omega))
  have HV15 := Lib.hid (HV12.out.below (HB25.out.mono hn12))
  obtain ⟨⟨z0, z1, z2, z3⟩, f0, f1, f2, f3⟩ := zero_parts HK5.out
  have bad : (ba && bb && bc) = false → Hid (readOfP (parseR s) s = (zeroG, 7)) := fun h => E1.out (by rw [h]; rfl)
  cases ba
  · have He := bad rfl
    clear bad
    go_wp2
    refine bodyPost_ret (v := .tuple #[.agg #[.int .i64 0, .int .i64 0, .int .i64 0, .slice none 0 0], .int .i64 7]) (by simp [results, Tryz.results38, go_sem, z0, z1, z2, z3, f0, f1, f2, f3]) rfl ?_
    rw [He.out]
    exact ⟨_, rfl, grid_zero _ _, HB5.out.trans (by repeat (first | exact Below.refl _ _ | assumption | refine Below.drew ?_ | refine Below.drewN' ?_ _ | (refine Below.alloc ?_ (by simp <;> omega) _) | (refine Below.setCell ?_ (by simp <;> omega) _)))⟩
  cases bb
  · have He := bad rfl
    clear bad
    go_wp2
    refine bodyPost_ret (v := .tuple #[.agg #[.int .i64 0, .int .i64 0, .int .i64 0, .slice none 0 0], .int .i64 7]) (by simp [results, Tryz.results38, go_sem, z0, z1, z2, z3, f0, f1, f2, f3]) rfl ?_
    rw [He.out]
    exact ⟨_, rfl, grid_zero _ _, HB5.out.trans (by repeat (first | exact Below.refl _ _ | assumption | refine Below.drew ?_ | refine Below.drewN' ?_ _ | (refine Below.alloc ?_ (by simp <;> omega) _) | (refine Below.setCell ?_ (by simp <;> omega) _)))⟩
  cases bc
  · have He := bad rfl
    clear bad
    go_wp2
    refine bodyPost_ret (v := .tuple #[.agg #[.int .i64 0, .int .i64 0, .int .i64 0, .slice none 0 0], .int .i64 7]) (by simp [results, Tryz.results38, go_sem, z0, z1, z2, z3, f0, f1, f2, f3]) rfl ?_
    rw [He.out]
    exact ⟨_, rfl, grid_zero _ _, HB5.out.trans (by repeat (first | exact Below.refl _ _ | assumption | refine Below.drew ?_ | refine Below.drewN' ?_ _ | (refine Below.alloc ?_ (by simp <;> omega) _) | (refine Below.setCell ?_ (by simp <;> omega) _)))⟩
  clear bad E1 HA HBb HC
  have F2 : Hid (cellsR rest = none → readOfP (parseR s) s = (zeroG, 7)) := E2.out W H S rfl
  have F3 : Hid (∀ ss, cellsR rest = some ss → readOfP (parseR s) s = if writeR ⟨W, H, S, ss⟩ = (s, 0) then (⟨W, H, S, ss⟩, 0) else (zeroG, 7)) := fun ss => E3.out W H S ss rfl
  have H0 : Hid (RdSt w5.heap.size w5 (w5.alloc (.cells #[.int .i64 W, .int .i64 H, .int .i64 S, .slice none 0 0] 24)) W H S [] (.slice none 0 0)) := ⟨World.ownsRow_nil _ _ _ _, Blk.new' _ _ _ rfl, (by repeat (first | exact Below.refl _ _ | assumption | refine Below.drew ?_ | refine Below.drewN' ?_ _ | (refine Below.alloc ?_ (by simp <;> omega) _) | (refine Below.setCell ?_ (by simp <;> omega) _)))⟩
  clear E2 E3 HB25 HV12 HV2 HK2 HB2 z0 z1 z2 z3 f0 f1 f2 f3
  go_wp2
  go_loopw [13] (fun iv wr => ∃ (q : Nat) (ss : List (Int × Int)) (v : Value), q ≤ rest.length ∧ iv = .int .i64 (q + 1) ∧ ss.length ≤ 65537 * q ∧ Hid (Rd (wordsR (rest.take q)) ss) ∧ Hid (RdSt w5.heap.size w5 wr W H S ss v)) (fun i _ => rest.length + 1 - (intOf i).toNat)
  case atStart => exact ⟨0, [], _, Nat.zero_le _, rfl, Nat.zero_le _, Rd.nil, H0.out⟩
  case round =>
    obtain ⟨q, ss, v, hq, rfl, hsl, Hrd, Hst⟩ := hrel
    clear H0
    generalize wr = wo at *
    have HB := Lib.hid (HB5.out.trans (Hst.out.bel.mono (by omega)))
    have HVr := Lib.hid (HV15.out.below (Hst.out.bel.mono hn15))
    by_cases hlt : q < rest.length
    · obtain ⟨pr, or_, er, hpr, cr⟩ := HVr.out.at_ (k := q + 1) (by simp; omega)
      injection er with er; injection er with er1 er2; subst er1; subst er2
      simp only [List.getElem_cons_succ] at cr
      have hlr : rest[q].length ≤ 65536 := Hml.out _ (List.getElem_mem hlt)
      have Hmem := Lib.hid (List.getElem_mem hlt)
      have Hsn := Lib.hid (wordsR_snoc rest q hlt)
      generalize hline : rest[q] = line at *
      have HLine := Lib.hid hline
      clear hline
      have e1 : ((q : Int) + 1) < (rest.length : Int) + 1 := by omega
      have e2 : ((q + 1 : Nat) : Int) = (q : Int) + 1 := by omega
      go_wp2_with fail
      refine (rSplit_sp line _ hlr).mono ?_
      rintro e w6 ⟨v6, rfl, hv6, hb6⟩
      have Hl6 := Lib.hid hv6
      have Hst6 := Lib.hid (Hst.out.below hb6)
      have hn6 : w5.heap.size ≤ wo.heap.size := Nat.le_of_lt Hst.out.blk.lt
      have hn56 : w5.heap.size ≤ w6.heap.size := Nat.le_of_lt Hst6.out.blk.lt
      obtain ⟨A6, k6, rfl, hk6, hm6⟩ := (StrsAt.own hv6).open_
      have hll : (lineW line).length ≤ (splitOf 32 line).length := by unfold lineW; split <;> simp
      have hsp : (splitOf 32 line).length ≤ 65537 := by have := splitB_length 32 line []; unfold splitOf; omega
      clear hv6 hb6 cr HVr Hst
      go_wp2
      go_loopw [15] (fun kv wq => ∃ (k : Nat) (ss' : List (Int × Int)) (v' : Value), k ≤ (lineW line).length ∧ kv = .int .i64 k ∧ ss'.length ≤ 65537 * q + k ∧ Hid (Rd (wordsR (rest.take q) ++ (lineW line).take k) ss') ∧ Hid (RdSt w5.heap.size w5 wq W H S ss' v') ∧ Hid (wq.ownsRow wo.heap.size 9 1 (.slice A6 (splitOf 32 line).length k6) (splitOf 32 line).length ((splitOf 32 line).map fun s => Value.string (bs s)))) (fun i _ => (lineW line).length - (intOf i).toNat)
      case atStart => exact ⟨0, ss, v, Nat.zero_le _, rfl, by omega, by rw [Hid, List.take_zero, List.append_nil]; exact Hrd.out, Hst6.out, Hl6.out⟩
      case round =>
        obtain ⟨k, ss', v', hk, rfl, hsl', Hrd', Hst', Hl'⟩ := hrel
        have HBq := Lib.hid (HB5.out.trans (Hst'.out.bel.mono (by omega)))
        have HVq := Lib.hid (HV15.out.below (Hst'.out.bel.mono hn15))
        have HKq := Lib.hid (HK5.out.below Hst'.out.bel (by omega))
        obtain ⟨pr, or_, er, hpr, cr⟩ := HVq.out.at_ (k := q + 1) (by simp; omega)
        injection er with er; injection er with er1 er2; subst er1; subst er2
        simp only [List.getElem_cons_succ, HLine.out] at cr
        have hn7 : w5.heap.size < wr.heap.size := Hst'.out.blk.lt
        by_cases hkl : k < (lineW line).length
        · have hne : line ≠ [] := by rintro rfl; simp [lineW] at hkl
          have hs1 : ((bs line).toList == []) = false := by rw [bs_toList, beq_dec]; exact decide_eq_false hne
          have hs2 : ((bs line).toList != []) = true := by unfold bne; rw [hs1]; rfl
          have hLW := lineW_of hne
          obtain ⟨pl, ol, el, hpl, cl⟩ := (StrsAt.own Hl'.out).at_ (k := k) (by rw [← hLW]; exact hkl)
          subst el
          have hx : (splitOf 32 line)[k]'(by rw [← hLW]; exact hkl) = (lineW line)[k] := by simp only [hLW]
          rw [hx] at cl
          have Htk := Lib.hid (take_snoc (lineW line) k hkl)
          have Hin : Hid ((lineW line)[k] ∈ wordsR rest) := lineW_mem Hmem.out (List.getElem_mem hkl)
          have hxl : (lineW line)[k].length ≤ 65536 := by
            have h1 : (lineW line)[k] ∈ splitB 32 [] line := by rw [← hx]; exact List.getElem_mem _
            have := splitB_mem 32 line [] _ h1
            simp at this
            omega
          have hk1 : (k : Int) < ((splitOf 32 line).length : Int) := by rw [← hLW]; omega
          generalize (lineW line)[k] = x at *
          clear hx hne
          obtain ⟨r, hr⟩ : ∃ r, spanOf x = r := ⟨_, rfl⟩
          have Hr := Lib.hid hr
          clear hr
          go_wp2_with fail
          refine (rSpan_of x r Hr.out _ (by omega)).mono ?_
          rintro e w7 ⟨rfl, hb7⟩
          have Hst7 := Lib.hid (Hst'.out.below hb7)
          have Hl7 := Lib.hid (own_below Hl'.out hb7 (Nat.le_refl _))
          have HK7 := Lib.hid (HKq.out.below hb7 (by omega))
          have HB7 := Lib.hid (HBq.out.trans (hb7.mono HBq.out.size))
          have hn8 : w5.heap.size < w7.heap.size := Hst7.out.blk.lt
          have n1 : w.heap.size < w7.heap.size := by omega
          have n2 : ¬ w.heap.size = w7.heap.size := by omega
          have n3 : ¬ w5.heap.size = w7.heap.size := by omega
          clear hb7 cr cl
          obtain ⟨⟨lo, hi⟩, b⟩ := r
          cases b
          · have He := Lib.hid (F2.out (cellsR_none Hin.out (by rw [Hr.out])))
            obtain ⟨⟨z0, z1, z2, z3⟩, f0, f1, f2, f3⟩ := zero_parts HK7.out
            go_wp2
            refine bodyPost_ret (v := .tuple #[.agg #[.int .i64 0, .int .i64 0, .int .i64 0, .slice none 0 0], .int .i64 7]) (by simp [results, Tryz.results38, go_sem, z0, z1, z2, z3, f0, f1, f2, f3, n1, n2]) rfl ?_
            rw [He.out]
            exact ⟨_, rfl, grid_zero _ _, HB7.out.trans (by repeat (first | exact Below.refl _ _ | assumption | refine Below.drew ?_ | refine Below.drewN' ?_ _ | (refine Below.alloc ?_ (by simp <;> omega) _) | (refine Below.setCell ?_ (by simp <;> omega) _)))⟩
          · obtain ⟨i0, hi0, hz0, hz1, hz2⟩ := info_parts span_info
            have Hrd7 : Hid (Rd (wordsR (rest.take q) ++ (lineW line).take (k + 1)) (ss' ++ [(lo, hi)])) := by
              rw [Hid, Htk.out, ← List.append_assoc]
              have := Hrd'.out.snoc (x := x) (by rw [Hr.out])
              rwa [Hr.out] at this
            have y3 := Hst7.out.at3
            go_wp2_with (at_builtin; ((refine wpList_append_own_at _ rfl (.tmp 112) (.tmp 114) 22 rfl (w5.heap.size + 1) 34 i0 (.agg #[.int .i64 0, .int .i64 0]) 2 16 Tryz.underlying22 hi0 hz0 hz1 hz2 rfl (by decide) v' ss'.length _ rfl ((Hst7.out.own.alloc _).alloc _) ⟨w7.heap.size + 1, 0, none⟩ 1 1 [.int .i64 lo, .int .i64 hi] rfl rfl (cells_pair_new _ _ _ _ (by simp)) (by simp [Value.oneCell']) (by unfold maxLen; omega) (by omega) (by simp <;> omega) ?_; intro v1 w8 hown1 hg1 _ _; obtain ⟨g8, c8, rfl⟩ := own_some hown1 (Nat.succ_pos _); have hm := RdSt.mid (Hst7.out.alloc _) hg1; have y4 := hm.1; have y5 := hm.2; have HS8 := Lib.hid (RdSt.step (x := (lo, hi)) (Hst7.out.alloc _) rfl hown1 hg1); have HL8 := Lib.hid (RdSt.strs (Hst7.out.alloc _) (Hl7.out.alloc _) hg1 (.slice (some ⟨g8, 0, none⟩) (ss'.length + 1) c8)); clear hm hown1 hg1)))
            go_roundw
            case rel => exact ⟨k + 1, ss' ++ [(lo, hi)], _, by omega, by go_num, by simp; omega, Hrd7.out, HS8.out, HL8.out⟩
            case measure => simp [intOf] <;> omega
        · have hke : k = (lineW line).length := by omega
          have HrdN : Hid (Rd (wordsR (rest.take (q + 1))) ss') := by
            have := Hrd'.out
            rw [hke, List.take_length] at this
            rw [Hid, Hsn.out]
            exact this
          by_cases hne : line = []
          · subst hne
            have hk0 : (lineW ([] : List UInt8)).length = 0 := rfl
            have hs0 : (splitOf 32 ([] : List UInt8)).length = 1 := rfl
            have hk' : k = 0 := by omega
            subst hk'
            have hs1 : ((bs []).toList == []) = true := by rw [bs_toList]; rfl
            have hs2 : ((bs []).toList != []) = false := by unfold bne; rw [hs1]; rfl
            clear hkl hke
            go_wp2
            go_roundw
            case rel => exact ⟨q + 1, ss', v', by omega, by go_num, by omega, HrdN.out, Hst'.out⟩
            case measure => simp [intOf] <;> omega
          · have hLW := lineW_of hne
            have hk1 : ¬ (k : Int) < ((splitOf 32 line).length : Int) := by rw [← hLW]; omega
            clear hkl hne hLW
            go_wp2
            go_roundw
            case rel => exact ⟨q + 1, ss', v', by omega, by go_num, by omega, HrdN.out, Hst'.out⟩
            case measure => simp [intOf] <;> omega
    · have hqe : q = rest.length := by omega
      obtain ⟨Av, cv, rfl, _, _⟩ := (show SpansAt wo wo.heap.size v ss from Reads.of_own Hst.out.own).open_
      have HrdE : Hid (Rd (wordsR rest) ss) := by
        have := Hrd.out
        rw [hqe, List.take_length] at this
        exact this
      have Hf := Lib.hid (F3.out ss HrdE.out.cells)
      have e1 : ¬ ((q : Int) + 1) < (rest.length : Int) + 1 := by omega
      clear hqe
      obtain ⟨y0, y1, y2, y3⟩ := grid_parts Hst.out.blk
      go_wp2_with fail
      refine (rWrite_any _ ⟨W, H, S, ss⟩ _ Hst.out.grid).mono ?_
      rintro e w9 ⟨rfl, hb9⟩
      have HB9 := Lib.hid (HB.out.trans (hb9.mono HB.out.size))
      have hn9 : w5.heap.size < w9.heap.size := by have := hb9.size; have := Hst.out.blk.lt; omega
      have HK9 := Lib.hid ((HK5.out.below Hst.out.bel (by omega)).below hb9 (by have := Hst.out.blk.lt; omega))
      have Hst9 := Lib.hid (Hst.out.below hb9)
      have hgb : ¬ w5.heap.size = w.heap.size := by omega
      have hbg : ¬ w.heap.size = w5.heap.size := by omega
      clear hb9 y0 y1 y2 y3
      obtain ⟨y0, y1, y2, y3⟩ := grid_parts Hst9.out.blk
      obtain ⟨⟨z0, z1, z2, z3⟩, f0, f1, f2, f3⟩ := zero_parts HK9.out
      obtain ⟨r, hr⟩ : ∃ r, writeR ⟨W, H, S, ss⟩ = r := ⟨_, rfl⟩
      rw [hr] at Hf
      rw [hr]
      obtain ⟨t, ec⟩ := r
      clear hr
      have hv : (Value.slice Av ss.length cv).ownBlock ≠ some w.heap.size := fun e => by have := (Hst9.out.own.lt _ e).1; omega
      have HV := Lib.hid hv
      clear hv
      by_cases h0 : ec = 0
      · by_cases ht : t = s
        · subst h0
          subst ht
          have hs1 : ((bs t).toList == (bs t).toList) = true := by simp
          have hs2 : ((bs t).toList != (bs t).toList) = false := by simp
          have Hff : Hid (readOfP (parseR t) t = (⟨W, H, S, ss⟩, 0)) := by rw [Hid, Hf.out, if_pos rfl]
          clear Hf
          go_wp2
          refine bodyPost_ret (v := .tuple #[.agg #[.int .i64 W, .int .i64 H, .int .i64 S, .slice Av ss.length cv], .int .i64 0]) (by simp [results, Tryz.results38, go_sem, z0, z1, z2, z3, f0, f1, f2, f3]) rfl ?_
          rw [Hff.out]
          refine ⟨_, rfl, ⟨_, rfl, ?_⟩, HB9.out.trans (by repeat (first | exact Below.refl _ _ | assumption | refine Below.drew ?_ | refine Below.drewN' ?_ _ | (refine Below.alloc ?_ (by simp <;> omega) _) | (refine Below.setCell ?_ (by simp <;> omega) _)))⟩
          refine Reads.of_own (base := w5.heap.size + 1) (e := 34) ?_
          repeat (refine own_set ?_ (by exact HV.out) _)
          exact Hst9.out.own
        · have hs1 : ((bs t).toList == (bs s).toList) = false := by rw [bs_toList, bs_toList, beq_dec]; exact decide_eq_false ht
          have hs2 : ((bs t).toList != (bs s).toList) = true := by unfold bne; rw [hs1]; rfl
          have Hff : Hid (readOfP (parseR s) s = (zeroG, 7)) := by rw [Hid, Hf.out, if_neg (fun e => ht (congrArg Prod.fst e))]
          subst h0
          clear Hf ht
          go_wp2
          refine bodyPost_ret (v := .tuple #[.agg #[.int .i64 0, .int .i64 0, .int .i64 0, .slice none 0 0], .int .i64 7]) (by simp [results, Tryz.results38, go_sem, z0, z1, z2, z3, f0, f1, f2, f3]) rfl ?_
          rw [Hff.out]
          exact ⟨_, rfl, grid_zero _ _, HB9.out.trans (by repeat (first | exact Below.refl _ _ | assumption | refine Below.drew ?_ | refine Below.drewN' ?_ _ | (refine Below.alloc ?_ (by simp <;> omega) _) | (refine Below.setCell ?_ (by simp <;> omega) _)))⟩
      · have he : (ec != 0) = true := by simpa using h0
        have Hff : Hid (readOfP (parseR s) s = (zeroG, 7)) := by rw [Hid, Hf.out, if_neg (fun e => h0 (congrArg Prod.snd e))]
        clear Hf h0
        go_wp2
        refine bodyPost_ret (v := .tuple #[.agg #[.int .i64 0, .int .i64 0, .int .i64 0, .slice none 0 0], .int .i64 7]) (by simp [results, Tryz.results38, go_sem, z0, z1, z2, z3, f0, f1, f2, f3]) rfl ?_
        rw [Hff.out]
        exact ⟨_, rfl, grid_zero _ _, HB9.out.trans (by repeat (first | exact Below.refl _ _ | assumption | refine Below.drew ?_ | refine Below.drewN' ?_ _ | (refine Below.alloc ?_ (by simp <;> omega) _) | (refine Below.setCell ?_ (by simp <;> omega) _)))⟩
end Go.Proofs.YthcenmocnphnmaaGreatDoor
