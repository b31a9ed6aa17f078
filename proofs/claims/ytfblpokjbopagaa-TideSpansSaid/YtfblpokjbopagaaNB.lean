/-
  TideSpans returns true.
-/
import Derived.Test.YtfblpokjbopagaaMK
import Derived.Test.YtfblpokjbopagaaMP
import Derived.Test.YtfblpokjbopagaaMR
import Derived.Test.YtfblpokjbopagaaMQ
set_option linter.unusedSimpArgs false
set_option linter.unusedVariables false
namespace Go.Proofs.Ytfblpokjbopagaa
open Go.RowKit

theorem cos_ok {lo hi : Int} (h : lo ≤ hi) (h1 : -1099511627776 ≤ lo) (h2 : hi ≤ 1099511627776) : cosV (lo, hi) = boundsZ (lo, hi) ∧ cosE (lo, hi) = 0 := ⟨if_pos ⟨h, h1, h2⟩, if_pos ⟨h, h1, h2⟩⟩
set_option maxRecDepth 100000 in
set_option maxHeartbeats 2000000 in
theorem TideSpans_any (a L lo hi : Int) (w : World) (ha : -2147483648 ≤ a ∧ a ≤ 2147483647) (hL : 0 ≤ L ∧ L ≤ 65535) (hlo : 0 ≤ lo ∧ lo ≤ 65535) (hhi : 0 ≤ hi ∧ hi ≤ 65535) :
    Calls Try.prog 7 #[.int .i32 a, .int .u16 L, .int .u16 lo, .int .u16 hi] w fun e w' => e = .returned (.bool true) ∧ Below w.heap.size w w' := by
  have rx := Int.tmod_lt_of_pos a (show (0 : Int) < 1073741824 by omega)
  have rx2 := Int.lt_tmod_of_pos a (show (0 : Int) < 1073741824 by omega)
  obtain ⟨x, hx⟩ : ∃ x, a.tmod 1073741824 = x := ⟨_, rfl⟩
  rw [hx] at rx rx2
  obtain ⟨n, hn⟩ : ∃ n : Nat, L % 4001 = n := ⟨(L % 4001).toNat, by omega⟩
  have hn0 : n ≤ 4000 := by omega
  have hn1 : L.tmod 4001 = n := by rw [Int.tmod_eq_emod_of_nonneg hL.1]; exact hn
  obtain ⟨i, hi1⟩ : ∃ i : Nat, lo % ((n : Int) + 1) = i := ⟨(lo % ((n : Int) + 1)).toNat, by have := Int.emod_nonneg lo (show (n : Int) + 1 ≠ 0 by omega); omega⟩
  have hin : i ≤ n := by have := Int.emod_lt_of_pos lo (show (0 : Int) < (n : Int) + 1 by omega); omega
  have hi2 : lo.tmod ((n : Int) + 1) = i := by rw [Int.tmod_eq_emod_of_nonneg hlo.1]; exact hi1
  obtain ⟨r, hr1⟩ : ∃ r : Nat, hi % ((n : Int) - i + 1) = r := ⟨(hi % ((n : Int) - i + 1)).toNat, by have := Int.emod_nonneg hi (show (n : Int) - i + 1 ≠ 0 by omega); omega⟩
  have hrn : i + r ≤ n := by have := Int.emod_lt_of_pos hi (show (0 : Int) < (n : Int) - i + 1 by omega); omega
  have hr2 : hi.tmod ((n : Int) - i + 1) = r := by rw [Int.tmod_eq_emod_of_nonneg hhi.1]; exact hr1
  have d1 : ((n : Int) + 1 == 0) = false := by rw [beq_eq_false_iff_ne]; omega
  have d2 : ((n : Int) - i + 1 == 0) = false := by rw [beq_eq_false_iff_ne]; omega
  have d3 : ¬ (n : Int) + 1 = 0 := by omega
  have d4 : ¬ (n : Int) - i + 1 = 0 := by omega
  have HV := Lib.hid (cos_ok (lo := x) (hi := x + n) (by omega) (by omega) (by omega))
  have HV2 := Lib.hid (cos_ok (lo := x + i) (hi := x + (i + r)) (by omega) (by omega) (by omega))
  have HM := Lib.hid (bounds_mono (a := (x + i, x + (i + r))) (b := (x, x + n)) (by simp only; omega) (by simp only; omega) (by simp only; omega))
  have HRN := Lib.hid (bounds_rng (a := (x + i, x + (i + r))) (by simp only; omega))
  obtain ⟨K, hK, hKn, hKm⟩ : ∃ K : Nat, (K = n + 1 ∨ (K = 3601 ∧ 3600 ≤ n)) ∧ K ≤ n + 1 ∧ (K : Int) = (if (n : Int) ≤ 3600 then (n : Int) else 3600) + 1 := by
    by_cases h : n ≤ 3600
    · exact ⟨n + 1, .inl rfl, by omega, by rw [if_pos (by omega)]; omega⟩
    · exact ⟨3601, .inr ⟨rfl, by omega⟩, by omega, by rw [if_neg (by omega)]; omega⟩
  have HP := Lib.hid (mnP_bounds x n K hK hKn)
  have HA : Hid (∀ k : Nat, k < K → (boundsZ (x, x + n)).1 ≤ (pointZ (x + k)).1 ∧ (pointZ (x + k)).2 ≤ (boundsZ (x, x + n)).2 ∧ (pointZ (x + k)).1 ≤ (pointZ (x + k)).2) := fun k hk => by
    have h := bounds_all (a := (x, x + n)) (k := x + k) (by simp only; omega) (by simp only; omega)
    exact ⟨h.1, h.2, (point_rng _).2.1⟩
  obtain ⟨⟨B1, B2⟩, hB⟩ : ∃ b, boundsZ (x, x + n) = b := ⟨_, rfl⟩
  rw [hB] at HV HM HP HA
  go_enter Try.func7, Try.ntmps7
  go_wp2_with fail
  refine (lspan_any _ _ _).mono ?_
  rintro e w1 ⟨rfl, hb1⟩
  go_wp2_with fail
  refine (tCos_any x (x + n) _).mono ?_
  rintro e w2 ⟨rfl, hb2⟩
  rw [HV.out.1, HV.out.2]
  have IB := Lib.hid (hb1.trans (hb2.mono hb1.size))
  clear hb1 hb2
  go_upto_region 3 with (fail)
  obtain ⟨V1, hV⟩ : ∃ V, w2.alloc (.cells #[.int .i64 B1, .int .i64 B2] 23) = V := ⟨_, rfl⟩
  have hz : Below w2.heap.size w2 V1 := by rw [← hV]; exact (Below.refl _ _).alloc (Nat.le_refl _) _
  have hk : Blk V1 w2.heap.size 23 #[.int .i64 B1, .int .i64 B2] := by rw [← hV]; exact Blk.new' _ _ _ rfl
  rw [hV]
  obtain ⟨b11, hbb⟩ : ∃ b, w2.heap.size = b := ⟨_, rfl⟩
  rw [hbb] at hk ⊢
  have HKb11 := Lib.hid hk
  have JB := Lib.hid (IB.out.trans (hz.mono IB.out.size))
  clear hV hz hk hbb IB
  go_wp2_with fail
  refine (lspan_any _ _ _).mono ?_
  rintro e w3 ⟨rfl, hb3⟩
  have I11 := Lib.hid (HKb11.out.below hb3 HKb11.out.lt)
  have IB := Lib.hid (JB.out.trans (hb3.mono JB.out.size))
  clear HKb11 JB hb3
  go_upto_region 6 with (fail)
  obtain ⟨V2, hV⟩ : ∃ V, w3.alloc (.cells #[.int .i64 131072, .int .i64 (-131072)] 23) = V := ⟨_, rfl⟩
  have hz : Below w3.heap.size w3 V2 := by rw [← hV]; exact (Below.refl _ _).alloc (Nat.le_refl _) _
  have hk : Blk V2 w3.heap.size 23 #[.int .i64 131072, .int .i64 (-131072)] := by rw [← hV]; exact Blk.new' _ _ _ rfl
  rw [hV]
  obtain ⟨b13, hbb⟩ : ∃ b, w3.heap.size = b := ⟨_, rfl⟩
  rw [hbb] at hk ⊢
  have HKb13 := Lib.hid hk
  have J11 := Lib.hid (I11.out.below hz I11.out.lt)
  have JB := Lib.hid (IB.out.trans (hz.mono IB.out.size))
  have n1 : ¬ b11 = b13 := by have := I11.out.lt; omega
  have n2 : ¬ b13 = b11 := fun e => n1 e.symm
  have g13 : w.heap.size ≤ b13 := by have := IB.out.size; omega
  clear hV hz hk hbb IB I11
  go_cut [40, 41] from 38 to 42 (fun p q wx => p = .int .i64 (K : Int) ∧ q = .int .i64 0 ∧ V2 = wx)
  case first =>
    by_cases hle : (n : Int) ≤ 3600
    · rw [if_pos hle] at hKm
      go_wp2
      all_goals
        go_meet
        exact ⟨by rw [hKm], rfl, rfl⟩
    · rw [if_neg hle] at hKm
      go_wp2
      all_goals
        go_meet
        exact ⟨by rw [hKm]; rfl, rfl, rfl⟩
  case rest =>
    obtain ⟨rfl, rfl, hwc⟩ := hcut
    subst hwc
    have hKs : K ≤ 4001 := by omega
    clear hKm hK hKn
    go_wp2_with fail
    go_loopw [41] (fun j wr => ∃ (k : Nat) (mn mx : Int), k ≤ K ∧ j = .int .i64 k ∧ mn = mnP x k ∧ mx = mxP x k ∧ Hid (Blk wr b13 23 #[.int .i64 mn, .int .i64 mx]) ∧ Hid (Blk wr b11 23 #[.int .i64 B1, .int .i64 B2]) ∧ Hid (Below w.heap.size w wr)) (fun j wr => K - (intOf j).toNat)
    case atStart => exact ⟨0, _, _, by omega, rfl, rfl, rfl, HKb13.out, J11.out, JB.out⟩
    case round =>
      obtain ⟨k, mn, mx, hk, rfl, hmn, hmx, H13, H11, HB⟩ := hrel
      have HMX := Lib.hid (And.intro hmn hmx)
      clear hmn hmx
      by_cases hlt : k < K
      · have hk0 : (0 : Int) ≤ (k : Int) := by omega
        have hk1 : (k : Int) < (K : Int) := by omega
        obtain ⟨⟨c1, c2⟩, hc⟩ : ∃ c, pointZ (x + k) = c := ⟨_, rfl⟩
        have HC : Hid ((pointZ (x + k)).1 = c1 ∧ (pointZ (x + k)).2 = c2) := by rw [Hid, hc]; exact ⟨rfl, rfl⟩
        have HN : Hid (mnP x (k + 1) = min mn c1 ∧ mxP x (k + 1) = max mx c2) := by
          have e1 : mnP x (k + 1) = min (mnP x k) (pointZ (x + k)).1 := rfl
          have e2 : mxP x (k + 1) = max (mxP x k) (pointZ (x + k)).2 := rfl
          rw [Hid, e1, e2, hc, HMX.out.1, HMX.out.2]
          exact ⟨rfl, rfl⟩
        have HI : Hid (decide (B1 ≤ c1 ∧ c2 ≤ B2 ∧ c1 ≤ c2) = true) := decide_eq_true (by have h := HA.out k hlt; rw [hc] at h; exact h)
        clear hc
        go_wp2_with fail
        refine (lcos_any (x + k) _ ⟨by omega, by omega⟩).mono ?_
        rintro e w4 ⟨rfl, hb4⟩
        rw [HC.out.1, HC.out.2]
        go_upto_region 10 with (fail)
        obtain ⟨V4, hV⟩ : ∃ V, w4.alloc (.cells #[.int .i64 c1, .int .i64 c2] 23) = V := ⟨_, rfl⟩
        have hz : Below w4.heap.size w4 V4 := by rw [← hV]; exact (Below.refl _ _).alloc (Nat.le_refl _) _
        have hkk : Blk V4 w4.heap.size 23 #[.int .i64 c1, .int .i64 c2] := by rw [← hV]; exact Blk.new' _ _ _ rfl
        have hs : Below wr.heap.size wr V4 := hb4.trans (hz.mono hb4.size)
        rw [hV]
        have l13 := (H13.out.below hb4 H13.out.lt).lt
        obtain ⟨b15, hbb⟩ : ∃ b, w4.heap.size = b := ⟨_, rfl⟩
        rw [hbb] at hkk l13 ⊢
        have n3 : ¬ b13 = b15 := by omega
        have n4 : ¬ b15 = b13 := fun e => n3 e.symm
        have J13 := Lib.hid (H13.out.below hs H13.out.lt)
        have J11' := Lib.hid (H11.out.below hs H11.out.lt)
        have J15 := Lib.hid hkk
        have JB' := Lib.hid (HB.out.trans (hs.mono HB.out.size))
        clear hb4 hV hz hkk hs hbb H13 H11 HB
        obtain ⟨e0, e1, -, -⟩ := span_parts J15.out
        obtain ⟨f0, f1, -, -⟩ := span_parts J11'.out
        go_wp2_with fail
        refine (lwithin2_any _ _ _ _ _).mono ?_
        rintro e w5 ⟨rfl, hb5⟩
        rw [HI.out]
        have H13 := Lib.hid (J13.out.below hb5 J13.out.lt)
        have H11 := Lib.hid (J11'.out.below hb5 J11'.out.lt)
        have H15 := Lib.hid (J15.out.below hb5 J15.out.lt)
        have HB := Lib.hid (JB'.out.trans (hb5.mono JB'.out.size))
        clear J13 J11' J15 JB' hb5 e0 e1 f0 f1
        obtain ⟨e0, e1, -, -⟩ := span_parts H15.out
        obtain ⟨f0, f1, -, -⟩ := span_parts H13.out
        go_wp2_with fail
        all_goals
          refine (lspan_any _ _ _).mono ?_
          rintro e w6 ⟨rfl, hb6⟩
          have I13 := Lib.hid (H13.out.below hb6 H13.out.lt)
          have I11 := Lib.hid (H11.out.below hb6 H11.out.lt)
          have IB := Lib.hid (HB.out.trans (hb6.mono HB.out.size))
          clear H13 H11 H15 HB hb6 e0 e1 f0 f1
          obtain ⟨u0, u1, v0, v1⟩ := span_parts I13.out
          go_wp2
          go_roundw
          case rel => exact ⟨k + 1, _, _, by omega, by go_num, by rw [HN.out.1]; omega, by rw [HN.out.2]; omega, (I13.out.set_ 0 _).set_ 1 _, (I11.out.far_ (p := ⟨b13, 0, none⟩) (by exact n1) _).far_ (p := ⟨b13, 1, none⟩) (by exact n1) _, (IB.out.setCell (by exact g13) _).setCell (by exact g13) _⟩
          case measure => simp [intOf]; omega
      · obtain rfl : k = K := by omega
        obtain rfl : mn = B1 := HMX.out.1.trans HP.out.1
        obtain rfl : mx = B2 := HMX.out.2.trans HP.out.2
        obtain ⟨⟨C1, C2⟩, hC⟩ : ∃ c, boundsZ (x + i, x + (i + r)) = c := ⟨_, rfl⟩
        rw [hC] at HV2 HM HRN
        have HI : Hid (decide (mn ≤ C1 ∧ C2 ≤ mx ∧ C1 ≤ C2) = true) := decide_eq_true ⟨HM.out.1, HM.out.2, HRN.out.2.1⟩
        clear hC HMX HP HA HM HRN HV
        go_wp2_with fail
        refine (lspan_any _ _ _).mono ?_
        rintro e w7 ⟨rfl, hb7⟩
        go_wp2_with fail
        refine (tCos_any (x + i) (x + (i + r)) _).mono ?_
        rintro e w8 ⟨rfl, hb8⟩
        rw [HV2.out.1, HV2.out.2]
        have hb9 := hb7.trans (hb8.mono hb7.size)
        go_upto_region 17 with (fail)
        obtain ⟨V9, hV⟩ : ∃ V, w8.alloc (.cells #[.int .i64 C1, .int .i64 C2] 23) = V := ⟨_, rfl⟩
        have hz : Below w8.heap.size w8 V9 := by rw [← hV]; exact (Below.refl _ _).alloc (Nat.le_refl _) _
        have hkk : Blk V9 w8.heap.size 23 #[.int .i64 C1, .int .i64 C2] := by rw [← hV]; exact Blk.new' _ _ _ rfl
        have hs : Below wr.heap.size wr V9 := hb9.trans (hz.mono hb9.size)
        rw [hV]
        have J13 := Lib.hid (H13.out.below hs H13.out.lt)
        have J11' := Lib.hid (H11.out.below hs H11.out.lt)
        have JB' := Lib.hid (HB.out.trans (hs.mono HB.out.size))
        obtain ⟨b19, hbb⟩ : ∃ b, w8.heap.size = b := ⟨_, rfl⟩
        rw [hbb] at hkk ⊢
        have J19 := Lib.hid hkk
        clear hb7 hb8 hb9 hV hz hkk hs hbb H13 H11 HB
        obtain ⟨e0, e1, -, -⟩ := span_parts J13.out
        obtain ⟨f0, f1, -, -⟩ := span_parts J11'.out
        obtain ⟨h0, h1, -, -⟩ := span_parts J19.out
        go_wp2_with fail
        refine (lwithin2_any _ _ _ _ _).mono ?_
        rintro e w10 ⟨rfl, hb10⟩
        rw [HI.out]
        have KB := Lib.hid (JB'.out.trans (hb10.mono JB'.out.size))
        clear e0 e1 f0 f1 h0 h1 J13 J11' J19 JB' hb10
        go_wp2_with fail
        refine (works2_any _).mono ?_
        rintro e w11 ⟨rfl, hb11⟩
        have KC := KB.out.trans (hb11.mono KB.out.size)
        go_wp2
        go_ret
        exact ⟨rfl, KC⟩
end Go.Proofs.Ytfblpokjbopagaa
/-
  The law TideSpans returns true at every input, and its arguments read afterwards as before: at every angle, length and two places.
-/
namespace Go.Proofs.Ytfblpokjbopagaa.TideSpans
open Go.ChangeShapes Go.WideShapes Go.ChangeAt Go.WideMaps Go.WideElems Go.RowKit

set_option maxRecDepth 100000 in
theorem lifted (os : Os) (started : os.Started) (H : Type) (enc : TypeId × Value → H) :
    ReturnsInHanded {} Try.checked os 7 .any (Rows.tideSpansSpec.pre6 enc Try.prog Try.f7 Rows.tideSpansRow.domain false) (Rows.tideSpansSpec.post enc Try.prog Try.f7 false true false false) := by
  refine returnsInHanded_of_change (C := Try.checked) own_ started (by kernel_rfl) Try.func7
    (ChangeSpec.witness6 (enc := enc) (C := Try.checked) false ⟨#[], #[.int .i32 0, .int .u16 0, .int .u16 0, .int .u16 0], []⟩ 8 (by kernel_rfl) (by kernel_rfl) (by kernel_rfl) (by kernel_rfl)) ?_
  intro W base args ds gs before hval0 hW hcnd _
  have hval : ∀ (j : Nat) t v, Try.f7.params[j]? = some t → args[j]? = some v → Value.okWide Try.prog W .any base t v := hval0
  have hW' := hW
  obtain ⟨p, q, hA0, hV, rfl, hfz, hnd⟩ := hW
  have hA : DataW.TrodAll enc Try.prog W 0 (fun _ => true) true Try.f7.params.toList args.toList ds p := hA0
  rw [Try.params7] at hA hval
  obtain ⟨v0, vs0, d0, ds0, p0, q0, hargs, rfl, rfl, h0, r0⟩ := trodAll_cons hA
  obtain ⟨v1, vs1, d1, ds1, p1, q1, rfl, rfl, rfl, h1, r1⟩ := trodAll_cons r0
  obtain ⟨v2, vs2, d2, ds2, p2, q2, rfl, rfl, rfl, h2, r2⟩ := trodAll_cons r1
  obtain ⟨v3, vs3, d3, ds3, p3, q3, rfl, rfl, rfl, h3, r3⟩ := trodAll_cons r2
  obtain ⟨rfl, rfl, rfl⟩ := trodAll_nil r3
  obtain rfl : args = #[v0, v1, v2, v3] := by cases args; simp_all
  obtain ⟨rfl, rfl⟩ := trodVars_none hV
  obtain ⟨a0, rfl, _, _, w0⟩ := open_int Try.underlying21 (hval 0 21 v0 rfl rfl) h0
  have w0 := wf_i32 w0
  obtain ⟨a1, rfl, _, _, w1⟩ := open_int Try.underlying63 (hval 1 63 v1 rfl rfl) h1
  have w1 := wf_u16 w1
  obtain ⟨a2, rfl, _, _, w2⟩ := open_int Try.underlying63 (hval 2 63 v2 rfl rfl) h2
  have w2 := wf_u16 w2
  obtain ⟨a3, rfl, _, _, w3⟩ := open_int Try.underlying63 (hval 3 63 v3 rfl rfl) h3
  have w3 := wf_u16 w3
  clear hA0 hval0
  simp only [List.append_nil] at hW'
  have hlt : ∀ x ∈ p0 ++ p1 ++ p2 ++ p3, x.block < W.heap.size := fun x hx => by simpa using hW'.lt x (by simpa using hx)
  have k0 : ∀ x ∈ p0, x.block < W.heap.size := fun x hx => hlt x (by simp [hx])
  have k1 : ∀ x ∈ p1, x.block < W.heap.size := fun x hx => hlt x (by simp [hx])
  have k2 : ∀ x ∈ p2, x.block < W.heap.size := fun x hx => hlt x (by simp [hx])
  have k3 : ∀ x ∈ p3, x.block < W.heap.size := fun x hx => hlt x (by simp [hx])
  refine (TideSpans_any a0 a1 a2 a3 W w0 w1 w2 w3).mono ?_
  rintro e W' ⟨rfl, bel⟩
  refine ⟨_, rfl, _, _, _, [], (p0 ++ (p1 ++ (p2 ++ (p3 ++ [])))), [], hW', ?_, ?_, ?_, bel.frame _, fun h => by cases h⟩
  · exact trodAll_mk1 (shut_bool Try.underlying4 true)
  · exact (trodAll_cons_mk (Below.trod laid_out (by kernel_rfl) (of_decide_eq_true (by kernel_rfl)) h0 bel k0) (trodAll_cons_mk (Below.trod laid_out (by kernel_rfl) (of_decide_eq_true (by kernel_rfl)) h1 bel k1) (trodAll_cons_mk (Below.trod laid_out (by kernel_rfl) (of_decide_eq_true (by kernel_rfl)) h2 bel k2) (trodAll_cons_mk (Below.trod laid_out (by kernel_rfl) (of_decide_eq_true (by kernel_rfl)) h3 bel k3) trodAll_mk0))))
  · rfl
set_option maxRecDepth 100000 in
theorem over : Rows.tideSpansRow.holds Try.pinned (OpenSpec.ofChange Rows.tideSpansSpec) :=
  OpenClaim.holds_of_wide 7 Try.f7 rfl rfl rfl rfl rfl rfl rfl ⟨rfl, rfl, rfl, rfl, rfl⟩ rfl rfl rfl rfl rfl (by kernel_rfl) Try.func7 (by kernel_rfl)
    (of_decide_eq_true (by kernel_rfl)) (by unfold Func.isWrapper; first | (rw [if_pos (by decide +kernel)]; kernel_rfl) | (rw [if_neg (by decide +kernel)]; exact ⟨rfl, rfl⟩))
    (fun os started H enc _ => lifted os started H enc)
end Go.Proofs.Ytfblpokjbopagaa.TideSpans
namespace Go.Proofs.Ytfblpokjbopagaa
theorem TideSpans_row : Rows.TideSpansSaid := TideSpans.over
#print axioms TideSpans_row
end Go.Proofs.Ytfblpokjbopagaa
