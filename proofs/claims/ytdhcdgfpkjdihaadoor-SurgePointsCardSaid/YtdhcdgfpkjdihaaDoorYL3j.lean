/-
  Layer 3, the laws: SurgePoints.
-/
import Derived.Test.YtdhcdgfpkjdihaaDoorYL3g
import Derived.Test.YtdhcdgfpkjdihaaDoorYP3r
set_option linter.unusedSimpArgs false
set_option linter.unusedVariables false
namespace Go.Proofs.YtdhcdgfpkjdihaaDoor.Sg
open Go.RowKit Go.Shelf
def op10_21_0 : Oper := ⟨some 215, .fieldAddr 30 (.tmp 4) 0, 0, "outright.go:123", #[], none⟩
def op10_21_1 : Oper := ⟨some 216, .fieldAddr 24 (.tmp 215) 3, 0, "outright.go:123", #[⟨0, .data⟩], none⟩
def op10_21_2 : Oper := ⟨some 217, .load 22 (.tmp 216), 22, "outright.go:123", #[⟨1, .data⟩], none⟩
def op10_21_3 : Oper := ⟨some 218, .move (.tmp 21), 3, "outright.go:123", #[], none⟩
def op10_21_4 : Oper := ⟨some 219, .indexAddr 22 (.tmp 217) (.tmp 218), 0, "outright.go:123", #[⟨2, .data⟩, ⟨3, .data⟩], none⟩
def op10_21_5 : Oper := ⟨some 220, .fieldAddr 26 (.tmp 219) 0, 0, "outright.go:123", #[⟨4, .data⟩], none⟩
def op10_21_6 : Oper := ⟨some 221, .load 3 (.tmp 220), 3, "outright.go:123", #[⟨5, .data⟩], none⟩
def op10_21_7 : Oper := ⟨some 222, .fieldAddr 30 (.tmp 4) 0, 0, "outright.go:123", #[], none⟩
def op10_21_8 : Oper := ⟨some 223, .fieldAddr 24 (.tmp 222) 3, 0, "outright.go:123", #[⟨7, .data⟩], none⟩
def op10_21_9 : Oper := ⟨some 224, .load 22 (.tmp 223), 22, "outright.go:123", #[⟨8, .data⟩], none⟩
def op10_21_10 : Oper := ⟨some 225, .move (.tmp 21), 3, "outright.go:123", #[], none⟩
def op10_21_11 : Oper := ⟨some 226, .indexAddr 22 (.tmp 224) (.tmp 225), 0, "outright.go:123", #[⟨9, .data⟩, ⟨10, .data⟩], none⟩
def op10_21_12 : Oper := ⟨some 227, .fieldAddr 26 (.tmp 226) 1, 0, "outright.go:123", #[⟨11, .data⟩], none⟩
def op10_21_13 : Oper := ⟨some 228, .load 3 (.tmp 227), 3, "outright.go:123", #[⟨12, .data⟩], none⟩
def op10_21_14 : Oper := ⟨some 229, .binOp BinOp.neq 3 (.tmp 221) (.tmp 228) 3, 4, "outright.go:123", #[⟨6, .data⟩, ⟨13, .data⟩], none⟩
def op10_25_0 : Oper := ⟨some 272, .fieldAddr 30 (.tmp 4) 0, 0, "outright.go:130", #[], none⟩
def op10_25_1 : Oper := ⟨some 273, .load 24 (.tmp 272), 24, "outright.go:130", #[⟨0, .data⟩], none⟩
def op10_25_2 : Oper := ⟨some 274, .fieldAddr 30 (.tmp 4) 1, 0, "outright.go:130", #[], none⟩
def op10_25_3 : Oper := ⟨some 275, .load 26 (.tmp 274), 26, "outright.go:130", #[⟨2, .data⟩], none⟩
def op10_25_4 : Oper := ⟨some 276, .fieldAddr 30 (.tmp 4) 2, 0, "outright.go:130", #[], none⟩
def op10_25_5 : Oper := ⟨some 277, .load 28 (.tmp 276), 28, "outright.go:130", #[⟨4, .data⟩], none⟩
def op10_25_6 : Oper := ⟨some 278, .fieldAddr 30 (.tmp 4) 3, 0, "outright.go:130", #[], none⟩
def op10_25_7 : Oper := ⟨some 279, .load 3 (.tmp 278), 3, "outright.go:130", #[⟨6, .data⟩], none⟩
def op10_25_8 : Oper := ⟨some 280, .load 26 (.tmp 5), 26, "outright.go:130", #[], none⟩
def op10_25_9 : Oper := ⟨some 281, .fieldAddr 30 (.tmp 4) 4, 0, "outright.go:130", #[], none⟩
def op10_25_10 : Oper := ⟨some 282, .load 3 (.tmp 281), 3, "outright.go:130", #[⟨9, .data⟩], none⟩
def op10_25_11 : Oper := ⟨some 283, .binOp BinOp.shl 3 (.const (Value.int IntKind.i64 1)) (.tmp 282) 3, 3, "outright.go:130", #[⟨10, .data⟩], none⟩
def op10_25_12 : Oper := ⟨some 284, .move (.tmp 3), 3, "outright.go:130", #[], none⟩
def op10_25_13 : Oper := ⟨some 285, .call { callee := Callee.value (.func 47), args := #[.tmp 284], argTypes := #[3] }, 26, "outright.go:130", #[⟨12, .data⟩], none⟩
def op10_25_14 : Oper := ⟨some 286, .build 32 #[(0, .tmp 280), (1, .tmp 283), (2, .tmp 285)], 32, "outright.go:130", #[⟨8, .data⟩, ⟨11, .data⟩, ⟨13, .data⟩], none⟩
def op10_25_15 : Oper := ⟨some 287, .call { callee := Callee.value (.func 27), args := #[.tmp 273, .tmp 275, .tmp 277, .tmp 279, .tmp 286], argTypes := #[24, 26, 28, 3, 32] }, 47, "outright.go:130", #[⟨1, .data⟩, ⟨3, .data⟩, ⟨5, .data⟩, ⟨7, .data⟩, ⟨14, .data⟩, ⟨13, .chain⟩], none⟩
def op10_25_16 : Oper := ⟨some 271, .move (.tmp 287), 47, "outright.go:130", #[⟨15, .data⟩], none⟩
def op10_25_17 : Oper := ⟨some 288, .extract (.tmp 271) 0, 26, "outright.go:130", #[⟨16, .data⟩], none⟩
def op10_25_18 : Oper := ⟨some 289, .extract (.tmp 271) 1, 35, "outright.go:130", #[⟨16, .data⟩, ⟨20, .gcOnly .lateStores⟩], none⟩
def op10_25_19 : Oper := ⟨some 22, .alloc 26, 0, "outright.go:130", #[], none⟩
def op10_25_20 : Oper := ⟨none, .store 26 (.tmp 22) (.tmp 288), 0, "outright.go:130", #[⟨19, .data⟩, ⟨17, .data⟩, ⟨15, .chain⟩, ⟨0, .phase⟩, ⟨1, .phase⟩, ⟨2, .phase⟩, ⟨3, .phase⟩, ⟨4, .phase⟩, ⟨5, .phase⟩, ⟨6, .phase⟩, ⟨7, .phase⟩, ⟨8, .phase⟩, ⟨9, .phase⟩, ⟨10, .phase⟩, ⟨11, .phase⟩, ⟨12, .phase⟩, ⟨13, .phase⟩, ⟨14, .phase⟩, ⟨15, .phase⟩, ⟨16, .phase⟩, ⟨17, .phase⟩, ⟨18, .textOnly .lateStores⟩, ⟨19, .phase⟩], none⟩
def op10_25_21 : Oper := ⟨some 10, .assign (.tmp 289), 35, "outright.go:130", #[⟨18, .data⟩, ⟨20, .chain⟩, ⟨0, .phase⟩, ⟨1, .phase⟩, ⟨2, .phase⟩, ⟨3, .phase⟩, ⟨4, .phase⟩, ⟨5, .phase⟩, ⟨6, .phase⟩, ⟨7, .phase⟩, ⟨8, .phase⟩, ⟨9, .phase⟩, ⟨10, .phase⟩, ⟨11, .phase⟩, ⟨12, .phase⟩, ⟨13, .phase⟩, ⟨14, .phase⟩, ⟨15, .phase⟩, ⟨16, .phase⟩, ⟨17, .phase⟩, ⟨18, .phase⟩, ⟨19, .phase⟩, ⟨20, .phase⟩], none⟩
theorem setupE_zero {g : G} {sea : Int × Int} {m : Mo} {c d : Int} {s : Int × Int} (h : setupE g sea m c d s = 0) : placeE g sea m c = 0 ∧ (0 ≤ d ∧ d ≤ 7) ∧ spOk 0 10000 s = true := by
 obtain ⟨h1, h2⟩ := andE_zero.1 h
 refine ⟨h1, ?_⟩
 split at h2
 · assumption
 · cases h2
theorem setupE_of {g : G} {sea : Int × Int} {m : Mo} {c d : Int} {s : Int × Int} (hp : placeE g sea m c = 0) (hd : 0 ≤ d ∧ d ≤ 7) (hs : spOk 0 10000 s = true) : setupE g sea m c d s = 0 := andE_zero.2 ⟨hp, if_pos ⟨hd, hs⟩⟩
theorem setupV_of {g : G} {sea : Int × Int} {m : Mo} {c : Int} {d : Nat} {s : Int × Int} (h : setupE g sea m c (d : Int) s = 0) : setupV g sea m c (d : Int) s = setupZ g sea m c d s := by
 unfold setupV
 rw [if_pos h]
 rfl
theorem place_all {g : G} {sea : Int × Int} {m : Mo} {c : Int} (hp : placeE g sea m c = 0) : ((∀ c, (grZ g c).1 ≤ (grZ g c).2) ∧ sea.1 ≤ sea.2 ∧ moE m = 0) ∧ ((1 ≤ g.W ∧ g.W ≤ 24) ∧ (1 ≤ g.H ∧ g.H ≤ 24) ∧ 1 ≤ g.S ∧ g.S ≤ 10000) ∧ 0 ≤ c ∧ c < g.W * g.H := by
 obtain ⟨⟨h1, h2⟩, h3, h4, h5⟩ := placeE_zero hp
 obtain ⟨k1, k2, k3, k4, -⟩ := checkE_zero h1
 exact ⟨⟨fun c => (gr_ok h1 c).1, (spOk_iff.1 h2).1, h3⟩, ⟨k1, k2, k3⟩, h4, by omega⟩
theorem fetchE_of {g : G} {sea : Int × Int} {m : Mo} {c : Int} {d : Nat} (hp : placeE g sea m c = 0) (hd : d < 8) : fetchE g sea c (d : Int) = 0 ∧ fetchVS g sea c (d : Int) = sureZ g sea c d ∧ fetchVM g sea c (d : Int) = mayZ g sea c d := by
 obtain ⟨⟨h1, h2⟩, h3, h4⟩ := placeE_zero hp
 have e : fetchE g sea c (d : Int) = 0 := andE_zero.2 ⟨andE_zero.2 ⟨andE_zero.2 ⟨h1, spE_pos h2⟩, cellE_pos h4⟩, if_pos ⟨by omega, by omega⟩⟩
 refine ⟨e, ?_, ?_⟩
 · unfold fetchVS
   rw [if_pos e]
   rfl
 · unfold fetchVM
   rw [if_pos e]
   rfl
theorem points_facts {g : G} {sea : Int × Int} {m : Mo} {c : Int} {d : Nat} {s a : Int × Int} (hE : setupE g sea m c (d : Int) s = 0) (ha : setupV g sea m c (d : Int) s = a) :
 (setupE g sea m c ((oppZ d : Nat) : Int) s = 0 ∧ setupV g sea m c ((oppZ d : Nat) : Int) s = (-a.2, -a.1)) ∧ (setupE g sea m c (d : Int) (0, 0) = 0 ∧ setupV g sea m c (d : Int) (0, 0) = (0, 0)) ∧
 (a.1 ≤ a.2 ∧ (-9000000000 ≤ a.1 ∧ a.1 ≤ 9000000000) ∧ (-9000000000 ≤ a.2 ∧ a.2 ≤ 9000000000)) ∧
 (fetchE g sea c (d : Int) = 0 ∧ (fetchVS g sea c (d : Int)).length ≤ (fetchVM g sea c (d : Int)).length ∧ (fetchVM g sea c (d : Int)).length ≤ 23) ∧
 (fetchE g sea c ((oppZ d : Nat) : Int) = 0 ∧ (fetchVS g sea c ((oppZ d : Nat) : Int)).length ≤ (fetchVM g sea c ((oppZ d : Nat) : Int)).length ∧ (fetchVM g sea c ((oppZ d : Nat) : Int)).length ≤ 23) ∧
 (∀ f, setupE g sea m c (d : Int) f = 0 → (fetchVM g sea c (d : Int)).length = 0 → s.1 ≤ f.1 → s.2 ≤ f.2 → a.1 ≤ (setupV g sea m c (d : Int) f).1 ∧ a.2 ≤ (setupV g sea m c (d : Int) f).2) := by
 obtain ⟨hp, ⟨hd0, hd7⟩, hs⟩ := setupE_zero hE
 obtain ⟨⟨hg, hse, hm⟩, ⟨hW, hH, hS⟩, hc⟩ := place_all hp
 have hd : d < 8 := by omega
 have ho := opp_lt d
 rw [setupV_of hE] at ha
 subst ha
 have hO := setupE_of (d := ((oppZ d : Nat) : Int)) hp ⟨by omega, by omega⟩ hs
 have hZ := setupE_of (d := (d : Int)) (s := (0, 0)) hp ⟨by omega, by omega⟩ (by decide)
 obtain ⟨o1, o2⟩ := setup_opp g sea m c hd s
 obtain ⟨f1, f2, f3⟩ := fetchE_of hp hd
 obtain ⟨g1, g2, g3⟩ := fetchE_of hp ho
 have hsp := spOk_iff.1 hs
 refine ⟨⟨hO, ?_⟩, ⟨hZ, ?_⟩, ⟨?_, setup_bd hd hg hse hm hs hW hH hS hc⟩, ⟨f1, ?_, ?_⟩, ⟨g1, ?_, ?_⟩, ?_⟩
 · rw [setupV_of hO, ← o1, ← o2]
 · rw [setupV_of hZ]
   exact setup_still g sea m c d
 · exact (setup_in (In.self hg hse hm) hm hS c d hs (Lie.self hsp.1)).1
 · rw [f2, f3]
   exact sure_len hg hse c d
 · rw [f3]
   exact Nat.le_trans (fetch_len _ g c d) (len_lt hd hW hH hc)
 · rw [g2, g3]
   exact sure_len hg hse c _
 · rw [g3]
   exact Nat.le_trans (fetch_len _ g c _) (len_lt ho hW hH hc)
 · intro f hf hn h1 h2
   rw [f3] at hn
   rw [setupV_of hf]
   exact setup_speed hg hse hm hS c d hsp.2.1 (by omega) h1 h2 hn
theorem points_steady {g : G} {sea : Int × Int} {m : Mo} {c : Int} {d : Nat} {s : Int × Int} {p : Int} (hE : setupE g sea m c (d : Int) s = 0) (hpt : ∀ k (h : k < g.ss.length), g.ss[k].1 = g.ss[k].2) (hse : sea.1 = sea.2) (hmd : m.d.1 = m.d.2) (hs1 : s.1 = s.2) (hd2 : d % 2 = 0) (hp1 : -20000 ≤ p ∧ p ≤ 20000) :
 steadyE g sea m c ⟨s, 2 ^ d, (p, p)⟩ = 0 ∧ (steadyV g sea m c ⟨s, 2 ^ d, (p, p)⟩).1 ≤ (steadyV g sea m c ⟨s, 2 ^ d, (p, p)⟩).2 ∧
 (steadyV g sea m c ⟨s, 2 ^ d, (p, p)⟩).2 - (steadyV g sea m c ⟨s, 2 ^ d, (p, p)⟩).1 ≤ (fetchVM g sea c (d : Int)).length + (fetchVM g sea c ((oppZ d : Nat) : Int)).length + 1 ∧
 ((-10000000000 ≤ (steadyV g sea m c ⟨s, 2 ^ d, (p, p)⟩).1 ∧ (steadyV g sea m c ⟨s, 2 ^ d, (p, p)⟩).1 ≤ 10000000000) ∧ (-10000000000 ≤ (steadyV g sea m c ⟨s, 2 ^ d, (p, p)⟩).2 ∧ (steadyV g sea m c ⟨s, 2 ^ d, (p, p)⟩).2 ≤ 10000000000)) := by
 obtain ⟨hp, ⟨hd0, hd7⟩, hs⟩ := setupE_zero hE
 obtain ⟨⟨hg, hse', hm⟩, ⟨hW, hH, hS⟩, hc⟩ := place_all hp
 have hd : d < 8 := by omega
 have hk : (1 : Int) ≤ 2 ^ d ∧ (2 : Int) ^ d ≤ 255 := by rcases dir_cases hd with rfl | rfl | rfl | rfl | rfl | rfl | rfl | rfl <;> decide
 have hw : wiE ⟨s, 2 ^ d, (p, p)⟩ = 0 := if_pos ⟨hs, spOk_iff.2 ⟨Int.le_refl _, hp1.1, hp1.2⟩, hk.1, hk.2⟩
 have hst : steadyE g sea m c ⟨s, 2 ^ d, (p, p)⟩ = 0 := andE_zero.2 ⟨hp, hw⟩
 have hv : steadyV g sea m c ⟨s, 2 ^ d, (p, p)⟩ = steadyZ g sea m c ⟨s, 2 ^ d, (p, p)⟩ := if_pos hst
 have hgp : ∀ c, (grZ g c).1 = (grZ g c).2 := by
  intro x
  by_cases h : x.toNat < g.ss.length
  · unfold grZ
    rw [List.getD_eq_getElem?_getD, List.getElem?_eq_getElem h]
    exact hpt _ h
  · rw [gr_out (by omega)]
 rw [hv, (fetchE_of hp hd).2.2, (fetchE_of hp (opp_lt d)).2.2]
 refine ⟨hst, ?_, steady_pt hd hgp hse hmd hs1 hd2, steady_bd hg hse' hm hw hW hH hS hc⟩
 exact (steady_in (In.self hg hse' hm) hm hS c hw (Lie.self (spOk_iff.1 hs).1) (Lie.self (Int.le_refl _)) hk (fun _ h => h)).1
set_option maxRecDepth 100000 in
set_option maxHeartbeats 6000000 in
theorem SurgePoints_any (WW HH SS : Int) (ss : List (Int × Int)) (A : Option Addr) (c : Nat) (sa sb d1 d2 l1 l2 cell dir : Int) (s1 s2 f1 f2 low : Int) (w : World) (HD : DirsAt w) (hs : SpansAt w w.heap.size (.slice A ss.length c) ss) :
 Calls Tryd.prog 10 #[.agg #[.int .i64 (WW), .int .i64 (HH), .int .i64 (SS), .slice A ss.length c, .int .i64 (sa), .int .i64 (sb), .int .i64 (d1), .int .i64 (d2), .int .i64 (l1), .int .i64 (l2), .int .i64 (cell), .int .i64 (dir)], .agg #[.int .i64 s1, .int .i64 s2], .agg #[.int .i64 f1, .int .i64 f2], .int .i64 low] w fun e w' => e = .returned (.bool true) ∧ Below w.heap.size w w' := by
 by_cases hf : decide (ss.length ≤ 600) = true
 rotate_left
 ·
  have hf : decide (ss.length ≤ 600) = false := by simpa using hf
  have HF := Lib.hid hf
  clear hf
  have HDR0 := Lib.hid HD
  have HS0 := Lib.hid hs
  clear HD hs
  --@(
  go_enter Tryd.func10, Tryd.ntmps10
  go_upto_region 1 with (fail)
  obtain ⟨Va1, hV⟩ : ∃ V, ((w.alloc (.cells #[.int .i64 (WW), .int .i64 (HH), .int .i64 (SS), .slice A ss.length c, .int .i64 (sa), .int .i64 (sb), .int .i64 (d1), .int .i64 (d2), .int .i64 (l1), .int .i64 (l2), .int .i64 (cell), .int .i64 (dir)] 30)).alloc (.cells #[.int .i64 (s1), .int .i64 (s2)] 26)).alloc (.cells #[.int .i64 (f1), .int .i64 (f2)] 26) = V := ⟨_, rfl⟩
  have Kb4 : Hid (Blk Va1 (w.heap.size) 30 #[.int .i64 (WW), .int .i64 (HH), .int .i64 (SS), .slice A ss.length c, .int .i64 (sa), .int .i64 (sb), .int .i64 (d1), .int .i64 (d2), .int .i64 (l1), .int .i64 (l2), .int .i64 (cell), .int .i64 (dir)]) := by rw [← hV]; exact ((Blk.new' _ _ _ (by simp)).alloc _).alloc _
  have Kb5 : Hid (Blk Va1 (w.heap.size + 1) 26 #[.int .i64 (s1), .int .i64 (s2)]) := by rw [← hV]; exact (Blk.new' _ _ _ (by simp)).alloc _
  have Kb6 : Hid (Blk Va1 (w.heap.size + 1 + 1) 26 #[.int .i64 (f1), .int .i64 (f2)]) := by rw [← hV]; exact Blk.new' _ _ _ (by simp)
  have GHB : Hid (Below w.heap.size w Va1) := by rw [← hV]; exact (by repeat (first | exact Below.refl _ _ | assumption | refine Below.drew ?_ | refine Below.drewN' ?_ _ | (refine Below.alloc ?_ (by simp <;> omega) _) | (refine Below.setCell ?_ (by simp <;> omega) _)))
  have HZ : Hid (Below w.heap.size w Va1) := GHB
  rw [hV]
  clear hV HZ
  have HB := GHB
  clear GHB
  obtain ⟨b6, hqb6⟩ : ∃ b, w.heap.size + 1 + 1 = b := ⟨_, rfl⟩
  obtain ⟨b5, hqb5⟩ : ∃ b, w.heap.size + 1 = b := ⟨_, rfl⟩
  obtain ⟨b4, hqb4⟩ : ∃ b, w.heap.size = b := ⟨_, rfl⟩
  have gb4 : w.heap.size ≤ b4 := by omega
  have gb5 : w.heap.size ≤ b5 := by omega
  have nb5b4 : ¬ b5 = b4 := by omega
  have nb4b5 : ¬ b4 = b5 := by omega
  have gb6 : w.heap.size ≤ b6 := by omega
  have nb6b4 : ¬ b6 = b4 := by omega
  have nb4b6 : ¬ b4 = b6 := by omega
  have nb6b5 : ¬ b6 = b5 := by omega
  have nb5b6 : ¬ b5 = b6 := by omega
  rw [hqb6] at Kb6 ⊢
  clear hqb6
  rw [hqb5] at Kb5 ⊢
  clear hqb5
  have HN : Hid (w.heap.size = b4) := hqb4
  rw [hqb4] at Kb4 ⊢
  clear hqb4
  have Hb4 := Kb4
  clear Kb4
  have Hb5 := Kb5
  clear Kb5
  have Hb6 := Kb6
  clear Kb6
  have cb40 := kcl0 Hb4
  have cb41 := kcl1 Hb4
  have cb42 := kcl2 Hb4
  have cb43 := kcl3 Hb4
  have cb44 := kcl4 Hb4
  have cb45 := kcl5 Hb4
  have cb46 := kcl6 Hb4
  have cb47 := kcl7 Hb4
  have cb48 := kcl8 Hb4
  have cb49 : Va1.cell? ⟨b4, 9, none⟩ = some (.int .i64 (l2)) := Hb4.out.cell 9
  have cb410 : Va1.cell? ⟨b4, 10, none⟩ = some (.int .i64 (cell)) := Hb4.out.cell 10
  have cb411 : Va1.cell? ⟨b4, 11, none⟩ = some (.int .i64 (dir)) := Hb4.out.cell 11
  go_wp2_with fail
  refine (few_any WW HH SS A ss.length c sa sb d1 d2 l1 l2 cell dir _).mono ?_
  rintro e Va2 ⟨rfl, hb⟩
  have HZ := Lib.hid hb
  clear hb
  rw [HF.out]
  clear cb40 cb41 cb42 cb43 cb44 cb45 cb46 cb47 cb48 cb49 cb410 cb411
  replace Hb4 := kbl Hb4 HZ
  replace Hb5 := kbl Hb5 HZ
  replace Hb6 := kbl Hb6 HZ
  replace HB := ktr' HB HZ
  clear HZ
  go_wp2_with fail
  refine (works_any _ (HDR0.out.later HB.out)).mono ?_
  rintro e Va3 ⟨rfl, hb⟩
  have HBZ := Lib.hid (HB.out.trans (hb.mono HB.out.size))
  clear hb
  go_wp2
  go_ret
  exact ⟨rfl, HBZ.out⟩
  --@)
 obtain ⟨E, hE⟩ : ∃ z, setupE ⟨WW, HH, SS, ss⟩ (sa, sb) ⟨(d1, d2), (l1, l2)⟩ cell dir (s1, s2) = z := ⟨_, rfl⟩
 obtain ⟨⟨a1, a2⟩, ha⟩ : ∃ z, setupV ⟨WW, HH, SS, ss⟩ (sa, sb) ⟨(d1, d2), (l1, l2)⟩ cell dir (s1, s2) = z := ⟨_, rfl⟩
 have HF := Lib.hid hf
 clear hf
 by_cases h0 : E = 0
 rotate_left
 ·
  have hb1 : (E == 0) = false := beq_eq_false_iff_ne.2 h0
  have HE := Lib.hid hE
  have HA := Lib.hid ha
  clear hE ha
  have HDR0 := Lib.hid HD
  have HS0 := Lib.hid hs
  clear HD hs
  --@(
  go_enter Tryd.func10, Tryd.ntmps10
  go_upto_region 1 with (fail)
  obtain ⟨Va51, hV⟩ : ∃ V, ((w.alloc (.cells #[.int .i64 (WW), .int .i64 (HH), .int .i64 (SS), .slice A ss.length c, .int .i64 (sa), .int .i64 (sb), .int .i64 (d1), .int .i64 (d2), .int .i64 (l1), .int .i64 (l2), .int .i64 (cell), .int .i64 (dir)] 30)).alloc (.cells #[.int .i64 (s1), .int .i64 (s2)] 26)).alloc (.cells #[.int .i64 (f1), .int .i64 (f2)] 26) = V := ⟨_, rfl⟩
  have Kb4 : Hid (Blk Va51 (w.heap.size) 30 #[.int .i64 (WW), .int .i64 (HH), .int .i64 (SS), .slice A ss.length c, .int .i64 (sa), .int .i64 (sb), .int .i64 (d1), .int .i64 (d2), .int .i64 (l1), .int .i64 (l2), .int .i64 (cell), .int .i64 (dir)]) := by rw [← hV]; exact ((Blk.new' _ _ _ (by simp)).alloc _).alloc _
  have Kb5 : Hid (Blk Va51 (w.heap.size + 1) 26 #[.int .i64 (s1), .int .i64 (s2)]) := by rw [← hV]; exact (Blk.new' _ _ _ (by simp)).alloc _
  have Kb6 : Hid (Blk Va51 (w.heap.size + 1 + 1) 26 #[.int .i64 (f1), .int .i64 (f2)]) := by rw [← hV]; exact Blk.new' _ _ _ (by simp)
  have GHB : Hid (Below w.heap.size w Va51) := by rw [← hV]; exact (by repeat (first | exact Below.refl _ _ | assumption | refine Below.drew ?_ | refine Below.drewN' ?_ _ | (refine Below.alloc ?_ (by simp <;> omega) _) | (refine Below.setCell ?_ (by simp <;> omega) _)))
  have HZ : Hid (Below w.heap.size w Va51) := GHB
  rw [hV]
  clear hV HZ
  have HB := GHB
  clear GHB
  obtain ⟨b6, hqb6⟩ : ∃ b, w.heap.size + 1 + 1 = b := ⟨_, rfl⟩
  obtain ⟨b5, hqb5⟩ : ∃ b, w.heap.size + 1 = b := ⟨_, rfl⟩
  obtain ⟨b4, hqb4⟩ : ∃ b, w.heap.size = b := ⟨_, rfl⟩
  have gb4 : w.heap.size ≤ b4 := by omega
  have gb5 : w.heap.size ≤ b5 := by omega
  have nb5b4 : ¬ b5 = b4 := by omega
  have nb4b5 : ¬ b4 = b5 := by omega
  have gb6 : w.heap.size ≤ b6 := by omega
  have nb6b4 : ¬ b6 = b4 := by omega
  have nb4b6 : ¬ b4 = b6 := by omega
  have nb6b5 : ¬ b6 = b5 := by omega
  have nb5b6 : ¬ b5 = b6 := by omega
  rw [hqb6] at Kb6 ⊢
  clear hqb6
  rw [hqb5] at Kb5 ⊢
  clear hqb5
  have HN : Hid (w.heap.size = b4) := hqb4
  rw [hqb4] at Kb4 ⊢
  clear hqb4
  have Hb4 := Kb4
  clear Kb4
  have Hb5 := Kb5
  clear Kb5
  have Hb6 := Kb6
  clear Kb6
  have cb40 := kcl0 Hb4
  have cb41 := kcl1 Hb4
  have cb42 := kcl2 Hb4
  have cb43 := kcl3 Hb4
  have cb44 := kcl4 Hb4
  have cb45 := kcl5 Hb4
  have cb46 := kcl6 Hb4
  have cb47 := kcl7 Hb4
  have cb48 := kcl8 Hb4
  have cb49 : Va51.cell? ⟨b4, 9, none⟩ = some (.int .i64 (l2)) := Hb4.out.cell 9
  have cb410 : Va51.cell? ⟨b4, 10, none⟩ = some (.int .i64 (cell)) := Hb4.out.cell 10
  have cb411 : Va51.cell? ⟨b4, 11, none⟩ = some (.int .i64 (dir)) := Hb4.out.cell 11
  go_wp2_with fail
  refine (few_any WW HH SS A ss.length c sa sb d1 d2 l1 l2 cell dir _).mono ?_
  rintro e Va52 ⟨rfl, hb⟩
  have HZ := Lib.hid hb
  clear hb
  rw [HF.out]
  clear cb40 cb41 cb42 cb43 cb44 cb45 cb46 cb47 cb48 cb49 cb410 cb411
  replace Hb4 := kbl Hb4 HZ
  replace Hb5 := kbl Hb5 HZ
  replace Hb6 := kbl Hb6 HZ
  replace HB := ktr' HB HZ
  clear HZ
  have cb40 := kcl0 Hb4
  have cb41 := kcl1 Hb4
  have cb42 := kcl2 Hb4
  have cb43 := kcl3 Hb4
  have cb44 := kcl4 Hb4
  have cb45 := kcl5 Hb4
  have cb46 := kcl6 Hb4
  have cb47 := kcl7 Hb4
  have cb48 := kcl8 Hb4
  have cb49 : Va52.cell? ⟨b4, 9, none⟩ = some (.int .i64 (l2)) := Hb4.out.cell 9
  have cb410 : Va52.cell? ⟨b4, 10, none⟩ = some (.int .i64 (cell)) := Hb4.out.cell 10
  have cb411 : Va52.cell? ⟨b4, 11, none⟩ = some (.int .i64 (dir)) := Hb4.out.cell 11
  have cb50 := kcl0 Hb5
  have cb51 := kcl1 Hb5
  go_wp2_with fail
  refine (Setup_any WW HH SS ss A c sa sb d1 d2 l1 l2 cell dir s1 s2 _ (HDR0.out.later HB.out) (HS0.out.later HB.out (Nat.le_refl _))).mono ?_
  rintro e Va53 ⟨rfl, hb⟩
  have HZ := Lib.hid hb
  clear hb
  rw [HE.out, HA.out]
  simp only [spV]
  clear cb40 cb41 cb42 cb43 cb44 cb45 cb46 cb47 cb48 cb49 cb410 cb411 cb50 cb51
  replace Hb4 := kbl Hb4 HZ
  replace Hb5 := kbl Hb5 HZ
  replace Hb6 := kbl Hb6 HZ
  replace HB := ktr' HB HZ
  clear HZ
  go_upto_region 4 with (fail)
  obtain ⟨Va54, hV⟩ : ∃ X, Va53.alloc (.cells #[.int .i64 (a1), .int .i64 (a2)] 26) = X := ⟨_, rfl⟩
  have hnew : Blk Va54 Va53.heap.size 26 #[.int .i64 (a1), .int .i64 (a2)] := by rw [← hV]; exact (Blk.new' _ _ _ rfl)
  have hz : Below Va53.heap.size Va53 Va54 := by rw [← hV]; exact ((Below.refl _ _).alloc (Nat.le_refl _) _)
  have hgn := HB.out.size
  have lb4 := Hb4.out.lt
  have lb5 := Hb5.out.lt
  have lb6 := Hb6.out.lt
  rw [hV]
  obtain ⟨b9, hbx⟩ : ∃ b, Va53.heap.size = b := ⟨_, rfl⟩
  rw [hbx] at hnew hgn lb4 lb5 lb6 ⊢
  have gb9 : w.heap.size ≤ b9 := hgn
  have HZ := Lib.hid hz
  have nb4b9 : ¬ b4 = b9 := by omega
  have nb9b4 : ¬ b9 = b4 := by omega
  have nb5b9 : ¬ b5 = b9 := by omega
  have nb9b5 : ¬ b9 = b5 := by omega
  have nb6b9 : ¬ b6 = b9 := by omega
  have nb9b6 : ¬ b9 = b6 := by omega
  clear hV hz hgn hbx lb4 lb5 lb6
  replace Hb4 := kbl Hb4 HZ
  replace Hb5 := kbl Hb5 HZ
  replace Hb6 := kbl Hb6 HZ
  replace HB := ktr' HB HZ
  clear HZ
  have Hb9 := Lib.hid hnew
  clear hnew
  go_wp2_with fail
  refine (works_any _ (HDR0.out.later HB.out)).mono ?_
  rintro e Va55 ⟨rfl, hb⟩
  have HBZ := Lib.hid (HB.out.trans (hb.mono HB.out.size))
  clear hb
  go_wp2
  go_ret
  exact ⟨rfl, HBZ.out⟩
  --@)
 ·
  subst h0
  obtain ⟨d, rfl⟩ : ∃ k : Nat, dir = (k : Int) := ⟨dir.toNat, by have := (setupE_zero hE).2.1.1; omega⟩
  obtain ⟨⟨q1, q2⟩, ⟨q3, q4⟩, ⟨q5, q6, q7⟩, ⟨q8, q9, q10⟩, ⟨q11, q12, q13⟩, q14⟩ := points_facts hE ha
  have hd8 : d < 8 := by have := (setupE_zero hE).2.1.2; omega
  have hpl := place_all (setupE_zero hE).1
  have hck := (placeE_zero (setupE_zero hE).1).1.1
  have hpos : 0 < ss.length := cell_any hck
  simp only at q2 q5 q6 q7
  obtain ⟨LS1, hLS1⟩ : ∃ z, fetchVS ⟨WW, HH, SS, ss⟩ (sa, sb) cell (d : Int) = z := ⟨_, rfl⟩
  obtain ⟨LM1, hLM1⟩ : ∃ z, fetchVM ⟨WW, HH, SS, ss⟩ (sa, sb) cell (d : Int) = z := ⟨_, rfl⟩
  obtain ⟨LS2, hLS2⟩ : ∃ z, fetchVS ⟨WW, HH, SS, ss⟩ (sa, sb) cell ((oppZ d : Nat) : Int) = z := ⟨_, rfl⟩
  obtain ⟨LM2, hLM2⟩ : ∃ z, fetchVM ⟨WW, HH, SS, ss⟩ (sa, sb) cell ((oppZ d : Nat) : Int) = z := ⟨_, rfl⟩
  obtain ⟨EF, hEF⟩ : ∃ z, setupE ⟨WW, HH, SS, ss⟩ (sa, sb) ⟨(d1, d2), (l1, l2)⟩ cell (d : Int) (f1, f2) = z := ⟨_, rfl⟩
  obtain ⟨⟨c1, c2⟩, hcv⟩ : ∃ z, setupV ⟨WW, HH, SS, ss⟩ (sa, sb) ⟨(d1, d2), (l1, l2)⟩ cell (d : Int) (f1, f2) = z := ⟨_, rfl⟩
  have HQ14 := Lib.hid (q14 (f1, f2))
  have HPS := Lib.hid (fun p h1 h2 h3 h4 h5 h6 => points_steady (p := p) hE h1 h2 h3 h4 h5 h6)
  rw [hLM1] at q9 q10 HQ14 HPS
  rw [hLS1] at q9
  rw [hLM2] at q12 q13 HPS
  rw [hLS2] at q12
  rw [hEF, hcv] at HQ14
  have HE := Lib.hid hE
  have HA := Lib.hid ha
  have HO1 := Lib.hid q1
  have HO2 := Lib.hid q2
  have HZ1 := Lib.hid q3
  have HZ2 := Lib.hid q4
  have HF1 := Lib.hid q8
  have HF2 := Lib.hid q11
  have HLS1 := Lib.hid hLS1
  have HLM1 := Lib.hid hLM1
  have HLS2 := Lib.hid hLS2
  have HLM2 := Lib.hid hLM2
  have HEF := Lib.hid hEF
  have HCV := Lib.hid hcv
  have u1 : ¬ ((LM1.length : Int) < (LS1.length : Int)) := by omega
  have u2 : ¬ ((LM2.length : Int) < (LS2.length : Int)) := by omega
  have u1' : ¬ (LM1.length < LS1.length) := by omega
  have u2' : ¬ (LM2.length < LS2.length) := by omega
  have u3 : ¬ (a2 < a1) := by omega
  have hneg1 : IntKind.i64.wrap (-a1) = -a1 := IntWalk.i64_in _ (by omega)
  have hneg2 : IntKind.i64.wrap (-a2) = -a2 := IntWalk.i64_in _ (by omega)
  have hopw : IntKind.i64.wrap ((d : Int) + 4) = (d : Int) + 4 := IntWalk.i64_in _ (by omega)
  have hopp : ((d : Int) + 4).tmod 8 = ((oppZ d : Nat) : Int) := by rw [Int.tmod_eq_emod_of_nonneg (by omega)]; unfold oppZ; omega
  have HD8 := Lib.hid hd8
  have HPOS := Lib.hid hpos
  have Q10 := Lib.hid q10
  have Q13 := Lib.hid q13
  clear hE ha q1 q2 q3 q4 q5 q6 q7 q8 q9 q10 q11 q12 q13 q14 hd8 hpos hLS1 hLM1 hLS2 hLM2 hEF hcv hck hpl
  have HDR0 := Lib.hid HD
  have HS0 := Lib.hid hs
  clear HD hs
  obtain ⟨bg, og, hAe, hbg, -, -⟩ := HS0.out.at_ HPOS.out
  subst hAe
  have HBG := Lib.hid hbg
  clear hbg
  go_enter Tryd.func10, Tryd.ntmps10
  go_upto_region 1 with (fail)
  obtain ⟨Va101, hV⟩ : ∃ V, ((w.alloc (.cells #[.int .i64 (WW), .int .i64 (HH), .int .i64 (SS), .slice (some ⟨bg, og, none⟩) ss.length c, .int .i64 (sa), .int .i64 (sb), .int .i64 (d1), .int .i64 (d2), .int .i64 (l1), .int .i64 (l2), .int .i64 (cell), .int .i64 ((d : Int))] 30)).alloc (.cells #[.int .i64 (s1), .int .i64 (s2)] 26)).alloc (.cells #[.int .i64 (f1), .int .i64 (f2)] 26) = V := ⟨_, rfl⟩
  have Kb4 : Hid (Blk Va101 (w.heap.size) 30 #[.int .i64 (WW), .int .i64 (HH), .int .i64 (SS), .slice (some ⟨bg, og, none⟩) ss.length c, .int .i64 (sa), .int .i64 (sb), .int .i64 (d1), .int .i64 (d2), .int .i64 (l1), .int .i64 (l2), .int .i64 (cell), .int .i64 ((d : Int))]) := by rw [← hV]; exact ((Blk.new' _ _ _ (by simp)).alloc _).alloc _
  have Kb5 : Hid (Blk Va101 (w.heap.size + 1) 26 #[.int .i64 (s1), .int .i64 (s2)]) := by rw [← hV]; exact (Blk.new' _ _ _ (by simp)).alloc _
  have Kb6 : Hid (Blk Va101 (w.heap.size + 1 + 1) 26 #[.int .i64 (f1), .int .i64 (f2)]) := by rw [← hV]; exact Blk.new' _ _ _ (by simp)
  have GHB : Hid (Below w.heap.size w Va101) := by rw [← hV]; exact (by repeat (first | exact Below.refl _ _ | assumption | refine Below.drew ?_ | refine Below.drewN' ?_ _ | (refine Below.alloc ?_ (by simp <;> omega) _) | (refine Below.setCell ?_ (by simp <;> omega) _)))
  have HZ : Hid (Below w.heap.size w Va101) := GHB
  rw [hV]
  clear hV HZ
  have HB := GHB
  clear GHB
  obtain ⟨b6, hqb6⟩ : ∃ b, w.heap.size + 1 + 1 = b := ⟨_, rfl⟩
  obtain ⟨b5, hqb5⟩ : ∃ b, w.heap.size + 1 = b := ⟨_, rfl⟩
  obtain ⟨b4, hqb4⟩ : ∃ b, w.heap.size = b := ⟨_, rfl⟩
  have gb4 : w.heap.size ≤ b4 := by omega
  have gb5 : w.heap.size ≤ b5 := by omega
  have nb5b4 : ¬ b5 = b4 := by omega
  have nb4b5 : ¬ b4 = b5 := by omega
  have gb6 : w.heap.size ≤ b6 := by omega
  have nb6b4 : ¬ b6 = b4 := by omega
  have nb4b6 : ¬ b4 = b6 := by omega
  have nb6b5 : ¬ b6 = b5 := by omega
  have nb5b6 : ¬ b5 = b6 := by omega
  rw [hqb6] at Kb6 ⊢
  clear hqb6
  rw [hqb5] at Kb5 ⊢
  clear hqb5
  have HN : Hid (w.heap.size = b4) := hqb4
  rw [hqb4] at Kb4 ⊢
  clear hqb4
  have Hb4 := Kb4
  clear Kb4
  have Hb5 := Kb5
  clear Kb5
  have Hb6 := Kb6
  clear Kb6
  have cb40 := kcl0 Hb4
  have cb41 := kcl1 Hb4
  have cb42 := kcl2 Hb4
  have cb43 := kcl3 Hb4
  have cb44 := kcl4 Hb4
  have cb45 := kcl5 Hb4
  have cb46 := kcl6 Hb4
  have cb47 := kcl7 Hb4
  have cb48 := kcl8 Hb4
  have cb49 : Va101.cell? ⟨b4, 9, none⟩ = some (.int .i64 (l2)) := Hb4.out.cell 9
  have cb410 : Va101.cell? ⟨b4, 10, none⟩ = some (.int .i64 (cell)) := Hb4.out.cell 10
  have cb411 : Va101.cell? ⟨b4, 11, none⟩ = some (.int .i64 ((d : Int))) := Hb4.out.cell 11
  go_wp2_with fail
  refine (few_any WW HH SS (some ⟨bg, og, none⟩) ss.length c sa sb d1 d2 l1 l2 cell (d : Int) _).mono ?_
  rintro e Va102 ⟨rfl, hb⟩
  have HZ := Lib.hid hb
  clear hb
  rw [HF.out]
  clear cb40 cb41 cb42 cb43 cb44 cb45 cb46 cb47 cb48 cb49 cb410 cb411
  replace Hb4 := kbl Hb4 HZ
  replace Hb5 := kbl Hb5 HZ
  replace Hb6 := kbl Hb6 HZ
  replace HB := ktr' HB HZ
  clear HZ
  have cb40 := kcl0 Hb4
  have cb41 := kcl1 Hb4
  have cb42 := kcl2 Hb4
  have cb43 := kcl3 Hb4
  have cb44 := kcl4 Hb4
  have cb45 := kcl5 Hb4
  have cb46 := kcl6 Hb4
  have cb47 := kcl7 Hb4
  have cb48 := kcl8 Hb4
  have cb49 : Va102.cell? ⟨b4, 9, none⟩ = some (.int .i64 (l2)) := Hb4.out.cell 9
  have cb410 : Va102.cell? ⟨b4, 10, none⟩ = some (.int .i64 (cell)) := Hb4.out.cell 10
  have cb411 : Va102.cell? ⟨b4, 11, none⟩ = some (.int .i64 ((d : Int))) := Hb4.out.cell 11
  have cb50 := kcl0 Hb5
  have cb51 := kcl1 Hb5
  go_wp2_with fail
  refine (Setup_any WW HH SS ss (some ⟨bg, og, none⟩) c sa sb d1 d2 l1 l2 cell (d : Int) s1 s2 _ (HDR0.out.later HB.out) (HS0.out.later HB.out (Nat.le_refl _))).mono ?_
  rintro e Va103 ⟨rfl, hb⟩
  have HZ := Lib.hid hb
  clear hb
  rw [HE.out, HA.out]
  simp only [spV]
  clear cb40 cb41 cb42 cb43 cb44 cb45 cb46 cb47 cb48 cb49 cb410 cb411 cb50 cb51
  replace Hb4 := kbl Hb4 HZ
  replace Hb5 := kbl Hb5 HZ
  replace Hb6 := kbl Hb6 HZ
  replace HB := ktr' HB HZ
  clear HZ
  go_upto_region 4 with (fail)
  obtain ⟨Va104, hV⟩ : ∃ X, Va103.alloc (.cells #[.int .i64 (a1), .int .i64 (a2)] 26) = X := ⟨_, rfl⟩
  have hnew : Blk Va104 Va103.heap.size 26 #[.int .i64 (a1), .int .i64 (a2)] := by rw [← hV]; exact (Blk.new' _ _ _ rfl)
  have hz : Below Va103.heap.size Va103 Va104 := by rw [← hV]; exact ((Below.refl _ _).alloc (Nat.le_refl _) _)
  have hgn := HB.out.size
  have lb4 := Hb4.out.lt
  have lb5 := Hb5.out.lt
  have lb6 := Hb6.out.lt
  rw [hV]
  obtain ⟨b9, hbx⟩ : ∃ b, Va103.heap.size = b := ⟨_, rfl⟩
  rw [hbx] at hnew hgn lb4 lb5 lb6 ⊢
  have gb9 : w.heap.size ≤ b9 := hgn
  have HZ := Lib.hid hz
  have nb4b9 : ¬ b4 = b9 := by omega
  have nb9b4 : ¬ b9 = b4 := by omega
  have nb5b9 : ¬ b5 = b9 := by omega
  have nb9b5 : ¬ b9 = b5 := by omega
  have nb6b9 : ¬ b6 = b9 := by omega
  have nb9b6 : ¬ b9 = b6 := by omega
  clear hV hz hgn hbx lb4 lb5 lb6
  replace Hb4 := kbl Hb4 HZ
  replace Hb5 := kbl Hb5 HZ
  replace Hb6 := kbl Hb6 HZ
  replace HB := ktr' HB HZ
  clear HZ
  have Hb9 := Lib.hid hnew
  clear hnew
  have cb40 := kcl0 Hb4
  have cb41 := kcl1 Hb4
  have cb42 := kcl2 Hb4
  have cb43 := kcl3 Hb4
  have cb44 := kcl4 Hb4
  have cb45 := kcl5 Hb4
  have cb46 := kcl6 Hb4
  have cb47 := kcl7 Hb4
  have cb48 := kcl8 Hb4
  have cb49 : Va104.cell? ⟨b4, 9, none⟩ = some (.int .i64 (l2)) := Hb4.out.cell 9
  have cb410 : Va104.cell? ⟨b4, 10, none⟩ = some (.int .i64 (cell)) := Hb4.out.cell 10
  have cb411 : Va104.cell? ⟨b4, 11, none⟩ = some (.int .i64 ((d : Int))) := Hb4.out.cell 11
  go_upto_region 7 with (fail)
  clear cb40 cb41 cb42 cb43 cb44 cb45 cb46 cb47 cb48 cb49 cb410 cb411
  --@A
  have cb40 := kcl0 Hb4
  have cb41 := kcl1 Hb4
  have cb42 := kcl2 Hb4
  have cb43 := kcl3 Hb4
  have cb44 := kcl4 Hb4
  have cb45 := kcl5 Hb4
  have cb46 := kcl6 Hb4
  have cb47 := kcl7 Hb4
  have cb48 := kcl8 Hb4
  have cb49 : Va104.cell? ⟨b4, 9, none⟩ = some (.int .i64 (l2)) := Hb4.out.cell 9
  have cb410 : Va104.cell? ⟨b4, 10, none⟩ = some (.int .i64 (cell)) := Hb4.out.cell 10
  have cb411 : Va104.cell? ⟨b4, 11, none⟩ = some (.int .i64 ((d : Int))) := Hb4.out.cell 11
  have cb50 := kcl0 Hb5
  have cb51 := kcl1 Hb5
  go_wp2_with fail
  refine (Setup_any WW HH SS ss (some ⟨bg, og, none⟩) c sa sb d1 d2 l1 l2 cell ((oppZ d : Nat) : Int) s1 s2 _ (HDR0.out.later HB.out) (HS0.out.later HB.out (Nat.le_refl _))).mono ?_
  rintro e Va105 ⟨rfl, hb⟩
  have HZ := Lib.hid hb
  clear hb
  rw [HO1.out, HO2.out]
  simp only [spV]
  clear cb40 cb41 cb42 cb43 cb44 cb45 cb46 cb47 cb48 cb49 cb410 cb411 cb50 cb51
  replace Hb4 := kbl Hb4 HZ
  replace Hb5 := kbl Hb5 HZ
  replace Hb6 := kbl Hb6 HZ
  replace Hb9 := kbl Hb9 HZ
  replace HB := ktr' HB HZ
  clear HZ
  go_upto_region 8 with (fail)
  obtain ⟨Va106, hV⟩ : ∃ X, Va105.alloc (.cells #[.int .i64 (-a2), .int .i64 (-a1)] 26) = X := ⟨_, rfl⟩
  have hnew : Blk Va106 Va105.heap.size 26 #[.int .i64 (-a2), .int .i64 (-a1)] := by rw [← hV]; exact (Blk.new' _ _ _ rfl)
  have hz : Below Va105.heap.size Va105 Va106 := by rw [← hV]; exact ((Below.refl _ _).alloc (Nat.le_refl _) _)
  have hgn := HB.out.size
  have lb4 := Hb4.out.lt
  have lb5 := Hb5.out.lt
  have lb6 := Hb6.out.lt
  have lb9 := Hb9.out.lt
  rw [hV]
  obtain ⟨b12, hbx⟩ : ∃ b, Va105.heap.size = b := ⟨_, rfl⟩
  rw [hbx] at hnew hgn lb4 lb5 lb6 lb9 ⊢
  have gb12 : w.heap.size ≤ b12 := hgn
  have HZ := Lib.hid hz
  have nb4b12 : ¬ b4 = b12 := by omega
  have nb12b4 : ¬ b12 = b4 := by omega
  have nb5b12 : ¬ b5 = b12 := by omega
  have nb12b5 : ¬ b12 = b5 := by omega
  have nb6b12 : ¬ b6 = b12 := by omega
  have nb12b6 : ¬ b12 = b6 := by omega
  have nb9b12 : ¬ b9 = b12 := by omega
  have nb12b9 : ¬ b12 = b9 := by omega
  clear hV hz hgn hbx lb4 lb5 lb6 lb9
  replace Hb4 := kbl Hb4 HZ
  replace Hb5 := kbl Hb5 HZ
  replace Hb6 := kbl Hb6 HZ
  replace Hb9 := kbl Hb9 HZ
  replace HB := ktr' HB HZ
  clear HZ
  have Hb12 := Lib.hid hnew
  clear hnew
  have cb40 := kcl0 Hb4
  have cb41 := kcl1 Hb4
  have cb42 := kcl2 Hb4
  have cb43 := kcl3 Hb4
  have cb44 := kcl4 Hb4
  have cb45 := kcl5 Hb4
  have cb46 := kcl6 Hb4
  have cb47 := kcl7 Hb4
  have cb48 := kcl8 Hb4
  have cb49 : Va106.cell? ⟨b4, 9, none⟩ = some (.int .i64 (l2)) := Hb4.out.cell 9
  have cb410 : Va106.cell? ⟨b4, 10, none⟩ = some (.int .i64 (cell)) := Hb4.out.cell 10
  have cb411 : Va106.cell? ⟨b4, 11, none⟩ = some (.int .i64 ((d : Int))) := Hb4.out.cell 11
  have cb50 := kcl0 Hb5
  have cb51 := kcl1 Hb5
  go_wp2_with fail
  refine (Setup_any WW HH SS ss (some ⟨bg, og, none⟩) c sa sb d1 d2 l1 l2 cell (d : Int) 0 0 _ (HDR0.out.later HB.out) (HS0.out.later HB.out (Nat.le_refl _))).mono ?_
  rintro e Va107 ⟨rfl, hb⟩
  have HZ := Lib.hid hb
  clear hb
  rw [HZ1.out, HZ2.out]
  simp only [spV]
  clear cb40 cb41 cb42 cb43 cb44 cb45 cb46 cb47 cb48 cb49 cb410 cb411 cb50 cb51
  replace Hb4 := kbl Hb4 HZ
  replace Hb5 := kbl Hb5 HZ
  replace Hb6 := kbl Hb6 HZ
  replace Hb9 := kbl Hb9 HZ
  replace Hb12 := kbl Hb12 HZ
  replace HB := ktr' HB HZ
  clear HZ
  go_upto_region 9 with (fail)
  obtain ⟨Va108, hV⟩ : ∃ X, Va107.alloc (.cells #[.int .i64 (0), .int .i64 (0)] 26) = X := ⟨_, rfl⟩
  have hnew : Blk Va108 Va107.heap.size 26 #[.int .i64 (0), .int .i64 (0)] := by rw [← hV]; exact (Blk.new' _ _ _ rfl)
  have hz : Below Va107.heap.size Va107 Va108 := by rw [← hV]; exact ((Below.refl _ _).alloc (Nat.le_refl _) _)
  have hgn := HB.out.size
  have lb4 := Hb4.out.lt
  have lb5 := Hb5.out.lt
  have lb6 := Hb6.out.lt
  have lb9 := Hb9.out.lt
  have lb12 := Hb12.out.lt
  rw [hV]
  obtain ⟨b14, hbx⟩ : ∃ b, Va107.heap.size = b := ⟨_, rfl⟩
  rw [hbx] at hnew hgn lb4 lb5 lb6 lb9 lb12 ⊢
  have gb14 : w.heap.size ≤ b14 := hgn
  have HZ := Lib.hid hz
  have nb4b14 : ¬ b4 = b14 := by omega
  have nb14b4 : ¬ b14 = b4 := by omega
  have nb5b14 : ¬ b5 = b14 := by omega
  have nb14b5 : ¬ b14 = b5 := by omega
  have nb6b14 : ¬ b6 = b14 := by omega
  have nb14b6 : ¬ b14 = b6 := by omega
  have nb9b14 : ¬ b9 = b14 := by omega
  have nb14b9 : ¬ b14 = b9 := by omega
  have nb12b14 : ¬ b12 = b14 := by omega
  have nb14b12 : ¬ b14 = b12 := by omega
  clear hV hz hgn hbx lb4 lb5 lb6 lb9 lb12
  replace Hb4 := kbl Hb4 HZ
  replace Hb5 := kbl Hb5 HZ
  replace Hb6 := kbl Hb6 HZ
  replace Hb9 := kbl Hb9 HZ
  replace Hb12 := kbl Hb12 HZ
  replace HB := ktr' HB HZ
  clear HZ
  have Hb14 := Lib.hid hnew
  clear hnew
  have cb90 := kcl0 Hb9
  have cb91 := kcl1 Hb9
  have cb120 := kcl0 Hb12
  have cb121 := kcl1 Hb12
  have cb140 := kcl0 Hb14
  have cb141 := kcl1 Hb14
  have hp1 := span_stood
  have hp2 := span_guard
  go_upto_region 11 with (fail)
  clear hp1 hp2
  clear cb90 cb91 cb120 cb121 cb140 cb141
  have cb40 := kcl0 Hb4
  have cb41 := kcl1 Hb4
  have cb42 := kcl2 Hb4
  have cb43 := kcl3 Hb4
  have cb44 := kcl4 Hb4
  have cb45 := kcl5 Hb4
  have cb46 := kcl6 Hb4
  have cb47 := kcl7 Hb4
  have cb48 := kcl8 Hb4
  have cb49 : Va108.cell? ⟨b4, 9, none⟩ = some (.int .i64 (l2)) := Hb4.out.cell 9
  have cb410 : Va108.cell? ⟨b4, 10, none⟩ = some (.int .i64 (cell)) := Hb4.out.cell 10
  have cb411 : Va108.cell? ⟨b4, 11, none⟩ = some (.int .i64 ((d : Int))) := Hb4.out.cell 11
  go_wp2_with fail
  refine (Fetch_any WW HH SS ss (some ⟨bg, og, none⟩) c sa sb cell (d : Int) _ (HDR0.out.later HB.out) (HS0.out.later HB.out (Nat.le_refl _))).mono ?_
  rintro e Va109 hfo
  unfold FetOut at hfo
  rw [HF1.out, HLS1.out, HLM1.out] at hfo
  obtain ⟨u, v, rfl, hu, hv, hb⟩ := hfo
  obtain ⟨ua1, uc1, hue, -, -⟩ := hu.open_
  obtain ⟨va1, vc1, hve, -, -⟩ := hv.open_
  subst hue hve
  clear hu hv
  have HZ := Lib.hid hb
  clear hb
  clear cb40 cb41 cb42 cb43 cb44 cb45 cb46 cb47 cb48 cb49 cb410 cb411
  replace Hb4 := kbl Hb4 HZ
  replace Hb5 := kbl Hb5 HZ
  replace Hb6 := kbl Hb6 HZ
  replace Hb9 := kbl Hb9 HZ
  replace Hb12 := kbl Hb12 HZ
  replace Hb14 := kbl Hb14 HZ
  replace HB := ktr' HB HZ
  clear HZ
  have cb40 := kcl0 Hb4
  have cb41 := kcl1 Hb4
  have cb42 := kcl2 Hb4
  have cb43 := kcl3 Hb4
  have cb44 := kcl4 Hb4
  have cb45 := kcl5 Hb4
  have cb46 := kcl6 Hb4
  have cb47 := kcl7 Hb4
  have cb48 := kcl8 Hb4
  have cb49 : Va109.cell? ⟨b4, 9, none⟩ = some (.int .i64 (l2)) := Hb4.out.cell 9
  have cb410 : Va109.cell? ⟨b4, 10, none⟩ = some (.int .i64 (cell)) := Hb4.out.cell 10
  have cb411 : Va109.cell? ⟨b4, 11, none⟩ = some (.int .i64 ((d : Int))) := Hb4.out.cell 11
  go_wp2_with fail
  refine (Fetch_any WW HH SS ss (some ⟨bg, og, none⟩) c sa sb cell ((oppZ d : Nat) : Int) _ (HDR0.out.later HB.out) (HS0.out.later HB.out (Nat.le_refl _))).mono ?_
  rintro e Va110 hfo
  unfold FetOut at hfo
  rw [HF2.out, HLS2.out, HLM2.out] at hfo
  obtain ⟨u, v, rfl, hu, hv, hb⟩ := hfo
  obtain ⟨ua2, uc2, hue, -, -⟩ := hu.open_
  obtain ⟨va2, vc2, hve, -, -⟩ := hv.open_
  subst hue hve
  clear hu hv
  have HZ := Lib.hid hb
  clear hb
  clear cb40 cb41 cb42 cb43 cb44 cb45 cb46 cb47 cb48 cb49 cb410 cb411
  replace Hb4 := kbl Hb4 HZ
  replace Hb5 := kbl Hb5 HZ
  replace Hb6 := kbl Hb6 HZ
  replace Hb9 := kbl Hb9 HZ
  replace Hb12 := kbl Hb12 HZ
  replace Hb14 := kbl Hb14 HZ
  replace HB := ktr' HB HZ
  clear HZ
  go_upto_region 15 with (fail)
  have cb40 := kcl0 Hb4
  have cb41 := kcl1 Hb4
  have cb42 := kcl2 Hb4
  have cb43 := kcl3 Hb4
  have cb44 := kcl4 Hb4
  have cb45 := kcl5 Hb4
  have cb46 := kcl6 Hb4
  have cb47 := kcl7 Hb4
  have cb48 := kcl8 Hb4
  have cb49 : Va110.cell? ⟨b4, 9, none⟩ = some (.int .i64 (l2)) := Hb4.out.cell 9
  have cb410 : Va110.cell? ⟨b4, 10, none⟩ = some (.int .i64 (cell)) := Hb4.out.cell 10
  have cb411 : Va110.cell? ⟨b4, 11, none⟩ = some (.int .i64 ((d : Int))) := Hb4.out.cell 11
  have cb60 := kcl0 Hb6
  have cb61 := kcl1 Hb6
  go_wp2_with fail
  refine (Setup_any WW HH SS ss (some ⟨bg, og, none⟩) c sa sb d1 d2 l1 l2 cell (d : Int) f1 f2 _ (HDR0.out.later HB.out) (HS0.out.later HB.out (Nat.le_refl _))).mono ?_
  rintro e Va111 ⟨rfl, hb⟩
  have HZ := Lib.hid hb
  clear hb
  rw [HEF.out, HCV.out]
  simp only [spV]
  clear cb40 cb41 cb42 cb43 cb44 cb45 cb46 cb47 cb48 cb49 cb410 cb411 cb60 cb61
  replace Hb4 := kbl Hb4 HZ
  replace Hb5 := kbl Hb5 HZ
  replace Hb6 := kbl Hb6 HZ
  replace Hb9 := kbl Hb9 HZ
  replace Hb12 := kbl Hb12 HZ
  replace Hb14 := kbl Hb14 HZ
  replace HB := ktr' HB HZ
  clear HZ
  go_upto_region 16 with (fail)
  obtain ⟨Va112, hV⟩ : ∃ X, Va111.alloc (.cells #[.int .i64 (c1), .int .i64 (c2)] 26) = X := ⟨_, rfl⟩
  have hnew : Blk Va112 Va111.heap.size 26 #[.int .i64 (c1), .int .i64 (c2)] := by rw [← hV]; exact (Blk.new' _ _ _ rfl)
  have hz : Below Va111.heap.size Va111 Va112 := by rw [← hV]; exact ((Below.refl _ _).alloc (Nat.le_refl _) _)
  have hgn := HB.out.size
  have lb4 := Hb4.out.lt
  have lb5 := Hb5.out.lt
  have lb6 := Hb6.out.lt
  have lb9 := Hb9.out.lt
  have lb12 := Hb12.out.lt
  have lb14 := Hb14.out.lt
  rw [hV]
  obtain ⟨b20, hbx⟩ : ∃ b, Va111.heap.size = b := ⟨_, rfl⟩
  rw [hbx] at hnew hgn lb4 lb5 lb6 lb9 lb12 lb14 ⊢
  have gb20 : w.heap.size ≤ b20 := hgn
  have HZ := Lib.hid hz
  have nb4b20 : ¬ b4 = b20 := by omega
  have nb20b4 : ¬ b20 = b4 := by omega
  have nb5b20 : ¬ b5 = b20 := by omega
  have nb20b5 : ¬ b20 = b5 := by omega
  have nb6b20 : ¬ b6 = b20 := by omega
  have nb20b6 : ¬ b20 = b6 := by omega
  have nb9b20 : ¬ b9 = b20 := by omega
  have nb20b9 : ¬ b20 = b9 := by omega
  have nb12b20 : ¬ b12 = b20 := by omega
  have nb20b12 : ¬ b20 = b12 := by omega
  have nb14b20 : ¬ b14 = b20 := by omega
  have nb20b14 : ¬ b20 = b14 := by omega
  clear hV hz hgn hbx lb4 lb5 lb6 lb9 lb12 lb14
  replace Hb4 := kbl Hb4 HZ
  replace Hb5 := kbl Hb5 HZ
  replace Hb6 := kbl Hb6 HZ
  replace Hb9 := kbl Hb9 HZ
  replace Hb12 := kbl Hb12 HZ
  replace Hb14 := kbl Hb14 HZ
  replace HB := ktr' HB HZ
  clear HZ
  have Hb20 := Lib.hid hnew
  clear hnew
  go_cut [206] from 172 to 206 (fun p wx => p = .bool false ∧ wx = Va112)
  case first =>
   --@(
   have cb50 := kcl0 Hb5
   have cb51 := kcl1 Hb5
   have cb60 := kcl0 Hb6
   have cb61 := kcl1 Hb6
   have cb90 := kcl0 Hb9
   have cb91 := kcl1 Hb9
   have cb200 := kcl0 Hb20
   have cb201 := kcl1 Hb20
   by_cases k1 : EF = 0
   rotate_left
   ·
    have kb : (EF == 0) = false := beq_eq_false_iff_ne.2 k1
    go_wp2_with fail
    go_meet
    exact ⟨rfl, rfl⟩
   subst k1
   by_cases k2 : LM1.length = 0
   rotate_left
   ·
    have kb : ((LM1.length : Int) == 0) = false := beq_eq_false_iff_ne.2 (by omega)
    clear k2
    go_wp2_with fail
    go_meet
    exact ⟨rfl, rfl⟩
   have kb : ((LM1.length : Int) == 0) = true := beq_iff_eq.2 (by omega)
   have K2 := Lib.hid k2
   clear k2
   by_cases k3 : s1 ≤ f1
   rotate_left
   ·
    go_wp2_with fail
    go_meet
    exact ⟨rfl, rfl⟩
   by_cases k4 : s2 ≤ f2
   rotate_left
   ·
    go_wp2_with fail
    go_meet
    exact ⟨rfl, rfl⟩
   have k5 := HQ14.out rfl K2.out k3 k4
   have k6 : ¬ c1 < a1 := by have := k5.1; (try simp only at this); omega
   have k7 : ¬ c2 < a2 := by have := k5.2; (try simp only at this); omega
   clear k5
   go_wp2_with fail
   go_meet
   exact ⟨rfl, rfl⟩
   --@)
  case rest =>
   obtain ⟨rfl, rfl⟩ := hcut
   have MB4 := Hb4
   have MB5 := Hb5
   clear Hb4 Hb5 Hb6 Hb9 Hb12 Hb14 Hb20 nb4b5 nb4b6 nb4b9 nb4b12 nb4b14 nb4b20 nb5b4 nb5b6 nb5b9 nb5b12 nb5b14 nb5b20 nb6b4 nb6b5 nb6b9 nb6b12 nb6b14 nb6b20 nb9b4 nb9b5 nb9b6 nb9b12 nb9b14 nb9b20 nb12b4 nb12b5 nb12b6 nb12b9 nb12b14 nb12b20 nb14b4 nb14b5 nb14b6 nb14b9 nb14b12 nb14b20 nb20b4 nb20b5 nb20b6 nb20b9 nb20b12 nb20b14 gb6 gb9 gb12 gb14 gb20 HQ14 HA HO1 HO2 HZ1 HZ2 HF1 HF2 HLS1 HLS2 HEF HCV hneg1 hneg2 hopw hopp u1 u2 u3 u1' u2'
   have Hb4 := MB4
   have Hb5 := MB5
   clear MB4 MB5
   go_upto_region 19 with (fail)
   go_loopw [21] (fun i wr => ∃ k : Nat, k ≤ ss.length ∧ i = .int .i64 (k : Int) ∧ Hid (∀ j (h : j < ss.length), j < k → ss[j].1 = ss[j].2) ∧ Hid (Blk wr b4 30 #[.int .i64 (WW), .int .i64 (HH), .int .i64 (SS), .slice (some ⟨bg, og, none⟩) ss.length c, .int .i64 (sa), .int .i64 (sb), .int .i64 (d1), .int .i64 (d2), .int .i64 (l1), .int .i64 (l2), .int .i64 (cell), .int .i64 ((d : Int))]) ∧ Hid (Blk wr b5 26 #[.int .i64 (s1), .int .i64 (s2)]) ∧ Hid (Below w.heap.size w wr)) (fun i _ => ss.length - (intOf i).toNat)
   case atStart => exact ⟨0, Nat.zero_le _, rfl, (fun j _ h => by omega), Hb4, Hb5, HB⟩
   case round =>
    clear Hb4 Hb5 HB
    obtain ⟨k, hk, rfl, HPT, Hb4, Hb5, HB⟩ := hrel
    by_cases hkn : k < ss.length
    ·
     have hkl : (k : Int) < (ss.length : Int) := by omega
     obtain ⟨b0, o0, he, -, cg0, cg1⟩ := HS0.out.at_ hkn
     injection he with he
     injection he with he1 he2
     subst he1 he2
     obtain ⟨⟨x, y⟩, hxy⟩ : ∃ q, ss[k] = q := ⟨_, rfl⟩
     rw [hxy] at cg0 cg1
     simp only at cg0 cg1
     have hg0 : wr.cell? ⟨bg, og + k * 2, none⟩ = some (.int .i64 x) := (HB.out.cell (p := ⟨bg, og + k * 2, none⟩) HBG.out).trans cg0
     have hg1 : wr.cell? ⟨bg, og + k * 2 + 1, none⟩ = some (.int .i64 y) := (HB.out.cell (p := ⟨bg, og + k * 2 + 1, none⟩) HBG.out).trans cg1
     have HXY := Lib.hid hxy
     clear cg0 cg1 hxy
     have hwk : IntKind.i64.wrap ((k : Int) + 1) = (k : Int) + 1 := IntWalk.i64_in _ (by have := HS0.out.2.1; omega)
     by_cases hq : x = y
     rotate_left
     ·
      have hqb : (x == y) = false := beq_eq_false_iff_ne.2 hq
      have hqn : (x != y) = true := by simp [bne, hqb]
      have hbl : bg < wr.heap.size := Nat.lt_of_lt_of_le HBG.out HB.out.size
      have cb40 := kcl0 Hb4
      have cb41 := kcl1 Hb4
      have cb42 := kcl2 Hb4
      have cb43 := kcl3 Hb4
      have cb44 := kcl4 Hb4
      have cb45 := kcl5 Hb4
      have cb46 := kcl6 Hb4
      have cb47 := kcl7 Hb4
      have cb48 := kcl8 Hb4
      have cb49 : wr.cell? ⟨b4, 9, none⟩ = some (.int .i64 (l2)) := Hb4.out.cell 9
      have cb410 : wr.cell? ⟨b4, 10, none⟩ = some (.int .i64 (cell)) := Hb4.out.cell 10
      have cb411 : wr.cell? ⟨b4, 11, none⟩ = some (.int .i64 ((d : Int))) := Hb4.out.cell 11
      go_upto_region 21 with (fail)
      clear cb40 cb41 cb42 cb43 cb44 cb45 cb46 cb47 cb48 cb49 cb410 cb411
      have HSV : Hid (∀ U, Below wr.heap.size wr U → U.cell? ⟨b4, 0, none⟩ = some (.int .i64 (WW)) ∧ U.cell? ⟨b4, 1, none⟩ = some (.int .i64 (HH)) ∧ U.cell? ⟨b4, 2, none⟩ = some (.int .i64 (SS)) ∧ U.cell? ⟨b4, 3, none⟩ = some (.slice (some ⟨bg, og, none⟩) ss.length c) ∧ U.cell? ⟨b4, 4, none⟩ = some (.int .i64 (sa)) ∧ U.cell? ⟨b4, 5, none⟩ = some (.int .i64 (sb)) ∧ U.cell? ⟨b4, 6, none⟩ = some (.int .i64 (d1)) ∧ U.cell? ⟨b4, 7, none⟩ = some (.int .i64 (d2)) ∧ U.cell? ⟨b4, 8, none⟩ = some (.int .i64 (l1)) ∧ U.cell? ⟨b4, 9, none⟩ = some (.int .i64 (l2)) ∧ U.cell? ⟨b4, 10, none⟩ = some (.int .i64 (cell)) ∧ U.cell? ⟨b4, 11, none⟩ = some (.int .i64 ((d : Int))) ∧ U.cell? ⟨bg, og + k * 2, none⟩ = some (.int .i64 (x)) ∧ U.cell? ⟨bg, og + k * 2 + 1, none⟩ = some (.int .i64 (y))) := fun U hU => by
       have kb4 := Hb4.out.below hU Hb4.out.lt
       exact ⟨kb4.cell 0, kb4.cell 1, kb4.cell 2, kb4.cell 3, kb4.cell 4, kb4.cell 5, kb4.cell 6, kb4.cell 7, kb4.cell 8, kb4.cell 9, kb4.cell 10, kb4.cell 11, (hU.cell (p := ⟨bg, og + k * 2, none⟩) hbl).trans hg0, (hU.cell (p := ⟨bg, og + k * 2 + 1, none⟩) hbl).trans hg1⟩
      have k0 := HSV.out _ (Below.drew (Below.refl wr.heap.size wr))
      refine wp_region_noPanic ?_
      refine wp_region_held_drew (S := (fun w' => w'.cell? ⟨b4, 0, none⟩ = some (.int .i64 (WW)) ∧ w'.cell? ⟨b4, 1, none⟩ = some (.int .i64 (HH)) ∧ w'.cell? ⟨b4, 2, none⟩ = some (.int .i64 (SS)) ∧ w'.cell? ⟨b4, 3, none⟩ = some (.slice (some ⟨bg, og, none⟩) ss.length c) ∧ w'.cell? ⟨b4, 4, none⟩ = some (.int .i64 (sa)) ∧ w'.cell? ⟨b4, 5, none⟩ = some (.int .i64 (sb)) ∧ w'.cell? ⟨b4, 6, none⟩ = some (.int .i64 (d1)) ∧ w'.cell? ⟨b4, 7, none⟩ = some (.int .i64 (d2)) ∧ w'.cell? ⟨b4, 8, none⟩ = some (.int .i64 (l1)) ∧ w'.cell? ⟨b4, 9, none⟩ = some (.int .i64 (l2)) ∧ w'.cell? ⟨b4, 10, none⟩ = some (.int .i64 (cell)) ∧ w'.cell? ⟨b4, 11, none⟩ = some (.int .i64 ((d : Int))) ∧ w'.cell? ⟨bg, og + k * 2, none⟩ = some (.int .i64 (x)) ∧ w'.cell? ⟨bg, og + k * 2 + 1, none⟩ = some (.int .i64 (y)))) (by kernel_rfl) ?_ (fun hHeld => ?_)
      · (try dsimp only); (exact k0)
      refine wpAnyH_take (i := 0) (oi := op10_21_0) (v := ?_) rfl (by kernel_rfl) (by kernel_rfl) (by kernel_rfl) (fun _ _ _ h => h) (Or.inl ⟨by rfl, ?_⟩) (by assumption) ?_
      rotate_left
      · ((intro w hSw; delta op10_21_0; (try dsimp only at hSw); go_simp) <;> with_reducible rfl)
      try simp only [op10_21_0, ksz]
      refine wpAnyH_take (i := 3) (oi := op10_21_3) (v := ?_) rfl (by kernel_rfl) (by kernel_rfl) (by kernel_rfl) (fun _ _ _ h => h) (Or.inl ⟨by rfl, ?_⟩) (by assumption) ?_
      rotate_left
      · ((intro w hSw; delta op10_21_3; (try dsimp only at hSw); go_simp) <;> with_reducible rfl)
      try simp only [op10_21_3, ksz]
      refine wpAnyH_take (i := 7) (oi := op10_21_7) (v := ?_) rfl (by kernel_rfl) (by kernel_rfl) (by kernel_rfl) (fun _ _ _ h => h) (Or.inl ⟨by rfl, ?_⟩) (by assumption) ?_
      rotate_left
      · ((intro w hSw; delta op10_21_7; (try dsimp only at hSw); go_simp) <;> with_reducible rfl)
      try simp only [op10_21_7, ksz]
      refine wpAnyH_take (i := 10) (oi := op10_21_10) (v := ?_) rfl (by kernel_rfl) (by kernel_rfl) (by kernel_rfl) (fun _ _ _ h => h) (Or.inl ⟨by rfl, ?_⟩) (by assumption) ?_
      rotate_left
      · ((intro w hSw; delta op10_21_10; (try dsimp only at hSw); go_simp) <;> with_reducible rfl)
      try simp only [op10_21_10, ksz]
      refine wpAnyH_take (i := 1) (oi := op10_21_1) (v := ?_) rfl (by kernel_rfl) (by kernel_rfl) (by kernel_rfl) (fun _ _ _ h => h) (Or.inl ⟨by rfl, ?_⟩) (by assumption) ?_
      rotate_left
      · ((intro w hSw; delta op10_21_1; (try dsimp only at hSw); go_simp) <;> with_reducible rfl)
      try simp only [op10_21_1, ksz]
      refine wpAnyH_take (i := 8) (oi := op10_21_8) (v := ?_) rfl (by kernel_rfl) (by kernel_rfl) (by kernel_rfl) (fun _ _ _ h => h) (Or.inl ⟨by rfl, ?_⟩) (by assumption) ?_
      rotate_left
      · ((intro w hSw; delta op10_21_8; (try dsimp only at hSw); go_simp) <;> with_reducible rfl)
      try simp only [op10_21_8, ksz]
      refine wpAnyH_take (i := 2) (oi := op10_21_2) (v := ?_) rfl (by kernel_rfl) (by kernel_rfl) (by kernel_rfl) (fun _ _ _ h => h) (Or.inl ⟨by rfl, ?_⟩) (by assumption) ?_
      rotate_left
      · ((intro w hSw; delta op10_21_2; (try dsimp only at hSw); go_simp) <;> with_reducible rfl)
      try simp only [op10_21_2, ksz]
      refine wpAnyH_take (i := 9) (oi := op10_21_9) (v := ?_) rfl (by kernel_rfl) (by kernel_rfl) (by kernel_rfl) (fun _ _ _ h => h) (Or.inl ⟨by rfl, ?_⟩) (by assumption) ?_
      rotate_left
      · ((intro w hSw; delta op10_21_9; (try dsimp only at hSw); go_simp) <;> with_reducible rfl)
      try simp only [op10_21_9, ksz]
      refine wpAnyH_take (i := 4) (oi := op10_21_4) (v := ?_) rfl (by kernel_rfl) (by kernel_rfl) (by kernel_rfl) (fun _ _ _ h => h) (Or.inl ⟨by rfl, ?_⟩) (by assumption) ?_
      rotate_left
      · ((intro w hSw; delta op10_21_4; (try dsimp only at hSw); go_simp) <;> with_reducible rfl)
      try simp only [op10_21_4, ksz]
      refine wpAnyH_take (i := 11) (oi := op10_21_11) (v := ?_) rfl (by kernel_rfl) (by kernel_rfl) (by kernel_rfl) (fun _ _ _ h => h) (Or.inl ⟨by rfl, ?_⟩) (by assumption) ?_
      rotate_left
      · ((intro w hSw; delta op10_21_11; (try dsimp only at hSw); go_simp) <;> with_reducible rfl)
      try simp only [op10_21_11, ksz]
      refine wpAnyH_take (i := 5) (oi := op10_21_5) (v := ?_) rfl (by kernel_rfl) (by kernel_rfl) (by kernel_rfl) (fun _ _ _ h => h) (Or.inl ⟨by rfl, ?_⟩) (by assumption) ?_
      rotate_left
      · ((intro w hSw; delta op10_21_5; (try dsimp only at hSw); go_simp) <;> with_reducible rfl)
      try simp only [op10_21_5, ksz]
      refine wpAnyH_take (i := 12) (oi := op10_21_12) (v := ?_) rfl (by kernel_rfl) (by kernel_rfl) (by kernel_rfl) (fun _ _ _ h => h) (Or.inl ⟨by rfl, ?_⟩) (by assumption) ?_
      rotate_left
      · ((intro w hSw; delta op10_21_12; (try dsimp only at hSw); go_simp) <;> with_reducible rfl)
      try simp only [op10_21_12, ksz]
      refine wpAnyH_take (i := 6) (oi := op10_21_6) (v := ?_) rfl (by kernel_rfl) (by kernel_rfl) (by kernel_rfl) (fun _ _ _ h => h) (Or.inl ⟨by rfl, ?_⟩) (by assumption) ?_
      rotate_left
      · ((intro w hSw; delta op10_21_6; (try dsimp only at hSw); go_simp) <;> with_reducible rfl)
      try simp only [op10_21_6, ksz]
      refine wpAnyH_take (i := 13) (oi := op10_21_13) (v := ?_) rfl (by kernel_rfl) (by kernel_rfl) (by kernel_rfl) (fun _ _ _ h => h) (Or.inl ⟨by rfl, ?_⟩) (by assumption) ?_
      rotate_left
      · ((intro w hSw; delta op10_21_13; (try dsimp only at hSw); go_simp) <;> with_reducible rfl)
      try simp only [op10_21_13, ksz]
      refine wpAnyH_take (i := 14) (oi := op10_21_14) (v := ?_) rfl (by kernel_rfl) (by kernel_rfl) (by kernel_rfl) (fun _ _ _ h => h) (Or.inl ⟨by rfl, ?_⟩) (by assumption) ?_
      rotate_left
      · ((intro w hSw; delta op10_21_14; (try dsimp only at hSw); go_simp) <;> with_reducible rfl)
      try simp only [op10_21_14, ksz]
      obtain ⟨W0, hW0⟩ : ∃ V, wr.drew = V := ⟨_, rfl⟩; rw [hW0] at hHeld ⊢; have HB0 : Hid (Below wr.heap.size wr W0) := (by rw [← hW0]; exact Below.drew (Below.refl _ _)); clear hW0
      refine wpAnyH_done (by kernel_rfl) ?_ _
      refine NoPanic.normal ?_
      clear HSV k0
      clear hHeld
      obtain ⟨Va114, hVU⟩ : ∃ V, W0 = V := ⟨_, rfl⟩
      rw [hVU] at HB0 ⊢
      have HZ := HB0
      clear HB0 hVU
      replace Hb4 := kbl Hb4 HZ
      replace Hb5 := kbl Hb5 HZ
      replace HB := ktr' HB HZ
      clear HZ
      --@M0
      go_wp2_with fail
      refine (works_any _ (HDR0.out.later HB.out)).mono ?_
      rintro e Va115 ⟨rfl, hb⟩
      have HBZ := Lib.hid (HB.out.trans (hb.mono HB.out.size))
      clear hb
      go_wp2
      go_ret
      exact ⟨rfl, HBZ.out⟩
     subst hq
     have hbl : bg < wr.heap.size := Nat.lt_of_lt_of_le HBG.out HB.out.size
     have cb40 := kcl0 Hb4
     have cb41 := kcl1 Hb4
     have cb42 := kcl2 Hb4
     have cb43 := kcl3 Hb4
     have cb44 := kcl4 Hb4
     have cb45 := kcl5 Hb4
     have cb46 := kcl6 Hb4
     have cb47 := kcl7 Hb4
     have cb48 := kcl8 Hb4
     have cb49 : wr.cell? ⟨b4, 9, none⟩ = some (.int .i64 (l2)) := Hb4.out.cell 9
     have cb410 : wr.cell? ⟨b4, 10, none⟩ = some (.int .i64 (cell)) := Hb4.out.cell 10
     have cb411 : wr.cell? ⟨b4, 11, none⟩ = some (.int .i64 ((d : Int))) := Hb4.out.cell 11
     go_upto_region 21 with (fail)
     clear cb40 cb41 cb42 cb43 cb44 cb45 cb46 cb47 cb48 cb49 cb410 cb411
     have HSV : Hid (∀ U, Below wr.heap.size wr U → U.cell? ⟨b4, 0, none⟩ = some (.int .i64 (WW)) ∧ U.cell? ⟨b4, 1, none⟩ = some (.int .i64 (HH)) ∧ U.cell? ⟨b4, 2, none⟩ = some (.int .i64 (SS)) ∧ U.cell? ⟨b4, 3, none⟩ = some (.slice (some ⟨bg, og, none⟩) ss.length c) ∧ U.cell? ⟨b4, 4, none⟩ = some (.int .i64 (sa)) ∧ U.cell? ⟨b4, 5, none⟩ = some (.int .i64 (sb)) ∧ U.cell? ⟨b4, 6, none⟩ = some (.int .i64 (d1)) ∧ U.cell? ⟨b4, 7, none⟩ = some (.int .i64 (d2)) ∧ U.cell? ⟨b4, 8, none⟩ = some (.int .i64 (l1)) ∧ U.cell? ⟨b4, 9, none⟩ = some (.int .i64 (l2)) ∧ U.cell? ⟨b4, 10, none⟩ = some (.int .i64 (cell)) ∧ U.cell? ⟨b4, 11, none⟩ = some (.int .i64 ((d : Int))) ∧ U.cell? ⟨bg, og + k * 2, none⟩ = some (.int .i64 (x)) ∧ U.cell? ⟨bg, og + k * 2 + 1, none⟩ = some (.int .i64 (x))) := fun U hU => by
      have kb4 := Hb4.out.below hU Hb4.out.lt
      exact ⟨kb4.cell 0, kb4.cell 1, kb4.cell 2, kb4.cell 3, kb4.cell 4, kb4.cell 5, kb4.cell 6, kb4.cell 7, kb4.cell 8, kb4.cell 9, kb4.cell 10, kb4.cell 11, (hU.cell (p := ⟨bg, og + k * 2, none⟩) hbl).trans hg0, (hU.cell (p := ⟨bg, og + k * 2 + 1, none⟩) hbl).trans hg1⟩
     have k0 := HSV.out _ (Below.drew (Below.refl wr.heap.size wr))
     refine wp_region_noPanic ?_
     refine wp_region_held_drew (S := (fun w' => w'.cell? ⟨b4, 0, none⟩ = some (.int .i64 (WW)) ∧ w'.cell? ⟨b4, 1, none⟩ = some (.int .i64 (HH)) ∧ w'.cell? ⟨b4, 2, none⟩ = some (.int .i64 (SS)) ∧ w'.cell? ⟨b4, 3, none⟩ = some (.slice (some ⟨bg, og, none⟩) ss.length c) ∧ w'.cell? ⟨b4, 4, none⟩ = some (.int .i64 (sa)) ∧ w'.cell? ⟨b4, 5, none⟩ = some (.int .i64 (sb)) ∧ w'.cell? ⟨b4, 6, none⟩ = some (.int .i64 (d1)) ∧ w'.cell? ⟨b4, 7, none⟩ = some (.int .i64 (d2)) ∧ w'.cell? ⟨b4, 8, none⟩ = some (.int .i64 (l1)) ∧ w'.cell? ⟨b4, 9, none⟩ = some (.int .i64 (l2)) ∧ w'.cell? ⟨b4, 10, none⟩ = some (.int .i64 (cell)) ∧ w'.cell? ⟨b4, 11, none⟩ = some (.int .i64 ((d : Int))) ∧ w'.cell? ⟨bg, og + k * 2, none⟩ = some (.int .i64 (x)) ∧ w'.cell? ⟨bg, og + k * 2 + 1, none⟩ = some (.int .i64 (x)))) (by kernel_rfl) ?_ (fun hHeld => ?_)
     · (try dsimp only); (exact k0)
     refine wpAnyH_take (i := 0) (oi := op10_21_0) (v := ?_) rfl (by kernel_rfl) (by kernel_rfl) (by kernel_rfl) (fun _ _ _ h => h) (Or.inl ⟨by rfl, ?_⟩) (by assumption) ?_
     rotate_left
     · ((intro w hSw; delta op10_21_0; (try dsimp only at hSw); go_simp) <;> with_reducible rfl)
     try simp only [op10_21_0, ksz]
     refine wpAnyH_take (i := 3) (oi := op10_21_3) (v := ?_) rfl (by kernel_rfl) (by kernel_rfl) (by kernel_rfl) (fun _ _ _ h => h) (Or.inl ⟨by rfl, ?_⟩) (by assumption) ?_
     rotate_left
     · ((intro w hSw; delta op10_21_3; (try dsimp only at hSw); go_simp) <;> with_reducible rfl)
     try simp only [op10_21_3, ksz]
     refine wpAnyH_take (i := 7) (oi := op10_21_7) (v := ?_) rfl (by kernel_rfl) (by kernel_rfl) (by kernel_rfl) (fun _ _ _ h => h) (Or.inl ⟨by rfl, ?_⟩) (by assumption) ?_
     rotate_left
     · ((intro w hSw; delta op10_21_7; (try dsimp only at hSw); go_simp) <;> with_reducible rfl)
     try simp only [op10_21_7, ksz]
     refine wpAnyH_take (i := 10) (oi := op10_21_10) (v := ?_) rfl (by kernel_rfl) (by kernel_rfl) (by kernel_rfl) (fun _ _ _ h => h) (Or.inl ⟨by rfl, ?_⟩) (by assumption) ?_
     rotate_left
     · ((intro w hSw; delta op10_21_10; (try dsimp only at hSw); go_simp) <;> with_reducible rfl)
     try simp only [op10_21_10, ksz]
     refine wpAnyH_take (i := 1) (oi := op10_21_1) (v := ?_) rfl (by kernel_rfl) (by kernel_rfl) (by kernel_rfl) (fun _ _ _ h => h) (Or.inl ⟨by rfl, ?_⟩) (by assumption) ?_
     rotate_left
     · ((intro w hSw; delta op10_21_1; (try dsimp only at hSw); go_simp) <;> with_reducible rfl)
     try simp only [op10_21_1, ksz]
     refine wpAnyH_take (i := 8) (oi := op10_21_8) (v := ?_) rfl (by kernel_rfl) (by kernel_rfl) (by kernel_rfl) (fun _ _ _ h => h) (Or.inl ⟨by rfl, ?_⟩) (by assumption) ?_
     rotate_left
     · ((intro w hSw; delta op10_21_8; (try dsimp only at hSw); go_simp) <;> with_reducible rfl)
     try simp only [op10_21_8, ksz]
     refine wpAnyH_take (i := 2) (oi := op10_21_2) (v := ?_) rfl (by kernel_rfl) (by kernel_rfl) (by kernel_rfl) (fun _ _ _ h => h) (Or.inl ⟨by rfl, ?_⟩) (by assumption) ?_
     rotate_left
     · ((intro w hSw; delta op10_21_2; (try dsimp only at hSw); go_simp) <;> with_reducible rfl)
     try simp only [op10_21_2, ksz]
     refine wpAnyH_take (i := 9) (oi := op10_21_9) (v := ?_) rfl (by kernel_rfl) (by kernel_rfl) (by kernel_rfl) (fun _ _ _ h => h) (Or.inl ⟨by rfl, ?_⟩) (by assumption) ?_
     rotate_left
     · ((intro w hSw; delta op10_21_9; (try dsimp only at hSw); go_simp) <;> with_reducible rfl)
     try simp only [op10_21_9, ksz]
     refine wpAnyH_take (i := 4) (oi := op10_21_4) (v := ?_) rfl (by kernel_rfl) (by kernel_rfl) (by kernel_rfl) (fun _ _ _ h => h) (Or.inl ⟨by rfl, ?_⟩) (by assumption) ?_
     rotate_left
     · ((intro w hSw; delta op10_21_4; (try dsimp only at hSw); go_simp) <;> with_reducible rfl)
     try simp only [op10_21_4, ksz]
     refine wpAnyH_take (i := 11) (oi := op10_21_11) (v := ?_) rfl (by kernel_rfl) (by kernel_rfl) (by kernel_rfl) (fun _ _ _ h => h) (Or.inl ⟨by rfl, ?_⟩) (by assumption) ?_
     rotate_left
     · ((intro w hSw; delta op10_21_11; (try dsimp only at hSw); go_simp) <;> with_reducible rfl)
     try simp only [op10_21_11, ksz]
     refine wpAnyH_take (i := 5) (oi := op10_21_5) (v := ?_) rfl (by kernel_rfl) (by kernel_rfl) (by kernel_rfl) (fun _ _ _ h => h) (Or.inl ⟨by rfl, ?_⟩) (by assumption) ?_
     rotate_left
     · ((intro w hSw; delta op10_21_5; (try dsimp only at hSw); go_simp) <;> with_reducible rfl)
     try simp only [op10_21_5, ksz]
     refine wpAnyH_take (i := 12) (oi := op10_21_12) (v := ?_) rfl (by kernel_rfl) (by kernel_rfl) (by kernel_rfl) (fun _ _ _ h => h) (Or.inl ⟨by rfl, ?_⟩) (by assumption) ?_
     rotate_left
     · ((intro w hSw; delta op10_21_12; (try dsimp only at hSw); go_simp) <;> with_reducible rfl)
     try simp only [op10_21_12, ksz]
     refine wpAnyH_take (i := 6) (oi := op10_21_6) (v := ?_) rfl (by kernel_rfl) (by kernel_rfl) (by kernel_rfl) (fun _ _ _ h => h) (Or.inl ⟨by rfl, ?_⟩) (by assumption) ?_
     rotate_left
     · ((intro w hSw; delta op10_21_6; (try dsimp only at hSw); go_simp) <;> with_reducible rfl)
     try simp only [op10_21_6, ksz]
     refine wpAnyH_take (i := 13) (oi := op10_21_13) (v := ?_) rfl (by kernel_rfl) (by kernel_rfl) (by kernel_rfl) (fun _ _ _ h => h) (Or.inl ⟨by rfl, ?_⟩) (by assumption) ?_
     rotate_left
     · ((intro w hSw; delta op10_21_13; (try dsimp only at hSw); go_simp) <;> with_reducible rfl)
     try simp only [op10_21_13, ksz]
     refine wpAnyH_take (i := 14) (oi := op10_21_14) (v := ?_) rfl (by kernel_rfl) (by kernel_rfl) (by kernel_rfl) (fun _ _ _ h => h) (Or.inl ⟨by rfl, ?_⟩) (by assumption) ?_
     rotate_left
     · ((intro w hSw; delta op10_21_14; (try dsimp only at hSw); go_simp) <;> with_reducible rfl)
     try simp only [op10_21_14, ksz]
     obtain ⟨W0, hW0⟩ : ∃ V, wr.drew = V := ⟨_, rfl⟩; rw [hW0] at hHeld ⊢; have HB0 : Hid (Below wr.heap.size wr W0) := (by rw [← hW0]; exact Below.drew (Below.refl _ _)); clear hW0
     refine wpAnyH_done (by kernel_rfl) ?_ _
     refine NoPanic.normal ?_
     clear HSV k0
     clear hHeld
     obtain ⟨Va116, hVU⟩ : ∃ V, W0 = V := ⟨_, rfl⟩
     rw [hVU] at HB0 ⊢
     have HZ := HB0
     clear HB0 hVU
     replace Hb4 := kbl Hb4 HZ
     replace Hb5 := kbl Hb5 HZ
     replace HB := ktr' HB HZ
     clear HZ
     --@M2
     go_wp2
     --@M3
     go_roundw
     case rel => exact ⟨k + 1, by omega, by go_num, (fun j h hj => by
      rcases Nat.lt_succ_iff_lt_or_eq.1 hj with h1 | h1
      · exact HPT.out j h h1
      · subst h1
        have e := HXY.out
        rw [e]), Hb4, Hb5, HB⟩
     --@M7
     case measure => simp [intOf] <;> omega
     --@M8
    have hkl : ¬ ((k : Int) < (ss.length : Int)) := by omega
    have HPT2 := Lib.hid (fun j (h : j < ss.length) => HPT.out j h (by omega))
    clear HPT hk hkn
    --@M9
    have cb40 := kcl0 Hb4
    have cb41 := kcl1 Hb4
    have cb42 := kcl2 Hb4
    have cb43 := kcl3 Hb4
    have cb44 := kcl4 Hb4
    have cb45 := kcl5 Hb4
    have cb46 := kcl6 Hb4
    have cb47 := kcl7 Hb4
    have cb48 := kcl8 Hb4
    have cb49 : wr.cell? ⟨b4, 9, none⟩ = some (.int .i64 (l2)) := Hb4.out.cell 9
    have cb410 : wr.cell? ⟨b4, 10, none⟩ = some (.int .i64 (cell)) := Hb4.out.cell 10
    have cb411 : wr.cell? ⟨b4, 11, none⟩ = some (.int .i64 ((d : Int))) := Hb4.out.cell 11
    go_upto_region 23 with (fail)
    clear cb40 cb41 cb42 cb43 cb44 cb45 cb46 cb47 cb48 cb49 cb410 cb411
    --@M4
    by_cases hQ : sa = sb ∧ d1 = d2 ∧ s1 = s2 ∧ d % 2 = 0 ∧ -20000 ≤ low ∧ low ≤ 20000
    rotate_left
    ·
     have hm2 : (d : Int).tmod 2 = ((d % 2 : Nat) : Int) := by rw [Int.tmod_eq_emod_of_nonneg (by omega)]; omega
     go_cut [269] from 231 to 269 (fun p wx => p = .bool true ∧ wx = wr)
     case first =>
      have cb40 := kcl0 Hb4
      have cb41 := kcl1 Hb4
      have cb42 := kcl2 Hb4
      have cb43 := kcl3 Hb4
      have cb44 := kcl4 Hb4
      have cb45 := kcl5 Hb4
      have cb46 := kcl6 Hb4
      have cb47 := kcl7 Hb4
      have cb48 := kcl8 Hb4
      have cb49 : wr.cell? ⟨b4, 9, none⟩ = some (.int .i64 (l2)) := Hb4.out.cell 9
      have cb410 : wr.cell? ⟨b4, 10, none⟩ = some (.int .i64 (cell)) := Hb4.out.cell 10
      have cb411 : wr.cell? ⟨b4, 11, none⟩ = some (.int .i64 ((d : Int))) := Hb4.out.cell 11
      have cb50 := kcl0 Hb5
      have cb51 := kcl1 Hb5
      by_cases j0 : sa = sb
      rotate_left
      ·
       have jb : (sa == sb) = false := beq_eq_false_iff_ne.2 j0
       go_wp2_with fail
       go_meet
       exact ⟨rfl, rfl⟩
      subst j0
      by_cases j1 : d1 = d2
      rotate_left
      ·
       have jb : (d1 == d2) = false := beq_eq_false_iff_ne.2 j1
       go_wp2_with fail
       go_meet
       exact ⟨rfl, rfl⟩
      subst j1
      by_cases j2 : s1 = s2
      rotate_left
      ·
       have jb : (s1 == s2) = false := beq_eq_false_iff_ne.2 j2
       go_wp2_with fail
       go_meet
       exact ⟨rfl, rfl⟩
      subst j2
      by_cases j3 : d % 2 = 0
      rotate_left
      ·
       have e1 : d % 2 = 1 := by omega
       rw [e1] at hm2
       go_wp2_with fail
       go_meet
       exact ⟨rfl, rfl⟩
      rw [j3] at hm2
      have J3 := Lib.hid j3
      clear j3
      by_cases j4 : low < -20000
      ·
       go_wp2_with fail
       go_meet
       exact ⟨rfl, rfl⟩
      have j5 : 20000 < low := by
       have := J3.out
       omega
      go_wp2_with fail
      go_meet
      exact ⟨rfl, rfl⟩
     case rest =>
      obtain ⟨rfl, rfl⟩ := hcut
      --@M5
      go_wp2_with fail
      refine (works_any _ (HDR0.out.later HB.out)).mono ?_
      rintro e Va117 ⟨rfl, hb⟩
      have HBZ := Lib.hid (HB.out.trans (hb.mono HB.out.size))
      clear hb
      go_wp2
      go_ret
      exact ⟨rfl, HBZ.out⟩
    --@M6
    obtain ⟨rfl, rfl, rfl, j3, j4, j5⟩ := hQ
    have hm2 : (d : Int).tmod 2 = 0 := by rw [Int.tmod_eq_emod_of_nonneg (by omega)]; omega
    have j4' : ¬ (low < -20000) := by omega
    have j5' : ¬ (20000 < low) := by omega
    obtain ⟨st1, st2, st3, st4, st5⟩ := HPS.out low HPT2.out rfl rfl rfl j3 ⟨j4, j5⟩
    obtain ⟨⟨t1, t2⟩, htv⟩ : ∃ z, steadyV ⟨WW, HH, SS, ss⟩ (sa, sa) ⟨(d1, d1), (l1, l2)⟩ cell ⟨(s1, s1), 2 ^ d, (low, low)⟩ = z := ⟨_, rfl⟩
    rw [htv] at st2 st3 st4 st5
    simp only at st2 st3 st4 st5
    have HTV := Lib.hid htv
    have HST1 := Lib.hid st1
    have q10 := Q10.out
    have q13 := Q13.out
    have v1 : ¬ (t2 < t1) := by omega
    have v2 : IntKind.i64.wrap (t2 - t1) = t2 - t1 := IntWalk.i64_in _ (by omega)
    have v3 : IntKind.i64.wrap ((LM1.length : Int) + (LM2.length : Int)) = (LM1.length : Int) + (LM2.length : Int) := IntWalk.i64_in _ (by omega)
    have v4 : IntKind.i64.wrap ((LM1.length : Int) + (LM2.length : Int) + 1) = (LM1.length : Int) + (LM2.length : Int) + 1 := IntWalk.i64_in _ (by omega)
    have v5 : t2 - t1 ≤ (LM1.length : Int) + (LM2.length : Int) + 1 := by omega
    have hpw : IntKind.i64.wrap ((2 : Int) ^ d) = 2 ^ d := by
     have h8 := HD8.out
     rcases dir_cases h8 with rfl | rfl | rfl | rfl | rfl | rfl | rfl | rfl <;> rfl
    have hpw1 : IntKind.i64.wrap ((2 : Int) ^ min d 64) = 2 ^ d := by rw [Nat.min_eq_left (by have := HD8.out; omega)]; exact hpw
    clear st1 st2 st3 st4 st5 htv q10 q13 j3 j4 j5 HPS HPT2
    have cb40 := kcl0 Hb4
    have cb41 := kcl1 Hb4
    have cb42 := kcl2 Hb4
    have cb43 := kcl3 Hb4
    have cb44 := kcl4 Hb4
    have cb45 := kcl5 Hb4
    have cb46 := kcl6 Hb4
    have cb47 := kcl7 Hb4
    have cb48 := kcl8 Hb4
    have cb49 : wr.cell? ⟨b4, 9, none⟩ = some (.int .i64 (l2)) := Hb4.out.cell 9
    have cb410 : wr.cell? ⟨b4, 10, none⟩ = some (.int .i64 (cell)) := Hb4.out.cell 10
    have cb411 : wr.cell? ⟨b4, 11, none⟩ = some (.int .i64 ((d : Int))) := Hb4.out.cell 11
    have cb50 := kcl0 Hb5
    have cb51 := kcl1 Hb5
    go_upto_region 25 with (fail)
    clear cb40 cb41 cb42 cb43 cb44 cb45 cb46 cb47 cb48 cb49 cb410 cb411 cb50 cb51
    --@M10
    have HSV : Hid (∀ U, Below wr.heap.size wr U → U.cell? ⟨b4, 0, none⟩ = some (.int .i64 (WW)) ∧ U.cell? ⟨b4, 1, none⟩ = some (.int .i64 (HH)) ∧ U.cell? ⟨b4, 2, none⟩ = some (.int .i64 (SS)) ∧ U.cell? ⟨b4, 3, none⟩ = some (.slice (some ⟨bg, og, none⟩) ss.length c) ∧ U.cell? ⟨b4, 4, none⟩ = some (.int .i64 (sa)) ∧ U.cell? ⟨b4, 5, none⟩ = some (.int .i64 (sa)) ∧ U.cell? ⟨b4, 6, none⟩ = some (.int .i64 (d1)) ∧ U.cell? ⟨b4, 7, none⟩ = some (.int .i64 (d1)) ∧ U.cell? ⟨b4, 8, none⟩ = some (.int .i64 (l1)) ∧ U.cell? ⟨b4, 9, none⟩ = some (.int .i64 (l2)) ∧ U.cell? ⟨b4, 10, none⟩ = some (.int .i64 (cell)) ∧ U.cell? ⟨b4, 11, none⟩ = some (.int .i64 ((d : Int))) ∧ U.cell? ⟨b5, 0, none⟩ = some (.int .i64 (s1)) ∧ U.cell? ⟨b5, 1, none⟩ = some (.int .i64 (s1))) := fun U hU => by
     have kb4 := Hb4.out.below hU Hb4.out.lt
     have kb5 := Hb5.out.below hU Hb5.out.lt
     exact ⟨kb4.cell 0, kb4.cell 1, kb4.cell 2, kb4.cell 3, kb4.cell 4, kb4.cell 5, kb4.cell 6, kb4.cell 7, kb4.cell 8, kb4.cell 9, kb4.cell 10, kb4.cell 11, kb5.cell 0, kb5.cell 1⟩
    have k0 := HSV.out _ (Below.drew (Below.refl wr.heap.size wr))
    go_cut [22, 10] from 271 to 290 (fun pq0 pe0 wx => pe0 = .int .i64 (0) ∧ OneBx wr 26 #[.int .i64 (t1), .int .i64 (t2)] pq0 wx)
    case first =>
     refine wp_region_noPanic ?_
     refine wp_region_held_drew (S := (fun w' => w'.cell? ⟨b4, 0, none⟩ = some (.int .i64 (WW)) ∧ w'.cell? ⟨b4, 1, none⟩ = some (.int .i64 (HH)) ∧ w'.cell? ⟨b4, 2, none⟩ = some (.int .i64 (SS)) ∧ w'.cell? ⟨b4, 3, none⟩ = some (.slice (some ⟨bg, og, none⟩) ss.length c) ∧ w'.cell? ⟨b4, 4, none⟩ = some (.int .i64 (sa)) ∧ w'.cell? ⟨b4, 5, none⟩ = some (.int .i64 (sa)) ∧ w'.cell? ⟨b4, 6, none⟩ = some (.int .i64 (d1)) ∧ w'.cell? ⟨b4, 7, none⟩ = some (.int .i64 (d1)) ∧ w'.cell? ⟨b4, 8, none⟩ = some (.int .i64 (l1)) ∧ w'.cell? ⟨b4, 9, none⟩ = some (.int .i64 (l2)) ∧ w'.cell? ⟨b4, 10, none⟩ = some (.int .i64 (cell)) ∧ w'.cell? ⟨b4, 11, none⟩ = some (.int .i64 ((d : Int))) ∧ w'.cell? ⟨b5, 0, none⟩ = some (.int .i64 (s1)) ∧ w'.cell? ⟨b5, 1, none⟩ = some (.int .i64 (s1)))) (by kernel_rfl) ?_ (fun hHeld => ?_)
     · (try dsimp only); (exact k0)
     refine wpAnyH_take (i := 0) (oi := op10_25_0) (v := ?_) rfl (by kernel_rfl) (by kernel_rfl) (by kernel_rfl) (fun _ _ _ h => h) (Or.inl ⟨by rfl, ?_⟩) (by assumption) ?_
     rotate_left
     · ((intro w hSw; delta op10_25_0; (try dsimp only at hSw); go_simp) <;> with_reducible rfl)
     try simp only [op10_25_0, ksz]
     refine wpAnyH_take (i := 2) (oi := op10_25_2) (v := ?_) rfl (by kernel_rfl) (by kernel_rfl) (by kernel_rfl) (fun _ _ _ h => h) (Or.inl ⟨by rfl, ?_⟩) (by assumption) ?_
     rotate_left
     · ((intro w hSw; delta op10_25_2; (try dsimp only at hSw); go_simp) <;> with_reducible rfl)
     try simp only [op10_25_2, ksz]
     refine wpAnyH_take (i := 4) (oi := op10_25_4) (v := ?_) rfl (by kernel_rfl) (by kernel_rfl) (by kernel_rfl) (fun _ _ _ h => h) (Or.inl ⟨by rfl, ?_⟩) (by assumption) ?_
     rotate_left
     · ((intro w hSw; delta op10_25_4; (try dsimp only at hSw); go_simp) <;> with_reducible rfl)
     try simp only [op10_25_4, ksz]
     refine wpAnyH_take (i := 6) (oi := op10_25_6) (v := ?_) rfl (by kernel_rfl) (by kernel_rfl) (by kernel_rfl) (fun _ _ _ h => h) (Or.inl ⟨by rfl, ?_⟩) (by assumption) ?_
     rotate_left
     · ((intro w hSw; delta op10_25_6; (try dsimp only at hSw); go_simp) <;> with_reducible rfl)
     try simp only [op10_25_6, ksz]
     refine wpAnyH_take (i := 8) (oi := op10_25_8) (v := ?_) rfl (by kernel_rfl) (by kernel_rfl) (by kernel_rfl) (fun _ _ _ h => h) (Or.inl ⟨by rfl, ?_⟩) (by assumption) ?_
     rotate_left
     · ((intro w hSw; delta op10_25_8; (try dsimp only at hSw); go_simp) <;> with_reducible rfl)
     try simp only [op10_25_8, ksz]
     refine wpAnyH_take (i := 9) (oi := op10_25_9) (v := ?_) rfl (by kernel_rfl) (by kernel_rfl) (by kernel_rfl) (fun _ _ _ h => h) (Or.inl ⟨by rfl, ?_⟩) (by assumption) ?_
     rotate_left
     · ((intro w hSw; delta op10_25_9; (try dsimp only at hSw); go_simp) <;> with_reducible rfl)
     try simp only [op10_25_9, ksz]
     refine wpAnyH_take (i := 12) (oi := op10_25_12) (v := ?_) rfl (by kernel_rfl) (by kernel_rfl) (by kernel_rfl) (fun _ _ _ h => h) (Or.inl ⟨by rfl, ?_⟩) (by assumption) ?_
     rotate_left
     · ((intro w hSw; delta op10_25_12; (try dsimp only at hSw); go_simp) <;> with_reducible rfl)
     try simp only [op10_25_12, ksz]
     refine wpAnyH_take (i := 1) (oi := op10_25_1) (v := ?_) rfl (by kernel_rfl) (by kernel_rfl) (by kernel_rfl) (fun _ _ _ h => h) (Or.inl ⟨by rfl, ?_⟩) (by assumption) ?_
     rotate_left
     · ((intro w hSw; delta op10_25_1; (try dsimp only at hSw); go_simp) <;> with_reducible rfl)
     try simp only [op10_25_1, ksz]
     refine wpAnyH_take (i := 3) (oi := op10_25_3) (v := ?_) rfl (by kernel_rfl) (by kernel_rfl) (by kernel_rfl) (fun _ _ _ h => h) (Or.inl ⟨by rfl, ?_⟩) (by assumption) ?_
     rotate_left
     · ((intro w hSw; delta op10_25_3; (try dsimp only at hSw); go_simp) <;> with_reducible rfl)
     try simp only [op10_25_3, ksz]
     refine wpAnyH_take (i := 5) (oi := op10_25_5) (v := ?_) rfl (by kernel_rfl) (by kernel_rfl) (by kernel_rfl) (fun _ _ _ h => h) (Or.inl ⟨by rfl, ?_⟩) (by assumption) ?_
     rotate_left
     · ((intro w hSw; delta op10_25_5; (try dsimp only at hSw); go_simp) <;> with_reducible rfl)
     try simp only [op10_25_5, ksz]
     refine wpAnyH_take (i := 7) (oi := op10_25_7) (v := ?_) rfl (by kernel_rfl) (by kernel_rfl) (by kernel_rfl) (fun _ _ _ h => h) (Or.inl ⟨by rfl, ?_⟩) (by assumption) ?_
     rotate_left
     · ((intro w hSw; delta op10_25_7; (try dsimp only at hSw); go_simp) <;> with_reducible rfl)
     try simp only [op10_25_7, ksz]
     refine wpAnyH_take (i := 10) (oi := op10_25_10) (v := ?_) rfl (by kernel_rfl) (by kernel_rfl) (by kernel_rfl) (fun _ _ _ h => h) (Or.inl ⟨by rfl, ?_⟩) (by assumption) ?_
     rotate_left
     · ((intro w hSw; delta op10_25_10; (try dsimp only at hSw); go_simp) <;> with_reducible rfl)
     try simp only [op10_25_10, ksz]
     refine wpAnyH_take (i := 11) (oi := op10_25_11) (v := ?_) rfl (by kernel_rfl) (by kernel_rfl) (by kernel_rfl) (fun _ _ _ h => h) (Or.inl ⟨by rfl, ?_⟩) (by assumption) ?_
     rotate_left
     · ((intro w hSw; delta op10_25_11; (try dsimp only at hSw); go_simp) <;> with_reducible rfl)
     try simp only [op10_25_11, ksz]
     obtain ⟨W0, hW0⟩ : ∃ V, wr.drew = V := ⟨_, rfl⟩; rw [hW0] at hHeld ⊢; have HB0 : Hid (Below wr.heap.size wr W0) := (by rw [← hW0]; exact Below.drew (Below.refl _ _)); clear hW0
     refine wpAnyH_ready (rs := [13, 19]) (by kernel_rfl) (by simp) ?_
     refine AllReadyH.cons (o := op10_25_13) rfl (fun K hK => ?_) ?_
     ·
      delta op10_25_13
      go_simp
      (refine (point_any _ _).mono ?_; rintro e W1 ⟨rfl, hb⟩; have hbz : Below W0.heap.size W0 W1 := hb; clear hb; have HB1 := Lib.hid (HB0.out.trans (hbz.mono HB0.out.size)); clear hbz)
      refine hK.out _ _ ?_ (fun hHeld => ?_)
      · (try dsimp only); (exact HSV.out _ HB1.out)
      clear hK K
      try simp only [op10_25_13, ksz]
      refine wpAnyH_take (i := 14) (oi := op10_25_14) (v := ?_) rfl (by kernel_rfl) (by kernel_rfl) (by kernel_rfl) (fun _ _ _ h => h) (Or.inl ⟨by rfl, ?_⟩) (by assumption) ?_
      rotate_left
      · ((intro w hSw; delta op10_25_14; (try dsimp only at hSw); go_simp) <;> with_reducible rfl)
      try simp only [op10_25_14, ksz]
      refine wpAnyH_ready (rs := [15, 19]) (by kernel_rfl) (by simp) ?_
      refine AllReadyH.cons (o := op10_25_15) rfl (fun K hK => ?_) ?_
      ·
       delta op10_25_15
       go_simp
       (refine (Steady_any WW HH SS ss (some ⟨bg, og, none⟩) c sa sa d1 d1 l1 l2 cell s1 s1 (2 ^ d) low low _ (HDR0.out.later (HB.out.trans (HB1.out.mono HB.out.size))) (HS0.out.later (HB.out.trans (HB1.out.mono HB.out.size)) (Nat.le_refl _))).mono ?_; rintro e W2 ⟨rfl, hb⟩; have hbz : Below W1.heap.size W1 W2 := hb; clear hb; have HB2 := Lib.hid (HB1.out.trans (hbz.mono HB1.out.size)); clear hbz; rw [HTV.out, HST1.out]; simp only [spV])
       refine hK.out _ _ ?_ (fun hHeld => ?_)
       · (try dsimp only); (exact HSV.out _ HB2.out)
       clear hK K
       try simp only [op10_25_15, ksz]
       refine wpAnyH_take (i := 16) (oi := op10_25_16) (v := ?_) rfl (by kernel_rfl) (by kernel_rfl) (by kernel_rfl) (fun _ _ _ h => h) (Or.inl ⟨by rfl, ?_⟩) (by assumption) ?_
       rotate_left
       · ((intro w hSw; delta op10_25_16; (try dsimp only at hSw); go_simp) <;> with_reducible rfl)
       try simp only [op10_25_16, ksz]
       refine wpAnyH_take (i := 17) (oi := op10_25_17) (v := ?_) rfl (by kernel_rfl) (by kernel_rfl) (by kernel_rfl) (fun _ _ _ h => h) (Or.inl ⟨by rfl, ?_⟩) (by assumption) ?_
       rotate_left
       · ((intro w hSw; delta op10_25_17; (try dsimp only at hSw); go_simp) <;> with_reducible rfl)
       try simp only [op10_25_17, ksz]
       refine wpAnyH_take (i := 18) (oi := op10_25_18) (v := ?_) rfl (by kernel_rfl) (by kernel_rfl) (by kernel_rfl) (fun _ _ _ h => h) (Or.inl ⟨by rfl, ?_⟩) (by assumption) ?_
       rotate_left
       · ((intro w hSw; delta op10_25_18; (try dsimp only at hSw); go_simp) <;> with_reducible rfl)
       try simp only [op10_25_18, ksz]
       refine wpAnyH_ready (rs := [19]) (by kernel_rfl) (by simp) ?_
       refine AllReadyH.cons (o := op10_25_19) rfl (fun K hK => ?_) AllReadyH.nil
       delta op10_25_19
       go_simp
       obtain ⟨W3, hV⟩ : ∃ V, W2.alloc (.cells #[.int .i64 (0), .int .i64 (0)] 26) = V := ⟨_, rfl⟩; have hbz : Below W2.heap.size W2 W3 := (by rw [← hV]; exact (Below.refl _ _).alloc (Nat.le_refl _) _); have HB3 := Lib.hid (HB2.out.trans (hbz.mono HB2.out.size)); have Nb22' : Hid (Blk W3 W2.heap.size 26 #[.int .i64 (0), .int .i64 (0)]) := (by rw [← hV]; exact Blk.new' _ _ _ rfl); obtain ⟨b22, hz⟩ : ∃ b, W2.heap.size = b := ⟨_, rfl⟩; rw [hz] at Nb22'; have hb22 : wr.heap.size ≤ b22 := (by rw [← hz]; exact HB2.out.size); have Nb22 := Nb22'; clear Nb22'; rw [hV, hz]; clear hV hbz hz
       refine hK.out _ _ ?_ (fun hHeld => ?_)
       · (try dsimp only); (exact HSV.out _ HB3.out)
       clear hK K
       try simp only [op10_25_19, ksz]
       have cR0 := Nb22.out.cell 0; have zR0 := Nb22.out.frozen 0; have cR1 := Nb22.out.cell 1; have zR1 := Nb22.out.frozen 1; simp only [List.getElem?_toArray, List.getElem?_cons_zero, List.getElem?_cons_succ] at cR0 cR1
       refine wpAnyH_ready (rs := [20]) (by kernel_rfl) (by simp) ?_
       refine AllReadyH.cons (o := op10_25_20) rfl (fun K hK => ?_) AllReadyH.nil
       delta op10_25_20
       go_simp
       refine hK.out _ _ ?_ (fun hHeld => ?_)
       · (try dsimp only); (exact HSV.out _ ((HB3.out.setCell (p := ⟨b22, 0, none⟩) (by exact hb22) _).setCell (p := ⟨b22, 1, none⟩) (by exact hb22) _))
       clear hK K
       try simp only [op10_25_20, ksz]
       obtain ⟨X0, hV⟩ : ∃ V, (W3.setCell ⟨b22, 0, none⟩ (.int .i64 (t1))).setCell ⟨b22, 1, none⟩ (.int .i64 (t2)) = V := ⟨_, rfl⟩; have Gb22 : Hid (Blk X0 b22 26 #[.int .i64 (t1), .int .i64 (t2)]) := (by rw [← hV]; exact ((Nb22.out.set_ 0 (.int .i64 (t1))).set_ 1 (.int .i64 (t2)))); have GHB : Hid (Below wr.heap.size wr X0) := (by rw [← hV]; exact ((HB3.out.setCell (p := ⟨b22, 0, none⟩) (by exact hb22) _).setCell (p := ⟨b22, 1, none⟩) (by exact hb22) _)); rw [hV]; rw [hV] at hHeld; clear hV cR0 zR0 cR1 zR1 Nb22; have HBX := GHB; clear GHB; have Nb22 := Gb22; clear Gb22
       refine wpAnyH_take (i := 21) (oi := op10_25_21) (v := ?_) rfl (by kernel_rfl) (by kernel_rfl) (by kernel_rfl) (fun _ _ _ h => h) (Or.inl ⟨by rfl, ?_⟩) (by assumption) ?_
       rotate_left
       · ((intro w hSw; delta op10_25_21; (try dsimp only at hSw); go_simp) <;> with_reducible rfl)
       try simp only [op10_25_21, ksz]
       refine wpAnyH_done (by kernel_rfl) ?_ _
       refine NoPanic.normal ?_
       go_wp2_with fail
       go_meet
       exact ⟨rfl, b22, rfl, Nb22.out, (by exact hb22), HBX.out⟩
      refine AllReadyH.cons (o := op10_25_19) rfl (fun K hK => ?_) ?_
      ·
       delta op10_25_19
       go_simp
       obtain ⟨W2, hV⟩ : ∃ V, W1.alloc (.cells #[.int .i64 (0), .int .i64 (0)] 26) = V := ⟨_, rfl⟩; have hbz : Below W1.heap.size W1 W2 := (by rw [← hV]; exact (Below.refl _ _).alloc (Nat.le_refl _) _); have HB2 := Lib.hid (HB1.out.trans (hbz.mono HB1.out.size)); have Nb22' : Hid (Blk W2 W1.heap.size 26 #[.int .i64 (0), .int .i64 (0)]) := (by rw [← hV]; exact Blk.new' _ _ _ rfl); obtain ⟨b22, hz⟩ : ∃ b, W1.heap.size = b := ⟨_, rfl⟩; rw [hz] at Nb22'; have hb22 : wr.heap.size ≤ b22 := (by rw [← hz]; exact HB1.out.size); have Nb22 := Nb22'; clear Nb22'; rw [hV, hz]; clear hV hbz hz
       refine hK.out _ _ ?_ (fun hHeld => ?_)
       · (try dsimp only); (exact HSV.out _ HB2.out)
       clear hK K
       try simp only [op10_25_19, ksz]
       refine wpAnyH_ready (rs := [15]) (by kernel_rfl) (by simp) ?_
       refine AllReadyH.cons (o := op10_25_15) rfl (fun K hK => ?_) AllReadyH.nil
       delta op10_25_15
       go_simp
       (refine (Steady_any WW HH SS ss (some ⟨bg, og, none⟩) c sa sa d1 d1 l1 l2 cell s1 s1 (2 ^ d) low low _ (HDR0.out.later (HB.out.trans (HB2.out.mono HB.out.size))) (HS0.out.later (HB.out.trans (HB2.out.mono HB.out.size)) (Nat.le_refl _))).mono ?_; rintro e W3 ⟨rfl, hb⟩; have hbz : Below W2.heap.size W2 W3 := hb; clear hb; have HB3 := Lib.hid (HB2.out.trans (hbz.mono HB2.out.size)); have Mb22 := Lib.hid (Nb22.out.below hbz Nb22.out.lt); clear Nb22; have Nb22 := Mb22; clear Mb22; clear hbz; rw [HTV.out, HST1.out]; simp only [spV])
       refine hK.out _ _ ?_ (fun hHeld => ?_)
       · (try dsimp only); (exact HSV.out _ HB3.out)
       clear hK K
       try simp only [op10_25_15, ksz]
       refine wpAnyH_take (i := 16) (oi := op10_25_16) (v := ?_) rfl (by kernel_rfl) (by kernel_rfl) (by kernel_rfl) (fun _ _ _ h => h) (Or.inl ⟨by rfl, ?_⟩) (by assumption) ?_
       rotate_left
       · ((intro w hSw; delta op10_25_16; (try dsimp only at hSw); go_simp) <;> with_reducible rfl)
       try simp only [op10_25_16, ksz]
       refine wpAnyH_take (i := 17) (oi := op10_25_17) (v := ?_) rfl (by kernel_rfl) (by kernel_rfl) (by kernel_rfl) (fun _ _ _ h => h) (Or.inl ⟨by rfl, ?_⟩) (by assumption) ?_
       rotate_left
       · ((intro w hSw; delta op10_25_17; (try dsimp only at hSw); go_simp) <;> with_reducible rfl)
       try simp only [op10_25_17, ksz]
       refine wpAnyH_take (i := 18) (oi := op10_25_18) (v := ?_) rfl (by kernel_rfl) (by kernel_rfl) (by kernel_rfl) (fun _ _ _ h => h) (Or.inl ⟨by rfl, ?_⟩) (by assumption) ?_
       rotate_left
       · ((intro w hSw; delta op10_25_18; (try dsimp only at hSw); go_simp) <;> with_reducible rfl)
       try simp only [op10_25_18, ksz]
       have cR0 := Nb22.out.cell 0; have zR0 := Nb22.out.frozen 0; have cR1 := Nb22.out.cell 1; have zR1 := Nb22.out.frozen 1; simp only [List.getElem?_toArray, List.getElem?_cons_zero, List.getElem?_cons_succ] at cR0 cR1
       refine wpAnyH_ready (rs := [20]) (by kernel_rfl) (by simp) ?_
       refine AllReadyH.cons (o := op10_25_20) rfl (fun K hK => ?_) AllReadyH.nil
       delta op10_25_20
       go_simp
       refine hK.out _ _ ?_ (fun hHeld => ?_)
       · (try dsimp only); (exact HSV.out _ ((HB3.out.setCell (p := ⟨b22, 0, none⟩) (by exact hb22) _).setCell (p := ⟨b22, 1, none⟩) (by exact hb22) _))
       clear hK K
       try simp only [op10_25_20, ksz]
       obtain ⟨X0, hV⟩ : ∃ V, (W3.setCell ⟨b22, 0, none⟩ (.int .i64 (t1))).setCell ⟨b22, 1, none⟩ (.int .i64 (t2)) = V := ⟨_, rfl⟩; have Gb22 : Hid (Blk X0 b22 26 #[.int .i64 (t1), .int .i64 (t2)]) := (by rw [← hV]; exact ((Nb22.out.set_ 0 (.int .i64 (t1))).set_ 1 (.int .i64 (t2)))); have GHB : Hid (Below wr.heap.size wr X0) := (by rw [← hV]; exact ((HB3.out.setCell (p := ⟨b22, 0, none⟩) (by exact hb22) _).setCell (p := ⟨b22, 1, none⟩) (by exact hb22) _)); rw [hV]; rw [hV] at hHeld; clear hV cR0 zR0 cR1 zR1 Nb22; have HBX := GHB; clear GHB; have Nb22 := Gb22; clear Gb22
       refine wpAnyH_take (i := 21) (oi := op10_25_21) (v := ?_) rfl (by kernel_rfl) (by kernel_rfl) (by kernel_rfl) (fun _ _ _ h => h) (Or.inl ⟨by rfl, ?_⟩) (by assumption) ?_
       rotate_left
       · ((intro w hSw; delta op10_25_21; (try dsimp only at hSw); go_simp) <;> with_reducible rfl)
       try simp only [op10_25_21, ksz]
       refine wpAnyH_done (by kernel_rfl) ?_ _
       refine NoPanic.normal ?_
       go_wp2_with fail
       go_meet
       exact ⟨rfl, b22, rfl, Nb22.out, (by exact hb22), HBX.out⟩
      exact AllReadyH.nil
     refine AllReadyH.cons (o := op10_25_19) rfl (fun K hK => ?_) ?_
     ·
      delta op10_25_19
      go_simp
      obtain ⟨W1, hV⟩ : ∃ V, W0.alloc (.cells #[.int .i64 (0), .int .i64 (0)] 26) = V := ⟨_, rfl⟩; have hbz : Below W0.heap.size W0 W1 := (by rw [← hV]; exact (Below.refl _ _).alloc (Nat.le_refl _) _); have HB1 := Lib.hid (HB0.out.trans (hbz.mono HB0.out.size)); have Nb22' : Hid (Blk W1 W0.heap.size 26 #[.int .i64 (0), .int .i64 (0)]) := (by rw [← hV]; exact Blk.new' _ _ _ rfl); obtain ⟨b22, hz⟩ : ∃ b, W0.heap.size = b := ⟨_, rfl⟩; rw [hz] at Nb22'; have hb22 : wr.heap.size ≤ b22 := (by rw [← hz]; exact HB0.out.size); have Nb22 := Nb22'; clear Nb22'; rw [hV, hz]; clear hV hbz hz
      refine hK.out _ _ ?_ (fun hHeld => ?_)
      · (try dsimp only); (exact HSV.out _ HB1.out)
      clear hK K
      try simp only [op10_25_19, ksz]
      refine wpAnyH_ready (rs := [13]) (by kernel_rfl) (by simp) ?_
      refine AllReadyH.cons (o := op10_25_13) rfl (fun K hK => ?_) AllReadyH.nil
      delta op10_25_13
      go_simp
      (refine (point_any _ _).mono ?_; rintro e W2 ⟨rfl, hb⟩; have hbz : Below W1.heap.size W1 W2 := hb; clear hb; have HB2 := Lib.hid (HB1.out.trans (hbz.mono HB1.out.size)); have Mb22 := Lib.hid (Nb22.out.below hbz Nb22.out.lt); clear Nb22; have Nb22 := Mb22; clear Mb22; clear hbz)
      refine hK.out _ _ ?_ (fun hHeld => ?_)
      · (try dsimp only); (exact HSV.out _ HB2.out)
      clear hK K
      try simp only [op10_25_13, ksz]
      refine wpAnyH_take (i := 14) (oi := op10_25_14) (v := ?_) rfl (by kernel_rfl) (by kernel_rfl) (by kernel_rfl) (fun _ _ _ h => h) (Or.inl ⟨by rfl, ?_⟩) (by assumption) ?_
      rotate_left
      · ((intro w hSw; delta op10_25_14; (try dsimp only at hSw); go_simp) <;> with_reducible rfl)
      try simp only [op10_25_14, ksz]
      refine wpAnyH_ready (rs := [15]) (by kernel_rfl) (by simp) ?_
      refine AllReadyH.cons (o := op10_25_15) rfl (fun K hK => ?_) AllReadyH.nil
      delta op10_25_15
      go_simp
      (refine (Steady_any WW HH SS ss (some ⟨bg, og, none⟩) c sa sa d1 d1 l1 l2 cell s1 s1 (2 ^ d) low low _ (HDR0.out.later (HB.out.trans (HB2.out.mono HB.out.size))) (HS0.out.later (HB.out.trans (HB2.out.mono HB.out.size)) (Nat.le_refl _))).mono ?_; rintro e W3 ⟨rfl, hb⟩; have hbz : Below W2.heap.size W2 W3 := hb; clear hb; have HB3 := Lib.hid (HB2.out.trans (hbz.mono HB2.out.size)); have Mb22 := Lib.hid (Nb22.out.below hbz Nb22.out.lt); clear Nb22; have Nb22 := Mb22; clear Mb22; clear hbz; rw [HTV.out, HST1.out]; simp only [spV])
      refine hK.out _ _ ?_ (fun hHeld => ?_)
      · (try dsimp only); (exact HSV.out _ HB3.out)
      clear hK K
      try simp only [op10_25_15, ksz]
      refine wpAnyH_take (i := 16) (oi := op10_25_16) (v := ?_) rfl (by kernel_rfl) (by kernel_rfl) (by kernel_rfl) (fun _ _ _ h => h) (Or.inl ⟨by rfl, ?_⟩) (by assumption) ?_
      rotate_left
      · ((intro w hSw; delta op10_25_16; (try dsimp only at hSw); go_simp) <;> with_reducible rfl)
      try simp only [op10_25_16, ksz]
      refine wpAnyH_take (i := 17) (oi := op10_25_17) (v := ?_) rfl (by kernel_rfl) (by kernel_rfl) (by kernel_rfl) (fun _ _ _ h => h) (Or.inl ⟨by rfl, ?_⟩) (by assumption) ?_
      rotate_left
      · ((intro w hSw; delta op10_25_17; (try dsimp only at hSw); go_simp) <;> with_reducible rfl)
      try simp only [op10_25_17, ksz]
      refine wpAnyH_take (i := 18) (oi := op10_25_18) (v := ?_) rfl (by kernel_rfl) (by kernel_rfl) (by kernel_rfl) (fun _ _ _ h => h) (Or.inl ⟨by rfl, ?_⟩) (by assumption) ?_
      rotate_left
      · ((intro w hSw; delta op10_25_18; (try dsimp only at hSw); go_simp) <;> with_reducible rfl)
      try simp only [op10_25_18, ksz]
      have cR0 := Nb22.out.cell 0; have zR0 := Nb22.out.frozen 0; have cR1 := Nb22.out.cell 1; have zR1 := Nb22.out.frozen 1; simp only [List.getElem?_toArray, List.getElem?_cons_zero, List.getElem?_cons_succ] at cR0 cR1
      refine wpAnyH_ready (rs := [20]) (by kernel_rfl) (by simp) ?_
      refine AllReadyH.cons (o := op10_25_20) rfl (fun K hK => ?_) AllReadyH.nil
      delta op10_25_20
      go_simp
      refine hK.out _ _ ?_ (fun hHeld => ?_)
      · (try dsimp only); (exact HSV.out _ ((HB3.out.setCell (p := ⟨b22, 0, none⟩) (by exact hb22) _).setCell (p := ⟨b22, 1, none⟩) (by exact hb22) _))
      clear hK K
      try simp only [op10_25_20, ksz]
      obtain ⟨X0, hV⟩ : ∃ V, (W3.setCell ⟨b22, 0, none⟩ (.int .i64 (t1))).setCell ⟨b22, 1, none⟩ (.int .i64 (t2)) = V := ⟨_, rfl⟩; have Gb22 : Hid (Blk X0 b22 26 #[.int .i64 (t1), .int .i64 (t2)]) := (by rw [← hV]; exact ((Nb22.out.set_ 0 (.int .i64 (t1))).set_ 1 (.int .i64 (t2)))); have GHB : Hid (Below wr.heap.size wr X0) := (by rw [← hV]; exact ((HB3.out.setCell (p := ⟨b22, 0, none⟩) (by exact hb22) _).setCell (p := ⟨b22, 1, none⟩) (by exact hb22) _)); rw [hV]; rw [hV] at hHeld; clear hV cR0 zR0 cR1 zR1 Nb22; have HBX := GHB; clear GHB; have Nb22 := Gb22; clear Gb22
      refine wpAnyH_take (i := 21) (oi := op10_25_21) (v := ?_) rfl (by kernel_rfl) (by kernel_rfl) (by kernel_rfl) (fun _ _ _ h => h) (Or.inl ⟨by rfl, ?_⟩) (by assumption) ?_
      rotate_left
      · ((intro w hSw; delta op10_25_21; (try dsimp only at hSw); go_simp) <;> with_reducible rfl)
      try simp only [op10_25_21, ksz]
      refine wpAnyH_done (by kernel_rfl) ?_ _
      refine NoPanic.normal ?_
      go_wp2_with fail
      go_meet
      exact ⟨rfl, b22, rfl, Nb22.out, (by exact hb22), HBX.out⟩
     exact AllReadyH.nil
    case rest =>
     obtain ⟨rfl, b22, rfl, Jb22, eb22, hb⟩ := hcut
     obtain ⟨Va118, rfl⟩ : ∃ V, V = wc := ⟨_, rfl⟩
     have HZ := Lib.hid hb
     have Kb22 := Lib.hid Jb22
     clear Jb22
     have nb4b22 : ¬ b4 = b22 := by have := Hb4.out.lt; omega
     have nb22b4 : ¬ b22 = b4 := fun e => nb4b22 e.symm
     have nb5b22 : ¬ b5 = b22 := by have := Hb5.out.lt; omega
     have nb22b5 : ¬ b22 = b5 := fun e => nb5b22 e.symm
     have gb22 : w.heap.size ≤ b22 := Nat.le_trans HB.out.size eb22
     clear eb22
     clear hb HSV k0
     replace Hb4 := kbl Hb4 HZ
     replace Hb5 := kbl Hb5 HZ
     replace HB := ktr' HB HZ
     clear HZ
     have Hb22 := Kb22
     clear Kb22
     --@M11
     have cb220 := kcl0 Hb22
     have cb221 := kcl1 Hb22
     go_wp2_with fail
     refine (works_any _ (HDR0.out.later HB.out)).mono ?_
     rintro e Va119 ⟨rfl, hb⟩
     have HBZ := Lib.hid (HB.out.trans (hb.mono HB.out.size))
     clear hb
     go_wp2
     go_ret
     exact ⟨rfl, HBZ.out⟩
end Go.Proofs.YtdhcdgfpkjdihaaDoor.Sg
