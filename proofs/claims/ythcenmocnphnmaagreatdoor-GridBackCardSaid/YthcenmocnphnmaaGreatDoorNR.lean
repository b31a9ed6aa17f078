/-
  GridBack returns true.
-/
import Derived.Test.YthcenmocnphnmaaGreatDoorND
import Derived.Test.YthcenmocnphnmaaGreatDoorNG
import Derived.Test.YthcenmocnphnmaaGreatDoorTie
import Derived.Test.YthcenmocnphnmaaGreatDoorCards
set_option linter.unusedSimpArgs false
set_option linter.unusedVariables false
namespace Go.Proofs.YthcenmocnphnmaaGreatDoor
open Go.RowKit Go.Shelf

theorem writeR_snd (g : G) : (writeR g).2 = checkE g := by
  unfold writeR
  split
  · rename_i h; rw [h]
  · rfl
theorem gridTxt_len {g : G} (V : Valid g) : (gridTxt g).length ≤ 65536 := by
  rw [← progTxt_eq g (len_mod V), List.length_append, List.length_append]
  have h1 : (headT g).length ≤ 100 := headUp_len g V 3
  have h2 := preTxt_len g V g.ss.length (Nat.le_refl _)
  rw [List.take_length] at h2
  have h3 := V.small
  simp only [List.length_cons, List.length_nil]
  omega
theorem read_back {g : G} (h : checkE g = 0) : readOfP (parseP (writeR g).1) (writeR g).1 = (g, 0) := by
  have e : writeR g = (gridTxt g, 0) := by unfold writeR; rw [if_pos h]
  rw [e]
  have := gridTxt_len (valid_of h)
  exact readOfP_yes (by simp only; omega) (parseP_of e) e
theorem read_cases (s : List UInt8) (hs : s.length ≤ 65536) : (∃ g, readOfP (parseP s) s = (g, 0) ∧ writeR g = (s, 0)) ∨ readOfP (parseP s) s = (zeroG, 7) := by
  have hl : ¬ 65536 < s.length := by omega
  cases hp : parseP s with
  | none => exact .inr (readOfP_if hl (fun g h => by cases h))
  | some g =>
    by_cases hw : writeR g = (s, 0)
    · exact .inl ⟨g, readOfP_yes hl rfl hw, hw⟩
    · refine .inr (readOfP_if hl (fun g' h => ?_))
      injection h with h
      subst h
      exact hw
/-- what Read gives of a text, by its value -/
theorem read_is (s : List UInt8) (r : G × Int) (hr : readOfP (parseP s) s = r) (w : World) (hv : LV w) (hs : s.length ≤ 9223372036854775000) :
    Calls Tryz.prog 37 #[.string (bs s)] w fun e w' => ∃ v, e = .returned (.tuple #[.agg #[.int .i64 r.1.W, .int .i64 r.1.H, .int .i64 r.1.S, v], .int .i64 r.2]) ∧ SpansAt w' w'.heap.size v r.1.ss ∧ Below w.heap.size w w' := by
  subst hr
  refine (Read_any s w hv hs).mono ?_
  rintro e w' ⟨x, rfl, ⟨v, rfl, h⟩, hb⟩
  exact ⟨v, rfl, h, hb⟩
theorem write_is (x : Value) (g : G) (r : List UInt8 × Int) (hr : writeR g = r) (w : World) (hg : GridAt w w.heap.size x g) (hv : LV w) :
    Calls Tryz.prog 35 #[x] w fun e w' => e = .returned (.tuple #[.string (bs r.1), .int .i64 r.2]) ∧ Below w.heap.size w w' := by
  subst hr
  exact Write_any x g w hg hv

set_option maxRecDepth 100000 in
set_option maxHeartbeats 8000000 in
theorem GridBack_any (x : Value) (g : G) (s : List UInt8) (w : World) (hg : GridAt w w.heap.size x g) (hv : LV w) :
    Calls Tryz.prog 12 #[x, .string (bs s)] w fun e w' => e = .returned (.bool true) ∧ Below w.heap.size w w' := by
  have hz : (bs s).size = s.length := bs_size s
  have HG := Lib.hid hg
  obtain ⟨v, rfl, hs⟩ := hg
  obtain ⟨A, k, rfl, hk, hm⟩ := hs.open_
  have hB : Below w.heap.size w (w.alloc (.cells #[.int .i64 g.W, .int .i64 g.H, .int .i64 g.S, .slice A g.ss.length k] 24)) := (by repeat (first | exact Below.refl _ _ | assumption | refine Below.drew ?_ | refine Below.drewN' ?_ _ | (refine Below.alloc ?_ (by simp <;> omega) _) | (refine Below.setCell ?_ (by simp <;> omega) _)))
  have HB := Lib.hid hB
  have HLV := Lib.hid hv
  have b0 : Blk (w.alloc (.cells #[.int .i64 g.W, .int .i64 g.H, .int .i64 g.S, .slice A g.ss.length k] 24)) w.heap.size 24 #[.int .i64 g.W, .int .i64 g.H, .int .i64 g.S, .slice A g.ss.length k] := Blk.new' _ _ _ rfl
  have HBB := Lib.hid b0
  clear hs hB b0 hv
  go_enter Tryz.func12, Tryz.ntmps12
  by_cases hl : 600 < g.ss.length ∨ 3000 < s.length
  · have hany : (600 : Int) < g.ss.length ∨ (¬ (600 : Int) < g.ss.length ∧ (3000 : Int) < s.length) := by omega
    clear hl
    rcases hany with h1 | ⟨h1, h2⟩
    all_goals
      go_wp2_with fail
      refine (works_any _ (HLV.out.below HB.out)).mono ?_
      rintro e w1 ⟨rfl, hb1⟩
      have HB1 := Lib.hid (HB.out.trans (hb1.mono HB.out.size))
      clear hb1
      go_wp2
      go_ret
      exact ⟨rfl, HB1.out⟩
  have hsl : s.length ≤ 3000 := by omega
  have h1 : ¬ (600 : Int) < g.ss.length := by omega
  have h2 : ¬ (3000 : Int) < s.length := by omega
  clear hl
  obtain ⟨t, ht⟩ : ∃ t, writeR g = (t, checkE g) := ⟨(writeR g).1, by rw [← writeR_snd]⟩
  have HT := Lib.hid ht
  clear ht
  go_wp2_with fail
  refine (write_is _ g _ HT.out _ (HG.out.later HB.out (Nat.le_refl _)) (HLV.out.below HB.out)).mono ?_
  rintro e w1 ⟨rfl, hb1⟩
  have HB1 := Lib.hid (HB.out.trans (hb1.mono HB.out.size))
  have HBB1 := Lib.hid (HBB.out.below hb1 (by simp))
  clear hb1
  obtain ⟨z0, z1, z2, z3⟩ := grid_parts HBB1.out
  go_wp2_with fail
  refine (check_any _ g _ (HG.out.later HB1.out (Nat.le_refl _))).mono ?_
  rintro e w2 ⟨rfl, hb2⟩
  have HB2 := Lib.hid (HB1.out.trans (hb2.mono HB1.out.size))
  have HBB2 := Lib.hid (HBB1.out.below hb2 HBB1.out.lt)
  have hee : (checkE g != checkE g) = false := by simp
  clear hb2 z0 z1 z2 z3 HBB1
  have final : ∀ (w3 : World), Below w.heap.size w w3 → Hid (Below w.heap.size w w3) := fun _ h => h
  clear final
  by_cases h0 : checkE g = 0
  · have hrb := read_back h0
    rw [HT.out] at hrb
    have HRB := Lib.hid hrb
    have h00 : (checkE g == 0) = true := by simpa using h0
    have htl : t.length ≤ 65536 := by
      have := gridTxt_len (valid_of h0)
      have e : writeR g = (gridTxt g, 0) := by unfold writeR; rw [if_pos h0]
      rw [HT.out] at e
      have e' : t = gridTxt g := congrArg Prod.fst e
      rw [e']
      exact this
    clear hrb h0
    go_wp2_with fail
    refine (read_is t _ HRB.out _ (HLV.out.below HB2.out) (by omega)).mono ?_
    rintro e w3 ⟨v3, rfl, hs3, hb3⟩
    obtain ⟨A3, k3, rfl, _, _⟩ := hs3.open_
    have hg3 : GridAt w3 w3.heap.size (.agg #[.int .i64 g.W, .int .i64 g.H, .int .i64 g.S, .slice A3 g.ss.length k3]) g := ⟨_, rfl, hs3⟩
    have HG3 := Lib.hid hg3
    have HB3 := Lib.hid (HB2.out.trans (hb3.mono HB2.out.size))
    have HBB3 := Lib.hid (HBB2.out.below hb3 HBB2.out.lt)
    have hw3 : w.heap.size < w3.heap.size := HBB3.out.lt
    have hbW3 : Below w3.heap.size w3 (w3.alloc (.cells #[.int .i64 g.W, .int .i64 g.H, .int .i64 g.S, .slice A3 g.ss.length k3] 24)) := (by repeat (first | exact Below.refl _ _ | assumption | refine Below.drew ?_ | refine Below.drewN' ?_ _ | (refine Below.alloc ?_ (by simp <;> omega) _) | (refine Below.setCell ?_ (by simp <;> omega) _)))
    have HW3 := Lib.hid hbW3
    clear hs3 hg3 hb3 hbW3 HBB2
    obtain ⟨z0, z1, z2, z3⟩ := grid_parts (HBB3.out.alloc (.cells #[.int .i64 g.W, .int .i64 g.H, .int .i64 g.S, .slice A3 g.ss.length k3] 24))
    go_wp2_with fail
    refine (grids_yes _ _ _ _ rfl _ (HG3.out.later HW3.out (Nat.le_refl _)) (HG.out.later (HB3.out.trans (HW3.out.mono HB3.out.size)) (Nat.le_refl _))).mono ?_
    rintro e w4 ⟨rfl, hb4⟩
    have HB4 := Lib.hid (HB3.out.trans ((HW3.out.trans (hb4.mono (by simp))).mono HB3.out.size))
    clear hb4 z0 z1 z2 z3 HG3 HBB3 HW3
    rcases read_cases s (by omega) with ⟨g5, hr5, hw5⟩ | hr5
    · have HR5 := Lib.hid hr5
      have HW5 := Lib.hid hw5
      clear hr5 hw5
      go_wp2_with fail
      refine (read_is s _ HR5.out _ (HLV.out.below HB4.out) (by omega)).mono ?_
      rintro e w5 ⟨v5, rfl, hs5, hb5⟩
      obtain ⟨A5, k5, rfl, _, _⟩ := hs5.open_
      have hg5 : GridAt w5 w5.heap.size (.agg #[.int .i64 g5.W, .int .i64 g5.H, .int .i64 g5.S, .slice A5 g5.ss.length k5]) g5 := ⟨_, rfl, hs5⟩
      have HG5 := Lib.hid hg5
      have HB5 := Lib.hid (HB4.out.trans (hb5.mono HB4.out.size))
      have hbW5 : Below w5.heap.size w5 (w5.alloc (.cells #[.int .i64 g5.W, .int .i64 g5.H, .int .i64 g5.S, .slice A5 g5.ss.length k5] 24)) := (by repeat (first | exact Below.refl _ _ | assumption | refine Below.drew ?_ | refine Below.drewN' ?_ _ | (refine Below.alloc ?_ (by simp <;> omega) _) | (refine Below.setCell ?_ (by simp <;> omega) _)))
      have HV5 := Lib.hid hbW5
      clear hs5 hg5 hb5 hbW5
      go_wp2_with fail
      refine (write_is _ g5 _ HW5.out _ (HG5.out.later HV5.out (Nat.le_refl _)) (HLV.out.below (HB5.out.trans (HV5.out.mono HB5.out.size)))).mono ?_
      rintro e w6 ⟨rfl, hb6⟩
      have HB6 := Lib.hid (HB5.out.trans ((HV5.out.trans (hb6.mono (by simp))).mono HB5.out.size))
      clear hb6
      have hs1 : ((bs s).toList == (bs s).toList) = true := by simp
      go_wp2_with fail
      refine (works_any _ (HLV.out.below HB6.out)).mono ?_
      rintro e w7 ⟨rfl, hb7⟩
      have HB7 := Lib.hid (HB6.out.trans (hb7.mono HB6.out.size))
      clear hb7
      go_wp2
      go_ret
      exact ⟨rfl, HB7.out⟩
    · have HR5 := Lib.hid hr5
      clear hr5
      go_wp2_with fail
      refine (read_is s _ HR5.out _ (HLV.out.below HB4.out) (by omega)).mono ?_
      rintro e w5 ⟨v5, rfl, hs5, hb5⟩
      obtain ⟨A5, k5, rfl, _, _⟩ := hs5.open_
      have HB5 := Lib.hid (HB4.out.trans (hb5.mono HB4.out.size))
      have hbW5 : Below w5.heap.size w5 (w5.alloc (.cells #[.int .i64 zeroG.W, .int .i64 zeroG.H, .int .i64 zeroG.S, .slice A5 zeroG.ss.length k5] 24)) := (by repeat (first | exact Below.refl _ _ | assumption | refine Below.drew ?_ | refine Below.drewN' ?_ _ | (refine Below.alloc ?_ (by simp <;> omega) _) | (refine Below.setCell ?_ (by simp <;> omega) _)))
      have HV5 := Lib.hid hbW5
      clear hs5 hb5 hbW5
      go_wp2_with fail
      refine (works_any _ (HLV.out.below (HB5.out.trans (HV5.out.mono HB5.out.size)))).mono ?_
      rintro e w7 ⟨rfl, hb7⟩
      have HB7 := Lib.hid (HB5.out.trans ((HV5.out.trans (hb7.mono (by simp))).mono HB5.out.size))
      clear hb7
      go_wp2
      go_ret
      exact ⟨rfl, HB7.out⟩
  · have h00 : (checkE g == 0) = false := by simpa using h0
    clear h0
    rcases read_cases s (by omega) with ⟨g5, hr5, hw5⟩ | hr5
    · have HR5 := Lib.hid hr5
      have HW5 := Lib.hid hw5
      clear hr5 hw5
      go_wp2_with fail
      refine (read_is s _ HR5.out _ (HLV.out.below HB2.out) (by omega)).mono ?_
      rintro e w5 ⟨v5, rfl, hs5, hb5⟩
      obtain ⟨A5, k5, rfl, _, _⟩ := hs5.open_
      have hg5 : GridAt w5 w5.heap.size (.agg #[.int .i64 g5.W, .int .i64 g5.H, .int .i64 g5.S, .slice A5 g5.ss.length k5]) g5 := ⟨_, rfl, hs5⟩
      have HG5 := Lib.hid hg5
      have HB5 := Lib.hid (HB2.out.trans (hb5.mono HB2.out.size))
      have hbW5 : Below w5.heap.size w5 (w5.alloc (.cells #[.int .i64 g5.W, .int .i64 g5.H, .int .i64 g5.S, .slice A5 g5.ss.length k5] 24)) := (by repeat (first | exact Below.refl _ _ | assumption | refine Below.drew ?_ | refine Below.drewN' ?_ _ | (refine Below.alloc ?_ (by simp <;> omega) _) | (refine Below.setCell ?_ (by simp <;> omega) _)))
      have HV5 := Lib.hid hbW5
      clear hs5 hg5 hb5 hbW5
      go_wp2_with fail
      refine (write_is _ g5 _ HW5.out _ (HG5.out.later HV5.out (Nat.le_refl _)) (HLV.out.below (HB5.out.trans (HV5.out.mono HB5.out.size)))).mono ?_
      rintro e w6 ⟨rfl, hb6⟩
      have HB6 := Lib.hid (HB5.out.trans ((HV5.out.trans (hb6.mono (by simp))).mono HB5.out.size))
      clear hb6
      have hs1 : ((bs s).toList == (bs s).toList) = true := by simp
      go_wp2_with fail
      refine (works_any _ (HLV.out.below HB6.out)).mono ?_
      rintro e w7 ⟨rfl, hb7⟩
      have HB7 := Lib.hid (HB6.out.trans (hb7.mono HB6.out.size))
      clear hb7
      go_wp2
      go_ret
      exact ⟨rfl, HB7.out⟩
    · have HR5 := Lib.hid hr5
      clear hr5
      go_wp2_with fail
      refine (read_is s _ HR5.out _ (HLV.out.below HB2.out) (by omega)).mono ?_
      rintro e w5 ⟨v5, rfl, hs5, hb5⟩
      obtain ⟨A5, k5, rfl, _, _⟩ := hs5.open_
      have HB5 := Lib.hid (HB2.out.trans (hb5.mono HB2.out.size))
      have hbW5 : Below w5.heap.size w5 (w5.alloc (.cells #[.int .i64 zeroG.W, .int .i64 zeroG.H, .int .i64 zeroG.S, .slice A5 zeroG.ss.length k5] 24)) := (by repeat (first | exact Below.refl _ _ | assumption | refine Below.drew ?_ | refine Below.drewN' ?_ _ | (refine Below.alloc ?_ (by simp <;> omega) _) | (refine Below.setCell ?_ (by simp <;> omega) _)))
      have HV5 := Lib.hid hbW5
      clear hs5 hb5 hbW5
      go_wp2_with fail
      refine (works_any _ (HLV.out.below (HB5.out.trans (HV5.out.mono HB5.out.size)))).mono ?_
      rintro e w7 ⟨rfl, hb7⟩
      have HB7 := Lib.hid (HB5.out.trans ((HV5.out.trans (hb7.mono (by simp))).mono HB5.out.size))
      clear hb7
      go_wp2
      go_ret
      exact ⟨rfl, HB7.out⟩
end Go.Proofs.YthcenmocnphnmaaGreatDoor
/-
  GridBack: for whatever grid and whatever string, the law returns true and its arguments read as they did (no condition).
-/
namespace Go.Proofs.YthcenmocnphnmaaGreatDoor
open Go.ChangeShapes Go.WideShapes Go.ChangeAt Go.WideMaps Go.WideElems Go.RowKit Go.Shelf

namespace GridBack
theorem laid_out : laidOutB Tryz.prog = true := by kernel_rfl
set_option maxRecDepth 100000 in
theorem lifted (os : Os) (started : os.Started) (H : Type) (enc : TypeId × Value → H) :
    ReturnsInHanded {} Tryz.checked os 12 .any (fun w args => (Rows.gridBackSpec.pre enc Tryz.prog Tryz.f12 [] false w args ∧ laidMetH Tryz.prog laidL w) ∧ sizedMet enc Tryz.prog Tryz.f12 (OpenSpec.ofChange Rows.gridBackSpec) false w args)
      (Rows.gridBackSpec.post enc Tryz.prog Tryz.f12 false true false false) := by
  refine ret_shaped (s := Rows.gridBackSpec) (conds := []) started (by kernel_rfl) Tryz.func12 #[.agg #[.int .i64 0, .int .i64 0, .int .i64 0, .slice none 0 0], .string ⟨#[]⟩] (by kernel_rfl) (by kernel_rfl) (by kernel_rfl) ?_
  intro W base args ds gs before hval0 hW hlv
  have hval : ∀ (j : Nat) t v, Tryz.f12.params[j]? = some t → args[j]? = some v → Value.okWide Tryz.prog W .any base t v := hval0
  have hW' := hW
  obtain ⟨p, q, hA0, hV, rfl, _, _⟩ := hW
  have hA : DataW.TrodAll enc Tryz.prog W 0 (fun _ => true) true Tryz.f12.params.toList args.toList ds p := hA0
  rw [Tryz.params12] at hA hval
  obtain ⟨v0, v1, d0, d1, p0, p1, rfl, rfl, rfl, h0, h1⟩ := trodAll_two hA
  obtain ⟨rfl, rfl⟩ := trodVars_none hV
  obtain ⟨g0, hg0⟩ := grid_open (hval 0 24 v0 rfl rfl) h0
  obtain ⟨s1, rfl⟩ := str_open (hval 1 9 v1 rfl rfl) h1
  clear hA0 hval0 hA
  simp only [List.append_nil] at hW'
  have hlt : ∀ x ∈ p0 ++ p1, x.block < W.heap.size := fun x hx => by simpa using hW'.lt x hx
  have k0 : ∀ x ∈ p0, x.block < W.heap.size := fun x hx => hlt x (by simp [hx])
  have k1 : ∀ x ∈ p1, x.block < W.heap.size := fun x hx => hlt x (by simp [hx])
  refine (GridBack_any v0 g0 s1 W hg0 hlv).mono ?_
  rintro e W' ⟨rfl, bel⟩
  refine ⟨_, rfl, _, _, _, [], (p0 ++ p1), [], hW', ?_, ?_, ?_, bel.frame _, fun h => by cases h⟩
  · exact trodAll_mk1 (shut_bool Tryz.underlying4 true)
  · exact trodAll_mk2 (Below.trod laid_out (by kernel_rfl) (of_decide_eq_true (by kernel_rfl)) h0 bel k0) (Below.trod laid_out (by kernel_rfl) (of_decide_eq_true (by kernel_rfl)) h1 bel k1)
  · rfl
set_option maxRecDepth 100000 in
theorem bare : Rows.GridBackSaid :=
  OpenClaim.holds_of_wide 12 Tryz.f12 rfl rfl rfl rfl rfl rfl rfl ⟨rfl, rfl, rfl, rfl, rfl⟩ rfl rfl rfl rfl rfl (by kernel_rfl) Tryz.func12 (by kernel_rfl)
    (of_decide_eq_true (by kernel_rfl)) (by unfold Func.isWrapper; first | (rw [if_pos (by decide +kernel)]; kernel_rfl) | (rw [if_neg (by decide +kernel)]; exact ⟨rfl, rfl⟩))
    (fun os started H enc _ => lifted os started H enc)
end GridBack
set_option maxRecDepth 100000 in
theorem GridBack_card : Rows.GridBackCardSaid :=
  Claim7.holds_tied_plain_at .later [] [.data, .data, .data, .sentinel, .sentinel, .listed, .data] true _ true
    GridBack.bare (fun _ h => by cases h) (by kernel_rfl) (fun _ h => by cases h) gridBack_row_tie rfl ⟨rfl, rfl⟩ (by kernel_rfl) rfl
    (fun f fn hf hfn => by
      obtain rfl : f = 12 := Option.some.inj ((show Tryz.prog.funcNamed "tidewall/tidewalllaw01.GridBack" = some 12 by kernel_rfl).symm.trans hf) |>.symm
      obtain rfl : fn = Tryz.f12 := (Option.some.inj (Tryz.func12.symm.trans hfn)).symm
      exact ⟨by kernel_rfl, fun j t ht => by
        rw [Tryz.params12] at ht
        have hm : t ∈ [24, 9] := by simpa using Array.mem_of_getElem? ht
        have hall : ([24, 9].all fun u => !Tryz.prog.wantsStandIn u) = true := by kernel_rfl
        exact (show Tryz.prog.wantsStandIn t = false by simpa using List.all_eq_true.1 hall t hm)⟩)
    (by kernel_rfl)
#print axioms GridBack_card
end Go.Proofs.YthcenmocnphnmaaGreatDoor
