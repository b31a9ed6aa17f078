/-
  Layer 3, the laws: SurgeExceeds.
-/
import Derived.Test.YtdhcdgfpkjdihaaDoorYL3a
import Derived.Test.YtdhcdgfpkjdihaaDoorYR3d
set_option linter.unusedSimpArgs false
set_option linter.unusedVariables false
namespace Go.Proofs.YtdhcdgfpkjdihaaDoor.Sg
open Go.RowKit Go.Shelf
set_option maxRecDepth 100000 in
set_option maxHeartbeats 2000000 in
theorem SurgeExceeds_any (A : Option Addr) (c : Nat) (l : List (Int × Int)) (n : Int) (w : World) (HD : DirsAt w) (hs : SpansAt w w.heap.size (.slice A l.length c) l) (hc : l.length ≤ c) (hm : l.length ≤ 9223372036854775807) :
 Calls Tryd.prog 7 #[.slice A l.length c, .int .i64 n] w fun e w' => e = .returned (.bool true) ∧ Below w.heap.size w w' := by
 by_cases hl5 : (500 : Int) < (l.length : Int)
 ·
  have HDR := Lib.hid HD
  have HS := Lib.hid hs
  clear HD hs
  have HB := Lib.hid (Below.refl w.heap.size w)
  go_enter Tryd.func7, Tryd.ntmps7
  go_wp2_with fail
  refine (works_any _ (HDR.out.later HB.out)).mono ?_
  rintro e Va1 ⟨rfl, hb⟩
  have HBZ := Lib.hid (HB.out.trans (hb.mono HB.out.size))
  clear hb
  go_wp2
  go_ret
  exact ⟨rfl, HBZ.out⟩
 ·
  have HDR := Lib.hid HD
  have HS := Lib.hid hs
  clear HD hs
  have hl6 : l.length ≤ 1000 := by omega
  have HL6 := Lib.hid hl6
  obtain ⟨ra, hra⟩ : ∃ z, excA l n = z := ⟨_, rfl⟩
  obtain ⟨rb, hrb⟩ : ∃ z, excB l n = z := ⟨_, rfl⟩
  obtain ⟨re, hre⟩ : ∃ z, excE l = z := ⟨_, rfl⟩
  have HRA := Lib.hid hra
  have HRB := Lib.hid hrb
  have HRE := Lib.hid hre
  clear hra hrb hre hl6
  have HB := Lib.hid (Below.refl w.heap.size w)
  go_enter Tryd.func7, Tryd.ntmps7
  go_wp2_with fail
  refine (Exceeds_any _ l n _ (HS.out.later HB.out (Nat.le_refl _))).mono ?_
  rintro e Va51 ⟨rfl, hb⟩
  have HZ := Lib.hid hb
  clear hb
  rw [HRA.out, HRB.out, HRE.out]
  have GHB := Lib.hid (HB.out.trans (HZ.out.mono HB.out.size))
  clear HB HZ
  have HB := GHB
  clear GHB
  go_wp2_with fail
  refine (rExceeds_any _ l n _ (HS.out.later HB.out (Nat.le_refl _)) HL6.out).mono ?_
  rintro e Va52 ⟨rfl, hb⟩
  have HZ := Lib.hid hb
  clear hb
  rw [HRA.out, HRB.out, HRE.out]
  have GHB := Lib.hid (HB.out.trans (HZ.out.mono HB.out.size))
  clear HB HZ
  have HB := GHB
  clear GHB
  go_wp2_with fail
  refine (works_any _ (HDR.out.later HB.out)).mono ?_
  rintro e Va53 ⟨rfl, hb⟩
  have HBZ := Lib.hid (HB.out.trans (hb.mono HB.out.size))
  clear hb
  go_wp2
  go_ret
  exact ⟨rfl, HBZ.out⟩
end Go.Proofs.YtdhcdgfpkjdihaaDoor.Sg
