/-
  Layer 3, the laws: what SurgeKnown's examples come to.
-/
import Derived.Test.YtdhcdgfpkjdihaaDoorYL3a
import Derived.Test.YtdhcdgfpkjdihaaDoorYP3o
import Derived.Test.YtdhcdgfpkjdihaaDoorYP3p
import Derived.Test.YtdhcdgfpkjdihaaDoorYP3r
set_option linter.unusedSimpArgs false
set_option linter.unusedVariables false
namespace Go.Proofs.YtdhcdgfpkjdihaaDoor.Sg
open Go.RowKit Go.Shelf
abbrev exG : G := ⟨4, 1, 1000, [(-1000, -1000), (-1000, -1000), (-500, -500), (200, 200)]⟩
abbrev exM : Mo := ⟨(3000, 3000), (512, 512)⟩
theorem kn_fetch : fetchE exG (0, 0) 2 4 = 0 ∧ fetchVS exG (0, 0) 2 4 = [1, 0] ∧ fetchVM exG (0, 0) 2 4 = [1, 0] := by decide +kernel
theorem kn_none : fetchE exG (0, 0) 2 0 = 0 ∧ fetchVS exG (0, 0) 2 0 = [] ∧ fetchVM exG (0, 0) 2 0 = [] := by decide +kernel
theorem kn_setup : setupE exG (0, 0) exM 2 0 (2000, 2000) = 0 ∧ setupV exG (0, 0) exM 2 0 (2000, 2000) = (626, 628) := by decide +kernel
theorem kn_setup2 : setupE exG (0, 0) exM 3 0 (2000, 2000) = 0 ∧ setupV exG (0, 0) exM 3 0 (2000, 2000) = (1252, 1255) := by decide +kernel
theorem kn_steady : steadyE exG (0, 0) exM 2 ⟨(2000, 2000), 1, (1000, 1000)⟩ = 0 ∧ steadyV exG (0, 0) exM 2 ⟨(2000, 2000), 1, (1000, 1000)⟩ = (3235, 3238) := by decide +kernel
theorem kn_steady2 : steadyE exG (0, 0) exM 2 ⟨(2000, 2000), 17, (0, 0)⟩ = 0 ∧ steadyV exG (0, 0) exM 2 ⟨(2000, 2000), 17, (0, 0)⟩ = (-628, 628) := by decide +kernel
theorem kn_cm : cmE (469, 471) = 0 ∧ cmV (469, 471) = (1, 2) ∧ cmE (-1, 256) = 0 ∧ cmV (-1, 256) = (-1, 1) := by decide +kernel
theorem kn_exc : excE [(313, 314), (469, 471)] = 0 ∧ excA [(313, 314), (469, 471)] 313 = 0 ∧ excB [(313, 314), (469, 471)] 313 = 1 ∧ excA [(313, 314), (469, 471)] 471 = -1 ∧ excB [(313, 314), (469, 471)] 471 = -1 := by decide +kernel
theorem kn_dirs : dirsE (5, 5) (2, 2) = 0 ∧ dirsV (5, 5) (2, 2) = 1 ∧ dirsE (12, 12) (5, 5) = 0 ∧ dirsV (12, 12) (5, 5) = 3 ∧ dirsE (-1, 1) (2, 2) = 0 ∧ dirsV (-1, 1) (2, 2) = 14 ∧ dirsE (-1, 1) (-1, 1) = 0 ∧ dirsV (-1, 1) (-1, 1) = 255 := by decide +kernel
abbrev exW : So := ⟨(-1000, 1000), (-3000, -3000), 2000, (4000, 4000), (5000, 5000)⟩
abbrev exN : So := ⟨(0, 0), (-1000, -1000), 2000, (4000, 4000), (5000, 5000)⟩
theorem kn_root : rtZ 9000000 = 3000 := rt_of (by omega) (by omega) (by omega)
theorem kn_root2 : rtZ 10000000 = 3162 := rt_of (by omega) (by omega) (by omega)
theorem kn_root3 : rtZ 1000000 = 1000 := rt_of (by omega) (by omega) (by omega)
theorem kn_farsW : farsZ exG exW 0 = (3000, 3163) := by
 have e : farsZ exG exW 0 = (rtZ 9000000, ruZ 10000000) := by rfl
 rw [e]
 unfold ruZ
 rw [kn_root, kn_root2]
 rfl
theorem kn_farsN : farsZ exG exN 0 = (1000, 1000) := by
 have e : farsZ exG exN 0 = (rtZ 1000000, ruZ 1000000) := by rfl
 rw [e]
 unfold ruZ
 rw [kn_root3]
 rfl
theorem kn_blowW : blowE exG exW 0 = 0 ∧ blowV exG exW 0 = ⟨(2529, 2667), 16, (0, 5000)⟩ := by
 have h0 : blowE exG exW 0 = 0 := by decide +kernel
 refine ⟨h0, ?_⟩
 unfold blowV
 rw [h0, if_pos rfl]
 unfold blowZ
 rw [kn_farsW]
 decide +kernel
theorem kn_blowN : blowE exG exN 0 = 0 ∧ blowV exG exN 0 = ⟨(2000, 2000), 16, (5000, 5000)⟩ := by
 have h0 : blowE exG exN 0 = 0 := by decide +kernel
 refine ⟨h0, ?_⟩
 unfold blowV
 rw [h0, if_pos rfl]
 unfold blowZ
 rw [kn_farsN]
 decide +kernel
end Go.Proofs.YtdhcdgfpkjdihaaDoor.Sg
