/-
  SpreadKnown: it returns true.
-/
import Derived.Test.YtbghajfpjjfjcaaK1
import Derived.Test.YtbghajfpjjfjcaaK2
import Derived.Test.YtbghajfpjjfjcaaK3
import Derived.Test.YtbghajfpjjfjcaaK4
import Derived.Test.YtbghajfpjjfjcaaK5
import Derived.Test.YtbghajfpjjfjcaaK6
import Derived.Test.YtbghajfpjjfjcaaK7
import Derived.Test.YtbghajfpjjfjcaaK8
import Derived.Test.YtbghajfpjjfjcaaK9
import Derived.Test.YtbghajfpjjfjcaaK10
set_option linter.unusedSimpArgs false
set_option linter.unusedVariables false
namespace Go.Proofs.Ytbghajfpjjfjcaa.En
open Go Go.Ev Go.Proofs Go.RowKit
theorem e9 (hw : p9.2.Wf) : Ev.Ends Try.prog env2 Try.f12 (dropC 16 body) p9.1 p9.2 (.bool true) := Ev.Ends.last env2_ok hw k10
theorem e8 (hw : p8.2.Wf) : Ev.Ends Try.prog env2 Try.f12 (dropC 15 body) p8.1 p8.2 (.bool true) :=
  Ev.Ends.cut env2_ok k9 (fun h => by
    have e : dropC 1 (dropC 15 body) = dropC 16 body := by kernel_rfl
    rw [e]; exact e9 h) hw
theorem e7 (hw : p7.2.Wf) : Ev.Ends Try.prog env2 Try.f12 (dropC 13 body) p7.1 p7.2 (.bool true) :=
  Ev.Ends.cut env2_ok k8 (fun h => by
    have e : dropC 2 (dropC 13 body) = dropC 15 body := by kernel_rfl
    rw [e]; exact e8 h) hw
theorem e6 (hw : p6.2.Wf) : Ev.Ends Try.prog env2 Try.f12 (dropC 11 body) p6.1 p6.2 (.bool true) :=
  Ev.Ends.cut env2_ok k7 (fun h => by
    have e : dropC 2 (dropC 11 body) = dropC 13 body := by kernel_rfl
    rw [e]; exact e7 h) hw
theorem e5 (hw : p5.2.Wf) : Ev.Ends Try.prog env2 Try.f12 (dropC 10 body) p5.1 p5.2 (.bool true) :=
  Ev.Ends.cut env2_ok k6 (fun h => by
    have e : dropC 1 (dropC 10 body) = dropC 11 body := by kernel_rfl
    rw [e]; exact e6 h) hw
theorem e4 (hw : p4.2.Wf) : Ev.Ends Try.prog env2 Try.f12 (dropC 9 body) p4.1 p4.2 (.bool true) :=
  Ev.Ends.cut env2_ok k5 (fun h => by
    have e : dropC 1 (dropC 9 body) = dropC 10 body := by kernel_rfl
    rw [e]; exact e5 h) hw
theorem e3 (hw : p3.2.Wf) : Ev.Ends Try.prog env2 Try.f12 (dropC 7 body) p3.1 p3.2 (.bool true) :=
  Ev.Ends.cut env2_ok k4 (fun h => by
    have e : dropC 2 (dropC 7 body) = dropC 9 body := by kernel_rfl
    rw [e]; exact e4 h) hw
theorem e2 (hw : p2.2.Wf) : Ev.Ends Try.prog env2 Try.f12 (dropC 6 body) p2.1 p2.2 (.bool true) :=
  Ev.Ends.cut env2_ok k3 (fun h => by
    have e : dropC 1 (dropC 6 body) = dropC 7 body := by kernel_rfl
    rw [e]; exact e3 h) hw
theorem e1 (hw : p1.2.Wf) : Ev.Ends Try.prog env2 Try.f12 (dropC 4 body) p1.1 p1.2 (.bool true) :=
  Ev.Ends.cut env2_ok k2 (fun h => by
    have e : dropC 2 (dropC 4 body) = dropC 6 body := by kernel_rfl
    rw [e]; exact e2 h) hw
theorem e0 (hw : p0.2.Wf) : Ev.Ends Try.prog env2 Try.f12 (dropC 0 body) p0.1 p0.2 (.bool true) :=
  Ev.Ends.cut env2_ok k1 (fun h => by
    have e : dropC 4 (dropC 0 body) = dropC 4 body := by kernel_rfl
    rw [e]; exact e1 h) hw
theorem start_wf : Ev.start.Wf := ⟨Nat.le_refl _, fun id _ => by
  simp only [Ev.start, St.raw, PT.get_nil]
  cases Nat.blt id hmax <;> rfl⟩
theorem SpreadKnown_any (w : World) : Calls Try.prog 12 #[] w (fun en w' => en = .returned (.bool true) ∧ Below w.heap.size w w') :=
  Ev.Ends.calls env2_ok (c := body) (fun _ _ hr => hr.bool_inv) (by kernel_rfl) (by kernel_rfl) (of_decide_eq_true (by kernel_rfl)) (e0 start_wf) w
end Go.Proofs.Ytbghajfpjjfjcaa.En
