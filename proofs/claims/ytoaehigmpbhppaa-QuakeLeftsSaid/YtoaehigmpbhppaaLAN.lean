import Derived.Test.YtoaehigmpbhppaaLAJ
import Derived.Test.YtoaehigmpbhppaaLAL
import Derived.Test.YtoaehigmpbhppaaLAL
import Derived.Test.YtoaehigmpbhppaaLAL
import Derived.Test.YtoaehigmpbhppaaLAL
import Derived.Test.YtoaehigmpbhppaaLAM
import Derived.Test.YtoaehigmpbhppaaLAH
import Derived.ProofKit
import Derived.OpenShut
import Derived.Carry
import Derived.Deep.SlicePairs
import Derived.Deep.Strs
import Derived.Laws.IdiomArrays
import Derived.Test.YtoaehigmpbhppaaLAI
/-
  Texts of the bench, merged.
-/
set_option linter.unusedSimpArgs false
set_option linter.unusedVariables false
namespace Go.Proofs.Ytoaehigmpbhppaa.En
open Go Go.Ev Go.Proofs Go.RowKit
set_option maxRecDepth 1000000
noncomputable section
def f5b0 : Code := (Try.f5.body).getD .skip
def f5F0 : Fr := mkFr Try.f5 [(0, (ag 0 8)), (1, (sy 8)), (2, (sy 9)), (3, (sy 10)), (4, (sy 11))] []
def f5S1 : St := mkSt 0 []
theorem f5I2 : IdOk 12 0 0 f5F0 f5S1 := ⟨mkSt_wf rfl, by kernel_rfl⟩
def f5n3 : List Ent := ⟨(.bi 0 [38]), [(sy 9)], (sy 13)⟩ :: cB .leq (sy 12) (iV 70) true :: ⟨(.bi 0 [37]), [(sy 8)], (sy 12)⟩ :: []
def f5n4 : List Ent := ⟨(.bi 0 [46]), [(sy 10)], (sy 14)⟩ :: cB .leq (sy 13) (iV 300) true :: f5n3
def f5n5 : List Ent := aB .mul (sy 13) (sy 14) (sy 15) :: cB .leq (sy 14) (iV 70) true :: f5n4
def f5n6 : List Ent := cB .leq (sy 15) (iV 3000) true :: f5n5
def f5n7 : List CLEnt := ⟨28, [(ag 0 8), (sy 8), (sy 9), (ls 2 18), (sy 11)], [(2, .lst 1 116 6)], 3, 2, 54, 5, 19, (.tuple #[(ls 3 19), (sy 20)])⟩ :: ⟨29, [(sy 10)], [], 2, 1, 116, 6, 18, (ls 2 18)⟩ :: ⟨27, [(ag 0 8), (sy 8), (sy 9), (sy 10), (sy 11)], [], 1, 0, 54, 5, 16, (.tuple #[(ls 1 16), (sy 17)])⟩ :: []
def f5n8 : List CEnt := ⟨23, [(ls 1 16), (ls 3 19)], [(1, .lst 0 54 5), (3, .lst 2 54 5)], (.bool true)⟩ :: []
def f5n9 : List Ent := ⟨(.bin .eql 27), [(sy 17), (sy 20)], (.bool true)⟩ :: f5n6
def f5n10 : List Ent := ⟨(.bin .eql 27), [(sy 17), (sy 20)], (.bool false)⟩ :: f5n6
def f5n11 : List Ent := cB .leq (sy 15) (iV 3000) false :: f5n5
def f5n12 : List Ent := cB .leq (sy 14) (iV 70) false :: f5n4
def f5n13 : List Ent := cB .leq (sy 13) (iV 300) false :: f5n3
def f5n14 : List Ent := cB .leq (sy 12) (iV 70) false :: ⟨(.bi 0 [37]), [(sy 8)], (sy 12)⟩ :: []
theorem f5a0 : agreeL (ids 12) [] [] f5F0 f5S1 (frameOf Try.f5 [(ag 0 8), (sy 8), (sy 9), (sy 10), (sy 11)]) Ev.start = true := by kernel_rfl
theorem f5r0 : evL Try.prog env2 f5n9 f5n8 [] f5n7 f5b0 f5F0 f5S1 Try.f5 (endV (.bool true)) = some () := by kernel_rfl
theorem f5r1 : evL Try.prog env2 f5n10 f5n8 [] f5n7 f5b0 f5F0 f5S1 Try.f5 (endV (.bool false)) = some () := by kernel_rfl
theorem f5r2 : evL Try.prog env2 f5n11 [] [] [] f5b0 f5F0 f5S1 Try.f5 (endV (.bool true)) = some () := by kernel_rfl
theorem f5r3 : evL Try.prog env2 f5n12 [] [] [] f5b0 f5F0 f5S1 Try.f5 (endV (.bool true)) = some () := by kernel_rfl
theorem f5r4 : evL Try.prog env2 f5n13 [] [] [] f5b0 f5F0 f5S1 Try.f5 (endV (.bool true)) = some () := by kernel_rfl
theorem f5r5 : evL Try.prog env2 f5n14 [] [] [] f5b0 f5F0 f5S1 Try.f5 (endV (.bool true)) = some () := by kernel_rfl
set_option maxHeartbeats 8000000 in
theorem lawLefts_any (x0 : Int) (x1 : Int) (x2 : Int) (x3 : Int) (x4 : Int) (x5 : Int) (x6 : Int) (x7 : Int) (ast : Option Addr) (st : List Int) (qst : Nat) (aso : Option Addr) (so : List Src) (qso : Nat) (ap : Option Addr) (p : List Pk) (qp : Nat) (f : Int) (w0 : World) {tst : TypeId} (Hst : Lies w0 tst (flat intC st) ast st.length) {tso : TypeId} (Hso : Lies w0 tso (flat srcC so) aso so.length) {tp : TypeId} (Hp : Lies w0 tp (flat pkC p) ap p.length) (hn1 : st.length < 9223372036854775808) (hn2 : so.length < 9223372036854775808) (hn3 : p.length < 9223372036854775808) : Calls Try.prog 5 #[(mV x0 x1 x2 x3 x4 x5 x6 x7), (.slice ast st.length qst), (.slice aso so.length qso), (.slice ap p.length qp), (iV f)] w0 (fun en w' => en = .returned (.bool true) ∧ Below w0.heap.size w0 w') := by
  let vb : List Value := [(iV x0), (iV x1), (iV x2), (iV x3), (iV x4), (iV x5), (iV x6), (iV x7), (.slice ast st.length qst), (.slice aso so.length qso), (.slice ap p.length qp), (iV f)]
  let p0 : Rho := (RO w0 vb [])
  refine At.begin (ρ := p0) (c := f5b0) (@env2_ok p0) f5I2 f5a0 (fun a w hat => ?_)
  have K0 : KA w0 (.bi 0 [37]) [(.slice ast st.length qst)] (iV (((st.length : Nat) : Int))) := fun w hm => k_len Try.underlying37
  by_cases c0 : ((st.length : Nat) : Int) ≤ 70
  · have K1 : KA w0 (.bi 0 [38]) [(.slice aso so.length qso)] (iV (((so.length : Nat) : Int))) := fun w hm => k_len Try.underlying38
    by_cases c1 : ((so.length : Nat) : Int) ≤ 300
    · have K2 : KA w0 (.bi 0 [46]) [(.slice ap p.length qp)] (iV (((p.length : Nat) : Int))) := fun w hm => k_len Try.underlying46
      by_cases c2 : ((p.length : Nat) : Int) ≤ 70
      · have K3 : KA w0 (.bin .mul 3) [(iV (((so.length : Nat) : Int))), (iV (((p.length : Nat) : Int)))] (iV ((((so.length : Nat) : Int) * ((p.length : Nat) : Int)))) := fun w hm => k_mul (wrap64 (by have := mul_bd (a := ((so.length : Nat) : Int)) (b := ((p.length : Nat) : Int)) (A := 300) (B := 70) (C := 21000) (by omega) (by omega) (by omega) (by omega); omega))
        by_cases c3 : (((so.length : Nat) : Int) * ((p.length : Nat) : Int)) ≤ 3000
        · by_cases c4 : (leftErr x0 x1 x2 x3 x4 x5 x6 x7 st so p f) = (leftErr x0 x1 x2 x3 x4 x5 x6 x7 st so p f)
          · have K4 : KA w0 (.bin .eql 27) [(iV ((leftErr x0 x1 x2 x3 x4 x5 x6 x7 st so p f))), (iV ((leftErr x0 x1 x2 x3 x4 x5 x6 x7 st so p f)))] (.bool true) := fun w hm => k_eql_t c4
            let r0 : Rho := (RO w0 (vb ++ [(iV (((st.length : Nat) : Int))), (iV (((so.length : Nat) : Int))), (iV (((p.length : Nat) : Int))), (iV ((((so.length : Nat) : Int) * ((p.length : Nat) : Int)))), (iV ((((leftL x0 x1 x2 x3 x4 x5 x6 x7 st so p f).length : Nat) : Int))), (iV ((leftErr x0 x1 x2 x3 x4 x5 x6 x7 st so p f))), (iV ((((p).length : Nat) : Int))), (iV ((((refL x0 x1 x2 x3 x4 x5 x6 x7 st so p f).length : Nat) : Int))), (iV ((leftErr x0 x1 x2 x3 x4 x5 x6 x7 st so p f)))]) [(flat srcC (leftL x0 x1 x2 x3 x4 x5 x6 x7 st so p f)), (flat pkC p), (flat srcC (refL x0 x1 x2 x3 x4 x5 x6 x7 st so p f))])
            refine At.lastsV (ρ1 := r0) f5r0 (@env2_ok r0) ⟨enk K4, enk (kleqt c3), enk K3, enk (kleqt c2), enk K2, enk (kleqt c1), enk K1, enk (kleqt c0), enk K0, trivial⟩ ⟨(@CEntOk.lists r0 Try.prog _ 23 [(ls 1 16), (ls 3 19)] [(1, .lst 0 54 5), (3, .lst 2 54 5)] (.bool true) (.bool true) rfl ⟨Try.f23, (Try.f23.body).getD .skip, by kernel_rfl, by kernel_rfl⟩ rfl rfl (fun w asg hm hl => sameEq2_any (asg 0).1 (leftL x0 x1 x2 x3 x4 x5 x6 x7 st so p f) (asg 0).2 (asg 1).1 (refL x0 x1 x2 x3 x4 x5 x6 x7 st so p f) (asg 1).2 w (hl.1) (hl.2.1) leftL_ref (by have := leftL_len (x0 := x0) (x1 := x1) (x2 := x2) (x3 := x3) (x4 := x4) (x5 := x5) (x6 := x6) (x7 := x7) (st := st) (so := so) (p := p) (f := f); omega))), trivial⟩ trivial ⟨(@CLEntOk.lists r0 Try.prog _ 28 [(ag 0 8), (sy 8), (sy 9), (ls 2 18), (sy 11)] [(2, .lst 1 116 6)] 3 2 54 5 19 (refL x0 x1 x2 x3 x4 x5 x6 x7 st so p f).length (.tuple #[(ls 3 19), (sy 20)]) (some [(sy 20)]) rfl ⟨Try.f28, (Try.f28.body).getD .skip, by kernel_rfl, by kernel_rfl⟩ rfl rfl (fun w asg hm hl => rLeft_any x0 x1 x2 x3 x4 x5 x6 x7 ast st qst aso so qso (asg 3).1 p (asg 3).2 f w (Hst.keep hm) (Hso.keep hm) (hl.2.2.2.1) (by omega) (by omega) (by omega))), (@CLEntOk.lists r0 Try.prog _ 29 [(sy 10)] [] 2 1 116 6 18 (p).length (ls 2 18) none rfl ⟨Try.f29, (Try.f29.body).getD .skip, by kernel_rfl, by kernel_rfl⟩ rfl rfl (fun w asg hm hl => refPicks_any ap p qp w (Hp.keep hm) (by omega))), (@CLEntOk.lists r0 Try.prog _ 27 [(ag 0 8), (sy 8), (sy 9), (sy 10), (sy 11)] [] 1 0 54 5 16 (leftL x0 x1 x2 x3 x4 x5 x6 x7 st so p f).length (.tuple #[(ls 1 16), (sy 17)]) (some [(sy 17)]) rfl ⟨Try.f27, (Try.f27.body).getD .skip, by kernel_rfl, by kernel_rfl⟩ rfl rfl (fun w asg hm hl => Left_any x0 x1 x2 x3 x4 x5 x6 x7 ast st qst aso so qso ap p qp f w (Hst.keep hm) (Hso.keep hm) (Hp.keep hm) (by omega) (by omega) (by omega))), trivial⟩ f5I2 hat (fun w2 hb => ?_)
            have v0 : (true : Bool) = true := by
              first | rfl | (exfalso; first | omega | (simp_all; done))
            have hv := congrArg (fun (y0 : Bool) => ((.bool y0) : Value)) v0
            exact ⟨congrArg Ending.returned hv, hb⟩
          have K5 : KA w0 (.bin .eql 27) [(iV ((leftErr x0 x1 x2 x3 x4 x5 x6 x7 st so p f))), (iV ((leftErr x0 x1 x2 x3 x4 x5 x6 x7 st so p f)))] (.bool false) := fun w hm => k_eql_f c4
          let r1 : Rho := (RO w0 (vb ++ [(iV (((st.length : Nat) : Int))), (iV (((so.length : Nat) : Int))), (iV (((p.length : Nat) : Int))), (iV ((((so.length : Nat) : Int) * ((p.length : Nat) : Int)))), (iV ((((leftL x0 x1 x2 x3 x4 x5 x6 x7 st so p f).length : Nat) : Int))), (iV ((leftErr x0 x1 x2 x3 x4 x5 x6 x7 st so p f))), (iV ((((p).length : Nat) : Int))), (iV ((((refL x0 x1 x2 x3 x4 x5 x6 x7 st so p f).length : Nat) : Int))), (iV ((leftErr x0 x1 x2 x3 x4 x5 x6 x7 st so p f)))]) [(flat srcC (leftL x0 x1 x2 x3 x4 x5 x6 x7 st so p f)), (flat pkC p), (flat srcC (refL x0 x1 x2 x3 x4 x5 x6 x7 st so p f))])
          refine At.lastsV (ρ1 := r1) f5r1 (@env2_ok r1) ⟨enk K5, enk (kleqt c3), enk K3, enk (kleqt c2), enk K2, enk (kleqt c1), enk K1, enk (kleqt c0), enk K0, trivial⟩ ⟨(@CEntOk.lists r1 Try.prog _ 23 [(ls 1 16), (ls 3 19)] [(1, .lst 0 54 5), (3, .lst 2 54 5)] (.bool true) (.bool true) rfl ⟨Try.f23, (Try.f23.body).getD .skip, by kernel_rfl, by kernel_rfl⟩ rfl rfl (fun w asg hm hl => sameEq2_any (asg 0).1 (leftL x0 x1 x2 x3 x4 x5 x6 x7 st so p f) (asg 0).2 (asg 1).1 (refL x0 x1 x2 x3 x4 x5 x6 x7 st so p f) (asg 1).2 w (hl.1) (hl.2.1) leftL_ref (by have := leftL_len (x0 := x0) (x1 := x1) (x2 := x2) (x3 := x3) (x4 := x4) (x5 := x5) (x6 := x6) (x7 := x7) (st := st) (so := so) (p := p) (f := f); omega))), trivial⟩ trivial ⟨(@CLEntOk.lists r1 Try.prog _ 28 [(ag 0 8), (sy 8), (sy 9), (ls 2 18), (sy 11)] [(2, .lst 1 116 6)] 3 2 54 5 19 (refL x0 x1 x2 x3 x4 x5 x6 x7 st so p f).length (.tuple #[(ls 3 19), (sy 20)]) (some [(sy 20)]) rfl ⟨Try.f28, (Try.f28.body).getD .skip, by kernel_rfl, by kernel_rfl⟩ rfl rfl (fun w asg hm hl => rLeft_any x0 x1 x2 x3 x4 x5 x6 x7 ast st qst aso so qso (asg 3).1 p (asg 3).2 f w (Hst.keep hm) (Hso.keep hm) (hl.2.2.2.1) (by omega) (by omega) (by omega))), (@CLEntOk.lists r1 Try.prog _ 29 [(sy 10)] [] 2 1 116 6 18 (p).length (ls 2 18) none rfl ⟨Try.f29, (Try.f29.body).getD .skip, by kernel_rfl, by kernel_rfl⟩ rfl rfl (fun w asg hm hl => refPicks_any ap p qp w (Hp.keep hm) (by omega))), (@CLEntOk.lists r1 Try.prog _ 27 [(ag 0 8), (sy 8), (sy 9), (sy 10), (sy 11)] [] 1 0 54 5 16 (leftL x0 x1 x2 x3 x4 x5 x6 x7 st so p f).length (.tuple #[(ls 1 16), (sy 17)]) (some [(sy 17)]) rfl ⟨Try.f27, (Try.f27.body).getD .skip, by kernel_rfl, by kernel_rfl⟩ rfl rfl (fun w asg hm hl => Left_any x0 x1 x2 x3 x4 x5 x6 x7 ast st qst aso so qso ap p qp f w (Hst.keep hm) (Hso.keep hm) (Hp.keep hm) (by omega) (by omega) (by omega))), trivial⟩ f5I2 hat (fun w2 hb => ?_)
          have v0 : (false : Bool) = true := by
            first | rfl | (exfalso; first | omega | (simp_all; done))
          have hv := congrArg (fun (y0 : Bool) => ((.bool y0) : Value)) v0
          exact ⟨congrArg Ending.returned hv, hb⟩
        let r2 : Rho := (RO w0 (vb ++ [(iV (((st.length : Nat) : Int))), (iV (((so.length : Nat) : Int))), (iV (((p.length : Nat) : Int))), (iV ((((so.length : Nat) : Int) * ((p.length : Nat) : Int))))]) [])
        refine At.lastsV (ρ1 := r2) f5r2 (@env2_ok r2) ⟨enk (kleqf c3), enk K3, enk (kleqt c2), enk K2, enk (kleqt c1), enk K1, enk (kleqt c0), enk K0, trivial⟩ trivial trivial trivial f5I2 hat (fun w2 hb => ?_)
        have v0 : (true : Bool) = true := by
          first | rfl | (exfalso; first | omega | (simp_all; done))
        have hv := congrArg (fun (y0 : Bool) => ((.bool y0) : Value)) v0
        exact ⟨congrArg Ending.returned hv, hb⟩
      let r3 : Rho := (RO w0 (vb ++ [(iV (((st.length : Nat) : Int))), (iV (((so.length : Nat) : Int))), (iV (((p.length : Nat) : Int)))]) [])
      refine At.lastsV (ρ1 := r3) f5r3 (@env2_ok r3) ⟨enk (kleqf c2), enk K2, enk (kleqt c1), enk K1, enk (kleqt c0), enk K0, trivial⟩ trivial trivial trivial f5I2 hat (fun w2 hb => ?_)
      have v0 : (true : Bool) = true := by
        first | rfl | (exfalso; first | omega | (simp_all; done))
      have hv := congrArg (fun (y0 : Bool) => ((.bool y0) : Value)) v0
      exact ⟨congrArg Ending.returned hv, hb⟩
    let r4 : Rho := (RO w0 (vb ++ [(iV (((st.length : Nat) : Int))), (iV (((so.length : Nat) : Int)))]) [])
    refine At.lastsV (ρ1 := r4) f5r4 (@env2_ok r4) ⟨enk (kleqf c1), enk K1, enk (kleqt c0), enk K0, trivial⟩ trivial trivial trivial f5I2 hat (fun w2 hb => ?_)
    have v0 : (true : Bool) = true := by
      first | rfl | (exfalso; first | omega | (simp_all; done))
    have hv := congrArg (fun (y0 : Bool) => ((.bool y0) : Value)) v0
    exact ⟨congrArg Ending.returned hv, hb⟩
  let r5 : Rho := (RO w0 (vb ++ [(iV (((st.length : Nat) : Int)))]) [])
  refine At.lastsV (ρ1 := r5) f5r5 (@env2_ok r5) ⟨enk (kleqf c0), enk K0, trivial⟩ trivial trivial trivial f5I2 hat (fun w2 hb => ?_)
  have v0 : (true : Bool) = true := by
    first | rfl | (exfalso; first | omega | (simp_all; done))
  have hv := congrArg (fun (y0 : Bool) => ((.bool y0) : Value)) v0
  exact ⟨congrArg Ending.returned hv, hb⟩
end
end Go.Proofs.Ytoaehigmpbhppaa.En
namespace Go.Proofs.Ytoaehigmpbhppaa.En
open Go Go.Ev Go.Proofs Go.RowKit Go.ChangeShapes Go.WideShapes Go.ChangeAt Go.WideMaps Go.WideElems Go.Deep
instance : Inhabited Src := ⟨srcD⟩
theorem cell_block {W : World} {a : Addr} {u : Value} (h : W.cell? a = some u) : ∃ b off arr t fz, a = ⟨b, off, none⟩ ∧ W.heap[b]? = some (.cells arr t fz) ∧ arr[off]? = some u := by
  obtain ⟨b, off, sp⟩ := a
  unfold World.cell? at h
  split at h
  · rename_i arr t fz hb
    cases sp with
    | none => exact ⟨b, off, arr, t, fz, rfl, hb, by simpa using h⟩
    | some x => simp at h
  · cases h
theorem addr_add (b off q : Nat) : (⟨b, off, none⟩ : Addr).add q = ⟨b, off + q, none⟩ := by unfold Addr.add; split <;> simp_all
theorem addr_zero (a : Addr) : a.add 0 = a := by cases a; unfold Addr.add; split <;> simp_all
theorem src4 : ∃ f0 f1 f2 f3 : Field, Try.prog.underlying 54 = some (.struct #[f0, f1, f2, f3]) ∧ f0.type = 3 ∧ f1.type = 3 ∧ f2.type = 3 ∧ f3.type = 23 ∧ f0.offset = 0 ∧ f1.offset = 1 ∧ f2.offset = 2 ∧ f3.offset = 3 :=
  ⟨_, _, _, _, Try.underlying54, rfl, rfl, rfl, rfl, rfl, rfl, rfl, rfl⟩
set_option maxRecDepth 100000 in
theorem src_cells {H : Type} {enc : TypeId × Value → H} {W : World} {b0 : Nat} {sp : Nat → Bool} {held : Bool} {d : DataW H} {p : List MemPlace} {x0 x1 x2 x3 x4 : Value} {fuel : Nat} (hf : DataW.trod enc Try.prog W b0 sp held fuel 54 [x0, x1, x2, x3, x4] = some (d, p)) :
    ∃ z : Src, x0 = .int .i64 z.kind ∧ x1 = .int .i64 z.cell ∧ x2 = .int .i64 z.cls ∧ x3 = .int .i64 z.lo ∧ x4 = .int .i64 z.hi := by
  obtain ⟨f0, f1, f2, f3, hu, t0, t1, t2, t3, o0, o1, o2, o3⟩ := src4
  have c1 : Try.prog.cellsOf 3 = 1 := by kernel_rfl
  have c2 : Try.prog.cellsOf 23 = 2 := by kernel_rfl
  obtain ⟨xs, n, _, _, hl, hlen, hff⟩ := DataW.trod_struct hu hf
  match xs, hlen with
  | [y0, y1, y2, y3], _ =>
    have h0 := hff 0 f0 rfl
    have h1 := hff 1 f1 rfl
    have h2 := hff 2 f2 rfl
    have h3 := hff 3 f3 rfl
    simp only [t0, t1, t2, t3, o0, o1, o2, o3, c1, c2, List.getElem_cons_zero, List.getElem_cons_succ] at h0 h1 h2 h3
    obtain ⟨z0, e0, _⟩ := DataW.trod_int Try.underlying3 h0
    obtain ⟨z1, e1, _⟩ := DataW.trod_int Try.underlying3 h1
    obtain ⟨z2, e2, _⟩ := DataW.trod_int Try.underlying3 h2
    obtain ⟨u0, u1, m3, _, _, q3, q4⟩ := trod_struct2 Try.underlying23 h3
    simp only [c1] at q3 q4
    obtain ⟨z3, e3, _⟩ := DataW.trod_int Try.underlying3 q3
    obtain ⟨z4, e4, _⟩ := DataW.trod_int Try.underlying3 q4
    injection e0 with e0
    injection e1 with e1
    injection e2 with e2
    injection e3 with e3
    injection e4 with e4
    subst e0 e1 e2 e3 e4
    exact ⟨⟨z0, z1, z2, z3, z4⟩, rfl, rfl, rfl, rfl, rfl⟩
set_option maxRecDepth 100000 in
theorem srcs_open {H : Type} {enc : TypeId × Value → H} {W : World} {base : Nat} {sp : Nat → Bool} {held : Bool} {v : Value} {d : DataW H} {p : List MemPlace} (hval : Value.okWide Try.prog W .any base 38 v) (h : DataW.Trod enc Try.prog W 0 sp held 38 v d p) :
    ∃ a q t, ∃ l : List Src, v = .slice a l.length q ∧ Lies W t (flat srcC l) a l.length ∧ l.length < 9223372036854775808 := by
  have ce : Try.prog.cellsOf 54 = 5 := by kernel_rfl
  obtain ⟨a0, n0, c0, rfl⟩ := okWide_slice Try.underlying38 hval
  obtain ⟨fuel, hf⟩ := h
  rcases open_slice Try.underlying38 hf with ⟨hc, _⟩ | ⟨a, len, cap, m, n, D, Pl, hc, _, hl, hm, hmm, _, hall⟩
  · simp [Value.cells] at hc
    obtain ⟨rfl, rfl, rfl⟩ := hc
    exact ⟨none, 0, 0, [], rfl, .inl rfl, by decide⟩
  · simp [Value.cells] at hc
    obtain ⟨rfl, rfl, rfl⟩ := hc
    have hlm : n0 ≤ m := by rw [hmm]; split <;> omega
    have hV : ∀ i, i < n0 → ∃ z : Src, W.cell? (a.add (i * 5)) = some (.int .i64 z.kind) ∧ W.cell? (a.add (i * 5 + 1)) = some (.int .i64 z.cell) ∧ W.cell? (a.add (i * 5 + 2)) = some (.int .i64 z.cls) ∧ W.cell? (a.add (i * 5 + 3)) = some (.int .i64 z.lo) ∧ W.cell? (a.add (i * 5 + 4)) = some (.int .i64 z.hi) := fun i hi => by
      obtain ⟨cs', h1, h2⟩ := hall i (by omega)
      rw [ce] at h1
      obtain ⟨_, hlen, hcell⟩ := World.cells?_some h1
      match cs', hlen with
      | [x0, x1, x2, x3, x4], _ =>
        obtain ⟨z, e0, e1, e2, e3, e4⟩ := src_cells h2
        have k0 := hcell 0 (by omega)
        have k1 := hcell 1 (by omega)
        have k2 := hcell 2 (by omega)
        have k3 := hcell 3 (by omega)
        have k4 := hcell 4 (by omega)
        rw [add_add] at k0 k1 k2 k3 k4
        subst e0 e1 e2 e3 e4
        exact ⟨z, by simpa using k0, by simpa using k1, by simpa using k2, by simpa using k3, by simpa using k4⟩
    obtain ⟨z, hz⟩ := choose_lt hV
    have hsl : ((List.range n0).map z).length = n0 := by simp
    by_cases hn : n0 = 0
    · subst hn
      exact ⟨some a, c0, 0, [], rfl, .inl rfl, by decide⟩
    · obtain ⟨b, off, arr, t, fz, ea, hb, _⟩ := cell_block (hz 0 (by omega)).1
      rw [Nat.zero_mul, addr_zero] at ea
      subst ea
      refine ⟨some ⟨b, off, none⟩, c0, t, (List.range n0).map z, by rw [hsl], .inr ⟨b, off, arr, fz, rfl, hb, fun i hi => ?_⟩, by rw [hsl]; unfold maxLen at hm; omega⟩
      have hflat := flat_len (c := srcC) (sz := 5) (fun _ => rfl) ((List.range n0).map z)
      rw [hsl] at hflat
      have hq : i / 5 < n0 := by rw [hflat] at hi; omega
      obtain ⟨k0, k1, k2, k3, k4⟩ := hz (i / 5) hq
      rw [addr_add] at k0 k1 k2 k3 k4
      simp only [World.cell?, hb] at k0 k1 k2 k3 k4
      have hg : ∀ j v, (srcC (z (i / 5)))[j]? = some v → (flat srcC ((List.range n0).map z))[i / 5 * 5 + j]? = some v := fun j v hv =>
        flat_getz (c := srcC) (sz := 5) (fun _ => rfl) (d := srcD) (i := i / 5) (by simp [List.getD, hq]) (by rw [hsl]; exact hq) j v hv
      have done : ∀ j v, i = i / 5 * 5 + j → (srcC (z (i / 5)))[j]? = some v → arr[off + (i / 5 * 5 + j)]? = some v → arr[off + i]? = some (flat srcC ((List.range n0).map z))[i] := by
        intro j v hj h1 h2
        have h3 := hg j v h1
        rw [← hj] at h2 h3
        rw [h2]
        have := (List.getElem?_eq_some_iff.1 h3).2
        rw [this]
      have hr : i % 5 = 0 ∨ i % 5 = 1 ∨ i % 5 = 2 ∨ i % 5 = 3 ∨ i % 5 = 4 := by omega
      rcases hr with he | he | he | he | he
      · exact done 0 _ (by omega) rfl (by simpa using k0)
      · exact done 1 _ (by omega) rfl (by simpa using k1)
      · exact done 2 _ (by omega) rfl (by simpa using k2)
      · exact done 3 _ (by omega) rfl (by simpa using k3)
      · exact done 4 _ (by omega) rfl (by simpa using k4)
end Go.Proofs.Ytoaehigmpbhppaa.En
namespace Go.Proofs.Ytoaehigmpbhppaa.En
open Go Go.Ev Go.Proofs Go.RowKit Go.ChangeShapes Go.WideShapes Go.ChangeAt Go.WideMaps Go.WideElems Go.Deep
instance : Inhabited Pk := ⟨pkD⟩
theorem pick4 : ∃ f0 f1 f2 f3 : Field, Try.prog.underlying 84 = some (.struct #[f0, f1, f2, f3]) ∧ f0.type = 3 ∧ f1.type = 3 ∧ f2.type = 23 ∧ f3.type = 23 ∧ f0.offset = 0 ∧ f1.offset = 1 ∧ f2.offset = 2 ∧ f3.offset = 4 :=
  ⟨_, _, _, _, Try.underlying84, rfl, rfl, rfl, rfl, rfl, rfl, rfl, rfl⟩
set_option maxRecDepth 100000 in
theorem pick_cells {H : Type} {enc : TypeId × Value → H} {W : World} {b0 : Nat} {sp : Nat → Bool} {held : Bool} {d : DataW H} {p : List MemPlace} {x0 x1 x2 x3 x4 x5 : Value} {fuel : Nat} (hf : DataW.trod enc Try.prog W b0 sp held fuel 84 [x0, x1, x2, x3, x4, x5] = some (d, p)) :
    ∃ z : Pk, x0 = .int .i64 z.kind ∧ x1 = .int .i64 z.station ∧ x2 = .int .i64 z.t0 ∧ x3 = .int .i64 z.t1 ∧ x4 = .int .i64 z.l0 ∧ x5 = .int .i64 z.l1 := by
  obtain ⟨f0, f1, f2, f3, hu, t0, t1, t2, t3, o0, o1, o2, o3⟩ := pick4
  have c1 : Try.prog.cellsOf 3 = 1 := by kernel_rfl
  have c2 : Try.prog.cellsOf 23 = 2 := by kernel_rfl
  obtain ⟨xs, n, _, _, hl, hlen, hff⟩ := DataW.trod_struct hu hf
  match xs, hlen with
  | [y0, y1, y2, y3], _ =>
    have h0 := hff 0 f0 rfl
    have h1 := hff 1 f1 rfl
    have h2 := hff 2 f2 rfl
    have h3 := hff 3 f3 rfl
    simp only [t0, t1, t2, t3, o0, o1, o2, o3, c1, c2, List.getElem_cons_zero, List.getElem_cons_succ] at h0 h1 h2 h3
    obtain ⟨z0, e0, _⟩ := DataW.trod_int Try.underlying3 h0
    obtain ⟨z1, e1, _⟩ := DataW.trod_int Try.underlying3 h1
    obtain ⟨u0, u1, m2, _, _, p3, p4⟩ := trod_struct2 Try.underlying23 h2
    simp only [c1] at p3 p4
    obtain ⟨z2, e2, _⟩ := DataW.trod_int Try.underlying3 p3
    obtain ⟨z3, e3, _⟩ := DataW.trod_int Try.underlying3 p4
    obtain ⟨u2, u3, m3, _, _, q3, q4⟩ := trod_struct2 Try.underlying23 h3
    simp only [c1] at q3 q4
    obtain ⟨z4, e4, _⟩ := DataW.trod_int Try.underlying3 q3
    obtain ⟨z5, e5, _⟩ := DataW.trod_int Try.underlying3 q4
    injection e0 with e0
    injection e1 with e1
    injection e2 with e2
    injection e3 with e3
    injection e4 with e4
    injection e5 with e5
    subst e0 e1 e2 e3 e4 e5
    exact ⟨⟨z0, z1, z2, z3, z4, z5⟩, rfl, rfl, rfl, rfl, rfl, rfl⟩
set_option maxRecDepth 100000 in
theorem picks_open {H : Type} {enc : TypeId × Value → H} {W : World} {base : Nat} {sp : Nat → Bool} {held : Bool} {v : Value} {d : DataW H} {p : List MemPlace} (hval : Value.okWide Try.prog W .any base 46 v) (h : DataW.Trod enc Try.prog W 0 sp held 46 v d p) :
    ∃ a q t, ∃ l : List Pk, v = .slice a l.length q ∧ Lies W t (flat pkC l) a l.length ∧ l.length < 9223372036854775808 := by
  have ce : Try.prog.cellsOf 84 = 6 := by kernel_rfl
  obtain ⟨a0, n0, c0, rfl⟩ := okWide_slice Try.underlying46 hval
  obtain ⟨fuel, hf⟩ := h
  rcases open_slice Try.underlying46 hf with ⟨hc, _⟩ | ⟨a, len, cap, m, n, D, Pl, hc, _, hl, hm, hmm, _, hall⟩
  · simp [Value.cells] at hc
    obtain ⟨rfl, rfl, rfl⟩ := hc
    exact ⟨none, 0, 0, [], rfl, .inl rfl, by decide⟩
  · simp [Value.cells] at hc
    obtain ⟨rfl, rfl, rfl⟩ := hc
    have hlm : n0 ≤ m := by rw [hmm]; split <;> omega
    have hV : ∀ i, i < n0 → ∃ z : Pk, W.cell? (a.add (i * 6)) = some (.int .i64 z.kind) ∧ W.cell? (a.add (i * 6 + 1)) = some (.int .i64 z.station) ∧ W.cell? (a.add (i * 6 + 2)) = some (.int .i64 z.t0) ∧ W.cell? (a.add (i * 6 + 3)) = some (.int .i64 z.t1) ∧ W.cell? (a.add (i * 6 + 4)) = some (.int .i64 z.l0) ∧ W.cell? (a.add (i * 6 + 5)) = some (.int .i64 z.l1) := fun i hi => by
      obtain ⟨cs', h1, h2⟩ := hall i (by omega)
      rw [ce] at h1
      obtain ⟨_, hlen, hcell⟩ := World.cells?_some h1
      match cs', hlen with
      | [x0, x1, x2, x3, x4, x5], _ =>
        obtain ⟨z, e0, e1, e2, e3, e4, e5⟩ := pick_cells h2
        have k0 := hcell 0 (by omega)
        have k1 := hcell 1 (by omega)
        have k2 := hcell 2 (by omega)
        have k3 := hcell 3 (by omega)
        have k4 := hcell 4 (by omega)
        have k5 := hcell 5 (by omega)
        rw [add_add] at k0 k1 k2 k3 k4 k5
        subst e0 e1 e2 e3 e4 e5
        exact ⟨z, by simpa using k0, by simpa using k1, by simpa using k2, by simpa using k3, by simpa using k4, by simpa using k5⟩
    obtain ⟨z, hz⟩ := choose_lt hV
    have hsl : ((List.range n0).map z).length = n0 := by simp
    by_cases hn : n0 = 0
    · subst hn
      exact ⟨some a, c0, 0, [], rfl, .inl rfl, by decide⟩
    · obtain ⟨b, off, arr, t, fz, ea, hb, _⟩ := cell_block (hz 0 (by omega)).1
      rw [Nat.zero_mul, addr_zero] at ea
      subst ea
      refine ⟨some ⟨b, off, none⟩, c0, t, (List.range n0).map z, by rw [hsl], .inr ⟨b, off, arr, fz, rfl, hb, fun i hi => ?_⟩, by rw [hsl]; unfold maxLen at hm; omega⟩
      have hflat := flat_len (c := pkC) (sz := 6) (fun _ => rfl) ((List.range n0).map z)
      rw [hsl] at hflat
      have hq : i / 6 < n0 := by rw [hflat] at hi; omega
      obtain ⟨k0, k1, k2, k3, k4, k5⟩ := hz (i / 6) hq
      rw [addr_add] at k0 k1 k2 k3 k4 k5
      simp only [World.cell?, hb] at k0 k1 k2 k3 k4 k5
      have hg : ∀ j v, (pkC (z (i / 6)))[j]? = some v → (flat pkC ((List.range n0).map z))[i / 6 * 6 + j]? = some v := fun j v hv =>
        flat_getz (c := pkC) (sz := 6) (fun _ => rfl) (d := pkD) (i := i / 6) (by simp [List.getD, hq]) (by rw [hsl]; exact hq) j v hv
      have done : ∀ j v, i = i / 6 * 6 + j → (pkC (z (i / 6)))[j]? = some v → arr[off + (i / 6 * 6 + j)]? = some v → arr[off + i]? = some (flat pkC ((List.range n0).map z))[i] := by
        intro j v hj h1 h2
        have h3 := hg j v h1
        rw [← hj] at h2 h3
        rw [h2]
        have := (List.getElem?_eq_some_iff.1 h3).2
        rw [this]
      have hr : i % 6 = 0 ∨ i % 6 = 1 ∨ i % 6 = 2 ∨ i % 6 = 3 ∨ i % 6 = 4 ∨ i % 6 = 5 := by omega
      rcases hr with he | he | he | he | he | he
      · exact done 0 _ (by omega) rfl (by simpa using k0)
      · exact done 1 _ (by omega) rfl (by simpa using k1)
      · exact done 2 _ (by omega) rfl (by simpa using k2)
      · exact done 3 _ (by omega) rfl (by simpa using k3)
      · exact done 4 _ (by omega) rfl (by simpa using k4)
      · exact done 5 _ (by omega) rfl (by simpa using k5)
end Go.Proofs.Ytoaehigmpbhppaa.En
namespace Go.Proofs.Ytoaehigmpbhppaa.En
open Go Go.Ev Go.Proofs Go.RowKit Go.ChangeShapes Go.WideShapes Go.ChangeAt Go.WideMaps Go.WideElems Go.Deep
set_option maxRecDepth 100000 in
theorem ints_open {H : Type} {enc : TypeId × Value → H} {W : World} {base : Nat} {sp : Nat → Bool} {held : Bool} {v : Value} {d : DataW H} {p : List MemPlace} (hval : Value.okWide Try.prog W .any base 37 v) (h : DataW.Trod enc Try.prog W 0 sp held 37 v d p) :
    ∃ a q t, ∃ l : List Int, v = .slice a l.length q ∧ Lies W t (flat intC l) a l.length ∧ l.length < 9223372036854775808 := by
  have ce : Try.prog.cellsOf 3 = 1 := by kernel_rfl
  obtain ⟨a0, n0, c0, rfl⟩ := okWide_slice Try.underlying37 hval
  obtain ⟨fuel, hf⟩ := h
  rcases open_slice Try.underlying37 hf with ⟨hc, _⟩ | ⟨a, len, cap, m, n, D, Pl, hc, _, hl, hm, hmm, _, hall⟩
  · simp [Value.cells] at hc
    obtain ⟨rfl, rfl, rfl⟩ := hc
    exact ⟨none, 0, 0, [], rfl, .inl rfl, by decide⟩
  · simp [Value.cells] at hc
    obtain ⟨rfl, rfl, rfl⟩ := hc
    have hlm : n0 ≤ m := by rw [hmm]; split <;> omega
    have hV : ∀ i, i < n0 → ∃ z : Int, W.cell? (a.add (i * 1)) = some (.int .i64 z) := fun i hi => by
      obtain ⟨cs', h1, h2⟩ := hall i (by omega)
      rw [ce] at h1
      obtain ⟨_, hlen, hcell⟩ := World.cells?_some h1
      match cs', hlen with
      | [x0], _ =>
        obtain ⟨z, e0, _⟩ := DataW.trod_int Try.underlying3 h2
        have k0 := hcell 0 (by omega)
        rw [add_add] at k0
        injection e0 with e0
        subst e0
        exact ⟨z, by simpa using k0⟩
    obtain ⟨z, hz⟩ := choose_lt hV
    have hsl : ((List.range n0).map z).length = n0 := by simp
    by_cases hn : n0 = 0
    · subst hn
      exact ⟨some a, c0, 0, [], rfl, .inl rfl, by decide⟩
    · obtain ⟨b, off, arr, t, fz, ea, hb, _⟩ := cell_block (hz 0 (by omega))
      rw [Nat.zero_mul, addr_zero] at ea
      subst ea
      refine ⟨some ⟨b, off, none⟩, c0, t, (List.range n0).map z, by rw [hsl], .inr ⟨b, off, arr, fz, rfl, hb, fun i hi => ?_⟩, by rw [hsl]; unfold maxLen at hm; omega⟩
      have hflat := flat_len (c := intC) (sz := 1) (fun _ => rfl) ((List.range n0).map z)
      rw [hsl, Nat.mul_one] at hflat
      have hq : i < n0 := by rw [hflat] at hi; exact hi
      have k0 := hz i hq
      rw [addr_add] at k0
      simp only [World.cell?, hb] at k0
      have h3 := flat_getz (c := intC) (sz := 1) (fun _ => rfl) (d := 0) (z := z i) (i := i) (l := (List.range n0).map z) (by simp [List.getD, hq]) (by rw [hsl]; exact hq) 0 (.int .i64 (z i)) rfl
      rw [Nat.mul_one, Nat.add_zero] at h3
      have h4 := (List.getElem?_eq_some_iff.1 h3).2
      rw [h4]
      simpa using k0
end Go.Proofs.Ytoaehigmpbhppaa.En
