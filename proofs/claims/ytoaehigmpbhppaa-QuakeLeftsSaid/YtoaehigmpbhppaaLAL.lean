import Derived.Test.YtoaehigmpbhppaaLAK
import Derived.Test.YtoaehigmpbhppaaLAJ
import Derived.Test.YtoaehigmpbhppaaLAK
import Derived.Test.YtoaehigmpbhppaaLAH
import Derived.Laws.StructEq
/-
  Texts of the bench, merged.
-/
set_option linter.unusedSimpArgs false
set_option linter.unusedVariables false
namespace Go.Proofs.Ytoaehigmpbhppaa.En
open Go Go.Ev Go.Proofs Go.RowKit
set_option maxRecDepth 1000000
noncomputable section
def f67b0 : Code := (Try.f67.body).getD .skip
def f67F0 : Fr := mkFr Try.f67 [(0, (ag 0 8)), (1, (sy 8)), (2, (sy 9)), (3, (sy 10)), (4, (sy 11))] []
def f67S1 : St := mkSt 0 []
theorem f67I2 : IdOk 12 0 0 f67F0 f67S1 := ⟨mkSt_wf rfl, by kernel_rfl⟩
def f67F3 : Fr := mkFr Try.f67 [(1, (sy 8)), (2, (sy 9)), (3, (sy 10)), (4, (sy 11)), (5, (pt 0 0)), (10, (.slice .none 0 0))] []
def f67S4 : St := mkSt 1 [(0, (.cells (ids 8) 26 .none .false))]
theorem f67I5 : IdOk 12 1 0 f67F3 f67S4 := ⟨mkSt_wf rfl, by kernel_rfl⟩
def f67F6 : Fr := mkFr Try.f67 [(1, (sy 8)), (2, (sy 9)), (3, (sy 10)), (4, (sy 11)), (5, (pt 0 0)), (10, (.slice .none 0 0)), (11, (.slice .none 0 0))] []
theorem f67I7 : IdOk 12 1 0 f67F6 f67S4 := ⟨mkSt_wf rfl, by kernel_rfl⟩
def f67F8 : Fr := mkFr Try.f67 [(1, (sy 8)), (2, (sy 9)), (3, (sy 10)), (4, (sy 11)), (5, (pt 0 0)), (10, (.slice .none 0 0)), (11, (.slice .none 0 0)), (12, (iV 0))] []
theorem f67I9 : IdOk 12 1 0 f67F8 f67S4 := ⟨mkSt_wf rfl, by kernel_rfl⟩
def f67n16 : List Ent := ⟨(.load 54), [(sy 15)], (ag 16 5)⟩ :: ⟨(.indexAddr 38), [(sy 9), (sy 13)], (sy 15)⟩ :: cB .lss (sy 13) (sy 14) true :: ⟨(.bi 0 [38]), [(sy 9)], (sy 14)⟩ :: []
def f67n17 : List Ent := cB .eql (sy 16) (iV 1) true :: f67n16
def f67n18 : List Ent := aB .add (sy 13) (iV 1) (sy 24) :: f67n17
def f67n19 : List CEnt := ⟨71, [(ag 0 8), (sy 8), (ag 16 5), (sy 10), (sy 11)], [], (.tuple #[(ag 21 2), (.bool true)])⟩ :: []
def f67n20 : List LEnt := (.grow 0 12 1 5 [(sy 16), (sy 17), (sy 18), (sy 21), (sy 22)] 1 23) :: []
def f67n21 : List Ent := aB .add (sy 13) (iV 1) (sy 23) :: f67n17
def f67n22 : List CEnt := ⟨71, [(ag 0 8), (sy 8), (ag 16 5), (sy 10), (sy 11)], [], (.tuple #[(ag 21 2), (.bool false)])⟩ :: []
def f67n23 : List Ent := aB .add (sy 13) (iV 1) (sy 22) :: cB .eql (sy 16) (iV 1) false :: f67n16
def f67n24 : List LEnt := (.grow 0 12 1 5 [(sy 16), (sy 17), (sy 18), (sy 19), (sy 20)] 1 21) :: []
def f67n25 : List Ent := cB .lss (sy 13) (sy 14) false :: ⟨(.bi 0 [38]), [(sy 9)], (sy 14)⟩ :: []
def f67F26 : Fr := mkFr Try.f67 [(1, (sy 8)), (2, (sy 9)), (3, (sy 10)), (4, (sy 11)), (5, (pt 0 0)), (10, (.slice .none 0 0)), (11, (ls 1 12)), (12, (sy 13))] []
def f67S27 : St := mkSt 2 [(0, (.cells (ids 8) 26 .none .false)), (1, (.lst 0 54 5))]
theorem f67I28 : IdOk 14 2 1 f67F26 f67S27 := ⟨mkSt_wf rfl, by kernel_rfl⟩
def f67F29 : Fr := mkFr Try.f67 [(10, (.slice .none 0 0)), (11, (ls 0 12))] []
def f67S30 : St := mkSt 1 [(0, (.lst 0 54 5))]
theorem f67I31 : IdOk 13 1 1 f67F29 f67S30 := ⟨mkSt_wf rfl, by kernel_rfl⟩
theorem f67a0 : agreeL (ids 12) [] [] f67F0 f67S1 (frameOf Try.f67 [(ag 0 8), (sy 8), (sy 9), (sy 10), (sy 11)]) Ev.start = true := by kernel_rfl
def f67b1 : Code := headC f67b0
def f67b2 : Code := tailC f67b0
theorem f67q0 : f67b0 = .seq f67b1 f67b2 := by kernel_rfl
theorem f67r0 : gE [] [] [] [] f67b1 f67F0 f67S1 .normal (ids 12) [0] [] f67F3 f67S4 = some () := by kernel_rfl
def f67b3 : Code := headC f67b2
def f67b4 : Code := tailC f67b2
theorem f67q1 : f67b2 = .seq f67b3 f67b4 := by kernel_rfl
theorem f67r1 : gE [] [] [] [] f67b3 f67F3 f67S4 .normal (ids 12) [0] [] f67F6 f67S4 = some () := by kernel_rfl
def f67b5 : Code := headC f67b4
def f67b6 : Code := tailC f67b4
theorem f67q2 : f67b4 = .seq f67b5 f67b6 := by kernel_rfl
def f67b7 : Code := headC f67b5
def f67b8 : Code := tailC f67b5
theorem f67q3 : f67b5 = .seq f67b7 f67b8 := by kernel_rfl
theorem f67r2 : gE [] [] [] [] f67b7 f67F6 f67S4 .normal (ids 12) [0] [] f67F8 f67S4 = some () := by kernel_rfl
def f67b9 : Code := inBlockC f67b8
theorem f67q4 : f67b8 = .block 0 f67b9 := by kernel_rfl
def f67b10 : Code := inLoopC f67b9
theorem f67q5 : f67b9 = .loop f67b10 := by kernel_rfl
theorem f67h6 : agreeL (ids 12 ++ [(iV 0), (iV 0)]) [0, 1] [none] f67F26 f67S27 f67F8 f67S4 = true := by kernel_rfl
theorem f67r3 : gE f67n18 f67n19 f67n20 [] f67b10 f67F26 f67S27 .normal (pk 12 [23, 24]) [0, 5] [some 1] f67F26 f67S27 = some () := by kernel_rfl
theorem f67r4 : gE f67n21 f67n22 [] [] f67b10 f67F26 f67S27 .normal (pk 13 [23]) [0, 1] [some 0] f67F26 f67S27 = some () := by kernel_rfl
theorem f67r5 : gE f67n23 [] f67n24 [] f67b10 f67F26 f67S27 .normal (pk 12 [21, 22]) [0, 4] [some 1] f67F26 f67S27 = some () := by kernel_rfl
theorem f67r6 : gE f67n25 [] [] [] f67b10 f67F26 f67S27 (.exit 0) (ids 13) [1] [some 0] f67F29 f67S30 = some () := by kernel_rfl
theorem f67r7 : lE [] [] [] [] f67b6 f67F29 f67S30 Try.f67 (endL (ls 0 12) 0 0 54 5) = some () := by kernel_rfl
set_option maxHeartbeats 8000000 in
theorem rall_any (x0 : Int) (x1 : Int) (x2 : Int) (x3 : Int) (x4 : Int) (x5 : Int) (x6 : Int) (x7 : Int) (ast : Option Addr) (st : List Int) (qst : Nat) (aso : Option Addr) (so : List Src) (qso : Nat) (ap : Option Addr) (p : List Pk) (qp : Nat) (f : Int) (w0 : World) {tst : TypeId} (Hst : Lies w0 tst (flat intC st) ast st.length) {tso : TypeId} (Hso : Lies w0 tso (flat srcC so) aso so.length) {tp : TypeId} (Hp : Lies w0 tp (flat pkC p) ap p.length) (v : ModOk x0 x1 x2 x3 x4 x5 x6 x7) (hst : StOk x0 x1 st) (hpk : PksOk st.length p) (hn1 : st.length < 1000000) (hn2 : so.length < 1000000) (hn3 : p.length ≤ 64) (hso : ∀ k, k < so.length → srcErr x0 x1 (so.getD k srcD) = 0) : Calls Try.prog 67 #[(mV x0 x1 x2 x3 x4 x5 x6 x7), (.slice ast st.length qst), (.slice aso so.length qso), (.slice ap p.length qp), (iV f)] w0 (fun en w' => ∃ a C, en = .returned (.slice a (so.filterMap (refOne x0 x1 x2 x3 x4 x5 x6 x7 st f p)).length C) ∧ NewList w0 w' 54 5 (flat srcC (so.filterMap (refOne x0 x1 x2 x3 x4 x5 x6 x7 st f p))) a (so.filterMap (refOne x0 x1 x2 x3 x4 x5 x6 x7 st f p)).length C ∧ Below w0.heap.size w0 w') := by
  have v0m := v
  obtain ⟨v0, v1, v2, v3, v5, v7⟩ := v
  have hx := mul_bd (a := x0) (b := x1) (A := 24) (B := 24) (C := 576) (by omega) (by omega) (by omega) (by omega)
  let vb : List Value := [(iV x0), (iV x1), (iV x2), (iV x3), (iV x4), (iV x5), (iV x6), (iV x7), (.slice ast st.length qst), (.slice aso so.length qso), (.slice ap p.length qp), (iV f)]
  let p0 : Rho := (RO w0 vb [])
  refine At.begin (ρ := p0) (c := f67b0) (@env_ok p0) f67I2 f67a0 (fun a w hat => ?_)
  refine g_seq f67q0 ?_
  let p1 : Rho := (RO w0 vb [])
  refine At.go (ρ1 := p0) (ρ2 := p1) f67r0 (@env_ok p0) trivial trivial trivial trivial f67I2 f67I5 hat (fun a w hat => .inl ⟨rfl, ?_⟩)
  refine g_seq f67q1 ?_
  let p2 : Rho := (RO w0 vb [])
  refine At.go (ρ1 := p1) (ρ2 := p2) f67r1 (@env_ok p1) trivial trivial trivial trivial f67I5 f67I7 hat (fun a w hat => .inl ⟨rfl, ?_⟩)
  refine g_seq f67q2 ?_
  refine g_seq f67q3 ?_
  let p3 : Rho := (RO w0 vb [])
  refine At.go (ρ1 := p2) (ρ2 := p3) f67r2 (@env_ok p2) trivial trivial trivial trivial f67I7 f67I9 hat (fun a w hat => .inl ⟨rfl, ?_⟩)
  refine g_block f67q4 ?_
  have hat0 := At.shiftL (ρ1 := p3) (ρ2 := (RO w0 (vb ++ [(iV (((([] : List Src).length : Nat) : Int))), (iV ((0 : Int)))]) [(flat srcC ([] : List Src))])) (σ := (ids 12 ++ [(iV 0), (iV 0)])) (π := [0, 1]) (τ := [none]) ⟨rfl, rfl, rfl, rfl, rfl, rfl, rfl, rfl, rfl, rfl, rfl, rfl, rfl, rfl, rfl, rfl, rfl, rfl, rfl, rfl, rfl, rfl, rfl, rfl, rfl, rfl, rfl, rfl, trivial⟩ ⟨rfl, trivial⟩ (fun _ _ h => h) f67I28.1 f67h6 hat
  clear hat
  refine g_loop (fun (x : List Src × Int) a w => (0 ≤ (x.2 : Int) ∧ (x.2 : Int) ≤ so.length ∧ ((x.1 : List Src).length : Int) ≤ (x.2 : Int) ∧ (x.1 : List Src) = (so.take (x.2 : Int).toNat).filterMap (refOne x0 x1 x2 x3 x4 x5 x6 x7 st f p)) ∧ @At (RO w0 (vb ++ [(iV ((((x.1 : List Src).length : Nat) : Int))), (iV ((x.2 : Int)))]) [(flat srcC (x.1 : List Src))]) w0 f67F26 f67S27 a w) (fun x => (so.length - (x.2 : Int)).toNat) f67q5 ?_ ([], 0) ⟨?_, hat0⟩
  · clear hat0
    rintro ⟨L, i⟩ a w ⟨hinv, hat⟩
    change 0 ≤ i ∧ i ≤ so.length ∧ (L.length : Int) ≤ i ∧ L = (so.take i.toNat).filterMap (refOne x0 x1 x2 x3 x4 x5 x6 x7 st f p) at hinv
    let d4 : List Value := (vb ++ [(iV (((L.length : Nat) : Int))), (iV i)])
    let p4 : Rho := RO w0 d4 [(flat srcC L)]
    change @At p4 w0 f67F26 f67S27 a w at hat
    obtain ⟨i0, i1, i2, i3⟩ := hinv
    have K9 : KA w0 (.bi 0 [38]) [(.slice aso so.length qso)] (iV (((so.length : Nat) : Int))) := fun w hm => k_len Try.underlying38
    by_cases c0 : i < ((so.length : Nat) : Int)
    · have K10 : KA w0 (.indexAddr 38) [(.slice aso so.length qso), (iV i)] (.pointer (ptrO aso ((i).toNat * 5))) := fun w hm => l_index (Hso.keep hm) Try.underlying38 (by kernel_rfl) (by omega) (by omega)
      obtain ⟨z1, hz1⟩ : ∃ z : Src, z = so.getD (i).toNat srcD := ⟨_, rfl⟩
      have ez1 := srcErr_ok (hso (i).toNat (by omega))
      rw [← hz1] at ez1
      have K11 : KA w0 (.load 54) [(.pointer (ptrO aso ((i).toNat * 5)))] (.agg #[(iV z1.kind), (iV z1.cell), (iV z1.cls), (iV z1.lo), (iV z1.hi)]) := fun w hm => l_loadS (Hso.keep hm) (by omega) Try.underlying54 rfl (l := [(iV z1.kind), (iV z1.cell), (iV z1.cls), (iV z1.lo), (iV z1.hi)]) (by kernel_rfl) (flat_getz (c := srcC) (sz := 5) (fun _ => rfl) hz1 (by omega))
      by_cases c2 : z1.kind = 1
      · by_cases c3 : (momZ x0 x1 x2 x3 x4 x5 x6 x7 st f p z1).2.2 = true
        · obtain ⟨y4, hy4⟩ : ∃ y : Int, y = (momZ x0 x1 x2 x3 x4 x5 x6 x7 st f p z1).1 := ⟨_, rfl⟩
          obtain ⟨y5, hy5⟩ : ∃ y : Int, y = (momZ x0 x1 x2 x3 x4 x5 x6 x7 st f p z1).2.1 := ⟨_, rfl⟩
          have K12 := kAdd w0 (i) (1) (by omega)
          let r3 : Rho := (RO w0 (d4 ++ [(iV (((so.length : Nat) : Int))), (.pointer (ptrO aso ((i).toNat * 5))), (iV z1.kind), (iV z1.cell), (iV z1.cls), (iV z1.lo), (iV z1.hi), (iV y4), (iV y5), (iV (((L.length + 1 : Nat) : Int))), (iV ((i + 1)))]) [(flat srcC L), ((flat srcC L) ++ [(iV z1.kind), (iV z1.cell), (iV z1.cls), (iV y4), (iV y5)])])
          refine At.goS (ρ1 := r3) (ρ2 := (RO w0 (vb ++ [(iV (((((L ++ [(⟨z1.kind, z1.cell, z1.cls, y4, y5⟩ : Src)]) : List Src).length : Nat) : Int))), (iV (((i + 1) : Int)))]) [(flat srcC ((L ++ [(⟨z1.kind, z1.cell, z1.cls, y4, y5⟩ : Src)]) : List Src))])) f67r3 (@env_ok r3) ⟨enk K12, enk (keqlt c2), enk K11, enk K10, enk (klsst c0), enk K9, trivial⟩ ⟨(@CEntOk.of r3 Try.prog _ 71 [(ag 0 8), (sy 8), (ag 16 5), (sy 10), (sy 11)] (.tuple #[(ag 21 2), (.bool true)]) #[(mV x0 x1 x2 x3 x4 x5 x6 x7), (.slice ast st.length qst), (.agg #[(iV z1.kind), (iV z1.cell), (iV z1.cls), (iV z1.lo), (iV z1.hi)]), (.slice ap p.length qp), (iV f)] (.tuple #[(.agg #[(iV y4), (iV y5)]), (.bool true)]) rfl ⟨Try.f71, (Try.f71.body).getD .skip, by kernel_rfl, by kernel_rfl⟩ rfl rfl rfl (fun w hm => by have h := rleft2_any x0 x1 x2 x3 x4 x5 x6 x7 ast st qst z1 ap p qp f w (Hst.keep hm) (Hp.keep hm) v0m (by omega) (by omega) hst (by omega) hpk (by omega) (by omega); rw [decide_eq_true c3, ← hy4, ← hy5] at h; exact h)), trivial⟩ ⟨⟨rfl, rfl, L.length, rfl, rfl, (by show ((flat srcC L) : List Value).length = (L.length) * 5; first | exact flat_len (fun _ => rfl) _ | simp [flat_len (c := srcC) (sz := 5) (fun _ => rfl), srcC] <;> omega), rfl, (by omega)⟩, trivial⟩ trivial f67I28 f67I28 hat ⟨rfl, rfl, rfl, rfl, rfl, rfl, rfl, rfl, rfl, rfl, rfl, rfl, rfl, rfl, rfl, rfl, rfl, rfl, rfl, rfl, rfl, rfl, rfl, rfl, rfl, vl, rfl, rfl, trivial⟩ ⟨(by show (flat srcC (L ++ [(⟨z1.kind, z1.cell, z1.cls, y4, y5⟩ : Src)]) : List Value) = ((flat srcC L) ++ [(iV z1.kind), (iV z1.cell), (iV z1.cls), (iV y4), (iV y5)]); first | (simp [flat_snoc, srcC]; done) | (simp [flat, srcC]; done)), trivial⟩ (fun a w hat => .inl ⟨rfl, ⟨((L ++ [(⟨z1.kind, z1.cell, z1.cls, y4, y5⟩ : Src)]), (i + 1)), ?_, ?_, hat⟩⟩)
          · show (so.length - ((i + 1) : Int)).toNat < (so.length - i).toNat
            omega
          show 0 ≤ ((i + 1) : Int) ∧ ((i + 1) : Int) ≤ so.length ∧ (((L ++ [(⟨z1.kind, z1.cell, z1.cls, y4, y5⟩ : Src)]) : List Src).length : Int) ≤ ((i + 1) : Int) ∧ ((L ++ [(⟨z1.kind, z1.cell, z1.cls, y4, y5⟩ : Src)]) : List Src) = (so.take ((i + 1) : Int).toNat).filterMap (refOne x0 x1 x2 x3 x4 x5 x6 x7 st f p)
          have e1 : (i + 1).toNat = i.toNat + 1 := by omega
          refine ⟨by omega, by omega, by simp; omega, ?_⟩
          rw [e1]
          have hF : refOne x0 x1 x2 x3 x4 x5 x6 x7 st f p z1 = some (⟨z1.kind, z1.cell, z1.cls, y4, y5⟩ : Src) := by
            unfold refOne
            first
              | (rw [if_pos (by omega), if_pos (by assumption), ← hy4, ← hy5]; done)
              | (rw [if_neg (by omega)]; done)
          rw [filterMap_some (refOne x0 x1 x2 x3 x4 x5 x6 x7 st f p) srcD (i := i.toNat) (y := (⟨z1.kind, z1.cell, z1.cls, y4, y5⟩ : Src)) (by omega) (by rw [← hz1]; exact hF), ← i3]
        · obtain ⟨y6, hy6⟩ : ∃ y : Int, y = (momZ x0 x1 x2 x3 x4 x5 x6 x7 st f p z1).1 := ⟨_, rfl⟩
          obtain ⟨y7, hy7⟩ : ∃ y : Int, y = (momZ x0 x1 x2 x3 x4 x5 x6 x7 st f p z1).2.1 := ⟨_, rfl⟩
          have K13 := kAdd w0 (i) (1) (by omega)
          let r4 : Rho := (RO w0 (d4 ++ [(iV (((so.length : Nat) : Int))), (.pointer (ptrO aso ((i).toNat * 5))), (iV z1.kind), (iV z1.cell), (iV z1.cls), (iV z1.lo), (iV z1.hi), (iV y6), (iV y7), (iV ((i + 1)))]) [(flat srcC L)])
          refine At.goS (ρ1 := r4) (ρ2 := (RO w0 (vb ++ [(iV ((((L : List Src).length : Nat) : Int))), (iV (((i + 1) : Int)))]) [(flat srcC (L : List Src))])) f67r4 (@env_ok r4) ⟨enk K13, enk (keqlt c2), enk K11, enk K10, enk (klsst c0), enk K9, trivial⟩ ⟨(@CEntOk.of r4 Try.prog _ 71 [(ag 0 8), (sy 8), (ag 16 5), (sy 10), (sy 11)] (.tuple #[(ag 21 2), (.bool false)]) #[(mV x0 x1 x2 x3 x4 x5 x6 x7), (.slice ast st.length qst), (.agg #[(iV z1.kind), (iV z1.cell), (iV z1.cls), (iV z1.lo), (iV z1.hi)]), (.slice ap p.length qp), (iV f)] (.tuple #[(.agg #[(iV y6), (iV y7)]), (.bool false)]) rfl ⟨Try.f71, (Try.f71.body).getD .skip, by kernel_rfl, by kernel_rfl⟩ rfl rfl rfl (fun w hm => by have h := rleft2_any x0 x1 x2 x3 x4 x5 x6 x7 ast st qst z1 ap p qp f w (Hst.keep hm) (Hp.keep hm) v0m (by omega) (by omega) hst (by omega) hpk (by omega) (by omega); rw [decide_eq_false c3, ← hy6, ← hy7] at h; exact h)), trivial⟩ trivial trivial f67I28 f67I28 hat (SubOk.om rfl rfl) (LsubOk.om rfl) (fun a w hat => .inl ⟨rfl, ⟨(L, (i + 1)), ?_, ?_, hat⟩⟩)
          · show (so.length - ((i + 1) : Int)).toNat < (so.length - i).toNat
            omega
          show 0 ≤ ((i + 1) : Int) ∧ ((i + 1) : Int) ≤ so.length ∧ ((L : List Src).length : Int) ≤ ((i + 1) : Int) ∧ (L : List Src) = (so.take ((i + 1) : Int).toNat).filterMap (refOne x0 x1 x2 x3 x4 x5 x6 x7 st f p)
          have e1 : (i + 1).toNat = i.toNat + 1 := by omega
          refine ⟨by omega, by omega, by omega, ?_⟩
          rw [e1]
          have hF : refOne x0 x1 x2 x3 x4 x5 x6 x7 st f p z1 = none := by
            unfold refOne
            rw [if_pos (by omega), if_neg (by assumption)]
          rw [filterMap_none (refOne x0 x1 x2 x3 x4 x5 x6 x7 st f p) srcD (i := i.toNat) (by omega) (by rw [← hz1]; exact hF), ← i3]
      have K14 := kAdd w0 (i) (1) (by omega)
      let r5 : Rho := (RO w0 (d4 ++ [(iV (((so.length : Nat) : Int))), (.pointer (ptrO aso ((i).toNat * 5))), (iV z1.kind), (iV z1.cell), (iV z1.cls), (iV z1.lo), (iV z1.hi), (iV (((L.length + 1 : Nat) : Int))), (iV ((i + 1)))]) [(flat srcC L), ((flat srcC L) ++ [(iV z1.kind), (iV z1.cell), (iV z1.cls), (iV z1.lo), (iV z1.hi)])])
      refine At.goS (ρ1 := r5) (ρ2 := (RO w0 (vb ++ [(iV (((((L ++ [(⟨z1.kind, z1.cell, z1.cls, z1.lo, z1.hi⟩ : Src)]) : List Src).length : Nat) : Int))), (iV (((i + 1) : Int)))]) [(flat srcC ((L ++ [(⟨z1.kind, z1.cell, z1.cls, z1.lo, z1.hi⟩ : Src)]) : List Src))])) f67r5 (@env_ok r5) ⟨enk K14, enk (keqlf c2), enk K11, enk K10, enk (klsst c0), enk K9, trivial⟩ trivial ⟨⟨rfl, rfl, L.length, rfl, rfl, (by show ((flat srcC L) : List Value).length = (L.length) * 5; first | exact flat_len (fun _ => rfl) _ | simp [flat_len (c := srcC) (sz := 5) (fun _ => rfl), srcC] <;> omega), rfl, (by omega)⟩, trivial⟩ trivial f67I28 f67I28 hat ⟨rfl, rfl, rfl, rfl, rfl, rfl, rfl, rfl, rfl, rfl, rfl, rfl, rfl, rfl, rfl, rfl, rfl, rfl, rfl, rfl, rfl, rfl, rfl, rfl, rfl, vl, rfl, rfl, trivial⟩ ⟨(by show (flat srcC (L ++ [(⟨z1.kind, z1.cell, z1.cls, z1.lo, z1.hi⟩ : Src)]) : List Value) = ((flat srcC L) ++ [(iV z1.kind), (iV z1.cell), (iV z1.cls), (iV z1.lo), (iV z1.hi)]); first | (simp [flat_snoc, srcC]; done) | (simp [flat, srcC]; done)), trivial⟩ (fun a w hat => .inl ⟨rfl, ⟨((L ++ [(⟨z1.kind, z1.cell, z1.cls, z1.lo, z1.hi⟩ : Src)]), (i + 1)), ?_, ?_, hat⟩⟩)
      · show (so.length - ((i + 1) : Int)).toNat < (so.length - i).toNat
        omega
      show 0 ≤ ((i + 1) : Int) ∧ ((i + 1) : Int) ≤ so.length ∧ (((L ++ [(⟨z1.kind, z1.cell, z1.cls, z1.lo, z1.hi⟩ : Src)]) : List Src).length : Int) ≤ ((i + 1) : Int) ∧ ((L ++ [(⟨z1.kind, z1.cell, z1.cls, z1.lo, z1.hi⟩ : Src)]) : List Src) = (so.take ((i + 1) : Int).toNat).filterMap (refOne x0 x1 x2 x3 x4 x5 x6 x7 st f p)
      have e1 : (i + 1).toNat = i.toNat + 1 := by omega
      refine ⟨by omega, by omega, by simp; omega, ?_⟩
      rw [e1]
      have hF : refOne x0 x1 x2 x3 x4 x5 x6 x7 st f p z1 = some (⟨z1.kind, z1.cell, z1.cls, z1.lo, z1.hi⟩ : Src) := by
        unfold refOne
        first
          | (rw [if_pos (by omega), if_pos (by assumption)]; done)
          | (rw [if_neg (by omega)]; done)
      rw [filterMap_some (refOne x0 x1 x2 x3 x4 x5 x6 x7 st f p) srcD (i := i.toNat) (y := (⟨z1.kind, z1.cell, z1.cls, z1.lo, z1.hi⟩ : Src)) (by omega) (by rw [← hz1]; exact hF), ← i3]
    let r6 : Rho := (RO w0 (d4 ++ [(iV (((so.length : Nat) : Int)))]) [(flat srcC L)])
    let d5 : List Value := (vb ++ [(iV (((L.length : Nat) : Int)))])
    let p5 : Rho := RO w0 d5 [(flat srcC L)]
    refine At.go (ρ1 := r6) (ρ2 := p5) f67r6 (@env_ok r6) ⟨enk (klssf c0), enk K9, trivial⟩ trivial trivial trivial f67I28 f67I31 hat (fun a w hat => .inr ⟨.inl ⟨0, rfl⟩, .inl ⟨rfl, .inl ⟨rfl, ?_⟩⟩⟩)
    refine At.lastsL (ρ1 := p5) (n := L.length) none f67r7 (@env_ok p5) trivial trivial trivial trivial f67I31 hat rfl (by show ((flat srcC L) : List Value).length = (L.length) * 5; first | exact flat_len (fun _ => rfl) _ | simp [flat_len (c := srcC) (sz := 5) (fun _ => rfl), srcC] <;> omega) (fun w2 a2 C2 hb hn => ?_)
    have hL : L = so.filterMap (refOne x0 x1 x2 x3 x4 x5 x6 x7 st f p) := by
      rw [i3, show i.toNat = so.length by omega, List.take_length]
    have e1 : L.length = (so.filterMap (refOne x0 x1 x2 x3 x4 x5 x6 x7 st f p)).length := by rw [← hL]; try first | rfl | simp | simp [srcC]
    have e2 : ((flat srcC L) : List Value) = flat srcC (so.filterMap (refOne x0 x1 x2 x3 x4 x5 x6 x7 st f p)) := by rw [← hL]; try first | rfl | (simp [flat_snoc, srcC]; done) | (simp [flat, srcC]; done)
    have hn2 : NewList w0 w2 54 5 (flat srcC (so.filterMap (refOne x0 x1 x2 x3 x4 x5 x6 x7 st f p))) a2 (so.filterMap (refOne x0 x1 x2 x3 x4 x5 x6 x7 st f p)).length C2 := by rw [← e1, ← e2]; exact hn
    have hv := congrArg (fun (n2 : Nat)  => (.slice a2 n2 C2 : Value)) e1
    exact ⟨a2, C2, congrArg Ending.returned hv, hn2, hb⟩
  · show 0 ≤ (0 : Int) ∧ (0 : Int) ≤ so.length ∧ (([] : List Src).length : Int) ≤ (0 : Int) ∧ ([] : List Src) = (so.take (0 : Int).toNat).filterMap (refOne x0 x1 x2 x3 x4 x5 x6 x7 st f p)
    exact ⟨by omega, by omega, by simp, rfl⟩
end
end Go.Proofs.Ytoaehigmpbhppaa.En
namespace Go.Proofs.Ytoaehigmpbhppaa.En
open Go Go.Ev Go.Proofs Go.RowKit
set_option maxRecDepth 1000000
noncomputable section
def f66b0 : Code := (Try.f66.body).getD .skip
def f66F0 : Fr := mkFr Try.f66 [(0, (ag 0 8)), (1, (sy 8)), (2, (sy 9)), (3, (sy 10)), (4, (sy 11))] []
def f66S1 : St := mkSt 0 []
theorem f66I2 : IdOk 12 0 0 f66F0 f66S1 := ⟨mkSt_wf rfl, by kernel_rfl⟩
def f66F3 : Fr := mkFr Try.f66 [(1, (sy 8)), (2, (sy 9)), (3, (sy 10)), (4, (sy 11)), (5, (pt 0 0)), (10, (iV 0))] []
def f66S4 : St := mkSt 1 [(0, (.cells (ids 8) 26 .none .false))]
theorem f66I5 : IdOk 12 1 0 f66F3 f66S4 := ⟨mkSt_wf rfl, by kernel_rfl⟩
theorem f66f19 : FnIn env 19 := ⟨Try.f19, (Try.f19.body).getD .skip, by kernel_rfl, by kernel_rfl⟩
def f66n6 : List CEnt := ⟨19, [(ag 0 8)], [], (sy 12)⟩ :: []
def f66F7 : Fr := mkFr Try.f66 [(1, (sy 8)), (2, (sy 9)), (3, (sy 10)), (4, (sy 11)), (5, (pt 0 0)), (10, (iV 0)), (11, (sy 12))] []
theorem f66I8 : IdOk 13 1 0 f66F7 f66S4 := ⟨mkSt_wf rfl, by kernel_rfl⟩
def f66n9 : List Ent := ⟨(.bin .neq 27), [(sy 12), (iV 0)], (.bool true)⟩ :: []
def f66n10 : List Ent := ⟨(.bin .neq 27), [(sy 12), (iV 0)], (.bool false)⟩ :: []
def f66n11 : List Ent := cB .gtr (sy 13) (iV 64) true :: ⟨(.bi 0 [37]), [(sy 8)], (sy 13)⟩ :: []
def f66n12 : List Ent := cB .gtr (sy 13) (iV 64) false :: ⟨(.bi 0 [37]), [(sy 8)], (sy 13)⟩ :: []
def f66F13 : Fr := mkFr Try.f66 [(1, (sy 8)), (2, (sy 9)), (3, (sy 10)), (4, (sy 11)), (5, (pt 0 0)), (10, (iV 0)), (11, (sy 12)), (12, (iV 0))] []
theorem f66I14 : IdOk 13 1 0 f66F13 f66S4 := ⟨mkSt_wf rfl, by kernel_rfl⟩
def f66n21 : List Ent := aB .sub (sy 17) (iV 1) (sy 18) :: aB .mul (sy 0) (sy 1) (sy 17) :: ⟨(.load 3), [(sy 15)], (sy 16)⟩ :: ⟨(.indexAddr 37), [(sy 8), (sy 13)], (sy 15)⟩ :: cB .lss (sy 13) (sy 14) true :: ⟨(.bi 0 [37]), [(sy 8)], (sy 14)⟩ :: []
def f66n22 : List Ent := cB .geq (sy 16) (iV 0) true :: f66n21
def f66n23 : List Ent := aB .add (sy 13) (iV 1) (sy 19) :: cB .leq (sy 16) (sy 18) true :: f66n22
def f66n24 : List Ent := cB .leq (sy 16) (sy 18) false :: f66n22
def f66n25 : List Ent := cB .geq (sy 16) (iV 0) false :: f66n21
def f66n26 : List Ent := cB .lss (sy 13) (sy 14) false :: ⟨(.bi 0 [37]), [(sy 8)], (sy 14)⟩ :: []
def f66F27 : Fr := mkFr Try.f66 [(1, (sy 8)), (2, (sy 9)), (3, (sy 10)), (4, (sy 11)), (5, (pt 0 0)), (10, (iV 0)), (11, (sy 12)), (12, (sy 13))] []
theorem f66I28 : IdOk 14 1 0 f66F27 f66S4 := ⟨mkSt_wf rfl, by kernel_rfl⟩
theorem f66f63 : FnIn env 63 := ⟨Try.f63, (Try.f63.body).getD .skip, by kernel_rfl, by kernel_rfl⟩
def f66n29 : List CEnt := ⟨63, [(ag 0 8), (sy 9)], [], (sy 13)⟩ :: []
def f66F30 : Fr := mkFr Try.f66 [(1, (sy 8)), (3, (sy 10)), (4, (sy 11)), (10, (iV 0)), (11, (sy 12))] []
theorem f66I31 : IdOk 13 0 0 f66F30 f66S1 := ⟨mkSt_wf rfl, by kernel_rfl⟩
def f66F32 : Fr := mkFr Try.f66 [(1, (sy 8)), (3, (sy 10)), (4, (sy 11)), (10, (iV 0))] []
theorem f66I33 : IdOk 12 0 0 f66F32 f66S1 := ⟨mkSt_wf rfl, by kernel_rfl⟩
def f66n34 : List Ent := cB .gtr (sy 12) (iV 64) true :: ⟨(.bi 0 [50]), [(sy 10)], (sy 12)⟩ :: []
def f66n35 : List Ent := cB .gtr (sy 12) (iV 64) false :: ⟨(.bi 0 [50]), [(sy 10)], (sy 12)⟩ :: []
def f66F36 : Fr := mkFr Try.f66 [(1, (sy 8)), (3, (sy 10)), (4, (sy 11)), (10, (iV 0)), (13, (iV 0))] []
theorem f66I37 : IdOk 12 0 0 f66F36 f66S1 := ⟨mkSt_wf rfl, by kernel_rfl⟩
theorem f66f89 : FnIn env 89 := ⟨Try.f89, (Try.f89.body).getD .skip, by kernel_rfl, by kernel_rfl⟩
def f66n43 : List Ent := ⟨(.load 116), [(sy 14)], (ag 15 6)⟩ :: ⟨(.indexAddr 50), [(sy 10), (sy 12)], (sy 14)⟩ :: cB .lss (sy 12) (sy 13) true :: ⟨(.bi 0 [50]), [(sy 10)], (sy 13)⟩ :: []
def f66n44 : List CEnt := ⟨89, [(sy 8), (ag 15 6)], [], (sy 21)⟩ :: []
def f66n45 : List Ent := ⟨(.bin .neq 27), [(sy 21), (iV 0)], (.bool true)⟩ :: f66n43
def f66n46 : List Ent := aB .add (sy 12) (iV 1) (sy 22) :: ⟨(.bin .neq 27), [(sy 21), (iV 0)], (.bool false)⟩ :: f66n43
def f66n47 : List Ent := cB .lss (sy 12) (sy 13) false :: ⟨(.bi 0 [50]), [(sy 10)], (sy 13)⟩ :: []
def f66F48 : Fr := mkFr Try.f66 [(1, (sy 8)), (3, (sy 10)), (4, (sy 11)), (10, (iV 0)), (13, (sy 12))] []
theorem f66I49 : IdOk 13 0 0 f66F48 f66S1 := ⟨mkSt_wf rfl, by kernel_rfl⟩
def f66F50 : Fr := mkFr Try.f66 [(4, (sy 11)), (10, (iV 0))] []
theorem f66I51 : IdOk 12 0 0 f66F50 f66S1 := ⟨mkSt_wf rfl, by kernel_rfl⟩
def f66n52 : List Ent := cB .leq (sy 11) (iV 8) true :: cB .geq (sy 11) (iV 0) true :: []
def f66n53 : List Ent := cB .leq (sy 11) (iV 8) false :: cB .geq (sy 11) (iV 0) true :: []
def f66n54 : List Ent := cB .geq (sy 11) (iV 0) false :: []
theorem f66a0 : agreeL (ids 12) [] [] f66F0 f66S1 (frameOf Try.f66 [(ag 0 8), (sy 8), (sy 9), (sy 10), (sy 11)]) Ev.start = true := by kernel_rfl
def f66b1 : Code := headC f66b0
def f66b2 : Code := tailC f66b0
theorem f66q0 : f66b0 = .seq f66b1 f66b2 := by kernel_rfl
theorem f66r0 : gE [] [] [] [] f66b1 f66F0 f66S1 .normal (ids 12) [0] [] f66F3 f66S4 = some () := by kernel_rfl
def f66b3 : Code := headC f66b2
def f66b4 : Code := tailC f66b2
theorem f66q1 : f66b2 = .seq f66b3 f66b4 := by kernel_rfl
theorem f66r1 : gE [] f66n6 [] [] f66b3 f66F3 f66S4 .normal (ids 13) [0] [] f66F7 f66S4 = some () := by kernel_rfl
def f66b5 : Code := headC f66b4
def f66b6 : Code := tailC f66b4
theorem f66q2 : f66b4 = .seq f66b5 f66b6 := by kernel_rfl
theorem f66r2 : rE f66n9 [] [] [] f66b5 f66F7 f66S4 Try.f66 (endV (sy 12)) = some () := by kernel_rfl
theorem f66r3 : gE f66n10 [] [] [] f66b5 f66F7 f66S4 .normal (ids 13) [0] [] f66F7 f66S4 = some () := by kernel_rfl
def f66b7 : Code := headC f66b6
def f66b8 : Code := tailC f66b6
theorem f66q3 : f66b6 = .seq f66b7 f66b8 := by kernel_rfl
theorem f66r4 : rE f66n11 [] [] [] f66b7 f66F7 f66S4 Try.f66 (endV (iV 9)) = some () := by kernel_rfl
theorem f66r5 : gE f66n12 [] [] [] f66b7 f66F7 f66S4 .normal (ids 13) [0] [] f66F7 f66S4 = some () := by kernel_rfl
def f66b9 : Code := headC f66b8
def f66b10 : Code := tailC f66b8
theorem f66q4 : f66b8 = .seq f66b9 f66b10 := by kernel_rfl
def f66b11 : Code := headC f66b9
def f66b12 : Code := tailC f66b9
theorem f66q5 : f66b9 = .seq f66b11 f66b12 := by kernel_rfl
theorem f66r6 : gE [] [] [] [] f66b11 f66F7 f66S4 .normal (ids 13) [0] [] f66F13 f66S4 = some () := by kernel_rfl
def f66b13 : Code := inBlockC f66b12
theorem f66q6 : f66b12 = .block 0 f66b13 := by kernel_rfl
def f66b14 : Code := inLoopC f66b13
theorem f66q7 : f66b13 = .loop f66b14 := by kernel_rfl
theorem f66h8 : agreeL (ids 13 ++ [(iV 0)]) [0] [] f66F27 f66S4 f66F13 f66S4 = true := by kernel_rfl
theorem f66r7 : gE f66n23 [] [] [] f66b14 f66F27 f66S4 .normal (pk 13 [19]) [0] [] f66F27 f66S4 = some () := by kernel_rfl
theorem f66r8 : rE f66n24 [] [] [] f66b14 f66F27 f66S4 Try.f66 (endV (iV 4)) = some () := by kernel_rfl
theorem f66r9 : rE f66n25 [] [] [] f66b14 f66F27 f66S4 Try.f66 (endV (iV 4)) = some () := by kernel_rfl
theorem f66r10 : gE f66n26 [] [] [] f66b14 f66F27 f66S4 (.exit 0) (ids 13) [0] [] f66F7 f66S4 = some () := by kernel_rfl
def f66b15 : Code := headC f66b10
def f66b16 : Code := tailC f66b10
theorem f66q9 : f66b10 = .seq f66b15 f66b16 := by kernel_rfl
theorem f66r11 : gE [] f66n29 [] [] f66b15 f66F7 f66S4 .normal (pk 12 [13]) [] [] f66F30 f66S1 = some () := by kernel_rfl
def f66b17 : Code := headC f66b16
def f66b18 : Code := tailC f66b16
theorem f66q10 : f66b16 = .seq f66b17 f66b18 := by kernel_rfl
theorem f66r12 : rE f66n9 [] [] [] f66b17 f66F30 f66S1 Try.f66 (endV (sy 12)) = some () := by kernel_rfl
theorem f66r13 : gE f66n10 [] [] [] f66b17 f66F30 f66S1 .normal (ids 12) [] [] f66F32 f66S1 = some () := by kernel_rfl
def f66b19 : Code := headC f66b18
def f66b20 : Code := tailC f66b18
theorem f66q11 : f66b18 = .seq f66b19 f66b20 := by kernel_rfl
theorem f66r14 : rE f66n34 [] [] [] f66b19 f66F32 f66S1 Try.f66 (endV (iV 9)) = some () := by kernel_rfl
theorem f66r15 : gE f66n35 [] [] [] f66b19 f66F32 f66S1 .normal (ids 12) [] [] f66F32 f66S1 = some () := by kernel_rfl
def f66b21 : Code := headC f66b20
def f66b22 : Code := tailC f66b20
theorem f66q12 : f66b20 = .seq f66b21 f66b22 := by kernel_rfl
def f66b23 : Code := headC f66b21
def f66b24 : Code := tailC f66b21
theorem f66q13 : f66b21 = .seq f66b23 f66b24 := by kernel_rfl
theorem f66r16 : gE [] [] [] [] f66b23 f66F32 f66S1 .normal (ids 12) [] [] f66F36 f66S1 = some () := by kernel_rfl
def f66b25 : Code := inBlockC f66b24
theorem f66q14 : f66b24 = .block 2 f66b25 := by kernel_rfl
def f66b26 : Code := inLoopC f66b25
theorem f66q15 : f66b25 = .loop f66b26 := by kernel_rfl
theorem f66h16 : agreeL (ids 12 ++ [(iV 0)]) [] [] f66F48 f66S1 f66F36 f66S1 = true := by kernel_rfl
theorem f66r17 : rE f66n45 f66n44 [] [] f66b26 f66F48 f66S1 Try.f66 (endV (sy 21)) = some () := by kernel_rfl
theorem f66r18 : gE f66n46 f66n44 [] [] f66b26 f66F48 f66S1 .normal (pk 12 [22]) [] [] f66F48 f66S1 = some () := by kernel_rfl
theorem f66r19 : gE f66n47 [] [] [] f66b26 f66F48 f66S1 (.exit 2) (ids 12) [] [] f66F50 f66S1 = some () := by kernel_rfl
theorem f66r20 : lE f66n52 [] [] [] f66b22 f66F50 f66S1 Try.f66 (endV (iV 0)) = some () := by kernel_rfl
theorem f66r21 : lE f66n53 [] [] [] f66b22 f66F50 f66S1 Try.f66 (endV (iV 3)) = some () := by kernel_rfl
theorem f66r22 : lE f66n54 [] [] [] f66b22 f66F50 f66S1 Try.f66 (endV (iV 3)) = some () := by kernel_rfl
set_option maxHeartbeats 8000000 in
theorem rvalid_any (x0 : Int) (x1 : Int) (x2 : Int) (x3 : Int) (x4 : Int) (x5 : Int) (x6 : Int) (x7 : Int) (ast : Option Addr) (st : List Int) (qst : Nat) (aso : Option Addr) (so : List Src) (qso : Nat) (ap : Option Addr) (p : List Pk) (qp : Nat) (most : Int) (w0 : World) {tst : TypeId} (Hst : Lies w0 tst (flat intC st) ast st.length) {tso : TypeId} (Hso : Lies w0 tso (flat srcC so) aso so.length) {tp : TypeId} (Hp : Lies w0 tp (flat pkC p) ap p.length) (hn1 : st.length < 1000000) (hn2 : so.length < 1000000) (hn3 : p.length < 1000000) : Calls Try.prog 66 #[(mV x0 x1 x2 x3 x4 x5 x6 x7), (.slice ast st.length qst), (.slice aso so.length qso), (.slice ap p.length qp), (iV most)] w0 (fun en w' => en = .returned (iV (leftErr x0 x1 x2 x3 x4 x5 x6 x7 st so p most)) ∧ Below w0.heap.size w0 w') := by
  let vb : List Value := [(iV x0), (iV x1), (iV x2), (iV x3), (iV x4), (iV x5), (iV x6), (iV x7), (.slice ast st.length qst), (.slice aso so.length qso), (.slice ap p.length qp), (iV most)]
  let p0 : Rho := (RO w0 vb [])
  refine At.begin (ρ := p0) (c := f66b0) (@env_ok p0) f66I2 f66a0 (fun a w hat => ?_)
  refine g_seq f66q0 ?_
  let p1 : Rho := (RO w0 vb [])
  refine At.go (ρ1 := p0) (ρ2 := p1) f66r0 (@env_ok p0) trivial trivial trivial trivial f66I2 f66I5 hat (fun a w hat => .inl ⟨rfl, ?_⟩)
  refine g_seq f66q1 ?_
  have K0 : CA w0 19 #[(mV x0 x1 x2 x3 x4 x5 x6 x7)] (iV ((qcheck0 x0 x1 x2 x3 x4 x5 x6 x7))) := fun w hm => rcheckq_any x0 x1 x2 x3 x4 x5 x6 x7 w  
  let r1 : Rho := (RO w0 (vb ++ [(iV ((qcheck0 x0 x1 x2 x3 x4 x5 x6 x7)))]) [])
  let d2 : List Value := (vb ++ [(iV ((qcheck0 x0 x1 x2 x3 x4 x5 x6 x7)))])
  let p2 : Rho := RO w0 d2 []
  refine At.go (ρ1 := r1) (ρ2 := p2) f66r1 (@env_ok r1) trivial ⟨cok K0 f66f19, trivial⟩ trivial trivial f66I5 f66I8 hat (fun a w hat => .inl ⟨rfl, ?_⟩)
  refine g_seq f66q2 ?_
  by_cases c0 : (qcheck0 x0 x1 x2 x3 x4 x5 x6 x7) ≠ 0
  · have K1 : KA w0 (.bin .neq 27) [(iV ((qcheck0 x0 x1 x2 x3 x4 x5 x6 x7))), (iV 0)] (.bool true) := fun w hm => k_neq_t c0
    refine At.retsV (ρ1 := p2) f66r2 (@env_ok p2) ⟨enk K1, trivial⟩ trivial trivial trivial f66I8 hat (fun a w h => .inr ⟨(fun q => nomatch q), h⟩) (fun w2 hb => ?_)
    have v0 : ((qcheck0 x0 x1 x2 x3 x4 x5 x6 x7) : Int) = leftErr x0 x1 x2 x3 x4 x5 x6 x7 st so p most := by
      unfold leftErr
      rw [if_pos (by omega)]
    exact ret1 v0 hb
  have K2 : KA w0 (.bin .neq 27) [(iV ((qcheck0 x0 x1 x2 x3 x4 x5 x6 x7))), (iV 0)] (.bool false) := fun w hm => k_neq_f c0
  have hv := qcheck_ok (x0 := x0) (x1 := x1) (x2 := x2) (x3 := x3) (x4 := x4) (x5 := x5) (x6 := x6) (x7 := x7) (by omega)
  have hx := mul_bd (a := x0) (b := x1) (A := 24) (B := 24) (C := 576) (by omega) (by omega) (by omega) (by omega)
  let d3 : List Value := (vb ++ [(iV ((qcheck0 x0 x1 x2 x3 x4 x5 x6 x7)))])
  let p3 : Rho := RO w0 d3 []
  refine At.go (ρ1 := p2) (ρ2 := p3) f66r3 (@env_ok p2) ⟨enk K2, trivial⟩ trivial trivial trivial f66I8 f66I8 hat (fun a w hat => .inl ⟨rfl, ?_⟩)
  refine g_seq f66q3 ?_
  have K3 : KA w0 (.bi 0 [37]) [(.slice ast st.length qst)] (iV (((st.length : Nat) : Int))) := fun w hm => k_len Try.underlying37
  by_cases c1 : ((st.length : Nat) : Int) > 64
  · let r4 : Rho := (RO w0 (d3 ++ [(iV (((st.length : Nat) : Int)))]) [])
    refine At.retsV (ρ1 := r4) f66r4 (@env_ok r4) ⟨enk (kgtrt c1), enk K3, trivial⟩ trivial trivial trivial f66I8 hat (fun a w h => .inr ⟨(fun q => nomatch q), h⟩) (fun w2 hb => ?_)
    have v0 : (9 : Int) = leftErr x0 x1 x2 x3 x4 x5 x6 x7 st so p most := by
      unfold leftErr
      first
        | (rw [if_neg (by omega), if_pos (by omega)]; done)
        | (have hf1 : firstErr (cellErr x0 x1) st = 0 := firstErr_all (cellErr x0 x1) 0 st (fun k hk => i2 k (by omega))
           rw [if_neg (by omega), if_neg (by omega), if_neg (by omega), if_neg (by omega), if_pos (by omega)])
    exact ret1 v0 hb
  let r5 : Rho := (RO w0 (d3 ++ [(iV (((st.length : Nat) : Int)))]) [])
  let d4 : List Value := (vb ++ [(iV ((qcheck0 x0 x1 x2 x3 x4 x5 x6 x7)))])
  let p4 : Rho := RO w0 d4 []
  refine At.go (ρ1 := r5) (ρ2 := p4) f66r5 (@env_ok r5) ⟨enk (kgtrf c1), enk K3, trivial⟩ trivial trivial trivial f66I8 f66I8 hat (fun a w hat => .inl ⟨rfl, ?_⟩)
  refine g_seq f66q4 ?_
  refine g_seq f66q5 ?_
  let d5 : List Value := (vb ++ [(iV ((qcheck0 x0 x1 x2 x3 x4 x5 x6 x7)))])
  let p5 : Rho := RO w0 d5 []
  refine At.go (ρ1 := p4) (ρ2 := p5) f66r6 (@env_ok p4) trivial trivial trivial trivial f66I8 f66I14 hat (fun a w hat => .inl ⟨rfl, ?_⟩)
  refine g_block f66q6 ?_
  have hat0 := At.shiftL (ρ1 := p5) (ρ2 := (RO w0 (vb ++ [(iV ((qcheck0 x0 x1 x2 x3 x4 x5 x6 x7))), (iV ((0 : Int)))]) [])) (σ := (ids 13 ++ [(iV 0)])) (π := [0]) (τ := []) ⟨rfl, rfl, rfl, rfl, rfl, rfl, rfl, rfl, rfl, rfl, rfl, rfl, rfl, rfl, rfl, rfl, rfl, rfl, rfl, rfl, rfl, rfl, rfl, rfl, rfl, rfl, rfl, rfl, trivial⟩ trivial (fun _ _ h => h) f66I28.1 f66h8 hat
  clear hat
  refine g_loop (fun (x : Int) a w => (0 ≤ (x : Int) ∧ (x : Int) ≤ st.length ∧ (∀ k : Nat, (k : Int) < (x : Int) → cellErr x0 x1 (st.getD k 0) = 0)) ∧ @At (RO w0 (vb ++ [(iV ((qcheck0 x0 x1 x2 x3 x4 x5 x6 x7))), (iV ((x : Int)))]) []) w0 f66F27 f66S4 a w) (fun x => (st.length - (x : Int)).toNat) f66q7 ?_ (0) ⟨?_, hat0⟩
  · clear hat0
    rintro i a w ⟨hinv, hat⟩
    change 0 ≤ i ∧ i ≤ st.length ∧ (∀ k : Nat, (k : Int) < i → cellErr x0 x1 (st.getD k 0) = 0) at hinv
    let d6 : List Value := (vb ++ [(iV ((qcheck0 x0 x1 x2 x3 x4 x5 x6 x7))), (iV i)])
    let p6 : Rho := RO w0 d6 []
    change @At p6 w0 f66F27 f66S4 a w at hat
    obtain ⟨i0, i1, i2⟩ := hinv
    have K15 : KA w0 (.bi 0 [37]) [(.slice ast st.length qst)] (iV (((st.length : Nat) : Int))) := fun w hm => k_len Try.underlying37
    by_cases c2 : i < ((st.length : Nat) : Int)
    · have K16 : KA w0 (.indexAddr 37) [(.slice ast st.length qst), (iV i)] (.pointer (ptrO ast ((i).toNat * 1))) := fun w hm => l_index (Hst.keep hm) Try.underlying37 (by kernel_rfl) (by omega) (by omega)
      obtain ⟨z3, hz3⟩ : ∃ z : Int, z = st.getD (i).toNat 0 := ⟨_, rfl⟩
      have K17 : KA w0 (.load 3) [(.pointer (ptrO ast ((i).toNat * 1)))] (iV z3) := fun w hm => l_load (Hst.keep hm) (by omega) Try.underlying3 rfl (flat_getz (c := intC) (sz := 1) (fun _ => rfl) hz3 (by omega) 0 _ rfl)
      have K18 : KA w0 (.bin .mul 3) [(iV x0), (iV x1)] (iV ((x0 * x1))) := fun w hm => k_mul (wrap64 (by omega))
      have K19 := kSub w0 ((x0 * x1)) (1) (by omega)
      by_cases c4 : z3 ≥ 0
      · by_cases c5 : z3 ≤ ((x0 * x1) - 1)
        · have K20 := kAdd w0 (i) (1) (by omega)
          let r7 : Rho := (RO w0 (d6 ++ [(iV (((st.length : Nat) : Int))), (.pointer (ptrO ast ((i).toNat * 1))), (iV z3), (iV ((x0 * x1))), (iV (((x0 * x1) - 1))), (iV ((i + 1)))]) [])
          refine At.goS (ρ1 := r7) (ρ2 := (RO w0 (vb ++ [(iV ((qcheck0 x0 x1 x2 x3 x4 x5 x6 x7))), (iV (((i + 1) : Int)))]) [])) f66r7 (@env_ok r7) ⟨enk K20, enk (kleqt c5), enk (kgeqt c4), enk K19, enk K18, enk K17, enk K16, enk (klsst c2), enk K15, trivial⟩ trivial trivial trivial f66I28 f66I28 hat (SubOk.om rfl rfl) (LsubOk.om rfl) (fun a w hat => .inl ⟨rfl, ⟨((i + 1)), ?_, ?_, hat⟩⟩)
          · show (st.length - ((i + 1) : Int)).toNat < (st.length - i).toNat
            omega
          show 0 ≤ ((i + 1) : Int) ∧ ((i + 1) : Int) ≤ st.length ∧ (∀ k : Nat, (k : Int) < ((i + 1) : Int) → cellErr x0 x1 (st.getD k 0) = 0)
          have hs : cellErr x0 x1 z3 = 0 := by unfold cellErr; rw [if_pos (by omega)]
          refine ⟨by omega, by omega, fun k hk => ?_⟩
          rcases Int.lt_or_le (k : Int) i with q | q
          · exact i2 k q
          · have e : k = i.toNat := (by omega)
            subst e; rw [← hz3]; exact hs
        let r8 : Rho := (RO w0 (d6 ++ [(iV (((st.length : Nat) : Int))), (.pointer (ptrO ast ((i).toNat * 1))), (iV z3), (iV ((x0 * x1))), (iV (((x0 * x1) - 1)))]) [])
        refine At.retsV (ρ1 := r8) f66r8 (@env_ok r8) ⟨enk (kleqf c5), enk (kgeqt c4), enk K19, enk K18, enk K17, enk K16, enk (klsst c2), enk K15, trivial⟩ trivial trivial trivial f66I28 hat (fun a w h => .inr ⟨.inr rfl, .inr ⟨(fun q => nomatch q), .inr ⟨(fun q => nomatch q), h⟩⟩⟩) (fun w2 hb => ?_)
        have v0 : (4 : Int) = leftErr x0 x1 x2 x3 x4 x5 x6 x7 st so p most := by
          have hs : cellErr x0 x1 z3 = 4 := by unfold cellErr; rw [if_neg (by omega)]
          have hf := firstErr_at (cellErr x0 x1) 0 st (i).toNat (by omega) (fun k hk => i2 k (by omega)) (by rw [← hz3, hs]; decide)
          rw [← hz3, hs] at hf
          unfold leftErr
          rw [if_neg (by omega), if_neg (by omega), if_pos (by omega), hf]
        exact ret1 v0 hb
      let r9 : Rho := (RO w0 (d6 ++ [(iV (((st.length : Nat) : Int))), (.pointer (ptrO ast ((i).toNat * 1))), (iV z3), (iV ((x0 * x1))), (iV (((x0 * x1) - 1)))]) [])
      refine At.retsV (ρ1 := r9) f66r9 (@env_ok r9) ⟨enk (kgeqf c4), enk K19, enk K18, enk K17, enk K16, enk (klsst c2), enk K15, trivial⟩ trivial trivial trivial f66I28 hat (fun a w h => .inr ⟨.inr rfl, .inr ⟨(fun q => nomatch q), .inr ⟨(fun q => nomatch q), h⟩⟩⟩) (fun w2 hb => ?_)
      have v0 : (4 : Int) = leftErr x0 x1 x2 x3 x4 x5 x6 x7 st so p most := by
        have hs : cellErr x0 x1 z3 = 4 := by unfold cellErr; rw [if_neg (by omega)]
        have hf := firstErr_at (cellErr x0 x1) 0 st (i).toNat (by omega) (fun k hk => i2 k (by omega)) (by rw [← hz3, hs]; decide)
        rw [← hz3, hs] at hf
        unfold leftErr
        rw [if_neg (by omega), if_neg (by omega), if_pos (by omega), hf]
      exact ret1 v0 hb
    let r10 : Rho := (RO w0 (d6 ++ [(iV (((st.length : Nat) : Int)))]) [])
    let d7 : List Value := (vb ++ [(iV ((qcheck0 x0 x1 x2 x3 x4 x5 x6 x7)))])
    let p7 : Rho := RO w0 d7 []
    refine At.go (ρ1 := r10) (ρ2 := p7) f66r10 (@env_ok r10) ⟨enk (klssf c2), enk K15, trivial⟩ trivial trivial trivial f66I28 f66I8 hat (fun a w hat => .inr ⟨.inl ⟨0, rfl⟩, .inl ⟨rfl, .inl ⟨rfl, ?_⟩⟩⟩)
    refine g_seq f66q9 ?_
    obtain ⟨y6, hy6⟩ : ∃ y : Int, y = (srcsErr x0 x1 so) := ⟨_, rfl⟩
    have K21 : CA w0 63 #[(mV x0 x1 x2 x3 x4 x5 x6 x7), (.slice aso so.length qso)] (iV y6) := fun w hm => (by rw [hy6]; exact rsources_any x0 x1 x2 x3 x4 x5 x6 x7 aso so qso w (Hso.keep hm) (by omega) (by omega) (by omega))
    let r11 : Rho := (RO w0 (d7 ++ [(iV y6)]) [])
    let d8 : List Value := (vb ++ [(iV y6)])
    let p8 : Rho := RO w0 d8 []
    refine At.go (ρ1 := r11) (ρ2 := p8) f66r11 (@env_ok r11) trivial ⟨cok K21 f66f63, trivial⟩ trivial trivial f66I8 f66I31 hat (fun a w hat => .inl ⟨rfl, ?_⟩)
    refine g_seq f66q10 ?_
    by_cases c7 : y6 ≠ 0
    · have K22 : KA w0 (.bin .neq 27) [(iV y6), (iV 0)] (.bool true) := fun w hm => k_neq_t c7
      refine At.retsV (ρ1 := p8) f66r12 (@env_ok p8) ⟨enk K22, trivial⟩ trivial trivial trivial f66I31 hat (fun a w h => .inr ⟨(fun q => nomatch q), h⟩) (fun w2 hb => ?_)
      have v0 : (y6 : Int) = leftErr x0 x1 x2 x3 x4 x5 x6 x7 st so p most := by
        have hf1 : firstErr (cellErr x0 x1) st = 0 := firstErr_all (cellErr x0 x1) 0 st (fun k hk => i2 k (by omega))
        unfold leftErr
        rw [if_neg (by omega), if_neg (by omega), if_neg (by omega), if_pos (by omega)]
        omega
      exact ret1 v0 hb
    have K23 : KA w0 (.bin .neq 27) [(iV y6), (iV 0)] (.bool false) := fun w hm => k_neq_f c7
    let p9 : Rho := (RO w0 vb [])
    refine At.go (ρ1 := p8) (ρ2 := p9) f66r13 (@env_ok p8) ⟨enk K23, trivial⟩ trivial trivial trivial f66I31 f66I33 hat (fun a w hat => .inl ⟨rfl, ?_⟩)
    refine g_seq f66q11 ?_
    have K24 : KA w0 (.bi 0 [50]) [(.slice ap p.length qp)] (iV (((p.length : Nat) : Int))) := fun w hm => k_len Try.underlying50
    by_cases c8 : ((p.length : Nat) : Int) > 64
    · let r14 : Rho := (RO w0 (vb ++ [(iV (((p.length : Nat) : Int)))]) [])
      refine At.retsV (ρ1 := r14) f66r14 (@env_ok r14) ⟨enk (kgtrt c8), enk K24, trivial⟩ trivial trivial trivial f66I33 hat (fun a w h => .inr ⟨(fun q => nomatch q), h⟩) (fun w2 hb => ?_)
      have v0 : (9 : Int) = leftErr x0 x1 x2 x3 x4 x5 x6 x7 st so p most := by
        unfold leftErr
        first
          | (rw [if_neg (by omega), if_pos (by omega)]; done)
          | (have hf1 : firstErr (cellErr x0 x1) st = 0 := firstErr_all (cellErr x0 x1) 0 st (fun k hk => i2 k (by omega))
             rw [if_neg (by omega), if_neg (by omega), if_neg (by omega), if_neg (by omega), if_pos (by omega)])
      exact ret1 v0 hb
    let r15 : Rho := (RO w0 (vb ++ [(iV (((p.length : Nat) : Int)))]) [])
    let p10 : Rho := (RO w0 vb [])
    refine At.go (ρ1 := r15) (ρ2 := p10) f66r15 (@env_ok r15) ⟨enk (kgtrf c8), enk K24, trivial⟩ trivial trivial trivial f66I33 f66I33 hat (fun a w hat => .inl ⟨rfl, ?_⟩)
    refine g_seq f66q12 ?_
    refine g_seq f66q13 ?_
    let p11 : Rho := (RO w0 vb [])
    refine At.go (ρ1 := p10) (ρ2 := p11) f66r16 (@env_ok p10) trivial trivial trivial trivial f66I33 f66I37 hat (fun a w hat => .inl ⟨rfl, ?_⟩)
    refine g_block f66q14 ?_
    have hat0 := At.shiftL (ρ1 := p11) (ρ2 := (RO w0 (vb ++ [(iV ((0 : Int)))]) [])) (σ := (ids 12 ++ [(iV 0)])) (π := []) (τ := []) ⟨rfl, rfl, rfl, rfl, rfl, rfl, rfl, rfl, rfl, rfl, rfl, rfl, rfl, rfl, rfl, rfl, rfl, rfl, rfl, rfl, rfl, rfl, rfl, rfl, rfl, rfl, trivial⟩ trivial (fun _ _ h => h) f66I49.1 f66h16 hat
    clear hat
    refine g_loop (fun (x : Int) a w => (0 ≤ (x : Int) ∧ (x : Int) ≤ p.length ∧ (∀ k : Nat, (k : Int) < (x : Int) → pkErr st.length (p.getD k pkD) = 0)) ∧ @At (RO w0 (vb ++ [(iV ((x : Int)))]) []) w0 f66F48 f66S1 a w) (fun x => (p.length - (x : Int)).toNat) f66q15 ?_ (0) ⟨?_, hat0⟩
    · clear hat0
      rintro j a w ⟨hinv, hat⟩
      change 0 ≤ j ∧ j ≤ p.length ∧ (∀ k : Nat, (k : Int) < j → pkErr st.length (p.getD k pkD) = 0) at hinv
      let d12 : List Value := (vb ++ [(iV j)])
      let p12 : Rho := RO w0 d12 []
      change @At p12 w0 f66F48 f66S1 a w at hat
      obtain ⟨j0, j1, j2⟩ := hinv
      have K38 : KA w0 (.bi 0 [50]) [(.slice ap p.length qp)] (iV (((p.length : Nat) : Int))) := fun w hm => k_len Try.underlying50
      by_cases c9 : j < ((p.length : Nat) : Int)
      · have K39 : KA w0 (.indexAddr 50) [(.slice ap p.length qp), (iV j)] (.pointer (ptrO ap ((j).toNat * 6))) := fun w hm => l_index (Hp.keep hm) Try.underlying50 (by kernel_rfl) (by omega) (by omega)
        obtain ⟨z10, hz10⟩ : ∃ z : Pk, z = p.getD (j).toNat pkD := ⟨_, rfl⟩
        have K40 : KA w0 (.load 116) [(.pointer (ptrO ap ((j).toNat * 6)))] (.agg #[(iV z10.kind), (iV z10.station), (iV z10.t0), (iV z10.t1), (iV z10.l0), (iV z10.l1)]) := fun w hm => l_loadS (Hp.keep hm) (by omega) Try.underlying116 rfl (l := [(iV z10.kind), (iV z10.station), (iV z10.t0), (iV z10.t1), (iV z10.l0), (iV z10.l1)]) (by kernel_rfl) (flat_getz (c := pkC) (sz := 6) (fun _ => rfl) hz10 (by omega))
        obtain ⟨y11, hy11⟩ : ∃ y : Int, y = (pkErr st.length z10) := ⟨_, rfl⟩
        have K41 : CA w0 89 #[(.slice ast st.length qst), (.agg #[(iV z10.kind), (iV z10.station), (iV z10.t0), (iV z10.t1), (iV z10.l0), (iV z10.l1)])] (iV y11) := fun w hm => (by rw [hy11]; exact rpick_any ast st qst z10 w (Hst.keep hm) (by omega))
        by_cases c12 : y11 ≠ 0
        · have K42 : KA w0 (.bin .neq 27) [(iV y11), (iV 0)] (.bool true) := fun w hm => k_neq_t c12
          let r17 : Rho := (RO w0 (d12 ++ [(iV (((p.length : Nat) : Int))), (.pointer (ptrO ap ((j).toNat * 6))), (iV z10.kind), (iV z10.station), (iV z10.t0), (iV z10.t1), (iV z10.l0), (iV z10.l1), (iV y11)]) [])
          refine At.retsV (ρ1 := r17) f66r17 (@env_ok r17) ⟨enk K42, enk K40, enk K39, enk (klsst c9), enk K38, trivial⟩ ⟨cok K41 f66f89, trivial⟩ trivial trivial f66I49 hat (fun a w h => .inr ⟨.inr rfl, .inr ⟨(fun q => nomatch q), .inr ⟨(fun q => nomatch q), h⟩⟩⟩) (fun w2 hb => ?_)
          have v0 : (y11 : Int) = leftErr x0 x1 x2 x3 x4 x5 x6 x7 st so p most := by
            have hf1 : firstErr (cellErr x0 x1) st = 0 := firstErr_all (cellErr x0 x1) 0 st (fun k hk => i2 k (by omega))
            have hs : pkErr st.length z10 = y11 := by omega
            have hf := firstErr_at (pkErr st.length) pkD p (j).toNat (by omega) (fun k hk => j2 k (by omega)) (by rw [← hz10, hs]; omega)
            rw [← hz10, hs] at hf
            unfold leftErr
            rw [if_neg (by omega), if_neg (by omega), if_neg (by omega), if_neg (by omega), if_neg (by omega), if_pos (by omega), hf]
          exact ret1 v0 hb
        have K43 : KA w0 (.bin .neq 27) [(iV y11), (iV 0)] (.bool false) := fun w hm => k_neq_f c12
        have K44 := kAdd w0 (j) (1) (by omega)
        let r18 : Rho := (RO w0 (d12 ++ [(iV (((p.length : Nat) : Int))), (.pointer (ptrO ap ((j).toNat * 6))), (iV z10.kind), (iV z10.station), (iV z10.t0), (iV z10.t1), (iV z10.l0), (iV z10.l1), (iV y11), (iV ((j + 1)))]) [])
        refine At.goS (ρ1 := r18) (ρ2 := (RO w0 (vb ++ [(iV (((j + 1) : Int)))]) [])) f66r18 (@env_ok r18) ⟨enk K44, enk K43, enk K40, enk K39, enk (klsst c9), enk K38, trivial⟩ ⟨cok K41 f66f89, trivial⟩ trivial trivial f66I49 f66I49 hat (SubOk.om rfl rfl) (LsubOk.om rfl) (fun a w hat => .inl ⟨rfl, ⟨((j + 1)), ?_, ?_, hat⟩⟩)
        · show (p.length - ((j + 1) : Int)).toNat < (p.length - j).toNat
          omega
        show 0 ≤ ((j + 1) : Int) ∧ ((j + 1) : Int) ≤ p.length ∧ (∀ k : Nat, (k : Int) < ((j + 1) : Int) → pkErr st.length (p.getD k pkD) = 0)
        refine ⟨by omega, by omega, fun k hk => ?_⟩
        rcases Int.lt_or_le (k : Int) j with q | q
        · exact j2 k q
        · have e : k = j.toNat := (by omega)
          subst e; rw [← hz10]; omega
      let r19 : Rho := (RO w0 (d12 ++ [(iV (((p.length : Nat) : Int)))]) [])
      let p13 : Rho := (RO w0 vb [])
      refine At.go (ρ1 := r19) (ρ2 := p13) f66r19 (@env_ok r19) ⟨enk (klssf c9), enk K38, trivial⟩ trivial trivial trivial f66I49 f66I51 hat (fun a w hat => .inr ⟨.inl ⟨2, rfl⟩, .inl ⟨rfl, .inl ⟨rfl, ?_⟩⟩⟩)
      by_cases c13 : most ≥ 0
      · by_cases c14 : most ≤ 8
        · refine At.lastsV (ρ1 := p13) f66r20 (@env_ok p13) ⟨enk (kleqt c14), enk (kgeqt c13), trivial⟩ trivial trivial trivial f66I51 hat (fun w2 hb => ?_)
          have v0 : (0 : Int) = leftErr x0 x1 x2 x3 x4 x5 x6 x7 st so p most := by
            have hf1 : firstErr (cellErr x0 x1) st = 0 := firstErr_all (cellErr x0 x1) 0 st (fun k hk => i2 k (by omega))
            have hf2 : firstErr (pkErr st.length) p = 0 := firstErr_all (pkErr st.length) pkD p (fun k hk => j2 k (by omega))
            unfold leftErr
            rw [if_neg (by omega), if_neg (by omega), if_neg (by omega), if_neg (by omega), if_neg (by omega), if_neg (by omega)]
            first | rw [if_pos (by omega)] | rw [if_neg (by omega)]
          exact ret1 v0 hb
        refine At.lastsV (ρ1 := p13) f66r21 (@env_ok p13) ⟨enk (kleqf c14), enk (kgeqt c13), trivial⟩ trivial trivial trivial f66I51 hat (fun w2 hb => ?_)
        have v0 : (3 : Int) = leftErr x0 x1 x2 x3 x4 x5 x6 x7 st so p most := by
          have hf1 : firstErr (cellErr x0 x1) st = 0 := firstErr_all (cellErr x0 x1) 0 st (fun k hk => i2 k (by omega))
          have hf2 : firstErr (pkErr st.length) p = 0 := firstErr_all (pkErr st.length) pkD p (fun k hk => j2 k (by omega))
          unfold leftErr
          rw [if_neg (by omega), if_neg (by omega), if_neg (by omega), if_neg (by omega), if_neg (by omega), if_neg (by omega)]
          first | rw [if_pos (by omega)] | rw [if_neg (by omega)]
        exact ret1 v0 hb
      refine At.lastsV (ρ1 := p13) f66r22 (@env_ok p13) ⟨enk (kgeqf c13), trivial⟩ trivial trivial trivial f66I51 hat (fun w2 hb => ?_)
      have v0 : (3 : Int) = leftErr x0 x1 x2 x3 x4 x5 x6 x7 st so p most := by
        have hf1 : firstErr (cellErr x0 x1) st = 0 := firstErr_all (cellErr x0 x1) 0 st (fun k hk => i2 k (by omega))
        have hf2 : firstErr (pkErr st.length) p = 0 := firstErr_all (pkErr st.length) pkD p (fun k hk => j2 k (by omega))
        unfold leftErr
        rw [if_neg (by omega), if_neg (by omega), if_neg (by omega), if_neg (by omega), if_neg (by omega), if_neg (by omega)]
        first | rw [if_pos (by omega)] | rw [if_neg (by omega)]
      exact ret1 v0 hb
    · show 0 ≤ (0 : Int) ∧ (0 : Int) ≤ p.length ∧ (∀ k : Nat, (k : Int) < (0 : Int) → pkErr st.length (p.getD k pkD) = 0)
      exact ⟨by omega, by omega, fun k hk => by omega⟩
  · show 0 ≤ (0 : Int) ∧ (0 : Int) ≤ st.length ∧ (∀ k : Nat, (k : Int) < (0 : Int) → cellErr x0 x1 (st.getD k 0) = 0)
    exact ⟨by omega, by omega, fun k hk => by omega⟩
end
end Go.Proofs.Ytoaehigmpbhppaa.En
namespace Go.Proofs.Ytoaehigmpbhppaa.En
open Go Go.Ev Go.Proofs Go.RowKit
set_option maxRecDepth 1000000
noncomputable section
def f28b0 : Code := (Try.f28.body).getD .skip
def f28F0 : Fr := mkFr Try.f28 [(0, (ag 0 8)), (1, (sy 8)), (2, (sy 9)), (3, (sy 10)), (4, (sy 11))] []
def f28S1 : St := mkSt 0 []
theorem f28I2 : IdOk 12 0 0 f28F0 f28S1 := ⟨mkSt_wf rfl, by kernel_rfl⟩
theorem f28f66 : FnIn env 66 := ⟨Try.f66, (Try.f66.body).getD .skip, by kernel_rfl, by kernel_rfl⟩
def f28n3 : List CEnt := ⟨66, [(ag 0 8), (sy 8), (sy 9), (sy 10), (sy 11)], [], (sy 12)⟩ :: []
def f28n4 : List Ent := ⟨(.bin .neq 27), [(sy 12), (iV 0)], (.bool true)⟩ :: []
def f28n5 : List Ent := ⟨(.bin .neq 27), [(sy 12), (iV 0)], (.bool false)⟩ :: []
def f28n6 : List CLEnt := ⟨67, [(ag 0 8), (sy 8), (sy 9), (sy 10), (sy 11)], [], 1, 0, 54, 5, 13, (ls 1 13)⟩ :: []
theorem f28a0 : agreeL (ids 12) [] [] f28F0 f28S1 (frameOf Try.f28 [(ag 0 8), (sy 8), (sy 9), (sy 10), (sy 11)]) Ev.start = true := by kernel_rfl
theorem f28r0 : lE f28n4 f28n3 [] [] f28b0 f28F0 f28S1 Try.f28 (endV (.tuple #[(.slice .none 0 0), (sy 12)])) = some () := by kernel_rfl
theorem f28r1 : lE f28n5 f28n3 [] f28n6 f28b0 f28F0 f28S1 Try.f28 (endL (.tuple #[(ls 1 13), (iV 0)]) 1 0 54 5) = some () := by kernel_rfl
set_option maxHeartbeats 8000000 in
theorem rLeft_any (x0 : Int) (x1 : Int) (x2 : Int) (x3 : Int) (x4 : Int) (x5 : Int) (x6 : Int) (x7 : Int) (ast : Option Addr) (st : List Int) (qst : Nat) (aso : Option Addr) (so : List Src) (qso : Nat) (ap : Option Addr) (p : List Pk) (qp : Nat) (most : Int) (w0 : World) {tst : TypeId} (Hst : Lies w0 tst (flat intC st) ast st.length) {tso : TypeId} (Hso : Lies w0 tso (flat srcC so) aso so.length) {tp : TypeId} (Hp : Lies w0 tp (flat pkC p) ap p.length) (hn1 : st.length < 1000000) (hn2 : so.length < 1000000) (hn3 : p.length < 1000000) : Calls Try.prog 28 #[(mV x0 x1 x2 x3 x4 x5 x6 x7), (.slice ast st.length qst), (.slice aso so.length qso), (.slice ap p.length qp), (iV most)] w0 (fun en w' => ∃ a C, en = .returned (.tuple #[.slice a (refL x0 x1 x2 x3 x4 x5 x6 x7 st so p most).length C, iV (leftErr x0 x1 x2 x3 x4 x5 x6 x7 st so p most)]) ∧ NewList w0 w' 54 5 (flat srcC (refL x0 x1 x2 x3 x4 x5 x6 x7 st so p most)) a (refL x0 x1 x2 x3 x4 x5 x6 x7 st so p most).length C ∧ Below w0.heap.size w0 w') := by
  let vb : List Value := [(iV x0), (iV x1), (iV x2), (iV x3), (iV x4), (iV x5), (iV x6), (iV x7), (.slice ast st.length qst), (.slice aso so.length qso), (.slice ap p.length qp), (iV most)]
  let p0 : Rho := (RO w0 vb [])
  refine At.begin (ρ := p0) (c := f28b0) (@env_ok p0) f28I2 f28a0 (fun a w hat => ?_)
  obtain ⟨y0, hy0⟩ : ∃ y : Int, y = (leftErr x0 x1 x2 x3 x4 x5 x6 x7 st so p most) := ⟨_, rfl⟩
  have K0 : CA w0 66 #[(mV x0 x1 x2 x3 x4 x5 x6 x7), (.slice ast st.length qst), (.slice aso so.length qso), (.slice ap p.length qp), (iV most)] (iV y0) := fun w hm => (by rw [hy0]; exact rvalid_any x0 x1 x2 x3 x4 x5 x6 x7 ast st qst aso so qso ap p qp most w (Hst.keep hm) (Hso.keep hm) (Hp.keep hm) (by omega) (by omega) (by omega))
  by_cases c1 : y0 ≠ 0
  · have K1 : KA w0 (.bin .neq 27) [(iV y0), (iV 0)] (.bool true) := fun w hm => k_neq_t c1
    let r0 : Rho := (RO w0 (vb ++ [(iV y0)]) [])
    refine At.lastsV (ρ1 := r0) f28r0 (@env_ok r0) ⟨enk K1, trivial⟩ ⟨cok K0 f28f66, trivial⟩ trivial trivial f28I2 hat (fun w2 hb => ?_)
    have v0 : (y0 : Int) = leftErr x0 x1 x2 x3 x4 x5 x6 x7 st so p most := by
      omega
    have hL : [] = refL x0 x1 x2 x3 x4 x5 x6 x7 st so p most := by
      unfold refL
      first | (rw [if_neg (by omega)]; done) | (rw [if_pos (by omega)]; done)
    have hN : (refL x0 x1 x2 x3 x4 x5 x6 x7 st so p most).length = 0 := by rw [← hL]; rfl
    refine ⟨none, 0, ?_, ⟨?_, .inl ⟨rfl, hN, rfl⟩⟩, hb⟩
    · rw [hN]; exact congrArg Ending.returned (congrArg (fun (y0 : Int) => (.tuple #[.slice none 0 0, iV y0] : Value)) v0)
    · rw [← hL]; rfl
  have K2 : KA w0 (.bin .neq 27) [(iV y0), (iV 0)] (.bool false) := fun w hm => k_neq_f c1
  obtain ⟨v0m, hs2, hst2, hn4, hso2, hp2, hpk2, hm2⟩ := leftErr_ok (x0 := x0) (x1 := x1) (x2 := x2) (x3 := x3) (x4 := x4) (x5 := x5) (x6 := x6) (x7 := x7) (st := st) (so := so) (p := p) (f := most) (by omega)
  let r1 : Rho := (RO w0 (vb ++ [(iV y0), (iV ((((so.filterMap (refOne x0 x1 x2 x3 x4 x5 x6 x7 st most p)).length : Nat) : Int)))]) [(flat srcC (so.filterMap (refOne x0 x1 x2 x3 x4 x5 x6 x7 st most p)))])
  refine At.lastsL (ρ1 := r1) (n := (so.filterMap (refOne x0 x1 x2 x3 x4 x5 x6 x7 st most p)).length) (some [(iV 0)]) f28r1 (@env_ok r1) ⟨enk K2, trivial⟩ ⟨cok K0 f28f66, trivial⟩ trivial ⟨(@CLEntOk.lists r1 Try.prog _ 67 [(ag 0 8), (sy 8), (sy 9), (sy 10), (sy 11)] [] 1 0 54 5 13 (so.filterMap (refOne x0 x1 x2 x3 x4 x5 x6 x7 st most p)).length (ls 1 13) none rfl ⟨Try.f67, (Try.f67.body).getD .skip, by kernel_rfl, by kernel_rfl⟩ rfl rfl (fun w asg hm hl => rall_any x0 x1 x2 x3 x4 x5 x6 x7 ast st qst aso so qso ap p qp most w (Hst.keep hm) (Hso.keep hm) (Hp.keep hm) v0m hst2 hpk2 (by omega) (by omega) (by omega) hso2)), trivial⟩ f28I2 hat rfl (by show ((flat srcC (so.filterMap (refOne x0 x1 x2 x3 x4 x5 x6 x7 st most p))) : List Value).length = ((so.filterMap (refOne x0 x1 x2 x3 x4 x5 x6 x7 st most p)).length) * 5; first | exact flat_len (fun _ => rfl) _ | simp [flat_len (c := srcC) (sz := 5) (fun _ => rfl), srcC] <;> omega) (fun w2 a2 C2 hb hn => ?_)
  have v0 : (0 : Int) = leftErr x0 x1 x2 x3 x4 x5 x6 x7 st so p most := by
    omega
  have hL : (so.filterMap (refOne x0 x1 x2 x3 x4 x5 x6 x7 st most p)) = refL x0 x1 x2 x3 x4 x5 x6 x7 st so p most := by
    unfold refL
    first | (rw [if_neg (by omega)]; done) | (rw [if_pos (by omega)]; done)
  have e1 : (so.filterMap (refOne x0 x1 x2 x3 x4 x5 x6 x7 st most p)).length = (refL x0 x1 x2 x3 x4 x5 x6 x7 st so p most).length := by rw [← hL]; try first | rfl | simp | simp [srcC]
  have e2 : ((flat srcC (so.filterMap (refOne x0 x1 x2 x3 x4 x5 x6 x7 st most p))) : List Value) = flat srcC (refL x0 x1 x2 x3 x4 x5 x6 x7 st so p most) := by rw [← hL]; try first | rfl | (simp [flat_snoc, srcC]; done) | (simp [flat, srcC]; done)
  have hn2 : NewList w0 w2 54 5 (flat srcC (refL x0 x1 x2 x3 x4 x5 x6 x7 st so p most)) a2 (refL x0 x1 x2 x3 x4 x5 x6 x7 st so p most).length C2 := by rw [← e1, ← e2]; exact hn
  have hv := congr (congrArg (fun (n2 : Nat) (y0 : Int) => (.tuple #[.slice a2 n2 C2, iV y0] : Value)) e1) v0
  exact ⟨a2, C2, congrArg Ending.returned hv, hn2, hb⟩
end
end Go.Proofs.Ytoaehigmpbhppaa.En
namespace Go.Proofs.Ytoaehigmpbhppaa.En
open Go Go.Ev Go.Proofs Go.RowKit
theorem filterMap_same {α β : Type} {f g : α → Option β} : ∀ {l : List α}, (∀ x ∈ l, f x = g x) → l.filterMap f = l.filterMap g
  | [], _ => rfl
  | x :: l, h => by
    rw [List.filterMap_cons, List.filterMap_cons, h x (by simp), filterMap_same (fun y hy => h y (by simp [hy]))]
theorem leftL_ref {x0 x1 x2 x3 x4 x5 x6 x7 : Int} {st : List Int} {so : List Src} {p : List Pk} {f : Int} : refL x0 x1 x2 x3 x4 x5 x6 x7 st so p f = leftL x0 x1 x2 x3 x4 x5 x6 x7 st so p f := by
  unfold leftL refL
  split
  · rename_i h
    obtain ⟨v, h1, h2, h3, h4, h5, h6, h7⟩ := leftErr_ok h
    refine filterMap_same (fun s hs => ?_)
    obtain ⟨k, hk, e⟩ := List.getElem_of_mem hs
    have hk2 := h4 k hk
    rw [show so.getD k srcD = s by simp [List.getD, List.getElem?_eq_getElem hk, e]] at hk2
    have ok := srcErr_ok hk2
    refine (left_one v (by omega) h2 (fun q hq => ?_) (by omega)).symm
    obtain ⟨j, hj, e2⟩ := List.getElem_of_mem hq
    have hj2 := h6 j hj
    rwa [show p.getD j pkD = q by simp [List.getD, List.getElem?_eq_getElem hj, e2]] at hj2
  · rfl
theorem leftL_len {x0 x1 x2 x3 x4 x5 x6 x7 : Int} {st : List Int} {so : List Src} {p : List Pk} {f : Int} : (leftL x0 x1 x2 x3 x4 x5 x6 x7 st so p f).length ≤ so.length := by
  unfold leftL
  split
  · exact List.length_filterMap_le _ _
  · simp
end Go.Proofs.Ytoaehigmpbhppaa.En
namespace Go.Proofs.Ytoaehigmpbhppaa.En
open Go Go.Ev Go.Proofs Go.RowKit
set_option maxRecDepth 1000000
noncomputable section
theorem take_snoc {α : Type} {d : α} {l : List α} {i : Nat} (h : i < l.length) : l.take (i + 1) = l.take i ++ [l.getD i d] := by
  have e : l.getD i d = l[i] := by simp [List.getD, List.getElem?_eq_getElem h]
  rw [e, List.take_succ_eq_append_getElem h]
def f29b0 : Code := (Try.f29.body).getD .skip
def f29F0 : Fr := mkFr Try.f29 [(0, (sy 0))] []
def f29S1 : St := mkSt 0 []
theorem f29I2 : IdOk 1 0 0 f29F0 f29S1 := ⟨mkSt_wf rfl, by kernel_rfl⟩
def f29F3 : Fr := mkFr Try.f29 [(0, (sy 0)), (2, (.slice .none 0 0))] []
theorem f29I4 : IdOk 1 0 0 f29F3 f29S1 := ⟨mkSt_wf rfl, by kernel_rfl⟩
def f29F5 : Fr := mkFr Try.f29 [(0, (sy 0)), (2, (.slice .none 0 0)), (3, (.slice .none 0 0))] []
theorem f29I6 : IdOk 1 0 0 f29F5 f29S1 := ⟨mkSt_wf rfl, by kernel_rfl⟩
def f29F7 : Fr := mkFr Try.f29 [(0, (sy 0)), (2, (.slice .none 0 0)), (3, (.slice .none 0 0)), (4, (iV 0))] []
theorem f29I8 : IdOk 1 0 0 f29F7 f29S1 := ⟨mkSt_wf rfl, by kernel_rfl⟩
def f29n11 : List Ent := aB .add (sy 2) (iV 1) (sy 12) :: ⟨(.load 84), [(sy 4)], (ag 5 6)⟩ :: ⟨(.indexAddr 46), [(sy 0), (sy 2)], (sy 4)⟩ :: cB .lss (sy 2) (sy 3) true :: ⟨(.bi 0 [46]), [(sy 0)], (sy 3)⟩ :: []
def f29n12 : List LEnt := (.grow 0 1 1 6 [(sy 5), (sy 6), (sy 7), (sy 8), (sy 9), (sy 10)] 1 11) :: []
def f29n13 : List Ent := cB .lss (sy 2) (sy 3) false :: ⟨(.bi 0 [46]), [(sy 0)], (sy 3)⟩ :: []
def f29F14 : Fr := mkFr Try.f29 [(0, (sy 0)), (2, (.slice .none 0 0)), (3, (ls 0 1)), (4, (sy 2))] []
def f29S15 : St := mkSt 1 [(0, (.lst 0 116 6))]
theorem f29I16 : IdOk 3 1 1 f29F14 f29S15 := ⟨mkSt_wf rfl, by kernel_rfl⟩
def f29F17 : Fr := mkFr Try.f29 [(2, (.slice .none 0 0)), (3, (ls 0 1))] []
theorem f29I18 : IdOk 2 1 1 f29F17 f29S15 := ⟨mkSt_wf rfl, by kernel_rfl⟩
theorem f29a0 : agreeL (ids 1) [] [] f29F0 f29S1 (frameOf Try.f29 [(sy 0)]) Ev.start = true := by kernel_rfl
def f29b1 : Code := headC f29b0
def f29b2 : Code := tailC f29b0
theorem f29q0 : f29b0 = .seq f29b1 f29b2 := by kernel_rfl
theorem f29r0 : gE [] [] [] [] f29b1 f29F0 f29S1 .normal [sy 0] [] [] f29F3 f29S1 = some () := by kernel_rfl
def f29b3 : Code := headC f29b2
def f29b4 : Code := tailC f29b2
theorem f29q1 : f29b2 = .seq f29b3 f29b4 := by kernel_rfl
theorem f29r1 : gE [] [] [] [] f29b3 f29F3 f29S1 .normal [sy 0] [] [] f29F5 f29S1 = some () := by kernel_rfl
def f29b5 : Code := headC f29b4
def f29b6 : Code := tailC f29b4
theorem f29q2 : f29b4 = .seq f29b5 f29b6 := by kernel_rfl
def f29b7 : Code := headC f29b5
def f29b8 : Code := tailC f29b5
theorem f29q3 : f29b5 = .seq f29b7 f29b8 := by kernel_rfl
theorem f29r2 : gE [] [] [] [] f29b7 f29F5 f29S1 .normal [sy 0] [] [] f29F7 f29S1 = some () := by kernel_rfl
def f29b9 : Code := inBlockC f29b8
theorem f29q4 : f29b8 = .block 0 f29b9 := by kernel_rfl
def f29b10 : Code := inLoopC f29b9
theorem f29q5 : f29b9 = .loop f29b10 := by kernel_rfl
theorem f29h6 : agreeL [(sy 0), (iV 0), (iV 0)] [0] [none] f29F14 f29S15 f29F7 f29S1 = true := by kernel_rfl
theorem f29r3 : gE f29n11 [] f29n12 [] f29b10 f29F14 f29S15 .normal [(sy 0), (sy 11), (sy 12)] [2] [some 1] f29F14 f29S15 = some () := by kernel_rfl
theorem f29r4 : gE f29n13 [] [] [] f29b10 f29F14 f29S15 (.exit 0) [sy 0, sy 1] [0] [some 0] f29F17 f29S15 = some () := by kernel_rfl
theorem f29r5 : lE [] [] [] [] f29b6 f29F17 f29S15 Try.f29 (endL (ls 0 1) 0 0 116 6) = some () := by kernel_rfl
set_option maxHeartbeats 8000000 in
theorem refPicks_any (ap : Option Addr) (p : List Pk) (qp : Nat) (w0 : World) {tp : TypeId} (Hp : Lies w0 tp (flat pkC p) ap p.length) (hn : p.length < 1000000) : Calls Try.prog 29 #[(.slice ap p.length qp)] w0 (fun en w' => ∃ a C, en = .returned (.slice a p.length C) ∧ NewList w0 w' 116 6 (flat pkC p) a p.length C ∧ Below w0.heap.size w0 w') := by
  let vb : List Value := [(.slice ap p.length qp)]
  let p0 : Rho := (RO w0 vb [])
  refine At.begin (ρ := p0) (c := f29b0) (@env_ok p0) f29I2 f29a0 (fun a w hat => ?_)
  refine g_seq f29q0 ?_
  let p1 : Rho := (RO w0 vb [])
  refine At.go (ρ1 := p0) (ρ2 := p1) f29r0 (@env_ok p0) trivial trivial trivial trivial f29I2 f29I4 hat (fun a w hat => .inl ⟨rfl, ?_⟩)
  refine g_seq f29q1 ?_
  let p2 : Rho := (RO w0 vb [])
  refine At.go (ρ1 := p1) (ρ2 := p2) f29r1 (@env_ok p1) trivial trivial trivial trivial f29I4 f29I6 hat (fun a w hat => .inl ⟨rfl, ?_⟩)
  refine g_seq f29q2 ?_
  refine g_seq f29q3 ?_
  let p3 : Rho := (RO w0 vb [])
  refine At.go (ρ1 := p2) (ρ2 := p3) f29r2 (@env_ok p2) trivial trivial trivial trivial f29I6 f29I8 hat (fun a w hat => .inl ⟨rfl, ?_⟩)
  refine g_block f29q4 ?_
  have hat0 := At.shiftL (ρ1 := p3) (ρ2 := (RO w0 (vb ++ [(iV (((([] : List Pk).length : Nat) : Int))), (iV ((0 : Int)))]) [(flat pkC ([] : List Pk))])) (σ := [(sy 0), (iV 0), (iV 0)]) (π := [0]) (τ := [none]) ⟨rfl, rfl, rfl, rfl, rfl, rfl, trivial⟩ ⟨rfl, trivial⟩ (fun _ _ h => h) f29I16.1 f29h6 hat
  clear hat
  refine g_loop (fun (x : List Pk × Int) a w => (0 ≤ (x.2 : Int) ∧ (x.2 : Int) ≤ p.length ∧ ((x.1 : List Pk).length : Int) ≤ (x.2 : Int) ∧ (x.1 : List Pk) = p.take (x.2 : Int).toNat) ∧ @At (RO w0 (vb ++ [(iV ((((x.1 : List Pk).length : Nat) : Int))), (iV ((x.2 : Int)))]) [(flat pkC (x.1 : List Pk))]) w0 f29F14 f29S15 a w) (fun x => (p.length - (x.2 : Int)).toNat) f29q5 ?_ ([], 0) ⟨?_, hat0⟩
  · clear hat0
    rintro ⟨L, i⟩ a w ⟨hinv, hat⟩
    change 0 ≤ i ∧ i ≤ p.length ∧ (L.length : Int) ≤ i ∧ L = p.take i.toNat at hinv
    let d4 : List Value := (vb ++ [(iV (((L.length : Nat) : Int))), (iV i)])
    let p4 : Rho := RO w0 d4 [(flat pkC L)]
    change @At p4 w0 f29F14 f29S15 a w at hat
    obtain ⟨i0, i1, i2, i3⟩ := hinv
    have K7 : KA w0 (.bi 0 [46]) [(.slice ap p.length qp)] (iV (((p.length : Nat) : Int))) := fun w hm => k_len Try.underlying46
    by_cases c0 : i < ((p.length : Nat) : Int)
    · have K8 : KA w0 (.indexAddr 46) [(.slice ap p.length qp), (iV i)] (.pointer (ptrO ap ((i).toNat * 6))) := fun w hm => l_index (Hp.keep hm) Try.underlying46 (by kernel_rfl) (by omega) (by omega)
      obtain ⟨z1, hz1⟩ : ∃ z : Pk, z = p.getD (i).toNat pkD := ⟨_, rfl⟩
      have K9 : KA w0 (.load 84) [(.pointer (ptrO ap ((i).toNat * 6)))] (.agg #[(iV z1.kind), (iV z1.station), (iV z1.t0), (iV z1.t1), (iV z1.l0), (iV z1.l1)]) := fun w hm => l_loadS (Hp.keep hm) (by omega) Try.underlying84 rfl (l := [(iV z1.kind), (iV z1.station), (iV z1.t0), (iV z1.t1), (iV z1.l0), (iV z1.l1)]) (by kernel_rfl) (flat_getz (c := pkC) (sz := 6) (fun _ => rfl) hz1 (by omega))
      have K10 := kAdd w0 (i) (1) (by omega)
      let r3 : Rho := (RO w0 (d4 ++ [(iV (((p.length : Nat) : Int))), (.pointer (ptrO ap ((i).toNat * 6))), (iV z1.kind), (iV z1.station), (iV z1.t0), (iV z1.t1), (iV z1.l0), (iV z1.l1), (iV (((L.length + 1 : Nat) : Int))), (iV ((i + 1)))]) [(flat pkC L), ((flat pkC L) ++ [(iV z1.kind), (iV z1.station), (iV z1.t0), (iV z1.t1), (iV z1.l0), (iV z1.l1)])])
      refine At.goS (ρ1 := r3) (ρ2 := (RO w0 (vb ++ [(iV (((((L ++ [(⟨z1.kind, z1.station, z1.t0, z1.t1, z1.l0, z1.l1⟩ : Pk)]) : List Pk).length : Nat) : Int))), (iV (((i + 1) : Int)))]) [(flat pkC ((L ++ [(⟨z1.kind, z1.station, z1.t0, z1.t1, z1.l0, z1.l1⟩ : Pk)]) : List Pk))])) f29r3 (@env_ok r3) ⟨enk K10, enk K9, enk K8, enk (klsst c0), enk K7, trivial⟩ trivial ⟨⟨rfl, rfl, L.length, rfl, rfl, (by show ((flat pkC L) : List Value).length = (L.length) * 6; first | exact flat_len (fun _ => rfl) _ | simp [flat_len (c := pkC) (sz := 6) (fun _ => rfl), pkC] <;> omega), rfl, (by omega)⟩, trivial⟩ trivial f29I16 f29I16 hat ⟨rfl, rfl, rfl, vl, rfl, rfl, trivial⟩ ⟨(by show (flat pkC (L ++ [(⟨z1.kind, z1.station, z1.t0, z1.t1, z1.l0, z1.l1⟩ : Pk)]) : List Value) = ((flat pkC L) ++ [(iV z1.kind), (iV z1.station), (iV z1.t0), (iV z1.t1), (iV z1.l0), (iV z1.l1)]); first | (simp [flat_snoc, pkC]; done) | (simp [flat, pkC]; done)), trivial⟩ (fun a w hat => .inl ⟨rfl, ⟨((L ++ [(⟨z1.kind, z1.station, z1.t0, z1.t1, z1.l0, z1.l1⟩ : Pk)]), (i + 1)), ?_, ?_, hat⟩⟩)
      · show (p.length - ((i + 1) : Int)).toNat < (p.length - i).toNat
        omega
      show 0 ≤ ((i + 1) : Int) ∧ ((i + 1) : Int) ≤ p.length ∧ (((L ++ [(⟨z1.kind, z1.station, z1.t0, z1.t1, z1.l0, z1.l1⟩ : Pk)]) : List Pk).length : Int) ≤ ((i + 1) : Int) ∧ ((L ++ [(⟨z1.kind, z1.station, z1.t0, z1.t1, z1.l0, z1.l1⟩ : Pk)]) : List Pk) = p.take ((i + 1) : Int).toNat
      have e1 : (i + 1).toNat = i.toNat + 1 := by omega
      refine ⟨by omega, by omega, by simp; omega, ?_⟩
      rw [e1, take_snoc (d := pkD) (by omega), ← hz1, ← i3]
    let r4 : Rho := (RO w0 (d4 ++ [(iV (((p.length : Nat) : Int)))]) [(flat pkC L)])
    let d5 : List Value := (vb ++ [(iV (((L.length : Nat) : Int)))])
    let p5 : Rho := RO w0 d5 [(flat pkC L)]
    refine At.go (ρ1 := r4) (ρ2 := p5) f29r4 (@env_ok r4) ⟨enk (klssf c0), enk K7, trivial⟩ trivial trivial trivial f29I16 f29I18 hat (fun a w hat => .inr ⟨.inl ⟨0, rfl⟩, .inl ⟨rfl, .inl ⟨rfl, ?_⟩⟩⟩)
    refine At.lastsL (ρ1 := p5) (n := L.length) none f29r5 (@env_ok p5) trivial trivial trivial trivial f29I18 hat rfl (by show ((flat pkC L) : List Value).length = (L.length) * 6; first | exact flat_len (fun _ => rfl) _ | simp [flat_len (c := pkC) (sz := 6) (fun _ => rfl), pkC] <;> omega) (fun w2 a2 C2 hb hn => ?_)
    have hL : L = p := by
      rw [i3, show i.toNat = p.length by omega, List.take_length]
    have e1 : L.length = (p).length := by rw [← hL]; try first | rfl | simp | simp [pkC]
    have e2 : ((flat pkC L) : List Value) = flat pkC p := by rw [← hL]; try first | rfl | (simp [flat_snoc, pkC]; done) | (simp [flat, pkC]; done)
    have hn2 : NewList w0 w2 116 6 (flat pkC p) a2 (p).length C2 := by rw [← e1, ← e2]; exact hn
    have hv := congrArg (fun (n2 : Nat)  => (.slice a2 n2 C2 : Value)) e1
    exact ⟨a2, C2, congrArg Ending.returned hv, hn2, hb⟩
  · show 0 ≤ (0 : Int) ∧ (0 : Int) ≤ p.length ∧ (([] : List Pk).length : Int) ≤ (0 : Int) ∧ ([] : List Pk) = p.take (0 : Int).toNat
    exact ⟨by omega, by omega, by simp, rfl⟩
end
end Go.Proofs.Ytoaehigmpbhppaa.En
namespace Go.Proofs.Ytoaehigmpbhppaa.En
open Go Go.Ev Go.Proofs Go.RowKit
set_option maxRecDepth 1000000
noncomputable section
theorem int_und : Try.prog.underlying 3 = some (.int .i64) := by kernel_rfl
theorem src_st : Try.prog.underlying 54 = some (.struct (Try.prog.fieldsOf 54)) := by kernel_rfl
theorem src_held : Try.prog.stoodInHeld 54 = false := by kernel_rfl
theorem src_guard : Try.prog.eqGuardType Try.prog.depth 54 = false := by kernel_rfl
theorem src_struct : ∃ f0 f1 f2 f3 : Field, Try.prog.underlying 54 = some (.struct #[f0, f1, f2, f3]) ∧ f0.name ≠ "_" ∧ f1.name ≠ "_" ∧ f2.name ≠ "_" ∧ f3.name ≠ "_" ∧ f0.type = 3 ∧ f1.type = 3 ∧ f2.type = 3 ∧ f3.type = 23 ∧ f0.offset = 0 ∧ f1.offset = 1 ∧ f2.offset = 2 ∧ f3.offset = 3 := by
  have h := Try.underlying54
  exact ⟨_, _, _, _, h, by decide, by decide, by decide, by decide, rfl, rfl, rfl, rfl, rfl, rfl, rfl, rfl⟩
theorem src_fields : ∃ f0 f1 f2 f3 : Field, (Try.prog.fieldsOf 54).toList = [f0, f1, f2, f3] ∧ f0.name ≠ "_" ∧ f1.name ≠ "_" ∧ f2.name ≠ "_" ∧ f3.name ≠ "_" ∧ f0.type = 3 ∧ f1.type = 3 ∧ f2.type = 3 ∧ f3.type = 23 ∧ f0.offset = 0 ∧ f1.offset = 1 ∧ f2.offset = 2 ∧ f3.offset = 3 := by
  obtain ⟨f0, f1, f2, f3, h, k⟩ := src_struct
  exact ⟨f0, f1, f2, f3, by rw [Program.fieldsOf, h], k⟩
theorem eq_src (d : Nat) (W : World) (a0 a1 a2 a3 a4 b0 b1 b2 b3 b4 : Int) : (Op.equalIn (d + 3) 54 (.agg #[.int .i64 a0, .int .i64 a1, .int .i64 a2, .int .i64 a3, .int .i64 a4]) (.agg #[.int .i64 b0, .int .i64 b1, .int .i64 b2, .int .i64 b3, .int .i64 b4])).run Try.prog W
    = .ok (a0 == b0 && (a1 == b1 && (a2 == b2 && (a3 == b3 && a4 == b4)))) W := by
  obtain ⟨f0, f1, f2, f3, h1, n0, n1, n2, n3, t0, t1, t2, t3, o0, o1, o2, o3⟩ := src_fields
  rw [run_equalIn_agg _ (d + 2) _ _ _ src_st src_held, h1]
  simp only [Op.eqFields, n0, n1, n2, n3, t0, t1, t2, t3, o0, o1, o2, o3, ne_eq, not_false_eq_true, if_true]
  have i0 := int_und
  by_cases q0 : a0 = b0
  · by_cases q1 : a1 = b1
    · by_cases q2 : a2 = b2
      · by_cases q3 : a3 = b3
        · by_cases q4 : a4 = b4
          · simp [go_sem, i0, q0, q1, q2, q3, q4]
          · simp [go_sem, i0, q0, q1, q2, q3, q4]
        · simp [go_sem, i0, q0, q1, q2, q3]
      · simp [go_sem, i0, q0, q1, q2]
    · simp [go_sem, i0, q0, q1]
  · simp [go_sem, i0, q0]
theorem k_src {w : World} {a0 a1 a2 a3 a4 b0 b1 b2 b3 b4 : Int} {r : Bool} (h : r = !(a0 == b0 && (a1 == b1 && (a2 == b2 && (a3 == b3 && a4 == b4))))) :
    KeyOk Try.prog w (.bin .neq 54) [.agg #[.int .i64 a0, .int .i64 a1, .int .i64 a2, .int .i64 a3, .int .i64 a4], .agg #[.int .i64 b0, .int .i64 b1, .int .i64 b2, .int .i64 b3, .int .i64 b4]] (.bool r) := fun x y => ⟨run_eqGuard_agg w .neq 54 x y _ _ src_guard, by
  rw [run_neq_struct, show (10000 : Nat) = 9997 + 3 from rfl, eq_src 9997 w, h]
  rfl⟩
theorem k_src_t {w : World} {a0 a1 a2 a3 a4 b0 b1 b2 b3 b4 : Int} (h : ¬ (a0 = b0 ∧ a1 = b1 ∧ a2 = b2 ∧ a3 = b3 ∧ a4 = b4)) :
    KeyOk Try.prog w (.bin .neq 54) [.agg #[.int .i64 a0, .int .i64 a1, .int .i64 a2, .int .i64 a3, .int .i64 a4], .agg #[.int .i64 b0, .int .i64 b1, .int .i64 b2, .int .i64 b3, .int .i64 b4]] (.bool true) :=
  k_src (by
    cases hq : (a0 == b0 && (a1 == b1 && (a2 == b2 && (a3 == b3 && a4 == b4)))) with
    | false => rfl
    | true =>
      simp only [Bool.and_eq_true, beq_iff_eq] at hq
      exact absurd ⟨hq.1, hq.2.1, hq.2.2.1, hq.2.2.2.1, hq.2.2.2.2⟩ h)
theorem k_src_f {w : World} {a0 a1 a2 a3 a4 b0 b1 b2 b3 b4 : Int} (h : ¬ ¬ (a0 = b0 ∧ a1 = b1 ∧ a2 = b2 ∧ a3 = b3 ∧ a4 = b4)) :
    KeyOk Try.prog w (.bin .neq 54) [.agg #[.int .i64 a0, .int .i64 a1, .int .i64 a2, .int .i64 a3, .int .i64 a4], .agg #[.int .i64 b0, .int .i64 b1, .int .i64 b2, .int .i64 b3, .int .i64 b4]] (.bool false) :=
  k_src (by
    obtain ⟨h0, h1, h2, h3, h4⟩ := Classical.not_not.1 h
    simp [h0, h1, h2, h3, h4])
def f23b0 : Code := (Try.f23.body).getD .skip
def f23F0 : Fr := mkFr Try.f23 [(0, (sy 0)), (1, (sy 1))] []
def f23S1 : St := mkSt 0 []
theorem f23I2 : IdOk 2 0 0 f23F0 f23S1 := ⟨mkSt_wf rfl, by kernel_rfl⟩
def f23F3 : Fr := mkFr Try.f23 [(0, (sy 0)), (1, (sy 1)), (4, (.bool .false))] []
theorem f23I4 : IdOk 2 0 0 f23F3 f23S1 := ⟨mkSt_wf rfl, by kernel_rfl⟩
def f23n5 : List Ent := ⟨(.bi 0 [38]), [(sy 1)], (sy 3)⟩ :: ⟨(.bi 0 [38]), [(sy 0)], (sy 2)⟩ :: []
def f23n6 : List Ent := cB .neq (sy 2) (sy 3) true :: f23n5
def f23n7 : List Ent := cB .neq (sy 2) (sy 3) false :: f23n5
def f23F8 : Fr := mkFr Try.f23 [(0, (sy 0)), (1, (sy 1)), (4, (.bool .false)), (5, (iV 0))] []
theorem f23I9 : IdOk 2 0 0 f23F8 f23S1 := ⟨mkSt_wf rfl, by kernel_rfl⟩
def f23n14 : List Ent := ⟨(.load 54), [(sy 10)], (ag 11 5)⟩ :: ⟨(.indexAddr 38), [(sy 1), (sy 2)], (sy 10)⟩ :: ⟨(.load 54), [(sy 4)], (ag 5 5)⟩ :: ⟨(.indexAddr 38), [(sy 0), (sy 2)], (sy 4)⟩ :: cB .lss (sy 2) (sy 3) true :: ⟨(.bi 0 [38]), [(sy 0)], (sy 3)⟩ :: []
def f23n15 : List Ent := ⟨(.bin .neq 54), [(ag 5 5), (ag 11 5)], (.bool true)⟩ :: f23n14
def f23n16 : List Ent := aB .add (sy 2) (iV 1) (sy 16) :: ⟨(.bin .neq 54), [(ag 5 5), (ag 11 5)], (.bool false)⟩ :: f23n14
def f23n17 : List Ent := cB .lss (sy 2) (sy 3) false :: ⟨(.bi 0 [38]), [(sy 0)], (sy 3)⟩ :: []
def f23F18 : Fr := mkFr Try.f23 [(0, (sy 0)), (1, (sy 1)), (4, (.bool .false)), (5, (sy 2))] []
theorem f23I19 : IdOk 3 0 0 f23F18 f23S1 := ⟨mkSt_wf rfl, by kernel_rfl⟩
def f23F20 : Fr := mkFr Try.f23 [(4, (.bool .false))] []
theorem f23I21 : IdOk 2 0 0 f23F20 f23S1 := ⟨mkSt_wf rfl, by kernel_rfl⟩
theorem f23a0 : agreeL (ids 2) [] [] f23F0 f23S1 (frameOf Try.f23 [(sy 0), (sy 1)]) Ev.start = true := by kernel_rfl
def f23b1 : Code := headC f23b0
def f23b2 : Code := tailC f23b0
theorem f23q0 : f23b0 = .seq f23b1 f23b2 := by kernel_rfl
theorem f23r0 : gE [] [] [] [] f23b1 f23F0 f23S1 .normal [sy 0, sy 1] [] [] f23F3 f23S1 = some () := by kernel_rfl
def f23b3 : Code := headC f23b2
def f23b4 : Code := tailC f23b2
theorem f23q1 : f23b2 = .seq f23b3 f23b4 := by kernel_rfl
theorem f23r1 : rE f23n6 [] [] [] f23b3 f23F3 f23S1 Try.f23 (endV (.bool false)) = some () := by kernel_rfl
theorem f23r2 : gE f23n7 [] [] [] f23b3 f23F3 f23S1 .normal [sy 0, sy 1] [] [] f23F3 f23S1 = some () := by kernel_rfl
def f23b5 : Code := headC f23b4
def f23b6 : Code := tailC f23b4
theorem f23q2 : f23b4 = .seq f23b5 f23b6 := by kernel_rfl
def f23b7 : Code := headC f23b5
def f23b8 : Code := tailC f23b5
theorem f23q3 : f23b5 = .seq f23b7 f23b8 := by kernel_rfl
theorem f23r3 : gE [] [] [] [] f23b7 f23F3 f23S1 .normal [sy 0, sy 1] [] [] f23F8 f23S1 = some () := by kernel_rfl
def f23b9 : Code := inBlockC f23b8
theorem f23q4 : f23b8 = .block 0 f23b9 := by kernel_rfl
def f23b10 : Code := inLoopC f23b9
theorem f23q5 : f23b9 = .loop f23b10 := by kernel_rfl
theorem f23h6 : agreeL [(sy 0), (sy 1), (iV 0)] [] [] f23F18 f23S1 f23F8 f23S1 = true := by kernel_rfl
theorem f23r4 : rE f23n15 [] [] [] f23b10 f23F18 f23S1 Try.f23 (endV (.bool false)) = some () := by kernel_rfl
theorem f23r5 : gE f23n16 [] [] [] f23b10 f23F18 f23S1 .normal [(sy 0), (sy 1), (sy 16)] [] [] f23F18 f23S1 = some () := by kernel_rfl
theorem f23r6 : gE f23n17 [] [] [] f23b10 f23F18 f23S1 (.exit 0) [sy 0, sy 1] [] [] f23F20 f23S1 = some () := by kernel_rfl
theorem f23r7 : lE [] [] [] [] f23b6 f23F20 f23S1 Try.f23 (endV (.bool true)) = some () := by kernel_rfl
set_option maxHeartbeats 8000000 in
theorem sameEq_any (al : Option Addr) (l : List Src) (ql : Nat) (am : Option Addr) (qm : Nat) (w0 : World) {tl tm : TypeId} (Hl : Lies w0 tl (flat srcC l) al l.length) (Hm : Lies w0 tm (flat srcC l) am l.length) (hn : l.length < 1000000) : Calls Try.prog 23 #[(.slice al l.length ql), (.slice am l.length qm)] w0 (fun en w' => en = .returned (.bool true) ∧ Below w0.heap.size w0 w') := by
  let vb : List Value := [(.slice al l.length ql), (.slice am l.length qm)]
  let p0 : Rho := (RO w0 vb [])
  refine At.begin (ρ := p0) (c := f23b0) (@env_ok p0) f23I2 f23a0 (fun a w hat => ?_)
  refine g_seq f23q0 ?_
  let p1 : Rho := (RO w0 vb [])
  refine At.go (ρ1 := p0) (ρ2 := p1) f23r0 (@env_ok p0) trivial trivial trivial trivial f23I2 f23I4 hat (fun a w hat => .inl ⟨rfl, ?_⟩)
  refine g_seq f23q1 ?_
  have K0 : KA w0 (.bi 0 [38]) [(.slice al l.length ql)] (iV (((l.length : Nat) : Int))) := fun w hm => k_len Try.underlying38
  have K1 : KA w0 (.bi 0 [38]) [(.slice am l.length qm)] (iV (((l.length : Nat) : Int))) := fun w hm => k_len Try.underlying38
  by_cases c0 : ((l.length : Nat) : Int) ≠ ((l.length : Nat) : Int)
  · let r1 : Rho := (RO w0 (vb ++ [(iV (((l.length : Nat) : Int))), (iV (((l.length : Nat) : Int)))]) [])
    refine At.retsV (ρ1 := r1) f23r1 (@env_ok r1) ⟨enk (kneqt c0), enk K1, enk K0, trivial⟩ trivial trivial trivial f23I4 hat (fun a w h => .inr ⟨(fun q => nomatch q), h⟩) (fun w2 hb => ?_)
    have v0 : (false : Bool) = true := by
      first | rfl | (exfalso; first | omega | (simp_all; done))
    have hv := congrArg (fun (y0 : Bool) => ((.bool y0) : Value)) v0
    exact ⟨congrArg Ending.returned hv, hb⟩
  let r2 : Rho := (RO w0 (vb ++ [(iV (((l.length : Nat) : Int))), (iV (((l.length : Nat) : Int)))]) [])
  let p2 : Rho := (RO w0 vb [])
  refine At.go (ρ1 := r2) (ρ2 := p2) f23r2 (@env_ok r2) ⟨enk (kneqf c0), enk K1, enk K0, trivial⟩ trivial trivial trivial f23I4 f23I4 hat (fun a w hat => .inl ⟨rfl, ?_⟩)
  refine g_seq f23q2 ?_
  refine g_seq f23q3 ?_
  let p3 : Rho := (RO w0 vb [])
  refine At.go (ρ1 := p2) (ρ2 := p3) f23r3 (@env_ok p2) trivial trivial trivial trivial f23I4 f23I9 hat (fun a w hat => .inl ⟨rfl, ?_⟩)
  refine g_block f23q4 ?_
  have hat0 := At.shiftL (ρ1 := p3) (ρ2 := (RO w0 (vb ++ [(iV ((0 : Int)))]) [])) (σ := [(sy 0), (sy 1), (iV 0)]) (π := []) (τ := []) ⟨rfl, rfl, rfl, rfl, rfl, rfl, trivial⟩ trivial (fun _ _ h => h) f23I19.1 f23h6 hat
  clear hat
  refine g_loop (fun (x : Int) a w => (0 ≤ (x : Int) ∧ (x : Int) ≤ l.length) ∧ @At (RO w0 (vb ++ [(iV ((x : Int)))]) []) w0 f23F18 f23S1 a w) (fun x => (l.length - (x : Int)).toNat) f23q5 ?_ (0) ⟨?_, hat0⟩
  · clear hat0
    rintro i a w ⟨hinv, hat⟩
    change 0 ≤ i ∧ i ≤ l.length at hinv
    let d4 : List Value := (vb ++ [(iV i)])
    let p4 : Rho := RO w0 d4 []
    change @At p4 w0 f23F18 f23S1 a w at hat
    obtain ⟨i0, i1⟩ := hinv
    have K17 : KA w0 (.bi 0 [38]) [(.slice al l.length ql)] (iV (((l.length : Nat) : Int))) := fun w hm => k_len Try.underlying38
    by_cases c1 : i < ((l.length : Nat) : Int)
    · have K18 : KA w0 (.indexAddr 38) [(.slice al l.length ql), (iV i)] (.pointer (ptrO al ((i).toNat * 5))) := fun w hm => l_index (Hl.keep hm) Try.underlying38 (by kernel_rfl) (by omega) (by omega)
      obtain ⟨z2, hz2⟩ : ∃ z : Src, z = l.getD (i).toNat srcD := ⟨_, rfl⟩
      have K19 : KA w0 (.load 54) [(.pointer (ptrO al ((i).toNat * 5)))] (.agg #[(iV z2.kind), (iV z2.cell), (iV z2.cls), (iV z2.lo), (iV z2.hi)]) := fun w hm => l_loadS (Hl.keep hm) (by omega) Try.underlying54 rfl (l := [(iV z2.kind), (iV z2.cell), (iV z2.cls), (iV z2.lo), (iV z2.hi)]) (by kernel_rfl) (flat_getz (c := srcC) (sz := 5) (fun _ => rfl) hz2 (by omega))
      have K20 : KA w0 (.indexAddr 38) [(.slice am l.length qm), (iV i)] (.pointer (ptrO am ((i).toNat * 5))) := fun w hm => l_index (Hm.keep hm) Try.underlying38 (by kernel_rfl) (by omega) (by omega)
      have K21 : KA w0 (.load 54) [(.pointer (ptrO am ((i).toNat * 5)))] (.agg #[(iV z2.kind), (iV z2.cell), (iV z2.cls), (iV z2.lo), (iV z2.hi)]) := fun w hm => l_loadS (Hm.keep hm) (by omega) Try.underlying54 rfl (l := [(iV z2.kind), (iV z2.cell), (iV z2.cls), (iV z2.lo), (iV z2.hi)]) (by kernel_rfl) (flat_getz (c := srcC) (sz := 5) (fun _ => rfl) hz2 (by omega))
      by_cases c3 : ¬ (z2.kind = z2.kind ∧ z2.cell = z2.cell ∧ z2.cls = z2.cls ∧ z2.lo = z2.lo ∧ z2.hi = z2.hi)
      · have K22 : KA w0 (.bin .neq 54) [(.agg #[(iV z2.kind), (iV z2.cell), (iV z2.cls), (iV z2.lo), (iV z2.hi)]), (.agg #[(iV z2.kind), (iV z2.cell), (iV z2.cls), (iV z2.lo), (iV z2.hi)])] (.bool true) := fun w hm => k_src_t c3
        let r4 : Rho := (RO w0 (d4 ++ [(iV (((l.length : Nat) : Int))), (.pointer (ptrO al ((i).toNat * 5))), (iV z2.kind), (iV z2.cell), (iV z2.cls), (iV z2.lo), (iV z2.hi), (.pointer (ptrO am ((i).toNat * 5))), (iV z2.kind), (iV z2.cell), (iV z2.cls), (iV z2.lo), (iV z2.hi)]) [])
        refine At.retsV (ρ1 := r4) f23r4 (@env_ok r4) ⟨enk K22, enk K21, enk K20, enk K19, enk K18, enk (klsst c1), enk K17, trivial⟩ trivial trivial trivial f23I19 hat (fun a w h => .inr ⟨.inr rfl, .inr ⟨(fun q => nomatch q), .inr ⟨(fun q => nomatch q), h⟩⟩⟩) (fun w2 hb => ?_)
        have v0 : (false : Bool) = true := by
          first | rfl | (exfalso; first | omega | (simp_all; done))
        have hv := congrArg (fun (y0 : Bool) => ((.bool y0) : Value)) v0
        exact ⟨congrArg Ending.returned hv, hb⟩
      have K23 : KA w0 (.bin .neq 54) [(.agg #[(iV z2.kind), (iV z2.cell), (iV z2.cls), (iV z2.lo), (iV z2.hi)]), (.agg #[(iV z2.kind), (iV z2.cell), (iV z2.cls), (iV z2.lo), (iV z2.hi)])] (.bool false) := fun w hm => k_src_f c3
      have K24 := kAdd w0 (i) (1) (by omega)
      let r5 : Rho := (RO w0 (d4 ++ [(iV (((l.length : Nat) : Int))), (.pointer (ptrO al ((i).toNat * 5))), (iV z2.kind), (iV z2.cell), (iV z2.cls), (iV z2.lo), (iV z2.hi), (.pointer (ptrO am ((i).toNat * 5))), (iV z2.kind), (iV z2.cell), (iV z2.cls), (iV z2.lo), (iV z2.hi), (iV ((i + 1)))]) [])
      refine At.goS (ρ1 := r5) (ρ2 := (RO w0 (vb ++ [(iV (((i + 1) : Int)))]) [])) f23r5 (@env_ok r5) ⟨enk K24, enk K23, enk K21, enk K20, enk K19, enk K18, enk (klsst c1), enk K17, trivial⟩ trivial trivial trivial f23I19 f23I19 hat (SubOk.om rfl rfl) (LsubOk.om rfl) (fun a w hat => .inl ⟨rfl, ⟨((i + 1)), ?_, ?_, hat⟩⟩)
      · show (l.length - ((i + 1) : Int)).toNat < (l.length - i).toNat
        omega
      show 0 ≤ ((i + 1) : Int) ∧ ((i + 1) : Int) ≤ l.length
      omega
    let r6 : Rho := (RO w0 (d4 ++ [(iV (((l.length : Nat) : Int)))]) [])
    let p5 : Rho := (RO w0 vb [])
    refine At.go (ρ1 := r6) (ρ2 := p5) f23r6 (@env_ok r6) ⟨enk (klssf c1), enk K17, trivial⟩ trivial trivial trivial f23I19 f23I21 hat (fun a w hat => .inr ⟨.inl ⟨0, rfl⟩, .inl ⟨rfl, .inl ⟨rfl, ?_⟩⟩⟩)
    refine At.lastsV (ρ1 := p5) f23r7 (@env_ok p5) trivial trivial trivial trivial f23I21 hat (fun w2 hb => ?_)
    have v0 : (true : Bool) = true := by
      first | rfl | (exfalso; first | omega | (simp_all; done))
    have hv := congrArg (fun (y0 : Bool) => ((.bool y0) : Value)) v0
    exact ⟨congrArg Ending.returned hv, hb⟩
  · show 0 ≤ (0 : Int) ∧ (0 : Int) ≤ l.length
    omega
theorem sameEq2_any (al : Option Addr) (l : List Src) (ql : Nat) (am : Option Addr) (m : List Src) (qm : Nat) (w0 : World) {tl tm : TypeId} (Hl : Lies w0 tl (flat srcC l) al l.length) (Hm : Lies w0 tm (flat srcC m) am m.length) (h : m = l) (hn : l.length < 1000000) :
    Calls Try.prog 23 #[(.slice al l.length ql), (.slice am m.length qm)] w0 (fun en w' => en = .returned (.bool true) ∧ Below w0.heap.size w0 w') := by
  subst h
  exact sameEq_any al m ql am qm w0 Hl Hm hn
end
end Go.Proofs.Ytoaehigmpbhppaa.En
