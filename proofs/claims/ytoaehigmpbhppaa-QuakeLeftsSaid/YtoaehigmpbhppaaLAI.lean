import Derived.Test.YtoaehigmpbhppaaLAH
import Derived.Test.YtoaehigmpbhppaaLAE
import Derived.Shelf.SlSortCmp.WholeK
import Derived.Shelf.GgSortFunc.InsertionK
import Derived.Ground.SlsfProg
import Derived.Test.YtoaehigmpbhppaaProg
/-
  Texts of the bench, merged.
-/
set_option linter.unusedSimpArgs false
set_option linter.unusedVariables false
namespace Go.Proofs.Ytoaehigmpbhppaa.En
open Go Go.Ev Go.Proofs Go.RowKit
set_option maxRecDepth 1000000
noncomputable section
def f63b0 : Code := (Try.f63.body).getD .skip
def f63F0 : Fr := mkFr Try.f63 [(0, (ag 0 8)), (1, (sy 8))] []
def f63S1 : St := mkSt 0 []
theorem f63I2 : IdOk 9 0 0 f63F0 f63S1 := ⟨mkSt_wf rfl, by kernel_rfl⟩
def f63F3 : Fr := mkFr Try.f63 [(1, (sy 8)), (2, (pt 0 0)), (4, (iV 0))] []
def f63S4 : St := mkSt 1 [(0, (.cells (ids 8) 26 .none .false))]
theorem f63I5 : IdOk 9 1 0 f63F3 f63S4 := ⟨mkSt_wf rfl, by kernel_rfl⟩
def f63n6 : List Ent := cB .gtr (sy 9) (iV 256) true :: ⟨(.bi 0 [38]), [(sy 8)], (sy 9)⟩ :: []
def f63n7 : List Ent := cB .gtr (sy 9) (iV 256) false :: ⟨(.bi 0 [38]), [(sy 8)], (sy 9)⟩ :: []
def f63F8 : Fr := mkFr Try.f63 [(1, (sy 8)), (2, (pt 0 0)), (4, (iV 0)), (5, (iV 0))] []
theorem f63I9 : IdOk 9 1 0 f63F8 f63S4 := ⟨mkSt_wf rfl, by kernel_rfl⟩
def f63n30 : List Ent := ⟨(.load 3), [(sy 12)], (sy 13)⟩ :: ⟨(.fieldAddr 54 0), [(sy 11)], (sy 12)⟩ :: ⟨(.indexAddr 38), [(sy 8), (sy 9)], (sy 11)⟩ :: cB .lss (sy 9) (sy 10) true :: ⟨(.bi 0 [38]), [(sy 8)], (sy 10)⟩ :: []
def f63n31 : List Ent := cB .geq (sy 13) (iV 1) true :: f63n30
def f63n32 : List Ent := aB .sub (sy 16) (iV 1) (sy 17) :: aB .mul (sy 0) (sy 1) (sy 16) :: ⟨(.load 3), [(sy 14)], (sy 15)⟩ :: ⟨(.fieldAddr 54 1), [(sy 11)], (sy 14)⟩ :: cB .leq (sy 13) (iV 3) true :: f63n31
def f63n33 : List Ent := cB .geq (sy 15) (iV 0) true :: f63n32
def f63n34 : List Ent := ⟨(.load 3), [(sy 18)], (sy 19)⟩ :: ⟨(.fieldAddr 54 2), [(sy 11)], (sy 18)⟩ :: cB .leq (sy 15) (sy 17) true :: f63n33
def f63n35 : List Ent := cB .geq (sy 19) (iV 1) true :: f63n34
def f63n36 : List Ent := ⟨(.load 23), [(sy 20)], (ag 21 2)⟩ :: ⟨(.fieldAddr 54 3), [(sy 11)], (sy 20)⟩ :: cB .leq (sy 19) (iV 10) true :: f63n35
def f63n37 : List Ent := cB .leq (sy 21) (sy 22) true :: f63n36
def f63n38 : List Ent := cB .geq (sy 21) (iV 0) true :: f63n37
def f63n39 : List Ent := aB .add (sy 9) (iV 1) (sy 23) :: cB .leq (sy 22) (iV 1000000000) true :: f63n38
def f63n40 : List Ent := cB .leq (sy 22) (iV 1000000000) false :: f63n38
def f63n41 : List Ent := cB .geq (sy 21) (iV 0) false :: f63n37
def f63n42 : List Ent := cB .leq (sy 21) (sy 22) false :: f63n36
def f63n43 : List Ent := cB .leq (sy 19) (iV 10) false :: f63n35
def f63n44 : List Ent := cB .geq (sy 19) (iV 1) false :: f63n34
def f63n45 : List Ent := cB .leq (sy 15) (sy 17) false :: f63n33
def f63n46 : List Ent := cB .geq (sy 15) (iV 0) false :: f63n32
def f63n47 : List Ent := cB .leq (sy 13) (iV 3) false :: f63n31
def f63n48 : List Ent := cB .geq (sy 13) (iV 1) false :: f63n30
def f63n49 : List Ent := cB .lss (sy 9) (sy 10) false :: ⟨(.bi 0 [38]), [(sy 8)], (sy 10)⟩ :: []
def f63F50 : Fr := mkFr Try.f63 [(1, (sy 8)), (2, (pt 0 0)), (4, (iV 0)), (5, (sy 9))] []
theorem f63I51 : IdOk 10 1 0 f63F50 f63S4 := ⟨mkSt_wf rfl, by kernel_rfl⟩
def f63F52 : Fr := mkFr Try.f63 [(4, (iV 0))] []
theorem f63I53 : IdOk 9 0 0 f63F52 f63S1 := ⟨mkSt_wf rfl, by kernel_rfl⟩
theorem f63a0 : agreeL (ids 9) [] [] f63F0 f63S1 (frameOf Try.f63 [(ag 0 8), (sy 8)]) Ev.start = true := by kernel_rfl
def f63b1 : Code := headC f63b0
def f63b2 : Code := tailC f63b0
theorem f63q0 : f63b0 = .seq f63b1 f63b2 := by kernel_rfl
theorem f63r0 : gE [] [] [] [] f63b1 f63F0 f63S1 .normal (ids 9) [0] [] f63F3 f63S4 = some () := by kernel_rfl
def f63b3 : Code := headC f63b2
def f63b4 : Code := tailC f63b2
theorem f63q1 : f63b2 = .seq f63b3 f63b4 := by kernel_rfl
theorem f63r1 : rE f63n6 [] [] [] f63b3 f63F3 f63S4 Try.f63 (endV (iV 9)) = some () := by kernel_rfl
theorem f63r2 : gE f63n7 [] [] [] f63b3 f63F3 f63S4 .normal (ids 9) [0] [] f63F3 f63S4 = some () := by kernel_rfl
def f63b5 : Code := headC f63b4
def f63b6 : Code := tailC f63b4
theorem f63q2 : f63b4 = .seq f63b5 f63b6 := by kernel_rfl
def f63b7 : Code := headC f63b5
def f63b8 : Code := tailC f63b5
theorem f63q3 : f63b5 = .seq f63b7 f63b8 := by kernel_rfl
theorem f63r3 : gE [] [] [] [] f63b7 f63F3 f63S4 .normal (ids 9) [0] [] f63F8 f63S4 = some () := by kernel_rfl
def f63b9 : Code := inBlockC f63b8
theorem f63q4 : f63b8 = .block 0 f63b9 := by kernel_rfl
def f63b10 : Code := inLoopC f63b9
theorem f63q5 : f63b9 = .loop f63b10 := by kernel_rfl
theorem f63h6 : agreeL (ids 9 ++ [(iV 0)]) [0] [] f63F50 f63S4 f63F8 f63S4 = true := by kernel_rfl
theorem f63r4 : gE f63n39 [] [] [] f63b10 f63F50 f63S4 .normal (pk 9 [23]) [0] [] f63F50 f63S4 = some () := by kernel_rfl
theorem f63r5 : rE f63n40 [] [] [] f63b10 f63F50 f63S4 Try.f63 (endV (iV 3)) = some () := by kernel_rfl
theorem f63r6 : rE f63n41 [] [] [] f63b10 f63F50 f63S4 Try.f63 (endV (iV 3)) = some () := by kernel_rfl
theorem f63r7 : rE f63n42 [] [] [] f63b10 f63F50 f63S4 Try.f63 (endV (iV 3)) = some () := by kernel_rfl
theorem f63r8 : rE f63n43 [] [] [] f63b10 f63F50 f63S4 Try.f63 (endV (iV 3)) = some () := by kernel_rfl
theorem f63r9 : rE f63n44 [] [] [] f63b10 f63F50 f63S4 Try.f63 (endV (iV 3)) = some () := by kernel_rfl
theorem f63r10 : rE f63n45 [] [] [] f63b10 f63F50 f63S4 Try.f63 (endV (iV 4)) = some () := by kernel_rfl
theorem f63r11 : rE f63n46 [] [] [] f63b10 f63F50 f63S4 Try.f63 (endV (iV 4)) = some () := by kernel_rfl
theorem f63r12 : rE f63n47 [] [] [] f63b10 f63F50 f63S4 Try.f63 (endV (iV 2)) = some () := by kernel_rfl
theorem f63r13 : rE f63n48 [] [] [] f63b10 f63F50 f63S4 Try.f63 (endV (iV 2)) = some () := by kernel_rfl
theorem f63r14 : gE f63n49 [] [] [] f63b10 f63F50 f63S4 (.exit 0) (ids 9) [] [] f63F52 f63S1 = some () := by kernel_rfl
theorem f63r15 : lE [] [] [] [] f63b6 f63F52 f63S1 Try.f63 (endV (iV 0)) = some () := by kernel_rfl
set_option maxHeartbeats 8000000 in
theorem rsources_any (x0 : Int) (x1 : Int) (x2 : Int) (x3 : Int) (x4 : Int) (x5 : Int) (x6 : Int) (x7 : Int) (al : Option Addr) (l : List Src) (ql : Nat) (w0 : World) {tl : TypeId} (Hl : Lies w0 tl (flat srcC l) al l.length) (hn : l.length < 1000000) (v0 : 1 ≤ x0 ∧ x0 ≤ 24) (v1 : 1 ≤ x1 ∧ x1 ≤ 24) : Calls Try.prog 63 #[(mV x0 x1 x2 x3 x4 x5 x6 x7), (.slice al l.length ql)] w0 (fun en w' => en = .returned (iV (srcsErr x0 x1 l)) ∧ Below w0.heap.size w0 w') := by
  have hx := mul_bd (a := x0) (b := x1) (A := 24) (B := 24) (C := 576) (by omega) (by omega) (by omega) (by omega)
  let vb : List Value := [(iV x0), (iV x1), (iV x2), (iV x3), (iV x4), (iV x5), (iV x6), (iV x7), (.slice al l.length ql)]
  let p0 : Rho := (RO w0 vb [])
  refine At.begin (ρ := p0) (c := f63b0) (@env_ok p0) f63I2 f63a0 (fun a w hat => ?_)
  refine g_seq f63q0 ?_
  let p1 : Rho := (RO w0 vb [])
  refine At.go (ρ1 := p0) (ρ2 := p1) f63r0 (@env_ok p0) trivial trivial trivial trivial f63I2 f63I5 hat (fun a w hat => .inl ⟨rfl, ?_⟩)
  refine g_seq f63q1 ?_
  have K0 : KA w0 (.bi 0 [38]) [(.slice al l.length ql)] (iV (((l.length : Nat) : Int))) := fun w hm => k_len Try.underlying38
  by_cases c0 : ((l.length : Nat) : Int) > 256
  · let r1 : Rho := (RO w0 (vb ++ [(iV (((l.length : Nat) : Int)))]) [])
    refine At.retsV (ρ1 := r1) f63r1 (@env_ok r1) ⟨enk (kgtrt c0), enk K0, trivial⟩ trivial trivial trivial f63I5 hat (fun a w h => .inr ⟨(fun q => nomatch q), h⟩) (fun w2 hb => ?_)
    have v0 : (9 : Int) = srcsErr x0 x1 l := by
      unfold srcsErr; rw [if_pos (by omega)]
    exact ret1 v0 hb
  let r2 : Rho := (RO w0 (vb ++ [(iV (((l.length : Nat) : Int)))]) [])
  let p2 : Rho := (RO w0 vb [])
  refine At.go (ρ1 := r2) (ρ2 := p2) f63r2 (@env_ok r2) ⟨enk (kgtrf c0), enk K0, trivial⟩ trivial trivial trivial f63I5 f63I5 hat (fun a w hat => .inl ⟨rfl, ?_⟩)
  refine g_seq f63q2 ?_
  refine g_seq f63q3 ?_
  let p3 : Rho := (RO w0 vb [])
  refine At.go (ρ1 := p2) (ρ2 := p3) f63r3 (@env_ok p2) trivial trivial trivial trivial f63I5 f63I9 hat (fun a w hat => .inl ⟨rfl, ?_⟩)
  refine g_block f63q4 ?_
  have hat0 := At.shiftL (ρ1 := p3) (ρ2 := (RO w0 (vb ++ [(iV ((0 : Int)))]) [])) (σ := (ids 9 ++ [(iV 0)])) (π := [0]) (τ := []) ⟨rfl, rfl, rfl, rfl, rfl, rfl, rfl, rfl, rfl, rfl, rfl, rfl, rfl, rfl, rfl, rfl, rfl, rfl, rfl, rfl, trivial⟩ trivial (fun _ _ h => h) f63I51.1 f63h6 hat
  clear hat
  refine g_loop (fun (x : Int) a w => (0 ≤ (x : Int) ∧ (x : Int) ≤ l.length ∧ (∀ k : Nat, (k : Int) < (x : Int) → srcErr x0 x1 (l.getD k srcD) = 0)) ∧ @At (RO w0 (vb ++ [(iV ((x : Int)))]) []) w0 f63F50 f63S4 a w) (fun x => (l.length - (x : Int)).toNat) f63q5 ?_ (0) ⟨?_, hat0⟩
  · clear hat0
    rintro i a w ⟨hinv, hat⟩
    change 0 ≤ i ∧ i ≤ l.length ∧ (∀ k : Nat, (k : Int) < i → srcErr x0 x1 (l.getD k srcD) = 0) at hinv
    let d4 : List Value := (vb ++ [(iV i)])
    let p4 : Rho := RO w0 d4 []
    change @At p4 w0 f63F50 f63S4 a w at hat
    obtain ⟨i0, i1, i2⟩ := hinv
    have K26 : KA w0 (.bi 0 [38]) [(.slice al l.length ql)] (iV (((l.length : Nat) : Int))) := fun w hm => k_len Try.underlying38
    by_cases c1 : i < ((l.length : Nat) : Int)
    · have K27 : KA w0 (.indexAddr 38) [(.slice al l.length ql), (iV i)] (.pointer (ptrO al ((i).toNat * 5))) := fun w hm => l_index (Hl.keep hm) Try.underlying38 (by kernel_rfl) (by omega) (by omega)
      have K28 : KA w0 (.fieldAddr 54 0) [(.pointer (ptrO al ((i).toNat * 5)))] (.pointer (ptrO al ((i).toNat * 5 + 0))) := fun w hm => l_fieldo (sz := 1) 0 0 (Hl.keep hm) (by omega) Try.underlying54 rfl rfl (by kernel_rfl) (by decide)
      obtain ⟨z2, hz2⟩ : ∃ z : Src, z = l.getD (i).toNat srcD := ⟨_, rfl⟩
      have K29 : KA w0 (.load 3) [(.pointer (ptrO al ((i).toNat * 5 + 0)))] (iV z2.kind) := fun w hm => l_load (Hl.keep hm) (by omega) Try.underlying3 rfl (flat_getz (c := srcC) (sz := 5) (fun _ => rfl) hz2 (by omega) 0 _ rfl)
      by_cases c3 : z2.kind ≥ 1
      · by_cases c4 : z2.kind ≤ 3
        · have K30 : KA w0 (.fieldAddr 54 1) [(.pointer (ptrO al ((i).toNat * 5)))] (.pointer (ptrO al ((i).toNat * 5 + 1))) := fun w hm => l_fieldo (sz := 1) 1 1 (Hl.keep hm) (by omega) Try.underlying54 rfl rfl (by kernel_rfl) (by decide)
          have K31 : KA w0 (.load 3) [(.pointer (ptrO al ((i).toNat * 5 + 1)))] (iV z2.cell) := fun w hm => l_load (Hl.keep hm) (by omega) Try.underlying3 rfl (flat_getz (c := srcC) (sz := 5) (fun _ => rfl) hz2 (by omega) 1 _ rfl)
          have K32 : KA w0 (.bin .mul 3) [(iV x0), (iV x1)] (iV ((x0 * x1))) := fun w hm => k_mul (wrap64 (by omega))
          have K33 := kSub w0 ((x0 * x1)) (1) (by omega)
          by_cases c5 : z2.cell ≥ 0
          · by_cases c6 : z2.cell ≤ ((x0 * x1) - 1)
            · have K34 : KA w0 (.fieldAddr 54 2) [(.pointer (ptrO al ((i).toNat * 5)))] (.pointer (ptrO al ((i).toNat * 5 + 2))) := fun w hm => l_fieldo (sz := 1) 2 2 (Hl.keep hm) (by omega) Try.underlying54 rfl rfl (by kernel_rfl) (by decide)
              have K35 : KA w0 (.load 3) [(.pointer (ptrO al ((i).toNat * 5 + 2)))] (iV z2.cls) := fun w hm => l_load (Hl.keep hm) (by omega) Try.underlying3 rfl (flat_getz (c := srcC) (sz := 5) (fun _ => rfl) hz2 (by omega) 2 _ rfl)
              by_cases c7 : z2.cls ≥ 1
              · by_cases c8 : z2.cls ≤ 10
                · have K36 : KA w0 (.fieldAddr 54 3) [(.pointer (ptrO al ((i).toNat * 5)))] (.pointer (ptrO al ((i).toNat * 5 + 3))) := fun w hm => l_fieldo (sz := 2) 3 3 (Hl.keep hm) (by omega) Try.underlying54 rfl rfl (by kernel_rfl) (by decide)
                  have K37 : KA w0 (.load 23) [(.pointer (ptrO al ((i).toNat * 5 + 3)))] (.agg #[(iV z2.lo), (iV z2.hi)]) := fun w hm => l_loadS (Hl.keep hm) (by omega) Try.underlying23 rfl (l := [(iV z2.lo), (iV z2.hi)]) (by kernel_rfl) (fun j v hj => by have := flat_getz (c := srcC) (sz := 5) (fun _ => rfl) hz2 (by omega) (3 + j) v (by revert hj; match j with | 0 => exact fun h => h | 1 => exact fun h => h | _ + 2 => exact fun h => nomatch h); rw [Nat.add_assoc]; exact this)
                  by_cases c9 : z2.lo ≤ z2.hi
                  · by_cases c10 : z2.lo ≥ 0
                    · by_cases c11 : z2.hi ≤ 1000000000
                      · have K38 := kAdd w0 (i) (1) (by omega)
                        let r4 : Rho := (RO w0 (d4 ++ [(iV (((l.length : Nat) : Int))), (.pointer (ptrO al ((i).toNat * 5))), (.pointer (ptrO al ((i).toNat * 5 + 0))), (iV z2.kind), (.pointer (ptrO al ((i).toNat * 5 + 1))), (iV z2.cell), (iV ((x0 * x1))), (iV (((x0 * x1) - 1))), (.pointer (ptrO al ((i).toNat * 5 + 2))), (iV z2.cls), (.pointer (ptrO al ((i).toNat * 5 + 3))), (iV z2.lo), (iV z2.hi), (iV ((i + 1)))]) [])
                        refine At.goS (ρ1 := r4) (ρ2 := (RO w0 (vb ++ [(iV (((i + 1) : Int)))]) [])) f63r4 (@env_ok r4) ⟨enk K38, enk (kleqt c11), enk (kgeqt c10), enk (kleqt c9), enk K37, enk K36, enk (kleqt c8), enk (kgeqt c7), enk K35, enk K34, enk (kleqt c6), enk (kgeqt c5), enk K33, enk K32, enk K31, enk K30, enk (kleqt c4), enk (kgeqt c3), enk K29, enk K28, enk K27, enk (klsst c1), enk K26, trivial⟩ trivial trivial trivial f63I51 f63I51 hat (SubOk.om rfl rfl) (LsubOk.om rfl) (fun a w hat => .inl ⟨rfl, ⟨((i + 1)), ?_, ?_, hat⟩⟩)
                        · show (l.length - ((i + 1) : Int)).toNat < (l.length - i).toNat
                          omega
                        show 0 ≤ ((i + 1) : Int) ∧ ((i + 1) : Int) ≤ l.length ∧ (∀ k : Nat, (k : Int) < ((i + 1) : Int) → srcErr x0 x1 (l.getD k srcD) = 0)
                        have hs : srcErr x0 x1 (l.getD i.toNat srcD) = 0 := by
                          unfold srcErr
                          repeat' split
                          all_goals simp_all
                          all_goals omega
                        refine ⟨by omega, by omega, fun k hk => ?_⟩
                        rcases Int.lt_or_le (k : Int) i with q | q
                        · exact i2 k q
                        · have e : k = i.toNat := (by omega)
                          subst e; exact hs
                      let r5 : Rho := (RO w0 (d4 ++ [(iV (((l.length : Nat) : Int))), (.pointer (ptrO al ((i).toNat * 5))), (.pointer (ptrO al ((i).toNat * 5 + 0))), (iV z2.kind), (.pointer (ptrO al ((i).toNat * 5 + 1))), (iV z2.cell), (iV ((x0 * x1))), (iV (((x0 * x1) - 1))), (.pointer (ptrO al ((i).toNat * 5 + 2))), (iV z2.cls), (.pointer (ptrO al ((i).toNat * 5 + 3))), (iV z2.lo), (iV z2.hi)]) [])
                      refine At.retsV (ρ1 := r5) f63r5 (@env_ok r5) ⟨enk (kleqf c11), enk (kgeqt c10), enk (kleqt c9), enk K37, enk K36, enk (kleqt c8), enk (kgeqt c7), enk K35, enk K34, enk (kleqt c6), enk (kgeqt c5), enk K33, enk K32, enk K31, enk K30, enk (kleqt c4), enk (kgeqt c3), enk K29, enk K28, enk K27, enk (klsst c1), enk K26, trivial⟩ trivial trivial trivial f63I51 hat (fun a w h => .inr ⟨.inr rfl, .inr ⟨(fun q => nomatch q), .inr ⟨(fun q => nomatch q), h⟩⟩⟩) (fun w2 hb => ?_)
                      have v0 : (3 : Int) = srcsErr x0 x1 l := by
                        have hs : srcErr x0 x1 (l.getD i.toNat srcD) = 3 := by
                          unfold srcErr
                          repeat' split
                          all_goals simp_all
                          all_goals omega
                        unfold srcsErr
                        rw [if_neg (by omega), firstErr_at (srcErr x0 x1) srcD l i.toNat (by omega) (fun k hk => i2 k (by omega)) (by omega)]
                        omega
                      exact ret1 v0 hb
                    let r6 : Rho := (RO w0 (d4 ++ [(iV (((l.length : Nat) : Int))), (.pointer (ptrO al ((i).toNat * 5))), (.pointer (ptrO al ((i).toNat * 5 + 0))), (iV z2.kind), (.pointer (ptrO al ((i).toNat * 5 + 1))), (iV z2.cell), (iV ((x0 * x1))), (iV (((x0 * x1) - 1))), (.pointer (ptrO al ((i).toNat * 5 + 2))), (iV z2.cls), (.pointer (ptrO al ((i).toNat * 5 + 3))), (iV z2.lo), (iV z2.hi)]) [])
                    refine At.retsV (ρ1 := r6) f63r6 (@env_ok r6) ⟨enk (kgeqf c10), enk (kleqt c9), enk K37, enk K36, enk (kleqt c8), enk (kgeqt c7), enk K35, enk K34, enk (kleqt c6), enk (kgeqt c5), enk K33, enk K32, enk K31, enk K30, enk (kleqt c4), enk (kgeqt c3), enk K29, enk K28, enk K27, enk (klsst c1), enk K26, trivial⟩ trivial trivial trivial f63I51 hat (fun a w h => .inr ⟨.inr rfl, .inr ⟨(fun q => nomatch q), .inr ⟨(fun q => nomatch q), h⟩⟩⟩) (fun w2 hb => ?_)
                    have v0 : (3 : Int) = srcsErr x0 x1 l := by
                      have hs : srcErr x0 x1 (l.getD i.toNat srcD) = 3 := by
                        unfold srcErr
                        repeat' split
                        all_goals simp_all
                        all_goals omega
                      unfold srcsErr
                      rw [if_neg (by omega), firstErr_at (srcErr x0 x1) srcD l i.toNat (by omega) (fun k hk => i2 k (by omega)) (by omega)]
                      omega
                    exact ret1 v0 hb
                  let r7 : Rho := (RO w0 (d4 ++ [(iV (((l.length : Nat) : Int))), (.pointer (ptrO al ((i).toNat * 5))), (.pointer (ptrO al ((i).toNat * 5 + 0))), (iV z2.kind), (.pointer (ptrO al ((i).toNat * 5 + 1))), (iV z2.cell), (iV ((x0 * x1))), (iV (((x0 * x1) - 1))), (.pointer (ptrO al ((i).toNat * 5 + 2))), (iV z2.cls), (.pointer (ptrO al ((i).toNat * 5 + 3))), (iV z2.lo), (iV z2.hi)]) [])
                  refine At.retsV (ρ1 := r7) f63r7 (@env_ok r7) ⟨enk (kleqf c9), enk K37, enk K36, enk (kleqt c8), enk (kgeqt c7), enk K35, enk K34, enk (kleqt c6), enk (kgeqt c5), enk K33, enk K32, enk K31, enk K30, enk (kleqt c4), enk (kgeqt c3), enk K29, enk K28, enk K27, enk (klsst c1), enk K26, trivial⟩ trivial trivial trivial f63I51 hat (fun a w h => .inr ⟨.inr rfl, .inr ⟨(fun q => nomatch q), .inr ⟨(fun q => nomatch q), h⟩⟩⟩) (fun w2 hb => ?_)
                  have v0 : (3 : Int) = srcsErr x0 x1 l := by
                    have hs : srcErr x0 x1 (l.getD i.toNat srcD) = 3 := by
                      unfold srcErr
                      repeat' split
                      all_goals simp_all
                      all_goals omega
                    unfold srcsErr
                    rw [if_neg (by omega), firstErr_at (srcErr x0 x1) srcD l i.toNat (by omega) (fun k hk => i2 k (by omega)) (by omega)]
                    omega
                  exact ret1 v0 hb
                let r8 : Rho := (RO w0 (d4 ++ [(iV (((l.length : Nat) : Int))), (.pointer (ptrO al ((i).toNat * 5))), (.pointer (ptrO al ((i).toNat * 5 + 0))), (iV z2.kind), (.pointer (ptrO al ((i).toNat * 5 + 1))), (iV z2.cell), (iV ((x0 * x1))), (iV (((x0 * x1) - 1))), (.pointer (ptrO al ((i).toNat * 5 + 2))), (iV z2.cls)]) [])
                refine At.retsV (ρ1 := r8) f63r8 (@env_ok r8) ⟨enk (kleqf c8), enk (kgeqt c7), enk K35, enk K34, enk (kleqt c6), enk (kgeqt c5), enk K33, enk K32, enk K31, enk K30, enk (kleqt c4), enk (kgeqt c3), enk K29, enk K28, enk K27, enk (klsst c1), enk K26, trivial⟩ trivial trivial trivial f63I51 hat (fun a w h => .inr ⟨.inr rfl, .inr ⟨(fun q => nomatch q), .inr ⟨(fun q => nomatch q), h⟩⟩⟩) (fun w2 hb => ?_)
                have v0 : (3 : Int) = srcsErr x0 x1 l := by
                  have hs : srcErr x0 x1 (l.getD i.toNat srcD) = 3 := by
                    unfold srcErr
                    repeat' split
                    all_goals simp_all
                    all_goals omega
                  unfold srcsErr
                  rw [if_neg (by omega), firstErr_at (srcErr x0 x1) srcD l i.toNat (by omega) (fun k hk => i2 k (by omega)) (by omega)]
                  omega
                exact ret1 v0 hb
              let r9 : Rho := (RO w0 (d4 ++ [(iV (((l.length : Nat) : Int))), (.pointer (ptrO al ((i).toNat * 5))), (.pointer (ptrO al ((i).toNat * 5 + 0))), (iV z2.kind), (.pointer (ptrO al ((i).toNat * 5 + 1))), (iV z2.cell), (iV ((x0 * x1))), (iV (((x0 * x1) - 1))), (.pointer (ptrO al ((i).toNat * 5 + 2))), (iV z2.cls)]) [])
              refine At.retsV (ρ1 := r9) f63r9 (@env_ok r9) ⟨enk (kgeqf c7), enk K35, enk K34, enk (kleqt c6), enk (kgeqt c5), enk K33, enk K32, enk K31, enk K30, enk (kleqt c4), enk (kgeqt c3), enk K29, enk K28, enk K27, enk (klsst c1), enk K26, trivial⟩ trivial trivial trivial f63I51 hat (fun a w h => .inr ⟨.inr rfl, .inr ⟨(fun q => nomatch q), .inr ⟨(fun q => nomatch q), h⟩⟩⟩) (fun w2 hb => ?_)
              have v0 : (3 : Int) = srcsErr x0 x1 l := by
                have hs : srcErr x0 x1 (l.getD i.toNat srcD) = 3 := by
                  unfold srcErr
                  repeat' split
                  all_goals simp_all
                  all_goals omega
                unfold srcsErr
                rw [if_neg (by omega), firstErr_at (srcErr x0 x1) srcD l i.toNat (by omega) (fun k hk => i2 k (by omega)) (by omega)]
                omega
              exact ret1 v0 hb
            let r10 : Rho := (RO w0 (d4 ++ [(iV (((l.length : Nat) : Int))), (.pointer (ptrO al ((i).toNat * 5))), (.pointer (ptrO al ((i).toNat * 5 + 0))), (iV z2.kind), (.pointer (ptrO al ((i).toNat * 5 + 1))), (iV z2.cell), (iV ((x0 * x1))), (iV (((x0 * x1) - 1)))]) [])
            refine At.retsV (ρ1 := r10) f63r10 (@env_ok r10) ⟨enk (kleqf c6), enk (kgeqt c5), enk K33, enk K32, enk K31, enk K30, enk (kleqt c4), enk (kgeqt c3), enk K29, enk K28, enk K27, enk (klsst c1), enk K26, trivial⟩ trivial trivial trivial f63I51 hat (fun a w h => .inr ⟨.inr rfl, .inr ⟨(fun q => nomatch q), .inr ⟨(fun q => nomatch q), h⟩⟩⟩) (fun w2 hb => ?_)
            have v0 : (4 : Int) = srcsErr x0 x1 l := by
              have hs : srcErr x0 x1 (l.getD i.toNat srcD) = 4 := by
                unfold srcErr
                repeat' split
                all_goals simp_all
                all_goals omega
              unfold srcsErr
              rw [if_neg (by omega), firstErr_at (srcErr x0 x1) srcD l i.toNat (by omega) (fun k hk => i2 k (by omega)) (by omega)]
              omega
            exact ret1 v0 hb
          let r11 : Rho := (RO w0 (d4 ++ [(iV (((l.length : Nat) : Int))), (.pointer (ptrO al ((i).toNat * 5))), (.pointer (ptrO al ((i).toNat * 5 + 0))), (iV z2.kind), (.pointer (ptrO al ((i).toNat * 5 + 1))), (iV z2.cell), (iV ((x0 * x1))), (iV (((x0 * x1) - 1)))]) [])
          refine At.retsV (ρ1 := r11) f63r11 (@env_ok r11) ⟨enk (kgeqf c5), enk K33, enk K32, enk K31, enk K30, enk (kleqt c4), enk (kgeqt c3), enk K29, enk K28, enk K27, enk (klsst c1), enk K26, trivial⟩ trivial trivial trivial f63I51 hat (fun a w h => .inr ⟨.inr rfl, .inr ⟨(fun q => nomatch q), .inr ⟨(fun q => nomatch q), h⟩⟩⟩) (fun w2 hb => ?_)
          have v0 : (4 : Int) = srcsErr x0 x1 l := by
            have hs : srcErr x0 x1 (l.getD i.toNat srcD) = 4 := by
              unfold srcErr
              repeat' split
              all_goals simp_all
              all_goals omega
            unfold srcsErr
            rw [if_neg (by omega), firstErr_at (srcErr x0 x1) srcD l i.toNat (by omega) (fun k hk => i2 k (by omega)) (by omega)]
            omega
          exact ret1 v0 hb
        let r12 : Rho := (RO w0 (d4 ++ [(iV (((l.length : Nat) : Int))), (.pointer (ptrO al ((i).toNat * 5))), (.pointer (ptrO al ((i).toNat * 5 + 0))), (iV z2.kind)]) [])
        refine At.retsV (ρ1 := r12) f63r12 (@env_ok r12) ⟨enk (kleqf c4), enk (kgeqt c3), enk K29, enk K28, enk K27, enk (klsst c1), enk K26, trivial⟩ trivial trivial trivial f63I51 hat (fun a w h => .inr ⟨.inr rfl, .inr ⟨(fun q => nomatch q), .inr ⟨(fun q => nomatch q), h⟩⟩⟩) (fun w2 hb => ?_)
        have v0 : (2 : Int) = srcsErr x0 x1 l := by
          have hs : srcErr x0 x1 (l.getD i.toNat srcD) = 2 := by
            unfold srcErr
            repeat' split
            all_goals simp_all
            all_goals omega
          unfold srcsErr
          rw [if_neg (by omega), firstErr_at (srcErr x0 x1) srcD l i.toNat (by omega) (fun k hk => i2 k (by omega)) (by omega)]
          omega
        exact ret1 v0 hb
      let r13 : Rho := (RO w0 (d4 ++ [(iV (((l.length : Nat) : Int))), (.pointer (ptrO al ((i).toNat * 5))), (.pointer (ptrO al ((i).toNat * 5 + 0))), (iV z2.kind)]) [])
      refine At.retsV (ρ1 := r13) f63r13 (@env_ok r13) ⟨enk (kgeqf c3), enk K29, enk K28, enk K27, enk (klsst c1), enk K26, trivial⟩ trivial trivial trivial f63I51 hat (fun a w h => .inr ⟨.inr rfl, .inr ⟨(fun q => nomatch q), .inr ⟨(fun q => nomatch q), h⟩⟩⟩) (fun w2 hb => ?_)
      have v0 : (2 : Int) = srcsErr x0 x1 l := by
        have hs : srcErr x0 x1 (l.getD i.toNat srcD) = 2 := by
          unfold srcErr
          repeat' split
          all_goals simp_all
          all_goals omega
        unfold srcsErr
        rw [if_neg (by omega), firstErr_at (srcErr x0 x1) srcD l i.toNat (by omega) (fun k hk => i2 k (by omega)) (by omega)]
        omega
      exact ret1 v0 hb
    let r14 : Rho := (RO w0 (d4 ++ [(iV (((l.length : Nat) : Int)))]) [])
    let p5 : Rho := (RO w0 vb [])
    refine At.go (ρ1 := r14) (ρ2 := p5) f63r14 (@env_ok r14) ⟨enk (klssf c1), enk K26, trivial⟩ trivial trivial trivial f63I51 f63I53 hat (fun a w hat => .inr ⟨.inl ⟨0, rfl⟩, .inl ⟨rfl, .inl ⟨rfl, ?_⟩⟩⟩)
    refine At.lastsV (ρ1 := p5) f63r15 (@env_ok p5) trivial trivial trivial trivial f63I53 hat (fun w2 hb => ?_)
    have v0 : (0 : Int) = srcsErr x0 x1 l := by
      unfold srcsErr; rw [if_neg (by omega), firstErr_all (srcErr x0 x1) srcD l (fun k hk => i2 k (by omega))]
    exact ret1 v0 hb
  · show 0 ≤ (0 : Int) ∧ (0 : Int) ≤ l.length ∧ (∀ k : Nat, (k : Int) < (0 : Int) → srcErr x0 x1 (l.getD k srcD) = 0)
    exact ⟨by omega, by omega, fun k hk => by omega⟩
end
end Go.Proofs.Ytoaehigmpbhppaa.En
namespace Go.Proofs.Ytoaehigmpbhppaa.En
open Go Go.Ev Go.Proofs Go.RowKit
def ModOk (x0 x1 x2 x3 x4 x5 x6 x7 : Int) : Prop := (1 ≤ x0 ∧ x0 ≤ 24) ∧ (1 ≤ x1 ∧ x1 ≤ 24) ∧ (1 ≤ x2 ∧ x2 ≤ 10000) ∧ (100 ≤ x3 ∧ x3 ≤ x4 ∧ x4 ≤ 20000) ∧ (0 ≤ x5 ∧ x5 ≤ x6 ∧ x6 ≤ 700000) ∧ (0 ≤ x7 ∧ x7 ≤ 1000)
noncomputable def trLo (x0 x1 x2 x3 x4 x5 x6 x7 x8 x9 : Int) : Int := 1000 * dist0 x0 x1 x2 x3 x4 x5 x6 x7 x8 x9 / x4
noncomputable def trHi (x0 x1 x2 x3 x4 x5 x6 x7 x8 x9 : Int) : Int := (1000 * dist1 x0 x1 x2 x3 x4 x5 x6 x7 x8 x9 + x3 - 1) / x3
theorem div_bd {a b A : Int} (h0 : 0 ≤ a) (h1 : a ≤ A) (h2 : 100 ≤ b) (hA : 0 ≤ A) : 0 ≤ a / b ∧ a / b ≤ A := by
  refine ⟨Int.ediv_nonneg h0 (by omega), ?_⟩
  have := Int.ediv_le_self b h0
  omega
theorem tr_bd {x0 x1 x2 x3 x4 x5 x6 x7 x8 x9 : Int} (h : ModOk x0 x1 x2 x3 x4 x5 x6 x7) (h8 : 0 ≤ x8 ∧ x8 < x0 * x1) (h9 : 0 ≤ x9 ∧ x9 < x0 * x1) :
    (0 ≤ trLo x0 x1 x2 x3 x4 x5 x6 x7 x8 x9 ∧ trLo x0 x1 x2 x3 x4 x5 x6 x7 x8 x9 ≤ 1048575000) ∧ (0 ≤ trHi x0 x1 x2 x3 x4 x5 x6 x7 x8 x9 ∧ trHi x0 x1 x2 x3 x4 x5 x6 x7 x8 x9 ≤ 1048620000) := by
  obtain ⟨v0, v1, v2, v3, v5, v7⟩ := h
  have b := dist_bd v0 v1 v2 v3 v5 v7 h8 h9
  unfold trLo trHi
  have q1 := div_bd (a := 1000 * dist0 x0 x1 x2 x3 x4 x5 x6 x7 x8 x9) (b := x4) (A := 1048575000) (by omega) (by omega) (by omega) (by omega)
  have q2 := div_bd (a := 1000 * dist1 x0 x1 x2 x3 x4 x5 x6 x7 x8 x9 + x3 - 1) (b := x3) (A := 1048620000) (by omega) (by omega) (by omega) (by omega)
  exact ⟨q1, q2⟩
theorem srcErr_ok {x0 x1 : Int} {s : Src} (h : srcErr x0 x1 s = 0) : (s.kind = 1 ∨ s.kind = 2 ∨ s.kind = 3) ∧ (0 ≤ s.cell ∧ s.cell ≤ x0 * x1 - 1) ∧ (1 ≤ s.cls ∧ s.cls ≤ 10) ∧ s.lo ≤ s.hi ∧ 0 ≤ s.lo ∧ s.hi ≤ 1000000000 := by
  unfold srcErr at h
  repeat' split at h
  all_goals first | omega | (exfalso; omega) | skip
theorem firstErr_zero {α : Type} {f : α → Int} (d : α) : ∀ {l : List α}, firstErr f l = 0 → ∀ k, k < l.length → f (l.getD k d) = 0
  | [], _, k, hk => by simp at hk
  | x :: l, h, k, hk => by
    unfold firstErr at h
    by_cases h0 : f x = 0
    · rw [if_pos h0] at h
      cases k with
      | zero => simpa using h0
      | succ k => simpa using firstErr_zero d h k (by simpa using hk)
    · rw [if_neg h0] at h
      exact absurd h h0
theorem take_getD {α : Type} (d : α) {l : List α} {i : Nat} (h : i < l.length) : l.take (i + 1) = l.take i ++ [l.getD i d] := by
  rw [List.take_add_one]
  simp [List.getD, h]
end Go.Proofs.Ytoaehigmpbhppaa.En
namespace Go.Proofs.Ytoaehigmpbhppaa.En
open Go Go.Ev Go.Proofs Go.RowKit
noncomputable def trq_b0 : Code := (Try.f44.body).getD .skip
noncomputable def trq_fr0 : Fr := mkFr Try.f44 [(0, (.agg #[(.chan (.some 0)), (.chan (.some 1)), (.chan (.some 2)), (.chan (.some 3)), (.chan (.some 4)), (.chan (.some 5)), (.chan (.some 6)), (.chan (.some 7))])), (1, (.agg #[(.chan (.some 8)), (.chan (.some 9))]))] []
noncomputable def trq_st0 : St := mkSt 0 []
theorem trq_wf0 : trq_st0.Wf := mkSt_wf rfl
set_option maxRecDepth 1000000 in
theorem trq_id0 : agreeL [.chan (some 0), .chan (some 1), .chan (some 2), .chan (some 3), .chan (some 4), .chan (some 5), .chan (some 6), .chan (some 7), .chan (some 8), .chan (some 9)] [] [] trq_fr0 trq_st0 trq_fr0 trq_st0 = true := by kernel_rfl
set_option maxRecDepth 1000000 in
theorem trq_a0 : agreeL [.chan (some 0), .chan (some 1), .chan (some 2), .chan (some 3), .chan (some 4), .chan (some 5), .chan (some 6), .chan (some 7), .chan (some 8), .chan (some 9)] [] [] trq_fr0 trq_st0 (frameOf Try.f44 [(.agg #[(.chan (.some 0)), (.chan (.some 1)), (.chan (.some 2)), (.chan (.some 3)), (.chan (.some 4)), (.chan (.some 5)), (.chan (.some 6)), (.chan (.some 7))]), (.agg #[(.chan (.some 8)), (.chan (.some 9))])]) Ev.start = true := by kernel_rfl
noncomputable def trq_e0 : List Ent := [⟨(.bin .mul 3), [(.int .i64 1000), (.chan (some 8))], (.chan (some 10))⟩, ⟨(.bin .quo 3), [(.chan (some 10)), (.chan (some 4))], (.chan (some 11))⟩, ⟨(.bin .mul 3), [(.int .i64 1000), (.chan (some 9))], (.chan (some 12))⟩, ⟨(.bin .add 3), [(.chan (some 12)), (.chan (some 3))], (.chan (some 13))⟩, ⟨(.bin .sub 3), [(.chan (some 13)), (.int .i64 1)], (.chan (some 14))⟩, ⟨(.bin .quo 3), [(.chan (some 14)), (.chan (some 3))], (.chan (some 15))⟩]
noncomputable def trq_c0 : List CEnt := []
noncomputable def trq_l0 : List LEnt := []
noncomputable def trq_cl0 : List CLEnt := []
set_option maxRecDepth 1000000 in
theorem trq_r0 : ev Try.prog (env.symL trq_e0 trq_c0 trq_l0 trq_cl0) 3000 (.code trq_b0 none trq_fr0 trq_st0 (retK (env.symL trq_e0 trq_c0 trq_l0 trq_cl0) Try.f44 (endV (.agg #[(.chan (some 11)), (.chan (some 15))])))) = some () := by kernel_rfl
set_option maxHeartbeats 8000000 in
set_option maxRecDepth 100000 in
theorem trq_any (x0 : Int) (x1 : Int) (x2 : Int) (x3 : Int) (x4 : Int) (x5 : Int) (x6 : Int) (x7 : Int) (x8 : Int) (x9 : Int) (w0 : World) (v : ModOk x0 x1 x2 x3 x4 x5 x6 x7) (h8 : 0 ≤ x8 ∧ x8 ≤ 1048576) (h9 : 0 ≤ x9 ∧ x9 ≤ 1048576) : Calls Try.prog 44 #[(.agg #[(.int .i64 (x0)), (.int .i64 (x1)), (.int .i64 (x2)), (.int .i64 (x3)), (.int .i64 (x4)), (.int .i64 (x5)), (.int .i64 (x6)), (.int .i64 (x7))]), (.agg #[(.int .i64 (x8)), (.int .i64 (x9))])] w0 (fun en w' => en = .returned (.agg #[.int .i64 (1000 * x8 / x4), .int .i64 ((1000 * x9 + x3 - 1) / x3)]) ∧ Below w0.heap.size w0 w') := by
  have v0m := v
  obtain ⟨v0, v1, v2, v3, v5, v7⟩ := v
  have hx := mul_bd (a := x0) (b := x1) (A := 24) (B := 24) (C := 576) (by omega) (by omega) (by omega) (by omega)
  have d1 := div_bd (a := 1000 * x8) (b := x4) (A := 1048576000) (by omega) (by omega) (by omega) (by omega)
  have d2 := div_bd (a := 1000 * x9 + x3 - 1) (b := x3) (A := 1048620000) (by omega) (by omega) (by omega) (by omega)
  refine @calls_of_body (Rho.of [(.int .i64 (x0)), (.int .i64 (x1)), (.int .i64 (x2)), (.int .i64 (x3)), (.int .i64 (x4)), (.int .i64 (x5)), (.int .i64 (x6)), (.int .i64 (x7)), (.int .i64 (x8)), (.int .i64 (x9))] (fun b => w0.heap[b]?) []) Try.prog env (@env_ok (Rho.of [(.int .i64 (x0)), (.int .i64 (x1)), (.int .i64 (x2)), (.int .i64 (x3)), (.int .i64 (x4)), (.int .i64 (x5)), (.int .i64 (x6)), (.int .i64 (x7)), (.int .i64 (x8)), (.int .i64 (x9))] (fun b => w0.heap[b]?) [])) 44 Try.f44 trq_b0 [(.agg #[(.chan (.some 0)), (.chan (.some 1)), (.chan (.some 2)), (.chan (.some 3)), (.chan (.some 4)), (.chan (.some 5)), (.chan (.some 6)), (.chan (.some 7))]), (.agg #[(.chan (.some 8)), (.chan (.some 9))])] w0 _ (by kernel_rfl) (by kernel_rfl) (of_decide_eq_true (by kernel_rfl)) (of_decide_eq_true (by kernel_rfl)) rfl (fun _ _ h => h) (fun a hat0 => ?_)
  have hat : @At (Rho.of [(.int .i64 (x0)), (.int .i64 (x1)), (.int .i64 (x2)), (.int .i64 (x3)), (.int .i64 (x4)), (.int .i64 (x5)), (.int .i64 (x6)), (.int .i64 (x7)), (.int .i64 (x8)), (.int .i64 (x9))] (fun b => w0.heap[b]?) []) w0 trq_fr0 trq_st0 a w0 := At.shiftL (σ := [.chan (some 0), .chan (some 1), .chan (some 2), .chan (some 3), .chan (some 4), .chan (some 5), .chan (some 6), .chan (some 7), .chan (some 8), .chan (some 9)]) (π := []) (τ := []) ⟨rfl, rfl, rfl, rfl, rfl, rfl, rfl, rfl, rfl, rfl, rfl, rfl, rfl, rfl, rfl, rfl, rfl, rfl, rfl, rfl, trivial⟩ trivial (fun _ _ h => h) trq_wf0 trq_a0 hat0
  clear hat0
  suffices key : ∀ w, @At (Rho.of [(.int .i64 (x0)), (.int .i64 (x1)), (.int .i64 (x2)), (.int .i64 (x3)), (.int .i64 (x4)), (.int .i64 (x5)), (.int .i64 (x6)), (.int .i64 (x7)), (.int .i64 (x8)), (.int .i64 (x9))] (fun b => w0.heap[b]?) []) w0 trq_fr0 trq_st0 a w → trq_b0.wpIn (FF none) 0 Try.prog (bodyPostM Fence.wide 0 Try.prog Try.f44 (fun en w' => en = .returned (.agg #[.int .i64 (1000 * x8 / x4), .int .i64 ((1000 * x9 + x3 - 1) / x3)]) ∧ Below w0.heap.size w0 w')) a w from key w0 hat
  clear hat
  intro w hat
  let p0 : Rho := (Rho.of [(.int .i64 (x0)), (.int .i64 (x1)), (.int .i64 (x2)), (.int .i64 (x3)), (.int .i64 (x4)), (.int .i64 (x5)), (.int .i64 (x6)), (.int .i64 (x7)), (.int .i64 (x8)), (.int .i64 (x9))] (fun b => w0.heap[b]?) [])
  change @At p0 w0 trq_fr0 trq_st0 a w at hat
  let r0 : Rho := (Rho.of [(.int .i64 (x0)), (.int .i64 (x1)), (.int .i64 (x2)), (.int .i64 (x3)), (.int .i64 (x4)), (.int .i64 (x5)), (.int .i64 (x6)), (.int .i64 (x7)), (.int .i64 (x8)), (.int .i64 (x9)), (.int .i64 ((1000 * x8))), (.int .i64 (((1000 * x8) / x4))), (.int .i64 ((1000 * x9))), (.int .i64 (((1000 * x9) + x3))), (.int .i64 ((((1000 * x9) + x3) - 1))), (.int .i64 (((((1000 * x9) + x3) - 1) / x3)))] (fun b => w0.heap[b]?) [])
  have hat1 : @At r0 w0 trq_fr0 trq_st0 a w := At.shiftL (ρ1 := p0) (ρ2 := r0) (σ := [.chan (some 0), .chan (some 1), .chan (some 2), .chan (some 3), .chan (some 4), .chan (some 5), .chan (some 6), .chan (some 7), .chan (some 8), .chan (some 9)]) (π := []) (τ := []) ⟨rfl, rfl, rfl, rfl, rfl, rfl, rfl, rfl, rfl, rfl, rfl, rfl, rfl, rfl, rfl, rfl, rfl, rfl, rfl, rfl, trivial⟩ trivial (fun _ _ h => h) trq_wf0 trq_id0 hat
  refine @At.lastK r0 Try.prog (env.symL trq_e0 trq_c0 trq_l0 trq_cl0) (@Env.Ok.symL r0 _ _ (@env_ok r0) trq_e0 trq_c0 trq_l0 trq_cl0 ⟨⟨rfl, rfl, fun w hm => (show KeyOk Try.prog w (.bin .mul 3) [(.int .i64 1000), (.int .i64 (x8))] (.int .i64 ((1000 * x8))) from k_mul (wrap64 (by omega)))⟩, ⟨rfl, rfl, fun w hm => (show KeyOk Try.prog w (.bin .quo 3) [(.int .i64 ((1000 * x8))), (.int .i64 (x4))] (.int .i64 (((1000 * x8) / x4))) from k_quo_nn (by omega) (by omega) (wrap64 (by omega)))⟩, ⟨rfl, rfl, fun w hm => (show KeyOk Try.prog w (.bin .mul 3) [(.int .i64 1000), (.int .i64 (x9))] (.int .i64 ((1000 * x9))) from k_mul (wrap64 (by omega)))⟩, ⟨rfl, rfl, fun w hm => (show KeyOk Try.prog w (.bin .add 3) [(.int .i64 ((1000 * x9))), (.int .i64 (x3))] (.int .i64 (((1000 * x9) + x3))) from k_add (wrap64 (by omega)))⟩, ⟨rfl, rfl, fun w hm => (show KeyOk Try.prog w (.bin .sub 3) [(.int .i64 (((1000 * x9) + x3))), (.int .i64 1)] (.int .i64 ((((1000 * x9) + x3) - 1))) from k_sub (wrap64 (by omega)))⟩, ⟨rfl, rfl, fun w hm => (show KeyOk Try.prog w (.bin .quo 3) [(.int .i64 ((((1000 * x9) + x3) - 1))), (.int .i64 (x3))] (.int .i64 (((((1000 * x9) + x3) - 1) / x3))) from k_quo_nn (by omega) (by omega) (wrap64 (by omega)))⟩, trivial⟩ trivial trivial trivial) w0 3000 trq_b0 Try.f44 trq_fr0 trq_st0 _ _ trq_r0 trq_wf0 a w hat1 (@endV_ok r0 w0 (.agg #[(.chan (some 11)), (.chan (some 15))]) (fun en w' => en = .returned (.agg #[.int .i64 (1000 * x8 / x4), .int .i64 ((1000 * x9 + x3 - 1) / x3)]) ∧ Below w0.heap.size w0 w') rfl (fun w2 hb => ?_))
  have v0 : (((1000 * x8) / x4) : Int) = 1000 * x8 / x4 := by
    rfl
  have v1 : (((((1000 * x9) + x3) - 1) / x3) : Int) = (1000 * x9 + x3 - 1) / x3 := by
    rfl
  have hv := congr (congrArg (fun (y0 : Int) (y1 : Int) => ((.agg #[(.int .i64 y0), (.int .i64 y1)]) : Value)) v0) v1
  exact ⟨congrArg Ending.returned hv, hb⟩
end Go.Proofs.Ytoaehigmpbhppaa.En
namespace Go.Proofs.Ytoaehigmpbhppaa.En
open Go Go.Ev Go.Proofs Go.RowKit
noncomputable def csErr (x0 x1 x2 x3 x4 x5 x6 x7 : Int) (l : List Src) : Int := if ¬ qcheck0 x0 x1 x2 x3 x4 x5 x6 x7 = 0 then qcheck0 x0 x1 x2 x3 x4 x5 x6 x7 else srcsErr x0 x1 l
theorem filterMap_snoc {α β : Type} (f : α → Option β) (d : α) {l : List α} {i : Nat} (h : i < l.length) : (l.take (i + 1)).filterMap f = (l.take i).filterMap f ++ (f (l.getD i d)).toList := by
  rw [take_getD d h, List.filterMap_append]
  congr 1
theorem filterMap_some {α β : Type} (f : α → Option β) (d : α) {l : List α} {i : Nat} {y : β} (h : i < l.length) (hf : f (l.getD i d) = some y) : (l.take (i + 1)).filterMap f = (l.take i).filterMap f ++ [y] := by rw [filterMap_snoc f d h, hf]; rfl
theorem filterMap_none {α β : Type} (f : α → Option β) (d : α) {l : List α} {i : Nat} (h : i < l.length) (hf : f (l.getD i d) = none) : (l.take (i + 1)).filterMap f = (l.take i).filterMap f := by rw [filterMap_snoc f d h, hf]; simp
end Go.Proofs.Ytoaehigmpbhppaa.En
namespace Go.Proofs.Ytoaehigmpbhppaa.En
open Go Go.Ev Go.Proofs Go.RowKit
set_option maxRecDepth 1000000
noncomputable section
def f47b0 : Code := (Try.f47.body).getD .skip
def f47F0 : Fr := mkFr Try.f47 [(0, (ag 0 8)), (1, (sy 8)), (2, (sy 9))] []
def f47S1 : St := mkSt 0 []
theorem f47I2 : IdOk 10 0 0 f47F0 f47S1 := ⟨mkSt_wf rfl, by kernel_rfl⟩
theorem f47f83 : FnIn env 83 := ⟨Try.f83, (Try.f83.body).getD .skip, by kernel_rfl, by kernel_rfl⟩
def f47n3 : List Ent := aB .quo (sy 16) (sy 3) (sy 17) :: aB .sub (sy 15) (iV 1) (sy 16) :: aB .add (sy 14) (sy 3) (sy 15) :: aB .mul (iV 1000) (sy 11) (sy 14) :: aB .quo (sy 12) (sy 4) (sy 13) :: aB .mul (iV 1000) (sy 10) (sy 12) :: []
def f47n4 : List CEnt := ⟨83, [(ag 0 8), (sy 8), (sy 9)], [], (ag 10 2)⟩ :: []
theorem f47a0 : agreeL (ids 10) [] [] f47F0 f47S1 (frameOf Try.f47 [(ag 0 8), (sy 8), (sy 9)]) Ev.start = true := by kernel_rfl
theorem f47r0 : lE f47n3 f47n4 [] [] f47b0 f47F0 f47S1 Try.f47 (endV (.agg #[(sy 13), (sy 17)])) = some () := by kernel_rfl
set_option maxHeartbeats 8000000 in
theorem rtr_any (x0 : Int) (x1 : Int) (x2 : Int) (x3 : Int) (x4 : Int) (x5 : Int) (x6 : Int) (x7 : Int) (x8 : Int) (x9 : Int) (w0 : World) (v : ModOk x0 x1 x2 x3 x4 x5 x6 x7) (h8 : 0 ≤ x8 ∧ x8 < x0 * x1) (h9 : 0 ≤ x9 ∧ x9 < x0 * x1) : Calls Try.prog 47 #[(mV x0 x1 x2 x3 x4 x5 x6 x7), (iV x8), (iV x9)] w0 (fun en w' => en = .returned (.agg #[iV (trLo x0 x1 x2 x3 x4 x5 x6 x7 x8 x9), iV (trHi x0 x1 x2 x3 x4 x5 x6 x7 x8 x9)]) ∧ Below w0.heap.size w0 w') := by
  have v0m := v
  obtain ⟨v0, v1, v2, v3, v5, v7⟩ := v
  have hx := mul_bd (a := x0) (b := x1) (A := 24) (B := 24) (C := 576) (by omega) (by omega) (by omega) (by omega)
  have tb := tr_bd v0m (x8 := x8) (x9 := x9) h8 h9
  unfold trLo trHi at tb
  let vb : List Value := [(iV x0), (iV x1), (iV x2), (iV x3), (iV x4), (iV x5), (iV x6), (iV x7), (iV x8), (iV x9)]
  let p0 : Rho := (RO w0 vb [])
  refine At.begin (ρ := p0) (c := f47b0) (@env_ok p0) f47I2 f47a0 (fun a w hat => ?_)
  have hd := dist_bd v0 v1 v2 v3 v5 v7 (x8 := x8) (x9 := x9) (by omega) (by omega)
  have K0 : CA w0 83 #[(mV x0 x1 x2 x3 x4 x5 x6 x7), (iV x8), (iV x9)] (.agg #[(iV ((dist0 x0 x1 x2 x3 x4 x5 x6 x7 x8 x9))), (iV ((dist1 x0 x1 x2 x3 x4 x5 x6 x7 x8 x9)))]) := fun w hm => rdist_any x0 x1 x2 x3 x4 x5 x6 x7 x8 x9  (by omega) (by omega) (by omega) (by omega) (by omega) (by omega) (by omega) (by omega) w
  have K1 : KA w0 (.bin .mul 3) [(iV 1000), (iV ((dist0 x0 x1 x2 x3 x4 x5 x6 x7 x8 x9)))] (iV ((1000 * (dist0 x0 x1 x2 x3 x4 x5 x6 x7 x8 x9)))) := fun w hm => k_mul (wrap64 (by omega))
  have K2 : KA w0 (.bin .quo 3) [(iV ((1000 * (dist0 x0 x1 x2 x3 x4 x5 x6 x7 x8 x9)))), (iV x4)] (iV (((1000 * (dist0 x0 x1 x2 x3 x4 x5 x6 x7 x8 x9)) / x4))) := fun w hm => k_quo_nn (by omega) (by omega) (wrap64 (by omega))
  have K3 : KA w0 (.bin .mul 3) [(iV 1000), (iV ((dist1 x0 x1 x2 x3 x4 x5 x6 x7 x8 x9)))] (iV ((1000 * (dist1 x0 x1 x2 x3 x4 x5 x6 x7 x8 x9)))) := fun w hm => k_mul (wrap64 (by omega))
  have K4 := kAdd w0 ((1000 * (dist1 x0 x1 x2 x3 x4 x5 x6 x7 x8 x9))) x3 (by omega)
  have K5 := kSub w0 (((1000 * (dist1 x0 x1 x2 x3 x4 x5 x6 x7 x8 x9)) + x3)) (1) (by omega)
  have K6 : KA w0 (.bin .quo 3) [(iV ((((1000 * (dist1 x0 x1 x2 x3 x4 x5 x6 x7 x8 x9)) + x3) - 1))), (iV x3)] (iV (((((1000 * (dist1 x0 x1 x2 x3 x4 x5 x6 x7 x8 x9)) + x3) - 1) / x3))) := fun w hm => k_quo_nn (by omega) (by omega) (wrap64 (by omega))
  let r0 : Rho := (RO w0 (vb ++ [(iV ((dist0 x0 x1 x2 x3 x4 x5 x6 x7 x8 x9))), (iV ((dist1 x0 x1 x2 x3 x4 x5 x6 x7 x8 x9))), (iV ((1000 * (dist0 x0 x1 x2 x3 x4 x5 x6 x7 x8 x9)))), (iV (((1000 * (dist0 x0 x1 x2 x3 x4 x5 x6 x7 x8 x9)) / x4))), (iV ((1000 * (dist1 x0 x1 x2 x3 x4 x5 x6 x7 x8 x9)))), (iV (((1000 * (dist1 x0 x1 x2 x3 x4 x5 x6 x7 x8 x9)) + x3))), (iV ((((1000 * (dist1 x0 x1 x2 x3 x4 x5 x6 x7 x8 x9)) + x3) - 1))), (iV (((((1000 * (dist1 x0 x1 x2 x3 x4 x5 x6 x7 x8 x9)) + x3) - 1) / x3)))]) [])
  refine At.lastsV (ρ1 := r0) f47r0 (@env_ok r0) ⟨enk K6, enk K5, enk K4, enk K3, enk K2, enk K1, trivial⟩ ⟨cok K0 f47f83, trivial⟩ trivial trivial f47I2 hat (fun w2 hb => ?_)
  have v0 : (((1000 * (dist0 x0 x1 x2 x3 x4 x5 x6 x7 x8 x9)) / x4) : Int) = trLo x0 x1 x2 x3 x4 x5 x6 x7 x8 x9 := by
    rfl
  have v1 : (((((1000 * (dist1 x0 x1 x2 x3 x4 x5 x6 x7 x8 x9)) + x3) - 1) / x3) : Int) = trHi x0 x1 x2 x3 x4 x5 x6 x7 x8 x9 := by
    rfl
  have hv := congr (congrArg (fun (y0 : Int) (y1 : Int) => ((.agg #[(iV y0), (iV y1)]) : Value)) v0) v1
  exact ⟨congrArg Ending.returned hv, hb⟩
end
end Go.Proofs.Ytoaehigmpbhppaa.En
namespace Go.Proofs.Ytoaehigmpbhppaa.En
open Go Go.Ev Go.Proofs Go.RowKit
structure Sp where
  lo : Int
  hi : Int
def spC (x : Sp) : List Value := [.int .i64 x.lo, .int .i64 x.hi]
def spD : Sp := ⟨0, 0⟩
structure Tn where
  time : Int
  more : Int
deriving Inhabited
def tnC (x : Tn) : List Value := [.int .i64 x.time, .int .i64 x.more]
def tnD : Tn := ⟨0, 0⟩
/-- No end of a span is far away. -/
def SpsOk (l : List Sp) : Prop := ∀ k, k < l.length → (-2000000000000 ≤ (l.getD k spD).lo ∧ (l.getD k spD).lo ≤ 2000000000000) ∧ (-2000000000000 ≤ (l.getD k spD).hi ∧ (l.getD k spD).hi ≤ 2000000000000)
def TnsOk (l : List Tn) : Prop := ∀ k, k < l.length → (-3000000000000 ≤ (l.getD k tnD).time ∧ (l.getD k tnD).time ≤ 3000000000000) ∧ (-1 ≤ (l.getD k tnD).more ∧ (l.getD k tnD).more ≤ 1)
/-- The first and the last time at which at most f do not allow it. -/
def posF (t1 f : Int) : Int → Int → Int × Int → List Tn → Int × Int
  | start, wrong, p, [] => if start ≤ t1 ∧ wrong ≤ f then (min p.1 start, t1) else p
  | start, wrong, p, u :: L => posF t1 f u.time (wrong + u.more) (if start < u.time ∧ wrong ≤ f then (min p.1 start, u.time - 1) else p) L
theorem posF_at {t1 f start wrong : Int} {p : Int × Int} {L : List Tn} {i : Nat} (h : i < L.length) : posF t1 f start wrong p (L.drop i) = posF t1 f (L.getD i tnD).time (wrong + (L.getD i tnD).more) (if start < (L.getD i tnD).time ∧ wrong ≤ f then (min p.1 start, (L.getD i tnD).time - 1) else p) (L.drop (i + 1)) := by
  rw [List.drop_eq_getElem_cons h]
  have e : L.getD i tnD = L[i] := by simp [List.getD, List.getElem?_eq_getElem h]
  rw [e]; rfl
end Go.Proofs.Ytoaehigmpbhppaa.En
namespace Go.Proofs.Ytoaehigmpbhppaa.En
open Go Go.Ev Go.Proofs Go.RowKit
structure Pk where
  kind : Int
  station : Int
  t0 : Int
  t1 : Int
  l0 : Int
  l1 : Int
def pkC (x : Pk) : List Value := [.int .i64 x.kind, .int .i64 x.station, .int .i64 x.t0, .int .i64 x.t1, .int .i64 x.l0, .int .i64 x.l1]
def pkD : Pk := ⟨0, 0, 0, 0, 0, 0⟩
noncomputable def stLo (x0 x1 x2 x3 x4 x5 x6 x7 cls a b : Int) : Int := 100 * cls - fallZ (dist1 x0 x1 x2 x3 x4 x5 x6 x7 a b) - x7
noncomputable def stHi (x0 x1 x2 x3 x4 x5 x6 x7 cls a b : Int) : Int := 100 * cls - fallZ (dist0 x0 x1 x2 x3 x4 x5 x6 x7 a b) + x7
theorem st_bd {x0 x1 x2 x3 x4 x5 x6 x7 cls a b : Int} (h : ModOk x0 x1 x2 x3 x4 x5 x6 x7) (hc : 1 ≤ cls ∧ cls ≤ 10) (h8 : 0 ≤ a ∧ a < x0 * x1) (h9 : 0 ≤ b ∧ b < x0 * x1) :
    (-3000 ≤ stLo x0 x1 x2 x3 x4 x5 x6 x7 cls a b ∧ stLo x0 x1 x2 x3 x4 x5 x6 x7 cls a b ≤ 3000) ∧ (-3000 ≤ stHi x0 x1 x2 x3 x4 x5 x6 x7 cls a b ∧ stHi x0 x1 x2 x3 x4 x5 x6 x7 cls a b ≤ 3000) := by
  obtain ⟨v0, v1, v2, v3, v5, v7⟩ := h
  have d := dist_bd v0 v1 v2 v3 v5 v7 h8 h9
  have f0 := fall_bd (d := dist0 x0 x1 x2 x3 x4 x5 x6 x7 a b) (by omega) (by omega)
  have f1 := fall_bd (d := dist1 x0 x1 x2 x3 x4 x5 x6 x7 a b) (by omega) (by omega)
  unfold stLo stHi
  omega
/-- The times at which a pick allows a quake of a class in a cell. -/
noncomputable def allowOne (x0 x1 x2 x3 x4 x5 x6 x7 cell cls : Int) (st : List Int) (p : Pk) : Sp :=
  let b := st.getD p.station.toNat 0
  if p.kind = 1 then ⟨p.t0 - trHi x0 x1 x2 x3 x4 x5 x6 x7 cell b, p.t1 - trLo x0 x1 x2 x3 x4 x5 x6 x7 cell b⟩
  else if p.kind = 2 then (if min p.l1 (stHi x0 x1 x2 x3 x4 x5 x6 x7 cls cell b) < max p.l0 (stLo x0 x1 x2 x3 x4 x5 x6 x7 cls cell b) then ⟨1099511627776, 0⟩ else ⟨0, 1099511627776⟩)
  else ⟨p.t0 - trHi x0 x1 x2 x3 x4 x5 x6 x7 cell b + 1, 1099511627776⟩
noncomputable def allowL (x0 x1 x2 x3 x4 x5 x6 x7 cell cls : Int) (st : List Int) (p : List Pk) : List Sp := p.map (allowOne x0 x1 x2 x3 x4 x5 x6 x7 cell cls st)
def pkErr (n : Int) (p : Pk) : Int := if ¬ (p.kind = 1 ∨ p.kind = 2 ∨ p.kind = 3) then 2 else if ¬ (0 ≤ p.station ∧ p.station ≤ n - 1) then 4
  else if p.kind = 2 then (if p.l0 ≤ p.l1 ∧ -10000 ≤ p.l0 ∧ p.l1 ≤ 10000 then 0 else 3) else (if p.t0 ≤ p.t1 ∧ 0 ≤ p.t0 ∧ p.t1 ≤ 1000000000 then 0 else 3)
theorem pkErr_ok {n : Int} {p : Pk} (h : pkErr n p = 0) : (p.kind = 1 ∨ p.kind = 2 ∨ p.kind = 3) ∧ (0 ≤ p.station ∧ p.station ≤ n - 1) ∧ (p.kind = 2 → p.l0 ≤ p.l1 ∧ -10000 ≤ p.l0 ∧ p.l1 ≤ 10000) ∧ (¬ p.kind = 2 → p.t0 ≤ p.t1 ∧ 0 ≤ p.t0 ∧ p.t1 ≤ 1000000000) := by
  unfold pkErr at h
  repeat' split at h
  all_goals first | omega | (refine ⟨by omega, by omega, fun h => ?_, fun h => ?_⟩ <;> omega)
/-- The stations are cells. -/
def StOk (x0 x1 : Int) (st : List Int) : Prop := ∀ k, k < st.length → 0 ≤ st.getD k 0 ∧ st.getD k 0 ≤ x0 * x1 - 1
def PksOk (n : Int) (p : List Pk) : Prop := ∀ k, k < p.length → pkErr n (p.getD k pkD) = 0
theorem allowOne_ok {x0 x1 x2 x3 x4 x5 x6 x7 cell cls : Int} {st : List Int} {p : Pk} (h : ModOk x0 x1 x2 x3 x4 x5 x6 x7) (hcell : 0 ≤ cell ∧ cell < x0 * x1) (hs : StOk x0 x1 st) (hp : pkErr st.length p = 0) :
    (-2000000000000 ≤ (allowOne x0 x1 x2 x3 x4 x5 x6 x7 cell cls st p).lo ∧ (allowOne x0 x1 x2 x3 x4 x5 x6 x7 cell cls st p).lo ≤ 2000000000000) ∧ (-2000000000000 ≤ (allowOne x0 x1 x2 x3 x4 x5 x6 x7 cell cls st p).hi ∧ (allowOne x0 x1 x2 x3 x4 x5 x6 x7 cell cls st p).hi ≤ 2000000000000) := by
  obtain ⟨h1, h2, h3, h4⟩ := pkErr_ok hp
  have hb := hs p.station.toNat (by omega)
  have tb := tr_bd h hcell (x9 := st.getD p.station.toNat 0) (by omega)
  unfold allowOne
  dsimp only
  split
  · have := h4 (by omega); dsimp only; omega
  · split
    · split <;> dsimp only <;> omega
    · have := h4 (by omega); dsimp only; omega
theorem allowL_ok {x0 x1 x2 x3 x4 x5 x6 x7 cell cls : Int} {st : List Int} {p : List Pk} (h : ModOk x0 x1 x2 x3 x4 x5 x6 x7) (hcell : 0 ≤ cell ∧ cell < x0 * x1) (hs : StOk x0 x1 st) (hp : PksOk st.length p) : SpsOk (allowL x0 x1 x2 x3 x4 x5 x6 x7 cell cls st p) := by
  intro k hk
  have hk' : k < p.length := by simpa [allowL] using hk
  have e : (allowL x0 x1 x2 x3 x4 x5 x6 x7 cell cls st p).getD k spD = allowOne x0 x1 x2 x3 x4 x5 x6 x7 cell cls st (p.getD k pkD) := by simp [allowL, List.getD, List.getElem?_map, List.getElem?_eq_getElem hk']
  rw [e]
  exact allowOne_ok h hcell hs (hp k hk')
theorem allowL_snoc {x0 x1 x2 x3 x4 x5 x6 x7 cell cls : Int} {st : List Int} {p : List Pk} {i : Nat} (h : i < p.length) : allowL x0 x1 x2 x3 x4 x5 x6 x7 cell cls st (p.take (i + 1)) = allowL x0 x1 x2 x3 x4 x5 x6 x7 cell cls st (p.take i) ++ [allowOne x0 x1 x2 x3 x4 x5 x6 x7 cell cls st (p.getD i pkD)] := by
  have e : p.getD i pkD = p[i] := by simp [List.getD, List.getElem?_eq_getElem h]
  rw [e, List.take_succ_eq_append_getElem h]
  simp only [allowL, List.map_append, List.map_cons, List.map_nil]
end Go.Proofs.Ytoaehigmpbhppaa.En
namespace Go.Proofs.Ytoaehigmpbhppaa.En
open Go Go.Ev Go.Proofs Go.RowKit
def rawOne (t0 t1 : Int) (s : Sp) : List Tn := if max t0 s.lo ≤ min t1 s.hi then [⟨max t0 s.lo, -1⟩, ⟨min t1 s.hi + 1, 1⟩] else []
def rawT (t0 t1 : Int) (l : List Sp) : List Tn := l.flatMap (rawOne t0 t1)
theorem rawT_snoc {t0 t1 : Int} {l : List Sp} {i : Nat} (h : i < l.length) : rawT t0 t1 (l.take (i + 1)) = rawT t0 t1 (l.take i) ++ rawOne t0 t1 (l.getD i spD) := by
  have e : l.getD i spD = l[i] := by simp [List.getD, List.getElem?_eq_getElem h]
  rw [e, List.take_succ_eq_append_getElem h]
  simp only [rawT, List.flatMap_append, List.flatMap_cons, List.flatMap_nil, List.append_nil]
theorem rawT_len (t0 t1 : Int) : ∀ l : List Sp, (rawT t0 t1 l).length ≤ 2 * l.length
  | [] => by simp [rawT]
  | s :: l => by
    have := rawT_len t0 t1 l
    simp only [rawT, List.flatMap_cons, List.length_append, List.length_cons] at this ⊢
    have h2 : (rawOne t0 t1 s).length ≤ 2 := by unfold rawOne; split <;> simp
    omega
/-- Turns whose times are not far away. -/
def TnIn (t : Tn) : Prop := -4000000000000 ≤ t.time ∧ t.time ≤ 4000000000000
instance (t : Tn) : Decidable (TnIn t) := by unfold TnIn; infer_instance
structure TnB where
  val : Tn
  ok : TnIn val
instance : Inhabited TnB := ⟨⟨tnD, by unfold TnIn tnD; decide⟩⟩
def toB (t : Tn) : TnB := if h : TnIn t then ⟨t, h⟩ else default
theorem toB_val {t : Tn} (h : TnIn t) : (toB t).val = t := by unfold toB; rw [dif_pos h]
def tnBC (x : TnB) : List Value := tnC x.val
def tnCmp (x y : TnB) : Int := x.val.time - y.val.time
theorem tnLt (x y : TnB) : ltOf tnCmp x y = decide (x.val.time < y.val.time) := by unfold ltOf tnCmp; congr 1; exact propext (by omega)
theorem tnSwo : Sort.SWO (ltOf tnCmp) where
  irrefl x := by rw [tnLt]; simp
  trans x y z h1 h2 := by rw [tnLt] at *; simp at *; omega
  ntrans x y z h1 h2 := by rw [tnLt] at *; simp at *; omega
def sortA (d : Array TnB) : Array TnB := Sort.pdq (ltOf tnCmp) d 0 d.size (Lib.bitLen d.size) true true
def sortT (L : List Tn) : List Tn := (sortA (L.map toB).toArray).toList.map TnB.val
theorem sortA_ok (d : Array TnB) : Sort.PermIn 0 d.size d (sortA d) ∧ Sort.SortedIn (ltOf tnCmp) 0 d.size (sortA d) := Sort.pdq_sorts (ltOf tnCmp) tnSwo d 0 d.size (Lib.bitLen d.size) true true (Nat.zero_le _) (Nat.le_refl _) (Or.inl rfl)
theorem sortA_size (d : Array TnB) : (sortA d).size = d.size := (sortA_ok d).1.1
theorem sortT_len (L : List Tn) : (sortT L).length = L.length := by
  have := sortA_size (L.map toB).toArray
  simpa [sortT] using this
theorem map_toB {L : List Tn} (h : ∀ t ∈ L, TnIn t) : (L.map toB).map TnB.val = L := by
  rw [List.map_map]
  conv => rhs; rw [← List.map_id L]
  exact List.map_congr_left (fun t ht => toB_val (h t ht))
theorem sortT_perm {L : List Tn} (h : ∀ t ∈ L, TnIn t) : (sortT L).Perm L := by
  obtain ⟨h1, _, h3⟩ := (sortA_ok (L.map toB).toArray).1
  have e1 : (sortA (L.map toB).toArray).extract 0 (L.map toB).toArray.size = sortA (L.map toB).toArray := by rw [← h1]; simp
  have e2 : (L.map toB).toArray.extract 0 (L.map toB).toArray.size = (L.map toB).toArray := Array.extract_size
  rw [e1, e2] at h3
  have h4 := h3.map TnB.val
  rw [show ((L.map toB).toArray.toList).map TnB.val = L from map_toB h] at h4
  exact h4
theorem sortT_asc (L : List Tn) {i j : Nat} (hij : i < j) (hj : j < L.length) : ((sortT L).getD i tnD).time ≤ ((sortT L).getD j tnD).time := by
  have h := (sortA_ok (L.map toB).toArray).2 i j (Nat.zero_le _) hij (by simpa using hj)
  rw [tnLt] at h
  have hs : (sortA (L.map toB).toArray).size = L.length := by rw [sortA_size]; simp
  have g : ∀ k, k < L.length → ((sortA (L.map toB).toArray)[k]!).val = (sortT L).getD k tnD := fun k hk => by
    have hk' : k < (sortA (L.map toB).toArray).size := by omega
    rw [getElem!_pos _ k hk']
    simp [sortT, List.getD, List.getElem?_map, hk']
  rw [g i (by omega), g j (by omega)] at h
  simpa using h
theorem rawT_in {t0 t1 : Int} {l : List Sp} (ht : 0 ≤ t0 ∧ t0 ≤ t1 ∧ t1 ≤ 1000000000) : ∀ t ∈ rawT t0 t1 l, TnIn t ∧ (0 ≤ t.time ∧ t.time ≤ 1000000001) ∧ (t.more = -1 ∨ t.more = 1) := by
  intro t hm
  simp only [rawT, List.mem_flatMap] at hm
  obtain ⟨s, _, hs⟩ := hm
  unfold rawOne at hs
  unfold TnIn
  split at hs
  · simp only [List.mem_cons, List.not_mem_nil, or_false] at hs
    rcases hs with hs | hs <;> rw [hs] <;> dsimp only <;> omega
  · simp at hs
def turnsL (t0 t1 : Int) (l : List Sp) : List Tn := sortT (rawT t0 t1 l)
theorem turnsL_len (t0 t1 : Int) (l : List Sp) : (turnsL t0 t1 l).length ≤ 2 * l.length := by unfold turnsL; rw [sortT_len]; exact rawT_len t0 t1 l
theorem mem_getD {α : Type} {d : α} {l : List α} {k : Nat} (h : k < l.length) : l.getD k d ∈ l := by simp [List.getD, List.getElem?_eq_getElem h]
theorem turnsL_ok {t0 t1 : Int} {l : List Sp} (ht : 0 ≤ t0 ∧ t0 ≤ t1 ∧ t1 ≤ 1000000000) : TnsOk (turnsL t0 t1 l) := by
  intro k hk
  have hm : (turnsL t0 t1 l).getD k tnD ∈ rawT t0 t1 l := (sortT_perm (fun t h => (rawT_in ht t h).1)).mem_iff.1 (mem_getD hk)
  obtain ⟨_, h2, h3⟩ := rawT_in ht _ hm
  omega
def posZ (t0 t1 f : Int) (l : List Sp) : Int × Int := posF t1 f t0 l.length (1099511627776, 0) (turnsL t0 t1 l)
end Go.Proofs.Ytoaehigmpbhppaa.En
namespace Go.Proofs.Ytoaehigmpbhppaa.En
open Go Go.Ev Go.Proofs Go.RowKit
def cellErr (x0 x1 : Int) (c : Int) : Int := if 0 ≤ c ∧ c ≤ x0 * x1 - 1 then 0 else 4
noncomputable def leftErr (x0 x1 x2 x3 x4 x5 x6 x7 : Int) (st : List Int) (so : List Src) (p : List Pk) (f : Int) : Int :=
  if ¬ qcheck0 x0 x1 x2 x3 x4 x5 x6 x7 = 0 then qcheck0 x0 x1 x2 x3 x4 x5 x6 x7
  else if (64 : Int) < st.length then 9
  else if ¬ firstErr (cellErr x0 x1) st = 0 then firstErr (cellErr x0 x1) st
  else if ¬ srcsErr x0 x1 so = 0 then srcsErr x0 x1 so
  else if (64 : Int) < p.length then 9
  else if ¬ firstErr (pkErr st.length) p = 0 then firstErr (pkErr st.length) p
  else if 0 ≤ f ∧ f ≤ 8 then 0 else 3
theorem leftErr_ok {x0 x1 x2 x3 x4 x5 x6 x7 : Int} {st : List Int} {so : List Src} {p : List Pk} {f : Int} (h : leftErr x0 x1 x2 x3 x4 x5 x6 x7 st so p f = 0) :
    ModOk x0 x1 x2 x3 x4 x5 x6 x7 ∧ st.length ≤ 64 ∧ StOk x0 x1 st ∧ so.length ≤ 256 ∧ (∀ k, k < so.length → srcErr x0 x1 (so.getD k srcD) = 0) ∧ p.length ≤ 64 ∧ PksOk st.length p ∧ (0 ≤ f ∧ f ≤ 8) := by
  unfold leftErr at h
  split at h
  · omega
  rename_i h1
  have hv := qcheck_ok (x0 := x0) (x1 := x1) (x2 := x2) (x3 := x3) (x4 := x4) (x5 := x5) (x6 := x6) (x7 := x7) (by omega)
  split at h
  · omega
  split at h
  · omega
  rename_i h3
  split at h
  · omega
  rename_i h4
  split at h
  · omega
  split at h
  · omega
  rename_i h6
  split at h
  case isFalse => omega
  have hs : so.length ≤ 256 ∧ firstErr (srcErr x0 x1) so = 0 := by
    have h4' : srcsErr x0 x1 so = 0 := by omega
    unfold srcsErr at h4'
    split at h4'
    · omega
    · exact ⟨by omega, h4'⟩
  refine ⟨hv, by omega, fun k hk => ?_, hs.1, fun k hk => firstErr_zero (d := srcD) hs.2 k hk, by omega, fun k hk => firstErr_zero (d := pkD) (by omega) k hk, by omega⟩
  have := firstErr_zero (f := cellErr x0 x1) (d := 0) (l := st) (by omega) k hk
  unfold cellErr at this
  split at this <;> omega
/-- What is left of a source. -/
noncomputable def leftOne (x0 x1 x2 x3 x4 x5 x6 x7 : Int) (st : List Int) (f : Int) (p : List Pk) (s : Src) : Option Src :=
  if s.kind = 1 then
    (if (posZ s.lo s.hi f (allowL x0 x1 x2 x3 x4 x5 x6 x7 s.cell s.cls st p)).1 ≤ (posZ s.lo s.hi f (allowL x0 x1 x2 x3 x4 x5 x6 x7 s.cell s.cls st p)).2
      then some ⟨s.kind, s.cell, s.cls, (posZ s.lo s.hi f (allowL x0 x1 x2 x3 x4 x5 x6 x7 s.cell s.cls st p)).1, (posZ s.lo s.hi f (allowL x0 x1 x2 x3 x4 x5 x6 x7 s.cell s.cls st p)).2⟩ else none)
  else (if s.lo ≤ s.hi then some s else none)
noncomputable def leftL (x0 x1 x2 x3 x4 x5 x6 x7 : Int) (st : List Int) (so : List Src) (p : List Pk) (f : Int) : List Src :=
  if leftErr x0 x1 x2 x3 x4 x5 x6 x7 st so p f = 0 then so.filterMap (leftOne x0 x1 x2 x3 x4 x5 x6 x7 st f p) else []
end Go.Proofs.Ytoaehigmpbhppaa.En
namespace Go.Proofs.Ytoaehigmpbhppaa.En
open Go Go.Ev Go.Proofs Go.RowKit
set_option maxRecDepth 1000000
noncomputable section
def f76b0 : Code := (Try.f76.body).getD .skip
def f76F0 : Fr := mkFr Try.f76 [(0, (ag 0 11)), (1, (ag 11 5)), (2, (sy 16))] []
def f76S1 : St := mkSt 0 []
theorem f76I2 : IdOk 17 0 0 f76F0 f76S1 := ⟨mkSt_wf rfl, by kernel_rfl⟩
def f76F3 : Fr := mkFr Try.f76 [(2, (sy 16)), (3, (pt 0 0)), (4, (pt 1 0)), (6, (.slice .none 0 0))] []
def f76S4 : St := mkSt 2 [(0, (.cells (ids 11) 111 .none .false)), (1, (.cells [(sy 11), (sy 12), (sy 13), (sy 14), (sy 15)] 54 .none .false))]
theorem f76I5 : IdOk 17 2 0 f76F3 f76S4 := ⟨mkSt_wf rfl, by kernel_rfl⟩
def f76F6 : Fr := mkFr Try.f76 [(2, (sy 16)), (3, (pt 0 0)), (4, (pt 1 0)), (6, (.slice .none 0 0)), (7, (.map (.some 2)))] []
def f76S7 : St := mkSt 3 [(0, (.cells (ids 11) 111 .none .false)), (1, (.cells [(sy 11), (sy 12), (sy 13), (sy 14), (sy 15)] 54 .none .false)), (2, (.map [(.mk (iV 1) (.agg #[(.func (.func 103) #[] #[]), (.func (.func 104) #[] #[])]) 0), (.mk (iV 2) (.agg #[(.func (.func 105) #[] #[]), (.func (.func 106) #[] #[])]) 1), (.mk (iV 3) (.agg #[(.func (.func 103) #[] #[]), (.func (.func 107) #[] #[])]) 2)] 3))]
theorem f76I8 : IdOk 17 3 0 f76F6 f76S7 := ⟨mkSt_wf rfl, by kernel_rfl⟩
def f76F9 : Fr := mkFr Try.f76 [(2, (sy 16)), (3, (pt 0 0)), (4, (pt 1 0)), (6, (.slice .none 0 0)), (7, (.map (.some 2))), (8, (.slice .none 0 0))] []
theorem f76I10 : IdOk 17 3 0 f76F9 f76S7 := ⟨mkSt_wf rfl, by kernel_rfl⟩
def f76n11 : List Ent := ⟨(.bi 0 [46]), [(sy 16)], (sy 17)⟩ :: []
def f76F12 : Fr := mkFr Try.f76 [(3, (pt 0 0)), (4, (pt 1 0)), (6, (.slice .none 0 0)), (7, (.map (.some 2))), (8, (.slice .none 0 0)), (14, (sy 16)), (15, (sy 17)), (16, (iV 0))] []
theorem f76I13 : IdOk 18 3 0 f76F12 f76S7 := ⟨mkSt_wf rfl, by kernel_rfl⟩
theorem f76f45 : FnIn env 45 := ⟨Try.f45, (Try.f45.body).getD .skip, by kernel_rfl, by kernel_rfl⟩
theorem f76f44 : FnIn env 44 := ⟨Try.f44, (Try.f44.body).getD .skip, by kernel_rfl, by kernel_rfl⟩
theorem f76f84 : FnIn env 84 := ⟨Try.f84, (Try.f84.body).getD .skip, by kernel_rfl, by kernel_rfl⟩
def f76n24 : List Ent := aB .add (sy 19) (iV 1) (sy 43) :: aB .sub (sy 24) (sy 31) (sy 41) :: aB .sub (sy 23) (sy 32) (sy 40) :: aB .add (sy 38) (sy 7) (sy 39) :: aB .sub (sy 33) (sy 37) (sy 38) :: aB .sub (sy 35) (sy 7) (sy 36) :: aB .sub (sy 33) (sy 34) (sy 35) :: aB .mul (iV 100) (sy 13) (sy 33) :: ⟨(.load 3), [(sy 27)], (sy 28)⟩ :: ⟨(.indexAddr 37), [(sy 8), (sy 22)], (sy 27)⟩ :: ⟨(.load 84), [(sy 20)], (ag 21 6)⟩ :: ⟨(.indexAddr 46), [(sy 16), (sy 19)], (sy 20)⟩ :: cB .lss (sy 19) (sy 17) true :: []
def f76n25 : List CEnt := ⟨84, [(sy 29)], [], (sy 37)⟩ :: ⟨84, [(sy 30)], [], (sy 34)⟩ :: ⟨44, [(ag 0 8), (ag 29 2)], [], (ag 31 2)⟩ :: ⟨45, [(ag 0 8), (sy 12), (sy 28)], [], (ag 29 2)⟩ :: []
def f76n26 : List LEnt := (.grow 0 18 1 2 [(sy 40), (sy 41)] 1 42) :: (.keq 21 1 true) :: []
def f76n27 : List Ent := ⟨(.bi 3 [3, 3]), [(sy 26), (sy 39)], (sy 41)⟩ :: ⟨(.bi 2 [3, 3]), [(sy 25), (sy 36)], (sy 40)⟩ :: aB .add (sy 38) (sy 7) (sy 39) :: aB .sub (sy 33) (sy 37) (sy 38) :: aB .sub (sy 35) (sy 7) (sy 36) :: aB .sub (sy 33) (sy 34) (sy 35) :: aB .mul (iV 100) (sy 13) (sy 33) :: ⟨(.load 3), [(sy 27)], (sy 28)⟩ :: ⟨(.indexAddr 37), [(sy 8), (sy 22)], (sy 27)⟩ :: ⟨(.load 84), [(sy 20)], (ag 21 6)⟩ :: ⟨(.indexAddr 46), [(sy 16), (sy 19)], (sy 20)⟩ :: cB .lss (sy 19) (sy 17) true :: []
def f76n28 : List LEnt := (.keq 21 2 true) :: (.keq 21 1 false) :: []
def f76n29 : List Ent := aB .add (sy 19) (iV 1) (sy 43) :: cB .gtr (sy 40) (sy 41) true :: f76n27
def f76n30 : List LEnt := (.grow 0 18 1 2 [(iV 1099511627776), (iV 0)] 1 42) :: f76n28
def f76n31 : List Ent := aB .add (sy 19) (iV 1) (sy 43) :: cB .gtr (sy 40) (sy 41) false :: f76n27
def f76n32 : List LEnt := (.grow 0 18 1 2 [(iV 0), (iV 1099511627776)] 1 42) :: f76n28
def f76n33 : List Ent := aB .add (sy 19) (iV 1) (sy 43) :: aB .add (sy 40) (iV 1) (sy 41) :: aB .sub (sy 23) (sy 32) (sy 40) :: aB .add (sy 38) (sy 7) (sy 39) :: aB .sub (sy 33) (sy 37) (sy 38) :: aB .sub (sy 35) (sy 7) (sy 36) :: aB .sub (sy 33) (sy 34) (sy 35) :: aB .mul (iV 100) (sy 13) (sy 33) :: ⟨(.load 3), [(sy 27)], (sy 28)⟩ :: ⟨(.indexAddr 37), [(sy 8), (sy 22)], (sy 27)⟩ :: ⟨(.load 84), [(sy 20)], (ag 21 6)⟩ :: ⟨(.indexAddr 46), [(sy 16), (sy 19)], (sy 20)⟩ :: cB .lss (sy 19) (sy 17) true :: []
def f76n34 : List LEnt := (.grow 0 18 1 2 [(sy 41), (iV 1099511627776)] 1 42) :: (.keq 21 3 true) :: (.keq 21 2 false) :: (.keq 21 1 false) :: []
def f76n35 : List Ent := cB .lss (sy 19) (sy 17) false :: []
def f76F36 : Fr := mkFr Try.f76 [(3, (pt 0 0)), (4, (pt 1 0)), (6, (.slice .none 0 0)), (7, (.map (.some 2))), (8, (ls 3 18)), (14, (sy 16)), (15, (sy 17)), (16, (sy 19))] []
def f76S37 : St := mkSt 4 [(0, (.cells (ids 11) 111 .none .false)), (1, (.cells [(sy 11), (sy 12), (sy 13), (sy 14), (sy 15)] 54 .none .false)), (2, (.map [(.mk (iV 1) (.agg #[(.func (.func 103) #[] #[]), (.func (.func 104) #[] #[])]) 0), (.mk (iV 2) (.agg #[(.func (.func 105) #[] #[]), (.func (.func 106) #[] #[])]) 1), (.mk (iV 3) (.agg #[(.func (.func 103) #[] #[]), (.func (.func 107) #[] #[])]) 2)] 3)), (3, (.lst 0 23 2))]
theorem f76I38 : IdOk 20 4 1 f76F36 f76S37 := ⟨mkSt_wf rfl, by kernel_rfl⟩
def f76F39 : Fr := mkFr Try.f76 [(6, (.slice .none 0 0)), (8, (ls 0 17))] []
def f76S40 : St := mkSt 1 [(0, (.lst 0 23 2))]
theorem f76I41 : IdOk 18 1 1 f76F39 f76S40 := ⟨mkSt_wf rfl, by kernel_rfl⟩
theorem f76a0 : agreeL (ids 17) [] [] f76F0 f76S1 (frameOf Try.f76 [(ag 0 11), (ag 11 5), (sy 16)]) Ev.start = true := by kernel_rfl
def f76b1 : Code := headC f76b0
def f76b2 : Code := tailC f76b0
theorem f76q0 : f76b0 = .seq f76b1 f76b2 := by kernel_rfl
theorem f76r0 : gE [] [] [] [] f76b1 f76F0 f76S1 .normal (ids 17) [0, 1] [] f76F3 f76S4 = some () := by kernel_rfl
def f76b3 : Code := headC f76b2
def f76b4 : Code := tailC f76b2
theorem f76q1 : f76b2 = .seq f76b3 f76b4 := by kernel_rfl
theorem f76r1 : gE [] [] [] [] f76b3 f76F3 f76S4 .normal (ids 17) (rng 3) [] f76F6 f76S7 = some () := by kernel_rfl
def f76b5 : Code := headC f76b4
def f76b6 : Code := tailC f76b4
theorem f76q2 : f76b4 = .seq f76b5 f76b6 := by kernel_rfl
theorem f76r2 : gE [] [] [] [] f76b5 f76F6 f76S7 .normal (ids 17) (rng 3) [] f76F9 f76S7 = some () := by kernel_rfl
def f76b7 : Code := headC f76b6
def f76b8 : Code := tailC f76b6
theorem f76q3 : f76b6 = .seq f76b7 f76b8 := by kernel_rfl
def f76b9 : Code := headC f76b7
def f76b10 : Code := tailC f76b7
theorem f76q4 : f76b7 = .seq f76b9 f76b10 := by kernel_rfl
theorem f76r3 : gE f76n11 [] [] [] f76b9 f76F9 f76S7 .normal (ids 18) (rng 3) [] f76F12 f76S7 = some () := by kernel_rfl
def f76b11 : Code := inBlockC f76b10
theorem f76q5 : f76b10 = .block 0 f76b11 := by kernel_rfl
def f76b12 : Code := inLoopC f76b11
theorem f76q6 : f76b11 = .loop f76b12 := by kernel_rfl
theorem f76h7 : agreeL (ids 18 ++ [(iV 0), (iV 0)]) [0, 1, 2, 3] [none] f76F36 f76S37 f76F12 f76S7 = true := by kernel_rfl
theorem f76r4 : gE f76n24 f76n25 f76n26 [] f76b12 f76F36 f76S37 .normal (pk 18 [42, 43]) [0, 1, 2, 14] [some 1] f76F36 f76S37 = some () := by kernel_rfl
theorem f76r5 : gE f76n29 f76n25 f76n30 [] f76b12 f76F36 f76S37 .normal (pk 18 [42, 43]) [0, 1, 2, 18] [some 1] f76F36 f76S37 = some () := by kernel_rfl
theorem f76r6 : gE f76n31 f76n25 f76n32 [] f76b12 f76F36 f76S37 .normal (pk 18 [42, 43]) [0, 1, 2, 18] [some 1] f76F36 f76S37 = some () := by kernel_rfl
theorem f76r7 : gE f76n33 f76n25 f76n34 [] f76b12 f76F36 f76S37 .normal (pk 18 [42, 43]) [0, 1, 2, 14] [some 1] f76F36 f76S37 = some () := by kernel_rfl
theorem f76r8 : gE f76n35 [] [] [] f76b12 f76F36 f76S37 (.exit 0) (pk 17 [18]) [3] [some 0] f76F39 f76S40 = some () := by kernel_rfl
theorem f76r9 : lE [] [] [] [] f76b8 f76F39 f76S40 Try.f76 (endL (ls 0 17) 0 0 23 2) = some () := by kernel_rfl
set_option maxHeartbeats 8000000 in
theorem allowed_any (x0 : Int) (x1 : Int) (x2 : Int) (x3 : Int) (x4 : Int) (x5 : Int) (x6 : Int) (x7 : Int) (ast : Option Addr) (st : List Int) (qst : Nat) (aso : Option Addr) (so : List Src) (qso : Nat) (most : Int) (s : Src) (ap : Option Addr) (p : List Pk) (qp : Nat) (w0 : World) {tst : TypeId} (Hst : Lies w0 tst (flat intC st) ast st.length) {tso : TypeId} (Hso : Lies w0 tso (flat srcC so) aso so.length) {tp : TypeId} (Hp : Lies w0 tp (flat pkC p) ap p.length) (v : ModOk x0 x1 x2 x3 x4 x5 x6 x7) (hcell : 0 ≤ s.cell ∧ s.cell < x0 * x1) (hcls : 1 ≤ s.cls ∧ s.cls ≤ 10) (hs : StOk x0 x1 st) (hpk : PksOk st.length p) (hst : st.length < 1000000) (hpn : p.length ≤ 64) : Calls Try.prog 76 #[(.agg #[(iV x0), (iV x1), (iV x2), (iV x3), (iV x4), (iV x5), (iV x6), (iV x7), (.slice ast st.length qst), (.slice aso so.length qso), (iV most)]), (.agg #[(iV s.kind), (iV s.cell), (iV s.cls), (iV s.lo), (iV s.hi)]), (.slice ap p.length qp)] w0 (fun en w' => ∃ a C, en = .returned (.slice a (allowL x0 x1 x2 x3 x4 x5 x6 x7 s.cell s.cls st p).length C) ∧ NewList w0 w' 23 2 (flat spC (allowL x0 x1 x2 x3 x4 x5 x6 x7 s.cell s.cls st p)) a (allowL x0 x1 x2 x3 x4 x5 x6 x7 s.cell s.cls st p).length C ∧ Below w0.heap.size w0 w') := by
  have v0m := v
  obtain ⟨v0, v1, v2, v3, v5, v7⟩ := v
  have hx := mul_bd (a := x0) (b := x1) (A := 24) (B := 24) (C := 576) (by omega) (by omega) (by omega) (by omega)
  let vb : List Value := [(iV x0), (iV x1), (iV x2), (iV x3), (iV x4), (iV x5), (iV x6), (iV x7), (.slice ast st.length qst), (.slice aso so.length qso), (iV most), (iV s.kind), (iV s.cell), (iV s.cls), (iV s.lo), (iV s.hi), (.slice ap p.length qp)]
  let p0 : Rho := (RO w0 vb [])
  refine At.begin (ρ := p0) (c := f76b0) (@env_ok p0) f76I2 f76a0 (fun a w hat => ?_)
  refine g_seq f76q0 ?_
  let p1 : Rho := (RO w0 vb [])
  refine At.go (ρ1 := p0) (ρ2 := p1) f76r0 (@env_ok p0) trivial trivial trivial trivial f76I2 f76I5 hat (fun a w hat => .inl ⟨rfl, ?_⟩)
  refine g_seq f76q1 ?_
  let p2 : Rho := (RO w0 vb [])
  refine At.go (ρ1 := p1) (ρ2 := p2) f76r1 (@env_ok p1) trivial trivial trivial trivial f76I5 f76I8 hat (fun a w hat => .inl ⟨rfl, ?_⟩)
  refine g_seq f76q2 ?_
  let p3 : Rho := (RO w0 vb [])
  refine At.go (ρ1 := p2) (ρ2 := p3) f76r2 (@env_ok p2) trivial trivial trivial trivial f76I8 f76I10 hat (fun a w hat => .inl ⟨rfl, ?_⟩)
  refine g_seq f76q3 ?_
  refine g_seq f76q4 ?_
  have K0 : KA w0 (.bi 0 [46]) [(.slice ap p.length qp)] (iV (((p.length : Nat) : Int))) := fun w hm => k_len Try.underlying46
  let r3 : Rho := (RO w0 (vb ++ [(iV (((p.length : Nat) : Int)))]) [])
  let d4 : List Value := (vb ++ [(iV (((p.length : Nat) : Int)))])
  let p4 : Rho := RO w0 d4 []
  refine At.go (ρ1 := r3) (ρ2 := p4) f76r3 (@env_ok r3) ⟨enk K0, trivial⟩ trivial trivial trivial f76I10 f76I13 hat (fun a w hat => .inl ⟨rfl, ?_⟩)
  refine g_block f76q5 ?_
  have hat0 := At.shiftL (ρ1 := p4) (ρ2 := (RO w0 (vb ++ [(iV (((p.length : Nat) : Int))), (iV (((([] : List Sp).length : Nat) : Int))), (iV ((0 : Int)))]) [(flat spC ([] : List Sp))])) (σ := (ids 18 ++ [(iV 0), (iV 0)])) (π := [0, 1, 2, 3]) (τ := [none]) ⟨rfl, rfl, rfl, rfl, rfl, rfl, rfl, rfl, rfl, rfl, rfl, rfl, rfl, rfl, rfl, rfl, rfl, rfl, rfl, rfl, rfl, rfl, rfl, rfl, rfl, rfl, rfl, rfl, rfl, rfl, rfl, rfl, rfl, rfl, rfl, rfl, rfl, rfl, rfl, rfl, trivial⟩ ⟨rfl, trivial⟩ (fun _ _ h => h) f76I38.1 f76h7 hat
  clear hat
  refine g_loop (fun (x : List Sp × Int) a w => (0 ≤ (x.2 : Int) ∧ (x.2 : Int) ≤ p.length ∧ ((x.1 : List Sp).length : Int) ≤ (x.2 : Int) ∧ (x.1 : List Sp) = allowL x0 x1 x2 x3 x4 x5 x6 x7 s.cell s.cls st (p.take (x.2 : Int).toNat)) ∧ @At (RO w0 (vb ++ [(iV (((p.length : Nat) : Int))), (iV ((((x.1 : List Sp).length : Nat) : Int))), (iV ((x.2 : Int)))]) [(flat spC (x.1 : List Sp))]) w0 f76F36 f76S37 a w) (fun x => (p.length - (x.2 : Int)).toNat) f76q6 ?_ ([], 0) ⟨?_, hat0⟩
  · clear hat0
    rintro ⟨L, i⟩ a w ⟨hinv, hat⟩
    change 0 ≤ i ∧ i ≤ p.length ∧ (L.length : Int) ≤ i ∧ L = allowL x0 x1 x2 x3 x4 x5 x6 x7 s.cell s.cls st (p.take i.toNat) at hinv
    let d5 : List Value := (vb ++ [(iV (((p.length : Nat) : Int))), (iV (((L.length : Nat) : Int))), (iV i)])
    let p5 : Rho := RO w0 d5 [(flat spC L)]
    change @At p5 w0 f76F36 f76S37 a w at hat
    obtain ⟨i0, i1, i2, i3⟩ := hinv
    by_cases c0 : i < ((p.length : Nat) : Int)
    · have K43 : KA w0 (.indexAddr 46) [(.slice ap p.length qp), (iV i)] (.pointer (ptrO ap ((i).toNat * 6))) := fun w hm => l_index (Hp.keep hm) Try.underlying46 (by kernel_rfl) (by omega) (by omega)
      obtain ⟨z1, hz1⟩ : ∃ z : Pk, z = p.getD (i).toNat pkD := ⟨_, rfl⟩
      obtain ⟨ekz1, esz1, elz1, etz1⟩ := pkErr_ok (hpk (i).toNat (by omega))
      rw [← hz1] at ekz1 esz1 elz1 etz1
      have K44 : KA w0 (.load 84) [(.pointer (ptrO ap ((i).toNat * 6)))] (.agg #[(iV z1.kind), (iV z1.station), (iV z1.t0), (iV z1.t1), (iV z1.l0), (iV z1.l1)]) := fun w hm => l_loadS (Hp.keep hm) (by omega) Try.underlying84 rfl (l := [(iV z1.kind), (iV z1.station), (iV z1.t0), (iV z1.t1), (iV z1.l0), (iV z1.l1)]) (by kernel_rfl) (flat_getz (c := pkC) (sz := 6) (fun _ => rfl) hz1 (by omega))
      have K45 : KA w0 (.indexAddr 37) [(.slice ast st.length qst), (iV z1.station)] (.pointer (ptrO ast ((z1.station).toNat * 1))) := fun w hm => l_index (Hst.keep hm) Try.underlying37 (by kernel_rfl) (by omega) (by omega)
      obtain ⟨z2, hz2⟩ : ∃ z : Int, z = st.getD (z1.station).toNat 0 := ⟨_, rfl⟩
      have ez2 := hs (z1.station).toNat (by omega)
      rw [← hz2] at ez2
      have K46 : KA w0 (.load 3) [(.pointer (ptrO ast ((z1.station).toNat * 1)))] (iV z2) := fun w hm => l_load (Hst.keep hm) (by omega) Try.underlying3 rfl (flat_getz (c := intC) (sz := 1) (fun _ => rfl) hz2 (by omega) 0 _ rfl)
      obtain ⟨y3, hy3⟩ : ∃ y : Int, y = (dist0 x0 x1 x2 x3 x4 x5 x6 x7 s.cell z2) := ⟨_, rfl⟩
      obtain ⟨y4, hy4⟩ : ∃ y : Int, y = (dist1 x0 x1 x2 x3 x4 x5 x6 x7 s.cell z2) := ⟨_, rfl⟩
      have hdy3 := dist_bd v0 v1 v2 v3 v5 v7 (x8 := s.cell) (x9 := z2) (by omega) (by omega)
      rw [← hy3, ← hy4] at hdy3
      have K47 : CA w0 45 #[(mV x0 x1 x2 x3 x4 x5 x6 x7), (iV s.cell), (iV z2)] (.agg #[(iV y3), (iV y4)]) := fun w hm => (by rw [hy3, hy4]; exact dist_any x0 x1 x2 x3 x4 x5 x6 x7 s.cell z2  (by omega) (by omega) (by omega) (by omega) (by omega) (by omega) (by omega) (by omega) w)
      obtain ⟨y5, hy5⟩ : ∃ y : Int, y = (1000 * y3 / x4) := ⟨_, rfl⟩
      obtain ⟨y6, hy6⟩ : ∃ y : Int, y = ((1000 * y4 + x3 - 1) / x3) := ⟨_, rfl⟩
      have hqy5 : 0 ≤ y5 ∧ y5 ≤ 1048575000 := by rw [hy5]; exact div_bd (by omega) (by omega) (by omega) (by omega)
      have hqy6 : 0 ≤ y6 ∧ y6 ≤ 1048620000 := by rw [hy6]; exact div_bd (by omega) (by omega) (by omega) (by omega)
      have K48 : CA w0 44 #[(mV x0 x1 x2 x3 x4 x5 x6 x7), (.agg #[(iV y3), (iV y4)])] (.agg #[(iV y5), (iV y6)]) := fun w hm => (by rw [hy5, hy6]; exact trq_any x0 x1 x2 x3 x4 x5 x6 x7 y3 y4 w  v0m (by omega) (by omega))
      have K49 : KA w0 (.bin .mul 3) [(iV 100), (iV s.cls)] (iV ((100 * s.cls))) := fun w hm => k_mul (wrap64 (by omega))
      have hfy4 := fall_bd (d := y4) (by omega) (by omega)
      have K50 : CA w0 84 #[(iV y4)] (iV ((fallZ y4))) := fun w hm => fall_any y4  (by omega) (by omega) w
      have K51 := kSub w0 ((100 * s.cls)) ((fallZ y4)) (by omega)
      have K52 := kSub w0 (((100 * s.cls) - (fallZ y4))) x7 (by omega)
      have hfy3 := fall_bd (d := y3) (by omega) (by omega)
      have K53 : CA w0 84 #[(iV y3)] (iV ((fallZ y3))) := fun w hm => fall_any y3  (by omega) (by omega) w
      have K54 := kSub w0 ((100 * s.cls)) ((fallZ y3)) (by omega)
      have K55 := kAdd w0 (((100 * s.cls) - (fallZ y3))) x7 (by omega)
      by_cases c7 : z1.kind = 1
      · have K56 := kSub w0 (z1.t0) y6 (by omega)
        have K57 := kSub w0 (z1.t1) y5 (by omega)
        have K58 := kAdd w0 (i) (1) (by omega)
        let r4 : Rho := (RO w0 (d5 ++ [(.pointer (ptrO ap ((i).toNat * 6))), (iV z1.kind), (iV z1.station), (iV z1.t0), (iV z1.t1), (iV z1.l0), (iV z1.l1), (.pointer (ptrO ast ((z1.station).toNat * 1))), (iV z2), (iV y3), (iV y4), (iV y5), (iV y6), (iV ((100 * s.cls))), (iV ((fallZ y4))), (iV (((100 * s.cls) - (fallZ y4)))), (iV ((((100 * s.cls) - (fallZ y4)) - x7))), (iV ((fallZ y3))), (iV (((100 * s.cls) - (fallZ y3)))), (iV ((((100 * s.cls) - (fallZ y3)) + x7))), (iV ((z1.t0 - y6))), (iV ((z1.t1 - y5))), (iV (((L.length + 1 : Nat) : Int))), (iV ((i + 1)))]) [(flat spC L), ((flat spC L) ++ [(iV ((z1.t0 - y6))), (iV ((z1.t1 - y5)))])])
        refine At.goS (ρ1 := r4) (ρ2 := (RO w0 (vb ++ [(iV (((p.length : Nat) : Int))), (iV (((((L ++ [(⟨(z1.t0 - y6), (z1.t1 - y5)⟩ : Sp)]) : List Sp).length : Nat) : Int))), (iV (((i + 1) : Int)))]) [(flat spC ((L ++ [(⟨(z1.t0 - y6), (z1.t1 - y5)⟩ : Sp)]) : List Sp))])) f76r4 (@env_ok r4) ⟨enk K58, enk K57, enk K56, enk K55, enk K54, enk K52, enk K51, enk K49, enk K46, enk K45, enk K44, enk K43, enk (klsst c0), trivial⟩ ⟨cok K53 f76f84, cok K50 f76f84, cok K48 f76f44, cok K47 f76f45, trivial⟩ ⟨⟨rfl, rfl, L.length, rfl, rfl, (by show ((flat spC L) : List Value).length = (L.length) * 2; first | exact flat_len (fun _ => rfl) _ | simp [flat_len (c := spC) (sz := 2) (fun _ => rfl), spC] <;> omega), rfl, (by omega)⟩, ⟨_, rfl, beq_iff_eq.2 c7⟩, trivial⟩ trivial f76I38 f76I38 hat ⟨rfl, rfl, rfl, rfl, rfl, rfl, rfl, rfl, rfl, rfl, rfl, rfl, rfl, rfl, rfl, rfl, rfl, rfl, rfl, rfl, rfl, rfl, rfl, rfl, rfl, rfl, rfl, rfl, rfl, rfl, rfl, rfl, rfl, rfl, rfl, rfl, rfl, vl, rfl, rfl, trivial⟩ ⟨(by show (flat spC (L ++ [(⟨(z1.t0 - y6), (z1.t1 - y5)⟩ : Sp)]) : List Value) = ((flat spC L) ++ [(iV ((z1.t0 - y6))), (iV ((z1.t1 - y5)))]); first | (simp [flat_snoc, spC]; done) | (simp [flat, spC]; done)), trivial⟩ (fun a w hat => .inl ⟨rfl, ⟨((L ++ [(⟨(z1.t0 - y6), (z1.t1 - y5)⟩ : Sp)]), (i + 1)), ?_, ?_, hat⟩⟩)
        · show (p.length - ((i + 1) : Int)).toNat < (p.length - i).toNat
          omega
        show 0 ≤ ((i + 1) : Int) ∧ ((i + 1) : Int) ≤ p.length ∧ (((L ++ [(⟨(z1.t0 - y6), (z1.t1 - y5)⟩ : Sp)]) : List Sp).length : Int) ≤ ((i + 1) : Int) ∧ ((L ++ [(⟨(z1.t0 - y6), (z1.t1 - y5)⟩ : Sp)]) : List Sp) = allowL x0 x1 x2 x3 x4 x5 x6 x7 s.cell s.cls st (p.take ((i + 1) : Int).toNat)
        have e1 : (i + 1).toNat = i.toNat + 1 := by omega
        refine ⟨by omega, by omega, by simp; omega, ?_⟩
        rw [e1, allowL_snoc (by omega), ← hz1, ← i3]
        congr 2
        unfold allowOne trLo trHi stLo stHi
        dsimp only
        rw [← hz2, ← hy3, ← hy4, ← hy5, ← hy6]
        first
          | (rw [if_pos (by omega)]; done)
          | (rw [if_neg (by omega), if_neg (by omega)]; done)
          | (rw [if_neg (by omega), if_pos (by omega), if_pos (by omega)]; done)
          | (rw [if_neg (by omega), if_pos (by omega), if_neg (by omega)]; done)
      · by_cases c8 : z1.kind = 2
        · have K59 : KA w0 (.bi 2 [3, 3]) [(iV z1.l0), (iV ((((100 * s.cls) - (fallZ y4)) - x7)))] (iV ((max z1.l0 (((100 * s.cls) - (fallZ y4)) - x7)))) := fun w hm => k_max
          have K60 : KA w0 (.bi 3 [3, 3]) [(iV z1.l1), (iV ((((100 * s.cls) - (fallZ y3)) + x7)))] (iV ((min z1.l1 (((100 * s.cls) - (fallZ y3)) + x7)))) := fun w hm => k_min
          by_cases c9 : (max z1.l0 (((100 * s.cls) - (fallZ y4)) - x7)) > (min z1.l1 (((100 * s.cls) - (fallZ y3)) + x7))
          · have K61 := kAdd w0 (i) (1) (by omega)
            let r5 : Rho := (RO w0 (d5 ++ [(.pointer (ptrO ap ((i).toNat * 6))), (iV z1.kind), (iV z1.station), (iV z1.t0), (iV z1.t1), (iV z1.l0), (iV z1.l1), (.pointer (ptrO ast ((z1.station).toNat * 1))), (iV z2), (iV y3), (iV y4), (iV y5), (iV y6), (iV ((100 * s.cls))), (iV ((fallZ y4))), (iV (((100 * s.cls) - (fallZ y4)))), (iV ((((100 * s.cls) - (fallZ y4)) - x7))), (iV ((fallZ y3))), (iV (((100 * s.cls) - (fallZ y3)))), (iV ((((100 * s.cls) - (fallZ y3)) + x7))), (iV ((max z1.l0 (((100 * s.cls) - (fallZ y4)) - x7)))), (iV ((min z1.l1 (((100 * s.cls) - (fallZ y3)) + x7)))), (iV (((L.length + 1 : Nat) : Int))), (iV ((i + 1)))]) [(flat spC L), ((flat spC L) ++ [(iV 1099511627776), (iV 0)])])
            refine At.goS (ρ1 := r5) (ρ2 := (RO w0 (vb ++ [(iV (((p.length : Nat) : Int))), (iV (((((L ++ [(⟨1099511627776, 0⟩ : Sp)]) : List Sp).length : Nat) : Int))), (iV (((i + 1) : Int)))]) [(flat spC ((L ++ [(⟨1099511627776, 0⟩ : Sp)]) : List Sp))])) f76r5 (@env_ok r5) ⟨enk K61, enk (kgtrt c9), enk K60, enk K59, enk K55, enk K54, enk K52, enk K51, enk K49, enk K46, enk K45, enk K44, enk K43, enk (klsst c0), trivial⟩ ⟨cok K53 f76f84, cok K50 f76f84, cok K48 f76f44, cok K47 f76f45, trivial⟩ ⟨⟨rfl, rfl, L.length, rfl, rfl, (by show ((flat spC L) : List Value).length = (L.length) * 2; first | exact flat_len (fun _ => rfl) _ | simp [flat_len (c := spC) (sz := 2) (fun _ => rfl), spC] <;> omega), rfl, (by omega)⟩, ⟨_, rfl, beq_iff_eq.2 c8⟩, ⟨_, rfl, beq_eq_false_iff_ne.2 c7⟩, trivial⟩ trivial f76I38 f76I38 hat ⟨rfl, rfl, rfl, rfl, rfl, rfl, rfl, rfl, rfl, rfl, rfl, rfl, rfl, rfl, rfl, rfl, rfl, rfl, rfl, rfl, rfl, rfl, rfl, rfl, rfl, rfl, rfl, rfl, rfl, rfl, rfl, rfl, rfl, rfl, rfl, rfl, rfl, vl, rfl, rfl, trivial⟩ ⟨(by show (flat spC (L ++ [(⟨1099511627776, 0⟩ : Sp)]) : List Value) = ((flat spC L) ++ [(iV 1099511627776), (iV 0)]); first | (simp [flat_snoc, spC]; done) | (simp [flat, spC]; done)), trivial⟩ (fun a w hat => .inl ⟨rfl, ⟨((L ++ [(⟨1099511627776, 0⟩ : Sp)]), (i + 1)), ?_, ?_, hat⟩⟩)
            · show (p.length - ((i + 1) : Int)).toNat < (p.length - i).toNat
              omega
            show 0 ≤ ((i + 1) : Int) ∧ ((i + 1) : Int) ≤ p.length ∧ (((L ++ [(⟨1099511627776, 0⟩ : Sp)]) : List Sp).length : Int) ≤ ((i + 1) : Int) ∧ ((L ++ [(⟨1099511627776, 0⟩ : Sp)]) : List Sp) = allowL x0 x1 x2 x3 x4 x5 x6 x7 s.cell s.cls st (p.take ((i + 1) : Int).toNat)
            have e1 : (i + 1).toNat = i.toNat + 1 := by omega
            refine ⟨by omega, by omega, by simp; omega, ?_⟩
            rw [e1, allowL_snoc (by omega), ← hz1, ← i3]
            congr 2
            unfold allowOne trLo trHi stLo stHi
            dsimp only
            rw [← hz2, ← hy3, ← hy4, ← hy5, ← hy6]
            first
              | (rw [if_pos (by omega)]; done)
              | (rw [if_neg (by omega), if_neg (by omega)]; done)
              | (rw [if_neg (by omega), if_pos (by omega), if_pos (by omega)]; done)
              | (rw [if_neg (by omega), if_pos (by omega), if_neg (by omega)]; done)
          have K62 := kAdd w0 (i) (1) (by omega)
          let r6 : Rho := (RO w0 (d5 ++ [(.pointer (ptrO ap ((i).toNat * 6))), (iV z1.kind), (iV z1.station), (iV z1.t0), (iV z1.t1), (iV z1.l0), (iV z1.l1), (.pointer (ptrO ast ((z1.station).toNat * 1))), (iV z2), (iV y3), (iV y4), (iV y5), (iV y6), (iV ((100 * s.cls))), (iV ((fallZ y4))), (iV (((100 * s.cls) - (fallZ y4)))), (iV ((((100 * s.cls) - (fallZ y4)) - x7))), (iV ((fallZ y3))), (iV (((100 * s.cls) - (fallZ y3)))), (iV ((((100 * s.cls) - (fallZ y3)) + x7))), (iV ((max z1.l0 (((100 * s.cls) - (fallZ y4)) - x7)))), (iV ((min z1.l1 (((100 * s.cls) - (fallZ y3)) + x7)))), (iV (((L.length + 1 : Nat) : Int))), (iV ((i + 1)))]) [(flat spC L), ((flat spC L) ++ [(iV 0), (iV 1099511627776)])])
          refine At.goS (ρ1 := r6) (ρ2 := (RO w0 (vb ++ [(iV (((p.length : Nat) : Int))), (iV (((((L ++ [(⟨0, 1099511627776⟩ : Sp)]) : List Sp).length : Nat) : Int))), (iV (((i + 1) : Int)))]) [(flat spC ((L ++ [(⟨0, 1099511627776⟩ : Sp)]) : List Sp))])) f76r6 (@env_ok r6) ⟨enk K62, enk (kgtrf c9), enk K60, enk K59, enk K55, enk K54, enk K52, enk K51, enk K49, enk K46, enk K45, enk K44, enk K43, enk (klsst c0), trivial⟩ ⟨cok K53 f76f84, cok K50 f76f84, cok K48 f76f44, cok K47 f76f45, trivial⟩ ⟨⟨rfl, rfl, L.length, rfl, rfl, (by show ((flat spC L) : List Value).length = (L.length) * 2; first | exact flat_len (fun _ => rfl) _ | simp [flat_len (c := spC) (sz := 2) (fun _ => rfl), spC] <;> omega), rfl, (by omega)⟩, ⟨_, rfl, beq_iff_eq.2 c8⟩, ⟨_, rfl, beq_eq_false_iff_ne.2 c7⟩, trivial⟩ trivial f76I38 f76I38 hat ⟨rfl, rfl, rfl, rfl, rfl, rfl, rfl, rfl, rfl, rfl, rfl, rfl, rfl, rfl, rfl, rfl, rfl, rfl, rfl, rfl, rfl, rfl, rfl, rfl, rfl, rfl, rfl, rfl, rfl, rfl, rfl, rfl, rfl, rfl, rfl, rfl, rfl, vl, rfl, rfl, trivial⟩ ⟨(by show (flat spC (L ++ [(⟨0, 1099511627776⟩ : Sp)]) : List Value) = ((flat spC L) ++ [(iV 0), (iV 1099511627776)]); first | (simp [flat_snoc, spC]; done) | (simp [flat, spC]; done)), trivial⟩ (fun a w hat => .inl ⟨rfl, ⟨((L ++ [(⟨0, 1099511627776⟩ : Sp)]), (i + 1)), ?_, ?_, hat⟩⟩)
          · show (p.length - ((i + 1) : Int)).toNat < (p.length - i).toNat
            omega
          show 0 ≤ ((i + 1) : Int) ∧ ((i + 1) : Int) ≤ p.length ∧ (((L ++ [(⟨0, 1099511627776⟩ : Sp)]) : List Sp).length : Int) ≤ ((i + 1) : Int) ∧ ((L ++ [(⟨0, 1099511627776⟩ : Sp)]) : List Sp) = allowL x0 x1 x2 x3 x4 x5 x6 x7 s.cell s.cls st (p.take ((i + 1) : Int).toNat)
          have e1 : (i + 1).toNat = i.toNat + 1 := by omega
          refine ⟨by omega, by omega, by simp; omega, ?_⟩
          rw [e1, allowL_snoc (by omega), ← hz1, ← i3]
          congr 2
          unfold allowOne trLo trHi stLo stHi
          dsimp only
          rw [← hz2, ← hy3, ← hy4, ← hy5, ← hy6]
          first
            | (rw [if_pos (by omega)]; done)
            | (rw [if_neg (by omega), if_neg (by omega)]; done)
            | (rw [if_neg (by omega), if_pos (by omega), if_pos (by omega)]; done)
            | (rw [if_neg (by omega), if_pos (by omega), if_neg (by omega)]; done)
        · by_cases c10 : z1.kind = 3
          · have K63 := kSub w0 (z1.t0) y6 (by omega)
            have K64 := kAdd w0 ((z1.t0 - y6)) (1) (by omega)
            have K65 := kAdd w0 (i) (1) (by omega)
            let r7 : Rho := (RO w0 (d5 ++ [(.pointer (ptrO ap ((i).toNat * 6))), (iV z1.kind), (iV z1.station), (iV z1.t0), (iV z1.t1), (iV z1.l0), (iV z1.l1), (.pointer (ptrO ast ((z1.station).toNat * 1))), (iV z2), (iV y3), (iV y4), (iV y5), (iV y6), (iV ((100 * s.cls))), (iV ((fallZ y4))), (iV (((100 * s.cls) - (fallZ y4)))), (iV ((((100 * s.cls) - (fallZ y4)) - x7))), (iV ((fallZ y3))), (iV (((100 * s.cls) - (fallZ y3)))), (iV ((((100 * s.cls) - (fallZ y3)) + x7))), (iV ((z1.t0 - y6))), (iV (((z1.t0 - y6) + 1))), (iV (((L.length + 1 : Nat) : Int))), (iV ((i + 1)))]) [(flat spC L), ((flat spC L) ++ [(iV (((z1.t0 - y6) + 1))), (iV 1099511627776)])])
            refine At.goS (ρ1 := r7) (ρ2 := (RO w0 (vb ++ [(iV (((p.length : Nat) : Int))), (iV (((((L ++ [(⟨((z1.t0 - y6) + 1), 1099511627776⟩ : Sp)]) : List Sp).length : Nat) : Int))), (iV (((i + 1) : Int)))]) [(flat spC ((L ++ [(⟨((z1.t0 - y6) + 1), 1099511627776⟩ : Sp)]) : List Sp))])) f76r7 (@env_ok r7) ⟨enk K65, enk K64, enk K63, enk K55, enk K54, enk K52, enk K51, enk K49, enk K46, enk K45, enk K44, enk K43, enk (klsst c0), trivial⟩ ⟨cok K53 f76f84, cok K50 f76f84, cok K48 f76f44, cok K47 f76f45, trivial⟩ ⟨⟨rfl, rfl, L.length, rfl, rfl, (by show ((flat spC L) : List Value).length = (L.length) * 2; first | exact flat_len (fun _ => rfl) _ | simp [flat_len (c := spC) (sz := 2) (fun _ => rfl), spC] <;> omega), rfl, (by omega)⟩, ⟨_, rfl, beq_iff_eq.2 c10⟩, ⟨_, rfl, beq_eq_false_iff_ne.2 c8⟩, ⟨_, rfl, beq_eq_false_iff_ne.2 c7⟩, trivial⟩ trivial f76I38 f76I38 hat ⟨rfl, rfl, rfl, rfl, rfl, rfl, rfl, rfl, rfl, rfl, rfl, rfl, rfl, rfl, rfl, rfl, rfl, rfl, rfl, rfl, rfl, rfl, rfl, rfl, rfl, rfl, rfl, rfl, rfl, rfl, rfl, rfl, rfl, rfl, rfl, rfl, rfl, vl, rfl, rfl, trivial⟩ ⟨(by show (flat spC (L ++ [(⟨((z1.t0 - y6) + 1), 1099511627776⟩ : Sp)]) : List Value) = ((flat spC L) ++ [(iV (((z1.t0 - y6) + 1))), (iV 1099511627776)]); first | (simp [flat_snoc, spC]; done) | (simp [flat, spC]; done)), trivial⟩ (fun a w hat => .inl ⟨rfl, ⟨((L ++ [(⟨((z1.t0 - y6) + 1), 1099511627776⟩ : Sp)]), (i + 1)), ?_, ?_, hat⟩⟩)
            · show (p.length - ((i + 1) : Int)).toNat < (p.length - i).toNat
              omega
            show 0 ≤ ((i + 1) : Int) ∧ ((i + 1) : Int) ≤ p.length ∧ (((L ++ [(⟨((z1.t0 - y6) + 1), 1099511627776⟩ : Sp)]) : List Sp).length : Int) ≤ ((i + 1) : Int) ∧ ((L ++ [(⟨((z1.t0 - y6) + 1), 1099511627776⟩ : Sp)]) : List Sp) = allowL x0 x1 x2 x3 x4 x5 x6 x7 s.cell s.cls st (p.take ((i + 1) : Int).toNat)
            have e1 : (i + 1).toNat = i.toNat + 1 := by omega
            refine ⟨by omega, by omega, by simp; omega, ?_⟩
            rw [e1, allowL_snoc (by omega), ← hz1, ← i3]
            congr 2
            unfold allowOne trLo trHi stLo stHi
            dsimp only
            rw [← hz2, ← hy3, ← hy4, ← hy5, ← hy6]
            first
              | (rw [if_pos (by omega)]; done)
              | (rw [if_neg (by omega), if_neg (by omega)]; done)
              | (rw [if_neg (by omega), if_pos (by omega), if_pos (by omega)]; done)
              | (rw [if_neg (by omega), if_pos (by omega), if_neg (by omega)]; done)
          · exfalso
            omega
    let d6 : List Value := (vb ++ [(iV (((L.length : Nat) : Int)))])
    let p6 : Rho := RO w0 d6 [(flat spC L)]
    refine At.go (ρ1 := p5) (ρ2 := p6) f76r8 (@env_ok p5) ⟨enk (klssf c0), trivial⟩ trivial trivial trivial f76I38 f76I41 hat (fun a w hat => .inr ⟨.inl ⟨0, rfl⟩, .inl ⟨rfl, .inl ⟨rfl, ?_⟩⟩⟩)
    refine At.lastsL (ρ1 := p6) (n := L.length) none f76r9 (@env_ok p6) trivial trivial trivial trivial f76I41 hat rfl (by show ((flat spC L) : List Value).length = (L.length) * 2; first | exact flat_len (fun _ => rfl) _ | simp [flat_len (c := spC) (sz := 2) (fun _ => rfl), spC] <;> omega) (fun w2 a2 C2 hb hn => ?_)
    have hL : L = allowL x0 x1 x2 x3 x4 x5 x6 x7 s.cell s.cls st p := by
      rw [i3, show i.toNat = p.length by omega, List.take_length]
    have e1 : L.length = (allowL x0 x1 x2 x3 x4 x5 x6 x7 s.cell s.cls st p).length := by rw [← hL]; try first | rfl | simp | simp [spC]
    have e2 : ((flat spC L) : List Value) = flat spC (allowL x0 x1 x2 x3 x4 x5 x6 x7 s.cell s.cls st p) := by rw [← hL]; try first | rfl | (simp [flat_snoc, spC]; done) | (simp [flat, spC]; done)
    have hn2 : NewList w0 w2 23 2 (flat spC (allowL x0 x1 x2 x3 x4 x5 x6 x7 s.cell s.cls st p)) a2 (allowL x0 x1 x2 x3 x4 x5 x6 x7 s.cell s.cls st p).length C2 := by rw [← e1, ← e2]; exact hn
    have hv := congrArg (fun (n2 : Nat)  => (.slice a2 n2 C2 : Value)) e1
    exact ⟨a2, C2, congrArg Ending.returned hv, hn2, hb⟩
  · show 0 ≤ (0 : Int) ∧ (0 : Int) ≤ p.length ∧ (([] : List Sp).length : Int) ≤ (0 : Int) ∧ ([] : List Sp) = allowL x0 x1 x2 x3 x4 x5 x6 x7 s.cell s.cls st (p.take (0 : Int).toNat)
    exact ⟨by omega, by omega, by simp, rfl⟩
end
end Go.Proofs.Ytoaehigmpbhppaa.En
namespace Go.Ev
open Go Go.RowKit Go.Sort Go.Proofs
theorem flatK_at {α : Type} [Inhabited α] {c : α → List Value} {k : Nat} (hk : ∀ x, (c x).length = k) (d : Array α) {i : Nat} (hi : i < d.size * k) : (flat c d.toList)[i]? = some (flatK c k d)[i]! := by
  have k0 : 0 < k := by rcases Nat.eq_zero_or_pos k with h | h; · subst h; simp at hi
                        · exact h
  have h1 : i / k < d.size := Nat.div_lt_of_lt_mul (by rw [Nat.mul_comm]; exact hi)
  have h2 : i % k < k := Nat.mod_lt _ k0
  have hg : d.toList.getD (i / k) default = d[i / k]! := by simp [List.getD, getElem!_def, h1]
  have hc : (c (d.toList.getD (i / k) default))[i % k]? = some (c d[i / k]!)[i % k]! := by
    rw [hg]
    have : i % k < (c (d[i / k]!)).length := by rw [hk]; exact h2
    rw [List.getElem?_eq_getElem this, getElem!_pos (c (d[i / k]!)) (i % k) this]
  have h := flat_get hk default d.toList (i / k) (by simpa using h1) (i % k) _ hc
  have e : i / k * k + i % k = i := by have := Nat.div_add_mod i k; rw [Nat.mul_comm] at this; exact this
  rw [e] at h
  rw [h, get_flatK _ _ _ _ hi]
theorem holdsK_of {α : Type} [Inhabited α] {c : α → List Value} {k : Nat} (hk : ∀ x, (c x).length = k) {L : List α} {w : World} {B O : Nat} {arr : Array Value} {t : TypeId} (h1 : w.heap[B]? = some (.cells arr t (0, 0)))
    (h4 : ∀ i (h : i < (flat c L).length), arr[O + i]? = some (flat c L)[i]) : HoldsK c k w B O L.toArray := by
  intro j hj
  have hj' : j < L.toArray.size * k := by simpa using hj
  have hl : j < (flat c L).length := by rw [flat_len hk]; simpa using hj'
  have e := flatK_at hk L.toArray hj'
  have e2 : (flat c L)[j]? = some (flat c L)[j] := List.getElem?_eq_getElem hl
  simp only at e
  rw [e2] at e
  injection e with e
  refine ⟨?_, by simp [World.frozen?, h1]⟩
  simp only [World.cell?, h1, id]
  rw [← e]
  exact h4 j hl
theorem placed_sort {α : Type} [Inhabited α] {c : α → List Value} {k : Nat} (hk : ∀ x, (c x).length = k) {w : World} {B O n : Nat} {os : Array Obj} {t : TypeId} {arr : Array Value} (h1 : w.heap[B]? = some (.cells arr t (0, 0))) {d : Array α}
    (hroom : O + d.size * k ≤ arr.size) : Placed t B O (flat c d.toList) w (sortWorldK c k w B O n d os) := by
  have hB : B < w.heap.size := (Array.getElem?_eq_some_iff.1 h1).1
  have hheap : (sortWorldK c k w B O n d os).heap = (w.heap.modify B (onCells (putCells id O (flatK c k d)))) ++ os := rfl
  have old : ∀ B', B' < w.heap.size → (sortWorldK c k w B O n d os).heap[B']? = (w.heap.modify B (onCells (putCells id O (flatK c k d))))[B']? := fun B' hB' => by
    rw [hheap, Array.getElem?_append_left (by simpa using hB')]
  refine ⟨rfl, rfl, rfl, by rw [hheap]; simp, fun B' h2 h3 => ?_, arr, putCells id O (flatK c k d) arr, h1, ?_, by simp [putCells], fun i hi => ?_⟩
  · rw [old B' h2, Array.getElem?_modify, if_neg (Ne.symm h3)]
  · rw [old B hB, Array.getElem?_modify, if_pos rfl, h1]; rfl
  · have hi' : i < d.size * k := by rw [flat_len hk] at hi; simpa using hi
    have e := flatK_at hk d hi'
    rw [List.getElem?_eq_getElem hi] at e
    injection e with e
    have hlt : O + i < arr.size := by omega
    rw [e]
    simp only [putCells, Array.getElem?_mapIdx, Array.getElem?_eq_getElem hlt, Option.map_some]
    rw [if_pos ⟨by omega, by simp; omega⟩, show O + i - O = i by omega]
    rfl
end Go.Ev
namespace Go.Proofs
open Go.Shelf
def Try.sortTn_ren : Go.Shelf.Ren := ⟨fun | 6 => 110 | 15 => 99 | 14 => 112 | 28 => 108 | 29 => 109 | 20 => 113 | 21 => 114 | 22 => 115 | 23 => 116 | 24 => 117 | 25 => 118 | 26 => 119 | 27 => 120 | 46 => 121 | 47 => 122 | 48 => 123 | 49 => 124 | 50 => 125 | 57 => 126 | n => n, fun | 22 => 155 | 24 => 158 | 25 => 162 | 3 => 3 | 39 => 151 | 0 => 0 | 53 => 71 | 55 => 74 | 4 => 4 | 46 => 166 | 45 => 165 | 50 => 170 | 5 => 5 | 9 => 9 | 66 => 172 | 70 => 176 | 76 => 178 | 77 => 179 | n => n, fun | n => n⟩
theorem Try.sortTn : Go.Proofs.SlLaysF0.n6 Try.prog Try.sortTn_ren := {
  mixed := by kernel_rfl
  f6 := ⟨Try.f110.name, by decide, Try.func110.trans (congrArg some (by kernel_rfl))⟩
  f14 := ⟨Try.f112.name, by decide, Try.func112.trans (congrArg some (by kernel_rfl))⟩
  f15 := Try.func99.trans (congrArg some (by kernel_rfl))
  f20 := ⟨Try.f113.name, by decide, Try.func113.trans (congrArg some (by kernel_rfl))⟩
  f21 := ⟨Try.f114.name, by decide, Try.func114.trans (congrArg some (by kernel_rfl))⟩
  f22 := ⟨Try.f115.name, by decide, Try.func115.trans (congrArg some (by kernel_rfl))⟩
  f23 := ⟨Try.f116.name, by decide, Try.func116.trans (congrArg some (by kernel_rfl))⟩
  f24 := ⟨Try.f117.name, by decide, Try.func117.trans (congrArg some (by kernel_rfl))⟩
  f25 := ⟨Try.f118.name, by decide, Try.func118.trans (congrArg some (by kernel_rfl))⟩
  f26 := ⟨Try.f119.name, by decide, Try.func119.trans (congrArg some (by kernel_rfl))⟩
  f27 := ⟨Try.f120.name, by decide, Try.func120.trans (congrArg some (by kernel_rfl))⟩
  f28 := Try.func108.trans (congrArg some (by kernel_rfl))
  f29 := Try.func109.trans (congrArg some (by kernel_rfl))
  f46 := ⟨Try.f121.name, by decide, Try.func121.trans (congrArg some (by kernel_rfl))⟩
  f47 := Try.func122.trans (congrArg some (by kernel_rfl))
  f48 := Try.func123.trans (congrArg some (by kernel_rfl))
  f49 := ⟨Try.f124.name, by decide, Try.func124.trans (congrArg some (by kernel_rfl))⟩
  f50 := ⟨Try.f125.name, by decide, Try.func125.trans (congrArg some (by kernel_rfl))⟩
  f57 := ⟨Try.f126.name, by decide, Try.func126.trans (congrArg some (by kernel_rfl))⟩
  t0 := Try.underlying0
  a0 := Try.isAgg0
  z0 := Try.sizeOf0
  v0 := Try.zeroValue0
  t3 := Try.underlying3
  a3 := Try.isAgg3
  z3 := Try.sizeOf3
  v3 := Try.zeroValue3
  t4 := Try.underlying4
  a4 := Try.isAgg4
  z4 := Try.sizeOf4
  v4 := Try.zeroValue4
  t5 := Try.underlying5
  a5 := Try.isAgg5
  z5 := Try.sizeOf5
  v5 := Try.zeroValue5
  t9 := Try.underlying9
  a9 := Try.isAgg9
  z9 := Try.sizeOf9
  v9 := Try.zeroValue9
  t22 := Try.underlying155
  a22 := Try.isAgg155
  z22 := Try.sizeOf155
  v22 := Try.zeroValue155
  t25 := Try.underlying162
  a25 := Try.isAgg162
  z25 := Try.sizeOf162
  v25 := Try.zeroValue162
  t39 := Try.underlying151
  a39 := Try.isAgg151
  z39 := Try.sizeOf151
  v39 := Try.zeroValue151
  t45 := Try.underlying165
  a45 := Try.isAgg165
  z45 := Try.sizeOf165
  v45 := Try.zeroValue165
  t46 := Try.underlying166
  a46 := Try.isAgg166
  z46 := Try.sizeOf166
  v46 := Try.zeroValue166
  t50 := Try.underlying170
  a50 := Try.isAgg170
  z50 := Try.sizeOf170
  v50 := Try.zeroValue170
  t53 := Try.underlying71
  a53 := Try.isAgg71
  z53 := Try.sizeOf71
  v53 := Try.zeroValue71
  t55 := Try.underlying74
  a55 := Try.isAgg74
  z55 := Try.sizeOf74
  v55 := Try.zeroValue74
  t66 := Try.underlying172
  a66 := Try.isAgg172
  z66 := Try.sizeOf172
  v66 := Try.zeroValue172
  t70 := Try.underlying176
  a70 := Try.isAgg176
  z70 := Try.sizeOf176
  v70 := Try.zeroValue176
  t76 := Try.underlying178
  a76 := Try.isAgg178
  z76 := Try.sizeOf178
  v76 := Try.zeroValue178
  t77 := Try.underlying179
  a77 := Try.isAgg179
  z77 := Try.sizeOf179
  v77 := Try.zeroValue179 }
end Go.Proofs
namespace Go.Proofs.Ytoaehigmpbhppaa.En
open Go Go.Ev Go.Proofs Go.RowKit Go.Sort
theorem sortTn_len (L : List Tn) (N : Nat) (h : L.length = N) : (flat tnC (sortT L)).length = N * 2 := by rw [flat_len (sz := 2) (fun _ => rfl), sortT_len, h]
/-- The closure. -/
theorem tnClos_any (x y : TnB) (w : World) : Calls Try.prog 111 #[.agg (tnBC x).toArray, .agg (tnBC y).toArray] w (fun en w' => en = .returned (.int .i64 (tnCmp x y)) ∧ ∃ q os', w' = grow (w.drewN q) os') := by
  show Calls Try.prog 111 #[.agg #[.int .i64 x.val.time, .int .i64 x.val.more], .agg #[.int .i64 y.val.time, .int .i64 y.val.more]] w _
  obtain ⟨⟨xt, xm⟩, hx⟩ := x
  obtain ⟨⟨yt, ym⟩, hy⟩ := y
  unfold TnIn at hx hy
  unfold tnCmp
  dsimp only at hx hy ⊢
  have wr : IntKind.i64.wrap (xt - yt) = xt - yt := wrap64 (by omega)
  clear hx hy
  go_enter Try.func111, Try.ntmps111
  go_wp2
  go_ret
  exact ⟨rfl, 0, _, by rw [alloc_eq_grow, alloc_eq_grow, grow_grow]; rfl⟩
theorem flat_toB {L : List Tn} (h : ∀ t ∈ L, TnIn t) : flat tnBC (L.map toB) = flat tnC L := by
  have e : flat tnC ((L.map toB).map TnB.val) = flat tnBC (L.map toB) := by unfold flat; rw [List.flatMap_map]; rfl
  rw [← e, map_toB h]
theorem sortTn_place (L : List Tn) (N : Nat) (h : L.length = N) (w : World) (B O C : Nat) (arr : Array Value) (h1 : w.heap[B]? = some (.cells arr 158 (0, 0))) (h2 : O + C * 2 ≤ arr.size) (h3 : N ≤ C)
    (h4 : ∀ i (h : i < (flat tnC L).length), arr[O + i]? = some (flat tnC L)[i]) (hL : ∀ t ∈ L, TnIn t) (hN : N < 1000000) :
    Calls Try.prog 110 #[.slice (some ⟨B, O, none⟩) N C, .func (.func 111) #[] #[]] w (fun en w' => en = .returned (.tuple #[]) ∧ Placed 158 B O (flat tnC (sortT L)) w w') := by
  subst h
  have hB : B < w.heap.size := (Array.getElem?_eq_some_iff.1 h1).1
  have eg : ∀ args w, (callFunc 111 args).run Try.prog w = .ok (.enter 111 args) w := enters_of Try.func111 (by kernel_rfl) rfl
  have h5 : ∀ i (h : i < (flat tnBC (L.map toB)).length), arr[O + i]? = some (flat tnBC (L.map toB))[i] := by rw [flat_toB hL]; exact h4
  have hl : (L.map toB).toArray.size = L.length := by simp
  have hcon := AnyQ.slices_SortFunc_eq Try.sortTn 2 Try.isAgg158 Try.sizeOf158 tnBC (fun _ => rfl) (fun x v hv => by simp [tnBC, tnC] at hv; rcases hv with rfl | rfl <;> rfl) tnCmp tnSwo 111 #[] B O C (L.map toB).toArray w eg (fun _ _ _ _ x y => tnClos_any x y _) (holdsK_of (c := tnBC) (k := 2) (fun _ => rfl) h1 h5) hB (by rw [hl]; omega)
  rw [hl] at hcon
  change Calls Try.prog 110 _ _ _ at hcon
  refine hcon.mono (fun en w' ⟨q1, n, os, q2⟩ => ⟨q1, ?_⟩)
  subst q2
  have := placed_sort (c := tnBC) (k := 2) (fun _ => rfl) (O := O) (n := n) (os := os) h1 (d := sortA (L.map toB).toArray) (by rw [sortA_size, hl]; omega)
  have e : flat tnC (sortT L) = flat tnBC (sortA (L.map toB).toArray).toList := by unfold sortT flat; rw [List.flatMap_map]; rfl
  rw [e]
  have e2 : sortA (L.map toB).toArray = Sort.pdq (ltOf tnCmp) (L.map toB).toArray 0 L.length (Lib.bitLen L.length) true true := by unfold sortA; rw [hl]
  rw [e2] at this ⊢
  exact this
set_option maxRecDepth 1000000 in
theorem sortTn_nil_ev : ev Try.prog env 3000 (.call 110 [.slice none 0 0, .func (.func 111) #[] #[]] Ev.start fun v _ => some v) = some (.tuple #[]) := by kernel_rfl
theorem sortTn_nil (w : World) : Calls Try.prog 110 #[.slice none 0 0, .func (.func 111) #[] #[]] w (fun en w' => en = .returned (.tuple #[]) ∧ Below w.heap.size w w') :=
  @calls_sym Rho.nothing Try.prog env env_ok 3000 110 [.slice none 0 0, .func (.func 111) #[] #[]] (.tuple #[]) rfl rfl sortTn_nil_ev w (memOk_nothing w)
end Go.Proofs.Ytoaehigmpbhppaa.En
namespace Go.Proofs.Ytoaehigmpbhppaa.En
open Go Go.Ev Go.Proofs Go.RowKit
set_option maxRecDepth 1000000
noncomputable section
def f102b0 : Code := (Try.f102.body).getD .skip
def f102F0 : Fr := mkFr Try.f102 [(0, (ag 0 2)), (1, (sy 2))] []
def f102S1 : St := mkSt 0 []
theorem f102I2 : IdOk 3 0 0 f102F0 f102S1 := ⟨mkSt_wf rfl, by kernel_rfl⟩
def f102F3 : Fr := mkFr Try.f102 [(1, (sy 2)), (2, (pt 0 0)), (4, (.slice .none 0 0))] []
def f102S4 : St := mkSt 1 [(0, (.cells [(sy 0), (sy 1)] 23 .none .false))]
theorem f102I5 : IdOk 3 1 0 f102F3 f102S4 := ⟨mkSt_wf rfl, by kernel_rfl⟩
def f102F6 : Fr := mkFr Try.f102 [(1, (sy 2)), (2, (pt 0 0)), (4, (.slice .none 0 0)), (5, (.slice .none 0 0))] []
theorem f102I7 : IdOk 3 1 0 f102F6 f102S4 := ⟨mkSt_wf rfl, by kernel_rfl⟩
def f102n8 : List Ent := ⟨(.bi 0 [127]), [(sy 2)], (sy 3)⟩ :: []
def f102F9 : Fr := mkFr Try.f102 [(2, (pt 0 0)), (4, (.slice .none 0 0)), (5, (.slice .none 0 0)), (9, (sy 2)), (10, (sy 3)), (11, (iV 0))] []
theorem f102I10 : IdOk 4 1 0 f102F9 f102S4 := ⟨mkSt_wf rfl, by kernel_rfl⟩
def f102n15 : List Ent := ⟨(.bi 3 [3, 3]), [(sy 1), (sy 8)], (sy 10)⟩ :: ⟨(.bi 2 [3, 3]), [(sy 0), (sy 7)], (sy 9)⟩ :: ⟨(.load 23), [(sy 6)], (ag 7 2)⟩ :: ⟨(.indexAddr 127), [(sy 2), (sy 5)], (sy 6)⟩ :: cB .lss (sy 5) (sy 3) true :: []
def f102n16 : List Ent := aB .add (sy 5) (iV 1) (sy 13) :: aB .add (sy 10) (iV 1) (sy 11) :: cB .leq (sy 9) (sy 10) true :: f102n15
def f102n17 : List LEnt := (.grow 0 4 2 2 [(sy 9), (iV (-1)), (sy 11), (iV 1)] 1 12) :: []
def f102n18 : List Ent := aB .add (sy 5) (iV 1) (sy 11) :: cB .leq (sy 9) (sy 10) false :: f102n15
def f102n19 : List Ent := cB .lss (sy 5) (sy 3) false :: []
def f102F20 : Fr := mkFr Try.f102 [(2, (pt 0 0)), (4, (.slice .none 0 0)), (5, (ls 1 4)), (9, (sy 2)), (10, (sy 3)), (11, (sy 5))] []
def f102S21 : St := mkSt 2 [(0, (.cells [(sy 0), (sy 1)] 23 .none .false)), (1, (.lst 0 158 2))]
theorem f102I22 : IdOk 6 2 1 f102F20 f102S21 := ⟨mkSt_wf rfl, by kernel_rfl⟩
def f102F23 : Fr := mkFr Try.f102 [(4, (.slice .none 0 0)), (5, (ls 0 3))] []
def f102S24 : St := mkSt 1 [(0, (.lst 0 158 2))]
theorem f102I25 : IdOk 4 1 1 f102F23 f102S24 := ⟨mkSt_wf rfl, by kernel_rfl⟩
def f102n26 : List CGEnt := ⟨110, [(ls 0 3), (.func (.func 111) #[] #[])], [(0, .lst 0 158 2)], 1, [(0, .lst 1 158 2)], [], .tuple #[]⟩ :: []
theorem f102a0 : agreeL (ids 3) [] [] f102F0 f102S1 (frameOf Try.f102 [(ag 0 2), (sy 2)]) Ev.start = true := by kernel_rfl
def f102b1 : Code := headC f102b0
def f102b2 : Code := tailC f102b0
theorem f102q0 : f102b0 = .seq f102b1 f102b2 := by kernel_rfl
theorem f102r0 : gE [] [] [] [] f102b1 f102F0 f102S1 .normal [sy 0, sy 1, sy 2] [0] [] f102F3 f102S4 = some () := by kernel_rfl
def f102b3 : Code := headC f102b2
def f102b4 : Code := tailC f102b2
theorem f102q1 : f102b2 = .seq f102b3 f102b4 := by kernel_rfl
theorem f102r1 : gE [] [] [] [] f102b3 f102F3 f102S4 .normal [sy 0, sy 1, sy 2] [0] [] f102F6 f102S4 = some () := by kernel_rfl
def f102b5 : Code := headC f102b4
def f102b6 : Code := tailC f102b4
theorem f102q2 : f102b4 = .seq f102b5 f102b6 := by kernel_rfl
def f102b7 : Code := headC f102b5
def f102b8 : Code := tailC f102b5
theorem f102q3 : f102b5 = .seq f102b7 f102b8 := by kernel_rfl
theorem f102r2 : gE f102n8 [] [] [] f102b7 f102F6 f102S4 .normal (ids 4) [0] [] f102F9 f102S4 = some () := by kernel_rfl
def f102b9 : Code := inBlockC f102b8
theorem f102q4 : f102b8 = .block 0 f102b9 := by kernel_rfl
def f102b10 : Code := inLoopC f102b9
theorem f102q5 : f102b9 = .loop f102b10 := by kernel_rfl
theorem f102h6 : agreeL [(sy 0), (sy 1), (sy 2), (sy 3), (iV 0), (iV 0)] [0, 1] [none] f102F20 f102S21 f102F9 f102S4 = true := by kernel_rfl
theorem f102r3 : gE f102n16 [] f102n17 [] f102b10 f102F20 f102S21 .normal (pk 4 [12, 13]) [0, 8] [some 1] f102F20 f102S21 = some () := by kernel_rfl
theorem f102r4 : gE f102n18 [] [] [] f102b10 f102F20 f102S21 .normal (pk 5 [11]) [0, 1] [some 0] f102F20 f102S21 = some () := by kernel_rfl
theorem f102r5 : gE f102n19 [] [] [] f102b10 f102F20 f102S21 (.exit 0) [sy 0, sy 1, sy 2, sy 4] [1] [some 0] f102F23 f102S24 = some () := by kernel_rfl
theorem f102r6 : ev Try.prog (env.symL [] [] [] [] f102n26) 3000 (.code f102b6 none f102F23 f102S24 (retK (env.symL [] [] [] [] f102n26) Try.f102 (endL (ls 0 3) 0 1 158 2))) = some () := by kernel_rfl
set_option maxHeartbeats 8000000 in
theorem turns_any (t0 t1 : Int) (al : Option Addr) (l : List Sp) (ql : Nat) (w0 : World) {tl : TypeId} (Hl : Lies w0 tl (flat spC l) al l.length) (hn : l.length ≤ 64) (ht : 0 ≤ t0 ∧ t0 ≤ t1 ∧ t1 ≤ 1000000000) (hb : SpsOk l) : Calls Try.prog 102 #[(.agg #[(iV t0), (iV t1)]), (.slice al l.length ql)] w0 (fun en w' => ∃ a C, en = .returned (.slice a (turnsL t0 t1 l).length C) ∧ NewList w0 w' 158 2 (flat tnC (turnsL t0 t1 l)) a (turnsL t0 t1 l).length C ∧ Below w0.heap.size w0 w') := by
  let vb : List Value := [(iV t0), (iV t1), (.slice al l.length ql)]
  let p0 : Rho := (RO w0 vb [])
  refine At.begin (ρ := p0) (c := f102b0) (@env_ok p0) f102I2 f102a0 (fun a w hat => ?_)
  refine g_seq f102q0 ?_
  let p1 : Rho := (RO w0 vb [])
  refine At.go (ρ1 := p0) (ρ2 := p1) f102r0 (@env_ok p0) trivial trivial trivial trivial f102I2 f102I5 hat (fun a w hat => .inl ⟨rfl, ?_⟩)
  refine g_seq f102q1 ?_
  let p2 : Rho := (RO w0 vb [])
  refine At.go (ρ1 := p1) (ρ2 := p2) f102r1 (@env_ok p1) trivial trivial trivial trivial f102I5 f102I7 hat (fun a w hat => .inl ⟨rfl, ?_⟩)
  refine g_seq f102q2 ?_
  refine g_seq f102q3 ?_
  have K0 : KA w0 (.bi 0 [127]) [(.slice al l.length ql)] (iV (((l.length : Nat) : Int))) := fun w hm => k_len Try.underlying127
  let r2 : Rho := (RO w0 (vb ++ [(iV (((l.length : Nat) : Int)))]) [])
  let d3 : List Value := (vb ++ [(iV (((l.length : Nat) : Int)))])
  let p3 : Rho := RO w0 d3 []
  refine At.go (ρ1 := r2) (ρ2 := p3) f102r2 (@env_ok r2) ⟨enk K0, trivial⟩ trivial trivial trivial f102I7 f102I10 hat (fun a w hat => .inl ⟨rfl, ?_⟩)
  refine g_block f102q4 ?_
  have hat0 := At.shiftL (ρ1 := p3) (ρ2 := (RO w0 (vb ++ [(iV (((l.length : Nat) : Int))), (iV (((([] : List Tn).length : Nat) : Int))), (iV ((0 : Int)))]) [(flat tnC ([] : List Tn))])) (σ := [(sy 0), (sy 1), (sy 2), (sy 3), (iV 0), (iV 0)]) (π := [0, 1]) (τ := [none]) ⟨rfl, rfl, rfl, rfl, rfl, rfl, rfl, rfl, rfl, rfl, rfl, rfl, trivial⟩ ⟨rfl, trivial⟩ (fun _ _ h => h) f102I22.1 f102h6 hat
  clear hat
  refine g_loop (fun (x : List Tn × Int) a w => (0 ≤ (x.2 : Int) ∧ (x.2 : Int) ≤ l.length ∧ ((x.1 : List Tn).length : Int) ≤ 2 * (x.2 : Int) ∧ (x.1 : List Tn) = rawT t0 t1 (l.take (x.2 : Int).toNat)) ∧ @At (RO w0 (vb ++ [(iV (((l.length : Nat) : Int))), (iV ((((x.1 : List Tn).length : Nat) : Int))), (iV ((x.2 : Int)))]) [(flat tnC (x.1 : List Tn))]) w0 f102F20 f102S21 a w) (fun x => (l.length - (x.2 : Int)).toNat) f102q5 ?_ ([], 0) ⟨?_, hat0⟩
  · clear hat0
    rintro ⟨L, i⟩ a w ⟨hinv, hat⟩
    change 0 ≤ i ∧ i ≤ l.length ∧ (L.length : Int) ≤ 2 * i ∧ L = rawT t0 t1 (l.take i.toNat) at hinv
    let d4 : List Value := (vb ++ [(iV (((l.length : Nat) : Int))), (iV (((L.length : Nat) : Int))), (iV i)])
    let p4 : Rho := RO w0 d4 [(flat tnC L)]
    change @At p4 w0 f102F20 f102S21 a w at hat
    obtain ⟨i0, i1, i2, i3⟩ := hinv
    by_cases c0 : i < ((l.length : Nat) : Int)
    · have K13 : KA w0 (.indexAddr 127) [(.slice al l.length ql), (iV i)] (.pointer (ptrO al ((i).toNat * 2))) := fun w hm => l_index (Hl.keep hm) Try.underlying127 (by kernel_rfl) (by omega) (by omega)
      obtain ⟨z1, hz1⟩ : ∃ z : Sp, z = l.getD (i).toNat spD := ⟨_, rfl⟩
      have ez1 := hb (i).toNat (by omega)
      rw [← hz1] at ez1
      have K14 : KA w0 (.load 23) [(.pointer (ptrO al ((i).toNat * 2)))] (.agg #[(iV z1.lo), (iV z1.hi)]) := fun w hm => l_loadS (Hl.keep hm) (by omega) Try.underlying23 rfl (l := [(iV z1.lo), (iV z1.hi)]) (by kernel_rfl) (flat_getz (c := spC) (sz := 2) (fun _ => rfl) hz1 (by omega))
      have K15 : KA w0 (.bi 2 [3, 3]) [(iV t0), (iV z1.lo)] (iV ((max t0 z1.lo))) := fun w hm => k_max
      have K16 : KA w0 (.bi 3 [3, 3]) [(iV t1), (iV z1.hi)] (iV ((min t1 z1.hi))) := fun w hm => k_min
      by_cases c2 : (max t0 z1.lo) ≤ (min t1 z1.hi)
      · have K17 := kAdd w0 ((min t1 z1.hi)) (1) (by omega)
        have K18 := kAdd w0 (i) (1) (by omega)
        let r3 : Rho := (RO w0 (d4 ++ [(.pointer (ptrO al ((i).toNat * 2))), (iV z1.lo), (iV z1.hi), (iV ((max t0 z1.lo))), (iV ((min t1 z1.hi))), (iV (((min t1 z1.hi) + 1))), (iV (((L.length + 2 : Nat) : Int))), (iV ((i + 1)))]) [(flat tnC L), ((flat tnC L) ++ [(iV ((max t0 z1.lo))), (iV (-1)), (iV (((min t1 z1.hi) + 1))), (iV 1)])])
        refine At.goS (ρ1 := r3) (ρ2 := (RO w0 (vb ++ [(iV (((l.length : Nat) : Int))), (iV (((((L ++ [(⟨(max t0 z1.lo), (-1)⟩ : Tn), (⟨((min t1 z1.hi) + 1), 1⟩ : Tn)]) : List Tn).length : Nat) : Int))), (iV (((i + 1) : Int)))]) [(flat tnC ((L ++ [(⟨(max t0 z1.lo), (-1)⟩ : Tn), (⟨((min t1 z1.hi) + 1), 1⟩ : Tn)]) : List Tn))])) f102r3 (@env_ok r3) ⟨enk K18, enk K17, enk (kleqt c2), enk K16, enk K15, enk K14, enk K13, enk (klsst c0), trivial⟩ trivial ⟨⟨rfl, rfl, L.length, rfl, rfl, (by show ((flat tnC L) : List Value).length = (L.length) * 2; first | exact flat_len (fun _ => rfl) _ | simp [flat_len (c := tnC) (sz := 2) (fun _ => rfl), tnC, sortT_len] <;> omega), rfl, (by omega)⟩, trivial⟩ trivial f102I22 f102I22 hat ⟨rfl, rfl, rfl, rfl, rfl, rfl, rfl, rfl, rfl, vl, rfl, rfl, trivial⟩ ⟨(by show (flat tnC (L ++ [(⟨(max t0 z1.lo), (-1)⟩ : Tn), (⟨((min t1 z1.hi) + 1), 1⟩ : Tn)]) : List Value) = ((flat tnC L) ++ [(iV ((max t0 z1.lo))), (iV (-1)), (iV (((min t1 z1.hi) + 1))), (iV 1)]); first | (simp [flat_snoc, tnC, sortT_len]; done) | (simp [flat, tnC, sortT_len]; done)), trivial⟩ (fun a w hat => .inl ⟨rfl, ⟨((L ++ [(⟨(max t0 z1.lo), (-1)⟩ : Tn), (⟨((min t1 z1.hi) + 1), 1⟩ : Tn)]), (i + 1)), ?_, ?_, hat⟩⟩)
        · show (l.length - ((i + 1) : Int)).toNat < (l.length - i).toNat
          omega
        show 0 ≤ ((i + 1) : Int) ∧ ((i + 1) : Int) ≤ l.length ∧ (((L ++ [(⟨(max t0 z1.lo), (-1)⟩ : Tn), (⟨((min t1 z1.hi) + 1), 1⟩ : Tn)]) : List Tn).length : Int) ≤ 2 * ((i + 1) : Int) ∧ ((L ++ [(⟨(max t0 z1.lo), (-1)⟩ : Tn), (⟨((min t1 z1.hi) + 1), 1⟩ : Tn)]) : List Tn) = rawT t0 t1 (l.take ((i + 1) : Int).toNat)
        have e1 : (i + 1).toNat = i.toNat + 1 := by omega
        refine ⟨by omega, by omega, by simp; omega, ?_⟩
        rw [e1, rawT_snoc (by omega), ← hz1, ← i3]
        unfold rawOne
        rw [if_pos (by omega)]
      have K19 := kAdd w0 (i) (1) (by omega)
      let r4 : Rho := (RO w0 (d4 ++ [(.pointer (ptrO al ((i).toNat * 2))), (iV z1.lo), (iV z1.hi), (iV ((max t0 z1.lo))), (iV ((min t1 z1.hi))), (iV ((i + 1)))]) [(flat tnC L)])
      refine At.goS (ρ1 := r4) (ρ2 := (RO w0 (vb ++ [(iV (((l.length : Nat) : Int))), (iV ((((L : List Tn).length : Nat) : Int))), (iV (((i + 1) : Int)))]) [(flat tnC (L : List Tn))])) f102r4 (@env_ok r4) ⟨enk K19, enk (kleqf c2), enk K16, enk K15, enk K14, enk K13, enk (klsst c0), trivial⟩ trivial trivial trivial f102I22 f102I22 hat (SubOk.om rfl rfl) (LsubOk.om rfl) (fun a w hat => .inl ⟨rfl, ⟨(L, (i + 1)), ?_, ?_, hat⟩⟩)
      · show (l.length - ((i + 1) : Int)).toNat < (l.length - i).toNat
        omega
      show 0 ≤ ((i + 1) : Int) ∧ ((i + 1) : Int) ≤ l.length ∧ ((L : List Tn).length : Int) ≤ 2 * ((i + 1) : Int) ∧ (L : List Tn) = rawT t0 t1 (l.take ((i + 1) : Int).toNat)
      have e1 : (i + 1).toNat = i.toNat + 1 := by omega
      refine ⟨by omega, by omega, by omega, ?_⟩
      rw [e1, rawT_snoc (by omega), ← hz1, ← i3]
      unfold rawOne
      rw [if_neg (by omega), List.append_nil]
    let d5 : List Value := (vb ++ [(iV (((L.length : Nat) : Int)))])
    let p5 : Rho := RO w0 d5 [(flat tnC L)]
    refine At.go (ρ1 := p4) (ρ2 := p5) f102r5 (@env_ok p4) ⟨enk (klssf c0), trivial⟩ trivial trivial trivial f102I22 f102I25 hat (fun a w hat => .inr ⟨.inl ⟨0, rfl⟩, .inl ⟨rfl, .inl ⟨rfl, ?_⟩⟩⟩)
    let r6 : Rho := (RO w0 (vb ++ [(iV (((L.length : Nat) : Int)))]) [(flat tnC L), (flat tnC (sortT L))])
    have hat1 : @At r6 w0 f102F23 f102S24 a w := At.more f102I25.1 f102I25.2 hat rfl rfl rfl (fun _ _ h => h)
    refine @At.lastK r6 Try.prog (env.symL [] [] [] [] f102n26) (@Env.Ok.symG r6 _ _ (@env_ok r6) [] [] [] [] f102n26 trivial trivial trivial trivial ⟨(@CGEntOk.place r6 Try.prog _ 110 0 3 0 1 158 2 1 (L.length) (.func (.func 111) #[] #[]) ⟨Try.f110, (Try.f110.body).getD .skip, by kernel_rfl, by kernel_rfl⟩ rfl rfl (by show ((flat tnC L) : List Value).length = (L.length) * 2; first | exact flat_len (fun _ => rfl) _ | simp [flat_len (c := tnC) (sz := 2) (fun _ => rfl), tnC, sortT_len] <;> omega) (sortTn_len (L) (L.length) (by show (L).length = L.length; first | rfl | simp | (simp; omega) | omega)) (fun w B O C arr h1 h2 h3 h4 => sortTn_place (L) (L.length) (by show (L).length = L.length; first | rfl | simp | (simp; omega) | omega) w B O C arr h1 h2 h3 (by first | exact h4 | (have h5 := h4; simpa [flat_snoc, tnC, sortT_len] using h5)) (by rw [i3]; exact fun t h => (rawT_in ht t h).1) (by omega)) (fun _ w => sortTn_nil w)), trivial⟩) w0 3000 f102b6 Try.f102 f102F23 f102S24 _ _ f102r6 f102I25.1 a w hat1 (@endL_ok r6 Try.prog w0 (ls 0 3) 0 3 1 158 2 (L.length) none (fun en w' => ∃ a C, en = .returned (.slice a (turnsL t0 t1 l).length C) ∧ NewList w0 w' 158 2 (flat tnC (turnsL t0 t1 l)) a (turnsL t0 t1 l).length C ∧ Below w0.heap.size w0 w') rfl rfl (by show ((flat tnC (sortT L)) : List Value).length = (L.length) * 2; first | exact flat_len (fun _ => rfl) _ | simp [flat_len (c := tnC) (sz := 2) (fun _ => rfl), tnC, sortT_len] <;> omega) (fun w2 a2 C2 hb hn => ?_))
    have hL : (sortT L) = turnsL t0 t1 l := by
      show sortT L = turnsL t0 t1 l
      unfold turnsL
      rw [i3, show i.toNat = l.length by omega, List.take_length]
    have e1 : L.length = (turnsL t0 t1 l).length := by rw [← hL]; try first | rfl | simp | simp [tnC, sortT_len]
    have e2 : ((flat tnC (sortT L)) : List Value) = flat tnC (turnsL t0 t1 l) := by rw [← hL]; try first | rfl | (simp [flat_snoc, tnC, sortT_len]; done) | (simp [flat, tnC, sortT_len]; done)
    have hn2 : NewList w0 w2 158 2 (flat tnC (turnsL t0 t1 l)) a2 (turnsL t0 t1 l).length C2 := by rw [← e1, ← e2]; exact hn
    have hv := congrArg (fun (n2 : Nat)  => (.slice a2 n2 C2 : Value)) e1
    exact ⟨a2, C2, congrArg Ending.returned hv, hn2, hb⟩
  · show 0 ≤ (0 : Int) ∧ (0 : Int) ≤ l.length ∧ (([] : List Tn).length : Int) ≤ 2 * (0 : Int) ∧ ([] : List Tn) = rawT t0 t1 (l.take (0 : Int).toNat)
    exact ⟨by omega, by omega, by simp, rfl⟩
end
end Go.Proofs.Ytoaehigmpbhppaa.En
namespace Go.Proofs.Ytoaehigmpbhppaa.En
open Go Go.Ev Go.Proofs Go.RowKit
set_option maxRecDepth 1000000
noncomputable section
end
end Go.Proofs.Ytoaehigmpbhppaa.En
