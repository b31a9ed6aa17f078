/-
  A row of sources among a law's arguments reads as a list of sources.
-/
import Derived.Test.YtoaehigmpbhppaaS0
import Derived.ProofKit
import Derived.OpenShut
import Derived.Carry
import Derived.Deep.SlicePairs
import Derived.Deep.Strs
import Derived.Laws.IdiomArrays
namespace Go.Proofs.Ytoaehigmpbhppaa.En
open Go Go.Ev Go.Proofs Go.RowKit Go.ChangeShapes Go.WideShapes Go.ChangeAt Go.WideMaps Go.WideElems Go.Deep
set_option linter.unusedSimpArgs false
set_option linter.unusedVariables false

instance : Inhabited Src := ⟨srcD⟩
theorem cell_block {W : World} {a : Addr} {u : Value} (h : W.cell? a = some u) : ∃ b off arr t fz, a = ⟨b, off, none⟩ ∧ W.heap[b]? = some (.cells arr t fz) ∧ arr[off]? = some u := by
  obtain ⟨b, off, sp⟩ := a
  unfold World.cell? at h
  split at h
  · rename_i arr t fz hb
    cases sp with
    | none => exact ⟨b, off, arr, t, fz, rfl, hb, by simpa using h⟩
    | some x => simp at h
  · cases h
theorem addr_add (b off q : Nat) : (⟨b, off, none⟩ : Addr).add q = ⟨b, off + q, none⟩ := by unfold Addr.add; split <;> simp_all
theorem addr_zero (a : Addr) : a.add 0 = a := by cases a; unfold Addr.add; split <;> simp_all
theorem src4 : ∃ f0 f1 f2 f3 : Field, Try.prog.underlying 54 = some (.struct #[f0, f1, f2, f3]) ∧ f0.type = 3 ∧ f1.type = 3 ∧ f2.type = 3 ∧ f3.type = 23 ∧ f0.offset = 0 ∧ f1.offset = 1 ∧ f2.offset = 2 ∧ f3.offset = 3 :=
  ⟨_, _, _, _, Try.underlying54, rfl, rfl, rfl, rfl, rfl, rfl, rfl, rfl⟩
set_option maxRecDepth 100000 in
theorem src_cells {H : Type} {enc : TypeId × Value → H} {W : World} {b0 : Nat} {sp : Nat → Bool} {held : Bool} {d : DataW H} {p : List MemPlace} {x0 x1 x2 x3 x4 : Value} {fuel : Nat} (hf : DataW.trod enc Try.prog W b0 sp held fuel 54 [x0, x1, x2, x3, x4] = some (d, p)) :
    ∃ z : Src, x0 = .int .i64 z.kind ∧ x1 = .int .i64 z.cell ∧ x2 = .int .i64 z.cls ∧ x3 = .int .i64 z.lo ∧ x4 = .int .i64 z.hi := by
  obtain ⟨f0, f1, f2, f3, hu, t0, t1, t2, t3, o0, o1, o2, o3⟩ := src4
  have c1 : Try.prog.cellsOf 3 = 1 := by kernel_rfl
  have c2 : Try.prog.cellsOf 23 = 2 := by kernel_rfl
  obtain ⟨xs, n, _, _, hl, hlen, hff⟩ := DataW.trod_struct hu hf
  match xs, hlen with
  | [y0, y1, y2, y3], _ =>
    have h0 := hff 0 f0 rfl
    have h1 := hff 1 f1 rfl
    have h2 := hff 2 f2 rfl
    have h3 := hff 3 f3 rfl
    simp only [t0, t1, t2, t3, o0, o1, o2, o3, c1, c2, List.getElem_cons_zero, List.getElem_cons_succ] at h0 h1 h2 h3
    obtain ⟨z0, e0, _⟩ := DataW.trod_int Try.underlying3 h0
    obtain ⟨z1, e1, _⟩ := DataW.trod_int Try.underlying3 h1
    obtain ⟨z2, e2, _⟩ := DataW.trod_int Try.underlying3 h2
    obtain ⟨u0, u1, m3, _, _, q3, q4⟩ := trod_struct2 Try.underlying23 h3
    simp only [c1] at q3 q4
    obtain ⟨z3, e3, _⟩ := DataW.trod_int Try.underlying3 q3
    obtain ⟨z4, e4, _⟩ := DataW.trod_int Try.underlying3 q4
    injection e0 with e0
    injection e1 with e1
    injection e2 with e2
    injection e3 with e3
    injection e4 with e4
    subst e0 e1 e2 e3 e4
    exact ⟨⟨z0, z1, z2, z3, z4⟩, rfl, rfl, rfl, rfl, rfl⟩
set_option maxRecDepth 100000 in
theorem srcs_open {H : Type} {enc : TypeId × Value → H} {W : World} {base : Nat} {sp : Nat → Bool} {held : Bool} {v : Value} {d : DataW H} {p : List MemPlace} (hval : Value.okWide Try.prog W .any base 38 v) (h : DataW.Trod enc Try.prog W 0 sp held 38 v d p) :
    ∃ a q t, ∃ l : List Src, v = .slice a l.length q ∧ Lies W t (flat srcC l) a l.length ∧ l.length < 9223372036854775808 := by
  have ce : Try.prog.cellsOf 54 = 5 := by kernel_rfl
  obtain ⟨a0, n0, c0, rfl⟩ := okWide_slice Try.underlying38 hval
  obtain ⟨fuel, hf⟩ := h
  rcases open_slice Try.underlying38 hf with ⟨hc, _⟩ | ⟨a, len, cap, m, n, D, Pl, hc, _, hl, hm, hmm, _, hall⟩
  · simp [Value.cells] at hc
    obtain ⟨rfl, rfl, rfl⟩ := hc
    exact ⟨none, 0, 0, [], rfl, .inl rfl, by decide⟩
  · simp [Value.cells] at hc
    obtain ⟨rfl, rfl, rfl⟩ := hc
    have hlm : n0 ≤ m := by rw [hmm]; split <;> omega
    have hV : ∀ i, i < n0 → ∃ z : Src, W.cell? (a.add (i * 5)) = some (.int .i64 z.kind) ∧ W.cell? (a.add (i * 5 + 1)) = some (.int .i64 z.cell) ∧ W.cell? (a.add (i * 5 + 2)) = some (.int .i64 z.cls) ∧ W.cell? (a.add (i * 5 + 3)) = some (.int .i64 z.lo) ∧ W.cell? (a.add (i * 5 + 4)) = some (.int .i64 z.hi) := fun i hi => by
      obtain ⟨cs', h1, h2⟩ := hall i (by omega)
      rw [ce] at h1
      obtain ⟨_, hlen, hcell⟩ := World.cells?_some h1
      match cs', hlen with
      | [x0, x1, x2, x3, x4], _ =>
        obtain ⟨z, e0, e1, e2, e3, e4⟩ := src_cells h2
        have k0 := hcell 0 (by omega)
        have k1 := hcell 1 (by omega)
        have k2 := hcell 2 (by omega)
        have k3 := hcell 3 (by omega)
        have k4 := hcell 4 (by omega)
        rw [add_add] at k0 k1 k2 k3 k4
        subst e0 e1 e2 e3 e4
        exact ⟨z, by simpa using k0, by simpa using k1, by simpa using k2, by simpa using k3, by simpa using k4⟩
    obtain ⟨z, hz⟩ := choose_lt hV
    have hsl : ((List.range n0).map z).length = n0 := by simp
    by_cases hn : n0 = 0
    · subst hn
      exact ⟨some a, c0, 0, [], rfl, .inl rfl, by decide⟩
    · obtain ⟨b, off, arr, t, fz, ea, hb, _⟩ := cell_block (hz 0 (by omega)).1
      rw [Nat.zero_mul, addr_zero] at ea
      subst ea
      refine ⟨some ⟨b, off, none⟩, c0, t, (List.range n0).map z, by rw [hsl], .inr ⟨b, off, arr, fz, rfl, hb, fun i hi => ?_⟩, by rw [hsl]; unfold maxLen at hm; omega⟩
      have hflat := flat_len (c := srcC) (sz := 5) (fun _ => rfl) ((List.range n0).map z)
      rw [hsl] at hflat
      have hq : i / 5 < n0 := by rw [hflat] at hi; omega
      obtain ⟨k0, k1, k2, k3, k4⟩ := hz (i / 5) hq
      rw [addr_add] at k0 k1 k2 k3 k4
      simp only [World.cell?, hb] at k0 k1 k2 k3 k4
      have hg : ∀ j v, (srcC (z (i / 5)))[j]? = some v → (flat srcC ((List.range n0).map z))[i / 5 * 5 + j]? = some v := fun j v hv =>
        flat_getz (c := srcC) (sz := 5) (fun _ => rfl) (d := srcD) (i := i / 5) (by simp [List.getD, hq]) (by rw [hsl]; exact hq) j v hv
      have done : ∀ j v, i = i / 5 * 5 + j → (srcC (z (i / 5)))[j]? = some v → arr[off + (i / 5 * 5 + j)]? = some v → arr[off + i]? = some (flat srcC ((List.range n0).map z))[i] := by
        intro j v hj h1 h2
        have h3 := hg j v h1
        rw [← hj] at h2 h3
        rw [h2]
        have := (List.getElem?_eq_some_iff.1 h3).2
        rw [this]
      have hr : i % 5 = 0 ∨ i % 5 = 1 ∨ i % 5 = 2 ∨ i % 5 = 3 ∨ i % 5 = 4 := by omega
      rcases hr with he | he | he | he | he
      · exact done 0 _ (by omega) rfl (by simpa using k0)
      · exact done 1 _ (by omega) rfl (by simpa using k1)
      · exact done 2 _ (by omega) rfl (by simpa using k2)
      · exact done 3 _ (by omega) rfl (by simpa using k3)
      · exact done 4 _ (by omega) rfl (by simpa using k4)
end Go.Proofs.Ytoaehigmpbhppaa.En
