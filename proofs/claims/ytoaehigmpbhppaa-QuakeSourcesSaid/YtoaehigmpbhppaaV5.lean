/-
  Rows of integers, and spans, among a law's arguments.
-/
import Derived.Test.YtoaehigmpbhppaaSC
namespace Go.Proofs.Ytoaehigmpbhppaa.En
open Go Go.Ev Go.Proofs Go.RowKit Go.ChangeShapes Go.WideShapes Go.ChangeAt Go.WideMaps Go.WideElems Go.Deep
set_option linter.unusedSimpArgs false
set_option linter.unusedVariables false

set_option maxRecDepth 100000 in
theorem ints_open {H : Type} {enc : TypeId × Value → H} {W : World} {base : Nat} {sp : Nat → Bool} {held : Bool} {v : Value} {d : DataW H} {p : List MemPlace} (hval : Value.okWide Try.prog W .any base 37 v) (h : DataW.Trod enc Try.prog W 0 sp held 37 v d p) :
    ∃ a q t, ∃ l : List Int, v = .slice a l.length q ∧ Lies W t (flat intC l) a l.length ∧ l.length < 9223372036854775808 := by
  have ce : Try.prog.cellsOf 3 = 1 := by kernel_rfl
  obtain ⟨a0, n0, c0, rfl⟩ := okWide_slice Try.underlying37 hval
  obtain ⟨fuel, hf⟩ := h
  rcases open_slice Try.underlying37 hf with ⟨hc, _⟩ | ⟨a, len, cap, m, n, D, Pl, hc, _, hl, hm, hmm, _, hall⟩
  · simp [Value.cells] at hc
    obtain ⟨rfl, rfl, rfl⟩ := hc
    exact ⟨none, 0, 0, [], rfl, .inl rfl, by decide⟩
  · simp [Value.cells] at hc
    obtain ⟨rfl, rfl, rfl⟩ := hc
    have hlm : n0 ≤ m := by rw [hmm]; split <;> omega
    have hV : ∀ i, i < n0 → ∃ z : Int, W.cell? (a.add (i * 1)) = some (.int .i64 z) := fun i hi => by
      obtain ⟨cs', h1, h2⟩ := hall i (by omega)
      rw [ce] at h1
      obtain ⟨_, hlen, hcell⟩ := World.cells?_some h1
      match cs', hlen with
      | [x0], _ =>
        obtain ⟨z, e0, _⟩ := DataW.trod_int Try.underlying3 h2
        have k0 := hcell 0 (by omega)
        rw [add_add] at k0
        injection e0 with e0
        subst e0
        exact ⟨z, by simpa using k0⟩
    obtain ⟨z, hz⟩ := choose_lt hV
    have hsl : ((List.range n0).map z).length = n0 := by simp
    by_cases hn : n0 = 0
    · subst hn
      exact ⟨some a, c0, 0, [], rfl, .inl rfl, by decide⟩
    · obtain ⟨b, off, arr, t, fz, ea, hb, _⟩ := cell_block (hz 0 (by omega))
      rw [Nat.zero_mul, addr_zero] at ea
      subst ea
      refine ⟨some ⟨b, off, none⟩, c0, t, (List.range n0).map z, by rw [hsl], .inr ⟨b, off, arr, fz, rfl, hb, fun i hi => ?_⟩, by rw [hsl]; unfold maxLen at hm; omega⟩
      have hflat := flat_len (c := intC) (sz := 1) (fun _ => rfl) ((List.range n0).map z)
      rw [hsl, Nat.mul_one] at hflat
      have hq : i < n0 := by rw [hflat] at hi; exact hi
      have k0 := hz i hq
      rw [addr_add] at k0
      simp only [World.cell?, hb] at k0
      have h3 := flat_getz (c := intC) (sz := 1) (fun _ => rfl) (d := 0) (z := z i) (i := i) (l := (List.range n0).map z) (by simp [List.getD, hq]) (by rw [hsl]; exact hq) 0 (.int .i64 (z i)) rfl
      rw [Nat.mul_one, Nat.add_zero] at h3
      have h4 := (List.getElem?_eq_some_iff.1 h3).2
      rw [h4]
      simpa using k0
theorem span2 : ∃ f0 f1 : Field, Try.prog.underlying 23 = some (.struct #[f0, f1]) ∧ f0.type = 3 ∧ f1.type = 3 ∧ f0.offset = 0 ∧ f1.offset = 1 := ⟨_, _, Try.underlying23, rfl, rfl, rfl, rfl⟩
set_option maxRecDepth 100000 in
theorem span_open {H : Type} {enc : TypeId × Value → H} {W : World} {base : Nat} {sp : Nat → Bool} {held : Bool} {v : Value} {d : DataW H} {p : List MemPlace} (hval : Value.okWide Try.prog W .any base 23 v) (h : DataW.Trod enc Try.prog W 0 sp held 23 v d p) :
    ∃ x y, v = .agg #[.int .i64 x, .int .i64 y] := by
  obtain ⟨f0, f1, hu, t0, t1, o0, o1⟩ := span2
  unfold Value.okWide at hval
  rw [hu] at hval
  obtain ⟨cs, rfl, hcs, -⟩ := hval
  obtain ⟨fuel, hf⟩ := h
  have c1 : Try.prog.cellsOf 3 = 1 := by kernel_rfl
  have c2 : Try.prog.cellsOf 23 = 2 := by kernel_rfl
  rw [c2] at hcs
  obtain ⟨l⟩ := cs
  match l, hcs with
  | [a0, a1], _ =>
    obtain ⟨xs, n, _, _, hl, hlen, hff⟩ := DataW.trod_struct hu hf
    match xs, hlen with
    | [y0, y1], _ =>
      have h0 := hff 0 f0 rfl
      have h1 := hff 1 f1 rfl
      simp only [t0, t1, o0, o1, c1, List.getElem_cons_zero, List.getElem_cons_succ] at h0 h1
      obtain ⟨z0, e0, _⟩ := DataW.trod_int Try.underlying3 h0
      obtain ⟨z1, e1, _⟩ := DataW.trod_int Try.underlying3 h1
      injection e0 with e0
      injection e1 with e1
      subst e0 e1
      exact ⟨z0, z1, rfl⟩
end Go.Proofs.Ytoaehigmpbhppaa.En
