/- An evaluator of closed Go code, part 4: what operations that touch no memory yield is what the model yields. -/
import Derived.Test.YtbghajfpjjfjcaaEvC
set_option linter.unusedSimpArgs false
set_option linter.unusedVariables false
namespace Go.Ev
open Go Go.RowKit
variable [Rho]

/-- An inversion at a pointer, a slice, an aggregate. -/
theorem VRel.ptr_inv {γ : Gam} {b o : Nat} {v' : Value} (h : VRel γ (.pointer (some ⟨b, o, none⟩)) v') : ∃ B O C, γ b = some (B, O, C) ∧ v' = .pointer (some ⟨B, O + o, none⟩) := by
  cases h with
  | ptr o h => exact ⟨_, _, _, h, rfl⟩
theorem VRel.slice_inv {γ : Gam} {b o n c : Nat} {v' : Value} (h : VRel γ (.slice (some ⟨b, o, none⟩) n c) v') : ∃ B O C, γ b = some (B, O, C) ∧ n ≤ capOf C c ∧ v' = .slice (some ⟨B, O + o, none⟩) n (capOf C c) := by
  cases h with
  | slice o n c h hn => exact ⟨_, _, _, h, hn, rfl⟩
theorem VRel.agg_inv {γ : Gam} {cs : Array Value} {v' : Value} (h : VRel γ (.agg cs) v') : ∃ cs', v' = .agg cs' ∧ LRel γ cs.toList cs'.toList := by
  cases h with
  | agg f f' hs hv => exact ⟨f', rfl, ARel.toList ⟨hs, hv⟩⟩
theorem VRel.tuple_inv {γ : Gam} {cs : Array Value} {v' : Value} (h : VRel γ (.tuple cs) v') : ∃ cs', v' = .tuple cs' ∧ LRel γ cs.toList cs'.toList := by
  cases h with
  | tuple f f' hs hv => exact ⟨f', rfl, ARel.toList ⟨hs, hv⟩⟩
theorem VRel.int_inv {γ : Gam} {k : IntKind} {n : Int} {v' : Value} (h : VRel γ (.int k n) v') : v' = .int k n := by cases h; rfl
theorem VRel.bool_inv {γ : Gam} {b : Bool} {v' : Value} (h : VRel γ (.bool b) v') : v' = .bool b := by cases h; rfl
theorem VRel.iface_inv {γ : Gam} {t : TypeId} {v v' : Value} (h : VRel γ (.iface t v) v') : ∃ u, v' = .iface t u ∧ VRel γ v u := by
  cases h with
  | iface t h => exact ⟨_, rfl, h⟩

section
variable {P : Program} {e : Env} (he : Env.Ok P e) {γ : Gam}
include he

theorem part_ok {t : TypeId} {i : TI} (hi : e.tyOf t = some i) {cs : Array Value} {cs' : Array Value} (hc : LRel γ cs.toList cs'.toList) {off : Nat} {v : Value} (h : partL i cs.toList off = some v) (w : World) :
    ∃ v', VRel γ v v' ∧ (part t cs' off).run P w = .ok v' w := by
  unfold partL at h
  cases ha : isAggD i.desc with
  | true =>
    simp only [ha, cond_true, cond_false] at h
    injection h with h
    subst h
    refine ⟨.agg (cs'.extract off (off + i.size)), ?_, ?_⟩
    · have : (cs'.extract off (off + i.size)) = ((cs'.toList.drop off).take i.size).toArray := by
        apply Array.ext'
        simp [Array.toList_extract, List.extract]
      rw [this]
      exact VRel.aggOf ((hc.drop _).take _)
    · simp [part, ok_isAgg he hi, ok_sizeOf he hi, ha]
  | false =>
    simp only [ha, cond_true, cond_false] at h
    obtain ⟨v', h1, h2⟩ := hc.get h
    refine ⟨v', h2, ?_⟩
    have h1' : cs'[off]? = some v' := by simpa using h1
    simp [part, ok_isAgg he hi, ha, h1']

theorem places_ok : ∀ (fs : List Field) (r : List (Nat × Nat)), placesL e fs = some r → fs.mapM (fun f => (P.info? f.type).map fun i => (f.offset, i.size)) = some r
  | [], r, h => by simp [placesL] at h; subst h; simp
  | f :: fs, r, h => by
    simp only [placesL] at h
    cases hi : e.tyOf f.type with
    | none => simp [hi] at h
    | some i =>
      cases hr : placesL e fs with
      | none => simp [hi, hr] at h
      | some r' =>
        simp [hi, hr] at h
        subst h
        obtain ⟨_, j, hj, hs, _, _⟩ := he.ty _ _ hi
        simp [List.mapM_cons, hj, hs, places_ok fs r' hr]
end

omit [Rho] in
theorem capOf_exact {C c : Nat} (h : c < openCap) : capOf C c = c := by simp [capOf, h]
omit [Rho] in
theorem capOf_open {C c : Nat} (h : openCap ≤ c) : capOf C c = C - (c - openCap) := by simp [capOf, Nat.not_lt.2 h]

omit [Rho] in
theorem natOf_inv {o : Option Value} {r : Option Nat} (h : natOf o = some r) : (o = none ∧ r = none) ∨ ∃ (k : IntKind) (n : Nat), o = some (.int k (n : Int)) ∧ r = some n := by
  unfold natOf at h
  split at h
  · left; simp at h; exact ⟨rfl, h.symm⟩
  · right; simp at h; exact ⟨_, _, rfl, h.symm⟩
  · simp at h

theorem optOp_rel {γ : Gam} {T : Tm} {n : Nat} {a : Act} (hT : TRel γ T n a.tmps) {x : Option Operand} {r : Option Nat} {v : Option Value} (h : optOp T x = some v) (hn : natOf v = some r) :
    (x.map a.eval = none ∧ r = none) ∨ ∃ (k : IntKind) (m : Nat), x.map a.eval = some (.int k (m : Int)) ∧ r = some m := by
  cases x with
  | none => simp [optOp] at h; subst h; simp [natOf] at hn; exact .inl ⟨rfl, hn.symm⟩
  | some y =>
    simp only [optOp] at h
    cases hy : aev T y with
    | none => simp [hy] at h
    | some u =>
      simp [hy] at h
      subst h
      rcases natOf_inv hn with ⟨h1, _⟩ | ⟨k, m, h1, rfl⟩
      · cases h1
      · injection h1 with h1
        subst h1
        have := (aev_rel hT hy).int_inv
        exact .inr ⟨k, m, by simp [this], rfl⟩

omit [Rho] in
theorem bound_ok {P : Program} {w : World} (k : IntKind) (m y : Nat) (code : BoundsCode) (h : m ≤ y) : (Instr.sliceBound (.int k (m : Int)) y code).run P w = .ok m w := by
  have h' : (0 : Int) ≤ (m : Int) ∧ (m : Int) ≤ (y : Int) := ⟨by omega, by omega⟩
  simp [Instr.sliceBound, asIntOf, h']

omit [Rho] in
theorem emptyTail_ok {P : Program} {w : World} {lo hi mx : Option Value} {l h m : Option Nat} {n c C : Nat} (hn : n ≤ capOf C c)
    (hl : (lo = none ∧ l = none) ∨ ∃ (k : IntKind) (j : Nat), lo = some (.int k (j : Int)) ∧ l = some j) (hh : (hi = none ∧ h = none) ∨ ∃ (k : IntKind) (j : Nat), hi = some (.int k (j : Int)) ∧ h = some j)
    (hm : (mx = none ∧ m = none) ∨ ∃ (k : IntKind) (j : Nat), mx = some (.int k (j : Int)) ∧ m = some j) (he : emptyTail n c l h m = true) :
    (Instr.sliceBounds true n (capOf C c) lo hi mx).run P w = .ok (n, n, capOf C c) w := by
  unfold emptyTail at he
  split at he
  · rename_i l0
    rcases hm with ⟨rfl, _⟩ | ⟨_, _, _, hx⟩
    · rcases hl with ⟨_, hx⟩ | ⟨kl, jl, rfl, hx⟩
      · cases hx
      · injection hx with hx
        subst hx
        cases h1 : Nat.ble openCap c with
        | false => rw [h1] at he; cases he
        | true =>
          cases h2 : Nat.beq l0 n with
          | false => rw [h1, h2] at he; cases he
          | true =>
            rw [h1, h2] at he
            have h2' := Nat.eq_of_beq_eq_true h2
            subst h2'
            have he' := Nat.eq_of_beq_eq_true he
            rcases hh with ⟨rfl, rfl⟩ | ⟨kh, jh, rfl, rfl⟩
            · simp [Instr.sliceBounds, bound_ok (P := P) (w := w) kl l0 l0 .sliceB (Nat.le_refl _)]
            · simp only [Option.getD_some] at he'
              subst he'
              simp [Instr.sliceBounds, bound_ok (P := P) (w := w) kh jh (capOf C c) .sliceAcap hn, bound_ok (P := P) (w := w) kl jh jh .sliceB (Nat.le_refl _)]
    · cases hx
  · cases he

omit [Rho] in
theorem slice_ok {P : Program} {w : World} {lo hi mx : Option Value} {l h m : Option Nat} {o n c size C : Nat} {r : Nat × Nat × Nat} (hn : n ≤ capOf C c)
    (hl : (lo = none ∧ l = none) ∨ ∃ (k : IntKind) (j : Nat), lo = some (.int k (j : Int)) ∧ l = some j) (hh : (hi = none ∧ h = none) ∨ ∃ (k : IntKind) (j : Nat), hi = some (.int k (j : Int)) ∧ h = some j)
    (hm : (mx = none ∧ m = none) ∨ ∃ (k : IntKind) (j : Nat), mx = some (.int k (j : Int)) ∧ m = some j) (hmh : (m.isSome && h.isNone) = false) (hs : sliceL o n c size l h m = some r) :
    ∃ L H M, (Instr.sliceBounds true n (capOf C c) lo hi mx).run P w = .ok (L, H, M) w ∧ r.2.1 = H - L ∧ capOf C r.2.2 = M - L ∧ r.2.1 ≤ M - L ∧ (if M = L then o else o + L * size) = r.1 := by
  unfold sliceL at hs
  rcases hm with ⟨rfl, rfl⟩ | ⟨km, jm, rfl, rfl⟩
  · -- no max
    simp only at hs
    cases hop : Nat.ble openCap c with
    | true =>
      have hop' : openCap ≤ c := Nat.le_of_ble_eq_true hop
      simp only [hop, cond_true, cond_false] at hs
      cases h1 : Nat.ble (h.getD n) n with
      | false => simp only [h1] at hs; cases hs
      | true =>
        cases h2 : Nat.ble (l.getD 0) (h.getD n) with
        | false => simp only [h1, h2] at hs; cases hs
        | true =>
          simp only [h1, h2] at hs
          have h1' := Nat.le_of_ble_eq_true h1
          have h2' := Nat.le_of_ble_eq_true h2
          have hcap : capOf C (c + l.getD 0) = capOf C c - l.getD 0 := by rw [capOf_open hop', capOf_open (by omega)]; omega
          refine ⟨l.getD 0, h.getD n, capOf C c, ?_, ?_⟩
          · rcases hl with ⟨rfl, rfl⟩ | ⟨kl, jl, rfl, rfl⟩ <;> rcases hh with ⟨rfl, rfl⟩ | ⟨kh, jh, rfl, rfl⟩ <;> simp at h1' h2' ⊢
            · simp [Instr.sliceBounds]
            · simp [Instr.sliceBounds, bound_ok (P := P) (w := w) kh jh (capOf C c) .sliceAcap (by omega)]
            · simp [Instr.sliceBounds, bound_ok (P := P) (w := w) kl jl n .sliceB (by omega)]
            · simp [Instr.sliceBounds, bound_ok (P := P) (w := w) kh jh (capOf C c) .sliceAcap (by omega), bound_ok (P := P) (w := w) kl jl jh .sliceB (by omega)]
          · cases h3 : Nat.beq (l.getD 0) 0 with
            | true =>
              have h3' := Nat.eq_of_beq_eq_true h3
              simp only [h3] at hs
              injection hs with hs
              subst hs
              simp [h3']
              omega
            | false =>
              simp only [h3] at hs
              cases h4 : Nat.blt (l.getD 0) n with
              | false => simp only [h4] at hs; cases hs
              | true =>
                simp only [h4] at hs
                injection hs with hs
                subst hs
                have h4' : l.getD 0 < n := Nat.le_of_ble_eq_true h4
                refine ⟨rfl, hcap, by simp; omega, ?_⟩
                rw [if_neg (by omega)]
    | false =>
      have hop' : c < openCap := by
        rcases Nat.lt_or_ge c openCap with h | h
        · exact h
        · have := Nat.ble_eq_true_of_le h; rw [this] at hop; cases hop
      simp only [hop, cond_true, cond_false] at hs
      have hcc : capOf C c = c := capOf_exact hop'
      rw [hcc] at hn ⊢
      cases h1 : Nat.ble (h.getD n) c with
      | false => simp only [h1] at hs; cases hs
      | true =>
        cases h2 : Nat.ble (l.getD 0) (h.getD n) with
        | false => simp only [h1, h2] at hs; cases hs
        | true =>
          simp only [h1, h2] at hs
          have h1' := Nat.le_of_ble_eq_true h1
          have h2' := Nat.le_of_ble_eq_true h2
          injection hs with hs
          subst hs
          refine ⟨l.getD 0, h.getD n, c, ?_, rfl, capOf_exact (Nat.lt_of_le_of_lt (Nat.sub_le _ _) hop'), by simp; omega, ?_⟩
          · rcases hl with ⟨rfl, rfl⟩ | ⟨kl, jl, rfl, rfl⟩ <;> rcases hh with ⟨rfl, rfl⟩ | ⟨kh, jh, rfl, rfl⟩ <;> simp at h1' h2' ⊢
            · simp [Instr.sliceBounds]
            · simp [Instr.sliceBounds, bound_ok (P := P) (w := w) kh jh c .sliceAcap (by omega)]
            · simp [Instr.sliceBounds, bound_ok (P := P) (w := w) kl jl n .sliceB (by omega)]
            · simp [Instr.sliceBounds, bound_ok (P := P) (w := w) kh jh c .sliceAcap (by omega), bound_ok (P := P) (w := w) kl jl jh .sliceB (by omega)]
          · cases h3 : Nat.beq c (l.getD 0) with
            | true => have := Nat.eq_of_beq_eq_true h3; simp [this]
            | false => have := Nat.ne_of_beq_eq_false h3; simp [this]
  · -- with max
    cases hh0 : h with
    | none => rw [hh0] at hmh; simp at hmh
    | some hv =>
      subst hh0
      rcases hh with ⟨_, hx⟩ | ⟨kh, jh, rfl, hx⟩
      · cases hx
      · injection hx with hx
        subst hx
        simp only [Option.getD_some] at hs
        cases h0 : Nat.blt jm openCap with
        | false => simp only [h0, cond_true, cond_false] at hs; cases hs
        | true =>
          cases h1 : Nat.ble jm (cond (Nat.ble openCap c) n c) with
          | false => simp only [h0, h1, cond_true, cond_false] at hs; cases hs
          | true =>
            cases h2 : Nat.ble hv jm with
            | false => simp only [h0, h1, h2, cond_true, cond_false] at hs; cases hs
            | true =>
              cases h3 : Nat.ble (l.getD 0) hv with
              | false => simp only [h0, h1, h2, h3, cond_true, cond_false] at hs; cases hs
              | true =>
                simp only [h0, h1, h2, h3, cond_true, cond_false] at hs
                have h0' : jm < openCap := Nat.le_of_ble_eq_true h0
                have h1' := Nat.le_of_ble_eq_true h1
                have h2' := Nat.le_of_ble_eq_true h2
                have h3' := Nat.le_of_ble_eq_true h3
                have hmc : jm ≤ capOf C c := by
                  cases hop : Nat.ble openCap c with
                  | true => simp only [hop, cond_true, cond_false] at h1'; omega
                  | false =>
                    simp only [hop, cond_true, cond_false] at h1'
                    have hop' : c < openCap := by
                      rcases Nat.lt_or_ge c openCap with h | h
                      · exact h
                      · have := Nat.ble_eq_true_of_le h; rw [this] at hop; cases hop
                    rw [capOf_exact hop']; exact h1'
                injection hs with hs
                subst hs
                refine ⟨l.getD 0, hv, jm, ?_, rfl, capOf_exact (Nat.lt_of_le_of_lt (Nat.sub_le _ _) h0'), by simp; omega, ?_⟩
                · rcases hl with ⟨rfl, rfl⟩ | ⟨kl, jl, rfl, rfl⟩ <;> simp at h3' ⊢
                  · simp [Instr.sliceBounds, bound_ok (P := P) (w := w) km jm (capOf C c) .slice3Acap hmc, bound_ok (P := P) (w := w) kh hv jm .slice3B h2']
                  · simp [Instr.sliceBounds, bound_ok (P := P) (w := w) km jm (capOf C c) .slice3Acap hmc, bound_ok (P := P) (w := w) kh hv jm .slice3B h2', bound_ok (P := P) (w := w) kl jl hv .slice3C h3']
                · cases h4 : Nat.beq jm (l.getD 0) with
                  | true => have := Nat.eq_of_beq_eq_true h4; simp [this]
                  | false => have := Nat.ne_of_beq_eq_false h4; simp [this]
end Go.Ev
