/- An evaluator of closed Go code, part 10: append. -/
import Derived.Test.YtbghajfpjjfjcaaEvI
set_option linter.unusedSimpArgs false
set_option linter.unusedVariables false
namespace Go.Ev
open Go Go.RowKit
variable [Rho]

def srcOf (e : Env) (T : Tm) (s : St) (tx : TypeId) (y : Operand) (size : Nat) : Option (Nat × List Value) :=
  match e.tyOf tx, aev T y with
  | some i, some (.slice none 0 _) => match i.desc with
    | .slice _ => some (0, [])
    | _ => none
  | some i, some (.slice (some ⟨_, _, some _⟩) 0 _) => match i.desc with
    | .slice _ => some (0, [])
    | _ => none
  | some i, some (.slice (some ⟨b, o, none⟩) n _) => match i.desc with
    | .slice _ => match s.at b with
      | .cells c _ _ _ => cond (Nat.ble (o + n * size) c.length) (takeK (n * size) (dropL o c) fun l => cond (one' l) (some (n, l)) none) none
      | _ => none
    | _ => none
  | some i, some (.string q) => match i.desc with
    | .string => cond (Nat.beq size 1) (some (q.size, byteCells q)) none
    | _ => none
  | _, _ => none

theorem srcOf_ok {P : Program} {e : Env} (he : Env.Ok P e) {T : Tm} {s : St} {tx : TypeId} {y : Operand} {size m : Nat} {news : List Value} (h : srcOf e T s tx y size = some (m, news))
    {γ : Gam} {n : Nat} {a : Act} {w : World} (hT : TRel γ T n a.tmps) (hS : Sat γ s.at w) : news.length = m * size ∧ ∃ news', LRel γ news news' ∧ Src P size tx (a.eval y) m news' w := by
  unfold srcOf at h
  split at h
  · rename_i i c hi hy
    split at h
    · rename_i el hd
      injection h with h
      cases h
      have hu := (he.ty tx i hi).1
      rw [hd] at hu
      have hr := aev_rel hT hy
      generalize a.eval y = y' at hr
      cases hr
      exact ⟨by simp, [], .nil γ, Src.ofNil w hu c⟩
    · cases h
  · rename_i i p1 p2 p3 c hi hy
    split at h
    · rename_i el hd
      injection h with h
      cases h
      have hu := (he.ty tx i hi).1
      rw [hd] at hu
      have hr := aev_rel hT hy
      generalize a.eval y = y' at hr
      cases hr with
      | slicee q c' => exact ⟨by simp, [], .nil γ, Src.ofSlice w hu q 0 c' [] (by simp) (fun j u hj => by simp at hj) (fun u hu => by cases hu)⟩
    · cases h
  · rename_i i b o m' c hi hy
    split at h
    · rename_i el hd
      split at h
      · rename_i cs t' room ro hb
        cases hle : Nat.ble (o + m' * size) cs.length with
        | false => simp only [hle, cond_false] at h; cases h
        | true =>
          simp only [hle, cond_true, takeK_eq, dropL_eq] at h
          cases h1 : one' ((cs.drop o).take (m' * size)) with
          | false => simp only [h1, cond_false] at h; cases h
          | true =>
            simp only [h1, cond_true] at h
            injection h with h
            cases h
            have hle' := Nat.le_of_ble_eq_true hle
            have hu := (he.ty tx i hi).1
            rw [hd] at hu
            obtain ⟨B, O, C, hg, hn, hy'⟩ := (aev_rel hT hy).slice_inv
            have hsb := hS.blk b
            rw [hb] at hsb
            obtain ⟨B', O', C', arr, hg', ha, hsz, hc, _⟩ := hsb.cells_inv
            rw [hg] at hg'; cases hg'
            obtain ⟨l, hl, hrel, hrange⟩ := row_part ha hsz hc hle'
            refine ⟨by simp; omega, l, hrel, ?_⟩
            rw [hy']
            exact Src.ofSlice w hu _ m _ l hl (fun j u hj => by rw [Addr.add_mid]; exact hrange j u hj) (one'_rel hrel h1)
      · cases h
    · cases h
  · rename_i i q hi hy
    split at h
    · rename_i hd
      cases h1 : Nat.beq size 1 with
      | false => simp only [h1, cond_false] at h; cases h
      | true =>
        simp only [h1, cond_true] at h
        injection h with h
        cases h
        have h1' := Nat.eq_of_beq_eq_true h1
        subst h1'
        have hu := (he.ty tx i hi).1
        rw [hd] at hu
        have hr := aev_rel hT hy
        generalize a.eval y = y' at hr
        cases hr
        refine ⟨by rw [byteCells_length, Nat.mul_one], byteCells q, ⟨rfl, fun i h1 _ => ?_⟩, Src.ofString w hu q⟩
        simp only [byteCells, List.getElem_map]
        exact .int _ _
    · cases h
  · cases h

omit [Rho] in
/-- A write of many cells, as one row. -/
theorem setCells_row {P : Program} {w : World} {B t : Nat} {arr : Array Value} (ha : w.heap[B]? = some (.cells arr t (0, 0))) {p : Nat} {l : List Value} (hp : p + l.length ≤ arr.size) (h1 : ∀ v ∈ l, v.oneCell' = true) :
    w.setCells B p l = w.setRow B (arr.toList.take p ++ l ++ arr.toList.drop (p + l.length)).toArray := by
  have hcell : ∀ j, j < l.length → (w.cell? ⟨B, p + j, none⟩).isSome = true := fun j hj => by
    simp only [World.cell?, ha]
    simp [show p + j < arr.size by omega]
  have hfr : ∀ j, j < l.length → w.frozen? ⟨B, p + j, none⟩ = false := fun j hj => by simp [World.frozen?, ha]
  have r1 := run_storeCells_cells (P := P) B p l 0 w (by simpa using hcell) (by simpa using hfr) h1
  have r2 := run_storeCells_at P B p t l 0 arr w ha (by simpa using hp) h1
  rw [r2] at r1
  simp only [Nat.add_zero] at r1
  injection r1 with _ r1
  exact r1.symm

theorem Step.kill {lo hi : Nat} {γ γ' : Gam} {h h' : Hp} {w w' : World} (st : Step lo hi γ h w γ' h' w') (b : Nat) : Step lo hi γ h w γ' (fun j => if j = b then .dead else h' j) w' := by
  have hsub : ∀ B, Own γ' (fun j => if j = b then .dead else h' j) B → Own γ' h' B := fun B ⟨j, O, C, h1, h2⟩ => ⟨j, O, C, by
    by_cases hj : j = b
    · simp [hj, AB.own] at h1
    · simpa only [if_neg hj] using h1, h2⟩
  refine ⟨st.le, st.dom, st.size, st.frame, fun B ho => ?_, ⟨fun j => ?_, fun B o e => ⟨(st.sat.frz B o e).1, fun ho => (st.sat.frz B o e).2 (hsub B ho)⟩, fun i j B O C O' C' ai aj => ?_⟩, st.os, st.tape, st.output, fun j a1 a2 => ?_⟩
  · obtain ⟨j, O, C, h1, h2⟩ := ho
    by_cases hj : j = b
    · simp [hj, AB.own] at h1
    · simp only [if_neg hj] at h1; exact st.own B ⟨j, O, C, h1, h2⟩
  · by_cases hj : j = b
    · simp only [if_pos hj]; trivial
    · simp only [if_neg hj]; exact st.sat.blk j
  · have key : ∀ m, (if m = b then AB.dead else h' m).alive = true → (h' m).alive = true := fun m hm => by
      by_cases hmb : m = b
      · simp [hmb, AB.alive] at hm
      · simpa only [if_neg hmb] using hm
    exact st.sat.inj i j B O C O' C' (key i ai) (key j aj)
  · by_cases hj : j = b
    · simp [hj, AB.alive] at a1
    · simp only [if_neg hj] at a1 a2 ⊢; exact st.ro j a1 a2

def hAppend {β : Type} (e : Env) (T : Tm) (s : St) (x y : Operand) (t tx : TypeId) (k : K β) : Option β :=
  match e.tyOf t, aev T x with
  | some i, some (.slice base len c) => match i.desc with
    | .slice el => match e.tyOf el with
      | some te => match te.zero with
        | some z => cond (Nat.beq z.cells.toList.length te.size) (cond (Nat.blt te.bytes 1048576) (match srcOf e T s tx y te.size with
          | some (n, news) => match base with
            | none => cond (Nat.beq len 0) (cond (Nat.beq c 0) (cond (Nat.beq n 0) (k (.slice none 0 0) s) (cond (Nat.blt n 1048576)
                (s.newK (.cells news el (some te.size) false) fun id s' => k (.slice (some ⟨id, 0, none⟩) n openCap) s') none)) none) none
            | some ⟨b, o, some _⟩ => none
            | some ⟨b, o, none⟩ => match s.at b with
              | .cells cs t' room ro => cond (Nat.ble (o + len * te.size) cs.length) (cond (Nat.blt (len + n) 1048576)
                  (cond (Nat.blt c openCap)
                    (cond (Nat.ble (len + n) c)
                      (cond ro none (cond (Nat.ble (o + (len + n) * te.size) cs.length) (cond (Nat.blt b s.next)
                        (setSegK cs (o + len * te.size) news fun cs' => s.putK b (.cells cs' t' room false) fun s' => k (.slice (some ⟨b, o, none⟩) (len + n) c) s') none) none))
                      (takeK (len * te.size) (dropL o cs) fun olds => appK olds news fun cs' => s.newK (.cells cs' el (some te.size) false) fun id s' => k (.slice (some ⟨id, 0, none⟩) (len + n) openCap) s'))
                    (cond ro none (match room with
                      | some sz => cond (Nat.beq sz te.size) (cond (Nat.beq o ((c - openCap) * te.size)) (cond (Nat.beq t' el) (cond (Nat.blt b s.next) (cond (Nat.blt 0 n)
                          (cond (Nat.beq (o + len * te.size) cs.length)
                            (appK (dropL o cs) news fun cs' => s.putK b .dead fun s1 => s1.newK (.cells cs' el (some te.size) false) fun id s' => k (.slice (some ⟨id, 0, none⟩) (len + n) openCap) s')
                            (cond (Nat.beq te.size 0) none (cond (Nat.ble (o + (len + n) * te.size) cs.length)
                              (setSegK cs (o + len * te.size) news fun cs' => s.putK b (.cells cs' t' (some sz) false) fun s' => k (.slice (some ⟨b, o, none⟩) (len + n) c) s') none))) (k (.slice (some ⟨b, o, none⟩) len c) s)) none) none) none) none
                      | none => none))) none) none
              | _ => none
          | none => none) none) none
        | none => none
      | none => none
    | _ => none
  | _, _ => none
end Go.Ev
