import Derived.Test.YtoaehigmpbhppaaLAA
import Derived.IntWalk
/-
  Texts of the bench, merged.
-/
set_option linter.unusedSimpArgs false
set_option linter.unusedVariables false
namespace Go.Ev
open Go Go.RowKit
variable [Rho]
omit [Rho] in
theorem two40 : (2:Nat) ^ 40 = 1099511627776 := by decide
omit [Rho] in
theorem openCap_val : openCap = 9223372036854775808 := by decide
omit [Rho] in
theorem wrap_small {n : Nat} (h : n < 2 ^ 40) : IntKind.i64.wrap (n : Int) = (n : Int) := IntWalk.i64_in _ (by rw [two40] at h; omega)
def hMakeSlice {β : Type} (e : Env) (T : Tm) (s : St) (t : TypeId) (x y : Operand) (k : K β) : Option β :=
  match e.tyOf t, aev T x, aev T y with
  | some i, some (.int _ (.ofNat l)), some (.int _ (.ofNat c)) => match i.desc with
    | .slice el => match e.tyOf el with
      | some te => match te.zero with
        | some z => cond (plain 8 z) (cond (Nat.beq z.cells.toList.length te.size) (cond (Nat.ble l c) (cond (Nat.blt c 1048576) (cond (Nat.blt te.bytes 1048576)
            (appK (zrep c z.cells.toList) [] fun cs => s.newK (.cells cs el none false) fun id s' => k (.slice (some ⟨id, 0, none⟩) l c) s') none) none) none) none) none
        | none => none
      | none => none
    | _ => none
  | _, _, _ => none
theorem hMakeSlice_ok {β : Type} {P : Program} {e : Env} (he : Env.Ok P e) {T : Tm} {s : St} {o : Oper} {t : TypeId} {x y : Operand} {k : K β} {r : β} (ho : o.op = .makeSlice t x y) (h : hMakeSlice e T s t x y k = some r) (hw : s.Wf) :
    ∃ v s', k v s' = some r ∧ Raw s s' ∧ HOk P o T s s' v := by
  unfold hMakeSlice at h
  split at h
  · rename_i i k1 l k2 c hi hx hy
    split at h
    · rename_i el hd
      split at h
      · rename_i te hte
        split at h
        · rename_i z hz
          cases h1 : plain 8 z with
          | false => simp only [h1, cond_false] at h; cases h
          | true =>
          cases h2 : Nat.beq z.cells.toList.length te.size with
          | false => simp only [h1, h2, cond_true, cond_false] at h; cases h
          | true =>
          cases h3 : Nat.ble l c with
          | false => simp only [h1, h2, h3, cond_true, cond_false] at h; cases h
          | true =>
          cases h4 : Nat.blt c 1048576 with
          | false => simp only [h1, h2, h3, h4, cond_true, cond_false] at h; cases h
          | true =>
          cases h5 : Nat.blt te.bytes 1048576 with
          | false => simp only [h1, h2, h3, h4, h5, cond_true, cond_false] at h; cases h
          | true =>
            simp only [h1, h2, h3, h4, h5, cond_true, appK_eq, List.append_nil] at h
            have h2' := Nat.eq_of_beq_eq_true h2
            have h3' := Nat.le_of_ble_eq_true h3
            have h4' : c < 1048576 := Nat.le_of_ble_eq_true h4
            have h5' : te.bytes < 1048576 := Nat.le_of_ble_eq_true h5
            obtain ⟨s', hk, hraw, hn, hd0, hat⟩ := St.newK_inv h hw
            refine ⟨_, s', hk, hraw, fun γ n a w hT hS hf => ?_⟩
            have hg := hf s.next (Nat.le_refl _) (by omega)
            have hx' := (aev_rel hT hx).int_inv
            have hy' := (aev_rel hT hy).int_inv
            have hu := ok_underlying he hi w
            rw [hd] at hu
            obtain ⟨j, hj, hjp, hjs, hjb, hjz⟩ := ok_bytes he hte w
            have hzs : z.cells.size = te.size := by simpa using h2'
            have hz' := ok_zero he hte hz w
            have harr := zrep_array c z.cells
            have hlen : ((Array.range (c * te.size)).map (fun i => z.cells[i % z.cells.size]!)).toList = zrep c z.cells.toList := by rw [← hzs]; exact harr
            refine ⟨γ.add s.next (w.heap.size, 0, 0), { w with heap := w.heap.push (.cells ((Array.range (c * te.size)).map (fun i => z.cells[i % z.cells.size]!)) el (0, 0)), drawn := w.drawn }, .slice (some ⟨w.heap.size, 0, none⟩) l c, ?_, ?_, .inl ?_⟩
            · rw [hn, hat]
              refine Step.newRow (C := 0) hS hg ?_ ?_ (by simp) _
              · rw [← hlen]; simp
              · rw [hlen, List.take_of_length_le (Nat.le_refl _)]
                exact zrep_rel (plain_rel γ 8 z h1).cells c
            · have hcap : capOf 0 c = c := capOf_exact (by rw [openCap_val]; omega)
              have := VRel.slice (γ := γ.add s.next (w.heap.size, 0, 0)) 0 l c (Gam.add_same γ s.next (w.heap.size, 0, 0)) (by rw [hcap]; exact h3')
              rw [hcap] at this
              exact this
            · have e1 : IntKind.i64.wrap (Int.ofNat l) = (l : Int) := wrap_small (n := l) (by rw [two40]; omega)
              have e2 : IntKind.i64.wrap (Int.ofNat c) = (c : Int) := wrap_small (n := c) (by rw [two40]; omega)
              have hmul : te.bytes * c ≤ 1048576 * 1048576 := Nat.mul_le_mul (by omega) (by omega)
              have e3 : ¬ ((c : Int) < 0) := by omega
              have e4 : ¬ ((2 : Int) ^ 48 < (te.bytes : Int) * (c : Int)) := by
                have : ((te.bytes * c : Nat) : Int) = (te.bytes : Int) * (c : Int) := by simp
                rw [← this]
                have : (2 : Int) ^ 48 = 281474976710656 := by decide
                omega
              have e5 : ¬ ((l : Int) < 0) := by omega
              have e6 : ¬ ((l : Int) > (c : Int)) := by omega
              have hcond : (((decide ((c : Int) < 0) || decide ((te.bytes : Int) * (c : Int) > 2 ^ 48)) || decide ((l : Int) < 0)) || decide ((l : Int) > (c : Int))) = false := by
                simp only [e3, e5, e6, gt_iff_lt, e4, decide_false, Bool.or_false]
              by_cases hc0 : c * te.size = 0
              · simp only [execOp, ho, Instr.makeSlice, hx', hy', asInt, asIntOf, Sem.run_bind, Sem.run_pure, hu, Result.andThen_ok, hj, e1, e2, hjb]
                rw [if_neg (by rw [hcond]; simp)]
                have hrng : ∀ f g : Nat → Value, (Array.range (c * te.size)).map f = (Array.range (c * te.size)).map g := by intro f g; rw [hc0]; simp
                rw [hrng (fun i => z.cells[i % z.cells.size]!) (fun i => (#[] : Array Value)[i % (#[] : Array Value).size]!)]
                simp [ok_sizeOf he hte, hc0, newRow]
              · simp only [execOp, ho, Instr.makeSlice, hx', hy', asInt, asIntOf, Sem.run_bind, Sem.run_pure, hu, Result.andThen_ok, hj, e1, e2, hjb]
                rw [if_neg (by rw [hcond]; simp)]
                simp [ok_sizeOf he hte, hc0, hz', newRow]
        · cases h
      · cases h
    · cases h
  · cases h
def hBuildSlice {β : Type} (e : Env) (T : Tm) (s : St) (t : TypeId) (len : Nat) (parts : Array (Nat × Operand)) (k : K β) : Option β :=
  match e.tyOf t, aevs T (parts.toList.map (·.2)) with
  | some i, some vs => match i.desc with
    | .slice el => match e.tyOf el with
      | some te => match te.zero with
        | some z => cond (plain 8 z) (cond (Nat.beq z.cells.toList.length te.size) (cond (Nat.blt len 65536) (cond (Nat.blt te.size 256)
            (match fillL (fun i => some (i * te.size, te.size)) (zrep len z.cells.toList) ((parts.toList.map (·.1)).zip vs) with
            | some cs => appK cs [] fun cs => s.newK (.cells cs el none false) fun id s' => k (.slice (some ⟨id, 0, none⟩) len len) s'
            | none => none) none) none) none) none
        | none => none
      | none => none
    | _ => none
  | _, _ => none
theorem hBuildSlice_ok {β : Type} {P : Program} {e : Env} (he : Env.Ok P e) {T : Tm} {s : St} {o : Oper} {t : TypeId} {len : Nat} {parts : Array (Nat × Operand)} {k : K β} {r : β} (ho : o.op = .buildSlice t len parts)
    (h : hBuildSlice e T s t len parts k = some r) (hw : s.Wf) : ∃ v s', k v s' = some r ∧ Raw s s' ∧ HOk P o T s s' v := by
  unfold hBuildSlice at h
  split at h
  · rename_i i vs hi hvs
    split at h
    · rename_i el hd
      split at h
      · rename_i te hte
        split at h
        · rename_i z hz
          cases h1 : plain 8 z with
          | false => simp only [h1, cond_false] at h; cases h
          | true =>
          cases h2 : Nat.beq z.cells.toList.length te.size with
          | false => simp only [h1, h2, cond_true, cond_false] at h; cases h
          | true =>
          cases h3 : Nat.blt len 65536 with
          | false => simp only [h1, h2, h3, cond_true, cond_false] at h; cases h
          | true =>
          cases h4 : Nat.blt te.size 256 with
          | false => simp only [h1, h2, h3, h4, cond_true, cond_false] at h; cases h
          | true =>
            simp only [h1, h2, h3, h4, cond_true] at h
            split at h
            · rename_i cs hcs
              simp only [appK_eq, List.append_nil] at h
              have h2' := Nat.eq_of_beq_eq_true h2
              have h3' : len < 65536 := Nat.le_of_ble_eq_true h3
              have h4' : te.size < 256 := Nat.le_of_ble_eq_true h4
              obtain ⟨s', hk, hraw, hn, hd0, hat⟩ := St.newK_inv h hw
              refine ⟨_, s', hk, hraw, fun γ n a w hT hS hf => ?_⟩
              have hg := hf s.next (Nat.le_refl _) (by omega)
              have hu := ok_underlying he hi w
              rw [hd] at hu
              have hzs : z.cells.size = te.size := by simpa using h2'
              have hz' := ok_zero he hte hz w
              have hrel := aevs_rel hT hvs
              have hlenv : vs.length = parts.size := by have := hrel.1; simpa using this
              have hfst : ((parts.toList.map (·.1)).zip vs).map (·.1) = ((parts.map fun (i, x) => (i, a.eval x)).toList).map (·.1) := by
                rw [List.map_fst_zip (by simp; omega)]
                simp [Array.toList_map, Function.comp_def]
              have hsnd : LRel γ (((parts.toList.map (·.1)).zip vs).map (·.2)) (((parts.map fun (i, x) => (i, a.eval x)).toList).map (·.2)) := by
                rw [List.map_snd_zip (by simp; omega)]
                have e : ((parts.map fun (i, x) => (i, a.eval x)).toList).map (·.2) = (parts.toList.map (·.2)).map a.eval := by simp [Array.toList_map, Function.comp_def]
                rw [e]
                exact hrel
              have hlen : ((Array.range (len * te.size)).map (fun i => z.cells[i % z.cells.size]!)).toList = zrep len z.cells.toList := by rw [← hzs]; exact zrep_array len z.cells
              have hbase : LRel γ (zrep len z.cells.toList) ((Array.range (len * te.size)).map (fun i => z.cells[i % z.cells.size]!)).toList := by rw [hlen]; exact zrep_rel (plain_rel γ 8 z h1).cells len
              obtain ⟨r', hr1, hr2⟩ := fill_rel (γ := γ) (fun i => some (i * te.size, te.size)) _ _ _ _ _ hfst hsnd hbase hcs
              have hmul : len * te.size ≤ 65536 * 256 := Nat.mul_le_mul (by omega) (by omega)
              refine ⟨γ.add s.next (w.heap.size, 0, 0), { w with heap := w.heap.push (.cells r' el (0, 0)), drawn := w.drawn }, .slice (some ⟨w.heap.size, 0, none⟩) len len, ?_, ?_, .inl ?_⟩
              · rw [hn, hat]
                refine Step.newRow (C := 0) hS hg ?_ ?_ (by simp) _
                · have := hr2.1; simp at this; omega
                · rw [List.take_of_length_le (by have := hr2.1; omega)]; exact hr2
              · have hcap : capOf 0 len = len := capOf_exact (by rw [openCap_val]; omega)
                have := VRel.slice (γ := γ.add s.next (w.heap.size, 0, 0)) 0 len len (Gam.add_same γ s.next (w.heap.size, 0, 0)) (by rw [hcap]; exact Nat.le_refl _)
                rw [hcap] at this
                exact this
              · have nb : ¬ (len * te.size > 2 ^ 24) := by
                  have : (2:Nat) ^ 24 = 65536 * 256 := by decide
                  omega
                simp only [execOp, ho, Instr.buildSlice, Sem.run_bind, hu, Result.andThen_ok, ok_sizeOf he hte, nb, if_false, Sem.run_pure]
                by_cases h0 : len * te.size = 0
                · have hrng : ∀ f g : Nat → Value, (Array.range (len * te.size)).map f = (Array.range (len * te.size)).map g := by intro f g; rw [h0]; simp
                  rw [if_pos h0]
                  simp only [Sem.run_bind, Sem.run_pure, Result.andThen_ok]
                  rw [hrng _ (fun i => z.cells[i % z.cells.size]!), hr1]
                  simp [newRow]
                · simp only [h0, if_false, Sem.run_bind, hz', Result.andThen_ok, Sem.run_pure, hr1]
                  simp [newRow]
            · cases h
        · cases h
      · cases h
    · cases h
  · cases h
end Go.Ev
namespace Go.Ev
open Go Go.RowKit
variable [Rho]
def srcOf (e : Env) (T : Tm) (s : St) (tx : TypeId) (y : Operand) (size : Nat) : Option (Nat × List Value) :=
  match e.tyOf tx, aev T y with
  | some i, some (.slice none 0 _) => match i.desc with
    | .slice _ => some (0, [])
    | _ => none
  | some i, some (.slice (some ⟨_, _, some _⟩) 0 _) => match i.desc with
    | .slice _ => some (0, [])
    | _ => none
  | some i, some (.slice (some ⟨b, o, none⟩) n _) => match i.desc with
    | .slice _ => match s.at b with
      | .cells c _ _ _ => cond (Nat.ble (o + n * size) c.length) (takeK (n * size) (dropL o c) fun l => cond (one' l) (some (n, l)) none) none
      | _ => none
    | _ => none
  | some i, some (.string q) => match i.desc with
    | .string => cond (Nat.beq size 1) (some (q.size, byteCells q)) none
    | _ => none
  | _, _ => none
theorem srcOf_ok {P : Program} {e : Env} (he : Env.Ok P e) {T : Tm} {s : St} {tx : TypeId} {y : Operand} {size m : Nat} {news : List Value} (h : srcOf e T s tx y size = some (m, news))
    {γ : Gam} {n : Nat} {a : Act} {w : World} (hT : TRel γ T n a.tmps) (hS : Sat γ s.at w) : news.length = m * size ∧ ∃ news', LRel γ news news' ∧ Src P size tx (a.eval y) m news' w := by
  unfold srcOf at h
  split at h
  · rename_i i c hi hy
    split at h
    · rename_i el hd
      injection h with h
      cases h
      have hu := (he.ty tx i hi).1
      rw [hd] at hu
      have hr := aev_rel hT hy
      generalize a.eval y = y' at hr
      cases hr
      exact ⟨by simp, [], .nil γ, Src.ofNil w hu c⟩
    · cases h
  · rename_i i p1 p2 p3 c hi hy
    split at h
    · rename_i el hd
      injection h with h
      cases h
      have hu := (he.ty tx i hi).1
      rw [hd] at hu
      have hr := aev_rel hT hy
      generalize a.eval y = y' at hr
      cases hr with
      | slicee q c' => exact ⟨by simp, [], .nil γ, Src.ofSlice w hu q 0 c' [] (by simp) (fun j u hj => by simp at hj) (fun u hu => by cases hu)⟩
    · cases h
  · rename_i i b o m' c hi hy
    split at h
    · rename_i el hd
      split at h
      · rename_i cs t' room ro hb
        cases hle : Nat.ble (o + m' * size) cs.length with
        | false => simp only [hle, cond_false] at h; cases h
        | true =>
          simp only [hle, cond_true, takeK_eq, dropL_eq] at h
          cases h1 : one' ((cs.drop o).take (m' * size)) with
          | false => simp only [h1, cond_false] at h; cases h
          | true =>
            simp only [h1, cond_true] at h
            injection h with h
            cases h
            have hle' := Nat.le_of_ble_eq_true hle
            have hu := (he.ty tx i hi).1
            rw [hd] at hu
            obtain ⟨B, O, C, hg, hn, hy'⟩ := (aev_rel hT hy).slice_inv
            have hsb := hS.blk b
            rw [hb] at hsb
            obtain ⟨B', O', C', arr, hg', ha, hsz, hc, _⟩ := hsb.cells_inv
            rw [hg] at hg'; cases hg'
            obtain ⟨l, hl, hrel, hrange⟩ := row_part ha hsz hc hle'
            refine ⟨by simp; omega, l, hrel, ?_⟩
            rw [hy']
            exact Src.ofSlice w hu _ m _ l hl (fun j u hj => by rw [Addr.add_mid]; exact hrange j u hj) (one'_rel hrel h1)
      · cases h
    · cases h
  · rename_i i q hi hy
    split at h
    · rename_i hd
      cases h1 : Nat.beq size 1 with
      | false => simp only [h1, cond_false] at h; cases h
      | true =>
        simp only [h1, cond_true] at h
        injection h with h
        cases h
        have h1' := Nat.eq_of_beq_eq_true h1
        subst h1'
        have hu := (he.ty tx i hi).1
        rw [hd] at hu
        have hr := aev_rel hT hy
        generalize a.eval y = y' at hr
        cases hr
        refine ⟨by rw [byteCells_length, Nat.mul_one], byteCells q, ⟨rfl, fun i h1 _ => ?_⟩, Src.ofString w hu q⟩
        simp only [byteCells, List.getElem_map]
        exact .int _ _
    · cases h
  · cases h
omit [Rho] in
/-- A write of many cells, as one row. -/
theorem setCells_row {P : Program} {w : World} {B t : Nat} {arr : Array Value} (ha : w.heap[B]? = some (.cells arr t (0, 0))) {p : Nat} {l : List Value} (hp : p + l.length ≤ arr.size) (h1 : ∀ v ∈ l, v.oneCell' = true) :
    w.setCells B p l = w.setRow B (arr.toList.take p ++ l ++ arr.toList.drop (p + l.length)).toArray := by
  have hcell : ∀ j, j < l.length → (w.cell? ⟨B, p + j, none⟩).isSome = true := fun j hj => by
    simp only [World.cell?, ha]
    simp [show p + j < arr.size by omega]
  have hfr : ∀ j, j < l.length → w.frozen? ⟨B, p + j, none⟩ = false := fun j hj => by simp [World.frozen?, ha]
  have r1 := run_storeCells_cells (P := P) B p l 0 w (by simpa using hcell) (by simpa using hfr) h1
  have r2 := run_storeCells_at P B p t l 0 arr w ha (by simpa using hp) h1
  rw [r2] at r1
  simp only [Nat.add_zero] at r1
  injection r1 with _ r1
  exact r1.symm
theorem Step.kill {lo hi : Nat} {γ γ' : Gam} {h h' : Hp} {w w' : World} (st : Step lo hi γ h w γ' h' w') (b : Nat) : Step lo hi γ h w γ' (fun j => if j = b then .dead else h' j) w' := by
  have hsub : ∀ B, Own γ' (fun j => if j = b then .dead else h' j) B → Own γ' h' B := fun B ⟨j, O, C, h1, h2⟩ => ⟨j, O, C, by
    by_cases hj : j = b
    · simp [hj, AB.own] at h1
    · simpa only [if_neg hj] using h1, h2⟩
  refine ⟨st.le, st.dom, st.size, st.frame, fun B ho => ?_, ⟨fun j => ?_, fun B o e => ⟨(st.sat.frz B o e).1, fun ho => (st.sat.frz B o e).2 (hsub B ho)⟩, fun i j B O C O' C' ai aj => ?_⟩, st.os, st.tape, st.output, fun j a1 a2 => ?_⟩
  · obtain ⟨j, O, C, h1, h2⟩ := ho
    by_cases hj : j = b
    · simp [hj, AB.own] at h1
    · simp only [if_neg hj] at h1; exact st.own B ⟨j, O, C, h1, h2⟩
  · by_cases hj : j = b
    · simp only [if_pos hj]; trivial
    · simp only [if_neg hj]; exact st.sat.blk j
  · have key : ∀ m, (if m = b then AB.dead else h' m).alive = true → (h' m).alive = true := fun m hm => by
      by_cases hmb : m = b
      · simp [hmb, AB.alive] at hm
      · simpa only [if_neg hmb] using hm
    exact st.sat.inj i j B O C O' C' (key i ai) (key j aj)
  · by_cases hj : j = b
    · simp [hj, AB.alive] at a1
    · simp only [if_neg hj] at a1 a2 ⊢; exact st.ro j a1 a2
def hAppend {β : Type} (e : Env) (T : Tm) (s : St) (x y : Operand) (t tx : TypeId) (k : K β) : Option β :=
  match e.tyOf t, aev T x with
  | some i, some (.slice base len c) => match i.desc with
    | .slice el => match e.tyOf el with
      | some te => match te.zero with
        | some z => cond (Nat.beq z.cells.toList.length te.size) (cond (Nat.blt te.bytes 1048576) (match srcOf e T s tx y te.size with
          | some (n, news) => match base with
            | none => cond (Nat.beq len 0) (cond (Nat.beq c 0) (cond (Nat.beq n 0) (k (.slice none 0 0) s) (cond (Nat.blt n 1048576)
                (s.newK (.cells news el (some te.size) false) fun id s' => k (.slice (some ⟨id, 0, none⟩) n openCap) s') none)) none) none
            | some ⟨b, o, some _⟩ => none
            | some ⟨b, o, none⟩ => match s.at b with
              | .cells cs t' room ro => cond (Nat.ble (o + len * te.size) cs.length) (cond (Nat.blt (len + n) 1048576)
                  (cond (Nat.blt c openCap)
                    (cond (Nat.ble (len + n) c)
                      (cond ro none (cond (Nat.ble (o + (len + n) * te.size) cs.length) (cond (Nat.blt b s.next)
                        (setSegK cs (o + len * te.size) news fun cs' => s.putK b (.cells cs' t' room false) fun s' => k (.slice (some ⟨b, o, none⟩) (len + n) c) s') none) none))
                      (takeK (len * te.size) (dropL o cs) fun olds => appK olds news fun cs' => s.newK (.cells cs' el (some te.size) false) fun id s' => k (.slice (some ⟨id, 0, none⟩) (len + n) openCap) s'))
                    (cond ro none (match room with
                      | some sz => cond (Nat.beq sz te.size) (cond (Nat.beq o ((c - openCap) * te.size)) (cond (Nat.beq t' el) (cond (Nat.blt b s.next) (cond (Nat.blt 0 n)
                          (cond (Nat.beq (o + len * te.size) cs.length)
                            (appK (dropL o cs) news fun cs' => s.putK b .dead fun s1 => s1.newK (.cells cs' el (some te.size) false) fun id s' => k (.slice (some ⟨id, 0, none⟩) (len + n) openCap) s')
                            (cond (Nat.beq te.size 0) none (cond (Nat.ble (o + (len + n) * te.size) cs.length)
                              (setSegK cs (o + len * te.size) news fun cs' => s.putK b (.cells cs' t' (some sz) false) fun s' => k (.slice (some ⟨b, o, none⟩) (len + n) c) s') none))) (k (.slice (some ⟨b, o, none⟩) len c) s)) none) none) none) none
                      | none => none))) none) none
              | _ => none
          | none => none) none) none
        | none => none
      | none => none
    | _ => none
  | _, _ => none
end Go.Ev
namespace Go.Ev
open Go Go.RowKit
variable [Rho]
omit [Rho] in
theorem exec_append {P : Program} {a : Act} {o : Oper} {x y : Operand} {t tx : TypeId} (ho : o.op = .call ⟨.builtin .append, #[x, y], #[t, tx]⟩) {w w' : World} {v : Value}
    (h : (Builtin.append_ #[t, tx] o.type #[a.eval x, a.eval y]).run P w = .ok v w') : (execOp a.eval o).run P w = .ok (.value v) w' := by
  simp [execOp, ho, resolve, invoke, builtin, h]
/-- A row that grew into a new block. -/
theorem grow_step {P : Program} {γ : Gam} {h : Hp} {w : World} {id need sCap size : Nat} {el : TypeId} {z : Value} {cs l : List Value} (hs : Sat γ h w) (hg : γ id = none) (hrel : LRel γ cs l) (hl : l.length = need * size)
    (hz : z.cells.size = size) (hneed : need < 1048576) :
    Step id (id + 1) γ h w (γ.add id (w.heap.size, 0, grownCap w need sCap el)) (fun j => if j = id then .cells cs el (some size) false else h j)
      (w.drew.alloc (.cells (l.toArray ++ Builtin.zeroCells z.cells (grownCap w need sCap el - need)) el)) := by
  have hG : need ≤ grownCap w need sCap el := by
    unfold grownCap Question.cut
    exact Nat.le_add_right _ _
  have hsz : (l.toArray ++ Builtin.zeroCells z.cells (grownCap w need sCap el - need)).size = grownCap w need sCap el * size := by
    simp only [Array.size_append, size_zeroCells, List.size_toArray, hl, hz, ← Nat.add_mul]
    congr 1
    omega
  have hle : cs.length ≤ (l.toArray ++ Builtin.zeroCells z.cells (grownCap w need sCap el - need)).size := by rw [hrel.1]; simp
  refine Step.newRow hs hg hle ?_ (fun sz hsz' => ?_) (w.drawn + 1)
  · rw [hrel.1]
    simpa using hrel
  · injection hsz' with hsz'
    subst hsz'
    refine ⟨by rw [hsz]; exact Nat.le_refl _, ?_⟩
    rw [hrel.1, hl]
    exact Nat.mul_le_mul_right _ hG
theorem open_val {γ : Gam} {id B O C n : Nat} (hg : γ id = some (B, O, C)) (hn : n ≤ C) : VRel γ (.slice (some ⟨id, 0, none⟩) n openCap) (.slice (some ⟨B, O, none⟩) n C) := by
  have hc : capOf C openCap = C := by rw [capOf_open (Nat.le_refl _)]; simp
  have := VRel.slice (γ := γ) 0 n openCap hg (by rw [hc]; exact hn)
  rw [hc] at this
  exact this
omit [Rho] in
theorem grownCap_le (w : World) (need old : Nat) (e : TypeId) : need ≤ grownCap w need old e := by
  unfold grownCap Question.cut
  exact Nat.le_add_right _ _
theorem hAppend_ok {β : Type} {P : Program} {e : Env} (he : Env.Ok P e) {T : Tm} {s : St} {o : Oper} {x y : Operand} {t tx : TypeId} {k : K β} {r : β} (ho : o.op = .call ⟨.builtin .append, #[x, y], #[t, tx]⟩)
    (h : hAppend e T s x y t tx k = some r) (hw : s.Wf) : ∃ v s', k v s' = some r ∧ Raw s s' ∧ HOk P o T s s' v := by
  unfold hAppend at h
  split at h
  case h_2 => cases h
  rename_i i base len c hi hx
  split at h
  case h_2 => cases h
  rename_i el hd
  split at h
  case h_2 => cases h
  rename_i te hte
  split at h
  case h_2 => cases h
  rename_i z hz
  cases h1 : Nat.beq z.cells.toList.length te.size with
  | false => simp only [h1, cond_false] at h; cases h
  | true =>
  cases h2 : Nat.blt te.bytes 1048576 with
  | false => simp only [h1, h2, cond_true, cond_false] at h; cases h
  | true =>
  simp only [h1, h2, cond_true] at h
  have hzs : z.cells.size = te.size := by simpa using Nat.eq_of_beq_eq_true h1
  have hby : te.bytes < 1048576 := Nat.le_of_ble_eq_true h2
  have hu := (he.ty t i hi).1
  rw [hd] at hu
  obtain ⟨_, ie, hie, hies, hieb, hiez⟩ := he.ty el te hte
  have hiez' : ie.zero = some z := hiez.trans hz
  split at h
  case h_2 => cases h
  rename_i n news hsrc
  rw [← hies] at hsrc
  have fits : ∀ {old need : Nat}, old < need → need < 1048576 → Builtin.nextslicecap need old * ie.bytes ≤ 281474976710656 := fun {old need} ho hn =>
    growslice_fits ho (by rw [hieb]; have : need * te.bytes ≤ 1048576 * 1048576 := Nat.mul_le_mul (by omega) (by omega); omega)
  split at h
  · -- nil
    cases h3 : Nat.beq len 0 with
    | false => simp only [h3, cond_false] at h; cases h
    | true =>
    cases h4 : Nat.beq c 0 with
    | false => simp only [h3, h4, cond_true, cond_false] at h; cases h
    | true =>
    have h3' := Nat.eq_of_beq_eq_true h3
    have h4' := Nat.eq_of_beq_eq_true h4
    subst h3' h4'
    cases h5 : Nat.beq n 0 with
    | true =>
      simp only [h3, h4, h5, cond_true] at h
      have h5' := Nat.eq_of_beq_eq_true h5
      subst h5'
      refine ⟨_, s, h, Raw.refl hw, fun γ m a w hT hS hf => ?_⟩
      obtain ⟨hl, news', hrel, hs⟩ := srcOf_ok (P := P) he hsrc hT hS
      have hx' : a.eval x = .slice none 0 0 := by have := aev_rel hT hx; generalize a.eval x = x' at this; cases this; rfl
      refine ⟨γ, w, _, Step.refl hS, .nilslice 0 0, .inl (exec_append ho ?_)⟩
      have hlen := hs.len w
      rw [hx']
      rcases hs.kind with ⟨e', hk⟩ | hk <;> simp [Builtin.append_, run_underlying hu, run_underlying hk, sizeOf, typeInfo, hie, hlen, hs.cells]
    | false =>
    cases h6 : Nat.blt n 1048576 with
    | false => simp only [h3, h4, h5, h6, cond_true, cond_false] at h; cases h
    | true =>
      simp only [h3, h4, h5, h6, cond_true, cond_false] at h
      have h5' : n ≠ 0 := Nat.ne_of_beq_eq_false h5
      have h6' : n < 1048576 := Nat.le_of_ble_eq_true h6
      obtain ⟨s', hk, hraw, hn, hd0, hat⟩ := St.newK_inv h hw
      refine ⟨_, s', hk, hraw, fun γ m a w hT hS hf => ?_⟩
      have hg := hf s.next (Nat.le_refl _) (by omega)
      obtain ⟨hl, news', hrel, hs⟩ := srcOf_ok (P := P) he hsrc hT hS
      have hx' : a.eval x = .slice none 0 0 := by have := aev_rel hT hx; generalize a.eval x = x' at this; cases this; rfl
      have hrun := run_append_grow_src (P := P) w t tx o.type el ie z hu hie hiez' none 0 0 [] (by simp [Builtin.firstCells]) (a.eval y) n news' hs (by omega) (by omega) (fits (by omega) (by omega))
      simp only [Nat.zero_add, List.nil_append] at hrun
      refine ⟨_, _, _, ?_, open_val (Gam.add_same γ s.next (w.heap.size, 0, grownCap w n 0 el)) (grownCap_le w n 0 el), .inl (exec_append ho (by rw [hx']; exact hrun))⟩
      rw [hn, hat]
      exact grow_step (P := P) hS hg hrel (by rw [hs.newsLen, hies]) hzs h6'
  · cases h
  · -- a row
    rename_i b off
    split at h
    case h_2 => cases h
    rename_i cs t' room ro hb
    cases h3 : Nat.ble (off + len * te.size) cs.length with
    | false => simp only [h3, cond_false] at h; cases h
    | true =>
    cases h4 : Nat.blt (len + n) 1048576 with
    | false => simp only [h3, h4, cond_true, cond_false] at h; cases h
    | true =>
    simp only [h3, h4, cond_true] at h
    have h3' := Nat.le_of_ble_eq_true h3
    have h4' : len + n < 1048576 := Nat.le_of_ble_eq_true h4
    have hsee := St.sees_of_at hb (by simp)
    have row : ∀ {γ : Gam} {m : Nat} {a : Act} {w : World}, TRel γ T m a.tmps → Sat γ s.at w → ∃ B O C arr, γ b = some (B, O, C) ∧ w.heap[B]? = some (.cells arr t' (0, 0)) ∧ O + cs.length ≤ arr.size ∧ LRel γ cs ((arr.toList.drop O).take cs.length) ∧
        (∀ sz, room = some sz → O + C * sz ≤ arr.size ∧ cs.length ≤ C * sz) ∧ len ≤ capOf C c ∧ a.eval x = .slice (some ⟨B, O + off, none⟩) len (capOf C c) := by
      intro γ m a w hT hS
      obtain ⟨B, O, C, hg, hln, hx'⟩ := (aev_rel hT hx).slice_inv
      have hsb := hS.blk b
      rw [hb] at hsb
      obtain ⟨B', O', C', arr, hg', ha, hsz, hc, hr⟩ := hsb.cells_inv
      rw [hg] at hg'; cases hg'
      exact ⟨B, O, C, arr, hg, ha, hsz, hc, hr, hln, hx'⟩
    cases h5 : Nat.blt c openCap with
    | true =>
      have h5' : c < openCap := Nat.le_of_ble_eq_true h5
      cases h6 : Nat.ble (len + n) c with
      | true =>
        -- exact, in place
        have h6' := Nat.le_of_ble_eq_true h6
        cases hro : ro with
        | true => simp only [h5, h6, hro, cond_true] at h; cases h
        | false =>
        cases h7 : Nat.ble (off + (len + n) * te.size) cs.length with
        | false => simp only [h5, h6, h7, hro, cond_true, cond_false] at h; cases h
        | true =>
        cases h8 : Nat.blt b s.next with
        | false => simp only [h5, h6, h7, h8, hro, cond_true, cond_false] at h; cases h
        | true =>
          simp only [h5, h6, h7, h8, hro, cond_true, cond_false, setSegK_eq] at h
          have h7' := Nat.le_of_ble_eq_true h7
          have h8' : b < s.next := Nat.le_of_ble_eq_true h8
          obtain ⟨s', hk, hraw, hn, hat⟩ := St.putK_inv h hw hsee h8'
          refine ⟨_, s', hk, hraw, fun γ m a w hT hS hf => ?_⟩
          obtain ⟨B, O, C, arr, hg, ha, hsz, hc, hr, hln, hx'⟩ := row hT hS
          obtain ⟨hl, news', hrel, hs⟩ := srcOf_ok (P := P) he hsrc hT hS
          have hcc : capOf C c = c := capOf_exact h5'
          rw [hcc] at hln hx'
          rw [hies] at hl
          have hml : (len + n) * te.size = len * te.size + n * te.size := Nat.add_mul _ _ _
          have hnl : news'.length = n * te.size := by rw [hs.newsLen, hies]
          have hrun := run_append_room_src (P := P) w t tx o.type el ie hu hie B (O + off) len c (a.eval y) n news' hs h6'
            (fun j hj => by simp only [World.cell?, ha, hies]; simp [show O + off + len * te.size + j < arr.size by omega]) (fun j hj => by simp [World.frozen?, ha])
          rw [hies, setCells_row (P := P) ha (by omega) hs.one] at hrun
          refine ⟨γ, _, _, ?_, ?_, .inl (exec_append ho (by rw [hx']; exact hrun))⟩
          · rw [hn, hat]
            have hsat := SatB.setSeg (ro' := false) hg ha hsz hc hr hrel (o := off + len * te.size) (by rw [hl]; omega)
            rw [← Nat.add_assoc] at hsat
            exact Step.ofPut hS (by rw [hb, hro]; rfl) hg (by simp) (fun B' hB' => setRow_other w B B' _ hB') rfl rfl rfl hsat
          · have := VRel.slice (γ := γ) off (len + n) c hg (by rw [hcc]; exact h6')
            rw [hcc] at this
            exact this
      | false =>
        -- exact, grows
        have h6' : c < len + n := by
          rcases Nat.lt_or_ge c (len + n) with h | h
          · exact h
          · rw [Nat.ble_eq_true_of_le h] at h6; cases h6
        simp only [h5, h6, cond_true, cond_false, takeK_eq, dropL_eq, appK_eq] at h
        obtain ⟨s', hk, hraw, hn, hd0, hat⟩ := St.newK_inv h hw
        refine ⟨_, s', hk, hraw, fun γ m a w hT hS hf => ?_⟩
        have hgn := hf s.next (Nat.le_refl _) (by omega)
        obtain ⟨B, O, C, arr, hg, ha, hsz, hc, hr, hln, hx'⟩ := row hT hS
        obtain ⟨hl, news', hrel, hs⟩ := srcOf_ok (P := P) he hsrc hT hS
        have hcc : capOf C c = c := capOf_exact h5'
        rw [hcc] at hln hx'
        obtain ⟨olds, hol, horel, horange⟩ := row_part ha hsz hc (o := off) (m := len * te.size) h3'
        have hold : (Builtin.firstCells ie.size len (.slice (some ⟨B, O + off, none⟩) len c)).run P w.drew = .ok olds.toArray w.drew :=
          run_firstCells_some w.drew ie.size len _ len c olds (by rw [hol, hies]) (fun j v hj => by rw [Addr.add_mid]; simpa using horange j v hj)
        have hrun := run_append_grow_src (P := P) w t tx o.type el ie z hu hie hiez' (some ⟨B, O + off, none⟩) len c olds hold (a.eval y) n news' hs h6' (by omega) (fits h6' h4')
        refine ⟨_, _, _, ?_, open_val (Gam.add_same γ s.next (w.heap.size, 0, grownCap w (len + n) c el)) (grownCap_le w (len + n) c el), .inl (exec_append ho (by rw [hx']; exact hrun))⟩
        rw [hn, hat]
        exact grow_step (P := P) hS hgn (horel.append hrel) (by rw [List.length_append, hol, hs.newsLen, hies, Nat.add_mul]) hzs h4'
    | false =>
      have h5' : openCap ≤ c := by
        rcases Nat.lt_or_ge c openCap with h | h
        · have : Nat.blt c openCap = true := Nat.ble_eq_true_of_le h
          rw [this] at h5; cases h5
        · exact h
      cases hro : ro with
      | true => simp only [h5, hro, cond_true, cond_false] at h; cases h
      | false =>
      simp only [h5, hro, cond_false] at h
      split at h
      case h_2 => cases h
      rename_i sz
      cases h6 : Nat.beq sz te.size with
      | false => simp only [h6, cond_false] at h; cases h
      | true =>
      cases h7 : Nat.beq off ((c - openCap) * te.size) with
      | false => simp only [h6, h7, cond_true, cond_false] at h; cases h
      | true =>
      cases h8 : Nat.beq t' el with
      | false => simp only [h6, h7, h8, cond_true, cond_false] at h; cases h
      | true =>
      cases h9 : Nat.blt b s.next with
      | false => simp only [h6, h7, h8, h9, cond_true, cond_false] at h; cases h
      | true =>
      have h6' := Nat.eq_of_beq_eq_true h6
      have h7' := Nat.eq_of_beq_eq_true h7
      have h8' := Nat.eq_of_beq_eq_true h8
      have h9' : b < s.next := Nat.le_of_ble_eq_true h9
      subst h6' h8'
      cases h10 : Nat.blt 0 n with
      | false =>
        simp only [h6, h7, h8, h9, h10, cond_true, cond_false] at h
        have hn0 : n = 0 := by
          rcases Nat.eq_zero_or_pos n with h | h
          · exact h
          · have : Nat.blt 0 n = true := Nat.ble_eq_true_of_le h
            rw [this] at h10; cases h10
        subst hn0
        refine ⟨_, s, h, Raw.refl hw, fun γ m a w hT hS hf => ?_⟩
        obtain ⟨B, O, C, arr, hg, ha, hsz, hc, hr, hln, hx'⟩ := row hT hS
        obtain ⟨hl, news', hrel, hs⟩ := srcOf_ok (P := P) he hsrc hT hS
        have hnl : news' = [] := List.length_eq_zero_iff.1 (by rw [hs.newsLen]; simp)
        subst hnl
        have hrun := run_append_room_src (P := P) w t tx o.type t' ie hu hie B (O + off) len (capOf C c) (a.eval y) 0 [] hs (by omega) (fun j hj => by simp at hj) (fun j hj => by simp at hj)
        exact ⟨γ, w, _, Step.refl hS, .slice off len c hg hln, .inl (exec_append ho (by rw [hx']; exact hrun))⟩
      | true =>
      cases h11 : Nat.beq (off + len * te.size) cs.length with
      | false =>
        simp only [h6, h7, h8, h9, h10, h11, cond_true, cond_false] at h
        cases h12 : Nat.beq te.size 0 with
        | true => simp only [h12, cond_true] at h; cases h
        | false =>
        cases h13 : Nat.ble (off + (len + n) * te.size) cs.length with
        | false => simp only [h12, h13, cond_false] at h; cases h
        | true =>
          simp only [h12, h13, cond_true, cond_false, setSegK_eq] at h
          have h12' := Nat.ne_of_beq_eq_false h12
          have h13' := Nat.le_of_ble_eq_true h13
          obtain ⟨s', hk, hraw, hn, hat⟩ := St.putK_inv h hw hsee h9'
          refine ⟨_, s', hk, hraw, fun γ m a w hT hS hf => ?_⟩
          obtain ⟨B, O, C, arr, hg, ha, hsz, hc, hr, hln, hx'⟩ := row hT hS
          obtain ⟨hl, news', hrel, hs⟩ := srcOf_ok (P := P) he hsrc hT hS
          rw [hies] at hl
          have hnl : news'.length = n * te.size := by rw [hs.newsLen, hies]
          have hml : (len + n) * te.size = len * te.size + n * te.size := Nat.add_mul _ _ _
          obtain ⟨hr1, hr2⟩ := hr te.size rfl
          have hfit : len + n ≤ capOf C c := by
            rw [capOf_open h5']
            have h1 : ((c - openCap) + (len + n)) * te.size ≤ C * te.size := by rw [Nat.add_mul]; omega
            have h2 := Nat.le_of_mul_le_mul_right h1 (Nat.pos_of_ne_zero h12')
            omega
          have hrun := run_append_room_src (P := P) w t tx o.type t' ie hu hie B (O + off) len (capOf C c) (a.eval y) n news' hs hfit
            (fun j hj => by simp only [World.cell?, ha, hies]; simp [show O + off + len * te.size + j < arr.size by omega]) (fun j hj => by simp [World.frozen?, ha])
          rw [hies, setCells_row (P := P) ha (by omega) hs.one] at hrun
          refine ⟨γ, _, _, ?_, .slice off (len + n) c hg hfit, .inl (exec_append ho (by rw [hx']; exact hrun))⟩
          rw [hn, hat]
          have hsat := SatB.setSeg (ro' := false) hg ha hsz hc hr hrel (o := off + len * te.size) (by rw [hl]; omega)
          rw [← Nat.add_assoc] at hsat
          exact Step.ofPut hS (by rw [hb, hro]; rfl) hg (by simp) (fun B' hB' => setRow_other w B B' _ hB') rfl rfl rfl hsat
      | true =>
        simp only [h6, h7, h8, h9, h10, h11, cond_true, dropL_eq, appK_eq] at h
        have h10' : 0 < n := Nat.le_of_ble_eq_true h10
        have h11' := Nat.eq_of_beq_eq_true h11
        obtain ⟨s1, hk1, hraw1, hn1, hat1⟩ := St.putK_inv h hw hsee h9'
        obtain ⟨s', hk, hraw, hn, hd0, hat⟩ := St.newK_inv hk1 hraw1.wf
        rw [hn1] at hk
        have hbn : b ≠ s.next := by omega
        have hat' : s'.at = fun j => if j = s.next then AB.cells (cs.drop off ++ news) t' (some te.size) false else if j = b then .dead else s.at j := by rw [hat, hat1, hn1]
        refine ⟨_, s', hk, hraw1.trans hraw, fun γ m a w hT hS hf => ?_⟩
        have hgn := hf s.next (Nat.le_refl _) (by omega)
        obtain ⟨B, O, C, arr, hg, ha, hsz, hc, hr, hln, hx'⟩ := row hT hS
        obtain ⟨hl, news', hrel, hs⟩ := srcOf_ok (P := P) he hsrc hT hS
        rw [hies] at hl
        have hnl : news'.length = n * te.size := by rw [hs.newsLen, hies]
        have hcc : capOf C c = C - (c - openCap) := capOf_open h5'
        obtain ⟨hr1, hr2⟩ := hr te.size rfl
        obtain ⟨olds, hol, horel, horange⟩ := row_part ha hsz hc (o := off) (m := len * te.size) (by omega)
        have htake : (cs.drop off).take (len * te.size) = cs.drop off := List.take_of_length_le (by simp; omega)
        rw [htake] at horel
        by_cases hroom : len + n ≤ capOf C c
        · -- there is room
          have hmin : c - openCap + (len + n) ≤ C := by omega
          have hmul : (c - openCap) * te.size + (len * te.size + n * te.size) ≤ C * te.size := by
            rw [← Nat.add_mul, ← Nat.add_mul]; exact Nat.mul_le_mul_right _ hmin
          have hC' : (C - (c - openCap)) * te.size = C * te.size - (c - openCap) * te.size := Nat.sub_mul _ _ _
          have hrun := run_append_room_src (P := P) w t tx o.type t' ie hu hie B (O + off) len (capOf C c) (a.eval y) n news' hs hroom
            (fun j hj => by simp only [World.cell?, ha, hies]; simp [show O + off + len * te.size + j < arr.size by omega]) (fun j hj => by simp [World.frozen?, ha])
          rw [hies, setCells_row (P := P) ha (by omega) hs.one] at hrun
          refine ⟨γ.add s.next (B, O + off, capOf C c), _, _, ?_, open_val (Gam.add_same γ s.next (B, O + off, capOf C c)) hroom, .inl (exec_append ho (by rw [hx']; exact hrun))⟩
          rw [hn, hn1, hat']
          refine Step.ofMove hS (by rw [hb, hro]; rfl) hg hgn (by simp) (fun B' hB' => setRow_other w B B' _ hB') rfl rfl rfl ?_
          refine SatB.row (Gam.add_same γ s.next _) (setRow_heap w B arr _ t' _ ha) (by simp; omega) ?_ (fun sq hsz' => ?_)
          · have e1 : ((arr.toList.take (O + off + len * te.size) ++ news' ++ arr.toList.drop (O + off + len * te.size + news'.length)).toArray.toList.drop (O + off)).take (cs.drop off ++ news).length = olds ++ news' := by
              have hlen : (cs.drop off ++ news).length = len * te.size + n * te.size := by simp; omega
              rw [hlen]
              have hcsd : olds = ((arr.toList.drop (O + off)).take (len * te.size)) := by
                apply List.ext_getElem?
                intro j
                by_cases hj : j < len * te.size
                · have hjo : j < olds.length := by omega
                  have := horange j olds[j] (List.getElem?_eq_getElem hjo)
                  simp only [World.cell?, ha] at this
                  simp only [List.getElem?_take, hj, if_true, List.getElem?_drop, List.getElem?_eq_getElem hjo]
                  simpa using this.symm
                · rw [List.getElem?_eq_none (by omega), List.getElem?_eq_none (by simp; omega)]
              rw [hcsd]
              apply List.ext_getElem?
              intro j
              simp only [List.getElem?_take, List.getElem?_drop, List.getElem?_append, List.length_append, List.length_take, List.length_drop, Array.length_toList]
              have e2 : min (O + off + len * te.size) arr.size = O + off + len * te.size := by omega
              have e3 : min (len * te.size) (arr.size - (O + off)) = len * te.size := by omega
              simp only [e2, e3]
              by_cases hj1 : j < len * te.size
              · simp [hj1, show j < len * te.size + n * te.size by omega, show O + off + j < O + off + len * te.size + news'.length by omega]
              · by_cases hj2 : j < len * te.size + n * te.size
                · simp [hj1, hj2, show O + off + j < O + off + len * te.size + news'.length by omega, show O + off + j - (O + off + len * te.size) = j - len * te.size by omega]
                · simp only [hj1, hj2, if_false]
                  exact (List.getElem?_eq_none (by omega)).symm
            rw [e1]
            exact (horel.append hrel).mono (Gam.le_add hgn _)
          · injection hsz' with hsz'
            subst hsz'
            refine ⟨?_, ?_⟩
            · rw [hcc, hC']; simp; omega
            · have hlen : (cs.drop off ++ news).length = len * te.size + n * te.size := by simp; omega
              rw [hlen, hcc, hC']; omega
        · -- there is none
          have hgrow : capOf C c < len + n := by omega
          have hold : (Builtin.firstCells ie.size len (.slice (some ⟨B, O + off, none⟩) len (capOf C c))).run P w.drew = .ok olds.toArray w.drew :=
            run_firstCells_some w.drew ie.size len _ len _ olds (by rw [hol, hies]) (fun j v hj => by rw [Addr.add_mid]; simpa using horange j v hj)
          have hrun := run_append_grow_src (P := P) w t tx o.type t' ie z hu hie hiez' (some ⟨B, O + off, none⟩) len (capOf C c) olds hold (a.eval y) n news' hs hgrow (by omega) (fits hgrow h4')
          refine ⟨_, _, _, ?_, open_val (Gam.add_same γ s.next (w.heap.size, 0, grownCap w (len + n) (capOf C c) t')) (grownCap_le w (len + n) (capOf C c) t'), .inl (exec_append ho (by rw [hx']; exact hrun))⟩
          have st := (grow_step (P := P) (sCap := capOf C c) (el := t') hS hgn (horel.append hrel) (by rw [List.length_append, hol, hnl, Nat.add_mul]) hzs h4').kill b
          rw [hn, hn1, hat']
          have hfun : (fun j => if j = s.next then AB.cells (cs.drop off ++ news) t' (some te.size) false else if j = b then .dead else s.at j) =
              (fun j => if j = b then AB.dead else if j = s.next then AB.cells (cs.drop off ++ news) t' (some te.size) false else s.at j) := by
            funext j
            by_cases h1 : j = s.next
            · subst h1; simp [Ne.symm hbn]
            · simp [h1]
          rw [hfun]
          exact st
end Go.Ev
namespace Go.Ev
open Go Go.RowKit
variable [Rho]
/-! ### entries -/
def sameL (f : Value → Value → Bool) : List Value → List Value → Bool
  | [], [] => true
  | a :: as, b :: bs => cond (f a b) (sameL f as bs) false
  | _, _ => false
omit [Rho] in
theorem sameL_eq {f : Value → Value → Bool} (hf : ∀ a b, f a b = true → a = b) : ∀ (l m : List Value), sameL f l m = true → l = m
  | [], [], _ => rfl
  | [], _ :: _, h => nomatch h
  | _ :: _, [], h => nomatch h
  | a :: as, b :: bs, h => by
    simp only [sameL] at h
    cases h1 : f a b with
    | false => rw [h1] at h; cases h
    | true => rw [h1, cond_true] at h; rw [hf a b h1, sameL_eq hf as bs h]
def sameB : Bool → Bool → Bool
  | true, true | false, false => true
  | _, _ => false
def sameV : Nat → Value → Value → Bool
  | 0, _, _ => false
  | n + 1, a, b => match a, b with
    | .int k m, .int k' m' => cond (sameK k k') (eqI m m') false
    | .bool a, .bool b => sameB a b
    | .chan (some s), .chan (some t) => Nat.beq s t
    | .string a, .string b => a == b
    | .slice none n c, .slice none m d => cond (Nat.beq n m) (Nat.beq c d) false
    | .pointer none, .pointer none | .nilFunc, .nilFunc | .nilIface, .nilIface => true
    | .agg a, .agg b | .tuple a, .tuple b => sameL (sameV n) a.toList b.toList
    | .func (.func f) x y, .func (.func g) x1 y1 => cond (Nat.beq f g) (cond (sameL (sameV n) x.toList x1.toList) (sameL (sameV n) y.toList y1.toList) false) false
    | _, _ => false
omit [Rho] in
theorem sameV_eq : ∀ (n : Nat) (a b : Value), sameV n a b = true → a = b
  | 0, _, _, h => nomatch h
  | n + 1, a, b, h => by
    have ih := sameV_eq n
    unfold sameV at h
    split at h
    · rename_i k m k' m'
      cases hk : sameK k k' with
      | false => rw [hk] at h; cases h
      | true =>
        rw [hk, cond_true, eqI_eq] at h
        rw [sameK_eq hk, eq_of_beq h]
    · rename_i a b
      cases a <;> cases b <;> first | rfl | cases h
    · rw [Nat.eq_of_beq_eq_true h]
    · rename_i a b
      have : a = b := by
        obtain ⟨a⟩ := a
        obtain ⟨b⟩ := b
        have h2 : (a == b) = true := h
        rw [eq_of_beq h2]
      rw [this]
    · rename_i n c m d
      cases hn : Nat.beq n m with
      | false => rw [hn] at h; cases h
      | true =>
        rw [hn, cond_true] at h
        rw [Nat.eq_of_beq_eq_true hn, Nat.eq_of_beq_eq_true h]
    · rfl
    · rfl
    · rfl
    · rename_i a b
      have := sameL_eq ih _ _ h
      rw [Array.toList_inj.1 this]
    · rename_i a b
      have := sameL_eq ih _ _ h
      rw [Array.toList_inj.1 this]
    · rename_i f x y g x1 y1
      cases h1 : Nat.beq f g with
      | false => rw [h1] at h; cases h
      | true =>
        rw [h1, cond_true] at h
        cases h2 : sameL (sameV n) x.toList x1.toList with
        | false => rw [h2] at h; cases h
        | true =>
          rw [h2, cond_true] at h
          rw [Nat.eq_of_beq_eq_true h1, Array.toList_inj.1 (sameL_eq ih _ _ h2), Array.toList_inj.1 (sameL_eq ih _ _ h)]
    · cases h
def findGrow : List LEnt → Nat → Nat → Nat → Nat → List Value → Option (Nat × Nat)
  | [], _, _, _, _, _ => none
  | .grow k s m sz vs k' s' :: l, k0, s0, m0, sz0, vs0 => cond (Nat.beq k k0) (cond (Nat.beq s s0) (cond (Nat.beq m m0) (cond (Nat.beq sz sz0) (cond (sameL (sameV 3) vs vs0) (some (k', s')) (findGrow l k0 s0 m0 sz0 vs0)) (findGrow l k0 s0 m0 sz0 vs0)) (findGrow l k0 s0 m0 sz0 vs0)) (findGrow l k0 s0 m0 sz0 vs0)) (findGrow l k0 s0 m0 sz0 vs0)
  | _ :: l, k0, s0, m0, sz0, vs0 => findGrow l k0 s0 m0 sz0 vs0
def findIdx : List LEnt → Nat → Value → Nat → Option Nat
  | [], _, _, _ => none
  | .idx s i sz r :: l, s0, i0, sz0 => cond (Nat.beq s s0) (cond (sameV 3 i i0) (cond (Nat.beq sz sz0) (some r) (findIdx l s0 i0 sz0)) (findIdx l s0 i0 sz0)) (findIdx l s0 i0 sz0)
  | _ :: l, s0, i0, sz0 => findIdx l s0 i0 sz0
def findGet : List LEnt → Nat → Nat → Nat → Option (List Value)
  | [], _, _, _ => none
  | .get k r vs :: l, k0, r0, n0 => cond (Nat.beq k k0) (cond (Nat.beq r r0) (cond (Nat.beq vs.length n0) (some vs) (findGet l k0 r0 n0)) (findGet l k0 r0 n0)) (findGet l k0 r0 n0)
  | _ :: l, k0, r0, n0 => findGet l k0 r0 n0
def findOff : List LEnt → Nat → Nat → Option Nat
  | [], _, _ => none
  | .off r d r' :: l, r0, d0 => cond (Nat.beq r r0) (cond (Nat.beq d d0) (some r') (findOff l r0 d0)) (findOff l r0 d0)
  | _ :: l, r0, d0 => findOff l r0 d0
theorem findGrow_ok : ∀ (l : List LEnt) (k s m sz : Nat) (vs : List Value) (q : Nat × Nat), LsOk l → findGrow l k s m sz vs = some q → LOk (.grow k s m sz vs q.1 q.2)
  | [], _, _, _, _, _, _, _, h => nomatch h
  | x :: l, k0, s0, m0, sz0, vs0, q, ⟨h1, h2⟩, h => by
    have ih := findGrow_ok l k0 s0 m0 sz0 vs0 q h2
    cases x with
    | grow k s m sz vs k' s' =>
      simp only [findGrow] at h
      cases e1 : Nat.beq k k0 with
      | false => rw [e1] at h; exact ih h
      | true =>
      cases e2 : Nat.beq s s0 with
      | false => rw [e1, e2] at h; exact ih h
      | true =>
      cases e3 : Nat.beq m m0 with
      | false => rw [e1, e2, e3] at h; exact ih h
      | true =>
      cases e4 : Nat.beq sz sz0 with
      | false => rw [e1, e2, e3, e4] at h; exact ih h
      | true =>
      cases e5 : sameL (sameV 3) vs vs0 with
      | false => rw [e1, e2, e3, e4, e5] at h; exact ih h
      | true =>
        rw [e1, e2, e3, e4, e5] at h
        injection h with h
        have q1 := Nat.eq_of_beq_eq_true e1
        have q2 := Nat.eq_of_beq_eq_true e2
        have q3 := Nat.eq_of_beq_eq_true e3
        have q4 := Nat.eq_of_beq_eq_true e4
        have q5 := sameL_eq (sameV_eq 3) _ _ e5
        subst q1 q2 q3 q4 q5 h
        exact h1
    | idx => exact ih h
    | get => exact ih h
    | off => exact ih h
    | keq => exact ih h
    | put => exact ih h
    | mk => exact ih h
theorem findIdx_ok : ∀ (l : List LEnt) (s : Nat) (i : Value) (sz r : Nat), LsOk l → findIdx l s i sz = some r → LOk (.idx s i sz r)
  | [], _, _, _, _, _, h => nomatch h
  | x :: l, s0, i0, sz0, r0, ⟨h1, h2⟩, h => by
    have ih := findIdx_ok l s0 i0 sz0 r0 h2
    cases x with
    | idx s i sz r =>
      simp only [findIdx] at h
      cases e1 : Nat.beq s s0 with
      | false => rw [e1] at h; exact ih h
      | true =>
      cases e2 : sameV 3 i i0 with
      | false => rw [e1, e2] at h; exact ih h
      | true =>
      cases e3 : Nat.beq sz sz0 with
      | false => rw [e1, e2, e3] at h; exact ih h
      | true =>
        rw [e1, e2, e3] at h
        injection h with h
        have q1 := Nat.eq_of_beq_eq_true e1
        have q2 := sameV_eq 3 _ _ e2
        have q3 := Nat.eq_of_beq_eq_true e3
        subst q1 q2 q3 h
        exact h1
    | grow => exact ih h
    | get => exact ih h
    | off => exact ih h
    | keq => exact ih h
    | put => exact ih h
    | mk => exact ih h
theorem findGet_ok : ∀ (l : List LEnt) (k r n : Nat) (vs : List Value), LsOk l → findGet l k r n = some vs → vs.length = n ∧ LOk (.get k r vs)
  | [], _, _, _, _, _, h => nomatch h
  | x :: l, k0, r0, n0, v0, ⟨h1, h2⟩, h => by
    have ih := findGet_ok l k0 r0 n0 v0 h2
    cases x with
    | get k r vs =>
      simp only [findGet] at h
      cases e1 : Nat.beq k k0 with
      | false => rw [e1] at h; exact ih h
      | true =>
      cases e2 : Nat.beq r r0 with
      | false => rw [e1, e2] at h; exact ih h
      | true =>
      cases e3 : Nat.beq vs.length n0 with
      | false => rw [e1, e2, e3] at h; exact ih h
      | true =>
        rw [e1, e2, e3] at h
        injection h with h
        have q1 := Nat.eq_of_beq_eq_true e1
        have q2 := Nat.eq_of_beq_eq_true e2
        have q3 := Nat.eq_of_beq_eq_true e3
        subst q1 q2 h
        exact ⟨q3, h1⟩
    | grow => exact ih h
    | idx => exact ih h
    | off => exact ih h
    | keq => exact ih h
    | put => exact ih h
    | mk => exact ih h
theorem findOff_ok : ∀ (l : List LEnt) (r d r' : Nat), LsOk l → findOff l r d = some r' → LOk (.off r d r')
  | [], _, _, _, _, h => nomatch h
  | x :: l, r0, d0, q0, ⟨h1, h2⟩, h => by
    have ih := findOff_ok l r0 d0 q0 h2
    cases x with
    | off r d r' =>
      simp only [findOff] at h
      cases e1 : Nat.beq r r0 with
      | false => rw [e1] at h; exact ih h
      | true =>
      cases e2 : Nat.beq d d0 with
      | false => rw [e1, e2] at h; exact ih h
      | true =>
        rw [e1, e2] at h
        injection h with h
        have q1 := Nat.eq_of_beq_eq_true e1
        have q2 := Nat.eq_of_beq_eq_true e2
        subst q1 q2 h
        exact h1
    | grow => exact ih h
    | idx => exact ih h
    | get => exact ih h
    | keq => exact ih h
    | put => exact ih h
    | mk => exact ih h
def findKeq : List LEnt → Nat → Int → Option Bool
  | [], _, _ => none
  | .keq s m b :: l, s0, m0 => cond (Nat.beq s s0) (cond (eqI m m0) (some b) (findKeq l s0 m0)) (findKeq l s0 m0)
  | _ :: l, s0, m0 => findKeq l s0 m0
def findPut : List LEnt → Nat → Nat → List Value → Option Nat
  | [], _, _, _ => none
  | .put k r vs k' :: l, k0, r0, v0 => cond (Nat.beq k k0) (cond (Nat.beq r r0) (cond (sameL (sameV 3) vs v0) (some k') (findPut l k0 r0 v0)) (findPut l k0 r0 v0)) (findPut l k0 r0 v0)
  | _ :: l, k0, r0, v0 => findPut l k0 r0 v0
def findMk : List LEnt → Value → Nat → List Value → Option (Nat × Nat)
  | [], _, _, _ => none
  | .mk n sz z k' s' :: l, n0, sz0, z0 => cond (sameV 3 n n0) (cond (Nat.beq sz sz0) (cond (sameL (sameV 3) z z0) (some (k', s')) (findMk l n0 sz0 z0)) (findMk l n0 sz0 z0)) (findMk l n0 sz0 z0)
  | _ :: l, n0, sz0, z0 => findMk l n0 sz0 z0
theorem findKeq_ok : ∀ (l : List LEnt) (s : Nat) (m : Int) (b : Bool), LsOk l → findKeq l s m = some b → LOk (.keq s m b)
  | [], _, _, _, _, h => nomatch h
  | x :: l, s0, m0, b0, ⟨h1, h2⟩, h => by
    have ih := findKeq_ok l s0 m0 b0 h2
    cases x with
    | keq s m b =>
      simp only [findKeq] at h
      cases e1 : Nat.beq s s0 with
      | false => rw [e1] at h; exact ih h
      | true =>
      cases e2 : eqI m m0 with
      | false => rw [e1, e2] at h; exact ih h
      | true =>
        rw [e1, e2] at h
        injection h with h
        have q1 := Nat.eq_of_beq_eq_true e1
        rw [eqI_eq] at e2
        have q2 := eq_of_beq e2
        subst q1 q2 h
        exact h1
    | grow => exact ih h
    | idx => exact ih h
    | get => exact ih h
    | off => exact ih h
    | put => exact ih h
    | mk => exact ih h
theorem findPut_ok : ∀ (l : List LEnt) (k r : Nat) (vs : List Value) (k' : Nat), LsOk l → findPut l k r vs = some k' → LOk (.put k r vs k')
  | [], _, _, _, _, _, h => nomatch h
  | x :: l, k0, r0, v0, q0, ⟨h1, h2⟩, h => by
    have ih := findPut_ok l k0 r0 v0 q0 h2
    cases x with
    | put k r vs k' =>
      simp only [findPut] at h
      cases e1 : Nat.beq k k0 with
      | false => rw [e1] at h; exact ih h
      | true =>
      cases e2 : Nat.beq r r0 with
      | false => rw [e1, e2] at h; exact ih h
      | true =>
      cases e3 : sameL (sameV 3) vs v0 with
      | false => rw [e1, e2, e3] at h; exact ih h
      | true =>
        rw [e1, e2, e3] at h
        injection h with h
        have q1 := Nat.eq_of_beq_eq_true e1
        have q2 := Nat.eq_of_beq_eq_true e2
        have q3 := sameL_eq (sameV_eq 3) _ _ e3
        subst q1 q2 q3 h
        exact h1
    | grow => exact ih h
    | idx => exact ih h
    | get => exact ih h
    | off => exact ih h
    | keq => exact ih h
    | mk => exact ih h
theorem findMk_ok : ∀ (l : List LEnt) (n : Value) (sz : Nat) (z : List Value) (q : Nat × Nat), LsOk l → findMk l n sz z = some q → LOk (.mk n sz z q.1 q.2)
  | [], _, _, _, _, _, h => nomatch h
  | x :: l, n0, sz0, z0, q0, ⟨h1, h2⟩, h => by
    have ih := findMk_ok l n0 sz0 z0 q0 h2
    cases x with
    | mk n sz z k' s' =>
      simp only [findMk] at h
      cases e1 : sameV 3 n n0 with
      | false => rw [e1] at h; exact ih h
      | true =>
      cases e2 : Nat.beq sz sz0 with
      | false => rw [e1, e2] at h; exact ih h
      | true =>
      cases e3 : sameL (sameV 3) z z0 with
      | false => rw [e1, e2, e3] at h; exact ih h
      | true =>
        rw [e1, e2, e3] at h
        injection h with h
        have q1 := sameV_eq 3 _ _ e1
        have q2 := Nat.eq_of_beq_eq_true e2
        have q3 := sameL_eq (sameV_eq 3) _ _ e3
        subst q1 q2 q3 h
        exact h1
    | grow => exact ih h
    | idx => exact ih h
    | get => exact ih h
    | off => exact ih h
    | keq => exact ih h
    | put => exact ih h
/-! ### append -/
theorem VRel.lst_inv {γ : Gam} {id s : Nat} {v' : Value} (h : VRel γ (.pointer (some ⟨id, s, some 2⟩)) v') :
    (∃ B O C n, γ id = some (B, O, C) ∧ Rho.val s = .int .i64 (n : Nat) ∧ n ≤ C ∧ v' = .slice (some ⟨B, O, none⟩) n C) ∨ (Rho.val s = .int .i64 0 ∧ v' = .slice none 0 0) := by
  cases h with
  | lsl s n h hs hn => exact .inl ⟨_, _, _, n, h, hs, hn, rfl⟩
  | lsn id s hs => exact .inr ⟨hs, rfl⟩
theorem VRel.lsp_inv {γ : Gam} {id r : Nat} {v' : Value} (h : VRel γ (.pointer (some ⟨id, r, some 3⟩)) v') :
    ∃ B O C m, γ id = some (B, O, C) ∧ Rho.val r = .int .i64 (m : Nat) ∧ v' = .pointer (some ⟨B, O + m, none⟩) := by
  cases h with
  | lsp r m h hr => exact ⟨_, _, _, m, h, hr, rfl⟩
def lAppend {β : Type} (e : Env) (T : Tm) (s : St) (id sy : Nat) (y : Operand) (t tx : TypeId) (k : K β) : Option β :=
  match e.tyOf t with
  | some i => match i.desc with
    | .slice el => match e.tyOf el with
      | some te => match te.zero with
        | some z => cond (Nat.beq z.cells.toList.length te.size) (cond (Nat.blt te.bytes 1048576) (match srcOf e T s tx y te.size with
          | some (m, news) => cond (Nat.blt 0 m) (match s.at id with
            | .lst kk t' sz => cond (Nat.beq t' el) (cond (Nat.beq sz te.size) (cond (Nat.blt id s.next) (match e.grow kk sy m sz news with
                | some (k', s') => s.putK id .dead fun s1 => s1.newK (.lst k' el sz) fun id' s2 => k (.pointer (some ⟨id', s', some 2⟩)) s2
                | none => none) none) none) none
            | _ => none) none
          | none => none) none) none
        | none => none
      | none => none
    | _ => none
  | none => none
/-- A new list. -/
theorem Step.newList {γ : Gam} {h : Hp} {w : World} {id k t sz C : Nat} {arr : Array Value} (hs : Sat γ h w) (hg : γ id = none) (hr : C * sz ≤ arr.size) (hl : (Rho.lst k).length ≤ C * sz)
    (hc : ∀ i (h : i < (Rho.lst k).length), arr[i]? = some (Rho.lst k)[i]) (d : Nat) :
    Step id (id + 1) γ h w (γ.add id (w.heap.size, 0, C)) (fun j => if j = id then .lst k t sz else h j) { w with heap := w.heap.push (.cells arr t (0, 0)), drawn := d } := by
  refine Step.ofNew hs hg (by simp) (fun B hB => ?_) rfl rfl rfl ?_
  · simp only [Array.getElem?_push]
    rw [if_neg (by omega)]
  · exact .inr ⟨_, 0, C, arr, Gam.add_same γ id _, by simp, by simpa using hr, hl, fun i hi => by rw [Nat.zero_add]; exact hc i hi⟩
theorem lAppend_ok {β : Type} {P : Program} {e : Env} (he : Env.Ok P e) {T : Tm} {s : St} {o : Oper} {x y : Operand} {t tx : TypeId} {id sy : Nat} {k : K β} {r : β} (ho : o.op = .call ⟨.builtin .append, #[x, y], #[t, tx]⟩)
    (hx : aev T x = some (.pointer (some ⟨id, sy, some 2⟩))) (h : lAppend e T s id sy y t tx k = some r) (hw : s.Wf) : ∃ v s', k v s' = some r ∧ Raw s s' ∧ HOk P o T s s' v := by
  unfold lAppend at h
  split at h
  case h_2 => cases h
  rename_i i hi
  split at h
  case h_2 => cases h
  rename_i el hd
  split at h
  case h_2 => cases h
  rename_i te hte
  split at h
  case h_2 => cases h
  rename_i z hz
  cases h1 : Nat.beq z.cells.toList.length te.size with
  | false => simp only [h1, cond_false] at h; cases h
  | true =>
  cases h2 : Nat.blt te.bytes 1048576 with
  | false => simp only [h1, h2, cond_true, cond_false] at h; cases h
  | true =>
  simp only [h1, h2, cond_true] at h
  have hzs : z.cells.size = te.size := by simpa using Nat.eq_of_beq_eq_true h1
  have hby : te.bytes < 1048576 := Nat.le_of_ble_eq_true h2
  have hu := (he.ty t i hi).1
  rw [hd] at hu
  obtain ⟨_, ie, hie, hies, hieb, hiez⟩ := he.ty el te hte
  have hiez' : ie.zero = some z := hiez.trans hz
  split at h
  case h_2 => cases h
  rename_i m news hsrc
  rw [← hies] at hsrc
  have fits : ∀ {old need : Nat}, old < need → need < 1048576 → Builtin.nextslicecap need old * ie.bytes ≤ 281474976710656 := fun {old need} ho hn =>
    growslice_fits ho (by rw [hieb]; have : need * te.bytes ≤ 1048576 * 1048576 := Nat.mul_le_mul (by omega) (by omega); omega)
  cases h3 : Nat.blt 0 m with
  | false => simp only [h3, cond_false] at h; cases h
  | true =>
  simp only [h3, cond_true] at h
  have h3' : 0 < m := Nat.le_of_ble_eq_true h3
  split at h
  case h_2 => cases h
  rename_i kk t' sz hb
  cases h4 : Nat.beq t' el with
  | false => simp only [h4, cond_false] at h; cases h
  | true =>
  cases h5 : Nat.beq sz te.size with
  | false => simp only [h4, h5, cond_true, cond_false] at h; cases h
  | true =>
  cases h6 : Nat.blt id s.next with
  | false => simp only [h4, h5, h6, cond_true, cond_false] at h; cases h
  | true =>
  simp only [h4, h5, h6, cond_true] at h
  have h4' := Nat.eq_of_beq_eq_true h4
  have h5' := Nat.eq_of_beq_eq_true h5
  have h6' : id < s.next := Nat.le_of_ble_eq_true h6
  subst h4' h5'
  split at h
  case h_2 => cases h
  rename_i k' s1 hfind
  obtain ⟨hcl, hml, n, hv, hv', hkl, hk', hnm⟩ := he.grow kk sy m te.size news (k', s1) hfind
  simp only at hv' hk'
  obtain ⟨sa, hk1, hraw1, hn1, hat1⟩ := St.putK_inv h hw (St.sees_of_at hb (by simp)) h6'
  obtain ⟨sb, hk2, hraw2, hn2, hd2, hat2⟩ := St.newK_inv hk1 hraw1.wf
  rw [hn1] at hk2
  refine ⟨_, sb, hk2, hraw1.trans hraw2, fun γ mt a w hT hS hf => ?_⟩
  have hgn := hf s.next (Nat.le_refl _) (by omega)
  have hne : id ≠ s.next := by omega
  have hat : sb.at = fun j => if j = s.next then AB.lst k' t' te.size else if j = id then .dead else s.at j := by rw [hat2, hat1, hn1]
  obtain ⟨hl, news', hrel, hs⟩ := srcOf_ok (P := P) he hsrc hT hS
  have hnews : news' = dens 3 news := closed_eqs γ 3 _ _ hcl hrel
  have hnl : news'.length = m * te.size := by rw [hs.newsLen, hies]
  have hlk : (Rho.lst k').length = (n + m) * te.size := by rw [hk', List.length_append, hkl, ← hnews, hnl, Nat.add_mul]
  rw [hn2, hn1, hat]
  -- a new row
  have fresh : ∀ (sCap : Nat), sCap < n + m → ∃ γ', Step s.next (s.next + 1) γ s.at w γ' (fun j => if j = s.next then AB.lst k' t' te.size else if j = id then .dead else s.at j)
      (w.drew.alloc (.cells ((Rho.lst kk ++ news').toArray ++ Builtin.zeroCells z.cells (grownCap w (n + m) sCap t' - (n + m))) t')) ∧
      VRel γ' (.pointer (some ⟨s.next, s1, some 2⟩)) (.slice (some ⟨w.heap.size, 0, none⟩) (n + m) (grownCap w (n + m) sCap t')) := by
    intro sCap hcap
    have hG := grownCap_le w (n + m) sCap t'
    have hsz : ((Rho.lst kk ++ news').toArray ++ Builtin.zeroCells z.cells (grownCap w (n + m) sCap t' - (n + m))).size = grownCap w (n + m) sCap t' * te.size := by
      simp only [Array.size_append, size_zeroCells, List.size_toArray, List.length_append, hkl, hnl, hzs, ← Nat.add_mul]
      congr 1
      omega
    have st1 : Step s.next (s.next + 1) γ s.at w (γ.add s.next (w.heap.size, 0, grownCap w (n + m) sCap t')) (fun j => if j = s.next then AB.lst k' t' te.size else s.at j)
        (w.drew.alloc (.cells ((Rho.lst kk ++ news').toArray ++ Builtin.zeroCells z.cells (grownCap w (n + m) sCap t' - (n + m))) t')) :=
      Step.newList hS hgn (by rw [hsz]; exact Nat.le_refl _) (by rw [hlk]; exact Nat.mul_le_mul_right _ hG) (fun j hj => by
        have hj' : j < (Rho.lst kk ++ news').length := by rw [hk', ← hnews] at hj; exact hj
        have e2 : (Rho.lst k')[j] = (Rho.lst kk ++ news')[j] := by simp only [hk', hnews]
        rw [Array.getElem?_append_left (by simpa using hj'), e2]
        simp only [List.getElem?_toArray, List.getElem?_eq_getElem hj']) (w.drawn + 1)
    have st2 := st1.kill id
    refine ⟨_, ?_, VRel.lsl s1 (n + m) (Gam.add_same γ s.next _) hv' hG⟩
    have e1 : (fun j => if j = id then AB.dead else if j = s.next then AB.lst k' t' te.size else s.at j) = (fun j => if j = s.next then AB.lst k' t' te.size else if j = id then .dead else s.at j) := by
      funext j
      by_cases q1 : j = id <;> by_cases q2 : j = s.next <;> simp [q1, q2, hne]
      omega
    rw [← e1]
    exact st2
  rcases (aev_rel hT hx).lst_inv with ⟨B, O, C, n', hg, hv2, hnC, hx'⟩ | ⟨hv2, hx'⟩
  · -- a row
    have hn' : n' = n := by rw [hv] at hv2; injection hv2 with _ q; omega
    subst hn'
    have hsb := hS.blk id
    rw [hb] at hsb
    rcases hsb with ⟨_, q⟩ | ⟨B', O', C', arr, hg', ha, hroom, hlen, hc⟩
    · rw [hg] at q; cases q
    rw [hg] at hg'
    cases hg'
    by_cases hfit : n' + m ≤ C
    · -- there is room
      have hmul : n' * te.size + m * te.size ≤ C * te.size := by rw [← Nat.add_mul]; exact Nat.mul_le_mul_right _ hfit
      have hrun := run_append_room_src (P := P) w t tx o.type t' ie hu hie B O n' C (a.eval y) m news' hs hfit
        (fun j hj => by simp only [World.cell?, ha, hies]; simp [show O + n' * te.size + j < arr.size by omega]) (fun j hj => by simp [World.frozen?, ha])
      rw [hies, setCells_row (P := P) ha (by omega) hs.one] at hrun
      refine ⟨γ.add s.next (B, O, C), _, _, ?_, VRel.lsl s1 (n' + m) (Gam.add_same γ s.next (B, O, C)) hv' hfit, .inl (exec_append ho (by rw [hx']; exact hrun))⟩
      refine Step.ofMove hS (by rw [hb]; rfl) hg hgn (by simp) (fun B' hB' => setRow_other w B B' _ hB') rfl rfl rfl ?_
      refine .inr ⟨B, O, C, _, Gam.add_same γ s.next _, setRow_heap w B arr _ t' _ ha, by simp; omega, by rw [hlk]; exact Nat.mul_le_mul_right _ hfit, fun j hj => ?_⟩
      have hj' : j < (Rho.lst kk ++ news').length := by rw [hk', ← hnews] at hj; exact hj
      have e2 : (Rho.lst k')[j] = (Rho.lst kk ++ news')[j] := by simp only [hk', hnews]
      rw [e2]
      simp only [List.length_append, hkl, hnl] at hj'
      simp only [List.getElem?_toArray]
      by_cases hj2 : j < n' * te.size
      · have := hc j (by rw [hkl]; exact hj2)
        rw [List.append_assoc, List.getElem?_append_left (by simp; omega), List.getElem?_take, if_pos (by omega), List.getElem_append_left (by rw [hkl]; exact hj2)]
        simpa using this
      · rw [List.append_assoc, List.getElem?_append_right (by simp; omega), List.getElem?_append_left (by simp; omega), List.getElem_append_right (by rw [hkl]; omega)]
        have e3 : j + O - (List.take (O + n' * te.size) arr.toList).length = j - (Rho.lst kk).length := by simp [hkl]; omega
        rw [Nat.add_comm O j, e3, List.getElem?_eq_getElem]
    · -- it grows
      have hold : (Builtin.firstCells ie.size n' (.slice (some ⟨B, O, none⟩) n' C)).run P w.drew = .ok (Rho.lst kk).toArray w.drew :=
        run_firstCells_some w.drew ie.size n' _ n' C (Rho.lst kk) (by rw [hkl, hies]) (fun j v hj => by
          rw [Addr.add_mid]
          obtain ⟨q1, q2⟩ := List.getElem?_eq_some_iff.1 hj
          have := hc j q1
          have hd : w.drew.heap[B]? = some (.cells arr t' (0, 0)) := ha
          simp [World.cell?, hd, this, q2])
      have hrun := run_append_grow_src (P := P) w t tx o.type t' ie z hu hie hiez' (some ⟨B, O, none⟩) n' C (Rho.lst kk) hold (a.eval y) m news' hs (by omega) (by omega) (fits (by omega) hnm)
      obtain ⟨γ', st, hvr⟩ := fresh C (by omega)
      exact ⟨γ', _, _, st, hvr, .inl (exec_append ho (by rw [hx']; exact hrun))⟩
  · -- nil
    have hn0 : n = 0 := by rw [hv] at hv2; injection hv2 with _ q; omega
    subst hn0
    have hnil : Rho.lst kk = [] := List.length_eq_zero_iff.1 (by rw [hkl]; simp)
    have hrun := run_append_grow_src (P := P) w t tx o.type t' ie z hu hie hiez' none 0 0 [] (by simp [Builtin.firstCells]) (a.eval y) m news' hs (by omega) (by omega) (fits (by omega) (by omega))
    obtain ⟨γ', st, hvr⟩ := fresh 0 (by omega)
    rw [hnil] at st
    exact ⟨γ', _, _, st, hvr, .inl (exec_append ho (by rw [hx']; exact hrun))⟩
/-! ### a store into a list; a list made -/
def lStore {β : Type} (e : Env) (T : Tm) (s : St) (id r : Nat) (t : TypeId) (y : Operand) (k : K β) : Option β :=
  match aev T y, e.tyOf t with
  | some v, some i => match s.at id with
    | .lst kk t' sz => cond (Nat.beq v.cells.toList.length i.size) (cond (one' v.cells.toList) (cond (Nat.blt id s.next) (match e.putL kk r v.cells.toList with
      | some k' => s.putK id (.lst k' t' sz) fun s' => k undef s'
      | none => none) none) none) none
    | _ => none
  | _, _ => none
theorem lStore_ok {β : Type} {P : Program} {e : Env} (he : Env.Ok P e) {T : Tm} {s : St} {o : Oper} {t : TypeId} {x y : Operand} {id r : Nat} {k : K β} {rr : β} (ho : o.op = .store t x y)
    (hx : aev T x = some (.pointer (some ⟨id, r, some 3⟩))) (h : lStore e T s id r t y k = some rr) (hw : s.Wf) : ∃ v s', k v s' = some rr ∧ Raw s s' ∧ HOk P o T s s' v := by
  unfold lStore at h
  split at h
  case h_2 => cases h
  rename_i v i hy hi
  split at h
  case h_2 => cases h
  rename_i kk t' sz hb
  cases h1 : Nat.beq v.cells.toList.length i.size with
  | false => simp only [h1, cond_false] at h; cases h
  | true =>
  cases h2 : one' v.cells.toList with
  | false => simp only [h1, h2, cond_true, cond_false] at h; cases h
  | true =>
  cases h4 : Nat.blt id s.next with
  | false => simp only [h1, h2, h4, cond_true, cond_false] at h; cases h
  | true =>
  simp only [h1, h2, h4, cond_true] at h
  split at h
  case h_2 => cases h
  rename_i k' hput
  have h1' := Nat.eq_of_beq_eq_true h1
  have h4' : id < s.next := Nat.le_of_ble_eq_true h4
  obtain ⟨hcl, m, hv, hml, hk'⟩ := he.putL kk r _ k' hput
  obtain ⟨s', hk, hraw, hn, hat⟩ := St.putK_inv h hw (St.sees_of_at hb (by simp)) h4'
  refine ⟨_, s', hk, hraw, fun γ n a w hT hS hf => ?_⟩
  obtain ⟨B, O, C, m2, hg, hv2, hx'⟩ := (aev_rel hT hx).lsp_inv
  have hm : m2 = m := by rw [hv] at hv2; injection hv2 with _ q; omega
  subst hm
  have hsb := hS.blk id
  rw [hb] at hsb
  rcases hsb with ⟨_, q⟩ | ⟨B', O', C', arr, hg', ha, hroom, hlen, hc⟩
  · rw [hg] at q; cases q
  rw [hg] at hg'; cases hg'
  obtain ⟨hdesc, j, hj, hjs, _, _⟩ := he.ty t i hi
  have hvr := (aev_rel hT hy).cells
  have hce := closed_eqs γ 3 _ _ hcl hvr
  have hdl : (dens 3 v.cells.toList).length = v.cells.toList.length := by simp [dens]
  have hst := run_storeCells_at P B (O + m2) t' (a.eval y).cells.toList 0 arr w ha (by have := hvr.1; omega) (one'_rel hvr h2)
  rw [hce] at hst
  have hl' : (Rho.lst k').length = (Rho.lst kk).length := by rw [hk']; simp [dens]; simp at hml; omega
  refine ⟨γ, w.setRow B (arr.toList.take (O + m2) ++ dens 3 v.cells.toList ++ arr.toList.drop (O + m2 + (dens 3 v.cells.toList).length)).toArray, undef, ?_, .tuple _ _ rfl (fun i h1 _ => by simp at h1), .inr ⟨rfl, rfl, ?_⟩⟩
  · rw [hn, hat]
    refine Step.ofPut hS (by rw [hb]; rfl) hg (by simp) (fun B' hB' => setRow_other w B B' _ hB') rfl rfl rfl ?_
    refine .inr ⟨B, O, C, _, hg, setRow_heap w B arr _ t' _ ha, by simp [hdl]; omega, by rw [hl']; exact hlen, fun i hi' => ?_⟩
    have hi2 : i < (Rho.lst kk).length := by rw [← hl']; exact hi'
    rw [← List.getElem?_eq_getElem hi', hk']
    simp only [List.getElem?_toArray, List.append_assoc, List.getElem?_append, List.getElem?_take, List.getElem?_drop, List.length_take, Array.length_toList, hdl]
    have hvl : v.cells.toList.length = v.cells.size := Array.length_toList
    generalize v.cells.size = vl at *
    rw [hvl] at hml
    have e1 : min (O + m2) arr.size = O + m2 := by omega
    have e2 : min m2 (Rho.lst kk).length = m2 := by omega
    simp only [e1, e2]
    have this := hc i hi2
    rw [← List.getElem?_eq_getElem hi2, ← Array.getElem?_toList] at this
    by_cases q1 : i < m2
    · simp only [q1, show O + i < O + m2 by omega, if_true]
      exact this
    · by_cases q2 : i - m2 < vl
      · simp only [q1, q2, show ¬ O + i < O + m2 by omega, if_false, show O + i - (O + m2) = i - m2 by omega, if_true]
      · simp only [q1, q2, show ¬ O + i < O + m2 by omega, if_false, show O + i - (O + m2) = i - m2 by omega, show O + m2 + vl + (i - m2 - vl) = O + i by omega, show m2 + vl + (i - m2 - vl) = i by omega]
        exact this
  · have hsz2 : (a.eval y).cells.size = j.size := by rw [hjs, ← h1', hvr.1]; simp
    simp only [Nat.add_zero] at hst
    simp only [execOp, ho, hx']
    simp [Instr.storeAt, Instr.sureAddr, storeVar, sizeOf, typeInfo, hj, hsz2, hce, hst]
omit [Rho] in
theorem zrep_flat (z : List Value) : ∀ n, zrep n z = (List.replicate n z).flatten
  | 0 => rfl
  | n + 1 => by simp [zrep, zrep_flat z n, List.replicate_succ]
def lMake {β : Type} (e : Env) (s : St) (sy : Nat) (t : TypeId) (k : K β) : Option β :=
  match e.tyOf t with
  | some i => match i.desc with
    | .slice el => match e.tyOf el with
      | some te => match te.zero with
        | some z => cond (plain 8 z) (cond (Nat.beq z.cells.toList.length te.size) (cond (Nat.blt te.bytes 1048576) (match e.mkL (.chan (some sy)) te.size z.cells.toList with
            | some (k', s') => s.newK (.lst k' el te.size) fun id s2 => k (.pointer (some ⟨id, s', some 2⟩)) s2
            | none => none) none) none) none
        | none => none
      | none => none
    | _ => none
  | none => none
theorem lMake_ok {β : Type} {P : Program} {e : Env} (he : Env.Ok P e) {T : Tm} {s : St} {o : Oper} {t : TypeId} {x y : Operand} {sy : Nat} {k : K β} {r : β} (ho : o.op = .makeSlice t x y)
    (hx : aev T x = some (.chan (some sy))) (hy : aev T y = some (.chan (some sy))) (h : lMake e s sy t k = some r) (hw : s.Wf) : ∃ v s', k v s' = some r ∧ Raw s s' ∧ HOk P o T s s' v := by
  unfold lMake at h
  split at h
  case h_2 => cases h
  rename_i i hi
  split at h
  case h_2 => cases h
  rename_i el hd
  split at h
  case h_2 => cases h
  rename_i te hte
  split at h
  case h_2 => cases h
  rename_i z hz
  cases h1 : plain 8 z with
  | false => simp only [h1, cond_false] at h; cases h
  | true =>
  cases h2 : Nat.beq z.cells.toList.length te.size with
  | false => simp only [h1, h2, cond_true, cond_false] at h; cases h
  | true =>
  cases h5 : Nat.blt te.bytes 1048576 with
  | false => simp only [h1, h2, h5, cond_true, cond_false] at h; cases h
  | true =>
  simp only [h1, h2, h5, cond_true] at h
  split at h
  case h_2 => cases h
  rename_i k' s1 hmk
  have h2' := Nat.eq_of_beq_eq_true h2
  have h5' : te.bytes < 1048576 := Nat.le_of_ble_eq_true h5
  obtain ⟨_, c, q, hden, hc, _, hs', hk'⟩ := he.mkL _ _ _ _ hmk
  simp only at hs' hk'
  obtain ⟨s', hk, hraw, hn, hd0, hat⟩ := St.newK_inv h hw
  refine ⟨_, s', hk, hraw, fun γ n a w hT hS hf => ?_⟩
  have hg := hf s.next (Nat.le_refl _) (by omega)
  have hval : Rho.val sy = .int q (c : Nat) := hden
  have hxr := aev_rel hT hx
  have hyr := aev_rel hT hy
  have hx' : a.eval x = .int q (c : Nat) := by rw [← hval]; generalize a.eval x = v at hxr; cases hxr; rfl
  have hy' : a.eval y = .int q (c : Nat) := by rw [← hval]; generalize a.eval y = v at hyr; cases hyr; rfl
  have hu := ok_underlying he hi w
  rw [hd] at hu
  obtain ⟨j, hj, hjp, hjs, hjb, hjz⟩ := ok_bytes he hte w
  have hzs : z.cells.size = te.size := by simpa using h2'
  have hz' := ok_zero he hte hz w
  have harr := zrep_array c z.cells
  have hlen : ((Array.range (c * te.size)).map (fun i => z.cells[i % z.cells.size]!)).toList = zrep c z.cells.toList := by rw [← hzs]; exact harr
  have hll : (Rho.lst k').length = c * te.size := by rw [hk', ← zrep_flat, zrep_len, h2']
  refine ⟨γ.add s.next (w.heap.size, 0, c), { w with heap := w.heap.push (.cells ((Array.range (c * te.size)).map (fun i => z.cells[i % z.cells.size]!)) el (0, 0)), drawn := w.drawn }, .slice (some ⟨w.heap.size, 0, none⟩) c c, ?_, VRel.lsl s1 c (Gam.add_same γ s.next _) hs' (Nat.le_refl _), .inl ?_⟩
  · rw [hn, hat]
    refine Step.newList hS hg (by simp) (by rw [hll]; exact Nat.le_refl _) (fun i hi' => ?_) _
    rw [← Array.getElem?_toList, hlen, ← List.getElem?_eq_getElem hi', hk', zrep_flat]
  · have e1 : IntKind.i64.wrap (c : Int) = (c : Int) := wrap_small (n := c) (by rw [two40]; omega)
    have hmul : te.bytes * c ≤ 1048576 * 1048576 := Nat.mul_le_mul (by omega) (by omega)
    have e3 : ¬ ((c : Int) < 0) := by omega
    have e4 : ¬ ((2 : Int) ^ 48 < (te.bytes : Int) * (c : Int)) := by
      have : ((te.bytes * c : Nat) : Int) = (te.bytes : Int) * (c : Int) := by simp
      rw [← this]
      have : (2 : Int) ^ 48 = 281474976710656 := by decide
      omega
    have e6 : ¬ ((c : Int) > (c : Int)) := by omega
    have hcond : (((decide ((c : Int) < 0) || decide ((te.bytes : Int) * (c : Int) > 2 ^ 48)) || decide ((c : Int) < 0)) || decide ((c : Int) > (c : Int))) = false := by
      simp only [e3, e6, gt_iff_lt, e4, decide_false, Bool.or_false]
    by_cases hc0 : c * te.size = 0
    · simp only [execOp, ho, Instr.makeSlice, hx', hy', asInt, asIntOf, Sem.run_bind, Sem.run_pure, hu, Result.andThen_ok, hj, e1, hjb]
      rw [if_neg (by rw [hcond]; simp)]
      have hrng : ∀ f g : Nat → Value, (Array.range (c * te.size)).map f = (Array.range (c * te.size)).map g := by intro f g; rw [hc0]; simp
      rw [hrng (fun i => z.cells[i % z.cells.size]!) (fun i => (#[] : Array Value)[i % (#[] : Array Value).size]!)]
      simp [ok_sizeOf he hte, hc0, newRow]
    · simp only [execOp, ho, Instr.makeSlice, hx', hy', asInt, asIntOf, Sem.run_bind, Sem.run_pure, hu, Result.andThen_ok, hj, e1, hjb]
      rw [if_neg (by rw [hcond]; simp)]
      simp [ok_sizeOf he hte, hc0, hz', newRow]
/-! ### what touches no memory, or reads -/
/-- The length of a list, the place of an element, of a field, an element's cells. -/
def lstOp (e : Env) (T : Tm) (s : St) (op : Op) : Option Value := match op with
  | .call ⟨.builtin .len, ⟨[x]⟩, ⟨[t]⟩⟩ => match aev T x, e.tyOf t with
    | some (.pointer (some ⟨_, sy, some 2⟩)), some i => match i.desc with
      | .slice _ => some (.chan (some sy))
      | _ => none
    | _, _ => none
  | .indexAddr t x i => match aev T x, aev T i, e.tyOf t with
    | some (.pointer (some ⟨id, sy, some 2⟩)), some j, some ti => match ti.desc with
      | .slice el => match e.tyOf el with
        | some te => match e.idx sy j te.size with
          | some r => some (.pointer (some ⟨id, r, some 3⟩))
          | none => none
        | none => none
      | _ => none
    | _, _, _ => none
  | .fieldAddr t x f => match aev T x, e.tyOf t with
    | some (.pointer (some ⟨id, r, some 3⟩)), some ti => match ti.desc with
      | .struct fields => match fields.toList[f]? with
        | some fl => match e.tyOf fl.type with
          | some j => cond (Nat.beq j.size 0) none (match e.offL r fl.offset with
            | some r' => some (.pointer (some ⟨id, r', some 3⟩))
            | none => none)
          | none => none
        | none => none
      | _ => none
    | _, _ => none
  | .load t x => match aev T x, e.tyOf t with
    | some (.pointer (some ⟨id, r, some 3⟩)), some ti => match s.at id with
      | .lst kk _ _ => match e.getL kk r ti.size t with
        | some vs => partL ti vs 0
        | none => none
      | _ => none
    | _, _ => none
  | _ => none
theorem dens_get {l : List Value} {j : Nat} : (dens 3 l)[j]? = (l[j]?).map (den 3) := by simp [dens]
theorem lstOp_ok {P : Program} {e : Env} (he : Env.Ok P e) {T : Tm} {s : St} {o : Oper} {v : Value} (h : lstOp e T s o.op = some v) {γ : Gam} {n : Nat} {a : Act} (hT : TRel γ T n a.tmps) {w : World} (hS : Sat γ s.at w) :
    ∃ v', VRel γ v v' ∧ (execOp a.eval o).run P w = .ok (.value v') w := by
  obtain ⟨dst, op, type, pos, after, guard⟩ := o
  simp only at h
  unfold lstOp at h
  split at h
  · -- len
    rename_i x t
    split at h
    case h_2 => cases h
    rename_i id sy i hx hi
    split at h
    case h_2 => cases h
    rename_i el hd
    injection h with h
    subst h
    have hu := (he.ty t i hi).1
    rw [hd] at hu
    refine ⟨_, .sym sy, ?_⟩
    rcases (aev_rel hT hx).lst_inv with ⟨B, O, C, m, hg, hv, hm, hx'⟩ | ⟨hv, hx'⟩
    · simp [execOp, resolve, invoke, builtin, hx', Builtin.len_, run_underlying hu, goInt, hv]
    · simp [execOp, resolve, invoke, builtin, hx', Builtin.len_, run_underlying hu, goInt, hv]
  · -- an element's place
    rename_i t x i
    split at h
    case h_2 => cases h
    rename_i id sy j ti hx hj hti
    split at h
    case h_2 => cases h
    rename_i el hd
    split at h
    case h_2 => cases h
    rename_i te hte
    split at h
    case h_2 => cases h
    rename_i r hr
    injection h with h
    subst h
    obtain ⟨hcl, n', m, q, hv, hden, hmn, hvr⟩ := he.idx sy j te.size r hr
    have hu := (he.ty t ti hti).1
    rw [hd] at hu
    have hj' := closed_eq γ 3 _ _ hcl (aev_rel hT hj)
    rw [hden] at hj'
    rcases (aev_rel hT hx).lst_inv with ⟨B, O, C, m2, hg, hv2, hm, hx'⟩ | ⟨hv2, hx'⟩
    · have hn' : m2 = n' := by rw [hv] at hv2; injection hv2 with _ q; omega
      subst hn'
      refine ⟨_, .lsp r (m * te.size) hg hvr, ?_⟩
      have hsz := ok_sizeOf he hte w
      simp only [execOp, Sem.run_bind, hx', hj', Instr.indexAt, asIntOf, Sem.run_pure, Result.andThen_ok, run_underlying hu]
      simp [hmn, hsz, Addr.add_mid]
    · rw [hv] at hv2; injection hv2 with _ q; omega
  · -- a field's place
    rename_i t x f
    split at h
    case h_2 => cases h
    rename_i id r ti hx hti
    split at h
    case h_2 => cases h
    rename_i fields hd
    split at h
    case h_2 => cases h
    rename_i fl hfl
    split at h
    case h_2 => cases h
    rename_i j hj
    cases hz : Nat.beq j.size 0 with
    | true => simp only [hz, cond_true] at h; cases h
    | false =>
    simp only [hz, cond_false] at h
    split at h
    case h_2 => cases h
    rename_i r' hr'
    injection h with h
    subst h
    obtain ⟨m, hv, hv'⟩ := he.offL r fl.offset r' hr'
    obtain ⟨B, O, C, m2, hg, hv2, hx'⟩ := (aev_rel hT hx).lsp_inv
    have hm : m2 = m := by rw [hv] at hv2; injection hv2 with _ q; omega
    subst hm
    refine ⟨_, .lsp r' (m2 + fl.offset) hg hv', ?_⟩
    have hu := ok_underlying he hti w
    rw [hd] at hu
    have hsz := ok_sizeOf he hj w
    have hz' := Nat.ne_of_beq_eq_false hz
    have hfl' : fields[f]? = some fl := by simpa using hfl
    have hpl : (fieldPlace ⟨B, O + m2, none⟩ fl).run P w = .ok ⟨B, O + m2 + fl.offset, none⟩ w := by simp [fieldPlace, hsz, hz', Addr.add_mid]
    simp [execOp, hx', Instr.fieldAt, hu, hfl', Instr.sureAddr, hpl, Nat.add_assoc]
  · -- an element
    rename_i t x
    split at h
    case h_2 => cases h
    rename_i id r ti hx hti
    split at h
    case h_2 => cases h
    rename_i kk t' sz hb
    split at h
    case h_2 => cases h
    rename_i vs hvs
    obtain ⟨hlen, hcl, m, hv, hget⟩ := he.getL kk r ti.size t vs hvs
    obtain ⟨B, O, C, m2, hg, hv2, hx'⟩ := (aev_rel hT hx).lsp_inv
    have hm : m2 = m := by rw [hv] at hv2; injection hv2 with _ q; omega
    subst hm
    have hsb := hS.blk id
    rw [hb] at hsb
    rcases hsb with ⟨_, q⟩ | ⟨B', O', C', arr, hg', ha, hroom, hll, hc⟩
    · rw [hg] at q; cases q
    rw [hg] at hg'
    cases hg'
    have hcell : ∀ j v, (dens 3 vs)[j]? = some v → w.cell? ⟨B, O + m2 + j, none⟩ = some v := by
      intro j v hj
      have hjl : j < vs.length := by
        have := (List.getElem?_eq_some_iff.1 hj).1
        simpa [dens] using this
      have h1 := hget j hjl
      rw [hj] at h1
      obtain ⟨q1, q2⟩ := List.getElem?_eq_some_iff.1 h1
      have h2 := hc (m2 + j) q1
      simp [World.cell?, ha, Nat.add_assoc, h2, q2]
    obtain ⟨hdesc, j, hj, hjs, _, _⟩ := he.ty t ti hti
    unfold partL at h
    cases hag : isAggD ti.desc with
    | true =>
      simp only [hag, cond_true] at h
      injection h with h
      have htake : (vs.drop 0).take ti.size = vs := by rw [List.drop_zero, List.take_of_length_le (by omega)]
      rw [htake] at h
      subst h
      have hrel : LRel γ vs (dens 3 vs) := ⟨by simp [dens], fun i h1 h2 => by
        have := closed_rel γ 3 vs[i] (List.all_eq_true.1 hcl _ (List.getElem_mem h1))
        simpa [dens] using this⟩
      refine ⟨_, VRel.aggOf hrel, ?_⟩
      have hrow : ti.desc.isRow = true := by cases hd : ti.desc <;> simp [hd, isAggD] at hag <;> rfl
      simp [execOp, hx', run_loadAt_mid w B (O + m2) t (dens 3 vs) ti.desc hcell hdesc hrow (by simp [hj, hjs, dens, hlen])]
    | false =>
      simp only [hag, cond_false] at h
      have hq : (dens 3 vs)[0]? = some (den 3 v) := by rw [dens_get, h]; rfl
      have hv0 : closed 3 v = true := by
        obtain ⟨q1, q2⟩ := List.getElem?_eq_some_iff.1 h
        rw [← q2]; exact List.all_eq_true.1 hcl _ (List.getElem_mem q1)
      have hc0 := hcell 0 _ hq
      simp only [Nat.add_zero] at hc0
      refine ⟨_, closed_rel γ 3 v hv0, ?_⟩
      simp [execOp, hx', Instr.loadAt, Instr.sureAddr, loadVar, ok_isAgg he hti, hag, hc0]
  · cases h
end Go.Ev
namespace Go.Ev
open Go Go.RowKit
variable [Rho]
def hCopy {β : Type} (e : Env) (T : Tm) (s : St) (x y : Operand) (t : TypeId) (k : K β) : Option β :=
  match e.tyOf t, aev T x, aev T y with
  | some i, some (.slice (some ⟨b, o, none⟩) dl _), some (.slice (some ⟨b2, o2, none⟩) n _) => match i.desc with
    | .slice el => match e.tyOf el, s.at b, s.at b2 with
      | some te, .cells cs t' room ro, .cells c2 _ _ _ => cond ro none (cond (Nat.blt b s.next) (forceNat (Nat.min n dl) fun m => cond (Nat.ble (o2 + m * te.size) c2.length) (cond (Nat.ble (o + m * te.size) cs.length)
          (takeK (m * te.size) (dropL o2 c2) fun l => cond (one' l) (setSegK cs o l fun cs' => s.putK b (.cells cs' t' room false) fun s' => k (.int .i64 m) s') none) none) none) none)
      | _, _, _ => none
    | _ => none
  | some i, some (.slice _ _ _), some (.slice none 0 _) => match i.desc with
    | .slice el => match e.tyOf el with
      | some _ => k (.int .i64 0) s
      | none => none
    | _ => none
  | _, _, _ => none
omit [Rho] in
theorem exec_copy {P : Program} {a : Act} {o : Oper} {x y : Operand} {t tx : TypeId} (ho : o.op = .call ⟨.builtin .copy, #[x, y], #[t, tx]⟩) {w w' : World} {v : Value}
    (h : (Builtin.copy_ #[t, tx] o.type #[a.eval x, a.eval y]).run P w = .ok v w') : (execOp a.eval o).run P w = .ok (.value v) w' := by
  simp [execOp, ho, resolve, invoke, builtin, h]
theorem hCopy_ok {β : Type} {P : Program} {e : Env} (he : Env.Ok P e) {T : Tm} {s : St} {o : Oper} {x y : Operand} {t tx : TypeId} {k : K β} {r : β} (ho : o.op = .call ⟨.builtin .copy, #[x, y], #[t, tx]⟩)
    (h : hCopy e T s x y t k = some r) (hw : s.Wf) : ∃ v s', k v s' = some r ∧ Raw s s' ∧ HOk P o T s s' v := by
  unfold hCopy at h
  split at h
  · rename_i i b off dl dc b2 off2 n c2cap hi hx hy
    split at h
    case h_2 => cases h
    rename_i el hd
    split at h
    case h_2 => cases h
    rename_i te cs t' room ro c2 t2 room2 ro2 hte hb hb2
    cases hro : ro with
    | true => simp only [hro, cond_true] at h; cases h
    | false =>
    cases h1 : Nat.blt b s.next with
    | false => simp only [hro, h1, cond_false] at h; cases h
    | true =>
    simp only [hro, h1, cond_true, cond_false, forceNat_eq] at h
    cases h2 : Nat.ble (off2 + Nat.min n dl * te.size) c2.length with
    | false => simp only [h2, cond_false] at h; cases h
    | true =>
    cases h3 : Nat.ble (off + Nat.min n dl * te.size) cs.length with
    | false => simp only [h2, h3, cond_true, cond_false] at h; cases h
    | true =>
    simp only [h2, h3, cond_true, takeK_eq, dropL_eq, setSegK_eq] at h
    cases h4 : one' ((c2.drop off2).take (Nat.min n dl * te.size)) with
    | false => simp only [h4, cond_false] at h; cases h
    | true =>
      simp only [h4, cond_true] at h
      have h1' : b < s.next := Nat.le_of_ble_eq_true h1
      have h2' := Nat.le_of_ble_eq_true h2
      have h3' := Nat.le_of_ble_eq_true h3
      obtain ⟨s', hk, hraw, hn, hat⟩ := St.putK_inv h hw (St.sees_of_at hb (by simp)) h1'
      refine ⟨_, s', hk, hraw, fun γ m a w hT hS hf => ?_⟩
      obtain ⟨B, O, C, hg, hln, hx'⟩ := (aev_rel hT hx).slice_inv
      obtain ⟨B2, O2, C2, hg2, hln2, hy'⟩ := (aev_rel hT hy).slice_inv
      have hsb := hS.blk b
      rw [hb] at hsb
      obtain ⟨B', O', C', arr, hg', ha, hsz, hc, hr⟩ := hsb.cells_inv
      rw [hg] at hg'; cases hg'
      have hsb2 := hS.blk b2
      rw [hb2] at hsb2
      obtain ⟨B2', O2', C2', arr2, hg2', ha2, hsz2, hc2, _⟩ := hsb2.cells_inv
      rw [hg2] at hg2'; cases hg2'
      obtain ⟨l, hl, hrel, hrange⟩ := row_part ha2 hsz2 hc2 h2'
      have hu := ok_underlying he hi w
      rw [hd] at hu
      have hload := run_firstCells_some (P := P) w te.size (Nat.min n dl) ⟨B2, O2 + off2, none⟩ n (capOf C2 c2cap) l hl (fun j v hj => by rw [Addr.add_mid]; exact hrange j v hj)
      have hst := run_storeCells_at P B (O + off) t' l 0 arr w ha (by omega) (one'_rel hrel h4)
      simp only [Nat.add_zero] at hst
      refine ⟨γ, w.setRow B (arr.toList.take (O + off) ++ l ++ arr.toList.drop (O + off + l.length)).toArray, _, ?_, .int _ _, .inl (exec_copy ho ?_)⟩
      · rw [hn, hat]
        exact Step.ofPut hS (by rw [hb, hro]; rfl) hg (by simp) (fun B' hB' => setRow_other w B B' _ hB') rfl rfl rfl (SatB.setSeg hg ha hsz hc hr hrel (by rw [hrel.1, hl]; exact h3'))
      · simp [Builtin.copy_, hx', hy', hu, Builtin.lenOf, ok_sizeOf he hte, hload, hst, goInt]
  · rename_i i p dl dc c hi hx hy
    split at h
    case h_2 => cases h
    rename_i el hd
    split at h
    case h_2 => cases h
    rename_i te hte
    refine ⟨_, s, h, Raw.refl hw, fun γ m a w hT hS hf => ?_⟩
    have hu := ok_underlying he hi w
    rw [hd] at hu
    have hxr := aev_rel hT hx
    have hyr := aev_rel hT hy
    generalize hx' : a.eval x = x' at hxr
    generalize hy' : a.eval y = y' at hyr
    refine ⟨γ, w, _, Step.refl hS, .int _ _, .inl (exec_copy ho ?_)⟩
    cases hyr
    cases hxr with
    | nilslice => simp [Builtin.copy_, hx', hy', hu, Builtin.lenOf, ok_sizeOf he hte, Builtin.firstCells, goInt]
    | slice => simp [Builtin.copy_, hx', hy', hu, Builtin.lenOf, ok_sizeOf he hte, Builtin.firstCells, goInt, storeCells]
    | slicee => simp [Builtin.copy_, hx', hy', hu, Builtin.lenOf, ok_sizeOf he hte, Builtin.firstCells, goInt, storeCells]
  · cases h
/-! ### maps -/
def hMakeMap {β : Type} (s : St) (r : Option Operand) (k : K β) : Option β :=
  match r with
  | none => s.newK (.map [] 0) fun id s' => k (.map (some id)) s'
  | some _ => none
theorem hMakeMap_ok {β : Type} {P : Program} {T : Tm} {s : St} {o : Oper} {t : TypeId} {x : Option Operand} {k : K β} {r : β} (ho : o.op = .makeMap t x) (h : hMakeMap s x k = some r) (hw : s.Wf) :
    ∃ v s', k v s' = some r ∧ Raw s s' ∧ HOk P o T s s' v := by
  unfold hMakeMap at h
  split at h
  · obtain ⟨s', hk, hraw, hn, hd, hat⟩ := St.newK_inv h hw
    refine ⟨_, s', hk, hraw, fun γ n a w hT hS hf => ?_⟩
    have hg := hf s.next (Nat.le_refl _) (by omega)
    refine ⟨γ.add s.next (w.heap.size, 0, 0), { w with heap := w.heap.push (.map #[] 0), drawn := w.drawn }, _, ?_, .map (Gam.add_same γ s.next (w.heap.size, 0, 0)), .inl ?_⟩
    · rw [hn, hat]
      refine Step.ofNew hS hg (by simp) (fun B hB => by simp only [Array.getElem?_push]; rw [if_neg (by omega)]) rfl rfl rfl ?_
      exact ⟨w.heap.size, 0, 0, #[], Gam.add_same γ s.next _, by simp, rfl, fun i h1 _ => by simp at h1⟩
    · simp [execOp, ho, Instr.makeMap]
  · cases h
def keyKind : TypeDesc → Bool
  | .int _ | .string | .bool => true
  | _ => false
def ERel (γ : Gam) (es : List MapEntry) (es' : List MapEntry) : Prop :=
  es'.length = es.length ∧ ∀ i (h : i < es.length) (h' : i < es'.length), VRel γ es[i].key es'[i].key ∧ VRel γ es[i].val es'[i].val ∧ es[i].born = es'[i].born
theorem sameNow_rel {γ : Gam} {d : TypeDesc} {k x x' : Value} (hx : VRel γ x x') {b : Bool} (h : Instr.sameNow d k x = some b) : x' = x := by
  unfold Instr.sameNow at h
  split at h
  · cases hx; rfl
  · cases hx; rfl
  · cases hx; rfl
  · cases h
theorem findNow_rel {γ : Gam} {d : TypeDesc} {k : Value} : ∀ (es es' : List MapEntry) (i : Nat) (res : Option (Nat × Value)), ERel γ es es' → Instr.findNow d k es i = some res →
    (res = none ∧ Instr.findNow d k es' i = some none) ∨ ∃ j v v' e e', res = some (i + j, v) ∧ VRel γ v v' ∧ es[j]? = some e ∧ es'[j]? = some e' ∧ e.val = v ∧ Instr.sameNow d k e.key = some true ∧ Instr.findNow d k es' i = some (some (i + j, v'))
  | [], [], i, res, _, h => by simp [Instr.findNow] at h; subst h; exact .inl ⟨rfl, rfl⟩
  | [], _ :: _, _, _, h, _ => by have := h.1; simp at this
  | _ :: _, [], _, _, h, _ => by have := h.1; simp at this
  | x :: es, x' :: es', i, res, hr, h => by
    have h0 := hr.2 0 (by simp) (by simp)
    simp only [List.getElem_cons_zero] at h0
    have ht : ERel γ es es' := ⟨by have := hr.1; simpa using this, fun j h1 h2 => hr.2 (j + 1) (Nat.succ_lt_succ h1) (Nat.succ_lt_succ h2)⟩
    simp only [Instr.findNow] at h ⊢
    cases hs : Instr.sameNow d k x.key with
    | none => simp [hs] at h
    | some b =>
      have hk := sameNow_rel h0.1 hs
      rw [hk, hs]
      cases b with
      | true =>
        simp [hs] at h
        subst h
        exact .inr ⟨0, x.val, x'.val, x, x', rfl, h0.2.1, rfl, rfl, rfl, hs, rfl⟩
      | false =>
        simp [hs] at h
        rcases findNow_rel es es' (i + 1) res ht h with ⟨h1, h2⟩ | ⟨j, v, v', e, e', h1, h2, h3, h4, h5, h6, h7⟩
        · exact .inl ⟨h1, h2⟩
        · have e : i + 1 + j = i + (j + 1) := by omega
          rw [e] at h1 h7
          exact .inr ⟨j + 1, v, v', _, e', h1, h2, by simpa using h3, by simpa using h4, h5, h6, h7⟩
theorem SatB.map_inv {γ : Gam} {w : World} {id : Nat} {es : List MapEntry} {clock : Nat} (h : SatB γ w id (.map es clock)) :
    ∃ B O C es', γ id = some (B, O, C) ∧ w.heap[B]? = some (.map es' clock) ∧ ERel γ es es'.toList := by
  obtain ⟨B, O, C, es', h1, h2, h3, h4⟩ := h
  exact ⟨B, O, C, es', h1, h2, by simpa using h3, fun i hi hi' => by simpa using h4 i hi (by simpa using hi')⟩
def isStructD : TypeDesc → Bool
  | .struct _ => true
  | _ => false
/-- May this key be looked up? -/
def keyFit (e : Env) (t : TypeId) (d : TypeDesc) (k : Value) : Bool := cond (keyKind d) true (cond (isStructD d) (e.keyOk t k) false)
def askA (e : Env) (t : TypeId) (k : Value) : List MapEntry → Nat → Option (Option (Nat × Value))
  | [], _ => some none
  | x :: es, i => cond (plain 8 x.key) (match e.keyEq t k x.key with
    | some true => cond (Instr.sameBits 10000 x.key k) (some (some (i, x.val))) none
    | some false => askA e t k es (i + 1)
    | none => none) none
def findA (e : Env) (t : TypeId) (d : TypeDesc) (k : Value) (es : List MapEntry) : Option (Option (Nat × Value)) := cond (keyKind d) (Instr.findNow d k es 0) (askA e t k es 0)
omit [Rho] in
theorem checkKey_plain {P : Program} {t : TypeId} {d : TypeDesc} (hd : P.underlying t = some d) (hk : keyKind d = true) (em : Bool) (v : Value) (w : World) : (Instr.checkKey em 10000 t v).run P w = .ok () w := by
  obtain ⟨n, hn⟩ : ∃ n, 10000 = n + 1 := ⟨9999, rfl⟩
  rw [hn]
  cases d <;> simp [keyKind] at hk <;> simp [Instr.checkKey, run_underlying hd]
theorem checkKey_fit {P : Program} {e : Env} (he : Env.Ok P e) {t : TypeId} {i : TI} (hi : e.tyOf t = some i) {k : Value} (hk : keyFit e t i.desc k = true) (em : Bool) (w : World) : (Instr.checkKey em 10000 t k).run P w = .ok () w := by
  unfold keyFit at hk
  cases h1 : keyKind i.desc with
  | true => exact checkKey_plain (he.ty t i hi).1 h1 em k w
  | false =>
    rw [h1, cond_false] at hk
    cases h2 : isStructD i.desc with
    | false => rw [h2] at hk; cases hk
    | true => rw [h2, cond_true] at hk; exact he.keyOk t k hk em w
omit [Rho] in
theorem bytes_symm (a b : ByteArray) (h : (a == b) = true) : (b == a) = true := by
  obtain ⟨a⟩ := a
  obtain ⟨b⟩ := b
  have h1 : a = b := by
    have h2 : (a == b) = true := h
    exact eq_of_beq h2
  subst h1
  exact h
omit [Rho] in
theorem sameBits_key {d : TypeDesc} {k x : Value} (h : Instr.sameNow d k x = some true) : Instr.sameBits 10000 x k = true := by
  obtain ⟨n, hn⟩ : ∃ n, 10000 = n + 1 := ⟨9999, rfl⟩
  rw [hn]
  unfold Instr.sameNow at h
  split at h
  · split at h
    · rename_i hk
      injection h with h
      have := eq_of_beq h
      subst hk this
      simp [Instr.sameBits]
    · cases h
  · injection h with h
    simp only [Instr.sameBits]
    exact bytes_symm _ _ h
  · injection h with h
    have := eq_of_beq h
    subst this
    simp [Instr.sameBits]
  · cases h
theorem askA_rel {P : Program} {e : Env} (he : Env.Ok P e) {γ : Gam} {t : TypeId} {k : Value} : ∀ (es es' : List MapEntry) (i : Nat) (res : Option (Nat × Value)), ERel γ es es' → askA e t k es i = some res →
    (res = none ∧ ∀ w, (Instr.findAsking t k es' i).run P w = .ok none w) ∨ ∃ j v v' e e', res = some (i + j, v) ∧ VRel γ v v' ∧ es[j]? = some e ∧ es'[j]? = some e' ∧ e.val = v ∧ Instr.sameBits 10000 e'.key k = true ∧ ∀ w, (Instr.findAsking t k es' i).run P w = .ok (some (i + j, v')) w
  | [], [], i, res, _, h => by simp [askA] at h; subst h; exact .inl ⟨rfl, fun w => by simp [Instr.findAsking]⟩
  | [], _ :: _, _, _, h, _ => by have := h.1; simp at this
  | _ :: _, [], _, _, h, _ => by have := h.1; simp at this
  | x :: es, x' :: es', i, res, hr, h => by
    have h0 := hr.2 0 (by simp) (by simp)
    simp only [List.getElem_cons_zero] at h0
    have ht : ERel γ es es' := ⟨by have := hr.1; simpa using this, fun j h1 h2 => hr.2 (j + 1) (Nat.succ_lt_succ h1) (Nat.succ_lt_succ h2)⟩
    simp only [askA] at h
    cases hp : plain 8 x.key with
    | false => rw [hp] at h; cases h
    | true =>
      have hk := plain_eq γ 8 _ _ hp h0.1
      rw [hp, cond_true] at h
      split at h
      · rename_i hq
        cases hb : Instr.sameBits 10000 x.key k with
        | false => rw [hb] at h; cases h
        | true =>
          rw [hb, cond_true] at h
          injection h with h
          subst h
          exact .inr ⟨0, x.val, x'.val, x, x', rfl, h0.2.1, rfl, rfl, rfl, by rw [hk]; exact hb, fun w => by simp [Instr.findAsking, hk, he.keyEq t k x.key true hq w]⟩
      · rename_i hq
        rcases askA_rel he es es' (i + 1) res ht h with ⟨h1, h2⟩ | ⟨j, v, v', e, e', h1, h2, h3, h4, h5, h6, h7⟩
        · exact .inl ⟨h1, fun w => by simp [Instr.findAsking, hk, he.keyEq t k x.key false hq w, h2 w]⟩
        · have e : i + 1 + j = i + (j + 1) := by omega
          rw [e] at h1
          exact .inr ⟨j + 1, v, v', _, e', h1, h2, by simpa using h3, by simpa using h4, h5, h6, fun w => by simp [Instr.findAsking, hk, he.keyEq t k x.key false hq w, h7 w, e]⟩
      · cases h
theorem findA_rel {P : Program} {e : Env} (he : Env.Ok P e) {γ : Gam} {t : TypeId} {i : TI} (hi : e.tyOf t = some i) {k : Value} (hf : keyFit e t i.desc k = true) (es es' : List MapEntry) (res : Option (Nat × Value)) (hr : ERel γ es es') (h : findA e t i.desc k es = some res) :
    (res = none ∧ ∀ w, (Instr.findKey t k es').run P w = .ok none w) ∨ ∃ j v v' e e', res = some (j, v) ∧ VRel γ v v' ∧ es[j]? = some e ∧ es'[j]? = some e' ∧ e.val = v ∧ Instr.sameBits 10000 e'.key k = true ∧ ∀ w, (Instr.findKey t k es').run P w = .ok (some (j, v')) w := by
  unfold findA at h
  cases h1 : keyKind i.desc with
  | true =>
    rw [h1, cond_true] at h
    rcases findNow_rel es es' 0 res hr h with ⟨h2, h3⟩ | ⟨j, v, v', e1, e1', h2, h3, h4, h5, h6, h7, h8⟩
    · exact .inl ⟨h2, fun w => by simp [Instr.findKey, ok_underlying he hi, h3]⟩
    · simp only [Nat.zero_add] at h2 h8
      refine .inr ⟨j, v, v', e1, e1', h2, h3, h4, h5, h6, ?_, fun w => by simp [Instr.findKey, ok_underlying he hi, h8]⟩
      have hkey : e1'.key = e1.key := by
        obtain ⟨hj1, rfl⟩ := List.getElem?_eq_some_iff.1 h4
        obtain ⟨hj2, rfl⟩ := List.getElem?_eq_some_iff.1 h5
        exact sameNow_rel (hr.2 j hj1 hj2).1 h7
      rw [hkey]
      exact sameBits_key h7
  | false =>
    rw [h1, cond_false] at h
    unfold keyFit at hf
    rw [h1, cond_false] at hf
    have hs : isStructD i.desc = true := by
      cases h2 : isStructD i.desc with
      | true => rfl
      | false => rw [h2] at hf; cases hf
    have hd : ∃ fs, i.desc = .struct fs := by cases hd : i.desc <;> simp [hd, isStructD] at hs; exact ⟨_, rfl⟩
    obtain ⟨fs, hd⟩ := hd
    have hfind : ∀ w, (Instr.findKey t k es').run P w = (Instr.findAsking t k es' 0).run P w := by
      intro w
      cases es' with
      | nil => simp [Instr.findKey, ok_underlying he hi, hd, Instr.findNow, Instr.findAsking]
      | cons x xs => simp [Instr.findKey, ok_underlying he hi, hd, Instr.findNow, Instr.sameNow]
    rcases askA_rel he es es' 0 res hr h with ⟨h2, h3⟩ | ⟨j, v, v', e1, e1', h2, h3, h4, h5, h6, h7, h8⟩
    · exact .inl ⟨h2, fun w => by rw [hfind]; exact h3 w⟩
    · simp only [Nat.zero_add] at h2 h8
      exact .inr ⟨j, v, v', e1, e1', h2, h3, h4, h5, h6, h7, fun w => by rw [hfind]; exact h8 w⟩
def hLookup {β : Type} (e : Env) (T : Tm) (s : St) (t : TypeId) (m x : Operand) (ok : Bool) (k : K β) : Option β :=
  match e.tyOf t, aev T m, aev T x with
  | some i, some (.map (some b)), some kx => match i.desc, s.at b with
    | .map kt et, .map es _ => match e.tyOf kt, e.tyOf et with
      | some ik, some ie => cond (plain 8 kx) (cond (keyFit e kt ik.desc kx) (match findA e kt ik.desc kx es with
        | some (some (_, v)) => k (cond ok (.tuple #[v, .bool true]) v) s
        | some none => match ie.zero with
          | some z => cond (plain 8 z) (k (cond ok (.tuple #[z, .bool false]) z) s) none
          | none => none
        | none => none) none) none
      | _, _ => none
    | _, _ => none
  | _, _, _ => none
theorem hLookup_ok {β : Type} {P : Program} {e : Env} (he : Env.Ok P e) {T : Tm} {s : St} {o : Oper} {t : TypeId} {m x : Operand} {ok : Bool} {k : K β} {r : β} (ho : o.op = .lookup t m x ok) (h : hLookup e T s t m x ok k = some r) (hw : s.Wf) :
    ∃ v s', k v s' = some r ∧ Raw s s' ∧ HOk P o T s s' v := by
  unfold hLookup at h
  split at h
  case h_2 => cases h
  rename_i i b kx hi hm hx
  split at h
  case h_2 => cases h
  rename_i kt et es clock hd hb
  split at h
  case h_2 => cases h
  rename_i ik ie hik hie
  cases h1 : plain 8 kx with
  | false => simp only [h1, cond_false] at h; cases h
  | true =>
  cases h2 : keyFit e kt ik.desc kx with
  | false => simp only [h1, h2, cond_true, cond_false] at h; cases h
  | true =>
  simp only [h1, h2, cond_true] at h
  have common : ∀ {γ : Gam} {n : Nat} {a : Act} {w : World}, TRel γ T n a.tmps → Sat γ s.at w → ∃ B O C es', γ b = some (B, O, C) ∧ w.heap[B]? = some (.map es' clock) ∧ ERel γ es es'.toList ∧ a.eval m = .map (some B) ∧ a.eval x = kx := by
    intro γ n a w hT hS
    have hsb := hS.blk b
    rw [hb] at hsb
    obtain ⟨B, O, C, es', hg, ha, hr⟩ := hsb.map_inv
    have hmr := aev_rel hT hm
    generalize hm' : a.eval m = m' at hmr
    cases hmr with
    | map hg2 =>
      rw [hg] at hg2; cases hg2
      exact ⟨B, O, C, es', hg, ha, hr, rfl, plain_eq γ 8 _ _ h1 (aev_rel hT hx)⟩
  split at h
  · rename_i q v hf
    refine ⟨_, s, h, Raw.refl hw, fun γ n a w hT hS _ => ?_⟩
    obtain ⟨B, O, C, es', hg, ha, hr, hm', hx'⟩ := common hT hS
    have hu := ok_underlying he hi w
    rw [hd] at hu
    rcases findA_rel he hik h2 es es'.toList _ hr hf with ⟨h3, _⟩ | ⟨j, v1, v', e1, e1', h3, h4, h5, h6, h7, h8, h9⟩
    · cases h3
    · cases h3
      have hget : (getObj B).run P w = .ok (.map es' clock) w := by simp [getObj, Sem.run, ha]
      have hck := checkKey_fit he hik h2 es'.isEmpty w
      have hfk : (Instr.findKey kt kx es'.toList).run P w = .ok (some (_, v')) w := h9 w
      cases ok with
      | true =>
        have : VRel γ (.tuple [v, .bool true].toArray) (.tuple [v', .bool true].toArray) := VRel.tupleOf (.cons h4 (.cons (.bool true) (.nil γ)))
        exact ⟨γ, w, _, Step.refl hS, this, .inl (by simp [execOp, ho, Instr.lookup, hu, hm', hx', hget, hck, hfk])⟩
      | false => exact ⟨γ, w, _, Step.refl hS, h4, .inl (by simp [execOp, ho, Instr.lookup, hu, hm', hx', hget, hck, hfk])⟩
  · rename_i hf
    split at h
    case h_2 => cases h
    rename_i z hz
    cases h3 : plain 8 z with
    | false => simp only [h3, cond_false] at h; cases h
    | true =>
      simp only [h3, cond_true] at h
      refine ⟨_, s, h, Raw.refl hw, fun γ n a w hT hS _ => ?_⟩
      obtain ⟨B, O, C, es', hg, ha, hr, hm', hx'⟩ := common hT hS
      have hu := ok_underlying he hi w
      rw [hd] at hu
      rcases findA_rel he hik h2 es es'.toList _ hr hf with ⟨_, h9⟩ | ⟨j, v1, v', e1, e1', h4, _⟩
      · have hget : (getObj B).run P w = .ok (.map es' clock) w := by simp [getObj, Sem.run, ha]
        have hck := checkKey_fit he hik h2 es'.isEmpty w
        have hfk : (Instr.findKey kt kx es'.toList).run P w = .ok none w := h9 w
        have hzz := ok_zero he hie hz w
        cases ok with
        | true =>
          have : VRel γ (.tuple [z, .bool false].toArray) (.tuple [z, .bool false].toArray) := VRel.tupleOf (.cons (plain_rel γ 8 z h3) (.cons (.bool false) (.nil γ)))
          exact ⟨γ, w, _, Step.refl hS, this, .inl (by simp [execOp, ho, Instr.lookup, hu, hm', hx', hget, hck, hfk, hzz])⟩
        | false => exact ⟨γ, w, _, Step.refl hS, plain_rel γ 8 z h3, .inl (by simp [execOp, ho, Instr.lookup, hu, hm', hx', hget, hck, hfk, hzz])⟩
      · cases h4
  · cases h
def modL : List MapEntry → Nat → Value → Value → List MapEntry
  | [], _, _, _ => []
  | x :: es, 0, k, v => { x with key := k, val := v } :: es
  | x :: es, j + 1, k, v => x :: modL es j k v
omit [Rho] in
theorem modL_len : ∀ (es : List MapEntry) (j : Nat) (k v : Value), (modL es j k v).length = es.length
  | [], _, _, _ => rfl
  | x :: es, 0, k, v => rfl
  | x :: es, j + 1, k, v => by simp [modL, modL_len es j k v]
omit [Rho] in
theorem modL_get : ∀ (es : List MapEntry) (j : Nat) (k v : Value) (i : Nat) (h : i < (modL es j k v).length) (h' : i < es.length), (modL es j k v)[i] = if i = j then { es[i] with key := k, val := v } else es[i]
  | [], _, _, _, i, h, h' => by simp at h'
  | x :: es, 0, k, v, i, h, h' => by cases i <;> simp [modL]
  | x :: es, j + 1, k, v, i, h, h' => by
    cases i with
    | zero => simp [modL]
    | succ i => simp [modL, modL_get es j k v i (by simpa [modL] using h) (by simpa using h')]
def appE {β : Type} : List MapEntry → MapEntry → (List MapEntry → β) → β
  | [], x, k => k [x]
  | y :: es, x, k => appE es x fun r => k (y :: r)
omit [Rho] in
theorem appE_eq {β : Type} : ∀ (es : List MapEntry) (x : MapEntry) (k : List MapEntry → β), appE es x k = k (es ++ [x])
  | [], x, k => rfl
  | y :: es, x, k => by simp only [appE, appE_eq es x, List.cons_append]
def hUpdate {β : Type} (e : Env) (T : Tm) (s : St) (t : TypeId) (m x y : Operand) (k : K β) : Option β :=
  match e.tyOf t, aev T m, aev T x, aev T y with
  | some i, some (.map (some b)), some kx, some vx => match i.desc, s.at b with
    | .map kt _, .map es clock => match e.tyOf kt with
      | some ik => cond (plain 8 kx) (cond (keyFit e kt ik.desc kx) (cond (Nat.blt b s.next) (match findA e kt ik.desc kx es with
        | some (some (j, _)) => s.putK b (.map (modL es j kx vx) clock) fun s' => k undef s'
        | some none => appE es { key := kx, val := vx, born := clock } fun es' => forceNat (clock + 1) fun c' => s.putK b (.map es' c') fun s' => k undef s'
        | none => none) none) none) none
      | _ => none
    | _, _ => none
  | _, _, _, _ => none
theorem hUpdate_ok {β : Type} {P : Program} {e : Env} (he : Env.Ok P e) {T : Tm} {s : St} {o : Oper} {t : TypeId} {m x y : Operand} {k : K β} {r : β} (ho : o.op = .mapUpdate t m x y ∨ o.op = .insert t m x y)
    (h : hUpdate e T s t m x y k = some r) (hw : s.Wf) : ∃ v s', k v s' = some r ∧ Raw s s' ∧ HOk P o T s s' v := by
  unfold hUpdate at h
  split at h
  case h_2 => cases h
  rename_i i b kx vx hi hm hx hy
  split at h
  case h_2 => cases h
  rename_i kt et es clock hd hb
  split at h
  case h_2 => cases h
  rename_i ik hik
  cases h1 : plain 8 kx with
  | false => simp only [h1, cond_false] at h; cases h
  | true =>
  cases h2 : keyFit e kt ik.desc kx with
  | false => simp only [h1, h2, cond_true, cond_false] at h; cases h
  | true =>
  cases h3 : Nat.blt b s.next with
  | false => simp only [h1, h2, h3, cond_true, cond_false] at h; cases h
  | true =>
  simp only [h1, h2, h3, cond_true] at h
  have h3' : b < s.next := Nat.le_of_ble_eq_true h3
  have hsee := St.sees_of_at hb (by simp)
  have hexec : ∀ (a : Act) (w w' : World), (Instr.mapUpdate t (a.eval m) (a.eval x) (a.eval y)).run P w = .ok () w' → (execOp a.eval o).run P w = .ok .skip w' := by
    intro a w w' hr
    rcases ho with ho | ho <;> simp [execOp, ho, hr]
  have common : ∀ {γ : Gam} {n : Nat} {a : Act} {w : World}, TRel γ T n a.tmps → Sat γ s.at w → ∃ B O C es', γ b = some (B, O, C) ∧ w.heap[B]? = some (.map es' clock) ∧ ERel γ es es'.toList ∧ a.eval m = .map (some B) ∧ a.eval x = kx := by
    intro γ n a w hT hS
    have hsb := hS.blk b
    rw [hb] at hsb
    obtain ⟨B, O, C, es', hg, ha, hr⟩ := hsb.map_inv
    have hmr := aev_rel hT hm
    generalize hm' : a.eval m = m' at hmr
    cases hmr with
    | map hg2 =>
      rw [hg] at hg2; cases hg2
      exact ⟨B, O, C, es', hg, ha, hr, rfl, plain_eq γ 8 _ _ h1 (aev_rel hT hx)⟩
  have setHeap : ∀ {w : World} {B : Nat} {ob ob' : Obj}, w.heap[B]? = some ob → ({ w with heap := w.heap.setIfInBounds B ob' } : World).heap[B]? = some ob' := by
    intro w B ob ob' hB
    have := (Array.getElem?_eq_some_iff.1 hB).1
    simp [this]
  have setOther : ∀ {w : World} {B B' : Nat} {ob' : Obj}, B' ≠ B → ({ w with heap := w.heap.setIfInBounds B ob' } : World).heap[B']? = w.heap[B']? := by
    intro w B B' ob' hB
    simp [Array.getElem?_setIfInBounds, Ne.symm hB]
  split at h
  · rename_i j v0 hf
    obtain ⟨s', hk, hraw, hn, hat⟩ := St.putK_inv h hw hsee h3'
    refine ⟨_, s', hk, hraw, fun γ n a w hT hS _ => ?_⟩
    obtain ⟨B, O, C, es', hg, ha, hr, hm', hx'⟩ := common hT hS
    have hu := ok_underlying he hi w
    rw [hd] at hu
    rcases findA_rel he hik h2 es es'.toList _ hr hf with ⟨h4, _⟩ | ⟨j', v1, v', e1, e1', h4, h5, h6, h7, h8, h9, h10⟩
    · cases h4
    · injection h4 with h4
      cases h4
      have hget : (getObj B).run P w = .ok (.map es' clock) w := by simp [getObj, Sem.run, ha]
      have hck := checkKey_fit he hik h2 false w
      have hfk : (Instr.findKey kt kx es'.toList).run P w = .ok (some (j, v')) w := h10 w
      have hes : es'[j]? = some e1' := by simpa using h7
      have hstay : (Instr.keyThatStays e1'.key kx).run P w = .ok kx w := by simp [Instr.keyThatStays, h9]
      have hset : ∀ ob, (setObj B ob).run P w = .ok () { w with heap := w.heap.setIfInBounds B ob } := fun ob => by simp [setObj, Sem.run, ha]
      refine ⟨γ, { w with heap := w.heap.setIfInBounds B (.map (es'.modify j fun e => { e with key := kx, val := a.eval y }) clock) }, undef, ?_, .tuple _ _ rfl (fun i h1 _ => by simp at h1), .inr ⟨rfl, rfl, hexec a w _ ?_⟩⟩
      · rw [hn, hat]
        refine Step.ofPut hS (by rw [hb]; rfl) hg (by simp) (fun B' hB' => setOther hB') rfl rfl rfl ?_
        refine ⟨B, O, C, _, hg, setHeap ha, by rw [Array.size_modify, modL_len]; simpa using hr.1, fun q q1 q2 => ?_⟩
        have q1' : q < es.length := by rw [modL_len] at q1; exact q1
        have q2' : q < es'.size := by simpa using q2
        have hq := hr.2 q q1' (by simpa using q2')
        simp only [Array.getElem_toList] at hq
        rw [modL_get es j kx vx q q1 q1', Array.getElem_modify]
        by_cases hqj : q = j
        · subst hqj
          simp only [if_true]
          exact ⟨plain_rel γ 8 _ h1, aev_rel hT hy, hq.2.2⟩
        · simp only [if_neg hqj, if_neg (Ne.symm hqj)]
          exact hq
      · simp [Instr.mapUpdate, hu, hm', hx', hget, hck, hfk, hes, hstay, hset]
  · rename_i hf
    simp only [appE_eq, forceNat_eq] at h
    obtain ⟨s', hk, hraw, hn, hat⟩ := St.putK_inv h hw hsee h3'
    refine ⟨_, s', hk, hraw, fun γ n a w hT hS _ => ?_⟩
    obtain ⟨B, O, C, es', hg, ha, hr, hm', hx'⟩ := common hT hS
    have hu := ok_underlying he hi w
    rw [hd] at hu
    rcases findA_rel he hik h2 es es'.toList _ hr hf with ⟨_, h9⟩ | ⟨j, v1, v', e1, e1', h4, _⟩
    · have hget : (getObj B).run P w = .ok (.map es' clock) w := by simp [getObj, Sem.run, ha]
      have hck := checkKey_fit he hik h2 false w
      have hfk : (Instr.findKey kt kx es'.toList).run P w = .ok none w := h9 w
      have hset : ∀ ob, (setObj B ob).run P w = .ok () { w with heap := w.heap.setIfInBounds B ob } := fun ob => by simp [setObj, Sem.run, ha]
      refine ⟨γ, { w with heap := w.heap.setIfInBounds B (.map (es'.push { key := kx, val := a.eval y, born := clock }) (clock + 1)) }, undef, ?_, .tuple _ _ rfl (fun i h1 _ => by simp at h1), .inr ⟨rfl, rfl, hexec a w _ ?_⟩⟩
      · rw [hn, hat]
        refine Step.ofPut hS (by rw [hb]; rfl) hg (by simp) (fun B' hB' => setOther hB') rfl rfl rfl ?_
        have hlen : es'.size = es.length := by simpa using hr.1
        refine ⟨B, O, C, _, hg, setHeap ha, by simp [hlen], fun q q1 q2 => ?_⟩
        by_cases hq : q < es.length
        · have hq2 : q < es'.size := by omega
          have := hr.2 q hq (by simpa using hq2)
          simp only [Array.getElem_toList] at this
          rw [List.getElem_append_left hq, Array.getElem_push_lt hq2]
          exact this
        · have hqe : q = es.length := by simp at q1; omega
          subst hqe
          rw [List.getElem_append_right (Nat.le_refl _)]
          have hpe : (es'.push { key := kx, val := a.eval y, born := clock : MapEntry })[es.length]'q2 = { key := kx, val := a.eval y, born := clock } := by
            simp [Array.getElem_push, hlen]
          rw [hpe]
          simp only [Nat.sub_self, List.getElem_cons_zero]
          exact ⟨plain_rel γ 8 _ h1, aev_rel hT hy, trivial⟩
      · simp [Instr.mapUpdate, hu, hm', hx', hget, hck, hfk, hset]
    · cases h4
  · cases h
/-! ### slices beyond their lengths -/
def hSlice {β : Type} (e : Env) (T : Tm) (s : St) (t : TypeId) (x : Operand) (lo hi : Option Operand) (k : K β) : Option β :=
  match e.tyOf t, aev T x, optOp T lo, optOp T hi with
  | some i, some (.slice (some ⟨b, o, none⟩) _ c), some vlo, some vhi => match i.desc with
    | .slice el => match e.tyOf el, natOf vlo, natOf vhi, s.at b with
      | some te, some l, some (some h), .cells cs _ (some sz) _ => cond (Nat.beq sz te.size) (cond (Nat.beq te.size 0) none (cond (Nat.ble openCap c) (cond (Nat.beq o ((c - openCap) * te.size))
          (cond (Nat.ble (o + h * te.size) cs.length) (cond (Nat.blt (l.getD 0) h) (k (.slice (some ⟨b, o + l.getD 0 * te.size, none⟩) (h - l.getD 0) (c + l.getD 0)) s) none) none) none) none)) none
      | _, _, _, _ => none
    | _ => none
  | _, _, _, _ => none
theorem hSlice_ok {β : Type} {P : Program} {e : Env} (he : Env.Ok P e) {T : Tm} {s : St} {o : Oper} {t : TypeId} {x : Operand} {lo hi : Option Operand} {k : K β} {r : β} (ho : o.op = .slice t x lo hi none)
    (h : hSlice e T s t x lo hi k = some r) (hw : s.Wf) : ∃ v s', k v s' = some r ∧ Raw s s' ∧ HOk P o T s s' v := by
  unfold hSlice at h
  split at h
  case h_2 => cases h
  rename_i i b off n c vlo vhi hi' hx hlo hhi
  split at h
  case h_2 => cases h
  rename_i el hd
  split at h
  case h_2 => cases h
  rename_i te l hh cs t' sz ro hte hnlo hnhi hb
  cases h1 : Nat.beq sz te.size with
  | false => simp only [h1, cond_false] at h; cases h
  | true =>
  cases h2 : Nat.beq te.size 0 with
  | true => simp only [h1, h2, cond_true] at h; cases h
  | false =>
  cases h3 : Nat.ble openCap c with
  | false => simp only [h1, h2, h3, cond_true, cond_false] at h; cases h
  | true =>
  cases h4 : Nat.beq off ((c - openCap) * te.size) with
  | false => simp only [h1, h2, h3, h4, cond_true, cond_false] at h; cases h
  | true =>
  cases h5 : Nat.ble (off + hh * te.size) cs.length with
  | false => simp only [h1, h2, h3, h4, h5, cond_true, cond_false] at h; cases h
  | true =>
  cases h6 : Nat.blt (l.getD 0) hh with
  | false => simp only [h1, h2, h3, h4, h5, h6, cond_true, cond_false] at h; cases h
  | true =>
    simp only [h1, h2, h3, h4, h5, h6, cond_true, cond_false] at h
    have h1' := Nat.eq_of_beq_eq_true h1
    have h2' := Nat.ne_of_beq_eq_false h2
    have h3' := Nat.le_of_ble_eq_true h3
    have h4' := Nat.eq_of_beq_eq_true h4
    have h5' := Nat.le_of_ble_eq_true h5
    have h6' : l.getD 0 < hh := Nat.le_of_ble_eq_true h6
    subst h1'
    refine ⟨_, s, h, Raw.refl hw, fun γ m a w hT hS _ => ?_⟩
    obtain ⟨B, O, C, hg, hln, hx'⟩ := (aev_rel hT hx).slice_inv
    have hsb := hS.blk b
    rw [hb] at hsb
    obtain ⟨B', O', C', arr, hg', ha, hsz, hc, hr⟩ := hsb.cells_inv
    rw [hg] at hg'; cases hg'
    obtain ⟨hr1, hr2⟩ := hr te.size rfl
    have hcap : hh ≤ capOf C c := by
      rw [capOf_open h3']
      have q1 : ((c - openCap) + hh) * te.size ≤ C * te.size := by rw [Nat.add_mul]; omega
      have q2 := Nat.le_of_mul_le_mul_right q1 (Nat.pos_of_ne_zero h2')
      omega
    have hcap2 : capOf C (c + l.getD 0) = capOf C c - l.getD 0 := by rw [capOf_open h3', capOf_open (by omega)]; omega
    have hu := ok_underlying he hi' w
    rw [hd] at hu
    have hb2 : (Instr.sliceBounds true n (capOf C c) (lo.map a.eval) (hi.map a.eval) none).run P w = .ok (l.getD 0, hh, capOf C c) w := by
      rcases optOp_rel hT hhi hnhi with ⟨_, hx2⟩ | ⟨kh, jh, e2, hx2⟩
      · cases hx2
      · injection hx2 with hx2
        subst hx2
        rcases optOp_rel hT hlo hnlo with ⟨e1, rfl⟩ | ⟨kl, jl, e1, rfl⟩
        · simp [Instr.sliceBounds, e1, e2, bound_ok (P := P) (w := w) kh hh (capOf C c) .sliceAcap hcap]
        · simp only [Option.getD_some] at h6'
          simp [Instr.sliceBounds, e1, e2, bound_ok (P := P) (w := w) kh hh (capOf C c) .sliceAcap hcap, bound_ok (P := P) (w := w) kl jl hh .sliceB (Nat.le_of_lt h6')]
    have hv : VRel γ (.slice (some ⟨b, off + l.getD 0 * te.size, none⟩) (hh - l.getD 0) (c + l.getD 0)) (.slice (some ⟨B, O + (off + l.getD 0 * te.size), none⟩) (hh - l.getD 0) (capOf C (c + l.getD 0))) :=
      .slice _ _ _ hg (by rw [hcap2]; omega)
    refine ⟨γ, w, _, Step.refl hS, hv, .inl ?_⟩
    have hne : ¬ capOf C c = l.getD 0 := by omega
    simp only [execOp, ho, Instr.sliceAt, Sem.run_bind, hu, Result.andThen_ok, Instr.slice, hx', Option.map_none, hb2, ok_sizeOf he hte, Sem.run_pure, if_neg hne, Option.map_some, Addr.add_mid, hcap2, Nat.add_assoc]
/-! ### clear -/
def hClear {β : Type} (e : Env) (T : Tm) (s : St) (x : Operand) (t : TypeId) (k : K β) : Option β :=
  match e.tyOf t, aev T x with
  | some i, some (.slice (some ⟨b, o, none⟩) n _) => match i.desc with
    | .slice el => match e.tyOf el, s.at b with
      | some te, .cells cs t' room ro => match te.zero with
        | some z => cond ro none (cond (plain 8 z) (cond (Nat.beq z.cells.toList.length te.size) (cond (one' z.cells.toList) (cond (Nat.blt b s.next) (cond (Nat.beq n 0) none (cond (Nat.ble (o + n * te.size) cs.length)
            (setSegK cs o (zrep n z.cells.toList) fun cs' => s.putK b (.cells cs' t' room false) fun s' => k (.tuple #[]) s') none)) none) none) none) none)
        | none => none
      | _, _ => none
    | _ => none
  | some i, some (.slice _ 0 _) => match i.desc with
    | .slice _ => k (.tuple #[]) s
    | _ => none
  | some i, some (.map none) => match i.desc with
    | .map _ _ => k (.tuple #[]) s
    | _ => none
  | some i, some (.map (some b)) => match i.desc, s.at b with
    | .map _ _, .map _ clock => cond (Nat.blt b s.next) (s.putK b (.map [] clock) fun s' => k (.tuple #[]) s') none
    | _, _ => none
  | _, _ => none
omit [Rho] in
theorem one'_zrep {z : List Value} (h : one' z = true) : ∀ n, one' (zrep n z) = true := by
  intro n
  rw [one'_iff]
  induction n with
  | zero => intro v hv; cases hv
  | succ n ih => intro v hv; simp only [zrep, List.mem_append] at hv; rcases hv with hv | hv; exact (one'_iff z).1 h v hv; exact ih v hv
omit [Rho] in
theorem exec_clear {P : Program} {a : Act} {o : Oper} {x : Operand} {t : TypeId} (ho : o.op = .call ⟨.builtin .clear, #[x], #[t]⟩) {w w' : World} {v : Value}
    (h : (Builtin.clear_ #[t] o.type #[a.eval x]).run P w = .ok v w') : (execOp a.eval o).run P w = .ok (.value v) w' := by
  simp [execOp, ho, resolve, invoke, builtin, h]
theorem hClear_ok {β : Type} {P : Program} {e : Env} (he : Env.Ok P e) {T : Tm} {s : St} {o : Oper} {x : Operand} {t : TypeId} {k : K β} {r : β} (ho : o.op = .call ⟨.builtin .clear, #[x], #[t]⟩)
    (h : hClear e T s x t k = some r) (hw : s.Wf) : ∃ v s', k v s' = some r ∧ Raw s s' ∧ HOk P o T s s' v := by
  unfold hClear at h
  split at h
  · rename_i i b off n c hi hx
    split at h
    case h_2 => cases h
    rename_i el hd
    split at h
    case h_2 => cases h
    rename_i te cs t' room ro hte hb
    split at h
    case h_2 => cases h
    rename_i z hz
    cases hro : ro with
    | true => simp only [hro, cond_true] at h; cases h
    | false =>
    cases h1 : plain 8 z with
    | false => simp only [hro, h1, cond_false] at h; cases h
    | true =>
    cases h2 : Nat.beq z.cells.toList.length te.size with
    | false => simp only [hro, h1, h2, cond_true, cond_false] at h; cases h
    | true =>
    cases h3 : one' z.cells.toList with
    | false => simp only [hro, h1, h2, h3, cond_true, cond_false] at h; cases h
    | true =>
    cases h4 : Nat.blt b s.next with
    | false => simp only [hro, h1, h2, h3, h4, cond_true, cond_false] at h; cases h
    | true =>
    cases h5 : Nat.beq n 0 with
    | true => simp only [hro, h1, h2, h3, h4, h5, cond_true, cond_false] at h; cases h
    | false =>
    cases h6 : Nat.ble (off + n * te.size) cs.length with
    | false => simp only [hro, h1, h2, h3, h4, h5, h6, cond_true, cond_false] at h; cases h
    | true =>
      simp only [hro, h1, h2, h3, h4, h5, h6, cond_true, cond_false, setSegK_eq] at h
      have h2' := Nat.eq_of_beq_eq_true h2
      have h4' : b < s.next := Nat.le_of_ble_eq_true h4
      have h5' := Nat.ne_of_beq_eq_false h5
      have h6' := Nat.le_of_ble_eq_true h6
      obtain ⟨s', hk, hraw, hn, hat⟩ := St.putK_inv h hw (St.sees_of_at hb (by simp)) h4'
      refine ⟨_, s', hk, hraw, fun γ m a w hT hS hf => ?_⟩
      obtain ⟨B, O, C, hg, hln, hx'⟩ := (aev_rel hT hx).slice_inv
      have hsb := hS.blk b
      rw [hb] at hsb
      obtain ⟨B', O', C', arr, hg', ha, hsz, hc, hr⟩ := hsb.cells_inv
      rw [hg] at hg'; cases hg'
      have hu := ok_underlying he hi w
      rw [hd] at hu
      have hzs : z.cells.size = te.size := by simpa using h2'
      have hzl : (zrep n z.cells.toList).length = n * te.size := by rw [zrep_len, h2']
      have hzc : (Builtin.zeroCells z.cells n).toList = zrep n z.cells.toList := by
        unfold Builtin.zeroCells
        exact zrep_array n z.cells
      have hrel := zrep_rel (plain_rel γ 8 z h1).cells n
      have hst := run_storeCells_at P B (O + off) t' (zrep n z.cells.toList) 0 arr w ha (by rw [hzl]; omega) ((one'_iff _).1 (one'_zrep h3 n))
      simp only [Nat.add_zero] at hst
      refine ⟨γ, w.setRow B (arr.toList.take (O + off) ++ zrep n z.cells.toList ++ arr.toList.drop (O + off + (zrep n z.cells.toList).length)).toArray, _, ?_, .tuple #[] #[] rfl (fun i h1 _ => by simp at h1), .inl (exec_clear ho ?_)⟩
      · rw [hn, hat]
        exact Step.ofPut hS (by rw [hb, hro]; rfl) hg (by simp) (fun B' hB' => setRow_other w B B' _ hB') rfl rfl rfl (SatB.setSeg hg ha hsz hc hr hrel (by rw [hzl]; exact h6'))
      · obtain ⟨n', rfl⟩ : ∃ n', n = n' + 1 := ⟨n - 1, by omega⟩
        simp [Builtin.clear_, hx', hu, ok_zero he hte hz, hzc, hst]
  · rename_i i p c hi hx
    split at h
    case h_2 => cases h
    rename_i el hd
    refine ⟨_, s, h, Raw.refl hw, fun γ m a w hT hS hf => ?_⟩
    have hu := ok_underlying he hi w
    rw [hd] at hu
    have hr := aev_rel hT hx
    generalize hx' : a.eval x = x' at hr
    refine ⟨γ, w, _, Step.refl hS, .tuple #[] #[] rfl (fun i h1 _ => by simp at h1), .inl (exec_clear ho ?_)⟩
    cases hr <;> simp [Builtin.clear_, hx', hu]
  · rename_i i hi hx
    split at h
    case h_2 => cases h
    rename_i kt et hd
    refine ⟨_, s, h, Raw.refl hw, fun γ m a w hT hS hf => ?_⟩
    have hu := ok_underlying he hi w
    rw [hd] at hu
    have hr := aev_rel hT hx
    generalize hx' : a.eval x = x' at hr
    refine ⟨γ, w, _, Step.refl hS, .tuple #[] #[] rfl (fun i h1 _ => by simp at h1), .inl (exec_clear ho ?_)⟩
    cases hr
    simp [Builtin.clear_, hx', hu]
  · rename_i i b hi hx
    split at h
    case h_2 => cases h
    rename_i kt et es clock hd hb
    cases h1 : Nat.blt b s.next with
    | false => simp only [h1, cond_false] at h; cases h
    | true =>
      simp only [h1, cond_true] at h
      have h1' : b < s.next := Nat.le_of_ble_eq_true h1
      obtain ⟨s', hk, hraw, hn, hat⟩ := St.putK_inv h hw (St.sees_of_at hb (by simp)) h1'
      refine ⟨_, s', hk, hraw, fun γ m a w hT hS hf => ?_⟩
      have hu := ok_underlying he hi w
      rw [hd] at hu
      have hsb := hS.blk b
      rw [hb] at hsb
      obtain ⟨B, O, C, es', hg, ha, hr⟩ := hsb.map_inv
      have hmr := aev_rel hT hx
      generalize hx' : a.eval x = x' at hmr
      cases hmr with
      | map hg2 =>
        rw [hg] at hg2; cases hg2
        have hB := (Array.getElem?_eq_some_iff.1 ha).1
        refine ⟨γ, { w with heap := w.heap.setIfInBounds B (.map #[] clock) }, _, ?_, .tuple #[] #[] rfl (fun i h1 _ => by simp at h1), .inl (exec_clear ho ?_)⟩
        · rw [hn, hat]
          refine Step.ofPut hS (by rw [hb]; rfl) hg (by simp) (fun B' hB' => by simp [Array.getElem?_setIfInBounds, Ne.symm hB']) rfl rfl rfl ?_
          exact ⟨B, O, C, #[], hg, by simp [hB], rfl, fun i h1 _ => by simp at h1⟩
        · simp [Builtin.clear_, hx', hu, getObj, setObj, Sem.run, ha]
  · cases h
/-! ### delete -/
def delL : List MapEntry → Nat → List MapEntry
  | [], _ => []
  | _ :: es, 0 => es
  | x :: es, j + 1 => x :: delL es j
omit [Rho] in
theorem delL_eq : ∀ (es : List MapEntry) (j : Nat), delL es j = es.eraseIdx j
  | [], _ => rfl
  | _ :: _, 0 => rfl
  | x :: es, j + 1 => by simp [delL, delL_eq es j]
theorem ERel.erase {γ : Gam} {es es' : List MapEntry} (h : ERel γ es es') (j : Nat) : ERel γ (es.eraseIdx j) (es'.eraseIdx j) := by
  refine ⟨by simp only [List.length_eraseIdx, h.1], fun i h1 h2 => ?_⟩
  rw [List.getElem_eraseIdx, List.getElem_eraseIdx]
  have hl := h.1
  rw [List.length_eraseIdx] at h1 h2
  split
  · exact h.2 i (by split at h1 <;> omega) (by split at h2 <;> omega)
  · exact h.2 (i + 1) (by split at h1 <;> omega) (by split at h2 <;> omega)
def hDelete {β : Type} (e : Env) (T : Tm) (s : St) (x y : Operand) (t : TypeId) (k : K β) : Option β :=
  match e.tyOf t, aev T x, aev T y with
  | some i, some (.map (some b)), some kx => match i.desc, s.at b with
    | .map kt _, .map es clock => match e.tyOf kt with
      | some ik => cond (plain 8 kx) (cond (keyFit e kt ik.desc kx) (cond (Nat.blt b s.next) (match findA e kt ik.desc kx es with
        | some (some (j, _)) => s.putK b (.map (delL es j) clock) fun s' => k (.tuple #[]) s'
        | some none => s.putK b (.map es clock) fun s' => k (.tuple #[]) s'
        | none => none) none) none) none
      | _ => none
    | _, _ => none
  | _, _, _ => none
theorem hDelete_ok {β : Type} {P : Program} {e : Env} (he : Env.Ok P e) {T : Tm} {s : St} {o : Oper} {x y : Operand} {t tk : TypeId} {k : K β} {r : β} (ho : o.op = .call ⟨.builtin .delete, #[x, y], #[t, tk]⟩)
    (h : hDelete e T s x y t k = some r) (hw : s.Wf) : ∃ v s', k v s' = some r ∧ Raw s s' ∧ HOk P o T s s' v := by
  unfold hDelete at h
  split at h
  case h_2 => cases h
  rename_i i b kx hi hm hx
  split at h
  case h_2 => cases h
  rename_i kt et es clock hd hb
  split at h
  case h_2 => cases h
  rename_i ik hik
  cases h1 : plain 8 kx with
  | false => simp only [h1, cond_false] at h; cases h
  | true =>
  cases h2 : keyFit e kt ik.desc kx with
  | false => simp only [h1, h2, cond_true, cond_false] at h; cases h
  | true =>
  cases h3 : Nat.blt b s.next with
  | false => simp only [h1, h2, h3, cond_true, cond_false] at h; cases h
  | true =>
  simp only [h1, h2, h3, cond_true] at h
  have h3' : b < s.next := Nat.le_of_ble_eq_true h3
  have hsee := St.sees_of_at hb (by simp)
  have hexec : ∀ (a : Act) (w w' : World) (v : Value), (Builtin.delete_ #[t, tk] o.type #[a.eval x, a.eval y]).run P w = .ok v w' → (execOp a.eval o).run P w = .ok (.value v) w' := by
    intro a w w' v hr
    simp [execOp, ho, resolve, invoke, builtin, hr]
  have common : ∀ {γ : Gam} {n : Nat} {a : Act} {w : World}, TRel γ T n a.tmps → Sat γ s.at w → ∃ B O C es', γ b = some (B, O, C) ∧ w.heap[B]? = some (.map es' clock) ∧ ERel γ es es'.toList ∧ a.eval x = .map (some B) ∧ a.eval y = kx := by
    intro γ n a w hT hS
    have hsb := hS.blk b
    rw [hb] at hsb
    obtain ⟨B, O, C, es', hg, ha, hr⟩ := hsb.map_inv
    have hmr := aev_rel hT hm
    generalize hm' : a.eval x = m' at hmr
    cases hmr with
    | map hg2 =>
      rw [hg] at hg2; cases hg2
      exact ⟨B, O, C, es', hg, ha, hr, rfl, plain_eq γ 8 _ _ h1 (aev_rel hT hx)⟩
  have setHeap : ∀ {w : World} {B : Nat} {ob ob' : Obj}, w.heap[B]? = some ob → ({ w with heap := w.heap.setIfInBounds B ob' } : World).heap[B]? = some ob' := by
    intro w B ob ob' hB
    have := (Array.getElem?_eq_some_iff.1 hB).1
    simp [this]
  have setOther : ∀ {w : World} {B B' : Nat} {ob' : Obj}, B' ≠ B → ({ w with heap := w.heap.setIfInBounds B ob' } : World).heap[B']? = w.heap[B']? := by
    intro w B B' ob' hB
    simp [Array.getElem?_setIfInBounds, Ne.symm hB]
  have satMap : ∀ {γ : Gam} {w : World} {B O C : Nat} {ob : Obj} {l : List MapEntry} {l' : Array MapEntry}, γ b = some (B, O, C) → w.heap[B]? = some ob → ERel γ l l'.toList →
      SatB γ { w with heap := w.heap.setIfInBounds B (.map l' clock) } b (.map l clock) := by
    intro γ w B O C ob l l' hg ha hr
    exact ⟨B, O, C, l', hg, setHeap ha, by have := hr.1; simp only [Array.length_toList] at this; first | exact this | exact this.symm, fun q q1 q2 => by
      have := hr.2 q q1 (by simpa using q2)
      simp only [Array.getElem_toList] at this
      exact this⟩
  split at h
  · rename_i j v0 hf
    obtain ⟨s', hk, hraw, hn, hat⟩ := St.putK_inv h hw hsee h3'
    refine ⟨_, s', hk, hraw, fun γ n a w hT hS _ => ?_⟩
    obtain ⟨B, O, C, es', hg, ha, hr, hm', hx'⟩ := common hT hS
    have hu := ok_underlying he hi w
    rw [hd] at hu
    rcases findA_rel he hik h2 es es'.toList _ hr hf with ⟨h4, _⟩ | ⟨j', v1, v', e1, e1', h4, h5, h6, h7, h8, h9, h10⟩
    · cases h4
    · injection h4 with h4
      cases h4
      have hget : (getObj B).run P w = .ok (.map es' clock) w := by simp [getObj, Sem.run, ha]
      have hck := checkKey_fit he hik h2 es'.isEmpty w
      have hfk : (Instr.findKey kt kx es'.toList).run P w = .ok (some (j, v')) w := h10 w
      have hset : ∀ ob, (setObj B ob).run P w = .ok () { w with heap := w.heap.setIfInBounds B ob } := fun ob => by simp [setObj, Sem.run, ha]
      refine ⟨γ, { w with heap := w.heap.setIfInBounds B (.map (es'.eraseIdxIfInBounds j) clock) }, .tuple #[], ?_, .tuple _ _ rfl (fun i h1 _ => by simp at h1), .inl (hexec a w _ _ ?_)⟩
      · rw [hn, hat]
        refine Step.ofPut hS (by rw [hb]; rfl) hg (by simp) (fun B' hB' => setOther hB') rfl rfl rfl (satMap hg ha ?_)
        have e3 : (es'.eraseIdxIfInBounds j).toList = es'.toList.eraseIdx j := by simp
        rw [e3, delL_eq]
        exact hr.erase j
      · simp [Builtin.delete_, hu, hm', hx', hget, hck, hfk, hset]
  · rename_i hf
    obtain ⟨s', hk, hraw, hn, hat⟩ := St.putK_inv h hw hsee h3'
    refine ⟨_, s', hk, hraw, fun γ n a w hT hS _ => ?_⟩
    obtain ⟨B, O, C, es', hg, ha, hr, hm', hx'⟩ := common hT hS
    have hu := ok_underlying he hi w
    rw [hd] at hu
    rcases findA_rel he hik h2 es es'.toList _ hr hf with ⟨_, h10⟩ | ⟨j', v1, v', e1, e1', h4, _⟩
    · have hget : (getObj B).run P w = .ok (.map es' clock) w := by simp [getObj, Sem.run, ha]
      have hck := checkKey_fit he hik h2 es'.isEmpty w
      have hfk : (Instr.findKey kt kx es'.toList).run P w = .ok none w := h10 w
      have hset : ∀ ob, (setObj B ob).run P w = .ok () { w with heap := w.heap.setIfInBounds B ob } := fun ob => by simp [setObj, Sem.run, ha]
      refine ⟨γ, { w with heap := w.heap.setIfInBounds B (.map es' clock) }, .tuple #[], ?_, .tuple _ _ rfl (fun i h1 _ => by simp at h1), .inl (hexec a w _ _ ?_)⟩
      · rw [hn, hat]
        exact Step.ofPut hS (by rw [hb]; rfl) hg (by simp) (fun B' hB' => setOther hB') rfl rfl rfl (satMap hg ha hr)
      · simp [Builtin.delete_, hu, hm', hx', hget, hck, hfk, hset]
    · cases h4
  · cases h
/-- All operations that touch memory and call no function. -/
def heapOp {β : Type} (e : Env) (T : Tm) (s : St) (op : Op) (k : K β) : Option β :=
  match op with
  | .alloc t => hAlloc e s t k
  | .box t x => hBox T s t x k
  | .buildSlice t n ps => hBuildSlice e T s t n ps k
  | .load t x => hLoad e T s t x k
  | .store t x y => hStore e T s t x y k
  | .makeSlice t l c => hMakeSlice e T s t l c k
  | .makeMap _ r => hMakeMap s r k
  | .lookup t m x ok => hLookup e T s t m x ok k
  | .mapUpdate t m x y | .insert t m x y => hUpdate e T s t m x y k
  | .call ⟨.builtin .append, ⟨[x, y]⟩, ⟨[t, tx]⟩⟩ => hAppend e T s x y t tx k
  | .call ⟨.builtin .copy, ⟨[x, y]⟩, ⟨[t, _]⟩⟩ => hCopy e T s x y t k
  | .call ⟨.builtin .clear, ⟨[x]⟩, ⟨[t]⟩⟩ => hClear e T s x t k
  | .call ⟨.builtin .delete, ⟨[x, y]⟩, ⟨[t, _]⟩⟩ => hDelete e T s x y t k
  | .slice t x lo hi none => hSlice e T s t x lo hi k
  | _ => none
def keyOf : Op → Option (Key × List Operand)
  | .binOp op t x y _ => some (.bin op t, [x, y])
  | .unOp op _ x => some (.un op, [x])
  | .convert s d x => some (.conv s d, [x])
  | .fieldAddr s x f => some (.fieldAddr s f, [x])
  | .field t x f => some (.field t f, [x])
  | .indexAddr t x i => some (.indexAddr t, [x, i])
  | .index t x i => some (.index t, [x, i])
  | .extract t i => some (.extract i, [t])
  | .load t a => some (.load t, [a])
  | .call ⟨.builtin .len, args, tys⟩ => some (.bi 0 tys.toList, args.toList)
  | .call ⟨.builtin .cap, args, tys⟩ => some (.bi 1 tys.toList, args.toList)
  | .call ⟨.builtin .max, args, tys⟩ => some (.bi 2 tys.toList, args.toList)
  | .call ⟨.builtin .min, args, tys⟩ => some (.bi 3 tys.toList, args.toList)
  | _ => none
def symOp (e : Env) (T : Tm) (op : Op) : Option Value := match keyOf op with
  | some (k, xs) => match aevs T xs with
    | some vs => e.look k vs
    | none => none
  | none => none
theorem symOp_ok {P : Program} {e : Env} (he : Env.Ok P e) {T : Tm} {o : Oper} {v : Value} (h : symOp e T o.op = some v) {γ : Gam} {n : Nat} {a : Act} (hT : TRel γ T n a.tmps) {w : World} (hm : MemOk w) :
    ∃ v', VRel γ v v' ∧ (execOp a.eval o).run P w = .ok (.value v') w := by
  obtain ⟨dst, op, type, pos, after, guard⟩ := o
  simp only at h
  unfold symOp at h
  split at h
  case h_2 => cases h
  rename_i k xs hk
  split at h
  case h_2 => cases h
  rename_i vs hvs
  obtain ⟨h1, h2, h3⟩ := he.look k vs v h
  have hr := aevs_rel hT hvs
  have hq := closed_eqs γ 3 vs _ h1 hr
  have h4 := h3 w hm
  rw [← hq] at h4
  refine ⟨_, closed_rel γ 3 v h2, ?_⟩
  unfold keyOf at hk
  split at hk <;> first
    | (injection hk with hk
       injection hk with hk1 hk2
       subst hk1 hk2
       first
         | (have := h4; simp only [KeyOk, List.map_cons, List.map_nil] at this; simp only [execOp, Sem.run_bind, this, Result.andThen_ok, Sem.run_pure]; done)
         | (rename_i op t x y yt; have := h4; simp only [KeyOk, List.map_cons, List.map_nil] at this; obtain ⟨q1, q2⟩ := this x y; simp only [execOp, Sem.run_bind, q1, q2, Result.andThen_ok, Sem.run_pure]; done)
         | (rename_i args tys
            have e1 : (List.map a.eval args.toList).toArray = args.map a.eval := by rw [← Array.toList_map]
            have h5 := h4
            unfold KeyOk at h5
            simp only [e1, Array.toArray_toList] at h5
            simp [execOp, resolve, invoke, builtin, h5]
            done))
    | (cases hk; done)
/-! ### a lookup by a symbol -/
def isIntD : TypeDesc → Bool
  | .int _ => true
  | _ => false
def findQ (e : Env) (sy : Nat) : List MapEntry → Nat → Option (Option (Nat × Value))
  | [], _ => some none
  | x :: es, i => match x.key with
    | .int .i64 m => match e.keq sy m with
      | some true => some (some (i, x.val))
      | some false => findQ e sy es (i + 1)
      | none => none
    | _ => none
theorem findQ_rel {P : Program} {e : Env} (he : Env.Ok P e) {γ : Gam} {d : TypeDesc} (hd : isIntD d = true) {sy : Nat} : ∀ (es es' : List MapEntry) (i : Nat) (res : Option (Nat × Value)), ERel γ es es' → findQ e sy es i = some res →
    (res = none ∧ Instr.findNow d (Rho.val sy) es' i = some none) ∨ ∃ j v v', res = some (j, v) ∧ VRel γ v v' ∧ Instr.findNow d (Rho.val sy) es' i = some (some (j, v'))
  | [], [], i, res, _, h => by simp [findQ] at h; subst h; exact .inl ⟨rfl, rfl⟩
  | [], _ :: _, _, _, h, _ => by have := h.1; simp at this
  | _ :: _, [], _, _, h, _ => by have := h.1; simp at this
  | x :: es, x' :: es', i, res, hr, h => by
    have h0 := hr.2 0 (by simp) (by simp)
    simp only [List.getElem_cons_zero] at h0
    have ht : ERel γ es es' := ⟨by have := hr.1; simpa using this, fun j h1 h2 => hr.2 (j + 1) (Nat.succ_lt_succ h1) (Nat.succ_lt_succ h2)⟩
    have hd' : ∃ q, d = .int q := by cases d <;> simp [isIntD] at hd; exact ⟨_, rfl⟩
    obtain ⟨q, rfl⟩ := hd'
    simp only [findQ] at h
    split at h
    case h_2 => cases h
    rename_i m hm
    have hk : x'.key = .int .i64 m := by
      have := h0.1
      rw [hm] at this
      exact this.int_inv
    split at h
    · rename_i hq
      injection h with h
      subst h
      obtain ⟨n, h1, h2⟩ := he.keq sy m true hq
      refine .inr ⟨i, x.val, x'.val, rfl, h0.2.1, ?_⟩
      simp [Instr.findNow, Instr.sameNow, hk, h1, h2]
    · rename_i hq
      obtain ⟨n, h1, h2⟩ := he.keq sy m false hq
      have ih := findQ_rel he hd es es' (i + 1) res ht h
      have e1 : Instr.findNow (.int q) (Rho.val sy) (x' :: es') i = Instr.findNow (.int q) (Rho.val sy) es' (i + 1) := by
        simp [Instr.findNow, Instr.sameNow, hk, h1, h2]
      rw [e1]
      exact ih
    · cases h
def hLookupQ {β : Type} (e : Env) (T : Tm) (s : St) (t : TypeId) (m : Operand) (sy : Nat) (ok : Bool) (k : K β) : Option β :=
  match e.tyOf t, aev T m with
  | some i, some (.map (some b)) => match i.desc, s.at b with
    | .map kt et, .map es _ => match e.tyOf kt, e.tyOf et with
      | some ik, some ie => cond (isIntD ik.desc) (match findQ e sy es 0 with
        | some (some (_, v)) => k (cond ok (.tuple #[v, .bool true]) v) s
        | some none => match ie.zero with
          | some z => cond (plain 8 z) (k (cond ok (.tuple #[z, .bool false]) z) s) none
          | none => none
        | none => none) none
      | _, _ => none
    | _, _ => none
  | _, _ => none
theorem hLookupQ_ok {β : Type} {P : Program} {e : Env} (he : Env.Ok P e) {T : Tm} {s : St} {o : Oper} {t : TypeId} {m x : Operand} {sy : Nat} {ok : Bool} {k : K β} {r : β} (ho : o.op = .lookup t m x ok) (hx : aev T x = some (.chan (some sy)))
    (h : hLookupQ e T s t m sy ok k = some r) (hw : s.Wf) : ∃ v s', k v s' = some r ∧ Raw s s' ∧ HOk P o T s s' v := by
  unfold hLookupQ at h
  split at h
  case h_2 => cases h
  rename_i i b hi hm
  split at h
  case h_2 => cases h
  rename_i kt et es clock hd hb
  split at h
  case h_2 => cases h
  rename_i ik ie hik hie
  cases h2 : isIntD ik.desc with
  | false => simp only [h2, cond_false] at h; cases h
  | true =>
  simp only [h2, cond_true] at h
  have hkk : keyKind ik.desc = true := by cases hq : ik.desc <;> simp [hq, isIntD] at h2; rfl
  have common : ∀ {γ : Gam} {n : Nat} {a : Act} {w : World}, TRel γ T n a.tmps → Sat γ s.at w → ∃ B O C es', γ b = some (B, O, C) ∧ w.heap[B]? = some (.map es' clock) ∧ ERel γ es es'.toList ∧ a.eval m = .map (some B) ∧ a.eval x = Rho.val sy := by
    intro γ n a w hT hS
    have hsb := hS.blk b
    rw [hb] at hsb
    obtain ⟨B, O, C, es', hg, ha, hr⟩ := hsb.map_inv
    have hmr := aev_rel hT hm
    have hxr := aev_rel hT hx
    have hx' : a.eval x = Rho.val sy := by generalize a.eval x = v at hxr; cases hxr; rfl
    generalize hm' : a.eval m = m' at hmr
    cases hmr with
    | map hg2 =>
      rw [hg] at hg2; cases hg2
      exact ⟨B, O, C, es', hg, ha, hr, rfl, hx'⟩
  have hck := fun (v : Value) (em : Bool) (w : World) => checkKey_plain (he.ty kt ik hik).1 hkk em v w
  split at h
  · rename_i q v hf
    refine ⟨_, s, h, Raw.refl hw, fun γ n a w hT hS _ => ?_⟩
    obtain ⟨B, O, C, es', hg, ha, hr, hm', hx'⟩ := common hT hS
    have hu := ok_underlying he hi w
    rw [hd] at hu
    rcases findQ_rel he h2 es es'.toList 0 _ hr hf with ⟨h3, _⟩ | ⟨j, v1, v', h3, h4, h9⟩
    · cases h3
    · cases h3
      have hget : (getObj B).run P w = .ok (.map es' clock) w := by simp [getObj, Sem.run, ha]
      have hfk : (Instr.findKey kt (Rho.val sy) es'.toList).run P w = .ok (some (q, v')) w := by simp [Instr.findKey, ok_underlying he hik, h9]
      cases ok with
      | true =>
        have : VRel γ (.tuple [v, .bool true].toArray) (.tuple [v', .bool true].toArray) := VRel.tupleOf (.cons h4 (.cons (.bool true) (.nil γ)))
        exact ⟨γ, w, _, Step.refl hS, this, .inl (by simp [execOp, ho, Instr.lookup, hu, hm', hx', hget, hck, hfk])⟩
      | false => exact ⟨γ, w, _, Step.refl hS, h4, .inl (by simp [execOp, ho, Instr.lookup, hu, hm', hx', hget, hck, hfk])⟩
  · rename_i hf
    split at h
    case h_2 => cases h
    rename_i z hz
    cases h3 : plain 8 z with
    | false => simp only [h3, cond_false] at h; cases h
    | true =>
      simp only [h3, cond_true] at h
      refine ⟨_, s, h, Raw.refl hw, fun γ n a w hT hS _ => ?_⟩
      obtain ⟨B, O, C, es', hg, ha, hr, hm', hx'⟩ := common hT hS
      have hu := ok_underlying he hi w
      rw [hd] at hu
      rcases findQ_rel he h2 es es'.toList 0 _ hr hf with ⟨_, h9⟩ | ⟨j, v1, v', h4, _⟩
      · have hget : (getObj B).run P w = .ok (.map es' clock) w := by simp [getObj, Sem.run, ha]
        have hfk : (Instr.findKey kt (Rho.val sy) es'.toList).run P w = .ok none w := by simp [Instr.findKey, ok_underlying he hik, h9]
        have hzz := ok_zero he hie hz w
        cases ok with
        | true =>
          have : VRel γ (.tuple [z, .bool false].toArray) (.tuple [z, .bool false].toArray) := VRel.tupleOf (.cons (plain_rel γ 8 z h3) (.cons (.bool false) (.nil γ)))
          exact ⟨γ, w, _, Step.refl hS, this, .inl (by simp [execOp, ho, Instr.lookup, hu, hm', hx', hget, hck, hfk, hzz])⟩
        | false => exact ⟨γ, w, _, Step.refl hS, plain_rel γ 8 z h3, .inl (by simp [execOp, ho, Instr.lookup, hu, hm', hx', hget, hck, hfk, hzz])⟩
      · cases h4
  · cases h
def lstPut (T : Tm) (op : Op) : Option (Nat × Nat × TypeId × Operand) := match op with
  | .store t x y => match aev T x with
    | some (.pointer (some ⟨id, r, some 3⟩)) => some (id, r, t, y)
    | _ => none
  | _ => none
def lstMake (T : Tm) (op : Op) : Option (TypeId × Nat) := match op with
  | .makeSlice t x y => match aev T x, aev T y with
    | some (.chan (some a)), some (.chan (some b)) => cond (Nat.beq a b) (some (t, a)) none
    | _, _ => none
  | _ => none
def keyQ (T : Tm) (op : Op) : Option (TypeId × Operand × Nat × Bool) := match op with
  | .lookup t m x ok => match aev T x with
    | some (.chan (some a)) => some (t, m, a, ok)
    | _ => none
  | _ => none
/-- An append to a list. -/
def lstArg (T : Tm) (op : Op) : Option (Nat × Nat × Operand × TypeId × TypeId) := match op with
  | .call ⟨.builtin .append, ⟨[x, y]⟩, ⟨[t, tx]⟩⟩ => match aev T x with
    | some (.pointer (some ⟨id, sy, some 2⟩)) => some (id, sy, y, t, tx)
    | _ => none
  | _ => none
def heapSym {β : Type} (e : Env) (T : Tm) (s : St) (op : Op) (k : K β) : Option β := match lstOp e T s op with
  | some v => k v s
  | none => match lstArg T op with
    | some (id, sy, y, t, tx) => lAppend e T s id sy y t tx k
    | none => match symOp e T op with
      | some v => k v s
      | none => match lstPut T op with
        | some (id, r, t, y) => lStore e T s id r t y k
        | none => match lstMake T op with
          | some (t, a) => lMake e s a t k
          | none => match keyQ T op with
            | some (t, m, a, ok) => hLookupQ e T s t m a ok k
            | none => heapOp e T s op k
def heapS {β : Type} (e : Env) (T : Tm) (s : St) (op : Op) (k : K β) : Option β := cond e.on (heapSym e T s op k) (heapOp e T s op k)
theorem heapOp_ok {β : Type} {P : Program} {e : Env} (he : Env.Ok P e) {T : Tm} {s : St} {o : Oper} {k : K β} {r : β} (h : heapOp e T s o.op k = some r) (hw : s.Wf) :
    ∃ v s', k v s' = some r ∧ Raw s s' ∧ HOk P o T s s' v := by
  obtain ⟨dst, op, type, pos, after, guard⟩ := o
  simp only at h
  unfold heapOp at h
  split at h
  · exact hAlloc_ok he rfl h hw
  · exact hBox_ok rfl h hw
  · exact hBuildSlice_ok he rfl h hw
  · exact hLoad_ok he rfl h hw
  · exact hStore_ok he rfl h hw
  · exact hMakeSlice_ok he rfl h hw
  · exact hMakeMap_ok rfl h hw
  · exact hLookup_ok he rfl h hw
  · exact hUpdate_ok he (.inl rfl) h hw
  · exact hUpdate_ok he (.inr rfl) h hw
  · exact hAppend_ok he rfl h hw
  · exact hCopy_ok he rfl h hw
  · exact hClear_ok he rfl h hw
  · exact hDelete_ok he rfl h hw
  · exact hSlice_ok he rfl h hw
  · cases h
theorem heapS_ok {β : Type} {P : Program} {e : Env} (he : Env.Ok P e) {T : Tm} {s : St} {o : Oper} {k : K β} {r : β} (h : heapS e T s o.op k = some r) (hw : s.Wf) :
    ∃ v s', k v s' = some r ∧ Raw s s' ∧ HOk P o T s s' v := by
  unfold heapS at h
  cases hon : e.on with
  | false => rw [hon, cond_false] at h; exact heapOp_ok he h hw
  | true =>
    rw [hon, cond_true] at h
    unfold heapSym at h
    split at h
    · rename_i v hv
      refine ⟨v, s, h, Raw.refl hw, fun γ n a w hT hS _ => ?_⟩
      obtain ⟨v', h1, h2⟩ := lstOp_ok he hv hT hS
      exact ⟨γ, w, v', Step.refl hS, h1, .inl h2⟩
    · split at h
      · rename_i id sy y t tx hla
        obtain ⟨dst, op, type, pos, after, guard⟩ := o
        simp only at h hla
        unfold lstArg at hla
        split at hla
        · split at hla
          · rename_i hx
            injection hla with hla
            cases hla
            exact lAppend_ok he rfl hx h hw
          · cases hla
        · cases hla
      · split at h
        · rename_i v hv
          refine ⟨v, s, h, Raw.refl hw, fun γ n a w hT hS _ => ?_⟩
          obtain ⟨v', h1, h2⟩ := symOp_ok he hv hT hS.frz.ok
          exact ⟨γ, w, v', Step.refl hS, h1, .inl h2⟩
        · obtain ⟨dst, op, type, pos, after, guard⟩ := o
          simp only at h
          split at h
          · rename_i id r' t y hla
            unfold lstPut at hla
            split at hla
            · split at hla
              · rename_i hx
                injection hla with hla
                cases hla
                exact lStore_ok he rfl hx h hw
              · cases hla
            · cases hla
          · split at h
            · rename_i t a' hla
              unfold lstMake at hla
              split at hla
              · split at hla
                · rename_i a1 b1 hx hy
                  cases hab : Nat.beq a1 b1 with
                  | false => rw [hab] at hla; cases hla
                  | true =>
                    rw [hab, cond_true] at hla
                    injection hla with hla
                    cases hla
                    have := Nat.eq_of_beq_eq_true hab
                    subst this
                    exact lMake_ok he rfl hx hy h hw
                · cases hla
              · cases hla
            · split at h
              · rename_i t m a' ok hla
                unfold keyQ at hla
                split at hla
                · split at hla
                  · rename_i hx
                    injection hla with hla
                    cases hla
                    exact hLookupQ_ok he rfl hx h hw
                  · cases hla
                · cases hla
              · exact heapOp_ok he (o := ⟨dst, op, type, pos, after, guard⟩) h hw
end Go.Ev
