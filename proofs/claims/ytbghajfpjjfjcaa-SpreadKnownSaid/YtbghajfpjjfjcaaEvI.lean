/- An evaluator of closed Go code, part 9: slices made, appended to, copied. -/
import Derived.Test.YtbghajfpjjfjcaaEvH
import Derived.IntWalk
set_option linter.unusedSimpArgs false
set_option linter.unusedVariables false
namespace Go.Ev
open Go Go.RowKit
variable [Rho]

omit [Rho] in
theorem two40 : (2:Nat) ^ 40 = 1099511627776 := by decide
omit [Rho] in
theorem openCap_val : openCap = 9223372036854775808 := by decide
omit [Rho] in
theorem wrap_small {n : Nat} (h : n < 2 ^ 40) : IntKind.i64.wrap (n : Int) = (n : Int) := IntWalk.i64_in _ (by rw [two40] at h; omega)

def hMakeSlice {β : Type} (e : Env) (T : Tm) (s : St) (t : TypeId) (x y : Operand) (k : K β) : Option β :=
  match e.tyOf t, aev T x, aev T y with
  | some i, some (.int _ (.ofNat l)), some (.int _ (.ofNat c)) => match i.desc with
    | .slice el => match e.tyOf el with
      | some te => match te.zero with
        | some z => cond (plain 8 z) (cond (Nat.beq z.cells.toList.length te.size) (cond (Nat.ble l c) (cond (Nat.blt c 1048576) (cond (Nat.blt te.bytes 1048576)
            (appK (zrep c z.cells.toList) [] fun cs => s.newK (.cells cs el none false) fun id s' => k (.slice (some ⟨id, 0, none⟩) l c) s') none) none) none) none) none
        | none => none
      | none => none
    | _ => none
  | _, _, _ => none

theorem hMakeSlice_ok {β : Type} {P : Program} {e : Env} (he : Env.Ok P e) {T : Tm} {s : St} {o : Oper} {t : TypeId} {x y : Operand} {k : K β} {r : β} (ho : o.op = .makeSlice t x y) (h : hMakeSlice e T s t x y k = some r) (hw : s.Wf) :
    ∃ v s', k v s' = some r ∧ Raw s s' ∧ HOk P o T s s' v := by
  unfold hMakeSlice at h
  split at h
  · rename_i i k1 l k2 c hi hx hy
    split at h
    · rename_i el hd
      split at h
      · rename_i te hte
        split at h
        · rename_i z hz
          cases h1 : plain 8 z with
          | false => simp only [h1, cond_false] at h; cases h
          | true =>
          cases h2 : Nat.beq z.cells.toList.length te.size with
          | false => simp only [h1, h2, cond_true, cond_false] at h; cases h
          | true =>
          cases h3 : Nat.ble l c with
          | false => simp only [h1, h2, h3, cond_true, cond_false] at h; cases h
          | true =>
          cases h4 : Nat.blt c 1048576 with
          | false => simp only [h1, h2, h3, h4, cond_true, cond_false] at h; cases h
          | true =>
          cases h5 : Nat.blt te.bytes 1048576 with
          | false => simp only [h1, h2, h3, h4, h5, cond_true, cond_false] at h; cases h
          | true =>
            simp only [h1, h2, h3, h4, h5, cond_true, appK_eq, List.append_nil] at h
            have h2' := Nat.eq_of_beq_eq_true h2
            have h3' := Nat.le_of_ble_eq_true h3
            have h4' : c < 1048576 := Nat.le_of_ble_eq_true h4
            have h5' : te.bytes < 1048576 := Nat.le_of_ble_eq_true h5
            obtain ⟨s', hk, hraw, hn, hd0, hat⟩ := St.newK_inv h hw
            refine ⟨_, s', hk, hraw, fun γ n a w hT hS hf => ?_⟩
            have hg := hf s.next (Nat.le_refl _) (by omega)
            have hx' := (aev_rel hT hx).int_inv
            have hy' := (aev_rel hT hy).int_inv
            have hu := ok_underlying he hi w
            rw [hd] at hu
            obtain ⟨j, hj, hjp, hjs, hjb, hjz⟩ := ok_bytes he hte w
            have hzs : z.cells.size = te.size := by simpa using h2'
            have hz' := ok_zero he hte hz w
            have harr := zrep_array c z.cells
            have hlen : ((Array.range (c * te.size)).map (fun i => z.cells[i % z.cells.size]!)).toList = zrep c z.cells.toList := by rw [← hzs]; exact harr
            refine ⟨γ.add s.next (w.heap.size, 0, 0), { w with heap := w.heap.push (.cells ((Array.range (c * te.size)).map (fun i => z.cells[i % z.cells.size]!)) el (0, 0)), drawn := w.drawn }, .slice (some ⟨w.heap.size, 0, none⟩) l c, ?_, ?_, .inl ?_⟩
            · rw [hn, hat]
              refine Step.newRow (C := 0) hS hg ?_ ?_ (by simp) _
              · rw [← hlen]; simp
              · rw [hlen, List.take_of_length_le (Nat.le_refl _)]
                exact zrep_rel (plain_rel γ 8 z h1).cells c
            · have hcap : capOf 0 c = c := capOf_exact (by rw [openCap_val]; omega)
              have := VRel.slice (γ := γ.add s.next (w.heap.size, 0, 0)) 0 l c (Gam.add_same γ s.next (w.heap.size, 0, 0)) (by rw [hcap]; exact h3')
              rw [hcap] at this
              exact this
            · have e1 : IntKind.i64.wrap (Int.ofNat l) = (l : Int) := wrap_small (n := l) (by rw [two40]; omega)
              have e2 : IntKind.i64.wrap (Int.ofNat c) = (c : Int) := wrap_small (n := c) (by rw [two40]; omega)
              have hmul : te.bytes * c ≤ 1048576 * 1048576 := Nat.mul_le_mul (by omega) (by omega)
              have e3 : ¬ ((c : Int) < 0) := by omega
              have e4 : ¬ ((2 : Int) ^ 48 < (te.bytes : Int) * (c : Int)) := by
                have : ((te.bytes * c : Nat) : Int) = (te.bytes : Int) * (c : Int) := by simp
                rw [← this]
                have : (2 : Int) ^ 48 = 281474976710656 := by decide
                omega
              have e5 : ¬ ((l : Int) < 0) := by omega
              have e6 : ¬ ((l : Int) > (c : Int)) := by omega
              have hcond : (((decide ((c : Int) < 0) || decide ((te.bytes : Int) * (c : Int) > 2 ^ 48)) || decide ((l : Int) < 0)) || decide ((l : Int) > (c : Int))) = false := by
                simp only [e3, e5, e6, gt_iff_lt, e4, decide_false, Bool.or_false]
              by_cases hc0 : c * te.size = 0
              · simp only [execOp, ho, Instr.makeSlice, hx', hy', asInt, asIntOf, Sem.run_bind, Sem.run_pure, hu, Result.andThen_ok, hj, e1, e2, hjb]
                rw [if_neg (by rw [hcond]; simp)]
                have hrng : ∀ f g : Nat → Value, (Array.range (c * te.size)).map f = (Array.range (c * te.size)).map g := by intro f g; rw [hc0]; simp
                rw [hrng (fun i => z.cells[i % z.cells.size]!) (fun i => (#[] : Array Value)[i % (#[] : Array Value).size]!)]
                simp [ok_sizeOf he hte, hc0, newRow]
              · simp only [execOp, ho, Instr.makeSlice, hx', hy', asInt, asIntOf, Sem.run_bind, Sem.run_pure, hu, Result.andThen_ok, hj, e1, e2, hjb]
                rw [if_neg (by rw [hcond]; simp)]
                simp [ok_sizeOf he hte, hc0, hz', newRow]
        · cases h
      · cases h
    · cases h
  · cases h

def hBuildSlice {β : Type} (e : Env) (T : Tm) (s : St) (t : TypeId) (len : Nat) (parts : Array (Nat × Operand)) (k : K β) : Option β :=
  match e.tyOf t, aevs T (parts.toList.map (·.2)) with
  | some i, some vs => match i.desc with
    | .slice el => match e.tyOf el with
      | some te => match te.zero with
        | some z => cond (plain 8 z) (cond (Nat.beq z.cells.toList.length te.size) (cond (Nat.blt len 65536) (cond (Nat.blt te.size 256)
            (match fillL (fun i => some (i * te.size, te.size)) (zrep len z.cells.toList) ((parts.toList.map (·.1)).zip vs) with
            | some cs => appK cs [] fun cs => s.newK (.cells cs el none false) fun id s' => k (.slice (some ⟨id, 0, none⟩) len len) s'
            | none => none) none) none) none) none
        | none => none
      | none => none
    | _ => none
  | _, _ => none

theorem hBuildSlice_ok {β : Type} {P : Program} {e : Env} (he : Env.Ok P e) {T : Tm} {s : St} {o : Oper} {t : TypeId} {len : Nat} {parts : Array (Nat × Operand)} {k : K β} {r : β} (ho : o.op = .buildSlice t len parts)
    (h : hBuildSlice e T s t len parts k = some r) (hw : s.Wf) : ∃ v s', k v s' = some r ∧ Raw s s' ∧ HOk P o T s s' v := by
  unfold hBuildSlice at h
  split at h
  · rename_i i vs hi hvs
    split at h
    · rename_i el hd
      split at h
      · rename_i te hte
        split at h
        · rename_i z hz
          cases h1 : plain 8 z with
          | false => simp only [h1, cond_false] at h; cases h
          | true =>
          cases h2 : Nat.beq z.cells.toList.length te.size with
          | false => simp only [h1, h2, cond_true, cond_false] at h; cases h
          | true =>
          cases h3 : Nat.blt len 65536 with
          | false => simp only [h1, h2, h3, cond_true, cond_false] at h; cases h
          | true =>
          cases h4 : Nat.blt te.size 256 with
          | false => simp only [h1, h2, h3, h4, cond_true, cond_false] at h; cases h
          | true =>
            simp only [h1, h2, h3, h4, cond_true] at h
            split at h
            · rename_i cs hcs
              simp only [appK_eq, List.append_nil] at h
              have h2' := Nat.eq_of_beq_eq_true h2
              have h3' : len < 65536 := Nat.le_of_ble_eq_true h3
              have h4' : te.size < 256 := Nat.le_of_ble_eq_true h4
              obtain ⟨s', hk, hraw, hn, hd0, hat⟩ := St.newK_inv h hw
              refine ⟨_, s', hk, hraw, fun γ n a w hT hS hf => ?_⟩
              have hg := hf s.next (Nat.le_refl _) (by omega)
              have hu := ok_underlying he hi w
              rw [hd] at hu
              have hzs : z.cells.size = te.size := by simpa using h2'
              have hz' := ok_zero he hte hz w
              have hrel := aevs_rel hT hvs
              have hlenv : vs.length = parts.size := by have := hrel.1; simpa using this
              have hfst : ((parts.toList.map (·.1)).zip vs).map (·.1) = ((parts.map fun (i, x) => (i, a.eval x)).toList).map (·.1) := by
                rw [List.map_fst_zip (by simp; omega)]
                simp [Array.toList_map, Function.comp_def]
              have hsnd : LRel γ (((parts.toList.map (·.1)).zip vs).map (·.2)) (((parts.map fun (i, x) => (i, a.eval x)).toList).map (·.2)) := by
                rw [List.map_snd_zip (by simp; omega)]
                have e : ((parts.map fun (i, x) => (i, a.eval x)).toList).map (·.2) = (parts.toList.map (·.2)).map a.eval := by simp [Array.toList_map, Function.comp_def]
                rw [e]
                exact hrel
              have hlen : ((Array.range (len * te.size)).map (fun i => z.cells[i % z.cells.size]!)).toList = zrep len z.cells.toList := by rw [← hzs]; exact zrep_array len z.cells
              have hbase : LRel γ (zrep len z.cells.toList) ((Array.range (len * te.size)).map (fun i => z.cells[i % z.cells.size]!)).toList := by rw [hlen]; exact zrep_rel (plain_rel γ 8 z h1).cells len
              obtain ⟨r', hr1, hr2⟩ := fill_rel (γ := γ) (fun i => some (i * te.size, te.size)) _ _ _ _ _ hfst hsnd hbase hcs
              have hmul : len * te.size ≤ 65536 * 256 := Nat.mul_le_mul (by omega) (by omega)
              refine ⟨γ.add s.next (w.heap.size, 0, 0), { w with heap := w.heap.push (.cells r' el (0, 0)), drawn := w.drawn }, .slice (some ⟨w.heap.size, 0, none⟩) len len, ?_, ?_, .inl ?_⟩
              · rw [hn, hat]
                refine Step.newRow (C := 0) hS hg ?_ ?_ (by simp) _
                · have := hr2.1; simp at this; omega
                · rw [List.take_of_length_le (by have := hr2.1; omega)]; exact hr2
              · have hcap : capOf 0 len = len := capOf_exact (by rw [openCap_val]; omega)
                have := VRel.slice (γ := γ.add s.next (w.heap.size, 0, 0)) 0 len len (Gam.add_same γ s.next (w.heap.size, 0, 0)) (by rw [hcap]; exact Nat.le_refl _)
                rw [hcap] at this
                exact this
              · have nb : ¬ (len * te.size > 2 ^ 24) := by
                  have : (2:Nat) ^ 24 = 65536 * 256 := by decide
                  omega
                simp only [execOp, ho, Instr.buildSlice, Sem.run_bind, hu, Result.andThen_ok, ok_sizeOf he hte, nb, if_false, Sem.run_pure]
                by_cases h0 : len * te.size = 0
                · have hrng : ∀ f g : Nat → Value, (Array.range (len * te.size)).map f = (Array.range (len * te.size)).map g := by intro f g; rw [h0]; simp
                  rw [if_pos h0]
                  simp only [Sem.run_bind, Sem.run_pure, Result.andThen_ok]
                  rw [hrng _ (fun i => z.cells[i % z.cells.size]!), hr1]
                  simp [newRow]
                · simp only [h0, if_false, Sem.run_bind, hz', Result.andThen_ok, Sem.run_pure, hr1]
                  simp [newRow]
            · cases h
        · cases h
      · cases h
    · cases h
  · cases h
end Go.Ev
