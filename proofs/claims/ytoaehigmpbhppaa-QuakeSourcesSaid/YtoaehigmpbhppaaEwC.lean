/- Symbols, part 3: what operations on integers yield, said of integers. -/
import Derived.Test.YtoaehigmpbhppaaEwB
set_option linter.unusedSimpArgs false
set_option linter.unusedVariables false
namespace Go.Ev
open Go Go.RowKit

section
variable {P : Program} {w : World} {t : TypeId} {k : IntKind} {x y : Int}

theorem key_eq {key : Key} {args : List Value} {e : Int} (h : y = e) (q : KeyOk P w key args (.int k e)) : KeyOk P w key args (.int k y) := by subst h; exact q
theorem guard_int (op : BinOp) (a b : Operand) : (eqGuard op t a b (.int k x) (.int k y)).run P w = .ok () w := by unfold eqGuard; cases op <;> simp

theorem k_lss_t (h : x < y) : KeyOk P w (.bin .lss t) [.int k x, .int k y] (.bool true) := fun a b => ⟨guard_int .lss a b, by simp [binOp, Op.intCmp, h]⟩
theorem k_lss_f (h : ¬ x < y) : KeyOk P w (.bin .lss t) [.int k x, .int k y] (.bool false) := fun a b => ⟨guard_int .lss a b, by simp [binOp, Op.intCmp]; omega⟩
theorem k_leq_t (h : x ≤ y) : KeyOk P w (.bin .leq t) [.int k x, .int k y] (.bool true) := fun a b => ⟨guard_int .leq a b, by simp [binOp, Op.intCmp, h]⟩
theorem k_leq_f (h : ¬ x ≤ y) : KeyOk P w (.bin .leq t) [.int k x, .int k y] (.bool false) := fun a b => ⟨guard_int .leq a b, by simp [binOp, Op.intCmp]; omega⟩
theorem k_gtr_t (h : x > y) : KeyOk P w (.bin .gtr t) [.int k x, .int k y] (.bool true) := fun a b => ⟨guard_int .gtr a b, by simp [binOp, Op.intCmp]; omega⟩
theorem k_gtr_f (h : ¬ x > y) : KeyOk P w (.bin .gtr t) [.int k x, .int k y] (.bool false) := fun a b => ⟨guard_int .gtr a b, by simp [binOp, Op.intCmp]; omega⟩
theorem k_geq_t (h : x ≥ y) : KeyOk P w (.bin .geq t) [.int k x, .int k y] (.bool true) := fun a b => ⟨guard_int .geq a b, by simp [binOp, Op.intCmp]; omega⟩
theorem k_geq_f (h : ¬ x ≥ y) : KeyOk P w (.bin .geq t) [.int k x, .int k y] (.bool false) := fun a b => ⟨guard_int .geq a b, by simp [binOp, Op.intCmp]; omega⟩
theorem k_eql_t (h : x = y) : KeyOk P w (.bin .eql t) [.int k x, .int k y] (.bool true) := fun a b => ⟨guard_int .eql a b, by simp [binOp, Op.intCmp, h]⟩
theorem k_eql_f (h : ¬ x = y) : KeyOk P w (.bin .eql t) [.int k x, .int k y] (.bool false) := fun a b => ⟨guard_int .eql a b, by simp [binOp, Op.intCmp, h]⟩
theorem k_neq_t (h : x ≠ y) : KeyOk P w (.bin .neq t) [.int k x, .int k y] (.bool true) := fun a b => ⟨guard_int .neq a b, by simp [binOp, Op.intCmp, h]⟩
theorem k_neq_f (h : ¬ x ≠ y) : KeyOk P w (.bin .neq t) [.int k x, .int k y] (.bool false) := fun a b => ⟨guard_int .neq a b, by simp [binOp, Op.intCmp]; omega⟩

theorem k_add (h : k.wrap (x + y) = x + y) : KeyOk P w (.bin .add t) [.int k x, .int k y] (.int k (x + y)) := fun a b => ⟨guard_int .add a b, by simp [binOp, Op.intArith, h]⟩
theorem k_sub (h : k.wrap (x - y) = x - y) : KeyOk P w (.bin .sub t) [.int k x, .int k y] (.int k (x - y)) := fun a b => ⟨guard_int .sub a b, by simp [binOp, Op.intArith, h]⟩
theorem k_mul (h : k.wrap (x * y) = x * y) : KeyOk P w (.bin .mul t) [.int k x, .int k y] (.int k (x * y)) := fun a b => ⟨guard_int .mul a b, by simp [binOp, Op.intArith, h]⟩
theorem k_quo (hy : ¬ y = 0) (h : k.wrap (x.tdiv y) = x.tdiv y) : KeyOk P w (.bin .quo t) [.int k x, .int k y] (.int k (x.tdiv y)) := fun a b => ⟨guard_int .quo a b, by simp [binOp, Op.intDiv, hy, h]⟩
theorem k_rem (hy : ¬ y = 0) : KeyOk P w (.bin .rem t) [.int k x, .int k y] (.int k (x.tmod y)) := fun a b => ⟨guard_int .rem a b, by simp [binOp, Op.intDiv, hy]⟩
theorem k_quo_nn (hx : 0 ≤ x) (hy : 0 < y) (h : k.wrap (x / y) = x / y) : KeyOk P w (.bin .quo t) [.int k x, .int k y] (.int k (x / y)) := by
  have h' := k_quo (P := P) (w := w) (t := t) (k := k) (x := x) (y := y) (by omega) (by rw [Int.tdiv_eq_ediv_of_nonneg hx]; exact h)
  rwa [Int.tdiv_eq_ediv_of_nonneg hx] at h'
theorem k_rem_nn (hx : 0 ≤ x) (hy : 0 < y) : KeyOk P w (.bin .rem t) [.int k x, .int k y] (.int k (x % y)) := by
  have h' := k_rem (P := P) (w := w) (t := t) (k := k) (x := x) (y := y) (by omega)
  rwa [Int.tmod_eq_emod_of_nonneg hx] at h'
theorem k_shr {k' : IntKind} {n : Nat} {d : Int} (hn : n ≤ k.bits) (hd : (2 : Int) ^ n = d) : KeyOk P w (.bin .shr t) [.int k x, .int k' (Int.ofNat n)] (.int k (x / d)) := fun a b => ⟨by unfold eqGuard; simp, by
  have : min n k.bits = n := Nat.min_eq_left hn
  have h0 : ¬ ((n : Int) < 0) := by omega
  have h2 : (0 : Int) ≤ 2 ^ n := Int.le_of_lt (Int.pow_pos (by decide))
  subst hd
  simp [binOp, Op.shift, this, h0, Int.fdiv_eq_ediv_of_nonneg _ h2]⟩
theorem k_neg (h : k.wrap (-x) = -x) : KeyOk P w (.un .neg) [.int k x] (.int k (-x)) := by
  show (Op.unary .neg (.int k x)).run P w = _
  simp [Op.unary, Op.intArith, h]
theorem k_conv {s d : TypeId} {ds : TypeDesc} (hs : P.underlying s = some ds) (hd : P.underlying d = some (.int k)) {k' : IntKind} (h : k.wrap x = x) : KeyOk P w (.conv s d) [.int k' x] (.int k x) := by
  show (convert s d (.int k' x)).run P w = _
  simp [convert, run_underlying hs, run_underlying hd, Conv.intToInt, h]
theorem k_max {l : List TypeId} : KeyOk P w (.bi 2 l) [.int k x, .int k y] (.int k (max x y)) := fun ty => by
  have : (if x < y then y else x) = max x y := by split <;> omega
  simp [Builtin.max_, Builtin.max2, this]
theorem k_min {l : List TypeId} : KeyOk P w (.bi 3 l) [.int k x, .int k y] (.int k (min x y)) := fun ty => by
  have : (if y < x then y else x) = min x y := by split <;> omega
  simp [Builtin.min_, Builtin.min2, this]
theorem k_len {s : TypeId} {el : TypeId} (hs : P.underlying s = some (.slice el)) {a : Option Addr} {n c : Nat} : KeyOk P w (.bi 0 [s]) [.slice a n c] (.int .i64 n) := fun ty => by
  simp [Builtin.len_, run_underlying hs, goInt]

theorem k_load {el : TypeDesc} (ht : P.underlying t = some el) (hr : el.isRow = false) {B o : Nat} {arr : Array Value} {t0 : TypeId} (hB : w.heap[B]? = some (.cells arr t0 (0, 0))) {v : Value} (hv : arr[o]? = some v) :
    KeyOk P w (.load t) [.pointer (some ⟨B, o, none⟩)] v := by
  show (Instr.loadAt t (.pointer (some ⟨B, o, none⟩))).run P w = _
  have hcell : w.cell? ⟨B, o, none⟩ = some v := by simp [World.cell?, hB, hv]
  have hag : (isAgg t).run P w = .ok false w := by
    unfold isAgg
    rw [Sem.run_bind, run_underlying ht]
    simp only [Result.andThen_ok]
    cases el <;> first | rfl | cases hr
  simp [Instr.loadAt, Instr.sureAddr, loadVar, hag, hcell]
/-- A string of the code that is indexed. -/
def strOp : List Oper → Option Value
  | [] => none
  | o :: os => match o.op with
    | .index _ (.const (.string s)) _ => some (.string s)
    | _ => strOp os
def strOf : Code → Option Value
  | .seq a b => match strOf a with
    | some v => some v
    | none => strOf b
  | .cond _ a b => match strOf a with
    | some v => some v
    | none => strOf b
  | .region _ ops _ => strOp ops.toList
  | _ => none
theorem wrapU8 {n : Int} (h : 0 ≤ n ∧ n ≤ 255) : IntKind.u8.wrap n = n := IntWalk.u8_in n (by omega)
/-- A call whose argument is a closure with one variable in a box. -/
theorem cent_box [Rho] {P : Program} {e : Env} {f g : FuncId} {k : IntKind} {N : Int} {id : Nat} {v res : Value} {t : TypeId} {room : Option Nat} {ro : Bool} (hv : closed 3 res = true) (hf : ∃ fn c, e.fnOf f = some fn ∧ fn.body = some c) (hc : closed 3 v = true)
    (h : ∀ (B o : Nat) (arr : Array Value) (w : World), w.heap[B]? = some (.cells arr t (0, 0)) → arr[o]? = some (den 3 v) → Calls P f #[.int k N, .func (.func g) #[] #[.pointer (some ⟨B, o, none⟩)]] w (fun en w' => en = .returned (den 3 res) ∧ Below w.heap.size w w')) :
    CEntOk P e ⟨f, [.int k N, .func (.func g) #[] #[.pointer (some ⟨id, 0, none⟩)]], [(id, .cells [v] t room ro)], res⟩ := by
  refine ⟨hv, hf, fun γ args' w hr hn _ => ?_⟩
  obtain ⟨B, O, C, arr, q1, q2, _, q4, _⟩ := hn.1
  obtain ⟨v', r1, r2⟩ := q4 0 (by simp)
  have r3 := closed_eq γ 3 v v' hc r2
  have hl : args'.toList.length = 2 := hr.1.symm
  have e0 : ∃ a b, args' = #[a, b] := by
    match hm : args'.toList, hl with
    | [a, b], _ => exact ⟨a, b, by rw [← hm]⟩
  obtain ⟨a, b, rfl⟩ := e0
  have h0 : VRel γ (.int k N) a := hr.2 0 (by simp) (by simp)
  have h1 : VRel γ (.func (.func g) #[] #[.pointer (some ⟨id, 0, none⟩)]) b := hr.2 1 (by simp) (by simp)
  cases h0
  cases h1 with
  | func fn hfn fi fi' ca ca' hs hv2 gs gv =>
    have e1 : fi' = #[] := Array.eq_empty_of_size_eq_zero (by simpa using hs.symm)
    have e2 : ∃ p, ca' = #[p] := by
      have : ca'.toList.length = 1 := by simpa using gs.symm
      match hm : ca'.toList, this with
      | [p], _ => exact ⟨p, by rw [← hm]⟩
    obtain ⟨p, rfl⟩ := e2
    subst e1
    have h2 : VRel γ (.pointer (some ⟨id, 0, none⟩)) p := gv 0 (by simp) (by simp)
    obtain ⟨B', O', C', g1, rfl⟩ := h2.ptr_inv
    rw [q1] at g1
    cases g1
    exact h B (O + 0) arr w q2 (by rw [r1, r3])
/-- An entry for a call without names, from a contract. -/
theorem CEntOk.of [Rho] {P : Program} {e : Env} {f : FuncId} {args : List Value} {v : Value} (vals : Array Value) (r : Value) (hv : Go.Ev.closed 3 v = true) (hf : ∃ fn c, e.fnOf f = some fn ∧ fn.body = some c) (ha : args.all (Go.Ev.closed 3) = true)
    (hd : dens 3 args = vals.toList) (hr : den 3 v = r) (hc : ∀ w, MemOk w → Calls P f vals w (fun en w' => en = .returned r ∧ Below w.heap.size w w')) : CEntOk P e ⟨f, args, [], v⟩ :=
  CEntOk.closed hv hf ha (fun w hm => by
    rw [hd, hr]
    exact hc w hm)
/-- An element's place. -/
theorem k_index {el : TypeId} {sz : Nat} (ht : P.underlying t = some (.slice el)) (hs : (P.info? el).map (·.size) = some sz) {B o n c : Nat} {i : Int} (h0 : 0 ≤ i) (h1 : i < n) :
    KeyOk P w (.indexAddr t) [.slice (some ⟨B, o, none⟩) n c, .int k i] (.pointer (some ⟨B, o + i.toNat * sz, none⟩)) := by
  obtain ⟨j, rfl⟩ : ∃ j : Nat, i = j := ⟨i.toNat, by omega⟩
  show (Instr.indexAt t (.slice (some ⟨B, o, none⟩) n c) (.int k (j : Int))).run P w = _
  have hlt : j < n := by omega
  obtain ⟨info, hi, hsz⟩ : ∃ info, P.info? el = some info ∧ info.size = sz := by
    cases hq : P.info? el with
    | none => rw [hq] at hs; cases hs
    | some info => rw [hq] at hs; injection hs with hs; exact ⟨info, rfl, hs⟩
  have hsize : (sizeOf el).run P w = .ok sz w := by simp [sizeOf, typeInfo, hi, hsz]
  simp only [Instr.indexAt, asIntOf, Sem.run_bind, Sem.run_pure, Result.andThen_ok, run_underlying ht]
  simp [hlt, hsize, Addr.add_mid]
/-- A field's place. -/
theorem k_fieldAddr {fs : Array Field} {f : Nat} {fl : Field} {sz : Nat} (ht : P.underlying t = some (.struct fs)) (hf : fs[f]? = some fl) (hs : (P.info? fl.type).map (·.size) = some sz) (hz : ¬ sz = 0) {B o : Nat} :
    KeyOk P w (.fieldAddr t f) [.pointer (some ⟨B, o, none⟩)] (.pointer (some ⟨B, o + fl.offset, none⟩)) := by
  show (Instr.fieldAt t (.pointer (some ⟨B, o, none⟩)) f).run P w = _
  obtain ⟨info, hi, hsz⟩ : ∃ info, P.info? fl.type = some info ∧ info.size = sz := by
    cases hq : P.info? fl.type with
    | none => rw [hq] at hs; cases hs
    | some info => rw [hq] at hs; injection hs with hs; exact ⟨info, rfl, hs⟩
  have hsize : (sizeOf fl.type).run P w = .ok sz w := by simp [sizeOf, typeInfo, hi, hsz]
  have hpl : (fieldPlace ⟨B, o, none⟩ fl).run P w = .ok ⟨B, o + fl.offset, none⟩ w := by simp [fieldPlace, hsize, hz, Addr.add_mid]
  simp [Instr.fieldAt, run_underlying ht, hf, Instr.sureAddr, hpl]
/-- A struct's cells. -/
theorem k_loadS {d : TypeDesc} (ht : P.underlying t = some d) (hr : d.isRow = true) {l : List Value} (hs : (P.info? t).map (·.size) = some l.length) {B o : Nat} {arr : Array Value} {t0 : TypeId} (hB : w.heap[B]? = some (.cells arr t0 (0, 0)))
    (hv : ∀ j v, l[j]? = some v → arr[o + j]? = some v) : KeyOk P w (.load t) [.pointer (some ⟨B, o, none⟩)] (.agg l.toArray) := by
  show (Instr.loadAt t (.pointer (some ⟨B, o, none⟩))).run P w = _
  obtain ⟨info, hi, hsz⟩ : ∃ info, P.info? t = some info ∧ info.size = l.length := by
    cases hq : P.info? t with
    | none => rw [hq] at hs; cases hs
    | some info => rw [hq] at hs; injection hs with hs; exact ⟨info, rfl, hs⟩
  have hrange : ∀ j v, l[j]? = some v → w.cell? ⟨B, o + j, none⟩ = some v := fun j v hj => by simp [World.cell?, hB, hv j v hj]
  simp [Instr.loadAt, Instr.sureAddr, run_loadVar_mid w B o t l d hrange ht hr (by simp [hi, hsz])]
theorem wrap64 {n : Int} (h : -9223372036854775808 ≤ n ∧ n ≤ 9223372036854775807) : IntKind.i64.wrap n = n := IntWalk.i64_in n (by omega)
theorem wrapU64 {n : Int} (h : 0 ≤ n ∧ n ≤ 18446744073709551615) : IntKind.u64.wrap n = n := by simp [IntKind.wrap, IntKind.bits, IntKind.signed]; omega
end
end Go.Ev
