/- Symbols, part 5: functions that return new lists; slices that are read, nil or not. -/
import Derived.Test.YtoaehigmpbhppaaEwD
set_option linter.unusedSimpArgs false
set_option linter.unusedVariables false
namespace Go.Ev
open Go Go.RowKit

section
variable [Rho]

/-- The end of a function, whatever it returns. -/
theorem At.lastK {P : Program} {e : Env} (he : Env.Ok P e) {w0 : World} {n : Nat} {c : Code} {fn : Func} {fr : Fr} {s : St} {K : Value → St → Option Unit} {R : Ending → World → Prop}
    (h : ev P e n (.code c none fr s (retK e fn K)) = some ()) (hw : s.Wf)
    {a : Act} {w : World} (hat : At w0 fr s a w) (hR : ∀ v s2, K v s2 = some () → ∀ γ w2 v', Step 0 s2.next (fun _ => none) start.at w0 γ s2.at w2 → VRel γ v v' → R (.returned v') w2) : c.wpIn (FF none) 0 P (bodyPostM Fence.wide 0 P fn R) a w := by
  obtain ⟨ex, fr1, s1, hk, hw1, hgo⟩ := At.run he h hw
  have main : ∀ (hex : ex = .normal ∨ ex = .ret), (dropMarks fr1.D s1 fun s2 => match resAs e fr1.T s2 fn.results.toList with | some vs => K (resV vs) s2 | none => none) = some () →
      c.wpIn (FF none) 0 P (bodyPostM Fence.wide 0 P fn R) a w := by
    intro hex hdm
    obtain ⟨s2, hk2, hraw2, hn2, hmarks⟩ := dropMarks_ok (P := P) (fn := fn) fr1.D s1 _ () hdm hw1
    split at hk2
    case h_2 => cases hk2
    rename_i vs hvs
    refine hgo a w hat _ (fun a1 w1 ⟨γ1, st1, hf1, _⟩ => ?_)
    have hl : LeavesInM Fence.wide 0 P fn a1.tmps R a1.defers .returning w1 := by
      refine hmarks γ1 w1 a1.defers a1.tmps R hf1.2 st1.sat (fun w2 st2 => ?_)
      obtain ⟨v', hr, hvr⟩ := results_ok he hvs hf1.1 st2.sat
      have stt := st1.trans (Nat.zero_le _) hraw2.next st2
      exact ⟨v', hr, hR _ s2 hk2 γ1 w2 v' stt hvr⟩
    rcases hex with rfl | rfl <;> exact hl
  unfold retK at hk
  cases ex with
  | exit id => cases hk
  | normal => exact main (.inl rfl) hk
  | ret => exact main (.inr rfl) hk

def stopRK (e : Env) (fn : Func) (K : Value → St → Option Unit) (ex : Ex) (fr : Fr) (s : St) : Option Unit := match ex with
  | .ret => retK e fn K .ret fr s
  | _ => none

/-- A piece of code that returns, whatever it returns. -/
theorem At.retGK {P : Program} {e : Env} (he : Env.Ok P e) {w0 : World} {n : Nat} {c : Code} {fn : Func} {fr : Fr} {s : St} {K : Value → St → Option Unit} {R : Ending → World → Prop}
    (h : ev P e n (.code c none fr s (stopRK e fn K)) = some ()) (hw : s.Wf)
    {a : Act} {w : World} (hat : At w0 fr s a w) (hR : ∀ v s2, K v s2 = some () → ∀ γ w2 v', Step 0 s2.next (fun _ => none) start.at w0 γ s2.at w2 → VRel γ v v' → R (.returned v') w2) {Q : Exit → Act → World → Prop}
    (hQ : ∀ a' w', bodyPostM Fence.wide 0 P fn R .ret a' w' → Q .ret a' w') : c.wpIn (FF none) 0 P Q a w := by
  obtain ⟨ex, fr1, s1, hk, hw1, hgo⟩ := At.run he h hw
  cases ex with
  | normal => cases hk
  | exit id => cases hk
  | ret =>
    have hdm : (dropMarks fr1.D s1 fun s2 => match resAs e fr1.T s2 fn.results.toList with | some vs => K (resV vs) s2 | none => none) = some () := hk
    obtain ⟨s2, hk2, hraw2, hn2, hmarks⟩ := dropMarks_ok (P := P) (fn := fn) fr1.D s1 _ () hdm hw1
    split at hk2
    case h_2 => cases hk2
    rename_i vs hvs
    refine hgo a w hat _ (fun a1 w1 ⟨γ1, st1, hf1, _⟩ => hQ a1 w1 ?_)
    have hl : LeavesInM Fence.wide 0 P fn a1.tmps R a1.defers .returning w1 := by
      refine hmarks γ1 w1 a1.defers a1.tmps R hf1.2 st1.sat (fun w2 st2 => ?_)
      obtain ⟨v', hr, hvr⟩ := results_ok he hvs hf1.1 st2.sat
      have stt := st1.trans (Nat.zero_le _) hraw2.next st2
      exact ⟨v', hr, hR _ s2 hk2 γ1 w2 v' stt hvr⟩
    exact hl

/-- A result with one new list, in front, or alone. -/
def splitU : Value → Option (Nat × Nat × Option (List Value))
  | .pointer (some ⟨id, sy, some 2⟩) => some (id, sy, none)
  | .tuple cs => match cs.toList with
    | .pointer (some ⟨id, sy, some 2⟩) :: rest => cond (rest.all (closed 3)) (some (id, sy, some rest)) none
    | _ => none
  | _ => none
def joinU (sl : Value) : Option (List Value) → Value
  | none => sl
  | some rest => .tuple ⟨sl :: dens 3 rest⟩
theorem splitU_ok {γ : Gam} {u v' : Value} {id sy : Nat} {rest : Option (List Value)} (h : splitU u = some (id, sy, rest)) (hr : VRel γ u v') : ∃ sl, VRel γ (.pointer (some ⟨id, sy, some 2⟩)) sl ∧ v' = joinU sl rest := by
  unfold splitU at h
  split at h
  · injection h with h
    cases h
    exact ⟨v', hr, rfl⟩
  · rename_i cs
    split at h
    · rename_i b s r hcs
      cases hc : r.all (closed 3) with
      | false => rw [hc] at h; cases h
      | true =>
        rw [hc, cond_true] at h
        injection h with h
        cases h
        cases hr with
        | tuple f f' hs hv =>
          have hl : LRel γ cs.toList f'.toList := ARel.toList ⟨hs, hv⟩
          rw [hcs] at hl
          match hm : f'.toList, hl with
          | [], hl => have := hl.1; simp at this
          | x :: l, hl =>
            have h0 : VRel γ (.pointer (some ⟨id, sy, some 2⟩)) x := by have := hl.2 0 (by simp) (by simp); exact this
            have ht : LRel γ r l := by simpa using hl.drop 1
            refine ⟨x, h0, ?_⟩
            have e2 := closed_eqs γ 3 _ _ hc ht
            show Value.tuple f' = .tuple ⟨x :: dens 3 r⟩
            rw [← e2, ← hm]
    · cases h
  · cases h

/-- The end that returns a list: the value, and what its name stands for. -/
def endL (u : Value) (id k t sz : Nat) (v : Value) (s : St) : Option Unit := cond (trueV 6 u v) (cond (sameAB (.lst k t sz) (s.at id)) (some ()) none) none

theorem endL_ok {P : Program} {w0 : World} {u : Value} {id sy k t sz n : Nat} {rest : Option (List Value)} {R : Ending → World → Prop} (hu : splitU u = some (id, sy, rest)) (hv : Rho.val sy = .int .i64 (n : Nat)) (hl : (Rho.lst k).length = n * sz)
    (hR : ∀ w' a C, Below w0.heap.size w0 w' → NewList w0 w' t sz (Rho.lst k) a n C → R (.returned (joinU (.slice a n C) rest)) w') :
    ∀ v s2, endL u id k t sz v s2 = some () → ∀ γ w2 v', Step 0 s2.next (fun _ => none) start.at w0 γ s2.at w2 → VRel γ v v' → R (.returned v') w2 := by
  intro v s2 h γ w2 v' st hr
  unfold endL at h
  cases h1 : trueV 6 u v with
  | false => rw [h1] at h; cases h
  | true =>
  cases h2 : sameAB (.lst k t sz) (s2.at id) with
  | false => rw [h1, h2] at h; cases h
  | true =>
    have e1 := trueV_eq 6 _ _ h1
    have e2 := sameAB_eq h2
    subst e1
    obtain ⟨sl, q1, rfl⟩ := splitU_ok hu hr
    have hno : ∀ B, ¬ Own (fun _ => none) start.at B := fun B ⟨id, O, C, h1, h2⟩ => by cases h2
    have hb : Below w0.heap.size w0 w2 := ⟨st.os, st.tape, st.output, st.size, fun k hk => st.frame k hk (hno k)⟩
    rcases q1.lst_inv with ⟨B, O, C, n', hg, hv2, hnC, rfl⟩ | ⟨hv2, rfl⟩
    · have hn' : n' = n := by rw [hv] at hv2; injection hv2 with _ q; omega
      subst hn'
      have hsb := st.sat.blk id
      rw [← e2] at hsb
      rcases hsb with ⟨_, q⟩ | ⟨B', O', C', arr, hg', ha, hroom, hll, hc⟩
      · rw [hg] at q; cases q
      · rw [hg] at hg'
        cases hg'
        have hown : Own γ s2.at B := ⟨id, O, C, by rw [← e2]; rfl, hg⟩
        refine hR w2 _ C hb ⟨hl, .inr ⟨B, O, arr, rfl, ?_, ha, hroom, hnC, hc⟩⟩
        rcases st.own B hown with q | q
        · exact absurd q (hno B)
        · exact q
    · have hn0 : n = 0 := by rw [hv] at hv2; injection hv2 with _ q; omega
      subst hn0
      exact hR w2 none 0 hb ⟨hl, .inl ⟨rfl, rfl, rfl⟩⟩

/-- The end that returns what has no names. -/
def endV (u v : Value) (_ : St) : Option Unit := cond (sameV 4 u v) (some ()) none
theorem endV_ok {w0 : World} {u : Value} {R : Ending → World → Prop} (hu : closed 3 u = true) (hR : ∀ w', Below w0.heap.size w0 w' → R (.returned (den 3 u)) w') :
    ∀ v s2, endV u v s2 = some () → ∀ γ w2 v', Step 0 s2.next (fun _ => none) start.at w0 γ s2.at w2 → VRel γ v v' → R (.returned v') w2 := by
  intro v s2 h γ w2 v' st hr
  unfold endV at h
  cases h1 : sameV 4 u v with
  | false => rw [h1] at h; cases h
  | true =>
    have e1 := sameV_eq 4 _ _ h1
    subst e1
    have hno : ∀ B, ¬ Own (fun _ => none) start.at B := fun B ⟨id, O, C, h1, h2⟩ => by cases h2
    rw [closed_eq γ 3 _ _ hu hr]
    exact hR w2 ⟨st.os, st.tape, st.output, st.size, fun k hk => st.frame k hk (hno k)⟩
end

/-! ### slices that are read, nil or not -/
/-- A slice's cells, in a world. -/
def Lies (w : World) (t : TypeId) (L : List Value) (a : Option Addr) (n : Nat) : Prop := n = 0 ∨ ∃ B O arr fz, a = some ⟨B, O, none⟩ ∧ w.heap[B]? = some (.cells arr t fz) ∧ ∀ i (h : i < L.length), arr[O + i]? = some L[i]
theorem Lies.of_new {w w' : World} {t : TypeId} {sz n C : Nat} {L : List Value} {a : Option Addr} (h : NewList w w' t sz L a n C) : Lies w' t L a n := by
  rcases h with ⟨_, ⟨_, h, _⟩ | ⟨B, O, arr, h1, _, h2, _, _, h3⟩⟩
  · exact .inl h
  · exact .inr ⟨B, O, arr, _, h1, h2, h3⟩
def ptrO (a : Option Addr) (m : Nat) : Option Addr := match a with
  | some ⟨B, O, _⟩ => some ⟨B, O + m, none⟩
  | none => none
/-- Nobody writes to what a slice shows. -/
def Frozen (mem : Nat → Option Obj) (t : TypeId) (L : List Value) (a : Option Addr) (n : Nat) : Prop := n = 0 ∨ ∃ B O arr, a = some ⟨B, O, none⟩ ∧ mem B = some (.cells arr t (0, 0)) ∧ ∀ i (h : i < L.length), arr[O + i]? = some L[i]
theorem Frozen.lies {ρ : Rho} {t : TypeId} {L : List Value} {a : Option Addr} {n : Nat} (h : Frozen ρ.mem t L a n) {w : World} (hm : @MemOk ρ w) : Lies w t L a n := by
  rcases h with h | ⟨B, O, arr, h1, h2, h3⟩
  · exact .inl h
  · exact .inr ⟨B, O, arr, _, h1, hm B _ h2, h3⟩
section
variable {P : Program} {w : World} {t : TypeId} {k : IntKind} {a : Option Addr} {n c : Nat} {L : List Value} {t0 : TypeId}
theorem k_loadz {el : TypeDesc} (ht : P.underlying t = some el) (hr : el.isRow = false) {B o : Nat} {arr : Array Value} {t0 : TypeId} {fz : Nat × Nat} (hB : w.heap[B]? = some (.cells arr t0 fz)) {v : Value} (hv : arr[o]? = some v) :
    KeyOk P w (.load t) [.pointer (some ⟨B, o, none⟩)] v := by
  show (Instr.loadAt t (.pointer (some ⟨B, o, none⟩))).run P w = _
  have hcell : w.cell? ⟨B, o, none⟩ = some v := by simp [World.cell?, hB, hv]
  have hag : (isAgg t).run P w = .ok false w := by
    unfold isAgg
    rw [Sem.run_bind, run_underlying ht]
    simp only [Result.andThen_ok]
    cases el <;> first | rfl | cases hr
  simp [Instr.loadAt, Instr.sureAddr, loadVar, hag, hcell]
/-- A struct's cells. -/
theorem k_loadSz {d : TypeDesc} (ht : P.underlying t = some d) (hr : d.isRow = true) {l : List Value} (hs : (P.info? t).map (·.size) = some l.length) {B o : Nat} {arr : Array Value} {t0 : TypeId} {fz : Nat × Nat} (hB : w.heap[B]? = some (.cells arr t0 fz))
    (hv : ∀ j v, l[j]? = some v → arr[o + j]? = some v) : KeyOk P w (.load t) [.pointer (some ⟨B, o, none⟩)] (.agg l.toArray) := by
  show (Instr.loadAt t (.pointer (some ⟨B, o, none⟩))).run P w = _
  obtain ⟨info, hi, hsz⟩ : ∃ info, P.info? t = some info ∧ info.size = l.length := by
    cases hq : P.info? t with
    | none => rw [hq] at hs; cases hs
    | some info => rw [hq] at hs; injection hs with hs; exact ⟨info, rfl, hs⟩
  have hrange : ∀ j v, l[j]? = some v → w.cell? ⟨B, o + j, none⟩ = some v := fun j v hj => by simp [World.cell?, hB, hv j v hj]
  simp [Instr.loadAt, Instr.sureAddr, run_loadVar_mid w B o t l d hrange ht hr (by simp [hi, hsz])]
theorem l_index {el : TypeId} {sz : Nat} (hl : Lies w t0 L a n) (ht : P.underlying t = some (.slice el)) (hs : (P.info? el).map (·.size) = some sz) {i : Int} (h0 : 0 ≤ i) (h1 : i < n) :
    KeyOk P w (.indexAddr t) [.slice a n c, .int k i] (.pointer (ptrO a (i.toNat * sz))) := by
  rcases hl with h | ⟨B, O, arr, fz, rfl, _, _⟩
  · omega
  · exact k_index ht hs h0 h1
theorem l_load {el : TypeDesc} (hl : Lies w t0 L a n) (hn : 0 < n) (ht : P.underlying t = some el) (hr : el.isRow = false) {m : Nat} {v : Value} (hv : L[m]? = some v) :
    KeyOk P w (.load t) [.pointer (ptrO a m)] v := by
  rcases hl with h | ⟨B, O, arr, fz, rfl, hB, hc⟩
  · omega
  · obtain ⟨q1, q2⟩ := List.getElem?_eq_some_iff.1 hv
    exact k_loadz ht hr hB (by rw [hc m q1, q2])
theorem l_loadS {d : TypeDesc} (hl : Lies w t0 L a n) (hn : 0 < n) (ht : P.underlying t = some d) (hr : d.isRow = true) {l : List Value} (hs : (P.info? t).map (·.size) = some l.length) {m : Nat} (hv : ∀ j v, l[j]? = some v → L[m + j]? = some v) :
    KeyOk P w (.load t) [.pointer (ptrO a m)] (.agg l.toArray) := by
  rcases hl with h | ⟨B, O, arr, fz, rfl, hB, hc⟩
  · omega
  · refine k_loadSz ht hr hs hB (fun j v hj => ?_)
    obtain ⟨q1, q2⟩ := List.getElem?_eq_some_iff.1 (hv j v hj)
    rw [Nat.add_assoc, hc _ q1, q2]
theorem l_field {fs : Array Field} {f : Nat} {fl : Field} {sz : Nat} (hl : Lies w t0 L a n) (hn : 0 < n) (ht : P.underlying t = some (.struct fs)) (hf : fs[f]? = some fl) (hs : (P.info? fl.type).map (·.size) = some sz) (hz : ¬ sz = 0) {m : Nat} :
    KeyOk P w (.fieldAddr t f) [.pointer (ptrO a m)] (.pointer (ptrO a (m + fl.offset))) := by
  rcases hl with h | ⟨B, O, arr, fz, rfl, _, _⟩
  · omega
  · have := k_fieldAddr (P := P) (w := w) (t := t) ht hf hs hz (B := B) (o := O + m)
    rw [Nat.add_assoc] at this
    exact this
end

theorem Lies.keep {w0 w : World} {t : TypeId} {L : List Value} {a : Option Addr} {n : Nat} (h : Lies w0 t L a n) (hm : ∀ (B : Nat) (o : Obj), w0.heap[B]? = some o → w.heap[B]? = some o) : Lies w t L a n := by
  rcases h with h | ⟨B, O, arr, fz, h1, h2, h3⟩
  · exact .inl h
  · exact .inr ⟨B, O, arr, fz, h1, hm B _ h2, h3⟩
theorem Lies.below {w0 w : World} {t : TypeId} {L : List Value} {a : Option Addr} {n : Nat} (h : Lies w0 t L a n) (hb : Below w0.heap.size w0 w) : Lies w t L a n := by
  refine h.keep (fun B o ho => ?_)
  rw [hb.block B (Array.getElem?_eq_some_iff.1 ho).1]
  exact ho

/-! ### calls with lists -/
def lenOf [Rho] (sy : Nat) : Nat := match Rho.val sy with
  | .int _ n => n.toNat
  | _ => 0
def instV [Rho] (asg : Nat → Option Addr × Nat) (i : Nat) (v : Value) : Value := match v with
  | .pointer (some ⟨_, sy, some 2⟩) => .slice (asg i).1 (lenOf sy) (asg i).2
  | v => den 3 v
def instA [Rho] (asg : Nat → Option Addr × Nat) : Nat → List Value → List Value
  | _, [] => []
  | i, v :: l => instV asg i v :: instA asg (i + 1) l
def abOf : List (Nat × AB) → Nat → AB
  | [], _ => .dead
  | p :: l, id => cond (Nat.beq p.1 id) p.2 (abOf l id)
def LiesA [Rho] (w : World) (need : List (Nat × AB)) (asg : Nat → Option Addr × Nat) : Nat → List Value → Prop
  | _, [] => True
  | i, v :: l => (match v with
    | .pointer (some ⟨id, sy, some 2⟩) => match abOf need id with
      | .lst k t _ => Lies w t (Rho.lst k) (asg i).1 (lenOf sy)
      | _ => False
    | _ => True) ∧ LiesA w need asg (i + 1) l
def okArg (need : List (Nat × AB)) (v : Value) : Bool := match v with
  | .pointer (some ⟨id, _, some 2⟩) => match abOf need id with
    | .lst _ _ _ => true
    | _ => false
  | v => closed 3 v
theorem abOf_sat [Rho] {γ : Gam} {w : World} : ∀ {need : List (Nat × AB)} {id : Nat}, NeedsSat γ w need → abOf need id ≠ .dead → SatB γ w id (abOf need id)
  | [], _, _, h => absurd rfl h
  | p :: l, id, ⟨h1, h2⟩, h => by
    unfold abOf at h ⊢
    cases hb : Nat.beq p.1 id with
    | true => rw [← Nat.eq_of_beq_eq_true hb]; exact h1
    | false => rw [hb] at h; exact abOf_sat h2 h
theorem instA_ok [Rho] {γ : Gam} {w : World} {need : List (Nat × AB)} (hn : NeedsSat γ w need) : ∀ (args args' : List Value) (i : Nat), args.all (okArg need) = true → LRel γ args args' → ∃ asg : Nat → Option Addr × Nat, args' = instA asg i args ∧ LiesA w need asg i args
  | [], [], i, _, _ => ⟨fun _ => (none, 0), rfl, trivial⟩
  | [], _ :: _, _, _, h => by have := h.1; simp at this
  | _ :: _, [], _, _, h => by have := h.1; simp at this
  | v :: args, v' :: args', i, ha, h => by
    simp only [List.all_cons, Bool.and_eq_true] at ha
    have h0 : VRel γ v v' := by have := h.2 0 (by simp) (by simp); exact this
    obtain ⟨asg, e1, e2⟩ := instA_ok hn args args' (i + 1) ha.2 (by simpa using h.drop 1)
    have other : ∀ (x : Option Addr × Nat) (l : List Value) (j : Nat), i < j → instA (fun m => if m = i then x else asg m) j l = instA asg j l ∧ (LiesA w need asg j l → LiesA w need (fun m => if m = i then x else asg m) j l) := by
      intro x l
      induction l with
      | nil => intro j hj; exact ⟨rfl, fun _ => trivial⟩
      | cons u l ih =>
        intro j hj
        obtain ⟨q1, q2⟩ := ih (j + 1) (by omega)
        have hne : ¬ j = i := by omega
        refine ⟨?_, fun hl => ⟨?_, q2 hl.2⟩⟩
        · show instV _ j u :: _ = instV asg j u :: _
          rw [q1]
          congr 1
          unfold instV
          split
          · simp [hne]
          · rfl
        · have := hl.1
          split
          · simpa [hne] using this
          · trivial
    unfold okArg at ha
    split at ha
    · rename_i id sy
      have ha1 := ha.1
      split at ha1
      · rename_i k t sz hab
        have hs := abOf_sat hn (id := id) (by rw [hab]; simp)
        rw [hab] at hs
        rcases h0.lst_inv with ⟨B, O, C, n, hg, hv, hnC, rfl⟩ | ⟨hv, rfl⟩
        · have hnat : lenOf sy = n := by unfold lenOf; rw [hv]; simp
          obtain ⟨q1, q2⟩ := other (some ⟨B, O, none⟩, C) args (i + 1) (by omega)
          refine ⟨fun m => if m = i then (some ⟨B, O, none⟩, C) else asg m, ?_, ?_, q2 e2⟩
          · show _ = instV _ i _ :: _
            rw [q1, e1]
            simp [instV, hnat]
          · simp only [hab, if_true]
            rcases hs with ⟨_, q⟩ | ⟨B', O', C', arr, hg', hh, _, _, hc⟩
            · rw [hg] at q; cases q
            · rw [hg] at hg'; cases hg'
              exact .inr ⟨B, O, arr, _, rfl, hh, hc⟩
        · have hnat : lenOf sy = 0 := by unfold lenOf; rw [hv]; rfl
          obtain ⟨q1, q2⟩ := other (none, 0) args (i + 1) (by omega)
          refine ⟨fun m => if m = i then (none, 0) else asg m, ?_, ?_, q2 e2⟩
          · show _ = instV _ i _ :: _
            rw [q1, e1]
            simp [instV, hnat]
          · simp only [hab]
            exact .inl hnat
      · cases ha1
    · rename_i hno
      refine ⟨asg, ?_, ?_, e2⟩
      · show _ = instV asg i v :: _
        rw [e1, closed_eq γ 3 _ _ ha.1 h0]
        congr 1
        unfold instV
        split
        · exact absurd rfl (hno _ _)
        · rfl
      · split
        · exact absurd rfl (hno _ _)
        · trivial

section
variable [Rho] {P : Program} {e : Env}
/-- An entry for a call with lists. -/
theorem CEntOk.lists {f : FuncId} {args : List Value} {need : List (Nat × AB)} {v : Value} (r : Value) (hv : Go.Ev.closed 3 v = true) (hf : ∃ fn c, e.fnOf f = some fn ∧ fn.body = some c) (ha : args.all (okArg need) = true) (hr : den 3 v = r)
    (hc : ∀ w asg, MemOk w → LiesA w need asg 0 args → Calls P f (instA asg 0 args).toArray w (fun en w' => en = .returned r ∧ Below w.heap.size w w')) : CEntOk P e ⟨f, args, need, v⟩ :=
  ⟨hv, hf, fun γ args' w hrel hn hm => by
    obtain ⟨asg, e1, e2⟩ := instA_ok hn args args'.toList 0 ha hrel
    have e : args' = (instA asg 0 args).toArray := by rw [← e1]
    rw [e]
    have := hc w asg hm e2
    rw [← hr] at this
    exact this⟩
theorem joinU_rel {γ : Gam} {u sl : Value} {id sy : Nat} {rest : Option (List Value)} (h : splitU u = some (id, sy, rest)) (hr : VRel γ (.pointer (some ⟨id, sy, some 2⟩)) sl) : VRel γ u (joinU sl rest) := by
  unfold splitU at h
  split at h
  · injection h with h
    cases h
    exact hr
  · rename_i cs
    split at h
    · rename_i b s r hcs
      cases hc : r.all (closed 3) with
      | false => rw [hc] at h; cases h
      | true =>
        rw [hc, cond_true] at h
        injection h with h
        cases h
        have hrel : LRel γ cs.toList (sl :: dens 3 r) := by
          rw [hcs]
          refine .cons hr ⟨by simp [dens], fun i h1 h2 => ?_⟩
          have := closed_rel γ 3 r[i] (List.all_eq_true.1 hc _ (List.getElem_mem h1))
          simpa [dens] using this
        exact VRel.tupleOf hrel
    · cases h
  · cases h
/-- An entry for a call that returns a new list. -/
theorem CLEntOk.lists {f : FuncId} {args : List Value} {need : List (Nat × AB)} {next k t sz sy n : Nat} {res : Value} (rest : Option (List Value)) (hs : splitU res = some (next, sy, rest)) (hf : ∃ fn c, e.fnOf f = some fn ∧ fn.body = some c) (ha : args.all (okArg need) = true)
    (hv : Rho.val sy = .int .i64 (n : Nat))
    (hc : ∀ w asg, MemOk w → LiesA w need asg 0 args → Calls P f (instA asg 0 args).toArray w (fun en w' => ∃ a C, en = .returned (joinU (.slice a n C) rest) ∧ NewList w w' t sz (Rho.lst k) a n C ∧ Below w.heap.size w w')) : CLEntOk P e ⟨f, args, need, next, k, t, sz, sy, res⟩ :=
  ⟨hf, fun γ args' w hrel hn hm => by
    obtain ⟨asg, e1, e2⟩ := instA_ok hn args args'.toList 0 ha hrel
    have e : args' = (instA asg 0 args).toArray := by rw [← e1]
    rw [e]
    refine (hc w asg hm e2).mono (fun en w' ⟨a, C, h1, h2, h3⟩ => ⟨h3, _, a, n, C, h1, h2, hv, fun γ' hr => joinU_rel hs hr⟩)⟩
end

/-! ### lists of things -/
def flat {α : Type} (c : α → List Value) (l : List α) : List Value := l.flatMap c
theorem flat_len {α : Type} {c : α → List Value} {sz : Nat} (h : ∀ x, (c x).length = sz) : ∀ l, (flat c l).length = l.length * sz
  | [] => by simp [flat]
  | x :: l => by
    have := flat_len h l
    simp only [flat, List.flatMap_cons, List.length_append, List.length_cons, h] at this ⊢
    rw [this, Nat.add_mul]; omega
theorem flat_snoc {α : Type} (c : α → List Value) (l : List α) (x : α) : flat c (l ++ [x]) = flat c l ++ c x := by simp [flat]
theorem flat_get {α : Type} {c : α → List Value} {sz : Nat} (h : ∀ x, (c x).length = sz) (d : α) : ∀ (l : List α) (i : Nat), i < l.length → ∀ j v, (c (l.getD i d))[j]? = some v → (flat c l)[i * sz + j]? = some v
  | [], i, hi, _, _, _ => by simp at hi
  | x :: l, 0, _, j, v, hj => by
    have hlt : j < (c x).length := (List.getElem?_eq_some_iff.1 hj).1
    simp only [flat, List.flatMap_cons, Nat.zero_mul, Nat.zero_add]
    rw [List.getElem?_append_left hlt]; exact hj
  | x :: l, i + 1, hi, j, v, hj => by
    have := flat_get h d l i (by simpa using hi) j v (by simpa using hj)
    simp only [flat, List.flatMap_cons]
    rw [List.getElem?_append_right (by rw [h, Nat.add_mul]; omega), h, show (i + 1) * sz + j - sz = i * sz + j by rw [Nat.add_mul]; omega]
    exact this
theorem flat_getz {α : Type} {c : α → List Value} {sz : Nat} (h : ∀ x, (c x).length = sz) {d z : α} {l : List α} {i : Nat} (hz : z = l.getD i d) (hi : i < l.length) (j : Nat) (v : Value) (hj : (c z)[j]? = some v) : (flat c l)[i * sz + j]? = some v := by
  subst hz
  exact flat_get h d l i hi j v hj
theorem l_fieldo {P : Program} {w : World} {t : TypeId} {a : Option Addr} {n : Nat} {L : List Value} {t0 : TypeId} {fs : Array Field} {fl : Field} {sz : Nat} (f o : Nat) (hl : Lies w t0 L a n) (hn : 0 < n) (ht : P.underlying t = some (.struct fs)) (hf : fs[f]? = some fl) (ho : fl.offset = o) (hs : (P.info? fl.type).map (·.size) = some sz) (hz : ¬ sz = 0) {m : Nat} :
    KeyOk P w (.fieldAddr t f) [.pointer (ptrO a m)] (.pointer (ptrO a (m + o))) := by
  subst ho
  exact l_field hl hn ht hf hs hz
end Go.Ev
