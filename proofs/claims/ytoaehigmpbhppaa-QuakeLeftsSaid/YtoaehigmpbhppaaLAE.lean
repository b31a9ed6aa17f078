import Derived.Test.YtoaehigmpbhppaaLAD
import Derived.KernelRfl
/-
  Texts of the bench, merged.
-/
set_option linter.unusedSimpArgs false
set_option linter.unusedVariables false
namespace Go.Ev
open Go Go.RowKit
section
variable [Rho]
/-- The end of a function, whatever it returns. -/
theorem At.lastK {P : Program} {e : Env} (he : Env.Ok P e) {w0 : World} {n : Nat} {c : Code} {fn : Func} {fr : Fr} {s : St} {K : Value → St → Option Unit} {R : Ending → World → Prop}
    (h : ev P e n (.code c none fr s (retK e fn K)) = some ()) (hw : s.Wf)
    {a : Act} {w : World} (hat : At w0 fr s a w) (hR : ∀ v s2, K v s2 = some () → ∀ γ w2 v', Step 0 s2.next (fun _ => none) start.at w0 γ s2.at w2 → VRel γ v v' → R (.returned v') w2) : c.wpIn (FF none) 0 P (bodyPostM Fence.wide 0 P fn R) a w := by
  obtain ⟨ex, fr1, s1, hk, hw1, hgo⟩ := At.run he h hw
  have main : ∀ (hex : ex = .normal ∨ ex = .ret), (dropMarks fr1.D s1 fun s2 => match resAs e fr1.T s2 fn.results.toList with | some vs => K (resV vs) s2 | none => none) = some () →
      c.wpIn (FF none) 0 P (bodyPostM Fence.wide 0 P fn R) a w := by
    intro hex hdm
    obtain ⟨s2, hk2, hraw2, hn2, hmarks⟩ := dropMarks_ok (P := P) (fn := fn) fr1.D s1 _ () hdm hw1
    split at hk2
    case h_2 => cases hk2
    rename_i vs hvs
    refine hgo a w hat _ (fun a1 w1 ⟨γ1, st1, hf1, _⟩ => ?_)
    have hl : LeavesInM Fence.wide 0 P fn a1.tmps R a1.defers .returning w1 := by
      refine hmarks γ1 w1 a1.defers a1.tmps R hf1.2 st1.sat (fun w2 st2 => ?_)
      obtain ⟨v', hr, hvr⟩ := results_ok he hvs hf1.1 st2.sat
      have stt := st1.trans (Nat.zero_le _) hraw2.next st2
      exact ⟨v', hr, hR _ s2 hk2 γ1 w2 v' stt hvr⟩
    rcases hex with rfl | rfl <;> exact hl
  unfold retK at hk
  cases ex with
  | exit id => cases hk
  | normal => exact main (.inl rfl) hk
  | ret => exact main (.inr rfl) hk
def stopRK (e : Env) (fn : Func) (K : Value → St → Option Unit) (ex : Ex) (fr : Fr) (s : St) : Option Unit := match ex with
  | .ret => retK e fn K .ret fr s
  | _ => none
/-- A piece of code that returns, whatever it returns. -/
theorem At.retGK {P : Program} {e : Env} (he : Env.Ok P e) {w0 : World} {n : Nat} {c : Code} {fn : Func} {fr : Fr} {s : St} {K : Value → St → Option Unit} {R : Ending → World → Prop}
    (h : ev P e n (.code c none fr s (stopRK e fn K)) = some ()) (hw : s.Wf)
    {a : Act} {w : World} (hat : At w0 fr s a w) (hR : ∀ v s2, K v s2 = some () → ∀ γ w2 v', Step 0 s2.next (fun _ => none) start.at w0 γ s2.at w2 → VRel γ v v' → R (.returned v') w2) {Q : Exit → Act → World → Prop}
    (hQ : ∀ a' w', bodyPostM Fence.wide 0 P fn R .ret a' w' → Q .ret a' w') : c.wpIn (FF none) 0 P Q a w := by
  obtain ⟨ex, fr1, s1, hk, hw1, hgo⟩ := At.run he h hw
  cases ex with
  | normal => cases hk
  | exit id => cases hk
  | ret =>
    have hdm : (dropMarks fr1.D s1 fun s2 => match resAs e fr1.T s2 fn.results.toList with | some vs => K (resV vs) s2 | none => none) = some () := hk
    obtain ⟨s2, hk2, hraw2, hn2, hmarks⟩ := dropMarks_ok (P := P) (fn := fn) fr1.D s1 _ () hdm hw1
    split at hk2
    case h_2 => cases hk2
    rename_i vs hvs
    refine hgo a w hat _ (fun a1 w1 ⟨γ1, st1, hf1, _⟩ => hQ a1 w1 ?_)
    have hl : LeavesInM Fence.wide 0 P fn a1.tmps R a1.defers .returning w1 := by
      refine hmarks γ1 w1 a1.defers a1.tmps R hf1.2 st1.sat (fun w2 st2 => ?_)
      obtain ⟨v', hr, hvr⟩ := results_ok he hvs hf1.1 st2.sat
      have stt := st1.trans (Nat.zero_le _) hraw2.next st2
      exact ⟨v', hr, hR _ s2 hk2 γ1 w2 v' stt hvr⟩
    exact hl
/-- A result with one new list, in front, or alone. -/
def splitU : Value → Option (Nat × Nat × Option (List Value))
  | .pointer (some ⟨id, sy, some 2⟩) => some (id, sy, none)
  | .tuple cs => match cs.toList with
    | .pointer (some ⟨id, sy, some 2⟩) :: rest => cond (rest.all (closed 3)) (some (id, sy, some rest)) none
    | _ => none
  | _ => none
def joinU (sl : Value) : Option (List Value) → Value
  | none => sl
  | some rest => .tuple ⟨sl :: dens 3 rest⟩
theorem splitU_ok {γ : Gam} {u v' : Value} {id sy : Nat} {rest : Option (List Value)} (h : splitU u = some (id, sy, rest)) (hr : VRel γ u v') : ∃ sl, VRel γ (.pointer (some ⟨id, sy, some 2⟩)) sl ∧ v' = joinU sl rest := by
  unfold splitU at h
  split at h
  · injection h with h
    cases h
    exact ⟨v', hr, rfl⟩
  · rename_i cs
    split at h
    · rename_i b s r hcs
      cases hc : r.all (closed 3) with
      | false => rw [hc] at h; cases h
      | true =>
        rw [hc, cond_true] at h
        injection h with h
        cases h
        cases hr with
        | tuple f f' hs hv =>
          have hl : LRel γ cs.toList f'.toList := ARel.toList ⟨hs, hv⟩
          rw [hcs] at hl
          match hm : f'.toList, hl with
          | [], hl => have := hl.1; simp at this
          | x :: l, hl =>
            have h0 : VRel γ (.pointer (some ⟨id, sy, some 2⟩)) x := by have := hl.2 0 (by simp) (by simp); exact this
            have ht : LRel γ r l := by simpa using hl.drop 1
            refine ⟨x, h0, ?_⟩
            have e2 := closed_eqs γ 3 _ _ hc ht
            show Value.tuple f' = .tuple ⟨x :: dens 3 r⟩
            rw [← e2, ← hm]
    · cases h
  · cases h
/-- The end that returns a list: the value, and what its name stands for. -/
def endL (u : Value) (id k t sz : Nat) (v : Value) (s : St) : Option Unit := cond (trueV 6 u v) (cond (sameAB (.lst k t sz) (s.at id)) (some ()) none) none
theorem endL_ok {P : Program} {w0 : World} {u : Value} {id sy k t sz n : Nat} {rest : Option (List Value)} {R : Ending → World → Prop} (hu : splitU u = some (id, sy, rest)) (hv : Rho.val sy = .int .i64 (n : Nat)) (hl : (Rho.lst k).length = n * sz)
    (hR : ∀ w' a C, Below w0.heap.size w0 w' → NewList w0 w' t sz (Rho.lst k) a n C → R (.returned (joinU (.slice a n C) rest)) w') :
    ∀ v s2, endL u id k t sz v s2 = some () → ∀ γ w2 v', Step 0 s2.next (fun _ => none) start.at w0 γ s2.at w2 → VRel γ v v' → R (.returned v') w2 := by
  intro v s2 h γ w2 v' st hr
  unfold endL at h
  cases h1 : trueV 6 u v with
  | false => rw [h1] at h; cases h
  | true =>
  cases h2 : sameAB (.lst k t sz) (s2.at id) with
  | false => rw [h1, h2] at h; cases h
  | true =>
    have e1 := trueV_eq 6 _ _ h1
    have e2 := sameAB_eq h2
    subst e1
    obtain ⟨sl, q1, rfl⟩ := splitU_ok hu hr
    have hno : ∀ B, ¬ Own (fun _ => none) start.at B := fun B ⟨id, O, C, h1, h2⟩ => by cases h2
    have hb : Below w0.heap.size w0 w2 := ⟨st.os, st.tape, st.output, st.size, fun k hk => st.frame k hk (hno k)⟩
    rcases q1.lst_inv with ⟨B, O, C, n', hg, hv2, hnC, rfl⟩ | ⟨hv2, rfl⟩
    · have hn' : n' = n := by rw [hv] at hv2; injection hv2 with _ q; omega
      subst hn'
      have hsb := st.sat.blk id
      rw [← e2] at hsb
      rcases hsb with ⟨_, q⟩ | ⟨B', O', C', arr, hg', ha, hroom, hll, hc⟩
      · rw [hg] at q; cases q
      · rw [hg] at hg'
        cases hg'
        have hown : Own γ s2.at B := ⟨id, O, C, by rw [← e2]; rfl, hg⟩
        refine hR w2 _ C hb ⟨hl, .inr ⟨B, O, arr, rfl, ?_, ha, hroom, hnC, hc⟩⟩
        rcases st.own B hown with q | q
        · exact absurd q (hno B)
        · exact q
    · have hn0 : n = 0 := by rw [hv] at hv2; injection hv2 with _ q; omega
      subst hn0
      exact hR w2 none 0 hb ⟨hl, .inl ⟨rfl, rfl, rfl⟩⟩
/-- The end that returns what has no names. -/
def endV (u v : Value) (_ : St) : Option Unit := cond (sameV 4 u v) (some ()) none
theorem endV_ok {w0 : World} {u : Value} {R : Ending → World → Prop} (hu : closed 3 u = true) (hR : ∀ w', Below w0.heap.size w0 w' → R (.returned (den 3 u)) w') :
    ∀ v s2, endV u v s2 = some () → ∀ γ w2 v', Step 0 s2.next (fun _ => none) start.at w0 γ s2.at w2 → VRel γ v v' → R (.returned v') w2 := by
  intro v s2 h γ w2 v' st hr
  unfold endV at h
  cases h1 : sameV 4 u v with
  | false => rw [h1] at h; cases h
  | true =>
    have e1 := sameV_eq 4 _ _ h1
    subst e1
    have hno : ∀ B, ¬ Own (fun _ => none) start.at B := fun B ⟨id, O, C, h1, h2⟩ => by cases h2
    rw [closed_eq γ 3 _ _ hu hr]
    exact hR w2 ⟨st.os, st.tape, st.output, st.size, fun k hk => st.frame k hk (hno k)⟩
end
/-! ### slices that are read, nil or not -/
/-- A slice's cells, in a world. -/
def Lies (w : World) (t : TypeId) (L : List Value) (a : Option Addr) (n : Nat) : Prop := n = 0 ∨ ∃ B O arr fz, a = some ⟨B, O, none⟩ ∧ w.heap[B]? = some (.cells arr t fz) ∧ ∀ i (h : i < L.length), arr[O + i]? = some L[i]
def ptrO (a : Option Addr) (m : Nat) : Option Addr := match a with
  | some ⟨B, O, _⟩ => some ⟨B, O + m, none⟩
  | none => none
section
variable {P : Program} {w : World} {t : TypeId} {k : IntKind} {a : Option Addr} {n c : Nat} {L : List Value} {t0 : TypeId}
theorem k_loadz {el : TypeDesc} (ht : P.underlying t = some el) (hr : el.isRow = false) {B o : Nat} {arr : Array Value} {t0 : TypeId} {fz : Nat × Nat} (hB : w.heap[B]? = some (.cells arr t0 fz)) {v : Value} (hv : arr[o]? = some v) :
    KeyOk P w (.load t) [.pointer (some ⟨B, o, none⟩)] v := by
  show (Instr.loadAt t (.pointer (some ⟨B, o, none⟩))).run P w = _
  have hcell : w.cell? ⟨B, o, none⟩ = some v := by simp [World.cell?, hB, hv]
  have hag : (isAgg t).run P w = .ok false w := by
    unfold isAgg
    rw [Sem.run_bind, run_underlying ht]
    simp only [Result.andThen_ok]
    cases el <;> first | rfl | cases hr
  simp [Instr.loadAt, Instr.sureAddr, loadVar, hag, hcell]
/-- A struct's cells. -/
theorem k_loadSz {d : TypeDesc} (ht : P.underlying t = some d) (hr : d.isRow = true) {l : List Value} (hs : (P.info? t).map (·.size) = some l.length) {B o : Nat} {arr : Array Value} {t0 : TypeId} {fz : Nat × Nat} (hB : w.heap[B]? = some (.cells arr t0 fz))
    (hv : ∀ j v, l[j]? = some v → arr[o + j]? = some v) : KeyOk P w (.load t) [.pointer (some ⟨B, o, none⟩)] (.agg l.toArray) := by
  show (Instr.loadAt t (.pointer (some ⟨B, o, none⟩))).run P w = _
  obtain ⟨info, hi, hsz⟩ : ∃ info, P.info? t = some info ∧ info.size = l.length := by
    cases hq : P.info? t with
    | none => rw [hq] at hs; cases hs
    | some info => rw [hq] at hs; injection hs with hs; exact ⟨info, rfl, hs⟩
  have hrange : ∀ j v, l[j]? = some v → w.cell? ⟨B, o + j, none⟩ = some v := fun j v hj => by simp [World.cell?, hB, hv j v hj]
  simp [Instr.loadAt, Instr.sureAddr, run_loadVar_mid w B o t l d hrange ht hr (by simp [hi, hsz])]
theorem l_index {el : TypeId} {sz : Nat} (hl : Lies w t0 L a n) (ht : P.underlying t = some (.slice el)) (hs : (P.info? el).map (·.size) = some sz) {i : Int} (h0 : 0 ≤ i) (h1 : i < n) :
    KeyOk P w (.indexAddr t) [.slice a n c, .int k i] (.pointer (ptrO a (i.toNat * sz))) := by
  rcases hl with h | ⟨B, O, arr, fz, rfl, _, _⟩
  · omega
  · exact k_index ht hs h0 h1
theorem l_load {el : TypeDesc} (hl : Lies w t0 L a n) (hn : 0 < n) (ht : P.underlying t = some el) (hr : el.isRow = false) {m : Nat} {v : Value} (hv : L[m]? = some v) :
    KeyOk P w (.load t) [.pointer (ptrO a m)] v := by
  rcases hl with h | ⟨B, O, arr, fz, rfl, hB, hc⟩
  · omega
  · obtain ⟨q1, q2⟩ := List.getElem?_eq_some_iff.1 hv
    exact k_loadz ht hr hB (by rw [hc m q1, q2])
theorem l_loadS {d : TypeDesc} (hl : Lies w t0 L a n) (hn : 0 < n) (ht : P.underlying t = some d) (hr : d.isRow = true) {l : List Value} (hs : (P.info? t).map (·.size) = some l.length) {m : Nat} (hv : ∀ j v, l[j]? = some v → L[m + j]? = some v) :
    KeyOk P w (.load t) [.pointer (ptrO a m)] (.agg l.toArray) := by
  rcases hl with h | ⟨B, O, arr, fz, rfl, hB, hc⟩
  · omega
  · refine k_loadSz ht hr hs hB (fun j v hj => ?_)
    obtain ⟨q1, q2⟩ := List.getElem?_eq_some_iff.1 (hv j v hj)
    rw [Nat.add_assoc, hc _ q1, q2]
theorem l_field {fs : Array Field} {f : Nat} {fl : Field} {sz : Nat} (hl : Lies w t0 L a n) (hn : 0 < n) (ht : P.underlying t = some (.struct fs)) (hf : fs[f]? = some fl) (hs : (P.info? fl.type).map (·.size) = some sz) (hz : ¬ sz = 0) {m : Nat} :
    KeyOk P w (.fieldAddr t f) [.pointer (ptrO a m)] (.pointer (ptrO a (m + fl.offset))) := by
  rcases hl with h | ⟨B, O, arr, fz, rfl, _, _⟩
  · omega
  · have := k_fieldAddr (P := P) (w := w) (t := t) ht hf hs hz (B := B) (o := O + m)
    rw [Nat.add_assoc] at this
    exact this
end
theorem Lies.keep {w0 w : World} {t : TypeId} {L : List Value} {a : Option Addr} {n : Nat} (h : Lies w0 t L a n) (hm : ∀ (B : Nat) (o : Obj), w0.heap[B]? = some o → w.heap[B]? = some o) : Lies w t L a n := by
  rcases h with h | ⟨B, O, arr, fz, h1, h2, h3⟩
  · exact .inl h
  · exact .inr ⟨B, O, arr, fz, h1, hm B _ h2, h3⟩
/-! ### calls with lists -/
def lenOf [Rho] (sy : Nat) : Nat := match Rho.val sy with
  | .int _ n => n.toNat
  | _ => 0
def instV [Rho] (asg : Nat → Option Addr × Nat) (i : Nat) (v : Value) : Value := match v with
  | .pointer (some ⟨_, sy, some 2⟩) => .slice (asg i).1 (lenOf sy) (asg i).2
  | v => den 3 v
def instA [Rho] (asg : Nat → Option Addr × Nat) : Nat → List Value → List Value
  | _, [] => []
  | i, v :: l => instV asg i v :: instA asg (i + 1) l
def abOf : List (Nat × AB) → Nat → AB
  | [], _ => .dead
  | p :: l, id => cond (Nat.beq p.1 id) p.2 (abOf l id)
def LiesA [Rho] (w : World) (need : List (Nat × AB)) (asg : Nat → Option Addr × Nat) : Nat → List Value → Prop
  | _, [] => True
  | i, v :: l => (match v with
    | .pointer (some ⟨id, sy, some 2⟩) => match abOf need id with
      | .lst k t _ => Lies w t (Rho.lst k) (asg i).1 (lenOf sy)
      | _ => False
    | _ => True) ∧ LiesA w need asg (i + 1) l
def okArg (need : List (Nat × AB)) (v : Value) : Bool := match v with
  | .pointer (some ⟨id, _, some 2⟩) => match abOf need id with
    | .lst _ _ _ => true
    | _ => false
  | v => closed 3 v
theorem abOf_sat [Rho] {γ : Gam} {w : World} : ∀ {need : List (Nat × AB)} {id : Nat}, NeedsSat γ w need → abOf need id ≠ .dead → SatB γ w id (abOf need id)
  | [], _, _, h => absurd rfl h
  | p :: l, id, ⟨h1, h2⟩, h => by
    unfold abOf at h ⊢
    cases hb : Nat.beq p.1 id with
    | true => rw [← Nat.eq_of_beq_eq_true hb]; exact h1
    | false => rw [hb] at h; exact abOf_sat h2 h
theorem instA_ok [Rho] {γ : Gam} {w : World} {need : List (Nat × AB)} (hn : NeedsSat γ w need) : ∀ (args args' : List Value) (i : Nat), args.all (okArg need) = true → LRel γ args args' → ∃ asg : Nat → Option Addr × Nat, args' = instA asg i args ∧ LiesA w need asg i args
  | [], [], i, _, _ => ⟨fun _ => (none, 0), rfl, trivial⟩
  | [], _ :: _, _, _, h => by have := h.1; simp at this
  | _ :: _, [], _, _, h => by have := h.1; simp at this
  | v :: args, v' :: args', i, ha, h => by
    simp only [List.all_cons, Bool.and_eq_true] at ha
    have h0 : VRel γ v v' := by have := h.2 0 (by simp) (by simp); exact this
    obtain ⟨asg, e1, e2⟩ := instA_ok hn args args' (i + 1) ha.2 (by simpa using h.drop 1)
    have other : ∀ (x : Option Addr × Nat) (l : List Value) (j : Nat), i < j → instA (fun m => if m = i then x else asg m) j l = instA asg j l ∧ (LiesA w need asg j l → LiesA w need (fun m => if m = i then x else asg m) j l) := by
      intro x l
      induction l with
      | nil => intro j hj; exact ⟨rfl, fun _ => trivial⟩
      | cons u l ih =>
        intro j hj
        obtain ⟨q1, q2⟩ := ih (j + 1) (by omega)
        have hne : ¬ j = i := by omega
        refine ⟨?_, fun hl => ⟨?_, q2 hl.2⟩⟩
        · show instV _ j u :: _ = instV asg j u :: _
          rw [q1]
          congr 1
          unfold instV
          split
          · simp [hne]
          · rfl
        · have := hl.1
          split
          · simpa [hne] using this
          · trivial
    unfold okArg at ha
    split at ha
    · rename_i id sy
      have ha1 := ha.1
      split at ha1
      · rename_i k t sz hab
        have hs := abOf_sat hn (id := id) (by rw [hab]; simp)
        rw [hab] at hs
        rcases h0.lst_inv with ⟨B, O, C, n, hg, hv, hnC, rfl⟩ | ⟨hv, rfl⟩
        · have hnat : lenOf sy = n := by unfold lenOf; rw [hv]; simp
          obtain ⟨q1, q2⟩ := other (some ⟨B, O, none⟩, C) args (i + 1) (by omega)
          refine ⟨fun m => if m = i then (some ⟨B, O, none⟩, C) else asg m, ?_, ?_, q2 e2⟩
          · show _ = instV _ i _ :: _
            rw [q1, e1]
            simp [instV, hnat]
          · simp only [hab, if_true]
            rcases hs with ⟨_, q⟩ | ⟨B', O', C', arr, hg', hh, _, _, hc⟩
            · rw [hg] at q; cases q
            · rw [hg] at hg'; cases hg'
              exact .inr ⟨B, O, arr, _, rfl, hh, hc⟩
        · have hnat : lenOf sy = 0 := by unfold lenOf; rw [hv]; rfl
          obtain ⟨q1, q2⟩ := other (none, 0) args (i + 1) (by omega)
          refine ⟨fun m => if m = i then (none, 0) else asg m, ?_, ?_, q2 e2⟩
          · show _ = instV _ i _ :: _
            rw [q1, e1]
            simp [instV, hnat]
          · simp only [hab]
            exact .inl hnat
      · cases ha1
    · rename_i hno
      refine ⟨asg, ?_, ?_, e2⟩
      · show _ = instV asg i v :: _
        rw [e1, closed_eq γ 3 _ _ ha.1 h0]
        congr 1
        unfold instV
        split
        · exact absurd rfl (hno _ _)
        · rfl
      · split
        · exact absurd rfl (hno _ _)
        · trivial
section
variable [Rho] {P : Program} {e : Env}
/-- An entry for a call with lists. -/
theorem CEntOk.lists {f : FuncId} {args : List Value} {need : List (Nat × AB)} {v : Value} (r : Value) (hv : Go.Ev.closed 3 v = true) (hf : ∃ fn c, e.fnOf f = some fn ∧ fn.body = some c) (ha : args.all (okArg need) = true) (hr : den 3 v = r)
    (hc : ∀ w asg, MemOk w → LiesA w need asg 0 args → Calls P f (instA asg 0 args).toArray w (fun en w' => en = .returned r ∧ Below w.heap.size w w')) : CEntOk P e ⟨f, args, need, v⟩ :=
  ⟨hv, hf, fun γ args' w hrel hn hm => by
    obtain ⟨asg, e1, e2⟩ := instA_ok hn args args'.toList 0 ha hrel
    have e : args' = (instA asg 0 args).toArray := by rw [← e1]
    rw [e]
    have := hc w asg hm e2
    rw [← hr] at this
    exact this⟩
theorem joinU_rel {γ : Gam} {u sl : Value} {id sy : Nat} {rest : Option (List Value)} (h : splitU u = some (id, sy, rest)) (hr : VRel γ (.pointer (some ⟨id, sy, some 2⟩)) sl) : VRel γ u (joinU sl rest) := by
  unfold splitU at h
  split at h
  · injection h with h
    cases h
    exact hr
  · rename_i cs
    split at h
    · rename_i b s r hcs
      cases hc : r.all (closed 3) with
      | false => rw [hc] at h; cases h
      | true =>
        rw [hc, cond_true] at h
        injection h with h
        cases h
        have hrel : LRel γ cs.toList (sl :: dens 3 r) := by
          rw [hcs]
          refine .cons hr ⟨by simp [dens], fun i h1 h2 => ?_⟩
          have := closed_rel γ 3 r[i] (List.all_eq_true.1 hc _ (List.getElem_mem h1))
          simpa [dens] using this
        exact VRel.tupleOf hrel
    · cases h
  · cases h
/-- An entry for a call that returns a new list. -/
theorem CLEntOk.lists {f : FuncId} {args : List Value} {need : List (Nat × AB)} {next k t sz sy n : Nat} {res : Value} (rest : Option (List Value)) (hs : splitU res = some (next, sy, rest)) (hf : ∃ fn c, e.fnOf f = some fn ∧ fn.body = some c) (ha : args.all (okArg need) = true)
    (hv : Rho.val sy = .int .i64 (n : Nat))
    (hc : ∀ w asg, MemOk w → LiesA w need asg 0 args → Calls P f (instA asg 0 args).toArray w (fun en w' => ∃ a C, en = .returned (joinU (.slice a n C) rest) ∧ NewList w w' t sz (Rho.lst k) a n C ∧ Below w.heap.size w w')) : CLEntOk P e ⟨f, args, need, next, k, t, sz, sy, res⟩ :=
  ⟨hf, fun γ args' w hrel hn hm => by
    obtain ⟨asg, e1, e2⟩ := instA_ok hn args args'.toList 0 ha hrel
    have e : args' = (instA asg 0 args).toArray := by rw [← e1]
    rw [e]
    refine (hc w asg hm e2).mono (fun en w' ⟨a, C, h1, h2, h3⟩ => ⟨h3, _, a, n, C, h1, h2, hv, fun γ' hr => joinU_rel hs hr⟩)⟩
end
/-! ### lists of things -/
def flat {α : Type} (c : α → List Value) (l : List α) : List Value := l.flatMap c
theorem flat_len {α : Type} {c : α → List Value} {sz : Nat} (h : ∀ x, (c x).length = sz) : ∀ l, (flat c l).length = l.length * sz
  | [] => by simp [flat]
  | x :: l => by
    have := flat_len h l
    simp only [flat, List.flatMap_cons, List.length_append, List.length_cons, h] at this ⊢
    rw [this, Nat.add_mul]; omega
theorem flat_snoc {α : Type} (c : α → List Value) (l : List α) (x : α) : flat c (l ++ [x]) = flat c l ++ c x := by simp [flat]
theorem flat_get {α : Type} {c : α → List Value} {sz : Nat} (h : ∀ x, (c x).length = sz) (d : α) : ∀ (l : List α) (i : Nat), i < l.length → ∀ j v, (c (l.getD i d))[j]? = some v → (flat c l)[i * sz + j]? = some v
  | [], i, hi, _, _, _ => by simp at hi
  | x :: l, 0, _, j, v, hj => by
    have hlt : j < (c x).length := (List.getElem?_eq_some_iff.1 hj).1
    simp only [flat, List.flatMap_cons, Nat.zero_mul, Nat.zero_add]
    rw [List.getElem?_append_left hlt]; exact hj
  | x :: l, i + 1, hi, j, v, hj => by
    have := flat_get h d l i (by simpa using hi) j v (by simpa using hj)
    simp only [flat, List.flatMap_cons]
    rw [List.getElem?_append_right (by rw [h, Nat.add_mul]; omega), h, show (i + 1) * sz + j - sz = i * sz + j by rw [Nat.add_mul]; omega]
    exact this
theorem flat_getz {α : Type} {c : α → List Value} {sz : Nat} (h : ∀ x, (c x).length = sz) {d z : α} {l : List α} {i : Nat} (hz : z = l.getD i d) (hi : i < l.length) (j : Nat) (v : Value) (hj : (c z)[j]? = some v) : (flat c l)[i * sz + j]? = some v := by
  subst hz
  exact flat_get h d l i hi j v hj
theorem l_fieldo {P : Program} {w : World} {t : TypeId} {a : Option Addr} {n : Nat} {L : List Value} {t0 : TypeId} {fs : Array Field} {fl : Field} {sz : Nat} (f o : Nat) (hl : Lies w t0 L a n) (hn : 0 < n) (ht : P.underlying t = some (.struct fs)) (hf : fs[f]? = some fl) (ho : fl.offset = o) (hs : (P.info? fl.type).map (·.size) = some sz) (hz : ¬ sz = 0) {m : Nat} :
    KeyOk P w (.fieldAddr t f) [.pointer (ptrO a m)] (.pointer (ptrO a (m + o))) := by
  subst ho
  exact l_field hl hn ht hf hs hz
end Go.Ev
namespace Go.Ev
open Go Go.RowKit
theorem g_seq {P : Program} {c x y : Code} {Q : Exit → Act → World → Prop} {a : Act} {w : World} (h : c = .seq x y)
    (hx : x.wpIn (FF none) 0 P (fun ex a' w' => (ex = .normal ∧ y.wpIn (FF none) 0 P Q a' w') ∨ (ex ≠ .normal ∧ Q ex a' w')) a w) : c.wpIn (FF none) 0 P Q a w := by
  subst h
  refine wpIn_seq (wpIn_mono hx (fun ex a' w' h => ?_))
  rcases h with ⟨rfl, h⟩ | ⟨hne, h⟩
  · exact h
  · cases ex <;> first | exact absurd rfl hne | exact h
theorem g_block {P : Program} {id : Nat} {c x : Code} {Q : Exit → Act → World → Prop} {a : Act} {w : World} (h : c = .block id x)
    (hx : x.wpIn (FF none) 0 P (fun ex a' w' => (ex = .exit id ∧ Q .normal a' w') ∨ (ex ≠ .exit id ∧ Q ex a' w')) a w) : c.wpIn (FF none) 0 P Q a w := by
  subst h
  exact sym_block hx
theorem g_loop {P : Program} {c b : Code} {X : Type} (I : X → Act → World → Prop) (m : X → Nat) {Q : Exit → Act → World → Prop} (h : c = .loop b)
    (round : ∀ x a w, I x a w → b.wpIn (FF none) 0 P (fun ex a' w' => (ex = .normal ∧ ∃ x', m x' < m x ∧ I x' a' w') ∨ ((∃ id, ex = .exit id) ∨ ex = .ret) ∧ Q ex a' w') a w)
    (x : X) {a : Act} {w : World} (hx : I x a w) : c.wpIn (FF none) 0 P Q a w := by
  subst h
  exact loop_rounds I m round x a w hx
end Go.Ev
namespace Go.Ev
open Go Go.RowKit
/-- A frame that waits while the function that it ranges over runs, and its loop's block. -/
structure Out where
  fr : Fr
  l : Nat
def OutsRel [Rho] (γ : Gam) : List Out → List (Act × Nat) → Prop
  | [], [] => True
  | o :: os, a :: as => FrRel γ o.fr a.1 ∧ (∃ O C, γ o.l = some (a.2, O, C)) ∧ OutsRel γ os as
  | _, _ => False
theorem OutsRel.mono [Rho] {γ γ' : Gam} (hg : γ.le γ') : ∀ {os : List Out} {as : List (Act × Nat)}, OutsRel γ os as → OutsRel γ' os as
  | [], [], _ => trivial
  | _ :: _, _ :: _, ⟨h1, ⟨O, C, h2⟩, h3⟩ => ⟨h1.mono hg, ⟨O, C, hg _ _ h2⟩, OutsRel.mono hg h3⟩
  | [], _ :: _, h => h.elim
  | _ :: _, [], h => h.elim
/-- As 'At', with frames that wait. -/
def AtO [Rho] (w0 : World) (os : List Out) (as : List (Act × Nat)) (fr : Fr) (s : St) (a : Act) (w : World) : Prop :=
  ∃ γ : Gam, Step 0 s.next (fun _ => none) start.at w0 γ s.at w ∧ FrRel γ fr a ∧ (∀ id, s.next ≤ id → γ id = none) ∧ OutsRel γ os as
theorem At.toO [Rho] {w0 : World} {fr : Fr} {s : St} {a : Act} {w : World} (h : At w0 fr s a w) : AtO w0 [] [] fr s a w :=
  let ⟨γ, h1, h2, h3⟩ := h
  ⟨γ, h1, h2, h3, trivial⟩
theorem AtO.at [Rho] {w0 : World} {os : List Out} {as : List (Act × Nat)} {fr : Fr} {s : St} {a : Act} {w : World} (h : AtO w0 os as fr s a w) : At w0 fr s a w :=
  let ⟨γ, h1, h2, h3, _⟩ := h
  ⟨γ, h1, h2, h3⟩
theorem AtO.run [Rho] {β : Type} {P : Program} {e : Env} (he : Env.Ok P e) {w0 : World} {os : List Out} {as : List (Act × Nat)} {n : Nat} {c : Code} {fr : Fr} {s : St} {k : Ex → Fr → St → Option β} {r : β} (h : ev P e n (.code c none fr s k) = some r) (hw : s.Wf) :
    ∃ ex fr' s', k ex fr' s' = some r ∧ s'.Wf ∧ ∀ a w, AtO w0 os as fr s a w → ∀ Q, (∀ a' w', AtO w0 os as fr' s' a' w' → Q (exC ex) a' w') → c.wpIn (FF none) 0 P Q a w := by
  obtain ⟨ex, fr', s', hk, hraw, hok⟩ := ev_ok he n _ _ h hw
  refine ⟨ex, fr', s', hk, hraw.wf, fun a w ⟨γ, st, hf, hn, ho⟩ Q hQ => hok γ a w none trivial hf st.sat (fun id h1 _ => hn id h1) Q (fun γ' a' w' st' hf' => hQ a' w' ⟨γ', st.trans (Nat.zero_le _) hraw.next st', hf', fun id hid => ?_, ho.mono st'.le⟩)⟩
  by_cases hg : γ' id = none
  · exact hg
  · have := st'.dom id (hn id (by have := hraw.next; omega)) hg
    omega
/-! ### other symbols for the same -/
def sameLS : LoopState → LoopState → Bool
  | .ready, .ready | .busy, .busy | .done, .done | .exhausted, .exhausted => true
  | _, _ => false
theorem sameLS_eq {a b : LoopState} (h : sameLS a b = true) : a = b := by cases a <;> cases b <;> first | rfl | cases h
def isNone {α : Type} : Option α → Bool
  | none => true
  | some _ => false
theorem isNone_eq {α : Type} {o : Option α} (h : isNone o = true) : o = none := by cases o <;> first | rfl | cases h
def agreeT (σ : List Value) (π : List Nat) (T2 T1 : Tm) : Bool :=
  cond (Nat.beq T2.n T1.n) (cond (Nat.beq T2.d T1.d) (allN T2.n fun t => match tget T2 t with
    | none => true
    | some v2 => match tget T1 t with
      | some v1 => trV σ π 8 v2 v1
      | none => false) false) false
theorem agreeT_ok {ρ1 ρ2 : Rho} {σ : List Value} {π : List Nat} {γ1 γ2 : Gam} (hσ : SubOk ρ1 ρ2 0 σ) (hπ : ∀ b b1, nth π b = some b1 → γ2 b = γ1 b1) {T2 T1 : Tm} {tmps : Array Value} (h : agreeT σ π T2 T1 = true) (ht : @TRel ρ1 γ1 T1 T1.n tmps) : @TRel ρ2 γ2 T2 T2.n tmps := by
  unfold agreeT at h
  obtain ⟨h1, h⟩ := cond_both h
  obtain ⟨h2, h⟩ := cond_both h
  have e1 := Nat.eq_of_beq_eq_true h1
  have e2 := Nat.eq_of_beq_eq_true h2
  obtain ⟨t1, _, t3, t4⟩ := ht
  refine ⟨by rw [e1]; exact t1, rfl, by rw [e1, e2]; exact t3, fun t v hv => ?_⟩
  have := allN_ok h t (tget_lt hv)
  rw [hv] at this
  simp only at this
  split at this
  · rename_i v1 hv1
    exact trV_ok hσ hπ 8 v v1 _ this (t4 t v1 hv1)
  · cases this
def agreeD (π : List Nat) (n2 : Nat) (D2 D1 : List Nat) : Bool := cond (eqNs (D2.map fun b => (nth π b).getD 0) D1) (D2.all fun b => Nat.blt b n2) false
theorem nth_some {α : Type} : ∀ {l : List α} {i : Nat}, i < l.length → ∃ x, nth l i = some x
  | [], _, h => nomatch h
  | x :: _, 0, _ => ⟨x, rfl⟩
  | _ :: l, i + 1, h => nth_some (l := l) (Nat.lt_of_succ_lt_succ h)
theorem agreeD_ok {ρ1 ρ2 : Rho} {π : List Nat} {γ1 γ2 : Gam} (hπ : ∀ b b1, nth π b = some b1 → γ2 b = γ1 b1) {n2 : Nat} (hl : π.length = n2) : ∀ {D2 D1 : List Nat} {ds : List Deferred}, agreeD π n2 D2 D1 = true → DRel γ1 D1 ds → DRel γ2 D2 ds := by
  intro D2 D1 ds h hd
  unfold agreeD at h
  obtain ⟨h1, h2⟩ := cond_both h
  have hD := eqNs_eq _ _ h1
  have hDall : ∀ b ∈ D2, b < n2 := fun b hb => Nat.le_of_ble_eq_true (List.all_eq_true.1 h2 b hb)
  subst hD
  clear h h1 h2
  induction D2 generalizing ds with
  | nil => cases ds with
    | nil => trivial
    | cons d ds => exact False.elim hd
  | cons b D ih => cases ds with
    | nil => exact False.elim hd
    | cons d ds =>
      simp only [List.map_cons] at hd
      obtain ⟨⟨B, O, C, q1, q2⟩, q3⟩ := hd
      obtain ⟨b1, hb1⟩ := nth_some (l := π) (i := b) (by have := hDall b (by simp); omega)
      rw [hb1] at q1
      exact ⟨⟨B, O, C, by rw [hπ b b1 hb1]; exact q1, q2⟩, ih (fun x hx => hDall x (List.mem_cons_of_mem _ hx)) q3⟩
def agreeFr (σ : List Value) (π : List Nat) (n2 : Nat) (fr2 fr1 : Fr) : Bool := cond (agreeT σ π fr2.T fr1.T) (agreeD π n2 fr2.D fr1.D) false
theorem agreeFr_ok {ρ1 ρ2 : Rho} {σ : List Value} {π : List Nat} {γ1 γ2 : Gam} (hσ : SubOk ρ1 ρ2 0 σ) (hπ : ∀ b b1, nth π b = some b1 → γ2 b = γ1 b1) {n2 : Nat} (hl : π.length = n2) {fr2 fr1 : Fr} {a : Act} (h : agreeFr σ π n2 fr2 fr1 = true) (hf : @FrRel ρ1 γ1 fr1 a) : @FrRel ρ2 γ2 fr2 a := by
  unfold agreeFr at h
  obtain ⟨h1, h2⟩ := cond_both h
  exact ⟨agreeT_ok hσ hπ h1 hf.1, @agreeD_ok ρ1 ρ2 _ _ _ hπ _ hl _ _ _ h2 hf.2⟩
def agreeOs (σ : List Value) (π : List Nat) (n2 : Nat) : List Out → List Out → Bool
  | [], [] => true
  | o2 :: os2, o1 :: os1 => cond (agreeFr σ π n2 o2.fr o1.fr) (cond (isId (nth π o2.l) o1.l) (agreeOs σ π n2 os2 os1) false) false
  | _, _ => false
theorem agreeOs_ok {ρ1 ρ2 : Rho} {σ : List Value} {π : List Nat} {γ1 γ2 : Gam} (hσ : SubOk ρ1 ρ2 0 σ) (hπ : ∀ b b1, nth π b = some b1 → γ2 b = γ1 b1) {n2 : Nat} (hl : π.length = n2) : ∀ {os2 os1 : List Out} {as : List (Act × Nat)}, agreeOs σ π n2 os2 os1 = true → @OutsRel ρ1 γ1 os1 as → @OutsRel ρ2 γ2 os2 as
  | [], [], [], _, _ => trivial
  | [], [], _ :: _, _, h => h.elim
  | [], _ :: _, _, h, _ => nomatch h
  | _ :: _, [], _, h, _ => nomatch h
  | _ :: _, _ :: _, [], _, h => h.elim
  | o2 :: os2, o1 :: os1, a :: as, h, ⟨r1, ⟨O, C, r2⟩, r3⟩ => by
    simp only [agreeOs] at h
    obtain ⟨h1, h⟩ := cond_both h
    obtain ⟨h2, h3⟩ := cond_both h
    exact ⟨agreeFr_ok hσ hπ hl h1 r1, ⟨O, C, by rw [hπ _ _ (isId_eq h2)]; exact r2⟩, agreeOs_ok hσ hπ hl h3 r3⟩
def trBO (σ : List Value) (π : List Nat) (τ : List (Option Nat)) (n1 id1 : Nat) : AB → AB → Bool
  | .loop st pend T _ _ _ mk, .loop st1 pend1 T1 _ _ _ mk1 => cond (sameLS st st1) (cond (isNone pend) (cond (isNone pend1) (cond (agreeT σ π T T1) (isId (nth π mk) mk1) false) false) false) false
  | b2, b1 => trBL σ π τ n1 id1 b2 b1
/-- The code of a loop's block. -/
def codesAB : AB → Option (Array Tmp × Code × Code)
  | .loop _ _ _ ps as bd _ => some (ps, as, bd)
  | _ => none
def codes2 (s2 : St) : Nat → List (Option (Array Tmp × Code × Code))
  | 0 => []
  | n + 1 => codesAB (s2.at n) :: codes2 s2 n
def codes1 (π : List Nat) (s1 s2 : St) : Nat → List (Option (Array Tmp × Code × Code))
  | 0 => []
  | n + 1 => (match s2.at n with
    | .loop _ _ _ _ _ _ _ => match nth π n with
      | some b1 => codesAB (s1.at b1)
      | none => none
    | _ => none) :: codes1 π s1 s2 n
theorem codes_at {π : List Nat} {s1 s2 : St} : ∀ {m n b1 : Nat}, codes2 s2 m = codes1 π s1 s2 m → n < m → (∃ x, codesAB (s2.at n) = some x) → nth π n = some b1 → codesAB (s2.at n) = codesAB (s1.at b1)
  | 0, _, _, _, h, _, _ => nomatch h
  | m + 1, n, b1, h, hn, hx, hb => by
    simp only [codes2, codes1, List.cons.injEq] at h
    by_cases e : n = m
    · subst e
      rw [h.1]
      cases hq : s2.at n <;> rw [hq] at hx <;> first | (obtain ⟨x, hx⟩ := hx; cases hx; done) | simp only [hb]
    · exact codes_at h.2 (by omega) hx hb
/-- As 'agreeL', with frames that wait, and loops' blocks. -/
def agreeO (σ : List Value) (π : List Nat) (τ : List (Option Nat)) (os2 : List Out) (fr2 : Fr) (s2 : St) (os1 : List Out) (fr1 : Fr) (s1 : St) : Bool :=
  cond (agreeFr σ π s2.next fr2 fr1) (cond (Nat.beq π.length s2.next) (cond (distinctN π) (cond (agreeOs σ π s2.next os2 os1)
      (allN s2.next fun b => match s2.at b with
        | .dead => true
        | b2 => match nth π b with
          | some b1 => trBO σ π τ s1.next b1 b2 (s1.at b1)
          | none => false) false) false) false) false
theorem AtO.shift {ρ1 ρ2 : Rho} {w0 : World} {os1 os2 : List Out} {as : List (Act × Nat)} {fr1 fr2 : Fr} {s1 s2 : St} {a : Act} {w : World} {σ : List Value} {π : List Nat} {τ : List (Option Nat)} (hσ : SubOk ρ1 ρ2 0 σ) (hτ : LsubOk ρ1 ρ2 0 τ) (hm : ∀ B o, ρ2.mem B = some o → ρ1.mem B = some o)
    (hw : s2.Wf) (h : agreeO σ π τ os2 fr2 s2 os1 fr1 s1 = true) (hcodes : codes2 s2 s2.next = codes1 π s1 s2 s2.next) (hat : @AtO ρ1 w0 os1 as fr1 s1 a w) : @AtO ρ2 w0 os2 as fr2 s2 a w := by
  obtain ⟨γ1, ⟨_, _, size1, frame1, own1, ⟨blk1, frz1, inj1⟩, os1', tape1, output1, ro1⟩, hfr, hn, hos⟩ := hat
  unfold agreeO at h
  obtain ⟨h1, h⟩ := cond_both h
  obtain ⟨h4, h⟩ := cond_both h
  obtain ⟨h6, h⟩ := cond_both h
  obtain ⟨h7, h8⟩ := cond_both h
  have e4 := Nat.eq_of_beq_eq_true h4
  let γ2 : Gam := fun id => (nth π id).bind γ1
  have hπ : ∀ b b1, nth π b = some b1 → γ2 b = γ1 b1 := fun b b1 hb => by show (nth π b).bind γ1 = γ1 b1; rw [hb]; rfl
  have hout : ∀ id, s2.next ≤ id → γ2 id = none := fun id hid => by show (nth π id).bind γ1 = none; rw [nth_none (by omega)]; rfl
  have blk0 : ∀ id, (s2.at id).alive = true → id < s2.next ∧ ∃ id1, nth π id = some id1 ∧ trBO σ π τ s1.next id1 (s2.at id) (s1.at id1) = true := by
    intro id ha
    have hlt : id < s2.next := by
      rcases Nat.lt_or_ge id s2.next with q | q
      · exact q
      · rw [show s2.at id = .dead from at_raw_dead (hw.fresh id q)] at ha; cases ha
    have := allN_ok h8 id hlt
    split at this
    · rename_i hd; rw [hd] at ha; cases ha
    · split at this
      · exact ⟨hlt, _, by assumption, this⟩
      · cases this
  have blk : ∀ id, (s2.at id).alive = true → ∃ id1, nth π id = some id1 ∧ (@SatB ρ2 γ2 w id (s2.at id)) ∧ (γ1 id1 = none ∧ (s2.at id).own = true ∨ (s1.at id1).alive = true ∧ (s1.at id1).own = (s2.at id).own) := by
    intro id ha
    obtain ⟨hlt, id1, r1, r2⟩ := blk0 id ha
    refine ⟨id1, r1, ?_⟩
    unfold trBO at r2
    split at r2
    · rename_i st pend T ps2 as2 bd2 mk st1 pend1 T1 ps1 as1 bd1 mk1 q2 q1
      have hc := codes_at hcodes hlt (by rw [q2]; exact ⟨_, rfl⟩) r1
      rw [q2, q1] at hc
      simp only [codesAB, Option.some.injEq, Prod.mk.injEq] at hc
      obtain ⟨rfl, rfl, rfl⟩ := hc
      obtain ⟨g1, r2⟩ := cond_both r2
      obtain ⟨g2, r2⟩ := cond_both r2
      obtain ⟨g3, r2⟩ := cond_both r2
      obtain ⟨g4, g5⟩ := cond_both r2
      have e1 := sameLS_eq g1
      have e2 := isNone_eq g2
      have e3 := isNone_eq g3
      subst e1 e2 e3
      have hb := blk1 id1
      rw [q1] at hb
      obtain ⟨B, O, C, fn, tmps, D, O', C', b1, b2, b3, b4⟩ := hb
      rw [q1, q2]
      exact ⟨⟨B, O, C, fn, tmps, D, O', C', (hπ id id1 r1).trans b1, (hπ mk mk1 (isId_eq g5)).trans b2, b3, agreeT_ok hσ hπ g4 b4⟩, .inr ⟨rfl, rfl⟩⟩
    · rcases trBL_cases (γ1 := γ1) hτ hn r2 with r2 | ⟨k, k1, t, sz, e1, e2, e3⟩ | ⟨k, t, sz, e1, e2, e3⟩
      · exact ⟨trB_ok hσ hπ r2 (hπ id id1 r1) (blk1 id1), .inr (trB_alive r2 ha)⟩
      · have hb := blk1 id1
        rw [e2] at hb
        rw [e1, e2]
        refine ⟨?_, .inr ⟨rfl, rfl⟩⟩
        rcases hb with ⟨q1, q2⟩ | ⟨B, O, C, arr, q1, q2⟩
        · exact .inl ⟨e3.trans q1, (hπ id id1 r1).trans q2⟩
        · refine .inr ⟨B, O, C, arr, (hπ id id1 r1).trans q1, ?_⟩
          rw [e3]; exact q2
      · rw [e1]
        exact ⟨.inl ⟨e2, (hπ id id1 r1).trans e3⟩, .inl ⟨e3, rfl⟩⟩
  have own : ∀ B, Own γ2 s2.at B → Own γ1 s1.at B := by
    rintro B ⟨id, O, C, q1, q2⟩
    obtain ⟨id1, r1, _, r2⟩ := blk id (AB.alive_of_own q1)
    rw [hπ id id1 r1] at q2
    rcases r2 with ⟨r2, _⟩ | ⟨_, r2⟩
    · rw [r2] at q2; cases q2
    · exact ⟨id1, O, C, by rw [r2]; exact q1, q2⟩
  refine ⟨γ2, ⟨(fun id x q => nomatch q), fun id _ q => ⟨Nat.zero_le _, ?_⟩, size1, frame1, fun B ho => own1 B (own B ho), ⟨fun id => ?_, fun B o q => ?_, fun i j B O C O' C' ai aj ei ej => ?_⟩, os1', tape1, output1, fun id q1 q2 => ?_⟩, agreeFr_ok hσ hπ e4 h1 hfr, hout, agreeOs_ok hσ hπ e4 h7 hos⟩
  · rcases Nat.lt_or_ge id s2.next with q' | q'
    · exact q'
    · exact absurd (hout id q') q
  · cases ha : (s2.at id).alive with
    | false => cases hb : s2.at id <;> rw [hb] at ha <;> first | trivial | cases ha
    | true =>
      obtain ⟨id1, r1, r2, _⟩ := blk id ha
      exact r2
  · obtain ⟨r1, r2⟩ := frz1 B o (hm B o q)
    exact ⟨r1, fun ho => r2 (own B ho)⟩
  · obtain ⟨i1, r1, _, r2⟩ := blk i ai
    obtain ⟨j1, r3, _, r4⟩ := blk j aj
    rw [hπ i i1 r1] at ei
    rw [hπ j j1 r3] at ej
    have a1 : (s1.at i1).alive = true := by rcases r2 with ⟨q, _⟩ | ⟨q, _⟩; (rw [q] at ei; cases ei); exact q
    have a2 : (s1.at j1).alive = true := by rcases r4 with ⟨q, _⟩ | ⟨q, _⟩; (rw [q] at ej; cases ej); exact q
    have : i1 = j1 := inj1 i1 j1 B O C O' C' a1 a2 ei ej
    subst this
    exact distinctN_ok h6 i j i1 r1 r3
  · obtain ⟨id1, r1, _, r2⟩ := blk id q1
    rcases r2 with ⟨_, r3⟩ | r3
    · rw [r3] at q2; cases q2
    · have q3 := ro1 id1 r3.1 (r3.2.trans q2)
      rw [q3, start_at] at r3
      cases r3.1
/-! ### pieces -/
/-- The end of a piece, with frames that wait; what it yields are its loops' codes. -/
def stopO (want : Ex) (σ : List Value) (π : List Nat) (τ : List (Option Nat)) (os2 : List Out) (fr2 : Fr) (s2 : St) (os1 : List Out) (ex : Ex) (fr1 : Fr) (s1 : St) : Option (List (Option (Array Tmp × Code × Code))) :=
  cond (sameEx ex want) (cond (agreeO σ π τ os2 fr2 s2 os1 fr1 s1) (some (codes1 π s1 s2 s2.next)) none) none
theorem stopO_inv {want : Ex} {σ : List Value} {π : List Nat} {τ : List (Option Nat)} {os2 : List Out} {fr2 : Fr} {s2 : St} {os1 : List Out} {ex : Ex} {fr1 : Fr} {s1 : St} {r : List (Option (Array Tmp × Code × Code))} (h : stopO want σ π τ os2 fr2 s2 os1 ex fr1 s1 = some r) :
    ex = want ∧ agreeO σ π τ os2 fr2 s2 os1 fr1 s1 = true ∧ r = codes1 π s1 s2 s2.next := by
  unfold stopO at h
  cases h1 : sameEx ex want with
  | false => rw [h1] at h; cases h
  | true =>
    rw [h1, cond_true] at h
    cases h2 : agreeO σ π τ os2 fr2 s2 os1 fr1 s1 with
    | false => rw [h2] at h; cases h
    | true => rw [h2, cond_true] at h; injection h with h; exact ⟨sameEx_eq h1, rfl, h.symm⟩
theorem AtO.piece {ρ1 ρ2 : Rho} {P : Program} {e : Env} (he : @Env.Ok ρ1 P e) {w0 : World} {os os2 : List Out} {as : List (Act × Nat)} {n : Nat} {c : Code} {want : Ex} {fr fr2 : Fr} {s s2 : St} {σ : List Value} {π : List Nat} {τ : List (Option Nat)}
    (h : ev P e n (.code c none fr s (stopO want σ π τ os2 fr2 s2 os)) = some (codes2 s2 s2.next)) (hσ : SubOk ρ1 ρ2 0 σ) (hτ : LsubOk ρ1 ρ2 0 τ) (hm : ∀ B o, ρ2.mem B = some o → ρ1.mem B = some o) (hw : s.Wf) (hw2 : s2.Wf)
    {a : Act} {w : World} (hat : @AtO ρ1 w0 os as fr s a w) {Q : Exit → Act → World → Prop} (hQ : ∀ a' w', @AtO ρ2 w0 os2 as fr2 s2 a' w' → Q (exC want) a' w') : c.wpIn (FF none) 0 P Q a w := by
  obtain ⟨ex, fr1, s1, hk, _, hgo⟩ := @AtO.run ρ1 _ P e he w0 os as n c fr s _ _ h hw
  obtain ⟨rfl, h2, h3⟩ := stopO_inv hk
  exact hgo a w hat Q (fun a' w' hat' => hQ a' w' (AtO.shift hσ hτ hm hw2 h2 h3 hat'))
section
variable [Rho]
/-- The end of a function that is ranged over: on in the frame that waited. -/
theorem leave_core {P : Program} {e : Env} (he : Env.Ok P e) {β : Type} {w0 : World} {o : Out} {os : List Out} {aO : Act} {L : Nat} {as : List (Act × Nat)} {fn : Func} {k : Ex → Fr → St → Option β} {r : β} {fr1 : Fr} {s1 : St}
    (hdm : (dropMarks fr1.D s1 fun s2 => match resAs e fr1.T s2 fn.results.toList with | some vs => endLoopK o.l o.fr k (resV vs) s2 | none => none) = some r) (hw1 : s1.Wf) :
    ∃ ex s', k ex o.fr s' = some r ∧ s'.Wf ∧ ∀ Q, (∀ w', AtO w0 os as o.fr s' aO w' → Q (exC ex) aO w') → ∀ a1 w1, AtO w0 (o :: os) ((aO, L) :: as) fr1 s1 a1 w1 → LeavesInM Fence.wide 0 P fn a1.tmps (rangePost (FF none) 0 P L Q aO) a1.defers .returning w1 := by
  obtain ⟨s2, hk2, hraw2, hn2, hmarks⟩ := dropMarks_ok (P := P) (fn := fn) fr1.D s1 _ r hdm hw1
  split at hk2
  case h_2 => cases hk2
  rename_i vs hvs
  unfold endLoopK at hk2
  split at hk2
  · cases hk2
  · rename_i st pend T3 ps3 as3 bd3 mk3 hnb hl3
    cases h4 : Nat.blt o.l s2.next with
    | false => rw [h4] at hk2; cases hk2
    | true =>
    rw [h4, cond_true] at hk2
    have h4' : o.l < s2.next := Nat.le_of_ble_eq_true h4
    obtain ⟨s4, hk4, hraw4, hn4, hat4⟩ := St.putK_inv hk2 hraw2.wf (St.sees_of_at hl3 (by simp)) h4'
    split at hk4
    case h_2 => cases hk4
    rename_i ex hex
    refine ⟨ex, s4, hk4, hraw4.wf, fun Q hQ a1 w1 ⟨γ1, st1, hf1, hnn, hfO, ⟨O, C, hgl⟩, hos⟩ => ?_⟩
    refine hmarks γ1 w1 a1.defers a1.tmps _ hf1.2 st1.sat (fun w2 st2 => ?_)
    obtain ⟨v', hr, hvr⟩ := results_ok he hvs hf1.1 st2.sat
    refine ⟨v', hr, ?_⟩
    have hsb := st2.sat.blk o.l
    rw [hl3] at hsb
    obtain ⟨B3, P3, Q3, fn3, tmps3, D3, P4, Q4, hg3, hmk3, hB3, hTT3⟩ := hsb.loop_inv
    rw [hgl] at hg3; cases hg3
    have st4 : Step s2.next s4.next γ1 s2.at w2 γ1 s4.at { w2 with heap := w2.heap.setIfInBounds L (.loop { state := .exhausted, pending := pend, fn := fn3, tmps := tmps3, params := ps3, assign := as3, body := bd3, defers := D3 }) } := by
      rw [hn4, hat4]
      exact Step.loopPut st2.sat hl3 hgl hmk3 hTT3 hB3
    have hend : (Instr.endLoop L).run P w2 = .ok pend { w2 with heap := w2.heap.setIfInBounds L (.loop { state := .exhausted, pending := pend, fn := fn3, tmps := tmps3, params := ps3, assign := as3, body := bd3, defers := D3 }) } :=
      run_endLoop hB3 (fun hb => hnb hb)
    have hq := hQ _ ⟨γ1, (st1.trans (Nat.zero_le _) hraw2.next st2).trans (Nat.zero_le _) hraw4.next st4, hfO, fun id hid => hnn id (by have := hraw2.next; have := hraw4.next; omega), hos⟩
    refine ⟨pend, _, hend, ?_⟩
    unfold exOf at hex
    split at hex
    · injection hex with hex; subst hex; exact hq
    · injection hex with hex; subst hex; exact wpIn_exit hq
    · injection hex with hex; subst hex; exact wpIn_ret hq
    · cases hex
  · cases hk2
/-- The last piece of a function that is ranged over. -/
theorem AtO.leave {P : Program} {e : Env} (he : Env.Ok P e) {β : Type} {w0 : World} {o : Out} {os : List Out} {aO : Act} {L : Nat} {as : List (Act × Nat)} {n : Nat} {c : Code} {fn : Func} {fr : Fr} {s : St} {k : Ex → Fr → St → Option β} {r : β}
    (h : ev P e n (.code c none fr s (retK e fn (endLoopK o.l o.fr k))) = some r) (hw : s.Wf) {a : Act} {w : World} (hat : AtO w0 (o :: os) ((aO, L) :: as) fr s a w) :
    ∃ ex s', k ex o.fr s' = some r ∧ s'.Wf ∧ ∀ Q, (∀ w', AtO w0 os as o.fr s' aO w' → Q (exC ex) aO w') → c.wpIn (FF none) 0 P (bodyPostM Fence.wide 0 P fn (rangePost (FF none) 0 P L Q aO)) a w := by
  obtain ⟨ex1, fr1, s1, hk, hw1, hgo⟩ := AtO.run (os := o :: os) (as := (aO, L) :: as) (w0 := w0) he h hw
  unfold retK at hk
  cases ex1 with
  | exit id => cases hk
  | normal =>
    obtain ⟨ex, s', q1, q2, q3⟩ := leave_core (w0 := w0) (os := os) (aO := aO) (L := L) (as := as) he hk hw1
    exact ⟨ex, s', q1, q2, fun Q hQ => hgo a w hat _ (fun a1 w1 hat1 => q3 Q hQ a1 w1 hat1)⟩
  | ret =>
    obtain ⟨ex, s', q1, q2, q3⟩ := leave_core (w0 := w0) (os := os) (aO := aO) (L := L) (as := as) he hk hw1
    exact ⟨ex, s', q1, q2, fun Q hQ => hgo a w hat _ (fun a1 w1 hat1 => q3 Q hQ a1 w1 hat1)⟩
/-- Into the function that is ranged over. -/
theorem AtO.range {P : Program} {e : Env} (he : Env.Ok P e) {β : Type} {w0 : World} {os : List Out} {as : List (Act × Nat)} {c : Code} {g : Operand} {ps : Array Tmp} {assign body : Code} {f : FuncId} {first captured : Array Value} {fn : Func} {c' : Code} {fr : Fr} {s : St}
    (hc : c = .rangeFunc g ps assign body) (hg : aev fr.T g = some (.func (.func f) first captured)) (hf : e.fnOf f = some fn) (hb : fn.body = some c') (hn : fn.ntmps ≤ 1024) (hl : first.size + captured.size < fn.ntmps)
    {k : Out → Fr → St → Option β} {r : β} (h : (s.newK .mark fun mk s1 => s1.newK (.loop .ready none fr.T ps assign body mk) fun l s2 => k ⟨⟨fr.T, mk :: fr.D⟩, l⟩ (frameOf fn (first.toList ++ (.func (.yield l) #[] #[] :: captured.toList))) s2) = some r)
    (hw : s.Wf) {a : Act} {w : World} (hat : AtO w0 os as fr s a w) {Q : Exit → Act → World → Prop}
    (hk : ∀ o frC s2, k o frC s2 = some r → s2.Wf → ∀ aO L aC w1, AtO w0 (o :: os) ((aO, L) :: as) frC s2 aC w1 → c'.wpIn (FF none) 0 P (bodyPostM Fence.wide 0 P fn (rangePost (FF none) 0 P L Q aO)) aC w1) :
    c.wpIn (FF none) 0 P Q a w := by
  subst hc
  obtain ⟨s1, hk1, hraw1, hn1, hd1, hat1⟩ := St.newK_inv h hw
  obtain ⟨s2, hk2, hraw2, hn2, hd2, hat2⟩ := St.newK_inv hk1 hraw1.wf
  obtain ⟨γ, st, hfr, hnone, hos⟩ := hat
  refine wpIn_rangeFunc (fun fid _ => ?_)
  have g1 : γ s.next = none := hnone s.next (Nat.le_refl _)
  have st1 : Step s.next s1.next γ s.at w (γ.add s.next (w.heap.size, 0, 0)) s1.at (w.alloc (.deferred (some []))) := by
    rw [hn1, hat1]
    exact Step.ofNew (C := 0) st.sat g1 (by simp) (fun B hB => Below.heap_alloc w _ B hB) rfl rfl rfl ⟨w.heap.size, 0, 0, Gam.add_same _ _ _, World.alloc_heap_new w _⟩
  have hf1 := hfr.mono st1.le
  have g2 : (γ.add s.next (w.heap.size, 0, 0)) s1.next = none := by
    rw [Gam.add_other γ (by omega)]
    exact hnone s1.next (by omega)
  have st2 := Step.loopNew (fn := fid) (ps := ps) (as := assign) (bd := body) st1.sat g2 (Gam.add_same _ _ _) hf1.1
  rw [← hn2, ← hat2] at st2
  have st12 := st1.trans (by omega) (by omega) st2
  obtain ⟨fi', ca', hf', r1, r2⟩ := func_inv (aev_rel hfr.1 hg)
  have hmono := fun {l : List Value} {l' : List Value} (q : LRel γ l l') => (⟨q.1, fun i h1 h2 => (q.2 i h1 h2).mono st12.le⟩ : LRel _ l l')
  have e1 : (w.alloc (.deferred (some []))).heap.size = w.heap.size + 1 := by simp
  let aO : Act := { a with defers := { target := .collected w.heap.size, args := #[] } :: a.defers }
  refine ⟨w.heap.size + 1, [{ target := .collected w.heap.size, args := #[] }], (w.alloc (.deferred (some []))).alloc (.loop { state := .ready, pending := none, fn := fid, tmps := a.tmps, params := ps, assign, body, defers := w.heap.size }),
    { target := .fn (.func f) ca', args := fi' ++ #[.func (.yield (w.heap.size + 1)) #[] #[]] }, ((w.alloc (.deferred (some []))).alloc (.loop { state := .ready, pending := none, fn := fid, tmps := a.tmps, params := ps, assign, body, defers := w.heap.size })), f, (fi' ++ #[.func (.yield (w.heap.size + 1)) #[] #[]]) ++ ca', ((w.alloc (.deferred (some []))).alloc (.loop { state := .ready, pending := none, fn := fid, tmps := a.tmps, params := ps, assign, body, defers := w.heap.size })), run_enterLoop_outer _ _ _ _ _, ?_, fun f _ => FF_fn none f, ?_, fun h => FF_depth h, ?_⟩
  · have : a.eval (.const (.func (.yield (w.heap.size + 1)) #[] #[])) = .func (.yield (w.heap.size + 1)) #[] #[] := rfl
    simp [resolve, hf', Deferred.ofValue, this]
  · simp [invoke, callFunc_ok he hf hb]
  · refine callsIn_FF (callsIn_of_wp_marks (he.fn f fn hf).1 hb trivial ?_) none
    rw [show Fence.wide = FF none from rfl]
    refine hk _ _ _ hk2 hraw2.wf aO (w.heap.size + 1) _ _ ⟨_, st.trans (Nat.zero_le _) (by have := hraw1.next; have := hraw2.next; omega) st12, ?_, fun id hid => ?_, ⟨hfr.1.mono st12.le, ⟨_, 0, 0, Gam.le_add g2 _ _ _ (Gam.add_same _ _ _), rfl⟩, hfr.2.mono st12.le⟩, ⟨0, 0, by rw [← e1]; exact Gam.add_same _ _ _⟩, hos.mono st12.le⟩
    · have hargs : LRel ((γ.add s.next (w.heap.size, 0, 0)).add s1.next ((w.alloc (.deferred (some []))).heap.size, 0, 0)) (first.toList ++ (.func (.yield s1.next) #[] #[] :: captured.toList)) (((fi' ++ #[Value.func (.yield (w.heap.size + 1)) #[] #[]]) ++ ca' : Array Value)).toList := by
        have := LRel.append (hmono r1) (LRel.cons (VRel.yield (B := w.heap.size + 1) (O := 0) (C := 0) (by rw [← e1]; exact Gam.add_same _ _ _)) (hmono r2))
        simpa using this
      have hlen : (first.toList ++ (.func (.yield s1.next) #[] #[] :: captured.toList)).length ≤ fn.ntmps := by simp; omega
      have hd := depthOf_le hn
      have hset : ∀ args : List Value, args.length ≤ fn.ntmps → ∃ T', setArgs (depthOf fn.ntmps) .nil 0 args some = some T' ∧ ∀ j, j < 2 ^ (depthOf fn.ntmps) → PT.get (depthOf fn.ntmps) T' j = if 0 ≤ j ∧ j < 0 + args.length then args[j - 0]? else PT.get (depthOf fn.ntmps) .nil j := by
        intro args hla
        cases hs : setArgs (depthOf fn.ntmps) .nil 0 args some with
        | some T' =>
          obtain ⟨T2, q1, q2⟩ := setArgs_ok (depthOf fn.ntmps) args .nil 0 some T' hs (by omega)
          injection q1 with q1
          subst q1
          exact ⟨_, rfl, q2⟩
        | none =>
          exfalso
          have tot : ∀ (vs : List Value) (T : PT Value) (i : Nat), setArgs (depthOf fn.ntmps) T i vs some ≠ none := by
            intro vs
            induction vs with
            | nil => intro T i hh; cases hh
            | cons v vs ih => intro T i hh; simp only [setArgs, forceV_eq, PT.setK_eq, forceNat_eq] at hh; exact ih _ _ hh
          exact tot args .nil 0 hs
      obtain ⟨T', hT1, hT2⟩ := hset _ hlen
      have hTr := args_rel hd hlen hargs hT2
      have hfe : frameOf fn (first.toList ++ (.func (.yield s1.next) #[] #[] :: captured.toList)) = ⟨⟨T', fn.ntmps, depthOf fn.ntmps⟩, []⟩ := by unfold frameOf argT; rw [hT1]; rfl
      rw [hfe]
      exact ⟨hTr, trivial⟩
    · rw [Gam.add_other _ (by omega), Gam.add_other γ (by omega)]
      exact hnone id (by omega)
omit [Rho] in
theorem AtO.leaveL {ρ1 ρ2 : Rho} {P : Program} {e : Env} (he : @Env.Ok ρ1 P e) {w0 : World} {o : Out} {os os2 : List Out} {aO : Act} {L : Nat} {as : List (Act × Nat)} {n : Nat} {c : Code} {fn : Func} {fr fr2 : Fr} {s s2 : St} {want : Ex} {σ : List Value} {π : List Nat} {τ : List (Option Nat)}
    (h : ev P e n (.code c none fr s (retK e fn (endLoopK o.l o.fr (stopO want σ π τ os2 fr2 s2 os)))) = some (codes2 s2 s2.next)) (hσ : SubOk ρ1 ρ2 0 σ) (hτ : LsubOk ρ1 ρ2 0 τ) (hm : ∀ B o, ρ2.mem B = some o → ρ1.mem B = some o) (hw : s.Wf) (hw2 : s2.Wf)
    {a : Act} {w : World} (hat : @AtO ρ1 w0 (o :: os) ((aO, L) :: as) fr s a w) {Q : Exit → Act → World → Prop} (hQ : ∀ w', @AtO ρ2 w0 os2 as fr2 s2 aO w' → Q (exC want) aO w') :
    c.wpIn (FF none) 0 P (bodyPostM Fence.wide 0 P fn (rangePost (FF none) 0 P L Q aO)) a w := by
  obtain ⟨ex, s', hk, _, hgo⟩ := @AtO.leave ρ1 P e he _ w0 o os aO L as n c fn fr s _ _ h hw a w hat
  obtain ⟨rfl, h2, h3⟩ := stopO_inv hk
  exact hgo Q (fun w' hat' => hQ w' (AtO.shift hσ hτ hm hw2 h2 h3 hat'))
def rangeS (fr : Fr) (s : St) (ps : Array Tmp) (assign body : Code) (fn : Func) (first captured : Array Value) (k : Out → Fr → St → Option (List (Option (Array Tmp × Code × Code)))) : Option (List (Option (Array Tmp × Code × Code))) :=
  s.newK .mark fun mk s1 => s1.newK (.loop .ready none fr.T ps assign body mk) fun l s2 => k ⟨⟨fr.T, mk :: fr.D⟩, l⟩ (frameOf fn (first.toList ++ (.func (.yield l) #[] #[] :: captured.toList))) s2
omit [Rho] in
theorem AtO.rangeL {ρ1 ρ2 : Rho} {P : Program} {e : Env} (he : @Env.Ok ρ1 P e) {w0 : World} {os os2 : List Out} {as : List (Act × Nat)} {c : Code} {g : Operand} {ps : Array Tmp} {assign body : Code} {f : FuncId} {first captured : Array Value} {fn : Func} {c' : Code} {fr fr2 : Fr} {s s2 : St} {σ : List Value} {π : List Nat} {τ : List (Option Nat)}
    (hc : c = .rangeFunc g ps assign body) (hg : aev fr.T g = some (.func (.func f) first captured)) (hf : e.fnOf f = some fn) (hb : fn.body = some c') (hn : fn.ntmps ≤ 1024) (hl : first.size + captured.size < fn.ntmps)
    (h : rangeS fr s ps assign body fn first captured (fun o frC s1 => stopO .normal σ π τ os2 fr2 s2 (o :: os) .normal frC s1) = some (codes2 s2 s2.next)) (hσ : SubOk ρ1 ρ2 0 σ) (hτ : LsubOk ρ1 ρ2 0 τ) (hm : ∀ B o, ρ2.mem B = some o → ρ1.mem B = some o)
    (hw : s.Wf) (hw2 : s2.Wf) {a : Act} {w : World} (hat : @AtO ρ1 w0 os as fr s a w) {Q : Exit → Act → World → Prop}
    (hk : ∀ aO L aC w1, @AtO ρ2 w0 os2 ((aO, L) :: as) fr2 s2 aC w1 → c'.wpIn (FF none) 0 P (bodyPostM Fence.wide 0 P fn (rangePost (FF none) 0 P L Q aO)) aC w1) :
    c.wpIn (FF none) 0 P Q a w := by
  refine @AtO.range ρ1 P e he _ w0 os as c g ps assign body f first captured fn c' fr s hc hg hf hb hn hl (fun o frC s1 => stopO .normal σ π τ os2 fr2 s2 (o :: os) .normal frC s1) _ h hw a w hat Q ?_
  intro o frC s3 hk3 hw3 aO L aC w1 hat3
  obtain ⟨_, q1, q2⟩ := stopO_inv hk3
  exact hk aO L aC w1 (AtO.shift hσ hτ hm hw2 q1 q2 hat3)
end
def rangeG : Code → Operand
  | .rangeFunc g _ _ _ => g
  | _ => .const (.bool false)
def rangeP : Code → Array Tmp
  | .rangeFunc _ ps _ _ => ps
  | _ => #[]
def rangeA : Code → Code
  | .rangeFunc _ _ a _ => a
  | _ => .skip
def rangeB : Code → Code
  | .rangeFunc _ _ _ b => b
  | _ => .skip
def mkTm (n d : Nat) (l : List (Nat × Value)) : Tm := ⟨mkT d l .nil, n, d⟩
end Go.Ev
namespace Go.Ev
open Go Go.RowKit
section
variable [Rho]
/-- A write into a block, where memory may grow besides. -/
theorem Step.ofPutG {lo : Nat} {γ : Gam} {h : Hp} {w w' : World} {id B O C : Nat} {b : AB} (hs : Sat γ h w) (hown : (h id).own = true) (hg : γ id = some (B, O, C))
    (hsz : w.heap.size ≤ w'.heap.size) (hold : ∀ B', B' < w.heap.size → B' ≠ B → w'.heap[B']? = w.heap[B']?) (hos : w'.os = w.os) (htape : w'.tape = w.tape) (hout : w'.output = w.output)
    (hb : SatB γ w' id b) (hbo : b.alive = true → b.own = true) : Step lo lo γ h w γ (fun j => if j = id then b else h j) w' := by
  refine Step0.up hs.frz ⟨Gam.le_refl _, fun j e1 e2 => absurd e1 e2, hsz, fun B' hB ho => hold B' hB (fun e => ho ⟨id, O, C, hown, by rw [e]; exact hg⟩), fun B' ho => ?_, ⟨fun j => ?_, fun i j B1 O1 C1 O' C1' ai aj ei ej => ?_⟩, hos, htape, hout, fun j a1 a2 => ?_⟩
  · obtain ⟨j, O1, C1, ho1, e1⟩ := ho
    by_cases hj : j = id
    · subst hj; exact .inl ⟨j, O1, C1, hown, e1⟩
    · simp only [if_neg hj] at ho1; exact .inl ⟨j, O1, C1, ho1, e1⟩
  · by_cases hj : j = id
    · subst hj; simp only [if_true]; exact hb
    · simp only [if_neg hj]
      refine (hs.blk j).keep (Gam.le_refl _) (fun q => q) (fun B1 O1 C1 ha e => hold B1 ((hs.blk j).at ha _ _ _ e) (fun e2 => hj ?_))
      subst e2
      exact hs.inj j id B1 O1 C1 O C ha (AB.alive_of_own hown) e hg
  · have key : ∀ m, (if m = id then b else h m).alive = true → (h m).alive = true := fun m hm => by
      by_cases hmi : m = id
      · subst hmi; exact AB.alive_of_own hown
      · simpa only [if_neg hmi] using hm
    exact hs.inj i j B1 O1 C1 O' C1' (key i ai) (key j aj) ei ej
  · by_cases hj : j = id
    · subst hj; simp only [if_true] at a1 a2; rw [hbo a1] at a2; cases a2
    · simp only [if_neg hj]
/-- What a call does that changes a list in its place. -/
def Placed (t : TypeId) (B O : Nat) (L : List Value) (w w' : World) : Prop :=
  w'.os = w.os ∧ w'.tape = w.tape ∧ w'.output = w.output ∧ w.heap.size ≤ w'.heap.size ∧ (∀ B', B' < w.heap.size → B' ≠ B → w'.heap[B']? = w.heap[B']?) ∧
  ∃ arr arr', w.heap[B]? = some (.cells arr t (0, 0)) ∧ w'.heap[B]? = some (.cells arr' t (0, 0)) ∧ arr'.size = arr.size ∧ ∀ i (h : i < L.length), arr'[O + i]? = some L[i]
/-- An entry for a call of a list and what has no names: the list becomes another one. -/
theorem CGEntOk.place {P : Program} {e : Env} {f : FuncId} {id sy k k' t sz next n : Nat} {u : Value} (hf : ∃ fn c, e.fnOf f = some fn ∧ fn.body = some c) (hu : closed 3 u = true)
    (hv : Rho.val sy = .int .i64 (n : Nat)) (hl : (Rho.lst k).length = n * sz) (hl' : (Rho.lst k').length = n * sz)
    (hc : ∀ w B O C arr, w.heap[B]? = some (.cells arr t (0, 0)) → O + C * sz ≤ arr.size → n ≤ C → (∀ i (h : i < (Rho.lst k).length), arr[O + i]? = some (Rho.lst k)[i]) →
      Calls P f #[.slice (some ⟨B, O, none⟩) n C, den 3 u] w (fun en w' => en = .returned (.tuple #[]) ∧ Placed t B O (Rho.lst k') w w'))
    (h0 : n = 0 → ∀ w, Calls P f #[.slice none 0 0, den 3 u] w (fun en w' => en = .returned (.tuple #[]) ∧ Below w.heap.size w w')) :
    CGEntOk P e ⟨f, [.pointer (some ⟨id, sy, some 2⟩), u], [(id, .lst k t sz)], next, [(id, .lst k' t sz)], [], .tuple #[]⟩ := by
  refine ⟨hf, fun γ args' s w hr hn hS _ => ?_⟩
  have hb : s id = .lst k t sz := by
    obtain ⟨h1, _⟩ := cond_both hn
    exact (sameAB_eq h1).symm
  have hl2 : args'.toList.length = 2 := hr.1.symm
  obtain ⟨a, b, rfl⟩ : ∃ a b, args' = #[a, b] := by
    match hm : args'.toList, hl2 with
    | [a, b], _ => exact ⟨a, b, by rw [← hm]⟩
  have ra : VRel γ (.pointer (some ⟨id, sy, some 2⟩)) a := hr.2 0 (by simp) (by simp)
  have rb : VRel γ u b := hr.2 1 (by simp) (by simp)
  have hbv := closed_eq γ 3 _ _ hu rb
  subst hbv
  have hsb := hS.blk id
  rw [hb] at hsb
  rcases ra.lst_inv with ⟨B, O, C, n', hg, hv2, hnC, rfl⟩ | ⟨hv2, rfl⟩
  · have hn' : n' = n := by rw [hv] at hv2; injection hv2 with _ q; omega
    subst hn'
    rcases hsb with ⟨_, q⟩ | ⟨B', O', C', arr, hg', ha, hroom, hlen, hcc⟩
    · rw [hg] at q; cases q
    rw [hg] at hg'; cases hg'
    refine (hc w B O C arr ha hroom hnC hcc).mono (fun en w' ⟨q1, q2, q3, q4, q5, q6, arr1, arr', q7, q8, q9, q10⟩ => ⟨γ, _, q1, .tuple _ _ rfl (fun i h1 _ => by simp at h1), ?_⟩)
    rw [ha] at q7
    injection q7 with q7
    cases q7
    exact Step.ofPutG hS (by rw [hb]; rfl) hg q5 q6 q2 q3 q4 (.inr ⟨B, O, C, arr', hg, q8, by rw [q9]; exact hroom, by rw [hl']; exact Nat.mul_le_mul_right _ hnC, q10⟩) (fun _ => rfl)
  · have hn0 : n = 0 := by rw [hv] at hv2; injection hv2 with _ q; omega
    subst hn0
    refine (h0 rfl w).mono (fun en w' ⟨q1, q2⟩ => ⟨γ, _, q1, .tuple _ _ rfl (fun i h1 _ => by simp at h1), ?_⟩)
    have e0 : Rho.lst k' = [] := List.length_eq_zero_iff.1 (by rw [hl']; simp)
    have e1 : Rho.lst k = [] := List.length_eq_zero_iff.1 (by rw [hl]; simp)
    -- a nil slice: whatever the name stands for
    have old : ∀ id B O C, (s id).alive = true → γ id = some (B, O, C) → B < w.heap.size := fun id B O C ha e => (hS.blk id).at ha _ _ _ e
    have st := Step.ofBelow (lo := next) hS q2
    refine ⟨st.le, st.dom, st.size, fun B hB ho => st.frame B hB ho, fun B ho => ?_, ⟨fun j => ?_, fun B o q => ?_, fun i j B O C O' C' ai aj ei ej => ?_⟩, st.os, st.tape, st.output, fun j a1 a2 => ?_⟩
    · obtain ⟨j, O, C, h1, h2⟩ := ho
      by_cases hj : j = id
      · subst hj; exact st.own B ⟨j, O, C, by rw [hb]; rfl, h2⟩
      · simp only [updH, newH, if_neg hj] at h1; exact st.own B ⟨j, O, C, h1, h2⟩
    · by_cases hj : j = id
      · subst hj
        simp only [updH, newH, if_true]
        have := st.sat.blk j
        rw [hb] at this
        rcases this with ⟨_, r2⟩ | ⟨B, O, C, arr, r1, r2, r3, r4, r5⟩
        · exact .inl ⟨e0, r2⟩
        · exact .inr ⟨B, O, C, arr, r1, r2, r3, by rw [e0]; simp, by rw [e0]; intro i hi; simp at hi⟩
      · simp only [updH, newH, if_neg hj]; exact st.sat.blk j
    · obtain ⟨r1, r2⟩ := st.sat.frz B o q
      refine ⟨r1, fun ⟨j, O, C, h1, h2⟩ => r2 ?_⟩
      by_cases hj : j = id
      · subst hj; exact ⟨j, O, C, by rw [hb]; rfl, h2⟩
      · simp only [updH, newH, if_neg hj] at h1; exact ⟨j, O, C, h1, h2⟩
    · have key : ∀ m, (newH (updH s [(id, .lst k' t sz)]) next [] m).alive = true → (s m).alive = true := fun m hm => by
        by_cases hmi : m = id
        · subst hmi; rw [hb]; rfl
        · simpa only [updH, newH, if_neg hmi] using hm
      exact hS.inj i j B O C O' C' (key i ai) (key j aj) ei ej
    · by_cases hj : j = id
      · subst hj; simp only [updH, newH, if_true] at a2; cases a2
      · simp only [updH, newH, if_neg hj]
end
end Go.Ev
namespace Go.Ev
open Go Go.RowKit
def layS (s : St) (b k t sz : Nat) : Option St := s.putK b .dead fun s1 => s1.newK (.lst k t sz) fun _ s2 => some s2
/-- The same value (pointers, slices and lists by name, too). -/
def layE (v2 v1 : Value) : Bool := match v2, v1 with
  | .pointer (some ⟨b, o, none⟩), .pointer (some ⟨b1, o1, none⟩) => cond (Nat.beq b b1) (Nat.beq o o1) false
  | .pointer (some ⟨b, o, some x⟩), .pointer (some ⟨b1, o1, some y⟩) => cond (Nat.beq b b1) (cond (Nat.beq o o1) (Nat.beq x y) false) false
  | .slice (some ⟨b, o, none⟩) l c, .slice (some ⟨b1, o1, none⟩) l1 c1 => cond (Nat.beq b b1) (cond (Nat.beq o o1) (cond (Nat.beq l l1) (Nat.beq c c1) false) false) false
  | v2, v1 => sameV 8 v2 v1
theorem layE_eq {v2 v1 : Value} (h : layE v2 v1 = true) : v2 = v1 := by
  unfold layE at h
  split at h
  · obtain ⟨h1, h2⟩ := cond_both h
    rw [Nat.eq_of_beq_eq_true h1, Nat.eq_of_beq_eq_true h2]
  · obtain ⟨h1, h⟩ := cond_both h
    obtain ⟨h2, h3⟩ := cond_both h
    rw [Nat.eq_of_beq_eq_true h1, Nat.eq_of_beq_eq_true h2, Nat.eq_of_beq_eq_true h3]
  · obtain ⟨h1, h⟩ := cond_both h
    obtain ⟨h2, h⟩ := cond_both h
    obtain ⟨h3, h4⟩ := cond_both h
    rw [Nat.eq_of_beq_eq_true h1, Nat.eq_of_beq_eq_true h2, Nat.eq_of_beq_eq_true h3, Nat.eq_of_beq_eq_true h4]
  · exact sameV_eq 8 _ _ h
/-- The slot says of the old block's slice: the new list. -/
def layV (id sy b l : Nat) (v2 v1 : Value) : Bool := match v2, v1 with
  | .pointer (some ⟨i, s, some 2⟩), .slice (some ⟨b1, 0, none⟩) n c => cond (Nat.beq i id) (cond (Nat.beq s sy) (cond (Nat.beq b1 b) (cond (Nat.beq n l) (Nat.beq c l) false) false) false) false
  | v2, v1 => layE v2 v1
def layFr (id sy b l : Nat) (fr2 fr1 : Fr) : Bool :=
  cond (Nat.beq fr2.T.n fr1.T.n) (cond (Nat.beq fr2.T.d fr1.T.d) (cond (eqNs fr2.D fr1.D) (allN fr2.T.n fun t => match tget fr2.T t with
    | none => true
    | some v2 => match tget fr1.T t with
      | some v1 => layV id sy b l v2 v1
      | none => false) false) false) false
theorem At.lay [Rho] {w0 : World} {fr fr2 : Fr} {s s2 : St} {a : Act} {w : World} (b k t sz sy l : Nat) {c : List Value} {room : Option Nat} (hw : s.Wf) (hk : layS s b k t sz = some s2)
    (hb : s.at b = .cells c t room false) (hlt : b < s.next) (hfr : layFr s.next sy b l fr2 fr = true) (hcl : c.all (closed 3) = true) (hc : c.length = l * sz) (hlo : l < openCap)
    (hv : Rho.val sy = .int .i64 (l : Nat)) (hl : Rho.lst k = dens 3 c) (hat : At w0 fr s a w) : s2.Wf ∧ At w0 fr2 s2 a w := by
  obtain ⟨sa, hk1, hraw1, hn1, hat1⟩ := St.putK_inv hk hw (St.sees_of_at hb (by simp)) hlt
  obtain ⟨sb, hk2, hraw2, hn2, hd2, hat2⟩ := St.newK_inv hk1 hraw1.wf
  injection hk2 with hk2
  subst hk2
  refine ⟨hraw2.wf, ?_⟩
  obtain ⟨γ, st, hf, hn⟩ := hat
  have hsb := st.sat.blk b
  rw [hb] at hsb
  obtain ⟨B, O, C, arr, g1, g2, g3, g4, g5⟩ := hsb
  have hlen : (dens 3 c).length = c.length := by simp [dens]
  have hat : sb.at = fun j => if j = s.next then AB.lst k t sz else if j = b then .dead else s.at j := by rw [hat2, hat1, hn1]
  have hgn : γ s.next = none := hn _ (Nat.le_refl _)
  have hst : Step s.next (s.next + 1) γ s.at w (γ.add s.next (B, O, l)) (fun j => if j = s.next then AB.lst k t sz else if j = b then .dead else s.at j) w := by
    refine Step.ofMove st.sat (by rw [hb]; rfl) g1 hgn rfl (fun _ _ => rfl) rfl rfl rfl ?_
    refine .inr ⟨B, O, l, arr, Gam.add_same _ _ _, g2, by omega, by rw [hl, hlen]; omega, fun i hi => ?_⟩
    have hi2 : i < c.length := by rw [hl, hlen] at hi; exact hi
    obtain ⟨v', e1, e2⟩ := g4 i hi2
    rw [e1]
    have := closed_eq (γ := γ) 3 c[i] v' (List.all_eq_true.1 hcl _ (List.getElem_mem hi2)) e2
    rw [this]
    simp only [hl, dens, List.getElem_map]
  have hle := Gam.le_add hgn (B, O, l)
  unfold layFr at hfr
  obtain ⟨h1, hfr⟩ := cond_both hfr
  obtain ⟨h2, hfr⟩ := cond_both hfr
  obtain ⟨h3, hfr⟩ := cond_both hfr
  have e1 := Nat.eq_of_beq_eq_true h1
  have e2 := Nat.eq_of_beq_eq_true h2
  have e3 := eqNs_eq _ _ h3
  obtain ⟨⟨t1, t2, t3, t4⟩, hfD⟩ := hf
  refine ⟨γ.add s.next (B, O, l), ?_, ⟨⟨?_, rfl, ?_, fun q v hq => ?_⟩, ?_⟩, fun id hid => ?_⟩
  · rw [hn2, hn1, hat]
    exact st.trans (Nat.zero_le _) (Nat.le_succ _) hst
  · rw [e1]; exact t1
  · rw [e1, e2]; exact t3
  · have := allN_ok hfr q (tget_lt hq)
    rw [hq] at this
    simp only at this
    split at this
    · rename_i v1 hv1
      have hr := t4 q v1 hv1
      unfold layV at this
      split at this
      · obtain ⟨q1, this⟩ := cond_both this
        obtain ⟨q2, this⟩ := cond_both this
        obtain ⟨q3, this⟩ := cond_both this
        obtain ⟨q4, q5⟩ := cond_both this
        have q1 := Nat.eq_of_beq_eq_true q1
        have q2 := Nat.eq_of_beq_eq_true q2
        have q3 := Nat.eq_of_beq_eq_true q3
        have q4 := Nat.eq_of_beq_eq_true q4
        have q5 := Nat.eq_of_beq_eq_true q5
        subst q1 q2 q3 q4 q5
        generalize a.tmps.getD q undef = vv at hr ⊢
        cases hr with
        | slice o n c hg hn =>
          rw [g1] at hg
          injection hg with hg
          injection hg with hg1 hg2
          injection hg2 with hg2 hg3
          subst hg1 hg2 hg3
          have : capOf C ‹_› = ‹_› := by unfold capOf; rw [if_pos hlo]
          rw [this]
          exact VRel.lsl _ _ (Gam.add_same _ _ _) hv (Nat.le_refl _)
      · have := layE_eq this
        subst this
        exact hr.mono hle
    · cases this
  · rw [e3]; exact hfD.mono hle
  · by_cases e : id = s.next
    · subst e; rw [hn2, hn1] at hid; omega
    · rw [Gam.add_other γ e]
      exact hn id (by rw [hn2, hn1] at hid; omega)
/-! ### numbers that wrap around -/
def wr (x : Int) : Int := IntKind.i64.wrap x
theorem k_subw {P : Program} {w : World} {t : TypeId} {x y : Int} : KeyOk P w (.bin .sub t) [.int .i64 x, .int .i64 y] (.int .i64 (wr (x - y))) := fun a b => ⟨guard_int .sub a b, by simp [binOp, Op.intArith, wr]⟩
theorem k_addw {P : Program} {w : World} {t : TypeId} {x y : Int} : KeyOk P w (.bin .add t) [.int .i64 x, .int .i64 y] (.int .i64 (wr (x + y))) := fun a b => ⟨guard_int .add a b, by simp [binOp, Op.intArith, wr]⟩
theorem wr_in {x : Int} (h : -9223372036854775808 ≤ x ∧ x ≤ 9223372036854775807) : wr x = x := wrap64 h
end Go.Ev
namespace Go.Ev
open Go Go.RowKit
abbrev sy (n : Nat) : Value := .chan (some n)
abbrev iV (x : Int) : Value := .int .i64 x
/-- The first symbols; names; lists. -/
def idsF : Nat → Nat → List Value
  | _, 0 => []
  | i, n + 1 => .chan (some i) :: idsF (i + 1) n
def rngF : Nat → Nat → List Nat
  | _, 0 => []
  | i, n + 1 => i :: rngF (i + 1) n
def oldF : Nat → Nat → List (Option Nat)
  | _, 0 => []
  | i, n + 1 => some i :: oldF (i + 1) n
def ids (n : Nat) : List Value := idsF 0 n
def rng (n : Nat) : List Nat := rngF 0 n
def old (n : Nat) : List (Option Nat) := oldF 0 n
/-- The first symbols and some more. -/
def pk (n : Nat) (l : List Nat) : List Value := ids n ++ l.map fun i => .chan (some i)
def po (n : Nat) (l : List Nat) : List (Option Nat) := old n ++ l.map some
def valF (ρ : Rho) : Nat → Nat → List Value
  | _, 0 => []
  | i, n + 1 => ρ.val i :: valF ρ (i + 1) n
def lstF (ρ : Rho) : Nat → Nat → List (List Value)
  | _, 0 => []
  | i, n + 1 => ρ.lst i :: lstF ρ (i + 1) n
theorem SubOk.from {ρ1 ρ2 : Rho} : ∀ {σ : List Value} {i : Nat}, σ.all (closed 3) = true → σ.map (@den ρ1 3) = valF ρ2 i σ.length → SubOk ρ1 ρ2 i σ
  | [], _, _, _ => trivial
  | u :: σ, i, hc, h => by
    simp only [List.all_cons, Bool.and_eq_true] at hc
    simp only [List.map_cons, List.length_cons, valF, List.cons.injEq] at h
    exact ⟨hc.1, h.1, SubOk.from hc.2 h.2⟩
theorem SubOk.om {ρ1 ρ2 : Rho} {σ : List Value} (hc : σ.all (closed 3) = true) (h : σ.map (@den ρ1 3) = valF ρ2 0 σ.length) : SubOk ρ1 ρ2 0 σ := SubOk.from hc h
def lstO (ρ : Rho) : Option Nat → List Value
  | some k => ρ.lst k
  | none => []
theorem LsubOk.from {ρ1 ρ2 : Rho} : ∀ {τ : List (Option Nat)} {i : Nat}, τ.map (lstO ρ1) = lstF ρ2 i τ.length → LsubOk ρ1 ρ2 i τ
  | [], _, _ => trivial
  | o :: τ, i, h => by
    simp only [List.map_cons, List.length_cons, lstF, List.cons.injEq] at h
    cases o with
    | none => exact ⟨h.1.symm, LsubOk.from h.2⟩
    | some k => exact ⟨h.1.symm, LsubOk.from h.2⟩
theorem LsubOk.om {ρ1 ρ2 : Rho} {τ : List (Option Nat)} (h : τ.map (lstO ρ1) = lstF ρ2 0 τ.length) : LsubOk ρ1 ρ2 0 τ := LsubOk.from h
/-- What is frozen since w0 lies there still. -/
abbrev MM (w0 w : World) : Prop := ∀ (B : Nat) (o : Obj), w0.heap[B]? = some o → w.heap[B]? = some o
abbrev fz (w0 : World) : Nat → Option Obj := fun b => w0.heap[b]?
abbrev RetV (w : World) (r : Value) : Ending → World → Prop := fun en w' => en = .returned r ∧ Below w.heap.size w w'
abbrev FnIn (e : Env) (f : FuncId) : Prop := ∃ fn c, e.fnOf f = some fn ∧ fn.body = some c
theorem CEntOk.o2 [Rho] {P : Program} {e : Env} {f : FuncId} {args : List Value} {v : Value} {vals : Array Value} {r : Value} (hc : ∀ w, MemOk w → Calls P f vals w (RetV w r)) (hf : FnIn e f) (hv : Go.Ev.closed 3 v = true) (ha : args.all (Go.Ev.closed 3) = true)
    (hd : dens 3 args = vals.toList) (hr : den 3 v = r) : CEntOk P e ⟨f, args, [], v⟩ := CEntOk.of vals r hv hf ha hd hr hc
theorem At.more {ρ1 ρ2 : Rho} {w0 : World} {fr : Fr} {s : St} {a : Act} {w : World} {n b k : Nat} (hw : s.Wf) (h : agreeL (ids n) (rng b) (old k) fr s fr s = true) (hat : @At ρ1 w0 fr s a w)
    (hc : (ids n).all (closed 3) = true) (h1 : (ids n).map (@den ρ1 3) = valF ρ2 0 (ids n).length) (h2 : (old k).map (lstO ρ1) = lstF ρ2 0 (old k).length) (hm : ∀ B o, ρ2.mem B = some o → ρ1.mem B = some o) : @At ρ2 w0 fr s a w :=
  At.shiftL (SubOk.om hc h1) (LsubOk.om h2) hm hw h hat
abbrev RO (w0 : World) (l : List Value) (L : List (List Value)) : Rho := Rho.of l (fz w0) L
/-- A state says what it says of itself. -/
abbrev IdOk (n b k : Nat) (fr : Fr) (s : St) : Prop := s.Wf ∧ agreeL (ids n) (rng b) (old k) fr s fr s = true
/-- A piece of code goes from a state to a state. -/
abbrev evG (P : Program) (e : Env) (l : List Ent) (c : List CEnt) (ll : List LEnt) (cl : List CLEnt) (cd : Code) (fr : Fr) (s : St) (want : Ex) (σ : List Value) (π : List Nat) (τ : List (Option Nat)) (fr2 : Fr) (s2 : St) : Option Unit :=
  ev P (e.symL l c ll cl) 3000 (.code cd none fr s (stopL want σ π τ fr2 s2))
section
variable {ρ0 ρ1 ρ2 : Rho} {P : Program} {e : Env} {l : List Ent} {c : List CEnt} {ll : List LEnt} {cl : List CLEnt} {w0 : World} {cd : Code} {want : Ex} {fr fr2 : Fr} {s s2 : St} {σ : List Value} {π : List Nat} {τ : List (Option Nat)} {nn b k n2 b2 k2 : Nat} {a : Act} {w : World} {Q : Exit → Act → World → Prop}
theorem At.goS (h : evG P e l c ll cl cd fr s want σ π τ fr2 s2 = some ()) (he : @Env.Ok ρ1 P e) (h1 : @EntsOk ρ1 P l) (h2 : @CEntsOk ρ1 P e c) (h3 : @LsOk ρ1 ll) (h4 : @CLEntsOk ρ1 P e cl) (hi : IdOk nn b k fr s) (hi2 : IdOk n2 b2 k2 fr2 s2) (hat : @At ρ0 w0 fr s a w)
    (hs : SubOk ρ1 ρ2 0 σ) (ht : LsubOk ρ1 ρ2 0 τ) (hQ : ∀ a' w', @At ρ2 w0 fr2 s2 a' w' → Q (exC want) a' w')
    (g1 : (ids nn).all (closed 3) = true := by exact rfl) (g2 : (ids nn).map (@den ρ0 3) = valF ρ1 0 (ids nn).length := by exact rfl) (g3 : (old k).map (lstO ρ0) = lstF ρ1 0 (old k).length := by exact rfl) (g4 : ∀ B o, ρ1.mem B = some o → ρ0.mem B = some o := by exact fun _ _ h => h)
    (g5 : ∀ B o, ρ2.mem B = some o → ρ1.mem B = some o := by exact fun _ _ h => h) : cd.wpIn (FF none) 0 P Q a w :=
  At.pieceL (@Env.Ok.symL ρ1 P e he l c ll cl h1 h2 h3 h4) h hs ht g5 hi.1 hi2.1 (At.more (ρ1 := ρ0) (ρ2 := ρ1) hi.1 hi.2 hat g1 g2 g3 g4) hQ
theorem At.go (h : evG P e l c ll cl cd fr s want σ π τ fr2 s2 = some ()) (he : @Env.Ok ρ1 P e) (h1 : @EntsOk ρ1 P l) (h2 : @CEntsOk ρ1 P e c) (h3 : @LsOk ρ1 ll) (h4 : @CLEntsOk ρ1 P e cl) (hi : IdOk nn b k fr s) (hi2 : IdOk n2 b2 k2 fr2 s2) (hat : @At ρ0 w0 fr s a w)
    (hQ : ∀ a' w', @At ρ2 w0 fr2 s2 a' w' → Q (exC want) a' w')
    (g1 : (ids nn).all (closed 3) = true := by exact rfl) (g2 : (ids nn).map (@den ρ0 3) = valF ρ1 0 (ids nn).length := by exact rfl) (g3 : (old k).map (lstO ρ0) = lstF ρ1 0 (old k).length := by exact rfl) (g4 : ∀ B o, ρ1.mem B = some o → ρ0.mem B = some o := by exact fun _ _ h => h)
    (g5 : ∀ B o, ρ2.mem B = some o → ρ1.mem B = some o := by exact fun _ _ h => h) (g6 : σ.all (closed 3) = true := by exact rfl) (g7 : σ.map (@den ρ1 3) = valF ρ2 0 σ.length := by exact rfl) (g8 : τ.map (lstO ρ1) = lstF ρ2 0 τ.length := by exact rfl) : cd.wpIn (FF none) 0 P Q a w :=
  At.goS h he h1 h2 h3 h4 hi hi2 hat (SubOk.om g6 g7) (LsubOk.om g8) hQ g1 g2 g3 g4 g5
variable {fn : Func} {K : Value → St → Option Unit} {R : Ending → World → Prop}
/-- A piece of code returns. -/
abbrev evR (P : Program) (e : Env) (l : List Ent) (c : List CEnt) (ll : List LEnt) (cl : List CLEnt) (cd : Code) (fr : Fr) (s : St) (fn : Func) (K : Value → St → Option Unit) : Option Unit :=
  ev P (e.symL l c ll cl) 3000 (.code cd none fr s (stopRK (e.symL l c ll cl) fn K))
abbrev evL (P : Program) (e : Env) (l : List Ent) (c : List CEnt) (ll : List LEnt) (cl : List CLEnt) (cd : Code) (fr : Fr) (s : St) (fn : Func) (K : Value → St → Option Unit) : Option Unit :=
  ev P (e.symL l c ll cl) 3000 (.code cd none fr s (retK (e.symL l c ll cl) fn K))
theorem At.rets (h : evR P e l c ll cl cd fr s fn K = some ()) (he : @Env.Ok ρ1 P e) (h1 : @EntsOk ρ1 P l) (h2 : @CEntsOk ρ1 P e c) (h3 : @LsOk ρ1 ll) (h4 : @CLEntsOk ρ1 P e cl) (hi : IdOk nn b k fr s) (hat : @At ρ0 w0 fr s a w)
    (hQ : ∀ a' w', bodyPostM Fence.wide 0 P fn R .ret a' w' → Q .ret a' w') (hR : ∀ v s2, K v s2 = some () → ∀ γ w2 v', @Step ρ1 0 s2.next (fun _ => none) start.at w0 γ s2.at w2 → @VRel ρ1 γ v v' → R (.returned v') w2)
    (g1 : (ids nn).all (closed 3) = true := by exact rfl) (g2 : (ids nn).map (@den ρ0 3) = valF ρ1 0 (ids nn).length := by exact rfl) (g3 : (old k).map (lstO ρ0) = lstF ρ1 0 (old k).length := by exact rfl) (g4 : ∀ B o, ρ1.mem B = some o → ρ0.mem B = some o := by exact fun _ _ h => h) : cd.wpIn (FF none) 0 P Q a w :=
  @At.retGK ρ1 P _ (@Env.Ok.symL ρ1 P e he l c ll cl h1 h2 h3 h4) w0 3000 cd fn fr s K R h hi.1 a w (At.more (ρ1 := ρ0) (ρ2 := ρ1) hi.1 hi.2 hat g1 g2 g3 g4) hR Q hQ
theorem At.lasts (h : evL P e l c ll cl cd fr s fn K = some ()) (he : @Env.Ok ρ1 P e) (h1 : @EntsOk ρ1 P l) (h2 : @CEntsOk ρ1 P e c) (h3 : @LsOk ρ1 ll) (h4 : @CLEntsOk ρ1 P e cl) (hi : IdOk nn b k fr s) (hat : @At ρ0 w0 fr s a w)
    (hR : ∀ v s2, K v s2 = some () → ∀ γ w2 v', @Step ρ1 0 s2.next (fun _ => none) start.at w0 γ s2.at w2 → @VRel ρ1 γ v v' → R (.returned v') w2)
    (g1 : (ids nn).all (closed 3) = true := by exact rfl) (g2 : (ids nn).map (@den ρ0 3) = valF ρ1 0 (ids nn).length := by exact rfl) (g3 : (old k).map (lstO ρ0) = lstF ρ1 0 (old k).length := by exact rfl) (g4 : ∀ B o, ρ1.mem B = some o → ρ0.mem B = some o := by exact fun _ _ h => h) : cd.wpIn (FF none) 0 P (bodyPostM Fence.wide 0 P fn R) a w :=
  @At.lastK ρ1 P _ (@Env.Ok.symL ρ1 P e he l c ll cl h1 h2 h3 h4) w0 3000 cd fn fr s K R h hi.1 a w (At.more (ρ1 := ρ0) (ρ2 := ρ1) hi.1 hi.2 hat g1 g2 g3 g4) hR
theorem At.retsV {u : Value} (h : evR P e l c ll cl cd fr s fn (endV u) = some ()) (he : @Env.Ok ρ1 P e) (h1 : @EntsOk ρ1 P l) (h2 : @CEntsOk ρ1 P e c) (h3 : @LsOk ρ1 ll) (h4 : @CLEntsOk ρ1 P e cl) (hi : IdOk nn b k fr s) (hat : @At ρ0 w0 fr s a w) (hQ : ∀ a' w', bodyPostM Fence.wide 0 P fn R .ret a' w' → Q .ret a' w') (hR : ∀ w', Below w0.heap.size w0 w' → R (.returned (@den ρ1 3 u)) w') (g0 : closed 3 u = true := by exact rfl)
    (g1 : (ids nn).all (closed 3) = true := by exact rfl) (g2 : (ids nn).map (@den ρ0 3) = valF ρ1 0 (ids nn).length := by exact rfl) (g3 : (old k).map (lstO ρ0) = lstF ρ1 0 (old k).length := by exact rfl) (g4 : ∀ B o, ρ1.mem B = some o → ρ0.mem B = some o := by exact fun _ _ h => h) : cd.wpIn (FF none) 0 P Q a w :=
  At.rets h he h1 h2 h3 h4 hi hat hQ (@endV_ok ρ1 w0 u R g0 hR) g1 g2 g3 g4
theorem At.retsL {u : Value} {id sy k' t sz n : Nat} (rest : Option (List Value)) (h : evR P e l c ll cl cd fr s fn (endL u id k' t sz) = some ()) (he : @Env.Ok ρ1 P e) (h1 : @EntsOk ρ1 P l) (h2 : @CEntsOk ρ1 P e c) (h3 : @LsOk ρ1 ll) (h4 : @CLEntsOk ρ1 P e cl) (hi : IdOk nn b k fr s) (hat : @At ρ0 w0 fr s a w) (hQ : ∀ a' w', bodyPostM Fence.wide 0 P fn R .ret a' w' → Q .ret a' w') (hv : ρ1.val sy = .int .i64 (n : Nat)) (hl : (ρ1.lst k').length = n * sz)
    (hR : ∀ w' a C, Below w0.heap.size w0 w' → NewList w0 w' t sz (ρ1.lst k') a n C → R (.returned (@joinU ρ1 (.slice a n C) rest)) w') (hu : splitU u = some (id, sy, rest) := by exact rfl)
    (g1 : (ids nn).all (closed 3) = true := by exact rfl) (g2 : (ids nn).map (@den ρ0 3) = valF ρ1 0 (ids nn).length := by exact rfl) (g3 : (old k).map (lstO ρ0) = lstF ρ1 0 (old k).length := by exact rfl) (g4 : ∀ B o, ρ1.mem B = some o → ρ0.mem B = some o := by exact fun _ _ h => h) : cd.wpIn (FF none) 0 P Q a w :=
  At.rets h he h1 h2 h3 h4 hi hat hQ (@endL_ok ρ1 P w0 u id sy k' t sz n rest R hu hv hl hR) g1 g2 g3 g4
theorem At.lastsV {u : Value} (h : evL P e l c ll cl cd fr s fn (endV u) = some ()) (he : @Env.Ok ρ1 P e) (h1 : @EntsOk ρ1 P l) (h2 : @CEntsOk ρ1 P e c) (h3 : @LsOk ρ1 ll) (h4 : @CLEntsOk ρ1 P e cl) (hi : IdOk nn b k fr s) (hat : @At ρ0 w0 fr s a w) (hR : ∀ w', Below w0.heap.size w0 w' → R (.returned (@den ρ1 3 u)) w') (g0 : closed 3 u = true := by exact rfl)
    (g1 : (ids nn).all (closed 3) = true := by exact rfl) (g2 : (ids nn).map (@den ρ0 3) = valF ρ1 0 (ids nn).length := by exact rfl) (g3 : (old k).map (lstO ρ0) = lstF ρ1 0 (old k).length := by exact rfl) (g4 : ∀ B o, ρ1.mem B = some o → ρ0.mem B = some o := by exact fun _ _ h => h) : cd.wpIn (FF none) 0 P (bodyPostM Fence.wide 0 P fn R) a w :=
  At.lasts h he h1 h2 h3 h4 hi hat (@endV_ok ρ1 w0 u R g0 hR) g1 g2 g3 g4
theorem At.lastsL {u : Value} {id sy k' t sz n : Nat} (rest : Option (List Value)) (h : evL P e l c ll cl cd fr s fn (endL u id k' t sz) = some ()) (he : @Env.Ok ρ1 P e) (h1 : @EntsOk ρ1 P l) (h2 : @CEntsOk ρ1 P e c) (h3 : @LsOk ρ1 ll) (h4 : @CLEntsOk ρ1 P e cl) (hi : IdOk nn b k fr s) (hat : @At ρ0 w0 fr s a w) (hv : ρ1.val sy = .int .i64 (n : Nat)) (hl : (ρ1.lst k').length = n * sz)
    (hR : ∀ w' a C, Below w0.heap.size w0 w' → NewList w0 w' t sz (ρ1.lst k') a n C → R (.returned (@joinU ρ1 (.slice a n C) rest)) w') (hu : splitU u = some (id, sy, rest) := by exact rfl)
    (g1 : (ids nn).all (closed 3) = true := by exact rfl) (g2 : (ids nn).map (@den ρ0 3) = valF ρ1 0 (ids nn).length := by exact rfl) (g3 : (old k).map (lstO ρ0) = lstF ρ1 0 (old k).length := by exact rfl) (g4 : ∀ B o, ρ1.mem B = some o → ρ0.mem B = some o := by exact fun _ _ h => h) : cd.wpIn (FF none) 0 P (bodyPostM Fence.wide 0 P fn R) a w :=
  At.lasts h he h1 h2 h3 h4 hi hat (@endL_ok ρ1 P w0 u id sy k' t sz n rest R hu hv hl hR) g1 g2 g3 g4
end
abbrev ag (i n : Nat) : Value := .agg (idsF i n).toArray
theorem enk {ρ : Rho} {P : Program} {x : Ent} (h : ∀ w, @MemOk ρ w → KeyOk P w x.key (@dens ρ 3 x.args) (@den ρ 3 x.res)) (h1 : x.args.all (closed 3) = true := by exact rfl) (h2 : closed 3 x.res = true := by exact rfl) : @EntOk ρ P x := ⟨h1, h2, h⟩
theorem cok {ρ : Rho} {P : Program} {e : Env} {f : FuncId} {args : List Value} {v : Value} {vals : Array Value} {r : Value} (hc : ∀ w, @MemOk ρ w → Calls P f vals w (RetV w r)) (hf : FnIn e f) (hv : Go.Ev.closed 3 v = true := by exact rfl) (ha : args.all (Go.Ev.closed 3) = true := by exact rfl)
    (hd : @dens ρ 3 args = vals.toList := by exact rfl) (hr : @den ρ 3 v = r := by exact rfl) : @CEntOk ρ P e ⟨f, args, [], v⟩ := @CEntOk.of ρ P e f args v vals r hv hf ha hd hr hc
theorem vl {a b : Nat} (h : a = b := by first | (simp; done) | (simp; omega)) : iV (a : Int) = iV (b : Int) := by rw [h]
abbrev pt (b o : Nat) : Value := .pointer (some ⟨b, o, none⟩)
abbrev ls (b k : Nat) : Value := .pointer (some ⟨b, k, some 2⟩)
theorem ret1 {x y : Int} {P : Prop} (h : x = y) (hb : P) : Ending.returned (iV x) = Ending.returned (iV y) ∧ P := ⟨by rw [h], hb⟩
theorem At.begin {ρ : Rho} {P : Program} {e : Env} {f : FuncId} {fn : Func} {c : Code} {args : List Value} {vals : Array Value} {w0 : World} {R : Ending → World → Prop} {n b k : Nat} {fr : Fr} {s : St} (he : @Env.Ok ρ P e) (hi : IdOk n b k fr s)
    (h0 : agreeL (ids n) [] [] fr s (frameOf fn args) start = true) (h : ∀ a w, @At ρ w0 fr s a w → c.wpIn (FF none) 0 P (bodyPostM Fence.wide 0 P fn R) a w) (hf : e.fnOf f = some fn := by kernel_rfl) (hc : fn.body = some c := by kernel_rfl)
    (hn : fn.ntmps ≤ 1024 := by exact of_decide_eq_true (by kernel_rfl)) (hl : args.length ≤ fn.ntmps := by exact of_decide_eq_true (by kernel_rfl)) (ha : args.all (closed 3) = true := by exact rfl) (hm : @MemOk ρ w0 := by exact fun _ _ h => h) (hv : (@dens ρ 3 args).toArray = vals := by exact rfl)
    (g1 : (ids n).all (closed 3) = true := by exact rfl) (g2 : (ids n).map (@den ρ 3) = valF ρ 0 (ids n).length := by exact rfl) : Calls P f vals w0 R := by
  subst hv
  exact @calls_of_body ρ P e he f fn c args w0 R hf hc hn hl ha hm (fun a hat0 => h a w0 (At.shiftL (τ := []) (SubOk.om g1 g2) trivial (fun _ _ h => h) hi.1 h0 hat0))
end Go.Ev
namespace Go.Ev
open Go
def pickE {α : Type} : List α → List α
  | [] => []
  | [x] => [x]
  | x :: _ :: l => x :: pickE l
def pickO {α : Type} : List α → List α
  | [] => []
  | [_] => []
  | _ :: y :: l => y :: pickO l
def PT.mk {α : Type} : Nat → List α → PT α
  | _, [] => .nil
  | 0, x :: _ => .leaf x
  | d + 1, x :: l => .node (PT.mk d (pickE (x :: l))) (PT.mk d (pickO (x :: l)))
theorem pickE_get {α : Type} : ∀ (l : List α) (j : Nat), (pickE l)[j]? = l[2 * j]?
  | [], j => by simp [pickE]
  | [x], j => by cases j <;> simp [pickE, Nat.mul_succ]
  | x :: y :: l, 0 => by simp [pickE]
  | x :: y :: l, j + 1 => by
    rw [show 2 * (j + 1) = 2 * j + 1 + 1 by omega]
    simpa [pickE] using pickE_get l j
theorem pickO_get {α : Type} : ∀ (l : List α) (j : Nat), (pickO l)[j]? = l[2 * j + 1]?
  | [], j => by simp [pickO]
  | [x], j => by simp [pickO]
  | x :: y :: l, 0 => by simp [pickO]
  | x :: y :: l, j + 1 => by
    rw [show 2 * (j + 1) + 1 = 2 * j + 1 + 1 + 1 by omega]
    simpa [pickO] using pickO_get l j
theorem PT.mk_every {α : Type} {Q : Nat → α → Prop} : ∀ (d : Nat) (l : List α) (n m : Nat), (∀ j a, l[j]? = some a → Q (n + m * j) a) → PT.Every Q d (PT.mk d l) n m
  | 0, [], n, m, _ => trivial
  | d + 1, [], n, m, _ => trivial
  | 0, x :: l, n, m, h => by
    show Q n x
    simpa using h 0 x (by simp)
  | d + 1, x :: l, n, m, h => by
    refine ⟨PT.mk_every d _ n (2 * m) (fun j a hj => ?_), PT.mk_every d _ (n + m) (2 * m) (fun j a hj => ?_)⟩
    · rw [pickE_get] at hj
      have := h (2 * j) a hj
      rwa [show n + 2 * m * j = n + m * (2 * j) by rw [Nat.mul_comm 2 m, Nat.mul_assoc]]
    · rw [pickO_get] at hj
      have := h (2 * j + 1) a hj
      rwa [show n + m + 2 * m * j = n + m * (2 * j + 1) by rw [Nat.mul_comm 2 m, Nat.mul_assoc, Nat.mul_succ]; omega]
def AllFrom {α : Type} (Q : Nat → α → Prop) : Nat → List α → Prop
  | _, [] => True
  | i, x :: l => Q i x ∧ AllFrom Q (i + 1) l
theorem AllFrom.get {α : Type} {Q : Nat → α → Prop} : ∀ {l : List α} {i j : Nat} {a : α}, AllFrom Q i l → l[j]? = some a → Q (i + j) a
  | [], _, _, _, _, h => by simp at h
  | x :: l, i, 0, a, h, e => by
    have : x = a := by simpa using e
    subst this; exact h.1
  | x :: l, i, j + 1, a, h, e => by
    have := AllFrom.get (l := l) (i := i + 1) (j := j) h.2 (by simpa using e)
    rwa [show i + (j + 1) = i + 1 + j by omega]
theorem PT.mk_all {α : Type} {Q : Nat → α → Prop} {d : Nat} {l : List α} (h : AllFrom Q 0 l) : PT.Every Q d (PT.mk d l) 0 1 :=
  PT.mk_every d l 0 1 (fun j a e => by have := h.get e; simpa using this)
end Go.Ev
