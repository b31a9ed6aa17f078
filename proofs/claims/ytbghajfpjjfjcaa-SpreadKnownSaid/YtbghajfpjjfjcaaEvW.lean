/- An evaluator of closed Go code, part 21: a region that draws its order, as it was evaluated. -/
import Derived.Test.YtbghajfpjjfjcaaEvV
set_option linter.unusedSimpArgs false
set_option linter.unusedVariables false
namespace Go.Ev
open Go Go.RowKit
variable [Rho]

/-! ### the text's own order -/
omit [Rho] in
theorem onEarlier_ok : ∀ (os : List Oper) (i : Nat), onEarlier os i = true → ∀ j o, os[j]? = some o → ∀ e ∈ o.after, Region.binds .any e = true → e.on < i + j
  | [], _, _, j, o, h, _, _, _ => by simp at h
  | x :: os, i, h, j, o, hj, e, he, hb => by
    simp only [onEarlier] at h
    cases h1 : (x.after.toList.all fun e => cond (Region.binds .any e) (Nat.blt e.on i) true) with
    | false => rw [h1] at h; cases h
    | true =>
      rw [h1, cond_true] at h
      cases j with
      | zero =>
        simp at hj
        subst hj
        have := List.all_eq_true.1 h1 e (by simpa using he)
        rw [hb, cond_true] at this
        have : e.on < i := Nat.le_of_ble_eq_true this
        omega
      | succ j =>
        have := onEarlier_ok os (i + 1) h j o (by simpa using hj) e he hb
        omega

omit [Rho] in
theorem masksGo_pre : ∀ (os : List Oper) (acc : List Nat), (masksGo os acc).take acc.length = acc ∧ (masksGo os acc).length = acc.length + os.length
  | [], acc => by simp [masksGo]
  | o :: os, acc => by
    have ih := masksGo_pre os (acc ++ [maskOf acc o])
    simp only [masksGo]
    refine ⟨?_, by rw [ih.2]; simp; omega⟩
    have : acc.length ≤ (acc ++ [maskOf acc o]).length := by simp
    have h2 := congrArg (List.take acc.length) ih.1
    rw [List.take_take, Nat.min_eq_left this] at h2
    rw [h2]
    simp
omit [Rho] in
theorem masksGo_at : ∀ (os : List Oper) (acc : List Nat) (j : Nat) (o : Oper), os[j]? = some o → (masksGo os acc)[acc.length + j]? = some (maskOf ((masksGo os acc).take (acc.length + j)) o)
  | [], acc, j, o, h => by simp at h
  | x :: os, acc, 0, o, h => by
    simp at h
    subst h
    have pre := masksGo_pre os (acc ++ [maskOf acc x])
    simp only [masksGo, Nat.add_zero]
    have h1 : (masksGo os (acc ++ [maskOf acc x]))[acc.length]? = some (maskOf acc x) := by
      have := congrArg (fun l => l[acc.length]?) pre.1
      simp only [List.getElem?_take, List.length_append, List.length_singleton, Nat.lt_succ_self, if_true] at this
      rw [this]
      simp
    rw [h1]
    have := (masksGo_pre (x :: os) acc).1
    simp only [masksGo] at this
    rw [this]
  | x :: os, acc, j + 1, o, h => by
    have := masksGo_at os (acc ++ [maskOf acc x]) j o (by simpa using h)
    simp only [List.length_append, List.length_singleton] at this
    simp only [masksGo]
    rw [show acc.length + (j + 1) = acc.length + 1 + j by omega]
    exact this

omit [Rho] in
theorem maskOf_bit (prev : List Nat) (i : Nat) : ∀ (l : List Edge) (s0 : Nat), (l.foldl (fun s e => cond (Region.binds .any e) (s ||| 2 ^ e.on ||| prev.getD e.on 0) s) s0).testBit i = true →
    s0.testBit i = true ∨ ∃ e ∈ l, Region.binds .any e = true ∧ (i = e.on ∨ (prev.getD e.on 0).testBit i = true)
  | [], s0, h => .inl h
  | e :: l, s0, h => by
    simp only [List.foldl_cons] at h
    rcases maskOf_bit prev i l _ h with q | ⟨x, hx, hb, q⟩
    · cases hb : Region.binds .any e with
      | false => rw [hb, cond_false] at q; exact .inl q
      | true =>
        rw [hb, cond_true, Nat.testBit_or, Nat.testBit_or, Nat.testBit_two_pow] at q
        simp only [Bool.or_eq_true, decide_eq_true_eq] at q
        rcases q with (q | q) | q
        · exact .inl q
        · exact .inr ⟨e, List.mem_cons_self, hb, .inl q.symm⟩
        · exact .inr ⟨e, List.mem_cons_self, hb, .inr q⟩
    · exact .inr ⟨x, List.mem_cons_of_mem _ hx, hb, q⟩

omit [Rho] in
theorem mask_before {ops : Array Oper} (hback : ∀ j o, ops[j]? = some o → ∀ e ∈ o.after, Region.binds .any e = true → e.on < j) : ∀ j, j < ops.size → ∀ i, ((masksGo ops.toList []).getD j 0).testBit i = true → Before ops i j := by
  intro j
  induction j using Nat.strongRecOn with
  | _ j ih =>
    intro hj i hbit S hcl hw
    have ho : ops[j]? = some ops[j] := Array.getElem?_eq_getElem hj
    have hat := masksGo_at ops.toList [] j ops[j] (by simp)
    simp only [List.length_nil, Nat.zero_add] at hat
    rw [List.getD_eq_getElem?_getD, hat, Option.getD_some] at hbit
    unfold maskOf at hbit
    rcases maskOf_bit _ i _ 0 hbit with q | ⟨e, he, hb, q⟩
    · simp at q
    · have he' : e ∈ ops[j].after := by simpa using he
      have hlt := hback j _ ho e he' hb
      have hSe := hw _ ho e he' hb
      rcases q with rfl | q
      · exact hSe
      · refine ih e.on hlt (by omega) i ?_ S hcl (fun o' ho' => hcl e.on o' ho' hSe)
        rw [List.getD_eq_getElem?_getD, List.getElem?_take, if_pos hlt, ← List.getD_eq_getElem?_getD] at q
        exact q

omit [Rho] in
theorem pairT_ok (all : Array Oper) (m : Nat) (o : Oper) (j : Nat) : ∀ (xs : List Oper) (i : Nat), pairsT.pairT xs all m o i j = true → ∀ d x, xs[d]? = some x → i + d < j → m.testBit (i + d) = true ∨ x.apart all o = true
  | [], _, _, d, x, h, _ => by simp at h
  | y :: xs, i, h, d, x, hd, hlt => by
    simp only [pairsT.pairT] at h
    have hij : Nat.blt i j = true := Nat.ble_eq_true_of_le (by omega)
    rw [hij, cond_true] at h
    cases d with
    | zero =>
      simp at hd
      subst hd
      cases h1 : m.testBit i with
      | true => exact .inl (by simp)
      | false =>
        rw [h1, cond_false] at h
        cases h2 : y.apart all o with
        | true => exact .inr rfl
        | false => rw [h2] at h; cases h
    | succ d =>
      have hrest : pairsT.pairT xs all m o (i + 1) j = true := by
        cases h1 : m.testBit i with
        | true => rw [h1, cond_true] at h; exact h
        | false =>
          rw [h1, cond_false] at h
          cases h2 : y.apart all o with
          | true => rw [h2, cond_true] at h; exact h
          | false => rw [h2] at h; cases h
      have := pairT_ok all m o j xs (i + 1) hrest d x (by simpa using hd) (by omega)
      rwa [show i + 1 + d = i + (d + 1) by omega] at this

omit [Rho] in
theorem pairsT_ok (ops : List Oper) (all : Array Oper) (ms : List Nat) : ∀ (os : List Oper) (j : Nat), pairsT ops all ms os j = true → ∀ d o, os[d]? = some o → ∀ i x, ops[i]? = some x → i < j + d → (ms.getD (j + d) 0).testBit i = true ∨ x.apart all o = true
  | [], _, _, d, o, h, _, _, _, _ => by simp at h
  | y :: os, j, h, d, o, hd, i, x, hi, hlt => by
    simp only [pairsT] at h
    cases h1 : pairsT.pairT ops all (ms.getD j 0) y 0 j with
    | false => rw [h1] at h; cases h
    | true =>
      rw [h1, cond_true] at h
      cases d with
      | zero =>
        simp at hd
        subst hd
        have := pairT_ok all (ms.getD j 0) y j ops 0 h1 i x hi (by omega)
        simpa using this
      | succ d =>
        have := pairsT_ok ops all ms os (j + 1) h d o (by simpa using hd) i x hi (by omega)
        rwa [show j + 1 + d = j + (d + 1) by omega] at this

omit [Rho] in
theorem anyIn_ok : ∀ (a b : List Nat), anyIn a b = false → ∀ x ∈ a, x ∉ b
  | [], _, _, x, hx => by cases hx
  | y :: a, b, h, x, hx => by
    simp only [anyIn] at h
    cases h1 : memN y b with
    | true => rw [h1] at h; cases h
    | false =>
      rw [h1, cond_false] at h
      rcases List.mem_cons.1 hx with rfl | hx
      · intro q; rw [(memN_iff x b).2 q] at h1; cases h1
      · exact anyIn_ok a b h x hx
omit [Rho] in
theorem anyBetween_ok (lo hi : Nat) : ∀ (l : List Nat), anyBetween lo hi l = false → ∀ x ∈ l, ¬ (lo ≤ x ∧ x < hi)
  | [], _, x, hx => by cases hx
  | y :: l, h, x, hx => by
    simp only [anyBetween] at h
    rcases List.mem_cons.1 hx with rfl | hx'
    · intro ⟨q1, q2⟩
      rw [Nat.ble_eq_true_of_le q1, show Nat.blt x hi = true from Nat.ble_eq_true_of_le q2] at h
      cases h
    · refine anyBetween_ok lo hi l ?_ x hx'
      cases h1 : Nat.ble lo y with
      | false => rw [h1, cond_false] at h; exact h
      | true =>
        rw [h1, cond_true] at h
        cases h2 : Nat.blt y hi with
        | false => rw [h2, cond_false] at h; exact h
        | true => rw [h2] at h; cases h
omit [Rho] in
theorem clash_ok {x y : Rec} (h : clash x y = false) : (∀ id ∈ x.w, id ∉ y.l) ∧ (∀ id ∈ y.l, ¬ (x.lo ≤ id ∧ id < x.hi)) ∧ (∀ id ∈ y.w, id ∉ x.l) := by
  unfold clash at h
  cases h1 : anyIn x.w y.l with
  | true => rw [h1] at h; cases h
  | false =>
    cases h2 : anyBetween x.lo x.hi y.l with
    | true => rw [h1, h2] at h; cases h
    | false =>
      rw [h1, h2] at h
      exact ⟨anyIn_ok _ _ h1, anyBetween_ok _ _ _ h2, anyIn_ok _ _ h⟩

/-- Is an operation carried out? Only what it looks at matters. -/
theorem wanted_ok' {γ : Gam} {T : Tm} {ops : Array Oper} {o : Oper} {a : Act} (hn : a.tmps.size = T.n) (hv : ∀ t ∈ o.looksAt ops, ∀ v, tget T t = some v → VRel γ v (a.tmps.getD t undef)) {b : Bool} (h : wantedA ops.toList T o = some b) :
    Region.wanted o (yielded ops a.tmps) = b := by
  unfold wantedA at h
  unfold Region.wanted
  split at h
  · rename_i hg
    injection h with h
    rw [hg]
    exact h
  · rename_i j want hg
    rw [hg]
    split at h
    case h_2 => cases h
    rename_i g hj
    split at h
    case h_2 => cases h
    rename_i d hd
    have hj' : ops[j]? = some g := by simpa using hj
    have hlook : d ∈ o.looksAt ops := by
      unfold Oper.looksAt
      rw [hg]
      simp [hj', hd]
    split at h
    · rename_i c hc
      injection h with h
      have hr := hv d hlook _ hc
      have hlt : d < a.tmps.size := by rw [hn]; exact tget_lt hc
      have hget : a.tmps[d]? = some (.bool c) := by
        have e : a.tmps.getD d undef = .bool c := hr.bool_inv
        rw [Array.getD_eq_getD_getElem?] at e
        simp only [Array.getElem?_eq_getElem hlt, Option.getD_some] at e ⊢
        rw [e]
      simp only [yielded, hj', Option.bind_some, hd, hget]
      subst h
      cases c <;> cases want <;> rfl
    · rename_i vs hc
      injection h with h
      have hr := hv d hlook _ hc
      have hlt : d < a.tmps.size := by rw [hn]; exact tget_lt hc
      obtain ⟨vs', hv', _⟩ := hr.tuple_inv
      have hget : a.tmps[d]? = some (.tuple vs') := by
        rw [Array.getD_eq_getD_getElem?] at hv'
        simp only [Array.getElem?_eq_getElem hlt, Option.getD_some] at hv' ⊢
        rw [hv']
      simp only [yielded, hj', Option.bind_some, hd, hget]
      exact h
    · cases h

/-! ### the region -/
omit [Rho] in
theorem repFalse (n j : Nat) : (Array.replicate n false).getD j false = false := by
  rw [Array.getD_eq_getD_getElem?, Array.getElem?_replicate]
  split <;> rfl
omit [Rho] in
theorem raw_heap {s s' : St} (h : s.heap = s'.heap) (id : Nat) : s.raw id = s'.raw id := by cases s; cases s'; cases h; rfl
omit [Rho] in
theorem sees_eq {s s' : St} (h : s.thr = s'.thr) (h' : s.allow = s'.allow) (id : Nat) : s.sees id = s'.sees id := by cases s; cases s'; cases h; cases h'; rfl
omit [Rho] in
theorem at_seen {s : St} {id : Nat} (h : s.sees id = true) : s.at id = s.raw id := by simp [St.at, h]
omit [Rho] in
theorem at_unseen {s : St} {id : Nat} (h : s.sees id = false) : s.at id = .dead := by simp [St.at, h]
omit [Rho] in
theorem at_raw_dead {s : St} {id : Nat} (h : s.raw id = .dead) : s.at id = .dead := by
  unfold St.at; rw [h]; cases s.sees id <;> rfl
omit [Rho] in
theorem sees_false {s : St} {id : Nat} (h1 : id < s.thr) (h2 : id ∉ s.allow) : s.sees id = false := by
  cases e : s.sees id with
  | false => rfl
  | true => rcases (St.sees_iff s id).1 e with q | q; · omega
            · exact absurd q h2

section
variable {P : Program} {ops : Array Oper} {tr : Nat → Row} (hrows : ∀ m, m < ops.size → RowOk P ops (tr m) (tr (m + 1)) m) (hwf0 : (tr 0).s.Wf)
include hrows hwf0

theorem row_raw : ∀ m, m ≤ ops.size → Raw (tr 0).s (tr m).s := by
  intro m
  induction m with
  | zero => intro _; exact Raw.refl hwf0
  | succ m ih =>
    intro hm
    have r0 := ih (by omega)
    obtain ⟨o, v, ho, hput, h⟩ := hrows m (by omega)
    rcases h with ⟨_, _, _, hs, _, _⟩ | ⟨_, _, T', s2, hraw, hok, _, _, _, hwr, hh, hn, ht, ha, hw, hl⟩
    · rw [hs]; exact r0
    · refine r0.trans ⟨by rw [hn]; exact hraw.next, ht, ha, fun id q => (hw id).2 (.inl q), fun id q => ?_, fun id hlt hnot => ?_, ⟨by rw [ht, hn]; exact Nat.le_trans r0.wf.thr hraw.next, fun id hid => ?_⟩⟩
      · rcases (hw id).1 q with q | ⟨q1, q2⟩
        · exact .inl q
        · rcases hraw.new id q1 with q3 | ⟨_, q3⟩
          · cases q3
          · have := (hl id q3).2
            rcases (St.sees_iff _ id).1 this with q4 | q4
            · omega
            · exact .inr ⟨q2, q4⟩
      · have h1 : id < (tr m).s.next := Nat.lt_of_lt_of_le hlt r0.wf.thr
        have h2 : id ∉ s2.wr := fun q => hnot ((hw id).2 (.inr ⟨q, hlt⟩))
        rw [raw_heap hh, hraw.same id h1 h2]
        exact raw_heap rfl id
      · rw [raw_heap hh]
        exact hraw.wf.fresh id (by rw [← hn]; exact hid)

omit hwf0 in
theorem row_frame : ∀ m, m ≤ ops.size → (tr m).fr.D = (tr 0).fr.D ∧ (tr m).fr.T.n = (tr 0).fr.T.n ∧ (tr m).fr.T.d = (tr 0).fr.T.d := by
  intro m
  induction m with
  | zero => intro _; exact ⟨rfl, rfl, rfl⟩
  | succ m ih =>
    intro hm
    obtain ⟨h1, h2, h3⟩ := ih (by omega)
    obtain ⟨o, v, ho, ⟨p1, p2, _, _, p3, _⟩, _⟩ := hrows m (by omega)
    exact ⟨p1.trans h1, p2.trans h2, p3.trans h3⟩

theorem region_draw_ok (hmix : P.follows .mixedOrders = true) (hst : staticOk ops = true) (hpairs : ∀ a b, a < b → b < ops.size → (tr a).ran = true → (tr b).ran = true → pairOk (masksGo ops.toList []) (recOf tr a) (recOf tr b)) (id : Nat) (ro : Option Nat) :
    CodeOk P (.region id ops true) ro (tr 0).fr (tr 0).s .normal (tr ops.size).fr (tr ops.size).s := by
  intro γ a w roC hro hfr hS hfresh Q hQ
  refine wpIn_region_any hmix ?_
  unfold staticOk at hst
  cases hE : onEarlier ops.toList 0 with
  | false => rw [hE] at hst; cases hst
  | true =>
  rw [hE, cond_true] at hst
  have hback : ∀ j o, ops[j]? = some o → ∀ e ∈ o.after, Region.binds .any e = true → e.on < j := fun j o ho e he hb => by
    have := onEarlier_ok ops.toList 0 hE j o (by simpa using ho) e he hb
    omega
  have hmask := mask_before hback
  have hpT : ∀ i j x o, i < j → ops[i]? = some x → ops[j]? = some o → ((masksGo ops.toList []).getD j 0).testBit i = true ∨ x.apart ops o = true := fun i j x o hij hi hj => by
    have := pairsT_ok ops.toList ops (masksGo ops.toList []) ops.toList 0 hst j o (by simpa using hj) i x (by simpa using hi) (by omega)
    simpa using this
  have hraw := row_raw hrows hwf0
  have hframe := row_frame hrows
  obtain ⟨⟨hsz, _, hd0, hv0⟩, hD⟩ := hfr
  -- rows that were passed over
  have rowCases : ∀ m, m < ops.size → ((tr m).ran = false ∧ (tr (m + 1)).s = (tr m).s ∧ (tr m).l = [] ∧ (tr m).wr = []) ∨
      ((tr m).ran = true ∧ ∃ s2, Raw ⟨(tr m).s.heap, (tr m).s.next, [], (tr m).s.next, (tr m).l⟩ s2 ∧ (tr m).wr = s2.wr ∧ (tr (m + 1)).s.heap = s2.heap ∧ (tr (m + 1)).s.next = s2.next ∧ (tr (m + 1)).s.thr = (tr m).s.thr ∧ (tr (m + 1)).s.allow = (tr m).s.allow ∧ (∀ id ∈ (tr m).l, id < (tr m).s.next ∧ (tr m).s.sees id = true)) := by
    intro m hm
    obtain ⟨o, v, ho, hput, h⟩ := hrows m hm
    rcases h with ⟨h1, _, _, hs, h2, h3⟩ | ⟨h1, _, T', s2, hr, hok, _, _, _, hwr, hh, hn, ht, ha, hw, hl⟩
    · exact .inl ⟨h1, hs, h2, h3⟩
    · exact .inr ⟨h1, s2, hr, hwr, hh, hn, ht, ha, hl⟩
  have hWl : ∀ m, m < ops.size → ∀ id ∈ (tr m).wr, id ∈ (tr m).l := by
    intro m hm id hid
    rcases rowCases m hm with ⟨_, _, _, h3⟩ | ⟨_, s2, hr, hwr, _⟩
    · rw [h3] at hid; cases hid
    · rw [hwr] at hid
      rcases hr.new id hid with q | ⟨_, q⟩
      · cases q
      · exact q
  have hHeap : ∀ m, m < ops.size → ∀ id, memN id (tr m).wr = false → ¬ ((tr m).s.next ≤ id ∧ id < (tr (m + 1)).s.next) → (tr (m + 1)).s.at id = (tr m).s.at id := by
    intro m hm id h1 h2
    rcases rowCases m hm with ⟨_, hs, _, _⟩ | ⟨_, s2, hr, hwr, hh, hn, ht, ha, hl⟩
    · rw [hs]
    · have hse : (tr (m + 1)).s.sees id = (tr m).s.sees id := sees_eq ht ha id
      have hr0 := hraw m (by omega)
      have hr1 := hraw (m + 1) (by omega)
      have hrw : (tr (m + 1)).s.raw id = (tr m).s.raw id := by
        rcases Nat.lt_or_ge id (tr m).s.next with q | q
        · rw [raw_heap hh, hr.same id q (fun q2 => by rw [← hwr] at q2; rw [(memN_iff id _).2 q2] at h1; cases h1)]
          exact raw_heap rfl id
        · rw [hr0.wf.fresh id q, hr1.wf.fresh id (by omega)]
      unfold St.at
      rw [hse, hrw]
  have main := draw_any (P := P) (ops := ops) (roC := roC) (Q := Q) (n := (tr 0).fr.T.n) (ds := a.defers) (h := fun m => (tr m).s.at) (u := fun m t => tget (tr m).fr.T t) (lo := fun m => (tr m).s.next)
    (W := fun m id => memN id (tr m).wr || (decide ((tr m).s.next ≤ id) && decide (id < (tr (m + 1)).s.next))) (L := fun m id => memN id (tr m).l)
    (dst := fun m => (ops[m]?).bind (·.dst)) (looks := fun m => ((ops[m]?).map (·.looksAt ops)).getD [])
    (fun m hm => by
      rcases rowCases m hm with ⟨_, hs, _, _⟩ | ⟨_, s2, hr, _, _, hn, _⟩
      · simp only [hs]; exact Nat.le_refl _
      · simp only [hn]; exact hr.next)
    (fun m hm id hW => by
      simp only [Bool.or_eq_false_iff, Bool.and_eq_false_iff, decide_eq_false_iff_not] at hW
      exact hHeap m hm id hW.1 (fun q => by rcases hW.2 with q2 | q2; exact q2 q.1; exact q2 q.2))
    (fun m hm t ht => by
      obtain ⟨o, v, ho, ⟨p1, p2, p3, p4, p5, p6⟩, _⟩ := hrows m hm
      simp only [ho, Option.bind_some] at ht
      obtain ⟨f1, f2, f3⟩ := hframe m (by omega)
      have hdm : (tr m).fr.T.n ≤ 2 ^ (tr m).fr.T.d := by rw [f2, f3]; exact hd0
      rcases Nat.lt_or_ge t (tr m).fr.T.n with q | q
      · exact p3 t (fun i hi hti => ht (by rw [hi, hti])) (Nat.lt_of_lt_of_le q hdm) (fun i hi => Nat.lt_of_lt_of_le (p6 i hi) hdm)
      · have none1 : ∀ (T : Tm), T.n ≤ t → tget T t = none := fun T hT => by
          cases e : tget T t with
          | none => rfl
          | some v => have := tget_lt e; omega
        show tget (tr (m + 1)).fr.T t = tget (tr m).fr.T t
        rw [none1 _ (by rw [p2]; exact q), none1 _ q])
    (fun m hm id h1 h2 => by simp [h1, h2])
    (fun m hm id hW => by
      simp only [Bool.or_eq_true, Bool.and_eq_true, decide_eq_true_eq] at hW
      rcases hW with q | q
      · exact .inl ((memN_iff id _).2 (hWl m hm id ((memN_iff id _).1 q)))
      · exact .inr q)
    (fun m hm id hL => by
      rcases rowCases m hm with ⟨_, _, h2, _⟩ | ⟨_, s2, _, _, _, _, _, _, hl⟩
      · simp only [h2] at hL; cases hL
      · exact (hl id ((memN_iff id _).1 hL)).1)
    (fun id hid => at_raw_dead (hwf0.fresh id hid))
    ?_ ?_ hback (γ0 := γ) (w0 := { w with drawn := w.drawn + 1 }) hfresh ?_
  · refine main ops.size (Array.replicate ops.size false) a _ (fun j => (Array.replicate ops.size false).getD j false) (fun _ => rfl) (by simp) ?_ ⟨List.range ops.size, by simp, fun j hj _ => List.mem_range.2 hj⟩ ⟨γ, ?_, fun id h1 h2 => absurd h1 h2, rfl, hsz, ?_⟩
    · intro j o ho hSj
      have hSj' : (Array.replicate ops.size false).getD j false = true := hSj
      rw [repFalse] at hSj'
      cases hSj'
    · have hks : ∀ m, ks (fun m => (tr m).s.at) (fun m id => memN id (tr m).wr || (decide ((tr m).s.next ≤ id) && decide (id < (tr (m + 1)).s.next))) (fun j => (Array.replicate ops.size false).getD j false) m = (tr 0).s.at := by
        intro m
        induction m with
        | zero => rfl
        | succ m ihm =>
          funext id
          have : (Array.replicate ops.size false).getD m false = false := repFalse _ _
          simp only [ks, this, Bool.false_eq_true, false_and, if_false, ihm]
      rw [hks]
      exact Step.refl (hS.drew _)
    · have hus : ∀ m, us (fun m t => tget (tr m).fr.T t) (fun m => (ops[m]?).bind (·.dst)) (fun j => (Array.replicate ops.size false).getD j false) m = tget (tr 0).fr.T := by
        intro m
        induction m with
        | zero => rfl
        | succ m ihm =>
          funext t
          have : (Array.replicate ops.size false).getD m false = false := repFalse _ _
          simp only [us, this, Bool.false_eq_true, false_and, if_false, ihm]
      rw [hus]
      exact hv0
  · -- an operation
    intro m hm γ' K a' w' hSK hagree hdead hlook hn hfr' Kont hK
    obtain ⟨o, v, ho, ⟨p1, p2, p3, p4, p5, p6⟩, hrow⟩ := hrows m hm
    obtain ⟨f1, f2, f3⟩ := hframe m (by omega)
    have hdm : (tr m).fr.T.n ≤ 2 ^ (tr m).fr.T.d := by rw [f2, f3]; exact hd0
    have hsz' : a'.tmps.size = (tr m).fr.T.n := by rw [f2]; exact hn
    have hlook' : ∀ t ∈ o.looksAt ops, ∀ u, tget (tr m).fr.T t = some u → VRel γ' u (a'.tmps.getD t undef) := by
      intro t ht u hu
      exact hlook t (by simpa [ho] using ht) u hu
    have putSize : ∀ v', (a'.put o.dst v').tmps.size = (tr 0).fr.T.n := fun v' => by cases o.dst <;> simp [Act.put, hn]
    have putDef : ∀ v', (a'.put o.dst v').defers = a'.defers := fun v' => by cases o.dst <;> rfl
    have putOth : ∀ v' t, (ops[m]?).bind (·.dst) ≠ some t → (a'.put o.dst v').tmps.getD t undef = a'.tmps.getD t undef := fun v' t ht => by
      rw [ho, Option.bind_some] at ht
      cases hd : o.dst with
      | none => rfl
      | some i =>
        rw [hd] at ht
        have : i ≠ t := fun e => ht (by rw [e])
        simp [Act.put, Array.getD_eq_getD_getElem?, Array.getElem?_setIfInBounds, this]
    have putOwn : ∀ (γ2 : Gam) v', VRel γ2 v v' → ∀ t u, (ops[m]?).bind (·.dst) = some t → tget (tr (m + 1)).fr.T t = some u → VRel γ2 u ((a'.put o.dst v').tmps.getD t undef) := fun γ2 v' hv' t u ht hu => by
      rw [ho, Option.bind_some] at ht
      have hlt := p6 t ht
      rw [p4 t ht (Nat.lt_of_lt_of_le hlt hdm)] at hu
      injection hu with hu
      subst hu
      have : t < a'.tmps.size := by rw [hsz']; exact hlt
      simpa [ht, Act.put, Array.getD_eq_getD_getElem?, this] using hv'
    rcases hrow with ⟨_, hwant, hvu, hs, hl0, hw0⟩ | ⟨hran, hwant, T', s2, hr, hok, hTn, hTd, hT', hwr, hh, hnx, ht, ha, hw, hl⟩
    · unfold wpOpIn
      simp only [ho, wanted_ok' hsz' hlook' hwant, Bool.false_eq_true, if_false]
      refine ⟨fun f _ => FF_fn roC f, hK γ' w' _ ?_ (putDef _) (putSize _) (putOth _) (putOwn γ' undef (by rw [hvu]; exact .tuple _ _ rfl (fun i h1 _ => by simp at h1)))⟩
      have hW0 : ∀ id, (memN id (tr m).wr || (decide ((tr m).s.next ≤ id) && decide (id < (tr (m + 1)).s.next))) = false := fun id => by
        rw [hw0, hs]
        simp only [memN, Bool.false_or, Bool.and_eq_false_iff, decide_eq_false_iff_not]
        omega
      have hfun : (fun id => if (memN id (tr m).wr || (decide ((tr m).s.next ≤ id) && decide (id < (tr (m + 1)).s.next))) = true then (tr (m + 1)).s.at id else K id) = K := by
        funext id
        rw [hW0 id]
        simp
      rw [hfun]
      exact Step.refl hSK
    · have hs1at : ∀ id, (⟨(tr m).s.heap, (tr m).s.next, [], (tr m).s.next, (tr m).l⟩ : St).at id = if id ∈ (tr m).l then K id else .dead := by
        intro id
        by_cases hid : id ∈ (tr m).l
        · rw [if_pos hid, at_seen ((St.sees_iff _ id).2 (.inr hid)), hagree id ((memN_iff id _).2 hid), at_seen (hl id hid).2]
          exact raw_heap rfl id
        · rw [if_neg hid]
          rcases Nat.lt_or_ge id (tr m).s.next with q | q
          · exact at_unseen (sees_false q hid)
          · refine at_raw_dead ?_
            exact (raw_heap (s := ⟨(tr m).s.heap, (tr m).s.next, [], (tr m).s.next, (tr m).l⟩) (s' := (tr m).s) rfl id).trans ((hraw m (by omega)).wf.fresh id q)
      have hlo : (tr m).s.next ≤ (tr (m + 1)).s.next := by rw [hnx]; exact hr.next
      unfold wpOpIn
      simp only [ho, wanted_ok' hsz' hlook' hwant, if_true]
      refine hok γ' a' w' roC ⟨by rw [hTn]; exact hsz', rfl, by rw [hTn, hTd]; exact hdm, fun t u hu => ?_⟩ (hSK.sub fun id => ?_) (fun id q1 q2 => hfr' id q1 (by rw [hnx]; exact q2)) Kont Q (fun γ2 w2 v2 st2 hv2 => ?_)
      · obtain ⟨q1, q2⟩ := hT' hdm t u hu
        refine hlook' t ?_ u q2
        unfold Oper.looksAt
        refine List.mem_append_left _ (List.mem_filterMap.2 ⟨.tmp t, q1, rfl⟩)
      · rw [hs1at id]
        by_cases hid : id ∈ (tr m).l
        · exact .inl (if_pos hid)
        · exact .inr (if_neg hid)
      · refine hK γ2 w2 _ ?_ (putDef _) (putSize _) (putOth _) (putOwn γ2 v2 hv2)
        have hWmem : ∀ id, (memN id (tr m).wr || (decide ((tr m).s.next ≤ id) && decide (id < (tr (m + 1)).s.next))) = true → id ∈ (tr m).l ∨ ((tr m).s.next ≤ id ∧ id < (tr (m + 1)).s.next) := fun id q => by
          simp only [Bool.or_eq_true, Bool.and_eq_true, decide_eq_true_eq] at q
          rcases q with q | q
          · exact .inl (hWl m hm id ((memN_iff id _).1 q))
          · exact .inr q
        have lifted := Step.lift st2 hSK (fun id => memN id (tr m).wr || (decide ((tr m).s.next ≤ id) && decide (id < (tr (m + 1)).s.next)))
          (fun id => by
            rw [hs1at id]
            by_cases hid : id ∈ (tr m).l
            · exact .inl (if_pos hid)
            · exact .inr (if_neg hid))
          (fun id hW => by
            simp only [Bool.or_eq_false_iff, Bool.and_eq_false_iff, decide_eq_false_iff_not] at hW
            have hs2 : s2.sees id = (⟨(tr m).s.heap, (tr m).s.next, [], (tr m).s.next, (tr m).l⟩ : St).sees id := sees_eq hr.thr hr.allow id
            have hrw : s2.raw id = (⟨(tr m).s.heap, (tr m).s.next, [], (tr m).s.next, (tr m).l⟩ : St).raw id := by
              rcases Nat.lt_or_ge id (tr m).s.next with q | q
              · exact hr.same id q (fun q2 => by rw [← hwr] at q2; rw [(memN_iff id _).2 q2] at hW; cases hW.1)
              · have q2 : s2.next ≤ id := by rw [← hnx]; rcases hW.2 with q3 | q3 <;> omega
                exact (hr.wf.fresh id q2).trans ((raw_heap (s := ⟨(tr m).s.heap, (tr m).s.next, [], (tr m).s.next, (tr m).l⟩) (s' := (tr m).s) rfl id).trans ((hraw m (by omega)).wf.fresh id q)).symm
            unfold St.at
            rw [hs2, hrw])
          (fun id hW => by
            rw [hs1at id]
            by_cases hid : id ∈ (tr m).l
            · exact if_pos hid
            · rw [if_neg hid]
              rcases hWmem id hW with q | ⟨q1, q2⟩
              · exact absurd q hid
              · exact (hdead id q1 q2).symm)
          (fun id q1 q2 => hdead id q1 (by rw [hnx]; exact q2))
        have hfun : (fun id => if (memN id (tr m).wr || (decide ((tr m).s.next ≤ id) && decide (id < (tr (m + 1)).s.next))) = true then (tr (m + 1)).s.at id else K id) =
            (fun id => if (memN id (tr m).wr || (decide ((tr m).s.next ≤ id) && decide (id < (tr (m + 1)).s.next))) = true then s2.at id else K id) := by
          funext id
          by_cases hW : (memN id (tr m).wr || (decide ((tr m).s.next ≤ id) && decide (id < (tr (m + 1)).s.next))) = true
          · rw [if_pos hW, if_pos hW]
            have h1 : s2.sees id = true := by
              rw [St.sees_iff, hr.thr, hr.allow]
              rcases hWmem id hW with q | ⟨q1, q2⟩
              · exact .inr q
              · exact .inl q1
            have h2 : (tr (m + 1)).s.sees id = true := by
              rw [sees_eq ht ha]
              rcases hWmem id hW with q | ⟨q1, q2⟩
              · exact (hl id q).2
              · exact (St.sees_iff _ id).2 (.inl (Nat.le_trans (hraw m (by omega)).wf.thr q1))
            rw [at_seen h1, at_seen h2]
            exact raw_heap hh id
          · rw [if_neg hW, if_neg hW]
        rw [hfun]
        have st3 := lifted
        rw [← hnx] at st3
        exact st3
  · -- two that must keep their order
    intro i j hij hj hc
    have hi : i < ops.size := by omega
    have ran_of_w : ∀ m, m < ops.size → ∀ id, (memN id (tr m).wr || (decide ((tr m).s.next ≤ id) && decide (id < (tr (m + 1)).s.next))) = true → (tr m).ran = true := fun m hm id hW => by
      rcases rowCases m hm with ⟨_, hs, _, h3⟩ | ⟨h1, _⟩
      · rw [h3, hs] at hW
        simp only [memN, Bool.false_or, Bool.and_eq_true, decide_eq_true_eq] at hW
        omega
      · exact h1
    have ran_of_l : ∀ m, m < ops.size → ∀ id, memN id (tr m).l = true → (tr m).ran = true := fun m hm id hL => by
      rcases rowCases m hm with ⟨_, _, h2, _⟩ | ⟨h1, _⟩
      · rw [h2] at hL; cases hL
      · exact h1
    have lolt : ∀ m, m < ops.size → ∀ id, memN id (tr m).l = true → id < (tr m).s.next := fun m hm id hL => by
      rcases rowCases m hm with ⟨_, _, h2, _⟩ | ⟨_, s2, _, _, _, _, _, _, hl⟩
      · rw [h2] at hL; cases hL
      · exact (hl id ((memN_iff id _).1 hL)).1
    have nextle : ∀ a b, a ≤ b → b ≤ ops.size → (tr a).s.next ≤ (tr b).s.next := by
      intro a b hab hb
      induction b with
      | zero => have : a = 0 := by omega
                subst this; exact Nat.le_refl _
      | succ b ihb =>
        rcases Nat.lt_or_ge a (b + 1) with q | q
        · refine Nat.le_trans (ihb (by omega) (by omega)) ?_
          rcases rowCases b (by omega) with ⟨_, hs, _, _⟩ | ⟨_, s2, hr, _, _, hn, _⟩
          · rw [hs]; exact Nat.le_refl _
          · rw [hn]; exact hr.next
        · have : a = b + 1 := by omega
          subst this; exact Nat.le_refl _
    rcases hc with ⟨id, hW, hL⟩ | ⟨id, hL, hW⟩ | ⟨t, hd, hl⟩ | ⟨t, hd, hl⟩
    · rcases hpairs i j hij hj (ran_of_w i hi id hW) (ran_of_l j hj id hL) with q | q
      · exact hmask j hj i q
      · obtain ⟨c1, c2, c3⟩ := clash_ok q
        exfalso
        simp only [Bool.or_eq_true, Bool.and_eq_true, decide_eq_true_eq] at hW
        rcases hW with hW | hW
        · exact c1 id ((memN_iff id _).1 hW) ((memN_iff id _).1 hL)
        · exact c2 id ((memN_iff id _).1 hL) hW
    · rcases hpairs i j hij hj (ran_of_l i hi id hL) (ran_of_w j hj id hW) with q | q
      · exact hmask j hj i q
      · obtain ⟨c1, c2, c3⟩ := clash_ok q
        exfalso
        simp only [Bool.or_eq_true, Bool.and_eq_true, decide_eq_true_eq] at hW
        rcases hW with hW | hW
        · exact c3 id ((memN_iff id _).1 hW) ((memN_iff id _).1 hL)
        · have h1 := lolt i hi id hL
          have h2 := nextle i j (by omega) (by omega)
          omega
    · have hoi : ops[i]? = some ops[i] := Array.getElem?_eq_getElem hi
      have hoj : ops[j]? = some ops[j] := Array.getElem?_eq_getElem hj
      rw [hoi, Option.bind_some] at hd
      rw [hoj] at hl
      simp only [Option.map_some, Option.getD_some, Option.bind_some] at hl
      rcases hpT i j _ _ hij hoi hoj with q | q
      · exact hmask j hj i q
      · obtain ⟨q1, q2, q3⟩ := Oper.apart_spec q
        exfalso
        rcases hl with hl | hl
        · exact q1 t hd hl
        · exact q2 t hd hl
    · have hoi : ops[i]? = some ops[i] := Array.getElem?_eq_getElem hi
      have hoj : ops[j]? = some ops[j] := Array.getElem?_eq_getElem hj
      rw [hoj, Option.bind_some] at hd
      rw [hoi] at hl
      simp only [Option.map_some, Option.getD_some] at hl
      rcases hpT i j _ _ hij hoi hoj with q | q
      · exact hmask j hj i q
      · obtain ⟨q1, q2, q3⟩ := Oper.apart_spec q
        exact absurd hl (q3 t hd)
  · -- the end
    intro γ' a' w' st hds hn hv
    have hst0 : Step (tr 0).s.next (tr ops.size).s.next γ (tr 0).s.at w γ (tr 0).s.at { w with drawn := w.drawn + 1 } :=
      ⟨Gam.le_refl _, fun id a b => absurd a b, Nat.le_refl _, fun _ _ _ => rfl, fun _ h => .inl h, hS.drew _, rfl, rfl, rfl, fun _ _ _ => rfl⟩
    obtain ⟨f1, f2, f3⟩ := hframe ops.size (Nat.le_refl _)
    refine hQ γ' a' w' (hst0.join st) ⟨⟨by rw [f2]; exact hn, rfl, by rw [f2, f3]; exact hd0, hv⟩, ?_⟩
    rw [f1, hds]
    exact hD.mono st.le
end
end Go.Ev
