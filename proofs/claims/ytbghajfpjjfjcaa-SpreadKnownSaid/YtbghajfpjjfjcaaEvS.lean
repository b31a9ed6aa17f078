/- An evaluator of closed Go code, part 18: loops, calls, rounds. -/
import Derived.Test.YtbghajfpjjfjcaaEvR
set_option linter.unusedSimpArgs false
set_option linter.unusedVariables false
namespace Go.Ev
open Go Go.RowKit
variable [Rho]

omit [Rho] in
theorem exitTo_len (id : Nat) : ∀ (k k' : List Item), exitTo id k = some k' → k'.length < k.length + 1
  | [], k', h => by simp [exitTo] at h
  | x :: k, k', h => by
    have ih := exitTo_len id k
    cases x with
    | inBlock id' =>
      simp only [exitTo] at h
      split at h
      · injection h with h; subst h; simp; omega
      · have := ih k' h; simp; omega
    | _ => simp only [exitTo] at h; have := ih k' h; simp; omega

omit [Rho] in
theorem todo_of_lone {fr fr' : Frame} {cs cs' : List Frame} {w w' : World} (h : lone fr cs w = lone fr' cs' w') : fr = fr' := by
  have := congrArg (fun m => m.gs) h
  simp [lone] at this
  exact this.1

omit [Rho] in
/-- A round, and then the loop again. -/
theorem wpIn_loop_again {F : Fence} {n : Nat} {P : Program} {c : Code} {Q : Exit → Act → World → Prop} {a : Act} {w : World}
    (h : c.wpIn F n P (Exit.then ((Code.loop c).wpIn F n P Q) Q) a w) (hng : ∀ l a w, ¬ Q (.goto l) a w) (hno : ∀ a w, ¬ Q .outgrown a w) : (Code.loop c).wpIn F n P Q a w := by
  intro b k cs hro hb hr
  have h0 : (lone (b.atR a (.code (.loop c) :: k)) cs w).fenced P F := fenced_calm hb hr rfl
  obtain ⟨e, a₁, w₁, hq, harr⟩ := h b (.inLoop c :: k) cs hro hb hr
  cases e with
  | normal =>
    obtain ⟨e₂, a₂, w₂, hq₂, harr₂⟩ := hq b k cs hro hb hr
    refine ⟨e₂, a₂, w₂, hq₂, .of_steps (.head h0 stepR_loop harr) ?_⟩
    -- from the loop's statement to its item
    have h1 : (lone (b.atR a₁ (.inLoop c :: k)) cs w₁).fenced P F := fenced_calm hb hr rfl
    have move : ∀ {m : Machine}, StepsIn (Machine.fenced P F) P (lone (b.atR a₁ (.code (.loop c) :: k)) cs w₁) m → lone (b.atR a₁ (.code (.loop c) :: k)) cs w₁ ≠ m →
        StepsIn (Machine.fenced P F) P (lone (b.atR a₁ (.inLoop c :: k)) cs w₁) m := by
      intro m hs hne
      cases hs with
      | refl => exact absurd rfl hne
      | head hI hstep hrest =>
        rw [stepR_loop] at hstep
        injection hstep with hstep
        subst hstep
        exact .head h1 stepR_inLoop hrest
    have ne : ∀ {a' : Act} {k' : List Item} {w' : World}, k' ≠ .code (.loop c) :: k → lone (b.atR a₁ (.code (.loop c) :: k)) cs w₁ ≠ lone (b.atR a' k') cs w' := by
      intro a' k' w' hk heq
      have := congrArg Frame.todo (todo_of_lone heq)
      exact hk this.symm
    have nem : ∀ {a' : Act} {k' : List Item} {w' : World} {md : FrameMode}, md ≠ .run → lone (b.atR a₁ (.code (.loop c) :: k)) cs w₁ ≠ lone { b.atR a' k' with mode := md } cs w' := by
      intro a' k' w' md hk heq
      have := congrArg Frame.mode (todo_of_lone heq)
      exact hk this.symm
    cases e₂ with
    | normal => exact move harr₂ (ne (by intro h; have := congrArg List.length h; simp at this))
    | exit id =>
      exact ⟨fun k' hk => move (harr₂.1 k' (by simp [exitTo, hk])) (ne (by intro h; have h1 := exitTo_len id k k' hk; have := congrArg List.length h; simp at this; omega)),
        fun hr' hk => let ⟨k₁, q1, q2⟩ := harr₂.2 hr' hk; ⟨k₁, q1, move q2 (ne (by intro h; injection h with h; cases h))⟩⟩
    | goto l => exact absurd hq₂ (hng l a₂ w₂)
    | ret =>
      exact ⟨fun hr' => let ⟨todo, q⟩ := harr₂.1 hr'; ⟨todo, move q (nem (by simp))⟩, fun hr' => let ⟨k₁, q⟩ := harr₂.2 hr'; ⟨k₁, move q (ne (by intro h; injection h with h; cases h))⟩⟩
    | panic chain => obtain ⟨todo, q⟩ := harr₂; exact ⟨todo, move q (nem (by simp))⟩
    | outgrown => exact absurd hq₂ (hno a₂ w₂)
  | exit id => exact ⟨_, a₁, w₁, hq, .of_steps (.one h0 stepR_loop) (.pass (x := .inLoop c) rfl (fun _ _ => .inl (by simp)) harr)⟩
  | goto l => exact ⟨_, a₁, w₁, hq, .of_steps (.one h0 stepR_loop) (.pass (x := .inLoop c) rfl (fun _ _ => .inl (by simp)) harr)⟩
  | ret => exact ⟨_, a₁, w₁, hq, .of_steps (.one h0 stepR_loop) (.pass (x := .inLoop c) rfl (fun _ _ => .inl (by simp)) harr)⟩
  | panic ch => exact ⟨_, a₁, w₁, hq, .of_steps (.one h0 stepR_loop) (.pass (x := .inLoop c) rfl (fun _ _ => .inl (by simp)) harr)⟩
  | outgrown => exact ⟨_, a₁, w₁, hq, .of_steps (.one h0 stepR_loop) (.pass (x := .inLoop c) rfl (fun _ _ => .inl (by simp)) harr)⟩

/-! ### parameters -/
omit [Rho] in
theorem setArgs_ok {β : Type} (d : Nat) : ∀ (vs : List Value) (T : PT Value) (i : Nat) (k : PT Value → Option β) (r : β), setArgs d T i vs k = some r → i + vs.length ≤ 2 ^ d →
    ∃ T', k T' = some r ∧ ∀ j, j < 2 ^ d → PT.get d T' j = if i ≤ j ∧ j < i + vs.length then vs[j - i]? else PT.get d T j
  | [], T, i, k, r, h, _ => ⟨T, h, fun j _ => by rw [if_neg (fun ⟨a, b⟩ => by simp at b; omega)]⟩
  | v :: vs, T, i, k, r, h, hl => by
    simp only [setArgs, forceV_eq, PT.setK_eq, forceNat_eq] at h
    simp only [List.length_cons] at hl
    obtain ⟨T', h1, h2⟩ := setArgs_ok d vs _ (i + 1) k r h (by omega)
    refine ⟨T', h1, fun j hj => ?_⟩
    rw [h2 j hj]
    by_cases hji : j = i
    · subst hji
      rw [if_neg (by omega), if_pos ⟨Nat.le_refl _, by simp⟩, PT.get_set d T j j v hj hj]
      simp
    · by_cases hin : i + 1 ≤ j ∧ j < i + 1 + vs.length
      · rw [if_pos hin, if_pos ⟨by omega, by simp; omega⟩]
        have : j - i = (j - (i + 1)) + 1 := by omega
        rw [this, List.getElem?_cons_succ]
      · rw [if_neg hin, if_neg (by simp; omega), PT.get_set d T i j v (by omega) hj, if_neg hji]

omit [Rho] in
theorem depthOf_le {n : Nat} (h : n ≤ 1024) : n ≤ 2 ^ depthOf n := by
  unfold depthOf
  cases h1 : Nat.ble n 16 with
  | true => have := Nat.le_of_ble_eq_true h1; simp; omega
  | false =>
    cases h2 : Nat.ble n 64 with
    | true => have := Nat.le_of_ble_eq_true h2; simp; omega
    | false =>
      cases h3 : Nat.ble n 256 with
      | true => have := Nat.le_of_ble_eq_true h3; simp; omega
      | false => simp; omega

theorem args_rel {γ : Gam} {d n : Nat} {T : PT Value} {vs : List Value} {args : Array Value} (hn : n ≤ 2 ^ d) (hlen : vs.length ≤ n) (hr : LRel γ vs args.toList)
    (hT : ∀ j, j < 2 ^ d → PT.get d T j = if 0 ≤ j ∧ j < 0 + vs.length then vs[j - 0]? else PT.get d .nil j) : TRel γ ⟨T, n, d⟩ n (args ++ Array.replicate (n - args.size) undef) := by
  have hsz : args.size = vs.length := by have := hr.1; simp at this; omega
  refine ⟨by simp; omega, rfl, hn, fun t v hv => ?_⟩
  have ht := tget_lt hv
  have ht' : t < n := ht
  simp only [tget, show Nat.blt t n = true from Nat.ble_eq_true_of_le ht', cond_true] at hv
  rw [hT t (by omega)] at hv
  by_cases h1 : t < vs.length
  · rw [if_pos ⟨Nat.zero_le _, by omega⟩, Nat.sub_zero, List.getElem?_eq_getElem h1] at hv
    injection hv with hv
    subst hv
    have h2 : t < args.size := by omega
    have := hr.2 t h1 (by simpa using h2)
    simp only [Array.getElem_toList] at this
    simpa [Array.getD_eq_getD_getElem?, Array.getElem?_append, h2] using this
  · rw [if_neg (by omega), PT.get_nil] at hv
    cases hv

theorem setParams_ok {β : Type} (d n : Nat) : ∀ (ps : List Tmp) (vs : List Value) (T : PT Value) (k : PT Value → Option β) (r : β), setParams d T ps vs k = some r → ps.length = vs.length → allLt n ps = true →
    ∃ T', k T' = some r ∧ ∀ (γ : Gam) (vs' : List Value) (tmps : Array Value), n ≤ 2 ^ d → LRel γ vs vs' → TRel γ ⟨T, n, d⟩ n tmps → TRel γ ⟨T', n, d⟩ n ((ps.zip vs').foldl (fun tmps (t, a) => tmps.setIfInBounds t a) tmps)
  | [], [], T, k, r, h, _, _ => ⟨T, h, fun γ vs' tmps _ _ hT => by simpa using hT⟩
  | [], _ :: _, _, _, _, _, h, _ => by simp at h
  | _ :: _, [], _, _, _, _, h, _ => by simp at h
  | p :: ps, v :: vs, T, k, r, h, hl, ha => by
    simp only [setParams, forceV_eq, PT.setK_eq] at h
    simp only [allLt] at ha
    cases hp : Nat.blt p n with
    | false => rw [hp] at ha; cases ha
    | true =>
      rw [hp, cond_true] at ha
      have hp' : p < n := Nat.le_of_ble_eq_true hp
      obtain ⟨T', h1, h2⟩ := setParams_ok d n ps vs _ k r h (by simpa using hl) ha
      refine ⟨T', h1, fun γ vs' tmps hn hr hT => ?_⟩
      match vs', hr with
      | [], hr => have := hr.1; simp at this
      | v' :: vs', hr =>
        have hv : VRel γ v v' := hr.2 0 (Nat.zero_lt_succ _) (Nat.zero_lt_succ _)
        have hrs : LRel γ vs vs' := by simpa using hr.drop 1
        have := h2 γ vs' (tmps.setIfInBounds p v') hn hrs ⟨by simpa using hT.1, rfl, hn, fun t u hu => ?_⟩
        · simpa using this
        · have ht := tget_lt hu
          have ht' : t < n := ht
          simp only [tget, show Nat.blt t n = true from Nat.ble_eq_true_of_le ht', cond_true] at hu
          rw [PT.get_set d T p t v (Nat.lt_of_lt_of_le hp' hn) (Nat.lt_of_lt_of_le ht' hn)] at hu
          by_cases htp : t = p
          · subst htp
            rw [if_pos rfl] at hu
            injection hu with hu
            subst hu
            have : t < tmps.size := by rw [hT.1]; exact ht'
            simpa [Array.getD_eq_getD_getElem?, this] using hv
          · rw [if_neg htp] at hu
            have := hT.2.2.2 t u (by simp only [tget, show Nat.blt t n = true from Nat.ble_eq_true_of_le ht', cond_true]; exact hu)
            simpa [Array.getD_eq_getD_getElem?, Array.getElem?_setIfInBounds, Ne.symm htp] using this

/-! ### records of loops, marks -/
omit [Rho] in
theorem setHeap {w : World} {B : Nat} {ob ob' : Obj} (hB : w.heap[B]? = some ob) : ({ w with heap := w.heap.setIfInBounds B ob' } : World).heap[B]? = some ob' := by
  have := (Array.getElem?_eq_some_iff.1 hB).1
  simp [this]
omit [Rho] in
theorem setOther {w : World} {B B' : Nat} {ob' : Obj} (hB : B' ≠ B) : ({ w with heap := w.heap.setIfInBounds B ob' } : World).heap[B']? = w.heap[B']? := by
  simp [Array.getElem?_setIfInBounds, Ne.symm hB]
omit [Rho] in
theorem run_getObj {P : Program} {w : World} {B : Nat} {ob : Obj} (hB : w.heap[B]? = some ob) (hc : ∀ c t f, ob ≠ .cells c t f) : (getObj B).run P w = .ok ob w := by
  simp only [getObj, Sem.run, hB]
omit [Rho] in
theorem run_setObj {P : Program} {w : World} {B : Nat} {ob : Obj} (hB : w.heap[B]? = some ob) (hc : ∀ c t f, ob ≠ .cells c t f) (ob' : Obj) : (setObj B ob').run P w = .ok () { w with heap := w.heap.setIfInBounds B ob' } := by
  simp only [setObj, Sem.run, hB]
omit [Rho] in
theorem run_getLoop {P : Program} {w : World} {B : Nat} {r : Loop} (hB : w.heap[B]? = some (.loop r)) : (Instr.getLoop B).run P w = .ok r w := by
  simp [Instr.getLoop, run_getObj hB (by simp)]

theorem SatB.loop_inv {γ : Gam} {w : World} {id : Nat} {st : LoopState} {pend : Option Code} {T : Tm} {ps : Array Tmp} {as bd : Code} {mk : Nat} (h : SatB γ w id (.loop st pend T ps as bd mk)) :
    ∃ B O C fn tmps D O' C', γ id = some (B, O, C) ∧ γ mk = some (D, O', C') ∧
      w.heap[B]? = some (.loop { state := st, pending := pend, fn := fn, tmps := tmps, params := ps, assign := as, body := bd, defers := D }) ∧ TRel γ T T.n tmps := h

/-- The record of a loop is written. -/
theorem Step.loopPut {lo : Nat} {γ : Gam} {h : Hp} {w : World} {l B O C D O' C' : Nat} {st st' : LoopState} {pend pend' : Option Code} {T : Tm} {ps : Array Tmp} {as bd : Code} {mk : Nat} {fn : FuncId} {tmps : Array Value}
    (hs : Sat γ h w) (hl : h l = .loop st pend T ps as bd mk) (hg : γ l = some (B, O, C)) (hm : γ mk = some (D, O', C')) (hT : TRel γ T T.n tmps)
    (hB : w.heap[B]? = some (.loop { state := st, pending := pend, fn := fn, tmps := tmps, params := ps, assign := as, body := bd, defers := D })) :
    Step lo lo γ h w γ (fun j => if j = l then .loop st' pend' T ps as bd mk else h j)
      { w with heap := w.heap.setIfInBounds B (.loop { state := st', pending := pend', fn := fn, tmps := tmps, params := ps, assign := as, body := bd, defers := D }) } :=
  Step.ofPut hs (by rw [hl]; rfl) hg (by simp) (fun B' hB' => setOther hB') rfl rfl rfl ⟨B, O, C, fn, tmps, D, O', C', hg, hm, setHeap hB, hT⟩

/-- The marks among the deferred calls are taken. -/
theorem dropMarks_ok {β : Type} {P : Program} {fn : Func} : ∀ (D : List Nat) (s : St) (k : St → Option β) (r : β), dropMarks D s k = some r → s.Wf →
    ∃ s', k s' = some r ∧ Raw s s' ∧ s'.next = s.next ∧ ∀ (γ : Gam) (w : World) (ds : List Deferred) (tmps : Array Value) (R : Ending → World → Prop), DRel γ D ds → Sat γ s.at w →
      (∀ w', Step s.next s'.next γ s.at w γ s'.at w' → ∃ v, (results fn tmps).run P w' = .ok v w' ∧ R (.returned v) w') → LeavesInM Fence.wide 0 P fn tmps R ds .returning w
  | [], s, k, r, h, hw => ⟨s, h, Raw.refl hw, rfl, fun γ w ds tmps R hD hS hR => by
      match ds, hD with
      | [], _ => exact hR w (Step.refl hS)⟩
  | m :: D, s, k, r, h, hw => by
    simp only [dropMarks] at h
    split at h
    case h_2 => cases h
    rename_i hm
    cases h1 : Nat.blt m s.next with
    | false => rw [h1] at h; cases h
    | true =>
      rw [h1, cond_true] at h
      have h1' : m < s.next := Nat.le_of_ble_eq_true h1
      obtain ⟨s1, hk, hraw, hn, hat⟩ := St.putK_inv h hw (St.sees_of_at hm (by simp)) h1'
      obtain ⟨s', hk2, hraw2, hn2, hrest⟩ := dropMarks_ok (P := P) (fn := fn) D s1 k r hk hraw.wf
      refine ⟨s', hk2, hraw.trans hraw2, hn2.trans hn, fun γ w ds tmps R hD hS hR => ?_⟩
      match ds, hD with
      | d :: ds, ⟨⟨B, O, C, hg, hd⟩, hD⟩ =>
        have hsb := hS.blk m
        rw [hm] at hsb
        obtain ⟨B', O', C', hg', hB⟩ := hsb
        rw [hg] at hg'; cases hg'
        have hst : Step s.next s1.next γ s.at w γ s1.at { w with heap := w.heap.setIfInBounds B (.deferred none) } := by
          rw [hn, hat]
          exact Step.ofPut hS (by rw [hm]; rfl) hg (by simp) (fun B' hB' => setOther hB') rfl rfl rfl trivial
        refine ⟨by simp, .inl ⟨B, { w with heap := w.heap.setIfInBounds B (.deferred none) }, by rw [hd], ?_, ?_⟩⟩
        · simp [Instr.takeDeferred, run_getObj hB (by simp), run_setObj hB (by simp)]
        · exact hrest γ _ ds tmps R hD hst.sat (fun w' st' => hR w' (by rw [hn2, hn] ; rw [hn] at hst; rw [hn2, hn] at st'; exact hst.trans (Nat.le_refl _) (Nat.le_refl _) st'))
end Go.Ev
