/- An evaluator of closed Go code, part 11: append is sound; copy. -/
import Derived.Test.YtbghajfpjjfjcaaEvJ
set_option linter.unusedSimpArgs false
set_option linter.unusedVariables false
namespace Go.Ev
open Go Go.RowKit
variable [Rho]

omit [Rho] in
theorem exec_append {P : Program} {a : Act} {o : Oper} {x y : Operand} {t tx : TypeId} (ho : o.op = .call ⟨.builtin .append, #[x, y], #[t, tx]⟩) {w w' : World} {v : Value}
    (h : (Builtin.append_ #[t, tx] o.type #[a.eval x, a.eval y]).run P w = .ok v w') : (execOp a.eval o).run P w = .ok (.value v) w' := by
  simp [execOp, ho, resolve, invoke, builtin, h]

/-- A row that grew into a new block. -/
theorem grow_step {P : Program} {γ : Gam} {h : Hp} {w : World} {id need sCap size : Nat} {el : TypeId} {z : Value} {cs l : List Value} (hs : Sat γ h w) (hg : γ id = none) (hrel : LRel γ cs l) (hl : l.length = need * size)
    (hz : z.cells.size = size) (hneed : need < 1048576) :
    Step id (id + 1) γ h w (γ.add id (w.heap.size, 0, grownCap w need sCap el)) (fun j => if j = id then .cells cs el (some size) false else h j)
      (w.drew.alloc (.cells (l.toArray ++ Builtin.zeroCells z.cells (grownCap w need sCap el - need)) el)) := by
  have hG : need ≤ grownCap w need sCap el := by
    unfold grownCap Question.cut
    exact Nat.le_add_right _ _
  have hsz : (l.toArray ++ Builtin.zeroCells z.cells (grownCap w need sCap el - need)).size = grownCap w need sCap el * size := by
    simp only [Array.size_append, size_zeroCells, List.size_toArray, hl, hz, ← Nat.add_mul]
    congr 1
    omega
  have hle : cs.length ≤ (l.toArray ++ Builtin.zeroCells z.cells (grownCap w need sCap el - need)).size := by rw [hrel.1]; simp
  refine Step.newRow hs hg hle ?_ (fun sz hsz' => ?_) (w.drawn + 1)
  · rw [hrel.1]
    simpa using hrel
  · injection hsz' with hsz'
    subst hsz'
    refine ⟨by rw [hsz]; exact Nat.le_refl _, ?_⟩
    rw [hrel.1, hl]
    exact Nat.mul_le_mul_right _ hG

theorem open_val {γ : Gam} {id B O C n : Nat} (hg : γ id = some (B, O, C)) (hn : n ≤ C) : VRel γ (.slice (some ⟨id, 0, none⟩) n openCap) (.slice (some ⟨B, O, none⟩) n C) := by
  have hc : capOf C openCap = C := by rw [capOf_open (Nat.le_refl _)]; simp
  have := VRel.slice (γ := γ) 0 n openCap hg (by rw [hc]; exact hn)
  rw [hc] at this
  exact this

omit [Rho] in
theorem grownCap_le (w : World) (need old : Nat) (e : TypeId) : need ≤ grownCap w need old e := by
  unfold grownCap Question.cut
  exact Nat.le_add_right _ _

theorem hAppend_ok {β : Type} {P : Program} {e : Env} (he : Env.Ok P e) {T : Tm} {s : St} {o : Oper} {x y : Operand} {t tx : TypeId} {k : K β} {r : β} (ho : o.op = .call ⟨.builtin .append, #[x, y], #[t, tx]⟩)
    (h : hAppend e T s x y t tx k = some r) (hw : s.Wf) : ∃ v s', k v s' = some r ∧ Raw s s' ∧ HOk P o T s s' v := by
  unfold hAppend at h
  split at h
  case h_2 => cases h
  rename_i i base len c hi hx
  split at h
  case h_2 => cases h
  rename_i el hd
  split at h
  case h_2 => cases h
  rename_i te hte
  split at h
  case h_2 => cases h
  rename_i z hz
  cases h1 : Nat.beq z.cells.toList.length te.size with
  | false => simp only [h1, cond_false] at h; cases h
  | true =>
  cases h2 : Nat.blt te.bytes 1048576 with
  | false => simp only [h1, h2, cond_true, cond_false] at h; cases h
  | true =>
  simp only [h1, h2, cond_true] at h
  have hzs : z.cells.size = te.size := by simpa using Nat.eq_of_beq_eq_true h1
  have hby : te.bytes < 1048576 := Nat.le_of_ble_eq_true h2
  have hu := (he.ty t i hi).1
  rw [hd] at hu
  obtain ⟨_, ie, hie, hies, hieb, hiez⟩ := he.ty el te hte
  have hiez' : ie.zero = some z := hiez.trans hz
  split at h
  case h_2 => cases h
  rename_i n news hsrc
  rw [← hies] at hsrc
  have fits : ∀ {old need : Nat}, old < need → need < 1048576 → Builtin.nextslicecap need old * ie.bytes ≤ 281474976710656 := fun {old need} ho hn =>
    growslice_fits ho (by rw [hieb]; have : need * te.bytes ≤ 1048576 * 1048576 := Nat.mul_le_mul (by omega) (by omega); omega)
  split at h
  · -- nil
    cases h3 : Nat.beq len 0 with
    | false => simp only [h3, cond_false] at h; cases h
    | true =>
    cases h4 : Nat.beq c 0 with
    | false => simp only [h3, h4, cond_true, cond_false] at h; cases h
    | true =>
    have h3' := Nat.eq_of_beq_eq_true h3
    have h4' := Nat.eq_of_beq_eq_true h4
    subst h3' h4'
    cases h5 : Nat.beq n 0 with
    | true =>
      simp only [h3, h4, h5, cond_true] at h
      have h5' := Nat.eq_of_beq_eq_true h5
      subst h5'
      refine ⟨_, s, h, Raw.refl hw, fun γ m a w hT hS hf => ?_⟩
      obtain ⟨hl, news', hrel, hs⟩ := srcOf_ok (P := P) he hsrc hT hS
      have hx' : a.eval x = .slice none 0 0 := by have := aev_rel hT hx; generalize a.eval x = x' at this; cases this; rfl
      refine ⟨γ, w, _, Step.refl hS, .nilslice 0 0, .inl (exec_append ho ?_)⟩
      have hlen := hs.len w
      rw [hx']
      rcases hs.kind with ⟨e', hk⟩ | hk <;> simp [Builtin.append_, run_underlying hu, run_underlying hk, sizeOf, typeInfo, hie, hlen, hs.cells]
    | false =>
    cases h6 : Nat.blt n 1048576 with
    | false => simp only [h3, h4, h5, h6, cond_true, cond_false] at h; cases h
    | true =>
      simp only [h3, h4, h5, h6, cond_true, cond_false] at h
      have h5' : n ≠ 0 := Nat.ne_of_beq_eq_false h5
      have h6' : n < 1048576 := Nat.le_of_ble_eq_true h6
      obtain ⟨s', hk, hraw, hn, hd0, hat⟩ := St.newK_inv h hw
      refine ⟨_, s', hk, hraw, fun γ m a w hT hS hf => ?_⟩
      have hg := hf s.next (Nat.le_refl _) (by omega)
      obtain ⟨hl, news', hrel, hs⟩ := srcOf_ok (P := P) he hsrc hT hS
      have hx' : a.eval x = .slice none 0 0 := by have := aev_rel hT hx; generalize a.eval x = x' at this; cases this; rfl
      have hrun := run_append_grow_src (P := P) w t tx o.type el ie z hu hie hiez' none 0 0 [] (by simp [Builtin.firstCells]) (a.eval y) n news' hs (by omega) (by omega) (fits (by omega) (by omega))
      simp only [Nat.zero_add, List.nil_append] at hrun
      refine ⟨_, _, _, ?_, open_val (Gam.add_same γ s.next (w.heap.size, 0, grownCap w n 0 el)) (grownCap_le w n 0 el), .inl (exec_append ho (by rw [hx']; exact hrun))⟩
      rw [hn, hat]
      exact grow_step (P := P) hS hg hrel (by rw [hs.newsLen, hies]) hzs h6'
  · cases h
  · -- a row
    rename_i b off
    split at h
    case h_2 => cases h
    rename_i cs t' room ro hb
    cases h3 : Nat.ble (off + len * te.size) cs.length with
    | false => simp only [h3, cond_false] at h; cases h
    | true =>
    cases h4 : Nat.blt (len + n) 1048576 with
    | false => simp only [h3, h4, cond_true, cond_false] at h; cases h
    | true =>
    simp only [h3, h4, cond_true] at h
    have h3' := Nat.le_of_ble_eq_true h3
    have h4' : len + n < 1048576 := Nat.le_of_ble_eq_true h4
    have hsee := St.sees_of_at hb (by simp)
    have row : ∀ {γ : Gam} {m : Nat} {a : Act} {w : World}, TRel γ T m a.tmps → Sat γ s.at w → ∃ B O C arr, γ b = some (B, O, C) ∧ w.heap[B]? = some (.cells arr t' (0, 0)) ∧ O + cs.length ≤ arr.size ∧ LRel γ cs ((arr.toList.drop O).take cs.length) ∧
        (∀ sz, room = some sz → O + C * sz ≤ arr.size ∧ cs.length ≤ C * sz) ∧ len ≤ capOf C c ∧ a.eval x = .slice (some ⟨B, O + off, none⟩) len (capOf C c) := by
      intro γ m a w hT hS
      obtain ⟨B, O, C, hg, hln, hx'⟩ := (aev_rel hT hx).slice_inv
      have hsb := hS.blk b
      rw [hb] at hsb
      obtain ⟨B', O', C', arr, hg', ha, hsz, hc, hr⟩ := hsb.cells_inv
      rw [hg] at hg'; cases hg'
      exact ⟨B, O, C, arr, hg, ha, hsz, hc, hr, hln, hx'⟩
    cases h5 : Nat.blt c openCap with
    | true =>
      have h5' : c < openCap := Nat.le_of_ble_eq_true h5
      cases h6 : Nat.ble (len + n) c with
      | true =>
        -- exact, in place
        have h6' := Nat.le_of_ble_eq_true h6
        cases hro : ro with
        | true => simp only [h5, h6, hro, cond_true] at h; cases h
        | false =>
        cases h7 : Nat.ble (off + (len + n) * te.size) cs.length with
        | false => simp only [h5, h6, h7, hro, cond_true, cond_false] at h; cases h
        | true =>
        cases h8 : Nat.blt b s.next with
        | false => simp only [h5, h6, h7, h8, hro, cond_true, cond_false] at h; cases h
        | true =>
          simp only [h5, h6, h7, h8, hro, cond_true, cond_false, setSegK_eq] at h
          have h7' := Nat.le_of_ble_eq_true h7
          have h8' : b < s.next := Nat.le_of_ble_eq_true h8
          obtain ⟨s', hk, hraw, hn, hat⟩ := St.putK_inv h hw hsee h8'
          refine ⟨_, s', hk, hraw, fun γ m a w hT hS hf => ?_⟩
          obtain ⟨B, O, C, arr, hg, ha, hsz, hc, hr, hln, hx'⟩ := row hT hS
          obtain ⟨hl, news', hrel, hs⟩ := srcOf_ok (P := P) he hsrc hT hS
          have hcc : capOf C c = c := capOf_exact h5'
          rw [hcc] at hln hx'
          rw [hies] at hl
          have hml : (len + n) * te.size = len * te.size + n * te.size := Nat.add_mul _ _ _
          have hnl : news'.length = n * te.size := by rw [hs.newsLen, hies]
          have hrun := run_append_room_src (P := P) w t tx o.type el ie hu hie B (O + off) len c (a.eval y) n news' hs h6'
            (fun j hj => by simp only [World.cell?, ha, hies]; simp [show O + off + len * te.size + j < arr.size by omega]) (fun j hj => by simp [World.frozen?, ha])
          rw [hies, setCells_row (P := P) ha (by omega) hs.one] at hrun
          refine ⟨γ, _, _, ?_, ?_, .inl (exec_append ho (by rw [hx']; exact hrun))⟩
          · rw [hn, hat]
            have hsat := SatB.setSeg (ro' := false) hg ha hsz hc hr hrel (o := off + len * te.size) (by rw [hl]; omega)
            rw [← Nat.add_assoc] at hsat
            exact Step.ofPut hS (by rw [hb, hro]; rfl) hg (by simp) (fun B' hB' => setRow_other w B B' _ hB') rfl rfl rfl hsat
          · have := VRel.slice (γ := γ) off (len + n) c hg (by rw [hcc]; exact h6')
            rw [hcc] at this
            exact this
      | false =>
        -- exact, grows
        have h6' : c < len + n := by
          rcases Nat.lt_or_ge c (len + n) with h | h
          · exact h
          · rw [Nat.ble_eq_true_of_le h] at h6; cases h6
        simp only [h5, h6, cond_true, cond_false, takeK_eq, dropL_eq, appK_eq] at h
        obtain ⟨s', hk, hraw, hn, hd0, hat⟩ := St.newK_inv h hw
        refine ⟨_, s', hk, hraw, fun γ m a w hT hS hf => ?_⟩
        have hgn := hf s.next (Nat.le_refl _) (by omega)
        obtain ⟨B, O, C, arr, hg, ha, hsz, hc, hr, hln, hx'⟩ := row hT hS
        obtain ⟨hl, news', hrel, hs⟩ := srcOf_ok (P := P) he hsrc hT hS
        have hcc : capOf C c = c := capOf_exact h5'
        rw [hcc] at hln hx'
        obtain ⟨olds, hol, horel, horange⟩ := row_part ha hsz hc (o := off) (m := len * te.size) h3'
        have hold : (Builtin.firstCells ie.size len (.slice (some ⟨B, O + off, none⟩) len c)).run P w.drew = .ok olds.toArray w.drew :=
          run_firstCells_some w.drew ie.size len _ len c olds (by rw [hol, hies]) (fun j v hj => by rw [Addr.add_mid]; simpa using horange j v hj)
        have hrun := run_append_grow_src (P := P) w t tx o.type el ie z hu hie hiez' (some ⟨B, O + off, none⟩) len c olds hold (a.eval y) n news' hs h6' (by omega) (fits h6' h4')
        refine ⟨_, _, _, ?_, open_val (Gam.add_same γ s.next (w.heap.size, 0, grownCap w (len + n) c el)) (grownCap_le w (len + n) c el), .inl (exec_append ho (by rw [hx']; exact hrun))⟩
        rw [hn, hat]
        exact grow_step (P := P) hS hgn (horel.append hrel) (by rw [List.length_append, hol, hs.newsLen, hies, Nat.add_mul]) hzs h4'
    | false =>
      have h5' : openCap ≤ c := by
        rcases Nat.lt_or_ge c openCap with h | h
        · have : Nat.blt c openCap = true := Nat.ble_eq_true_of_le h
          rw [this] at h5; cases h5
        · exact h
      cases hro : ro with
      | true => simp only [h5, hro, cond_true, cond_false] at h; cases h
      | false =>
      simp only [h5, hro, cond_false] at h
      split at h
      case h_2 => cases h
      rename_i sz
      cases h6 : Nat.beq sz te.size with
      | false => simp only [h6, cond_false] at h; cases h
      | true =>
      cases h7 : Nat.beq off ((c - openCap) * te.size) with
      | false => simp only [h6, h7, cond_true, cond_false] at h; cases h
      | true =>
      cases h8 : Nat.beq t' el with
      | false => simp only [h6, h7, h8, cond_true, cond_false] at h; cases h
      | true =>
      cases h9 : Nat.blt b s.next with
      | false => simp only [h6, h7, h8, h9, cond_true, cond_false] at h; cases h
      | true =>
      have h6' := Nat.eq_of_beq_eq_true h6
      have h7' := Nat.eq_of_beq_eq_true h7
      have h8' := Nat.eq_of_beq_eq_true h8
      have h9' : b < s.next := Nat.le_of_ble_eq_true h9
      subst h6' h8'
      cases h10 : Nat.blt 0 n with
      | false =>
        simp only [h6, h7, h8, h9, h10, cond_true, cond_false] at h
        have hn0 : n = 0 := by
          rcases Nat.eq_zero_or_pos n with h | h
          · exact h
          · have : Nat.blt 0 n = true := Nat.ble_eq_true_of_le h
            rw [this] at h10; cases h10
        subst hn0
        refine ⟨_, s, h, Raw.refl hw, fun γ m a w hT hS hf => ?_⟩
        obtain ⟨B, O, C, arr, hg, ha, hsz, hc, hr, hln, hx'⟩ := row hT hS
        obtain ⟨hl, news', hrel, hs⟩ := srcOf_ok (P := P) he hsrc hT hS
        have hnl : news' = [] := List.length_eq_zero_iff.1 (by rw [hs.newsLen]; simp)
        subst hnl
        have hrun := run_append_room_src (P := P) w t tx o.type t' ie hu hie B (O + off) len (capOf C c) (a.eval y) 0 [] hs (by omega) (fun j hj => by simp at hj) (fun j hj => by simp at hj)
        exact ⟨γ, w, _, Step.refl hS, .slice off len c hg hln, .inl (exec_append ho (by rw [hx']; exact hrun))⟩
      | true =>
      cases h11 : Nat.beq (off + len * te.size) cs.length with
      | false =>
        simp only [h6, h7, h8, h9, h10, h11, cond_true, cond_false] at h
        cases h12 : Nat.beq te.size 0 with
        | true => simp only [h12, cond_true] at h; cases h
        | false =>
        cases h13 : Nat.ble (off + (len + n) * te.size) cs.length with
        | false => simp only [h12, h13, cond_false] at h; cases h
        | true =>
          simp only [h12, h13, cond_true, cond_false, setSegK_eq] at h
          have h12' := Nat.ne_of_beq_eq_false h12
          have h13' := Nat.le_of_ble_eq_true h13
          obtain ⟨s', hk, hraw, hn, hat⟩ := St.putK_inv h hw hsee h9'
          refine ⟨_, s', hk, hraw, fun γ m a w hT hS hf => ?_⟩
          obtain ⟨B, O, C, arr, hg, ha, hsz, hc, hr, hln, hx'⟩ := row hT hS
          obtain ⟨hl, news', hrel, hs⟩ := srcOf_ok (P := P) he hsrc hT hS
          rw [hies] at hl
          have hnl : news'.length = n * te.size := by rw [hs.newsLen, hies]
          have hml : (len + n) * te.size = len * te.size + n * te.size := Nat.add_mul _ _ _
          obtain ⟨hr1, hr2⟩ := hr te.size rfl
          have hfit : len + n ≤ capOf C c := by
            rw [capOf_open h5']
            have h1 : ((c - openCap) + (len + n)) * te.size ≤ C * te.size := by rw [Nat.add_mul]; omega
            have h2 := Nat.le_of_mul_le_mul_right h1 (Nat.pos_of_ne_zero h12')
            omega
          have hrun := run_append_room_src (P := P) w t tx o.type t' ie hu hie B (O + off) len (capOf C c) (a.eval y) n news' hs hfit
            (fun j hj => by simp only [World.cell?, ha, hies]; simp [show O + off + len * te.size + j < arr.size by omega]) (fun j hj => by simp [World.frozen?, ha])
          rw [hies, setCells_row (P := P) ha (by omega) hs.one] at hrun
          refine ⟨γ, _, _, ?_, .slice off (len + n) c hg hfit, .inl (exec_append ho (by rw [hx']; exact hrun))⟩
          rw [hn, hat]
          have hsat := SatB.setSeg (ro' := false) hg ha hsz hc hr hrel (o := off + len * te.size) (by rw [hl]; omega)
          rw [← Nat.add_assoc] at hsat
          exact Step.ofPut hS (by rw [hb, hro]; rfl) hg (by simp) (fun B' hB' => setRow_other w B B' _ hB') rfl rfl rfl hsat
      | true =>
        simp only [h6, h7, h8, h9, h10, h11, cond_true, dropL_eq, appK_eq] at h
        have h10' : 0 < n := Nat.le_of_ble_eq_true h10
        have h11' := Nat.eq_of_beq_eq_true h11
        obtain ⟨s1, hk1, hraw1, hn1, hat1⟩ := St.putK_inv h hw hsee h9'
        obtain ⟨s', hk, hraw, hn, hd0, hat⟩ := St.newK_inv hk1 hraw1.wf
        rw [hn1] at hk
        have hbn : b ≠ s.next := by omega
        have hat' : s'.at = fun j => if j = s.next then AB.cells (cs.drop off ++ news) t' (some te.size) false else if j = b then .dead else s.at j := by rw [hat, hat1, hn1]
        refine ⟨_, s', hk, hraw1.trans hraw, fun γ m a w hT hS hf => ?_⟩
        have hgn := hf s.next (Nat.le_refl _) (by omega)
        obtain ⟨B, O, C, arr, hg, ha, hsz, hc, hr, hln, hx'⟩ := row hT hS
        obtain ⟨hl, news', hrel, hs⟩ := srcOf_ok (P := P) he hsrc hT hS
        rw [hies] at hl
        have hnl : news'.length = n * te.size := by rw [hs.newsLen, hies]
        have hcc : capOf C c = C - (c - openCap) := capOf_open h5'
        obtain ⟨hr1, hr2⟩ := hr te.size rfl
        obtain ⟨olds, hol, horel, horange⟩ := row_part ha hsz hc (o := off) (m := len * te.size) (by omega)
        have htake : (cs.drop off).take (len * te.size) = cs.drop off := List.take_of_length_le (by simp; omega)
        rw [htake] at horel
        by_cases hroom : len + n ≤ capOf C c
        · -- there is room
          have hmin : c - openCap + (len + n) ≤ C := by omega
          have hmul : (c - openCap) * te.size + (len * te.size + n * te.size) ≤ C * te.size := by
            rw [← Nat.add_mul, ← Nat.add_mul]; exact Nat.mul_le_mul_right _ hmin
          have hC' : (C - (c - openCap)) * te.size = C * te.size - (c - openCap) * te.size := Nat.sub_mul _ _ _
          have hrun := run_append_room_src (P := P) w t tx o.type t' ie hu hie B (O + off) len (capOf C c) (a.eval y) n news' hs hroom
            (fun j hj => by simp only [World.cell?, ha, hies]; simp [show O + off + len * te.size + j < arr.size by omega]) (fun j hj => by simp [World.frozen?, ha])
          rw [hies, setCells_row (P := P) ha (by omega) hs.one] at hrun
          refine ⟨γ.add s.next (B, O + off, capOf C c), _, _, ?_, open_val (Gam.add_same γ s.next (B, O + off, capOf C c)) hroom, .inl (exec_append ho (by rw [hx']; exact hrun))⟩
          rw [hn, hn1, hat']
          refine Step.ofMove hS (by rw [hb, hro]; rfl) hg hgn (by simp) (fun B' hB' => setRow_other w B B' _ hB') rfl rfl rfl ?_
          refine SatB.row (Gam.add_same γ s.next _) (setRow_heap w B arr _ t' _ ha) (by simp; omega) ?_ (fun sq hsz' => ?_)
          · have e1 : ((arr.toList.take (O + off + len * te.size) ++ news' ++ arr.toList.drop (O + off + len * te.size + news'.length)).toArray.toList.drop (O + off)).take (cs.drop off ++ news).length = olds ++ news' := by
              have hlen : (cs.drop off ++ news).length = len * te.size + n * te.size := by simp; omega
              rw [hlen]
              have hcsd : olds = ((arr.toList.drop (O + off)).take (len * te.size)) := by
                apply List.ext_getElem?
                intro j
                by_cases hj : j < len * te.size
                · have hjo : j < olds.length := by omega
                  have := horange j olds[j] (List.getElem?_eq_getElem hjo)
                  simp only [World.cell?, ha] at this
                  simp only [List.getElem?_take, hj, if_true, List.getElem?_drop, List.getElem?_eq_getElem hjo]
                  simpa using this.symm
                · rw [List.getElem?_eq_none (by omega), List.getElem?_eq_none (by simp; omega)]
              rw [hcsd]
              apply List.ext_getElem?
              intro j
              simp only [List.getElem?_take, List.getElem?_drop, List.getElem?_append, List.length_append, List.length_take, List.length_drop, Array.length_toList]
              have e2 : min (O + off + len * te.size) arr.size = O + off + len * te.size := by omega
              have e3 : min (len * te.size) (arr.size - (O + off)) = len * te.size := by omega
              simp only [e2, e3]
              by_cases hj1 : j < len * te.size
              · simp [hj1, show j < len * te.size + n * te.size by omega, show O + off + j < O + off + len * te.size + news'.length by omega]
              · by_cases hj2 : j < len * te.size + n * te.size
                · simp [hj1, hj2, show O + off + j < O + off + len * te.size + news'.length by omega, show O + off + j - (O + off + len * te.size) = j - len * te.size by omega]
                · simp only [hj1, hj2, if_false]
                  exact (List.getElem?_eq_none (by omega)).symm
            rw [e1]
            exact (horel.append hrel).mono (Gam.le_add hgn _)
          · injection hsz' with hsz'
            subst hsz'
            refine ⟨?_, ?_⟩
            · rw [hcc, hC']; simp; omega
            · have hlen : (cs.drop off ++ news).length = len * te.size + n * te.size := by simp; omega
              rw [hlen, hcc, hC']; omega
        · -- there is none
          have hgrow : capOf C c < len + n := by omega
          have hold : (Builtin.firstCells ie.size len (.slice (some ⟨B, O + off, none⟩) len (capOf C c))).run P w.drew = .ok olds.toArray w.drew :=
            run_firstCells_some w.drew ie.size len _ len _ olds (by rw [hol, hies]) (fun j v hj => by rw [Addr.add_mid]; simpa using horange j v hj)
          have hrun := run_append_grow_src (P := P) w t tx o.type t' ie z hu hie hiez' (some ⟨B, O + off, none⟩) len (capOf C c) olds hold (a.eval y) n news' hs hgrow (by omega) (fits hgrow h4')
          refine ⟨_, _, _, ?_, open_val (Gam.add_same γ s.next (w.heap.size, 0, grownCap w (len + n) (capOf C c) t')) (grownCap_le w (len + n) (capOf C c) t'), .inl (exec_append ho (by rw [hx']; exact hrun))⟩
          have st := (grow_step (P := P) (sCap := capOf C c) (el := t') hS hgn (horel.append hrel) (by rw [List.length_append, hol, hnl, Nat.add_mul]) hzs h4').kill b
          rw [hn, hn1, hat']
          have hfun : (fun j => if j = s.next then AB.cells (cs.drop off ++ news) t' (some te.size) false else if j = b then .dead else s.at j) =
              (fun j => if j = b then AB.dead else if j = s.next then AB.cells (cs.drop off ++ news) t' (some te.size) false else s.at j) := by
            funext j
            by_cases h1 : j = s.next
            · subst h1; simp [Ne.symm hbn]
            · simp [h1]
          rw [hfun]
          exact st
end Go.Ev
