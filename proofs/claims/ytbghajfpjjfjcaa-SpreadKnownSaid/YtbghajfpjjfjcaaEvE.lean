/- An evaluator of closed Go code, part 5: operations that touch no memory: their soundness. -/
import Derived.Test.YtbghajfpjjfjcaaEvD
set_option linter.unusedSimpArgs false
set_option linter.unusedVariables false
namespace Go.Ev
open Go Go.RowKit
variable [Rho]

theorem nilEq_ok {P : Program} {γ : Gam} {t : TypeId} {d : TypeDesc} (hd : P.underlying t = some d) {v u v' u' : Value} (hv : VRel γ v v') (hu : VRel γ u u') (h1 : nilDesc d v = true) (h2 : nilDesc d u = true)
    {b : Bool} (h : nilEq v u = some b) (w : World) : (Op.equal t v' u').run P w = .ok b w := by
  obtain ⟨k, hk⟩ : ∃ k, Op.maxDepth = k + 1 := ⟨9999, rfl⟩
  unfold nilEq at h
  split at h <;> (try (cases h; done)) <;> (injection h with h; subst h) <;> cases hv <;> cases hu <;>
    (cases d <;> simp [nilDesc] at h1 h2 <;> simp [Op.equal, hk, Op.equalIn, run_underlying hd])

theorem eqGuard_nil {P : Program} {γ : Gam} {t : TypeId} {v u v' u' : Value} (op : BinOp) (x y : Operand) (hv : VRel γ v v') (hu : VRel γ u u') {b : Bool} (h : nilEq v u = some b) (w : World) :
    (eqGuard op t x y v' u').run P w = .ok () w := by
  unfold nilEq at h
  split at h <;> (try (cases h; done)) <;> cases hv <;> cases hu <;> (unfold eqGuard; cases op <;> simp)

theorem binEq_ok {P : Program} {γ : Gam} {t : TypeId} {d : TypeDesc} (hd : P.underlying t = some d) {v u v' u' : Value} (hv : VRel γ v v') (hu : VRel γ u u') (h1 : nilDesc d v = true) (h2 : nilDesc d u = true)
    {b : Bool} (h : nilEq v u = some b) (w : World) : (binOp .eql t v' u').run P w = .ok (.bool b) w ∧ (binOp .neq t v' u').run P w = .ok (.bool !b) w := by
  have he := nilEq_ok hd hv hu h1 h2 h w
  unfold nilEq at h
  split at h <;> (try (cases h; done)) <;> cases hv <;> cases hu <;> (constructor <;> simp [binOp, he])

theorem viaRefl {γ : Gam} {op : BinOp} {k : IntKind} {a b : Int} {v : Value} (h : binI op k a b = some v) : VRel γ v v := by
  cases op <;> simp only [binI] at h <;> first
    | (cases h; done)
    | (injection h with h; subst h; first | exact .int _ _ | exact .bool _)
    | (cases hz : eqI b 0 with
       | true => rw [hz] at h; cases h
       | false => rw [hz] at h; injection h with h; subst h; exact .int _ _)

theorem shRefl {γ : Gam} {op : BinOp} {k : IntKind} {a b : Int} {v : Value} (h : shI op k a b = some v) : VRel γ v v := by
  unfold shI at h
  split at h
  · cases op <;> simp only at h <;> first
      | (cases h; done)
      | (injection h with h; subst h; exact .int _ _)
  · cases h

section
variable {P : Program} {e : Env} (he : Env.Ok P e) {γ : Gam} {T : Tm} {n : Nat} {a : Act} (hT : TRel γ T n a.tmps)
include he hT

theorem pureOp_ok {o : Oper} {v : Value} (h : pureOp e T o.op = some v) (w : World) : ∃ v', VRel γ v v' ∧ (execOp a.eval o).run P w = .ok (.value v') w := by
  obtain ⟨dst, op, type, pos, after, guard⟩ := o
  simp only at h
  unfold pureOp at h
  split at h
  · exact ⟨_, aev_rel hT h, rfl⟩
  · exact ⟨_, aev_rel hT h, rfl⟩
  · -- pick
    rename_i c x y
    unfold pPick at h
    split at h
    · rename_i t hc
      have hb := (aev_rel hT hc).bool_inv
      cases t with
      | true => exact ⟨_, aev_rel hT h, by simp [execOp, hb, asBool]⟩
      | false => exact ⟨_, aev_rel hT h, by simp [execOp, hb, asBool]⟩
    · cases h
  · -- nilCheck
    rename_i x
    unfold pNil at h
    split at h
    · rename_i p hx
      injection h with h; subst h
      have hr := aev_rel hT hx
      refine ⟨_, hr, ?_⟩
      generalize hx' : a.eval x = x' at hr
      cases hr
      simp [execOp, hx']
    · rename_i p q r hx
      injection h with h; subst h
      have hr := aev_rel hT hx
      refine ⟨_, hr, ?_⟩
      generalize hx' : a.eval x = x' at hr
      cases hr <;> simp [execOp, hx']
    · rename_i f fi ca hx
      injection h with h; subst h
      have hr := aev_rel hT hx
      refine ⟨_, hr, ?_⟩
      generalize hx' : a.eval x = x' at hr
      cases hr
      simp [execOp, hx']
    · cases h
  · -- fieldAddr
    rename_i s x f
    unfold pFieldAddr at h
    split at h
    · rename_i i b o hi hx
      split at h
      · rename_i fields hd
        split at h
        · rename_i fl hf
          split at h
          · rename_i j hj
            cases hz : Nat.beq j.size 0 with
            | true => simp only [hz, cond_true] at h; cases h
            | false =>
              simp only [hz, cond_false] at h
              injection h with h; subst h
              obtain ⟨B, O, C, hb, hx'⟩ := (aev_rel hT hx).ptr_inv
              have hz' := Nat.ne_of_beq_eq_false hz
              have hf' : fields[f]? = some fl := by simpa using hf
              have hu := ok_underlying he hi
              rw [hd] at hu
              have hpl : (fieldPlace ⟨B, O + o, none⟩ fl).run P w = .ok ⟨B, O + (o + fl.offset), none⟩ w := by
                simp [fieldPlace, ok_sizeOf he hj, hz', Addr.add_mid, Nat.add_assoc]
              exact ⟨_, .ptr (o + fl.offset) hb, by simp [execOp, Instr.fieldAt, hu, hf', hx', Instr.sureAddr, hpl]⟩
          · cases h
        · cases h
      · cases h
    · cases h
  · -- indexAddr
    rename_i t x ix
    unfold pIndexAddr at h
    split at h
    · rename_i i b o m c k j hi hx hix
      split at h
      · rename_i el hd
        split at h
        · rename_i te hte
          cases hlt : Nat.blt j m with
          | false => simp only [hlt, cond_false] at h; cases h
          | true =>
            simp only [hlt, cond_true] at h
            injection h with h; subst h
            obtain ⟨B, O, C, hb, hn, hx'⟩ := (aev_rel hT hx).slice_inv
            have hix' := (aev_rel hT hix).int_inv
            have hlt' : j < m := Nat.le_of_ble_eq_true hlt
            have hu := ok_underlying he hi
            rw [hd] at hu
            refine ⟨_, .ptr (o + j * te.size) hb, ?_⟩
            have hb2 : (0 : Int) ≤ (Int.ofNat j) ∧ (Int.ofNat j) < (m : Int) := ⟨by simp, by simp; omega⟩
            simp only [execOp, Instr.indexAt, hx', hix', asIntOf, Sem.run_bind, Sem.run_pure, Result.andThen_ok, hu]
            simp [hlt', ok_sizeOf he hte, Addr.add_mid, Nat.add_assoc]
        · cases h
      · cases h
    · rename_i i b o k j hi hx hix
      split at h
      · rename_i m el hd
        split at h
        · rename_i te hte
          cases hlt : Nat.blt j m with
          | false => simp only [hlt, cond_false] at h; cases h
          | true =>
            simp only [hlt, cond_true] at h
            injection h with h; subst h
            obtain ⟨B, O, C, hb, hx'⟩ := (aev_rel hT hx).ptr_inv
            have hix' := (aev_rel hT hix).int_inv
            have hlt' : j < m := Nat.le_of_ble_eq_true hlt
            have hu := ok_underlying he hi
            rw [hd] at hu
            refine ⟨_, .ptr (o + j * te.size) hb, ?_⟩
            simp only [execOp, Instr.indexAt, hx', hix', asIntOf, Sem.run_bind, Sem.run_pure, Result.andThen_ok, hu, Instr.sureAddr]
            simp [hlt', ok_sizeOf he hte, Addr.add_mid, Nat.add_assoc]
        · cases h
      · cases h
    · cases h
  · -- slice
    rename_i t x lo hi mx
    unfold pSlice at h
    split at h
    · rename_i i b o m c vlo vhi vmx hi' hx hlo hhi hmx
      split at h
      · rename_i el hd
        split at h
        · rename_i te nlo nhi nmx hte hnlo hnhi hnmx
          cases hmh : (nmx.isSome && nhi.isNone) with
          | true => simp only [hmh, cond_true] at h; cases h
          | false =>
            simp only [hmh, cond_false] at h
            split at h
            · rename_i o' n' c' hs
              injection h with h; subst h
              obtain ⟨B, O, C, hb, hn, hx'⟩ := (aev_rel hT hx).slice_inv
              obtain ⟨L, H, M, hr, h1, h2, h3, h4⟩ := slice_ok (P := P) (w := w) hn (optOp_rel hT hlo hnlo) (optOp_rel hT hhi hnhi) (optOp_rel hT hmx hnmx) hmh hs
              simp only at h1 h2 h3 h4
              have hu := ok_underlying he hi'
              rw [hd] at hu
              have hv : VRel γ (.slice (some ⟨b, o', none⟩) n' c') (.slice (some ⟨B, O + o', none⟩) n' (capOf C c')) := .slice o' n' c' hb (by rw [h2]; exact h3)
              refine ⟨_, hv, ?_⟩
              have hadd : (⟨B, O + o, none⟩ : Addr).add (L * te.size) = ⟨B, O + o + L * te.size, none⟩ := Addr.add_mid _ _ _
              have hif : (if M = L then some (⟨B, O + o, none⟩ : Addr) else (some (⟨B, O + o, none⟩ : Addr)).map (·.add (L * te.size))) = some ⟨B, O + o', none⟩ := by
                rw [← h4]
                split
                · rfl
                · simp [hadd, Nat.add_assoc]
              simp only [execOp, Instr.sliceAt, Sem.run_bind, hu, Result.andThen_ok, Instr.slice, hx', hr, ok_sizeOf he hte, Sem.run_pure, hif, ← h1, ← h2]
            · cases het : emptyTail m c nlo nhi nmx with
              | false => rw [het] at h; cases h
              | true =>
                rw [het, cond_true] at h
                injection h with h; subst h
                obtain ⟨B, O, C, hb, hn, hx'⟩ := (aev_rel hT hx).slice_inv
                have hr := emptyTail_ok (P := P) (w := w) hn (optOp_rel hT hlo hnlo) (optOp_rel hT hhi hnhi) (optOp_rel hT hmx hnmx) het
                have hu := ok_underlying he hi'
                rw [hd] at hu
                have hif : (if capOf C c = m then some (⟨B, O + o, none⟩ : Addr) else (some (⟨B, O + o, none⟩ : Addr)).map (·.add (m * te.size))) = some (if capOf C c = m then ⟨B, O + o, none⟩ else (⟨B, O + o, none⟩ : Addr).add (m * te.size)) := by
                  split <;> rfl
                refine ⟨_, .slicee (if capOf C c = m then ⟨B, O + o, none⟩ else (⟨B, O + o, none⟩ : Addr).add (m * te.size)) (capOf C c - m), ?_⟩
                simp only [execOp, Instr.sliceAt, Sem.run_bind, hu, Result.andThen_ok, Instr.slice, hx', hr, ok_sizeOf he hte, Sem.run_pure, hif, Nat.sub_self]
        · cases h
      · cases h
    · cases h
  · -- field
    rename_i t x f
    unfold pField at h
    split at h
    · rename_i i cs hi hx
      split at h
      · rename_i fields hd
        split at h
        · rename_i fl hf
          split at h
          · rename_i j hj
            obtain ⟨cs', hx', hc⟩ := (aev_rel hT hx).agg_inv
            have hf' : fields[f]? = some fl := by simpa using hf
            have hu := ok_underlying he hi
            rw [hd] at hu
            obtain ⟨v', hv', hr⟩ := part_ok he hj hc h w
            exact ⟨v', hv', by simp [execOp, Instr.field, hu, hf', hx', asAgg, hr]⟩
          · cases h
        · cases h
      · cases h
    · cases h
  · -- index
    rename_i t x ix
    unfold pIndex at h
    split at h
    · rename_i i cs k j hi hx hix
      split at h
      · rename_i m el hd
        split at h
        · rename_i te hte
          cases hlt : Nat.blt j m with
          | false => simp only [hlt, cond_false] at h; cases h
          | true =>
            simp only [hlt, cond_true] at h
            obtain ⟨cs', hx', hc⟩ := (aev_rel hT hx).agg_inv
            have hix' := (aev_rel hT hix).int_inv
            have hlt' : j < m := Nat.le_of_ble_eq_true hlt
            have hu := ok_underlying he hi
            rw [hd] at hu
            obtain ⟨v', hv', hr⟩ := part_ok he hte hc h w
            refine ⟨v', hv', ?_⟩
            simp only [execOp, Instr.index, hx', hix', asIntOf, Sem.run_bind, Sem.run_pure, Result.andThen_ok, hu]
            simp [hlt', ok_sizeOf he hte, hr]
        · cases h
      · cases h
    · cases h
  · -- extract
    rename_i t ix
    unfold pExtract at h
    split at h
    · rename_i vs hx
      obtain ⟨vs', hx', hc⟩ := (aev_rel hT hx).tuple_inv
      obtain ⟨v', h1, h2⟩ := hc.get h
      have h1' : vs'[ix]? = some v' := by simpa using h1
      exact ⟨v', h2, by simp [execOp, Instr.extract, hx', h1']⟩
    · cases h
  · -- makeFunc
    rename_i fn first captured
    unfold pMakeFunc at h
    cases hy : isYield fn with
    | true => simp only [hy, cond_true] at h; cases h
    | false =>
      simp only [hy, cond_false] at h
      split at h
      · rename_i f c hf hc
        injection h with h; subst h
        have rf := (aevs_rel hT hf).toArray
        have rc := (aevs_rel hT hc).toArray
        refine ⟨_, .func fn (fun l e => by subst e; simp [isYield] at hy) _ _ _ _ rf.1 rf.2 rc.1 rc.2, ?_⟩
        have e1 : first.map a.eval = (first.toList.map a.eval).toArray := by apply Array.ext'; simp
        have e2 : captured.map a.eval = (captured.toList.map a.eval).toArray := by apply Array.ext'; simp
        simp only [execOp, Instr.makeFunc, e1, e2, Sem.run_bind, Sem.run_pure, Result.andThen_ok]
      · cases h
  · -- makeInterface
    rename_i t x
    unfold pMakeIface at h
    split at h
    · rename_i i u hi hx
      have hu := ok_underlying he hi
      cases hd : i.desc <;> rw [hd] at h hu <;> simp only at h <;> first
        | (cases h; done)
        | (injection h with h; subst h; exact ⟨_, .iface t (aev_rel hT hx), by simp [execOp, Instr.makeInterface, hu]⟩)
    · cases h
  · -- typeAssert
    rename_i x xt t ok
    unfold pAssert at h
    split at h
    · rename_i i u v0 hi hx
      have hu := ok_underlying he hi
      obtain ⟨u', hx', hv'⟩ := (aev_rel hT hx).iface_inv
      cases hb : Nat.beq u t with
      | false => cases hd : i.desc <;> rw [hd] at h <;> simp only [hb, cond_false] at h <;> cases h
      | true =>
        have hb' := Nat.eq_of_beq_eq_true hb
        subst hb'
        cases ok with
        | true =>
          refine ⟨.tuple #[u', .bool true], ?_, ?_⟩
          · have : VRel γ (.tuple [v0, .bool true].toArray) (.tuple [u', .bool true].toArray) := VRel.tupleOf (.cons hv' (.cons (.bool true) (.nil γ)))
            cases hd : i.desc <;> rw [hd] at h <;> simp only [hb, cond_true] at h <;> first
              | (cases h; done)
              | (injection h with h; subst h; exact this)
          · cases hd : i.desc <;> rw [hd] at h hu <;> simp only at h <;> first
              | (cases h; done)
              | simp [execOp, Instr.typeAssert, hu, hx']
        | false =>
          refine ⟨u', ?_, ?_⟩
          · cases hd : i.desc <;> rw [hd] at h <;> simp only [hb, cond_true, cond_false] at h <;> first
              | (cases h; done)
              | (injection h with h; subst h; exact hv')
          · cases hd : i.desc <;> rw [hd] at h hu <;> simp only at h <;> first
              | (cases h; done)
              | simp [execOp, Instr.typeAssert, hu, hx']
    · cases h
  · -- build
    rename_i t parts
    unfold pBuild at h
    split at h
    · rename_i i vs hi hvs
      split at h
      · rename_i z hz
        cases hp : plain 8 z with
        | false => simp only [hp, cond_false] at h; cases h
        | true =>
          simp only [hp, cond_true] at h
          have hrel := aevs_rel hT hvs
          obtain ⟨hdesc, j, hj, hjs, hjb, hjz⟩ := he.ty t i hi
          have hzc : LRel γ z.cells.toList z.cells.toList := (plain_rel γ 8 z hp).cells
          have hlen : vs.length = parts.size := by have := hrel.1; simpa using this
          have hfst : ((parts.toList.map (·.1)).zip vs).map (·.1) = ((parts.map fun (i, x) => (i, a.eval x)).toList).map (·.1) := by
            rw [List.map_fst_zip (by simp; omega)]
            simp [Array.toList_map, Function.comp_def]
          have hsnd : LRel γ (((parts.toList.map (·.1)).zip vs).map (·.2)) (((parts.map fun (i, x) => (i, a.eval x)).toList).map (·.2)) := by
            rw [List.map_snd_zip (by simp; omega)]
            have e : ((parts.map fun (i, x) => (i, a.eval x)).toList).map (·.2) = (parts.toList.map (·.2)).map a.eval := by simp [Array.toList_map, Function.comp_def]
            rw [e]
            exact hrel
          split at h
          · rename_i fields hd
            split at h
            · rename_i pl hpl
              split at h
              · rename_i r hr
                injection h with h; subst h
                obtain ⟨r', h1, h2⟩ := fill_rel (γ := γ) (pl[·]?) _ _ _ _ _ hfst hsnd hzc hr
                refine ⟨.agg r', ?_, ?_⟩
                · have := VRel.aggOf h2; simpa using this
                · have hb : P.built t (parts.map fun (i, x) => (i, a.eval x)).toList = some r' := by
                    simp only [Program.built, hj, hdesc, hd, hjz, hz, places_ok he _ _ hpl]
                    simpa using h1
                  simp only [execOp, Sem.run_bind, run_build w t _ r' hb, Result.andThen_ok, Sem.run_pure]
              · cases h
            · cases h
          · rename_i m el hd
            split at h
            · rename_i te hte
              split at h
              · rename_i r hr
                injection h with h; subst h
                obtain ⟨r', h1, h2⟩ := fill_rel (γ := γ) (fun i => some (i * te.size, te.size)) _ _ _ _ _ hfst hsnd hzc hr
                refine ⟨.agg r', ?_, ?_⟩
                · have := VRel.aggOf h2; simpa using this
                · obtain ⟨_, je, hje, hjes, _, _⟩ := he.ty el te hte
                  have hb : P.built t (parts.map fun (i, x) => (i, a.eval x)).toList = some r' := by
                    simp only [Program.built, hj, hdesc, hd, hjz, hz, hje, hjes]
                    exact h1
                  simp only [execOp, Sem.run_bind, run_build w t _ r' hb, Result.andThen_ok, Sem.run_pure]
              · cases h
            · cases h
          · cases h
      · cases h
    · cases h
  · -- eql
    rename_i t x y yt
    unfold pEq at h
    split at h
    · rename_i i v0 u0 hi hx hy
      cases hc : (nilDesc i.desc v0 && nilDesc i.desc u0) with
      | false => simp only [hc, cond_false] at h; cases h
      | true =>
        simp only [hc, cond_true] at h
        simp only [Bool.and_eq_true] at hc
        cases hn : nilEq v0 u0 with
        | none => simp [hn] at h
        | some b =>
          simp [hn] at h
          subst h
          have r1 := aev_rel hT hx
          have r2 := aev_rel hT hy
          refine ⟨_, .bool b, ?_⟩
          simp only [execOp, Sem.run_bind, eqGuard_nil .eql x y r1 r2 hn, Result.andThen_ok, (binEq_ok (he.ty t i hi).1 r1 r2 hc.1 hc.2 hn w).1, Sem.run_pure]
    · cases h
  · -- neq
    rename_i t x y yt
    unfold pNe at h
    split at h
    · rename_i i v0 u0 hi hx hy
      cases hc : (nilDesc i.desc v0 && nilDesc i.desc u0) with
      | false => simp only [hc, cond_false] at h; cases h
      | true =>
        simp only [hc, cond_true] at h
        simp only [Bool.and_eq_true] at hc
        cases hn : nilEq v0 u0 with
        | none => simp [hn] at h
        | some b =>
          simp [hn] at h
          subst h
          have r1 := aev_rel hT hx
          have r2 := aev_rel hT hy
          refine ⟨_, .bool (!b), ?_⟩
          simp only [execOp, Sem.run_bind, eqGuard_nil .neq x y r1 r2 hn, Result.andThen_ok, (binEq_ok (he.ty t i hi).1 r1 r2 hc.1 hc.2 hn w).2, Sem.run_pure]
    · cases h
  · -- len
    rename_i args tys
    unfold pLen at h
    split at h
    · rename_i x t ts ha ht
      split at h
      · rename_i i p m c hi hx
        split at h
        · rename_i el hd
          injection h with h; subst h
          have hr := aev_rel hT hx
          generalize hx' : a.eval x = x' at hr
          have hu := ok_underlying he hi
          rw [hd] at hu
          have ea : args = #[x] := by apply Array.ext'; simpa using ha
          have et : tys = (t :: ts).toArray := by apply Array.ext'; simpa using ht
          refine ⟨_, .int _ _, ?_⟩
          cases hr <;> simp [execOp, resolve, invoke, builtin, Builtin.len_, ea, et, hx', hu, goInt]
        · cases h
      · cases h
    · cases h
  · -- max
    rename_i args tys
    unfold pMinMax at h
    split at h
    · rename_i x y ha
      split at h
      · rename_i k1 a1 k2 b1 hx hy
        injection h with h; subst h
        have hx' := (aev_rel hT hx).int_inv
        have hy' := (aev_rel hT hy).int_inv
        have ea : args = #[x, y] := by apply Array.ext'; simpa using ha
        refine ⟨_, .int _ _, ?_⟩
        simp only [cond_true, ltI_eq]
        by_cases hlt : a1 < b1 <;> simp [execOp, resolve, invoke, builtin, Builtin.max_, Builtin.max2, ea, hx', hy', hlt]
      · cases h
    · cases h
  · -- min
    rename_i args tys
    unfold pMinMax at h
    split at h
    · rename_i x y ha
      split at h
      · rename_i k1 a1 k2 b1 hx hy
        injection h with h; subst h
        have hx' := (aev_rel hT hx).int_inv
        have hy' := (aev_rel hT hy).int_inv
        have ea : args = #[x, y] := by apply Array.ext'; simpa using ha
        refine ⟨_, .int _ _, ?_⟩
        simp only [cond_false, ltI_eq]
        by_cases hlt : b1 < a1 <;> simp [execOp, resolve, invoke, builtin, Builtin.min_, Builtin.min2, ea, hx', hy', hlt]
      · cases h
    · cases h
  · -- unary
    rename_i op t x
    unfold pUn at h
    split at h
    · rename_i hx
      injection h with h; subst h
      have hx' := (aev_rel hT hx).bool_inv
      exact ⟨_, .bool _, by simp [execOp, hx', Op.unary]⟩
    · rename_i hx
      injection h with h; subst h
      have hx' := (aev_rel hT hx).bool_inv
      exact ⟨_, .bool _, by simp [execOp, hx', Op.unary]⟩
    · rename_i k1 n1 hx
      injection h with h; subst h
      have hx' := (aev_rel hT hx).int_inv
      exact ⟨_, .int _ _, by simp [execOp, hx', Op.unary, Op.intArith, wrapF_eq]⟩
    · cases h
  · -- convert
    rename_i src dst x
    unfold pConv at h
    split at h
    · rename_i i0 i k1 n1 hsrc hi hx
      split at h
      · rename_i k2 hd
        injection h with h; subst h
        have hx' := (aev_rel hT hx).int_inv
        have hu := ok_underlying he hi w
        rw [hd] at hu
        exact ⟨_, .int _ _, by simp [execOp, hx', convert, ok_underlying he hsrc, hu, Conv.intToInt, wrapF_eq]⟩
      · cases h
    · cases h
  · cases h

theorem evalPure_ok {o : Oper} {v : Value} (h : evalPure P e T o = some v) (w : World) : ∃ v', VRel γ v v' ∧ (execOp a.eval o).run P w = .ok (.value v') w := by
  have rest : (match pureOp e T o.op with | some v => some v | none => viaModel P T o) = some v → ∃ v', VRel γ v v' ∧ (execOp a.eval o).run P w = .ok (.value v') w := by
    intro h
    split at h
    · rename_i u hu
      injection h with h; subst h
      exact pureOp_ok he hT hu w
    · exact ⟨v, viaModel_ok hT h w⟩
  unfold evalPure at h
  split at h
  · rename_i op t x y yt hop
    split at h
    · rename_i k a1 k' b1 hx hy
      split at h
      · rename_i u hu
        injection h with h; subst h
        have hx' := (aev_rel hT hx).int_inv
        have hy' := (aev_rel hT hy).int_inv
        obtain ⟨h1, h2⟩ := shI_ok (P := P) (k' := k') hu t x y w
        refine ⟨_, shRefl hu, ?_⟩
        simp only [execOp, hop, hx', hy', Sem.run_bind, h1, h2, Result.andThen_ok, Sem.run_pure]
      cases hk : sameK k k' with
      | false => rw [hk] at h; exact ⟨v, viaModel_ok hT h w⟩
      | true =>
        have hk' := sameK_eq hk
        subst hk'
        rw [hk, cond_true] at h
        split at h
        · rename_i u hu
          injection h with h; subst h
          have hx' := (aev_rel hT hx).int_inv
          have hy' := (aev_rel hT hy).int_inv
          obtain ⟨h1, h2⟩ := binI_ok (P := P) hu t x y w
          refine ⟨_, viaRefl hu, ?_⟩
          simp only [execOp, hop, hx', hy', Sem.run_bind, h1, h2, Result.andThen_ok, Sem.run_pure]
        · exact ⟨v, viaModel_ok hT h w⟩
    · exact rest h
  · exact rest h
end
end Go.Ev
