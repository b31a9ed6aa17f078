/-
  Layer 2: rows of parts; the reference's Check.
-/
import Derived.Test.YtfblpokjbopagaaMG
import Derived.Test.YtfblpokjbopagaaMD
set_option linter.unusedSimpArgs false
set_option linter.unusedVariables false
namespace Go.Proofs.Ytfblpokjbopagaa
open Go.RowKit

def prtCells (l : List Prt) : List Value := l.flatMap fun s => [.int .i64 s.1, .int .i64 s.2.1, .int .i64 s.2.2]
def PrtsAt (w : World) (B : Nat) (v : Value) (l : List Prt) : Prop := Reads w B 3 v l.length (prtCells l)
theorem prtCells_length (l : List Prt) : (prtCells l).length = l.length * 3 := by
  induction l with
  | nil => rfl
  | cons s l ih => simp [prtCells] at ih ⊢; omega
theorem prtCells_append (l m : List Prt) : prtCells (l ++ m) = prtCells l ++ prtCells m := by simp [prtCells]
theorem prtCells_get (l : List Prt) (k : Nat) (h : k < l.length) : (prtCells l)[k * 3]? = some (.int .i64 l[k].1) ∧ (prtCells l)[k * 3 + 1]? = some (.int .i64 l[k].2.1) ∧ (prtCells l)[k * 3 + 2]? = some (.int .i64 l[k].2.2) := by
  induction l generalizing k with
  | nil => simp at h
  | cons s l ih =>
    cases k with
    | zero => simp [prtCells]
    | succ k =>
      have := ih k (by simpa using h)
      have e1 : (k + 1) * 3 = k * 3 + 3 := by omega
      simp only [prtCells, List.flatMap_cons, List.cons_append, List.nil_append, List.getElem_cons_succ] at this ⊢
      rw [e1]
      exact ⟨by simpa using this.1, by simpa using this.2.1, by simpa using this.2.2⟩
section
variable {w w' : World} {B B' : Nat} {v : Value} {l : List Prt}
theorem PrtsAt.below (h : PrtsAt w B v l) (hb : Below B w w') : PrtsAt w' B v l := Reads.below h hb
theorem PrtsAt.more (h : PrtsAt w B v l) (hB : B ≤ B') : PrtsAt w B' v l := Reads.more h hB
theorem PrtsAt.later (h : PrtsAt w B v l) (hb : Below B w w') (hB : B ≤ w.heap.size) : PrtsAt w' w'.heap.size v l := Reads.later h hb hB
theorem PrtsAt.open_ (h : PrtsAt w B v l) : ∃ A c, v = .slice A l.length c ∧ l.length ≤ c ∧ l.length ≤ 9223372036854775807 := by
  obtain ⟨_, h2, A, c, h3, h4, _⟩ := h
  exact ⟨A, c, h3, h4, h2⟩
theorem PrtsAt.at_ {A : Option Addr} {n c : Nat} (h : PrtsAt w B (.slice A n c) l) {k : Nat} (hk : k < l.length) :
    ∃ b off, A = some ⟨b, off, none⟩ ∧ b < B ∧ w.cell? ⟨b, off + k * 3, none⟩ = some (.int .i64 l[k].1) ∧ w.cell? ⟨b, off + k * 3 + 1, none⟩ = some (.int .i64 l[k].2.1) ∧ w.cell? ⟨b, off + k * 3 + 2, none⟩ = some (.int .i64 l[k].2.2) := by
  obtain ⟨h1, _, A', c', h3, h4, h5⟩ := h
  injection h3 with a b d
  subst a
  obtain ⟨b, off, e, hb, hc⟩ := h5 (by omega)
  obtain ⟨g1, g2, g3⟩ := prtCells_get l k hk
  exact ⟨b, off, e, hb, hc _ _ g1, hc _ _ g2, hc _ _ g3⟩
end

def MdAt (w : World) (B : Nat) (x : Value) (m : Md) : Prop := ∃ v, x = .agg #[.int .i64 m.mean, v] ∧ PrtsAt w B v m.ps
theorem all_take {α : Type} (p : α → Bool) (l : List α) (k : Nat) (h : k < l.length) : (l.take (k + 1)).all p = ((l.take k).all p && p l[k]) := by
  rw [List.take_succ_eq_append_getElem h, List.all_append]
  simp
theorem all_false {α : Type} (p : α → Bool) (l : List α) (k : Nat) (h : k < l.length) (hp : p l[k] = false) : l.all p = false := by
  rw [Bool.eq_false_iff]
  intro h2
  have := List.all_eq_true.1 h2 l[k] (List.getElem_mem h)
  rw [hp] at this
  cases this
set_option maxRecDepth 100000 in
set_option maxHeartbeats 2000000 in
theorem rmCheck_any (x : Value) (m : Md) (w : World) (hm : MdAt w w.heap.size x m) :
    Calls Try.prog 16 #[x] w fun e w' => e = .returned (.int .i64 (mdE m)) ∧ Below w.heap.size w w' := by
  obtain ⟨v, rfl, hp⟩ := hm
  have HP := Lib.hid hp
  obtain ⟨A, c, rfl, hc, hlen⟩ := hp.open_
  obtain ⟨mean, ps⟩ := m
  simp only at HP hc hlen ⊢
  clear hp
  by_cases h1 : -10000 ≤ mean
  case neg =>
    have he : mdE ⟨mean, ps⟩ = 3 := by unfold mdE; rw [if_neg (by simp only; omega)]
    rw [he]; clear he
    go_enter Try.func16, Try.ntmps16
    go_wp2
    go_ret
    exact ⟨rfl, (by repeat (first | exact Below.refl _ _ | assumption | refine Below.drew ?_ | refine Below.drewN' ?_ _ | (refine Below.alloc ?_ (by simp <;> omega) _) | (refine Below.setCell ?_ (by simp <;> omega) _)))⟩
  by_cases h2 : mean ≤ 10000
  case neg =>
    have he : mdE ⟨mean, ps⟩ = 3 := by unfold mdE; rw [if_neg (by simp only; omega)]
    rw [he]; clear he
    go_enter Try.func16, Try.ntmps16
    go_wp2
    go_ret
    exact ⟨rfl, (by repeat (first | exact Below.refl _ _ | assumption | refine Below.drew ?_ | refine Below.drewN' ?_ _ | (refine Below.alloc ?_ (by simp <;> omega) _) | (refine Below.setCell ?_ (by simp <;> omega) _)))⟩
  by_cases h3 : ps.length ≤ 16
  case neg =>
    have he : mdE ⟨mean, ps⟩ = 9 := by unfold mdE; rw [if_pos ⟨h1, h2⟩, if_neg h3]
    rw [he]; clear he
    have h3' : (16 : Int) < (ps.length : Int) := by omega
    go_enter Try.func16, Try.ntmps16
    go_wp2
    go_ret
    exact ⟨rfl, (by repeat (first | exact Below.refl _ _ | assumption | refine Below.drew ?_ | refine Below.drewN' ?_ _ | (refine Below.alloc ?_ (by simp <;> omega) _) | (refine Below.setCell ?_ (by simp <;> omega) _)))⟩
  have he : mdE ⟨mean, ps⟩ = if ps.all partOk then 0 else 3 := by unfold mdE; rw [if_pos ⟨h1, h2⟩, if_pos h3]
  have HE := Lib.hid he
  clear he
  have h3' : (ps.length : Int) ≤ 16 := by omega
  obtain ⟨E, hE⟩ : ∃ E, (if ps.all partOk = true then (0 : Int) else 3) = E := ⟨_, rfl⟩
  have HG : Hid (∀ b, ps.all partOk = b → E = if b = true then 0 else 3) := fun b h => by rw [← hE, h]
  rw [HE.out, hE]
  clear HE hE
  go_enter Try.func16, Try.ntmps16
  go_upto_region 5 with (fail)
  obtain ⟨V0, hV⟩ : ∃ V, w.alloc (.cells #[.int .i64 mean, .slice A ps.length c] 31) = V := ⟨_, rfl⟩
  have hB0 : Below w.heap.size w V0 := by rw [← hV]; exact (by repeat (first | exact Below.refl _ _ | assumption | refine Below.drew ?_ | refine Below.drewN' ?_ _ | (refine Below.alloc ?_ (by simp <;> omega) _) | (refine Below.setCell ?_ (by simp <;> omega) _)))
  have hk : Blk V0 w.heap.size 31 #[.int .i64 mean, .slice A ps.length c] := by rw [← hV]; exact Blk.new' _ _ _ rfl
  rw [hV]
  have HB := Lib.hid hB0
  have HK := Lib.hid hk
  have HQ := Lib.hid (HP.out.below hB0)
  clear hV hB0 hk HP
  go_wp2_with fail
  go_loopw [3] (fun j wr => ∃ k : Nat, k ≤ ps.length ∧ j = .int .i64 k ∧ Hid ((ps.take k).all partOk = true) ∧ Hid (Below V0.heap.size V0 wr)) (fun j wr => ps.length - (intOf j).toNat)
  case atStart => exact ⟨0, by omega, rfl, rfl, Below.refl _ _⟩
  case round =>
    obtain ⟨k, hk, rfl, HT, HBr⟩ := hrel
    have K1 := HK.out.below HBr.out HK.out.lt
    have y0 := K1.cell 0
    have y1 := K1.cell 1
    simp only [List.getElem?_toArray, List.getElem?_cons_zero, List.getElem?_cons_succ] at y0 y1
    have l1 := K1.lt
    clear K1
    by_cases hlt : k < ps.length
    · have hk0 : (0 : Int) ≤ (k : Int) := by omega
      have hk1 : (k : Int) < (ps.length : Int) := by omega
      obtain ⟨b, o, rfl, hb, f0, f1, f2⟩ := (HQ.out.below (HBr.out.mono HB.out.size)).at_ hlt
      have HN := Lib.hid (all_take partOk ps k hlt)
      have HF := Lib.hid (fun hp => all_false partOk ps k hlt hp)
      generalize ps[k] = p at *
      obtain ⟨am, pe, ph⟩ := p
      simp only at f0 f1 f2
      have hbl : b < wr.heap.size := by have := HBr.out.size; have := HB.out.size; omega
      have HO : Hid (partOk (am, pe, ph) = decide (0 ≤ am ∧ am ≤ 1000 ∧ 1 ≤ pe ∧ pe ≤ 1000000000 ∧ 0 ≤ ph ∧ ph < 3600)) := rfl
      go_upto_region 9 with (fail)
      obtain ⟨V, hV⟩ : ∃ V, wr.alloc (.cells #[.int .i64 am, .int .i64 pe, .int .i64 ph] 80) = V := ⟨_, rfl⟩
      have hz : Below wr.heap.size wr V := by rw [← hV]; exact (Below.refl _ _).alloc (Nat.le_refl _) _
      have hk4 : Blk V wr.heap.size 80 #[.int .i64 am, .int .i64 pe, .int .i64 ph] := by rw [← hV]; exact Blk.new' _ _ _ rfl
      rw [hV]
      have HBz := Lib.hid (HBr.out.trans (hz.mono HBr.out.size))
      have JB := Lib.hid (HB.out.trans (HBz.out.mono HB.out.size))
      have z0 := hk4.cell 0
      have z1 := hk4.cell 1
      have z2 := hk4.cell 2
      simp only [List.getElem?_toArray, List.getElem?_cons_zero, List.getElem?_cons_succ] at z0 z1 z2
      clear hV hz hk4 f0 f1 f2 y0 y1
      by_cases q0 : 0 ≤ am
      case neg =>
        have hf : partOk (am, pe, ph) = false := by rw [HO.out]; exact decide_eq_false (by omega)
        have HA := Lib.hid (HF.out hf)
        have JBo := JB.out
        obtain rfl : E = 3 := HG.out false HA.out
        clear hf
        go_wp2
        go_ret
        exact ⟨rfl, JBo⟩
      by_cases q1 : am ≤ 1000
      case neg =>
        have hf : partOk (am, pe, ph) = false := by rw [HO.out]; exact decide_eq_false (by omega)
        have HA := Lib.hid (HF.out hf)
        have JBo := JB.out
        obtain rfl : E = 3 := HG.out false HA.out
        clear hf
        go_wp2
        go_ret
        exact ⟨rfl, JBo⟩
      by_cases q2 : 1 ≤ pe
      case neg =>
        have hf : partOk (am, pe, ph) = false := by rw [HO.out]; exact decide_eq_false (by omega)
        have HA := Lib.hid (HF.out hf)
        have JBo := JB.out
        obtain rfl : E = 3 := HG.out false HA.out
        clear hf
        go_wp2
        go_ret
        exact ⟨rfl, JBo⟩
      by_cases q3 : pe ≤ 1000000000
      case neg =>
        have hf : partOk (am, pe, ph) = false := by rw [HO.out]; exact decide_eq_false (by omega)
        have HA := Lib.hid (HF.out hf)
        have JBo := JB.out
        obtain rfl : E = 3 := HG.out false HA.out
        clear hf
        go_wp2
        go_ret
        exact ⟨rfl, JBo⟩
      by_cases q4 : 0 ≤ ph
      case neg =>
        have hf : partOk (am, pe, ph) = false := by rw [HO.out]; exact decide_eq_false (by omega)
        have HA := Lib.hid (HF.out hf)
        have JBo := JB.out
        obtain rfl : E = 3 := HG.out false HA.out
        clear hf
        go_wp2
        go_ret
        exact ⟨rfl, JBo⟩
      by_cases q5 : ph < 3600
      case neg =>
        have hf : partOk (am, pe, ph) = false := by rw [HO.out]; exact decide_eq_false (by omega)
        have HA := Lib.hid (HF.out hf)
        have JBo := JB.out
        obtain rfl : E = 3 := HG.out false HA.out
        clear hf
        go_wp2
        go_ret
        exact ⟨rfl, JBo⟩
      have hok : partOk (am, pe, ph) = true := by rw [HO.out]; exact decide_eq_true ⟨q0, q1, q2, q3, q4, q5⟩
      have HT' : Hid ((ps.take (k + 1)).all partOk = true) := by rw [Hid, HN.out, HT.out, hok]; rfl
      clear hok
      go_wp2
      go_roundw
      case rel => exact ⟨k + 1, by omega, by go_num, HT'.out, HBz.out⟩
      case measure => simp [intOf]; omega
    · obtain rfl : k = ps.length := by omega
      have ht : ps.take ps.length = ps := List.take_length
      have HA : Hid (ps.all partOk = true) := by have h := HT.out; rw [ht] at h; exact h
      have JBo := HB.out.trans (HBr.out.mono HB.out.size)
      obtain rfl : E = 0 := HG.out true HA.out
      clear ht HT
      go_wp2
      go_ret
      exact ⟨rfl, JBo⟩
end Go.Proofs.Ytfblpokjbopagaa
/-
  Layer 2, the reference: Range.
-/
namespace Go.Proofs.Ytfblpokjbopagaa
open Go.RowKit

theorem mdE_zero {m : Md} (h : mdE m = 0) : (-10000 ≤ m.mean ∧ m.mean ≤ 10000) ∧ m.ps.length ≤ 16 ∧ m.ps.all partOk = true := by
  unfold mdE at h
  split at h
  · rename_i h1
    split at h
    · rename_i h2
      split at h
      · rename_i h3
        exact ⟨h1, h2, h3⟩
      · cases h
    · cases h
  · cases h
def rngV (m : Md) : Int × Int := if mdE m = 0 then rangeZ m else (0, 0)
theorem sumF_take (f : Prt → Int) (ps : List Prt) (k : Nat) (h : k < ps.length) : sumF f (ps.take (k + 1)) = sumF f (ps.take k) + f ps[k] := by
  rw [List.take_succ_eq_append_getElem h, sumF_snoc]
set_option maxRecDepth 100000 in
set_option maxHeartbeats 2000000 in
theorem rRange_any (x : Value) (m : Md) (w : World) (hm : MdAt w w.heap.size x m) :
    Calls Try.prog 20 #[x] w fun e w' => e = .returned (.tuple #[.agg #[.int .i64 (rngV m).1, .int .i64 (rngV m).2], .int .i64 (mdE m)]) ∧ Below w.heap.size w w' := by
  obtain ⟨v, rfl, hp⟩ := hm
  have HP := Lib.hid hp
  obtain ⟨A, c, rfl, hc, hlen⟩ := hp.open_
  obtain ⟨mean, ps⟩ := m
  simp only at HP hc hlen ⊢
  clear hp
  have HE : Hid (∀ e, mdE ⟨mean, ps⟩ = e → rngV ⟨mean, ps⟩ = if e = 0 then rangeZ ⟨mean, ps⟩ else (0, 0)) := fun e h => by unfold rngV; rw [h]
  have HZ : Hid (mdE ⟨mean, ps⟩ = 0 → (-10000 ≤ mean ∧ mean ≤ 10000) ∧ ps.length ≤ 16 ∧ ps.all partOk = true) := fun h => mdE_zero h
  obtain ⟨E, hE⟩ : ∃ E, mdE ⟨mean, ps⟩ = E := ⟨_, rfl⟩
  obtain ⟨⟨R1, R2⟩, hR⟩ : ∃ r, rngV ⟨mean, ps⟩ = r := ⟨_, rfl⟩
  have HM := Lib.hid hE
  have HRV := Lib.hid ((HE.out E hE).symm.trans hR)
  rw [hE] at HZ
  rw [hE, hR]
  clear hE hR HE
  go_enter Try.func20, Try.ntmps20
  go_upto_region 1 with (fail)
  obtain ⟨V0, hV⟩ : ∃ V, (w.alloc (.cells #[.int .i64 mean, .slice A ps.length c] 31)).alloc (.cells #[.int .i64 0, .int .i64 0] 23) = V := ⟨_, rfl⟩
  have K1 : Hid (Blk V0 w.heap.size 31 #[.int .i64 mean, .slice A ps.length c]) := by rw [← hV]; exact (Blk.new' _ _ _ rfl).alloc _
  have K2 : Hid (Blk V0 (w.heap.size + 1) 23 #[.int .i64 0, .int .i64 0]) := by rw [← hV]; exact Blk.new' _ _ _ (by simp)
  have KB : Hid (Below w.heap.size w V0) := by rw [← hV]; exact (by repeat (first | exact Below.refl _ _ | assumption | refine Below.drew ?_ | refine Below.drewN' ?_ _ | (refine Below.alloc ?_ (by simp <;> omega) _) | (refine Below.setCell ?_ (by simp <;> omega) _)))
  rw [hV]
  clear hV
  have y0 := K1.out.cell 0
  have y1 := K1.out.cell 1
  simp only [List.getElem?_toArray, List.getElem?_cons_zero, List.getElem?_cons_succ] at y0 y1
  go_wp2_with fail
  refine (rmCheck_any _ ⟨mean, ps⟩ _ ⟨_, rfl, HP.out.later KB.out (Nat.le_refl _)⟩).mono ?_
  rintro e w1 ⟨rfl, hb⟩
  rw [HM.out]
  have J1 := Lib.hid (K1.out.below hb K1.out.lt)
  have J2 := Lib.hid (K2.out.below hb K2.out.lt)
  have JB := Lib.hid (KB.out.trans (hb.mono KB.out.size))
  clear hb K1 K2 KB y0 y1
  by_cases h0 : E = 0
  · subst h0
    obtain ⟨⟨a1, a2⟩, a3, a4⟩ := HZ.out rfl
    have HOK := Lib.hid a4
    have HR : Hid (mean - sumF ampP ps = R1 ∧ mean + sumF ampP ps = R2) := by
      have h := HRV.out
      rw [if_pos rfl] at h
      unfold rangeZ at h
      injection h with h1 h2
      exact ⟨h1, h2⟩
    clear a4 HRV HZ HM
    have y0 := J1.out.cell 0
    have y1 := J1.out.cell 1
    simp only [List.getElem?_toArray, List.getElem?_cons_zero, List.getElem?_cons_succ] at y0 y1
    go_wp2_with fail
    go_loopw [5, 6] (fun s j wr => ∃ (k : Nat) (S : Int), k ≤ ps.length ∧ s = .int .i64 S ∧ j = .int .i64 k ∧ Hid (S = sumF ampP (ps.take k)) ∧ 0 ≤ S ∧ S ≤ 1000 * k ∧ Hid (w1 = wr)) (fun _ j wr => ps.length - (intOf j).toNat)
    case atStart => exact ⟨0, 0, by omega, rfl, rfl, rfl, by omega, by omega, rfl⟩
    case round =>
      obtain ⟨k, S, hk, rfl, rfl, HS, s0, s1, Hwr⟩ := hrel
      have ewr := Hwr.out
      subst ewr
      clear Hwr
      by_cases hlt : k < ps.length
      · have hk0 : (0 : Int) ≤ (k : Int) := by omega
        have hk1 : (k : Int) < (ps.length : Int) := by omega
        obtain ⟨b, o, rfl, hb, f0, -, -⟩ := (HP.out.below JB.out).at_ hlt
        have hp := part_of (List.all_eq_true.1 HOK.out ps[k] (List.getElem_mem hlt))
        have HN := Lib.hid (sumF_take ampP ps k hlt)
        have HA : Hid (ampP ps[k] = ps[k].1) := rfl
        generalize ps[k] = p at *
        obtain ⟨am, pe, ph⟩ := p
        simp only at f0 hp
        obtain ⟨p0, p1, -⟩ := hp
        go_wp2
        go_roundw
        case rel => exact ⟨k + 1, S + am, by omega, by go_num, by go_num, by rw [Hid, HN.out, HS.out, HA.out], by omega, by omega, by first | exact rfl | exact True.intro⟩
        case measure => simp [intOf]; omega
      · obtain rfl : k = ps.length := by omega
        have ht : ps.take ps.length = ps := List.take_length
        have HS2 : Hid (S = sumF ampP ps) := by have h := HS.out; rw [ht] at h; exact h
        obtain ⟨t0, t1, v0, v1⟩ := span_parts J2.out
        have e1 : mean - S = R1 := by rw [HS2.out]; exact HR.out.1
        have e2 : mean + S = R2 := by rw [HS2.out]; exact HR.out.2
        clear ht HS
        go_wp2
        have hR := fun x y => span_res2 J2.out x y
        refine bodyPost_ret (v := .tuple #[.agg #[.int .i64 (mean - S), .int .i64 (mean + S)], .int .i64 0]) (by simp [results, Try.results20, go_sem, hR, e1, e2]) rfl ⟨by rw [e1, e2], ?_⟩
        have JBo := JB.out
        exact (by repeat (first | exact Below.refl _ _ | assumption | refine Below.drew ?_ | refine Below.drewN' ?_ _ | (refine Below.alloc ?_ (by simp <;> omega) _) | (refine Below.setCell ?_ (by simp <;> omega) _)))
  · have HR : Hid (R1 = 0 ∧ R2 = 0) := by
      have h := HRV.out
      rw [if_neg h0] at h
      injection h with h1 h2
      exact ⟨h1.symm, h2.symm⟩
    obtain ⟨rfl, rfl⟩ := HR.out
    have h0' : (E == 0) = false := beq_eq_false_iff_ne.2 h0
    obtain ⟨t0, t1, v0, v1⟩ := span_parts J2.out
    go_wp2
    have hR := fun x y => span_res2 J2.out x y
    refine bodyPost_ret (v := .tuple #[.agg #[.int .i64 0, .int .i64 0], .int .i64 E]) (by simp [results, Try.results20, go_sem, hR]) rfl ⟨rfl, ?_⟩
    have JBo := JB.out
    exact (by repeat (first | exact Below.refl _ _ | assumption | refine Below.drew ?_ | refine Below.drewN' ?_ _ | (refine Below.alloc ?_ (by simp <;> omega) _) | (refine Below.setCell ?_ (by simp <;> omega) _)))
end Go.Proofs.Ytfblpokjbopagaa
