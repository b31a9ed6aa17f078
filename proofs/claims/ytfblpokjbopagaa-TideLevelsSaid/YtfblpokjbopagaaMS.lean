/-
  Layer 2: models that the laws make out of numbers.
-/
import Derived.Test.YtfblpokjbopagaaMO
import Derived.Test.YtfblpokjbopagaaMG
import Derived.Maps.AppendAt
import Derived.Test.YtfblpokjbopagaaMP
set_option linter.unusedSimpArgs false
set_option linter.unusedVariables false
namespace Go.Proofs.Ytfblpokjbopagaa
open Go.RowKit

/-- rows of triples of numbers of 32 bits -/
def tripCells (l : List Prt) : List Value := l.flatMap fun s => [.int .u32 s.1, .int .u32 s.2.1, .int .u32 s.2.2]
def TripsAt (w : World) (B : Nat) (v : Value) (l : List Prt) : Prop := Reads w B 3 v l.length (tripCells l)
theorem tripCells_get (l : List Prt) (k : Nat) (h : k < l.length) : (tripCells l)[k * 3]? = some (.int .u32 l[k].1) ∧ (tripCells l)[k * 3 + 1]? = some (.int .u32 l[k].2.1) ∧ (tripCells l)[k * 3 + 2]? = some (.int .u32 l[k].2.2) := by
  induction l generalizing k with
  | nil => simp at h
  | cons s l ih =>
    cases k with
    | zero => simp [tripCells]
    | succ k =>
      have := ih k (by simpa using h)
      have e1 : (k + 1) * 3 = k * 3 + 3 := by omega
      simp only [tripCells, List.flatMap_cons, List.cons_append, List.nil_append, List.getElem_cons_succ] at this ⊢
      rw [e1]
      exact ⟨by simpa using this.1, by simpa using this.2.1, by simpa using this.2.2⟩
theorem TripsAt.open_ {w : World} {B : Nat} {v : Value} {l : List Prt} (h : TripsAt w B v l) : ∃ A c, v = .slice A l.length c ∧ l.length ≤ c ∧ l.length ≤ 9223372036854775807 := by
  obtain ⟨_, h2, A, c, h3, h4, _⟩ := h
  exact ⟨A, c, h3, h4, h2⟩
theorem TripsAt.at_ {w : World} {B : Nat} {l : List Prt} {A : Option Addr} {n c : Nat} (h : TripsAt w B (.slice A n c) l) {k : Nat} (hk : k < l.length) :
    ∃ b off, A = some ⟨b, off, none⟩ ∧ b < B ∧ w.cell? ⟨b, off + k * 3, none⟩ = some (.int .u32 l[k].1) ∧ w.cell? ⟨b, off + k * 3 + 1, none⟩ = some (.int .u32 l[k].2.1) ∧ w.cell? ⟨b, off + k * 3 + 2, none⟩ = some (.int .u32 l[k].2.2) := by
  obtain ⟨h1, _, A', c', h3, h4, h5⟩ := h
  injection h3 with a b d
  subst a
  obtain ⟨b, off, e, hb, hc⟩ := h5 (by omega)
  obtain ⟨g1, g2, g3⟩ := tripCells_get l k hk
  exact ⟨b, off, e, hb, hc _ _ g1, hc _ _ g2, hc _ _ g3⟩
def u32Ok (p : Prt) : Prop := (0 ≤ p.1 ∧ p.1 ≤ 4294967295) ∧ (0 ≤ p.2.1 ∧ p.2.1 ≤ 4294967295) ∧ (0 ≤ p.2.2 ∧ p.2.2 ≤ 4294967295)
def prtOf (p : Prt) : Prt := (p.1 % 1001, 1 + p.2.1 % 1000000000, p.2.2 % 3600)
def madeZ (mean : Int) (l : List Prt) : Md := ⟨mean.tmod 5000, l.map prtOf⟩
theorem made_ok {mean : Int} {l : List Prt} (hl : l.length ≤ 16) : mdE (madeZ mean l) = 0 := by
  have h1 := Int.tmod_lt_of_pos mean (show (0 : Int) < 5000 by omega)
  have h2 := Int.lt_tmod_of_pos mean (show (0 : Int) < 5000 by omega)
  have h3 : (l.map prtOf).all partOk = true := by
    rw [List.all_eq_true]
    intro p hp
    obtain ⟨q, -, rfl⟩ := List.mem_map.1 hp
    unfold partOk prtOf
    exact decide_eq_true (by simp only; omega)
  unfold mdE madeZ
  simp only [List.length_map]
  rw [if_pos (by omega), if_pos hl, if_pos h3]
theorem cells_three_new (w : World) (a b c : Value) (t : TypeId) {n : Nat} (hn : n = w.heap.size) : ∀ j u, [a, b, c][j]? = some u → (w.alloc (.cells #[a, b, c] t)).cell? ((⟨n, 0, none⟩ : Addr).add j) = some u := by
  subst hn
  intro j u hj
  match j, hj with
  | 0, hj => simp at hj; subst hj; simp [Addr.add]
  | 1, hj => simp at hj; subst hj; simp [Addr.add]
  | 2, hj => simp at hj; subst hj; simp [Addr.add]
set_option maxRecDepth 100000 in
set_option maxHeartbeats 4000000 in
theorem made_any (mean : Int) (v : Value) (l : List Prt) (w : World) (hv : TripsAt w w.heap.size v l) (hr : ∀ p, p ∈ l → u32Ok p) (hl : l.length ≤ 16) (hm : -32768 ≤ mean ∧ mean ≤ 32767) :
    Calls Try.prog 35 #[.int .i16 mean, v] w fun e w' => ∃ y, e = .returned (.agg #[.int .i64 (mean.tmod 5000), y]) ∧ w'.ownsRow w.heap.size 70 3 y l.length (prtCells (l.map prtOf)) ∧ Below w.heap.size w w' := by
  have HV := Lib.hid hv
  have HR := Lib.hid hr
  obtain ⟨A, c, rfl, hc, -⟩ := hv.open_
  obtain ⟨i0, hi0, hz0, hz1, hz2⟩ := info_parts part_info
  have HI := Lib.hid (And.intro hi0 (And.intro hz0 (And.intro hz1 hz2)))
  have e0 : IntKind.i64.wrap mean = mean := IntWalk.i64_in _ (by omega)
  have h1 := Int.tmod_lt_of_pos mean (show (0 : Int) < 5000 by omega)
  have h2 := Int.lt_tmod_of_pos mean (show (0 : Int) < 5000 by omega)
  have hli : (l.length : Int) ≤ 16 := by omega
  obtain ⟨M, hM⟩ : ∃ z, mean.tmod 5000 = z := ⟨_, rfl⟩
  rw [hM] at h1 h2 ⊢
  clear hv hr hi0 hz0 hz1 hz2
  go_enter Try.func35, Try.ntmps35
  go_upto_region 2 with (fail)
  obtain ⟨V0, hV⟩ : ∃ V, (w.alloc (.cells #[.int .i64 0, .slice none 0 0] 35)).alloc (.cells #[.int .i64 M, .slice none 0 0] 35) = V := ⟨_, rfl⟩
  have K4 : Hid (Blk V0 w.heap.size 35 #[.int .i64 0, .slice none 0 0]) := by rw [← hV]; exact (Blk.new' _ _ _ rfl).alloc _
  have K5 : Hid (Blk V0 (w.heap.size + 1) 35 #[.int .i64 M, .slice none 0 0]) := by rw [← hV]; exact Blk.new' _ _ _ (by simp)
  have KB : Hid (Below w.heap.size w V0) := by rw [← hV]; exact (by repeat (first | exact Below.refl _ _ | assumption | refine Below.drew ?_ | refine Below.drewN' ?_ _ | (refine Below.alloc ?_ (by simp <;> omega) _) | (refine Below.setCell ?_ (by simp <;> omega) _)))
  rw [hV]
  clear hV
  have hMM := Lib.hid hM
  clear hM
  obtain ⟨b5, h5⟩ : ∃ b, w.heap.size + 1 = b := ⟨_, rfl⟩
  have g5 : w.heap.size ≤ b5 := by omega
  have n45 : ¬ w.heap.size = b5 := by omega
  rw [h5] at K5 ⊢
  clear h5
  go_wp2_with fail
  go_loopw [14] (fun j wr => ∃ (k : Nat) (u : Value), k ≤ l.length ∧ j = .int .i64 k ∧ Hid (Blk wr b5 35 #[.int .i64 M, u]) ∧ Hid (Blk wr w.heap.size 35 #[.int .i64 0, .slice none 0 0]) ∧ Hid (wr.ownsRow w.heap.size 70 3 u k (prtCells ((l.map prtOf).take k))) ∧ Hid (Below w.heap.size w wr)) (fun j wr => l.length - (intOf j).toNat)
  case atStart => exact ⟨0, _, by omega, rfl, K5.out, K4.out, World.ownsRow_nil _ _ _ _, KB.out⟩
  case round =>
    clear K4 K5 KB
    obtain ⟨k, u, hk, rfl, H5, H4, HO, HB⟩ := hrel
    have y0 := H5.out.cell 0
    have y1 := H5.out.cell 1
    have y2 := H5.out.frozen 1
    simp only [List.getElem?_toArray, List.getElem?_cons_zero, List.getElem?_cons_succ] at y0 y1
    by_cases hlt : k < l.length
    · have hk0 : (0 : Int) ≤ (k : Int) := by omega
      have hk1 : (k : Int) < (l.length : Int) := by omega
      obtain ⟨b, o, rfl, hb, f0, f1, f2⟩ := TripsAt.at_ (Reads.below HV.out HB.out) hlt
      obtain ⟨⟨r0, r1⟩, ⟨r2, r3⟩, ⟨r4, r5⟩⟩ := HR.out l[k] (List.getElem_mem hlt)
      have HN : Hid ((l.map prtOf).take (k + 1) = (l.map prtOf).take k ++ [prtOf l[k]]) := by
        rw [Hid, List.take_succ_eq_append_getElem (by rw [List.length_map]; exact hlt), List.getElem_map]
      generalize l[k] = p at *
      obtain ⟨p0, p1, p2⟩ := p
      simp only at f0 f1 f2 r0 r1 r2 r3 r4 r5
      have HQ : Hid (prtOf (p0, p1, p2) = (p0.tmod 1001, 1 + p1.tmod 1000000000, p2.tmod 3600)) := by
        unfold prtOf Hid
        rw [Int.tmod_eq_emod_of_nonneg r0, Int.tmod_eq_emod_of_nonneg r2, Int.tmod_eq_emod_of_nonneg r4]
      have s0 := Int.tmod_lt_of_pos p0 (show (0 : Int) < 1001 by omega)
      have s1 := Int.tmod_nonneg 1001 r0
      have s2 := Int.tmod_lt_of_pos p1 (show (0 : Int) < 1000000000 by omega)
      have s3 := Int.tmod_nonneg 1000000000 r2
      have s4 := Int.tmod_lt_of_pos p2 (show (0 : Int) < 3600 by omega)
      have s5 := Int.tmod_nonneg 3600 r4
      obtain ⟨q0, hq0⟩ : ∃ q, p0.tmod 1001 = q := ⟨_, rfl⟩
      obtain ⟨q1, hq1⟩ : ∃ q, p1.tmod 1000000000 = q := ⟨_, rfl⟩
      obtain ⟨q2, hq2⟩ : ∃ q, p2.tmod 3600 = q := ⟨_, rfl⟩
      rw [hq0] at HQ s0 s1
      rw [hq1] at HQ s2 s3
      rw [hq2] at HQ s4 s5
      have x0 : IntKind.u32.wrap q0 = q0 := by rw [IntKind.wrap_u32]; omega
      have x1 : IntKind.u32.wrap q1 = q1 := by rw [IntKind.wrap_u32]; omega
      have x2 : IntKind.u32.wrap q2 = q2 := by rw [IntKind.wrap_u32]; omega
      have x3 : IntKind.i64.wrap q0 = q0 := IntWalk.i64_in _ (by omega)
      have x4 : IntKind.i64.wrap q1 = q1 := IntWalk.i64_in _ (by omega)
      have x5 : IntKind.i64.wrap q2 = q2 := IntWalk.i64_in _ (by omega)
      have x6 : IntKind.i64.wrap (1 + q1) = 1 + q1 := IntWalk.i64_in _ (by omega)
      have hbl : b < wr.heap.size := by have := HB.out.size; omega
      have hn5 := own_blk_ne HO.out H5.out (by decide)
      have hn4 := own_blk_ne HO.out H4.out (by decide)
      have hsz := HB.out.size
      have l5 := H5.out.lt
      obtain ⟨hi0, hz0, hz1, hz2⟩ := HI.out
      go_wp2_with (at_builtin; (refine wpList_append_own _ rfl _ _ 33 rfl w.heap.size 70 i0 (.agg #[.int .i64 0, .int .i64 0, .int .i64 0]) 3 24 Try.underlying33 hi0 hz0 hz1 hz2 rfl (by decide) u k _ rfl ((HO.out.alloc _).alloc _) ⟨wr.heap.size + 1, 0, none⟩ 1 1 [.int .i64 q0, .int .i64 (1 + q1), .int .i64 q2] rfl rfl (cells_three_new _ _ _ _ _ (by simp)) (by simp [Value.oneCell']) (by unfold maxLen; omega) (by omega) (by simp <;> omega) ?_; intro v1 w8 hown1 hg1 _; have hb5 := blk_grown ((H5.out.alloc _).alloc _) hg1 (fun e => hn5 e.symm); have hb4 := blk_grown ((H4.out.alloc _).alloc _) hg1 (fun e => hn4 e.symm); have hbw : Below w.heap.size w w8 := ((HB.out.alloc hsz _).alloc (by simp; omega) _).grown hg1 (by simp; omega) (fun k e => (HO.out.lt k e).1); obtain ⟨g', cap', rfl⟩ := own_some hown1 (Nat.succ_pos _); have z0 := hb5.cell 0; have z1 := hb5.cell 1; have z2 := hb5.frozen 1; simp only [List.getElem?_toArray, List.getElem?_cons_zero, List.getElem?_cons_succ] at z0 z1; have P1 := Lib.hid hb5; have P2 := Lib.hid hb4; have P3 := Lib.hid hown1; have P4 := Lib.hid hbw; clear hb5 hb4 hown1 hg1 hbw y0 y1 y2 f0 f1 f2))
      have n5' : (Value.slice (some ⟨g', 0, none⟩) (k + 1) cap').ownBlock ≠ some b5 := own_blk_ne P3.out P1.out (by decide)
      have HN2 : Hid ((l.map prtOf).take (k + 1) = (l.map prtOf).take k ++ [(q0, 1 + q1, q2)]) := by rw [Hid, HN.out, HQ.out]
      go_roundw
      case rel => exact ⟨k + 1, _, by omega, by go_num, P1.out.set_ 1 _, P2.out.far_ (p := ⟨b5, 1, none⟩) (by exact n45) _, own_set (by rw [HN2.out, prtCells_append]; exact P3.out) (p := ⟨b5, 1, none⟩) n5' _, P4.out.setCell (p := ⟨b5, 1, none⟩) g5 _⟩
      case measure => simp [intOf]; omega
    · obtain rfl : k = l.length := by omega
      have ht : (l.map prtOf).take l.length = l.map prtOf := by rw [← List.length_map (f := prtOf), List.take_length]
      have hu : ∃ A' n' c', u = .slice A' n' c' := by
        rcases HO.out.2 with ⟨rfl, _⟩ | ⟨g, cap, cur, rfl, _⟩
        · exact ⟨_, _, _, rfl⟩
        · exact ⟨_, _, _, rfl⟩
      obtain ⟨A', n', c', rfl⟩ := hu
      obtain ⟨t0, t1⟩ : wr.cell? ⟨w.heap.size, 0, none⟩ = some (.int .i64 0) ∧ wr.cell? ⟨w.heap.size, 1, none⟩ = some (.slice none 0 0) := ⟨H4.out.cell 0, H4.out.cell 1⟩
      have v0 := H4.out.frozen 0
      have v1 := H4.out.frozen 1
      have hn4 := own_blk_ne HO.out H4.out (by decide)
      rw [ht] at HO
      have hR := fun x y => span_res2 H4.out x y
      clear ht
      go_wp2
      refine bodyPost_ret (v := .agg #[.int .i64 M, .slice A' n' c']) (by simp [results, Try.results35, go_sem, hR]) rfl ⟨_, rfl, ?_, ?_⟩
      · exact own_set (own_set HO.out (p := ⟨w.heap.size, 0, none⟩) hn4 _) (p := ⟨w.heap.size, 1, none⟩) hn4 _
      · exact (HB.out.setCell (p := ⟨w.heap.size, 0, none⟩) (Nat.le_refl _) _).setCell (p := ⟨w.heap.size, 1, none⟩) (Nat.le_refl _) _
end Go.Proofs.Ytfblpokjbopagaa
/-
  Layer 2: calls of the program with a model that is valid.
-/
namespace Go.Proofs.Ytfblpokjbopagaa
open Go.RowKit

theorem lev_ok (x : Value) (m : Md) (lo hi : Int) (w : World) (hm : MdAt w w.heap.size x m) (h0 : mdE m = 0) (ht : 0 ≤ lo ∧ lo ≤ hi ∧ hi ≤ 1000000000) :
    Calls Try.prog 17 #[x, .agg #[.int .i64 lo, .int .i64 hi]] w fun e w' => e = .returned (.tuple #[.agg #[.int .i64 (levelZ m (lo, hi)).1, .int .i64 (levelZ m (lo, hi)).2], .int .i64 0]) ∧ Below w.heap.size w w' := by
  have e1 : levE m (lo, hi) = 0 := by unfold levE; rw [if_pos h0]; exact if_pos ⟨ht.2.1, ht.1, ht.2.2⟩
  have e2 : levV m (lo, hi) = levelZ m (lo, hi) := by unfold levV; exact if_pos e1
  have h := tLevel_any x m lo hi w hm
  rw [e1, e2] at h
  exact h
theorem rng_ok (x : Value) (m : Md) (w : World) (hm : MdAt w w.heap.size x m) (h0 : mdE m = 0) :
    Calls Try.prog 19 #[x] w fun e w' => e = .returned (.tuple #[.agg #[.int .i64 (rangeZ m).1, .int .i64 (rangeZ m).2], .int .i64 0]) ∧ Below w.heap.size w w' := by
  have h := tRange_any x m w hm
  have e2 : rngV m = rangeZ m := by unfold rngV; exact if_pos h0
  rw [h0, e2] at h
  exact h
theorem pcsE_ok {m : Md} {lo hi s : Int} (h0 : mdE m = 0) (ht : 0 ≤ lo ∧ lo ≤ hi ∧ hi ≤ 1000000000) (hs : 1 ≤ s) (hn : nPc (lo, hi) s ≤ 10000) : pcsE m (lo, hi) s = 0 := by
  have e1 : levE m (lo, hi) = 0 := by unfold levE; rw [if_pos h0]; exact if_pos ⟨ht.2.1, ht.1, ht.2.2⟩
  unfold pcsE
  rw [if_pos e1, if_neg (by omega), if_neg (by omega)]
theorem peak_ok (x : Value) (m : Md) (lo hi s : Int) (w : World) (hm : MdAt w w.heap.size x m) (h0 : mdE m = 0) (ht : 0 ≤ lo ∧ lo ≤ hi ∧ hi ≤ 1000000000) (hs : 1 ≤ s ∧ s ≤ 9223372036854775807) (hn : nPc (lo, hi) s ≤ 10000) :
    Calls Try.prog 24 #[x, .agg #[.int .i64 lo, .int .i64 hi], .int .i64 s] w fun e w' => e = .returned (.tuple #[.agg #[.int .i64 (peakZ m (lo, hi) s).1, .int .i64 (peakZ m (lo, hi) s).2], .int .i64 0]) ∧ Below w.heap.size w w' := by
  have e1 := pcsE_ok h0 ht hs.1 hn
  have e2 : pkV m (lo, hi) s = peakZ m (lo, hi) s := by unfold pkV; exact if_pos e1
  have h := tPeak_any x m lo hi s w hm (by omega)
  rw [e1, e2] at h
  exact h
theorem win_ok (x : Value) (m : Md) (lo hi s v : Int) (w : World) (hm : MdAt w w.heap.size x m) (h0 : mdE m = 0) (ht : 0 ≤ lo ∧ lo ≤ hi ∧ hi ≤ 1000000000) (hs : 1 ≤ s ∧ s ≤ 9223372036854775807) (hn : nPc (lo, hi) s ≤ 10000) (hv : -20000 ≤ v ∧ v ≤ 20000) :
    Calls Try.prog 26 #[x, .agg #[.int .i64 lo, .int .i64 hi], .int .i64 s, .int .i64 v] w fun e w' => ∃ y, e = .returned (.tuple #[y, .int .i64 0]) ∧ SpansAt w' w'.heap.size y (winZ m (lo, hi) s v) ∧ Below w.heap.size w w' := by
  have e1 : winE m (lo, hi) s v = 0 := by unfold winE; rw [if_pos (pcsE_ok h0 ht hs.1 hn)]; exact if_pos hv
  have e2 : winV m (lo, hi) s v = winZ m (lo, hi) s v := by unfold winV; exact if_pos e1
  have h := tWindows_any x m lo hi s v w hm (by omega)
  rw [e1, e2] at h
  exact h
theorem join_ok2 (va vb : Value) (a b : Md) (w : World) (ha : PrtsAt w w.heap.size va a.ps) (hb : PrtsAt w w.heap.size vb b.ps) (sa : Sound va) (sb : Sound vb) (h0 : mdE a = 0) (h1 : mdE b = 0) (hm : -10000 ≤ a.mean + b.mean ∧ a.mean + b.mean ≤ 10000) (hl : a.ps.length + b.ps.length ≤ 16) :
    Calls Try.prog 21 #[.agg #[.int .i64 a.mean, va], .agg #[.int .i64 b.mean, vb]] w fun e w' => ∃ y, e = .returned (.tuple #[.agg #[.int .i64 (a.mean + b.mean), y], .int .i64 0]) ∧ PrtsAt w' w'.heap.size y (a.ps ++ b.ps) ∧ Below w.heap.size w w' := by
  have e1 : joinE a b = 0 := (joinE_eq h0 h1).trans ((if_pos hm).trans (if_pos hl))
  have e2 : joinV a b = joinZ a b := by unfold joinV; exact if_pos e1
  refine (tJoin_any va vb a b w ha hb sa sb).mono ?_
  rintro e w' ⟨y, rfl, hp, -, hb⟩
  rw [e2] at hp ⊢
  rw [e1]
  exact ⟨y, rfl, hp, hb⟩
theorem nPc_le {D d : Int} {n : Nat} {lo hi : Int} (hD : hi - lo = D) (hd : 0 < d) (hn : 1 ≤ n) (h : D ≤ n * d) : nPc (lo, hi) d ≤ n := by
  have hr := (up_rng (d := D) hd).2
  have e : nPc (lo, hi) d = max 1 (upZ (hi - lo) d).toNat := rfl
  rw [hD] at e
  rcases Int.lt_or_le (n : Int) (upZ D d) with g | g
  · have := Int.mul_le_mul_of_nonneg_right (show (n : Int) ≤ upZ D d - 1 by omega) (show 0 ≤ d by omega)
    omega
  · omega
theorem sumF_const (c : Int) (ps : List Prt) : sumF (fun _ => c) ps = c * ps.length := by
  induction ps with
  | nil => simp [sumF]
  | cons p ps ih =>
    have e : sumF (fun _ => c) (p :: ps) = c + sumF (fun _ => c) ps := rfl
    rw [e, ih, List.length_cons, Int.natCast_add, Int.mul_add, Int.natCast_one, Int.mul_one, Int.add_comm]
theorem rng_bd {m : Md} (h0 : mdE m = 0) : -26000 ≤ (rangeZ m).1 ∧ (rangeZ m).2 ≤ 26000 := by
  obtain ⟨h1, h2, h3⟩ := mdE_zero h0
  have h4 : sumF ampP m.ps ≤ sumF (fun _ => 1000) m.ps := sumF_le fun p hp => (part_of (List.all_eq_true.1 h3 p hp)).2.1
  rw [sumF_const] at h4
  unfold rangeZ
  simp only
  omega
theorem lev_bd {m : Md} (h0 : mdE m = 0) {t : Int × Int} (ht : t.1 ≤ t.2) : -26000 ≤ (levelZ m t).1 ∧ (levelZ m t).1 ≤ (levelZ m t).2 ∧ (levelZ m t).2 ≤ 26000 := by
  have h1 := rng_bd h0
  have h2 := level_range (mdE_zero h0).2.2 ht
  omega
/-- one new box of two integers -/
def OneB (W0 : World) (t : Nat) (x y : Int) (p : Value) (W : World) : Prop := ∃ b : Nat, p = .pointer (some ⟨b, 0, none⟩) ∧ Blk W b t #[.int .i64 x, .int .i64 y] ∧ W0.heap.size ≤ b ∧ Below W0.heap.size W0 W
theorem oneB_set {V0 W0 W : World} {t b : Nat} {x y : Int} {u0 u1 : Value} (hb : Blk W b t #[u0, u1]) (gb : W0.heap.size ≤ b) (h : Below W0.heap.size W0 W) (h0 : Below V0.heap.size V0 W0) :
    OneB V0 t x y (.pointer (some ⟨b, 0, none⟩)) ((W.setCell ⟨b, 0, none⟩ (.int .i64 x)).setCell ⟨b, 1, none⟩ (.int .i64 y)) :=
  ⟨b, rfl, (hb.set_ 0 (.int .i64 x)).set_ 1 (.int .i64 y), Nat.le_trans h0.size gb, h0.trans ((((h.setCell (p := ⟨b, 0, none⟩) gb _).setCell (p := ⟨b, 1, none⟩) gb _)).mono h0.size)⟩
end Go.Proofs.Ytfblpokjbopagaa
