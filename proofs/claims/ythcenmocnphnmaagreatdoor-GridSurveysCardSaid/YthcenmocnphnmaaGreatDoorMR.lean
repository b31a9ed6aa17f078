/-
  The reference: Sills.
-/
import Derived.Test.YthcenmocnphnmaaGreatDoorMQ
set_option linter.unusedSimpArgs false
set_option linter.unusedVariables false
namespace Go.Proofs.YthcenmocnphnmaaGreatDoor
open Go.RowKit Go.Shelf

theorem ends_get {b : Bool} {g : G} {c : Nat} (h : c < g.ss.length) : val (ends b g.ss) c = if b then hiF g.ss c else loF g.ss c := by
  rw [val_eq (by unfold ends; simpa using h)]
  unfold ends
  rw [List.getElem_map]
  cases b
  · exact (loF_eq h).symm
  · exact (hiF_eq h).symm
theorem ends_len (b : Bool) (g : G) : (ends b g.ss).length = g.ss.length := by unfold ends; simp
theorem ends_bd {b : Bool} {g : G} (V : Valid g) : ∀ c, c < g.ss.length → -1200000 ≤ val (ends b g.ss) c ∧ val (ends b g.ss) c ≤ 1200000 := by
  intro c hc
  rw [ends_get hc]
  have := ok_of V hc
  cases b <;> simp <;> omega
theorem Relaxed.congr_ht {g : G} (V : Valid g) {ht ht' : Nat → Int} {sts : List Nat} {a : Int} {out : List Int} (hst : ∀ c, c ∈ sts → c < g.ss.length) (he : ∀ c, c < g.ss.length → ht c = ht' c) (h : Relaxed g ht sts a out) : Relaxed g ht' sts a out := by
  have key : ∀ {h1 h2 : Nat → Int}, (∀ c, c < g.ss.length → h1 c = h2 c) → ∀ c v, WayW g h1 sts a c v → WayW g h2 sts a c v := by
    intro h1 h2 e c v hw
    induction hw with
    | start hc =>
      rw [e _ (hst _ (List.mem_filter.1 hc).1)]
      exact Way.start hc
    | step hw hd ih =>
      rw [e _ (near_lt V (WayW.lt V hst hw) (List.mem_filter.1 hd).1)]
      exact Way.step ih hd
  exact ⟨h.len, fun c hc => (h.way c hc).imp id (key he c _), fun c v hw => h.le c v (key (fun c hc => (he c hc).symm) c v hw)⟩

/-- what Sills finds, by whichever way -/
def SillB (g : G) (sts : List Nat) (ss : List (Int × Int)) : Prop := ∃ lo hi, Relaxed g (hgt g fun s => s.1) sts (-1) lo ∧ Relaxed g (hgt g fun s => s.2) sts (-1) hi ∧ ss = lo.zip hi
theorem SillB.eq {g : G} (V : Valid g) {sts : List Nat} {ss tt : List (Int × Int)} (hne : sts ≠ []) (hst : ∀ c, c ∈ sts → c < g.ss.length) (h : SillB g sts ss) (k : Sillz g sts tt) : ss = tt := by
  obtain ⟨lo, hi, h1, h2, rfl⟩ := h
  obtain ⟨lo', hi', k1, k2, rfl⟩ := k
  rw [h1.sills V (.inl ⟨rfl, rfl⟩) hne hst k1, h2.sills V (.inr ⟨rfl, rfl⟩) hne hst k2]
theorem SillB.length {g : G} {sts : List Nat} {ss : List (Int × Int)} (h : SillB g sts ss) : ss.length = g.ss.length := by
  obtain ⟨lo, hi, h1, h2, rfl⟩ := h
  have e1 := h1.len
  have e2 := h2.len
  simp [e1, e2]
def RSillsOut (g : G) (l : List Int) (w : World) (e : Ending) (w' : World) : Prop := ∃ v ss, e = .returned (.tuple #[v, .int .i64 (seaE g l)]) ∧ SpansAt w' w'.heap.size v ss ∧ Below w.heap.size w w' ∧
  ((seaE g l ≠ 0 ∧ ss = []) ∨ (seaE g l = 0 ∧ ∃ sts, l = sts.map (fun (c : Nat) => (c : Int)) ∧ SillB g sts ss))
theorem spans_own {w : World} {base : Nat} {v : Value} {n : Nat} {ss : List (Int × Int)} (h : w.ownsRow base 34 2 v n (spanCells ss)) (hn : n = ss.length) : SpansAt w w.heap.size v ss := by
  subst hn
  exact Reads.of_own h

theorem spans_step {w0 W w1 : World} {B n : Nat} {v v1 : Value} {l : List (Int × Int)} {x : Int × Int} {o : Obj} (ho : W.ownsRow B 34 2 v n (spanCells l)) (hb : Below B w0 W) (hB : B ≤ W.heap.size) (hown1 : w1.ownsRow B 34 2 v1 (n + 1) (spanCells l ++ [.int .i64 x.1, .int .i64 x.2])) (hg1 : (W.alloc o).grownBy w1 v.ownBlock) :
    Hid (w1.ownsRow B 34 2 v1 (n + 1) (spanCells (l ++ [x]))) ∧ Hid (Below B w0 w1) ∧ B ≤ w1.heap.size :=
  ⟨by rw [spanCells_append]; exact hown1, (hb.alloc hB o).grown hg1 (by simp; omega) (fun k e => (ho.lt k e).1), Nat.le_trans (by simp; omega) hg1.size⟩
theorem cells_two_new (w : World) (x y : Value) (t : TypeId) {n : Nat} (h : n = w.heap.size) : ∀ j u, [x, y][j]? = some u → (w.alloc (.cells #[x, y] t)).cell? ((⟨n, 0, none⟩ : Addr).add j) = some u := by
  subst h
  intro j u hu
  have e1 : (⟨w.heap.size, 0, none⟩ : Addr).add j = ⟨w.heap.size, 0 + j, none⟩ := by unfold Addr.add; split <;> simp_all
  rw [e1, Nat.zero_add]
  have h := (Blk.new w t #[x, y]).cell j
  rw [h, List.getElem?_toArray]
  exact hu

def SilR (g : G) (sts : List Nat) (w1 : World) (a b : Value) (wx : World) : Prop := ∃ A2 c2 A3 c3 lo hi, a = .slice A2 g.ss.length c2 ∧ b = .slice A3 g.ss.length c3 ∧ IntsAt wx wx.heap.size (.slice A2 g.ss.length c2) lo ∧ IntsAt wx wx.heap.size (.slice A3 g.ss.length c3) hi ∧ Relaxed g (hgt g fun s => s.1) sts (-1) lo ∧ Relaxed g (hgt g fun s => s.2) sts (-1) hi ∧ Below w1.heap.size w1 wx
set_option maxRecDepth 100000 in
set_option maxHeartbeats 4000000 in
theorem rSills_any (x y : Value) (g : G) (l : List Int) (w : World) (hg : GridAt w w.heap.size x g) (hy : IntsAt w w.heap.size y l) :
    Calls Tryz.prog 21 #[x, y] w (RSillsOut g l w) := by
  have HG := Lib.hid hg
  obtain ⟨v, rfl, hs⟩ := hg
  obtain ⟨A, k, rfl, hk, hm⟩ := hs.open_
  have HY := Lib.hid hy
  obtain ⟨A', k', rfl, hk', hm'⟩ := hy.open_
  have hB : Below w.heap.size w (w.alloc (.cells #[.int .i64 g.W, .int .i64 g.H, .int .i64 g.S, .slice A g.ss.length k] 24)) := (by repeat (first | exact Below.refl _ _ | assumption | refine Below.drew ?_ | refine Below.drewN' ?_ _ | (refine Below.alloc ?_ (by simp <;> omega) _) | (refine Below.setCell ?_ (by simp <;> omega) _)))
  have HB := Lib.hid hB
  have b0 : Blk (w.alloc (.cells #[.int .i64 g.W, .int .i64 g.H, .int .i64 g.S, .slice A g.ss.length k] 24)) w.heap.size 24 #[.int .i64 g.W, .int .i64 g.H, .int .i64 g.S, .slice A g.ss.length k] := Blk.new' _ _ _ rfl
  have HBB := Lib.hid b0
  clear hs hy hB b0
  go_enter Tryz.func21, Tryz.ntmps21
  go_wp2_with fail
  refine (rsea_any _ _ g l _ (HG.out.later HB.out (Nat.le_refl _)) (HY.out.later HB.out (Nat.le_refl _))).mono ?_
  rintro e w1 ⟨rfl, hb1⟩
  have HB1 := Lib.hid (HB.out.trans (hb1.mono HB.out.size))
  have HBB1 := Lib.hid (HBB.out.below hb1 (by simp))
  clear hb1
  by_cases h0 : seaE g l = 0
  case neg =>
    have H0 := Lib.hid h0
    have hb : (seaE g l != 0) = true := by simpa using h0
    clear h0
    go_wp2
    go_ret2
    exact ⟨_, [], rfl, spans_nil _ _, HB1.out, .inl ⟨H0.out, rfl⟩⟩
  have H0 := Lib.hid h0
  have hb : (seaE g l != 0) = false := by simpa using h0
  obtain ⟨hck, sts, el, hne, hst⟩ := sea_nat h0
  have V := valid_of hck
  have HV := Lib.hid V
  have hsm := V.small
  have Hst := Lib.hid hst
  have Hel := Lib.hid el
  have hll : l.length = sts.length := by rw [el, List.length_map]
  obtain ⟨d0, d1, d2, d3⟩ := grid_parts HBB1.out
  clear h0 hck hst V hne el
  obtain ⟨i0, hi0, hz0, hz1, hz2⟩ := info_parts span_info
  have hT : ∀ (b : Bool) (W : World), Below w1.heap.size w1 W → Calls Tryz.prog 61 #[.agg #[.int .i64 g.W, .int .i64 g.H, .int .i64 g.S, .slice A g.ss.length k], .bool b] W (fun e w' => ∃ A1 c1, e = .returned (.slice A1 g.ss.length c1) ∧ Hid (IntsAt w' w'.heap.size (.slice A1 g.ss.length c1) (ends b g.ss)) ∧ Hid (Below W.heap.size W w')) := by
    intro b W hW
    refine (rTerrain_any _ g b W (HG.out.later (HB1.out.trans (hW.mono HB1.out.size)) (Nat.le_refl _)) (by omega)).mono ?_
    rintro e w' ⟨v, rfl, ho, hb⟩
    have h := Reads.of_own ho
    have hi : IntsAt w' w'.heap.size v (ends b g.ss) := by unfold IntsAt; rw [ends_len]; exact h
    obtain ⟨A1, c1, rfl, _, _⟩ := hi.open_
    rw [ends_len] at hi ⊢
    exact ⟨A1, c1, rfl, hi, hb⟩
  have hR : ∀ (b : Bool) (W : World) (A1 : Option Addr) (c1 : Nat), Below w1.heap.size w1 W → IntsAt W W.heap.size (.slice A1 g.ss.length c1) (ends b g.ss) → Calls Tryz.prog 60 #[.agg #[.int .i64 g.W, .int .i64 g.H, .int .i64 g.S, .slice A g.ss.length k], .slice A1 g.ss.length c1, .slice A' sts.length k', .int .i64 (-1)] W (fun e w' => ∃ A2 c2 out, e = .returned (.slice A2 g.ss.length c2) ∧ Hid (IntsAt w' w'.heap.size (.slice A2 g.ss.length c2) out) ∧ Hid (Below W.heap.size W w') ∧ Hid (Relaxed g (hgt g fun s => if b then s.2 else s.1) sts (-1) out)) := by
    intro b W A1 c1 hW hi
    refine (rsills_any _ _ _ g (ends b g.ss) sts (-1) W (HG.out.later (HB1.out.trans (hW.mono HB1.out.size)) (Nat.le_refl _)) hi (by have h := HY.out.later (HB1.out.trans (hW.mono HB1.out.size)) (Nat.le_refl _); rw [Hel.out] at h; rw [List.length_map] at h; exact h) HV.out (ends_len b g) (ends_bd HV.out) Hst.out (by omega) (by omega)).mono ?_
    rintro e w' ⟨v, out, rfl, ho, hb, hr⟩
    obtain ⟨A2, c2, rfl, _, _⟩ := ho.open_
    have hl := hr.len
    rw [hl] at ho ⊢
    refine ⟨A2, c2, out, rfl, ho, hb, hr.congr_ht HV.out Hst.out (fun c hc => ?_)⟩
    rw [ends_get hc, hgt_eq hc, loF_eq hc, hiF_eq hc]
  have HTT := Lib.hid hT
  have HRR := Lib.hid hR
  clear hT hR
  have HC := Lib.hid (Below.drew (Below.refl w1.heap.size w1))
  obtain ⟨e0, e1, e2, e3⟩ := grid_parts (HBB1.out.below HC.out HBB1.out.lt)
  go_upto_region 4 with (fail)
  go_cut [7, 8] from 16 to 26 (fun a b wx => SilR g sts w1 a b wx)
  case first =>
    go_region_held3 (fun w' => w'.cell? ⟨w.heap.size, 0, none⟩ = some (.int .i64 g.W) ∧ w'.cell? ⟨w.heap.size, 1, none⟩ = some (.int .i64 g.H) ∧ w'.cell? ⟨w.heap.size, 2, none⟩ = some (.int .i64 g.S) ∧ w'.cell? ⟨w.heap.size, 3, none⟩ = some (.slice A g.ss.length k))
      (first | assumption | (refine ⟨?_, ?_, ?_, ?_⟩ <;> assumption) | go_keep)
      (first
      | (go_at_call 61; (with_reducible refine (HTT.out false _ HC.out).mono ?_); rintro e Whf ⟨Ahf, chf, rfl, hf0, hb⟩; (try (have hf' := IntsAt.later hf.out hb.out (Nat.le_refl _); clear hf; have hf := Lib.hid hf'; clear hf')); (try (have ht' := IntsAt.later ht.out hb.out (Nat.le_refl _); clear ht; have ht := Lib.hid ht'; clear ht')); (try (have hlo' := IntsAt.later hlo.out hb.out (Nat.le_refl _); clear hlo; have hlo := Lib.hid hlo'; clear hlo')); (try (have hhi' := IntsAt.later hhi.out hb.out (Nat.le_refl _); clear hhi; have hhi := Lib.hid hhi'; clear hhi')); have HC' := Lib.hid (HC.out.trans (hb.out.mono HC.out.size)); clear HC; have HC := HC'; clear HC' e0 e1 e2 e3; obtain ⟨e0, e1, e2, e3⟩ := grid_parts (HBB1.out.below HC.out HBB1.out.lt); have hf := hf0; clear hf0 hb)
      | (go_at_call 61; (with_reducible refine (HTT.out true _ HC.out).mono ?_); rintro e Wht ⟨Aht, cht, rfl, ht0, hb⟩; (try (have hf' := IntsAt.later hf.out hb.out (Nat.le_refl _); clear hf; have hf := Lib.hid hf'; clear hf')); (try (have ht' := IntsAt.later ht.out hb.out (Nat.le_refl _); clear ht; have ht := Lib.hid ht'; clear ht')); (try (have hlo' := IntsAt.later hlo.out hb.out (Nat.le_refl _); clear hlo; have hlo := Lib.hid hlo'; clear hlo')); (try (have hhi' := IntsAt.later hhi.out hb.out (Nat.le_refl _); clear hhi; have hhi := Lib.hid hhi'; clear hhi')); have HC' := Lib.hid (HC.out.trans (hb.out.mono HC.out.size)); clear HC; have HC := HC'; clear HC' e0 e1 e2 e3; obtain ⟨e0, e1, e2, e3⟩ := grid_parts (HBB1.out.below HC.out HBB1.out.lt); have ht := ht0; clear ht0 hb)
      | (go_at_call 60; (with_reducible refine (HRR.out false _ Ahf chf HC.out hf.out).mono ?_); rintro e Whlo ⟨Ahlo, chlo, lhlo, rfl, hlo0, hb, rhlo⟩; (try (have hf' := IntsAt.later hf.out hb.out (Nat.le_refl _); clear hf; have hf := Lib.hid hf'; clear hf')); (try (have ht' := IntsAt.later ht.out hb.out (Nat.le_refl _); clear ht; have ht := Lib.hid ht'; clear ht')); (try (have hlo' := IntsAt.later hlo.out hb.out (Nat.le_refl _); clear hlo; have hlo := Lib.hid hlo'; clear hlo')); (try (have hhi' := IntsAt.later hhi.out hb.out (Nat.le_refl _); clear hhi; have hhi := Lib.hid hhi'; clear hhi')); have HC' := Lib.hid (HC.out.trans (hb.out.mono HC.out.size)); clear HC; have HC := HC'; clear HC' e0 e1 e2 e3; obtain ⟨e0, e1, e2, e3⟩ := grid_parts (HBB1.out.below HC.out HBB1.out.lt); have hlo := hlo0; clear hlo0 hb)
      | (go_at_call 60; (with_reducible refine (HRR.out true _ Aht cht HC.out ht.out).mono ?_); rintro e Whhi ⟨Ahhi, chhi, lhhi, rfl, hhi0, hb, rhhi⟩; (try (have hf' := IntsAt.later hf.out hb.out (Nat.le_refl _); clear hf; have hf := Lib.hid hf'; clear hf')); (try (have ht' := IntsAt.later ht.out hb.out (Nat.le_refl _); clear ht; have ht := Lib.hid ht'; clear ht')); (try (have hlo' := IntsAt.later hlo.out hb.out (Nat.le_refl _); clear hlo; have hlo := Lib.hid hlo'; clear hlo')); (try (have hhi' := IntsAt.later hhi.out hb.out (Nat.le_refl _); clear hhi; have hhi := Lib.hid hhi'; clear hhi')); have HC' := Lib.hid (HC.out.trans (hb.out.mono HC.out.size)); clear HC; have HC := HC'; clear HC' e0 e1 e2 e3; obtain ⟨e0, e1, e2, e3⟩ := grid_parts (HBB1.out.below HC.out HBB1.out.lt); have hhi := hhi0; clear hhi0 hb))
    all_goals
      go_wp2_with fail
      go_meet
      exact ⟨_, _, _, _, _, _, rfl, rfl, hlo.out, hhi.out, rhlo.out, rhhi.out, HC.out⟩
  case rest =>
    obtain ⟨A2, c2, A3, c3, lo, hi, rfl, rfl, h1, h2, r1, r2, hb⟩ := hcut
    have H1 := Lib.hid h1
    have H2 := Lib.hid h2
    have R1 := Lib.hid r1
    have R2 := Lib.hid r2
    have HBc := Lib.hid (HB1.out.trans (hb.mono HB1.out.size))
    have ll : lo.length = g.ss.length := r1.len
    have lh : hi.length = g.ss.length := r2.len
    have Hzl : Hid ((lo.zip hi).length = g.ss.length) := by simp [Hid, ll, lh]
    have Hll := Lib.hid ll
    have Hlh := Lib.hid lh
    clear h1 h2 r1 r2 hb ll lh HC e0 e1 e2 e3
    go_wp2
    go_loopw [9, 10] (fun a i wr => ∃ (q : Nat) (va : Value), va = a ∧ q ≤ g.ss.length ∧ i = .int .i64 q ∧ Hid (wr.ownsRow wc.heap.size 34 2 va q (spanCells ((lo.zip hi).take q))) ∧ Below wc.heap.size wc wr) (fun _ i _ => g.ss.length - (intOf i).toNat)
    case atStart => exact ⟨0, _, rfl, Nat.zero_le _, rfl, World.ownsRow_nil _ _ _ _, Below.refl _ _⟩
    case round =>
      obtain ⟨q, va, rfl, hq, rfl, Hown, hBr⟩ := hrel
      have hsz := hBr.size
      have HBr := Lib.hid hBr
      by_cases hlt : q < g.ss.length
      · have hql : q < lo.length := by have := Hll.out; omega
        have hqh : q < hi.length := by have := Hlh.out; omega
        obtain ⟨b1, o1, rfl, hb1, c4⟩ := (H1.out.below hBr).at_ hql
        obtain ⟨b2, o2, rfl, hb2, c5⟩ := (H2.out.below hBr).at_ hqh
        have Hsn : Hid ((lo.zip hi).take (q + 1) = (lo.zip hi).take q ++ [(lo[q], hi[q])]) := by
          rw [Hid, take_snoc _ _ (by rw [Hzl.out]; exact hlt)]
          simp
        clear hBr
        generalize lo[q] = a at *
        generalize hi[q] = b at *
        have hq0 : (0 : Int) ≤ (q : Int) := by omega
        have hq1 : (q : Int) < g.ss.length := by omega
        go_wp2
        go_region_law
          ((refine step_append_lies _ (by rfl) (.tmp 33) (.tmp 43) _ (by rfl) wc.heap.size 34 i0 _ 2 16 Tryz.underlying22 hi0 hz0 hz1 hz2 rfl (by omega) va q (spanCells ((lo.zip hi).take q)) (by rfl) ((Hown.out.alloc _).drew)
              ⟨wr.heap.size, 0, none⟩ 1 1 [.int .i64 a, .int .i64 b] (by rfl) (by rfl) (World.news_of_block (cs := #[.int .i64 a, .int .i64 b]) (t := 34) (fr := (0, 0)) (by exact heap_alloc_new wr _)) (by simp [Value.oneCell'])
              (by omega) (by unfold maxLen; omega) (by omega) (by simp; omega) (wr.heap.size + 1) (by simp) ?_; intro gg cap' v1 hown1 hgrow hat hltg))
        all_goals
          have H2o : Hid (v1.ownsRow wc.heap.size 34 2 (.slice (some ⟨gg, 0, none⟩) (q + 1) cap') (q + 1) (spanCells ((lo.zip hi).take (q + 1)))) := by
            rw [Hid, Hsn.out, spanCells_append]
            exact hown1
          have H2b : Hid (Below wc.heap.size wc v1) := (Below.drew (HBr.out.alloc (by omega) _)).grown hgrow (by simp; omega) (fun k e => (Hown.out.lt k e).1)
          clear hown1 hgrow hat hltg
          go_wp2
          go_roundw
          case rel => exact ⟨q + 1, _, rfl, by omega, by go_num, H2o.out, H2b.out⟩
          case measure => simp [intOf]; omega
      · have hq' : q = g.ss.length := by omega
        have HF : Hid (wr.ownsRow wc.heap.size 34 2 va g.ss.length (spanCells (lo.zip hi))) := by
          have h := Hown.out
          rw [hq', List.take_of_length_le (by rw [Hzl.out]; omega)] at h
          exact h
        clear hBr hq' Hown
        go_wp2
        go_ret2
        exact ⟨_, lo.zip hi, ret_pair H0.out.symm, spans_own HF.out Hzl.out.symm, HBc.out.trans (HBr.out.mono HBc.out.size), .inr ⟨H0.out, sts, Hel.out, lo, hi, R1.out, R2.out, rfl⟩⟩
end Go.Proofs.YthcenmocnphnmaaGreatDoor
/-
  The reference: Flood.
-/
namespace Go.Proofs.YthcenmocnphnmaaGreatDoor
open Go.RowKit Go.Shelf

theorem TwoRows.drew {w : World} {base e size n m : Nat} {v u : Value} {xs ys : List Value} (h : TwoRows w base e size v u n m xs ys) : TwoRows w.drew base e size v u n m xs ys := ⟨h.a.drew, h.b.drew, h.ne⟩
def RFloodOut (g : G) (l : List Int) (lo hi : Int) (w : World) (e : Ending) (w' : World) : Prop := ∃ v u bs cs, e = .returned (.tuple #[v, u, .int .i64 (floodE g l lo hi)]) ∧ BoolsAt w' w'.heap.size v bs ∧ BoolsAt w' w'.heap.size u cs ∧ Below w.heap.size w w' ∧
  ((floodE g l lo hi ≠ 0 ∧ bs = [] ∧ cs = []) ∨ (floodE g l lo hi = 0 ∧ ∃ sts ss, l = sts.map (fun (c : Nat) => (c : Int)) ∧ SillB g sts ss ∧ bs = ss.map (fun s => decide (s.2 < lo)) ∧ cs = ss.map (fun s => decide (s.1 < hi))))

set_option maxRecDepth 100000 in
set_option maxHeartbeats 8000000 in
theorem rFlood_any (x y : Value) (g : G) (l : List Int) (lo hi : Int) (w : World) (hg : GridAt w w.heap.size x g) (hy : IntsAt w w.heap.size y l) :
    Calls Tryz.prog 24 #[x, y, .agg #[.int .i64 lo, .int .i64 hi]] w (RFloodOut g l lo hi w) := by
  have HG := Lib.hid hg
  obtain ⟨v, rfl, hs⟩ := hg
  obtain ⟨A, k, rfl, hk, hm⟩ := hs.open_
  have HY := Lib.hid hy
  obtain ⟨A', k', rfl, hk', hm'⟩ := hy.open_
  have hB : Below w.heap.size w ((w.alloc (.cells #[.int .i64 g.W, .int .i64 g.H, .int .i64 g.S, .slice A g.ss.length k] 24)).alloc (.cells #[.int .i64 lo, .int .i64 hi] 34)) := (by repeat (first | exact Below.refl _ _ | assumption | refine Below.drew ?_ | refine Below.drewN' ?_ _ | (refine Below.alloc ?_ (by simp <;> omega) _) | (refine Below.setCell ?_ (by simp <;> omega) _)))
  have HB := Lib.hid hB
  have bL : Blk ((w.alloc (.cells #[.int .i64 g.W, .int .i64 g.H, .int .i64 g.S, .slice A g.ss.length k] 24)).alloc (.cells #[.int .i64 lo, .int .i64 hi] 34)) (w.heap.size + 1) 34 #[.int .i64 lo, .int .i64 hi] := Blk.new' _ _ _ (by simp)
  have BL := Lib.hid bL
  clear hs hy hB bL
  obtain ⟨i0, hi0, hz0, hz1, hz2⟩ := info_parts bool_info
  go_enter Tryz.func24, Tryz.ntmps24
  go_wp2_with fail
  refine (rSills_any _ _ g l _ (HG.out.later HB.out (Nat.le_refl _)) (HY.out.later HB.out (Nat.le_refl _))).mono ?_
  rintro e w1 ⟨v1, ss, rfl, hv1, hb1, hor⟩
  have HB1 := Lib.hid (HB.out.trans (hb1.mono HB.out.size))
  have BL1 := Lib.hid (BL.out.below hb1 (by simp))
  have HV1 := Lib.hid hv1
  have Hor := Lib.hid hor
  obtain ⟨A1, k1, rfl, hk1, hm1⟩ := hv1.open_
  clear hb1 hv1 hor
  by_cases h0 : seaE g l = 0
  case neg =>
    have He : Hid (floodE g l lo hi = seaE g l) := by simp only [Hid, floodE]; rw [if_neg h0]
    have H0 := Lib.hid h0
    have hb : (seaE g l != 0) = true := by simpa using h0
    clear h0
    go_wp2
    go_ret3
    exact ⟨_, _, [], [], ret_trip He.out.symm, bools_nil _ _, bools_nil _ _, HB1.out, .inl ⟨by rw [He.out]; exact H0.out, rfl, rfl⟩⟩
  have hb : (seaE g l != 0) = false := by simpa using h0
  have c5 := BL1.out.cell 0
  have c6 := BL1.out.cell 1
  simp only [List.getElem?_toArray, List.getElem?_cons_zero, List.getElem?_cons_succ] at c5 c6
  by_cases h1 : okSpan 20000 (lo, hi) = true
  case neg =>
    have h1' := hid_not h1
    have He : Hid (floodE g l lo hi = 3) := by simp only [Hid, floodE]; rw [if_pos h0, h1'.out]; rfl
    have hn : ¬ (lo ≤ hi ∧ -20000 ≤ lo ∧ hi ≤ 20000) := by
      have h := h1'.out
      unfold okSpan at h
      simpa using h
    clear h0 h1
    by_cases k1 : lo ≤ hi
    · by_cases k2 : -20000 ≤ lo
      · have k3 : ¬ hi ≤ 20000 := fun k3 => hn ⟨k1, k2, k3⟩
        clear hn
        go_wp2
        go_ret3
        exact ⟨_, _, [], [], ret_trip He.out.symm, bools_nil _ _, bools_nil _ _, HB1.out, .inl ⟨by rw [He.out]; decide, rfl, rfl⟩⟩
      · clear hn
        go_wp2
        go_ret3
        exact ⟨_, _, [], [], ret_trip He.out.symm, bools_nil _ _, bools_nil _ _, HB1.out, .inl ⟨by rw [He.out]; decide, rfl, rfl⟩⟩
    · clear hn
      go_wp2
      go_ret3
      exact ⟨_, _, [], [], ret_trip He.out.symm, bools_nil _ _, bools_nil _ _, HB1.out, .inl ⟨by rw [He.out]; decide, rfl, rfl⟩⟩
  have He : Hid (floodE g l lo hi = 0) := by simp only [Hid, floodE]; rw [if_pos h0, h1]; rfl
  have hok : lo ≤ hi ∧ -20000 ≤ lo ∧ hi ≤ 20000 := of_decide_eq_true h1
  obtain ⟨k1', k2', k3'⟩ := hok
  have Hss : Hid (∃ sts, l = sts.map (fun (c : Nat) => (c : Int)) ∧ SillB g sts ss) := by
    rcases Hor.out with ⟨h, _⟩ | ⟨_, h⟩
    · exact absurd h0 h
    · exact h
  have hlen : ss.length ≤ 576 := by
    obtain ⟨sts, _, h⟩ := Hss.out
    rw [h.length]
    exact (valid_of (sea_nat h0).1).small
  clear h0 h1 Hor
  go_wp2
  go_loopw [11, 12, 13] (fun a b i wr => ∃ (q : Nat) (va vb : Value), va = a ∧ vb = b ∧ q ≤ ss.length ∧ i = .int .i64 q ∧ Hid (TwoRows wr w1.heap.size 4 1 va vb q q (((ss.take q).map (fun s => decide (s.2 < lo))).map Value.bool) (((ss.take q).map (fun s => decide (s.1 < hi))).map Value.bool)) ∧ Below w1.heap.size w1 wr) (fun _ _ i _ => ss.length - (intOf i).toNat)
  case atStart => exact ⟨0, _, _, rfl, rfl, Nat.zero_le _, rfl, TwoRows.nil _ _ _ _, Below.refl _ _⟩
  case round =>
    obtain ⟨q, va, vb, rfl, rfl, hq, rfl, HR, hBr⟩ := hrel
    have hsz := hBr.size
    have HBr := Lib.hid hBr
    by_cases hlt : q < ss.length
    · obtain ⟨b1, o1, rfl, hb1, c1, c2⟩ := (HV1.out.below hBr).at_ hlt
      have blr := BL1.out.below hBr BL1.out.lt
      have BLr := Lib.hid blr
      clear c5 c6
      have c5 := blr.cell 0
      have c6 := blr.cell 1
      simp only [List.getElem?_toArray, List.getElem?_cons_zero, List.getElem?_cons_succ] at c5 c6
      have e1 := Lib.hid (map_take_snoc (fun s : Int × Int => decide (s.2 < lo)) ss q hlt)
      have e2 := Lib.hid (map_take_snoc (fun s : Int × Int => decide (s.1 < hi)) ss q hlt)
      clear hBr blr
      generalize hp : ss[q] = p at *
      obtain ⟨slo, shi⟩ := p
      simp only at c1 c2
      clear hp
      have hq0 : (0 : Int) ≤ (q : Int) := by omega
      have hq1 : (q : Int) < ss.length := by omega
      go_wp2
      go_region_law
        ((refine step_append_lies _ (by rfl) (.tmp 44) (.tmp 53) _ (by rfl) w1.heap.size 4 i0 _ 1 1 Tryz.underlying39 hi0 hz0 hz1 hz2 rfl (by omega) va q _ (by rfl) ((HR.out.a.alloc _).drew)
            ⟨wr.heap.size, 0, none⟩ 1 1 [.bool (decide (shi < lo))] (by rfl) (by rfl) (World.news_of_block (cs := #[.bool (decide (shi < lo))]) (t := 4) (fr := (0, 0)) (by exact heap_alloc_new wr _)) (by simp [Value.oneCell'])
            (by omega) (by unfold maxLen; omega) (by omega) (by simp; omega) (wr.heap.size + 1) (by simp) ?_; intro gg cap' v1 hown1 hgrow hat hltg))
      all_goals
        have T2 := Lib.hid (TwoRows.first (HR.out.alloc (.cells #[.bool (decide (shi < lo))] 4)).drew (w' := v1) hown1 hgrow (by rcases hat with e | e; exact .inl e.symm; exact .inr (by rw [e]; simp [Value.ownBlock])))
        have HB4 : Hid (Below w1.heap.size w1 v1) := (Below.drew (HBr.out.alloc (by omega) _)).grown hgrow (by simp; omega) (fun k e => (HR.out.a.lt k e).1)
        have hsz4 := HB4.out.size
        have g1 := (HB4.out.cell (p := ⟨b1, o1 + q * 2, none⟩) (by exact hb1)).trans ((HBr.out.cell (p := ⟨b1, o1 + q * 2, none⟩) (by exact hb1)).symm.trans c1)
        have g2 := (HB4.out.cell (p := ⟨b1, o1 + q * 2 + 1, none⟩) (by exact hb1)).trans ((HBr.out.cell (p := ⟨b1, o1 + q * 2 + 1, none⟩) (by exact hb1)).symm.trans c2)
        have bl4 := BL1.out.below HB4.out BL1.out.lt
        have g5 := bl4.cell 0
        have g6 := bl4.cell 1
        simp only [List.getElem?_toArray, List.getElem?_cons_zero, List.getElem?_cons_succ] at g5 g6
        clear hown1 hgrow hat hltg bl4
        go_wp2
        go_region_law
          ((refine step_append_lies _ (by rfl) (.tmp 55) (.tmp 64) _ (by rfl) w1.heap.size 4 i0 _ 1 1 Tryz.underlying39 hi0 hz0 hz1 hz2 rfl (by omega) vb q _ (by rfl) ((T2.out.b.alloc _).drew)
              ⟨v1.heap.size, 0, none⟩ 1 1 [.bool (decide (slo < hi))] (by rfl) (by rfl) (World.news_of_block (cs := #[.bool (decide (slo < hi))]) (t := 4) (fr := (0, 0)) (by exact heap_alloc_new v1 _)) (by simp [Value.oneCell'])
              (by omega) (by unfold maxLen; omega) (by omega) (by simp; omega) (v1.heap.size + 1) (by simp) ?_; intro gg2 cap2 v2 hown2 hgrow2 hat2 hltg2))
        all_goals
          have T3 := Lib.hid (TwoRows.second (T2.out.alloc (.cells #[.bool (decide (slo < hi))] 4)).drew (w' := v2) hown2 hgrow2 (by rcases hat2 with e | e; exact .inl e.symm; exact .inr (by rw [e]; simp [Value.ownBlock])))
          have HB5 : Hid (Below w1.heap.size w1 v2) := (Below.drew (HB4.out.alloc (by omega) _)).grown hgrow2 (by simp; omega) (fun k e => (T2.out.b.lt k e).1)
          clear hown2 hgrow2 hat2 hltg2
          go_wp2
          go_roundw
          case rel =>
            refine ⟨q + 1, _, _, rfl, rfl, by omega, by go_num, ?_, HB5.out⟩
            have t := T3.out
            have h1 := e1.out
            have h2 := e2.out
            try simp only at h1 h2
            rw [Hid, ← h1, ← h2, List.map_append, List.map_append]
            exact t
          case measure => simp [intOf]; omega
    · have hk' : q = ss.length := by omega
      have HF : Hid (TwoRows wr w1.heap.size 4 1 va vb q q ((ss.map (fun s => decide (s.2 < lo))).map Value.bool) ((ss.map (fun s => decide (s.1 < hi))).map Value.bool)) := by
        have := HR.out
        rw [List.take_of_length_le (by omega)] at this
        exact this
      have HK := Lib.hid hk'
      clear hk' HR hBr
      go_wp2
      go_ret3
      obtain ⟨sts, e1, e2⟩ := Hss.out
      refine ⟨_, _, _, _, ret_trip He.out.symm, bools_own (by simpa [HK.out] using HF.out.a), bools_own (by simpa [HK.out] using HF.out.b), HB1.out.trans (HBr.out.mono HB1.out.size), .inr ⟨He.out, sts, ss, e1, e2, rfl, rfl⟩⟩
end Go.Proofs.YthcenmocnphnmaaGreatDoor
