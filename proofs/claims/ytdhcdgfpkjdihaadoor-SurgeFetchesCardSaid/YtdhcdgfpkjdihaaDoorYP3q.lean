/-
  Layer 3, the program: AppendSeq and Collect over a fetch.
-/
import Derived.Test.YtdhcdgfpkjdihaaDoorYP3j
import Derived.RangeFuncBox
import Derived.Maps.AppendAt
set_option linter.unusedSimpArgs false
set_option linter.unusedVariables false
namespace Go.Proofs.YtdhcdgfpkjdihaaDoor.Sg
open Go.RowKit Go.Shelf
attribute [local go_sem] Oper.semAt_some
def ListOut (l : List Int) (w : World) (e : Ending) (w' : World) : Prop := ∃ v, e = .returned v ∧ IntsAt w' w'.heap.size v l ∧ Below w.heap.size w w'
theorem cells_new_row (w : World) (t : TypeId) (cs : Array Value) (xs : List Value) (hx : cs.toList = xs) : ∀ j u, xs[j]? = some u → (w.alloc (.cells cs t)).cell? ⟨w.heap.size, 0 + j, none⟩ = some u := by
 intro j u hu
 rw [Nat.zero_add, (Blk.new w t cs).cell j, ← Array.getElem?_toList, hx]
 exact hu
theorem int_info : (Tryd.prog.info? 3).map (fun i => (i.zero, i.size, i.bytes)) = some (some (.int .i64 0), 1, 8) := by kernel_rfl
theorem keepsFrom_of {W W' : World} {o : Nat → Prop} (B : Nat) (h : Far o W W') (ho : ∀ k ob, o k → W.heap[k]? = some ob → ob.isCells = true) : KeepsFrom B W W' :=
 ⟨h.size, fun k ob _ hk hc => by
  have hne : ¬ o k := fun e => by rw [ho k ob e hk] at hc; cases hc
  exact (h.block k (Array.getElem?_eq_some_iff.1 hk).1 hne).trans hk⟩
theorem blk_cells {w : World} {b t : Nat} {cs : Array Value} {ob : Obj} (h : Blk w b t cs) (k : w.heap[b]? = some ob) : ob.isCells = true := by
 have h1 : w.heap[b]? = some (.cells cs t (0, 0)) := h
 rw [h1] at k
 cases k
 rfl
theorem row_cells {w : World} {base e size n g : Nat} {v : Value} {xs : List Value} {ob : Obj} (h : w.ownsRow base e size v n xs) (hg : v.ownBlock = some g) (k : w.heap[g]? = some ob) : ob.isCells = true := by
 rcases h.2 with ⟨rfl, _⟩ | ⟨g', cap, cur, rfl, _, hgb, _⟩
 · simp [Value.ownBlock] at hg
 · obtain rfl : g' = g := by simpa [Value.ownBlock] using hg
   rw [hgb] at k
   cases k
   rfl
theorem cell_one_new (w : World) (t : TypeId) (x : Value) : ∀ j u, [x][j]? = some u → (w.alloc (.cells #[x] t)).cell? ((⟨w.heap.size, 0, none⟩ : Addr).add j) = some u := by
 intro j u hu
 have e : (⟨w.heap.size, 0, none⟩ : Addr).add j = ⟨w.heap.size, 0 + j, none⟩ := by unfold Addr.add; split <;> simp_all
 rw [e]
 exact cells_new_row w t #[x] [x] rfl j u hu
set_option maxRecDepth 100000 in
set_option maxHeartbeats 4000000 in
theorem appS_any (g : G) (A : Option Addr) (c : Nat) (lo hi : Int) (cell d : Nat) (b5 b9 b11 b10 b7 b4 : Nat) (w : World) (hF : FetchAt w g.W g.H g.S lo hi (.slice A g.ss.length c) (cell : Int) d 60 b5 b9 b11 b10 b7 b4)
 (hs : SpansAt w w.heap.size (.slice A g.ss.length c) g.ss) (hE : checkE g = 0) (hse : spOk (-20000) 20000 (lo, hi) = true) (hd : d < 8) (hc : cell < g.ss.length) :
 Calls Tryd.prog 105 #[.slice none 0 0, .func (.func 106) #[] #[.pointer (some ⟨b5, 0, none⟩), .pointer (some ⟨b9, 0, none⟩), .pointer (some ⟨b11, 0, none⟩), .pointer (some ⟨b10, 0, none⟩), .pointer (some ⟨b7, 0, none⟩), .pointer (some ⟨b4, 0, none⟩)]] w (ListOut (fetchZ (sureB g (lo, hi)) g (cell : Int) d) w) := by
 obtain ⟨L, hL⟩ := fetchL sureB (lo := lo) (hi := hi) hE hd hc
 have hLen : L.length ≤ 23 := by
  have h1 := fetch_len (sureB g (lo, hi)) g (cell : Int) d
  have h2 := congrArg List.length hL
  rw [List.length_map] at h2
  obtain ⟨hW, hH, hS, hlen, -⟩ := checkE_zero hE
  have h3 := len_lt (W := g.W) (H := g.H) (c := (cell : Int)) hd hW hH (by omega)
  omega
 have HI0 : Hid (FetchIn w w.heap.size g A c lo hi cell d 60 b5 b9 b11 b10 b7 b4) := ⟨hF, hs, ⟨hF.k5.lt, hF.k9.lt, hF.k11.lt, hF.k10.lt, hF.k7.lt, hF.k4.lt⟩, Nat.le_refl _⟩
 have HE := Lib.hid hE
 have HSE := Lib.hid hse
 have HL := Lib.hid hL
 clear hF hs hE hse hL
 refine (callsIn_wide (n := 6)).1 ?_
 refine callsIn_of_wp_marks Tryd.func105 rfl trivial ?_ rfl
 simp only [Tryd.ntmps105, List.size_toArray, List.length_cons, List.length_nil, Nat.reduceAdd, Nat.reduceSub, Array.replicate_succ, Array.replicate_zero, List.push_toArray, List.append_toArray, List.nil_append, List.cons_append]
 gi_wp2
 obtain ⟨V5, hV⟩ : ∃ V, w.alloc (.cells #[.slice none 0 0] 34) = V := ⟨_, rfl⟩
 have K2 : Hid (Boxed V5 w.heap.size 34 (.slice none 0 0)) := by rw [← hV]; exact Boxed.new _ _ _
 have KB : Hid (Below w.heap.size w V5) := by rw [← hV]; exact (by repeat (first | exact Below.refl _ _ | assumption | refine Below.drew ?_ | refine Below.drewN' ?_ _ | (refine Below.alloc ?_ (by simp <;> omega) _) | (refine Below.setCell ?_ (by simp <;> omega) _)))
 rw [hV]
 clear hV
 obtain ⟨c2, hc2⟩ : ∃ b, w.heap.size = b := ⟨_, rfl⟩
 have HNW := Lib.hid hc2
 rw [hc2] at K2 ⊢
 clear hc2
 have HST := Lib.hid (show SeqStopsK Fence.wide 5 Tryd.prog 106 #[.pointer (some ⟨b5, 0, none⟩), .pointer (some ⟨b9, 0, none⟩), .pointer (some ⟨b11, 0, none⟩), .pointer (some ⟨b10, 0, none⟩), .pointer (some ⟨b7, 0, none⟩), .pointer (some ⟨b4, 0, none⟩)] (fun x : Cl sureB g lo hi => #[Value.int .i64 ((x.1 : Nat) : Int)]) (Below w.heap.size) (fun ys => ys = L) (fun pre => pre <+: L) L.length V5 from
  fetchS_stops (fun x : Cl sureB g lo hi => x.1) L 5 (by omega) w.heap.size g A c lo hi cell d b5 b9 b11 b10 b7 b4 HE.out HSE.out hd hc HL.out V5 (HI0.out.keep KB.out))
 refine wpIn_rangeFunc_ownH rfl (by omega) (gf := 106) (lb := #[.pointer (some ⟨b5, 0, none⟩), .pointer (some ⟨b9, 0, none⟩), .pointer (some ⟨b11, 0, none⟩), .pointer (some ⟨b10, 0, none⟩), .pointer (some ⟨b7, 0, none⟩), .pointer (some ⟨b4, 0, none⟩)]) rfl trivial (enters_of Tryd.func106 (by kernel_rfl) rfl)
  HST.out belowK_t (belowK_b KB.out.size) (Below.refl _ _) (fun _ => rfl)
  (fun (pre : List (Cl sureB g lo hi)) W => Far (fun i => i = c2) V5 W ∧ ∃ u, Boxed W c2 34 u ∧ W.ownsRow V5.heap.size 3 1 u pre.length (pre.map (fun x : Cl sureB g lo hi => Value.int .i64 ((x.1 : Nat) : Int))) ∧ True)
  (fun _ _ _ => False)
  (OwnFrom.and (ownFrom_far _ _ _ (Nat.le_refl _)) (Own.from (holdsRow_own V5.heap.size c2 34 3 1 (fun pre : List (Cl sureB g lo hi) => pre.length) (fun pre => pre.map (fun x : Cl sureB g lo hi => Value.int .i64 ((x.1 : Nat) : Int))) (fun _ _ => True)) _))
  (fun _ _ _ _ _ hs _ _ => hs)
  ⟨Far.refl _ _, _, K2.out, World.ownsRow_nil _ _ _ _, trivial⟩
  (fun (x : Cl sureB g lo hi) a' W => a' = { tmps := #[.slice none 0 0, .func (.func 106) #[] #[.pointer (some ⟨b5, 0, none⟩), .pointer (some ⟨b9, 0, none⟩), .pointer (some ⟨b11, 0, none⟩), .pointer (some ⟨b10, 0, none⟩), .pointer (some ⟨b7, 0, none⟩), .pointer (some ⟨b4, 0, none⟩)], .pointer (some ⟨c2, 0, none⟩), undef, .slice none 0 0, .int .i64 ((x.1 : Nat) : Int), .func (.func 106) #[] #[.pointer (some ⟨b5, 0, none⟩), .pointer (some ⟨b9, 0, none⟩), .pointer (some ⟨b11, 0, none⟩), .pointer (some ⟨b10, 0, none⟩), .pointer (some ⟨b7, 0, none⟩), .pointer (some ⟨b4, 0, none⟩)], .int .i64 ((x.1 : Nat) : Int), undef, undef, undef, undef, undef], defers := [] })
  (fun x a' s W W' row h hg hr => h) ?assign ?body ?done ?stop
 case assign =>
  rintro l pre x W K ⟨hF, u, hu, hrow, -⟩ hK
  gi_wp2
  exact hK _ _ (keepsFrom_far V5.heap.size (Far.refl _ W) (show Blk W c2 34 #[u] from hu)) (Below.refl _ _) ⟨hF, u, hu, hrow, trivial⟩ rfl
 case body =>
  rintro l pre ⟨X, hXl, hXp⟩ a' W - - ⟨hF, u, hu, hrow, -⟩ rfl hpl
  have HF := Lib.hid hF
  have HU := Lib.hid hu
  have HR := Lib.hid hrow
  have hpn : pre.length ≤ 23 := by omega
  have hne : u.ownBlock ≠ some c2 := fun e => hu.not_row (by decide) hrow e.symm
  have hgv : V5.heap.size ≤ W.heap.size := hF.size
  have g2 : w.heap.size ≤ c2 := Nat.le_of_eq HNW.out
  have q0 := hu.cell
  have q9 := hu.frozen
  obtain ⟨i0, hi0, hi1⟩ := Option.map_eq_some_iff.1 int_info
  simp only [Prod.mk.injEq] at hi1
  obtain ⟨hz0, hz1, hz2⟩ := hi1
  clear hF hu hrow
  dsimp only
  gi_wp2_with (gi_at_builtin; refine wpListIn_append_own _ rfl _ _ 34 rfl V5.heap.size 3 i0 (.int .i64 0) 1 8 Tryd.underlying34 hi0 hz0 hz1 hz2 rfl (by decide) _ _ _ rfl (HR.out.alloc _) ⟨W.heap.size, 0, none⟩ 1 1 [.int .i64 (X : Int)] rfl rfl (cell_one_new _ _ _) (by simp [Value.oneCell']) (by unfold maxLen; omega) (by omega) (by simp <;> omega) ?_; intro v' w8 hown' hgrow _; have hbu := (Boxed.kept (Boxed.alloc HU.out (.cells #[.int .i64 (X : Int)] 3)) hgrow (fun e => hne e.symm)); have hfw : Far (fun i => i = c2 ∨ u.ownBlock = some i) W w8 := (((Far.refl (fun i => i = c2 ∨ u.ownBlock = some i) W).alloc (.cells #[.int .i64 (X : Int)] 3)).grown hgrow (fun k e => Or.inl (Or.inr e))); have hfv : Far (fun i => i = c2) V5 w8 := ((HF.out.alloc (.cells #[.int .i64 (X : Int)] 3)).grown hgrow (fun k e => Or.inr (HR.out.lt k e).1)); obtain ⟨g', cap', rfl⟩ := ownsRow_succ hown'; have q1 := hbu.cell; have q2 := hbu.frozen; have P1 := Lib.hid hbu; have P3 := Lib.hid hfw; have P4 := Lib.hid hfv; have P5 := Lib.hid hown'; clear hbu hfw hfv hown' hgrow q0 q9)
  have hgV := (P5.out.lt g' rfl).1
  have n2 : (Value.slice (some ⟨g', 0, none⟩) (pre.length + 1) cap').ownBlock ≠ some c2 := fun h => by simp [Value.ownBlock] at h; have := K2.out.lt; omega
  have HCE : ∀ k ob, (k = c2 ∨ u.ownBlock = some k) → W.heap[k]? = some ob → ob.isCells = true := by
   rintro k ob (rfl | h) hk
   · exact blk_cells (show Blk W k 34 #[u] from HU.out) hk
   · exact row_cells HR.out h hk
  have A0 := P3.out.setCell (p := ⟨c2, 0, none⟩) (Or.inl (Or.inl rfl)) (.slice (some ⟨g', 0, none⟩) (pre.length + 1) cap')
  have A1 := P4.out.setCell (p := ⟨c2, 0, none⟩) (Or.inl rfl) (.slice (some ⟨g', 0, none⟩) (pre.length + 1) cap')
  have A2 := Boxed.set (.slice (some ⟨g', 0, none⟩) (pre.length + 1) cap') P1.out
  have A3 := own_set P5.out (p := ⟨c2, 0, none⟩) n2 (.slice (some ⟨g', 0, none⟩) (pre.length + 1) cap')
  refine ⟨keepsFrom_of V5.heap.size A0 HCE, A0.below (Nat.le_trans KB.out.size hgv) ?_, A1, _, A2, ?_⟩
  · rintro i hi (h | h)
    · have := HNW.out; omega
    · have := (HR.out.lt i h).1; have := KB.out.size; omega
  · have e : (pre ++ [(⟨X, hXl, hXp⟩ : Cl sureB g lo hi)]).length = pre.length + 1 := by simp
    have e2 : (pre ++ [(⟨X, hXl, hXp⟩ : Cl sureB g lo hi)]).map (fun x : Cl sureB g lo hi => Value.int .i64 ((x.1 : Nat) : Int)) = pre.map (fun x : Cl sureB g lo hi => Value.int .i64 ((x.1 : Nat) : Int)) ++ [.int .i64 (X : Int)] := by rw [List.map_append]; rfl
    rw [e, e2]
    first | exact ⟨A3, trivial⟩ | exact A3
 case done =>
  rintro D ys W hD rfl ⟨hF, u, hu, hrow, -⟩ hK
  have hc := hu.cell
  have HB := Lib.hid (KB.out.trans (hF.below KB.out.size (by intro i hi h; have := HNW.out; omega)))
  have HK := Lib.hid hK
  have HR := Lib.hid hrow
  have hDn : w.heap.size ≤ D := Nat.le_trans KB.out.size hD
  have e : ys.map (fun x : Cl sureB g lo hi => Value.int .i64 ((x.1 : Nat) : Int)) = (fetchZ (sureB g (lo, hi)) g (cell : Int) d).map (Value.int .i64) := by rw [← HL.out, List.map_map]; rfl
  have e2 : ys.length = (fetchZ (sureB g (lo, hi)) g (cell : Int) d).length := by rw [← HL.out, List.length_map]
  rw [e, e2] at HR
  clear hF hK hrow e e2
  dsimp only
  gi_wp2
  refine bodyM_mark (v := u) (run_takeDeferred HK.out) (by simp [results, Tryd.results105, go_sem]) rfl ⟨u, rfl, ?_, ?_⟩
  · exact Reads.of_own (ownsRow_putObj HR.out _ HK.out rfl)
  · exact HB.out.trans (belowK_b (w := w) (Nat.le_refl _) _ D _ _ (by omega) HK.out rfl rfl)
 case stop =>
  rintro D c pre W _ _ h _
  exact h.elim
set_option maxRecDepth 100000 in
set_option maxHeartbeats 4000000 in
theorem appM_any (g : G) (A : Option Addr) (c : Nat) (lo hi : Int) (cell d : Nat) (b5 b9 b11 b10 b7 b4 : Nat) (w : World) (hF : FetchAt w g.W g.H g.S lo hi (.slice A g.ss.length c) (cell : Int) d 61 b5 b9 b11 b10 b7 b4)
 (hs : SpansAt w w.heap.size (.slice A g.ss.length c) g.ss) (hE : checkE g = 0) (hse : spOk (-20000) 20000 (lo, hi) = true) (hd : d < 8) (hc : cell < g.ss.length) :
 Calls Tryd.prog 105 #[.slice none 0 0, .func (.func 106) #[] #[.pointer (some ⟨b5, 0, none⟩), .pointer (some ⟨b9, 0, none⟩), .pointer (some ⟨b11, 0, none⟩), .pointer (some ⟨b10, 0, none⟩), .pointer (some ⟨b7, 0, none⟩), .pointer (some ⟨b4, 0, none⟩)]] w (ListOut (fetchZ (mayB g (lo, hi)) g (cell : Int) d) w) := by
 obtain ⟨L, hL⟩ := fetchL mayB (lo := lo) (hi := hi) hE hd hc
 have hLen : L.length ≤ 23 := by
  have h1 := fetch_len (mayB g (lo, hi)) g (cell : Int) d
  have h2 := congrArg List.length hL
  rw [List.length_map] at h2
  obtain ⟨hW, hH, hS, hlen, -⟩ := checkE_zero hE
  have h3 := len_lt (W := g.W) (H := g.H) (c := (cell : Int)) hd hW hH (by omega)
  omega
 have HI0 : Hid (FetchIn w w.heap.size g A c lo hi cell d 61 b5 b9 b11 b10 b7 b4) := ⟨hF, hs, ⟨hF.k5.lt, hF.k9.lt, hF.k11.lt, hF.k10.lt, hF.k7.lt, hF.k4.lt⟩, Nat.le_refl _⟩
 have HE := Lib.hid hE
 have HSE := Lib.hid hse
 have HL := Lib.hid hL
 clear hF hs hE hse hL
 refine (callsIn_wide (n := 6)).1 ?_
 refine callsIn_of_wp_marks Tryd.func105 rfl trivial ?_ rfl
 simp only [Tryd.ntmps105, List.size_toArray, List.length_cons, List.length_nil, Nat.reduceAdd, Nat.reduceSub, Array.replicate_succ, Array.replicate_zero, List.push_toArray, List.append_toArray, List.nil_append, List.cons_append]
 gi_wp2
 obtain ⟨V5, hV⟩ : ∃ V, w.alloc (.cells #[.slice none 0 0] 34) = V := ⟨_, rfl⟩
 have K2 : Hid (Boxed V5 w.heap.size 34 (.slice none 0 0)) := by rw [← hV]; exact Boxed.new _ _ _
 have KB : Hid (Below w.heap.size w V5) := by rw [← hV]; exact (by repeat (first | exact Below.refl _ _ | assumption | refine Below.drew ?_ | refine Below.drewN' ?_ _ | (refine Below.alloc ?_ (by simp <;> omega) _) | (refine Below.setCell ?_ (by simp <;> omega) _)))
 rw [hV]
 clear hV
 obtain ⟨c2, hc2⟩ : ∃ b, w.heap.size = b := ⟨_, rfl⟩
 have HNW := Lib.hid hc2
 rw [hc2] at K2 ⊢
 clear hc2
 have HST := Lib.hid (show SeqStopsK Fence.wide 5 Tryd.prog 106 #[.pointer (some ⟨b5, 0, none⟩), .pointer (some ⟨b9, 0, none⟩), .pointer (some ⟨b11, 0, none⟩), .pointer (some ⟨b10, 0, none⟩), .pointer (some ⟨b7, 0, none⟩), .pointer (some ⟨b4, 0, none⟩)] (fun x : Cl mayB g lo hi => #[Value.int .i64 ((x.1 : Nat) : Int)]) (Below w.heap.size) (fun ys => ys = L) (fun pre => pre <+: L) L.length V5 from
  fetchM_stops (fun x : Cl mayB g lo hi => x.1) L 5 (by omega) w.heap.size g A c lo hi cell d b5 b9 b11 b10 b7 b4 HE.out HSE.out hd hc HL.out V5 (HI0.out.keep KB.out))
 refine wpIn_rangeFunc_ownH rfl (by omega) (gf := 106) (lb := #[.pointer (some ⟨b5, 0, none⟩), .pointer (some ⟨b9, 0, none⟩), .pointer (some ⟨b11, 0, none⟩), .pointer (some ⟨b10, 0, none⟩), .pointer (some ⟨b7, 0, none⟩), .pointer (some ⟨b4, 0, none⟩)]) rfl trivial (enters_of Tryd.func106 (by kernel_rfl) rfl)
  HST.out belowK_t (belowK_b KB.out.size) (Below.refl _ _) (fun _ => rfl)
  (fun (pre : List (Cl mayB g lo hi)) W => Far (fun i => i = c2) V5 W ∧ ∃ u, Boxed W c2 34 u ∧ W.ownsRow V5.heap.size 3 1 u pre.length (pre.map (fun x : Cl mayB g lo hi => Value.int .i64 ((x.1 : Nat) : Int))) ∧ True)
  (fun _ _ _ => False)
  (OwnFrom.and (ownFrom_far _ _ _ (Nat.le_refl _)) (Own.from (holdsRow_own V5.heap.size c2 34 3 1 (fun pre : List (Cl mayB g lo hi) => pre.length) (fun pre => pre.map (fun x : Cl mayB g lo hi => Value.int .i64 ((x.1 : Nat) : Int))) (fun _ _ => True)) _))
  (fun _ _ _ _ _ hs _ _ => hs)
  ⟨Far.refl _ _, _, K2.out, World.ownsRow_nil _ _ _ _, trivial⟩
  (fun (x : Cl mayB g lo hi) a' W => a' = { tmps := #[.slice none 0 0, .func (.func 106) #[] #[.pointer (some ⟨b5, 0, none⟩), .pointer (some ⟨b9, 0, none⟩), .pointer (some ⟨b11, 0, none⟩), .pointer (some ⟨b10, 0, none⟩), .pointer (some ⟨b7, 0, none⟩), .pointer (some ⟨b4, 0, none⟩)], .pointer (some ⟨c2, 0, none⟩), undef, .slice none 0 0, .int .i64 ((x.1 : Nat) : Int), .func (.func 106) #[] #[.pointer (some ⟨b5, 0, none⟩), .pointer (some ⟨b9, 0, none⟩), .pointer (some ⟨b11, 0, none⟩), .pointer (some ⟨b10, 0, none⟩), .pointer (some ⟨b7, 0, none⟩), .pointer (some ⟨b4, 0, none⟩)], .int .i64 ((x.1 : Nat) : Int), undef, undef, undef, undef, undef], defers := [] })
  (fun x a' s W W' row h hg hr => h) ?assign ?body ?done ?stop
 case assign =>
  rintro l pre x W K ⟨hF, u, hu, hrow, -⟩ hK
  gi_wp2
  exact hK _ _ (keepsFrom_far V5.heap.size (Far.refl _ W) (show Blk W c2 34 #[u] from hu)) (Below.refl _ _) ⟨hF, u, hu, hrow, trivial⟩ rfl
 case body =>
  rintro l pre ⟨X, hXl, hXp⟩ a' W - - ⟨hF, u, hu, hrow, -⟩ rfl hpl
  have HF := Lib.hid hF
  have HU := Lib.hid hu
  have HR := Lib.hid hrow
  have hpn : pre.length ≤ 23 := by omega
  have hne : u.ownBlock ≠ some c2 := fun e => hu.not_row (by decide) hrow e.symm
  have hgv : V5.heap.size ≤ W.heap.size := hF.size
  have g2 : w.heap.size ≤ c2 := Nat.le_of_eq HNW.out
  have q0 := hu.cell
  have q9 := hu.frozen
  obtain ⟨i0, hi0, hi1⟩ := Option.map_eq_some_iff.1 int_info
  simp only [Prod.mk.injEq] at hi1
  obtain ⟨hz0, hz1, hz2⟩ := hi1
  clear hF hu hrow
  dsimp only
  gi_wp2_with (gi_at_builtin; refine wpListIn_append_own _ rfl _ _ 34 rfl V5.heap.size 3 i0 (.int .i64 0) 1 8 Tryd.underlying34 hi0 hz0 hz1 hz2 rfl (by decide) _ _ _ rfl (HR.out.alloc _) ⟨W.heap.size, 0, none⟩ 1 1 [.int .i64 (X : Int)] rfl rfl (cell_one_new _ _ _) (by simp [Value.oneCell']) (by unfold maxLen; omega) (by omega) (by simp <;> omega) ?_; intro v' w8 hown' hgrow _; have hbu := (Boxed.kept (Boxed.alloc HU.out (.cells #[.int .i64 (X : Int)] 3)) hgrow (fun e => hne e.symm)); have hfw : Far (fun i => i = c2 ∨ u.ownBlock = some i) W w8 := (((Far.refl (fun i => i = c2 ∨ u.ownBlock = some i) W).alloc (.cells #[.int .i64 (X : Int)] 3)).grown hgrow (fun k e => Or.inl (Or.inr e))); have hfv : Far (fun i => i = c2) V5 w8 := ((HF.out.alloc (.cells #[.int .i64 (X : Int)] 3)).grown hgrow (fun k e => Or.inr (HR.out.lt k e).1)); obtain ⟨g', cap', rfl⟩ := ownsRow_succ hown'; have q1 := hbu.cell; have q2 := hbu.frozen; have P1 := Lib.hid hbu; have P3 := Lib.hid hfw; have P4 := Lib.hid hfv; have P5 := Lib.hid hown'; clear hbu hfw hfv hown' hgrow q0 q9)
  have hgV := (P5.out.lt g' rfl).1
  have n2 : (Value.slice (some ⟨g', 0, none⟩) (pre.length + 1) cap').ownBlock ≠ some c2 := fun h => by simp [Value.ownBlock] at h; have := K2.out.lt; omega
  have HCE : ∀ k ob, (k = c2 ∨ u.ownBlock = some k) → W.heap[k]? = some ob → ob.isCells = true := by
   rintro k ob (rfl | h) hk
   · exact blk_cells (show Blk W k 34 #[u] from HU.out) hk
   · exact row_cells HR.out h hk
  have A0 := P3.out.setCell (p := ⟨c2, 0, none⟩) (Or.inl (Or.inl rfl)) (.slice (some ⟨g', 0, none⟩) (pre.length + 1) cap')
  have A1 := P4.out.setCell (p := ⟨c2, 0, none⟩) (Or.inl rfl) (.slice (some ⟨g', 0, none⟩) (pre.length + 1) cap')
  have A2 := Boxed.set (.slice (some ⟨g', 0, none⟩) (pre.length + 1) cap') P1.out
  have A3 := own_set P5.out (p := ⟨c2, 0, none⟩) n2 (.slice (some ⟨g', 0, none⟩) (pre.length + 1) cap')
  refine ⟨keepsFrom_of V5.heap.size A0 HCE, A0.below (Nat.le_trans KB.out.size hgv) ?_, A1, _, A2, ?_⟩
  · rintro i hi (h | h)
    · have := HNW.out; omega
    · have := (HR.out.lt i h).1; have := KB.out.size; omega
  · have e : (pre ++ [(⟨X, hXl, hXp⟩ : Cl mayB g lo hi)]).length = pre.length + 1 := by simp
    have e2 : (pre ++ [(⟨X, hXl, hXp⟩ : Cl mayB g lo hi)]).map (fun x : Cl mayB g lo hi => Value.int .i64 ((x.1 : Nat) : Int)) = pre.map (fun x : Cl mayB g lo hi => Value.int .i64 ((x.1 : Nat) : Int)) ++ [.int .i64 (X : Int)] := by rw [List.map_append]; rfl
    rw [e, e2]
    first | exact ⟨A3, trivial⟩ | exact A3
 case done =>
  rintro D ys W hD rfl ⟨hF, u, hu, hrow, -⟩ hK
  have hc := hu.cell
  have HB := Lib.hid (KB.out.trans (hF.below KB.out.size (by intro i hi h; have := HNW.out; omega)))
  have HK := Lib.hid hK
  have HR := Lib.hid hrow
  have hDn : w.heap.size ≤ D := Nat.le_trans KB.out.size hD
  have e : ys.map (fun x : Cl mayB g lo hi => Value.int .i64 ((x.1 : Nat) : Int)) = (fetchZ (mayB g (lo, hi)) g (cell : Int) d).map (Value.int .i64) := by rw [← HL.out, List.map_map]; rfl
  have e2 : ys.length = (fetchZ (mayB g (lo, hi)) g (cell : Int) d).length := by rw [← HL.out, List.length_map]
  rw [e, e2] at HR
  clear hF hK hrow e e2
  dsimp only
  gi_wp2
  refine bodyM_mark (v := u) (run_takeDeferred HK.out) (by simp [results, Tryd.results105, go_sem]) rfl ⟨u, rfl, ?_, ?_⟩
  · exact Reads.of_own (ownsRow_putObj HR.out _ HK.out rfl)
  · exact HB.out.trans (belowK_b (w := w) (Nat.le_refl _) _ D _ _ (by omega) HK.out rfl rfl)
 case stop =>
  rintro D c pre W _ _ h _
  exact h.elim
theorem collectS_any (g : G) (A : Option Addr) (c : Nat) (lo hi : Int) (cell d : Nat) (b5 b9 b11 b10 b7 b4 : Nat) (w : World) (hF : FetchAt w g.W g.H g.S lo hi (.slice A g.ss.length c) (cell : Int) d 60 b5 b9 b11 b10 b7 b4)
 (hs : SpansAt w w.heap.size (.slice A g.ss.length c) g.ss) (hE : checkE g = 0) (hse : spOk (-20000) 20000 (lo, hi) = true) (hd : d < 8) (hc : cell < g.ss.length) :
 Calls Tryd.prog 58 #[.func (.func 106) #[] #[.pointer (some ⟨b5, 0, none⟩), .pointer (some ⟨b9, 0, none⟩), .pointer (some ⟨b11, 0, none⟩), .pointer (some ⟨b10, 0, none⟩), .pointer (some ⟨b7, 0, none⟩), .pointer (some ⟨b4, 0, none⟩)]] w (ListOut (fetchZ (sureB g (lo, hi)) g (cell : Int) d) w) := by
 have HA := Lib.hid (appS_any g A c lo hi cell d b5 b9 b11 b10 b7 b4 w hF hs hE hse hd hc)
 clear hF hs hE hse
 go_enter Tryd.func58, Tryd.ntmps58
 go_wp2_with (go_at_call 105; refine HA.out.mono ?_; rintro e w1 ⟨v, rfl, h1, h2⟩)
 go_ret
 exact ⟨v, rfl, h1, h2⟩
theorem collectM_any (g : G) (A : Option Addr) (c : Nat) (lo hi : Int) (cell d : Nat) (b5 b9 b11 b10 b7 b4 : Nat) (w : World) (hF : FetchAt w g.W g.H g.S lo hi (.slice A g.ss.length c) (cell : Int) d 61 b5 b9 b11 b10 b7 b4)
 (hs : SpansAt w w.heap.size (.slice A g.ss.length c) g.ss) (hE : checkE g = 0) (hse : spOk (-20000) 20000 (lo, hi) = true) (hd : d < 8) (hc : cell < g.ss.length) :
 Calls Tryd.prog 58 #[.func (.func 106) #[] #[.pointer (some ⟨b5, 0, none⟩), .pointer (some ⟨b9, 0, none⟩), .pointer (some ⟨b11, 0, none⟩), .pointer (some ⟨b10, 0, none⟩), .pointer (some ⟨b7, 0, none⟩), .pointer (some ⟨b4, 0, none⟩)]] w (ListOut (fetchZ (mayB g (lo, hi)) g (cell : Int) d) w) := by
 have HA := Lib.hid (appM_any g A c lo hi cell d b5 b9 b11 b10 b7 b4 w hF hs hE hse hd hc)
 clear hF hs hE hse
 go_enter Tryd.func58, Tryd.ntmps58
 go_wp2_with (go_at_call 105; refine HA.out.mono ?_; rintro e w1 ⟨v, rfl, h1, h2⟩)
 go_ret
 exact ⟨v, rfl, h1, h2⟩
end Go.Proofs.YtdhcdgfpkjdihaaDoor.Sg
