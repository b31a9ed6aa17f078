/-
  Without any program: what soundings leave does not depend on their order.
-/
import Derived.Test.YthcenmocnphnmaaGreatDoorNH
import Derived.Test.YthcenmocnphnmaaGreatDoorMN
import Derived.Test.YthcenmocnphnmaaGreatDoorND
import Derived.Test.YthcenmocnphnmaaGreatDoorNK
import Derived.Test.YthcenmocnphnmaaGreatDoorTie
import Derived.Test.YthcenmocnphnmaaGreatDoorCards
set_option linter.unusedSimpArgs false
set_option linter.unusedVariables false
namespace Go.Proofs.YthcenmocnphnmaaGreatDoor

theorem com_right (p q r : Int × Int) : com (com p q) r = com (com p r) q := by
  unfold com
  simp only [Prod.mk.injEq]
  constructor <;> omega
def sndP (s : Snd) : Int × Int := (s.2.1 - s.2.2, s.2.1 + s.2.2)
/-- what soundings leave, of all cells and of one -/
def wantL (ss : List (Int × Int)) (l : List Snd) : List (Int × Int) := l.foldl (fun ss s => ss.set s.1.toNat (snd1 ss s)) ss
def wantF (c : Nat) (p : Int × Int) (s : Snd) : Int × Int := if s.1.toNat = c then com p (sndP s) else p
def wantC (c : Nat) (p : Int × Int) (l : List Snd) : Int × Int := l.foldl (wantF c) p
theorem wantF_right (c : Nat) (p : Int × Int) (s t : Snd) : wantF c (wantF c p s) t = wantF c (wantF c p t) s := by
  unfold wantF
  split <;> split <;> first | exact com_right _ _ _ | rfl
theorem wantC_front (c : Nat) (l : List Snd) : ∀ (p : Int × Int) (s : Snd), wantF c (wantC c p l) s = wantC c (wantF c p s) l := by
  induction l with
  | nil => intro p s; rfl
  | cons t l ih =>
    intro p s
    show wantF c (wantC c (wantF c p t) l) s = wantC c (wantF c (wantF c p s) t) l
    rw [ih, wantF_right]
theorem wantC_rev (c : Nat) (l : List Snd) : ∀ p, wantC c p l.reverse = wantC c p l := by
  induction l with
  | nil => intro p; rfl
  | cons t l ih =>
    intro p
    rw [List.reverse_cons]
    show (l.reverse ++ [t]).foldl (wantF c) p = _
    rw [List.foldl_append]
    show wantF c (wantC c p l.reverse) t = wantC c (wantF c p t) l
    rw [ih, wantC_front]
theorem wantL_len (l : List Snd) : ∀ ss, (wantL ss l).length = ss.length := by
  induction l with
  | nil => intro ss; rfl
  | cons s l ih =>
    intro ss
    show (wantL (ss.set s.1.toNat (snd1 ss s)) l).length = _
    rw [ih, List.length_set]
theorem getD_set' (ss : List (Int × Int)) (i c : Nat) (p : Int × Int) (hc : c < ss.length) : (ss.set i p).getD c (0, 0) = if i = c then p else ss.getD c (0, 0) := by
  rw [List.getD_eq_getElem?_getD, List.getD_eq_getElem?_getD, List.getElem?_set]
  by_cases h : i = c
  · subst h
    rw [if_pos rfl, if_pos rfl, if_pos hc]
    rfl
  · rw [if_neg h, if_neg h]
theorem wantL_get (l : List Snd) : ∀ ss c, c < ss.length → (wantL ss l).getD c (0, 0) = wantC c (ss.getD c (0, 0)) l := by
  induction l with
  | nil => intro ss c _; rfl
  | cons s l ih =>
    intro ss c hc
    show (wantL (ss.set s.1.toNat (snd1 ss s)) l).getD c (0, 0) = wantC c (wantF c (ss.getD c (0, 0)) s) l
    rw [ih _ _ (by rw [List.length_set]; exact hc), getD_set' _ _ _ _ hc]
    unfold wantF
    by_cases h : s.1.toNat = c
    · rw [if_pos h, if_pos h]
      subst h
      rfl
    · rw [if_neg h, if_neg h]
theorem ext_getD {l m : List (Int × Int)} (h : l.length = m.length) (he : ∀ c, c < l.length → l.getD c (0, 0) = m.getD c (0, 0)) : l = m := by
  refine List.ext_getElem h fun c h1 h2 => ?_
  have := he c h1
  rwa [List.getD_eq_getElem?_getD, List.getD_eq_getElem?_getD, List.getElem?_eq_getElem h1, List.getElem?_eq_getElem h2] at this
theorem wantL_rev (ss : List (Int × Int)) (l : List Snd) : wantL ss l.reverse = wantL ss l := by
  refine ext_getD (by rw [wantL_len, wantL_len]) fun c hc => ?_
  rw [wantL_len] at hc
  rw [wantL_get _ _ _ hc, wantL_get _ _ _ hc, wantC_rev]
theorem empty_com {p q : Int × Int} (h : emptyB p = true) : emptyB (com p q) = true := by
  unfold emptyB at *
  unfold com
  simp only [decide_eq_true_eq] at *
  omega
theorem empty_wantC (c : Nat) (l : List Snd) : ∀ p, emptyB p = true → emptyB (wantC c p l) = true := by
  induction l with
  | nil => intro p h; exact h
  | cons s l ih =>
    intro p h
    refine ih _ ?_
    unfold wantF
    split
    · exact empty_com h
    · exact h
theorem any_of_getD {ss : List (Int × Int)} {c : Nat} (hc : c < ss.length) (h : emptyB (ss.getD c (0, 0)) = true) : ss.any emptyB = true := by
  rw [List.getD_eq_getElem?_getD, List.getElem?_eq_getElem hc] at h
  exact List.any_eq_true.2 ⟨_, List.getElem_mem hc, h⟩
theorem any_set {ss : List (Int × Int)} {c : Nat} {p : Int × Int} (h : ss.any emptyB = false) (hp : emptyB p = false) : (ss.set c p).any emptyB = false := by
  rw [List.any_eq_false] at *
  intro x hx
  rcases List.mem_or_eq_of_mem_set hx with hx | rfl
  · exact h x hx
  · rw [hp]; simp
theorem meas_want (l : List Snd) : ∀ (ss : List (Int × Int)) (k : Nat), (∀ s ∈ l, 0 ≤ s.1 ∧ s.1 < (ss.length : Int)) → ss.any emptyB = false →
    (∃ i, meas ss l k = .inl (k + i) ∧ i < l.length ∧ (wantL ss l).any emptyB = true) ∨ (meas ss l k = .inr (wantL ss l) ∧ (wantL ss l).any emptyB = false) := by
  induction l with
  | nil => intro ss k _ h; exact .inr ⟨rfl, h⟩
  | cons s l ih =>
    intro ss k hr h
    obtain ⟨h1, h2⟩ := hr s (by simp)
    by_cases he : emptyB (snd1 ss s) = true
    · refine .inl ⟨0, ?_, by simp, any_of_getD (c := s.1.toNat) (by rw [wantL_len]; omega) ?_⟩
      · simp only [meas]
        rw [if_pos he]
        rfl
      · rw [wantL_get _ _ _ (by omega)]
        show emptyB (wantC _ (wantF _ _ s) l) = true
        refine empty_wantC _ _ _ ?_
        unfold wantF
        rw [if_pos rfl]
        exact he
    · have he' : emptyB (snd1 ss s) = false := by simpa using he
      have hw : wantL ss (s :: l) = wantL (ss.set s.1.toNat (snd1 ss s)) l := rfl
      rw [hw]
      simp only [meas]
      rw [if_neg he]
      rcases ih (ss.set s.1.toNat (snd1 ss s)) (k + 1) (fun t ht => by rw [List.length_set]; exact hr t (by simp [ht])) (any_set h he') with ⟨i, e1, e2, e3⟩ | ⟨e1, e2⟩
      · exact .inl ⟨i + 1, by rw [e1]; congr 1; omega, by simp; omega, e3⟩
      · exact .inr ⟨e1, e2⟩
theorem none_empty {g : G} (V : Valid g) : g.ss.any emptyB = false := by
  rw [List.any_eq_false]
  intro s hs
  have := of_decide_eq_true (List.all_eq_true.1 V.ok s hs)
  unfold emptyB
  simp only [decide_eq_true_eq]
  omega
/-- the soundings of the law -/
def lawSnd (g : G) (s : Snd) : Prop := 0 ≤ s.1 ∧ s.1 < (g.ss.length : Int) ∧ -32768 ≤ s.2.1 ∧ s.2.1 ≤ 32767 ∧ 0 ≤ s.2.2 ∧ s.2.2 ≤ 255
theorem lawSnd_ok {g : G} {l : List Snd} (hl : l.length ≤ 12) (h : ∀ s ∈ l, lawSnd g s) : soundE g l = 0 := by
  unfold soundE
  rw [if_neg (by omega)]
  refine sndsE_none g l fun j hj => ?_
  obtain ⟨a, b, c, d, e, f⟩ := h _ (List.getElem_mem hj)
  unfold sndE inG
  rw [if_pos (decide_eq_true ⟨a, b⟩), if_pos]
  rw [Bool.and_eq_true]
  exact ⟨decide_eq_true (by omega), decide_eq_true (by omega)⟩
theorem measR_want {g : G} {l : List Snd} (hg : checkE g = 0) (hl : l.length ≤ 12) (h : ∀ s ∈ l, lawSnd g s) :
    (∃ i : Nat, measR g l = ((i : Int), 14, zeroG) ∧ i < l.length ∧ (wantL g.ss l).any emptyB = true) ∨ (measR g l = (0, 0, ⟨g.W, g.H, g.S, wantL g.ss l⟩) ∧ (wantL g.ss l).any emptyB = false) := by
  unfold measR
  rw [if_pos hg, if_pos (lawSnd_ok hl h)]
  rcases meas_want l g.ss 0 (fun s hs => ⟨(h s hs).1, (h s hs).2.1⟩) (none_empty (valid_of hg)) with ⟨i, e1, e2, e3⟩ | ⟨e1, e2⟩
  · refine .inl ⟨i, ?_, e2, e3⟩
    rw [e1, Nat.zero_add]
  · refine .inr ⟨?_, e2⟩
    rw [e1]
/-- in whatever order: the same error and, with none, the same grid -/
theorem measR_rev {g : G} {l : List Snd} (hg : checkE g = 0) (hl : l.length ≤ 12) (h : ∀ s ∈ l, lawSnd g s) :
    (∃ i j : Nat, measR g l = ((i : Int), 14, zeroG) ∧ i < l.length ∧ measR g l.reverse = ((j : Int), 14, zeroG) ∧ (wantL g.ss l).any emptyB = true) ∨ (measR g l = (0, 0, ⟨g.W, g.H, g.S, wantL g.ss l⟩) ∧ measR g l.reverse = (0, 0, ⟨g.W, g.H, g.S, wantL g.ss l⟩) ∧ (wantL g.ss l).any emptyB = false) := by
  have h2 := measR_want hg (l := l.reverse) (by rw [List.length_reverse]; exact hl) (fun s hs => h s (List.mem_reverse.1 hs))
  rw [wantL_rev] at h2
  rcases measR_want hg hl h with ⟨i, e1, e2, e3⟩ | ⟨e1, e2⟩
  · rcases h2 with ⟨j, f1, _, _⟩ | ⟨_, f2⟩
    · exact .inl ⟨i, j, e1, e2, f1, e3⟩
    · rw [e3] at f2; cases f2
  · rcases h2 with ⟨j, _, _, f3⟩ | ⟨f1, _⟩
    · rw [e2] at f3; cases f3
    · exact .inr ⟨e1, f1, e2⟩
end Go.Proofs.YthcenmocnphnmaaGreatDoor
/-
  The state of GridOrder's loop: two rows of soundings, and what is left of the spans.
-/
namespace Go.Proofs.YthcenmocnphnmaaGreatDoor
open Go.RowKit Go.Shelf

def sndA (n : Nat) (cs hs es : List Int) (j : Nat) : Snd := (cs.getD j 0 % (n : Int), cyc hs j, cyc es j)
def sndL (n : Nat) (cs hs es : List Int) (q : Nat) : List Snd := (List.range q).map (sndA n cs hs es)
section
variable {n : Nat} {cs hs es : List Int}
theorem sndL_len (q : Nat) : (sndL n cs hs es q).length = q := by simp [sndL]
theorem sndL_next (q : Nat) : sndL n cs hs es (q + 1) = sndL n cs hs es q ++ [sndA n cs hs es q] := by
  unfold sndL
  rw [List.range_succ, List.map_append]
  rfl
theorem sndL_rev (q : Nat) : (sndL n cs hs es (q + 1)).reverse = sndA n cs hs es q :: (sndL n cs hs es q).reverse := by
  rw [sndL_next, List.reverse_append]
  rfl
theorem wantL_next (ss : List (Int × Int)) (l : List Snd) (s : Snd) : wantL ss (l ++ [s]) = (wantL ss l).set s.1.toNat (snd1 (wantL ss l) s) := by
  unfold wantL
  rw [List.foldl_append]
  rfl
end
theorem grown_refl (w : World) (row : Option Nat) : w.grownBy w row := ⟨rfl, rfl, rfl, Nat.le_refl _, fun _ _ _ => rfl⟩
theorem grown_below {U w w' : World} {row : Option Nat} (h : U.grownBy w row) (hb : Below w.heap.size w w') : U.grownBy w' row :=
  ⟨hb.os.trans h.os, hb.tape.trans h.tape, hb.output.trans h.output, Nat.le_trans h.size hb.size, fun k hk hn => (hb.block k (Nat.lt_of_lt_of_le hk h.size)).trans (h.block k hk hn)⟩
theorem grown_trans {U w w' : World} {row row' : Option Nat} (h : U.grownBy w row) (hb : w.grownBy w' row') (hr : ∀ k, row' = some k → k < U.heap.size → row = some k) : U.grownBy w' row :=
  ⟨hb.os.trans h.os, hb.tape.trans h.tape, hb.output.trans h.output, Nat.le_trans h.size hb.size, fun k hk hn => (hb.block k (Nat.lt_of_lt_of_le hk h.size) (fun e => hn (hr k e.symm hk).symm)).trans (h.block k hk hn)⟩
theorem blk_grown {w w' : World} {row : Option Nat} {b t : Nat} {cs : Array Value} (h : Blk w b t cs) (hg : w.grownBy w' row) (hne : some b ≠ row) : Blk w' b t cs := by
  have hl := h.lt
  unfold Blk at *
  rw [hg.block b hl hne]
  exact h
theorem lit_own1 {B : Nat} (w : World) (s : Snd) (h : B ≤ w.heap.size) : (w.alloc (.cells #[.int .i64 s.1, .int .i64 s.2.1, .int .i64 s.2.2] 51)).ownsRow B 51 3 (.slice (some ⟨w.heap.size, 0, none⟩) 1 1) 1 (sndCells [s]) :=
  World.ownsRow_lit (base := B) (e := 51) (size := 3) w #[.int .i64 s.1, .int .i64 s.2.1, .int .i64 s.2.2] 1 h (by decide) rfl
theorem lit_own2 {B : Nat} (w : World) (o : Obj) (s : Snd) (h : B ≤ w.heap.size) : ((w.alloc o).alloc (.cells #[.int .i64 s.1, .int .i64 s.2.1, .int .i64 s.2.2] 51)).ownsRow B 51 3 (.slice (some ⟨w.heap.size + 1, 0, none⟩) 1 1) 1 (sndCells [s]) := by
  have e : (w.alloc o).heap.size = w.heap.size + 1 := by simp
  have := lit_own1 (B := B) (w.alloc o) s (by omega)
  rw [e] at this
  exact this
theorem lit_at1 (w : World) (o p : Obj) : ((w.alloc o).alloc p).heap[w.heap.size + 1]? = some p := by
  have e : (w.alloc o).heap.size = w.heap.size + 1 := by simp
  have := heap_alloc_new (w.alloc o) p
  rw [e] at this
  exact this
structure OrdSt (B : Nat) (w0 w : World) (la lb : List Snd) (ws : List (Int × Int)) (va vb : Value) (gw cw : Nat) : Prop where
  a : w.ownsRow B 51 3 va la.length (sndCells la)
  b : w.ownsRow B 51 3 vb lb.length (sndCells lb)
  want : w.ownsRow B 34 2 (.slice (some ⟨gw, 0, none⟩) ws.length cw) ws.length (spanCells ws)
  ne : vb.ownBlock = none ∨ vb.ownBlock ≠ va.ownBlock
  bel : Below B w0 w
  le : B ≤ w.heap.size
section
variable {B gw cw : Nat} {w0 w w' : World} {la lb : List Snd} {ws : List (Int × Int)} {va vb : Value}
theorem OrdSt.below (h : OrdSt B w0 w la lb ws va vb gw cw) (hb : Below w.heap.size w w') : OrdSt B w0 w' la lb ws va vb gw cw :=
  ⟨own_below h.a hb (Nat.le_refl _), own_below h.b hb (Nat.le_refl _), own_below h.want hb (Nat.le_refl _), h.ne, h.bel.trans (hb.mono h.le), Nat.le_trans h.le hb.size⟩
/-- behind both appends -/
structure OrdAp (B : Nat) (U w : World) (la lb : List Snd) (va p q : Value) : Prop where
  a : w.ownsRow B 51 3 p la.length (sndCells la)
  b : w.ownsRow B 51 3 q lb.length (sndCells lb)
  ne : q.ownBlock = none ∨ q.ownBlock ≠ p.ownBlock
  gr : U.grownBy w va.ownBlock
theorem ord_grow {U Ua W1 Ub W2 : World} {s : Snd} {X g1 c1 : Nat} {v2 : Value} (h1 : Below U.heap.size U Ua)
    (ha : W1.ownsRow B 51 3 (.slice (some ⟨g1, 0, none⟩) (la.length + 1) c1) (la.length + 1) (sndCells la ++ sndCells [s])) (hg1 : Ua.grownBy W1 va.ownBlock)
    (h2 : Below W1.heap.size W1 Ub) (hX : U.heap.size ≤ X) (hXg : g1 ≠ X)
    (hb : W2.ownsRow B 51 3 v2 (1 + lb.length) (sndCells [s] ++ sndCells lb)) (hg2 : Ub.grownBy W2 (some X)) (hgb : v2.ownBlock = some X ∨ v2.ownBlock = some Ub.heap.size) :
    OrdAp B U W2 (la ++ [s]) (s :: lb) va (.slice (some ⟨g1, 0, none⟩) (la.length + 1) c1) v2 := by
  have hga := (ha.lt g1 rfl).2
  refine ⟨?_, ?_, ?_, ?_⟩
  · have k := (own_below ha h2 (Nat.le_refl _)).kept hg2 (.inr (fun e => hXg (Option.some.inj e)))
    rw [sndCells_append, List.length_append]
    exact k
  · have e : (s :: lb).length = 1 + lb.length := by rw [List.length_cons]; omega
    rw [e]
    have e2 : sndCells (s :: lb) = sndCells [s] ++ sndCells lb := sndCells_append [s] lb
    rw [e2]
    exact hb
  · right
    rcases hgb with e | e
    · rw [e]
      exact fun e => hXg (Option.some.inj e).symm
    · rw [e]
      intro e
      have e : Ub.heap.size = g1 := Option.some.inj e
      have := h2.size
      omega
  · have k1 : U.grownBy Ua va.ownBlock := grown_below (grown_refl _ _) h1
    have k2 := grown_trans k1 hg1 (fun k e _ => e)
    have k3 := grown_below k2 h2
    exact grown_trans k3 hg2 (fun k e hk => by injection e with e; omega)
/-- behind the stores -/
theorem ord_next {U W : World} {s : Snd} {p q : Value} {c : Nat} {lo hi : Int} (h : OrdSt B w0 U la lb ws va vb gw cw) (k : OrdAp B U W (la ++ [s]) (s :: lb) va p q) (hc : c < ws.length) (n : Nat) :
    OrdSt B w0 (((W.setCell ⟨gw, c * 2, none⟩ (.int .i64 lo)).setCell ⟨gw, c * 2 + 1, none⟩ (.int .i64 hi)).drewN n) (la ++ [s]) (s :: lb) (ws.set c (lo, hi)) p q gw cw := by
  have hw : W.ownsRow B 34 2 (.slice (some ⟨gw, 0, none⟩) ws.length cw) ws.length (spanCells ws) := h.want.kept k.gr (own_own_ne h.a h.want (by decide))
  have ka := own_own_ne hw k.a (by decide)
  have kb := own_own_ne hw k.b (by decide)
  have na : p.ownBlock ≠ some gw := by
    rcases ka with e | e
    · rw [e]; simp
    · exact e
  have nb : q.ownBlock ≠ some gw := by
    rcases kb with e | e
    · rw [e]; simp
    · exact e
  have hgw := (hw.lt gw rfl).1
  have ha := (h.a).lt
  refine OrdSt.below (w := (W.setCell ⟨gw, c * 2, none⟩ (.int .i64 lo)).setCell ⟨gw, c * 2 + 1, none⟩ (.int .i64 hi)) ⟨own_set (own_set k.a na _) na _, own_set (own_set k.b nb _) nb _, ?_, k.ne, ?_, ?_⟩ (Below.drewN' (Below.refl _ _) _)
  · rw [List.length_set]
    exact own_spans_set hw hc lo hi
  · exact ((h.bel.grown k.gr h.le (fun j e => (ha j e).1)).setCell (by exact hgw) _).setCell (by exact hgw) _
  · have := k.gr.size
    have := h.le
    simp only [World.size_setCell]
    omega
end
end Go.Proofs.YthcenmocnphnmaaGreatDoor
/-
  GridOrder returns true.
-/
namespace Go.Proofs.YthcenmocnphnmaaGreatDoor
open Go.RowKit Go.Shelf

theorem grid_spans {w : World} {B : Nat} {a b c v : Value} {g : G} (h : GridAt w B (.agg #[a, b, c, v]) g) : SpansAt w B v g.ss := by
  obtain ⟨u, e, h⟩ := h
  injection e with e
  injection e with e
  injection e with _ e
  injection e with _ e
  injection e with _ e
  injection e with e _
  rw [e]
  exact h
theorem sndA_law {g : G} (hp : 0 < g.ss.length) {cs hs es : List Int} (h2 : ∀ z ∈ hs, -32768 ≤ z ∧ z ≤ 32767) (h3 : ∀ z ∈ es, 0 ≤ z ∧ z ≤ 255) (j : Nat) : lawSnd g (sndA g.ss.length cs hs es j) := by
  have a := Int.emod_nonneg (cs.getD j 0) (show (g.ss.length : Int) ≠ 0 by omega)
  have b := Int.emod_lt_of_pos (cs.getD j 0) (show (0 : Int) < g.ss.length by omega)
  have c := cyc_rng h2 (by omega) j
  have d := cyc_rng h3 (by omega) j
  exact ⟨a, b, c.1, c.2, d.1, d.2⟩
theorem sndL_law {g : G} (hp : 0 < g.ss.length) {cs hs es : List Int} (h2 : ∀ z ∈ hs, -32768 ≤ z ∧ z ≤ 32767) (h3 : ∀ z ∈ es, 0 ≤ z ∧ z ≤ 255) (q : Nat) : ∀ s ∈ sndL g.ss.length cs hs es q, lawSnd g s := by
  intro s hs
  obtain ⟨j, _, rfl⟩ := List.mem_map.1 hs
  exact sndA_law hp h2 h3 j
theorem sndCells_one (l : List Snd) : ∀ u ∈ sndCells l, u.oneCell' = true := by
  intro u hu
  unfold sndCells at hu
  rw [List.mem_flatMap] at hu
  obtain ⟨s, _, hu⟩ := hu
  simp at hu
  rcases hu with rfl | rfl | rfl <;> rfl
theorem any_take_snoc {α : Type} (p : α → Bool) (l : List α) (k : Nat) (h : k < l.length) : (l.take (k + 1)).any p = ((l.take k).any p || p l[k]) := by
  rw [take_snoc l k h, List.any_append]
  simp
theorem snd_info : (Tryz.prog.info? 51).map (fun i => (i.zero, i.size, i.bytes)) = some (some (.agg #[.int .i64 0, .int .i64 0, .int .i64 0]), 3, 24) := by kernel_rfl
set_option maxRecDepth 100000 in
set_option maxHeartbeats 8000000 in
theorem GridOrder_any (W H : Int) (x y z1 z2 z3 : Value) (low more cs hs es : List Int) (w : World) (hW : 0 ≤ W ∧ W ≤ 255) (hH : 0 ≤ H ∧ H ≤ 255)
    (hx : NumsAt .i16 w w.heap.size x low) (hy : NumsAt .u8 w w.heap.size y more) (hz1 : NumsAt .u8 w w.heap.size z1 cs) (hz2 : NumsAt .i16 w w.heap.size z2 hs) (hz3 : NumsAt .u8 w w.heap.size z3 es)
    (hxr : ∀ z ∈ low, -32768 ≤ z ∧ z ≤ 32767) (hyr : ∀ z ∈ more, 0 ≤ z ∧ z ≤ 255) (hcr : ∀ z ∈ cs, 0 ≤ z ∧ z ≤ 255) (hhr : ∀ z ∈ hs, -32768 ≤ z ∧ z ≤ 32767) (her : ∀ z ∈ es, 0 ≤ z ∧ z ≤ 255) (hv : LV w) :
    Calls Tryz.prog 10 #[.agg #[.int .u8 W, .int .u8 H, x, y], z1, z2, z3] w fun e w' => e = .returned (.bool true) ∧ Below w.heap.size w w' := by
  have HX := Lib.hid hx
  have HY := Lib.hid hy
  have HZ1 := Lib.hid hz1
  have HZ2 := Lib.hid hz2
  have HZ3 := Lib.hid hz3
  have HXR := Lib.hid (And.intro hxr (And.intro hyr (And.intro hcr (And.intro hhr her))))
  have HLV := Lib.hid hv
  have HM1 := Lib.hid (made_ok hW.1 hH.1 hxr hyr)
  have HL1 := Lib.hid (made_len25 hW.1 hH.1 low more)
  obtain ⟨A1, k1, rfl, hk1, hm1⟩ := hx.open_
  obtain ⟨A2, k2, rfl, hk2, hm2⟩ := hy.open_
  obtain ⟨A3, k3, rfl, hk3, hm3⟩ := hz1.open_
  obtain ⟨A4, k4, rfl, hk4, hm4⟩ := hz2.open_
  obtain ⟨A5, k5, rfl, hk5, hm5⟩ := hz3.open_
  clear hx hy hz1 hz2 hz3 hxr hyr hcr hhr her hv
  obtain ⟨W1, hW1⟩ : ∃ W1, w.alloc (.cells #[.int .u8 W, .int .u8 H, .slice A1 low.length k1, .slice A2 more.length k2] 64) = W1 := ⟨_, rfl⟩
  have HB0 : Hid (Below w.heap.size w W1) := by rw [← hW1]; exact (by repeat (first | exact Below.refl _ _ | assumption | refine Below.drew ?_ | refine Below.drewN' ?_ _ | (refine Below.alloc ?_ (by simp <;> omega) _) | (refine Below.setCell ?_ (by simp <;> omega) _)))
  have HK0 : Hid (Blk W1 w.heap.size 64 #[.int .u8 W, .int .u8 H, .slice A1 low.length k1, .slice A2 more.length k2]) := by rw [← hW1]; exact Blk.new' _ _ _ rfl
  have HW1 := Lib.hid hW1
  clear hW1
  go_enter Tryz.func10, Tryz.ntmps10
  go_upto_region 1 with (fail)
  rw [HW1.out]
  by_cases hbig : 12 < cs.length
  · have hb : (12 : Int) < (cs.length : Int) := by omega
    go_wp2_with fail
    refine (works_any _ (HLV.out.below HB0.out)).mono ?_
    rintro e w2 ⟨rfl, hb2⟩
    have HB2 := Lib.hid (HB0.out.trans (hb2.mono HB0.out.size))
    clear hb2
    go_wp2
    go_ret
    exact ⟨rfl, HB2.out⟩
  have hb : ¬ (12 : Int) < (cs.length : Int) := by omega
  by_cases he2 : hs.length = 0
  · have hb2 : ((hs.length : Int) == 0) = true := by rw [he2]; rfl
    clear he2 hbig
    go_wp2_with fail
    refine (works_any _ (HLV.out.below HB0.out)).mono ?_
    rintro e w2 ⟨rfl, hb2x⟩
    have HB2 := Lib.hid (HB0.out.trans (hb2x.mono HB0.out.size))
    clear hb2x
    go_wp2
    go_ret
    exact ⟨rfl, HB2.out⟩
  have hb2 : ((hs.length : Int) == 0) = false := by rw [beq_eq_false_iff_ne]; omega
  by_cases he3 : es.length = 0
  · have hb3 : ((es.length : Int) == 0) = true := by rw [he3]; rfl
    clear he3 hbig he2
    go_wp2_with fail
    refine (works_any _ (HLV.out.below HB0.out)).mono ?_
    rintro e w2 ⟨rfl, hb2x⟩
    have HB2 := Lib.hid (HB0.out.trans (hb2x.mono HB0.out.size))
    clear hb2x
    go_wp2
    go_ret
    exact ⟨rfl, HB2.out⟩
  have hb3 : ((es.length : Int) == 0) = false := by rw [beq_eq_false_iff_ne]; omega
  have HS12 : Hid (cs.length ≤ 12) := by rw [Hid]; omega
  have HS2 : Hid (0 < hs.length) := by rw [Hid]; omega
  have HS3 : Hid (0 < es.length) := by rw [Hid]; omega
  clear hbig he2 he3
  have d0 : W1.cell? ⟨w.heap.size, 0, none⟩ = some (.int .u8 W) := HK0.out.cell 0
  have d1 : W1.cell? ⟨w.heap.size, 1, none⟩ = some (.int .u8 H) := HK0.out.cell 1
  have d2 : W1.cell? ⟨w.heap.size, 2, none⟩ = some (.slice A1 low.length k1) := HK0.out.cell 2
  have d3 : W1.cell? ⟨w.heap.size, 3, none⟩ = some (.slice A2 more.length k2) := HK0.out.cell 3
  go_wp2_with fail
  refine (made_any W H _ _ low more _ hW hH (HX.out.later HB0.out (Nat.le_refl _)) (HY.out.later HB0.out (Nat.le_refl _)) HXR.out.1 HXR.out.2.1).mono ?_
  rintro e w2 ⟨x2, rfl, hg2, hb2', -⟩
  have HG2 := Lib.hid hg2
  obtain ⟨g, hg⟩ : ∃ g, madeG W H low more = g := ⟨_, rfl⟩
  rw [hg] at HG2 HM1 HL1 hg2
  clear hg
  have HVv := Lib.hid (valid_of HM1.out)
  have hpos := HVv.out.pos
  have hL25 := HL1.out
  obtain ⟨v2, rfl, hs2⟩ := hg2
  obtain ⟨B2, c2, rfl, _, _⟩ := hs2.open_
  have HB2 := Lib.hid (HB0.out.trans (hb2'.mono HB0.out.size))
  clear hb2' hs2 d0 d1 d2 d3 hb hb2 hb3
  go_upto_region 5 with (fail)
  obtain ⟨V2, hV2⟩ : ∃ V, w2.alloc (.cells #[.int .i64 g.W, .int .i64 g.H, .int .i64 g.S, .slice B2 g.ss.length c2] 24) = V := ⟨_, rfl⟩
  have HVB2 : Hid (Below w2.heap.size w2 V2) := by rw [← hV2]; exact (by repeat (first | exact Below.refl _ _ | assumption | refine Below.drew ?_ | refine Below.drewN' ?_ _ | (refine Below.alloc ?_ (by simp <;> omega) _) | (refine Below.setCell ?_ (by simp <;> omega) _)))
  have HVK2 : Hid (Blk V2 w2.heap.size 24 #[.int .i64 g.W, .int .i64 g.H, .int .i64 g.S, .slice B2 g.ss.length c2]) := by rw [← hV2]; exact Blk.new' _ _ _ rfl
  rw [hV2]
  clear hV2
  have HBV2 := Lib.hid (HB2.out.trans (HVB2.out.mono HB2.out.size))
  have HGV2 := Lib.hid (HG2.out.later HVB2.out (Nat.le_refl _))
  clear HG2 HVB2
  obtain ⟨bg, og, rfl, hbg, hn⟩ := (grid_spans HGV2.out).news (by omega)
  have Hn : Hid (∀ j u, (spanCells g.ss)[j]? = some u → (V2.alloc (.cells #[] 34)).cell? ((⟨bg, og, none⟩ : Addr).add j) = some u) := fun j u hu => ((Below.refl _ _).alloc (Nat.le_refl _) _ |>.cell (p := (⟨bg, og, none⟩ : Addr).add j) (by unfold Addr.add; split <;> simpa using hbg)).trans (hn j u hu)
  have hown0 : (V2.alloc (.cells #[] 34)).ownsRow V2.heap.size 34 2 (.slice (some ⟨V2.heap.size, 0, none⟩) 0 0) 0 [] := by
    have := World.ownsRow_lit (base := V2.heap.size) (e := 34) (size := 2) V2 #[] 0 (by simp) (by decide) rfl
    simpa using this
  have Hown0 := Lib.hid hown0
  clear hn hbg hown0
  obtain ⟨i0, hi0, hz0, hz1, hz2⟩ := info_parts span_info
  have lk : w2.heap.size < V2.heap.size := HVK2.out.lt
  obtain ⟨p0, p1, p2, p3⟩ := grid_parts HVK2.out
  go_wp2_with (at_builtin; ((refine wpList_append_own _ rfl (.tmp 42) (.tmp 44) 22 rfl V2.heap.size 34 i0 (.agg #[.int .i64 0, .int .i64 0]) 2 16 Tryz.underlying22 hi0 hz0 hz1 hz2 rfl (by decide) _ 0 [] rfl Hown0.out ⟨bg, og, none⟩ g.ss.length c2 (spanCells g.ss) rfl (spanCells_length g.ss) Hn.out (spanCells_one g.ss) (by unfold maxLen; omega) (by omega) (by simp) ?_; intro v5 w5 hown1 hg1 hnil; rw [Nat.zero_add, List.nil_append] at hown1; clear hnil; obtain ⟨gw, cw, rfl, hgb, hgl, hnc⟩ := own_shape hown1 hpos; have H1 := Lib.hid hown1; have Hb := Lib.hid ((Below.refl V2.heap.size _).grown hg1 (by simp) (fun k e => (Hown0.out.lt k e).1)); clear hown1 hg1)))
  clear p0 p1 p2 p3 hi0 hz0 hz1 hz2 hgb hgl hnc
  have HB5a : Hid (Below V2.heap.size V2 w5) := ((Below.refl V2.heap.size V2).alloc (Nat.le_refl _) _).trans Hb.out
  have HB5 := Lib.hid (HBV2.out.trans (HB5a.out.mono HBV2.out.size))
  have HK5 := Lib.hid (HVK2.out.below HB5a.out HVK2.out.lt)
  have hsz5 := HB5a.out.size
  have H0 : Hid (OrdSt V2.heap.size V2 w5 (sndL g.ss.length cs hs es 0) (sndL g.ss.length cs hs es 0).reverse (wantL g.ss (sndL g.ss.length cs hs es 0)) (.slice none 0 0) (.slice none 0 0) gw cw) := ⟨World.ownsRow_nil _ _ _ _, World.ownsRow_nil _ _ _ _, H1.out, .inl rfl, HB5a.out, hsz5⟩
  clear H1 Hb HB5a Hn Hown0
  obtain ⟨i1, hi1, hy0, hy1, hy2⟩ := info_parts snd_info
  go_loopw [10, 11, 48] (fun a b i wr => ∃ (q : Nat) (va vb : Value), va = a ∧ vb = b ∧ q ≤ cs.length ∧ i = .int .i64 q ∧ Hid (q = 0 → vb = .slice none 0 0) ∧ Hid (OrdSt V2.heap.size V2 wr (sndL g.ss.length cs hs es q) (sndL g.ss.length cs hs es q).reverse (wantL g.ss (sndL g.ss.length cs hs es q)) va vb gw cw)) (fun _ _ i _ => cs.length - (intOf i).toNat)
  case atStart => exact ⟨0, _, _, rfl, rfl, Nat.zero_le _, rfl, fun _ => rfl, H0.out⟩
  case round =>
    obtain ⟨q, va, vb, rfl, rfl, hq, rfl, HNil, Hst⟩ := hrel
    have HBw := Lib.hid (HBV2.out.trans (Hst.out.bel.mono HBV2.out.size))
    have HKr := Lib.hid (HVK2.out.below Hst.out.bel HVK2.out.lt)
    have hler := Hst.out.le
    have h12 := HS12.out
    by_cases hlt : q < cs.length
    · obtain ⟨d0, d1, d2, d3⟩ := grid_parts HKr.out
      clear d0 d1 d2
      have hq0 : (0 : Int) ≤ (q : Int) := by omega
      have hq1 : (q : Int) < (cs.length : Int) := by omega
      have hp2 := HS2.out
      have hp3 := HS3.out
      obtain ⟨r2, hr2⟩ : ∃ r, q % hs.length = r := ⟨_, rfl⟩
      obtain ⟨r3, hr3⟩ : ∃ r, q % es.length = r := ⟨_, rfl⟩
      have hl2 : r2 < hs.length := by rw [← hr2]; exact Nat.mod_lt _ hp2
      have hl3 : r3 < es.length := by rw [← hr3]; exact Nat.mod_lt _ hp3
      have tm2 : (q : Int).tmod (hs.length : Int) = (r2 : Int) := by rw [← hr2]; exact (Int.ofNat_tmod q hs.length).symm
      have tm3 : (q : Int).tmod (es.length : Int) = (r3 : Int) := by rw [← hr3]; exact (Int.ofNat_tmod q es.length).symm
      obtain ⟨b1, o1, rfl, hb1, f1⟩ := (HZ1.out.below HBw.out).at_ hlt
      obtain ⟨b2, o2, rfl, hb2, f2⟩ := (HZ2.out.below HBw.out).at_ hl2
      obtain ⟨b3, o3, rfl, hb3, f3⟩ := (HZ3.out.below HBw.out).at_ hl3
      have Hh : Hid (cyc hs q = hs[r2]) := by
        rw [Hid, cyc, if_neg (by omega), hr2, val, List.getD_eq_getElem?_getD, List.getElem?_eq_getElem hl2]; rfl
      have He : Hid (cyc es q = es[r3]) := by
        rw [Hid, cyc, if_neg (by omega), hr3, val, List.getD_eq_getElem?_getD, List.getElem?_eq_getElem hl3]; rfl
      have Hc : Hid (cs.getD q 0 = cs[q]) := by
        rw [Hid, List.getD_eq_getElem?_getD, List.getElem?_eq_getElem hlt]; rfl
      have rc := HXR.out.2.2.1 _ (List.getElem_mem hlt)
      have rh := HXR.out.2.2.2.1 _ (List.getElem_mem hl2)
      have re := HXR.out.2.2.2.2 _ (List.getElem_mem hl3)
      clear hr2 hr3
      generalize cs[q] = c at *
      generalize hs[r2] = h at *
      generalize es[r3] = e at *
      obtain ⟨rc1, rc2⟩ := rc
      obtain ⟨rh1, rh2⟩ := rh
      obtain ⟨re1, re2⟩ := re
      obtain ⟨k, hk⟩ : ∃ k : Nat, c % (g.ss.length : Int) = k := ⟨(c % (g.ss.length : Int)).toNat, by have := Int.emod_nonneg c (show (g.ss.length : Int) ≠ 0 by omega); omega⟩
      have hkl : k < g.ss.length := by have := Int.emod_lt_of_pos c (show (0 : Int) < (g.ss.length : Int) by omega); omega
      have tmc : c.tmod (g.ss.length : Int) = (k : Int) := by rw [Int.tmod_eq_emod_of_nonneg rc1]; exact hk
      have HSnd : Hid (sndA g.ss.length cs hs es q = ((k : Int), h, e)) := by rw [Hid, sndA, Hc.out, Hh.out, He.out, hk]
      clear hk
      have wrc : IntKind.i64.wrap c = c := IntWalk.i64_in _ (by omega)
      have wh : IntKind.i64.wrap h = h := IntWalk.i64_in _ (by omega)
      have we : IntKind.i64.wrap e = e := IntWalk.i64_in _ (by omega)
      have n1 : ((g.ss.length : Int) == 0) = false := by rw [beq_eq_false_iff_ne]; omega
      have n2 : ((hs.length : Int) == 0) = false := by rw [beq_eq_false_iff_ne]; omega
      have n3 : ((es.length : Int) == 0) = false := by rw [beq_eq_false_iff_ne]; omega
      have n4 : ¬ (g.ss.length : Int) = 0 := by omega
      have n5 : ¬ (hs.length : Int) = 0 := by omega
      have n6 : ¬ (es.length : Int) = 0 := by omega
      have n7 : ¬ g.ss.length = 0 := by omega
      have n8 : ¬ hs.length = 0 := by omega
      have n9 : ¬ es.length = 0 := by omega
      have x1 : (0 : Int) ≤ (r2 : Int) := by omega
      have x2 : (r2 : Int) < (hs.length : Int) := by omega
      have x3 : (0 : Int) ≤ (r3 : Int) := by omega
      have x4 : (r3 : Int) < (es.length : Int) := by omega
      go_upto_region 9 with (fail)
      go_cut [15] from 53 to 76 (fun p wx => p = .pointer (some ⟨wr.heap.size, 0, none⟩) ∧ Blk wx wr.heap.size 51 #[.int .i64 k, .int .i64 h, .int .i64 e] ∧ Below wr.heap.size wr wx ∧ wx.heap.size = wr.heap.size + 1)
      case first =>
        go_region_held3 (fun w' => w'.cell? ⟨w2.heap.size, 3, none⟩ = some (.slice (some ⟨bg, og, none⟩) g.ss.length c2) ∧ w'.cell? ⟨b2, o2 + r2, none⟩ = some (.int .i16 h) ∧ w'.cell? ⟨b3, o3 + r3, none⟩ = some (.int .u8 e))
          (first | assumption | (refine ⟨?_, ?_, ?_⟩ <;> assumption) | go_keep)
          (fail)
        all_goals
          go_wp2_with fail
          go_meet
          exact ⟨rfl, by (repeat (first | exact Blk.new' _ _ _ (by simp; done) | refine Blk.drew ?_ | refine Blk.drewN ?_ _ | refine Blk.alloc ?_ _)), (by repeat (first | exact Below.refl _ _ | assumption | refine Below.drew ?_ | refine Below.drewN' ?_ _ | (refine Below.alloc ?_ (by simp <;> omega) _) | (refine Below.setCell ?_ (by simp <;> omega) _))), by simp⟩
      case rest =>
        obtain ⟨rfl, hbk, hbl, hsz⟩ := hcut
        have HBk := Lib.hid hbk
        have HBl := Lib.hid hbl
        have HsU := Lib.hid hsz
        have HstU := Lib.hid (Hst.out.below hbl)
        have HLa : Hid (∀ j, va.ownBlock = some j → j < wr.heap.size) := fun j e => (Hst.out.a.lt j e).2
        have hle0 := HstU.out.le
        clear hbk hbl hsz tm2 tm3 tmc wrc wh we n1 n2 n3 n4 n5 n6 n7 n8 n9 x1 x2 x3 x4 f1 f2 f3 d3
        obtain ⟨U, rfl⟩ : ∃ U, U = wc := ⟨_, rfl⟩
        have hUw : wr.heap.size < U.heap.size := HBk.out.lt
        have hle : V2.heap.size ≤ U.heap.size := hle0
        have hlq : (sndL g.ss.length cs hs es q).length = q := sndL_len q
        have hLQ : (sndL g.ss.length cs hs es q).length ≤ 12 := by omega
        have hLR : (sndL g.ss.length cs hs es q).reverse.length ≤ 12 := by rw [List.length_reverse]; omega
        have HR0 : Hid (q ≠ 0 → 0 < (sndL g.ss.length cs hs es q).reverse.length) := fun h => by rw [List.length_reverse]; omega
        have HRn : Hid (q = 0 → (sndL g.ss.length cs hs es q).reverse = []) := fun h => by subst h; rfl
        have HLN := Lib.hid (And.intro (sndL_next (n := g.ss.length) (cs := cs) (hs := hs) (es := es) q) (sndL_rev (n := g.ss.length) (cs := cs) (hs := hs) (es := es) q))
        rw [HSnd.out] at HLN
        clear hlq
        generalize (sndL g.ss.length cs hs es q).reverse = LR at *
        generalize sndL g.ss.length cs hs es q = LQ at *
        have HOa := Lib.hid HstU.out.a
        have HOb := Lib.hid HstU.out.b
        have HNe := Lib.hid HstU.out.ne
        have HSg : Hid (∀ W, U.grownBy W va.ownBlock → W.cell? ⟨wr.heap.size, 0, none⟩ = some (.int .i64 k) ∧ W.cell? ⟨wr.heap.size, 1, none⟩ = some (.int .i64 h) ∧ W.cell? ⟨wr.heap.size, 2, none⟩ = some (.int .i64 e)) := fun W hg => by
          have b := blk_grown HBk.out hg (fun e => by have := HLa.out _ e.symm; omega)
          exact ⟨b.cell 0, b.cell 1, b.cell 2⟩
        have t0 : U.cell? ⟨wr.heap.size, 0, none⟩ = some (.int .i64 k) := HBk.out.cell 0
        have t1 : U.cell? ⟨wr.heap.size, 1, none⟩ = some (.int .i64 h) := HBk.out.cell 1
        have t2 : U.cell? ⟨wr.heap.size, 2, none⟩ = some (.int .i64 e) := HBk.out.cell 2
        go_upto_region 10 with (fail)
        go_cut [10, 11] from 76 to 84 (fun p r wx => OrdAp V2.heap.size U wx (LQ ++ [((k : Int), h, e)]) (((k : Int), h, e) :: LR) va p r)
        case first =>
          clear t0 t1 t2
          by_cases h0 : q = 0
          · obtain rfl : vb = .slice none 0 0 := HNil.out h0
            obtain rfl : LR = [] := HRn.out h0
            clear h0 HR0
            refine wp_region_noPanic ?_
            refine wp_region_held_drew (S := (fun w' => w'.cell? ⟨wr.heap.size, 0, none⟩ = some (.int .i64 k) ∧ w'.cell? ⟨wr.heap.size, 1, none⟩ = some (.int .i64 h) ∧ w'.cell? ⟨wr.heap.size, 2, none⟩ = some (.int .i64 e))) (by kernel_rfl) ?_ (fun hHeld => ?_)
            · (try dsimp only); (first | (refine HSg.out _ (grown_below (grown_refl _ _) ?_); ((repeat (first | exact Below.refl _ _ | assumption | refine Below.drew ?_ | refine Below.drewN' ?_ _ | (refine Below.alloc ?_ (by simp <;> omega) _) | (refine Below.setCell ?_ (by simp <;> omega) _))); done)) | (refine HSg.out _ (grown_below HGa.out ?_); ((repeat (first | exact Below.refl _ _ | assumption | refine Below.drew ?_ | refine Below.drewN' ?_ _ | (refine Below.alloc ?_ (by simp <;> omega) _) | (refine Below.setCell ?_ (by simp <;> omega) _))); done)) | (refine HSg.out _ (grown_below HGb.out ?_); ((repeat (first | exact Below.refl _ _ | assumption | refine Below.drew ?_ | refine Below.drewN' ?_ _ | (refine Below.alloc ?_ (by simp <;> omega) _) | (refine Below.setCell ?_ (by simp <;> omega) _))); done)))
            refine wpAnyH_take (i := 0) (oi := { dst := some 76, op := Op.move (Operand.tmp 10), type := 48, pos := "outright.go:214", after := #[], guard := none }) (v := ?_) rfl (by kernel_rfl) (by kernel_rfl) (by kernel_rfl) (fun _ _ _ h => h) (Or.inl ⟨by rfl, ?_⟩) (by assumption) ?_
            rotate_left
            · ((intro w hSw; (try dsimp only at hSw); go_simp) <;> with_reducible rfl)
            try simp only [Act.put, List.setIfInBounds_toArray, List.set_cons_zero, List.set_cons_succ]
            refine wpAnyH_take (i := 1) (oi := { dst := some 77, op := Op.load 51 (Operand.tmp 15), type := 51, pos := "outright.go:214", after := #[], guard := none }) (v := ?_) rfl (by kernel_rfl) (by kernel_rfl) (by kernel_rfl) (fun _ _ _ h => h) (Or.inl ⟨by rfl, ?_⟩) (by assumption) ?_
            rotate_left
            · ((intro w hSw; (try dsimp only at hSw); go_simp) <;> with_reducible rfl)
            try simp only [Act.put, List.setIfInBounds_toArray, List.set_cons_zero, List.set_cons_succ]
            refine wpAnyH_take (i := 4) (oi := { dst := some 80, op := Op.load 51 (Operand.tmp 15), type := 51, pos := "outright.go:214", after := #[], guard := none }) (v := ?_) rfl (by kernel_rfl) (by kernel_rfl) (by kernel_rfl) (fun _ _ _ h => h) (Or.inl ⟨by rfl, ?_⟩) (by assumption) ?_
            rotate_left
            · ((intro w hSw; (try dsimp only at hSw); go_simp) <;> with_reducible rfl)
            try simp only [Act.put, List.setIfInBounds_toArray, List.set_cons_zero, List.set_cons_succ]
            refine wpAnyH_take (i := 6) (oi := { dst := some 82, op := Op.move (Operand.tmp 11), type := 48, pos := "outright.go:214", after := #[], guard := none }) (v := ?_) rfl (by kernel_rfl) (by kernel_rfl) (by kernel_rfl) (fun _ _ _ h => h) (Or.inl ⟨by rfl, ?_⟩) (by assumption) ?_
            rotate_left
            · ((intro w hSw; (try dsimp only at hSw); go_simp) <;> with_reducible rfl)
            try simp only [Act.put, List.setIfInBounds_toArray, List.set_cons_zero, List.set_cons_succ]
            refine wpAnyH_ready (rs := [2, 5]) (by kernel_rfl) (by simp) ?_
            refine AllReadyH.cons (o := { dst := some 78, op := Op.buildSlice 48 1 #[(0, Operand.tmp 77)], type := 48, pos := "outright.go:214", after := #[{ on := 1, ground := Ground.data }], guard := none }) rfl (fun K hK => ?_) ?_
            ·
              go_simp
              refine hK.out _ _ ?_ (fun hHeld => ?_)
              · (try dsimp only); (first | (refine HSg.out _ (grown_below (grown_refl _ _) ?_); ((repeat (first | exact Below.refl _ _ | assumption | refine Below.drew ?_ | refine Below.drewN' ?_ _ | (refine Below.alloc ?_ (by simp <;> omega) _) | (refine Below.setCell ?_ (by simp <;> omega) _))); done)) | (refine HSg.out _ (grown_below HGa.out ?_); ((repeat (first | exact Below.refl _ _ | assumption | refine Below.drew ?_ | refine Below.drewN' ?_ _ | (refine Below.alloc ?_ (by simp <;> omega) _) | (refine Below.setCell ?_ (by simp <;> omega) _))); done)) | (refine HSg.out _ (grown_below HGb.out ?_); ((repeat (first | exact Below.refl _ _ | assumption | refine Below.drew ?_ | refine Below.drewN' ?_ _ | (refine Below.alloc ?_ (by simp <;> omega) _) | (refine Below.setCell ?_ (by simp <;> omega) _))); done)))
              clear hK K
              try simp only [Act.put, List.setIfInBounds_toArray, List.set_cons_zero, List.set_cons_succ]
              refine wpAnyH_ready (rs := [3, 5]) (by kernel_rfl) (by simp) ?_
              refine AllReadyH.cons (o := { dst := some 79, op := Op.call { callee := Callee.builtin Builtin.append, args := #[Operand.tmp 76, Operand.tmp 78], argTypes := #[48, 48] }, type := 48, pos := "outright.go:214", after := #[{ on := 0, ground := Ground.data }, { on := 2, ground := Ground.data }], guard := none }) rfl (fun K hK => ?_) ?_
              ·
                ((refine step_append_lies _ (by rfl) (.tmp 76) (.tmp 78) _ (by rfl) V2.heap.size 51 i1 _ 3 24 Tryz.underlying48 hi1 hy0 hy1 hy2 rfl (by omega) va LQ.length (sndCells LQ) (by rfl) (own_below HOa.out (by exact (by repeat (first | exact Below.refl _ _ | assumption | refine Below.drew ?_ | refine Below.drewN' ?_ _ | (refine Below.alloc ?_ (by simp <;> omega) _) | (refine Below.setCell ?_ (by simp <;> omega) _)))) (Nat.le_refl _)) ⟨U.heap.size, 0, none⟩ 1 1 [.int .i64 k, .int .i64 h, .int .i64 e] (by rfl) (by rfl) (World.news_of_block (cs := #[.int .i64 k, .int .i64 h, .int .i64 e]) (t := 51) (fr := (0, 0)) (by exact heap_alloc_new _ _)) (by simp [Value.oneCell']) (by omega) (by unfold maxLen; omega) (by omega) (by first | omega | (simp <;> omega)) _ rfl ?_; intro g1 c1 v1 hown1 hgrow hat hltg; have HA1 := Lib.hid hown1; have HG1 := Lib.hid hgrow; have HGa := Lib.hid (grown_trans (grown_below (grown_refl U va.ownBlock) (by exact (by repeat (first | exact Below.refl _ _ | assumption | refine Below.drew ?_ | refine Below.drewN' ?_ _ | (refine Below.alloc ?_ (by simp <;> omega) _) | (refine Below.setCell ?_ (by simp <;> omega) _))))) hgrow (fun k e _ => e)); have HOb1 := Lib.hid ((own_below HOb.out (by exact (by repeat (first | exact Below.refl _ _ | assumption | refine Below.drew ?_ | refine Below.drewN' ?_ _ | (refine Below.alloc ?_ (by simp <;> omega) _) | (refine Below.setCell ?_ (by simp <;> omega) _)))) (Nat.le_refl _)).kept hgrow HNe.out); have hsv : U.heap.size ≤ v1.heap.size := HGa.out.size; have HXg : Hid (g1 ≠ v1.heap.size) := Nat.ne_of_lt hltg;  clear hown1 hgrow hat hltg))
                refine hK.out _ _ ?_ (fun hHeld => ?_)
                · (try dsimp only); (first | (refine HSg.out _ (grown_below (grown_refl _ _) ?_); ((repeat (first | exact Below.refl _ _ | assumption | refine Below.drew ?_ | refine Below.drewN' ?_ _ | (refine Below.alloc ?_ (by simp <;> omega) _) | (refine Below.setCell ?_ (by simp <;> omega) _))); done)) | (refine HSg.out _ (grown_below HGa.out ?_); ((repeat (first | exact Below.refl _ _ | assumption | refine Below.drew ?_ | refine Below.drewN' ?_ _ | (refine Below.alloc ?_ (by simp <;> omega) _) | (refine Below.setCell ?_ (by simp <;> omega) _))); done)) | (refine HSg.out _ (grown_below HGb.out ?_); ((repeat (first | exact Below.refl _ _ | assumption | refine Below.drew ?_ | refine Below.drewN' ?_ _ | (refine Below.alloc ?_ (by simp <;> omega) _) | (refine Below.setCell ?_ (by simp <;> omega) _))); done)))
                clear hK K
                try simp only [Act.put, List.setIfInBounds_toArray, List.set_cons_zero, List.set_cons_succ]
                refine wpAnyH_ready (rs := [5]) (by kernel_rfl) (by simp) ?_
                refine AllReadyH.cons (o := { dst := some 81, op := Op.buildSlice 48 1 #[(0, Operand.tmp 80)], type := 48, pos := "outright.go:214", after := #[{ on := 4, ground := Ground.data }], guard := none }) rfl (fun K hK => ?_) AllReadyH.nil
                go_simp
                refine hK.out _ _ ?_ (fun hHeld => ?_)
                · (try dsimp only); (first | (refine HSg.out _ (grown_below (grown_refl _ _) ?_); ((repeat (first | exact Below.refl _ _ | assumption | refine Below.drew ?_ | refine Below.drewN' ?_ _ | (refine Below.alloc ?_ (by simp <;> omega) _) | (refine Below.setCell ?_ (by simp <;> omega) _))); done)) | (refine HSg.out _ (grown_below HGa.out ?_); ((repeat (first | exact Below.refl _ _ | assumption | refine Below.drew ?_ | refine Below.drewN' ?_ _ | (refine Below.alloc ?_ (by simp <;> omega) _) | (refine Below.setCell ?_ (by simp <;> omega) _))); done)) | (refine HSg.out _ (grown_below HGb.out ?_); ((repeat (first | exact Below.refl _ _ | assumption | refine Below.drew ?_ | refine Below.drewN' ?_ _ | (refine Below.alloc ?_ (by simp <;> omega) _) | (refine Below.setCell ?_ (by simp <;> omega) _))); done)))
                clear hK K
                try simp only [Act.put, List.setIfInBounds_toArray, List.set_cons_zero, List.set_cons_succ]
                refine wpAnyH_ready (rs := [7]) (by kernel_rfl) (by simp) ?_
                refine AllReadyH.cons (o := { dst := some 83, op := Op.call { callee := Callee.builtin Builtin.append, args := #[Operand.tmp 81, Operand.tmp 82], argTypes := #[48, 48] }, type := 48, pos := "outright.go:214", after := #[{ on := 5, ground := Ground.data }, { on := 6, ground := Ground.data }, { on := 3, ground := Ground.chain }], guard := none }) rfl (fun K hK => ?_) AllReadyH.nil
                go_simp
                have HF := Lib.hid (ord_grow (U := U) (la := LQ) (lb := ([] : List Snd)) (s := ((k : Int), h, e)) (by exact (by repeat (first | exact Below.refl _ _ | assumption | refine Below.drew ?_ | refine Below.drewN' ?_ _ | (refine Below.alloc ?_ (by simp <;> omega) _) | (refine Below.setCell ?_ (by simp <;> omega) _)))) (X := v1.heap.size) (Ub := (v1.alloc (.cells #[.int .i64 k, .int .i64 h, .int .i64 e] 51))) (W2 := (v1.alloc (.cells #[.int .i64 k, .int .i64 h, .int .i64 e] 51))) HA1.out HG1.out (by exact (by repeat (first | exact Below.refl _ _ | assumption | refine Below.drew ?_ | refine Below.drewN' ?_ _ | (refine Below.alloc ?_ (by simp <;> omega) _) | (refine Below.setCell ?_ (by simp <;> omega) _)))) (by omega) HXg.out (own_below (lit_own1 (B := V2.heap.size) v1 ((k : Int), h, e) (by omega)) (by exact (by repeat (first | exact Below.refl _ _ | assumption | refine Below.drew ?_ | refine Below.drewN' ?_ _ | (refine Below.alloc ?_ (by simp <;> omega) _) | (refine Below.setCell ?_ (by simp <;> omega) _)))) (Nat.le_refl _)) (grown_refl _ _) (.inl rfl))
                refine hK.out _ _ ?_ (fun hHeld => ?_)
                · (try dsimp only); (first | (refine HSg.out _ (grown_below (grown_refl _ _) ?_); ((repeat (first | exact Below.refl _ _ | assumption | refine Below.drew ?_ | refine Below.drewN' ?_ _ | (refine Below.alloc ?_ (by simp <;> omega) _) | (refine Below.setCell ?_ (by simp <;> omega) _))); done)) | (refine HSg.out _ (grown_below HGa.out ?_); ((repeat (first | exact Below.refl _ _ | assumption | refine Below.drew ?_ | refine Below.drewN' ?_ _ | (refine Below.alloc ?_ (by simp <;> omega) _) | (refine Below.setCell ?_ (by simp <;> omega) _))); done)) | (refine HSg.out _ (grown_below HGb.out ?_); ((repeat (first | exact Below.refl _ _ | assumption | refine Below.drew ?_ | refine Below.drewN' ?_ _ | (refine Below.alloc ?_ (by simp <;> omega) _) | (refine Below.setCell ?_ (by simp <;> omega) _))); done)))
                clear hK K
                try simp only [Act.put, List.setIfInBounds_toArray, List.set_cons_zero, List.set_cons_succ]
                refine wpAnyH_take (i := 8) (oi := { dst := some 10, op := Op.assign (Operand.tmp 79), type := 48, pos := "outright.go:214", after := #[{ on := 3, ground := Ground.data }, { on := 7, ground := Ground.chain }, { on := 0, ground := Ground.phase }, { on := 1, ground := Ground.phase }, { on := 2, ground := Ground.phase }, { on := 3, ground := Ground.phase }, { on := 4, ground := Ground.textOnly Departure.lateStores }, { on := 5, ground := Ground.textOnly Departure.lateStores }, { on := 6, ground := Ground.textOnly Departure.lateStores }, { on := 7, ground := Ground.textOnly Departure.lateStoresUnsure }], guard := none }) (v := ?_) rfl (by kernel_rfl) (by kernel_rfl) (by kernel_rfl) (fun _ _ _ h => h) (Or.inl ⟨by rfl, ?_⟩) (by assumption) ?_
                rotate_left
                · ((intro w hSw; (try dsimp only at hSw); go_simp) <;> with_reducible rfl)
                try simp only [Act.put, List.setIfInBounds_toArray, List.set_cons_zero, List.set_cons_succ]
                refine wpAnyH_take (i := 9) (oi := { dst := some 11, op := Op.assign (Operand.tmp 83), type := 48, pos := "outright.go:214", after := #[{ on := 7, ground := Ground.data }, { on := 8, ground := Ground.chain }, { on := 0, ground := Ground.phase }, { on := 1, ground := Ground.phase }, { on := 2, ground := Ground.phase }, { on := 3, ground := Ground.phase }, { on := 4, ground := Ground.phase }, { on := 5, ground := Ground.phase }, { on := 6, ground := Ground.phase }, { on := 7, ground := Ground.phase }, { on := 8, ground := Ground.phase }], guard := none }) (v := ?_) rfl (by kernel_rfl) (by kernel_rfl) (by kernel_rfl) (fun _ _ _ h => h) (Or.inl ⟨by rfl, ?_⟩) (by assumption) ?_
                rotate_left
                · ((intro w hSw; (try dsimp only at hSw); go_simp) <;> with_reducible rfl)
                try simp only [Act.put, List.setIfInBounds_toArray, List.set_cons_zero, List.set_cons_succ]
                refine wpAnyH_done (by kernel_rfl) ?_ _
                refine NoPanic.normal ?_
                go_wp2_with fail
                go_meet
                exact HF.out
              refine AllReadyH.cons (o := { dst := some 81, op := Op.buildSlice 48 1 #[(0, Operand.tmp 80)], type := 48, pos := "outright.go:214", after := #[{ on := 4, ground := Ground.data }], guard := none }) rfl (fun K hK => ?_) ?_
              ·
                go_simp
                refine hK.out _ _ ?_ (fun hHeld => ?_)
                · (try dsimp only); (first | (refine HSg.out _ (grown_below (grown_refl _ _) ?_); ((repeat (first | exact Below.refl _ _ | assumption | refine Below.drew ?_ | refine Below.drewN' ?_ _ | (refine Below.alloc ?_ (by simp <;> omega) _) | (refine Below.setCell ?_ (by simp <;> omega) _))); done)) | (refine HSg.out _ (grown_below HGa.out ?_); ((repeat (first | exact Below.refl _ _ | assumption | refine Below.drew ?_ | refine Below.drewN' ?_ _ | (refine Below.alloc ?_ (by simp <;> omega) _) | (refine Below.setCell ?_ (by simp <;> omega) _))); done)) | (refine HSg.out _ (grown_below HGb.out ?_); ((repeat (first | exact Below.refl _ _ | assumption | refine Below.drew ?_ | refine Below.drewN' ?_ _ | (refine Below.alloc ?_ (by simp <;> omega) _) | (refine Below.setCell ?_ (by simp <;> omega) _))); done)))
                clear hK K
                try simp only [Act.put, List.setIfInBounds_toArray, List.set_cons_zero, List.set_cons_succ]
                refine wpAnyH_ready (rs := [3]) (by kernel_rfl) (by simp) ?_
                refine AllReadyH.cons (o := { dst := some 79, op := Op.call { callee := Callee.builtin Builtin.append, args := #[Operand.tmp 76, Operand.tmp 78], argTypes := #[48, 48] }, type := 48, pos := "outright.go:214", after := #[{ on := 0, ground := Ground.data }, { on := 2, ground := Ground.data }], guard := none }) rfl (fun K hK => ?_) AllReadyH.nil
                ((refine step_append_lies _ (by rfl) (.tmp 76) (.tmp 78) _ (by rfl) V2.heap.size 51 i1 _ 3 24 Tryz.underlying48 hi1 hy0 hy1 hy2 rfl (by omega) va LQ.length (sndCells LQ) (by rfl) (own_below HOa.out (by exact (by repeat (first | exact Below.refl _ _ | assumption | refine Below.drew ?_ | refine Below.drewN' ?_ _ | (refine Below.alloc ?_ (by simp <;> omega) _) | (refine Below.setCell ?_ (by simp <;> omega) _)))) (Nat.le_refl _)) ⟨U.heap.size, 0, none⟩ 1 1 [.int .i64 k, .int .i64 h, .int .i64 e] (by rfl) (by rfl) (World.news_of_block (cs := #[.int .i64 k, .int .i64 h, .int .i64 e]) (t := 51) (fr := (0, 0)) (by exact (heap_alloc_old _ _ (by simp)).trans (heap_alloc_new _ _))) (by simp [Value.oneCell']) (by omega) (by unfold maxLen; omega) (by omega) (by first | omega | (simp <;> omega)) _ rfl ?_; intro g1 c1 v1 hown1 hgrow hat hltg; have HA1 := Lib.hid hown1; have HG1 := Lib.hid hgrow; have HGa := Lib.hid (grown_trans (grown_below (grown_refl U va.ownBlock) (by exact (by repeat (first | exact Below.refl _ _ | assumption | refine Below.drew ?_ | refine Below.drewN' ?_ _ | (refine Below.alloc ?_ (by simp <;> omega) _) | (refine Below.setCell ?_ (by simp <;> omega) _))))) hgrow (fun k e _ => e)); have HOb1 := Lib.hid ((own_below HOb.out (by exact (by repeat (first | exact Below.refl _ _ | assumption | refine Below.drew ?_ | refine Below.drewN' ?_ _ | (refine Below.alloc ?_ (by simp <;> omega) _) | (refine Below.setCell ?_ (by simp <;> omega) _)))) (Nat.le_refl _)).kept hgrow HNe.out); have hsv : U.heap.size ≤ v1.heap.size := HGa.out.size; have HXg : Hid (g1 ≠ (U.heap.size + 1)) := (fun hh => hat.elim (fun e => by have := HLa.out _ e; omega) (fun e => by simp at e; omega)); have HLit := Lib.hid ((own_below (lit_own2 (B := V2.heap.size) U (.cells #[.int .i64 k, .int .i64 h, .int .i64 e] 51) ((k : Int), h, e) hle) (by exact (by repeat (first | exact Below.refl _ _ | assumption | refine Below.drew ?_ | refine Below.drewN' ?_ _ | (refine Below.alloc ?_ (by simp <;> omega) _) | (refine Below.setCell ?_ (by simp <;> omega) _)))) (Nat.le_refl _)).kept hgrow (.inr (fun e => by have : U.heap.size + 1 < wr.heap.size := HLa.out _ e.symm; omega))); clear hown1 hgrow hat hltg))
                refine hK.out _ _ ?_ (fun hHeld => ?_)
                · (try dsimp only); (first | (refine HSg.out _ (grown_below (grown_refl _ _) ?_); ((repeat (first | exact Below.refl _ _ | assumption | refine Below.drew ?_ | refine Below.drewN' ?_ _ | (refine Below.alloc ?_ (by simp <;> omega) _) | (refine Below.setCell ?_ (by simp <;> omega) _))); done)) | (refine HSg.out _ (grown_below HGa.out ?_); ((repeat (first | exact Below.refl _ _ | assumption | refine Below.drew ?_ | refine Below.drewN' ?_ _ | (refine Below.alloc ?_ (by simp <;> omega) _) | (refine Below.setCell ?_ (by simp <;> omega) _))); done)) | (refine HSg.out _ (grown_below HGb.out ?_); ((repeat (first | exact Below.refl _ _ | assumption | refine Below.drew ?_ | refine Below.drewN' ?_ _ | (refine Below.alloc ?_ (by simp <;> omega) _) | (refine Below.setCell ?_ (by simp <;> omega) _))); done)))
                clear hK K
                try simp only [Act.put, List.setIfInBounds_toArray, List.set_cons_zero, List.set_cons_succ]
                refine wpAnyH_ready (rs := [7]) (by kernel_rfl) (by simp) ?_
                refine AllReadyH.cons (o := { dst := some 83, op := Op.call { callee := Callee.builtin Builtin.append, args := #[Operand.tmp 81, Operand.tmp 82], argTypes := #[48, 48] }, type := 48, pos := "outright.go:214", after := #[{ on := 5, ground := Ground.data }, { on := 6, ground := Ground.data }, { on := 3, ground := Ground.chain }], guard := none }) rfl (fun K hK => ?_) AllReadyH.nil
                go_simp
                have HF := Lib.hid (ord_grow (U := U) (la := LQ) (lb := ([] : List Snd)) (s := ((k : Int), h, e)) (by exact (by repeat (first | exact Below.refl _ _ | assumption | refine Below.drew ?_ | refine Below.drewN' ?_ _ | (refine Below.alloc ?_ (by simp <;> omega) _) | (refine Below.setCell ?_ (by simp <;> omega) _)))) (X := (U.heap.size + 1)) (Ub := v1) (W2 := v1) HA1.out HG1.out (by exact (by repeat (first | exact Below.refl _ _ | assumption | refine Below.drew ?_ | refine Below.drewN' ?_ _ | (refine Below.alloc ?_ (by simp <;> omega) _) | (refine Below.setCell ?_ (by simp <;> omega) _)))) (by omega) HXg.out (own_below HLit.out (by exact (by repeat (first | exact Below.refl _ _ | assumption | refine Below.drew ?_ | refine Below.drewN' ?_ _ | (refine Below.alloc ?_ (by simp <;> omega) _) | (refine Below.setCell ?_ (by simp <;> omega) _)))) (Nat.le_refl _)) (grown_refl _ _) (.inl rfl))
                refine hK.out _ _ ?_ (fun hHeld => ?_)
                · (try dsimp only); (first | (refine HSg.out _ (grown_below (grown_refl _ _) ?_); ((repeat (first | exact Below.refl _ _ | assumption | refine Below.drew ?_ | refine Below.drewN' ?_ _ | (refine Below.alloc ?_ (by simp <;> omega) _) | (refine Below.setCell ?_ (by simp <;> omega) _))); done)) | (refine HSg.out _ (grown_below HGa.out ?_); ((repeat (first | exact Below.refl _ _ | assumption | refine Below.drew ?_ | refine Below.drewN' ?_ _ | (refine Below.alloc ?_ (by simp <;> omega) _) | (refine Below.setCell ?_ (by simp <;> omega) _))); done)) | (refine HSg.out _ (grown_below HGb.out ?_); ((repeat (first | exact Below.refl _ _ | assumption | refine Below.drew ?_ | refine Below.drewN' ?_ _ | (refine Below.alloc ?_ (by simp <;> omega) _) | (refine Below.setCell ?_ (by simp <;> omega) _))); done)))
                clear hK K
                try simp only [Act.put, List.setIfInBounds_toArray, List.set_cons_zero, List.set_cons_succ]
                refine wpAnyH_take (i := 8) (oi := { dst := some 10, op := Op.assign (Operand.tmp 79), type := 48, pos := "outright.go:214", after := #[{ on := 3, ground := Ground.data }, { on := 7, ground := Ground.chain }, { on := 0, ground := Ground.phase }, { on := 1, ground := Ground.phase }, { on := 2, ground := Ground.phase }, { on := 3, ground := Ground.phase }, { on := 4, ground := Ground.textOnly Departure.lateStores }, { on := 5, ground := Ground.textOnly Departure.lateStores }, { on := 6, ground := Ground.textOnly Departure.lateStores }, { on := 7, ground := Ground.textOnly Departure.lateStoresUnsure }], guard := none }) (v := ?_) rfl (by kernel_rfl) (by kernel_rfl) (by kernel_rfl) (fun _ _ _ h => h) (Or.inl ⟨by rfl, ?_⟩) (by assumption) ?_
                rotate_left
                · ((intro w hSw; (try dsimp only at hSw); go_simp) <;> with_reducible rfl)
                try simp only [Act.put, List.setIfInBounds_toArray, List.set_cons_zero, List.set_cons_succ]
                refine wpAnyH_take (i := 9) (oi := { dst := some 11, op := Op.assign (Operand.tmp 83), type := 48, pos := "outright.go:214", after := #[{ on := 7, ground := Ground.data }, { on := 8, ground := Ground.chain }, { on := 0, ground := Ground.phase }, { on := 1, ground := Ground.phase }, { on := 2, ground := Ground.phase }, { on := 3, ground := Ground.phase }, { on := 4, ground := Ground.phase }, { on := 5, ground := Ground.phase }, { on := 6, ground := Ground.phase }, { on := 7, ground := Ground.phase }, { on := 8, ground := Ground.phase }], guard := none }) (v := ?_) rfl (by kernel_rfl) (by kernel_rfl) (by kernel_rfl) (fun _ _ _ h => h) (Or.inl ⟨by rfl, ?_⟩) (by assumption) ?_
                rotate_left
                · ((intro w hSw; (try dsimp only at hSw); go_simp) <;> with_reducible rfl)
                try simp only [Act.put, List.setIfInBounds_toArray, List.set_cons_zero, List.set_cons_succ]
                refine wpAnyH_done (by kernel_rfl) ?_ _
                refine NoPanic.normal ?_
                go_wp2_with fail
                go_meet
                exact HF.out
              exact AllReadyH.nil
            refine AllReadyH.cons (o := { dst := some 81, op := Op.buildSlice 48 1 #[(0, Operand.tmp 80)], type := 48, pos := "outright.go:214", after := #[{ on := 4, ground := Ground.data }], guard := none }) rfl (fun K hK => ?_) ?_
            ·
              go_simp
              refine hK.out _ _ ?_ (fun hHeld => ?_)
              · (try dsimp only); (first | (refine HSg.out _ (grown_below (grown_refl _ _) ?_); ((repeat (first | exact Below.refl _ _ | assumption | refine Below.drew ?_ | refine Below.drewN' ?_ _ | (refine Below.alloc ?_ (by simp <;> omega) _) | (refine Below.setCell ?_ (by simp <;> omega) _))); done)) | (refine HSg.out _ (grown_below HGa.out ?_); ((repeat (first | exact Below.refl _ _ | assumption | refine Below.drew ?_ | refine Below.drewN' ?_ _ | (refine Below.alloc ?_ (by simp <;> omega) _) | (refine Below.setCell ?_ (by simp <;> omega) _))); done)) | (refine HSg.out _ (grown_below HGb.out ?_); ((repeat (first | exact Below.refl _ _ | assumption | refine Below.drew ?_ | refine Below.drewN' ?_ _ | (refine Below.alloc ?_ (by simp <;> omega) _) | (refine Below.setCell ?_ (by simp <;> omega) _))); done)))
              clear hK K
              try simp only [Act.put, List.setIfInBounds_toArray, List.set_cons_zero, List.set_cons_succ]
              refine wpAnyH_ready (rs := [2]) (by kernel_rfl) (by simp) ?_
              refine AllReadyH.cons (o := { dst := some 78, op := Op.buildSlice 48 1 #[(0, Operand.tmp 77)], type := 48, pos := "outright.go:214", after := #[{ on := 1, ground := Ground.data }], guard := none }) rfl (fun K hK => ?_) AllReadyH.nil
              go_simp
              refine hK.out _ _ ?_ (fun hHeld => ?_)
              · (try dsimp only); (first | (refine HSg.out _ (grown_below (grown_refl _ _) ?_); ((repeat (first | exact Below.refl _ _ | assumption | refine Below.drew ?_ | refine Below.drewN' ?_ _ | (refine Below.alloc ?_ (by simp <;> omega) _) | (refine Below.setCell ?_ (by simp <;> omega) _))); done)) | (refine HSg.out _ (grown_below HGa.out ?_); ((repeat (first | exact Below.refl _ _ | assumption | refine Below.drew ?_ | refine Below.drewN' ?_ _ | (refine Below.alloc ?_ (by simp <;> omega) _) | (refine Below.setCell ?_ (by simp <;> omega) _))); done)) | (refine HSg.out _ (grown_below HGb.out ?_); ((repeat (first | exact Below.refl _ _ | assumption | refine Below.drew ?_ | refine Below.drewN' ?_ _ | (refine Below.alloc ?_ (by simp <;> omega) _) | (refine Below.setCell ?_ (by simp <;> omega) _))); done)))
              clear hK K
              try simp only [Act.put, List.setIfInBounds_toArray, List.set_cons_zero, List.set_cons_succ]
              refine wpAnyH_ready (rs := [3]) (by kernel_rfl) (by simp) ?_
              refine AllReadyH.cons (o := { dst := some 79, op := Op.call { callee := Callee.builtin Builtin.append, args := #[Operand.tmp 76, Operand.tmp 78], argTypes := #[48, 48] }, type := 48, pos := "outright.go:214", after := #[{ on := 0, ground := Ground.data }, { on := 2, ground := Ground.data }], guard := none }) rfl (fun K hK => ?_) AllReadyH.nil
              ((refine step_append_lies _ (by rfl) (.tmp 76) (.tmp 78) _ (by rfl) V2.heap.size 51 i1 _ 3 24 Tryz.underlying48 hi1 hy0 hy1 hy2 rfl (by omega) va LQ.length (sndCells LQ) (by rfl) (own_below HOa.out (by exact (by repeat (first | exact Below.refl _ _ | assumption | refine Below.drew ?_ | refine Below.drewN' ?_ _ | (refine Below.alloc ?_ (by simp <;> omega) _) | (refine Below.setCell ?_ (by simp <;> omega) _)))) (Nat.le_refl _)) ⟨(U.heap.size + 1), 0, none⟩ 1 1 [.int .i64 k, .int .i64 h, .int .i64 e] (by rfl) (by rfl) (World.news_of_block (cs := #[.int .i64 k, .int .i64 h, .int .i64 e]) (t := 51) (fr := (0, 0)) (by exact lit_at1 _ _ _)) (by simp [Value.oneCell']) (by omega) (by unfold maxLen; omega) (by omega) (by first | omega | (simp <;> omega)) _ rfl ?_; intro g1 c1 v1 hown1 hgrow hat hltg; have HA1 := Lib.hid hown1; have HG1 := Lib.hid hgrow; have HGa := Lib.hid (grown_trans (grown_below (grown_refl U va.ownBlock) (by exact (by repeat (first | exact Below.refl _ _ | assumption | refine Below.drew ?_ | refine Below.drewN' ?_ _ | (refine Below.alloc ?_ (by simp <;> omega) _) | (refine Below.setCell ?_ (by simp <;> omega) _))))) hgrow (fun k e _ => e)); have HOb1 := Lib.hid ((own_below HOb.out (by exact (by repeat (first | exact Below.refl _ _ | assumption | refine Below.drew ?_ | refine Below.drewN' ?_ _ | (refine Below.alloc ?_ (by simp <;> omega) _) | (refine Below.setCell ?_ (by simp <;> omega) _)))) (Nat.le_refl _)).kept hgrow HNe.out); have hsv : U.heap.size ≤ v1.heap.size := HGa.out.size; have HXg : Hid (g1 ≠ U.heap.size) := (fun hh => hat.elim (fun e => by have := HLa.out _ e; omega) (fun e => by simp at e; omega)); have HLit := Lib.hid ((own_below (lit_own1 (B := V2.heap.size) U ((k : Int), h, e) hle) (by exact (by repeat (first | exact Below.refl _ _ | assumption | refine Below.drew ?_ | refine Below.drewN' ?_ _ | (refine Below.alloc ?_ (by simp <;> omega) _) | (refine Below.setCell ?_ (by simp <;> omega) _)))) (Nat.le_refl _)).kept hgrow (.inr (fun e => by have : U.heap.size < wr.heap.size := HLa.out _ e.symm; omega))); clear hown1 hgrow hat hltg))
              refine hK.out _ _ ?_ (fun hHeld => ?_)
              · (try dsimp only); (first | (refine HSg.out _ (grown_below (grown_refl _ _) ?_); ((repeat (first | exact Below.refl _ _ | assumption | refine Below.drew ?_ | refine Below.drewN' ?_ _ | (refine Below.alloc ?_ (by simp <;> omega) _) | (refine Below.setCell ?_ (by simp <;> omega) _))); done)) | (refine HSg.out _ (grown_below HGa.out ?_); ((repeat (first | exact Below.refl _ _ | assumption | refine Below.drew ?_ | refine Below.drewN' ?_ _ | (refine Below.alloc ?_ (by simp <;> omega) _) | (refine Below.setCell ?_ (by simp <;> omega) _))); done)) | (refine HSg.out _ (grown_below HGb.out ?_); ((repeat (first | exact Below.refl _ _ | assumption | refine Below.drew ?_ | refine Below.drewN' ?_ _ | (refine Below.alloc ?_ (by simp <;> omega) _) | (refine Below.setCell ?_ (by simp <;> omega) _))); done)))
              clear hK K
              try simp only [Act.put, List.setIfInBounds_toArray, List.set_cons_zero, List.set_cons_succ]
              refine wpAnyH_ready (rs := [7]) (by kernel_rfl) (by simp) ?_
              refine AllReadyH.cons (o := { dst := some 83, op := Op.call { callee := Callee.builtin Builtin.append, args := #[Operand.tmp 81, Operand.tmp 82], argTypes := #[48, 48] }, type := 48, pos := "outright.go:214", after := #[{ on := 5, ground := Ground.data }, { on := 6, ground := Ground.data }, { on := 3, ground := Ground.chain }], guard := none }) rfl (fun K hK => ?_) AllReadyH.nil
              go_simp
              have HF := Lib.hid (ord_grow (U := U) (la := LQ) (lb := ([] : List Snd)) (s := ((k : Int), h, e)) (by exact (by repeat (first | exact Below.refl _ _ | assumption | refine Below.drew ?_ | refine Below.drewN' ?_ _ | (refine Below.alloc ?_ (by simp <;> omega) _) | (refine Below.setCell ?_ (by simp <;> omega) _)))) (X := U.heap.size) (Ub := v1) (W2 := v1) HA1.out HG1.out (by exact (by repeat (first | exact Below.refl _ _ | assumption | refine Below.drew ?_ | refine Below.drewN' ?_ _ | (refine Below.alloc ?_ (by simp <;> omega) _) | (refine Below.setCell ?_ (by simp <;> omega) _)))) (by omega) HXg.out (own_below HLit.out (by exact (by repeat (first | exact Below.refl _ _ | assumption | refine Below.drew ?_ | refine Below.drewN' ?_ _ | (refine Below.alloc ?_ (by simp <;> omega) _) | (refine Below.setCell ?_ (by simp <;> omega) _)))) (Nat.le_refl _)) (grown_refl _ _) (.inl rfl))
              refine hK.out _ _ ?_ (fun hHeld => ?_)
              · (try dsimp only); (first | (refine HSg.out _ (grown_below (grown_refl _ _) ?_); ((repeat (first | exact Below.refl _ _ | assumption | refine Below.drew ?_ | refine Below.drewN' ?_ _ | (refine Below.alloc ?_ (by simp <;> omega) _) | (refine Below.setCell ?_ (by simp <;> omega) _))); done)) | (refine HSg.out _ (grown_below HGa.out ?_); ((repeat (first | exact Below.refl _ _ | assumption | refine Below.drew ?_ | refine Below.drewN' ?_ _ | (refine Below.alloc ?_ (by simp <;> omega) _) | (refine Below.setCell ?_ (by simp <;> omega) _))); done)) | (refine HSg.out _ (grown_below HGb.out ?_); ((repeat (first | exact Below.refl _ _ | assumption | refine Below.drew ?_ | refine Below.drewN' ?_ _ | (refine Below.alloc ?_ (by simp <;> omega) _) | (refine Below.setCell ?_ (by simp <;> omega) _))); done)))
              clear hK K
              try simp only [Act.put, List.setIfInBounds_toArray, List.set_cons_zero, List.set_cons_succ]
              refine wpAnyH_take (i := 8) (oi := { dst := some 10, op := Op.assign (Operand.tmp 79), type := 48, pos := "outright.go:214", after := #[{ on := 3, ground := Ground.data }, { on := 7, ground := Ground.chain }, { on := 0, ground := Ground.phase }, { on := 1, ground := Ground.phase }, { on := 2, ground := Ground.phase }, { on := 3, ground := Ground.phase }, { on := 4, ground := Ground.textOnly Departure.lateStores }, { on := 5, ground := Ground.textOnly Departure.lateStores }, { on := 6, ground := Ground.textOnly Departure.lateStores }, { on := 7, ground := Ground.textOnly Departure.lateStoresUnsure }], guard := none }) (v := ?_) rfl (by kernel_rfl) (by kernel_rfl) (by kernel_rfl) (fun _ _ _ h => h) (Or.inl ⟨by rfl, ?_⟩) (by assumption) ?_
              rotate_left
              · ((intro w hSw; (try dsimp only at hSw); go_simp) <;> with_reducible rfl)
              try simp only [Act.put, List.setIfInBounds_toArray, List.set_cons_zero, List.set_cons_succ]
              refine wpAnyH_take (i := 9) (oi := { dst := some 11, op := Op.assign (Operand.tmp 83), type := 48, pos := "outright.go:214", after := #[{ on := 7, ground := Ground.data }, { on := 8, ground := Ground.chain }, { on := 0, ground := Ground.phase }, { on := 1, ground := Ground.phase }, { on := 2, ground := Ground.phase }, { on := 3, ground := Ground.phase }, { on := 4, ground := Ground.phase }, { on := 5, ground := Ground.phase }, { on := 6, ground := Ground.phase }, { on := 7, ground := Ground.phase }, { on := 8, ground := Ground.phase }], guard := none }) (v := ?_) rfl (by kernel_rfl) (by kernel_rfl) (by kernel_rfl) (fun _ _ _ h => h) (Or.inl ⟨by rfl, ?_⟩) (by assumption) ?_
              rotate_left
              · ((intro w hSw; (try dsimp only at hSw); go_simp) <;> with_reducible rfl)
              try simp only [Act.put, List.setIfInBounds_toArray, List.set_cons_zero, List.set_cons_succ]
              refine wpAnyH_done (by kernel_rfl) ?_ _
              refine NoPanic.normal ?_
              go_wp2_with fail
              go_meet
              exact HF.out
            exact AllReadyH.nil
          · have hLR0 := HR0.out h0
            obtain ⟨gb, cb, rfl, _, _, _⟩ := own_shape HOb.out hLR0
            clear h0
            refine wp_region_noPanic ?_
            refine wp_region_held_drew (S := (fun w' => w'.cell? ⟨wr.heap.size, 0, none⟩ = some (.int .i64 k) ∧ w'.cell? ⟨wr.heap.size, 1, none⟩ = some (.int .i64 h) ∧ w'.cell? ⟨wr.heap.size, 2, none⟩ = some (.int .i64 e))) (by kernel_rfl) ?_ (fun hHeld => ?_)
            · (try dsimp only); (first | (refine HSg.out _ (grown_below (grown_refl _ _) ?_); ((repeat (first | exact Below.refl _ _ | assumption | refine Below.drew ?_ | refine Below.drewN' ?_ _ | (refine Below.alloc ?_ (by simp <;> omega) _) | (refine Below.setCell ?_ (by simp <;> omega) _))); done)) | (refine HSg.out _ (grown_below HGa.out ?_); ((repeat (first | exact Below.refl _ _ | assumption | refine Below.drew ?_ | refine Below.drewN' ?_ _ | (refine Below.alloc ?_ (by simp <;> omega) _) | (refine Below.setCell ?_ (by simp <;> omega) _))); done)) | (refine HSg.out _ (grown_below HGb.out ?_); ((repeat (first | exact Below.refl _ _ | assumption | refine Below.drew ?_ | refine Below.drewN' ?_ _ | (refine Below.alloc ?_ (by simp <;> omega) _) | (refine Below.setCell ?_ (by simp <;> omega) _))); done)))
            refine wpAnyH_take (i := 0) (oi := { dst := some 76, op := Op.move (Operand.tmp 10), type := 48, pos := "outright.go:214", after := #[], guard := none }) (v := ?_) rfl (by kernel_rfl) (by kernel_rfl) (by kernel_rfl) (fun _ _ _ h => h) (Or.inl ⟨by rfl, ?_⟩) (by assumption) ?_
            rotate_left
            · ((intro w hSw; (try dsimp only at hSw); go_simp) <;> with_reducible rfl)
            try simp only [Act.put, List.setIfInBounds_toArray, List.set_cons_zero, List.set_cons_succ]
            refine wpAnyH_take (i := 1) (oi := { dst := some 77, op := Op.load 51 (Operand.tmp 15), type := 51, pos := "outright.go:214", after := #[], guard := none }) (v := ?_) rfl (by kernel_rfl) (by kernel_rfl) (by kernel_rfl) (fun _ _ _ h => h) (Or.inl ⟨by rfl, ?_⟩) (by assumption) ?_
            rotate_left
            · ((intro w hSw; (try dsimp only at hSw); go_simp) <;> with_reducible rfl)
            try simp only [Act.put, List.setIfInBounds_toArray, List.set_cons_zero, List.set_cons_succ]
            refine wpAnyH_take (i := 4) (oi := { dst := some 80, op := Op.load 51 (Operand.tmp 15), type := 51, pos := "outright.go:214", after := #[], guard := none }) (v := ?_) rfl (by kernel_rfl) (by kernel_rfl) (by kernel_rfl) (fun _ _ _ h => h) (Or.inl ⟨by rfl, ?_⟩) (by assumption) ?_
            rotate_left
            · ((intro w hSw; (try dsimp only at hSw); go_simp) <;> with_reducible rfl)
            try simp only [Act.put, List.setIfInBounds_toArray, List.set_cons_zero, List.set_cons_succ]
            refine wpAnyH_take (i := 6) (oi := { dst := some 82, op := Op.move (Operand.tmp 11), type := 48, pos := "outright.go:214", after := #[], guard := none }) (v := ?_) rfl (by kernel_rfl) (by kernel_rfl) (by kernel_rfl) (fun _ _ _ h => h) (Or.inl ⟨by rfl, ?_⟩) (by assumption) ?_
            rotate_left
            · ((intro w hSw; (try dsimp only at hSw); go_simp) <;> with_reducible rfl)
            try simp only [Act.put, List.setIfInBounds_toArray, List.set_cons_zero, List.set_cons_succ]
            refine wpAnyH_ready (rs := [2, 5]) (by kernel_rfl) (by simp) ?_
            refine AllReadyH.cons (o := { dst := some 78, op := Op.buildSlice 48 1 #[(0, Operand.tmp 77)], type := 48, pos := "outright.go:214", after := #[{ on := 1, ground := Ground.data }], guard := none }) rfl (fun K hK => ?_) ?_
            ·
              go_simp
              refine hK.out _ _ ?_ (fun hHeld => ?_)
              · (try dsimp only); (first | (refine HSg.out _ (grown_below (grown_refl _ _) ?_); ((repeat (first | exact Below.refl _ _ | assumption | refine Below.drew ?_ | refine Below.drewN' ?_ _ | (refine Below.alloc ?_ (by simp <;> omega) _) | (refine Below.setCell ?_ (by simp <;> omega) _))); done)) | (refine HSg.out _ (grown_below HGa.out ?_); ((repeat (first | exact Below.refl _ _ | assumption | refine Below.drew ?_ | refine Below.drewN' ?_ _ | (refine Below.alloc ?_ (by simp <;> omega) _) | (refine Below.setCell ?_ (by simp <;> omega) _))); done)) | (refine HSg.out _ (grown_below HGb.out ?_); ((repeat (first | exact Below.refl _ _ | assumption | refine Below.drew ?_ | refine Below.drewN' ?_ _ | (refine Below.alloc ?_ (by simp <;> omega) _) | (refine Below.setCell ?_ (by simp <;> omega) _))); done)))
              clear hK K
              try simp only [Act.put, List.setIfInBounds_toArray, List.set_cons_zero, List.set_cons_succ]
              refine wpAnyH_ready (rs := [3, 5]) (by kernel_rfl) (by simp) ?_
              refine AllReadyH.cons (o := { dst := some 79, op := Op.call { callee := Callee.builtin Builtin.append, args := #[Operand.tmp 76, Operand.tmp 78], argTypes := #[48, 48] }, type := 48, pos := "outright.go:214", after := #[{ on := 0, ground := Ground.data }, { on := 2, ground := Ground.data }], guard := none }) rfl (fun K hK => ?_) ?_
              ·
                ((refine step_append_lies _ (by rfl) (.tmp 76) (.tmp 78) _ (by rfl) V2.heap.size 51 i1 _ 3 24 Tryz.underlying48 hi1 hy0 hy1 hy2 rfl (by omega) va LQ.length (sndCells LQ) (by rfl) (own_below HOa.out (by exact (by repeat (first | exact Below.refl _ _ | assumption | refine Below.drew ?_ | refine Below.drewN' ?_ _ | (refine Below.alloc ?_ (by simp <;> omega) _) | (refine Below.setCell ?_ (by simp <;> omega) _)))) (Nat.le_refl _)) ⟨U.heap.size, 0, none⟩ 1 1 [.int .i64 k, .int .i64 h, .int .i64 e] (by rfl) (by rfl) (World.news_of_block (cs := #[.int .i64 k, .int .i64 h, .int .i64 e]) (t := 51) (fr := (0, 0)) (by exact heap_alloc_new _ _)) (by simp [Value.oneCell']) (by omega) (by unfold maxLen; omega) (by omega) (by first | omega | (simp <;> omega)) _ rfl ?_; intro g1 c1 v1 hown1 hgrow hat hltg; have HA1 := Lib.hid hown1; have HG1 := Lib.hid hgrow; have HGa := Lib.hid (grown_trans (grown_below (grown_refl U va.ownBlock) (by exact (by repeat (first | exact Below.refl _ _ | assumption | refine Below.drew ?_ | refine Below.drewN' ?_ _ | (refine Below.alloc ?_ (by simp <;> omega) _) | (refine Below.setCell ?_ (by simp <;> omega) _))))) hgrow (fun k e _ => e)); have HOb1 := Lib.hid ((own_below HOb.out (by exact (by repeat (first | exact Below.refl _ _ | assumption | refine Below.drew ?_ | refine Below.drewN' ?_ _ | (refine Below.alloc ?_ (by simp <;> omega) _) | (refine Below.setCell ?_ (by simp <;> omega) _)))) (Nat.le_refl _)).kept hgrow HNe.out); have hsv : U.heap.size ≤ v1.heap.size := HGa.out.size; have HXg : Hid (g1 ≠ v1.heap.size) := Nat.ne_of_lt hltg;  clear hown1 hgrow hat hltg))
                refine hK.out _ _ ?_ (fun hHeld => ?_)
                · (try dsimp only); (first | (refine HSg.out _ (grown_below (grown_refl _ _) ?_); ((repeat (first | exact Below.refl _ _ | assumption | refine Below.drew ?_ | refine Below.drewN' ?_ _ | (refine Below.alloc ?_ (by simp <;> omega) _) | (refine Below.setCell ?_ (by simp <;> omega) _))); done)) | (refine HSg.out _ (grown_below HGa.out ?_); ((repeat (first | exact Below.refl _ _ | assumption | refine Below.drew ?_ | refine Below.drewN' ?_ _ | (refine Below.alloc ?_ (by simp <;> omega) _) | (refine Below.setCell ?_ (by simp <;> omega) _))); done)) | (refine HSg.out _ (grown_below HGb.out ?_); ((repeat (first | exact Below.refl _ _ | assumption | refine Below.drew ?_ | refine Below.drewN' ?_ _ | (refine Below.alloc ?_ (by simp <;> omega) _) | (refine Below.setCell ?_ (by simp <;> omega) _))); done)))
                clear hK K
                try simp only [Act.put, List.setIfInBounds_toArray, List.set_cons_zero, List.set_cons_succ]
                refine wpAnyH_ready (rs := [5]) (by kernel_rfl) (by simp) ?_
                refine AllReadyH.cons (o := { dst := some 81, op := Op.buildSlice 48 1 #[(0, Operand.tmp 80)], type := 48, pos := "outright.go:214", after := #[{ on := 4, ground := Ground.data }], guard := none }) rfl (fun K hK => ?_) AllReadyH.nil
                go_simp
                refine hK.out _ _ ?_ (fun hHeld => ?_)
                · (try dsimp only); (first | (refine HSg.out _ (grown_below (grown_refl _ _) ?_); ((repeat (first | exact Below.refl _ _ | assumption | refine Below.drew ?_ | refine Below.drewN' ?_ _ | (refine Below.alloc ?_ (by simp <;> omega) _) | (refine Below.setCell ?_ (by simp <;> omega) _))); done)) | (refine HSg.out _ (grown_below HGa.out ?_); ((repeat (first | exact Below.refl _ _ | assumption | refine Below.drew ?_ | refine Below.drewN' ?_ _ | (refine Below.alloc ?_ (by simp <;> omega) _) | (refine Below.setCell ?_ (by simp <;> omega) _))); done)) | (refine HSg.out _ (grown_below HGb.out ?_); ((repeat (first | exact Below.refl _ _ | assumption | refine Below.drew ?_ | refine Below.drewN' ?_ _ | (refine Below.alloc ?_ (by simp <;> omega) _) | (refine Below.setCell ?_ (by simp <;> omega) _))); done)))
                clear hK K
                try simp only [Act.put, List.setIfInBounds_toArray, List.set_cons_zero, List.set_cons_succ]
                refine wpAnyH_ready (rs := [7]) (by kernel_rfl) (by simp) ?_
                refine AllReadyH.cons (o := { dst := some 83, op := Op.call { callee := Callee.builtin Builtin.append, args := #[Operand.tmp 81, Operand.tmp 82], argTypes := #[48, 48] }, type := 48, pos := "outright.go:214", after := #[{ on := 5, ground := Ground.data }, { on := 6, ground := Ground.data }, { on := 3, ground := Ground.chain }], guard := none }) rfl (fun K hK => ?_) AllReadyH.nil
                ((refine step_append_lies _ (by rfl) (.tmp 81) (.tmp 82) _ (by rfl) V2.heap.size 51 i1 _ 3 24 Tryz.underlying48 hi1 hy0 hy1 hy2 rfl (by omega) (.slice (some ⟨v1.heap.size, 0, none⟩) 1 1) 1 (sndCells [((k : Int), h, e)]) (by rfl) (own_below (lit_own1 (B := V2.heap.size) v1 ((k : Int), h, e) (by omega)) (by exact (by repeat (first | exact Below.refl _ _ | assumption | refine Below.drew ?_ | refine Below.drewN' ?_ _ | (refine Below.alloc ?_ (by simp <;> omega) _) | (refine Below.setCell ?_ (by simp <;> omega) _)))) (Nat.le_refl _)) ⟨gb, 0, none⟩ LR.length cb (sndCells LR) (by rfl) (sndCells_length LR) ((own_below HOb1.out (by exact (by repeat (first | exact Below.refl _ _ | assumption | refine Below.drew ?_ | refine Below.drewN' ?_ _ | (refine Below.alloc ?_ (by simp <;> omega) _) | (refine Below.setCell ?_ (by simp <;> omega) _)))) (Nat.le_refl _)).cells rfl) (sndCells_one LR) hLR0 (by unfold maxLen; omega) (by omega) (by first | omega | (simp <;> omega)) _ rfl ?_; intro g2 c2' v2 hown2 hgrow2 hat2 hltg2; have HGb := Lib.hid (grown_trans (grown_below HGa.out (by exact (by repeat (first | exact Below.refl _ _ | assumption | refine Below.drew ?_ | refine Below.drewN' ?_ _ | (refine Below.alloc ?_ (by simp <;> omega) _) | (refine Below.setCell ?_ (by simp <;> omega) _))))) hgrow2 (fun k e hk => by simp [Value.ownBlock] at e; omega)); have HF := Lib.hid (ord_grow (U := U) (la := LQ) (lb := LR) (by exact (by repeat (first | exact Below.refl _ _ | assumption | refine Below.drew ?_ | refine Below.drewN' ?_ _ | (refine Below.alloc ?_ (by simp <;> omega) _) | (refine Below.setCell ?_ (by simp <;> omega) _)))) HA1.out HG1.out (by exact (by repeat (first | exact Below.refl _ _ | assumption | refine Below.drew ?_ | refine Below.drewN' ?_ _ | (refine Below.alloc ?_ (by simp <;> omega) _) | (refine Below.setCell ?_ (by simp <;> omega) _)))) (by omega) HXg.out hown2 hgrow2 (hat2.imp (fun e => Eq.symm e) (fun e => congrArg some e))); clear hown2 hgrow2 hat2 hltg2))
                refine hK.out _ _ ?_ (fun hHeld => ?_)
                · (try dsimp only); (first | (refine HSg.out _ (grown_below (grown_refl _ _) ?_); ((repeat (first | exact Below.refl _ _ | assumption | refine Below.drew ?_ | refine Below.drewN' ?_ _ | (refine Below.alloc ?_ (by simp <;> omega) _) | (refine Below.setCell ?_ (by simp <;> omega) _))); done)) | (refine HSg.out _ (grown_below HGa.out ?_); ((repeat (first | exact Below.refl _ _ | assumption | refine Below.drew ?_ | refine Below.drewN' ?_ _ | (refine Below.alloc ?_ (by simp <;> omega) _) | (refine Below.setCell ?_ (by simp <;> omega) _))); done)) | (refine HSg.out _ (grown_below HGb.out ?_); ((repeat (first | exact Below.refl _ _ | assumption | refine Below.drew ?_ | refine Below.drewN' ?_ _ | (refine Below.alloc ?_ (by simp <;> omega) _) | (refine Below.setCell ?_ (by simp <;> omega) _))); done)))
                clear hK K
                try simp only [Act.put, List.setIfInBounds_toArray, List.set_cons_zero, List.set_cons_succ]
                refine wpAnyH_take (i := 8) (oi := { dst := some 10, op := Op.assign (Operand.tmp 79), type := 48, pos := "outright.go:214", after := #[{ on := 3, ground := Ground.data }, { on := 7, ground := Ground.chain }, { on := 0, ground := Ground.phase }, { on := 1, ground := Ground.phase }, { on := 2, ground := Ground.phase }, { on := 3, ground := Ground.phase }, { on := 4, ground := Ground.textOnly Departure.lateStores }, { on := 5, ground := Ground.textOnly Departure.lateStores }, { on := 6, ground := Ground.textOnly Departure.lateStores }, { on := 7, ground := Ground.textOnly Departure.lateStoresUnsure }], guard := none }) (v := ?_) rfl (by kernel_rfl) (by kernel_rfl) (by kernel_rfl) (fun _ _ _ h => h) (Or.inl ⟨by rfl, ?_⟩) (by assumption) ?_
                rotate_left
                · ((intro w hSw; (try dsimp only at hSw); go_simp) <;> with_reducible rfl)
                try simp only [Act.put, List.setIfInBounds_toArray, List.set_cons_zero, List.set_cons_succ]
                refine wpAnyH_take (i := 9) (oi := { dst := some 11, op := Op.assign (Operand.tmp 83), type := 48, pos := "outright.go:214", after := #[{ on := 7, ground := Ground.data }, { on := 8, ground := Ground.chain }, { on := 0, ground := Ground.phase }, { on := 1, ground := Ground.phase }, { on := 2, ground := Ground.phase }, { on := 3, ground := Ground.phase }, { on := 4, ground := Ground.phase }, { on := 5, ground := Ground.phase }, { on := 6, ground := Ground.phase }, { on := 7, ground := Ground.phase }, { on := 8, ground := Ground.phase }], guard := none }) (v := ?_) rfl (by kernel_rfl) (by kernel_rfl) (by kernel_rfl) (fun _ _ _ h => h) (Or.inl ⟨by rfl, ?_⟩) (by assumption) ?_
                rotate_left
                · ((intro w hSw; (try dsimp only at hSw); go_simp) <;> with_reducible rfl)
                try simp only [Act.put, List.setIfInBounds_toArray, List.set_cons_zero, List.set_cons_succ]
                refine wpAnyH_done (by kernel_rfl) ?_ _
                refine NoPanic.normal ?_
                go_wp2_with fail
                go_meet
                exact HF.out
              refine AllReadyH.cons (o := { dst := some 81, op := Op.buildSlice 48 1 #[(0, Operand.tmp 80)], type := 48, pos := "outright.go:214", after := #[{ on := 4, ground := Ground.data }], guard := none }) rfl (fun K hK => ?_) ?_
              ·
                go_simp
                refine hK.out _ _ ?_ (fun hHeld => ?_)
                · (try dsimp only); (first | (refine HSg.out _ (grown_below (grown_refl _ _) ?_); ((repeat (first | exact Below.refl _ _ | assumption | refine Below.drew ?_ | refine Below.drewN' ?_ _ | (refine Below.alloc ?_ (by simp <;> omega) _) | (refine Below.setCell ?_ (by simp <;> omega) _))); done)) | (refine HSg.out _ (grown_below HGa.out ?_); ((repeat (first | exact Below.refl _ _ | assumption | refine Below.drew ?_ | refine Below.drewN' ?_ _ | (refine Below.alloc ?_ (by simp <;> omega) _) | (refine Below.setCell ?_ (by simp <;> omega) _))); done)) | (refine HSg.out _ (grown_below HGb.out ?_); ((repeat (first | exact Below.refl _ _ | assumption | refine Below.drew ?_ | refine Below.drewN' ?_ _ | (refine Below.alloc ?_ (by simp <;> omega) _) | (refine Below.setCell ?_ (by simp <;> omega) _))); done)))
                clear hK K
                try simp only [Act.put, List.setIfInBounds_toArray, List.set_cons_zero, List.set_cons_succ]
                refine wpAnyH_ready (rs := [3]) (by kernel_rfl) (by simp) ?_
                refine AllReadyH.cons (o := { dst := some 79, op := Op.call { callee := Callee.builtin Builtin.append, args := #[Operand.tmp 76, Operand.tmp 78], argTypes := #[48, 48] }, type := 48, pos := "outright.go:214", after := #[{ on := 0, ground := Ground.data }, { on := 2, ground := Ground.data }], guard := none }) rfl (fun K hK => ?_) AllReadyH.nil
                ((refine step_append_lies _ (by rfl) (.tmp 76) (.tmp 78) _ (by rfl) V2.heap.size 51 i1 _ 3 24 Tryz.underlying48 hi1 hy0 hy1 hy2 rfl (by omega) va LQ.length (sndCells LQ) (by rfl) (own_below HOa.out (by exact (by repeat (first | exact Below.refl _ _ | assumption | refine Below.drew ?_ | refine Below.drewN' ?_ _ | (refine Below.alloc ?_ (by simp <;> omega) _) | (refine Below.setCell ?_ (by simp <;> omega) _)))) (Nat.le_refl _)) ⟨U.heap.size, 0, none⟩ 1 1 [.int .i64 k, .int .i64 h, .int .i64 e] (by rfl) (by rfl) (World.news_of_block (cs := #[.int .i64 k, .int .i64 h, .int .i64 e]) (t := 51) (fr := (0, 0)) (by exact (heap_alloc_old _ _ (by simp)).trans (heap_alloc_new _ _))) (by simp [Value.oneCell']) (by omega) (by unfold maxLen; omega) (by omega) (by first | omega | (simp <;> omega)) _ rfl ?_; intro g1 c1 v1 hown1 hgrow hat hltg; have HA1 := Lib.hid hown1; have HG1 := Lib.hid hgrow; have HGa := Lib.hid (grown_trans (grown_below (grown_refl U va.ownBlock) (by exact (by repeat (first | exact Below.refl _ _ | assumption | refine Below.drew ?_ | refine Below.drewN' ?_ _ | (refine Below.alloc ?_ (by simp <;> omega) _) | (refine Below.setCell ?_ (by simp <;> omega) _))))) hgrow (fun k e _ => e)); have HOb1 := Lib.hid ((own_below HOb.out (by exact (by repeat (first | exact Below.refl _ _ | assumption | refine Below.drew ?_ | refine Below.drewN' ?_ _ | (refine Below.alloc ?_ (by simp <;> omega) _) | (refine Below.setCell ?_ (by simp <;> omega) _)))) (Nat.le_refl _)).kept hgrow HNe.out); have hsv : U.heap.size ≤ v1.heap.size := HGa.out.size; have HXg : Hid (g1 ≠ (U.heap.size + 1)) := (fun hh => hat.elim (fun e => by have := HLa.out _ e; omega) (fun e => by simp at e; omega)); have HLit := Lib.hid ((own_below (lit_own2 (B := V2.heap.size) U (.cells #[.int .i64 k, .int .i64 h, .int .i64 e] 51) ((k : Int), h, e) hle) (by exact (by repeat (first | exact Below.refl _ _ | assumption | refine Below.drew ?_ | refine Below.drewN' ?_ _ | (refine Below.alloc ?_ (by simp <;> omega) _) | (refine Below.setCell ?_ (by simp <;> omega) _)))) (Nat.le_refl _)).kept hgrow (.inr (fun e => by have : U.heap.size + 1 < wr.heap.size := HLa.out _ e.symm; omega))); clear hown1 hgrow hat hltg))
                refine hK.out _ _ ?_ (fun hHeld => ?_)
                · (try dsimp only); (first | (refine HSg.out _ (grown_below (grown_refl _ _) ?_); ((repeat (first | exact Below.refl _ _ | assumption | refine Below.drew ?_ | refine Below.drewN' ?_ _ | (refine Below.alloc ?_ (by simp <;> omega) _) | (refine Below.setCell ?_ (by simp <;> omega) _))); done)) | (refine HSg.out _ (grown_below HGa.out ?_); ((repeat (first | exact Below.refl _ _ | assumption | refine Below.drew ?_ | refine Below.drewN' ?_ _ | (refine Below.alloc ?_ (by simp <;> omega) _) | (refine Below.setCell ?_ (by simp <;> omega) _))); done)) | (refine HSg.out _ (grown_below HGb.out ?_); ((repeat (first | exact Below.refl _ _ | assumption | refine Below.drew ?_ | refine Below.drewN' ?_ _ | (refine Below.alloc ?_ (by simp <;> omega) _) | (refine Below.setCell ?_ (by simp <;> omega) _))); done)))
                clear hK K
                try simp only [Act.put, List.setIfInBounds_toArray, List.set_cons_zero, List.set_cons_succ]
                refine wpAnyH_ready (rs := [7]) (by kernel_rfl) (by simp) ?_
                refine AllReadyH.cons (o := { dst := some 83, op := Op.call { callee := Callee.builtin Builtin.append, args := #[Operand.tmp 81, Operand.tmp 82], argTypes := #[48, 48] }, type := 48, pos := "outright.go:214", after := #[{ on := 5, ground := Ground.data }, { on := 6, ground := Ground.data }, { on := 3, ground := Ground.chain }], guard := none }) rfl (fun K hK => ?_) AllReadyH.nil
                ((refine step_append_lies _ (by rfl) (.tmp 81) (.tmp 82) _ (by rfl) V2.heap.size 51 i1 _ 3 24 Tryz.underlying48 hi1 hy0 hy1 hy2 rfl (by omega) (.slice (some ⟨(U.heap.size + 1), 0, none⟩) 1 1) 1 (sndCells [((k : Int), h, e)]) (by rfl) (own_below HLit.out (by exact (by repeat (first | exact Below.refl _ _ | assumption | refine Below.drew ?_ | refine Below.drewN' ?_ _ | (refine Below.alloc ?_ (by simp <;> omega) _) | (refine Below.setCell ?_ (by simp <;> omega) _)))) (Nat.le_refl _)) ⟨gb, 0, none⟩ LR.length cb (sndCells LR) (by rfl) (sndCells_length LR) ((own_below HOb1.out (by exact (by repeat (first | exact Below.refl _ _ | assumption | refine Below.drew ?_ | refine Below.drewN' ?_ _ | (refine Below.alloc ?_ (by simp <;> omega) _) | (refine Below.setCell ?_ (by simp <;> omega) _)))) (Nat.le_refl _)).cells rfl) (sndCells_one LR) hLR0 (by unfold maxLen; omega) (by omega) (by first | omega | (simp <;> omega)) _ rfl ?_; intro g2 c2' v2 hown2 hgrow2 hat2 hltg2; have HGb := Lib.hid (grown_trans (grown_below HGa.out (by exact (by repeat (first | exact Below.refl _ _ | assumption | refine Below.drew ?_ | refine Below.drewN' ?_ _ | (refine Below.alloc ?_ (by simp <;> omega) _) | (refine Below.setCell ?_ (by simp <;> omega) _))))) hgrow2 (fun k e hk => by simp [Value.ownBlock] at e; omega)); have HF := Lib.hid (ord_grow (U := U) (la := LQ) (lb := LR) (by exact (by repeat (first | exact Below.refl _ _ | assumption | refine Below.drew ?_ | refine Below.drewN' ?_ _ | (refine Below.alloc ?_ (by simp <;> omega) _) | (refine Below.setCell ?_ (by simp <;> omega) _)))) HA1.out HG1.out (by exact (by repeat (first | exact Below.refl _ _ | assumption | refine Below.drew ?_ | refine Below.drewN' ?_ _ | (refine Below.alloc ?_ (by simp <;> omega) _) | (refine Below.setCell ?_ (by simp <;> omega) _)))) (by omega) HXg.out hown2 hgrow2 (hat2.imp (fun e => Eq.symm e) (fun e => congrArg some e))); clear hown2 hgrow2 hat2 hltg2))
                refine hK.out _ _ ?_ (fun hHeld => ?_)
                · (try dsimp only); (first | (refine HSg.out _ (grown_below (grown_refl _ _) ?_); ((repeat (first | exact Below.refl _ _ | assumption | refine Below.drew ?_ | refine Below.drewN' ?_ _ | (refine Below.alloc ?_ (by simp <;> omega) _) | (refine Below.setCell ?_ (by simp <;> omega) _))); done)) | (refine HSg.out _ (grown_below HGa.out ?_); ((repeat (first | exact Below.refl _ _ | assumption | refine Below.drew ?_ | refine Below.drewN' ?_ _ | (refine Below.alloc ?_ (by simp <;> omega) _) | (refine Below.setCell ?_ (by simp <;> omega) _))); done)) | (refine HSg.out _ (grown_below HGb.out ?_); ((repeat (first | exact Below.refl _ _ | assumption | refine Below.drew ?_ | refine Below.drewN' ?_ _ | (refine Below.alloc ?_ (by simp <;> omega) _) | (refine Below.setCell ?_ (by simp <;> omega) _))); done)))
                clear hK K
                try simp only [Act.put, List.setIfInBounds_toArray, List.set_cons_zero, List.set_cons_succ]
                refine wpAnyH_take (i := 8) (oi := { dst := some 10, op := Op.assign (Operand.tmp 79), type := 48, pos := "outright.go:214", after := #[{ on := 3, ground := Ground.data }, { on := 7, ground := Ground.chain }, { on := 0, ground := Ground.phase }, { on := 1, ground := Ground.phase }, { on := 2, ground := Ground.phase }, { on := 3, ground := Ground.phase }, { on := 4, ground := Ground.textOnly Departure.lateStores }, { on := 5, ground := Ground.textOnly Departure.lateStores }, { on := 6, ground := Ground.textOnly Departure.lateStores }, { on := 7, ground := Ground.textOnly Departure.lateStoresUnsure }], guard := none }) (v := ?_) rfl (by kernel_rfl) (by kernel_rfl) (by kernel_rfl) (fun _ _ _ h => h) (Or.inl ⟨by rfl, ?_⟩) (by assumption) ?_
                rotate_left
                · ((intro w hSw; (try dsimp only at hSw); go_simp) <;> with_reducible rfl)
                try simp only [Act.put, List.setIfInBounds_toArray, List.set_cons_zero, List.set_cons_succ]
                refine wpAnyH_take (i := 9) (oi := { dst := some 11, op := Op.assign (Operand.tmp 83), type := 48, pos := "outright.go:214", after := #[{ on := 7, ground := Ground.data }, { on := 8, ground := Ground.chain }, { on := 0, ground := Ground.phase }, { on := 1, ground := Ground.phase }, { on := 2, ground := Ground.phase }, { on := 3, ground := Ground.phase }, { on := 4, ground := Ground.phase }, { on := 5, ground := Ground.phase }, { on := 6, ground := Ground.phase }, { on := 7, ground := Ground.phase }, { on := 8, ground := Ground.phase }], guard := none }) (v := ?_) rfl (by kernel_rfl) (by kernel_rfl) (by kernel_rfl) (fun _ _ _ h => h) (Or.inl ⟨by rfl, ?_⟩) (by assumption) ?_
                rotate_left
                · ((intro w hSw; (try dsimp only at hSw); go_simp) <;> with_reducible rfl)
                try simp only [Act.put, List.setIfInBounds_toArray, List.set_cons_zero, List.set_cons_succ]
                refine wpAnyH_done (by kernel_rfl) ?_ _
                refine NoPanic.normal ?_
                go_wp2_with fail
                go_meet
                exact HF.out
              exact AllReadyH.nil
            refine AllReadyH.cons (o := { dst := some 81, op := Op.buildSlice 48 1 #[(0, Operand.tmp 80)], type := 48, pos := "outright.go:214", after := #[{ on := 4, ground := Ground.data }], guard := none }) rfl (fun K hK => ?_) ?_
            ·
              go_simp
              refine hK.out _ _ ?_ (fun hHeld => ?_)
              · (try dsimp only); (first | (refine HSg.out _ (grown_below (grown_refl _ _) ?_); ((repeat (first | exact Below.refl _ _ | assumption | refine Below.drew ?_ | refine Below.drewN' ?_ _ | (refine Below.alloc ?_ (by simp <;> omega) _) | (refine Below.setCell ?_ (by simp <;> omega) _))); done)) | (refine HSg.out _ (grown_below HGa.out ?_); ((repeat (first | exact Below.refl _ _ | assumption | refine Below.drew ?_ | refine Below.drewN' ?_ _ | (refine Below.alloc ?_ (by simp <;> omega) _) | (refine Below.setCell ?_ (by simp <;> omega) _))); done)) | (refine HSg.out _ (grown_below HGb.out ?_); ((repeat (first | exact Below.refl _ _ | assumption | refine Below.drew ?_ | refine Below.drewN' ?_ _ | (refine Below.alloc ?_ (by simp <;> omega) _) | (refine Below.setCell ?_ (by simp <;> omega) _))); done)))
              clear hK K
              try simp only [Act.put, List.setIfInBounds_toArray, List.set_cons_zero, List.set_cons_succ]
              refine wpAnyH_ready (rs := [2]) (by kernel_rfl) (by simp) ?_
              refine AllReadyH.cons (o := { dst := some 78, op := Op.buildSlice 48 1 #[(0, Operand.tmp 77)], type := 48, pos := "outright.go:214", after := #[{ on := 1, ground := Ground.data }], guard := none }) rfl (fun K hK => ?_) AllReadyH.nil
              go_simp
              refine hK.out _ _ ?_ (fun hHeld => ?_)
              · (try dsimp only); (first | (refine HSg.out _ (grown_below (grown_refl _ _) ?_); ((repeat (first | exact Below.refl _ _ | assumption | refine Below.drew ?_ | refine Below.drewN' ?_ _ | (refine Below.alloc ?_ (by simp <;> omega) _) | (refine Below.setCell ?_ (by simp <;> omega) _))); done)) | (refine HSg.out _ (grown_below HGa.out ?_); ((repeat (first | exact Below.refl _ _ | assumption | refine Below.drew ?_ | refine Below.drewN' ?_ _ | (refine Below.alloc ?_ (by simp <;> omega) _) | (refine Below.setCell ?_ (by simp <;> omega) _))); done)) | (refine HSg.out _ (grown_below HGb.out ?_); ((repeat (first | exact Below.refl _ _ | assumption | refine Below.drew ?_ | refine Below.drewN' ?_ _ | (refine Below.alloc ?_ (by simp <;> omega) _) | (refine Below.setCell ?_ (by simp <;> omega) _))); done)))
              clear hK K
              try simp only [Act.put, List.setIfInBounds_toArray, List.set_cons_zero, List.set_cons_succ]
              refine wpAnyH_ready (rs := [3]) (by kernel_rfl) (by simp) ?_
              refine AllReadyH.cons (o := { dst := some 79, op := Op.call { callee := Callee.builtin Builtin.append, args := #[Operand.tmp 76, Operand.tmp 78], argTypes := #[48, 48] }, type := 48, pos := "outright.go:214", after := #[{ on := 0, ground := Ground.data }, { on := 2, ground := Ground.data }], guard := none }) rfl (fun K hK => ?_) AllReadyH.nil
              ((refine step_append_lies _ (by rfl) (.tmp 76) (.tmp 78) _ (by rfl) V2.heap.size 51 i1 _ 3 24 Tryz.underlying48 hi1 hy0 hy1 hy2 rfl (by omega) va LQ.length (sndCells LQ) (by rfl) (own_below HOa.out (by exact (by repeat (first | exact Below.refl _ _ | assumption | refine Below.drew ?_ | refine Below.drewN' ?_ _ | (refine Below.alloc ?_ (by simp <;> omega) _) | (refine Below.setCell ?_ (by simp <;> omega) _)))) (Nat.le_refl _)) ⟨(U.heap.size + 1), 0, none⟩ 1 1 [.int .i64 k, .int .i64 h, .int .i64 e] (by rfl) (by rfl) (World.news_of_block (cs := #[.int .i64 k, .int .i64 h, .int .i64 e]) (t := 51) (fr := (0, 0)) (by exact lit_at1 _ _ _)) (by simp [Value.oneCell']) (by omega) (by unfold maxLen; omega) (by omega) (by first | omega | (simp <;> omega)) _ rfl ?_; intro g1 c1 v1 hown1 hgrow hat hltg; have HA1 := Lib.hid hown1; have HG1 := Lib.hid hgrow; have HGa := Lib.hid (grown_trans (grown_below (grown_refl U va.ownBlock) (by exact (by repeat (first | exact Below.refl _ _ | assumption | refine Below.drew ?_ | refine Below.drewN' ?_ _ | (refine Below.alloc ?_ (by simp <;> omega) _) | (refine Below.setCell ?_ (by simp <;> omega) _))))) hgrow (fun k e _ => e)); have HOb1 := Lib.hid ((own_below HOb.out (by exact (by repeat (first | exact Below.refl _ _ | assumption | refine Below.drew ?_ | refine Below.drewN' ?_ _ | (refine Below.alloc ?_ (by simp <;> omega) _) | (refine Below.setCell ?_ (by simp <;> omega) _)))) (Nat.le_refl _)).kept hgrow HNe.out); have hsv : U.heap.size ≤ v1.heap.size := HGa.out.size; have HXg : Hid (g1 ≠ U.heap.size) := (fun hh => hat.elim (fun e => by have := HLa.out _ e; omega) (fun e => by simp at e; omega)); have HLit := Lib.hid ((own_below (lit_own1 (B := V2.heap.size) U ((k : Int), h, e) hle) (by exact (by repeat (first | exact Below.refl _ _ | assumption | refine Below.drew ?_ | refine Below.drewN' ?_ _ | (refine Below.alloc ?_ (by simp <;> omega) _) | (refine Below.setCell ?_ (by simp <;> omega) _)))) (Nat.le_refl _)).kept hgrow (.inr (fun e => by have : U.heap.size < wr.heap.size := HLa.out _ e.symm; omega))); clear hown1 hgrow hat hltg))
              refine hK.out _ _ ?_ (fun hHeld => ?_)
              · (try dsimp only); (first | (refine HSg.out _ (grown_below (grown_refl _ _) ?_); ((repeat (first | exact Below.refl _ _ | assumption | refine Below.drew ?_ | refine Below.drewN' ?_ _ | (refine Below.alloc ?_ (by simp <;> omega) _) | (refine Below.setCell ?_ (by simp <;> omega) _))); done)) | (refine HSg.out _ (grown_below HGa.out ?_); ((repeat (first | exact Below.refl _ _ | assumption | refine Below.drew ?_ | refine Below.drewN' ?_ _ | (refine Below.alloc ?_ (by simp <;> omega) _) | (refine Below.setCell ?_ (by simp <;> omega) _))); done)) | (refine HSg.out _ (grown_below HGb.out ?_); ((repeat (first | exact Below.refl _ _ | assumption | refine Below.drew ?_ | refine Below.drewN' ?_ _ | (refine Below.alloc ?_ (by simp <;> omega) _) | (refine Below.setCell ?_ (by simp <;> omega) _))); done)))
              clear hK K
              try simp only [Act.put, List.setIfInBounds_toArray, List.set_cons_zero, List.set_cons_succ]
              refine wpAnyH_ready (rs := [7]) (by kernel_rfl) (by simp) ?_
              refine AllReadyH.cons (o := { dst := some 83, op := Op.call { callee := Callee.builtin Builtin.append, args := #[Operand.tmp 81, Operand.tmp 82], argTypes := #[48, 48] }, type := 48, pos := "outright.go:214", after := #[{ on := 5, ground := Ground.data }, { on := 6, ground := Ground.data }, { on := 3, ground := Ground.chain }], guard := none }) rfl (fun K hK => ?_) AllReadyH.nil
              ((refine step_append_lies _ (by rfl) (.tmp 81) (.tmp 82) _ (by rfl) V2.heap.size 51 i1 _ 3 24 Tryz.underlying48 hi1 hy0 hy1 hy2 rfl (by omega) (.slice (some ⟨U.heap.size, 0, none⟩) 1 1) 1 (sndCells [((k : Int), h, e)]) (by rfl) (own_below HLit.out (by exact (by repeat (first | exact Below.refl _ _ | assumption | refine Below.drew ?_ | refine Below.drewN' ?_ _ | (refine Below.alloc ?_ (by simp <;> omega) _) | (refine Below.setCell ?_ (by simp <;> omega) _)))) (Nat.le_refl _)) ⟨gb, 0, none⟩ LR.length cb (sndCells LR) (by rfl) (sndCells_length LR) ((own_below HOb1.out (by exact (by repeat (first | exact Below.refl _ _ | assumption | refine Below.drew ?_ | refine Below.drewN' ?_ _ | (refine Below.alloc ?_ (by simp <;> omega) _) | (refine Below.setCell ?_ (by simp <;> omega) _)))) (Nat.le_refl _)).cells rfl) (sndCells_one LR) hLR0 (by unfold maxLen; omega) (by omega) (by first | omega | (simp <;> omega)) _ rfl ?_; intro g2 c2' v2 hown2 hgrow2 hat2 hltg2; have HGb := Lib.hid (grown_trans (grown_below HGa.out (by exact (by repeat (first | exact Below.refl _ _ | assumption | refine Below.drew ?_ | refine Below.drewN' ?_ _ | (refine Below.alloc ?_ (by simp <;> omega) _) | (refine Below.setCell ?_ (by simp <;> omega) _))))) hgrow2 (fun k e hk => by simp [Value.ownBlock] at e; omega)); have HF := Lib.hid (ord_grow (U := U) (la := LQ) (lb := LR) (by exact (by repeat (first | exact Below.refl _ _ | assumption | refine Below.drew ?_ | refine Below.drewN' ?_ _ | (refine Below.alloc ?_ (by simp <;> omega) _) | (refine Below.setCell ?_ (by simp <;> omega) _)))) HA1.out HG1.out (by exact (by repeat (first | exact Below.refl _ _ | assumption | refine Below.drew ?_ | refine Below.drewN' ?_ _ | (refine Below.alloc ?_ (by simp <;> omega) _) | (refine Below.setCell ?_ (by simp <;> omega) _)))) (by omega) HXg.out hown2 hgrow2 (hat2.imp (fun e => Eq.symm e) (fun e => congrArg some e))); clear hown2 hgrow2 hat2 hltg2))
              refine hK.out _ _ ?_ (fun hHeld => ?_)
              · (try dsimp only); (first | (refine HSg.out _ (grown_below (grown_refl _ _) ?_); ((repeat (first | exact Below.refl _ _ | assumption | refine Below.drew ?_ | refine Below.drewN' ?_ _ | (refine Below.alloc ?_ (by simp <;> omega) _) | (refine Below.setCell ?_ (by simp <;> omega) _))); done)) | (refine HSg.out _ (grown_below HGa.out ?_); ((repeat (first | exact Below.refl _ _ | assumption | refine Below.drew ?_ | refine Below.drewN' ?_ _ | (refine Below.alloc ?_ (by simp <;> omega) _) | (refine Below.setCell ?_ (by simp <;> omega) _))); done)) | (refine HSg.out _ (grown_below HGb.out ?_); ((repeat (first | exact Below.refl _ _ | assumption | refine Below.drew ?_ | refine Below.drewN' ?_ _ | (refine Below.alloc ?_ (by simp <;> omega) _) | (refine Below.setCell ?_ (by simp <;> omega) _))); done)))
              clear hK K
              try simp only [Act.put, List.setIfInBounds_toArray, List.set_cons_zero, List.set_cons_succ]
              refine wpAnyH_take (i := 8) (oi := { dst := some 10, op := Op.assign (Operand.tmp 79), type := 48, pos := "outright.go:214", after := #[{ on := 3, ground := Ground.data }, { on := 7, ground := Ground.chain }, { on := 0, ground := Ground.phase }, { on := 1, ground := Ground.phase }, { on := 2, ground := Ground.phase }, { on := 3, ground := Ground.phase }, { on := 4, ground := Ground.textOnly Departure.lateStores }, { on := 5, ground := Ground.textOnly Departure.lateStores }, { on := 6, ground := Ground.textOnly Departure.lateStores }, { on := 7, ground := Ground.textOnly Departure.lateStoresUnsure }], guard := none }) (v := ?_) rfl (by kernel_rfl) (by kernel_rfl) (by kernel_rfl) (fun _ _ _ h => h) (Or.inl ⟨by rfl, ?_⟩) (by assumption) ?_
              rotate_left
              · ((intro w hSw; (try dsimp only at hSw); go_simp) <;> with_reducible rfl)
              try simp only [Act.put, List.setIfInBounds_toArray, List.set_cons_zero, List.set_cons_succ]
              refine wpAnyH_take (i := 9) (oi := { dst := some 11, op := Op.assign (Operand.tmp 83), type := 48, pos := "outright.go:214", after := #[{ on := 7, ground := Ground.data }, { on := 8, ground := Ground.chain }, { on := 0, ground := Ground.phase }, { on := 1, ground := Ground.phase }, { on := 2, ground := Ground.phase }, { on := 3, ground := Ground.phase }, { on := 4, ground := Ground.phase }, { on := 5, ground := Ground.phase }, { on := 6, ground := Ground.phase }, { on := 7, ground := Ground.phase }, { on := 8, ground := Ground.phase }], guard := none }) (v := ?_) rfl (by kernel_rfl) (by kernel_rfl) (by kernel_rfl) (fun _ _ _ h => h) (Or.inl ⟨by rfl, ?_⟩) (by assumption) ?_
              rotate_left
              · ((intro w hSw; (try dsimp only at hSw); go_simp) <;> with_reducible rfl)
              try simp only [Act.put, List.setIfInBounds_toArray, List.set_cons_zero, List.set_cons_succ]
              refine wpAnyH_done (by kernel_rfl) ?_ _
              refine NoPanic.normal ?_
              go_wp2_with fail
              go_meet
              exact HF.out
            exact AllReadyH.nil
        case rest =>
          have HA := Lib.hid hcut
          clear hcut t0 t1 t2
          obtain ⟨U2, rfl⟩ : ∃ U2, U2 = wc := ⟨_, rfl⟩
          have HW2 := Lib.hid (HstU.out.want.kept HA.out.gr (own_own_ne HstU.out.a HstU.out.want (by decide)))
          have HWL := Lib.hid (wantL_len LQ g.ss)
          have HWN := Lib.hid (wantL_next g.ss LQ ((k : Int), h, e))
          generalize wantL g.ss LQ = ws at *
          have hkw : k < ws.length := by rw [HWL.out]; exact hkl
          obtain ⟨m1, m2⟩ := own_spans_at HW2.out hkw
          have HG : Hid (ws.getD k (0, 0) = ws[k]) := by rw [Hid, List.getD_eq_getElem?_getD, List.getElem?_eq_getElem hkw]; rfl
          generalize ws[k] = lh at *
          obtain ⟨lo, hi⟩ := lh
          simp only at m1 m2
          have m3 := HW2.out.frozenAt (k * 2)
          have m4 := HW2.out.frozenAt (k * 2 + 1)
          have b := blk_grown HBk.out HA.out.gr (fun e => by have := HLa.out _ e.symm; omega)
          have t0 : U2.cell? ⟨wr.heap.size, 0, none⟩ = some (.int .i64 k) := b.cell 0
          have t1 : U2.cell? ⟨wr.heap.size, 1, none⟩ = some (.int .i64 h) := b.cell 1
          have t2 : U2.cell? ⟨wr.heap.size, 2, none⟩ = some (.int .i64 e) := b.cell 2
          have hgw : gw < wr.heap.size := (Hst.out.want.lt gw rfl).2
          have ngw : ¬ gw = wr.heap.size := by omega
          have ngw' : ¬ wr.heap.size = gw := by omega
          have k0 : (0 : Int) ≤ (k : Int) := by omega
          have k1' : (k : Int) < (g.ss.length : Int) := by omega
          have HNX := Lib.hid (ord_next (lo := max lo (h - e)) (hi := min hi (h + e)) HstU.out HA.out hkw)
          have HWX : Hid (wantL g.ss (LQ ++ [((k : Int), h, e)]) = ws.set k (max lo (h - e), min hi (h + e))) := by
            have e1 : snd1 ws ((k : Int), h, e) = (max lo (h - e), min hi (h + e)) := by
              unfold snd1 com
              simp only [Int.toNat_natCast]
              rw [HG.out]
            have h := HWN.out
            rw [e1] at h
            exact h
          clear b
          go_upto_region 12 with (fail)
          refine wp_region_noPanic ?_
          refine wp_region_held_drew (S := (fun w' => w'.cell? ⟨wr.heap.size, 1, none⟩ = some (.int .i64 h) ∧ w'.cell? ⟨wr.heap.size, 2, none⟩ = some (.int .i64 e))) (by kernel_rfl) ?_ (fun hHeld => ?_)
          · (try dsimp only); (refine ⟨?_, ?_⟩ <;> first | assumption | (go_simp; assumption) | go_keep)
          refine wpAnyH_take (i := 0) (oi := { dst := some 88, op := Op.move (Operand.tmp 16), type := 76, pos := "outright.go:216", after := #[], guard := none }) (v := ?_) rfl (by kernel_rfl) (by kernel_rfl) (by kernel_rfl) (fun _ _ _ h => h) (Or.inl ⟨by rfl, ?_⟩) (by assumption) ?_
          rotate_left
          · ((intro w hSw; (try dsimp only at hSw); go_simp) <;> with_reducible rfl)
          try simp only [Act.put, List.setIfInBounds_toArray, List.set_cons_zero, List.set_cons_succ]
          refine wpAnyH_take (i := 1) (oi := { dst := some 89, op := Op.move (Operand.tmp 16), type := 76, pos := "outright.go:216", after := #[{ on := 24, ground := Ground.gcOnly Departure.lateStores }], guard := none }) (v := ?_) rfl (by kernel_rfl) (by kernel_rfl) (by kernel_rfl) (fun _ _ _ h => h) (Or.inl ⟨by rfl, ?_⟩) (by assumption) ?_
          rotate_left
          · ((intro w hSw; (try dsimp only at hSw); go_simp) <;> with_reducible rfl)
          try simp only [Act.put, List.setIfInBounds_toArray, List.set_cons_zero, List.set_cons_succ]
          refine wpAnyH_take (i := 2) (oi := { dst := some 90, op := Op.move (Operand.tmp 16), type := 76, pos := "outright.go:216", after := #[], guard := none }) (v := ?_) rfl (by kernel_rfl) (by kernel_rfl) (by kernel_rfl) (fun _ _ _ h => h) (Or.inl ⟨by rfl, ?_⟩) (by assumption) ?_
          rotate_left
          · ((intro w hSw; (try dsimp only at hSw); go_simp) <;> with_reducible rfl)
          try simp only [Act.put, List.setIfInBounds_toArray, List.set_cons_zero, List.set_cons_succ]
          refine wpAnyH_take (i := 3) (oi := { dst := some 91, op := Op.nilCheck (Operand.tmp 90), type := 0, pos := "outright.go:216", after := #[{ on := 2, ground := Ground.data }], guard := none }) (v := ?_) rfl (by kernel_rfl) (by kernel_rfl) (by kernel_rfl) (fun _ _ _ h => h) (Or.inl ⟨by rfl, ?_⟩) (by assumption) ?_
          rotate_left
          · ((intro w hSw; (try dsimp only at hSw); go_simp) <;> with_reducible rfl)
          try simp only [Act.put, List.setIfInBounds_toArray, List.set_cons_zero, List.set_cons_succ]
          refine wpAnyH_take (i := 4) (oi := { dst := some 92, op := Op.fieldAddr 34 (Operand.tmp 91) 0, type := 0, pos := "outright.go:216", after := #[{ on := 3, ground := Ground.data }], guard := none }) (v := ?_) rfl (by kernel_rfl) (by kernel_rfl) (by kernel_rfl) (fun _ _ _ h => h) (Or.inl ⟨by rfl, ?_⟩) (by assumption) ?_
          rotate_left
          · ((intro w hSw; (try dsimp only at hSw); go_simp) <;> with_reducible rfl)
          try simp only [Act.put, List.setIfInBounds_toArray, List.set_cons_zero, List.set_cons_succ]
          refine wpAnyH_take (i := 6) (oi := { dst := some 94, op := Op.fieldAddr 51 (Operand.tmp 15) 1, type := 0, pos := "outright.go:216", after := #[], guard := none }) (v := ?_) rfl (by kernel_rfl) (by kernel_rfl) (by kernel_rfl) (fun _ _ _ h => h) (Or.inl ⟨by rfl, ?_⟩) (by assumption) ?_
          rotate_left
          · ((intro w hSw; (try dsimp only at hSw); go_simp) <;> with_reducible rfl)
          try simp only [Act.put, List.setIfInBounds_toArray, List.set_cons_zero, List.set_cons_succ]
          refine wpAnyH_take (i := 7) (oi := { dst := some 95, op := Op.load 3 (Operand.tmp 94), type := 3, pos := "outright.go:216", after := #[{ on := 6, ground := Ground.data }], guard := none }) (v := ?_) rfl (by kernel_rfl) (by kernel_rfl) (by kernel_rfl) (fun _ _ _ h => h) (Or.inl ⟨by rfl, ?_⟩) (by assumption) ?_
          rotate_left
          · ((intro w hSw; (try dsimp only at hSw); go_simp) <;> with_reducible rfl)
          try simp only [Act.put, List.setIfInBounds_toArray, List.set_cons_zero, List.set_cons_succ]
          refine wpAnyH_take (i := 8) (oi := { dst := some 96, op := Op.fieldAddr 51 (Operand.tmp 15) 2, type := 0, pos := "outright.go:216", after := #[], guard := none }) (v := ?_) rfl (by kernel_rfl) (by kernel_rfl) (by kernel_rfl) (fun _ _ _ h => h) (Or.inl ⟨by rfl, ?_⟩) (by assumption) ?_
          rotate_left
          · ((intro w hSw; (try dsimp only at hSw); go_simp) <;> with_reducible rfl)
          try simp only [Act.put, List.setIfInBounds_toArray, List.set_cons_zero, List.set_cons_succ]
          refine wpAnyH_take (i := 9) (oi := { dst := some 97, op := Op.load 3 (Operand.tmp 96), type := 3, pos := "outright.go:216", after := #[{ on := 8, ground := Ground.data }], guard := none }) (v := ?_) rfl (by kernel_rfl) (by kernel_rfl) (by kernel_rfl) (fun _ _ _ h => h) (Or.inl ⟨by rfl, ?_⟩) (by assumption) ?_
          rotate_left
          · ((intro w hSw; (try dsimp only at hSw); go_simp) <;> with_reducible rfl)
          try simp only [Act.put, List.setIfInBounds_toArray, List.set_cons_zero, List.set_cons_succ]
          refine wpAnyH_take (i := 10) (oi := { dst := some 98, op := Op.binOp BinOp.sub 3 (Operand.tmp 95) (Operand.tmp 97) 3, type := 3, pos := "outright.go:216", after := #[{ on := 7, ground := Ground.data }, { on := 9, ground := Ground.data }], guard := none }) (v := ?_) rfl (by kernel_rfl) (by kernel_rfl) (by kernel_rfl) (fun _ _ _ h => h) (Or.inl ⟨by rfl, ?_⟩) (by assumption) ?_
          rotate_left
          · ((intro w hSw; (try dsimp only at hSw); go_simp) <;> with_reducible rfl)
          try simp only [Act.put, List.setIfInBounds_toArray, List.set_cons_zero, List.set_cons_succ]
          refine wpAnyH_take (i := 12) (oi := { dst := some 100, op := Op.move (Operand.tmp 16), type := 76, pos := "outright.go:216", after := #[], guard := none }) (v := ?_) rfl (by kernel_rfl) (by kernel_rfl) (by kernel_rfl) (fun _ _ _ h => h) (Or.inl ⟨by rfl, ?_⟩) (by assumption) ?_
          rotate_left
          · ((intro w hSw; (try dsimp only at hSw); go_simp) <;> with_reducible rfl)
          try simp only [Act.put, List.setIfInBounds_toArray, List.set_cons_zero, List.set_cons_succ]
          refine wpAnyH_take (i := 13) (oi := { dst := some 101, op := Op.nilCheck (Operand.tmp 100), type := 0, pos := "outright.go:216", after := #[{ on := 12, ground := Ground.data }], guard := none }) (v := ?_) rfl (by kernel_rfl) (by kernel_rfl) (by kernel_rfl) (fun _ _ _ h => h) (Or.inl ⟨by rfl, ?_⟩) (by assumption) ?_
          rotate_left
          · ((intro w hSw; (try dsimp only at hSw); go_simp) <;> with_reducible rfl)
          try simp only [Act.put, List.setIfInBounds_toArray, List.set_cons_zero, List.set_cons_succ]
          refine wpAnyH_take (i := 14) (oi := { dst := some 102, op := Op.fieldAddr 34 (Operand.tmp 101) 1, type := 0, pos := "outright.go:216", after := #[{ on := 13, ground := Ground.data }], guard := none }) (v := ?_) rfl (by kernel_rfl) (by kernel_rfl) (by kernel_rfl) (fun _ _ _ h => h) (Or.inl ⟨by rfl, ?_⟩) (by assumption) ?_
          rotate_left
          · ((intro w hSw; (try dsimp only at hSw); go_simp) <;> with_reducible rfl)
          try simp only [Act.put, List.setIfInBounds_toArray, List.set_cons_zero, List.set_cons_succ]
          refine wpAnyH_take (i := 16) (oi := { dst := some 104, op := Op.fieldAddr 51 (Operand.tmp 15) 1, type := 0, pos := "outright.go:216", after := #[], guard := none }) (v := ?_) rfl (by kernel_rfl) (by kernel_rfl) (by kernel_rfl) (fun _ _ _ h => h) (Or.inl ⟨by rfl, ?_⟩) (by assumption) ?_
          rotate_left
          · ((intro w hSw; (try dsimp only at hSw); go_simp) <;> with_reducible rfl)
          try simp only [Act.put, List.setIfInBounds_toArray, List.set_cons_zero, List.set_cons_succ]
          refine wpAnyH_take (i := 17) (oi := { dst := some 105, op := Op.load 3 (Operand.tmp 104), type := 3, pos := "outright.go:216", after := #[{ on := 16, ground := Ground.data }], guard := none }) (v := ?_) rfl (by kernel_rfl) (by kernel_rfl) (by kernel_rfl) (fun _ _ _ h => h) (Or.inl ⟨by rfl, ?_⟩) (by assumption) ?_
          rotate_left
          · ((intro w hSw; (try dsimp only at hSw); go_simp) <;> with_reducible rfl)
          try simp only [Act.put, List.setIfInBounds_toArray, List.set_cons_zero, List.set_cons_succ]
          refine wpAnyH_take (i := 18) (oi := { dst := some 106, op := Op.fieldAddr 51 (Operand.tmp 15) 2, type := 0, pos := "outright.go:216", after := #[], guard := none }) (v := ?_) rfl (by kernel_rfl) (by kernel_rfl) (by kernel_rfl) (fun _ _ _ h => h) (Or.inl ⟨by rfl, ?_⟩) (by assumption) ?_
          rotate_left
          · ((intro w hSw; (try dsimp only at hSw); go_simp) <;> with_reducible rfl)
          try simp only [Act.put, List.setIfInBounds_toArray, List.set_cons_zero, List.set_cons_succ]
          refine wpAnyH_take (i := 19) (oi := { dst := some 107, op := Op.load 3 (Operand.tmp 106), type := 3, pos := "outright.go:216", after := #[{ on := 18, ground := Ground.data }], guard := none }) (v := ?_) rfl (by kernel_rfl) (by kernel_rfl) (by kernel_rfl) (fun _ _ _ h => h) (Or.inl ⟨by rfl, ?_⟩) (by assumption) ?_
          rotate_left
          · ((intro w hSw; (try dsimp only at hSw); go_simp) <;> with_reducible rfl)
          try simp only [Act.put, List.setIfInBounds_toArray, List.set_cons_zero, List.set_cons_succ]
          refine wpAnyH_take (i := 20) (oi := { dst := some 108, op := Op.binOp BinOp.add 3 (Operand.tmp 105) (Operand.tmp 107) 3, type := 3, pos := "outright.go:216", after := #[{ on := 17, ground := Ground.data }, { on := 19, ground := Ground.data }], guard := none }) (v := ?_) rfl (by kernel_rfl) (by kernel_rfl) (by kernel_rfl) (fun _ _ _ h => h) (Or.inl ⟨by rfl, ?_⟩) (by assumption) ?_
          rotate_left
          · ((intro w hSw; (try dsimp only at hSw); go_simp) <;> with_reducible rfl)
          try simp only [Act.put, List.setIfInBounds_toArray, List.set_cons_zero, List.set_cons_succ]
          refine wpAnyH_ready (rs := [5, 15]) (by kernel_rfl) (by simp) ?_
          refine AllReadyH.cons (o := { dst := some 93, op := Op.load 3 (Operand.tmp 92), type := 3, pos := "outright.go:216", after := #[{ on := 4, ground := Ground.data }], guard := none }) rfl (fun K hK => ?_) ?_
          ·
            go_simp
            refine hK.out _ _ ?_ (fun hHeld => ?_)
            · (try dsimp only); (refine ⟨?_, ?_⟩ <;> first | assumption | (go_simp; assumption) | go_keep)
            clear hK K
            try simp only [Act.put, List.setIfInBounds_toArray, List.set_cons_zero, List.set_cons_succ]
            refine wpAnyH_take (i := 11) (oi := { dst := some 99, op := Op.call { callee := Callee.builtin Builtin.max, args := #[Operand.tmp 93, Operand.tmp 98], argTypes := #[3, 3] }, type := 3, pos := "outright.go:216", after := #[{ on := 5, ground := Ground.data }, { on := 10, ground := Ground.data }], guard := none }) (v := ?_) rfl (by kernel_rfl) (by kernel_rfl) (by kernel_rfl) (fun _ _ _ h => h) (Or.inl ⟨by rfl, ?_⟩) (by assumption) ?_
            rotate_left
            · ((intro w hSw; (try dsimp only at hSw); go_simp) <;> with_reducible rfl)
            try simp only [Act.put, List.setIfInBounds_toArray, List.set_cons_zero, List.set_cons_succ]
            refine wpAnyH_ready (rs := [15]) (by kernel_rfl) (by simp) ?_
            refine AllReadyH.cons (o := { dst := some 103, op := Op.load 3 (Operand.tmp 102), type := 3, pos := "outright.go:216", after := #[{ on := 14, ground := Ground.data }], guard := none }) rfl (fun K hK => ?_) AllReadyH.nil
            go_simp
            refine hK.out _ _ ?_ (fun hHeld => ?_)
            · (try dsimp only); (refine ⟨?_, ?_⟩ <;> first | assumption | (go_simp; assumption) | go_keep)
            clear hK K
            try simp only [Act.put, List.setIfInBounds_toArray, List.set_cons_zero, List.set_cons_succ]
            refine wpAnyH_take (i := 21) (oi := { dst := some 109, op := Op.call { callee := Callee.builtin Builtin.min, args := #[Operand.tmp 103, Operand.tmp 108], argTypes := #[3, 3] }, type := 3, pos := "outright.go:216", after := #[{ on := 15, ground := Ground.data }, { on := 20, ground := Ground.data }], guard := none }) (v := ?_) rfl (by kernel_rfl) (by kernel_rfl) (by kernel_rfl) (fun _ _ _ h => h) (Or.inl ⟨by rfl, ?_⟩) (by assumption) ?_
            rotate_left
            · ((intro w hSw; (try dsimp only at hSw); go_simp) <;> with_reducible rfl)
            try simp only [Act.put, List.setIfInBounds_toArray, List.set_cons_zero, List.set_cons_succ]
            refine wpAnyH_take (i := 22) (oi := { dst := some 110, op := Op.nilCheck (Operand.tmp 88), type := 0, pos := "outright.go:216", after := #[{ on := 0, ground := Ground.data }, { on := 0, ground := Ground.phase }, { on := 1, ground := Ground.textOnly Departure.lateStores }, { on := 2, ground := Ground.phase }, { on := 3, ground := Ground.phase }, { on := 4, ground := Ground.phase }, { on := 5, ground := Ground.phase }, { on := 6, ground := Ground.phase }, { on := 7, ground := Ground.phase }, { on := 8, ground := Ground.phase }, { on := 9, ground := Ground.phase }, { on := 10, ground := Ground.phase }, { on := 11, ground := Ground.phase }, { on := 12, ground := Ground.textOnly Departure.lateStores }, { on := 13, ground := Ground.textOnly Departure.lateStoresUnsure }, { on := 14, ground := Ground.textOnly Departure.lateStoresUnsure }, { on := 15, ground := Ground.phase }, { on := 16, ground := Ground.textOnly Departure.lateStores }, { on := 17, ground := Ground.textOnly Departure.lateStores }, { on := 18, ground := Ground.textOnly Departure.lateStores }, { on := 19, ground := Ground.textOnly Departure.lateStores }, { on := 20, ground := Ground.textOnly Departure.lateStores }, { on := 21, ground := Ground.textOnly Departure.lateStoresUnsure }], guard := none }) (v := ?_) rfl (by kernel_rfl) (by kernel_rfl) (by kernel_rfl) (fun _ _ _ h => h) (Or.inl ⟨by rfl, ?_⟩) (by assumption) ?_
            rotate_left
            · ((intro w hSw; (try dsimp only at hSw); go_simp) <;> with_reducible rfl)
            try simp only [Act.put, List.setIfInBounds_toArray, List.set_cons_zero, List.set_cons_succ]
            refine wpAnyH_take (i := 23) (oi := { dst := some 111, op := Op.fieldAddr 34 (Operand.tmp 110) 0, type := 0, pos := "outright.go:216", after := #[{ on := 22, ground := Ground.data }, { on := 0, ground := Ground.phase }, { on := 1, ground := Ground.textOnly Departure.lateStores }, { on := 2, ground := Ground.phase }, { on := 3, ground := Ground.phase }, { on := 4, ground := Ground.phase }, { on := 5, ground := Ground.phase }, { on := 6, ground := Ground.phase }, { on := 7, ground := Ground.phase }, { on := 8, ground := Ground.phase }, { on := 9, ground := Ground.phase }, { on := 10, ground := Ground.phase }, { on := 11, ground := Ground.phase }, { on := 12, ground := Ground.textOnly Departure.lateStores }, { on := 13, ground := Ground.textOnly Departure.lateStoresUnsure }, { on := 14, ground := Ground.textOnly Departure.lateStoresUnsure }, { on := 15, ground := Ground.phase }, { on := 16, ground := Ground.textOnly Departure.lateStores }, { on := 17, ground := Ground.textOnly Departure.lateStores }, { on := 18, ground := Ground.textOnly Departure.lateStores }, { on := 19, ground := Ground.textOnly Departure.lateStores }, { on := 20, ground := Ground.textOnly Departure.lateStores }, { on := 21, ground := Ground.textOnly Departure.lateStoresUnsure }], guard := none }) (v := ?_) rfl (by kernel_rfl) (by kernel_rfl) (by kernel_rfl) (fun _ _ _ h => h) (Or.inl ⟨by rfl, ?_⟩) (by assumption) ?_
            rotate_left
            · ((intro w hSw; (try dsimp only at hSw); go_simp) <;> with_reducible rfl)
            try simp only [Act.put, List.setIfInBounds_toArray, List.set_cons_zero, List.set_cons_succ]
            refine wpAnyH_ready (rs := [24]) (by kernel_rfl) (by simp) ?_
            refine AllReadyH.cons (o := { dst := none, op := Op.store 3 (Operand.tmp 111) (Operand.tmp 99), type := 0, pos := "outright.go:216", after := #[{ on := 23, ground := Ground.data }, { on := 11, ground := Ground.data }, { on := 0, ground := Ground.phase }, { on := 1, ground := Ground.textOnly Departure.lateStores }, { on := 2, ground := Ground.phase }, { on := 3, ground := Ground.phase }, { on := 4, ground := Ground.phase }, { on := 5, ground := Ground.phase }, { on := 6, ground := Ground.phase }, { on := 7, ground := Ground.phase }, { on := 8, ground := Ground.phase }, { on := 9, ground := Ground.phase }, { on := 10, ground := Ground.phase }, { on := 11, ground := Ground.phase }, { on := 12, ground := Ground.textOnly Departure.lateStores }, { on := 13, ground := Ground.textOnly Departure.lateStoresUnsure }, { on := 14, ground := Ground.textOnly Departure.lateStoresUnsure }, { on := 15, ground := Ground.phase }, { on := 16, ground := Ground.textOnly Departure.lateStores }, { on := 17, ground := Ground.textOnly Departure.lateStores }, { on := 18, ground := Ground.textOnly Departure.lateStores }, { on := 19, ground := Ground.textOnly Departure.lateStores }, { on := 20, ground := Ground.textOnly Departure.lateStores }, { on := 21, ground := Ground.textOnly Departure.lateStoresUnsure }], guard := none }) rfl (fun K hK => ?_) AllReadyH.nil
            go_simp
            refine hK.out _ _ ?_ (fun hHeld => ?_)
            · (try dsimp only); (refine ⟨?_, ?_⟩ <;> first | assumption | (go_simp; assumption) | go_keep)
            clear hK K
            try simp only [Act.put, List.setIfInBounds_toArray, List.set_cons_zero, List.set_cons_succ]
            refine wpAnyH_take (i := 25) (oi := { dst := some 112, op := Op.nilCheck (Operand.tmp 89), type := 0, pos := "outright.go:216", after := #[{ on := 1, ground := Ground.data }, { on := 0, ground := Ground.phase }, { on := 1, ground := Ground.phase }, { on := 2, ground := Ground.phase }, { on := 3, ground := Ground.phase }, { on := 4, ground := Ground.phase }, { on := 5, ground := Ground.phase }, { on := 6, ground := Ground.phase }, { on := 7, ground := Ground.phase }, { on := 8, ground := Ground.phase }, { on := 9, ground := Ground.phase }, { on := 10, ground := Ground.phase }, { on := 11, ground := Ground.phase }, { on := 12, ground := Ground.phase }, { on := 13, ground := Ground.phase }, { on := 14, ground := Ground.phase }, { on := 15, ground := Ground.phase }, { on := 16, ground := Ground.phase }, { on := 17, ground := Ground.phase }, { on := 18, ground := Ground.phase }, { on := 19, ground := Ground.phase }, { on := 20, ground := Ground.phase }, { on := 21, ground := Ground.phase }, { on := 22, ground := Ground.phase }, { on := 23, ground := Ground.phase }, { on := 24, ground := Ground.phase }], guard := none }) (v := ?_) rfl (by kernel_rfl) (by kernel_rfl) (by kernel_rfl) (fun _ _ _ h => h) (Or.inl ⟨by rfl, ?_⟩) (by assumption) ?_
            rotate_left
            · ((intro w hSw; (try dsimp only at hSw); go_simp) <;> with_reducible rfl)
            try simp only [Act.put, List.setIfInBounds_toArray, List.set_cons_zero, List.set_cons_succ]
            refine wpAnyH_take (i := 26) (oi := { dst := some 113, op := Op.fieldAddr 34 (Operand.tmp 112) 1, type := 0, pos := "outright.go:216", after := #[{ on := 25, ground := Ground.data }, { on := 0, ground := Ground.phase }, { on := 1, ground := Ground.phase }, { on := 2, ground := Ground.phase }, { on := 3, ground := Ground.phase }, { on := 4, ground := Ground.phase }, { on := 5, ground := Ground.phase }, { on := 6, ground := Ground.phase }, { on := 7, ground := Ground.phase }, { on := 8, ground := Ground.phase }, { on := 9, ground := Ground.phase }, { on := 10, ground := Ground.phase }, { on := 11, ground := Ground.phase }, { on := 12, ground := Ground.phase }, { on := 13, ground := Ground.phase }, { on := 14, ground := Ground.phase }, { on := 15, ground := Ground.phase }, { on := 16, ground := Ground.phase }, { on := 17, ground := Ground.phase }, { on := 18, ground := Ground.phase }, { on := 19, ground := Ground.phase }, { on := 20, ground := Ground.phase }, { on := 21, ground := Ground.phase }, { on := 22, ground := Ground.phase }, { on := 23, ground := Ground.phase }, { on := 24, ground := Ground.phase }], guard := none }) (v := ?_) rfl (by kernel_rfl) (by kernel_rfl) (by kernel_rfl) (fun _ _ _ h => h) (Or.inl ⟨by rfl, ?_⟩) (by assumption) ?_
            rotate_left
            · ((intro w hSw; (try dsimp only at hSw); go_simp) <;> with_reducible rfl)
            try simp only [Act.put, List.setIfInBounds_toArray, List.set_cons_zero, List.set_cons_succ]
            refine wpAnyH_ready (rs := [27]) (by kernel_rfl) (by simp) ?_
            refine AllReadyH.cons (o := { dst := none, op := Op.store 3 (Operand.tmp 113) (Operand.tmp 109), type := 0, pos := "outright.go:216", after := #[{ on := 26, ground := Ground.data }, { on := 21, ground := Ground.data }, { on := 24, ground := Ground.chain }, { on := 0, ground := Ground.phase }, { on := 1, ground := Ground.phase }, { on := 2, ground := Ground.phase }, { on := 3, ground := Ground.phase }, { on := 4, ground := Ground.phase }, { on := 5, ground := Ground.phase }, { on := 6, ground := Ground.phase }, { on := 7, ground := Ground.phase }, { on := 8, ground := Ground.phase }, { on := 9, ground := Ground.phase }, { on := 10, ground := Ground.phase }, { on := 11, ground := Ground.phase }, { on := 12, ground := Ground.phase }, { on := 13, ground := Ground.phase }, { on := 14, ground := Ground.phase }, { on := 15, ground := Ground.phase }, { on := 16, ground := Ground.phase }, { on := 17, ground := Ground.phase }, { on := 18, ground := Ground.phase }, { on := 19, ground := Ground.phase }, { on := 20, ground := Ground.phase }, { on := 21, ground := Ground.phase }, { on := 22, ground := Ground.phase }, { on := 23, ground := Ground.phase }, { on := 24, ground := Ground.phase }], guard := none }) rfl (fun K hK => ?_) AllReadyH.nil
            go_simp
            refine hK.out _ _ ?_ (fun hHeld => ?_)
            · (try dsimp only); (refine ⟨?_, ?_⟩ <;> first | assumption | (go_simp; assumption) | go_keep)
            clear hK K
            try simp only [Act.put, List.setIfInBounds_toArray, List.set_cons_zero, List.set_cons_succ]
            refine wpAnyH_done (by kernel_rfl) ?_ _
            refine NoPanic.normal ?_
            go_wp2
            go_roundw
            case rel => exact ⟨q + 1, _, _, rfl, rfl, by omega, by go_num, (fun h => absurd h (by omega)), by rw [HLN.out.2, HLN.out.1, HWX.out]; exact HNX.out 1⟩
            case measure => simp [intOf]; omega
          refine AllReadyH.cons (o := { dst := some 103, op := Op.load 3 (Operand.tmp 102), type := 3, pos := "outright.go:216", after := #[{ on := 14, ground := Ground.data }], guard := none }) rfl (fun K hK => ?_) ?_
          ·
            go_simp
            refine hK.out _ _ ?_ (fun hHeld => ?_)
            · (try dsimp only); (refine ⟨?_, ?_⟩ <;> first | assumption | (go_simp; assumption) | go_keep)
            clear hK K
            try simp only [Act.put, List.setIfInBounds_toArray, List.set_cons_zero, List.set_cons_succ]
            refine wpAnyH_take (i := 21) (oi := { dst := some 109, op := Op.call { callee := Callee.builtin Builtin.min, args := #[Operand.tmp 103, Operand.tmp 108], argTypes := #[3, 3] }, type := 3, pos := "outright.go:216", after := #[{ on := 15, ground := Ground.data }, { on := 20, ground := Ground.data }], guard := none }) (v := ?_) rfl (by kernel_rfl) (by kernel_rfl) (by kernel_rfl) (fun _ _ _ h => h) (Or.inl ⟨by rfl, ?_⟩) (by assumption) ?_
            rotate_left
            · ((intro w hSw; (try dsimp only at hSw); go_simp) <;> with_reducible rfl)
            try simp only [Act.put, List.setIfInBounds_toArray, List.set_cons_zero, List.set_cons_succ]
            refine wpAnyH_ready (rs := [5]) (by kernel_rfl) (by simp) ?_
            refine AllReadyH.cons (o := { dst := some 93, op := Op.load 3 (Operand.tmp 92), type := 3, pos := "outright.go:216", after := #[{ on := 4, ground := Ground.data }], guard := none }) rfl (fun K hK => ?_) AllReadyH.nil
            go_simp
            refine hK.out _ _ ?_ (fun hHeld => ?_)
            · (try dsimp only); (refine ⟨?_, ?_⟩ <;> first | assumption | (go_simp; assumption) | go_keep)
            clear hK K
            try simp only [Act.put, List.setIfInBounds_toArray, List.set_cons_zero, List.set_cons_succ]
            refine wpAnyH_take (i := 11) (oi := { dst := some 99, op := Op.call { callee := Callee.builtin Builtin.max, args := #[Operand.tmp 93, Operand.tmp 98], argTypes := #[3, 3] }, type := 3, pos := "outright.go:216", after := #[{ on := 5, ground := Ground.data }, { on := 10, ground := Ground.data }], guard := none }) (v := ?_) rfl (by kernel_rfl) (by kernel_rfl) (by kernel_rfl) (fun _ _ _ h => h) (Or.inl ⟨by rfl, ?_⟩) (by assumption) ?_
            rotate_left
            · ((intro w hSw; (try dsimp only at hSw); go_simp) <;> with_reducible rfl)
            try simp only [Act.put, List.setIfInBounds_toArray, List.set_cons_zero, List.set_cons_succ]
            refine wpAnyH_take (i := 22) (oi := { dst := some 110, op := Op.nilCheck (Operand.tmp 88), type := 0, pos := "outright.go:216", after := #[{ on := 0, ground := Ground.data }, { on := 0, ground := Ground.phase }, { on := 1, ground := Ground.textOnly Departure.lateStores }, { on := 2, ground := Ground.phase }, { on := 3, ground := Ground.phase }, { on := 4, ground := Ground.phase }, { on := 5, ground := Ground.phase }, { on := 6, ground := Ground.phase }, { on := 7, ground := Ground.phase }, { on := 8, ground := Ground.phase }, { on := 9, ground := Ground.phase }, { on := 10, ground := Ground.phase }, { on := 11, ground := Ground.phase }, { on := 12, ground := Ground.textOnly Departure.lateStores }, { on := 13, ground := Ground.textOnly Departure.lateStoresUnsure }, { on := 14, ground := Ground.textOnly Departure.lateStoresUnsure }, { on := 15, ground := Ground.phase }, { on := 16, ground := Ground.textOnly Departure.lateStores }, { on := 17, ground := Ground.textOnly Departure.lateStores }, { on := 18, ground := Ground.textOnly Departure.lateStores }, { on := 19, ground := Ground.textOnly Departure.lateStores }, { on := 20, ground := Ground.textOnly Departure.lateStores }, { on := 21, ground := Ground.textOnly Departure.lateStoresUnsure }], guard := none }) (v := ?_) rfl (by kernel_rfl) (by kernel_rfl) (by kernel_rfl) (fun _ _ _ h => h) (Or.inl ⟨by rfl, ?_⟩) (by assumption) ?_
            rotate_left
            · ((intro w hSw; (try dsimp only at hSw); go_simp) <;> with_reducible rfl)
            try simp only [Act.put, List.setIfInBounds_toArray, List.set_cons_zero, List.set_cons_succ]
            refine wpAnyH_take (i := 23) (oi := { dst := some 111, op := Op.fieldAddr 34 (Operand.tmp 110) 0, type := 0, pos := "outright.go:216", after := #[{ on := 22, ground := Ground.data }, { on := 0, ground := Ground.phase }, { on := 1, ground := Ground.textOnly Departure.lateStores }, { on := 2, ground := Ground.phase }, { on := 3, ground := Ground.phase }, { on := 4, ground := Ground.phase }, { on := 5, ground := Ground.phase }, { on := 6, ground := Ground.phase }, { on := 7, ground := Ground.phase }, { on := 8, ground := Ground.phase }, { on := 9, ground := Ground.phase }, { on := 10, ground := Ground.phase }, { on := 11, ground := Ground.phase }, { on := 12, ground := Ground.textOnly Departure.lateStores }, { on := 13, ground := Ground.textOnly Departure.lateStoresUnsure }, { on := 14, ground := Ground.textOnly Departure.lateStoresUnsure }, { on := 15, ground := Ground.phase }, { on := 16, ground := Ground.textOnly Departure.lateStores }, { on := 17, ground := Ground.textOnly Departure.lateStores }, { on := 18, ground := Ground.textOnly Departure.lateStores }, { on := 19, ground := Ground.textOnly Departure.lateStores }, { on := 20, ground := Ground.textOnly Departure.lateStores }, { on := 21, ground := Ground.textOnly Departure.lateStoresUnsure }], guard := none }) (v := ?_) rfl (by kernel_rfl) (by kernel_rfl) (by kernel_rfl) (fun _ _ _ h => h) (Or.inl ⟨by rfl, ?_⟩) (by assumption) ?_
            rotate_left
            · ((intro w hSw; (try dsimp only at hSw); go_simp) <;> with_reducible rfl)
            try simp only [Act.put, List.setIfInBounds_toArray, List.set_cons_zero, List.set_cons_succ]
            refine wpAnyH_ready (rs := [24]) (by kernel_rfl) (by simp) ?_
            refine AllReadyH.cons (o := { dst := none, op := Op.store 3 (Operand.tmp 111) (Operand.tmp 99), type := 0, pos := "outright.go:216", after := #[{ on := 23, ground := Ground.data }, { on := 11, ground := Ground.data }, { on := 0, ground := Ground.phase }, { on := 1, ground := Ground.textOnly Departure.lateStores }, { on := 2, ground := Ground.phase }, { on := 3, ground := Ground.phase }, { on := 4, ground := Ground.phase }, { on := 5, ground := Ground.phase }, { on := 6, ground := Ground.phase }, { on := 7, ground := Ground.phase }, { on := 8, ground := Ground.phase }, { on := 9, ground := Ground.phase }, { on := 10, ground := Ground.phase }, { on := 11, ground := Ground.phase }, { on := 12, ground := Ground.textOnly Departure.lateStores }, { on := 13, ground := Ground.textOnly Departure.lateStoresUnsure }, { on := 14, ground := Ground.textOnly Departure.lateStoresUnsure }, { on := 15, ground := Ground.phase }, { on := 16, ground := Ground.textOnly Departure.lateStores }, { on := 17, ground := Ground.textOnly Departure.lateStores }, { on := 18, ground := Ground.textOnly Departure.lateStores }, { on := 19, ground := Ground.textOnly Departure.lateStores }, { on := 20, ground := Ground.textOnly Departure.lateStores }, { on := 21, ground := Ground.textOnly Departure.lateStoresUnsure }], guard := none }) rfl (fun K hK => ?_) AllReadyH.nil
            go_simp
            refine hK.out _ _ ?_ (fun hHeld => ?_)
            · (try dsimp only); (refine ⟨?_, ?_⟩ <;> first | assumption | (go_simp; assumption) | go_keep)
            clear hK K
            try simp only [Act.put, List.setIfInBounds_toArray, List.set_cons_zero, List.set_cons_succ]
            refine wpAnyH_take (i := 25) (oi := { dst := some 112, op := Op.nilCheck (Operand.tmp 89), type := 0, pos := "outright.go:216", after := #[{ on := 1, ground := Ground.data }, { on := 0, ground := Ground.phase }, { on := 1, ground := Ground.phase }, { on := 2, ground := Ground.phase }, { on := 3, ground := Ground.phase }, { on := 4, ground := Ground.phase }, { on := 5, ground := Ground.phase }, { on := 6, ground := Ground.phase }, { on := 7, ground := Ground.phase }, { on := 8, ground := Ground.phase }, { on := 9, ground := Ground.phase }, { on := 10, ground := Ground.phase }, { on := 11, ground := Ground.phase }, { on := 12, ground := Ground.phase }, { on := 13, ground := Ground.phase }, { on := 14, ground := Ground.phase }, { on := 15, ground := Ground.phase }, { on := 16, ground := Ground.phase }, { on := 17, ground := Ground.phase }, { on := 18, ground := Ground.phase }, { on := 19, ground := Ground.phase }, { on := 20, ground := Ground.phase }, { on := 21, ground := Ground.phase }, { on := 22, ground := Ground.phase }, { on := 23, ground := Ground.phase }, { on := 24, ground := Ground.phase }], guard := none }) (v := ?_) rfl (by kernel_rfl) (by kernel_rfl) (by kernel_rfl) (fun _ _ _ h => h) (Or.inl ⟨by rfl, ?_⟩) (by assumption) ?_
            rotate_left
            · ((intro w hSw; (try dsimp only at hSw); go_simp) <;> with_reducible rfl)
            try simp only [Act.put, List.setIfInBounds_toArray, List.set_cons_zero, List.set_cons_succ]
            refine wpAnyH_take (i := 26) (oi := { dst := some 113, op := Op.fieldAddr 34 (Operand.tmp 112) 1, type := 0, pos := "outright.go:216", after := #[{ on := 25, ground := Ground.data }, { on := 0, ground := Ground.phase }, { on := 1, ground := Ground.phase }, { on := 2, ground := Ground.phase }, { on := 3, ground := Ground.phase }, { on := 4, ground := Ground.phase }, { on := 5, ground := Ground.phase }, { on := 6, ground := Ground.phase }, { on := 7, ground := Ground.phase }, { on := 8, ground := Ground.phase }, { on := 9, ground := Ground.phase }, { on := 10, ground := Ground.phase }, { on := 11, ground := Ground.phase }, { on := 12, ground := Ground.phase }, { on := 13, ground := Ground.phase }, { on := 14, ground := Ground.phase }, { on := 15, ground := Ground.phase }, { on := 16, ground := Ground.phase }, { on := 17, ground := Ground.phase }, { on := 18, ground := Ground.phase }, { on := 19, ground := Ground.phase }, { on := 20, ground := Ground.phase }, { on := 21, ground := Ground.phase }, { on := 22, ground := Ground.phase }, { on := 23, ground := Ground.phase }, { on := 24, ground := Ground.phase }], guard := none }) (v := ?_) rfl (by kernel_rfl) (by kernel_rfl) (by kernel_rfl) (fun _ _ _ h => h) (Or.inl ⟨by rfl, ?_⟩) (by assumption) ?_
            rotate_left
            · ((intro w hSw; (try dsimp only at hSw); go_simp) <;> with_reducible rfl)
            try simp only [Act.put, List.setIfInBounds_toArray, List.set_cons_zero, List.set_cons_succ]
            refine wpAnyH_ready (rs := [27]) (by kernel_rfl) (by simp) ?_
            refine AllReadyH.cons (o := { dst := none, op := Op.store 3 (Operand.tmp 113) (Operand.tmp 109), type := 0, pos := "outright.go:216", after := #[{ on := 26, ground := Ground.data }, { on := 21, ground := Ground.data }, { on := 24, ground := Ground.chain }, { on := 0, ground := Ground.phase }, { on := 1, ground := Ground.phase }, { on := 2, ground := Ground.phase }, { on := 3, ground := Ground.phase }, { on := 4, ground := Ground.phase }, { on := 5, ground := Ground.phase }, { on := 6, ground := Ground.phase }, { on := 7, ground := Ground.phase }, { on := 8, ground := Ground.phase }, { on := 9, ground := Ground.phase }, { on := 10, ground := Ground.phase }, { on := 11, ground := Ground.phase }, { on := 12, ground := Ground.phase }, { on := 13, ground := Ground.phase }, { on := 14, ground := Ground.phase }, { on := 15, ground := Ground.phase }, { on := 16, ground := Ground.phase }, { on := 17, ground := Ground.phase }, { on := 18, ground := Ground.phase }, { on := 19, ground := Ground.phase }, { on := 20, ground := Ground.phase }, { on := 21, ground := Ground.phase }, { on := 22, ground := Ground.phase }, { on := 23, ground := Ground.phase }, { on := 24, ground := Ground.phase }], guard := none }) rfl (fun K hK => ?_) AllReadyH.nil
            go_simp
            refine hK.out _ _ ?_ (fun hHeld => ?_)
            · (try dsimp only); (refine ⟨?_, ?_⟩ <;> first | assumption | (go_simp; assumption) | go_keep)
            clear hK K
            try simp only [Act.put, List.setIfInBounds_toArray, List.set_cons_zero, List.set_cons_succ]
            refine wpAnyH_done (by kernel_rfl) ?_ _
            refine NoPanic.normal ?_
            go_wp2
            go_roundw
            case rel => exact ⟨q + 1, _, _, rfl, rfl, by omega, by go_num, (fun h => absurd h (by omega)), by rw [HLN.out.2, HLN.out.1, HWX.out]; exact HNX.out 1⟩
            case measure => simp [intOf]; omega
          exact AllReadyH.nil
    · have hqe : q = cs.length := by omega
      subst hqe
      have HLW := Lib.hid (sndL_law hpos HXR.out.2.2.2.1 HXR.out.2.2.2.2 cs.length (cs := cs))
      have HLl := Lib.hid (sndL_len (n := g.ss.length) (cs := cs) (hs := hs) (es := es) cs.length)
      generalize sndL g.ss.length cs hs es cs.length = L at *
      have HMR := Lib.hid (measR_rev HM1.out (l := L) (by rw [HLl.out]; exact h12) HLW.out)
      have HSa : Hid (SndsAt wr wr.heap.size va L) := Reads.of_own Hst.out.a
      have HSb : Hid (SndsAt wr wr.heap.size vb L.reverse) := Reads.of_own Hst.out.b
      have HWL := Lib.hid (wantL_len L g.ss)
      have HB5x := Lib.hid Hst.out.bel
      generalize wantL g.ss L = ws at *
      have HSw : Hid (SpansAt wr wr.heap.size (.slice (some ⟨gw, 0, none⟩) g.ss.length cw) ws) := by
        have h := Reads.of_own Hst.out.want
        rw [HWL.out] at h
        have e := HWL.out
        show Reads wr wr.heap.size 2 _ ws.length _
        rw [e]
        exact h
      obtain ⟨Aa, ca, rfl, _, _⟩ := HSa.out.open_
      clear Hst HNil hler hlt
      have HKw := Lib.hid HKr.out
      clear HKr
      obtain ⟨w6, rfl⟩ : ∃ w6, w6 = wr := ⟨_, rfl⟩
      go_wp2_with fail
      go_loopw [17, 117] (fun b i wq => ∃ k : Nat, k ≤ g.ss.length ∧ i = .int .i64 k ∧ b = .bool ((ws.take k).any emptyB) ∧ Hid (Below w6.heap.size w6 wq)) (fun _ i _ => g.ss.length - (intOf i).toNat)
      case atStart => exact ⟨0, Nat.zero_le _, rfl, rfl, Below.refl _ _⟩
      case round =>
        obtain ⟨k, hk, rfl, rfl, HBq⟩ := hrel
        by_cases hlt : k < g.ss.length
        · have hk0 : (0 : Int) ≤ (k : Int) := by omega
          have hk1 : (k : Int) < (g.ss.length : Int) := by omega
          have hkw : k < ws.length := by rw [HWL.out]; exact hlt
          obtain ⟨bw, ow, ew, hbw, m1, m2⟩ := (HSw.out.below HBq.out).at_ hkw
          injection ew with ew
          injection ew with ew1 ew2
          subst ew1 ew2
          rw [Nat.zero_add] at m1 m2
          have HT := Lib.hid (any_take_snoc emptyB ws k hkw)
          have hem : emptyB ws[k] = decide (ws[k].2 < ws[k].1) := rfl
          rw [hem] at HT
          clear hem
          generalize ws[k] = lh at *
          obtain ⟨lo, hi⟩ := lh
          simp only at m1 m2 HT
          cases hb : (ws.take k).any emptyB with
          | true =>
            have HT' : Hid ((ws.take (k + 1)).any emptyB = true) := by rw [Hid, HT.out, hb]; rfl
            clear hb HT
            go_wp2
            go_roundw
            case rel => exact ⟨k + 1, by omega, by go_num, by rw [HT'.out], HBq.out.alloc HBq.out.size _⟩
            case measure => simp [intOf]; omega
          | false =>
            have HT' : Hid ((ws.take (k + 1)).any emptyB = decide (hi < lo)) := by rw [Hid, HT.out, hb]; rfl
            clear hb HT
            by_cases hh : hi < lo
            all_goals
              go_wp2
              go_roundw
              case rel => exact ⟨k + 1, by omega, by go_num, by rw [HT'.out]; simp [hh], HBq.out.alloc HBq.out.size _⟩
              case measure => simp [intOf]; omega
        · have hke : k = g.ss.length := by omega
          have HWK : Hid (Below w6.heap.size w6 wr) := HBq.out
          have hta : ws.take k = ws := List.take_of_length_le (by rw [HWL.out]; omega)
          rw [hta]
          clear hke hta hk HBq
          have HBwr := Lib.hid (HBw.out.trans (HWK.out.mono HBw.out.size))
          have HKg := Lib.hid (HKw.out.below HWK.out HKw.out.lt)
          have HGg := Lib.hid (HGV2.out.later (HB5x.out.trans (HWK.out.mono HB5x.out.size)) (Nat.le_refl _))
          have HLa := Lib.hid (HSa.out.later HWK.out (Nat.le_refl _))
          have HLb := Lib.hid (HSb.out.later HWK.out (Nat.le_refl _))
          have HLw := Lib.hid (HSw.out.later HWK.out (Nat.le_refl _))
          obtain ⟨p0, p1, p2, p3⟩ := grid_parts HKg.out
          go_wp2_with fail
          refine (Measure_any _ _ g L _ HGg.out HLa.out).mono ?_
          rintro e w7 ⟨x7, rfl, hg7, hb7⟩
          have HB7 := Lib.hid (HBwr.out.trans (hb7.mono HBwr.out.size))
          have HKg7 := Lib.hid (HKg.out.below hb7 HKg.out.lt)
          have HGg7 := Lib.hid (HGg.out.later hb7 (Nat.le_refl _))
          have HLb7 := Lib.hid (HLb.out.later hb7 (Nat.le_refl _))
          have HLw7 := Lib.hid (HLw.out.later hb7 (Nat.le_refl _))
          have HG7 := Lib.hid hg7
          clear hb7 p0 p1 p2 p3 HKg HGg HLa HLb HLw
          rcases HMR.out with ⟨i1, i2, hr1, hil, hr2, hem⟩ | ⟨hr1, hr2, hem⟩
          all_goals
            rw [hr1] at HG7 hg7
            rw [hr1]
            have HR2 := Lib.hid hr2
            obtain ⟨v7, rfl, hs7⟩ := hg7
            obtain ⟨B7, c7, rfl, _, _⟩ := hs7.open_
            clear hs7 hr1 hr2
            go_upto_region 21 with (fail)
          · obtain ⟨V7, hV7⟩ : ∃ V, w7.alloc (.cells #[.int .i64 zeroG.W, .int .i64 zeroG.H, .int .i64 zeroG.S, .slice B7 zeroG.ss.length c7] 24) = V := ⟨_, rfl⟩
            have HVB7 : Hid (Below w7.heap.size w7 V7) := by rw [← hV7]; exact (by repeat (first | exact Below.refl _ _ | assumption | refine Below.drew ?_ | refine Below.drewN' ?_ _ | (refine Below.alloc ?_ (by simp <;> omega) _) | (refine Below.setCell ?_ (by simp <;> omega) _)))
            have HVK7 : Hid (Blk V7 w7.heap.size 24 #[.int .i64 zeroG.W, .int .i64 zeroG.H, .int .i64 zeroG.S, .slice B7 zeroG.ss.length c7]) := by rw [← hV7]; exact Blk.new' _ _ _ rfl
            rw [hV7]
            clear hV7
            have HBV7 := Lib.hid (HB7.out.trans (HVB7.out.mono HB7.out.size))
            obtain ⟨p0, p1, p2, p3⟩ := grid_parts (HKg7.out.below HVB7.out HKg7.out.lt)
            go_wp2_with fail
            refine (Measure_any _ _ g L.reverse _ (HGg7.out.later HVB7.out (Nat.le_refl _)) (HLb7.out.later HVB7.out (Nat.le_refl _))).mono ?_
            rintro e w8 ⟨x8, rfl, hg8, hb8⟩
            rw [HR2.out] at hg8
            rw [HR2.out]
            have HB8 := Lib.hid (HBV7.out.trans (hb8.mono HBV7.out.size))
            have HK8 := Lib.hid (HVK7.out.below hb8 HVK7.out.lt)
            have HG78 := Lib.hid ((HG7.out.later HVB7.out (Nat.le_refl _)).later hb8 (Nat.le_refl _))
            have HG8 := Lib.hid hg8
            obtain ⟨v8, rfl, hs8⟩ := hg8
            obtain ⟨B8, c8, rfl, _, _⟩ := hs8.open_
            clear hb8 hs8 p0 p1 p2 p3
            go_upto_region 22 with (fail)
            obtain ⟨V8, hV8⟩ : ∃ V, w8.alloc (.cells #[.int .i64 zeroG.W, .int .i64 zeroG.H, .int .i64 zeroG.S, .slice B8 zeroG.ss.length c8] 24) = V := ⟨_, rfl⟩
            have HVB8 : Hid (Below w8.heap.size w8 V8) := by rw [← hV8]; exact (by repeat (first | exact Below.refl _ _ | assumption | refine Below.drew ?_ | refine Below.drewN' ?_ _ | (refine Below.alloc ?_ (by simp <;> omega) _) | (refine Below.setCell ?_ (by simp <;> omega) _)))
            have HVK8 : Hid (Blk V8 w8.heap.size 24 #[.int .i64 zeroG.W, .int .i64 zeroG.H, .int .i64 zeroG.S, .slice B8 zeroG.ss.length c8]) := by rw [← hV8]; exact Blk.new' _ _ _ rfl
            rw [hV8]
            clear hV8
            have HBV8 := Lib.hid (HB8.out.trans (HVB8.out.mono HB8.out.size))
            obtain ⟨p0, p1, p2, p3⟩ := grid_parts (HK8.out.below HVB8.out HK8.out.lt)
            obtain ⟨q0, q1, q2, q3⟩ := grid_parts HVK8.out
            go_wp2_with fail
            refine (grids_yes _ _ _ _ rfl _ (HG78.out.later HVB8.out (Nat.le_refl _)) (HG8.out.later HVB8.out (Nat.le_refl _))).mono ?_
            rintro e w9 ⟨rfl, hb9⟩
            have HB9 := Lib.hid (HBV8.out.trans (hb9.mono HBV8.out.size))
            clear hb9 p0 p1 p2 p3 q0 q1 q2 q3
            have hi0 : (0 : Int) ≤ (i1 : Int) := by omega
            have hi1 : (i1 : Int) < (L.length : Int) := by omega
            go_wp2_with fail
            refine (works_any _ (HLV.out.below HB9.out)).mono ?_
            rintro e w10 ⟨rfl, hb10⟩
            have HB10 := Lib.hid (HB9.out.trans (hb10.mono HB9.out.size))
            clear hb10
            go_wp2
            go_ret
            exact ⟨rfl, HB10.out⟩
          · obtain ⟨V7, hV7⟩ : ∃ V, w7.alloc (.cells #[.int .i64 g.W, .int .i64 g.H, .int .i64 g.S, .slice B7 ws.length c7] 24) = V := ⟨_, rfl⟩
            have HVB7 : Hid (Below w7.heap.size w7 V7) := by rw [← hV7]; exact (by repeat (first | exact Below.refl _ _ | assumption | refine Below.drew ?_ | refine Below.drewN' ?_ _ | (refine Below.alloc ?_ (by simp <;> omega) _) | (refine Below.setCell ?_ (by simp <;> omega) _)))
            have HVK7 : Hid (Blk V7 w7.heap.size 24 #[.int .i64 g.W, .int .i64 g.H, .int .i64 g.S, .slice B7 ws.length c7]) := by rw [← hV7]; exact Blk.new' _ _ _ rfl
            rw [hV7]
            clear hV7
            have HBV7 := Lib.hid (HB7.out.trans (HVB7.out.mono HB7.out.size))
            obtain ⟨p0, p1, p2, p3⟩ := grid_parts (HKg7.out.below HVB7.out HKg7.out.lt)
            go_wp2_with fail
            refine (Measure_any _ _ g L.reverse _ (HGg7.out.later HVB7.out (Nat.le_refl _)) (HLb7.out.later HVB7.out (Nat.le_refl _))).mono ?_
            rintro e w8 ⟨x8, rfl, hg8, hb8⟩
            rw [HR2.out] at hg8
            rw [HR2.out]
            have HB8 := Lib.hid (HBV7.out.trans (hb8.mono HBV7.out.size))
            have HK8 := Lib.hid (HVK7.out.below hb8 HVK7.out.lt)
            have HG78 := Lib.hid ((HG7.out.later HVB7.out (Nat.le_refl _)).later hb8 (Nat.le_refl _))
            have HLw8 := Lib.hid ((HLw7.out.later HVB7.out (Nat.le_refl _)).later hb8 (Nat.le_refl _))
            have HG8 := Lib.hid hg8
            obtain ⟨v8, rfl, hs8⟩ := hg8
            obtain ⟨B8, c8, rfl, _, _⟩ := hs8.open_
            clear hb8 hs8 p0 p1 p2 p3
            go_upto_region 22 with (fail)
            obtain ⟨V8, hV8⟩ : ∃ V, w8.alloc (.cells #[.int .i64 g.W, .int .i64 g.H, .int .i64 g.S, .slice B8 ws.length c8] 24) = V := ⟨_, rfl⟩
            have HVB8 : Hid (Below w8.heap.size w8 V8) := by rw [← hV8]; exact (by repeat (first | exact Below.refl _ _ | assumption | refine Below.drew ?_ | refine Below.drewN' ?_ _ | (refine Below.alloc ?_ (by simp <;> omega) _) | (refine Below.setCell ?_ (by simp <;> omega) _)))
            have HVK8 : Hid (Blk V8 w8.heap.size 24 #[.int .i64 g.W, .int .i64 g.H, .int .i64 g.S, .slice B8 ws.length c8]) := by rw [← hV8]; exact Blk.new' _ _ _ rfl
            rw [hV8]
            clear hV8
            have HBV8 := Lib.hid (HB8.out.trans (HVB8.out.mono HB8.out.size))
            have HKV8 := Lib.hid (HK8.out.below HVB8.out HK8.out.lt)
            have HGV8 := Lib.hid (HG78.out.later HVB8.out (Nat.le_refl _))
            have HLw9 := Lib.hid (HLw8.out.later HVB8.out (Nat.le_refl _))
            obtain ⟨p0, p1, p2, p3⟩ := grid_parts HKV8.out
            obtain ⟨q0, q1, q2, q3⟩ := grid_parts HVK8.out
            go_wp2_with fail
            refine (grids_yes _ _ _ _ rfl _ HGV8.out (HG8.out.later HVB8.out (Nat.le_refl _))).mono ?_
            rintro e w9 ⟨rfl, hb9⟩
            have HB9 := Lib.hid (HBV8.out.trans (hb9.mono HBV8.out.size))
            have HK9 := Lib.hid (HKV8.out.below hb9 HKV8.out.lt)
            have HS9 := Lib.hid (grid_spans (HGV8.out.later hb9 (Nat.le_refl _)))
            have HLw9' := Lib.hid (HLw9.out.later hb9 (Nat.le_refl _))
            clear hb9 p0 p1 p2 p3 q0 q1 q2 q3
            obtain ⟨p0, p1, p2, p3⟩ := grid_parts HK9.out
            go_wp2_with fail
            refine (spans_yes _ _ _ _ rfl _ HS9.out HLw9'.out).mono ?_
            rintro e w10 ⟨rfl, hb10⟩
            have HB10 := Lib.hid (HB9.out.trans (hb10.mono HB9.out.size))
            clear hb10 p0 p1 p2 p3
            go_wp2_with fail
            refine (works_any _ (HLV.out.below HB10.out)).mono ?_
            rintro e w11 ⟨rfl, hb11⟩
            have HB11 := Lib.hid (HB10.out.trans (hb11.mono HB10.out.size))
            clear hb11
            go_wp2
            go_ret
            exact ⟨rfl, HB11.out⟩
end Go.Proofs.YthcenmocnphnmaaGreatDoor
/-
  GridOrder: for whatever land and soundings, the law returns true and its arguments read as they did (no condition).
-/
namespace Go.Proofs.YthcenmocnphnmaaGreatDoor
open Go.ChangeShapes Go.WideShapes Go.ChangeAt Go.WideMaps Go.WideElems Go.RowKit Go.Shelf

namespace GridOrder
theorem laid_out : laidOutB Tryz.prog = true := by kernel_rfl
set_option maxRecDepth 100000 in
theorem lifted (os : Os) (started : os.Started) (H : Type) (enc : TypeId × Value → H) :
    ReturnsInHanded {} Tryz.checked os 10 .any (fun w args => (Rows.gridOrderSpec.pre enc Tryz.prog Tryz.f10 [] false w args ∧ laidMetH Tryz.prog laidL w) ∧ sizedMet enc Tryz.prog Tryz.f10 (OpenSpec.ofChange Rows.gridOrderSpec) false w args)
      (Rows.gridOrderSpec.post enc Tryz.prog Tryz.f10 false true false false) := by
  refine ret_shaped (s := Rows.gridOrderSpec) (conds := []) started (by kernel_rfl) Tryz.func10 #[.agg #[.int .u8 0, .int .u8 0, .slice none 0 0, .slice none 0 0], .slice none 0 0, .slice none 0 0, .slice none 0 0] (by kernel_rfl) (by kernel_rfl) (by kernel_rfl) ?_
  intro W base args ds gs before hval0 hW hlv
  have hval : ∀ (j : Nat) t v, Tryz.f10.params[j]? = some t → args[j]? = some v → Value.okWide Tryz.prog W .any base t v := hval0
  have hW' := hW
  obtain ⟨p, q, hA0, hV, rfl, _, _⟩ := hW
  have hA : DataW.TrodAll enc Tryz.prog W 0 (fun _ => true) true Tryz.f10.params.toList args.toList ds p := hA0
  rw [Tryz.params10] at hA hval
  obtain ⟨v0, v1, v2, v3, d0, d1, d2, d3, p0, p1, p2, p3, rfl, rfl, rfl, h0, h1, h2, h3⟩ := trodAll_four hA
  obtain ⟨rfl, rfl⟩ := trodVars_none hV
  obtain ⟨a0, b0, x0, y0, low0, more0, rfl, ha0, hb0, hx0, hy0, hlr0, hmr0⟩ := land_open (hval 0 64 v0 rfl rfl) h0
  obtain ⟨l1, hl1, hr1⟩ := u8s_open (hval 1 62 v1 rfl rfl) h1
  obtain ⟨l2, hl2, hr2⟩ := i16s_open (hval 2 61 v2 rfl rfl) h2
  obtain ⟨l3, hl3, hr3⟩ := u8s_open (hval 3 62 v3 rfl rfl) h3
  clear hA0 hval0 hA
  simp only [List.append_nil] at hW'
  have hlt : ∀ x ∈ p0 ++ p1 ++ p2 ++ p3, x.block < W.heap.size := fun x hx => by simpa using hW'.lt x hx
  have k0 : ∀ x ∈ p0, x.block < W.heap.size := fun x hx => hlt x (by simp [hx])
  have k1 : ∀ x ∈ p1, x.block < W.heap.size := fun x hx => hlt x (by simp [hx])
  have k2 : ∀ x ∈ p2, x.block < W.heap.size := fun x hx => hlt x (by simp [hx])
  have k3 : ∀ x ∈ p3, x.block < W.heap.size := fun x hx => hlt x (by simp [hx])
  refine (GridOrder_any a0 b0 x0 y0 v1 v2 v3 low0 more0 l1 l2 l3 W ha0 hb0 hx0 hy0 hl1 hl2 hl3 hlr0 hmr0 hr1 hr2 hr3 hlv).mono ?_
  rintro e W' ⟨rfl, bel⟩
  refine ⟨_, rfl, _, _, _, [], (p0 ++ (p1 ++ (p2 ++ p3))), [], hW', ?_, ?_, ?_, bel.frame _, fun h => by cases h⟩
  · exact trodAll_mk1 (shut_bool Tryz.underlying4 true)
  · exact trodAll_mk4 (Below.trod laid_out (by kernel_rfl) (of_decide_eq_true (by kernel_rfl)) h0 bel k0) (Below.trod laid_out (by kernel_rfl) (of_decide_eq_true (by kernel_rfl)) h1 bel k1) (Below.trod laid_out (by kernel_rfl) (of_decide_eq_true (by kernel_rfl)) h2 bel k2) (Below.trod laid_out (by kernel_rfl) (of_decide_eq_true (by kernel_rfl)) h3 bel k3)
  · rfl
set_option maxRecDepth 100000 in
theorem bare : Rows.GridOrderSaid :=
  OpenClaim.holds_of_wide 10 Tryz.f10 rfl rfl rfl rfl rfl rfl rfl ⟨rfl, rfl, rfl, rfl, rfl⟩ rfl rfl rfl rfl rfl (by kernel_rfl) Tryz.func10 (by kernel_rfl)
    (of_decide_eq_true (by kernel_rfl)) (by unfold Func.isWrapper; first | (rw [if_pos (by decide +kernel)]; kernel_rfl) | (rw [if_neg (by decide +kernel)]; exact ⟨rfl, rfl⟩))
    (fun os started H enc _ => lifted os started H enc)
end GridOrder
set_option maxRecDepth 100000 in
theorem GridOrder_card : Rows.GridOrderCardSaid :=
  Claim7.holds_tied_plain_at .later [] [.data, .data, .data, .sentinel, .sentinel, .listed, .data] true _ true
    GridOrder.bare (fun _ h => by cases h) (by kernel_rfl) (fun _ h => by cases h) gridOrder_row_tie rfl ⟨rfl, rfl⟩ (by kernel_rfl) rfl
    (fun f fn hf hfn => by
      obtain rfl : f = 10 := Option.some.inj ((show Tryz.prog.funcNamed "tidewall/tidewalllaw01.GridOrder" = some 10 by kernel_rfl).symm.trans hf) |>.symm
      obtain rfl : fn = Tryz.f10 := (Option.some.inj (Tryz.func10.symm.trans hfn)).symm
      exact ⟨by kernel_rfl, fun j t ht => by
        rw [Tryz.params10] at ht
        have hm : t ∈ [64, 62, 61, 62] := by simpa using Array.mem_of_getElem? ht
        have hall : ([64, 62, 61, 62].all fun u => !Tryz.prog.wantsStandIn u) = true := by kernel_rfl
        exact (show Tryz.prog.wantsStandIn t = false by simpa using List.all_eq_true.1 hall t hm)⟩)
    (by kernel_rfl)
#print axioms GridOrder_card
end Go.Proofs.YthcenmocnphnmaaGreatDoor
