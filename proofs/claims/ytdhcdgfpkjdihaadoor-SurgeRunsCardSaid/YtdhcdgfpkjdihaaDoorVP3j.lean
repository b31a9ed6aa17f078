/-
  Layer 3, the program: sums over fetches.
-/
import Derived.Test.YtdhcdgfpkjdihaaDoorVP3i
set_option linter.unusedSimpArgs false
set_option linter.unusedVariables false
namespace Go.Proofs.YtdhcdgfpkjdihaaDoor.Sg
open Go.RowKit Go.Shelf
attribute [local go_sem] Oper.semAt_some
theorem bodyM_ret {F : Fence} {n : Nat} {P : Program} {fn : Func} {R : Ending → World → Prop} {a : Act} {w : World} {v : Value}
 (hr : (results fn a.tmps).run P w = .ok v w) (hd : a.defers = []) (hR : R (.returned v) w) : bodyPostM F n P fn R .ret a w := by
 show LeavesInM F n P fn a.tmps R a.defers .returning w
 rw [hd]
 exact ⟨v, hr, hR⟩
theorem bodyM_mark {F : Fence} {n : Nat} {P : Program} {fn : Func} {R : Ending → World → Prop} {a : Act} {w w' : World} {v : Value} {D : Nat} {g : Array Value}
 (hk : (Instr.takeDeferred D).run P w = .ok [] w') (hr : (results fn a.tmps).run P w' = .ok v w') (hd : a.defers = [{ target := .collected D, args := g }]) (hR : R (.returned v) w') : bodyPostM F n P fn R .ret a w := by
 show LeavesInM F n P fn a.tmps R a.defers .returning w
 rw [hd]
 exact ⟨by simp, .inl ⟨D, w', rfl, hk, v, hr, hR⟩⟩
theorem Blk.put {w : World} {b t D : Nat} {cs : Array Value} {o o' : Obj} (h : Blk w b t cs) (hD : w.heap[D]? = some o) (ho : o.isCells = false) : Blk (w.putObj D o') b t cs := by
 have hne : b ≠ D := fun e => by
  subst e
  have h1 : w.heap[b]? = some (.cells cs t (0, 0)) := h
  rw [h1] at hD
  cases hD
  simp [Obj.isCells] at ho
 exact (World.putObj_heap_other hne).trans h
theorem ownFrom_blk {β : Type} (B b t : Nat) (cs : β → Array Value) : OwnFrom B (fun (s : β) W => Blk W b t (cs s)) := fun s W W' row hs hg hr =>
 blk_grown hs hg (fun e => by
  obtain ⟨-, o, ho, hc⟩ := hr b e.symm
  have h1 : W.heap[b]? = some (.cells (cs s) t (0, 0)) := hs
  rw [h1] at ho
  cases ho
  simp [Obj.isCells] at hc)
theorem ownFrom_far {β : Type} (o : Nat → Prop) (w : World) (B : Nat) (hB : w.heap.size ≤ B) : OwnFrom B (fun (_ : β) W => Far o w W) := fun _ _ _ _ hs hg hr =>
 hs.grown hg (fun k e => Or.inr (Nat.le_trans hB (hr k e).1))
theorem keepsFrom_far {W W' : World} {b t : Nat} {cs : Array Value} (B : Nat) (h : Far (fun i => i = b) W W') (hb : Blk W b t cs) : KeepsFrom B W W' :=
 ⟨h.size, fun k o _ hk ho => by
  have hne : ¬ k = b := fun e => by
   subst e
   have h1 : W.heap[k]? = some (.cells cs t (0, 0)) := hb
   rw [h1] at hk
   cases hk
   simp [Obj.isCells] at ho
  exact (h.block k (Array.getElem?_eq_some_iff.1 hk).1 hne).trans hk⟩
/-- a cell of a fetch -/
abbrev Cl (P : G → Int × Int → Int → Bool) (g : G) (lo hi : Int) := { x : Nat // x < g.ss.length ∧ P g (lo, hi) ((x : Nat) : Int) = true }
theorem fetchL (P : G → Int × Int → Int → Bool) {g : G} {lo hi : Int} {cell d : Nat} (hE : checkE g = 0) (hd : d < 8) (hc : cell < g.ss.length) : ∃ L : List (Cl P g lo hi), L.map (fun x => ((x.1 : Nat) : Int)) = fetchZ (P g (lo, hi)) g (cell : Int) d := by
 obtain ⟨hW, hH, hS, hLen, -⟩ := checkE_zero hE
 have h : ∀ x ∈ fetchZ (P g (lo, hi)) g (cell : Int) d, (0 ≤ x ∧ x < g.ss.length) ∧ P g (lo, hi) x = true := fun x hx => by
  have h1 := (List.takeWhile_prefix (P g (lo, hi)) (l := lineZ g.W g.H (cell : Int) d)).subset hx
  have h2 := lineZ_mem hd hW hH (by omega) h1
  exact ⟨by omega, mem_tw hx⟩
 refine ⟨(fetchZ (P g (lo, hi)) g (cell : Int) d).attach.map fun x => ⟨x.1.toNat, by have := (h x.1 x.2).1; omega, by have h3 := h x.1 x.2; rw [show ((x.1.toNat : Nat) : Int) = x.1 by omega]; exact h3.2⟩, ?_⟩
 rw [List.map_map]
 have e : (List.map ((fun x : Cl P g lo hi => ((x.1 : Nat) : Int)) ∘ fun x : {x // x ∈ fetchZ (P g (lo, hi)) g (cell : Int) d} => (⟨x.1.toNat, by have := (h x.1 x.2).1; omega, by have h3 := h x.1 x.2; rw [show ((x.1.toNat : Nat) : Int) = x.1 by omega]; exact h3.2⟩ : Cl P g lo hi)) (fetchZ (P g (lo, hi)) g (cell : Int) d).attach) = List.map (fun x => x.1) (fetchZ (P g (lo, hi)) g (cell : Int) d).attach := List.map_congr_left fun x _ => by
  have := (h x.1 x.2).1
  show ((x.1.toNat : Nat) : Int) = x.1
  omega
 rw [e]
 exact List.attach_map_subtype_val _
theorem fetchS_stops {α : Type} (num : α → Nat) (L : List α) (n : Nat) (hn : 1 ≤ n) (n0 : Nat) (g : G) (A : Option Addr) (c : Nat) (lo hi : Int) (cell d : Nat) (b5 b9 b11 b10 b7 b4 : Nat)
 (hE : checkE g = 0) (hse : spOk (-20000) 20000 (lo, hi) = true) (hd : d < 8) (hc : cell < g.ss.length) (hL : L.map (fun x => ((num x : Nat) : Int)) = fetchZ (sureB g (lo, hi)) g (cell : Int) d) (w : World) (hI : FetchIn w n0 g A c lo hi cell d 60 b5 b9 b11 b10 b7 b4) :
 SeqStopsK Fence.wide n Tryd.prog 106 #[.pointer (some ⟨b5, 0, none⟩), .pointer (some ⟨b9, 0, none⟩), .pointer (some ⟨b11, 0, none⟩), .pointer (some ⟨b10, 0, none⟩), .pointer (some ⟨b7, 0, none⟩), .pointer (some ⟨b4, 0, none⟩)]
  (fun x : α => #[Value.int .i64 ((num x : Nat) : Int)]) (Below n0) (fun ys => ys = L) (fun pre => pre <+: L) L.length w := fun l J Jx W hW hJ _ hY h0 =>
 fetchS_in num L n hn l n0 g A c lo hi cell d b5 b9 b11 b10 b7 b4 hE hse hd hc hL J Jx (fun s W W' h hb => hJ s W W' none h ⟨hb.os, hb.tape, hb.output, hb.size, fun k hk _ => hb.block k hk⟩ (fun r e => by cases e)) hY W (hI.keep (hW.mono hI.le)) h0
theorem fetchM_stops {α : Type} (num : α → Nat) (L : List α) (n : Nat) (hn : 1 ≤ n) (n0 : Nat) (g : G) (A : Option Addr) (c : Nat) (lo hi : Int) (cell d : Nat) (b5 b9 b11 b10 b7 b4 : Nat)
 (hE : checkE g = 0) (hse : spOk (-20000) 20000 (lo, hi) = true) (hd : d < 8) (hc : cell < g.ss.length) (hL : L.map (fun x => ((num x : Nat) : Int)) = fetchZ (mayB g (lo, hi)) g (cell : Int) d) (w : World) (hI : FetchIn w n0 g A c lo hi cell d 61 b5 b9 b11 b10 b7 b4) :
 SeqStopsK Fence.wide n Tryd.prog 106 #[.pointer (some ⟨b5, 0, none⟩), .pointer (some ⟨b9, 0, none⟩), .pointer (some ⟨b11, 0, none⟩), .pointer (some ⟨b10, 0, none⟩), .pointer (some ⟨b7, 0, none⟩), .pointer (some ⟨b4, 0, none⟩)]
  (fun x : α => #[Value.int .i64 ((num x : Nat) : Int)]) (Below n0) (fun ys => ys = L) (fun pre => pre <+: L) L.length w := fun l J Jx W hW hJ _ hY h0 =>
 fetchM_in num L n hn l n0 g A c lo hi cell d b5 b9 b11 b10 b7 b4 hE hse hd hc hL J Jx (fun s W W' h hb => hJ s W W' none h ⟨hb.os, hb.tape, hb.output, hb.size, fun k hk _ => hb.block k hk⟩ (fun r e => by cases e)) hY W (hI.keep (hW.mono hI.le)) h0
def Z3j : Oper := { dst := some 11, op := Op.load 3 (Operand.tmp 7), type := 3, pos := "setup.go:76", after := #[], guard := none }
def Z3k : Oper := { dst := some 12, op := Op.load 165 (Operand.tmp 5), type := 165, pos := "setup.go:76", after := #[], guard := none }
def Z3l : Oper := { dst := some 13, op := Op.load 110 (Operand.tmp 3), type := 110, pos := "setup.go:76", after := #[], guard := none }
def Z3m : Oper := { dst := some 14, op := Op.move (Operand.tmp 8), type := 3, pos := "setup.go:76", after := #[], guard := none }
def Z3n : Oper := { dst := some 15, op := Op.call { callee := Callee.value (Operand.func 107), args := #[Operand.tmp 13, Operand.tmp 14], argTypes := #[110, 3] }, type := 108, pos := "setup.go:76", after := #[{ on := 2, ground := Ground.data }, { on := 3, ground := Ground.data }], guard := none }
def Z3o : Oper := { dst := some 16, op := Op.call { callee := Callee.value (Operand.tmp 12), args := #[Operand.tmp 15], argTypes := #[108] }, type := 3, pos := "setup.go:76", after := #[{ on := 1, ground := Ground.data }, { on := 4, ground := Ground.data }, { on := 4, ground := Ground.chain }], guard := none }
def Z3p : Oper := { dst := some 17, op := Op.binOp BinOp.add 3 (Operand.tmp 11) (Operand.tmp 16) 3, type := 3, pos := "setup.go:76", after := #[{ on := 0, ground := Ground.data }, { on := 5, ground := Ground.data }], guard := none }
def Z3q : Oper := { dst := none, op := Op.store 3 (Operand.tmp 7) (Operand.tmp 17), type := 0, pos := "setup.go:76", after := #[{ on := 6, ground := Ground.data }, { on := 5, ground := Ground.chain }, { on := 0, ground := Ground.phase }, { on := 1, ground := Ground.phase }, { on := 2, ground := Ground.phase }, { on := 3, ground := Ground.phase }, { on := 4, ground := Ground.phase }, { on := 5, ground := Ground.phase }, { on := 6, ground := Ground.phase }], guard := none }
def Z3r : Oper := { dst := some 11, op := Op.load 3 (Operand.tmp 7), type := 3, pos := "setup.go:76", after := #[], guard := none }
def Z3s : Oper := { dst := some 12, op := Op.load 165 (Operand.tmp 5), type := 165, pos := "setup.go:76", after := #[], guard := none }
def Z3t : Oper := { dst := some 13, op := Op.load 110 (Operand.tmp 3), type := 110, pos := "setup.go:76", after := #[], guard := none }
def Z3u : Oper := { dst := some 14, op := Op.move (Operand.tmp 8), type := 3, pos := "setup.go:76", after := #[], guard := none }
def Z3v : Oper := { dst := some 15, op := Op.call { callee := Callee.value (Operand.func 107), args := #[Operand.tmp 13, Operand.tmp 14], argTypes := #[110, 3] }, type := 108, pos := "setup.go:76", after := #[{ on := 2, ground := Ground.data }, { on := 3, ground := Ground.data }], guard := none }
def Z3w : Oper := { dst := some 16, op := Op.call { callee := Callee.value (Operand.tmp 12), args := #[Operand.tmp 15], argTypes := #[108] }, type := 3, pos := "setup.go:76", after := #[{ on := 1, ground := Ground.data }, { on := 4, ground := Ground.data }, { on := 4, ground := Ground.chain }], guard := none }
def Z3x : Oper := { dst := some 17, op := Op.binOp BinOp.add 3 (Operand.tmp 11) (Operand.tmp 16) 3, type := 3, pos := "setup.go:76", after := #[{ on := 0, ground := Ground.data }, { on := 5, ground := Ground.data }], guard := none }
def Z3y : Oper := { dst := none, op := Op.store 3 (Operand.tmp 7) (Operand.tmp 17), type := 0, pos := "setup.go:76", after := #[{ on := 6, ground := Ground.data }, { on := 5, ground := Ground.chain }, { on := 0, ground := Ground.phase }, { on := 1, ground := Ground.phase }, { on := 2, ground := Ground.phase }, { on := 3, ground := Ground.phase }, { on := 4, ground := Ground.phase }, { on := 5, ground := Ground.phase }, { on := 6, ground := Ground.phase }], guard := none }
theorem sumS_bd {g : G} {lo hi : Int} {N : Int} (Hdp : ∀ y : Cl sureB g lo hi, (dpZ g (lo, hi) ((y.1 : Nat) : Int)).1 ≤ (dpZ g (lo, hi) ((y.1 : Nat) : Int)).2) (hN : 0 ≤ N ∧ N ≤ 2000000000000000000) (l : List (Cl sureB g lo hi)) : 0 ≤ sumZ (fun c => N / (3832031250 * (dpZ g (lo, hi) c).2)) (l.map (fun x => ((x.1 : Nat) : Int))) ∧ sumZ (fun c => N / (3832031250 * (dpZ g (lo, hi) c).2)) (l.map (fun x => ((x.1 : Nat) : Int))) ≤ 600000000 * l.length := by
 have h := sum_bd (f := fun c => N / (3832031250 * (dpZ g (lo, hi) c).2)) 600000000 (l.map (fun x => ((x.1 : Nat) : Int))) fun x hx => by
  obtain ⟨y, hy, rfl⟩ := List.mem_map.1 hx
  have hp := y.2.2
  unfold sureB at hp
  have hp := of_decide_eq_true hp
  try simp only
  have hq : (dpZ g (lo, hi) ((y.1 : Nat) : Int)).1 ≤ (dpZ g (lo, hi) ((y.1 : Nat) : Int)).2 := Hdp y
  exact ⟨Int.ediv_nonneg hN.1 (by omega), Int.le_trans (quo_mono (b' := 3832031250) hN.1 hN.2 (by omega) (by omega)) (by decide)⟩
 rw [List.length_map] at h
 exact h
set_option maxRecDepth 100000 in
set_option maxHeartbeats 8000000 in
theorem sumS_any (g : G) (A : Option Addr) (c : Nat) (lo hi : Int) (cell d : Nat) (b5 b9 b11 b10 b7 b4 bp : Nat) (N : Int) (w : World) (hF : FetchAt w g.W g.H g.S lo hi (.slice A g.ss.length c) (cell : Int) d 60 b5 b9 b11 b10 b7 b4)
 (hs : SpansAt w w.heap.size (.slice A g.ss.length c) g.ss) (hp : Blk w bp 3 #[.int .i64 N]) (hN : 0 ≤ N ∧ N ≤ 2000000000000000000) (hE : checkE g = 0) (hse : spOk (-20000) 20000 (lo, hi) = true) (hd : d < 8) (hc : cell < g.ss.length) :
 Calls Tryd.prog 135 #[.agg #[.int .i64 g.W, .int .i64 g.H, .int .i64 g.S, .slice A g.ss.length c, .int .i64 lo, .int .i64 hi], .func (.func 106) #[] #[.pointer (some ⟨b5, 0, none⟩), .pointer (some ⟨b9, 0, none⟩), .pointer (some ⟨b11, 0, none⟩), .pointer (some ⟨b10, 0, none⟩), .pointer (some ⟨b7, 0, none⟩), .pointer (some ⟨b4, 0, none⟩)], .func (.func 133) #[] #[.pointer (some ⟨bp, 0, none⟩)]] w fun e w' => e = .returned (.int .i64 (sumZ (fun c => N / (3832031250 * (dpZ g (lo, hi) c).2)) (fetchZ (sureB g (lo, hi)) g (cell : Int) d))) ∧ Below w.heap.size w w' := by
 obtain ⟨L, hL⟩ := fetchL sureB (lo := lo) (hi := hi) hE hd hc
 have hLen : L.length ≤ 23 := by
  have h1 := fetch_len (sureB g (lo, hi)) g (cell : Int) d
  have h2 := congrArg List.length hL
  rw [List.length_map] at h2
  obtain ⟨hW, hH, hS, hlen, -⟩ := checkE_zero hE
  have h3 := len_lt (W := g.W) (H := g.H) (c := (cell : Int)) hd hW hH (by omega)
  omega
 have HI0 : Hid (FetchIn w w.heap.size g A c lo hi cell d 60 b5 b9 b11 b10 b7 b4) := ⟨hF, hs, ⟨hF.k5.lt, hF.k9.lt, hF.k11.lt, hF.k10.lt, hF.k7.lt, hF.k4.lt⟩, Nat.le_refl _⟩
 have HE := Lib.hid hE
 have HSE := Lib.hid hse
 have HS0 := Lib.hid hs
 have HP0 := Lib.hid hp
 have HL := Lib.hid hL
 obtain ⟨hN0, hN1⟩ := hN
 clear hF hs hp hE hse hL
 refine (callsIn_wide (n := 6)).1 ?_
 refine callsIn_of_wp_marks Tryd.func135 rfl trivial ?_ rfl
 simp only [Tryd.ntmps135, List.size_toArray, List.length_cons, List.length_nil, Nat.reduceAdd, Nat.reduceSub, Array.replicate_succ, Array.replicate_zero, List.push_toArray, List.append_toArray, List.nil_append, List.cons_append]
 gi_wp2
 obtain ⟨V5, hV⟩ : ∃ V, ((w.alloc (.cells #[.int .i64 g.W, .int .i64 g.H, .int .i64 g.S, .slice A g.ss.length c, .int .i64 lo, .int .i64 hi] 110)).alloc (.cells #[.func (.func 133) #[] #[.pointer (some ⟨bp, 0, none⟩)]] 165)).alloc (.cells #[.int .i64 0] 3) = V := ⟨_, rfl⟩
 have K3 : Hid (Blk V5 w.heap.size 110 #[.int .i64 g.W, .int .i64 g.H, .int .i64 g.S, .slice A g.ss.length c, .int .i64 lo, .int .i64 hi]) := by rw [← hV]; exact ((Blk.new' _ _ _ rfl).alloc _).alloc _
 have K5 : Hid (Blk V5 (w.heap.size + 1) 165 #[.func (.func 133) #[] #[.pointer (some ⟨bp, 0, none⟩)]]) := by rw [← hV]; exact (Blk.new' _ _ _ (by simp)).alloc _
 have K7 : Hid (Blk V5 (w.heap.size + 1 + 1) 3 #[.int .i64 0]) := by rw [← hV]; exact Blk.new' _ _ _ (by simp)
 have KB : Hid (Below w.heap.size w V5) := by rw [← hV]; exact (by repeat (first | exact Below.refl _ _ | assumption | refine Below.drew ?_ | refine Below.drewN' ?_ _ | (refine Below.alloc ?_ (by simp <;> omega) _) | (refine Below.setCell ?_ (by simp <;> omega) _)))
 have hsz : V5.heap.size = w.heap.size + 1 + 1 + 1 := by rw [← hV]; simp
 rw [hV]
 clear hV
 obtain ⟨c7, hc7⟩ : ∃ b, w.heap.size + 1 + 1 = b := ⟨_, rfl⟩
 obtain ⟨c5, hc5⟩ : ∃ b, w.heap.size + 1 = b := ⟨_, rfl⟩
 obtain ⟨c3, hc3⟩ : ∃ b, w.heap.size = b := ⟨_, rfl⟩
 have n57 : ¬ c5 = c7 := by omega
 have n37 : ¬ c3 = c7 := by omega
 have g7 : w.heap.size ≤ c7 := by omega
 have HNW := Lib.hid hc3
 rw [hc7] at K7 ⊢
 rw [hc5] at K5 ⊢
 rw [hc3] at K3 ⊢
 clear hc7 hc5 hc3 hsz
 have HST := Lib.hid (show SeqStopsK Fence.wide 5 Tryd.prog 106 #[.pointer (some ⟨b5, 0, none⟩), .pointer (some ⟨b9, 0, none⟩), .pointer (some ⟨b11, 0, none⟩), .pointer (some ⟨b10, 0, none⟩), .pointer (some ⟨b7, 0, none⟩), .pointer (some ⟨b4, 0, none⟩)] (fun x : Cl sureB g lo hi => #[Value.int .i64 ((x.1 : Nat) : Int)]) (Below w.heap.size) (fun ys => ys = L) (fun pre => pre <+: L) L.length V5 from
  fetchS_stops (fun x : Cl sureB g lo hi => x.1) L 5 (by omega) w.heap.size g A c lo hi cell d b5 b9 b11 b10 b7 b4 HE.out HSE.out hd hc HL.out V5 (HI0.out.keep KB.out))
 refine wpIn_rangeFunc_ownH rfl (by omega) (gf := 106) (lb := #[.pointer (some ⟨b5, 0, none⟩), .pointer (some ⟨b9, 0, none⟩), .pointer (some ⟨b11, 0, none⟩), .pointer (some ⟨b10, 0, none⟩), .pointer (some ⟨b7, 0, none⟩), .pointer (some ⟨b4, 0, none⟩)]) rfl trivial (enters_of Tryd.func106 (by kernel_rfl) rfl)
  HST.out belowK_t (belowK_b KB.out.size) (Below.refl _ _) (fun _ => rfl)
  (fun (pre : List (Cl sureB g lo hi)) W => Far (fun i => i = c7) V5 W ∧ Blk W c7 3 #[.int .i64 (sumZ (fun c => N / (3832031250 * (dpZ g (lo, hi) c).2)) (pre.map (fun x : Cl sureB g lo hi => ((x.1 : Nat) : Int))))])
  (fun _ _ _ => False)
  (OwnFrom.and (ownFrom_far _ _ _ (Nat.le_refl _)) (ownFrom_blk _ _ _ _))
  (fun _ _ _ _ _ hs _ _ => hs)
  ⟨Far.refl _ _, K7.out⟩
  (fun (x : Cl sureB g lo hi) a' W => a' = { tmps := #[.agg #[.int .i64 g.W, .int .i64 g.H, .int .i64 g.S, .slice A g.ss.length c, .int .i64 lo, .int .i64 hi], .func (.func 106) #[] #[.pointer (some ⟨b5, 0, none⟩), .pointer (some ⟨b9, 0, none⟩), .pointer (some ⟨b11, 0, none⟩), .pointer (some ⟨b10, 0, none⟩), .pointer (some ⟨b7, 0, none⟩), .pointer (some ⟨b4, 0, none⟩)], .func (.func 133) #[] #[.pointer (some ⟨bp, 0, none⟩)], .pointer (some ⟨c3, 0, none⟩), undef, .pointer (some ⟨c5, 0, none⟩), .int .i64 0, .pointer (some ⟨c7, 0, none⟩), .int .i64 ((x.1 : Nat) : Int), .func (.func 106) #[] #[.pointer (some ⟨b5, 0, none⟩), .pointer (some ⟨b9, 0, none⟩), .pointer (some ⟨b11, 0, none⟩), .pointer (some ⟨b10, 0, none⟩), .pointer (some ⟨b7, 0, none⟩), .pointer (some ⟨b4, 0, none⟩)], .int .i64 ((x.1 : Nat) : Int), undef, undef, undef, undef, undef, undef, undef, undef], defers := [] })
  (fun x a' s W W' row h hg hr => h) ?assign ?body ?done ?stop
 case assign =>
  rintro l pre x W K ⟨hF, hb7⟩ hK
  gi_wp2
  exact hK _ _ (keepsFrom_far V5.heap.size (Far.refl _ W) hb7) (Below.refl _ _) ⟨hF, hb7⟩ rfl
 case body =>
  rintro l pre ⟨X, hXl, hXp⟩ a' W - - ⟨hF, hb7⟩ rfl hpl
  have HF := Lib.hid hF
  have H7 := Lib.hid hb7
  have hbd := sumS_bd (fun y => (dp_ok HE.out HSE.out _).1) ⟨hN0, hN1⟩ pre
  have HX : Hid (sumZ (fun c => N / (3832031250 * (dpZ g (lo, hi) c).2)) ((pre ++ [(⟨X, hXl, hXp⟩ : Cl sureB g lo hi)]).map (fun x => ((x.1 : Nat) : Int))) = sumZ (fun c => N / (3832031250 * (dpZ g (lo, hi) c).2)) (pre.map (fun x : Cl sureB g lo hi => ((x.1 : Nat) : Int))) + (N / (3832031250 * (dpZ g (lo, hi) (X : Int)).2))) := by
   show _ = _
   rw [List.map_append, List.map_singleton, sumZ_snoc]
  obtain ⟨Q, hQ⟩ : ∃ q, sumZ (fun c => N / (3832031250 * (dpZ g (lo, hi) c).2)) (pre.map (fun x : Cl sureB g lo hi => ((x.1 : Nat) : Int))) = q := ⟨_, rfl⟩
  rw [hQ] at H7 HX hbd
  unfold sureB at hXp
  have hXp := of_decide_eq_true hXp
  have hdp := dp_ok HE.out HSE.out (X : Int)
  obtain ⟨⟨D1, D2⟩, hDP⟩ : ∃ z, dpZ g (lo, hi) (X : Int) = z := ⟨_, rfl⟩
  rw [hDP] at hXp hdp HX
  simp only at hXp hdp HX
  have HDP : Hid ((dpZ g (lo, hi) (X : Int)).1 = D1 ∧ (dpZ g (lo, hi) (X : Int)).2 = D2) := by rw [hDP]; exact ⟨rfl, rfl⟩
  obtain ⟨PP, hPP⟩ : ∃ z, N / (3832031250 * D2) = z := ⟨_, rfl⟩
  rw [hPP] at HX
  have HPT := Lib.hid hPP
  have hPb : 0 ≤ PP ∧ PP ≤ 600000000 := by
   rw [← hPP]
   exact ⟨Int.ediv_nonneg hN0 (by omega), Int.le_trans (quo_mono (b' := 3832031250) hN0 hN1 (by omega) (by omega)) (by decide)⟩
  have wr0 : IntKind.i64.wrap (Q + PP) = Q + PP := IntWalk.i64_in _ (by omega)
  clear hF hb7 hQ hDP hPP
  have HSV : Hid (∀ U, Below W.heap.size W U → U.cell? ⟨c7, 0, none⟩ = some (.int .i64 Q) ∧ U.cell? ⟨c5, 0, none⟩ = some (.func (.func 133) #[] #[.pointer (some ⟨bp, 0, none⟩)]) ∧ U.cell? ⟨c3, 0, none⟩ = some (.int .i64 g.W) ∧ U.cell? ⟨c3, 1, none⟩ = some (.int .i64 g.H) ∧ U.cell? ⟨c3, 2, none⟩ = some (.int .i64 g.S) ∧ U.cell? ⟨c3, 3, none⟩ = some (.slice A g.ss.length c) ∧ U.cell? ⟨c3, 4, none⟩ = some (.int .i64 lo) ∧ U.cell? ⟨c3, 5, none⟩ = some (.int .i64 hi)) := fun U hU => by
   have k7 := H7.out.below hU H7.out.lt
   have k5 := (K5.out.far HF.out n57).below hU (K5.out.far HF.out n57).lt
   have k3 := (K3.out.far HF.out n37).below hU (K3.out.far HF.out n37).lt
   exact ⟨k7.cell 0, k5.cell 0, k3.cell 0, k3.cell 1, k3.cell 2, k3.cell 3, k3.cell 4, k3.cell 5⟩
  have HFW : Hid (∀ U, Below W.heap.size W U → Below w.heap.size w U) := fun U hU => KB.out.trans ((HF.out.trans (Far.of_below hU) (fun _ _ h => h)).below KB.out.size (by intro i hi h; have := HNW.out; omega))
  have HSP : Hid (∀ U, Below W.heap.size W U → SpansAt U U.heap.size (.slice A g.ss.length c) g.ss) := fun U hU => HS0.out.later (HFW.out U hU) (Nat.le_refl _)
  have HBP : Hid (∀ U, Below W.heap.size W U → Blk U bp 3 #[.int .i64 N]) := fun U hU => HP0.out.below (HFW.out U hU) HP0.out.lt
  have k0 := HSV.out _ (Below.drew (Below.refl W.heap.size W))
  dsimp only
  gi_wp2_with fail
  refine wpIn_region_calm (S := (fun w' => w'.cell? ⟨c7, 0, none⟩ = some (.int .i64 Q) ∧ w'.cell? ⟨c5, 0, none⟩ = some (.func (.func 133) #[] #[.pointer (some ⟨bp, 0, none⟩)]) ∧ w'.cell? ⟨c3, 0, none⟩ = some (.int .i64 g.W) ∧ w'.cell? ⟨c3, 1, none⟩ = some (.int .i64 g.H) ∧ w'.cell? ⟨c3, 2, none⟩ = some (.int .i64 g.S) ∧ w'.cell? ⟨c3, 3, none⟩ = some (.slice A g.ss.length c) ∧ w'.cell? ⟨c3, 4, none⟩ = some (.int .i64 lo) ∧ w'.cell? ⟨c3, 5, none⟩ = some (.int .i64 hi))) (ks := [7]) (by kernel_rfl) (by kernel_rfl) ?_ (fun hHeld => ?_)
  · (try dsimp only); (exact k0)
  refine tL 0 Z3j ?_ ?_ ?_
  rotate_left
  · ((intro w hSw; delta Z3j; (try dsimp only at hSw); go_simp) <;> with_reducible rfl)
  try simp only [Z3j, ksz]
  refine tL 1 Z3k ?_ ?_ ?_
  rotate_left
  · ((intro w hSw; delta Z3k; (try dsimp only at hSw); go_simp) <;> with_reducible rfl)
  try simp only [Z3k, ksz]
  refine tL 2 Z3l ?_ ?_ ?_
  rotate_left
  · ((intro w hSw; delta Z3l; (try dsimp only at hSw); go_simp) <;> with_reducible rfl)
  try simp only [Z3l, ksz]
  refine tL 3 Z3m ?_ ?_ ?_
  rotate_left
  · ((intro w hSw; delta Z3m; (try dsimp only at hSw); go_simp) <;> with_reducible rfl)
  try simp only [Z3m, ksz]
  obtain ⟨W0, hW0⟩ : ∃ V, W.drew = V := ⟨_, rfl⟩; rw [hW0] at hHeld ⊢; have HB0 : Hid (Below W.heap.size W W0) := (by rw [← hW0]; exact Below.drew (Below.refl _ _)); clear hW0
  refine wpAnyL_ready (rs := [4]) (by kernel_rfl) (by simp) ?_
  refine AllReadyL.cons (o := Z3n) rfl (fun K hK => ?_) AllReadyL.nil
  delta Z3n
  go_simp
  (refine (depth_any g A c lo hi X _ (HSP.out _ HB0.out) hXl HE.out HSE.out).mono ?_; rintro e W1 ⟨rfl, hb⟩; rw [HDP.out.1, HDP.out.2]; have HB1 := Lib.hid (HB0.out.trans (hb.mono HB0.out.size)); clear hb)
  refine hK.out _ _ ?_ (fun hHeld => ?_)
  · (try dsimp only); (exact HSV.out _ HB1.out)
  clear hK K
  try simp only [Z3n, ksz]
  refine wpAnyL_ready (rs := [5]) (by kernel_rfl) (by simp) ?_
  refine AllReadyL.cons (o := Z3o) rfl (fun K hK => ?_) AllReadyL.nil
  delta Z3o
  go_simp
  (refine (rise1_any D1 D2 N bp _ (HBP.out _ HB1.out) ⟨by omega, by omega⟩ ⟨hN0, hN1⟩).mono ?_; rintro e W2 ⟨rfl, hb⟩; rw [HPT.out]; have HB2 := Lib.hid (HB1.out.trans (hb.mono HB1.out.size)); clear hb)
  refine hK.out _ _ ?_ (fun hHeld => ?_)
  · (try dsimp only); (exact HSV.out _ HB2.out)
  clear hK K
  try simp only [Z3o, ksz]
  refine tL 6 Z3p ?_ ?_ ?_
  rotate_left
  · ((intro w hSw; delta Z3p; (try dsimp only at hSw); go_simp) <;> with_reducible rfl)
  try simp only [Z3p, ksz]
  have M7 := Lib.hid (H7.out.below HB2.out H7.out.lt); have u0 := M7.out.cell 0; have v0 := M7.out.frozen 0; simp only [List.getElem?_toArray, List.getElem?_cons_zero] at u0
  refine wpAnyL_ready (rs := [7]) (by kernel_rfl) (by simp) ?_
  refine AllReadyL.gate (o := Z3q) rfl (by kernel_rfl) (fun K hK => ?_) AllReadyL.nil
  delta Z3q
  go_simp
  refine hK.out _ _ ?_
  clear hK K
  try simp only [Z3q, ksz]
  refine wpAnyL_done (by kernel_rfl) ?_ _
  refine NormOnly.normal ?_
  have O7' := M7.out.set_ 0 (.int .i64 (Q + PP))
  have HFE := Lib.hid ((HF.out.trans (Far.of_below HB2.out) (fun _ _ h => h)).setCell (p := ⟨c7, 0, none⟩) (Or.inl rfl) (.int .i64 (Q + PP)))
  have HWE := Lib.hid (Far.setCell (o := fun i => i = c7) (Far.of_below HB2.out) (p := ⟨c7, 0, none⟩) (Or.inl rfl) (.int .i64 (Q + PP)))
  have O7 := Lib.hid O7'
  clear O7' u0 v0 M7 HSV k0 hHeld
  gi_wp2
  have g9 : w.heap.size ≤ W.heap.size := Nat.le_trans KB.out.size HF.out.size
  exact ⟨keepsFrom_far V5.heap.size HWE.out H7.out, HWE.out.below g9 (by intro i hi h; have := HNW.out; omega), HFE.out, by rw [HX.out]; exact O7.out⟩
 case done =>
  rintro D ys W hD rfl ⟨hF, h7⟩ hK
  rw [HL.out] at h7
  obtain ⟨Q, hQ⟩ : ∃ q, sumZ (fun c => N / (3832031250 * (dpZ g (lo, hi) c).2)) (fetchZ (sureB g (lo, hi)) g (cell : Int) d) = q := ⟨_, rfl⟩
  have HQ := Lib.hid hQ
  rw [hQ] at h7
  have H7 := Lib.hid h7
  have HB := Lib.hid (KB.out.trans (hF.below KB.out.size (by intro i hi h; have := HNW.out; omega)))
  have HK := Lib.hid hK
  have hDn : w.heap.size ≤ D := Nat.le_trans KB.out.size hD
  clear hF h7 hK hQ
  have u0 := H7.out.cell 0
  simp only [List.getElem?_toArray, List.getElem?_cons_zero] at u0
  dsimp only
  gi_wp2
  refine bodyM_mark (v := .int .i64 Q) (run_takeDeferred HK.out) (by simp [results, Tryd.results135, go_sem]) rfl ⟨by rw [HQ.out], ?_⟩
  exact HB.out.trans (belowK_b (w := w) (Nat.le_refl _) _ D _ _ (by omega) HK.out rfl rfl)
 case stop =>
  rintro D c pre W _ _ h _
  exact h.elim
theorem sumM_bd {g : G} {lo hi : Int} {N : Int} (hN : 0 ≤ N ∧ N ≤ 2000000000000000000) (l : List (Cl mayB g lo hi)) : 0 ≤ sumZ (fun c => upQ N (3832031250 * max (dpZ g (lo, hi) c).1 1)) (l.map (fun x => ((x.1 : Nat) : Int))) ∧ sumZ (fun c => upQ N (3832031250 * max (dpZ g (lo, hi) c).1 1)) (l.map (fun x => ((x.1 : Nat) : Int))) ≤ 600000000 * l.length := by
 have h := sum_bd (f := fun c => upQ N (3832031250 * max (dpZ g (lo, hi) c).1 1)) 600000000 (l.map (fun x => ((x.1 : Nat) : Int))) fun x hx => by
  obtain ⟨y, hy, rfl⟩ := List.mem_map.1 hx
  have hp := y.2.2
  unfold mayB at hp
  have hp := of_decide_eq_true hp
  try simp only
  exact ⟨upQ_nonneg hN.1 (by omega), Int.le_trans (up_mono (b' := 3832031250) hN.1 hN.2 (by omega) (by omega)) (by decide)⟩
 rw [List.length_map] at h
 exact h
set_option maxRecDepth 100000 in
set_option maxHeartbeats 8000000 in
theorem sumM_any (g : G) (A : Option Addr) (c : Nat) (lo hi : Int) (cell d : Nat) (b5 b9 b11 b10 b7 b4 bp : Nat) (N : Int) (w : World) (hF : FetchAt w g.W g.H g.S lo hi (.slice A g.ss.length c) (cell : Int) d 61 b5 b9 b11 b10 b7 b4)
 (hs : SpansAt w w.heap.size (.slice A g.ss.length c) g.ss) (hp : Blk w bp 3 #[.int .i64 N]) (hN : 0 ≤ N ∧ N ≤ 2000000000000000000) (hE : checkE g = 0) (hse : spOk (-20000) 20000 (lo, hi) = true) (hd : d < 8) (hc : cell < g.ss.length) :
 Calls Tryd.prog 135 #[.agg #[.int .i64 g.W, .int .i64 g.H, .int .i64 g.S, .slice A g.ss.length c, .int .i64 lo, .int .i64 hi], .func (.func 106) #[] #[.pointer (some ⟨b5, 0, none⟩), .pointer (some ⟨b9, 0, none⟩), .pointer (some ⟨b11, 0, none⟩), .pointer (some ⟨b10, 0, none⟩), .pointer (some ⟨b7, 0, none⟩), .pointer (some ⟨b4, 0, none⟩)], .func (.func 134) #[] #[.pointer (some ⟨bp, 0, none⟩)]] w fun e w' => e = .returned (.int .i64 (sumZ (fun c => upQ N (3832031250 * max (dpZ g (lo, hi) c).1 1)) (fetchZ (mayB g (lo, hi)) g (cell : Int) d))) ∧ Below w.heap.size w w' := by
 obtain ⟨L, hL⟩ := fetchL mayB (lo := lo) (hi := hi) hE hd hc
 have hLen : L.length ≤ 23 := by
  have h1 := fetch_len (mayB g (lo, hi)) g (cell : Int) d
  have h2 := congrArg List.length hL
  rw [List.length_map] at h2
  obtain ⟨hW, hH, hS, hlen, -⟩ := checkE_zero hE
  have h3 := len_lt (W := g.W) (H := g.H) (c := (cell : Int)) hd hW hH (by omega)
  omega
 have HI0 : Hid (FetchIn w w.heap.size g A c lo hi cell d 61 b5 b9 b11 b10 b7 b4) := ⟨hF, hs, ⟨hF.k5.lt, hF.k9.lt, hF.k11.lt, hF.k10.lt, hF.k7.lt, hF.k4.lt⟩, Nat.le_refl _⟩
 have HE := Lib.hid hE
 have HSE := Lib.hid hse
 have HS0 := Lib.hid hs
 have HP0 := Lib.hid hp
 have HL := Lib.hid hL
 obtain ⟨hN0, hN1⟩ := hN
 clear hF hs hp hE hse hL
 refine (callsIn_wide (n := 6)).1 ?_
 refine callsIn_of_wp_marks Tryd.func135 rfl trivial ?_ rfl
 simp only [Tryd.ntmps135, List.size_toArray, List.length_cons, List.length_nil, Nat.reduceAdd, Nat.reduceSub, Array.replicate_succ, Array.replicate_zero, List.push_toArray, List.append_toArray, List.nil_append, List.cons_append]
 gi_wp2
 obtain ⟨V5, hV⟩ : ∃ V, ((w.alloc (.cells #[.int .i64 g.W, .int .i64 g.H, .int .i64 g.S, .slice A g.ss.length c, .int .i64 lo, .int .i64 hi] 110)).alloc (.cells #[.func (.func 134) #[] #[.pointer (some ⟨bp, 0, none⟩)]] 165)).alloc (.cells #[.int .i64 0] 3) = V := ⟨_, rfl⟩
 have K3 : Hid (Blk V5 w.heap.size 110 #[.int .i64 g.W, .int .i64 g.H, .int .i64 g.S, .slice A g.ss.length c, .int .i64 lo, .int .i64 hi]) := by rw [← hV]; exact ((Blk.new' _ _ _ rfl).alloc _).alloc _
 have K5 : Hid (Blk V5 (w.heap.size + 1) 165 #[.func (.func 134) #[] #[.pointer (some ⟨bp, 0, none⟩)]]) := by rw [← hV]; exact (Blk.new' _ _ _ (by simp)).alloc _
 have K7 : Hid (Blk V5 (w.heap.size + 1 + 1) 3 #[.int .i64 0]) := by rw [← hV]; exact Blk.new' _ _ _ (by simp)
 have KB : Hid (Below w.heap.size w V5) := by rw [← hV]; exact (by repeat (first | exact Below.refl _ _ | assumption | refine Below.drew ?_ | refine Below.drewN' ?_ _ | (refine Below.alloc ?_ (by simp <;> omega) _) | (refine Below.setCell ?_ (by simp <;> omega) _)))
 have hsz : V5.heap.size = w.heap.size + 1 + 1 + 1 := by rw [← hV]; simp
 rw [hV]
 clear hV
 obtain ⟨c7, hc7⟩ : ∃ b, w.heap.size + 1 + 1 = b := ⟨_, rfl⟩
 obtain ⟨c5, hc5⟩ : ∃ b, w.heap.size + 1 = b := ⟨_, rfl⟩
 obtain ⟨c3, hc3⟩ : ∃ b, w.heap.size = b := ⟨_, rfl⟩
 have n57 : ¬ c5 = c7 := by omega
 have n37 : ¬ c3 = c7 := by omega
 have g7 : w.heap.size ≤ c7 := by omega
 have HNW := Lib.hid hc3
 rw [hc7] at K7 ⊢
 rw [hc5] at K5 ⊢
 rw [hc3] at K3 ⊢
 clear hc7 hc5 hc3 hsz
 have HST := Lib.hid (show SeqStopsK Fence.wide 5 Tryd.prog 106 #[.pointer (some ⟨b5, 0, none⟩), .pointer (some ⟨b9, 0, none⟩), .pointer (some ⟨b11, 0, none⟩), .pointer (some ⟨b10, 0, none⟩), .pointer (some ⟨b7, 0, none⟩), .pointer (some ⟨b4, 0, none⟩)] (fun x : Cl mayB g lo hi => #[Value.int .i64 ((x.1 : Nat) : Int)]) (Below w.heap.size) (fun ys => ys = L) (fun pre => pre <+: L) L.length V5 from
  fetchM_stops (fun x : Cl mayB g lo hi => x.1) L 5 (by omega) w.heap.size g A c lo hi cell d b5 b9 b11 b10 b7 b4 HE.out HSE.out hd hc HL.out V5 (HI0.out.keep KB.out))
 refine wpIn_rangeFunc_ownH rfl (by omega) (gf := 106) (lb := #[.pointer (some ⟨b5, 0, none⟩), .pointer (some ⟨b9, 0, none⟩), .pointer (some ⟨b11, 0, none⟩), .pointer (some ⟨b10, 0, none⟩), .pointer (some ⟨b7, 0, none⟩), .pointer (some ⟨b4, 0, none⟩)]) rfl trivial (enters_of Tryd.func106 (by kernel_rfl) rfl)
  HST.out belowK_t (belowK_b KB.out.size) (Below.refl _ _) (fun _ => rfl)
  (fun (pre : List (Cl mayB g lo hi)) W => Far (fun i => i = c7) V5 W ∧ Blk W c7 3 #[.int .i64 (sumZ (fun c => upQ N (3832031250 * max (dpZ g (lo, hi) c).1 1)) (pre.map (fun x : Cl mayB g lo hi => ((x.1 : Nat) : Int))))])
  (fun _ _ _ => False)
  (OwnFrom.and (ownFrom_far _ _ _ (Nat.le_refl _)) (ownFrom_blk _ _ _ _))
  (fun _ _ _ _ _ hs _ _ => hs)
  ⟨Far.refl _ _, K7.out⟩
  (fun (x : Cl mayB g lo hi) a' W => a' = { tmps := #[.agg #[.int .i64 g.W, .int .i64 g.H, .int .i64 g.S, .slice A g.ss.length c, .int .i64 lo, .int .i64 hi], .func (.func 106) #[] #[.pointer (some ⟨b5, 0, none⟩), .pointer (some ⟨b9, 0, none⟩), .pointer (some ⟨b11, 0, none⟩), .pointer (some ⟨b10, 0, none⟩), .pointer (some ⟨b7, 0, none⟩), .pointer (some ⟨b4, 0, none⟩)], .func (.func 134) #[] #[.pointer (some ⟨bp, 0, none⟩)], .pointer (some ⟨c3, 0, none⟩), undef, .pointer (some ⟨c5, 0, none⟩), .int .i64 0, .pointer (some ⟨c7, 0, none⟩), .int .i64 ((x.1 : Nat) : Int), .func (.func 106) #[] #[.pointer (some ⟨b5, 0, none⟩), .pointer (some ⟨b9, 0, none⟩), .pointer (some ⟨b11, 0, none⟩), .pointer (some ⟨b10, 0, none⟩), .pointer (some ⟨b7, 0, none⟩), .pointer (some ⟨b4, 0, none⟩)], .int .i64 ((x.1 : Nat) : Int), undef, undef, undef, undef, undef, undef, undef, undef], defers := [] })
  (fun x a' s W W' row h hg hr => h) ?assign ?body ?done ?stop
 case assign =>
  rintro l pre x W K ⟨hF, hb7⟩ hK
  gi_wp2
  exact hK _ _ (keepsFrom_far V5.heap.size (Far.refl _ W) hb7) (Below.refl _ _) ⟨hF, hb7⟩ rfl
 case body =>
  rintro l pre ⟨X, hXl, hXp⟩ a' W - - ⟨hF, hb7⟩ rfl hpl
  have HF := Lib.hid hF
  have H7 := Lib.hid hb7
  have hbd := sumM_bd ⟨hN0, hN1⟩ pre
  have HX : Hid (sumZ (fun c => upQ N (3832031250 * max (dpZ g (lo, hi) c).1 1)) ((pre ++ [(⟨X, hXl, hXp⟩ : Cl mayB g lo hi)]).map (fun x => ((x.1 : Nat) : Int))) = sumZ (fun c => upQ N (3832031250 * max (dpZ g (lo, hi) c).1 1)) (pre.map (fun x : Cl mayB g lo hi => ((x.1 : Nat) : Int))) + (upQ N (3832031250 * max (dpZ g (lo, hi) (X : Int)).1 1))) := by
   show _ = _
   rw [List.map_append, List.map_singleton, sumZ_snoc]
  obtain ⟨Q, hQ⟩ : ∃ q, sumZ (fun c => upQ N (3832031250 * max (dpZ g (lo, hi) c).1 1)) (pre.map (fun x : Cl mayB g lo hi => ((x.1 : Nat) : Int))) = q := ⟨_, rfl⟩
  rw [hQ] at H7 HX hbd
  unfold mayB at hXp
  have hXp := of_decide_eq_true hXp
  have hdp := dp_ok HE.out HSE.out (X : Int)
  obtain ⟨⟨D1, D2⟩, hDP⟩ : ∃ z, dpZ g (lo, hi) (X : Int) = z := ⟨_, rfl⟩
  rw [hDP] at hXp hdp HX
  simp only at hXp hdp HX
  have HDP : Hid ((dpZ g (lo, hi) (X : Int)).1 = D1 ∧ (dpZ g (lo, hi) (X : Int)).2 = D2) := by rw [hDP]; exact ⟨rfl, rfl⟩
  obtain ⟨PP, hPP⟩ : ∃ z, upQ N (3832031250 * max D1 1) = z := ⟨_, rfl⟩
  rw [hPP] at HX
  have HPT := Lib.hid hPP
  have hPb : 0 ≤ PP ∧ PP ≤ 600000000 := by
   rw [← hPP]
   exact ⟨upQ_nonneg hN0 (by omega), Int.le_trans (up_mono (b' := 3832031250) hN0 hN1 (by omega) (by omega)) (by decide)⟩
  have wr0 : IntKind.i64.wrap (Q + PP) = Q + PP := IntWalk.i64_in _ (by omega)
  clear hF hb7 hQ hDP hPP
  have HSV : Hid (∀ U, Below W.heap.size W U → U.cell? ⟨c7, 0, none⟩ = some (.int .i64 Q) ∧ U.cell? ⟨c5, 0, none⟩ = some (.func (.func 134) #[] #[.pointer (some ⟨bp, 0, none⟩)]) ∧ U.cell? ⟨c3, 0, none⟩ = some (.int .i64 g.W) ∧ U.cell? ⟨c3, 1, none⟩ = some (.int .i64 g.H) ∧ U.cell? ⟨c3, 2, none⟩ = some (.int .i64 g.S) ∧ U.cell? ⟨c3, 3, none⟩ = some (.slice A g.ss.length c) ∧ U.cell? ⟨c3, 4, none⟩ = some (.int .i64 lo) ∧ U.cell? ⟨c3, 5, none⟩ = some (.int .i64 hi)) := fun U hU => by
   have k7 := H7.out.below hU H7.out.lt
   have k5 := (K5.out.far HF.out n57).below hU (K5.out.far HF.out n57).lt
   have k3 := (K3.out.far HF.out n37).below hU (K3.out.far HF.out n37).lt
   exact ⟨k7.cell 0, k5.cell 0, k3.cell 0, k3.cell 1, k3.cell 2, k3.cell 3, k3.cell 4, k3.cell 5⟩
  have HFW : Hid (∀ U, Below W.heap.size W U → Below w.heap.size w U) := fun U hU => KB.out.trans ((HF.out.trans (Far.of_below hU) (fun _ _ h => h)).below KB.out.size (by intro i hi h; have := HNW.out; omega))
  have HSP : Hid (∀ U, Below W.heap.size W U → SpansAt U U.heap.size (.slice A g.ss.length c) g.ss) := fun U hU => HS0.out.later (HFW.out U hU) (Nat.le_refl _)
  have HBP : Hid (∀ U, Below W.heap.size W U → Blk U bp 3 #[.int .i64 N]) := fun U hU => HP0.out.below (HFW.out U hU) HP0.out.lt
  have k0 := HSV.out _ (Below.drew (Below.refl W.heap.size W))
  dsimp only
  gi_wp2_with fail
  refine wpIn_region_calm (S := (fun w' => w'.cell? ⟨c7, 0, none⟩ = some (.int .i64 Q) ∧ w'.cell? ⟨c5, 0, none⟩ = some (.func (.func 134) #[] #[.pointer (some ⟨bp, 0, none⟩)]) ∧ w'.cell? ⟨c3, 0, none⟩ = some (.int .i64 g.W) ∧ w'.cell? ⟨c3, 1, none⟩ = some (.int .i64 g.H) ∧ w'.cell? ⟨c3, 2, none⟩ = some (.int .i64 g.S) ∧ w'.cell? ⟨c3, 3, none⟩ = some (.slice A g.ss.length c) ∧ w'.cell? ⟨c3, 4, none⟩ = some (.int .i64 lo) ∧ w'.cell? ⟨c3, 5, none⟩ = some (.int .i64 hi))) (ks := [7]) (by kernel_rfl) (by kernel_rfl) ?_ (fun hHeld => ?_)
  · (try dsimp only); (exact k0)
  refine tL 0 Z3r ?_ ?_ ?_
  rotate_left
  · ((intro w hSw; delta Z3r; (try dsimp only at hSw); go_simp) <;> with_reducible rfl)
  try simp only [Z3r, ksz]
  refine tL 1 Z3s ?_ ?_ ?_
  rotate_left
  · ((intro w hSw; delta Z3s; (try dsimp only at hSw); go_simp) <;> with_reducible rfl)
  try simp only [Z3s, ksz]
  refine tL 2 Z3t ?_ ?_ ?_
  rotate_left
  · ((intro w hSw; delta Z3t; (try dsimp only at hSw); go_simp) <;> with_reducible rfl)
  try simp only [Z3t, ksz]
  refine tL 3 Z3u ?_ ?_ ?_
  rotate_left
  · ((intro w hSw; delta Z3u; (try dsimp only at hSw); go_simp) <;> with_reducible rfl)
  try simp only [Z3u, ksz]
  obtain ⟨W0, hW0⟩ : ∃ V, W.drew = V := ⟨_, rfl⟩; rw [hW0] at hHeld ⊢; have HB0 : Hid (Below W.heap.size W W0) := (by rw [← hW0]; exact Below.drew (Below.refl _ _)); clear hW0
  refine wpAnyL_ready (rs := [4]) (by kernel_rfl) (by simp) ?_
  refine AllReadyL.cons (o := Z3v) rfl (fun K hK => ?_) AllReadyL.nil
  delta Z3v
  go_simp
  (refine (depth_any g A c lo hi X _ (HSP.out _ HB0.out) hXl HE.out HSE.out).mono ?_; rintro e W1 ⟨rfl, hb⟩; rw [HDP.out.1, HDP.out.2]; have HB1 := Lib.hid (HB0.out.trans (hb.mono HB0.out.size)); clear hb)
  refine hK.out _ _ ?_ (fun hHeld => ?_)
  · (try dsimp only); (exact HSV.out _ HB1.out)
  clear hK K
  try simp only [Z3v, ksz]
  refine wpAnyL_ready (rs := [5]) (by kernel_rfl) (by simp) ?_
  refine AllReadyL.cons (o := Z3w) rfl (fun K hK => ?_) AllReadyL.nil
  delta Z3w
  go_simp
  (refine (rise2_any D1 D2 N bp _ (HBP.out _ HB1.out) (by omega) ⟨hN0, hN1⟩).mono ?_; rintro e W2 ⟨rfl, hb⟩; rw [HPT.out]; have HB2 := Lib.hid (HB1.out.trans (hb.mono HB1.out.size)); clear hb)
  refine hK.out _ _ ?_ (fun hHeld => ?_)
  · (try dsimp only); (exact HSV.out _ HB2.out)
  clear hK K
  try simp only [Z3w, ksz]
  refine tL 6 Z3x ?_ ?_ ?_
  rotate_left
  · ((intro w hSw; delta Z3x; (try dsimp only at hSw); go_simp) <;> with_reducible rfl)
  try simp only [Z3x, ksz]
  have M7 := Lib.hid (H7.out.below HB2.out H7.out.lt); have u0 := M7.out.cell 0; have v0 := M7.out.frozen 0; simp only [List.getElem?_toArray, List.getElem?_cons_zero] at u0
  refine wpAnyL_ready (rs := [7]) (by kernel_rfl) (by simp) ?_
  refine AllReadyL.gate (o := Z3y) rfl (by kernel_rfl) (fun K hK => ?_) AllReadyL.nil
  delta Z3y
  go_simp
  refine hK.out _ _ ?_
  clear hK K
  try simp only [Z3y, ksz]
  refine wpAnyL_done (by kernel_rfl) ?_ _
  refine NormOnly.normal ?_
  have O7' := M7.out.set_ 0 (.int .i64 (Q + PP))
  have HFE := Lib.hid ((HF.out.trans (Far.of_below HB2.out) (fun _ _ h => h)).setCell (p := ⟨c7, 0, none⟩) (Or.inl rfl) (.int .i64 (Q + PP)))
  have HWE := Lib.hid (Far.setCell (o := fun i => i = c7) (Far.of_below HB2.out) (p := ⟨c7, 0, none⟩) (Or.inl rfl) (.int .i64 (Q + PP)))
  have O7 := Lib.hid O7'
  clear O7' u0 v0 M7 HSV k0 hHeld
  gi_wp2
  have g9 : w.heap.size ≤ W.heap.size := Nat.le_trans KB.out.size HF.out.size
  exact ⟨keepsFrom_far V5.heap.size HWE.out H7.out, HWE.out.below g9 (by intro i hi h; have := HNW.out; omega), HFE.out, by rw [HX.out]; exact O7.out⟩
 case done =>
  rintro D ys W hD rfl ⟨hF, h7⟩ hK
  rw [HL.out] at h7
  obtain ⟨Q, hQ⟩ : ∃ q, sumZ (fun c => upQ N (3832031250 * max (dpZ g (lo, hi) c).1 1)) (fetchZ (mayB g (lo, hi)) g (cell : Int) d) = q := ⟨_, rfl⟩
  have HQ := Lib.hid hQ
  rw [hQ] at h7
  have H7 := Lib.hid h7
  have HB := Lib.hid (KB.out.trans (hF.below KB.out.size (by intro i hi h; have := HNW.out; omega)))
  have HK := Lib.hid hK
  have hDn : w.heap.size ≤ D := Nat.le_trans KB.out.size hD
  clear hF h7 hK hQ
  have u0 := H7.out.cell 0
  simp only [List.getElem?_toArray, List.getElem?_cons_zero] at u0
  dsimp only
  gi_wp2
  refine bodyM_mark (v := .int .i64 Q) (run_takeDeferred HK.out) (by simp [results, Tryd.results135, go_sem]) rfl ⟨by rw [HQ.out], ?_⟩
  exact HB.out.trans (belowK_b (w := w) (Nat.le_refl _) _ D _ _ (by omega) HK.out rfl rfl)
 case stop =>
  rintro D c pre W _ _ h _
  exact h.elim
end Go.Proofs.YtdhcdgfpkjdihaaDoor.Sg
