/-
  Layer 3, the program: the iterator of a fetch.
-/
import Derived.Test.YtdhcdgfpkjdihaaDoorVP3h
import Derived.Test.YtdhcdgfpkjdihaaDoorVBc
import Derived.RangeFuncNested
import Derived.RangeFuncBound
import Derived.RangeFuncCalls
import Derived.RangeFuncLeaves
import Derived.Shelf.Abstract
import Derived.Shelf.RegionOpen
import Derived.OwnWalkIn
import Derived.TacticsInMore
import Derived.LoopNIn
import Derived.LoopIn
set_option linter.unusedSimpArgs false
set_option linter.unusedVariables false
namespace Go.Proofs.YtdhcdgfpkjdihaaDoor.Sg
open Go.RowKit Go.Shelf
attribute [local go_sem] Oper.semAt_some
theorem win_of {n lo hi : Int} {v : Bool} (h : decide (lo ≤ n ∧ n ≤ hi) = v) (w : World) :
 Calls Tryd.prog 69 #[.int .i64 n, .int .i64 lo, .int .i64 hi] w fun e w' => e = .returned (.bool v) ∧ w = w' := by
 subst h
 exact within_any n lo hi w
theorem takeWhile_more {α : Type} (p : α → Bool) (l : List α) (k : Nat) (h : k < l.length) (hk : (l.takeWhile p).length = k) (he : p l[k] = true) : k + 1 ≤ (l.takeWhile p).length := by
 induction l generalizing k with
 | nil => simp at h
 | cons a l ih =>
  rw [List.takeWhile_cons] at hk ⊢
  split
  · rename_i hp
    rw [if_pos hp] at hk
    cases k with
    | zero => simp at hk
    | succ k =>
     have := ih k (by simpa using h) (by simpa using hk) (by simpa using he)
     simpa using this
  · rename_i hp
    rw [if_neg hp] at hk
    cases k with
    | zero => simp at he; exact absurd he hp
    | succ k => simp at hk
theorem line_bd {W H c : Int} {d : Nat} (hd : d < 8) (hW : 1 ≤ W ∧ W ≤ 24) (hH : 1 ≤ H ∧ H ≤ 24) (hc : 0 ≤ c ∧ c < W * H) : lenZ W H c d ≤ 23 := len_lt hd hW hH hc
/-- what an iterator of a fetch reads lies below n0 -/
structure FetchIn (w : World) (n0 : Nat) (g : G) (A : Option Addr) (c : Nat) (lo hi : Int) (cell d isf : Nat) (b5 b9 b11 b10 b7 b4 : Nat) : Prop where
 at_ : FetchAt w g.W g.H g.S lo hi (.slice A g.ss.length c) (cell : Int) d isf b5 b9 b11 b10 b7 b4
 ss : SpansAt w n0 (.slice A g.ss.length c) g.ss
 lt : b5 < n0 ∧ b9 < n0 ∧ b11 < n0 ∧ b10 < n0 ∧ b7 < n0 ∧ b4 < n0
 le : n0 ≤ w.heap.size
theorem FetchIn.keep {w w' : World} {n0 : Nat} {g : G} {A : Option Addr} {c : Nat} {lo hi : Int} {cell d isf : Nat} {b5 b9 b11 b10 b7 b4 : Nat} (h : FetchIn w n0 g A c lo hi cell d isf b5 b9 b11 b10 b7 b4) (hb : Below n0 w w') : FetchIn w' n0 g A c lo hi cell d isf b5 b9 b11 b10 b7 b4 :=
 ⟨⟨h.at_.k5.below hb h.lt.1, h.at_.k9.below hb h.lt.2.1, h.at_.k11.below hb h.lt.2.2.1, h.at_.k10.below hb h.lt.2.2.2.1, h.at_.k7.below hb h.lt.2.2.2.2.1, h.at_.k4.below hb h.lt.2.2.2.2.2⟩, h.ss.below hb, h.lt, Nat.le_trans h.le hb.size⟩
theorem wpIn_region_calm0 {n : Nat} {P : Program} {id : Nat} {ops : Array Oper} {S : World → Prop} {ks : List Nat} {Q : Exit → Act → World → Prop} {a : Act} {w : World} (hm : P.follows .mixedOrders = true) (hS : S w.drew)
 (h : S w.drew → wpAnyL P .any ops (NormOnly Q) S ks ops.size (Array.replicate ops.size false) a w.drew) : (Code.region id ops true).wpIn Fence.wide n P Q a w :=
 Code.wpIn_mono NormOnly.imp (wpIn_region_any hm (wpAnyIn_plain NormOnly.shut _ _ _ _ (wpAny_of_L _ _ _ _ (h hS))))
def Z2t : Oper := ⟨some 38, .load 115 (.tmp 5), 115, "fetch.go:49", #[], none⟩
def Z2u : Oper := ⟨some 39, .load 110 (.tmp 6), 110, "fetch.go:49", #[], none⟩
def Z2v : Oper := ⟨some 40, .move (.tmp 10), 3, "fetch.go:49", #[], none⟩
def Z2w : Oper := ⟨some 41, .call { callee := Callee.value (.func 107), args := #[.tmp 39, .tmp 40], argTypes := #[110, 3] }, 108, "fetch.go:49", #[⟨1, .data⟩, ⟨2, .data⟩], none⟩
def Z2x : Oper := ⟨some 42, .call { callee := Callee.value (.tmp 38), args := #[.tmp 41], argTypes := #[108] }, 4, "fetch.go:49", #[⟨0, .data⟩, ⟨3, .data⟩, ⟨3, .chain⟩], none⟩
def Z2y : Oper := ⟨some 43, .unOp UnOp.not 4 (.tmp 42), 4, "fetch.go:49", #[⟨4, .data⟩], none⟩
def Z2z : Oper := ⟨some 44, .move (.tmp 43), 4, "fetch.go:49", #[⟨5, .data⟩, ⟨4, .chain⟩], none⟩
def Z30 : Oper := ⟨some 45, .move (.tmp 0), 106, "fetch.go:49", #[⟨6, .guard⟩], some (6, false)⟩
def Z31 : Oper := ⟨some 46, .move (.tmp 10), 3, "fetch.go:49", #[⟨6, .guard⟩], some (6, false)⟩
def Z32 : Oper := ⟨some 47, .call { callee := Callee.value (.tmp 45), args := #[.tmp 46], argTypes := #[3] }, 4, "fetch.go:49", #[⟨7, .data⟩, ⟨8, .data⟩, ⟨6, .chain⟩, ⟨6, .guard⟩], some (6, false)⟩
def Z33 : Oper := ⟨some 48, .unOp UnOp.not 4 (.tmp 47), 4, "fetch.go:49", #[⟨9, .data⟩, ⟨6, .guard⟩], some (6, false)⟩
def Z34 : Oper := ⟨some 49, .pick (.tmp 44) (.const (Value.bool true)) (.tmp 48), 4, "fetch.go:49", #[⟨6, .data⟩, ⟨10, .data⟩], none⟩
def Z35 : Oper := { dst := some 11, op := Op.load 3 (Operand.tmp 1), type := 3, pos := "fetch.go:46", after := #[], guard := none }
def Z36 : Oper := { dst := some 12, op := Op.load 3 (Operand.tmp 2), type := 3, pos := "fetch.go:46", after := #[], guard := none }
def Z37 : Oper := { dst := some 13, op := Op.binOp BinOp.rem 3 (Operand.tmp 11) (Operand.tmp 12) 3, type := 3, pos := "fetch.go:46", after := #[{ on := 0, ground := Ground.data }, { on := 1, ground := Ground.data }], guard := none }
def Z38 : Oper := { dst := some 14, op := Op.fieldAddr 151 (Operand.tmp 3) 0, type := 0, pos := "fetch.go:46", after := #[], guard := none }
def Z39 : Oper := { dst := some 15, op := Op.load 3 (Operand.tmp 14), type := 3, pos := "fetch.go:46", after := #[{ on := 3, ground := Ground.data }], guard := none }
def Z3a : Oper := { dst := some 16, op := Op.binOp BinOp.add 3 (Operand.tmp 13) (Operand.tmp 15) 3, type := 3, pos := "fetch.go:46", after := #[{ on := 2, ground := Ground.data }, { on := 4, ground := Ground.data }], guard := none }
def Z3b : Oper := { dst := some 17, op := Op.load 3 (Operand.tmp 1), type := 3, pos := "fetch.go:46", after := #[{ on := 12, ground := Ground.gcOnly Departure.lateStores }], guard := none }
def Z3c : Oper := { dst := some 18, op := Op.load 3 (Operand.tmp 2), type := 3, pos := "fetch.go:46", after := #[{ on := 12, ground := Ground.gcOnly Departure.lateStores }], guard := none }
def Z3d : Oper := { dst := some 19, op := Op.binOp BinOp.quo 3 (Operand.tmp 17) (Operand.tmp 18) 3, type := 3, pos := "fetch.go:46", after := #[{ on := 6, ground := Ground.data }, { on := 7, ground := Ground.data }, { on := 12, ground := Ground.gcOnly Departure.lateStores }], guard := none }
def Z3e : Oper := { dst := some 20, op := Op.fieldAddr 151 (Operand.tmp 3) 1, type := 0, pos := "fetch.go:46", after := #[{ on := 12, ground := Ground.gcOnly Departure.lateStores }], guard := none }
def Z3f : Oper := { dst := some 21, op := Op.load 3 (Operand.tmp 20), type := 3, pos := "fetch.go:46", after := #[{ on := 9, ground := Ground.data }, { on := 12, ground := Ground.gcOnly Departure.lateStores }], guard := none }
def Z3g : Oper := { dst := some 22, op := Op.binOp BinOp.add 3 (Operand.tmp 19) (Operand.tmp 21) 3, type := 3, pos := "fetch.go:46", after := #[{ on := 8, ground := Ground.data }, { on := 10, ground := Ground.data }, { on := 12, ground := Ground.gcOnly Departure.lateStores }], guard := none }
def Z3h : Oper := { dst := some 8, op := Op.assign (Operand.tmp 16), type := 3, pos := "fetch.go:46", after := #[{ on := 5, ground := Ground.data }, { on := 0, ground := Ground.phase }, { on := 1, ground := Ground.phase }, { on := 2, ground := Ground.phase }, { on := 3, ground := Ground.phase }, { on := 4, ground := Ground.phase }, { on := 5, ground := Ground.phase }, { on := 6, ground := Ground.textOnly Departure.lateStores }, { on := 7, ground := Ground.textOnly Departure.lateStores }, { on := 8, ground := Ground.textOnly Departure.lateStores }, { on := 9, ground := Ground.textOnly Departure.lateStores }, { on := 10, ground := Ground.textOnly Departure.lateStores }, { on := 11, ground := Ground.textOnly Departure.lateStores }], guard := none }
def Z3i : Oper := { dst := some 9, op := Op.assign (Operand.tmp 22), type := 3, pos := "fetch.go:46", after := #[{ on := 11, ground := Ground.data }, { on := 12, ground := Ground.chain }, { on := 0, ground := Ground.phase }, { on := 1, ground := Ground.phase }, { on := 2, ground := Ground.phase }, { on := 3, ground := Ground.phase }, { on := 4, ground := Ground.phase }, { on := 5, ground := Ground.phase }, { on := 6, ground := Ground.phase }, { on := 7, ground := Ground.phase }, { on := 8, ground := Ground.phase }, { on := 9, ground := Ground.phase }, { on := 10, ground := Ground.phase }, { on := 11, ground := Ground.phase }, { on := 12, ground := Ground.phase }], guard := none }
set_option maxRecDepth 100000 in
set_option maxHeartbeats 8000000 in
theorem fetchS_in {α : Type} (num : α → Nat) (L : List α) (n : Nat) (hn : 1 ≤ n) (l n0 : Nat) (g : G) (A : Option Addr) (c : Nat) (lo hi : Int) (cell d : Nat) (b5 b9 b11 b10 b7 b4 : Nat)
 (hE : checkE g = 0) (hse : spOk (-20000) 20000 (lo, hi) = true) (hd : d < 8) (hc : cell < g.ss.length) (hL : L.map (fun x => ((num x : Nat) : Int)) = fetchZ (sureB g (lo, hi)) g (cell : Int) d) (J Jx : List α → World → Prop)
 (hJ : ∀ s W W', J s W → Below W.heap.size W W' → J s W')
 (hY : ∀ pre x W, J pre W → pre.length < L.length → YieldAt Fence.wide (n - 1) Tryd.prog l #[.int .i64 ((num x : Nat) : Int)] W fun e W' => (e = .returned (.bool true) ∧ J (pre ++ [x]) W' ∧ Below n0 W W') ∨ (e = .returned (.bool false) ∧ Jx (pre ++ [x]) W'))
 (W : World) (hI : FetchIn W n0 g A c lo hi cell d 60 b5 b9 b11 b10 b7 b4) (h0 : J [] W) :
 CallsIn Fence.wide n Tryd.prog 106 #[.func (.yield l) #[] #[], .pointer (some ⟨b5, 0, none⟩), .pointer (some ⟨b9, 0, none⟩), .pointer (some ⟨b11, 0, none⟩), .pointer (some ⟨b10, 0, none⟩), .pointer (some ⟨b7, 0, none⟩), .pointer (some ⟨b4, 0, none⟩)] W fun e W' => (∃ v, e = .returned v) ∧
  ((∃ ys, ys = L ∧ J ys W') ∨ (∃ pre, pre <+: L ∧ Jx pre W')) := by
 obtain ⟨hW, hH, hS, hLen, -⟩ := checkE_zero hE
 have hcc : 0 ≤ (cell : Int) ∧ (cell : Int) < g.W * g.H := by omega
 have hlen : L.length = (fetchZ (sureB g (lo, hi)) g (cell : Int) d).length := by rw [← hL, List.length_map]
 have hfl := fetch_len (sureB g (lo, hi)) g (cell : Int) d
 have hgt : ∀ k (h : k < L.length), ∃ h2 : k < (lineZ g.W g.H (cell : Int) d).length, ((num L[k] : Nat) : Int) = (lineZ g.W g.H (cell : Int) d)[k] ∧ sureB g (lo, hi) (lineZ g.W g.H (cell : Int) d)[k] = true := by
  intro k h
  obtain ⟨h2, e1, e2⟩ := takeWhile_get (sureB g (lo, hi)) (lineZ g.W g.H (cell : Int) d) k (by unfold fetchZ at hlen; omega)
  refine ⟨h2, ?_, e2⟩
  rw [← e1]
  have e3 : (L.map (fun x => ((num x : Nat) : Int)))[k]'(by rw [List.length_map]; exact h) = (fetchZ (sureB g (lo, hi)) g (cell : Int) d)[k]'(by omega) := by congr 1
  rw [List.getElem_map] at e3
  exact e3
 have hst : ∀ k, k < (lineZ g.W g.H (cell : Int) d).length → L.length = k → ∀ h : k < (lineZ g.W g.H (cell : Int) d).length, sureB g (lo, hi) (lineZ g.W g.H (cell : Int) d)[k] = false := by
  intro k _ hk h
  cases e : sureB g (lo, hi) (lineZ g.W g.H (cell : Int) d)[k] with
  | false => rfl
  | true =>
   have h1 := takeWhile_more (sureB g (lo, hi)) (lineZ g.W g.H (cell : Int) d) k h (by unfold fetchZ at hlen; omega) e
   unfold fetchZ at hlen
   omega
 have hin := line_in (d := d) hd hW hH hcc
 have hce := fun k hk => line_cell (d := d) hd hW hH hcc (k := k) hk
 have hbd := line_bd (d := d) hd hW hH hcc
 refine callsIn_of_wp Tryd.func106 rfl trivial ?_ rfl
 simp only [Tryd.ntmps106, List.size_toArray, List.length_cons, List.length_nil, Nat.reduceAdd, Nat.reduceSub, Array.replicate_succ, Array.replicate_zero, List.push_toArray, List.append_toArray, List.nil_append, List.cons_append]
 have HY := Lib.hid hY
 have HJ := Lib.hid hJ
 have HE := Lib.hid hE
 have HSE := Lib.hid hse
 have HIN0 := Lib.hid hI
 have HGT := Lib.hid hgt
 have HST := Lib.hid hst
 have HIO := Lib.hid hin
 have HCE := Lib.hid hce
 have HBDD := Lib.hid hbd
 have HJ0 := Lib.hid h0
 have HFL := Lib.hid (Nat.le_trans (Nat.le_of_eq hlen) hfl)
 clear hY hJ hE hse hI hgt hst hin hce hbd h0 hlen hfl hL
 obtain ⟨MX, hMX⟩ : ∃ z, (cell : Int) % g.W = z := ⟨_, rfl⟩
 obtain ⟨MY, hMY⟩ : ∃ z, (cell : Int) / g.W = z := ⟨_, rfl⟩
 have mx1 : 0 ≤ MX ∧ MX < 24 := by rw [← hMX]; exact ⟨Int.emod_nonneg _ (by omega), by have := Int.emod_lt_of_pos (cell : Int) (show 0 < g.W by omega); omega⟩
 have my1 : 0 ≤ MY ∧ MY < 24 := by rw [← hMY]; exact ⟨Int.ediv_nonneg hcc.1 (by omega), by have := Int.ediv_lt_of_lt_mul (show 0 < g.W by omega) (show (cell : Int) < g.H * g.W by rw [Int.mul_comm]; omega); omega⟩
 have tX : (cell : Int).tmod g.W = MX := by rw [Int.tmod_eq_emod_of_nonneg hcc.1, hMX]
 have tY : (cell : Int).tdiv g.W = MY := by rw [Int.tdiv_eq_ediv_of_nonneg hcc.1, hMY]
 have wM : IntKind.i64.wrap MY = MY := IntWalk.i64_in _ (by omega)
 have hg0 : ¬ g.W = 0 := by omega
 have hg1 : ¬ g.W = -1 := by omega
 have hdx : (-1 ≤ dxZ d ∧ dxZ d ≤ 1) ∧ (-1 ≤ dyZ d ∧ dyZ d ≤ 1) := by rcases dir_cases hd with rfl | rfl | rfl | rfl | rfl | rfl | rfl | rfl <;> decide
 have hdd : dxZ d = 1 ∨ dxZ d = -1 ∨ dyZ d = 1 ∨ dyZ d = -1 := by rcases dir_cases hd with rfl | rfl | rfl | rfl | rfl | rfl | rfl | rfl <;> decide
 obtain ⟨DX, hDX⟩ : ∃ z, dxZ d = z := ⟨_, rfl⟩
 obtain ⟨DY, hDY⟩ : ∃ z, dyZ d = z := ⟨_, rfl⟩
 rw [hDX, hDY] at hdx hdd
 have hcol : Hid (∀ k, colZ g.W (cell : Int) d k = MX + DX * (k + 1 : Nat)) := fun k => by unfold colZ; rw [hMX, hDX]
 have hrow : Hid (∀ k, rowZ g.W (cell : Int) d k = MY + DY * (k + 1 : Nat)) := fun k => by unfold rowZ; rw [hMY, hDY]
 have HDX := Lib.hid hDX
 have HDY := Lib.hid hDY
 have HMX := Lib.hid hMX
 have HMY := Lib.hid hMY
 clear hMX hMY hDX hDY
 obtain ⟨z0, z1, -, -⟩ := span_parts HIN0.out.at_.k11
 have y5 := HIN0.out.at_.k5.cell 0
 have y9 := HIN0.out.at_.k9.cell 0
 simp only [List.getElem?_toArray, List.getElem?_cons_zero] at y5 y9
 rw [HDX.out] at z0
 rw [HDY.out] at z1
 gi_wp2_with fail
 have wMX : IntKind.i64.wrap (MX + DX) = MX + DX := IntWalk.i64_in _ (by omega)
 have wMY : IntKind.i64.wrap (MY + DY) = MY + DY := IntWalk.i64_in _ (by omega)
 have k0 : W.drew.cell? ⟨b5, 0, none⟩ = some (.int .i64 (cell : Int)) ∧ W.drew.cell? ⟨b9, 0, none⟩ = some (.int .i64 g.W) ∧ W.drew.cell? ⟨b11, 0, none⟩ = some (.int .i64 DX) ∧ W.drew.cell? ⟨b11, 1, none⟩ = some (.int .i64 DY) := ⟨y5, y9, z0, z1⟩
 refine wpIn_region_calm0 (S := (fun w' => w'.cell? ⟨b5, 0, none⟩ = some (.int .i64 (cell : Int)) ∧ w'.cell? ⟨b9, 0, none⟩ = some (.int .i64 g.W) ∧ w'.cell? ⟨b11, 0, none⟩ = some (.int .i64 DX) ∧ w'.cell? ⟨b11, 1, none⟩ = some (.int .i64 DY))) (ks := []) (by kernel_rfl) ?_ (fun hHeld => ?_)
 · (try dsimp only); (exact k0)
 refine tL 0 Z35 ?_ ?_ ?_
 rotate_left
 · ((intro w hSw; delta Z35; (try dsimp only at hSw); go_simp) <;> with_reducible rfl)
 try simp only [Z35, ksz]
 refine tL 1 Z36 ?_ ?_ ?_
 rotate_left
 · ((intro w hSw; delta Z36; (try dsimp only at hSw); go_simp) <;> with_reducible rfl)
 try simp only [Z36, ksz]
 refine tL 2 Z37 ?_ ?_ ?_
 rotate_left
 · ((intro w hSw; delta Z37; (try dsimp only at hSw); go_simp) <;> with_reducible rfl)
 try simp only [Z37, ksz]
 refine tL 3 Z38 ?_ ?_ ?_
 rotate_left
 · ((intro w hSw; delta Z38; (try dsimp only at hSw); go_simp) <;> with_reducible rfl)
 try simp only [Z38, ksz]
 refine tL 4 Z39 ?_ ?_ ?_
 rotate_left
 · ((intro w hSw; delta Z39; (try dsimp only at hSw); go_simp) <;> with_reducible rfl)
 try simp only [Z39, ksz]
 refine tL 5 Z3a ?_ ?_ ?_
 rotate_left
 · ((intro w hSw; delta Z3a; (try dsimp only at hSw); go_simp) <;> with_reducible rfl)
 try simp only [Z3a, ksz]
 refine tL 6 Z3b ?_ ?_ ?_
 rotate_left
 · ((intro w hSw; delta Z3b; (try dsimp only at hSw); go_simp) <;> with_reducible rfl)
 try simp only [Z3b, ksz]
 refine tL 7 Z3c ?_ ?_ ?_
 rotate_left
 · ((intro w hSw; delta Z3c; (try dsimp only at hSw); go_simp) <;> with_reducible rfl)
 try simp only [Z3c, ksz]
 refine tL 8 Z3d ?_ ?_ ?_
 rotate_left
 · ((intro w hSw; delta Z3d; (try dsimp only at hSw); go_simp) <;> with_reducible rfl)
 try simp only [Z3d, ksz]
 refine tL 9 Z3e ?_ ?_ ?_
 rotate_left
 · ((intro w hSw; delta Z3e; (try dsimp only at hSw); go_simp) <;> with_reducible rfl)
 try simp only [Z3e, ksz]
 refine tL 10 Z3f ?_ ?_ ?_
 rotate_left
 · ((intro w hSw; delta Z3f; (try dsimp only at hSw); go_simp) <;> with_reducible rfl)
 try simp only [Z3f, ksz]
 refine tL 11 Z3g ?_ ?_ ?_
 rotate_left
 · ((intro w hSw; delta Z3g; (try dsimp only at hSw); go_simp) <;> with_reducible rfl)
 try simp only [Z3g, ksz]
 refine tL 12 Z3h ?_ ?_ ?_
 rotate_left
 · ((intro w hSw; delta Z3h; (try dsimp only at hSw); go_simp) <;> with_reducible rfl)
 try simp only [Z3h, ksz]
 refine tL 13 Z3i ?_ ?_ ?_
 rotate_left
 · ((intro w hSw; delta Z3i; (try dsimp only at hSw); go_simp) <;> with_reducible rfl)
 try simp only [Z3i, ksz]
 refine wpAnyL_done (by kernel_rfl) ?_ _
 refine NormOnly.normal ?_
 clear k0 y5 y9 z0 z1 hHeld
 gi_wp2
 gi_loopw [8, 9] (fun xv yv wr => ∃ (k : Nat) (X Y : Int), xv = .int .i64 X ∧ yv = .int .i64 Y ∧ Hid (colZ g.W (cell : Int) d k = X) ∧ Hid (rowZ g.W (cell : Int) d k = Y) ∧ k ≤ L.length ∧ J (L.take k) wr ∧ Hid (FetchIn wr n0 g A c lo hi cell d 60 b5 b9 b11 b10 b7 b4))
  (fun xv yv _ => (if DX = 1 then 30 - intOf xv else if DX = -1 then intOf xv + 1 else if DY = 1 then 30 - intOf yv else intOf yv + 1).toNat)
 case atStart =>
  exact ⟨0, MX + DX, MY + DY, rfl, rfl, by show colZ _ _ _ _ = _; rw [hcol.out]; simp, by show rowZ _ _ _ _ = _; rw [hrow.out]; simp, Nat.zero_le _, HJ.out _ _ _ HJ0.out (Below.drew (Below.refl _ _)), HIN0.out.keep (Below.drew (Below.refl _ _))⟩
 case round =>
  obtain ⟨k, X, Y, rfl, rfl, hX, hY, hk, hJk, HIN⟩ := hrel
  have HJk := Lib.hid hJk
  have HCS : Hid (colZ g.W (cell : Int) d (k + 1) = X + DX ∧ rowZ g.W (cell : Int) d (k + 1) = Y + DY) := by
   rw [← hX.out, ← hY.out, hcol.out, hcol.out, hrow.out, hrow.out]
   constructor <;> (simp only [Int.natCast_add, Int.natCast_one]; grind)
  have hkz : k ≤ lenZ g.W g.H (cell : Int) d := Nat.le_trans hk HFL.out
  have hio := HIO.out k hkz
  rw [hX.out, hY.out] at hio
  have y9 := HIN.out.at_.k9.cell 0
  have y10 := HIN.out.at_.k10.cell 0
  simp only [List.getElem?_toArray, List.getElem?_cons_zero] at y9 y10
  clear hJk
  by_cases hlt : k < lenZ g.W g.H (cell : Int) d
  rotate_left
  · have HFIN : Hid (L = L.take k) := by
     have e : k = L.length := by have := HFL.out; omega
     rw [e, List.take_length]
     rfl
    have hout : ¬ ((0 ≤ X ∧ X ≤ g.W - 1) ∧ (0 ≤ Y ∧ Y ≤ g.H - 1)) := fun h => hlt (hio.2 h)
    clear hio
    by_cases hx : 0 ≤ X ∧ X ≤ g.W - 1
    · have hy : ¬ (0 ≤ Y ∧ Y ≤ g.H - 1) := fun h => hout ⟨hx, h⟩
      have A1 := Lib.hid (decide_eq_true hx)
      have A2 := Lib.hid (decide_eq_false hy)
      clear hx hy hout
      gi_wp2_with fail
      refine ⟨trivial, (callsIn_wide.2 (win_of A1.out _)).mono ?_⟩
      rintro e V1 ⟨rfl, hw⟩
      obtain rfl := hw
      gi_wp2_with fail
      refine ⟨trivial, (callsIn_wide.2 (win_of A2.out _)).mono ?_⟩
      rintro e V1 ⟨rfl, hw⟩
      obtain rfl := hw
      gi_wp2
      go_end0
      exact ⟨⟨_, rfl⟩, .inl ⟨_, HFIN.out.symm, by first | exact HJk.out | (rw [HFIN.out]; exact HJk.out)⟩⟩
    · have A1 := Lib.hid (decide_eq_false hx)
      clear hx hout
      gi_wp2_with fail
      refine ⟨trivial, (callsIn_wide.2 (win_of A1.out _)).mono ?_⟩
      rintro e V1 ⟨rfl, hw⟩
      obtain rfl := hw
      gi_wp2
      refine ⟨trivial, ?_⟩
      gi_wp2
      go_end0
      exact ⟨⟨_, rfl⟩, .inl ⟨_, HFIN.out.symm, by first | exact HJk.out | (rw [HFIN.out]; exact HJk.out)⟩⟩
  obtain ⟨hx, hy⟩ := hio.1 hlt
  have A1 := Lib.hid (decide_eq_true hx)
  have A2 := Lib.hid (decide_eq_true hy)
  have hce := HCE.out k hlt
  rw [hX.out, hY.out] at hce
  obtain ⟨C, hC⟩ : ∃ C : Nat, Y * g.W + X = (C : Int) := ⟨(Y * g.W + X).toNat, by omega⟩
  have hCl : C < g.ss.length := by omega
  have hYW : 0 ≤ Y * g.W := Int.mul_nonneg hy.1 (by omega)
  have hYW2 : Y * g.W ≤ 24 * 24 := Int.mul_le_mul (by omega) (by omega) (by omega) (by omega)
  have wr0 : IntKind.i64.wrap (Y * g.W) = Y * g.W := IntWalk.i64_in _ (by omega)
  have hzl : k < (lineZ g.W g.H (cell : Int) d).length := by rw [lineZ_length]; exact hlt
  have hzk : (lineZ g.W g.H (cell : Int) d)[k] = (C : Int) := by rw [lineZ_get, hX.out, hY.out, hC]
  obtain ⟨⟨D1, D2⟩, hDP⟩ : ∃ z, dpZ g (lo, hi) (C : Int) = z := ⟨_, rfl⟩
  have HDP : Hid ((dpZ g (lo, hi) (C : Int)).1 = D1 ∧ (dpZ g (lo, hi) (C : Int)).2 = D2) := by rw [hDP]; exact ⟨rfl, rfl⟩
  have HSP : Hid (∀ U, Below wr.heap.size wr U → SpansAt U U.heap.size (.slice A g.ss.length c) g.ss) := fun U hU => (HIN.out.ss.below (hU.mono HIN.out.le)).more (Nat.le_trans HIN.out.le hU.size)
  have HCELL : Hid (∀ U, Below wr.heap.size wr U → (U.cell? ⟨b4, 0, none⟩ = some (.int .i64 g.W) ∧ U.cell? ⟨b4, 1, none⟩ = some (.int .i64 g.H) ∧ U.cell? ⟨b4, 2, none⟩ = some (.int .i64 g.S) ∧ U.cell? ⟨b4, 3, none⟩ = some (.slice A g.ss.length c) ∧ U.cell? ⟨b4, 4, none⟩ = some (.int .i64 lo) ∧ U.cell? ⟨b4, 5, none⟩ = some (.int .i64 hi)) ∧ U.cell? ⟨b7, 0, none⟩ = some (.func (.func 60) #[] #[])) := fun U hU => by
   have k4 := HIN.out.at_.k4.below hU HIN.out.at_.k4.lt
   have k7 := HIN.out.at_.k7.below hU HIN.out.at_.k7.lt
   exact ⟨⟨k4.cell 0, k4.cell 1, k4.cell 2, k4.cell 3, k4.cell 4, k4.cell 5⟩, k7.cell 0⟩
  have HJB : Hid (∀ U, Below wr.heap.size wr U → J (L.take k) U) := fun U hU => HJ.out _ _ _ HJk.out hU
  clear hce hio hlt
  by_cases hsea : sureB g (lo, hi) (C : Int) = true
  · have hkL : k < L.length := by
     rcases Nat.lt_or_ge k L.length with h | h
     · exact h
     · have := HST.out k hzl (by omega) hzl
       rw [hzk, hsea] at this
       cases this
    have HX : Hid (((num L[k] : Nat) : Int) = (C : Int)) := by
     obtain ⟨h2, e, -⟩ := HGT.out k hkL
     rw [e]
     exact hzk
    have HT : Hid (L.take (k + 1) = L.take k ++ [L[k]]) := List.take_succ_eq_append_getElem hkL
    have hL2 : (L.take k).length < L.length := by rw [List.length_take]; omega
    have HP : Hid (decide (1 ≤ D1) = true) := by have h := hsea; unfold sureB at h; rw [hDP] at h; exact h
    clear hsea hDP hzk hzl
    gi_wp2_with fail
    refine ⟨trivial, (callsIn_wide.2 (win_of A1.out _)).mono ?_⟩
    rintro e V1 ⟨rfl, hw⟩
    obtain rfl := hw
    gi_wp2_with fail
    refine ⟨trivial, (callsIn_wide.2 (win_of A2.out _)).mono ?_⟩
    rintro e V1 ⟨rfl, hw⟩
    obtain rfl := hw
    gi_wp2_with fail
    refine wpIn_region_any (by kernel_rfl) ?_
    show wpAnyIn _ _ _ _ _ _ _ _ _ wr.drew
    obtain ⟨U0, hU0⟩ : ∃ V, wr.drew = V := ⟨_, rfl⟩
    have HBD : Hid (Below wr.heap.size wr U0) := by rw [← hU0]; exact Below.drew (Below.refl _ _)
    rw [hU0]
    clear hU0
    refine wpAnyIn_take (i := 2) (oi := Z2v) (v := ?_) rfl rfl (by kernel_rfl) (by kernel_rfl) (by kernel_rfl) (fun _ _ _ h => h) ⟨Or.inl ⟨by rfl, ?_⟩, fun _ => rfl⟩ ?_
    rotate_left
    · intro w; delta Z2v; go_simp; try with_reducible rfl
    try simp only [Z2v, ksz]
    obtain ⟨⟨kA0, kA1, kA2, kA3, kA4, kA5⟩, kB⟩ := HCELL.out _ HBD.out
    refine wpAnyIn_ready (rs := [0, 1]) (by kernel_rfl) (by simp) ?_
    refine AllReadyIn.cons (o := Z2t) rfl (fun K hK => ?_) ?_
    ·
     delta Z2t
     go_simp
     refine hK _ _ ?_
     clear hK K
     try simp only [Z2t, ksz]
     refine wpAnyIn_ready (rs := [1]) (by kernel_rfl) (by simp) ?_
     refine AllReadyIn.cons (o := Z2u) rfl (fun K hK => ?_) AllReadyIn.nil
     delta Z2u
     go_simp
     refine hK _ _ ?_
     clear hK K
     try simp only [Z2u, ksz]
     refine wpAnyIn_ready (rs := [3]) (by kernel_rfl) (by simp) ?_
     refine AllReadyIn.cons (o := Z2w) rfl (fun K hK => ?_) AllReadyIn.nil
     delta Z2w
     go_simp
     refine ⟨trivial, ?_⟩; refine (callsIn_wide.2 (depth_any g A c lo hi C _ (HSP.out _ HBD.out) hCl HE.out HSE.out)).mono ?_; rintro e U1 ⟨rfl, hb⟩; rw [HDP.out.1, HDP.out.2]; have HB1 := Lib.hid (HBD.out.trans (hb.mono HBD.out.size)); clear hb
     refine hK _ _ ?_
     clear hK K
     try simp only [Z2w, ksz]
     refine wpAnyIn_ready (rs := [4]) (by kernel_rfl) (by simp) ?_
     refine AllReadyIn.cons (o := Z2x) rfl (fun K hK => ?_) AllReadyIn.nil
     delta Z2x
     go_simp
     refine ⟨trivial, ?_⟩; refine (callsIn_wide.2 (sureC_any D1 D2 _)).mono ?_; rintro e U2 ⟨rfl, hb⟩; rw [HP.out]; have HB2 := Lib.hid (HB1.out.trans (hb.mono HB1.out.size)); clear hb
     refine hK _ _ ?_
     clear hK K
     try simp only [Z2x, ksz]
     refine wpAnyIn_take (i := 5) (oi := Z2y) (v := ?_) rfl rfl (by kernel_rfl) (by kernel_rfl) (by kernel_rfl) (fun _ _ _ h => h) ⟨Or.inl ⟨by rfl, ?_⟩, fun _ => rfl⟩ ?_
     rotate_left
     · intro w; delta Z2y; go_simp; try with_reducible rfl
     try simp only [Z2y, ksz]
     refine wpAnyIn_ready (rs := [6]) (by kernel_rfl) (by simp) ?_
     refine AllReadyIn.cons (o := Z2z) rfl (fun K hK => ?_) AllReadyIn.nil
     delta Z2z
     go_simp
     refine hK _ _ ?_
     clear hK K
     try simp only [Z2z, ksz]
     refine wpAnyIn_take (i := 7) (oi := Z30) (v := ?_) rfl rfl (by kernel_rfl) (by kernel_rfl) (by kernel_rfl) (fun _ _ _ h => h) ⟨Or.inl ⟨by rfl, ?_⟩, fun _ => rfl⟩ ?_
     rotate_left
     · intro w; delta Z30; go_simp; try with_reducible rfl
     try simp only [Z30, ksz]
     refine wpAnyIn_take (i := 8) (oi := Z31) (v := ?_) rfl rfl (by kernel_rfl) (by kernel_rfl) (by kernel_rfl) (fun _ _ _ h => h) ⟨Or.inl ⟨by rfl, ?_⟩, fun _ => rfl⟩ ?_
     rotate_left
     · intro w; delta Z31; go_simp; try with_reducible rfl
     try simp only [Z31, ksz]
     obtain ⟨fn0, tmps0, as0, body0, hy, hR⟩ := HY.out (L.take k) L[k] _ (HJB.out _ HB2.out) hL2
     rw [HX.out] at hy
     have HR := Lib.hid hR
     clear hR
     refine wpAnyIn_ready (rs := [9]) (by kernel_rfl) (by simp) ?_
     refine AllReadyIn.cons (o := Z32) rfl (fun K hK => ?_) AllReadyIn.nil
     delta Z32
     go_simp
     refine HR.out.mono ?_
     clear hy HR
     rintro e W1 (⟨rfl, hJ1, hkp⟩ | ⟨rfl, hJx⟩)
     rotate_left
     ·
      refine hK _ _ ?_
      clear hK K
      try simp only [Z32, ksz]
      refine wpAnyIn_take (i := 10) (oi := Z33) (v := ?_) rfl rfl (by kernel_rfl) (by kernel_rfl) (by kernel_rfl) (fun _ _ _ h => h) ⟨Or.inl ⟨by rfl, ?_⟩, fun _ => rfl⟩ ?_
      rotate_left
      · intro w; delta Z33; go_simp; try with_reducible rfl
      try simp only [Z33, ksz]
      refine wpAnyIn_take (i := 11) (oi := Z34) (v := ?_) rfl rfl (by kernel_rfl) (by kernel_rfl) (by kernel_rfl) (fun _ _ _ h => h) ⟨Or.inl ⟨by rfl, ?_⟩, fun _ => rfl⟩ ?_
      rotate_left
      · intro w; delta Z34; go_simp; try with_reducible rfl
      try simp only [Z34, ksz]
      refine wpAnyIn_done (by kernel_rfl) ?_ _
      gi_wp2
      refine bodyPost_ret (results_none rfl _ _ _) rfl ?_
      refine ⟨⟨_, rfl⟩, .inr ⟨_, ?_, hJx⟩⟩
      rw [← HT.out]
      exact List.take_prefix _ _
     refine hK _ _ ?_
     clear hK K
     try simp only [Z32, ksz]
     refine wpAnyIn_take (i := 10) (oi := Z33) (v := ?_) rfl rfl (by kernel_rfl) (by kernel_rfl) (by kernel_rfl) (fun _ _ _ h => h) ⟨Or.inl ⟨by rfl, ?_⟩, fun _ => rfl⟩ ?_
     rotate_left
     · intro w; delta Z33; go_simp; try with_reducible rfl
     try simp only [Z33, ksz]
     refine wpAnyIn_take (i := 11) (oi := Z34) (v := ?_) rfl rfl (by kernel_rfl) (by kernel_rfl) (by kernel_rfl) (fun _ _ _ h => h) ⟨Or.inl ⟨by rfl, ?_⟩, fun _ => rfl⟩ ?_
     rotate_left
     · intro w; delta Z34; go_simp; try with_reducible rfl
     try simp only [Z34, ksz]
     refine wpAnyIn_done (by kernel_rfl) ?_ _
     have HIN2 := Lib.hid (HIN.out.keep ((HB2.out.mono HIN.out.le).trans hkp))
     have hJ2 := Lib.hid hJ1
     clear hJ1 hkp
     obtain ⟨z0, z1, -, -⟩ := span_parts HIN2.out.at_.k11
     rw [HDX.out] at z0
     rw [HDY.out] at z1
     gi_wp2
     go_roundw
     case rel => exact ⟨k + 1, X + DX, Y + DY, rfl, rfl, HCS.out.1, HCS.out.2, hkL, by rw [HT.out]; exact hJ2.out, HIN2⟩
     case measure => simp only [intOf]; (repeat' split) <;> omega
    refine AllReadyIn.cons (o := Z2u) rfl (fun K hK => ?_) ?_
    ·
     delta Z2u
     go_simp
     refine hK _ _ ?_
     clear hK K
     try simp only [Z2u, ksz]
     refine wpAnyIn_ready (rs := [0, 3]) (by kernel_rfl) (by simp) ?_
     refine AllReadyIn.cons (o := Z2t) rfl (fun K hK => ?_) ?_
     ·
      delta Z2t
      go_simp
      refine hK _ _ ?_
      clear hK K
      try simp only [Z2t, ksz]
      refine wpAnyIn_ready (rs := [3]) (by kernel_rfl) (by simp) ?_
      refine AllReadyIn.cons (o := Z2w) rfl (fun K hK => ?_) AllReadyIn.nil
      delta Z2w
      go_simp
      refine ⟨trivial, ?_⟩; refine (callsIn_wide.2 (depth_any g A c lo hi C _ (HSP.out _ HBD.out) hCl HE.out HSE.out)).mono ?_; rintro e U1 ⟨rfl, hb⟩; rw [HDP.out.1, HDP.out.2]; have HB1 := Lib.hid (HBD.out.trans (hb.mono HBD.out.size)); clear hb
      refine hK _ _ ?_
      clear hK K
      try simp only [Z2w, ksz]
      refine wpAnyIn_ready (rs := [4]) (by kernel_rfl) (by simp) ?_
      refine AllReadyIn.cons (o := Z2x) rfl (fun K hK => ?_) AllReadyIn.nil
      delta Z2x
      go_simp
      refine ⟨trivial, ?_⟩; refine (callsIn_wide.2 (sureC_any D1 D2 _)).mono ?_; rintro e U2 ⟨rfl, hb⟩; rw [HP.out]; have HB2 := Lib.hid (HB1.out.trans (hb.mono HB1.out.size)); clear hb
      refine hK _ _ ?_
      clear hK K
      try simp only [Z2x, ksz]
      refine wpAnyIn_take (i := 5) (oi := Z2y) (v := ?_) rfl rfl (by kernel_rfl) (by kernel_rfl) (by kernel_rfl) (fun _ _ _ h => h) ⟨Or.inl ⟨by rfl, ?_⟩, fun _ => rfl⟩ ?_
      rotate_left
      · intro w; delta Z2y; go_simp; try with_reducible rfl
      try simp only [Z2y, ksz]
      refine wpAnyIn_ready (rs := [6]) (by kernel_rfl) (by simp) ?_
      refine AllReadyIn.cons (o := Z2z) rfl (fun K hK => ?_) AllReadyIn.nil
      delta Z2z
      go_simp
      refine hK _ _ ?_
      clear hK K
      try simp only [Z2z, ksz]
      refine wpAnyIn_take (i := 7) (oi := Z30) (v := ?_) rfl rfl (by kernel_rfl) (by kernel_rfl) (by kernel_rfl) (fun _ _ _ h => h) ⟨Or.inl ⟨by rfl, ?_⟩, fun _ => rfl⟩ ?_
      rotate_left
      · intro w; delta Z30; go_simp; try with_reducible rfl
      try simp only [Z30, ksz]
      refine wpAnyIn_take (i := 8) (oi := Z31) (v := ?_) rfl rfl (by kernel_rfl) (by kernel_rfl) (by kernel_rfl) (fun _ _ _ h => h) ⟨Or.inl ⟨by rfl, ?_⟩, fun _ => rfl⟩ ?_
      rotate_left
      · intro w; delta Z31; go_simp; try with_reducible rfl
      try simp only [Z31, ksz]
      obtain ⟨fn0, tmps0, as0, body0, hy, hR⟩ := HY.out (L.take k) L[k] _ (HJB.out _ HB2.out) hL2
      rw [HX.out] at hy
      have HR := Lib.hid hR
      clear hR
      refine wpAnyIn_ready (rs := [9]) (by kernel_rfl) (by simp) ?_
      refine AllReadyIn.cons (o := Z32) rfl (fun K hK => ?_) AllReadyIn.nil
      delta Z32
      go_simp
      refine HR.out.mono ?_
      clear hy HR
      rintro e W1 (⟨rfl, hJ1, hkp⟩ | ⟨rfl, hJx⟩)
      rotate_left
      ·
       refine hK _ _ ?_
       clear hK K
       try simp only [Z32, ksz]
       refine wpAnyIn_take (i := 10) (oi := Z33) (v := ?_) rfl rfl (by kernel_rfl) (by kernel_rfl) (by kernel_rfl) (fun _ _ _ h => h) ⟨Or.inl ⟨by rfl, ?_⟩, fun _ => rfl⟩ ?_
       rotate_left
       · intro w; delta Z33; go_simp; try with_reducible rfl
       try simp only [Z33, ksz]
       refine wpAnyIn_take (i := 11) (oi := Z34) (v := ?_) rfl rfl (by kernel_rfl) (by kernel_rfl) (by kernel_rfl) (fun _ _ _ h => h) ⟨Or.inl ⟨by rfl, ?_⟩, fun _ => rfl⟩ ?_
       rotate_left
       · intro w; delta Z34; go_simp; try with_reducible rfl
       try simp only [Z34, ksz]
       refine wpAnyIn_done (by kernel_rfl) ?_ _
       gi_wp2
       refine bodyPost_ret (results_none rfl _ _ _) rfl ?_
       refine ⟨⟨_, rfl⟩, .inr ⟨_, ?_, hJx⟩⟩
       rw [← HT.out]
       exact List.take_prefix _ _
      refine hK _ _ ?_
      clear hK K
      try simp only [Z32, ksz]
      refine wpAnyIn_take (i := 10) (oi := Z33) (v := ?_) rfl rfl (by kernel_rfl) (by kernel_rfl) (by kernel_rfl) (fun _ _ _ h => h) ⟨Or.inl ⟨by rfl, ?_⟩, fun _ => rfl⟩ ?_
      rotate_left
      · intro w; delta Z33; go_simp; try with_reducible rfl
      try simp only [Z33, ksz]
      refine wpAnyIn_take (i := 11) (oi := Z34) (v := ?_) rfl rfl (by kernel_rfl) (by kernel_rfl) (by kernel_rfl) (fun _ _ _ h => h) ⟨Or.inl ⟨by rfl, ?_⟩, fun _ => rfl⟩ ?_
      rotate_left
      · intro w; delta Z34; go_simp; try with_reducible rfl
      try simp only [Z34, ksz]
      refine wpAnyIn_done (by kernel_rfl) ?_ _
      have HIN2 := Lib.hid (HIN.out.keep ((HB2.out.mono HIN.out.le).trans hkp))
      have hJ2 := Lib.hid hJ1
      clear hJ1 hkp
      obtain ⟨z0, z1, -, -⟩ := span_parts HIN2.out.at_.k11
      rw [HDX.out] at z0
      rw [HDY.out] at z1
      gi_wp2
      go_roundw
      case rel => exact ⟨k + 1, X + DX, Y + DY, rfl, rfl, HCS.out.1, HCS.out.2, hkL, by rw [HT.out]; exact hJ2.out, HIN2⟩
      case measure => simp only [intOf]; (repeat' split) <;> omega
     refine AllReadyIn.cons (o := Z2w) rfl (fun K hK => ?_) ?_
     ·
      delta Z2w
      go_simp
      refine ⟨trivial, ?_⟩; refine (callsIn_wide.2 (depth_any g A c lo hi C _ (HSP.out _ HBD.out) hCl HE.out HSE.out)).mono ?_; rintro e U1 ⟨rfl, hb⟩; rw [HDP.out.1, HDP.out.2]; have HB1 := Lib.hid (HBD.out.trans (hb.mono HBD.out.size)); clear hb
      have kB7 := (HCELL.out _ HB1.out).2
      refine hK _ _ ?_
      clear hK K
      try simp only [Z2w, ksz]
      refine wpAnyIn_ready (rs := [0]) (by kernel_rfl) (by simp) ?_
      refine AllReadyIn.cons (o := Z2t) rfl (fun K hK => ?_) AllReadyIn.nil
      delta Z2t
      go_simp
      refine hK _ _ ?_
      clear hK K
      try simp only [Z2t, ksz]
      refine wpAnyIn_ready (rs := [4]) (by kernel_rfl) (by simp) ?_
      refine AllReadyIn.cons (o := Z2x) rfl (fun K hK => ?_) AllReadyIn.nil
      delta Z2x
      go_simp
      refine ⟨trivial, ?_⟩; refine (callsIn_wide.2 (sureC_any D1 D2 _)).mono ?_; rintro e U2 ⟨rfl, hb⟩; rw [HP.out]; have HB2 := Lib.hid (HB1.out.trans (hb.mono HB1.out.size)); clear hb
      refine hK _ _ ?_
      clear hK K
      try simp only [Z2x, ksz]
      refine wpAnyIn_take (i := 5) (oi := Z2y) (v := ?_) rfl rfl (by kernel_rfl) (by kernel_rfl) (by kernel_rfl) (fun _ _ _ h => h) ⟨Or.inl ⟨by rfl, ?_⟩, fun _ => rfl⟩ ?_
      rotate_left
      · intro w; delta Z2y; go_simp; try with_reducible rfl
      try simp only [Z2y, ksz]
      refine wpAnyIn_ready (rs := [6]) (by kernel_rfl) (by simp) ?_
      refine AllReadyIn.cons (o := Z2z) rfl (fun K hK => ?_) AllReadyIn.nil
      delta Z2z
      go_simp
      refine hK _ _ ?_
      clear hK K
      try simp only [Z2z, ksz]
      refine wpAnyIn_take (i := 7) (oi := Z30) (v := ?_) rfl rfl (by kernel_rfl) (by kernel_rfl) (by kernel_rfl) (fun _ _ _ h => h) ⟨Or.inl ⟨by rfl, ?_⟩, fun _ => rfl⟩ ?_
      rotate_left
      · intro w; delta Z30; go_simp; try with_reducible rfl
      try simp only [Z30, ksz]
      refine wpAnyIn_take (i := 8) (oi := Z31) (v := ?_) rfl rfl (by kernel_rfl) (by kernel_rfl) (by kernel_rfl) (fun _ _ _ h => h) ⟨Or.inl ⟨by rfl, ?_⟩, fun _ => rfl⟩ ?_
      rotate_left
      · intro w; delta Z31; go_simp; try with_reducible rfl
      try simp only [Z31, ksz]
      obtain ⟨fn0, tmps0, as0, body0, hy, hR⟩ := HY.out (L.take k) L[k] _ (HJB.out _ HB2.out) hL2
      rw [HX.out] at hy
      have HR := Lib.hid hR
      clear hR
      refine wpAnyIn_ready (rs := [9]) (by kernel_rfl) (by simp) ?_
      refine AllReadyIn.cons (o := Z32) rfl (fun K hK => ?_) AllReadyIn.nil
      delta Z32
      go_simp
      refine HR.out.mono ?_
      clear hy HR
      rintro e W1 (⟨rfl, hJ1, hkp⟩ | ⟨rfl, hJx⟩)
      rotate_left
      ·
       refine hK _ _ ?_
       clear hK K
       try simp only [Z32, ksz]
       refine wpAnyIn_take (i := 10) (oi := Z33) (v := ?_) rfl rfl (by kernel_rfl) (by kernel_rfl) (by kernel_rfl) (fun _ _ _ h => h) ⟨Or.inl ⟨by rfl, ?_⟩, fun _ => rfl⟩ ?_
       rotate_left
       · intro w; delta Z33; go_simp; try with_reducible rfl
       try simp only [Z33, ksz]
       refine wpAnyIn_take (i := 11) (oi := Z34) (v := ?_) rfl rfl (by kernel_rfl) (by kernel_rfl) (by kernel_rfl) (fun _ _ _ h => h) ⟨Or.inl ⟨by rfl, ?_⟩, fun _ => rfl⟩ ?_
       rotate_left
       · intro w; delta Z34; go_simp; try with_reducible rfl
       try simp only [Z34, ksz]
       refine wpAnyIn_done (by kernel_rfl) ?_ _
       gi_wp2
       refine bodyPost_ret (results_none rfl _ _ _) rfl ?_
       refine ⟨⟨_, rfl⟩, .inr ⟨_, ?_, hJx⟩⟩
       rw [← HT.out]
       exact List.take_prefix _ _
      refine hK _ _ ?_
      clear hK K
      try simp only [Z32, ksz]
      refine wpAnyIn_take (i := 10) (oi := Z33) (v := ?_) rfl rfl (by kernel_rfl) (by kernel_rfl) (by kernel_rfl) (fun _ _ _ h => h) ⟨Or.inl ⟨by rfl, ?_⟩, fun _ => rfl⟩ ?_
      rotate_left
      · intro w; delta Z33; go_simp; try with_reducible rfl
      try simp only [Z33, ksz]
      refine wpAnyIn_take (i := 11) (oi := Z34) (v := ?_) rfl rfl (by kernel_rfl) (by kernel_rfl) (by kernel_rfl) (fun _ _ _ h => h) ⟨Or.inl ⟨by rfl, ?_⟩, fun _ => rfl⟩ ?_
      rotate_left
      · intro w; delta Z34; go_simp; try with_reducible rfl
      try simp only [Z34, ksz]
      refine wpAnyIn_done (by kernel_rfl) ?_ _
      have HIN2 := Lib.hid (HIN.out.keep ((HB2.out.mono HIN.out.le).trans hkp))
      have hJ2 := Lib.hid hJ1
      clear hJ1 hkp
      obtain ⟨z0, z1, -, -⟩ := span_parts HIN2.out.at_.k11
      rw [HDX.out] at z0
      rw [HDY.out] at z1
      gi_wp2
      go_roundw
      case rel => exact ⟨k + 1, X + DX, Y + DY, rfl, rfl, HCS.out.1, HCS.out.2, hkL, by rw [HT.out]; exact hJ2.out, HIN2⟩
      case measure => simp only [intOf]; (repeat' split) <;> omega
     exact AllReadyIn.nil
    exact AllReadyIn.nil
  · have HFIN : Hid (L = L.take k) := by
     have e : k = L.length := by
      rcases Nat.lt_or_ge k L.length with h | h
      · obtain ⟨h2, -, e⟩ := HGT.out k h
        rw [hzk] at e
        exact absurd e hsea
      · omega
     rw [e, List.take_length]
     rfl
    have HP : Hid (decide (1 ≤ D1) = false) := by have h := hsea; unfold sureB at h; rw [hDP] at h; exact (show decide (1 ≤ D1) = false by simpa using h)
    clear hsea hDP hzk hzl
    gi_wp2_with fail
    refine ⟨trivial, (callsIn_wide.2 (win_of A1.out _)).mono ?_⟩
    rintro e V1 ⟨rfl, hw⟩
    obtain rfl := hw
    gi_wp2_with fail
    refine ⟨trivial, (callsIn_wide.2 (win_of A2.out _)).mono ?_⟩
    rintro e V1 ⟨rfl, hw⟩
    obtain rfl := hw
    gi_wp2_with fail
    refine wpIn_region_any (by kernel_rfl) ?_
    show wpAnyIn _ _ _ _ _ _ _ _ _ wr.drew
    obtain ⟨U0, hU0⟩ : ∃ V, wr.drew = V := ⟨_, rfl⟩
    have HBD : Hid (Below wr.heap.size wr U0) := by rw [← hU0]; exact Below.drew (Below.refl _ _)
    rw [hU0]
    clear hU0
    refine wpAnyIn_take (i := 2) (oi := Z2v) (v := ?_) rfl rfl (by kernel_rfl) (by kernel_rfl) (by kernel_rfl) (fun _ _ _ h => h) ⟨Or.inl ⟨by rfl, ?_⟩, fun _ => rfl⟩ ?_
    rotate_left
    · intro w; delta Z2v; go_simp; try with_reducible rfl
    try simp only [Z2v, ksz]
    obtain ⟨⟨kA0, kA1, kA2, kA3, kA4, kA5⟩, kB⟩ := HCELL.out _ HBD.out
    refine wpAnyIn_ready (rs := [0, 1]) (by kernel_rfl) (by simp) ?_
    refine AllReadyIn.cons (o := Z2t) rfl (fun K hK => ?_) ?_
    ·
     delta Z2t
     go_simp
     refine hK _ _ ?_
     clear hK K
     try simp only [Z2t, ksz]
     refine wpAnyIn_ready (rs := [1]) (by kernel_rfl) (by simp) ?_
     refine AllReadyIn.cons (o := Z2u) rfl (fun K hK => ?_) AllReadyIn.nil
     delta Z2u
     go_simp
     refine hK _ _ ?_
     clear hK K
     try simp only [Z2u, ksz]
     refine wpAnyIn_ready (rs := [3]) (by kernel_rfl) (by simp) ?_
     refine AllReadyIn.cons (o := Z2w) rfl (fun K hK => ?_) AllReadyIn.nil
     delta Z2w
     go_simp
     refine ⟨trivial, ?_⟩; refine (callsIn_wide.2 (depth_any g A c lo hi C _ (HSP.out _ HBD.out) hCl HE.out HSE.out)).mono ?_; rintro e U1 ⟨rfl, hb⟩; rw [HDP.out.1, HDP.out.2]; have HB1 := Lib.hid (HBD.out.trans (hb.mono HBD.out.size)); clear hb
     refine hK _ _ ?_
     clear hK K
     try simp only [Z2w, ksz]
     refine wpAnyIn_ready (rs := [4]) (by kernel_rfl) (by simp) ?_
     refine AllReadyIn.cons (o := Z2x) rfl (fun K hK => ?_) AllReadyIn.nil
     delta Z2x
     go_simp
     refine ⟨trivial, ?_⟩; refine (callsIn_wide.2 (sureC_any D1 D2 _)).mono ?_; rintro e U2 ⟨rfl, hb⟩; rw [HP.out]; have HB2 := Lib.hid (HB1.out.trans (hb.mono HB1.out.size)); clear hb
     refine hK _ _ ?_
     clear hK K
     try simp only [Z2x, ksz]
     refine wpAnyIn_take (i := 5) (oi := Z2y) (v := ?_) rfl rfl (by kernel_rfl) (by kernel_rfl) (by kernel_rfl) (fun _ _ _ h => h) ⟨Or.inl ⟨by rfl, ?_⟩, fun _ => rfl⟩ ?_
     rotate_left
     · intro w; delta Z2y; go_simp; try with_reducible rfl
     try simp only [Z2y, ksz]
     refine wpAnyIn_ready (rs := [6]) (by kernel_rfl) (by simp) ?_
     refine AllReadyIn.cons (o := Z2z) rfl (fun K hK => ?_) AllReadyIn.nil
     delta Z2z
     go_simp
     refine hK _ _ ?_
     clear hK K
     try simp only [Z2z, ksz]
     refine wpAnyIn_take (i := 7) (oi := Z30) (v := undef) rfl rfl (by kernel_rfl) (by kernel_rfl) (by kernel_rfl) (fun _ _ _ h => h) ⟨Or.inr ⟨by rfl, rfl⟩, fun _ => rfl⟩ ?_
     try simp only [Z30, ksz]
     refine wpAnyIn_take (i := 8) (oi := Z31) (v := undef) rfl rfl (by kernel_rfl) (by kernel_rfl) (by kernel_rfl) (fun _ _ _ h => h) ⟨Or.inr ⟨by rfl, rfl⟩, fun _ => rfl⟩ ?_
     try simp only [Z31, ksz]
     refine wpAnyIn_take (i := 9) (oi := Z32) (v := undef) rfl rfl (by kernel_rfl) (by kernel_rfl) (by kernel_rfl) (fun _ _ _ h => h) ⟨Or.inr ⟨by rfl, rfl⟩, fun _ => rfl⟩ ?_
     try simp only [Z32, ksz]
     refine wpAnyIn_take (i := 10) (oi := Z33) (v := undef) rfl rfl (by kernel_rfl) (by kernel_rfl) (by kernel_rfl) (fun _ _ _ h => h) ⟨Or.inr ⟨by rfl, rfl⟩, fun _ => rfl⟩ ?_
     try simp only [Z33, ksz]
     refine wpAnyIn_take (i := 11) (oi := Z34) (v := ?_) rfl rfl (by kernel_rfl) (by kernel_rfl) (by kernel_rfl) (fun _ _ _ h => h) ⟨Or.inl ⟨by rfl, ?_⟩, fun _ => rfl⟩ ?_
     rotate_left
     · intro w; delta Z34; go_simp; try with_reducible rfl
     try simp only [Z34, ksz]
     refine wpAnyIn_done (by kernel_rfl) ?_ _
     gi_wp2
     refine bodyPost_ret (results_none rfl _ _ _) rfl ?_
     exact ⟨⟨_, rfl⟩, .inl ⟨_, HFIN.out.symm, HJB.out _ HB2.out⟩⟩
    refine AllReadyIn.cons (o := Z2u) rfl (fun K hK => ?_) ?_
    ·
     delta Z2u
     go_simp
     refine hK _ _ ?_
     clear hK K
     try simp only [Z2u, ksz]
     refine wpAnyIn_ready (rs := [0, 3]) (by kernel_rfl) (by simp) ?_
     refine AllReadyIn.cons (o := Z2t) rfl (fun K hK => ?_) ?_
     ·
      delta Z2t
      go_simp
      refine hK _ _ ?_
      clear hK K
      try simp only [Z2t, ksz]
      refine wpAnyIn_ready (rs := [3]) (by kernel_rfl) (by simp) ?_
      refine AllReadyIn.cons (o := Z2w) rfl (fun K hK => ?_) AllReadyIn.nil
      delta Z2w
      go_simp
      refine ⟨trivial, ?_⟩; refine (callsIn_wide.2 (depth_any g A c lo hi C _ (HSP.out _ HBD.out) hCl HE.out HSE.out)).mono ?_; rintro e U1 ⟨rfl, hb⟩; rw [HDP.out.1, HDP.out.2]; have HB1 := Lib.hid (HBD.out.trans (hb.mono HBD.out.size)); clear hb
      refine hK _ _ ?_
      clear hK K
      try simp only [Z2w, ksz]
      refine wpAnyIn_ready (rs := [4]) (by kernel_rfl) (by simp) ?_
      refine AllReadyIn.cons (o := Z2x) rfl (fun K hK => ?_) AllReadyIn.nil
      delta Z2x
      go_simp
      refine ⟨trivial, ?_⟩; refine (callsIn_wide.2 (sureC_any D1 D2 _)).mono ?_; rintro e U2 ⟨rfl, hb⟩; rw [HP.out]; have HB2 := Lib.hid (HB1.out.trans (hb.mono HB1.out.size)); clear hb
      refine hK _ _ ?_
      clear hK K
      try simp only [Z2x, ksz]
      refine wpAnyIn_take (i := 5) (oi := Z2y) (v := ?_) rfl rfl (by kernel_rfl) (by kernel_rfl) (by kernel_rfl) (fun _ _ _ h => h) ⟨Or.inl ⟨by rfl, ?_⟩, fun _ => rfl⟩ ?_
      rotate_left
      · intro w; delta Z2y; go_simp; try with_reducible rfl
      try simp only [Z2y, ksz]
      refine wpAnyIn_ready (rs := [6]) (by kernel_rfl) (by simp) ?_
      refine AllReadyIn.cons (o := Z2z) rfl (fun K hK => ?_) AllReadyIn.nil
      delta Z2z
      go_simp
      refine hK _ _ ?_
      clear hK K
      try simp only [Z2z, ksz]
      refine wpAnyIn_take (i := 7) (oi := Z30) (v := undef) rfl rfl (by kernel_rfl) (by kernel_rfl) (by kernel_rfl) (fun _ _ _ h => h) ⟨Or.inr ⟨by rfl, rfl⟩, fun _ => rfl⟩ ?_
      try simp only [Z30, ksz]
      refine wpAnyIn_take (i := 8) (oi := Z31) (v := undef) rfl rfl (by kernel_rfl) (by kernel_rfl) (by kernel_rfl) (fun _ _ _ h => h) ⟨Or.inr ⟨by rfl, rfl⟩, fun _ => rfl⟩ ?_
      try simp only [Z31, ksz]
      refine wpAnyIn_take (i := 9) (oi := Z32) (v := undef) rfl rfl (by kernel_rfl) (by kernel_rfl) (by kernel_rfl) (fun _ _ _ h => h) ⟨Or.inr ⟨by rfl, rfl⟩, fun _ => rfl⟩ ?_
      try simp only [Z32, ksz]
      refine wpAnyIn_take (i := 10) (oi := Z33) (v := undef) rfl rfl (by kernel_rfl) (by kernel_rfl) (by kernel_rfl) (fun _ _ _ h => h) ⟨Or.inr ⟨by rfl, rfl⟩, fun _ => rfl⟩ ?_
      try simp only [Z33, ksz]
      refine wpAnyIn_take (i := 11) (oi := Z34) (v := ?_) rfl rfl (by kernel_rfl) (by kernel_rfl) (by kernel_rfl) (fun _ _ _ h => h) ⟨Or.inl ⟨by rfl, ?_⟩, fun _ => rfl⟩ ?_
      rotate_left
      · intro w; delta Z34; go_simp; try with_reducible rfl
      try simp only [Z34, ksz]
      refine wpAnyIn_done (by kernel_rfl) ?_ _
      gi_wp2
      refine bodyPost_ret (results_none rfl _ _ _) rfl ?_
      exact ⟨⟨_, rfl⟩, .inl ⟨_, HFIN.out.symm, HJB.out _ HB2.out⟩⟩
     refine AllReadyIn.cons (o := Z2w) rfl (fun K hK => ?_) ?_
     ·
      delta Z2w
      go_simp
      refine ⟨trivial, ?_⟩; refine (callsIn_wide.2 (depth_any g A c lo hi C _ (HSP.out _ HBD.out) hCl HE.out HSE.out)).mono ?_; rintro e U1 ⟨rfl, hb⟩; rw [HDP.out.1, HDP.out.2]; have HB1 := Lib.hid (HBD.out.trans (hb.mono HBD.out.size)); clear hb
      have kB7 := (HCELL.out _ HB1.out).2
      refine hK _ _ ?_
      clear hK K
      try simp only [Z2w, ksz]
      refine wpAnyIn_ready (rs := [0]) (by kernel_rfl) (by simp) ?_
      refine AllReadyIn.cons (o := Z2t) rfl (fun K hK => ?_) AllReadyIn.nil
      delta Z2t
      go_simp
      refine hK _ _ ?_
      clear hK K
      try simp only [Z2t, ksz]
      refine wpAnyIn_ready (rs := [4]) (by kernel_rfl) (by simp) ?_
      refine AllReadyIn.cons (o := Z2x) rfl (fun K hK => ?_) AllReadyIn.nil
      delta Z2x
      go_simp
      refine ⟨trivial, ?_⟩; refine (callsIn_wide.2 (sureC_any D1 D2 _)).mono ?_; rintro e U2 ⟨rfl, hb⟩; rw [HP.out]; have HB2 := Lib.hid (HB1.out.trans (hb.mono HB1.out.size)); clear hb
      refine hK _ _ ?_
      clear hK K
      try simp only [Z2x, ksz]
      refine wpAnyIn_take (i := 5) (oi := Z2y) (v := ?_) rfl rfl (by kernel_rfl) (by kernel_rfl) (by kernel_rfl) (fun _ _ _ h => h) ⟨Or.inl ⟨by rfl, ?_⟩, fun _ => rfl⟩ ?_
      rotate_left
      · intro w; delta Z2y; go_simp; try with_reducible rfl
      try simp only [Z2y, ksz]
      refine wpAnyIn_ready (rs := [6]) (by kernel_rfl) (by simp) ?_
      refine AllReadyIn.cons (o := Z2z) rfl (fun K hK => ?_) AllReadyIn.nil
      delta Z2z
      go_simp
      refine hK _ _ ?_
      clear hK K
      try simp only [Z2z, ksz]
      refine wpAnyIn_take (i := 7) (oi := Z30) (v := undef) rfl rfl (by kernel_rfl) (by kernel_rfl) (by kernel_rfl) (fun _ _ _ h => h) ⟨Or.inr ⟨by rfl, rfl⟩, fun _ => rfl⟩ ?_
      try simp only [Z30, ksz]
      refine wpAnyIn_take (i := 8) (oi := Z31) (v := undef) rfl rfl (by kernel_rfl) (by kernel_rfl) (by kernel_rfl) (fun _ _ _ h => h) ⟨Or.inr ⟨by rfl, rfl⟩, fun _ => rfl⟩ ?_
      try simp only [Z31, ksz]
      refine wpAnyIn_take (i := 9) (oi := Z32) (v := undef) rfl rfl (by kernel_rfl) (by kernel_rfl) (by kernel_rfl) (fun _ _ _ h => h) ⟨Or.inr ⟨by rfl, rfl⟩, fun _ => rfl⟩ ?_
      try simp only [Z32, ksz]
      refine wpAnyIn_take (i := 10) (oi := Z33) (v := undef) rfl rfl (by kernel_rfl) (by kernel_rfl) (by kernel_rfl) (fun _ _ _ h => h) ⟨Or.inr ⟨by rfl, rfl⟩, fun _ => rfl⟩ ?_
      try simp only [Z33, ksz]
      refine wpAnyIn_take (i := 11) (oi := Z34) (v := ?_) rfl rfl (by kernel_rfl) (by kernel_rfl) (by kernel_rfl) (fun _ _ _ h => h) ⟨Or.inl ⟨by rfl, ?_⟩, fun _ => rfl⟩ ?_
      rotate_left
      · intro w; delta Z34; go_simp; try with_reducible rfl
      try simp only [Z34, ksz]
      refine wpAnyIn_done (by kernel_rfl) ?_ _
      gi_wp2
      refine bodyPost_ret (results_none rfl _ _ _) rfl ?_
      exact ⟨⟨_, rfl⟩, .inl ⟨_, HFIN.out.symm, HJB.out _ HB2.out⟩⟩
     exact AllReadyIn.nil
    exact AllReadyIn.nil
set_option maxRecDepth 100000 in
set_option maxHeartbeats 8000000 in
theorem fetchM_in {α : Type} (num : α → Nat) (L : List α) (n : Nat) (hn : 1 ≤ n) (l n0 : Nat) (g : G) (A : Option Addr) (c : Nat) (lo hi : Int) (cell d : Nat) (b5 b9 b11 b10 b7 b4 : Nat)
 (hE : checkE g = 0) (hse : spOk (-20000) 20000 (lo, hi) = true) (hd : d < 8) (hc : cell < g.ss.length) (hL : L.map (fun x => ((num x : Nat) : Int)) = fetchZ (mayB g (lo, hi)) g (cell : Int) d) (J Jx : List α → World → Prop)
 (hJ : ∀ s W W', J s W → Below W.heap.size W W' → J s W')
 (hY : ∀ pre x W, J pre W → pre.length < L.length → YieldAt Fence.wide (n - 1) Tryd.prog l #[.int .i64 ((num x : Nat) : Int)] W fun e W' => (e = .returned (.bool true) ∧ J (pre ++ [x]) W' ∧ Below n0 W W') ∨ (e = .returned (.bool false) ∧ Jx (pre ++ [x]) W'))
 (W : World) (hI : FetchIn W n0 g A c lo hi cell d 61 b5 b9 b11 b10 b7 b4) (h0 : J [] W) :
 CallsIn Fence.wide n Tryd.prog 106 #[.func (.yield l) #[] #[], .pointer (some ⟨b5, 0, none⟩), .pointer (some ⟨b9, 0, none⟩), .pointer (some ⟨b11, 0, none⟩), .pointer (some ⟨b10, 0, none⟩), .pointer (some ⟨b7, 0, none⟩), .pointer (some ⟨b4, 0, none⟩)] W fun e W' => (∃ v, e = .returned v) ∧
  ((∃ ys, ys = L ∧ J ys W') ∨ (∃ pre, pre <+: L ∧ Jx pre W')) := by
 obtain ⟨hW, hH, hS, hLen, -⟩ := checkE_zero hE
 have hcc : 0 ≤ (cell : Int) ∧ (cell : Int) < g.W * g.H := by omega
 have hlen : L.length = (fetchZ (mayB g (lo, hi)) g (cell : Int) d).length := by rw [← hL, List.length_map]
 have hfl := fetch_len (mayB g (lo, hi)) g (cell : Int) d
 have hgt : ∀ k (h : k < L.length), ∃ h2 : k < (lineZ g.W g.H (cell : Int) d).length, ((num L[k] : Nat) : Int) = (lineZ g.W g.H (cell : Int) d)[k] ∧ mayB g (lo, hi) (lineZ g.W g.H (cell : Int) d)[k] = true := by
  intro k h
  obtain ⟨h2, e1, e2⟩ := takeWhile_get (mayB g (lo, hi)) (lineZ g.W g.H (cell : Int) d) k (by unfold fetchZ at hlen; omega)
  refine ⟨h2, ?_, e2⟩
  rw [← e1]
  have e3 : (L.map (fun x => ((num x : Nat) : Int)))[k]'(by rw [List.length_map]; exact h) = (fetchZ (mayB g (lo, hi)) g (cell : Int) d)[k]'(by omega) := by congr 1
  rw [List.getElem_map] at e3
  exact e3
 have hst : ∀ k, k < (lineZ g.W g.H (cell : Int) d).length → L.length = k → ∀ h : k < (lineZ g.W g.H (cell : Int) d).length, mayB g (lo, hi) (lineZ g.W g.H (cell : Int) d)[k] = false := by
  intro k _ hk h
  cases e : mayB g (lo, hi) (lineZ g.W g.H (cell : Int) d)[k] with
  | false => rfl
  | true =>
   have h1 := takeWhile_more (mayB g (lo, hi)) (lineZ g.W g.H (cell : Int) d) k h (by unfold fetchZ at hlen; omega) e
   unfold fetchZ at hlen
   omega
 have hin := line_in (d := d) hd hW hH hcc
 have hce := fun k hk => line_cell (d := d) hd hW hH hcc (k := k) hk
 have hbd := line_bd (d := d) hd hW hH hcc
 refine callsIn_of_wp Tryd.func106 rfl trivial ?_ rfl
 simp only [Tryd.ntmps106, List.size_toArray, List.length_cons, List.length_nil, Nat.reduceAdd, Nat.reduceSub, Array.replicate_succ, Array.replicate_zero, List.push_toArray, List.append_toArray, List.nil_append, List.cons_append]
 have HY := Lib.hid hY
 have HJ := Lib.hid hJ
 have HE := Lib.hid hE
 have HSE := Lib.hid hse
 have HIN0 := Lib.hid hI
 have HGT := Lib.hid hgt
 have HST := Lib.hid hst
 have HIO := Lib.hid hin
 have HCE := Lib.hid hce
 have HBDD := Lib.hid hbd
 have HJ0 := Lib.hid h0
 have HFL := Lib.hid (Nat.le_trans (Nat.le_of_eq hlen) hfl)
 clear hY hJ hE hse hI hgt hst hin hce hbd h0 hlen hfl hL
 obtain ⟨MX, hMX⟩ : ∃ z, (cell : Int) % g.W = z := ⟨_, rfl⟩
 obtain ⟨MY, hMY⟩ : ∃ z, (cell : Int) / g.W = z := ⟨_, rfl⟩
 have mx1 : 0 ≤ MX ∧ MX < 24 := by rw [← hMX]; exact ⟨Int.emod_nonneg _ (by omega), by have := Int.emod_lt_of_pos (cell : Int) (show 0 < g.W by omega); omega⟩
 have my1 : 0 ≤ MY ∧ MY < 24 := by rw [← hMY]; exact ⟨Int.ediv_nonneg hcc.1 (by omega), by have := Int.ediv_lt_of_lt_mul (show 0 < g.W by omega) (show (cell : Int) < g.H * g.W by rw [Int.mul_comm]; omega); omega⟩
 have tX : (cell : Int).tmod g.W = MX := by rw [Int.tmod_eq_emod_of_nonneg hcc.1, hMX]
 have tY : (cell : Int).tdiv g.W = MY := by rw [Int.tdiv_eq_ediv_of_nonneg hcc.1, hMY]
 have wM : IntKind.i64.wrap MY = MY := IntWalk.i64_in _ (by omega)
 have hg0 : ¬ g.W = 0 := by omega
 have hg1 : ¬ g.W = -1 := by omega
 have hdx : (-1 ≤ dxZ d ∧ dxZ d ≤ 1) ∧ (-1 ≤ dyZ d ∧ dyZ d ≤ 1) := by rcases dir_cases hd with rfl | rfl | rfl | rfl | rfl | rfl | rfl | rfl <;> decide
 have hdd : dxZ d = 1 ∨ dxZ d = -1 ∨ dyZ d = 1 ∨ dyZ d = -1 := by rcases dir_cases hd with rfl | rfl | rfl | rfl | rfl | rfl | rfl | rfl <;> decide
 obtain ⟨DX, hDX⟩ : ∃ z, dxZ d = z := ⟨_, rfl⟩
 obtain ⟨DY, hDY⟩ : ∃ z, dyZ d = z := ⟨_, rfl⟩
 rw [hDX, hDY] at hdx hdd
 have hcol : Hid (∀ k, colZ g.W (cell : Int) d k = MX + DX * (k + 1 : Nat)) := fun k => by unfold colZ; rw [hMX, hDX]
 have hrow : Hid (∀ k, rowZ g.W (cell : Int) d k = MY + DY * (k + 1 : Nat)) := fun k => by unfold rowZ; rw [hMY, hDY]
 have HDX := Lib.hid hDX
 have HDY := Lib.hid hDY
 have HMX := Lib.hid hMX
 have HMY := Lib.hid hMY
 clear hMX hMY hDX hDY
 obtain ⟨z0, z1, -, -⟩ := span_parts HIN0.out.at_.k11
 have y5 := HIN0.out.at_.k5.cell 0
 have y9 := HIN0.out.at_.k9.cell 0
 simp only [List.getElem?_toArray, List.getElem?_cons_zero] at y5 y9
 rw [HDX.out] at z0
 rw [HDY.out] at z1
 gi_wp2_with fail
 have wMX : IntKind.i64.wrap (MX + DX) = MX + DX := IntWalk.i64_in _ (by omega)
 have wMY : IntKind.i64.wrap (MY + DY) = MY + DY := IntWalk.i64_in _ (by omega)
 have k0 : W.drew.cell? ⟨b5, 0, none⟩ = some (.int .i64 (cell : Int)) ∧ W.drew.cell? ⟨b9, 0, none⟩ = some (.int .i64 g.W) ∧ W.drew.cell? ⟨b11, 0, none⟩ = some (.int .i64 DX) ∧ W.drew.cell? ⟨b11, 1, none⟩ = some (.int .i64 DY) := ⟨y5, y9, z0, z1⟩
 refine wpIn_region_calm0 (S := (fun w' => w'.cell? ⟨b5, 0, none⟩ = some (.int .i64 (cell : Int)) ∧ w'.cell? ⟨b9, 0, none⟩ = some (.int .i64 g.W) ∧ w'.cell? ⟨b11, 0, none⟩ = some (.int .i64 DX) ∧ w'.cell? ⟨b11, 1, none⟩ = some (.int .i64 DY))) (ks := []) (by kernel_rfl) ?_ (fun hHeld => ?_)
 · (try dsimp only); (exact k0)
 refine tL 0 Z35 ?_ ?_ ?_
 rotate_left
 · ((intro w hSw; delta Z35; (try dsimp only at hSw); go_simp) <;> with_reducible rfl)
 try simp only [Z35, ksz]
 refine tL 1 Z36 ?_ ?_ ?_
 rotate_left
 · ((intro w hSw; delta Z36; (try dsimp only at hSw); go_simp) <;> with_reducible rfl)
 try simp only [Z36, ksz]
 refine tL 2 Z37 ?_ ?_ ?_
 rotate_left
 · ((intro w hSw; delta Z37; (try dsimp only at hSw); go_simp) <;> with_reducible rfl)
 try simp only [Z37, ksz]
 refine tL 3 Z38 ?_ ?_ ?_
 rotate_left
 · ((intro w hSw; delta Z38; (try dsimp only at hSw); go_simp) <;> with_reducible rfl)
 try simp only [Z38, ksz]
 refine tL 4 Z39 ?_ ?_ ?_
 rotate_left
 · ((intro w hSw; delta Z39; (try dsimp only at hSw); go_simp) <;> with_reducible rfl)
 try simp only [Z39, ksz]
 refine tL 5 Z3a ?_ ?_ ?_
 rotate_left
 · ((intro w hSw; delta Z3a; (try dsimp only at hSw); go_simp) <;> with_reducible rfl)
 try simp only [Z3a, ksz]
 refine tL 6 Z3b ?_ ?_ ?_
 rotate_left
 · ((intro w hSw; delta Z3b; (try dsimp only at hSw); go_simp) <;> with_reducible rfl)
 try simp only [Z3b, ksz]
 refine tL 7 Z3c ?_ ?_ ?_
 rotate_left
 · ((intro w hSw; delta Z3c; (try dsimp only at hSw); go_simp) <;> with_reducible rfl)
 try simp only [Z3c, ksz]
 refine tL 8 Z3d ?_ ?_ ?_
 rotate_left
 · ((intro w hSw; delta Z3d; (try dsimp only at hSw); go_simp) <;> with_reducible rfl)
 try simp only [Z3d, ksz]
 refine tL 9 Z3e ?_ ?_ ?_
 rotate_left
 · ((intro w hSw; delta Z3e; (try dsimp only at hSw); go_simp) <;> with_reducible rfl)
 try simp only [Z3e, ksz]
 refine tL 10 Z3f ?_ ?_ ?_
 rotate_left
 · ((intro w hSw; delta Z3f; (try dsimp only at hSw); go_simp) <;> with_reducible rfl)
 try simp only [Z3f, ksz]
 refine tL 11 Z3g ?_ ?_ ?_
 rotate_left
 · ((intro w hSw; delta Z3g; (try dsimp only at hSw); go_simp) <;> with_reducible rfl)
 try simp only [Z3g, ksz]
 refine tL 12 Z3h ?_ ?_ ?_
 rotate_left
 · ((intro w hSw; delta Z3h; (try dsimp only at hSw); go_simp) <;> with_reducible rfl)
 try simp only [Z3h, ksz]
 refine tL 13 Z3i ?_ ?_ ?_
 rotate_left
 · ((intro w hSw; delta Z3i; (try dsimp only at hSw); go_simp) <;> with_reducible rfl)
 try simp only [Z3i, ksz]
 refine wpAnyL_done (by kernel_rfl) ?_ _
 refine NormOnly.normal ?_
 clear k0 y5 y9 z0 z1 hHeld
 gi_wp2
 gi_loopw [8, 9] (fun xv yv wr => ∃ (k : Nat) (X Y : Int), xv = .int .i64 X ∧ yv = .int .i64 Y ∧ Hid (colZ g.W (cell : Int) d k = X) ∧ Hid (rowZ g.W (cell : Int) d k = Y) ∧ k ≤ L.length ∧ J (L.take k) wr ∧ Hid (FetchIn wr n0 g A c lo hi cell d 61 b5 b9 b11 b10 b7 b4))
  (fun xv yv _ => (if DX = 1 then 30 - intOf xv else if DX = -1 then intOf xv + 1 else if DY = 1 then 30 - intOf yv else intOf yv + 1).toNat)
 case atStart =>
  exact ⟨0, MX + DX, MY + DY, rfl, rfl, by show colZ _ _ _ _ = _; rw [hcol.out]; simp, by show rowZ _ _ _ _ = _; rw [hrow.out]; simp, Nat.zero_le _, HJ.out _ _ _ HJ0.out (Below.drew (Below.refl _ _)), HIN0.out.keep (Below.drew (Below.refl _ _))⟩
 case round =>
  obtain ⟨k, X, Y, rfl, rfl, hX, hY, hk, hJk, HIN⟩ := hrel
  have HJk := Lib.hid hJk
  have HCS : Hid (colZ g.W (cell : Int) d (k + 1) = X + DX ∧ rowZ g.W (cell : Int) d (k + 1) = Y + DY) := by
   rw [← hX.out, ← hY.out, hcol.out, hcol.out, hrow.out, hrow.out]
   constructor <;> (simp only [Int.natCast_add, Int.natCast_one]; grind)
  have hkz : k ≤ lenZ g.W g.H (cell : Int) d := Nat.le_trans hk HFL.out
  have hio := HIO.out k hkz
  rw [hX.out, hY.out] at hio
  have y9 := HIN.out.at_.k9.cell 0
  have y10 := HIN.out.at_.k10.cell 0
  simp only [List.getElem?_toArray, List.getElem?_cons_zero] at y9 y10
  clear hJk
  by_cases hlt : k < lenZ g.W g.H (cell : Int) d
  rotate_left
  · have HFIN : Hid (L = L.take k) := by
     have e : k = L.length := by have := HFL.out; omega
     rw [e, List.take_length]
     rfl
    have hout : ¬ ((0 ≤ X ∧ X ≤ g.W - 1) ∧ (0 ≤ Y ∧ Y ≤ g.H - 1)) := fun h => hlt (hio.2 h)
    clear hio
    by_cases hx : 0 ≤ X ∧ X ≤ g.W - 1
    · have hy : ¬ (0 ≤ Y ∧ Y ≤ g.H - 1) := fun h => hout ⟨hx, h⟩
      have A1 := Lib.hid (decide_eq_true hx)
      have A2 := Lib.hid (decide_eq_false hy)
      clear hx hy hout
      gi_wp2_with fail
      refine ⟨trivial, (callsIn_wide.2 (win_of A1.out _)).mono ?_⟩
      rintro e V1 ⟨rfl, hw⟩
      obtain rfl := hw
      gi_wp2_with fail
      refine ⟨trivial, (callsIn_wide.2 (win_of A2.out _)).mono ?_⟩
      rintro e V1 ⟨rfl, hw⟩
      obtain rfl := hw
      gi_wp2
      go_end0
      exact ⟨⟨_, rfl⟩, .inl ⟨_, HFIN.out.symm, by first | exact HJk.out | (rw [HFIN.out]; exact HJk.out)⟩⟩
    · have A1 := Lib.hid (decide_eq_false hx)
      clear hx hout
      gi_wp2_with fail
      refine ⟨trivial, (callsIn_wide.2 (win_of A1.out _)).mono ?_⟩
      rintro e V1 ⟨rfl, hw⟩
      obtain rfl := hw
      gi_wp2
      refine ⟨trivial, ?_⟩
      gi_wp2
      go_end0
      exact ⟨⟨_, rfl⟩, .inl ⟨_, HFIN.out.symm, by first | exact HJk.out | (rw [HFIN.out]; exact HJk.out)⟩⟩
  obtain ⟨hx, hy⟩ := hio.1 hlt
  have A1 := Lib.hid (decide_eq_true hx)
  have A2 := Lib.hid (decide_eq_true hy)
  have hce := HCE.out k hlt
  rw [hX.out, hY.out] at hce
  obtain ⟨C, hC⟩ : ∃ C : Nat, Y * g.W + X = (C : Int) := ⟨(Y * g.W + X).toNat, by omega⟩
  have hCl : C < g.ss.length := by omega
  have hYW : 0 ≤ Y * g.W := Int.mul_nonneg hy.1 (by omega)
  have hYW2 : Y * g.W ≤ 24 * 24 := Int.mul_le_mul (by omega) (by omega) (by omega) (by omega)
  have wr0 : IntKind.i64.wrap (Y * g.W) = Y * g.W := IntWalk.i64_in _ (by omega)
  have hzl : k < (lineZ g.W g.H (cell : Int) d).length := by rw [lineZ_length]; exact hlt
  have hzk : (lineZ g.W g.H (cell : Int) d)[k] = (C : Int) := by rw [lineZ_get, hX.out, hY.out, hC]
  obtain ⟨⟨D1, D2⟩, hDP⟩ : ∃ z, dpZ g (lo, hi) (C : Int) = z := ⟨_, rfl⟩
  have HDP : Hid ((dpZ g (lo, hi) (C : Int)).1 = D1 ∧ (dpZ g (lo, hi) (C : Int)).2 = D2) := by rw [hDP]; exact ⟨rfl, rfl⟩
  have HSP : Hid (∀ U, Below wr.heap.size wr U → SpansAt U U.heap.size (.slice A g.ss.length c) g.ss) := fun U hU => (HIN.out.ss.below (hU.mono HIN.out.le)).more (Nat.le_trans HIN.out.le hU.size)
  have HCELL : Hid (∀ U, Below wr.heap.size wr U → (U.cell? ⟨b4, 0, none⟩ = some (.int .i64 g.W) ∧ U.cell? ⟨b4, 1, none⟩ = some (.int .i64 g.H) ∧ U.cell? ⟨b4, 2, none⟩ = some (.int .i64 g.S) ∧ U.cell? ⟨b4, 3, none⟩ = some (.slice A g.ss.length c) ∧ U.cell? ⟨b4, 4, none⟩ = some (.int .i64 lo) ∧ U.cell? ⟨b4, 5, none⟩ = some (.int .i64 hi)) ∧ U.cell? ⟨b7, 0, none⟩ = some (.func (.func 61) #[] #[])) := fun U hU => by
   have k4 := HIN.out.at_.k4.below hU HIN.out.at_.k4.lt
   have k7 := HIN.out.at_.k7.below hU HIN.out.at_.k7.lt
   exact ⟨⟨k4.cell 0, k4.cell 1, k4.cell 2, k4.cell 3, k4.cell 4, k4.cell 5⟩, k7.cell 0⟩
  have HJB : Hid (∀ U, Below wr.heap.size wr U → J (L.take k) U) := fun U hU => HJ.out _ _ _ HJk.out hU
  clear hce hio hlt
  by_cases hsea : mayB g (lo, hi) (C : Int) = true
  · have hkL : k < L.length := by
     rcases Nat.lt_or_ge k L.length with h | h
     · exact h
     · have := HST.out k hzl (by omega) hzl
       rw [hzk, hsea] at this
       cases this
    have HX : Hid (((num L[k] : Nat) : Int) = (C : Int)) := by
     obtain ⟨h2, e, -⟩ := HGT.out k hkL
     rw [e]
     exact hzk
    have HT : Hid (L.take (k + 1) = L.take k ++ [L[k]]) := List.take_succ_eq_append_getElem hkL
    have hL2 : (L.take k).length < L.length := by rw [List.length_take]; omega
    have HP : Hid (decide (1 ≤ D2) = true) := by have h := hsea; unfold mayB at h; rw [hDP] at h; exact h
    clear hsea hDP hzk hzl
    gi_wp2_with fail
    refine ⟨trivial, (callsIn_wide.2 (win_of A1.out _)).mono ?_⟩
    rintro e V1 ⟨rfl, hw⟩
    obtain rfl := hw
    gi_wp2_with fail
    refine ⟨trivial, (callsIn_wide.2 (win_of A2.out _)).mono ?_⟩
    rintro e V1 ⟨rfl, hw⟩
    obtain rfl := hw
    gi_wp2_with fail
    refine wpIn_region_any (by kernel_rfl) ?_
    show wpAnyIn _ _ _ _ _ _ _ _ _ wr.drew
    obtain ⟨U0, hU0⟩ : ∃ V, wr.drew = V := ⟨_, rfl⟩
    have HBD : Hid (Below wr.heap.size wr U0) := by rw [← hU0]; exact Below.drew (Below.refl _ _)
    rw [hU0]
    clear hU0
    refine wpAnyIn_take (i := 2) (oi := Z2v) (v := ?_) rfl rfl (by kernel_rfl) (by kernel_rfl) (by kernel_rfl) (fun _ _ _ h => h) ⟨Or.inl ⟨by rfl, ?_⟩, fun _ => rfl⟩ ?_
    rotate_left
    · intro w; delta Z2v; go_simp; try with_reducible rfl
    try simp only [Z2v, ksz]
    obtain ⟨⟨kA0, kA1, kA2, kA3, kA4, kA5⟩, kB⟩ := HCELL.out _ HBD.out
    refine wpAnyIn_ready (rs := [0, 1]) (by kernel_rfl) (by simp) ?_
    refine AllReadyIn.cons (o := Z2t) rfl (fun K hK => ?_) ?_
    ·
     delta Z2t
     go_simp
     refine hK _ _ ?_
     clear hK K
     try simp only [Z2t, ksz]
     refine wpAnyIn_ready (rs := [1]) (by kernel_rfl) (by simp) ?_
     refine AllReadyIn.cons (o := Z2u) rfl (fun K hK => ?_) AllReadyIn.nil
     delta Z2u
     go_simp
     refine hK _ _ ?_
     clear hK K
     try simp only [Z2u, ksz]
     refine wpAnyIn_ready (rs := [3]) (by kernel_rfl) (by simp) ?_
     refine AllReadyIn.cons (o := Z2w) rfl (fun K hK => ?_) AllReadyIn.nil
     delta Z2w
     go_simp
     refine ⟨trivial, ?_⟩; refine (callsIn_wide.2 (depth_any g A c lo hi C _ (HSP.out _ HBD.out) hCl HE.out HSE.out)).mono ?_; rintro e U1 ⟨rfl, hb⟩; rw [HDP.out.1, HDP.out.2]; have HB1 := Lib.hid (HBD.out.trans (hb.mono HBD.out.size)); clear hb
     refine hK _ _ ?_
     clear hK K
     try simp only [Z2w, ksz]
     refine wpAnyIn_ready (rs := [4]) (by kernel_rfl) (by simp) ?_
     refine AllReadyIn.cons (o := Z2x) rfl (fun K hK => ?_) AllReadyIn.nil
     delta Z2x
     go_simp
     refine ⟨trivial, ?_⟩; refine (callsIn_wide.2 (mayC_any D1 D2 _)).mono ?_; rintro e U2 ⟨rfl, hb⟩; rw [HP.out]; have HB2 := Lib.hid (HB1.out.trans (hb.mono HB1.out.size)); clear hb
     refine hK _ _ ?_
     clear hK K
     try simp only [Z2x, ksz]
     refine wpAnyIn_take (i := 5) (oi := Z2y) (v := ?_) rfl rfl (by kernel_rfl) (by kernel_rfl) (by kernel_rfl) (fun _ _ _ h => h) ⟨Or.inl ⟨by rfl, ?_⟩, fun _ => rfl⟩ ?_
     rotate_left
     · intro w; delta Z2y; go_simp; try with_reducible rfl
     try simp only [Z2y, ksz]
     refine wpAnyIn_ready (rs := [6]) (by kernel_rfl) (by simp) ?_
     refine AllReadyIn.cons (o := Z2z) rfl (fun K hK => ?_) AllReadyIn.nil
     delta Z2z
     go_simp
     refine hK _ _ ?_
     clear hK K
     try simp only [Z2z, ksz]
     refine wpAnyIn_take (i := 7) (oi := Z30) (v := ?_) rfl rfl (by kernel_rfl) (by kernel_rfl) (by kernel_rfl) (fun _ _ _ h => h) ⟨Or.inl ⟨by rfl, ?_⟩, fun _ => rfl⟩ ?_
     rotate_left
     · intro w; delta Z30; go_simp; try with_reducible rfl
     try simp only [Z30, ksz]
     refine wpAnyIn_take (i := 8) (oi := Z31) (v := ?_) rfl rfl (by kernel_rfl) (by kernel_rfl) (by kernel_rfl) (fun _ _ _ h => h) ⟨Or.inl ⟨by rfl, ?_⟩, fun _ => rfl⟩ ?_
     rotate_left
     · intro w; delta Z31; go_simp; try with_reducible rfl
     try simp only [Z31, ksz]
     obtain ⟨fn0, tmps0, as0, body0, hy, hR⟩ := HY.out (L.take k) L[k] _ (HJB.out _ HB2.out) hL2
     rw [HX.out] at hy
     have HR := Lib.hid hR
     clear hR
     refine wpAnyIn_ready (rs := [9]) (by kernel_rfl) (by simp) ?_
     refine AllReadyIn.cons (o := Z32) rfl (fun K hK => ?_) AllReadyIn.nil
     delta Z32
     go_simp
     refine HR.out.mono ?_
     clear hy HR
     rintro e W1 (⟨rfl, hJ1, hkp⟩ | ⟨rfl, hJx⟩)
     rotate_left
     ·
      refine hK _ _ ?_
      clear hK K
      try simp only [Z32, ksz]
      refine wpAnyIn_take (i := 10) (oi := Z33) (v := ?_) rfl rfl (by kernel_rfl) (by kernel_rfl) (by kernel_rfl) (fun _ _ _ h => h) ⟨Or.inl ⟨by rfl, ?_⟩, fun _ => rfl⟩ ?_
      rotate_left
      · intro w; delta Z33; go_simp; try with_reducible rfl
      try simp only [Z33, ksz]
      refine wpAnyIn_take (i := 11) (oi := Z34) (v := ?_) rfl rfl (by kernel_rfl) (by kernel_rfl) (by kernel_rfl) (fun _ _ _ h => h) ⟨Or.inl ⟨by rfl, ?_⟩, fun _ => rfl⟩ ?_
      rotate_left
      · intro w; delta Z34; go_simp; try with_reducible rfl
      try simp only [Z34, ksz]
      refine wpAnyIn_done (by kernel_rfl) ?_ _
      gi_wp2
      refine bodyPost_ret (results_none rfl _ _ _) rfl ?_
      refine ⟨⟨_, rfl⟩, .inr ⟨_, ?_, hJx⟩⟩
      rw [← HT.out]
      exact List.take_prefix _ _
     refine hK _ _ ?_
     clear hK K
     try simp only [Z32, ksz]
     refine wpAnyIn_take (i := 10) (oi := Z33) (v := ?_) rfl rfl (by kernel_rfl) (by kernel_rfl) (by kernel_rfl) (fun _ _ _ h => h) ⟨Or.inl ⟨by rfl, ?_⟩, fun _ => rfl⟩ ?_
     rotate_left
     · intro w; delta Z33; go_simp; try with_reducible rfl
     try simp only [Z33, ksz]
     refine wpAnyIn_take (i := 11) (oi := Z34) (v := ?_) rfl rfl (by kernel_rfl) (by kernel_rfl) (by kernel_rfl) (fun _ _ _ h => h) ⟨Or.inl ⟨by rfl, ?_⟩, fun _ => rfl⟩ ?_
     rotate_left
     · intro w; delta Z34; go_simp; try with_reducible rfl
     try simp only [Z34, ksz]
     refine wpAnyIn_done (by kernel_rfl) ?_ _
     have HIN2 := Lib.hid (HIN.out.keep ((HB2.out.mono HIN.out.le).trans hkp))
     have hJ2 := Lib.hid hJ1
     clear hJ1 hkp
     obtain ⟨z0, z1, -, -⟩ := span_parts HIN2.out.at_.k11
     rw [HDX.out] at z0
     rw [HDY.out] at z1
     gi_wp2
     go_roundw
     case rel => exact ⟨k + 1, X + DX, Y + DY, rfl, rfl, HCS.out.1, HCS.out.2, hkL, by rw [HT.out]; exact hJ2.out, HIN2⟩
     case measure => simp only [intOf]; (repeat' split) <;> omega
    refine AllReadyIn.cons (o := Z2u) rfl (fun K hK => ?_) ?_
    ·
     delta Z2u
     go_simp
     refine hK _ _ ?_
     clear hK K
     try simp only [Z2u, ksz]
     refine wpAnyIn_ready (rs := [0, 3]) (by kernel_rfl) (by simp) ?_
     refine AllReadyIn.cons (o := Z2t) rfl (fun K hK => ?_) ?_
     ·
      delta Z2t
      go_simp
      refine hK _ _ ?_
      clear hK K
      try simp only [Z2t, ksz]
      refine wpAnyIn_ready (rs := [3]) (by kernel_rfl) (by simp) ?_
      refine AllReadyIn.cons (o := Z2w) rfl (fun K hK => ?_) AllReadyIn.nil
      delta Z2w
      go_simp
      refine ⟨trivial, ?_⟩; refine (callsIn_wide.2 (depth_any g A c lo hi C _ (HSP.out _ HBD.out) hCl HE.out HSE.out)).mono ?_; rintro e U1 ⟨rfl, hb⟩; rw [HDP.out.1, HDP.out.2]; have HB1 := Lib.hid (HBD.out.trans (hb.mono HBD.out.size)); clear hb
      refine hK _ _ ?_
      clear hK K
      try simp only [Z2w, ksz]
      refine wpAnyIn_ready (rs := [4]) (by kernel_rfl) (by simp) ?_
      refine AllReadyIn.cons (o := Z2x) rfl (fun K hK => ?_) AllReadyIn.nil
      delta Z2x
      go_simp
      refine ⟨trivial, ?_⟩; refine (callsIn_wide.2 (mayC_any D1 D2 _)).mono ?_; rintro e U2 ⟨rfl, hb⟩; rw [HP.out]; have HB2 := Lib.hid (HB1.out.trans (hb.mono HB1.out.size)); clear hb
      refine hK _ _ ?_
      clear hK K
      try simp only [Z2x, ksz]
      refine wpAnyIn_take (i := 5) (oi := Z2y) (v := ?_) rfl rfl (by kernel_rfl) (by kernel_rfl) (by kernel_rfl) (fun _ _ _ h => h) ⟨Or.inl ⟨by rfl, ?_⟩, fun _ => rfl⟩ ?_
      rotate_left
      · intro w; delta Z2y; go_simp; try with_reducible rfl
      try simp only [Z2y, ksz]
      refine wpAnyIn_ready (rs := [6]) (by kernel_rfl) (by simp) ?_
      refine AllReadyIn.cons (o := Z2z) rfl (fun K hK => ?_) AllReadyIn.nil
      delta Z2z
      go_simp
      refine hK _ _ ?_
      clear hK K
      try simp only [Z2z, ksz]
      refine wpAnyIn_take (i := 7) (oi := Z30) (v := ?_) rfl rfl (by kernel_rfl) (by kernel_rfl) (by kernel_rfl) (fun _ _ _ h => h) ⟨Or.inl ⟨by rfl, ?_⟩, fun _ => rfl⟩ ?_
      rotate_left
      · intro w; delta Z30; go_simp; try with_reducible rfl
      try simp only [Z30, ksz]
      refine wpAnyIn_take (i := 8) (oi := Z31) (v := ?_) rfl rfl (by kernel_rfl) (by kernel_rfl) (by kernel_rfl) (fun _ _ _ h => h) ⟨Or.inl ⟨by rfl, ?_⟩, fun _ => rfl⟩ ?_
      rotate_left
      · intro w; delta Z31; go_simp; try with_reducible rfl
      try simp only [Z31, ksz]
      obtain ⟨fn0, tmps0, as0, body0, hy, hR⟩ := HY.out (L.take k) L[k] _ (HJB.out _ HB2.out) hL2
      rw [HX.out] at hy
      have HR := Lib.hid hR
      clear hR
      refine wpAnyIn_ready (rs := [9]) (by kernel_rfl) (by simp) ?_
      refine AllReadyIn.cons (o := Z32) rfl (fun K hK => ?_) AllReadyIn.nil
      delta Z32
      go_simp
      refine HR.out.mono ?_
      clear hy HR
      rintro e W1 (⟨rfl, hJ1, hkp⟩ | ⟨rfl, hJx⟩)
      rotate_left
      ·
       refine hK _ _ ?_
       clear hK K
       try simp only [Z32, ksz]
       refine wpAnyIn_take (i := 10) (oi := Z33) (v := ?_) rfl rfl (by kernel_rfl) (by kernel_rfl) (by kernel_rfl) (fun _ _ _ h => h) ⟨Or.inl ⟨by rfl, ?_⟩, fun _ => rfl⟩ ?_
       rotate_left
       · intro w; delta Z33; go_simp; try with_reducible rfl
       try simp only [Z33, ksz]
       refine wpAnyIn_take (i := 11) (oi := Z34) (v := ?_) rfl rfl (by kernel_rfl) (by kernel_rfl) (by kernel_rfl) (fun _ _ _ h => h) ⟨Or.inl ⟨by rfl, ?_⟩, fun _ => rfl⟩ ?_
       rotate_left
       · intro w; delta Z34; go_simp; try with_reducible rfl
       try simp only [Z34, ksz]
       refine wpAnyIn_done (by kernel_rfl) ?_ _
       gi_wp2
       refine bodyPost_ret (results_none rfl _ _ _) rfl ?_
       refine ⟨⟨_, rfl⟩, .inr ⟨_, ?_, hJx⟩⟩
       rw [← HT.out]
       exact List.take_prefix _ _
      refine hK _ _ ?_
      clear hK K
      try simp only [Z32, ksz]
      refine wpAnyIn_take (i := 10) (oi := Z33) (v := ?_) rfl rfl (by kernel_rfl) (by kernel_rfl) (by kernel_rfl) (fun _ _ _ h => h) ⟨Or.inl ⟨by rfl, ?_⟩, fun _ => rfl⟩ ?_
      rotate_left
      · intro w; delta Z33; go_simp; try with_reducible rfl
      try simp only [Z33, ksz]
      refine wpAnyIn_take (i := 11) (oi := Z34) (v := ?_) rfl rfl (by kernel_rfl) (by kernel_rfl) (by kernel_rfl) (fun _ _ _ h => h) ⟨Or.inl ⟨by rfl, ?_⟩, fun _ => rfl⟩ ?_
      rotate_left
      · intro w; delta Z34; go_simp; try with_reducible rfl
      try simp only [Z34, ksz]
      refine wpAnyIn_done (by kernel_rfl) ?_ _
      have HIN2 := Lib.hid (HIN.out.keep ((HB2.out.mono HIN.out.le).trans hkp))
      have hJ2 := Lib.hid hJ1
      clear hJ1 hkp
      obtain ⟨z0, z1, -, -⟩ := span_parts HIN2.out.at_.k11
      rw [HDX.out] at z0
      rw [HDY.out] at z1
      gi_wp2
      go_roundw
      case rel => exact ⟨k + 1, X + DX, Y + DY, rfl, rfl, HCS.out.1, HCS.out.2, hkL, by rw [HT.out]; exact hJ2.out, HIN2⟩
      case measure => simp only [intOf]; (repeat' split) <;> omega
     refine AllReadyIn.cons (o := Z2w) rfl (fun K hK => ?_) ?_
     ·
      delta Z2w
      go_simp
      refine ⟨trivial, ?_⟩; refine (callsIn_wide.2 (depth_any g A c lo hi C _ (HSP.out _ HBD.out) hCl HE.out HSE.out)).mono ?_; rintro e U1 ⟨rfl, hb⟩; rw [HDP.out.1, HDP.out.2]; have HB1 := Lib.hid (HBD.out.trans (hb.mono HBD.out.size)); clear hb
      have kB7 := (HCELL.out _ HB1.out).2
      refine hK _ _ ?_
      clear hK K
      try simp only [Z2w, ksz]
      refine wpAnyIn_ready (rs := [0]) (by kernel_rfl) (by simp) ?_
      refine AllReadyIn.cons (o := Z2t) rfl (fun K hK => ?_) AllReadyIn.nil
      delta Z2t
      go_simp
      refine hK _ _ ?_
      clear hK K
      try simp only [Z2t, ksz]
      refine wpAnyIn_ready (rs := [4]) (by kernel_rfl) (by simp) ?_
      refine AllReadyIn.cons (o := Z2x) rfl (fun K hK => ?_) AllReadyIn.nil
      delta Z2x
      go_simp
      refine ⟨trivial, ?_⟩; refine (callsIn_wide.2 (mayC_any D1 D2 _)).mono ?_; rintro e U2 ⟨rfl, hb⟩; rw [HP.out]; have HB2 := Lib.hid (HB1.out.trans (hb.mono HB1.out.size)); clear hb
      refine hK _ _ ?_
      clear hK K
      try simp only [Z2x, ksz]
      refine wpAnyIn_take (i := 5) (oi := Z2y) (v := ?_) rfl rfl (by kernel_rfl) (by kernel_rfl) (by kernel_rfl) (fun _ _ _ h => h) ⟨Or.inl ⟨by rfl, ?_⟩, fun _ => rfl⟩ ?_
      rotate_left
      · intro w; delta Z2y; go_simp; try with_reducible rfl
      try simp only [Z2y, ksz]
      refine wpAnyIn_ready (rs := [6]) (by kernel_rfl) (by simp) ?_
      refine AllReadyIn.cons (o := Z2z) rfl (fun K hK => ?_) AllReadyIn.nil
      delta Z2z
      go_simp
      refine hK _ _ ?_
      clear hK K
      try simp only [Z2z, ksz]
      refine wpAnyIn_take (i := 7) (oi := Z30) (v := ?_) rfl rfl (by kernel_rfl) (by kernel_rfl) (by kernel_rfl) (fun _ _ _ h => h) ⟨Or.inl ⟨by rfl, ?_⟩, fun _ => rfl⟩ ?_
      rotate_left
      · intro w; delta Z30; go_simp; try with_reducible rfl
      try simp only [Z30, ksz]
      refine wpAnyIn_take (i := 8) (oi := Z31) (v := ?_) rfl rfl (by kernel_rfl) (by kernel_rfl) (by kernel_rfl) (fun _ _ _ h => h) ⟨Or.inl ⟨by rfl, ?_⟩, fun _ => rfl⟩ ?_
      rotate_left
      · intro w; delta Z31; go_simp; try with_reducible rfl
      try simp only [Z31, ksz]
      obtain ⟨fn0, tmps0, as0, body0, hy, hR⟩ := HY.out (L.take k) L[k] _ (HJB.out _ HB2.out) hL2
      rw [HX.out] at hy
      have HR := Lib.hid hR
      clear hR
      refine wpAnyIn_ready (rs := [9]) (by kernel_rfl) (by simp) ?_
      refine AllReadyIn.cons (o := Z32) rfl (fun K hK => ?_) AllReadyIn.nil
      delta Z32
      go_simp
      refine HR.out.mono ?_
      clear hy HR
      rintro e W1 (⟨rfl, hJ1, hkp⟩ | ⟨rfl, hJx⟩)
      rotate_left
      ·
       refine hK _ _ ?_
       clear hK K
       try simp only [Z32, ksz]
       refine wpAnyIn_take (i := 10) (oi := Z33) (v := ?_) rfl rfl (by kernel_rfl) (by kernel_rfl) (by kernel_rfl) (fun _ _ _ h => h) ⟨Or.inl ⟨by rfl, ?_⟩, fun _ => rfl⟩ ?_
       rotate_left
       · intro w; delta Z33; go_simp; try with_reducible rfl
       try simp only [Z33, ksz]
       refine wpAnyIn_take (i := 11) (oi := Z34) (v := ?_) rfl rfl (by kernel_rfl) (by kernel_rfl) (by kernel_rfl) (fun _ _ _ h => h) ⟨Or.inl ⟨by rfl, ?_⟩, fun _ => rfl⟩ ?_
       rotate_left
       · intro w; delta Z34; go_simp; try with_reducible rfl
       try simp only [Z34, ksz]
       refine wpAnyIn_done (by kernel_rfl) ?_ _
       gi_wp2
       refine bodyPost_ret (results_none rfl _ _ _) rfl ?_
       refine ⟨⟨_, rfl⟩, .inr ⟨_, ?_, hJx⟩⟩
       rw [← HT.out]
       exact List.take_prefix _ _
      refine hK _ _ ?_
      clear hK K
      try simp only [Z32, ksz]
      refine wpAnyIn_take (i := 10) (oi := Z33) (v := ?_) rfl rfl (by kernel_rfl) (by kernel_rfl) (by kernel_rfl) (fun _ _ _ h => h) ⟨Or.inl ⟨by rfl, ?_⟩, fun _ => rfl⟩ ?_
      rotate_left
      · intro w; delta Z33; go_simp; try with_reducible rfl
      try simp only [Z33, ksz]
      refine wpAnyIn_take (i := 11) (oi := Z34) (v := ?_) rfl rfl (by kernel_rfl) (by kernel_rfl) (by kernel_rfl) (fun _ _ _ h => h) ⟨Or.inl ⟨by rfl, ?_⟩, fun _ => rfl⟩ ?_
      rotate_left
      · intro w; delta Z34; go_simp; try with_reducible rfl
      try simp only [Z34, ksz]
      refine wpAnyIn_done (by kernel_rfl) ?_ _
      have HIN2 := Lib.hid (HIN.out.keep ((HB2.out.mono HIN.out.le).trans hkp))
      have hJ2 := Lib.hid hJ1
      clear hJ1 hkp
      obtain ⟨z0, z1, -, -⟩ := span_parts HIN2.out.at_.k11
      rw [HDX.out] at z0
      rw [HDY.out] at z1
      gi_wp2
      go_roundw
      case rel => exact ⟨k + 1, X + DX, Y + DY, rfl, rfl, HCS.out.1, HCS.out.2, hkL, by rw [HT.out]; exact hJ2.out, HIN2⟩
      case measure => simp only [intOf]; (repeat' split) <;> omega
     exact AllReadyIn.nil
    exact AllReadyIn.nil
  · have HFIN : Hid (L = L.take k) := by
     have e : k = L.length := by
      rcases Nat.lt_or_ge k L.length with h | h
      · obtain ⟨h2, -, e⟩ := HGT.out k h
        rw [hzk] at e
        exact absurd e hsea
      · omega
     rw [e, List.take_length]
     rfl
    have HP : Hid (decide (1 ≤ D2) = false) := by have h := hsea; unfold mayB at h; rw [hDP] at h; exact (show decide (1 ≤ D2) = false by simpa using h)
    clear hsea hDP hzk hzl
    gi_wp2_with fail
    refine ⟨trivial, (callsIn_wide.2 (win_of A1.out _)).mono ?_⟩
    rintro e V1 ⟨rfl, hw⟩
    obtain rfl := hw
    gi_wp2_with fail
    refine ⟨trivial, (callsIn_wide.2 (win_of A2.out _)).mono ?_⟩
    rintro e V1 ⟨rfl, hw⟩
    obtain rfl := hw
    gi_wp2_with fail
    refine wpIn_region_any (by kernel_rfl) ?_
    show wpAnyIn _ _ _ _ _ _ _ _ _ wr.drew
    obtain ⟨U0, hU0⟩ : ∃ V, wr.drew = V := ⟨_, rfl⟩
    have HBD : Hid (Below wr.heap.size wr U0) := by rw [← hU0]; exact Below.drew (Below.refl _ _)
    rw [hU0]
    clear hU0
    refine wpAnyIn_take (i := 2) (oi := Z2v) (v := ?_) rfl rfl (by kernel_rfl) (by kernel_rfl) (by kernel_rfl) (fun _ _ _ h => h) ⟨Or.inl ⟨by rfl, ?_⟩, fun _ => rfl⟩ ?_
    rotate_left
    · intro w; delta Z2v; go_simp; try with_reducible rfl
    try simp only [Z2v, ksz]
    obtain ⟨⟨kA0, kA1, kA2, kA3, kA4, kA5⟩, kB⟩ := HCELL.out _ HBD.out
    refine wpAnyIn_ready (rs := [0, 1]) (by kernel_rfl) (by simp) ?_
    refine AllReadyIn.cons (o := Z2t) rfl (fun K hK => ?_) ?_
    ·
     delta Z2t
     go_simp
     refine hK _ _ ?_
     clear hK K
     try simp only [Z2t, ksz]
     refine wpAnyIn_ready (rs := [1]) (by kernel_rfl) (by simp) ?_
     refine AllReadyIn.cons (o := Z2u) rfl (fun K hK => ?_) AllReadyIn.nil
     delta Z2u
     go_simp
     refine hK _ _ ?_
     clear hK K
     try simp only [Z2u, ksz]
     refine wpAnyIn_ready (rs := [3]) (by kernel_rfl) (by simp) ?_
     refine AllReadyIn.cons (o := Z2w) rfl (fun K hK => ?_) AllReadyIn.nil
     delta Z2w
     go_simp
     refine ⟨trivial, ?_⟩; refine (callsIn_wide.2 (depth_any g A c lo hi C _ (HSP.out _ HBD.out) hCl HE.out HSE.out)).mono ?_; rintro e U1 ⟨rfl, hb⟩; rw [HDP.out.1, HDP.out.2]; have HB1 := Lib.hid (HBD.out.trans (hb.mono HBD.out.size)); clear hb
     refine hK _ _ ?_
     clear hK K
     try simp only [Z2w, ksz]
     refine wpAnyIn_ready (rs := [4]) (by kernel_rfl) (by simp) ?_
     refine AllReadyIn.cons (o := Z2x) rfl (fun K hK => ?_) AllReadyIn.nil
     delta Z2x
     go_simp
     refine ⟨trivial, ?_⟩; refine (callsIn_wide.2 (mayC_any D1 D2 _)).mono ?_; rintro e U2 ⟨rfl, hb⟩; rw [HP.out]; have HB2 := Lib.hid (HB1.out.trans (hb.mono HB1.out.size)); clear hb
     refine hK _ _ ?_
     clear hK K
     try simp only [Z2x, ksz]
     refine wpAnyIn_take (i := 5) (oi := Z2y) (v := ?_) rfl rfl (by kernel_rfl) (by kernel_rfl) (by kernel_rfl) (fun _ _ _ h => h) ⟨Or.inl ⟨by rfl, ?_⟩, fun _ => rfl⟩ ?_
     rotate_left
     · intro w; delta Z2y; go_simp; try with_reducible rfl
     try simp only [Z2y, ksz]
     refine wpAnyIn_ready (rs := [6]) (by kernel_rfl) (by simp) ?_
     refine AllReadyIn.cons (o := Z2z) rfl (fun K hK => ?_) AllReadyIn.nil
     delta Z2z
     go_simp
     refine hK _ _ ?_
     clear hK K
     try simp only [Z2z, ksz]
     refine wpAnyIn_take (i := 7) (oi := Z30) (v := undef) rfl rfl (by kernel_rfl) (by kernel_rfl) (by kernel_rfl) (fun _ _ _ h => h) ⟨Or.inr ⟨by rfl, rfl⟩, fun _ => rfl⟩ ?_
     try simp only [Z30, ksz]
     refine wpAnyIn_take (i := 8) (oi := Z31) (v := undef) rfl rfl (by kernel_rfl) (by kernel_rfl) (by kernel_rfl) (fun _ _ _ h => h) ⟨Or.inr ⟨by rfl, rfl⟩, fun _ => rfl⟩ ?_
     try simp only [Z31, ksz]
     refine wpAnyIn_take (i := 9) (oi := Z32) (v := undef) rfl rfl (by kernel_rfl) (by kernel_rfl) (by kernel_rfl) (fun _ _ _ h => h) ⟨Or.inr ⟨by rfl, rfl⟩, fun _ => rfl⟩ ?_
     try simp only [Z32, ksz]
     refine wpAnyIn_take (i := 10) (oi := Z33) (v := undef) rfl rfl (by kernel_rfl) (by kernel_rfl) (by kernel_rfl) (fun _ _ _ h => h) ⟨Or.inr ⟨by rfl, rfl⟩, fun _ => rfl⟩ ?_
     try simp only [Z33, ksz]
     refine wpAnyIn_take (i := 11) (oi := Z34) (v := ?_) rfl rfl (by kernel_rfl) (by kernel_rfl) (by kernel_rfl) (fun _ _ _ h => h) ⟨Or.inl ⟨by rfl, ?_⟩, fun _ => rfl⟩ ?_
     rotate_left
     · intro w; delta Z34; go_simp; try with_reducible rfl
     try simp only [Z34, ksz]
     refine wpAnyIn_done (by kernel_rfl) ?_ _
     gi_wp2
     refine bodyPost_ret (results_none rfl _ _ _) rfl ?_
     exact ⟨⟨_, rfl⟩, .inl ⟨_, HFIN.out.symm, HJB.out _ HB2.out⟩⟩
    refine AllReadyIn.cons (o := Z2u) rfl (fun K hK => ?_) ?_
    ·
     delta Z2u
     go_simp
     refine hK _ _ ?_
     clear hK K
     try simp only [Z2u, ksz]
     refine wpAnyIn_ready (rs := [0, 3]) (by kernel_rfl) (by simp) ?_
     refine AllReadyIn.cons (o := Z2t) rfl (fun K hK => ?_) ?_
     ·
      delta Z2t
      go_simp
      refine hK _ _ ?_
      clear hK K
      try simp only [Z2t, ksz]
      refine wpAnyIn_ready (rs := [3]) (by kernel_rfl) (by simp) ?_
      refine AllReadyIn.cons (o := Z2w) rfl (fun K hK => ?_) AllReadyIn.nil
      delta Z2w
      go_simp
      refine ⟨trivial, ?_⟩; refine (callsIn_wide.2 (depth_any g A c lo hi C _ (HSP.out _ HBD.out) hCl HE.out HSE.out)).mono ?_; rintro e U1 ⟨rfl, hb⟩; rw [HDP.out.1, HDP.out.2]; have HB1 := Lib.hid (HBD.out.trans (hb.mono HBD.out.size)); clear hb
      refine hK _ _ ?_
      clear hK K
      try simp only [Z2w, ksz]
      refine wpAnyIn_ready (rs := [4]) (by kernel_rfl) (by simp) ?_
      refine AllReadyIn.cons (o := Z2x) rfl (fun K hK => ?_) AllReadyIn.nil
      delta Z2x
      go_simp
      refine ⟨trivial, ?_⟩; refine (callsIn_wide.2 (mayC_any D1 D2 _)).mono ?_; rintro e U2 ⟨rfl, hb⟩; rw [HP.out]; have HB2 := Lib.hid (HB1.out.trans (hb.mono HB1.out.size)); clear hb
      refine hK _ _ ?_
      clear hK K
      try simp only [Z2x, ksz]
      refine wpAnyIn_take (i := 5) (oi := Z2y) (v := ?_) rfl rfl (by kernel_rfl) (by kernel_rfl) (by kernel_rfl) (fun _ _ _ h => h) ⟨Or.inl ⟨by rfl, ?_⟩, fun _ => rfl⟩ ?_
      rotate_left
      · intro w; delta Z2y; go_simp; try with_reducible rfl
      try simp only [Z2y, ksz]
      refine wpAnyIn_ready (rs := [6]) (by kernel_rfl) (by simp) ?_
      refine AllReadyIn.cons (o := Z2z) rfl (fun K hK => ?_) AllReadyIn.nil
      delta Z2z
      go_simp
      refine hK _ _ ?_
      clear hK K
      try simp only [Z2z, ksz]
      refine wpAnyIn_take (i := 7) (oi := Z30) (v := undef) rfl rfl (by kernel_rfl) (by kernel_rfl) (by kernel_rfl) (fun _ _ _ h => h) ⟨Or.inr ⟨by rfl, rfl⟩, fun _ => rfl⟩ ?_
      try simp only [Z30, ksz]
      refine wpAnyIn_take (i := 8) (oi := Z31) (v := undef) rfl rfl (by kernel_rfl) (by kernel_rfl) (by kernel_rfl) (fun _ _ _ h => h) ⟨Or.inr ⟨by rfl, rfl⟩, fun _ => rfl⟩ ?_
      try simp only [Z31, ksz]
      refine wpAnyIn_take (i := 9) (oi := Z32) (v := undef) rfl rfl (by kernel_rfl) (by kernel_rfl) (by kernel_rfl) (fun _ _ _ h => h) ⟨Or.inr ⟨by rfl, rfl⟩, fun _ => rfl⟩ ?_
      try simp only [Z32, ksz]
      refine wpAnyIn_take (i := 10) (oi := Z33) (v := undef) rfl rfl (by kernel_rfl) (by kernel_rfl) (by kernel_rfl) (fun _ _ _ h => h) ⟨Or.inr ⟨by rfl, rfl⟩, fun _ => rfl⟩ ?_
      try simp only [Z33, ksz]
      refine wpAnyIn_take (i := 11) (oi := Z34) (v := ?_) rfl rfl (by kernel_rfl) (by kernel_rfl) (by kernel_rfl) (fun _ _ _ h => h) ⟨Or.inl ⟨by rfl, ?_⟩, fun _ => rfl⟩ ?_
      rotate_left
      · intro w; delta Z34; go_simp; try with_reducible rfl
      try simp only [Z34, ksz]
      refine wpAnyIn_done (by kernel_rfl) ?_ _
      gi_wp2
      refine bodyPost_ret (results_none rfl _ _ _) rfl ?_
      exact ⟨⟨_, rfl⟩, .inl ⟨_, HFIN.out.symm, HJB.out _ HB2.out⟩⟩
     refine AllReadyIn.cons (o := Z2w) rfl (fun K hK => ?_) ?_
     ·
      delta Z2w
      go_simp
      refine ⟨trivial, ?_⟩; refine (callsIn_wide.2 (depth_any g A c lo hi C _ (HSP.out _ HBD.out) hCl HE.out HSE.out)).mono ?_; rintro e U1 ⟨rfl, hb⟩; rw [HDP.out.1, HDP.out.2]; have HB1 := Lib.hid (HBD.out.trans (hb.mono HBD.out.size)); clear hb
      have kB7 := (HCELL.out _ HB1.out).2
      refine hK _ _ ?_
      clear hK K
      try simp only [Z2w, ksz]
      refine wpAnyIn_ready (rs := [0]) (by kernel_rfl) (by simp) ?_
      refine AllReadyIn.cons (o := Z2t) rfl (fun K hK => ?_) AllReadyIn.nil
      delta Z2t
      go_simp
      refine hK _ _ ?_
      clear hK K
      try simp only [Z2t, ksz]
      refine wpAnyIn_ready (rs := [4]) (by kernel_rfl) (by simp) ?_
      refine AllReadyIn.cons (o := Z2x) rfl (fun K hK => ?_) AllReadyIn.nil
      delta Z2x
      go_simp
      refine ⟨trivial, ?_⟩; refine (callsIn_wide.2 (mayC_any D1 D2 _)).mono ?_; rintro e U2 ⟨rfl, hb⟩; rw [HP.out]; have HB2 := Lib.hid (HB1.out.trans (hb.mono HB1.out.size)); clear hb
      refine hK _ _ ?_
      clear hK K
      try simp only [Z2x, ksz]
      refine wpAnyIn_take (i := 5) (oi := Z2y) (v := ?_) rfl rfl (by kernel_rfl) (by kernel_rfl) (by kernel_rfl) (fun _ _ _ h => h) ⟨Or.inl ⟨by rfl, ?_⟩, fun _ => rfl⟩ ?_
      rotate_left
      · intro w; delta Z2y; go_simp; try with_reducible rfl
      try simp only [Z2y, ksz]
      refine wpAnyIn_ready (rs := [6]) (by kernel_rfl) (by simp) ?_
      refine AllReadyIn.cons (o := Z2z) rfl (fun K hK => ?_) AllReadyIn.nil
      delta Z2z
      go_simp
      refine hK _ _ ?_
      clear hK K
      try simp only [Z2z, ksz]
      refine wpAnyIn_take (i := 7) (oi := Z30) (v := undef) rfl rfl (by kernel_rfl) (by kernel_rfl) (by kernel_rfl) (fun _ _ _ h => h) ⟨Or.inr ⟨by rfl, rfl⟩, fun _ => rfl⟩ ?_
      try simp only [Z30, ksz]
      refine wpAnyIn_take (i := 8) (oi := Z31) (v := undef) rfl rfl (by kernel_rfl) (by kernel_rfl) (by kernel_rfl) (fun _ _ _ h => h) ⟨Or.inr ⟨by rfl, rfl⟩, fun _ => rfl⟩ ?_
      try simp only [Z31, ksz]
      refine wpAnyIn_take (i := 9) (oi := Z32) (v := undef) rfl rfl (by kernel_rfl) (by kernel_rfl) (by kernel_rfl) (fun _ _ _ h => h) ⟨Or.inr ⟨by rfl, rfl⟩, fun _ => rfl⟩ ?_
      try simp only [Z32, ksz]
      refine wpAnyIn_take (i := 10) (oi := Z33) (v := undef) rfl rfl (by kernel_rfl) (by kernel_rfl) (by kernel_rfl) (fun _ _ _ h => h) ⟨Or.inr ⟨by rfl, rfl⟩, fun _ => rfl⟩ ?_
      try simp only [Z33, ksz]
      refine wpAnyIn_take (i := 11) (oi := Z34) (v := ?_) rfl rfl (by kernel_rfl) (by kernel_rfl) (by kernel_rfl) (fun _ _ _ h => h) ⟨Or.inl ⟨by rfl, ?_⟩, fun _ => rfl⟩ ?_
      rotate_left
      · intro w; delta Z34; go_simp; try with_reducible rfl
      try simp only [Z34, ksz]
      refine wpAnyIn_done (by kernel_rfl) ?_ _
      gi_wp2
      refine bodyPost_ret (results_none rfl _ _ _) rfl ?_
      exact ⟨⟨_, rfl⟩, .inl ⟨_, HFIN.out.symm, HJB.out _ HB2.out⟩⟩
     exact AllReadyIn.nil
    exact AllReadyIn.nil
end Go.Proofs.YtdhcdgfpkjdihaaDoor.Sg
