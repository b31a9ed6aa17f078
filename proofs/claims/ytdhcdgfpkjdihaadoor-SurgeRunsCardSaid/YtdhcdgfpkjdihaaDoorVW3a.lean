/-
  Layer 3, the rows: the world in which the table of directions is laid; from a row's premises to DirsAt; arguments read as what they are.
-/
import Derived.Test.YtdhcdgfpkjdihaaDoorRows
import Derived.Test.YtdhcdgfpkjdihaaDoorVP3h
import Derived.ProofKit
import Derived.LaidMore
import Derived.OpenShut
import Derived.Stop.Joined
import Derived.Lib.LaidU8
import Derived.Lib.LaidTab
import Derived.Shelf.Vars
import Derived.Handed
import Derived.Carry
import Derived.Deep.SlicePairs
import Derived.Deep.Strs
set_option linter.unusedSimpArgs false
set_option linter.unusedVariables false
namespace Go.Proofs.YtdhcdgfpkjdihaaDoor.Sg
open Go.ChangeShapes Go.WideShapes Go.ChangeAt Go.WideMaps Go.WideElems Go.RowKit Go.Shelf Go.Deep
theorem own_ : ownKnob Tryd.prog.godebug = none := by kernel_rfl
theorem laid_out : laidOutB Tryd.prog = true := by kernel_rfl
abbrev laidL : List (String × DataW Unit) := [("tidewall/surge.directions", Rows.laid_tidewall_surge_directions)]
theorem door_met (os : Os) (args : Array Value) : laidMetH Tryd.prog laidL ((World.doorLaid Tryd.prog 400 os).forCall (fun _ _ => 0) ⟨#[], args, []⟩).memory :=
 laidMetH_of_parts3 (fuel := 8) (laidMet_of_run' 8 (by kernel_rfl) (by kernel_rfl)) (by kernel_rfl) (by kernel_rfl)
theorem door_shaped (os : Os) (args : Array Value) : ((World.doorLaid Tryd.prog 400 os).forCall (fun _ _ => 0) ⟨#[], args, []⟩).Shaped Tryd.prog := World.shaped_of_RefB (by kernel_rfl) (by kernel_rfl)
def dirsL : List (Int × Int) := [(1, 0), (1, 1), (0, 1), (-1, 1), (-1, 0), (-1, -1), (0, -1), (1, -1)]
theorem dirsL_eq : (Rows.laid_tidewall_surge_directions : DataW Unit) = .agg (dirsL.map fun p => .agg [.lit (.int .i64 p.1), .lit (.int .i64 p.2)]) := rfl
theorem dirsL_at {d : Nat} (h : d < 8) : dirsL[d]? = some (dxZ d, dyZ d) := by
 have k : d = 0 ∨ d = 1 ∨ d = 2 ∨ d = 3 ∨ d = 4 ∨ d = 5 ∨ d = 6 ∨ d = 7 := by omega
 rcases k with rfl | rfl | rfl | rfl | rfl | rfl | rfl | rfl <;> rfl
set_option maxRecDepth 100000 in
theorem dirs_of {w : World} (h : laidMetH Tryd.prog laidL w) : DirsAt w := by
 rw [MakeChecks.laidMetH_plain _ _ _ (by kernel_rfl)] at h
 obtain ⟨g', t', cs, fuel, p, hg, hty, hvar, hd⟩ := Lib.laidMet.reads h (n := "tidewall/surge.directions") (d := Rows.laid_tidewall_surge_directions) (by simp)
 obtain rfl := Option.some.inj ((show Tryd.prog.globalNamed "tidewall/surge.directions" = some 0 by kernel_rfl).symm.trans hg)
 obtain rfl := Option.some.inj ((show (Tryd.prog.globals[0]?).map (·.type) = some 152 by kernel_rfl).symm.trans hty)
 have c1 : Tryd.prog.cellsOf 3 = 1 := by kernel_rfl
 have c2 : Tryd.prog.cellsOf 151 = 2 := by kernel_rfl
 have c8 : Tryd.prog.cellsOf 152 = 16 := by kernel_rfl
 have key : ∀ d : Nat, d < 8 → w.cell? ⟨0, d * 2, none⟩ = some (.int .i64 (dxZ d)) ∧ w.cell? ⟨0, d * 2 + 1, none⟩ = some (.int .i64 (dyZ d)) := by
  rw [dirsL_eq] at hd
  cases fuel with
  | zero => simp [DataW.trod] at hd
  | succ fuel =>
   simp only [DataW.trod, Tryd.underlying152, c2, c8] at hd
   split at hd
   · rename_i hl
     obtain ⟨xs, hm, hx⟩ := Option.map_eq_some_iff.1 hd
     have hxs : xs.map (·.1) = dirsL.map fun p => (DataW.agg [.lit (.int .i64 p.1), .lit (.int .i64 p.2)] : DataW Unit) := by
      have := congrArg Prod.fst hx
      simpa using this
     intro d hd8
     obtain ⟨b, hb, hf⟩ := Lib.mapM_at hm d d (by simp [hd8])
     obtain ⟨y0, y1, n, rfl, hl2, h0, h1⟩ := trod_struct2 Tryd.underlying151 hf
     simp only [c1] at h0 h1
     obtain ⟨z0, e0, rfl, _⟩ := DataW.trod_int Tryd.underlying3 h0
     obtain ⟨z1, e1, rfl, _⟩ := DataW.trod_int Tryd.underlying3 h1
     have hz : (xs.map (·.1))[d]? = some (DataW.agg [.lit (.int .i64 z0), .lit (.int .i64 z1)] : DataW Unit) := by simp [hb]
     rw [hxs, List.getElem?_map, dirsL_at hd8] at hz
     simp only [Option.map_some, Option.some.injEq, DataW.agg.injEq, List.cons.injEq, DataW.lit.injEq, Lit.int.injEq, true_and, and_true] at hz
     obtain ⟨hz0, hz1⟩ := hz
     have k0 := congrArg (·[0]?) e0
     have k1 := congrArg (·[0]?) e1
     simp [List.getElem?_take, List.getElem?_drop] at k0 k1
     have m0 := World.var?_cell (show Tryd.prog.globalNamed "tidewall/surge.directions" = some 0 by kernel_rfl) hvar (d * 2)
     have m1 := World.var?_cell (show Tryd.prog.globalNamed "tidewall/surge.directions" = some 0 by kernel_rfl) hvar (d * 2 + 1)
     rw [hz0, hz1]
     exact ⟨by rw [m0]; simpa using k0, by rw [m1]; simpa using k1⟩
   · cases hd
 refine ⟨?_, key⟩
 exact World.block_lt_of_cell? w _ (key 0 (by omega)).1
set_option maxRecDepth 100000 in
theorem ret_shaped {H : Type} {enc : TypeId × Value → H} {os : Os} {f : FuncId} {fn : Func} {s : ChangeSpec} {conds : List PathCond}
 (started : os.Started) (noInit : Tryd.prog.inits.idxOf? f = none) (hfn : Tryd.prog.funcs[f]? = some fn)
 (args0 : Array Value) (hok : Input.okWideB Tryd.prog ((World.doorLaid Tryd.prog 400 os).forCall (fun _ _ => 0) ⟨#[], args0, []⟩) f ⟨#[], args0, []⟩ = true)
 (hpre : s.preB enc Tryd.prog fn conds false ((World.doorLaid Tryd.prog 400 os).forCall (fun _ _ => 0) ⟨#[], args0, []⟩).memory args0 8 = true)
 (hsz : s.sizedB enc Tryd.prog fn false ((World.doorLaid Tryd.prog 400 os).forCall (fun _ _ => 0) ⟨#[], args0, []⟩).memory args0 8 = true)
 (contract : ∀ (W : World) (base : Nat) (args : Array Value) (ds gs : List (DataW H)) (before : List MemPlace),
  (∀ (j : Nat) t v, fn.params[j]? = some t → args[j]? = some v → Value.okWide Tryd.prog W .any base t v) →
  DataW.Whole enc Tryd.prog fn.params.toList s.vars false W args.toList ds gs before → DirsAt W →
  Calls Tryd.prog f args W fun e W' => ∃ v, e = .returned v ∧ s.post enc Tryd.prog fn false true false false W args v W') :
 ReturnsInHanded {} Tryd.checked os f .any (fun w args => (s.pre enc Tryd.prog fn conds false w args ∧ laidMetH Tryd.prog laidL w) ∧ sizedMet enc Tryd.prog fn (OpenSpec.ofChange s) false w args) (s.post enc Tryd.prog fn false true false false) := by
 refine returnsInHanded_of_calls (C := Tryd.checked) own_ started noInit (ChangeSpec.witness_shaped (enc := enc) (C := Tryd.checked) (os := os) (s := s) (conds := conds) (apart := false) (X := fun w _ => laidMetH Tryd.prog laidL w) false (World.doorLaid Tryd.prog 400 os) args0 8 rfl (door_shaped os _) hok hpre hsz (door_met os _)) ?_
 intro w tape i _ hsh _ hok' hpre' hholds
 obtain ⟨_, _, _, fn', hfn', _, _, _, _, hval⟩ := hok'
 have e : fn' = fn := Option.some.inj (hfn'.symm.trans hfn)
 subst e
 obtain ⟨⟨⟨ds, gs, before, hw, hc⟩, hx⟩, hz⟩ := hpre'
 have hw' := DataW.Whole.of_heap (w' := w.forCall tape i) (by rfl) hw
 refine (contract (w.forCall tape i) w.heap.size i.args ds gs before hval hw' (dirs_of (laidMetH.of_heap (by rfl) hx))).mono fun e W' ⟨v, he, hp⟩ => ?_
 subst he
 exact ChangeSpec.post_blind hp
theorem wf_of {k : IntKind} {z : Int} (h : (Lit.int k z).wf = true) : IntKind.min k ≤ z ∧ z ≤ IntKind.max k := by
 have h : (decide (IntKind.min k ≤ z) && decide (z ≤ IntKind.max k)) = true := h
 rw [Bool.and_eq_true] at h
 exact ⟨of_decide_eq_true h.1, of_decide_eq_true h.2⟩
theorem wf_u8 {z : Int} (h : (Lit.int .u8 z).wf = true) : 0 ≤ z ∧ z < 256 := by
 have h1 : (0 : Int) ≤ z ∧ z ≤ 255 := wf_of h
 omega
theorem wf_u32 {z : Int} (h : (Lit.int .u32 z).wf = true) : 0 ≤ z ∧ z < 4294967296 := by
 have h1 : (0 : Int) ≤ z ∧ z ≤ 4294967295 := wf_of h
 omega
set_option maxRecDepth 100000 in
theorem span_open {H : Type} {enc : TypeId × Value → H} {W : World} {base : Nat} {sp : Nat → Bool} {held : Bool} {v : Value} {d : DataW H} {p : List MemPlace} (hval : Value.okWide Tryd.prog W .any base 26 v) (h : DataW.Trod enc Tryd.prog W 0 sp held 26 v d p) :
 ∃ lo hi, v = .agg #[.int .i64 lo, .int .i64 hi] := by
 unfold Value.okWide at hval
 rw [Tryd.underlying26] at hval
 obtain ⟨cs, rfl, hcs, -⟩ := hval
 obtain ⟨fuel, hf⟩ := h
 have c1 : Tryd.prog.cellsOf 3 = 1 := by kernel_rfl
 have c4 : Tryd.prog.cellsOf 26 = 2 := by kernel_rfl
 rw [c4] at hcs
 obtain ⟨l⟩ := cs
 match l, hcs with
 | [x0, x1], _ =>
  obtain ⟨y0, y1, n, _, hl, h0, h1⟩ := trod_struct2 Tryd.underlying26 hf
  simp only [c1] at h0 h1
  obtain ⟨z0, e0, _⟩ := DataW.trod_int Tryd.underlying3 h0
  obtain ⟨z1, e1, _⟩ := DataW.trod_int Tryd.underlying3 h1
  injection e0 with e0
  injection e1 with e1
  subst e0 e1
  exact ⟨z0, z1, rfl⟩
set_option maxRecDepth 100000 in
theorem cut_open {H : Type} {enc : TypeId × Value → H} {W : World} {base : Nat} {sp : Nat → Bool} {held : Bool} {v : Value} {d : DataW H} {p : List MemPlace} (hval : Value.okWide Tryd.prog W .any base 96 v) (h : DataW.Trod enc Tryd.prog W 0 sp held 96 v d p) :
 ∃ lo hi, v = .agg #[.int .u32 lo, .int .u32 hi] ∧ (0 ≤ lo ∧ lo < 4294967296) ∧ (0 ≤ hi ∧ hi < 4294967296) := by
 unfold Value.okWide at hval
 rw [Tryd.underlying96] at hval
 obtain ⟨cs, rfl, hcs, -⟩ := hval
 obtain ⟨fuel, hf⟩ := h
 have c1 : Tryd.prog.cellsOf 94 = 1 := by kernel_rfl
 have c4 : Tryd.prog.cellsOf 96 = 2 := by kernel_rfl
 rw [c4] at hcs
 obtain ⟨l⟩ := cs
 match l, hcs with
 | [x0, x1], _ =>
  obtain ⟨y0, y1, n, _, hl, h0, h1⟩ := trod_struct2 Tryd.underlying96 hf
  simp only [c1] at h0 h1
  obtain ⟨z0, e0, _, w0⟩ := DataW.trod_int Tryd.underlying94 h0
  obtain ⟨z1, e1, _, w1⟩ := DataW.trod_int Tryd.underlying94 h1
  injection e0 with e0
  injection e1 with e1
  subst e0 e1
  exact ⟨z0, z1, rfl, wf_u32 w0, wf_u32 w1⟩
end Go.Proofs.YtdhcdgfpkjdihaaDoor.Sg
