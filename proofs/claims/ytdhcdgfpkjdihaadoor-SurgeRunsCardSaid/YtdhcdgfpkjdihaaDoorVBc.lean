/-
  A region that draws its order, in a round of a range over a function, walked as outside of rounds: it neither defers nor panics nor outgrows.
-/
import Derived.Test.YtdhcdgfpkjdihaaDoorVBb
import Derived.RangeFuncNested
import Derived.RangeFuncBound
import Derived.Shelf.RegionOpen
import Derived.OwnWalkIn
import Derived.TacticsInMore
import Derived.LoopNIn
import Derived.LoopIn
import Derived.Laws.EntriesVeiled
set_option linter.unusedSimpArgs false
set_option linter.unusedVariables false
namespace Go.Proofs.YtdhcdgfpkjdihaaDoor
open Go.RowKit Go.Shelf
theorem uponIn_round' (l : Nat) {F : Fence} {n : Nat} {P : Program} {o : Oper} {a : Act} {next : Act → World → Prop} {Q : Exit → Act → World → Prop} {r : Result Next} (h : o.uponIn F n P a next Q r) : o.uponIn (F.inRound l) n P a next Q r := by
 cases r with
 | ok x w' => cases x <;> exact h
 | halt x w' => cases x <;> exact h
theorem wpAnyIn_round {l n : Nat} {F : Fence} {P : Program} {md : Region.Mode} {ops : Array Oper} {Q : Exit → Act → World → Prop} (hF : F.round = none) (hd : ∀ (i : Nat) (o : Oper), ops[i]? = some o → ∀ c, o.op ≠ .defer c) :
 ∀ (fuel : Nat) (listed : Array Bool) (a : Act) (w : World), wpAnyIn F n P md ops Q fuel listed a w → wpAnyIn (F.inRound l) n P md ops Q fuel listed a w
 | 0, _, _, _, h => h
 | fuel + 1, listed, a, w, h => by
  refine ⟨h.1, fun i hi => ?_⟩
  have h1 := wpOpIn_mono (fun a w => wpAnyIn_round (l := l) hF hd fuel (listed.setIfInBounds i true) a w) (h.2 i hi)
  unfold wpOpIn at h1 ⊢
  split
  · rename_i e; simpa [e] using h1
  · rename_i o ho
    simp only [ho] at h1
    split
    · rename_i hw
      simp only [hw, if_true] at h1
      unfold Oper.wpIn at h1 ⊢
      rw [hF, Oper.semAt_none] at h1
      rw [Fence.inRound_round, Oper.semAt_some l _ _ (hd i o ho)]
      exact ⟨h1.1, uponIn_round' l h1.2⟩
    · rename_i hw
      simp only [hw] at h1
      exact h1
def noDefer (ops : Array Oper) : Bool := ops.all fun o => match o.op with | .defer _ => false | _ => true
theorem noDefer_spec {ops : Array Oper} (h : noDefer ops = true) (i : Nat) (o : Oper) (ho : ops[i]? = some o) (c : Call) : o.op ≠ .defer c := by
 intro e
 have h1 := Array.all_eq_true_iff_forall_mem.1 h o (Array.mem_of_getElem? ho)
 rw [e] at h1
 cases h1
theorem wpIn_region_round {l n : Nat} {P : Program} {id : Nat} {ops : Array Oper} {Q : Exit → Act → World → Prop} {a : Act} {w : World} (hm : P.follows .mixedOrders = true) (hd : noDefer ops = true)
 (h : wpAnyIn Fence.wide n P .any ops Q ops.size (Array.replicate ops.size false) a w.drew) : (Code.region id ops true).wpIn (Fence.wide.inRound l) n P Q a w :=
 wpIn_region_any hm (wpAnyIn_round rfl (noDefer_spec hd) _ _ _ _ h)
/-- a region that ends normally, and in no other way -/
def NormOnly (Q : Exit → Act → World → Prop) : Exit → Act → World → Prop
 | .normal, a, w => Q .normal a w
 | _, _, _ => False
theorem NormOnly.normal {Q : Exit → Act → World → Prop} {a : Act} {w : World} (h : Q .normal a w) : NormOnly Q .normal a w := h
theorem NormOnly.imp {Q : Exit → Act → World → Prop} : ∀ (e : Exit) (a : Act) (w : World), NormOnly Q e a w → Q e a w := fun e a w h => by
 cases e <;> first | exact h | exact (h : False).elim
theorem NormOnly.shut {Q : Exit → Act → World → Prop} : ¬ LetsOut (NormOnly Q) := fun ⟨_, _, h⟩ => h
theorem rowsIn_plain {n : Nat} {P : Program} {row : String} {args : Array Value} {w : World} {R : Value → World → Prop} (h : Rows P row args w R) : RowsIn Fence.wide n P row args w R := fun c cs _ => by
 obtain ⟨v, w', r, s⟩ := h c cs
 exact ⟨v, w', r, stepsIn_wide.2 s⟩
theorem uponIn_plain {n : Nat} {P : Program} {o : Oper} {a : Act} {next : Act → World → Prop} {Q : Exit → Act → World → Prop} {r : Result Next} (h : o.upon P a next Q r) : o.uponIn Fence.wide n P a next Q r := by
 cases r with
 | ok x w' =>
  cases x with
  | enter f args => exact ⟨fun h => by simp [Fence.wide] at h, callsIn_wide.2 h⟩
  | row r args => exact ⟨fun h => by simp [Fence.wide] at h, rowsIn_plain h⟩
  | round l f tmps assign body => exact (h : False).elim
  | _ => exact h
 | halt x w' => cases x <;> exact h
theorem wpAnyIn_plain {n : Nat} {P : Program} {md : Region.Mode} {ops : Array Oper} {Q : Exit → Act → World → Prop} (hQ : ¬ LetsOut Q) :
 ∀ (fuel : Nat) (listed : Array Bool) (a : Act) (w : World), wpAny P md ops Q fuel listed a w → wpAnyIn Fence.wide n P md ops Q fuel listed a w
 | 0, _, _, _, h => h
 | fuel + 1, listed, a, w, h => by
  refine ⟨h.1, fun i hi => ?_⟩
  have h1 := wpOp_mono (fun a w => wpAnyIn_plain (n := n) hQ fuel (listed.setIfInBounds i true) a w) (h.2 i hi)
  unfold wpOp at h1
  unfold wpOpIn
  split
  · rename_i e; simpa [e] using h1
  · rename_i o ho
    simp only [ho] at h1
    split
    · rename_i hw
      simp only [hw, if_true] at h1
      rcases h1 with h1 | h1
      · unfold Oper.wp at h1
        unfold Oper.wpIn
        exact ⟨fun _ _ => trivial, uponIn_plain h1⟩
      · exact absurd h1.2 hQ
    · rename_i hw
      simp only [hw] at h1
      exact ⟨fun _ _ => trivial, h1⟩
theorem wpIn_region_calm {l n : Nat} {P : Program} {id : Nat} {ops : Array Oper} {S : World → Prop} {ks : List Nat} {Q : Exit → Act → World → Prop} {a : Act} {w : World} (hm : P.follows .mixedOrders = true) (hd : noDefer ops = true) (hS : S w.drew)
 (h : S w.drew → wpAnyL P .any ops (NormOnly Q) S ks ops.size (Array.replicate ops.size false) a w.drew) : (Code.region id ops true).wpIn (Fence.wide.inRound l) n P Q a w :=
 Code.wpIn_mono NormOnly.imp (wpIn_region_round hm hd (wpAnyIn_plain NormOnly.shut _ _ _ _ (wpAny_of_L _ _ _ _ (h hS))))
end Go.Proofs.YtdhcdgfpkjdihaaDoor
