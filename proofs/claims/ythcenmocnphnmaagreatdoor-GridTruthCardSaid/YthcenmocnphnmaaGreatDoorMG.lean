/-
  The search for the best values: the body of its inner loop, low.
-/
import Derived.Test.YthcenmocnphnmaaGreatDoorME
import Derived.Laws.EntriesVeiled
import Derived.Deep.RegionHeld3
set_option linter.unusedSimpArgs false
set_option linter.unusedVariables false
namespace Go.Proofs.YthcenmocnphnmaaGreatDoor
open Go.RowKit Go.Shelf
attribute [local go_sem] Oper.semAt_some

/-- what one round leaves -/
def BodyEndlow (B1 bx bg bc bY : Nat) (w W W' : World) (gc : Array Value) (nv : Value) (N : Nat) (nb : Nat → List Nat) (S : List Nat) (fst : Nat → Int) (nx : Int → Nat → Int) (Acc : Int → Prop) (m : Int → Nat) (M K c : Nat) (x0 : Int) (Ds : List Nat) (B0 : Nat) (pre : List Nat) (d : Nat) : Prop :=
  KeepsFrom B1 W W' ∧ NbKp bx bg bc bY W W' ∧ InSt w.heap.size w W' gc nv N ltDown nb S fst nx Acc m M K c x0 Ds B0 B1 (pre ++ [d])

set_option maxRecDepth 100000 in
set_option maxHeartbeats 4000000 in
theorem body_low (g : G) (sts : List Nat) (fst : Nat → Int) (nx : Int → Nat → Int) (Acc : Int → Prop) (m : Int → Nat) (M : Nat) (p1 p3 : Nat) (w : World) (A A' AA : Option Addr) (kc kc' cap j c : Nat) (x0 : Int) (its : List (Int × Int)) (Ds : List Nat) (B0 B1 bx bg bc bY : Nat) (u16 u19 u20 u21 u22 u23 u24 u25 u26 u27 u28 u29 u30 u31 u32 u33 u34 u35 u36 u37 u38 u39 u40 u41 u42 u53 u54 u55 u56 u57 u58 u59 u60 u61 : Value)
    (Ho : Hid (Odr ltDown Acc m M)) (hsm : g.ss.length ≤ 576) (hM : M ≤ 2400000) (hj : j ≤ 2 * (g.ss.length * (M + 1)))
    (Hacc : Hid (∀ v u d, Acc v → Acc u → d < g.ss.length → ltDown (nx v d) u = true → Acc (nx v d))) (Hall : Hid ((∀ c, c < g.ss.length → c ∈ sts) ∨ ∀ v d, Acc v → d < g.ss.length → Acc (nx v d)))
    (HN : Hid (∀ (W : World) (v : Int) (c : Nat), Acc v → c < g.ss.length → Below w.heap.size w W → Calls Tryz.prog 89 #[.int .i64 v, .int .i64 c, .pointer (some ⟨p3, 0, none⟩)] W fun e W' => e = .returned (.int .i64 (nx v c)) ∧ Below W.heap.size W W'))
    (Hway : Hid (Way (fun c => (nearL g c).map Int.toNat) sts fst nx c x0)) (Hac : Hid (Acc x0)) (hn : w.heap.size + 9 ≤ B0) (hBB : B0 < B1) (HdD : Hid (∀ D, D ∈ Ds → w.heap.size + 9 ≤ D))
    (y1 : B0 ≤ bx ∧ bx < B1) (y2 : B0 ≤ bg ∧ bg < B1) (y3 : B0 ≤ bc ∧ bc < B1) (y4 : B0 ≤ bY ∧ bY < B1)
    (l : Nat) (pre : List { d : Nat // d < g.ss.length ∧ d ∈ (nearL g c).map Int.toNat }) (x : { d : Nat // d < g.ss.length ∧ d ∈ (nearL g c).map Int.toNat }) (W : World) (hI : InSt w.heap.size w W #[.int .i64 g.W, .int .i64 g.H, .int .i64 g.S, .slice A g.ss.length kc] (.func (.func 89) #[] #[.pointer (some ⟨p3, 0, none⟩)]) g.ss.length ltDown (fun c => (nearL g c).map Int.toNat) sts fst nx Acc m M (j - 1) c x0 Ds B0 B1 (pre.map (fun a => a.1))) :
    bestBody.wpIn (Fence.wide.inRound l) 7 Tryz.prog (ownPostG B1 (NbKp bx bg bc bY) (fun (pre : List { d : Nat // d < g.ss.length ∧ d ∈ (nearL g c).map Int.toNat }) W => InSt w.heap.size w W #[.int .i64 g.W, .int .i64 g.H, .int .i64 g.S, .slice A g.ss.length kc] (.func (.func 89) #[] #[.pointer (some ⟨p3, 0, none⟩)]) g.ss.length ltDown (fun c => (nearL g c).map Int.toNat) sts fst nx Acc m M (j - 1) c x0 Ds B0 B1 (pre.map (fun a => a.1))) (fun _ _ _ => False) (pre ++ [x]) W) { tmps := #[.agg #[.int .i64 g.W, .int .i64 g.H, .int .i64 g.S, .slice A g.ss.length kc], .slice A' sts.length kc', .func (.func 88) #[] #[.pointer (some ⟨p1, 0, none⟩)], .func (.func 89) #[] #[.pointer (some ⟨p3, 0, none⟩)], .func (.func 90) #[] #[], .pointer (some ⟨w.heap.size, 0, none⟩), undef, undef, .pointer (some ⟨w.heap.size + 1, 0, none⟩), .pointer (some ⟨w.heap.size + 1 + 1, 0, none⟩), .slice none 0 0, .pointer (some ⟨w.heap.size + 1 + 1 + 1 + 1, 0, none⟩), .pointer (some ⟨w.heap.size + 1 + 1 + 1 + 1 + 1 + 1, 0, none⟩), .pointer (some ⟨w.heap.size + 1 + 1 + 1 + 1 + 1 + 1 + 1, 0, none⟩), .pointer (some ⟨w.heap.size + 1 + 1 + 1 + 1 + 1 + 1 + 1 + 1, 0, none⟩), undef, u16, .pointer (some ⟨B0, 0, none⟩), .int .i64 ((x.1 : Nat) : Int), u19, u20, u21, u22, u23, u24, u25, u26, u27, u28, u29, u30, u31, u32, u33, u34, u35, u36, u37, u38, u39, u40, u41, u42, .pointer (some ⟨w.heap.size + 1 + 1 + 1 + 1 + 1 + 1 + 1, 1, none⟩), .slice AA its.length cap, .int .i64 (its.length : Int), .bool true, .agg #[.int .i64 (c : Int), .int .i64 x0], .agg #[.int .i64 g.W, .int .i64 g.H, .int .i64 g.S, .slice A g.ss.length kc], .pointer (some ⟨B0, 0, none⟩), .int .i64 (c : Int), .func (.func 82) #[] #[.pointer (some ⟨bx, 0, none⟩), .pointer (some ⟨bg, 0, none⟩), .pointer (some ⟨bc, 0, none⟩), .pointer (some ⟨bY, 0, none⟩)], .int .i64 ((x.1 : Nat) : Int), u53, u54, u55, u56, u57, u58, u59, u60, u61], defers := [] } W := by
  conv => arg 4; whnf
  obtain ⟨⟨rs2, vs2, v2, its2, h1, h2, h3, h4, h5⟩, hmk, hbv, hsz⟩ := hI
  have G1 := Lib.hid h1
  have G2 := Lib.hid h2
  have G3 := Lib.hid h3
  have G4 := Lib.hid h4
  have G5 := Lib.hid h5
  have G6 := Lib.hid hmk
  have G7 := Lib.hid hbv
  clear h1 h2 h3 h4 h5 hmk hbv
  have e8 := G1.out.b8.cell 0
  have e1 := G1.out.b1.cell 0
  have e2 := G7.out.cell 1
  simp only [List.getElem?_toArray, List.getElem?_cons_zero, List.getElem?_cons_succ] at e8 e1 e2
  have Hx1 := x.2.1
  have Hx2 := Lib.hid x.2.2
  have Hwy : Hid (Way (fun c => (nearL g c).map Int.toNat) sts fst nx x.1 (nx x0 x.1)) := Way.step Hway.out x.2.2
  have Hax : Hid (betterP ltDown rs2 vs2 x.1 (nx x0 x.1) = true → Acc (nx x0 x.1)) := by
    intro hbt
    rcases Hall.out with ha | ha
    · have hd := G2.out.sts x.1 (ha x.1 Hx1)
      have h1 : rs2.getD x.1 false = true := by rw [List.getD_eq_getElem?_getD, hd.1]; rfl
      have h2 : ltDown (nx x0 x.1) (val vs2 x.1) = true := by
        unfold betterP at hbt
        rw [h1] at hbt
        simpa [val] using hbt
      exact Hacc.out x0 (val vs2 x.1) x.1 Hac.out (G2.out.way x.1 hd.1).2 Hx1 h2
    · exact ha x0 x.1 Hac.out Hx1
  have hK0 : j - 1 ≤ 4294967290 := by
    have h1 := Nat.mul_le_mul (show g.ss.length ≤ 576 by omega) (show M + 1 ≤ 2400001 by omega)
    omega
  have hN0 : g.ss.length ≤ 65536 := by omega
  have Hmap : Hid (pre.map (fun a => a.1) ++ [x.1] = (pre ++ [x]).map (fun a => a.1)) := by rw [Hid, List.map_append]; rfl
  generalize x.1 = xd at *
  have HC : ∀ (Wz : World), Below W.drew.heap.size W.drew Wz → Hid (CallsIn Fence.wide 6 Tryz.prog 103 #[.int .i64 xd, .int .i64 (nx x0 xd), .pointer (some ⟨w.heap.size + 1 + 1 + 1 + 1 + 1 + 1, 0, none⟩), .pointer (some ⟨w.heap.size + 1 + 1, 0, none⟩), .pointer (some ⟨w.heap.size + 1 + 1 + 1 + 1, 0, none⟩), .pointer (some ⟨w.heap.size + 1 + 1 + 1 + 1 + 1 + 1 + 1, 0, none⟩)] Wz (fun e W' => e = .returned (.tuple #[]) ∧ BodyEndlow B1 bx bg bc bY w W W' #[.int .i64 g.W, .int .i64 g.H, .int .i64 g.S, .slice A g.ss.length kc] (.func (.func 89) #[] #[.pointer (some ⟨p3, 0, none⟩)]) g.ss.length (fun c => (nearL g c).map Int.toNat) sts fst nx Acc m M (j - 1) c x0 Ds B0 (pre.map (fun a => a.1)) xd)) := by
    intro Wz ha
    refine callsIn_wide.2 ((reach_step (y := nx x0 xd) Ho.out (G1.out.drew.below ha) G2.out G3.out hK0 hN0 xd Hx1 Hwy.out Hax.out).mono ?_)
    rintro e Wb ⟨rfl, rs3, vs3, v3, its3, hR⟩
    exact ⟨rfl, reach_round (Wa := Wz) (G1.out) G4.out G5.out (fun D hD => ⟨HdD.out D hD, G6.out D hD⟩) G7.out hsz hn hBB ⟨ha.os, ha.tape, ha.output, ha.size, ha.block⟩ hR y1 y2 y3 y4⟩
  have HCC := Lib.hid HC
  clear HC
  gi_wp2
  refine wpIn_region_round (by kernel_rfl) (by kernel_rfl) ?_
  refine wpAnyIn_take (i := 1) (v := ?_) rfl rfl (by kernel_rfl) (by kernel_rfl) (by kernel_rfl) (fun _ _ _ h => h) ⟨Or.inl ⟨by rfl, ?_⟩, fun _ => rfl⟩ ?_
  rotate_left
  · intro w; go_simp; try with_reducible rfl
  refine wpAnyIn_take (i := 3) (v := ?_) rfl rfl (by kernel_rfl) (by kernel_rfl) (by kernel_rfl) (fun _ _ _ h => h) ⟨Or.inl ⟨by rfl, ?_⟩, fun _ => rfl⟩ ?_
  rotate_left
  · intro w; go_simp; try with_reducible rfl
  refine wpAnyIn_take (i := 5) (v := ?_) rfl rfl (by kernel_rfl) (by kernel_rfl) (by kernel_rfl) (fun _ _ _ h => h) ⟨Or.inl ⟨by rfl, ?_⟩, fun _ => rfl⟩ ?_
  rotate_left
  · intro w; go_simp; try with_reducible rfl
  refine wpAnyIn_ready (rs := [0, 2, 4]) (by kernel_rfl) (by simp) ?_
  refine AllReadyIn.cons rfl (fun K hK => ?_) ?_
  · go_simp
    refine hK _ _ ?_
    clear hK K
    refine wpAnyIn_ready (rs := [2, 4]) (by kernel_rfl) (by simp) ?_
    refine AllReadyIn.cons rfl (fun K hK => ?_) ?_
    · go_simp
      refine hK _ _ ?_
      clear hK K
      refine wpAnyIn_ready (rs := [4]) (by kernel_rfl) (by simp) ?_
      refine AllReadyIn.cons rfl (fun K hK => ?_) ?_
      · go_simp
        refine hK _ _ ?_
        clear hK K
        refine wpAnyIn_ready (rs := [6]) (by kernel_rfl) (by simp) ?_
        refine AllReadyIn.cons rfl (fun K hK => ?_) ?_
        · go_simp
          refine ⟨trivial, ?_⟩
          refine (callsIn_wide.2 (HN.out _ x0 xd Hac.out Hx1 (by exact Below.drew G1.out.bel))).mono ?_
          rintro e Wa ⟨rfl, ha⟩
          have Ha := Lib.hid ha
          have ea := (G1.out.drew.below ha).b8.cell 0
          simp only [List.getElem?_toArray, List.getElem?_cons_zero] at ea
          clear ha
          refine hK _ _ ?_
          clear hK K
          refine wpAnyIn_ready (rs := [7]) (by kernel_rfl) (by simp) ?_
          refine AllReadyIn.cons rfl (fun K hK => ?_) ?_
          · go_simp
            refine ⟨trivial, ?_⟩
            refine ((HCC.out _ Ha.out).out).mono ?_
            rintro e Wb ⟨rfl, hE⟩
            have HE := Lib.hid hE
            clear hE
            refine hK _ _ ?_
            clear hK K
            refine wpAnyIn_done (by kernel_rfl) ?_ _
            have h := HE.out
            unfold BodyEndlow at h
            rw [Hmap.out] at h
            exact h
          exact AllReadyIn.nil
        exact AllReadyIn.nil
      exact AllReadyIn.nil
    refine AllReadyIn.cons rfl (fun K hK => ?_) ?_
    · go_simp
      refine hK _ _ ?_
      clear hK K
      refine wpAnyIn_ready (rs := [2]) (by kernel_rfl) (by simp) ?_
      refine AllReadyIn.cons rfl (fun K hK => ?_) ?_
      · go_simp
        refine hK _ _ ?_
        clear hK K
        refine wpAnyIn_ready (rs := [6]) (by kernel_rfl) (by simp) ?_
        refine AllReadyIn.cons rfl (fun K hK => ?_) ?_
        · go_simp
          refine ⟨trivial, ?_⟩
          refine (callsIn_wide.2 (HN.out _ x0 xd Hac.out Hx1 (by exact Below.drew G1.out.bel))).mono ?_
          rintro e Wa ⟨rfl, ha⟩
          have Ha := Lib.hid ha
          have ea := (G1.out.drew.below ha).b8.cell 0
          simp only [List.getElem?_toArray, List.getElem?_cons_zero] at ea
          clear ha
          refine hK _ _ ?_
          clear hK K
          refine wpAnyIn_ready (rs := [7]) (by kernel_rfl) (by simp) ?_
          refine AllReadyIn.cons rfl (fun K hK => ?_) ?_
          · go_simp
            refine ⟨trivial, ?_⟩
            refine ((HCC.out _ Ha.out).out).mono ?_
            rintro e Wb ⟨rfl, hE⟩
            have HE := Lib.hid hE
            clear hE
            refine hK _ _ ?_
            clear hK K
            refine wpAnyIn_done (by kernel_rfl) ?_ _
            have h := HE.out
            unfold BodyEndlow at h
            rw [Hmap.out] at h
            exact h
          exact AllReadyIn.nil
        exact AllReadyIn.nil
      exact AllReadyIn.nil
    exact AllReadyIn.nil
  refine AllReadyIn.cons rfl (fun K hK => ?_) ?_
  · go_simp
    refine hK _ _ ?_
    clear hK K
    refine wpAnyIn_ready (rs := [0, 4]) (by kernel_rfl) (by simp) ?_
    refine AllReadyIn.cons rfl (fun K hK => ?_) ?_
    · go_simp
      refine hK _ _ ?_
      clear hK K
      refine wpAnyIn_ready (rs := [4]) (by kernel_rfl) (by simp) ?_
      refine AllReadyIn.cons rfl (fun K hK => ?_) ?_
      · go_simp
        refine hK _ _ ?_
        clear hK K
        refine wpAnyIn_ready (rs := [6]) (by kernel_rfl) (by simp) ?_
        refine AllReadyIn.cons rfl (fun K hK => ?_) ?_
        · go_simp
          refine ⟨trivial, ?_⟩
          refine (callsIn_wide.2 (HN.out _ x0 xd Hac.out Hx1 (by exact Below.drew G1.out.bel))).mono ?_
          rintro e Wa ⟨rfl, ha⟩
          have Ha := Lib.hid ha
          have ea := (G1.out.drew.below ha).b8.cell 0
          simp only [List.getElem?_toArray, List.getElem?_cons_zero] at ea
          clear ha
          refine hK _ _ ?_
          clear hK K
          refine wpAnyIn_ready (rs := [7]) (by kernel_rfl) (by simp) ?_
          refine AllReadyIn.cons rfl (fun K hK => ?_) ?_
          · go_simp
            refine ⟨trivial, ?_⟩
            refine ((HCC.out _ Ha.out).out).mono ?_
            rintro e Wb ⟨rfl, hE⟩
            have HE := Lib.hid hE
            clear hE
            refine hK _ _ ?_
            clear hK K
            refine wpAnyIn_done (by kernel_rfl) ?_ _
            have h := HE.out
            unfold BodyEndlow at h
            rw [Hmap.out] at h
            exact h
          exact AllReadyIn.nil
        exact AllReadyIn.nil
      exact AllReadyIn.nil
    refine AllReadyIn.cons rfl (fun K hK => ?_) ?_
    · go_simp
      refine hK _ _ ?_
      clear hK K
      refine wpAnyIn_ready (rs := [0, 6]) (by kernel_rfl) (by simp) ?_
      refine AllReadyIn.cons rfl (fun K hK => ?_) ?_
      · go_simp
        refine hK _ _ ?_
        clear hK K
        refine wpAnyIn_ready (rs := [6]) (by kernel_rfl) (by simp) ?_
        refine AllReadyIn.cons rfl (fun K hK => ?_) ?_
        · go_simp
          refine ⟨trivial, ?_⟩
          refine (callsIn_wide.2 (HN.out _ x0 xd Hac.out Hx1 (by exact Below.drew G1.out.bel))).mono ?_
          rintro e Wa ⟨rfl, ha⟩
          have Ha := Lib.hid ha
          have ea := (G1.out.drew.below ha).b8.cell 0
          simp only [List.getElem?_toArray, List.getElem?_cons_zero] at ea
          clear ha
          refine hK _ _ ?_
          clear hK K
          refine wpAnyIn_ready (rs := [7]) (by kernel_rfl) (by simp) ?_
          refine AllReadyIn.cons rfl (fun K hK => ?_) ?_
          · go_simp
            refine ⟨trivial, ?_⟩
            refine ((HCC.out _ Ha.out).out).mono ?_
            rintro e Wb ⟨rfl, hE⟩
            have HE := Lib.hid hE
            clear hE
            refine hK _ _ ?_
            clear hK K
            refine wpAnyIn_done (by kernel_rfl) ?_ _
            have h := HE.out
            unfold BodyEndlow at h
            rw [Hmap.out] at h
            exact h
          exact AllReadyIn.nil
        exact AllReadyIn.nil
      refine AllReadyIn.cons rfl (fun K hK => ?_) ?_
      · go_simp
        refine ⟨trivial, ?_⟩
        refine (callsIn_wide.2 (HN.out _ x0 xd Hac.out Hx1 (by exact Below.drew G1.out.bel))).mono ?_
        rintro e Wa ⟨rfl, ha⟩
        have Ha := Lib.hid ha
        have ea := (G1.out.drew.below ha).b8.cell 0
        simp only [List.getElem?_toArray, List.getElem?_cons_zero] at ea
        clear ha
        refine hK _ _ ?_
        clear hK K
        refine wpAnyIn_ready (rs := [0]) (by kernel_rfl) (by simp) ?_
        refine AllReadyIn.cons rfl (fun K hK => ?_) ?_
        · go_simp
          refine hK _ _ ?_
          clear hK K
          refine wpAnyIn_ready (rs := [7]) (by kernel_rfl) (by simp) ?_
          refine AllReadyIn.cons rfl (fun K hK => ?_) ?_
          · go_simp
            refine ⟨trivial, ?_⟩
            refine ((HCC.out _ Ha.out).out).mono ?_
            rintro e Wb ⟨rfl, hE⟩
            have HE := Lib.hid hE
            clear hE
            refine hK _ _ ?_
            clear hK K
            refine wpAnyIn_done (by kernel_rfl) ?_ _
            have h := HE.out
            unfold BodyEndlow at h
            rw [Hmap.out] at h
            exact h
          exact AllReadyIn.nil
        exact AllReadyIn.nil
      exact AllReadyIn.nil
    exact AllReadyIn.nil
  refine AllReadyIn.cons rfl (fun K hK => ?_) ?_
  · go_simp
    refine hK _ _ ?_
    clear hK K
    refine wpAnyIn_ready (rs := [0, 2]) (by kernel_rfl) (by simp) ?_
    refine AllReadyIn.cons rfl (fun K hK => ?_) ?_
    · go_simp
      refine hK _ _ ?_
      clear hK K
      refine wpAnyIn_ready (rs := [2]) (by kernel_rfl) (by simp) ?_
      refine AllReadyIn.cons rfl (fun K hK => ?_) ?_
      · go_simp
        refine hK _ _ ?_
        clear hK K
        refine wpAnyIn_ready (rs := [6]) (by kernel_rfl) (by simp) ?_
        refine AllReadyIn.cons rfl (fun K hK => ?_) ?_
        · go_simp
          refine ⟨trivial, ?_⟩
          refine (callsIn_wide.2 (HN.out _ x0 xd Hac.out Hx1 (by exact Below.drew G1.out.bel))).mono ?_
          rintro e Wa ⟨rfl, ha⟩
          have Ha := Lib.hid ha
          have ea := (G1.out.drew.below ha).b8.cell 0
          simp only [List.getElem?_toArray, List.getElem?_cons_zero] at ea
          clear ha
          refine hK _ _ ?_
          clear hK K
          refine wpAnyIn_ready (rs := [7]) (by kernel_rfl) (by simp) ?_
          refine AllReadyIn.cons rfl (fun K hK => ?_) ?_
          · go_simp
            refine ⟨trivial, ?_⟩
            refine ((HCC.out _ Ha.out).out).mono ?_
            rintro e Wb ⟨rfl, hE⟩
            have HE := Lib.hid hE
            clear hE
            refine hK _ _ ?_
            clear hK K
            refine wpAnyIn_done (by kernel_rfl) ?_ _
            have h := HE.out
            unfold BodyEndlow at h
            rw [Hmap.out] at h
            exact h
          exact AllReadyIn.nil
        exact AllReadyIn.nil
      exact AllReadyIn.nil
    refine AllReadyIn.cons rfl (fun K hK => ?_) ?_
    · go_simp
      refine hK _ _ ?_
      clear hK K
      refine wpAnyIn_ready (rs := [0, 6]) (by kernel_rfl) (by simp) ?_
      refine AllReadyIn.cons rfl (fun K hK => ?_) ?_
      · go_simp
        refine hK _ _ ?_
        clear hK K
        refine wpAnyIn_ready (rs := [6]) (by kernel_rfl) (by simp) ?_
        refine AllReadyIn.cons rfl (fun K hK => ?_) ?_
        · go_simp
          refine ⟨trivial, ?_⟩
          refine (callsIn_wide.2 (HN.out _ x0 xd Hac.out Hx1 (by exact Below.drew G1.out.bel))).mono ?_
          rintro e Wa ⟨rfl, ha⟩
          have Ha := Lib.hid ha
          have ea := (G1.out.drew.below ha).b8.cell 0
          simp only [List.getElem?_toArray, List.getElem?_cons_zero] at ea
          clear ha
          refine hK _ _ ?_
          clear hK K
          refine wpAnyIn_ready (rs := [7]) (by kernel_rfl) (by simp) ?_
          refine AllReadyIn.cons rfl (fun K hK => ?_) ?_
          · go_simp
            refine ⟨trivial, ?_⟩
            refine ((HCC.out _ Ha.out).out).mono ?_
            rintro e Wb ⟨rfl, hE⟩
            have HE := Lib.hid hE
            clear hE
            refine hK _ _ ?_
            clear hK K
            refine wpAnyIn_done (by kernel_rfl) ?_ _
            have h := HE.out
            unfold BodyEndlow at h
            rw [Hmap.out] at h
            exact h
          exact AllReadyIn.nil
        exact AllReadyIn.nil
      refine AllReadyIn.cons rfl (fun K hK => ?_) ?_
      · go_simp
        refine ⟨trivial, ?_⟩
        refine (callsIn_wide.2 (HN.out _ x0 xd Hac.out Hx1 (by exact Below.drew G1.out.bel))).mono ?_
        rintro e Wa ⟨rfl, ha⟩
        have Ha := Lib.hid ha
        have ea := (G1.out.drew.below ha).b8.cell 0
        simp only [List.getElem?_toArray, List.getElem?_cons_zero] at ea
        clear ha
        refine hK _ _ ?_
        clear hK K
        refine wpAnyIn_ready (rs := [0]) (by kernel_rfl) (by simp) ?_
        refine AllReadyIn.cons rfl (fun K hK => ?_) ?_
        · go_simp
          refine hK _ _ ?_
          clear hK K
          refine wpAnyIn_ready (rs := [7]) (by kernel_rfl) (by simp) ?_
          refine AllReadyIn.cons rfl (fun K hK => ?_) ?_
          · go_simp
            refine ⟨trivial, ?_⟩
            refine ((HCC.out _ Ha.out).out).mono ?_
            rintro e Wb ⟨rfl, hE⟩
            have HE := Lib.hid hE
            clear hE
            refine hK _ _ ?_
            clear hK K
            refine wpAnyIn_done (by kernel_rfl) ?_ _
            have h := HE.out
            unfold BodyEndlow at h
            rw [Hmap.out] at h
            exact h
          exact AllReadyIn.nil
        exact AllReadyIn.nil
      exact AllReadyIn.nil
    exact AllReadyIn.nil
  exact AllReadyIn.nil
end Go.Proofs.YthcenmocnphnmaaGreatDoor
/-
  The search for the best values: the function itself, low.
-/
namespace Go.Proofs.YthcenmocnphnmaaGreatDoor
open Go.RowKit Go.Shelf
attribute [local go_sem] Oper.semAt_some

set_option maxRecDepth 100000 in
set_option maxHeartbeats 4000000 in
theorem best_low (x y : Value) (g : G) (sts : List Nat) (fst : Nat → Int) (nx : Int → Nat → Int) (Acc : Int → Prop) (m : Int → Nat) (M : Nat) (p1 p3 : Nat) (w : World)
    (hg : GridAt w w.heap.size x g) (hy : IntsAt w w.heap.size y (sts.map fun (c : Nat) => (c : Int))) (V : Valid g) (hst : ∀ c, c ∈ sts → c < g.ss.length) (ho : Odr ltDown Acc m M) (hM : M ≤ 2400000)
    (hfst : ∀ c, c < g.ss.length → Acc (fst c)) (hacc : ∀ v u d, Acc v → Acc u → d < g.ss.length → ltDown (nx v d) u = true → Acc (nx v d)) (hall : (∀ c, c < g.ss.length → c ∈ sts) ∨ ∀ v d, Acc v → d < g.ss.length → Acc (nx v d))
    (hF : ∀ (W : World) (c : Nat), c < g.ss.length → Below w.heap.size w W → Calls Tryz.prog 88 #[.int .i64 c, .pointer (some ⟨p1, 0, none⟩)] W fun e W' => e = .returned (.int .i64 (fst c)) ∧ Below W.heap.size W W')
    (hN : ∀ (W : World) (v : Int) (c : Nat), Acc v → c < g.ss.length → Below w.heap.size w W → Calls Tryz.prog 89 #[.int .i64 v, .int .i64 c, .pointer (some ⟨p3, 0, none⟩)] W fun e W' => e = .returned (.int .i64 (nx v c)) ∧ Below W.heap.size W W') :
    Calls Tryz.prog 87 #[x, y, .func (.func 88) #[] #[.pointer (some ⟨p1, 0, none⟩)], .func (.func 89) #[] #[.pointer (some ⟨p3, 0, none⟩)], .func (.func 90) #[] #[]] w fun e W' =>
      ∃ v vs, e = .returned v ∧ IntsAt W' W'.heap.size v vs ∧ Below w.heap.size w W' ∧ Best (fun c => (nearL g c).map Int.toNat) sts fst nx ltDown g.ss.length vs := by
  refine (callsIn_wide (n := 9)).1 ?_
  obtain ⟨v, rfl, hs⟩ := hg
  obtain ⟨A, kc, rfl, hkc, hm⟩ := hs.open_
  obtain ⟨A', kc', ey, hkc', hm'⟩ := hy.open_
  rw [List.length_map] at ey hkc' hm'
  subst ey
  have hsm := V.small
  have hps := V.pos
  obtain ⟨i0, hi0, hz0, hz1, hz2⟩ := info_parts int_info
  obtain ⟨j0, hj0, hy0, hy1, hy2⟩ := info_parts bool_info
  have hmk := fun W => run_make_rowN (P := Tryz.prog) 26 3 i0 _ Tryz.underlying26 hi0 hz0 .i64 .i64 g.ss.length g.ss.length (Nat.le_refl _) (by rw [hz2]; omega) (by omega) W
  rw [hz1] at hmk
  have hmb := fun W => run_make_rowN (P := Tryz.prog) 39 4 j0 _ Tryz.underlying39 hj0 hy0 .i64 .i64 g.ss.length g.ss.length (Nat.le_refl _) (by rw [hy2]; omega) (by omega) W
  rw [hy1] at hmb
  simp only [Value.cells] at hmk hmb
  clear hi0 hz0 hz1 hz2 hj0 hy0 hy1 hy2
  refine callsIn_of_wp_marks Tryz.func87 rfl trivial ?_ rfl
  simp only [Tryz.ntmps87, List.size_toArray, List.length_cons, List.length_nil, Nat.reduceAdd, Nat.reduceSub, Array.replicate_succ, Array.replicate_zero, List.push_toArray, List.append_toArray, List.nil_append, List.cons_append]
  have HY := Lib.hid hy
  have HF := Lib.hid hF
  have HN := Lib.hid hN
  have HV := Lib.hid V
  have Hst' := Lib.hid hst
  have Ho := Lib.hid ho
  have Hfst := Lib.hid hfst
  have Hacc := Lib.hid hacc
  have Hall := Lib.hid hall
  clear hF hN V hst ho hfst hacc hall
  have HB0 : Hid (BSt w.heap.size w ((((((((((w.alloc (.cells #[.int .i64 g.W, .int .i64 g.H, .int .i64 g.S, .slice A g.ss.length kc] 24)).alloc (.cells #[.func (.func 89) #[] #[.pointer (some ⟨p3, 0, none⟩)]] 128)).alloc (.cells #[.func (.func 90) #[] #[]] 129)).alloc (.cells (madeCells #[.int .i64 0] g.ss.length) 3)).alloc (.cells #[.slice (some ⟨w.heap.size + 1 + 1 + 1, 0, none⟩) g.ss.length g.ss.length] 26)).alloc (.cells (madeCells #[.bool false] g.ss.length) 4)).alloc (.cells #[.slice (some ⟨w.heap.size + 1 + 1 + 1 + 1 + 1, 0, none⟩) g.ss.length g.ss.length] 39)).alloc (.cells #[.func (.func 102) #[] #[.pointer (some ⟨w.heap.size + 1 + 1, 0, none⟩)], .slice none 0 0] 140)).alloc (.cells #[.func (.func 103) #[] #[.pointer (some ⟨w.heap.size + 1 + 1 + 1 + 1 + 1 + 1, 0, none⟩), .pointer (some ⟨w.heap.size + 1 + 1, 0, none⟩), .pointer (some ⟨w.heap.size + 1 + 1 + 1 + 1, 0, none⟩), .pointer (some ⟨w.heap.size + 1 + 1 + 1 + 1 + 1 + 1 + 1, 0, none⟩)]] 142))) #[.int .i64 g.W, .int .i64 g.H, .int .i64 g.S, .slice A g.ss.length kc] (.func (.func 89) #[] #[.pointer (some ⟨p3, 0, none⟩)]) g.ss.length ltDown (List.replicate g.ss.length false) (List.replicate g.ss.length 0) (.slice none 0 0) []) := by
    have e1 : madeCells #[.bool false] g.ss.length = ((List.replicate g.ss.length false).map Value.bool).toArray := by
      apply Array.ext'
      rw [toList_madeCells_one, List.map_replicate]
    have e2 : madeCells #[.int .i64 0] g.ss.length = ((List.replicate g.ss.length (0 : Int)).map (Value.int .i64)).toArray := by
      apply Array.ext'
      rw [toList_madeCells_one, List.map_replicate]
    rw [e1, e2]
    refine ⟨⟨?_, ?_, ?_, ?_, by simp, by simp, ⟨?_, World.ownsRow_nil _ _ _ _⟩, .inr ⟨?_, rfl⟩⟩, ?_, ?_, ?_, (by repeat (first | exact Below.refl _ _ | assumption | refine Below.drew ?_ | refine Below.drewN' ?_ _ | (refine Below.alloc ?_ (by simp <;> omega) _) | (refine Below.setCell ?_ (by simp <;> omega) _))), by simp, fun k hk => by cases hk⟩
    · exact Blk.alloc (Blk.alloc (Blk.new' _ _ _ (by simp)) _) _
    · exact Blk.alloc (Blk.alloc (Blk.alloc (Blk.new' _ _ _ (by simp)) _) _) _
    · exact Blk.alloc (Blk.alloc (Blk.alloc (Blk.alloc (Blk.new' _ _ _ (by simp)) _) _) _) _
    · exact Blk.alloc (Blk.alloc (Blk.alloc (Blk.alloc (Blk.alloc (Blk.new' _ _ _ (by simp)) _) _) _) _) _
    · exact Blk.alloc (Blk.new' _ _ _ (by simp)) _
    · exact Blk.alloc (Blk.alloc (Blk.alloc (Blk.alloc (Blk.alloc (Blk.alloc (Blk.new' _ _ _ (by simp)) _) _) _) _) _) _
    · exact Blk.alloc (Blk.alloc (Blk.alloc (Blk.alloc (Blk.alloc (Blk.alloc (Blk.alloc (Blk.alloc (Blk.new' _ _ _ (by simp)) _) _) _) _) _) _) _) _
    · exact Blk.alloc (Blk.alloc (Blk.alloc (Blk.alloc (Blk.alloc (Blk.alloc (Blk.alloc (Blk.new' _ _ _ (by simp)) _) _) _) _) _) _) _
    · exact Blk.new' _ _ _ (by simp)
  clear hs hy
  refine wpIn_wide.2 ?_
  go_wp2
  clear hmk hmb
  go_loopw [32] (fun i wr => ∃ (k : Nat) (rs : List Bool) (vs : List Int) (v : Value) (its : List (Int × Int)), i = .int .i64 k ∧ k ≤ sts.length ∧ Hid (BSt w.heap.size w wr #[.int .i64 g.W, .int .i64 g.H, .int .i64 g.S, .slice A g.ss.length kc] (.func (.func 89) #[] #[.pointer (some ⟨p3, 0, none⟩)]) g.ss.length ltDown rs vs v its) ∧
      Hid (SInv (fun c => (nearL g c).map Int.toNat) sts fst nx ltDown Acc g.ss.length (sts.take k) (fun _ _ => False) rs vs its) ∧ Hid (2 * pot m M g.ss.length rs vs + its.length ≤ 2 * (g.ss.length * (M + 1)))) (fun i _ => sts.length - (intOf i).toNat)
  case atStart =>
    refine ⟨0, List.replicate g.ss.length false, List.replicate g.ss.length 0, .slice none 0 0, [], rfl, Nat.zero_le _, ?_, ?_, ?_⟩
    · exact HB0
    · exact SInv.init rfl rfl
    · have := pot_le (P := fun _ _ => False) Ho.out (SInv.init (nb := fun c => (nearL g c).map Int.toNat) (S := sts) (fst := fst) (nx := nx) (N := g.ss.length) rfl rfl)
      simp only [Hid, List.length_nil]
      omega
  case round =>
    obtain ⟨k, rs, vs, v, its, rfl, hk, Hst, Hin, Hbd⟩ := hrel
    clear HB0
    have HC := Lib.hid Hst.out.b8
    have c8 := HC.out.cell 0
    simp only [List.getElem?_toArray, List.getElem?_cons_zero] at c8
    by_cases hlt : k < sts.length
    · obtain ⟨b, off, rfl, hb, c1⟩ := (HY.out.below Hst.out.bel).at_ (k := k) (by simpa using hlt)
      rw [List.getElem_map] at c1
      have hc := Hst'.out _ (List.getElem_mem hlt)
      have hcm : sts[k] ∈ sts := List.getElem_mem hlt
      have Htk := Lib.hid (take_snoc sts k hlt)
      obtain ⟨c, hcq⟩ : ∃ c, c = sts[k] := ⟨_, rfl⟩
      rw [← hcq] at c1 hc hcm Htk
      clear hcq
      have hK0 : 2 * (g.ss.length * (M + 1)) ≤ 4294967290 := by have := Nat.mul_le_mul (show g.ss.length ≤ 576 by omega) (show M + 1 ≤ 2400001 by omega); omega
      have hN0 : g.ss.length ≤ 65536 := by omega
      go_wp2
      go_region_held3 (fun w' => w'.cell? ⟨w.heap.size + 1 + 1 + 1 + 1 + 1 + 1 + 1 + 1, 0, none⟩ = some (.func (.func 103) #[] #[.pointer (some ⟨w.heap.size + 1 + 1 + 1 + 1 + 1 + 1, 0, none⟩), .pointer (some ⟨w.heap.size + 1 + 1, 0, none⟩), .pointer (some ⟨w.heap.size + 1 + 1 + 1 + 1, 0, none⟩), .pointer (some ⟨w.heap.size + 1 + 1 + 1 + 1 + 1 + 1 + 1, 0, none⟩)]))
        (first | go_keep | assumption)
        (first
        | (go_at_call 88; refine (HF.out _ c hc (by exact Below.drew Hst.out.bel)).mono ?_; rintro e W1 ⟨rfl, hb1⟩; have Hs1 : Hid (BSt w.heap.size w W1 #[.int .i64 g.W, .int .i64 g.H, .int .i64 g.S, .slice A g.ss.length kc] (.func (.func 89) #[] #[.pointer (some ⟨p3, 0, none⟩)]) g.ss.length ltDown rs vs v its) := BSt.below (BSt.drew Hst.out) hb1; have cc8 := Hs1.out.b8.cell 0; simp only [List.getElem?_toArray, List.getElem?_cons_zero] at cc8; clear hb1)
        | (go_at_call 103; refine (reach_step (y := fst c) Ho.out Hs1.out Hin.out Hbd.out hK0 hN0 c hc (Way.start hcm) (fun _ => Hfst.out c hc)).mono ?_; rintro e W2 ⟨rfl, rs2, vs2, v2, its2, hR⟩; have c82 := hR.bst.b8.cell 0; simp only [List.getElem?_toArray, List.getElem?_cons_zero] at c82; have HR := Lib.hid hR; clear hR))
      go_wp2
      go_roundw
      case rel => exact ⟨k + 1, rs2, vs2, v2, its2, by go_num, by omega, HR.out.bst, by rw [Htk.out]; exact HR.out.inv.start HR.out.don, HR.out.bd⟩
      case measure => simp [intOf]; omega
    · have hk' : k = sts.length := by omega
      have Hin2 : Hid (SInv (fun c => (nearL g c).map Int.toNat) sts fst nx ltDown Acc g.ss.length sts (fun _ _ => False) rs vs its) := by
        have := Hin.out
        rw [hk', List.take_length] at this
        exact this
      clear hk' Hin c8 HC
      go_wp2
      refine wp_loop_idx (fun j a W => ∃ u16 u17 u18 u19 u20 u21 u22 u23 u24 u25 u26 u27 u28 u29 u30 u31 u32 u33 u34 u35 u36 u37 u38 u39 u40 u41 u42 u43 u44 u45 u46 u47 u48 u49 u50 u51 u52 u53 u54 u55 u56 u57 u58 u59 u60 u61 : Value, ∃ (ds : List Deferred) (rs : List Bool) (vs : List Int) (v : Value) (its : List (Int × Int)), a = ⟨#[.agg #[.int .i64 g.W, .int .i64 g.H, .int .i64 g.S, .slice A g.ss.length kc], .slice A' sts.length kc', .func (.func 88) #[] #[.pointer (some ⟨p1, 0, none⟩)], .func (.func 89) #[] #[.pointer (some ⟨p3, 0, none⟩)], .func (.func 90) #[] #[], .pointer (some ⟨w.heap.size, 0, none⟩), undef, undef, .pointer (some ⟨w.heap.size + 1, 0, none⟩), .pointer (some ⟨w.heap.size + 1 + 1, 0, none⟩), .slice none 0 0, .pointer (some ⟨w.heap.size + 1 + 1 + 1 + 1, 0, none⟩), .pointer (some ⟨w.heap.size + 1 + 1 + 1 + 1 + 1 + 1, 0, none⟩), .pointer (some ⟨w.heap.size + 1 + 1 + 1 + 1 + 1 + 1 + 1, 0, none⟩), .pointer (some ⟨w.heap.size + 1 + 1 + 1 + 1 + 1 + 1 + 1 + 1, 0, none⟩), undef, u16, u17, u18, u19, u20, u21, u22, u23, u24, u25, u26, u27, u28, u29, u30, u31, u32, u33, u34, u35, u36, u37, u38, u39, u40, u41, u42, u43, u44, u45, u46, u47, u48, u49, u50, u51, u52, u53, u54, u55, u56, u57, u58, u59, u60, u61], ds⟩ ∧ Marks W (w.heap.size + 9) ds ∧
        BSt w.heap.size w W #[.int .i64 g.W, .int .i64 g.H, .int .i64 g.S, .slice A g.ss.length kc] (.func (.func 89) #[] #[.pointer (some ⟨p3, 0, none⟩)]) g.ss.length ltDown rs vs v its ∧ SInv (fun c => (nearL g c).map Int.toNat) sts fst nx ltDown Acc g.ss.length sts (fun _ _ => False) rs vs its ∧ 2 * pot m M g.ss.length rs vs + its.length ≤ j ∧ j ≤ 2 * (g.ss.length * (M + 1)))
        (n := 2 * (g.ss.length * (M + 1))) ⟨_, _, _, _, _, _, _, _, _, _, _, _, _, _, _, _, _, _, _, _, _, _, _, _, _, _, _, _, _, _, _, _, _, _, _, _, _, _, _, _, _, _, _, _, _, _, [], rs, vs, v, its, rfl, Marks.nil _ _, Hst.out, Hin2.out, Hbd.out, Nat.le_refl _⟩ ?_
      clear Hst Hin2 Hbd
      rintro j a W ⟨u16, u17, u18, u19, u20, u21, u22, u23, u24, u25, u26, u27, u28, u29, u30, u31, u32, u33, u34, u35, u36, u37, u38, u39, u40, u41, u42, u43, u44, u45, u46, u47, u48, u49, u50, u51, u52, u53, u54, u55, u56, u57, u58, u59, u60, u61, ds, rs, vs, v, its, rfl, hM, hS, hI, hb, hj⟩
      have HMk := Lib.hid hM
      have HS := Lib.hid hS
      have HI := Lib.hid hI
      have Hb := Lib.hid hb
      clear hM hS hI hb
      obtain ⟨q0, q1, qf⟩ := HS.out.se.hq.cells
      have HQ := HS.out.se.hq
      obtain ⟨AA, cap, rfl, hcap, hmax⟩ := HQ.shape
      clear HQ q0 qf
      by_cases h0 : 0 < its.length
      · have hbig : its.length ≤ 4294967290 := by
          have h1 := Nat.mul_le_mul (show g.ss.length ≤ 576 by omega) (show M + 1 ≤ 2400001 by omega)
          have h2 := Hb.out
          omega
        go_wp2_with fail
        refine (pop_any _ _ _ _ its ltDown _ HS.out.se.hq HS.out.se.hlt (by omega) h0).mono ?_
        rintro e W1 ⟨⟨c0, x0⟩, v1, its1, rfl, hp1, hq1, hf1, ho1⟩
        obtain ⟨c, hc0, hcN, hway, hac⟩ := HI.out.qu (c0, x0) (hp1.mem_iff.2 List.mem_cons_self)
        simp only at hc0 hway hac
        subst hc0
        have HS1 := Lib.hid (HS.out.popped hq1 hf1 ho1)
        have HI1 := Lib.hid (HI.out.pop hp1)
        have HM1 := Lib.hid (HMk.out.far HS.out (Nat.le_refl _) (hf1.mono fun i _ hi => by rcases hi with e | e; exact .inl e; exact .inr (.inl e)))
        have Hlen : Hid (its.length = its1.length + 1) := by rw [Hid, hp1.length_eq]; rfl
        have Hway := Lib.hid hway
        have Hac := Lib.hid hac
        clear hp1 hq1 hf1 ho1 hway hac HMk HI HS q1
        have d0 := HS1.out.b0.cell 0
        have d1 := HS1.out.b0.cell 1
        have d2 := HS1.out.b0.cell 2
        have d3 := HS1.out.b0.cell 3
        simp only [List.getElem?_toArray, List.getElem?_cons_zero, List.getElem?_cons_succ] at d0 d1 d2 d3
        have hs1 := HS1.out.siz
        have hs2 : w.heap.size < W1.heap.size := by omega
        have hs3 : ¬ w.heap.size = W1.heap.size := by omega
        have hs4 : ¬ W1.heap.size = w.heap.size := by omega
        go_wp2_with (go_at_call 52; refine (neighbors_any _ _ _ _ _ _ _ _ HV.out.w1 (by omega) (by omega)).mono ?_; rintro e W2 ⟨bx, bg, bc, bY, rfl, k1, k2, k3, k4, l1, l2, l3, l4, hb2⟩; have HK := Lib.hid (And.intro k1 (And.intro k2 (And.intro k3 k4))); have Hb2 := Lib.hid hb2; clear k1 k2 k3 k4 hb2)
        obtain ⟨Ds, eD, hpD, hdD⟩ := HM1.out
        subst eD
        have HpD := Lib.hid hpD
        have HdD := Lib.hid hdD
        clear HM1 hpD hdD
        have hcc : (c : Int) < g.ss.length := by omega
        obtain ⟨L, hL⟩ := sub_listQ (Q := fun d => d < g.ss.length ∧ d ∈ (nearL g c).map Int.toNat) (nearL g c) (fun d hd => by
          have h1 := nearL_rng HV.out hcN d hd
          exact ⟨h1.1, by omega, List.mem_map.2 ⟨d, hd, rfl⟩⟩)
        have HL := Lib.hid hL
        clear hL
        have hr := cell_rng (c := (c : Int)) HV.out.w1 HV.out.w2 (by omega) (by omega)
        have HST : Hid (SeqStopsK Fence.wide 8 Tryz.prog 82 #[.pointer (some ⟨bx, 0, none⟩), .pointer (some ⟨bg, 0, none⟩), .pointer (some ⟨bc, 0, none⟩), .pointer (some ⟨bY, 0, none⟩)]
          (fun a : { d : Nat // d < g.ss.length ∧ d ∈ (nearL g c).map Int.toNat } => #[.int .i64 ((a.1 : Nat) : Int)]) (NbKp bx bg bc bY) (fun xs => xs = L) (fun pre => pre <+: L) L.length W2) :=
          nb_stops (fun a : { d : Nat // d < g.ss.length ∧ d ∈ (nearL g c).map Int.toNat } => ((a.1 : Nat) : Int)) L 8 (by omega) bx bg bc bY g.W g.H g.S c _ _ (.slice A g.ss.length kc) W2 HL.out hr.1 hr.2.1 hr.2.2.1 hr.2.2.2 (by omega) (by omega) (by have := HV.out.w1; omega) (by have := HV.out.w2; omega) HK.out.1 HK.out.2.1 HK.out.2.2.1 HK.out.2.2.2
        have sz2 := Hb2.out.size
        simp only [World.size_alloc] at sz2 l1 l2 l3 l4
        have m1 := HK.out.1.lt
        have m2 := HK.out.2.1.lt
        have m3 := HK.out.2.2.1.lt
        have m4 := HK.out.2.2.2.lt
        have HDlt : Hid (∀ D, D ∈ Ds → D < W1.heap.size) := fun D hD => lt_of_heap (HdD.out D hD).2
        have HI0 : Hid (InSt w.heap.size w W2 #[.int .i64 g.W, .int .i64 g.H, .int .i64 g.S, .slice A g.ss.length kc] (.func (.func 89) #[] #[.pointer (some ⟨p3, 0, none⟩)]) g.ss.length ltDown (fun c => (nearL g c).map Int.toNat) sts fst nx Acc m M (j - 1) c x0 Ds W1.heap.size W2.heap.size []) := by
          refine ⟨⟨rs, vs, v1, its1, (HS1.out.below (Below.alloc (Below.refl _ _) (Nat.le_refl _) _)).below Hb2.out, HI1.out, ?_, by simp, ?_⟩, ?_, ?_, Nat.le_refl _⟩
          · have h1 := Hb.out
            have h2 := Hlen.out
            omega
          · intro k hk
            rcases HS1.out.se.hq.2.2 with ⟨e1, _⟩ | ⟨g1, cap1, cur1, e1, _, hh, _⟩
            · rw [e1] at hk; cases hk
            · rw [e1] at hk
              have e2 : g1 = k := Option.some.inj hk
              subst e2
              exact .inl (lt_of_heap hh)
          · intro D hD
            have h1 := HDlt.out D hD
            refine (Hb2.out.block D (by simp; omega)).trans ((Below.heap_alloc _ _ _ h1).trans (HdD.out D hD).2)
          · exact (Blk.new W1 136 #[.int .i64 c, .int .i64 x0]).below Hb2.out (by simp)
        refine (wpIn_wide (n := 9)).1 ?_
        refine wpIn_rangeFunc_ownG rfl (by omega) (gf := 82) (lb := #[.pointer (some ⟨bx, 0, none⟩), .pointer (some ⟨bg, 0, none⟩), .pointer (some ⟨bc, 0, none⟩), .pointer (some ⟨bY, 0, none⟩)]) rfl trivial (enters_of Tryz.func82 (by kernel_rfl) rfl)
          HST.out nbKp_t (nbKp_b m1 m2 m3 m4) (Below.refl _ _) (fun _ => rfl)
          (fun pre W => InSt w.heap.size w W #[.int .i64 g.W, .int .i64 g.H, .int .i64 g.S, .slice A g.ss.length kc] (.func (.func 89) #[] #[.pointer (some ⟨p3, 0, none⟩)]) g.ss.length ltDown (fun c => (nearL g c).map Int.toNat) sts fst nx Acc m M (j - 1) c x0 Ds W1.heap.size W2.heap.size (pre.map (fun a => a.1)))
          (fun _ _ _ => False)
          (InSt.own (fun a : { d : Nat // d < g.ss.length ∧ d ∈ (nearL g c).map Int.toNat } => a.1) (by omega) (by omega) HDlt.out)
          (fun _ _ _ _ _ hs _ _ => hs) HI0.out
          (fun d => { tmps := #[.agg #[.int .i64 g.W, .int .i64 g.H, .int .i64 g.S, .slice A g.ss.length kc], .slice A' sts.length kc', .func (.func 88) #[] #[.pointer (some ⟨p1, 0, none⟩)], .func (.func 89) #[] #[.pointer (some ⟨p3, 0, none⟩)], .func (.func 90) #[] #[], .pointer (some ⟨w.heap.size, 0, none⟩), undef, undef, .pointer (some ⟨w.heap.size + 1, 0, none⟩), .pointer (some ⟨w.heap.size + 1 + 1, 0, none⟩), .slice none 0 0, .pointer (some ⟨w.heap.size + 1 + 1 + 1 + 1, 0, none⟩), .pointer (some ⟨w.heap.size + 1 + 1 + 1 + 1 + 1 + 1, 0, none⟩), .pointer (some ⟨w.heap.size + 1 + 1 + 1 + 1 + 1 + 1 + 1, 0, none⟩), .pointer (some ⟨w.heap.size + 1 + 1 + 1 + 1 + 1 + 1 + 1 + 1, 0, none⟩), undef, u16, .pointer (some ⟨W1.heap.size, 0, none⟩), .int .i64 ((d.1 : Nat) : Int), u19, u20, u21, u22, u23, u24, u25, u26, u27, u28, u29, u30, u31, u32, u33, u34, u35, u36, u37, u38, u39, u40, u41, u42, .pointer (some ⟨w.heap.size + 1 + 1 + 1 + 1 + 1 + 1 + 1, 1, none⟩), .slice AA its.length cap, .int .i64 (its.length : Int), .bool true, .agg #[.int .i64 (c : Int), .int .i64 x0], .agg #[.int .i64 g.W, .int .i64 g.H, .int .i64 g.S, .slice A g.ss.length kc], .pointer (some ⟨W1.heap.size, 0, none⟩), .int .i64 (c : Int), .func (.func 82) #[] #[.pointer (some ⟨bx, 0, none⟩), .pointer (some ⟨bg, 0, none⟩), .pointer (some ⟨bc, 0, none⟩), .pointer (some ⟨bY, 0, none⟩)], .int .i64 ((d.1 : Nat) : Int), u53, u54, u55, u56, u57, u58, u59, u60, u61], defers := [] }) ?assign ?body ?done ?stop
        case assign =>
          intro l x W K hK
          gi_wp2
          exact hK
        case body =>
          rintro l pre x W hI _
          have hb := body_low g sts fst nx Acc m M p1 p3 w A A' AA kc kc' cap j c x0 its Ds W1.heap.size W2.heap.size bx bg bc bY u16 u19 u20 u21 u22 u23 u24 u25 u26 u27 u28 u29 u30 u31 u32 u33 u34 u35 u36 u37 u38 u39 u40 u41 u42 u53 u54 u55 u56 u57 u58 u59 u60 u61
            Ho hsm hM hj Hacc Hall HN Hway Hac (by omega) (by omega) (fun D hD => (HdD.out D hD).1) ⟨by omega, m1⟩ ⟨by omega, m2⟩ ⟨by omega, m3⟩ ⟨by omega, m4⟩ l pre x W hI
          conv at hb => arg 4; whnf
          exact hb
        case done =>
          rintro D xs W hD hxs hI hK
          subst hxs
          obtain ⟨⟨rs2, vs2, v2, its2, h1, h2, h3, h4, h5⟩, hmk, hbv, hsz⟩ := hI
          have hmt := map_toNat' HL.out
          have G2 := h2.popped (fun d hd => h4 d (by rw [← hmt]; exact hd))
          have GM : Marks W (w.heap.size + 9) ({ target := .collected D, args := #[] } :: Ds.map mark) := by
            refine ⟨D :: Ds, rfl, List.Pairwise.cons (fun y hy => ?_) HpD.out, fun y hy => ?_⟩
            · have := HDlt.out y hy
              omega
            · rcases List.mem_cons.1 hy with e | e
              · subst e; exact ⟨by omega, hK⟩
              · exact ⟨(HdD.out y e).1, hmk y e⟩
          have hb1 := Hb.out
          have HH1 := Lib.hid h1
          have HH2 := Lib.hid G2
          have HH3 := Lib.hid GM
          clear h1 h2 h4 h5 hmk hbv GM G2
          go_wp2
          refine ⟨2 * pot m M g.ss.length rs2 vs2 + its2.length, by omega, _, _, _, _, _, _, _, _, _, _, _, _, _, _, _, _, _, _, _, _, _, _, _, _, _, _, _, _, _, _, _, _, _, _, _, _, _, _, _, _, _, _, _, _, _, _, _, rs2, vs2, v2, its2, rfl, HH3.out, HH1.out, HH2.out, Nat.le_refl _, by omega⟩
        case stop =>
          rintro D c pre W _ _ h _
          exact h.elim
      · obtain ⟨Ds, eD, hpD, hdD⟩ := HMk.out
        subst eD
        have HpD := Lib.hid hpD
        have HdD := Lib.hid hdD
        clear HMk hpD hdD
        have hi0 : its = [] := List.eq_nil_of_length_eq_zero (by omega)
        have Hbest : Hid (Best (fun c => (nearL g c).map Int.toNat) sts fst nx ltDown g.ss.length vs) := by
          have := HI.out
          rw [hi0] at this
          exact this.best
        have hcv := HS.out.se.hvb.cell 0
        simp only [List.getElem?_toArray, List.getElem?_cons_zero] at hcv
        have HX := Lib.hid hi0
        clear hi0
        go_wp2
        refine leaves_marks (B := w.heap.size + 9) Ds _ HpD.out HdD.out ?_
        intro W' hb'
        have hvr := HS.out.se.hvr.below hb' (by omega)
        have hl := HS.out.se.hvs
        have hin := ints_of_blk hvr (by omega)
        rw [hl] at hin
        exact ⟨_, results_tmp rfl _ _ _, .slice (some ⟨w.heap.size + 1 + 1 + 1, 0, none⟩) g.ss.length g.ss.length, vs, rfl, hin, HS.out.bel.trans (hb'.mono (by omega)), Hbest.out⟩
end Go.Proofs.YthcenmocnphnmaaGreatDoor
