/-
  Layer 3, the reference: fetch.
-/
import Derived.Test.YtdhcdgfpkjdihaaDoorVR4a
set_option linter.unusedSimpArgs false
set_option linter.unusedVariables false
namespace Go.Proofs.YtdhcdgfpkjdihaaDoor.Sg
open Go.RowKit
def Za3 : Oper := ⟨some 17, .move (.tmp 11), 3, "ref.go:121", #[], none⟩
def Za4 : Oper := ⟨some 18, .move (.tmp 10), 34, "ref.go:121", #[], none⟩
def Za5 : Oper := ⟨some 19, .call { callee := Callee.builtin Builtin.len, args := #[.tmp 18], argTypes := #[34] }, 3, "ref.go:121", #[⟨1, .data⟩], none⟩
def Za6 : Oper := ⟨some 20, .binOp BinOp.lss 3 (.tmp 17) (.tmp 19) 3, 4, "ref.go:121", #[⟨0, .data⟩, ⟨2, .data⟩], none⟩
def Za7 : Oper := ⟨some 21, .move (.tmp 20), 4, "ref.go:121", #[⟨3, .data⟩], none⟩
def Za8 : Oper := ⟨some 22, .load 24 (.tmp 4), 24, "ref.go:121", #[⟨4, .guard⟩], some (4, true)⟩
def Za9 : Oper := ⟨some 23, .load 26 (.tmp 5), 26, "ref.go:121", #[⟨4, .guard⟩], some (4, true)⟩
def Zaa : Oper := ⟨some 24, .move (.tmp 10), 34, "ref.go:121", #[⟨4, .guard⟩], some (4, true)⟩
def Zab : Oper := ⟨some 25, .move (.tmp 11), 3, "ref.go:121", #[⟨4, .guard⟩], some (4, true)⟩
def Zac : Oper := ⟨some 26, .indexAddr 34 (.tmp 24) (.tmp 25), 0, "ref.go:121", #[⟨7, .data⟩, ⟨8, .data⟩, ⟨4, .guard⟩], some (4, true)⟩
def Zad : Oper := ⟨some 27, .load 3 (.tmp 26), 3, "ref.go:121", #[⟨9, .data⟩, ⟨4, .guard⟩], some (4, true)⟩
def Zae : Oper := ⟨some 28, .call { callee := Callee.value (.func 109), args := #[.tmp 22, .tmp 23, .tmp 27], argTypes := #[24, 26, 3] }, 26, "ref.go:121", #[⟨5, .data⟩, ⟨6, .data⟩, ⟨10, .data⟩, ⟨4, .chain⟩, ⟨4, .guard⟩], some (4, true)⟩
def Zaf : Oper := ⟨some 29, .field 26 (.tmp 28) 0, 3, "ref.go:121", #[⟨11, .data⟩, ⟨4, .guard⟩], some (4, true)⟩
def Zag : Oper := ⟨some 30, .binOp BinOp.geq 3 (.tmp 29) (.const (Value.int IntKind.i64 1)) 3, 4, "ref.go:121", #[⟨12, .data⟩, ⟨4, .guard⟩], some (4, true)⟩
def Zah : Oper := ⟨some 31, .pick (.tmp 21) (.tmp 30) (.const (Value.bool false)), 4, "ref.go:121", #[⟨4, .data⟩, ⟨13, .data⟩], none⟩
def Zai : Oper := ⟨some 34, .move (.tmp 12), 3, "ref.go:124", #[], none⟩
def Zaj : Oper := ⟨some 35, .move (.tmp 10), 34, "ref.go:124", #[], none⟩
def Zak : Oper := ⟨some 36, .call { callee := Callee.builtin Builtin.len, args := #[.tmp 35], argTypes := #[34] }, 3, "ref.go:124", #[⟨1, .data⟩], none⟩
def Zal : Oper := ⟨some 37, .binOp BinOp.lss 3 (.tmp 34) (.tmp 36) 3, 4, "ref.go:124", #[⟨0, .data⟩, ⟨2, .data⟩], none⟩
def Zam : Oper := ⟨some 38, .move (.tmp 37), 4, "ref.go:124", #[⟨3, .data⟩], none⟩
def Zan : Oper := ⟨some 39, .load 24 (.tmp 4), 24, "ref.go:124", #[⟨4, .guard⟩], some (4, true)⟩
def Zao : Oper := ⟨some 40, .load 26 (.tmp 5), 26, "ref.go:124", #[⟨4, .guard⟩], some (4, true)⟩
def Zap : Oper := ⟨some 41, .move (.tmp 10), 34, "ref.go:124", #[⟨4, .guard⟩], some (4, true)⟩
def Zaq : Oper := ⟨some 42, .move (.tmp 12), 3, "ref.go:124", #[⟨4, .guard⟩], some (4, true)⟩
def Zar : Oper := ⟨some 43, .indexAddr 34 (.tmp 41) (.tmp 42), 0, "ref.go:124", #[⟨7, .data⟩, ⟨8, .data⟩, ⟨4, .guard⟩], some (4, true)⟩
def Zas : Oper := ⟨some 44, .load 3 (.tmp 43), 3, "ref.go:124", #[⟨9, .data⟩, ⟨4, .guard⟩], some (4, true)⟩
def Zat : Oper := ⟨some 45, .call { callee := Callee.value (.func 109), args := #[.tmp 39, .tmp 40, .tmp 44], argTypes := #[24, 26, 3] }, 26, "ref.go:124", #[⟨5, .data⟩, ⟨6, .data⟩, ⟨10, .data⟩, ⟨4, .chain⟩, ⟨4, .guard⟩], some (4, true)⟩
def Zau : Oper := ⟨some 46, .field 26 (.tmp 45) 1, 3, "ref.go:124", #[⟨11, .data⟩, ⟨4, .guard⟩], some (4, true)⟩
def Zav : Oper := ⟨some 47, .binOp BinOp.geq 3 (.tmp 46) (.const (Value.int IntKind.i64 1)) 3, 4, "ref.go:124", #[⟨12, .data⟩, ⟨4, .guard⟩], some (4, true)⟩
def Zaw : Oper := ⟨some 48, .pick (.tmp 38) (.tmp 47) (.const (Value.bool false)), 4, "ref.go:124", #[⟨4, .data⟩, ⟨13, .data⟩], none⟩
def Zax : Oper := ⟨some 51, .move (.tmp 10), 34, "ref.go:127", #[], none⟩
def Zay : Oper := ⟨some 52, .move (.tmp 11), 3, "ref.go:127", #[], none⟩
def Zaz : Oper := ⟨some 53, .slice 34 (.tmp 51) none (some (.tmp 52)) none, 34, "ref.go:127", #[⟨0, .data⟩, ⟨1, .data⟩], none⟩
def Zb0 : Oper := ⟨some 54, .move (.tmp 10), 34, "ref.go:127", #[], none⟩
def Zb1 : Oper := ⟨some 55, .move (.tmp 12), 3, "ref.go:127", #[], none⟩
def Zb2 : Oper := ⟨some 56, .slice 34 (.tmp 54) none (some (.tmp 55)) none, 34, "ref.go:127", #[⟨3, .data⟩, ⟨4, .data⟩], none⟩
def Zb3 : Oper := ⟨some 8, .assign (.tmp 53), 34, "ref.go:127", #[⟨2, .data⟩, ⟨0, .phase⟩, ⟨1, .phase⟩, ⟨2, .phase⟩, ⟨3, .textOnly .lateStores⟩, ⟨4, .textOnly .lateStores⟩, ⟨5, .textOnly .lateStoresUnsure⟩], none⟩
def Zb4 : Oper := ⟨some 9, .assign (.tmp 56), 34, "ref.go:127", #[⟨5, .data⟩, ⟨6, .chain⟩, ⟨0, .phase⟩, ⟨1, .phase⟩, ⟨2, .phase⟩, ⟨3, .phase⟩, ⟨4, .phase⟩, ⟨5, .phase⟩, ⟨6, .phase⟩], none⟩
theorem fieldS0 (x y : Value) (w : World) : (Instr.field 26 (.agg #[x, y]) 0).run Tryd.prog w = .ok x w := by kernel_rfl
theorem fieldS1 (x y : Value) (w : World) : (Instr.field 26 (.agg #[x, y]) 1).run Tryd.prog w = .ok y w := by kernel_rfl
theorem ints_take {w : World} {B : Nat} {A : Option Addr} {m c : Nat} {L : List Int} (h : IntsAt w B (.slice A m c) L) {n : Nat} (hn : n ≤ L.length) : IntsAt w B (.slice A n c) (L.take n) := by
 obtain ⟨h1, h2, A', c', h3, h4, h5⟩ := h
 injection h3 with a b d
 subst a b d
 have e : (L.take n).length = n := by rw [List.length_take]; omega
 refine ⟨by simp, by rw [e]; omega, _, _, by rw [e], by rw [e]; omega, fun h0 => ?_⟩
 rw [e] at h0
 obtain ⟨b, off, k1, k2, k3⟩ := h5 (by omega)
 refine ⟨b, off, k1, k2, fun j u hu => k3 j u ?_⟩
 rw [List.map_take] at hu
 have hj : j < n := by
  have := (List.getElem?_eq_some_iff.1 hu).1
  rw [List.length_take] at this
  omega
 rw [List.getElem?_take, if_pos hj] at hu
 exact hu
set_option maxRecDepth 100000 in
set_option maxHeartbeats 4000000 in
theorem rfetch_any (WW HH SS : Int) (ss : List (Int × Int)) (A : Option Addr) (c : Nat) (lo hi cell : Int) (d : Nat) (w : World) (hd : d < 8) (hE : checkE ⟨WW, HH, SS, ss⟩ = 0) (hse : spOk (-20000) 20000 (lo, hi) = true) (hc : 0 ≤ cell ∧ cell < ss.length) (hs : SpansAt w w.heap.size (.slice A ss.length c) ss) :
 Calls Tryd.prog 65 #[.agg #[.int .i64 (WW), .int .i64 (HH), .int .i64 (SS), .slice A ss.length c], .agg #[.int .i64 lo, .int .i64 hi], .int .i64 cell, .int .i64 (d : Int)] w fun e w' => ∃ u v, e = .returned (.tuple #[u, v]) ∧ IntsAt w' w'.heap.size u (sureZ ⟨WW, HH, SS, ss⟩ (lo, hi) cell d) ∧ IntsAt w' w'.heap.size v (mayZ ⟨WW, HH, SS, ss⟩ (lo, hi) cell d) ∧ Below w.heap.size w w' := by
 have hck := checkE_zero hE
 obtain ⟨hW, hH, hS, hL0, -⟩ := hck
 simp only at hW hH hS hL0
 have hcw : 0 ≤ cell ∧ cell < WW * HH := ⟨hc.1, by omega⟩
 have hmem : ∀ x ∈ lineZ WW HH cell d, 0 ≤ x ∧ x < ss.length := fun x hx => by have := lineZ_mem hd hW hH hcw hx; omega
 have hlen := len_lt hd hW hH hcw
 have hll := lineZ_length WW HH cell d
 have HSU : Hid (sureZ ⟨WW, HH, SS, ss⟩ (lo, hi) cell d = (lineZ WW HH cell d).takeWhile (sureB ⟨WW, HH, SS, ss⟩ (lo, hi))) := rfl
 have HMU : Hid (mayZ ⟨WW, HH, SS, ss⟩ (lo, hi) cell d = (lineZ WW HH cell d).takeWhile (mayB ⟨WW, HH, SS, ss⟩ (lo, hi))) := rfl
 have HLI : Hid (∀ w : World, Calls Tryd.prog 108 #[.agg #[.int .i64 WW, .int .i64 HH, .int .i64 SS, .slice A ss.length c], .int .i64 cell, .int .i64 (d : Int)] w fun e w' => ∃ v, e = .returned v ∧ IntsAt w' w'.heap.size v (lineZ WW HH cell d) ∧ Below w.heap.size w w') := fun w => rline_any WW HH SS ss A c cell d w hd hW hH hcw
 obtain ⟨L, hLL⟩ : ∃ z, lineZ WW HH cell d = z := ⟨_, rfl⟩
 rw [hLL] at hmem hll HSU HMU HLI
 have HMEM := Lib.hid hmem
 have HLL2 : Hid (L.length ≤ 23) := by show _ ≤ _; omega
 have HE := Lib.hid hE
 have HSE := Lib.hid hse
 have HS0 := Lib.hid hs
 have hfd0 := fieldS0
 have hfd1 := fieldS1
 clear hmem hll hLL hE hse hs hlen hL0 hc hcw
 go_enter Tryd.func65, Tryd.ntmps65
 go_upto_region 1 with (fail)
 obtain ⟨Va1, hV⟩ : ∃ V, (w.alloc (.cells #[.int .i64 (WW), .int .i64 (HH), .int .i64 (SS), .slice A ss.length c] 24)).alloc (.cells #[.int .i64 (lo), .int .i64 (hi)] 26) = V := ⟨_, rfl⟩
 have Kb4 : Hid (Blk Va1 (w.heap.size) 24 #[.int .i64 (WW), .int .i64 (HH), .int .i64 (SS), .slice A ss.length c]) := by rw [← hV]; exact (Blk.new' _ _ _ (by simp)).alloc _
 have Kb5 : Hid (Blk Va1 (w.heap.size + 1) 26 #[.int .i64 (lo), .int .i64 (hi)]) := by rw [← hV]; exact Blk.new' _ _ _ (by simp)
 have GHB : Hid (Below w.heap.size w Va1) := by rw [← hV]; exact (by repeat (first | exact Below.refl _ _ | assumption | refine Below.drew ?_ | refine Below.drewN' ?_ _ | (refine Below.alloc ?_ (by simp <;> omega) _) | (refine Below.setCell ?_ (by simp <;> omega) _)))
 have HZ : Hid (Below w.heap.size w Va1) := GHB
 rw [hV]
 clear hV HZ
 have HB := GHB
 clear GHB
 obtain ⟨b5, hqb5⟩ : ∃ b, w.heap.size + 1 = b := ⟨_, rfl⟩
 obtain ⟨b4, hqb4⟩ : ∃ b, w.heap.size = b := ⟨_, rfl⟩
 have gb4 : w.heap.size ≤ b4 := by omega
 have gb5 : w.heap.size ≤ b5 := by omega
 have nb5b4 : ¬ b5 = b4 := by omega
 have nb4b5 : ¬ b4 = b5 := by omega
 rw [hqb5] at Kb5 ⊢
 clear hqb5
 have HN : Hid (w.heap.size = b4) := hqb4
 rw [hqb4] at Kb4 ⊢
 clear hqb4
 have Hb4 := Kb4
 clear Kb4
 have Hb5 := Kb5
 clear Kb5
 have cb40 := kcl0 Hb4
 have cb41 := kcl1 Hb4
 have cb42 := kcl2 Hb4
 have cb43 := kcl3 Hb4
 go_wp2_with fail
 refine (HLI.out _).mono ?_
 rintro e Va2 ⟨vl, rfl, hl, hb⟩
 have HZ := Lib.hid hb
 clear hb
 have HL := Lib.hid hl
 clear hl
 obtain ⟨al, cl, hvl, hlc, hlm⟩ := HL.out.open_
 subst hvl
 clear cb40 cb41 cb42 cb43
 replace Hb4 := kbl Hb4 HZ
 replace Hb5 := kbl Hb5 HZ
 replace HB := ktr' HB HZ
 clear HZ
 go_upto_region 3 with (fail)
 go_loopw [11] (fun iv wr => ∃ k : Nat, k ≤ L.length ∧ iv = .int .i64 (k : Int) ∧ Hid (∀ j (h : j < L.length), j < k → sureB ⟨WW, HH, SS, ss⟩ (lo, hi) L[j] = true) ∧ Hid (Blk wr b4 24 #[.int .i64 (WW), .int .i64 (HH), .int .i64 (SS), .slice A ss.length c]) ∧ Hid (Blk wr b5 26 #[.int .i64 lo, .int .i64 hi]) ∧ Hid (Below w.heap.size w wr) ∧ Hid (IntsAt wr wr.heap.size (.slice al L.length cl) L)) (fun iv _ => L.length - (intOf iv).toNat)
 case atStart => exact ⟨0, Nat.zero_le _, rfl, (fun j _ h => by omega), Hb4, Hb5, HB, HL⟩
 case round =>
  clear Hb4 Hb5 HB HL
  obtain ⟨nn, hk, rfl, HPT, Hb4, Hb5, HB, HL⟩ := hrel
  obtain ⟨bq, hbq⟩ : ∃ z, decide (∃ h : nn < L.length, sureB ⟨WW, HH, SS, ss⟩ (lo, hi) L[nn] = true) = z := ⟨_, rfl⟩
  have HBQ := Lib.hid hbq
  clear hbq
  have hll2 := HLL2.out
  have hwk : IntKind.i64.wrap ((nn : Int) + 1) = (nn : Int) + 1 := IntWalk.i64_in _ (by omega)
  go_upto_region 3 with (fail)
  go_cut [31] from 17 to 31 (fun p wx => p = .bool bq ∧ Hid (Blk wx b4 24 #[.int .i64 (WW), .int .i64 (HH), .int .i64 (SS), .slice A ss.length c]) ∧ Hid (Blk wx b5 26 #[.int .i64 lo, .int .i64 hi]) ∧ Hid (Below w.heap.size w wx) ∧ Hid (IntsAt wx wx.heap.size (.slice al L.length cl) L))
  case first =>
   by_cases hlt : nn < L.length
   rotate_left
   ·
    have hq : bq = false := by rw [← HBQ.out]; exact decide_eq_false (fun ⟨h, _⟩ => hlt h)
    subst hq
    have hlt2 : ¬ ((nn : Int) < (L.length : Int)) := by omega
    clear hlt
    have HSV : Hid (∀ U, Below wr.heap.size wr U → U.cell? ⟨b4, 0, none⟩ = some (.int .i64 (WW)) ∧ U.cell? ⟨b4, 1, none⟩ = some (.int .i64 (HH)) ∧ U.cell? ⟨b4, 2, none⟩ = some (.int .i64 (SS)) ∧ U.cell? ⟨b4, 3, none⟩ = some (.slice A ss.length c) ∧ U.cell? ⟨b5, 0, none⟩ = some (.int .i64 (lo)) ∧ U.cell? ⟨b5, 1, none⟩ = some (.int .i64 (hi))) := fun U hU => by
     have kb4 := Hb4.out.below hU Hb4.out.lt
     have kb5 := Hb5.out.below hU Hb5.out.lt
     exact ⟨kb4.cell 0, kb4.cell 1, kb4.cell 2, kb4.cell 3, kb5.cell 0, kb5.cell 1⟩
    have k0 := HSV.out _ (Below.drew (Below.refl wr.heap.size wr))
    refine wp_region_noPanic ?_
    refine wp_region_held_drew (S := (fun w' => w'.cell? ⟨b4, 0, none⟩ = some (.int .i64 (WW)) ∧ w'.cell? ⟨b4, 1, none⟩ = some (.int .i64 (HH)) ∧ w'.cell? ⟨b4, 2, none⟩ = some (.int .i64 (SS)) ∧ w'.cell? ⟨b4, 3, none⟩ = some (.slice A ss.length c) ∧ w'.cell? ⟨b5, 0, none⟩ = some (.int .i64 (lo)) ∧ w'.cell? ⟨b5, 1, none⟩ = some (.int .i64 (hi)))) (by kernel_rfl) ?_ (fun hHeld => ?_)
    · (try dsimp only); (exact k0)
    refine tH 0 Za3 ?_ ?_ ?_
    rotate_left
    · ((intro w hSw; delta Za3; (try dsimp only at hSw); go_simp) <;> with_reducible rfl)
    try simp only [Za3, ksz]
    refine tH 1 Za4 ?_ ?_ ?_
    rotate_left
    · ((intro w hSw; delta Za4; (try dsimp only at hSw); go_simp) <;> with_reducible rfl)
    try simp only [Za4, ksz]
    obtain ⟨W0, hW0⟩ : ∃ V, wr.drew = V := ⟨_, rfl⟩; rw [hW0] at hHeld ⊢; have HB0 : Hid (Below wr.heap.size wr W0) := (by rw [← hW0]; exact Below.drew (Below.refl _ _)); clear hW0
    refine wpAnyH_ready (rs := [2]) (by kernel_rfl) (by simp) ?_
    refine AllReadyH.cons (o := Za5) rfl (fun K hK => ?_) AllReadyH.nil
    delta Za5
    go_simp
    refine hK.out _ _ ?_ (fun hHeld => ?_)
    · (try dsimp only); (exact HSV.out _ HB0.out)
    clear hK K
    try simp only [Za5, ksz]
    refine tH 3 Za6 ?_ ?_ ?_
    rotate_left
    · ((intro w hSw; delta Za6; (try dsimp only at hSw); go_simp) <;> with_reducible rfl)
    try simp only [Za6, ksz]
    refine tH 4 Za7 ?_ ?_ ?_
    rotate_left
    · ((intro w hSw; delta Za7; (try dsimp only at hSw); go_simp) <;> with_reducible rfl)
    try simp only [Za7, ksz]
    refine wpAnyH_take (i := 5) (oi := Za8) (v := undef) rfl (by kernel_rfl) (by kernel_rfl) (by kernel_rfl) (fun _ _ _ h => h) (Or.inr ⟨by rfl, rfl⟩) (by assumption) ?_
    try simp only [Za8, ksz]
    refine wpAnyH_take (i := 6) (oi := Za9) (v := undef) rfl (by kernel_rfl) (by kernel_rfl) (by kernel_rfl) (fun _ _ _ h => h) (Or.inr ⟨by rfl, rfl⟩) (by assumption) ?_
    try simp only [Za9, ksz]
    refine wpAnyH_take (i := 7) (oi := Zaa) (v := undef) rfl (by kernel_rfl) (by kernel_rfl) (by kernel_rfl) (fun _ _ _ h => h) (Or.inr ⟨by rfl, rfl⟩) (by assumption) ?_
    try simp only [Zaa, ksz]
    refine wpAnyH_take (i := 8) (oi := Zab) (v := undef) rfl (by kernel_rfl) (by kernel_rfl) (by kernel_rfl) (fun _ _ _ h => h) (Or.inr ⟨by rfl, rfl⟩) (by assumption) ?_
    try simp only [Zab, ksz]
    refine wpAnyH_take (i := 9) (oi := Zac) (v := undef) rfl (by kernel_rfl) (by kernel_rfl) (by kernel_rfl) (fun _ _ _ h => h) (Or.inr ⟨by rfl, rfl⟩) (by assumption) ?_
    try simp only [Zac, ksz]
    refine wpAnyH_take (i := 10) (oi := Zad) (v := undef) rfl (by kernel_rfl) (by kernel_rfl) (by kernel_rfl) (fun _ _ _ h => h) (Or.inr ⟨by rfl, rfl⟩) (by assumption) ?_
    try simp only [Zad, ksz]
    refine wpAnyH_take (i := 11) (oi := Zae) (v := undef) rfl (by kernel_rfl) (by kernel_rfl) (by kernel_rfl) (fun _ _ _ h => h) (Or.inr ⟨by rfl, rfl⟩) (by assumption) ?_
    try simp only [Zae, ksz]
    refine wpAnyH_take (i := 12) (oi := Zaf) (v := undef) rfl (by kernel_rfl) (by kernel_rfl) (by kernel_rfl) (fun _ _ _ h => h) (Or.inr ⟨by rfl, rfl⟩) (by assumption) ?_
    try simp only [Zaf, ksz]
    refine wpAnyH_take (i := 13) (oi := Zag) (v := undef) rfl (by kernel_rfl) (by kernel_rfl) (by kernel_rfl) (fun _ _ _ h => h) (Or.inr ⟨by rfl, rfl⟩) (by assumption) ?_
    try simp only [Zag, ksz]
    refine tH 14 Zah ?_ ?_ ?_
    rotate_left
    · ((intro w hSw; delta Zah; (try dsimp only at hSw); go_simp) <;> with_reducible rfl)
    try simp only [Zah, ksz]
    refine wpAnyH_done (by kernel_rfl) ?_ _
    refine NoPanic.normal ?_
    clear HSV k0
    clear hHeld
    obtain ⟨Va161, hVU⟩ : ∃ V, W0 = V := ⟨_, rfl⟩
    rw [hVU] at HB0 ⊢
    have HZ := HB0
    clear HB0 hVU
    replace Hb4 := kbl Hb4 HZ
    replace Hb5 := kbl Hb5 HZ
    replace HB := ktr' HB HZ
    replace HL := Lib.hid (HL.out.later HZ.out (Nat.le_refl _))
    clear HZ
    go_wp2_with fail
    go_meet
    exact ⟨rfl, Hb4, Hb5, HB, HL⟩
   have hlt2 : ((nn : Int) < (L.length : Int)) := by omega
   obtain ⟨bl, ol, hal, hbl, cq⟩ := HL.out.at_ hlt
   have hmx := HMEM.out _ (List.getElem_mem hlt)
   have hqv : bq = sureB ⟨WW, HH, SS, ss⟩ (lo, hi) L[nn] := by rw [← HBQ.out]; cases hz : sureB ⟨WW, HH, SS, ss⟩ (lo, hi) L[nn] with
    | true => exact decide_eq_true ⟨hlt, hz⟩
    | false => exact decide_eq_false (fun ⟨h, h'⟩ => by rw [hz] at h'; cases h')
   obtain ⟨x, hx⟩ : ∃ z, L[nn] = z := ⟨_, rfl⟩
   rw [hx] at cq hmx hqv
   obtain ⟨xn, rfl⟩ : ∃ m : Nat, x = (m : Int) := ⟨x.toNat, by omega⟩
   have hxn : xn < ss.length := by omega
   obtain ⟨⟨p1, p2⟩, hdp⟩ : ∃ z, dpZ ⟨WW, HH, SS, ss⟩ (lo, hi) (xn : Int) = z := ⟨_, rfl⟩
   have hqv2 : bq = decide (1 ≤ p1) := by rw [hqv]; unfold sureB; rw [hdp]
   have HDP := Lib.hid hdp
   have HXN := Lib.hid hxn
   have HQV := Lib.hid hqv2
   subst hal
   clear hqv hqv2 hx hdp hmx hxn
   have HSV : Hid (∀ U, Below wr.heap.size wr U → U.cell? ⟨b4, 0, none⟩ = some (.int .i64 (WW)) ∧ U.cell? ⟨b4, 1, none⟩ = some (.int .i64 (HH)) ∧ U.cell? ⟨b4, 2, none⟩ = some (.int .i64 (SS)) ∧ U.cell? ⟨b4, 3, none⟩ = some (.slice A ss.length c) ∧ U.cell? ⟨b5, 0, none⟩ = some (.int .i64 (lo)) ∧ U.cell? ⟨b5, 1, none⟩ = some (.int .i64 (hi)) ∧ U.cell? ⟨bl, ol + nn, none⟩ = some (.int .i64 ((xn : Int)))) := fun U hU => by
    have kb4 := Hb4.out.below hU Hb4.out.lt
    have kb5 := Hb5.out.below hU Hb5.out.lt
    exact ⟨kb4.cell 0, kb4.cell 1, kb4.cell 2, kb4.cell 3, kb5.cell 0, kb5.cell 1, (hU.cell (p := ⟨bl, ol + nn, none⟩) hbl).trans cq⟩
   have k0 := HSV.out _ (Below.drew (Below.refl wr.heap.size wr))
   refine wp_region_noPanic ?_
   refine wp_region_held_drew (S := (fun w' => w'.cell? ⟨b4, 0, none⟩ = some (.int .i64 (WW)) ∧ w'.cell? ⟨b4, 1, none⟩ = some (.int .i64 (HH)) ∧ w'.cell? ⟨b4, 2, none⟩ = some (.int .i64 (SS)) ∧ w'.cell? ⟨b4, 3, none⟩ = some (.slice A ss.length c) ∧ w'.cell? ⟨b5, 0, none⟩ = some (.int .i64 (lo)) ∧ w'.cell? ⟨b5, 1, none⟩ = some (.int .i64 (hi)) ∧ w'.cell? ⟨bl, ol + nn, none⟩ = some (.int .i64 ((xn : Int))))) (by kernel_rfl) ?_ (fun hHeld => ?_)
   · (try dsimp only); (exact k0)
   refine tH 0 Za3 ?_ ?_ ?_
   rotate_left
   · ((intro w hSw; delta Za3; (try dsimp only at hSw); go_simp) <;> with_reducible rfl)
   try simp only [Za3, ksz]
   refine tH 1 Za4 ?_ ?_ ?_
   rotate_left
   · ((intro w hSw; delta Za4; (try dsimp only at hSw); go_simp) <;> with_reducible rfl)
   try simp only [Za4, ksz]
   obtain ⟨W0, hW0⟩ : ∃ V, wr.drew = V := ⟨_, rfl⟩; rw [hW0] at hHeld ⊢; have HB0 : Hid (Below wr.heap.size wr W0) := (by rw [← hW0]; exact Below.drew (Below.refl _ _)); clear hW0
   refine wpAnyH_ready (rs := [2]) (by kernel_rfl) (by simp) ?_
   refine AllReadyH.cons (o := Za5) rfl (fun K hK => ?_) AllReadyH.nil
   delta Za5
   go_simp
   refine hK.out _ _ ?_ (fun hHeld => ?_)
   · (try dsimp only); (exact HSV.out _ HB0.out)
   clear hK K
   try simp only [Za5, ksz]
   refine tH 3 Za6 ?_ ?_ ?_
   rotate_left
   · ((intro w hSw; delta Za6; (try dsimp only at hSw); go_simp) <;> with_reducible rfl)
   try simp only [Za6, ksz]
   refine tH 4 Za7 ?_ ?_ ?_
   rotate_left
   · ((intro w hSw; delta Za7; (try dsimp only at hSw); go_simp) <;> with_reducible rfl)
   try simp only [Za7, ksz]
   refine tH 5 Za8 ?_ ?_ ?_
   rotate_left
   · ((intro w hSw; delta Za8; (try dsimp only at hSw); go_simp) <;> with_reducible rfl)
   try simp only [Za8, ksz]
   refine tH 6 Za9 ?_ ?_ ?_
   rotate_left
   · ((intro w hSw; delta Za9; (try dsimp only at hSw); go_simp) <;> with_reducible rfl)
   try simp only [Za9, ksz]
   refine tH 7 Zaa ?_ ?_ ?_
   rotate_left
   · ((intro w hSw; delta Zaa; (try dsimp only at hSw); go_simp) <;> with_reducible rfl)
   try simp only [Zaa, ksz]
   refine tH 8 Zab ?_ ?_ ?_
   rotate_left
   · ((intro w hSw; delta Zab; (try dsimp only at hSw); go_simp) <;> with_reducible rfl)
   try simp only [Zab, ksz]
   refine tH 9 Zac ?_ ?_ ?_
   rotate_left
   · ((intro w hSw; delta Zac; (try dsimp only at hSw); go_simp) <;> with_reducible rfl)
   try simp only [Zac, ksz]
   refine tH 10 Zad ?_ ?_ ?_
   rotate_left
   · ((intro w hSw; delta Zad; (try dsimp only at hSw); go_simp) <;> with_reducible rfl)
   try simp only [Zad, ksz]
   refine wpAnyH_ready (rs := [11]) (by kernel_rfl) (by simp) ?_
   refine AllReadyH.cons (o := Zae) rfl (fun K hK => ?_) AllReadyH.nil
   delta Zae
   go_simp
   (refine (rDepth_any ⟨WW, HH, SS, ss⟩ A c lo hi xn _ (HS0.out.later (HB.out.trans (HB0.out.mono HB.out.size)) (Nat.le_refl _)) HXN.out HE.out HSE.out).mono ?_; rintro e W1 ⟨rfl, hb⟩; have HB1 := Lib.hid (HB0.out.trans (hb.mono HB0.out.size)); clear hb; rw [HDP.out])
   refine hK.out _ _ ?_ (fun hHeld => ?_)
   · (try dsimp only); (exact HSV.out _ HB1.out)
   clear hK K
   try simp only [Zae, ksz]
   refine tH 12 Zaf ?_ ?_ ?_
   rotate_left
   · ((intro w hSw; delta Zaf; (try dsimp only at hSw); go_simp) <;> with_reducible rfl)
   try simp only [Zaf, ksz]
   refine tH 13 Zag ?_ ?_ ?_
   rotate_left
   · ((intro w hSw; delta Zag; (try dsimp only at hSw); go_simp) <;> with_reducible rfl)
   try simp only [Zag, ksz]
   refine tH 14 Zah ?_ ?_ ?_
   rotate_left
   · ((intro w hSw; delta Zah; (try dsimp only at hSw); go_simp) <;> with_reducible rfl)
   try simp only [Zah, ksz]
   refine wpAnyH_done (by kernel_rfl) ?_ _
   refine NoPanic.normal ?_
   clear HSV k0
   clear hHeld HB0
   obtain ⟨Va211, hVU⟩ : ∃ V, W1 = V := ⟨_, rfl⟩
   rw [hVU] at HB1 ⊢
   have HZ := HB1
   clear HB1 hVU
   replace Hb4 := kbl Hb4 HZ
   replace Hb5 := kbl Hb5 HZ
   replace HB := ktr' HB HZ
   replace HL := Lib.hid (HL.out.later HZ.out (Nat.le_refl _))
   clear HZ
   go_wp2_with fail
   go_meet
   exact ⟨by rw [HQV.out], Hb4, Hb5, HB, HL⟩
  case rest =>
   clear Hb4 Hb5 HB HL
   obtain ⟨rfl, Hb4, Hb5, HB, HL⟩ := hcut
   by_cases hq : bq = true
   ·
    subst hq
    obtain ⟨hlt, hsq⟩ := of_decide_eq_true HBQ.out
    have HSQ := Lib.hid hsq
    clear hsq
    go_wp2
    go_roundw
    case rel => exact ⟨nn + 1, by omega, by go_num, (fun j h hj => by
     rcases Nat.lt_succ_iff_lt_or_eq.1 hj with h1 | h1
     · exact HPT.out j h h1
     · subst h1
       exact HSQ.out), Hb4, Hb5, HB, HL⟩
    case measure => simp [intOf] <;> omega
   have hq : bq = false := by simpa using hq
   subst hq
   have HTW : Hid (L.takeWhile (sureB ⟨WW, HH, SS, ss⟩ (lo, hi)) = L.take nn) := takeWhile_is _ L nn hk (fun j hj => HPT.out j (by omega) hj) (by
    rcases Nat.lt_or_ge nn L.length with h | h
    · refine Or.inr ⟨h, ?_⟩
      cases hz : sureB ⟨WW, HH, SS, ss⟩ (lo, hi) L[nn] with
      | true => exact absurd ⟨h, hz⟩ (of_decide_eq_false HBQ.out)
      | false => rfl
    · exact Or.inl (by omega))
   have HKnn := Lib.hid hk
   have HTnn := HTW
   clear HTW HPT HBQ hk hwk
   obtain ⟨Vm, rfl⟩ : ∃ V, V = wc := ⟨_, rfl⟩
   go_upto_region 5 with (fail)
   go_loopw [12] (fun iv wr => ∃ k : Nat, k ≤ L.length ∧ iv = .int .i64 (k : Int) ∧ Hid (∀ j (h : j < L.length), j < k → mayB ⟨WW, HH, SS, ss⟩ (lo, hi) L[j] = true) ∧ Hid (Blk wr b4 24 #[.int .i64 (WW), .int .i64 (HH), .int .i64 (SS), .slice A ss.length c]) ∧ Hid (Blk wr b5 26 #[.int .i64 lo, .int .i64 hi]) ∧ Hid (Below w.heap.size w wr) ∧ Hid (IntsAt wr wr.heap.size (.slice al L.length cl) L)) (fun iv _ => L.length - (intOf iv).toNat)
   case atStart => exact ⟨0, Nat.zero_le _, rfl, (fun j _ h => by omega), Hb4, Hb5, HB, HL⟩
   case round =>
    clear Hb4 Hb5 HB HL
    obtain ⟨kk, hk, rfl, HPT, Hb4, Hb5, HB, HL⟩ := hrel
    obtain ⟨bq, hbq⟩ : ∃ z, decide (∃ h : kk < L.length, mayB ⟨WW, HH, SS, ss⟩ (lo, hi) L[kk] = true) = z := ⟨_, rfl⟩
    have HBQ := Lib.hid hbq
    clear hbq
    have hll2 := HLL2.out
    have hwk : IntKind.i64.wrap ((kk : Int) + 1) = (kk : Int) + 1 := IntWalk.i64_in _ (by omega)
    go_upto_region 5 with (fail)
    go_cut [48] from 34 to 48 (fun p wx => p = .bool bq ∧ Hid (Blk wx b4 24 #[.int .i64 (WW), .int .i64 (HH), .int .i64 (SS), .slice A ss.length c]) ∧ Hid (Blk wx b5 26 #[.int .i64 lo, .int .i64 hi]) ∧ Hid (Below w.heap.size w wx) ∧ Hid (IntsAt wx wx.heap.size (.slice al L.length cl) L))
    case first =>
     by_cases hlt : kk < L.length
     rotate_left
     ·
      have hq : bq = false := by rw [← HBQ.out]; exact decide_eq_false (fun ⟨h, _⟩ => hlt h)
      subst hq
      have hlt2 : ¬ ((kk : Int) < (L.length : Int)) := by omega
      clear hlt
      have HSV : Hid (∀ U, Below wr.heap.size wr U → U.cell? ⟨b4, 0, none⟩ = some (.int .i64 (WW)) ∧ U.cell? ⟨b4, 1, none⟩ = some (.int .i64 (HH)) ∧ U.cell? ⟨b4, 2, none⟩ = some (.int .i64 (SS)) ∧ U.cell? ⟨b4, 3, none⟩ = some (.slice A ss.length c) ∧ U.cell? ⟨b5, 0, none⟩ = some (.int .i64 (lo)) ∧ U.cell? ⟨b5, 1, none⟩ = some (.int .i64 (hi))) := fun U hU => by
       have kb4 := Hb4.out.below hU Hb4.out.lt
       have kb5 := Hb5.out.below hU Hb5.out.lt
       exact ⟨kb4.cell 0, kb4.cell 1, kb4.cell 2, kb4.cell 3, kb5.cell 0, kb5.cell 1⟩
      have k0 := HSV.out _ (Below.drew (Below.refl wr.heap.size wr))
      refine wp_region_noPanic ?_
      refine wp_region_held_drew (S := (fun w' => w'.cell? ⟨b4, 0, none⟩ = some (.int .i64 (WW)) ∧ w'.cell? ⟨b4, 1, none⟩ = some (.int .i64 (HH)) ∧ w'.cell? ⟨b4, 2, none⟩ = some (.int .i64 (SS)) ∧ w'.cell? ⟨b4, 3, none⟩ = some (.slice A ss.length c) ∧ w'.cell? ⟨b5, 0, none⟩ = some (.int .i64 (lo)) ∧ w'.cell? ⟨b5, 1, none⟩ = some (.int .i64 (hi)))) (by kernel_rfl) ?_ (fun hHeld => ?_)
      · (try dsimp only); (exact k0)
      refine tH 0 Zai ?_ ?_ ?_
      rotate_left
      · ((intro w hSw; delta Zai; (try dsimp only at hSw); go_simp) <;> with_reducible rfl)
      try simp only [Zai, ksz]
      refine tH 1 Zaj ?_ ?_ ?_
      rotate_left
      · ((intro w hSw; delta Zaj; (try dsimp only at hSw); go_simp) <;> with_reducible rfl)
      try simp only [Zaj, ksz]
      obtain ⟨W0, hW0⟩ : ∃ V, wr.drew = V := ⟨_, rfl⟩; rw [hW0] at hHeld ⊢; have HB0 : Hid (Below wr.heap.size wr W0) := (by rw [← hW0]; exact Below.drew (Below.refl _ _)); clear hW0
      refine wpAnyH_ready (rs := [2]) (by kernel_rfl) (by simp) ?_
      refine AllReadyH.cons (o := Zak) rfl (fun K hK => ?_) AllReadyH.nil
      delta Zak
      go_simp
      refine hK.out _ _ ?_ (fun hHeld => ?_)
      · (try dsimp only); (exact HSV.out _ HB0.out)
      clear hK K
      try simp only [Zak, ksz]
      refine tH 3 Zal ?_ ?_ ?_
      rotate_left
      · ((intro w hSw; delta Zal; (try dsimp only at hSw); go_simp) <;> with_reducible rfl)
      try simp only [Zal, ksz]
      refine tH 4 Zam ?_ ?_ ?_
      rotate_left
      · ((intro w hSw; delta Zam; (try dsimp only at hSw); go_simp) <;> with_reducible rfl)
      try simp only [Zam, ksz]
      refine wpAnyH_take (i := 5) (oi := Zan) (v := undef) rfl (by kernel_rfl) (by kernel_rfl) (by kernel_rfl) (fun _ _ _ h => h) (Or.inr ⟨by rfl, rfl⟩) (by assumption) ?_
      try simp only [Zan, ksz]
      refine wpAnyH_take (i := 6) (oi := Zao) (v := undef) rfl (by kernel_rfl) (by kernel_rfl) (by kernel_rfl) (fun _ _ _ h => h) (Or.inr ⟨by rfl, rfl⟩) (by assumption) ?_
      try simp only [Zao, ksz]
      refine wpAnyH_take (i := 7) (oi := Zap) (v := undef) rfl (by kernel_rfl) (by kernel_rfl) (by kernel_rfl) (fun _ _ _ h => h) (Or.inr ⟨by rfl, rfl⟩) (by assumption) ?_
      try simp only [Zap, ksz]
      refine wpAnyH_take (i := 8) (oi := Zaq) (v := undef) rfl (by kernel_rfl) (by kernel_rfl) (by kernel_rfl) (fun _ _ _ h => h) (Or.inr ⟨by rfl, rfl⟩) (by assumption) ?_
      try simp only [Zaq, ksz]
      refine wpAnyH_take (i := 9) (oi := Zar) (v := undef) rfl (by kernel_rfl) (by kernel_rfl) (by kernel_rfl) (fun _ _ _ h => h) (Or.inr ⟨by rfl, rfl⟩) (by assumption) ?_
      try simp only [Zar, ksz]
      refine wpAnyH_take (i := 10) (oi := Zas) (v := undef) rfl (by kernel_rfl) (by kernel_rfl) (by kernel_rfl) (fun _ _ _ h => h) (Or.inr ⟨by rfl, rfl⟩) (by assumption) ?_
      try simp only [Zas, ksz]
      refine wpAnyH_take (i := 11) (oi := Zat) (v := undef) rfl (by kernel_rfl) (by kernel_rfl) (by kernel_rfl) (fun _ _ _ h => h) (Or.inr ⟨by rfl, rfl⟩) (by assumption) ?_
      try simp only [Zat, ksz]
      refine wpAnyH_take (i := 12) (oi := Zau) (v := undef) rfl (by kernel_rfl) (by kernel_rfl) (by kernel_rfl) (fun _ _ _ h => h) (Or.inr ⟨by rfl, rfl⟩) (by assumption) ?_
      try simp only [Zau, ksz]
      refine wpAnyH_take (i := 13) (oi := Zav) (v := undef) rfl (by kernel_rfl) (by kernel_rfl) (by kernel_rfl) (fun _ _ _ h => h) (Or.inr ⟨by rfl, rfl⟩) (by assumption) ?_
      try simp only [Zav, ksz]
      refine tH 14 Zaw ?_ ?_ ?_
      rotate_left
      · ((intro w hSw; delta Zaw; (try dsimp only at hSw); go_simp) <;> with_reducible rfl)
      try simp only [Zaw, ksz]
      refine wpAnyH_done (by kernel_rfl) ?_ _
      refine NoPanic.normal ?_
      clear HSV k0
      clear hHeld
      obtain ⟨Va201, hVU⟩ : ∃ V, W0 = V := ⟨_, rfl⟩
      rw [hVU] at HB0 ⊢
      have HZ := HB0
      clear HB0 hVU
      replace Hb4 := kbl Hb4 HZ
      replace Hb5 := kbl Hb5 HZ
      replace HB := ktr' HB HZ
      replace HL := Lib.hid (HL.out.later HZ.out (Nat.le_refl _))
      clear HZ
      go_wp2_with fail
      go_meet
      exact ⟨rfl, Hb4, Hb5, HB, HL⟩
     have hlt2 : ((kk : Int) < (L.length : Int)) := by omega
     obtain ⟨bl, ol, hal, hbl, cq⟩ := HL.out.at_ hlt
     have hmx := HMEM.out _ (List.getElem_mem hlt)
     have hqv : bq = mayB ⟨WW, HH, SS, ss⟩ (lo, hi) L[kk] := by rw [← HBQ.out]; cases hz : mayB ⟨WW, HH, SS, ss⟩ (lo, hi) L[kk] with
      | true => exact decide_eq_true ⟨hlt, hz⟩
      | false => exact decide_eq_false (fun ⟨h, h'⟩ => by rw [hz] at h'; cases h')
     obtain ⟨x, hx⟩ : ∃ z, L[kk] = z := ⟨_, rfl⟩
     rw [hx] at cq hmx hqv
     obtain ⟨xn, rfl⟩ : ∃ m : Nat, x = (m : Int) := ⟨x.toNat, by omega⟩
     have hxn : xn < ss.length := by omega
     obtain ⟨⟨p1, p2⟩, hdp⟩ : ∃ z, dpZ ⟨WW, HH, SS, ss⟩ (lo, hi) (xn : Int) = z := ⟨_, rfl⟩
     have hqv2 : bq = decide (1 ≤ p2) := by rw [hqv]; unfold mayB; rw [hdp]
     have HDP := Lib.hid hdp
     have HXN := Lib.hid hxn
     have HQV := Lib.hid hqv2
     subst hal
     clear hqv hqv2 hx hdp hmx hxn
     have HSV : Hid (∀ U, Below wr.heap.size wr U → U.cell? ⟨b4, 0, none⟩ = some (.int .i64 (WW)) ∧ U.cell? ⟨b4, 1, none⟩ = some (.int .i64 (HH)) ∧ U.cell? ⟨b4, 2, none⟩ = some (.int .i64 (SS)) ∧ U.cell? ⟨b4, 3, none⟩ = some (.slice A ss.length c) ∧ U.cell? ⟨b5, 0, none⟩ = some (.int .i64 (lo)) ∧ U.cell? ⟨b5, 1, none⟩ = some (.int .i64 (hi)) ∧ U.cell? ⟨bl, ol + kk, none⟩ = some (.int .i64 ((xn : Int)))) := fun U hU => by
      have kb4 := Hb4.out.below hU Hb4.out.lt
      have kb5 := Hb5.out.below hU Hb5.out.lt
      exact ⟨kb4.cell 0, kb4.cell 1, kb4.cell 2, kb4.cell 3, kb5.cell 0, kb5.cell 1, (hU.cell (p := ⟨bl, ol + kk, none⟩) hbl).trans cq⟩
     have k0 := HSV.out _ (Below.drew (Below.refl wr.heap.size wr))
     refine wp_region_noPanic ?_
     refine wp_region_held_drew (S := (fun w' => w'.cell? ⟨b4, 0, none⟩ = some (.int .i64 (WW)) ∧ w'.cell? ⟨b4, 1, none⟩ = some (.int .i64 (HH)) ∧ w'.cell? ⟨b4, 2, none⟩ = some (.int .i64 (SS)) ∧ w'.cell? ⟨b4, 3, none⟩ = some (.slice A ss.length c) ∧ w'.cell? ⟨b5, 0, none⟩ = some (.int .i64 (lo)) ∧ w'.cell? ⟨b5, 1, none⟩ = some (.int .i64 (hi)) ∧ w'.cell? ⟨bl, ol + kk, none⟩ = some (.int .i64 ((xn : Int))))) (by kernel_rfl) ?_ (fun hHeld => ?_)
     · (try dsimp only); (exact k0)
     refine tH 0 Zai ?_ ?_ ?_
     rotate_left
     · ((intro w hSw; delta Zai; (try dsimp only at hSw); go_simp) <;> with_reducible rfl)
     try simp only [Zai, ksz]
     refine tH 1 Zaj ?_ ?_ ?_
     rotate_left
     · ((intro w hSw; delta Zaj; (try dsimp only at hSw); go_simp) <;> with_reducible rfl)
     try simp only [Zaj, ksz]
     obtain ⟨W0, hW0⟩ : ∃ V, wr.drew = V := ⟨_, rfl⟩; rw [hW0] at hHeld ⊢; have HB0 : Hid (Below wr.heap.size wr W0) := (by rw [← hW0]; exact Below.drew (Below.refl _ _)); clear hW0
     refine wpAnyH_ready (rs := [2]) (by kernel_rfl) (by simp) ?_
     refine AllReadyH.cons (o := Zak) rfl (fun K hK => ?_) AllReadyH.nil
     delta Zak
     go_simp
     refine hK.out _ _ ?_ (fun hHeld => ?_)
     · (try dsimp only); (exact HSV.out _ HB0.out)
     clear hK K
     try simp only [Zak, ksz]
     refine tH 3 Zal ?_ ?_ ?_
     rotate_left
     · ((intro w hSw; delta Zal; (try dsimp only at hSw); go_simp) <;> with_reducible rfl)
     try simp only [Zal, ksz]
     refine tH 4 Zam ?_ ?_ ?_
     rotate_left
     · ((intro w hSw; delta Zam; (try dsimp only at hSw); go_simp) <;> with_reducible rfl)
     try simp only [Zam, ksz]
     refine tH 5 Zan ?_ ?_ ?_
     rotate_left
     · ((intro w hSw; delta Zan; (try dsimp only at hSw); go_simp) <;> with_reducible rfl)
     try simp only [Zan, ksz]
     refine tH 6 Zao ?_ ?_ ?_
     rotate_left
     · ((intro w hSw; delta Zao; (try dsimp only at hSw); go_simp) <;> with_reducible rfl)
     try simp only [Zao, ksz]
     refine tH 7 Zap ?_ ?_ ?_
     rotate_left
     · ((intro w hSw; delta Zap; (try dsimp only at hSw); go_simp) <;> with_reducible rfl)
     try simp only [Zap, ksz]
     refine tH 8 Zaq ?_ ?_ ?_
     rotate_left
     · ((intro w hSw; delta Zaq; (try dsimp only at hSw); go_simp) <;> with_reducible rfl)
     try simp only [Zaq, ksz]
     refine tH 9 Zar ?_ ?_ ?_
     rotate_left
     · ((intro w hSw; delta Zar; (try dsimp only at hSw); go_simp) <;> with_reducible rfl)
     try simp only [Zar, ksz]
     refine tH 10 Zas ?_ ?_ ?_
     rotate_left
     · ((intro w hSw; delta Zas; (try dsimp only at hSw); go_simp) <;> with_reducible rfl)
     try simp only [Zas, ksz]
     refine wpAnyH_ready (rs := [11]) (by kernel_rfl) (by simp) ?_
     refine AllReadyH.cons (o := Zat) rfl (fun K hK => ?_) AllReadyH.nil
     delta Zat
     go_simp
     (refine (rDepth_any ⟨WW, HH, SS, ss⟩ A c lo hi xn _ (HS0.out.later (HB.out.trans (HB0.out.mono HB.out.size)) (Nat.le_refl _)) HXN.out HE.out HSE.out).mono ?_; rintro e W1 ⟨rfl, hb⟩; have HB1 := Lib.hid (HB0.out.trans (hb.mono HB0.out.size)); clear hb; rw [HDP.out])
     refine hK.out _ _ ?_ (fun hHeld => ?_)
     · (try dsimp only); (exact HSV.out _ HB1.out)
     clear hK K
     try simp only [Zat, ksz]
     refine tH 12 Zau ?_ ?_ ?_
     rotate_left
     · ((intro w hSw; delta Zau; (try dsimp only at hSw); go_simp) <;> with_reducible rfl)
     try simp only [Zau, ksz]
     refine tH 13 Zav ?_ ?_ ?_
     rotate_left
     · ((intro w hSw; delta Zav; (try dsimp only at hSw); go_simp) <;> with_reducible rfl)
     try simp only [Zav, ksz]
     refine tH 14 Zaw ?_ ?_ ?_
     rotate_left
     · ((intro w hSw; delta Zaw; (try dsimp only at hSw); go_simp) <;> with_reducible rfl)
     try simp only [Zaw, ksz]
     refine wpAnyH_done (by kernel_rfl) ?_ _
     refine NoPanic.normal ?_
     clear HSV k0
     clear hHeld HB0
     obtain ⟨Va251, hVU⟩ : ∃ V, W1 = V := ⟨_, rfl⟩
     rw [hVU] at HB1 ⊢
     have HZ := HB1
     clear HB1 hVU
     replace Hb4 := kbl Hb4 HZ
     replace Hb5 := kbl Hb5 HZ
     replace HB := ktr' HB HZ
     replace HL := Lib.hid (HL.out.later HZ.out (Nat.le_refl _))
     clear HZ
     go_wp2_with fail
     go_meet
     exact ⟨by rw [HQV.out], Hb4, Hb5, HB, HL⟩
    case rest =>
     clear Hb4 Hb5 HB HL
     obtain ⟨rfl, Hb4, Hb5, HB, HL⟩ := hcut
     by_cases hq : bq = true
     ·
      subst hq
      obtain ⟨hlt, hsq⟩ := of_decide_eq_true HBQ.out
      have HSQ := Lib.hid hsq
      clear hsq
      go_wp2
      go_roundw
      case rel => exact ⟨kk + 1, by omega, by go_num, (fun j h hj => by
       rcases Nat.lt_succ_iff_lt_or_eq.1 hj with h1 | h1
       · exact HPT.out j h h1
       · subst h1
         exact HSQ.out), Hb4, Hb5, HB, HL⟩
      case measure => simp [intOf] <;> omega
     have hq : bq = false := by simpa using hq
     subst hq
     have HTW : Hid (L.takeWhile (mayB ⟨WW, HH, SS, ss⟩ (lo, hi)) = L.take kk) := takeWhile_is _ L kk hk (fun j hj => HPT.out j (by omega) hj) (by
      rcases Nat.lt_or_ge kk L.length with h | h
      · refine Or.inr ⟨h, ?_⟩
        cases hz : mayB ⟨WW, HH, SS, ss⟩ (lo, hi) L[kk] with
        | true => exact absurd ⟨h, hz⟩ (of_decide_eq_false HBQ.out)
        | false => rfl
      · exact Or.inl (by omega))
     have HKkk := Lib.hid hk
     have HTkk := HTW
     clear HTW HPT HBQ hk hwk
     --@A
     have w1 : (nn : Int) ≤ (cl : Int) := by have := HKnn.out; omega
     have w2 : (kk : Int) ≤ (cl : Int) := by have := HKkk.out; omega
     have w1' : nn ≤ cl := by omega
     have w2' : kk ≤ cl := by omega
     go_upto_region 7 with (fail)
     have HSV : Hid (∀ U, Below wc.heap.size wc U → U.cell? ⟨b4, 0, none⟩ = some (.int .i64 (WW)) ∧ U.cell? ⟨b4, 1, none⟩ = some (.int .i64 (HH)) ∧ U.cell? ⟨b4, 2, none⟩ = some (.int .i64 (SS)) ∧ U.cell? ⟨b4, 3, none⟩ = some (.slice A ss.length c)) := fun U hU => by
      have kb4 := Hb4.out.below hU Hb4.out.lt
      exact ⟨kb4.cell 0, kb4.cell 1, kb4.cell 2, kb4.cell 3⟩
     have k0 := HSV.out _ (Below.drew (Below.refl wc.heap.size wc))
     refine wp_region_noPanic ?_
     refine wp_region_held_drew (S := (fun w' => w'.cell? ⟨b4, 0, none⟩ = some (.int .i64 (WW)) ∧ w'.cell? ⟨b4, 1, none⟩ = some (.int .i64 (HH)) ∧ w'.cell? ⟨b4, 2, none⟩ = some (.int .i64 (SS)) ∧ w'.cell? ⟨b4, 3, none⟩ = some (.slice A ss.length c))) (by kernel_rfl) ?_ (fun hHeld => ?_)
     · (try dsimp only); (exact k0)
     refine tH 0 Zax ?_ ?_ ?_
     rotate_left
     · ((intro w hSw; delta Zax; (try dsimp only at hSw); go_simp) <;> with_reducible rfl)
     try simp only [Zax, ksz]
     refine tH 1 Zay ?_ ?_ ?_
     rotate_left
     · ((intro w hSw; delta Zay; (try dsimp only at hSw); go_simp) <;> with_reducible rfl)
     try simp only [Zay, ksz]
     refine tH 3 Zb0 ?_ ?_ ?_
     rotate_left
     · ((intro w hSw; delta Zb0; (try dsimp only at hSw); go_simp) <;> with_reducible rfl)
     try simp only [Zb0, ksz]
     refine tH 4 Zb1 ?_ ?_ ?_
     rotate_left
     · ((intro w hSw; delta Zb1; (try dsimp only at hSw); go_simp) <;> with_reducible rfl)
     try simp only [Zb1, ksz]
     refine tH 2 Zaz ?_ ?_ ?_
     rotate_left
     · ((intro w hSw; delta Zaz; (try dsimp only at hSw); go_simp) <;> with_reducible rfl)
     try simp only [Zaz, ksz]
     refine tH 5 Zb2 ?_ ?_ ?_
     rotate_left
     · ((intro w hSw; delta Zb2; (try dsimp only at hSw); go_simp) <;> with_reducible rfl)
     try simp only [Zb2, ksz]
     refine tH 6 Zb3 ?_ ?_ ?_
     rotate_left
     · ((intro w hSw; delta Zb3; (try dsimp only at hSw); go_simp) <;> with_reducible rfl)
     try simp only [Zb3, ksz]
     refine tH 7 Zb4 ?_ ?_ ?_
     rotate_left
     · ((intro w hSw; delta Zb4; (try dsimp only at hSw); go_simp) <;> with_reducible rfl)
     try simp only [Zb4, ksz]
     obtain ⟨W0, hW0⟩ : ∃ V, wc.drew = V := ⟨_, rfl⟩; rw [hW0] at hHeld ⊢; have HB0 : Hid (Below wc.heap.size wc W0) := (by rw [← hW0]; exact Below.drew (Below.refl _ _)); clear hW0
     refine wpAnyH_done (by kernel_rfl) ?_ _
     refine NoPanic.normal ?_
     clear HSV k0
     clear hHeld
     obtain ⟨Va3, hVU⟩ : ∃ V, W0 = V := ⟨_, rfl⟩
     rw [hVU] at HB0 ⊢
     have HZ := HB0
     clear HB0 hVU
     replace Hb4 := kbl Hb4 HZ
     replace Hb5 := kbl Hb5 HZ
     replace HB := ktr' HB HZ
     replace HL := Lib.hid (HL.out.later HZ.out (Nat.le_refl _))
     clear HZ
     go_wp2
     refine bodyPost_ret (v := .tuple #[.slice al nn cl, .slice al kk cl]) (by simp [results, Tryd.results65, go_sem]) rfl ⟨_, _, rfl, ?_, ?_, HB.out⟩
     · rw [HSU.out, HTnn.out]
       exact ints_take HL.out HKnn.out
     · rw [HMU.out, HTkk.out]
       exact ints_take HL.out HKkk.out
end Go.Proofs.YtdhcdgfpkjdihaaDoor.Sg
