/-
  Layer 3, the reference: rise.
-/
import Derived.Test.YtdhcdgfpkjdihaaDoorVR4b
set_option linter.unusedSimpArgs false
set_option linter.unusedVariables false
namespace Go.Proofs.YtdhcdgfpkjdihaaDoor.Sg
open Go.RowKit
def Zb5 : Oper := ⟨some 20, .fieldAddr 24 (.tmp 6) 2, 0, "ref.go:148", #[], none⟩
def Zb6 : Oper := ⟨some 21, .load 3 (.tmp 20), 3, "ref.go:148", #[⟨0, .data⟩], none⟩
def Zb7 : Oper := ⟨some 22, .binOp BinOp.mul 3 (.const (Value.int IntKind.i64 100)) (.tmp 21) 3, 3, "ref.go:148", #[⟨1, .data⟩], none⟩
def Zb8 : Oper := ⟨some 23, .fieldAddr 24 (.tmp 6) 2, 0, "ref.go:148", #[⟨6, .gcOnly .lateStores⟩], none⟩
def Zb9 : Oper := ⟨some 24, .load 3 (.tmp 23), 3, "ref.go:148", #[⟨3, .data⟩, ⟨6, .gcOnly .lateStores⟩], none⟩
def Zba : Oper := ⟨some 25, .binOp BinOp.mul 3 (.const (Value.int IntKind.i64 100)) (.tmp 24) 3, 3, "ref.go:148", #[⟨4, .data⟩, ⟨6, .gcOnly .lateStores⟩], none⟩
def Zbb : Oper := ⟨some 13, .assign (.tmp 22), 3, "ref.go:148", #[⟨2, .data⟩, ⟨0, .phase⟩, ⟨1, .phase⟩, ⟨2, .phase⟩, ⟨3, .textOnly .lateStores⟩, ⟨4, .textOnly .lateStores⟩, ⟨5, .textOnly .lateStores⟩], none⟩
def Zbc : Oper := ⟨some 14, .assign (.tmp 25), 3, "ref.go:148", #[⟨5, .data⟩, ⟨6, .chain⟩, ⟨0, .phase⟩, ⟨1, .phase⟩, ⟨2, .phase⟩, ⟨3, .phase⟩, ⟨4, .phase⟩, ⟨5, .phase⟩, ⟨6, .phase⟩], none⟩
def Zbd : Oper := ⟨some 29, .fieldAddr 24 (.tmp 6) 2, 0, "ref.go:150", #[], none⟩
def Zbe : Oper := ⟨some 30, .load 3 (.tmp 29), 3, "ref.go:150", #[⟨0, .data⟩], none⟩
def Zbf : Oper := ⟨some 31, .binOp BinOp.mul 3 (.const (Value.int IntKind.i64 141)) (.tmp 30) 3, 3, "ref.go:150", #[⟨1, .data⟩], none⟩
def Zbg : Oper := ⟨some 32, .fieldAddr 24 (.tmp 6) 2, 0, "ref.go:150", #[⟨6, .gcOnly .lateStores⟩], none⟩
def Zbh : Oper := ⟨some 33, .load 3 (.tmp 32), 3, "ref.go:150", #[⟨3, .data⟩, ⟨6, .gcOnly .lateStores⟩], none⟩
def Zbi : Oper := ⟨some 34, .binOp BinOp.mul 3 (.const (Value.int IntKind.i64 142)) (.tmp 33) 3, 3, "ref.go:150", #[⟨4, .data⟩, ⟨6, .gcOnly .lateStores⟩], none⟩
def Zbj : Oper := ⟨some 13, .assign (.tmp 31), 3, "ref.go:150", #[⟨2, .data⟩, ⟨0, .phase⟩, ⟨1, .phase⟩, ⟨2, .phase⟩, ⟨3, .textOnly .lateStores⟩, ⟨4, .textOnly .lateStores⟩, ⟨5, .textOnly .lateStores⟩], none⟩
def Zbk : Oper := ⟨some 14, .assign (.tmp 34), 3, "ref.go:150", #[⟨5, .data⟩, ⟨6, .chain⟩, ⟨0, .phase⟩, ⟨1, .phase⟩, ⟨2, .phase⟩, ⟨3, .phase⟩, ⟨4, .phase⟩, ⟨5, .phase⟩, ⟨6, .phase⟩], none⟩
def Zbl : Oper := ⟨some 50, .fieldAddr 26 (.tmp 17) 0, 0, "ref.go:155", #[], none⟩
def Zbm : Oper := ⟨some 51, .load 3 (.tmp 50), 3, "ref.go:155", #[⟨0, .data⟩], none⟩
def Zbn : Oper := ⟨some 52, .fieldAddr 40 (.tmp 8) 0, 0, "ref.go:155", #[], none⟩
def Zbo : Oper := ⟨some 53, .fieldAddr 26 (.tmp 52) 0, 0, "ref.go:155", #[⟨2, .data⟩], none⟩
def Zbp : Oper := ⟨some 54, .load 3 (.tmp 53), 3, "ref.go:155", #[⟨3, .data⟩], none⟩
def Zbq : Oper := ⟨some 55, .fieldAddr 26 (.tmp 11) 0, 0, "ref.go:155", #[], none⟩
def Zbr : Oper := ⟨some 56, .load 3 (.tmp 55), 3, "ref.go:155", #[⟨5, .data⟩], none⟩
def Zbs : Oper := ⟨some 57, .binOp BinOp.mul 3 (.tmp 54) (.tmp 56) 3, 3, "ref.go:155", #[⟨4, .data⟩, ⟨6, .data⟩], none⟩
def Zbt : Oper := ⟨some 58, .fieldAddr 26 (.tmp 11) 0, 0, "ref.go:155", #[], none⟩
def Zbu : Oper := ⟨some 59, .load 3 (.tmp 58), 3, "ref.go:155", #[⟨8, .data⟩], none⟩
def Zbv : Oper := ⟨some 60, .binOp BinOp.mul 3 (.tmp 57) (.tmp 59) 3, 3, "ref.go:155", #[⟨7, .data⟩, ⟨9, .data⟩], none⟩
def Zbw : Oper := ⟨some 61, .move (.tmp 13), 3, "ref.go:155", #[], none⟩
def Zbx : Oper := ⟨some 62, .binOp BinOp.mul 3 (.tmp 60) (.tmp 61) 3, 3, "ref.go:155", #[⟨10, .data⟩, ⟨11, .data⟩], none⟩
def Zby : Oper := ⟨some 63, .load 24 (.tmp 6), 24, "ref.go:155", #[], none⟩
def Zbz : Oper := ⟨some 64, .load 26 (.tmp 7), 26, "ref.go:155", #[], none⟩
def Zc0 : Oper := ⟨some 65, .move (.tmp 15), 34, "ref.go:155", #[], none⟩
def Zc1 : Oper := ⟨some 66, .move (.tmp 18), 3, "ref.go:155", #[], none⟩
def Zc2 : Oper := ⟨some 67, .indexAddr 34 (.tmp 65) (.tmp 66), 0, "ref.go:155", #[⟨15, .data⟩, ⟨16, .data⟩], none⟩
def Zc3 : Oper := ⟨some 68, .load 3 (.tmp 67), 3, "ref.go:155", #[⟨17, .data⟩], none⟩
def Zc4 : Oper := ⟨some 69, .call { callee := Callee.value (.func 109), args := #[.tmp 63, .tmp 64, .tmp 68], argTypes := #[24, 26, 3] }, 26, "ref.go:155", #[⟨13, .data⟩, ⟨14, .data⟩, ⟨18, .data⟩], none⟩
def Zc5 : Oper := ⟨some 70, .field 26 (.tmp 69) 1, 3, "ref.go:155", #[⟨19, .data⟩], none⟩
def Zc6 : Oper := ⟨some 71, .binOp BinOp.mul 3 (.const (Value.int IntKind.i64 3832031250)) (.tmp 70) 3, 3, "ref.go:155", #[⟨20, .data⟩], none⟩
def Zc7 : Oper := ⟨some 72, .call { callee := Callee.value (.func 116), args := #[.tmp 62, .tmp 71], argTypes := #[3, 3] }, 3, "ref.go:155", #[⟨12, .data⟩, ⟨21, .data⟩, ⟨19, .chain⟩], none⟩
def Zc8 : Oper := ⟨some 73, .binOp BinOp.add 3 (.tmp 51) (.tmp 72) 3, 3, "ref.go:155", #[⟨1, .data⟩, ⟨22, .data⟩], none⟩
def Zc9 : Oper := ⟨some 74, .fieldAddr 26 (.tmp 17) 0, 0, "ref.go:155", #[⟨0, .phase⟩, ⟨1, .phase⟩, ⟨2, .phase⟩, ⟨3, .phase⟩, ⟨4, .phase⟩, ⟨5, .phase⟩, ⟨6, .phase⟩, ⟨7, .phase⟩, ⟨8, .phase⟩, ⟨9, .phase⟩, ⟨10, .phase⟩, ⟨11, .phase⟩, ⟨12, .phase⟩, ⟨13, .phase⟩, ⟨14, .phase⟩, ⟨15, .phase⟩, ⟨16, .phase⟩, ⟨17, .phase⟩, ⟨18, .phase⟩, ⟨19, .phase⟩, ⟨20, .phase⟩, ⟨21, .phase⟩, ⟨22, .phase⟩, ⟨23, .phase⟩], none⟩
def Zca : Oper := ⟨none, .store 3 (.tmp 74) (.tmp 73), 0, "ref.go:155", #[⟨24, .data⟩, ⟨23, .data⟩, ⟨22, .chain⟩, ⟨0, .phase⟩, ⟨1, .phase⟩, ⟨2, .phase⟩, ⟨3, .phase⟩, ⟨4, .phase⟩, ⟨5, .phase⟩, ⟨6, .phase⟩, ⟨7, .phase⟩, ⟨8, .phase⟩, ⟨9, .phase⟩, ⟨10, .phase⟩, ⟨11, .phase⟩, ⟨12, .phase⟩, ⟨13, .phase⟩, ⟨14, .phase⟩, ⟨15, .phase⟩, ⟨16, .phase⟩, ⟨17, .phase⟩, ⟨18, .phase⟩, ⟨19, .phase⟩, ⟨20, .phase⟩, ⟨21, .phase⟩, ⟨22, .phase⟩, ⟨23, .phase⟩], none⟩
def Zcb : Oper := ⟨some 81, .fieldAddr 26 (.tmp 17) 1, 0, "ref.go:158", #[], none⟩
def Zcc : Oper := ⟨some 82, .load 3 (.tmp 81), 3, "ref.go:158", #[⟨0, .data⟩], none⟩
def Zcd : Oper := ⟨some 83, .fieldAddr 40 (.tmp 8) 0, 0, "ref.go:158", #[], none⟩
def Zce : Oper := ⟨some 84, .fieldAddr 26 (.tmp 83) 1, 0, "ref.go:158", #[⟨2, .data⟩], none⟩
def Zcf : Oper := ⟨some 85, .load 3 (.tmp 84), 3, "ref.go:158", #[⟨3, .data⟩], none⟩
def Zcg : Oper := ⟨some 86, .fieldAddr 26 (.tmp 11) 1, 0, "ref.go:158", #[], none⟩
def Zch : Oper := ⟨some 87, .load 3 (.tmp 86), 3, "ref.go:158", #[⟨5, .data⟩], none⟩
def Zci : Oper := ⟨some 88, .binOp BinOp.mul 3 (.tmp 85) (.tmp 87) 3, 3, "ref.go:158", #[⟨4, .data⟩, ⟨6, .data⟩], none⟩
def Zcj : Oper := ⟨some 89, .fieldAddr 26 (.tmp 11) 1, 0, "ref.go:158", #[], none⟩
def Zck : Oper := ⟨some 90, .load 3 (.tmp 89), 3, "ref.go:158", #[⟨8, .data⟩], none⟩
def Zcl : Oper := ⟨some 91, .binOp BinOp.mul 3 (.tmp 88) (.tmp 90) 3, 3, "ref.go:158", #[⟨7, .data⟩, ⟨9, .data⟩], none⟩
def Zcm : Oper := ⟨some 92, .move (.tmp 14), 3, "ref.go:158", #[], none⟩
def Zcn : Oper := ⟨some 93, .binOp BinOp.mul 3 (.tmp 91) (.tmp 92) 3, 3, "ref.go:158", #[⟨10, .data⟩, ⟨11, .data⟩], none⟩
def Zco : Oper := ⟨some 94, .load 24 (.tmp 6), 24, "ref.go:158", #[], none⟩
def Zcp : Oper := ⟨some 95, .load 26 (.tmp 7), 26, "ref.go:158", #[], none⟩
def Zcq : Oper := ⟨some 96, .move (.tmp 16), 34, "ref.go:158", #[], none⟩
def Zcr : Oper := ⟨some 97, .move (.tmp 19), 3, "ref.go:158", #[], none⟩
def Zcs : Oper := ⟨some 98, .indexAddr 34 (.tmp 96) (.tmp 97), 0, "ref.go:158", #[⟨15, .data⟩, ⟨16, .data⟩], none⟩
def Zct : Oper := ⟨some 99, .load 3 (.tmp 98), 3, "ref.go:158", #[⟨17, .data⟩], none⟩
def Zcu : Oper := ⟨some 100, .call { callee := Callee.value (.func 109), args := #[.tmp 94, .tmp 95, .tmp 99], argTypes := #[24, 26, 3] }, 26, "ref.go:158", #[⟨13, .data⟩, ⟨14, .data⟩, ⟨18, .data⟩], none⟩
def Zcv : Oper := ⟨some 101, .field 26 (.tmp 100) 0, 3, "ref.go:158", #[⟨19, .data⟩], none⟩
def Zcw : Oper := ⟨some 102, .call { callee := Callee.builtin Builtin.max, args := #[.const (Value.int IntKind.i64 1), .tmp 101], argTypes := #[3, 3] }, 3, "ref.go:158", #[⟨20, .data⟩], none⟩
def Zcx : Oper := ⟨some 103, .binOp BinOp.mul 3 (.const (Value.int IntKind.i64 3832031250)) (.tmp 102) 3, 3, "ref.go:158", #[⟨21, .data⟩], none⟩
def Zcy : Oper := ⟨some 104, .call { callee := Callee.value (.func 117), args := #[.tmp 93, .tmp 103], argTypes := #[3, 3] }, 3, "ref.go:158", #[⟨12, .data⟩, ⟨22, .data⟩, ⟨19, .chain⟩], none⟩
def Zcz : Oper := ⟨some 105, .binOp BinOp.add 3 (.tmp 82) (.tmp 104) 3, 3, "ref.go:158", #[⟨1, .data⟩, ⟨23, .data⟩], none⟩
def Zd0 : Oper := ⟨some 106, .fieldAddr 26 (.tmp 17) 1, 0, "ref.go:158", #[⟨0, .phase⟩, ⟨1, .phase⟩, ⟨2, .phase⟩, ⟨3, .phase⟩, ⟨4, .phase⟩, ⟨5, .phase⟩, ⟨6, .phase⟩, ⟨7, .phase⟩, ⟨8, .phase⟩, ⟨9, .phase⟩, ⟨10, .phase⟩, ⟨11, .phase⟩, ⟨12, .phase⟩, ⟨13, .phase⟩, ⟨14, .phase⟩, ⟨15, .phase⟩, ⟨16, .phase⟩, ⟨17, .phase⟩, ⟨18, .phase⟩, ⟨19, .phase⟩, ⟨20, .phase⟩, ⟨21, .phase⟩, ⟨22, .phase⟩, ⟨23, .phase⟩, ⟨24, .phase⟩], none⟩
def Zd1 : Oper := ⟨none, .store 3 (.tmp 106) (.tmp 105), 0, "ref.go:158", #[⟨25, .data⟩, ⟨24, .data⟩, ⟨23, .chain⟩, ⟨0, .phase⟩, ⟨1, .phase⟩, ⟨2, .phase⟩, ⟨3, .phase⟩, ⟨4, .phase⟩, ⟨5, .phase⟩, ⟨6, .phase⟩, ⟨7, .phase⟩, ⟨8, .phase⟩, ⟨9, .phase⟩, ⟨10, .phase⟩, ⟨11, .phase⟩, ⟨12, .phase⟩, ⟨13, .phase⟩, ⟨14, .phase⟩, ⟨15, .phase⟩, ⟨16, .phase⟩, ⟨17, .phase⟩, ⟨18, .phase⟩, ⟨19, .phase⟩, ⟨20, .phase⟩, ⟨21, .phase⟩, ⟨22, .phase⟩, ⟨23, .phase⟩, ⟨24, .phase⟩], none⟩
theorem take_sub {α : Type} {l : List α} {k : Nat} {x : α} (h : x ∈ l.take k) : x ∈ l := List.mem_of_mem_take h
theorem lo_facts {g : G} {sea : Int × Int} {m : Mo} {c : Int} {d : Nat} {s : Int × Int} (hd : d < 8) (hE : checkE g = 0) (hse : spOk (-20000) 20000 sea = true) (hm : moE m = 0) (hs : spOk 0 10000 s = true) (hc : 0 ≤ c ∧ c < g.ss.length) :
 (∀ x ∈ sureZ g sea c d, (0 ≤ x ∧ x < g.ss.length) ∧ (1 ≤ (dpZ g sea x).2 ∧ (dpZ g sea x).2 ≤ 1220000) ∧ 0 ≤ partLo g sea m d s x ∧ partLo g sea m d s x ≤ 370600000) ∧ (∀ k, 0 ≤ sumZ (partLo g sea m d s) ((sureZ g sea c d).take k) ∧ sumZ (partLo g sea m d s) ((sureZ g sea c d).take k) ≤ 8600000000) ∧ (sureZ g sea c d).length ≤ 23 := by
 obtain ⟨hW, hH, hS, hL, -⟩ := checkE_zero hE
 have hsl := (spOk_iff.1 hse).1
 have hlen : (sureZ g sea c d).length ≤ 23 := Nat.le_trans (fetch_len _ g c d) (len_lt hd hW hH (by omega))
 have h1 : ∀ x ∈ sureZ g sea c d, (0 ≤ x ∧ x < g.ss.length) ∧ (1 ≤ (dpZ g sea x).2 ∧ (dpZ g sea x).2 ≤ 1220000) ∧ 0 ≤ partLo g sea m d s x ∧ partLo g sea m d s x ≤ 370600000 := fun x hx => by
  have hp := may_dp (sure_sub (fun c => (gr_ok hE c).1) hsl x (mem_tw hx))
  have hmem := lineZ_mem hd hW hH (show 0 ≤ c ∧ c < g.W * g.H by omega) ((List.takeWhile_prefix _).subset hx)
  exact ⟨by omega, ⟨hp, (dp_ok hE hse x).2.2⟩, part_lo_bd hm hs hS hp⟩
 refine ⟨h1, fun k => ?_, hlen⟩
 have h2 := sum_bd (f := partLo g sea m d s) 370600000 ((sureZ g sea c d).take k) fun x hx => (h1 x (take_sub hx)).2.2
 have h3 : ((sureZ g sea c d).take k).length ≤ 23 := Nat.le_trans (by rw [List.length_take]; exact Nat.min_le_right _ _) hlen
 omega
theorem hi_facts {g : G} {sea : Int × Int} {m : Mo} {c : Int} {d : Nat} {s : Int × Int} (hd : d < 8) (hE : checkE g = 0) (hse : spOk (-20000) 20000 sea = true) (hm : moE m = 0) (hs : spOk 0 10000 s = true) (hc : 0 ≤ c ∧ c < g.ss.length) :
 (∀ x ∈ mayZ g sea c d, (0 ≤ x ∧ x < g.ss.length) ∧ (-1220000 ≤ (dpZ g sea x).1 ∧ (dpZ g sea x).1 ≤ 1220000) ∧ 0 ≤ partHi g sea m d s x ∧ partHi g sea m d s x ≤ 370600000) ∧ (∀ k, 0 ≤ sumZ (partHi g sea m d s) ((mayZ g sea c d).take k) ∧ sumZ (partHi g sea m d s) ((mayZ g sea c d).take k) ≤ 8600000000) ∧ (mayZ g sea c d).length ≤ 23 := by
 obtain ⟨hW, hH, hS, hL, -⟩ := checkE_zero hE
 have hlen : (mayZ g sea c d).length ≤ 23 := Nat.le_trans (fetch_len _ g c d) (len_lt hd hW hH (by omega))
 have h1 : ∀ x ∈ mayZ g sea c d, (0 ≤ x ∧ x < g.ss.length) ∧ (-1220000 ≤ (dpZ g sea x).1 ∧ (dpZ g sea x).1 ≤ 1220000) ∧ 0 ≤ partHi g sea m d s x ∧ partHi g sea m d s x ≤ 370600000 := fun x hx => by
  have hmem := lineZ_mem hd hW hH (show 0 ≤ c ∧ c < g.W * g.H by omega) ((List.takeWhile_prefix _).subset hx)
  have hdp := dp_ok hE hse x
  exact ⟨by omega, ⟨hdp.2.1, by omega⟩, part_hi_bd hm hs hS⟩
 refine ⟨h1, fun k => ?_, hlen⟩
 have h2 := sum_bd (f := partHi g sea m d s) 370600000 ((mayZ g sea c d).take k) fun x hx => (h1 x (take_sub hx)).2.2
 have h3 : ((mayZ g sea c d).take k).length ≤ 23 := Nat.le_trans (by rw [List.length_take]; exact Nat.min_le_right _ _) hlen
 omega
theorem sum_take {f : Int → Int} {L : List Int} {k : Nat} (h : k < L.length) : sumZ f (L.take (k + 1)) = sumZ f (L.take k) + f L[k] := by
 rw [List.take_succ_eq_append_getElem h, sumZ_snoc]
set_option maxRecDepth 100000 in
set_option maxHeartbeats 4000000 in
theorem rrise_any (WW HH SS : Int) (ss : List (Int × Int)) (A : Option Addr) (c : Nat) (lo hi d1 d2 l1 l2 cell : Int) (d : Nat) (s1 s2 : Int) (w : World) (hd : d < 8) (hE : checkE ⟨WW, HH, SS, ss⟩ = 0) (hse : spOk (-20000) 20000 (lo, hi) = true) (hm : moE ⟨(d1, d2), (l1, l2)⟩ = 0) (hsp : spOk 0 10000 (s1, s2) = true) (hc : 0 ≤ cell ∧ cell < ss.length) (hs : SpansAt w w.heap.size (.slice A ss.length c) ss) :
 Calls Tryd.prog 112 #[.agg #[.int .i64 (WW), .int .i64 (HH), .int .i64 (SS), .slice A ss.length c], .agg #[.int .i64 lo, .int .i64 hi], .agg #[.int .i64 (d1), .int .i64 (d2), .int .i64 (l1), .int .i64 (l2)], .int .i64 cell, .int .i64 (d : Int), .agg #[.int .i64 s1, .int .i64 s2]] w fun e w' => e = .returned (.agg #[.int .i64 (riseZ ⟨WW, HH, SS, ss⟩ (lo, hi) ⟨(d1, d2), (l1, l2)⟩ cell d (s1, s2)).1, .int .i64 (riseZ ⟨WW, HH, SS, ss⟩ (lo, hi) ⟨(d1, d2), (l1, l2)⟩ cell d (s1, s2)).2]) ∧ Below w.heap.size w w' := by
 obtain ⟨hW, hH, hS, hL0, -⟩ := checkE_zero hE
 simp only at hW hH hS hL0
 obtain ⟨p1, p2, p3⟩ := lo_facts (g := ⟨WW, HH, SS, ss⟩) (sea := (lo, hi)) (m := ⟨(d1, d2), (l1, l2)⟩) (c := cell) (s := (s1, s2)) hd hE hse hm hsp hc
 obtain ⟨q1, q2, q3⟩ := hi_facts (g := ⟨WW, HH, SS, ss⟩) (sea := (lo, hi)) (m := ⟨(d1, d2), (l1, l2)⟩) (c := cell) (s := (s1, s2)) hd hE hse hm hsp hc
 obtain ⟨LS, hLS⟩ : ∃ z, sureZ ⟨WW, HH, SS, ss⟩ (lo, hi) cell d = z := ⟨_, rfl⟩
 obtain ⟨LM, hLM⟩ : ∃ z, mayZ ⟨WW, HH, SS, ss⟩ (lo, hi) cell d = z := ⟨_, rfl⟩
 have hv : riseZ ⟨WW, HH, SS, ss⟩ (lo, hi) ⟨(d1, d2), (l1, l2)⟩ cell d (s1, s2) = (sumZ (partLo ⟨WW, HH, SS, ss⟩ (lo, hi) ⟨(d1, d2), (l1, l2)⟩ d (s1, s2)) LS, sumZ (partHi ⟨WW, HH, SS, ss⟩ (lo, hi) ⟨(d1, d2), (l1, l2)⟩ d (s1, s2)) LM) := by rw [← hLS, ← hLM]; rfl
 rw [hv]
 have HFE : Hid (∀ w : World, SpansAt w w.heap.size (.slice A ss.length c) ss → Calls Tryd.prog 65 #[.agg #[.int .i64 (WW), .int .i64 (HH), .int .i64 (SS), .slice A ss.length c], .agg #[.int .i64 lo, .int .i64 hi], .int .i64 cell, .int .i64 (d : Int)] w fun e w' => ∃ u v, e = .returned (.tuple #[u, v]) ∧ IntsAt w' w'.heap.size u LS ∧ IntsAt w' w'.heap.size v LM ∧ Below w.heap.size w w') := fun w h => by
  have k := rfetch_any WW HH SS ss A c lo hi cell d w hd hE hse hc h
  rw [hLS, hLM] at k
  exact k
 rw [hLS] at p1 p2 p3
 rw [hLM] at q1 q2 q3
 have hmo := moE_zero hm
 have hm1 := spOk_iff.1 hmo.1
 have hs1 := spOk_iff.1 hsp
 simp only at hm1 hs1
 have hn := n_rng d
 have b1 := num_bd (d := d1) (s := s1) (n := nLo d) (S := SS) (by omega) (by omega) (by omega) (by omega) (by omega) (by omega) (by omega) (by omega)
 have b2 := num_bd (d := d2) (s := s2) (n := nHi d) (S := SS) (by omega) (by omega) (by omega) (by omega) (by omega) (by omega) (by omega) (by omega)
 have hod : d % 2 = 1 → nLo d = 141 ∧ nHi d = 142 := fun h => by unfold nLo nHi; rw [if_neg (by omega), if_neg (by omega)]; exact ⟨rfl, rfl⟩
 have hev : ¬ d % 2 = 1 → nLo d = 100 ∧ nHi d = 100 := fun h => by unfold nLo nHi; rw [if_pos (by omega), if_pos (by omega)]; exact ⟨rfl, rfl⟩
 have HOD := Lib.hid hod
 have HEV := Lib.hid hev
 have eP : d1 * s1 * s1 * nLo d * SS = d1 * s1 * s1 * (nLo d * SS) := Int.mul_assoc _ _ _
 have eQ : d2 * s2 * s2 * nHi d * SS = d2 * s2 * s2 * (nHi d * SS) := Int.mul_assoc _ _ _
 have HPL : Hid (∀ x p, dpZ ⟨WW, HH, SS, ss⟩ (lo, hi) x = p → partLo ⟨WW, HH, SS, ss⟩ (lo, hi) ⟨(d1, d2), (l1, l2)⟩ d (s1, s2) x = d1 * s1 * s1 * (nLo d * SS) / (3832031250 * p.2)) := fun x p h => by unfold partLo; rw [h]; simp only; rw [eP]
 have HPH : Hid (∀ x p, dpZ ⟨WW, HH, SS, ss⟩ (lo, hi) x = p → partHi ⟨WW, HH, SS, ss⟩ (lo, hi) ⟨(d1, d2), (l1, l2)⟩ d (s1, s2) x = upQ (d2 * s2 * s2 * (nHi d * SS)) (3832031250 * max p.1 1)) := fun x p h => by unfold partHi; rw [h]; simp only; rw [eQ]
 rw [eP] at b1
 rw [eQ] at b2
 obtain ⟨sh, hsh⟩ : ∃ z, nLo d * SS = z := ⟨_, rfl⟩
 obtain ⟨lg, hlg⟩ : ∃ z, nHi d * SS = z := ⟨_, rfl⟩
 rw [hsh] at b1 HPL
 rw [hlg] at b2 HPH
 have HSH := Lib.hid hsh
 have HLG := Lib.hid hlg
 clear hsh hlg eP eQ hv hod hev hn hmo
 have wr0 : IntKind.i64.wrap (d1 * s1) = d1 * s1 := IntWalk.i64_in _ (by omega)
 have wr1 : IntKind.i64.wrap (d1 * s1 * s1) = d1 * s1 * s1 := IntWalk.i64_in _ (by omega)
 have wr2 : IntKind.i64.wrap (d1 * s1 * s1 * sh) = d1 * s1 * s1 * sh := IntWalk.i64_in _ (by omega)
 have wr3 : IntKind.i64.wrap (d2 * s2) = d2 * s2 := IntWalk.i64_in _ (by omega)
 have wr4 : IntKind.i64.wrap (d2 * s2 * s2) = d2 * s2 * s2 := IntWalk.i64_in _ (by omega)
 have wr5 : IntKind.i64.wrap (d2 * s2 * s2 * lg) = d2 * s2 * s2 * lg := IntWalk.i64_in _ (by omega)
 have wr6 : IntKind.i64.wrap (100 * SS) = 100 * SS := IntWalk.i64_in _ (by omega)
 obtain ⟨P, hP⟩ : ∃ z, d1 * s1 * s1 * sh = z := ⟨_, rfl⟩
 obtain ⟨Q, hQ⟩ : ∃ z, d2 * s2 * s2 * lg = z := ⟨_, rfl⟩
 rw [hP] at b1 wr2 HPL
 rw [hQ] at b2 wr5 HPH
 have hPb : 0 ≤ P ∧ P ≤ 2000000000000000000 := by omega
 have hQb : 0 ≤ Q ∧ Q ≤ 2000000000000000000 := by omega
 have HP1 := Lib.hid p1
 have HP2 := Lib.hid p2
 have HQ1 := Lib.hid q1
 have HQ2 := Lib.hid q2
 have HE := Lib.hid hE
 have HSE := Lib.hid hse
 have HS0 := Lib.hid hs
 have hfd0 := fieldS0
 have hfd1 := fieldS1
 clear p1 p2 q1 q2 hE hse hs hm hsp b1 b2 hLS hLM
 go_enter Tryd.func112, Tryd.ntmps112
 go_upto_region 1 with (fail)
 obtain ⟨Va1, hV⟩ : ∃ V, ((((w.alloc (.cells #[.int .i64 (WW), .int .i64 (HH), .int .i64 (SS), .slice A ss.length c] 24)).alloc (.cells #[.int .i64 (lo), .int .i64 (hi)] 26)).alloc (.cells #[.int .i64 (d1), .int .i64 (d2), .int .i64 (l1), .int .i64 (l2)] 40)).alloc (.cells #[.int .i64 (s1), .int .i64 (s2)] 26)).alloc (.cells #[.int .i64 (0), .int .i64 (0)] 26) = V := ⟨_, rfl⟩
 have Kb6 : Hid (Blk Va1 (w.heap.size) 24 #[.int .i64 (WW), .int .i64 (HH), .int .i64 (SS), .slice A ss.length c]) := by rw [← hV]; exact ((((Blk.new' _ _ _ (by simp)).alloc _).alloc _).alloc _).alloc _
 have Kb7 : Hid (Blk Va1 (w.heap.size + 1) 26 #[.int .i64 (lo), .int .i64 (hi)]) := by rw [← hV]; exact (((Blk.new' _ _ _ (by simp)).alloc _).alloc _).alloc _
 have Kb8 : Hid (Blk Va1 (w.heap.size + 1 + 1) 40 #[.int .i64 (d1), .int .i64 (d2), .int .i64 (l1), .int .i64 (l2)]) := by rw [← hV]; exact ((Blk.new' _ _ _ (by simp)).alloc _).alloc _
 have Kb11 : Hid (Blk Va1 (w.heap.size + 1 + 1 + 1) 26 #[.int .i64 (s1), .int .i64 (s2)]) := by rw [← hV]; exact (Blk.new' _ _ _ (by simp)).alloc _
 have Kb12 : Hid (Blk Va1 (w.heap.size + 1 + 1 + 1 + 1) 26 #[.int .i64 (0), .int .i64 (0)]) := by rw [← hV]; exact Blk.new' _ _ _ (by simp)
 have GHB : Hid (Below w.heap.size w Va1) := by rw [← hV]; exact (by repeat (first | exact Below.refl _ _ | assumption | refine Below.drew ?_ | refine Below.drewN' ?_ _ | (refine Below.alloc ?_ (by simp <;> omega) _) | (refine Below.setCell ?_ (by simp <;> omega) _)))
 have HZ : Hid (Below w.heap.size w Va1) := GHB
 rw [hV]
 clear hV HZ
 have HB := GHB
 clear GHB
 obtain ⟨b12, hqb12⟩ : ∃ b, w.heap.size + 1 + 1 + 1 + 1 = b := ⟨_, rfl⟩
 obtain ⟨b11, hqb11⟩ : ∃ b, w.heap.size + 1 + 1 + 1 = b := ⟨_, rfl⟩
 obtain ⟨b8, hqb8⟩ : ∃ b, w.heap.size + 1 + 1 = b := ⟨_, rfl⟩
 obtain ⟨b7, hqb7⟩ : ∃ b, w.heap.size + 1 = b := ⟨_, rfl⟩
 obtain ⟨b6, hqb6⟩ : ∃ b, w.heap.size = b := ⟨_, rfl⟩
 have gb6 : w.heap.size ≤ b6 := by omega
 have gb7 : w.heap.size ≤ b7 := by omega
 have nb7b6 : ¬ b7 = b6 := by omega
 have nb6b7 : ¬ b6 = b7 := by omega
 have gb8 : w.heap.size ≤ b8 := by omega
 have nb8b6 : ¬ b8 = b6 := by omega
 have nb6b8 : ¬ b6 = b8 := by omega
 have nb8b7 : ¬ b8 = b7 := by omega
 have nb7b8 : ¬ b7 = b8 := by omega
 have gb11 : w.heap.size ≤ b11 := by omega
 have nb11b6 : ¬ b11 = b6 := by omega
 have nb6b11 : ¬ b6 = b11 := by omega
 have nb11b7 : ¬ b11 = b7 := by omega
 have nb7b11 : ¬ b7 = b11 := by omega
 have nb11b8 : ¬ b11 = b8 := by omega
 have nb8b11 : ¬ b8 = b11 := by omega
 have gb12 : w.heap.size ≤ b12 := by omega
 have nb12b6 : ¬ b12 = b6 := by omega
 have nb6b12 : ¬ b6 = b12 := by omega
 have nb12b7 : ¬ b12 = b7 := by omega
 have nb7b12 : ¬ b7 = b12 := by omega
 have nb12b8 : ¬ b12 = b8 := by omega
 have nb8b12 : ¬ b8 = b12 := by omega
 have nb12b11 : ¬ b12 = b11 := by omega
 have nb11b12 : ¬ b11 = b12 := by omega
 rw [hqb12] at Kb12 ⊢
 clear hqb12
 rw [hqb11] at Kb11 ⊢
 clear hqb11
 rw [hqb8] at Kb8 ⊢
 clear hqb8
 rw [hqb7] at Kb7 ⊢
 clear hqb7
 have HN : Hid (w.heap.size = b6) := hqb6
 rw [hqb6] at Kb6 ⊢
 clear hqb6
 have Hb6 := Kb6
 clear Kb6
 have Hb7 := Kb7
 clear Kb7
 have Hb8 := Kb8
 clear Kb8
 have Hb11 := Kb11
 clear Kb11
 have Hb12 := Kb12
 clear Kb12
 have HSV : Hid (∀ U, Below Va1.heap.size Va1 U → U.cell? ⟨b6, 0, none⟩ = some (.int .i64 (WW)) ∧ U.cell? ⟨b6, 1, none⟩ = some (.int .i64 (HH)) ∧ U.cell? ⟨b6, 2, none⟩ = some (.int .i64 (SS)) ∧ U.cell? ⟨b6, 3, none⟩ = some (.slice A ss.length c)) := fun U hU => by
  have kb6 := Hb6.out.below hU Hb6.out.lt
  exact ⟨kb6.cell 0, kb6.cell 1, kb6.cell 2, kb6.cell 3⟩
 have k0 := HSV.out _ (Below.drew (Below.refl Va1.heap.size Va1))
 refine wp_region_noPanic ?_
 refine wp_region_held_drew (S := (fun w' => w'.cell? ⟨b6, 0, none⟩ = some (.int .i64 (WW)) ∧ w'.cell? ⟨b6, 1, none⟩ = some (.int .i64 (HH)) ∧ w'.cell? ⟨b6, 2, none⟩ = some (.int .i64 (SS)) ∧ w'.cell? ⟨b6, 3, none⟩ = some (.slice A ss.length c))) (by kernel_rfl) ?_ (fun hHeld => ?_)
 · (try dsimp only); (exact k0)
 refine tH 0 Zb5 ?_ ?_ ?_
 rotate_left
 · ((intro w hSw; delta Zb5; (try dsimp only at hSw); go_simp) <;> with_reducible rfl)
 try simp only [Zb5, ksz]
 refine tH 3 Zb8 ?_ ?_ ?_
 rotate_left
 · ((intro w hSw; delta Zb8; (try dsimp only at hSw); go_simp) <;> with_reducible rfl)
 try simp only [Zb8, ksz]
 refine tH 1 Zb6 ?_ ?_ ?_
 rotate_left
 · ((intro w hSw; delta Zb6; (try dsimp only at hSw); go_simp) <;> with_reducible rfl)
 try simp only [Zb6, ksz]
 refine tH 4 Zb9 ?_ ?_ ?_
 rotate_left
 · ((intro w hSw; delta Zb9; (try dsimp only at hSw); go_simp) <;> with_reducible rfl)
 try simp only [Zb9, ksz]
 refine tH 2 Zb7 ?_ ?_ ?_
 rotate_left
 · ((intro w hSw; delta Zb7; (try dsimp only at hSw); go_simp) <;> with_reducible rfl)
 try simp only [Zb7, ksz]
 refine tH 5 Zba ?_ ?_ ?_
 rotate_left
 · ((intro w hSw; delta Zba; (try dsimp only at hSw); go_simp) <;> with_reducible rfl)
 try simp only [Zba, ksz]
 refine tH 6 Zbb ?_ ?_ ?_
 rotate_left
 · ((intro w hSw; delta Zbb; (try dsimp only at hSw); go_simp) <;> with_reducible rfl)
 try simp only [Zbb, ksz]
 refine tH 7 Zbc ?_ ?_ ?_
 rotate_left
 · ((intro w hSw; delta Zbc; (try dsimp only at hSw); go_simp) <;> with_reducible rfl)
 try simp only [Zbc, ksz]
 obtain ⟨W0, hW0⟩ : ∃ V, Va1.drew = V := ⟨_, rfl⟩; rw [hW0] at hHeld ⊢; have HB0 : Hid (Below Va1.heap.size Va1 W0) := (by rw [← hW0]; exact Below.drew (Below.refl _ _)); clear hW0
 refine wpAnyH_done (by kernel_rfl) ?_ _
 refine NoPanic.normal ?_
 clear HSV k0
 clear hHeld
 obtain ⟨Va2, hVU⟩ : ∃ V, W0 = V := ⟨_, rfl⟩
 rw [hVU] at HB0 ⊢
 have HZ := HB0
 clear HB0 hVU
 replace Hb6 := kbl Hb6 HZ
 replace Hb7 := kbl Hb7 HZ
 replace Hb8 := kbl Hb8 HZ
 replace Hb11 := kbl Hb11 HZ
 replace Hb12 := kbl Hb12 HZ
 replace HB := ktr' HB HZ
 clear HZ
 have hm2 : (d : Int).tmod 2 = ((d % 2 : Nat) : Int) := by rw [Int.tmod_eq_emod_of_nonneg (by omega)]; omega
 go_upto_if 28 with (fail)
 go_cut [13, 14] from 26 to 35 (fun p q wx => p = .int .i64 sh ∧ q = .int .i64 lg ∧ Hid (Blk wx b6 24 #[.int .i64 (WW), .int .i64 (HH), .int .i64 (SS), .slice A ss.length c]) ∧ Hid (Blk wx b7 26 #[.int .i64 (lo), .int .i64 (hi)]) ∧ Hid (Blk wx b8 40 #[.int .i64 (d1), .int .i64 (d2), .int .i64 (l1), .int .i64 (l2)]) ∧ Hid (Blk wx b11 26 #[.int .i64 (s1), .int .i64 (s2)]) ∧ Hid (Blk wx b12 26 #[.int .i64 (0), .int .i64 (0)]) ∧ Hid (Below w.heap.size w wx))
 case first =>
  by_cases hp : d % 2 = 1
  rotate_left
  ·
   have hq : d % 2 = 0 := by omega
   have hm3 : (d : Int) % 2 = 0 := by omega
   rw [hq] at hm2
   obtain ⟨h1, h2⟩ := HEV.out hp
   have e1 := HSH.out
   have e2 := HLG.out
   rw [h1] at e1
   rw [h2] at e2
   have E1 := Lib.hid e1
   have E2 := Lib.hid e2
   clear e1 e2 h1 h2
   go_wp2_with fail
   go_meet
   exact ⟨by rw [E1.out], by rw [E2.out], Hb6, Hb7, Hb8, Hb11, Hb12, HB⟩
  have hm3 : (d : Int) % 2 = 1 := by omega
  rw [hp] at hm2
  obtain ⟨h1, h2⟩ := HOD.out hp
  have e1 := HSH.out
  have e2 := HLG.out
  rw [h1] at e1
  rw [h2] at e2
  have w1 : IntKind.i64.wrap (141 * SS) = sh := by rw [← e1]; exact IntWalk.i64_in _ (by omega)
  have w2 : IntKind.i64.wrap (142 * SS) = lg := by rw [← e2]; exact IntWalk.i64_in _ (by omega)
  clear e1 e2 h1 h2
  go_upto_region 3 with (fail)
  have HSV : Hid (∀ U, Below Va2.heap.size Va2 U → U.cell? ⟨b6, 0, none⟩ = some (.int .i64 (WW)) ∧ U.cell? ⟨b6, 1, none⟩ = some (.int .i64 (HH)) ∧ U.cell? ⟨b6, 2, none⟩ = some (.int .i64 (SS)) ∧ U.cell? ⟨b6, 3, none⟩ = some (.slice A ss.length c)) := fun U hU => by
   have kb6 := Hb6.out.below hU Hb6.out.lt
   exact ⟨kb6.cell 0, kb6.cell 1, kb6.cell 2, kb6.cell 3⟩
  have k0 := HSV.out _ (Below.drew (Below.refl Va2.heap.size Va2))
  refine wp_region_noPanic ?_
  refine wp_region_held_drew (S := (fun w' => w'.cell? ⟨b6, 0, none⟩ = some (.int .i64 (WW)) ∧ w'.cell? ⟨b6, 1, none⟩ = some (.int .i64 (HH)) ∧ w'.cell? ⟨b6, 2, none⟩ = some (.int .i64 (SS)) ∧ w'.cell? ⟨b6, 3, none⟩ = some (.slice A ss.length c))) (by kernel_rfl) ?_ (fun hHeld => ?_)
  · (try dsimp only); (exact k0)
  refine tH 0 Zbd ?_ ?_ ?_
  rotate_left
  · ((intro w hSw; delta Zbd; (try dsimp only at hSw); go_simp) <;> with_reducible rfl)
  try simp only [Zbd, ksz]
  refine tH 3 Zbg ?_ ?_ ?_
  rotate_left
  · ((intro w hSw; delta Zbg; (try dsimp only at hSw); go_simp) <;> with_reducible rfl)
  try simp only [Zbg, ksz]
  refine tH 1 Zbe ?_ ?_ ?_
  rotate_left
  · ((intro w hSw; delta Zbe; (try dsimp only at hSw); go_simp) <;> with_reducible rfl)
  try simp only [Zbe, ksz]
  refine tH 4 Zbh ?_ ?_ ?_
  rotate_left
  · ((intro w hSw; delta Zbh; (try dsimp only at hSw); go_simp) <;> with_reducible rfl)
  try simp only [Zbh, ksz]
  refine tH 2 Zbf ?_ ?_ ?_
  rotate_left
  · ((intro w hSw; delta Zbf; (try dsimp only at hSw); go_simp) <;> with_reducible rfl)
  try simp only [Zbf, ksz]
  refine tH 5 Zbi ?_ ?_ ?_
  rotate_left
  · ((intro w hSw; delta Zbi; (try dsimp only at hSw); go_simp) <;> with_reducible rfl)
  try simp only [Zbi, ksz]
  refine tH 6 Zbj ?_ ?_ ?_
  rotate_left
  · ((intro w hSw; delta Zbj; (try dsimp only at hSw); go_simp) <;> with_reducible rfl)
  try simp only [Zbj, ksz]
  refine tH 7 Zbk ?_ ?_ ?_
  rotate_left
  · ((intro w hSw; delta Zbk; (try dsimp only at hSw); go_simp) <;> with_reducible rfl)
  try simp only [Zbk, ksz]
  obtain ⟨W0, hW0⟩ : ∃ V, Va2.drew = V := ⟨_, rfl⟩; rw [hW0] at hHeld ⊢; have HB0 : Hid (Below Va2.heap.size Va2 W0) := (by rw [← hW0]; exact Below.drew (Below.refl _ _)); clear hW0
  refine wpAnyH_done (by kernel_rfl) ?_ _
  refine NoPanic.normal ?_
  clear HSV k0
  clear hHeld
  obtain ⟨Va41, hVU⟩ : ∃ V, W0 = V := ⟨_, rfl⟩
  rw [hVU] at HB0 ⊢
  have HZ := HB0
  clear HB0 hVU
  replace Hb6 := kbl Hb6 HZ
  replace Hb7 := kbl Hb7 HZ
  replace Hb8 := kbl Hb8 HZ
  replace Hb11 := kbl Hb11 HZ
  replace Hb12 := kbl Hb12 HZ
  replace HB := ktr' HB HZ
  clear HZ
  go_wp2_with fail
  go_meet
  exact ⟨rfl, rfl, Hb6, Hb7, Hb8, Hb11, Hb12, HB⟩
 case rest =>
  clear Hb6 Hb7 Hb8 Hb11 Hb12 HB hm2 wr6 HOD HEV
  obtain ⟨rfl, rfl, Hb6, Hb7, Hb8, Hb11, Hb12, HB⟩ := hcut
  obtain ⟨Vb, rfl⟩ : ∃ V, V = wc := ⟨_, rfl⟩
  --@A
  have cb60 := kcl0 Hb6
  have cb61 := kcl1 Hb6
  have cb62 := kcl2 Hb6
  have cb63 := kcl3 Hb6
  have cb70 := kcl0 Hb7
  have cb71 := kcl1 Hb7
  go_wp2_with fail
  refine (HFE.out _ (HS0.out.later HB.out (Nat.le_refl _))).mono ?_
  rintro e Va3 ⟨u, v, rfl, hu, hv, hb⟩
  have HZ := Lib.hid hb
  clear hb
  have HL1 := Lib.hid hu
  have HL2 := Lib.hid hv
  clear hu hv
  obtain ⟨al1, cl1, e1, -, -⟩ := HL1.out.open_
  subst e1
  obtain ⟨al2, cl2, e2, -, -⟩ := HL2.out.open_
  subst e2
  clear cb60 cb61 cb62 cb63 cb70 cb71
  replace Hb6 := kbl Hb6 HZ
  replace Hb7 := kbl Hb7 HZ
  replace Hb8 := kbl Hb8 HZ
  replace Hb11 := kbl Hb11 HZ
  replace Hb12 := kbl Hb12 HZ
  replace HB := ktr' HB HZ
  clear HZ
  have HP := Lib.hid (Below.refl Va3.heap.size Va3)
  have OHB := HB
  have Ob6 := Hb6
  have Ob7 := Hb7
  have Ob8 := Hb8
  have Ob11 := Hb11
  have Ob12 := Hb12
  go_upto_region 6 with (fail)
  obtain ⟨Va4, hV⟩ : ∃ X, Va3.alloc (.cells #[.int .i64 (0), .int .i64 (0)] 26) = X := ⟨_, rfl⟩
  have hnew : Blk Va4 Va3.heap.size 26 #[.int .i64 (0), .int .i64 (0)] := by rw [← hV]; exact (Blk.new' _ _ _ rfl)
  have hz : Below Va3.heap.size Va3 Va4 := by rw [← hV]; exact ((Below.refl _ _).alloc (Nat.le_refl _) _)
  have hgn := HB.out.size
  have lb6 := Hb6.out.lt
  have lb7 := Hb7.out.lt
  have lb8 := Hb8.out.lt
  have lb11 := Hb11.out.lt
  have lb12 := Hb12.out.lt
  have gb17_HP : Va3.heap.size ≤ Va3.heap.size := HP.out.size
  rw [hV]
  obtain ⟨b17, hbx⟩ : ∃ b, Va3.heap.size = b := ⟨_, rfl⟩
  rw [hbx] at hnew hgn lb6 lb7 lb8 lb11 lb12 ⊢
  have gb17 : w.heap.size ≤ b17 := hgn
  have HZ := Lib.hid hz
  have gb17_HP : Va3.heap.size ≤ b17 := by omega
  have nb6b17 : ¬ b6 = b17 := by omega
  have nb17b6 : ¬ b17 = b6 := by omega
  have nb7b17 : ¬ b7 = b17 := by omega
  have nb17b7 : ¬ b17 = b7 := by omega
  have nb8b17 : ¬ b8 = b17 := by omega
  have nb17b8 : ¬ b17 = b8 := by omega
  have nb11b17 : ¬ b11 = b17 := by omega
  have nb17b11 : ¬ b17 = b11 := by omega
  have nb12b17 : ¬ b12 = b17 := by omega
  have nb17b12 : ¬ b17 = b12 := by omega
  clear hV hz hgn hbx lb6 lb7 lb8 lb11 lb12
  replace Hb6 := kbl Hb6 HZ
  replace Hb7 := kbl Hb7 HZ
  replace Hb8 := kbl Hb8 HZ
  replace Hb11 := kbl Hb11 HZ
  replace Hb12 := kbl Hb12 HZ
  replace HB := ktr' HB HZ
  replace HP := ktr' HP HZ
  clear HZ
  have Hb17 := Lib.hid hnew
  clear hnew
  --@B
  go_upto_region 7 with (fail)
  go_loopw [18] (fun iv wr => ∃ (ka : Nat) (x : Int), ka ≤ LS.length ∧ iv = .int .i64 (ka : Int) ∧ Hid (sumZ (partLo ⟨WW, HH, SS, ss⟩ (lo, hi) ⟨(d1, d2), (l1, l2)⟩ d (s1, s2)) (LS.take ka) = x) ∧ Hid (Blk wr b17 26 #[.int .i64 x, .int .i64 0]) ∧ Hid (Below Va3.heap.size Va3 wr)) (fun iv _ => LS.length - (intOf iv).toNat)
  case atStart => exact ⟨0, 0, Nat.zero_le _, rfl, rfl, Hb17, HP⟩
  case round =>
   clear Hb6 Hb7 Hb8 Hb11 Hb12 Hb17 HB HP
   obtain ⟨ka, xa, hk, rfl, HSM0, Hb17, HP⟩ := hrel
   have HB := Lib.hid (OHB.out.trans (HP.out.mono OHB.out.size))
   have Hb6 := Lib.hid (Ob6.out.below HP.out Ob6.out.lt)
   have Hb7 := Lib.hid (Ob7.out.below HP.out Ob7.out.lt)
   have Hb8 := Lib.hid (Ob8.out.below HP.out Ob8.out.lt)
   have Hb11 := Lib.hid (Ob11.out.below HP.out Ob11.out.lt)
   have Hb12 := Lib.hid (Ob12.out.below HP.out Ob12.out.lt)
   have hln : LS.length ≤ 23 := p3
   have hwk : IntKind.i64.wrap ((ka : Int) + 1) = (ka : Int) + 1 := IntWalk.i64_in _ (by omega)
   by_cases hlt : ka < LS.length
   ·
    have hlt2 : ((ka : Int) < (LS.length : Int)) := by omega
    obtain ⟨bl, ol, hal, hbl, cq⟩ := (HL1.out.later HP.out (Nat.le_refl _)).at_ hlt
    obtain ⟨⟨m1, m2⟩, ⟨m3, m4⟩, m5, m6⟩ := HP1.out _ (List.getElem_mem hlt)
    have hst := sum_take (f := partLo ⟨WW, HH, SS, ss⟩ (lo, hi) ⟨(d1, d2), (l1, l2)⟩ d (s1, s2)) hlt
    have hsb := HP2.out ka
    rw [HSM0.out] at hst hsb
    obtain ⟨x0, hx⟩ : ∃ z, LS[ka] = z := ⟨_, rfl⟩
    rw [hx] at cq m1 m2 m3 m4 m5 m6 hst
    obtain ⟨xn, rfl⟩ : ∃ m : Nat, x0 = (m : Int) := ⟨x0.toNat, by omega⟩
    (try simp only at m2)
    have hxn : xn < ss.length := by omega
    obtain ⟨⟨e1, e2⟩, hdp⟩ : ∃ z, dpZ ⟨WW, HH, SS, ss⟩ (lo, hi) (xn : Int) = z := ⟨_, rfl⟩
    have hpt := HPL.out (xn : Int) _ hdp
    rw [hdp] at m3 m4
    simp only at m3 m4 hpt
    obtain ⟨PT, hPT⟩ : ∃ z, partLo ⟨WW, HH, SS, ss⟩ (lo, hi) ⟨(d1, d2), (l1, l2)⟩ d (s1, s2) (xn : Int) = z := ⟨_, rfl⟩
    rw [hPT] at m5 m6 hst hpt
    have HDP := Lib.hid hdp
    have HXN := Lib.hid hxn
    have HST := Lib.hid hst
    have hbl2 := hbl
    subst hal
    have wx : IntKind.i64.wrap (xa + PT) = xa + PT := IntWalk.i64_in _ (by omega)
    clear hx hdp hxn hst hPT
    have cb60 := kcl0 Hb6
    have cb61 := kcl1 Hb6
    have cb62 := kcl2 Hb6
    have cb63 := kcl3 Hb6
    go_upto_region 9 with (fail)
    clear cb60 cb61 cb62 cb63
    have wd : IntKind.i64.wrap (3832031250 * e2) = 3832031250 * e2 := IntWalk.i64_in _ (by omega)
    have HPT := Lib.hid hpt.symm
    clear hpt
    --@C
    have HSV : Hid (∀ U, Below wr.heap.size wr U → U.cell? ⟨b6, 0, none⟩ = some (.int .i64 (WW)) ∧ U.cell? ⟨b6, 1, none⟩ = some (.int .i64 (HH)) ∧ U.cell? ⟨b6, 2, none⟩ = some (.int .i64 (SS)) ∧ U.cell? ⟨b6, 3, none⟩ = some (.slice A ss.length c) ∧ U.cell? ⟨b7, 0, none⟩ = some (.int .i64 (lo)) ∧ U.cell? ⟨b7, 1, none⟩ = some (.int .i64 (hi)) ∧ U.cell? ⟨b8, 0, none⟩ = some (.int .i64 (d1)) ∧ U.cell? ⟨b8, 1, none⟩ = some (.int .i64 (d2)) ∧ U.cell? ⟨b8, 2, none⟩ = some (.int .i64 (l1)) ∧ U.cell? ⟨b8, 3, none⟩ = some (.int .i64 (l2)) ∧ U.cell? ⟨b11, 0, none⟩ = some (.int .i64 (s1)) ∧ U.cell? ⟨b11, 1, none⟩ = some (.int .i64 (s2)) ∧ U.cell? ⟨b17, 0, none⟩ = some (.int .i64 (xa)) ∧ U.cell? ⟨b17, 1, none⟩ = some (.int .i64 (0)) ∧ U.cell? ⟨bl, ol + ka, none⟩ = some (.int .i64 ((xn : Int)))) := fun U hU => by
     have kb6 := Hb6.out.below hU Hb6.out.lt
     have kb7 := Hb7.out.below hU Hb7.out.lt
     have kb8 := Hb8.out.below hU Hb8.out.lt
     have kb11 := Hb11.out.below hU Hb11.out.lt
     have kb17 := Hb17.out.below hU Hb17.out.lt
     exact ⟨kb6.cell 0, kb6.cell 1, kb6.cell 2, kb6.cell 3, kb7.cell 0, kb7.cell 1, kb8.cell 0, kb8.cell 1, kb8.cell 2, kb8.cell 3, kb11.cell 0, kb11.cell 1, kb17.cell 0, kb17.cell 1, (hU.cell (p := ⟨bl, ol + ka, none⟩) hbl2).trans cq⟩
    have k0 := HSV.out _ (Below.drew (Below.refl wr.heap.size wr))
    refine wp_region_noPanic ?_
    refine wp_region_L (S := (fun w' => w'.cell? ⟨b6, 0, none⟩ = some (.int .i64 (WW)) ∧ w'.cell? ⟨b6, 1, none⟩ = some (.int .i64 (HH)) ∧ w'.cell? ⟨b6, 2, none⟩ = some (.int .i64 (SS)) ∧ w'.cell? ⟨b6, 3, none⟩ = some (.slice A ss.length c) ∧ w'.cell? ⟨b7, 0, none⟩ = some (.int .i64 (lo)) ∧ w'.cell? ⟨b7, 1, none⟩ = some (.int .i64 (hi)) ∧ w'.cell? ⟨b8, 0, none⟩ = some (.int .i64 (d1)) ∧ w'.cell? ⟨b8, 1, none⟩ = some (.int .i64 (d2)) ∧ w'.cell? ⟨b8, 2, none⟩ = some (.int .i64 (l1)) ∧ w'.cell? ⟨b8, 3, none⟩ = some (.int .i64 (l2)) ∧ w'.cell? ⟨b11, 0, none⟩ = some (.int .i64 (s1)) ∧ w'.cell? ⟨b11, 1, none⟩ = some (.int .i64 (s2)) ∧ w'.cell? ⟨b17, 0, none⟩ = some (.int .i64 (xa)) ∧ w'.cell? ⟨b17, 1, none⟩ = some (.int .i64 (0)) ∧ w'.cell? ⟨bl, ol + ka, none⟩ = some (.int .i64 ((xn : Int))))) (ks := [25]) (by kernel_rfl) ?_ (fun hHeld => ?_)
    · (try dsimp only); (exact k0)
    refine tL 0 Zbl ?_ ?_ ?_
    rotate_left
    · ((intro w hSw; delta Zbl; (try dsimp only at hSw); go_simp) <;> with_reducible rfl)
    try simp only [Zbl, ksz]
    refine tL 2 Zbn ?_ ?_ ?_
    rotate_left
    · ((intro w hSw; delta Zbn; (try dsimp only at hSw); go_simp) <;> with_reducible rfl)
    try simp only [Zbn, ksz]
    refine tL 5 Zbq ?_ ?_ ?_
    rotate_left
    · ((intro w hSw; delta Zbq; (try dsimp only at hSw); go_simp) <;> with_reducible rfl)
    try simp only [Zbq, ksz]
    refine tL 8 Zbt ?_ ?_ ?_
    rotate_left
    · ((intro w hSw; delta Zbt; (try dsimp only at hSw); go_simp) <;> with_reducible rfl)
    try simp only [Zbt, ksz]
    refine tL 11 Zbw ?_ ?_ ?_
    rotate_left
    · ((intro w hSw; delta Zbw; (try dsimp only at hSw); go_simp) <;> with_reducible rfl)
    try simp only [Zbw, ksz]
    refine tL 13 Zby ?_ ?_ ?_
    rotate_left
    · ((intro w hSw; delta Zby; (try dsimp only at hSw); go_simp) <;> with_reducible rfl)
    try simp only [Zby, ksz]
    refine tL 14 Zbz ?_ ?_ ?_
    rotate_left
    · ((intro w hSw; delta Zbz; (try dsimp only at hSw); go_simp) <;> with_reducible rfl)
    try simp only [Zbz, ksz]
    refine tL 15 Zc0 ?_ ?_ ?_
    rotate_left
    · ((intro w hSw; delta Zc0; (try dsimp only at hSw); go_simp) <;> with_reducible rfl)
    try simp only [Zc0, ksz]
    refine tL 16 Zc1 ?_ ?_ ?_
    rotate_left
    · ((intro w hSw; delta Zc1; (try dsimp only at hSw); go_simp) <;> with_reducible rfl)
    try simp only [Zc1, ksz]
    refine tL 1 Zbm ?_ ?_ ?_
    rotate_left
    · ((intro w hSw; delta Zbm; (try dsimp only at hSw); go_simp) <;> with_reducible rfl)
    try simp only [Zbm, ksz]
    refine tL 3 Zbo ?_ ?_ ?_
    rotate_left
    · ((intro w hSw; delta Zbo; (try dsimp only at hSw); go_simp) <;> with_reducible rfl)
    try simp only [Zbo, ksz]
    refine tL 6 Zbr ?_ ?_ ?_
    rotate_left
    · ((intro w hSw; delta Zbr; (try dsimp only at hSw); go_simp) <;> with_reducible rfl)
    try simp only [Zbr, ksz]
    refine tL 9 Zbu ?_ ?_ ?_
    rotate_left
    · ((intro w hSw; delta Zbu; (try dsimp only at hSw); go_simp) <;> with_reducible rfl)
    try simp only [Zbu, ksz]
    refine tL 17 Zc2 ?_ ?_ ?_
    rotate_left
    · ((intro w hSw; delta Zc2; (try dsimp only at hSw); go_simp) <;> with_reducible rfl)
    try simp only [Zc2, ksz]
    refine tL 4 Zbp ?_ ?_ ?_
    rotate_left
    · ((intro w hSw; delta Zbp; (try dsimp only at hSw); go_simp) <;> with_reducible rfl)
    try simp only [Zbp, ksz]
    refine tL 18 Zc3 ?_ ?_ ?_
    rotate_left
    · ((intro w hSw; delta Zc3; (try dsimp only at hSw); go_simp) <;> with_reducible rfl)
    try simp only [Zc3, ksz]
    refine tL 7 Zbs ?_ ?_ ?_
    rotate_left
    · ((intro w hSw; delta Zbs; (try dsimp only at hSw); go_simp) <;> with_reducible rfl)
    try simp only [Zbs, ksz]
    refine tL 10 Zbv ?_ ?_ ?_
    rotate_left
    · ((intro w hSw; delta Zbv; (try dsimp only at hSw); go_simp) <;> with_reducible rfl)
    try simp only [Zbv, ksz]
    refine tL 12 Zbx ?_ ?_ ?_
    rotate_left
    · ((intro w hSw; delta Zbx; (try dsimp only at hSw); go_simp) <;> with_reducible rfl)
    try simp only [Zbx, ksz]
    obtain ⟨W0, hW0⟩ : ∃ V, wr.drew = V := ⟨_, rfl⟩; rw [hW0] at hHeld ⊢; have HB0 : Hid (Below wr.heap.size wr W0) := (by rw [← hW0]; exact Below.drew (Below.refl _ _)); clear hW0
    refine wpAnyL_ready (rs := [19]) (by kernel_rfl) (by simp) ?_
    refine AllReadyL.cons (o := Zc4) rfl (fun K hK => ?_) AllReadyL.nil
    delta Zc4
    go_simp
    (refine (rDepth_any ⟨WW, HH, SS, ss⟩ A c lo hi xn _ (HS0.out.later (HB.out.trans (HB0.out.mono HB.out.size)) (Nat.le_refl _)) HXN.out HE.out HSE.out).mono ?_; rintro e W1 ⟨rfl, hb⟩; have HB1 := Lib.hid (HB0.out.trans (hb.mono HB0.out.size)); clear hb; rw [HDP.out])
    refine hK.out _ _ ?_ (fun hHeld => ?_)
    · (try dsimp only); (exact HSV.out _ HB1.out)
    clear hK K
    try simp only [Zc4, ksz]
    refine tL 20 Zc5 ?_ ?_ ?_
    rotate_left
    · ((intro w hSw; delta Zc5; (try dsimp only at hSw); go_simp) <;> with_reducible rfl)
    try simp only [Zc5, ksz]
    refine tL 21 Zc6 ?_ ?_ ?_
    rotate_left
    · ((intro w hSw; delta Zc6; (try dsimp only at hSw); go_simp) <;> with_reducible rfl)
    try simp only [Zc6, ksz]
    refine wpAnyL_ready (rs := [22]) (by kernel_rfl) (by simp) ?_
    refine AllReadyL.cons (o := Zc7) rfl (fun K hK => ?_) AllReadyL.nil
    delta Zc7
    go_simp
    (refine (rdown_any P (3832031250 * e2) _ (by omega) (by omega) (by omega)).mono ?_; rintro e W2 ⟨rfl, hw⟩; have HB2 : Hid (Below wr.heap.size wr W2) := (by rw [← hw]; exact HB1.out); clear hw; rw [HPT.out])
    refine hK.out _ _ ?_ (fun hHeld => ?_)
    · (try dsimp only); (exact HSV.out _ HB2.out)
    clear hK K
    try simp only [Zc7, ksz]
    refine tL 23 Zc8 ?_ ?_ ?_
    rotate_left
    · ((intro w hSw; delta Zc8; (try dsimp only at hSw); go_simp) <;> with_reducible rfl)
    try simp only [Zc8, ksz]
    refine tL 24 Zc9 ?_ ?_ ?_
    rotate_left
    · ((intro w hSw; delta Zc9; (try dsimp only at hSw); go_simp) <;> with_reducible rfl)
    try simp only [Zc9, ksz]
    have Gb6 := Lib.hid (Hb6.out.below HB2.out Hb6.out.lt); have Gb7 := Lib.hid (Hb7.out.below HB2.out Hb7.out.lt); have Gb8 := Lib.hid (Hb8.out.below HB2.out Hb8.out.lt); have Gb11 := Lib.hid (Hb11.out.below HB2.out Hb11.out.lt); have Gb12 := Lib.hid (Hb12.out.below HB2.out Hb12.out.lt); have Gb17 := Lib.hid (Hb17.out.below HB2.out Hb17.out.lt); have GHB := Lib.hid (HB.out.trans (HB2.out.mono HB.out.size)); have GHP := Lib.hid (HP.out.trans (HB2.out.mono HP.out.size)); clear Hb6 Hb7 Hb8 Hb11 Hb12 Hb17 HB HP; have Hb6 := Gb6; clear Gb6; have Hb7 := Gb7; clear Gb7; have Hb8 := Gb8; clear Gb8; have Hb11 := Gb11; clear Gb11; have Hb12 := Gb12; clear Gb12; have Hb17 := Gb17; clear Gb17; have HB := GHB; clear GHB; have HP := GHP; clear GHP; have cR0 := Hb17.out.cell 0; have zR0 := Hb17.out.frozen 0; simp only [List.getElem?_toArray, List.getElem?_cons_zero, List.getElem?_cons_succ] at cR0
    refine wpAnyL_ready (rs := [25]) (by kernel_rfl) (by simp) ?_
    refine AllReadyL.gate (o := Zca) rfl (by kernel_rfl) (fun K hK => ?_) AllReadyL.nil
    delta Zca
    go_simp
    refine hK.out _ _ ?_
    clear hK K
    try simp only [Zca, ksz]
    obtain ⟨Va101, hV⟩ : ∃ V, W2.setCell ⟨b17, 0, none⟩ (.int .i64 (xa + PT)) = V := ⟨_, rfl⟩; replace Hb6 : Hid (Blk Va101 b6 24 #[.int .i64 (WW), .int .i64 (HH), .int .i64 (SS), .slice A ss.length c]) := (by rw [← hV]; exact (Hb6.out.far_ (p := ⟨b17, 0, none⟩) nb6b17 _)); replace Hb7 : Hid (Blk Va101 b7 26 #[.int .i64 (lo), .int .i64 (hi)]) := (by rw [← hV]; exact (Hb7.out.far_ (p := ⟨b17, 0, none⟩) nb7b17 _)); replace Hb8 : Hid (Blk Va101 b8 40 #[.int .i64 (d1), .int .i64 (d2), .int .i64 (l1), .int .i64 (l2)]) := (by rw [← hV]; exact (Hb8.out.far_ (p := ⟨b17, 0, none⟩) nb8b17 _)); replace Hb11 : Hid (Blk Va101 b11 26 #[.int .i64 (s1), .int .i64 (s2)]) := (by rw [← hV]; exact (Hb11.out.far_ (p := ⟨b17, 0, none⟩) nb11b17 _)); replace Hb12 : Hid (Blk Va101 b12 26 #[.int .i64 (0), .int .i64 (0)]) := (by rw [← hV]; exact (Hb12.out.far_ (p := ⟨b17, 0, none⟩) nb12b17 _)); replace Hb17 : Hid (Blk Va101 b17 26 #[.int .i64 (xa + PT), .int .i64 (0)]) := (by rw [← hV]; exact (Hb17.out.set_ 0 (.int .i64 (xa + PT)))); replace HB : Hid (Below w.heap.size w Va101) := (by rw [← hV]; exact (HB.out.setCell (p := ⟨b17, 0, none⟩) gb17 _)); replace HP : Hid (Below Va3.heap.size Va3 Va101) := (by rw [← hV]; exact (HP.out.setCell (p := ⟨b17, 0, none⟩) gb17_HP _)); rw [hV]; clear hV cR0 zR0
    refine wpAnyL_done (by kernel_rfl) ?_ _
    refine NoPanic.normal ?_
    clear HSV k0
    clear hHeld HB0 HB1 HB2
    go_wp2
    go_roundw
    case rel => exact ⟨ka + 1, xa + PT, by omega, by go_num, HST.out, Hb17, HP⟩
    case measure => simp [intOf] <;> omega
   have hke : ka = LS.length := by omega
   have hkl : ¬ ((ka : Int) < (LS.length : Int)) := by omega
   have HSF0 : Hid (sumZ (partLo ⟨WW, HH, SS, ss⟩ (lo, hi) ⟨(d1, d2), (l1, l2)⟩ d (s1, s2)) LS = xa) := by
    have h := HSM0.out
    rw [hke, List.take_length] at h
    exact h
   clear HSM0 hke hlt hk
   obtain ⟨Vm, rfl⟩ : ∃ V, V = wr := ⟨_, rfl⟩
   go_upto_region 11 with (fail)
   go_loopw [19] (fun iv wr => ∃ (kb : Nat) (x : Int), kb ≤ LM.length ∧ iv = .int .i64 (kb : Int) ∧ Hid (sumZ (partHi ⟨WW, HH, SS, ss⟩ (lo, hi) ⟨(d1, d2), (l1, l2)⟩ d (s1, s2)) (LM.take kb) = x) ∧ Hid (Blk wr b17 26 #[.int .i64 xa, .int .i64 x]) ∧ Hid (Below Va3.heap.size Va3 wr)) (fun iv _ => LM.length - (intOf iv).toNat)
   case atStart => exact ⟨0, 0, Nat.zero_le _, rfl, rfl, Hb17, HP⟩
   case round =>
    clear Hb6 Hb7 Hb8 Hb11 Hb12 Hb17 HB HP
    obtain ⟨kb, xb, hk, rfl, HSM1, Hb17, HP⟩ := hrel
    have HB := Lib.hid (OHB.out.trans (HP.out.mono OHB.out.size))
    have Hb6 := Lib.hid (Ob6.out.below HP.out Ob6.out.lt)
    have Hb7 := Lib.hid (Ob7.out.below HP.out Ob7.out.lt)
    have Hb8 := Lib.hid (Ob8.out.below HP.out Ob8.out.lt)
    have Hb11 := Lib.hid (Ob11.out.below HP.out Ob11.out.lt)
    have Hb12 := Lib.hid (Ob12.out.below HP.out Ob12.out.lt)
    have hln : LM.length ≤ 23 := q3
    have hwk : IntKind.i64.wrap ((kb : Int) + 1) = (kb : Int) + 1 := IntWalk.i64_in _ (by omega)
    by_cases hlt : kb < LM.length
    ·
     have hlt2 : ((kb : Int) < (LM.length : Int)) := by omega
     obtain ⟨bl, ol, hal, hbl, cq⟩ := (HL2.out.later HP.out (Nat.le_refl _)).at_ hlt
     obtain ⟨⟨m1, m2⟩, ⟨m3, m4⟩, m5, m6⟩ := HQ1.out _ (List.getElem_mem hlt)
     have hst := sum_take (f := partHi ⟨WW, HH, SS, ss⟩ (lo, hi) ⟨(d1, d2), (l1, l2)⟩ d (s1, s2)) hlt
     have hsb := HQ2.out kb
     rw [HSM1.out] at hst hsb
     obtain ⟨x0, hx⟩ : ∃ z, LM[kb] = z := ⟨_, rfl⟩
     rw [hx] at cq m1 m2 m3 m4 m5 m6 hst
     obtain ⟨xn, rfl⟩ : ∃ m : Nat, x0 = (m : Int) := ⟨x0.toNat, by omega⟩
     (try simp only at m2)
     have hxn : xn < ss.length := by omega
     obtain ⟨⟨e1, e2⟩, hdp⟩ : ∃ z, dpZ ⟨WW, HH, SS, ss⟩ (lo, hi) (xn : Int) = z := ⟨_, rfl⟩
     have hpt := HPH.out (xn : Int) _ hdp
     rw [hdp] at m3 m4
     simp only at m3 m4 hpt
     obtain ⟨PT, hPT⟩ : ∃ z, partHi ⟨WW, HH, SS, ss⟩ (lo, hi) ⟨(d1, d2), (l1, l2)⟩ d (s1, s2) (xn : Int) = z := ⟨_, rfl⟩
     rw [hPT] at m5 m6 hst hpt
     have HDP := Lib.hid hdp
     have HXN := Lib.hid hxn
     have HST := Lib.hid hst
     have hbl2 := hbl
     subst hal
     have wx : IntKind.i64.wrap (xb + PT) = xb + PT := IntWalk.i64_in _ (by omega)
     clear hx hdp hxn hst hPT
     have cb60 := kcl0 Hb6
     have cb61 := kcl1 Hb6
     have cb62 := kcl2 Hb6
     have cb63 := kcl3 Hb6
     go_upto_region 13 with (fail)
     clear cb60 cb61 cb62 cb63
     by_cases hmx : 1 < e1
     ·
      have hmv : max e1 1 = e1 := by omega
      rw [hmv] at hpt
      have HPT := Lib.hid hpt.symm
      clear hpt hmv
      have wd : IntKind.i64.wrap (3832031250 * e1) = 3832031250 * e1 := IntWalk.i64_in _ (by omega)
      have HSV : Hid (∀ U, Below wr.heap.size wr U → U.cell? ⟨b6, 0, none⟩ = some (.int .i64 (WW)) ∧ U.cell? ⟨b6, 1, none⟩ = some (.int .i64 (HH)) ∧ U.cell? ⟨b6, 2, none⟩ = some (.int .i64 (SS)) ∧ U.cell? ⟨b6, 3, none⟩ = some (.slice A ss.length c) ∧ U.cell? ⟨b7, 0, none⟩ = some (.int .i64 (lo)) ∧ U.cell? ⟨b7, 1, none⟩ = some (.int .i64 (hi)) ∧ U.cell? ⟨b8, 0, none⟩ = some (.int .i64 (d1)) ∧ U.cell? ⟨b8, 1, none⟩ = some (.int .i64 (d2)) ∧ U.cell? ⟨b8, 2, none⟩ = some (.int .i64 (l1)) ∧ U.cell? ⟨b8, 3, none⟩ = some (.int .i64 (l2)) ∧ U.cell? ⟨b11, 0, none⟩ = some (.int .i64 (s1)) ∧ U.cell? ⟨b11, 1, none⟩ = some (.int .i64 (s2)) ∧ U.cell? ⟨b17, 0, none⟩ = some (.int .i64 (xa)) ∧ U.cell? ⟨b17, 1, none⟩ = some (.int .i64 (xb)) ∧ U.cell? ⟨bl, ol + kb, none⟩ = some (.int .i64 ((xn : Int)))) := fun U hU => by
       have kb6 := Hb6.out.below hU Hb6.out.lt
       have kb7 := Hb7.out.below hU Hb7.out.lt
       have kb8 := Hb8.out.below hU Hb8.out.lt
       have kb11 := Hb11.out.below hU Hb11.out.lt
       have kb17 := Hb17.out.below hU Hb17.out.lt
       exact ⟨kb6.cell 0, kb6.cell 1, kb6.cell 2, kb6.cell 3, kb7.cell 0, kb7.cell 1, kb8.cell 0, kb8.cell 1, kb8.cell 2, kb8.cell 3, kb11.cell 0, kb11.cell 1, kb17.cell 0, kb17.cell 1, (hU.cell (p := ⟨bl, ol + kb, none⟩) hbl2).trans cq⟩
      have k0 := HSV.out _ (Below.drew (Below.refl wr.heap.size wr))
      refine wp_region_noPanic ?_
      refine wp_region_L (S := (fun w' => w'.cell? ⟨b6, 0, none⟩ = some (.int .i64 (WW)) ∧ w'.cell? ⟨b6, 1, none⟩ = some (.int .i64 (HH)) ∧ w'.cell? ⟨b6, 2, none⟩ = some (.int .i64 (SS)) ∧ w'.cell? ⟨b6, 3, none⟩ = some (.slice A ss.length c) ∧ w'.cell? ⟨b7, 0, none⟩ = some (.int .i64 (lo)) ∧ w'.cell? ⟨b7, 1, none⟩ = some (.int .i64 (hi)) ∧ w'.cell? ⟨b8, 0, none⟩ = some (.int .i64 (d1)) ∧ w'.cell? ⟨b8, 1, none⟩ = some (.int .i64 (d2)) ∧ w'.cell? ⟨b8, 2, none⟩ = some (.int .i64 (l1)) ∧ w'.cell? ⟨b8, 3, none⟩ = some (.int .i64 (l2)) ∧ w'.cell? ⟨b11, 0, none⟩ = some (.int .i64 (s1)) ∧ w'.cell? ⟨b11, 1, none⟩ = some (.int .i64 (s2)) ∧ w'.cell? ⟨b17, 0, none⟩ = some (.int .i64 (xa)) ∧ w'.cell? ⟨b17, 1, none⟩ = some (.int .i64 (xb)) ∧ w'.cell? ⟨bl, ol + kb, none⟩ = some (.int .i64 ((xn : Int))))) (ks := [26]) (by kernel_rfl) ?_ (fun hHeld => ?_)
      · (try dsimp only); (exact k0)
      refine tL 0 Zcb ?_ ?_ ?_
      rotate_left
      · ((intro w hSw; delta Zcb; (try dsimp only at hSw); go_simp) <;> with_reducible rfl)
      try simp only [Zcb, ksz]
      refine tL 2 Zcd ?_ ?_ ?_
      rotate_left
      · ((intro w hSw; delta Zcd; (try dsimp only at hSw); go_simp) <;> with_reducible rfl)
      try simp only [Zcd, ksz]
      refine tL 5 Zcg ?_ ?_ ?_
      rotate_left
      · ((intro w hSw; delta Zcg; (try dsimp only at hSw); go_simp) <;> with_reducible rfl)
      try simp only [Zcg, ksz]
      refine tL 8 Zcj ?_ ?_ ?_
      rotate_left
      · ((intro w hSw; delta Zcj; (try dsimp only at hSw); go_simp) <;> with_reducible rfl)
      try simp only [Zcj, ksz]
      refine tL 11 Zcm ?_ ?_ ?_
      rotate_left
      · ((intro w hSw; delta Zcm; (try dsimp only at hSw); go_simp) <;> with_reducible rfl)
      try simp only [Zcm, ksz]
      refine tL 13 Zco ?_ ?_ ?_
      rotate_left
      · ((intro w hSw; delta Zco; (try dsimp only at hSw); go_simp) <;> with_reducible rfl)
      try simp only [Zco, ksz]
      refine tL 14 Zcp ?_ ?_ ?_
      rotate_left
      · ((intro w hSw; delta Zcp; (try dsimp only at hSw); go_simp) <;> with_reducible rfl)
      try simp only [Zcp, ksz]
      refine tL 15 Zcq ?_ ?_ ?_
      rotate_left
      · ((intro w hSw; delta Zcq; (try dsimp only at hSw); go_simp) <;> with_reducible rfl)
      try simp only [Zcq, ksz]
      refine tL 16 Zcr ?_ ?_ ?_
      rotate_left
      · ((intro w hSw; delta Zcr; (try dsimp only at hSw); go_simp) <;> with_reducible rfl)
      try simp only [Zcr, ksz]
      refine tL 1 Zcc ?_ ?_ ?_
      rotate_left
      · ((intro w hSw; delta Zcc; (try dsimp only at hSw); go_simp) <;> with_reducible rfl)
      try simp only [Zcc, ksz]
      refine tL 3 Zce ?_ ?_ ?_
      rotate_left
      · ((intro w hSw; delta Zce; (try dsimp only at hSw); go_simp) <;> with_reducible rfl)
      try simp only [Zce, ksz]
      refine tL 6 Zch ?_ ?_ ?_
      rotate_left
      · ((intro w hSw; delta Zch; (try dsimp only at hSw); go_simp) <;> with_reducible rfl)
      try simp only [Zch, ksz]
      refine tL 9 Zck ?_ ?_ ?_
      rotate_left
      · ((intro w hSw; delta Zck; (try dsimp only at hSw); go_simp) <;> with_reducible rfl)
      try simp only [Zck, ksz]
      refine tL 17 Zcs ?_ ?_ ?_
      rotate_left
      · ((intro w hSw; delta Zcs; (try dsimp only at hSw); go_simp) <;> with_reducible rfl)
      try simp only [Zcs, ksz]
      refine tL 4 Zcf ?_ ?_ ?_
      rotate_left
      · ((intro w hSw; delta Zcf; (try dsimp only at hSw); go_simp) <;> with_reducible rfl)
      try simp only [Zcf, ksz]
      refine tL 18 Zct ?_ ?_ ?_
      rotate_left
      · ((intro w hSw; delta Zct; (try dsimp only at hSw); go_simp) <;> with_reducible rfl)
      try simp only [Zct, ksz]
      refine tL 7 Zci ?_ ?_ ?_
      rotate_left
      · ((intro w hSw; delta Zci; (try dsimp only at hSw); go_simp) <;> with_reducible rfl)
      try simp only [Zci, ksz]
      refine tL 10 Zcl ?_ ?_ ?_
      rotate_left
      · ((intro w hSw; delta Zcl; (try dsimp only at hSw); go_simp) <;> with_reducible rfl)
      try simp only [Zcl, ksz]
      refine tL 12 Zcn ?_ ?_ ?_
      rotate_left
      · ((intro w hSw; delta Zcn; (try dsimp only at hSw); go_simp) <;> with_reducible rfl)
      try simp only [Zcn, ksz]
      obtain ⟨W0, hW0⟩ : ∃ V, wr.drew = V := ⟨_, rfl⟩; rw [hW0] at hHeld ⊢; have HB0 : Hid (Below wr.heap.size wr W0) := (by rw [← hW0]; exact Below.drew (Below.refl _ _)); clear hW0
      refine wpAnyL_ready (rs := [19]) (by kernel_rfl) (by simp) ?_
      refine AllReadyL.cons (o := Zcu) rfl (fun K hK => ?_) AllReadyL.nil
      delta Zcu
      go_simp
      (refine (rDepth_any ⟨WW, HH, SS, ss⟩ A c lo hi xn _ (HS0.out.later (HB.out.trans (HB0.out.mono HB.out.size)) (Nat.le_refl _)) HXN.out HE.out HSE.out).mono ?_; rintro e W1 ⟨rfl, hb⟩; have HB1 := Lib.hid (HB0.out.trans (hb.mono HB0.out.size)); clear hb; rw [HDP.out])
      refine hK.out _ _ ?_ (fun hHeld => ?_)
      · (try dsimp only); (exact HSV.out _ HB1.out)
      clear hK K
      try simp only [Zcu, ksz]
      refine tL 20 Zcv ?_ ?_ ?_
      rotate_left
      · ((intro w hSw; delta Zcv; (try dsimp only at hSw); go_simp) <;> with_reducible rfl)
      try simp only [Zcv, ksz]
      refine wpAnyL_ready (rs := [21]) (by kernel_rfl) (by simp) ?_
      refine AllReadyL.cons (o := Zcw) rfl (fun K hK => ?_) AllReadyL.nil
      delta Zcw
      go_simp
      refine hK.out _ _ ?_ (fun hHeld => ?_)
      · (try dsimp only); (exact HSV.out _ HB1.out)
      clear hK K
      try simp only [Zcw, ksz]
      refine tL 22 Zcx ?_ ?_ ?_
      rotate_left
      · ((intro w hSw; delta Zcx; (try dsimp only at hSw); go_simp) <;> with_reducible rfl)
      try simp only [Zcx, ksz]
      refine wpAnyL_ready (rs := [23]) (by kernel_rfl) (by simp) ?_
      refine AllReadyL.cons (o := Zcy) rfl (fun K hK => ?_) AllReadyL.nil
      delta Zcy
      go_simp
      (refine (rup_any Q (3832031250 * e1) _ (by omega) (by omega) (by omega)).mono ?_; rintro e W2 ⟨rfl, hw⟩; have HB2 : Hid (Below wr.heap.size wr W2) := (by rw [← hw]; exact HB1.out); clear hw; rw [HPT.out])
      refine hK.out _ _ ?_ (fun hHeld => ?_)
      · (try dsimp only); (exact HSV.out _ HB2.out)
      clear hK K
      try simp only [Zcy, ksz]
      refine tL 24 Zcz ?_ ?_ ?_
      rotate_left
      · ((intro w hSw; delta Zcz; (try dsimp only at hSw); go_simp) <;> with_reducible rfl)
      try simp only [Zcz, ksz]
      refine tL 25 Zd0 ?_ ?_ ?_
      rotate_left
      · ((intro w hSw; delta Zd0; (try dsimp only at hSw); go_simp) <;> with_reducible rfl)
      try simp only [Zd0, ksz]
      have Gb6 := Lib.hid (Hb6.out.below HB2.out Hb6.out.lt); have Gb7 := Lib.hid (Hb7.out.below HB2.out Hb7.out.lt); have Gb8 := Lib.hid (Hb8.out.below HB2.out Hb8.out.lt); have Gb11 := Lib.hid (Hb11.out.below HB2.out Hb11.out.lt); have Gb12 := Lib.hid (Hb12.out.below HB2.out Hb12.out.lt); have Gb17 := Lib.hid (Hb17.out.below HB2.out Hb17.out.lt); have GHB := Lib.hid (HB.out.trans (HB2.out.mono HB.out.size)); have GHP := Lib.hid (HP.out.trans (HB2.out.mono HP.out.size)); clear Hb6 Hb7 Hb8 Hb11 Hb12 Hb17 HB HP; have Hb6 := Gb6; clear Gb6; have Hb7 := Gb7; clear Gb7; have Hb8 := Gb8; clear Gb8; have Hb11 := Gb11; clear Gb11; have Hb12 := Gb12; clear Gb12; have Hb17 := Gb17; clear Gb17; have HB := GHB; clear GHB; have HP := GHP; clear GHP; have cR0 := Hb17.out.cell 1; have zR0 := Hb17.out.frozen 1; simp only [List.getElem?_toArray, List.getElem?_cons_zero, List.getElem?_cons_succ] at cR0
      refine wpAnyL_ready (rs := [26]) (by kernel_rfl) (by simp) ?_
      refine AllReadyL.gate (o := Zd1) rfl (by kernel_rfl) (fun K hK => ?_) AllReadyL.nil
      delta Zd1
      go_simp
      refine hK.out _ _ ?_
      clear hK K
      try simp only [Zd1, ksz]
      obtain ⟨Va171, hV⟩ : ∃ V, W2.setCell ⟨b17, 1, none⟩ (.int .i64 (xb + PT)) = V := ⟨_, rfl⟩; replace Hb6 : Hid (Blk Va171 b6 24 #[.int .i64 (WW), .int .i64 (HH), .int .i64 (SS), .slice A ss.length c]) := (by rw [← hV]; exact (Hb6.out.far_ (p := ⟨b17, 1, none⟩) nb6b17 _)); replace Hb7 : Hid (Blk Va171 b7 26 #[.int .i64 (lo), .int .i64 (hi)]) := (by rw [← hV]; exact (Hb7.out.far_ (p := ⟨b17, 1, none⟩) nb7b17 _)); replace Hb8 : Hid (Blk Va171 b8 40 #[.int .i64 (d1), .int .i64 (d2), .int .i64 (l1), .int .i64 (l2)]) := (by rw [← hV]; exact (Hb8.out.far_ (p := ⟨b17, 1, none⟩) nb8b17 _)); replace Hb11 : Hid (Blk Va171 b11 26 #[.int .i64 (s1), .int .i64 (s2)]) := (by rw [← hV]; exact (Hb11.out.far_ (p := ⟨b17, 1, none⟩) nb11b17 _)); replace Hb12 : Hid (Blk Va171 b12 26 #[.int .i64 (0), .int .i64 (0)]) := (by rw [← hV]; exact (Hb12.out.far_ (p := ⟨b17, 1, none⟩) nb12b17 _)); replace Hb17 : Hid (Blk Va171 b17 26 #[.int .i64 (xa), .int .i64 (xb + PT)]) := (by rw [← hV]; exact (Hb17.out.set_ 1 (.int .i64 (xb + PT)))); replace HB : Hid (Below w.heap.size w Va171) := (by rw [← hV]; exact (HB.out.setCell (p := ⟨b17, 1, none⟩) gb17 _)); replace HP : Hid (Below Va3.heap.size Va3 Va171) := (by rw [← hV]; exact (HP.out.setCell (p := ⟨b17, 1, none⟩) gb17_HP _)); rw [hV]; clear hV cR0 zR0
      refine wpAnyL_done (by kernel_rfl) ?_ _
      refine NoPanic.normal ?_
      clear HSV k0
      clear hHeld HB0 HB1 HB2
      go_wp2
      go_roundw
      case rel => exact ⟨kb + 1, xb + PT, by omega, by go_num, HST.out, Hb17, HP⟩
      case measure => simp [intOf] <;> omega
     ·
      have hmv : max e1 1 = 1 := by omega
      rw [hmv] at hpt
      rw [show (3832031250 : Int) * 1 = 3832031250 from rfl] at hpt
      have HPT := Lib.hid hpt.symm
      clear hpt hmv
      have HSV : Hid (∀ U, Below wr.heap.size wr U → U.cell? ⟨b6, 0, none⟩ = some (.int .i64 (WW)) ∧ U.cell? ⟨b6, 1, none⟩ = some (.int .i64 (HH)) ∧ U.cell? ⟨b6, 2, none⟩ = some (.int .i64 (SS)) ∧ U.cell? ⟨b6, 3, none⟩ = some (.slice A ss.length c) ∧ U.cell? ⟨b7, 0, none⟩ = some (.int .i64 (lo)) ∧ U.cell? ⟨b7, 1, none⟩ = some (.int .i64 (hi)) ∧ U.cell? ⟨b8, 0, none⟩ = some (.int .i64 (d1)) ∧ U.cell? ⟨b8, 1, none⟩ = some (.int .i64 (d2)) ∧ U.cell? ⟨b8, 2, none⟩ = some (.int .i64 (l1)) ∧ U.cell? ⟨b8, 3, none⟩ = some (.int .i64 (l2)) ∧ U.cell? ⟨b11, 0, none⟩ = some (.int .i64 (s1)) ∧ U.cell? ⟨b11, 1, none⟩ = some (.int .i64 (s2)) ∧ U.cell? ⟨b17, 0, none⟩ = some (.int .i64 (xa)) ∧ U.cell? ⟨b17, 1, none⟩ = some (.int .i64 (xb)) ∧ U.cell? ⟨bl, ol + kb, none⟩ = some (.int .i64 ((xn : Int)))) := fun U hU => by
       have kb6 := Hb6.out.below hU Hb6.out.lt
       have kb7 := Hb7.out.below hU Hb7.out.lt
       have kb8 := Hb8.out.below hU Hb8.out.lt
       have kb11 := Hb11.out.below hU Hb11.out.lt
       have kb17 := Hb17.out.below hU Hb17.out.lt
       exact ⟨kb6.cell 0, kb6.cell 1, kb6.cell 2, kb6.cell 3, kb7.cell 0, kb7.cell 1, kb8.cell 0, kb8.cell 1, kb8.cell 2, kb8.cell 3, kb11.cell 0, kb11.cell 1, kb17.cell 0, kb17.cell 1, (hU.cell (p := ⟨bl, ol + kb, none⟩) hbl2).trans cq⟩
      have k0 := HSV.out _ (Below.drew (Below.refl wr.heap.size wr))
      refine wp_region_noPanic ?_
      refine wp_region_L (S := (fun w' => w'.cell? ⟨b6, 0, none⟩ = some (.int .i64 (WW)) ∧ w'.cell? ⟨b6, 1, none⟩ = some (.int .i64 (HH)) ∧ w'.cell? ⟨b6, 2, none⟩ = some (.int .i64 (SS)) ∧ w'.cell? ⟨b6, 3, none⟩ = some (.slice A ss.length c) ∧ w'.cell? ⟨b7, 0, none⟩ = some (.int .i64 (lo)) ∧ w'.cell? ⟨b7, 1, none⟩ = some (.int .i64 (hi)) ∧ w'.cell? ⟨b8, 0, none⟩ = some (.int .i64 (d1)) ∧ w'.cell? ⟨b8, 1, none⟩ = some (.int .i64 (d2)) ∧ w'.cell? ⟨b8, 2, none⟩ = some (.int .i64 (l1)) ∧ w'.cell? ⟨b8, 3, none⟩ = some (.int .i64 (l2)) ∧ w'.cell? ⟨b11, 0, none⟩ = some (.int .i64 (s1)) ∧ w'.cell? ⟨b11, 1, none⟩ = some (.int .i64 (s2)) ∧ w'.cell? ⟨b17, 0, none⟩ = some (.int .i64 (xa)) ∧ w'.cell? ⟨b17, 1, none⟩ = some (.int .i64 (xb)) ∧ w'.cell? ⟨bl, ol + kb, none⟩ = some (.int .i64 ((xn : Int))))) (ks := [26]) (by kernel_rfl) ?_ (fun hHeld => ?_)
      · (try dsimp only); (exact k0)
      refine tL 0 Zcb ?_ ?_ ?_
      rotate_left
      · ((intro w hSw; delta Zcb; (try dsimp only at hSw); go_simp) <;> with_reducible rfl)
      try simp only [Zcb, ksz]
      refine tL 2 Zcd ?_ ?_ ?_
      rotate_left
      · ((intro w hSw; delta Zcd; (try dsimp only at hSw); go_simp) <;> with_reducible rfl)
      try simp only [Zcd, ksz]
      refine tL 5 Zcg ?_ ?_ ?_
      rotate_left
      · ((intro w hSw; delta Zcg; (try dsimp only at hSw); go_simp) <;> with_reducible rfl)
      try simp only [Zcg, ksz]
      refine tL 8 Zcj ?_ ?_ ?_
      rotate_left
      · ((intro w hSw; delta Zcj; (try dsimp only at hSw); go_simp) <;> with_reducible rfl)
      try simp only [Zcj, ksz]
      refine tL 11 Zcm ?_ ?_ ?_
      rotate_left
      · ((intro w hSw; delta Zcm; (try dsimp only at hSw); go_simp) <;> with_reducible rfl)
      try simp only [Zcm, ksz]
      refine tL 13 Zco ?_ ?_ ?_
      rotate_left
      · ((intro w hSw; delta Zco; (try dsimp only at hSw); go_simp) <;> with_reducible rfl)
      try simp only [Zco, ksz]
      refine tL 14 Zcp ?_ ?_ ?_
      rotate_left
      · ((intro w hSw; delta Zcp; (try dsimp only at hSw); go_simp) <;> with_reducible rfl)
      try simp only [Zcp, ksz]
      refine tL 15 Zcq ?_ ?_ ?_
      rotate_left
      · ((intro w hSw; delta Zcq; (try dsimp only at hSw); go_simp) <;> with_reducible rfl)
      try simp only [Zcq, ksz]
      refine tL 16 Zcr ?_ ?_ ?_
      rotate_left
      · ((intro w hSw; delta Zcr; (try dsimp only at hSw); go_simp) <;> with_reducible rfl)
      try simp only [Zcr, ksz]
      refine tL 1 Zcc ?_ ?_ ?_
      rotate_left
      · ((intro w hSw; delta Zcc; (try dsimp only at hSw); go_simp) <;> with_reducible rfl)
      try simp only [Zcc, ksz]
      refine tL 3 Zce ?_ ?_ ?_
      rotate_left
      · ((intro w hSw; delta Zce; (try dsimp only at hSw); go_simp) <;> with_reducible rfl)
      try simp only [Zce, ksz]
      refine tL 6 Zch ?_ ?_ ?_
      rotate_left
      · ((intro w hSw; delta Zch; (try dsimp only at hSw); go_simp) <;> with_reducible rfl)
      try simp only [Zch, ksz]
      refine tL 9 Zck ?_ ?_ ?_
      rotate_left
      · ((intro w hSw; delta Zck; (try dsimp only at hSw); go_simp) <;> with_reducible rfl)
      try simp only [Zck, ksz]
      refine tL 17 Zcs ?_ ?_ ?_
      rotate_left
      · ((intro w hSw; delta Zcs; (try dsimp only at hSw); go_simp) <;> with_reducible rfl)
      try simp only [Zcs, ksz]
      refine tL 4 Zcf ?_ ?_ ?_
      rotate_left
      · ((intro w hSw; delta Zcf; (try dsimp only at hSw); go_simp) <;> with_reducible rfl)
      try simp only [Zcf, ksz]
      refine tL 18 Zct ?_ ?_ ?_
      rotate_left
      · ((intro w hSw; delta Zct; (try dsimp only at hSw); go_simp) <;> with_reducible rfl)
      try simp only [Zct, ksz]
      refine tL 7 Zci ?_ ?_ ?_
      rotate_left
      · ((intro w hSw; delta Zci; (try dsimp only at hSw); go_simp) <;> with_reducible rfl)
      try simp only [Zci, ksz]
      refine tL 10 Zcl ?_ ?_ ?_
      rotate_left
      · ((intro w hSw; delta Zcl; (try dsimp only at hSw); go_simp) <;> with_reducible rfl)
      try simp only [Zcl, ksz]
      refine tL 12 Zcn ?_ ?_ ?_
      rotate_left
      · ((intro w hSw; delta Zcn; (try dsimp only at hSw); go_simp) <;> with_reducible rfl)
      try simp only [Zcn, ksz]
      obtain ⟨W0, hW0⟩ : ∃ V, wr.drew = V := ⟨_, rfl⟩; rw [hW0] at hHeld ⊢; have HB0 : Hid (Below wr.heap.size wr W0) := (by rw [← hW0]; exact Below.drew (Below.refl _ _)); clear hW0
      refine wpAnyL_ready (rs := [19]) (by kernel_rfl) (by simp) ?_
      refine AllReadyL.cons (o := Zcu) rfl (fun K hK => ?_) AllReadyL.nil
      delta Zcu
      go_simp
      (refine (rDepth_any ⟨WW, HH, SS, ss⟩ A c lo hi xn _ (HS0.out.later (HB.out.trans (HB0.out.mono HB.out.size)) (Nat.le_refl _)) HXN.out HE.out HSE.out).mono ?_; rintro e W1 ⟨rfl, hb⟩; have HB1 := Lib.hid (HB0.out.trans (hb.mono HB0.out.size)); clear hb; rw [HDP.out])
      refine hK.out _ _ ?_ (fun hHeld => ?_)
      · (try dsimp only); (exact HSV.out _ HB1.out)
      clear hK K
      try simp only [Zcu, ksz]
      refine tL 20 Zcv ?_ ?_ ?_
      rotate_left
      · ((intro w hSw; delta Zcv; (try dsimp only at hSw); go_simp) <;> with_reducible rfl)
      try simp only [Zcv, ksz]
      refine wpAnyL_ready (rs := [21]) (by kernel_rfl) (by simp) ?_
      refine AllReadyL.cons (o := Zcw) rfl (fun K hK => ?_) AllReadyL.nil
      delta Zcw
      go_simp
      refine hK.out _ _ ?_ (fun hHeld => ?_)
      · (try dsimp only); (exact HSV.out _ HB1.out)
      clear hK K
      try simp only [Zcw, ksz]
      refine tL 22 Zcx ?_ ?_ ?_
      rotate_left
      · ((intro w hSw; delta Zcx; (try dsimp only at hSw); go_simp) <;> with_reducible rfl)
      try simp only [Zcx, ksz]
      refine wpAnyL_ready (rs := [23]) (by kernel_rfl) (by simp) ?_
      refine AllReadyL.cons (o := Zcy) rfl (fun K hK => ?_) AllReadyL.nil
      delta Zcy
      go_simp
      (refine (rup_any Q (3832031250) _ (by omega) (by omega) (by omega)).mono ?_; rintro e W2 ⟨rfl, hw⟩; have HB2 : Hid (Below wr.heap.size wr W2) := (by rw [← hw]; exact HB1.out); clear hw; rw [HPT.out])
      refine hK.out _ _ ?_ (fun hHeld => ?_)
      · (try dsimp only); (exact HSV.out _ HB2.out)
      clear hK K
      try simp only [Zcy, ksz]
      refine tL 24 Zcz ?_ ?_ ?_
      rotate_left
      · ((intro w hSw; delta Zcz; (try dsimp only at hSw); go_simp) <;> with_reducible rfl)
      try simp only [Zcz, ksz]
      refine tL 25 Zd0 ?_ ?_ ?_
      rotate_left
      · ((intro w hSw; delta Zd0; (try dsimp only at hSw); go_simp) <;> with_reducible rfl)
      try simp only [Zd0, ksz]
      have Gb6 := Lib.hid (Hb6.out.below HB2.out Hb6.out.lt); have Gb7 := Lib.hid (Hb7.out.below HB2.out Hb7.out.lt); have Gb8 := Lib.hid (Hb8.out.below HB2.out Hb8.out.lt); have Gb11 := Lib.hid (Hb11.out.below HB2.out Hb11.out.lt); have Gb12 := Lib.hid (Hb12.out.below HB2.out Hb12.out.lt); have Gb17 := Lib.hid (Hb17.out.below HB2.out Hb17.out.lt); have GHB := Lib.hid (HB.out.trans (HB2.out.mono HB.out.size)); have GHP := Lib.hid (HP.out.trans (HB2.out.mono HP.out.size)); clear Hb6 Hb7 Hb8 Hb11 Hb12 Hb17 HB HP; have Hb6 := Gb6; clear Gb6; have Hb7 := Gb7; clear Gb7; have Hb8 := Gb8; clear Gb8; have Hb11 := Gb11; clear Gb11; have Hb12 := Gb12; clear Gb12; have Hb17 := Gb17; clear Gb17; have HB := GHB; clear GHB; have HP := GHP; clear GHP; have cR0 := Hb17.out.cell 1; have zR0 := Hb17.out.frozen 1; simp only [List.getElem?_toArray, List.getElem?_cons_zero, List.getElem?_cons_succ] at cR0
      refine wpAnyL_ready (rs := [26]) (by kernel_rfl) (by simp) ?_
      refine AllReadyL.gate (o := Zd1) rfl (by kernel_rfl) (fun K hK => ?_) AllReadyL.nil
      delta Zd1
      go_simp
      refine hK.out _ _ ?_
      clear hK K
      try simp only [Zd1, ksz]
      obtain ⟨Va171, hV⟩ : ∃ V, W2.setCell ⟨b17, 1, none⟩ (.int .i64 (xb + PT)) = V := ⟨_, rfl⟩; replace Hb6 : Hid (Blk Va171 b6 24 #[.int .i64 (WW), .int .i64 (HH), .int .i64 (SS), .slice A ss.length c]) := (by rw [← hV]; exact (Hb6.out.far_ (p := ⟨b17, 1, none⟩) nb6b17 _)); replace Hb7 : Hid (Blk Va171 b7 26 #[.int .i64 (lo), .int .i64 (hi)]) := (by rw [← hV]; exact (Hb7.out.far_ (p := ⟨b17, 1, none⟩) nb7b17 _)); replace Hb8 : Hid (Blk Va171 b8 40 #[.int .i64 (d1), .int .i64 (d2), .int .i64 (l1), .int .i64 (l2)]) := (by rw [← hV]; exact (Hb8.out.far_ (p := ⟨b17, 1, none⟩) nb8b17 _)); replace Hb11 : Hid (Blk Va171 b11 26 #[.int .i64 (s1), .int .i64 (s2)]) := (by rw [← hV]; exact (Hb11.out.far_ (p := ⟨b17, 1, none⟩) nb11b17 _)); replace Hb12 : Hid (Blk Va171 b12 26 #[.int .i64 (0), .int .i64 (0)]) := (by rw [← hV]; exact (Hb12.out.far_ (p := ⟨b17, 1, none⟩) nb12b17 _)); replace Hb17 : Hid (Blk Va171 b17 26 #[.int .i64 (xa), .int .i64 (xb + PT)]) := (by rw [← hV]; exact (Hb17.out.set_ 1 (.int .i64 (xb + PT)))); replace HB : Hid (Below w.heap.size w Va171) := (by rw [← hV]; exact (HB.out.setCell (p := ⟨b17, 1, none⟩) gb17 _)); replace HP : Hid (Below Va3.heap.size Va3 Va171) := (by rw [← hV]; exact (HP.out.setCell (p := ⟨b17, 1, none⟩) gb17_HP _)); rw [hV]; clear hV cR0 zR0
      refine wpAnyL_done (by kernel_rfl) ?_ _
      refine NoPanic.normal ?_
      clear HSV k0
      clear hHeld HB0 HB1 HB2
      go_wp2
      go_roundw
      case rel => exact ⟨kb + 1, xb + PT, by omega, by go_num, HST.out, Hb17, HP⟩
      case measure => simp [intOf] <;> omega
    have hke : kb = LM.length := by omega
    have hkl : ¬ ((kb : Int) < (LM.length : Int)) := by omega
    have HSF1 : Hid (sumZ (partHi ⟨WW, HH, SS, ss⟩ (lo, hi) ⟨(d1, d2), (l1, l2)⟩ d (s1, s2)) LM = xb) := by
     have h := HSM1.out
     rw [hke, List.take_length] at h
     exact h
    clear HSM1 hke hlt hk
    --@D
    have cb120 := kcl0 Hb12
    have cb121 := kcl1 Hb12
    have cb170 := kcl0 Hb17
    have cb171 := kcl1 Hb17
    have zb120 : wr.frozen? ⟨b12, 0, none⟩ = false := Hb12.out.frozen 0
    have zb121 : wr.frozen? ⟨b12, 1, none⟩ = false := Hb12.out.frozen 1
    go_wp2
    have hR := fun x y => span_res2 Hb12.out x y
    refine bodyPost_ret (v := .agg #[.int .i64 xa, .int .i64 xb]) (by simp [results, Tryd.results112, go_sem, hR]) rfl ⟨by rw [HSF0.out, HSF1.out], ?_⟩
    exact (HB.out.setCell (p := ⟨b12, 0, none⟩) gb12 _).setCell (p := ⟨b12, 1, none⟩) (by exact gb12) _
end Go.Proofs.YtdhcdgfpkjdihaaDoor.Sg
