import Derived.Test.YtbbehmcekbnkiaaGreatFne
import Derived.Test.YtbbehmcekbnkiaaGreatProg
import Derived.WalkKit
import Derived.WalkSpells
import Derived.RowKit3
import Derived.Below
import Derived.Outline
import Derived.Deep.QuietTactic
import Derived.BigQuiet
import Derived.WalkSmall
import Derived.LoopTactic
import Derived.Deep.Light
namespace Go.Proofs.YtbbehmcekbnkiaaGreat
open Go.RowKit
set_option linter.unusedVariables false
set_option linter.unusedSimpArgs false
theorem R4.cell {e base n : Nat} {w : World} {v : Value} (h : R4 e base w v n) : ∃ (g cap : Nat), (0 < n → v = .slice (some ⟨g, 0, none⟩) n cap ∧ g < w.heap.size) ∧ ∀ j, j < n * 4 → ∃ x : Int, w.cell? ⟨g, j, none⟩ = some (.int .i64 x) := by
 obtain ⟨xs, ⟨hl, h⟩, hall⟩ := h
 rcases h with ⟨_, h0⟩ | ⟨g, cap, cur, rfl, _, hb, hn, hm, hs, hx⟩
 ·exact ⟨0, 0, fun h => by omega, fun j hj => by omega⟩
 ·refine ⟨g, cap, fun _ => ⟨rfl, (Array.getElem?_eq_some_iff.1 hb).1⟩, fun j hj => ?_⟩
  have hjx : j < xs.length := by omega
  obtain ⟨x, hxj⟩ := hall xs[j] (List.getElem_mem hjx)
  refine ⟨x, ?_⟩
  rw [cell_of_row w g j cur e _ hb, ← Array.getElem?_toList]
  have h1 : xs[j]? = some (.int .i64 x) := by rw [List.getElem?_eq_getElem hjx, hxj]
  rw [← hx, List.getElem?_take] at h1
  rw [if_pos (by first | exact hj | omega)] at h1
  exact h1
set_option maxRecDepth 20000 in
set_option maxHeartbeats 4000000 in
theorem glyph_any {nm : ByteArray} {gv pv : Value} {s1 s2 s3 s4 s5 q r : Int} {m base : Nat} (c : Int) (w : World) (h : R4 215 base w gv m) (hm : m ≤ 200) :
 Calls Tryz.prog 116 #[.agg (ftA nm gv pv s1 s2 s3 s4 s5 q r), .int .i64 c] w fun e w' => ∃ i : Int, e = .returned (.int .i64 i) ∧ -1 ≤ i ∧ i < (m : Int) ∧ Below w.heap.size w w' := by
 obtain ⟨g, cap, hv, hc⟩ := h.cell
 obtain ⟨ga, gc, rfl⟩ := h.shape0
 have HV := hideP hv
 have HC := hideP hc
 clear hv hc h
 have hfc : (w.alloc (.cells (ftA nm (.slice ga m gc) pv s1 s2 s3 s4 s5 q r) 211)).cell? ⟨w.heap.size, 1, none⟩ = some (.slice ga m gc) := cell_of_row _ _ 1 _ 211 _ (heap_alloc_new w _)
 have HB := hideP (below1 w (.cells (ftA nm (.slice ga m gc) pv s1 s2 s3 s4 s5 q r) 211))
 go_enter Tryz.func116, Tryz.ntmps116
 go_wp2_with fail
 generalize World.alloc _ _ = W at *
 go_loopw [5, 6, 7] (fun s5 s6 _ wr => wr = W ∧ ∃ lo hi : Nat, lo ≤ hi ∧ hi ≤ m ∧ s5 = .int .i64 (lo : Int) ∧ s6 = .int .i64 (hi : Int)) (fun s5 s6 _ _ => (intOf s6 - intOf s5).toNat)
 case atStart => exact ⟨rfl, 0, m, Nat.zero_le _, Nat.le_refl _, rfl, rfl⟩
 case round =>
  obtain ⟨rfl, lo, hi, hlh, hhm, rfl, rfl⟩ := hrel
  by_cases hlt : lo < hi
  ·have hli : (lo : Int) < (hi : Int) := by omega
   obtain ⟨mid, hmid⟩ : ∃ mid : Nat, ((lo : Int) + (hi : Int)) / 2 = (mid : Int) := ⟨(lo + hi) / 2, by omega⟩
   have hm1 : (mid : Int) < (m : Int) := by omega
   have hm0 : mid < m := by omega
   have HM : Hid (lo ≤ mid ∧ mid < hi) := hideP (by omega)
   obtain ⟨hve, hgl⟩ := HV.out (by omega)
   obtain ⟨x, hx⟩ := HC.out (mid * 4) (by omega)
   cases hve
   have hx' := (HB.out.cell (p := ⟨g, mid * 4, none⟩) hgl).trans hx
   go_wp2
   ·go_roundw
    case rel => exact ⟨trivial, mid + 1, hi, by have := HM.out; omega, by omega, by go_num, rfl⟩
    case measure => have := HM.out; simp [intOf]; omega
   ·go_roundw
    case rel => exact ⟨trivial, lo, mid, by have := HM.out; omega, by omega, rfl, by rw [hmid]⟩
    case measure => have := HM.out; simp [intOf]; omega
  ·have hli : ¬ (lo : Int) < (hi : Int) := by omega
   obtain rfl : lo = hi := by omega
   by_cases hlm : lo < m
   ·have hlmi : (lo : Int) < (m : Int) := by omega
    obtain ⟨hve, hgl⟩ := HV.out (by omega)
    obtain ⟨x, hx⟩ := HC.out (lo * 4) (by omega)
    cases hve
    have hx' := (HB.out.cell (p := ⟨g, lo * 4, none⟩) hgl).trans hx
    go_wp2
    all_goals go_ret
    all_goals exact ⟨_, rfl, by omega, by omega, HB.out⟩
   ·have hlmi : ¬ (lo : Int) < (m : Int) := by omega
    have hlmd : decide ((lo : Int) < (m : Int)) = false := by simp; omega
    go_wp2
    go_ret
    exact ⟨_, rfl, by omega, by omega, HB.out⟩
end Go.Proofs.YtbbehmcekbnkiaaGreat
namespace Go.Proofs.YtbbehmcekbnkiaaGreat.Shr
open Go.RowKit
set_option linter.unusedVariables false
set_option linter.unusedSimpArgs false
def fitsB (x : Int) : Bool := decide (-1073741823 ≤ x ∧ x ≤ 1073741823)
def orderB (x : Int) : Bool := decide (0 ≤ x ∧ x ≤ 3)
theorem fits_yes {x : Int} (h1 : -1073741823 ≤ x) (h2 : x ≤ 1073741823) : fitsB x = true := by simp [fitsB, h1, h2]
theorem fits_no {x : Int} (h : ¬ (-1073741823 ≤ x ∧ x ≤ 1073741823)) : fitsB x = false := by simp [fitsB]; omega
theorem order_no {x : Int} (h : ¬ (0 ≤ x ∧ x ≤ 3)) : orderB x = false := by simp [orderB]; omega
theorem specFits_any (x : Int) (w : World) : Calls Tryz.prog 89 #[.int .i64 x] w fun e w' => e = .returned (.bool (fitsB x)) ∧ w' = w := by
 by_cases h1 : -1073741823 ≤ x
 ·by_cases h2 : x ≤ 1073741823
  ·rw [fits_yes h1 h2]
   go_enter Tryz.func89, Tryz.ntmps89
   go_wp2
   go_ret
   exact ⟨rfl, rfl⟩
  ·rw [fits_no (by omega)]
   go_enter Tryz.func89, Tryz.ntmps89
   go_wp2
   go_ret
   exact ⟨rfl, rfl⟩
 ·rw [fits_no (by omega)]
  go_enter Tryz.func89, Tryz.ntmps89
  go_wp2
  go_ret
  exact ⟨rfl, rfl⟩
theorem implFits_any (x : Int) (w : World) : Calls Tryz.prog 44 #[.int .i64 x] w fun e w' => e = .returned (.bool (fitsB x)) ∧ w' = w := by
 by_cases h1 : -1073741823 ≤ x
 ·by_cases h2 : x ≤ 1073741823
  ·rw [fits_yes h1 h2]
   go_enter Tryz.func44, Tryz.ntmps44
   go_wp2
   go_ret
   exact ⟨rfl, rfl⟩
  ·rw [fits_no (by omega)]
   go_enter Tryz.func44, Tryz.ntmps44
   go_wp2
   go_ret
   exact ⟨rfl, rfl⟩
 ·rw [fits_no (by omega)]
  go_enter Tryz.func44, Tryz.ntmps44
  go_wp2
  go_ret
  exact ⟨rfl, rfl⟩
theorem specOrder_any (x : Int) (w : World) : Calls Tryz.prog 139 #[.int .i64 x] w fun e w' => e = .returned (.bool (orderB x)) ∧ w' = w := by
 by_cases h1 : 0 ≤ x
 ·by_cases h2 : x ≤ 3
  ·rw [show orderB x = true by simp [orderB, h1, h2]]
   go_enter Tryz.func139, Tryz.ntmps139
   go_wp2
   go_ret
   exact ⟨rfl, rfl⟩
  ·rw [order_no (by omega)]
   go_enter Tryz.func139, Tryz.ntmps139
   go_wp2
   go_ret
   exact ⟨rfl, rfl⟩
 ·rw [order_no (by omega)]
  go_enter Tryz.func139, Tryz.ntmps139
  go_wp2
  go_ret
  exact ⟨rfl, rfl⟩
theorem implOrder_any (x : Int) (w : World) : Calls Tryz.prog 94 #[.int .i64 x] w fun e w' => e = .returned (.bool (orderB x)) ∧ w' = w := by
 by_cases h1 : 0 ≤ x
 ·by_cases h2 : x ≤ 3
  ·rw [show orderB x = true by simp [orderB, h1, h2]]
   go_enter Tryz.func94, Tryz.ntmps94
   go_wp2
   go_ret
   exact ⟨rfl, rfl⟩
  ·rw [order_no (by omega)]
   go_enter Tryz.func94, Tryz.ntmps94
   go_wp2
   go_ret
   exact ⟨rfl, rfl⟩
 ·rw [order_no (by omega)]
  go_enter Tryz.func94, Tryz.ntmps94
  go_wp2
  go_ret
  exact ⟨rfl, rfl⟩
def okB (s p po m mo : Int) : Bool := fitsB s && fitsB p && fitsB m && orderB po && orderB mo
abbrev glueV (s p po m mo : Int) : Value := .agg #[.int .i64 s, .int .i64 p, .int .i64 po, .int .i64 m, .int .i64 mo]
theorem specGlueOk_ex (s p po m mo : Int) (w : World) : Calls Tryz.prog 122 #[glueV s p po m mo] w fun e w' => e = .returned (.bool (okB s p po m mo)) ∧ ∃ c : Array Value, w' = w.alloc (.cells c 34) := by
 unfold okB
 cases h1 : fitsB s <;> cases h2 : fitsB p <;> cases h3 : fitsB m <;> cases h4 : orderB po <;> cases h5 : orderB mo
 all_goals
  go_enter Tryz.func122, Tryz.ntmps122
  go_wp2_with (first
   | (go_at_call 89; refine (specFits_any _ _).mono ?_; rintro e w' ⟨rfl, rfl⟩)
   | (go_at_call 139; refine (specOrder_any _ _).mono ?_; rintro e w' ⟨rfl, rfl⟩))
  go_ret
  exact ⟨rfl, _, rfl⟩
theorem specGlueOk_any (s p po m mo : Int) (w : World) : Calls Tryz.prog 122 #[glueV s p po m mo] w fun e w' => e = .returned (.bool (okB s p po m mo)) ∧ Below w.heap.size w w' := by
 refine (specGlueOk_ex s p po m mo w).mono ?_
 rintro e w' ⟨rfl, c, rfl⟩
 exact ⟨rfl, (Below.refl _ _).alloc (Nat.le_refl _) _⟩
theorem implGlueOk_ex (s p po m mo : Int) (w : World) : Calls Tryz.prog 72 #[glueV s p po m mo] w fun e w' => e = .returned (.bool (okB s p po m mo)) ∧ ∃ c : Array Value, w' = w.alloc (.cells c 34) := by
 unfold okB
 cases h1 : fitsB s <;> cases h2 : fitsB p <;> cases h3 : fitsB m <;> cases h4 : orderB po <;> cases h5 : orderB mo
 all_goals
  go_enter Tryz.func72, Tryz.ntmps72
  go_wp2_with (first
   | (go_at_call 44; refine (implFits_any _ _).mono ?_; rintro e w' ⟨rfl, rfl⟩)
   | (go_at_call 94; refine (implOrder_any _ _).mono ?_; rintro e w' ⟨rfl, rfl⟩))
  go_ret
  exact ⟨rfl, _, rfl⟩
theorem implGlueOk_any (s p po m mo : Int) (w : World) : Calls Tryz.prog 72 #[glueV s p po m mo] w fun e w' => e = .returned (.bool (okB s p po m mo)) ∧ Below w.heap.size w w' := by
 refine (implGlueOk_ex s p po m mo w).mono ?_
 rintro e w' ⟨rfl, c, rfl⟩
 exact ⟨rfl, (Below.refl _ _).alloc (Nat.le_refl _) _⟩
theorem bcell {W w1 : World} (hb : Below W.heap.size W w1) : (∀ b o, b < W.heap.size → w1.cell? ⟨b, o, none⟩ = W.cell? ⟨b, o, none⟩) ∧ (∀ b o, b < W.heap.size → w1.frozen? ⟨b, o, none⟩ = W.frozen? ⟨b, o, none⟩) :=
 ⟨fun b o h => hb.cell (p := ⟨b, o, none⟩) h, fun b o h => hb.frozen (p := ⟨b, o, none⟩) h⟩
def Row (w : World) (v : Value) (zs : List Int) : Prop :=
 ∃ ao n cap, v = .slice ao n cap ∧ zs.length = n ∧ (0 < n → ∃ b off, ao = some ⟨b, off, none⟩ ∧ b < w.heap.size ∧ ∀ i, i < n → w.cell? ⟨b, off + i, none⟩ = some (.int .i64 (zs.getD i 0)))
theorem Row.below {w w' : World} {v : Value} {zs : List Int} (h : Row w v zs) (hb : Below w.heap.size w w') : Row w' v zs := by
 obtain ⟨ao, n, cap, rfl, hn, hc⟩ := h
 refine ⟨ao, n, cap, rfl, hn, fun hp => ?_⟩
 obtain ⟨b, off, rfl, hlt, hcell⟩ := hc hp
 exact ⟨b, off, rfl, Nat.lt_of_lt_of_le hlt hb.size, fun i hi => (hb.cell (p := ⟨b, off + i, none⟩) hlt).trans (hcell i hi)⟩
theorem Row.own {w : World} {base g n cap : Nat} {zs : List Int} (h : w.ownsRow base 2 1 (.slice (some ⟨g, 0, none⟩) n cap) n (zs.map (Value.int .i64))) (hn : zs.length = n) (hg : g < w.heap.size) :
 Row w (.slice (some ⟨g, 0, none⟩) n cap) zs := by
 refine ⟨_, n, cap, rfl, hn, fun hp => ⟨g, 0, rfl, hg, fun i hi => ?_⟩⟩
 have := World.ownsRow.cellAt h i (by omega)
 simp only [Nat.zero_add]
 rw [this]
 simp [List.getElem?_map, List.getD, List.getElem?_eq_getElem (show i < zs.length by omega)]
theorem retB {a b : Bool} (h : a = b) : Ending.returned (Value.bool a) = Ending.returned (Value.bool b) := by rw [h]
theorem ownsRow_block {w : World} {base e size g n cap : Nat} {xs : List Value} (h : w.ownsRow base e size (.slice (some ⟨g, 0, none⟩) n cap) n xs) : g < w.heap.size := by
 rcases h.2 with ⟨h', _⟩ | ⟨g', cap', cur, h', _, hg, _⟩
 ·simp at h'
 ·simp only [Value.slice.injEq, Option.some.injEq, Addr.mk.injEq, and_true, true_and] at h'
  obtain ⟨rfl, rfl⟩ := h'
  by_cases hb : g < w.heap.size
  ·exact hb
  ·simp [Array.getElem?_eq_none (show w.heap.size ≤ g by omega)] at hg
theorem getD_ext {xs ys : List Int} (hl : xs.length = ys.length) (h : ∀ j, j < xs.length → xs.getD j 0 = ys.getD j 0) : xs = ys := by
 refine List.ext_getElem hl fun i h1 h2 => ?_
 have := h i h1
 simpa [List.getD, List.getElem?_eq_getElem h1, List.getElem?_eq_getElem h2] using this
end Go.Proofs.YtbbehmcekbnkiaaGreat.Shr
