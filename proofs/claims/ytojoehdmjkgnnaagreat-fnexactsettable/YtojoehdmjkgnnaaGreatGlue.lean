import Derived.Test.YtojoehdmjkgnnaaGreatAsr
import Derived.RangeFuncNested
import Derived.RangeFuncBound
import Derived.RangeFuncCalls
import Derived.RangeFuncLeaves
import Derived.OrdersHeld
import Derived.Deep.RegionHeld
import Derived.OrdersIn
import Derived.Test.YtojoehdmjkgnnaaGreatNod
import Derived.Test.YtojoehdmjkgnnaaGreatProg
import Derived.WalkKit
import Derived.WalkSpells
import Derived.RowKit3
import Derived.Below
import Derived.Outline
namespace Go.Proofs.YtojoehdmjkgnnaaGreat
open Go.RowKit
set_option linter.unusedVariables false
set_option linter.unusedSimpArgs false
theorem ask_letter (x : Nd) : ∃ c0 c1 c2 c3 c4 : Int, (∀ W : World, (Instr.typeAssert (thV x) 94 146 true).run Tryz.prog W = .ok (.tuple #[.agg #[.int .i64 c0, .int .i64 c1, .int .i64 c2, .int .i64 c3, .int .i64 c4], .bool (x.k == 1)]) W) ∧ (x.k = 1 → c2 = x.wd ∧ c3 = x.ht ∧ c4 = x.dp) := by
 obtain ⟨k, wd, ht, dp, sh, fo, ch, nn, gs, gp, gpo, gm, gmo, tx, kids⟩ := x
 by_cases hk : 1 ≤ k ∧ k ≤ 11
 ·rcases kinds hk.1 hk.2 with rfl | rfl | rfl | rfl | rfl | rfl | rfl | rfl | rfl | rfl | rfl
  ·exact ⟨fo, ch, wd, ht, dp, fun _ => by kernel_rfl, fun _ => ⟨rfl, rfl, rfl⟩⟩
  ·exact ⟨0, 0, 0, 0, 0, fun _ => by kernel_rfl, fun h => absurd h (by simp)⟩
  ·exact ⟨0, 0, 0, 0, 0, fun _ => by kernel_rfl, fun h => absurd h (by simp)⟩
  ·exact ⟨0, 0, 0, 0, 0, fun _ => by kernel_rfl, fun h => absurd h (by simp)⟩
  ·exact ⟨0, 0, 0, 0, 0, fun _ => by kernel_rfl, fun h => absurd h (by simp)⟩
  ·exact ⟨0, 0, 0, 0, 0, fun _ => by kernel_rfl, fun h => absurd h (by simp)⟩
  ·exact ⟨0, 0, 0, 0, 0, fun _ => by kernel_rfl, fun h => absurd h (by simp)⟩
  ·exact ⟨0, 0, 0, 0, 0, fun _ => by kernel_rfl, fun h => absurd h (by simp)⟩
  ·exact ⟨0, 0, 0, 0, 0, fun _ => by kernel_rfl, fun h => absurd h (by simp)⟩
  ·exact ⟨0, 0, 0, 0, 0, fun _ => by kernel_rfl, fun h => absurd h (by simp)⟩
  ·exact ⟨0, 0, 0, 0, 0, fun _ => by kernel_rfl, fun h => absurd h (by simp)⟩
 ·exact ⟨0, 0, 0, 0, 0, fun _ => by rw [thV_0 _ hk, show (k == 1) = false by simp; omega]; kernel_rfl, fun h => absurd (show k = 1 from h) (by omega)⟩
theorem ask_rule (x : Nd) : ∃ c0 c1 c2 : Int, (∀ W : World, (Instr.typeAssert (thV x) 94 149 true).run Tryz.prog W = .ok (.tuple #[.agg #[.int .i64 c0, .int .i64 c1, .int .i64 c2], .bool (x.k == 5)]) W) ∧ (x.k = 5 → c0 = x.wd ∧ c1 = x.ht ∧ c2 = x.dp) := by
 obtain ⟨k, wd, ht, dp, sh, fo, ch, nn, gs, gp, gpo, gm, gmo, tx, kids⟩ := x
 by_cases hk : 1 ≤ k ∧ k ≤ 11
 ·rcases kinds hk.1 hk.2 with rfl | rfl | rfl | rfl | rfl | rfl | rfl | rfl | rfl | rfl | rfl
  ·exact ⟨0, 0, 0, fun _ => by kernel_rfl, fun h => absurd h (by simp)⟩
  ·exact ⟨0, 0, 0, fun _ => by kernel_rfl, fun h => absurd h (by simp)⟩
  ·exact ⟨0, 0, 0, fun _ => by kernel_rfl, fun h => absurd h (by simp)⟩
  ·exact ⟨0, 0, 0, fun _ => by kernel_rfl, fun h => absurd h (by simp)⟩
  ·exact ⟨wd, ht, dp, fun _ => by kernel_rfl, fun _ => ⟨rfl, rfl, rfl⟩⟩
  ·exact ⟨0, 0, 0, fun _ => by kernel_rfl, fun h => absurd h (by simp)⟩
  ·exact ⟨0, 0, 0, fun _ => by kernel_rfl, fun h => absurd h (by simp)⟩
  ·exact ⟨0, 0, 0, fun _ => by kernel_rfl, fun h => absurd h (by simp)⟩
  ·exact ⟨0, 0, 0, fun _ => by kernel_rfl, fun h => absurd h (by simp)⟩
  ·exact ⟨0, 0, 0, fun _ => by kernel_rfl, fun h => absurd h (by simp)⟩
  ·exact ⟨0, 0, 0, fun _ => by kernel_rfl, fun h => absurd h (by simp)⟩
 ·exact ⟨0, 0, 0, fun _ => by rw [thV_0 _ hk, show (k == 5) = false by simp; omega]; kernel_rfl, fun h => absurd (show k = 5 from h) (by omega)⟩
theorem ask_box (x : Nd) : ∃ c0 c1 c2 c3 c4 c5 : Int, (∀ W : World, (Instr.typeAssert (thV x) 94 87 true).run Tryz.prog W = .ok (.tuple #[.agg #[.int .i64 c0, .int .i64 c1, .int .i64 c2, .int .i64 c3, .int .i64 c4, .int .i64 c5], .bool (x.k == 6 || x.k == 7)]) W) ∧ (x.k = 6 ∨ x.k = 7 → c1 = x.wd ∧ c2 = x.ht ∧ c3 = x.dp ∧ c4 = x.sh) := by
 obtain ⟨k, wd, ht, dp, sh, fo, ch, nn, gs, gp, gpo, gm, gmo, tx, kids⟩ := x
 by_cases hk : 1 ≤ k ∧ k ≤ 11
 ·rcases kinds hk.1 hk.2 with rfl | rfl | rfl | rfl | rfl | rfl | rfl | rfl | rfl | rfl | rfl
  ·exact ⟨0, 0, 0, 0, 0, 0, fun _ => by kernel_rfl, fun h => absurd h (by simp)⟩
  ·exact ⟨0, 0, 0, 0, 0, 0, fun _ => by kernel_rfl, fun h => absurd h (by simp)⟩
  ·exact ⟨0, 0, 0, 0, 0, 0, fun _ => by kernel_rfl, fun h => absurd h (by simp)⟩
  ·exact ⟨0, 0, 0, 0, 0, 0, fun _ => by kernel_rfl, fun h => absurd h (by simp)⟩
  ·exact ⟨0, 0, 0, 0, 0, 0, fun _ => by kernel_rfl, fun h => absurd h (by simp)⟩
  ·exact ⟨6, wd, ht, dp, sh, kids, fun _ => by kernel_rfl, fun _ => ⟨rfl, rfl, rfl, rfl⟩⟩
  ·exact ⟨7, wd, ht, dp, sh, kids, fun _ => by kernel_rfl, fun _ => ⟨rfl, rfl, rfl, rfl⟩⟩
  ·exact ⟨0, 0, 0, 0, 0, 0, fun _ => by kernel_rfl, fun h => absurd h (by simp)⟩
  ·exact ⟨0, 0, 0, 0, 0, 0, fun _ => by kernel_rfl, fun h => absurd h (by simp)⟩
  ·exact ⟨0, 0, 0, 0, 0, 0, fun _ => by kernel_rfl, fun h => absurd h (by simp)⟩
  ·exact ⟨0, 0, 0, 0, 0, 0, fun _ => by kernel_rfl, fun h => absurd h (by simp)⟩
 ·exact ⟨0, 0, 0, 0, 0, 0, fun _ => by rw [thV_0 _ hk, show (k == 6 || k == 7) = false by simp; omega]; kernel_rfl, fun h => absurd (show k = 6 ∨ k = 7 from h) (by omega)⟩
theorem operIn_round {P : Program} {o : Oper} {a : Act} {w : World} {K : Act → World → Prop} {Q : Exit → Act → World → Prop} {l n : Nat} (hnd : ∀ c, o.op ≠ .defer c) (h : Oper.wp P o a w K Q) : Oper.wpIn (Fence.wide.inRound l) n P o a w K Q := by
 unfold Oper.wp at h
 unfold Oper.wpIn
 refine ⟨fun f _ => trivial, ?_⟩
 rw [Fence.inRound_round, Oper.semAt_some l _ _ hnd]
 generalize (execOp a.eval o).run P w = r at *
 cases r with
 | ok x w' =>
  cases x
  case value v => exact h
  case skip => exact h
  case defer d => exact h
  case enter f args => exact ⟨(fun e => by cases e), CallsIn.inRound l (callsIn_wide.2 h)⟩
  case row row args =>
   refine ⟨(fun e => by cases e), fun c cs hr => ?_⟩
   obtain ⟨v, w2, r, s⟩ := h c cs
   exact ⟨v, w2, r, stepsIn_wide.2 s⟩
  all_goals exact h.elim
 | halt x w' =>
  cases x <;> first | exact h | exact h.elim
theorem anyIn_round {P : Program} {md : Region.Mode} {ops : Array Oper} {Q : Exit → Act → World → Prop} {l n : Nat} (hnd : ∀ (i : Nat) (o : Oper), ops[i]? = some o → ∀ c, o.op ≠ .defer c) (hQ : ¬ LetsOut Q) :
 ∀ (fuel : Nat) (listed : Array Bool) (a : Act) (w : World), wpAny P md ops Q fuel listed a w → wpAnyIn (Fence.wide.inRound l) n P md ops Q fuel listed a w
 | 0, _, _, _, h => h
 | fuel + 1, listed, a, w, h => by
  refine ⟨h.1, fun i hi => ?_⟩
  have h2 := h.2 i hi
  unfold wpOp at h2
  unfold wpOpIn
  cases ho : ops[i]? with
  | none =>
   rw [ho] at h2
   exact anyIn_round hnd hQ fuel _ _ _ h2
  | some o =>
   rw [ho] at h2
   simp only at h2 ⊢
   split
   ·rename_i hw
    rw [if_pos hw] at h2
    rcases h2 with h2 | h2
    ·exact Oper.wpIn_mono (fun a w h => anyIn_round hnd hQ fuel _ a w h) (operIn_round (hnd i o ho) h2)
    ·exact absurd h2.2 hQ
   ·rename_i hw
    rw [if_neg hw] at h2
    exact ⟨fun f _ => trivial, anyIn_round hnd hQ fuel _ _ _ h2⟩
theorem region_heldR {P : Program} {ops : Array Oper} {Q : Exit → Act → World → Prop} {S : World → Prop} {l n id : Nat} {a : Act} {w : World} (hm : P.follows .mixedOrders = true) (hnd : ∀ (i : Nat) (o : Oper), ops[i]? = some o → ∀ c, o.op ≠ .defer c) (hQ : ¬ LetsOut Q)
 (h : wpAnyH P .any ops Q S ops.size (Array.replicate ops.size false) a w.drew) : (Code.region id ops true).wpIn (Fence.wide.inRound l) n P Q a w :=
 wpIn_region_any hm (anyIn_round hnd hQ _ _ _ _ (wpAny_of_held _ _ _ _ h))
end Go.Proofs.YtojoehdmjkgnnaaGreat
namespace Go.Proofs.YtojoehdmjkgnnaaGreat.Shr
open Go.RowKit
set_option linter.unusedVariables false
set_option linter.unusedSimpArgs false
def fitsB (x : Int) : Bool := decide (-1073741823 ≤ x ∧ x ≤ 1073741823)
def orderB (x : Int) : Bool := decide (0 ≤ x ∧ x ≤ 3)
theorem fits_yes {x : Int} (h1 : -1073741823 ≤ x) (h2 : x ≤ 1073741823) : fitsB x = true := by simp [fitsB, h1, h2]
theorem fits_no {x : Int} (h : ¬ (-1073741823 ≤ x ∧ x ≤ 1073741823)) : fitsB x = false := by simp [fitsB]; omega
theorem order_no {x : Int} (h : ¬ (0 ≤ x ∧ x ≤ 3)) : orderB x = false := by simp [orderB]; omega
theorem specFits_any (x : Int) (w : World) : Calls Tryz.prog 103 #[.int .i64 x] w fun e w' => e = .returned (.bool (fitsB x)) ∧ w' = w := by
 by_cases h1 : -1073741823 ≤ x
 ·by_cases h2 : x ≤ 1073741823
  ·rw [fits_yes h1 h2]
   go_enter Tryz.func103, Tryz.ntmps103
   go_wp2
   go_ret
   exact ⟨rfl, rfl⟩
  ·rw [fits_no (by omega)]
   go_enter Tryz.func103, Tryz.ntmps103
   go_wp2
   go_ret
   exact ⟨rfl, rfl⟩
 ·rw [fits_no (by omega)]
  go_enter Tryz.func103, Tryz.ntmps103
  go_wp2
  go_ret
  exact ⟨rfl, rfl⟩
theorem implFits_any (x : Int) (w : World) : Calls Tryz.prog 58 #[.int .i64 x] w fun e w' => e = .returned (.bool (fitsB x)) ∧ w' = w := by
 by_cases h1 : -1073741823 ≤ x
 ·by_cases h2 : x ≤ 1073741823
  ·rw [fits_yes h1 h2]
   go_enter Tryz.func58, Tryz.ntmps58
   go_wp2
   go_ret
   exact ⟨rfl, rfl⟩
  ·rw [fits_no (by omega)]
   go_enter Tryz.func58, Tryz.ntmps58
   go_wp2
   go_ret
   exact ⟨rfl, rfl⟩
 ·rw [fits_no (by omega)]
  go_enter Tryz.func58, Tryz.ntmps58
  go_wp2
  go_ret
  exact ⟨rfl, rfl⟩
theorem specOrder_any (x : Int) (w : World) : Calls Tryz.prog 126 #[.int .i64 x] w fun e w' => e = .returned (.bool (orderB x)) ∧ w' = w := by
 by_cases h1 : 0 ≤ x
 ·by_cases h2 : x ≤ 3
  ·rw [show orderB x = true by simp [orderB, h1, h2]]
   go_enter Tryz.func126, Tryz.ntmps126
   go_wp2
   go_ret
   exact ⟨rfl, rfl⟩
  ·rw [order_no (by omega)]
   go_enter Tryz.func126, Tryz.ntmps126
   go_wp2
   go_ret
   exact ⟨rfl, rfl⟩
 ·rw [order_no (by omega)]
  go_enter Tryz.func126, Tryz.ntmps126
  go_wp2
  go_ret
  exact ⟨rfl, rfl⟩
theorem implOrder_any (x : Int) (w : World) : Calls Tryz.prog 118 #[.int .i64 x] w fun e w' => e = .returned (.bool (orderB x)) ∧ w' = w := by
 by_cases h1 : 0 ≤ x
 ·by_cases h2 : x ≤ 3
  ·rw [show orderB x = true by simp [orderB, h1, h2]]
   go_enter Tryz.func118, Tryz.ntmps118
   go_wp2
   go_ret
   exact ⟨rfl, rfl⟩
  ·rw [order_no (by omega)]
   go_enter Tryz.func118, Tryz.ntmps118
   go_wp2
   go_ret
   exact ⟨rfl, rfl⟩
 ·rw [order_no (by omega)]
  go_enter Tryz.func118, Tryz.ntmps118
  go_wp2
  go_ret
  exact ⟨rfl, rfl⟩
def okB (s p po m mo : Int) : Bool := fitsB s && fitsB p && fitsB m && orderB po && orderB mo
abbrev glueV (s p po m mo : Int) : Value := .agg #[.int .i64 s, .int .i64 p, .int .i64 po, .int .i64 m, .int .i64 mo]
theorem specGlueOk_ex (s p po m mo : Int) (w : World) : Calls Tryz.prog 100 #[glueV s p po m mo] w fun e w' => e = .returned (.bool (okB s p po m mo)) ∧ ∃ c : Array Value, w' = w.alloc (.cells c 34) := by
 unfold okB
 cases h1 : fitsB s <;> cases h2 : fitsB p <;> cases h3 : fitsB m <;> cases h4 : orderB po <;> cases h5 : orderB mo
 all_goals
  go_enter Tryz.func100, Tryz.ntmps100
  go_wp2_with (first
   | (go_at_call 103; refine (specFits_any _ _).mono ?_; rintro e w' ⟨rfl, rfl⟩)
   | (go_at_call 126; refine (specOrder_any _ _).mono ?_; rintro e w' ⟨rfl, rfl⟩))
  go_ret
  exact ⟨rfl, _, rfl⟩
theorem specGlueOk_any (s p po m mo : Int) (w : World) : Calls Tryz.prog 100 #[glueV s p po m mo] w fun e w' => e = .returned (.bool (okB s p po m mo)) ∧ Below w.heap.size w w' := by
 refine (specGlueOk_ex s p po m mo w).mono ?_
 rintro e w' ⟨rfl, c, rfl⟩
 exact ⟨rfl, (Below.refl _ _).alloc (Nat.le_refl _) _⟩
theorem implGlueOk_ex (s p po m mo : Int) (w : World) : Calls Tryz.prog 89 #[glueV s p po m mo] w fun e w' => e = .returned (.bool (okB s p po m mo)) ∧ ∃ c : Array Value, w' = w.alloc (.cells c 34) := by
 unfold okB
 cases h1 : fitsB s <;> cases h2 : fitsB p <;> cases h3 : fitsB m <;> cases h4 : orderB po <;> cases h5 : orderB mo
 all_goals
  go_enter Tryz.func89, Tryz.ntmps89
  go_wp2_with (first
   | (go_at_call 58; refine (implFits_any _ _).mono ?_; rintro e w' ⟨rfl, rfl⟩)
   | (go_at_call 118; refine (implOrder_any _ _).mono ?_; rintro e w' ⟨rfl, rfl⟩))
  go_ret
  exact ⟨rfl, _, rfl⟩
theorem implGlueOk_any (s p po m mo : Int) (w : World) : Calls Tryz.prog 89 #[glueV s p po m mo] w fun e w' => e = .returned (.bool (okB s p po m mo)) ∧ Below w.heap.size w w' := by
 refine (implGlueOk_ex s p po m mo w).mono ?_
 rintro e w' ⟨rfl, c, rfl⟩
 exact ⟨rfl, (Below.refl _ _).alloc (Nat.le_refl _) _⟩
set_option maxHeartbeats 1000000 in
theorem toGlue_ex (s p po m mo : Int) (w : World) : Calls Tryz.prog 62 #[glueV s p po m mo] w fun e w' => e = .returned (glueV s p po m mo) ∧ ∃ c1 c2 c3 : Array Value, w' = ((w.alloc (.cells c1 61)).alloc (.cells c2 34)).alloc (.cells c3 34) := by
 go_enter Tryz.func62, Tryz.ntmps62
 go_wp2
 exact bodyPost_ret (v := glueV s p po m mo) (by simp [results, Tryz.results62, go_sem]) rfl ⟨rfl, _, _, _, rfl⟩
theorem toGlue_any (s p po m mo : Int) (w : World) : Calls Tryz.prog 62 #[glueV s p po m mo] w fun e w' => e = .returned (glueV s p po m mo) ∧ Below w.heap.size w w' := by
 refine (toGlue_ex s p po m mo w).mono ?_
 rintro e w' ⟨rfl, c1, c2, c3, rfl⟩
 exact ⟨rfl, (((Below.refl _ _).alloc (Nat.le_refl _) _).alloc (by simp) _).alloc (by simp; omega) _⟩
theorem bcell {W w1 : World} (hb : Below W.heap.size W w1) : (∀ b o, b < W.heap.size → w1.cell? ⟨b, o, none⟩ = W.cell? ⟨b, o, none⟩) ∧ (∀ b o, b < W.heap.size → w1.frozen? ⟨b, o, none⟩ = W.frozen? ⟨b, o, none⟩) :=
 ⟨fun b o h => hb.cell (p := ⟨b, o, none⟩) h, fun b o h => hb.frozen (p := ⟨b, o, none⟩) h⟩
end Go.Proofs.YtojoehdmjkgnnaaGreat.Shr
