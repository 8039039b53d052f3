import Derived.RangeFuncNested
import Derived.RangeFuncBound
import Derived.RangeFuncCalls
import Derived.RangeFuncLeaves
import Derived.Shelf.Abstract
import Derived.Shelf.RegionOpen
import Derived.WalkKit
import Derived.OwnWalkIn
import Derived.TacticsInMore
import Derived.LoopNIn
import Derived.LoopIn
import Derived.Maps.AppendAt
import Derived.Test.YtlohbaoigfaneaaGreatItx
import Derived.Test.YtlohbaoigfaneaaGreatBrk
import Derived.Test.YtlohbaoigfaneaaGreatLok
import Derived.Test.YtlohbaoigfaneaaGreatMak
import Derived.Test.YtlohbaoigfaneaaGreatAdl
import Derived.Deep.RegionWith
import Derived.Deep.RegionHeld3
import Derived.OwnWalk
import Derived.Laws.AppendOwn
import Derived.Deep.QuietTactic
import Derived.BigQuiet
import Derived.WalkSmall
import Derived.LoopTactic
import Derived.Deep.Light
import Derived.Test.YtlohbaoigfaneaaGreatProg
import Derived.WalkSpells
import Derived.RowKit3
import Derived.Below
import Derived.Outline
namespace Go.Proofs.YtlohbaoigfaneaaGreat
open Go.RowKit Go.Shelf
set_option linter.unusedVariables false
set_option linter.unusedSimpArgs false
attribute [local go_sem] Oper.semAt_some
end Go.Proofs.YtlohbaoigfaneaaGreat
namespace Go.Proofs.YtlohbaoigfaneaaGreat
open Go.RowKit
set_option linter.unusedVariables false
set_option linter.unusedSimpArgs false
def fl (ys : List It) (k : Nat) : List Int := ((List.range k).filter (pbB ys)).map (fun a : Nat => (a : Int))
theorem Heads.mono {lo lo' : Nat} {w : World} {v : Value} {ys : List It} (h : Heads lo w v ys) (hl : lo' ≤ lo) : Heads lo' w v ys := by
 obtain ⟨ao, cap, rfl, hc⟩ := h.is
 refine ⟨ao, cap, rfl, fun hp => ?_⟩
 obtain ⟨b, off, rfl, hlo, hlt, hcell⟩ := hc hp
 refine ⟨b, off, rfl, by omega, hlt, fun i hi => ?_⟩
 obtain ⟨u, rest, h1, h2⟩ := hcell i hi
 exact ⟨u, rest, h1, SRow.mono ndStable h2 hl⟩
theorem wpList_append_at {P : Program} {w : World} {ops : Array Oper} {rest : List Oper} {o : Oper} {a : Act} {Q : Exit → Act → World → Prop} (hgd : o.guard = none) (s x : Operand) (t : TypeId)
 (ho : o.op = .call { callee := .builtin .append, args := #[s, x], argTypes := #[t, t] })
 (base : Nat) (e : TypeId) (i : TypeInfo) (z : Value) (size bytes : Nat) (ht : P.underlying t = some (.slice e)) (hi : P.info? e = some i) (hz : i.zero = some z)
 (hsize : i.size = size) (hby : i.bytes = bytes) (hzs : z.cells.size = size) (hsz : 0 < size)
 (v : Value) (n : Nat) (xs : List Value) (hs : a.eval s = v) (hown : w.ownsRow base e size v n xs)
 (ad : Addr) (m c : Nat) (news : List Value) (hx : a.eval x = .slice (some ad) m c) (hl : news.length = m * size) (hnews : ∀ j u, news[j]? = some u → w.cell? (ad.add j) = some u) (h1 : ∀ u ∈ news, u.oneCell' = true)
 (h63 : n + m ≤ maxLen) (hbytes : (n + m) * bytes ≤ 140737488355328) (hbase : base ≤ w.heap.size)
 (h : ∀ v' w', w'.ownsRow base e size v' (n + m) (xs ++ news) → w.grownBy w' v.ownBlock → (v'.ownBlock = v.ownBlock ∨ v'.ownBlock = some w.heap.size) → wpList P ops Q rest (a.put o.dst v') w') : wpList P ops Q (o :: rest) a w :=
 wpList_plain hgd fun _ hK => wp_append_at s x t ho base e i z size bytes ht hi hz hsize hby hzs hsz v n xs hs hown ad m c news hx hl hnews h1 h63 hbytes hbase fun v' w' h2 h3 _ h5 => hK _ _ (h v' w' h2 h3 h5)
theorem heads_of {w : World} {base : Nat} {u : Value} {vs : List Value} {xs : List Nd} (hob : listB xs = true) (ho : w.ownsRow base 31 1 u (itemsOf xs).length vs) (hL : Lsts base w vs (fun i => (itemsOf xs).getD i [])) : Heads base w u (its xs) ∧ (itemsOf xs).length = (its xs).length := by
 have hlen : (itemsOf xs).length = (its xs).length := by unfold itemsOf its; rw [if_pos hob, List.length_map, List.length_map]
 have hvl := own25_len ho
 obtain ⟨ao, cap, rfl, hg⟩ := own25_shape ho
 refine ⟨⟨ao, cap, by rw [hlen], fun hp => ?_⟩, hlen⟩
 obtain ⟨g, rfl, hgb, hlt⟩ := hg (by omega)
 refine ⟨g, 0, rfl, hgb, hlt, fun i hi => ?_⟩
 have hu : vs[i]? = some (vs[i]'(by omega)) := List.getElem?_eq_getElem (by omega)
 have h1 : w.cell? ⟨g, 0 + i, none⟩ = some (vs[i]'(by omega)) := by rw [Nat.zero_add]; exact (own25_cell ho hu).1
 have h2 := own_NRow (hL.own i _ hu) rfl
 obtain ⟨u, hue⟩ : ∃ u, u = vs[i]'(by omega) := ⟨_, rfl⟩
 rw [← hue] at h1 h2
 have hi2 : i < (starts xs (xs.length + 1) 0).length := by simpa [its] using hi
 have hst := starts_lt xs (xs.length + 1) 0 _ (List.getElem_mem hi2)
 have e1 : (itemsOf xs).getD i [] = itemAt xs ((starts xs (xs.length + 1) 0)[i]) := by
  unfold itemsOf
  rw [if_pos hob]
  simp [List.getD, List.getElem?_map, List.getElem?_eq_getElem hi2]
 have e2 : (its xs).getD i It.none = itAt xs ((starts xs (xs.length + 1) 0)[i]) := by
  unfold its
  simp [List.getD, List.getElem?_map, List.getElem?_eq_getElem hi2]
 obtain ⟨p, hp⟩ : ∃ p, p = (starts xs (xs.length + 1) 0)[i] := ⟨_, rfl⟩
 rw [← hp] at e1 e2 hst
 have e3 : itemAt xs p = xs.getD p Nd.none :: (itemAt xs p).tail := by
  unfold itemAt
  have hd : xs.drop p = xs[p] :: xs.drop (p + 1) := List.drop_eq_getElem_cons hst
  rw [hd, Nat.add_comm 1, List.take_succ_cons]
  simp [List.getD, List.getElem?_eq_getElem hst]
 refine ⟨u, (itemAt xs p).tail, h1, ?_⟩
 rw [e2]
 show NRow base w u (xs.getD p Nd.none :: (itemAt xs p).tail)
 rw [← e3, ← e1]
 exact h2
def Row (w : World) (v : Value) (zs : List Int) : Prop :=
 ∃ ao n cap, v = .slice ao n cap ∧ zs.length = n ∧ (0 < n → ∃ b off, ao = some ⟨b, off, none⟩ ∧ b < w.heap.size ∧ ∀ i, i < n → w.cell? ⟨b, off + i, none⟩ = some (.int .i64 (zs.getD i 0)))
theorem Row.below {w w' : World} {v : Value} {zs : List Int} (h : Row w v zs) (hb : Below w.heap.size w w') : Row w' v zs := by
 obtain ⟨ao, n, cap, rfl, hn, hc⟩ := h
 refine ⟨ao, n, cap, rfl, hn, fun hp => ?_⟩
 obtain ⟨b, off, rfl, hlt, hcell⟩ := hc hp
 exact ⟨b, off, rfl, Nat.lt_of_lt_of_le hlt hb.size, fun i hi => (hb.cell (p := ⟨b, off + i, none⟩) hlt).trans (hcell i hi)⟩
theorem Row.own {w : World} {base g n cap : Nat} {zs : List Int} (h : w.ownsRow base 2 1 (.slice (some ⟨g, 0, none⟩) n cap) n (zs.map (Value.int .i64))) (hn : zs.length = n) (hg : g < w.heap.size) :
 Row w (.slice (some ⟨g, 0, none⟩) n cap) zs := by
 refine ⟨_, n, cap, rfl, hn, fun hp => ⟨g, 0, rfl, hg, fun i hi => ?_⟩⟩
 have := World.ownsRow.cellAt h i (by omega)
 simp only [Nat.zero_add]
 rw [this]
 simp [List.getElem?_map, List.getD, List.getElem?_eq_getElem (show i < zs.length by omega)]
end Go.Proofs.YtlohbaoigfaneaaGreat
namespace Go.Proofs.YtlohbaoigfaneaaGreat.Shr
open Go.RowKit
set_option linter.unusedVariables false
set_option linter.unusedSimpArgs false
def fitsB (x : Int) : Bool := decide (-1073741823 ≤ x ∧ x ≤ 1073741823)
def orderB (x : Int) : Bool := decide (0 ≤ x ∧ x ≤ 3)
theorem fits_yes {x : Int} (h1 : -1073741823 ≤ x) (h2 : x ≤ 1073741823) : fitsB x = true := by simp [fitsB, h1, h2]
theorem fits_no {x : Int} (h : ¬ (-1073741823 ≤ x ∧ x ≤ 1073741823)) : fitsB x = false := by simp [fitsB]; omega
theorem order_no {x : Int} (h : ¬ (0 ≤ x ∧ x ≤ 3)) : orderB x = false := by simp [orderB]; omega
theorem specFits_any (x : Int) (w : World) : Calls Tryz.prog 116 #[.int .i64 x] w fun e w' => e = .returned (.bool (fitsB x)) ∧ w' = w := by
 by_cases h1 : -1073741823 ≤ x
 ·by_cases h2 : x ≤ 1073741823
  ·rw [fits_yes h1 h2]
   go_enter Tryz.func116, Tryz.ntmps116
   go_wp2
   go_ret
   exact ⟨rfl, rfl⟩
  ·rw [fits_no (by omega)]
   go_enter Tryz.func116, Tryz.ntmps116
   go_wp2
   go_ret
   exact ⟨rfl, rfl⟩
 ·rw [fits_no (by omega)]
  go_enter Tryz.func116, Tryz.ntmps116
  go_wp2
  go_ret
  exact ⟨rfl, rfl⟩
theorem implFits_any (x : Int) (w : World) : Calls Tryz.prog 125 #[.int .i64 x] w fun e w' => e = .returned (.bool (fitsB x)) ∧ w' = w := by
 by_cases h1 : -1073741823 ≤ x
 ·by_cases h2 : x ≤ 1073741823
  ·rw [fits_yes h1 h2]
   go_enter Tryz.func125, Tryz.ntmps125
   go_wp2
   go_ret
   exact ⟨rfl, rfl⟩
  ·rw [fits_no (by omega)]
   go_enter Tryz.func125, Tryz.ntmps125
   go_wp2
   go_ret
   exact ⟨rfl, rfl⟩
 ·rw [fits_no (by omega)]
  go_enter Tryz.func125, Tryz.ntmps125
  go_wp2
  go_ret
  exact ⟨rfl, rfl⟩
theorem specOrder_any (x : Int) (w : World) : Calls Tryz.prog 117 #[.int .i64 x] w fun e w' => e = .returned (.bool (orderB x)) ∧ w' = w := by
 by_cases h1 : 0 ≤ x
 ·by_cases h2 : x ≤ 3
  ·rw [show orderB x = true by simp [orderB, h1, h2]]
   go_enter Tryz.func117, Tryz.ntmps117
   go_wp2
   go_ret
   exact ⟨rfl, rfl⟩
  ·rw [order_no (by omega)]
   go_enter Tryz.func117, Tryz.ntmps117
   go_wp2
   go_ret
   exact ⟨rfl, rfl⟩
 ·rw [order_no (by omega)]
  go_enter Tryz.func117, Tryz.ntmps117
  go_wp2
  go_ret
  exact ⟨rfl, rfl⟩
theorem implOrder_any (x : Int) (w : World) : Calls Tryz.prog 126 #[.int .i64 x] w fun e w' => e = .returned (.bool (orderB x)) ∧ w' = w := by
 by_cases h1 : 0 ≤ x
 ·by_cases h2 : x ≤ 3
  ·rw [show orderB x = true by simp [orderB, h1, h2]]
   go_enter Tryz.func126, Tryz.ntmps126
   go_wp2
   go_ret
   exact ⟨rfl, rfl⟩
  ·rw [order_no (by omega)]
   go_enter Tryz.func126, Tryz.ntmps126
   go_wp2
   go_ret
   exact ⟨rfl, rfl⟩
 ·rw [order_no (by omega)]
  go_enter Tryz.func126, Tryz.ntmps126
  go_wp2
  go_ret
  exact ⟨rfl, rfl⟩
def okB (s p po m mo : Int) : Bool := fitsB s && fitsB p && fitsB m && orderB po && orderB mo
abbrev glueV (s p po m mo : Int) : Value := .agg #[.int .i64 s, .int .i64 p, .int .i64 po, .int .i64 m, .int .i64 mo]
theorem specGlueOk_ex (s p po m mo : Int) (w : World) : Calls Tryz.prog 96 #[glueV s p po m mo] w fun e w' => e = .returned (.bool (okB s p po m mo)) ∧ ∃ c : Array Value, w' = w.alloc (.cells c 33) := by
 unfold okB
 cases h1 : fitsB s <;> cases h2 : fitsB p <;> cases h3 : fitsB m <;> cases h4 : orderB po <;> cases h5 : orderB mo
 all_goals
  go_enter Tryz.func96, Tryz.ntmps96
  go_wp2_with (first
   | (go_at_call 116; refine (specFits_any _ _).mono ?_; rintro e w' ⟨rfl, rfl⟩)
   | (go_at_call 117; refine (specOrder_any _ _).mono ?_; rintro e w' ⟨rfl, rfl⟩))
  go_ret
  exact ⟨rfl, _, rfl⟩
theorem specGlueOk_any (s p po m mo : Int) (w : World) : Calls Tryz.prog 96 #[glueV s p po m mo] w fun e w' => e = .returned (.bool (okB s p po m mo)) ∧ Below w.heap.size w w' := by
 refine (specGlueOk_ex s p po m mo w).mono ?_
 rintro e w' ⟨rfl, c, rfl⟩
 exact ⟨rfl, (Below.refl _ _).alloc (Nat.le_refl _) _⟩
theorem implGlueOk_ex (s p po m mo : Int) (w : World) : Calls Tryz.prog 106 #[glueV s p po m mo] w fun e w' => e = .returned (.bool (okB s p po m mo)) ∧ ∃ c : Array Value, w' = w.alloc (.cells c 33) := by
 unfold okB
 cases h1 : fitsB s <;> cases h2 : fitsB p <;> cases h3 : fitsB m <;> cases h4 : orderB po <;> cases h5 : orderB mo
 all_goals
  go_enter Tryz.func106, Tryz.ntmps106
  go_wp2_with (first
   | (go_at_call 125; refine (implFits_any _ _).mono ?_; rintro e w' ⟨rfl, rfl⟩)
   | (go_at_call 126; refine (implOrder_any _ _).mono ?_; rintro e w' ⟨rfl, rfl⟩))
  go_ret
  exact ⟨rfl, _, rfl⟩
theorem implGlueOk_any (s p po m mo : Int) (w : World) : Calls Tryz.prog 106 #[glueV s p po m mo] w fun e w' => e = .returned (.bool (okB s p po m mo)) ∧ Below w.heap.size w w' := by
 refine (implGlueOk_ex s p po m mo w).mono ?_
 rintro e w' ⟨rfl, c, rfl⟩
 exact ⟨rfl, (Below.refl _ _).alloc (Nat.le_refl _) _⟩
theorem bcell {W w1 : World} (hb : Below W.heap.size W w1) : (∀ b o, b < W.heap.size → w1.cell? ⟨b, o, none⟩ = W.cell? ⟨b, o, none⟩) ∧ (∀ b o, b < W.heap.size → w1.frozen? ⟨b, o, none⟩ = W.frozen? ⟨b, o, none⟩) :=
 ⟨fun b o h => hb.cell (p := ⟨b, o, none⟩) h, fun b o h => hb.frozen (p := ⟨b, o, none⟩) h⟩
end Go.Proofs.YtlohbaoigfaneaaGreat.Shr
