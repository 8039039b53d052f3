/-
  What stands on a page: how long it is, and what of items stands there.
-/
import Derived.Test.YtjagagbelpihbaaEds
import Derived.Test.YtjagagbelpihbaaItb
import Derived.Test.YtjagagbelpihbaaPbr
namespace Go.Proofs.Ytjagagbelpihbaa
open Go.RowKit
set_option linter.unusedVariables false
set_option linter.unusedSimpArgs false

def lenV : Value → Nat
  | .slice _ n _ => n
  | _ => 0
def begF (ys : List It) : Nat → Nat → Nat
  | 0, a => a
  | f + 1, a => if discB (ys.getD a It.none).1 = true then begF ys f (a + 1) else a
/-- Where what stands on a page begins. -/
def begI (ys : List It) (a b : Nat) : Nat := begF ys (b - a) a
theorem begI_end (ys : List It) (a : Nat) : begI ys a a = a := by simp [begI, begF]
theorem begI_step (ys : List It) (a b : Nat) (h : a < b) : begI ys a b = if discB (ys.getD a It.none).1 = true then begI ys (a + 1) b else a := by
  unfold begI
  rw [show b - a = (b - (a + 1)) + 1 by omega, begF]
theorem ownG_cap {w : World} {base e s n cap : Nat} {ao : Option Addr} {xs : List Value} (h : w.ownsRow base e s (.slice ao n cap) n xs) : n ≤ cap ∧ cap ≤ maxLen := by
  obtain ⟨_, ⟨e1, rfl⟩ | ⟨g, c, cur, e1, _, _, h1, h2, _⟩⟩ := h
  · simp only [Value.slice.injEq] at e1
    omega
  · simp only [Value.slice.injEq] at e1
    omega

set_option maxRecDepth 20000 in
set_option maxHeartbeats 8000000 in
theorem between_any {w : World} {C N uc base : Nat} {ua : Option Addr} {ys : List It} (a b : Nat) (hC : w.cell? ⟨C, 9, none⟩ = some (.slice ua N uc)) (hr : w.ownsRow base 141 3 (.slice ua N uc) N (flatI ys)) (hl : ys.length = N) (hN : N ≤ 20001) (hab : a ≤ b) (hb : b ≤ N) (hN0 : 0 < N) :
    Calls Try.prog 72 #[.pointer (some ⟨C, 0, none⟩), .int .i64 (a : Int), .int .i64 (b : Int)] w fun e w' => (∃ g s ao c2, ua = some ⟨g, 0, none⟩ ∧ s = begI ys a b ∧ a ≤ s ∧ s ≤ b ∧ e = .returned (.slice ao (b - s) c2) ∧ (s < b → ao = some ⟨g, s * 3, none⟩)) ∧ Below w.heap.size w w' := by
  have hCl : C < w.heap.size := World.block_lt_of_cell? w _ hC
  have hcap := ownG_cap hr
  obtain ⟨g, rfl, _, hgl, hit⟩ := its_row hr hl hN0
  have HIT := hideP hit
  obtain ⟨h1, h2⟩ := hcap
  have hmx : maxLen = 9223372036854775807 := rfl
  have hai : (a : Int) ≤ (b : Int) := by omega
  have hbi : (b : Int) ≤ (uc : Int) := by omega
  clear hr hit
  go_enter Try.func72, Try.ntmps72
  go_wp2
  · have hba : b = a := by omega
    subst hba
    go_loopw [7] (fun s7 wr => (∃ ao c2, s7 = .slice ao (b - b) c2) ∧ wr = w) (fun s7 _ => 0)
    case atStart => exact ⟨⟨_, _, rfl⟩, rfl⟩
    case round =>
      obtain ⟨⟨ao, c2, rfl⟩, rfl⟩ := hrel
      rw [Nat.sub_self]
      go_wp2
      go_ret
      exact ⟨⟨g, b, ao, c2, rfl, (begI_end _ _).symm, Nat.le_refl _, Nat.le_refl _, by rw [Nat.sub_self]; rfl, fun h => absurd h (by omega)⟩, Below.refl _ _⟩
  · go_loopw [7] (fun s7 wr => ∃ (s : Nat) (ao : Option Addr) (c2 : Nat), s7 = .slice ao (b - s) c2 ∧ a ≤ s ∧ s ≤ b ∧ begI ys s b = begI ys a b ∧ (s < b → ao = some ⟨g, s * 3, none⟩) ∧ b - s ≤ c2 ∧ c2 ≤ 9223372036854775807 ∧ Below w.heap.size w wr) (fun s7 _ => lenV s7)
    case atStart => exact ⟨a, _, _, rfl, Nat.le_refl _, hab, rfl, fun h => (by first | rfl | omega), by omega, by omega, Below.refl _ _⟩
    case round =>
      obtain ⟨s, ao, c2, rfl, hs1, hs2, hbg, hao, hc1, hc2, hB⟩ := hrel
      by_cases hsb : s < b
      · by_cases hdead : ¬ s < N
        · omega
        obtain rfl := hao hsb
        have hsl : s < ys.length := by omega
        have hitr : ItR wr g ys := HIT.out.block (hB.block g hgl)
        have hglr : g < wr.heap.size := Nat.lt_of_lt_of_le hgl hB.size
        have k0 := hitr.c0 s hsl
        have k1 := hitr.c1 s hsl
        have k2 := hitr.c2 s hsl
        have hstep := begI_step ys s b hsb
        obtain ⟨y, hy⟩ : ∃ y, y = ys.getD s It.none := ⟨_, rfl⟩
        rw [← hy] at k0 k1 k2 hstep
        obtain ⟨y, ya, ye⟩ := y
        simp only at k0 k1 k2 hstep
        have DC : Hid (∀ W, Calls Try.prog 83 #[.agg #[thV y, .int .i64 ya, .int .i64 ye]] W fun e w' => e = .returned (.bool (discB y)) ∧ Below W.heap.size W w') := hideP (fun W => disc_any y ya ye W)
        obtain ⟨vy, hvy⟩ : ∃ v, v = thV y := ⟨_, rfl⟩
        obtain ⟨dy, hdy⟩ : ∃ v, v = discB y := ⟨_, rfl⟩
        rw [← hvy] at k0 DC
        rw [← hdy] at DC hstep
        have hone : vy.oneCell' = true := by
          rw [hvy]
          rcases thV_shape y with h | ⟨X, q, h⟩ <;> rw [h] <;> rfl
        obtain ⟨m, hm⟩ : ∃ m, m = b - s := ⟨_, rfl⟩
        have hm0 : (0 : Int) < (m : Int) := by omega
        have HM := hideP hm
        have HST := hideP hstep
        have HBG := hideP hbg
        have HB := hideP hB
        rw [← hm]
        have hmc : m ≤ c2 := by omega
        clear hvy hdy hy hitr hstep hbg hB hm
        go_wp2_with fail
        refine (DC.out _).mono ?_
        rintro e w2 ⟨rfl, hb2⟩
        have B2 : Hid (Below w.heap.size w w2) := hideP (below_more HB.out hb2 HB.out.size)
        clear hb2
        cases dy with
        | false =>
          go_wp2
          go_ret
          refine ⟨⟨g, s, some ⟨g, s * 3, none⟩, c2, rfl, ?_, hs1, hs2, by rw [← HM.out]; rfl, fun _ => rfl⟩, B2.out⟩
          rw [← HBG.out, HST.out]
          simp
        | true =>
          have HBE : Hid (begI ys (s + 1) b = begI ys a b) := hideP (by rw [← HBG.out, HST.out]; simp)
          go_wp2
          all_goals
            go_roundw
            case rel =>
              refine ⟨s + 1, _, _, by rw [show b - (s + 1) = m - 1 by have := HM.out; omega], by omega, by omega, HBE.out, fun h => ?_, ?_, ?_, B2.out⟩
              · have hmm := HM.out
                rw [if_neg (by omega), show (s + 1) * 3 = s * 3 + 3 by omega]
              · have := HM.out; omega
              · omega
            case measure => simp [lenV]; omega
      · have hse : s = b := by omega
        subst hse
        have HBG := hideP hbg
        have HB := hideP hB
        rw [Nat.sub_self]
        clear hbg hB hao
        go_wp2
        go_ret
        refine ⟨⟨g, s, ao, c2, rfl, ?_, hs1, hs2, by rw [Nat.sub_self]; rfl, fun h => absurd h (by omega)⟩, HB.out⟩
        rw [← HBG.out, begI_end]
end Go.Proofs.Ytjagagbelpihbaa

namespace Go.Proofs.Ytjagagbelpihbaa
open Go.RowKit
set_option linter.unusedVariables false
set_option linter.unusedSimpArgs false

set_option maxRecDepth 20000 in
set_option maxHeartbeats 4000000 in
theorem between_none {w : World} {C uc : Nat} {ua : Option Addr} (hC : w.cell? ⟨C, 9, none⟩ = some (.slice ua 0 uc)) (hua : ua = none → uc = 0) (huo : ∀ p, ua = some p → ∃ g, p = ⟨g, 0, none⟩) :
    Calls Try.prog 72 #[.pointer (some ⟨C, 0, none⟩), .int .i64 0, .int .i64 0] w fun e w' => (∃ ao c2, e = .returned (.slice ao 0 c2)) ∧ Below w.heap.size w w' := by
  have hCl : C < w.heap.size := World.block_lt_of_cell? w _ hC
  cases ua with
  | none =>
    obtain rfl := hua rfl
    go_enter Try.func72, Try.ntmps72
    go_wp2
    go_loopw [7] (fun s7 wr => (∃ ao c2, s7 = .slice ao 0 c2) ∧ wr = w) (fun s7 _ => 0)
    case atStart => exact ⟨⟨_, _, rfl⟩, rfl⟩
    case round =>
      obtain ⟨⟨ao, c2, rfl⟩, rfl⟩ := hrel
      go_wp2
      go_ret
      exact ⟨⟨ao, c2, rfl⟩, Below.refl _ _⟩
  | some p =>
    obtain ⟨g, rfl⟩ := huo p rfl
    go_enter Try.func72, Try.ntmps72
    go_wp2
    go_loopw [7] (fun s7 wr => (∃ ao c2, s7 = .slice ao 0 c2) ∧ wr = w) (fun s7 _ => 0)
    case atStart => exact ⟨⟨_, _, rfl⟩, rfl⟩
    case round =>
      obtain ⟨⟨ao, c2, rfl⟩, rfl⟩ := hrel
      go_wp2
      go_ret
      exact ⟨⟨ao, c2, rfl⟩, Below.refl _ _⟩
/-- Of an item, what stands above and what stands below. -/
def segA (xs : List Nd) (y : It) : List Nd := if y.1.k = 11 then [] else (xs.drop y.2.1.toNat).take (y.2.2 - y.2.1).toNat
def segB (xs : List Nd) (y : It) : List Nd := if y.1.k = 11 then (xs.drop (y.2.1.toNat + 1)).take (y.2.2 - y.2.1 - 1).toNat else []
def noteB (ys : List It) : Bool := ys.any (fun y => y.1.k == 11)
def gapN (g0 g1 g2 g3 g4 : Int) : Nd := ⟨3, 0, 0, 0, 0, 0, 0, 0, g0, g1, g2, g3, g4, ⟨#[]⟩, 0⟩
/-- The page of a row of items. -/
def pageL (xs : List Nd) (gap : Nd) (ys : List It) : List Nd := if noteB ys = true then ys.flatMap (segA xs) ++ gap :: ys.flatMap (segB xs) else ys.flatMap (segA xs)
theorem gap_any (g0 g1 g2 g3 g4 : Int) (w : World) : Calls Try.prog 71 #[.agg #[.int .i64 g0, .int .i64 g1, .int .i64 g2, .int .i64 g3, .int .i64 g4, .int .i64 0]] w fun e w' => e = .returned (ndV (gapN g0 g1 g2 g3 g4)) ∧ Below w.heap.size w w' :=
  (thg_3 0 0 0 0 0 0 0 g0 g1 g2 g3 g4 0 ⟨#[]⟩).cn w
end Go.Proofs.Ytjagagbelpihbaa

namespace Go.Proofs.Ytjagagbelpihbaa
open Go.RowKit
set_option linter.unusedVariables false
set_option linter.unusedSimpArgs false

theorem seg_of {xs : List Nd} (h : AllOk xs) {p : Nat} (hp : p < xs.length) : segA xs (itAt xs p) = (if (xs.getD p Nd.none).k = 11 then [] else itemAt xs p) ∧ segB xs (itAt xs p) = (if (xs.getD p Nd.none).k = 11 then (itemAt xs p).tail else []) := by
  have hk := h.kids p hp
  unfold segA segB itAt itemAt
  simp only
  obtain ⟨kn, hkn⟩ : ∃ kn : Nat, (xs.getD p Nd.none).kids = kn := ⟨_, (Int.toNat_of_nonneg hk.1).symm⟩
  rw [hkn]
  have e1 : ((p : Int) + 1 + (kn : Int) - (p : Int)).toNat = 1 + kn := by omega
  have e2 : ((p : Int) + 1 + (kn : Int) - (p : Int) - 1).toNat = kn := by omega
  have e3 : ((kn : Nat) : Int).toNat = kn := by omega
  have e4 : ((p : Nat) : Int).toNat = p := by omega
  rw [e1, e2, e3, e4]
  refine ⟨rfl, ?_⟩
  split
  · rw [List.drop_eq_getElem_cons hp, Nat.add_comm 1 kn, List.take_succ_cons, List.tail_cons]
  · rfl
theorem seg_le {xs : List Nd} (h : AllOk xs) {p : Nat} (hp : p < xs.length) : (segA xs (itAt xs p)).length + (segB xs (itAt xs p)).length ≤ (itemAt xs p).length := by
  obtain ⟨h1, h2⟩ := seg_of h hp
  rw [h1, h2]
  split
  · simp
  · simp
theorem segs_sum {xs : List Nd} (h : AllOk xs) : ∀ ps : List Nat, (∀ p ∈ ps, p < xs.length) → ((ps.map (itAt xs)).flatMap (segA xs)).length + ((ps.map (itAt xs)).flatMap (segB xs)).length ≤ (ps.map (fun p => (itemAt xs p).length)).sum
  | [], _ => by simp
  | p :: ps, hp => by
    have h1 := seg_le h (hp p (by simp))
    have h2 := segs_sum h ps (fun q hq => hp q (by simp [hq]))
    simp only [List.map_cons, List.flatMap_cons, List.length_append, List.sum_cons]
    omega
theorem sum_app : ∀ (a b : List Nat), (a ++ b).sum = a.sum + b.sum
  | [], b => by simp
  | x :: a, b => by rw [List.cons_append, List.sum_cons, List.sum_cons, sum_app a b]; omega
theorem sum_sub (l : List Nat) (s m : Nat) : ((l.drop s).take m).sum ≤ l.sum := by
  have h1 := congrArg List.sum (List.take_append_drop s l)
  have h2 := congrArg List.sum (List.take_append_drop m (l.drop s))
  rw [sum_app] at h1 h2
  omega
theorem page_len {xs : List Nd} (h : AllOk xs) (s m : Nat) : ((((its xs).drop s).take m).flatMap (segA xs)).length + ((((its xs).drop s).take m).flatMap (segB xs)).length ≤ 20000 := by
  unfold its
  rw [← List.map_drop, ← List.map_take]
  refine Nat.le_trans (segs_sum h _ (fun p hp => starts_lt xs _ _ p (List.mem_of_mem_drop (List.mem_of_mem_take hp)))) ?_
  rw [List.map_take, List.map_drop]
  refine Nat.le_trans (sum_sub _ _ _) ?_
  have h2 := starts_sum h (xs.length + 1) 0 (by omega)
  have h3 := h.len
  omega
theorem page_mem {xs zs : List It} {ns : List Nd} {gap x : Nd} (hx : x ∈ pageL ns gap zs) : x ∈ ns ∨ x = gap := by
  have hA : ∀ x, x ∈ zs.flatMap (segA ns) → x ∈ ns := fun x hx => by
    obtain ⟨y, _, hy⟩ := List.mem_flatMap.1 hx
    unfold segA at hy
    split at hy
    · simp at hy
    · exact List.mem_of_mem_drop (List.mem_of_mem_take hy)
  have hB : ∀ x, x ∈ zs.flatMap (segB ns) → x ∈ ns := fun x hx => by
    obtain ⟨y, _, hy⟩ := List.mem_flatMap.1 hx
    unfold segB at hy
    split at hy
    · exact List.mem_of_mem_drop (List.mem_of_mem_take hy)
    · simp at hy
  unfold pageL at hx
  split at hx
  · rcases List.mem_append.1 hx with h | h
    · exact .inl (hA x h)
    · rcases List.mem_cons.1 h with h | h
      · exact .inr h
      · exact .inl (hB x h)
  · exact .inl (hA x hx)
theorem page_text {xs : List Nd} (h : AllOk xs) {zs : List It} {gap : Nd} (hg : gap.tx.size ≤ 1000) : ∀ i, i < (pageL xs gap zs).length → ((pageL xs gap zs).getD i Nd.none).tx.size ≤ 281474976710656 := fun i hi => by
  have he : (pageL xs gap zs).getD i Nd.none = (pageL xs gap zs)[i] := by rw [List.getD_eq_getElem?_getD, List.getElem?_eq_getElem hi]; rfl
  rw [he]
  rcases page_mem (xs := []) (List.getElem_mem hi) with hm | hm
  · obtain ⟨j, hj, he2⟩ := List.getElem_of_mem hm
    have ht := h.text j hj
    rw [List.getD_eq_getElem?_getD, List.getElem?_eq_getElem hj] at ht
    simp only [Option.getD_some] at ht
    rw [he2] at ht
    omega
  · rw [hm]
    omega
theorem page_bound {xs : List Nd} (h : AllOk xs) (gap : Nd) (s m : Nat) : (pageL xs gap (((its xs).drop s).take m)).length ≤ 20001 := by
  have h1 := page_len h s m
  unfold pageL
  split
  · rw [List.length_append, List.length_cons]
    omega
  · omega
theorem nn_of {w : World} {base n : Nat} {v : Value} {xs : List Nd} (h : w.ownsRow base 60 15 v n (flatN xs)) : NN base w v xs := by
  obtain ⟨h0, ⟨rfl, rfl⟩ | ⟨g, cap, cur, rfl, hg, hb, hc, hm, hs, ht⟩⟩ := h
  · refine .inl ⟨rfl, List.eq_nil_of_length_eq_zero ?_⟩
    rw [flatN_len] at h0
    omega
  · have hn : n = xs.length := by rw [flatN_len] at h0; omega
    subst hn
    refine .inr ⟨g, 0, cap, rfl, hc, hg, fun _ => (Array.getElem?_eq_some_iff.1 hb).1, fun j u hu => ?_⟩
    have hj : j < xs.length * 15 := by
      have := (List.getElem?_eq_some_iff.1 hu).1
      rw [flatN_len] at this
      exact this
    rw [Nat.zero_add]
    have hown : w.ownsRow base 60 15 (.slice (some ⟨g, 0, none⟩) xs.length cap) xs.length (flatN xs) := ⟨h0, .inr ⟨g, cap, cur, rfl, hg, hb, hc, hm, hs, ht⟩⟩
    rw [World.ownsRow.cellAt hown j hj]
    exact hu
end Go.Proofs.Ytjagagbelpihbaa
