/-
  The items of a list, as the program keeps them.
-/
import Derived.Test.YtdgfnceipginkaaDsc
import Derived.Test.YtdgfnceipginkaaStk
import Derived.RegionTactic
import Derived.ChangeAlike
import Derived.RangeFuncNested
import Derived.RangeFuncBound
import Derived.RangeFuncCalls
import Derived.RangeFuncLeaves
import Derived.Shelf.Abstract
import Derived.Shelf.RegionOpen
import Derived.WalkKit
import Derived.OwnWalkIn
import Derived.TacticsInMore
import Derived.LoopNIn
import Derived.LoopIn
import Derived.Maps.AppendAt
import Derived.Test.YtdgfnceipginkaaIts
namespace Go.Proofs.Ytdgfnceipginkaa
open Go.RowKit
set_option linter.unusedVariables false
set_option linter.unusedSimpArgs false

abbrev It := Nd × Int × Int
abbrev It.none : It := (Nd.none, 0, 0)
/-- A row of items: what each is, and where its nodes begin and end. -/
structure ItR (w : World) (B : Nat) (ys : List It) : Prop where
  c0 : ∀ i, i < ys.length → w.cell? ⟨B, i * 3, none⟩ = some (thV (ys.getD i It.none).1)
  c1 : ∀ i, i < ys.length → w.cell? ⟨B, i * 3 + 1, none⟩ = some (.int .i64 (ys.getD i It.none).2.1)
  c2 : ∀ i, i < ys.length → w.cell? ⟨B, i * 3 + 2, none⟩ = some (.int .i64 (ys.getD i It.none).2.2)
def brkB (ys : List It) (a : Nat) : Bool :=
  if (ys.getD a It.none).1.k = 3 then decide (0 < a) && !discB (ys.getD (a - 1) It.none).1
  else if (ys.getD a It.none).1.k = 4 then decide ((ys.getD a It.none).1.nn < 10000) else false

/-- What it costs to end at an item. -/
def brkC (ys : List It) (a : Nat) : Int := if (ys.getD a It.none).1.k = 4 then (ys.getD a It.none).1.nn else 0

set_option maxRecDepth 20000 in
set_option maxHeartbeats 8000000 in
theorem breakAt_any {w : World} {B cap n : Nat} {ys : List It} (a : Nat) (h : ItR w B ys) (hl : ys.length = n) (hB : B < w.heap.size) (ha : a < n) (hn : n ≤ 20000) :
    Calls Try.prog 67 #[.slice (some ⟨B, 0, none⟩) n cap, .int .i64 (a : Int)] w fun e w' => e = .returned (.tuple #[.int .i64 (brkC ys a), .bool (brkB ys a)]) ∧ Below w.heap.size w w' := by
  have ha' : a < ys.length := by omega
  have hai : (a : Int) < (n : Int) := by omega
  have g0 := h.c0 a ha'
  obtain ⟨x, hx⟩ : ∃ x, x = (ys.getD a It.none).1 := ⟨_, rfl⟩
  rw [← hx] at g0
  obtain ⟨s0, s1, s2, s3, s4, s5, hs, _⟩ := ask_space x
  obtain ⟨p0, hp, hpn⟩ := ask_pen x
  have hsh := thV_shape x
  obtain ⟨R, hR⟩ : ∃ R, R = brkB ys a := ⟨_, rfl⟩
  rw [← hR]
  obtain ⟨C, hC⟩ : ∃ C, C = brkC ys a := ⟨_, rfl⟩
  rw [← hC]
  unfold brkC at hC
  rw [← hx] at hC
  have HC := hideP hC
  clear hC
  unfold brkB at hR
  rw [← hx] at hR
  have HR := hideP hR
  clear hR
  obtain ⟨v, hv⟩ : ∃ v, v = thV x := ⟨_, rfl⟩
  rw [← hv] at hs hp hsh g0
  clear hv
  by_cases h3 : x.k = 3
  · rw [show (x.k == 3) = true by simp [h3]] at hs
    by_cases h0 : a = 0
    · subst h0
      have HE : Hid (R = false) := hideP (by rw [HR.out, if_pos h3]; rfl)
      have HCc : Hid (C = 0) := hideP (by rw [HC.out, if_neg (by omega)])
      clear hp hpn h3 hx
      rcases hsh with rfl | ⟨X, q, rfl⟩
      all_goals
        go_enter Try.func67, Try.ntmps67
        go_wp2
        refine bodyPost_ret (v := .tuple #[.int .i64 0, .bool false]) (by simp [results, Try.results67, go_sem]) rfl ⟨by rw [HE.out, HCc.out], ?_⟩
        repeat (first | with_reducible exact below1 _ _ | with_reducible exact below2 _ _ _ | (with_reducible refine Below.setCell ?_ ?_ _; rotate_left; focus (first | (simp; done) | (simp; omega))))
    · have hap : (0 : Int) < (a : Int) := by omega
      obtain ⟨d, hd⟩ : ∃ d, d = a - 1 := ⟨_, rfl⟩
      have hd' : d < ys.length := by omega
      have k0 := h.c0 d hd'
      have k1 := h.c1 d hd'
      have k2 := h.c2 d hd'
      obtain ⟨y, hy⟩ : ∃ y, y = ys.getD d It.none := ⟨_, rfl⟩
      rw [← hy] at k0 k1 k2
      obtain ⟨y, ya, ye⟩ := y
      simp only at k0 k1 k2
      have HCc : Hid (C = 0) := hideP (by rw [HC.out, if_neg (by omega)])
      have HE : Hid (R = !discB y) := hideP (by rw [HR.out, if_pos h3, ← hd, ← hy, decide_eq_true (by omega)]; rfl)
      have DC : Hid (∀ W, Calls Try.prog 55 #[.agg #[thV y, .int .i64 ya, .int .i64 ye]] W fun e w' => e = .returned (.bool (discB y)) ∧ Below W.heap.size W w') := hideP (fun W => disc_any y ya ye W)
      obtain ⟨vy, hvy⟩ : ∃ v, v = thV y := ⟨_, rfl⟩
      obtain ⟨dy, hdy⟩ : ∃ v, v = discB y := ⟨_, rfl⟩
      rw [← hvy] at k0 DC
      rw [← hdy] at DC HE
      have hone : vy.oneCell' = true := by
        rw [hvy]
        rcases thV_shape y with h | ⟨X, q, h⟩ <;> rw [h] <;> rfl
      have hdi : ((a : Int) - 1) = (d : Int) := by omega
      have hdn : (d : Int) < (n : Int) := by omega
      have hwd : IntKind.i64.wrap ((a : Int) - 1) = (d : Int) := by rw [IntKind.wrap_i64]; omega
      clear hvy hdy hy hp hpn h3 hx hd h
      rcases hsh with rfl | ⟨X, q, rfl⟩
      all_goals
        go_enter Try.func67, Try.ntmps67
        go_wp2_with fail
        refine (DC.out _).mono ?_
        rintro e w2 ⟨rfl, hb2⟩
        have BY : Hid (Below w.heap.size w w2) := hideP (below_more (below1 _ _) hb2 (by simp))
        clear hb2
        go_wp2
        refine bodyPost_ret (v := .tuple #[.int .i64 0, .bool (!dy)]) (by simp [results, Try.results67, go_sem]) rfl ⟨by rw [HE.out, HCc.out], BY.out⟩
  · rw [show (x.k == 3) = false by simp [h3]] at hs
    by_cases h4 : x.k = 4
    · rw [show (x.k == 4) = true by simp [h4]] at hp
      have HCc : Hid (C = p0) := hideP (by rw [HC.out, if_pos h4, hpn h4])
      have HE : Hid (R = decide (p0 < 10000)) := hideP (by rw [HR.out, if_neg h3, if_pos h4, hpn h4])
      clear hpn h3 hx h4 h
      rcases hsh with rfl | ⟨X, q, rfl⟩
      all_goals
        go_enter Try.func67, Try.ntmps67
        go_wp2
        go_region
        go_wp2
        refine bodyPost_ret (v := .tuple #[.int .i64 p0, .bool (decide (p0 < 10000))]) (by simp [results, Try.results67, go_sem]) rfl ⟨by rw [HE.out, HCc.out], ?_⟩
        exact Below.drew (below1 _ _)
    · rw [show (x.k == 4) = false by simp [h4]] at hp
      have HE : Hid (R = false) := hideP (by rw [HR.out, if_neg h3, if_neg h4])
      have HCc : Hid (C = 0) := hideP (by rw [HC.out, if_neg h4])
      clear hpn h3 hx h4 h
      rcases hsh with rfl | ⟨X, q, rfl⟩
      all_goals
        go_enter Try.func67, Try.ntmps67
        go_wp2
        refine bodyPost_ret (v := .tuple #[.int .i64 0, .bool false]) (by simp [results, Try.results67, go_sem]) rfl ⟨by rw [HE.out, HCc.out], Below.refl _ _⟩
end Go.Proofs.Ytdgfnceipginkaa
namespace Go.Proofs.Ytdgfnceipginkaa
open Go.RowKit Go.Shelf
set_option linter.unusedVariables false
set_option linter.unusedSimpArgs false
attribute [local go_sem] Oper.semAt_some

def itAt (xs : List Nd) (i : Nat) : It := (xs.getD i Nd.none, (i : Int), (i : Int) + 1 + (xs.getD i Nd.none).kids)
def its (xs : List Nd) : List It := (starts xs (xs.length + 1) 0).map (itAt xs)
def flatI (ys : List It) : List Value := ys.flatMap (fun y => [thV y.1, .int .i64 y.2.1, .int .i64 y.2.2])
theorem flatI_snoc (ys : List It) (y : It) : flatI (ys ++ [y]) = flatI ys ++ [thV y.1, .int .i64 y.2.1, .int .i64 y.2.2] := by simp [flatI]
theorem Try.info141i : (Try.prog.info? 93).map (fun i => (i.zero, i.size, i.bytes)) = some (some (.agg #[.nilIface, .int .i64 0, .int .i64 0]), 3, 32) := by kernel_rfl

theorem ownG_kept {v : Value} {base e s n : Nat} {xs : List Value} {A B : World} {row : Option Nat} (h : A.ownsRow base e s v n xs) (hg : A.grownBy B row) (hr : ∀ r, row = some r → ∃ o : Obj, A.heap[r]? = some o ∧ o.isCells = false) : B.ownsRow base e s v n xs := by
  refine World.ownsRow.kept h hg ?_
  obtain ⟨hl, ⟨rfl, _⟩ | ⟨g, cap, cur, rfl, _, hb, _⟩⟩ := h
  · exact .inl rfl
  · refine .inr fun e => ?_
    obtain ⟨o, ho, hc⟩ := hr g e.symm
    rw [hb] at ho
    cases ho
    cases hc
theorem ownG_shape {base e s n : Nat} {w : World} {v : Value} {xs : List Value} (h : w.ownsRow base e s v n xs) : ∃ ao cap, v = .slice ao n cap := by
  obtain ⟨hl, ⟨rfl, rfl⟩ | ⟨g, cap, cur, rfl, hg, hb, _⟩⟩ := h
  · exact ⟨_, _, rfl⟩
  · exact ⟨_, _, rfl⟩
theorem ownG_below {base e s n : Nat} {w w' : World} {v : Value} {xs : List Value} (h : w.ownsRow base e s v n xs) (hb : Below w.heap.size w w') : w'.ownsRow base e s v n xs := by
  obtain ⟨hl, h | ⟨g, cap, cur, rfl, hg, hbk, hr⟩⟩ := h
  · exact ⟨hl, .inl h⟩
  · exact ⟨hl, .inr ⟨g, cap, cur, rfl, hg, (hb.block g (Array.getElem?_eq_some_iff.1 hbk).1).trans hbk, hr⟩⟩

theorem cell_three_new (w : World) (x y z : Value) (t : TypeId) : ∀ j u, [x, y, z][j]? = some u → (w.alloc (.cells #[x, y, z] t)).cell? ((⟨w.heap.size, 0, none⟩ : Addr).add j) = some u := by
  intro j u hj
  match j, hj with
  | 0, hj => simp at hj; subst hj; simp [go_sem, Addr.add]
  | 1, hj => simp at hj; subst hj; simp [go_sem, Addr.add]
  | 2, hj => simp at hj; subst hj; simp [go_sem, Addr.add]
  | j + 3, hj => simp at hj
theorem itf_done {xs : List Nd} {ao : Option Addr} {Bs b off cap base B k m : Nat} {w W w5 : World} {V u v' : Value} {vs news : List Value} {tmp : Obj}
    (hbx : Boxed W base 28 V) (hbu : Boxed W B 78 u) (how : W.ownsRow base 93 3 u k vs) (hne : ∀ g, u.ownBlock = some g → g ≠ base ∧ g ≠ Bs) (hB : Below base w W) (hbs : Bs < W.heap.size)
    (hBB : base < B) (hBs : B < Bs) (hb : 0 < xs.length → b < base) (hW : base ≤ W.heap.size)
    (ho5 : w5.ownsRow base 93 3 v' m (vs ++ news)) (hg5' : (W.alloc tmp).drew.grownBy w5 u.ownBlock) (hat : v'.ownBlock = u.ownBlock ∨ v'.ownBlock = some (W.alloc tmp).drew.heap.size) :
    KeepsOthers W (w5.setCell ⟨B, 0, none⟩ v') ∧ (Src xs ao Bs b off cap W → Src xs ao Bs b off cap (w5.setCell ⟨B, 0, none⟩ v')) ∧ Boxed (w5.setCell ⟨B, 0, none⟩ v') base 28 V ∧ Boxed (w5.setCell ⟨B, 0, none⟩ v') B 78 v' ∧
      (w5.setCell ⟨B, 0, none⟩ v').ownsRow base 93 3 v' m (vs ++ news) ∧ (∀ g, v'.ownBlock = some g → g ≠ base ∧ g ≠ Bs) ∧ Bs < (w5.setCell ⟨B, 0, none⟩ v').heap.size ∧ Below base w (w5.setCell ⟨B, 0, none⟩ v') ∧ Boxed w5 B 78 u := by
  have hg5 : (W.drew.alloc tmp).grownBy w5 u.ownBlock := hg5'
  have hbu3 : Boxed W.drew B 78 u := hbu
  have how3 : W.drew.ownsRow base 93 3 u k vs := how
  obtain ⟨p1, p2, p3, p4, p5⟩ := Boxed.appended hbu3 (by decide) how3 hW (by omega) ho5 hg5
  have hbase : ∀ g, u.ownBlock = some g → base ≤ g := fun g hg => (World.ownsRow.lt how g hg).1
  have hblk : ∀ q, q < W.heap.size → u.ownBlock ≠ some q → q ≠ B → (w5.setCell ⟨B, 0, none⟩ v').heap[q]? = W.heap[q]? := by
    intro q hq hu hqB
    rw [Below.heap_setCell _ _ _ _ (by simpa using hqB), hg5.block q (by simp; exact Nat.lt_succ_of_lt hq) (fun e => hu e.symm), (below1 W.drew tmp).block q hq]
    rfl
  have hne' : ∀ g, v'.ownBlock = some g → g ≠ base ∧ g ≠ Bs := by
    intro g hg
    rcases hat with e | e
    · exact hne g (by rw [← e]; exact hg)
    · rw [hg] at e
      have h1 := Option.some.inj e
      have h2 : (W.alloc tmp).drew.heap.size = W.heap.size + 1 := by show (W.alloc tmp).heap.size = _; simp
      omega
  have p4' : KeepsOthers W (w5.setCell ⟨B, 0, none⟩ v') := ⟨p4.1, fun q o h hn => p4.2 q o h hn⟩
  refine ⟨p4', ?_, ?_, p2, p3, hne', ?_, ?_, p1⟩
  · intro hsrc
    refine ⟨?_, hsrc.some_, fun i hi => ?_⟩
    · have hlt := World.block_lt_of_cell? W _ hsrc.box
      exact (World.cell?_of_block (w := W) (a := ⟨Bs, 0, none⟩) (hblk Bs hlt (fun e => (hne Bs e).2 rfl) (by omega))).trans hsrc.box
    · obtain ⟨y, hk, hcy⟩ := hsrc.at_ i hi
      have hbl := hb (by omega)
      refine ⟨y, hk, fun j hj => ?_⟩
      exact (World.cell?_of_block (w := W) (a := ⟨b, off + i * 15 + j, none⟩) (hblk b (by omega) (fun e => by have := hbase b e; omega) (by omega))).trans (hcy j hj)
  · exact (hblk base hbx.lt (fun e => (hne base e).1 rfl) (by omega)).trans hbx
  · have h3 := p5.size
    have h2 : W.drew.heap.size = W.heap.size := rfl
    omega
  · exact hB.trans ⟨p5.os, p5.tape, p5.output, p5.size, fun q hq => p5.block q hq⟩

end Go.Proofs.Ytdgfnceipginkaa
