/-
  Where a line may end: the program's turns.
-/
import Derived.Test.YtjagagbelpihbaaItx
import Derived.Test.YtjagagbelpihbaaItf
namespace Go.Proofs.Ytjagagbelpihbaa
open Go.RowKit
set_option linter.unusedVariables false
set_option linter.unusedSimpArgs false

theorem room_letter (f h a b c : Int) (w : World) : Calls Try.prog 106 #[.agg #[.int .i64 f, .int .i64 h, .int .i64 a, .int .i64 b, .int .i64 c]] w fun r w' => r = .returned (.int .i64 a) ∧ Below w.heap.size w w' := by
  go_enter Try.func106, Try.ntmps106
  go_wp2
  go_ret
  first | exact ⟨rfl, below1 _ _⟩ | exact ⟨rfl, Below.refl _ _⟩ | exact ⟨rfl, Below.drew (below1 _ _)⟩
theorem room_kern (a : Int) (w : World) : Calls Try.prog 112 #[.agg #[.int .i64 a]] w fun r w' => r = .returned (.int .i64 a) ∧ Below w.heap.size w w' := by
  go_enter Try.func112, Try.ntmps112
  go_wp2
  go_ret
  first | exact ⟨rfl, below1 _ _⟩ | exact ⟨rfl, Below.refl _ _⟩ | exact ⟨rfl, Below.drew (below1 _ _)⟩
theorem room_rule (a b c : Int) (w : World) : Calls Try.prog 119 #[.agg #[.int .i64 a, .int .i64 b, .int .i64 c]] w fun r w' => r = .returned (.int .i64 a) ∧ Below w.heap.size w w' := by
  go_enter Try.func119, Try.ntmps119
  go_wp2
  go_ret
  first | exact ⟨rfl, below1 _ _⟩ | exact ⟨rfl, Below.refl _ _⟩ | exact ⟨rfl, Below.drew (below1 _ _)⟩
theorem room_box (k a b c d e : Int) (w : World) : Calls Try.prog 124 #[.agg #[.int .i64 k, .int .i64 a, .int .i64 b, .int .i64 c, .int .i64 d, .int .i64 e]] w fun r w' => r = .returned (.int .i64 a) ∧ Below w.heap.size w w' := by
  go_enter Try.func124, Try.ntmps124
  go_wp2
  go_ret
  first | exact ⟨rfl, below1 _ _⟩ | exact ⟨rfl, Below.refl _ _⟩ | exact ⟨rfl, Below.drew (below1 _ _)⟩
structure SolY (v : Value) (X : Nat) (p : Value) (K : Nat) (h : Int) : Prop where
  is : v = .iface X p
  ta : ∀ W : World, (Instr.typeAssert (.iface X p) 64 167 true).run Try.prog W = .ok (.tuple #[.iface X p, .bool true]) W
  mh : ∀ W : World, (method 287 X p "loop.example/g00014/impl.room").run Try.prog W = .ok (K, p) W
  fh : ∀ W : World, (callFunc K #[p]).run Try.prog W = .ok (.enter K #[p]) W
  ch : ∀ W : World, Calls Try.prog K #[p] W fun e w' => e = .returned (.int .i64 h) ∧ Below W.heap.size W w'
structure SolN (v : Value) : Prop where
  ta : ∀ W : World, (Instr.typeAssert v 64 167 true).run Try.prog W = .ok (.tuple #[.nilIface, .bool false]) W
  sh : v = .nilIface ∨ ∃ X p, v = .iface X p
theorem sol_any (x : Nd) : (∃ X p K h, SolY (thV x) X p K h) ∨ SolN (thV x) := by
  obtain ⟨k, wd, ht, dp, sh, fo, ch, nn, gs, gp, gpo, gm, gmo, tx, kids⟩ := x
  by_cases hk : 1 ≤ k ∧ k ≤ 11
  · rcases kinds hk.1 hk.2 with rfl | rfl | rfl | rfl | rfl | rfl | rfl | rfl | rfl | rfl | rfl
    · exact .inl ⟨113, .agg #[.int .i64 fo, .int .i64 ch, .int .i64 wd, .int .i64 ht, .int .i64 dp], 106, wd, ⟨rfl, fun W => run_typeAssert_hasB Try.underlying167 (by kernel_rfl) _ 64 W, fun _ => by kernel_rfl, fun _ => by kernel_rfl, fun W => room_letter fo ch wd ht dp W⟩⟩
    · exact .inl ⟨115, .agg #[.int .i64 wd], 112, wd, ⟨rfl, fun W => run_typeAssert_hasB Try.underlying167 (by kernel_rfl) _ 64 W, fun _ => by kernel_rfl, fun _ => by kernel_rfl, fun W => room_kern wd W⟩⟩
    · exact .inr ⟨fun W => run_typeAssert_lacksB Try.underlying167 (by kernel_rfl) (by kernel_rfl) _ 64 W, .inr ⟨_, _, rfl⟩⟩
    · exact .inr ⟨fun W => run_typeAssert_lacksB Try.underlying167 (by kernel_rfl) (by kernel_rfl) _ 64 W, .inr ⟨_, _, rfl⟩⟩
    · exact .inl ⟨121, .agg #[.int .i64 wd, .int .i64 ht, .int .i64 dp], 119, wd, ⟨rfl, fun W => run_typeAssert_hasB Try.underlying167 (by kernel_rfl) _ 64 W, fun _ => by kernel_rfl, fun _ => by kernel_rfl, fun W => room_rule wd ht dp W⟩⟩
    · exact .inl ⟨123, .agg #[.int .i64 6, .int .i64 wd, .int .i64 ht, .int .i64 dp, .int .i64 sh, .int .i64 kids], 124, wd, ⟨rfl, fun W => run_typeAssert_hasB Try.underlying167 (by kernel_rfl) _ 64 W, fun _ => by kernel_rfl, fun _ => by kernel_rfl, fun W => room_box 6 wd ht dp sh kids W⟩⟩
    · exact .inl ⟨123, .agg #[.int .i64 7, .int .i64 wd, .int .i64 ht, .int .i64 dp, .int .i64 sh, .int .i64 kids], 124, wd, ⟨rfl, fun W => run_typeAssert_hasB Try.underlying167 (by kernel_rfl) _ 64 W, fun _ => by kernel_rfl, fun _ => by kernel_rfl, fun W => room_box 7 wd ht dp sh kids W⟩⟩
    · exact .inr ⟨fun W => run_typeAssert_lacksB Try.underlying167 (by kernel_rfl) (by kernel_rfl) _ 64 W, .inr ⟨_, _, rfl⟩⟩
    · exact .inr ⟨fun W => run_typeAssert_lacksB Try.underlying167 (by kernel_rfl) (by kernel_rfl) _ 64 W, .inr ⟨_, _, rfl⟩⟩
    · exact .inr ⟨fun W => run_typeAssert_lacksB Try.underlying167 (by kernel_rfl) (by kernel_rfl) _ 64 W, .inr ⟨_, _, rfl⟩⟩
    · exact .inr ⟨fun W => run_typeAssert_lacksB Try.underlying167 (by kernel_rfl) (by kernel_rfl) _ 64 W, .inr ⟨_, _, rfl⟩⟩
  · rw [thV_0 _ hk]; exact .inr ⟨fun W => by kernel_rfl, .inl rfl⟩

set_option maxRecDepth 20000 in
set_option maxHeartbeats 8000000 in
theorem madd_any {w : World} {B T m : Nat} (o : Nat) (x : Nd) (h : Ints w B T m) (ho : o + 9 ≤ m) (hx : Ord x) :
    Calls Try.prog 81 #[.pointer (some ⟨B, o, none⟩), thV x] w fun e w' => (∃ v, e = .returned v) ∧ Ints w' B T m ∧ Fr B w w' := by
  obtain ⟨s0, s1, s2, s3, s4, s5, hs, hse⟩ := ask_space x
  have hsh := thV_shape x
  have hta := sol_any x
  obtain ⟨z0, c0⟩ := h.cell o (by omega)
  have fz := h.free
  have hB := h.lt
  have HI := hideP h
  clear h
  obtain ⟨v, hv⟩ : ∃ v, v = thV x := ⟨_, rfl⟩
  rw [← hv] at hs hsh hta ⊢
  clear hv
  by_cases h3 : x.k = 3
  · rw [show (x.k == 3) = true by simp [h3]] at hs
    obtain ⟨rfl, rfl, rfl, rfl, rfl, rfl⟩ := hse h3
    obtain ⟨x1, x2, x3, x4⟩ := hx
    obtain ⟨pn, hpn⟩ : ∃ pn : Nat, x.gpo = (pn : Int) := ⟨x.gpo.toNat, by omega⟩
    obtain ⟨mn, hmn⟩ : ∃ mn : Nat, x.gmo = (mn : Int) := ⟨x.gmo.toNat, by omega⟩
    rw [hpn, hmn] at hs
    have GC : Hid (∀ W, Ints W B T m → Calls Try.prog 85 #[.pointer (some ⟨B, o, none⟩), .agg #[.int .i64 x.gs, .int .i64 x.gp, .int .i64 (pn : Int), .int .i64 x.gm, .int .i64 (mn : Int)]] W fun e w' => (∃ v, e = .returned v) ∧ Ints w' B T m ∧ Fr B W w') := hideP (fun W hW => addGlue_any o pn mn x.gs x.gp x.gm hW (by omega) (by omega) (by omega))
    clear hta hpn hmn x1 x2 x3 x4 h3 hse
    rcases hsh with rfl | ⟨X, q, rfl⟩
    all_goals
      go_enter Try.func81, Try.ntmps81
      go_wp2_with fail
      refine (GC.out _ (by first | exact HI.out.alloc _ | exact Ints.drew (HI.out.alloc _))).mono ?_
      rintro e w5 ⟨⟨vr, rfl⟩, hi5, hf5⟩
      have HI5 := hideP hi5
      have HF5 : Hid (Fr B w w5) := hideP (Fr.trans (by first | exact (Fr.refl B w).alloc _ | exact Fr.drew ((Fr.refl B w).alloc _)) hf5)
      clear hi5 hf5
      go_wp2
      go_end0
      exact ⟨⟨_, rfl⟩, HI5.out, HF5.out⟩
  · rw [show (x.k == 3) = false by simp [h3]] at hs
    rcases hta with ⟨X, p, K, hh, TY⟩ | TN
    · obtain ⟨rfl, ta, mh, fh, ch⟩ := TY
      have CH := hideP ch
      clear ch hsh h3 hse
      go_enter Try.func81, Try.ntmps81
      go_wp2_with fail
      go_region_with (first | (refine (CH.out _).mono ?_; rintro e w5 ⟨rfl, hb5⟩; have c5 : w5.cell? ⟨B, o, none⟩ = some (.int .i64 z0) := (hb5.cell (p := ⟨B, o, none⟩) hB).trans c0; have I5 : Hid (Ints w5 B T m) := hideP (Ints.below (Ints.drew HI.out) hb5); have f5 : w5.frozen? ⟨B, o, none⟩ = false := I5.out.free o; have F5 : Hid (Fr B w w5) := hideP ((Fr.drew (Fr.refl B w)).below hb5); have hB5 : B < w5.heap.size := I5.out.lt; clear hb5))
      all_goals
       go_wp2
       go_end0
       refine ⟨⟨_, rfl⟩, ?_, ?_⟩
       · have HI2 := I5.out
         repeat (first | with_reducible exact HI2 | with_reducible refine Ints.set ?_ _ _ | with_reducible refine Ints.alloc ?_ _ | with_reducible refine Ints.drew ?_)
       · have HF2 := F5.out
         repeat (first | with_reducible exact HF2 | with_reducible refine Fr.set ?_ _ _ | with_reducible refine Fr.alloc ?_ _ | with_reducible refine Fr.drew ?_)
    · obtain ⟨ta, _⟩ := TN
      clear h3 hse
      rcases hsh with rfl | ⟨X, q, rfl⟩
      all_goals
        go_enter Try.func81, Try.ntmps81
        go_wp2
        go_end0
        refine ⟨⟨_, rfl⟩, ?_, ?_⟩
        · have HI2 := HI.out
          repeat (first | with_reducible exact HI2 | with_reducible refine Ints.set ?_ _ _ | with_reducible refine Ints.alloc ?_ _ | with_reducible refine Ints.drew ?_)
        · repeat (first | with_reducible exact Fr.refl _ _ | with_reducible refine Fr.set ?_ _ _ | with_reducible refine Fr.alloc ?_ _ | with_reducible refine Fr.drew ?_)

theorem ask_hyph (x : Nd) : ∃ c0 c1 c2 c3 c4 : Int, (∀ W : World, (Instr.typeAssert (thV x) 64 125 true).run Try.prog W = .ok (.tuple #[.agg #[.int .i64 c0, .int .i64 c1, .int .i64 c2, .int .i64 c3, .int .i64 c4], .bool (x.k == 8)]) W) := by
  obtain ⟨k, wd, ht, dp, sh, fo, ch, nn, gs, gp, gpo, gm, gmo, tx, kids⟩ := x
  by_cases hk : 1 ≤ k ∧ k ≤ 11
  · rcases kinds hk.1 hk.2 with rfl | rfl | rfl | rfl | rfl | rfl | rfl | rfl | rfl | rfl | rfl
    · exact ⟨0, 0, 0, 0, 0, fun _ => by kernel_rfl⟩
    · exact ⟨0, 0, 0, 0, 0, fun _ => by kernel_rfl⟩
    · exact ⟨0, 0, 0, 0, 0, fun _ => by kernel_rfl⟩
    · exact ⟨0, 0, 0, 0, 0, fun _ => by kernel_rfl⟩
    · exact ⟨0, 0, 0, 0, 0, fun _ => by kernel_rfl⟩
    · exact ⟨0, 0, 0, 0, 0, fun _ => by kernel_rfl⟩
    · exact ⟨0, 0, 0, 0, 0, fun _ => by kernel_rfl⟩
    · exact ⟨fo, ch, wd, ht, dp, fun _ => by kernel_rfl⟩
    · exact ⟨0, 0, 0, 0, 0, fun _ => by kernel_rfl⟩
    · exact ⟨0, 0, 0, 0, 0, fun _ => by kernel_rfl⟩
    · exact ⟨0, 0, 0, 0, 0, fun _ => by kernel_rfl⟩
  · exact ⟨0, 0, 0, 0, 0, fun _ => by rw [thV_0 _ hk, show (k == 8) = false by simp; omega]; kernel_rfl⟩

/-- Whether a line may end at an item. -/
def trnB (ys : List It) (a : Nat) : Bool := (ys.getD a It.none).1.k == 8 || brkB ys a

set_option maxRecDepth 20000 in
set_option maxHeartbeats 8000000 in
theorem turnAt_any {w : World} {PB B cap n : Nat} {ys : List It} {z5 : Int} (a : Nat) (h24 : w.cell? ⟨PB, 24, none⟩ = some (.slice (some ⟨B, 0, none⟩) n cap)) (h5 : w.cell? ⟨PB, 5, none⟩ = some (.int .i64 z5)) (h : ItR w B ys) (hl : ys.length = n) (hB : B < w.heap.size) (ha : a < n) (hn : n ≤ 20003) (hn2 : n ≤ 20000) :
    Calls Try.prog 82 #[.pointer (some ⟨PB, 0, none⟩), .int .i64 (a : Int)] w fun e w' => (∃ (c : Int) (q : Option Addr), e = .returned (.tuple #[.agg #[.int .i64 (a : Int), .int .i64 c, .pointer q, .int .i64 0], .bool (trnB ys a)])) ∧ Below w.heap.size w w' := by
  have ha' : a < ys.length := by omega
  have hai : (a : Int) < (n : Int) := by omega
  have hPB : PB < w.heap.size := World.block_lt_of_cell? w _ h24
  have g0 := h.c0 a ha'
  have g1 := h.c1 a ha'
  have g2 := h.c2 a ha'
  obtain ⟨x, hx⟩ : ∃ x, x = (ys.getD a It.none).1 := ⟨_, rfl⟩
  rw [← hx] at g0
  obtain ⟨c0, c1, c2, c3, c4, hs⟩ := ask_hyph x
  have hsh := thV_shape x
  have BC : Hid (∀ W, Below w.heap.size w W → Calls Try.prog 68 #[.slice (some ⟨B, 0, none⟩) n cap, .int .i64 (a : Int)] W fun e w' => (∃ c : Int, e = .returned (.tuple #[.int .i64 c, .bool (brkB ys a)])) ∧ Below W.heap.size W w') := hideP (fun W hW => breakAt_any a (h.block (hW.block B hB)) hl (Nat.lt_of_lt_of_le hB hW.size) ha hn2)
  obtain ⟨R, hR⟩ : ∃ R, R = trnB ys a := ⟨_, rfl⟩
  rw [← hR]
  have HR : Hid (R = (x.k == 8 || brkB ys a)) := hideP (by rw [hR, hx]; rfl)
  obtain ⟨bb, hbb⟩ : ∃ b, b = brkB ys a := ⟨_, rfl⟩
  rw [← hbb] at BC HR
  obtain ⟨v, hv⟩ : ∃ v, v = thV x := ⟨_, rfl⟩
  rw [← hv] at hs hsh g0
  clear hv hR hbb h hl
  by_cases h8 : x.k = 8
  · rw [show (x.k == 8) = true by simp [h8]] at hs HR
    have HE : Hid (R = true) := hideP (by rw [HR.out]; rfl)
    clear hx h8 HR BC
    rcases hsh with rfl | ⟨X, q, rfl⟩
    all_goals
      go_enter Try.func82, Try.ntmps82
      go_wp2
      refine bodyPost_ret (v := .tuple #[.agg #[.int .i64 (a : Int), .int .i64 z5, .pointer (some ⟨w.heap.size + 1, 0, none⟩), .int .i64 0], .bool true]) (by simp [results, Try.results82, go_sem]) rfl ⟨⟨_, _, by rw [HE.out]⟩, ?_⟩
      first | exact below2 _ _ _ | exact Below.drew (below2 _ _ _)
  · rw [show (x.k == 8) = false by simp [h8]] at hs HR
    have HE : Hid (R = bb) := hideP (by rw [HR.out]; rfl)
    clear hx h8 HR
    rcases hsh with rfl | ⟨X, q, rfl⟩
    all_goals
      go_enter Try.func82, Try.ntmps82
      go_wp2_with fail
      refine (BC.out _ (below2 _ _ _)).mono ?_
      rintro e w5 ⟨⟨cc, rfl⟩, hb5⟩
      have B5 : Hid (Below w.heap.size w w5) := hideP (below_more (below2 _ _ _) hb5 (by simp; omega))
      have hq : w5.heap[w.heap.size]? = some (.cells #[.int .i64 0, .int .i64 0, .pointer none, .int .i64 0] 92 (0, 0)) := (hb5.block _ (by simp; omega)).trans (((below1 (w.alloc _) _).block _ (by simp)).trans (heap_alloc_new _ _))
      have t0 : w5.cell? ⟨w.heap.size, 0, none⟩ = some (.int .i64 0) := by rw [cell_of_row w5 _ _ _ _ _ hq]; rfl
      have t1 : w5.cell? ⟨w.heap.size, 1, none⟩ = some (.int .i64 0) := by rw [cell_of_row w5 _ _ _ _ _ hq]; rfl
      have t2 : w5.cell? ⟨w.heap.size, 2, none⟩ = some (.pointer none) := by rw [cell_of_row w5 _ _ _ _ _ hq]; rfl
      have t3 : w5.cell? ⟨w.heap.size, 3, none⟩ = some (.int .i64 0) := by rw [cell_of_row w5 _ _ _ _ _ hq]; rfl
      have tf : ∀ o, w5.frozen? ⟨w.heap.size, o, none⟩ = false := fun o => by rw [World.frozen?, hq]; rfl
      have hsz : w.heap.size < w5.heap.size := (Array.getElem?_eq_some_iff.1 hq).1
      have HQ := hideP hq
      clear hq hb5
      go_wp2
      obtain ⟨W6, hW6⟩ : ∃ W6, W6 = putC w5 w.heap.size 0 [.int .i64 (a : Int), .int .i64 cc, .pointer none, .int .i64 0] := ⟨_, rfl⟩
      have B6 : Below w.heap.size w W6 := by rw [hW6]; exact putC_below (Nat.le_refl _) _ _ _ B5.out
      obtain ⟨cur, q1, q2, _, q4⟩ := putC_block [.int .i64 (a : Int), .int .i64 cc, .pointer none, .int .i64 0] 0 w5 _ HQ.out (by simp)
      rw [← hW6] at q1
      simp only [putC] at hW6
      rw [← hW6]
      have y0 : W6.cell? ⟨w.heap.size, 0, none⟩ = some (.int .i64 (a : Int)) := by rw [cell_of_row W6 _ _ _ _ _ q1]; exact q4 0 (by simp)
      have y1 : W6.cell? ⟨w.heap.size, 1, none⟩ = some (.int .i64 cc) := by rw [cell_of_row W6 _ _ _ _ _ q1]; exact q4 1 (by simp)
      have y2 : W6.cell? ⟨w.heap.size, 2, none⟩ = some (.pointer none) := by rw [cell_of_row W6 _ _ _ _ _ q1]; exact q4 2 (by simp)
      have y3 : W6.cell? ⟨w.heap.size, 3, none⟩ = some (.int .i64 0) := by rw [cell_of_row W6 _ _ _ _ _ q1]; exact q4 3 (by simp)
      exact bodyPost_ret (v := .tuple #[.agg #[.int .i64 (a : Int), .int .i64 cc, .pointer none, .int .i64 0], .bool bb]) (by simp [results, Try.results82, go_sem, y0, y1, y2, y3]) rfl ⟨⟨_, _, by rw [HE.out]⟩, B6⟩
end Go.Proofs.Ytjagagbelpihbaa
