/-
  A pile of items grows.
-/
import Derived.Test.YtjagagbelpihbaaBrk
import Derived.RegionTactic
import Derived.ChangeAlike
namespace Go.Proofs.Ytjagagbelpihbaa
open Go.RowKit
set_option linter.unusedVariables false
set_option linter.unusedSimpArgs false

/-- A block of whole numbers. -/
def Ints (w : World) (B T m : Nat) : Prop := ∃ zs : List Int, zs.length = m ∧ w.heap[B]? = some (.cells (zs.map (Value.int .i64)).toArray T (0, 0))
theorem Ints.lt {w : World} {B T m : Nat} (h : Ints w B T m) : B < w.heap.size := by obtain ⟨zs, _, h⟩ := h; exact (Array.getElem?_eq_some_iff.1 h).1
theorem Ints.cell {w : World} {B T m : Nat} (h : Ints w B T m) (o : Nat) (ho : o < m) : ∃ z : Int, w.cell? ⟨B, o, none⟩ = some (.int .i64 z) := by
  obtain ⟨zs, hl, h⟩ := h
  refine ⟨zs.getD o 0, ?_⟩
  rw [cell_of_row _ _ _ _ T _ h]
  simp [List.getElem?_map, List.getD, List.getElem?_eq_getElem (show o < zs.length by omega)]
theorem Ints.free {w : World} {B T m : Nat} (h : Ints w B T m) (o : Nat) : w.frozen? ⟨B, o, none⟩ = false := by
  obtain ⟨zs, hl, h⟩ := h
  exact frozen_of_row _ _ o _ T h
theorem Ints.set {w : World} {B T m : Nat} (h : Ints w B T m) (o : Nat) (z : Int) : Ints (w.setCell ⟨B, o, none⟩ (.int .i64 z)) B T m := by
  obtain ⟨zs, hl, h⟩ := h
  refine ⟨zs.set o z, by simpa using hl, ?_⟩
  rw [heap_setCell_same w B o _ T (.int .i64 z) h, List.map_set]
  simp
theorem Ints.alloc {w : World} {B T m : Nat} (h : Ints w B T m) (o : Obj) : Ints (w.alloc o) B T m := by
  obtain ⟨zs, hl, h⟩ := h
  exact ⟨zs, hl, (Below.heap_alloc _ _ _ (Array.getElem?_eq_some_iff.1 h).1).trans h⟩
theorem Ints.drew {w : World} {B T m : Nat} (h : Ints w B T m) : Ints w.drew B T m := h
theorem Ints.below {w w' : World} {B T m : Nat} (h : Ints w B T m) (hb : Below w.heap.size w w') : Ints w' B T m := by
  obtain ⟨zs, hl, h⟩ := h
  exact ⟨zs, hl, (hb.block _ (Array.getElem?_eq_some_iff.1 h).1).trans h⟩
/-- Of what was there only block L may have turned. -/
def Fr (L : Nat) (w w' : World) : Prop := w'.os = w.os ∧ w'.tape = w.tape ∧ w'.output = w.output ∧ w.heap.size ≤ w'.heap.size ∧ ∀ b, b < w.heap.size → b ≠ L → w'.heap[b]? = w.heap[b]?
theorem Fr.refl (L : Nat) (w : World) : Fr L w w := ⟨rfl, rfl, rfl, Nat.le_refl _, fun _ _ _ => rfl⟩
theorem Fr.below {L : Nat} {w a b : World} (h : Fr L w a) (hb : Below a.heap.size a b) : Fr L w b :=
  ⟨hb.os.trans h.1, hb.tape.trans h.2.1, hb.output.trans h.2.2.1, Nat.le_trans h.2.2.2.1 hb.size, fun k hk hn => (hb.block k (Nat.lt_of_lt_of_le hk h.2.2.2.1)).trans (h.2.2.2.2 k hk hn)⟩
theorem Fr.alloc {L : Nat} {w a : World} (h : Fr L w a) (o : Obj) : Fr L w (a.alloc o) := h.below ((Below.refl _ _).alloc (Nat.le_refl _) _)
theorem Fr.set {L : Nat} {w a : World} (h : Fr L w a) (o : Nat) (v : Value) : Fr L w (a.setCell ⟨L, o, none⟩ v) :=
  ⟨h.1, h.2.1, h.2.2.1, by simpa [World.setCell] using h.2.2.2.1, fun k hk hn => (Below.heap_setCell _ _ _ _ (by simpa using hn)).trans (h.2.2.2.2 k hk hn)⟩
theorem Fr.drew {L : Nat} {w a : World} (h : Fr L w a) : Fr L w a.drew := h
theorem Fr.trans {L : Nat} {w a b : World} (h : Fr L w a) (h2 : Fr L a b) : Fr L w b :=
  ⟨h2.1.trans h.1, h2.2.1.trans h.2.1, h2.2.2.1.trans h.2.2.1, Nat.le_trans h.2.2.2.1 h2.2.2.2.1, fun k hk hn => (h2.2.2.2.2 k (Nat.lt_of_lt_of_le hk h.2.2.2.1) hn).trans (h.2.2.2.2 k hk hn)⟩

set_option maxRecDepth 20000 in
set_option maxHeartbeats 8000000 in
theorem addGlue_any {w : World} {B T m : Nat} (o pn mn : Nat) (s p q : Int) (h : Ints w B T m) (ho : o + 9 ≤ m) (hp : pn < 4) (hm : mn < 4) :
    Calls Try.prog 85 #[.pointer (some ⟨B, o, none⟩), glueV s p (pn : Int) q (mn : Int)] w fun e w' => (∃ v, e = .returned v) ∧ Ints w' B T m ∧ Fr B w w' := by
  obtain ⟨z0, c0⟩ := h.cell o (by omega)
  obtain ⟨z1, c1⟩ := h.cell (o + 1 + pn) (by omega)
  obtain ⟨z2, c2⟩ := h.cell (o + 5 + mn) (by omega)
  have fz := h.free
  have hB := h.lt
  have hpi : (pn : Int) < 4 := by omega
  have hmi : (mn : Int) < 4 := by omega
  have e1 : ¬ o + 1 + pn = o := by omega
  have e2 : ¬ o = o + 1 + pn := by omega
  have e3 : ¬ o + 5 + mn = o := by omega
  have e4 : ¬ o = o + 5 + mn := by omega
  have e5 : ¬ o + 5 + mn = o + 1 + pn := by omega
  have e6 : ¬ o + 1 + pn = o + 5 + mn := by omega
  have HI := hideP h
  clear h
  simp only [glueV]
  go_enter Try.func85, Try.ntmps85
  go_wp2
  go_region
  go_wp2
  go_region
  go_wp2
  go_region
  go_wp2
  go_end0
  refine ⟨⟨_, rfl⟩, ?_, ?_⟩
  · have HI2 := HI.out
    repeat (first | with_reducible exact HI2 | with_reducible refine Ints.set ?_ _ _ | with_reducible refine Ints.alloc ?_ _ | with_reducible refine Ints.drew ?_)
  · repeat (first | with_reducible exact Fr.refl _ _ | with_reducible refine Fr.set ?_ _ _ | with_reducible refine Fr.alloc ?_ _ | with_reducible refine Fr.drew ?_)
end Go.Proofs.Ytjagagbelpihbaa

namespace Go.Proofs.Ytjagagbelpihbaa
open Go.RowKit
set_option linter.unusedVariables false
set_option linter.unusedSimpArgs false

theorem reach_kern (a : Int) (w : World) : Calls Try.prog 111 #[.agg #[.int .i64 a]] w fun e w' => e = .returned (.tuple #[.int .i64 a, .int .i64 0]) ∧ Below w.heap.size w w' := by
  go_enter Try.func111, Try.ntmps111
  go_wp2
  refine bodyPost_ret (v := .tuple #[.int .i64 a, .int .i64 0]) (by simp [results, Try.results111, go_sem]) rfl ⟨rfl, ?_⟩
  first | exact below1 _ _ | exact Below.drew (below1 _ _)
theorem reach_rule (a b c : Int) (w : World) : Calls Try.prog 118 #[.agg #[.int .i64 a, .int .i64 b, .int .i64 c]] w fun e w' => e = .returned (.tuple #[.int .i64 b, .int .i64 c]) ∧ Below w.heap.size w w' := by
  go_enter Try.func118, Try.ntmps118
  go_wp2
  go_region
  go_wp2
  refine bodyPost_ret (v := .tuple #[.int .i64 b, .int .i64 c]) (by simp [results, Try.results118, go_sem]) rfl ⟨rfl, ?_⟩
  exact Below.drew (below1 _ _)
theorem reach_box (k a b c d e : Int) (w : World) : Calls Try.prog 123 #[.agg #[.int .i64 k, .int .i64 a, .int .i64 b, .int .i64 c, .int .i64 d, .int .i64 e]] w fun e' w' => e' = .returned (.tuple #[.int .i64 b, .int .i64 c]) ∧ Below w.heap.size w w' := by
  go_enter Try.func123, Try.ntmps123
  go_wp2
  go_region
  go_wp2
  refine bodyPost_ret (v := .tuple #[.int .i64 b, .int .i64 c]) (by simp [results, Try.results123, go_sem]) rfl ⟨rfl, ?_⟩
  exact Below.drew (below1 _ _)

structure TallY (v : Value) (X : Nat) (p : Value) (K : Nat) (h d : Int) : Prop where
  is : v = .iface X p
  ta : ∀ W : World, (Instr.typeAssert (.iface X p) 64 161 true).run Try.prog W = .ok (.tuple #[.iface X p, .bool true]) W
  mh : ∀ W : World, (method 287 X p "loop.example/g00014/impl.reach").run Try.prog W = .ok (K, p) W
  fh : ∀ W : World, (callFunc K #[p]).run Try.prog W = .ok (.enter K #[p]) W
  ch : ∀ W : World, Calls Try.prog K #[p] W fun e w' => e = .returned (.tuple #[.int .i64 h, .int .i64 d]) ∧ Below W.heap.size W w'
structure TallN (v : Value) : Prop where
  ta : ∀ W : World, (Instr.typeAssert v 64 161 true).run Try.prog W = .ok (.tuple #[.nilIface, .bool false]) W
  sh : v = .nilIface ∨ ∃ X p, v = .iface X p
theorem tall_any (x : Nd) : (∃ X p K h d, TallY (thV x) X p K h d) ∨ TallN (thV x) := by
  obtain ⟨k, wd, ht, dp, sh, fo, ch, nn, gs, gp, gpo, gm, gmo, tx, kids⟩ := x
  by_cases hk : 1 ≤ k ∧ k ≤ 11
  · rcases kinds hk.1 hk.2 with rfl | rfl | rfl | rfl | rfl | rfl | rfl | rfl | rfl | rfl | rfl
    · exact .inr ⟨fun W => run_typeAssert_lacksB Try.underlying161 (by kernel_rfl) (by kernel_rfl) _ 64 W, .inr ⟨_, _, rfl⟩⟩
    · exact .inl ⟨115, .agg #[.int .i64 wd], 111, wd, 0, ⟨rfl, fun W => run_typeAssert_hasB Try.underlying161 (by kernel_rfl) _ 64 W, fun _ => by kernel_rfl, fun _ => by kernel_rfl, fun W => reach_kern wd W⟩⟩
    · exact .inr ⟨fun W => run_typeAssert_lacksB Try.underlying161 (by kernel_rfl) (by kernel_rfl) _ 64 W, .inr ⟨_, _, rfl⟩⟩
    · exact .inr ⟨fun W => run_typeAssert_lacksB Try.underlying161 (by kernel_rfl) (by kernel_rfl) _ 64 W, .inr ⟨_, _, rfl⟩⟩
    · exact .inl ⟨121, .agg #[.int .i64 wd, .int .i64 ht, .int .i64 dp], 118, ht, dp, ⟨rfl, fun W => run_typeAssert_hasB Try.underlying161 (by kernel_rfl) _ 64 W, fun _ => by kernel_rfl, fun _ => by kernel_rfl, fun W => reach_rule wd ht dp W⟩⟩
    · exact .inl ⟨123, .agg #[.int .i64 6, .int .i64 wd, .int .i64 ht, .int .i64 dp, .int .i64 sh, .int .i64 kids], 123, ht, dp, ⟨rfl, fun W => run_typeAssert_hasB Try.underlying161 (by kernel_rfl) _ 64 W, fun _ => by kernel_rfl, fun _ => by kernel_rfl, fun W => reach_box 6 wd ht dp sh kids W⟩⟩
    · exact .inl ⟨123, .agg #[.int .i64 7, .int .i64 wd, .int .i64 ht, .int .i64 dp, .int .i64 sh, .int .i64 kids], 123, ht, dp, ⟨rfl, fun W => run_typeAssert_hasB Try.underlying161 (by kernel_rfl) _ 64 W, fun _ => by kernel_rfl, fun _ => by kernel_rfl, fun W => reach_box 7 wd ht dp sh kids W⟩⟩
    · exact .inr ⟨fun W => run_typeAssert_lacksB Try.underlying161 (by kernel_rfl) (by kernel_rfl) _ 64 W, .inr ⟨_, _, rfl⟩⟩
    · exact .inr ⟨fun W => run_typeAssert_lacksB Try.underlying161 (by kernel_rfl) (by kernel_rfl) _ 64 W, .inr ⟨_, _, rfl⟩⟩
    · exact .inr ⟨fun W => run_typeAssert_lacksB Try.underlying161 (by kernel_rfl) (by kernel_rfl) _ 64 W, .inr ⟨_, _, rfl⟩⟩
    · exact .inr ⟨fun W => run_typeAssert_lacksB Try.underlying161 (by kernel_rfl) (by kernel_rfl) _ 64 W, .inr ⟨_, _, rfl⟩⟩
  · rw [thV_0 _ hk]; exact .inr ⟨fun W => by kernel_rfl, .inl rfl⟩
end Go.Proofs.Ytjagagbelpihbaa

namespace Go.Proofs.Ytjagagbelpihbaa
open Go.RowKit
set_option linter.unusedVariables false
set_option linter.unusedSimpArgs false

/-- The orders of a node's glue are ones. -/
def Ord (x : Nd) : Prop := 0 ≤ x.gpo ∧ x.gpo ≤ 3 ∧ 0 ≤ x.gmo ∧ x.gmo ≤ 3

set_option maxRecDepth 20000 in
set_option maxHeartbeats 8000000 in
theorem add_any {w : World} {B T m : Nat} (o : Nat) (x : Nd) (h : Ints w B T m) (ho : o + 10 ≤ m) (hx : Ord x) :
    Calls Try.prog 67 #[.pointer (some ⟨B, o, none⟩), thV x] w fun e w' => (∃ v, e = .returned v) ∧ Ints w' B T m ∧ Fr B w w' := by
  obtain ⟨s0, s1, s2, s3, s4, s5, hs, hse⟩ := ask_space x
  have hsh := thV_shape x
  have hta := tall_any x
  obtain ⟨z9, c9⟩ := h.cell (o + 9) (by omega)
  obtain ⟨z0, c0⟩ := h.cell o (by omega)
  have fz := h.free
  have hB := h.lt
  have e1 : ¬ o + 9 = o := by omega
  have e2 : ¬ o = o + 9 := by omega
  have HI := hideP h
  clear h
  obtain ⟨v, hv⟩ : ∃ v, v = thV x := ⟨_, rfl⟩
  rw [← hv] at hs hsh hta ⊢
  clear hv
  by_cases h3 : x.k = 3
  · rw [show (x.k == 3) = true by simp [h3]] at hs
    obtain ⟨rfl, rfl, rfl, rfl, rfl, rfl⟩ := hse h3
    obtain ⟨x1, x2, x3, x4⟩ := hx
    obtain ⟨pn, hpn⟩ : ∃ pn : Nat, x.gpo = (pn : Int) := ⟨x.gpo.toNat, by omega⟩
    obtain ⟨mn, hmn⟩ : ∃ mn : Nat, x.gmo = (mn : Int) := ⟨x.gmo.toNat, by omega⟩
    rw [hpn, hmn] at hs
    have GC : Hid (∀ W, Ints W B T m → Calls Try.prog 85 #[.pointer (some ⟨B, o, none⟩), .agg #[.int .i64 x.gs, .int .i64 x.gp, .int .i64 (pn : Int), .int .i64 x.gm, .int .i64 (mn : Int)]] W fun e w' => (∃ v, e = .returned v) ∧ Ints w' B T m ∧ Fr B W w') := hideP (fun W hW => addGlue_any o pn mn x.gs x.gp x.gm hW (by omega) (by omega) (by omega))
    clear hta hpn hmn x1 x2 x3 x4 h3 hse
    rcases hsh with rfl | ⟨X, q, rfl⟩
    all_goals
      go_enter Try.func67, Try.ntmps67
      go_wp2
      go_region_with (go_at_call 85; refine (GC.out _ (Ints.drew ((HI.out.set (o + 9) 0).alloc _))).mono ?_; rintro e w5 ⟨⟨vr, rfl⟩, hi5, hf5⟩; have HI5 := hideP hi5; have HF5 := hideP (Fr.trans (Fr.drew (((Fr.refl B w).set (o + 9) (.int .i64 0)).alloc _)) hf5); clear hi5 hf5)
      go_wp2
      go_end0
      exact ⟨⟨_, rfl⟩, HI5.out, HF5.out⟩
  · rw [show (x.k == 3) = false by simp [h3]] at hs
    rcases hta with ⟨X, p, K, hh, dd, TY⟩ | TN
    · obtain ⟨rfl, ta, mh, fh, ch⟩ := TY
      have CH := hideP ch
      clear ch hsh h3 hse
      go_enter Try.func67, Try.ntmps67
      go_wp2_with fail
      refine (CH.out _).mono ?_
      rintro e w5 ⟨rfl, hb5⟩
      have I5 : Ints w5 B T m := (HI.out.set (o + 9) 0).below hb5
      have HF5 : Hid (Fr B w w5) := hideP (((Fr.refl B w).set (o + 9) (.int .i64 0)).below hb5)
      clear c0 c9 fz hb5
      obtain ⟨y9, c9⟩ := I5.cell (o + 9) (by omega)
      obtain ⟨y0, c0⟩ := I5.cell o (by omega)
      have fz := I5.free
      have hB5 := I5.lt
      have HI5 := hideP I5
      clear I5
      go_wp2
      go_end0
      refine ⟨⟨_, rfl⟩, ?_, ?_⟩
      · have HI2 := HI5.out
        repeat (first | with_reducible exact HI2 | with_reducible refine Ints.set ?_ _ _ | with_reducible refine Ints.alloc ?_ _ | with_reducible refine Ints.drew ?_)
      · have HF2 := HF5.out
        repeat (first | with_reducible exact HF2 | with_reducible refine Fr.set ?_ _ _ | with_reducible refine Fr.alloc ?_ _ | with_reducible refine Fr.drew ?_)
    · obtain ⟨ta, _⟩ := TN
      clear h3 hse
      rcases hsh with rfl | ⟨X, q, rfl⟩
      all_goals
        go_enter Try.func67, Try.ntmps67
        go_wp2
        go_end0
        refine ⟨⟨_, rfl⟩, ?_, ?_⟩
        · have HI2 := HI.out
          repeat (first | with_reducible exact HI2 | with_reducible refine Ints.set ?_ _ _ | with_reducible refine Ints.alloc ?_ _ | with_reducible refine Ints.drew ?_)
        · repeat (first | with_reducible exact Fr.refl _ _ | with_reducible refine Fr.set ?_ _ _ | with_reducible refine Fr.alloc ?_ _ | with_reducible refine Fr.drew ?_)
end Go.Proofs.Ytjagagbelpihbaa
