/-
  Where a line may end: the program's turns.
-/
import Derived.Test.YtdgfnceipginkaaItx
import Derived.Test.YtdgfnceipginkaaItf
namespace Go.Proofs.Ytdgfnceipginkaa
open Go.RowKit
set_option linter.unusedVariables false
set_option linter.unusedSimpArgs false

theorem room_letter (f h a b c : Int) (w : World) : Calls Try.prog 90 #[.agg #[.int .i64 f, .int .i64 h, .int .i64 a, .int .i64 b, .int .i64 c]] w fun r w' => r = .returned (.int .i64 a) ∧ Below w.heap.size w w' := by
  go_enter Try.func90, Try.ntmps90
  go_wp2
  go_ret
  first | exact ⟨rfl, below1 _ _⟩ | exact ⟨rfl, Below.refl _ _⟩ | exact ⟨rfl, Below.drew (below1 _ _)⟩
theorem room_kern (a : Int) (w : World) : Calls Try.prog 98 #[.agg #[.int .i64 a]] w fun r w' => r = .returned (.int .i64 a) ∧ Below w.heap.size w w' := by
  go_enter Try.func98, Try.ntmps98
  go_wp2
  go_ret
  first | exact ⟨rfl, below1 _ _⟩ | exact ⟨rfl, Below.refl _ _⟩ | exact ⟨rfl, Below.drew (below1 _ _)⟩
theorem room_rule (a b c : Int) (w : World) : Calls Try.prog 101 #[.agg #[.int .i64 a, .int .i64 b, .int .i64 c]] w fun r w' => r = .returned (.int .i64 a) ∧ Below w.heap.size w w' := by
  go_enter Try.func101, Try.ntmps101
  go_wp2
  go_ret
  first | exact ⟨rfl, below1 _ _⟩ | exact ⟨rfl, Below.refl _ _⟩ | exact ⟨rfl, Below.drew (below1 _ _)⟩
theorem room_box (k a b c d e : Int) (w : World) : Calls Try.prog 105 #[.agg #[.int .i64 k, .int .i64 a, .int .i64 b, .int .i64 c, .int .i64 d, .int .i64 e]] w fun r w' => r = .returned (.int .i64 a) ∧ Below w.heap.size w w' := by
  go_enter Try.func105, Try.ntmps105
  go_wp2
  go_ret
  first | exact ⟨rfl, below1 _ _⟩ | exact ⟨rfl, Below.refl _ _⟩ | exact ⟨rfl, Below.drew (below1 _ _)⟩
structure SolY (v : Value) (X : Nat) (p : Value) (K : Nat) (h : Int) : Prop where
  is : v = .iface X p
  ta : ∀ W : World, (Instr.typeAssert (.iface X p) 70 140 true).run Try.prog W = .ok (.tuple #[.iface X p, .bool true]) W
  mh : ∀ W : World, (method 263 X p "loop.example/g00014/impl.room").run Try.prog W = .ok (K, p) W
  fh : ∀ W : World, (callFunc K #[p]).run Try.prog W = .ok (.enter K #[p]) W
  ch : ∀ W : World, Calls Try.prog K #[p] W fun e w' => e = .returned (.int .i64 h) ∧ Below W.heap.size W w'
structure SolN (v : Value) : Prop where
  ta : ∀ W : World, (Instr.typeAssert v 70 140 true).run Try.prog W = .ok (.tuple #[.nilIface, .bool false]) W
  sh : v = .nilIface ∨ ∃ X p, v = .iface X p
theorem sol_any (x : Nd) : (∃ X p K h, SolY (thV x) X p K h) ∨ SolN (thV x) := by
  obtain ⟨k, wd, ht, dp, sh, fo, ch, nn, gs, gp, gpo, gm, gmo, tx, kids⟩ := x
  by_cases hk : 1 ≤ k ∧ k ≤ 11
  · rcases kinds hk.1 hk.2 with rfl | rfl | rfl | rfl | rfl | rfl | rfl | rfl | rfl | rfl | rfl
    · exact .inl ⟨97, .agg #[.int .i64 fo, .int .i64 ch, .int .i64 wd, .int .i64 ht, .int .i64 dp], 90, wd, ⟨rfl, fun W => run_typeAssert_hasB Try.underlying140 (by kernel_rfl) _ 70 W, fun _ => by kernel_rfl, fun _ => by kernel_rfl, fun W => room_letter fo ch wd ht dp W⟩⟩
    · exact .inl ⟨128, .agg #[.int .i64 wd], 98, wd, ⟨rfl, fun W => run_typeAssert_hasB Try.underlying140 (by kernel_rfl) _ 70 W, fun _ => by kernel_rfl, fun _ => by kernel_rfl, fun W => room_kern wd W⟩⟩
    · exact .inr ⟨fun W => run_typeAssert_lacksB Try.underlying140 (by kernel_rfl) (by kernel_rfl) _ 70 W, .inr ⟨_, _, rfl⟩⟩
    · exact .inr ⟨fun W => run_typeAssert_lacksB Try.underlying140 (by kernel_rfl) (by kernel_rfl) _ 70 W, .inr ⟨_, _, rfl⟩⟩
    · exact .inl ⟨130, .agg #[.int .i64 wd, .int .i64 ht, .int .i64 dp], 101, wd, ⟨rfl, fun W => run_typeAssert_hasB Try.underlying140 (by kernel_rfl) _ 70 W, fun _ => by kernel_rfl, fun _ => by kernel_rfl, fun W => room_rule wd ht dp W⟩⟩
    · exact .inl ⟨132, .agg #[.int .i64 6, .int .i64 wd, .int .i64 ht, .int .i64 dp, .int .i64 sh, .int .i64 kids], 105, wd, ⟨rfl, fun W => run_typeAssert_hasB Try.underlying140 (by kernel_rfl) _ 70 W, fun _ => by kernel_rfl, fun _ => by kernel_rfl, fun W => room_box 6 wd ht dp sh kids W⟩⟩
    · exact .inl ⟨132, .agg #[.int .i64 7, .int .i64 wd, .int .i64 ht, .int .i64 dp, .int .i64 sh, .int .i64 kids], 105, wd, ⟨rfl, fun W => run_typeAssert_hasB Try.underlying140 (by kernel_rfl) _ 70 W, fun _ => by kernel_rfl, fun _ => by kernel_rfl, fun W => room_box 7 wd ht dp sh kids W⟩⟩
    · exact .inr ⟨fun W => run_typeAssert_lacksB Try.underlying140 (by kernel_rfl) (by kernel_rfl) _ 70 W, .inr ⟨_, _, rfl⟩⟩
    · exact .inr ⟨fun W => run_typeAssert_lacksB Try.underlying140 (by kernel_rfl) (by kernel_rfl) _ 70 W, .inr ⟨_, _, rfl⟩⟩
    · exact .inr ⟨fun W => run_typeAssert_lacksB Try.underlying140 (by kernel_rfl) (by kernel_rfl) _ 70 W, .inr ⟨_, _, rfl⟩⟩
    · exact .inr ⟨fun W => run_typeAssert_lacksB Try.underlying140 (by kernel_rfl) (by kernel_rfl) _ 70 W, .inr ⟨_, _, rfl⟩⟩
  · rw [thV_0 _ hk]; exact .inr ⟨fun W => by kernel_rfl, .inl rfl⟩

set_option maxRecDepth 20000 in
set_option maxHeartbeats 8000000 in
theorem madd_any {w : World} {B T m : Nat} (o : Nat) (x : Nd) (h : Ints w B T m) (ho : o + 9 ≤ m) (hx : Ord x) :
    Calls Try.prog 53 #[.pointer (some ⟨B, o, none⟩), thV x] w fun e w' => (∃ v, e = .returned v) ∧ Ints w' B T m ∧ Fr B w w' := by
  obtain ⟨s0, s1, s2, s3, s4, s5, hs, hse⟩ := ask_space x
  have hsh := thV_shape x
  have hta := sol_any x
  obtain ⟨z0, c0⟩ := h.cell o (by omega)
  have fz := h.free
  have hB := h.lt
  have HI := hideP h
  clear h
  obtain ⟨v, hv⟩ : ∃ v, v = thV x := ⟨_, rfl⟩
  rw [← hv] at hs hsh hta ⊢
  clear hv
  by_cases h3 : x.k = 3
  · rw [show (x.k == 3) = true by simp [h3]] at hs
    obtain ⟨rfl, rfl, rfl, rfl, rfl, rfl⟩ := hse h3
    obtain ⟨x1, x2, x3, x4⟩ := hx
    obtain ⟨pn, hpn⟩ : ∃ pn : Nat, x.gpo = (pn : Int) := ⟨x.gpo.toNat, by omega⟩
    obtain ⟨mn, hmn⟩ : ∃ mn : Nat, x.gmo = (mn : Int) := ⟨x.gmo.toNat, by omega⟩
    rw [hpn, hmn] at hs
    have GC : Hid (∀ W, Ints W B T m → Calls Try.prog 66 #[.pointer (some ⟨B, o, none⟩), .agg #[.int .i64 x.gs, .int .i64 x.gp, .int .i64 (pn : Int), .int .i64 x.gm, .int .i64 (mn : Int)]] W fun e w' => (∃ v, e = .returned v) ∧ Ints w' B T m ∧ Fr B W w') := hideP (fun W hW => addGlue_any o pn mn x.gs x.gp x.gm hW (by omega) (by omega) (by omega))
    clear hta hpn hmn x1 x2 x3 x4 h3 hse
    rcases hsh with rfl | ⟨X, q, rfl⟩
    all_goals
      go_enter Try.func53, Try.ntmps53
      go_wp2_with fail
      refine (GC.out _ (by first | exact HI.out.alloc _ | exact Ints.drew (HI.out.alloc _))).mono ?_
      rintro e w5 ⟨⟨vr, rfl⟩, hi5, hf5⟩
      have HI5 := hideP hi5
      have HF5 : Hid (Fr B w w5) := hideP (Fr.trans (by first | exact (Fr.refl B w).alloc _ | exact Fr.drew ((Fr.refl B w).alloc _)) hf5)
      clear hi5 hf5
      go_wp2
      go_end0
      exact ⟨⟨_, rfl⟩, HI5.out, HF5.out⟩
  · rw [show (x.k == 3) = false by simp [h3]] at hs
    rcases hta with ⟨X, p, K, hh, TY⟩ | TN
    · obtain ⟨rfl, ta, mh, fh, ch⟩ := TY
      have CH := hideP ch
      clear ch hsh h3 hse
      go_enter Try.func53, Try.ntmps53
      go_wp2_with fail
      go_region_with (first | (refine (CH.out _).mono ?_; rintro e w5 ⟨rfl, hb5⟩; have c5 : w5.cell? ⟨B, o, none⟩ = some (.int .i64 z0) := (hb5.cell (p := ⟨B, o, none⟩) hB).trans c0; have I5 : Hid (Ints w5 B T m) := hideP (Ints.below (Ints.drew HI.out) hb5); have f5 : w5.frozen? ⟨B, o, none⟩ = false := I5.out.free o; have F5 : Hid (Fr B w w5) := hideP ((Fr.drew (Fr.refl B w)).below hb5); have hB5 : B < w5.heap.size := I5.out.lt; clear hb5))
      all_goals
       go_wp2
       go_end0
       refine ⟨⟨_, rfl⟩, ?_, ?_⟩
       · have HI2 := I5.out
         repeat (first | with_reducible exact HI2 | with_reducible refine Ints.set ?_ _ _ | with_reducible refine Ints.alloc ?_ _ | with_reducible refine Ints.drew ?_)
       · have HF2 := F5.out
         repeat (first | with_reducible exact HF2 | with_reducible refine Fr.set ?_ _ _ | with_reducible refine Fr.alloc ?_ _ | with_reducible refine Fr.drew ?_)
    · obtain ⟨ta, _⟩ := TN
      clear h3 hse
      rcases hsh with rfl | ⟨X, q, rfl⟩
      all_goals
        go_enter Try.func53, Try.ntmps53
        go_wp2
        go_end0
        refine ⟨⟨_, rfl⟩, ?_, ?_⟩
        · have HI2 := HI.out
          repeat (first | with_reducible exact HI2 | with_reducible refine Ints.set ?_ _ _ | with_reducible refine Ints.alloc ?_ _ | with_reducible refine Ints.drew ?_)
        · repeat (first | with_reducible exact Fr.refl _ _ | with_reducible refine Fr.set ?_ _ _ | with_reducible refine Fr.alloc ?_ _ | with_reducible refine Fr.drew ?_)

theorem heap_alloc_new2 (w : World) (a b : Obj) : ((w.alloc a).alloc b).heap[w.heap.size + 1]? = some b := by
  have h := heap_alloc_new (w.alloc a) b
  rwa [show (w.alloc a).heap.size = w.heap.size + 1 by simp] at h
theorem ask_hyph (x : Nd) : ∃ c0 c1 c2 c3 c4 : Int, (∀ W : World, (Instr.typeAssert (thV x) 70 99 true).run Try.prog W = .ok (.tuple #[.agg #[.int .i64 c0, .int .i64 c1, .int .i64 c2, .int .i64 c3, .int .i64 c4], .bool (x.k == 8)]) W) ∧ (x.k = 8 → c0 = x.fo ∧ c1 = x.ch ∧ c2 = x.wd ∧ c3 = x.ht ∧ c4 = x.dp) := by
  obtain ⟨k, wd, ht, dp, sh, fo, ch, nn, gs, gp, gpo, gm, gmo, tx, kids⟩ := x
  by_cases hk : 1 ≤ k ∧ k ≤ 11
  · rcases kinds hk.1 hk.2 with rfl | rfl | rfl | rfl | rfl | rfl | rfl | rfl | rfl | rfl | rfl
    · exact ⟨0, 0, 0, 0, 0, fun _ => by kernel_rfl, fun h => by simp at h⟩
    · exact ⟨0, 0, 0, 0, 0, fun _ => by kernel_rfl, fun h => by simp at h⟩
    · exact ⟨0, 0, 0, 0, 0, fun _ => by kernel_rfl, fun h => by simp at h⟩
    · exact ⟨0, 0, 0, 0, 0, fun _ => by kernel_rfl, fun h => by simp at h⟩
    · exact ⟨0, 0, 0, 0, 0, fun _ => by kernel_rfl, fun h => by simp at h⟩
    · exact ⟨0, 0, 0, 0, 0, fun _ => by kernel_rfl, fun h => by simp at h⟩
    · exact ⟨0, 0, 0, 0, 0, fun _ => by kernel_rfl, fun h => by simp at h⟩
    · exact ⟨fo, ch, wd, ht, dp, fun _ => by kernel_rfl, fun _ => ⟨rfl, rfl, rfl, rfl, rfl⟩⟩
    · exact ⟨0, 0, 0, 0, 0, fun _ => by kernel_rfl, fun h => by simp at h⟩
    · exact ⟨0, 0, 0, 0, 0, fun _ => by kernel_rfl, fun h => by simp at h⟩
    · exact ⟨0, 0, 0, 0, 0, fun _ => by kernel_rfl, fun h => by simp at h⟩
  · exact ⟨0, 0, 0, 0, 0, fun _ => by rw [thV_0 _ hk, show (k == 8) = false by simp; omega]; kernel_rfl, fun h => absurd (show 1 ≤ k ∧ k ≤ 11 by have h2 : k = 8 := h; omega) hk⟩

/-- Whether a line may end at an item. -/
def trnB (ys : List It) (a : Nat) : Bool := (ys.getD a It.none).1.k == 8 || brkB ys a

/-- What it costs to end a line at an item. -/
def trnC (hy : Int) (ys : List It) (a : Nat) : Int := if (ys.getD a It.none).1.k = 8 then hy else brkC ys a
/-- What a turn shows: a hyphen's letter, in a block of its own. -/
def ShowN (x : Nd) (q : Option Addr) (W : World) : Prop := if x.k = 8 then ∃ b, q = some ⟨b, 0, none⟩ ∧ W.heap[b]? = some (.cells #[.int .i64 x.fo, .int .i64 x.ch, .int .i64 x.wd, .int .i64 x.ht, .int .i64 x.dp] 99 (0, 0)) else q = none
/-- What stands in blocks of that type stays. -/
def KeepH (w w' : World) : Prop := ∀ (b : Nat) (cs : Array Value), w.heap[b]? = some (.cells cs 99 (0, 0)) → w'.heap[b]? = some (.cells cs 99 (0, 0))
theorem KeepH.refl (w : World) : KeepH w w := fun _ _ h => h
theorem KeepH.trans {a b c : World} (h : KeepH a b) (g : KeepH b c) : KeepH a c := fun x cs e => g x cs (h x cs e)
theorem KeepH.below {w w' : World} (h : Below w.heap.size w w') : KeepH w w' := fun b cs e => (h.block b (Array.getElem?_eq_some_iff.1 e).1).trans e
theorem ShowN.keep {x : Nd} {q : Option Addr} {w w' : World} (h : ShowN x q w) (hk : KeepH w w') : ShowN x q w' := by
  unfold ShowN at h ⊢
  by_cases hx : x.k = 8
  · rw [if_pos hx] at h ⊢
    obtain ⟨b, h1, h2⟩ := h
    exact ⟨b, h1, hk _ _ h2⟩
  · rw [if_neg hx] at h ⊢
    exact h

set_option maxRecDepth 20000 in
set_option maxHeartbeats 8000000 in
theorem turnAt_any {w : World} {PB B cap n : Nat} {ys : List It} {z5 : Int} (a : Nat) (h24 : w.cell? ⟨PB, 24, none⟩ = some (.slice (some ⟨B, 0, none⟩) n cap)) (h5 : w.cell? ⟨PB, 5, none⟩ = some (.int .i64 z5)) (h : ItR w B ys) (hl : ys.length = n) (hB : B < w.heap.size) (ha : a < n) (hn : n ≤ 20003) (hn2 : n ≤ 20000) :
    Calls Try.prog 54 #[.pointer (some ⟨PB, 0, none⟩), .int .i64 (a : Int)] w fun e w' => (∃ (q : Option Addr), e = .returned (.tuple #[.agg #[.int .i64 (a : Int), .int .i64 (trnC z5 ys a), .pointer q, .int .i64 0], .bool (trnB ys a)]) ∧ ShowN (ys.getD a It.none).1 q w') ∧ Below w.heap.size w w' := by
  have ha' : a < ys.length := by omega
  have hai : (a : Int) < (n : Int) := by omega
  have hPB : PB < w.heap.size := World.block_lt_of_cell? w _ h24
  have g0 := h.c0 a ha'
  have g1 := h.c1 a ha'
  have g2 := h.c2 a ha'
  obtain ⟨x, hx⟩ : ∃ x, x = (ys.getD a It.none).1 := ⟨_, rfl⟩
  rw [← hx] at g0
  obtain ⟨c0, c1, c2, c3, c4, hs, hcc⟩ := ask_hyph x
  have hsh := thV_shape x
  have BC : Hid (∀ W, Below w.heap.size w W → Calls Try.prog 67 #[.slice (some ⟨B, 0, none⟩) n cap, .int .i64 (a : Int)] W fun e w' => e = .returned (.tuple #[.int .i64 (brkC ys a), .bool (brkB ys a)]) ∧ Below W.heap.size W w') := hideP (fun W hW => breakAt_any a (h.block (hW.block B hB)) hl (Nat.lt_of_lt_of_le hB hW.size) ha hn2)
  obtain ⟨R, hR⟩ : ∃ R, R = trnB ys a := ⟨_, rfl⟩
  rw [← hR]
  have HR : Hid (R = (x.k == 8 || brkB ys a)) := hideP (by rw [hR, hx]; rfl)
  obtain ⟨bb, hbb⟩ : ∃ b, b = brkB ys a := ⟨_, rfl⟩
  rw [← hbb] at BC HR
  obtain ⟨cb, hcb⟩ : ∃ b, b = brkC ys a := ⟨_, rfl⟩
  rw [← hcb] at BC
  obtain ⟨ct, hct⟩ : ∃ b, b = trnC z5 ys a := ⟨_, rfl⟩
  rw [← hct]
  unfold trnC at hct
  rw [← hx, ← hcb] at hct
  have HCT := hideP hct
  clear hcb hct
  have HSHOW : Hid (∀ W' : World, (x.k = 8 → W'.heap[w.heap.size + 1]? = some (.cells #[.int .i64 c0, .int .i64 c1, .int .i64 c2, .int .i64 c3, .int .i64 c4] 99 (0, 0))) → ShowN (ys.getD a It.none).1 (if x.k = 8 then some ⟨w.heap.size + 1, 0, none⟩ else none) W') := hideP (fun W' h8 => by
    rw [← hx]
    unfold ShowN
    split
    · rename_i hk
      obtain ⟨rfl, rfl, rfl, rfl, rfl⟩ := hcc hk
      exact ⟨_, rfl, h8 hk⟩
    · rfl)
  obtain ⟨yy, hyy⟩ : ∃ yy, yy = (ys.getD a It.none).1 := ⟨_, rfl⟩
  rw [← hyy] at HSHOW
  rw [← hyy]
  clear hyy hcc
  obtain ⟨v, hv⟩ : ∃ v, v = thV x := ⟨_, rfl⟩
  rw [← hv] at hs hsh g0
  clear hv hR hbb h hl
  by_cases h8 : x.k = 8
  · rw [show (x.k == 8) = true by simp [h8]] at hs HR
    have HE : Hid (R = true) := hideP (by rw [HR.out]; rfl)
    have HCE : Hid (ct = z5) := hideP (by rw [HCT.out, if_pos h8])
    have HSW : Hid (∀ W' : World, (W'.heap[w.heap.size + 1]? = some (.cells #[.int .i64 c0, .int .i64 c1, .int .i64 c2, .int .i64 c3, .int .i64 c4] 99 (0, 0))) → ShowN yy (some ⟨w.heap.size + 1, 0, none⟩) W') := hideP (fun W' hW => by
      have h := HSHOW.out W' (fun _ => hW)
      rw [if_pos h8] at h
      exact h)
    clear hx h8 HR BC HSHOW HCT
    rcases hsh with rfl | ⟨X, q, rfl⟩
    all_goals
      go_enter Try.func54, Try.ntmps54
      go_wp2
      refine bodyPost_ret (v := .tuple #[.agg #[.int .i64 (a : Int), .int .i64 z5, .pointer (some ⟨w.heap.size + 1, 0, none⟩), .int .i64 0], .bool true]) (by simp [results, Try.results54, go_sem]) rfl ⟨⟨_, by rw [HE.out, HCE.out], HSW.out _ ?_⟩, ?_⟩
      · first | exact (heap_alloc_new2 w _ _) | exact (show _ from heap_alloc_new2 w _ _)
      · first | exact below2 _ _ _ | exact Below.drew (below2 _ _ _)
  · rw [show (x.k == 8) = false by simp [h8]] at hs HR
    have HE : Hid (R = bb) := hideP (by rw [HR.out]; rfl)
    have HCE : Hid (ct = cb) := hideP (by rw [HCT.out, if_neg h8])
    have HSW : Hid (∀ W' : World, ShowN yy none W') := hideP (fun W' => by
      have h := HSHOW.out W' (fun h => absurd h h8)
      rw [if_neg h8] at h
      exact h)
    clear hx h8 HR HSHOW HCT
    rcases hsh with rfl | ⟨X, q, rfl⟩
    all_goals
      go_enter Try.func54, Try.ntmps54
      go_wp2_with fail
      refine (BC.out _ (below2 _ _ _)).mono ?_
      rintro e w5 ⟨rfl, hb5⟩
      have B5 : Hid (Below w.heap.size w w5) := hideP (below_more (below2 _ _ _) hb5 (by simp; omega))
      have hq : w5.heap[w.heap.size]? = some (.cells #[.int .i64 0, .int .i64 0, .pointer none, .int .i64 0] 87 (0, 0)) := (hb5.block _ (by simp; omega)).trans (((below1 (w.alloc _) _).block _ (by simp)).trans (heap_alloc_new _ _))
      have t0 : w5.cell? ⟨w.heap.size, 0, none⟩ = some (.int .i64 0) := by rw [cell_of_row w5 _ _ _ _ _ hq]; rfl
      have t1 : w5.cell? ⟨w.heap.size, 1, none⟩ = some (.int .i64 0) := by rw [cell_of_row w5 _ _ _ _ _ hq]; rfl
      have t2 : w5.cell? ⟨w.heap.size, 2, none⟩ = some (.pointer none) := by rw [cell_of_row w5 _ _ _ _ _ hq]; rfl
      have t3 : w5.cell? ⟨w.heap.size, 3, none⟩ = some (.int .i64 0) := by rw [cell_of_row w5 _ _ _ _ _ hq]; rfl
      have tf : ∀ o, w5.frozen? ⟨w.heap.size, o, none⟩ = false := fun o => by rw [World.frozen?, hq]; rfl
      have hsz : w.heap.size < w5.heap.size := (Array.getElem?_eq_some_iff.1 hq).1
      have HQ := hideP hq
      clear hq hb5
      go_wp2
      obtain ⟨W6, hW6⟩ : ∃ W6, W6 = putC w5 w.heap.size 0 [.int .i64 (a : Int), .int .i64 cb, .pointer none, .int .i64 0] := ⟨_, rfl⟩
      have B6 : Below w.heap.size w W6 := by rw [hW6]; exact putC_below (Nat.le_refl _) _ _ _ B5.out
      obtain ⟨cur, q1, q2, _, q4⟩ := putC_block [.int .i64 (a : Int), .int .i64 cb, .pointer none, .int .i64 0] 0 w5 _ HQ.out (by simp)
      rw [← hW6] at q1
      simp only [putC] at hW6
      rw [← hW6]
      have y0 : W6.cell? ⟨w.heap.size, 0, none⟩ = some (.int .i64 (a : Int)) := by rw [cell_of_row W6 _ _ _ _ _ q1]; exact q4 0 (by simp)
      have y1 : W6.cell? ⟨w.heap.size, 1, none⟩ = some (.int .i64 cb) := by rw [cell_of_row W6 _ _ _ _ _ q1]; exact q4 1 (by simp)
      have y2 : W6.cell? ⟨w.heap.size, 2, none⟩ = some (.pointer none) := by rw [cell_of_row W6 _ _ _ _ _ q1]; exact q4 2 (by simp)
      have y3 : W6.cell? ⟨w.heap.size, 3, none⟩ = some (.int .i64 0) := by rw [cell_of_row W6 _ _ _ _ _ q1]; exact q4 3 (by simp)
      exact bodyPost_ret (v := .tuple #[.agg #[.int .i64 (a : Int), .int .i64 cb, .pointer none, .int .i64 0], .bool bb]) (by simp [results, Try.results54, go_sem, y0, y1, y2, y3]) rfl ⟨⟨_, by rw [HE.out, HCE.out], HSW.out _⟩, B6⟩
end Go.Proofs.Ytdgfnceipginkaa
