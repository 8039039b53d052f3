import Derived.Test.YtlohbaoigfaneaaGreatNod
import Derived.Deep.RegionWith
import Derived.Deep.RegionHeld3
import Derived.Test.YtlohbaoigfaneaaGreatPur
import Derived.WalkSmall
namespace Go.Proofs.YtlohbaoigfaneaaGreat
open Go.RowKit
set_option linter.unusedVariables false
set_option linter.unusedSimpArgs false
def Nd.none : Nd := ⟨0, 0, 0, 0, 0, 0, 0, 0, 0, 0, 0, 0, 0, ⟨#[]⟩, 0⟩
def NdR (lo : Nat) (w : World) (cs : List Value) (x : Nd) : Prop := cs = x.cells
theorem ndStable : Stable NdR where
 abv := fun h _ => h
 mono := fun h _ => h
abbrev NRow (lo : Nat) (w : World) (v : Value) (xs : List Nd) : Prop := SRow 15 NdR Nd.none lo w v xs
def FnN (x : Nd) : Prop := x.tx.size ≤ 9223372036854775807
def SmN (x : Nd) : Prop := x.tx.size ≤ 1048576
set_option maxHeartbeats 4000000 in
theorem szNodeS_any {v : Value} {xs : List Nd} {w : World} {l : Int} (h : NRow 0 w v xs) (hf : xs.length ≤ 9223372036854775807 ∧ ∀ i, i < xs.length → FnN (xs.getD i Nd.none)) (hl0 : 0 ≤ l) (hl1 : l ≤ 1048576) :
 Calls Tryz.prog 6 #[v, .int .i64 l] w fun e w' => (∃ m : Int, e = .returned (.int .i64 m) ∧ m ≤ l ∧ (0 ≤ m → xs.length ≤ 1048576 ∧ ∀ i, i < xs.length → SmN (xs.getD i Nd.none))) ∧ Below w.heap.size w w' := by
 obtain ⟨ao, n, cap, rfl, hl, hr⟩ := h
 have hn : n ≤ 9223372036854775807 := by rw [← hl]; exact hf.1
 by_cases hbig : l - (n : Int) < 0
 ·go_enter Tryz.func6, Tryz.ntmps6
  go_wp2
  go_ret
  exact ⟨⟨-1, rfl, by omega, fun h => by omega⟩, Below.refl _ _⟩
 ·have HR : Hid (0 < n → ∃ b off, ao = some ⟨b, off, none⟩ ∧ 0 ≤ b ∧ b < w.heap.size ∧ ∀ i, i < n → ∃ cs : List Value, cs.length = 15 ∧ NdR 0 w cs (xs.getD i Nd.none) ∧ ∀ j, j < 15 → w.cell? ⟨b, off + i * 15 + j, none⟩ = cs[j]?) := hr
  have HS : Hid (∀ i, i < xs.length → FnN (xs.getD i Nd.none)) := hf.2
  have HL : Hid (xs.length = n) := hl
  clear hr hf hl
  go_enter Tryz.func6, Tryz.ntmps6
  go_wp2
  go_loopw [1, 5] (fun s i wr => ∃ (k : Nat) (m : Int), k ≤ n ∧ i = .int .i64 k ∧ s = .int .i64 m ∧ 0 ≤ m ∧ m ≤ l ∧ Hid (∀ i, i < k → SmN (xs.getD i Nd.none)) ∧ Below w.heap.size w wr)
   (fun _ i _ => n - (intOf i).toNat)
  case atStart => exact ⟨0, l - n, by omega, rfl, rfl, by omega, by omega, fun i hi => absurd hi (by omega), Below.refl _ _⟩
  case round =>
   obtain ⟨k, m, hk, rfl, rfl, hm0, hm1, HM, hbel⟩ := hrel
   by_cases hkn : k < n
   ·have hki : (k : Int) < (n : Int) := by omega
    obtain ⟨b, off, rfl, hlo, hb, hc⟩ := HR (by omega)
    have hfk : FnN (xs.getD k Nd.none) := HS k (by rw [show xs.length = n from HL]; exact hkn)
    obtain ⟨cs, hcl, hRel, hcj⟩ := hc k hkn
    obtain ⟨t, ht⟩ : ∃ t, t = xs.getD k Nd.none := ⟨_, rfl⟩
    rw [← ht] at hRel hfk
    have HT : Hid (t = xs.getD k Nd.none) := ht
    have HC : Hid (∀ (l : Int) (w : World), 0 ≤ l → l ≤ 1048576 → Calls Tryz.prog 19 #[ndV t, .int .i64 l] w fun r w' => (∃ m : Int, r = .returned (.int .i64 m) ∧ m ≤ l ∧ (0 ≤ m → SmN t)) ∧ Below w.heap.size w w') := hideP (fun l w a b => szNode_any t l w a b hfk)
    obtain ⟨kd, wd, hh, dp, sh, fo, ch, nn, gs, gp, gpo, gm, gmo, tx, kids⟩ := t
    rw [show cs = _ from hRel] at hcj
    simp only [Nd.cells] at hcj
    have g0 : wr.cell? ⟨b, off + k * 15, none⟩ = some (.int .i64 kd) := (hbel.cell (p := ⟨b, off + k * 15, none⟩) hb).trans (hcj 0 (by omega))
    have g1 : wr.cell? ⟨b, off + k * 15 + 1, none⟩ = some (.int .i64 wd) := (hbel.cell (p := ⟨b, off + k * 15 + 1, none⟩) hb).trans (hcj 1 (by omega))
    have g2 : wr.cell? ⟨b, off + k * 15 + 2, none⟩ = some (.int .i64 hh) := (hbel.cell (p := ⟨b, off + k * 15 + 2, none⟩) hb).trans (hcj 2 (by omega))
    have g3 : wr.cell? ⟨b, off + k * 15 + 3, none⟩ = some (.int .i64 dp) := (hbel.cell (p := ⟨b, off + k * 15 + 3, none⟩) hb).trans (hcj 3 (by omega))
    have g4 : wr.cell? ⟨b, off + k * 15 + 4, none⟩ = some (.int .i64 sh) := (hbel.cell (p := ⟨b, off + k * 15 + 4, none⟩) hb).trans (hcj 4 (by omega))
    have g5 : wr.cell? ⟨b, off + k * 15 + 5, none⟩ = some (.int .i64 fo) := (hbel.cell (p := ⟨b, off + k * 15 + 5, none⟩) hb).trans (hcj 5 (by omega))
    have g6 : wr.cell? ⟨b, off + k * 15 + 6, none⟩ = some (.int .i64 ch) := (hbel.cell (p := ⟨b, off + k * 15 + 6, none⟩) hb).trans (hcj 6 (by omega))
    have g7 : wr.cell? ⟨b, off + k * 15 + 7, none⟩ = some (.int .i64 nn) := (hbel.cell (p := ⟨b, off + k * 15 + 7, none⟩) hb).trans (hcj 7 (by omega))
    have g8 : wr.cell? ⟨b, off + k * 15 + 8, none⟩ = some (.int .i64 gs) := (hbel.cell (p := ⟨b, off + k * 15 + 8, none⟩) hb).trans (hcj 8 (by omega))
    have g9 : wr.cell? ⟨b, off + k * 15 + 9, none⟩ = some (.int .i64 gp) := (hbel.cell (p := ⟨b, off + k * 15 + 9, none⟩) hb).trans (hcj 9 (by omega))
    have g10 : wr.cell? ⟨b, off + k * 15 + 10, none⟩ = some (.int .i64 gpo) := (hbel.cell (p := ⟨b, off + k * 15 + 10, none⟩) hb).trans (hcj 10 (by omega))
    have g11 : wr.cell? ⟨b, off + k * 15 + 11, none⟩ = some (.int .i64 gm) := (hbel.cell (p := ⟨b, off + k * 15 + 11, none⟩) hb).trans (hcj 11 (by omega))
    have g12 : wr.cell? ⟨b, off + k * 15 + 12, none⟩ = some (.int .i64 gmo) := (hbel.cell (p := ⟨b, off + k * 15 + 12, none⟩) hb).trans (hcj 12 (by omega))
    have g13 : wr.cell? ⟨b, off + k * 15 + 13, none⟩ = some (.string tx) := (hbel.cell (p := ⟨b, off + k * 15 + 13, none⟩) hb).trans (hcj 13 (by omega))
    have g14 : wr.cell? ⟨b, off + k * 15 + 14, none⟩ = some (.int .i64 kids) := (hbel.cell (p := ⟨b, off + k * 15 + 14, none⟩) hb).trans (hcj 14 (by omega))
    have HB : Hid (Below w.heap.size w wr) := hbel
    clear hc hcj hcl hbel ht hfk hRel
    go_wp2_with fail
    refine (HC.out _ _ hm0 (by omega)).mono ?_
    rintro e w2 ⟨⟨m2, rfl, hm2l, hm2⟩, hb1⟩
    have B2 : Hid (Below w.heap.size w w2) := below_more HB hb1 (Below.size HB)
    have HM2 := hideP hm2
    clear hb1 hm2
    by_cases hneg : m2 < 0
    ·go_wp2
     go_ret
     exact ⟨⟨-1, rfl, by omega, fun h => by omega⟩, B2⟩
    ·go_wp2
     go_roundw
     case rel =>
      refine ⟨k + 1, m2, by omega, by go_num, rfl, by omega, by omega, fun i hi => ?_, B2⟩
      by_cases hik : i = k
      ·subst hik; rw [← HT.out]; exact HM2.out (by omega)
      ·exact HM i (by omega)
     case measure => simp [intOf]; omega
   ·have hki : ¬ (k : Int) < (n : Int) := by omega
    obtain rfl : k = n := by omega
    have HB : Hid (Below w.heap.size w wr) := hbel
    clear hbel
    go_wp2
    go_ret
    refine ⟨⟨m, rfl, hm1, fun _ => ⟨?_, fun i hi => HM i ?_⟩⟩, HB⟩
    ·have hl : xs.length = k := HL
     omega
    ·have hl : xs.length = k := HL
     omega
def listB (xs : List Nd) : Bool := decide (xs.length ≤ 20000) && okFrom xs.length 0 [] xs
def stk (T : List Int) (N : Int) : List Int := (T ++ [N]).reverse
theorem stk_len (T : List Int) (N : Int) : (stk T N).length = T.length + 1 := by simp [stk]
theorem stk_cons (e : Int) (T : List Int) (N : Int) : stk (e :: T) N = stk T N ++ [e] := by simp [stk]
abbrev IR (w : World) (base : Nat) (v : Value) (m : Nat) (S : List Int) : Prop := w.ownsRow base 3 1 v m (S.map (Value.int .i64))
theorem stk_top {w : World} {base g q c : Nat} {U : List Int} {N : Int} (h : IR w base (.slice (some ⟨g, 0, none⟩) (q + 1) c) (q + 1) (stk U N)) (hU : U.length = q) : w.cell? ⟨g, q, none⟩ = some (.int .i64 (U.headD N)) := by
 rw [World.ownsRow.cellAt h q (by omega)]
 rw [List.getElem?_map]
 have : (stk U N)[q]? = some (U.headD N) := by
  subst hU
  unfold stk
  rw [List.getElem?_reverse (by simp)]
  cases U <;> simp
 rw [this]
 rfl
theorem stk_pop {w : World} {base g q c : Nat} {e : Int} {U : List Int} {N : Int} (h : IR w base (.slice (some ⟨g, 0, none⟩) (q + 1 + 1) c) (q + 1 + 1) (stk (e :: U) N)) (hU : U.length = q) : IR w base (.slice (some ⟨g, 0, none⟩) (q + 1) c) (q + 1) (stk U N) := by
 rw [stk_cons, IR, List.map_append] at h
 exact ownsRow_pop (by simp [stk_len, hU]) h
theorem stk_cap {w : World} {base g m c : Nat} {S : List Int} (h : IR w base (.slice (some ⟨g, 0, none⟩) m c) m S) : m ≤ c ∧ c ≤ 9223372036854775807 ∧ base ≤ g ∧ g < w.heap.size := by
 rcases h.2 with ⟨h0, _⟩ | ⟨g', cap', cur, h0, hb, hg, hm, hc, _⟩
 ·simp at h0
 ·simp at h0
  obtain ⟨rfl, rfl⟩ := h0
  unfold maxLen at hc
  exact ⟨hm, hc, hb, (Array.getElem?_eq_some_iff.1 hg).1⟩
theorem IR.below {w w' : World} {base : Nat} {v : Value} {m : Nat} {S : List Int} (h : IR w base v m S) (hb : Below w.heap.size w w') : IR w' base v m S := by
 obtain ⟨h1, h2⟩ := h
 refine ⟨h1, ?_⟩
 rcases h2 with h2 | ⟨g, cap, cur, hv, hg, hh, hr⟩
 ·exact .inl h2
 ·exact .inr ⟨g, cap, cur, hv, hg, (hb.block g (Array.getElem?_eq_some_iff.1 hh).1).trans hh, hr⟩
structure Left (xs : List Nd) (k : Nat) (T : List Int) : Prop where
 opn : Open k T
 most : ∀ y ∈ T, y ≤ xs.length
 same : okFrom xs.length 0 [] xs = okFrom xs.length k T (xs.drop k)
theorem Left.start (xs : List Nd) : Left xs 0 [] := ⟨⟨by simp, by simp⟩, by simp, rfl⟩
theorem Left.done {xs : List Nd} {T : List Int} (h : Left xs xs.length T) : okFrom xs.length 0 [] xs = true := by
 rw [h.same]
 simp [okFrom]
theorem drop_at {xs : List Nd} {k : Nat} (hk : k < xs.length) : xs.drop k = xs.getD k Nd.none :: xs.drop (k + 1) := by
 rw [List.drop_eq_getElem_cons hk]
 simp [List.getD, List.getElem?_eq_getElem hk]
theorem Left.step {xs : List Nd} {k : Nat} {T : List Int} (h : Left xs k T) (hk : k < xs.length) : okFrom xs.length 0 [] xs =
 (goodB (xs.getD k Nd.none) && decide ((xs.getD k Nd.none).kids ≤ (T.dropWhile (· == (k : Int))).headD xs.length - k - 1) && (!deepB (xs.getD k Nd.none) || decide ((T.dropWhile (· == (k : Int))).length ≤ 40)) &&
  okFrom xs.length (k + 1) (if deepB (xs.getD k Nd.none) then ((k : Int) + 1 + (xs.getD k Nd.none).kids) :: T.dropWhile (· == (k : Int)) else T.dropWhile (· == (k : Int))) (xs.drop (k + 1))) := by
 rw [h.same, drop_at hk]
 rfl
theorem drop_mem {p : Int → Bool} {T : List Int} {y : Int} (h : y ∈ T.dropWhile p) : y ∈ T := (List.dropWhile_sublist p).subset h
theorem Left.top {xs : List Nd} {k : Nat} {T : List Int} (h : Left xs k T) (hk : k < xs.length) : (k : Int) + 1 ≤ (T.dropWhile (· == (k : Int))).headD xs.length ∧ (T.dropWhile (· == (k : Int))).headD xs.length ≤ xs.length := by
 refine ⟨h.opn.pop.head (by omega), ?_⟩
 cases he : T.dropWhile (· == (k : Int)) with
 | nil => simp
 | cons a U =>
  have := h.most a (drop_mem (by rw [he]; exact List.mem_cons_self ..))
  simpa using this
theorem Left.bad {xs : List Nd} {k : Nat} {T : List Int} (h : Left xs k T) (hk : k < xs.length) (hg : goodB (xs.getD k Nd.none) = false) : okFrom xs.length 0 [] xs = false := by
 rw [h.step hk, hg]
 rfl
theorem Left.over {xs : List Nd} {k : Nat} {T : List Int} (h : Left xs k T) (hk : k < xs.length) (hg : ¬ (xs.getD k Nd.none).kids ≤ (T.dropWhile (· == (k : Int))).headD xs.length - k - 1) : okFrom xs.length 0 [] xs = false := by
 rw [h.step hk, decide_eq_false hg]
 simp
theorem Left.nest {xs : List Nd} {k : Nat} {T : List Int} (h : Left xs k T) (hk : k < xs.length) (hd : deepB (xs.getD k Nd.none) = true) (hg : ¬ (T.dropWhile (· == (k : Int))).length ≤ 40) : okFrom xs.length 0 [] xs = false := by
 rw [h.step hk, hd, decide_eq_false hg]
 simp
theorem Left.flat {xs : List Nd} {k : Nat} {T : List Int} (h : Left xs k T) (hk : k < xs.length) (hg : goodB (xs.getD k Nd.none) = true) (hd : deepB (xs.getD k Nd.none) = false) : Left xs (k + 1) (T.dropWhile (· == (k : Int))) := by
 refine ⟨by simpa using h.opn.pop, fun y hy => h.most y (drop_mem hy), ?_⟩
 have h0 := flat_kids hg hd
 have ht := h.top hk
 rw [h.step hk, hg, hd, h0, decide_eq_true (by omega)]
 simp
theorem Left.deep {xs : List Nd} {k : Nat} {T : List Int} (h : Left xs k T) (hk : k < xs.length) (hg : goodB (xs.getD k Nd.none) = true) (hd : deepB (xs.getD k Nd.none) = true) (hle : (xs.getD k Nd.none).kids ≤ (T.dropWhile (· == (k : Int))).headD xs.length - k - 1) (hn : (T.dropWhile (· == (k : Int))).length ≤ 40) :
 Left xs (k + 1) (((k : Int) + 1 + (xs.getD k Nd.none).kids) :: T.dropWhile (· == (k : Int))) := by
 have hk0 : 0 ≤ (xs.getD k Nd.none).kids := by
  unfold goodB at hg
  simp at hg
  exact hg.2
 have ht := h.top hk
 refine ⟨Open.push (by simpa using h.opn.pop) (by push_cast; omega) fun len => ?_, fun y hy => ?_, ?_⟩
 ·cases he : T.dropWhile (· == (k : Int)) with
  | nil => exact .inr rfl
  | cons a U =>
   rw [he] at hle
   simp at hle ⊢
   omega
 ·rcases List.mem_cons.1 hy with rfl | hy
  ·omega
  ·exact h.most y (drop_mem hy)
 ·rw [h.step hk, hg, hd, decide_eq_true hle, decide_eq_true hn]
  simp
theorem popped {k : Int} {n : Int} {U T : List Int} (h : U.dropWhile (· == k) = T.dropWhile (· == k)) (hne : U.headD n ≠ k) : U = T.dropWhile (· == k) := by
 rw [← h]
 cases U with
 | nil => rfl
 | cons a U =>
  have : (a == k) = false := by simpa using hne
  simp [List.dropWhile, this]
theorem rev_top {w : World} {base g q c : Nat} {a : Int} {U : List Int} (h : IR w base (.slice (some ⟨g, 0, none⟩) (q + 1) c) (q + 1) (a :: U).reverse) (hU : U.length = q) : w.cell? ⟨g, q, none⟩ = some (.int .i64 a) := by
 rw [World.ownsRow.cellAt h q (by omega), List.getElem?_map]
 have : ((a :: U).reverse)[q]? = some a := by
  subst hU
  rw [List.getElem?_reverse (by simp)]
  simp
 rw [this]
 rfl
theorem rev_pop {w : World} {base g q c : Nat} {a : Int} {U : List Int} (h : IR w base (.slice (some ⟨g, 0, none⟩) (q + 1) c) (q + 1) (a :: U).reverse) (hU : U.length = q) : IR w base (.slice (some ⟨g, 0, none⟩) q c) q U.reverse := by
 rw [List.reverse_cons, IR, List.map_append] at h
 exact ownsRow_pop (by simp [hU]) h
structure LeftS (xs : List Nd) (k : Nat) (T : List Int) (m : Int) : Prop where
 opn : Open k T
 most : ∀ y ∈ T, y ≤ xs.length
 len : T.length ≤ k
 pos : 0 ≤ m
 small : m ≤ k + 1
 same : okFrom xs.length 0 [] xs = (decide (m ≤ 41) && okFrom xs.length k T (xs.drop k))
theorem LeftS.start (xs : List Nd) : LeftS xs 0 [] 0 := ⟨⟨by simp, by simp⟩, by simp, by simp, by omega, by omega, by simp⟩
theorem LeftS.done {xs : List Nd} {T : List Int} {m : Int} (h : LeftS xs xs.length T m) : okFrom xs.length 0 [] xs = decide (m ≤ 41) := by
 rw [h.same]
 simp [okFrom]
theorem LeftS.step {xs : List Nd} {k : Nat} {T : List Int} {m : Int} (h : LeftS xs k T m) (hk : k < xs.length) : okFrom xs.length 0 [] xs = (decide (m ≤ 41) &&
 (goodB (xs.getD k Nd.none) && decide ((xs.getD k Nd.none).kids ≤ (T.dropWhile (· == (k : Int))).headD xs.length - k - 1) && (!deepB (xs.getD k Nd.none) || decide ((T.dropWhile (· == (k : Int))).length ≤ 40)) &&
  okFrom xs.length (k + 1) (if deepB (xs.getD k Nd.none) then ((k : Int) + 1 + (xs.getD k Nd.none).kids) :: T.dropWhile (· == (k : Int)) else T.dropWhile (· == (k : Int))) (xs.drop (k + 1)))) := by
 rw [h.same, drop_at hk]
 rfl
theorem LeftS.top {xs : List Nd} {k : Nat} {T : List Int} {m : Int} (h : LeftS xs k T m) (hk : k < xs.length) : (k : Int) + 1 ≤ (T.dropWhile (· == (k : Int))).headD xs.length ∧ (T.dropWhile (· == (k : Int))).headD xs.length ≤ xs.length := by
 refine ⟨h.opn.pop.head (by omega), ?_⟩
 cases he : T.dropWhile (· == (k : Int)) with
 | nil => simp
 | cons a U =>
  have := h.most a (drop_mem (by rw [he]; exact List.mem_cons_self ..))
  simpa using this
theorem LeftS.bad {xs : List Nd} {k : Nat} {T : List Int} {m : Int} (h : LeftS xs k T m) (hk : k < xs.length) (hg : goodB (xs.getD k Nd.none) = false) : okFrom xs.length 0 [] xs = false := by
 rw [h.step hk, hg]
 simp
theorem LeftS.over {xs : List Nd} {k : Nat} {T : List Int} {m : Int} (h : LeftS xs k T m) (hk : k < xs.length) (hg : ¬ (xs.getD k Nd.none).kids ≤ (T.dropWhile (· == (k : Int))).headD xs.length - k - 1) : okFrom xs.length 0 [] xs = false := by
 rw [h.step hk, decide_eq_false hg]
 simp
theorem drop_len {p : Int → Bool} (T : List Int) : (T.dropWhile p).length ≤ T.length := (List.dropWhile_sublist p).length_le
theorem LeftS.flat {xs : List Nd} {k : Nat} {T : List Int} {m : Int} (h : LeftS xs k T m) (hk : k < xs.length) (hg : goodB (xs.getD k Nd.none) = true) (hd : deepB (xs.getD k Nd.none) = false) : LeftS xs (k + 1) (T.dropWhile (· == (k : Int))) m := by
 have h0 := flat_kids hg hd
 have ht := h.top hk
 refine ⟨by simpa using h.opn.pop, fun y hy => h.most y (drop_mem hy), Nat.le_trans (drop_len T) (Nat.le_succ_of_le h.len), h.pos, by have := h.small; push_cast; omega, ?_⟩
 rw [h.step hk, hg, hd, h0, decide_eq_true (p := (0 : Int) ≤ (T.dropWhile (· == (k : Int))).headD xs.length - k - 1) (by omega)]
 simp
def mostOf (m : Int) (q : Nat) : Int := if m < (q : Int) + 1 then (q : Int) + 1 else m
theorem mostOf_le (m : Int) (q : Nat) (r : Bool) : (decide (m ≤ 41) && (decide (q ≤ 40) && r)) = (decide (mostOf m q ≤ 41) && r) := by
 unfold mostOf
 cases r <;> simp
 split
 ·rw [Bool.eq_iff_iff]; simp; omega
 ·rw [Bool.eq_iff_iff]; simp; omega
theorem LeftS.deep {xs : List Nd} {k : Nat} {T : List Int} {m : Int} (h : LeftS xs k T m) (hk : k < xs.length) (hg : goodB (xs.getD k Nd.none) = true) (hd : deepB (xs.getD k Nd.none) = true) (hle : (xs.getD k Nd.none).kids ≤ (T.dropWhile (· == (k : Int))).headD xs.length - k - 1) :
 LeftS xs (k + 1) (((k : Int) + 1 + (xs.getD k Nd.none).kids) :: T.dropWhile (· == (k : Int))) (mostOf m (T.dropWhile (· == (k : Int))).length) := by
 have hk0 : 0 ≤ (xs.getD k Nd.none).kids := by
  unfold goodB at hg
  simp at hg
  exact hg.2
 have ht := h.top hk
 have hl := drop_len (p := (· == (k : Int))) T
 have hl2 := h.len
 have hs := h.small
 have hp := h.pos
 refine ⟨Open.push (by simpa using h.opn.pop) (by push_cast; omega) fun len => ?_, fun y hy => ?_, by simp; omega, by unfold mostOf; split <;> omega, by unfold mostOf; push_cast; split <;> omega, ?_⟩
 ·cases he : T.dropWhile (· == (k : Int)) with
  | nil => exact .inr rfl
  | cons a U =>
   rw [he] at hle
   simp at hle ⊢
   omega
 ·rcases List.mem_cons.1 hy with rfl | hy
  ·omega
  ·exact h.most y (drop_mem hy)
 ·rw [h.step hk, hg, hd, decide_eq_true hle]
  simp only [Bool.true_and, Bool.not_true, Bool.false_or, if_true]
  rw [mostOf_le]
  push_cast
  rfl
theorem LeftS.empty {xs : List Nd} {k : Nat} {U : List Int} {m : Int} (h : LeftS xs (k + 1) (((k : Int) + 1) :: U) m) : LeftS xs (k + 1) U m := by
 refine ⟨⟨fun y hy => h.opn.1 y (List.mem_cons_of_mem _ hy), (List.pairwise_cons.1 h.opn.2).2⟩, fun y hy => h.most y (List.mem_cons_of_mem _ hy), by have := h.len; simp at this; omega, h.pos, h.small, ?_⟩
 rw [h.same]
 have := okFrom_pad xs.length ((k : Int) + 1) U (xs.drop (k + 1))
 push_cast
 rw [this]
end Go.Proofs.YtlohbaoigfaneaaGreat
