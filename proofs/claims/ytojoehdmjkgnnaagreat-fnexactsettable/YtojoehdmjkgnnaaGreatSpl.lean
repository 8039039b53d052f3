import Derived.Test.YtojoehdmjkgnnaaGreatNdq
import Derived.Test.YtojoehdmjkgnnaaGreatTha
import Derived.WalkSmall
import Derived.Test.YtojoehdmjkgnnaaGreatSpo
import Derived.Maps.AppendAt
import Derived.OwnWalk
namespace Go.Proofs.YtojoehdmjkgnnaaGreat
open Go.RowKit
set_option linter.unusedVariables false
set_option linter.unusedSimpArgs false
def listB (xs : List Nd) : Bool := decide (xs.length ≤ 20000) && okFrom xs.length 0 [] xs
def stk (T : List Int) (N : Int) : List Int := (T ++ [N]).reverse
theorem stk_len (T : List Int) (N : Int) : (stk T N).length = T.length + 1 := by simp [stk]
theorem stk_cons (e : Int) (T : List Int) (N : Int) : stk (e :: T) N = stk T N ++ [e] := by simp [stk]
abbrev IR (w : World) (base : Nat) (v : Value) (m : Nat) (S : List Int) : Prop := w.ownsRow base 3 1 v m (S.map (Value.int .i64))
theorem stk_top {w : World} {base g q c : Nat} {U : List Int} {N : Int} (h : IR w base (.slice (some ⟨g, 0, none⟩) (q + 1) c) (q + 1) (stk U N)) (hU : U.length = q) : w.cell? ⟨g, q, none⟩ = some (.int .i64 (U.headD N)) := by
 rw [World.ownsRow.cellAt h q (by omega)]
 rw [List.getElem?_map]
 have : (stk U N)[q]? = some (U.headD N) := by
  subst hU
  unfold stk
  rw [List.getElem?_reverse (by simp)]
  cases U <;> simp
 rw [this]
 rfl
theorem stk_pop {w : World} {base g q c : Nat} {e : Int} {U : List Int} {N : Int} (h : IR w base (.slice (some ⟨g, 0, none⟩) (q + 1 + 1) c) (q + 1 + 1) (stk (e :: U) N)) (hU : U.length = q) : IR w base (.slice (some ⟨g, 0, none⟩) (q + 1) c) (q + 1) (stk U N) := by
 rw [stk_cons, IR, List.map_append] at h
 exact ownsRow_pop (by simp [stk_len, hU]) h
theorem stk_cap {w : World} {base g m c : Nat} {S : List Int} (h : IR w base (.slice (some ⟨g, 0, none⟩) m c) m S) : m ≤ c ∧ c ≤ 9223372036854775807 ∧ base ≤ g ∧ g < w.heap.size := by
 rcases h.2 with ⟨h0, _⟩ | ⟨g', cap', cur, h0, hb, hg, hm, hc, _⟩
 ·simp at h0
 ·simp at h0
  obtain ⟨rfl, rfl⟩ := h0
  unfold maxLen at hc
  exact ⟨hm, hc, hb, (glt hg)⟩
theorem IR.below {w w' : World} {base : Nat} {v : Value} {m : Nat} {S : List Int} (h : IR w base v m S) (hb : Below w.heap.size w w') : IR w' base v m S := by
 obtain ⟨h1, h2⟩ := h
 refine ⟨h1, ?_⟩
 rcases h2 with h2 | ⟨g, cap, cur, hv, hg, hh, hr⟩
 ·exact .inl h2
 ·exact .inr ⟨g, cap, cur, hv, hg, (hb.block g (glt hh)).trans hh, hr⟩
structure Left (xs : List Nd) (k : Nat) (T : List Int) : Prop where
 opn : Open k T
 most : ∀ y ∈ T, y ≤ xs.length
 same : okFrom xs.length 0 [] xs = okFrom xs.length k T (xs.drop k)
theorem Left.start (xs : List Nd) : Left xs 0 [] := ⟨⟨by simp, by simp⟩, by simp, rfl⟩
theorem Left.done {xs : List Nd} {T : List Int} (h : Left xs xs.length T) : okFrom xs.length 0 [] xs = true := by
 rw [h.same]
 simp [okFrom]
theorem drop_at {xs : List Nd} {k : Nat} (hk : k < xs.length) : xs.drop k = xs.getD k Nd.none :: xs.drop (k + 1) := by
 rw [List.drop_eq_getElem_cons hk]
 simp [List.getD, List.getElem?_eq_getElem hk]
theorem Left.step {xs : List Nd} {k : Nat} {T : List Int} (h : Left xs k T) (hk : k < xs.length) : okFrom xs.length 0 [] xs =
 (goodB (xs.getD k Nd.none) && decide ((xs.getD k Nd.none).kids ≤ (T.dropWhile (· == (k : Int))).headD xs.length - k - 1) && (!deepB (xs.getD k Nd.none) || decide ((T.dropWhile (· == (k : Int))).length ≤ 40)) &&
  okFrom xs.length (k + 1) (if deepB (xs.getD k Nd.none) then ((k : Int) + 1 + (xs.getD k Nd.none).kids) :: T.dropWhile (· == (k : Int)) else T.dropWhile (· == (k : Int))) (xs.drop (k + 1))) := by
 rw [h.same, drop_at hk]
 rfl
theorem drop_mem {p : Int → Bool} {T : List Int} {y : Int} (h : y ∈ T.dropWhile p) : y ∈ T := (List.dropWhile_sublist p).subset h
theorem Left.top {xs : List Nd} {k : Nat} {T : List Int} (h : Left xs k T) (hk : k < xs.length) : (k : Int) + 1 ≤ (T.dropWhile (· == (k : Int))).headD xs.length ∧ (T.dropWhile (· == (k : Int))).headD xs.length ≤ xs.length := by
 refine ⟨h.opn.pop.head (by omega), ?_⟩
 cases he : T.dropWhile (· == (k : Int)) with
 | nil => simp
 | cons a U =>
  have := h.most a (drop_mem (by rw [he]; exact List.mem_cons_self ..))
  simpa using this
theorem Left.bad {xs : List Nd} {k : Nat} {T : List Int} (h : Left xs k T) (hk : k < xs.length) (hg : goodB (xs.getD k Nd.none) = false) : okFrom xs.length 0 [] xs = false := by
 rw [h.step hk, hg]
 rfl
theorem Left.over {xs : List Nd} {k : Nat} {T : List Int} (h : Left xs k T) (hk : k < xs.length) (hg : ¬ (xs.getD k Nd.none).kids ≤ (T.dropWhile (· == (k : Int))).headD xs.length - k - 1) : okFrom xs.length 0 [] xs = false := by
 rw [h.step hk, decide_eq_false hg]
 simp
theorem Left.nest {xs : List Nd} {k : Nat} {T : List Int} (h : Left xs k T) (hk : k < xs.length) (hd : deepB (xs.getD k Nd.none) = true) (hg : ¬ (T.dropWhile (· == (k : Int))).length ≤ 40) : okFrom xs.length 0 [] xs = false := by
 rw [h.step hk, hd, decide_eq_false hg]
 simp
theorem Left.flat {xs : List Nd} {k : Nat} {T : List Int} (h : Left xs k T) (hk : k < xs.length) (hg : goodB (xs.getD k Nd.none) = true) (hd : deepB (xs.getD k Nd.none) = false) : Left xs (k + 1) (T.dropWhile (· == (k : Int))) := by
 refine ⟨by simpa using h.opn.pop, fun y hy => h.most y (drop_mem hy), ?_⟩
 have h0 := flat_kids hg hd
 have ht := h.top hk
 rw [h.step hk, hg, hd, h0, decide_eq_true (by omega)]
 simp
theorem Left.deep {xs : List Nd} {k : Nat} {T : List Int} (h : Left xs k T) (hk : k < xs.length) (hg : goodB (xs.getD k Nd.none) = true) (hd : deepB (xs.getD k Nd.none) = true) (hle : (xs.getD k Nd.none).kids ≤ (T.dropWhile (· == (k : Int))).headD xs.length - k - 1) (hn : (T.dropWhile (· == (k : Int))).length ≤ 40) :
 Left xs (k + 1) (((k : Int) + 1 + (xs.getD k Nd.none).kids) :: T.dropWhile (· == (k : Int))) := by
 have hk0 : 0 ≤ (xs.getD k Nd.none).kids := by
  unfold goodB at hg
  simp at hg
  exact hg.2
 have ht := h.top hk
 refine ⟨Open.push (by simpa using h.opn.pop) (by push_cast; omega) fun len => ?_, fun y hy => ?_, ?_⟩
 ·cases he : T.dropWhile (· == (k : Int)) with
  | nil => exact .inr rfl
  | cons a U =>
   rw [he] at hle
   simp at hle ⊢
   omega
 ·rcases List.mem_cons.1 hy with rfl | hy
  ·omega
  ·exact h.most y (drop_mem hy)
 ·rw [h.step hk, hg, hd, decide_eq_true hle, decide_eq_true hn]
  simp
theorem popped {k : Int} {n : Int} {U T : List Int} (h : U.dropWhile (· == k) = T.dropWhile (· == k)) (hne : U.headD n ≠ k) : U = T.dropWhile (· == k) := by
 rw [← h]
 cases U with
 | nil => rfl
 | cons a U =>
  have : (a == k) = false := by simpa using hne
  simp [List.dropWhile, this]
theorem rev_top {w : World} {base g q c : Nat} {a : Int} {U : List Int} (h : IR w base (.slice (some ⟨g, 0, none⟩) (q + 1) c) (q + 1) (a :: U).reverse) (hU : U.length = q) : w.cell? ⟨g, q, none⟩ = some (.int .i64 a) := by
 rw [World.ownsRow.cellAt h q (by omega), List.getElem?_map]
 have : ((a :: U).reverse)[q]? = some a := by
  subst hU
  rw [List.getElem?_reverse (by simp)]
  simp
 rw [this]
 rfl
theorem rev_pop {w : World} {base g q c : Nat} {a : Int} {U : List Int} (h : IR w base (.slice (some ⟨g, 0, none⟩) (q + 1) c) (q + 1) (a :: U).reverse) (hU : U.length = q) : IR w base (.slice (some ⟨g, 0, none⟩) q c) q U.reverse := by
 rw [List.reverse_cons, IR, List.map_append] at h
 exact ownsRow_pop (by simp [hU]) h
structure LeftS (xs : List Nd) (k : Nat) (T : List Int) (m : Int) : Prop where
 opn : Open k T
 most : ∀ y ∈ T, y ≤ xs.length
 len : T.length ≤ k
 pos : 0 ≤ m
 small : m ≤ k + 1
 same : okFrom xs.length 0 [] xs = (decide (m ≤ 41) && okFrom xs.length k T (xs.drop k))
theorem LeftS.start (xs : List Nd) : LeftS xs 0 [] 0 := ⟨⟨by simp, by simp⟩, by simp, by simp, by omega, by omega, by simp⟩
theorem LeftS.done {xs : List Nd} {T : List Int} {m : Int} (h : LeftS xs xs.length T m) : okFrom xs.length 0 [] xs = decide (m ≤ 41) := by
 rw [h.same]
 simp [okFrom]
theorem LeftS.step {xs : List Nd} {k : Nat} {T : List Int} {m : Int} (h : LeftS xs k T m) (hk : k < xs.length) : okFrom xs.length 0 [] xs = (decide (m ≤ 41) &&
 (goodB (xs.getD k Nd.none) && decide ((xs.getD k Nd.none).kids ≤ (T.dropWhile (· == (k : Int))).headD xs.length - k - 1) && (!deepB (xs.getD k Nd.none) || decide ((T.dropWhile (· == (k : Int))).length ≤ 40)) &&
  okFrom xs.length (k + 1) (if deepB (xs.getD k Nd.none) then ((k : Int) + 1 + (xs.getD k Nd.none).kids) :: T.dropWhile (· == (k : Int)) else T.dropWhile (· == (k : Int))) (xs.drop (k + 1)))) := by
 rw [h.same, drop_at hk]
 rfl
theorem LeftS.top {xs : List Nd} {k : Nat} {T : List Int} {m : Int} (h : LeftS xs k T m) (hk : k < xs.length) : (k : Int) + 1 ≤ (T.dropWhile (· == (k : Int))).headD xs.length ∧ (T.dropWhile (· == (k : Int))).headD xs.length ≤ xs.length := by
 refine ⟨h.opn.pop.head (by omega), ?_⟩
 cases he : T.dropWhile (· == (k : Int)) with
 | nil => simp
 | cons a U =>
  have := h.most a (drop_mem (by rw [he]; exact List.mem_cons_self ..))
  simpa using this
theorem LeftS.bad {xs : List Nd} {k : Nat} {T : List Int} {m : Int} (h : LeftS xs k T m) (hk : k < xs.length) (hg : goodB (xs.getD k Nd.none) = false) : okFrom xs.length 0 [] xs = false := by
 rw [h.step hk, hg]
 simp
theorem LeftS.over {xs : List Nd} {k : Nat} {T : List Int} {m : Int} (h : LeftS xs k T m) (hk : k < xs.length) (hg : ¬ (xs.getD k Nd.none).kids ≤ (T.dropWhile (· == (k : Int))).headD xs.length - k - 1) : okFrom xs.length 0 [] xs = false := by
 rw [h.step hk, decide_eq_false hg]
 simp
theorem drop_len {p : Int → Bool} (T : List Int) : (T.dropWhile p).length ≤ T.length := (List.dropWhile_sublist p).length_le
theorem LeftS.flat {xs : List Nd} {k : Nat} {T : List Int} {m : Int} (h : LeftS xs k T m) (hk : k < xs.length) (hg : goodB (xs.getD k Nd.none) = true) (hd : deepB (xs.getD k Nd.none) = false) : LeftS xs (k + 1) (T.dropWhile (· == (k : Int))) m := by
 have h0 := flat_kids hg hd
 have ht := h.top hk
 refine ⟨by simpa using h.opn.pop, fun y hy => h.most y (drop_mem hy), Nat.le_trans (drop_len T) (Nat.le_succ_of_le h.len), h.pos, by have := h.small; push_cast; omega, ?_⟩
 rw [h.step hk, hg, hd, h0, decide_eq_true (p := (0 : Int) ≤ (T.dropWhile (· == (k : Int))).headD xs.length - k - 1) (by omega)]
 simp
def mostOf (m : Int) (q : Nat) : Int := if m < (q : Int) + 1 then (q : Int) + 1 else m
theorem mostOf_le (m : Int) (q : Nat) (r : Bool) : (decide (m ≤ 41) && (decide (q ≤ 40) && r)) = (decide (mostOf m q ≤ 41) && r) := by
 unfold mostOf
 cases r <;> simp
 split
 ·rw [Bool.eq_iff_iff]; simp; omega
 ·rw [Bool.eq_iff_iff]; simp; omega
theorem LeftS.deep {xs : List Nd} {k : Nat} {T : List Int} {m : Int} (h : LeftS xs k T m) (hk : k < xs.length) (hg : goodB (xs.getD k Nd.none) = true) (hd : deepB (xs.getD k Nd.none) = true) (hle : (xs.getD k Nd.none).kids ≤ (T.dropWhile (· == (k : Int))).headD xs.length - k - 1) :
 LeftS xs (k + 1) (((k : Int) + 1 + (xs.getD k Nd.none).kids) :: T.dropWhile (· == (k : Int))) (mostOf m (T.dropWhile (· == (k : Int))).length) := by
 have hk0 : 0 ≤ (xs.getD k Nd.none).kids := by
  unfold goodB at hg
  simp at hg
  exact hg.2
 have ht := h.top hk
 have hl := drop_len (p := (· == (k : Int))) T
 have hl2 := h.len
 have hs := h.small
 have hp := h.pos
 refine ⟨Open.push (by simpa using h.opn.pop) (by push_cast; omega) fun len => ?_, fun y hy => ?_, by simp; omega, by unfold mostOf; split <;> omega, by unfold mostOf; push_cast; split <;> omega, ?_⟩
 ·cases he : T.dropWhile (· == (k : Int)) with
  | nil => exact .inr rfl
  | cons a U =>
   rw [he] at hle
   simp at hle ⊢
   omega
 ·rcases List.mem_cons.1 hy with rfl | hy
  ·omega
  ·exact h.most y (drop_mem hy)
 ·rw [h.step hk, hg, hd, decide_eq_true hle]
  simp only [Bool.true_and, Bool.not_true, Bool.false_or, if_true]
  rw [mostOf_le]
  push_cast
  rfl
theorem LeftS.empty {xs : List Nd} {k : Nat} {U : List Int} {m : Int} (h : LeftS xs (k + 1) (((k : Int) + 1) :: U) m) : LeftS xs (k + 1) U m := by
 refine ⟨⟨fun y hy => h.opn.1 y (List.mem_cons_of_mem _ hy), (List.pairwise_cons.1 h.opn.2).2⟩, fun y hy => h.most y (List.mem_cons_of_mem _ hy), by have := h.len; simp at this; omega, h.pos, h.small, ?_⟩
 rw [h.same]
 have := okFrom_pad xs.length ((k : Int) + 1) U (xs.drop (k + 1))
 push_cast
 rw [this]
theorem Tryz.info3b : (Tryz.prog.info? 3).map (fun i => (i.zero, i.size, i.bytes)) = some (some (.int .i64 0), 1, 8) := by kernel_rfl
def sliceLenB : Value → Nat
 | .slice _ n _ => n
 | _ => 0
end Go.Proofs.YtojoehdmjkgnnaaGreat
