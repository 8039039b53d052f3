import Derived.Test.YtlohbaoigfaneaaGreatLrw
import Derived.Test.YtlohbaoigfaneaaGreatSti1
import Derived.Test.YtlohbaoigfaneaaGreatSti3
import Derived.Test.YtlohbaoigfaneaaGreatNod
import Derived.Deep.RegionHeld3
import Derived.Deep.MidRow
import Derived.Test.YtlohbaoigfaneaaGreatNdo
import Derived.RangeFuncNested
import Derived.RangeFuncBound
import Derived.RangeFuncCalls
import Derived.RangeFuncLeaves
import Derived.Shelf.Abstract
import Derived.Shelf.RegionOpen
import Derived.WalkKit
import Derived.OwnWalkIn
import Derived.TacticsInMore
import Derived.LoopNIn
import Derived.LoopIn
import Derived.Maps.AppendAt
import Derived.Test.YtlohbaoigfaneaaGreatItx
import Derived.Test.YtlohbaoigfaneaaGreatLok
import Derived.Test.YtlohbaoigfaneaaGreatTns
import Derived.Test.YtlohbaoigfaneaaGreatAit
namespace Go.Proofs.YtlohbaoigfaneaaGreat
open Go.RowKit
set_option linter.unusedVariables false
set_option linter.unusedSimpArgs false
section
variable {P : Program} {ops : Array Oper} {Q : Exit → Act → World → Prop} {md : Region.Mode} {S : World → Prop} {i : Nat} {oi : Oper} {v : Value} {fuel : Nat} {listed : Array Bool} {a : Act} {w : World}
theorem tkS (hi : ops[i]? = some oi) (hS : S w) (h : wpAnyH P md ops Q S fuel (listed.setIfInBounds i true) (a.put oi.dst v) w)
 (hb : (Region.noSelect ops && (Region.free md ops listed i && (Region.ready md ops listed).contains i)) = true := by kernel_rfl) (hw : Region.wanted oi (yielded ops a.tmps) = true := by first | rfl | go_simp) (hr : ∀ w, S w → (execOp a.eval oi).run P w = .ok (.value v) w := by intro wx hx; go_split_ands; go_simp)
 (hQ : ∀ c a w, Q (.panic c) (a.put oi.dst v) w → Q (.panic c) a w := by exact fun _ _ _ h => h) : wpAnyH P md ops Q S (fuel + 1) listed a w := by
 simp only [Bool.and_eq_true] at hb
 exact wpAnyH_take hi hb.1 hb.2.1 hb.2.2 hQ (Or.inl ⟨hw, hr⟩) hS h
theorem rdS (hi : ops[i]? = some oi) (h : ∀ K : Act → World → Prop, Shut (∀ a w, S w → (S w → wpAnyH P md ops Q S fuel (listed.setIfInBounds i true) a w) → K a w) → Oper.wp P oi a w K Q)
 (hr : Region.ready md ops listed = [i] := by kernel_rfl) (hw : Region.wanted oi (yielded ops a.tmps) = true := by first | rfl | go_simp) : wpAnyH P md ops Q S (fuel + 1) listed a w :=
 wpAnyH_ready hr (by simp) (AllReadyH.cons hi (fun K hK => by rw [if_pos hw]; exact h K hK) AllReadyH.nil)
end
end Go.Proofs.YtlohbaoigfaneaaGreat
namespace Go.Proofs.YtlohbaoigfaneaaGreat
open Go.RowKit Go.Shelf
set_option linter.unusedVariables false
set_option linter.unusedSimpArgs false
attribute [local go_sem] Oper.semAt_some
end Go.Proofs.YtlohbaoigfaneaaGreat
namespace Go.Proofs.YtlohbaoigfaneaaGreat
open Go.RowKit
set_option linter.unusedVariables false
set_option linter.unusedSimpArgs false
theorem dropW_map (s i : Int) : ∀ T : List Int, (T.map (· + s)).dropWhile (· == i + s) = (T.dropWhile (· == i)).map (· + s)
 | [] => rfl
 | a :: T => by
  rw [List.map_cons]
  by_cases h : a = i
  ·subst h
   rw [List.dropWhile_cons_of_pos (by simp), List.dropWhile_cons_of_pos (by simp)]
   exact dropW_map s a T
  ·rw [List.dropWhile_cons_of_neg (by simp; omega), List.dropWhile_cons_of_neg (by simp; omega), List.map_cons]
theorem ok_shift (len s : Int) : ∀ (xs : List Nd) (i : Int) (T : List Int), okFrom (len + s) (i + s) (T.map (· + s)) xs = okFrom len i T xs
 | [], i, T => rfl
 | x :: xs, i, T => by
  have hH : ∀ U : List Int, (U.map (· + s)).headD (len + s) = U.headD len + s := fun U => by cases U <;> rfl
  have h0 := ok_shift len s xs (i + 1) (if deepB x then (i + 1 + x.kids) :: T.dropWhile (· == i) else T.dropWhile (· == i))
  have e1 : List.map (· + s) (if deepB x then (i + 1 + x.kids) :: T.dropWhile (· == i) else T.dropWhile (· == i)) = if deepB x then (i + s + 1 + x.kids) :: (T.dropWhile (· == i)).map (· + s) else (T.dropWhile (· == i)).map (· + s) := by
   split
   ·rw [List.map_cons, show i + 1 + x.kids + s = i + s + 1 + x.kids by omega]
   ·rfl
  rw [e1, show i + 1 + s = i + s + 1 by omega] at h0
  simp only [okFrom, dropW_map, hH, List.length_map, h0]
  rw [show (decide (x.kids ≤ List.headD (List.dropWhile (fun x => x == i) T) len + s - (i + s) - 1)) = decide (x.kids ≤ List.headD (List.dropWhile (fun x => x == i) T) len - i - 1) by rw [decide_eq_decide]; omega]
theorem ok_cut (len : Int) (ys : List Nd) : ∀ (xs : List Nd) (i : Int) (T : List Int), okFrom len i T (xs ++ ys) = true → okFrom len i T xs = true
 | [], i, T, _ => rfl
 | x :: xs, i, T, h => by
  simp only [List.cons_append, okFrom, Bool.and_eq_true] at h ⊢
  exact ⟨h.1, ok_cut len ys xs _ _ h.2⟩
theorem ok_allI {L i : Int} (ys : List Nd) : ∀ (T : List Int), (∀ y ∈ T, y = i) → okFrom L i T ys = okFrom L i [] ys := by
 intro T hT
 cases ys with
 | nil => rfl
 | cons y ys =>
  have : T.dropWhile (· == i) = [] := by
   induction T with
   | nil => rfl
   | cons a T ih =>
    rw [List.dropWhile_cons_of_pos (by simpa using hT a (List.mem_cons_self ..))]
    exact ih fun y hy => hT y (List.mem_cons_of_mem _ hy)
  simp only [okFrom, this, List.dropWhile_nil]
  rfl
theorem dropW_mem {i y : Int} : ∀ {T : List Int}, y ∈ T.dropWhile (· == i) → y ∈ T
 | a :: T, h => by
  by_cases ha : a = i
  ·rw [List.dropWhile_cons_of_pos (by simpa using ha)] at h
   exact List.mem_cons_of_mem _ (dropW_mem h)
  ·rw [List.dropWhile_cons_of_neg (by simpa using ha)] at h
   exact h
theorem dropW_gt {i : Int} : ∀ {T : List Int}, (∀ y ∈ T, i ≤ y) → T.Pairwise (· ≤ ·) → ∀ y ∈ T.dropWhile (· == i), i + 1 ≤ y
 | a :: T, h, hp, y, hy => by
  by_cases ha : a = i
  ·rw [List.dropWhile_cons_of_pos (by simpa using ha)] at hy
   exact dropW_gt (fun z hz => h z (List.mem_cons_of_mem _ hz)) (List.pairwise_cons.1 hp).2 y hy
  ·rw [List.dropWhile_cons_of_neg (by simpa using ha)] at hy
   have h0 := h a (List.mem_cons_self ..)
   rcases List.mem_cons.1 hy with rfl | hy
   ·omega
   ·have := (List.pairwise_cons.1 hp).1 y hy
    omega
theorem dropW_pair {i : Int} : ∀ {T : List Int}, T.Pairwise (· ≤ ·) → (T.dropWhile (· == i)).Pairwise (· ≤ ·)
 | [], h => h
 | a :: T, hp => by
  by_cases ha : a = i
  ·rw [List.dropWhile_cons_of_pos (by simpa using ha)]
   exact dropW_pair (List.pairwise_cons.1 hp).2
  ·rw [List.dropWhile_cons_of_neg (by simpa using ha)]
   exact hp
theorem stack_step {len i : Int} {x : Nd} {T : List Int} (hg : goodB x = true) (hk : x.kids ≤ (T.dropWhile (· == i)).headD len - i - 1) (h0 : ∀ y ∈ T, i ≤ y) (h1 : T.Pairwise (· ≤ ·)) (h2 : ∀ y ∈ T, y ≤ len) :
 (∀ y ∈ (if deepB x then (i + 1 + x.kids) :: T.dropWhile (· == i) else T.dropWhile (· == i)), i + 1 ≤ y) ∧ (if deepB x then (i + 1 + x.kids) :: T.dropWhile (· == i) else T.dropWhile (· == i)).Pairwise (· ≤ ·) ∧ ∀ y ∈ (if deepB x then (i + 1 + x.kids) :: T.dropWhile (· == i) else T.dropWhile (· == i)), y ≤ len := by
 have hkn := good_kids hg
 have a1 := dropW_gt h0 h1
 have a2 := dropW_pair (i := i) h1
 have a3 : ∀ y ∈ T.dropWhile (· == i), y ≤ len := fun y hy => h2 y (dropW_mem hy)
 generalize T.dropWhile (· == i) = U at *
 have hh : U.headD len ≤ len := by
  cases U with
  | nil => simp
  | cons a U => simpa using a3 a (List.mem_cons_self ..)
 split
 ·refine ⟨fun y hy => ?_, List.pairwise_cons.2 ⟨fun y hy => ?_, a2⟩, fun y hy => ?_⟩
  ·rcases List.mem_cons.1 hy with rfl | hy
   ·omega
   ·exact a1 y hy
  ·cases U with
   | nil => simp at hy
   | cons a U =>
    simp only [List.headD_cons] at hk
    rcases List.mem_cons.1 hy with rfl | hy
    ·omega
    ·have := (List.pairwise_cons.1 a2).1 y hy
     omega
  ·rcases List.mem_cons.1 hy with rfl | hy
   ·omega
   ·exact a3 y hy
 ·exact ⟨a1, a2, a3⟩
theorem ok_app {L len : Int} (ys : List Nd) (hL : len ≤ L) (hy : okFrom L len [] ys = true) : ∀ (xs : List Nd) (i : Int) (T : List Int), i + xs.length = len → (∀ y ∈ T, i ≤ y) → T.Pairwise (· ≤ ·) → (∀ y ∈ T, y ≤ len) → okFrom len i T xs = true → okFrom L i T (xs ++ ys) = true
 | [], i, T, hl, h0, h1, h2, _ => by
  have e : i = len := by simpa using hl
  subst e
  rw [List.nil_append, ok_allI ys T (fun y hy => by have := h0 y hy; have := h2 y hy; omega)]
  exact hy
 | x :: xs, i, T, hl, h0, h1, h2, h => by
  simp only [List.cons_append, okFrom, Bool.and_eq_true] at h ⊢
  obtain ⟨⟨⟨hg, hk⟩, hd⟩, hr⟩ := h
  have hk' := of_decide_eq_true hk
  obtain ⟨b0, b1, b2⟩ := stack_step hg hk' h0 h1 h2
  refine ⟨⟨⟨hg, decide_eq_true ?_⟩, hd⟩, ok_app ys hL hy xs _ _ (by simp at hl; omega) b0 b1 b2 hr⟩
  cases he : T.dropWhile (· == i) with
  | nil => rw [he] at hk'; simp at hk' ⊢; omega
  | cons a U => rw [he] at hk'; simpa using hk'
theorem ok_within {len len' e : Int} : ∀ (xs : List Nd) (i : Int) (T : List Int), i + xs.length ≤ e → okFrom len i (T ++ [e]) xs = okFrom len' i (T ++ [e]) xs
 | [], _, _, _ => rfl
 | x :: xs, i, T, hl => by
  have hdr : (T ++ [e]).dropWhile (· == i) = T.dropWhile (· == i) ++ [e] := by
   induction T with
   | nil => rw [List.nil_append, List.dropWhile_cons_of_neg (by simp at hl ⊢; omega)]; rfl
   | cons a T ih =>
    rw [List.cons_append]
    by_cases ha : a = i
    ·rw [List.dropWhile_cons_of_pos (by simpa using ha), List.dropWhile_cons_of_pos (by simpa using ha)]
     exact ih
    ·rw [List.dropWhile_cons_of_neg (by simpa using ha), List.dropWhile_cons_of_neg (by simpa using ha), List.cons_append]
  have hh : ∀ l, (T.dropWhile (· == i) ++ [e]).headD l = (T.dropWhile (· == i) ++ [e]).headD 0 := fun l => by cases T.dropWhile (· == i) <;> rfl
  have h0 := fun U => ok_within (len := len) (len' := len') (e := e) xs (i + 1) U (by simp at hl; omega)
  simp only [okFrom, hdr]
  rw [hh len, hh len']
  cases hd : deepB x with
  | true =>
   have := h0 ((i + 1 + x.kids) :: T.dropWhile (· == i))
   simp only [List.cons_append] at this
   simp [this]
  | false => simp [h0 (T.dropWhile (· == i))]
theorem ok_behind {len e : Int} (ys : List Nd) : ∀ (xs : List Nd) (i : Int) (T : List Int), i + xs.length = e → e ≤ len → (∀ y ∈ T ++ [e], i ≤ y) → (T ++ [e]).Pairwise (· ≤ ·) → okFrom len i (T ++ [e]) (xs ++ ys) = true → okFrom len e [] ys = true
 | [], i, T, hl, hL, h0, h1, h => by
  have e : i = e := by simpa using hl
  subst e
  rw [List.nil_append] at h
  rw [ok_allI ys _ (fun y hy => ?_)] at h
  ·exact h
  ·have h2 := h0 y hy
   rcases List.mem_append.1 hy with hy | hy
   ·have := (List.pairwise_append.1 h1).2.2 y hy i (List.mem_singleton.2 rfl)
    omega
   ·simpa using hy
 | x :: xs, i, T, hl, hL, h0, h1, h => by
  have hdr : (T ++ [e]).dropWhile (· == i) = T.dropWhile (· == i) ++ [e] := by
   clear h0 h1 h
   induction T with
   | nil => rw [List.nil_append, List.dropWhile_cons_of_neg (by simp at hl ⊢; omega)]; rfl
   | cons a T ih =>
    rw [List.cons_append]
    by_cases ha : a = i
    ·rw [List.dropWhile_cons_of_pos (by simpa using ha), List.dropWhile_cons_of_pos (by simpa using ha)]
     exact ih
    ·rw [List.dropWhile_cons_of_neg (by simpa using ha), List.dropWhile_cons_of_neg (by simpa using ha), List.cons_append]
  simp only [List.cons_append, okFrom, Bool.and_eq_true] at h
  obtain ⟨⟨⟨hg, hk⟩, hd⟩, hr⟩ := h
  have hk' := of_decide_eq_true hk
  have h2 : ∀ y ∈ T ++ [e], y ≤ len := fun y hy => by
   rcases List.mem_append.1 hy with hy | hy
   ·have := (List.pairwise_append.1 h1).2.2 y hy e (List.mem_singleton.2 rfl)
    omega
   ·have : y = e := by simpa using hy
    omega
  obtain ⟨b0, b1, _⟩ := stack_step hg hk' h0 h1 h2
  rw [hdr] at b0 b1 hr
  cases hdp : deepB x with
  | true =>
   rw [hdp] at b0 b1 hr
   simp only [if_true] at b0 b1 hr
   rw [← List.cons_append] at b0 b1 hr
   exact ok_behind ys xs _ _ (by simp at hl; omega) hL b0 b1 hr
  | false =>
   rw [hdp] at b0 b1 hr
   simp only [Bool.false_eq_true, if_false] at b0 b1 hr
   exact ok_behind ys xs _ _ (by simp at hl; omega) hL b0 b1 hr
theorem ok_item {len i : Int} {x : Nd} {rest : List Nd} (hl : i + 1 + rest.length = len) (h : okFrom len i [] (x :: rest) = true) :
 x.kids.toNat ≤ rest.length ∧ 0 ≤ x.kids ∧ okFrom (((x :: rest.take x.kids.toNat).length : Nat) : Int) 0 [] (x :: rest.take x.kids.toNat) = true ∧ okFrom len (i + 1 + x.kids) [] (rest.drop x.kids.toNat) = true := by
 have h' := h
 simp only [okFrom, List.dropWhile_nil, List.headD_nil, Bool.and_eq_true] at h'
 obtain ⟨⟨⟨hg, hk⟩, hd⟩, hr⟩ := h'
 have hk' := of_decide_eq_true hk
 have hkn := good_kids hg
 obtain ⟨k, hkk⟩ : ∃ k : Nat, x.kids = k := ⟨x.kids.toNat, by omega⟩
 have hkt : x.kids.toNat = k := by omega
 have hkl : k ≤ rest.length := by omega
 rw [hkt]
 have hlen : (((x :: rest.take k).length : Nat) : Int) = 1 + k := by rw [List.length_cons, List.length_take]; omega
 refine ⟨hkl, hkn, ?_, ?_⟩
 ·rw [hlen]
  simp only [okFrom, List.dropWhile_nil, List.headD_nil, Bool.and_eq_true]
  refine ⟨⟨⟨hg, decide_eq_true (by omega)⟩, hd⟩, ?_⟩
  cases hdp : deepB x with
  | false =>
   have hk0 := flat_kids hg hdp
   have : k = 0 := by omega
   subst this
   rfl
  | true =>
   rw [hdp] at hr
   simp only [if_true] at hr ⊢
   have h1 : okFrom len (i + 1) [i + 1 + x.kids] (rest.take k) = true := ok_cut len (rest.drop k) _ _ _ (by rw [List.take_append_drop]; exact hr)
   have h2 := ok_shift (1 + k) i (rest.take k) (0 + 1) [0 + 1 + x.kids]
   rw [← h2]
   have h3 := ok_within (len := len) (len' := 1 + k + i) (e := i + 1 + x.kids) (rest.take k) (i + 1) [] (by rw [List.length_take]; omega)
   rw [List.nil_append, h1] at h3
   simp only [List.map_cons, List.map_nil]
   rw [show (0 : Int) + 1 + i = i + 1 by omega, show (0 : Int) + 1 + x.kids + i = i + 1 + x.kids by omega]
   exact h3.symm
 ·cases hdp : deepB x with
  | false =>
   have hk0 := flat_kids hg hdp
   have : k = 0 := by omega
   subst this
   rw [hdp] at hr
   simp only [Bool.false_eq_true, if_false] at hr
   rw [hk0, Int.add_zero]
   simpa using hr
  | true =>
   rw [hdp] at hr
   simp only [if_true] at hr
   refine ok_behind (rest.drop k) (rest.take k) (i + 1) [] (by rw [List.length_take]; omega) (by omega) ?_ (by simp) ?_
   ·intro y hy
    have : y = i + 1 + x.kids := by simpa using hy
    omega
   ·rw [List.take_append_drop]
    exact hr
theorem starts_fuel {xs : List Nd} : ∀ (f g i : Nat), xs.length - i < f → xs.length - i < g → starts xs f i = starts xs g i
 | 0, _, i, h, _ => by omega
 | _ + 1, 0, i, _, h => by omega
 | f + 1, g + 1, i, hf, hg => by
  simp only [starts]
  split
  ·rw [starts_fuel f g _ (by omega) (by omega)]
  ·rfl
theorem itemAt_drop {xs : List Nd} {p : Nat} (hp : p < xs.length) : itemAt xs p = xs.getD p Nd.none :: (xs.drop (p + 1)).take (xs.getD p Nd.none).kids.toNat := by
 unfold itemAt
 rw [List.drop_eq_getElem_cons hp, Nat.add_comm 1, List.take_succ_cons]
 simp [List.getD, List.getElem?_eq_getElem hp]
theorem starts_ok {xs : List Nd} : ∀ (f i : Nat), i ≤ xs.length → okFrom xs.length i [] (xs.drop i) = true → xs.length - i < f →
 ((starts xs f i).map (itemAt xs)).flatten = xs.drop i ∧ ∀ p ∈ starts xs f i, p < xs.length ∧ okFrom (((itemAt xs p).length : Nat) : Int) 0 [] (itemAt xs p) = true ∧ (xs.getD p Nd.none).kids.toNat = (itemAt xs p).length - 1
 | 0, i, _, _, h => by omega
 | f + 1, i, hi, h, hf => by
  simp only [starts]
  by_cases hlt : i < xs.length
  ·rw [if_pos hlt]
   rw [List.drop_eq_getElem_cons hlt] at h ⊢
   have hg : xs.getD i Nd.none = xs[i] := by simp [List.getD, List.getElem?_eq_getElem hlt]
   obtain ⟨h1, h2, h3, h4⟩ := ok_item (rest := xs.drop (i + 1)) (by rw [List.length_drop]; omega) h
   rw [← hg] at h1 h2 h3 h4 ⊢
   rw [List.length_drop] at h1
   have hd : (xs.drop (i + 1)).drop (xs.getD i Nd.none).kids.toNat = xs.drop (i + 1 + (xs.getD i Nd.none).kids.toNat) := by rw [List.drop_drop]
   rw [hd] at h4
   obtain ⟨r1, r2⟩ := starts_ok (xs := xs) f (i + 1 + (xs.getD i Nd.none).kids.toNat) (by omega) (by
    rw [show ((i + 1 + (xs.getD i Nd.none).kids.toNat : Nat) : Int) = (i : Int) + 1 + (xs.getD i Nd.none).kids by omega]
    exact h4) (by omega)
   have hit := itemAt_drop hlt
   refine ⟨?_, fun p hp => ?_⟩
   ·rw [List.map_cons, List.flatten_cons, r1, hit, List.cons_append, ← hd, List.take_append_drop]
   ·rcases List.mem_cons.1 hp with rfl | hp
    ·refine ⟨hlt, ?_, ?_⟩
     ·rw [hit]; exact h3
     ·rw [hit, List.length_cons, List.length_take, List.length_drop]; omega
    ·exact r2 p hp
  ·rw [if_neg hlt]
   have : xs.drop i = [] := List.drop_eq_nil_of_le (by omega)
   rw [this]
   exact ⟨rfl, fun p hp => by simp at hp⟩
theorem starts_app {a b : List Nd} : ∀ (f i : Nat), i ≤ a.length → okFrom a.length i [] (a.drop i) = true → a.length + b.length - i < f → starts (a ++ b) f i = starts a (a.length + 1) i ++ (starts b (b.length + 1) 0).map (· + a.length)
 | 0, i, _, _, h => by omega
 | f + 1, i, hi, h, hf => by
  by_cases hlt : i < a.length
  ·have hg : a.getD i Nd.none = a[i] := by simp [List.getD, List.getElem?_eq_getElem hlt]
   have hga : (a ++ b).getD i Nd.none = a.getD i Nd.none := by simp [List.getD, List.getElem?_append_left hlt]
   rw [List.drop_eq_getElem_cons hlt] at h
   obtain ⟨h1, h2, h3, h4⟩ := ok_item (rest := a.drop (i + 1)) (by rw [List.length_drop]; omega) h
   rw [← hg] at h1 h2 h4
   rw [List.length_drop] at h1
   rw [List.drop_drop] at h4
   have r := starts_app (a := a) (b := b) f (i + 1 + (a.getD i Nd.none).kids.toNat) (by omega) (by
    rw [show ((i + 1 + (a.getD i Nd.none).kids.toNat : Nat) : Int) = (i : Int) + 1 + (a.getD i Nd.none).kids by omega]
    exact h4) (by omega)
   rw [starts_fuel (xs := a) (a.length + 1) (a.length + 1 + 1) i (by omega) (by omega)]
   have st : ∀ (zs : List Nd) (f i : Nat), starts zs (f + 1) i = if i < zs.length then i :: starts zs f (i + 1 + (zs.getD i Nd.none).kids.toNat) else [] := fun _ _ _ => rfl
   rw [st (a ++ b) f i, st a (a.length + 1) i]
   rw [if_pos (by rw [List.length_append]; omega), if_pos hlt, hga, r, List.cons_append]
  ·have e : i = a.length := by omega
   subst e
   have hz : starts a (a.length + 1) a.length = [] := by simp [starts]
   rw [hz, List.nil_append]
   have : ∀ (f j : Nat), j ≤ b.length → b.length - j < f → starts (a ++ b) f (a.length + j) = (starts b f j).map (· + a.length) := by
    intro f
    induction f with
    | zero => intro j _ h; omega
    | succ f ih =>
     intro j hj hf
     simp only [starts]
     by_cases hjl : j < b.length
     ·rw [if_pos (by rw [List.length_append]; omega), if_pos hjl]
      have hg : (a ++ b).getD (a.length + j) Nd.none = b.getD j Nd.none := by simp [List.getD, List.getElem?_append_right]
      rw [hg, List.map_cons, Nat.add_comm a.length j]
      by_cases hz : j + 1 + (b.getD j Nd.none).kids.toNat ≤ b.length
      ·have := ih (j + 1 + (b.getD j Nd.none).kids.toNat) hz (by omega)
       rw [← this]
       congr 2
       omega
      ·have e1 : ∀ (g q : Nat), (a ++ b).length ≤ q → starts (a ++ b) g q = [] := fun g q hq => by
        cases g with
        | zero => rfl
        | succ g => simp only [starts]; rw [if_neg (by omega)]
       have e2 : ∀ (g q : Nat), b.length ≤ q → starts b g q = [] := fun g q hq => by
        cases g with
        | zero => rfl
        | succ g => simp only [starts]; rw [if_neg (by omega)]
       rw [e1 _ _ (by rw [List.length_append]; omega), e2 _ _ (by omega)]
       rfl
     ·rw [if_neg (by rw [List.length_append]; omega), if_neg hjl]
      rfl
   have h0 := this (f + 1) 0 (Nat.zero_le _) (by omega)
   rw [show a.length + 0 = a.length from rfl] at h0
   rw [h0, starts_fuel (xs := b) (f + 1) (b.length + 1) 0 (by omega) (by omega)]
theorem listB_iff {xs : List Nd} : listB xs = true ↔ xs.length ≤ 20000 ∧ okFrom xs.length 0 [] xs = true := by
 unfold listB; simp
end Go.Proofs.YtlohbaoigfaneaaGreat
