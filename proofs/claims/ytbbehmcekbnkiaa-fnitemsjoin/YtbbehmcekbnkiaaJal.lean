/-
  FnItemsJoin: the walk of the law.
-/
import Derived.Test.YtbbehmcekbnkiaaHlp
import Derived.Test.YtbbehmcekbnkiaaDan
import Derived.Test.YtbbehmcekbnkiaaSmn
namespace Go.Proofs.Ytbbehmcekbnkiaa
open Go.RowKit
set_option linter.unusedVariables false
set_option linter.unusedSimpArgs false

theorem dropW_map (s i : Int) : ∀ T : List Int, (T.map (· + s)).dropWhile (· == i + s) = (T.dropWhile (· == i)).map (· + s)
  | [] => rfl
  | a :: T => by
    rw [List.map_cons]
    by_cases h : a = i
    · subst h
      rw [List.dropWhile_cons_of_pos (by simp), List.dropWhile_cons_of_pos (by simp)]
      exact dropW_map s a T
    · rw [List.dropWhile_cons_of_neg (by simp; omega), List.dropWhile_cons_of_neg (by simp; omega), List.map_cons]
theorem ok_shift (len s : Int) : ∀ (xs : List Nd) (i : Int) (T : List Int), okFrom (len + s) (i + s) (T.map (· + s)) xs = okFrom len i T xs
  | [], i, T => rfl
  | x :: xs, i, T => by
    have hH : ∀ U : List Int, (U.map (· + s)).headD (len + s) = U.headD len + s := fun U => by cases U <;> rfl
    have h0 := ok_shift len s xs (i + 1) (if deepB x then (i + 1 + x.kids) :: T.dropWhile (· == i) else T.dropWhile (· == i))
    have e1 : List.map (· + s) (if deepB x then (i + 1 + x.kids) :: T.dropWhile (· == i) else T.dropWhile (· == i)) = if deepB x then (i + s + 1 + x.kids) :: (T.dropWhile (· == i)).map (· + s) else (T.dropWhile (· == i)).map (· + s) := by
      split
      · rw [List.map_cons, show i + 1 + x.kids + s = i + s + 1 + x.kids by omega]
      · rfl
    rw [e1, show i + 1 + s = i + s + 1 by omega] at h0
    simp only [okFrom, dropW_map, hH, List.length_map, h0]
    rw [show (decide (x.kids ≤ List.headD (List.dropWhile (fun x => x == i) T) len + s - (i + s) - 1)) = decide (x.kids ≤ List.headD (List.dropWhile (fun x => x == i) T) len - i - 1) by rw [decide_eq_decide]; omega]
theorem ok_cut (len : Int) (ys : List Nd) : ∀ (xs : List Nd) (i : Int) (T : List Int), okFrom len i T (xs ++ ys) = true → okFrom len i T xs = true
  | [], i, T, _ => rfl
  | x :: xs, i, T, h => by
    simp only [List.cons_append, okFrom, Bool.and_eq_true] at h ⊢
    exact ⟨h.1, ok_cut len ys xs _ _ h.2⟩
theorem ok_allI {L i : Int} (ys : List Nd) : ∀ (T : List Int), (∀ y ∈ T, y = i) → okFrom L i T ys = okFrom L i [] ys := by
  intro T hT
  cases ys with
  | nil => rfl
  | cons y ys =>
    have : T.dropWhile (· == i) = [] := by
      induction T with
      | nil => rfl
      | cons a T ih =>
        rw [List.dropWhile_cons_of_pos (by simpa using hT a (List.mem_cons_self ..))]
        exact ih fun y hy => hT y (List.mem_cons_of_mem _ hy)
    simp only [okFrom, this, List.dropWhile_nil]
    rfl
theorem dropW_mem {i y : Int} : ∀ {T : List Int}, y ∈ T.dropWhile (· == i) → y ∈ T
  | a :: T, h => by
    by_cases ha : a = i
    · rw [List.dropWhile_cons_of_pos (by simpa using ha)] at h
      exact List.mem_cons_of_mem _ (dropW_mem h)
    · rw [List.dropWhile_cons_of_neg (by simpa using ha)] at h
      exact h
theorem dropW_gt {i : Int} : ∀ {T : List Int}, (∀ y ∈ T, i ≤ y) → T.Pairwise (· ≤ ·) → ∀ y ∈ T.dropWhile (· == i), i + 1 ≤ y
  | a :: T, h, hp, y, hy => by
    by_cases ha : a = i
    · rw [List.dropWhile_cons_of_pos (by simpa using ha)] at hy
      exact dropW_gt (fun z hz => h z (List.mem_cons_of_mem _ hz)) (List.pairwise_cons.1 hp).2 y hy
    · rw [List.dropWhile_cons_of_neg (by simpa using ha)] at hy
      have h0 := h a (List.mem_cons_self ..)
      rcases List.mem_cons.1 hy with rfl | hy
      · omega
      · have := (List.pairwise_cons.1 hp).1 y hy
        omega
theorem dropW_pair {i : Int} : ∀ {T : List Int}, T.Pairwise (· ≤ ·) → (T.dropWhile (· == i)).Pairwise (· ≤ ·)
  | [], h => h
  | a :: T, hp => by
    by_cases ha : a = i
    · rw [List.dropWhile_cons_of_pos (by simpa using ha)]
      exact dropW_pair (List.pairwise_cons.1 hp).2
    · rw [List.dropWhile_cons_of_neg (by simpa using ha)]
      exact hp
/-- The stack behind one node. -/
theorem stack_step {len i : Int} {x : Nd} {T : List Int} (hg : goodB x = true) (hk : x.kids ≤ (T.dropWhile (· == i)).headD len - i - 1) (h0 : ∀ y ∈ T, i ≤ y) (h1 : T.Pairwise (· ≤ ·)) (h2 : ∀ y ∈ T, y ≤ len) :
    (∀ y ∈ (if deepB x then (i + 1 + x.kids) :: T.dropWhile (· == i) else T.dropWhile (· == i)), i + 1 ≤ y) ∧ (if deepB x then (i + 1 + x.kids) :: T.dropWhile (· == i) else T.dropWhile (· == i)).Pairwise (· ≤ ·) ∧ ∀ y ∈ (if deepB x then (i + 1 + x.kids) :: T.dropWhile (· == i) else T.dropWhile (· == i)), y ≤ len := by
  have hkn := good_kids hg
  have a1 := dropW_gt h0 h1
  have a2 := dropW_pair (i := i) h1
  have a3 : ∀ y ∈ T.dropWhile (· == i), y ≤ len := fun y hy => h2 y (dropW_mem hy)
  generalize T.dropWhile (· == i) = U at *
  have hh : U.headD len ≤ len := by
    cases U with
    | nil => simp
    | cons a U => simpa using a3 a (List.mem_cons_self ..)
  split
  · refine ⟨fun y hy => ?_, List.pairwise_cons.2 ⟨fun y hy => ?_, a2⟩, fun y hy => ?_⟩
    · rcases List.mem_cons.1 hy with rfl | hy
      · omega
      · exact a1 y hy
    · cases U with
      | nil => simp at hy
      | cons a U =>
        simp only [List.headD_cons] at hk
        rcases List.mem_cons.1 hy with rfl | hy
        · omega
        · have := (List.pairwise_cons.1 a2).1 y hy
          omega
    · rcases List.mem_cons.1 hy with rfl | hy
      · omega
      · exact a3 y hy
  · exact ⟨a1, a2, a3⟩
/-- Two lists, one behind the other. -/
theorem ok_app {L len : Int} (ys : List Nd) (hL : len ≤ L) (hy : okFrom L len [] ys = true) : ∀ (xs : List Nd) (i : Int) (T : List Int), i + xs.length = len → (∀ y ∈ T, i ≤ y) → T.Pairwise (· ≤ ·) → (∀ y ∈ T, y ≤ len) → okFrom len i T xs = true → okFrom L i T (xs ++ ys) = true
  | [], i, T, hl, h0, h1, h2, _ => by
    have e : i = len := by simpa using hl
    subst e
    rw [List.nil_append, ok_allI ys T (fun y hy => by have := h0 y hy; have := h2 y hy; omega)]
    exact hy
  | x :: xs, i, T, hl, h0, h1, h2, h => by
    simp only [List.cons_append, okFrom, Bool.and_eq_true] at h ⊢
    obtain ⟨⟨⟨hg, hk⟩, hd⟩, hr⟩ := h
    have hk' := of_decide_eq_true hk
    obtain ⟨b0, b1, b2⟩ := stack_step hg hk' h0 h1 h2
    refine ⟨⟨⟨hg, decide_eq_true ?_⟩, hd⟩, ok_app ys hL hy xs _ _ (by simp at hl; omega) b0 b1 b2 hr⟩
    cases he : T.dropWhile (· == i) with
    | nil => rw [he] at hk'; simp at hk' ⊢; omega
    | cons a U => rw [he] at hk'; simpa using hk'
/-- What lies within a node that holds some: beyond its end nothing counts. -/
theorem ok_within {len len' e : Int} : ∀ (xs : List Nd) (i : Int) (T : List Int), i + xs.length ≤ e → okFrom len i (T ++ [e]) xs = okFrom len' i (T ++ [e]) xs
  | [], _, _, _ => rfl
  | x :: xs, i, T, hl => by
    have hdr : (T ++ [e]).dropWhile (· == i) = T.dropWhile (· == i) ++ [e] := by
      induction T with
      | nil => rw [List.nil_append, List.dropWhile_cons_of_neg (by simp at hl ⊢; omega)]; rfl
      | cons a T ih =>
        rw [List.cons_append]
        by_cases ha : a = i
        · rw [List.dropWhile_cons_of_pos (by simpa using ha), List.dropWhile_cons_of_pos (by simpa using ha)]
          exact ih
        · rw [List.dropWhile_cons_of_neg (by simpa using ha), List.dropWhile_cons_of_neg (by simpa using ha), List.cons_append]
    have hh : ∀ l, (T.dropWhile (· == i) ++ [e]).headD l = (T.dropWhile (· == i) ++ [e]).headD 0 := fun l => by cases T.dropWhile (· == i) <;> rfl
    have h0 := fun U => ok_within (len := len) (len' := len') (e := e) xs (i + 1) U (by simp at hl; omega)
    simp only [okFrom, hdr]
    rw [hh len, hh len']
    cases hd : deepB x with
    | true =>
      have := h0 ((i + 1 + x.kids) :: T.dropWhile (· == i))
      simp only [List.cons_append] at this
      simp [this]
    | false => simp [h0 (T.dropWhile (· == i))]
theorem ok_behind {len e : Int} (ys : List Nd) : ∀ (xs : List Nd) (i : Int) (T : List Int), i + xs.length = e → e ≤ len → (∀ y ∈ T ++ [e], i ≤ y) → (T ++ [e]).Pairwise (· ≤ ·) → okFrom len i (T ++ [e]) (xs ++ ys) = true → okFrom len e [] ys = true
  | [], i, T, hl, hL, h0, h1, h => by
    have e : i = e := by simpa using hl
    subst e
    rw [List.nil_append] at h
    rw [ok_allI ys _ (fun y hy => ?_)] at h
    · exact h
    · have h2 := h0 y hy
      rcases List.mem_append.1 hy with hy | hy
      · have := (List.pairwise_append.1 h1).2.2 y hy i (List.mem_singleton.2 rfl)
        omega
      · simpa using hy
  | x :: xs, i, T, hl, hL, h0, h1, h => by
    have hdr : (T ++ [e]).dropWhile (· == i) = T.dropWhile (· == i) ++ [e] := by
      clear h0 h1 h
      induction T with
      | nil => rw [List.nil_append, List.dropWhile_cons_of_neg (by simp at hl ⊢; omega)]; rfl
      | cons a T ih =>
        rw [List.cons_append]
        by_cases ha : a = i
        · rw [List.dropWhile_cons_of_pos (by simpa using ha), List.dropWhile_cons_of_pos (by simpa using ha)]
          exact ih
        · rw [List.dropWhile_cons_of_neg (by simpa using ha), List.dropWhile_cons_of_neg (by simpa using ha), List.cons_append]
    simp only [List.cons_append, okFrom, Bool.and_eq_true] at h
    obtain ⟨⟨⟨hg, hk⟩, hd⟩, hr⟩ := h
    have hk' := of_decide_eq_true hk
    have h2 : ∀ y ∈ T ++ [e], y ≤ len := fun y hy => by
      rcases List.mem_append.1 hy with hy | hy
      · have := (List.pairwise_append.1 h1).2.2 y hy e (List.mem_singleton.2 rfl)
        omega
      · have : y = e := by simpa using hy
        omega
    obtain ⟨b0, b1, _⟩ := stack_step hg hk' h0 h1 h2
    rw [hdr] at b0 b1 hr
    cases hdp : deepB x with
    | true =>
      rw [hdp] at b0 b1 hr
      simp only [if_true] at b0 b1 hr
      rw [← List.cons_append] at b0 b1 hr
      exact ok_behind ys xs _ _ (by simp at hl; omega) hL b0 b1 hr
    | false =>
      rw [hdp] at b0 b1 hr
      simp only [Bool.false_eq_true, if_false] at b0 b1 hr
      exact ok_behind ys xs _ _ (by simp at hl; omega) hL b0 b1 hr
/-- The first item of a list, and the rest. -/
theorem ok_item {len i : Int} {x : Nd} {rest : List Nd} (hl : i + 1 + rest.length = len) (h : okFrom len i [] (x :: rest) = true) :
    x.kids.toNat ≤ rest.length ∧ 0 ≤ x.kids ∧ okFrom (((x :: rest.take x.kids.toNat).length : Nat) : Int) 0 [] (x :: rest.take x.kids.toNat) = true ∧ okFrom len (i + 1 + x.kids) [] (rest.drop x.kids.toNat) = true := by
  have h' := h
  simp only [okFrom, List.dropWhile_nil, List.headD_nil, Bool.and_eq_true] at h'
  obtain ⟨⟨⟨hg, hk⟩, hd⟩, hr⟩ := h'
  have hk' := of_decide_eq_true hk
  have hkn := good_kids hg
  obtain ⟨k, hkk⟩ : ∃ k : Nat, x.kids = k := ⟨x.kids.toNat, by omega⟩
  have hkt : x.kids.toNat = k := by omega
  have hkl : k ≤ rest.length := by omega
  rw [hkt]
  have hlen : (((x :: rest.take k).length : Nat) : Int) = 1 + k := by rw [List.length_cons, List.length_take]; omega
  refine ⟨hkl, hkn, ?_, ?_⟩
  · rw [hlen]
    simp only [okFrom, List.dropWhile_nil, List.headD_nil, Bool.and_eq_true]
    refine ⟨⟨⟨hg, decide_eq_true (by omega)⟩, hd⟩, ?_⟩
    cases hdp : deepB x with
    | false =>
      have hk0 := flat_kids hg hdp
      have : k = 0 := by omega
      subst this
      rfl
    | true =>
      rw [hdp] at hr
      simp only [if_true] at hr ⊢
      have h1 : okFrom len (i + 1) [i + 1 + x.kids] (rest.take k) = true := ok_cut len (rest.drop k) _ _ _ (by rw [List.take_append_drop]; exact hr)
      have h2 := ok_shift (1 + k) i (rest.take k) (0 + 1) [0 + 1 + x.kids]
      rw [← h2]
      have h3 := ok_within (len := len) (len' := 1 + k + i) (e := i + 1 + x.kids) (rest.take k) (i + 1) [] (by rw [List.length_take]; omega)
      rw [List.nil_append, h1] at h3
      simp only [List.map_cons, List.map_nil]
      rw [show (0 : Int) + 1 + i = i + 1 by omega, show (0 : Int) + 1 + x.kids + i = i + 1 + x.kids by omega]
      exact h3.symm
  · cases hdp : deepB x with
    | false =>
      have hk0 := flat_kids hg hdp
      have : k = 0 := by omega
      subst this
      rw [hdp] at hr
      simp only [Bool.false_eq_true, if_false] at hr
      rw [hk0, Int.add_zero]
      simpa using hr
    | true =>
      rw [hdp] at hr
      simp only [if_true] at hr
      refine ok_behind (rest.drop k) (rest.take k) (i + 1) [] (by rw [List.length_take]; omega) (by omega) ?_ (by simp) ?_
      · intro y hy
        have : y = i + 1 + x.kids := by simpa using hy
        omega
      · rw [List.take_append_drop]
        exact hr
theorem starts_fuel {xs : List Nd} : ∀ (f g i : Nat), xs.length - i < f → xs.length - i < g → starts xs f i = starts xs g i
  | 0, _, i, h, _ => by omega
  | _ + 1, 0, i, _, h => by omega
  | f + 1, g + 1, i, hf, hg => by
    simp only [starts]
    split
    · rw [starts_fuel f g _ (by omega) (by omega)]
    · rfl
theorem itemAt_drop {xs : List Nd} {p : Nat} (hp : p < xs.length) : itemAt xs p = xs.getD p Nd.none :: (xs.drop (p + 1)).take (xs.getD p Nd.none).kids.toNat := by
  unfold itemAt
  rw [List.drop_eq_getElem_cons hp, Nat.add_comm 1, List.take_succ_cons]
  simp [List.getD, List.getElem?_eq_getElem hp]
/-- A list of one item. -/
theorem one_item {x : Nd} {rest : List Nd} (hl : (x :: rest).length ≤ 20000) (hk : x.kids.toNat = rest.length) (h : okFrom (((x :: rest).length : Nat) : Int) 0 [] (x :: rest) = true) : (itemsOf (x :: rest)).length = 1 := by
  unfold itemsOf listB
  rw [h, decide_eq_true hl]
  simp only [Bool.and_self, if_true, List.length_map]
  rw [show (x :: rest).length + 1 = rest.length + 1 + 1 from rfl]
  simp only [starts, List.length_cons, Nat.zero_lt_succ, if_true, List.getD_cons_zero, hk]
  rw [if_neg (by omega)]
  rfl
theorem starts_ok {xs : List Nd} : ∀ (f i : Nat), i ≤ xs.length → okFrom xs.length i [] (xs.drop i) = true → xs.length - i < f →
    ((starts xs f i).map (itemAt xs)).flatten = xs.drop i ∧ ∀ p ∈ starts xs f i, p < xs.length ∧ okFrom (((itemAt xs p).length : Nat) : Int) 0 [] (itemAt xs p) = true ∧ (xs.getD p Nd.none).kids.toNat = (itemAt xs p).length - 1
  | 0, i, _, _, h => by omega
  | f + 1, i, hi, h, hf => by
    simp only [starts]
    by_cases hlt : i < xs.length
    · rw [if_pos hlt]
      rw [List.drop_eq_getElem_cons hlt] at h ⊢
      have hg : xs.getD i Nd.none = xs[i] := by simp [List.getD, List.getElem?_eq_getElem hlt]
      obtain ⟨h1, h2, h3, h4⟩ := ok_item (rest := xs.drop (i + 1)) (by rw [List.length_drop]; omega) h
      rw [← hg] at h1 h2 h3 h4 ⊢
      rw [List.length_drop] at h1
      have hd : (xs.drop (i + 1)).drop (xs.getD i Nd.none).kids.toNat = xs.drop (i + 1 + (xs.getD i Nd.none).kids.toNat) := by rw [List.drop_drop]
      rw [hd] at h4
      obtain ⟨r1, r2⟩ := starts_ok (xs := xs) f (i + 1 + (xs.getD i Nd.none).kids.toNat) (by omega) (by
        rw [show ((i + 1 + (xs.getD i Nd.none).kids.toNat : Nat) : Int) = (i : Int) + 1 + (xs.getD i Nd.none).kids by omega]
        exact h4) (by omega)
      have hit := itemAt_drop hlt
      refine ⟨?_, fun p hp => ?_⟩
      · rw [List.map_cons, List.flatten_cons, r1, hit, List.cons_append, ← hd, List.take_append_drop]
      · rcases List.mem_cons.1 hp with rfl | hp
        · refine ⟨hlt, ?_, ?_⟩
          · rw [hit]; exact h3
          · rw [hit, List.length_cons, List.length_take, List.length_drop]; omega
        · exact r2 p hp
    · rw [if_neg hlt]
      have : xs.drop i = [] := List.drop_eq_nil_of_le (by omega)
      rw [this]
      exact ⟨rfl, fun p hp => by simp at hp⟩
theorem starts_app {a b : List Nd} : ∀ (f i : Nat), i ≤ a.length → okFrom a.length i [] (a.drop i) = true → a.length + b.length - i < f → starts (a ++ b) f i = starts a (a.length + 1) i ++ (starts b (b.length + 1) 0).map (· + a.length)
  | 0, i, _, _, h => by omega
  | f + 1, i, hi, h, hf => by
    by_cases hlt : i < a.length
    · have hg : a.getD i Nd.none = a[i] := by simp [List.getD, List.getElem?_eq_getElem hlt]
      have hga : (a ++ b).getD i Nd.none = a.getD i Nd.none := by simp [List.getD, List.getElem?_append_left hlt]
      rw [List.drop_eq_getElem_cons hlt] at h
      obtain ⟨h1, h2, h3, h4⟩ := ok_item (rest := a.drop (i + 1)) (by rw [List.length_drop]; omega) h
      rw [← hg] at h1 h2 h4
      rw [List.length_drop] at h1
      rw [List.drop_drop] at h4
      have r := starts_app (a := a) (b := b) f (i + 1 + (a.getD i Nd.none).kids.toNat) (by omega) (by
        rw [show ((i + 1 + (a.getD i Nd.none).kids.toNat : Nat) : Int) = (i : Int) + 1 + (a.getD i Nd.none).kids by omega]
        exact h4) (by omega)
      rw [starts_fuel (xs := a) (a.length + 1) (a.length + 1 + 1) i (by omega) (by omega)]
      have st : ∀ (zs : List Nd) (f i : Nat), starts zs (f + 1) i = if i < zs.length then i :: starts zs f (i + 1 + (zs.getD i Nd.none).kids.toNat) else [] := fun _ _ _ => rfl
      rw [st (a ++ b) f i, st a (a.length + 1) i]
      rw [if_pos (by rw [List.length_append]; omega), if_pos hlt, hga, r, List.cons_append]
    · have e : i = a.length := by omega
      subst e
      have hz : starts a (a.length + 1) a.length = [] := by simp [starts]
      rw [hz, List.nil_append]
      have : ∀ (f j : Nat), j ≤ b.length → b.length - j < f → starts (a ++ b) f (a.length + j) = (starts b f j).map (· + a.length) := by
        intro f
        induction f with
        | zero => intro j _ h; omega
        | succ f ih =>
          intro j hj hf
          simp only [starts]
          by_cases hjl : j < b.length
          · rw [if_pos (by rw [List.length_append]; omega), if_pos hjl]
            have hg : (a ++ b).getD (a.length + j) Nd.none = b.getD j Nd.none := by simp [List.getD, List.getElem?_append_right]
            rw [hg, List.map_cons, Nat.add_comm a.length j]
            by_cases hz : j + 1 + (b.getD j Nd.none).kids.toNat ≤ b.length
            · have := ih (j + 1 + (b.getD j Nd.none).kids.toNat) hz (by omega)
              rw [← this]
              congr 2
              omega
            · have e1 : ∀ (g q : Nat), (a ++ b).length ≤ q → starts (a ++ b) g q = [] := fun g q hq => by
                cases g with
                | zero => rfl
                | succ g => simp only [starts]; rw [if_neg (by omega)]
              have e2 : ∀ (g q : Nat), b.length ≤ q → starts b g q = [] := fun g q hq => by
                cases g with
                | zero => rfl
                | succ g => simp only [starts]; rw [if_neg (by omega)]
              rw [e1 _ _ (by rw [List.length_append]; omega), e2 _ _ (by omega)]
              rfl
          · rw [if_neg (by rw [List.length_append]; omega), if_neg hjl]
            rfl
      have h0 := this (f + 1) 0 (Nat.zero_le _) (by omega)
      rw [show a.length + 0 = a.length from rfl] at h0
      rw [h0, starts_fuel (xs := b) (f + 1) (b.length + 1) 0 (by omega) (by omega)]
theorem listB_iff {xs : List Nd} : listB xs = true ↔ xs.length ≤ 20000 ∧ okFrom xs.length 0 [] xs = true := by
  unfold listB; simp
theorem items_flat {xs : List Nd} (h : listB xs = true) : (itemsOf xs).flatten = xs := by
  have := (starts_ok (xs := xs) (xs.length + 1) 0 (Nat.zero_le _) (listB_iff.1 h).2 (by omega)).1
  unfold itemsOf
  rw [if_pos h]
  simpa using this
theorem items_one {xs : List Nd} (h : listB xs = true) {i : Nat} (hi : i < (itemsOf xs).length) : (itemsOf ((itemsOf xs).getD i [])).length = 1 := by
  have h1 := (starts_ok (xs := xs) (xs.length + 1) 0 (Nat.zero_le _) (listB_iff.1 h).2 (by omega)).2
  have hm : ∃ p ∈ starts xs (xs.length + 1) 0, (itemsOf xs).getD i [] = itemAt xs p := by
    unfold itemsOf at hi ⊢
    rw [if_pos h] at hi ⊢
    rw [List.length_map] at hi
    exact ⟨_, List.getElem_mem hi, by simp [List.getD, List.getElem?_eq_getElem hi]⟩
  obtain ⟨p, hp, e⟩ := hm
  rw [e]
  obtain ⟨a1, a2, a3⟩ := h1 p hp
  have hl : (itemAt xs p).length ≤ xs.length := by unfold itemAt; rw [List.length_take, List.length_drop]; omega
  rw [itemAt_drop a1] at a2 a3 hl ⊢
  exact one_item (by have := (listB_iff.1 h).1; omega) (by rw [List.length_cons] at a3; omega) a2
theorem items_app {a b : List Nd} (ha : listB a = true) (hb : listB b = true) (hl : a.length + b.length ≤ 20000) : (itemsOf (a ++ b)).length = (itemsOf a).length + (itemsOf b).length := by
  have a2 := (listB_iff.1 ha).2
  have b2 := (listB_iff.1 hb).2
  have hab : listB (a ++ b) = true := by
    refine listB_iff.2 ⟨by rw [List.length_append]; exact hl, ?_⟩
    rw [List.length_append]
    refine ok_app (len := a.length) b (by omega) ?_ a 0 [] (by omega) (by simp) (by simp) (by simp) a2
    have := ok_shift b.length a.length b 0 []
    rw [b2] at this
    rw [← this]
    simp only [List.map_nil]
    congr 1 <;> omega
  unfold itemsOf
  rw [if_pos ha, if_pos hb, if_pos hab, List.length_map, List.length_map, List.length_map, starts_app _ 0 (Nat.zero_le _) (by simpa using a2) (by rw [List.length_append]; omega), List.length_append, List.length_map]

theorem big_any (ao : Option Addr) (len cap : Nat) (w : World) (hl : len ≤ 9223372036854775807) : Calls Try.prog 4 #[.slice ao len cap] w fun e w' => e = .returned (.bool (decide (1048576 < len))) ∧ w' = w := by
  by_cases h : 1048576 < len
  · have hi : (1048576 : Int) < (len : Int) := by omega
    go_enter Try.func4, Try.ntmps4
    go_wp2
    go_ret
    exact ⟨by simp [h], rfl⟩
  · have hi : ¬ (1048576 : Int) < (len : Int) := by omega
    go_enter Try.func4, Try.ntmps4
    go_wp2
    go_ret
    exact ⟨by simp [h], rfl⟩

theorem drawItems_any (ao : Option Addr) (len cap : Nat) (w : World) (hB : Bytes w ao len cap) :
    Calls Try.prog 5 #[.slice ao len cap] w fun e w' => (∃ u xs, e = .returned u ∧ w'.ownsRow w.heap.size 32 15 u xs.length (flatN xs) ∧ xs.length ≤ 20001) ∧ Below w.heap.size w w' := by
  have HB := hideD hB
  clear hB
  go_enter Try.func5, Try.ntmps5
  go_wp2_with fail
  refine (new_any ao len cap w HB.out).mono ?_
  rintro e w1 ⟨rfl, c1⟩
  have C1 := hideP c1
  clear c1
  go_wp2_with fail
  refine (drawAny_any ao len cap w w1 HB.out C1.out).mono ?_
  rintro e w2 ⟨u, n, rfl, hou, hn, c2, f2⟩
  have hlt := C1.out.lt
  obtain ⟨xs, hl, hx⟩ := hou
  obtain ⟨i, h, _, _, _, hbel⟩ := c2
  have HBE := hideP hbel
  have HX : Hid (w2.ownsRow w.heap.size 32 15 u xs.length (flatN xs)) := hideP (by rw [hl]; exact own_mon hx (by omega))
  have hn' : xs.length ≤ 20001 := by omega
  obtain ⟨ua, uc, hue⟩ := own_shp hx
  subst hue
  clear hx hbel hl
  go_wp2
  go_ret
  exact ⟨⟨_, xs, rfl, HX.out, hn'⟩, HBE.out⟩
end Go.Proofs.Ytbbehmcekbnkiaa
namespace Go.Proofs.Ytbbehmcekbnkiaa
open Go.RowKit Go.Shelf
set_option linter.unusedVariables false
set_option linter.unusedSimpArgs false

theorem kern_good : goodB ⟨2, 0, 0, 0, 0, 0, 0, 0, 0, 0, 0, 0, 0, ⟨#[]⟩, 0⟩ = true := by
  rw [← good_2, (eqNd_iff _ _).2 rfl, fits0]; rfl
theorem kern_list : listB [⟨2, 0, 0, 0, 0, 0, 0, 0, 0, 0, 0, 0, 0, ⟨#[]⟩, 0⟩] = true := by
  simp [listB, okFrom, kern_good, deepB]
theorem own_N0 {base : Nat} {w : World} {v : Value} {xs : List Nd} (h : w.ownsRow base 32 15 v xs.length (flatN xs)) : NRow 0 w v xs := SRow.mono ndStable (own_NRow h rfl) (Nat.zero_le _)
/-- Items of a row of one's own. -/
theorem itemsO {base : Nat} {w : World} {v : Value} {xs : List Nd} (h : w.ownsRow base 32 15 v xs.length (flatN xs)) (hs : xs.length ≤ 1048576) :
    Calls Try.prog 6 #[v] w fun e W' => (∃ a c vs, e = .returned (.slice a (itemsOf xs).length c) ∧ W'.ownsRow w.heap.size 24 1 (.slice a (itemsOf xs).length c) (itemsOf xs).length vs ∧ Lsts w.heap.size W' vs (fun i => (itemsOf xs).getD i [])) ∧ Below w.heap.size w W' := by
  refine (callsIn_wide.1 (implItems_in (own_N0 h) hs (own_cap h))).mono ?_
  rintro e w' ⟨⟨u, vs, rfl, h1, h2⟩, hb⟩
  obtain ⟨a, c, rfl, _⟩ := own25_shape h1
  exact ⟨⟨a, c, vs, rfl, h1, h2⟩, hb⟩
/-- What is known of the items, in every world that keeps what was there. -/
def ItQ (S : World) (a : Option Addr) (m : Nat) (f : Nat → List Nd) : Prop :=
  ∀ i, i < m → ∃ g u base, a = some ⟨g, 0, none⟩ ∧ g < S.heap.size ∧ ∀ X, Below S.heap.size S X → X.cell? ⟨g, i, none⟩ = some u ∧ X.ownsRow base 32 15 u (f i).length (flatN (f i))
theorem ItQ.of {base m c : Nat} {S : World} {a : Option Addr} {vs : List Value} {f : Nat → List Nd} (h : S.ownsRow base 24 1 (.slice a m c) m vs) (hl : Lsts base S vs f) : ItQ S a m f := by
  intro i hi
  have hlen := own25_len h
  obtain ⟨ao, cap, he, hg⟩ := own25_shape h
  cases he
  obtain ⟨g, rfl, hg0, hgl⟩ := hg (by omega)
  have hvi : vs[i]? = some vs[i] := List.getElem?_eq_getElem (by omega)
  refine ⟨g, vs[i], base, rfl, hgl, fun X hX => ⟨(hX.cell (p := ⟨g, i, none⟩) hgl).trans (own25_cell h hvi).1, own_below (hl.own i _ hvi) hX⟩⟩
theorem take_flat {xs : List (List Nd)} {i : Nat} (hi : i < xs.length) : (xs.take (i + 1)).flatten = (xs.take i).flatten ++ xs.getD i [] := by
  rw [List.take_add_one, List.getElem?_eq_getElem hi, List.flatten_append]
  simp [List.getD, List.getElem?_eq_getElem hi]
theorem flat_le (xs : List (List Nd)) (i : Nat) : (xs.take i).flatten.length ≤ xs.flatten.length := by
  conv => rhs; rw [← List.take_append_drop i xs, List.flatten_append, List.length_append]
  omega
theorem item_le {xs : List (List Nd)} {i : Nat} (hi : i < xs.length) : (xs.getD i []).length ≤ xs.flatten.length := by
  have h := flat_le xs (i + 1)
  rw [take_flat hi, List.length_append] at h
  omega

set_option maxRecDepth 20000 in
set_option maxHeartbeats 16000000 in
theorem itemsJoin_any (a0 : Option Addr) (len0 cap0 : Nat) (a1 : Option Addr) (len1 cap1 : Nat) (w : World) (hB0 : len0 ≤ 1048576 → Bytes w a0 len0 cap0) (hB1 : len1 ≤ 1048576 → Bytes w a1 len1 cap1) (hl0 : len0 ≤ 9223372036854775807) (hl1 : len1 ≤ 9223372036854775807) :
    Calls Try.prog 3 #[.slice a0 len0 cap0, .slice a1 len1 cap1] w fun e w' => e = .returned (.bool true) ∧ Below w.heap.size w w' := by
  by_cases h0 : 1048576 < len0
  · have hd0 : decide (1048576 < len0) = true := by simp [h0]
    go_enter Try.func3, Try.ntmps3
    go_wp2_with fail
    refine (big_any a0 len0 cap0 w hl0).mono ?_
    rintro e w1 ⟨rfl, h1⟩
    have h1 := h1.symm
    subst h1
    rw [hd0]
    go_wp2
    go_ret
    exact ⟨rfl, Below.refl _ _⟩
  · have hd0 : decide (1048576 < len0) = false := by simp [h0]
    by_cases h1 : 1048576 < len1
    · have hd1 : decide (1048576 < len1) = true := by simp [h1]
      go_enter Try.func3, Try.ntmps3
      go_wp2_with fail
      refine (big_any a0 len0 cap0 w hl0).mono ?_
      rintro e w1 ⟨rfl, h2⟩
      have h2 := h2.symm
      subst h2
      rw [hd0]
      go_wp2_with fail
      refine (big_any a1 len1 cap1 w hl1).mono ?_
      rintro e w2 ⟨rfl, h2⟩
      have h2 := h2.symm
      subst h2
      rw [hd1]
      go_wp2
      go_ret
      exact ⟨rfl, Below.refl _ _⟩
    · have hd1 : decide (1048576 < len1) = false := by simp [h1]
      have HB0 := hideP (hB0 (by omega))
      have HB1 := hideP (hB1 (by omega))
      clear hB0 hB1
      go_enter Try.func3, Try.ntmps3
      go_wp2_with fail
      refine (big_any a0 len0 cap0 w hl0).mono ?_
      rintro e w1 ⟨rfl, h2⟩
      have h2 := h2.symm
      subst h2
      rw [hd0]
      go_wp2_with fail
      refine (big_any a1 len1 cap1 w hl1).mono ?_
      rintro e w2 ⟨rfl, h2⟩
      have h2 := h2.symm
      subst h2
      rw [hd1]
      clear hd0 hd1 h0 h1
      go_wp2_with fail
      refine (drawItems_any a0 len0 cap0 w HB0.out).mono ?_
      rintro e w1 ⟨⟨u, xs, rfl, hox, hxl⟩, hb1⟩
      obtain ⟨ua, uc, hue⟩ := own_shp hox
      subst hue
      have HX1 := hideP hox
      have HBy := hideP (HB1.out.kept hb1)
      have B1 := hideP hb1
      clear hox hb1 HB0 HB1
      go_wp2_with fail
      refine (drawItems_any a1 len1 cap1 w1 HBy.out).mono ?_
      rintro e w2 ⟨⟨u', ys, rfl, hoy, hyl⟩, hb2⟩
      obtain ⟨ya, yc, hye⟩ := own_shp hoy
      subst hye
      have HX2 := hideP (own_below HX1.out hb2)
      have HY2 := hideP hoy
      have B2 : Hid (Below w.heap.size w w2) := hideP (below_more B1.out hb2 B1.out.size)
      clear hoy hb2 HX1 HBy B1
      obtain ⟨mx, hmx⟩ : ∃ mx, mx = (itemsOf xs).length := ⟨_, rfl⟩
      obtain ⟨my, hmy⟩ : ∃ my, my = (itemsOf ys).length := ⟨_, rfl⟩
      have HMX := hideP hmx
      have HMY := hideP hmy
      clear hmx hmy
      go_wp2_with fail
      refine (itemsO HX2.out (by omega)).mono ?_
      rintro e w3 ⟨⟨ia, ic, vs, rfl, hvx, hlx⟩, hb3⟩
      have HX3 := hideP (own_below HX2.out hb3)
      have HY3 := hideP (own_below HY2.out hb3)
      have B3 : Hid (Below w.heap.size w w3) := hideP (below_more B2.out hb3 B2.out.size)
      rw [← HMX.out] at hvx
      have HV := hideP hvx
      have HLX := hideP hlx
      clear hb3 HX2 HY2 B2 hvx hlx
      rw [← HMX.out]
      go_wp2_with fail
      refine (itemsO HY3.out (by omega)).mono ?_
      rintro e w4 ⟨⟨ja, jc, vt, rfl, hvy, _⟩, hb4⟩
      have HX4 := hideP (own_below HX3.out hb4)
      have HY4 := hideP (own_below HY3.out hb4)
      have B4 : Hid (Below w.heap.size w w4) := hideP (below_more B3.out hb4 B3.out.size)
      have HQ4 : Hid (ItQ w4 ia mx (fun i => (itemsOf xs).getD i [])) := hideP (ItQ.of (own25_below HV.out hb4) (HLX.out.below hb4))
      rw [← HMY.out]
      have hmxb : mx ≤ 20001 := by
        have h := own25_len HV.out
        have h2 : (itemsOf xs).length ≤ xs.length := by
          unfold itemsOf
          split
          · rw [List.length_map]; have := starts_count (xs := xs) (xs.length + 1) 0; omega
          · exact Nat.zero_le _
        have := HMX.out
        omega
      have hmyb : my ≤ 20001 := by
        have h2 : (itemsOf ys).length ≤ ys.length := by
          unfold itemsOf
          split
          · rw [List.length_map]; have := starts_count (xs := ys) (ys.length + 1) 0; omega
          · exact Nat.zero_le _
        have := HMY.out
        omega
      clear hb4 HX3 HY3 B3 hvy HV HLX
      go_upto_region 7 with fail
      go_cut [40] (fun s40 wc => (∃ t : Bool, s40 = .bool t ∧ (t = false → Hid (listB xs = true ∧ listB ys = true ∧ xs.length + ys.length ≤ 20000))) ∧ Hid (Below w4.heap.size w4 wc))
      case first =>
        go_wp2_with fail
        refine (implListOk_any (own_N0 HX4.out) (by omega)).mono ?_
        rintro e w5 ⟨rfl, hb5⟩
        have HY5 := hideP (own_below HY4.out hb5)
        have B5 := hideP hb5
        clear hb5
        cases hx : listB xs with
        | false =>
          go_wp2
          go_meet
          case rel => exact ⟨⟨_, rfl, fun h => by cases h⟩, B5⟩
        | true =>
          have HXT := hideP hx
          clear hx
          go_wp2_with fail
          refine (implListOk_any (own_N0 HY5.out) (by omega)).mono ?_
          rintro e w6 ⟨rfl, hb6⟩
          have B6 : Hid (Below w4.heap.size w4 w6) := hideP (below_more B5.out hb6 B5.out.size)
          clear hb6
          cases hy : listB ys with
          | false =>
            go_wp2
            go_meet
            case rel => exact ⟨⟨_, rfl, fun h => by cases h⟩, B6⟩
          | true =>
            have HYT := hideP hy
            clear hy
            by_cases hsum : (20000 : Int) < (xs.length : Int) + (ys.length : Int)
            · have hsd : decide ((20000 : Int) < (xs.length : Int) + (ys.length : Int)) = true := by simp; omega
              go_wp2
              go_meet
              case rel => exact ⟨⟨_, rfl, fun h => by cases h⟩, B6⟩
            · have hsd : decide ((20000 : Int) < (xs.length : Int) + (ys.length : Int)) = false := by simp; omega
              have HSUM := hideP hsum
              clear hsum
              go_wp2
              go_meet
              case rel => exact ⟨⟨_, rfl, fun _ => hideP ⟨HXT.out, HYT.out, by have := HSUM.out; omega⟩⟩, B6⟩
      case rest =>
        obtain ⟨⟨t, rfl, hT⟩, B5⟩ := hcut
        have HX5 := hideP (own_below HX4.out B5.out)
        have HY5 := hideP (own_below HY4.out B5.out)
        have BW : Hid (Below w.heap.size w wc) := hideP (below_more B4.out B5.out B4.out.size)
        have HQ5 : Hid (ItQ wc ia mx (fun i => (itemsOf xs).getD i [])) := hideP (fun i hi => by
          obtain ⟨g, u, base, h1, h2, h3⟩ := HQ4.out i hi
          exact ⟨g, u, base, h1, Nat.lt_of_lt_of_le h2 B5.out.size, fun X hX => h3 X (below_more B5.out hX B5.out.size)⟩)
        clear HX4 HY4 B4 HQ4 B5
        cases t with
        | true =>
          clear hT HQ5 HX5 HY5
          have HN : Hid (NRow 0 (wc.alloc (ndO ⟨2, 0, 0, 0, 0, 0, 0, 0, 0, 0, 0, 0, 0, ⟨#[]⟩, 0⟩)) (.slice (some ⟨wc.heap.size, 0, none⟩) 1 1) [⟨2, 0, 0, 0, 0, 0, 0, 0, 0, 0, 0, 0, 0, ⟨#[]⟩, 0⟩]) := hideP (own_N0 (base := 0) (one_own wc _ (Nat.zero_le _)))
          go_wp2_with fail
          refine (implListOk_any HN.out (by simp)).mono ?_
          rintro e w6 ⟨rfl, hb6⟩
          have B6 : Hid (Below w.heap.size w w6) := hideP (below_more (BW.out.alloc BW.out.size _) hb6 (by have := BW.out.size; simp; omega))
          rw [kern_list]
          clear hb6 HN
          go_wp2
          go_ret
          exact ⟨rfl, B6.out⟩
        | false =>
          have HT := hT rfl
          clear hT
          obtain ⟨S, hS⟩ : ∃ S : World, S = wc := ⟨_, rfl⟩
          rw [← hS] at HX5 HY5 BW HQ5
          rw [← hS]
          clear hS
          have D0 : Hid ((S.alloc (.cells #[] 32)).ownsRow S.heap.size 32 15 (.slice (some ⟨S.heap.size, 0, none⟩) 0 0) 0 (flatN [])) := hideP ⟨rfl, .inr ⟨_, _, _, rfl, Nat.le_refl _, heap_alloc_new S _, Nat.le_refl _, by unfold maxLen; omega, rfl, rfl⟩⟩
          have HFL : Hid ((itemsOf xs).flatten = xs) := hideP (items_flat HT.out.1)
          go_wp2_with fail
          go_loopw [9, 10] (fun s9 s10 wi => ∃ (i : Nat) (a : Option Addr) (k c : Nat), i ≤ mx ∧ s10 = .int .i64 (i : Int) ∧ s9 = .slice a k c ∧ k ≤ 20001 ∧ Hid (k = ((itemsOf xs).take i).flatten.length ∧ wi.ownsRow S.heap.size 32 15 (.slice a k c) k (flatN ((itemsOf xs).take i).flatten)) ∧ Hid (Below S.heap.size S wi)) (fun _ s10 _ => mx - (intOf s10).toNat)
          case atStart => exact ⟨0, _, 0, 0, Nat.zero_le _, rfl, rfl, Nat.zero_le _, hideP ⟨rfl, D0.out⟩, hideP (below1 S _)⟩
          case round =>
            obtain ⟨i, aa, k, ac, hi, rfl, rfl, hk, HA, BA⟩ := hrel
            clear D0
            by_cases hlt : i < mx
            · have hli : (i : Int) < (mx : Int) := by omega
              obtain ⟨g, u, base, hia, hgl, hq⟩ := HQ5.out i hlt
              subst hia
              have hlt2 : i < (itemsOf xs).length := by rw [← HMX.out]; exact hlt
              obtain ⟨it, hit⟩ : ∃ it, it = (itemsOf xs).getD i [] := ⟨_, rfl⟩
              have hone : (itemsOf it).length = 1 := by rw [hit]; exact items_one HT.out.1 hlt2
              have hitl : it.length ≤ 20001 := by
                have := item_le hlt2
                rw [HFL.out, ← hit] at this
                omega
              have HNX : Hid (((itemsOf xs).take (i + 1)).flatten = ((itemsOf xs).take i).flatten ++ it) := hideP (by rw [take_flat hlt2, hit])
              have hnl : k + it.length ≤ 20001 := by
                have h1 := flat_le (itemsOf xs) (i + 1)
                rw [HNX.out, HFL.out, List.length_append, ← HA.out.1] at h1
                omega
              simp only [← hit] at hq
              have HQQ := hideP hq
              obtain ⟨hcu, hou⟩ := hq wr BA.out
              obtain ⟨va, vc, hve⟩ := own_shp hou
              subst hve
              have HOU := hideP hou
              have hgw : g < wr.heap.size := Nat.lt_of_lt_of_le hgl BA.out.size
              have HONE := hideP hone
              clear hq hou hit hone
              go_wp2_with fail
              refine (itemsO HOU.out (by omega)).mono ?_
              rintro e w6 ⟨⟨ka, kc, vz, rfl, _, _⟩, hb6⟩
              rw [HONE.out]
              have BA6 : Hid (Below S.heap.size S w6) := hideP (below_more BA.out hb6 BA.out.size)
              obtain ⟨hcu6, hou6⟩ := HQQ.out w6 BA6.out
              have HA6 := hideP (own_below HA.out.2 hb6)
              have hgw6 : g < w6.heap.size := Nat.lt_of_lt_of_le hgl BA6.out.size
              have NB := hideP (own_NN hou6 rfl)
              have hSw : S.heap.size ≤ w6.heap.size := BA6.out.size
              have HKL := hideP HA.out.1
              clear hb6 hcu HOU HA BA hou6 hgw
              go_wp2_with (at_builtin; refine wpList_appN rfl _ _ rfl S.heap.size (.slice aa k ac) k _ rfl HA6.out _ it rfl NB.out (by omega) hSw ?_; intro v7 w7 ho7 hg7 hat7; have B7 : Hid (Below S.heap.size S w7) := hideP (Below.grown BA6.out hg7 hSw (fun g hg => (own_lt HA6.out hg).1)); obtain ⟨a7, c7, h7⟩ := own_shp ho7; subst h7; have D7 : Hid (k + it.length = ((itemsOf xs).take (i + 1)).flatten.length ∧ w7.ownsRow S.heap.size 32 15 (.slice a7 (k + it.length) c7) (k + it.length) (flatN ((itemsOf xs).take (i + 1)).flatten)) := hideP ⟨by rw [HNX.out, List.length_append, ← HKL.out], by rw [HNX.out]; exact ho7⟩; clear ho7 hg7 hat7)
              go_roundw
              case rel => exact ⟨i + 1, _, _, _, by omega, by go_num, rfl, hnl, D7, B7⟩
              case measure => simp [intOf]; omega
            · have hli : ¬ (i : Int) < (mx : Int) := by omega
              have hall : ((itemsOf xs).take i).flatten = xs := by rw [List.take_of_length_le (by have := HMX.out; omega), HFL.out]
              have hox : wr.ownsRow S.heap.size 32 15 (.slice aa k ac) xs.length (flatN xs) := by
                have h := HA.out.2
                rw [hall] at h
                have h2 := HA.out.1
                rw [hall] at h2
                rw [← h2]
                exact h
              have HAN := hideP (own_N0 hox)
              have HX7 := hideP (own_below HX5.out BA.out)
              have HY7 := hideP (own_below HY5.out BA.out)
              have BW7 : Hid (Below w.heap.size w wr) := hideP (below_more BW.out BA.out BW.out.size)
              clear hall hox HA BA HX5 HY5 BW HQ5
              go_wp2_with fail
              refine (sameNodes_any HAN.out (own_N0 HX7.out) (by omega)).mono ?_
              rintro e w8 ⟨rfl, hb8⟩
              have HX8 := hideP (own_below HX7.out hb8)
              have HY8 := hideP (own_below HY7.out hb8)
              have BW8 : Hid (Below w.heap.size w w8) := hideP (below_more BW7.out hb8 BW7.out.size)
              clear hb8 HX7 HY7 BW7 HAN
              rename_i hKK
              refine hKK _ _ ?_
              have hz : w.heap.size ≤ w8.heap.size := BW8.out.size
              have E0 : Hid ((w8.alloc (.cells #[] 32)).ownsRow w8.heap.size 32 15 (.slice (some ⟨w8.heap.size, 0, none⟩) 0 0) 0 (flatN [])) := hideP ⟨rfl, .inr ⟨_, _, _, rfl, Nat.le_refl _, heap_alloc_new w8 _, Nat.le_refl _, by unfold maxLen; omega, rfl, rfl⟩⟩
              have NA := hideP (own_NN (own_below HX8.out (below1 w8 (.cells #[] 32))) rfl)
              have HY9 := hideP (own_below HY8.out (below1 w8 (.cells #[] 32)))
              have B9 := hideP (below1 w8 (.cells #[] 32))
              iterate 10 (first | go_values | go_skip | go_guarded | go_step | go_upon | go_in)
              refine wp_appN _ _ rfl w8.heap.size (.slice (some ⟨w8.heap.size, 0, none⟩) 0 0) 0 [] rfl E0.out _ xs rfl NA.out (by omega) (by simp) ?_
              intro v9 w9 ho9 hg9 hat9
              have B10 : Hid (Below w8.heap.size w8 w9) := hideP (Below.grown B9.out hg9 B9.out.size (fun g hg => (own_lt E0.out hg).1))
              have HY10 := hideP (own_below HY8.out B10.out)
              have NBY := hideP (own_NN HY10.out rfl)
              rw [Nat.zero_add, List.nil_append] at ho9
              have HO9 := hideP ho9
              obtain ⟨a9, c9, h9⟩ := own_shp ho9
              subst h9
              clear ho9 hg9 hat9 NA HY9 B9 E0
              iterate 4 (first | go_values | go_skip | go_guarded | go_step | go_upon | go_in)
              refine wp_appN _ _ rfl w8.heap.size (.slice a9 xs.length c9) xs.length xs rfl HO9.out (.slice ya ys.length yc) ys rfl NBY.out (by omega) B10.out.size ?_
              intro v10 w10 ho10 hg10 hat10
              have B11 : Hid (Below w8.heap.size w8 w10) := hideP (Below.grown B10.out hg10 B10.out.size (fun g hg => (own_lt HO9.out hg).1))
              obtain ⟨a10, c10, h10⟩ := own_shp ho10
              subst h10
              have HO10 : Hid (w10.ownsRow w8.heap.size 32 15 (.slice a10 (xs.length + ys.length) c10) (xs ++ ys).length (flatN (xs ++ ys))) := hideP (by
                rw [List.length_append]
                exact ho10)
              have HLN : Hid ((itemsOf (xs ++ ys)).length = mx + my) := hideP (by rw [items_app HT.out.1 HT.out.2.1 HT.out.2.2, HMX.out, HMY.out])
              have BW9 : Hid (Below w.heap.size w w10) := hideP (below_more BW8.out B11.out BW8.out.size)
              clear ho10 hg10 hat10 HO9 HY10 B10 B11
              go_wp2_with fail
              refine (itemsO HO10.out (by rw [List.length_append]; omega)).mono ?_
              rintro e w11 ⟨⟨za, zc, vz, rfl, _, _⟩, hb11⟩
              rw [HLN.out]
              have BW11 : Hid (Below w.heap.size w w11) := hideP (below_more BW9.out hb11 BW9.out.size)
              clear hb11
              go_wp2
              go_ret
              exact ⟨by simp, BW11.out⟩
end Go.Proofs.Ytbbehmcekbnkiaa
