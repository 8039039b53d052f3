/-
  The program's run of what may give up, and MatchArgs.
-/
import Derived.Test.YtbceblgnjicdcaaXd
import Derived.Laws.OwnMore
import Derived.Deep.RegionWith
namespace Go.Proofs.Ytbceblgnjicdcaa
open Go.RowKit
set_option linter.unusedVariables false
set_option linter.unusedSimpArgs false

/-- A list that can be. -/
def lstB (ts : List Tk) : Bool := decide ((ts.length : Int) ≤ 20000) && ts.all (okT 0)
set_option maxRecDepth 100000 in
set_option maxHeartbeats 4000000 in
theorem listOk_any {v : Value} {ts : List Tk} {w : World} (h : TRow w v ts) (hn : ts.length ≤ 1048576) : Calls Try.prog 67 #[v] w fun e w' => e = .returned (.bool (lstB ts)) ∧ Below w.heap.size w w' := by
  have HC := tokensOk_any (limit := 20000) (most := 0) h hn
  obtain ⟨ao, n, cap, rfl, _⟩ := h
  have HC2 : Hid (Calls Try.prog 76 #[.slice ao n cap, .int .i64 20000, .int .i64 0] w fun e w' => e = .returned (.bool (lstB ts)) ∧ Below w.heap.size w w') := HC
  clear HC
  obtain ⟨z, hz⟩ : ∃ z, z = lstB ts := ⟨_, rfl⟩
  rw [← hz] at HC2
  rw [← hz]
  clear hz
  go_enter Try.func67, Try.ntmps67
  go_wp2_with fail
  refine Calls.mono HC2 ?_
  rintro e w1 ⟨rfl, hb1⟩
  go_wp2
  go_ret
  exact ⟨rfl, hb1⟩

set_option maxRecDepth 100000 in
set_option maxHeartbeats 4000000 in
theorem expanderOf_any {tb tn tcap : Nat} {ts : List Tk} {w : World} (ht : TOn 0 w (.slice (some ⟨tb, 0, none⟩) tn tcap) ts) (lt : ts.length ≤ 20000) : Calls Try.prog 68 #[.slice (some ⟨tb, 0, none⟩) tn tcap] w fun e w' => e = .returned (ptr w.heap.size) ∧ Xs w' w.heap.size ts ∧ Below w.heap.size w w' := by
  have HT : Hid (TOn 0 w (.slice (some ⟨tb, 0, none⟩) tn tcap) ts) := ht
  have hn : tn = ts.length := by obtain ⟨_, _, _, e, _⟩ := ht; simp at e; exact e.2.1
  have htb : tb < w.heap.size := by obtain ⟨_, _, _, e, _, _, hb, _⟩ := ht; simp at e; rw [e.1.1]; exact hb
  have HN : Hid (tn = ts.length) := hn
  have hn2 : tn ≤ 20000 := by omega
  clear ht hn
  go_enter Try.func68, Try.ntmps68
  go_wp2
  go_ret
  refine ⟨rfl, ⟨.slice (some ⟨tb, 0, none⟩) tn tcap, ⟨.int .i64 0, .pointer none, .map none, ?_⟩, .inr ⟨tb, 0, tn, tcap, rfl, htb, TOn.below HT (below1 _ _)⟩⟩, below1 _ _⟩
  rw [← show tn = ts.length from HN]
  exact Array.getElem?_push_size

theorem patT_dl : ∀ (ts : List Tk) (o : Option Int) (m : Int), ts.foldl patTStep o = some m → ∀ t ∈ ts, dl t = 0
  | [], o, m, h, t, ht => by simp at ht
  | u :: ts, o, m, h, t, ht => by
    rw [List.foldl_cons] at h
    rcases List.mem_cons.1 ht with rfl | ht
    · have hs : patTStep o t ≠ none := fun hn => by rw [hn, fold_none patTStep (fun _ => rfl)] at h; simp at h
      unfold patTStep at hs
      split at hs
      · exact absurd rfl hs
      · split at hs
        · exact absurd rfl hs
        · unfold patStep at hs
          dsimp only at hs
          split at hs
          · exact absurd rfl hs
          · next hno => unfold dl; rw [if_neg (fun h => hno (.inl h)), if_neg (fun h => hno (.inr (.inl h)))]
    · exact patT_dl ts _ m h t ht
theorem mac_dl {p b : List Tk} {sl : Int} (h : macB p sl b = true) : ∀ t ∈ p, dl t = 0 := by
  unfold macB patB at h
  simp only [Bool.and_eq_true, decide_eq_true_eq] at h
  exact patT_dl p _ _ h.2.1.2
theorem mac_pat {p b : List Tk} {sl : Int} (h : macB p sl b = true) : p.length ≤ 100 := by
  unfold macB patB at h
  simp only [Bool.and_eq_true, decide_eq_true_eq] at h
  have := h.2.1.1
  omega

theorem mat_len : ∀ (f : Nat) (p r : List Tk) (acc : List (List Tk)), (mat f p r acc).2.2.length ≤ r.length
  | 0, p, r, acc => by simp [mat]
  | f + 1, [], r, acc => by simp [mat]
  | f + 1, t :: p, r, acc => by
    by_cases h : t.c = 16
    · by_cases h0 : (p.takeWhile noSlot).length = 0
      · rw [mat_plain h h0]
        split
        · exact Nat.le_trans (mat_len f _ _ _) (plain_len r)
        · exact plain_len r
      · rw [mat_until h rfl h0]
        split
        · exact Nat.le_trans (mat_len f _ _ _) (unt_len _ _ _ _)
        · exact unt_len _ _ _ _
    · cases r with
      | nil => rw [mat_end h]; simp
      | cons u r =>
        cases hu : tkEq u t with
        | true => rw [mat_on h hu]; have := mat_len f p r acc; simp; omega
        | false => rw [mat_no h hu]; simp

/-- A row that is one's own and lies below hi. -/
def OwnB (lo hi : Nat) (w : World) (v : Value) (n : Nat) (xs : List Value) : Prop := w.ownsRow lo 31 3 v n xs ∧ ∀ g, v.ownBlock = some g → g < hi
theorem OwnB.keep {lo hi n : Nat} {w w' : World} {v : Value} {xs : List Value} (h : OwnB lo hi w v n xs) (hk : ∀ g, lo ≤ g → g < hi → g < w.heap.size → w'.heap[g]? = w.heap[g]?) : OwnB lo hi w' v n xs := by
  obtain ⟨⟨hl, h | ⟨g, cap, cur, rfl, hg, hb, hr⟩⟩, h2⟩ := h
  · exact ⟨⟨hl, .inl h⟩, h2⟩
  · exact ⟨⟨hl, .inr ⟨g, cap, cur, rfl, hg, (hk g hg (h2 g rfl) (Array.getElem?_eq_some_iff.1 hb).1).trans hb, hr⟩⟩, h2⟩
/-- Lists of one's own, each behind the one ahead of it. -/
def AInc (w : World) : Nat → Nat → List Value → List (List Tk) → Prop
  | lo, hi, [], [] => lo ≤ hi
  | lo, hi, v :: vs, r :: rs => ∃ mid, lo ≤ mid ∧ OwnB lo mid w v r.length (flat r) ∧ AInc w mid hi vs rs
  | _, _, [], _ :: _ => False
  | _, _, _ :: _, [] => False
theorem AInc.le {w : World} : ∀ (vs : List Value) (rs : List (List Tk)) (lo hi : Nat), AInc w lo hi vs rs → lo ≤ hi
  | [], [], lo, hi, h => h
  | v :: vs, r :: rs, lo, hi, ⟨mid, h1, _, h2⟩ => Nat.le_trans h1 (AInc.le vs rs mid hi h2)
  | [], _ :: _, _, _, h => h.elim
  | _ :: _, [], _, _, h => h.elim
theorem AInc.keep {w w' : World} : ∀ (vs : List Value) (rs : List (List Tk)) (lo hi : Nat), (∀ g, lo ≤ g → g < hi → g < w.heap.size → w'.heap[g]? = w.heap[g]?) → AInc w lo hi vs rs → AInc w' lo hi vs rs
  | [], [], lo, hi, _, h => h
  | v :: vs, r :: rs, lo, hi, hk, ⟨mid, h1, h2, h3⟩ => ⟨mid, h1, h2.keep (fun g a b c => hk g a (Nat.lt_of_lt_of_le b (AInc.le vs rs mid hi h3)) c), AInc.keep vs rs mid hi (fun g a b c => hk g (Nat.le_trans h1 a) b c) h3⟩
  | [], _ :: _, _, _, _, h => h.elim
  | _ :: _, [], _, _, _, h => h.elim
theorem AInc.up {w : World} : ∀ (vs : List Value) (rs : List (List Tk)) (lo hi hi' : Nat), hi ≤ hi' → AInc w lo hi vs rs → AInc w lo hi' vs rs
  | [], [], lo, hi, hi', hh, h => Nat.le_trans h hh
  | v :: vs, r :: rs, lo, hi, hi', hh, ⟨mid, h1, h2, h3⟩ => ⟨mid, h1, h2, AInc.up vs rs mid hi hi' hh h3⟩
  | [], _ :: _, _, _, _, _, h => h.elim
  | _ :: _, [], _, _, _, _, h => h.elim
theorem AInc.snoc {w : World} {v : Value} {r : List Tk} : ∀ (vs : List Value) (rs : List (List Tk)) (lo hi hi' : Nat), hi ≤ hi' → AInc w lo hi vs rs → OwnB hi hi' w v r.length (flat r) → AInc w lo hi' (vs ++ [v]) (rs ++ [r])
  | [], [], lo, hi, hi', hh, h, hv => ⟨hi', Nat.le_trans h hh, ⟨own_mono hv.1 h, hv.2⟩, Nat.le_refl _⟩
  | u :: vs, q :: rs, lo, hi, hi', hh, ⟨mid, h1, h2, h3⟩, hv => ⟨mid, h1, h2, AInc.snoc vs rs mid hi hi' hh h3 hv⟩
  | [], _ :: _, _, _, _, _, h, _ => h.elim
  | _ :: _, [], _, _, _, _, h, _ => h.elim
/-- Lists of lists that are one's own: the row ahead of the lists. -/
def GInc (lo : Nat) (w : World) (v : Value) (rs : List (List Tk)) : Prop := ∃ n vs mid, w.ownsRow lo 32 1 v n vs ∧ (∀ g, v.ownBlock = some g → g < mid) ∧ lo ≤ mid ∧ AInc w mid w.heap.size vs rs

theorem mat_cnt : ∀ (f : Nat) (p r : List Tk) (acc : List (List Tk)), (mat f p r acc).2.1.length ≤ acc.length + p.length
  | 0, p, r, acc => by simp [mat]
  | f + 1, [], r, acc => by simp [mat]
  | f + 1, t :: p, r, acc => by
    by_cases h : t.c = 16
    · by_cases h0 : (p.takeWhile noSlot).length = 0
      · rw [mat_plain h h0]
        split
        · have := mat_cnt f p (plain r).2.2 (acc ++ [(plain r).2.1])
          rw [List.length_append] at this
          simp at this ⊢
          omega
        · simp
      · rw [mat_until h rfl h0]
        split
        · refine Nat.le_trans (mat_cnt f _ _ _) ?_
          rw [List.length_append, List.length_drop]
          simp
          omega
        · simp
    · cases r with
      | nil => rw [mat_end h]; simp
      | cons u r =>
        cases hu : tkEq u t with
        | true => rw [mat_on h hu]; have := mat_cnt f p r acc; simp; omega
        | false => rw [mat_no h hu]; simp
theorem grp_sub : ∀ (q : List Tk) (k : Nat) (a b : List Tk), grpGo k q = some (a, b) → a.Sublist q ∧ b.Sublist q
  | [], k, a, b, h => by simp [grpGo] at h
  | u :: q, k, a, b, h => by
    rw [grpGo] at h
    have step : ∀ k', (grpGo k' q).map (fun p => (u :: p.1, p.2)) = some (a, b) → a.Sublist (u :: q) ∧ b.Sublist (u :: q) := by
      intro k' h
      cases h2 : grpGo k' q with
      | none => simp [h2] at h
      | some z =>
        obtain ⟨z1, z2⟩ := z
        simp [h2] at h
        have ih := grp_sub q k' z1 z2 h2
        rw [← h.1, ← h.2]
        exact ⟨ih.1.cons_cons u, ih.2.cons u⟩
    split at h
    · exact step _ h
    · split at h
      · split at h
        · simp at h; rw [h.1, ← h.2]; exact ⟨List.nil_sublist _, List.sublist_cons_self _ _⟩
        · exact step _ h
      · exact step _ h
theorem plain_sub (r : List Tk) : (plain r).2.1.Sublist r ∧ (plain r).2.2.Sublist r := by
  have hd := (List.dropWhile_suffix (l := r) isSp).sublist
  unfold plain
  cases h : r.dropWhile isSp with
  | nil => exact ⟨List.nil_sublist _, List.nil_sublist _⟩
  | cons t q =>
    rw [h] at hd
    have hq : q.Sublist r := (List.sublist_cons_self t q).trans hd
    have h1 : [t].Sublist r := (List.singleton_sublist.2 (by simp)).trans hd
    dsimp only
    repeat' split
    all_goals first
      | (rename_i h3; have := grp_sub _ _ _ _ h3; exact ⟨this.1.trans hq, this.2.trans hq⟩)
      | exact ⟨List.nil_sublist _, hq⟩
      | exact ⟨List.nil_sublist _, List.nil_sublist _⟩
      | exact ⟨h1, hq⟩
theorem strip_sub (ts : List Tk) : (strip ts).Sublist ts := by
  unfold strip
  split
  · exact (List.drop_sublist _ _).trans (List.take_sublist _ _)
  · exact List.Sublist.refl _
theorem unt_sub : ∀ (r row : List Tk) (o : Int) (xs : List Tk), (unt row o xs r).1 = 0 → (unt row o xs r).2.1.Sublist (xs ++ r)
  | [], row, o, xs, h => by simp [unt] at h
  | t :: r, row, o, xs, h => by
    rw [unt] at h ⊢
    split
    · next h1 => rw [if_pos h1] at h; simp at h
    · next h1 =>
      rw [if_neg h1] at h
      split
      · exact (strip_sub _).trans ((List.take_sublist _ _).trans (by rw [show xs ++ t :: r = (xs ++ [t]) ++ r by simp]; exact List.sublist_append_left _ _))
      · next h2 =>
        rw [if_neg h2] at h
        have := unt_sub r row (o + dl t) (xs ++ [t]) h
        simpa using this
theorem unt_rest : ∀ (r row : List Tk) (o : Int) (xs : List Tk), (unt row o xs r).2.2.Sublist r
  | [], row, o, xs => by simp [unt]
  | t :: r, row, o, xs => by
    rw [unt]
    split
    · exact List.sublist_cons_self _ _
    · split
      · exact List.sublist_cons_self _ _
      · exact (unt_rest r row _ _).cons t
theorem mat_sub {ts : List Tk} : ∀ (f : Nat) (p r : List Tk) (acc : List (List Tk)), r.Sublist ts → (∀ a ∈ acc, a.Sublist ts) → ∀ a ∈ (mat f p r acc).2.1, a.Sublist ts
  | 0, p, r, acc, _, ha => by simpa [mat] using ha
  | f + 1, [], r, acc, _, ha => by simpa [mat] using ha
  | f + 1, t :: p, r, acc, hr, ha => by
    have more : ∀ (x : List Tk), x.Sublist ts → ∀ a ∈ acc ++ [x], a.Sublist ts := by
      intro x hx a h
      rcases List.mem_append.1 h with h | h
      · exact ha a h
      · simp at h; rw [h]; exact hx
    by_cases h : t.c = 16
    · by_cases h0 : (p.takeWhile noSlot).length = 0
      · rw [mat_plain h h0]
        split
        · exact mat_sub f _ _ _ ((plain_sub r).2.trans hr) (more _ ((plain_sub r).1.trans hr))
        · exact ha
      · rw [mat_until h rfl h0]
        split
        · next hc => exact mat_sub f _ _ _ ((unt_rest r _ _ _).trans hr) (more _ (by have := unt_sub r _ 0 [] hc; simp only [List.nil_append] at this; exact this.trans hr))
        · exact ha
    · cases r with
      | nil => rw [mat_end h]; exact ha
      | cons u r =>
        have hr2 : r.Sublist ts := (List.sublist_cons_self u r).trans hr
        cases hu : tkEq u t with
        | true => rw [mat_on h hu]; exact mat_sub f p r acc hr2 ha
        | false => rw [mat_no h hu]; exact ha
theorem TNb.tn {w : World} {x : Nat} {v : Value} {ts : List Tk} (h : TNb w x v ts) : TN 0 w v ts := by
  rcases h with h | ⟨b, off, n, cap, rfl, _, h⟩
  · exact .inl h
  · exact .inr h
theorem TN.mono0 {lo : Nat} {w : World} {v : Value} {ts : List Tk} (h : TN lo w v ts) : TN 0 w v ts := by
  rcases h with h | h
  · exact .inl h
  · exact .inr (h.mono (Nat.zero_le _))
theorem TAt.tn {w : World} {x base : Nat} {v : Value} {ts : List Tk} (h : TAt w x base v ts) : TN 0 w v ts := by
  rcases h with h | ⟨h, _⟩
  · exact h.tn
  · exact (own_n h).mono0

/-- While lists are copied: us are the first k copies. -/
def CInv (w w4 : World) (x base : Nat) (ra : Option Addr) (n rc : Nat) (vs : List Value) (L : List (List Tk)) (iv : Value) (wr : World) : Prop :=
  ∃ (k : Nat) (us : List Value), iv = .int .i64 (k : Int) ∧ k ≤ n ∧ us.length = k ∧ wr.ownsRow base 32 1 (.slice ra n rc) n (us ++ vs.drop k) ∧ AInc wr w4.heap.size wr.heap.size us (L.take k) ∧ LOf x base wr (vs.drop k) (L.drop k) ∧ (∀ (j : Nat) (cur : Array Value) (ty : Nat), ty ≠ 32 → w4.heap[j]? = some (.cells cur ty) → wr.heap[j]? = w4.heap[j]?) ∧ w4.heap.size ≤ wr.heap.size ∧ Below w.heap.size w wr

set_option maxRecDepth 100000 in
set_option maxHeartbeats 4000000 in
theorem implMatch_ok {vb : Value} {pb pn pcap tb tn tcap : Nat} {p b ts : List Tk} {sl : Int} {w : World} (hp : TOn 0 w (.slice (some ⟨pb, 0, none⟩) pn pcap) p) (hb : TRow w vb b) (ht : TOn 0 w (.slice (some ⟨tb, 0, none⟩) tn tcap) ts) (lp : p.length ≤ 1048576) (lb : b.length ≤ 1048576) (lt : ts.length ≤ 1048576) (hmac : macB p sl b = true) (hts : lstB ts = true) (hz : ∀ t ∈ ts, t.s.size ≤ 281474976710656) :
    Calls Try.prog 28 #[macV (.slice (some ⟨pb, 0, none⟩) pn pcap) sl vb, .slice (some ⟨tb, 0, none⟩) tn tcap] w fun e w' => ∃ v, e = .returned (.agg #[v, .int .i64 (if (mat (pn + 1) p ts []).1 = 0 then (ts.length : Int) - ((mat (pn + 1) p ts []).2.2.length : Int) else 0), .int .i64 (mat (pn + 1) p ts []).1]) ∧ GInc w.heap.size w' v (if (mat (pn + 1) p ts []).1 = 0 then (mat (pn + 1) p ts []).2.1 else []) ∧ Below w.heap.size w w' := by
  have HP : Hid (TOn 0 w (.slice (some ⟨pb, 0, none⟩) pn pcap) p) := hp
  have HB : Hid (TRow w vb b) := hb
  have HT : Hid (TOn 0 w (.slice (some ⟨tb, 0, none⟩) tn tcap) ts) := ht
  have HMK : Hid (∀ W, Below w.heap.size w W → Calls Try.prog 49 #[macV (.slice (some ⟨pb, 0, none⟩) pn pcap) sl vb] W fun e w' => e = .returned (.bool true) ∧ Below W.heap.size W w') := by
    intro W hW
    rw [← hmac]
    exact macroOk_any (TRow.below (TOn.row HP) hW) (TRow.below HB hW) lp lb
  have HLK : Hid (∀ W, Below w.heap.size w W → Calls Try.prog 67 #[.slice (some ⟨tb, 0, none⟩) tn tcap] W fun e w' => e = .returned (.bool true) ∧ Below W.heap.size W w') := by
    intro W hW
    rw [← hts]
    exact listOk_any (TRow.below (TOn.row HT) hW) lt
  clear hp hb ht
  obtain ⟨M, hM⟩ : ∃ M, M = mat (pn + 1) p ts [] := ⟨_, rfl⟩
  rw [← hM]
  have HMM : Hid (M = mat (pn + 1) p ts []) := hM
  clear hM
  obtain ⟨U, hU⟩ : ∃ U, U = if M.1 = 0 then (ts.length : Int) - (M.2.2.length : Int) else 0 := ⟨_, rfl⟩
  obtain ⟨L, hL⟩ : ∃ L, L = if M.1 = 0 then M.2.1 else [] := ⟨_, rfl⟩
  rw [← hU, ← hL]
  have HU : Hid (U = if M.1 = 0 then (ts.length : Int) - (M.2.2.length : Int) else 0) := hU
  have HL : Hid (L = if M.1 = 0 then M.2.1 else []) := hL
  clear hU hL
  have hmf : ∀ (fn : Fn) (first cap : Array Value) (w : World), (Instr.makeFunc fn first cap).run Try.prog w = .ok (.func fn first cap) w := fun _ _ _ _ => rfl
  go_enter Try.func28, Try.ntmps28
  go_wp2_with fail
  have BA := (below1 w (.cells #[.slice (some ⟨pb, 0, none⟩) pn pcap, .int .i64 sl, vb] 34)).alloc (by simp) (.cells #[.slice none 0 0, .int .i64 0, .int .i64 0] 59)
  refine (HMK _ BA).mono ?_
  rintro e w1 ⟨rfl, hb1⟩
  have B1 : Hid (Below w.heap.size w w1) := below_more BA hb1 (by simp; omega)
  go_wp2_with fail
  refine (HLK _ B1).mono ?_
  rintro e w2 ⟨rfl, hb2⟩
  have B2 : Hid (Below w.heap.size w w2) := below_more B1 hb2 (Below.size B1)
  have q0 : w2.heap[w.heap.size]? = some (.cells #[.slice (some ⟨pb, 0, none⟩) pn pcap, .int .i64 sl, vb] 34) := by
    rw [hb2.block _ (by have := hb1.size; simp at this; omega), hb1.block _ (by simp; omega)]
    exact ((below1 _ _).block _ (by simp)).trans Array.getElem?_push_size
  have q1 : w2.heap[w.heap.size + 1]? = some (.cells #[.slice none 0 0, .int .i64 0, .int .i64 0] 59) := by
    rw [hb2.block _ (by have := hb1.size; simp at this; omega), hb1.block _ (by simp)]
    have := heap_alloc_new (w.alloc (.cells #[.slice (some ⟨pb, 0, none⟩) pn pcap, .int .i64 sl, vb] 34)) (.cells #[.slice none 0 0, .int .i64 0, .int .i64 0] 59)
    rw [World.size_alloc] at this
    exact this
  clear hb1 hb2 BA
  have lt20 : ts.length ≤ 20000 := by unfold lstB at hts; simp at hts; omega
  have hpl : pn = p.length := by obtain ⟨_, _, _, e, _⟩ := HP; simp at e; exact e.2.1
  have hp1000 : pn ≤ 1000 := by have := mac_pat hmac; omega
  clear hpl
  obtain ⟨x, hxd⟩ : ∃ x, x = w2.heap.size := ⟨_, rfl⟩
  have hz2 : w.heap.size + 1 < w2.heap.size := (Array.getElem?_eq_some_iff.1 q1).1
  go_wp2_with fail
  refine (expanderOf_any (TOn.below HT B2) lt20).mono ?_
  rintro e w3 ⟨rfl, hx3, hb3⟩
  rw [← hxd] at hx3
  have hz3 : x < w3.heap.size := hx3.lt
  obtain ⟨WC, hWC⟩ : ∃ W, W = (w3.alloc (.cells #[ptr x] 107)).alloc (.cells #[.slice none 0 0] 57) := ⟨_, rfl⟩
  have BC : Hid (Below w3.heap.size w3 WC) := by rw [hWC]; exact (below1 _ _).alloc (by simp) _
  have zC : WC.heap.size = w3.heap.size + 2 := by rw [hWC]; simp
  have qxb : WC.heap[w3.heap.size]? = some (.cells #[ptr x] 107) := by rw [hWC]; exact ((below1 _ _).block _ (by simp)).trans (heap_alloc_new _ _)
  have cC : WC.cell? ⟨w3.heap.size, 0, none⟩ = some (ptr x) := by rw [cell_of_row WC _ _ _ 107 _ qxb]; rfl
  have aC : WC.heap[w3.heap.size + 1]? = some (.cells #[.slice none 0 0] 57) := by
    have := heap_alloc_new (w3.alloc (.cells #[ptr x] 107)) (.cells #[.slice none 0 0] 57)
    rw [World.size_alloc, ← hWC] at this
    exact this
  have hWx : Below w2.heap.size w2 WC := below_more hb3 BC (by omega)
  have mC : WC.cell? ⟨w.heap.size, 0, none⟩ = some (.slice (some ⟨pb, 0, none⟩) pn pcap) := by
    have q : WC.heap[w.heap.size]? = some (.cells #[.slice (some ⟨pb, 0, none⟩) pn pcap, .int .i64 sl, vb] 34) := (hWx.block _ (by omega)).trans q0
    rw [cell_of_row WC _ _ _ 34 _ q]; rfl
  have HRUN : Hid (Calls Try.prog 69 #[.func (.func 70) #[] #[ptr w3.heap.size, ptr w.heap.size, ptr (w3.heap.size + 1)]] WC fun e w' => e = .returned (.int .i64 (mat (pn + 1) p ts []).1) ∧ RunR WC w' x (w3.heap.size + 1) (mat (pn + 1) p ts [])) :=
    run_any hxd.symm hWx (Xs.fr hx3 BC) lt20 (TOn.below HP B2) hp1000 (mac_dl hmac) cC mC aC (by omega)
  rw [← show M = _ from HMM] at HRUN
  have htl : tn = ts.length := by obtain ⟨_, _, _, e, _⟩ := HT; simp at e; exact e.2.1
  have hml : M.2.2.length ≤ ts.length := by rw [show M = _ from HMM]; exact mat_len _ _ _ _
  have HTL : Hid (tn = ts.length) := htl
  have ht20 : tn ≤ 20000 := by omega
  rw [← htl] at hml
  clear htl
  obtain ⟨XB, hXB⟩ : ∃ X, X = w3.heap.size := ⟨_, rfl⟩
  rw [← hXB] at HRUN
  go_wp2_with fail
  rw [← hxd, ← hWC, ← hXB]
  refine Calls.mono HRUN ?_
  rintro e w4 ⟨rfl, hr4⟩
  have z4 : WC.heap.size ≤ w4.heap.size := hr4.1.size
  have Q4 : w4.heap[w.heap.size + 1]? = some (.cells #[.slice none 0 0, .int .i64 0, .int .i64 0] 59) := (hr4.1.block _ (by omega)).trans ((hWx.block _ (by omega)).trans q1)
  have B4 : Hid (Below w.heap.size w w4) := Below.trans B2 ((hWx.mono (by omega)).trans (hr4.1.mono (by omega)))
  have X4 : w4.cell? ⟨XB, 0, none⟩ = some (ptr x) := (World.cell?_of_block (w := WC) (a := ⟨XB, 0, none⟩) (hr4.2.1 XB (by omega) (by omega) (by omega))).trans (by rw [hXB]; exact cC)
  have d0 : w4.cell? ⟨w.heap.size + 1, 0, none⟩ = some (.slice none 0 0) := by rw [cell_of_row w4 _ _ _ 59 _ Q4]; rfl
  have d1 : w4.cell? ⟨w.heap.size + 1, 1, none⟩ = some (.int .i64 0) := by rw [cell_of_row w4 _ _ _ 59 _ Q4]; rfl
  have d2 : w4.cell? ⟨w.heap.size + 1, 2, none⟩ = some (.int .i64 0) := by rw [cell_of_row w4 _ _ _ 59 _ Q4]; rfl
  have dz : ∀ o, w4.frozen? ⟨w.heap.size + 1, o, none⟩ = false := fun o => frozen_row Q4 o
  have HXB : Hid (∃ (cur : Array Value) (ty : Nat), w4.heap[XB]? = some (.cells cur ty) ∧ ty ≠ 32) := ⟨_, 107, (hr4.2.1 XB (by omega) (by omega) (by omega)).trans (by rw [hXB]; exact qxb), by decide⟩
  have HQ4 : Hid (w4.heap[w.heap.size + 1]? = some (.cells #[.slice none 0 0, .int .i64 0, .int .i64 0] 59)) := Q4
  have hrz : w.heap.size + 1 < w4.heap.size := by omega
  have hxbz : XB < w4.heap.size := by omega
  have hxb2 : x < XB := by omega
  have hxz4 : x < w4.heap.size := by omega
  have hwx : w.heap.size + 1 < x := by omega
  have HR4 : Hid (M.1 = 0 → ∃ v n vs, w4.heap[XB + 1]? = some (.cells #[v] 57) ∧ w4.ownsRow (XB + 2) 32 1 v n vs ∧ LOf x (XB + 2) w4 vs M.2.1 ∧ Xs w4 x M.2.2) := fun h => by
    obtain ⟨v, n, vs, h1, h2, h3, h4⟩ := hr4.2.2 h
    exact ⟨v, n, vs, h1, own1_mono h2 (by omega), LOf.mono (by omega) _ _ h3, h4⟩
  clear hr4 hx3 hb3 hWC BC zC cC qxb aC hWx mC HRUN q0 q1 Q4 z4 hXB hxd hz3 hz2
  by_cases hM0 : M.1 = 0
  · obtain ⟨v, n, vs, qv, hown, hlo, hxs⟩ := HR4 hM0
    obtain ⟨ra, rc, rfl⟩ := own1_shape hown
    have av : w4.cell? ⟨XB + 1, 0, none⟩ = some (.slice ra n rc) := by rw [cell_of_row w4 _ _ _ 57 _ qv]; rfl
    have haz : XB + 1 < w4.heap.size := (Array.getElem?_eq_some_iff.1 qv).1
    rw [hM0]
    have HUU : Hid (U = (tn : Int) - (M.2.2.length : Int)) := by show U = _; rw [show U = _ from HU, if_pos hM0, ← show tn = ts.length from HTL]
    have HLL : Hid (L = M.2.1) := by show L = _; rw [show L = _ from HL, if_pos hM0]
    have P4 : Hid (w4.ownsRow (XB + 2) 32 1 (.slice ra n rc) n vs ∧ LOf x (XB + 2) w4 vs M.2.1 ∧ Xs w4 x M.2.2) := ⟨hown, hlo, hxs⟩
    have hx2 := hxs
    obtain ⟨fv, hxh, _⟩ := hx2
    obtain ⟨g0, g1, g2, g3, _, _⟩ := hxh.cells
    clear hown hlo hxs hxh
    have HSU : Hid (∀ a ∈ M.2.1, a.Sublist ts) := by rw [show M = _ from HMM]; exact mat_sub _ _ _ _ (List.Sublist.refl _) (by simp)
    have HZ : Hid (∀ t ∈ ts, t.s.size ≤ 281474976710656) := hz
    have hvl : vs.length = n := P4.1.1.trans (by simp)
    have hnL : M.2.1.length = n := by rw [← LOf.len _ _ P4.2.1]; exact hvl
    have HVL : Hid (vs.length = n ∧ M.2.1.length = n) := ⟨hvl, hnL⟩
    have hn1000 : n ≤ 1000 := by
      have h1 : M.2.1.length ≤ p.length := by rw [show M = _ from HMM]; simpa using mat_cnt (pn + 1) p ts []
      have := mac_pat hmac
      omega
    have QX : Hid (w4.heap[XB + 1]? = some (.cells #[.slice ra n rc] 57) ∧ w4.cell? ⟨XB, 0, none⟩ = some (ptr x)) := ⟨qv, X4⟩
    have QXB : Hid (∃ (cur : Array Value) (ty : Nat), w4.heap[XB]? = some (.cells cur ty) ∧ ty ≠ 32) := HXB
    have START : Hid (CInv w w4 x (XB + 2) ra n rc vs M.2.1 (.int .i64 0) w4) := ⟨0, [], rfl, Nat.zero_le _, rfl, P4.1, Nat.le_refl _, P4.2.1, fun _ _ _ _ h => rfl, Nat.le_refl _, B4⟩
    clear hz hvl hnL qv
    go_wp2_with fail
    go_loopw [29] (fun iv wr => Hid (CInv w w4 x (XB + 2) ra n rc vs M.2.1 iv wr)) (fun iv _ => n - (intOf iv).toNat)
    case atStart => exact START
    case round =>
      clear START
      obtain ⟨k, us, rfl, hkn, hul, hown, hai, hlo, hkp, hzw, hbel⟩ := hrel
      have KP : Hid (∀ (j : Nat) (cur : Array Value) (ty : Nat), ty ≠ 32 → w4.heap[j]? = some (.cells cur ty) → wr.heap[j]? = w4.heap[j]?) := hkp
      have ab : wr.cell? ⟨XB + 1, 0, none⟩ = some (.slice ra n rc) := (World.cell?_of_block (w := w4) (a := ⟨XB + 1, 0, none⟩) (hkp _ _ 57 (by decide) QX.1)).trans (by rw [cell_of_row w4 _ _ _ 57 _ QX.1]; rfl)
      have habz : XB + 1 < wr.heap.size := by omega
      by_cases hk : k < n
      · have hki : (k : Int) < (n : Int) := by omega
        obtain ⟨g, rfl⟩ : ∃ g, ra = some ⟨g, 0, none⟩ := by
          rcases hown.2 with ⟨h, _⟩ | ⟨g, cap, cur, h, _⟩
          · simp at h; omega
          · simp at h; exact ⟨g, h.1⟩
        obtain ⟨u, vs1, hdv⟩ : ∃ u vs1, vs.drop k = u :: vs1 := by
          cases h : vs.drop k with
          | nil => have := congrArg List.length h; rw [List.length_drop, HVL.1] at this; simp at this; omega
          | cons u vs1 => exact ⟨u, vs1, rfl⟩
        obtain ⟨r, L1, hdl⟩ : ∃ r L1, M.2.1.drop k = r :: L1 := by
          cases h : M.2.1.drop k with
          | nil => have := congrArg List.length h; rw [List.length_drop, HVL.2] at this; simp at this; omega
          | cons u vs1 => exact ⟨u, vs1, rfl⟩
        rw [hdv, hdl] at hlo
        rw [hdv] at hown
        obtain ⟨ua, un, uc, rfl⟩ := hlo.1.shape
        have ck : wr.cell? ⟨g, k, none⟩ = some (.slice ua un uc) := by
          rw [World.ownsRow.cellAt hown k (by omega), List.getElem?_append_right (by omega), hul, Nat.sub_self]; rfl
        have hgz : g < wr.heap.size := (World.ownsRow.lt hown g rfl).2
        have hgb : XB + 2 ≤ g := (World.ownsRow.lt hown g rfl).1
        have hrs : r.Sublist ts := HSU r (List.mem_of_mem_drop (by rw [hdl]; simp))
        have hrl : r.length ≤ 20000 := Nat.le_trans hrs.length_le lt20
        have HCP : Hid (∀ W, Below wr.heap.size wr W → Calls Try.prog 72 #[.slice ua un uc] W fun e w' => ∃ v', e = .returned v' ∧ w'.ownsRow W.heap.size 31 3 v' r.length (flat r) ∧ Below wr.heap.size wr w' ∧ W.heap.size ≤ w'.heap.size) := by
          intro W hW
          have htn : TN 0 wr (.slice ua un uc) r := hlo.1.tn
          have htn2 : TN 0 W (.slice ua un uc) r := by
            rcases htn with h | h
            · exact .inl h
            · exact .inr (h.below hW)
          refine (copyTokens_any htn2 (by omega) (fun i hi => HZ _ (hrs.subset (by simp [List.getD, List.getElem?_eq_getElem hi])))).mono ?_
          rintro e w' ⟨v', rfl, h1, h2⟩
          exact ⟨v', rfl, h1, below_more hW h2 hW.size, h2.size⟩
        have HALL : Hid (us.length = k ∧ wr.ownsRow (XB + 2) 32 1 (.slice (some ⟨g, 0, none⟩) n rc) n (us ++ .slice ua un uc :: vs1) ∧ AInc wr w4.heap.size wr.heap.size us (M.2.1.take k) ∧ LOf x (XB + 2) wr vs1 L1 ∧ Below w.heap.size w wr ∧ vs.drop k = .slice ua un uc :: vs1 ∧ M.2.1.drop k = r :: L1) := ⟨hul, hown, hai, hlo.2, hbel, hdv, hdl⟩
        have NEXT : Hid (∀ (w5 : World) (v' : Value), wr.heap.size ≤ w5.heap.size → Below wr.heap.size wr w5 → w5.ownsRow wr.heap.size 31 3 v' r.length (flat r) → CInv w w4 x (XB + 2) (some ⟨g, 0, none⟩) n rc vs M.2.1 (.int .i64 ((k + 1 : Nat) : Int)) (w5.setCell ⟨g, k, none⟩ v')) := by
          intro w5 v' hz5 hb5 ho5
          obtain ⟨h1, h2, h3, h4, h5, h6, h7⟩ := HALL
          have hg5 : ∀ j, j ≠ g → (w5.setCell ⟨g, k, none⟩ v').heap[j]? = w5.heap[j]? := fun j hj => Below.heap_setCell w5 ⟨g, k, none⟩ _ _ hj
          have hs5 : (w5.setCell ⟨g, k, none⟩ v').heap.size = w5.heap.size := by simp
          have o5 := own1_below h2 hb5
          have o6 := (World.ownsRow.stored o5 k v').1
          have e1 : vs.drop (k + 1) = vs1 := by have := congrArg (List.drop 1) h6; rw [List.drop_drop] at this; simpa using this
          have e2 : M.2.1.drop (k + 1) = L1 := by have := congrArg (List.drop 1) h7; rw [List.drop_drop] at this; simpa using this
          have e3 : M.2.1.take (k + 1) = M.2.1.take k ++ [r] := by
            rw [List.take_add_one]
            have : M.2.1[k]? = some r := by have h2 := congrArg (fun l => l[0]?) h7; simpa using h2
            rw [this]; rfl
          have e4 : (us ++ .slice ua un uc :: vs1).set k v' = (us ++ [v']) ++ vs1 := by
            rw [List.set_append_right _ _ (by omega), h1, Nat.sub_self]
            simp
          rw [e4] at o6
          have keep31 : ∀ (j : Nat) (cur : Array Value), wr.heap[j]? = some (.cells cur 31) → (w5.setCell ⟨g, k, none⟩ v').heap[j]? = wr.heap[j]? := by
            intro j cur hj
            have hjl := (Array.getElem?_eq_some_iff.1 hj).1
            have hjg : j ≠ g := fun e => by
              rcases h2.2 with ⟨h, _⟩ | ⟨g', cap, cur', h, _, hb, _⟩
              · simp at h
              · simp at h; rw [e, h.1, hb] at hj; simp at hj
            rw [hg5 j hjg]; exact hb5.block j hjl
          refine ⟨k + 1, us ++ [v'], rfl, by omega, by simp [h1], by rw [e1]; exact o6, ?_, ?_, ?_, by rw [hs5]; omega, ?_⟩
          · rw [e3, hs5]
            refine AInc.snoc _ _ _ wr.heap.size _ hz5 ?_ ⟨?_, fun q hq => (World.ownsRow.lt ho5 q hq).2⟩
            · refine AInc.keep _ _ _ _ (fun j a b c => ?_) h3
              rw [hg5 j (by have := (World.ownsRow.lt P4.1 g rfl).2; omega)]
              exact hb5.block j c
            · obtain ⟨hl, h | ⟨q, cap, cur, rfl, hq, hb, hr⟩⟩ := ho5
              · exact ⟨hl, .inl h⟩
              · exact ⟨hl, .inr ⟨q, cap, cur, rfl, hq, (hg5 q (by omega)).trans hb, hr⟩⟩
          · rw [e1, e2]
            refine LOf.keep ?_ (fun j cur _ hj => keep31 j cur hj) _ _ h4
            exact (hb5.mono (by omega)).trans ((Below.refl _ _).setCell (p := ⟨g, k, none⟩) (by show x ≤ g; omega) _)
          · intro j cur ty hty hj
            have hjl := (Array.getElem?_eq_some_iff.1 hj).1
            have hjg : j ≠ g := fun e => by
              rcases P4.1.2 with ⟨h, _⟩ | ⟨g', cap, cur', h, _, hb, _⟩
              · simp at h
              · simp at h; rw [e, h.1, hb] at hj; simp at hj; exact hty hj.2.symm
            rw [hg5 j hjg, hb5.block j (by omega)]
            exact KP j cur ty hty hj
          · exact (h5.trans (hb5.mono (Below.size h5))).setCell (p := ⟨g, k, none⟩) (by show w.heap.size ≤ g; omega) _
        have QK : Hid (∀ y : World, Below wr.heap.size wr y → y.cell? ⟨XB + 1, 0, none⟩ = some (.slice (some ⟨g, 0, none⟩) n rc) ∧ y.cell? ⟨g, k, none⟩ = some (.slice ua un uc) ∧ y.frozen? ⟨g, k, none⟩ = false ∧ XB + 1 < y.heap.size ∧ g < y.heap.size) := fun y hy =>
          ⟨(hy.cell (p := ⟨XB + 1, 0, none⟩) habz).trans ab, (hy.cell (p := ⟨g, k, none⟩) hgz).trans ck, by rw [hy.frozen (p := ⟨g, k, none⟩) hgz]; exact World.ownsRow.frozenAt hown k, by have := hy.size; omega, by have := hy.size; omega⟩
        clear hkp hown hai hlo hbel hdv hdl hul hrs
        have fk := (QK wr (Below.refl _ _)).2.2.1
        go_wp2_with fail
        go_region_with (go_at_call 72; refine (HCP _ (by first | exact (Below.refl _ _).drew | exact Below.refl _ _)).mono ?_; rintro e w5 ⟨v', rfl, ho5, hb5, hz5⟩; obtain ⟨va', vc', rfl, _⟩ := own_shape ho5; obtain ⟨s0, s1, s2, s3, s4⟩ := QK w5 hb5; have N5 : Hid (CInv w w4 x (XB + 2) (some ⟨g, 0, none⟩) n rc vs M.2.1 (.int .i64 ((k + 1 : Nat) : Int)) (w5.setCell ⟨g, k, none⟩ (.slice va' r.length vc'))) := NEXT w5 _ hb5.size hb5 ho5; clear ho5 hb5 hz5)
        all_goals
          go_wp2
          go_roundw
          case rel => exact ‹Hid (CInv w w4 x (XB + 2) (some ⟨g, 0, none⟩) n rc vs M.2.1 (.int .i64 ((k + 1 : Nat) : Int)) _)›
          case measure => simp [intOf]; omega
      · have hki : ¬ (k : Int) < (n : Int) := by omega
        obtain rfl : k = n := by omega
        have FIN : Hid (∀ W : World, (∀ j, j ≠ w.heap.size + 1 → W.heap[j]? = wr.heap[j]?) → W.heap.size = wr.heap.size → GInc w.heap.size W (.slice ra k rc) L) := by
          intro W hW hWs
          rw [List.drop_eq_nil_of_le (by rw [HVL.1]; exact Nat.le_refl _), List.append_nil] at hown
          rw [List.take_of_length_le (by rw [HVL.2]; exact Nat.le_refl _)] at hai
          refine ⟨k, us, w4.heap.size, own1_mono (own1_keep hown (fun g hg _ => hW g (by omega))) (by omega), fun g hg => (World.ownsRow.lt P4.1 g hg).2, by omega, ?_⟩
          rw [show L = _ from HLL, hWs]
          exact AInc.keep _ _ _ _ (fun g hg _ _ => hW g (by omega)) hai
        have HBW : Hid (Below w.heap.size w wr) := hbel
        have xw : wr.cell? ⟨x, 2, none⟩ = some (.int .i64 (M.2.2.length : Int)) := by
          obtain ⟨fv, ⟨bu, inn, pr, hq⟩, _⟩ := P4.2.2
          rw [World.cell?_of_block (w := w4) (a := ⟨x, 2, none⟩) (hkp _ _ 116 (by decide) hq), cell_of_row w4 _ _ _ 116 _ hq]
          rfl
        have xbw : wr.cell? ⟨XB, 0, none⟩ = some (ptr x) := by
          obtain ⟨cc, tt, hq, hty⟩ := QXB
          rw [World.cell?_of_block (w := w4) (a := ⟨XB, 0, none⟩) (hkp _ _ tt hty hq)]
          exact QX.2
        have qr : wr.heap[w.heap.size + 1]? = some (.cells #[.slice none 0 0, .int .i64 0, .int .i64 0] 59) := (hkp _ _ 59 (by decide) HQ4).trans HQ4
        have r0 : wr.cell? ⟨w.heap.size + 1, 0, none⟩ = some (.slice none 0 0) := by rw [cell_of_row wr _ _ _ 59 _ qr]; rfl
        have r1 : wr.cell? ⟨w.heap.size + 1, 1, none⟩ = some (.int .i64 0) := by rw [cell_of_row wr _ _ _ 59 _ qr]; rfl
        have r2 : wr.cell? ⟨w.heap.size + 1, 2, none⟩ = some (.int .i64 0) := by rw [cell_of_row wr _ _ _ 59 _ qr]; rfl
        have rz : ∀ o, wr.frozen? ⟨w.heap.size + 1, o, none⟩ = false := fun o => frozen_row qr o
        clear hown hai hlo hkp hbel qr
        have hxzr : x < wr.heap.size := by omega
        have hxbr : XB < wr.heap.size := by omega
        have hrzr : w.heap.size + 1 < wr.heap.size := by omega
        obtain ⟨ml, hmle⟩ : ∃ ml, ml = M.2.2.length := ⟨_, rfl⟩
        rw [← hmle] at xw hml HUU
        have HM00 : Hid (M.1 = 0) := hM0
        clear hmle hM0 g0 g1 g2 g3 av d0 d1 d2 dz X4 HR4 HU HL
        go_wp2_with fail
        go_region
        all_goals
          go_wp2
          refine bodyPost_ret (v := .agg #[.slice ra k rc, .int .i64 ((tn : Int) - (ml : Int)), .int .i64 0]) (by simp [results, Try.results28, go_sem, r0, r1, r2]; try rfl) rfl ⟨.slice ra k rc, ?_, ?_, ?_⟩
          · rw [show U = _ from HUU, show M.1 = 0 from HM00]
          · exact FIN _ (fun j hj => ((Below.heap_setCell _ ⟨w.heap.size + 1, 2, none⟩ _ _ hj).trans (Below.heap_setCell _ ⟨w.heap.size + 1, 1, none⟩ _ _ hj)).trans (Below.heap_setCell _ ⟨w.heap.size + 1, 0, none⟩ _ _ hj)) (by simp)
          · exact Below.drew (((Below.setCell HBW (p := ⟨w.heap.size + 1, 0, none⟩) (by simp) _).setCell (p := ⟨w.heap.size + 1, 1, none⟩) (by simp) _).setCell (p := ⟨w.heap.size + 1, 2, none⟩) (by simp) _)
  · have hMb : (M.1 == 0) = false := beq_eq_false_iff_ne.2 hM0
    have HUU : Hid (U = 0) := by show U = _; rw [show U = _ from HU, if_neg hM0]
    have HLL : Hid (L = []) := by show L = _; rw [show L = _ from HL, if_neg hM0]
    clear HR4
    go_wp2
    have BB := ((Below.setCell B4 (p := ⟨w.heap.size + 1, 0, none⟩) (by simp) (.slice none 0 0)).setCell (p := ⟨w.heap.size + 1, 1, none⟩) (by simp) (.int .i64 0)).setCell (p := ⟨w.heap.size + 1, 2, none⟩) (by simp) (.int .i64 M.1)
    refine bodyPost_ret (v := .agg #[.slice none 0 0, .int .i64 0, .int .i64 M.1]) (by simp [results, Try.results28, go_sem, d0, d1, d2]; try rfl) rfl ⟨.slice none 0 0, ?_, ?_, BB⟩
    · rw [show U = _ from HUU]
    · rw [show L = _ from HLL]
      exact ⟨0, [], w.heap.size, World.ownsRow_nil _ _ _ _, fun g hg => by simp [Value.ownBlock] at hg, Nat.le_refl _, BB.size⟩

/-- What MatchArgs answers: the code, how many are used, the lists. -/
def mtC (p : List Tk) (sl : Int) (b ts : List Tk) : Int := if macB p sl b = true ∧ lstB ts = true then (mat (p.length + 1) p ts []).1 else 9
def mtU (p : List Tk) (sl : Int) (b ts : List Tk) : Int := if mtC p sl b ts = 0 then (ts.length : Int) - ((mat (p.length + 1) p ts []).2.2.length : Int) else 0
def mtL (p : List Tk) (sl : Int) (b ts : List Tk) : List (List Tk) := if mtC p sl b ts = 0 then (mat (p.length + 1) p ts []).2.1 else []

set_option maxRecDepth 100000 in
set_option maxHeartbeats 4000000 in
theorem implMatch_any {vb : Value} {pb pn pcap tb tn tcap : Nat} {p b ts : List Tk} {sl : Int} {w : World} (hp : TOn 0 w (.slice (some ⟨pb, 0, none⟩) pn pcap) p) (hb : TRow w vb b) (ht : TOn 0 w (.slice (some ⟨tb, 0, none⟩) tn tcap) ts) (lp : p.length ≤ 1048576) (lb : b.length ≤ 1048576) (lt : ts.length ≤ 1048576) (hz : ∀ t ∈ ts, t.s.size ≤ 281474976710656) :
    Calls Try.prog 28 #[macV (.slice (some ⟨pb, 0, none⟩) pn pcap) sl vb, .slice (some ⟨tb, 0, none⟩) tn tcap] w fun e w' => ∃ v, e = .returned (.agg #[v, .int .i64 (mtU p sl b ts), .int .i64 (mtC p sl b ts)]) ∧ GInc w.heap.size w' v (mtL p sl b ts) ∧ Below w.heap.size w w' := by
  have hpn : pn = p.length := by obtain ⟨_, _, _, e, _⟩ := hp; simp at e; exact e.2.1
  by_cases hok : macB p sl b = true ∧ lstB ts = true
  · have h := implMatch_ok hp hb ht lp lb lt hok.1 hok.2 hz
    have e1 : mtC p sl b ts = (mat (pn + 1) p ts []).1 := by unfold mtC; rw [if_pos hok, hpn]
    unfold mtU mtL
    rw [e1, ← hpn]
    exact h
  · have eC : mtC p sl b ts = 9 := by unfold mtC; rw [if_neg hok]
    have eU : mtU p sl b ts = 0 := by unfold mtU; rw [eC]; rfl
    have eL : mtL p sl b ts = [] := by unfold mtL; rw [eC]; rfl
    rw [eC, eU, eL]
    have HP : Hid (TOn 0 w (.slice (some ⟨pb, 0, none⟩) pn pcap) p) := hp
    have HB : Hid (TRow w vb b) := hb
    have HT : Hid (TOn 0 w (.slice (some ⟨tb, 0, none⟩) tn tcap) ts) := ht
    obtain ⟨mb, hmb⟩ : ∃ mb, mb = macB p sl b := ⟨_, rfl⟩
    obtain ⟨lbb, hlb⟩ : ∃ lbb, lbb = lstB ts := ⟨_, rfl⟩
    have HMK : Hid (∀ W, Below w.heap.size w W → Calls Try.prog 49 #[macV (.slice (some ⟨pb, 0, none⟩) pn pcap) sl vb] W fun e w' => e = .returned (.bool mb) ∧ Below W.heap.size W w') := by
      intro W hW
      rw [hmb]
      exact macroOk_any (TRow.below (TOn.row HP) hW) (TRow.below HB hW) lp lb
    have HLK : Hid (∀ W, Below w.heap.size w W → Calls Try.prog 67 #[.slice (some ⟨tb, 0, none⟩) tn tcap] W fun e w' => e = .returned (.bool lbb) ∧ Below W.heap.size W w') := by
      intro W hW
      rw [hlb]
      exact listOk_any (TRow.below (TOn.row HT) hW) lt
    have hbad : mb = false ∨ (mb = true ∧ lbb = false) := by
      rw [hmb, hlb]
      rcases h1 : macB p sl b with _ | _
      · exact .inl rfl
      · rcases h2 : lstB ts with _ | _
        · exact .inr ⟨rfl, rfl⟩
        · exact absurd ⟨h1, h2⟩ hok
    clear hp hb ht hok hmb hlb hpn eC eU eL hz
    have BA : Hid (Below w.heap.size w ((w.alloc (.cells #[.slice (some ⟨pb, 0, none⟩) pn pcap, .int .i64 sl, vb] 34)).alloc (.cells #[.slice none 0 0, .int .i64 0, .int .i64 0] 59))) := (below1 w _).alloc (by simp) _
    have QA : Hid (((w.alloc (.cells #[.slice (some ⟨pb, 0, none⟩) pn pcap, .int .i64 sl, vb] 34)).alloc (.cells #[.slice none 0 0, .int .i64 0, .int .i64 0] 59)).heap[w.heap.size + 1]? = some (.cells #[.slice none 0 0, .int .i64 0, .int .i64 0] 59)) := by
      have := heap_alloc_new (w.alloc (.cells #[.slice (some ⟨pb, 0, none⟩) pn pcap, .int .i64 sl, vb] 34)) (.cells #[.slice none 0 0, .int .i64 0, .int .i64 0] 59)
      rw [World.size_alloc] at this
      exact this
    go_enter Try.func28, Try.ntmps28
    rcases hbad with rfl | ⟨rfl, rfl⟩
    · go_wp2_with fail
      refine (HMK _ BA).mono ?_
      rintro e w1 ⟨rfl, hb1⟩
      have B1 : Hid (Below w.heap.size w w1) := below_more BA hb1 (by simp; omega)
      have q1 : w1.heap[w.heap.size + 1]? = some (.cells #[.slice none 0 0, .int .i64 0, .int .i64 0] 59) := (hb1.block _ (by simp)).trans QA
      have d0 : w1.cell? ⟨w.heap.size + 1, 0, none⟩ = some (.slice none 0 0) := by rw [cell_of_row w1 _ _ _ 59 _ q1]; rfl
      have d1 : w1.cell? ⟨w.heap.size + 1, 1, none⟩ = some (.int .i64 0) := by rw [cell_of_row w1 _ _ _ 59 _ q1]; rfl
      have d2 : w1.cell? ⟨w.heap.size + 1, 2, none⟩ = some (.int .i64 0) := by rw [cell_of_row w1 _ _ _ 59 _ q1]; rfl
      have dz : ∀ o, w1.frozen? ⟨w.heap.size + 1, o, none⟩ = false := fun o => frozen_row q1 o
      have hrz : w.heap.size + 1 < w1.heap.size := (Array.getElem?_eq_some_iff.1 q1).1
      clear hb1 q1
      go_wp2
      have BB := ((Below.setCell B1 (p := ⟨w.heap.size + 1, 0, none⟩) (by simp) (.slice none 0 0)).setCell (p := ⟨w.heap.size + 1, 1, none⟩) (by simp) (.int .i64 0)).setCell (p := ⟨w.heap.size + 1, 2, none⟩) (by simp) (.int .i64 9)
      exact bodyPost_ret (v := .agg #[.slice none 0 0, .int .i64 0, .int .i64 9]) (by simp [results, Try.results28, go_sem, d0, d1, d2]; try rfl) rfl ⟨.slice none 0 0, rfl, ⟨0, [], w.heap.size, World.ownsRow_nil _ _ _ _, fun g hg => by simp [Value.ownBlock] at hg, Nat.le_refl _, BB.size⟩, BB⟩
    · go_wp2_with fail
      refine (HMK _ BA).mono ?_
      rintro e w0 ⟨rfl, hb0⟩
      have B0 : Hid (Below w.heap.size w w0) := below_more BA hb0 (by simp; omega)
      have q0 : Hid (w0.heap[w.heap.size + 1]? = some (.cells #[.slice none 0 0, .int .i64 0, .int .i64 0] 59)) := (hb0.block _ (by simp)).trans QA
      have hrz0 : w.heap.size + 1 < w0.heap.size := (Array.getElem?_eq_some_iff.1 q0).1
      clear hb0
      go_wp2_with fail
      refine (HLK _ B0).mono ?_
      rintro e w1 ⟨rfl, hb1⟩
      have B1 : Hid (Below w.heap.size w w1) := below_more B0 hb1 (Below.size B0)
      have q1 : w1.heap[w.heap.size + 1]? = some (.cells #[.slice none 0 0, .int .i64 0, .int .i64 0] 59) := (hb1.block _ hrz0).trans q0
      have d0 : w1.cell? ⟨w.heap.size + 1, 0, none⟩ = some (.slice none 0 0) := by rw [cell_of_row w1 _ _ _ 59 _ q1]; rfl
      have d1 : w1.cell? ⟨w.heap.size + 1, 1, none⟩ = some (.int .i64 0) := by rw [cell_of_row w1 _ _ _ 59 _ q1]; rfl
      have d2 : w1.cell? ⟨w.heap.size + 1, 2, none⟩ = some (.int .i64 0) := by rw [cell_of_row w1 _ _ _ 59 _ q1]; rfl
      have dz : ∀ o, w1.frozen? ⟨w.heap.size + 1, o, none⟩ = false := fun o => frozen_row q1 o
      have hrz : w.heap.size + 1 < w1.heap.size := (Array.getElem?_eq_some_iff.1 q1).1
      clear hb1 q1 hrz0
      go_wp2
      have BB := ((Below.setCell B1 (p := ⟨w.heap.size + 1, 0, none⟩) (by simp) (.slice none 0 0)).setCell (p := ⟨w.heap.size + 1, 1, none⟩) (by simp) (.int .i64 0)).setCell (p := ⟨w.heap.size + 1, 2, none⟩) (by simp) (.int .i64 9)
      exact bodyPost_ret (v := .agg #[.slice none 0 0, .int .i64 0, .int .i64 9]) (by simp [results, Try.results28, go_sem, d0, d1, d2]; try rfl) rfl ⟨.slice none 0 0, rfl, ⟨0, [], w.heap.size, World.ownsRow_nil _ _ _ _, fun g hg => by simp [Value.ownBlock] at hg, Nat.le_refl _, BB.size⟩, BB⟩
end Go.Proofs.Ytbceblgnjicdcaa
