/-
  Tokens in cells: rows of them that are read, owned, compared.
-/
import Derived.Test.YtkiiiahljlkjnaaNle
import Derived.Deep.RegionWith
namespace Go.Proofs.Ytkiiiahljlkjnaa
open Go.RowKit
set_option linter.unusedVariables false
set_option linter.unusedSimpArgs false

abbrev tokV (c h : Int) (s : ByteArray) : Value := .agg #[.int .i64 c, .int .i64 h, .string s]
/-- A token as data. -/
structure Tk where
  c : Int
  h : Int
  s : ByteArray
abbrev Tk.v (t : Tk) : Value := tokV t.c t.h t.s
def Tk.none : Tk := ⟨0, 0, ByteArray.empty⟩

/-- In world w the slice v reads as the tokens ts. -/
def TRow (w : World) (v : Value) (ts : List Tk) : Prop :=
  ∃ ao n cap, v = .slice ao n cap ∧ ts.length = n ∧ (0 < n → ∃ b off, ao = some ⟨b, off, none⟩ ∧ b < w.heap.size ∧ ∀ i, i < n →
    w.cell? ⟨b, off + i * 3, none⟩ = some (.int .i64 (ts.getD i Tk.none).c) ∧ w.cell? ⟨b, off + i * 3 + 1, none⟩ = some (.int .i64 (ts.getD i Tk.none).h) ∧ w.cell? ⟨b, off + i * 3 + 2, none⟩ = some (.string (ts.getD i Tk.none).s))

theorem TRow.below {w w' : World} {v : Value} {ts : List Tk} (h : TRow w v ts) (hb : Below w.heap.size w w') : TRow w' v ts := by
  obtain ⟨ao, n, cap, rfl, hn, hc⟩ := h
  refine ⟨ao, n, cap, rfl, hn, fun hp => ?_⟩
  obtain ⟨b, off, rfl, hlt, hcell⟩ := hc hp
  refine ⟨b, off, rfl, Nat.lt_of_lt_of_le hlt hb.size, fun i hi => ?_⟩
  obtain ⟨h1, h2, h3⟩ := hcell i hi
  exact ⟨(hb.cell (p := ⟨b, off + i * 3, none⟩) hlt).trans h1, (hb.cell (p := ⟨b, off + i * 3 + 1, none⟩) hlt).trans h2, (hb.cell (p := ⟨b, off + i * 3 + 2, none⟩) hlt).trans h3⟩

theorem Try.info34 : (Try.prog.info? 34).map (fun i => (i.zero, i.size, i.bytes)) = some (some (.agg #[.int .i64 0, .int .i64 0, .string ByteArray.empty]), 3, 32) := by kernel_rfl

/-- The first k tokens of ts lie in block g, which has room for n. -/
def TPart (w : World) (g n k : Nat) (ts : List Tk) : Prop :=
  ∃ cur : Array Value, w.heap[g]? = some (.cells cur 34 (0, 0)) ∧ cur.size = n * 3 ∧ ∀ i, i < k → cur[i * 3]? = some (.int .i64 (ts.getD i Tk.none).c) ∧ cur[i * 3 + 1]? = some (.int .i64 (ts.getD i Tk.none).h) ∧ cur[i * 3 + 2]? = some (.string (ts.getD i Tk.none).s)

theorem TPart.row {w : World} {g n cap : Nat} {ts : List Tk} (h : TPart w g n n ts) (hn : ts.length = n) : TRow w (.slice (some ⟨g, 0, none⟩) n cap) ts := by
  obtain ⟨cur, hg, hs, hc⟩ := h
  refine ⟨_, n, cap, rfl, hn, fun _ => ⟨g, 0, rfl, (Array.getElem?_eq_some_iff.1 hg).1, fun i hi => ?_⟩⟩
  obtain ⟨h1, h2, h3⟩ := hc i hi
  rw [Nat.zero_add, cell_of_row w g _ cur 34 _ hg, cell_of_row w g _ cur 34 _ hg, cell_of_row w g _ cur 34 _ hg]
  exact ⟨h1, h2, h3⟩

theorem TPart.put {w : World} {g n k : Nat} {ts : List Tk} (h : TPart w g n k ts) (hk : k < n) {t : Tk} (ht : t = ts.getD k Tk.none) :
    TPart (((w.setCell ⟨g, k * 3, none⟩ (.int .i64 t.c)).setCell ⟨g, k * 3 + 1, none⟩ (.int .i64 t.h)).setCell ⟨g, k * 3 + 2, none⟩ (.string t.s)) g n (k + 1) ts := by
  obtain ⟨cur, hg, hs, hc⟩ := h
  have e1 := heap_setCell_same w g (k * 3) cur 34 (.int .i64 t.c) hg
  have e2 := heap_setCell_same _ g (k * 3 + 1) _ 34 (.int .i64 t.h) e1
  have e3 := heap_setCell_same _ g (k * 3 + 2) _ 34 (.string t.s) e2
  refine ⟨_, e3, by simp [hs], fun i hi => ?_⟩
  by_cases hik : i = k
  · subst hik
    subst ht
    simp only [Array.getElem?_setIfInBounds, Array.size_setIfInBounds, hs]
    refine ⟨?_, ?_, ?_⟩
    · simp; omega
    · simp; omega
    · simp; omega
  · obtain ⟨h1, h2, h3⟩ := hc i (by omega)
    simp only [Array.getElem?_setIfInBounds, Array.size_setIfInBounds]
    refine ⟨?_, ?_, ?_⟩
    · rw [if_neg (by omega), if_neg (by omega), if_neg (by omega)]; exact h1
    · rw [if_neg (by omega), if_neg (by omega), if_neg (by omega)]; exact h2
    · rw [if_neg (by omega), if_neg (by omega), if_neg (by omega)]; exact h3

theorem TPart.cells {w : World} {g n k : Nat} {ts : List Tk} (h : TPart w g n k ts) (j : Nat) (hj : j < n * 3) : ∃ x, w.cell? ⟨g, j, none⟩ = some x := by
  obtain ⟨cur, hg, hs, _⟩ := h
  rw [cell_of_row w g _ cur 34 _ hg]
  exact ⟨_, Array.getElem?_eq_getElem (by omega)⟩
theorem TPart.free {w : World} {g n k : Nat} {ts : List Tk} (h : TPart w g n k ts) (j : Nat) : w.frozen? ⟨g, j, none⟩ = false := by
  obtain ⟨cur, hg, hs, _⟩ := h
  exact frozen_of_row w g j cur 34 hg
theorem TPart.below {w w' : World} {g n k : Nat} {ts : List Tk} (h : TPart w g n k ts) (hb : Below w.heap.size w w') : TPart w' g n k ts := by
  obtain ⟨cur, hg, hs, hc⟩ := h
  exact ⟨cur, (hb.block g (Array.getElem?_eq_some_iff.1 hg).1).trans hg, hs, hc⟩
theorem TPart.lt {w : World} {g n k : Nat} {ts : List Tk} (h : TPart w g n k ts) : g < w.heap.size := by
  obtain ⟨cur, hg, _⟩ := h
  exact (Array.getElem?_eq_some_iff.1 hg).1

def cellsT (t : Tk) : List Value := [.int .i64 t.c, .int .i64 t.h, .string t.s]
def flat : List Tk → List Value
  | [] => []
  | t :: ts => .int .i64 t.c :: .int .i64 t.h :: .string t.s :: flat ts

theorem flat_len : ∀ ts : List Tk, (flat ts).length = ts.length * 3
  | [] => rfl
  | t :: ts => by simp only [flat, List.length_cons, flat_len ts]; omega
theorem flat_app : ∀ a b : List Tk, flat (a ++ b) = flat a ++ flat b
  | [], b => rfl
  | t :: a, b => by simp only [flat, List.cons_append, flat_app a b]
theorem flat_one : ∀ ts : List Tk, ∀ u ∈ flat ts, u.oneCell' = true
  | [], u, h => by simp [flat] at h
  | t :: ts, u, h => by
    simp only [flat, List.mem_cons] at h
    rcases h with rfl | rfl | rfl | h
    · rfl
    · rfl
    · rfl
    · exact flat_one ts u h
theorem flat_get : ∀ (ts : List Tk) (i : Nat), i < ts.length → (flat ts)[i * 3]? = some (.int .i64 (ts.getD i Tk.none).c) ∧ (flat ts)[i * 3 + 1]? = some (.int .i64 (ts.getD i Tk.none).h) ∧ (flat ts)[i * 3 + 2]? = some (.string (ts.getD i Tk.none).s)
  | [], i, h => by simp at h
  | t :: ts, 0, h => ⟨rfl, rfl, rfl⟩
  | t :: ts, i + 1, h => by
    simp only [List.length_cons] at h
    obtain ⟨h0, h1, h2⟩ := flat_get ts i (by omega)
    have e : (i + 1) * 3 = i * 3 + 1 + 1 + 1 := by omega
    have e1 : (i + 1) * 3 + 1 = (i * 3 + 1) + 1 + 1 + 1 := by omega
    have e2 : (i + 1) * 3 + 2 = (i * 3 + 2) + 1 + 1 + 1 := by omega
    rw [e1, e2, e]
    simp only [flat, List.getElem?_cons_succ, List.getD_cons_succ]
    exact ⟨h0, h1, h2⟩
theorem flat_take : ∀ (ts : List Tk) (k : Nat), (flat ts).take (k * 3) = flat (ts.take k)
  | [], k => by simp [flat]
  | t :: ts, 0 => rfl
  | t :: ts, k + 1 => by
    have e : (k + 1) * 3 = k * 3 + 1 + 1 + 1 := by omega
    rw [e]
    simp only [flat, List.take_succ_cons, flat_take ts k]
theorem flat_drop : ∀ (ts : List Tk) (k : Nat), (flat ts).drop (k * 3) = flat (ts.drop k)
  | [], k => by simp [flat]
  | t :: ts, 0 => rfl
  | t :: ts, k + 1 => by
    have e : (k + 1) * 3 = k * 3 + 1 + 1 + 1 := by omega
    rw [e]
    simp only [flat, List.drop_succ_cons, flat_drop ts k]

/-- The slice v has an address from block lo on and reads as the tokens ts. -/
def TOn (lo : Nat) (w : World) (v : Value) (ts : List Tk) : Prop :=
  ∃ b off cap, v = .slice (some ⟨b, off, none⟩) ts.length cap ∧ ts.length ≤ cap ∧ lo ≤ b ∧ b < w.heap.size ∧ ∀ j u, (flat ts)[j]? = some u → w.cell? ⟨b, off + j, none⟩ = some u
/-- It is nil and there are no tokens, or it has an address. -/
def TN (lo : Nat) (w : World) (v : Value) (ts : List Tk) : Prop := (v = .slice none 0 0 ∧ ts = []) ∨ TOn lo w v ts

theorem TOn.row {lo : Nat} {w : World} {v : Value} {ts : List Tk} (h : TOn lo w v ts) : TRow w v ts := by
  obtain ⟨b, off, cap, rfl, hcap, hlo, hb, hc⟩ := h
  refine ⟨_, _, cap, rfl, rfl, fun _ => ⟨b, off, rfl, hb, fun i hi => ?_⟩⟩
  obtain ⟨h0, h1, h2⟩ := flat_get ts i hi
  exact ⟨hc _ _ h0, hc _ _ h1, hc _ _ h2⟩
theorem TOn.abv {lo : Nat} {w w' : World} {v : Value} {ts : List Tk} (h : TOn lo w v ts) (ha : Abv lo w w') : TOn lo w' v ts := by
  obtain ⟨b, off, cap, rfl, hcap, hlo, hb, hc⟩ := h
  exact ⟨b, off, cap, rfl, hcap, hlo, Nat.lt_of_lt_of_le hb ha.size, fun j u hj => (World.cell?_of_block (w := w) (a := ⟨b, off + j, none⟩) (ha.block b hlo hb)).trans (hc j u hj)⟩
theorem TOn.below {lo : Nat} {w w' : World} {v : Value} {ts : List Tk} (h : TOn lo w v ts) (hb : Below w.heap.size w w') : TOn lo w' v ts := h.abv (Abv.below hb)
theorem TOn.mono {lo lo' : Nat} {w : World} {v : Value} {ts : List Tk} (h : TOn lo w v ts) (hl : lo' ≤ lo) : TOn lo' w v ts := by
  obtain ⟨b, off, cap, rfl, hcap, hlo, hb, hc⟩ := h
  exact ⟨b, off, cap, rfl, hcap, Nat.le_trans hl hlo, hb, hc⟩
theorem TN.row {lo : Nat} {w : World} {v : Value} {ts : List Tk} (h : TN lo w v ts) : TRow w v ts := by
  rcases h with ⟨rfl, rfl⟩ | h
  · exact ⟨_, _, _, rfl, rfl, fun h => absurd h (Nat.lt_irrefl 0)⟩
  · exact h.row
theorem TN.below {lo : Nat} {w w' : World} {v : Value} {ts : List Tk} (h : TN lo w v ts) (hb : Below w.heap.size w w') : TN lo w' v ts := by
  rcases h with h | h
  · exact .inl h
  · exact .inr (h.below hb)

/-- A row of one's own reads so. -/
theorem own_on {base n : Nat} {w : World} {v : Value} {ts : List Tk} (h : w.ownsRow base 34 3 v n (flat ts)) (hne : v ≠ .slice none 0 0) : TOn base w v ts := by
  obtain ⟨hl, h | ⟨g, cap, cur, rfl, hg, hb, hn, hm, hs, hx⟩⟩ := h
  · exact absurd h.1 hne
  · rw [flat_len] at hl
    obtain rfl : ts.length = n := by omega
    refine ⟨g, 0, cap, rfl, hn, hg, (Array.getElem?_eq_some_iff.1 hb).1, fun j u hj => ?_⟩
    rw [Nat.zero_add, cell_of_row w g _ cur 34 _ hb, ← Array.getElem?_toList]
    rw [← hx, List.getElem?_take] at hj
    split at hj
    · exact hj
    · simp at hj
theorem own_n {base n : Nat} {w : World} {v : Value} {ts : List Tk} (h : w.ownsRow base 34 3 v n (flat ts)) : TN base w v ts := by
  by_cases hne : v = .slice none 0 0
  · subst hne
    refine .inl ⟨rfl, ?_⟩
    obtain ⟨hl, h | ⟨g, cap, cur, h, _⟩⟩ := h
    · rw [flat_len, h.2] at hl
      exact List.eq_nil_of_length_eq_zero (by omega)
    · simp at h
  · exact .inr (own_on h hne)
set_option maxHeartbeats 1000000 in
theorem eqTokens_same {v1 v2 : Value} {ts : List Tk} {w : World} (h1 : TRow w v1 ts) (h2 : TRow w v2 ts) (hx : ts.length ≤ 1048576) :
    Calls Try.prog 19 #[v1, v2] w fun e w' => e = .returned (.bool true) ∧ Below w.heap.size w w' := by
  obtain ⟨ao1, n1, cap1, rfl, hn1, hr1⟩ := h1
  obtain ⟨ao2, n2, cap2, rfl, hn2, hr2⟩ := h2
  obtain rfl : n1 = n2 := by omega
  rw [hn1] at hx
  have HR1 : Hid (0 < n1 → ∃ b off, ao1 = some ⟨b, off, none⟩ ∧ b < w.heap.size ∧ ∀ i, i < n1 →
    w.cell? ⟨b, off + i * 3, none⟩ = some (.int .i64 (ts.getD i Tk.none).c) ∧ w.cell? ⟨b, off + i * 3 + 1, none⟩ = some (.int .i64 (ts.getD i Tk.none).h) ∧ w.cell? ⟨b, off + i * 3 + 2, none⟩ = some (.string (ts.getD i Tk.none).s)) := hr1
  have HR2 : Hid (0 < n1 → ∃ b off, ao2 = some ⟨b, off, none⟩ ∧ b < w.heap.size ∧ ∀ i, i < n1 →
    w.cell? ⟨b, off + i * 3, none⟩ = some (.int .i64 (ts.getD i Tk.none).c) ∧ w.cell? ⟨b, off + i * 3 + 1, none⟩ = some (.int .i64 (ts.getD i Tk.none).h) ∧ w.cell? ⟨b, off + i * 3 + 2, none⟩ = some (.string (ts.getD i Tk.none).s)) := hr2
  clear hn1 hn2 hr1 hr2
  go_enter Try.func19, Try.ntmps19
  go_wp2
  go_loopw [5] (fun i wr => ∃ k : Nat, k ≤ n1 ∧ i = .int .i64 k ∧ Below w.heap.size w wr) (fun i _ => n1 - (intOf i).toNat)
  case atStart => exact ⟨0, by omega, rfl, Below.refl _ _⟩
  case round =>
    obtain ⟨k, hk, rfl, hbel⟩ := hrel
    by_cases hkn : k < n1
    · have hki : (k : Int) < (n1 : Int) := by omega
      obtain ⟨b, off, rfl, hb, hc⟩ := HR1 (by omega)
      obtain ⟨b', off', rfl, hb', hc'⟩ := HR2 (by omega)
      obtain ⟨t, ht⟩ : ∃ t, t = ts.getD k Tk.none := ⟨_, rfl⟩
      obtain ⟨hc0, hc1, hc2⟩ := hc k hkn
      obtain ⟨hd0, hd1, hd2⟩ := hc' k hkn
      rw [← ht] at hc0 hc1 hc2 hd0 hd1 hd2
      have g0 := (hbel.cell (p := ⟨b, off + k * 3, none⟩) hb).trans hc0
      have g1 := (hbel.cell (p := ⟨b, off + k * 3 + 1, none⟩) hb).trans hc1
      have g2 := (hbel.cell (p := ⟨b, off + k * 3 + 2, none⟩) hb).trans hc2
      have f0 := (hbel.cell (p := ⟨b', off' + k * 3, none⟩) hb').trans hd0
      have f1 := (hbel.cell (p := ⟨b', off' + k * 3 + 1, none⟩) hb').trans hd1
      have f2 := (hbel.cell (p := ⟨b', off' + k * 3 + 2, none⟩) hb').trans hd2
      have HB : Hid (Below w.heap.size w wr) := hbel
      clear hc hc' hc0 hc1 hc2 hd0 hd1 hd2 hbel ht
      go_wp2
      go_region_with (go_at_call 36; refine (eqToken_same _ _ _ _).mono ?_; rintro e w2 ⟨rfl, hb1⟩)
      all_goals
        have hb2 : Below w.heap.size w w2 := Below.trans (Below.drew HB) (‹Below _ _ w2›.mono (Below.size HB))
        go_wp2
        go_roundw
        case rel => exact ⟨k + 1, by omega, by go_num, hb2⟩
        case measure => simp [intOf]; omega
    · have hki : ¬ (k : Int) < (n1 : Int) := by omega
      have HB : Hid (Below w.heap.size w wr) := hbel
      clear hbel
      go_wp2
      go_ret
      exact ⟨rfl, HB⟩
end Go.Proofs.Ytkiiiahljlkjnaa
