/-
  The law of FillBody, as a walk.
-/
import Derived.Test.YtbceblgnjicdcaaFli
import Derived.Test.YtbceblgnjicdcaaMra
import Derived.Deep.RegionWith
import Derived.Deep.Cut
namespace Go.Proofs.Ytbceblgnjicdcaa
open Go.RowKit
set_option linter.unusedVariables false
set_option linter.unusedSimpArgs false

/-- Tokens that weigh little. -/
def Sw (ts : List Tk) : Prop := weight ts ≤ 1048576
theorem Sw.len {ts : List Tk} (h : Sw ts) : ts.length ≤ 1048576 := by unfold Sw weight at h; omega
theorem sum_mem : ∀ (ts : List Tk) (t : Tk), t ∈ ts → t.s.size ≤ (ts.map (fun t => t.s.size)).sum
  | [], t, h => by simp at h
  | x :: ts, t, h => by
    simp only [List.map_cons, List.sum_cons]
    rcases List.mem_cons.1 h with rfl | h
    · omega
    · have := sum_mem ts t h; omega
theorem Sw.str {ts : List Tk} (h : Sw ts) {t : Tk} (ht : t ∈ ts) : t.s.size ≤ 1048576 := by
  have := sum_mem ts t ht
  unfold Sw weight at h
  omega
theorem fill_mem {args : List (List Tk)} : ∀ (b : List Tk) (t : Tk), t ∈ fill args b → t ∈ b ∨ ∃ i, i < args.length ∧ t ∈ args.getD i []
  | [], t, h => by simp [fill] at h
  | x :: ts, t, h => by
    simp only [fill, List.mem_append] at h
    rcases h with h | h
    · unfold part at h
      split at h
      · right
        rcases Nat.lt_or_ge (x.h - 1).toNat args.length with hl | hl
        · exact ⟨_, hl, h⟩
        · rw [List.getD_eq_getElem?_getD, List.getElem?_eq_none hl] at h
          simp at h
      · left
        simp at h
        rw [h]
        exact List.mem_cons_self ..
    · rcases fill_mem ts t h with h | h
      · exact .inl (List.mem_cons_of_mem _ h)
      · exact .inr h
theorem fill_str {args : List (List Tk)} {b : List Tk} (hb : Sw b) (ha : ∀ i, i < args.length → Sw (args.getD i [])) : ∀ i, i < (fill args b).length → ((fill args b).getD i Tk.none).s.size ≤ 281474976710656 := by
  intro i hi
  have hm : (fill args b).getD i Tk.none ∈ fill args b := by simp [List.getD, List.getElem?_eq_getElem hi]
  rcases fill_mem b _ hm with h | ⟨j, hj, h⟩
  · exact Nat.le_trans (hb.str h) (by decide)
  · exact Nat.le_trans ((ha j hj).str h) (by decide)
theorem total_le {M : Nat} : ∀ xs : List (List Tk), (∀ i, i < xs.length → (xs.getD i []).length ≤ M) → total xs ≤ xs.length * M
  | [], _ => by simp [total]
  | x :: xs, h => by
    have h1 := total_le xs (fun i hi => by have := h (i + 1) (by simpa using hi); simpa using this)
    have h2 := h 0 (by simp)
    unfold total at h1 ⊢
    simp only [List.getD_cons_zero] at h2
    simp only [List.flatten_cons, List.length_append, List.length_cons, Nat.succ_mul]
    omega

set_option maxHeartbeats 2000000 in
theorem szTss_w {v : Value} {xs : List (List Tk)} {w : World} {l : Int} (h : SRow 1 TsR [] 0 w v xs) (hf : xs.length ≤ 9223372036854775807 ∧ ∀ i, i < xs.length → Fine (xs.getD i [])) (hl0 : 0 ≤ l) (hl1 : l ≤ 1048576) :
    Calls Try.prog 36 #[v, .int .i64 l] w fun e w' => (∃ m : Int, e = .returned (.int .i64 m) ∧ m ≤ l ∧ (0 ≤ m → xs.length ≤ 1048576 ∧ ∀ i, i < xs.length → Sw (xs.getD i []))) ∧ Below w.heap.size w w' := by
  obtain ⟨ao, n, cap, rfl, hl, hr⟩ := h
  have hn : n ≤ 9223372036854775807 := by rw [← hl]; exact hf.1
  by_cases hbig : l - (n : Int) < 0
  · go_enter Try.func36, Try.ntmps36
    go_wp2
    go_ret
    exact ⟨⟨-1, rfl, by omega, fun h => by omega⟩, Below.refl _ _⟩
  · have HR : Hid (0 < n → ∃ b off, ao = some ⟨b, off, none⟩ ∧ 0 ≤ b ∧ b < w.heap.size ∧ ∀ i, i < n → ∃ cs : List Value, cs.length = 1 ∧ TsR 0 w cs (xs.getD i []) ∧ ∀ j, j < 1 → w.cell? ⟨b, off + i * 1 + j, none⟩ = cs[j]?) := hr
    have HS : Hid (∀ i, i < xs.length → Fine (xs.getD i [])) := hf.2
    have HL : Hid (xs.length = n) := hl
    clear hr hf hl
    go_enter Try.func36, Try.ntmps36
    go_wp2
    go_loopw [1, 5] (fun s i wr => ∃ (k : Nat) (m : Int), k ≤ n ∧ i = .int .i64 k ∧ s = .int .i64 m ∧ 0 ≤ m ∧ m ≤ l ∧ Hid (∀ i, i < k → Sw (xs.getD i [])) ∧ Below w.heap.size w wr)
      (fun _ i _ => n - (intOf i).toNat)
    case atStart => exact ⟨0, l - n, by omega, rfl, rfl, by omega, by omega, fun i hi => absurd hi (by omega), Below.refl _ _⟩
    case round =>
      obtain ⟨k, m, hk, rfl, rfl, hm0, hm1, HM, hbel⟩ := hrel
      by_cases hkn : k < n
      · have hki : (k : Int) < (n : Int) := by omega
        obtain ⟨b, off, rfl, hlo, hb, hc⟩ := HR (by omega)
        have hfk : Fine (xs.getD k []) := HS k (by rw [show xs.length = n from HL]; exact hkn)
        obtain ⟨cs, hcl, hRel, hcj⟩ := hc k hkn
        obtain ⟨t, ht⟩ : ∃ t, t = xs.getD k [] := ⟨_, rfl⟩
        rw [← ht] at hRel hfk
        have HT : Hid (t = xs.getD k []) := ht
        obtain ⟨u, rfl, hin⟩ := hRel
        obtain ⟨a, n0, c, rfl⟩ := hin.shape
        have g0 : wr.cell? ⟨b, off + k, none⟩ = some (.slice a n0 c) := by have h := (hbel.cell (p := ⟨b, off + k * 1 + 0, none⟩) hb).trans (hcj 0 (by omega)); simpa using h
        have HB : Hid (Below w.heap.size w wr) := hbel
        have HX : Hid (Fine t ∧ TRow wr (.slice a n0 c) t) := ⟨hfk, TIn.row_below hin hbel⟩
        clear hc hcj hcl hbel ht hfk hin
        go_wp2_with fail
        refine (szTokens_any HX.2 HX.1.1 HX.1.2 hm0 (by omega)).mono ?_
        rintro e w2 ⟨⟨m2, rfl, hm2l, hm2⟩, hb1⟩
        have B2 : Hid (Below w.heap.size w w2) := below_more HB hb1 (Below.size HB)
        have HM2 : Hid (0 ≤ m2 → Sw t) := fun h => by have := hm2 h; show weight t ≤ 1048576; omega
        clear hb1 hm2
        by_cases hneg : m2 < 0
        · go_wp2
          go_ret
          exact ⟨⟨-1, rfl, by omega, fun h => by omega⟩, B2⟩
        · go_wp2
          go_roundw
          case rel =>
            refine ⟨k + 1, m2, by omega, by go_num, rfl, by omega, by omega, fun i hi => ?_, B2⟩
            by_cases hik : i = k
            · subst hik; rw [← show t = xs.getD i [] from HT]; exact HM2 (by omega)
            · exact HM i (by omega)
          case measure => simp [intOf]; omega
      · have hki : ¬ (k : Int) < (n : Int) := by omega
        obtain rfl : k = n := by omega
        have HB : Hid (Below w.heap.size w wr) := hbel
        clear hbel
        go_wp2
        go_ret
        refine ⟨⟨m, rfl, hm1, fun _ => ⟨?_, fun i hi => HM i ?_⟩⟩, HB⟩
        · have hl : xs.length = k := HL
          omega
        · have hl : xs.length = k := HL
          omega


theorem own_keep {base n : Nat} {w w' : World} {v : Value} {xs : List Value} (h : w.ownsRow base 31 3 v n xs) (hk : ∀ g, base ≤ g → g < w.heap.size → w'.heap[g]? = w.heap[g]?) : w'.ownsRow base 31 3 v n xs := by
  obtain ⟨hl, h | ⟨g, cap, cur, rfl, hg, hb, hr⟩⟩ := h
  · exact ⟨hl, .inl h⟩
  · exact ⟨hl, .inr ⟨g, cap, cur, rfl, hg, (hk g hg (Array.getElem?_eq_some_iff.1 hb).1).trans hb, hr⟩⟩
/-- A row that lies below hi keeps where what is below hi keeps. -/
def OwnIn (lo hi : Nat) (w : World) (v : Value) (n : Nat) (xs : List Value) : Prop := w.ownsRow lo 31 3 v n xs ∧ ∀ g, v.ownBlock = some g → g < hi
theorem OwnIn.keep {lo hi n : Nat} {w w' : World} {v : Value} {xs : List Value} (h : OwnIn lo hi w v n xs) (hk : ∀ g, lo ≤ g → g < hi → g < w.heap.size → w'.heap[g]? = w.heap[g]?) : OwnIn lo hi w' v n xs := by
  obtain ⟨⟨hl, h | ⟨g, cap, cur, rfl, hg, hb, hr⟩⟩, h2⟩ := h
  · exact ⟨⟨hl, .inl h⟩, h2⟩
  · exact ⟨⟨hl, .inr ⟨g, cap, cur, rfl, hg, (hk g hg (h2 g rfl) (Array.getElem?_eq_some_iff.1 hb).1).trans hb, hr⟩⟩, h2⟩
theorem MRs.at {lo hi o : Nat} {w w' : World} {xs : List (List Tk)} (h : MRs lo hi w o xs) (hb : w'.heap[o]? = w.heap[o]?) (hs : Shp w w') : MRs lo hi w' o xs := by
  obtain ⟨cur, hc, hi2⟩ := h
  refine ⟨cur, hb.trans hc, fun i hi => ?_⟩
  obtain ⟨v, h1, h2⟩ := hi2 i hi
  exact ⟨v, h1, h2.shp hs⟩
theorem MRs.lt {lo hi o : Nat} {w : World} {xs : List (List Tk)} (h : MRs lo hi w o xs) : o < w.heap.size := by
  obtain ⟨cur, hc, _⟩ := h
  exact (Array.getElem?_eq_some_iff.1 hc).1

theorem own_mark {base n c : Nat} {w : World} {a : Option Addr} {xs : List Value} (h : w.ownsRow base 31 3 (.slice a n c) n xs) : 0 < n → ∃ g, a = some ⟨g, 0, none⟩ ∧ n ≤ c ∧ base ≤ g ∧ g < w.heap.size ∧ TPart w g c 0 [] := by
  intro h0
  obtain ⟨hl, ⟨e, h1⟩ | ⟨g, cap, cur, e, hg, hb, hn, hm, hs, hr⟩⟩ := h
  · omega
  · simp at e
    obtain ⟨rfl, rfl⟩ := e
    exact ⟨g, rfl, hn, hg, (Array.getElem?_eq_some_iff.1 hb).1, cur, hb, hs, fun i hi => by omega⟩
theorem marked_row {n c k : Nat} {w : World} {a : Option Addr} (h : 0 < n → ∃ g, a = some ⟨g, 0, none⟩ ∧ n ≤ c ∧ TPart w g c n (marks k n)) : TRow w (.slice a n c) (marks k n) := by
  refine ⟨a, n, c, rfl, marks_len k n, fun h0 => ?_⟩
  obtain ⟨g, rfl, hc, hp⟩ := h h0
  have := (hp.on (marks_len k n) hc).row
  obtain ⟨a2, n2, c2, e, hl, hr⟩ := this
  simp at e
  obtain ⟨rfl, rfl, rfl⟩ := e
  exact hr h0

theorem resF_len (p : List Tk) (sl : Int) (b : List Tk) (args : List (List Tk)) : (resF p sl b args).length ≤ 20000 := by
  unfold resF
  split
  · next h =>
    unfold okF at h
    simp only [Bool.and_eq_true, decide_eq_true_eq] at h
    exact h.2.2.2
  · simp

set_option maxRecDepth 100000 in
set_option maxHeartbeats 4000000 in
theorem lawFill_any {vp vb va : Value} {p b : List Tk} {sl : Int} {args : List (List Tk)} {w : World} (hp : TRow w vp p) (hb : TRow w vb b) (fp : Fine p) (fb : Fine b) (ha : SRow 1 TsR [] 0 w va args) (fa : args.length ≤ 9223372036854775807 ∧ ∀ i, i < args.length → Fine (args.getD i [])) :
    Calls Try.prog 7 #[macV vp sl vb, va] w fun e w' => e = .returned (.bool true) ∧ Below w.heap.size w w' := by
  have HP : Hid (TRow w vp p) := hp
  have HB : Hid (TRow w vb b) := hb
  have HA : Hid (SRow 1 TsR [] 0 w va args) := ha
  obtain ⟨ao, n1, cap, rfl, hx, hy⟩ := hp
  obtain ⟨ao2, n2, cap2, rfl, hx2, hy2⟩ := hb
  obtain ⟨ao3, n3, cap3, rfl, hx3, hy3⟩ := ha
  clear hx hy hx2 hy2 hx3 hy3
  have HF : Hid (Fine p ∧ Fine b ∧ args.length ≤ 9223372036854775807 ∧ ∀ i, i < args.length → Fine (args.getD i [])) := ⟨fp, fb, fa⟩
  clear fp fb fa
  go_enter Try.func7, Try.ntmps7
  go_wp2_with fail
  refine (szMacro_any (TRow.below HP (below1 _ _)) (TRow.below HB (below1 _ _)) HF.1 HF.2.1 (by omega) (by omega)).mono ?_
  rintro e w1 ⟨⟨m, rfl, hml, hm⟩, hb1⟩
  obtain ⟨hc1, hf1⟩ := bcell hb1
  have hz1 : w.heap.size < w1.heap.size := by have := hb1.size; simp at this; omega
  have B1 : Hid (Below w.heap.size w w1) := (below1 _ _).trans (hb1.mono (by simp))
  have HM : Hid (0 ≤ m → m = 1048576 - weight p - weight b) := hm
  clear hb1 hm
  by_cases hneg : m < 0
  · go_wp2
    go_ret
    exact ⟨rfl, B1⟩
  · have hm0 : 0 ≤ m := by omega
    go_wp2_with fail
    refine (szTss_w (SRow.below tsStable HA B1) HF.2.2 hm0 (by omega)).mono ?_
    rintro e w2 ⟨⟨m2, rfl, hml2, hm2⟩, hb2⟩
    have B2 : Hid (Below w.heap.size w w2) := below_more B1 hb2 (Below.size B1)
    obtain ⟨hc2, hf2⟩ := bcell hb2
    have hz2 : w.heap.size < w2.heap.size := by have := hb2.size; omega
    have HM2 : Hid (0 ≤ m2 → args.length ≤ 1048576 ∧ ∀ i, i < args.length → Sw (args.getD i [])) := hm2
    clear hb2 hm2
    by_cases hneg2 : m2 < 0
    · go_wp2
      go_ret
      exact ⟨rfl, B2⟩
    · have HSW : Hid (Sw p ∧ Sw b ∧ args.length ≤ 1048576 ∧ ∀ i, i < args.length → Sw (args.getD i [])) := by
        have h := HM hm0
        exact ⟨by show weight p ≤ 1048576; omega, by show weight b ≤ 1048576; omega, HM2 (by omega)⟩
      clear HM HM2
      have hs : ∀ i, i < args.length → (args.getD i []).length ≤ 1048576 := fun i hi => (HSW.2.2.2 i hi).len
      have HS : Hid (∀ i, i < args.length → (args.getD i []).length ≤ 1048576) := hs
      have HSM : Hid (args.length ≤ 1048576 ∧ ∀ i, i < args.length → Sml (args.getD i [])) := ⟨HSW.2.2.1, hs⟩
      have HLL : Hid (p.length ≤ 1048576 ∧ b.length ≤ 1048576) := ⟨HSW.1.len, HSW.2.1.len⟩
      have HZ : Hid (∀ i, i < (fill args b).length → ((fill args b).getD i Tk.none).s.size ≤ 281474976710656) := fill_str HSW.2.1 HSW.2.2.2
      clear hs
      obtain ⟨ok, hok⟩ : ∃ x, x = okF p sl b args := ⟨_, rfl⟩
      obtain ⟨R, hR⟩ : ∃ x, x = resF p sl b args := ⟨_, rfl⟩
      have HRL : Hid (R.length ≤ 1048576) := by rw [hR]; exact Nat.le_trans (resF_len p sl b args) (by decide)
      -- the contracts of the two, with names for what they answer
      have CS : Hid (∀ {vp va : Value} {g n c : Nat} {w : World}, TRow w vp p → TOn 0 w (.slice (some ⟨g, 0, none⟩) n c) b → ARow 0 w va args → Calls Try.prog 37 #[macV vp sl (.slice (some ⟨g, 0, none⟩) n c), va] w fun e w' => ∃ v', e = .returned (.tuple #[v', .bool ok]) ∧ (∃ n, w'.ownsRow w.heap.size 31 3 v' n (flat R)) ∧ v' ≠ .slice none 0 0 ∧ Below w.heap.size w w') := by
        intro vp va g n c w h1 h2 h3
        rw [hok, hR]
        exact specFill_any h1 h2 h3 HLL.1 HLL.2 HSM.1 HS
      have CI : Hid (∀ {vp va : Value} {g n c : Nat} {w : World}, TRow w vp p → TOn 0 w (.slice (some ⟨g, 0, none⟩) n c) b → ARow 0 w va args → Calls Try.prog 39 #[macV vp sl (.slice (some ⟨g, 0, none⟩) n c), va] w fun e w' => ∃ v', e = .returned (.tuple #[v', .bool ok]) ∧ (∃ n, w'.ownsRow w.heap.size 31 3 v' n (flat R)) ∧ Below w.heap.size w w') := by
        intro vp va g n c w h1 h2 h3
        rw [hok, hR]
        exact implFill_any h1 h2 h3 HLL.1 HLL.2 HSM.1 HS HZ
      clear hok hR
      go_wp2_with fail
      refine (toMacro_p (TRow.below HP B2) (TRow.below HB B2) HLL.1 HLL.2).mono ?_
      rintro e w3 ⟨vp3, vb3, rfl, hp3, hq3, hb3⟩
      obtain ⟨g3, rfl, hg3, ht3⟩ := hp3
      obtain ⟨k3, rfl, hk3, hu3⟩ := hq3
      have B3 : Hid (Below w.heap.size w w3) := below_more B2 hb3 (Below.size B2)
      obtain ⟨hc3, hf3⟩ := bcell hb3
      have hz3 : w.heap.size < w3.heap.size := by have := hb3.size; omega
      have P3 : Hid (TPart w3 g3 p.length p.length p ∧ TPart w3 k3 b.length b.length b) := ⟨ht3, hu3⟩
      clear hb3 ht3 hu3
      go_wp2_with fail
      refine (toTss_p (SRow.below tsStable HA B3) HSM).mono ?_
      rintro e w4 ⟨v4, rfl, ⟨o4, rfl, ho4, hs4⟩, hb4⟩
      have B4 : Hid (Below w.heap.size w w4) := below_more B3 hb4 (Below.size B3)
      obtain ⟨hc4, hf4⟩ := bcell hb4
      have hz4 : w.heap.size < w4.heap.size := by have := hb4.size; omega
      have P4 : Hid (TRow w4 (.slice (some ⟨g3, 0, none⟩) p.length p.length) p ∧ TOn 0 w4 (.slice (some ⟨k3, 0, none⟩) b.length b.length) b ∧ ARow 0 w4 (.slice (some ⟨o4, 0, none⟩) args.length args.length) args) :=
        ⟨((P3.1.below hb4).on rfl (Nat.le_refl _)).row, ((P3.2.below hb4).on rfl (Nat.le_refl _)).mono (Nat.zero_le _), SRow.imp tsP_S (SRow.mono tpStable (SPart.row tpStable hs4 rfl) (Nat.zero_le _))⟩
      clear hb4 hs4 P3
      go_wp2_with fail
      refine (CS P4.1 P4.2.1 P4.2.2).mono ?_
      rintro e w5 ⟨v5, rfl, ⟨n5, ho5⟩, hne5, hb5⟩
      have B5 : Hid (Below w.heap.size w w5) := below_more B4 hb5 (Below.size B4)
      obtain ⟨hc5, hf5⟩ := bcell hb5
      have hz5 : w.heap.size < w5.heap.size := by have := hb5.size; omega
      obtain ⟨a5, c5, rfl, _⟩ := own_shape ho5
      have P5 : Hid (w5.ownsRow w4.heap.size 31 3 (.slice a5 n5 c5) n5 (flat R)) := ho5
      clear hb5 ho5 hne5 P4
      go_wp2_with fail
      refine (toMacro_p (TRow.below HP B5) (TRow.below HB B5) HLL.1 HLL.2).mono ?_
      rintro e w6 ⟨vp6, vb6, rfl, hp6, hq6, hb6⟩
      have M6 : Hid (MR w5.heap.size w6.heap.size w6 vp6 p.length ∧ MR w5.heap.size w6.heap.size w6 vb6 b.length) := ⟨hp6.mr (Nat.le_refl _), hq6.mr (Nat.le_refl _)⟩
      obtain ⟨g6, rfl, hg6, ht6⟩ := hp6
      obtain ⟨k6, rfl, hk6, hu6⟩ := hq6
      have B6 : Hid (Below w.heap.size w w6) := below_more B5 hb6 (Below.size B5)
      have C6 : Hid (Below w5.heap.size w5 w6) := hb6
      obtain ⟨hc6, hf6⟩ := bcell hb6
      have hz6 : w.heap.size < w6.heap.size := by have := hb6.size; omega
      have P6 : Hid (TPart w6 g6 p.length p.length p ∧ TPart w6 k6 b.length b.length b) := ⟨ht6, hu6⟩
      clear hb6 ht6 hu6
      go_wp2_with fail
      have C6' : Below w6.heap.size w6 (w6.alloc (.cells #[.slice (some ⟨g6, 0, none⟩) p.length p.length, .int .i64 sl, .slice (some ⟨k6, 0, none⟩) b.length b.length] 34)) := below1 _ _
      refine (toTss_p (SRow.below tsStable HA (below_more B6 C6' (Below.size B6))) HSM).mono ?_
      rintro e w7 ⟨v7, rfl, ⟨o7, rfl, ho7, hs7⟩, hb7⟩
      have C7 : Hid (Below w6.heap.size w6 w7) := below_more C6' hb7 (by simp)
      have B7 : Hid (Below w.heap.size w w7) := below_more B6 C7 (Below.size B6)
      obtain ⟨hc7, hf7⟩ := bcell hb7
      have hz7 : w.heap.size < w7.heap.size := by have := hb7.size; simp at this; omega
      have hy7 : w6.heap.size < w7.heap.size := by have := hb7.size; simp at this; omega
      simp only [World.size_alloc] at ho7
      have M7 : Hid (MRs (o7 + 1) w7.heap.size w7 o7 args) := SPart.mrs hs7 (Nat.le_refl _)
      have P7 : Hid (TRow w7 (.slice (some ⟨g6, 0, none⟩) p.length p.length) p ∧ TOn 0 w7 (.slice (some ⟨k6, 0, none⟩) b.length b.length) b ∧ SRow 1 TsP [] 0 w7 (.slice (some ⟨o7, 0, none⟩) args.length args.length) args) :=
        ⟨((P6.1.below C7).on rfl (Nat.le_refl _)).row, ((P6.2.below C7).on rfl (Nat.le_refl _)).mono (Nat.zero_le _), SRow.mono tpStable (SPart.row tpStable hs7 rfl) (Nat.zero_le _)⟩
      have ho72 : o7 < w7.heap.size := SPart.lt hs7
      clear hb7 hs7 P6 C6'
      go_wp2_with fail
      refine (CI P7.1 P7.2.1 (SRow.imp tsP_S P7.2.2)).mono ?_
      rintro e w8 ⟨v8, rfl, ⟨n8, ho8⟩, hb8⟩
      have C8 : Hid (Below w7.heap.size w7 w8) := hb8
      have B8 : Hid (Below w.heap.size w w8) := below_more B7 hb8 (Below.size B7)
      obtain ⟨hc8, hf8⟩ := bcell hb8
      have hz8 : w.heap.size < w8.heap.size := by have := hb8.size; omega
      have hy8 : w6.heap.size < w8.heap.size := by have := hb8.size; omega
      obtain ⟨a8, c8, rfl, _⟩ := own_shape ho8
      have P8 : Hid (w8.ownsRow w7.heap.size 31 3 (.slice a8 n8 c8) n8 (flat R)) := ho8
      -- what the specification answered stands
      have C58 : Hid (Below w5.heap.size w5 w8) := (Below.trans C6 (C7.mono (Below.size C6))).trans (hb8.mono (Nat.le_trans (Below.size C6) (Below.size C7)))
      have P58 : Hid (w8.ownsRow w4.heap.size 31 3 (.slice a5 n5 c5) n5 (flat R)) := own_below P5 C58
      clear hb8 ho8
      go_wp2_with fail
      refine (eqTokens_same (TN.row (own_n P8)) (TN.row (own_n P58)) HRL).mono ?_
      rintro e w9 ⟨rfl, hb9⟩
      have C9 : Hid (Below w8.heap.size w8 w9) := hb9
      have B9 : Hid (Below w.heap.size w w9) := below_more B8 hb9 (Below.size B8)
      obtain ⟨hc9, hf9⟩ := bcell hb9
      have hz9 : w.heap.size < w9.heap.size := by have := hb9.size; omega
      have hy9 : w6.heap.size < w9.heap.size := by have := hb9.size; omega
      clear hb9
      have qa : ∀ j, w9.cell? ⟨w.heap.size, j, none⟩ = (w.alloc (.cells #[.slice ao n1 cap, .int .i64 sl, .slice ao2 n2 cap2] 26)).cell? ⟨w.heap.size, j, none⟩ := fun j => by
        rw [hc9 _ _ hz8, hc8 _ _ hz7, hc7 _ _ (by simp; omega), (below1 w6 _).cell (p := ⟨w.heap.size, j, none⟩) hz6, hc6 _ _ hz5, hc5 _ _ hz4, hc4 _ _ hz3, hc3 _ _ hz2, hc2 _ _ hz1, hc1 _ _ (by simp)]
      have qx : ∀ j, w9.cell? ⟨w6.heap.size, j, none⟩ = (w6.alloc (.cells #[.slice (some ⟨g6, 0, none⟩) p.length p.length, .int .i64 sl, .slice (some ⟨k6, 0, none⟩) b.length b.length] 34)).cell? ⟨w6.heap.size, j, none⟩ := fun j => by
        rw [hc9 _ _ hy8, hc8 _ _ hy7, hc7 _ _ (by simp)]
      have q0 : w9.cell? ⟨w.heap.size, 0, none⟩ = some (.slice ao n1 cap) := by rw [qa]; simp
      have q1 : w9.cell? ⟨w.heap.size, 1, none⟩ = some (.int .i64 sl) := by rw [qa]; simp
      have q2 : w9.cell? ⟨w.heap.size, 2, none⟩ = some (.slice ao2 n2 cap2) := by rw [qa]; simp
      have x0 : w9.cell? ⟨w6.heap.size, 0, none⟩ = some (.slice (some ⟨g6, 0, none⟩) p.length p.length) := by rw [qx]; simp
      have x1 : w9.cell? ⟨w6.heap.size, 1, none⟩ = some (.int .i64 sl) := by rw [qx]; simp
      have x2 : w9.cell? ⟨w6.heap.size, 2, none⟩ = some (.slice (some ⟨k6, 0, none⟩) b.length b.length) := by rw [qx]; simp
      clear hc1 hc2 hc3 hc4 hc5 hc6 hc7 hc8 hc9 hf1 hf2 hf3 hf4 hf5 hf6 hf7 hf8 hf9 qa qx
      have Q9 : Hid (∀ x : World, Below w9.heap.size w9 x → (x.cell? ⟨w.heap.size, 0, none⟩ = some (.slice ao n1 cap) ∧ x.cell? ⟨w.heap.size, 1, none⟩ = some (.int .i64 sl) ∧ x.cell? ⟨w.heap.size, 2, none⟩ = some (.slice ao2 n2 cap2)) ∧ (x.cell? ⟨w6.heap.size, 0, none⟩ = some (.slice (some ⟨g6, 0, none⟩) p.length p.length) ∧ x.cell? ⟨w6.heap.size, 1, none⟩ = some (.int .i64 sl) ∧ x.cell? ⟨w6.heap.size, 2, none⟩ = some (.slice (some ⟨k6, 0, none⟩) b.length b.length)) ∧ w.heap.size < x.heap.size ∧ w6.heap.size < x.heap.size) := fun x hx =>
        ⟨⟨(Below.cell hx (p := ⟨w.heap.size, 0, none⟩) hz9).trans q0, (Below.cell hx (p := ⟨w.heap.size, 1, none⟩) hz9).trans q1, (Below.cell hx (p := ⟨w.heap.size, 2, none⟩) hz9).trans q2⟩, ⟨(Below.cell hx (p := ⟨w6.heap.size, 0, none⟩) hy9).trans x0, (Below.cell hx (p := ⟨w6.heap.size, 1, none⟩) hy9).trans x1, (Below.cell hx (p := ⟨w6.heap.size, 2, none⟩) hy9).trans x2⟩, Nat.lt_of_lt_of_le hz9 (Below.size hx), Nat.lt_of_lt_of_le hy9 (Below.size hx)⟩
      have BD : Below w9.heap.size w9 w9.drew := Below.drew (Below.refl _ _)
      have C79 : Hid (Below w7.heap.size w7 w9) := below_more C8 C9 (Below.size C8)
      have HX : Hid (TRow w9.drew (.slice ao n1 cap) p ∧ TRow w9.drew (.slice ao2 n2 cap2) b ∧ TRow w9.drew (.slice (some ⟨g6, 0, none⟩) p.length p.length) p ∧ TRow w9.drew (.slice (some ⟨k6, 0, none⟩) b.length b.length) b ∧ Below w9.heap.size w9 w9.drew) := ⟨TRow.below (TRow.below HP B9) BD, TRow.below (TRow.below HB B9) BD, TRow.below (TRow.below P7.1 C79) BD, TRow.below (TRow.below P7.2.1.row C79) BD, BD⟩
      clear BD
      go_upto_region 14 with fail
      go_cut [58] from 17 (fun s58 wc => s58 = .bool false ∧ Hid (Below w9.heap.size w9 wc))
      case first =>
        go_region_with (first
          | (go_at_call 26; refine (toMacro_any HX.1 HX.2.1 HLL.1 HLL.2).mono ?_; rintro e w10 ⟨vp10, vb10, rfl, hp10, hq10, hb10⟩; obtain ⟨a10, l10, c10, rfl⟩ := hp10.shape; obtain ⟨a11, l11, c11, rfl⟩ := hq10.shape; have P10 : Hid (TRow w10 (.slice (some ⟨g6, 0, none⟩) p.length p.length) p ∧ TRow w10 (.slice (some ⟨k6, 0, none⟩) b.length b.length) b ∧ TRow w10 (.slice a10 l10 c10) p ∧ TRow w10 (.slice a11 l11 c11) b ∧ Below w9.heap.size w9 w10) := ⟨TRow.below HX.2.2.1 hb10, TRow.below HX.2.2.2.1 hb10, hp10.1, hq10.1, below_more HX.2.2.2.2 hb10 (Below.size HX.2.2.2.2)⟩; obtain ⟨_, ⟨r0, r1, r2⟩, _, hs10⟩ := Q9 w10 P10.2.2.2.2; clear hb10 hp10 hq10)
          | (go_at_call 30; refine (eqMacro_same P10.1 P10.2.1 P10.2.2.1 P10.2.2.2.1 HLL.1 HLL.2).mono ?_; rintro e w11 ⟨rfl, hb11⟩; have C11 : Hid (Below w9.heap.size w9 w11) := below_more P10.2.2.2.2 hb11 (Below.size P10.2.2.2.2); clear hb11))
        all_goals
          go_wp2_with fail
          go_meet
          case rel => exact ⟨rfl, ‹Hid (Below w9.heap.size w9 w11)›⟩
      case rest =>
        obtain ⟨rfl, CC⟩ := hcut
        clear q0 q1 q2 x0 x1 x2 HX
        have Bc : Hid (Below w.heap.size w wc) := below_more B9 CC (Below.size B9)
        go_wp2_with fail
        refine (toTss_any (SRow.below tsStable HA Bc) HSM).mono ?_
        rintro e w12 ⟨v12, rfl, hs12, hb12⟩
        have C12 : Hid (Below w9.heap.size w9 w12) := below_more CC hb12 (Below.size CC)
        have B12 : Hid (Below w.heap.size w w12) := below_more B9 C12 (Below.size B9)
        have C712 : Hid (Below w7.heap.size w7 w12) := below_more C79 C12 (Below.size C79)
        have P12 : Hid (SRow 1 TsR [] 0 w12 (.slice (some ⟨o7, 0, none⟩) args.length args.length) args ∧ SRow 1 TsR [] 0 w12 v12 args) := ⟨SRow.imp tsP_R (SRow.below tpStable P7.2.2 C712), SRow.mono tsStable hs12 (Nat.zero_le _)⟩
        obtain ⟨a12, c12, rfl⟩ := hs12.shape
        clear hs12 hb12
        go_wp2_with fail
        refine (eqTss_same P12.1 P12.2 HSM).mono ?_
        rintro e w13 ⟨rfl, hb13⟩
        have C13 : Hid (Below w9.heap.size w9 w13) := below_more C12 hb13 (Below.size C12)
        have B13 : Hid (Below w.heap.size w w13) := below_more B9 C13 (Below.size B9)
        have C713 : Hid (Below w7.heap.size w7 w13) := below_more C79 C13 (Below.size C79)
        have C613 : Hid (Below w6.heap.size w6 w13) := below_more C7 C713 (Below.size C7)
        have C813 : Hid (Below w8.heap.size w8 w13) := below_more C9 C13 (Below.size C9)
        clear hb13 P12
        have q13 := Q9 w13 C13
        obtain ⟨⟨q0, q1, q2⟩, ⟨x0, x1, x2⟩, hz13, hy13⟩ := q13
        -- where all lies
        have S : Hid (w.heap.size < w5.heap.size ∧ w5.heap.size ≤ w6.heap.size ∧ w6.heap.size < o7 ∧ o7 < w7.heap.size ∧ w7.heap.size ≤ w8.heap.size ∧ w8.heap.size ≤ w13.heap.size) := ⟨hz5, Below.size C6, by omega, ho72, Below.size C8, Below.size C813⟩
        have G13 : Hid (OwnIn w7.heap.size w8.heap.size w13 (.slice a8 n8 c8) n8 (flat R)) := ⟨own_below P8 C813, fun g hg => (World.ownsRow.lt P8 g hg).2⟩
        have V13 : Hid (OwnIn w4.heap.size w5.heap.size w13 (.slice a5 n5 c5) n5 (flat R)) := ⟨own_below P58 C813, fun g hg => (World.ownsRow.lt P5 g hg).2⟩
        have M13 : Hid (MRs (o7 + 1) w7.heap.size w13 o7 args) := M7.at (C713.block o7 ho72) (Shp.below C713)
        have E13 : Hid (MR w5.heap.size w6.heap.size w13 (.slice (some ⟨g6, 0, none⟩) p.length p.length) p.length ∧ MR w5.heap.size w6.heap.size w13 (.slice (some ⟨k6, 0, none⟩) b.length b.length) b.length) := ⟨M6.1.shp (Shp.below C613), M6.2.shp (Shp.below C613)⟩
        have hbp : p.length ≤ 1048576 := HLL.1
        have hbb : b.length ≤ 1048576 := HLL.2
        have hbt : total args ≤ 1048576 * 1048576 := Nat.le_trans (total_le args HS) (Nat.mul_le_mul_right _ HSM.1)
        go_wp2_with fail
        refine (markMacro_any 1 (by decide) (by omega) (lo := w5.heap.size) (hi := w6.heap.size) (by obtain ⟨s1, s2, s3, s4, s5, s6⟩ := S; omega) (by obtain ⟨s1, s2, s3, s4, s5, s6⟩ := S; omega) E13.1 E13.2).mono ?_
        rintro e w14 ⟨rfl, hb14, ha14, hs14⟩
        have F14 : Hid (Below w5.heap.size w13 w14 ∧ Abv w6.heap.size w13 w14 ∧ Shp w13 w14) := ⟨hb14, ha14, hs14⟩
        have B14 : Hid (Below w.heap.size w w14) := Below.trans B13 (hb14.mono (by omega))
        have hz14 : w13.heap.size ≤ w14.heap.size := hb14.size
        have G14 : Hid (OwnIn w7.heap.size w8.heap.size w14 (.slice a8 n8 c8) n8 (flat R)) := OwnIn.keep G13 (fun g h1 _ h3 => ha14.block g (by obtain ⟨s1, s2, s3, s4, s5, s6⟩ := S; omega) h3)
        have V14 : Hid (OwnIn w4.heap.size w5.heap.size w14 (.slice a5 n5 c5) n5 (flat R)) := OwnIn.keep V13 (fun g _ h2 _ => hb14.block g h2)
        have M14 : Hid (MRs (o7 + 1) w7.heap.size w14 o7 args) := M13.at (ha14.block o7 (by obtain ⟨s1, s2, s3, s4, s5, s6⟩ := S; omega) M13.lt) hs14
        have y0 := (hb14.cell (p := ⟨w.heap.size, 0, none⟩) hz5).trans q0
        have y1 := (hb14.cell (p := ⟨w.heap.size, 1, none⟩) hz5).trans q1
        have y2 := (hb14.cell (p := ⟨w.heap.size, 2, none⟩) hz5).trans q2
        clear hb14 ha14 hs14 q0 q1 q2 x0 x1 x2 hz13 hy13
        obtain ⟨K1, hK1⟩ : ∃ K, K = 1 + 3 * p.length + 3 * b.length := ⟨_, rfl⟩
        have hK1b : K1 ≤ 6291457 := by omega
        have hK10 : 0 < K1 := by omega
        rw [← hK1]
        clear hK1
        go_wp2_with fail
        refine (markTss_any K1 hK10 (by omega) (lo := o7 + 1) (hi := w7.heap.size) rfl HSM.1 (Nat.lt_succ_self _) (by obtain ⟨s1, s2, s3, s4, s5, s6⟩ := S; omega) M14).mono ?_
        rintro e w15 ⟨rfl, hb15, ha15, hs15⟩
        have B15 : Hid (Below w.heap.size w w15) := Below.trans B14 (hb15.mono (by obtain ⟨s1, s2, s3, s4, s5, s6⟩ := S; omega))
        have hz15 : w14.heap.size ≤ w15.heap.size := hb15.size
        have G15 : Hid (OwnIn w7.heap.size w8.heap.size w15 (.slice a8 n8 c8) n8 (flat R)) := OwnIn.keep G14 (fun g h1 _ h3 => ha15.block g h1 h3)
        have V15 : Hid (OwnIn w4.heap.size w5.heap.size w15 (.slice a5 n5 c5) n5 (flat R)) := OwnIn.keep V14 (fun g _ h2 _ => hb15.block g (by obtain ⟨s1, s2, s3, s4, s5, s6⟩ := S; omega))
        have t0 := (hb15.cell (p := ⟨w.heap.size, 0, none⟩) (by obtain ⟨s1, s2, s3, s4, s5, s6⟩ := S; show w.heap.size < o7 + 1; omega)).trans y0
        have t1 := (hb15.cell (p := ⟨w.heap.size, 1, none⟩) (by obtain ⟨s1, s2, s3, s4, s5, s6⟩ := S; show w.heap.size < o7 + 1; omega)).trans y1
        have t2 := (hb15.cell (p := ⟨w.heap.size, 2, none⟩) (by obtain ⟨s1, s2, s3, s4, s5, s6⟩ := S; show w.heap.size < o7 + 1; omega)).trans y2
        clear hb15 ha15 hs15 y0 y1 y2
        obtain ⟨K2, hK2⟩ : ∃ K, K = K1 + 3 * total args := ⟨_, rfl⟩
        have hK2n : ¬ (K2 : Int) < 0 := by omega
        rw [← hK2]
        clear hK2
        go_wp2_with fail
        refine (eqTokens_same (TN.row (own_n G15.1)) (TN.row (own_n V15.1)) HRL).mono ?_
        rintro e w16 ⟨rfl, hb16⟩
        have B16 : Hid (Below w.heap.size w w16) := below_more B15 hb16 (Below.size B15)
        have hz16 : w15.heap.size ≤ w16.heap.size := hb16.size
        have G16 : Hid (OwnIn w7.heap.size w8.heap.size w16 (.slice a8 n8 c8) n8 (flat R)) := OwnIn.keep G15 (fun g _ _ h3 => hb16.block g h3)
        have V16 : Hid (OwnIn w4.heap.size w5.heap.size w16 (.slice a5 n5 c5) n5 (flat R)) := OwnIn.keep V15 (fun g _ _ h3 => hb16.block g h3)
        have hzw : w.heap.size < w15.heap.size := by obtain ⟨s1, s2, s3, s4, s5, s6⟩ := S; omega
        have u0 := (hb16.cell (p := ⟨w.heap.size, 0, none⟩) hzw).trans t0
        have u1 := (hb16.cell (p := ⟨w.heap.size, 1, none⟩) hzw).trans t1
        have u2 := (hb16.cell (p := ⟨w.heap.size, 2, none⟩) hzw).trans t2
        clear hb16 t0 t1 t2
        have hn8 : n8 ≤ 1048576 := by
          have h1 := G16.1.1
          rw [flat_len] at h1
          have h2 := show R.length ≤ 1048576 from HRL
          omega
        have HMK : Hid (0 < n8 → ∃ g, a8 = some ⟨g, 0, none⟩ ∧ n8 ≤ c8 ∧ w7.heap.size ≤ g ∧ g < w16.heap.size ∧ TPart w16 g c8 0 []) := own_mark G16.1
        go_wp2_with fail
        refine (markTokens_any (N := c8) (lo := w7.heap.size) (hi := w16.heap.size) 1 (by decide) (by omega) (by obtain ⟨s1, s2, s3, s4, s5, s6⟩ := S; omega) HMK).mono ?_
        rintro e w17 ⟨rfl, ht17, hb17, _, _⟩
        have B17 : Hid (Below w.heap.size w w17) := Below.trans B16 (hb17.mono (by obtain ⟨s1, s2, s3, s4, s5, s6⟩ := S; omega))
        have hz17 : w16.heap.size ≤ w17.heap.size := hb17.size
        have R17 : Hid (TRow w17 (.slice a8 n8 c8) (marks 1 n8)) := marked_row (fun h0 => by
          obtain ⟨g, e, hc, _⟩ := HMK h0
          exact ⟨g, e, hc, ht17 g h0 e⟩)
        have V17 : Hid (OwnIn w4.heap.size w5.heap.size w17 (.slice a5 n5 c5) n5 (flat R)) := OwnIn.keep V16 (fun g _ h2 _ => hb17.block g (by obtain ⟨s1, s2, s3, s4, s5, s6⟩ := S; omega))
        have hw7 : w.heap.size < w7.heap.size := by obtain ⟨s1, s2, s3, s4, s5, s6⟩ := S; omega
        have q0 := (hb17.cell (p := ⟨w.heap.size, 0, none⟩) hw7).trans u0
        have q1 := (hb17.cell (p := ⟨w.heap.size, 1, none⟩) hw7).trans u1
        have q2 := (hb17.cell (p := ⟨w.heap.size, 2, none⟩) hw7).trans u2
        clear hb17 ht17 u0 u1 u2 HMK
        obtain ⟨K3, hK3⟩ : ∃ K, K = 1 + 3 * n8 := ⟨_, rfl⟩
        have CH : Hid (∀ W, Below w17.heap.size w17 W → Calls Try.prog 42 #[.slice a8 n8 c8, .int .i64 1] W fun e w' => e = .returned (.int .i64 (K3 : Int)) ∧ Below W.heap.size W w') := by
          intro W hW
          rw [hK3]
          exact heldTokens_any (k := 1) (n := n8) (TRow.below R17 hW) (by decide) (Nat.le_trans (Nat.add_le_add_left (Nat.mul_le_mul_left 3 hn8) 1) (by decide))
        rw [← hK3]
        have hK3n : ¬ (K3 : Int) < 0 := by omega
        clear hK3 R17
        go_wp2_with fail
        refine (CH _ (Below.refl _ _)).mono ?_
        rintro e w18 ⟨rfl, hb18⟩
        have C18 : Hid (Below w17.heap.size w17 w18) := hb18
        have B18 : Hid (Below w.heap.size w w18) := below_more B17 hb18 (Below.size B17)
        have hzv : w.heap.size < w17.heap.size := by obtain ⟨s1, s2, s3, s4, s5, s6⟩ := S; omega
        have x0 := (hb18.cell (p := ⟨w.heap.size, 0, none⟩) hzv).trans q0
        have x1 := (hb18.cell (p := ⟨w.heap.size, 1, none⟩) hzv).trans q1
        have x2 := (hb18.cell (p := ⟨w.heap.size, 2, none⟩) hzv).trans q2
        clear hb18 q0 q1 q2
        go_wp2_with fail
        refine (toMacro_p (TRow.below HP B18) (TRow.below HB B18) HLL.1 HLL.2).mono ?_
        rintro e w19 ⟨vp19, vb19, rfl, hp19, hq19, hb19⟩
        obtain ⟨g19, rfl, hg19, ht19⟩ := hp19
        obtain ⟨k19, rfl, hk19, hu19⟩ := hq19
        have C19 : Hid (Below w17.heap.size w17 w19) := below_more C18 hb19 (Below.size C18)
        have B19 : Hid (Below w.heap.size w w19) := below_more B18 hb19 (Below.size B18)
        have P19 : Hid (TPart w19 g19 p.length p.length p ∧ TPart w19 k19 b.length b.length b) := ⟨ht19, hu19⟩
        clear hb19 ht19 hu19
        go_wp2_with fail
        refine (toTss_p (SRow.below tsStable HA B19) HSM).mono ?_
        rintro e w20 ⟨v20, rfl, ⟨o20, rfl, ho20, hs20⟩, hb20⟩
        have C20 : Hid (Below w17.heap.size w17 w20) := below_more C19 hb20 (Below.size C19)
        have B20 : Hid (Below w.heap.size w w20) := below_more B19 hb20 (Below.size B19)
        have P20 : Hid (TRow w20 (.slice (some ⟨g19, 0, none⟩) p.length p.length) p ∧ TOn 0 w20 (.slice (some ⟨k19, 0, none⟩) b.length b.length) b ∧ ARow 0 w20 (.slice (some ⟨o20, 0, none⟩) args.length args.length) args) :=
          ⟨((P19.1.below hb20).on rfl (Nat.le_refl _)).row, ((P19.2.below hb20).on rfl (Nat.le_refl _)).mono (Nat.zero_le _), SRow.imp tsP_S (SRow.mono tpStable (SPart.row tpStable hs20 rfl) (Nat.zero_le _))⟩
        clear hb20 hs20 P19
        go_wp2_with fail
        refine (CI P20.1 P20.2.1 P20.2.2).mono ?_
        rintro e w21 ⟨v21, rfl, ⟨n21, ho21⟩, hb21⟩
        have C21 : Hid (Below w17.heap.size w17 w21) := below_more C20 hb21 (Below.size C20)
        have B21 : Hid (Below w.heap.size w w21) := below_more B20 hb21 (Below.size B20)
        obtain ⟨a21, c21, rfl, _⟩ := own_shape ho21
        have P21 : Hid (w21.ownsRow w20.heap.size 31 3 (.slice a21 n21 c21) n21 (flat R)) := ho21
        have V21 : Hid (OwnIn w4.heap.size w5.heap.size w21 (.slice a5 n5 c5) n5 (flat R)) := OwnIn.keep V17 (fun g _ _ h3 => C21.block g h3)
        clear hb21 ho21 P20
        go_wp2_with fail
        refine (eqTokens_same (TN.row (own_n P21)) (TN.row (own_n V21.1)) HRL).mono ?_
        rintro e w22 ⟨rfl, hb22⟩
        have C22 : Hid (Below w17.heap.size w17 w22) := below_more C21 hb22 (Below.size C21)
        have B22 : Hid (Below w.heap.size w w22) := below_more B21 hb22 (Below.size B21)
        clear hb22
        go_wp2_with fail
        refine (CH _ C22).mono ?_
        rintro e w23 ⟨rfl, hb23⟩
        have B23 : Hid (Below w.heap.size w w23) := below_more B22 hb23 (Below.size B22)
        clear hb23
        go_wp2
        go_ret
        exact ⟨rfl, B23⟩
end Go.Proofs.Ytbceblgnjicdcaa
