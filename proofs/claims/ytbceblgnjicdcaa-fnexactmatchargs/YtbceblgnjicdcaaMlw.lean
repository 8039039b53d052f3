/-
  The law of MatchArgs, as a walk.
-/
import Derived.Test.YtbceblgnjicdcaaMma
import Derived.Deep.Cut
namespace Go.Proofs.Ytbceblgnjicdcaa
open Go.RowKit
set_option linter.unusedVariables false
set_option linter.unusedSimpArgs false

theorem GIn.below {lo hi : Nat} {w w' : World} {v : Value} {rs : List (List Tk)} (h : GIn lo hi w v rs) (hb : Below w.heap.size w w') : GIn lo hi w' v rs := h.keep (fun g _ _ h3 => hb.block g h3)
theorem SIn.below {lo hi : Nat} {w w' : World} {v : Value} {rs : List (List Tk)} (h : SIn lo hi w v rs) (hb : Below w.heap.size w w') : SIn lo hi w' v rs := h.keep (fun g _ _ h3 => hb.block g h3)
theorem MIn.below {lo hi : Nat} {w w' : World} {v : Value} {k : Nat} {rs : List (List Tk)} (h : MIn lo hi w v k rs) (hb : Below w.heap.size w w') (hh : hi ≤ w.heap.size) : MIn lo hi w' v k rs := by
  obtain ⟨n, vs, h1, h2⟩ := h
  exact ⟨n, vs, own1_below h1 hb, KOf.bel (hb.mono hh) (Nat.le_refl _) _ _ _ h2⟩

set_option maxRecDepth 100000 in
set_option maxHeartbeats 4000000 in
theorem markMatch_i {lo hi : Nat} {a : Option Addr} {n0 c0 : Nat} {u c : Int} {rs : List (List Tk)} {w : World} (hkn : 1 + 3 * total rs ≤ 4611686018427387904) (hn2 : rs.length ≤ 1048576) (hhi : hi ≤ w.heap.size) (hlo : lo ≤ w.heap.size) (h : GIn lo hi w (.slice a n0 c0) rs) :
    Calls Try.prog 34 #[.agg #[.slice a n0 c0, .int .i64 u, .int .i64 c], .int .i64 1] w fun e w' => e = .returned (.int .i64 ((1 + 3 * total rs : Nat) : Int)) ∧ MIn lo hi w' (.slice a n0 c0) 1 rs ∧ Below lo w w' ∧ Abv hi w w' := by
  have HG : Hid (GIn lo hi w (.slice a n0 c0) rs) := h
  have HKN : Hid (1 + 3 * total rs ≤ 4611686018427387904) := hkn
  obtain ⟨TT, hTT⟩ : ∃ T, T = 1 + 3 * total rs := ⟨_, rfl⟩
  have HC : Hid (∀ W, Below w.heap.size w W → Calls Try.prog 41 #[.slice a n0 c0, .int .i64 1] W fun e w' => e = .returned (.int .i64 (TT : Int)) ∧ MIn lo hi w' (.slice a n0 c0) 1 rs ∧ Below lo w w' ∧ Abv hi w w') := by
    intro W hW
    rw [hTT]
    refine (markTss_i 1 (by decide) hkn hn2 (Nat.le_trans hhi hW.size) (HG.below hW)).mono ?_
    rintro e w' ⟨h1, h2, h3, h4⟩
    exact ⟨h1, h2, (hW.mono hlo).trans h3, (Abv.below hW).trans h4⟩
  rw [← hTT]
  clear hTT h hkn
  go_enter Try.func34, Try.ntmps34
  go_wp2_with fail
  refine (HC _ (below1 _ _)).mono ?_
  rintro e w1 ⟨rfl, h1⟩
  have H1 : Hid (MIn lo hi w1 (.slice a n0 c0) 1 rs ∧ Below lo w w1 ∧ Abv hi w w1) := h1
  clear h1
  go_wp2
  go_ret
  exact ⟨rfl, H1⟩

set_option maxRecDepth 100000 in
set_option maxHeartbeats 4000000 in
theorem heldMatch_i {lo hi : Nat} {a : Option Addr} {n0 c0 : Nat} {u c : Int} {rs : List (List Tk)} {w : World} (hkn : 1 + 3 * total rs ≤ 4611686018427387904) (hn2 : rs.length ≤ 1048576) (hhi : hi ≤ w.heap.size) (h : MIn lo hi w (.slice a n0 c0) 1 rs) :
    Calls Try.prog 35 #[.agg #[.slice a n0 c0, .int .i64 u, .int .i64 c], .int .i64 1] w fun e w' => e = .returned (.int .i64 ((1 + 3 * total rs : Nat) : Int)) ∧ Below w.heap.size w w' := by
  obtain ⟨TT, hTT⟩ : ∃ T, T = 1 + 3 * total rs := ⟨_, rfl⟩
  have HC : Hid (∀ W, Below w.heap.size w W → Calls Try.prog 74 #[.slice a n0 c0, .int .i64 1] W fun e w' => e = .returned (.int .i64 (TT : Int)) ∧ Below W.heap.size W w') := by
    intro W hW
    rw [hTT]
    exact heldTss_any 1 (by decide) hkn hn2 (h.below hW hhi)
  rw [← hTT]
  have hTn : ¬ (TT : Int) < 0 := by omega
  clear hTT h hkn
  go_enter Try.func35, Try.ntmps35
  go_wp2_with fail
  refine (HC _ (below1 _ _)).mono ?_
  rintro e w1 ⟨rfl, h1⟩
  have H1 : Hid (Below w.heap.size w w1) := below_more (below1 _ _) h1 (by simp)
  clear h1
  go_wp2
  go_ret
  exact ⟨rfl, H1⟩

def Box3 (w : World) (g ty : Nat) (x y z : Value) : Prop := w.heap[g]? = some (.cells #[x, y, z] ty)
theorem Box3.cells {w : World} {g ty : Nat} {x y z : Value} (h : Box3 w g ty x y z) : w.cell? ⟨g, 0, none⟩ = some x ∧ w.cell? ⟨g, 1, none⟩ = some y ∧ w.cell? ⟨g, 2, none⟩ = some z ∧ g < w.heap.size := by
  refine ⟨?_, ?_, ?_, (Array.getElem?_eq_some_iff.1 h).1⟩ <;> (rw [cell_of_row w g _ _ ty _ h]; rfl)
theorem Box3.bel {w w' : World} {g ty lo : Nat} {x y z : Value} (h : Box3 w g ty x y z) (hb : Below lo w w') (hg : g < lo) : Box3 w' g ty x y z := (hb.block g hg).trans h
theorem Box3.below {w w' : World} {g ty : Nat} {x y z : Value} (h : Box3 w g ty x y z) (hb : Below w.heap.size w w') : Box3 w' g ty x y z := h.bel hb h.cells.2.2.2
theorem Box3.abv {w w' : World} {g ty lo : Nat} {x y z : Value} (h : Box3 w g ty x y z) (hb : Abv lo w w') (hg : lo ≤ g) : Box3 w' g ty x y z := (hb.block g hg h.cells.2.2.2).trans h
theorem Box3.new (w : World) (ty : Nat) (x y z : Value) : Box3 (w.alloc (.cells #[x, y, z] ty)) w.heap.size ty x y z := heap_alloc_new _ _

theorem total_bound : ∀ (L : List (List Tk)) (m : Nat), (∀ a ∈ L, a.length ≤ m) → total L ≤ L.length * m
  | [], m, _ => by simp [total]
  | x :: L, m, h => by
    have h1 := total_bound L m (fun a ha => h a (List.mem_cons_of_mem _ ha))
    have h2 := h x (List.mem_cons_self ..)
    unfold total at h1 ⊢
    simp only [List.flatten_cons, List.length_append, List.length_cons, Nat.succ_mul]
    omega
theorem mtL_small {p b ts : List Tk} {sl : Int} (lp : p.length ≤ 1048576) (lt : ts.length ≤ 1048576) : (mtL p sl b ts).length ≤ 1048576 ∧ (∀ i, i < (mtL p sl b ts).length → Sml ((mtL p sl b ts).getD i [])) ∧ 1 + 3 * total (mtL p sl b ts) ≤ 4611686018427387904 := by
  unfold mtL
  split
  · have h1 := mat_cnt (p.length + 1) p ts []
    have h2 := mat_sub (ts := ts) (p.length + 1) p ts [] (List.Sublist.refl _) (by simp)
    have h3 := total_bound _ 1048576 (fun a ha => Nat.le_trans (h2 a ha).length_le lt)
    simp only [List.length_nil, Nat.zero_add] at h1
    refine ⟨by omega, fun i hi => ?_, ?_⟩
    · have hm : (mat (p.length + 1) p ts []).2.1.getD i [] ∈ (mat (p.length + 1) p ts []).2.1 := by simp [List.getD, List.getElem?_eq_getElem hi]
      exact Nat.le_trans (h2 _ hm).length_le lt
    · have h4 : (mat (p.length + 1) p ts []).2.1.length * 1048576 ≤ 1048576 * 1048576 := Nat.mul_le_mul_right _ (by omega)
      omega
  · exact ⟨by simp, fun i hi => by simp at hi, by simp [total]⟩

set_option maxRecDepth 100000 in
set_option maxHeartbeats 4000000 in
theorem lawMatch_any {vp vb va : Value} {p b ts : List Tk} {sl : Int} {w : World} (hp : TRow w vp p) (hb : TRow w vb b) (fp : Fine p) (fb : Fine b) (ha : TRow w va ts) (fa : Fine ts) :
    Calls Try.prog 6 #[macV vp sl vb, va] w fun e w' => e = .returned (.bool true) ∧ Below w.heap.size w w' := by
  have HP : Hid (TRow w vp p) := hp
  have HB : Hid (TRow w vb b) := hb
  have HA : Hid (TRow w va ts) := ha
  obtain ⟨ao, n1, cap, rfl, hx, hy⟩ := hp
  obtain ⟨ao2, n2, cap2, rfl, hx2, hy2⟩ := hb
  obtain ⟨ao3, n3, cap3, rfl, hx3, hy3⟩ := ha
  clear hx hy hx2 hy2 hx3 hy3
  have HF : Hid (Fine p ∧ Fine b ∧ Fine ts) := ⟨fp, fb, fa⟩
  clear fp fb fa
  go_enter Try.func6, Try.ntmps6
  go_wp2_with fail
  refine (szMacro_any (TRow.below HP (below1 _ _)) (TRow.below HB (below1 _ _)) HF.1 HF.2.1 (by omega) (by omega)).mono ?_
  rintro e w1 ⟨⟨m, rfl, hml, hm⟩, hb1⟩
  obtain ⟨hc1, hf1⟩ := bcell hb1
  have hz1 : w.heap.size < w1.heap.size := by have := hb1.size; simp at this; omega
  have B1 : Hid (Below w.heap.size w w1) := (below1 _ _).trans (hb1.mono (by simp))
  have HM : Hid (0 ≤ m → m = 1048576 - weight p - weight b) := hm
  have BX1 : Hid (w1.heap[w.heap.size]? = some (.cells #[.slice ao n1 cap, .int .i64 sl, .slice ao2 n2 cap2] 26)) := by
    show w1.heap[_]? = _
    rw [hb1.block _ (by simp)]
    exact heap_alloc_new _ _
  clear hb1 hm
  by_cases hneg : m < 0
  · go_wp2
    go_ret
    exact ⟨rfl, B1⟩
  · have hm0 : 0 ≤ m := by omega
    go_wp2_with fail
    refine (szTokens_any (TRow.below HA B1) HF.2.2.1 HF.2.2.2 hm0 (by omega)).mono ?_
    rintro e w2 ⟨⟨m2, rfl, hml2, hm2⟩, hb2⟩
    have B2 : Hid (Below w.heap.size w w2) := below_more B1 hb2 (Below.size B1)
    obtain ⟨hc2, hf2⟩ := bcell hb2
    have hz2 : w.heap.size < w2.heap.size := by have := hb2.size; omega
    have HM2 : Hid (0 ≤ m2 → m2 = m - weight ts) := hm2
    have BX2 : Hid (w2.heap[w.heap.size]? = some (.cells #[.slice ao n1 cap, .int .i64 sl, .slice ao2 n2 cap2] 26)) := by
      show w2.heap[_]? = _
      rw [hb2.block _ hz1]
      exact BX1
    clear hb2 hm2
    by_cases hneg2 : m2 < 0
    · go_wp2
      go_ret
      exact ⟨rfl, B2⟩
    · have HSW : Hid (Sw p ∧ Sw b ∧ Sw ts) := by
        have h := HM hm0
        have h2 := HM2 (by omega)
        exact ⟨by show weight p ≤ 1048576; omega, by show weight b ≤ 1048576; omega, by show weight ts ≤ 1048576; omega⟩
      clear HM HM2
      have HLL : Hid (p.length ≤ 1048576 ∧ b.length ≤ 1048576 ∧ ts.length ≤ 1048576) := ⟨HSW.1.len, HSW.2.1.len, HSW.2.2.len⟩
      have HZ : Hid (∀ t ∈ ts, t.s.size ≤ 281474976710656) := fun t ht => Nat.le_trans (HSW.2.2.str ht) (by decide)
      obtain ⟨C, hC⟩ : ∃ x, x = mtC p sl b ts := ⟨_, rfl⟩
      obtain ⟨U, hU⟩ : ∃ x, x = mtU p sl b ts := ⟨_, rfl⟩
      obtain ⟨L, hL⟩ : ∃ x, x = mtL p sl b ts := ⟨_, rfl⟩
      have HLS : Hid (L.length ≤ 1048576 ∧ (∀ i, i < L.length → Sml (L.getD i [])) ∧ 1 + 3 * total L ≤ 4611686018427387904) := by rw [hL]; exact mtL_small HLL.1 HLL.2.2
      have CS : Hid (∀ {g n c tb tn tc : Nat} {vb : Value} {w : World}, TOn 0 w (.slice (some ⟨g, 0, none⟩) n c) p → TRow w vb b → TOn 0 w (.slice (some ⟨tb, 0, none⟩) tn tc) ts → Calls Try.prog 25 #[macV (.slice (some ⟨g, 0, none⟩) n c) sl vb, .slice (some ⟨tb, 0, none⟩) tn tc] w fun e w' => ∃ v, e = .returned (.agg #[v, .int .i64 U, .int .i64 C]) ∧ SIn w.heap.size w'.heap.size w' v L ∧ Below w.heap.size w w') := by
        intro g n c tb tn tc vb w h1 h2 h3
        rw [hC, hU, hL]
        refine (specMatch_any h1 h2 h3 HLL.1 HLL.2.1 HLL.2.2).mono ?_
        rintro e w' ⟨v, rfl, ⟨n, vs, h4, h5⟩, h6⟩
        exact ⟨v, rfl, SIn.of h4 h5, h6⟩
      have CI : Hid (∀ {g n c tb tn tc : Nat} {vb : Value} {w : World}, TOn 0 w (.slice (some ⟨g, 0, none⟩) n c) p → TRow w vb b → TOn 0 w (.slice (some ⟨tb, 0, none⟩) tn tc) ts → Calls Try.prog 28 #[macV (.slice (some ⟨g, 0, none⟩) n c) sl vb, .slice (some ⟨tb, 0, none⟩) tn tc] w fun e w' => ∃ v, e = .returned (.agg #[v, .int .i64 U, .int .i64 C]) ∧ GIn w.heap.size w'.heap.size w' v L ∧ Below w.heap.size w w') := by
        intro g n c tb tn tc vb w h1 h2 h3
        rw [hC, hU, hL]
        refine (implMatch_any h1 h2 h3 HLL.1 HLL.2.1 HLL.2.2 HZ).mono ?_
        rintro e w' ⟨v, rfl, h4, h6⟩
        exact ⟨v, rfl, h4.gin, h6⟩
      clear hC hU hL
      go_wp2_with fail
      refine (toMacro_p (TRow.below HP B2) (TRow.below HB B2) HLL.1 HLL.2.1).mono ?_
      rintro e w3 ⟨vp3, vb3, rfl, hp3, hq3, hb3⟩
      obtain ⟨g3, rfl, hg3, ht3⟩ := hp3
      obtain ⟨k3, rfl, hk3, hu3⟩ := hq3
      have B3 : Hid (Below w.heap.size w w3) := below_more B2 hb3 (Below.size B2)
      obtain ⟨hc3, hf3⟩ := bcell hb3
      have hz3 : w.heap.size < w3.heap.size := by have := hb3.size; omega
      have P3 : Hid (TPart w3 g3 p.length p.length p ∧ TPart w3 k3 b.length b.length b) := ⟨ht3, hu3⟩
      have BX3 : Hid (w3.heap[w.heap.size]? = some (.cells #[.slice ao n1 cap, .int .i64 sl, .slice ao2 n2 cap2] 26)) := by
        show w3.heap[_]? = _
        rw [hb3.block _ hz2]
        exact BX2
      clear hb3 ht3 hu3
      go_wp2_with fail
      refine (toTokens_any (TRow.below HA B3) HLL.2.2).mono ?_
      rintro e w4 ⟨rfl, hs4, hb4⟩
      have B4 : Hid (Below w.heap.size w w4) := below_more B3 hb4 (Below.size B3)
      obtain ⟨hc4, hf4⟩ := bcell hb4
      have hz4 : w.heap.size < w4.heap.size := by have := hb4.size; omega
      have P4 : Hid (TOn 0 w4 (.slice (some ⟨g3, 0, none⟩) p.length p.length) p ∧ TRow w4 (.slice (some ⟨k3, 0, none⟩) b.length b.length) b ∧ TOn 0 w4 (.slice (some ⟨w3.heap.size, 0, none⟩) ts.length ts.length) ts) :=
        ⟨((P3.1.below hb4).on rfl (Nat.le_refl _)).mono (Nat.zero_le _), ((P3.2.below hb4).on rfl (Nat.le_refl _)).row, (hs4.on rfl (Nat.le_refl _)).mono (Nat.zero_le _)⟩
      have BX4 : Hid (w4.heap[w.heap.size]? = some (.cells #[.slice ao n1 cap, .int .i64 sl, .slice ao2 n2 cap2] 26)) := by
        show w4.heap[_]? = _
        rw [hb4.block _ hz3]
        exact BX3
      clear hb4 hs4 P3
      go_wp2_with fail
      refine (CS P4.1 P4.2.1 P4.2.2).mono ?_
      rintro e w5 ⟨v5, rfl, ho5, hb5⟩
      obtain ⟨a5, n5, c5, rfl⟩ := ho5.shape
      have B5 : Hid (Below w.heap.size w w5) := below_more B4 hb5 (Below.size B4)
      have hz5 : w.heap.size < w5.heap.size := by have := hb5.size; omega
      have z45 : w4.heap.size ≤ w5.heap.size := hb5.size
      have X5 : Hid (Box3 w5 w.heap.size 26 (.slice ao n1 cap) (.int .i64 sl) (.slice ao2 n2 cap2)) := by
        show w5.heap[_]? = _
        rw [hb5.block _ hz4]
        exact BX4
      have S5 : Hid (SIn w4.heap.size w5.heap.size w5 (.slice a5 n5 c5) L) := ho5
      clear hb5 ho5 P4
      obtain ⟨y0, y1, y2, _⟩ := X5.cells
      go_wp2_with fail
      -- the specification's answer lies in a block of its own
      obtain ⟨D5, hD5⟩ : ∃ D, D = w5.heap.size := ⟨_, rfl⟩
      obtain ⟨v5, hv5⟩ : ∃ W, W = w5.alloc (.cells #[.slice a5 n5 c5, .int .i64 U, .int .i64 C] 59) := ⟨_, rfl⟩
      have C5 : Hid (Below w5.heap.size w5 v5 ∧ v5.heap.size = D5 + 1) := by rw [hv5, hD5]; exact ⟨below1 _ _, by simp⟩
      have K5 : Hid (Box3 v5 w.heap.size 26 (.slice ao n1 cap) (.int .i64 sl) (.slice ao2 n2 cap2) ∧ Box3 v5 D5 59 (.slice a5 n5 c5) (.int .i64 U) (.int .i64 C) ∧ SIn w4.heap.size D5 v5 (.slice a5 n5 c5) L) := ⟨X5.below C5.1, by rw [hv5, hD5]; exact Box3.new _ _ _ _ _, by rw [hD5]; exact S5.below C5.1⟩
      rw [← hv5, ← hD5]
      have BV5 : Hid (Below w.heap.size w v5) := below_more B5 C5.1 (Below.size B5)
      have hD5z : w.heap.size < D5 ∧ w4.heap.size ≤ D5 := by omega
      clear hv5 hc1 hc2 hc3 hc4 hf1 hf2 hf3 hf4 X5 S5 hD5
      obtain ⟨y0, y1, y2, y3⟩ := K5.1.cells
      refine (toMacro_p (TRow.below HP BV5) (TRow.below HB BV5) HLL.1 HLL.2.1).mono ?_
      rintro e w6 ⟨vp6, vb6, rfl, hp6, hq6, hb6⟩
      have M6 : Hid (MR v5.heap.size w6.heap.size w6 vp6 p.length ∧ MR v5.heap.size w6.heap.size w6 vb6 b.length) := ⟨hp6.mr (Nat.le_refl _), hq6.mr (Nat.le_refl _)⟩
      obtain ⟨g6, rfl, hg6, ht6⟩ := hp6
      obtain ⟨k6, rfl, hk6, hu6⟩ := hq6
      have B6 : Hid (Below w.heap.size w w6) := below_more BV5 hb6 (Below.size BV5)
      have C6 : Hid (Below v5.heap.size v5 w6) := hb6
      have P6 : Hid (TPart w6 g6 p.length p.length p ∧ TPart w6 k6 b.length b.length b) := ⟨ht6, hu6⟩
      have z6 : D5 + 1 ≤ w6.heap.size := by have := hb6.size; have := C5.2; omega
      clear hb6 ht6 hu6 y0 y1 y2
      go_wp2_with fail
      obtain ⟨D6, hD6⟩ : ∃ D, D = w6.heap.size := ⟨_, rfl⟩
      obtain ⟨v6, hv6⟩ : ∃ W, W = w6.alloc (.cells #[.slice (some ⟨g6, 0, none⟩) p.length p.length, .int .i64 sl, .slice (some ⟨k6, 0, none⟩) b.length b.length] 34) := ⟨_, rfl⟩
      have CV6 : Hid (Below w6.heap.size w6 v6 ∧ v6.heap.size = D6 + 1) := by rw [hv6, hD6]; exact ⟨below1 _ _, by simp⟩
      have X6 : Hid (Box3 v6 D6 34 (.slice (some ⟨g6, 0, none⟩) p.length p.length) (.int .i64 sl) (.slice (some ⟨k6, 0, none⟩) b.length b.length)) := by rw [hv6, hD6]; exact Box3.new _ _ _ _ _
      have BV6 : Hid (Below w.heap.size w v6) := below_more B6 CV6.1 (Below.size B6)
      rw [← hv6, ← hD6]
      refine (toTokens_p (TRow.below HA BV6) HLL.2.2).mono ?_
      rintro e w7 ⟨vt7, rfl, ht7, hb7⟩
      have M7 : Hid (MR v6.heap.size w7.heap.size w7 vt7 ts.length) := ht7.mr (Nat.le_refl _)
      obtain ⟨g7, rfl, hg7, hs7⟩ := ht7
      have C7 : Hid (Below v6.heap.size v6 w7) := hb7
      have B7 : Hid (Below w.heap.size w w7) := below_more BV6 hb7 (Below.size BV6)
      have C67 : Hid (Below w6.heap.size w6 w7) := below_more CV6.1 hb7 (Below.size CV6.1)
      have z7 : D6 + 1 ≤ w7.heap.size := by have := hb7.size; have := CV6.2; omega
      have P7 : Hid (TOn 0 w7 (.slice (some ⟨g6, 0, none⟩) p.length p.length) p ∧ TRow w7 (.slice (some ⟨k6, 0, none⟩) b.length b.length) b ∧ TOn 0 w7 (.slice (some ⟨g7, 0, none⟩) ts.length ts.length) ts) :=
        ⟨((P6.1.below C67).on rfl (Nat.le_refl _)).mono (Nat.zero_le _), ((P6.2.below C67).on rfl (Nat.le_refl _)).row, (hs7.on rfl (Nat.le_refl _)).mono (Nat.zero_le _)⟩
      have C57 : Hid (Below v5.heap.size v5 w7) := below_more C6 C67 (Below.size C6)
      have K7 : Hid (Box3 w7 w.heap.size 26 (.slice ao n1 cap) (.int .i64 sl) (.slice ao2 n2 cap2) ∧ Box3 w7 D5 59 (.slice a5 n5 c5) (.int .i64 U) (.int .i64 C) ∧ SIn w4.heap.size D5 w7 (.slice a5 n5 c5) L ∧ Box3 w7 D6 34 (.slice (some ⟨g6, 0, none⟩) p.length p.length) (.int .i64 sl) (.slice (some ⟨k6, 0, none⟩) b.length b.length)) := ⟨K5.1.below C57, K5.2.1.below C57, K5.2.2.below C57, X6.below C7⟩
      have E7 : Hid (MR v5.heap.size w6.heap.size w7 (.slice (some ⟨g6, 0, none⟩) p.length p.length) p.length ∧ MR v5.heap.size w6.heap.size w7 (.slice (some ⟨k6, 0, none⟩) b.length b.length) b.length) := ⟨M6.1.shp (Shp.below C67), M6.2.shp (Shp.below C67)⟩
      have S7 : Hid (v5.heap.size = D5 + 1 ∧ D5 + 1 ≤ D6 ∧ w6.heap.size = D6 ∧ v6.heap.size = D6 + 1 ∧ D6 + 1 ≤ w7.heap.size) := ⟨C5.2, by omega, hD6.symm, CV6.2, z7⟩
      clear hb7 hs7 P6 hv6 X6 hD6 M6 C5 CV6 C6 C67 C7 K5 C57 z6 z7
      obtain ⟨y0, y1, y2, y3⟩ := K7.2.2.2.cells
      go_wp2_with fail
      refine (CI P7.1 P7.2.1 P7.2.2).mono ?_
      rintro e w8 ⟨v8, rfl, ho8, hb8⟩
      obtain ⟨a8, n8, c8, rfl⟩ := ho8.shape
      have C8 : Hid (Below w7.heap.size w7 w8) := hb8
      have B8 : Hid (Below w.heap.size w w8) := below_more B7 hb8 (Below.size B7)
      have G8 : Hid (GIn w7.heap.size w8.heap.size w8 (.slice a8 n8 c8) L) := ho8
      have K8 : Hid (Box3 w8 w.heap.size 26 (.slice ao n1 cap) (.int .i64 sl) (.slice ao2 n2 cap2) ∧ Box3 w8 D5 59 (.slice a5 n5 c5) (.int .i64 U) (.int .i64 C) ∧ SIn w4.heap.size D5 w8 (.slice a5 n5 c5) L ∧ Box3 w8 D6 34 (.slice (some ⟨g6, 0, none⟩) p.length p.length) (.int .i64 sl) (.slice (some ⟨k6, 0, none⟩) b.length b.length)) := ⟨K7.1.below hb8, K7.2.1.below hb8, K7.2.2.1.below hb8, K7.2.2.2.below hb8⟩
      clear hb8 ho8 y0 y1 y2 y3 K7
      obtain ⟨y0, y1, y2, y3⟩ := K8.2.1.cells
      go_wp2_with fail
      obtain ⟨D8, hD8⟩ : ∃ D, D = w8.heap.size := ⟨_, rfl⟩
      obtain ⟨v8, hv8⟩ : ∃ W, W = w8.alloc (.cells #[.slice a8 n8 c8, .int .i64 U, .int .i64 C] 59) := ⟨_, rfl⟩
      have CV8 : Hid (Below w8.heap.size w8 v8 ∧ v8.heap.size = D8 + 1) := by rw [hv8, hD8]; exact ⟨below1 _ _, by simp⟩
      have X8 : Hid (Box3 v8 D8 59 (.slice a8 n8 c8) (.int .i64 U) (.int .i64 C)) := by rw [hv8, hD8]; exact Box3.new _ _ _ _ _
      have KV8 : Hid (GIn w7.heap.size D8 v8 (.slice a8 n8 c8) L ∧ SIn w4.heap.size D5 v8 (.slice a5 n5 c5) L) := ⟨by rw [hD8]; exact G8.below CV8.1, K8.2.2.1.below CV8.1⟩
      have BV8 : Hid (Below w.heap.size w v8) := below_more B8 CV8.1 (Below.size B8)
      rw [← hv8, ← hD8]
      have CW8 : Hid (Below w7.heap.size w7 v8) := below_more C8 CV8.1 (Below.size C8)
      have S8 : Hid (w7.heap.size ≤ D8 ∧ v8.heap.size = D8 + 1) := ⟨by rw [hD8]; exact Below.size C8, CV8.2⟩
      clear hv8 hD8 G8 y0 y1 y2 y3
      refine (eqMatch_same KV8.1.row KV8.2.row ⟨HLS.1, HLS.2.1⟩).mono ?_
      rintro e w9 ⟨rfl, hb9⟩
      have C9 : Hid (Below v8.heap.size v8 w9) := hb9
      have B9 : Hid (Below w.heap.size w w9) := below_more BV8 hb9 (Below.size BV8)
      have C89 : Hid (Below w8.heap.size w8 w9) := below_more CV8.1 hb9 (Below.size CV8.1)
      have C79 : Hid (Below w7.heap.size w7 w9) := below_more CW8 hb9 (Below.size CW8)
      have K9 : Hid (Box3 w9 w.heap.size 26 (.slice ao n1 cap) (.int .i64 sl) (.slice ao2 n2 cap2) ∧ Box3 w9 D5 59 (.slice a5 n5 c5) (.int .i64 U) (.int .i64 C) ∧ SIn w4.heap.size D5 w9 (.slice a5 n5 c5) L ∧ Box3 w9 D6 34 (.slice (some ⟨g6, 0, none⟩) p.length p.length) (.int .i64 sl) (.slice (some ⟨k6, 0, none⟩) b.length b.length) ∧ Box3 w9 D8 59 (.slice a8 n8 c8) (.int .i64 U) (.int .i64 C) ∧ GIn w7.heap.size D8 w9 (.slice a8 n8 c8) L) := ⟨K8.1.below C89, K8.2.1.below C89, K8.2.2.1.below C89, K8.2.2.2.below C89, X8.below hb9, KV8.1.below hb9⟩
      have z9 : D8 + 1 ≤ w9.heap.size := by have := hb9.size; have := S8.2; omega
      clear hb9 K8 KV8 X8 CV8
      obtain ⟨q0, q1, q2, q3⟩ := K9.1.cells
      obtain ⟨x0, x1, x2, x3⟩ := K9.2.2.2.1.cells
      have BD : Below w9.heap.size w9 w9.drew := Below.drew (Below.refl _ _)
      have HX : Hid (TRow w9.drew (.slice ao n1 cap) p ∧ TRow w9.drew (.slice ao2 n2 cap2) b ∧ TRow w9.drew (.slice (some ⟨g6, 0, none⟩) p.length p.length) p ∧ TRow w9.drew (.slice (some ⟨k6, 0, none⟩) b.length b.length) b ∧ Below w9.heap.size w9 w9.drew) := ⟨TRow.below (TRow.below HP B9) BD, TRow.below (TRow.below HB B9) BD, TRow.below (TRow.below P7.1.row C79) BD, TRow.below (TRow.below P7.2.1 C79) BD, BD⟩
      have Q9 : Hid (∀ x : World, Below w9.heap.size w9 x → Box3 x D6 34 (.slice (some ⟨g6, 0, none⟩) p.length p.length) (.int .i64 sl) (.slice (some ⟨k6, 0, none⟩) b.length b.length)) := fun x hx => K9.2.2.2.1.below hx
      clear BD
      go_upto_region 14 with fail
      go_cut [44] from 14 (fun s44 wc => s44 = .bool false ∧ Hid (Below w9.heap.size w9 wc))
      case first =>
        go_region_with (first
          | (go_at_call 26; refine (toMacro_any HX.1 HX.2.1 HLL.1 HLL.2.1).mono ?_; rintro e w10 ⟨vp10, vb10, rfl, hp10, hq10, hb10⟩; obtain ⟨a10, l10, c10, rfl⟩ := hp10.shape; obtain ⟨a11, l11, c11, rfl⟩ := hq10.shape; have P10 : Hid (TRow w10 (.slice (some ⟨g6, 0, none⟩) p.length p.length) p ∧ TRow w10 (.slice (some ⟨k6, 0, none⟩) b.length b.length) b ∧ TRow w10 (.slice a10 l10 c10) p ∧ TRow w10 (.slice a11 l11 c11) b ∧ Below w9.heap.size w9 w10) := ⟨TRow.below HX.2.2.1 hb10, TRow.below HX.2.2.2.1 hb10, hp10.1, hq10.1, below_more HX.2.2.2.2 hb10 (Below.size HX.2.2.2.2)⟩; obtain ⟨r0, r1, r2, hs10⟩ := (Q9 w10 P10.2.2.2.2).cells; clear hb10 hp10 hq10)
          | (go_at_call 30; refine (eqMacro_same P10.1 P10.2.1 P10.2.2.1 P10.2.2.2.1 HLL.1 HLL.2.1).mono ?_; rintro e w11 ⟨rfl, hb11⟩; have C11 : Hid (Below w9.heap.size w9 w11) := below_more P10.2.2.2.2 hb11 (Below.size P10.2.2.2.2); clear hb11))
        all_goals
          go_wp2_with fail
          go_meet
          case rel => exact ⟨rfl, ‹Hid (Below w9.heap.size w9 w11)›⟩
      case rest =>
        obtain ⟨rfl, CC⟩ := hcut
        clear q0 q1 q2 q3 x0 x1 x2 x3 HX Q9
        have Bc : Hid (Below w.heap.size w wc) := below_more B9 CC (Below.size B9)
        go_wp2_with fail
        refine (toTokens_any (TRow.below HA Bc) HLL.2.2).mono ?_
        rintro e w12 ⟨rfl, hs12, hb12⟩
        have C12 : Hid (Below w9.heap.size w9 w12) := below_more CC hb12 (Below.size CC)
        have B12 : Hid (Below w.heap.size w w12) := below_more B9 C12 (Below.size B9)
        have P12 : Hid (TRow w12 (.slice (some ⟨g7, 0, none⟩) ts.length ts.length) ts ∧ TRow w12 (.slice (some ⟨wc.heap.size, 0, none⟩) ts.length ts.length) ts) := ⟨TRow.below (TRow.below P7.2.2.row C79) C12, (hs12.on rfl (Nat.le_refl _)).row⟩
        clear hs12 hb12
        go_wp2_with fail
        refine (eqTokens_same P12.1 P12.2 HLL.2.2).mono ?_
        rintro e w13 ⟨rfl, hb13⟩
        have C13 : Hid (Below w9.heap.size w9 w13) := below_more C12 hb13 (Below.size C12)
        have B13 : Hid (Below w.heap.size w w13) := below_more B9 C13 (Below.size B9)
        have C713 : Hid (Below w7.heap.size w7 w13) := below_more C79 C13 (Below.size C79)
        clear hb13 P12
        have K13 : Hid (Box3 w13 w.heap.size 26 (.slice ao n1 cap) (.int .i64 sl) (.slice ao2 n2 cap2) ∧ Box3 w13 D5 59 (.slice a5 n5 c5) (.int .i64 U) (.int .i64 C) ∧ SIn w4.heap.size D5 w13 (.slice a5 n5 c5) L ∧ Box3 w13 D6 34 (.slice (some ⟨g6, 0, none⟩) p.length p.length) (.int .i64 sl) (.slice (some ⟨k6, 0, none⟩) b.length b.length) ∧ Box3 w13 D8 59 (.slice a8 n8 c8) (.int .i64 U) (.int .i64 C) ∧ GIn w7.heap.size D8 w13 (.slice a8 n8 c8) L) := ⟨K9.1.below C13, K9.2.1.below C13, K9.2.2.1.below C13, K9.2.2.2.1.below C13, K9.2.2.2.2.1.below C13, K9.2.2.2.2.2.below C13⟩
        have E13 : Hid (MR v5.heap.size w6.heap.size w13 (.slice (some ⟨g6, 0, none⟩) p.length p.length) p.length ∧ MR v5.heap.size w6.heap.size w13 (.slice (some ⟨k6, 0, none⟩) b.length b.length) b.length ∧ MR v6.heap.size w7.heap.size w13 (.slice (some ⟨g7, 0, none⟩) ts.length ts.length) ts.length) := ⟨E7.1.shp (Shp.below C713), E7.2.shp (Shp.below C713), M7.shp (Shp.below C713)⟩
        have S13 : Hid (w.heap.size < D5 ∧ w4.heap.size ≤ D5 ∧ v5.heap.size = D5 + 1 ∧ D5 + 1 ≤ D6 ∧ w6.heap.size = D6 ∧ v6.heap.size = D6 + 1 ∧ D6 + 1 ≤ w7.heap.size ∧ w7.heap.size ≤ D8 ∧ D8 + 1 ≤ w13.heap.size) := ⟨hD5z.1, hD5z.2, S7.1, S7.2.1, S7.2.2.1, S7.2.2.2.1, S7.2.2.2.2, S8.1, by have := Below.size C13; omega⟩
        have hbp : p.length ≤ 1048576 := HLL.1
        have hbb : b.length ≤ 1048576 := HLL.2.1
        have hbt : ts.length ≤ 1048576 := HLL.2.2
        obtain ⟨y0, y1, y2, y3⟩ := K13.2.2.2.1.cells
        go_wp2_with fail
        refine (markMacro_any 1 (by decide) (by omega) (lo := v5.heap.size) (hi := w6.heap.size) (by obtain ⟨s1, s2, s3, s4, s5, s6, s7, s8, s9⟩ := S13; omega) (by obtain ⟨s1, s2, s3, s4, s5, s6, s7, s8, s9⟩ := S13; omega) E13.1 E13.2.1).mono ?_
        rintro e w14 ⟨rfl, hb14, ha14, hs14⟩
        have B14 : Hid (Below w.heap.size w w14) := Below.trans B13 (hb14.mono (by obtain ⟨s1, s2, s3, s4, s5, s6, s7, s8, s9⟩ := S13; omega))
        have z14 : w13.heap.size ≤ w14.heap.size := hb14.size
        have K14 : Hid (Box3 w14 w.heap.size 26 (.slice ao n1 cap) (.int .i64 sl) (.slice ao2 n2 cap2) ∧ Box3 w14 D5 59 (.slice a5 n5 c5) (.int .i64 U) (.int .i64 C) ∧ SIn w4.heap.size D5 w14 (.slice a5 n5 c5) L ∧ Box3 w14 D8 59 (.slice a8 n8 c8) (.int .i64 U) (.int .i64 C) ∧ GIn w7.heap.size D8 w14 (.slice a8 n8 c8) L) := by
          obtain ⟨s1, s2, s3, s4, s5, s6, s7, s8, s9⟩ := S13
          exact ⟨K13.1.bel hb14 (by omega), K13.2.1.bel hb14 (by omega), K13.2.2.1.keep (fun g _ h2 _ => hb14.block g (by omega)), K13.2.2.2.2.1.abv ha14 (by omega), K13.2.2.2.2.2.keep (fun g h1 _ h3 => ha14.block g (by omega) h3)⟩
        have E14 : Hid (MR v6.heap.size w7.heap.size w14 (.slice (some ⟨g7, 0, none⟩) ts.length ts.length) ts.length) := E13.2.2.shp hs14
        clear hb14 ha14 hs14 y0 y1 y2 y3
        obtain ⟨K1, hK1⟩ : ∃ K, K = 1 + 3 * p.length + 3 * b.length := ⟨_, rfl⟩
        have hK1b : K1 ≤ 6291457 := by omega
        have hK10 : 0 < K1 := by omega
        rw [← hK1]
        clear hK1
        go_wp2_with fail
        refine (markRow_any (lo := v6.heap.size) (hi := w7.heap.size) K1 hK10 (by omega) (by obtain ⟨s1, s2, s3, s4, s5, s6, s7, s8, s9⟩ := S13; omega) E14).mono ?_
        rintro e w15 ⟨rfl, hb15, ha15, hs15⟩
        have B15 : Hid (Below w.heap.size w w15) := Below.trans B14 (hb15.mono (by obtain ⟨s1, s2, s3, s4, s5, s6, s7, s8, s9⟩ := S13; omega))
        have z15 : w14.heap.size ≤ w15.heap.size := hb15.size
        have K15 : Hid (Box3 w15 w.heap.size 26 (.slice ao n1 cap) (.int .i64 sl) (.slice ao2 n2 cap2) ∧ Box3 w15 D5 59 (.slice a5 n5 c5) (.int .i64 U) (.int .i64 C) ∧ SIn w4.heap.size D5 w15 (.slice a5 n5 c5) L ∧ Box3 w15 D8 59 (.slice a8 n8 c8) (.int .i64 U) (.int .i64 C) ∧ GIn w7.heap.size D8 w15 (.slice a8 n8 c8) L) := by
          obtain ⟨s1, s2, s3, s4, s5, s6, s7, s8, s9⟩ := S13
          exact ⟨K14.1.bel hb15 (by omega), K14.2.1.bel hb15 (by omega), K14.2.2.1.keep (fun g _ h2 _ => hb15.block g (by omega)), K14.2.2.2.1.abv ha15 (by omega), K14.2.2.2.2.keep (fun g h1 _ h3 => ha15.block g (by omega) h3)⟩
        clear hb15 ha15 hs15
        obtain ⟨K2, hK2⟩ : ∃ K, K = K1 + 3 * ts.length := ⟨_, rfl⟩
        have hK2n : ¬ (K2 : Int) < 0 := by omega
        rw [← hK2]
        clear hK2
        obtain ⟨y0, y1, y2, y3⟩ := K15.2.1.cells
        obtain ⟨x0, x1, x2, x3⟩ := K15.2.2.2.1.cells
        go_wp2_with fail
        refine (eqMatch_same K15.2.2.2.2.row K15.2.2.1.row ⟨HLS.1, HLS.2.1⟩).mono ?_
        rintro e w16 ⟨rfl, hb16⟩
        have B16 : Hid (Below w.heap.size w w16) := below_more B15 hb16 (Below.size B15)
        have z16 : w15.heap.size ≤ w16.heap.size := hb16.size
        have K16 : Hid (Box3 w16 w.heap.size 26 (.slice ao n1 cap) (.int .i64 sl) (.slice ao2 n2 cap2) ∧ Box3 w16 D5 59 (.slice a5 n5 c5) (.int .i64 U) (.int .i64 C) ∧ SIn w4.heap.size D5 w16 (.slice a5 n5 c5) L ∧ Box3 w16 D8 59 (.slice a8 n8 c8) (.int .i64 U) (.int .i64 C) ∧ GIn w7.heap.size D8 w16 (.slice a8 n8 c8) L) := ⟨K15.1.below hb16, K15.2.1.below hb16, K15.2.2.1.below hb16, K15.2.2.2.1.below hb16, K15.2.2.2.2.below hb16⟩
        clear hb16 y0 y1 y2 y3 x0 x1 x2 x3 K15 K14 K13 K9
        obtain ⟨x0, x1, x2, x3⟩ := K16.2.2.2.1.cells
        obtain ⟨K3, hK3⟩ : ∃ K, K = 1 + 3 * total L := ⟨_, rfl⟩
        have hK3n : ¬ (K3 : Int) < 0 := by omega
        have CMK : Hid (Calls Try.prog 34 #[.agg #[.slice a8 n8 c8, .int .i64 U, .int .i64 C], .int .i64 1] w16 fun e w' => e = .returned (.int .i64 (K3 : Int)) ∧ MIn w7.heap.size D8 w' (.slice a8 n8 c8) 1 L ∧ Below w7.heap.size w16 w' ∧ Abv D8 w16 w') := by
          rw [hK3]
          exact markMatch_i HLS.2.2 HLS.1 (by obtain ⟨s1, s2, s3, s4, s5, s6, s7, s8, s9⟩ := S13; omega) (by obtain ⟨s1, s2, s3, s4, s5, s6, s7, s8, s9⟩ := S13; omega) K16.2.2.2.2
        go_wp2_with fail
        refine Calls.mono CMK ?_
        rintro e w17 ⟨rfl, hm17, hb17, ha17⟩
        have z17 : w16.heap.size ≤ w17.heap.size := hb17.size
        have B17 : Hid (Below w.heap.size w w17) := Below.trans B16 (hb17.mono (by obtain ⟨s1, s2, s3, s4, s5, s6, s7, s8, s9⟩ := S13; omega))
        have K17 : Hid (Box3 w17 w.heap.size 26 (.slice ao n1 cap) (.int .i64 sl) (.slice ao2 n2 cap2) ∧ Box3 w17 D5 59 (.slice a5 n5 c5) (.int .i64 U) (.int .i64 C) ∧ SIn w4.heap.size D5 w17 (.slice a5 n5 c5) L ∧ Box3 w17 D8 59 (.slice a8 n8 c8) (.int .i64 U) (.int .i64 C) ∧ MIn w7.heap.size D8 w17 (.slice a8 n8 c8) 1 L) := by
          obtain ⟨s1, s2, s3, s4, s5, s6, s7, s8, s9⟩ := S13
          exact ⟨K16.1.bel hb17 (by omega), K16.2.1.bel hb17 (by omega), K16.2.2.1.keep (fun g _ h2 _ => hb17.block g (by omega)), K16.2.2.2.1.abv ha17 (Nat.le_refl _), hm17⟩
        have CH : Hid (∀ W, Below w17.heap.size w17 W → Calls Try.prog 35 #[.agg #[.slice a8 n8 c8, .int .i64 U, .int .i64 C], .int .i64 1] W fun e w' => e = .returned (.int .i64 (K3 : Int)) ∧ Below W.heap.size W w') := by
          intro W hW
          have hD : D8 ≤ w17.heap.size := by obtain ⟨s1, s2, s3, s4, s5, s6, s7, s8, s9⟩ := S13; omega
          rw [hK3]
          exact heldMatch_i HLS.2.2 HLS.1 (Nat.le_trans hD hW.size) (K17.2.2.2.2.below hW hD)
        clear hm17 hb17 ha17 x0 x1 x2 x3 K16 CMK hK3
        obtain ⟨x0, x1, x2, x3⟩ := K17.2.2.2.1.cells
        go_wp2_with fail
        refine (CH _ (Below.refl _ _)).mono ?_
        rintro e w18 ⟨rfl, hb18⟩
        have C18 : Hid (Below w17.heap.size w17 w18) := hb18
        have B18 : Hid (Below w.heap.size w w18) := below_more B17 hb18 (Below.size B17)
        clear hb18 x0 x1 x2 x3
        obtain ⟨q0, q1, q2, q3⟩ := (K17.1.below C18).cells
        go_wp2_with fail
        refine (toMacro_p (TRow.below HP B18) (TRow.below HB B18) HLL.1 HLL.2.1).mono ?_
        rintro e w19 ⟨vp19, vb19, rfl, hp19, hq19, hb19⟩
        obtain ⟨g19, rfl, hg19, ht19⟩ := hp19
        obtain ⟨k19, rfl, hk19, hu19⟩ := hq19
        have C19 : Hid (Below w17.heap.size w17 w19) := below_more C18 hb19 (Below.size C18)
        have B19 : Hid (Below w.heap.size w w19) := below_more B18 hb19 (Below.size B18)
        have P19 : Hid (TPart w19 g19 p.length p.length p ∧ TPart w19 k19 b.length b.length b) := ⟨ht19, hu19⟩
        clear hb19 ht19 hu19 q0 q1 q2 q3
        go_wp2_with fail
        refine (toTokens_any (TRow.below HA B19) HLL.2.2).mono ?_
        rintro e w20 ⟨rfl, hs20, hb20⟩
        have C20 : Hid (Below w17.heap.size w17 w20) := below_more C19 hb20 (Below.size C19)
        have B20 : Hid (Below w.heap.size w w20) := below_more B19 hb20 (Below.size B19)
        have P20 : Hid (TOn 0 w20 (.slice (some ⟨g19, 0, none⟩) p.length p.length) p ∧ TRow w20 (.slice (some ⟨k19, 0, none⟩) b.length b.length) b ∧ TOn 0 w20 (.slice (some ⟨w19.heap.size, 0, none⟩) ts.length ts.length) ts) :=
          ⟨((P19.1.below hb20).on rfl (Nat.le_refl _)).mono (Nat.zero_le _), ((P19.2.below hb20).on rfl (Nat.le_refl _)).row, (hs20.on rfl (Nat.le_refl _)).mono (Nat.zero_le _)⟩
        clear hb20 hs20 P19
        go_wp2_with fail
        refine (CI P20.1 P20.2.1 P20.2.2).mono ?_
        rintro e w21 ⟨v21, rfl, ho21, hb21⟩
        obtain ⟨a21, n21, c21, rfl⟩ := ho21.shape
        have C21 : Hid (Below w17.heap.size w17 w21) := below_more C20 hb21 (Below.size C20)
        have B21 : Hid (Below w.heap.size w w21) := below_more B20 hb21 (Below.size B20)
        have G21 : Hid (GIn w20.heap.size w21.heap.size w21 (.slice a21 n21 c21) L) := ho21
        have K21 : Hid (Box3 w21 D5 59 (.slice a5 n5 c5) (.int .i64 U) (.int .i64 C) ∧ SIn w4.heap.size D5 w21 (.slice a5 n5 c5) L) := ⟨K17.2.1.below C21, K17.2.2.1.below C21⟩
        clear hb21 ho21 P20
        obtain ⟨y0, y1, y2, y3⟩ := K21.1.cells
        go_wp2_with fail
        obtain ⟨v22, hv22⟩ : ∃ W, W = w21.alloc (.cells #[.slice a21 n21 c21, .int .i64 U, .int .i64 C] 59) := ⟨_, rfl⟩
        have CV : Hid (Below w21.heap.size w21 v22) := by rw [hv22]; exact below1 _ _
        rw [← hv22]
        clear hv22 y0 y1 y2 y3
        refine (eqMatch_same (G21.below CV).row (K21.2.below CV).row ⟨HLS.1, HLS.2.1⟩).mono ?_
        rintro e w22 ⟨rfl, hb22⟩
        have C22 : Hid (Below w17.heap.size w17 w22) := below_more (below_more C21 CV (Below.size C21)) hb22 (Nat.le_trans (Below.size C21) (Below.size CV))
        have B22 : Hid (Below w.heap.size w w22) := below_more B17 C22 (Below.size B17)
        clear hb22
        obtain ⟨x0, x1, x2, x3⟩ := (K17.2.2.2.1.below C22).cells
        go_wp2_with fail
        refine (CH _ C22).mono ?_
        rintro e w23 ⟨rfl, hb23⟩
        have B23 : Hid (Below w.heap.size w w23) := below_more B22 hb23 (Below.size B22)
        clear hb23 x0 x1 x2 x3
        go_wp2
        go_ret
        exact ⟨rfl, B23⟩
end Go.Proofs.Ytbceblgnjicdcaa
