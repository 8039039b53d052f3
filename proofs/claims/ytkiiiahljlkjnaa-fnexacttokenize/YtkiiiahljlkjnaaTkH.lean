/-
  Proved: for every list of numbers and every text, laws.FnExactTokenize returns true and its arguments read behind the call as before it; no condition.
-/
import Derived.Test.YtkiiiahljlkjnaaNxH
import Derived.Test.YtkiiiahljlkjnaaTim
import Derived.Test.YtkiiiahljlkjnaaMrk
import Derived.Test.YtkiiiahljlkjnaaMki
namespace Go.Proofs.Ytkiiiahljlkjnaa
open Go.ChangeShapes Go.WideShapes Go.ChangeAt Go.RowKit Go.Joins
open Go.ChangeMaps (open_string)
set_option linter.unusedVariables false
set_option linter.unusedSimpArgs false

theorem own_row {base n : Nat} {w : World} {v : Value} {ts : List Tk} (h : w.ownsRow base 34 3 v n (flat ts)) : TRow w v ts := (own_n h).row
/-- What may be marked of a row of one's own. -/
theorem own_part {base n cap : Nat} {ao : Option Addr} {w : World} {ts : List Tk} (h : w.ownsRow base 34 3 (.slice ao n cap) n (flat ts)) (hn : 0 < n) : ∃ g, ao = some ⟨g, 0, none⟩ ∧ n ≤ cap ∧ base ≤ g ∧ g < w.heap.size ∧ TPart w g cap 0 [] := by
  rcases h.2 with ⟨h1, h2⟩ | ⟨g, cap', cur, e, h3, h4, h5, h6, h7, h8⟩
  · omega
  · injection e with e1 e2 e3
    subst e1 e3
    exact ⟨g, rfl, h5, h3, (Array.getElem?_eq_some_iff.1 h4).1, cur, h4, h7, fun i hi => by omega⟩
theorem marked_row {ao : Option Addr} {n cap : Nat} {w : World} (h : ∀ g, 0 < n → ao = some ⟨g, 0, none⟩ → TPart w g cap n (marks 1 n)) (hs : 0 < n → ∃ g, ao = some ⟨g, 0, none⟩ ∧ n ≤ cap) : TRow w (.slice ao n cap) (marks 1 n) := by
  by_cases hn : 0 < n
  · obtain ⟨g, rfl, hc⟩ := hs hn
    exact ((h g hn rfl).on (marks_len 1 n) hc).row
  · obtain rfl : n = 0 := by omega
    exact ⟨_, _, _, rfl, rfl, fun h => absurd h (Nat.lt_irrefl 0)⟩

set_option maxRecDepth 20000 in
set_option maxHeartbeats 8000000 in
theorem lawTokenize_any {v : Value} {zs : List Int} {s : ByteArray} {w : World} (h : Row w v zs) (hs : s.size ≤ 9223372036854775807) :
    Calls Try.prog 6 #[v, .string s] w fun e w' => e = .returned (.bool true) ∧ Below w.heap.size w w' := by
  have HX := hideP h
  obtain ⟨T, hT⟩ : ∃ T, T = (tokS zs s).1 := ⟨_, rfl⟩
  obtain ⟨r, hr0⟩ : ∃ r, r = (tokS zs s).2 := ⟨_, rfl⟩
  obtain ⟨m, hm⟩ : ∃ m, m = T.length := ⟨_, rfl⟩
  have hml : m ≤ 65536 := by rw [hm, hT]; exact tokS_len zs s
  have CS : Hid (∀ W u, Row W u zs → Calls Try.prog 18 #[u, .string s] W fun e w' => (∃ t c, e = .returned (.tuple #[.slice t m c, .int .i64 r]) ∧ w'.ownsRow W.heap.size 34 3 (.slice t m c) m (flat T)) ∧ Below W.heap.size W w') := hideP (fun W u hW => (specTokenize_any hW hs).mono (fun e w' hh => by
    obtain ⟨⟨u, rfl, ho⟩, hb⟩ := hh
    rw [← hT, ← hm] at ho
    obtain ⟨a, c, rfl⟩ := ownG_shape ho
    exact ⟨⟨a, c, by rw [hr0], ho⟩, hb⟩))
  have CI : Hid (∀ W u, Row W u zs → Calls Try.prog 9 #[u, .string s] W fun e w' => (∃ t c, e = .returned (.tuple #[.slice t m c, .int .i64 r]) ∧ w'.ownsRow W.heap.size 34 3 (.slice t m c) m (flat T)) ∧ Below W.heap.size W w') := hideP (fun W u hW => (implTokenize_any hW).mono (fun e w' hh => by
    obtain ⟨⟨u, rfl, ho⟩, hb⟩ := hh
    rw [← hT, ← hm] at ho
    obtain ⟨a, c, rfl⟩ := ownG_shape ho
    exact ⟨⟨a, c, by rw [hr0], ho⟩, hb⟩))
  have CE : Hid (∀ W u1 u2, TRow W u1 T → TRow W u2 T → Calls Try.prog 19 #[u1, u2] W fun e w' => e = .returned (.bool true) ∧ Below W.heap.size W w') := hideP (fun W u1 u2 h1 h2 => eqTokens_same h1 h2 (by omega))
  obtain ⟨ao, n, cap, rfl, hn, hr⟩ := h
  have CT : Hid (n ≤ 1048576 → ∀ W, Below w.heap.size w W → Calls Try.prog 15 #[.slice ao n cap] W fun e w' => e = .returned (.slice (some ⟨W.heap.size, 0, none⟩) n n) ∧ Copied W.heap.size n W w' zs) := hideP (fun hm W hW => (toInts_any (HX.out.below hW) (by omega)).mono (fun e w' hh => by
    obtain ⟨rfl, hc⟩ := hh
    rw [hn] at hc ⊢
    exact ⟨rfl, hc⟩))
  have CQ : Hid (n ≤ 1048576 → ∀ W u1 u2, Row W u1 zs → Row W u2 zs → Calls Try.prog 17 #[u1, u2] W fun e w' => e = .returned (.bool true) ∧ Below W.heap.size W w') := hideP (fun hm W u1 u2 h1 h2 => (eqInts_any h1 h2 (by omega)).mono (fun e w' hh => by
    obtain ⟨rfl, hb⟩ := hh
    exact ⟨by simp, hb⟩))
  clear hr hn hT hr0 hm
  go_enter Try.func6, Try.ntmps6
  by_cases k1 : 1048576 < n
  · have k2 : (1048576 : Int) < (n : Int) := by omega
    go_wp2
    go_ret
    exact ⟨rfl, Below.refl _ _⟩
  have k2 : ¬ (1048576 : Int) < (n : Int) := by omega
  have k3 : decide ((1048576 : Int) < (n : Int)) = false := by simp; omega
  have HS : Hid (n ≤ 1048576) := hideP (by omega)
  have hn20 : n ≤ 1048576 := by omega
  by_cases k4 : (1048576 : Int) < (s.size : Int)
  · go_wp2
    go_ret
    exact ⟨rfl, Below.refl _ _⟩
  have k5 : decide ((1048576 : Int) < (s.size : Int)) = false := by simp; omega
  have hrr : (r != r) = false := by simp
  -- the specification's answer
  go_wp2_with fail
  refine (CT.out HS.out _ (Below.refl _ _)).mono ?_
  rintro e w1 ⟨rfl, cp1⟩
  have D1 := hideP cp1.2.2.1
  have R1 := hideP cp1.row
  clear cp1
  go_wp2_with fail
  refine (CS.out _ _ R1.out).mono ?_
  rintro e w2 ⟨⟨t0, c0, rfl, o0⟩, hb2⟩
  have D2 := hideP (below_more D1.out hb2 D1.out.size)
  have U0 : Hid (∀ W, Below w2.heap.size w2 W → TRow W (.slice t0 m c0) T) := hideP (fun W hW => own_row (own_below o0 hW))
  clear hb2 R1 o0 D1
  -- the argument's copy and the program's answer
  go_wp2_with fail
  refine (CT.out HS.out _ D2.out).mono ?_
  rintro e w3 ⟨rfl, cp3⟩
  have B23 := hideP cp3.2.2.1
  have hz3 : w2.heap.size < w3.heap.size := cp3.2.2.2
  have D3 := hideP (below_more D2.out cp3.2.2.1 D2.out.size)
  have X3 := hideP cp3
  clear cp3
  go_wp2_with fail
  refine (CI.out _ _ X3.out.row).mono ?_
  rintro e w4 ⟨⟨t1, c1, rfl, o1⟩, hb4⟩
  have B24 := hideP (below_more B23.out hb4 B23.out.size)
  have B34 := hideP hb4
  have D4 := hideP (below_more D3.out hb4 D3.out.size)
  have O1 := hideP o1
  clear hb4 o1
  go_wp2_with fail
  refine (CE.out _ _ _ (own_row O1.out) (U0.out _ B24.out)).mono ?_
  rintro e w5 ⟨rfl, hb5⟩
  have B45 := hideP hb5
  have B25 := hideP (below_more B24.out hb5 B24.out.size)
  have D5 := hideP (below_more D4.out hb5 D4.out.size)
  clear hb5
  go_wp2_with fail
  refine (CT.out HS.out _ D5.out).mono ?_
  rintro e w6 ⟨rfl, cp6⟩
  have B46 := hideP (below_more B45.out cp6.2.2.1 B45.out.size)
  have B36 := hideP (below_more B34.out B46.out B34.out.size)
  have D6 := hideP (below_more D5.out cp6.2.2.1 D5.out.size)
  have R6 := hideP cp6.row
  clear cp6
  go_wp2_with fail
  refine (CQ.out HS.out _ _ _ (X3.out.row.below B36.out) R6.out).mono ?_
  rintro e w7 ⟨rfl, hb7⟩
  have B47 := hideP (below_more B46.out hb7 B46.out.size)
  have B37 := hideP (below_more B34.out B47.out B34.out.size)
  have B27 := hideP (below_more B24.out B47.out B24.out.size)
  have D7 := hideP (below_more D6.out hb7 D6.out.size)
  clear hb7 R6
  -- the argument's copy is marked
  have MI := hideP (markInts_any (k := 1) (own_below X3.out.1 B37.out) HS.out (by omega) (by omega))
  go_wp2_with fail
  refine MI.out.mono ?_
  rintro e w8 ⟨rfl, _, hb8, hs8, ho8⟩
  have B28 : Hid (Below w2.heap.size w2 w8) := hideP (B27.out.trans hb8)
  have hz8 : w4.heap.size ≤ w8.heap.size := by rw [hs8]; exact B47.out.size
  have O8 : Hid (w8.ownsRow w3.heap.size 34 3 (.slice t1 m c1) m (flat T)) := hideP (own_same O1.out (fun g hg => by
    have hl := O1.out.lt g hg
    rw [ho8 g (by omega)]
    exact B47.out.block g hl.2))
  have D8 : Hid (Below w.heap.size w w8) := hideP (D2.out.trans (B28.out.mono D2.out.size))
  clear hb8 hs8 ho8 MI
  have kn : ¬ ((1 : Int) + (n : Int) < 0) := by omega
  have kd : decide ((1 : Int) + (n : Int) < 0) = false := by simp; omega
  go_wp2_with fail
  refine (CE.out _ _ _ (own_row O8.out) (U0.out _ B28.out)).mono ?_
  rintro e w9 ⟨rfl, hb9⟩
  have B29 := hideP (below_more B28.out hb9 B28.out.size)
  have O9 := hideP (own_below O8.out hb9)
  have hz9 : w4.heap.size ≤ w9.heap.size := Nat.le_trans hz8 hb9.size
  have hz39 : w3.heap.size ≤ w9.heap.size := Nat.le_trans B34.out.size hz9
  have D9 := hideP (below_more D8.out hb9 D8.out.size)
  clear hb9
  -- the answer is marked
  have MT := hideP (markTokens_any (lo := w3.heap.size) (hi := w9.heap.size) (ao := t1) (n := m) (cap := c1) (N := c1) 1 (by omega) (by omega) hz39 (fun h => own_part O9.out h))
  have PT := hideP (fun h : 0 < m => own_part O9.out h)
  go_wp2_with fail
  refine MT.out.mono ?_
  rintro e w10 ⟨rfl, mt, hb10, ha10, _⟩
  have TM : Hid (TRow w10 (.slice t1 m c1) (marks 1 m)) := hideP (marked_row mt (fun h => by obtain ⟨g, e1, e2, _⟩ := PT.out h; exact ⟨g, e1, e2⟩))
  have B210 : Hid (Below w2.heap.size w2 w10) := hideP (B29.out.trans (hb10.mono (by omega)))
  have D10 : Hid (Below w.heap.size w w10) := hideP (D2.out.trans (B210.out.mono D2.out.size))
  clear mt hb10 ha10 MT PT
  have HT := hideP (heldTokens_any (k := 1) TM.out (by omega) (by omega))
  go_wp2_with fail
  refine HT.out.mono ?_
  rintro e w11 ⟨rfl, hb11⟩
  have B1011 := hideP hb11
  have B211 := hideP (below_more B210.out hb11 B210.out.size)
  have D11 := hideP (below_more D10.out hb11 D10.out.size)
  clear hb11 HT
  have km : ¬ ((1 : Int) + 3 * (m : Int) < 0) := by omega
  have kmd : decide ((1 : Int) + 3 * (m : Int) < 0) = false := by simp; omega
  go_wp2_with fail
  refine (CT.out HS.out _ D11.out).mono ?_
  rintro e w12 ⟨rfl, cp12⟩
  have B1012 := hideP (below_more B1011.out cp12.2.2.1 B1011.out.size)
  have B212 := hideP (below_more B211.out cp12.2.2.1 B211.out.size)
  have D12 := hideP (below_more D11.out cp12.2.2.1 D11.out.size)
  have R12 := hideP cp12.row
  clear cp12
  go_wp2_with fail
  refine (CI.out _ _ R12.out).mono ?_
  rintro e w13 ⟨⟨t2, c2, rfl, o2⟩, hb13⟩
  have B1013 := hideP (below_more B1012.out hb13 B1012.out.size)
  have B213 := hideP (below_more B212.out hb13 B212.out.size)
  have D13 := hideP (below_more D12.out hb13 D12.out.size)
  have O13 := hideP o2
  clear hb13 o2 R12
  go_wp2_with fail
  refine (CE.out _ _ _ (own_row O13.out) (U0.out _ B213.out)).mono ?_
  rintro e w14 ⟨rfl, hb14⟩
  have B1014 := hideP (below_more B1013.out hb14 B1013.out.size)
  have D14 := hideP (below_more D13.out hb14 D13.out.size)
  clear hb14
  have HT := hideP (heldTokens_any (k := 1) (TM.out.below B1014.out) (by omega) (by omega))
  go_wp2_with fail
  refine HT.out.mono ?_
  rintro e w15 ⟨rfl, hb15⟩
  have D15 := hideP (below_more D14.out hb15 D14.out.size)
  clear hb15 HT
  go_wp2
  go_ret
  exact ⟨rfl, D15.out⟩

set_option maxRecDepth 100000 in
theorem tokenize_lifted (os : Os) (started : os.Started) (H : Type) (enc : TypeId × Value → H) :
    ReturnsInHanded {} Try.checked os 6 .any (Rows.fnExactTokenizeSpec.pre6 enc Try.prog Try.f6 Rows.fnExactTokenizeRow.domain false) (Rows.fnExactTokenizeSpec.post enc Try.prog Try.f6 false true false false) := by
  refine returnsInHanded_of_change (C := Try.checked) ownT started (by kernel_rfl) Try.func6
    (ChangeSpec.witness6 (enc := enc) (C := Try.checked) false ⟨#[], #[.slice none 0 0, .string ByteArray.empty], []⟩ 8 (by kernel_rfl) (by kernel_rfl) (by kernel_rfl) (by kernel_rfl)) ?_
  intro W base args ds gs before hval0 hW hcnd _
  have hval : ∀ (j : Nat) t v, Try.f6.params[j]? = some t → args[j]? = some v → Value.okWide Try.prog W .any base t v := hval0
  have hW' := hW
  obtain ⟨p, q, hA0, hV, rfl, hfz, hnd⟩ := hW
  have hA : DataW.TrodAll enc Try.prog W 0 (fun _ => true) true Try.f6.params.toList args.toList ds p := hA0
  rw [Try.params6] at hA hval
  obtain ⟨v0, vs0, d0, ds0, p0, q0, hargs, rfl, rfl, h0, r0⟩ := trodAll_cons hA
  obtain ⟨v1, vs1, d1, ds1, p1, q1, hargs1, rfl, rfl, h1, r1⟩ := trodAll_cons r0
  obtain ⟨rfl, rfl, rfl⟩ := trodAll_nil r1
  subst hargs1
  obtain rfl : args = #[v0, v1] := by cases args; simp_all
  obtain ⟨rfl, rfl⟩ := trodVars_none hV
  have k0 := h0
  have k1 := h1
  have lt0 : ∀ x ∈ p0, x.block < W.heap.size := by obtain ⟨m, hm⟩ := k0; exact DataW.trod_lt m _ _ _ hm
  have lt1 : ∀ x ∈ p1, x.block < W.heap.size := by obtain ⟨m, hm⟩ := k1; exact DataW.trod_lt m _ _ _ hm
  obtain ⟨zs, hrow⟩ := open_row (hval 0 24 v0 rfl rfl) h0
  obtain ⟨s, rfl, rfl, rfl, hs⟩ := open_string Try.underlying9 (hval 1 9 v1 rfl rfl) h1
  have hs2 : s.size ≤ 9223372036854775807 := by
    unfold maxLen at hs
    exact hs
  clear hA0 hval0
  refine (lawTokenize_any hrow hs2).mono fun e W' ⟨he, bel⟩ => ?_
  subst he
  exact ⟨_, rfl, _, _, _, [], _, [], hW', trodAll_mk1 (shut_bool Try.underlying4 _), (trodAll_cons_mk (Below.trod laidOut (by kernel_rfl) (of_decide_eq_true (by kernel_rfl)) k0 bel lt0) (trodAll_cons_mk (Below.trod laidOut (by kernel_rfl) (of_decide_eq_true (by kernel_rfl)) k1 bel lt1) trodAll_mk0)), rfl, bel.frame _, fun h => by cases h⟩

theorem tokenize_holds : Rows.FnExactTokenizeSaid :=
  OpenClaim.holds_of_wide 6 Try.f6 rfl rfl rfl rfl rfl rfl rfl ⟨rfl, rfl, rfl, rfl, rfl⟩ rfl rfl rfl rfl rfl (by kernel_rfl) Try.func6 (by kernel_rfl)
    (of_decide_eq_true (by kernel_rfl)) (by unfold Func.isWrapper; first | (rw [if_pos (by decide +kernel)]; kernel_rfl) | (rw [if_neg (by decide +kernel)]; exact ⟨rfl, rfl⟩))
    (fun os started H enc _ => tokenize_lifted os started H enc)
#print axioms tokenize_holds
end Go.Proofs.Ytkiiiahljlkjnaa
