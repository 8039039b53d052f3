/-
  The specification's MatchArgs.
-/
import Derived.Test.YtbceblgnjicdcaaXi
import Derived.Test.YtbceblgnjicdcaaTrn
import Derived.Test.YtbceblgnjicdcaaOkS
import Derived.Test.YtbceblgnjicdcaaArg
namespace Go.Proofs.Ytbceblgnjicdcaa
open Go.RowKit
set_option linter.unusedVariables false
set_option linter.unusedSimpArgs false

set_option maxRecDepth 100000 in
set_option maxHeartbeats 4000000 in
theorem specMatch_any {vb : Value} {pb pn pcap tb tn tcap : Nat} {p b ts : List Tk} {sl : Int} {w : World} (hp : TOn 0 w (.slice (some ⟨pb, 0, none⟩) pn pcap) p) (hb : TRow w vb b) (ht : TOn 0 w (.slice (some ⟨tb, 0, none⟩) tn tcap) ts) (lp : p.length ≤ 1048576) (lb : b.length ≤ 1048576) (lt : ts.length ≤ 1048576) :
    Calls Try.prog 25 #[macV (.slice (some ⟨pb, 0, none⟩) pn pcap) sl vb, .slice (some ⟨tb, 0, none⟩) tn tcap] w fun e w' => ∃ v, e = .returned (.agg #[v, .int .i64 (mtU p sl b ts), .int .i64 (mtC p sl b ts)]) ∧ (∃ n vs, w'.ownsRow w.heap.size 32 1 v n vs ∧ AOf w.heap.size w' vs (mtL p sl b ts)) ∧ Below w.heap.size w w' := by
  have hpn : pn = p.length := by obtain ⟨_, _, _, e, _⟩ := hp; simp at e; exact e.2.1
  have htn : tn = ts.length := by obtain ⟨_, _, _, e, _⟩ := ht; simp at e; exact e.2.1
  have hpb : pb < w.heap.size := by obtain ⟨_, _, _, e, _, _, hb, _⟩ := hp; simp at e; rw [e.1.1]; exact hb
  have HP : Hid (TOn 0 w (.slice (some ⟨pb, 0, none⟩) pn pcap) p) := hp
  have HB : Hid (TRow w vb b) := hb
  have HT : Hid (TOn 0 w (.slice (some ⟨tb, 0, none⟩) tn tcap) ts) := ht
  obtain ⟨mb, hmb⟩ : ∃ mb, mb = macB p sl b := ⟨_, rfl⟩
  obtain ⟨lbb, hlb⟩ : ∃ lbb, lbb = lstB ts := ⟨_, rfl⟩
  have HMK : Hid (∀ W, Below w.heap.size w W → Calls Try.prog 46 #[macV (.slice (some ⟨pb, 0, none⟩) pn pcap) sl vb] W fun e w' => e = .returned (.bool mb) ∧ Below W.heap.size W w') := by
    intro W hW
    rw [hmb]
    exact specMacroOk_any (TRow.below (TOn.row HP) hW) (TRow.below HB hW) lp lb
  have HLK : Hid (∀ W, Below w.heap.size w W → Calls Try.prog 64 #[.slice (some ⟨tb, 0, none⟩) tn tcap] W fun e w' => e = .returned (.bool lbb) ∧ Below W.heap.size W w') := by
    intro W hW
    rw [hlb]
    exact l4TokensOk_any (TRow.below (TOn.row HT) hW) lt
  have BA : Hid (Below w.heap.size w ((w.alloc (.cells #[.slice (some ⟨pb, 0, none⟩) pn pcap, .int .i64 sl, vb] 34)).alloc (.cells #[.slice none 0 0, .int .i64 0, .int .i64 0] 59))) := (below1 w _).alloc (by simp) _
  have QA : Hid (((w.alloc (.cells #[.slice (some ⟨pb, 0, none⟩) pn pcap, .int .i64 sl, vb] 34)).alloc (.cells #[.slice none 0 0, .int .i64 0, .int .i64 0] 59)).heap[w.heap.size + 1]? = some (.cells #[.slice none 0 0, .int .i64 0, .int .i64 0] 59) ∧ ((w.alloc (.cells #[.slice (some ⟨pb, 0, none⟩) pn pcap, .int .i64 sl, vb] 34)).alloc (.cells #[.slice none 0 0, .int .i64 0, .int .i64 0] 59)).heap[w.heap.size]? = some (.cells #[.slice (some ⟨pb, 0, none⟩) pn pcap, .int .i64 sl, vb] 34)) := by
    have := heap_alloc_new (w.alloc (.cells #[.slice (some ⟨pb, 0, none⟩) pn pcap, .int .i64 sl, vb] 34)) (.cells #[.slice none 0 0, .int .i64 0, .int .i64 0] 59)
    rw [World.size_alloc] at this
    exact ⟨this, ((below1 _ _).block _ (by simp)).trans (heap_alloc_new _ _)⟩
  by_cases hok : macB p sl b = true ∧ lstB ts = true
  · have hM0 : mtC p sl b ts = (mat (pn + 1) p ts []).1 := by unfold mtC; rw [if_pos hok, hpn]
    obtain ⟨M, hM⟩ : ∃ M, M = mat (pn + 1) p ts [] := ⟨_, rfl⟩
    obtain ⟨U, hU⟩ : ∃ U, U = mtU p sl b ts := ⟨_, rfl⟩
    obtain ⟨L, hL⟩ : ∃ L, L = mtL p sl b ts := ⟨_, rfl⟩
    rw [hM0, ← hM, ← hU, ← hL]
    have HU : Hid (U = if M.1 = 0 then (tn : Int) - (M.2.2.length : Int) else 0) := by show U = _; rw [hU]; unfold mtU; rw [hM0, ← hpn, ← hM, htn]
    have HL : Hid (L = if M.1 = 0 then M.2.1 else []) := by show L = _; rw [hL]; unfold mtL; rw [hM0, ← hpn, ← hM]
    have HMM : Hid (M = mat (pn + 1) p ts []) := hM
    have lt20 : ts.length ≤ 20000 := by have := hok.2; unfold lstB at this; simp at this; omega
    have hp1000 : pn ≤ 1000 := by have := mac_pat hok.1; omega
    rw [hok.1] at hmb
    rw [hok.2] at hlb
    subst hmb hlb
    have hml : M.2.2.length ≤ tn := by rw [show M = _ from HMM, htn]; exact mat_len _ _ _ _
    have HTN : Hid (tn = ts.length) := htn
    have ht20 : tn ≤ 20000 := by omega
    clear hp hb ht hok hM hU hL hM0 hpn htn
    go_enter Try.func25, Try.ntmps25
    go_wp2_with fail
    refine (HMK _ BA).mono ?_
    rintro e w1 ⟨rfl, hb1⟩
    have B1 : Hid (Below w.heap.size w w1) := below_more BA hb1 (by simp; omega)
    have q1 : Hid (w1.heap[w.heap.size + 1]? = some (.cells #[.slice none 0 0, .int .i64 0, .int .i64 0] 59) ∧ w1.heap[w.heap.size]? = some (.cells #[.slice (some ⟨pb, 0, none⟩) pn pcap, .int .i64 sl, vb] 34)) := ⟨(hb1.block _ (by simp)).trans QA.1, (hb1.block _ (by simp; omega)).trans QA.2⟩
    have hz1 : w.heap.size + 1 < w1.heap.size := (Array.getElem?_eq_some_iff.1 q1.1).1
    clear hb1 BA QA HMK
    go_wp2_with fail
    refine (HLK _ B1).mono ?_
    rintro e w2 ⟨rfl, hb2⟩
    have B2 : Hid (Below w.heap.size w w2) := below_more B1 hb2 (Below.size B1)
    have q2 : Hid (w2.heap[w.heap.size + 1]? = some (.cells #[.slice none 0 0, .int .i64 0, .int .i64 0] 59) ∧ w2.heap[w.heap.size]? = some (.cells #[.slice (some ⟨pb, 0, none⟩) pn pcap, .int .i64 sl, vb] 34)) := ⟨(hb2.block _ hz1).trans q1.1, (hb2.block _ (by omega)).trans q1.2⟩
    have hz2 : w.heap.size + 1 < w2.heap.size := by have := hb2.size; omega
    clear hb2 q1 HLK hz1
    go_wp2_with fail
    refine (l4Turn_any (TRow.below (TOn.row HT) B2) (by omega)).mono ?_
    rintro e w3 ⟨rfl, ht3, hb3⟩
    rw [← show tn = ts.length from HTN] at ht3
    rw [← show tn = ts.length from HTN]
    have T3 : Hid (TOn w2.heap.size w3 (.slice (some ⟨w2.heap.size, 0, none⟩) tn tn) ts.reverse) := ht3
    have B3 : Hid (Below w.heap.size w w3) := below_more B2 hb3 (Below.size B2)
    have hz3 : w2.heap.size ≤ w3.heap.size := hb3.size
    have q3 : w3.heap[w.heap.size + 1]? = some (.cells #[.slice none 0 0, .int .i64 0, .int .i64 0] 59) ∧ w3.heap[w.heap.size]? = some (.cells #[.slice (some ⟨pb, 0, none⟩) pn pcap, .int .i64 sl, vb] 34) := ⟨(hb3.block _ hz2).trans q2.1, (hb3.block _ (by omega)).trans q2.2⟩
    have Q3 : Hid (w3.heap[w.heap.size + 1]? = some (.cells #[.slice none 0 0, .int .i64 0, .int .i64 0] 59) ∧ w3.heap[w.heap.size]? = some (.cells #[.slice (some ⟨pb, 0, none⟩) pn pcap, .int .i64 sl, vb] 34)) := q3
    have m0 : w3.cell? ⟨w.heap.size, 0, none⟩ = some (.slice (some ⟨pb, 0, none⟩) pn pcap) := by rw [cell_of_row w3 _ _ _ 34 _ q3.2]; rfl
    have m1 : w3.cell? ⟨w.heap.size, 1, none⟩ = some (.int .i64 sl) := by rw [cell_of_row w3 _ _ _ 34 _ q3.2]; rfl
    have m2 : w3.cell? ⟨w.heap.size, 2, none⟩ = some vb := by rw [cell_of_row w3 _ _ _ 34 _ q3.2]; rfl
    have hwz3 : w.heap.size < w3.heap.size := by omega
    clear hb3 ht3 q2 q3
    go_wp2_with fail
    obtain ⟨s, hs⟩ : ∃ s, s = w3.heap.size := ⟨_, rfl⟩
    obtain ⟨WS, hWS⟩ : ∃ W, W = w3.alloc (.cells (stC (.slice (some ⟨w2.heap.size, 0, none⟩) tn tn) 0) 105) := ⟨_, rfl⟩
    have BS : Hid (Below w3.heap.size w3 WS ∧ WS.heap.size = s + 1) := by rw [hWS, hs]; exact ⟨below1 _ _, by simp⟩
    have SS : Hid (St WS s ts 0) := by
      rw [hWS, hs]
      have ht3 := TOn.below T3 (below1 w3 (.cells (stC (.slice (some ⟨w2.heap.size, 0, none⟩) tn tn) 0) 105))
      rw [show tn = ts.length from HTN] at ht3 ⊢
      exact ⟨w2.heap.size, ts.length, by have h2 := show tn = ts.length from HTN; obtain ⟨_, _, _, e, _, _, hb, _⟩ := T3; simp at e; rw [e.1.1]; exact hb, heap_alloc_new _ _, ht3.mono (Nat.zero_le _)⟩
    have PS : Hid (TOn 0 WS (.slice (some ⟨pb, 0, none⟩) pn pcap) p) := TOn.below (TOn.below HP B3) BS.1
    have CS : Hid (Calls Try.prog 66 #[ptr s, macV (.slice (some ⟨pb, 0, none⟩) pn pcap) sl vb] WS fun e w' => ∃ v, e = .returned v ∧ ArgR WS w' s M v) := by rw [show M = _ from HMM]; exact l4Args_any SS lt20 PS (by omega) hp1000
    have hws : w.heap.size + 1 < s := by omega
    have hWS2 : WS = w3.alloc (.cells #[.slice none 0 0, .slice (some ⟨w2.heap.size, 0, none⟩) tn tn, .int .i64 0, .int .i64 0, .string ⟨#[]⟩, .int .i64 0, .int .i64 0, .slice none 0 0] 105) := hWS
    rw [← hWS2, ← hs]
    refine Calls.mono CS ?_
    rintro e w4 ⟨v, rfl, n, vs, hown, hne, hst, hao, hfr⟩
    obtain ⟨ra, rc, rfl⟩ := own1_shape hown
    have q4 : w4.heap[w.heap.size + 1]? = some (.cells #[.slice none 0 0, .int .i64 0, .int .i64 0] 59) := by rw [hfr.1.block _ hws, BS.1.block _ (by omega)]; exact Q3.1
    have d0 : w4.cell? ⟨w.heap.size + 1, 0, none⟩ = some (.slice none 0 0) := by rw [cell_of_row w4 _ _ _ 59 _ q4]; rfl
    have d1 : w4.cell? ⟨w.heap.size + 1, 1, none⟩ = some (.int .i64 0) := by rw [cell_of_row w4 _ _ _ 59 _ q4]; rfl
    have d2 : w4.cell? ⟨w.heap.size + 1, 2, none⟩ = some (.int .i64 0) := by rw [cell_of_row w4 _ _ _ 59 _ q4]; rfl
    have dz : ∀ o, w4.frozen? ⟨w.heap.size + 1, o, none⟩ = false := fun o => frozen_row q4 o
    have hrz : w.heap.size + 1 < w4.heap.size := (Array.getElem?_eq_some_iff.1 q4).1
    have hsz4 : s < w4.heap.size := St.lt hst
    have c3 := St.cell hst
    obtain ⟨ml, hmle⟩ : ∃ ml, ml = M.2.2.length := ⟨_, rfl⟩
    obtain ⟨ib, icap, c1⟩ : ∃ ib cap, w4.cell? ⟨s, 1, none⟩ = some (.slice (some ⟨ib, 0, none⟩) ml cap) := by
      obtain ⟨ib, cap, _, hh, _⟩ := hst
      rw [hmle]
      exact ⟨ib, cap, hh.cells.1⟩
    have BW : Hid (Below w.heap.size w w4) := (Below.trans B3 (BS.1.mono (by omega))).trans (hfr.1.mono (by omega))
    have FIN : Hid (M.1 = 0 → ∀ W : World, (∀ j, j ≠ w.heap.size + 1 → W.heap[j]? = w4.heap[j]?) → ∃ n' vs, W.ownsRow w.heap.size 32 1 (.slice ra n rc) n' vs ∧ AOf w.heap.size W vs M.2.1) := by
      intro h0 W hW
      refine ⟨n, vs, own1_mono (own1_keep hown (fun g hg _ => hW g (by have := BS.2; omega))) (by have := BS.2; omega), AOf.mono (by have := BS.2; omega) _ _ (AOf.keep (fun g cur hg _ => hW g (by have := BS.2; omega)) _ _ (hao h0))⟩
    have HUU : Hid (U = if M.1 = 0 then (tn : Int) - (ml : Int) else 0) := by rw [hmle]; exact HU
    rw [← hmle] at hml
    clear hown hne hst hao hfr q4 hmle hWS hWS2 hs CS SS PS BS HU Q3 T3 m0 m1 m2 hz3 hz2
    by_cases hM0 : M.1 = 0
    · rw [hM0] at c3
      have HM0 : Hid (M.1 = 0) := hM0
      have HUV : Hid (U = (tn : Int) - (ml : Int)) := by show U = _; rw [show U = _ from HUU, if_pos hM0]
      have HLV : Hid (L = M.2.1) := by show L = _; rw [show L = _ from HL, if_pos hM0]
      clear hM0
      go_wp2
      all_goals
        refine bodyPost_ret (v := .agg #[.slice ra n rc, .int .i64 ((tn : Int) - (ml : Int)), .int .i64 0]) (by simp [results, Try.results25, go_sem, d0, d1, d2]; try rfl) rfl ⟨.slice ra n rc, ?_, ?_, ?_⟩
        · rw [show U = _ from HUV, show M.1 = 0 from HM0]
        · rw [show L = _ from HLV]
          exact FIN HM0 _ (fun j hj => ((Below.heap_setCell _ ⟨w.heap.size + 1, 2, none⟩ _ _ hj).trans (Below.heap_setCell _ ⟨w.heap.size + 1, 1, none⟩ _ _ hj)).trans (Below.heap_setCell _ ⟨w.heap.size + 1, 0, none⟩ _ _ hj))
        · exact (((Below.setCell BW (p := ⟨w.heap.size + 1, 0, none⟩) (by simp) _).setCell (p := ⟨w.heap.size + 1, 1, none⟩) (by simp) _).setCell (p := ⟨w.heap.size + 1, 2, none⟩) (by simp) _)
    · have hMb : (M.1 == 0) = false := beq_eq_false_iff_ne.2 hM0
      have HUV : Hid (U = 0) := by show U = _; rw [show U = _ from HUU, if_neg hM0]
      have HLV : Hid (L = []) := by show L = _; rw [show L = _ from HL, if_neg hM0]
      go_wp2
      have BB := ((Below.setCell BW (p := ⟨w.heap.size + 1, 0, none⟩) (by simp) (.slice none 0 0)).setCell (p := ⟨w.heap.size + 1, 1, none⟩) (by simp) (.int .i64 0)).setCell (p := ⟨w.heap.size + 1, 2, none⟩) (by simp) (.int .i64 M.1)
      refine bodyPost_ret (v := .agg #[.slice none 0 0, .int .i64 0, .int .i64 M.1]) (by simp [results, Try.results25, go_sem, d0, d1, d2]; try rfl) rfl ⟨.slice none 0 0, ?_, ?_, BB⟩
      · rw [show U = _ from HUV]
      · rw [show L = _ from HLV]
        exact ⟨0, [], World.ownsRow_nil _ _ _ _, trivial⟩
  · have eC : mtC p sl b ts = 9 := by unfold mtC; rw [if_neg hok]
    have eU : mtU p sl b ts = 0 := by unfold mtU; rw [eC]; rfl
    have eL : mtL p sl b ts = [] := by unfold mtL; rw [eC]; rfl
    rw [eC, eU, eL]
    have hbad : mb = false ∨ (mb = true ∧ lbb = false) := by
      rw [hmb, hlb]
      rcases h1 : macB p sl b with _ | _
      · exact .inl rfl
      · rcases h2 : lstB ts with _ | _
        · exact .inr ⟨rfl, rfl⟩
        · exact absurd ⟨h1, h2⟩ hok
    clear hp hb ht hok hmb hlb hpn htn eC eU eL
    go_enter Try.func25, Try.ntmps25
    rcases hbad with rfl | ⟨rfl, rfl⟩
    · go_wp2_with fail
      refine (HMK _ BA).mono ?_
      rintro e w1 ⟨rfl, hb1⟩
      have B1 : Hid (Below w.heap.size w w1) := below_more BA hb1 (by simp; omega)
      have q1 : w1.heap[w.heap.size + 1]? = some (.cells #[.slice none 0 0, .int .i64 0, .int .i64 0] 59) := (hb1.block _ (by simp)).trans QA.1
      have d0 : w1.cell? ⟨w.heap.size + 1, 0, none⟩ = some (.slice none 0 0) := by rw [cell_of_row w1 _ _ _ 59 _ q1]; rfl
      have d1 : w1.cell? ⟨w.heap.size + 1, 1, none⟩ = some (.int .i64 0) := by rw [cell_of_row w1 _ _ _ 59 _ q1]; rfl
      have d2 : w1.cell? ⟨w.heap.size + 1, 2, none⟩ = some (.int .i64 0) := by rw [cell_of_row w1 _ _ _ 59 _ q1]; rfl
      have dz : ∀ o, w1.frozen? ⟨w.heap.size + 1, o, none⟩ = false := fun o => frozen_row q1 o
      have hrz : w.heap.size + 1 < w1.heap.size := (Array.getElem?_eq_some_iff.1 q1).1
      clear hb1 q1
      go_wp2
      have BB := ((Below.setCell B1 (p := ⟨w.heap.size + 1, 0, none⟩) (by simp) (.slice none 0 0)).setCell (p := ⟨w.heap.size + 1, 1, none⟩) (by simp) (.int .i64 0)).setCell (p := ⟨w.heap.size + 1, 2, none⟩) (by simp) (.int .i64 9)
      exact bodyPost_ret (v := .agg #[.slice none 0 0, .int .i64 0, .int .i64 9]) (by simp [results, Try.results25, go_sem, d0, d1, d2]; try rfl) rfl ⟨.slice none 0 0, rfl, ⟨0, [], World.ownsRow_nil _ _ _ _, trivial⟩, BB⟩
    · go_wp2_with fail
      refine (HMK _ BA).mono ?_
      rintro e w0 ⟨rfl, hb0⟩
      have B0 : Hid (Below w.heap.size w w0) := below_more BA hb0 (by simp; omega)
      have q0 : Hid (w0.heap[w.heap.size + 1]? = some (.cells #[.slice none 0 0, .int .i64 0, .int .i64 0] 59)) := (hb0.block _ (by simp)).trans QA.1
      have hrz0 : w.heap.size + 1 < w0.heap.size := (Array.getElem?_eq_some_iff.1 q0).1
      clear hb0
      go_wp2_with fail
      refine (HLK _ B0).mono ?_
      rintro e w1 ⟨rfl, hb1⟩
      have B1 : Hid (Below w.heap.size w w1) := below_more B0 hb1 (Below.size B0)
      have q1 : w1.heap[w.heap.size + 1]? = some (.cells #[.slice none 0 0, .int .i64 0, .int .i64 0] 59) := (hb1.block _ hrz0).trans q0
      have d0 : w1.cell? ⟨w.heap.size + 1, 0, none⟩ = some (.slice none 0 0) := by rw [cell_of_row w1 _ _ _ 59 _ q1]; rfl
      have d1 : w1.cell? ⟨w.heap.size + 1, 1, none⟩ = some (.int .i64 0) := by rw [cell_of_row w1 _ _ _ 59 _ q1]; rfl
      have d2 : w1.cell? ⟨w.heap.size + 1, 2, none⟩ = some (.int .i64 0) := by rw [cell_of_row w1 _ _ _ 59 _ q1]; rfl
      have dz : ∀ o, w1.frozen? ⟨w.heap.size + 1, o, none⟩ = false := fun o => frozen_row q1 o
      have hrz : w.heap.size + 1 < w1.heap.size := (Array.getElem?_eq_some_iff.1 q1).1
      clear hb1 q1 hrz0
      go_wp2
      have BB := ((Below.setCell B1 (p := ⟨w.heap.size + 1, 0, none⟩) (by simp) (.slice none 0 0)).setCell (p := ⟨w.heap.size + 1, 1, none⟩) (by simp) (.int .i64 0)).setCell (p := ⟨w.heap.size + 1, 2, none⟩) (by simp) (.int .i64 9)
      exact bodyPost_ret (v := .agg #[.slice none 0 0, .int .i64 0, .int .i64 9]) (by simp [results, Try.results25, go_sem, d0, d1, d2]; try rfl) rfl ⟨.slice none 0 0, rfl, ⟨0, [], World.ownsRow_nil _ _ _ _, trivial⟩, BB⟩
end Go.Proofs.Ytbceblgnjicdcaa
