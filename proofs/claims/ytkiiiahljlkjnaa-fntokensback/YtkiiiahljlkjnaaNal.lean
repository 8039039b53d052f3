/-
  Tokens one by one are those of the whole text, and of its beginnings.
-/
import Derived.Test.YtkiiiahljlkjnaaSam
import Derived.Test.YtkiiiahljlkjnaaPre
import Derived.Test.YtkiiiahljlkjnaaDtk
namespace Go.Proofs.Ytkiiiahljlkjnaa
open Go.RowKit
set_option linter.unusedVariables false
set_option linter.unusedSimpArgs false

theorem big_any (ao : Option Addr) (len cap : Nat) (w : World) (hl : len ≤ 9223372036854775807) : Calls Try.prog 7 #[.slice ao len cap] w fun e w' => e = .returned (.bool (decide (1048576 < len))) ∧ w' = w := by
  go_enter Try.func7, Try.ntmps7
  go_wp2
  go_ret
  refine ⟨retB ?_, rfl⟩
  first | rfl | (apply decide_eq_decide.2; omega) | (simp; omega)
theorem field0 (a b c e f : Int) (d : ByteArray) (w : World) : (Instr.field 36 (.agg #[.int .i64 a, .int .i64 b, .int .i64 c, .string d, .int .i64 e, .int .i64 f]) 0).run Try.prog w = .ok (.int .i64 a) w := by rfl
/-- A scan in its box. -/
def BoxS (wr : World) (B : Nat) (cs : Array Value) : Prop := wr.heap[B]? = some (.cells cs 36 (0, 0))
theorem BoxS.at {wr : World} {B : Nat} {v0 v1 v2 v3 v4 v5 : Value} (h : BoxS wr B #[v0, v1, v2, v3, v4, v5]) : wr.cell? ⟨B, 0, none⟩ = some v0 ∧ wr.cell? ⟨B, 1, none⟩ = some v1 ∧ wr.cell? ⟨B, 2, none⟩ = some v2 ∧ wr.cell? ⟨B, 3, none⟩ = some v3 ∧ wr.cell? ⟨B, 4, none⟩ = some v4 ∧ wr.cell? ⟨B, 5, none⟩ = some v5 := by
  refine ⟨?_, ?_, ?_, ?_, ?_, ?_⟩ <;> (rw [cell_of_row _ _ _ _ _ _ h]; rfl)

set_option maxRecDepth 20000 in
set_option maxHeartbeats 16000000 in
theorem nextAll_any (ao : Option Addr) (len cap : Nat) (ao2 : Option Addr) (len2 cap2 : Nat) (w : World) (hB : len ≤ 1048576 → Bytes w ao len cap) (hl1 : len ≤ 9223372036854775807) (hl2 : len2 ≤ 9223372036854775807) :
    Calls Try.prog 4 #[.slice ao len cap, .slice ao2 len2 cap2] w fun e w' => e = .returned (.bool true) ∧ Below w.heap.size w w' := by
  have HB := hideP hB
  have CB1 := hideP (big_any ao len cap w hl1)
  have CB2 := hideP (big_any ao2 len2 cap2 w hl2)
  obtain ⟨b1, hb1⟩ : ∃ b, b = decide (1048576 < len) := ⟨_, rfl⟩
  obtain ⟨b2, hb2⟩ : ∃ b, b = decide (1048576 < len2) := ⟨_, rfl⟩
  rw [← hb1] at CB1
  rw [← hb2] at CB2
  have HB1 := hideP hb1
  clear hB hb1 hb2
  go_enter Try.func4, Try.ntmps4
  go_wp2_with fail
  refine CB1.out.mono ?_
  rintro e w' ⟨rfl, hw⟩
  have hw2 := hw.symm
  subst hw2
  cases b1 with
  | true =>
    go_wp2
    go_ret
    exact ⟨rfl, Below.refl _ _⟩
  | false =>
  go_wp2_with fail
  refine CB2.out.mono ?_
  rintro e w'' ⟨rfl, hw⟩
  have hw2 := hw.symm
  subst hw2
  cases b2 with
  | true =>
    go_wp2
    go_ret
    exact ⟨rfl, Below.refl _ _⟩
  | false =>
  have HLE : Hid (len ≤ 1048576) := hideP (by have h := HB1.out; simp at h; omega)
  go_wp2_with fail
  refine (drawTok_any ao len cap w (HB.out HLE.out)).mono ?_
  rintro e w1 ⟨⟨g, n, c, zs, s, rfl, hrow, hs⟩, hbw1⟩
  have R1 := hideP hrow
  have D1 := hideP hbw1
  clear hrow hbw1 CB1 CB2 HB
  have CT : Hid (∀ W S, Row W (.slice (some ⟨g, 0, none⟩) n c) zs → Calls Try.prog 9 #[.slice (some ⟨g, 0, none⟩) n c, .string S] W fun e w' => (∃ t c', e = .returned (.tuple #[.slice t (tokS zs S).1.length c', .int .i64 (tokS zs S).2]) ∧ w'.ownsRow W.heap.size 34 3 (.slice t (tokS zs S).1.length c') (tokS zs S).1.length (flat (tokS zs S).1)) ∧ Below W.heap.size W w') := hideP (fun W S hW => (implTokenize_any hW).mono (fun e w' hh => by
    obtain ⟨⟨u, rfl, ho⟩, hb⟩ := hh
    obtain ⟨a, c', rfl⟩ := ownG_shape ho
    exact ⟨⟨a, c', rfl, ho⟩, hb⟩))
  have CI : Hid (∀ W a st, Row W (.slice (some ⟨g, 0, none⟩) n c) zs → Calls Try.prog 13 #[.slice (some ⟨g, 0, none⟩) n c, .string s, .int .i64 a, .int .i64 st] W fun e w' => e = .returned (scV (nextS zs s a st)) ∧ Below W.heap.size W w') := hideP (fun W a st hW => implNext_any hW)
  obtain ⟨T, hT⟩ : ∃ T, T = (tokS zs s).1 := ⟨_, rfl⟩
  obtain ⟨r, hr⟩ : ∃ r, r = (tokS zs s).2 := ⟨_, rfl⟩
  obtain ⟨m, hm⟩ : ∃ m, m = T.length := ⟨_, rfl⟩
  have hml : m ≤ 65536 := by rw [hm, hT]; exact tokS_len zs s
  have CT1 := hideP (CT.out w1 s R1.out)
  rw [← hT, ← hr, ← hm] at CT1
  have HT := hideP hT
  have HR := hideP hr
  have HM := hideP hm
  clear hT hr hm
  go_wp2_with fail
  refine CT1.out.mono ?_
  rintro e w2 ⟨⟨t, c2, rfl, ho2⟩, hbw2⟩
  have O2 := hideP ho2
  have hmc : m ≤ c2 := by
    rcases ho2.2 with ⟨h, h0⟩ | ⟨g', c', cur, h, _, _, h5, _⟩
    · omega
    · injection h with e1 e2 e3
      omega
  have D2 := hideP (below_more D1.out hbw2 D1.out.size)
  have R2 := hideP (R1.out.below hbw2)
  clear ho2 hbw2 CT1 R1
  by_cases hok : catsB zs = true ∧ s.size ≤ 65536
  · have ET : Hid (T = (tks zs s 0 0).1 ∧ r = (tks zs s 0 0).2) := hideP (by rw [HT.out, HR.out]; unfold tokS; rw [if_pos hok]; exact ⟨rfl, rfl⟩)
    have HK := hideP hok
    have hs16 : s.size ≤ 65536 := hok.2
    clear hok
    have LAST : Hid (∀ x, x = nxt zs s (wlk zs s m).1 (wlk zs s m).2 → (x.k = 0 ∧ r = -1) ∨ (x.k = 2 ∧ r = x.a - 1 ∧ 1 ≤ x.a)) := hideP (fun x hx => by
      rw [HM.out, ET.out.1] at hx
      rw [ET.out.2]
      exact wlk_last hx)
    have hr2 : r ≠ -2 := by
      rcases LAST.out _ rfl with ⟨_, h⟩ | ⟨_, h, h2⟩ <;> omega
    have hr2b : (r == -2) = false := by simp [hr2]
    have hr2d : decide (r = -2) = false := by simp [hr2]
    have WAT : Hid (∀ i, i ≤ m → (wlk zs s i).1 ≤ s.size ∧ 0 ≤ (wlk zs s i).2 ∧ (wlk zs s i).2 ≤ 2) := hideP (fun i hi => by
      obtain ⟨h1, h2, h3, _⟩ := wlk_at zs s i (by rw [HM.out, ET.out.1] at hi; exact hi)
      exact ⟨h1, h2, h3⟩)
    have WMO : Hid (∀ i, i < m → (nxt zs s (wlk zs s i).1 (wlk zs s i).2).k = 1 ∧ tkOf (nxt zs s (wlk zs s i).1 (wlk zs s i).2) = T.getD i Tk.none ∧ (nxt zs s (wlk zs s i).1 (wlk zs s i).2).a = ((wlk zs s (i + 1)).1 : Int) ∧ (wlk zs s i).1 < (wlk zs s (i + 1)).1) := hideP (fun i hi => by
      have h := wlk_more (zs := zs) (s := s) (i := i) (by rw [HM.out, ET.out.1] at hi; exact hi)
      rw [← ET.out.1] at h
      exact h)
    have WBE : Hid (∀ k, k ≤ m → tokS zs (beg s (wlk zs s k).1) = (T.take k, -1)) := hideP (fun k hk => by
      have hk2 : k ≤ (tks zs s 0 0).1.length := by rw [HM.out, ET.out.1] at hk; exact hk
      have h := tks_beg hk2 k 0 (by omega)
      have hsz := (WAT.out k hk).1
      unfold tokS
      rw [if_pos ⟨HK.out.1, by rw [beg_size hsz]; omega⟩, ET.out.1]
      simpa [wlk] using h)
    have CX : Hid (∀ W i, i ≤ m → Row W (.slice (some ⟨g, 0, none⟩) n c) zs → Calls Try.prog 13 #[.slice (some ⟨g, 0, none⟩) n c, .string s, .int .i64 ((wlk zs s i).1 : Int), .int .i64 (wlk zs s i).2] W fun e w' => e = .returned (scV (nxt zs s (wlk zs s i).1 (wlk zs s i).2)) ∧ Below W.heap.size W w') := hideP (fun W i hi hW => (CI.out W _ _ hW).mono (fun e w' hh => by
      obtain ⟨rfl, hb⟩ := hh
      obtain ⟨h1, h2, h3⟩ := WAT.out i hi
      refine ⟨?_, hb⟩
      unfold nextS
      rw [if_pos ⟨HK.out.1, HK.out.2, by omega, by omega, h2, h3⟩, Int.toNat_natCast]))
    clear CI
    go_wp2
    go_loopw [9, 10, 11, 12, 13] (fun va vs vc vk vi wr => ∃ (i k : Nat), i ≤ m ∧ k ≤ i ∧ va = .int .i64 ((wlk zs s i).1 : Int) ∧ vs = .int .i64 (wlk zs s i).2 ∧ vc = .int .i64 ((wlk zs s k).1 : Int) ∧ vk = .int .i64 (k : Int) ∧ vi = .int .i64 (i : Int) ∧ Hid (Below w2.heap.size w2 wr)) (fun _ _ _ _ vi _ => m + 1 - (intOf vi).toNat)
    case atStart => exact ⟨0, 0, by omega, by omega, rfl, rfl, rfl, rfl, rfl, hideP (Below.refl _ _)⟩
    case round =>
      obtain ⟨i, k, hi, hk, rfl, rfl, rfl, rfl, rfl, B2⟩ := hrel
      have hii : (i : Int) ≤ (m : Int) := by omega
      have CXi := hideP (CX.out wr i hi (R2.out.below B2.out))
      have LI : Hid (i = m → ∀ x, x = nxt zs s (wlk zs s i).1 (wlk zs s i).2 → (x.k = 0 ∧ r = -1) ∨ (x.k = 2 ∧ r = x.a - 1 ∧ 1 ≤ x.a)) := hideP (fun e x hx => LAST.out x (by rw [← e]; exact hx))
      have MI := hideP (fun h => WMO.out i h)
      have ES : Hid (∀ x, x = nxt zs s (wlk zs s i).1 (wlk zs s i).2 → x.s = (wlk zs s (i + 1)).2) := hideP (fun x hx => by rw [hx]; rfl)
      obtain ⟨x, hx⟩ : ∃ x, x = nxt zs s (wlk zs s i).1 (wlk zs s i).2 := ⟨_, rfl⟩
      have ES2 := ES.out x hx
      have HXA0 : Hid (∃ n : Nat, x.a = n ∧ n ≤ s.size) := hideP (by
        obtain ⟨h1, h2, h3⟩ := WAT.out i hi
        obtain ⟨_, q, q2, q3, _⟩ := nxt_place zs s (s.size - (wlk zs s i).1) (wlk zs s i).1 (wlk zs s i).2 h1 (Nat.le_refl _)
        rw [← hx] at q2
        exact ⟨q, q2, q3⟩)
      have LI2 : Hid (i = m → (x.k = 0 ∧ r = -1) ∨ (x.k = 2 ∧ r = x.a - 1 ∧ 1 ≤ x.a)) := hideP (fun e => LI.out e x hx)
      rw [← hx] at CXi MI
      clear hx LI ES
      have hal : (wlk zs s i).1 ≤ 65536 := by have := (WAT.out i hi).1; omega
      obtain ⟨at0, hat0⟩ : ∃ a, a = (wlk zs s i).1 := ⟨_, rfl⟩
      obtain ⟨st0, hst0⟩ : ∃ a, a = (wlk zs s i).2 := ⟨_, rfl⟩
      rw [← hat0] at CXi MI hal ⊢
      rw [← hst0] at CXi ⊢
      obtain ⟨xk, xc, xh, xn, xa, xs⟩ := x
      simp only [scV] at CXi
      simp only at ES2 LI2
      have HXA : Hid (xa ≤ 65536) := hideP (by obtain ⟨q, q2, q3⟩ := HXA0.out; simp only at q2; omega)
      have HA0 := hideP hat0
      have HS0 := hideP hst0
      have HES := hideP ES2
      clear hat0 hst0 ES2
      go_wp2_with fail
      refine CXi.out.mono ?_
      rintro e w3 ⟨rfl, hb3⟩
      obtain ⟨W3, hW3⟩ : ∃ W, W = w3.alloc (.cells #[.int .i64 xk, .int .i64 xc, .int .i64 xh, .string xn, .int .i64 xa, .int .i64 xs] 36) := ⟨_, rfl⟩
      have B3 : Hid (Below w2.heap.size w2 w3) := hideP (below_more B2.out hb3 B2.out.size)
      have B5 : Hid (Below w2.heap.size w2 W3) := hideP (by rw [hW3]; exact below_more B3.out (below1 _ _) B3.out.size)
      have hz3 : w2.heap.size ≤ w3.heap.size := B3.out.size
      have HW3 := hideP hW3
      clear hb3 CXi hW3
      by_cases him : i = m
      · have himb : ((i : Int) == (m : Int)) = true := by simp [him]
        have himd : decide ((i : Int) = (m : Int)) = true := by simp [him]
        have hk16 : k ≤ m := by omega
        rcases LI2.out him with ⟨y1, y2⟩ | ⟨y1, y2, y3⟩
        · subst y1
          subst y2
          clear him
          have hcs := (WAT.out k (by omega)).1
          have BE := WBE.out k (by omega)
          have CTk := hideP (CT.out _ (beg s (wlk zs s k).1) (R2.out.below B5.out))
          rw [BE] at CTk
          have hkl : (T.take k).length = k := by rw [List.length_take, ← HM.out]; omega
          simp only [hkl] at CTk
          obtain ⟨cut, hcut⟩ : ∃ cut, cut = (wlk zs s k).1 := ⟨_, rfl⟩
          rw [← hcut] at CTk hcs ⊢
          unfold beg at CTk
          have HKL := hideP hkl
          clear hkl BE hcut
          have j1 : (cut : Int) ≤ (s.size : Int) := by omega
          have j2 : (k : Int) ≤ (m : Int) := by omega
          have j3 : (k : Int) ≤ (c2 : Int) := by omega
          go_wp2_with fail
          rw [← HW3.out]
          refine CTk.out.mono ?_
          rintro e w6 ⟨⟨tu, cu, rfl, ho6⟩, hb6⟩
          have B6 := hideP (below_more B5.out hb6 B5.out.size)
          have D6 := hideP (D2.out.trans (B6.out.mono D2.out.size))
          have T6 : Hid (TRow w6 (.slice tu k cu) (T.take k)) := hideP (by have h := own_n ho6; exact h.row)
          have V6 : Hid (TRow w6 (.slice t k c2) (T.take k)) := hideP (TRow.take (own_n (own_below O2.out B6.out)).row hk16)
          clear ho6 hb6 CTk
          have CSA := hideP (sameTokens_same T6.out V6.out (by rw [HKL.out]; omega))
          go_wp2_with fail
          refine CSA.out.mono ?_
          rintro e w7 ⟨rfl, hb7⟩
          have D7 := hideP (below_more D6.out hb7 D6.out.size)
          clear hb7
          go_wp2
          go_ret
          exact ⟨rfl, D7.out⟩
        · subst y1
          clear him
          have z1 : (r == -1) = false := by simp; omega
          have z2 : decide (r = -1) = false := by simp; omega
          have z3 : (0 : Int) ≤ r := by omega
          have z4 : xa = r + 1 := by omega
          have z5 : r ≤ 65536 := by
            have h1 := HXA.out
            omega
          clear y2 y3
          subst z4
          have hcs := (WAT.out k (by omega)).1
          have BE := WBE.out k (by omega)
          have CTk := hideP (CT.out _ (beg s (wlk zs s k).1) (R2.out.below B5.out))
          rw [BE] at CTk
          have hkl : (T.take k).length = k := by rw [List.length_take, ← HM.out]; omega
          simp only [hkl] at CTk
          obtain ⟨cut, hcut⟩ : ∃ cut, cut = (wlk zs s k).1 := ⟨_, rfl⟩
          rw [← hcut] at CTk hcs ⊢
          unfold beg at CTk
          have HKL := hideP hkl
          clear hkl BE hcut
          have j1 : (cut : Int) ≤ (s.size : Int) := by omega
          have j2 : (k : Int) ≤ (m : Int) := by omega
          have j3 : (k : Int) ≤ (c2 : Int) := by omega
          go_wp2_with fail
          rw [← HW3.out]
          refine CTk.out.mono ?_
          rintro e w6 ⟨⟨tu, cu, rfl, ho6⟩, hb6⟩
          have B6 := hideP (below_more B5.out hb6 B5.out.size)
          have D6 := hideP (D2.out.trans (B6.out.mono D2.out.size))
          have T6 : Hid (TRow w6 (.slice tu k cu) (T.take k)) := hideP (by have h := own_n ho6; exact h.row)
          have V6 : Hid (TRow w6 (.slice t k c2) (T.take k)) := hideP (TRow.take (own_n (own_below O2.out B6.out)).row hk16)
          clear ho6 hb6 CTk
          have CSA := hideP (sameTokens_same T6.out V6.out (by rw [HKL.out]; omega))
          go_wp2_with fail
          refine CSA.out.mono ?_
          rintro e w7 ⟨rfl, hb7⟩
          have D7 := hideP (below_more D6.out hb7 D6.out.size)
          clear hb7
          go_wp2
          go_ret
          exact ⟨rfl, D7.out⟩
      · have hlt : i < m := by omega
        have himb : ((i : Int) == (m : Int)) = false := by simp; omega
        have himd : decide ((i : Int) = (m : Int)) = false := by simp; omega
        have himi : (i : Int) < (m : Int) := by omega
        obtain ⟨y1, y2, y3, y4⟩ := MI.out hlt
        subst y1
        have TR : TRow W3 (.slice t m c2) T := (own_n (own_below O2.out B5.out)).row
        obtain ⟨ao3, n3, cap3, e3, hn3, hr3⟩ := TR
        injection e3 with e31 e32 e33
        subst e31
        subst e32
        subst e33
        obtain ⟨bt, ot, rfl, hbt, hct⟩ := hr3 (by omega)
        obtain ⟨q0, q1, q2⟩ := hct i hlt
        rw [← y2] at q0 q1 q2
        simp only [tkOf] at q0 q1 q2
        have BX : BoxS W3 w3.heap.size #[.int .i64 1, .int .i64 xc, .int .i64 xh, .string xn, .int .i64 xa, .int .i64 xs] := by rw [HW3.out]; exact heap_alloc_new _ _
        obtain ⟨p0, p1, p2, p3, p4, p5⟩ := BX.at
        have hz5 : w3.heap.size < W3.heap.size := (Array.getElem?_eq_some_iff.1 BX).1
        have hnq := neqTok xc xh xn
        have HA1 : Hid ((wlk zs s (i + 1)).1 ≤ 65536) := hideP (by have := (WAT.out (i + 1) (by omega)).1; omega)
        obtain ⟨at1, hat1⟩ : ∃ a, a = (wlk zs s (i + 1)).1 := ⟨_, rfl⟩
        rw [← hat1] at y3 y4 HA1
        have HAT1 := hideP hat1
        subst y3
        have l1 : ¬ ((at1 : Int) ≤ (at0 : Int)) := by omega
        have l2 : decide ((at1 : Int) ≤ (at0 : Int)) = false := by simp; omega
        have B6 : Hid (Below w2.heap.size w2 W3.drew) := hideP B5.out.drew
        have HXS : Hid (xs = (wlk zs s (i + 1)).2) := HES
        clear y2 hat1 hct hr3 BX hn3 HES MI LI2
        go_wp2_with fail
        rw [← HW3.out]
        by_cases hmo : i < len2
        · have hmi : (i : Int) < (len2 : Int) := by omega
          have hmd : decide ((i : Int) < (len2 : Int)) = true := by simp; omega
          go_region
          go_wp2
          go_roundw
          case rel => exact ⟨i + 1, i + 1, by omega, by omega, by rw [HAT1.out], by rw [HXS.out], by rw [HAT1.out], by go_num, by go_num, B6⟩
          case measure => simp [intOf]; omega
        · have hmi : ¬ (i : Int) < (len2 : Int) := by omega
          have hmd : decide ((i : Int) < (len2 : Int)) = false := by simp; omega
          go_region
          go_wp2
          go_roundw
          case rel => exact ⟨i + 1, k, by omega, by omega, by rw [HAT1.out], by rw [HXS.out], rfl, rfl, by go_num, B6⟩
          case measure => simp [intOf]; omega
  · have ET : Hid (T = [] ∧ r = -2) := hideP (by rw [HT.out, HR.out]; unfold tokS; rw [if_neg hok]; exact ⟨rfl, rfl⟩)
    have hr2 := ET.out.2
    subst hr2
    have CX := hideP (CI.out w2 0 0 R2.out)
    have EN : nextS zs s 0 0 = ⟨3, 0, 0, ByteArray.empty, 0, 0⟩ := by
      unfold nextS
      rw [if_neg (fun hh => hok ⟨hh.1, hh.2.1⟩)]
    rw [EN] at CX
    simp only [scV] at CX
    clear EN hok ET
    go_wp2_with fail
    refine CX.out.mono ?_
    rintro e w3 ⟨rfl, hb3⟩
    have D3 := hideP (below_more D2.out hb3 D2.out.size)
    clear hb3
    have hf0 := field0 3 0 0 0 0 ByteArray.empty
    go_wp2
    go_ret
    exact ⟨rfl, D3.out⟩
end Go.Proofs.Ytkiiiahljlkjnaa
