/-
  The law of what is shared, as a walk.
-/
import Derived.Test.YtgfphgbemfmkfaaShs
import Derived.Test.YtgfphgbemfmkfaaDrT
import Derived.Test.YtgfphgbemfmkfaaOut
import Derived.Test.YtgfphgbemfmkfaaSumE
namespace Go.Proofs.Ytgfphgbemfmkfaa
open Go.RowKit
set_option linter.unusedVariables false
set_option linter.unusedSimpArgs false

set_option maxRecDepth 20000 in
set_option maxHeartbeats 2000000 in
theorem fits_any (x : Int) (w : World) : Calls Try.prog 9 #[.int .i64 x] w fun e w' => e = .returned (.bool (fitsB x)) ∧ w' = w := by
  by_cases h1 : -1073741823 ≤ x
  · by_cases h2 : x ≤ 1073741823
    · rw [show fitsB x = true from decide_eq_true ⟨h1, h2⟩]
      go_enter Try.func9, Try.ntmps9
      go_wp2
      go_ret
      exact ⟨rfl, rfl⟩
    · rw [show fitsB x = false from decide_eq_false (fun h => h2 h.2)]
      go_enter Try.func9, Try.ntmps9
      go_wp2
      go_ret
      exact ⟨rfl, rfl⟩
  · rw [show fitsB x = false from decide_eq_false (fun h => h1 h.1)]
    go_enter Try.func9, Try.ntmps9
    go_wp2
    go_ret
    exact ⟨rfl, rfl⟩

theorem below1 (w : World) (o : Obj) : Below w.heap.size w (w.alloc o) := (Below.refl _ _).alloc (Nat.le_refl _) _
theorem below_more {B : Nat} {w a b : World} (h : Below B w a) (hb : Below a.heap.size a b) (hB : B ≤ a.heap.size) : Below B w b := h.trans (hb.mono hB)
theorem wrap_add (a b : Int) : wrap64 (wrap64 a + b) = wrap64 (a + b) := by
  unfold wrap64
  omega

set_option maxRecDepth 20000 in
set_option maxHeartbeats 2000000 in
theorem lawSum_any {v : Value} {xs : List Int} {w : World} (h : Row w v xs) (hn : xs.length ≤ 1048576) : Calls Try.prog 10 #[v] w fun e w' => e = .returned (.int .i64 (wrap64 xs.sum)) ∧ w' = w := by
  obtain ⟨a, n, c, rfl, hl, hr⟩ := h
  have HR : Hid (0 < n → ∃ b off, a = some ⟨b, off, none⟩ ∧ b < w.heap.size ∧ ∀ i, i < n → w.cell? ⟨b, off + i, none⟩ = some (.int .i64 (xs.getD i 0))) := hr
  have HL : Hid (xs.length = n) := hl
  have hn2 : n ≤ 1048576 := by omega
  obtain ⟨S, hS⟩ : ∃ S, S = wrap64 xs.sum := ⟨_, rfl⟩
  have HS : Hid (S = wrap64 xs.sum) := hS
  rw [← hS]
  clear hr hl hS
  go_enter Try.func10, Try.ntmps10
  go_wp2_with fail
  go_loopw [3, 4] (fun sv iv wr => ∃ k : Nat, iv = .int .i64 (k : Int) ∧ k ≤ n ∧ sv = .int .i64 (wrap64 (xs.take k).sum) ∧ wr = w) (fun _ iv _ => n - (intOf iv).toNat)
  case atStart => exact ⟨0, rfl, Nat.zero_le _, by rw [List.take_zero, List.sum_nil, show wrap64 0 = 0 by unfold wrap64; omega], rfl⟩
  case round =>
    obtain ⟨k, rfl, hk, rfl, rfl⟩ := hrel
    obtain ⟨T, hT⟩ : ∃ T, T = wrap64 (xs.take k).sum := ⟨_, rfl⟩
    rw [← hT]
    by_cases hkn : k < n
    · have hki : (k : Int) < (n : Int) := by omega
      obtain ⟨b, off, rfl, hbz, hc⟩ := HR (by omega)
      have c0 := hc k hkn
      obtain ⟨z, hz⟩ : ∃ z, z = xs.getD k 0 := ⟨_, rfl⟩
      rw [← hz] at c0
      have HN : Hid (wrap64 (T + z) = wrap64 (xs.take (k + 1)).sum) := by
        show _ = _
        rw [hz]
        have hkx : k < xs.length := by have := show xs.length = n from HL; omega
        rw [hT, wrap_add, List.take_add_one, List.sum_append]
        simp [List.getD, List.getElem?_eq_getElem hkx]
      clear hT hc hz
      go_wp2
      go_roundw
      case rel => exact ⟨k + 1, by go_num, by omega, by rw [show wrap64 _ = _ from HN], by trivial⟩
      case measure => simp [intOf]; omega
    · have hki : ¬ (k : Int) < (n : Int) := by omega
      have hTS : T = S := by rw [hT, show S = _ from HS, List.take_of_length_le (by have := show xs.length = n from HL; omega)]
      subst hTS
      clear hT
      go_wp2
      go_ret
      exact ⟨rfl, rfl⟩

set_option maxRecDepth 20000 in
set_option maxHeartbeats 2000000 in
theorem lawBig_any (ao : Option Addr) (len cap : Nat) (w : World) (h : len ≤ 9223372036854775807) : Calls Try.prog 5 #[.slice ao len cap] w fun e w' => e = .returned (.bool (decide (1048576 < (len : Int)))) ∧ w' = w := by
  by_cases h1 : 1048576 < (len : Int)
  · rw [decide_eq_true h1]
    go_enter Try.func5, Try.ntmps5
    go_wp2
    go_ret
    exact ⟨rfl, rfl⟩
  · rw [decide_eq_false h1]
    go_enter Try.func5, Try.ntmps5
    go_wp2
    go_ret
    exact ⟨rfl, rfl⟩

def liveGs : List Gl := [⟨0, 5, 0, 0, 0⟩]
theorem live_ok : glsOk liveGs = true := by decide
theorem live_sign : ∃ s1 s2 s3 s4 s5 : Int, (shareS liveGs 7).v = setV 1 s1 s2 s3 s4 s5 := by
  have h := (share_facts (gs := liveGs) (q := 7) live_ok (by omega) (by omega)).up (by omega)
  exact ⟨_, _, _, _, _, by rw [← h.1]⟩

set_option maxRecDepth 20000 in
set_option maxHeartbeats 40000000 in
theorem lawShare_any (ao : Option Addr) (len cap : Nat) (w : World) (hlen : len ≤ 9223372036854775807) (hB : len ≤ 1048576 → Bytes w ao len cap) : Calls Try.prog 3 #[.slice ao len cap] w fun e w' => e = .returned (.bool true) ∧ Below w.heap.size w w' := by
  have HB := hideD hB
  clear hB
  go_enter Try.func3, Try.ntmps3
  go_wp2_with fail
  refine (lawBig_any ao len cap w hlen).mono ?_
  rintro e w0 ⟨rfl, hw0⟩
  obtain rfl := hw0.symm
  by_cases hbig : 1048576 < (len : Int)
  · rw [decide_eq_true hbig]
    go_wp2
    go_ret
    exact ⟨rfl, Below.refl _ _⟩
  · rw [decide_eq_false hbig]
    go_wp2_with fail
    refine (drawShare_any ao len cap w (HB.out (by omega))).mono ?_
    rintro e w1 ⟨v, gs, x, t, rfl, hgr, hg8, hx64, ht64, hb1⟩
    have G1 : Hid (GRow w1 v gs) := hgr
    have B1 : Hid (Below w.heap.size w w1) := hb1
    obtain ⟨ga, gn, gc, rfl, hgl, -⟩ := hgr
    have HGL : Hid (gs.length = gn) := hgl
    have hgn : gn ≤ 8 := by omega
    clear hb1 hgl
    go_wp2_with fail
    have GL : Hid (GRow (w1.alloc (.cells #[.int .i64 0, .int .i64 5, .int .i64 0, .int .i64 0, .int .i64 0] 33)) (.slice (some ⟨w1.heap.size, 0, none⟩) 1 1) liveGs) := by
      refine ⟨_, _, _, rfl, rfl, fun _ => ⟨w1.heap.size, 0, rfl, by simp, fun i hi => ?_⟩⟩
      obtain rfl : i = 0 := by omega
      have q := heap_alloc_new w1 (.cells #[.int .i64 0, .int .i64 5, .int .i64 0, .int .i64 0, .int .i64 0] 33)
      exact ⟨by rw [cell_of_row _ _ _ _ 33 _ q]; rfl, by rw [cell_of_row _ _ _ _ 33 _ q]; rfl, by rw [cell_of_row _ _ _ _ 33 _ q]; rfl, by rw [cell_of_row _ _ _ _ 33 _ q]; rfl, by rw [cell_of_row _ _ _ _ 33 _ q]; rfl⟩
    refine (implShare_ok 0 7 7 GL live_ok (by decide) (by decide) (by decide)).mono ?_
    rintro e w2 ⟨O, rfl, -, hb2⟩
    obtain ⟨s1, s2, s3, s4, s5, hs⟩ := live_sign
    rw [hs, show liveGs.length = 1 from rfl]
    have G2 : Hid (GRow w2 (.slice ga gn gc) gs) := GRow.below G1 (below_more (below1 _ _) hb2 (by simp))
    have B2 : Hid (Below w.heap.size w w2) := below_more B1 (below_more (below1 _ _) hb2 (by simp)) (Below.size B1)
    clear hb2 hs GL G1
    go_wp2_with fail
    obtain ⟨W2, hW2⟩ : ∃ W, W = w2.alloc (.cells #[.int .i64 1, .int .i64 s1, .int .i64 s2, .int .i64 s3, .int .i64 s4, .int .i64 s5] 29) := ⟨_, rfl⟩
    have BW2 : Hid (Below w2.heap.size w2 W2) := by rw [hW2]; exact below1 _ _
    have GW2 : Hid (GRow W2 (.slice ga gn gc) gs) := GRow.below G2 BW2
    have BB2 : Hid (Below w.heap.size w W2) := below_more B2 BW2 (Below.size B2)
    rw [← hW2]
    clear hW2 G2
    by_cases hall : glsOk gs = true ∧ fitsB x = true ∧ fitsB t = true
    · obtain ⟨q, hq⟩ : ∃ q, q = t - x - siz gs := ⟨_, rfl⟩
      have hfx := of_decide_eq_true hall.2.1
      have hft := of_decide_eq_true hall.2.2
      have heach := glsOk_each hall.1
      have hsb := siz_bound gs (fun k hk => (ok_bounds (heach.2 k hk)).1) gs.length (Nat.le_refl _)
      rw [List.take_length] at hsb
      have hNb : -8589934584 ≤ siz gs ∧ siz gs ≤ 8589934584 := by constructor <;> omega
      have HF : Hid (ShareFacts gs q) := share_facts hall.1 (by omega) (by omega)
      have HPB : Hid (∀ j, (-10737418230000 ≤ (tot Gl.p Gl.po gs).getD j 0 ∧ (tot Gl.p Gl.po gs).getD j 0 ≤ 10737418230000) ∧ (-10737418230000 ≤ (tot Gl.m Gl.mo gs).getD j 0 ∧ (tot Gl.m Gl.mo gs).getD j 0 ≤ 10737418230000)) := fun j => ⟨tot_have Gl.p Gl.po gs heach.1 (fun k hk => (ok_bounds (heach.2 k hk)).2.1) j, tot_have Gl.m Gl.mo gs heach.1 (fun k hk => (ok_bounds (heach.2 k hk)).2.2.1) j⟩
      refine (implShare_ok x t q GW2 hall.1 hall.2.1 hall.2.2 hq).mono ?_
      rintro e w3 ⟨O3, rfl, ho3, hb3⟩
      obtain ⟨ST, hST⟩ : ∃ ST, ST = shareS gs q := ⟨_, rfl⟩
      have HST : Hid (ST = shareS gs q) := hST
      rw [← hST, show gs.length = gn from HGL]
      obtain ⟨sg, so, sw, sh, sb, sv⟩ := ST
      rw [show (⟨sg, so, sw, sh, sb, sv⟩ : Sett).v = setV sg so sw sh sb sv from rfl]
      have G3 : Hid (GRow w3 (.slice ga gn gc) gs) := GRow.below GW2 hb3
      have B3 : Hid (Below w.heap.size w w3) := below_more BB2 hb3 (Below.size BB2)
      rw [show gs.length = gn from HGL] at ho3
      have O3' : Hid (w3.ownsRow W2.heap.size 2 1 (.slice (some ⟨O3, 0, none⟩) gn gn) gn ((shareL gs q).map (Value.int .i64))) := ho3
      have HOK : Hid (glsOk gs = true ∧ fitsB x = true ∧ fitsB t = true ∧ q = t - x - siz gs) := ⟨hall.1, hall.2.1, hall.2.2, hq⟩
      clear hb3 GW2 ho3 hST hall heach hsb hq
      go_wp2_with fail
      obtain ⟨S3, hS3⟩ : ∃ S, S = w3.heap.size := ⟨_, rfl⟩
      obtain ⟨W3, hW3⟩ : ∃ W, W = w3.alloc (.cells #[.int .i64 sg, .int .i64 so, .int .i64 sw, .int .i64 sh, .int .i64 sb, .int .i64 sv] 29) := ⟨_, rfl⟩
      have BW3 : Hid (Below w3.heap.size w3 W3 ∧ W3.heap[S3]? = some (setO sg so sw sh sb sv)) := by rw [hW3, hS3]; exact ⟨below1 _ _, heap_alloc_new _ _⟩
      have GW3 : Hid (GRow W3 (.slice ga gn gc) gs) := GRow.below G3 BW3.1
      have BB3 : Hid (Below w.heap.size w W3) := below_more B3 BW3.1 (Below.size B3)
      rw [← hW3, ← hS3]
      clear hW3 hS3
      refine (implSum_ok GW3 HOK.1).mono ?_
      rintro e w4 ⟨P, Q, rfl, hP, hQ, hPQ, hPz, hQz, hb4⟩
      have B4 : Hid (Below w.heap.size w w4) := below_more BB3 hb4 (Below.size BB3)
      have q4 : w4.heap[S3]? = some (setO sg so sw sh sb sv) := (hb4.block S3 (Array.getElem?_eq_some_iff.1 BW3.2).1).trans BW3.2
      obtain ⟨r0, r1, r2, r3, r4, r5⟩ := set_cells q4
      have hS4 : S3 < w4.heap.size := (Array.getElem?_eq_some_iff.1 q4).1
      have G4 : Hid (GRow w4 (.slice ga gn gc) gs) := GRow.below GW3 hb4
      have R4 : Hid (Row w4 (.slice (some ⟨O3, 0, none⟩) gn gn) (shareL gs q)) := by
        have h1 := owns_keep O3' (Below.trans BW3.1 (hb4.mono (Below.size BW3.1)))
        refine ⟨_, _, _, rfl, by rw [HF.len]; exact HGL, fun h0 => ⟨O3, 0, rfl, (World.ownsRow.lt h1 O3 rfl).2, fun i hi => ?_⟩⟩
        rw [Nat.zero_add]
        exact owns_cell h1 i hi
      obtain ⟨N, hN⟩ : ∃ N, N = siz gs := ⟨_, rfl⟩
      rw [← hN] at hNb
      rw [← hN]
      have HNN : Hid (N = siz gs) := hN
      clear hb4 GW3 q4 hN
      go_wp2_with fail
      refine (fits_any x _).mono ?_
      rintro e w5 ⟨rfl, hw5⟩
      obtain rfl := hw5.symm
      rw [HOK.2.1]
      go_wp2_with fail
      refine (fits_any t _).mono ?_
      rintro e w6 ⟨rfl, hw6⟩
      obtain rfl := hw6.symm
      rw [HOK.2.2.1]
      obtain ⟨A, hA⟩ : ∃ A, A = wrap64 (shareL gs q).sum := ⟨_, rfl⟩
      have HSUM : Hid (Calls Try.prog 10 #[.slice (some ⟨O3, 0, none⟩) gn gn] w4 fun e w' => e = .returned (.int .i64 A) ∧ w' = w4) := by rw [hA]; exact lawSum_any R4 (by rw [HF.len]; omega)
      go_wp2_with fail
      refine Calls.mono HSUM ?_
      rintro e w7 ⟨rfl, hw7⟩
      obtain rfl := hw7.symm
      have HA : Hid (A = wrap64 (shareL gs q).sum) := hA
      clear hA HSUM
      rcases Int.lt_trichotomy q 0 with hqn | hq0 | hqp
      · have hz := HF.down hqn
        have hqq := HOK.2.2.2
        rw [← show N = _ from HNN] at hqq
        have hsum := hz.2.2.2.2.1
        rw [← show _ = shareS gs q from HST] at hz hsum
        obtain ⟨hsg, hsw, hso, hsh, -, hv0, hv1⟩ := hz
        dsimp only at hsg hsw hso hsh hv0 hv1 hsum
        subst hsg
        obtain ⟨k0, hk0, hk3⟩ : ∃ k0 : Nat, so = (k0 : Int) ∧ k0 ≤ 3 := ⟨top (tot Gl.m Gl.mo gs), hso, top_le _⟩
        have cQ : w4.cell? ⟨Q, k0, none⟩ = some (.int .i64 sh) := by
          rw [cell_of_row w4 Q _ _ 53 _ hQ.1, hsh]
          have e : k0 = top (tot Gl.m Gl.mo gs) := by unfold ordOf at hso; omega
          unfold hvOf
          rw [← e]
          have hl := hQ.2
          simp [List.getD, List.getElem?_eq_getElem (show k0 < (tot Gl.m Gl.mo gs).length by omega)]
        have hQr : Q < w4.heap.size := (Array.getElem?_eq_some_iff.1 hQ.1).1
        have hA2 : A = N + q + sv := by rw [show A = _ from HA, hsum, ← show N = _ from HNN]; unfold wrap64; omega
        have hsw2 : sw = x + N - t := by omega
        subst hk0
        have hA3 : x + A = t + sv := by omega
        have hAb : -100000000000 ≤ A ∧ A ≤ 100000000000 := by omega
        have hsvb : 0 ≤ sv ∧ sv ≤ 100000000000 := by omega
        have hki0 : ((k0 : Nat) : Int) < 4 := by omega
        clear hsum hso hsh hsw hqq hA2 hv0 hv1
        subst hsw2
        have KEEP : Hid (∀ i, i < gn → (gs.getD i Gl.none).mo ≠ (k0 : Int) → (shareL gs q).getD i 0 = (gs.getD i Gl.none).s) := fun i hi hc => HF.keep i (by rw [show gs.length = gn from HGL]; exact hi) (by rw [← show _ = shareS gs q from HST]; exact .inr (.inr ⟨by show (-1 : Int) < 0; decide, hc⟩))
        go_wp2_with fail
        go_region
        all_goals
          clear r2 r3 r4 r5 cQ hA3 hAb hsvb hNb hfx hft hx64 ht64 hP hQ hPQ hPz hQz hQr HPB HNN HA BW3 B1 B2 BB2 BB3 BW2 G3 O3' B3 hki0 hk3 HF HOK HST hqn
          go_wp2_with fail
          go_loopw [14] (fun iv wr => ∃ k : Nat, iv = .int .i64 (k : Int) ∧ k ≤ gn ∧ Below w4.heap.size w4 wr) (fun iv _ => gn - (intOf iv).toNat)
          case atStart => exact ⟨0, rfl, Nat.zero_le _, by first | exact Below.refl _ _ | exact Below.drew (Below.refl _ _) | exact Below.drew (Below.drew (Below.refl _ _))⟩
          case round =>
            obtain ⟨k, rfl, hk, hbk⟩ := hrel
            have HBK : Hid (Below w4.heap.size w4 wr) := hbk
            have B5 : Hid (Below w.heap.size w wr) := below_more B4 hbk (Below.size B4)
            have m0 := (hbk.cell (p := ⟨S3, 0, none⟩) hS4).trans r0
            have m1 := (hbk.cell (p := ⟨S3, 1, none⟩) hS4).trans r1
            have hSr : S3 < wr.heap.size := Nat.lt_of_lt_of_le hS4 hbk.size
            by_cases hkn : k < gn
            · have hki : (k : Int) < (gn : Int) := by omega
              obtain ⟨ga', gn', gc', e, hgl', hgr⟩ := G4
              simp only [Value.slice.injEq] at e
              obtain ⟨rfl, rfl, rfl⟩ := e
              obtain ⟨gb, go, rfl, hgb, hgc⟩ := hgr (by omega)
              obtain ⟨f0, f1, f2, f3, f4⟩ := hgc k hkn
              obtain ⟨ra', rn', rc', e, hrl', hrr⟩ := R4
              simp only [Value.slice.injEq] at e
              obtain ⟨rfl, rfl, rfl⟩ := e
              obtain ⟨rb, ro, e, hrb, hrc⟩ := hrr (by omega)
              simp only [Option.some.injEq, Addr.mk.injEq, and_true] at e
              obtain ⟨rfl, rfl⟩ := e
              have l0 := hrc k hkn
              rw [Nat.zero_add] at l0
              have KK := KEEP k hkn
              obtain ⟨gg, hgg⟩ : ∃ gg, gg = gs.getD k Gl.none := ⟨_, rfl⟩
              obtain ⟨li, hli⟩ : ∃ li, li = (shareL gs q).getD k 0 := ⟨_, rfl⟩
              rw [← hgg] at f0 f2 f4 KK
              rw [← hli] at l0 KK
              have n0 := (hbk.cell (p := ⟨gb, go + k * 5, none⟩) hgb).trans f0
              have n2 := (hbk.cell (p := ⟨gb, go + k * 5 + 2, none⟩) hgb).trans f2
              have n4 := (hbk.cell (p := ⟨gb, go + k * 5 + 4, none⟩) hgb).trans f4
              have o0 := (hbk.cell (p := ⟨O3, k, none⟩) hrb).trans l0
              have hgbr : gb < wr.heap.size := Nat.lt_of_lt_of_le hgb hbk.size
              have hrbr : O3 < wr.heap.size := Nat.lt_of_lt_of_le hrb hbk.size
              obtain ⟨gs0, gp0, gpo0, gm0, gmo0⟩ := gg
              dsimp only at n0 n2 n4 KK
              have HKK : Hid (gmo0 ≠ (k0 : Int) → li = gs0) := KK
              clear f0 f1 f2 f3 f4 l0 hgc hrc hgr hrr hgg hli hbk KK hgl' hrl'
              by_cases hoo : gmo0 = (k0 : Int)
              · subst hoo
                go_wp2_with fail
                first | go_region | skip
                all_goals
                  go_wp2
                  go_roundw
                  case rel => exact ⟨k + 1, by go_num, by omega, by first | exact HBK | exact Below.drew HBK | exact Below.drew (Below.drew HBK)⟩
                  case measure => simp [intOf]; omega
              · have hle : li = gs0 := HKK hoo
                subst hle
                have hob : (gmo0 == (k0 : Int)) = false := beq_eq_false_iff_ne.2 hoo
                have hob2 : (gmo0 != (k0 : Int)) = true := by simp [bne, hob]
                have hob3 : decide (gmo0 = (k0 : Int)) = false := decide_eq_false hoo
                clear hoo
                go_wp2_with fail
                first | go_region | skip
                all_goals
                  go_wp2
                  go_roundw
                  case rel => exact ⟨k + 1, by go_num, by omega, by first | exact HBK | exact Below.drew HBK | exact Below.drew (Below.drew HBK)⟩
                  case measure => simp [intOf]; omega
            · have hki : ¬ (k : Int) < (gn : Int) := by omega
              obtain rfl : k = gn := by omega
              clear hbk
              go_wp2
              go_ret
              exact ⟨rfl, B5⟩
      · have hz := HF.zero hq0
        rw [← show _ = shareS gs q from HST] at hz
        obtain ⟨hsg, hsum⟩ := hz
        dsimp only at hsg
        subst hsg
        have hA2 : A = N := by rw [show A = _ from HA, hsum, ← show N = _ from HNN]; unfold wrap64; omega
        have hqq := HOK.2.2.2
        rw [← show N = _ from HNN] at hqq
        have hxt : x + N = t := by omega
        subst hA2
        clear hqq hsum
        go_wp2_with fail
        have KEEP : Hid (∀ i, i < gn → True → (shareL gs q).getD i 0 = (gs.getD i Gl.none).s) := fun i hi hc => HF.keep i (by rw [show gs.length = gn from HGL]; exact hi) (by rw [← show _ = shareS gs q from HST]; exact .inl rfl)
        go_loopw [14] (fun iv wr => ∃ k : Nat, iv = .int .i64 (k : Int) ∧ k ≤ gn ∧ Below w4.heap.size w4 wr) (fun iv _ => gn - (intOf iv).toNat)
        case atStart => exact ⟨0, rfl, Nat.zero_le _, by first | exact Below.refl _ _ | exact Below.drew (Below.refl _ _) | exact Below.drew (Below.drew (Below.refl _ _))⟩
        case round =>
          obtain ⟨k, rfl, hk, hbk⟩ := hrel
          have HBK : Hid (Below w4.heap.size w4 wr) := hbk
          have B5 : Hid (Below w.heap.size w wr) := below_more B4 hbk (Below.size B4)
          have m0 := (hbk.cell (p := ⟨S3, 0, none⟩) hS4).trans r0
          have m1 := (hbk.cell (p := ⟨S3, 1, none⟩) hS4).trans r1
          have hSr : S3 < wr.heap.size := Nat.lt_of_lt_of_le hS4 hbk.size
          by_cases hkn : k < gn
          · have hki : (k : Int) < (gn : Int) := by omega
            obtain ⟨ga', gn', gc', e, hgl', hgr⟩ := G4
            simp only [Value.slice.injEq] at e
            obtain ⟨rfl, rfl, rfl⟩ := e
            obtain ⟨gb, go, rfl, hgb, hgc⟩ := hgr (by omega)
            obtain ⟨f0, f1, f2, f3, f4⟩ := hgc k hkn
            obtain ⟨ra', rn', rc', e, hrl', hrr⟩ := R4
            simp only [Value.slice.injEq] at e
            obtain ⟨rfl, rfl, rfl⟩ := e
            obtain ⟨rb, ro, e, hrb, hrc⟩ := hrr (by omega)
            simp only [Option.some.injEq, Addr.mk.injEq, and_true] at e
            obtain ⟨rfl, rfl⟩ := e
            have l0 := hrc k hkn
            rw [Nat.zero_add] at l0
            have KK := KEEP k hkn
            obtain ⟨gg, hgg⟩ : ∃ gg, gg = gs.getD k Gl.none := ⟨_, rfl⟩
            obtain ⟨li, hli⟩ : ∃ li, li = (shareL gs q).getD k 0 := ⟨_, rfl⟩
            rw [← hgg] at f0 f2 f4 KK
            rw [← hli] at l0 KK
            have n0 := (hbk.cell (p := ⟨gb, go + k * 5, none⟩) hgb).trans f0
            have n2 := (hbk.cell (p := ⟨gb, go + k * 5 + 2, none⟩) hgb).trans f2
            have n4 := (hbk.cell (p := ⟨gb, go + k * 5 + 4, none⟩) hgb).trans f4
            have o0 := (hbk.cell (p := ⟨O3, k, none⟩) hrb).trans l0
            have hgbr : gb < wr.heap.size := Nat.lt_of_lt_of_le hgb hbk.size
            have hrbr : O3 < wr.heap.size := Nat.lt_of_lt_of_le hrb hbk.size
            obtain ⟨gs0, gp0, gpo0, gm0, gmo0⟩ := gg
            dsimp only at n0 n2 n4 KK
            have HKK : Hid (True → li = gs0) := KK
            clear f0 f1 f2 f3 f4 l0 hgc hrc hgr hrr hgg hli hbk KK hgl' hrl'
            have hle : li = gs0 := HKK trivial
            subst hle
            go_wp2_with fail
            first | go_region | skip
            all_goals
              go_wp2
              go_roundw
              case rel => exact ⟨k + 1, by go_num, by omega, by first | exact HBK | exact Below.drew HBK | exact Below.drew (Below.drew HBK)⟩
              case measure => simp [intOf]; omega
          · have hki : ¬ (k : Int) < (gn : Int) := by omega
            obtain rfl : k = gn := by omega
            clear hbk
            go_wp2
            go_ret
            exact ⟨rfl, B5⟩
      · have hz := HF.up hqp
        have hqq := HOK.2.2.2
        rw [← show N = _ from HNN] at hqq
        rw [← show _ = shareS gs q from HST] at hz
        obtain ⟨hsg, hsw, hso, hsh, hs1, hs2⟩ := hz
        dsimp only at hsg hsw hso hsh
        subst hsg
        obtain ⟨k0, hk0, hk3⟩ : ∃ k0 : Nat, so = (k0 : Int) ∧ k0 ≤ 3 := ⟨top (tot Gl.p Gl.po gs), hso, top_le _⟩
        have cP : w4.cell? ⟨P, k0, none⟩ = some (.int .i64 sh) := by
          rw [cell_of_row w4 P _ _ 53 _ hP.1, hsh]
          have e : k0 = top (tot Gl.p Gl.po gs) := by unfold ordOf at hso; omega
          unfold hvOf
          rw [← e]
          have hl := hP.2
          simp [List.getD, List.getElem?_eq_getElem (show k0 < (tot Gl.p Gl.po gs).length by omega)]
        have hPr : P < w4.heap.size := (Array.getElem?_eq_some_iff.1 hP.1).1
        have hshb : -10737418230000 ≤ sh ∧ sh ≤ 10737418230000 := by rw [hsh]; exact (HPB (top (tot Gl.p Gl.po gs))).1
        rw [← hsh] at hs1 hs2
        have hA2 : (0 < sh → A = N + q) ∧ (¬ 0 < sh → A = N) := by
          have hnn : N = siz gs := HNN
          rw [show A = _ from HA]
          refine ⟨fun h => ?_, fun h => ?_⟩
          · rw [hs1 h]; unfold wrap64; omega
          · rw [hs2 h]; unfold wrap64; omega
        have hsw2 : sw = t - x - N := by omega
        subst hk0
        have hki0 : ((k0 : Nat) : Int) < 4 := by omega
        have hcase : (0 < sh ∧ ¬ sh ≤ 0 ∧ x + A = t) ∨ (¬ 0 < sh ∧ sh ≤ 0 ∧ A = N) := by
          by_cases h : 0 < sh
          · have := hA2.1 h; exact .inl ⟨h, by omega, by omega⟩
          · exact .inr ⟨h, by omega, hA2.2 h⟩
        have hAb : -100000000000 ≤ A ∧ A ≤ 100000000000 := by
          by_cases h : 0 < sh
          · have := hA2.1 h; omega
          · have := hA2.2 h; omega
        clear hso hsh hsw hqq hA2 hs1 hs2
        subst hsw2
        have KEEP : Hid (∀ i, i < gn → (gs.getD i Gl.none).po ≠ (k0 : Int) → (shareL gs q).getD i 0 = (gs.getD i Gl.none).s) := fun i hi hc => HF.keep i (by rw [show gs.length = gn from HGL]; exact hi) (by rw [← show _ = shareS gs q from HST]; exact .inr (.inl ⟨by show (0 : Int) ≤ 1; decide, hc⟩))
        rcases hcase with ⟨hsp, hsn, hxA⟩ | ⟨hsp, hsn, hxA⟩
        · have hsb1 : decide (0 < sh) = true := decide_eq_true hsp
          have hsb2 : decide (sh ≤ 0) = false := decide_eq_false hsn
          go_wp2_with fail
          go_region
          clear r2 r3 r4 r5 cP hAb hNb hfx hft hx64 ht64 hP hQ hPQ hPz hQz hPr HPB HNN HA BW3 B1 B2 BB2 BB3 BW2 G3 O3' B3 hki0 hk3 HF HOK HST hqp hsp hsn hsb1 hsb2 hshb hxA
          go_wp2_with fail
          go_loopw [14] (fun iv wr => ∃ k : Nat, iv = .int .i64 (k : Int) ∧ k ≤ gn ∧ Below w4.heap.size w4 wr) (fun iv _ => gn - (intOf iv).toNat)
          case atStart => exact ⟨0, rfl, Nat.zero_le _, by first | exact Below.refl _ _ | exact Below.drew (Below.refl _ _) | exact Below.drew (Below.drew (Below.refl _ _))⟩
          case round =>
            obtain ⟨k, rfl, hk, hbk⟩ := hrel
            have HBK : Hid (Below w4.heap.size w4 wr) := hbk
            have B5 : Hid (Below w.heap.size w wr) := below_more B4 hbk (Below.size B4)
            have m0 := (hbk.cell (p := ⟨S3, 0, none⟩) hS4).trans r0
            have m1 := (hbk.cell (p := ⟨S3, 1, none⟩) hS4).trans r1
            have hSr : S3 < wr.heap.size := Nat.lt_of_lt_of_le hS4 hbk.size
            by_cases hkn : k < gn
            · have hki : (k : Int) < (gn : Int) := by omega
              obtain ⟨ga', gn', gc', e, hgl', hgr⟩ := G4
              simp only [Value.slice.injEq] at e
              obtain ⟨rfl, rfl, rfl⟩ := e
              obtain ⟨gb, go, rfl, hgb, hgc⟩ := hgr (by omega)
              obtain ⟨f0, f1, f2, f3, f4⟩ := hgc k hkn
              obtain ⟨ra', rn', rc', e, hrl', hrr⟩ := R4
              simp only [Value.slice.injEq] at e
              obtain ⟨rfl, rfl, rfl⟩ := e
              obtain ⟨rb, ro, e, hrb, hrc⟩ := hrr (by omega)
              simp only [Option.some.injEq, Addr.mk.injEq, and_true] at e
              obtain ⟨rfl, rfl⟩ := e
              have l0 := hrc k hkn
              rw [Nat.zero_add] at l0
              have KK := KEEP k hkn
              obtain ⟨gg, hgg⟩ : ∃ gg, gg = gs.getD k Gl.none := ⟨_, rfl⟩
              obtain ⟨li, hli⟩ : ∃ li, li = (shareL gs q).getD k 0 := ⟨_, rfl⟩
              rw [← hgg] at f0 f2 f4 KK
              rw [← hli] at l0 KK
              have n0 := (hbk.cell (p := ⟨gb, go + k * 5, none⟩) hgb).trans f0
              have n2 := (hbk.cell (p := ⟨gb, go + k * 5 + 2, none⟩) hgb).trans f2
              have n4 := (hbk.cell (p := ⟨gb, go + k * 5 + 4, none⟩) hgb).trans f4
              have o0 := (hbk.cell (p := ⟨O3, k, none⟩) hrb).trans l0
              have hgbr : gb < wr.heap.size := Nat.lt_of_lt_of_le hgb hbk.size
              have hrbr : O3 < wr.heap.size := Nat.lt_of_lt_of_le hrb hbk.size
              obtain ⟨gs0, gp0, gpo0, gm0, gmo0⟩ := gg
              dsimp only at n0 n2 n4 KK
              have HKK : Hid (gpo0 ≠ (k0 : Int) → li = gs0) := KK
              clear f0 f1 f2 f3 f4 l0 hgc hrc hgr hrr hgg hli hbk KK hgl' hrl'
              by_cases hoo : gpo0 = (k0 : Int)
              · subst hoo
                go_wp2_with fail
                first | go_region | skip
                all_goals
                  go_wp2
                  go_roundw
                  case rel => exact ⟨k + 1, by go_num, by omega, by first | exact HBK | exact Below.drew HBK | exact Below.drew (Below.drew HBK)⟩
                  case measure => simp [intOf]; omega
              · have hle : li = gs0 := HKK hoo
                subst hle
                have hob : (gpo0 == (k0 : Int)) = false := beq_eq_false_iff_ne.2 hoo
                have hob2 : (gpo0 != (k0 : Int)) = true := by simp [bne, hob]
                have hob3 : decide (gpo0 = (k0 : Int)) = false := decide_eq_false hoo
                clear hoo
                go_wp2_with fail
                first | go_region | skip
                all_goals
                  go_wp2
                  go_roundw
                  case rel => exact ⟨k + 1, by go_num, by omega, by first | exact HBK | exact Below.drew HBK | exact Below.drew (Below.drew HBK)⟩
                  case measure => simp [intOf]; omega
            · have hki : ¬ (k : Int) < (gn : Int) := by omega
              obtain rfl : k = gn := by omega
              clear hbk
              go_wp2
              go_ret
              exact ⟨rfl, B5⟩
        · subst hxA
          have hsb1 : decide (0 < sh) = false := decide_eq_false hsp
          have hsb2 : decide (sh ≤ 0) = true := decide_eq_true hsn
          go_wp2_with fail
          go_region
          clear r2 r3 r4 r5 cP hAb hNb hfx hft hx64 ht64 hP hQ hPQ hPz hQz hPr HPB HNN HA BW3 B1 B2 BB2 BB3 BW2 G3 O3' B3 hki0 hk3 HF HOK HST hqp hsp hsn hsb1 hsb2 hshb 
          go_wp2_with fail
          go_loopw [14] (fun iv wr => ∃ k : Nat, iv = .int .i64 (k : Int) ∧ k ≤ gn ∧ Below w4.heap.size w4 wr) (fun iv _ => gn - (intOf iv).toNat)
          case atStart => exact ⟨0, rfl, Nat.zero_le _, by first | exact Below.refl _ _ | exact Below.drew (Below.refl _ _) | exact Below.drew (Below.drew (Below.refl _ _))⟩
          case round =>
            obtain ⟨k, rfl, hk, hbk⟩ := hrel
            have HBK : Hid (Below w4.heap.size w4 wr) := hbk
            have B5 : Hid (Below w.heap.size w wr) := below_more B4 hbk (Below.size B4)
            have m0 := (hbk.cell (p := ⟨S3, 0, none⟩) hS4).trans r0
            have m1 := (hbk.cell (p := ⟨S3, 1, none⟩) hS4).trans r1
            have hSr : S3 < wr.heap.size := Nat.lt_of_lt_of_le hS4 hbk.size
            by_cases hkn : k < gn
            · have hki : (k : Int) < (gn : Int) := by omega
              obtain ⟨ga', gn', gc', e, hgl', hgr⟩ := G4
              simp only [Value.slice.injEq] at e
              obtain ⟨rfl, rfl, rfl⟩ := e
              obtain ⟨gb, go, rfl, hgb, hgc⟩ := hgr (by omega)
              obtain ⟨f0, f1, f2, f3, f4⟩ := hgc k hkn
              obtain ⟨ra', rn', rc', e, hrl', hrr⟩ := R4
              simp only [Value.slice.injEq] at e
              obtain ⟨rfl, rfl, rfl⟩ := e
              obtain ⟨rb, ro, e, hrb, hrc⟩ := hrr (by omega)
              simp only [Option.some.injEq, Addr.mk.injEq, and_true] at e
              obtain ⟨rfl, rfl⟩ := e
              have l0 := hrc k hkn
              rw [Nat.zero_add] at l0
              have KK := KEEP k hkn
              obtain ⟨gg, hgg⟩ : ∃ gg, gg = gs.getD k Gl.none := ⟨_, rfl⟩
              obtain ⟨li, hli⟩ : ∃ li, li = (shareL gs q).getD k 0 := ⟨_, rfl⟩
              rw [← hgg] at f0 f2 f4 KK
              rw [← hli] at l0 KK
              have n0 := (hbk.cell (p := ⟨gb, go + k * 5, none⟩) hgb).trans f0
              have n2 := (hbk.cell (p := ⟨gb, go + k * 5 + 2, none⟩) hgb).trans f2
              have n4 := (hbk.cell (p := ⟨gb, go + k * 5 + 4, none⟩) hgb).trans f4
              have o0 := (hbk.cell (p := ⟨O3, k, none⟩) hrb).trans l0
              have hgbr : gb < wr.heap.size := Nat.lt_of_lt_of_le hgb hbk.size
              have hrbr : O3 < wr.heap.size := Nat.lt_of_lt_of_le hrb hbk.size
              obtain ⟨gs0, gp0, gpo0, gm0, gmo0⟩ := gg
              dsimp only at n0 n2 n4 KK
              have HKK : Hid (gpo0 ≠ (k0 : Int) → li = gs0) := KK
              clear f0 f1 f2 f3 f4 l0 hgc hrc hgr hrr hgg hli hbk KK hgl' hrl'
              by_cases hoo : gpo0 = (k0 : Int)
              · subst hoo
                go_wp2_with fail
                first | go_region | skip
                all_goals
                  go_wp2
                  go_roundw
                  case rel => exact ⟨k + 1, by go_num, by omega, by first | exact HBK | exact Below.drew HBK | exact Below.drew (Below.drew HBK)⟩
                  case measure => simp [intOf]; omega
              · have hle : li = gs0 := HKK hoo
                subst hle
                have hob : (gpo0 == (k0 : Int)) = false := beq_eq_false_iff_ne.2 hoo
                have hob2 : (gpo0 != (k0 : Int)) = true := by simp [bne, hob]
                have hob3 : decide (gpo0 = (k0 : Int)) = false := decide_eq_false hoo
                clear hoo
                go_wp2_with fail
                first | go_region | skip
                all_goals
                  go_wp2
                  go_roundw
                  case rel => exact ⟨k + 1, by go_num, by omega, by first | exact HBK | exact Below.drew HBK | exact Below.drew (Below.drew HBK)⟩
                  case measure => simp [intOf]; omega
            · have hki : ¬ (k : Int) < (gn : Int) := by omega
              obtain rfl : k = gn := by omega
              clear hbk
              go_wp2
              go_ret
              exact ⟨rfl, B5⟩
    · refine (implShare_no x t GW2 (by omega) hall).mono ?_
      rintro e w3 ⟨rfl, hb3⟩
      have G3 : Hid (GRow w3 (.slice ga gn gc) gs) := GRow.below GW2 hb3
      have B3 : Hid (Below w.heap.size w w3) := below_more BB2 hb3 (Below.size BB2)
      clear hb3 GW2
      go_wp2_with fail
      obtain ⟨S3, hS3⟩ : ∃ S, S = w3.heap.size := ⟨_, rfl⟩
      obtain ⟨W3, hW3⟩ : ∃ W, W = w3.alloc (.cells #[.int .i64 0, .int .i64 0, .int .i64 0, .int .i64 0, .int .i64 0, .int .i64 0] 29) := ⟨_, rfl⟩
      have BW3 : Hid (Below w3.heap.size w3 W3 ∧ W3.heap[S3]? = some (setO 0 0 0 0 0 0)) := by rw [hW3, hS3]; exact ⟨below1 _ _, heap_alloc_new _ _⟩
      have GW3 : Hid (GRow W3 (.slice ga gn gc) gs) := GRow.below G3 BW3.1
      have BB3 : Hid (Below w.heap.size w W3) := below_more B3 BW3.1 (Below.size B3)
      have FT : Hid (∀ W, Calls Try.prog 9 #[.int .i64 x] W fun e w' => e = .returned (.bool (fitsB x)) ∧ w' = W) := fun W => fits_any x W
      have FT2 : Hid (∀ W, Calls Try.prog 9 #[.int .i64 t] W fun e w' => e = .returned (.bool (fitsB t)) ∧ w' = W) := fun W => fits_any t W
      rw [← hW3, ← hS3]
      clear hW3 hS3
      cases hok : glsOk gs with
      | false =>
        refine (implSum_no GW3 (by omega) hok).mono ?_
        rintro e w4 ⟨rfl, hb4⟩
        have B4 : Hid (Below w.heap.size w w4) := below_more BB3 hb4 (Below.size BB3)
        have q4 : w4.heap[S3]? = some (setO 0 0 0 0 0 0) := (hb4.block S3 (Array.getElem?_eq_some_iff.1 BW3.2).1).trans BW3.2
        obtain ⟨r0, r1, r2, r3, r4, r5⟩ := set_cells q4
        clear hb4 hok hall GW3 q4
        go_wp2
        go_ret
        exact ⟨rfl, B4⟩
      | true =>
        refine (implSum_ok GW3 hok).mono ?_
        rintro e w4 ⟨P, Q, rfl, -, -, -, -, -, hb4⟩
        have B4 : Hid (Below w.heap.size w w4) := below_more BB3 hb4 (Below.size BB3)
        have q4 : w4.heap[S3]? = some (setO 0 0 0 0 0 0) := (hb4.block S3 (Array.getElem?_eq_some_iff.1 BW3.2).1).trans BW3.2
        obtain ⟨r0, r1, r2, r3, r4, r5⟩ := set_cells q4
        obtain ⟨fx, hfx⟩ : ∃ f, f = fitsB x := ⟨_, rfl⟩
        obtain ⟨ft, hft⟩ : ∃ f, f = fitsB t := ⟨_, rfl⟩
        rw [← hfx] at FT
        rw [← hft] at FT2
        obtain ⟨N, hN⟩ : ∃ N, N = siz gs := ⟨_, rfl⟩
        rw [← hN]
        have hno : fx = false ∨ (fx = true ∧ ft = false) := by
          rw [hfx, hft]
          rcases h1 : fitsB x with _ | _
          · exact .inl rfl
          · rcases h2 : fitsB t with _ | _
            · exact .inr ⟨rfl, rfl⟩
            · exact absurd ⟨hok, h1, h2⟩ hall
        clear hb4 hok hall GW3 q4 hfx hft hN
        rcases hno with rfl | ⟨rfl, rfl⟩
        · go_wp2_with fail
          refine (FT _).mono ?_
          rintro e w5 ⟨rfl, hw5⟩
          obtain rfl := hw5.symm
          go_wp2
          go_ret
          exact ⟨rfl, B4⟩
        · go_wp2_with fail
          refine (FT _).mono ?_
          rintro e w5 ⟨rfl, hw5⟩
          obtain rfl := hw5.symm
          go_wp2_with fail
          refine (FT2 _).mono ?_
          rintro e w6 ⟨rfl, hw6⟩
          obtain rfl := hw6.symm
          go_wp2
          go_ret
          exact ⟨rfl, B4⟩
end Go.Proofs.Ytgfphgbemfmkfaa
