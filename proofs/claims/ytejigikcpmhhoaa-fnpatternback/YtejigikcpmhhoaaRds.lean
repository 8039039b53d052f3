/-
  The specification's ReadPattern.
-/
import Derived.Test.YtejigikcpmhhoaaRdi
import Derived.Test.YtejigikcpmhhoaaSho
import Derived.Deep.RegionWith
namespace Go.Proofs.Ytejigikcpmhhoaa
open Go.RowKit
set_option linter.unusedVariables false
set_option linter.unusedSimpArgs false

theorem digit_any (x : Int) (w : World) (h0 : 0 ≤ x) (hc : x ≤ 255) : Calls Try.prog 39 #[.int .u8 x] w fun e w' => e = .returned (.bool (decide (48 ≤ x ∧ x ≤ 57))) ∧ w' = w := by
  by_cases h1 : 48 ≤ x
  · by_cases h2 : x ≤ 57
    · rw [show decide (48 ≤ x ∧ x ≤ 57) = true by simp [h1, h2]]
      have e1 : decide (48 ≤ x) = true := by simp; omega
      have e2 : decide (x ≤ 57) = true := by simp; omega
      clear h1 h2 hc
      go_enter Try.func39, Try.ntmps39
      go_wp2
      go_ret
      exact ⟨rfl, rfl⟩
    · rw [show decide (48 ≤ x ∧ x ≤ 57) = false by simp [h2]]
      have e1 : decide (48 ≤ x) = true := by simp; omega
      have e2 : decide (x ≤ 57) = false := by simp; omega
      clear h1 h2 hc
      go_enter Try.func39, Try.ntmps39
      go_wp2
      go_ret
      exact ⟨rfl, rfl⟩
  · rw [show decide (48 ≤ x ∧ x ≤ 57) = false by simp [h1]]
    have e1 : decide (48 ≤ x) = false := by simp; omega
    clear h1 hc
    go_enter Try.func39, Try.ntmps39
    go_wp2
    go_ret
    exact ⟨rfl, rfl⟩

/-- What the loop of the specification's ReadPattern has in memory. -/
def RdT (w wr : World) (T : ByteArray) (m : Value) (n : Nat) (ls : List UInt8) (ms : List Int) : Prop :=
  ls.length = n ∧ ms.length = n ∧ T = ⟨ls.toArray⟩ ∧ wr.ownsRow w.heap.size 2 1 m n (ms.map (Value.int .i64)) ∧
  wr.heap[w.heap.size]? = some (.cells #[.string ⟨#[]⟩, .slice none 0 0] 26 (0, 0)) ∧ wr.heap[w.heap.size + 1]? = some (.cells #[.string T, m] 26 (0, 0)) ∧ Below w.heap.size w wr

theorem rdt_start (w : World) : RdT w ((w.alloc (.cells #[.string ⟨#[]⟩, .slice none 0 0] 26)).alloc (.cells #[.string ⟨#[]⟩, .slice none 0 0] 26)) ⟨#[]⟩ (.slice none 0 0) 0 [] [] :=
  ⟨rfl, rfl, rfl, World.ownsRow_nil _ _ _ _, blockA (heap_alloc_last w _) _, heap_last2 w _ _, below2 w _ _⟩

set_option maxRecDepth 100000 in
set_option maxHeartbeats 4000000 in
theorem specRead_own (s : ByteArray) (w : World) (hs : s.size ≤ 9223372036854775807) :
    Calls Try.prog 19 #[.string s] w fun e w' => ∃ v, e = .returned (.tuple #[patV (rdS s) v, .bool (rdB s)]) ∧ w'.ownsRow w.heap.size 2 1 v (rdM s).length ((rdM s).map (Value.int .i64)) ∧ Below w.heap.size w w' := by
  by_cases h41 : s.size ≤ 41
  rotate_left
  · have e1 : decide (41 < (s.size : Int)) = true := by simp; omega
    have HN := hideP (readR_long (s := s) (by omega))
    clear h41
    go_enter Try.func19, Try.ntmps19
    go_wp2
    obtain ⟨n0, n1, n2⟩ := read_none HN.out
    exact bodyPost_ret (v := .tuple #[patV ⟨#[]⟩ (.slice none 0 0), .bool false]) (by simp [results, Try.results19, go_sem]) rfl ⟨.slice none 0 0, by rw [n0, n2], by rw [n1]; exact World.ownsRow_nil _ _ _ _, below2 _ _ _⟩
  · have e1 : decide (41 < (s.size : Int)) = false := by simp; omega
    have HS := hideP (rdt_start w)
    obtain ⟨i2, hi2, hy0, hy1, hy2⟩ := info_parts Try.info2
    have HI2 := hideP (And.intro hi2 (And.intro hy0 (And.intro hy1 hy2)))
    clear hi2 hy0 hy1 hy2
    go_enter Try.func19, Try.ntmps19
    go_wp2
    go_loopw [5, 6] (fun d i wr => ∃ (k n : Nat) (ls : List UInt8) (ms : List Int) (mk : Int) (T : ByteArray) (ao : Option Addr) (cap : Nat), k ≤ s.size ∧ i = .int .i64 k ∧ d = .int .i64 mk ∧ -1 ≤ mk ∧ mk ≤ 9 ∧ n ≤ k ∧
        Hid (RdT w wr T (.slice ao n cap) n ls ms) ∧ Hid (rd [] [] (-1) s.data.toList = rd ls ms mk (s.data.toList.drop k))) (fun _ i _ => s.size - (intOf i).toNat)
    case atStart => exact ⟨0, 0, [], [], -1, ⟨#[]⟩, none, 0, by omega, rfl, rfl, by omega, by omega, by simp, HS, hideP rfl⟩
    case round =>
      obtain ⟨k, n, ls, ms, mk, T, ao, cap, hk, rfl, rfl, hmk, hmk9, hnk, HM, HR⟩ := hrel
      clear HS
      have hP := HM.out.2.2.2.2.2.1
      have hRb := HM.out.2.2.2.2.1
      obtain ⟨p0, p1, hPz⟩ := two_at hP
      obtain ⟨r0, r1, hRz⟩ := two_at hRb
      have pf0 : wr.frozen? ⟨w.heap.size + 1, 0, none⟩ = false := frozen_of_row wr _ _ _ _ hP
      have pf1 : wr.frozen? ⟨w.heap.size + 1, 1, none⟩ = false := frozen_of_row wr _ _ _ _ hP
      have rf0 : wr.frozen? ⟨w.heap.size, 0, none⟩ = false := frozen_of_row wr _ _ _ _ hRb
      have rf1 : wr.frozen? ⟨w.heap.size, 1, none⟩ = false := frozen_of_row wr _ _ _ _ hRb
      have HP := hideP hP
      have HRB := hideP hRb
      clear hP hRb
      by_cases hlt : k < s.size
      · have hki : (k : Int) < (s.size : Int) := by omega
        obtain ⟨x, hx⟩ : ∃ x : Int, x = (byteAt s k : Int) := ⟨_, rfl⟩
        have hb : ((s[k]'hlt).toNat : Int) = x := by rw [hx, byteAt_get s k hlt]
        have hx0 : 0 ≤ x := by omega
        have hx1 : x ≤ 255 := by have := byteAt_le s k; omega
        have HX := hideP hx
        have HD := hideP (drop_at s hlt)
        clear hx
        by_cases hd : 48 ≤ x ∧ x ≤ 57
        · have c1 : Hid (∀ W, Calls Try.prog 39 #[.int .u8 x] W fun e w' => e = .returned (.bool true) ∧ w' = W) := hideP (fun W => by have := digit_any x W hx0 hx1; rw [show decide (48 ≤ x ∧ x ≤ 57) = true by simp [hd]] at this; exact this)
          have HDG : Hid (isDig (s.data.toList.getD k 0)) := hideP (dig_of.2 (by have := HX.out; omega))
          obtain ⟨hd0, hd1⟩ := hd
          by_cases hm0 : 0 ≤ mk
          · have HN : Hid (readR s = none) := hideP (readR_none (by rw [HR.out, HD.out, rd_two HDG.out hm0]))
            have HT := hideP (two_at (two_set HRB.out (.string ⟨#[]⟩) (.slice none 0 0)))
            have HBW := hideP HM.out.2.2.2.2.2.2
            have f1 : decide (0 ≤ mk) = true := by simp [hm0]
            clear HM hm0
            go_wp2_with fail
            refine (c1.out _).mono ?_
            rintro e wx ⟨rfl, hw⟩
            have hw2 := hw.symm
            subst hw2
            go_wp2
            obtain ⟨n0, n1, n2⟩ := read_none HN.out
            obtain ⟨t0, t1, t2⟩ := HT.out
            have hB3 := Below.setCell (Below.setCell HBW.out (p := ⟨w.heap.size, 0, none⟩) (by simp) (.string ⟨#[]⟩)) (p := ⟨w.heap.size, 1, none⟩) (by simp) (.slice none 0 0)
            generalize ((wr.setCell ⟨w.heap.size, 0, none⟩ (.string ⟨#[]⟩)).setCell ⟨w.heap.size, 1, none⟩ (.slice none 0 0)) = W at t0 t1 t2 hB3 ⊢
            exact bodyPost_ret (v := .tuple #[patV ⟨#[]⟩ (.slice none 0 0), .bool false]) (by simp [results, Try.results19, go_sem, t0, t1]) rfl ⟨.slice none 0 0, by rw [n0, n2], by rw [n1]; exact World.ownsRow_nil _ _ _ _, hB3⟩
          · obtain rfl : mk = -1 := by omega
            go_wp2_with fail
            refine (c1.out _).mono ?_
            rintro e wx ⟨rfl, hw⟩
            have hw2 := hw.symm
            subst hw2
            go_wp2
            go_roundw
            case rel => exact ⟨k + 1, n, ls, ms, x - 48, T, ao, cap, by omega, by go_num, rfl, by omega, by omega, by omega, HM, hideP (by rw [HR.out, HD.out, rd_digit HDG.out (by omega)]; congr 1; rw [HX.out]; rfl)⟩
            case measure => simp [intOf]; omega
        · have c1 : Hid (∀ W, Calls Try.prog 39 #[.int .u8 x] W fun e w' => e = .returned (.bool false) ∧ w' = W) := hideP (fun W => by have := digit_any x W hx0 hx1; rw [show decide (48 ≤ x ∧ x ≤ 57) = false by simp; omega] at this; exact this)
          have HDG : Hid (¬ isDig (s.data.toList.getD k 0)) := hideP (fun h => hd (by have := dig_of.1 h; have := HX.out; omega))
          clear hd
          have hTs : T.size = n := by rw [HM.out.2.2.1, ← HM.out.1]; rfl
          obtain ⟨L, hL⟩ : ∃ L, L = s.extract k (k + 1) := ⟨_, rfl⟩
          have HL : Hid (T ++ L = ⟨(ls ++ [s.data.toList.getD k 0]).toArray⟩) := hideP (by rw [HM.out.2.2.1, hL, let_text hlt, join_text]; simp [letB, hlt])
          have hls : L.size ≤ 1 := by rw [hL, size_extract s k (k + 1) (by omega)]; omega
          have hsum : ¬ 9223372036854775807 < T.size + L.size := by omega
          have hLb := hL.symm
          clear hL hTs
          go_wp2_with fail
          refine (c1.out _).mono ?_
          rintro e wx ⟨rfl, hw⟩
          have hw2 := hw.symm
          subst hw2
          go_wp2_with fail
          have hwr : IntKind.i64.wrap ((k : Int) + 1) = ((k + 1 : Nat) : Int) := by rw [IntKind.wrap_i64]; omega
          have hk1 : k + 1 ≤ s.size := by omega
          have hk2 : ((k + 1 : Nat) : Int) ≤ (s.size : Int) := by omega
          have H1 : Hid ((wr.setCell ⟨w.heap.size + 1, 0, none⟩ (.string (T ++ L))).drew.ownsRow w.heap.size 2 1 (.slice ao n cap) n (ms.map (Value.int .i64)) ∧ (wr.setCell ⟨w.heap.size + 1, 0, none⟩ (.string (T ++ L))).drew.heap[w.heap.size]? = some (.cells #[.string ⟨#[]⟩, .slice none 0 0] 26 (0, 0)) ∧
              (wr.setCell ⟨w.heap.size + 1, 0, none⟩ (.string (T ++ L))).drew.heap[w.heap.size + 1]? = some (.cells #[.string (T ++ L), .slice ao n cap] 26 (0, 0)) ∧ Below w.heap.size w (wr.setCell ⟨w.heap.size + 1, 0, none⟩ (.string (T ++ L))).drew) := hideP
            ⟨(own_put HM.out.2.2.2.1 (R := w.heap.size + 1) HP.out (by decide)).drew, (Below.heap_setCell wr _ _ _ (by simp)).trans HRB.out, heap_setCell_same wr _ 0 _ _ _ HP.out, (HM.out.2.2.2.2.2.2.setCell (by simp) _).drew⟩
          go_region_with fail
          all_goals
            clear p0 p1 r0 r1 pf0 pf1 rf0 rf1 hPz hRz
            generalize ((wr.setCell ⟨w.heap.size + 1, 0, none⟩ (.string (T ++ L))).drew) = W1 at H1 ⊢
            have hP := H1.out.2.2.1
            obtain ⟨p0, p1, hPz⟩ := two_at hP
            have pf1 : W1.frozen? ⟨w.heap.size + 1, 1, none⟩ = false := frozen_of_row W1 _ _ _ _ hP
            clear hP
            by_cases hneg : mk < 0
            · have HZ : Hid (zmk mk = 0) := hideP (by simp [zmk, hneg])
              go_wp2_with (at_builtin; refine wpList_append_own _ rfl _ _ 24 rfl w.heap.size 2 i2 (.int .i64 0) 1 8 Try.underlying24 HI2.out.1 HI2.out.2.1 HI2.out.2.2.1 HI2.out.2.2.2 rfl (by decide) _ _ _ rfl (H1.out.1.alloc _) ⟨W1.heap.size, 0, none⟩ 1 1 [.int .i64 0] rfl rfl (cell_one W1 _ _) (by intro u hu; simp at hu; subst hu; rfl) (by unfold maxLen; omega) (by omega) (by simp; have := Below.size H1.out.2.2.2; omega) ?_)
              intro v' w2 hown' hgrow0 hnil
              obtain ⟨gv, cv, rfl, hbv, hlv⟩ := own_shape hown' (by omega)
              have hP2 := keep_grown (H1.out.1.alloc _) hgrow0 (blockA H1.out.2.2.1 _) (fun c he => by injection he with _ h3; exact absurd h3 (by decide))
              have hR2 := keep_grown (H1.out.1.alloc _) hgrow0 (blockA H1.out.2.1 _) (fun c he => by injection he with _ h3; exact absurd h3 (by decide))
              obtain ⟨u0, u1, huz⟩ := two_at hP2
              have uf1 : w2.frozen? ⟨w.heap.size + 1, 1, none⟩ = false := frozen_of_row w2 _ _ _ _ hP2
              have hB2 : Below w.heap.size w w2 := (H1.out.2.2.2.alloc H1.out.2.2.2.size _).grown hgrow0 (by simp; have := H1.out.2.2.2.size; omega) (fun g hgk => (owns_lt H1.out.1 hgk).1)
              have H3 : Hid (RdT w (w2.setCell ⟨w.heap.size + 1, 1, none⟩ (.slice (some ⟨gv, 0, none⟩) (n + 1) cv)) (T ++ L) (.slice (some ⟨gv, 0, none⟩) (n + 1) cv) (n + 1) (ls ++ [s.data.toList.getD k 0]) (ms ++ [zmk mk])) := by
                refine ⟨by simp [HM.out.1], by simp [HM.out.2.1], HL.out, own_put (by rw [HZ.out]; simpa using hown') hP2 (by decide), (Below.heap_setCell w2 _ _ _ (by simp)).trans hR2, heap_setCell_same w2 _ 1 _ _ _ hP2, hB2.setCell (by simp) _⟩
              clear hown' hgrow0 hnil hbv hlv hP2 hR2 hB2
              go_wp2
              go_roundw
              case rel => exact ⟨k + 1, n + 1, ls ++ [s.data.toList.getD k 0], ms ++ [zmk mk], -1, T ++ L, _, _, by omega, by go_num, rfl, by omega, by omega, by omega, H3, hideP (by rw [HR.out, HD.out, rd_letter HDG.out])⟩
              case measure => simp [intOf]; omega
            · have HZ : Hid (zmk mk = mk) := hideP (by simp [zmk, hneg])
              go_wp2_with (at_builtin; refine wpList_append_own _ rfl _ _ 24 rfl w.heap.size 2 i2 (.int .i64 0) 1 8 Try.underlying24 HI2.out.1 HI2.out.2.1 HI2.out.2.2.1 HI2.out.2.2.2 rfl (by decide) _ _ _ rfl (H1.out.1.alloc _) ⟨W1.heap.size, 0, none⟩ 1 1 [.int .i64 mk] rfl rfl (cell_one W1 _ _) (by intro u hu; simp at hu; subst hu; rfl) (by unfold maxLen; omega) (by omega) (by simp; have := Below.size H1.out.2.2.2; omega) ?_)
              intro v' w2 hown' hgrow0 hnil
              obtain ⟨gv, cv, rfl, hbv, hlv⟩ := own_shape hown' (by omega)
              have hP2 := keep_grown (H1.out.1.alloc _) hgrow0 (blockA H1.out.2.2.1 _) (fun c he => by injection he with _ h3; exact absurd h3 (by decide))
              have hR2 := keep_grown (H1.out.1.alloc _) hgrow0 (blockA H1.out.2.1 _) (fun c he => by injection he with _ h3; exact absurd h3 (by decide))
              obtain ⟨u0, u1, huz⟩ := two_at hP2
              have uf1 : w2.frozen? ⟨w.heap.size + 1, 1, none⟩ = false := frozen_of_row w2 _ _ _ _ hP2
              have hB2 : Below w.heap.size w w2 := (H1.out.2.2.2.alloc H1.out.2.2.2.size _).grown hgrow0 (by simp; have := H1.out.2.2.2.size; omega) (fun g hgk => (owns_lt H1.out.1 hgk).1)
              have H3 : Hid (RdT w (w2.setCell ⟨w.heap.size + 1, 1, none⟩ (.slice (some ⟨gv, 0, none⟩) (n + 1) cv)) (T ++ L) (.slice (some ⟨gv, 0, none⟩) (n + 1) cv) (n + 1) (ls ++ [s.data.toList.getD k 0]) (ms ++ [zmk mk])) := by
                refine ⟨by simp [HM.out.1], by simp [HM.out.2.1], HL.out, own_put (by rw [HZ.out]; simpa using hown') hP2 (by decide), (Below.heap_setCell w2 _ _ _ (by simp)).trans hR2, heap_setCell_same w2 _ 1 _ _ _ hP2, hB2.setCell (by simp) _⟩
              clear hown' hgrow0 hnil hbv hlv hP2 hR2 hB2
              go_wp2
              go_roundw
              case rel => exact ⟨k + 1, n + 1, ls ++ [s.data.toList.getD k 0], ms ++ [zmk mk], -1, T ++ L, _, _, by omega, by go_num, rfl, by omega, by omega, by omega, H3, hideP (by rw [HR.out, HD.out, rd_letter HDG.out])⟩
              case measure => simp [intOf]; omega
      · have hki : ¬ ((k : Int) < (s.size : Int)) := by omega
        obtain rfl : k = s.size := by omega
        have HE : Hid (rd [] [] (-1) s.data.toList = some (ls, ms ++ [zmk mk])) := hideP (by rw [HR.out, drop_end]; rfl)
        obtain ⟨M, hM⟩ : ∃ M, M = ms ++ [zmk mk] := ⟨_, rfl⟩
        have hMl : M.length = n + 1 := by rw [hM]; simp [HM.out.2.1]
        obtain ⟨pb, hpb⟩ : ∃ pb, pb = patB T M := ⟨_, rfl⟩
        have HPB := hideP hpb
        have HMM := hideP hM
        have HML := hideP hMl
        have HTT := hideP HM.out.2.2.1
        have HTS : Hid (T.size = n) := hideP (by rw [HM.out.2.2.1, ← HM.out.1]; rfl)
        clear hM hMl hpb
        by_cases hneg : mk < 0
        · have HZ : Hid (zmk mk = 0) := hideP (by simp [zmk, hneg])
          go_wp2_with (at_builtin; refine wpList_append_own _ rfl _ _ 24 rfl w.heap.size 2 i2 (.int .i64 0) 1 8 Try.underlying24 HI2.out.1 HI2.out.2.1 HI2.out.2.2.1 HI2.out.2.2.2 rfl (by decide) _ _ _ rfl (HM.out.2.2.2.1.alloc _) ⟨wr.heap.size, 0, none⟩ 1 1 [.int .i64 0] rfl rfl (cell_one wr _ _) (by intro u hu; simp at hu; subst hu; rfl) (by unfold maxLen; omega) (by omega) (by simp; have := Below.size HM.out.2.2.2.2.2.2; omega) ?_)
          intro v' w2 hown' hgrow0 hnil
          obtain ⟨gv, cv, rfl, hbv, hlv⟩ := own_shape hown' (by omega)
          have hP2 := keep_grown (HM.out.2.2.2.1.alloc _) hgrow0 (blockA HP.out _) (fun c he => by injection he with _ h3; exact absurd h3 (by decide))
          have hR2 := keep_grown (HM.out.2.2.2.1.alloc _) hgrow0 (blockA HRB.out _) (fun c he => by injection he with _ h3; exact absurd h3 (by decide))
          have hB2 : Below w.heap.size w w2 := (HM.out.2.2.2.2.2.2.alloc HM.out.2.2.2.2.2.2.size _).grown hgrow0 (by simp; have := HM.out.2.2.2.2.2.2.size; omega) (fun g hgk => (owns_lt HM.out.2.2.2.1 hgk).1)
          obtain ⟨u0, u1, huz⟩ := two_at hP2
          have uf1 : w2.frozen? ⟨w.heap.size + 1, 1, none⟩ = false := frozen_of_row w2 _ _ _ _ hP2
          have hRow : w2.ownsRow w.heap.size 2 1 (.slice (some ⟨gv, 0, none⟩) (n + 1) cv) (n + 1) ((ms ++ [zmk mk]).map (Value.int .i64)) := by rw [HZ.out]; simpa using hown'
          have H3 : Hid ((w2.setCell ⟨w.heap.size + 1, 1, none⟩ (.slice (some ⟨gv, 0, none⟩) (n + 1) cv)).ownsRow w.heap.size 2 1 (.slice (some ⟨gv, 0, none⟩) (n + 1) cv) (n + 1) ((ms ++ [zmk mk]).map (Value.int .i64)) ∧ (w2.setCell ⟨w.heap.size + 1, 1, none⟩ (.slice (some ⟨gv, 0, none⟩) (n + 1) cv)).heap[w.heap.size]? = some (.cells #[.string ⟨#[]⟩, .slice none 0 0] 26 (0, 0)) ∧
              (w2.setCell ⟨w.heap.size + 1, 1, none⟩ (.slice (some ⟨gv, 0, none⟩) (n + 1) cv)).heap[w.heap.size + 1]? = some (.cells #[.string T, .slice (some ⟨gv, 0, none⟩) (n + 1) cv] 26 (0, 0)) ∧ Below w.heap.size w (w2.setCell ⟨w.heap.size + 1, 1, none⟩ (.slice (some ⟨gv, 0, none⟩) (n + 1) cv))) :=
            hideP ⟨own_put hRow hP2 (by decide), (Below.heap_setCell w2 _ _ _ (by simp)).trans hR2, heap_setCell_same w2 _ 1 _ _ _ hP2, hB2.setCell (by simp) _⟩
          clear hown' hgrow0 hnil hbv hlv hP2 hR2 hB2 hRow
          have q0 := (two_at H3.out.2.2.1).1
          have q1 := (two_at H3.out.2.2.1).2.1
          have hqz := (two_at H3.out.2.2.1).2.2
          go_wp2_with fail
          generalize (w2.setCell ⟨w.heap.size + 1, 1, none⟩ (.slice (some ⟨gv, 0, none⟩) (n + 1) cv)) = W3 at H3 q0 q1 hqz ⊢
          have c1 : Hid (∀ V, Below W3.heap.size W3 V → Calls Try.prog 16 #[patV T (.slice (some ⟨gv, 0, none⟩) (n + 1) cv)] V fun e w' => e = .returned (.bool pb) ∧ Below V.heap.size V w') := hideP (fun V hV => by
            rw [HPB.out]
            exact specPatternOk_any (Row.below (row_of_own (by rw [HMM.out]; exact H3.out.1) HML.out) hV) (by have := HML.out; omega) (by have := HTS.out; omega))
          refine (c1.out _ (Below.refl _ _)).mono ?_
          rintro e w4 ⟨rfl, hb4⟩
          have hR4 := (hb4.block _ (Array.getElem?_eq_some_iff.1 H3.out.2.1).1).trans H3.out.2.1
          have hP4 := (hb4.block _ (Array.getElem?_eq_some_iff.1 H3.out.2.2.1).1).trans H3.out.2.2.1
          have hO4 : w4.ownsRow w.heap.size 2 1 (.slice (some ⟨gv, 0, none⟩) (n + 1) cv) (n + 1) (M.map (Value.int .i64)) := by rw [HMM.out]; exact own_at H3.out.1 (fun g cur hg => (hb4.block g (Array.getElem?_eq_some_iff.1 hg).1).trans hg)
          have B4 : Hid (Below w.heap.size w w4) := hideP (below_more H3.out.2.2.2 hb4 H3.out.2.2.2.size)
          have s0 := (two_at hP4).1
          have s1 := (two_at hP4).2.1
          have hsz4 := (two_at hP4).2.2
          have y0 := (two_at hR4).1
          have y1 := (two_at hR4).2.1
          have hyz := (two_at hR4).2.2
          have yf0 : w4.frozen? ⟨w.heap.size, 0, none⟩ = false := frozen_of_row w4 _ _ _ _ hR4
          have yf1 : w4.frozen? ⟨w.heap.size, 1, none⟩ = false := frozen_of_row w4 _ _ _ _ hR4
          have HT0 := hideP (two_at (two_set hR4 (.string ⟨#[]⟩) (.slice none 0 0)))
          have HT1 := hideP (two_at (two_set hR4 (.string T) (.slice (some ⟨gv, 0, none⟩) (n + 1) cv)))
          have HMR3 : Hid (((w4.setCell ⟨w.heap.size, 0, none⟩ (.string T)).setCell ⟨w.heap.size, 1, none⟩ (.slice (some ⟨gv, 0, none⟩) (n + 1) cv)).ownsRow w.heap.size 2 1 (.slice (some ⟨gv, 0, none⟩) (n + 1) cv) (n + 1) (M.map (Value.int .i64))) :=
            hideP (own_put (own_put hO4 hR4 (by decide)) (heap_setCell_same w4 _ 0 _ _ _ hR4) (by decide))
          have HB3 : Hid (∀ a b : Value, Below w.heap.size w ((w4.setCell ⟨w.heap.size, 0, none⟩ a).setCell ⟨w.heap.size, 1, none⟩ b)) := hideP (fun a b => Below.setCell (Below.setCell B4.out (p := ⟨w.heap.size, 0, none⟩) (by simp) a) (p := ⟨w.heap.size, 1, none⟩) (by simp) b)
          clear hR4 hP4 hO4 hb4 q0 q1 hqz u0 u1 huz uf1 p0 p1 r0 r1 pf0 pf1 rf0 rf1 hPz hRz c1
          cases pb
          · go_wp2
            obtain ⟨n0, n1, n2⟩ := read_none (readR_no HE.out (by rw [← HTT.out, ← HMM.out]; exact HPB.out.symm))
            obtain ⟨t0, t1, t2⟩ := HT0.out
            have hB3 := HB3.out (.string ⟨#[]⟩) (.slice none 0 0)
            generalize ((w4.setCell ⟨w.heap.size, 0, none⟩ (.string ⟨#[]⟩)).setCell ⟨w.heap.size, 1, none⟩ (.slice none 0 0)) = W at t0 t1 t2 hB3 ⊢
            exact bodyPost_ret (v := .tuple #[patV ⟨#[]⟩ (.slice none 0 0), .bool false]) (by simp [results, Try.results19, go_sem, t0, t1]) rfl ⟨.slice none 0 0, by rw [n0, n2], by rw [n1]; exact World.ownsRow_nil _ _ _ _, hB3⟩
          · go_wp2
            obtain ⟨n0, n1, n2⟩ := read_some (readR_yes HE.out (by rw [← HTT.out, ← HMM.out]; exact HPB.out.symm))
            obtain ⟨t0, t1, t2⟩ := HT1.out
            have hB3 := HB3.out (.string T) (.slice (some ⟨gv, 0, none⟩) (n + 1) cv)
            have hM3 := HMR3.out
            generalize ((w4.setCell ⟨w.heap.size, 0, none⟩ (.string T)).setCell ⟨w.heap.size, 1, none⟩ (.slice (some ⟨gv, 0, none⟩) (n + 1) cv)) = W at t0 t1 t2 hB3 hM3 ⊢
            exact bodyPost_ret (v := .tuple #[patV T (.slice (some ⟨gv, 0, none⟩) (n + 1) cv), .bool true]) (by simp [results, Try.results19, go_sem, t0, t1]) rfl ⟨_, by rw [n0, n2, ← HTT.out], by rw [n1, ← HMM.out, HML.out]; exact hM3, hB3⟩
        · have HZ : Hid (zmk mk = mk) := hideP (by simp [zmk, hneg])
          go_wp2_with (at_builtin; refine wpList_append_own _ rfl _ _ 24 rfl w.heap.size 2 i2 (.int .i64 0) 1 8 Try.underlying24 HI2.out.1 HI2.out.2.1 HI2.out.2.2.1 HI2.out.2.2.2 rfl (by decide) _ _ _ rfl (HM.out.2.2.2.1.alloc _) ⟨wr.heap.size, 0, none⟩ 1 1 [.int .i64 mk] rfl rfl (cell_one wr _ _) (by intro u hu; simp at hu; subst hu; rfl) (by unfold maxLen; omega) (by omega) (by simp; have := Below.size HM.out.2.2.2.2.2.2; omega) ?_)
          intro v' w2 hown' hgrow0 hnil
          obtain ⟨gv, cv, rfl, hbv, hlv⟩ := own_shape hown' (by omega)
          have hP2 := keep_grown (HM.out.2.2.2.1.alloc _) hgrow0 (blockA HP.out _) (fun c he => by injection he with _ h3; exact absurd h3 (by decide))
          have hR2 := keep_grown (HM.out.2.2.2.1.alloc _) hgrow0 (blockA HRB.out _) (fun c he => by injection he with _ h3; exact absurd h3 (by decide))
          have hB2 : Below w.heap.size w w2 := (HM.out.2.2.2.2.2.2.alloc HM.out.2.2.2.2.2.2.size _).grown hgrow0 (by simp; have := HM.out.2.2.2.2.2.2.size; omega) (fun g hgk => (owns_lt HM.out.2.2.2.1 hgk).1)
          obtain ⟨u0, u1, huz⟩ := two_at hP2
          have uf1 : w2.frozen? ⟨w.heap.size + 1, 1, none⟩ = false := frozen_of_row w2 _ _ _ _ hP2
          have hRow : w2.ownsRow w.heap.size 2 1 (.slice (some ⟨gv, 0, none⟩) (n + 1) cv) (n + 1) ((ms ++ [zmk mk]).map (Value.int .i64)) := by rw [HZ.out]; simpa using hown'
          have H3 : Hid ((w2.setCell ⟨w.heap.size + 1, 1, none⟩ (.slice (some ⟨gv, 0, none⟩) (n + 1) cv)).ownsRow w.heap.size 2 1 (.slice (some ⟨gv, 0, none⟩) (n + 1) cv) (n + 1) ((ms ++ [zmk mk]).map (Value.int .i64)) ∧ (w2.setCell ⟨w.heap.size + 1, 1, none⟩ (.slice (some ⟨gv, 0, none⟩) (n + 1) cv)).heap[w.heap.size]? = some (.cells #[.string ⟨#[]⟩, .slice none 0 0] 26 (0, 0)) ∧
              (w2.setCell ⟨w.heap.size + 1, 1, none⟩ (.slice (some ⟨gv, 0, none⟩) (n + 1) cv)).heap[w.heap.size + 1]? = some (.cells #[.string T, .slice (some ⟨gv, 0, none⟩) (n + 1) cv] 26 (0, 0)) ∧ Below w.heap.size w (w2.setCell ⟨w.heap.size + 1, 1, none⟩ (.slice (some ⟨gv, 0, none⟩) (n + 1) cv))) :=
            hideP ⟨own_put hRow hP2 (by decide), (Below.heap_setCell w2 _ _ _ (by simp)).trans hR2, heap_setCell_same w2 _ 1 _ _ _ hP2, hB2.setCell (by simp) _⟩
          clear hown' hgrow0 hnil hbv hlv hP2 hR2 hB2 hRow
          have q0 := (two_at H3.out.2.2.1).1
          have q1 := (two_at H3.out.2.2.1).2.1
          have hqz := (two_at H3.out.2.2.1).2.2
          go_wp2_with fail
          generalize (w2.setCell ⟨w.heap.size + 1, 1, none⟩ (.slice (some ⟨gv, 0, none⟩) (n + 1) cv)) = W3 at H3 q0 q1 hqz ⊢
          have c1 : Hid (∀ V, Below W3.heap.size W3 V → Calls Try.prog 16 #[patV T (.slice (some ⟨gv, 0, none⟩) (n + 1) cv)] V fun e w' => e = .returned (.bool pb) ∧ Below V.heap.size V w') := hideP (fun V hV => by
            rw [HPB.out]
            exact specPatternOk_any (Row.below (row_of_own (by rw [HMM.out]; exact H3.out.1) HML.out) hV) (by have := HML.out; omega) (by have := HTS.out; omega))
          refine (c1.out _ (Below.refl _ _)).mono ?_
          rintro e w4 ⟨rfl, hb4⟩
          have hR4 := (hb4.block _ (Array.getElem?_eq_some_iff.1 H3.out.2.1).1).trans H3.out.2.1
          have hP4 := (hb4.block _ (Array.getElem?_eq_some_iff.1 H3.out.2.2.1).1).trans H3.out.2.2.1
          have hO4 : w4.ownsRow w.heap.size 2 1 (.slice (some ⟨gv, 0, none⟩) (n + 1) cv) (n + 1) (M.map (Value.int .i64)) := by rw [HMM.out]; exact own_at H3.out.1 (fun g cur hg => (hb4.block g (Array.getElem?_eq_some_iff.1 hg).1).trans hg)
          have B4 : Hid (Below w.heap.size w w4) := hideP (below_more H3.out.2.2.2 hb4 H3.out.2.2.2.size)
          have s0 := (two_at hP4).1
          have s1 := (two_at hP4).2.1
          have hsz4 := (two_at hP4).2.2
          have y0 := (two_at hR4).1
          have y1 := (two_at hR4).2.1
          have hyz := (two_at hR4).2.2
          have yf0 : w4.frozen? ⟨w.heap.size, 0, none⟩ = false := frozen_of_row w4 _ _ _ _ hR4
          have yf1 : w4.frozen? ⟨w.heap.size, 1, none⟩ = false := frozen_of_row w4 _ _ _ _ hR4
          have HT0 := hideP (two_at (two_set hR4 (.string ⟨#[]⟩) (.slice none 0 0)))
          have HT1 := hideP (two_at (two_set hR4 (.string T) (.slice (some ⟨gv, 0, none⟩) (n + 1) cv)))
          have HMR3 : Hid (((w4.setCell ⟨w.heap.size, 0, none⟩ (.string T)).setCell ⟨w.heap.size, 1, none⟩ (.slice (some ⟨gv, 0, none⟩) (n + 1) cv)).ownsRow w.heap.size 2 1 (.slice (some ⟨gv, 0, none⟩) (n + 1) cv) (n + 1) (M.map (Value.int .i64))) :=
            hideP (own_put (own_put hO4 hR4 (by decide)) (heap_setCell_same w4 _ 0 _ _ _ hR4) (by decide))
          have HB3 : Hid (∀ a b : Value, Below w.heap.size w ((w4.setCell ⟨w.heap.size, 0, none⟩ a).setCell ⟨w.heap.size, 1, none⟩ b)) := hideP (fun a b => Below.setCell (Below.setCell B4.out (p := ⟨w.heap.size, 0, none⟩) (by simp) a) (p := ⟨w.heap.size, 1, none⟩) (by simp) b)
          clear hR4 hP4 hO4 hb4 q0 q1 hqz u0 u1 huz uf1 p0 p1 r0 r1 pf0 pf1 rf0 rf1 hPz hRz c1
          cases pb
          · go_wp2
            obtain ⟨n0, n1, n2⟩ := read_none (readR_no HE.out (by rw [← HTT.out, ← HMM.out]; exact HPB.out.symm))
            obtain ⟨t0, t1, t2⟩ := HT0.out
            have hB3 := HB3.out (.string ⟨#[]⟩) (.slice none 0 0)
            generalize ((w4.setCell ⟨w.heap.size, 0, none⟩ (.string ⟨#[]⟩)).setCell ⟨w.heap.size, 1, none⟩ (.slice none 0 0)) = W at t0 t1 t2 hB3 ⊢
            exact bodyPost_ret (v := .tuple #[patV ⟨#[]⟩ (.slice none 0 0), .bool false]) (by simp [results, Try.results19, go_sem, t0, t1]) rfl ⟨.slice none 0 0, by rw [n0, n2], by rw [n1]; exact World.ownsRow_nil _ _ _ _, hB3⟩
          · go_wp2
            obtain ⟨n0, n1, n2⟩ := read_some (readR_yes HE.out (by rw [← HTT.out, ← HMM.out]; exact HPB.out.symm))
            obtain ⟨t0, t1, t2⟩ := HT1.out
            have hB3 := HB3.out (.string T) (.slice (some ⟨gv, 0, none⟩) (n + 1) cv)
            have hM3 := HMR3.out
            generalize ((w4.setCell ⟨w.heap.size, 0, none⟩ (.string T)).setCell ⟨w.heap.size, 1, none⟩ (.slice (some ⟨gv, 0, none⟩) (n + 1) cv)) = W at t0 t1 t2 hB3 hM3 ⊢
            exact bodyPost_ret (v := .tuple #[patV T (.slice (some ⟨gv, 0, none⟩) (n + 1) cv), .bool true]) (by simp [results, Try.results19, go_sem, t0, t1]) rfl ⟨_, by rw [n0, n2, ← HTT.out], by rw [n1, ← HMM.out, HML.out]; exact hM3, hB3⟩

theorem specRead_any (s : ByteArray) (w : World) (hs : s.size ≤ 9223372036854775807) :
    Calls Try.prog 19 #[.string s] w fun e w' => ∃ v, e = .returned (.tuple #[patV (rdS s) v, .bool (rdB s)]) ∧ Row w' v (rdM s) ∧ Below w.heap.size w w' := by
  refine (specRead_own s w hs).mono ?_
  rintro e w' ⟨v, h1, h2, h3⟩
  exact ⟨v, h1, row_of_own h2 rfl, h3⟩
end Go.Proofs.Ytejigikcpmhhoaa
