/-
  The items of a row that is cut behind some of its items, with three nodes put behind (pure).
-/
import Derived.Test.YtdgfnceipginkaaSty
import Derived.Test.YtdgfnceipginkaaLrw
namespace Go.Proofs.Ytdgfnceipginkaa
open Go.RowKit
set_option linter.unusedVariables false
set_option linter.unusedSimpArgs false

theorem cost_any (x : Int) (w : World) : Calls Try.prog 44 #[.int .i64 x] w fun e w' => e = .returned (.bool (uptoB x 1000000)) ∧ w' = w := by
  by_cases h1 : 0 ≤ x
  · by_cases h2 : x ≤ 1000000
    · rw [upto_yes h1 h2]
      go_enter Try.func44, Try.ntmps44
      go_wp2
      go_ret
      exact ⟨rfl, rfl⟩
    · rw [upto_no (by omega)]
      go_enter Try.func44, Try.ntmps44
      go_wp2
      go_ret
      exact ⟨rfl, rfl⟩
  · rw [upto_no (by omega)]
    go_enter Try.func44, Try.ntmps44
    go_wp2
    go_ret
    exact ⟨rfl, rfl⟩

set_option maxHeartbeats 8000000 in
theorem specStyle_any (x : Sy) (w : World) : Calls Try.prog 23 #[syV x] w fun e w' => e = .returned (.bool (syB x)) ∧ Below w.heap.size w w' := by
  obtain ⟨wd, nw, hg, tl, ln, hy, du, ad, l0, l1, l2, l3, l4, r0, r1, r2, r3, r4, f0, f1, f2, f3, f4⟩ := x
  simp only [syV]
  by_cases p_wd : 0 ≤ wd
  case neg =>
    have q : uptoB wd 1073741823 = false := upto_no (by omega)
    have hB : syB ⟨wd, nw, hg, tl, ln, hy, du, ad, l0, l1, l2, l3, l4, r0, r1, r2, r3, r4, f0, f1, f2, f3, f4⟩ = false := by simp [syB, q]
    rw [hB]
    clear hB q
    go_enter Try.func23, Try.ntmps23
    go_wp2_with (go_at_call 44; refine (cost_any _ _).mono ?_; rintro e w' ⟨rfl, rfl⟩)
    go_ret
    exact ⟨rfl, below1 _ _⟩
  case pos =>
    by_cases q_wd : wd ≤ 1073741823
    case neg =>
      have q : uptoB wd 1073741823 = false := upto_no (by omega)
      have hB : syB ⟨wd, nw, hg, tl, ln, hy, du, ad, l0, l1, l2, l3, l4, r0, r1, r2, r3, r4, f0, f1, f2, f3, f4⟩ = false := by simp [syB, q]
      rw [hB]
      clear hB q
      go_enter Try.func23, Try.ntmps23
      go_wp2_with (go_at_call 44; refine (cost_any _ _).mono ?_; rintro e w' ⟨rfl, rfl⟩)
      go_ret
      exact ⟨rfl, below1 _ _⟩
    case pos =>
      by_cases p_nw : 0 ≤ nw
      case neg =>
        have q : uptoB nw 1073741823 = false := upto_no (by omega)
        have hB : syB ⟨wd, nw, hg, tl, ln, hy, du, ad, l0, l1, l2, l3, l4, r0, r1, r2, r3, r4, f0, f1, f2, f3, f4⟩ = false := by simp [syB, q]
        rw [hB]
        clear hB q
        go_enter Try.func23, Try.ntmps23
        go_wp2_with (go_at_call 44; refine (cost_any _ _).mono ?_; rintro e w' ⟨rfl, rfl⟩)
        go_ret
        exact ⟨rfl, below1 _ _⟩
      case pos =>
        by_cases q_nw : nw ≤ 1073741823
        case neg =>
          have q : uptoB nw 1073741823 = false := upto_no (by omega)
          have hB : syB ⟨wd, nw, hg, tl, ln, hy, du, ad, l0, l1, l2, l3, l4, r0, r1, r2, r3, r4, f0, f1, f2, f3, f4⟩ = false := by simp [syB, q]
          rw [hB]
          clear hB q
          go_enter Try.func23, Try.ntmps23
          go_wp2_with (go_at_call 44; refine (cost_any _ _).mono ?_; rintro e w' ⟨rfl, rfl⟩)
          go_ret
          exact ⟨rfl, below1 _ _⟩
        case pos =>
          by_cases p_hg : 0 ≤ hg
          case neg =>
            have q : uptoB hg 4 = false := upto_no (by omega)
            have hB : syB ⟨wd, nw, hg, tl, ln, hy, du, ad, l0, l1, l2, l3, l4, r0, r1, r2, r3, r4, f0, f1, f2, f3, f4⟩ = false := by simp [syB, q]
            rw [hB]
            clear hB q
            go_enter Try.func23, Try.ntmps23
            go_wp2_with (go_at_call 44; refine (cost_any _ _).mono ?_; rintro e w' ⟨rfl, rfl⟩)
            go_ret
            exact ⟨rfl, below1 _ _⟩
          case pos =>
            by_cases q_hg : hg ≤ 4
            case neg =>
              have q : uptoB hg 4 = false := upto_no (by omega)
              have hB : syB ⟨wd, nw, hg, tl, ln, hy, du, ad, l0, l1, l2, l3, l4, r0, r1, r2, r3, r4, f0, f1, f2, f3, f4⟩ = false := by simp [syB, q]
              rw [hB]
              clear hB q
              go_enter Try.func23, Try.ntmps23
              go_wp2_with (go_at_call 44; refine (cost_any _ _).mono ?_; rintro e w' ⟨rfl, rfl⟩)
              go_ret
              exact ⟨rfl, below1 _ _⟩
            case pos =>
              by_cases p_tl : 0 ≤ tl
              case neg =>
                have q : uptoB tl 10000 = false := upto_no (by omega)
                have hB : syB ⟨wd, nw, hg, tl, ln, hy, du, ad, l0, l1, l2, l3, l4, r0, r1, r2, r3, r4, f0, f1, f2, f3, f4⟩ = false := by simp [syB, q]
                rw [hB]
                clear hB q
                go_enter Try.func23, Try.ntmps23
                go_wp2_with (go_at_call 44; refine (cost_any _ _).mono ?_; rintro e w' ⟨rfl, rfl⟩)
                go_ret
                exact ⟨rfl, below1 _ _⟩
              case pos =>
                by_cases q_tl : tl ≤ 10000
                case neg =>
                  have q : uptoB tl 10000 = false := upto_no (by omega)
                  have hB : syB ⟨wd, nw, hg, tl, ln, hy, du, ad, l0, l1, l2, l3, l4, r0, r1, r2, r3, r4, f0, f1, f2, f3, f4⟩ = false := by simp [syB, q]
                  rw [hB]
                  clear hB q
                  go_enter Try.func23, Try.ntmps23
                  go_wp2_with (go_at_call 44; refine (cost_any _ _).mono ?_; rintro e w' ⟨rfl, rfl⟩)
                  go_ret
                  exact ⟨rfl, below1 _ _⟩
                case pos =>
                  cases c_ln : uptoB ln 1000000
                  case false =>
                    have q : uptoB ln 10000 = false := up_less c_ln (by omega)
                    have hB : syB ⟨wd, nw, hg, tl, ln, hy, du, ad, l0, l1, l2, l3, l4, r0, r1, r2, r3, r4, f0, f1, f2, f3, f4⟩ = false := by simp [syB, q]
                    rw [hB]
                    clear hB q
                    go_enter Try.func23, Try.ntmps23
                    go_wp2_with (go_at_call 44; refine (cost_any _ _).mono ?_; rintro e w' ⟨rfl, rfl⟩)
                    go_ret
                    exact ⟨rfl, below1 _ _⟩
                  case true =>
                    cases c_hy : uptoB hy 1000000
                    case false =>
                      have q : uptoB hy 10000 = false := up_less c_hy (by omega)
                      have hB : syB ⟨wd, nw, hg, tl, ln, hy, du, ad, l0, l1, l2, l3, l4, r0, r1, r2, r3, r4, f0, f1, f2, f3, f4⟩ = false := by simp [syB, q]
                      rw [hB]
                      clear hB q
                      go_enter Try.func23, Try.ntmps23
                      go_wp2_with (go_at_call 44; refine (cost_any _ _).mono ?_; rintro e w' ⟨rfl, rfl⟩)
                      go_ret
                      exact ⟨rfl, below1 _ _⟩
                    case true =>
                      cases c_du : uptoB du 1000000
                      case false =>
                        have q : uptoB du 1000000 = false := up_less c_du (by omega)
                        have hB : syB ⟨wd, nw, hg, tl, ln, hy, du, ad, l0, l1, l2, l3, l4, r0, r1, r2, r3, r4, f0, f1, f2, f3, f4⟩ = false := by simp [syB, q]
                        rw [hB]
                        clear hB q
                        go_enter Try.func23, Try.ntmps23
                        go_wp2_with (go_at_call 44; refine (cost_any _ _).mono ?_; rintro e w' ⟨rfl, rfl⟩)
                        go_ret
                        exact ⟨rfl, below1 _ _⟩
                      case true =>
                        cases c_ad : uptoB ad 1000000
                        case false =>
                          have q : uptoB ad 1000000 = false := up_less c_ad (by omega)
                          have hB : syB ⟨wd, nw, hg, tl, ln, hy, du, ad, l0, l1, l2, l3, l4, r0, r1, r2, r3, r4, f0, f1, f2, f3, f4⟩ = false := by simp [syB, q]
                          rw [hB]
                          clear hB q
                          go_enter Try.func23, Try.ntmps23
                          go_wp2_with (go_at_call 44; refine (cost_any _ _).mono ?_; rintro e w' ⟨rfl, rfl⟩)
                          go_ret
                          exact ⟨rfl, below1 _ _⟩
                        case true =>
                          by_cases q_ln : ln ≤ 10000
                          case neg =>
                            have q : uptoB ln 10000 = false := upto_no (by omega)
                            have hB : syB ⟨wd, nw, hg, tl, ln, hy, du, ad, l0, l1, l2, l3, l4, r0, r1, r2, r3, r4, f0, f1, f2, f3, f4⟩ = false := by simp [syB, q]
                            rw [hB]
                            clear hB q
                            go_enter Try.func23, Try.ntmps23
                            go_wp2_with (go_at_call 44; refine (cost_any _ _).mono ?_; rintro e w' ⟨rfl, rfl⟩)
                            go_ret
                            exact ⟨rfl, below1 _ _⟩
                          case pos =>
                            by_cases q_hy : hy ≤ 10000
                            case neg =>
                              have q : uptoB hy 10000 = false := upto_no (by omega)
                              have hB : syB ⟨wd, nw, hg, tl, ln, hy, du, ad, l0, l1, l2, l3, l4, r0, r1, r2, r3, r4, f0, f1, f2, f3, f4⟩ = false := by simp [syB, q]
                              rw [hB]
                              clear hB q
                              go_enter Try.func23, Try.ntmps23
                              go_wp2_with (go_at_call 44; refine (cost_any _ _).mono ?_; rintro e w' ⟨rfl, rfl⟩)
                              go_ret
                              exact ⟨rfl, below1 _ _⟩
                            case pos =>
                              have p_ln : 0 ≤ ln := by simp [uptoB] at c_ln; omega
                              have p_hy : 0 ≤ hy := by simp [uptoB] at c_hy; omega
                              have u1 : uptoB wd 1073741823 = true := upto_yes (by omega) (by omega)
                              have u2 : uptoB nw 1073741823 = true := upto_yes (by omega) (by omega)
                              have u3 : uptoB hg 4 = true := upto_yes (by omega) (by omega)
                              have u4 : uptoB tl 10000 = true := upto_yes (by omega) (by omega)
                              have u5 : uptoB ln 10000 = true := upto_yes (by omega) (by omega)
                              have u6 : uptoB hy 10000 = true := upto_yes (by omega) (by omega)
                              have hB : syB ⟨wd, nw, hg, tl, ln, hy, du, ad, l0, l1, l2, l3, l4, r0, r1, r2, r3, r4, f0, f1, f2, f3, f4⟩ = (glB l0 l1 l2 l3 l4 && glB r0 r1 r2 r3 r4 && glB f0 f1 f2 f3 f4) := by simp [syB, u1, u2, u3, u4, u5, u6, c_du, c_ad, Bool.and_assoc]
                              rw [hB]
                              clear hB u1 u2 u3 u4 u5 u6 p_ln p_hy
                              go_enter Try.func23, Try.ntmps23
                              go_wp2_with (go_at_call 44; refine (cost_any _ _).mono ?_; rintro e w' ⟨rfl, rfl⟩)
                              refine (specGlueOk_any _ _ _ _ _ _).mono ?_
                              rintro e w1 ⟨rfl, hb1⟩
                              have hs1 : w.heap.size < w1.heap.size := by have := hb1.size; simp at this; omega
                              have B1 : Hid (Below w.heap.size w w1) := hideP (below_more (below1 _ _) hb1 (by simp))
                              obtain ⟨hc1, hf1⟩ := bcell hb1
                              try simp only [World.size_alloc] at hc1 hf1
                              clear hb1
                              cases g1 : glB l0 l1 l2 l3 l4
                              · go_wp2
                                go_ret
                                exact ⟨retB (by simp [g1]), B1.out⟩
                              · go_wp2_with fail
                                refine (specGlueOk_any _ _ _ _ _ _).mono ?_
                                rintro e w2 ⟨rfl, hb2⟩
                                have hs2 : w.heap.size < w2.heap.size := by have := hb2.size; omega
                                have B2 : Hid (Below w.heap.size w w2) := hideP (below_more B1.out hb2 B1.out.size)
                                obtain ⟨hc2, hf2⟩ := bcell hb2
                                try simp only [World.size_alloc] at hc2 hf2
                                clear hb2
                                cases g2 : glB r0 r1 r2 r3 r4
                                · go_wp2
                                  go_ret
                                  exact ⟨retB (by simp [g1, g2]), B2.out⟩
                                · go_wp2_with fail
                                  refine (specGlueOk_any _ _ _ _ _ _).mono ?_
                                  rintro e w3 ⟨rfl, hb3⟩
                                  have hs3 : w.heap.size < w3.heap.size := by have := hb3.size; omega
                                  have B3 : Hid (Below w.heap.size w w3) := hideP (below_more B2.out hb3 B2.out.size)
                                  obtain ⟨hc3, hf3⟩ := bcell hb3
                                  try simp only [World.size_alloc] at hc3 hf3
                                  clear hb3
                                  cases g3 : glB f0 f1 f2 f3 f4
                                  · go_wp2
                                    go_ret
                                    exact ⟨retB (by simp [g1, g2, g3]), B3.out⟩
                                  · go_wp2
                                    go_ret
                                    exact ⟨retB (by simp [g1, g2, g3]), B3.out⟩

/-- Where so many items from a place on end. -/
def endK (xs : List Nd) : Nat → Nat → Nat
  | i, 0 => i
  | i, k + 1 => endK xs (i + 1 + (xs.getD i Nd.none).kids.toNat) k
theorem endK_ge (xs : List Nd) : ∀ (k i : Nat), i + k ≤ endK xs i k
  | 0, i => Nat.le_refl _
  | k + 1, i => by
    have := endK_ge xs k (i + 1 + (xs.getD i Nd.none).kids.toNat)
    rw [endK]
    omega
theorem take_app_lt {xs T : List Nd} {e p : Nat} (hp : p < e) (he : e ≤ xs.length) : (xs.take e ++ T).getD p Nd.none = xs.getD p Nd.none := by
  rw [List.getD_eq_getElem?_getD, List.getElem?_append_left (by rw [List.length_take]; omega), List.getElem?_take, if_pos hp, List.getD_eq_getElem?_getD]
theorem take_app_ge {xs T : List Nd} {e j : Nat} (he : e ≤ xs.length) : (xs.take e ++ T).getD (e + j) Nd.none = T.getD j Nd.none := by
  have hl : (xs.take e).length = e := by rw [List.length_take]; omega
  rw [List.getD_eq_getElem?_getD, List.getElem?_append_right (by omega), hl, Nat.add_sub_cancel_left, List.getD_eq_getElem?_getD]
theorem starts_cut {xs : List Nd} {a b c : Nd} (ha : a.kids = 0) (hb : b.kids = 0) (hc : c.kids = 0) (hk : ∀ i, i < xs.length → 0 ≤ (xs.getD i Nd.none).kids ∧ (i : Int) + 1 + (xs.getD i Nd.none).kids ≤ xs.length) :
    ∀ (k f g i : Nat), i ≤ xs.length → k ≤ (starts xs f i).length → k + 4 ≤ g → endK xs i k ≤ xs.length ∧ starts (xs.take (endK xs i k) ++ [a, b, c]) g i = (starts xs f i).take k ++ [endK xs i k, endK xs i k + 1, endK xs i k + 2]
  | 0, f, g, i, hi, _, hg => by
    obtain ⟨g', rfl⟩ : ∃ g', g = g' + 4 := ⟨g - 4, by omega⟩
    refine ⟨hi, ?_⟩
    have hl : (xs.take i ++ [a, b, c]).length = i + 3 := by rw [List.length_append, List.length_take]; simp; omega
    have e0 := take_app_ge (T := [a, b, c]) (j := 0) hi
    have e1 := take_app_ge (T := [a, b, c]) (j := 1) hi
    have e2 := take_app_ge (T := [a, b, c]) (j := 2) hi
    simp only [List.getD_cons_zero, List.getD_cons_succ, Nat.add_zero] at e0 e1 e2
    simp only [endK, List.take_zero, List.nil_append]
    rw [starts, if_pos (by omega), e0, ha, starts, if_pos (by simp; omega)]
    simp only [Int.toNat_zero, Nat.add_zero]
    rw [e1, hb, starts, if_pos (by simp; omega)]
    simp only [Int.toNat_zero, Nat.add_zero]
    rw [e2, hc, starts, if_neg (by simp; omega)]
  | k + 1, f, g, i, hi, hkl, hg => by
    cases f with
    | zero => simp [starts] at hkl
    | succ f =>
      obtain ⟨g', rfl⟩ : ∃ g', g = g' + 1 := ⟨g - 1, by omega⟩
      rw [starts] at hkl
      split at hkl
      · rename_i hil
        have h1 := hk i hil
        obtain ⟨h2, h3⟩ := starts_cut ha hb hc hk k f g' (i + 1 + (xs.getD i Nd.none).kids.toNat) (by omega) (by simpa using hkl) (by omega)
        have h4 := endK_ge xs k (i + 1 + (xs.getD i Nd.none).kids.toNat)
        refine ⟨h2, ?_⟩
        rw [endK]
        obtain ⟨e, he⟩ : ∃ e, e = endK xs (i + 1 + (xs.getD i Nd.none).kids.toNat) k := ⟨_, rfl⟩
        rw [← he] at h2 h3 h4 ⊢
        have hl : (xs.take e ++ [a, b, c]).length = e + 3 := by rw [List.length_append, List.length_take]; simp; omega
        rw [starts, if_pos (by omega), take_app_lt (by omega) h2, h3]
        rw [starts, if_pos hil, List.take_succ_cons, List.cons_append]
      · simp at hkl
theorem starts_below {xs : List Nd} (hk : ∀ i, i < xs.length → 0 ≤ (xs.getD i Nd.none).kids ∧ (i : Int) + 1 + (xs.getD i Nd.none).kids ≤ xs.length) : ∀ (k f i p : Nat), p ∈ (starts xs f i).take k → p < endK xs i k
  | 0, f, i, p, hp => by simp at hp
  | k + 1, 0, i, p, hp => by simp [starts] at hp
  | k + 1, f + 1, i, p, hp => by
    rw [starts] at hp
    split at hp
    · rw [List.take_succ_cons] at hp
      rw [endK]
      rcases List.mem_cons.1 hp with rfl | hp
      · have := endK_ge xs k (p + 1 + (xs.getD p Nd.none).kids.toNat)
        omega
      · exact starts_below hk k f _ p hp
    · simp at hp
theorem its_cut {xs : List Nd} {a b c : Nd} (ha : a.kids = 0) (hb : b.kids = 0) (hc : c.kids = 0) (hk : ∀ i, i < xs.length → 0 ≤ (xs.getD i Nd.none).kids ∧ (i : Int) + 1 + (xs.getD i Nd.none).kids ≤ xs.length) {k : Nat} (hkl : k ≤ (its xs).length) :
    endK xs 0 k ≤ xs.length ∧ its (xs.take (endK xs 0 k) ++ [a, b, c]) = (its xs).take k ++ [(a, (endK xs 0 k : Int), (endK xs 0 k : Int) + 1), (b, (endK xs 0 k : Int) + 1, (endK xs 0 k : Int) + 2), (c, (endK xs 0 k : Int) + 2, (endK xs 0 k : Int) + 3)] := by
  have hkl' : k ≤ (starts xs (xs.length + 1) 0).length := by simpa [its] using hkl
  have h4 := endK_ge xs k 0
  obtain ⟨h0, _⟩ := starts_cut ha hb hc hk k (xs.length + 1) (k + 4) 0 (by omega) hkl' (by omega)
  obtain ⟨e, he⟩ : ∃ e, e = endK xs 0 k := ⟨_, rfl⟩
  have hl : (xs.take e ++ [a, b, c]).length = e + 3 := by rw [he, List.length_append, List.length_take]; simp; omega
  obtain ⟨_, h2⟩ := starts_cut ha hb hc hk k (xs.length + 1) (e + 3 + 1) 0 (by omega) hkl' (by omega)
  rw [← he] at h0 h2 h4 ⊢
  refine ⟨h0, ?_⟩
  unfold its
  rw [hl, h2, List.map_append, ← List.map_take]
  have e0 := take_app_ge (T := [a, b, c]) (j := 0) h0
  have e1 := take_app_ge (T := [a, b, c]) (j := 1) h0
  have e2 := take_app_ge (T := [a, b, c]) (j := 2) h0
  simp only [List.getD_cons_zero, List.getD_cons_succ, Nat.add_zero] at e0 e1 e2
  congr 1
  · refine List.map_congr_left (fun p hp => ?_)
    have hpe : p < e := by
      rw [he]
      exact starts_below hk k (xs.length + 1) 0 p hp
    unfold itAt
    rw [take_app_lt hpe h0]
  · simp only [List.map_cons, List.map_nil, itAt, e0, e1, e2, ha, hb, hc]
    simp
    omega
theorem trnB_fst {ys zs : List It} (h : ys.map Prod.fst = zs.map Prod.fst) (a : Nat) : trnB ys a = trnB zs a := by
  have hg : ∀ i, (ys.getD i It.none).1 = (zs.getD i It.none).1 := fun i => by
    have h1 := congrArg (fun l => l.getD i Nd.none) h
    simp only [List.getD_eq_getElem?_getD, List.getElem?_map] at h1 ⊢
    cases h2 : ys[i]? <;> cases h3 : zs[i]? <;> simp_all
  unfold trnB brkB
  rw [hg a, hg (a - 1)]
end Go.Proofs.Ytdgfnceipginkaa
