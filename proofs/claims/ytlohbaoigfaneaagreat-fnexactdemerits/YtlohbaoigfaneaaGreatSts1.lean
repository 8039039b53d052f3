import Derived.Test.YtlohbaoigfaneaaGreatLrw
namespace Go.Proofs.YtlohbaoigfaneaaGreat
open Go.RowKit
set_option linter.unusedVariables false
set_option linter.unusedSimpArgs false
theorem cost_any (x : Int) (w : World) : Calls Tryz.prog 99 #[.int .i64 x] w fun e w' => e = .returned (.bool (uptoB x 1000000)) ∧ w' = w := by
 by_cases h1 : 0 ≤ x
 ·by_cases h2 : x ≤ 1000000
  ·rw [upto_yes h1 h2]
   go_enter Tryz.func99, Tryz.ntmps99
   go_wp2
   go_ret
   exact ⟨rfl, rfl⟩
  ·rw [upto_no (by omega)]
   go_enter Tryz.func99, Tryz.ntmps99
   go_wp2
   go_ret
   exact ⟨rfl, rfl⟩
 ·rw [upto_no (by omega)]
  go_enter Tryz.func99, Tryz.ntmps99
  go_wp2
  go_ret
  exact ⟨rfl, rfl⟩
set_option maxHeartbeats 8000000 in
theorem specStyle_any (x : Sy) (w : World) : Calls Tryz.prog 52 #[syV x] w fun e w' => e = .returned (.bool (syB x)) ∧ Below w.heap.size w w' := by
 obtain ⟨wd, nw, hg, tl, ln, hy, du, ad, l0, l1, l2, l3, l4, r0, r1, r2, r3, r4, f0, f1, f2, f3, f4⟩ := x
 simp only [syV]
 by_cases p_wd : 0 ≤ wd
 case neg =>
  have q : uptoB wd 1073741823 = false := upto_no (by omega)
  have hB : syB ⟨wd, nw, hg, tl, ln, hy, du, ad, l0, l1, l2, l3, l4, r0, r1, r2, r3, r4, f0, f1, f2, f3, f4⟩ = false := by simp [syB, q]
  rw [hB]
  clear hB q
  go_enter Tryz.func52, Tryz.ntmps52
  go_wp2_with (go_at_call 99; refine (cost_any _ _).mono ?_; rintro e w' ⟨rfl, rfl⟩)
  go_ret
  exact ⟨rfl, below1 _ _⟩
 case pos =>
  by_cases q_wd : wd ≤ 1073741823
  case neg =>
   have q : uptoB wd 1073741823 = false := upto_no (by omega)
   have hB : syB ⟨wd, nw, hg, tl, ln, hy, du, ad, l0, l1, l2, l3, l4, r0, r1, r2, r3, r4, f0, f1, f2, f3, f4⟩ = false := by simp [syB, q]
   rw [hB]
   clear hB q
   go_enter Tryz.func52, Tryz.ntmps52
   go_wp2_with (go_at_call 99; refine (cost_any _ _).mono ?_; rintro e w' ⟨rfl, rfl⟩)
   go_ret
   exact ⟨rfl, below1 _ _⟩
  case pos =>
   by_cases p_nw : 0 ≤ nw
   case neg =>
    have q : uptoB nw 1073741823 = false := upto_no (by omega)
    have hB : syB ⟨wd, nw, hg, tl, ln, hy, du, ad, l0, l1, l2, l3, l4, r0, r1, r2, r3, r4, f0, f1, f2, f3, f4⟩ = false := by simp [syB, q]
    rw [hB]
    clear hB q
    go_enter Tryz.func52, Tryz.ntmps52
    go_wp2_with (go_at_call 99; refine (cost_any _ _).mono ?_; rintro e w' ⟨rfl, rfl⟩)
    go_ret
    exact ⟨rfl, below1 _ _⟩
   case pos =>
    by_cases q_nw : nw ≤ 1073741823
    case neg =>
     have q : uptoB nw 1073741823 = false := upto_no (by omega)
     have hB : syB ⟨wd, nw, hg, tl, ln, hy, du, ad, l0, l1, l2, l3, l4, r0, r1, r2, r3, r4, f0, f1, f2, f3, f4⟩ = false := by simp [syB, q]
     rw [hB]
     clear hB q
     go_enter Tryz.func52, Tryz.ntmps52
     go_wp2_with (go_at_call 99; refine (cost_any _ _).mono ?_; rintro e w' ⟨rfl, rfl⟩)
     go_ret
     exact ⟨rfl, below1 _ _⟩
    case pos =>
     by_cases p_hg : 0 ≤ hg
     case neg =>
      have q : uptoB hg 4 = false := upto_no (by omega)
      have hB : syB ⟨wd, nw, hg, tl, ln, hy, du, ad, l0, l1, l2, l3, l4, r0, r1, r2, r3, r4, f0, f1, f2, f3, f4⟩ = false := by simp [syB, q]
      rw [hB]
      clear hB q
      go_enter Tryz.func52, Tryz.ntmps52
      go_wp2_with (go_at_call 99; refine (cost_any _ _).mono ?_; rintro e w' ⟨rfl, rfl⟩)
      go_ret
      exact ⟨rfl, below1 _ _⟩
     case pos =>
      by_cases q_hg : hg ≤ 4
      case neg =>
       have q : uptoB hg 4 = false := upto_no (by omega)
       have hB : syB ⟨wd, nw, hg, tl, ln, hy, du, ad, l0, l1, l2, l3, l4, r0, r1, r2, r3, r4, f0, f1, f2, f3, f4⟩ = false := by simp [syB, q]
       rw [hB]
       clear hB q
       go_enter Tryz.func52, Tryz.ntmps52
       go_wp2_with (go_at_call 99; refine (cost_any _ _).mono ?_; rintro e w' ⟨rfl, rfl⟩)
       go_ret
       exact ⟨rfl, below1 _ _⟩
      case pos =>
       by_cases p_tl : 0 ≤ tl
       case neg =>
        have q : uptoB tl 10000 = false := upto_no (by omega)
        have hB : syB ⟨wd, nw, hg, tl, ln, hy, du, ad, l0, l1, l2, l3, l4, r0, r1, r2, r3, r4, f0, f1, f2, f3, f4⟩ = false := by simp [syB, q]
        rw [hB]
        clear hB q
        go_enter Tryz.func52, Tryz.ntmps52
        go_wp2_with (go_at_call 99; refine (cost_any _ _).mono ?_; rintro e w' ⟨rfl, rfl⟩)
        go_ret
        exact ⟨rfl, below1 _ _⟩
       case pos =>
        by_cases q_tl : tl ≤ 10000
        case neg =>
         have q : uptoB tl 10000 = false := upto_no (by omega)
         have hB : syB ⟨wd, nw, hg, tl, ln, hy, du, ad, l0, l1, l2, l3, l4, r0, r1, r2, r3, r4, f0, f1, f2, f3, f4⟩ = false := by simp [syB, q]
         rw [hB]
         clear hB q
         go_enter Tryz.func52, Tryz.ntmps52
         go_wp2_with (go_at_call 99; refine (cost_any _ _).mono ?_; rintro e w' ⟨rfl, rfl⟩)
         go_ret
         exact ⟨rfl, below1 _ _⟩
        case pos =>
         cases c_ln : uptoB ln 1000000
         case false =>
          have q : uptoB ln 10000 = false := up_less c_ln (by omega)
          have hB : syB ⟨wd, nw, hg, tl, ln, hy, du, ad, l0, l1, l2, l3, l4, r0, r1, r2, r3, r4, f0, f1, f2, f3, f4⟩ = false := by simp [syB, q]
          rw [hB]
          clear hB q
          go_enter Tryz.func52, Tryz.ntmps52
          go_wp2_with (go_at_call 99; refine (cost_any _ _).mono ?_; rintro e w' ⟨rfl, rfl⟩)
          go_ret
          exact ⟨rfl, below1 _ _⟩
         case true =>
          cases c_hy : uptoB hy 1000000
          case false =>
           have q : uptoB hy 10000 = false := up_less c_hy (by omega)
           have hB : syB ⟨wd, nw, hg, tl, ln, hy, du, ad, l0, l1, l2, l3, l4, r0, r1, r2, r3, r4, f0, f1, f2, f3, f4⟩ = false := by simp [syB, q]
           rw [hB]
           clear hB q
           go_enter Tryz.func52, Tryz.ntmps52
           go_wp2_with (go_at_call 99; refine (cost_any _ _).mono ?_; rintro e w' ⟨rfl, rfl⟩)
           go_ret
           exact ⟨rfl, below1 _ _⟩
          case true =>
           cases c_du : uptoB du 1000000
           case false =>
            have q : uptoB du 1000000 = false := up_less c_du (by omega)
            have hB : syB ⟨wd, nw, hg, tl, ln, hy, du, ad, l0, l1, l2, l3, l4, r0, r1, r2, r3, r4, f0, f1, f2, f3, f4⟩ = false := by simp [syB, q]
            rw [hB]
            clear hB q
            go_enter Tryz.func52, Tryz.ntmps52
            go_wp2_with (go_at_call 99; refine (cost_any _ _).mono ?_; rintro e w' ⟨rfl, rfl⟩)
            go_ret
            exact ⟨rfl, below1 _ _⟩
           case true =>
            cases c_ad : uptoB ad 1000000
            case false =>
             have q : uptoB ad 1000000 = false := up_less c_ad (by omega)
             have hB : syB ⟨wd, nw, hg, tl, ln, hy, du, ad, l0, l1, l2, l3, l4, r0, r1, r2, r3, r4, f0, f1, f2, f3, f4⟩ = false := by simp [syB, q]
             rw [hB]
             clear hB q
             go_enter Tryz.func52, Tryz.ntmps52
             go_wp2_with (go_at_call 99; refine (cost_any _ _).mono ?_; rintro e w' ⟨rfl, rfl⟩)
             go_ret
             exact ⟨rfl, below1 _ _⟩
            case true =>
             by_cases q_ln : ln ≤ 10000
             case neg =>
              have q : uptoB ln 10000 = false := upto_no (by omega)
              have hB : syB ⟨wd, nw, hg, tl, ln, hy, du, ad, l0, l1, l2, l3, l4, r0, r1, r2, r3, r4, f0, f1, f2, f3, f4⟩ = false := by simp [syB, q]
              rw [hB]
              clear hB q
              go_enter Tryz.func52, Tryz.ntmps52
              go_wp2_with (go_at_call 99; refine (cost_any _ _).mono ?_; rintro e w' ⟨rfl, rfl⟩)
              go_ret
              exact ⟨rfl, below1 _ _⟩
             case pos =>
              by_cases q_hy : hy ≤ 10000
              case neg =>
               have q : uptoB hy 10000 = false := upto_no (by omega)
               have hB : syB ⟨wd, nw, hg, tl, ln, hy, du, ad, l0, l1, l2, l3, l4, r0, r1, r2, r3, r4, f0, f1, f2, f3, f4⟩ = false := by simp [syB, q]
               rw [hB]
               clear hB q
               go_enter Tryz.func52, Tryz.ntmps52
               go_wp2_with (go_at_call 99; refine (cost_any _ _).mono ?_; rintro e w' ⟨rfl, rfl⟩)
               go_ret
               exact ⟨rfl, below1 _ _⟩
              case pos =>
               have p_ln : 0 ≤ ln := by simp [uptoB] at c_ln; omega
               have p_hy : 0 ≤ hy := by simp [uptoB] at c_hy; omega
               have u1 : uptoB wd 1073741823 = true := upto_yes (by omega) (by omega)
               have u2 : uptoB nw 1073741823 = true := upto_yes (by omega) (by omega)
               have u3 : uptoB hg 4 = true := upto_yes (by omega) (by omega)
               have u4 : uptoB tl 10000 = true := upto_yes (by omega) (by omega)
               have u5 : uptoB ln 10000 = true := upto_yes (by omega) (by omega)
               have u6 : uptoB hy 10000 = true := upto_yes (by omega) (by omega)
               have hB : syB ⟨wd, nw, hg, tl, ln, hy, du, ad, l0, l1, l2, l3, l4, r0, r1, r2, r3, r4, f0, f1, f2, f3, f4⟩ = (glB l0 l1 l2 l3 l4 && glB r0 r1 r2 r3 r4 && glB f0 f1 f2 f3 f4) := by simp [syB, u1, u2, u3, u4, u5, u6, c_du, c_ad, Bool.and_assoc]
               rw [hB]
               clear hB u1 u2 u3 u4 u5 u6 p_ln p_hy
               go_enter Tryz.func52, Tryz.ntmps52
               go_wp2_with (go_at_call 99; refine (cost_any _ _).mono ?_; rintro e w' ⟨rfl, rfl⟩)
               refine (specGlueOk_any _ _ _ _ _ _).mono ?_
               rintro e w1 ⟨rfl, hb1⟩
               have hs1 : w.heap.size < w1.heap.size := by have := hb1.size; simp at this; omega
               have B1 : Hid (Below w.heap.size w w1) := hideP (below_more (below1 _ _) hb1 (by simp))
               obtain ⟨hc1, hf1⟩ := bcell hb1
               try simp only [World.size_alloc] at hc1 hf1
               clear hb1
               cases g1 : glB l0 l1 l2 l3 l4
               ·go_wp2
                go_ret
                exact ⟨retB (by simp [g1]), B1.out⟩
               ·go_wp2_with fail
                refine (specGlueOk_any _ _ _ _ _ _).mono ?_
                rintro e w2 ⟨rfl, hb2⟩
                have hs2 : w.heap.size < w2.heap.size := by have := hb2.size; omega
                have B2 : Hid (Below w.heap.size w w2) := hideP (below_more B1.out hb2 B1.out.size)
                obtain ⟨hc2, hf2⟩ := bcell hb2
                try simp only [World.size_alloc] at hc2 hf2
                clear hb2
                cases g2 : glB r0 r1 r2 r3 r4
                ·go_wp2
                 go_ret
                 exact ⟨retB (by simp [g1, g2]), B2.out⟩
                ·go_wp2_with fail
                 refine (specGlueOk_any _ _ _ _ _ _).mono ?_
                 rintro e w3 ⟨rfl, hb3⟩
                 have hs3 : w.heap.size < w3.heap.size := by have := hb3.size; omega
                 have B3 : Hid (Below w.heap.size w w3) := hideP (below_more B2.out hb3 B2.out.size)
                 obtain ⟨hc3, hf3⟩ := bcell hb3
                 try simp only [World.size_alloc] at hc3 hf3
                 clear hb3
                 cases g3 : glB f0 f1 f2 f3 f4
                 ·go_wp2
                  go_ret
                  exact ⟨retB (by simp [g1, g2, g3]), B3.out⟩
                 ·go_wp2
                  go_ret
                  exact ⟨retB (by simp [g1, g2, g3]), B3.out⟩
end Go.Proofs.YtlohbaoigfaneaaGreat
