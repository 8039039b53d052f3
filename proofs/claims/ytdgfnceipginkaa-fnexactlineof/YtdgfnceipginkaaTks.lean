/-
  A step of a region that draws, in few words.
-/
import Derived.Test.YtdgfnceipginkaaSti2
import Derived.Test.YtdgfnceipginkaaSti4
import Derived.Test.YtdgfnceipginkaaRowg
import Derived.Deep.RegionHeld3
import Derived.Deep.MidRow
namespace Go.Proofs.Ytdgfnceipginkaa
open Go.RowKit
set_option linter.unusedVariables false
set_option linter.unusedSimpArgs false

set_option maxHeartbeats 8000000 in
theorem implStyle_any (x : Sy) (w : World) : Calls Try.prog 30 #[syV x] w fun e w' => e = .returned (.bool (syB x)) ∧ Below w.heap.size w w' := by
  obtain ⟨wd, nw, hg, tl, ln, hy, du, ad, l0, l1, l2, l3, l4, r0, r1, r2, r3, r4, f0, f1, f2, f3, f4⟩ := x
  simp only [syV]
  cases h_wd : uptoB wd 1073741823
  case false =>
    cases h_tl : uptoB tl 10000
    case false =>
      cases h_du : uptoB du 1000000
      case false =>
        rw [show syB ⟨wd, nw, hg, tl, ln, hy, du, ad, l0, l1, l2, l3, l4, r0, r1, r2, r3, r4, f0, f1, f2, f3, f4⟩ = false by simp [syB, h_wd, h_tl, h_du]]
        exact st_0 _ _ _ _ _ _ _ _ _ _ _ _ _ _ _ _ _ _ _ _ _ _ _ w h_wd h_tl h_du
      case true =>
        cases h_ad : uptoB ad 1000000
        case false =>
          rw [show syB ⟨wd, nw, hg, tl, ln, hy, du, ad, l0, l1, l2, l3, l4, r0, r1, r2, r3, r4, f0, f1, f2, f3, f4⟩ = false by simp [syB, h_wd, h_tl, h_du, h_ad]]
          exact st_1 _ _ _ _ _ _ _ _ _ _ _ _ _ _ _ _ _ _ _ _ _ _ _ w h_wd h_tl h_du h_ad
        case true =>
          rw [show syB ⟨wd, nw, hg, tl, ln, hy, du, ad, l0, l1, l2, l3, l4, r0, r1, r2, r3, r4, f0, f1, f2, f3, f4⟩ = false by simp [syB, h_wd, h_tl, h_du, h_ad]]
          exact st_2 _ _ _ _ _ _ _ _ _ _ _ _ _ _ _ _ _ _ _ _ _ _ _ w h_wd h_tl h_du h_ad
    case true =>
      cases h_ln : uptoB ln 10000
      case false =>
        cases h_du : uptoB du 1000000
        case false =>
          rw [show syB ⟨wd, nw, hg, tl, ln, hy, du, ad, l0, l1, l2, l3, l4, r0, r1, r2, r3, r4, f0, f1, f2, f3, f4⟩ = false by simp [syB, h_wd, h_tl, h_ln, h_du]]
          exact st_3 _ _ _ _ _ _ _ _ _ _ _ _ _ _ _ _ _ _ _ _ _ _ _ w h_wd h_tl h_ln h_du
        case true =>
          cases h_ad : uptoB ad 1000000
          case false =>
            rw [show syB ⟨wd, nw, hg, tl, ln, hy, du, ad, l0, l1, l2, l3, l4, r0, r1, r2, r3, r4, f0, f1, f2, f3, f4⟩ = false by simp [syB, h_wd, h_tl, h_ln, h_du, h_ad]]
            exact st_4 _ _ _ _ _ _ _ _ _ _ _ _ _ _ _ _ _ _ _ _ _ _ _ w h_wd h_tl h_ln h_du h_ad
          case true =>
            rw [show syB ⟨wd, nw, hg, tl, ln, hy, du, ad, l0, l1, l2, l3, l4, r0, r1, r2, r3, r4, f0, f1, f2, f3, f4⟩ = false by simp [syB, h_wd, h_tl, h_ln, h_du, h_ad]]
            exact st_5 _ _ _ _ _ _ _ _ _ _ _ _ _ _ _ _ _ _ _ _ _ _ _ w h_wd h_tl h_ln h_du h_ad
      case true =>
        cases h_hy : uptoB hy 10000
        case false =>
          cases h_du : uptoB du 1000000
          case false =>
            rw [show syB ⟨wd, nw, hg, tl, ln, hy, du, ad, l0, l1, l2, l3, l4, r0, r1, r2, r3, r4, f0, f1, f2, f3, f4⟩ = false by simp [syB, h_wd, h_tl, h_ln, h_hy, h_du]]
            exact st_6 _ _ _ _ _ _ _ _ _ _ _ _ _ _ _ _ _ _ _ _ _ _ _ w h_wd h_tl h_ln h_hy h_du
          case true =>
            cases h_ad : uptoB ad 1000000
            case false =>
              rw [show syB ⟨wd, nw, hg, tl, ln, hy, du, ad, l0, l1, l2, l3, l4, r0, r1, r2, r3, r4, f0, f1, f2, f3, f4⟩ = false by simp [syB, h_wd, h_tl, h_ln, h_hy, h_du, h_ad]]
              exact st_7 _ _ _ _ _ _ _ _ _ _ _ _ _ _ _ _ _ _ _ _ _ _ _ w h_wd h_tl h_ln h_hy h_du h_ad
            case true =>
              rw [show syB ⟨wd, nw, hg, tl, ln, hy, du, ad, l0, l1, l2, l3, l4, r0, r1, r2, r3, r4, f0, f1, f2, f3, f4⟩ = false by simp [syB, h_wd, h_tl, h_ln, h_hy, h_du, h_ad]]
              exact st_8 _ _ _ _ _ _ _ _ _ _ _ _ _ _ _ _ _ _ _ _ _ _ _ w h_wd h_tl h_ln h_hy h_du h_ad
        case true =>
          cases h_du : uptoB du 1000000
          case false =>
            rw [show syB ⟨wd, nw, hg, tl, ln, hy, du, ad, l0, l1, l2, l3, l4, r0, r1, r2, r3, r4, f0, f1, f2, f3, f4⟩ = false by simp [syB, h_wd, h_tl, h_ln, h_hy, h_du]]
            exact st_9 _ _ _ _ _ _ _ _ _ _ _ _ _ _ _ _ _ _ _ _ _ _ _ w h_wd h_tl h_ln h_hy h_du
          case true =>
            cases h_ad : uptoB ad 1000000
            case false =>
              rw [show syB ⟨wd, nw, hg, tl, ln, hy, du, ad, l0, l1, l2, l3, l4, r0, r1, r2, r3, r4, f0, f1, f2, f3, f4⟩ = false by simp [syB, h_wd, h_tl, h_ln, h_hy, h_du, h_ad]]
              exact st_10 _ _ _ _ _ _ _ _ _ _ _ _ _ _ _ _ _ _ _ _ _ _ _ w h_wd h_tl h_ln h_hy h_du h_ad
            case true =>
              rw [show syB ⟨wd, nw, hg, tl, ln, hy, du, ad, l0, l1, l2, l3, l4, r0, r1, r2, r3, r4, f0, f1, f2, f3, f4⟩ = false by simp [syB, h_wd, h_tl, h_ln, h_hy, h_du, h_ad]]
              exact st_11 _ _ _ _ _ _ _ _ _ _ _ _ _ _ _ _ _ _ _ _ _ _ _ w h_wd h_tl h_ln h_hy h_du h_ad
  case true =>
    cases h_nw : uptoB nw 1073741823
    case false =>
      cases h_tl : uptoB tl 10000
      case false =>
        cases h_du : uptoB du 1000000
        case false =>
          rw [show syB ⟨wd, nw, hg, tl, ln, hy, du, ad, l0, l1, l2, l3, l4, r0, r1, r2, r3, r4, f0, f1, f2, f3, f4⟩ = false by simp [syB, h_wd, h_nw, h_tl, h_du]]
          exact st_12 _ _ _ _ _ _ _ _ _ _ _ _ _ _ _ _ _ _ _ _ _ _ _ w h_wd h_nw h_tl h_du
        case true =>
          cases h_ad : uptoB ad 1000000
          case false =>
            rw [show syB ⟨wd, nw, hg, tl, ln, hy, du, ad, l0, l1, l2, l3, l4, r0, r1, r2, r3, r4, f0, f1, f2, f3, f4⟩ = false by simp [syB, h_wd, h_nw, h_tl, h_du, h_ad]]
            exact st_13 _ _ _ _ _ _ _ _ _ _ _ _ _ _ _ _ _ _ _ _ _ _ _ w h_wd h_nw h_tl h_du h_ad
          case true =>
            rw [show syB ⟨wd, nw, hg, tl, ln, hy, du, ad, l0, l1, l2, l3, l4, r0, r1, r2, r3, r4, f0, f1, f2, f3, f4⟩ = false by simp [syB, h_wd, h_nw, h_tl, h_du, h_ad]]
            exact st_14 _ _ _ _ _ _ _ _ _ _ _ _ _ _ _ _ _ _ _ _ _ _ _ w h_wd h_nw h_tl h_du h_ad
      case true =>
        cases h_ln : uptoB ln 10000
        case false =>
          cases h_du : uptoB du 1000000
          case false =>
            rw [show syB ⟨wd, nw, hg, tl, ln, hy, du, ad, l0, l1, l2, l3, l4, r0, r1, r2, r3, r4, f0, f1, f2, f3, f4⟩ = false by simp [syB, h_wd, h_nw, h_tl, h_ln, h_du]]
            exact st_15 _ _ _ _ _ _ _ _ _ _ _ _ _ _ _ _ _ _ _ _ _ _ _ w h_wd h_nw h_tl h_ln h_du
          case true =>
            cases h_ad : uptoB ad 1000000
            case false =>
              rw [show syB ⟨wd, nw, hg, tl, ln, hy, du, ad, l0, l1, l2, l3, l4, r0, r1, r2, r3, r4, f0, f1, f2, f3, f4⟩ = false by simp [syB, h_wd, h_nw, h_tl, h_ln, h_du, h_ad]]
              exact st_16 _ _ _ _ _ _ _ _ _ _ _ _ _ _ _ _ _ _ _ _ _ _ _ w h_wd h_nw h_tl h_ln h_du h_ad
            case true =>
              rw [show syB ⟨wd, nw, hg, tl, ln, hy, du, ad, l0, l1, l2, l3, l4, r0, r1, r2, r3, r4, f0, f1, f2, f3, f4⟩ = false by simp [syB, h_wd, h_nw, h_tl, h_ln, h_du, h_ad]]
              exact st_17 _ _ _ _ _ _ _ _ _ _ _ _ _ _ _ _ _ _ _ _ _ _ _ w h_wd h_nw h_tl h_ln h_du h_ad
        case true =>
          cases h_hy : uptoB hy 10000
          case false =>
            cases h_du : uptoB du 1000000
            case false =>
              rw [show syB ⟨wd, nw, hg, tl, ln, hy, du, ad, l0, l1, l2, l3, l4, r0, r1, r2, r3, r4, f0, f1, f2, f3, f4⟩ = false by simp [syB, h_wd, h_nw, h_tl, h_ln, h_hy, h_du]]
              exact st_18 _ _ _ _ _ _ _ _ _ _ _ _ _ _ _ _ _ _ _ _ _ _ _ w h_wd h_nw h_tl h_ln h_hy h_du
            case true =>
              cases h_ad : uptoB ad 1000000
              case false =>
                rw [show syB ⟨wd, nw, hg, tl, ln, hy, du, ad, l0, l1, l2, l3, l4, r0, r1, r2, r3, r4, f0, f1, f2, f3, f4⟩ = false by simp [syB, h_wd, h_nw, h_tl, h_ln, h_hy, h_du, h_ad]]
                exact st_19 _ _ _ _ _ _ _ _ _ _ _ _ _ _ _ _ _ _ _ _ _ _ _ w h_wd h_nw h_tl h_ln h_hy h_du h_ad
              case true =>
                rw [show syB ⟨wd, nw, hg, tl, ln, hy, du, ad, l0, l1, l2, l3, l4, r0, r1, r2, r3, r4, f0, f1, f2, f3, f4⟩ = false by simp [syB, h_wd, h_nw, h_tl, h_ln, h_hy, h_du, h_ad]]
                exact st_20 _ _ _ _ _ _ _ _ _ _ _ _ _ _ _ _ _ _ _ _ _ _ _ w h_wd h_nw h_tl h_ln h_hy h_du h_ad
          case true =>
            cases h_du : uptoB du 1000000
            case false =>
              rw [show syB ⟨wd, nw, hg, tl, ln, hy, du, ad, l0, l1, l2, l3, l4, r0, r1, r2, r3, r4, f0, f1, f2, f3, f4⟩ = false by simp [syB, h_wd, h_nw, h_tl, h_ln, h_hy, h_du]]
              exact st_21 _ _ _ _ _ _ _ _ _ _ _ _ _ _ _ _ _ _ _ _ _ _ _ w h_wd h_nw h_tl h_ln h_hy h_du
            case true =>
              cases h_ad : uptoB ad 1000000
              case false =>
                rw [show syB ⟨wd, nw, hg, tl, ln, hy, du, ad, l0, l1, l2, l3, l4, r0, r1, r2, r3, r4, f0, f1, f2, f3, f4⟩ = false by simp [syB, h_wd, h_nw, h_tl, h_ln, h_hy, h_du, h_ad]]
                exact st_22 _ _ _ _ _ _ _ _ _ _ _ _ _ _ _ _ _ _ _ _ _ _ _ w h_wd h_nw h_tl h_ln h_hy h_du h_ad
              case true =>
                rw [show syB ⟨wd, nw, hg, tl, ln, hy, du, ad, l0, l1, l2, l3, l4, r0, r1, r2, r3, r4, f0, f1, f2, f3, f4⟩ = false by simp [syB, h_wd, h_nw, h_tl, h_ln, h_hy, h_du, h_ad]]
                exact st_23 _ _ _ _ _ _ _ _ _ _ _ _ _ _ _ _ _ _ _ _ _ _ _ w h_wd h_nw h_tl h_ln h_hy h_du h_ad
    case true =>
      cases h_hg : uptoB hg 4
      case false =>
        cases h_tl : uptoB tl 10000
        case false =>
          cases h_du : uptoB du 1000000
          case false =>
            rw [show syB ⟨wd, nw, hg, tl, ln, hy, du, ad, l0, l1, l2, l3, l4, r0, r1, r2, r3, r4, f0, f1, f2, f3, f4⟩ = false by simp [syB, h_wd, h_nw, h_hg, h_tl, h_du]]
            exact st_24 _ _ _ _ _ _ _ _ _ _ _ _ _ _ _ _ _ _ _ _ _ _ _ w h_wd h_nw h_hg h_tl h_du
          case true =>
            cases h_ad : uptoB ad 1000000
            case false =>
              rw [show syB ⟨wd, nw, hg, tl, ln, hy, du, ad, l0, l1, l2, l3, l4, r0, r1, r2, r3, r4, f0, f1, f2, f3, f4⟩ = false by simp [syB, h_wd, h_nw, h_hg, h_tl, h_du, h_ad]]
              exact st_25 _ _ _ _ _ _ _ _ _ _ _ _ _ _ _ _ _ _ _ _ _ _ _ w h_wd h_nw h_hg h_tl h_du h_ad
            case true =>
              rw [show syB ⟨wd, nw, hg, tl, ln, hy, du, ad, l0, l1, l2, l3, l4, r0, r1, r2, r3, r4, f0, f1, f2, f3, f4⟩ = false by simp [syB, h_wd, h_nw, h_hg, h_tl, h_du, h_ad]]
              exact st_26 _ _ _ _ _ _ _ _ _ _ _ _ _ _ _ _ _ _ _ _ _ _ _ w h_wd h_nw h_hg h_tl h_du h_ad
        case true =>
          cases h_ln : uptoB ln 10000
          case false =>
            cases h_du : uptoB du 1000000
            case false =>
              rw [show syB ⟨wd, nw, hg, tl, ln, hy, du, ad, l0, l1, l2, l3, l4, r0, r1, r2, r3, r4, f0, f1, f2, f3, f4⟩ = false by simp [syB, h_wd, h_nw, h_hg, h_tl, h_ln, h_du]]
              exact st_27 _ _ _ _ _ _ _ _ _ _ _ _ _ _ _ _ _ _ _ _ _ _ _ w h_wd h_nw h_hg h_tl h_ln h_du
            case true =>
              cases h_ad : uptoB ad 1000000
              case false =>
                rw [show syB ⟨wd, nw, hg, tl, ln, hy, du, ad, l0, l1, l2, l3, l4, r0, r1, r2, r3, r4, f0, f1, f2, f3, f4⟩ = false by simp [syB, h_wd, h_nw, h_hg, h_tl, h_ln, h_du, h_ad]]
                exact st_28 _ _ _ _ _ _ _ _ _ _ _ _ _ _ _ _ _ _ _ _ _ _ _ w h_wd h_nw h_hg h_tl h_ln h_du h_ad
              case true =>
                rw [show syB ⟨wd, nw, hg, tl, ln, hy, du, ad, l0, l1, l2, l3, l4, r0, r1, r2, r3, r4, f0, f1, f2, f3, f4⟩ = false by simp [syB, h_wd, h_nw, h_hg, h_tl, h_ln, h_du, h_ad]]
                exact st_29 _ _ _ _ _ _ _ _ _ _ _ _ _ _ _ _ _ _ _ _ _ _ _ w h_wd h_nw h_hg h_tl h_ln h_du h_ad
          case true =>
            cases h_hy : uptoB hy 10000
            case false =>
              cases h_du : uptoB du 1000000
              case false =>
                rw [show syB ⟨wd, nw, hg, tl, ln, hy, du, ad, l0, l1, l2, l3, l4, r0, r1, r2, r3, r4, f0, f1, f2, f3, f4⟩ = false by simp [syB, h_wd, h_nw, h_hg, h_tl, h_ln, h_hy, h_du]]
                exact st_30 _ _ _ _ _ _ _ _ _ _ _ _ _ _ _ _ _ _ _ _ _ _ _ w h_wd h_nw h_hg h_tl h_ln h_hy h_du
              case true =>
                cases h_ad : uptoB ad 1000000
                case false =>
                  rw [show syB ⟨wd, nw, hg, tl, ln, hy, du, ad, l0, l1, l2, l3, l4, r0, r1, r2, r3, r4, f0, f1, f2, f3, f4⟩ = false by simp [syB, h_wd, h_nw, h_hg, h_tl, h_ln, h_hy, h_du, h_ad]]
                  exact st_31 _ _ _ _ _ _ _ _ _ _ _ _ _ _ _ _ _ _ _ _ _ _ _ w h_wd h_nw h_hg h_tl h_ln h_hy h_du h_ad
                case true =>
                  rw [show syB ⟨wd, nw, hg, tl, ln, hy, du, ad, l0, l1, l2, l3, l4, r0, r1, r2, r3, r4, f0, f1, f2, f3, f4⟩ = false by simp [syB, h_wd, h_nw, h_hg, h_tl, h_ln, h_hy, h_du, h_ad]]
                  exact st_32 _ _ _ _ _ _ _ _ _ _ _ _ _ _ _ _ _ _ _ _ _ _ _ w h_wd h_nw h_hg h_tl h_ln h_hy h_du h_ad
            case true =>
              cases h_du : uptoB du 1000000
              case false =>
                rw [show syB ⟨wd, nw, hg, tl, ln, hy, du, ad, l0, l1, l2, l3, l4, r0, r1, r2, r3, r4, f0, f1, f2, f3, f4⟩ = false by simp [syB, h_wd, h_nw, h_hg, h_tl, h_ln, h_hy, h_du]]
                exact st_33 _ _ _ _ _ _ _ _ _ _ _ _ _ _ _ _ _ _ _ _ _ _ _ w h_wd h_nw h_hg h_tl h_ln h_hy h_du
              case true =>
                cases h_ad : uptoB ad 1000000
                case false =>
                  rw [show syB ⟨wd, nw, hg, tl, ln, hy, du, ad, l0, l1, l2, l3, l4, r0, r1, r2, r3, r4, f0, f1, f2, f3, f4⟩ = false by simp [syB, h_wd, h_nw, h_hg, h_tl, h_ln, h_hy, h_du, h_ad]]
                  exact st_34 _ _ _ _ _ _ _ _ _ _ _ _ _ _ _ _ _ _ _ _ _ _ _ w h_wd h_nw h_hg h_tl h_ln h_hy h_du h_ad
                case true =>
                  rw [show syB ⟨wd, nw, hg, tl, ln, hy, du, ad, l0, l1, l2, l3, l4, r0, r1, r2, r3, r4, f0, f1, f2, f3, f4⟩ = false by simp [syB, h_wd, h_nw, h_hg, h_tl, h_ln, h_hy, h_du, h_ad]]
                  exact st_35 _ _ _ _ _ _ _ _ _ _ _ _ _ _ _ _ _ _ _ _ _ _ _ w h_wd h_nw h_hg h_tl h_ln h_hy h_du h_ad
      case true =>
        cases h_tl : uptoB tl 10000
        case false =>
          cases h_du : uptoB du 1000000
          case false =>
            rw [show syB ⟨wd, nw, hg, tl, ln, hy, du, ad, l0, l1, l2, l3, l4, r0, r1, r2, r3, r4, f0, f1, f2, f3, f4⟩ = false by simp [syB, h_wd, h_nw, h_hg, h_tl, h_du]]
            exact st_36 _ _ _ _ _ _ _ _ _ _ _ _ _ _ _ _ _ _ _ _ _ _ _ w h_wd h_nw h_hg h_tl h_du
          case true =>
            cases h_ad : uptoB ad 1000000
            case false =>
              rw [show syB ⟨wd, nw, hg, tl, ln, hy, du, ad, l0, l1, l2, l3, l4, r0, r1, r2, r3, r4, f0, f1, f2, f3, f4⟩ = false by simp [syB, h_wd, h_nw, h_hg, h_tl, h_du, h_ad]]
              exact st_37 _ _ _ _ _ _ _ _ _ _ _ _ _ _ _ _ _ _ _ _ _ _ _ w h_wd h_nw h_hg h_tl h_du h_ad
            case true =>
              rw [show syB ⟨wd, nw, hg, tl, ln, hy, du, ad, l0, l1, l2, l3, l4, r0, r1, r2, r3, r4, f0, f1, f2, f3, f4⟩ = false by simp [syB, h_wd, h_nw, h_hg, h_tl, h_du, h_ad]]
              exact st_38 _ _ _ _ _ _ _ _ _ _ _ _ _ _ _ _ _ _ _ _ _ _ _ w h_wd h_nw h_hg h_tl h_du h_ad
        case true =>
          cases h_ln : uptoB ln 10000
          case false =>
            cases h_du : uptoB du 1000000
            case false =>
              rw [show syB ⟨wd, nw, hg, tl, ln, hy, du, ad, l0, l1, l2, l3, l4, r0, r1, r2, r3, r4, f0, f1, f2, f3, f4⟩ = false by simp [syB, h_wd, h_nw, h_hg, h_tl, h_ln, h_du]]
              exact st_39 _ _ _ _ _ _ _ _ _ _ _ _ _ _ _ _ _ _ _ _ _ _ _ w h_wd h_nw h_hg h_tl h_ln h_du
            case true =>
              cases h_ad : uptoB ad 1000000
              case false =>
                rw [show syB ⟨wd, nw, hg, tl, ln, hy, du, ad, l0, l1, l2, l3, l4, r0, r1, r2, r3, r4, f0, f1, f2, f3, f4⟩ = false by simp [syB, h_wd, h_nw, h_hg, h_tl, h_ln, h_du, h_ad]]
                exact st_40 _ _ _ _ _ _ _ _ _ _ _ _ _ _ _ _ _ _ _ _ _ _ _ w h_wd h_nw h_hg h_tl h_ln h_du h_ad
              case true =>
                rw [show syB ⟨wd, nw, hg, tl, ln, hy, du, ad, l0, l1, l2, l3, l4, r0, r1, r2, r3, r4, f0, f1, f2, f3, f4⟩ = false by simp [syB, h_wd, h_nw, h_hg, h_tl, h_ln, h_du, h_ad]]
                exact st_41 _ _ _ _ _ _ _ _ _ _ _ _ _ _ _ _ _ _ _ _ _ _ _ w h_wd h_nw h_hg h_tl h_ln h_du h_ad
          case true =>
            cases h_hy : uptoB hy 10000
            case false =>
              cases h_du : uptoB du 1000000
              case false =>
                rw [show syB ⟨wd, nw, hg, tl, ln, hy, du, ad, l0, l1, l2, l3, l4, r0, r1, r2, r3, r4, f0, f1, f2, f3, f4⟩ = false by simp [syB, h_wd, h_nw, h_hg, h_tl, h_ln, h_hy, h_du]]
                exact st_42 _ _ _ _ _ _ _ _ _ _ _ _ _ _ _ _ _ _ _ _ _ _ _ w h_wd h_nw h_hg h_tl h_ln h_hy h_du
              case true =>
                cases h_ad : uptoB ad 1000000
                case false =>
                  rw [show syB ⟨wd, nw, hg, tl, ln, hy, du, ad, l0, l1, l2, l3, l4, r0, r1, r2, r3, r4, f0, f1, f2, f3, f4⟩ = false by simp [syB, h_wd, h_nw, h_hg, h_tl, h_ln, h_hy, h_du, h_ad]]
                  exact st_43 _ _ _ _ _ _ _ _ _ _ _ _ _ _ _ _ _ _ _ _ _ _ _ w h_wd h_nw h_hg h_tl h_ln h_hy h_du h_ad
                case true =>
                  rw [show syB ⟨wd, nw, hg, tl, ln, hy, du, ad, l0, l1, l2, l3, l4, r0, r1, r2, r3, r4, f0, f1, f2, f3, f4⟩ = false by simp [syB, h_wd, h_nw, h_hg, h_tl, h_ln, h_hy, h_du, h_ad]]
                  exact st_44 _ _ _ _ _ _ _ _ _ _ _ _ _ _ _ _ _ _ _ _ _ _ _ w h_wd h_nw h_hg h_tl h_ln h_hy h_du h_ad
            case true =>
              cases h_du : uptoB du 1000000
              case false =>
                rw [show syB ⟨wd, nw, hg, tl, ln, hy, du, ad, l0, l1, l2, l3, l4, r0, r1, r2, r3, r4, f0, f1, f2, f3, f4⟩ = false by simp [syB, h_wd, h_nw, h_hg, h_tl, h_ln, h_hy, h_du]]
                exact st_45 _ _ _ _ _ _ _ _ _ _ _ _ _ _ _ _ _ _ _ _ _ _ _ w h_wd h_nw h_hg h_tl h_ln h_hy h_du
              case true =>
                cases h_ad : uptoB ad 1000000
                case false =>
                  rw [show syB ⟨wd, nw, hg, tl, ln, hy, du, ad, l0, l1, l2, l3, l4, r0, r1, r2, r3, r4, f0, f1, f2, f3, f4⟩ = false by simp [syB, h_wd, h_nw, h_hg, h_tl, h_ln, h_hy, h_du, h_ad]]
                  exact st_46 _ _ _ _ _ _ _ _ _ _ _ _ _ _ _ _ _ _ _ _ _ _ _ w h_wd h_nw h_hg h_tl h_ln h_hy h_du h_ad
                case true =>
                  rw [show syB ⟨wd, nw, hg, tl, ln, hy, du, ad, l0, l1, l2, l3, l4, r0, r1, r2, r3, r4, f0, f1, f2, f3, f4⟩ = (glB l0 l1 l2 l3 l4 && glB r0 r1 r2 r3 r4 && glB f0 f1 f2 f3 f4) by simp [syB, h_wd, h_nw, h_hg, h_tl, h_ln, h_hy, h_du, h_ad, Bool.and_assoc]]
                  exact st_47 _ _ _ _ _ _ _ _ _ _ _ _ _ _ _ _ _ _ _ _ _ _ _ w h_wd h_nw h_hg h_tl h_ln h_hy h_du h_ad

section
variable {P : Program} {ops : Array Oper} {Q : Exit → Act → World → Prop} {md : Region.Mode} {S : World → Prop} {i : Nat} {oi : Oper} {v : Value} {fuel : Nat} {listed : Array Bool} {a : Act} {w : World}
theorem tkS (hi : ops[i]? = some oi) (hS : S w) (h : wpAnyH P md ops Q S fuel (listed.setIfInBounds i true) (a.put oi.dst v) w)
    (hb : (Region.noSelect ops && (Region.free md ops listed i && (Region.ready md ops listed).contains i)) = true := by kernel_rfl) (hw : Region.wanted oi (yielded ops a.tmps) = true := by first | rfl | go_simp) (hr : ∀ w, S w → (execOp a.eval oi).run P w = .ok (.value v) w := by intro wx hx; go_split_ands; go_simp)
    (hQ : ∀ c a w, Q (.panic c) (a.put oi.dst v) w → Q (.panic c) a w := by exact fun _ _ _ h => h) : wpAnyH P md ops Q S (fuel + 1) listed a w := by
  simp only [Bool.and_eq_true] at hb
  exact wpAnyH_take hi hb.1 hb.2.1 hb.2.2 hQ (Or.inl ⟨hw, hr⟩) hS h
theorem rdS (hi : ops[i]? = some oi) (h : ∀ K : Act → World → Prop, Shut (∀ a w, S w → (S w → wpAnyH P md ops Q S fuel (listed.setIfInBounds i true) a w) → K a w) → Oper.wp P oi a w K Q)
    (hr : Region.ready md ops listed = [i] := by kernel_rfl) (hw : Region.wanted oi (yielded ops a.tmps) = true := by first | rfl | go_simp) : wpAnyH P md ops Q S (fuel + 1) listed a w :=
  wpAnyH_ready hr (by simp) (AllReadyH.cons hi (fun K hK => by rw [if_pos hw]; exact h K hK) AllReadyH.nil)
end
end Go.Proofs.Ytdgfnceipginkaa
