/-
  The walk of impl.MeanOk.
-/
import Derived.Test.YtflpjfgodkodiaaMokA
import Derived.Test.YtflpjfgodkodiaaMokB
import Derived.Test.YtflpjfgodkodiaaMokC
import Derived.Test.YtflpjfgodkodiaaMokD
namespace Go.Proofs.Ytflpjfgodkodiaa
open Go.RowKit
set_option linter.unusedVariables false
set_option linter.unusedSimpArgs false

theorem implMeanOk_any {k n : Int} {t : Tk} {vp vb : Value} {p b : List Tk} {sl : Int} {w : World} (hp : TRow w vp p) (hb : TRow w vb b) (lp : p.length ≤ 1048576) (lb : b.length ≤ 1048576) :
    Calls Try.prog 11 #[meanV k n t vp sl vb] w fun e w' => e = .returned (.bool (meanB k n t p sl b)) ∧ Below w.heap.size w w' := by
  have hp0 := hp
  have hb0 := hb
  obtain ⟨ao, n1, cap, rfl, hx, hy⟩ := hp
  obtain ⟨ao2, n2, cap2, rfl, hx2, hy2⟩ := hb
  obtain ⟨c, h, s⟩ := t
  rcases noTok_ways c h s with ⟨hc, hh, hs, hnt⟩ | ⟨hc, hnt⟩ | ⟨hc, hh, hnt⟩ | ⟨hc, hh, hs, hnt⟩
  · rcases noMac_ways p b sl hx hx2 with ⟨g1, g2, g3, hnm⟩ | ⟨g1, hnm⟩ | ⟨g1, g2, hnm⟩ | ⟨g1, g2, g3, hnm⟩
    · exact implMeanOk_Aa hp0 hb0 lp lb hc hh hs hnt g1 g2 g3 hnm
    · exact implMeanOk_Ab hp0 hb0 lp lb hc hh hs hnt g1 hnm
    · exact implMeanOk_Ac hp0 hb0 lp lb hc hh hs hnt g1 g2 hnm
    · exact implMeanOk_Ad hp0 hb0 lp lb hc hh hs hnt g1 g2 g3 hnm
  · rcases noMac_ways p b sl hx hx2 with ⟨g1, g2, g3, hnm⟩ | ⟨g1, hnm⟩ | ⟨g1, g2, hnm⟩ | ⟨g1, g2, g3, hnm⟩
    · exact implMeanOk_Ba hp0 hb0 lp lb hc hnt g1 g2 g3 hnm
    · exact implMeanOk_Bb hp0 hb0 lp lb hc hnt g1 hnm
    · exact implMeanOk_Bc hp0 hb0 lp lb hc hnt g1 g2 hnm
    · exact implMeanOk_Bd hp0 hb0 lp lb hc hnt g1 g2 g3 hnm
  · rcases noMac_ways p b sl hx hx2 with ⟨g1, g2, g3, hnm⟩ | ⟨g1, hnm⟩ | ⟨g1, g2, hnm⟩ | ⟨g1, g2, g3, hnm⟩
    · exact implMeanOk_Ca hp0 hb0 lp lb hc hh hnt g1 g2 g3 hnm
    · exact implMeanOk_Cb hp0 hb0 lp lb hc hh hnt g1 hnm
    · exact implMeanOk_Cc hp0 hb0 lp lb hc hh hnt g1 g2 hnm
    · exact implMeanOk_Cd hp0 hb0 lp lb hc hh hnt g1 g2 g3 hnm
  · rcases noMac_ways p b sl hx hx2 with ⟨g1, g2, g3, hnm⟩ | ⟨g1, hnm⟩ | ⟨g1, g2, hnm⟩ | ⟨g1, g2, g3, hnm⟩
    · exact implMeanOk_Da hp0 hb0 lp lb hc hh hs hnt g1 g2 g3 hnm
    · exact implMeanOk_Db hp0 hb0 lp lb hc hh hs hnt g1 hnm
    · exact implMeanOk_Dc hp0 hb0 lp lb hc hh hs hnt g1 g2 hnm
    · exact implMeanOk_Dd hp0 hb0 lp lb hc hh hs hnt g1 g2 g3 hnm
end Go.Proofs.Ytflpjfgodkodiaa
