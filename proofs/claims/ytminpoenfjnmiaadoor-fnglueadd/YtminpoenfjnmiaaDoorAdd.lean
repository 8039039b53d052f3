/-
  The walks of the functions that add glues.
-/
import Derived.Test.YtminpoenfjnmiaaDoorGlue
import Derived.Deep.RegionWith
namespace Go.Proofs.YtminpoenfjnmiaaDoor
open Go.RowKit
set_option linter.unusedVariables false
set_option linter.unusedSimpArgs false

/-- What two amounts of two orders come to, by the specification. -/
def gSum (a ao b bo : Int) : Int × Int :=
  if b = 0 then (if a = 0 then (0, 0) else (a, ao))
  else if a = 0 then (b, bo)
  else if bo < ao then (a, ao) else if ao < bo then (b, bo) else if a + b = 0 then (0, 0) else (a + b, ao)

theorem gSum_aa {a b o : Int} (ha : a ≠ 0) (hb : b ≠ 0) (h : a + b ≠ 0) : gSum a o b o = (a + b, o) := by simp [gSum, ha, hb, h]
theorem gSum_a0 {ao b bo : Int} (hb : b ≠ 0) : gSum 0 ao b bo = (b, bo) := by simp [gSum, hb]
theorem gSum_0b {a ao bo : Int} (ha : a ≠ 0) : gSum a ao 0 bo = (a, ao) := by simp [gSum, ha]
theorem gSum_00 {ao bo : Int} : gSum 0 ao 0 bo = (0, 0) := by simp [gSum]
theorem gSum_gt {a ao b bo : Int} (ha : a ≠ 0) (hb : b ≠ 0) (h : bo < ao) : gSum a ao b bo = (a, ao) := by simp [gSum, ha, hb, h]
theorem gSum_lt {a ao b bo : Int} (ha : a ≠ 0) (hb : b ≠ 0) (h : ao < bo) : gSum a ao b bo = (b, bo) := by
  have : ¬ bo < ao := by omega
  simp [gSum, ha, hb, h, this]
theorem gSum_neg {a b o : Int} (ha : a ≠ 0) (hb : b ≠ 0) (h : a + b = 0) : gSum a o b o = (0, 0) := by simp [gSum, ha, hb, h]

theorem bne0 {a : Int} (h : a ≠ 0) : (a == 0) = false := by simp [h]

def Amt (x : Int) : Prop := -1073741823 ≤ x ∧ x ≤ 1073741823
def Ord (x : Int) : Prop := 0 ≤ x ∧ x ≤ 3

abbrev giveV (a o : Int) : Value := .agg #[.int .i64 a, .int .i64 o]

theorem plusOf_any (s p po m mo : Int) (w : World) : Calls Tryd.prog 13 #[glueV s p po m mo] w fun e w' => e = .returned (giveV p po) ∧ ∃ c1 c2 : Array Value, w' = (w.alloc (.cells c1 25)).alloc (.cells c2 37) := by
  go_enter Tryd.func13, Tryd.ntmps13
  go_wp2
  exact bodyPost_ret (v := giveV p po) (by simp [results, Tryd.results13, go_sem]) rfl ⟨rfl, _, _, rfl⟩
theorem minusOf_any (s p po m mo : Int) (w : World) : Calls Tryd.prog 14 #[glueV s p po m mo] w fun e w' => e = .returned (giveV m mo) ∧ ∃ c1 c2 : Array Value, w' = (w.alloc (.cells c1 25)).alloc (.cells c2 37) := by
  go_enter Tryd.func14, Tryd.ntmps14
  go_wp2
  exact bodyPost_ret (v := giveV m mo) (by simp [results, Tryd.results14, go_sem]) rfl ⟨rfl, _, _, rfl⟩

theorem sgSum {a ao b bo : Int} (ha : Ord ao) (hb : Ord bo) : gSum a ao b bo = gSum b bo a ao := by
  obtain ⟨_, _⟩ := ha; obtain ⟨_, _⟩ := hb
  unfold gSum
  by_cases h1 : a = 0 <;> by_cases h2 : b = 0 <;> simp [h1, h2]
  by_cases h3 : bo < ao
  · have : ¬ ao < bo := by omega
    simp [h3, this]
  · by_cases h4 : ao < bo
    · simp [h3, h4]
    · obtain rfl : ao = bo := by omega
      simp [Int.add_comm]

set_option maxHeartbeats 2000000 in
theorem addGive_any (a ao b bo : Int) (w : World) (h1 : Amt a) (h2 : Ord ao) (h3 : Amt b) (h4 : Ord bo) :
    Calls Tryd.prog 12 #[giveV a ao, giveV b bo] w fun e w' => e = .returned (giveV (gSum a ao b bo).1 (gSum a ao b bo).2) ∧ ∃ c1 c2 c3 : Array Value, w' = ((w.alloc (.cells c1 37)).alloc (.cells c2 37)).alloc (.cells c3 37) := by
  have hsw := sgSum (a := a) (b := b) h2 h4
  obtain ⟨a1, a2⟩ := h1; obtain ⟨b1, b2⟩ := h2; obtain ⟨c1, c2⟩ := h3; obtain ⟨d1, d2⟩ := h4
  by_cases hlt : ao < bo
  · rw [hsw]; clear hsw
    have hne : (bo == ao) = false := by simp; omega
    by_cases hb : b = 0
    · subst hb
      by_cases ha : a = 0
      · subst ha
        rw [gSum_00]
        go_enter Tryd.func12, Tryd.ntmps12
        go_wp2
        exact bodyPost_ret (v := giveV 0 0) (by simp [results, Tryd.results12, go_sem]) rfl ⟨rfl, _, _, _, rfl⟩
      · rw [gSum_a0 ha]
        have ea := bne0 ha
        go_enter Tryd.func12, Tryd.ntmps12
        go_wp2
        exact bodyPost_ret (v := giveV a ao) (by simp [results, Tryd.results12, go_sem]) rfl ⟨rfl, _, _, _, rfl⟩
    · have eb := bne0 hb
      have e : gSum b bo a ao = (b, bo) := by
        by_cases ha : a = 0
        · subst ha; exact gSum_0b hb
        · exact gSum_gt hb ha hlt
      rw [e]; clear e
      go_enter Tryd.func12, Tryd.ntmps12
      go_wp2
      exact bodyPost_ret (v := giveV b bo) (by simp [results, Tryd.results12, go_sem]) rfl ⟨rfl, _, _, _, rfl⟩
  · clear hsw
    by_cases heq : ao = bo
    · subst heq
      by_cases hs : a + b = 0
      · have e : gSum a ao b ao = (0, 0) := by
          by_cases ha : a = 0
          · obtain rfl : b = 0 := by omega
            subst ha; exact gSum_00
          · exact gSum_neg ha (by omega) hs
        rw [e]; clear e
        have es : (a + b == 0) = true := by simp [hs]
        clear hs
        go_enter Tryd.func12, Tryd.ntmps12
        go_wp2
        exact bodyPost_ret (v := giveV 0 0) (by simp [results, Tryd.results12, go_sem]) rfl ⟨rfl, _, _, _, rfl⟩
      · have e : gSum a ao b ao = (a + b, ao) := by
          by_cases ha : a = 0
          · subst ha; rw [gSum_a0 (by omega)]; simp
          · by_cases hb : b = 0
            · subst hb; rw [gSum_0b ha]; simp
            · exact gSum_aa ha hb hs
        rw [e]; clear e
        have es := bne0 hs
        go_enter Tryd.func12, Tryd.ntmps12
        go_wp2
        exact bodyPost_ret (v := giveV (a + b) ao) (by simp [results, Tryd.results12, go_sem]) rfl ⟨rfl, _, _, _, rfl⟩
    · have hne : (ao == bo) = false := by simp [heq]
      have hgt : bo < ao := by omega
      by_cases ha : a = 0
      · subst ha
        by_cases hb : b = 0
        · subst hb
          rw [gSum_00]
          go_enter Tryd.func12, Tryd.ntmps12
          go_wp2
          exact bodyPost_ret (v := giveV 0 0) (by simp [results, Tryd.results12, go_sem]) rfl ⟨rfl, _, _, _, rfl⟩
        · rw [gSum_a0 hb]
          have eb := bne0 hb
          go_enter Tryd.func12, Tryd.ntmps12
          go_wp2
          exact bodyPost_ret (v := giveV b bo) (by simp [results, Tryd.results12, go_sem]) rfl ⟨rfl, _, _, _, rfl⟩
      · have ea := bne0 ha
        have e : gSum a ao b bo = (a, ao) := by
          by_cases hb : b = 0
          · subst hb; exact gSum_0b ha
          · exact gSum_gt ha hb hgt
        rw [e]; clear e
        go_enter Tryd.func12, Tryd.ntmps12
        go_wp2
        exact bodyPost_ret (v := giveV a ao) (by simp [results, Tryd.results12, go_sem]) rfl ⟨rfl, _, _, _, rfl⟩
end Go.Proofs.YtminpoenfjnmiaaDoor
