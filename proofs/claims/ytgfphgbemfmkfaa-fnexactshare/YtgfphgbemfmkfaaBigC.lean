/-
  The walks of the specification's long numbers: l1Trim, l1Most.
-/
import Derived.Test.YtgfphgbemfmkfaaBigA
import Derived.Deep.QuietTactic
import Derived.BigQuiet
import Derived.WalkSmall
namespace Go.Proofs.Ytgfphgbemfmkfaa
open Go.RowKit
set_option linter.unusedVariables false
set_option linter.unusedSimpArgs false

theorem take_pred {xs : List Nat} {n : Nat} (h0 : 0 < n) (hn : n ≤ xs.length) (hz : xs.getD (n - 1) 0 = 0) : BigN.val (xs.take (n - 1)) = BigN.val (xs.take n) := by
  have := BigN.val_take_succ xs (n - 1) (by omega)
  rw [show n - 1 + 1 = n by omega, hz] at this
  omega

set_option maxHeartbeats 1000000 in
theorem trim_any (g cap : Nat) (xs : List Nat) (w : World) (hl : xs.length ≤ cap) (hm : cap ≤ maxLen) (hg : g < w.heap.size) (hc : ∀ i, i < xs.length → w.cell? ⟨g, i, none⟩ = some (numC (xs.getD i 0))) (hd : BigN.Digits xs) :
    Calls Try.prog 56 #[.slice (some ⟨g, 0, none⟩) xs.length cap] w fun e w' => ∃ v, e = .returned v ∧ IsBig w v (BigN.val xs) ∧ w' = w := by
  have HC := hideB hc
  have HD := hideB hd
  unfold maxLen at hm
  clear hc hd
  go_enter Try.func56, Try.ntmps56
  go_wp2_with fail
  go_loop [0] (fun s0 => ∃ n : Nat, n ≤ xs.length ∧ s0 = .slice (some ⟨g, 0, none⟩) n cap ∧ Hid (BigN.val (xs.take n) = BigN.val xs)) (fun s0 => (match s0 with | .slice _ n _ => n | _ => 0))
  case atStart => exact ⟨xs.length, Nat.le_refl _, rfl, hideB (by rw [List.take_length])⟩
  case round =>
    obtain ⟨n, hn, rfl, HV⟩ := hrel
    by_cases h0 : n = 0
    · subst h0
      have hfin : IsBig w (.slice (some ⟨g, 0, none⟩) 0 cap) (BigN.val xs) := ⟨[], ⟨g, cap, rfl, by simp, by unfold maxLen; omega, hg, by simp⟩, BigN.Digits.nil, fun h => absurd rfl h, by rw [← HV.out]; simp⟩
      have HF := hideB hfin
      clear hfin
      go_wp2
      go_ret
      exact ⟨_, rfl, HF.out, rfl⟩
    · obtain ⟨d, hdd, hcell⟩ : ∃ d, d = xs.getD (n - 1) 0 ∧ w.cell? ⟨g, n - 1, none⟩ = some (.int .i64 (d : Int)) := ⟨_, rfl, HC.out (n - 1) (by omega)⟩
      have HDD := hideB hdd
      clear hdd
      have hp : (0 : Int) < (n : Int) := by omega
      by_cases hz : d = 0
      · subst hz
        have HN := hideB (take_pred (by omega) hn HDD.out.symm)
        go_wp2
        exact ⟨⟨n - 1, by omega, rfl, hideB (HN.out.trans HV.out)⟩, by show n - 1 < n; omega⟩
      · have hz' : ((d : Int) == 0) = false := by simp; omega
        have hlen : (xs.take n).length = n := by rw [List.length_take]; omega
        have hget : ∀ i, i < n → (xs.take n).getD i 0 = xs.getD i 0 := by
          intro i hi
          simp [List.getD, List.getElem?_take, hi]
        have hfin : IsBig w (.slice (some ⟨g, 0, none⟩) n cap) (BigN.val xs) := by
          refine ⟨xs.take n, ⟨g, cap, by rw [hlen], by omega, by unfold maxLen; omega, hg, fun i hi => ?_⟩, HD.out.take n, fun _ => ?_, HV.out⟩
          · rw [hlen] at hi
            rw [hget i hi]
            exact HC.out i (by omega)
          · rw [hlen, hget (n - 1) (by omega), ← HDD.out]
            exact hz
        have HF := hideB hfin
        clear hfin hget hlen hz
        go_wp2
        go_ret
        exact ⟨_, rfl, HF.out, rfl⟩

theorem most_end {xs ys : List Nat} (hx : BigN.Digits xs) (hy : BigN.Digits ys) (hl : xs.length = ys.length) (j : Nat) (hj : j < xs.length) (hd : xs.drop (j + 1) = ys.drop (j + 1)) (hne : xs.getD j 0 ≠ ys.getD j 0) :
    decide (xs.getD j 0 < ys.getD j 0) = decide (BigN.val xs ≤ BigN.val ys) := by
  by_cases h : xs.getD j 0 < ys.getD j 0
  · have := BigN.val_decides xs ys j hx hj hl hd h
    exact decide_eq_decide.2 ⟨fun _ => by omega, fun _ => h⟩
  · have := BigN.val_decides ys xs j hy (by omega) hl.symm hd.symm (by omega)
    exact decide_eq_decide.2 ⟨fun k => absurd k h, fun _ => by omega⟩

theorem drop_step {xs ys : List Nat} {j : Nat} (hl : xs.length = ys.length) (hj : j < xs.length) (hd : xs.drop (j + 1) = ys.drop (j + 1)) (he : xs.getD j 0 = ys.getD j 0) : xs.drop j = ys.drop j := by
  have hj' : j < ys.length := by omega
  rw [BigN.getD_lt' xs j hj, BigN.getD_lt' ys j hj'] at he
  rw [List.drop_eq_getElem_cons hj, List.drop_eq_getElem_cons hj', hd, he]

theorem most_len {xs ys : List Nat} (hx : BigN.Digits xs) (hy : BigN.Digits ys) (tx : BigN.Trim xs) (ty : BigN.Trim ys) (hne : xs.length ≠ ys.length) : decide (xs.length < ys.length) = decide (BigN.val xs ≤ BigN.val ys) := by
  by_cases h : xs.length < ys.length
  · have := BigN.val_lt_of_len xs ys hx ty h
    simp [h, Nat.le_of_lt this]
  · have := BigN.val_lt_of_len ys xs hy tx (by omega)
    simp [h]; omega

set_option maxHeartbeats 2000000 in
theorem most_num (va vb : Value) (xs ys : List Nat) (w : World) (na : IsNum w va xs) (nb : IsNum w vb ys) (hx : BigN.Digits xs) (hy : BigN.Digits ys) (tx : BigN.Trim xs) (ty : BigN.Trim ys) (lx : xs.length ≤ 1000) (ly : ys.length ≤ 1000) :
    Calls Try.prog 57 #[va, vb] w fun e w' => e = .returned (.bool (decide (BigN.val xs ≤ BigN.val ys))) ∧ Below w.heap.size w w' := by
  obtain ⟨ga, ca, rfl, la, ma, wa, cella⟩ := na
  obtain ⟨gb, cb, rfl, lb, mb, wb, cellb⟩ := nb
  by_cases hne : xs.length = ys.length
  · have CA := hideB cella
    have CB := hideB cellb
    have HX := hideB hx
    have HY := hideB hy
    have HL := hideB hne
    clear cella cellb hx hy tx ty ma mb
    have hle : ((xs.length : Int) == (ys.length : Int)) = true := by simp [hne]
    have hls : xs.length ≤ ys.length := by omega
    have hlt : ys.length ≤ xs.length := by omega
    clear hne
    generalize hb : decide (BigN.val xs ≤ BigN.val ys) = B
    have HB := hideB hb
    clear hb
    go_enter Try.func57, Try.ntmps57
    go_wp2_with fail
    go_loopw [5] (fun s5 wr => Hid (Below w.heap.size w wr) ∧ ((s5 = .int .i64 (-1) ∧ Hid (xs = ys)) ∨ ∃ j : Nat, j < xs.length ∧ s5 = .int .i64 (j : Int) ∧ Hid (xs.drop (j + 1) = ys.drop (j + 1)))) (fun s5 _ => (intOf s5 + 1).toNat)
    case atStart =>
      refine ⟨hideB (Below.refl _ _), ?_⟩
      by_cases h0 : xs.length = 0
      · left
        refine ⟨by rw [h0]; rfl, hideB ?_⟩
        have h1 : ys.length = 0 := by omega
        rw [List.eq_nil_of_length_eq_zero h0, List.eq_nil_of_length_eq_zero h1]
      · right
        refine ⟨xs.length - 1, by omega, by congr 1; omega, hideB ?_⟩
        rw [List.drop_of_length_le (by omega), List.drop_of_length_le (by omega)]
    case round =>
      obtain ⟨HW, ⟨rfl, he⟩ | ⟨j, hj, rfl, hd⟩⟩ := hrel
      · have hB : B = true := by rw [← HB.out, he.out]; simp
        subst hB
        go_wp2
        go_ret
        exact ⟨rfl, HW.out⟩
      · obtain ⟨da, ha, hca⟩ : ∃ d, d = xs.getD j 0 ∧ wr.cell? ⟨ga, j, none⟩ = some (.int .i64 (d : Int)) := ⟨_, rfl, (HW.out.cell (p := ⟨ga, j, none⟩) wa).trans (CA.out j hj)⟩
        obtain ⟨db, hb, hcb⟩ : ∃ d, d = ys.getD j 0 ∧ wr.cell? ⟨gb, j, none⟩ = some (.int .i64 (d : Int)) := ⟨_, rfl, (HW.out.cell (p := ⟨gb, j, none⟩) wb).trans (CB.out j (by omega))⟩
        have HA := hideB ha
        have HBb := hideB hb
        clear ha hb
        have hj1 : (j : Int) < (xs.length : Int) := by omega
        have hj2 : (j : Int) < (ys.length : Int) := by omega
        have hj0 : (0 : Int) ≤ (j : Int) := by omega
        by_cases hdd : da = db
        · have hne' : ((da : Int) != (db : Int)) = false := by simp [hdd]
          have HDN := hideB (drop_step HL.out hj hd.out (by rw [← HA.out, ← HBb.out]; exact hdd))
          clear hdd
          go_wp2
          go_quiet (fail)
          go_wp2
          refine ⟨⟨hideB (below_drewN HW.out nq), ?_⟩, by simp [intOf] <;> omega⟩
          by_cases h0 : j = 0
          · subst h0
            exact .inl ⟨rfl, hideB (by simpa using HDN.out)⟩
          · exact .inr ⟨j - 1, by omega, by congr 1; omega, hideB (by rw [show j - 1 + 1 = j by omega]; exact HDN.out)⟩
        · have hne' : ((da : Int) != (db : Int)) = true := by simp; omega
          have hB := most_end HX.out HY.out HL.out j hj hd.out (by rw [← HA.out, ← HBb.out]; exact hdd)
          rw [← HA.out, ← HBb.out, HB.out] at hB
          have HBB : Hid (decide (da < db) = B) := hB
          clear hB hdd
          go_wp2
          go_quiet (fail)
          go_wp2
          go_quiet (fail)
          go_wp2
          go_ret
          exact ⟨by rw [← HBB.out]; rfl, below_drewN (below_drewN HW.out _) _⟩
  · have e := most_len hx hy tx ty hne
    rw [← e]
    have hle : ((xs.length : Int) == (ys.length : Int)) = false := by simp; omega
    clear e cella cellb hx hy tx ty
    go_enter Try.func57, Try.ntmps57
    go_wp2
    go_ret
    exact ⟨by simp, Below.refl _ _⟩
end Go.Proofs.Ytgfphgbemfmkfaa
