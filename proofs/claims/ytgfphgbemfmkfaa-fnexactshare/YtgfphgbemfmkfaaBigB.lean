/-
  The walks of the specification's long numbers: l1Sum.
-/
import Derived.Test.YtgfphgbemfmkfaaBigA
namespace Go.Proofs.Ytgfphgbemfmkfaa
open Go.RowKit
set_option linter.unusedVariables false
set_option linter.unusedSimpArgs false

theorem sum_next {xs ys zs : List Nat} {k c da db : Nat} (hx : BigN.Digits xs) (hy : BigN.Digits ys) (tx : BigN.Trim xs) (ty : BigN.Trim ys) (hl : zs.length = k) (hd : BigN.Digits zs) (hc : c ≤ 1)
    (hv : BigN.val zs + 16777216 ^ k * c = BigN.val (xs.take k) + BigN.val (ys.take k)) (ha : da = xs.getD k 0) (hb : db = ys.getD k 0) (hgo : k < xs.length ∨ k < ys.length ∨ 0 < c) :
    (zs ++ [(c + da + db) % 16777216]).length = k + 1 ∧ BigN.Digits (zs ++ [(c + da + db) % 16777216]) ∧ (c + da + db) / 16777216 ≤ 1 ∧
      BigN.val (zs ++ [(c + da + db) % 16777216]) + 16777216 ^ (k + 1) * ((c + da + db) / 16777216) = BigN.val (xs.take (k + 1)) + BigN.val (ys.take (k + 1)) ∧
      (0 < k + 1 → 16777216 ^ (k + 1 - 1) ≤ BigN.val xs + BigN.val ys) ∧ da < 16777216 ∧ db < 16777216 := by
  have h1 : da < 16777216 := by rw [ha]; exact hx.getD k
  have h2 : db < 16777216 := by rw [hb]; exact hy.getD k
  refine ⟨by simp [hl], hd.snoc (Nat.mod_lt _ (by decide)), by omega, ?_, fun _ => ?_, h1, h2⟩
  · have := BigN.sum_step zs c da db (BigN.val (xs.take k)) (BigN.val (ys.take k)) (by rw [hl]; exact hv)
    rw [hl] at this
    rw [this, BigN.val_take_succ' xs, BigN.val_take_succ' ys, ha, hb]
  · rw [Nat.add_sub_cancel]
    rcases hgo with h | h | h
    · have := BigN.val_ge xs tx (by intro e; simp [e] at h)
      have h3 : 16777216 ^ k ≤ 16777216 ^ (xs.length - 1) := Nat.pow_le_pow_right (by decide) (by omega)
      omega
    · have := BigN.val_ge ys ty (by intro e; simp [e] at h)
      have h3 : 16777216 ^ k ≤ 16777216 ^ (ys.length - 1) := Nat.pow_le_pow_right (by decide) (by omega)
      omega
    · have h3 : 16777216 ^ k * 1 ≤ 16777216 ^ k * c := Nat.mul_le_mul_left _ h
      have h4 := BigN.val_take_le xs k
      have h5 := BigN.val_take_le ys k
      omega

/-- What holds at the head of a round of l1Sum. -/
def SumAt (xs ys : List Nat) (w wr : World) (s5 s6 s7 : Value) (k c : Nat) (zs : List Nat) : Prop :=
  s7 = .int .i64 (k : Int) ∧ s6 = .int .i64 (c : Int) ∧ zs.length = k ∧ BigN.Digits zs ∧ c ≤ 1 ∧ BigN.val zs + 16777216 ^ k * c = BigN.val (xs.take k) + BigN.val (ys.take k) ∧
    (0 < k → 16777216 ^ (k - 1) ≤ BigN.val xs + BigN.val ys) ∧ (k ≤ xs.length ∨ k ≤ ys.length ∨ (c = 0 ∧ (k ≤ xs.length + 1 ∨ k ≤ ys.length + 1))) ∧
    wr.ownsRow w.heap.size 2 1 s5 k (zs.map numC) ∧ s5 ≠ .slice none 0 0 ∧ Below w.heap.size w wr

theorem sum_end {xs ys zs : List Nat} {k : Nat} (hl : zs.length = k) (hd : BigN.Digits zs) (hv : BigN.val zs + 16777216 ^ k * 0 = BigN.val (xs.take k) + BigN.val (ys.take k))
    (hp : 0 < k → 16777216 ^ (k - 1) ≤ BigN.val xs + BigN.val ys) (h1 : ¬ k < xs.length) (h2 : ¬ k < ys.length) : BigN.Trim zs ∧ BigN.val zs = BigN.val xs + BigN.val ys := by
  rw [BigN.take_all xs k (by omega), BigN.take_all ys k (by omega)] at hv
  have e : BigN.val zs = BigN.val xs + BigN.val ys := by omega
  refine ⟨BigN.trim_of_val zs hd fun hne => ?_, e⟩
  rw [hl, e]
  exact hp (by rw [← hl]; exact List.length_pos_iff.2 hne)

theorem numC_at {w w' : World} {g cap n : Nat} {xs : List Nat} (h : ∀ i, i < xs.length → w.cell? ⟨g, i, none⟩ = some (numC (xs.getD i 0))) (hg : g < w.heap.size) (hb : Below w.heap.size w w') (k : Nat) :
    ∃ d, d = xs.getD k 0 ∧ (k < xs.length → w'.cell? ⟨g, k, none⟩ = some (.int .i64 (d : Int))) :=
  ⟨_, rfl, fun hk => (hb.cell (p := ⟨g, k, none⟩) hg).trans (h k hk)⟩

set_option maxHeartbeats 2000000 in
theorem sum_num (va vb : Value) (xs ys : List Nat) (w : World) (na : IsNum w va xs) (nb : IsNum w vb ys) (hx : BigN.Digits xs) (hy : BigN.Digits ys) (tx : BigN.Trim xs) (ty : BigN.Trim ys) (lx : xs.length ≤ 1000) (ly : ys.length ≤ 1000) :
    Calls Try.prog 47 #[va, vb] w fun e w' => ∃ v, e = .returned v ∧ IsBig w' v (BigN.val xs + BigN.val ys) ∧ Below w.heap.size w w' := by
  obtain ⟨i0, hi, hz0, hz1, hz2⟩ := info_parts info2
  obtain ⟨ga, ca, rfl, la, ma, wa, cella⟩ := na
  obtain ⟨gb, cb, rfl, lb, mb, wb, cellb⟩ := nb
  have hat : SumAt xs ys w (w.alloc (.cells #[] 2)) (.slice (some ⟨w.heap.size, 0, none⟩) 0 0) (.int .i64 0) (.int .i64 0) 0 0 [] :=
    ⟨rfl, rfl, rfl, BigN.Digits.nil, by omega, by simp [BigN.val], by simp, by omega, World.ownsRow_lit w #[] 0 (Nat.le_refl _) (by decide) rfl, by simp, (Below.refl _ _).alloc (Nat.le_refl _) _⟩
  have HAT := hideB hat
  have CA := hideB cella
  have CB := hideB cellb
  have HX := hideB hx
  have HY := hideB hy
  have TX := hideB tx
  have TY := hideB ty
  clear hat cella cellb hx hy tx ty ma mb
  go_enter Try.func47, Try.ntmps47
  go_wp2_with fail
  go_loopw [5, 6, 7] (fun s5 s6 s7 wr => ∃ k c zs, SumAt xs ys w wr s5 s6 s7 k c zs) (fun _ _ s7 _ => xs.length + ys.length + 2 - (intOf s7).toNat)
  case atStart => exact ⟨0, 0, [], HAT.out⟩
  case round =>
    obtain ⟨k, c, zs, rfl, rfl, hl, hd, hc, hv, hp, hk, hown, hnil, hbel⟩ := hrel
    obtain ⟨da, ha, hca⟩ := numC_at (cap := ca) (n := 0) CA.out wa hbel k
    obtain ⟨db, hb, hcb⟩ := numC_at (cap := cb) (n := 0) CB.out wb hbel k
    have HN := hideB (fun hgo => sum_next HX.out HY.out TX.out TY.out hl hd hc hv ha hb hgo)
    have da1 : da < 16777216 := by rw [ha]; exact HX.out.getD k
    have db1 : db < 16777216 := by rw [hb]; exact HY.out.getD k
    have HA := hideB ha
    have HB := hideB hb
    have HOWN := hideB hown
    have HBEL := hideB hbel
    have HNIL := hideB hnil
    have HP := hideB hp
    have HL := hideB hl
    have HD := hideB hd
    have HV := hideB hv
    have hz := HBEL.out.size
    clear hown hbel hnil hp hl hd hv ha hb
    have step : ∀ o w1 v', (k < xs.length ∨ k < ys.length ∨ 0 < c) → (k + 1 ≤ xs.length ∨ k + 1 ≤ ys.length ∨ ((c + da + db) / 16777216 = 0 ∧ (k + 1 ≤ xs.length + 1 ∨ k + 1 ≤ ys.length + 1))) → w1.ownsRow w.heap.size 2 1 v' (k + 1) (zs.map numC ++ [numC ((c + da + db) % 16777216)]) → World.grownBy (wr.alloc o) w1 (Value.ownBlock u5) → v' ≠ .slice none 0 0 →
        SumAt xs ys w w1 v' (.int .i64 (((c + da + db) / 16777216 : Nat) : Int)) (.int .i64 ((k + 1 : Nat) : Int)) (k + 1) ((c + da + db) / 16777216) (zs ++ [(c + da + db) % 16777216]) := by
      intro o w1 v' hgo hbd h1 h2 h3
      obtain ⟨n1, n2, n3, n4, n5, _, _⟩ := HN.out hgo
      exact ⟨rfl, rfl, n1, n2, n3, n4, n5, hbd, by simpa using h1, h3, (HBEL.out.alloc hz _).grown h2 (by simp; omega) (fun r hr => (HOWN.out.lt r hr).1)⟩
    have STEP := hideB step
    clear step
    by_cases hax : k < xs.length
    · have hca' := hca hax
      by_cases hby : k < ys.length
      · have hcb' := hcb hby
        clear hca hcb
        go_wp2_with (at_builtin; refine wpList_append_own _ rfl _ _ 27 rfl w.heap.size 2 i0 (.int .i64 0) 1 8 Try.underlying27 hi hz0 hz1 hz2 rfl (by decide) _ _ _ rfl (HOWN.out.alloc _) ⟨wr.heap.size, 0, none⟩ 1 1 [numC ((c + da + db) % 16777216)] rfl rfl ?c1A ?c2A ?c3A ?c4A ?c5A ?_)
        case c1A =>
          intro j u hj
          match j, hj with
          | 0, hj => simp at hj; subst hj; simp [Addr.add]
        case c2A => intro u hu; simp at hu; subst hu; rfl
        case c3A => unfold maxLen; omega
        case c4A => omega
        case c5A => simp; omega
        intro v' w1 hown' hgrow hnil'
        have HR := hideB (STEP.out _ w1 v' (by omega) (by omega) hown' hgrow hnil')
        clear hown' hgrow hnil' HOWN HBEL HNIL STEP HN
        go_wp2
        go_roundw
        case rel => exact ⟨k + 1, _, _, by simpa using HR.out⟩
        case measure => simp [intOf]; omega
      · obtain rfl : db = 0 := by rw [HB.out]; exact BigN.getD_ge' _ _ (by omega)
        clear hca hcb
        go_wp2_with (at_builtin; refine wpList_append_own _ rfl _ _ 27 rfl w.heap.size 2 i0 (.int .i64 0) 1 8 Try.underlying27 hi hz0 hz1 hz2 rfl (by decide) _ _ _ rfl (HOWN.out.alloc _) ⟨wr.heap.size, 0, none⟩ 1 1 [numC ((c + da + 0) % 16777216)] rfl rfl ?c1B ?c2B ?c3B ?c4B ?c5B ?_)
        case c1B =>
          intro j u hj
          match j, hj with
          | 0, hj => simp at hj; subst hj; simp [Addr.add]
        case c2B => intro u hu; simp at hu; subst hu; rfl
        case c3B => unfold maxLen; omega
        case c4B => omega
        case c5B => simp; omega
        intro v' w1 hown' hgrow hnil'
        have HR := hideB (STEP.out _ w1 v' (by omega) (by omega) hown' hgrow hnil')
        clear hown' hgrow hnil' HOWN HBEL HNIL STEP HN
        go_wp2
        go_roundw
        case rel => exact ⟨k + 1, _, _, by simpa using HR.out⟩
        case measure => simp [intOf]; omega
    · obtain rfl : da = 0 := by rw [HA.out]; exact BigN.getD_ge' _ _ (by omega)
      by_cases hby : k < ys.length
      · have hcb' := hcb hby
        clear hca hcb
        go_wp2_with (at_builtin; refine wpList_append_own _ rfl _ _ 27 rfl w.heap.size 2 i0 (.int .i64 0) 1 8 Try.underlying27 hi hz0 hz1 hz2 rfl (by decide) _ _ _ rfl (HOWN.out.alloc _) ⟨wr.heap.size, 0, none⟩ 1 1 [numC ((c + 0 + db) % 16777216)] rfl rfl ?c1C ?c2C ?c3C ?c4C ?c5C ?_)
        case c1C =>
          intro j u hj
          match j, hj with
          | 0, hj => simp at hj; subst hj; simp [Addr.add]
        case c2C => intro u hu; simp at hu; subst hu; rfl
        case c3C => unfold maxLen; omega
        case c4C => omega
        case c5C => simp; omega
        intro v' w1 hown' hgrow hnil'
        have HR := hideB (STEP.out _ w1 v' (by omega) (by omega) hown' hgrow hnil')
        clear hown' hgrow hnil' HOWN HBEL HNIL STEP HN
        go_wp2
        go_roundw
        case rel => exact ⟨k + 1, _, _, by simpa using HR.out⟩
        case measure => simp [intOf]; omega
      · obtain rfl : db = 0 := by rw [HB.out]; exact BigN.getD_ge' _ _ (by omega)
        clear hca hcb
        by_cases hcc : 0 < c
        · obtain rfl : c = 1 := by omega
          go_wp2_with (at_builtin; refine wpList_append_own _ rfl _ _ 27 rfl w.heap.size 2 i0 (.int .i64 0) 1 8 Try.underlying27 hi hz0 hz1 hz2 rfl (by decide) _ _ _ rfl (HOWN.out.alloc _) ⟨wr.heap.size, 0, none⟩ 1 1 [numC ((1 + 0 + 0) % 16777216)] rfl rfl ?c1D ?c2D ?c3D ?c4D ?c5D ?_)
          case c1D =>
            intro j u hj
            match j, hj with
            | 0, hj => simp at hj; subst hj; simp [Addr.add]
          case c2D => first | rfl | (intro u hu; simp at hu; subst hu; rfl)
          case c3D => unfold maxLen; omega
          case c4D => omega
          case c5D => first | omega | (simp; omega)
          intro v' w1 hown' hgrow hnil'
          have HR := hideB (STEP.out _ w1 v' (by omega) (Or.inr (Or.inr ⟨by first | trivial | omega, by omega⟩)) hown' hgrow hnil')
          clear hown' hgrow hnil' HOWN HBEL HNIL STEP HN
          go_wp2
          go_roundw
          case rel => exact ⟨k + 1, _, _, by simpa using HR.out⟩
          case measure => simp [intOf]; omega
        · obtain rfl : c = 0 := by omega
          have hend := sum_end HL.out HD.out HV.out HP.out hax hby
          have hfin : IsBig wr _ (BigN.val xs + BigN.val ys) := ⟨zs, isNum_of_own HOWN.out HNIL.out HL.out.symm, HD.out, hend.1, hend.2⟩
          have HF := hideB (And.intro hfin HBEL.out)
          clear hend hfin HOWN HBEL HNIL STEP HN
          go_wp2
          go_ret
          exact ⟨_, rfl, HF.out⟩
end Go.Proofs.Ytgfphgbemfmkfaa
