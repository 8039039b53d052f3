/-
  Two groups without scripts: the specification.
-/
import Derived.Test.YtfcfihlkckdmbaaStr
namespace Go.Proofs.Ytfcfihlkckdmbaa
open Go.RowKit
set_option linter.unusedVariables false
set_option linter.unusedSimpArgs false

theorem starts_lt (xs : List At) {deep : Nat} : ∀ (m k : Nat), xs.length - k ≤ m → ok (xs.drop k) deep = true → ∀ p ∈ starts (xs.drop k) k, p < xs.length ∧ atomB (xs.getD p At.none) = true := by
  intro m
  induction m with
  | zero =>
    intro k hk ho p hp
    rw [List.drop_eq_nil_of_le (by omega), starts_nil] at hp
    simp at hp
  | succ m ih =>
    intro k hk ho p hp
    by_cases h : k < xs.length
    · rw [drop_at h] at ho hp
      obtain ⟨ha, hk1, hk2⟩ := ok_head ho
      rw [starts_cons, List.drop_drop] at hp
      rw [List.drop_drop] at hk2
      rcases List.mem_cons.1 hp with rfl | hp
      · exact ⟨h, ha⟩
      · exact ih _ (by omega) hk2 p hp
    · rw [List.drop_eq_nil_of_le (by omega), starts_nil] at hp
      simp at hp

theorem twoB_of {xs : List At} (h : (starts xs 0).length = 2) : twoB xs = (partB (xs.getD ((starts xs 0).getD 0 0) At.none) && partB (xs.getD ((starts xs 0).getD 1 0) At.none)) := by
  have ht := starts_tops xs xs.length 0 (by omega)
  simp only [List.drop_zero] at ht
  unfold twoB
  rw [← ht]
  match hz : starts xs 0, h with
  | [p, q], _ => simp
theorem twoB_not {xs : List At} (h : (starts xs 0).length ≠ 2) : twoB xs = false := by
  have ht := starts_tops xs xs.length 0 (by omega)
  simp only [List.drop_zero] at ht
  unfold twoB
  rw [← ht]
  match hz : starts xs 0, h with
  | [], _ => simp
  | [p], _ => simp
  | [p, q], h => simp at h
  | p :: q :: r :: u, _ => simp

set_option maxRecDepth 20000 in
set_option maxHeartbeats 4000000 in
theorem two_any {v : Value} {xs : List At} {w : World} {deep : Nat} (h : ARow 0 w v xs) (hlen : xs.length ≤ 2000) (hok : ok xs deep = true) :
    Calls Try.prog 29 #[v] w fun e w' => e = .returned (.bool (twoB xs)) ∧ Below w.heap.size w w' := by
  have HA := hideP h
  have HS : Hid (∀ p ∈ starts xs 0, p < xs.length ∧ atomB (xs.getD p At.none) = true) := hideP (by
    have := starts_lt xs (deep := deep) xs.length 0 (by omega) (by simpa using hok)
    simpa using this)
  have CS : Hid (Calls Try.prog 31 #[v] w fun e w' => (∃ u, e = .returned u ∧ IR w' w.heap.size u (starts xs 0).length (natI (starts xs 0))) ∧ Below w.heap.size w w') := hideP (starts_any h hlen hok)
  obtain ⟨ao, n, cap, rfl, hl, hr⟩ := h
  have HL := hideP hl
  have hn : n ≤ 2000 := by rw [← hl]; exact hlen
  obtain ⟨R, hR⟩ : ∃ R, R = twoB xs := ⟨_, rfl⟩
  rw [← hR]
  have HR := hideP hR
  obtain ⟨Z, hZ⟩ : ∃ Z, Z = starts xs 0 := ⟨_, rfl⟩
  rw [← hZ] at CS HS
  have HZ := hideP hZ
  obtain ⟨m, hm⟩ : ∃ m, m = Z.length := ⟨_, rfl⟩
  rw [← hm] at CS
  have HM := hideP hm
  clear hr hl hlen hok hR hZ hm
  go_enter Try.func29, Try.ntmps29
  go_wp2_with fail
  refine CS.out.mono ?_
  rintro e w1 ⟨⟨u, rfl, hI⟩, hb1⟩
  obtain ⟨ua, ucap, rfl⟩ : ∃ ua c, u = .slice ua m c := by
    rcases hI.2 with ⟨h0, h⟩ | ⟨g, c, cur, h, _⟩
    · exact ⟨none, 0, by rw [h0, h]⟩
    · exact ⟨_, c, h⟩
  have H1 := hideP (And.intro hI hb1)
  clear hI hb1
  by_cases hm2 : m = 2
  case neg =>
    have hm3 : ((m : Int) == 2) = false := by simp; omega
    have hm4 : ((m : Int) != 2) = true := by simp; omega
    have hm5 : ¬ ((m : Int) = 2) := by omega
    have HT : Hid (false = R) := hideP (by rw [HR.out, twoB_not (by rw [← HZ.out, ← HM.out]; exact hm2)])
    clear hm2
    go_wp2
    go_ret
    exact ⟨retB HT.out, H1.out.2⟩
  case pos =>
    subst hm2
    obtain ⟨g, hg⟩ : ∃ g, ua = some ⟨g, 0, none⟩ := by
      rcases H1.out.1.2 with ⟨h0, h⟩ | ⟨g, c, cur, h, _⟩
      · omega
      · simp only [Value.slice.injEq] at h
        exact ⟨g, h.1⟩
    subst hg
    have HC : Hid (∀ k, k < 2 → ∀ W, Below w1.heap.size w1 W → W.cell? ⟨g, k, none⟩ = some (.int .i64 ((Z.getD k 0 : Nat) : Int))) := hideP (fun k hk W hW => by
      have hI := H1.out.1.below hW
      rw [World.ownsRow.cellAt hI k hk]
      have : k < Z.length := by rw [← HM.out]; exact hk
      simp only [natI, List.getElem?_map, List.getD_eq_getElem?_getD, List.getElem?_eq_getElem this]
      rfl)
    go_wp2
    go_loopw [4] (fun a wr => ∃ i : Nat, i ≤ 2 ∧ a = .int .i64 (i : Int) ∧ Hid (∀ j, j < i → partB (xs.getD (Z.getD j 0) At.none) = true) ∧ Hid (Below w1.heap.size w1 wr)) (fun a _ => 2 - (intOf a).toNat)
    case atStart => exact ⟨0, by omega, rfl, hideP (fun j hj => by omega), hideP (Below.refl _ _)⟩
    case round =>
      obtain ⟨i, hi, rfl, HP, HB⟩ := hrel
      by_cases hin : i < 2
      · have hii : (i : Int) < 2 := by omega
        have hc0 := HC.out i hin wr HB.out
        obtain ⟨p, hp⟩ : ∃ p, p = Z.getD i 0 := ⟨_, rfl⟩
        have hpm : p ∈ Z := by
          have : i < Z.length := by rw [← HM.out]; exact hin
          rw [hp, List.getD_eq_getElem?_getD, List.getElem?_eq_getElem this]
          exact List.getElem_mem this
        obtain ⟨hpl, hpa⟩ := HS.out p hpm
        rw [← hp] at hc0
        rw [HL.out] at hpl
        have hpi : (p : Int) < (n : Int) := by omega
        obtain ⟨b, off, cap', hv, hb, c0, c1, c2, c3, c4, c5⟩ := ARow.cells HA.out (k := p) (by rw [HL.out]; exact hpl)
        simp only [Value.slice.injEq] at hv
        obtain ⟨rfl, hv1, hv2⟩ := hv
        have BW : Below w.heap.size w wr := Below.trans H1.out.2 (HB.out.mono H1.out.2.size)
        obtain ⟨t, ht⟩ : ∃ t, t = xs.getD p At.none := ⟨_, rfl⟩
        rw [← ht] at c0 c1 c2 c3 c4 c5 hpa
        have HT := hideP ht
        have HPP := hideP hp
        have hcn := atomB_cnt hpa
        clear hv1 hv2 ht hpa hpm hp
        have HTT : Hid (∃ q, q = t) := hideP ⟨t, rfl⟩
        obtain ⟨z, hz⟩ : ∃ z, z = partB t := ⟨_, rfl⟩
        have HZ2 := hideP hz
        obtain ⟨zk, zc, zh, zb, zu, zd⟩ := t
        dsimp only at c0 c1 c2 c3 c4 c5 hcn
        obtain ⟨n1, n2, n3, n4, n5, n6⟩ := hcn
        have g0 := (BW.cell (p := ⟨b, off + p * 6, none⟩) hb).trans c0
        have g1 := (BW.cell (p := ⟨b, off + p * 6 + 1, none⟩) hb).trans c1
        have g2 := (BW.cell (p := ⟨b, off + p * 6 + 2, none⟩) hb).trans c2
        have g3 := (BW.cell (p := ⟨b, off + p * 6 + 3, none⟩) hb).trans c3
        have g4 := (BW.cell (p := ⟨b, off + p * 6 + 4, none⟩) hb).trans c4
        have g5 := (BW.cell (p := ⟨b, off + p * 6 + 5, none⟩) hb).trans c5
        clear c0 c1 c2 c3 c4 c5 BW HTT hz
        have HBn : Hid (∀ o, Below w1.heap.size w1 (wr.alloc o)) := hideP (fun o => HB.out.alloc HB.out.size o)
        have HR2 : Hid (z = false → false = R) := hideP (fun hzf => by
          have h2 : (starts xs 0).length = 2 := by rw [← HZ.out, ← HM.out]
          rw [HR.out, twoB_of h2, ← HZ.out]
          have hpz : partB (xs.getD (Z.getD i 0) At.none) = false := by rw [← HPP.out, ← HT.out, ← HZ2.out]; exact hzf
          rcases (show i = 0 ∨ i = 1 by omega) with rfl | rfl
          · rw [hpz]; rfl
          · rw [hpz, Bool.and_false])
        have HF : Hid (∀ o, Below w.heap.size w (wr.alloc o)) := hideP (fun o => Below.trans H1.out.2 ((HBn.out o).mono H1.out.2.size))
        by_cases hk : zk = 2
        · subst hk
          by_cases hud : 0 < zu + zd
          · have HE : Hid (false = R) := hideP (HR2.out (by rw [HZ2.out]; simp [partB]; omega))
            go_wp2
            go_ret
            exact ⟨retB HE.out, HF.out _⟩
          · have HE : Hid (z = true) := hideP (by rw [HZ2.out]; simp [partB]; omega)
            go_wp2
            refine ⟨⟨i + 1, by omega, by go_num, hideP (fun j hj => ?_), hideP (HBn.out _)⟩, by simp [intOf]; omega⟩
            by_cases hji : j = i
            · subst hji; rw [← HPP.out, ← HT.out, ← HZ2.out]; exact HE.out
            · exact HP.out j (by omega)
        · have hk1 : (zk == 2) = false := by simp [hk]
          have hk2 : (zk != 2) = true := by simp [hk]
          have HE : Hid (false = R) := hideP (HR2.out (by rw [HZ2.out]; simp [partB, hk]))
          go_wp2
          go_ret
          exact ⟨retB HE.out, HF.out _⟩
      · have hii : ¬ ((i : Int) < 2) := by omega
        obtain rfl : i = 2 := by omega
        have HE : Hid (true = R) := hideP (by
          have h2 : (starts xs 0).length = 2 := by rw [← HZ.out, ← HM.out]
          rw [HR.out, twoB_of h2, ← HZ.out, HP.out 0 (by omega), HP.out 1 (by omega)]
          rfl)
        have HF : Hid (Below w.heap.size w wr) := hideP (Below.trans H1.out.2 (HB.out.mono H1.out.2.size))
        go_wp2
        go_ret
        exact ⟨retB HE.out, HF.out⟩
end Go.Proofs.Ytfcfihlkckdmbaa
