/-
  Whether a list of atoms is a formula: the specification.
-/
import Derived.Test.YtfcfihlkckdmbaaTwo
namespace Go.Proofs.Ytfcfihlkckdmbaa
open Go.RowKit
set_option linter.unusedVariables false
set_option linter.unusedSimpArgs false

theorem wrapI (x : Int) (h1 : -9223372036854775808 ≤ x) (h2 : x ≤ 9223372036854775807) : IntKind.i64.wrap x = x := by rw [IntKind.wrap_i64]; omega

theorem ok_deep {xs : List At} {deep : Nat} (h : 40 < deep) : ok xs deep = decide (xs.length = 0) := by
  cases xs with
  | nil => simp [ok_nil]
  | cons a r =>
    rw [ok_cons]
    simp
    omega

set_option maxRecDepth 20000 in
set_option maxHeartbeats 16000000 in
theorem specOk_any : ∀ (m : Nat) (ao : Option Addr) (n cap : Nat) (xs : List At) (w : World) (deep : Nat), n ≤ m → n ≤ cap → cap ≤ 1000000000 → ARow 0 w (.slice ao n cap) xs → n ≤ 2000 → deep ≤ 41 →
    Calls Try.prog 19 #[.slice ao n cap, .int .i64 deep] w fun e w' => e = .returned (.bool (ok xs deep)) ∧ Below w.heap.size w w' := by
  intro m
  induction m with
  | zero =>
    intro ao n cap xs w deep hm hcap hcap2 h hn hd
    obtain rfl : n = 0 := by omega
    have hl : xs.length = 0 := by obtain ⟨ao', n', c', he, hl, _⟩ := h; simp only [Value.slice.injEq] at he; rw [hl, ← he.2.1]
    obtain rfl : xs = [] := List.eq_nil_of_length_eq_zero hl
    rw [ok_nil]
    clear h hl
    by_cases hdd : 40 < deep
    · have hdi : (40 : Int) < (deep : Int) := by omega
      go_enter Try.func19, Try.ntmps19
      go_wp2
      go_ret
      exact ⟨rfl, Below.refl _ _⟩
    · have hdi : ¬ (40 : Int) < (deep : Int) := by omega
      go_enter Try.func19, Try.ntmps19
      go_wp2
      go_loopw [5] (fun a wr => a = .int .i64 0 ∧ wr = w) (fun _ _ => 0)
      case atStart => exact ⟨rfl, rfl⟩
      case round =>
        obtain ⟨rfl, rfl⟩ := hrel
        go_wp2
        go_ret
        exact ⟨rfl, Below.refl _ _⟩
  | succ m ih =>
    intro ao n cap xs w deep hm hcap hcap2 h hn hd
    have HA := hideP h
    have hl : xs.length = n := by obtain ⟨ao', n', c', he, hl, _⟩ := h; simp only [Value.slice.injEq] at he; rw [hl, ← he.2.1]
    have HL := hideP hl
    have HIH := hideP ih
    obtain ⟨R, hR⟩ : ∃ R, R = ok xs deep := ⟨_, rfl⟩
    rw [← hR]
    have HR := hideP hR
    clear ih h hl hR
    by_cases hdd : 40 < deep
    · have hdi : (40 : Int) < (deep : Int) := by omega
      have HE : Hid (decide ((n : Int) = 0) = R) := hideP (by rw [HR.out, ok_deep hdd, HL.out]; simp)
      by_cases hn0 : n = 0
      · subst hn0
        go_enter Try.func19, Try.ntmps19
        go_wp2
        go_ret
        exact ⟨retB HE.out, Below.refl _ _⟩
      · have hn1 : ((n : Int) == 0) = false := by simp [hn0]
        have hn2 : decide ((n : Int) = 0) = false := by simp [hn0]
        rw [hn2] at HE
        go_enter Try.func19, Try.ntmps19
        go_wp2
        go_ret
        exact ⟨retB HE.out, Below.refl _ _⟩
    · have hdi : ¬ (40 : Int) < (deep : Int) := by omega
      go_enter Try.func19, Try.ntmps19
      go_wp2
      go_loopw [5] (fun a wr => ∃ i : Nat, i ≤ n ∧ a = .int .i64 (i : Int) ∧ Hid (ok (xs.drop i) deep = R) ∧ Hid (Below w.heap.size w wr)) (fun a _ => n - (intOf a).toNat)
      case atStart => exact ⟨0, by omega, rfl, hideP (by rw [HR.out, List.drop_zero]), hideP (Below.refl _ _)⟩
      case round =>
        obtain ⟨i, hi, rfl, HO, HB⟩ := hrel
        by_cases hin : i < n
        · have hii : (i : Int) < (n : Int) := by omega
          obtain ⟨b, off, cap', hv, hb, c0, c1, c2, c3, c4, c5⟩ := ARow.cells HA.out (k := i) (by rw [HL.out]; exact hin)
          simp only [Value.slice.injEq] at hv
          obtain ⟨rfl, hv1, hv2⟩ := hv
          obtain ⟨t, ht⟩ : ∃ t, t = xs.getD i At.none := ⟨_, rfl⟩
          rw [← ht] at c0 c1 c2 c3 c4 c5
          have hO2 := HO.out
          rw [drop_at (by rw [HL.out]; exact hin), ← ht] at hO2
          have HO2 := hideP hO2
          clear hv1 hv2 ht hO2
          have BW := HB.out
          have g0 := (BW.cell (p := ⟨b, off + i * 6, none⟩) hb).trans c0
          have g1 := (BW.cell (p := ⟨b, off + i * 6 + 1, none⟩) hb).trans c1
          have g2 := (BW.cell (p := ⟨b, off + i * 6 + 2, none⟩) hb).trans c2
          have g3 := (BW.cell (p := ⟨b, off + i * 6 + 3, none⟩) hb).trans c3
          have g4 := (BW.cell (p := ⟨b, off + i * 6 + 4, none⟩) hb).trans c4
          have g5 := (BW.cell (p := ⟨b, off + i * 6 + 5, none⟩) hb).trans c5
          clear c0 c1 c2 c3 c4 c5 BW
          have BN : Hid (∀ o, Below w.heap.size w (wr.alloc o)) := hideP (fun o => HB.out.alloc HB.out.size o)
          by_cases hA : atomB t = true
          case neg =>
            have hA' : atomB t = false := by simpa using hA
            have CA : Hid (∀ W, Calls Try.prog 27 #[atV t] W fun e w' => e = .returned (.bool false) ∧ Below W.heap.size W w') := hideP (fun W => by have := atomOk_any t W; rw [hA'] at this; exact this)
            have HE : Hid (false = R) := hideP (by rw [← HO2.out, ok_cons, hA']; simp)
            clear hA hA'
            obtain ⟨zk, zc, zh, zb, zu, zd⟩ := t
            dsimp only at g0 g1 g2 g3 g4 g5
            simp only [atV] at CA
            go_wp2_with fail
            refine (CA.out _).mono ?_
            rintro e w2 ⟨rfl, hb2⟩
            have H2 : Hid (Below w.heap.size w w2) := hideP (below_more (BN.out _) hb2 (BN.out _).size)
            clear hb2
            go_wp2
            go_ret
            exact ⟨retB HE.out, H2.out⟩
          case pos =>
            have CA : Hid (∀ W, Calls Try.prog 27 #[atV t] W fun e w' => e = .returned (.bool true) ∧ Below W.heap.size W w') := hideP (fun W => by have := atomOk_any t W; rw [hA] at this; exact this)
            have hcn := atomB_cnt hA
            have CK : Hid (∀ W, Calls Try.prog 28 #[atV t] W fun e w' => e = .returned (.int .i64 t.kids) ∧ Below W.heap.size W w') := hideP (fun W => kids_any t W (by omega))
            obtain ⟨kd, hkd⟩ : ∃ z, z = t.kids := ⟨_, rfl⟩
            rw [← hkd] at CK
            have HAT := hideP hA
            have HTE : Hid (∃ q, q = t) := hideP ⟨t, rfl⟩
            by_cases hK : kd ≤ (n : Int) - i - 1
            case neg =>
              have hK' : (n : Int) - i - 1 < kd := by omega
              have HE : Hid (false = R) := hideP (by rw [← HO2.out, ok_cons]; rw [show decide (t.kids ≤ ((xs.drop (i + 1)).length : Int)) = false by rw [← hkd, List.length_drop, HL.out]; simp; omega]; simp)
              clear hkd hcn hA hK
              obtain ⟨zk, zc, zh, zb, zu, zd⟩ := t
              dsimp only at g0 g1 g2 g3 g4 g5
              simp only [atV] at CA CK
              go_wp2_with fail
              refine (CA.out _).mono ?_
              rintro e w2 ⟨rfl, hb2⟩
              have B2 : Below w.heap.size w w2 := below_more (BN.out _) hb2 (BN.out _).size
              have hz2 : wr.heap.size < w2.heap.size := by have := hb2.size; simp at this; omega
              obtain ⟨hc2, hf2⟩ := bcell hb2
              simp only [World.size_alloc] at hc2 hf2
              have H2 := hideP B2
              clear hb2 B2
              go_wp2_with fail
              refine (CK.out _).mono ?_
              rintro e w3 ⟨rfl, hb3⟩
              have H3 : Hid (Below w.heap.size w w3) := hideP (below_more H2.out hb3 H2.out.size)
              clear hb3 hc2 hf2
              go_wp2
              go_ret
              exact ⟨retB HE.out, H3.out⟩
            case pos =>
              have hK' : ¬ ((n : Int) - i - 1 < kd) := by omega
              have hkd2 : kd = t.b + t.u + t.d := hkd
              have HT0 : Hid (∃ q, q = t) := hideP ⟨t, rfl⟩
              have HKD := hideP hkd
              clear hkd
              obtain ⟨zk, zc, zh, zb, zu, zd⟩ := t
              dsimp only at g0 g1 g2 g3 g4 g5
              simp only [atV] at CA CK
              go_wp2_with fail
              refine (CA.out _).mono ?_
              rintro e w2 ⟨rfl, hb2⟩
              have B2 : Below w.heap.size w w2 := below_more (BN.out _) hb2 (BN.out _).size
              have hz2 : wr.heap.size < w2.heap.size := by have := hb2.size; simp at this; omega
              obtain ⟨hc2, hf2⟩ := bcell hb2
              simp only [World.size_alloc] at hc2 hf2
              have H2 := hideP B2
              clear hb2 B2
              try dsimp only at hcn
              try dsimp only at hkd2
              obtain ⟨n1, n2, n3, n4, n5, n6⟩ := hcn
              obtain ⟨B, rfl⟩ : ∃ B : Nat, zb = B := ⟨zb.toNat, by omega⟩
              obtain ⟨U, rfl⟩ : ∃ B : Nat, zu = B := ⟨zu.toNat, by omega⟩
              obtain ⟨D, rfl⟩ : ∃ B : Nat, zd = B := ⟨zd.toNat, by omega⟩
              obtain ⟨M, hM⟩ : ∃ M, M = n - (i + 1) := ⟨_, rfl⟩
              have hKM : B + U + D ≤ M := by omega
              go_wp2_with fail
              refine (CK.out _).mono ?_
              rintro e w3 ⟨rfl, hb3⟩
              have hc3 := fun o => (hb3.cell (p := ⟨wr.heap.size, o, none⟩) hz2).trans (hc2 wr.heap.size o (by omega))
              have hf3 := fun o => (hb3.frozen (p := ⟨wr.heap.size, o, none⟩) hz2).trans (hf2 wr.heap.size o (by omega))
              have hz3 : wr.heap.size < w3.heap.size := Nat.lt_of_lt_of_le hz2 hb3.size
              have H3 : Hid (Below w.heap.size w w3) := hideP (below_more H2.out hb3 H2.out.size)
              clear hb3 hc2 hf2
              by_cases hcp : cap = i + 1
              · go_wp2_with fail
                try rw [← hM]
                rw [← hcp]
                obtain ⟨o1, ho1⟩ : ∃ o1, o1 = off := ⟨_, rfl⟩
                obtain ⟨c1, hc1⟩ : ∃ c1, c1 = 0 := ⟨_, rfl⟩
                have hinE : Value.slice (some ⟨b, off, none⟩) M (0) = Value.slice (some ⟨b, o1, none⟩) M c1 := by rw [ho1, hc1]
                rw [hinE]
                clear hinE
                have HW : Hid (∀ W, Below w.heap.size w W → ∀ k q c' o' : Nat, k + q ≤ M → (o' = o1 + k * 6 ∨ q = 0) → ARow 0 W (.slice (some ⟨b, o', none⟩) q c') (((xs.drop (i + 1)).drop k).take q)) := hideP (fun W hW k q c' o' hkq ho => by
                  by_cases hq0 : q = 0
                  · subst hq0
                    exact ⟨_, 0, _, rfl, by simp, fun hp => absurd hp (by omega)⟩
                  · have hp := ARow.part (HA.out.below atStable hW) (i + 1 + k) q c' (by omega)
                    rw [List.drop_drop]
                    rw [show o' = off + (i + 1 + k) * 6 by omega]
                    exact hp)
                have hcM : M ≤ c1 := by omega
                have hc9 : c1 ≤ 1000000000 := by omega
                have hMm : M ≤ m := by omega
                have hM2 : M ≤ 2000 := by omega
                have hd1 : deep + 1 ≤ 41 := by omega
                have CC : Hid (∀ (k q c' o' : Nat), k + q ≤ M → (o' = o1 + k * 6 ∨ q = 0) → q ≤ c' → c' ≤ 1000000000 → ∀ W, Below w.heap.size w W → Calls Try.prog 19 #[.slice (some ⟨b, o', none⟩) q c', .int .i64 ((deep : Int) + 1)] W fun e w' => e = .returned (.bool (ok (((xs.drop (i + 1)).drop k).take q) (deep + 1))) ∧ Below W.heap.size W w') := hideP (fun k q c' o' h1 h2 h3 h4 W hW => by
                  have := HIH.out (some ⟨b, o', none⟩) q c' _ W (deep + 1) (by omega) h3 h4 (HW.out W hW k q c' o' h1 h2) (by omega) hd1
                  rw [show ((deep + 1 : Nat) : Int) = (deep : Int) + 1 by omega] at this
                  exact this)
                obtain ⟨o2, ho2⟩ : ∃ o2, o2 = if c1 = B then o1 else o1 + B * 6 := ⟨_, rfl⟩
                obtain ⟨o3, ho3⟩ : ∃ o2, o2 = if c1 = B + U then o1 else o1 + (B + U) * 6 := ⟨_, rfl⟩
                obtain ⟨p1, hp1⟩ : ∃ p, p = ok ((xs.drop (i + 1)).take B) (deep + 1) := ⟨_, rfl⟩
                obtain ⟨p2, hp2⟩ : ∃ p, p = ok (((xs.drop (i + 1)).drop B).take U) (deep + 1) := ⟨_, rfl⟩
                obtain ⟨p3, hp3⟩ : ∃ p, p = ok (((xs.drop (i + 1)).drop (B + U)).take D) (deep + 1) := ⟨_, rfl⟩
                have C1 : Hid (∀ W, Below w.heap.size w W → Calls Try.prog 19 #[.slice (some ⟨b, o1, none⟩) B c1, .int .i64 ((deep : Int) + 1)] W fun e w' => e = .returned (.bool p1) ∧ Below W.heap.size W w') := hideP (fun W hW => by rw [hp1]; exact CC.out 0 B c1 o1 (by omega) (.inl (by omega)) (by omega) hc9 W hW)
                have C2 : Hid (∀ W, Below w.heap.size w W → Calls Try.prog 19 #[.slice (some ⟨b, o2, none⟩) U (c1 - B), .int .i64 ((deep : Int) + 1)] W fun e w' => e = .returned (.bool p2) ∧ Below W.heap.size W w') := hideP (fun W hW => by rw [hp2]; exact CC.out B U _ o2 (by omega) (by rw [ho2]; split; exact .inr (by omega); exact .inl rfl) (by omega) (by omega) W hW)
                have C3 : Hid (∀ W, Below w.heap.size w W → Calls Try.prog 19 #[.slice (some ⟨b, o3, none⟩) D (c1 - (B + U)), .int .i64 ((deep : Int) + 1)] W fun e w' => e = .returned (.bool p3) ∧ Below W.heap.size W w') := hideP (fun W hW => by rw [hp3]; exact CC.out (B + U) D _ o3 (by omega) (by rw [ho3]; split; exact .inr (by omega); exact .inl rfl) (by omega) (by omega) W hW)
                have CK2 : Hid (∀ W, Below w.heap.size w W → Calls Try.prog 28 #[.agg #[.int .i64 zk, .int .i64 zc, .int .i64 zh, .int .i64 (B : Int), .int .i64 (U : Int), .int .i64 (D : Int)]] W fun e w' => e = .returned (.int .i64 ((B : Int) + (U : Int) + (D : Int))) ∧ Below W.heap.size W w') := hideP (fun W _ => by rw [← hkd2]; exact CK.out W)
                have Q : Hid (∀ x : World, Below w3.heap.size w3 x → x.cell? ⟨wr.heap.size, 0, none⟩ = some (.int .i64 zk) ∧ x.cell? ⟨wr.heap.size, 1, none⟩ = some (.int .i64 zc) ∧ x.cell? ⟨wr.heap.size, 2, none⟩ = some (.int .i64 zh) ∧ x.cell? ⟨wr.heap.size, 3, none⟩ = some (.int .i64 (B : Int)) ∧ x.cell? ⟨wr.heap.size, 4, none⟩ = some (.int .i64 (U : Int)) ∧ x.cell? ⟨wr.heap.size, 5, none⟩ = some (.int .i64 (D : Int))) := hideP (fun x hx => ⟨(hx.cell (p := ⟨wr.heap.size, 0, none⟩) hz3).trans (by rw [hc3]; go_simp), (hx.cell (p := ⟨wr.heap.size, 1, none⟩) hz3).trans (by rw [hc3]; go_simp), (hx.cell (p := ⟨wr.heap.size, 2, none⟩) hz3).trans (by rw [hc3]; go_simp), (hx.cell (p := ⟨wr.heap.size, 3, none⟩) hz3).trans (by rw [hc3]; go_simp), (hx.cell (p := ⟨wr.heap.size, 4, none⟩) hz3).trans (by rw [hc3]; go_simp), (hx.cell (p := ⟨wr.heap.size, 5, none⟩) hz3).trans (by rw [hc3]; go_simp)⟩)
                have BD : Hid (Below w.heap.size w w3.drew ∧ Below w3.heap.size w3 w3.drew) := hideP ⟨H3.out.drew, Below.drew (Below.refl _ _)⟩
                have HO1 := hideP ho1
                have HC1 := hideP hc1
                have HMM := hideP hM
                have HOa := hideP ho2
                have HOb := hideP ho3
                clear ho1 hc1 hM ho2 ho3 hcp
                have HP1 := hideP hp1
                have HP2 := hideP hp2
                have HP3 := hideP hp3
                clear hc3 hf3 hp1 hp2 hp3 g0 g1 g2 g3 g4 g5
                have HOK : Hid (R = (p1 && p2 && p3 && (!decide (zk = 3) || twoB ((xs.drop (i + 1)).take B)) && ok (xs.drop (i + 1 + (B + U + D))) deep)) := hideP (by
                  have h := HO2.out
                  rw [ok_cons] at h
                  rw [← h, HAT.out, HP1.out, HP2.out, HP3.out]
                  have e2 : ((B : Int) + (U : Int)).toNat = B + U := by omega
                  have e3 : ((B : Int) + (U : Int) + (D : Int)).toNat = B + U + D := by omega
                  have hle : (B : Int) + (U : Int) + (D : Int) ≤ ((xs.drop (i + 1)).length : Int) := by rw [List.length_drop, HL.out]; omega
                  have hdp : deep ≤ 40 := by omega
                  simp only [At.kids, Int.toNat_natCast, e2, e3, hle, hdp, decide_true, Bool.true_and, List.drop_drop])
                cases p1
                · have HE : Hid (false = R) := hideP (by rw [HOK.out]; rfl)
                  refine wp_region_held_drew (S := fun x => x.cell? ⟨wr.heap.size, 0, none⟩ = some (.int .i64 zk) ∧ x.cell? ⟨wr.heap.size, 1, none⟩ = some (.int .i64 zc) ∧ x.cell? ⟨wr.heap.size, 2, none⟩ = some (.int .i64 zh) ∧ x.cell? ⟨wr.heap.size, 3, none⟩ = some (.int .i64 (B : Int)) ∧ x.cell? ⟨wr.heap.size, 4, none⟩ = some (.int .i64 (U : Int)) ∧ x.cell? ⟨wr.heap.size, 5, none⟩ = some (.int .i64 (D : Int))) (by kernel_rfl) (Q.out _ BD.out.2) (fun hS => ?_)
                  refine wpAnyH_take (i := 0) (v := .slice (some ⟨b, o1, none⟩) (M) (c1)) rfl (by kernel_rfl) (by kernel_rfl) (by kernel_rfl) (fun _ _ _ h => h) (Or.inl ⟨by first | rfl | go_simp, fun wx hx => by obtain ⟨e0, e1, e2, e3, e4, e5⟩ := hx; go_simp⟩) hS ?_
                  try simp only [Act.put, List.getElem_toArray, List.getElem_cons_zero, List.getElem_cons_succ, List.setIfInBounds_toArray, List.set_cons_zero, List.set_cons_succ]
                  refine wpAnyH_take (i := 1) (v := .pointer (some ⟨wr.heap.size, 3, none⟩)) rfl (by kernel_rfl) (by kernel_rfl) (by kernel_rfl) (fun _ _ _ h => h) (Or.inl ⟨by first | rfl | go_simp, fun wx hx => by obtain ⟨e0, e1, e2, e3, e4, e5⟩ := hx; go_simp⟩) hS ?_
                  try simp only [Act.put, List.getElem_toArray, List.getElem_cons_zero, List.getElem_cons_succ, List.setIfInBounds_toArray, List.set_cons_zero, List.set_cons_succ]
                  refine wpAnyH_take (i := 2) (v := .int .i64 (B : Int)) rfl (by kernel_rfl) (by kernel_rfl) (by kernel_rfl) (fun _ _ _ h => h) (Or.inl ⟨by first | rfl | go_simp, fun wx hx => by obtain ⟨e0, e1, e2, e3, e4, e5⟩ := hx; go_simp⟩) hS ?_
                  try simp only [Act.put, List.getElem_toArray, List.getElem_cons_zero, List.getElem_cons_succ, List.setIfInBounds_toArray, List.set_cons_zero, List.set_cons_succ]
                  refine wpAnyH_take (i := 3) (v := .slice (some ⟨b, o1, none⟩) B (c1)) rfl (by kernel_rfl) (by kernel_rfl) (by kernel_rfl) (fun _ _ _ h => h) (Or.inl ⟨by first | rfl | go_simp, fun wx hx => by obtain ⟨e0, e1, e2, e3, e4, e5⟩ := hx; go_simp; first | done | (intro h; omega)⟩) hS ?_
                  try simp only [Act.put, List.getElem_toArray, List.getElem_cons_zero, List.getElem_cons_succ, List.setIfInBounds_toArray, List.set_cons_zero, List.set_cons_succ]
                  refine wpAnyH_take (i := 4) (v := .int .i64 (deep : Int)) rfl (by kernel_rfl) (by kernel_rfl) (by kernel_rfl) (fun _ _ _ h => h) (Or.inl ⟨by first | rfl | go_simp, fun wx hx => by obtain ⟨e0, e1, e2, e3, e4, e5⟩ := hx; go_simp⟩) hS ?_
                  try simp only [Act.put, List.getElem_toArray, List.getElem_cons_zero, List.getElem_cons_succ, List.setIfInBounds_toArray, List.set_cons_zero, List.set_cons_succ]
                  refine wpAnyH_take (i := 5) (v := .int .i64 ((deep : Int) + 1)) rfl (by kernel_rfl) (by kernel_rfl) (by kernel_rfl) (fun _ _ _ h => h) (Or.inl ⟨by first | rfl | go_simp, fun wx hx => by obtain ⟨e0, e1, e2, e3, e4, e5⟩ := hx; go_simp; exact wrapI _ (by omega) (by omega)⟩) hS ?_
                  try simp only [Act.put, List.getElem_toArray, List.getElem_cons_zero, List.getElem_cons_succ, List.setIfInBounds_toArray, List.set_cons_zero, List.set_cons_succ]
                  refine wpAnyH_ready (rs := [6]) (by kernel_rfl) (by simp) ?_
                  refine AllReadyH.cons rfl (fun K hK => ?_) AllReadyH.nil
                  rw [if_pos (by first | rfl | go_simp)]
                  go_wp2_with (go_at_call 19; refine (C1.out _ BD.out.1).mono ?_; rintro e w4 ⟨rfl, hb6⟩; have B4 := hideP (And.intro (below_more BD.out.1 hb6 BD.out.1.size) (below_more BD.out.2 hb6 BD.out.2.size)); clear hb6)
                  refine hK.out _ _ (Q.out _ B4.out.2) (fun hS4 => ?_)
                  try simp only [Act.put, List.getElem_toArray, List.getElem_cons_zero, List.getElem_cons_succ, List.setIfInBounds_toArray, List.set_cons_zero, List.set_cons_succ]
                  refine wpAnyH_take (i := 7) (v := .bool true) rfl (by kernel_rfl) (by kernel_rfl) (by kernel_rfl) (fun _ _ _ h => h) (Or.inl ⟨by first | rfl | go_simp, fun wx hx => by obtain ⟨e0, e1, e2, e3, e4, e5⟩ := hx; go_simp⟩) hS4 ?_
                  try simp only [Act.put, List.getElem_toArray, List.getElem_cons_zero, List.getElem_cons_succ, List.setIfInBounds_toArray, List.set_cons_zero, List.set_cons_succ]
                  refine wpAnyH_take (i := 8) (v := .bool true) rfl (by kernel_rfl) (by kernel_rfl) (by kernel_rfl) (fun _ _ _ h => h) (Or.inl ⟨by first | rfl | go_simp, fun wx hx => by obtain ⟨e0, e1, e2, e3, e4, e5⟩ := hx; go_simp⟩) hS4 ?_
                  try simp only [Act.put, List.getElem_toArray, List.getElem_cons_zero, List.getElem_cons_succ, List.setIfInBounds_toArray, List.set_cons_zero, List.set_cons_succ]
                  refine wpAnyH_take (i := 9) (v := undef) rfl (by kernel_rfl) (by kernel_rfl) (by kernel_rfl) (fun _ _ _ h => h) (Or.inr ⟨by first | (go_simp; done) | (go_simp; intro h; cases h; done) | (go_simp; simp [undef]; done), rfl⟩) hS4 ?_
                  try simp only [Act.put, List.getElem_toArray, List.getElem_cons_zero, List.getElem_cons_succ, List.setIfInBounds_toArray, List.set_cons_zero, List.set_cons_succ]
                  refine wpAnyH_take (i := 10) (v := undef) rfl (by kernel_rfl) (by kernel_rfl) (by kernel_rfl) (fun _ _ _ h => h) (Or.inr ⟨by first | (go_simp; done) | (go_simp; intro h; cases h; done) | (go_simp; simp [undef]; done), rfl⟩) hS4 ?_
                  try simp only [Act.put, List.getElem_toArray, List.getElem_cons_zero, List.getElem_cons_succ, List.setIfInBounds_toArray, List.set_cons_zero, List.set_cons_succ]
                  refine wpAnyH_take (i := 11) (v := undef) rfl (by kernel_rfl) (by kernel_rfl) (by kernel_rfl) (fun _ _ _ h => h) (Or.inr ⟨by first | (go_simp; done) | (go_simp; intro h; cases h; done) | (go_simp; simp [undef]; done), rfl⟩) hS4 ?_
                  try simp only [Act.put, List.getElem_toArray, List.getElem_cons_zero, List.getElem_cons_succ, List.setIfInBounds_toArray, List.set_cons_zero, List.set_cons_succ]
                  refine wpAnyH_take (i := 12) (v := undef) rfl (by kernel_rfl) (by kernel_rfl) (by kernel_rfl) (fun _ _ _ h => h) (Or.inr ⟨by first | (go_simp; done) | (go_simp; intro h; cases h; done) | (go_simp; simp [undef]; done), rfl⟩) hS4 ?_
                  try simp only [Act.put, List.getElem_toArray, List.getElem_cons_zero, List.getElem_cons_succ, List.setIfInBounds_toArray, List.set_cons_zero, List.set_cons_succ]
                  refine wpAnyH_take (i := 13) (v := undef) rfl (by kernel_rfl) (by kernel_rfl) (by kernel_rfl) (fun _ _ _ h => h) (Or.inr ⟨by first | (go_simp; done) | (go_simp; intro h; cases h; done) | (go_simp; simp [undef]; done), rfl⟩) hS4 ?_
                  try simp only [Act.put, List.getElem_toArray, List.getElem_cons_zero, List.getElem_cons_succ, List.setIfInBounds_toArray, List.set_cons_zero, List.set_cons_succ]
                  refine wpAnyH_take (i := 14) (v := undef) rfl (by kernel_rfl) (by kernel_rfl) (by kernel_rfl) (fun _ _ _ h => h) (Or.inr ⟨by first | (go_simp; done) | (go_simp; intro h; cases h; done) | (go_simp; simp [undef]; done), rfl⟩) hS4 ?_
                  try simp only [Act.put, List.getElem_toArray, List.getElem_cons_zero, List.getElem_cons_succ, List.setIfInBounds_toArray, List.set_cons_zero, List.set_cons_succ]
                  refine wpAnyH_take (i := 15) (v := undef) rfl (by kernel_rfl) (by kernel_rfl) (by kernel_rfl) (fun _ _ _ h => h) (Or.inr ⟨by first | (go_simp; done) | (go_simp; intro h; cases h; done) | (go_simp; simp [undef]; done), rfl⟩) hS4 ?_
                  try simp only [Act.put, List.getElem_toArray, List.getElem_cons_zero, List.getElem_cons_succ, List.setIfInBounds_toArray, List.set_cons_zero, List.set_cons_succ]
                  refine wpAnyH_take (i := 16) (v := undef) rfl (by kernel_rfl) (by kernel_rfl) (by kernel_rfl) (fun _ _ _ h => h) (Or.inr ⟨by first | (go_simp; done) | (go_simp; intro h; cases h; done) | (go_simp; simp [undef]; done), rfl⟩) hS4 ?_
                  try simp only [Act.put, List.getElem_toArray, List.getElem_cons_zero, List.getElem_cons_succ, List.setIfInBounds_toArray, List.set_cons_zero, List.set_cons_succ]
                  refine wpAnyH_take (i := 17) (v := undef) rfl (by kernel_rfl) (by kernel_rfl) (by kernel_rfl) (fun _ _ _ h => h) (Or.inr ⟨by first | (go_simp; done) | (go_simp; intro h; cases h; done) | (go_simp; simp [undef]; done), rfl⟩) hS4 ?_
                  try simp only [Act.put, List.getElem_toArray, List.getElem_cons_zero, List.getElem_cons_succ, List.setIfInBounds_toArray, List.set_cons_zero, List.set_cons_succ]
                  refine wpAnyH_take (i := 18) (v := undef) rfl (by kernel_rfl) (by kernel_rfl) (by kernel_rfl) (fun _ _ _ h => h) (Or.inr ⟨by first | (go_simp; done) | (go_simp; intro h; cases h; done) | (go_simp; simp [undef]; done), rfl⟩) hS4 ?_
                  try simp only [Act.put, List.getElem_toArray, List.getElem_cons_zero, List.getElem_cons_succ, List.setIfInBounds_toArray, List.set_cons_zero, List.set_cons_succ]
                  refine wpAnyH_take (i := 19) (v := undef) rfl (by kernel_rfl) (by kernel_rfl) (by kernel_rfl) (fun _ _ _ h => h) (Or.inr ⟨by first | (go_simp; done) | (go_simp; intro h; cases h; done) | (go_simp; simp [undef]; done), rfl⟩) hS4 ?_
                  try simp only [Act.put, List.getElem_toArray, List.getElem_cons_zero, List.getElem_cons_succ, List.setIfInBounds_toArray, List.set_cons_zero, List.set_cons_succ]
                  refine wpAnyH_take (i := 20) (v := undef) rfl (by kernel_rfl) (by kernel_rfl) (by kernel_rfl) (fun _ _ _ h => h) (Or.inr ⟨by first | (go_simp; done) | (go_simp; intro h; cases h; done) | (go_simp; simp [undef]; done), rfl⟩) hS4 ?_
                  try simp only [Act.put, List.getElem_toArray, List.getElem_cons_zero, List.getElem_cons_succ, List.setIfInBounds_toArray, List.set_cons_zero, List.set_cons_succ]
                  refine wpAnyH_take (i := 21) (v := undef) rfl (by kernel_rfl) (by kernel_rfl) (by kernel_rfl) (fun _ _ _ h => h) (Or.inr ⟨by first | (go_simp; done) | (go_simp; intro h; cases h; done) | (go_simp; simp [undef]; done), rfl⟩) hS4 ?_
                  try simp only [Act.put, List.getElem_toArray, List.getElem_cons_zero, List.getElem_cons_succ, List.setIfInBounds_toArray, List.set_cons_zero, List.set_cons_succ]
                  refine wpAnyH_take (i := 22) (v := .bool true) rfl (by kernel_rfl) (by kernel_rfl) (by kernel_rfl) (fun _ _ _ h => h) (Or.inl ⟨by first | rfl | go_simp, fun wx hx => by obtain ⟨e0, e1, e2, e3, e4, e5⟩ := hx; go_simp⟩) hS4 ?_
                  try simp only [Act.put, List.getElem_toArray, List.getElem_cons_zero, List.getElem_cons_succ, List.setIfInBounds_toArray, List.set_cons_zero, List.set_cons_succ]
                  refine wpAnyH_take (i := 23) (v := .bool true) rfl (by kernel_rfl) (by kernel_rfl) (by kernel_rfl) (fun _ _ _ h => h) (Or.inl ⟨by first | rfl | go_simp, fun wx hx => by obtain ⟨e0, e1, e2, e3, e4, e5⟩ := hx; go_simp⟩) hS4 ?_
                  try simp only [Act.put, List.getElem_toArray, List.getElem_cons_zero, List.getElem_cons_succ, List.setIfInBounds_toArray, List.set_cons_zero, List.set_cons_succ]
                  refine wpAnyH_take (i := 24) (v := undef) rfl (by kernel_rfl) (by kernel_rfl) (by kernel_rfl) (fun _ _ _ h => h) (Or.inr ⟨by first | (go_simp; done) | (go_simp; intro h; cases h; done) | (go_simp; simp [undef]; done), rfl⟩) hS4 ?_
                  try simp only [Act.put, List.getElem_toArray, List.getElem_cons_zero, List.getElem_cons_succ, List.setIfInBounds_toArray, List.set_cons_zero, List.set_cons_succ]
                  refine wpAnyH_take (i := 25) (v := undef) rfl (by kernel_rfl) (by kernel_rfl) (by kernel_rfl) (fun _ _ _ h => h) (Or.inr ⟨by first | (go_simp; done) | (go_simp; intro h; cases h; done) | (go_simp; simp [undef]; done), rfl⟩) hS4 ?_
                  try simp only [Act.put, List.getElem_toArray, List.getElem_cons_zero, List.getElem_cons_succ, List.setIfInBounds_toArray, List.set_cons_zero, List.set_cons_succ]
                  refine wpAnyH_take (i := 26) (v := undef) rfl (by kernel_rfl) (by kernel_rfl) (by kernel_rfl) (fun _ _ _ h => h) (Or.inr ⟨by first | (go_simp; done) | (go_simp; intro h; cases h; done) | (go_simp; simp [undef]; done), rfl⟩) hS4 ?_
                  try simp only [Act.put, List.getElem_toArray, List.getElem_cons_zero, List.getElem_cons_succ, List.setIfInBounds_toArray, List.set_cons_zero, List.set_cons_succ]
                  refine wpAnyH_take (i := 27) (v := undef) rfl (by kernel_rfl) (by kernel_rfl) (by kernel_rfl) (fun _ _ _ h => h) (Or.inr ⟨by first | (go_simp; done) | (go_simp; intro h; cases h; done) | (go_simp; simp [undef]; done), rfl⟩) hS4 ?_
                  try simp only [Act.put, List.getElem_toArray, List.getElem_cons_zero, List.getElem_cons_succ, List.setIfInBounds_toArray, List.set_cons_zero, List.set_cons_succ]
                  refine wpAnyH_take (i := 28) (v := undef) rfl (by kernel_rfl) (by kernel_rfl) (by kernel_rfl) (fun _ _ _ h => h) (Or.inr ⟨by first | (go_simp; done) | (go_simp; intro h; cases h; done) | (go_simp; simp [undef]; done), rfl⟩) hS4 ?_
                  try simp only [Act.put, List.getElem_toArray, List.getElem_cons_zero, List.getElem_cons_succ, List.setIfInBounds_toArray, List.set_cons_zero, List.set_cons_succ]
                  refine wpAnyH_take (i := 29) (v := undef) rfl (by kernel_rfl) (by kernel_rfl) (by kernel_rfl) (fun _ _ _ h => h) (Or.inr ⟨by first | (go_simp; done) | (go_simp; intro h; cases h; done) | (go_simp; simp [undef]; done), rfl⟩) hS4 ?_
                  try simp only [Act.put, List.getElem_toArray, List.getElem_cons_zero, List.getElem_cons_succ, List.setIfInBounds_toArray, List.set_cons_zero, List.set_cons_succ]
                  refine wpAnyH_take (i := 30) (v := undef) rfl (by kernel_rfl) (by kernel_rfl) (by kernel_rfl) (fun _ _ _ h => h) (Or.inr ⟨by first | (go_simp; done) | (go_simp; intro h; cases h; done) | (go_simp; simp [undef]; done), rfl⟩) hS4 ?_
                  try simp only [Act.put, List.getElem_toArray, List.getElem_cons_zero, List.getElem_cons_succ, List.setIfInBounds_toArray, List.set_cons_zero, List.set_cons_succ]
                  refine wpAnyH_take (i := 31) (v := undef) rfl (by kernel_rfl) (by kernel_rfl) (by kernel_rfl) (fun _ _ _ h => h) (Or.inr ⟨by first | (go_simp; done) | (go_simp; intro h; cases h; done) | (go_simp; simp [undef]; done), rfl⟩) hS4 ?_
                  try simp only [Act.put, List.getElem_toArray, List.getElem_cons_zero, List.getElem_cons_succ, List.setIfInBounds_toArray, List.set_cons_zero, List.set_cons_succ]
                  refine wpAnyH_take (i := 32) (v := undef) rfl (by kernel_rfl) (by kernel_rfl) (by kernel_rfl) (fun _ _ _ h => h) (Or.inr ⟨by first | (go_simp; done) | (go_simp; intro h; cases h; done) | (go_simp; simp [undef]; done), rfl⟩) hS4 ?_
                  try simp only [Act.put, List.getElem_toArray, List.getElem_cons_zero, List.getElem_cons_succ, List.setIfInBounds_toArray, List.set_cons_zero, List.set_cons_succ]
                  refine wpAnyH_take (i := 33) (v := undef) rfl (by kernel_rfl) (by kernel_rfl) (by kernel_rfl) (fun _ _ _ h => h) (Or.inr ⟨by first | (go_simp; done) | (go_simp; intro h; cases h; done) | (go_simp; simp [undef]; done), rfl⟩) hS4 ?_
                  try simp only [Act.put, List.getElem_toArray, List.getElem_cons_zero, List.getElem_cons_succ, List.setIfInBounds_toArray, List.set_cons_zero, List.set_cons_succ]
                  refine wpAnyH_take (i := 34) (v := undef) rfl (by kernel_rfl) (by kernel_rfl) (by kernel_rfl) (fun _ _ _ h => h) (Or.inr ⟨by first | (go_simp; done) | (go_simp; intro h; cases h; done) | (go_simp; simp [undef]; done), rfl⟩) hS4 ?_
                  try simp only [Act.put, List.getElem_toArray, List.getElem_cons_zero, List.getElem_cons_succ, List.setIfInBounds_toArray, List.set_cons_zero, List.set_cons_succ]
                  refine wpAnyH_take (i := 35) (v := undef) rfl (by kernel_rfl) (by kernel_rfl) (by kernel_rfl) (fun _ _ _ h => h) (Or.inr ⟨by first | (go_simp; done) | (go_simp; intro h; cases h; done) | (go_simp; simp [undef]; done), rfl⟩) hS4 ?_
                  try simp only [Act.put, List.getElem_toArray, List.getElem_cons_zero, List.getElem_cons_succ, List.setIfInBounds_toArray, List.set_cons_zero, List.set_cons_succ]
                  refine wpAnyH_take (i := 36) (v := undef) rfl (by kernel_rfl) (by kernel_rfl) (by kernel_rfl) (fun _ _ _ h => h) (Or.inr ⟨by first | (go_simp; done) | (go_simp; intro h; cases h; done) | (go_simp; simp [undef]; done), rfl⟩) hS4 ?_
                  try simp only [Act.put, List.getElem_toArray, List.getElem_cons_zero, List.getElem_cons_succ, List.setIfInBounds_toArray, List.set_cons_zero, List.set_cons_succ]
                  refine wpAnyH_take (i := 37) (v := .bool true) rfl (by kernel_rfl) (by kernel_rfl) (by kernel_rfl) (fun _ _ _ h => h) (Or.inl ⟨by first | rfl | go_simp, fun wx hx => by obtain ⟨e0, e1, e2, e3, e4, e5⟩ := hx; go_simp⟩) hS4 ?_
                  try simp only [Act.put, List.getElem_toArray, List.getElem_cons_zero, List.getElem_cons_succ, List.setIfInBounds_toArray, List.set_cons_zero, List.set_cons_succ]
                  refine wpAnyH_done (by kernel_rfl) ?_ _
                  clear hK
                  go_wp2
                  go_ret
                  exact ⟨retB HE.out, B4.out.1⟩
                · cases p2
                  · have HE : Hid (false = R) := hideP (by rw [HOK.out]; rfl)
                    refine wp_region_held_drew (S := fun x => x.cell? ⟨wr.heap.size, 0, none⟩ = some (.int .i64 zk) ∧ x.cell? ⟨wr.heap.size, 1, none⟩ = some (.int .i64 zc) ∧ x.cell? ⟨wr.heap.size, 2, none⟩ = some (.int .i64 zh) ∧ x.cell? ⟨wr.heap.size, 3, none⟩ = some (.int .i64 (B : Int)) ∧ x.cell? ⟨wr.heap.size, 4, none⟩ = some (.int .i64 (U : Int)) ∧ x.cell? ⟨wr.heap.size, 5, none⟩ = some (.int .i64 (D : Int))) (by kernel_rfl) (Q.out _ BD.out.2) (fun hS => ?_)
                    refine wpAnyH_take (i := 0) (v := .slice (some ⟨b, o1, none⟩) (M) (c1)) rfl (by kernel_rfl) (by kernel_rfl) (by kernel_rfl) (fun _ _ _ h => h) (Or.inl ⟨by first | rfl | go_simp, fun wx hx => by obtain ⟨e0, e1, e2, e3, e4, e5⟩ := hx; go_simp⟩) hS ?_
                    try simp only [Act.put, List.getElem_toArray, List.getElem_cons_zero, List.getElem_cons_succ, List.setIfInBounds_toArray, List.set_cons_zero, List.set_cons_succ]
                    refine wpAnyH_take (i := 1) (v := .pointer (some ⟨wr.heap.size, 3, none⟩)) rfl (by kernel_rfl) (by kernel_rfl) (by kernel_rfl) (fun _ _ _ h => h) (Or.inl ⟨by first | rfl | go_simp, fun wx hx => by obtain ⟨e0, e1, e2, e3, e4, e5⟩ := hx; go_simp⟩) hS ?_
                    try simp only [Act.put, List.getElem_toArray, List.getElem_cons_zero, List.getElem_cons_succ, List.setIfInBounds_toArray, List.set_cons_zero, List.set_cons_succ]
                    refine wpAnyH_take (i := 2) (v := .int .i64 (B : Int)) rfl (by kernel_rfl) (by kernel_rfl) (by kernel_rfl) (fun _ _ _ h => h) (Or.inl ⟨by first | rfl | go_simp, fun wx hx => by obtain ⟨e0, e1, e2, e3, e4, e5⟩ := hx; go_simp⟩) hS ?_
                    try simp only [Act.put, List.getElem_toArray, List.getElem_cons_zero, List.getElem_cons_succ, List.setIfInBounds_toArray, List.set_cons_zero, List.set_cons_succ]
                    refine wpAnyH_take (i := 3) (v := .slice (some ⟨b, o1, none⟩) B (c1)) rfl (by kernel_rfl) (by kernel_rfl) (by kernel_rfl) (fun _ _ _ h => h) (Or.inl ⟨by first | rfl | go_simp, fun wx hx => by obtain ⟨e0, e1, e2, e3, e4, e5⟩ := hx; go_simp; first | done | (intro h; omega)⟩) hS ?_
                    try simp only [Act.put, List.getElem_toArray, List.getElem_cons_zero, List.getElem_cons_succ, List.setIfInBounds_toArray, List.set_cons_zero, List.set_cons_succ]
                    refine wpAnyH_take (i := 4) (v := .int .i64 (deep : Int)) rfl (by kernel_rfl) (by kernel_rfl) (by kernel_rfl) (fun _ _ _ h => h) (Or.inl ⟨by first | rfl | go_simp, fun wx hx => by obtain ⟨e0, e1, e2, e3, e4, e5⟩ := hx; go_simp⟩) hS ?_
                    try simp only [Act.put, List.getElem_toArray, List.getElem_cons_zero, List.getElem_cons_succ, List.setIfInBounds_toArray, List.set_cons_zero, List.set_cons_succ]
                    refine wpAnyH_take (i := 5) (v := .int .i64 ((deep : Int) + 1)) rfl (by kernel_rfl) (by kernel_rfl) (by kernel_rfl) (fun _ _ _ h => h) (Or.inl ⟨by first | rfl | go_simp, fun wx hx => by obtain ⟨e0, e1, e2, e3, e4, e5⟩ := hx; go_simp; exact wrapI _ (by omega) (by omega)⟩) hS ?_
                    try simp only [Act.put, List.getElem_toArray, List.getElem_cons_zero, List.getElem_cons_succ, List.setIfInBounds_toArray, List.set_cons_zero, List.set_cons_succ]
                    refine wpAnyH_ready (rs := [6]) (by kernel_rfl) (by simp) ?_
                    refine AllReadyH.cons rfl (fun K hK => ?_) AllReadyH.nil
                    rw [if_pos (by first | rfl | go_simp)]
                    go_wp2_with (go_at_call 19; refine (C1.out _ BD.out.1).mono ?_; rintro e w4 ⟨rfl, hb6⟩; have B4 := hideP (And.intro (below_more BD.out.1 hb6 BD.out.1.size) (below_more BD.out.2 hb6 BD.out.2.size)); clear hb6)
                    refine hK.out _ _ (Q.out _ B4.out.2) (fun hS4 => ?_)
                    try simp only [Act.put, List.getElem_toArray, List.getElem_cons_zero, List.getElem_cons_succ, List.setIfInBounds_toArray, List.set_cons_zero, List.set_cons_succ]
                    refine wpAnyH_take (i := 7) (v := .bool false) rfl (by kernel_rfl) (by kernel_rfl) (by kernel_rfl) (fun _ _ _ h => h) (Or.inl ⟨by first | rfl | go_simp, fun wx hx => by obtain ⟨e0, e1, e2, e3, e4, e5⟩ := hx; go_simp⟩) hS4 ?_
                    try simp only [Act.put, List.getElem_toArray, List.getElem_cons_zero, List.getElem_cons_succ, List.setIfInBounds_toArray, List.set_cons_zero, List.set_cons_succ]
                    refine wpAnyH_take (i := 8) (v := .bool false) rfl (by kernel_rfl) (by kernel_rfl) (by kernel_rfl) (fun _ _ _ h => h) (Or.inl ⟨by first | rfl | go_simp, fun wx hx => by obtain ⟨e0, e1, e2, e3, e4, e5⟩ := hx; go_simp⟩) hS4 ?_
                    try simp only [Act.put, List.getElem_toArray, List.getElem_cons_zero, List.getElem_cons_succ, List.setIfInBounds_toArray, List.set_cons_zero, List.set_cons_succ]
                    refine wpAnyH_take (i := 9) (v := .slice (some ⟨b, o1, none⟩) (M) (c1)) rfl (by kernel_rfl) (by kernel_rfl) (by kernel_rfl) (fun _ _ _ h => h) (Or.inl ⟨by first | rfl | go_simp, fun wx hx => by obtain ⟨e0, e1, e2, e3, e4, e5⟩ := hx; go_simp⟩) hS4 ?_
                    try simp only [Act.put, List.getElem_toArray, List.getElem_cons_zero, List.getElem_cons_succ, List.setIfInBounds_toArray, List.set_cons_zero, List.set_cons_succ]
                    refine wpAnyH_take (i := 10) (v := .pointer (some ⟨wr.heap.size, 3, none⟩)) rfl (by kernel_rfl) (by kernel_rfl) (by kernel_rfl) (fun _ _ _ h => h) (Or.inl ⟨by first | rfl | go_simp, fun wx hx => by obtain ⟨e0, e1, e2, e3, e4, e5⟩ := hx; go_simp⟩) hS4 ?_
                    try simp only [Act.put, List.getElem_toArray, List.getElem_cons_zero, List.getElem_cons_succ, List.setIfInBounds_toArray, List.set_cons_zero, List.set_cons_succ]
                    refine wpAnyH_take (i := 11) (v := .int .i64 (B : Int)) rfl (by kernel_rfl) (by kernel_rfl) (by kernel_rfl) (fun _ _ _ h => h) (Or.inl ⟨by first | rfl | go_simp, fun wx hx => by obtain ⟨e0, e1, e2, e3, e4, e5⟩ := hx; go_simp⟩) hS4 ?_
                    try simp only [Act.put, List.getElem_toArray, List.getElem_cons_zero, List.getElem_cons_succ, List.setIfInBounds_toArray, List.set_cons_zero, List.set_cons_succ]
                    refine wpAnyH_take (i := 12) (v := .pointer (some ⟨wr.heap.size, 3, none⟩)) rfl (by kernel_rfl) (by kernel_rfl) (by kernel_rfl) (fun _ _ _ h => h) (Or.inl ⟨by first | rfl | go_simp, fun wx hx => by obtain ⟨e0, e1, e2, e3, e4, e5⟩ := hx; go_simp⟩) hS4 ?_
                    try simp only [Act.put, List.getElem_toArray, List.getElem_cons_zero, List.getElem_cons_succ, List.setIfInBounds_toArray, List.set_cons_zero, List.set_cons_succ]
                    refine wpAnyH_take (i := 13) (v := .int .i64 (B : Int)) rfl (by kernel_rfl) (by kernel_rfl) (by kernel_rfl) (fun _ _ _ h => h) (Or.inl ⟨by first | rfl | go_simp, fun wx hx => by obtain ⟨e0, e1, e2, e3, e4, e5⟩ := hx; go_simp⟩) hS4 ?_
                    try simp only [Act.put, List.getElem_toArray, List.getElem_cons_zero, List.getElem_cons_succ, List.setIfInBounds_toArray, List.set_cons_zero, List.set_cons_succ]
                    refine wpAnyH_take (i := 14) (v := .pointer (some ⟨wr.heap.size, 4, none⟩)) rfl (by kernel_rfl) (by kernel_rfl) (by kernel_rfl) (fun _ _ _ h => h) (Or.inl ⟨by first | rfl | go_simp, fun wx hx => by obtain ⟨e0, e1, e2, e3, e4, e5⟩ := hx; go_simp⟩) hS4 ?_
                    try simp only [Act.put, List.getElem_toArray, List.getElem_cons_zero, List.getElem_cons_succ, List.setIfInBounds_toArray, List.set_cons_zero, List.set_cons_succ]
                    refine wpAnyH_take (i := 15) (v := .int .i64 (U : Int)) rfl (by kernel_rfl) (by kernel_rfl) (by kernel_rfl) (fun _ _ _ h => h) (Or.inl ⟨by first | rfl | go_simp, fun wx hx => by obtain ⟨e0, e1, e2, e3, e4, e5⟩ := hx; go_simp⟩) hS4 ?_
                    try simp only [Act.put, List.getElem_toArray, List.getElem_cons_zero, List.getElem_cons_succ, List.setIfInBounds_toArray, List.set_cons_zero, List.set_cons_succ]
                    refine wpAnyH_take (i := 16) (v := .int .i64 ((B : Int) + (U : Int))) rfl (by kernel_rfl) (by kernel_rfl) (by kernel_rfl) (fun _ _ _ h => h) (Or.inl ⟨by first | rfl | go_simp, fun wx hx => by obtain ⟨e0, e1, e2, e3, e4, e5⟩ := hx; go_simp; exact wrapI _ (by omega) (by omega)⟩) hS4 ?_
                    try simp only [Act.put, List.getElem_toArray, List.getElem_cons_zero, List.getElem_cons_succ, List.setIfInBounds_toArray, List.set_cons_zero, List.set_cons_succ]
                    refine wpAnyH_take (i := 17) (v := .slice (some ⟨b, o2, none⟩) U (c1 - B)) rfl (by kernel_rfl) (by kernel_rfl) (by kernel_rfl) (fun _ _ _ h => h) (Or.inl ⟨by first | rfl | go_simp, fun wx hx => by obtain ⟨e0, e1, e2, e3, e4, e5⟩ := hx; rw [HOa.out]; by_cases hq : c1 = B <;> simp only [hq, if_true, if_false] <;> go_simp <;> rw [if_pos ⟨by omega, by omega⟩, if_pos (by omega), show ((B : Int) + (U : Int)).toNat - B = U by omega]⟩) hS4 ?_
                    try simp only [Act.put, List.getElem_toArray, List.getElem_cons_zero, List.getElem_cons_succ, List.setIfInBounds_toArray, List.set_cons_zero, List.set_cons_succ]
                    refine wpAnyH_take (i := 18) (v := .int .i64 (deep : Int)) rfl (by kernel_rfl) (by kernel_rfl) (by kernel_rfl) (fun _ _ _ h => h) (Or.inl ⟨by first | rfl | go_simp, fun wx hx => by obtain ⟨e0, e1, e2, e3, e4, e5⟩ := hx; go_simp⟩) hS4 ?_
                    try simp only [Act.put, List.getElem_toArray, List.getElem_cons_zero, List.getElem_cons_succ, List.setIfInBounds_toArray, List.set_cons_zero, List.set_cons_succ]
                    refine wpAnyH_take (i := 19) (v := .int .i64 ((deep : Int) + 1)) rfl (by kernel_rfl) (by kernel_rfl) (by kernel_rfl) (fun _ _ _ h => h) (Or.inl ⟨by first | rfl | go_simp, fun wx hx => by obtain ⟨e0, e1, e2, e3, e4, e5⟩ := hx; go_simp; exact wrapI _ (by omega) (by omega)⟩) hS4 ?_
                    try simp only [Act.put, List.getElem_toArray, List.getElem_cons_zero, List.getElem_cons_succ, List.setIfInBounds_toArray, List.set_cons_zero, List.set_cons_succ]
                    refine wpAnyH_ready (rs := [20]) (by kernel_rfl) (by simp) ?_
                    refine AllReadyH.cons rfl (fun K hK => ?_) AllReadyH.nil
                    rw [if_pos (by first | rfl | go_simp)]
                    go_wp2_with (go_at_call 19; refine (C2.out _ B4.out.1).mono ?_; rintro e w5 ⟨rfl, hb6⟩; have B5 := hideP (And.intro (below_more B4.out.1 hb6 B4.out.1.size) (below_more B4.out.2 hb6 B4.out.2.size)); clear hb6)
                    refine hK.out _ _ (Q.out _ B5.out.2) (fun hS5 => ?_)
                    try simp only [Act.put, List.getElem_toArray, List.getElem_cons_zero, List.getElem_cons_succ, List.setIfInBounds_toArray, List.set_cons_zero, List.set_cons_succ]
                    refine wpAnyH_take (i := 21) (v := .bool true) rfl (by kernel_rfl) (by kernel_rfl) (by kernel_rfl) (fun _ _ _ h => h) (Or.inl ⟨by first | rfl | go_simp, fun wx hx => by obtain ⟨e0, e1, e2, e3, e4, e5⟩ := hx; go_simp⟩) hS5 ?_
                    try simp only [Act.put, List.getElem_toArray, List.getElem_cons_zero, List.getElem_cons_succ, List.setIfInBounds_toArray, List.set_cons_zero, List.set_cons_succ]
                    refine wpAnyH_take (i := 22) (v := .bool true) rfl (by kernel_rfl) (by kernel_rfl) (by kernel_rfl) (fun _ _ _ h => h) (Or.inl ⟨by first | rfl | go_simp, fun wx hx => by obtain ⟨e0, e1, e2, e3, e4, e5⟩ := hx; go_simp⟩) hS5 ?_
                    try simp only [Act.put, List.getElem_toArray, List.getElem_cons_zero, List.getElem_cons_succ, List.setIfInBounds_toArray, List.set_cons_zero, List.set_cons_succ]
                    refine wpAnyH_take (i := 23) (v := .bool true) rfl (by kernel_rfl) (by kernel_rfl) (by kernel_rfl) (fun _ _ _ h => h) (Or.inl ⟨by first | rfl | go_simp, fun wx hx => by obtain ⟨e0, e1, e2, e3, e4, e5⟩ := hx; go_simp⟩) hS5 ?_
                    try simp only [Act.put, List.getElem_toArray, List.getElem_cons_zero, List.getElem_cons_succ, List.setIfInBounds_toArray, List.set_cons_zero, List.set_cons_succ]
                    refine wpAnyH_take (i := 24) (v := undef) rfl (by kernel_rfl) (by kernel_rfl) (by kernel_rfl) (fun _ _ _ h => h) (Or.inr ⟨by first | (go_simp; done) | (go_simp; intro h; cases h; done) | (go_simp; simp [undef]; done), rfl⟩) hS5 ?_
                    try simp only [Act.put, List.getElem_toArray, List.getElem_cons_zero, List.getElem_cons_succ, List.setIfInBounds_toArray, List.set_cons_zero, List.set_cons_succ]
                    refine wpAnyH_take (i := 25) (v := undef) rfl (by kernel_rfl) (by kernel_rfl) (by kernel_rfl) (fun _ _ _ h => h) (Or.inr ⟨by first | (go_simp; done) | (go_simp; intro h; cases h; done) | (go_simp; simp [undef]; done), rfl⟩) hS5 ?_
                    try simp only [Act.put, List.getElem_toArray, List.getElem_cons_zero, List.getElem_cons_succ, List.setIfInBounds_toArray, List.set_cons_zero, List.set_cons_succ]
                    refine wpAnyH_take (i := 26) (v := undef) rfl (by kernel_rfl) (by kernel_rfl) (by kernel_rfl) (fun _ _ _ h => h) (Or.inr ⟨by first | (go_simp; done) | (go_simp; intro h; cases h; done) | (go_simp; simp [undef]; done), rfl⟩) hS5 ?_
                    try simp only [Act.put, List.getElem_toArray, List.getElem_cons_zero, List.getElem_cons_succ, List.setIfInBounds_toArray, List.set_cons_zero, List.set_cons_succ]
                    refine wpAnyH_take (i := 27) (v := undef) rfl (by kernel_rfl) (by kernel_rfl) (by kernel_rfl) (fun _ _ _ h => h) (Or.inr ⟨by first | (go_simp; done) | (go_simp; intro h; cases h; done) | (go_simp; simp [undef]; done), rfl⟩) hS5 ?_
                    try simp only [Act.put, List.getElem_toArray, List.getElem_cons_zero, List.getElem_cons_succ, List.setIfInBounds_toArray, List.set_cons_zero, List.set_cons_succ]
                    refine wpAnyH_take (i := 28) (v := undef) rfl (by kernel_rfl) (by kernel_rfl) (by kernel_rfl) (fun _ _ _ h => h) (Or.inr ⟨by first | (go_simp; done) | (go_simp; intro h; cases h; done) | (go_simp; simp [undef]; done), rfl⟩) hS5 ?_
                    try simp only [Act.put, List.getElem_toArray, List.getElem_cons_zero, List.getElem_cons_succ, List.setIfInBounds_toArray, List.set_cons_zero, List.set_cons_succ]
                    refine wpAnyH_take (i := 29) (v := undef) rfl (by kernel_rfl) (by kernel_rfl) (by kernel_rfl) (fun _ _ _ h => h) (Or.inr ⟨by first | (go_simp; done) | (go_simp; intro h; cases h; done) | (go_simp; simp [undef]; done), rfl⟩) hS5 ?_
                    try simp only [Act.put, List.getElem_toArray, List.getElem_cons_zero, List.getElem_cons_succ, List.setIfInBounds_toArray, List.set_cons_zero, List.set_cons_succ]
                    refine wpAnyH_take (i := 30) (v := undef) rfl (by kernel_rfl) (by kernel_rfl) (by kernel_rfl) (fun _ _ _ h => h) (Or.inr ⟨by first | (go_simp; done) | (go_simp; intro h; cases h; done) | (go_simp; simp [undef]; done), rfl⟩) hS5 ?_
                    try simp only [Act.put, List.getElem_toArray, List.getElem_cons_zero, List.getElem_cons_succ, List.setIfInBounds_toArray, List.set_cons_zero, List.set_cons_succ]
                    refine wpAnyH_take (i := 31) (v := undef) rfl (by kernel_rfl) (by kernel_rfl) (by kernel_rfl) (fun _ _ _ h => h) (Or.inr ⟨by first | (go_simp; done) | (go_simp; intro h; cases h; done) | (go_simp; simp [undef]; done), rfl⟩) hS5 ?_
                    try simp only [Act.put, List.getElem_toArray, List.getElem_cons_zero, List.getElem_cons_succ, List.setIfInBounds_toArray, List.set_cons_zero, List.set_cons_succ]
                    refine wpAnyH_take (i := 32) (v := undef) rfl (by kernel_rfl) (by kernel_rfl) (by kernel_rfl) (fun _ _ _ h => h) (Or.inr ⟨by first | (go_simp; done) | (go_simp; intro h; cases h; done) | (go_simp; simp [undef]; done), rfl⟩) hS5 ?_
                    try simp only [Act.put, List.getElem_toArray, List.getElem_cons_zero, List.getElem_cons_succ, List.setIfInBounds_toArray, List.set_cons_zero, List.set_cons_succ]
                    refine wpAnyH_take (i := 33) (v := undef) rfl (by kernel_rfl) (by kernel_rfl) (by kernel_rfl) (fun _ _ _ h => h) (Or.inr ⟨by first | (go_simp; done) | (go_simp; intro h; cases h; done) | (go_simp; simp [undef]; done), rfl⟩) hS5 ?_
                    try simp only [Act.put, List.getElem_toArray, List.getElem_cons_zero, List.getElem_cons_succ, List.setIfInBounds_toArray, List.set_cons_zero, List.set_cons_succ]
                    refine wpAnyH_take (i := 34) (v := undef) rfl (by kernel_rfl) (by kernel_rfl) (by kernel_rfl) (fun _ _ _ h => h) (Or.inr ⟨by first | (go_simp; done) | (go_simp; intro h; cases h; done) | (go_simp; simp [undef]; done), rfl⟩) hS5 ?_
                    try simp only [Act.put, List.getElem_toArray, List.getElem_cons_zero, List.getElem_cons_succ, List.setIfInBounds_toArray, List.set_cons_zero, List.set_cons_succ]
                    refine wpAnyH_take (i := 35) (v := undef) rfl (by kernel_rfl) (by kernel_rfl) (by kernel_rfl) (fun _ _ _ h => h) (Or.inr ⟨by first | (go_simp; done) | (go_simp; intro h; cases h; done) | (go_simp; simp [undef]; done), rfl⟩) hS5 ?_
                    try simp only [Act.put, List.getElem_toArray, List.getElem_cons_zero, List.getElem_cons_succ, List.setIfInBounds_toArray, List.set_cons_zero, List.set_cons_succ]
                    refine wpAnyH_take (i := 36) (v := undef) rfl (by kernel_rfl) (by kernel_rfl) (by kernel_rfl) (fun _ _ _ h => h) (Or.inr ⟨by first | (go_simp; done) | (go_simp; intro h; cases h; done) | (go_simp; simp [undef]; done), rfl⟩) hS5 ?_
                    try simp only [Act.put, List.getElem_toArray, List.getElem_cons_zero, List.getElem_cons_succ, List.setIfInBounds_toArray, List.set_cons_zero, List.set_cons_succ]
                    refine wpAnyH_take (i := 37) (v := .bool true) rfl (by kernel_rfl) (by kernel_rfl) (by kernel_rfl) (fun _ _ _ h => h) (Or.inl ⟨by first | rfl | go_simp, fun wx hx => by obtain ⟨e0, e1, e2, e3, e4, e5⟩ := hx; go_simp⟩) hS5 ?_
                    try simp only [Act.put, List.getElem_toArray, List.getElem_cons_zero, List.getElem_cons_succ, List.setIfInBounds_toArray, List.set_cons_zero, List.set_cons_succ]
                    refine wpAnyH_done (by kernel_rfl) ?_ _
                    clear hK
                    go_wp2
                    go_ret
                    exact ⟨retB HE.out, B5.out.1⟩
                  · have HTW : Hid (p3 = true → ∀ W, Below w.heap.size w W → Calls Try.prog 29 #[.slice (some ⟨b, o1, none⟩) B c1] W fun e w' => e = .returned (.bool (twoB ((xs.drop (i + 1)).take B))) ∧ Below W.heap.size W w') := hideP (fun _ W hW => two_any (deep := deep + 1) (HW.out W hW 0 B c1 o1 (by omega) (.inl (by omega))) (by simp; omega) HP1.out.symm)
                    refine wp_region_held_drew (S := fun x => x.cell? ⟨wr.heap.size, 0, none⟩ = some (.int .i64 zk) ∧ x.cell? ⟨wr.heap.size, 1, none⟩ = some (.int .i64 zc) ∧ x.cell? ⟨wr.heap.size, 2, none⟩ = some (.int .i64 zh) ∧ x.cell? ⟨wr.heap.size, 3, none⟩ = some (.int .i64 (B : Int)) ∧ x.cell? ⟨wr.heap.size, 4, none⟩ = some (.int .i64 (U : Int)) ∧ x.cell? ⟨wr.heap.size, 5, none⟩ = some (.int .i64 (D : Int))) (by kernel_rfl) (Q.out _ BD.out.2) (fun hS => ?_)
                    refine wpAnyH_take (i := 0) (v := .slice (some ⟨b, o1, none⟩) (M) (c1)) rfl (by kernel_rfl) (by kernel_rfl) (by kernel_rfl) (fun _ _ _ h => h) (Or.inl ⟨by first | rfl | go_simp, fun wx hx => by obtain ⟨e0, e1, e2, e3, e4, e5⟩ := hx; go_simp⟩) hS ?_
                    try simp only [Act.put, List.getElem_toArray, List.getElem_cons_zero, List.getElem_cons_succ, List.setIfInBounds_toArray, List.set_cons_zero, List.set_cons_succ]
                    refine wpAnyH_take (i := 1) (v := .pointer (some ⟨wr.heap.size, 3, none⟩)) rfl (by kernel_rfl) (by kernel_rfl) (by kernel_rfl) (fun _ _ _ h => h) (Or.inl ⟨by first | rfl | go_simp, fun wx hx => by obtain ⟨e0, e1, e2, e3, e4, e5⟩ := hx; go_simp⟩) hS ?_
                    try simp only [Act.put, List.getElem_toArray, List.getElem_cons_zero, List.getElem_cons_succ, List.setIfInBounds_toArray, List.set_cons_zero, List.set_cons_succ]
                    refine wpAnyH_take (i := 2) (v := .int .i64 (B : Int)) rfl (by kernel_rfl) (by kernel_rfl) (by kernel_rfl) (fun _ _ _ h => h) (Or.inl ⟨by first | rfl | go_simp, fun wx hx => by obtain ⟨e0, e1, e2, e3, e4, e5⟩ := hx; go_simp⟩) hS ?_
                    try simp only [Act.put, List.getElem_toArray, List.getElem_cons_zero, List.getElem_cons_succ, List.setIfInBounds_toArray, List.set_cons_zero, List.set_cons_succ]
                    refine wpAnyH_take (i := 3) (v := .slice (some ⟨b, o1, none⟩) B (c1)) rfl (by kernel_rfl) (by kernel_rfl) (by kernel_rfl) (fun _ _ _ h => h) (Or.inl ⟨by first | rfl | go_simp, fun wx hx => by obtain ⟨e0, e1, e2, e3, e4, e5⟩ := hx; go_simp; first | done | (intro h; omega)⟩) hS ?_
                    try simp only [Act.put, List.getElem_toArray, List.getElem_cons_zero, List.getElem_cons_succ, List.setIfInBounds_toArray, List.set_cons_zero, List.set_cons_succ]
                    refine wpAnyH_take (i := 4) (v := .int .i64 (deep : Int)) rfl (by kernel_rfl) (by kernel_rfl) (by kernel_rfl) (fun _ _ _ h => h) (Or.inl ⟨by first | rfl | go_simp, fun wx hx => by obtain ⟨e0, e1, e2, e3, e4, e5⟩ := hx; go_simp⟩) hS ?_
                    try simp only [Act.put, List.getElem_toArray, List.getElem_cons_zero, List.getElem_cons_succ, List.setIfInBounds_toArray, List.set_cons_zero, List.set_cons_succ]
                    refine wpAnyH_take (i := 5) (v := .int .i64 ((deep : Int) + 1)) rfl (by kernel_rfl) (by kernel_rfl) (by kernel_rfl) (fun _ _ _ h => h) (Or.inl ⟨by first | rfl | go_simp, fun wx hx => by obtain ⟨e0, e1, e2, e3, e4, e5⟩ := hx; go_simp; exact wrapI _ (by omega) (by omega)⟩) hS ?_
                    try simp only [Act.put, List.getElem_toArray, List.getElem_cons_zero, List.getElem_cons_succ, List.setIfInBounds_toArray, List.set_cons_zero, List.set_cons_succ]
                    refine wpAnyH_ready (rs := [6]) (by kernel_rfl) (by simp) ?_
                    refine AllReadyH.cons rfl (fun K hK => ?_) AllReadyH.nil
                    rw [if_pos (by first | rfl | go_simp)]
                    go_wp2_with (go_at_call 19; refine (C1.out _ BD.out.1).mono ?_; rintro e w4 ⟨rfl, hb6⟩; have B4 := hideP (And.intro (below_more BD.out.1 hb6 BD.out.1.size) (below_more BD.out.2 hb6 BD.out.2.size)); clear hb6)
                    refine hK.out _ _ (Q.out _ B4.out.2) (fun hS4 => ?_)
                    try simp only [Act.put, List.getElem_toArray, List.getElem_cons_zero, List.getElem_cons_succ, List.setIfInBounds_toArray, List.set_cons_zero, List.set_cons_succ]
                    refine wpAnyH_take (i := 7) (v := .bool false) rfl (by kernel_rfl) (by kernel_rfl) (by kernel_rfl) (fun _ _ _ h => h) (Or.inl ⟨by first | rfl | go_simp, fun wx hx => by obtain ⟨e0, e1, e2, e3, e4, e5⟩ := hx; go_simp⟩) hS4 ?_
                    try simp only [Act.put, List.getElem_toArray, List.getElem_cons_zero, List.getElem_cons_succ, List.setIfInBounds_toArray, List.set_cons_zero, List.set_cons_succ]
                    refine wpAnyH_take (i := 8) (v := .bool false) rfl (by kernel_rfl) (by kernel_rfl) (by kernel_rfl) (fun _ _ _ h => h) (Or.inl ⟨by first | rfl | go_simp, fun wx hx => by obtain ⟨e0, e1, e2, e3, e4, e5⟩ := hx; go_simp⟩) hS4 ?_
                    try simp only [Act.put, List.getElem_toArray, List.getElem_cons_zero, List.getElem_cons_succ, List.setIfInBounds_toArray, List.set_cons_zero, List.set_cons_succ]
                    refine wpAnyH_take (i := 9) (v := .slice (some ⟨b, o1, none⟩) (M) (c1)) rfl (by kernel_rfl) (by kernel_rfl) (by kernel_rfl) (fun _ _ _ h => h) (Or.inl ⟨by first | rfl | go_simp, fun wx hx => by obtain ⟨e0, e1, e2, e3, e4, e5⟩ := hx; go_simp⟩) hS4 ?_
                    try simp only [Act.put, List.getElem_toArray, List.getElem_cons_zero, List.getElem_cons_succ, List.setIfInBounds_toArray, List.set_cons_zero, List.set_cons_succ]
                    refine wpAnyH_take (i := 10) (v := .pointer (some ⟨wr.heap.size, 3, none⟩)) rfl (by kernel_rfl) (by kernel_rfl) (by kernel_rfl) (fun _ _ _ h => h) (Or.inl ⟨by first | rfl | go_simp, fun wx hx => by obtain ⟨e0, e1, e2, e3, e4, e5⟩ := hx; go_simp⟩) hS4 ?_
                    try simp only [Act.put, List.getElem_toArray, List.getElem_cons_zero, List.getElem_cons_succ, List.setIfInBounds_toArray, List.set_cons_zero, List.set_cons_succ]
                    refine wpAnyH_take (i := 11) (v := .int .i64 (B : Int)) rfl (by kernel_rfl) (by kernel_rfl) (by kernel_rfl) (fun _ _ _ h => h) (Or.inl ⟨by first | rfl | go_simp, fun wx hx => by obtain ⟨e0, e1, e2, e3, e4, e5⟩ := hx; go_simp⟩) hS4 ?_
                    try simp only [Act.put, List.getElem_toArray, List.getElem_cons_zero, List.getElem_cons_succ, List.setIfInBounds_toArray, List.set_cons_zero, List.set_cons_succ]
                    refine wpAnyH_take (i := 12) (v := .pointer (some ⟨wr.heap.size, 3, none⟩)) rfl (by kernel_rfl) (by kernel_rfl) (by kernel_rfl) (fun _ _ _ h => h) (Or.inl ⟨by first | rfl | go_simp, fun wx hx => by obtain ⟨e0, e1, e2, e3, e4, e5⟩ := hx; go_simp⟩) hS4 ?_
                    try simp only [Act.put, List.getElem_toArray, List.getElem_cons_zero, List.getElem_cons_succ, List.setIfInBounds_toArray, List.set_cons_zero, List.set_cons_succ]
                    refine wpAnyH_take (i := 13) (v := .int .i64 (B : Int)) rfl (by kernel_rfl) (by kernel_rfl) (by kernel_rfl) (fun _ _ _ h => h) (Or.inl ⟨by first | rfl | go_simp, fun wx hx => by obtain ⟨e0, e1, e2, e3, e4, e5⟩ := hx; go_simp⟩) hS4 ?_
                    try simp only [Act.put, List.getElem_toArray, List.getElem_cons_zero, List.getElem_cons_succ, List.setIfInBounds_toArray, List.set_cons_zero, List.set_cons_succ]
                    refine wpAnyH_take (i := 14) (v := .pointer (some ⟨wr.heap.size, 4, none⟩)) rfl (by kernel_rfl) (by kernel_rfl) (by kernel_rfl) (fun _ _ _ h => h) (Or.inl ⟨by first | rfl | go_simp, fun wx hx => by obtain ⟨e0, e1, e2, e3, e4, e5⟩ := hx; go_simp⟩) hS4 ?_
                    try simp only [Act.put, List.getElem_toArray, List.getElem_cons_zero, List.getElem_cons_succ, List.setIfInBounds_toArray, List.set_cons_zero, List.set_cons_succ]
                    refine wpAnyH_take (i := 15) (v := .int .i64 (U : Int)) rfl (by kernel_rfl) (by kernel_rfl) (by kernel_rfl) (fun _ _ _ h => h) (Or.inl ⟨by first | rfl | go_simp, fun wx hx => by obtain ⟨e0, e1, e2, e3, e4, e5⟩ := hx; go_simp⟩) hS4 ?_
                    try simp only [Act.put, List.getElem_toArray, List.getElem_cons_zero, List.getElem_cons_succ, List.setIfInBounds_toArray, List.set_cons_zero, List.set_cons_succ]
                    refine wpAnyH_take (i := 16) (v := .int .i64 ((B : Int) + (U : Int))) rfl (by kernel_rfl) (by kernel_rfl) (by kernel_rfl) (fun _ _ _ h => h) (Or.inl ⟨by first | rfl | go_simp, fun wx hx => by obtain ⟨e0, e1, e2, e3, e4, e5⟩ := hx; go_simp; exact wrapI _ (by omega) (by omega)⟩) hS4 ?_
                    try simp only [Act.put, List.getElem_toArray, List.getElem_cons_zero, List.getElem_cons_succ, List.setIfInBounds_toArray, List.set_cons_zero, List.set_cons_succ]
                    refine wpAnyH_take (i := 17) (v := .slice (some ⟨b, o2, none⟩) U (c1 - B)) rfl (by kernel_rfl) (by kernel_rfl) (by kernel_rfl) (fun _ _ _ h => h) (Or.inl ⟨by first | rfl | go_simp, fun wx hx => by obtain ⟨e0, e1, e2, e3, e4, e5⟩ := hx; rw [HOa.out]; by_cases hq : c1 = B <;> simp only [hq, if_true, if_false] <;> go_simp <;> rw [if_pos ⟨by omega, by omega⟩, if_pos (by omega), show ((B : Int) + (U : Int)).toNat - B = U by omega]⟩) hS4 ?_
                    try simp only [Act.put, List.getElem_toArray, List.getElem_cons_zero, List.getElem_cons_succ, List.setIfInBounds_toArray, List.set_cons_zero, List.set_cons_succ]
                    refine wpAnyH_take (i := 18) (v := .int .i64 (deep : Int)) rfl (by kernel_rfl) (by kernel_rfl) (by kernel_rfl) (fun _ _ _ h => h) (Or.inl ⟨by first | rfl | go_simp, fun wx hx => by obtain ⟨e0, e1, e2, e3, e4, e5⟩ := hx; go_simp⟩) hS4 ?_
                    try simp only [Act.put, List.getElem_toArray, List.getElem_cons_zero, List.getElem_cons_succ, List.setIfInBounds_toArray, List.set_cons_zero, List.set_cons_succ]
                    refine wpAnyH_take (i := 19) (v := .int .i64 ((deep : Int) + 1)) rfl (by kernel_rfl) (by kernel_rfl) (by kernel_rfl) (fun _ _ _ h => h) (Or.inl ⟨by first | rfl | go_simp, fun wx hx => by obtain ⟨e0, e1, e2, e3, e4, e5⟩ := hx; go_simp; exact wrapI _ (by omega) (by omega)⟩) hS4 ?_
                    try simp only [Act.put, List.getElem_toArray, List.getElem_cons_zero, List.getElem_cons_succ, List.setIfInBounds_toArray, List.set_cons_zero, List.set_cons_succ]
                    refine wpAnyH_ready (rs := [20]) (by kernel_rfl) (by simp) ?_
                    refine AllReadyH.cons rfl (fun K hK => ?_) AllReadyH.nil
                    rw [if_pos (by first | rfl | go_simp)]
                    go_wp2_with (go_at_call 19; refine (C2.out _ B4.out.1).mono ?_; rintro e w5 ⟨rfl, hb6⟩; have B5 := hideP (And.intro (below_more B4.out.1 hb6 B4.out.1.size) (below_more B4.out.2 hb6 B4.out.2.size)); clear hb6)
                    refine hK.out _ _ (Q.out _ B5.out.2) (fun hS5 => ?_)
                    try simp only [Act.put, List.getElem_toArray, List.getElem_cons_zero, List.getElem_cons_succ, List.setIfInBounds_toArray, List.set_cons_zero, List.set_cons_succ]
                    refine wpAnyH_take (i := 21) (v := .bool false) rfl (by kernel_rfl) (by kernel_rfl) (by kernel_rfl) (fun _ _ _ h => h) (Or.inl ⟨by first | rfl | go_simp, fun wx hx => by obtain ⟨e0, e1, e2, e3, e4, e5⟩ := hx; go_simp⟩) hS5 ?_
                    try simp only [Act.put, List.getElem_toArray, List.getElem_cons_zero, List.getElem_cons_succ, List.setIfInBounds_toArray, List.set_cons_zero, List.set_cons_succ]
                    refine wpAnyH_take (i := 22) (v := .bool false) rfl (by kernel_rfl) (by kernel_rfl) (by kernel_rfl) (fun _ _ _ h => h) (Or.inl ⟨by first | rfl | go_simp, fun wx hx => by obtain ⟨e0, e1, e2, e3, e4, e5⟩ := hx; go_simp⟩) hS5 ?_
                    try simp only [Act.put, List.getElem_toArray, List.getElem_cons_zero, List.getElem_cons_succ, List.setIfInBounds_toArray, List.set_cons_zero, List.set_cons_succ]
                    refine wpAnyH_take (i := 23) (v := .bool false) rfl (by kernel_rfl) (by kernel_rfl) (by kernel_rfl) (fun _ _ _ h => h) (Or.inl ⟨by first | rfl | go_simp, fun wx hx => by obtain ⟨e0, e1, e2, e3, e4, e5⟩ := hx; go_simp⟩) hS5 ?_
                    try simp only [Act.put, List.getElem_toArray, List.getElem_cons_zero, List.getElem_cons_succ, List.setIfInBounds_toArray, List.set_cons_zero, List.set_cons_succ]
                    refine wpAnyH_take (i := 24) (v := .slice (some ⟨b, o1, none⟩) (M) (c1)) rfl (by kernel_rfl) (by kernel_rfl) (by kernel_rfl) (fun _ _ _ h => h) (Or.inl ⟨by first | rfl | go_simp, fun wx hx => by obtain ⟨e0, e1, e2, e3, e4, e5⟩ := hx; go_simp⟩) hS5 ?_
                    try simp only [Act.put, List.getElem_toArray, List.getElem_cons_zero, List.getElem_cons_succ, List.setIfInBounds_toArray, List.set_cons_zero, List.set_cons_succ]
                    refine wpAnyH_take (i := 25) (v := .pointer (some ⟨wr.heap.size, 3, none⟩)) rfl (by kernel_rfl) (by kernel_rfl) (by kernel_rfl) (fun _ _ _ h => h) (Or.inl ⟨by first | rfl | go_simp, fun wx hx => by obtain ⟨e0, e1, e2, e3, e4, e5⟩ := hx; go_simp⟩) hS5 ?_
                    try simp only [Act.put, List.getElem_toArray, List.getElem_cons_zero, List.getElem_cons_succ, List.setIfInBounds_toArray, List.set_cons_zero, List.set_cons_succ]
                    refine wpAnyH_take (i := 26) (v := .int .i64 (B : Int)) rfl (by kernel_rfl) (by kernel_rfl) (by kernel_rfl) (fun _ _ _ h => h) (Or.inl ⟨by first | rfl | go_simp, fun wx hx => by obtain ⟨e0, e1, e2, e3, e4, e5⟩ := hx; go_simp⟩) hS5 ?_
                    try simp only [Act.put, List.getElem_toArray, List.getElem_cons_zero, List.getElem_cons_succ, List.setIfInBounds_toArray, List.set_cons_zero, List.set_cons_succ]
                    refine wpAnyH_take (i := 27) (v := .pointer (some ⟨wr.heap.size, 4, none⟩)) rfl (by kernel_rfl) (by kernel_rfl) (by kernel_rfl) (fun _ _ _ h => h) (Or.inl ⟨by first | rfl | go_simp, fun wx hx => by obtain ⟨e0, e1, e2, e3, e4, e5⟩ := hx; go_simp⟩) hS5 ?_
                    try simp only [Act.put, List.getElem_toArray, List.getElem_cons_zero, List.getElem_cons_succ, List.setIfInBounds_toArray, List.set_cons_zero, List.set_cons_succ]
                    refine wpAnyH_take (i := 28) (v := .int .i64 (U : Int)) rfl (by kernel_rfl) (by kernel_rfl) (by kernel_rfl) (fun _ _ _ h => h) (Or.inl ⟨by first | rfl | go_simp, fun wx hx => by obtain ⟨e0, e1, e2, e3, e4, e5⟩ := hx; go_simp⟩) hS5 ?_
                    try simp only [Act.put, List.getElem_toArray, List.getElem_cons_zero, List.getElem_cons_succ, List.setIfInBounds_toArray, List.set_cons_zero, List.set_cons_succ]
                    refine wpAnyH_take (i := 29) (v := .int .i64 ((B : Int) + (U : Int))) rfl (by kernel_rfl) (by kernel_rfl) (by kernel_rfl) (fun _ _ _ h => h) (Or.inl ⟨by first | rfl | go_simp, fun wx hx => by obtain ⟨e0, e1, e2, e3, e4, e5⟩ := hx; go_simp; exact wrapI _ (by omega) (by omega)⟩) hS5 ?_
                    try simp only [Act.put, List.getElem_toArray, List.getElem_cons_zero, List.getElem_cons_succ, List.setIfInBounds_toArray, List.set_cons_zero, List.set_cons_succ]
                    refine wpAnyH_take (i := 30) (v := .agg #[.int .i64 zk, .int .i64 zc, .int .i64 zh, .int .i64 (B : Int), .int .i64 (U : Int), .int .i64 (D : Int)]) rfl (by kernel_rfl) (by kernel_rfl) (by kernel_rfl) (fun _ _ _ h => h) (Or.inl ⟨by first | rfl | go_simp, fun wx hx => by obtain ⟨e0, e1, e2, e3, e4, e5⟩ := hx; go_simp⟩) hS5 ?_
                    try simp only [Act.put, List.getElem_toArray, List.getElem_cons_zero, List.getElem_cons_succ, List.setIfInBounds_toArray, List.set_cons_zero, List.set_cons_succ]
                    refine wpAnyH_take (i := 33) (v := .int .i64 (deep : Int)) rfl (by kernel_rfl) (by kernel_rfl) (by kernel_rfl) (fun _ _ _ h => h) (Or.inl ⟨by first | rfl | go_simp, fun wx hx => by obtain ⟨e0, e1, e2, e3, e4, e5⟩ := hx; go_simp⟩) hS5 ?_
                    try simp only [Act.put, List.getElem_toArray, List.getElem_cons_zero, List.getElem_cons_succ, List.setIfInBounds_toArray, List.set_cons_zero, List.set_cons_succ]
                    refine wpAnyH_take (i := 34) (v := .int .i64 ((deep : Int) + 1)) rfl (by kernel_rfl) (by kernel_rfl) (by kernel_rfl) (fun _ _ _ h => h) (Or.inl ⟨by first | rfl | go_simp, fun wx hx => by obtain ⟨e0, e1, e2, e3, e4, e5⟩ := hx; go_simp; exact wrapI _ (by omega) (by omega)⟩) hS5 ?_
                    try simp only [Act.put, List.getElem_toArray, List.getElem_cons_zero, List.getElem_cons_succ, List.setIfInBounds_toArray, List.set_cons_zero, List.set_cons_succ]
                    refine wpAnyH_ready (rs := [31]) (by kernel_rfl) (by simp) ?_
                    refine AllReadyH.cons rfl (fun K hK => ?_) AllReadyH.nil
                    rw [if_pos (by first | rfl | go_simp)]
                    go_wp2_with (go_at_call 28; refine (CK2.out _ B5.out.1).mono ?_; rintro e w6 ⟨rfl, hb6⟩; have B6 := hideP (And.intro (below_more B5.out.1 hb6 B5.out.1.size) (below_more B5.out.2 hb6 B5.out.2.size)); clear hb6)
                    refine hK.out _ _ (Q.out _ B6.out.2) (fun hS6 => ?_)
                    try simp only [Act.put, List.getElem_toArray, List.getElem_cons_zero, List.getElem_cons_succ, List.setIfInBounds_toArray, List.set_cons_zero, List.set_cons_succ]
                    refine wpAnyH_take (i := 32) (v := .slice (some ⟨b, o3, none⟩) D (c1 - (B + U))) rfl (by kernel_rfl) (by kernel_rfl) (by kernel_rfl) (fun _ _ _ h => h) (Or.inl ⟨by first | rfl | go_simp, fun wx hx => by obtain ⟨e0, e1, e2, e3, e4, e5⟩ := hx; rw [HOb.out]; by_cases hq : c1 = B + U <;> simp only [hq, if_true, if_false] <;> go_simp <;> rw [if_pos ⟨by omega, by omega⟩, if_pos ⟨by omega, by omega⟩, show ((B : Int) + (U : Int)).toNat = B + U by omega, show ((B : Int) + (U : Int) + (D : Int)).toNat - (B + U) = D by omega] <;> simp [hq]⟩) hS6 ?_
                    try simp only [Act.put, List.getElem_toArray, List.getElem_cons_zero, List.getElem_cons_succ, List.setIfInBounds_toArray, List.set_cons_zero, List.set_cons_succ]
                    refine wpAnyH_ready (rs := [35]) (by kernel_rfl) (by simp) ?_
                    refine AllReadyH.cons rfl (fun K hK => ?_) AllReadyH.nil
                    rw [if_pos (by first | rfl | go_simp)]
                    go_wp2_with (go_at_call 19; refine (C3.out _ B6.out.1).mono ?_; rintro e w7 ⟨rfl, hb6⟩; have B7 := hideP (And.intro (below_more B6.out.1 hb6 B6.out.1.size) (below_more B6.out.2 hb6 B6.out.2.size)); clear hb6)
                    refine hK.out _ _ (Q.out _ B7.out.2) (fun hS7 => ?_)
                    try simp only [Act.put, List.getElem_toArray, List.getElem_cons_zero, List.getElem_cons_succ, List.setIfInBounds_toArray, List.set_cons_zero, List.set_cons_succ]
                    refine wpAnyH_take (i := 36) (v := .bool (!p3)) rfl (by kernel_rfl) (by kernel_rfl) (by kernel_rfl) (fun _ _ _ h => h) (Or.inl ⟨by first | rfl | go_simp, fun wx hx => by obtain ⟨e0, e1, e2, e3, e4, e5⟩ := hx; go_simp⟩) hS7 ?_
                    try simp only [Act.put, List.getElem_toArray, List.getElem_cons_zero, List.getElem_cons_succ, List.setIfInBounds_toArray, List.set_cons_zero, List.set_cons_succ]
                    refine wpAnyH_take (i := 37) (v := .bool (!p3)) rfl (by kernel_rfl) (by kernel_rfl) (by kernel_rfl) (fun _ _ _ h => h) (Or.inl ⟨by first | rfl | go_simp, fun wx hx => by obtain ⟨e0, e1, e2, e3, e4, e5⟩ := hx; go_simp⟩) hS7 ?_
                    try simp only [Act.put, List.getElem_toArray, List.getElem_cons_zero, List.getElem_cons_succ, List.setIfInBounds_toArray, List.set_cons_zero, List.set_cons_succ]
                    refine wpAnyH_done (by kernel_rfl) ?_ _
                    clear hK
                    cases p3
                    · have HE : Hid (false = R) := hideP (by rw [HOK.out]; rfl)
                      go_wp2
                      go_ret
                      exact ⟨retB HE.out, B7.out.1⟩
                    · have HN : Hid ((decide (zk = 3) = false ∨ twoB ((xs.drop (i + 1)).take B) = true) → ok (xs.drop (i + 1 + (B + U + D))) deep = R) := hideP (fun hh => by
                        rw [HOK.out]
                        rcases hh with hh | hh
                        · rw [hh]; simp
                        · rw [hh]; simp)
                      by_cases hk3 : zk = 3
                      · have HK3 := hideP hk3
                        obtain ⟨tw, htw⟩ : ∃ t, t = twoB ((xs.drop (i + 1)).take B) := ⟨_, rfl⟩
                        have CT : Hid (∀ W, Below w.heap.size w W → Calls Try.prog 29 #[.slice (some ⟨b, o1, none⟩) B c1] W fun e w' => e = .returned (.bool tw) ∧ Below W.heap.size W w') := hideP (fun W hW => by rw [htw]; exact HTW.out rfl W hW)
                        have HT := hideP htw
                        clear htw
                        subst hk3
                        obtain ⟨d0, d1, d2, d3, d4, d5⟩ := Q.out w7 B7.out.2
                        go_wp2_with fail
                        refine (CT.out _ B7.out.1).mono ?_
                        rintro e w8 ⟨rfl, hb8⟩
                        have B8 := hideP (And.intro (below_more B7.out.1 hb8 B7.out.1.size) (below_more B7.out.2 hb8 B7.out.2.size))
                        clear hb8 d0 d1 d2 d3 d4 d5
                        cases tw
                        · have HE : Hid (false = R) := hideP (by rw [HOK.out, ← HT.out]; simp)
                          go_wp2
                          go_ret
                          exact ⟨retB HE.out, B8.out.1⟩
                        · obtain ⟨d0, d1, d2, d3, d4, d5⟩ := Q.out w8 B8.out.2
                          go_wp2_with fail
                          refine (CK2.out _ B8.out.1).mono ?_
                          rintro e w9 ⟨rfl, hb9⟩
                          have B9 := hideP (below_more B8.out.1 hb9 B8.out.1.size)
                          clear hb9 d0 d1 d2 d3 d4 d5
                          go_wp2
                          go_roundw
                          case rel => exact ⟨i + 1 + (B + U + D), by omega, congrArg _ (by omega), hideP (HN.out (.inr HT.out.symm)), B9⟩
                          case measure => simp [intOf]; omega
                      · have hk4 : (zk == 3) = false := by simp [hk3]
                        have HK3 := hideP hk3
                        obtain ⟨d0, d1, d2, d3, d4, d5⟩ := Q.out w7 B7.out.2
                        go_wp2_with fail
                        refine (CK2.out _ B7.out.1).mono ?_
                        rintro e w9 ⟨rfl, hb9⟩
                        have B9 := hideP (below_more B7.out.1 hb9 B7.out.1.size)
                        clear hb9 d0 d1 d2 d3 d4 d5
                        go_wp2
                        go_roundw
                        case rel => exact ⟨i + 1 + (B + U + D), by omega, congrArg _ (by omega), hideP (HN.out (.inl (by simp [HK3.out]))), B9⟩
                        case measure => simp [intOf]; omega
              · go_wp2_with fail
                try rw [← hM]
                obtain ⟨o1, ho1⟩ : ∃ o1, o1 = off + (i + 1) * 6 := ⟨_, rfl⟩
                obtain ⟨c1, hc1⟩ : ∃ c1, c1 = cap - (i + 1) := ⟨_, rfl⟩
                have hinE : Value.slice (some ⟨b, off + (i + 1) * 6, none⟩) M (cap - (i + 1)) = Value.slice (some ⟨b, o1, none⟩) M c1 := by rw [ho1, hc1]
                rw [hinE]
                clear hinE
                have HW : Hid (∀ W, Below w.heap.size w W → ∀ k q c' o' : Nat, k + q ≤ M → (o' = o1 + k * 6 ∨ q = 0) → ARow 0 W (.slice (some ⟨b, o', none⟩) q c') (((xs.drop (i + 1)).drop k).take q)) := hideP (fun W hW k q c' o' hkq ho => by
                  by_cases hq0 : q = 0
                  · subst hq0
                    exact ⟨_, 0, _, rfl, by simp, fun hp => absurd hp (by omega)⟩
                  · have hp := ARow.part (HA.out.below atStable hW) (i + 1 + k) q c' (by omega)
                    rw [List.drop_drop]
                    rw [show o' = off + (i + 1 + k) * 6 by omega]
                    exact hp)
                have hcM : M ≤ c1 := by omega
                have hc9 : c1 ≤ 1000000000 := by omega
                have hMm : M ≤ m := by omega
                have hM2 : M ≤ 2000 := by omega
                have hd1 : deep + 1 ≤ 41 := by omega
                have CC : Hid (∀ (k q c' o' : Nat), k + q ≤ M → (o' = o1 + k * 6 ∨ q = 0) → q ≤ c' → c' ≤ 1000000000 → ∀ W, Below w.heap.size w W → Calls Try.prog 19 #[.slice (some ⟨b, o', none⟩) q c', .int .i64 ((deep : Int) + 1)] W fun e w' => e = .returned (.bool (ok (((xs.drop (i + 1)).drop k).take q) (deep + 1))) ∧ Below W.heap.size W w') := hideP (fun k q c' o' h1 h2 h3 h4 W hW => by
                  have := HIH.out (some ⟨b, o', none⟩) q c' _ W (deep + 1) (by omega) h3 h4 (HW.out W hW k q c' o' h1 h2) (by omega) hd1
                  rw [show ((deep + 1 : Nat) : Int) = (deep : Int) + 1 by omega] at this
                  exact this)
                obtain ⟨o2, ho2⟩ : ∃ o2, o2 = if c1 = B then o1 else o1 + B * 6 := ⟨_, rfl⟩
                obtain ⟨o3, ho3⟩ : ∃ o2, o2 = if c1 = B + U then o1 else o1 + (B + U) * 6 := ⟨_, rfl⟩
                obtain ⟨p1, hp1⟩ : ∃ p, p = ok ((xs.drop (i + 1)).take B) (deep + 1) := ⟨_, rfl⟩
                obtain ⟨p2, hp2⟩ : ∃ p, p = ok (((xs.drop (i + 1)).drop B).take U) (deep + 1) := ⟨_, rfl⟩
                obtain ⟨p3, hp3⟩ : ∃ p, p = ok (((xs.drop (i + 1)).drop (B + U)).take D) (deep + 1) := ⟨_, rfl⟩
                have C1 : Hid (∀ W, Below w.heap.size w W → Calls Try.prog 19 #[.slice (some ⟨b, o1, none⟩) B c1, .int .i64 ((deep : Int) + 1)] W fun e w' => e = .returned (.bool p1) ∧ Below W.heap.size W w') := hideP (fun W hW => by rw [hp1]; exact CC.out 0 B c1 o1 (by omega) (.inl (by omega)) (by omega) hc9 W hW)
                have C2 : Hid (∀ W, Below w.heap.size w W → Calls Try.prog 19 #[.slice (some ⟨b, o2, none⟩) U (c1 - B), .int .i64 ((deep : Int) + 1)] W fun e w' => e = .returned (.bool p2) ∧ Below W.heap.size W w') := hideP (fun W hW => by rw [hp2]; exact CC.out B U _ o2 (by omega) (by rw [ho2]; split; exact .inr (by omega); exact .inl rfl) (by omega) (by omega) W hW)
                have C3 : Hid (∀ W, Below w.heap.size w W → Calls Try.prog 19 #[.slice (some ⟨b, o3, none⟩) D (c1 - (B + U)), .int .i64 ((deep : Int) + 1)] W fun e w' => e = .returned (.bool p3) ∧ Below W.heap.size W w') := hideP (fun W hW => by rw [hp3]; exact CC.out (B + U) D _ o3 (by omega) (by rw [ho3]; split; exact .inr (by omega); exact .inl rfl) (by omega) (by omega) W hW)
                have CK2 : Hid (∀ W, Below w.heap.size w W → Calls Try.prog 28 #[.agg #[.int .i64 zk, .int .i64 zc, .int .i64 zh, .int .i64 (B : Int), .int .i64 (U : Int), .int .i64 (D : Int)]] W fun e w' => e = .returned (.int .i64 ((B : Int) + (U : Int) + (D : Int))) ∧ Below W.heap.size W w') := hideP (fun W _ => by rw [← hkd2]; exact CK.out W)
                have Q : Hid (∀ x : World, Below w3.heap.size w3 x → x.cell? ⟨wr.heap.size, 0, none⟩ = some (.int .i64 zk) ∧ x.cell? ⟨wr.heap.size, 1, none⟩ = some (.int .i64 zc) ∧ x.cell? ⟨wr.heap.size, 2, none⟩ = some (.int .i64 zh) ∧ x.cell? ⟨wr.heap.size, 3, none⟩ = some (.int .i64 (B : Int)) ∧ x.cell? ⟨wr.heap.size, 4, none⟩ = some (.int .i64 (U : Int)) ∧ x.cell? ⟨wr.heap.size, 5, none⟩ = some (.int .i64 (D : Int))) := hideP (fun x hx => ⟨(hx.cell (p := ⟨wr.heap.size, 0, none⟩) hz3).trans (by rw [hc3]; go_simp), (hx.cell (p := ⟨wr.heap.size, 1, none⟩) hz3).trans (by rw [hc3]; go_simp), (hx.cell (p := ⟨wr.heap.size, 2, none⟩) hz3).trans (by rw [hc3]; go_simp), (hx.cell (p := ⟨wr.heap.size, 3, none⟩) hz3).trans (by rw [hc3]; go_simp), (hx.cell (p := ⟨wr.heap.size, 4, none⟩) hz3).trans (by rw [hc3]; go_simp), (hx.cell (p := ⟨wr.heap.size, 5, none⟩) hz3).trans (by rw [hc3]; go_simp)⟩)
                have BD : Hid (Below w.heap.size w w3.drew ∧ Below w3.heap.size w3 w3.drew) := hideP ⟨H3.out.drew, Below.drew (Below.refl _ _)⟩
                have HO1 := hideP ho1
                have HC1 := hideP hc1
                have HMM := hideP hM
                have HOa := hideP ho2
                have HOb := hideP ho3
                clear ho1 hc1 hM ho2 ho3 hcp
                have HP1 := hideP hp1
                have HP2 := hideP hp2
                have HP3 := hideP hp3
                clear hc3 hf3 hp1 hp2 hp3 g0 g1 g2 g3 g4 g5
                have HOK : Hid (R = (p1 && p2 && p3 && (!decide (zk = 3) || twoB ((xs.drop (i + 1)).take B)) && ok (xs.drop (i + 1 + (B + U + D))) deep)) := hideP (by
                  have h := HO2.out
                  rw [ok_cons] at h
                  rw [← h, HAT.out, HP1.out, HP2.out, HP3.out]
                  have e2 : ((B : Int) + (U : Int)).toNat = B + U := by omega
                  have e3 : ((B : Int) + (U : Int) + (D : Int)).toNat = B + U + D := by omega
                  have hle : (B : Int) + (U : Int) + (D : Int) ≤ ((xs.drop (i + 1)).length : Int) := by rw [List.length_drop, HL.out]; omega
                  have hdp : deep ≤ 40 := by omega
                  simp only [At.kids, Int.toNat_natCast, e2, e3, hle, hdp, decide_true, Bool.true_and, List.drop_drop])
                cases p1
                · have HE : Hid (false = R) := hideP (by rw [HOK.out]; rfl)
                  refine wp_region_held_drew (S := fun x => x.cell? ⟨wr.heap.size, 0, none⟩ = some (.int .i64 zk) ∧ x.cell? ⟨wr.heap.size, 1, none⟩ = some (.int .i64 zc) ∧ x.cell? ⟨wr.heap.size, 2, none⟩ = some (.int .i64 zh) ∧ x.cell? ⟨wr.heap.size, 3, none⟩ = some (.int .i64 (B : Int)) ∧ x.cell? ⟨wr.heap.size, 4, none⟩ = some (.int .i64 (U : Int)) ∧ x.cell? ⟨wr.heap.size, 5, none⟩ = some (.int .i64 (D : Int))) (by kernel_rfl) (Q.out _ BD.out.2) (fun hS => ?_)
                  refine wpAnyH_take (i := 0) (v := .slice (some ⟨b, o1, none⟩) (M) (c1)) rfl (by kernel_rfl) (by kernel_rfl) (by kernel_rfl) (fun _ _ _ h => h) (Or.inl ⟨by first | rfl | go_simp, fun wx hx => by obtain ⟨e0, e1, e2, e3, e4, e5⟩ := hx; go_simp⟩) hS ?_
                  try simp only [Act.put, List.getElem_toArray, List.getElem_cons_zero, List.getElem_cons_succ, List.setIfInBounds_toArray, List.set_cons_zero, List.set_cons_succ]
                  refine wpAnyH_take (i := 1) (v := .pointer (some ⟨wr.heap.size, 3, none⟩)) rfl (by kernel_rfl) (by kernel_rfl) (by kernel_rfl) (fun _ _ _ h => h) (Or.inl ⟨by first | rfl | go_simp, fun wx hx => by obtain ⟨e0, e1, e2, e3, e4, e5⟩ := hx; go_simp⟩) hS ?_
                  try simp only [Act.put, List.getElem_toArray, List.getElem_cons_zero, List.getElem_cons_succ, List.setIfInBounds_toArray, List.set_cons_zero, List.set_cons_succ]
                  refine wpAnyH_take (i := 2) (v := .int .i64 (B : Int)) rfl (by kernel_rfl) (by kernel_rfl) (by kernel_rfl) (fun _ _ _ h => h) (Or.inl ⟨by first | rfl | go_simp, fun wx hx => by obtain ⟨e0, e1, e2, e3, e4, e5⟩ := hx; go_simp⟩) hS ?_
                  try simp only [Act.put, List.getElem_toArray, List.getElem_cons_zero, List.getElem_cons_succ, List.setIfInBounds_toArray, List.set_cons_zero, List.set_cons_succ]
                  refine wpAnyH_take (i := 3) (v := .slice (some ⟨b, o1, none⟩) B (c1)) rfl (by kernel_rfl) (by kernel_rfl) (by kernel_rfl) (fun _ _ _ h => h) (Or.inl ⟨by first | rfl | go_simp, fun wx hx => by obtain ⟨e0, e1, e2, e3, e4, e5⟩ := hx; go_simp; first | done | (intro h; omega)⟩) hS ?_
                  try simp only [Act.put, List.getElem_toArray, List.getElem_cons_zero, List.getElem_cons_succ, List.setIfInBounds_toArray, List.set_cons_zero, List.set_cons_succ]
                  refine wpAnyH_take (i := 4) (v := .int .i64 (deep : Int)) rfl (by kernel_rfl) (by kernel_rfl) (by kernel_rfl) (fun _ _ _ h => h) (Or.inl ⟨by first | rfl | go_simp, fun wx hx => by obtain ⟨e0, e1, e2, e3, e4, e5⟩ := hx; go_simp⟩) hS ?_
                  try simp only [Act.put, List.getElem_toArray, List.getElem_cons_zero, List.getElem_cons_succ, List.setIfInBounds_toArray, List.set_cons_zero, List.set_cons_succ]
                  refine wpAnyH_take (i := 5) (v := .int .i64 ((deep : Int) + 1)) rfl (by kernel_rfl) (by kernel_rfl) (by kernel_rfl) (fun _ _ _ h => h) (Or.inl ⟨by first | rfl | go_simp, fun wx hx => by obtain ⟨e0, e1, e2, e3, e4, e5⟩ := hx; go_simp; exact wrapI _ (by omega) (by omega)⟩) hS ?_
                  try simp only [Act.put, List.getElem_toArray, List.getElem_cons_zero, List.getElem_cons_succ, List.setIfInBounds_toArray, List.set_cons_zero, List.set_cons_succ]
                  refine wpAnyH_ready (rs := [6]) (by kernel_rfl) (by simp) ?_
                  refine AllReadyH.cons rfl (fun K hK => ?_) AllReadyH.nil
                  rw [if_pos (by first | rfl | go_simp)]
                  go_wp2_with (go_at_call 19; refine (C1.out _ BD.out.1).mono ?_; rintro e w4 ⟨rfl, hb6⟩; have B4 := hideP (And.intro (below_more BD.out.1 hb6 BD.out.1.size) (below_more BD.out.2 hb6 BD.out.2.size)); clear hb6)
                  refine hK.out _ _ (Q.out _ B4.out.2) (fun hS4 => ?_)
                  try simp only [Act.put, List.getElem_toArray, List.getElem_cons_zero, List.getElem_cons_succ, List.setIfInBounds_toArray, List.set_cons_zero, List.set_cons_succ]
                  refine wpAnyH_take (i := 7) (v := .bool true) rfl (by kernel_rfl) (by kernel_rfl) (by kernel_rfl) (fun _ _ _ h => h) (Or.inl ⟨by first | rfl | go_simp, fun wx hx => by obtain ⟨e0, e1, e2, e3, e4, e5⟩ := hx; go_simp⟩) hS4 ?_
                  try simp only [Act.put, List.getElem_toArray, List.getElem_cons_zero, List.getElem_cons_succ, List.setIfInBounds_toArray, List.set_cons_zero, List.set_cons_succ]
                  refine wpAnyH_take (i := 8) (v := .bool true) rfl (by kernel_rfl) (by kernel_rfl) (by kernel_rfl) (fun _ _ _ h => h) (Or.inl ⟨by first | rfl | go_simp, fun wx hx => by obtain ⟨e0, e1, e2, e3, e4, e5⟩ := hx; go_simp⟩) hS4 ?_
                  try simp only [Act.put, List.getElem_toArray, List.getElem_cons_zero, List.getElem_cons_succ, List.setIfInBounds_toArray, List.set_cons_zero, List.set_cons_succ]
                  refine wpAnyH_take (i := 9) (v := undef) rfl (by kernel_rfl) (by kernel_rfl) (by kernel_rfl) (fun _ _ _ h => h) (Or.inr ⟨by first | (go_simp; done) | (go_simp; intro h; cases h; done) | (go_simp; simp [undef]; done), rfl⟩) hS4 ?_
                  try simp only [Act.put, List.getElem_toArray, List.getElem_cons_zero, List.getElem_cons_succ, List.setIfInBounds_toArray, List.set_cons_zero, List.set_cons_succ]
                  refine wpAnyH_take (i := 10) (v := undef) rfl (by kernel_rfl) (by kernel_rfl) (by kernel_rfl) (fun _ _ _ h => h) (Or.inr ⟨by first | (go_simp; done) | (go_simp; intro h; cases h; done) | (go_simp; simp [undef]; done), rfl⟩) hS4 ?_
                  try simp only [Act.put, List.getElem_toArray, List.getElem_cons_zero, List.getElem_cons_succ, List.setIfInBounds_toArray, List.set_cons_zero, List.set_cons_succ]
                  refine wpAnyH_take (i := 11) (v := undef) rfl (by kernel_rfl) (by kernel_rfl) (by kernel_rfl) (fun _ _ _ h => h) (Or.inr ⟨by first | (go_simp; done) | (go_simp; intro h; cases h; done) | (go_simp; simp [undef]; done), rfl⟩) hS4 ?_
                  try simp only [Act.put, List.getElem_toArray, List.getElem_cons_zero, List.getElem_cons_succ, List.setIfInBounds_toArray, List.set_cons_zero, List.set_cons_succ]
                  refine wpAnyH_take (i := 12) (v := undef) rfl (by kernel_rfl) (by kernel_rfl) (by kernel_rfl) (fun _ _ _ h => h) (Or.inr ⟨by first | (go_simp; done) | (go_simp; intro h; cases h; done) | (go_simp; simp [undef]; done), rfl⟩) hS4 ?_
                  try simp only [Act.put, List.getElem_toArray, List.getElem_cons_zero, List.getElem_cons_succ, List.setIfInBounds_toArray, List.set_cons_zero, List.set_cons_succ]
                  refine wpAnyH_take (i := 13) (v := undef) rfl (by kernel_rfl) (by kernel_rfl) (by kernel_rfl) (fun _ _ _ h => h) (Or.inr ⟨by first | (go_simp; done) | (go_simp; intro h; cases h; done) | (go_simp; simp [undef]; done), rfl⟩) hS4 ?_
                  try simp only [Act.put, List.getElem_toArray, List.getElem_cons_zero, List.getElem_cons_succ, List.setIfInBounds_toArray, List.set_cons_zero, List.set_cons_succ]
                  refine wpAnyH_take (i := 14) (v := undef) rfl (by kernel_rfl) (by kernel_rfl) (by kernel_rfl) (fun _ _ _ h => h) (Or.inr ⟨by first | (go_simp; done) | (go_simp; intro h; cases h; done) | (go_simp; simp [undef]; done), rfl⟩) hS4 ?_
                  try simp only [Act.put, List.getElem_toArray, List.getElem_cons_zero, List.getElem_cons_succ, List.setIfInBounds_toArray, List.set_cons_zero, List.set_cons_succ]
                  refine wpAnyH_take (i := 15) (v := undef) rfl (by kernel_rfl) (by kernel_rfl) (by kernel_rfl) (fun _ _ _ h => h) (Or.inr ⟨by first | (go_simp; done) | (go_simp; intro h; cases h; done) | (go_simp; simp [undef]; done), rfl⟩) hS4 ?_
                  try simp only [Act.put, List.getElem_toArray, List.getElem_cons_zero, List.getElem_cons_succ, List.setIfInBounds_toArray, List.set_cons_zero, List.set_cons_succ]
                  refine wpAnyH_take (i := 16) (v := undef) rfl (by kernel_rfl) (by kernel_rfl) (by kernel_rfl) (fun _ _ _ h => h) (Or.inr ⟨by first | (go_simp; done) | (go_simp; intro h; cases h; done) | (go_simp; simp [undef]; done), rfl⟩) hS4 ?_
                  try simp only [Act.put, List.getElem_toArray, List.getElem_cons_zero, List.getElem_cons_succ, List.setIfInBounds_toArray, List.set_cons_zero, List.set_cons_succ]
                  refine wpAnyH_take (i := 17) (v := undef) rfl (by kernel_rfl) (by kernel_rfl) (by kernel_rfl) (fun _ _ _ h => h) (Or.inr ⟨by first | (go_simp; done) | (go_simp; intro h; cases h; done) | (go_simp; simp [undef]; done), rfl⟩) hS4 ?_
                  try simp only [Act.put, List.getElem_toArray, List.getElem_cons_zero, List.getElem_cons_succ, List.setIfInBounds_toArray, List.set_cons_zero, List.set_cons_succ]
                  refine wpAnyH_take (i := 18) (v := undef) rfl (by kernel_rfl) (by kernel_rfl) (by kernel_rfl) (fun _ _ _ h => h) (Or.inr ⟨by first | (go_simp; done) | (go_simp; intro h; cases h; done) | (go_simp; simp [undef]; done), rfl⟩) hS4 ?_
                  try simp only [Act.put, List.getElem_toArray, List.getElem_cons_zero, List.getElem_cons_succ, List.setIfInBounds_toArray, List.set_cons_zero, List.set_cons_succ]
                  refine wpAnyH_take (i := 19) (v := undef) rfl (by kernel_rfl) (by kernel_rfl) (by kernel_rfl) (fun _ _ _ h => h) (Or.inr ⟨by first | (go_simp; done) | (go_simp; intro h; cases h; done) | (go_simp; simp [undef]; done), rfl⟩) hS4 ?_
                  try simp only [Act.put, List.getElem_toArray, List.getElem_cons_zero, List.getElem_cons_succ, List.setIfInBounds_toArray, List.set_cons_zero, List.set_cons_succ]
                  refine wpAnyH_take (i := 20) (v := undef) rfl (by kernel_rfl) (by kernel_rfl) (by kernel_rfl) (fun _ _ _ h => h) (Or.inr ⟨by first | (go_simp; done) | (go_simp; intro h; cases h; done) | (go_simp; simp [undef]; done), rfl⟩) hS4 ?_
                  try simp only [Act.put, List.getElem_toArray, List.getElem_cons_zero, List.getElem_cons_succ, List.setIfInBounds_toArray, List.set_cons_zero, List.set_cons_succ]
                  refine wpAnyH_take (i := 21) (v := undef) rfl (by kernel_rfl) (by kernel_rfl) (by kernel_rfl) (fun _ _ _ h => h) (Or.inr ⟨by first | (go_simp; done) | (go_simp; intro h; cases h; done) | (go_simp; simp [undef]; done), rfl⟩) hS4 ?_
                  try simp only [Act.put, List.getElem_toArray, List.getElem_cons_zero, List.getElem_cons_succ, List.setIfInBounds_toArray, List.set_cons_zero, List.set_cons_succ]
                  refine wpAnyH_take (i := 22) (v := .bool true) rfl (by kernel_rfl) (by kernel_rfl) (by kernel_rfl) (fun _ _ _ h => h) (Or.inl ⟨by first | rfl | go_simp, fun wx hx => by obtain ⟨e0, e1, e2, e3, e4, e5⟩ := hx; go_simp⟩) hS4 ?_
                  try simp only [Act.put, List.getElem_toArray, List.getElem_cons_zero, List.getElem_cons_succ, List.setIfInBounds_toArray, List.set_cons_zero, List.set_cons_succ]
                  refine wpAnyH_take (i := 23) (v := .bool true) rfl (by kernel_rfl) (by kernel_rfl) (by kernel_rfl) (fun _ _ _ h => h) (Or.inl ⟨by first | rfl | go_simp, fun wx hx => by obtain ⟨e0, e1, e2, e3, e4, e5⟩ := hx; go_simp⟩) hS4 ?_
                  try simp only [Act.put, List.getElem_toArray, List.getElem_cons_zero, List.getElem_cons_succ, List.setIfInBounds_toArray, List.set_cons_zero, List.set_cons_succ]
                  refine wpAnyH_take (i := 24) (v := undef) rfl (by kernel_rfl) (by kernel_rfl) (by kernel_rfl) (fun _ _ _ h => h) (Or.inr ⟨by first | (go_simp; done) | (go_simp; intro h; cases h; done) | (go_simp; simp [undef]; done), rfl⟩) hS4 ?_
                  try simp only [Act.put, List.getElem_toArray, List.getElem_cons_zero, List.getElem_cons_succ, List.setIfInBounds_toArray, List.set_cons_zero, List.set_cons_succ]
                  refine wpAnyH_take (i := 25) (v := undef) rfl (by kernel_rfl) (by kernel_rfl) (by kernel_rfl) (fun _ _ _ h => h) (Or.inr ⟨by first | (go_simp; done) | (go_simp; intro h; cases h; done) | (go_simp; simp [undef]; done), rfl⟩) hS4 ?_
                  try simp only [Act.put, List.getElem_toArray, List.getElem_cons_zero, List.getElem_cons_succ, List.setIfInBounds_toArray, List.set_cons_zero, List.set_cons_succ]
                  refine wpAnyH_take (i := 26) (v := undef) rfl (by kernel_rfl) (by kernel_rfl) (by kernel_rfl) (fun _ _ _ h => h) (Or.inr ⟨by first | (go_simp; done) | (go_simp; intro h; cases h; done) | (go_simp; simp [undef]; done), rfl⟩) hS4 ?_
                  try simp only [Act.put, List.getElem_toArray, List.getElem_cons_zero, List.getElem_cons_succ, List.setIfInBounds_toArray, List.set_cons_zero, List.set_cons_succ]
                  refine wpAnyH_take (i := 27) (v := undef) rfl (by kernel_rfl) (by kernel_rfl) (by kernel_rfl) (fun _ _ _ h => h) (Or.inr ⟨by first | (go_simp; done) | (go_simp; intro h; cases h; done) | (go_simp; simp [undef]; done), rfl⟩) hS4 ?_
                  try simp only [Act.put, List.getElem_toArray, List.getElem_cons_zero, List.getElem_cons_succ, List.setIfInBounds_toArray, List.set_cons_zero, List.set_cons_succ]
                  refine wpAnyH_take (i := 28) (v := undef) rfl (by kernel_rfl) (by kernel_rfl) (by kernel_rfl) (fun _ _ _ h => h) (Or.inr ⟨by first | (go_simp; done) | (go_simp; intro h; cases h; done) | (go_simp; simp [undef]; done), rfl⟩) hS4 ?_
                  try simp only [Act.put, List.getElem_toArray, List.getElem_cons_zero, List.getElem_cons_succ, List.setIfInBounds_toArray, List.set_cons_zero, List.set_cons_succ]
                  refine wpAnyH_take (i := 29) (v := undef) rfl (by kernel_rfl) (by kernel_rfl) (by kernel_rfl) (fun _ _ _ h => h) (Or.inr ⟨by first | (go_simp; done) | (go_simp; intro h; cases h; done) | (go_simp; simp [undef]; done), rfl⟩) hS4 ?_
                  try simp only [Act.put, List.getElem_toArray, List.getElem_cons_zero, List.getElem_cons_succ, List.setIfInBounds_toArray, List.set_cons_zero, List.set_cons_succ]
                  refine wpAnyH_take (i := 30) (v := undef) rfl (by kernel_rfl) (by kernel_rfl) (by kernel_rfl) (fun _ _ _ h => h) (Or.inr ⟨by first | (go_simp; done) | (go_simp; intro h; cases h; done) | (go_simp; simp [undef]; done), rfl⟩) hS4 ?_
                  try simp only [Act.put, List.getElem_toArray, List.getElem_cons_zero, List.getElem_cons_succ, List.setIfInBounds_toArray, List.set_cons_zero, List.set_cons_succ]
                  refine wpAnyH_take (i := 31) (v := undef) rfl (by kernel_rfl) (by kernel_rfl) (by kernel_rfl) (fun _ _ _ h => h) (Or.inr ⟨by first | (go_simp; done) | (go_simp; intro h; cases h; done) | (go_simp; simp [undef]; done), rfl⟩) hS4 ?_
                  try simp only [Act.put, List.getElem_toArray, List.getElem_cons_zero, List.getElem_cons_succ, List.setIfInBounds_toArray, List.set_cons_zero, List.set_cons_succ]
                  refine wpAnyH_take (i := 32) (v := undef) rfl (by kernel_rfl) (by kernel_rfl) (by kernel_rfl) (fun _ _ _ h => h) (Or.inr ⟨by first | (go_simp; done) | (go_simp; intro h; cases h; done) | (go_simp; simp [undef]; done), rfl⟩) hS4 ?_
                  try simp only [Act.put, List.getElem_toArray, List.getElem_cons_zero, List.getElem_cons_succ, List.setIfInBounds_toArray, List.set_cons_zero, List.set_cons_succ]
                  refine wpAnyH_take (i := 33) (v := undef) rfl (by kernel_rfl) (by kernel_rfl) (by kernel_rfl) (fun _ _ _ h => h) (Or.inr ⟨by first | (go_simp; done) | (go_simp; intro h; cases h; done) | (go_simp; simp [undef]; done), rfl⟩) hS4 ?_
                  try simp only [Act.put, List.getElem_toArray, List.getElem_cons_zero, List.getElem_cons_succ, List.setIfInBounds_toArray, List.set_cons_zero, List.set_cons_succ]
                  refine wpAnyH_take (i := 34) (v := undef) rfl (by kernel_rfl) (by kernel_rfl) (by kernel_rfl) (fun _ _ _ h => h) (Or.inr ⟨by first | (go_simp; done) | (go_simp; intro h; cases h; done) | (go_simp; simp [undef]; done), rfl⟩) hS4 ?_
                  try simp only [Act.put, List.getElem_toArray, List.getElem_cons_zero, List.getElem_cons_succ, List.setIfInBounds_toArray, List.set_cons_zero, List.set_cons_succ]
                  refine wpAnyH_take (i := 35) (v := undef) rfl (by kernel_rfl) (by kernel_rfl) (by kernel_rfl) (fun _ _ _ h => h) (Or.inr ⟨by first | (go_simp; done) | (go_simp; intro h; cases h; done) | (go_simp; simp [undef]; done), rfl⟩) hS4 ?_
                  try simp only [Act.put, List.getElem_toArray, List.getElem_cons_zero, List.getElem_cons_succ, List.setIfInBounds_toArray, List.set_cons_zero, List.set_cons_succ]
                  refine wpAnyH_take (i := 36) (v := undef) rfl (by kernel_rfl) (by kernel_rfl) (by kernel_rfl) (fun _ _ _ h => h) (Or.inr ⟨by first | (go_simp; done) | (go_simp; intro h; cases h; done) | (go_simp; simp [undef]; done), rfl⟩) hS4 ?_
                  try simp only [Act.put, List.getElem_toArray, List.getElem_cons_zero, List.getElem_cons_succ, List.setIfInBounds_toArray, List.set_cons_zero, List.set_cons_succ]
                  refine wpAnyH_take (i := 37) (v := .bool true) rfl (by kernel_rfl) (by kernel_rfl) (by kernel_rfl) (fun _ _ _ h => h) (Or.inl ⟨by first | rfl | go_simp, fun wx hx => by obtain ⟨e0, e1, e2, e3, e4, e5⟩ := hx; go_simp⟩) hS4 ?_
                  try simp only [Act.put, List.getElem_toArray, List.getElem_cons_zero, List.getElem_cons_succ, List.setIfInBounds_toArray, List.set_cons_zero, List.set_cons_succ]
                  refine wpAnyH_done (by kernel_rfl) ?_ _
                  clear hK
                  go_wp2
                  go_ret
                  exact ⟨retB HE.out, B4.out.1⟩
                · cases p2
                  · have HE : Hid (false = R) := hideP (by rw [HOK.out]; rfl)
                    refine wp_region_held_drew (S := fun x => x.cell? ⟨wr.heap.size, 0, none⟩ = some (.int .i64 zk) ∧ x.cell? ⟨wr.heap.size, 1, none⟩ = some (.int .i64 zc) ∧ x.cell? ⟨wr.heap.size, 2, none⟩ = some (.int .i64 zh) ∧ x.cell? ⟨wr.heap.size, 3, none⟩ = some (.int .i64 (B : Int)) ∧ x.cell? ⟨wr.heap.size, 4, none⟩ = some (.int .i64 (U : Int)) ∧ x.cell? ⟨wr.heap.size, 5, none⟩ = some (.int .i64 (D : Int))) (by kernel_rfl) (Q.out _ BD.out.2) (fun hS => ?_)
                    refine wpAnyH_take (i := 0) (v := .slice (some ⟨b, o1, none⟩) (M) (c1)) rfl (by kernel_rfl) (by kernel_rfl) (by kernel_rfl) (fun _ _ _ h => h) (Or.inl ⟨by first | rfl | go_simp, fun wx hx => by obtain ⟨e0, e1, e2, e3, e4, e5⟩ := hx; go_simp⟩) hS ?_
                    try simp only [Act.put, List.getElem_toArray, List.getElem_cons_zero, List.getElem_cons_succ, List.setIfInBounds_toArray, List.set_cons_zero, List.set_cons_succ]
                    refine wpAnyH_take (i := 1) (v := .pointer (some ⟨wr.heap.size, 3, none⟩)) rfl (by kernel_rfl) (by kernel_rfl) (by kernel_rfl) (fun _ _ _ h => h) (Or.inl ⟨by first | rfl | go_simp, fun wx hx => by obtain ⟨e0, e1, e2, e3, e4, e5⟩ := hx; go_simp⟩) hS ?_
                    try simp only [Act.put, List.getElem_toArray, List.getElem_cons_zero, List.getElem_cons_succ, List.setIfInBounds_toArray, List.set_cons_zero, List.set_cons_succ]
                    refine wpAnyH_take (i := 2) (v := .int .i64 (B : Int)) rfl (by kernel_rfl) (by kernel_rfl) (by kernel_rfl) (fun _ _ _ h => h) (Or.inl ⟨by first | rfl | go_simp, fun wx hx => by obtain ⟨e0, e1, e2, e3, e4, e5⟩ := hx; go_simp⟩) hS ?_
                    try simp only [Act.put, List.getElem_toArray, List.getElem_cons_zero, List.getElem_cons_succ, List.setIfInBounds_toArray, List.set_cons_zero, List.set_cons_succ]
                    refine wpAnyH_take (i := 3) (v := .slice (some ⟨b, o1, none⟩) B (c1)) rfl (by kernel_rfl) (by kernel_rfl) (by kernel_rfl) (fun _ _ _ h => h) (Or.inl ⟨by first | rfl | go_simp, fun wx hx => by obtain ⟨e0, e1, e2, e3, e4, e5⟩ := hx; go_simp; first | done | (intro h; omega)⟩) hS ?_
                    try simp only [Act.put, List.getElem_toArray, List.getElem_cons_zero, List.getElem_cons_succ, List.setIfInBounds_toArray, List.set_cons_zero, List.set_cons_succ]
                    refine wpAnyH_take (i := 4) (v := .int .i64 (deep : Int)) rfl (by kernel_rfl) (by kernel_rfl) (by kernel_rfl) (fun _ _ _ h => h) (Or.inl ⟨by first | rfl | go_simp, fun wx hx => by obtain ⟨e0, e1, e2, e3, e4, e5⟩ := hx; go_simp⟩) hS ?_
                    try simp only [Act.put, List.getElem_toArray, List.getElem_cons_zero, List.getElem_cons_succ, List.setIfInBounds_toArray, List.set_cons_zero, List.set_cons_succ]
                    refine wpAnyH_take (i := 5) (v := .int .i64 ((deep : Int) + 1)) rfl (by kernel_rfl) (by kernel_rfl) (by kernel_rfl) (fun _ _ _ h => h) (Or.inl ⟨by first | rfl | go_simp, fun wx hx => by obtain ⟨e0, e1, e2, e3, e4, e5⟩ := hx; go_simp; exact wrapI _ (by omega) (by omega)⟩) hS ?_
                    try simp only [Act.put, List.getElem_toArray, List.getElem_cons_zero, List.getElem_cons_succ, List.setIfInBounds_toArray, List.set_cons_zero, List.set_cons_succ]
                    refine wpAnyH_ready (rs := [6]) (by kernel_rfl) (by simp) ?_
                    refine AllReadyH.cons rfl (fun K hK => ?_) AllReadyH.nil
                    rw [if_pos (by first | rfl | go_simp)]
                    go_wp2_with (go_at_call 19; refine (C1.out _ BD.out.1).mono ?_; rintro e w4 ⟨rfl, hb6⟩; have B4 := hideP (And.intro (below_more BD.out.1 hb6 BD.out.1.size) (below_more BD.out.2 hb6 BD.out.2.size)); clear hb6)
                    refine hK.out _ _ (Q.out _ B4.out.2) (fun hS4 => ?_)
                    try simp only [Act.put, List.getElem_toArray, List.getElem_cons_zero, List.getElem_cons_succ, List.setIfInBounds_toArray, List.set_cons_zero, List.set_cons_succ]
                    refine wpAnyH_take (i := 7) (v := .bool false) rfl (by kernel_rfl) (by kernel_rfl) (by kernel_rfl) (fun _ _ _ h => h) (Or.inl ⟨by first | rfl | go_simp, fun wx hx => by obtain ⟨e0, e1, e2, e3, e4, e5⟩ := hx; go_simp⟩) hS4 ?_
                    try simp only [Act.put, List.getElem_toArray, List.getElem_cons_zero, List.getElem_cons_succ, List.setIfInBounds_toArray, List.set_cons_zero, List.set_cons_succ]
                    refine wpAnyH_take (i := 8) (v := .bool false) rfl (by kernel_rfl) (by kernel_rfl) (by kernel_rfl) (fun _ _ _ h => h) (Or.inl ⟨by first | rfl | go_simp, fun wx hx => by obtain ⟨e0, e1, e2, e3, e4, e5⟩ := hx; go_simp⟩) hS4 ?_
                    try simp only [Act.put, List.getElem_toArray, List.getElem_cons_zero, List.getElem_cons_succ, List.setIfInBounds_toArray, List.set_cons_zero, List.set_cons_succ]
                    refine wpAnyH_take (i := 9) (v := .slice (some ⟨b, o1, none⟩) (M) (c1)) rfl (by kernel_rfl) (by kernel_rfl) (by kernel_rfl) (fun _ _ _ h => h) (Or.inl ⟨by first | rfl | go_simp, fun wx hx => by obtain ⟨e0, e1, e2, e3, e4, e5⟩ := hx; go_simp⟩) hS4 ?_
                    try simp only [Act.put, List.getElem_toArray, List.getElem_cons_zero, List.getElem_cons_succ, List.setIfInBounds_toArray, List.set_cons_zero, List.set_cons_succ]
                    refine wpAnyH_take (i := 10) (v := .pointer (some ⟨wr.heap.size, 3, none⟩)) rfl (by kernel_rfl) (by kernel_rfl) (by kernel_rfl) (fun _ _ _ h => h) (Or.inl ⟨by first | rfl | go_simp, fun wx hx => by obtain ⟨e0, e1, e2, e3, e4, e5⟩ := hx; go_simp⟩) hS4 ?_
                    try simp only [Act.put, List.getElem_toArray, List.getElem_cons_zero, List.getElem_cons_succ, List.setIfInBounds_toArray, List.set_cons_zero, List.set_cons_succ]
                    refine wpAnyH_take (i := 11) (v := .int .i64 (B : Int)) rfl (by kernel_rfl) (by kernel_rfl) (by kernel_rfl) (fun _ _ _ h => h) (Or.inl ⟨by first | rfl | go_simp, fun wx hx => by obtain ⟨e0, e1, e2, e3, e4, e5⟩ := hx; go_simp⟩) hS4 ?_
                    try simp only [Act.put, List.getElem_toArray, List.getElem_cons_zero, List.getElem_cons_succ, List.setIfInBounds_toArray, List.set_cons_zero, List.set_cons_succ]
                    refine wpAnyH_take (i := 12) (v := .pointer (some ⟨wr.heap.size, 3, none⟩)) rfl (by kernel_rfl) (by kernel_rfl) (by kernel_rfl) (fun _ _ _ h => h) (Or.inl ⟨by first | rfl | go_simp, fun wx hx => by obtain ⟨e0, e1, e2, e3, e4, e5⟩ := hx; go_simp⟩) hS4 ?_
                    try simp only [Act.put, List.getElem_toArray, List.getElem_cons_zero, List.getElem_cons_succ, List.setIfInBounds_toArray, List.set_cons_zero, List.set_cons_succ]
                    refine wpAnyH_take (i := 13) (v := .int .i64 (B : Int)) rfl (by kernel_rfl) (by kernel_rfl) (by kernel_rfl) (fun _ _ _ h => h) (Or.inl ⟨by first | rfl | go_simp, fun wx hx => by obtain ⟨e0, e1, e2, e3, e4, e5⟩ := hx; go_simp⟩) hS4 ?_
                    try simp only [Act.put, List.getElem_toArray, List.getElem_cons_zero, List.getElem_cons_succ, List.setIfInBounds_toArray, List.set_cons_zero, List.set_cons_succ]
                    refine wpAnyH_take (i := 14) (v := .pointer (some ⟨wr.heap.size, 4, none⟩)) rfl (by kernel_rfl) (by kernel_rfl) (by kernel_rfl) (fun _ _ _ h => h) (Or.inl ⟨by first | rfl | go_simp, fun wx hx => by obtain ⟨e0, e1, e2, e3, e4, e5⟩ := hx; go_simp⟩) hS4 ?_
                    try simp only [Act.put, List.getElem_toArray, List.getElem_cons_zero, List.getElem_cons_succ, List.setIfInBounds_toArray, List.set_cons_zero, List.set_cons_succ]
                    refine wpAnyH_take (i := 15) (v := .int .i64 (U : Int)) rfl (by kernel_rfl) (by kernel_rfl) (by kernel_rfl) (fun _ _ _ h => h) (Or.inl ⟨by first | rfl | go_simp, fun wx hx => by obtain ⟨e0, e1, e2, e3, e4, e5⟩ := hx; go_simp⟩) hS4 ?_
                    try simp only [Act.put, List.getElem_toArray, List.getElem_cons_zero, List.getElem_cons_succ, List.setIfInBounds_toArray, List.set_cons_zero, List.set_cons_succ]
                    refine wpAnyH_take (i := 16) (v := .int .i64 ((B : Int) + (U : Int))) rfl (by kernel_rfl) (by kernel_rfl) (by kernel_rfl) (fun _ _ _ h => h) (Or.inl ⟨by first | rfl | go_simp, fun wx hx => by obtain ⟨e0, e1, e2, e3, e4, e5⟩ := hx; go_simp; exact wrapI _ (by omega) (by omega)⟩) hS4 ?_
                    try simp only [Act.put, List.getElem_toArray, List.getElem_cons_zero, List.getElem_cons_succ, List.setIfInBounds_toArray, List.set_cons_zero, List.set_cons_succ]
                    refine wpAnyH_take (i := 17) (v := .slice (some ⟨b, o2, none⟩) U (c1 - B)) rfl (by kernel_rfl) (by kernel_rfl) (by kernel_rfl) (fun _ _ _ h => h) (Or.inl ⟨by first | rfl | go_simp, fun wx hx => by obtain ⟨e0, e1, e2, e3, e4, e5⟩ := hx; rw [HOa.out]; by_cases hq : c1 = B <;> simp only [hq, if_true, if_false] <;> go_simp <;> rw [if_pos ⟨by omega, by omega⟩, if_pos (by omega), show ((B : Int) + (U : Int)).toNat - B = U by omega]⟩) hS4 ?_
                    try simp only [Act.put, List.getElem_toArray, List.getElem_cons_zero, List.getElem_cons_succ, List.setIfInBounds_toArray, List.set_cons_zero, List.set_cons_succ]
                    refine wpAnyH_take (i := 18) (v := .int .i64 (deep : Int)) rfl (by kernel_rfl) (by kernel_rfl) (by kernel_rfl) (fun _ _ _ h => h) (Or.inl ⟨by first | rfl | go_simp, fun wx hx => by obtain ⟨e0, e1, e2, e3, e4, e5⟩ := hx; go_simp⟩) hS4 ?_
                    try simp only [Act.put, List.getElem_toArray, List.getElem_cons_zero, List.getElem_cons_succ, List.setIfInBounds_toArray, List.set_cons_zero, List.set_cons_succ]
                    refine wpAnyH_take (i := 19) (v := .int .i64 ((deep : Int) + 1)) rfl (by kernel_rfl) (by kernel_rfl) (by kernel_rfl) (fun _ _ _ h => h) (Or.inl ⟨by first | rfl | go_simp, fun wx hx => by obtain ⟨e0, e1, e2, e3, e4, e5⟩ := hx; go_simp; exact wrapI _ (by omega) (by omega)⟩) hS4 ?_
                    try simp only [Act.put, List.getElem_toArray, List.getElem_cons_zero, List.getElem_cons_succ, List.setIfInBounds_toArray, List.set_cons_zero, List.set_cons_succ]
                    refine wpAnyH_ready (rs := [20]) (by kernel_rfl) (by simp) ?_
                    refine AllReadyH.cons rfl (fun K hK => ?_) AllReadyH.nil
                    rw [if_pos (by first | rfl | go_simp)]
                    go_wp2_with (go_at_call 19; refine (C2.out _ B4.out.1).mono ?_; rintro e w5 ⟨rfl, hb6⟩; have B5 := hideP (And.intro (below_more B4.out.1 hb6 B4.out.1.size) (below_more B4.out.2 hb6 B4.out.2.size)); clear hb6)
                    refine hK.out _ _ (Q.out _ B5.out.2) (fun hS5 => ?_)
                    try simp only [Act.put, List.getElem_toArray, List.getElem_cons_zero, List.getElem_cons_succ, List.setIfInBounds_toArray, List.set_cons_zero, List.set_cons_succ]
                    refine wpAnyH_take (i := 21) (v := .bool true) rfl (by kernel_rfl) (by kernel_rfl) (by kernel_rfl) (fun _ _ _ h => h) (Or.inl ⟨by first | rfl | go_simp, fun wx hx => by obtain ⟨e0, e1, e2, e3, e4, e5⟩ := hx; go_simp⟩) hS5 ?_
                    try simp only [Act.put, List.getElem_toArray, List.getElem_cons_zero, List.getElem_cons_succ, List.setIfInBounds_toArray, List.set_cons_zero, List.set_cons_succ]
                    refine wpAnyH_take (i := 22) (v := .bool true) rfl (by kernel_rfl) (by kernel_rfl) (by kernel_rfl) (fun _ _ _ h => h) (Or.inl ⟨by first | rfl | go_simp, fun wx hx => by obtain ⟨e0, e1, e2, e3, e4, e5⟩ := hx; go_simp⟩) hS5 ?_
                    try simp only [Act.put, List.getElem_toArray, List.getElem_cons_zero, List.getElem_cons_succ, List.setIfInBounds_toArray, List.set_cons_zero, List.set_cons_succ]
                    refine wpAnyH_take (i := 23) (v := .bool true) rfl (by kernel_rfl) (by kernel_rfl) (by kernel_rfl) (fun _ _ _ h => h) (Or.inl ⟨by first | rfl | go_simp, fun wx hx => by obtain ⟨e0, e1, e2, e3, e4, e5⟩ := hx; go_simp⟩) hS5 ?_
                    try simp only [Act.put, List.getElem_toArray, List.getElem_cons_zero, List.getElem_cons_succ, List.setIfInBounds_toArray, List.set_cons_zero, List.set_cons_succ]
                    refine wpAnyH_take (i := 24) (v := undef) rfl (by kernel_rfl) (by kernel_rfl) (by kernel_rfl) (fun _ _ _ h => h) (Or.inr ⟨by first | (go_simp; done) | (go_simp; intro h; cases h; done) | (go_simp; simp [undef]; done), rfl⟩) hS5 ?_
                    try simp only [Act.put, List.getElem_toArray, List.getElem_cons_zero, List.getElem_cons_succ, List.setIfInBounds_toArray, List.set_cons_zero, List.set_cons_succ]
                    refine wpAnyH_take (i := 25) (v := undef) rfl (by kernel_rfl) (by kernel_rfl) (by kernel_rfl) (fun _ _ _ h => h) (Or.inr ⟨by first | (go_simp; done) | (go_simp; intro h; cases h; done) | (go_simp; simp [undef]; done), rfl⟩) hS5 ?_
                    try simp only [Act.put, List.getElem_toArray, List.getElem_cons_zero, List.getElem_cons_succ, List.setIfInBounds_toArray, List.set_cons_zero, List.set_cons_succ]
                    refine wpAnyH_take (i := 26) (v := undef) rfl (by kernel_rfl) (by kernel_rfl) (by kernel_rfl) (fun _ _ _ h => h) (Or.inr ⟨by first | (go_simp; done) | (go_simp; intro h; cases h; done) | (go_simp; simp [undef]; done), rfl⟩) hS5 ?_
                    try simp only [Act.put, List.getElem_toArray, List.getElem_cons_zero, List.getElem_cons_succ, List.setIfInBounds_toArray, List.set_cons_zero, List.set_cons_succ]
                    refine wpAnyH_take (i := 27) (v := undef) rfl (by kernel_rfl) (by kernel_rfl) (by kernel_rfl) (fun _ _ _ h => h) (Or.inr ⟨by first | (go_simp; done) | (go_simp; intro h; cases h; done) | (go_simp; simp [undef]; done), rfl⟩) hS5 ?_
                    try simp only [Act.put, List.getElem_toArray, List.getElem_cons_zero, List.getElem_cons_succ, List.setIfInBounds_toArray, List.set_cons_zero, List.set_cons_succ]
                    refine wpAnyH_take (i := 28) (v := undef) rfl (by kernel_rfl) (by kernel_rfl) (by kernel_rfl) (fun _ _ _ h => h) (Or.inr ⟨by first | (go_simp; done) | (go_simp; intro h; cases h; done) | (go_simp; simp [undef]; done), rfl⟩) hS5 ?_
                    try simp only [Act.put, List.getElem_toArray, List.getElem_cons_zero, List.getElem_cons_succ, List.setIfInBounds_toArray, List.set_cons_zero, List.set_cons_succ]
                    refine wpAnyH_take (i := 29) (v := undef) rfl (by kernel_rfl) (by kernel_rfl) (by kernel_rfl) (fun _ _ _ h => h) (Or.inr ⟨by first | (go_simp; done) | (go_simp; intro h; cases h; done) | (go_simp; simp [undef]; done), rfl⟩) hS5 ?_
                    try simp only [Act.put, List.getElem_toArray, List.getElem_cons_zero, List.getElem_cons_succ, List.setIfInBounds_toArray, List.set_cons_zero, List.set_cons_succ]
                    refine wpAnyH_take (i := 30) (v := undef) rfl (by kernel_rfl) (by kernel_rfl) (by kernel_rfl) (fun _ _ _ h => h) (Or.inr ⟨by first | (go_simp; done) | (go_simp; intro h; cases h; done) | (go_simp; simp [undef]; done), rfl⟩) hS5 ?_
                    try simp only [Act.put, List.getElem_toArray, List.getElem_cons_zero, List.getElem_cons_succ, List.setIfInBounds_toArray, List.set_cons_zero, List.set_cons_succ]
                    refine wpAnyH_take (i := 31) (v := undef) rfl (by kernel_rfl) (by kernel_rfl) (by kernel_rfl) (fun _ _ _ h => h) (Or.inr ⟨by first | (go_simp; done) | (go_simp; intro h; cases h; done) | (go_simp; simp [undef]; done), rfl⟩) hS5 ?_
                    try simp only [Act.put, List.getElem_toArray, List.getElem_cons_zero, List.getElem_cons_succ, List.setIfInBounds_toArray, List.set_cons_zero, List.set_cons_succ]
                    refine wpAnyH_take (i := 32) (v := undef) rfl (by kernel_rfl) (by kernel_rfl) (by kernel_rfl) (fun _ _ _ h => h) (Or.inr ⟨by first | (go_simp; done) | (go_simp; intro h; cases h; done) | (go_simp; simp [undef]; done), rfl⟩) hS5 ?_
                    try simp only [Act.put, List.getElem_toArray, List.getElem_cons_zero, List.getElem_cons_succ, List.setIfInBounds_toArray, List.set_cons_zero, List.set_cons_succ]
                    refine wpAnyH_take (i := 33) (v := undef) rfl (by kernel_rfl) (by kernel_rfl) (by kernel_rfl) (fun _ _ _ h => h) (Or.inr ⟨by first | (go_simp; done) | (go_simp; intro h; cases h; done) | (go_simp; simp [undef]; done), rfl⟩) hS5 ?_
                    try simp only [Act.put, List.getElem_toArray, List.getElem_cons_zero, List.getElem_cons_succ, List.setIfInBounds_toArray, List.set_cons_zero, List.set_cons_succ]
                    refine wpAnyH_take (i := 34) (v := undef) rfl (by kernel_rfl) (by kernel_rfl) (by kernel_rfl) (fun _ _ _ h => h) (Or.inr ⟨by first | (go_simp; done) | (go_simp; intro h; cases h; done) | (go_simp; simp [undef]; done), rfl⟩) hS5 ?_
                    try simp only [Act.put, List.getElem_toArray, List.getElem_cons_zero, List.getElem_cons_succ, List.setIfInBounds_toArray, List.set_cons_zero, List.set_cons_succ]
                    refine wpAnyH_take (i := 35) (v := undef) rfl (by kernel_rfl) (by kernel_rfl) (by kernel_rfl) (fun _ _ _ h => h) (Or.inr ⟨by first | (go_simp; done) | (go_simp; intro h; cases h; done) | (go_simp; simp [undef]; done), rfl⟩) hS5 ?_
                    try simp only [Act.put, List.getElem_toArray, List.getElem_cons_zero, List.getElem_cons_succ, List.setIfInBounds_toArray, List.set_cons_zero, List.set_cons_succ]
                    refine wpAnyH_take (i := 36) (v := undef) rfl (by kernel_rfl) (by kernel_rfl) (by kernel_rfl) (fun _ _ _ h => h) (Or.inr ⟨by first | (go_simp; done) | (go_simp; intro h; cases h; done) | (go_simp; simp [undef]; done), rfl⟩) hS5 ?_
                    try simp only [Act.put, List.getElem_toArray, List.getElem_cons_zero, List.getElem_cons_succ, List.setIfInBounds_toArray, List.set_cons_zero, List.set_cons_succ]
                    refine wpAnyH_take (i := 37) (v := .bool true) rfl (by kernel_rfl) (by kernel_rfl) (by kernel_rfl) (fun _ _ _ h => h) (Or.inl ⟨by first | rfl | go_simp, fun wx hx => by obtain ⟨e0, e1, e2, e3, e4, e5⟩ := hx; go_simp⟩) hS5 ?_
                    try simp only [Act.put, List.getElem_toArray, List.getElem_cons_zero, List.getElem_cons_succ, List.setIfInBounds_toArray, List.set_cons_zero, List.set_cons_succ]
                    refine wpAnyH_done (by kernel_rfl) ?_ _
                    clear hK
                    go_wp2
                    go_ret
                    exact ⟨retB HE.out, B5.out.1⟩
                  · have HTW : Hid (p3 = true → ∀ W, Below w.heap.size w W → Calls Try.prog 29 #[.slice (some ⟨b, o1, none⟩) B c1] W fun e w' => e = .returned (.bool (twoB ((xs.drop (i + 1)).take B))) ∧ Below W.heap.size W w') := hideP (fun _ W hW => two_any (deep := deep + 1) (HW.out W hW 0 B c1 o1 (by omega) (.inl (by omega))) (by simp; omega) HP1.out.symm)
                    refine wp_region_held_drew (S := fun x => x.cell? ⟨wr.heap.size, 0, none⟩ = some (.int .i64 zk) ∧ x.cell? ⟨wr.heap.size, 1, none⟩ = some (.int .i64 zc) ∧ x.cell? ⟨wr.heap.size, 2, none⟩ = some (.int .i64 zh) ∧ x.cell? ⟨wr.heap.size, 3, none⟩ = some (.int .i64 (B : Int)) ∧ x.cell? ⟨wr.heap.size, 4, none⟩ = some (.int .i64 (U : Int)) ∧ x.cell? ⟨wr.heap.size, 5, none⟩ = some (.int .i64 (D : Int))) (by kernel_rfl) (Q.out _ BD.out.2) (fun hS => ?_)
                    refine wpAnyH_take (i := 0) (v := .slice (some ⟨b, o1, none⟩) (M) (c1)) rfl (by kernel_rfl) (by kernel_rfl) (by kernel_rfl) (fun _ _ _ h => h) (Or.inl ⟨by first | rfl | go_simp, fun wx hx => by obtain ⟨e0, e1, e2, e3, e4, e5⟩ := hx; go_simp⟩) hS ?_
                    try simp only [Act.put, List.getElem_toArray, List.getElem_cons_zero, List.getElem_cons_succ, List.setIfInBounds_toArray, List.set_cons_zero, List.set_cons_succ]
                    refine wpAnyH_take (i := 1) (v := .pointer (some ⟨wr.heap.size, 3, none⟩)) rfl (by kernel_rfl) (by kernel_rfl) (by kernel_rfl) (fun _ _ _ h => h) (Or.inl ⟨by first | rfl | go_simp, fun wx hx => by obtain ⟨e0, e1, e2, e3, e4, e5⟩ := hx; go_simp⟩) hS ?_
                    try simp only [Act.put, List.getElem_toArray, List.getElem_cons_zero, List.getElem_cons_succ, List.setIfInBounds_toArray, List.set_cons_zero, List.set_cons_succ]
                    refine wpAnyH_take (i := 2) (v := .int .i64 (B : Int)) rfl (by kernel_rfl) (by kernel_rfl) (by kernel_rfl) (fun _ _ _ h => h) (Or.inl ⟨by first | rfl | go_simp, fun wx hx => by obtain ⟨e0, e1, e2, e3, e4, e5⟩ := hx; go_simp⟩) hS ?_
                    try simp only [Act.put, List.getElem_toArray, List.getElem_cons_zero, List.getElem_cons_succ, List.setIfInBounds_toArray, List.set_cons_zero, List.set_cons_succ]
                    refine wpAnyH_take (i := 3) (v := .slice (some ⟨b, o1, none⟩) B (c1)) rfl (by kernel_rfl) (by kernel_rfl) (by kernel_rfl) (fun _ _ _ h => h) (Or.inl ⟨by first | rfl | go_simp, fun wx hx => by obtain ⟨e0, e1, e2, e3, e4, e5⟩ := hx; go_simp; first | done | (intro h; omega)⟩) hS ?_
                    try simp only [Act.put, List.getElem_toArray, List.getElem_cons_zero, List.getElem_cons_succ, List.setIfInBounds_toArray, List.set_cons_zero, List.set_cons_succ]
                    refine wpAnyH_take (i := 4) (v := .int .i64 (deep : Int)) rfl (by kernel_rfl) (by kernel_rfl) (by kernel_rfl) (fun _ _ _ h => h) (Or.inl ⟨by first | rfl | go_simp, fun wx hx => by obtain ⟨e0, e1, e2, e3, e4, e5⟩ := hx; go_simp⟩) hS ?_
                    try simp only [Act.put, List.getElem_toArray, List.getElem_cons_zero, List.getElem_cons_succ, List.setIfInBounds_toArray, List.set_cons_zero, List.set_cons_succ]
                    refine wpAnyH_take (i := 5) (v := .int .i64 ((deep : Int) + 1)) rfl (by kernel_rfl) (by kernel_rfl) (by kernel_rfl) (fun _ _ _ h => h) (Or.inl ⟨by first | rfl | go_simp, fun wx hx => by obtain ⟨e0, e1, e2, e3, e4, e5⟩ := hx; go_simp; exact wrapI _ (by omega) (by omega)⟩) hS ?_
                    try simp only [Act.put, List.getElem_toArray, List.getElem_cons_zero, List.getElem_cons_succ, List.setIfInBounds_toArray, List.set_cons_zero, List.set_cons_succ]
                    refine wpAnyH_ready (rs := [6]) (by kernel_rfl) (by simp) ?_
                    refine AllReadyH.cons rfl (fun K hK => ?_) AllReadyH.nil
                    rw [if_pos (by first | rfl | go_simp)]
                    go_wp2_with (go_at_call 19; refine (C1.out _ BD.out.1).mono ?_; rintro e w4 ⟨rfl, hb6⟩; have B4 := hideP (And.intro (below_more BD.out.1 hb6 BD.out.1.size) (below_more BD.out.2 hb6 BD.out.2.size)); clear hb6)
                    refine hK.out _ _ (Q.out _ B4.out.2) (fun hS4 => ?_)
                    try simp only [Act.put, List.getElem_toArray, List.getElem_cons_zero, List.getElem_cons_succ, List.setIfInBounds_toArray, List.set_cons_zero, List.set_cons_succ]
                    refine wpAnyH_take (i := 7) (v := .bool false) rfl (by kernel_rfl) (by kernel_rfl) (by kernel_rfl) (fun _ _ _ h => h) (Or.inl ⟨by first | rfl | go_simp, fun wx hx => by obtain ⟨e0, e1, e2, e3, e4, e5⟩ := hx; go_simp⟩) hS4 ?_
                    try simp only [Act.put, List.getElem_toArray, List.getElem_cons_zero, List.getElem_cons_succ, List.setIfInBounds_toArray, List.set_cons_zero, List.set_cons_succ]
                    refine wpAnyH_take (i := 8) (v := .bool false) rfl (by kernel_rfl) (by kernel_rfl) (by kernel_rfl) (fun _ _ _ h => h) (Or.inl ⟨by first | rfl | go_simp, fun wx hx => by obtain ⟨e0, e1, e2, e3, e4, e5⟩ := hx; go_simp⟩) hS4 ?_
                    try simp only [Act.put, List.getElem_toArray, List.getElem_cons_zero, List.getElem_cons_succ, List.setIfInBounds_toArray, List.set_cons_zero, List.set_cons_succ]
                    refine wpAnyH_take (i := 9) (v := .slice (some ⟨b, o1, none⟩) (M) (c1)) rfl (by kernel_rfl) (by kernel_rfl) (by kernel_rfl) (fun _ _ _ h => h) (Or.inl ⟨by first | rfl | go_simp, fun wx hx => by obtain ⟨e0, e1, e2, e3, e4, e5⟩ := hx; go_simp⟩) hS4 ?_
                    try simp only [Act.put, List.getElem_toArray, List.getElem_cons_zero, List.getElem_cons_succ, List.setIfInBounds_toArray, List.set_cons_zero, List.set_cons_succ]
                    refine wpAnyH_take (i := 10) (v := .pointer (some ⟨wr.heap.size, 3, none⟩)) rfl (by kernel_rfl) (by kernel_rfl) (by kernel_rfl) (fun _ _ _ h => h) (Or.inl ⟨by first | rfl | go_simp, fun wx hx => by obtain ⟨e0, e1, e2, e3, e4, e5⟩ := hx; go_simp⟩) hS4 ?_
                    try simp only [Act.put, List.getElem_toArray, List.getElem_cons_zero, List.getElem_cons_succ, List.setIfInBounds_toArray, List.set_cons_zero, List.set_cons_succ]
                    refine wpAnyH_take (i := 11) (v := .int .i64 (B : Int)) rfl (by kernel_rfl) (by kernel_rfl) (by kernel_rfl) (fun _ _ _ h => h) (Or.inl ⟨by first | rfl | go_simp, fun wx hx => by obtain ⟨e0, e1, e2, e3, e4, e5⟩ := hx; go_simp⟩) hS4 ?_
                    try simp only [Act.put, List.getElem_toArray, List.getElem_cons_zero, List.getElem_cons_succ, List.setIfInBounds_toArray, List.set_cons_zero, List.set_cons_succ]
                    refine wpAnyH_take (i := 12) (v := .pointer (some ⟨wr.heap.size, 3, none⟩)) rfl (by kernel_rfl) (by kernel_rfl) (by kernel_rfl) (fun _ _ _ h => h) (Or.inl ⟨by first | rfl | go_simp, fun wx hx => by obtain ⟨e0, e1, e2, e3, e4, e5⟩ := hx; go_simp⟩) hS4 ?_
                    try simp only [Act.put, List.getElem_toArray, List.getElem_cons_zero, List.getElem_cons_succ, List.setIfInBounds_toArray, List.set_cons_zero, List.set_cons_succ]
                    refine wpAnyH_take (i := 13) (v := .int .i64 (B : Int)) rfl (by kernel_rfl) (by kernel_rfl) (by kernel_rfl) (fun _ _ _ h => h) (Or.inl ⟨by first | rfl | go_simp, fun wx hx => by obtain ⟨e0, e1, e2, e3, e4, e5⟩ := hx; go_simp⟩) hS4 ?_
                    try simp only [Act.put, List.getElem_toArray, List.getElem_cons_zero, List.getElem_cons_succ, List.setIfInBounds_toArray, List.set_cons_zero, List.set_cons_succ]
                    refine wpAnyH_take (i := 14) (v := .pointer (some ⟨wr.heap.size, 4, none⟩)) rfl (by kernel_rfl) (by kernel_rfl) (by kernel_rfl) (fun _ _ _ h => h) (Or.inl ⟨by first | rfl | go_simp, fun wx hx => by obtain ⟨e0, e1, e2, e3, e4, e5⟩ := hx; go_simp⟩) hS4 ?_
                    try simp only [Act.put, List.getElem_toArray, List.getElem_cons_zero, List.getElem_cons_succ, List.setIfInBounds_toArray, List.set_cons_zero, List.set_cons_succ]
                    refine wpAnyH_take (i := 15) (v := .int .i64 (U : Int)) rfl (by kernel_rfl) (by kernel_rfl) (by kernel_rfl) (fun _ _ _ h => h) (Or.inl ⟨by first | rfl | go_simp, fun wx hx => by obtain ⟨e0, e1, e2, e3, e4, e5⟩ := hx; go_simp⟩) hS4 ?_
                    try simp only [Act.put, List.getElem_toArray, List.getElem_cons_zero, List.getElem_cons_succ, List.setIfInBounds_toArray, List.set_cons_zero, List.set_cons_succ]
                    refine wpAnyH_take (i := 16) (v := .int .i64 ((B : Int) + (U : Int))) rfl (by kernel_rfl) (by kernel_rfl) (by kernel_rfl) (fun _ _ _ h => h) (Or.inl ⟨by first | rfl | go_simp, fun wx hx => by obtain ⟨e0, e1, e2, e3, e4, e5⟩ := hx; go_simp; exact wrapI _ (by omega) (by omega)⟩) hS4 ?_
                    try simp only [Act.put, List.getElem_toArray, List.getElem_cons_zero, List.getElem_cons_succ, List.setIfInBounds_toArray, List.set_cons_zero, List.set_cons_succ]
                    refine wpAnyH_take (i := 17) (v := .slice (some ⟨b, o2, none⟩) U (c1 - B)) rfl (by kernel_rfl) (by kernel_rfl) (by kernel_rfl) (fun _ _ _ h => h) (Or.inl ⟨by first | rfl | go_simp, fun wx hx => by obtain ⟨e0, e1, e2, e3, e4, e5⟩ := hx; rw [HOa.out]; by_cases hq : c1 = B <;> simp only [hq, if_true, if_false] <;> go_simp <;> rw [if_pos ⟨by omega, by omega⟩, if_pos (by omega), show ((B : Int) + (U : Int)).toNat - B = U by omega]⟩) hS4 ?_
                    try simp only [Act.put, List.getElem_toArray, List.getElem_cons_zero, List.getElem_cons_succ, List.setIfInBounds_toArray, List.set_cons_zero, List.set_cons_succ]
                    refine wpAnyH_take (i := 18) (v := .int .i64 (deep : Int)) rfl (by kernel_rfl) (by kernel_rfl) (by kernel_rfl) (fun _ _ _ h => h) (Or.inl ⟨by first | rfl | go_simp, fun wx hx => by obtain ⟨e0, e1, e2, e3, e4, e5⟩ := hx; go_simp⟩) hS4 ?_
                    try simp only [Act.put, List.getElem_toArray, List.getElem_cons_zero, List.getElem_cons_succ, List.setIfInBounds_toArray, List.set_cons_zero, List.set_cons_succ]
                    refine wpAnyH_take (i := 19) (v := .int .i64 ((deep : Int) + 1)) rfl (by kernel_rfl) (by kernel_rfl) (by kernel_rfl) (fun _ _ _ h => h) (Or.inl ⟨by first | rfl | go_simp, fun wx hx => by obtain ⟨e0, e1, e2, e3, e4, e5⟩ := hx; go_simp; exact wrapI _ (by omega) (by omega)⟩) hS4 ?_
                    try simp only [Act.put, List.getElem_toArray, List.getElem_cons_zero, List.getElem_cons_succ, List.setIfInBounds_toArray, List.set_cons_zero, List.set_cons_succ]
                    refine wpAnyH_ready (rs := [20]) (by kernel_rfl) (by simp) ?_
                    refine AllReadyH.cons rfl (fun K hK => ?_) AllReadyH.nil
                    rw [if_pos (by first | rfl | go_simp)]
                    go_wp2_with (go_at_call 19; refine (C2.out _ B4.out.1).mono ?_; rintro e w5 ⟨rfl, hb6⟩; have B5 := hideP (And.intro (below_more B4.out.1 hb6 B4.out.1.size) (below_more B4.out.2 hb6 B4.out.2.size)); clear hb6)
                    refine hK.out _ _ (Q.out _ B5.out.2) (fun hS5 => ?_)
                    try simp only [Act.put, List.getElem_toArray, List.getElem_cons_zero, List.getElem_cons_succ, List.setIfInBounds_toArray, List.set_cons_zero, List.set_cons_succ]
                    refine wpAnyH_take (i := 21) (v := .bool false) rfl (by kernel_rfl) (by kernel_rfl) (by kernel_rfl) (fun _ _ _ h => h) (Or.inl ⟨by first | rfl | go_simp, fun wx hx => by obtain ⟨e0, e1, e2, e3, e4, e5⟩ := hx; go_simp⟩) hS5 ?_
                    try simp only [Act.put, List.getElem_toArray, List.getElem_cons_zero, List.getElem_cons_succ, List.setIfInBounds_toArray, List.set_cons_zero, List.set_cons_succ]
                    refine wpAnyH_take (i := 22) (v := .bool false) rfl (by kernel_rfl) (by kernel_rfl) (by kernel_rfl) (fun _ _ _ h => h) (Or.inl ⟨by first | rfl | go_simp, fun wx hx => by obtain ⟨e0, e1, e2, e3, e4, e5⟩ := hx; go_simp⟩) hS5 ?_
                    try simp only [Act.put, List.getElem_toArray, List.getElem_cons_zero, List.getElem_cons_succ, List.setIfInBounds_toArray, List.set_cons_zero, List.set_cons_succ]
                    refine wpAnyH_take (i := 23) (v := .bool false) rfl (by kernel_rfl) (by kernel_rfl) (by kernel_rfl) (fun _ _ _ h => h) (Or.inl ⟨by first | rfl | go_simp, fun wx hx => by obtain ⟨e0, e1, e2, e3, e4, e5⟩ := hx; go_simp⟩) hS5 ?_
                    try simp only [Act.put, List.getElem_toArray, List.getElem_cons_zero, List.getElem_cons_succ, List.setIfInBounds_toArray, List.set_cons_zero, List.set_cons_succ]
                    refine wpAnyH_take (i := 24) (v := .slice (some ⟨b, o1, none⟩) (M) (c1)) rfl (by kernel_rfl) (by kernel_rfl) (by kernel_rfl) (fun _ _ _ h => h) (Or.inl ⟨by first | rfl | go_simp, fun wx hx => by obtain ⟨e0, e1, e2, e3, e4, e5⟩ := hx; go_simp⟩) hS5 ?_
                    try simp only [Act.put, List.getElem_toArray, List.getElem_cons_zero, List.getElem_cons_succ, List.setIfInBounds_toArray, List.set_cons_zero, List.set_cons_succ]
                    refine wpAnyH_take (i := 25) (v := .pointer (some ⟨wr.heap.size, 3, none⟩)) rfl (by kernel_rfl) (by kernel_rfl) (by kernel_rfl) (fun _ _ _ h => h) (Or.inl ⟨by first | rfl | go_simp, fun wx hx => by obtain ⟨e0, e1, e2, e3, e4, e5⟩ := hx; go_simp⟩) hS5 ?_
                    try simp only [Act.put, List.getElem_toArray, List.getElem_cons_zero, List.getElem_cons_succ, List.setIfInBounds_toArray, List.set_cons_zero, List.set_cons_succ]
                    refine wpAnyH_take (i := 26) (v := .int .i64 (B : Int)) rfl (by kernel_rfl) (by kernel_rfl) (by kernel_rfl) (fun _ _ _ h => h) (Or.inl ⟨by first | rfl | go_simp, fun wx hx => by obtain ⟨e0, e1, e2, e3, e4, e5⟩ := hx; go_simp⟩) hS5 ?_
                    try simp only [Act.put, List.getElem_toArray, List.getElem_cons_zero, List.getElem_cons_succ, List.setIfInBounds_toArray, List.set_cons_zero, List.set_cons_succ]
                    refine wpAnyH_take (i := 27) (v := .pointer (some ⟨wr.heap.size, 4, none⟩)) rfl (by kernel_rfl) (by kernel_rfl) (by kernel_rfl) (fun _ _ _ h => h) (Or.inl ⟨by first | rfl | go_simp, fun wx hx => by obtain ⟨e0, e1, e2, e3, e4, e5⟩ := hx; go_simp⟩) hS5 ?_
                    try simp only [Act.put, List.getElem_toArray, List.getElem_cons_zero, List.getElem_cons_succ, List.setIfInBounds_toArray, List.set_cons_zero, List.set_cons_succ]
                    refine wpAnyH_take (i := 28) (v := .int .i64 (U : Int)) rfl (by kernel_rfl) (by kernel_rfl) (by kernel_rfl) (fun _ _ _ h => h) (Or.inl ⟨by first | rfl | go_simp, fun wx hx => by obtain ⟨e0, e1, e2, e3, e4, e5⟩ := hx; go_simp⟩) hS5 ?_
                    try simp only [Act.put, List.getElem_toArray, List.getElem_cons_zero, List.getElem_cons_succ, List.setIfInBounds_toArray, List.set_cons_zero, List.set_cons_succ]
                    refine wpAnyH_take (i := 29) (v := .int .i64 ((B : Int) + (U : Int))) rfl (by kernel_rfl) (by kernel_rfl) (by kernel_rfl) (fun _ _ _ h => h) (Or.inl ⟨by first | rfl | go_simp, fun wx hx => by obtain ⟨e0, e1, e2, e3, e4, e5⟩ := hx; go_simp; exact wrapI _ (by omega) (by omega)⟩) hS5 ?_
                    try simp only [Act.put, List.getElem_toArray, List.getElem_cons_zero, List.getElem_cons_succ, List.setIfInBounds_toArray, List.set_cons_zero, List.set_cons_succ]
                    refine wpAnyH_take (i := 30) (v := .agg #[.int .i64 zk, .int .i64 zc, .int .i64 zh, .int .i64 (B : Int), .int .i64 (U : Int), .int .i64 (D : Int)]) rfl (by kernel_rfl) (by kernel_rfl) (by kernel_rfl) (fun _ _ _ h => h) (Or.inl ⟨by first | rfl | go_simp, fun wx hx => by obtain ⟨e0, e1, e2, e3, e4, e5⟩ := hx; go_simp⟩) hS5 ?_
                    try simp only [Act.put, List.getElem_toArray, List.getElem_cons_zero, List.getElem_cons_succ, List.setIfInBounds_toArray, List.set_cons_zero, List.set_cons_succ]
                    refine wpAnyH_take (i := 33) (v := .int .i64 (deep : Int)) rfl (by kernel_rfl) (by kernel_rfl) (by kernel_rfl) (fun _ _ _ h => h) (Or.inl ⟨by first | rfl | go_simp, fun wx hx => by obtain ⟨e0, e1, e2, e3, e4, e5⟩ := hx; go_simp⟩) hS5 ?_
                    try simp only [Act.put, List.getElem_toArray, List.getElem_cons_zero, List.getElem_cons_succ, List.setIfInBounds_toArray, List.set_cons_zero, List.set_cons_succ]
                    refine wpAnyH_take (i := 34) (v := .int .i64 ((deep : Int) + 1)) rfl (by kernel_rfl) (by kernel_rfl) (by kernel_rfl) (fun _ _ _ h => h) (Or.inl ⟨by first | rfl | go_simp, fun wx hx => by obtain ⟨e0, e1, e2, e3, e4, e5⟩ := hx; go_simp; exact wrapI _ (by omega) (by omega)⟩) hS5 ?_
                    try simp only [Act.put, List.getElem_toArray, List.getElem_cons_zero, List.getElem_cons_succ, List.setIfInBounds_toArray, List.set_cons_zero, List.set_cons_succ]
                    refine wpAnyH_ready (rs := [31]) (by kernel_rfl) (by simp) ?_
                    refine AllReadyH.cons rfl (fun K hK => ?_) AllReadyH.nil
                    rw [if_pos (by first | rfl | go_simp)]
                    go_wp2_with (go_at_call 28; refine (CK2.out _ B5.out.1).mono ?_; rintro e w6 ⟨rfl, hb6⟩; have B6 := hideP (And.intro (below_more B5.out.1 hb6 B5.out.1.size) (below_more B5.out.2 hb6 B5.out.2.size)); clear hb6)
                    refine hK.out _ _ (Q.out _ B6.out.2) (fun hS6 => ?_)
                    try simp only [Act.put, List.getElem_toArray, List.getElem_cons_zero, List.getElem_cons_succ, List.setIfInBounds_toArray, List.set_cons_zero, List.set_cons_succ]
                    refine wpAnyH_take (i := 32) (v := .slice (some ⟨b, o3, none⟩) D (c1 - (B + U))) rfl (by kernel_rfl) (by kernel_rfl) (by kernel_rfl) (fun _ _ _ h => h) (Or.inl ⟨by first | rfl | go_simp, fun wx hx => by obtain ⟨e0, e1, e2, e3, e4, e5⟩ := hx; rw [HOb.out]; by_cases hq : c1 = B + U <;> simp only [hq, if_true, if_false] <;> go_simp <;> rw [if_pos ⟨by omega, by omega⟩, if_pos ⟨by omega, by omega⟩, show ((B : Int) + (U : Int)).toNat = B + U by omega, show ((B : Int) + (U : Int) + (D : Int)).toNat - (B + U) = D by omega] <;> simp [hq]⟩) hS6 ?_
                    try simp only [Act.put, List.getElem_toArray, List.getElem_cons_zero, List.getElem_cons_succ, List.setIfInBounds_toArray, List.set_cons_zero, List.set_cons_succ]
                    refine wpAnyH_ready (rs := [35]) (by kernel_rfl) (by simp) ?_
                    refine AllReadyH.cons rfl (fun K hK => ?_) AllReadyH.nil
                    rw [if_pos (by first | rfl | go_simp)]
                    go_wp2_with (go_at_call 19; refine (C3.out _ B6.out.1).mono ?_; rintro e w7 ⟨rfl, hb6⟩; have B7 := hideP (And.intro (below_more B6.out.1 hb6 B6.out.1.size) (below_more B6.out.2 hb6 B6.out.2.size)); clear hb6)
                    refine hK.out _ _ (Q.out _ B7.out.2) (fun hS7 => ?_)
                    try simp only [Act.put, List.getElem_toArray, List.getElem_cons_zero, List.getElem_cons_succ, List.setIfInBounds_toArray, List.set_cons_zero, List.set_cons_succ]
                    refine wpAnyH_take (i := 36) (v := .bool (!p3)) rfl (by kernel_rfl) (by kernel_rfl) (by kernel_rfl) (fun _ _ _ h => h) (Or.inl ⟨by first | rfl | go_simp, fun wx hx => by obtain ⟨e0, e1, e2, e3, e4, e5⟩ := hx; go_simp⟩) hS7 ?_
                    try simp only [Act.put, List.getElem_toArray, List.getElem_cons_zero, List.getElem_cons_succ, List.setIfInBounds_toArray, List.set_cons_zero, List.set_cons_succ]
                    refine wpAnyH_take (i := 37) (v := .bool (!p3)) rfl (by kernel_rfl) (by kernel_rfl) (by kernel_rfl) (fun _ _ _ h => h) (Or.inl ⟨by first | rfl | go_simp, fun wx hx => by obtain ⟨e0, e1, e2, e3, e4, e5⟩ := hx; go_simp⟩) hS7 ?_
                    try simp only [Act.put, List.getElem_toArray, List.getElem_cons_zero, List.getElem_cons_succ, List.setIfInBounds_toArray, List.set_cons_zero, List.set_cons_succ]
                    refine wpAnyH_done (by kernel_rfl) ?_ _
                    clear hK
                    cases p3
                    · have HE : Hid (false = R) := hideP (by rw [HOK.out]; rfl)
                      go_wp2
                      go_ret
                      exact ⟨retB HE.out, B7.out.1⟩
                    · have HN : Hid ((decide (zk = 3) = false ∨ twoB ((xs.drop (i + 1)).take B) = true) → ok (xs.drop (i + 1 + (B + U + D))) deep = R) := hideP (fun hh => by
                        rw [HOK.out]
                        rcases hh with hh | hh
                        · rw [hh]; simp
                        · rw [hh]; simp)
                      by_cases hk3 : zk = 3
                      · have HK3 := hideP hk3
                        obtain ⟨tw, htw⟩ : ∃ t, t = twoB ((xs.drop (i + 1)).take B) := ⟨_, rfl⟩
                        have CT : Hid (∀ W, Below w.heap.size w W → Calls Try.prog 29 #[.slice (some ⟨b, o1, none⟩) B c1] W fun e w' => e = .returned (.bool tw) ∧ Below W.heap.size W w') := hideP (fun W hW => by rw [htw]; exact HTW.out rfl W hW)
                        have HT := hideP htw
                        clear htw
                        subst hk3
                        obtain ⟨d0, d1, d2, d3, d4, d5⟩ := Q.out w7 B7.out.2
                        go_wp2_with fail
                        refine (CT.out _ B7.out.1).mono ?_
                        rintro e w8 ⟨rfl, hb8⟩
                        have B8 := hideP (And.intro (below_more B7.out.1 hb8 B7.out.1.size) (below_more B7.out.2 hb8 B7.out.2.size))
                        clear hb8 d0 d1 d2 d3 d4 d5
                        cases tw
                        · have HE : Hid (false = R) := hideP (by rw [HOK.out, ← HT.out]; simp)
                          go_wp2
                          go_ret
                          exact ⟨retB HE.out, B8.out.1⟩
                        · obtain ⟨d0, d1, d2, d3, d4, d5⟩ := Q.out w8 B8.out.2
                          go_wp2_with fail
                          refine (CK2.out _ B8.out.1).mono ?_
                          rintro e w9 ⟨rfl, hb9⟩
                          have B9 := hideP (below_more B8.out.1 hb9 B8.out.1.size)
                          clear hb9 d0 d1 d2 d3 d4 d5
                          go_wp2
                          go_roundw
                          case rel => exact ⟨i + 1 + (B + U + D), by omega, congrArg _ (by omega), hideP (HN.out (.inr HT.out.symm)), B9⟩
                          case measure => simp [intOf]; omega
                      · have hk4 : (zk == 3) = false := by simp [hk3]
                        have HK3 := hideP hk3
                        obtain ⟨d0, d1, d2, d3, d4, d5⟩ := Q.out w7 B7.out.2
                        go_wp2_with fail
                        refine (CK2.out _ B7.out.1).mono ?_
                        rintro e w9 ⟨rfl, hb9⟩
                        have B9 := hideP (below_more B7.out.1 hb9 B7.out.1.size)
                        clear hb9 d0 d1 d2 d3 d4 d5
                        go_wp2
                        go_roundw
                        case rel => exact ⟨i + 1 + (B + U + D), by omega, congrArg _ (by omega), hideP (HN.out (.inl (by simp [HK3.out]))), B9⟩
                        case measure => simp [intOf]; omega
        · have hii : ¬ (i : Int) < (n : Int) := by omega
          have HE : Hid (true = R) := hideP (by rw [← HO.out, List.drop_eq_nil_of_le (by rw [HL.out]; omega), ok_nil])
          go_wp2
          go_ret
          exact ⟨retB HE.out, HB.out⟩
end Go.Proofs.Ytfcfihlkckdmbaa
